
/-
  The developers' frames: what each function of the face answers, and what it leaves in memory.
-/
import Derived.Test.YtbkpndgadgafiacFramesA
namespace Go.Proofs.Ytbkpndgadgafiac
open Go.RowKit Go.Sort
set_option linter.unusedVariables false

theorem frTaken_any {b : Nat} {S : Pg.Fs} {F : Nat → Prop} (k : Int) (w : World) (h : FrAt w b S F) :
    Calls Try.prog 42 #[.pointer (some ⟨b, 0, none⟩), .int .i64 k] w fun e w' => e = .returned (.bool (S.has k)) ∧ Below w.heap.size w w' := by
  obtain ⟨g, vb, h, ok, rfl⟩ := h
  exact below_of_same (taken_raw k w h ok)
theorem frFree_any {b : Nat} {S : Pg.Fs} {F : Nat → Prop} (w : World) (h : FrAt w b S F) :
    Calls Try.prog 31 #[.pointer (some ⟨b, 0, none⟩)] w fun e w' => e = .returned (.int .i64 S.free) ∧ Below w.heap.size w w' := by
  obtain ⟨g, vb, h, ok, rfl⟩ := h
  exact free_raw w h ok

def used9 : List Value := [.bool true, .int .u64 0, .int .u64 0, .int .u64 0, .int .u64 0, .int .u64 0, .int .u64 0, .int .u64 0, .int .u64 0]
theorem used9_at : ∀ j : Nat, j < 8 → used9[j + 1]? = some (.int .u64 0)
  | 0, _ | 1, _ | 2, _ | 3, _ | 4, _ | 5, _ | 6, _ | 7, _ => rfl
  | j + 8, hj => absurd hj (by omega)

theorem frTake_any {b : Nat} {S : Pg.Fs} {F : Nat → Prop} (w : World) (h : FrAt w b S F) :
    Calls Try.prog 43 #[.pointer (some ⟨b, 0, none⟩)] w fun e w' => e = .returned (.int .i64 S.takeN) ∧ ∃ F', FrAt w' b S.take F' ∧ But F w w' ∧ ∀ k, F' k → F k ∨ w.heap.size ≤ k := by
  obtain ⟨g, vb, h, ok, rfl⟩ := h
  have HN := next_raw w h ok
  cases hp : S.pick with
  | none =>
    have e1 : S.takeN = -1 := by simp [Pg.Fs.takeN, hp]
    have e2 : S.picked = S ∧ S.take = S := by
      unfold Pg.Fs.pick at hp
      cases hb : S.back.getLast? with
      | some k => rw [hb] at hp; cases hp
      | none =>
        rw [hb] at hp
        by_cases hn : S.next < S.n
        · simp [hn] at hp
        · simp [Pg.Fs.picked, Pg.Fs.take, hb, hn]
    rw [e1] at HN ⊢
    rw [e2.1] at HN
    rw [e2.2]
    clear e1 e2 h
    go_enter Try.func43, Try.ntmps43
    go_wp2_with fail
    refine HN.mono ?_
    rintro e w1 ⟨rfl, vb1, h1, hb1, hv1⟩
    have fin : Hid _ := FrAt.next h1 ok hb1 (.inl hv1)
    clear h1 hb1 hv1
    go_wp2_with fail
    go_ret
    exact ⟨rfl, fin.out⟩
  | some k =>
    have e1 : S.takeN = (k : Int) := by simp [Pg.Fs.takeN, hp]
    have hk := (ok.pick_lt hp).1
    have e2 : S.take = { S.picked with used := k :: S.picked.used, word := Pg.Fs.clear S.picked.word k } ∧ S.picked.n = S.n := by
      unfold Pg.Fs.pick at hp
      cases hb : S.back.getLast? with
      | some j =>
        rw [hb] at hp
        cases hp
        simp [Pg.Fs.picked, Pg.Fs.take, hb]
      | none =>
        rw [hb] at hp
        by_cases hn : S.next < S.n
        · simp [hn] at hp
          subst hp
          simp [Pg.Fs.picked, Pg.Fs.take, hb, hn]
        · simp [hn] at hp
    have hs := ok.small
    have i0 : (0 : Int) ≤ (k : Int) := by omega
    have i1 : (k : Int) < (S.n : Int) := by omega
    have i2 : ((k : Int) == -1) = false := by simp
    rw [e1] at HN ⊢
    clear e1 h
    go_enter Try.func43, Try.ntmps43
    go_wp2_with fail
    refine HN.mono ?_
    rintro e w1 ⟨rfl, vb1, h1, hb1, hv1⟩
    have hc0 := h1.c0
    rw [e2.2] at hc0
    have hf0 := h1.f0
    have hkp : k < S.picked.n := by rw [e2.2]; exact hk
    have t0 := h1.ci k hkp
    have t1 := h1.cw k 0 hkp (by omega)
    have t2 := h1.cw k 1 hkp (by omega)
    have t3 := h1.cw k 2 hkp (by omega)
    have t4 := h1.cw k 3 hkp (by omega)
    have t5 := h1.cw k 4 hkp (by omega)
    have t6 := h1.cw k 5 hkp (by omega)
    have t7 := h1.cw k 6 hkp (by omega)
    have t8 := h1.cw k 7 hkp (by omega)
    have fin : Hid (∃ F', FrAt (w1.setCells g (k * 9) used9) b S.take F' ∧ But (frF b g vb) w (w1.setCells g (k * 9) used9) ∧ ∀ k, F' k → frF b g vb k ∨ w.heap.size ≤ k) := by
      refine FrAt.next (vb' := vb1) ?_ ok.take (But.setCells g (.inr (.inr (.inl rfl))) _ _ _ hb1) (.inl hv1)
      rw [e2.1]
      exact h1.fill hkp used9 rfl rfl used9_at
    clear h1 hb1 hv1 HN e2
    go_wp2_with fail
    go_ret
    exact ⟨rfl, fin.out⟩

theorem infoIntF : (Try.prog.info? 3).map (fun i => (i.zero, i.size, i.bytes)) = some (some (.int .i64 0), 1, 8) := by kernel_rfl

theorem give_yes {b g : Nat} {vb : Value} {S : Pg.Fs} (m : Nat) (w : World) (h : FrRaw w b g vb S) (ok : S.Ok) (hh : S.has (m : Int) = true) :
    Calls Try.prog 27 #[.pointer (some ⟨b, 0, none⟩), .int .i64 (m : Int)] w fun e w' => e = .returned (.bool true) ∧ ∃ F', FrAt w' b (S.give (m : Int)) F' ∧ But (frF b g vb) w w' ∧ ∀ k, F' k → frF b g vb k ∨ w.heap.size ≤ k := by
  have hc0 := h.c0
  have hfb := h.fb
  have hf0 := h.f0
  have hs := ok.small
  have n0 := h.n0
  have hn : m < S.n := by have := ok.has_lt hh; omega
  have hi := h.ci m hn
  have i0 : (0 : Int) ≤ (m : Int) := by omega
  have i1 : (m : Int) < (S.n : Int) := by omega
  have hT := taken_raw (m : Int) w h ok
  rw [hh] at hT
  have hl : ∀ j, decide (j ∈ S.used.erase m) = if j = m then false else S.inn j := by
    intro j
    have hnd : S.used.Nodup := (List.nodup_append.1 ok.nodup).1
    by_cases e : j = m
    · simp [e, hnd.mem_erase_iff]
    · simp [e, hnd.mem_erase_iff, Pg.Fs.inn]
  have hM := h.mark hn false (S.used.erase m) hl
  have hbd : S.back.length ≤ 128 := by have := ok.len; have := ok.top; omega
  have hown := hM.own
  have hc1 := hM.c1
  have hlb := hM.lb
  obtain ⟨q0, hq, hz0, hz1, hz2⟩ := info_parts infoIntF
  have HM : Hid _ := hM
  have HX : Hid _ := hh
  clear hM h hl hh
  go_enter Try.func27, Try.ntmps27
  go_wp2_with (first
    | (go_at_call 42; refine hT.mono ?_; rintro e w' ⟨rfl, hw⟩; subst w')
    | (at_builtin; refine wpList_append_lies _ rfl _ _ 30 rfl 0 3 q0 (.int .i64 0) 1 8 Try.underlying30 hq hz0 hz1 hz2 rfl (by decide) _ _ _ rfl (hown.alloc _) ⟨w.heap.size, 0, none⟩ 1 1 [.int .i64 (m : Int)] rfl rfl ?c1 ?c2 (by decide) ?c3 ?c4 (Nat.zero_le _) (w.heap.size + 1) (by simp) ?_))
  case c1 =>
    intro j u hj
    match j, hj with
    | 0, hj => simp at hj; subst hj; simp [Addr.add, go_sem]
  case c2 => intro u hu; simp at hu; subst hu; rfl
  case c3 => unfold maxLen; omega
  case c4 => omega
  intro g' cap w3 hown3 hgrow hat hlt
  have h1 := HM.out
  have hk : ∀ k, k = b ∨ k = g → w3.heap[k]? = (w.setCell ⟨g, m * 9, none⟩ (.bool false)).heap[k]? := by
    intro k hk
    have hkl : k < (w.setCell ⟨g, m * 9, none⟩ (.bool false)).heap.size := by
      rcases hk with rfl | rfl
      · exact h1.lb
      · exact h1.l0
    have hkv : some k ≠ vb.ownBlock := by
      rcases hk with rfl | rfl
      · exact fun e => h1.vbb e.symm
      · exact fun e => h1.vb0 e.symm
    rw [hgrow.block k (by simp at hkl ⊢; omega) hkv]
    exact Below.heap_alloc _ _ _ hkl
  have hsz : (w.setCell ⟨g, m * 9, none⟩ (.bool false)).heap.size = w.heap.size := by simp
  have hne : ∀ k, k = b ∨ k = g → (Value.slice (some ⟨g', 0, none⟩) (S.back.length + 1) cap).ownBlock ≠ some k := by
    intro k hk e
    have e : g' = k := by simpa [Value.ownBlock] using e
    subst e
    rcases hat with hat | hat
    · rcases hk with rfl | rfl
      · exact h1.vbb hat
      · exact h1.vb0 hat
    · have := h1.lb; have := h1.l0
      omega
  have hG := h1.grow (w' := w3) (l := S.back ++ [m]) (by have := hgrow.size; simp at this ⊢; omega) hk (by simpa [nats] using hown3) (hne g (.inr rfl)) (hne b (.inl rfl))
  have kc : w3.cell? ⟨b, 1, none⟩ = some vb := (World.cell?_of_block (hk b (.inl rfl))).trans h1.c1
  have kf : w3.frozen? ⟨b, 1, none⟩ = false := (World.frozen?_of_block (hk b (.inl rfl))).trans (h1.fb 1)
  have fin : Hid (∃ F', FrAt (w3.setCell ⟨b, 1, none⟩ (.slice (some ⟨g', 0, none⟩) (S.back.length + 1) cap)) b (S.give (m : Int)) F' ∧ But (frF b g vb) w (w3.setCell ⟨b, 1, none⟩ (.slice (some ⟨g', 0, none⟩) (S.back.length + 1) cap)) ∧ ∀ k, F' k → frF b g vb k ∨ w.heap.size ≤ k) := by
    have e : S.give (m : Int) = { { S with used := S.used.erase m } with back := S.back ++ [m] } := by
      simp [Pg.Fs.give, HX.out]
    refine FrAt.next (vb' := .slice (some ⟨g', 0, none⟩) (S.back.length + 1) cap) (by rw [e]; exact hG) (ok.give _) ?_ ?_
    · refine (((((But.refl _ w).setCell (.inr (.inr (.inl rfl))) _).alloc _).grown hgrow fun k hk => .inr (.inr (.inr hk)))).setCell (.inr (.inl rfl)) _
    · rcases hat with hat | hat
      · exact .inl hat.symm
      · exact .inr ⟨g', rfl, by omega⟩
  clear hk hne hG h1 hown3 hgrow hown hc1 hat hlt
  go_wp2_with fail
  go_ret
  exact ⟨rfl, fin.out⟩

theorem frGive_any {b : Nat} {S : Pg.Fs} {F : Nat → Prop} (k : Int) (w : World) (h : FrAt w b S F) :
    Calls Try.prog 27 #[.pointer (some ⟨b, 0, none⟩), .int .i64 k] w fun e w' => e = .returned (.bool (S.has k)) ∧ ∃ F', FrAt w' b (S.give k) F' ∧ But F w w' ∧ ∀ k, F' k → F k ∨ w.heap.size ≤ k := by
  obtain ⟨g, vb, h, ok, rfl⟩ := h
  cases hh : S.has k
  · have hT := taken_raw k w h ok
    rw [hh] at hT
    have e : S.give k = S := by simp [Pg.Fs.give, hh]
    rw [e]
    have fin : Hid _ := FrAt.next h ok (But.refl (frF b g vb) w) (.inl rfl)
    clear h
    go_enter Try.func27, Try.ntmps27
    go_wp2_with (go_at_call 42; refine hT.mono ?_; rintro e w' ⟨rfl, hw⟩; subst w')
    go_ret
    exact ⟨rfl, fin.out⟩
  · obtain ⟨m, rfl⟩ := Int.eq_ofNat_of_zero_le (ok.has_lt hh).1
    exact give_yes m w h ok hh

theorem frLoad_same {b : Nat} {S : Pg.Fs} {F : Nat → Prop} (k i : Int) (w : World) (h : FrAt w b S F) :
    Calls Try.prog 45 #[.pointer (some ⟨b, 0, none⟩), .int .i64 k, .int .i64 i] w fun e w' => e = .returned (.tuple #[.int .u64 (S.load k i), .bool (S.at' k i)]) ∧ w' = w := by
  obtain ⟨g, vb, h, ok, rfl⟩ := h
  have HW := word_raw k i w h ok
  cases hh : S.at' k i
  · have e : S.load k i = 0 := by simp [Pg.Fs.load, hh]
    rw [e]
    rw [hh] at HW
    simp only [cond] at HW
    clear h
    go_enter Try.func45, Try.ntmps45
    go_wp2_with (go_at_call 81; refine HW.mono ?_; rintro e w' ⟨rfl, hw⟩; subst w')
    go_ret2
    exact ⟨rfl, rfl⟩
  · have e : S.load k i = S.word k.toNat i.toNat := by simp [Pg.Fs.load, hh]
    rw [e]
    rw [hh] at HW
    simp only [cond] at HW
    obtain ⟨k0, k1, i0, i8, _⟩ := ok.at_lt hh
    have hc := h.cw k.toNat i.toNat (by omega) (by omega)
    clear h
    generalize S.word k.toNat i.toNat = v at *
    generalize k.toNat * 9 + 1 + i.toNat = o at *
    go_enter Try.func45, Try.ntmps45
    go_wp2_with (go_at_call 81; refine HW.mono ?_; rintro e w' ⟨rfl, hw⟩; subst w')
    go_ret2
    exact ⟨rfl, rfl⟩

theorem frLoad_any {b : Nat} {S : Pg.Fs} {F : Nat → Prop} (k i : Int) (w : World) (h : FrAt w b S F) :
    Calls Try.prog 45 #[.pointer (some ⟨b, 0, none⟩), .int .i64 k, .int .i64 i] w fun e w' => e = .returned (.tuple #[.int .u64 (S.load k i), .bool (S.at' k i)]) ∧ Below w.heap.size w w' := below_of_same (frLoad_same k i w h)

theorem frStore_any {b : Nat} {S : Pg.Fs} {F : Nat → Prop} (k i v : Int) (h0 : 0 ≤ v) (h1 : v < 18446744073709551616) (w : World) (h : FrAt w b S F) :
    Calls Try.prog 46 #[.pointer (some ⟨b, 0, none⟩), .int .i64 k, .int .i64 i, .int .u64 v] w fun e w' => e = .returned (.bool (S.at' k i)) ∧ ∃ F', FrAt w' b (S.store k i v) F' ∧ But F w w' ∧ ∀ k, F' k → F k ∨ w.heap.size ≤ k := by
  obtain ⟨g, vb, h, ok, rfl⟩ := h
  have HW := word_raw k i w h ok
  cases hh : S.at' k i
  · have e : S.store k i v = S := by simp [Pg.Fs.store, hh]
    rw [e]
    rw [hh] at HW
    simp only [cond] at HW
    have fin : Hid _ := FrAt.next h ok (But.refl (frF b g vb) w) (.inl rfl)
    clear h
    go_enter Try.func46, Try.ntmps46
    go_wp2_with (go_at_call 81; refine HW.mono ?_; rintro e w' ⟨rfl, hw⟩; subst w')
    go_ret
    exact ⟨rfl, fin.out⟩
  · have e : S.store k i v = { S with word := Pg.Fs.put S.word k.toNat i.toNat v } := by simp [Pg.Fs.store, hh]
    have ok' := ok.store k i h0 h1
    rw [e] at ok' ⊢
    rw [hh] at HW
    simp only [cond] at HW
    obtain ⟨k0, k1, i0, i8, _⟩ := ok.at_lt hh
    have hc := h.cw k.toNat i.toNat (by omega) (by omega)
    have hf := h.f0 (k.toNat * 9 + 1 + i.toNat)
    have fin : Hid (∃ F', FrAt (w.setCell ⟨g, k.toNat * 9 + 1 + i.toNat, none⟩ (.int .u64 v)) b { S with word := Pg.Fs.put S.word k.toNat i.toNat v } F' ∧ But (frF b g vb) w (w.setCell ⟨g, k.toNat * 9 + 1 + i.toNat, none⟩ (.int .u64 v)) ∧ ∀ k, F' k → frF b g vb k ∨ w.heap.size ≤ k) :=
      FrAt.next (h.put (by omega) (by omega) v) ok' ((But.refl _ w).setCell (.inr (.inr (.inl rfl))) _) (.inl rfl)
    clear h
    generalize k.toNat * 9 + 1 + i.toNat = o at *
    go_enter Try.func46, Try.ntmps46
    go_wp2_with (go_at_call 81; refine HW.mono ?_; rintro e w' ⟨rfl, hw⟩; subst w')
    go_ret
    exact ⟨rfl, fin.out⟩

theorem frNew_bad (n : Int) (hn : n < 0 ∨ 128 < n) (w : World) :
    Calls Try.prog 47 #[.int .i64 n] w fun e w' => e = .returned (.tuple #[.pointer none, .agg #[.int .i64 1, .int .i64 (-1)]]) ∧ Below w.heap.size w w' := by
  by_cases h0 : n < 0
  · go_enter Try.func47, Try.ntmps47
    go_wp2_with fail
    refine bodyPost_ret (v := .tuple #[.pointer none, .agg #[.int .i64 1, .int .i64 (-1)]]) ?_ rfl ⟨rfl, ?_⟩
    · simp [results, Try.results47, go_sem]
    · exact balloc (brefl w) _
  · have h1 : 128 < n := by omega
    go_enter Try.func47, Try.ntmps47
    go_wp2_with fail
    refine bodyPost_ret (v := .tuple #[.pointer none, .agg #[.int .i64 1, .int .i64 (-1)]]) ?_ rfl ⟨rfl, ?_⟩
    · simp [results, Try.results47, go_sem]
    · exact balloc (brefl w) _

theorem infoFrame : (Try.prog.info? 122).map (fun i => (i.zero, i.size, i.bytes)) = some (some (.agg #[.bool false, .int .u64 0, .int .u64 0, .int .u64 0, .int .u64 0, .int .u64 0, .int .u64 0, .int .u64 0, .int .u64 0]), 9, 72) := by kernel_rfl

theorem frNew_any (n : Nat) (hn : n ≤ 128) (w : World) :
    Calls Try.prog 47 #[.int .i64 (n : Int)] w fun e w' => ∃ b F, e = .returned (.tuple #[.pointer (some ⟨b, 0, none⟩), .agg #[.int .i64 0, .int .i64 0]]) ∧ FrAt w' b (Pg.Fs.new n) F ∧ Below w.heap.size w w' ∧ ∀ k, F k → w.heap.size ≤ k := by
  obtain ⟨q0, hq, hz0, hz1, hz2⟩ := info_parts infoFrame
  have m0 : ∀ w : World, (Instr.makeSlice 123 (.int .i64 (n : Int)) (.int .i64 (n : Int))).run Try.prog w = _ := fun w =>
    run_make w 123 122 q0 _ Try.underlying123 hq hz0 .i64 .i64 n n (by omega) (Int.le_refl _) (by rw [hz2]; omega) (by omega)
  rw [hz1] at m0
  simp only [Int.toNat_natCast] at m0
  have d0 : ¬ (n : Int) < 0 := by omega
  have d1 : ¬ (128 : Int) < (n : Int) := by omega
  go_enter Try.func47, Try.ntmps47
  go_wp2_with fail
  refine bodyPost_ret (v := .tuple #[.pointer (some ⟨w.heap.size + 1 + 1, 0, none⟩), .agg #[.int .i64 0, .int .i64 0]]) ?_ rfl ?_
  · simp [results, Try.results47, go_sem]
  refine ⟨w.heap.size + 1 + 1, rfl, frF (w.heap.size + 1 + 1) (w.heap.size + 1) (.slice none 0 0), ⟨w.heap.size + 1, .slice none 0 0, ?_, Pg.Fs.new_ok n hn, rfl⟩, ?_, ?_⟩
  · refine FrRaw.made (t0 := 122) (t2 := 125) ?_ ?_ (by omega)
    · exact (alloc3 w _ _ _).2.2
    · exact (alloc3 w _ _ _).2.1
  · exact balloc (balloc (balloc (brefl w) _) _) _
  · intro k hk
    rcases hk with rfl | rfl | hk
    · omega
    · omega
    · simp [Value.ownBlock] at hk
end Go.Proofs.Ytbkpndgadgafiac
