
/-
  The developers' frames: what each function of the face answers, and what it leaves in memory.
-/
import Derived.Test.YtbkpndgadgafiaeFramesA
namespace Go.Proofs.Ytbkpndgadgafiae
open Go.RowKit Go.Sort
set_option linter.unusedVariables false

theorem frTaken_any {b : Nat} {S : Pg.Fs} {F : Nat → Prop} (k : Int) (w : World) (h : FrAt w b S F) :
    Calls Try.prog 58 #[.pointer (some ⟨b, 0, none⟩), .int .i64 k] w fun e w' => e = .returned (.bool (S.has k)) ∧ Below w.heap.size w w' := by
  obtain ⟨g, vb, h, ok, rfl⟩ := h
  exact below_of_same (taken_raw k w h ok)
def used9 : List Value := [.bool true, .int .u64 0, .int .u64 0, .int .u64 0, .int .u64 0, .int .u64 0, .int .u64 0, .int .u64 0, .int .u64 0]
theorem used9_at : ∀ j : Nat, j < 8 → used9[j + 1]? = some (.int .u64 0)
  | 0, _ | 1, _ | 2, _ | 3, _ | 4, _ | 5, _ | 6, _ | 7, _ => rfl
  | j + 8, hj => absurd hj (by omega)

theorem frTake_any {b : Nat} {S : Pg.Fs} {F : Nat → Prop} (w : World) (h : FrAt w b S F) :
    Calls Try.prog 28 #[.pointer (some ⟨b, 0, none⟩)] w fun e w' => e = .returned (.int .i64 S.takeN) ∧ ∃ F', FrAt w' b S.take F' ∧ But F w w' ∧ ∀ k, F' k → F k ∨ w.heap.size ≤ k := by
  obtain ⟨g, vb, h, ok, rfl⟩ := h
  have HN := next_raw w h ok
  cases hp : S.pick with
  | none =>
    have e1 : S.takeN = -1 := by simp [Pg.Fs.takeN, hp]
    have e2 : S.picked = S ∧ S.take = S := by
      unfold Pg.Fs.pick at hp
      cases hb : S.back.getLast? with
      | some k => rw [hb] at hp; cases hp
      | none =>
        rw [hb] at hp
        by_cases hn : S.next < S.n
        · simp [hn] at hp
        · simp [Pg.Fs.picked, Pg.Fs.take, hb, hn]
    rw [e1] at HN ⊢
    rw [e2.1] at HN
    rw [e2.2]
    clear e1 e2 h
    go_enter Try.func28, Try.ntmps28
    go_wp2_with fail
    refine HN.mono ?_
    rintro e w1 ⟨rfl, vb1, h1, hb1, hv1⟩
    have fin : Hid _ := FrAt.next h1 ok hb1 (.inl hv1)
    clear h1 hb1 hv1
    go_wp2_with fail
    go_ret
    exact ⟨rfl, fin.out⟩
  | some k =>
    have e1 : S.takeN = (k : Int) := by simp [Pg.Fs.takeN, hp]
    have hk := (ok.pick_lt hp).1
    have e2 : S.take = { S.picked with used := k :: S.picked.used, word := Pg.Fs.clear S.picked.word k } ∧ S.picked.n = S.n := by
      unfold Pg.Fs.pick at hp
      cases hb : S.back.getLast? with
      | some j =>
        rw [hb] at hp
        cases hp
        simp [Pg.Fs.picked, Pg.Fs.take, hb]
      | none =>
        rw [hb] at hp
        by_cases hn : S.next < S.n
        · simp [hn] at hp
          subst hp
          simp [Pg.Fs.picked, Pg.Fs.take, hb, hn]
        · simp [hn] at hp
    have hs := ok.small
    have i0 : (0 : Int) ≤ (k : Int) := by omega
    have i1 : (k : Int) < (S.n : Int) := by omega
    have i2 : ((k : Int) == -1) = false := by simp
    rw [e1] at HN ⊢
    clear e1 h
    go_enter Try.func28, Try.ntmps28
    go_wp2_with fail
    refine HN.mono ?_
    rintro e w1 ⟨rfl, vb1, h1, hb1, hv1⟩
    have hc0 := h1.c0
    rw [e2.2] at hc0
    have hf0 := h1.f0
    have hkp : k < S.picked.n := by rw [e2.2]; exact hk
    have t0 := h1.ci k hkp
    have t1 := h1.cw k 0 hkp (by omega)
    have t2 := h1.cw k 1 hkp (by omega)
    have t3 := h1.cw k 2 hkp (by omega)
    have t4 := h1.cw k 3 hkp (by omega)
    have t5 := h1.cw k 4 hkp (by omega)
    have t6 := h1.cw k 5 hkp (by omega)
    have t7 := h1.cw k 6 hkp (by omega)
    have t8 := h1.cw k 7 hkp (by omega)
    have fin : Hid (∃ F', FrAt (w1.setCells g (k * 9) used9) b S.take F' ∧ But (frF b g vb) w (w1.setCells g (k * 9) used9) ∧ ∀ k, F' k → frF b g vb k ∨ w.heap.size ≤ k) := by
      refine FrAt.next (vb' := vb1) ?_ ok.take (But.setCells g (.inr (.inr (.inl rfl))) _ _ _ hb1) (.inl hv1)
      rw [e2.1]
      exact h1.fill hkp used9 rfl rfl used9_at
    clear h1 hb1 hv1 HN e2
    go_wp2_with fail
    go_ret
    exact ⟨rfl, fin.out⟩

theorem infoIntF : (Try.prog.info? 3).map (fun i => (i.zero, i.size, i.bytes)) = some (some (.int .i64 0), 1, 8) := by kernel_rfl

theorem frLoad_same {b : Nat} {S : Pg.Fs} {F : Nat → Prop} (k i : Int) (w : World) (h : FrAt w b S F) :
    Calls Try.prog 59 #[.pointer (some ⟨b, 0, none⟩), .int .i64 k, .int .i64 i] w fun e w' => e = .returned (.tuple #[.int .u64 (S.load k i), .bool (S.at' k i)]) ∧ w' = w := by
  obtain ⟨g, vb, h, ok, rfl⟩ := h
  have HW := word_raw k i w h ok
  cases hh : S.at' k i
  · have e : S.load k i = 0 := by simp [Pg.Fs.load, hh]
    rw [e]
    rw [hh] at HW
    simp only [cond] at HW
    clear h
    go_enter Try.func59, Try.ntmps59
    go_wp2_with (go_at_call 51; refine HW.mono ?_; rintro e w' ⟨rfl, hw⟩; subst w')
    go_ret2
    exact ⟨rfl, rfl⟩
  · have e : S.load k i = S.word k.toNat i.toNat := by simp [Pg.Fs.load, hh]
    rw [e]
    rw [hh] at HW
    simp only [cond] at HW
    obtain ⟨k0, k1, i0, i8, _⟩ := ok.at_lt hh
    have hc := h.cw k.toNat i.toNat (by omega) (by omega)
    clear h
    generalize S.word k.toNat i.toNat = v at *
    generalize k.toNat * 9 + 1 + i.toNat = o at *
    go_enter Try.func59, Try.ntmps59
    go_wp2_with (go_at_call 51; refine HW.mono ?_; rintro e w' ⟨rfl, hw⟩; subst w')
    go_ret2
    exact ⟨rfl, rfl⟩

theorem frLoad_any {b : Nat} {S : Pg.Fs} {F : Nat → Prop} (k i : Int) (w : World) (h : FrAt w b S F) :
    Calls Try.prog 59 #[.pointer (some ⟨b, 0, none⟩), .int .i64 k, .int .i64 i] w fun e w' => e = .returned (.tuple #[.int .u64 (S.load k i), .bool (S.at' k i)]) ∧ Below w.heap.size w w' := below_of_same (frLoad_same k i w h)

theorem frStore_any {b : Nat} {S : Pg.Fs} {F : Nat → Prop} (k i v : Int) (h0 : 0 ≤ v) (h1 : v < 18446744073709551616) (w : World) (h : FrAt w b S F) :
    Calls Try.prog 16 #[.pointer (some ⟨b, 0, none⟩), .int .i64 k, .int .i64 i, .int .u64 v] w fun e w' => e = .returned (.bool (S.at' k i)) ∧ ∃ F', FrAt w' b (S.store k i v) F' ∧ But F w w' ∧ ∀ k, F' k → F k ∨ w.heap.size ≤ k := by
  obtain ⟨g, vb, h, ok, rfl⟩ := h
  have HW := word_raw k i w h ok
  cases hh : S.at' k i
  · have e : S.store k i v = S := by simp [Pg.Fs.store, hh]
    rw [e]
    rw [hh] at HW
    simp only [cond] at HW
    have fin : Hid _ := FrAt.next h ok (But.refl (frF b g vb) w) (.inl rfl)
    clear h
    go_enter Try.func16, Try.ntmps16
    go_wp2_with (go_at_call 51; refine HW.mono ?_; rintro e w' ⟨rfl, hw⟩; subst w')
    go_ret
    exact ⟨rfl, fin.out⟩
  · have e : S.store k i v = { S with word := Pg.Fs.put S.word k.toNat i.toNat v } := by simp [Pg.Fs.store, hh]
    have ok' := ok.store k i h0 h1
    rw [e] at ok' ⊢
    rw [hh] at HW
    simp only [cond] at HW
    obtain ⟨k0, k1, i0, i8, _⟩ := ok.at_lt hh
    have hc := h.cw k.toNat i.toNat (by omega) (by omega)
    have hf := h.f0 (k.toNat * 9 + 1 + i.toNat)
    have fin : Hid (∃ F', FrAt (w.setCell ⟨g, k.toNat * 9 + 1 + i.toNat, none⟩ (.int .u64 v)) b { S with word := Pg.Fs.put S.word k.toNat i.toNat v } F' ∧ But (frF b g vb) w (w.setCell ⟨g, k.toNat * 9 + 1 + i.toNat, none⟩ (.int .u64 v)) ∧ ∀ k, F' k → frF b g vb k ∨ w.heap.size ≤ k) :=
      FrAt.next (h.put (by omega) (by omega) v) ok' ((But.refl _ w).setCell (.inr (.inr (.inl rfl))) _) (.inl rfl)
    clear h
    generalize k.toNat * 9 + 1 + i.toNat = o at *
    go_enter Try.func16, Try.ntmps16
    go_wp2_with (go_at_call 51; refine HW.mono ?_; rintro e w' ⟨rfl, hw⟩; subst w')
    go_ret
    exact ⟨rfl, fin.out⟩

theorem frSwap_any {b : Nat} {S : Pg.Fs} {F : Nat → Prop} (k i old v : Int) (h0 : 0 ≤ v) (h1 : v < 18446744073709551616) (w : World) (h : FrAt w b S F) :
    Calls Try.prog 79 #[.pointer (some ⟨b, 0, none⟩), .int .i64 k, .int .i64 i, .int .u64 old, .int .u64 v] w fun e w' => e = .returned (.bool (S.swaps k i old)) ∧ ∃ F', FrAt w' b (S.swap k i old v) F' ∧ But F w w' ∧ ∀ k, F' k → F k ∨ w.heap.size ≤ k := by
  obtain ⟨g, vb, h, ok, rfl⟩ := h
  have HW := word_raw k i w h ok
  cases hh : S.at' k i
  · have es : S.swaps k i old = false := by simp [Pg.Fs.swaps, hh]
    have e : S.swap k i old v = S := by simp [Pg.Fs.swap, es]
    rw [e, es]
    rw [hh] at HW
    simp only [cond] at HW
    have fin : Hid _ := FrAt.next h ok (But.refl (frF b g vb) w) (.inl rfl)
    clear h
    go_enter Try.func79, Try.ntmps79
    go_wp2_with (go_at_call 51; refine HW.mono ?_; rintro e w' ⟨rfl, hw⟩; subst w')
    go_ret
    exact ⟨rfl, fin.out⟩
  · rw [hh] at HW
    simp only [cond] at HW
    obtain ⟨k0, k1, i0, i8, _⟩ := ok.at_lt hh
    have hc := h.cw k.toNat i.toNat (by omega) (by omega)
    have hf := h.f0 (k.toNat * 9 + 1 + i.toNat)
    by_cases hw : S.word k.toNat i.toNat = old
    · have es : S.swaps k i old = true := by simp [Pg.Fs.swaps, hh, hw]
      have e : S.swap k i old v = { S with word := Pg.Fs.put S.word k.toNat i.toNat v } := by simp [Pg.Fs.swap, es]
      have ok' := ok.swap k i old h0 h1
      rw [e] at ok' ⊢
      rw [es]
      have fin : Hid (∃ F', FrAt (w.setCell ⟨g, k.toNat * 9 + 1 + i.toNat, none⟩ (.int .u64 v)) b { S with word := Pg.Fs.put S.word k.toNat i.toNat v } F' ∧ But (frF b g vb) w (w.setCell ⟨g, k.toNat * 9 + 1 + i.toNat, none⟩ (.int .u64 v)) ∧ ∀ k, F' k → frF b g vb k ∨ w.heap.size ≤ k) :=
        FrAt.next (h.put (by omega) (by omega) v) ok' ((But.refl _ w).setCell (.inr (.inr (.inl rfl))) _) (.inl rfl)
      clear h
      rw [hw] at hc
      generalize k.toNat * 9 + 1 + i.toNat = o at *
      clear hw
      go_enter Try.func79, Try.ntmps79
      go_wp2_with (go_at_call 51; refine HW.mono ?_; rintro e w' ⟨rfl, hw⟩; subst w')
      go_ret
      exact ⟨rfl, fin.out⟩
    · have es : S.swaps k i old = false := by simp [Pg.Fs.swaps, hw]
      have e : S.swap k i old v = S := by simp [Pg.Fs.swap, es]
      rw [e, es]
      have fin : Hid _ := FrAt.next h ok (But.refl (frF b g vb) w) (.inl rfl)
      clear h
      have hne : (S.word k.toNat i.toNat == old) = false := by simpa using hw
      generalize S.word k.toNat i.toNat = x at *
      generalize k.toNat * 9 + 1 + i.toNat = o at *
      clear hw
      go_enter Try.func79, Try.ntmps79
      go_wp2_with (go_at_call 51; refine HW.mono ?_; rintro e w' ⟨rfl, hw⟩; subst w')
      go_ret
      exact ⟨rfl, fin.out⟩

theorem frNew_bad (n : Int) (hn : n < 0 ∨ 128 < n) (w : World) :
    Calls Try.prog 26 #[.int .i64 n] w fun e w' => e = .returned (.tuple #[.pointer none, .agg #[.int .i64 1, .int .i64 (-1)]]) ∧ Below w.heap.size w w' := by
  by_cases h0 : n < 0
  · go_enter Try.func26, Try.ntmps26
    go_wp2_with fail
    refine bodyPost_ret (v := .tuple #[.pointer none, .agg #[.int .i64 1, .int .i64 (-1)]]) ?_ rfl ⟨rfl, ?_⟩
    · simp [results, Try.results26, go_sem]
    · exact balloc (brefl w) _
  · have h1 : 128 < n := by omega
    go_enter Try.func26, Try.ntmps26
    go_wp2_with fail
    refine bodyPost_ret (v := .tuple #[.pointer none, .agg #[.int .i64 1, .int .i64 (-1)]]) ?_ rfl ⟨rfl, ?_⟩
    · simp [results, Try.results26, go_sem]
    · exact balloc (brefl w) _

theorem infoFrame : (Try.prog.info? 122).map (fun i => (i.zero, i.size, i.bytes)) = some (some (.agg #[.bool false, .int .u64 0, .int .u64 0, .int .u64 0, .int .u64 0, .int .u64 0, .int .u64 0, .int .u64 0, .int .u64 0]), 9, 72) := by kernel_rfl

theorem frNew_any (n : Nat) (hn : n ≤ 128) (w : World) :
    Calls Try.prog 26 #[.int .i64 (n : Int)] w fun e w' => ∃ b F, e = .returned (.tuple #[.pointer (some ⟨b, 0, none⟩), .agg #[.int .i64 0, .int .i64 0]]) ∧ FrAt w' b (Pg.Fs.new n) F ∧ Below w.heap.size w w' ∧ ∀ k, F k → w.heap.size ≤ k := by
  obtain ⟨q0, hq, hz0, hz1, hz2⟩ := info_parts infoFrame
  have m0 : ∀ w : World, (Instr.makeSlice 118 (.int .i64 (n : Int)) (.int .i64 (n : Int))).run Try.prog w = _ := fun w =>
    run_make w 118 122 q0 _ Try.underlying118 hq hz0 .i64 .i64 n n (by omega) (Int.le_refl _) (by rw [hz2]; omega) (by omega)
  rw [hz1] at m0
  simp only [Int.toNat_natCast] at m0
  have d0 : ¬ (n : Int) < 0 := by omega
  have d1 : ¬ (128 : Int) < (n : Int) := by omega
  go_enter Try.func26, Try.ntmps26
  go_wp2_with fail
  refine bodyPost_ret (v := .tuple #[.pointer (some ⟨w.heap.size + 1 + 1, 0, none⟩), .agg #[.int .i64 0, .int .i64 0]]) ?_ rfl ?_
  · simp [results, Try.results26, go_sem]
  refine ⟨w.heap.size + 1 + 1, rfl, frF (w.heap.size + 1 + 1) (w.heap.size + 1) (.slice none 0 0), ⟨w.heap.size + 1, .slice none 0 0, ?_, Pg.Fs.new_ok n hn, rfl⟩, ?_, ?_⟩
  · refine FrRaw.made (t0 := 122) (t2 := 120) ?_ ?_ (by omega)
    · exact (alloc3 w _ _ _).2.2
    · exact (alloc3 w _ _ _).2.1
  · exact balloc (balloc (balloc (brefl w) _) _) _
  · intro k hk
    rcases hk with rfl | rfl | hk
    · omega
    · omega
    · simp [Value.ownBlock] at hk
end Go.Proofs.Ytbkpndgadgafiae
