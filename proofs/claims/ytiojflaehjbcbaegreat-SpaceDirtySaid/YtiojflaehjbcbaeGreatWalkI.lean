/-
  Lists of numbers held against each other; how the statements on ways begin.
-/
import Derived.Test.YtiojflaehjbcbaeGreatChecked
import Derived.Test.YtiojflaehjbcbaeGreatMemLay
import Derived.Deep.AppendLies
import Derived.Test.YtiojflaehjbcbaeGreatFrames
import Derived.Test.YtiojflaehjbcbaeGreatWalkE
namespace Go.Proofs.YtiojflaehjbcbaeGreat
open Go.RowKit Go.Sort
set_option linter.unusedVariables false

theorem memTaken_any {b g0 g1 : Nat} {vb : Value} {S : Pg.Fs} (k : Int) (w : World) (h : MemAt w b g0 g1 vb S) :
    Calls Tryz.prog 81 #[.pointer (some ⟨b, 0, none⟩), .int .i64 k] w fun e w' => e = .returned (.bool (S.has k)) ∧ w' = w := by
  have hc1 := h.raw.c1
  have hn := h.ok.small
  by_cases h0 : 0 ≤ k
  · obtain ⟨m, rfl⟩ := Int.eq_ofNat_of_zero_le h0
    by_cases h1 : m < S.n
    · have hm := h.raw.ci m h1
      have HH : Hid (S.has (m : Int) = S.inn m) := by simp [Hid, Pg.Fs.has]
      have i0 : (0 : Int) ≤ (m : Int) := by omega
      have i1 : (m : Int) < (S.n : Int) := by omega
      go_enter Tryz.func81, Tryz.ntmps81
      go_wp2_with fail
      go_ret
      exact ⟨ret_bool HH.out.symm, rfl⟩
    · have HH : Hid (S.has (m : Int) = false) := by
        cases hh : S.has (m : Int)
        · rfl
        · have := h.ok.has_lt hh
          omega
      have i1 : ¬ (m : Int) < (S.n : Int) := by omega
      go_enter Tryz.func81, Tryz.ntmps81
      go_wp2_with fail
      go_ret
      exact ⟨ret_bool HH.out.symm, rfl⟩
  · have HH : Hid (S.has k = false) := by simp [Hid, Pg.Fs.has, h0]
    have d0 : decide (0 ≤ k) = false := by simpa using h0
    go_enter Tryz.func81, Tryz.ntmps81
    go_wp2_with fail
    go_ret
    exact ⟨ret_bool HH.out.symm, rfl⟩

theorem memFree_any {b g0 g1 : Nat} {vb : Value} {S : Pg.Fs} (w : World) (h : MemAt w b g0 g1 vb S) :
    Calls Tryz.prog 21 #[.pointer (some ⟨b, 0, none⟩)] w fun e w' => e = .returned (.int .i64 S.free) ∧ Below w.heap.size w w' := by
  have hc1 := h.raw.c1
  have hc2 := h.raw.c2
  have hc3 := h.raw.c3
  have hl := h.ok.len
  have ht := h.ok.top
  have hs := h.ok.small
  have HF : Hid (S.free = S.back.length + S.n - S.next) := rfl
  have hb : S.back.length ≤ 128 := by omega
  have hx : S.next ≤ 128 := by omega
  rcases h.raw.own.2 with ⟨rfl, hlen⟩ | ⟨g, cap, cur, rfl, hg⟩
  · rw [hlen] at HF
    clear hl ht hlen hb
    go_enter Tryz.func21, Tryz.ntmps21
    go_wp2_with fail
    go_quiet (fail)
    go_wp2_with fail
    go_ret
    refine ⟨?_, below_drewN (brefl _) _⟩
    rw [HF.out]
    first | rfl | simp
  · clear hl ht hg
    generalize S.back.length = m at *
    go_enter Tryz.func21, Tryz.ntmps21
    go_wp2_with fail
    go_quiet (fail)
    go_wp2_with fail
    go_ret
    exact ⟨ret_int (by rw [HF.out]), below_drewN (brefl _) _⟩

theorem memTake_none {b g0 g1 : Nat} {vb : Value} {S : Pg.Fs} (w : World) (h : MemAt w b g0 g1 vb S) (hb : S.back = []) (hn : ¬ S.next < S.n) :
    Calls Tryz.prog 38 #[.pointer (some ⟨b, 0, none⟩)] w fun e w' => e = .returned (.int .i64 (-1)) ∧ Below w.heap.size w w' := by
  have hc1 := h.raw.c1
  have hc2 := h.raw.c2
  have hc3 := h.raw.c3
  have hs := h.ok.small
  have i1 : ¬ (S.next : Int) < (S.n : Int) := by omega
  have ho := h.raw.own
  rw [hb] at ho
  rcases ho.2 with ⟨rfl, hlen⟩ | ⟨g, cap, cur, rfl, hg⟩
  all_goals
    clear ho h
    go_enter Tryz.func38, Tryz.ntmps38
    go_wp2_with fail
    go_quiet (fail)
    go_wp2_with fail
    go_ret
    exact ⟨rfl, below_drewN (brefl _) _⟩

def zeros8 : List Value := [.int .u64 0, .int .u64 0, .int .u64 0, .int .u64 0, .int .u64 0, .int .u64 0, .int .u64 0, .int .u64 0]
theorem zeros8_len : zeros8.length = 8 := rfl
theorem zeros8_at : ∀ (j : Nat) (hj : j < zeros8.length), zeros8[j] = .int .u64 0
  | 0, _ | 1, _ | 2, _ | 3, _ | 4, _ | 5, _ | 6, _ | 7, _ => rfl
  | j + 8, hj => absurd hj (by rw [zeros8_len]; omega)

theorem memTake_next {b g0 g1 : Nat} {vb : Value} {S : Pg.Fs} (w : World) (h : MemAt w b g0 g1 vb S) (hb : S.back = []) (hn : S.next < S.n) :
    Calls Tryz.prog 38 #[.pointer (some ⟨b, 0, none⟩)] w fun e w' => e = .returned (.int .i64 S.next) ∧ MemAt w' b g0 g1 vb S.take ∧ But (memF b g0 g1 vb) w w' := by
  have hc0 := h.raw.c0
  have hc1 := h.raw.c1
  have hc2 := h.raw.c2
  have hc3 := h.raw.c3
  have hfb := h.raw.fb
  have hf0 := h.raw.f0
  have hf1 := h.raw.f1
  have hs := h.ok.small
  have n0 := h.raw.n0
  have n1 := h.raw.n1
  have n01 := h.raw.n01
  have hi := h.raw.ci S.next hn
  have w0 : w.cell? ⟨g0, S.next * 8, none⟩ = _ := h.raw.cw S.next 0 hn (by omega)
  have w1 := h.raw.cw S.next 1 hn (by omega)
  have w2 := h.raw.cw S.next 2 hn (by omega)
  have w3 := h.raw.cw S.next 3 hn (by omega)
  have w4 := h.raw.cw S.next 4 hn (by omega)
  have w5 := h.raw.cw S.next 5 hn (by omega)
  have w6 := h.raw.cw S.next 6 hn (by omega)
  have w7 := h.raw.cw S.next 7 hn (by omega)
  have i0 : (0 : Int) ≤ (S.next : Int) := by omega
  have i1 : (S.next : Int) < (S.n : Int) := by omega
  have ho := h.raw.own
  rw [hb] at ho
  have HM : Hid _ := h
  have fin : ∀ nq, Hid (MemAt (((((w.drewN nq).setCell ⟨b, 3, none⟩ (.int .i64 (S.next + 1))).setCell ⟨g1, S.next, none⟩ (.bool true)).setCells g0 (S.next * 8) zeros8)) b g0 g1 vb S.take ∧ But (memF b g0 g1 vb) w (((((w.drewN nq).setCell ⟨b, 3, none⟩ (.int .i64 (S.next + 1))).setCell ⟨g1, S.next, none⟩ (.bool true)).setCells g0 (S.next * 8) zeros8))) := by
    intro nq
    have hl : ∀ j, decide (j ∈ S.next :: S.used) = if j = S.next then true else S.inn j := by
      intro j
      by_cases e : j = S.next <;> simp [Pg.Fs.inn, e]
    have e : S.take = { { { S with next := S.next + 1 } with used := S.next :: S.used } with word := Pg.Fs.clear S.word S.next } := by
      simp [Pg.Fs.take, hb, hn]
    have h1 := (h.raw.drewN nq).setNext (S.next + 1)
    have h2 := h1.mark (k := S.next) hn true (S.next :: S.used) hl
    have h3 := h2.clear (k := S.next) hn zeros8 zeros8_len zeros8_at
    refine ⟨⟨by rw [e]; exact h3, h.ok.take⟩, ?_⟩
    refine But.setCells g0 (.inr (.inr (.inl rfl))) _ _ _ ?_
    exact (((But.of_below (below_drewN (brefl w) nq)).setCell (.inr (.inl rfl)) _).setCell (.inr (.inr (.inr (.inl rfl)))) _)
  rcases ho.2 with ⟨rfl, hlen⟩ | ⟨g, cap, cur, rfl, hg⟩
  all_goals
    clear ho h
    go_enter Tryz.func38, Tryz.ntmps38
    go_wp2_with fail
    go_quiet (fail)
    go_wp2_with fail
    go_ret
    exact ⟨rfl, (fin _).out⟩

theorem memTake_back {b g0 g1 : Nat} {vb : Value} {S : Pg.Fs} (w : World) (h : MemAt w b g0 g1 vb S) (l : List Nat) (k : Nat) (hb : S.back = l ++ [k]) (hn : k < S.n) :
    Calls Tryz.prog 38 #[.pointer (some ⟨b, 0, none⟩)] w fun e w' => e = .returned (.int .i64 k) ∧ ∃ vb', MemAt w' b g0 g1 vb' S.take ∧ But (memF b g0 g1 vb) w w' ∧ vb'.ownBlock = vb.ownBlock := by
  have hc0 := h.raw.c0
  have hc1 := h.raw.c1
  have hc2 := h.raw.c2
  have hc3 := h.raw.c3
  have hfb := h.raw.fb
  have hf0 := h.raw.f0
  have hf1 := h.raw.f1
  have hs := h.ok.small
  have n0 := h.raw.n0
  have n1 := h.raw.n1
  have n01 := h.raw.n01
  have hi := h.raw.ci k hn
  have w0 : w.cell? ⟨g0, k * 8, none⟩ = _ := h.raw.cw k 0 hn (by omega)
  have w1 := h.raw.cw k 1 hn (by omega)
  have w2 := h.raw.cw k 2 hn (by omega)
  have w3 := h.raw.cw k 3 hn (by omega)
  have w4 := h.raw.cw k 4 hn (by omega)
  have w5 := h.raw.cw k 5 hn (by omega)
  have w6 := h.raw.cw k 6 hn (by omega)
  have w7 := h.raw.cw k 7 hn (by omega)
  have i0 : (0 : Int) ≤ (k : Int) := by omega
  have i1 : (k : Int) < (S.n : Int) := by omega
  have ho := h.raw.own
  have hlen : S.back.length = l.length + 1 := by rw [hb]; simp
  rw [hlen] at ho
  obtain ⟨g, cap, rfl, _, hgl⟩ := ho.form (by omega)
  have hcap : l.length + 1 ≤ cap := by
    rcases ho.2 with ⟨h', _⟩ | ⟨g', cap', cur, h', _, _, hle, _⟩
    · cases h'
    · cases h'; exact hle
  have hbd : S.back.length ≤ 128 := by have := h.ok.len; have := h.ok.top; omega
  have hl128 : l.length < 128 := by omega
  have hck : w.cell? ⟨g, l.length, none⟩ = some (.int .i64 k) := by
    rw [ho.cellAt l.length (by omega), nats, hb]
    simp
  have hpop : w.ownsRow 0 3 1 (.slice (some ⟨g, 0, none⟩) l.length cap) l.length (nats l) := by
    have e : nats S.back = nats l ++ [.int .i64 (k : Int)] := by simp [nats, hb]
    rw [e] at ho
    exact ownsRow_pop (by simp [nats]) ho
  have fin : Hid (∃ vb', MemAt ((((w.setCell ⟨b, 2, none⟩ (.slice (some ⟨g, 0, none⟩) l.length cap)).setCell ⟨g1, k, none⟩ (.bool true)).setCells g0 (k * 8) zeros8)) b g0 g1 vb' S.take ∧ But (memF b g0 g1 (.slice (some ⟨g, 0, none⟩) (l.length + 1) cap)) w ((((w.setCell ⟨b, 2, none⟩ (.slice (some ⟨g, 0, none⟩) l.length cap)).setCell ⟨g1, k, none⟩ (.bool true)).setCells g0 (k * 8) zeros8)) ∧ vb'.ownBlock = (Value.slice (some ⟨g, 0, none⟩) (l.length + 1) cap).ownBlock) := by
    have hl : ∀ j, decide (j ∈ k :: S.used) = if j = k then true else S.inn j := by
      intro j
      by_cases e : j = k <;> simp [Pg.Fs.inn, e]
    have e : S.take = { { { S with back := l } with used := k :: S.used } with word := Pg.Fs.clear S.word k } := by
      simp [Pg.Fs.take, hb]
    have h1 := h.raw.setBack hpop h.raw.vb0 h.raw.vb1 h.raw.vbb
    have h2 := h1.mark (k := k) hn true (k :: S.used) hl
    have h3 := h2.clear (k := k) hn zeros8 zeros8_len zeros8_at
    refine ⟨.slice (some ⟨g, 0, none⟩) l.length cap, ⟨by rw [e]; exact h3, h.ok.take⟩, ?_, rfl⟩
    refine But.setCells g0 (.inr (.inr (.inl rfl))) _ _ _ ?_
    exact (((But.refl _ w).setCell (.inr (.inl rfl)) _).setCell (.inr (.inr (.inr (.inl rfl)))) _)
  have j1 : (l.length : Int) ≤ (cap : Int) := by omega
  clear ho h hpop hlen hb
  generalize l.length = m at *
  go_enter Tryz.func38, Tryz.ntmps38
  go_wp2_with fail
  go_ret
  exact ⟨rfl, fin.out⟩

theorem memTake_any {b g0 g1 : Nat} {vb : Value} {S : Pg.Fs} (w : World) (h : MemAt w b g0 g1 vb S) :
    Calls Tryz.prog 38 #[.pointer (some ⟨b, 0, none⟩)] w fun e w' => e = .returned (.int .i64 S.takeN) ∧ ∃ vb', MemAt w' b g0 g1 vb' S.take ∧ But (memF b g0 g1 vb) w w' ∧ vb'.ownBlock = vb.ownBlock := by
  by_cases hb : S.back = []
  · by_cases hn : S.next < S.n
    · refine (memTake_next w h hb hn).mono ?_
      rintro e w' ⟨rfl, h1, h2⟩
      exact ⟨by simp [Pg.Fs.takeN, Pg.Fs.pick, hb, hn], vb, h1, h2, rfl⟩
    · refine (memTake_none w h hb hn).mono ?_
      rintro e w' ⟨rfl, h1⟩
      have e1 : S.take = S := by simp [Pg.Fs.take, hb, hn]
      refine ⟨by simp [Pg.Fs.takeN, Pg.Fs.pick, hb, hn], vb, ?_, But.of_below h1, rfl⟩
      rw [e1]
      exact h.keep (F := fun _ => False) (But.of_below h1) (fun _ _ => id)
  · obtain ⟨l, k, hl⟩ : ∃ l k, S.back = l ++ [k] := ⟨_, _, (List.dropLast_concat_getLast hb).symm⟩
    have hk : k < S.n := by
      have := h.ok.backLt (k := k) (by rw [hl]; simp)
      have := h.ok.top
      omega
    refine (memTake_back w h l k hl hk).mono ?_
    rintro e w' ⟨rfl, h1⟩
    exact ⟨by simp [Pg.Fs.takeN, Pg.Fs.pick, hl], h1⟩

theorem infoInt : (Tryz.prog.info? 3).map (fun i => (i.zero, i.size, i.bytes)) = some (some (.int .i64 0), 1, 8) := by kernel_rfl

theorem memGive_yes {b g0 g1 : Nat} {vb : Value} {S : Pg.Fs} (m : Nat) (w : World) (h : MemAt w b g0 g1 vb S) (hh : S.has (m : Int) = true) :
    Calls Tryz.prog 89 #[.pointer (some ⟨b, 0, none⟩), .int .i64 (m : Int)] w fun e w' => e = .returned (.bool true) ∧ ∃ vb', MemAt w' b g0 g1 vb' (S.give (m : Int)) ∧ But (memF b g0 g1 vb) w w' ∧ (vb'.ownBlock = vb.ownBlock ∨ ∃ k, vb'.ownBlock = some k ∧ w.heap.size ≤ k) := by
  have hc1 := h.raw.c1
  have hfb := h.raw.fb
  have hf1 := h.raw.f1
  have hs := h.ok.small
  have n1 := h.raw.n1
  have hn : m < S.n := by have := h.ok.has_lt hh; omega
  have hi := h.raw.ci m hn
  have i0 : (0 : Int) ≤ (m : Int) := by omega
  have i1 : (m : Int) < (S.n : Int) := by omega
  have hu : m ∈ S.used := by simpa using (h.ok.has_lt hh).2.2
  have hT := memTaken_any (m : Int) w h
  rw [hh] at hT
  have hl : ∀ j, decide (j ∈ S.used.erase m) = if j = m then false else S.inn j := by
    intro j
    have hnd : S.used.Nodup := (List.nodup_append.1 h.ok.nodup).1
    by_cases e : j = m
    · simp [e, hnd.mem_erase_iff]
    · simp [e, hnd.mem_erase_iff, Pg.Fs.inn]
  have hM := h.raw.mark hn false (S.used.erase m) hl
  have hbd : S.back.length ≤ 128 := by have := h.ok.len; have := h.ok.top; omega
  have hown := hM.own
  have hc2 := hM.c2
  have hlb := hM.lb
  obtain ⟨q0, hq, hz0, hz1, hz2⟩ := info_parts infoInt
  have HM : Hid _ := hM
  have HH : Hid _ := h
  have HX : Hid _ := hh
  clear hM h hl hu hh
  go_enter Tryz.func89, Tryz.ntmps89
  go_wp2_with (first
    | (go_at_call 81; refine hT.mono ?_; rintro e w' ⟨rfl, hw⟩; subst w')
    | (at_builtin; refine wpList_append_lies _ rfl _ _ 45 rfl 0 3 q0 (.int .i64 0) 1 8 Tryz.underlying45 hq hz0 hz1 hz2 rfl (by decide) _ _ _ rfl (hown.alloc _) ⟨w.heap.size, 0, none⟩ 1 1 [.int .i64 (m : Int)] rfl rfl ?c1 ?c2 (by decide) ?c3 ?c4 (Nat.zero_le _) (w.heap.size + 1) (by simp) ?_))
  case c1 =>
    intro j u hj
    match j, hj with
    | 0, hj => simp at hj; subst hj; simp [Addr.add, go_sem]
  case c2 => intro u hu; simp at hu; subst hu; rfl
  case c3 => unfold maxLen; omega
  case c4 => omega
  intro g cap w3 hown3 hgrow hat hlt
  have h1 := HM.out
  have hk : ∀ k, k = b ∨ k = g0 ∨ k = g1 → w3.heap[k]? = (w.setCell ⟨g1, m, none⟩ (.bool false)).heap[k]? := by
    intro k hk
    have hkl : k < (w.setCell ⟨g1, m, none⟩ (.bool false)).heap.size := by
      rcases hk with rfl | rfl | rfl
      · exact h1.lb
      · exact h1.l0
      · exact h1.l1
    have hkv : some k ≠ vb.ownBlock := by
      rcases hk with rfl | rfl | rfl
      · exact fun e => h1.vbb e.symm
      · exact fun e => h1.vb0 e.symm
      · exact fun e => h1.vb1 e.symm
    rw [hgrow.block k (by simp at hkl ⊢; omega) hkv]
    exact Below.heap_alloc _ _ _ hkl
  have hsz : (w.setCell ⟨g1, m, none⟩ (.bool false)).heap.size = w.heap.size := by simp
  have hne : ∀ k, k = b ∨ k = g0 ∨ k = g1 → (Value.slice (some ⟨g, 0, none⟩) (S.back.length + 1) cap).ownBlock ≠ some k := by
    intro k hk e
    have e : g = k := by simpa [Value.ownBlock] using e
    subst e
    rcases hat with hat | hat
    · rcases hk with rfl | rfl | rfl
      · exact h1.vbb hat
      · exact h1.vb0 hat
      · exact h1.vb1 hat
    · have := h1.lb; have := h1.l0; have := h1.l1
      omega
  have hG := h1.grow (w' := w3) (l := S.back ++ [m]) (by have := hgrow.size; simp at this ⊢; omega) hk (by simpa [nats] using hown3) (hne g0 (.inr (.inl rfl))) (hne g1 (.inr (.inr rfl))) (hne b (.inl rfl))
  have kc : w3.cell? ⟨b, 2, none⟩ = some vb := (World.cell?_of_block (hk b (.inl rfl))).trans h1.c2
  have kf : w3.frozen? ⟨b, 2, none⟩ = false := (World.frozen?_of_block (hk b (.inl rfl))).trans (h1.fb 2)
  have fin : Hid (∃ vb', MemAt (w3.setCell ⟨b, 2, none⟩ (.slice (some ⟨g, 0, none⟩) (S.back.length + 1) cap)) b g0 g1 vb' (S.give (m : Int)) ∧ But (memF b g0 g1 vb) w (w3.setCell ⟨b, 2, none⟩ (.slice (some ⟨g, 0, none⟩) (S.back.length + 1) cap)) ∧ (vb'.ownBlock = vb.ownBlock ∨ ∃ k, vb'.ownBlock = some k ∧ w.heap.size ≤ k)) := by
    have e : S.give (m : Int) = { { S with used := S.used.erase m } with back := S.back ++ [m] } := by
      simp [Pg.Fs.give, HX.out]
    refine ⟨.slice (some ⟨g, 0, none⟩) (S.back.length + 1) cap, ⟨by rw [e]; exact hG, HH.out.ok.give _⟩, ?_, ?_⟩
    · refine (((((But.refl _ w).setCell (.inr (.inr (.inr (.inl rfl)))) _).alloc _).grown hgrow fun k hk => .inr (.inr (.inr (.inr hk))))).setCell (.inr (.inl rfl)) _
    · rcases hat with hat | hat
      · exact .inl hat.symm
      · exact .inr ⟨g, rfl, by omega⟩
  clear hk hne hG h1 hown3 hgrow hown hc2 hat hlt
  go_wp2_with fail
  go_ret
  exact ⟨rfl, fin.out⟩

theorem memGive_any {b g0 g1 : Nat} {vb : Value} {S : Pg.Fs} (k : Int) (w : World) (h : MemAt w b g0 g1 vb S) :
    Calls Tryz.prog 89 #[.pointer (some ⟨b, 0, none⟩), .int .i64 k] w fun e w' => e = .returned (.bool (S.has k)) ∧ ∃ vb', MemAt w' b g0 g1 vb' (S.give k) ∧ But (memF b g0 g1 vb) w w' ∧ (vb'.ownBlock = vb.ownBlock ∨ ∃ j, vb'.ownBlock = some j ∧ w.heap.size ≤ j) := by
  cases hh : S.has k
  · have hT := memTaken_any k w h
    rw [hh] at hT
    have fin : Hid (∃ vb', MemAt w b g0 g1 vb' (S.give k) ∧ But (memF b g0 g1 vb) w w ∧ (vb'.ownBlock = vb.ownBlock ∨ ∃ j, vb'.ownBlock = some j ∧ w.heap.size ≤ j)) := by
      have e : S.give k = S := by simp [Pg.Fs.give, hh]
      exact ⟨vb, by rw [e]; exact h, But.refl _ _, .inl rfl⟩
    clear h
    go_enter Tryz.func89, Tryz.ntmps89
    go_wp2_with (go_at_call 81; refine hT.mono ?_; rintro e w' ⟨rfl, hw⟩; subst w')
    go_ret
    exact ⟨rfl, fin.out⟩
  · obtain ⟨m, rfl⟩ := Int.eq_ofNat_of_zero_le (h.ok.has_lt hh).1
    exact memGive_yes m w h hh

theorem infoWords : (Tryz.prog.info? 122).map (fun i => (i.zero, i.size, i.bytes)) = some (some (.agg #[.int .u64 0, .int .u64 0, .int .u64 0, .int .u64 0, .int .u64 0, .int .u64 0, .int .u64 0, .int .u64 0]), 8, 64) := by kernel_rfl
theorem infoBool : (Tryz.prog.info? 4).map (fun i => (i.zero, i.size, i.bytes)) = some (some (.bool false), 1, 1) := by kernel_rfl

theorem newMem_any (n : Nat) (hn : n ≤ 128) (w : World) :
    Calls Tryz.prog 37 #[.int .i64 (n : Int)] w fun e w' => ∃ b g0 g1, e = .returned (.pointer (some ⟨b, 0, none⟩)) ∧ MemAt w' b g0 g1 (.slice none 0 0) (Pg.Fs.new n) ∧ Below w.heap.size w w' ∧ w.heap.size ≤ b ∧ w.heap.size ≤ g0 ∧ w.heap.size ≤ g1 := by
  obtain ⟨q0, hq, hz0, hz1, hz2⟩ := info_parts infoWords
  obtain ⟨q1, hq1, hy0, hy1, hy2⟩ := info_parts infoBool
  have m0 : ∀ w : World, (Instr.makeSlice 107 (.int .i64 (n : Int)) (.int .i64 (n : Int))).run Tryz.prog w = _ := fun w =>
    run_make w 107 122 q0 _ Tryz.underlying107 hq hz0 .i64 .i64 n n (by omega) (Int.le_refl _) (by rw [hz2]; omega) (by omega)
  have m1 : ∀ w : World, (Instr.makeSlice 50 (.int .i64 (n : Int)) (.int .i64 (n : Int))).run Tryz.prog w = _ := fun w =>
    run_make w 50 4 q1 _ Tryz.underlying50 hq1 hy0 .i64 .i64 n n (by omega) (Int.le_refl _) (by rw [hy2]; omega) (by omega)
  rw [hz1] at m0
  rw [hy1] at m1
  simp only [Int.toNat_natCast] at m0 m1
  go_enter Tryz.func37, Tryz.ntmps37
  go_wp2_with fail
  go_region
  all_goals
    go_wp2_with fail
    go_ret
  · refine ⟨w.heap.size + 1 + 1, w.heap.size, w.heap.size + 1, rfl, ⟨?_, Pg.Fs.new_ok n hn⟩, (balloc (balloc (balloc (brefl w) _) _) _).drew, by omega, by omega, by omega⟩
    refine MemRaw.made (t0 := 122) (t1 := 4) (t2 := 109) ?_ ?_ ?_ (by omega) (by omega) (by omega)
    · exact (alloc3 w _ _ _).2.2
    · exact (alloc3 w _ _ _).1
    · exact (alloc3 w _ _ _).2.1
  · refine ⟨w.heap.size + 1 + 1, w.heap.size + 1, w.heap.size, rfl, ⟨?_, Pg.Fs.new_ok n hn⟩, (balloc (balloc (balloc (brefl w) _) _) _).drew, by omega, by omega, by omega⟩
    refine MemRaw.made (t0 := 122) (t1 := 4) (t2 := 109) ?_ ?_ ?_ (by omega) (by omega) (by omega)
    · exact (alloc3 w _ _ _).2.2
    · exact (alloc3 w _ _ _).2.1
    · exact (alloc3 w _ _ _).1
end Go.Proofs.YtiojflaehjbcbaeGreat

namespace Go.Proofs.YtiojflaehjbcbaeGreat
open Go.RowKit Go.Sort
set_option linter.unusedVariables false
set_option maxRecDepth 100000

namespace Pg.Fs
def takes : Nat → Fs → Fs
  | 0, S => S
  | k + 1, S => (takes k S).take
def stores (q : Nat → Int) : Nat → Fs → Fs
  | 0, S => S
  | j + 1, S => (stores q j S).store ((j : Int) / 8) ((j : Int) % 8) (q j)
/-- The frames that 'memory' makes. -/
def memory (n : Nat) (taken : Int) (q : Nat → Int) (len : Nat) : Fs := stores q len (takes (min taken.toNat n) (new n))
end Pg.Fs

/-- Words that were handed in. -/
def WordsAt (W : World) (ad : Option Addr) (len : Nat) (q : Nat → Int) : Prop := ∀ j, j < len → (∃ b o, ad = some ⟨b, o, none⟩ ∧ b < W.heap.size ∧ W.cell? ⟨b, o + j, none⟩ = some (.int .u64 (q j))) ∧ 0 ≤ q j ∧ q j < 18446744073709551616
theorem WordsAt.below {W W' : World} {ad : Option Addr} {len : Nat} {q : Nat → Int} (h : WordsAt W ad len q) {B : Nat} (hB : W.heap.size ≤ B) (hb : Below B W W') : WordsAt W' ad len q := by
  intro j hj
  obtain ⟨⟨b, o, e, hl, hc⟩, h0, h1⟩ := h j hj
  exact ⟨⟨b, o, e, Nat.lt_of_lt_of_le hl hb.size, (hb.cell (p := ⟨b, o + j, none⟩) (Nat.lt_of_lt_of_le hl hB)).trans hc⟩, h0, h1⟩

/-- The two kinds of frames, side by side, behind all that was there. -/
structure Side (w0 : World) (bf bm g0 g1 : Nat) (vb : Value) (F : Nat → Prop) (Sf Sm : Pg.Fs) (w : World) : Prop where
  bel : Below w0.heap.size w0 w
  fr : FrAt w bf Sf F
  mem : MemAt w bm g0 g1 vb Sm
  fhi : ∀ k, F k → w0.heap.size ≤ k
  mhi : ∀ k, memF bm g0 g1 vb k → w0.heap.size ≤ k
  ne : ∀ k, F k → ¬ memF bm g0 g1 vb k
namespace Side
variable {w0 w w' : World} {bf bm g0 g1 : Nat} {vb vb' : Value} {F F' : Nat → Prop} {Sf Sm S' : Pg.Fs}
theorem grow (h : Side w0 bf bm g0 g1 vb F Sf Sm w) (hb : Below w.heap.size w w') : Side w0 bf bm g0 g1 vb F Sf Sm w' :=
  ⟨bthen h.bel hb, h.fr.keep (G := fun _ => False) (But.of_below hb) (fun _ _ => id), h.mem.keep (F := fun _ => False) (But.of_below hb) (fun _ _ => id), h.fhi, h.mhi, h.ne⟩
/-- A step of the developers'. -/
theorem stepF (h : Side w0 bf bm g0 g1 vb F Sf Sm w) (h1 : FrAt w' bf S' F') (hb : But F w w') (hF : ∀ k, F' k → F k ∨ w.heap.size ≤ k) : Side w0 bf bm g0 g1 vb F' S' Sm w' := by
  refine ⟨h.bel.trans (hb.below h.bel.size h.fhi), h1, h.mem.keep hb fun k hk hf => h.ne k hf hk, fun k hk => ?_, h.mhi, fun k hk hm => ?_⟩
  · rcases hF k hk with h2 | h2
    · exact h.fhi k h2
    · have := h.bel.size; omega
  · rcases hF k hk with h2 | h2
    · exact h.ne k h2 hm
    · have := h.mem.raw.lt hm; omega
/-- A step of the document's. -/
theorem stepM (h : Side w0 bf bm g0 g1 vb F Sf Sm w) (h1 : MemAt w' bm g0 g1 vb' S') (hb : But (memF bm g0 g1 vb) w w') (hv : vb'.ownBlock = vb.ownBlock) : Side w0 bf bm g0 g1 vb' F Sf S' w' := by
  have e : ∀ k, memF bm g0 g1 vb' k ↔ memF bm g0 g1 vb k := fun k => by unfold memF; rw [hv]
  exact ⟨h.bel.trans (hb.below h.bel.size h.mhi), h.fr.keep hb fun k hk hm => h.ne k hk hm, h1, h.fhi, fun k hk => h.mhi k ((e k).1 hk), fun k hk hm => h.ne k hk ((e k).1 hm)⟩
end Side

/-- What 'memory' leaves. -/
structure MemDone (w : World) (S : Pg.Fs) (e : Ending) (w' : World) : Prop where
  end' : ∃ bf bm g0 g1 vb F, e = .returned (.tuple #[.pointer (some ⟨bf, 0, none⟩), .pointer (some ⟨bm, 0, none⟩)]) ∧ Side w bf bm g0 g1 vb F S S w'

theorem fr_n {w : World} {b : Nat} {S : Pg.Fs} {F : Nat → Prop} (h : FrAt w b S F) : S.n ≤ 128 := h.ok.small

end Go.Proofs.YtiojflaehjbcbaeGreat

namespace Go.Proofs.YtiojflaehjbcbaeGreat
open Go.RowKit Go.Sort
set_option linter.unusedVariables false
set_option maxRecDepth 100000

theorem sameInts_yes {ad ad' : Option Addr} {cap cap' : Nat} {L : List Int} (w : World) (h : IntsAt w ad L) (h' : IntsAt w ad' L) (hl : L.length ≤ 5000) :
    Calls Tryz.prog 17 #[.slice ad L.length cap, .slice ad' L.length cap'] w fun e w' => e = .returned (.bool true) ∧ Below w.heap.size w w' := by
  have HA : Hid (IntsAt w ad L) := h
  have HB : Hid (IntsAt w ad' L) := h'
  clear h h'
  go_enter Tryz.func17, Tryz.ntmps17
  go_wp2_with fail
  go_loopw [5] (fun i wr => ∃ j : Nat, j ≤ L.length ∧ i = .int .i64 j ∧ Hid (Below w.heap.size w wr)) (fun i _ => L.length - (intOf i).toNat)
  case atStart => exact ⟨0, by omega, rfl, brefl _⟩
  case round =>
    obtain ⟨j, hj, rfl, HR⟩ := hrel
    have i0 : (0 : Int) ≤ (j : Int) := by omega
    by_cases hlt : j < L.length
    · obtain ⟨g, rfl, hg, hm⟩ := IntsAt.below HA.out HR.out j hlt
      obtain ⟨g', rfl, hg', hm'⟩ := IntsAt.below HB.out HR.out j hlt
      have i1 : (j : Int) < (L.length : Int) := by omega
      have fin : Hid (∀ nq, Below w.heap.size w (wr.drewN nq)) := fun nq => bthen HR.out (below_drewN (brefl _) nq)
      generalize L.getD j 0 = x at *
      go_wp2_with fail
      go_quiet (fail)
      go_wp2_with fail
      exact ⟨⟨j + 1, by omega, by go_num, fin.out _⟩, by simp [intOf]; omega⟩
    · have i1 : ¬ (j : Int) < (L.length : Int) := by omega
      go_wp2_with fail
      go_ret
      exact ⟨rfl, HR.out⟩

theorem in_yes {ad : Option Addr} {cap : Nat} {L : List Int} (n : Int) (hn : n ∈ L) (w : World) (h : IntsAt w ad L) (hl : L.length ≤ 5000) :
    Calls Tryz.prog 30 #[.slice ad L.length cap, .int .i64 n] w fun e w' => e = .returned (.bool true) ∧ Below w.heap.size w w' := by
  have HA : Hid (IntsAt w ad L) := h
  have HN : Hid _ := hn
  clear h hn
  go_enter Tryz.func30, Tryz.ntmps30
  go_wp2_with fail
  go_loopw [5] (fun i wr => ∃ j : Nat, j ≤ L.length ∧ i = .int .i64 j ∧ Hid (Below w.heap.size w wr ∧ ∀ k, k < j → L.getD k 0 ≠ n)) (fun i _ => L.length - (intOf i).toNat)
  case atStart => exact ⟨0, by omega, rfl, brefl _, fun k hk => by omega⟩
  case round =>
    obtain ⟨j, hj, rfl, HR⟩ := hrel
    have i0 : (0 : Int) ≤ (j : Int) := by omega
    by_cases hlt : j < L.length
    · obtain ⟨g, rfl, hg, hm⟩ := IntsAt.below HA.out HR.out.1 j hlt
      have i1 : (j : Int) < (L.length : Int) := by omega
      have HJ : Hid (L.getD j 0 ≠ n → ∀ k, k < j + 1 → L.getD k 0 ≠ n) := fun hne k hk => by
        by_cases e : k = j
        · rw [e]; exact hne
        · exact HR.out.2 k (by omega)
      generalize L.getD j 0 = x at *
      by_cases hx : x = n
      · have hxb : (x == n) = true := by simpa using hx
        go_wp2_with fail
        go_ret
        exact ⟨rfl, HR.out.1⟩
      · have hxb : (x == n) = false := by simpa using hx
        have HJ2 : Hid _ := HJ.out hx
        clear hx
        go_wp2_with fail
        exact ⟨⟨j + 1, by omega, by go_num, HR.out.1, HJ2.out⟩, by simp [intOf]; omega⟩
    · exfalso
      obtain ⟨k, hk, e⟩ := List.mem_iff_getElem.1 HN.out
      exact HR.out.2 k (by omega) (by simpa [List.getD, hk] using e)

theorem begun_facts : fndC (Pg.Fs.memory 2 1 (fun _ => 1) 1) 0 0 = 7 ∧ fndC (Pg.Fs.memory 2 1 (fun _ => 1) 1) 0 512 = 0 ∧ lastL (fndX (Pg.Fs.memory 2 1 (fun _ => 1) 1) 0 512) = 3 ∧ (fndX (Pg.Fs.memory 2 1 (fun _ => 1) 1) 0 512).length = 1 ∧ plcs (fndX (Pg.Fs.memory 2 1 (fun _ => 1) 1) 0 512) = [1] := by
  refine ⟨?_, ?_, ?_, ?_, ?_⟩ <;> decide +kernel

/-- Two rows of the same mappings are the same. -/
theorem sameMapsW {ad ad' : Option Addr} {cap cap' : Nat} {L : List Pg.Mp} (w : World) (h : MapsAt w ad L) (h' : MapsAt w ad' L) (hl : L.length ≤ 5000) :
    Calls Tryz.prog 15 #[.slice ad L.length cap, .slice ad' L.length cap'] w fun e w' => e = .returned (.bool true) ∧ Below w.heap.size w w' := by
  have HA : Hid (MapsAt w ad L) := h
  have HB : Hid (MapsAt w ad' L) := h'
  clear h h'
  go_enter Tryz.func15, Tryz.ntmps15
  go_wp2_with fail
  go_loopw [5] (fun i wr => ∃ j : Nat, j ≤ L.length ∧ i = .int .i64 j ∧ Hid (Below w.heap.size w wr)) (fun i _ => L.length - (intOf i).toNat)
  case atStart => exact ⟨0, by omega, rfl, brefl _⟩
  case round =>
    obtain ⟨j, hj, rfl, HR⟩ := hrel
    have i0 : (0 : Int) ≤ (j : Int) := by omega
    by_cases hlt : j < L.length
    · obtain ⟨g, rfl, hg, hm⟩ := MapsAt.below HA.out HR.out j hlt
      obtain ⟨g', rfl, hg', hm'⟩ := MapsAt.below HB.out HR.out j hlt
      obtain ⟨k0, k1, k2, k3⟩ := hm
      obtain ⟨m0, m1, m2, m3⟩ := hm'
      have i1 : (j : Int) < (L.length : Int) := by omega
      have fin : Hid (∀ nq, Below w.heap.size w (wr.drewN nq)) := fun nq => bthen HR.out (below_drewN (brefl _) nq)
      generalize L.getD j .zz = x at *
      obtain ⟨p, s, f, r⟩ := x
      simp only at k0 k1 k2 k3 m0 m1 m2 m3
      go_wp2_with fail
      go_quiet (fail)
      go_wp2_with fail
      exact ⟨⟨j + 1, by omega, by go_num, fin.out _⟩, by simp [intOf]; omega⟩
    · have i1 : ¬ (j : Int) < (L.length : Int) := by omega
      go_wp2_with fail
      go_ret
      exact ⟨rfl, HR.out⟩

/-- The places on a way. -/
theorem way_place (S : Pg.Fs) (p : Int) : ∀ (lv : Nat) (t : Int) (a i : Nat), i < (Pg.thr S (Pg.onW p) lv t a).1.length → i ≤ lv ∧ (plcs (Pg.thr S (Pg.onW p) lv t a).1).getD i 0 = (Pg.ix p (lv - i) : Nat) := by
  intro lv
  induction lv with
  | zero =>
    intro t a i hi
    rw [Pg.thr_way] at hi ⊢
    split at hi
    · simp at hi
    · rename_i h1
      rw [if_neg h1]
      split at hi
      · rename_i h2
        rw [if_pos h2]
        simp at hi
        subst hi
        exact ⟨by omega, by simp [plcs, Pg.spt]⟩
      · rename_i h2
        obtain ⟨m, hm⟩ := Pg.rEn_on (S := S) (t := t) (i := Pg.ix p 0) (lv := 0) (by simpa using h2)
        omega
  | succ lv ih =>
    intro t a i hi
    rw [Pg.thr_way] at hi ⊢
    split at hi
    · simp at hi
    · rename_i h1
      rw [if_neg h1]
      split at hi
      · rename_i h2
        rw [if_pos h2]
        simp at hi
        subst hi
        exact ⟨by omega, by simp [plcs, Pg.spt]⟩
      · rename_i h2
        rw [if_neg h2]
        simp only at hi ⊢
        cases i with
        | zero => exact ⟨by omega, by simp [plcs, Pg.spt]⟩
        | succ i =>
          have h3 := ih (Pg.rEn S t (Pg.ix p (lv + 1)) (lv + 1)).f ((a + Pg.ix p (lv + 1)) * 8) i (by simpa [Pg.sub] using hi)
          refine ⟨by omega, ?_⟩
          rw [show lv + 1 - (i + 1) = lv - i by omega]
          simpa [plcs, Pg.sub] using h3.2
theorem find_place (S : Pg.Fs) (t p : Int) {i : Nat} (hi : i < (fndX S t p).length) : Pg.below p 4096 = true ∧ i ≤ 3 ∧ (plcs (fndX S t p)).getD i 0 = Pg.index p (3 - (i : Int)) := by
  unfold fndX at hi ⊢
  split at hi
  · rename_i h
    rw [if_pos h]
    obtain ⟨h1, h2⟩ := way_place S p 3 t 0 i hi
    refine ⟨h.1, h1, ?_⟩
    rw [h2, show (3 - (i : Int)) = ((3 - i : Nat) : Int) by omega, Pg.index_ix h.1 (by omega)]
  · simp at hi
theorem fndX_len (S : Pg.Fs) (t p : Int) : (fndX S t p).length ≤ 4680 := by
  unfold fndX
  split
  · exact Pg.thr_len S (Pg.onW p) 3 t 0
  · simp
end Go.Proofs.YtiojflaehjbcbaeGreat
