
/-
  The developers' book: what asking it answers, and what it leaves in memory: Protect.
-/
import Derived.Test.YtkcmlmofcjdgoabBookB
namespace Go.Proofs.Ytkcmlmofcjdgoab
open Go.RowKit Go.Sort
set_option linter.unusedVariables false
set_option maxRecDepth 100000

theorem mpCells_set : ∀ (L : List Pg.Mp) (k : Nat) (r : Int), k < L.length → (mpCells L).set (k * 4 + 3) (.int .i64 r) = mpCells (L.set k ((L.getD k .zz).rts r))
  | [], _, _, h => by simp at h
  | x :: t, 0, r, _ => by simp [mpCells, Pg.Mp.rts]
  | x :: t, k + 1, r, h => by
    have ih := mpCells_set t k r (by simpa using h)
    have e1 : ∀ (y : Pg.Mp) (s : List Pg.Mp), mpCells (y :: s) = .int .i64 y.p :: .int .i64 y.s :: .int .i64 y.f :: .int .i64 y.r :: mpCells s := fun y s => by simp [mpCells]
    rw [e1, show (k + 1) * 4 + 3 = k * 4 + 3 + 4 by omega]
    simp only [List.set_cons_succ, List.getD_cons_succ, e1, ih]
theorem small_check (q r : Int) : Pg.check q 0 0 r = if Pg.below q 4096 = true ∧ Pg.below r 8 = true then 0 else 1 := by
  have hs : Pg.span 0 = 1 := rfl
  have hb : Pg.below 0 1048576 = true := rfl
  unfold Pg.check
  rw [hs, hb]
  cases Pg.below q 4096 <;> cases Pg.below r 8 <;> simp
theorem fits_good_set {L : List Pg.Mp} (h : Pg.Good L) {k : Nat} (hk : k < L.length) {r : Int} (hr : Pg.below r 8 = true) : Pg.Good (L.set k ((L.getD k .zz).rts r)) := by
  obtain ⟨_, h2⟩ := Pg.prot_add h hk hr
  rw [← h2]
  exact (h.erase k).add _

section
variable {b : Nat} {L : List Pg.Mp} {F : Nat → Prop}
set_option maxHeartbeats 4000000 in
theorem dbProtect_any (q r : Int) (hq : Pg.fits q) (w : World) (h : DbAt w b L F) :
    Calls Try.prog 34 #[.pointer (some ⟨b, 0, none⟩), .int .i64 q, .int .i64 r] w fun e w' => e = .returned (.tuple #[(Pg.protM L q r).val, .int .i64 (Pg.protC L q r)]) ∧ ∃ F', DbAt w' b (Pg.protL L q r) F' ∧ But F w w' ∧ ∀ k, F' k → F k ∨ w.heap.size ≤ k := by
  obtain ⟨vb, h, rfl⟩ := h
  have HK : Hid (∀ w', Below w.heap.size w w' → Pg.protC L q r ≠ 0 → ∃ F', DbAt w' b (Pg.protL L q r) F' ∧ But (bkF b vb) w w' ∧ ∀ k, F' k → bkF b vb k ∨ w.heap.size ≤ k) := fun w' hb hc =>
    ⟨bkF b vb, ⟨vb, by rw [Pg.protL, if_neg hc]; exact h.grow hb, rfl⟩, But.of_below hb, fun _ hk => .inl hk⟩
  have HCK := check_any q 0 0 r
  rw [small_check] at HCK
  by_cases hc : Pg.below q 4096 = true ∧ Pg.below r 8 = true
  · obtain ⟨hbq, hbr⟩ := hc
    rw [if_pos ⟨hbq, hbr⟩] at HCK
    have hfh := Pg.fnd_hit h.good q
    have HH := fun w' hb => having_any q hq w' (h.grow (w' := w') hb)
    cases hh : Pg.hit L (Pg.lkP q)
    · have e0 : Pg.fnd L q = none := by rw [hfh, hh]; rfl
      have hC : Pg.protC L q r = 5 := by simp [Pg.protC, Pg.dropC, hbq, hbr, e0]
      have hM : Pg.protM L q r = .zz := by simp [Pg.protM, hC]
      have HK' : Hid _ := fun w' hb => HK.out w' hb (by rw [hC]; decide)
      rw [hC, hM, show (.zz : Pg.Mp).val = .agg #[.int .i64 0, .int .i64 0, .int .i64 0, .int .i64 0] from rfl]
      simp only [hh] at HH
      clear h HK hC hM e0 hfh hh
      generalize Pg.protL L q r = L' at *
      generalize Pg.cut L (Pg.lkP q) = c at *
      go_enter Try.func34, Try.ntmps34
      go_wp2_with fail
      refine (HCK _).mono ?_
      rintro e w1 ⟨rfl, hb1⟩
      have b1 : Below w.heap.size w w1 := bthen (balloc (brefl _) _) hb1
      have hs1 : w.heap.size < w1.heap.size := by have := hb1.size; simp at this; omega
      have hr1 : ∀ o, w1.cell? ⟨w.heap.size, o, none⟩ = _ := fun o => hb1.cell (p := ⟨w.heap.size, o, none⟩) (by simp)
      have hf1 : ∀ o, w1.frozen? ⟨w.heap.size, o, none⟩ = _ := fun o => hb1.frozen (p := ⟨w.heap.size, o, none⟩) (by simp)
      clear hb1
      go_wp2_with fail
      refine (HH _ b1).mono ?_
      rintro e w2 ⟨rfl, hb2⟩
      have hr2 : ∀ o, w2.cell? ⟨w.heap.size, o, none⟩ = _ := fun o => (hb2.cell (p := ⟨w.heap.size, o, none⟩) hs1).trans (hr1 o)
      have hf2 : ∀ o, w2.frozen? ⟨w.heap.size, o, none⟩ = _ := fun o => (hb2.frozen (p := ⟨w.heap.size, o, none⟩) hs1).trans (hf1 o)
      have hB : Hid (Below w.heap.size w w2) := bthen b1 hb2
      clear hb2 HH HCK hr1 hf1 b1 hs1
      go_wp2_with fail
      refine bodyPost_ret (v := .tuple #[.agg #[.int .i64 0, .int .i64 0, .int .i64 0, .int .i64 0], .int .i64 5]) ?_ rfl ⟨rfl, ?_⟩
      · simp [results, Try.results34, go_sem, hr2]
      · exact HK'.out _ (below_set4 hB.out _ (Nat.le_refl _) _ _ _ _)
    · obtain ⟨hlt, _⟩ := Pg.hit_iff.1 hh
      have e0 : Pg.fnd L q = some (Pg.cut L (Pg.lkP q)) := by rw [hfh, hh]; rfl
      have hC : Pg.protC L q r = 0 := by simp [Pg.protC, Pg.dropC, hbq, hbr, e0]
      have hM : Pg.protM L q r = (L.getD (Pg.cut L (Pg.lkP q)) .zz).rts r := by simp only [Pg.protM, hC, if_true, Pg.at', e0]
      have hL : Pg.protL L q r = L.set (Pg.cut L (Pg.lkP q)) ((L.getD (Pg.cut L (Pg.lkP q)) .zz).rts r) := by simp only [Pg.protL, hC, if_true, e0]
      rw [hC, hM, hL]
      simp only [hh] at HH
      clear HK hC hM hL e0 hfh hh
      generalize Pg.cut L (Pg.lkP q) = j at *
      obtain ⟨g, cap, rfl, hg, hm0, hm1, hm2, hm3⟩ := h.mp hlt
      have hnb : g ≠ b := fun e => h.nb (by rw [e]; rfl)
      have HP : Hid (∀ W, Below w.heap.size w W → W.frozen? ⟨g, j * 4 + 3, none⟩ = false ∧ Dbk (W.setCell ⟨g, j * 4 + 3, none⟩ (.int .i64 r)) b (.slice (some ⟨g, 0, none⟩) L.length cap) (L.set j ((L.getD j .zz).rts r))) := by
        intro W hb
        have hW := h.grow hb
        obtain ⟨hl, hrr⟩ := hW.row
        rcases hrr with ⟨e, _⟩ | ⟨g', cap', cur, e, _, hgc, hc1, hc2, hc3, hc4⟩
        · cases e
        · cases e
          refine ⟨by simp [World.frozen?, hgc], ?_⟩
          have hset := setCell_eq_setRow W g (j * 4 + 3) cur _ _ (.int .i64 r) hgc
          have hgn : b ≠ g := fun e => hnb e.symm
          refine ⟨?_, fun o => ?_, ?_, hW.nb, fits_good_set h.good hlt hbr⟩
          · rw [hset, cell_setRow_other _ _ _ _ hgn]; exact hW.c0
          · rw [hset, World.frozen?_of_block (a := ⟨b, o, none⟩) (setRow_other _ _ _ _ hgn)]; exact hW.fb o
          · rw [hset, List.length_set, ← mpCells_set L j r hlt]
            refine ⟨by rw [List.length_set]; exact hl, .inr ⟨g, cap, _, rfl, Nat.zero_le _, setRow_heap W g cur _ _ _ hgc, hc1, hc2, by simpa using hc3, ?_⟩⟩
            rw [Array.toList_setIfInBounds, List.take_set, hc4]
      have HX : Hid _ := h
      have hc0 := h.c0
      have hlb := h.lb
      have hlen := h.good.len
      have i0 : (0 : Int) ≤ (j : Int) := by omega
      have i1 : (j : Int) < (L.length : Int) := by omega
      clear h
      generalize L.set j ((L.getD j .zz).rts r) = L' at *
      generalize L.getD j .zz = m at *
      generalize L.length = n at *
      obtain ⟨mp, ms, mf, mr⟩ := m
      simp only [Pg.Mp.val, Pg.Mp.rts] at *
      go_enter Try.func34, Try.ntmps34
      go_wp2_with fail
      refine (HCK _).mono ?_
      rintro e w1 ⟨rfl, hb1⟩
      have b1 : Below w.heap.size w w1 := bthen (balloc (brefl _) _) hb1
      have hs1 : w.heap.size < w1.heap.size := by have := hb1.size; simp at this; omega
      have hr1 : ∀ o, w1.cell? ⟨w.heap.size, o, none⟩ = _ := fun o => hb1.cell (p := ⟨w.heap.size, o, none⟩) (by simp)
      have hf1 : ∀ o, w1.frozen? ⟨w.heap.size, o, none⟩ = _ := fun o => hb1.frozen (p := ⟨w.heap.size, o, none⟩) (by simp)
      clear hb1
      go_wp2_with fail
      refine (HH _ b1).mono ?_
      rintro e w2 ⟨rfl, hb2⟩
      have hr2 : ∀ o, w2.cell? ⟨w.heap.size, o, none⟩ = _ := fun o => (hb2.cell (p := ⟨w.heap.size, o, none⟩) hs1).trans (hr1 o)
      have hf2 : ∀ o, w2.frozen? ⟨w.heap.size, o, none⟩ = _ := fun o => (hb2.frozen (p := ⟨w.heap.size, o, none⟩) hs1).trans (hf1 o)
      have hB0 : Below w.heap.size w w2 := bthen b1 hb2
      have c0 := cell_later hB0 hc0
      have m0 := cell_later hB0 hm0
      have m1 := cell_later hB0 hm1
      have m2 := cell_later hB0 hm2
      have m3 := cell_later hB0 hm3
      obtain ⟨fz, HD⟩ := HP.out w2 hB0
      have HD : Hid _ := HD
      have hB : Hid _ := hB0
      have n1 : g ≠ w.heap.size := by omega
      have n2 : b ≠ w.heap.size := by omega
      clear hb2 HH HCK hr1 hf1 b1 hs1 hB0 hc0 hm0 hm1 hm2 hm3 HP
      go_wp2_with fail
      refine bodyPost_ret (v := .tuple #[.agg #[.int .i64 mp, .int .i64 ms, .int .i64 mf, .int .i64 r], .int .i64 0]) ?_ rfl ⟨rfl, ?_⟩
      · simp [results, Try.results34, go_sem, hr2]
      · have f1 : DbAt (w2.setCell ⟨g, j * 4 + 3, none⟩ (.int .i64 r)) b L' (bkF b (.slice (some ⟨g, 0, none⟩) n cap)) := ⟨_, HD.out, rfl⟩
        have f2 : But (bkF b (.slice (some ⟨g, 0, none⟩) n cap)) w (w2.setCell ⟨g, j * 4 + 3, none⟩ (.int .i64 r)) := (But.of_below hB.out).setCell (a := ⟨g, j * 4 + 3, none⟩) (.inr (.inr rfl)) _
        have hbs := but_set4 (But.refl (fun k => k = w.heap.size) (w2.setCell ⟨g, j * 4 + 3, none⟩ (.int .i64 r))) w.heap.size (.inr rfl) (.int .i64 mp) (.int .i64 ms) (.int .i64 mf) (.int .i64 r)
        refine ⟨_, f1.keep hbs (fun k hk => ?_), f2.trans hbs (fun i hi e => ?_), fun k hk => .inl hk⟩
        · rcases hk with rfl | hk
          · exact n2
          · simp only [Value.ownBlock, Option.some.injEq] at hk
            omega
        · omega
  · rw [if_neg hc] at HCK
    have hC : Pg.protC L q r = 1 := by
      unfold Pg.protC Pg.dropC
      cases h1 : Pg.below q 4096 <;> cases h2 : Pg.below r 8 <;> simp_all
    have hM : Pg.protM L q r = .zz := by simp [Pg.protM, hC]
    have HK' : Hid _ := fun w' hb => HK.out w' hb (by rw [hC]; decide)
    rw [hC, hM, show (.zz : Pg.Mp).val = .agg #[.int .i64 0, .int .i64 0, .int .i64 0, .int .i64 0] from rfl]
    clear h HK hC hM hc
    generalize Pg.protL L q r = L' at *
    go_enter Try.func34, Try.ntmps34
    go_wp2_with fail
    refine (HCK _).mono ?_
    rintro e w1 ⟨rfl, hb1⟩
    have hr : ∀ o, w1.cell? ⟨w.heap.size, o, none⟩ = _ := fun o => hb1.cell (p := ⟨w.heap.size, o, none⟩) (by simp)
    have hf : ∀ o, w1.frozen? ⟨w.heap.size, o, none⟩ = _ := fun o => hb1.frozen (p := ⟨w.heap.size, o, none⟩) (by simp)
    have hB : Hid (Below w.heap.size w w1) := bthen (balloc (brefl _) _) hb1
    clear hb1 HCK
    go_wp2_with fail
    refine bodyPost_ret (v := .tuple #[.agg #[.int .i64 0, .int .i64 0, .int .i64 0, .int .i64 0], .int .i64 1]) ?_ rfl ⟨rfl, ?_⟩
    · simp [results, Try.results34, go_sem, hr]
    · exact HK'.out _ (below_set4 hB.out _ (Nat.le_refl _) _ _ _ _)
end
end Go.Proofs.Ytkcmlmofcjdgoab
