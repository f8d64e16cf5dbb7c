
/-
  The document's own book: Protect and Answer.
-/
import Derived.Test.YtkcmlmofcjdgoabBookRefC
import Derived.Deep.RegionHeld3
namespace Go.Proofs.Ytkcmlmofcjdgoab
open Go.RowKit Go.Sort
set_option maxRecDepth 100000
set_option linter.unusedVariables false

/-- The result is written where it was laid ahead of all else: the book is as it was. -/
theorem closeR {w w1 : World} {b : Nat} {vb vb1 : Value} {L1 : List Pg.Mp} (hlt : ∀ k, bkF b vb k → k < w.heap.size) (hb : But (bkF b vb) w w1) (h1 : BkAt w1 b vb1 L1) (hF : ∀ k, bkF b vb1 k → bkF b vb k ∨ w.heap.size < k) (x0 x1 x2 x3 : Value) :
    BkAt ((((w1.setCell ⟨w.heap.size, 0, none⟩ x0).setCell ⟨w.heap.size, 1, none⟩ x1).setCell ⟨w.heap.size, 2, none⟩ x2).setCell ⟨w.heap.size, 3, none⟩ x3) b vb1 L1 ∧ But (bkF b vb) w ((((w1.setCell ⟨w.heap.size, 0, none⟩ x0).setCell ⟨w.heap.size, 1, none⟩ x1).setCell ⟨w.heap.size, 2, none⟩ x2).setCell ⟨w.heap.size, 3, none⟩ x3) := by
  refine ⟨h1.keep (F := fun k => k = w.heap.size) (but_set4 (F := fun k => k = w.heap.size) (But.refl _ _) w.heap.size (.inr rfl) x0 x1 x2 x3) fun k hk e => ?_, but_set4 hb _ (.inl (Nat.le_refl _)) x0 x1 x2 x3⟩
  subst e
  rcases hF _ hk with h | h
  · have := hlt _ h
    omega
  · omega

set_option maxHeartbeats 4000000 in
theorem refProtect_any {b : Nat} {vb : Value} {L : List Pg.Mp} (q r : Int) (hq : Pg.fits q) (w : World) (h : BkAt w b vb L) :
    Calls Try.prog 35 #[.pointer (some ⟨b, 0, none⟩), .int .i64 q, .int .i64 r] w fun e w' => e = .returned (.tuple #[(Pg.protM L q r).val, .int .i64 (Pg.protC L q r)]) ∧ ∃ vb', BkAt w' b vb' (Pg.protL L q r) ∧ But (bkF b vb) w w' ∧ ∀ k, bkF b vb' k → bkF b vb k ∨ w.heap.size ≤ k := by
  have HX : Hid _ := h
  by_cases hin : Pg.below q 4096 = true ∧ Pg.below r 8 = true
  · obtain ⟨hbq, hbr⟩ := hin
    have q0 : ¬ q < 0 := by have := Pg.below_iff.1 hbq; omega
    have q1 : ¬ 4096 ≤ q := by have := Pg.below_iff.1 hbq; omega
    have r0 : ¬ r < 0 := by have := Pg.below_iff.1 hbr; omega
    have r1 : ¬ 7 < r := by have := Pg.below_iff.1 hbr; omega
    have HD := fun o => refDrop_any q hq (w.alloc o) (h.grow (balloc (brefl _) o))
    cases hf : Pg.fnd L q with
    | none =>
      have e1 : Pg.dropC L q = 5 := by simp [Pg.dropC, hbq, hf]
      have e2 : Pg.dropM L q = .zz := by simp [Pg.dropM, e1]
      have e3 : Pg.dropL L q = L := by simp [Pg.dropL, e1]
      have e4 : Pg.protC L q r = 5 := by simp [Pg.protC, hbr, e1]
      have e5 : Pg.protM L q r = .zz := by simp [Pg.protM, e4]
      have e6 : Pg.protL L q r = L := by simp [Pg.protL, e4]
      rw [e4, e5, e6]
      rw [e1, e2, e3] at HD
      clear h e1 e2 e3 e4 e5 e6 hf hbq hbr
      go_enter Try.func35, Try.ntmps35
      go_wp2_with fail
      refine (HD _).mono ?_
      rintro e w1 ⟨rfl, vb1, h1, hb1, hF1⟩
      have hnb : ¬ bkF b vb w.heap.size := fun hk => by have := HX.out.lt hk; omega
      have hr : ∀ o, w1.cell? ⟨w.heap.size, o, none⟩ = _ := fun o => hb1.cell (a := ⟨w.heap.size, o, none⟩) (by simp) hnb
      have hf : ∀ o, w1.frozen? ⟨w.heap.size, o, none⟩ = _ := fun o => hb1.frozen (a := ⟨w.heap.size, o, none⟩) (by simp) hnb
      have hsz : w.heap.size < w1.heap.size := by have := hb1.size; simp at this; omega
      have hB1 : Hid _ := hb1
      have H1 : Hid _ := h1
      have hF1 : Hid _ := hF1
      clear hb1 h1 HD
      unfold Pg.Mp.val
      simp only
      go_wp2_with fail
      refine bodyPost_ret (v := .tuple #[.agg #[.int .i64 0, .int .i64 0, .int .i64 0, .int .i64 0], .int .i64 5]) ?_ rfl ⟨rfl, ?_⟩
      · simp [results, Try.results35, go_sem, hr, hsz]
      · obtain ⟨c1, c2⟩ := closeR (w := w) (fun k hk => HX.out.lt hk) (((But.refl _ w).alloc _).trans hB1.out (fun i hi hg => hg)) H1.out (fun k hk => (hF1.out k hk).imp id (fun h => by simp at h; omega)) (.int .i64 0) (.int .i64 0) (.int .i64 0) (.int .i64 0)
        exact ⟨vb1, c1.grow (balloc (brefl _) _), c2.alloc _, fun k hk => (hF1.out k hk).imp id (fun h => by simp at h; omega)⟩
    | some k =>
      have hk := Pg.fnd_some hf
      have e1 : Pg.dropC L q = 0 := by simp [Pg.dropC, hbq, hf]
      have e2 : Pg.dropM L q = L.getD k .zz := by simp only [Pg.dropM, e1, Pg.at', hf, if_true]
      have e3 : Pg.dropL L q = L.eraseIdx k := by simp only [Pg.dropL, e1, hf, if_true]
      have e4 : Pg.protC L q r = 0 := by simp [Pg.protC, hbr, e1]
      have e5 : Pg.protM L q r = (L.getD k .zz).rts r := by simp only [Pg.protM, e4, Pg.at', hf, if_true]
      have e6 : Pg.protL L q r = L.set k ((L.getD k .zz).rts r) := by simp only [Pg.protL, e4, hf, if_true]
      obtain ⟨p1, p2⟩ := Pg.prot_add h.good hk.1 hbr
      have hft : Pg.fits (L.getD k .zz).p := (Pg.ok_fits (h.good.ok _ (by rw [Pg.mp_at hk.1]; exact List.getElem_mem _))).2.2.1
      rw [e4, e5, e6]
      rw [e1, e2, e3] at HD
      clear h e1 e2 e3 e4 e5 e6 hf hbq hbr hk
      generalize L.set k ((L.getD k .zz).rts r) = L2 at *
      generalize L.eraseIdx k = L1 at *
      generalize L.getD k .zz = y at *
      obtain ⟨mp, ms, mf, mr⟩ := y
      simp only [Pg.Mp.rts] at p1 p2 hft ⊢
      have HA := fun w vb h => refAdd_any (b := b) (vb := vb) (L := L1) (Pg.Mp.mk mp ms mf r) hft w h
      rw [p1, p2] at HA
      unfold Pg.Mp.val at HA HD ⊢
      simp only at HA HD ⊢
      clear p1 p2
      go_enter Try.func35, Try.ntmps35
      go_wp2_with fail
      refine (HD _).mono ?_
      rintro e w1 ⟨rfl, vb1, h1, hb1, hF1⟩
      have hnb : ¬ bkF b vb w.heap.size := fun hk => by have := HX.out.lt hk; omega
      have hr : Hid (∀ o, w1.cell? ⟨w.heap.size, o, none⟩ = _) := fun o => hb1.cell (a := ⟨w.heap.size, o, none⟩) (by simp) hnb
      have hf : Hid (∀ o, w1.frozen? ⟨w.heap.size, o, none⟩ = _) := fun o => hb1.frozen (a := ⟨w.heap.size, o, none⟩) (by simp) hnb
      have hsz : w.heap.size < w1.heap.size := by have := hb1.size; simp at this; omega
      have hB1 : Hid (But (bkF b vb) w w1) := ((But.refl _ w).alloc _).trans hb1 (fun i hi hg => hg)
      have H1 : Hid _ := h1
      have hF1 : Hid (∀ k, bkF b vb1 k → bkF b vb k ∨ w.heap.size < k) := fun k hk => (hF1 k hk).imp id (fun h => by simp at h; omega)
      clear hb1 h1 HD
      go_wp2_with fail
      refine (HA _ _ (H1.out.grow (balloc (brefl _) _))).mono ?_
      rintro e w2 ⟨rfl, vb2, h2, hb2, hF2⟩
      have hnb1 : ¬ bkF b vb1 w.heap.size := fun hk => by
        rcases hF1.out _ hk with h | h
        · exact hnb h
        · omega
      have hnb2 : ¬ bkF b vb1 w1.heap.size := fun hk => by have := H1.out.lt hk; omega
      have hr2 : ∀ o, w2.cell? ⟨w.heap.size, o, none⟩ = _ := fun o => (hb2.cell (a := ⟨w.heap.size, o, none⟩) (by simp; omega) hnb1).trans ((Below.cell (p := ⟨w.heap.size, o, none⟩) (balloc (brefl w1) _) hsz).trans (hr.out o))
      have hf2 : ∀ o, w2.frozen? ⟨w.heap.size, o, none⟩ = _ := fun o => (hb2.frozen (a := ⟨w.heap.size, o, none⟩) (by simp; omega) hnb1).trans ((Below.frozen (p := ⟨w.heap.size, o, none⟩) (balloc (brefl w1) _) hsz).trans (hf.out o))
      have hm2 : ∀ o, w2.cell? ⟨w1.heap.size, o, none⟩ = _ := fun o => hb2.cell (a := ⟨w1.heap.size, o, none⟩) (by simp) hnb2
      have fin : Hid (∀ x0 x1 x2 x3, ∃ vb', BkAt ((((w2.setCell ⟨w.heap.size, 0, none⟩ x0).setCell ⟨w.heap.size, 1, none⟩ x1).setCell ⟨w.heap.size, 2, none⟩ x2).setCell ⟨w.heap.size, 3, none⟩ x3) b vb' L2 ∧ But (bkF b vb) w ((((w2.setCell ⟨w.heap.size, 0, none⟩ x0).setCell ⟨w.heap.size, 1, none⟩ x1).setCell ⟨w.heap.size, 2, none⟩ x2).setCell ⟨w.heap.size, 3, none⟩ x3) ∧ ∀ k, bkF b vb' k → bkF b vb k ∨ w.heap.size ≤ k) := by
        intro x0 x1 x2 x3
        have hB2 : But (bkF b vb) w w2 := (hB1.out.alloc _).trans hb2 (fun i hi hg => (hF1.out i hg).elim id (fun h => by omega))
        have hF : ∀ k, bkF b vb2 k → bkF b vb k ∨ w.heap.size < k := fun k hk => (hF2 k hk).elim (hF1.out k) (fun h => .inr (by simp at h; omega))
        obtain ⟨c1, c2⟩ := closeR (w := w) (fun k hk => HX.out.lt hk) hB2 h2 hF x0 x1 x2 x3
        exact ⟨vb2, c1, c2, fun k hk => (hF k hk).imp id Nat.le_of_lt⟩
      clear hb2 h2 hF2 HA hnb hnb1 hnb2
      go_wp2_with fail
      refine bodyPost_ret (v := .tuple #[.agg #[.int .i64 mp, .int .i64 ms, .int .i64 mf, .int .i64 r], .int .i64 0]) ?_ rfl ⟨rfl, ?_⟩
      · simp [results, Try.results35, go_sem, hr2]
      · exact fin.out _ _ _ _
  · have e4 : Pg.protC L q r = 1 := by
      unfold Pg.protC Pg.dropC
      cases h1 : Pg.below r 8
      · rfl
      · cases h2 : Pg.below q 4096
        · rfl
        · exact absurd ⟨h2, h1⟩ hin
    have e5 : Pg.protM L q r = .zz := by simp [Pg.protM, e4]
    have e6 : Pg.protL L q r = L := by simp [Pg.protL, e4]
    rw [e4, e5, e6]
    have fin : Hid (∀ o : Obj, ∃ vb', BkAt (w.alloc o) b vb' L ∧ But (bkF b vb) w (w.alloc o) ∧ ∀ k, bkF b vb' k → bkF b vb k ∨ w.heap.size ≤ k) := fun o =>
      ⟨vb, h.grow (balloc (brefl _) _), But.of_below (balloc (brefl _) _), fun k hk => .inl hk⟩
    have hin : ¬ ((0 ≤ q ∧ q < 4096) ∧ (0 ≤ r ∧ r < 8)) := fun h => hin ⟨Pg.below_iff.2 h.1, Pg.below_iff.2 h.2⟩
    clear h HX e4 e5 e6
    by_cases q0 : q < 0
    · clear hin
      go_enter Try.func35, Try.ntmps35
      go_wp2_with fail
      refine bodyPost_ret (v := .tuple #[.agg #[.int .i64 0, .int .i64 0, .int .i64 0, .int .i64 0], .int .i64 1]) ?_ rfl ⟨rfl, fin.out _⟩
      simp [results, Try.results35, go_sem]
    · by_cases q1 : 4096 ≤ q
      · clear hin
        go_enter Try.func35, Try.ntmps35
        go_wp2_with fail
        refine bodyPost_ret (v := .tuple #[.agg #[.int .i64 0, .int .i64 0, .int .i64 0, .int .i64 0], .int .i64 1]) ?_ rfl ⟨rfl, fin.out _⟩
        simp [results, Try.results35, go_sem]
      · by_cases r0 : r < 0
        · clear hin
          go_enter Try.func35, Try.ntmps35
          go_wp2_with fail
          refine bodyPost_ret (v := .tuple #[.agg #[.int .i64 0, .int .i64 0, .int .i64 0, .int .i64 0], .int .i64 1]) ?_ rfl ⟨rfl, fin.out _⟩
          simp [results, Try.results35, go_sem]
        · have r1 : 7 < r := by omega
          clear hin
          go_enter Try.func35, Try.ntmps35
          go_wp2_with fail
          refine bodyPost_ret (v := .tuple #[.agg #[.int .i64 0, .int .i64 0, .int .i64 0, .int .i64 0], .int .i64 1]) ?_ rfl ⟨rfl, fin.out _⟩
          simp [results, Try.results35, go_sem]
end Go.Proofs.Ytkcmlmofcjdgoab
