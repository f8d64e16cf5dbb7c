
/-
  The document's own book: Answer.
-/
import Derived.Test.YtkcmlmofcjdgoabBookRefD
namespace Go.Proofs.Ytkcmlmofcjdgoab
open Go.RowKit Go.Sort
set_option maxRecDepth 100000
set_option linter.unusedVariables false

set_option maxHeartbeats 4000000 in
theorem refAnswer_any {b : Nat} {vb : Value} {L : List Pg.Mp} (q k : Int) (u : Bool) (hq : Pg.fits q) (w : World) (h : BkAt w b vb L) :
    Calls Try.prog 41 #[.pointer (some ⟨b, 0, none⟩), .agg #[.int .i64 q, .int .i64 k, .bool u]] w fun e w' =>
      e = .returned (.agg #[.int .i64 (Pg.ansE L q k u), .int .i64 (Pg.ansF L q k u), .int .i64 (Pg.ansR L q k u)]) ∧ Below w.heap.size w w' := by
  have HX : Hid _ := h
  have HF := fun o o' => refFind_any q hq ((w.alloc o).alloc o') ((h.grow (balloc (brefl _) o)).grow (balloc (brefl _) o'))
  have hlen := h.good.len
  cases hf : Pg.fnd L q with
  | none =>
    have e1 : Pg.fndN L q = -1 := by simp [Pg.fndN, hf]
    have e2 : Pg.ansE L q k u = 1 := by simp [Pg.ansE, hf]
    have e3 : Pg.ansF L q k u = 0 := by simp [Pg.ansF, hf]
    have e4 : Pg.ansR L q k u = 0 := by simp [Pg.ansR, hf]
    rw [e2, e3, e4]
    rw [e1] at HF
    clear h e1 e2 e3 e4 hf
    go_enter Try.func41, Try.ntmps41
    go_wp2_with fail
    refine (HF _ _).mono ?_
    rintro e w1 ⟨rfl, hb1⟩
    have hr : ∀ o, w1.cell? ⟨w.heap.size + 1, o, none⟩ = _ := fun o => hb1.cell (p := ⟨w.heap.size + 1, o, none⟩) (by simp)
    have hf : ∀ o, w1.frozen? ⟨w.heap.size + 1, o, none⟩ = _ := fun o => hb1.frozen (p := ⟨w.heap.size + 1, o, none⟩) (by simp)
    have hB : Hid (Below w.heap.size w w1) := bthen (balloc (balloc (brefl _) _) _) hb1
    clear hb1 HF
    go_wp2_with fail
    refine bodyPost_ret (v := .agg #[.int .i64 1, .int .i64 0, .int .i64 0]) ?_ rfl ⟨rfl, ?_⟩
    · simp [results, Try.results41, go_sem, hr]
    · exact ((hB.out.setCell (by simp) _).setCell (by simp) _).setCell (by simp) _
  | some j =>
    have hj := Pg.fnd_some hf
    have e1 : Pg.fndN L q = (j : Int) := by simp [Pg.fndN, hf]
    have e2 : Pg.ansE L q k u = Pg.aEnd (L.getD j .zz).r k u := by simp only [Pg.ansE, hf]
    have e3 : Pg.ansF L q k u = Pg.aFrame (L.getD j .zz).p (L.getD j .zz).f (L.getD j .zz).r q k u := by simp only [Pg.ansF, hf]
    have e4 : Pg.ansR L q k u = Pg.aRights (L.getD j .zz).r k u := by simp only [Pg.ansR, hf]
    rw [e2, e3, e4]
    rw [e1] at HF
    have HA := answerOf_any (L.getD j .zz).p (L.getD j .zz).s (L.getD j .zz).f (L.getD j .zz).r q k u
    have hjl := hj.1
    obtain ⟨ad, cap, rfl⟩ := ownsMaps_form h.row
    obtain ⟨g, rfl, hg, hm⟩ := owns_mapsAt h.row j hjl
    have hc0 := h.c0
    have hlb := h.lb
    have i0 : (0 : Int) ≤ (j : Int) := by omega
    have i1 : (j : Int) < (L.length : Int) := by omega
    have n0 : ¬ (j : Int) < 0 := by omega
    obtain ⟨k0, k1, k2, k3⟩ := hm
    clear h e1 e2 e3 e4 hf hj
    generalize L.getD j .zz = y at *
    obtain ⟨mp, ms, mf, mr⟩ := y
    simp only at k0 k1 k2 k3 HA ⊢
    go_enter Try.func41, Try.ntmps41
    go_wp2_with fail
    refine (HF _ _).mono ?_
    rintro e w1 ⟨rfl, hb1⟩
    have hB : Below w.heap.size w w1 := bthen (balloc (balloc (brefl _) _) _) hb1
    have hr : Hid (∀ o, w1.cell? ⟨w.heap.size + 1, o, none⟩ = _) := fun o => hb1.cell (p := ⟨w.heap.size + 1, o, none⟩) (by simp)
    have hf : Hid (∀ o, w1.frozen? ⟨w.heap.size + 1, o, none⟩ = _) := fun o => hb1.frozen (p := ⟨w.heap.size + 1, o, none⟩) (by simp)
    have a0 : w1.cell? ⟨w.heap.size, 0, none⟩ = some (.int .i64 q) := (hb1.cell (p := ⟨w.heap.size, 0, none⟩) (by simp; omega)).trans (by simp [go_sem])
    have a1 : w1.cell? ⟨w.heap.size, 1, none⟩ = some (.int .i64 k) := (hb1.cell (p := ⟨w.heap.size, 1, none⟩) (by simp; omega)).trans (by simp [go_sem])
    have a2 : w1.cell? ⟨w.heap.size, 2, none⟩ = some (.bool u) := (hb1.cell (p := ⟨w.heap.size, 2, none⟩) (by simp; omega)).trans (by simp [go_sem])
    have hsz : w.heap.size + 1 < w1.heap.size := by have := hb1.size; simp at this; omega
    have b0 := (hB.cell (p := ⟨b, 0, none⟩) hlb).trans hc0
    have l0 := (hB.cell (p := ⟨g, j * 4, none⟩) hg).trans k0
    have l1 := (hB.cell (p := ⟨g, j * 4 + 1, none⟩) hg).trans k1
    have l2 := (hB.cell (p := ⟨g, j * 4 + 2, none⟩) hg).trans k2
    have l3 := (hB.cell (p := ⟨g, j * 4 + 3, none⟩) hg).trans k3
    have hbw : b < w1.heap.size := Nat.lt_of_lt_of_le hlb hB.size
    have hgw : g < w1.heap.size := Nat.lt_of_lt_of_le hg hB.size
    have hww : w.heap.size < w1.heap.size := by omega
    have y1 : w.heap.size + 1 ≠ b := by omega
    have y2 : w.heap.size + 1 ≠ g := by omega
    have y3 : b ≠ w.heap.size + 1 := by omega
    have y4 : g ≠ w.heap.size + 1 := by omega
    have HB : Hid _ := hB
    clear hb1 HF hB k0 k1 k2 k3 hc0
    go_wp2_with fail
    go_region_held3 (fun w' => w'.cell? ⟨b, 0, none⟩ = some (.slice (some ⟨g, 0, none⟩) L.length cap) ∧ w'.cell? ⟨g, j * 4, none⟩ = some (.int .i64 mp) ∧ w'.cell? ⟨g, j * 4 + 1, none⟩ = some (.int .i64 ms) ∧ w'.cell? ⟨g, j * 4 + 2, none⟩ = some (.int .i64 mf) ∧ w'.cell? ⟨g, j * 4 + 3, none⟩ = some (.int .i64 mr) ∧ w'.cell? ⟨w.heap.size, 0, none⟩ = some (.int .i64 q) ∧ w'.cell? ⟨w.heap.size, 1, none⟩ = some (.int .i64 k) ∧ w'.cell? ⟨w.heap.size, 2, none⟩ = some (.bool u)) (go_keep) (first
      | (go_at_call 60; refine (HA _).mono ?_; rintro e w2 ⟨rfl, hb2⟩; have s0 : ∀ o, w2.cell? ⟨w.heap.size + 1, o, none⟩ = _ := fun o => (hb2.cell (p := ⟨w.heap.size + 1, o, none⟩) (by simpa using hsz)).trans (hr.out o); have s1 : ∀ o, w2.frozen? ⟨w.heap.size + 1, o, none⟩ = _ := fun o => (hb2.frozen (p := ⟨w.heap.size + 1, o, none⟩) (by simpa using hsz)).trans (hf.out o); have z0 := (hb2.cell (p := ⟨b, 0, none⟩) (by simpa using hbw)).trans (by simpa using b0); have z1 := (hb2.cell (p := ⟨g, j * 4, none⟩) (by simpa using hgw)).trans (by simpa using l0); have z2 := (hb2.cell (p := ⟨g, j * 4 + 1, none⟩) (by simpa using hgw)).trans (by simpa using l1); have z3 := (hb2.cell (p := ⟨g, j * 4 + 2, none⟩) (by simpa using hgw)).trans (by simpa using l2); have z4 := (hb2.cell (p := ⟨g, j * 4 + 3, none⟩) (by simpa using hgw)).trans (by simpa using l3); have z5 := (hb2.cell (p := ⟨w.heap.size, 0, none⟩) (by simpa using hww)).trans (by simpa using a0); have z6 := (hb2.cell (p := ⟨w.heap.size, 1, none⟩) (by simpa using hww)).trans (by simpa using a1); have z7 := (hb2.cell (p := ⟨w.heap.size, 2, none⟩) (by simpa using hww)).trans (by simpa using a2); have HB2 : Hid (Below w.heap.size w w2) := bthen HB.out.drew hb2; clear hb2))
    all_goals
      go_wp2_with fail
      refine bodyPost_ret (v := .agg #[.int .i64 (Pg.aEnd mr k u), .int .i64 (Pg.aFrame mp mf mr q k u), .int .i64 (Pg.aRights mr k u)]) ?_ rfl ⟨rfl, ?_⟩
      · simp [results, Try.results41, go_sem, s0]
      · exact ((HB2.out.setCell (by simp) _).setCell (by simp) _).setCell (by simp) _
end Go.Proofs.Ytkcmlmofcjdgoab
