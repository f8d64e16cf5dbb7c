
/-
  The developers' changes of tables: Find and Protect.
-/
import Derived.Test.YtiojflaehjbcbaeGreatTabB
import Derived.Deep.RegionHeld3
namespace Go.Proofs.YtiojflaehjbcbaeGreat
open Go.RowKit Go.Sort
set_option linter.unusedVariables false
set_option linter.unusedSimpArgs false
set_option maxRecDepth 100000

theorem map_rts {e : Pg.En} {lv : Nat} {p r : Int} (hf : e.fault lv = 0) (ht : e.t = true) (hl : e.l = true) (hp : Pg.below p 4096 = true) (h0 : 0 ≤ r) (h1 : r ≤ 7) : Pg.En.map ⟨e.t, e.l, r, e.u, e.d, e.f⟩ lv p = (e.map lv p).rts r := by
  obtain ⟨et, el, er, eu, ed, ef⟩ := e
  simp only at ht hl
  subst ht hl
  unfold Pg.En.fault at hf
  have hf' : Pg.eFault true true r eu ed ef lv = 0 := by
    unfold Pg.eFault at hf ⊢
    simp only at hf
    rw [if_neg (by omega)]
    rw [if_neg (by simp), if_neg (by rintro (h | h | h | h) <;> simp_all <;> omega)]
    split at hf
    · omega
    · rw [if_neg (by simp)] at hf
      split at hf
      · omega
      · simpa using hf
  have o1 : Pg.lOk true true er eu ed ef lv p = true := by
    simp only [Pg.lOk, hf, hp]; simp
  have o2 : Pg.lOk true true r eu ed ef lv p = true := by
    simp only [Pg.lOk, hf', hp]; simp
  simp [Pg.En.map, Pg.Mp.rts, Pg.lPage, Pg.lSize, Pg.lFrame, Pg.lRights, o1, o2]

theorem below_set6 {w w1 : World} (h : Below w.heap.size w w1) (r : Nat) (hr : w.heap.size ≤ r) (x0 x1 x2 x3 x4 x5 : Value) :
    Below w.heap.size w ((((((w1.setCell ⟨r, 0, none⟩ x0).setCell ⟨r, 1, none⟩ x1).setCell ⟨r, 2, none⟩ x2).setCell ⟨r, 3, none⟩ x3).setCell ⟨r, 4, none⟩ x4).setCell ⟨r, 5, none⟩ x5) :=
  (((((h.setCell (p := ⟨r, 0, none⟩) hr x0).setCell (p := ⟨r, 1, none⟩) hr x1).setCell (p := ⟨r, 2, none⟩) hr x2).setCell (p := ⟨r, 3, none⟩) hr x3).setCell (p := ⟨r, 4, none⟩) hr x4).setCell (p := ⟨r, 5, none⟩) hr x5

set_option maxHeartbeats 1000000 in
theorem tFind_any {b : Nat} {S : Pg.Fs} {F : Nat → Prop} (t p : Int) (w : World) (h : FrAt w b S F) :
    Calls Tryz.prog 57 #[.pointer (some ⟨b, 0, none⟩), .int .i64 t, .int .i64 p] w fun en w' => en = .returned (.tuple #[(Pg.tFM S t p).val, (Pg.tFE S t p).val, .int .i64 (Pg.tFC S t p)]) ∧ Below w.heap.size w w' := by
  obtain ⟨W2, hW2⟩ : ∃ W2, W2 = (w.alloc (.cells #[.int .i64 0, .int .i64 0, .int .i64 0, .int .i64 0] 39)).alloc (.cells #[.bool false, .bool false, .int .i64 0, .bool false, .bool false, .int .i64 0] 70) := ⟨_, rfl⟩
  have hB2 : Below w.heap.size w W2 := by rw [hW2]; exact balloc (balloc (brefl w) _) _
  have r4 : W2.cell? ⟨w.heap.size, 0, none⟩ = some (.int .i64 0) ∧ W2.cell? ⟨w.heap.size, 1, none⟩ = some (.int .i64 0) ∧ W2.cell? ⟨w.heap.size, 2, none⟩ = some (.int .i64 0) ∧ W2.cell? ⟨w.heap.size, 3, none⟩ = some (.int .i64 0) := by rw [hW2]; simp [go_sem]
  have r6 : W2.cell? ⟨w.heap.size + 1, 0, none⟩ = some (.bool false) ∧ W2.cell? ⟨w.heap.size + 1, 1, none⟩ = some (.bool false) ∧ W2.cell? ⟨w.heap.size + 1, 2, none⟩ = some (.int .i64 0) ∧ W2.cell? ⟨w.heap.size + 1, 3, none⟩ = some (.bool false) ∧ W2.cell? ⟨w.heap.size + 1, 4, none⟩ = some (.bool false) ∧ W2.cell? ⟨w.heap.size + 1, 5, none⟩ = some (.int .i64 0) := by rw [hW2]; simp [go_sem]
  have rf4 : ∀ o, W2.frozen? ⟨w.heap.size, o, none⟩ = false := fun o => by rw [hW2]; simp [go_sem]
  have rf6 : ∀ o, W2.frozen? ⟨w.heap.size + 1, o, none⟩ = false := fun o => by rw [hW2]; simp [go_sem]
  have hsz : W2.heap.size = w.heap.size + 2 := by rw [hW2]; simp
  have HW := newLeafMaker_any t p W2 (h.keep (G := fun _ => False) (But.of_below hB2) fun _ _ => id)
  have HR4 : Hid _ := r4
  have HR6 : Hid _ := r6
  have HF4 : Hid _ := rf4
  have HF6 : Hid _ := rf6
  have HB2 : Hid _ := hB2
  have e2 : Pg.tFM S t p = if Pg.tFC S t p = 0 then (lastE (fndX S t p)).map (lastL (fndX S t p)) p else .zz := rfl
  have e3 : Pg.tFE S t p = if Pg.tFC S t p = 0 then lastE (fndX S t p) else Pg.En.zero := rfl
  generalize Pg.tFC S t p = cc at *
  generalize Pg.tFM S t p = mm at *
  generalize Pg.tFE S t p = ee at *
  generalize fndX S t p = X at *
  generalize lastL X = lv at *
  generalize lastE X = e at *
  have H0 : Hid (FrAt w b S F) := h
  clear h r4 r6 rf4 rf6 hB2
  go_enter Tryz.func57, Tryz.ntmps57
  go_wp2_with fail
  rw [← hW2]
  clear hW2
  refine HW.mono ?_
  rintro en w3 ⟨k, rfl, hS, hb3⟩
  obtain ⟨z0, z1, z2, z3⟩ := later4 hb3 HR4.out
  obtain ⟨y0, y1, y2, y3, y4, y5⟩ := later6 hb3 HR6.out
  have zf : ∀ o, w3.frozen? ⟨w.heap.size, o, none⟩ = false := fun o => (hb3.frozen (p := ⟨w.heap.size, o, none⟩) (by show w.heap.size < _; omega)).trans (HF4.out o)
  have yf : ∀ o, w3.frozen? ⟨w.heap.size + 1, o, none⟩ = false := fun o => (hb3.frozen (p := ⟨w.heap.size + 1, o, none⟩) (by show w.heap.size + 1 < _; omega)).trans (HF6.out o)
  have HB3 : Hid (Below w.heap.size w w3) := bthen HB2.out hb3
  have hl3 : w.heap.size < w3.heap.size := World.block_lt_of_cell? _ _ z0
  have hl3' : w.heap.size + 1 < w3.heap.size := World.block_lt_of_cell? _ _ y0
  clear HW hb3 HR4 HR6 HF4 HF6 HB2
  by_cases hc : cc = 0
  · subst hc
    rw [if_pos rfl] at e2 e3
    have E2 : Hid _ := e2
    have E3 : Hid _ := e3
    have HMap := fun W' (hb : Below w3.heap.size w3 W') => mkMapping_any (hS.grow hb)
    obtain ⟨B, v1, v2, F', hM, _, _, _, _, _, hmk⟩ := hS.body
    have hki : k < w.heap.size ∨ W2.heap.size ≤ k := (hmk k (.inl rfl)).imp (fun h => FrAt.lt H0.out h) id
    clear hmk
    have k2 := hM.c2
    have k3 := hM.c3
    have k4 := hM.c4
    have k5 := hM.c5
    have k6 := hM.c6
    have k7 := hM.c7
    have hlk := hM.lb
    clear hM hS e2 e3
    generalize e.map lv p = m at *
    obtain ⟨mp, ms, mf, mr⟩ := m
    obtain ⟨et, el, er, eu, ed, ef⟩ := e
    simp only at k2 k3 k4 k5 k6 k7
    simp only [Pg.Mp.val] at HMap
    have n1 : ¬ k = w.heap.size := by omega
    have n2 : ¬ k = w.heap.size + 1 := by omega
    have n1' : ¬ w.heap.size = k := by omega
    have n2' : ¬ w.heap.size + 1 = k := by omega
    go_wp2_with fail
    go_region_held3 (fun w' => w'.cell? ⟨k, 2, none⟩ = some (.bool et) ∧ w'.cell? ⟨k, 3, none⟩ = some (.bool el) ∧ w'.cell? ⟨k, 4, none⟩ = some (.int .i64 er) ∧ w'.cell? ⟨k, 5, none⟩ = some (.bool eu) ∧ w'.cell? ⟨k, 6, none⟩ = some (.bool ed) ∧ w'.cell? ⟨k, 7, none⟩ = some (.int .i64 ef)) (go_keep) (
      (go_at_call 99; refine (HMap _ (by first | exact (brefl w3).drew | exact brefl w3)).mono ?_; rintro en w4 ⟨rfl, hb4⟩
       have HB4 : Hid (Below w3.heap.size w3 w4) := bthen (brefl w3).drew hb4
       have q2 := cell_later HB4.out k2
       have q3 := cell_later HB4.out k3
       have q4 := cell_later HB4.out k4
       have q5 := cell_later HB4.out k5
       have q6 := cell_later HB4.out k6
       have q7 := cell_later HB4.out k7
       have x0 := cell_later HB4.out z0
       have x1 := cell_later HB4.out z1
       have x2 := cell_later HB4.out z2
       have x3 := cell_later HB4.out z3
       have u0 := cell_later HB4.out y0
       have u1 := cell_later HB4.out y1
       have u2 := cell_later HB4.out y2
       have u3 := cell_later HB4.out y3
       have u4 := cell_later HB4.out y4
       have u5 := cell_later HB4.out y5
       have xf : ∀ o, w4.frozen? ⟨w.heap.size, o, none⟩ = false := fun o => (HB4.out.frozen (p := ⟨w.heap.size, o, none⟩) hl3).trans (zf o)
       have uf : ∀ o, w4.frozen? ⟨w.heap.size + 1, o, none⟩ = false := fun o => (HB4.out.frozen (p := ⟨w.heap.size + 1, o, none⟩) hl3').trans (yf o)
       clear hb4))
    go_wp2_with fail
    refine bodyPost_ret (v := .tuple #[.agg #[.int .i64 mp, .int .i64 ms, .int .i64 mf, .int .i64 mr], .agg #[.bool et, .bool el, .int .i64 er, .bool eu, .bool ed, .int .i64 ef], .int .i64 0]) ?_ rfl ⟨by rw [E2.out, E3.out]; rfl, ?_⟩
    · simp [results, Tryz.results57, go_sem, x0, x1, x2, x3, u0, u1, u2, u3, u4, u5]
    · exact below_set6 (below_set4 (bthen HB3.out HB4.out) w.heap.size (Nat.le_refl _) _ _ _ _) (w.heap.size + 1) (by omega) _ _ _ _ _ _
  · have hcb : (cc != 0) = true := by simp [hc]
    rw [if_neg hc] at e2 e3
    have E2 : Hid _ := e2
    have E3 : Hid _ := e3
    clear e2 e3 hc hS
    go_wp2_with fail
    refine bodyPost_ret (v := .tuple #[.agg #[.int .i64 0, .int .i64 0, .int .i64 0, .int .i64 0], .agg #[.bool false, .bool false, .int .i64 0, .bool false, .bool false, .int .i64 0], .int .i64 cc]) ?_ rfl ⟨by rw [E2.out, E3.out]; rfl, ?_⟩
    · simp [results, Tryz.results57, go_sem, z0, z1, z2, z3, y0, y1, y2, y3, y4, y5]
    · exact below_set6 (below_set4 HB3.out w.heap.size (Nat.le_refl _) _ _ _ _) (w.heap.size + 1) (by omega) _ _ _ _ _ _
end Go.Proofs.YtiojflaehjbcbaeGreat
