
/-
  The document's own changes of tables: Find.
-/
import Derived.Test.YtbkpndgadgafiacPlainT
import Derived.Test.YtbkpndgadgafiacWalkF
import Derived.Test.YtbkpndgadgafiacEntryRefC
import Derived.Test.YtbkpndgadgafiacMapInfo
import Derived.Deep.RegionHeld3
namespace Go.Proofs.Ytbkpndgadgafiac
open Go.RowKit Go.Sort
set_option linter.unusedVariables false
set_option linter.unusedSimpArgs false
set_option maxRecDepth 100000
attribute [local go_sem] Loose.gent

/-- A row's memory, where it only grows. -/
theorem MemAt.grow {w w' : World} {b g0 g1 : Nat} {vb : Value} {S : Pg.Fs} (h : MemAt w b g0 g1 vb S) (hb : Below w.heap.size w w') : MemAt w' b g0 g1 vb S := h.keep (F := fun _ => False) (But.of_below hb) (fun _ _ => id)

def six (w : World) (b : Nat) (e : Pg.En) : Prop := w.cell? ⟨b, 0, none⟩ = some (.bool e.t) ∧ w.cell? ⟨b, 1, none⟩ = some (.bool e.l) ∧ w.cell? ⟨b, 2, none⟩ = some (.int .i64 e.r) ∧ w.cell? ⟨b, 3, none⟩ = some (.bool e.u) ∧ w.cell? ⟨b, 4, none⟩ = some (.bool e.d) ∧ w.cell? ⟨b, 5, none⟩ = some (.int .i64 e.f)

set_option maxHeartbeats 1000000 in
theorem findIn_any {b g0 g1 : Nat} {vm : Value} {S : Pg.Fs} (t p : Int) (w : World) (h : MemAt w b g0 g1 vm S) :
    Calls Try.prog 34 #[.pointer (some ⟨b, 0, none⟩), .int .i64 t, .int .i64 p] w fun e w' => e = .returned (.tuple #[(Pg.tFM S t p).val, (Pg.tFE S t p).val, .int .i64 (Pg.tFC S t p)]) ∧ Below w.heap.size w w' := by
  obtain ⟨W2, hW2⟩ : ∃ W2, W2 = (w.alloc (.cells #[.int .i64 0, .int .i64 0, .int .i64 0, .int .i64 0] 53)).alloc (.cells #[.bool false, .bool false, .int .i64 0, .bool false, .bool false, .int .i64 0] 29) := ⟨_, rfl⟩
  have hB2 : Below w.heap.size w W2 := by rw [hW2]; exact balloc (balloc (brefl w) _) _
  have r4 : W2.cell? ⟨w.heap.size, 0, none⟩ = some (.int .i64 0) ∧ W2.cell? ⟨w.heap.size, 1, none⟩ = some (.int .i64 0) ∧ W2.cell? ⟨w.heap.size, 2, none⟩ = some (.int .i64 0) ∧ W2.cell? ⟨w.heap.size, 3, none⟩ = some (.int .i64 0) := by rw [hW2]; simp [go_sem]
  have r6 : W2.cell? ⟨w.heap.size + 1, 0, none⟩ = some (.bool false) ∧ W2.cell? ⟨w.heap.size + 1, 1, none⟩ = some (.bool false) ∧ W2.cell? ⟨w.heap.size + 1, 2, none⟩ = some (.int .i64 0) ∧ W2.cell? ⟨w.heap.size + 1, 3, none⟩ = some (.bool false) ∧ W2.cell? ⟨w.heap.size + 1, 4, none⟩ = some (.bool false) ∧ W2.cell? ⟨w.heap.size + 1, 5, none⟩ = some (.int .i64 0) := by rw [hW2]; simp [go_sem]
  have rf4 : ∀ o, W2.frozen? ⟨w.heap.size, o, none⟩ = false := fun o => by rw [hW2]; simp [go_sem]
  have rf6 : ∀ o, W2.frozen? ⟨w.heap.size + 1, o, none⟩ = false := fun o => by rw [hW2]; simp [go_sem]
  have hsz : W2.heap.size = w.heap.size + 2 := by rw [hW2]; simp
  have HW := wayTo_any t p W2 (h.grow hB2)
  have HR4 : Hid _ := r4
  have HR6 : Hid _ := r6
  have HF4 : Hid _ := rf4
  have HF6 : Hid _ := rf6
  have HB2 : Hid _ := hB2
  have e1 : Pg.tFC S t p = if fndC S t p ≠ 0 then fndC S t p else if (lastE (fndX S t p)).t = true then 0 else 5 := rfl
  have e2 : Pg.tFM S t p = if Pg.tFC S t p = 0 then (lastE (fndX S t p)).map (lastL (fndX S t p)) p else .zz := rfl
  have e3 : Pg.tFE S t p = if Pg.tFC S t p = 0 then lastE (fndX S t p) else Pg.En.zero := rfl
  generalize Pg.tFC S t p = cc at *
  generalize Pg.tFM S t p = mm at *
  generalize Pg.tFE S t p = ee at *
  generalize fndC S t p = fc at *
  generalize fndX S t p = X at *
  have HLM := fun w => leafMap_any (lastE X).t (lastE X).l (lastE X).r (lastE X).u (lastE X).d (lastE X).f (lastL X) p w
  have HLM' : ∀ w, Calls Try.prog 21 #[.agg #[.bool (lastE X).t, .bool (lastE X).l, .int .i64 (lastE X).r, .bool (lastE X).u, .bool (lastE X).d, .int .i64 (lastE X).f], .int .i64 (lastL X), .int .i64 p] w fun e w' => e = .returned ((lastE X).map (lastL X) p).val ∧ Below w.heap.size w w' := HLM
  clear h r4 r6 rf4 rf6 hB2 HLM
  have HV : Hid (∀ v, wayV X v = .agg #[v, .bool (lastE X).t, .bool (lastE X).l, .int .i64 (lastE X).r, .bool (lastE X).u, .bool (lastE X).d, .int .i64 (lastE X).f, .int .i64 (lastL X)]) := fun v => rfl
  generalize (lastE X).map (lastL X) p = lm at *
  generalize lastE X = E at *
  generalize lastL X = lv at *
  obtain ⟨et, el, er, eu, ed, ef⟩ := E
  obtain ⟨lp, ls, lf, lr⟩ := lm
  simp only [Pg.Mp.val] at HLM' HV
  by_cases hfc : fc = 0
  · subst hfc
    rw [if_neg (by simp)] at e1
    cases et
    · have e1' : cc = 5 := by rw [e1]; rfl
      subst e1'
      rw [if_neg (by decide)] at e2 e3
      subst e2 e3
      clear e1 HLM'
      go_enter Try.func34, Try.ntmps34
      go_wp2_with fail
      rw [← hW2]
      refine HW.mono ?_
      rintro e w1 ⟨⟨ad, cap, rfl, _⟩, hb1⟩
      obtain ⟨r0, r1, r2, r3⟩ := later4 hb1 HR4.out
      obtain ⟨s0, s1, s2, s3, s4, s5⟩ := later6 hb1 HR6.out
      have hl1 : w.heap.size + 1 < w1.heap.size := World.block_lt_of_cell? _ _ s0
      have hl0 : w.heap.size < w1.heap.size := by omega
      have hn0 : ¬ w.heap.size = w1.heap.size := by omega
      have hn1 : ¬ w.heap.size + 1 = w1.heap.size := by omega
      have f4 : ∀ o, w1.frozen? ⟨w.heap.size, o, none⟩ = false := fun o => (hb1.frozen (p := ⟨w.heap.size, o, none⟩) (by simp; omega)).trans (HF4.out o)
      have f6 : ∀ o, w1.frozen? ⟨w.heap.size + 1, o, none⟩ = false := fun o => (hb1.frozen (p := ⟨w.heap.size + 1, o, none⟩) (by simp; omega)).trans (HF6.out o)
      have HB1 : Hid (Below w.heap.size w w1) := bthen HB2.out hb1
      rw [HV.out]
      clear hb1 HW
      go_wp2_with fail
      refine bodyPost_ret (v := .tuple #[.agg #[.int .i64 0, .int .i64 0, .int .i64 0, .int .i64 0], .agg #[.bool false, .bool false, .int .i64 0, .bool false, .bool false, .int .i64 0], .int .i64 5]) ?_ rfl ⟨rfl, ?_⟩
      · simp [results, Try.results34, go_sem, r0, r1, r2, r3, s0, s1, s2, s3, s4, s5, hl1, hl0, hn0, hn1]
      · exact balloc ((((((((((HB1.out.setCell (by simp) _).setCell (by simp) _).setCell (by simp) _).setCell (by simp) _).setCell (by simp) _).setCell (by simp) _).setCell (by simp) _).setCell (by simp) _).setCell (by simp) _).setCell (by simp) _) _
    · have e1' : cc = 0 := by rw [e1]; rfl
      subst e1'
      rw [if_pos rfl] at e2 e3
      subst e2 e3
      clear e1
      go_enter Try.func34, Try.ntmps34
      go_wp2_with fail
      rw [← hW2]
      refine HW.mono ?_
      rintro e w1 ⟨⟨ad, cap, rfl, _⟩, hb1⟩
      have K4 : Hid _ := later4 hb1 HR4.out
      have K6 : Hid _ := later6 hb1 HR6.out
      have hl1 : w.heap.size + 1 < w1.heap.size := World.block_lt_of_cell? _ _ K6.out.1
      have hl0 : w.heap.size < w1.heap.size := by omega
      have hn0 : ¬ w.heap.size = w1.heap.size := by omega
      have hn1 : ¬ w.heap.size + 1 = w1.heap.size := by omega
      have f4 : Hid (∀ o, w1.frozen? ⟨w.heap.size, o, none⟩ = false) := fun o => (hb1.frozen (p := ⟨w.heap.size, o, none⟩) (by simp; omega)).trans (HF4.out o)
      have f6 : Hid (∀ o, w1.frozen? ⟨w.heap.size + 1, o, none⟩ = false) := fun o => (hb1.frozen (p := ⟨w.heap.size + 1, o, none⟩) (by simp; omega)).trans (HF6.out o)
      have HB1 : Hid (Below w.heap.size w w1) := bthen HB2.out hb1
      rw [HV.out]
      clear hb1 HW
      go_wp2_with fail
      obtain ⟨r0, r1, r2, r3⟩ := K4.out
      obtain ⟨s0, s1, s2, s3, s4, s5⟩ := K6.out
      have g4 := f4.out
      have g6 := f6.out
      go_region_held3 (fun w' => w'.cell? ⟨w1.heap.size, 1, none⟩ = some (.bool true) ∧ w'.cell? ⟨w1.heap.size, 2, none⟩ = some (.bool el) ∧ w'.cell? ⟨w1.heap.size, 3, none⟩ = some (.int .i64 er) ∧ w'.cell? ⟨w1.heap.size, 4, none⟩ = some (.bool eu) ∧ w'.cell? ⟨w1.heap.size, 5, none⟩ = some (.bool ed) ∧ w'.cell? ⟨w1.heap.size, 6, none⟩ = some (.int .i64 ef) ∧ w'.cell? ⟨w1.heap.size, 7, none⟩ = some (.int .i64 lv)) (go_keep) (first
        | (go_at_call 21; refine (HLM' _).mono ?_; rintro e w2 ⟨rfl, hb2⟩
           have t6 := later6 (b := w.heap.size + 1) hb2 (v0 := .bool false) (v1 := .bool false) (v2 := .int .i64 0) (v3 := .bool false) (v4 := .bool false) (v5 := .int .i64 0) (by simp [go_sem, s0, s1, s2, s3, s4, s5, hl1, hn1])
           have t4 := later4 (b := w.heap.size) hb2 (v0 := .int .i64 0) (v1 := .int .i64 0) (v2 := .int .i64 0) (v3 := .int .i64 0) (by simp [go_sem, r0, r1, r2, r3, hl0, hn0])
           have x4 : ∀ o, w2.frozen? ⟨w.heap.size, o, none⟩ = false := fun o => (hb2.frozen (p := ⟨w.heap.size, o, none⟩) (by simp; omega)).trans (by simp [go_sem, g4, hl0, hn0])
           have x6 : ∀ o, w2.frozen? ⟨w.heap.size + 1, o, none⟩ = false := fun o => (hb2.frozen (p := ⟨w.heap.size + 1, o, none⟩) (by simp; omega)).trans (by simp [go_sem, g6, hl1, hn1])
           have hc : ∀ o, w2.cell? ⟨w1.heap.size, o, none⟩ = _ := fun o => hb2.cell (p := ⟨w1.heap.size, o, none⟩) (by simp)
           have hz2 : w1.heap.size < w2.heap.size := by have := hb2.size; simp at this; omega
           have HB3 : Hid _ := hb2
           obtain ⟨t40, t41, t42, t43⟩ := t4
           obtain ⟨t60, t61, t62, t63, t64, t65⟩ := t6
           clear hb2))
      go_wp2_with fail
      refine bodyPost_ret (v := .tuple #[.agg #[.int .i64 lp, .int .i64 ls, .int .i64 lf, .int .i64 lr], .agg #[.bool true, .bool el, .int .i64 er, .bool eu, .bool ed, .int .i64 ef], .int .i64 0]) ?_ rfl ⟨rfl, ?_⟩
      · simp [results, Try.results34, go_sem, t40, t41, t42, t43, t60, t61, t62, t63, t64, t65, hl1, hl0, hn0, hn1]
      · have hb3 := bthen (balloc HB1.out _).drew HB3.out
        exact (((((((((hb3.setCell (by simp) _).setCell (by simp) _).setCell (by simp) _).setCell (by simp) _).setCell (by simp) _).setCell (by simp) _).setCell (by simp) _).setCell (by simp) _).setCell (by simp) _).setCell (by simp) _
  · have e1' : cc = fc := by rw [e1, if_pos hfc]
    subst e1'
    rw [if_neg hfc] at e2 e3
    subst e2 e3
    clear e1 HLM'
    go_enter Try.func34, Try.ntmps34
    go_wp2_with fail
    rw [← hW2]
    refine HW.mono ?_
    rintro e w1 ⟨⟨ad, cap, rfl, _⟩, hb1⟩
    obtain ⟨r0, r1, r2, r3⟩ := later4 hb1 HR4.out
    obtain ⟨s0, s1, s2, s3, s4, s5⟩ := later6 hb1 HR6.out
    have hl1 : w.heap.size + 1 < w1.heap.size := World.block_lt_of_cell? _ _ s0
    have hl0 : w.heap.size < w1.heap.size := by omega
    have hn0 : ¬ w.heap.size = w1.heap.size := by omega
    have hn1 : ¬ w.heap.size + 1 = w1.heap.size := by omega
    have f4 : ∀ o, w1.frozen? ⟨w.heap.size, o, none⟩ = false := fun o => (hb1.frozen (p := ⟨w.heap.size, o, none⟩) (by simp; omega)).trans (HF4.out o)
    have f6 : ∀ o, w1.frozen? ⟨w.heap.size + 1, o, none⟩ = false := fun o => (hb1.frozen (p := ⟨w.heap.size + 1, o, none⟩) (by simp; omega)).trans (HF6.out o)
    have HB1 : Hid (Below w.heap.size w w1) := bthen HB2.out hb1
    rw [HV.out]
    clear hb1 HW
    go_wp2_with fail
    refine bodyPost_ret (v := .tuple #[.agg #[.int .i64 0, .int .i64 0, .int .i64 0, .int .i64 0], .agg #[.bool false, .bool false, .int .i64 0, .bool false, .bool false, .int .i64 0], .int .i64 cc]) ?_ rfl ⟨rfl, ?_⟩
    · simp [results, Try.results34, go_sem, r0, r1, r2, r3, s0, s1, s2, s3, s4, s5, hl1, hl0, hn0, hn1]
    · exact balloc ((((((((((HB1.out.setCell (by simp) _).setCell (by simp) _).setCell (by simp) _).setCell (by simp) _).setCell (by simp) _).setCell (by simp) _).setCell (by simp) _).setCell (by simp) _).setCell (by simp) _).setCell (by simp) _) _
end Go.Proofs.Ytbkpndgadgafiac
