
/-
  How the statements on tables begin, and how they hold the two kinds of frames against each other.
-/
import Derived.Test.YtbkpndgadgafiacTabI
import Derived.Test.YtbkpndgadgafiacTabK
import Derived.Test.YtbkpndgadgafiacWalkH
import Derived.Test.YtbkpndgadgafiacWords
namespace Go.Proofs.Ytbkpndgadgafiac
open Go.RowKit Go.Sort
set_option linter.unusedVariables false
set_option linter.unusedSimpArgs false
set_option maxRecDepth 100000

theorem tabBegun_facts : Pg.insC (Pg.Fs.memory 4 1 (fun _ => 0) 0) 0 ⟨5, 0, 9, 3⟩ = 0 ∧ Pg.insC (Pg.insS (Pg.Fs.memory 4 1 (fun _ => 0) 0) 0 ⟨5, 0, 9, 3⟩) 0 ⟨512, 0, 0, 0⟩ = 6 ∧
    Pg.tFC (Pg.insS (Pg.Fs.memory 4 1 (fun _ => 0) 0) 0 ⟨5, 0, 9, 3⟩) 0 5 = 0 ∧ (Pg.tFM (Pg.insS (Pg.Fs.memory 4 1 (fun _ => 0) 0) 0 ⟨5, 0, 9, 3⟩) 0 5).f = 9 ∧ (Pg.tFE (Pg.insS (Pg.Fs.memory 4 1 (fun _ => 0) 0) 0 ⟨5, 0, 9, 3⟩) 0 5).r = 3 ∧
    (Pg.rmR (Pg.insS (Pg.Fs.memory 4 1 (fun _ => 0) 0) 0 ⟨5, 0, 9, 3⟩) 0 5).2 = [3, 2, 1] := by
  refine ⟨?_, ?_, ?_, ?_, ?_, ?_⟩ <;> decide +kernel

set_option maxHeartbeats 1000000 in
theorem tableBegun_any (w : World) :
    Calls Try.prog 22 #[] w fun e w' => e = .returned (.bool true) ∧ Below w.heap.size w w' := by
  obtain ⟨b1, b2, b3, b4, b5, b6⟩ := tabBegun_facts
  have hw : WordsAt w none 0 (fun _ => 0) := fun j hj => absurd hj (by omega)
  have HM := memory_any 4 (by omega) 1 none 0 0 (by omega) (fun _ => 0) w hw
  generalize Pg.Fs.memory 4 1 (fun _ => 0) 0 = S at *
  have e2 : Pg.insS (Pg.insS S 0 ⟨5, 0, 9, 3⟩) 0 ⟨512, 0, 0, 0⟩ = Pg.insS S 0 ⟨5, 0, 9, 3⟩ := by rw [Pg.insS, b2, if_neg (by decide)]
  have HI1 := fun (w : World) (b : Nat) (F : Nat → Prop) (h : FrAt w b S F) => tInsert_any 0 ⟨5, 0, 9, 3⟩ w h
  rw [b1] at HI1
  simp only [Pg.Mp.val] at HI1
  generalize Pg.insS S 0 ⟨5, 0, 9, 3⟩ = S1 at *
  have HI2 := fun (w : World) (b : Nat) (F : Nat → Prop) (h : FrAt w b S1 F) => tInsert_any 0 ⟨512, 0, 0, 0⟩ w h
  rw [b2, e2] at HI2
  simp only [Pg.Mp.val] at HI2
  have HF := fun (w : World) (b : Nat) (F : Nat → Prop) (h : FrAt w b S1 F) => tFind_any 0 5 w h
  rw [b3] at HF
  have HR := fun (w : World) (b : Nat) (F : Nat → Prop) (h : FrAt w b S1 F) => tRemove_any 0 5 w h
  rw [b3, b6] at HR
  generalize Pg.tFM S1 0 5 = mm at *
  generalize Pg.tFE S1 0 5 = ee at *
  obtain ⟨mp, ms, mf, mr⟩ := mm
  obtain ⟨et, el, er, eu, ed, ef⟩ := ee
  simp only at b4 b5
  subst b4 b5
  simp only [Pg.Mp.val, Pg.En.val] at HF
  generalize (Pg.rmR S1 0 5).1 = S2 at *
  clear hw b1 b2 b3 b6 e2
  go_enter Try.func22, Try.ntmps22
  go_wp2_with fail
  refine HM.mono ?_
  rintro e w1 ⟨bf, bm, g0, g1, vb, F, rfl, hS⟩
  have HS : Hid _ := hS
  clear hS HM
  go_wp2_with fail
  refine (HI1 _ _ _ HS.out.fr).mono ?_
  rintro e w2 ⟨rfl, F2, f1, f2, f3⟩
  have G2 : Hid _ := HS.out.stepF f1 f2 f3
  clear f1 f2 f3 HI1
  go_wp2_with fail
  refine (HI2 _ _ _ G2.out.fr).mono ?_
  rintro e w3 ⟨rfl, F3, f1, f2, f3⟩
  have G3 : Hid _ := G2.out.stepF f1 f2 f3
  clear f1 f2 f3 HI2
  go_wp2_with fail
  refine (HF _ _ _ G3.out.fr).mono ?_
  rintro e w4 ⟨rfl, hb4⟩
  have G4 : Hid _ := G3.out.grow hb4
  clear hb4 HF
  obtain ⟨W5, hW5⟩ : ∃ W5, W5 = (w4.alloc (.cells #[.int .i64 mp, .int .i64 ms, .int .i64 9, .int .i64 mr] 53)).alloc (.cells #[.bool et, .bool el, .int .i64 3, .bool eu, .bool ed, .int .i64 ef] 29) := ⟨_, rfl⟩
  have hb5 : Below w4.heap.size w4 W5 := by rw [hW5]; exact balloc (balloc (brefl _) _) _
  have c2 : W5.cell? ⟨w4.heap.size, 2, none⟩ = some (.int .i64 9) := by rw [hW5]; simp [go_sem]
  have c3 : W5.cell? ⟨w4.heap.size + 1, 2, none⟩ = some (.int .i64 3) := by rw [hW5]; simp [go_sem]
  have G5 : Hid _ := G4.out.grow hb5
  have HFl : Hid (∀ j, F3 j → j < w4.heap.size) := fun j hj => FrAt.lt G4.out.fr hj
  clear hb5
  go_wp2_with fail
  rw [← hW5]
  clear hW5
  refine (HR _ _ _ G5.out.fr).mono ?_
  rintro e w6 ⟨ad, cap, F6, rfl, hi, f1, f2, f3, hg⟩
  have G6 : Hid _ := G5.out.stepF f1 f2 f3
  have d2 := (f2.cell (a := ⟨w4.heap.size, 2, none⟩) (World.block_lt_of_cell? _ _ c2) fun h => by have := HFl.out _ h; simp at this).trans c2
  have d3 := (f2.cell (a := ⟨w4.heap.size + 1, 2, none⟩) (World.block_lt_of_cell? _ _ c3) fun h => by have := HFl.out _ h; simp at this; omega).trans c3
  obtain ⟨g, rfl, hgl, hgc⟩ := hi 0 (by decide)
  have hgc' : w6.cell? ⟨g, 0, none⟩ = some (.int .i64 3) := hgc
  have hl1 : w4.heap.size < w6.heap.size := World.block_lt_of_cell? _ _ d2
  have hl2 : w4.heap.size + 1 < w6.heap.size := World.block_lt_of_cell? _ _ d3
  clear f1 f2 f3 hg hi hgc c2 c3 HR
  simp only [Pg.Mp.val]
  go_wp2_with fail
  go_ret
  exact ⟨rfl, balloc G6.out.bel _⟩

end Go.Proofs.Ytbkpndgadgafiac
