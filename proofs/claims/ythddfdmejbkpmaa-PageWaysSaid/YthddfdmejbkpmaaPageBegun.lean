/-
  The little trial run that every statement on pages begins with comes out true.
-/
import Derived.Test.YthddfdmejbkpmaaPageB
namespace Go.Proofs.Ythddfdmejbkpmaa
open Go.RowKit
set_option linter.unusedVariables false

theorem below_of_same {P : Program} {f : FuncId} {args : Array Value} {w : World} {v : Value}
    (h : Calls P f args w fun e w' => e = .returned v ∧ w' = w) : Calls P f args w fun e w' => e = .returned v ∧ Below w.heap.size w w' :=
  h.mono fun _ _ ⟨he, hw⟩ => ⟨he, hw ▸ brefl w⟩

theorem pageBegun_any (w : World) :
    Calls Try.prog 7 #[] w fun e w' => e = .returned (.bool true) ∧ Below w.heap.size w w' := by
  have k1 : Pg.check 8 1 16 1 = 0 := by decide
  have k2 : Pg.over 8 1 15 = true := by decide
  have k3 : Pg.over 8 1 16 = false := by decide
  have k4 : Pg.index 4095 3 = 7 := by decide
  have k5 : Pg.aEnd 1 1 false = 0 := by decide
  have k6 : Pg.aFrame 8 16 1 9 1 false = 17 := by simp only [Pg.aFrame, wrap64]; decide
  have k7 : Pg.aRights 1 1 false = 1 := by decide
  have f8 : Pg.fits 8 := by unfold Pg.fits; omega
  have f15 : Pg.fits 15 := by unfold Pg.fits; omega
  have f16 : Pg.fits 16 := by unfold Pg.fits; omega
  go_enter Try.func7, Try.ntmps7
  go_wp2_with fail
  refine (check_any _ _ _ _ _).mono ?_
  rintro e w1 ⟨rfl, hb1⟩
  obtain ⟨hc1, hf1⟩ := bcell hb1
  go_wp2_with fail
  refine (over_any _ _ _ _ _ f8 f15 _).mono ?_
  rintro e w2 ⟨rfl, hb2⟩
  obtain ⟨hc2, hf2⟩ := bcell hb2
  have hz2 : w.heap.size < w1.heap.size := by have := hb1.size; simp at this; omega
  go_wp2_with fail
  refine (over_any _ _ _ _ _ f8 f16 _).mono ?_
  rintro e w3 ⟨rfl, hb3⟩
  obtain ⟨hc3, hf3⟩ := bcell hb3
  have hz3 : w.heap.size < w2.heap.size := by have := hb2.size; omega
  go_wp2_with fail
  refine (index_any _ _ _).mono ?_
  rintro e w4 ⟨rfl, rfl⟩
  go_wp2_with fail
  refine (answer_any _ _ _ _ _ _ _ _).mono ?_
  rintro e w5 ⟨rfl, hb5⟩
  go_wp2_with fail
  go_ret
  exact ⟨rfl, bthen (bthen (bthen (bthen ((((((balloc (brefl _) _)))))) hb1) hb2) hb3) hb5⟩
end Go.Proofs.Ythddfdmejbkpmaa
