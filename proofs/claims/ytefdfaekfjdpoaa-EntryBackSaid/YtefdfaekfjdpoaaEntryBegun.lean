/-
  The little trial run that every statement on entries begins with comes out true.
-/
import Derived.Test.YtefdfaekfjdpoaaEntry
namespace Go.Proofs.Ytefdfaekfjdpoaa
open Go.RowKit Go.Sort
set_option linter.unusedVariables false

set_option maxHeartbeats 4000000 in
theorem entryBegun_any (w : World) :
    Calls Try.prog 27 #[] w fun e w' => e = .returned (.bool true) ∧ Below w.heap.size w w' := by
  have k1 : Pg.enc true true 5 false true 8 1 = 32971 := by decide
  have k2 : Pg.eFault true true 5 false true 8 1 = 0 := by decide
  have v1 : Pg.decV 32971 1 = .tuple #[.agg #[.bool true, .bool true, .int .i64 5, .bool false, .bool true, .int .i64 8], .int .i64 0] := by
    have a : Pg.dGood 32971 1 = true := by decide
    have b : Pg.xL 32971 1 = true := by decide
    have c : Pg.xR 32971 1 = 5 := by decide
    have d : Pg.xU 32971 1 = false := by decide
    have e : Pg.xD 32971 1 = true := by decide
    have f : Pg.xF 32971 1 = 8 := by decide
    have g : Pg.dCode 32971 1 = 0 := by decide
    simp only [Pg.decV, a, b, c, d, e, f, g]
  have v2 : Pg.decV 16 1 = .tuple #[.agg #[.bool false, .bool false, .int .i64 0, .bool false, .bool false, .int .i64 0], .int .i64 7] := by
    have g : Pg.dCode 16 1 = 7 := by decide
    exact Pg.decV_bad g (by simp [Pg.dGood, g])
  have V1 : Hid _ := v1
  have V2 : Hid _ := v2
  clear v1 v2
  go_enter Try.func27, Try.ntmps27
  go_wp2_with fail
  refine (encode_any _ _ _ _ _ _ _ _).mono ?_
  rintro e w1 ⟨rfl, hb1⟩
  go_wp2_with fail
  refine (decode_any _ _ (by omega) (by omega) _).mono ?_
  rintro e w2 ⟨rfl, hb2⟩
  rw [V1.out]
  go_wp2_with fail
  refine (decode_any _ _ (by omega) (by omega) _).mono ?_
  rintro e w3 ⟨rfl, hb3⟩
  rw [V2.out]
  obtain ⟨hc3, hf3⟩ := bcell hb3
  have hz : w2.heap.size < w3.heap.size := by have := hb3.size; simp at this; omega
  have hz2 : ¬ w2.heap.size = w3.heap.size := by omega
  go_wp2_with fail
  go_ret
  exact ⟨rfl, balloc (bthen (balloc (bthen hb1 hb2) _) hb3) _⟩
end Go.Proofs.Ytefdfaekfjdpoaa
