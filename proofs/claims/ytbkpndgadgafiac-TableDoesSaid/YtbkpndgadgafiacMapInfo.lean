
/-
  Mappings in the program's own types; and blocks of four cells that are written anew.
-/
import Derived.Test.YtbkpndgadgafiacChecked
import Derived.Test.YtbkpndgadgafiacMapRow
namespace Go.Proofs.Ytbkpndgadgafiac
open Go.RowKit Go.Sort
set_option linter.unusedVariables false

theorem infoMap : (Try.prog.info? 53).map (fun i => (i.zero, i.size, i.bytes)) = some (some (.agg #[.int .i64 0, .int .i64 0, .int .i64 0, .int .i64 0]), 4, 32) := by kernel_rfl

theorem mpCells_one' (L : List Pg.Mp) : ∀ u, u ∈ mpCells L → u.oneCell' = true := by
  intro u hu
  obtain ⟨m, _, hm⟩ := List.mem_flatMap.1 hu
  simp at hm
  rcases hm with rfl | rfl | rfl | rfl <;> rfl

theorem but_set4 {F : Nat → Prop} {w w1 : World} (h : But F w w1) (r : Nat) (hr : w.heap.size ≤ r ∨ F r) (x0 x1 x2 x3 : Value) :
    But F w ((((w1.setCell ⟨r, 0, none⟩ x0).setCell ⟨r, 1, none⟩ x1).setCell ⟨r, 2, none⟩ x2).setCell ⟨r, 3, none⟩ x3) :=
  (((h.setCell (a := ⟨r, 0, none⟩) hr x0).setCell (a := ⟨r, 1, none⟩) hr x1).setCell (a := ⟨r, 2, none⟩) hr x2).setCell (a := ⟨r, 3, none⟩) hr x3
theorem below_set4 {w w1 : World} (h : Below w.heap.size w w1) (r : Nat) (hr : w.heap.size ≤ r) (x0 x1 x2 x3 : Value) :
    Below w.heap.size w ((((w1.setCell ⟨r, 0, none⟩ x0).setCell ⟨r, 1, none⟩ x1).setCell ⟨r, 2, none⟩ x2).setCell ⟨r, 3, none⟩ x3) :=
  (but_set4 (F := fun _ => False) (But.of_below h) r (.inl hr) x0 x1 x2 x3).below (Nat.le_refl _) (fun _ h => h.elim)
end Go.Proofs.Ytbkpndgadgafiac
