/-
  Small laws that carry what a box holds from one world to a later one.
-/
import Derived.Test.YthddfdmejbkpmaaPageB
import Derived.WalkSpells
namespace Go.Proofs.Ythddfdmejbkpmaa
open Go.RowKit Go.Sort

theorem later3 {w w' : World} {b : Nat} {v0 v1 v2 : Value} (hb : Below w.heap.size w w')
    (h : w.cell? ⟨b, 0, none⟩ = some v0 ∧ w.cell? ⟨b, 1, none⟩ = some v1 ∧ w.cell? ⟨b, 2, none⟩ = some v2) :
    w'.cell? ⟨b, 0, none⟩ = some v0 ∧ w'.cell? ⟨b, 1, none⟩ = some v1 ∧ w'.cell? ⟨b, 2, none⟩ = some v2 :=
  ⟨cell_later hb h.1, cell_later hb h.2.1, cell_later hb h.2.2⟩

theorem later4 {w w' : World} {b : Nat} {v0 v1 v2 v3 : Value} (hb : Below w.heap.size w w')
    (h : w.cell? ⟨b, 0, none⟩ = some v0 ∧ w.cell? ⟨b, 1, none⟩ = some v1 ∧ w.cell? ⟨b, 2, none⟩ = some v2 ∧ w.cell? ⟨b, 3, none⟩ = some v3) :
    w'.cell? ⟨b, 0, none⟩ = some v0 ∧ w'.cell? ⟨b, 1, none⟩ = some v1 ∧ w'.cell? ⟨b, 2, none⟩ = some v2 ∧ w'.cell? ⟨b, 3, none⟩ = some v3 :=
  ⟨cell_later hb h.1, cell_later hb h.2.1, cell_later hb h.2.2.1, cell_later hb h.2.2.2⟩

theorem frozen_later {w w' : World} {a : Addr} {v : Value} (hb : Below w.heap.size w w') (h : w.cell? a = some v) (hf : w.frozen? a = false) : w'.frozen? a = false :=
  (hb.frozen (World.block_lt_of_cell? _ _ h)).trans hf

/-- The facts on a box of four cells, in every world of the class. -/
theorem regrown4 {w : World} {b : Nat} {v0 v1 v2 v3 : Value}
    (h : w.cell? ⟨b, 0, none⟩ = some v0 ∧ w.cell? ⟨b, 1, none⟩ = some v1 ∧ w.cell? ⟨b, 2, none⟩ = some v2 ∧ w.cell? ⟨b, 3, none⟩ = some v3) (d : Nat) (os : Array Obj) :
    (grow (redrawn w d) os).cell? ⟨b, 0, none⟩ = some v0 ∧ (grow (redrawn w d) os).cell? ⟨b, 1, none⟩ = some v1 ∧ (grow (redrawn w d) os).cell? ⟨b, 2, none⟩ = some v2 ∧ (grow (redrawn w d) os).cell? ⟨b, 3, none⟩ = some v3 :=
  later4 (below_regrown w d os) h
theorem regrown3 {w : World} {b : Nat} {v0 v1 v2 : Value}
    (h : w.cell? ⟨b, 0, none⟩ = some v0 ∧ w.cell? ⟨b, 1, none⟩ = some v1 ∧ w.cell? ⟨b, 2, none⟩ = some v2) (d : Nat) (os : Array Obj) :
    (grow (redrawn w d) os).cell? ⟨b, 0, none⟩ = some v0 ∧ (grow (redrawn w d) os).cell? ⟨b, 1, none⟩ = some v1 ∧ (grow (redrawn w d) os).cell? ⟨b, 2, none⟩ = some v2 :=
  later3 (below_regrown w d os) h
end Go.Proofs.Ythddfdmejbkpmaa
