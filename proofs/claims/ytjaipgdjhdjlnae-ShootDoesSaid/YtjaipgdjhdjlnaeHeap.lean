
/-
  Small laws on worlds in which some blocks have been written and new ones laid.
-/
import Derived.Test.YtjaipgdjhdjlnaeBase
namespace Go.Proofs.Ytjaipgdjhdjlnae
open Go.RowKit Go.Sort
set_option linter.unusedVariables false

theorem alloc3 (w : World) (a b c : Obj) : (((w.alloc a).alloc b).alloc c).heap[w.heap.size]? = some a ∧ (((w.alloc a).alloc b).alloc c).heap[w.heap.size + 1]? = some b ∧ (((w.alloc a).alloc b).alloc c).heap[w.heap.size + 1 + 1]? = some c := by
  have s1 : (w.alloc a).heap.size = w.heap.size + 1 := by simp
  have s2 : ((w.alloc a).alloc b).heap.size = w.heap.size + 1 + 1 := by simp
  refine ⟨?_, ?_, ?_⟩
  · rw [Below.heap_alloc _ _ _ (by omega), Below.heap_alloc _ _ _ (by omega)]
    exact heap_alloc_new w a
  · rw [Below.heap_alloc _ _ _ (by omega), ← s1]
    exact heap_alloc_new (w.alloc a) b
  · rw [← s2]
    exact heap_alloc_new ((w.alloc a).alloc b) c

/-- Of the blocks that were there those outside F are as they were. -/
structure But (F : Nat → Prop) (w w' : World) : Prop where
  os : w'.os = w.os
  tape : w'.tape = w.tape
  output : w'.output = w.output
  size : w.heap.size ≤ w'.heap.size
  block : ∀ k, k < w.heap.size → ¬ F k → w'.heap[k]? = w.heap[k]?

namespace But
variable {F G : Nat → Prop} {w w1 w2 : World}
theorem refl (F : Nat → Prop) (w : World) : But F w w := ⟨rfl, rfl, rfl, Nat.le_refl _, fun _ _ _ => rfl⟩
theorem trans (h : But F w w1) (k : But G w1 w2) (hG : ∀ i, i < w.heap.size → G i → F i) : But F w w2 :=
  ⟨k.os.trans h.os, k.tape.trans h.tape, k.output.trans h.output, Nat.le_trans h.size k.size,
    fun i hi hF => (k.block i (Nat.lt_of_lt_of_le hi h.size) (fun hg => hF (hG i hi hg))).trans (h.block i hi hF)⟩
theorem mono (h : But F w w1) (hG : ∀ i, i < w.heap.size → F i → G i) : But G w w1 :=
  ⟨h.os, h.tape, h.output, h.size, fun i hi hg => h.block i hi (fun hf => hg (hG i hi hf))⟩
theorem alloc (h : But F w w1) (o : Obj) : But F w (w1.alloc o) :=
  ⟨h.os, h.tape, h.output, Nat.le_trans h.size (by simp), fun i hi hF => (Below.heap_alloc w1 o i (Nat.lt_of_lt_of_le hi h.size)).trans (h.block i hi hF)⟩
theorem drew (h : But F w w1) : But F w w1.drew := ⟨h.os, h.tape, h.output, h.size, h.block⟩
theorem setCell (h : But F w w1) {a : Addr} (ha : w.heap.size ≤ a.block ∨ F a.block) (v : Value) : But F w (w1.setCell a v) := by
  have hb : Below 0 w1 (w1.setCell a v) := (Below.refl 0 w1).setCell (Nat.zero_le _) v
  refine ⟨hb.os.trans h.os, hb.tape.trans h.tape, hb.output.trans h.output, Nat.le_trans h.size hb.size, fun i hi hF => ?_⟩
  refine (Below.heap_setCell w1 a v i ?_).trans (h.block i hi hF)
  rintro rfl
  rcases ha with h' | h'
  · omega
  · exact hF h'
theorem grown (h : But F w w1) {row : Option Nat} (hg : w1.grownBy w2 row) (hr : ∀ k, row = some k → w.heap.size ≤ k ∨ F k) : But F w w2 :=
  ⟨hg.os.trans h.os, hg.tape.trans h.tape, hg.output.trans h.output, Nat.le_trans h.size hg.size, fun i hi hF =>
    (hg.block i (Nat.lt_of_lt_of_le hi h.size) (fun e => (hr i e.symm).elim (fun h' => by omega) hF)).trans (h.block i hi hF)⟩
theorem cell (h : But F w w1) {a : Addr} (ha : a.block < w.heap.size) (hF : ¬ F a.block) : w1.cell? a = w.cell? a := World.cell?_of_block (h.block a.block ha hF)
theorem frozen (h : But F w w1) {a : Addr} (ha : a.block < w.heap.size) (hF : ¬ F a.block) : w1.frozen? a = w.frozen? a := World.frozen?_of_block (h.block a.block ha hF)
theorem below (h : But F w w1) {B : Nat} (hB : B ≤ w.heap.size) (hF : ∀ k, F k → B ≤ k) : Below B w w1 :=
  ⟨h.os, h.tape, h.output, h.size, fun k hk => h.block k (by omega) (fun hf => by have := hF k hf; omega)⟩
theorem of_below (h : Below w.heap.size w w1) : But F w w1 := ⟨h.os, h.tape, h.output, h.size, fun k hk _ => h.block k hk⟩
end But
end Go.Proofs.Ytjaipgdjhdjlnae
