
/-
  How a list of words, handed in, is opened.
-/
import Derived.Test.YtbkpndgadgafiacFrame
import Derived.Test.YtbkpndgadgafiacWalkH
import Derived.Deep.Slices
import Derived.Laws.LoneSync
namespace Go.Proofs.Ytbkpndgadgafiac
open Go.ChangeShapes Go.WideShapes Go.ChangeAt Go.RowKit Go.Joins Go.Deep
set_option maxRecDepth 100000
set_option linter.unusedVariables false

theorem u64_wf {x : Int} (w : (Lit.int .u64 x).wf = true) : 0 ≤ x ∧ x < 18446744073709551616 := by
  simp only [Lit.wf, IntKind.min, IntKind.max, IntKind.signed, IntKind.bits, Bool.and_eq_true, decide_eq_true_eq, Bool.false_eq_true, if_false] at w
  omega

section
variable {H : Type} {enc : TypeId × Value → H} {W : World} {r : Reach} {b0 base : Nat} {spare : Nat → Bool} {held : Bool} {v : Value} {d : DataW H} {p : List MemPlace}

theorem openWords (hv : Value.okWide Try.prog W r b0 22 v) (h : DataW.Trod enc Try.prog W base spare held 22 v d p) :
    ∃ (ad : Option Addr) (len cap : Nat) (q : Nat → Int), v = .slice ad len cap ∧ WordsAt W ad len q := by
  obtain ⟨a0, len, cap, rfl⟩ := okWide_slice Try.underlying22 hv
  obtain ⟨fuel, hf⟩ := h
  have k1 : Try.prog.cellsOf 85 = 1 := by kernel_rfl
  rcases open_slice1 Try.underlying22 k1 hf with ⟨e, _⟩ | ⟨a, len', cap', m, n, V, D, Pl, e, _, hl, hm, hmm, _, hx⟩
  · simp [Value.cells] at e
    obtain ⟨_, rfl, _⟩ := e
    exact ⟨a0, 0, cap, fun _ => 0, rfl, fun j hj => absurd hj (by omega)⟩
  · simp [Value.cells] at e
    obtain ⟨rfl, rfl, rfl⟩ := e
    have hlm : len ≤ m := by rw [hmm]; split <;> omega
    have each : ∀ i, i < len → ∃ x : Int, (∃ b o, some a = some ⟨b, o, none⟩ ∧ b < W.heap.size ∧ W.cell? ⟨b, o + i, none⟩ = some (.int .u64 x)) ∧ 0 ≤ x ∧ x < 18446744073709551616 := by
      intro i hi
      obtain ⟨c0, _⟩ := hx 0 (by omega)
      obtain ⟨c1, h2⟩ := hx i (by omega)
      obtain ⟨x, e0, _, w0⟩ := DataW.trod_int Try.underlying85 h2
      simp at e0
      rw [e0] at c1
      have hz : a.add 0 = a := by unfold Addr.add; split <;> simp_all
      rw [hz] at c0
      have hsp : a.spot = none := by
        obtain ⟨_, _, _, _, hs⟩ := World.shape?_of_cell? c0
        exact hs
      obtain ⟨b, o, sp⟩ := a
      cases hsp
      have hlt : b < W.heap.size := World.block_lt_of_cell? _ _ c0
      have ha : (⟨b, o, none⟩ : Addr).add i = ⟨b, o + i, none⟩ := by unfold Addr.add; split <;> simp_all
      rw [ha] at c1
      exact ⟨x, ⟨b, o, rfl, hlt, c1⟩, u64_wf w0⟩
    obtain ⟨q, hq⟩ := choose_lt each
    exact ⟨some a, len, cap, q, rfl, hq⟩
end
end Go.Proofs.Ytbkpndgadgafiac
