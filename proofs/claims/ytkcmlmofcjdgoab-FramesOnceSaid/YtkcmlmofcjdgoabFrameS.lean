
/-
  How a list of steps on frames, handed in, is opened.
-/
import Derived.Test.YtkcmlmofcjdgoabFrame
import Derived.Deep.Slices
import Derived.Laws.LoneSync
namespace Go.Proofs.Ytkcmlmofcjdgoab
open Go.ChangeShapes Go.WideShapes Go.ChangeAt Go.RowKit Go.Joins Go.Deep
set_option linter.unusedVariables false

set_option maxRecDepth 100000

/-- A step's five numbers. -/
structure Stp where
  op : Int
  k : Int
  i : Int
  old : Int
  w : Int
def Stp.zz : Stp := ⟨0, 0, 0, 0, 0⟩

/-- The step x lies at the offset o of the block b. -/
def StpAt (W : World) (b o : Nat) (x : Stp) : Prop :=
  W.cell? ⟨b, o, none⟩ = some (.int .i64 x.op) ∧ W.cell? ⟨b, o + 1, none⟩ = some (.int .i64 x.k) ∧ W.cell? ⟨b, o + 2, none⟩ = some (.int .i64 x.i) ∧ W.cell? ⟨b, o + 3, none⟩ = some (.int .u64 x.old) ∧ W.cell? ⟨b, o + 4, none⟩ = some (.int .u64 x.w)

theorem u64_wf {x : Int} (w : (Lit.int .u64 x).wf = true) : 0 ≤ x ∧ x < 18446744073709551616 := by
  simp only [Lit.wf, IntKind.min, IntKind.max, IntKind.signed, IntKind.bits, Bool.and_eq_true, decide_eq_true_eq, Bool.false_eq_true, if_false] at w
  omega

section
variable {H : Type} {enc : TypeId × Value → H} {W : World} {r : Reach} {b0 base : Nat} {spare : Nat → Bool} {held : Bool} {v : Value} {d : DataW H} {p : List MemPlace}

theorem openSteps (hv : Value.okWide Try.prog W r b0 29 v) (h : DataW.Trod enc Try.prog W base spare held 29 v d p) :
    ∃ (ad : Option Addr) (len cap : Nat) (q : Nat → Stp), v = .slice ad len cap ∧
      ∀ j, j < len → (∃ b o, ad = some ⟨b, o, none⟩ ∧ b < W.heap.size ∧ StpAt W b (o + j * 5) (q j)) ∧ Pg.fits (q j).k ∧ Pg.fits (q j).i ∧ (0 ≤ (q j).old ∧ (q j).old < 18446744073709551616) ∧ (0 ≤ (q j).w ∧ (q j).w < 18446744073709551616) := by
  obtain ⟨a0, len, cap, rfl⟩ := okWide_slice Try.underlying29 hv
  obtain ⟨fuel, hf⟩ := h
  have k5 : Try.prog.cellsOf 38 = 5 := by kernel_rfl
  have k3 : Try.prog.cellsOf 3 = 1 := by kernel_rfl
  have ku : Try.prog.cellsOf 25 = 1 := by kernel_rfl
  rcases open_slice Try.underlying29 hf with ⟨e, _⟩ | ⟨a, len', cap', m, n, D, Pl, e, _, hl, hm, hmm, _, hx⟩
  · simp [Value.cells] at e
    obtain ⟨_, rfl, _⟩ := e
    exact ⟨a0, 0, cap, fun _ => .zz, rfl, fun j hj => absurd hj (by omega)⟩
  · simp [Value.cells] at e
    obtain ⟨rfl, rfl, rfl⟩ := e
    have hlm : len ≤ m := by rw [hmm]; split <;> omega
    have each : ∀ i, i < len → ∃ x : Stp, (∃ b o, some a = some ⟨b, o, none⟩ ∧ b < W.heap.size ∧ StpAt W b (o + i * 5) x) ∧ Pg.fits x.k ∧ Pg.fits x.i ∧ (0 ≤ x.old ∧ x.old < 18446744073709551616) ∧ (0 ≤ x.w ∧ x.w < 18446744073709551616) := by
      intro i hi
      obtain ⟨cs0, g1, _⟩ := hx 0 (by omega)
      rw [k5] at g1
      obtain ⟨_, glen, gcell⟩ := World.cells?_some g1
      obtain ⟨u, c0⟩ : ∃ u, W.cell? a = some u := by
        have c0 := gcell 0 (by omega)
        rw [List.getElem?_eq_getElem (by omega)] at c0
        exact ⟨_, by simpa [Addr.add] using c0⟩
      obtain ⟨cs', h1, h2⟩ := hx i (by omega)
      rw [k5] at h1
      obtain ⟨_, hlen, hcell⟩ := World.cells?_some h1
      obtain ⟨xs, k, hk, hxy, _, hxl, hq⟩ := DataW.trod_struct Try.underlying38 h2
      match xs, hxl, cs', hlen with
      | [y0, y1, y2, y3, y4], _, [v0, v1, v2, v3, v4], _ =>
        have q0 := hq 0 _ rfl
        have q1 := hq 1 _ rfl
        have q2 := hq 2 _ rfl
        have q3 := hq 3 _ rfl
        have q4 := hq 4 _ rfl
        simp [k3, ku] at q0 q1 q2 q3 q4
        obtain ⟨a0, e0, _, w0⟩ := DataW.trod_int Try.underlying3 q0
        obtain ⟨a1, e1, _, w1⟩ := DataW.trod_int Try.underlying3 q1
        obtain ⟨a2, e2, _, w2⟩ := DataW.trod_int Try.underlying3 q2
        obtain ⟨a3, e3, _, w3⟩ := DataW.trod_int Try.underlying25 q3
        obtain ⟨a4, e4, _, w4⟩ := DataW.trod_int Try.underlying25 q4
        simp at e0 e1 e2 e3 e4
        subst e0 e1 e2 e3 e4
        have d0 := hcell 0 (by omega)
        have d1 := hcell 1 (by omega)
        have d2 := hcell 2 (by omega)
        have d3 := hcell 3 (by omega)
        have d4 := hcell 4 (by omega)
        have hsp : a.spot = none := by
          obtain ⟨_, _, _, _, hs⟩ := World.shape?_of_cell? c0
          exact hs
        obtain ⟨b, o, sp⟩ := a
        cases hsp
        have hlt : b < W.heap.size := World.block_lt_of_cell? _ _ c0
        have ha : ∀ x y : Nat, ((⟨b, o, none⟩ : Addr).add x).add y = ⟨b, o + x + y, none⟩ := by
          intro x y
          unfold Addr.add
          split <;> split <;> simp_all <;> omega
        rw [ha] at d0 d1 d2 d3 d4
        refine ⟨⟨a0, a1, a2, a3, a4⟩, ⟨b, o, rfl, hlt, by simpa using d0, by simpa using d1, by simpa using d2, by simpa using d3, by simpa using d4⟩, Pg.fits_wf w1, Pg.fits_wf w2, u64_wf w3, u64_wf w4⟩
    have _ : Inhabited Stp := ⟨.zz⟩
    obtain ⟨q, hq⟩ := choose_lt each
    exact ⟨some a, len, cap, q, rfl, hq⟩
end
end Go.Proofs.Ytkcmlmofcjdgoab
