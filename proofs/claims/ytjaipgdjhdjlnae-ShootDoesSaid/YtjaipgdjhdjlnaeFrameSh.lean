
/-
  How a list of steps on what cores are told, handed in, is opened.
-/
import Derived.Test.YtjaipgdjhdjlnaeFrame
import Derived.Test.YtjaipgdjhdjlnaePlainB
import Derived.Deep.Slices
import Derived.Laws.LoneSync
namespace Go.Proofs.Ytjaipgdjhdjlnae
open Go.ChangeShapes Go.WideShapes Go.ChangeAt Go.RowKit Go.Joins Go.Deep
set_option maxRecDepth 100000
set_option linter.unusedVariables false

/-- A step: what to do, a number, a mapping. -/
structure Sst where
  a : Int
  k : Int
  m : Pg.Mp
def Sst.zz : Sst := ⟨0, 0, .zz⟩

/-- The step x lies at the offset o of the block b. -/
def SstAt (W : World) (b o : Nat) (x : Sst) : Prop :=
  W.cell? ⟨b, o, none⟩ = some (.int .i64 x.a) ∧ W.cell? ⟨b, o + 1, none⟩ = some (.int .i64 x.k) ∧ W.cell? ⟨b, o + 2, none⟩ = some (.int .i64 x.m.p) ∧ W.cell? ⟨b, o + 3, none⟩ = some (.int .i64 x.m.s) ∧ W.cell? ⟨b, o + 4, none⟩ = some (.int .i64 x.m.f) ∧ W.cell? ⟨b, o + 5, none⟩ = some (.int .i64 x.m.r)
def SstFits (x : Sst) : Prop := Pg.fits x.k ∧ Pg.fits x.m.p

section
variable {H : Type} {enc : TypeId × Value → H} {W : World} {r : Reach} {b0 base : Nat} {spare : Nat → Bool} {held : Bool} {v : Value} {d : DataW H} {p : List MemPlace}

theorem openSsts (hv : Value.okWide Try.prog W r b0 79 v) (h : DataW.Trod enc Try.prog W base spare held 79 v d p) :
    ∃ (ad : Option Addr) (len cap : Nat) (q : Nat → Sst), v = .slice ad len cap ∧
      ∀ j, j < len → (∃ b o, ad = some ⟨b, o, none⟩ ∧ b < W.heap.size ∧ SstAt W b (o + j * 6) (q j)) ∧ SstFits (q j) := by
  obtain ⟨a0, len, cap, rfl⟩ := okWide_slice Try.underlying79 hv
  obtain ⟨fuel, hf⟩ := h
  have k9 : Try.prog.cellsOf 83 = 6 := by kernel_rfl
  have k1 : Try.prog.cellsOf 3 = 1 := by kernel_rfl
  have km : Try.prog.cellsOf 39 = 4 := by kernel_rfl
  rcases open_slice Try.underlying79 hf with ⟨e, _⟩ | ⟨a, len', cap', m, n, D, Pl, e, _, hl, hm, hmm, _, hx⟩
  · simp [Value.cells] at e
    obtain ⟨_, rfl, _⟩ := e
    exact ⟨a0, 0, cap, fun _ => .zz, rfl, fun j hj => absurd hj (by omega)⟩
  · simp [Value.cells] at e
    obtain ⟨rfl, rfl, rfl⟩ := e
    have hlm : len ≤ m := by rw [hmm]; split <;> omega
    have each : ∀ i, i < len → ∃ x : Sst, (∃ b o, some a = some ⟨b, o, none⟩ ∧ b < W.heap.size ∧ SstAt W b (o + i * 6) x) ∧ SstFits x := by
      intro i hi
      obtain ⟨cs0, g1, _⟩ := hx 0 (by omega)
      rw [k9] at g1
      obtain ⟨_, glen, gcell⟩ := World.cells?_some g1
      obtain ⟨u, c0⟩ : ∃ u, W.cell? a = some u := by
        have c0 := gcell 0 (by omega)
        rw [List.getElem?_eq_getElem (by omega)] at c0
        exact ⟨_, by simpa [Addr.add] using c0⟩
      obtain ⟨cs', h1, h2⟩ := hx i (by omega)
      rw [k9] at h1
      obtain ⟨_, hlen, hcell⟩ := World.cells?_some h1
      obtain ⟨xs, k, hk, hxy, _, hxl, hq⟩ := DataW.trod_struct Try.underlying83 h2
      match xs, hxl, cs', hlen with
      | [y0, y1, y2], _, [v0, v1, v2, v3, v4, v5], _ =>
        have q0 := hq 0 _ rfl
        have q1 := hq 1 _ rfl
        have q2 := hq 2 _ rfl
        simp [k1, km] at q0 q1 q2
        obtain ⟨xm, kM, _, _, _, hml, hmq⟩ := DataW.trod_struct Try.underlying39 q2
        match xm, hml with
        | [m0, m1, m2, m3], _ =>
          have r0 := hmq 0 _ rfl
          have r1 := hmq 1 _ rfl
          have r2 := hmq 2 _ rfl
          have r3 := hmq 3 _ rfl
          simp [k1] at r0 r1 r2 r3
          obtain ⟨a0, e0, _, _⟩ := DataW.trod_int Try.underlying3 q0
          obtain ⟨a1, e1, _, w1⟩ := DataW.trod_int Try.underlying3 q1
          obtain ⟨a2, e2, _, w2⟩ := DataW.trod_int Try.underlying3 r0
          obtain ⟨a3, e3, _, w3⟩ := DataW.trod_int Try.underlying3 r1
          obtain ⟨a4, e4, _, w4⟩ := DataW.trod_int Try.underlying3 r2
          obtain ⟨a5, e5, _, w5⟩ := DataW.trod_int Try.underlying3 r3
          simp at e0 e1 e2 e3 e4 e5
          subst e0 e1 e2 e3 e4 e5
          have d0 := hcell 0 (by omega)
          have d1 := hcell 1 (by omega)
          have d2 := hcell 2 (by omega)
          have d3 := hcell 3 (by omega)
          have d4 := hcell 4 (by omega)
          have d5 := hcell 5 (by omega)
          have hsp : a.spot = none := by
            obtain ⟨_, _, _, _, hs⟩ := World.shape?_of_cell? c0
            exact hs
          obtain ⟨b, o, sp⟩ := a
          cases hsp
          have hlt : b < W.heap.size := World.block_lt_of_cell? _ _ c0
          have ha : ∀ x y : Nat, ((⟨b, o, none⟩ : Addr).add x).add y = ⟨b, o + x + y, none⟩ := by
            intro x y
            unfold Addr.add
            split <;> split <;> simp_all <;> omega
          rw [ha] at d0 d1 d2 d3 d4 d5
          exact ⟨⟨a0, a1, ⟨a2, a3, a4, a5⟩⟩, ⟨b, o, rfl, hlt, by simpa using d0, by simpa using d1, by simpa using d2, by simpa using d3, by simpa using d4, by simpa using d5⟩, Pg.fits_wf w1, Pg.fits_wf w2⟩
    have _ : Inhabited Sst := ⟨.zz⟩
    obtain ⟨q, hq⟩ := choose_lt each
    exact ⟨some a, len, cap, q, rfl, hq⟩
end
end Go.Proofs.Ytjaipgdjhdjlnae
