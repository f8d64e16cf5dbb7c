/-
  How an entry and a word, handed in, are opened.
-/
import Derived.Test.YtefdfaekfjdpoaaFrame
namespace Go.Proofs.Ytefdfaekfjdpoaa
open Go.ChangeShapes Go.WideShapes Go.ChangeAt Go.RowKit Go.Joins
set_option linter.unusedVariables false

theorem array6 {cs : Array Value} (h : cs.size = 6) : ∃ c0 c1 c2 c3 c4 c5, cs = #[c0, c1, c2, c3, c4, c5] := by
  obtain ⟨l⟩ := cs
  match l, h with
  | [c0, c1, c2, c3, c4, c5], _ => exact ⟨c0, c1, c2, c3, c4, c5, rfl⟩

section
variable {H : Type} {enc : TypeId × Value → H} {W : World} {r : Reach} {b0 base : Nat} {spare : Nat → Bool} {held : Bool} {v : Value} {d : DataW H} {p : List MemPlace}

theorem openEntry (hv : Value.okWide Try.prog W r b0 42 v) (h : DataW.Trod enc Try.prog W base spare held 42 v d p) :
    ∃ (t l : Bool) (x : Int) (u e : Bool) (f : Int), v = .agg #[.bool t, .bool l, .int .i64 x, .bool u, .bool e, .int .i64 f] ∧ Pg.fits x ∧ Pg.fits f := by
  obtain ⟨cs, rfl, hsz⟩ := okWide_struct Try.underlying42 hv
  obtain ⟨c0, c1, c2, c3, c4, c5, rfl⟩ := array6 (hsz.trans (by kernel_rfl))
  obtain ⟨fuel, hf⟩ := h
  obtain ⟨xs, n, _, _, _, hlen, hq⟩ := DataW.trod_struct Try.underlying42 hf
  have k4 : Try.prog.cellsOf 4 = 1 := by kernel_rfl
  have k3 : Try.prog.cellsOf 3 = 1 := by kernel_rfl
  have hx : ∀ i, i < 6 → ∃ y, xs[i]? = some y := fun i hi => by
    have : i < xs.length := by simpa using (by rw [hlen]; exact hi : i < xs.length)
    exact ⟨xs[i], by simp [this]⟩
  obtain ⟨y0, hy0⟩ := hx 0 (by omega)
  have q0 := hq 0 _ rfl
  rw [hy0] at q0
  obtain ⟨a0, e0, _⟩ := DataW.trod_bool Try.underlying4 q0
  simp [Value.cells, k4] at e0
  obtain ⟨y1, hy1⟩ := hx 1 (by omega)
  have q1 := hq 1 _ rfl
  rw [hy1] at q1
  obtain ⟨a1, e1, _⟩ := DataW.trod_bool Try.underlying4 q1
  simp [Value.cells, k4] at e1
  obtain ⟨y2, hy2⟩ := hx 2 (by omega)
  have q2 := hq 2 _ rfl
  rw [hy2] at q2
  obtain ⟨a2, e2, _, w2⟩ := DataW.trod_int Try.underlying3 q2
  simp [Value.cells, k3] at e2
  obtain ⟨y3, hy3⟩ := hx 3 (by omega)
  have q3 := hq 3 _ rfl
  rw [hy3] at q3
  obtain ⟨a3, e3, _⟩ := DataW.trod_bool Try.underlying4 q3
  simp [Value.cells, k4] at e3
  obtain ⟨y4, hy4⟩ := hx 4 (by omega)
  have q4 := hq 4 _ rfl
  rw [hy4] at q4
  obtain ⟨a4, e4, _⟩ := DataW.trod_bool Try.underlying4 q4
  simp [Value.cells, k4] at e4
  obtain ⟨y5, hy5⟩ := hx 5 (by omega)
  have q5 := hq 5 _ rfl
  rw [hy5] at q5
  obtain ⟨a5, e5, _, w5⟩ := DataW.trod_int Try.underlying3 q5
  simp [Value.cells, k3] at e5
  subst e0 e1 e2 e3 e4 e5
  exact ⟨a0, a1, a2, a3, a4, a5, rfl, Pg.fits_wf w2, Pg.fits_wf w5⟩

theorem openU64 (hv : Value.okWide Try.prog W r b0 43 v) (h : DataW.Trod enc Try.prog W base spare held 43 v d p) :
    ∃ x : Int, v = .int .u64 x ∧ (0 ≤ x ∧ x < 18446744073709551616) := by
  obtain ⟨a, rfl, _, _, w⟩ := open_int Try.underlying43 hv h
  refine ⟨a, rfl, ?_⟩
  simp only [Lit.wf, IntKind.min, IntKind.max, IntKind.signed, IntKind.bits, Bool.and_eq_true, decide_eq_true_eq, Bool.false_eq_true, if_false] at w
  omega
end
end Go.Proofs.Ytefdfaekfjdpoaa
