
/-
  How one step, handed in, is opened.
-/
import Derived.Test.YtdenjkjkchggaacFrameB
namespace Go.Proofs.Ytdenjkjkchggaac
open Go.ChangeShapes Go.WideShapes Go.ChangeAt Go.RowKit Go.Joins Go.Deep
set_option maxRecDepth 100000
set_option linter.unusedVariables false

def bstV (x : Bst) : Value := .agg #[.int .i64 x.kind, .int .i64 x.core, .int .i64 x.m.p, .int .i64 x.m.s, .int .i64 x.m.f, .int .i64 x.m.r, .int .i64 x.q, .int .i64 x.k, .bool x.u]
theorem array9 {cs : Array Value} (h : cs.size = 9) : ∃ c0 c1 c2 c3 c4 c5 c6 c7 c8, cs = #[c0, c1, c2, c3, c4, c5, c6, c7, c8] := by
  obtain ⟨l⟩ := cs
  match l, h with
  | [c0, c1, c2, c3, c4, c5, c6, c7, c8], _ => exact ⟨c0, c1, c2, c3, c4, c5, c6, c7, c8, rfl⟩

section
variable {H : Type} {enc : TypeId × Value → H} {W : World} {r : Reach} {b0 base : Nat} {spare : Nat → Bool} {held : Bool} {v : Value} {d : DataW H} {p : List MemPlace}
theorem openStep (hv : Value.okWide Try.prog W r b0 60 v) (h : DataW.Trod enc Try.prog W base spare held 60 v d p) :
    ∃ x : Bst, v = bstV x ∧ BstFits x := by
  obtain ⟨cs, rfl, hsz⟩ := okWide_struct Try.underlying60 hv
  obtain ⟨v0, v1, v2, v3, v4, v5, v6, v7, v8, rfl⟩ := array9 (hsz.trans (by kernel_rfl))
  obtain ⟨fuel, hf⟩ := h
  have k1 : Try.prog.cellsOf 3 = 1 := by kernel_rfl
  have kb : Try.prog.cellsOf 4 = 1 := by kernel_rfl
  have km : Try.prog.cellsOf 53 = 4 := by kernel_rfl
  have ka : Try.prog.cellsOf 58 = 3 := by kernel_rfl
  obtain ⟨xs, n, _, _, _, hlen, hq⟩ := DataW.trod_struct Try.underlying60 hf
  match xs, hlen with
  | [y0, y1, y2, y3], _ =>
    have q0 := hq 0 _ rfl
    have q1 := hq 1 _ rfl
    have q2 := hq 2 _ rfl
    have q3 := hq 3 _ rfl
    simp [Value.cells, k1, km, ka] at q0 q1 q2 q3
    obtain ⟨xm, kM, _, _, _, hml, hmq⟩ := DataW.trod_struct Try.underlying53 q2
    obtain ⟨xa, kA, _, _, _, hal, haq⟩ := DataW.trod_struct Try.underlying58 q3
    match xm, hml, xa, hal with
    | [m0, m1, m2, m3], _, [n0, n1, n2], _ =>
      have r0 := hmq 0 _ rfl
      have r1 := hmq 1 _ rfl
      have r2 := hmq 2 _ rfl
      have r3 := hmq 3 _ rfl
      have s0 := haq 0 _ rfl
      have s1 := haq 1 _ rfl
      have s2 := haq 2 _ rfl
      simp [k1] at r0 r1 r2 r3
      simp [k1, kb] at s0 s1 s2
      obtain ⟨a0, e0, _, _⟩ := DataW.trod_int Try.underlying3 q0
      obtain ⟨a1, e1, _, _⟩ := DataW.trod_int Try.underlying3 q1
      obtain ⟨a2, e2, _, w2⟩ := DataW.trod_int Try.underlying3 r0
      obtain ⟨a3, e3, _, w3⟩ := DataW.trod_int Try.underlying3 r1
      obtain ⟨a4, e4, _, w4⟩ := DataW.trod_int Try.underlying3 r2
      obtain ⟨a5, e5, _, w5⟩ := DataW.trod_int Try.underlying3 r3
      obtain ⟨a6, e6, _, w6⟩ := DataW.trod_int Try.underlying3 s0
      obtain ⟨a7, e7, _, w7⟩ := DataW.trod_int Try.underlying3 s1
      obtain ⟨a8, e8, _⟩ := DataW.trod_bool Try.underlying4 s2
      simp at e0 e1 e2 e3 e4 e5 e6 e7 e8
      subst e0 e1 e2 e3 e4 e5 e6 e7 e8
      exact ⟨⟨a0, a1, ⟨a2, a3, a4, a5⟩, a6, a7, a8⟩, rfl, Pg.fits_wf w2, Pg.fits_wf w3, Pg.fits_wf w4, Pg.fits_wf w5, Pg.fits_wf w6, Pg.fits_wf w7⟩
end
end Go.Proofs.Ytdenjkjkchggaac
