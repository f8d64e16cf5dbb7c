/-
  How a list of steps of a core, handed in, is opened.
-/
import Derived.Test.YtbkpndgadgafiaeRows
import Derived.Test.YtbkpndgadgafiaePlain
import Derived.ProofKit
import Derived.OpenShut
import Derived.Lib.SmallJoins
import Derived.Test.YtbkpndgadgafiaeWalkH
import Derived.Deep.Slices
import Derived.Laws.LoneSync
import Derived.Test.YtbkpndgadgafiaePlainB
namespace Go.Proofs.Ytbkpndgadgafiae
open Go.ChangeShapes Go.WideShapes Go.ChangeAt Go.RowKit Go.Joins
set_option maxRecDepth 100000

theorem own : ownKnob Try.prog.godebug = none := by kernel_rfl
theorem laidOut : laidOutB Try.prog = true := by kernel_rfl

section
variable {H : Type} {enc : TypeId × Value → H} {W : World} {r : Reach} {b0 base : Nat} {spare : Nat → Bool} {held : Bool} {v : Value} {d : DataW H} {p : List MemPlace}

theorem openMap (hv : Value.okWide Try.prog W r b0 39 v) (h : DataW.Trod enc Try.prog W base spare held 39 v d p) :
    ∃ x0 x1 x2 x3 : Int, v = .agg #[.int .i64 x0, .int .i64 x1, .int .i64 x2, .int .i64 x3] ∧ Pg.fits x0 ∧ Pg.fits x1 ∧ Pg.fits x2 ∧ Pg.fits x3 := by
  obtain ⟨c0, c1, c2, c3, y0, y1, y2, y3, m, rfl, _, _, h0, h1, h2, h3⟩ := open_agg4 Try.underlying39 (by kernel_rfl) (by kernel_rfl) hv h
  obtain ⟨a0, e0, _, w0⟩ := DataW.trod_int Try.underlying3 h0
  obtain ⟨a1, e1, _, w1⟩ := DataW.trod_int Try.underlying3 h1
  obtain ⟨a2, e2, _, w2⟩ := DataW.trod_int Try.underlying3 h2
  obtain ⟨a3, e3, _, w3⟩ := DataW.trod_int Try.underlying3 h3
  simp at e0 e1 e2 e3
  subst e0 e1 e2 e3
  exact ⟨a0, a1, a2, a3, rfl, Pg.fits_wf w0, Pg.fits_wf w1, Pg.fits_wf w2, Pg.fits_wf w3⟩

theorem openAccess (hv : Value.okWide Try.prog W r b0 34 v) (h : DataW.Trod enc Try.prog W base spare held 34 v d p) :
    ∃ (x0 x1 : Int) (u : Bool), v = .agg #[.int .i64 x0, .int .i64 x1, .bool u] ∧ Pg.fits x0 ∧ Pg.fits x1 := by
  obtain ⟨c0, c1, c2, y0, y1, y2, m, rfl, _, _, h0, h1, h2⟩ := open_agg3 Try.underlying34 (by kernel_rfl) (by kernel_rfl) hv h
  obtain ⟨a0, e0, _, w0⟩ := DataW.trod_int Try.underlying3 h0
  obtain ⟨a1, e1, _, w1⟩ := DataW.trod_int Try.underlying3 h1
  obtain ⟨a2, e2, _⟩ := DataW.trod_bool Try.underlying4 h2
  simp at e0 e1 e2
  subst e0 e1 e2
  exact ⟨a0, a1, a2, rfl, Pg.fits_wf w0, Pg.fits_wf w1⟩

theorem openInt (hv : Value.okWide Try.prog W r b0 3 v) (h : DataW.Trod enc Try.prog W base spare held 3 v d p) :
    ∃ x : Int, v = .int .i64 x ∧ Pg.fits x := by
  obtain ⟨a, rfl, _, _, w⟩ := open_int Try.underlying3 hv h
  exact ⟨a, rfl, Pg.fits_wf w⟩

theorem openBool (hv : Value.okWide Try.prog W r b0 4 v) (h : DataW.Trod enc Try.prog W base spare held 4 v d p) :
    ∃ x : Bool, v = .bool x := by
  obtain ⟨a, rfl, _⟩ := open_bool Try.underlying4 hv h
  exact ⟨a, rfl⟩

theorem stays {W' : World} {t : TypeId} (hr : Try.prog.readableRec t = true) (ht : t < Try.prog.types.size)
    (h : DataW.Trod enc Try.prog W 0 (fun _ => true) true t v d p) (hb : Below W.heap.size W W') :
    DataW.Trod enc Try.prog W' 0 (fun b => decide (b < W.heap.size)) true t v d p :=
  Below.trod laidOut hr ht h hb (by obtain ⟨m, hm⟩ := h; exact DataW.trod_lt m _ _ _ hm)
end
end Go.Proofs.Ytbkpndgadgafiae

namespace Go.Proofs.Ytbkpndgadgafiae
open Go.ChangeShapes Go.WideShapes Go.ChangeAt Go.RowKit Go.Joins Go.Deep
set_option maxRecDepth 100000
set_option linter.unusedVariables false

theorem u64_wf {x : Int} (w : (Lit.int .u64 x).wf = true) : 0 ≤ x ∧ x < 18446744073709551616 := by
  simp only [Lit.wf, IntKind.min, IntKind.max, IntKind.signed, IntKind.bits, Bool.and_eq_true, decide_eq_true_eq, Bool.false_eq_true, if_false] at w
  omega

section
variable {H : Type} {enc : TypeId × Value → H} {W : World} {r : Reach} {b0 base : Nat} {spare : Nat → Bool} {held : Bool} {v : Value} {d : DataW H} {p : List MemPlace}

theorem openWords (hv : Value.okWide Try.prog W r b0 22 v) (h : DataW.Trod enc Try.prog W base spare held 22 v d p) :
    ∃ (ad : Option Addr) (len cap : Nat) (q : Nat → Int), v = .slice ad len cap ∧ WordsAt W ad len q := by
  obtain ⟨a0, len, cap, rfl⟩ := okWide_slice Try.underlying22 hv
  obtain ⟨fuel, hf⟩ := h
  have k1 : Try.prog.cellsOf 35 = 1 := by kernel_rfl
  rcases open_slice1 Try.underlying22 k1 hf with ⟨e, _⟩ | ⟨a, len', cap', m, n, V, D, Pl, e, _, hl, hm, hmm, _, hx⟩
  · simp [Value.cells] at e
    obtain ⟨_, rfl, _⟩ := e
    exact ⟨a0, 0, cap, fun _ => 0, rfl, fun j hj => absurd hj (by omega)⟩
  · simp [Value.cells] at e
    obtain ⟨rfl, rfl, rfl⟩ := e
    have hlm : len ≤ m := by rw [hmm]; split <;> omega
    have each : ∀ i, i < len → ∃ x : Int, (∃ b o, some a = some ⟨b, o, none⟩ ∧ b < W.heap.size ∧ W.cell? ⟨b, o + i, none⟩ = some (.int .u64 x)) ∧ 0 ≤ x ∧ x < 18446744073709551616 := by
      intro i hi
      obtain ⟨c0, _⟩ := hx 0 (by omega)
      obtain ⟨c1, h2⟩ := hx i (by omega)
      obtain ⟨x, e0, _, w0⟩ := DataW.trod_int Try.underlying35 h2
      simp at e0
      rw [e0] at c1
      have hz : a.add 0 = a := by unfold Addr.add; split <;> simp_all
      rw [hz] at c0
      have hsp : a.spot = none := by
        obtain ⟨_, _, _, _, hs⟩ := World.shape?_of_cell? c0
        exact hs
      obtain ⟨b, o, sp⟩ := a
      cases hsp
      have hlt : b < W.heap.size := World.block_lt_of_cell? _ _ c0
      have ha : (⟨b, o, none⟩ : Addr).add i = ⟨b, o + i, none⟩ := by unfold Addr.add; split <;> simp_all
      rw [ha] at c1
      exact ⟨x, ⟨b, o, rfl, hlt, c1⟩, u64_wf w0⟩
    obtain ⟨q, hq⟩ := choose_lt each
    exact ⟨some a, len, cap, q, rfl, hq⟩
end
end Go.Proofs.Ytbkpndgadgafiae

namespace Go.Proofs.Ytbkpndgadgafiae
open Go.ChangeShapes Go.WideShapes Go.ChangeAt Go.RowKit Go.Joins Go.Deep
set_option maxRecDepth 100000
set_option linter.unusedVariables false

/-- A step: what to do, a frame, a place, a word, an access, a mapping. -/
structure Cst where
  a : Int
  k : Int
  i : Int
  w : Int
  q : Int
  n : Int
  u : Bool
  m : Pg.Mp
def Cst.zz : Cst := ⟨0, 0, 0, 0, 0, 0, false, .zz⟩

/-- The step x lies at the offset o of the block b. -/
def CstAt (W : World) (b o : Nat) (x : Cst) : Prop :=
  W.cell? ⟨b, o, none⟩ = some (.int .i64 x.a) ∧ W.cell? ⟨b, o + 1, none⟩ = some (.int .i64 x.k) ∧ W.cell? ⟨b, o + 2, none⟩ = some (.int .i64 x.i) ∧ W.cell? ⟨b, o + 3, none⟩ = some (.int .u64 x.w) ∧ W.cell? ⟨b, o + 4, none⟩ = some (.int .i64 x.q) ∧ W.cell? ⟨b, o + 5, none⟩ = some (.int .i64 x.n) ∧ W.cell? ⟨b, o + 6, none⟩ = some (.bool x.u) ∧ W.cell? ⟨b, o + 7, none⟩ = some (.int .i64 x.m.p) ∧ W.cell? ⟨b, o + 8, none⟩ = some (.int .i64 x.m.s) ∧ W.cell? ⟨b, o + 9, none⟩ = some (.int .i64 x.m.f) ∧ W.cell? ⟨b, o + 10, none⟩ = some (.int .i64 x.m.r)
def CstFits (x : Cst) : Prop := (0 ≤ x.w ∧ x.w < 18446744073709551616) ∧ Pg.fits x.q ∧ Pg.fits x.m.p

section
variable {H : Type} {enc : TypeId × Value → H} {W : World} {r : Reach} {b0 base : Nat} {spare : Nat → Bool} {held : Bool} {v : Value} {d : DataW H} {p : List MemPlace}

theorem openCsts (hv : Value.okWide Try.prog W r b0 23 v) (h : DataW.Trod enc Try.prog W base spare held 23 v d p) :
    ∃ (ad : Option Addr) (len cap : Nat) (q : Nat → Cst), v = .slice ad len cap ∧
      ∀ j, j < len → (∃ b o, ad = some ⟨b, o, none⟩ ∧ b < W.heap.size ∧ CstAt W b (o + j * 11) (q j)) ∧ CstFits (q j) := by
  obtain ⟨a0, len, cap, rfl⟩ := okWide_slice Try.underlying23 hv
  obtain ⟨fuel, hf⟩ := h
  have k9 : Try.prog.cellsOf 41 = 11 := by kernel_rfl
  have k1 : Try.prog.cellsOf 3 = 1 := by kernel_rfl
  have ku : Try.prog.cellsOf 35 = 1 := by kernel_rfl
  have kb : Try.prog.cellsOf 4 = 1 := by kernel_rfl
  have ka : Try.prog.cellsOf 34 = 3 := by kernel_rfl
  have km : Try.prog.cellsOf 39 = 4 := by kernel_rfl
  rcases open_slice Try.underlying23 hf with ⟨e, _⟩ | ⟨a, len', cap', m, n, D, Pl, e, _, hl, hm, hmm, _, hx⟩
  · simp [Value.cells] at e
    obtain ⟨_, rfl, _⟩ := e
    exact ⟨a0, 0, cap, fun _ => .zz, rfl, fun j hj => absurd hj (by omega)⟩
  · simp [Value.cells] at e
    obtain ⟨rfl, rfl, rfl⟩ := e
    have hlm : len ≤ m := by rw [hmm]; split <;> omega
    have each : ∀ i, i < len → ∃ x : Cst, (∃ b o, some a = some ⟨b, o, none⟩ ∧ b < W.heap.size ∧ CstAt W b (o + i * 11) x) ∧ CstFits x := by
      intro i hi
      obtain ⟨cs0, g1, _⟩ := hx 0 (by omega)
      rw [k9] at g1
      obtain ⟨_, glen, gcell⟩ := World.cells?_some g1
      obtain ⟨u, c0⟩ : ∃ u, W.cell? a = some u := by
        have c0 := gcell 0 (by omega)
        rw [List.getElem?_eq_getElem (by omega)] at c0
        exact ⟨_, by simpa [Addr.add] using c0⟩
      obtain ⟨cs', h1, h2⟩ := hx i (by omega)
      rw [k9] at h1
      obtain ⟨_, hlen, hcell⟩ := World.cells?_some h1
      obtain ⟨xs, k, hk, hxy, _, hxl, hq⟩ := DataW.trod_struct Try.underlying41 h2
      match xs, hxl, cs', hlen with
      | [y0, y1, y2, y3, y4, y5], _, [v0, v1, v2, v3, v4, v5, v6, v7, v8, v9, va], _ =>
        have q0 := hq 0 _ rfl
        have q1 := hq 1 _ rfl
        have q2 := hq 2 _ rfl
        have q3 := hq 3 _ rfl
        have q4 := hq 4 _ rfl
        have q5 := hq 5 _ rfl
        simp [k1, ku, ka, km] at q0 q1 q2 q3 q4 q5
        obtain ⟨xm, kM, _, _, _, hml, hmq⟩ := DataW.trod_struct Try.underlying34 q4
        obtain ⟨xn, kN, _, _, _, hnl, hnq⟩ := DataW.trod_struct Try.underlying39 q5
        match xm, hml, xn, hnl with
        | [m0, m1, m2], _, [n0, n1, n2, n3], _ =>
          have r0 := hmq 0 _ rfl
          have r1 := hmq 1 _ rfl
          have r2 := hmq 2 _ rfl
          have s0 := hnq 0 _ rfl
          have s1 := hnq 1 _ rfl
          have s2 := hnq 2 _ rfl
          have s3 := hnq 3 _ rfl
          simp [k1, kb] at r0 r1 r2 s0 s1 s2 s3
          obtain ⟨a0, e0, _, _⟩ := DataW.trod_int Try.underlying3 q0
          obtain ⟨a1, e1, _, w1⟩ := DataW.trod_int Try.underlying3 q1
          obtain ⟨a2, e2, _, w2⟩ := DataW.trod_int Try.underlying3 q2
          obtain ⟨a3, e3, _, w3⟩ := DataW.trod_int Try.underlying35 q3
          obtain ⟨a4, e4, _, w4⟩ := DataW.trod_int Try.underlying3 r0
          obtain ⟨a5, e5, _, w5⟩ := DataW.trod_int Try.underlying3 r1
          obtain ⟨a6, e6, _⟩ := DataW.trod_bool Try.underlying4 r2
          obtain ⟨a7, e7, _, w7⟩ := DataW.trod_int Try.underlying3 s0
          obtain ⟨a8, e8, _, w8⟩ := DataW.trod_int Try.underlying3 s1
          obtain ⟨a9, e9, _, w9⟩ := DataW.trod_int Try.underlying3 s2
          obtain ⟨aa, ea, _, wa⟩ := DataW.trod_int Try.underlying3 s3
          simp at e0 e1 e2 e3 e4 e5 e6 e7 e8 e9 ea
          subst e0 e1 e2 e3 e4 e5 e6 e7 e8 e9 ea
          have d0 := hcell 0 (by omega)
          have d1 := hcell 1 (by omega)
          have d2 := hcell 2 (by omega)
          have d3 := hcell 3 (by omega)
          have d4 := hcell 4 (by omega)
          have d5 := hcell 5 (by omega)
          have d6 := hcell 6 (by omega)
          have d7 := hcell 7 (by omega)
          have d8 := hcell 8 (by omega)
          have d9 := hcell 9 (by omega)
          have da := hcell 10 (by omega)
          have hsp : a.spot = none := by
            obtain ⟨_, _, _, _, hs⟩ := World.shape?_of_cell? c0
            exact hs
          obtain ⟨b, o, sp⟩ := a
          cases hsp
          have hlt : b < W.heap.size := World.block_lt_of_cell? _ _ c0
          have ha : ∀ x y : Nat, ((⟨b, o, none⟩ : Addr).add x).add y = ⟨b, o + x + y, none⟩ := by
            intro x y
            unfold Addr.add
            split <;> split <;> simp_all <;> omega
          rw [ha] at d0 d1 d2 d3 d4 d5 d6 d7 d8 d9 da
          exact ⟨⟨a0, a1, a2, a3, a4, a5, a6, ⟨a7, a8, a9, aa⟩⟩, ⟨b, o, rfl, hlt, by simpa using d0, by simpa using d1, by simpa using d2, by simpa using d3, by simpa using d4, by simpa using d5, by simpa using d6, by simpa using d7, by simpa using d8, by simpa using d9, by simpa using da⟩, u64_wf w3, Pg.fits_wf w4, Pg.fits_wf w7⟩
    have _ : Inhabited Cst := ⟨.zz⟩
    obtain ⟨q, hq⟩ := choose_lt each
    exact ⟨some a, len, cap, q, rfl, hq⟩
end
end Go.Proofs.Ytbkpndgadgafiae
