/-
  Kept lines that a call has made for itself: what each asking of them answers and leaves; and the document's beside them.
-/
import Derived.Test.YtbkpndgadgafiaeFrameC
import Derived.Test.YtbkpndgadgafiaePlainL
import Derived.Deep.Slices
import Derived.Laws.LoneSync
import Derived.Test.YtbkpndgadgafiaeTlbB
import Derived.Test.YtbkpndgadgafiaeCoRefB
namespace Go.Proofs.Ytbkpndgadgafiae
open Go.ChangeShapes Go.WideShapes Go.ChangeAt Go.RowKit Go.Joins Go.Deep
set_option maxRecDepth 100000
set_option linter.unusedVariables false

/-- A step: what to do, a number, a mapping. -/
structure Lst where
  a : Int
  k : Int
  m : Pg.Mp
def Lst.zz : Lst := ⟨0, 0, .zz⟩

/-- The step x lies at the offset o of the block b. -/
def LstAt (W : World) (b o : Nat) (x : Lst) : Prop :=
  W.cell? ⟨b, o, none⟩ = some (.int .i64 x.a) ∧ W.cell? ⟨b, o + 1, none⟩ = some (.int .i64 x.k) ∧ W.cell? ⟨b, o + 2, none⟩ = some (.int .i64 x.m.p) ∧ W.cell? ⟨b, o + 3, none⟩ = some (.int .i64 x.m.s) ∧ W.cell? ⟨b, o + 4, none⟩ = some (.int .i64 x.m.f) ∧ W.cell? ⟨b, o + 5, none⟩ = some (.int .i64 x.m.r)
def LstFits (x : Lst) : Prop := Pg.fits x.k ∧ Pg.fits x.m.p

section
variable {H : Type} {enc : TypeId × Value → H} {W : World} {r : Reach} {b0 base : Nat} {spare : Nat → Bool} {held : Bool} {v : Value} {d : DataW H} {p : List MemPlace}

end
end Go.Proofs.Ytbkpndgadgafiae

namespace Go.Proofs.Ytbkpndgadgafiae
open Go.RowKit Go.Sort
set_option maxRecDepth 100000
set_option linter.unusedVariables false

/-- The lines L are kept at b, in memory that was not there when the call began; and what was there is as it was. -/
structure Tbd (w0 w : World) (b : Nat) (L : List Pg.Ln) (F : Nat → Prop) : Prop where
  at' : TbAt w b 0 L F
  bel : Below w0.heap.size w0 w
  new : ∀ k, F k → w0.heap.size ≤ k

namespace Tbd
variable {w0 w w' : World} {b : Nat} {L L' : List Pg.Ln} {F F' : Nat → Prop}
theorem grow (h : Tbd w0 w b L F) (hb : Below w.heap.size w w') : Tbd w0 w' b L F :=
  ⟨h.at'.grow hb, bthen h.bel hb, h.new⟩
theorem step (h : Tbd w0 w b L F) (h1 : TbAt w' b 0 L' F') (hb : But F w w') (hF : ∀ k, F' k → F k ∨ w.heap.size ≤ k) : Tbd w0 w' b L' F' :=
  ⟨h1, h.bel.trans (hb.below h.bel.size h.new), fun k hk => (hF k hk).elim (h.new k) (fun hk => Nat.le_trans h.bel.size hk)⟩
theorem keep {G : Nat → Prop} (h : Tbd w0 w b L F) (hb : But G w w') (hF : ∀ k, F k → ¬ G k) (hG : ∀ k, G k → w0.heap.size ≤ k) : Tbd w0 w' b L F :=
  ⟨h.at'.keep hb hF, h.bel.trans (hb.below h.bel.size hG), h.new⟩
/-- A block X beside them stays as it is when they take a step. -/
theorem beside {X : Nat} (hb : But F w w') (hF : ∀ k, F' k → F k ∨ w.heap.size ≤ k) (hX : ¬ F X) (hl : X < w.heap.size) :
    ¬ F' X ∧ X < w'.heap.size ∧ (∀ o, w'.cell? ⟨X, o, none⟩ = w.cell? ⟨X, o, none⟩) ∧ (∀ o, w'.frozen? ⟨X, o, none⟩ = w.frozen? ⟨X, o, none⟩) :=
  ⟨fun hf => (hF X hf).elim hX (fun h => by omega), Nat.lt_of_lt_of_le hl hb.size, fun o => hb.cell (a := ⟨X, o, none⟩) hl hX, fun o => hb.frozen (a := ⟨X, o, none⟩) hl hX⟩
end Tbd

def tl9 : Pg.Ln := ⟨⟨9, 0, 1, 0⟩, false⟩
def tl8 : Pg.Ln := ⟨⟨8, 1, 16, 0⟩, true⟩
def tlx : Pg.Ln := ⟨⟨0, 9, 0, 0⟩, false⟩
theorem fits_sm {n : Int} (h0 : 0 ≤ n) (h1 : n ≤ 100) : Pg.fits n := by unfold Pg.fits; omega

/-- Two rows of the same lines are the same. -/
theorem sameLines_yes {ad ad' : Option Addr} {cap cap' : Nat} {L : List Pg.Ln} (w : World) (h : LinesAt w ad L) (h' : LinesAt w ad' L) (hl : L.length ≤ 6) :
    Calls Try.prog 22 #[.slice ad L.length cap, .slice ad' L.length cap'] w fun e w' => e = .returned (.bool true) ∧ Below w.heap.size w w' := by
  have HA : Hid _ := h
  have HB : Hid _ := h'
  clear h h'
  go_enter Try.func22, Try.ntmps22
  go_wp2_with fail
  go_loopw [5] (fun i wr => ∃ j : Nat, j ≤ L.length ∧ i = .int .i64 j ∧ Hid (Below w.heap.size w wr)) (fun i _ => L.length - (intOf i).toNat)
  case atStart => exact ⟨0, by omega, rfl, brefl _⟩
  case round =>
    obtain ⟨j, hj, rfl, HR⟩ := hrel
    have i0 : (0 : Int) ≤ (j : Int) := by omega
    by_cases hlt : j < L.length
    · obtain ⟨g, o, rfl, hg, hm⟩ := LinesAt.below HA.out HR.out j hlt
      obtain ⟨g', o', rfl, hg', hm'⟩ := LinesAt.below HB.out HR.out j hlt
      obtain ⟨k0, k1, k2, k3, k4⟩ := hm
      obtain ⟨m0, m1, m2, m3, m4⟩ := hm'
      have i1 : (j : Int) < (L.length : Int) := by omega
      have fin : Hid (∀ nq, Below w.heap.size w (wr.drewN nq)) := fun nq => bthen HR.out (below_drewN (brefl _) nq)
      generalize L.getD j .zz = x at *
      obtain ⟨⟨p, s, f, r⟩, d⟩ := x
      simp only at k0 k1 k2 k3 k4 m0 m1 m2 m3 m4
      go_wp2_with fail
      go_quiet (fail)
      go_wp2_with fail
      go_roundw
      case rel => exact ⟨j + 1, by omega, by go_num, fin.out _⟩
      case measure => simp [intOf]; omega
    · have i1 : ¬ (j : Int) < (L.length : Int) := by omega
      go_wp2_with fail
      go_ret
      exact ⟨rfl, HR.out⟩

/-- The developers' lines and the document's are the same, and lie apart, in memory that was not there when the call began. -/
structure Tw (w0 w : World) (b rb : Nat) (L L' : List Pg.Ln) (F : Nat → Prop) (vb : Value) : Prop where
  db : Tbd w0 w b L F
  bk : CoAt w rb vb L'
  new : ∀ k, bkF rb vb k → w0.heap.size ≤ k
  apart : ∀ k, F k → ¬ bkF rb vb k
namespace Tw
variable {w0 w w' : World} {b rb : Nat} {L1 L2 L' : List Pg.Ln} {F F' : Nat → Prop} {vb vb' : Value}
theorem grow (h : Tw w0 w b rb L1 L2 F vb) (hb : Below w.heap.size w w') : Tw w0 w' b rb L1 L2 F vb := ⟨h.db.grow hb, h.bk.grow hb, h.new, h.apart⟩
theorem left (h : Tw w0 w b rb L1 L2 F vb) (h1 : TbAt w' b 0 L' F') (hb : But F w w') (hF : ∀ k, F' k → F k ∨ w.heap.size ≤ k) : Tw w0 w' b rb L' L2 F' vb :=
  ⟨h.db.step h1 hb hF, h.bk.keep hb (fun k hk hf => h.apart k hf hk), h.new, fun k hk hm => (hF k hk).elim (fun hf => h.apart k hf hm) (fun hs => by have := h.bk.lt hm; omega)⟩
theorem right (h : Tw w0 w b rb L1 L2 F vb) (h1 : CoAt w' rb vb' L') (hb : But (bkF rb vb) w w') (hF : ∀ k, bkF rb vb' k → bkF rb vb k ∨ w.heap.size ≤ k) : Tw w0 w' b rb L1 L' F vb' :=
  ⟨h.db.keep hb h.apart h.new, h1, fun k hk => (hF k hk).elim (h.new k) (fun hs => Nat.le_trans h.db.bel.size hs), fun k hk hm => (hF k hm).elim (h.apart k hk) (fun hs => by have := h.db.at'.lt hk; omega)⟩
end Tw
theorem LstAt.of {w w' : World} {X o : Nat} {x : Lst} (h : LstAt w X o x) (hc : ∀ p, w'.cell? ⟨X, p, none⟩ = w.cell? ⟨X, p, none⟩) : LstAt w' X o x :=
  ⟨(hc _).trans h.1, (hc _).trans h.2.1, (hc _).trans h.2.2.1, (hc _).trans h.2.2.2.1, (hc _).trans h.2.2.2.2.1, (hc _).trans h.2.2.2.2.2⟩
/-- The same, with a step x in the block X beside. -/
structure Twx (w0 w : World) (b rb X : Nat) (x : Lst) (L L' : List Pg.Ln) (F : Nat → Prop) (vb : Value) : Prop where
  two : Tw w0 w b rb L L' F vb
  xs : LstAt w X 0 x
  nF : ¬ F X
  nB : ¬ bkF rb vb X
  new : w0.heap.size ≤ X
namespace Twx
variable {w0 w w' : World} {b rb X : Nat} {x : Lst} {L1 L2 L' : List Pg.Ln} {F F' : Nat → Prop} {vb vb' : Value}
theorem xl (h : Twx w0 w b rb X x L1 L2 F vb) : X < w.heap.size := World.block_lt_of_cell? _ _ h.xs.1
theorem grow (h : Twx w0 w b rb X x L1 L2 F vb) (hb : Below w.heap.size w w') : Twx w0 w' b rb X x L1 L2 F vb :=
  ⟨h.two.grow hb, h.xs.of fun p => hb.cell (p := ⟨X, p, none⟩) h.xl, h.nF, h.nB, h.new⟩
theorem left (h : Twx w0 w b rb X x L1 L2 F vb) (h1 : TbAt w' b 0 L' F') (hb : But F w w') (hF : ∀ k, F' k → F k ∨ w.heap.size ≤ k) : Twx w0 w' b rb X x L' L2 F' vb :=
  ⟨h.two.left h1 hb hF, h.xs.of fun p => hb.cell (a := ⟨X, p, none⟩) h.xl h.nF, fun hf => (hF X hf).elim h.nF (fun hs => by have := h.xl; omega), h.nB, h.new⟩
theorem right (h : Twx w0 w b rb X x L1 L2 F vb) (h1 : CoAt w' rb vb' L') (hb : But (bkF rb vb) w w') (hF : ∀ k, bkF rb vb' k → bkF rb vb k ∨ w.heap.size ≤ k) : Twx w0 w' b rb X x L1 L' F vb' :=
  ⟨h.two.right h1 hb hF, h.xs.of fun p => hb.cell (a := ⟨X, p, none⟩) h.xl h.nB, h.nF, fun hf => (hF X hf).elim h.nB (fun hs => by have := h.xl; omega), h.new⟩
theorem cells (h : Twx w0 w b rb X x L1 L2 F vb) : w.cell? ⟨X, 0, none⟩ = some (.int .i64 x.a) ∧ w.cell? ⟨X, 1, none⟩ = some (.int .i64 x.k) ∧ w.cell? ⟨X, 2, none⟩ = some (.int .i64 x.m.p) ∧ w.cell? ⟨X, 3, none⟩ = some (.int .i64 x.m.s) ∧ w.cell? ⟨X, 4, none⟩ = some (.int .i64 x.m.f) ∧ w.cell? ⟨X, 5, none⟩ = some (.int .i64 x.m.r) := by
  obtain ⟨h0, h1, h2, h3, h4, h5⟩ := h.xs
  simp only [Nat.zero_add] at h1 h2 h3 h4 h5
  exact ⟨h0, h1, h2, h3, h4, h5⟩
end Twx
end Go.Proofs.Ytbkpndgadgafiae
