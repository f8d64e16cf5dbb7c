
/-
  Kept lines that a call has made for itself: what each asking of them answers and leaves; and the document's beside them.
-/
import Derived.Test.YtkcmlmofcjdgoadTlbB
import Derived.Test.YtkcmlmofcjdgoadCoRefB
import Derived.Test.YtkcmlmofcjdgoadFrameL
namespace Go.Proofs.Ytkcmlmofcjdgoad
open Go.RowKit Go.Sort
set_option maxRecDepth 100000
set_option linter.unusedVariables false

/-- The lines L are kept at b, in memory that was not there when the call began; and what was there is as it was. -/
structure Tbd (w0 w : World) (b : Nat) (L : List Pg.Ln) (F : Nat → Prop) : Prop where
  at' : TbAt w b 0 L F
  bel : Below w0.heap.size w0 w
  new : ∀ k, F k → w0.heap.size ≤ k

namespace Tbd
variable {w0 w w' : World} {b : Nat} {L L' : List Pg.Ln} {F F' : Nat → Prop}
theorem grow (h : Tbd w0 w b L F) (hb : Below w.heap.size w w') : Tbd w0 w' b L F :=
  ⟨h.at'.grow hb, bthen h.bel hb, h.new⟩
theorem step (h : Tbd w0 w b L F) (h1 : TbAt w' b 0 L' F') (hb : But F w w') (hF : ∀ k, F' k → F k ∨ w.heap.size ≤ k) : Tbd w0 w' b L' F' :=
  ⟨h1, h.bel.trans (hb.below h.bel.size h.new), fun k hk => (hF k hk).elim (h.new k) (fun hk => Nat.le_trans h.bel.size hk)⟩
theorem keep {G : Nat → Prop} (h : Tbd w0 w b L F) (hb : But G w w') (hF : ∀ k, F k → ¬ G k) (hG : ∀ k, G k → w0.heap.size ≤ k) : Tbd w0 w' b L F :=
  ⟨h.at'.keep hb hF, h.bel.trans (hb.below h.bel.size hG), h.new⟩
/-- A block X beside them stays as it is when they take a step. -/
theorem beside {X : Nat} (hb : But F w w') (hF : ∀ k, F' k → F k ∨ w.heap.size ≤ k) (hX : ¬ F X) (hl : X < w.heap.size) :
    ¬ F' X ∧ X < w'.heap.size ∧ (∀ o, w'.cell? ⟨X, o, none⟩ = w.cell? ⟨X, o, none⟩) ∧ (∀ o, w'.frozen? ⟨X, o, none⟩ = w.frozen? ⟨X, o, none⟩) :=
  ⟨fun hf => (hF X hf).elim hX (fun h => by omega), Nat.lt_of_lt_of_le hl hb.size, fun o => hb.cell (a := ⟨X, o, none⟩) hl hX, fun o => hb.frozen (a := ⟨X, o, none⟩) hl hX⟩
end Tbd

def tl9 : Pg.Ln := ⟨⟨9, 0, 1, 0⟩, false⟩
def tl8 : Pg.Ln := ⟨⟨8, 1, 16, 0⟩, true⟩
def tlx : Pg.Ln := ⟨⟨0, 9, 0, 0⟩, false⟩
theorem fits_sm {n : Int} (h0 : 0 ≤ n) (h1 : n ≤ 100) : Pg.fits n := by unfold Pg.fits; omega

theorem tlbBegun_any (w : World) :
    Calls Try.prog 9 #[] w fun e w' => e = .returned (.bool true) ∧ Below w.heap.size w w' := by
  have t1 : (tl9.m.code == 0) = true ∧ Pg.kPut [] tl9 = [tl9] := ⟨rfl, rfl⟩
  have t2 : (tl8.m.code == 0) = true ∧ Pg.kPut [tl9] tl8 = [tl8] := ⟨rfl, rfl⟩
  have t3 : (tlx.m.code == 0) = false ∧ Pg.kPut [tl8] tlx = [tl8] := ⟨rfl, rfl⟩
  have t4 : Pg.kAt [tl8] 9 = tl8 ∧ (Pg.kFnd [tl8] 9).isSome = true := ⟨rfl, rfl⟩
  have t5 : Pg.kDrop [tl8] ⟨15, 0, 0, 0⟩ = [] := rfl
  go_enter Try.func9, Try.ntmps9
  go_wp2_with fail
  refine (tbNew_any _).mono ?_
  rintro e w1 ⟨b, F1, rfl, h1, hb1, hF1⟩
  have n1 : ¬ F1 w1.heap.size := fun hf => by have := h1.lt hf; omega
  have k1 : Hid (∀ o, Tbd w (w1.alloc o) b [] F1) := fun o => Tbd.grow ⟨h1, hb1, hF1⟩ (balloc (brefl _) o)
  clear h1 hb1 hF1
  go_wp2_with fail
  refine (tbPut_any tl9 (fits_sm (by decide) (by decide)) _ (k1.out _).at').mono ?_
  rintro e w2 ⟨rfl, F2, h2, hb2, hF2⟩
  rw [t1.1]
  rw [t1.2] at h2
  obtain ⟨n2, l2, x2, y2⟩ := Tbd.beside hb2.but hF2 n1 (by simp)
  have k2 : Hid _ := (k1.out _).step h2 hb2.but hF2
  have x20 : w2.cell? ⟨w1.heap.size, 0, none⟩ = some (.int .i64 8) := (x2 0).trans (by simp [go_sem])
  have x21 : w2.cell? ⟨w1.heap.size, 1, none⟩ = some (.int .i64 1) := (x2 1).trans (by simp [go_sem])
  have x22 : w2.cell? ⟨w1.heap.size, 2, none⟩ = some (.int .i64 16) := (x2 2).trans (by simp [go_sem])
  have x23 : w2.cell? ⟨w1.heap.size, 3, none⟩ = some (.int .i64 0) := (x2 3).trans (by simp [go_sem])
  clear h2 hb2 hF2 k1 n1 x2 y2
  go_wp2_with fail
  refine (tbPut_any tl8 (fits_sm (by decide) (by decide)) _ k2.out.at').mono ?_
  rintro e w3 ⟨rfl, F3, h3, hb3, hF3⟩
  rw [t2.1]
  rw [t2.2] at h3
  obtain ⟨n3, l3, x3, y3⟩ := Tbd.beside hb3.but hF3 n2 l2
  have k3 : Hid _ := k2.out.step h3 hb3.but hF3
  have x30 := (x3 0).trans x20
  have x31 := (x3 1).trans x21
  have x32 := (x3 2).trans x22
  have x33 := (x3 3).trans x23
  clear h3 hb3 hF3 k2 n2 l2 x3 y3 x20 x21 x22 x23
  go_wp2_with fail
  refine (tbPut_any tlx (fits_sm (by decide) (by decide)) _ k3.out.at').mono ?_
  rintro e w4 ⟨rfl, F4, h4, hb4, hF4⟩
  rw [t3.1]
  rw [t3.2] at h4
  obtain ⟨n4, l4, x4, y4⟩ := Tbd.beside hb4.but hF4 n3 l3
  have k4 : Hid _ := k3.out.step h4 hb4.but hF4
  have x40 := (x4 0).trans x30
  have x41 := (x4 1).trans x31
  have x42 := (x4 2).trans x32
  have x43 := (x4 3).trans x33
  clear h4 hb4 hF4 k3 n3 l3 x4 y4 x30 x31 x32 x33
  go_wp2_with fail
  refine (tbFind_any 9 (fits_sm (by decide) (by decide)) _ k4.out.at').mono ?_
  rintro e w5 ⟨rfl, hb5⟩
  rw [t4.1, t4.2, show tl8.val = .agg #[.int .i64 8, .int .i64 1, .int .i64 16, .int .i64 0, .bool true] from rfl]
  have k5 : Hid (∀ o, Tbd w (w5.alloc o) b [tl8] F4) := fun o => (k4.out.grow hb5).grow (balloc (brefl _) o)
  have x50 := cell_later hb5 x40
  have x51 := cell_later hb5 x41
  have x52 := cell_later hb5 x42
  have x53 := cell_later hb5 x43
  have l5 : w1.heap.size < w5.heap.size := Nat.lt_of_lt_of_le l4 hb5.size
  clear hb5 k4 x40 x41 x42 x43
  go_wp2_with fail
  refine (tbList_any _ (k5.out _).at').mono ?_
  rintro e w6 ⟨ad6, cap6, rfl, m6, hb6, hn6⟩
  rw [show [tl8].length = 1 from rfl]
  have k6 : Hid _ := (k5.out _).grow hb6
  clear hb6 hn6 m6 k5
  go_wp2_with fail
  refine (tbDrop_any ⟨15, 0, 0, 0⟩ (fits_sm (by decide) (by decide)) _ k6.out.at').mono ?_
  rintro e w7 ⟨rfl, F7, h7, hb7, hF7⟩
  rw [t5] at h7 ⊢
  rw [show (([tl8].length : Int) - (([] : List Pg.Ln).length : Int)) = 1 from rfl]
  have k7 : Hid _ := k6.out.step h7 hb7.but hF7
  clear h7 hb7 hF7 k6
  go_wp2_with fail
  refine (tbEvict_any _ k7.out.at').mono ?_
  rintro e w8 ⟨rfl, F8, h8, hb8, hF8⟩
  rw [show decide (0 < ([] : List Pg.Ln).length) = false from rfl]
  have k8 : Hid _ := k7.out.step h8 hb8.but hF8
  clear h8 hb8 hF8 k7
  go_wp2_with fail
  go_ret
  exact ⟨rfl, k8.out.bel⟩

/-- Two rows of the same lines are the same. -/
theorem sameLines_yes {ad ad' : Option Addr} {cap cap' : Nat} {L : List Pg.Ln} (w : World) (h : LinesAt w ad L) (h' : LinesAt w ad' L) (hl : L.length ≤ 6) :
    Calls Try.prog 18 #[.slice ad L.length cap, .slice ad' L.length cap'] w fun e w' => e = .returned (.bool true) ∧ Below w.heap.size w w' := by
  have HA : Hid _ := h
  have HB : Hid _ := h'
  clear h h'
  go_enter Try.func18, Try.ntmps18
  go_wp2_with fail
  go_loopw [5] (fun i wr => ∃ j : Nat, j ≤ L.length ∧ i = .int .i64 j ∧ Hid (Below w.heap.size w wr)) (fun i _ => L.length - (intOf i).toNat)
  case atStart => exact ⟨0, by omega, rfl, brefl _⟩
  case round =>
    obtain ⟨j, hj, rfl, HR⟩ := hrel
    have i0 : (0 : Int) ≤ (j : Int) := by omega
    by_cases hlt : j < L.length
    · obtain ⟨g, o, rfl, hg, hm⟩ := LinesAt.below HA.out HR.out j hlt
      obtain ⟨g', o', rfl, hg', hm'⟩ := LinesAt.below HB.out HR.out j hlt
      obtain ⟨k0, k1, k2, k3, k4⟩ := hm
      obtain ⟨m0, m1, m2, m3, m4⟩ := hm'
      have i1 : (j : Int) < (L.length : Int) := by omega
      have fin : Hid (∀ nq, Below w.heap.size w (wr.drewN nq)) := fun nq => bthen HR.out (below_drewN (brefl _) nq)
      generalize L.getD j .zz = x at *
      obtain ⟨⟨p, s, f, r⟩, d⟩ := x
      simp only at k0 k1 k2 k3 k4 m0 m1 m2 m3 m4
      go_wp2_with fail
      go_quiet (fail)
      go_wp2_with fail
      go_roundw
      case rel => exact ⟨j + 1, by omega, by go_num, fin.out _⟩
      case measure => simp [intOf]; omega
    · have i1 : ¬ (j : Int) < (L.length : Int) := by omega
      go_wp2_with fail
      go_ret
      exact ⟨rfl, HR.out⟩

/-- The developers' lines and the document's are the same, and lie apart, in memory that was not there when the call began. -/
structure Tw (w0 w : World) (b rb : Nat) (L L' : List Pg.Ln) (F : Nat → Prop) (vb : Value) : Prop where
  db : Tbd w0 w b L F
  bk : CoAt w rb vb L'
  new : ∀ k, bkF rb vb k → w0.heap.size ≤ k
  apart : ∀ k, F k → ¬ bkF rb vb k
namespace Tw
variable {w0 w w' : World} {b rb : Nat} {L1 L2 L' : List Pg.Ln} {F F' : Nat → Prop} {vb vb' : Value}
theorem grow (h : Tw w0 w b rb L1 L2 F vb) (hb : Below w.heap.size w w') : Tw w0 w' b rb L1 L2 F vb := ⟨h.db.grow hb, h.bk.grow hb, h.new, h.apart⟩
theorem left (h : Tw w0 w b rb L1 L2 F vb) (h1 : TbAt w' b 0 L' F') (hb : But F w w') (hF : ∀ k, F' k → F k ∨ w.heap.size ≤ k) : Tw w0 w' b rb L' L2 F' vb :=
  ⟨h.db.step h1 hb hF, h.bk.keep hb (fun k hk hf => h.apart k hf hk), h.new, fun k hk hm => (hF k hk).elim (fun hf => h.apart k hf hm) (fun hs => by have := h.bk.lt hm; omega)⟩
theorem right (h : Tw w0 w b rb L1 L2 F vb) (h1 : CoAt w' rb vb' L') (hb : But (bkF rb vb) w w') (hF : ∀ k, bkF rb vb' k → bkF rb vb k ∨ w.heap.size ≤ k) : Tw w0 w' b rb L1 L' F vb' :=
  ⟨h.db.keep hb h.apart h.new, h1, fun k hk => (hF k hk).elim (h.new k) (fun hs => Nat.le_trans h.db.bel.size hs), fun k hk hm => (hF k hm).elim (h.apart k hk) (fun hs => by have := h.db.at'.lt hk; omega)⟩
end Tw
theorem LstAt.of {w w' : World} {X o : Nat} {x : Lst} (h : LstAt w X o x) (hc : ∀ p, w'.cell? ⟨X, p, none⟩ = w.cell? ⟨X, p, none⟩) : LstAt w' X o x :=
  ⟨(hc _).trans h.1, (hc _).trans h.2.1, (hc _).trans h.2.2.1, (hc _).trans h.2.2.2.1, (hc _).trans h.2.2.2.2.1, (hc _).trans h.2.2.2.2.2⟩
/-- The same, with a step x in the block X beside. -/
structure Twx (w0 w : World) (b rb X : Nat) (x : Lst) (L L' : List Pg.Ln) (F : Nat → Prop) (vb : Value) : Prop where
  two : Tw w0 w b rb L L' F vb
  xs : LstAt w X 0 x
  nF : ¬ F X
  nB : ¬ bkF rb vb X
  new : w0.heap.size ≤ X
namespace Twx
variable {w0 w w' : World} {b rb X : Nat} {x : Lst} {L1 L2 L' : List Pg.Ln} {F F' : Nat → Prop} {vb vb' : Value}
theorem xl (h : Twx w0 w b rb X x L1 L2 F vb) : X < w.heap.size := World.block_lt_of_cell? _ _ h.xs.1
theorem grow (h : Twx w0 w b rb X x L1 L2 F vb) (hb : Below w.heap.size w w') : Twx w0 w' b rb X x L1 L2 F vb :=
  ⟨h.two.grow hb, h.xs.of fun p => hb.cell (p := ⟨X, p, none⟩) h.xl, h.nF, h.nB, h.new⟩
theorem left (h : Twx w0 w b rb X x L1 L2 F vb) (h1 : TbAt w' b 0 L' F') (hb : But F w w') (hF : ∀ k, F' k → F k ∨ w.heap.size ≤ k) : Twx w0 w' b rb X x L' L2 F' vb :=
  ⟨h.two.left h1 hb hF, h.xs.of fun p => hb.cell (a := ⟨X, p, none⟩) h.xl h.nF, fun hf => (hF X hf).elim h.nF (fun hs => by have := h.xl; omega), h.nB, h.new⟩
theorem right (h : Twx w0 w b rb X x L1 L2 F vb) (h1 : CoAt w' rb vb' L') (hb : But (bkF rb vb) w w') (hF : ∀ k, bkF rb vb' k → bkF rb vb k ∨ w.heap.size ≤ k) : Twx w0 w' b rb X x L1 L' F vb' :=
  ⟨h.two.right h1 hb hF, h.xs.of fun p => hb.cell (a := ⟨X, p, none⟩) h.xl h.nB, h.nF, fun hf => (hF X hf).elim h.nB (fun hs => by have := h.xl; omega), h.new⟩
theorem cells (h : Twx w0 w b rb X x L1 L2 F vb) : w.cell? ⟨X, 0, none⟩ = some (.int .i64 x.a) ∧ w.cell? ⟨X, 1, none⟩ = some (.int .i64 x.k) ∧ w.cell? ⟨X, 2, none⟩ = some (.int .i64 x.m.p) ∧ w.cell? ⟨X, 3, none⟩ = some (.int .i64 x.m.s) ∧ w.cell? ⟨X, 4, none⟩ = some (.int .i64 x.m.f) ∧ w.cell? ⟨X, 5, none⟩ = some (.int .i64 x.m.r) := by
  obtain ⟨h0, h1, h2, h3, h4, h5⟩ := h.xs
  simp only [Nat.zero_add] at h1 h2 h3 h4 h5
  exact ⟨h0, h1, h2, h3, h4, h5⟩
end Twx
end Go.Proofs.Ytkcmlmofcjdgoad
