
/-
  A book that a call has made for itself: what each asking of it answers and leaves.
-/
import Derived.Test.YtkcmlmofcjdgoabBook
namespace Go.Proofs.Ytkcmlmofcjdgoab
open Go.RowKit Go.Sort
set_option maxRecDepth 100000
set_option linter.unusedVariables false

/-- A book of the mappings L lies at b, in memory that was not there when the call began; and what was there is as it was. -/
structure Bkd (w0 w : World) (b : Nat) (L : List Pg.Mp) (F : Nat → Prop) : Prop where
  at' : DbAt w b L F
  bel : Below w0.heap.size w0 w
  new : ∀ k, F k → w0.heap.size ≤ k

namespace Bkd
variable {w0 w w' : World} {b : Nat} {L L' : List Pg.Mp} {F F' : Nat → Prop}
theorem grow (h : Bkd w0 w b L F) (hb : Below w.heap.size w w') : Bkd w0 w' b L F :=
  ⟨h.at'.keep (G := fun _ => False) (But.of_below hb) (fun _ _ => id), bthen h.bel hb, h.new⟩
theorem step (h : Bkd w0 w b L F) (h1 : DbAt w' b L' F') (hb : But F w w') (hF : ∀ k, F' k → F k ∨ w.heap.size ≤ k) : Bkd w0 w' b L' F' :=
  ⟨h1, h.bel.trans (hb.below h.bel.size h.new), fun k hk => (hF k hk).elim (h.new k) (fun hk => Nat.le_trans h.bel.size hk)⟩
theorem keep {G : Nat → Prop} (h : Bkd w0 w b L F) (hb : But G w w') (hF : ∀ k, F k → ¬ G k) (hG : ∀ k, G k → w0.heap.size ≤ k) : Bkd w0 w' b L F :=
  ⟨h.at'.keep hb hF, h.bel.trans (hb.below h.bel.size hG), h.new⟩
theorem add (h : Bkd w0 w b L F) (m : Pg.Mp) (hm : Pg.fits m.p) :
    Calls Try.prog 30 #[.pointer (some ⟨b, 0, none⟩), m.val] w fun e w' => e = .returned (.int .i64 (Pg.addC L m)) ∧ ∃ F', Bkd w0 w' b (Pg.addL L m) F' :=
  (dbAdd_any m hm w h.at').mono fun e w' ⟨he, F', h1, h2, h3⟩ => ⟨he, F', h.step h1 h2 h3⟩
theorem drop (h : Bkd w0 w b L F) (q : Int) (hq : Pg.fits q) :
    Calls Try.prog 32 #[.pointer (some ⟨b, 0, none⟩), .int .i64 q] w fun e w' => e = .returned (.tuple #[(Pg.dropM L q).val, .int .i64 (Pg.dropC L q)]) ∧ ∃ F', Bkd w0 w' b (Pg.dropL L q) F' :=
  (dbDrop_any q hq w h.at').mono fun e w' ⟨he, F', h1, h2, h3⟩ => ⟨he, F', h.step h1 h2 h3⟩
theorem find (h : Bkd w0 w b L F) (q : Int) (hq : Pg.fits q) :
    Calls Try.prog 39 #[.pointer (some ⟨b, 0, none⟩), .int .i64 q] w fun e w' => e = .returned (.tuple #[(Pg.at' L q).val, .bool (Pg.fnd L q).isSome]) ∧ Bkd w0 w' b L F :=
  (dbFind_any q hq w h.at').mono fun e w' ⟨he, hb⟩ => ⟨he, h.grow hb⟩
theorem list (h : Bkd w0 w b L F) :
    Calls Try.prog 37 #[.pointer (some ⟨b, 0, none⟩)] w fun e w' => ∃ ad cap, e = .returned (.slice ad L.length cap) ∧ MapsAt w' ad L ∧ Bkd w0 w' b L F :=
  (dbList_any w h.at').mono fun e w' ⟨ad, cap, he, h1, h2, h3⟩ => ⟨ad, cap, he, h1, h.grow h2⟩
/-- A block X beside the book stays as it is when the book takes a step. -/
theorem beside {X : Nat} (h1 : DbAt w' b L' F') (hb : But F w w') (hF : ∀ k, F' k → F k ∨ w.heap.size ≤ k) (hX : ¬ F X) (hl : X < w.heap.size) :
    ¬ F' X ∧ X < w'.heap.size ∧ (∀ o, w'.cell? ⟨X, o, none⟩ = w.cell? ⟨X, o, none⟩) ∧ (∀ o, w'.frozen? ⟨X, o, none⟩ = w.frozen? ⟨X, o, none⟩) :=
  ⟨fun hf => (hF X hf).elim hX (fun h => by omega), Nat.lt_of_lt_of_le hl hb.size, fun o => hb.cell (a := ⟨X, o, none⟩) hl hX, fun o => hb.frozen (a := ⟨X, o, none⟩) hl hX⟩
end Bkd

def bm8 : Pg.Mp := ⟨8, 1, 16, 0⟩
def bm9 : Pg.Mp := ⟨9, 0, 0, 0⟩
def bm7 : Pg.Mp := ⟨7, 0, 0, 0⟩
theorem fits_small {n : Int} (h0 : 0 ≤ n) (h1 : n ≤ 100) : Pg.fits n := by unfold Pg.fits; omega

theorem bookBegun_any (w : World) :
    Calls Try.prog 26 #[] w fun e w' => e = .returned (.bool true) ∧ Below w.heap.size w w' := by
  have t1 : Pg.addC [] bm8 = 0 ∧ Pg.addL [] bm8 = [bm8] := ⟨rfl, rfl⟩
  have t2 : Pg.addC [bm8] bm9 = 4 ∧ Pg.addL [bm8] bm9 = [bm8] := ⟨rfl, rfl⟩
  have t3 : Pg.addC [bm8] bm7 = 0 ∧ Pg.addL [bm8] bm7 = [bm7, bm8] := ⟨rfl, rfl⟩
  have t4 : Pg.dropC [bm7, bm8] 16 = 5 ∧ Pg.dropL [bm7, bm8] 16 = [bm7, bm8] ∧ Pg.dropM [bm7, bm8] 16 = .zz := ⟨rfl, rfl, rfl⟩
  have t5 : Pg.at' [bm7, bm8] 15 = bm8 ∧ (Pg.fnd [bm7, bm8] 15).isSome = true := ⟨rfl, rfl⟩
  go_enter Try.func26, Try.ntmps26
  go_wp2_with fail
  refine (dbNew_any _).mono ?_
  rintro e w1 ⟨b, F1, rfl, h1, hb1, hF1⟩
  have n1 : ¬ F1 w1.heap.size := fun hf => by have := h1.lt hf; omega
  have k1 : Hid (∀ o, Bkd w (w1.alloc o) b [] F1) := fun o => Bkd.grow ⟨h1, hb1, hF1⟩ (balloc (brefl _) o)
  clear h1 hb1 hF1
  go_wp2_with fail
  refine (dbAdd_any bm8 (fits_small (by decide) (by decide)) _ (k1.out _).at').mono ?_
  rintro e w2 ⟨rfl, F2, h2, hb2, hF2⟩
  rw [t1.1]
  rw [t1.2] at h2
  obtain ⟨n2, l2, x2, y2⟩ := Bkd.beside h2 hb2 hF2 n1 (by simp)
  have k2 : Hid _ := (k1.out _).step h2 hb2 hF2
  have x2 : Hid _ := x2
  clear h2 hb2 hF2 k1 n1
  go_wp2_with fail
  refine (dbAdd_any bm9 (fits_small (by decide) (by decide)) _ k2.out.at').mono ?_
  rintro e w3 ⟨rfl, F3, h3, hb3, hF3⟩
  rw [t2.1]
  rw [t2.2] at h3
  obtain ⟨n3, l3, x3, y3⟩ := Bkd.beside h3 hb3 hF3 n2 l2
  have k3 : Hid _ := k2.out.step h3 hb3 hF3
  have x3 : Hid _ := fun o => (x3 o).trans (x2.out o)
  clear h3 hb3 hF3 k2 n2 l2 x2 y2
  go_wp2_with fail
  refine (dbAdd_any bm7 (fits_small (by decide) (by decide)) _ k3.out.at').mono ?_
  rintro e w4 ⟨rfl, F4, h4, hb4, hF4⟩
  rw [t3.1]
  rw [t3.2] at h4
  obtain ⟨n4, l4, x4, y4⟩ := Bkd.beside h4 hb4 hF4 n3 l3
  have k4 : Hid _ := k3.out.step h4 hb4 hF4
  have x4 : Hid _ := fun o => (x4 o).trans (x3.out o)
  clear h4 hb4 hF4 k3 n3 l3 x3 y3
  go_wp2_with fail
  refine (dbDrop_any 16 (fits_small (by decide) (by decide)) _ k4.out.at').mono ?_
  rintro e w5 ⟨rfl, F5, h5, hb5, hF5⟩
  rw [t4.1, t4.2.2, show (.zz : Pg.Mp).val = .agg #[.int .i64 0, .int .i64 0, .int .i64 0, .int .i64 0] from rfl]
  rw [t4.2.1] at h5
  obtain ⟨n5, l5, x5, y5⟩ := Bkd.beside h5 hb5 hF5 n4 l4
  have k5 : Hid (∀ o, Bkd w (w5.alloc o) b [bm7, bm8] F5) := fun o => (k4.out.step h5 hb5 hF5).grow (balloc (brefl _) o)
  have x5 : Hid _ := fun o => (x5 o).trans (x4.out o)
  clear h5 hb5 hF5 k4 n4 l4 x4 y4 y5
  go_wp2_with fail
  refine (dbFind_any 15 (fits_small (by decide) (by decide)) _ (k5.out _).at').mono ?_
  rintro e w6 ⟨rfl, hb6⟩
  rw [t5.1, t5.2, show bm8.val = .agg #[.int .i64 8, .int .i64 1, .int .i64 16, .int .i64 0] from rfl]
  have k6 : Hid (Bkd w w6 b [bm7, bm8] F5) := (k5.out _).grow hb6
  have x6 := fun o => (hb6.cell (p := ⟨w1.heap.size, o, none⟩) (by simp; omega)).trans ((Below.cell (p := ⟨w1.heap.size, o, none⟩) (balloc (brefl w5) _) l5).trans (x5.out o))
  have l6 : w1.heap.size < w6.heap.size := by have := hb6.size; simp at this; omega
  clear hb6 k5 x5
  have z0 : w6.cell? ⟨w1.heap.size, 0, none⟩ = some (.int .i64 8) := (x6 0).trans (by simp [go_sem])
  have z1 : w6.cell? ⟨w1.heap.size, 1, none⟩ = some (.int .i64 1) := (x6 1).trans (by simp [go_sem])
  have z2 : w6.cell? ⟨w1.heap.size, 2, none⟩ = some (.int .i64 16) := (x6 2).trans (by simp [go_sem])
  have z3 : w6.cell? ⟨w1.heap.size, 3, none⟩ = some (.int .i64 0) := (x6 3).trans (by simp [go_sem])
  clear x6
  go_wp2_with fail
  refine (dbList_any _ (k6.out.grow (balloc (brefl _) _)).at').mono ?_
  rintro e w7 ⟨ad7, cap7, rfl, m7, hb7, hn7⟩
  have k7 : Hid (Bkd w w7 b [bm7, bm8] F5) := (k6.out.grow (balloc (brefl _) _)).grow hb7
  rw [show [bm7, bm8].length = 2 from rfl]
  clear k6 m7 hb7 hn7
  go_wp2_with fail
  refine (dbList_any _ k7.out.at').mono ?_
  rintro e w8 ⟨ad8, cap8, rfl, m8, hb8, hn8⟩
  have k8 : Hid (Bkd w w8 b [bm7, bm8] F5) := k7.out.grow hb8
  obtain ⟨g, rfl, hg, hm⟩ := m8 0 (by decide)
  have c0 : w8.cell? ⟨g, 0, none⟩ = some (.int .i64 7) := hm.1
  rw [show [bm7, bm8].length = 2 from rfl]
  clear k7 m8 hb8 hn8 hm
  go_wp2_with fail
  go_ret
  exact ⟨rfl, k8.out.bel⟩
end Go.Proofs.Ytkcmlmofcjdgoab
