
/-
  Frames that a call has made for itself: what each asking of them answers and leaves.
-/
import Derived.Test.YtkcmlmofcjdgoabFrames
namespace Go.Proofs.Ytkcmlmofcjdgoab
open Go.RowKit Go.Sort
set_option linter.unusedVariables false

/-- Frames S lie at b, in memory that was not there when the call began; and what was there is as it was. -/
structure Kept (w0 w : World) (b : Nat) (S : Pg.Fs) (F : Nat → Prop) : Prop where
  at' : FrAt w b S F
  bel : Below w0.heap.size w0 w
  new : ∀ k, F k → w0.heap.size ≤ k

namespace Kept
variable {w0 w : World} {b : Nat} {S : Pg.Fs} {F : Nat → Prop}
theorem grow (h : Kept w0 w b S F) {w' : World} (hb : Below w.heap.size w w') : Kept w0 w' b S F :=
  ⟨h.at'.keep (G := fun _ => False) (But.of_below hb) (fun _ _ => id), bthen h.bel hb, h.new⟩
theorem alloc (h : Kept w0 w b S F) (o : Obj) : Kept w0 (w.alloc o) b S F := h.grow (balloc (brefl w) o)
theorem step (h : Kept w0 w b S F) {w' : World} {S' : Pg.Fs} {F' : Nat → Prop} (h1 : FrAt w' b S' F') (hb : But F w w') (hF : ∀ k, F' k → F k ∨ w.heap.size ≤ k) : Kept w0 w' b S' F' :=
  ⟨h1, h.bel.trans (hb.below h.bel.size h.new), fun k hk => (hF k hk).elim (h.new k) (fun hk => Nat.le_trans h.bel.size hk)⟩
theorem take (h : Kept w0 w b S F) :
    Calls Try.prog 15 #[.pointer (some ⟨b, 0, none⟩)] w fun e w' => e = .returned (.int .i64 S.takeN) ∧ ∃ F', Kept w0 w' b S.take F' :=
  (frTake_any w h.at').mono fun e w' ⟨he, F', h1, h2, h3⟩ => ⟨he, F', h.step h1 h2 h3⟩
theorem give (h : Kept w0 w b S F) (k : Int) :
    Calls Try.prog 17 #[.pointer (some ⟨b, 0, none⟩), .int .i64 k] w fun e w' => e = .returned (.bool (S.has k)) ∧ ∃ F', Kept w0 w' b (S.give k) F' :=
  (frGive_any k w h.at').mono fun e w' ⟨he, F', h1, h2, h3⟩ => ⟨he, F', h.step h1 h2 h3⟩
theorem store (h : Kept w0 w b S F) (k i v : Int) (h0 : 0 ≤ v) (h1 : v < 18446744073709551616) :
    Calls Try.prog 20 #[.pointer (some ⟨b, 0, none⟩), .int .i64 k, .int .i64 i, .int .u64 v] w fun e w' => e = .returned (.bool (S.at' k i)) ∧ ∃ F', Kept w0 w' b (S.store k i v) F' :=
  (frStore_any k i v h0 h1 w h.at').mono fun e w' ⟨he, F', h1, h2, h3⟩ => ⟨he, F', h.step h1 h2 h3⟩
theorem swap (h : Kept w0 w b S F) (k i old v : Int) (h0 : 0 ≤ v) (h1 : v < 18446744073709551616) :
    Calls Try.prog 21 #[.pointer (some ⟨b, 0, none⟩), .int .i64 k, .int .i64 i, .int .u64 old, .int .u64 v] w fun e w' => e = .returned (.bool (S.swaps k i old)) ∧ ∃ F', Kept w0 w' b (S.swap k i old v) F' :=
  (frSwap_any k i old v h0 h1 w h.at').mono fun e w' ⟨he, F', h1, h2, h3⟩ => ⟨he, F', h.step h1 h2 h3⟩
theorem free (h : Kept w0 w b S F) :
    Calls Try.prog 22 #[.pointer (some ⟨b, 0, none⟩)] w fun e w' => e = .returned (.int .i64 S.free) ∧ Kept w0 w' b S F :=
  (frFree_any w h.at').mono fun e w' ⟨he, hb⟩ => ⟨he, h.grow hb⟩
end Kept

theorem framesBegun_any (w : World) :
    Calls Try.prog 11 #[] w fun e w' => e = .returned (.bool true) ∧ Below w.heap.size w w' := by
  go_enter Try.func11, Try.ntmps11
  go_wp2_with fail
  refine (frNew_any 2 (by decide) _).mono ?_
  rintro e w1 ⟨b, F1, rfl, h1, hb1, hF1⟩
  have k1 : Hid (∀ o, Kept w (w1.alloc o) b (Pg.Fs.new 2) F1) := fun o => Kept.alloc ⟨h1, hb1, hF1⟩ o
  clear h1 hb1 hF1
  go_wp2_with fail
  refine (Kept.take (k1.out _)).mono ?_
  rintro e w2 ⟨rfl, F2, k2⟩
  have k2 : Hid _ := k2
  rw [show (Pg.Fs.new 2).takeN = 0 from rfl]
  clear k1
  go_wp2_with fail
  refine (Kept.take k2.out).mono ?_
  rintro e w3 ⟨rfl, F3, k3⟩
  have k3 : Hid _ := k3
  rw [show (Pg.Fs.new 2).take.takeN = 1 from rfl]
  clear k2
  go_wp2_with fail
  refine (Kept.take k3.out).mono ?_
  rintro e w4 ⟨rfl, F4, k4⟩
  have k4 : Hid _ := k4
  rw [show (Pg.Fs.new 2).take.take.takeN = -1 from rfl]
  clear k3
  go_wp2_with fail
  refine (Kept.give k4.out 0).mono ?_
  rintro e w5 ⟨rfl, F5, k5⟩
  have k5 : Hid _ := k5
  rw [show (Pg.Fs.new 2).take.take.take.has 0 = true from rfl]
  clear k4
  go_wp2_with fail
  refine (Kept.give k5.out 0).mono ?_
  rintro e w6 ⟨rfl, F6, k6⟩
  have k6 : Hid _ := k6
  rw [show ((Pg.Fs.new 2).take.take.take.give 0).has 0 = false from rfl]
  clear k5
  go_wp2_with fail
  refine (Kept.store k6.out 0 0 1 (by decide) (by decide)).mono ?_
  rintro e w7 ⟨rfl, F7, k7⟩
  have k7 : Hid _ := k7
  rw [show (((Pg.Fs.new 2).take.take.take.give 0).give 0).at' 0 0 = false from rfl]
  clear k6
  go_wp2_with fail
  refine (Kept.store k7.out 1 7 1 (by decide) (by decide)).mono ?_
  rintro e w8 ⟨rfl, F8, k8⟩
  have k8 : Hid _ := k8
  rw [show ((((Pg.Fs.new 2).take.take.take.give 0).give 0).store 0 0 1).at' 1 7 = true from rfl]
  clear k7
  go_wp2_with fail
  refine (Kept.swap k8.out 1 7 1 2 (by decide) (by decide)).mono ?_
  rintro e w9 ⟨rfl, F9, k9⟩
  have k9 : Hid _ := k9
  rw [show (((((Pg.Fs.new 2).take.take.take.give 0).give 0).store 0 0 1).store 1 7 1).swaps 1 7 1 = true from rfl]
  clear k8
  go_wp2_with fail
  refine (Kept.swap k9.out 1 7 1 3 (by decide) (by decide)).mono ?_
  rintro e w10 ⟨rfl, F10, k10⟩
  have k10 : Hid _ := k10
  rw [show ((((((Pg.Fs.new 2).take.take.take.give 0).give 0).store 0 0 1).store 1 7 1).swap 1 7 1 2).swaps 1 7 1 = false from rfl]
  clear k9
  go_wp2_with fail
  refine (Kept.free k10.out).mono ?_
  rintro e w11 ⟨rfl, k11⟩
  have k11 : Hid _ := k11
  rw [show (((((((Pg.Fs.new 2).take.take.take.give 0).give 0).store 0 0 1).store 1 7 1).swap 1 7 1 2).swap 1 7 1 3).free = 1 from rfl]
  clear k10
  go_wp2_with fail
  go_ret
  exact ⟨rfl, k11.out.bel⟩
end Go.Proofs.Ytkcmlmofcjdgoab
