
/-
  What cores are told (the developers' Shoot): where it lies, and what asking it answers and leaves.
-/
import Derived.Test.YtjaipgdjhdjlnaeChecked
import Derived.Test.YtjaipgdjhdjlnaeMapRow
import Derived.ChangeKeysEq
namespace Go.Proofs.Ytjaipgdjhdjlnae
open Go.RowKit Go.Sort
set_option linter.unusedVariables false
set_option maxRecDepth 100000

namespace Pg
/-- Does no core wait? -/
def shOver (f : Nat → Bool) : Bool := !f 0 && (!f 1 && (!f 2 && !f 3))
/-- Does a core wait? -/
def shWaits (f : Nat → Bool) (k : Int) : Bool := decide (0 ≤ k) && (decide (k < 4) && f k.toNat)
/-- Those below n wait. -/
def shPost (n : Nat) (f : Nat → Bool) : Nat → Bool := fun j => decide (j < n) || f j
/-- This one waits no more. -/
def shAck (k : Nat) (f : Nat → Bool) : Nat → Bool := fun j => if j = k then false else f j
theorem shOver_iff {f : Nat → Bool} : shOver f = true ↔ ∀ k, k < 4 → f k = false := by
  simp only [shOver, Bool.and_eq_true, Bool.not_eq_true']
  constructor
  · rintro ⟨h0, h1, h2, h3⟩ k hk
    have : k = 0 ∨ k = 1 ∨ k = 2 ∨ k = 3 := by omega
    rcases this with rfl | rfl | rfl | rfl <;> assumption
  · intro h
    exact ⟨h 0 (by omega), h 1 (by omega), h 2 (by omega), h 3 (by omega)⟩
end Pg

theorem But.set4 {F : Nat → Prop} {w w1 : World} (h : But F w w1) (r : Nat) (hr : w.heap.size ≤ r ∨ F r) (v0 v1 v2 v3 : Value) :
    But F w ((((w1.setCell ⟨r, 0, none⟩ v0).setCell ⟨r, 1, none⟩ v1).setCell ⟨r, 2, none⟩ v2).setCell ⟨r, 3, none⟩ v3) :=
  (((h.setCell (a := ⟨r, 0, none⟩) hr v0).setCell (a := ⟨r, 1, none⟩) hr v1).setCell (a := ⟨r, 2, none⟩) hr v2).setCell (a := ⟨r, 3, none⟩) hr v3
theorem below_set4 {w w1 : World} (h : Below w.heap.size w w1) (r : Nat) (hr : w.heap.size ≤ r) (v0 v1 v2 v3 : Value) :
    Below w.heap.size w ((((w1.setCell ⟨r, 0, none⟩ v0).setCell ⟨r, 1, none⟩ v1).setCell ⟨r, 2, none⟩ v2).setCell ⟨r, 3, none⟩ v3) :=
  (((h.setCell (p := ⟨r, 0, none⟩) hr v0).setCell (p := ⟨r, 1, none⟩) hr v1).setCell (p := ⟨r, 2, none⟩) hr v2).setCell (p := ⟨r, 3, none⟩) hr v3

/-- A Shoot lies at the block b: of the mapping m, the cores f wait. -/
structure ShAt (w : World) (b : Nat) (m : Pg.Mp) (f : Nat → Bool) : Prop where
  cm : MpAt w b 0 m
  cw : ∀ k, k < 4 → w.cell? ⟨b, 4 + k, none⟩ = some (.bool (f k))
  fz : ∀ p, w.frozen? ⟨b, p, none⟩ = false
namespace ShAt
variable {w w' : World} {b : Nat} {m m' : Pg.Mp} {f f' : Nat → Bool}
theorem lb (h : ShAt w b m f) : b < w.heap.size := World.block_lt_of_cell? _ _ h.cm.1
theorem keep (h : ShAt w b m f) {G : Nat → Prop} (hb : But G w w') (hF : ¬ G b) : ShAt w' b m f := by
  have kb := hb.block b h.lb hF
  exact ⟨⟨(World.cell?_of_block kb).trans h.cm.1, (World.cell?_of_block kb).trans h.cm.2.1, (World.cell?_of_block kb).trans h.cm.2.2.1, (World.cell?_of_block kb).trans h.cm.2.2.2⟩, fun k hk => (World.cell?_of_block kb).trans (h.cw k hk), fun p => (World.frozen?_of_block kb).trans (h.fz p)⟩
theorem grow (h : ShAt w b m f) (hb : Below w.heap.size w w') : ShAt w' b m f := h.keep (G := fun _ => False) (But.of_below hb) id
/-- A core's word is written. -/
theorem set (h : ShAt w b m f) {k : Nat} (hk : k < 4) (v : Bool) : ShAt (w.setCell ⟨b, 4 + k, none⟩ (.bool v)) b m (fun j => if j = k then v else f j) := by
  have hne : ∀ o, o < 4 → (⟨b, 4 + k, none⟩ : Addr) ≠ ⟨b, o, none⟩ := fun o ho e => by injection e with _ e; omega
  obtain ⟨c0, c1, c2, c3⟩ := h.cm
  refine ⟨⟨?_, ?_, ?_, ?_⟩, fun j hj => ?_, fun p => by simpa using h.fz p⟩
  · rw [World.cell?_setCell_other _ _ _ _ (hne _ (by omega))]; exact c0
  · rw [World.cell?_setCell_other _ _ _ _ (hne _ (by omega))]; exact c1
  · rw [World.cell?_setCell_other _ _ _ _ (hne _ (by omega))]; exact c2
  · rw [World.cell?_setCell_other _ _ _ _ (hne _ (by omega))]; exact c3
  · by_cases e : j = k
    · subst e
      rw [World.cell?_setCell_same _ _ _ (h.cw j hj)]
      simp
    · rw [World.cell?_setCell_other _ _ _ _ (fun x => e (by injection x with _ x; omega)), if_neg e]
      exact h.cw j hj
/-- The mapping is written. -/
theorem told (h : ShAt w b m f) (m' : Pg.Mp) : ShAt ((((w.setCell ⟨b, 0, none⟩ (.int .i64 m'.p)).setCell ⟨b, 1, none⟩ (.int .i64 m'.s)).setCell ⟨b, 2, none⟩ (.int .i64 m'.f)).setCell ⟨b, 3, none⟩ (.int .i64 m'.r)) b m' f := by
  obtain ⟨c0, c1, c2, c3⟩ := h.cm
  refine ⟨⟨?_, ?_, ?_, ?_⟩, fun j hj => ?_, fun p => by simpa using h.fz p⟩
  · simp [go_sem, c0]
  · simp at c1; simp [go_sem, c1]
  · simp at c2; simp [go_sem, c2]
  · simp at c3; simp [go_sem, c3]
  · rw [World.cell?_setCell_other _ _ _ _ (fun x => by injection x with _ x; omega), World.cell?_setCell_other _ _ _ _ (fun x => by injection x with _ x; omega), World.cell?_setCell_other _ _ _ _ (fun x => by injection x with _ x; omega), World.cell?_setCell_other _ _ _ _ (fun x => by injection x with _ x; omega)]
    exact h.cw j hj
end ShAt
theorem shAt_ext {w : World} {b : Nat} {m : Pg.Mp} {f g : Nat → Bool} (h : ShAt w b m f) (e : ∀ k, k < 4 → f k = g k) : ShAt w b m g := ⟨h.cm, fun k hk => (e k hk) ▸ h.cw k hk, h.fz⟩

theorem shNew_any (w : World) :
    Calls Try.prog 28 #[] w fun e w' => ∃ b, e = .returned (.pointer (some ⟨b, 0, none⟩)) ∧ ShAt w' b .zz (fun _ => false) ∧ Below w.heap.size w w' ∧ w.heap.size ≤ b := by
  go_enter Try.func28, Try.ntmps28
  go_wp2_with fail
  go_ret
  have hb := heap_alloc_new w (.cells #[.int .i64 0, .int .i64 0, .int .i64 0, .int .i64 0, .bool false, .bool false, .bool false, .bool false] 130)
  refine ⟨_, rfl, ⟨⟨?_, ?_, ?_, ?_⟩, fun k hk => ?_, fun o => ?_⟩, balloc (brefl _) _, Nat.le_refl _⟩
  · exact cell_of_row _ _ 0 _ _ _ hb
  · exact cell_of_row _ _ 1 _ _ _ hb
  · exact cell_of_row _ _ 2 _ _ _ hb
  · exact cell_of_row _ _ 3 _ _ _ hb
  · rw [cell_of_row _ _ (4 + k) _ _ _ hb]
    have : k = 0 ∨ k = 1 ∨ k = 2 ∨ k = 3 := by omega
    rcases this with rfl | rfl | rfl | rfl <;> rfl
  · unfold World.frozen?; simp only [hb]; simp

theorem infoBoolS : (Try.prog.info? 4).map (fun i => (i.zero, i.size, i.bytes)) = some (some (.bool false), 1, 1) := by kernel_rfl
theorem run_equal4 (x0 x1 x2 x3 : Bool) (w : World) : Sem.run Try.prog (Op.equalIn 10000 128 (.agg #[.bool x0, .bool x1, .bool x2, .bool x3]) (.agg #[.bool false, .bool false, .bool false, .bool false])) w = .ok (!x0 && (!x1 && (!x2 && !x3))) w := by
  obtain ⟨q0, hq, hz0, hz1, hz2⟩ := info_parts infoBoolS
  have hu : Try.prog.underlying 128 = some (.array 4 4) := by kernel_rfl
  have hu2 : Try.prog.underlying 4 = some .bool := by kernel_rfl
  have hp : Try.prog.plainKey 4 = true := by kernel_rfl
  have hc : Try.prog.cellsOf 4 = 1 := by kernel_rfl
  have hi : ∀ (a b : Bool) (w : World), (Op.equalIn 9999 4 (.bool a) (.bool b)).run Try.prog w = .ok (a == b) w := fun a b w => run_equalIn_bool w 9998 _ _ _ hu2
  have step : ∀ (xs ys : Array Value) (i : Nat) (a b : Bool) (is : List Nat) (w : World), xs[i * 1]? = some (.bool a) → ys[i * 1]? = some (.bool b) →
      (Op.eqItems 9999 4 1 xs ys (i :: is)).run Try.prog w = bif a == b then (Op.eqItems 9999 4 1 xs ys is).run Try.prog w else .ok false w := by
    intro xs ys i a b is w h1 h2
    simp only [Op.eqItems, Sem.run_bind, run_part_plain w hp h1, run_part_plain w hp h2, hi, Result.andThen_ok]
    cases a == b <;> rfl
  rw [show (10000 : Nat) = 9999 + 1 from rfl, run_equalIn_array w 9999 _ _ hu hq, hc]
  have hr : List.range 4 = [0, 1, 2, 3] := rfl
  rw [hr, step _ _ 0 x0 false _ _ rfl rfl, step _ _ 1 x1 false _ _ rfl rfl, step _ _ 2 x2 false _ _ rfl rfl, step _ _ 3 x3 false _ _ rfl rfl]
  cases x0 <;> cases x1 <;> cases x2 <;> cases x3 <;> rfl
end Go.Proofs.Ytjaipgdjhdjlnae
