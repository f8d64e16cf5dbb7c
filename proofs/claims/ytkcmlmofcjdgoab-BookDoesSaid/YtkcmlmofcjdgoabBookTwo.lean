
/-
  The developers' book and the document's, side by side, with copies of both: what a step of the one leaves of the others.
-/
import Derived.Test.YtkcmlmofcjdgoabBookKept
import Derived.Test.YtkcmlmofcjdgoabBookRefE
import Derived.Test.YtkcmlmofcjdgoabFrameB
namespace Go.Proofs.Ytkcmlmofcjdgoab
open Go.RowKit Go.Sort
set_option maxRecDepth 100000
set_option linter.unusedVariables false

/-- The two books are the same, and lie apart, in memory that was not there when the call began. -/
structure Two (w0 w : World) (b rb : Nat) (L1 L2 : List Pg.Mp) (F : Nat → Prop) (vb : Value) : Prop where
  db : Bkd w0 w b L1 F
  bk : BkAt w rb vb L2
  new : ∀ k, bkF rb vb k → w0.heap.size ≤ k
  apart : ∀ k, F k → ¬ bkF rb vb k
namespace Two
variable {w0 w w' : World} {b rb : Nat} {L1 L2 L' : List Pg.Mp} {F F' : Nat → Prop} {vb vb' : Value}
theorem grow (h : Two w0 w b rb L1 L2 F vb) (hb : Below w.heap.size w w') : Two w0 w' b rb L1 L2 F vb := ⟨h.db.grow hb, h.bk.grow hb, h.new, h.apart⟩
theorem left (h : Two w0 w b rb L1 L2 F vb) (h1 : DbAt w' b L' F') (hb : But F w w') (hF : ∀ k, F' k → F k ∨ w.heap.size ≤ k) : Two w0 w' b rb L' L2 F' vb :=
  ⟨h.db.step h1 hb hF, h.bk.keep hb (fun k hk hf => h.apart k hf hk), h.new, fun k hk hm => (hF k hk).elim (fun hf => h.apart k hf hm) (fun hs => by have := h.bk.lt hm; omega)⟩
theorem right (h : Two w0 w b rb L1 L2 F vb) (h1 : BkAt w' rb vb' L') (hb : But (bkF rb vb) w w') (hF : ∀ k, bkF rb vb' k → bkF rb vb k ∨ w.heap.size ≤ k) : Two w0 w' b rb L1 L' F vb' :=
  ⟨h.db.keep hb h.apart h.new, h1, fun k hk => (hF k hk).elim (h.new k) (fun hs => Nat.le_trans h.db.bel.size hs), fun k hk hm => (hF k hm).elim (h.apart k hk) (fun hs => by have := h.db.at'.lt hk; omega)⟩
theorem keep {G : Nat → Prop} (h : Two w0 w b rb L1 L2 F vb) (hb : But G w w') (h1 : ∀ k, F k → ¬ G k) (h2 : ∀ k, bkF rb vb k → ¬ G k) (h3 : ∀ k, G k → w0.heap.size ≤ k) : Two w0 w' b rb L1 L2 F vb :=
  ⟨h.db.keep hb h1 h3, h.bk.keep hb h2, h.new, h.apart⟩
end Two

/-- The two books with copies of both, a step and two mappings beside them. -/
structure Pre (w0 w : World) (b rb c rc X Y : Nat) (x : Bst) (L1 L2 L0 : List Pg.Mp) (F : Nat → Prop) (vb : Value) (G : Nat → Prop) (vc : Value) : Prop where
  two : Two w0 w b rb L1 L2 F vb
  old : DbAt w c L0 G
  was : BkAt w rc vc L0
  xs : BstAt w X 0 x
  lX : X < w.heap.size
  lY : Y + 1 < w.heap.size
  nY : w0.heap.size ≤ Y
  aF : ∀ k, F k → ¬ G k ∧ ¬ bkF rc vc k ∧ k ≠ X ∧ k ≠ Y ∧ k ≠ Y + 1
  aB : ∀ k, bkF rb vb k → ¬ G k ∧ ¬ bkF rc vc k ∧ k ≠ X ∧ k ≠ Y ∧ k ≠ Y + 1
  aY : (¬ G Y ∧ ¬ G (Y + 1)) ∧ (¬ bkF rc vc Y ∧ ¬ bkF rc vc (Y + 1)) ∧ X ≠ Y ∧ X ≠ Y + 1
theorem BstAt.of {w w' : World} {b : Nat} {x : Bst} (h : BstAt w b 0 x) (hc : ∀ o, w'.cell? ⟨b, o, none⟩ = w.cell? ⟨b, o, none⟩) : BstAt w' b 0 x :=
  ⟨(hc _).trans h.1, (hc _).trans h.2.1, (hc _).trans h.2.2.1, (hc _).trans h.2.2.2.1, (hc _).trans h.2.2.2.2.1, (hc _).trans h.2.2.2.2.2.1, (hc _).trans h.2.2.2.2.2.2.1, (hc _).trans h.2.2.2.2.2.2.2.1, (hc _).trans h.2.2.2.2.2.2.2.2⟩
namespace Pre
variable {w0 w w' : World} {b rb c rc X Y : Nat} {x : Bst} {L1 L2 L0 L' : List Pg.Mp} {F F' G : Nat → Prop} {vb vb' vc : Value}
theorem grow (h : Pre w0 w b rb c rc X Y x L1 L2 L0 F vb G vc) (hb : Below w.heap.size w w') : Pre w0 w' b rb c rc X Y x L1 L2 L0 F vb G vc :=
  ⟨h.two.grow hb, h.old.keep (G := fun _ => False) (But.of_below hb) (fun _ _ => id), h.was.grow hb, h.xs.of fun o => hb.cell (p := ⟨X, o, none⟩) h.lX, Nat.lt_of_lt_of_le h.lX hb.size, Nat.lt_of_lt_of_le h.lY hb.size, h.nY, h.aF, h.aB, h.aY⟩
theorem left (h : Pre w0 w b rb c rc X Y x L1 L2 L0 F vb G vc) (h1 : DbAt w' b L' F') (hb : But F w w') (hF : ∀ k, F' k → F k ∨ w.heap.size ≤ k) : Pre w0 w' b rb c rc X Y x L' L2 L0 F' vb G vc := by
  refine ⟨h.two.left h1 hb hF, h.old.keep hb fun k hk hf => (h.aF k hf).1 hk, h.was.keep hb fun k hk hf => (h.aF k hf).2.1 hk, h.xs.of fun o => hb.cell (a := ⟨X, o, none⟩) h.lX (fun hf => (h.aF _ hf).2.2.1 rfl), Nat.lt_of_lt_of_le h.lX hb.size, Nat.lt_of_lt_of_le h.lY hb.size, h.nY, fun k hk => ?_, h.aB, h.aY⟩
  rcases hF k hk with hf | hs
  · exact h.aF k hf
  · have lX := h.lX
    have lY := h.lY
    exact ⟨fun hg => by have := h.old.lt hg; omega, fun hg => by have := h.was.lt hg; omega, by omega, by omega, by omega⟩
theorem right (h : Pre w0 w b rb c rc X Y x L1 L2 L0 F vb G vc) (h1 : BkAt w' rb vb' L') (hb : But (bkF rb vb) w w') (hF : ∀ k, bkF rb vb' k → bkF rb vb k ∨ w.heap.size ≤ k) : Pre w0 w' b rb c rc X Y x L1 L' L0 F vb' G vc := by
  refine ⟨h.two.right h1 hb hF, h.old.keep hb fun k hk hf => (h.aB k hf).1 hk, h.was.keep hb fun k hk hf => (h.aB k hf).2.1 hk, h.xs.of fun o => hb.cell (a := ⟨X, o, none⟩) h.lX (fun hf => (h.aB _ hf).2.2.1 rfl), Nat.lt_of_lt_of_le h.lX hb.size, Nat.lt_of_lt_of_le h.lY hb.size, h.nY, h.aF, fun k hk => ?_, h.aY⟩
  rcases hF k hk with hf | hs
  · exact h.aB k hf
  · have lX := h.lX
    have lY := h.lY
    exact ⟨fun hg => by have := h.old.lt hg; omega, fun hg => by have := h.was.lt hg; omega, by omega, by omega, by omega⟩
/-- The cells of the two mappings beside, behind a step of one book. -/
theorem yleft (h : Pre w0 w b rb c rc X Y x L1 L2 L0 F vb G vc) (hb : But F w w') : (∀ o, w'.cell? ⟨Y, o, none⟩ = w.cell? ⟨Y, o, none⟩ ∧ w'.frozen? ⟨Y, o, none⟩ = w.frozen? ⟨Y, o, none⟩) ∧ (∀ o, w'.cell? ⟨Y + 1, o, none⟩ = w.cell? ⟨Y + 1, o, none⟩ ∧ w'.frozen? ⟨Y + 1, o, none⟩ = w.frozen? ⟨Y + 1, o, none⟩) := by
  have lY := h.lY
  exact ⟨fun o => ⟨hb.cell (a := ⟨Y, o, none⟩) (by show Y < _; omega) (fun hf => (h.aF _ hf).2.2.2.1 rfl), hb.frozen (a := ⟨Y, o, none⟩) (by show Y < _; omega) (fun hf => (h.aF _ hf).2.2.2.1 rfl)⟩, fun o => ⟨hb.cell (a := ⟨Y + 1, o, none⟩) h.lY (fun hf => (h.aF _ hf).2.2.2.2 rfl), hb.frozen (a := ⟨Y + 1, o, none⟩) h.lY (fun hf => (h.aF _ hf).2.2.2.2 rfl)⟩⟩
theorem yright (h : Pre w0 w b rb c rc X Y x L1 L2 L0 F vb G vc) (hb : But (bkF rb vb) w w') : (∀ o, w'.cell? ⟨Y, o, none⟩ = w.cell? ⟨Y, o, none⟩ ∧ w'.frozen? ⟨Y, o, none⟩ = w.frozen? ⟨Y, o, none⟩) ∧ (∀ o, w'.cell? ⟨Y + 1, o, none⟩ = w.cell? ⟨Y + 1, o, none⟩ ∧ w'.frozen? ⟨Y + 1, o, none⟩ = w.frozen? ⟨Y + 1, o, none⟩) := by
  have lY := h.lY
  exact ⟨fun o => ⟨hb.cell (a := ⟨Y, o, none⟩) (by show Y < _; omega) (fun hf => (h.aB _ hf).2.2.2.1 rfl), hb.frozen (a := ⟨Y, o, none⟩) (by show Y < _; omega) (fun hf => (h.aB _ hf).2.2.2.1 rfl)⟩, fun o => ⟨hb.cell (a := ⟨Y + 1, o, none⟩) h.lY (fun hf => (h.aB _ hf).2.2.2.2 rfl), hb.frozen (a := ⟨Y + 1, o, none⟩) h.lY (fun hf => (h.aB _ hf).2.2.2.2 rfl)⟩⟩
/-- The mappings beside are written. -/
theorem beside (h : Pre w0 w b rb c rc X Y x L1 L2 L0 F vb G vc) (hb : But (fun k => k = Y ∨ k = Y + 1) w w') : Pre w0 w' b rb c rc X Y x L1 L2 L0 F vb G vc := by
  have nY := h.nY
  refine ⟨h.two.keep hb (fun k hk e => ?_) (fun k hk e => ?_) (fun k e => by omega), h.old.keep hb (fun k hk e => ?_), h.was.keep hb (fun k hk e => ?_), h.xs.of fun o => hb.cell (a := ⟨X, o, none⟩) h.lX (fun e => e.elim h.aY.2.2.1 h.aY.2.2.2), Nat.lt_of_lt_of_le h.lX hb.size, Nat.lt_of_lt_of_le h.lY hb.size, h.nY, h.aF, h.aB, h.aY⟩
  · exact e.elim (h.aF k hk).2.2.2.1 (h.aF k hk).2.2.2.2
  · exact e.elim (h.aB k hk).2.2.2.1 (h.aB k hk).2.2.2.2
  · exact e.elim (fun e => h.aY.1.1 (e ▸ hk)) (fun e => h.aY.1.2 (e ▸ hk))
  · exact e.elim (fun e => h.aY.2.1.1 (e ▸ hk)) (fun e => h.aY.2.1.2 (e ▸ hk))
end Pre
end Go.Proofs.Ytkcmlmofcjdgoab
