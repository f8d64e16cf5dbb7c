/-
  The developers' Find.
-/
import Derived.Test.YtbkpndgadgafiaeWalkC
import Derived.Test.YtbkpndgadgafiaeLoose
namespace Go.Proofs.Ytbkpndgadgafiae
open Go.RowKit Go.Sort
set_option linter.unusedVariables false
set_option maxRecDepth 100000

theorem owns_le {w : World} {base base' size n : Nat} {e : TypeId} {v : Value} {xs : List Value} (h : w.ownsRow base e size v n xs) (hb : base' ≤ base) : w.ownsRow base' e size v n xs :=
  ⟨h.1, h.2.imp id fun ⟨g, cap, cur, e, k, r⟩ => ⟨g, cap, cur, e, Nat.le_trans hb k, r⟩⟩
/-- What Find's spot is behind steps: those of the last one; and the tables and places of all. -/
def lastL (X : List Pg.Sp) : Int := match X.getLast? with
  | some s => (s.level : Int)
  | none => 0
def lastE (X : List Pg.Sp) : Pg.En := match X.getLast? with
  | some s => s.e
  | none => Pg.En.zero
def tabs (X : List Pg.Sp) : List Int := X.map fun s => s.table
def plcs (X : List Pg.Sp) : List Int := X.map fun s => (s.place : Int)
theorem lastL_push (X : List Pg.Sp) (s : Pg.Sp) : lastL (X ++ [s]) = s.level := by simp [lastL]
theorem lastE_push (X : List Pg.Sp) (s : Pg.Sp) : lastE (X ++ [s]) = s.e := by simp [lastE]
theorem tabs_push (X : List Pg.Sp) (s : Pg.Sp) : ints (tabs (X ++ [s])) = ints (tabs X) ++ [.int .i64 s.table] := by simp [tabs, ints]
theorem plcs_push (X : List Pg.Sp) (s : Pg.Sp) : ints (plcs (X ++ [s])) = ints (plcs X) ++ [.int .i64 (s.place : Int)] := by simp [plcs, ints]
theorem tabs_len (X : List Pg.Sp) : (tabs X).length = X.length := by simp [tabs]
theorem plcs_len (X : List Pg.Sp) : (plcs X).length = X.length := by simp [plcs]

/-- A spot at the block c: its level, its entry, and its two rows. -/
structure SpotAt (c : Nat) (lv : Int) (e : Pg.En) (v1 v2 : Value) (w : World) : Prop where
  c0 : w.cell? ⟨c, 0, none⟩ = some (.int .i64 lv)
  c1 : w.cell? ⟨c, 1, none⟩ = some (.bool e.t)
  c2 : w.cell? ⟨c, 2, none⟩ = some (.bool e.l)
  c3 : w.cell? ⟨c, 3, none⟩ = some (.int .i64 e.r)
  c4 : w.cell? ⟨c, 4, none⟩ = some (.bool e.u)
  c5 : w.cell? ⟨c, 5, none⟩ = some (.bool e.d)
  c6 : w.cell? ⟨c, 6, none⟩ = some (.int .i64 e.f)
  c7 : w.cell? ⟨c, 7, none⟩ = some v1
  c8 : w.cell? ⟨c, 8, none⟩ = some v2
  fz : ∀ o, w.frozen? ⟨c, o, none⟩ = false
theorem SpotAt.lb {c : Nat} {lv : Int} {e : Pg.En} {v1 v2 : Value} {w : World} (h : SpotAt c lv e v1 v2 w) : c < w.heap.size := World.block_lt_of_cell? _ _ h.c0
theorem SpotAt.of_block {c : Nat} {lv : Int} {e : Pg.En} {v1 v2 : Value} {w w' : World} (h : SpotAt c lv e v1 v2 w) (hk : w'.heap[c]? = w.heap[c]?) : SpotAt c lv e v1 v2 w' :=
  ⟨(World.cell?_of_block hk).trans h.c0, (World.cell?_of_block hk).trans h.c1, (World.cell?_of_block hk).trans h.c2, (World.cell?_of_block hk).trans h.c3, (World.cell?_of_block hk).trans h.c4, (World.cell?_of_block hk).trans h.c5, (World.cell?_of_block hk).trans h.c6, (World.cell?_of_block hk).trans h.c7, (World.cell?_of_block hk).trans h.c8, fun o => (World.frozen?_of_block hk).trans (h.fz o)⟩

/-- What Find keeps. -/
structure Spots (w0 : World) (bp c : Nat) (p : Int) (X : List Pg.Sp) (V : Nat → Prop) (w : World) : Prop where
  bel : Below w0.heap.size w0 w
  hi : w0.heap.size ≤ c
  pc : w.cell? ⟨bp, 0, none⟩ = some (.int .i64 p)
  pb : bp < c
  var : ∃ v1 v2, SpotAt c (lastL X) (lastE X) v1 v2 w ∧ w.ownsRow (c + 1) 3 1 v1 X.length (ints (tabs X)) ∧ w.ownsRow (c + 1) 3 1 v2 X.length (ints (plcs X)) ∧ (∀ k, v1.ownBlock = some k → v2.ownBlock ≠ some k) ∧ V = fun k => k = c ∨ v1.ownBlock = some k ∨ v2.ownBlock = some k
namespace Spots
variable {w0 : World} {bp c : Nat} {p : Int} {X X' : List Pg.Sp} {V : Nat → Prop} {w w' : World}
theorem grow (h : Spots w0 bp c p X V w) (hb : Below w.heap.size w w') : Spots w0 bp c p X V w' := by
  obtain ⟨h1, h2, h3, h4, v1, v2, hs, o1, o2, hne, rfl⟩ := h
  exact ⟨h1.trans (hb.mono h1.size), h2, cell_later hb h3, h4, v1, v2, hs.of_block (hb.block c hs.lb), ownsMaps_below o1 hb, ownsMaps_below o2 hb, hne, rfl⟩
theorem lt (h : Spots w0 bp c p X V w) {k : Nat} (hk : V k) : k < w.heap.size := by
  obtain ⟨h1, h2, h3, h4, v1, v2, hs, o1, o2, hne, rfl⟩ := h
  rcases hk with rfl | hk | hk
  · exact hs.lb
  · exact (o1.lt k hk).2
  · exact (o2.lt k hk).2
theorem fr {b : Nat} {S : Pg.Fs} {F : Nat → Prop} (hf : FrAt w0 b S F) (h : Spots w0 bp c p X V w) : FrAt w b S F :=
  hf.keep (G := fun k => w0.heap.size ≤ k) (w' := w) ⟨h.bel.os, h.bel.tape, h.bel.output, h.bel.size, fun k hk _ => h.bel.block k hk⟩ (fun k hk => by have := hf.lt hk; omega)
end Spots

theorem SpotAt.set7 {c : Nat} {lv : Int} {e : Pg.En} {v1 v2 : Value} {w : World} (h : SpotAt c lv e v1 v2 w) (v : Value) : SpotAt c lv e v v2 (w.setCell ⟨c, 7, none⟩ v) :=
  ⟨(World.cell?_setCell_other _ _ _ _ (by simp)).trans h.c0, (World.cell?_setCell_other _ _ _ _ (by simp)).trans h.c1, (World.cell?_setCell_other _ _ _ _ (by simp)).trans h.c2, (World.cell?_setCell_other _ _ _ _ (by simp)).trans h.c3, (World.cell?_setCell_other _ _ _ _ (by simp)).trans h.c4, (World.cell?_setCell_other _ _ _ _ (by simp)).trans h.c5, (World.cell?_setCell_other _ _ _ _ (by simp)).trans h.c6, World.cell?_setCell_same _ _ _ h.c7, (World.cell?_setCell_other _ _ _ _ (by simp)).trans h.c8, fun o => by rw [World.frozen?_setCell]; exact h.fz o⟩
theorem SpotAt.set8 {c : Nat} {lv : Int} {e : Pg.En} {v1 v2 : Value} {w : World} (h : SpotAt c lv e v1 v2 w) (v : Value) : SpotAt c lv e v1 v (w.setCell ⟨c, 8, none⟩ v) :=
  ⟨(World.cell?_setCell_other _ _ _ _ (by simp)).trans h.c0, (World.cell?_setCell_other _ _ _ _ (by simp)).trans h.c1, (World.cell?_setCell_other _ _ _ _ (by simp)).trans h.c2, (World.cell?_setCell_other _ _ _ _ (by simp)).trans h.c3, (World.cell?_setCell_other _ _ _ _ (by simp)).trans h.c4, (World.cell?_setCell_other _ _ _ _ (by simp)).trans h.c5, (World.cell?_setCell_other _ _ _ _ (by simp)).trans h.c6, (World.cell?_setCell_other _ _ _ _ (by simp)).trans h.c7, World.cell?_setCell_same _ _ _ h.c8, fun o => by rw [World.frozen?_setCell]; exact h.fz o⟩

/-- A row has grown by one: what else is as it was. -/
structure Grew (c : Nat) (v : Value) (W w3 : World) (g : Nat) : Prop where
  but : But (fun k => v.ownBlock = some k) W w3
  far : ∀ k, v.ownBlock = some k → c < k
  gc : c < g
  gl : g < w3.heap.size
  at' : v.ownBlock = some g ∨ W.heap.size ≤ g
theorem grew {c : Nat} {e : TypeId} {size n g : Nat} {v : Value} {xs : List Value} {W w3 : World} {o : Obj} (hl : W.ownsRow (c + 1) e size v n xs) (hg : (W.alloc o).grownBy w3 v.ownBlock) (hat : v.ownBlock = some g ∨ g = W.heap.size + 1) (hc : c < W.heap.size) (hlt : g < w3.heap.size) : Grew c v W w3 g := by
  refine ⟨((But.refl _ W).alloc o).grown hg fun k hk => .inr hk, fun k hk => (hl.lt k hk).1, ?_, hlt, hat.imp id fun h => by omega⟩
  rcases hat with h | h
  · exact (hl.lt g h).1
  · omega

/-- Find's steps, if there is no code; and its code. -/
def fndX (S : Pg.Fs) (t p : Int) : List Pg.Sp := if Pg.below p 4096 = true ∧ (Pg.thr S (Pg.onW p) 3 t 0).2 = 0 then (Pg.thr S (Pg.onW p) 3 t 0).1 else []
def fndC (S : Pg.Fs) (t p : Int) : Int := if Pg.below p 4096 = true then (Pg.thr S (Pg.onW p) 3 t 0).2 else 1
def spotV (X : List Pg.Sp) (v1 v2 : Value) : Value := .agg #[.int .i64 (lastL X), .bool (lastE X).t, .bool (lastE X).l, .int .i64 (lastE X).r, .bool (lastE X).u, .bool (lastE X).d, .int .i64 (lastE X).f, v1, v2]

theorem later9 {w w' : World} {b : Nat} {v0 v1 v2 v3 v4 v5 v6 v7 v8 : Value} (hk : w'.heap[b]? = w.heap[b]?)
    (h : w.cell? ⟨b, 0, none⟩ = some v0 ∧ w.cell? ⟨b, 1, none⟩ = some v1 ∧ w.cell? ⟨b, 2, none⟩ = some v2 ∧ w.cell? ⟨b, 3, none⟩ = some v3 ∧ w.cell? ⟨b, 4, none⟩ = some v4 ∧ w.cell? ⟨b, 5, none⟩ = some v5 ∧ w.cell? ⟨b, 6, none⟩ = some v6 ∧ w.cell? ⟨b, 7, none⟩ = some v7 ∧ w.cell? ⟨b, 8, none⟩ = some v8) :
    w'.cell? ⟨b, 0, none⟩ = some v0 ∧ w'.cell? ⟨b, 1, none⟩ = some v1 ∧ w'.cell? ⟨b, 2, none⟩ = some v2 ∧ w'.cell? ⟨b, 3, none⟩ = some v3 ∧ w'.cell? ⟨b, 4, none⟩ = some v4 ∧ w'.cell? ⟨b, 5, none⟩ = some v5 ∧ w'.cell? ⟨b, 6, none⟩ = some v6 ∧ w'.cell? ⟨b, 7, none⟩ = some v7 ∧ w'.cell? ⟨b, 8, none⟩ = some v8 :=
  ⟨(World.cell?_of_block hk).trans h.1, (World.cell?_of_block hk).trans h.2.1, (World.cell?_of_block hk).trans h.2.2.1, (World.cell?_of_block hk).trans h.2.2.2.1, (World.cell?_of_block hk).trans h.2.2.2.2.1, (World.cell?_of_block hk).trans h.2.2.2.2.2.1, (World.cell?_of_block hk).trans h.2.2.2.2.2.2.1, (World.cell?_of_block hk).trans h.2.2.2.2.2.2.2.1, (World.cell?_of_block hk).trans h.2.2.2.2.2.2.2.2⟩

theorem but_set9 {F : Nat → Prop} {w w1 : World} (h : But F w w1) (r : Nat) (hr : w.heap.size ≤ r ∨ F r) (x0 x1 x2 x3 x4 x5 x6 x7 x8 : Value) :
    But F w (((((((((w1.setCell ⟨r, 0, none⟩ x0).setCell ⟨r, 1, none⟩ x1).setCell ⟨r, 2, none⟩ x2).setCell ⟨r, 3, none⟩ x3).setCell ⟨r, 4, none⟩ x4).setCell ⟨r, 5, none⟩ x5).setCell ⟨r, 6, none⟩ x6).setCell ⟨r, 7, none⟩ x7).setCell ⟨r, 8, none⟩ x8) :=
  ((((((((h.setCell (a := ⟨r, 0, none⟩) hr x0).setCell (a := ⟨r, 1, none⟩) hr x1).setCell (a := ⟨r, 2, none⟩) hr x2).setCell (a := ⟨r, 3, none⟩) hr x3).setCell (a := ⟨r, 4, none⟩) hr x4).setCell (a := ⟨r, 5, none⟩) hr x5).setCell (a := ⟨r, 6, none⟩) hr x6).setCell (a := ⟨r, 7, none⟩) hr x7).setCell (a := ⟨r, 8, none⟩) hr x8

end Go.Proofs.Ytbkpndgadgafiae
