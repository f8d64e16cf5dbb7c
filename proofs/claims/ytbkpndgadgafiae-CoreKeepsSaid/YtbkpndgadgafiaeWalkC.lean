/-
  What is kept of a search: rows that grow, each in a variable of its own; the developers' Tables.
-/
import Derived.Test.YtbkpndgadgafiaeWalkB
import Derived.Test.YtbkpndgadgafiaeMapInfo
namespace Go.Proofs.Ytbkpndgadgafiae
open Go.RowKit Go.Sort
set_option linter.unusedVariables false
set_option maxRecDepth 100000

def ints (l : List Int) : List Value := l.map fun k : Int => Value.int .i64 k
theorem ints_len (l : List Int) : (ints l).length = l.length := by simp [ints]
theorem ints_one (l : List Int) : ∀ u, u ∈ ints l → u.oneCell' = true := by
  intro u hu
  simp [ints] at hu
  obtain ⟨k, _, rfl⟩ := hu
  rfl
theorem ints_at (l : List Int) (j : Nat) (hj : j < l.length) : (ints l)[j]? = some (.int .i64 (l.getD j 0)) := by
  simp [ints, List.getD, hj]
/-- The numbers L lie at ad. -/
def IntsAt (w : World) (ad : Option Addr) (L : List Int) : Prop := ∀ j, j < L.length → ∃ g, ad = some ⟨g, 0, none⟩ ∧ g < w.heap.size ∧ w.cell? ⟨g, j, none⟩ = some (.int .i64 (L.getD j 0))
theorem IntsAt.below {w w' : World} {ad : Option Addr} {L : List Int} (h : IntsAt w ad L) (hb : Below w.heap.size w w') : IntsAt w' ad L := by
  intro j hj
  obtain ⟨g, e, hg, hm⟩ := h j hj
  exact ⟨g, e, Nat.lt_of_lt_of_le hg hb.size, (hb.cell (p := ⟨g, j, none⟩) hg).trans hm⟩
theorem owns_intsAt {w : World} {base : Nat} {ad : Option Addr} {n cap : Nat} {L : List Int} (h : w.ownsRow base 3 1 (.slice ad n cap) L.length (ints L)) : IntsAt w ad L := by
  intro j hj
  obtain ⟨g, cap', e, _, hg⟩ := h.form (by omega)
  cases e
  refine ⟨g, rfl, hg, ?_⟩
  rw [h.cellAt _ (by omega)]
  exact ints_at L j hj

/-- A variable at the block c, the offset o, holds a row that lies behind B. -/
structure Var (B : Nat) (c o : Nat) (e : TypeId) (size : Nat) (vb : Value) (n : Nat) (xs : List Value) (w : World) : Prop where
  cell : w.cell? ⟨c, o, none⟩ = some vb
  own : w.ownsRow B e size vb n xs
  ne : vb.ownBlock ≠ some c
namespace Var
variable {B c o : Nat} {e : TypeId} {size : Nat} {vb : Value} {n : Nat} {xs : List Value} {w w' : World}
theorem grow (h : Var B c o e size vb n xs w) (hb : Below w.heap.size w w') : Var B c o e size vb n xs w' :=
  ⟨cell_later hb h.cell, ownsMaps_below h.own hb, h.ne⟩
theorem lt (h : Var B c o e size vb n xs w) {k : Nat} (hk : vb.ownBlock = some k) : k < w.heap.size := (h.own.lt k hk).2
theorem lb (h : Var B c o e size vb n xs w) : c < w.heap.size := World.block_lt_of_cell? _ _ h.cell
/-- A row that has grown, in the world w3, is stored. -/
theorem push {wA w3 : World} {g cap n' : Nat} {xs' : List Value} (h : Var B c o e size vb n xs w) (hA : Below w.heap.size w wA) (hg : wA.grownBy w3 vb.ownBlock)
    (hown : w3.ownsRow B e size (.slice (some ⟨g, 0, none⟩) n' cap) n' xs') (hat : vb.ownBlock = some g ∨ g = wA.heap.size) :
    w3.cell? ⟨c, o, none⟩ = some vb ∧ (∀ o, w3.frozen? ⟨c, o, none⟩ = w.frozen? ⟨c, o, none⟩) ∧ (∀ o, w3.cell? ⟨c, o, none⟩ = w.cell? ⟨c, o, none⟩) ∧ g ≠ c ∧ Var B c o e size (.slice (some ⟨g, 0, none⟩) n' cap) n' xs' (w3.setCell ⟨c, o, none⟩ (.slice (some ⟨g, 0, none⟩) n' cap)) ∧
      But (fun k => k = c ∨ vb.ownBlock = some k) w (w3.setCell ⟨c, o, none⟩ (.slice (some ⟨g, 0, none⟩) n' cap)) ∧ (vb.ownBlock = some g ∨ w.heap.size ≤ g) := by
  have hl := h.lb
  have hgc : g ≠ c := by
    rintro rfl
    rcases hat with e1 | e1
    · exact h.ne e1
    · have := hA.size; omega
  have hB : But (fun k => k = c ∨ vb.ownBlock = some k) w w3 := (But.of_below hA).grown hg fun k hk => .inr (.inr hk)
  have hB2 : But (fun k => vb.ownBlock = some k) w w3 := (But.of_below hA).grown hg fun k hk => .inr hk
  have hc : w3.cell? ⟨c, o, none⟩ = some vb := (hB2.cell (a := ⟨c, o, none⟩) hl (fun e => h.ne e)).trans h.cell
  refine ⟨hc, fun o => hB2.frozen (a := ⟨c, o, none⟩) hl (fun e => h.ne e), fun o => hB2.cell (a := ⟨c, o, none⟩) hl (fun e => h.ne e), hgc, ⟨World.cell?_setCell_same _ _ _ hc, ?_, ?_⟩, hB.setCell (.inr (.inl rfl)) _, ?_⟩
  · exact owns_of_block hown fun k hk => Below.heap_setCell _ _ _ _ (fun e => hgc ((show g = k by simpa [Value.ownBlock] using hk).trans e))
  · simpa [Value.ownBlock] using hgc
  · exact hat.imp id fun e => by have := hA.size; omega
end Var

/-- What a search that keeps one row keeps. -/
structure Keeps (w0 : World) (c : Nat) (e : TypeId) (size : Nat) (len : List Pg.Sp → Nat) (row : List Pg.Sp → List Value) (X : List Pg.Sp) (V : Nat → Prop) (w : World) : Prop where
  bel : Below w0.heap.size w0 w
  hi : w0.heap.size ≤ c
  fz : ∀ o, w.frozen? ⟨c, o, none⟩ = false
  var : ∃ vb, Var w0.heap.size c 0 e size vb (len X) (row X) w ∧ V = fun k => k = c ∨ vb.ownBlock = some k
namespace Keeps
variable {w0 : World} {c : Nat} {e : TypeId} {size : Nat} {len : List Pg.Sp → Nat} {row : List Pg.Sp → List Value} {X X' : List Pg.Sp} {V : Nat → Prop} {w w' : World}
theorem grow (h : Keeps w0 c e size len row X V w) (hb : Below w.heap.size w w') : Keeps w0 c e size len row X V w' := by
  obtain ⟨h1, h2, h3, vb, hv, rfl⟩ := h
  exact ⟨h1.trans (hb.mono h1.size), h2, fun o => (hb.frozen (p := ⟨c, o, none⟩) hv.lb).trans (h3 o), vb, hv.grow hb, rfl⟩
theorem lt (h : Keeps w0 c e size len row X V w) {k : Nat} (hk : V k) : k < w.heap.size := by
  obtain ⟨h1, h2, h3, vb, hv, rfl⟩ := h
  rcases hk with rfl | hk
  · exact hv.lb
  · exact hv.lt hk
theorem same (h : Keeps w0 c e size len row X V w) (h1 : len X' = len X) (h2 : row X' = row X) : Keeps w0 c e size len row X' V w :=
  ⟨h.bel, h.hi, h.fz, by rw [h1, h2]; exact h.var⟩
theorem stay (h : Keeps w0 c e size len row X V w) (hb : Below w.heap.size w w') (h1 : len X' = len X) (h2 : row X' = row X) : ∃ V', Keeps w0 c e size len row X' V' w' ∧ But V w w' ∧ ∀ k, V' k → V k ∨ w.heap.size ≤ k :=
  ⟨V, (h.grow hb).same h1 h2, But.of_below hb, fun k hk => .inl hk⟩
theorem fr {b : Nat} {S : Pg.Fs} {F : Nat → Prop} (hf : FrAt w0 b S F) (h : Keeps w0 c e size len row X V w) : FrAt w b S F :=
  hf.keep (G := fun k => w0.heap.size ≤ k) (w' := w) ⟨h.bel.os, h.bel.tape, h.bel.output, h.bel.size, fun k hk _ => h.bel.block k hk⟩ (fun k hk => by have := hf.lt hk; omega)
/-- What was there when the search began is there. -/
theorem push (h : Keeps w0 c e size len row X V w) {vb : Value} (hv : Var w0.heap.size c 0 e size vb (len X) (row X) w) (hV : V = fun k => k = c ∨ vb.ownBlock = some k) {wA w3 : World} {g cap n' : Nat} {xs' : List Value} (hA : Below w.heap.size w wA) (hg : wA.grownBy w3 vb.ownBlock)
    (hown : w3.ownsRow w0.heap.size e size (.slice (some ⟨g, 0, none⟩) n' cap) n' xs') (hat : vb.ownBlock = some g ∨ g = wA.heap.size) (h1 : len X' = n') (h2 : row X' = xs') :
    ∃ V', Keeps w0 c e size len row X' V' (w3.setCell ⟨c, 0, none⟩ (.slice (some ⟨g, 0, none⟩) n' cap)) ∧ But V w (w3.setCell ⟨c, 0, none⟩ (.slice (some ⟨g, 0, none⟩) n' cap)) ∧ ∀ k, V' k → V k ∨ w.heap.size ≤ k := by
  obtain ⟨p1, p2, p2', p3, p4, p5, p6⟩ := hv.push hA hg hown hat
  subst hV
  refine ⟨_, ⟨?_, h.hi, fun o => by rw [World.frozen?_setCell, p2]; exact h.fz o, _, by rw [h1, h2]; exact p4, rfl⟩, p5, fun k hk => ?_⟩
  · have hlo : ∀ k, (k = c ∨ vb.ownBlock = some k) → w0.heap.size ≤ k := fun k hk => by
      rcases hk with rfl | hk
      · exact h.hi
      · exact (hv.own.lt k hk).1
    exact h.bel.trans (p5.below h.bel.size hlo)
  · rcases hk with rfl | hk
    · exact .inl (.inl rfl)
    · have e1 : g = k := by simpa [Value.ownBlock] using hk
      subst e1
      exact p6.imp .inr id
end Keeps

theorem infoIntW : (Try.prog.info? 3).map (fun i => (i.zero, i.size, i.bytes)) = some (some (.int .i64 0), 1, 8) := by kernel_rfl

end Go.Proofs.Ytbkpndgadgafiae
