
/-
  The developers' changes of tables: a way that is made longer.
-/
import Derived.Test.YtiojflaehjbcbafGreatTabB
namespace Go.Proofs.YtiojflaehjbcbafGreat
open Go.RowKit Go.Sort
set_option linter.unusedVariables false
set_option linter.unusedSimpArgs false
set_option maxRecDepth 100000

namespace St
variable {w0 w w' : World} {k b : Nat} {F0 : Nat → Prop} {S : Pg.Fs} {lv : Int} {e : Pg.En} {ts ps : List Int} {p : Int}
theorem setLv (h : St w0 w k b F0 S lv e ts ps p) (lv' : Int) : St w0 (w.setCell ⟨k, 1, none⟩ (.int .i64 lv')) k b F0 S lv' e ts ps p := by
  obtain ⟨B, v1, v2, F, hM, hF, hB, h1, h2, hBB, hm⟩ := h.body
  have hb : But (fun j => j = k) w (w.setCell ⟨k, 1, none⟩ (.int .i64 lv')) := (But.refl (fun j => j = k) w).setCell (a := ⟨k, 1, none⟩) (.inr rfl) _
  exact ⟨B, v1, v2, F, hM.setLv lv', hF.keep hb fun j hj e => h2 j hj (.inl e), hB.trans hb fun i hi e => (hm i (.inl e)).elim id fun h => by omega, h1, h2, Nat.le_trans hBB hb.size, hm⟩
theorem setE (h : St w0 w k b F0 S lv e ts ps p) (e' : Pg.En) : St w0 ((((((w.setCell ⟨k, 2, none⟩ (.bool e'.t)).setCell ⟨k, 3, none⟩ (.bool e'.l)).setCell ⟨k, 4, none⟩ (.int .i64 e'.r)).setCell ⟨k, 5, none⟩ (.bool e'.u)).setCell ⟨k, 6, none⟩ (.bool e'.d)).setCell ⟨k, 7, none⟩ (.int .i64 e'.f)) k b F0 S lv e' ts ps p := by
  obtain ⟨B, v1, v2, F, hM, hF, hB, h1, h2, hBB, hm⟩ := h.body
  have hb : But (fun j => j = k) w ((((((w.setCell ⟨k, 2, none⟩ (.bool e'.t)).setCell ⟨k, 3, none⟩ (.bool e'.l)).setCell ⟨k, 4, none⟩ (.int .i64 e'.r)).setCell ⟨k, 5, none⟩ (.bool e'.u)).setCell ⟨k, 6, none⟩ (.bool e'.d)).setCell ⟨k, 7, none⟩ (.int .i64 e'.f)) :=
    ((((((But.refl (fun j => j = k) w).setCell (a := ⟨k, 2, none⟩) (.inr rfl) _).setCell (a := ⟨k, 3, none⟩) (.inr rfl) _).setCell (a := ⟨k, 4, none⟩) (.inr rfl) _).setCell (a := ⟨k, 5, none⟩) (.inr rfl) _).setCell (a := ⟨k, 6, none⟩) (.inr rfl) _).setCell (a := ⟨k, 7, none⟩) (.inr rfl) _
  exact ⟨B, v1, v2, F, hM.setE e', hF.keep hb fun j hj e => h2 j hj (.inl e), hB.trans hb fun i hi e => (hm i (.inl e)).elim id fun h => by omega, h1, h2, Nat.le_trans hBB hb.size, hm⟩
end St

/-- A maker's tables have grown by one. -/
theorem Mk.push1 {w w3 W : World} {B k b : Nat} {lv : Int} {e : Pg.En} {v1 v2 : Value} {ts ps : List Int} {p : Int} (h : Mk w B k b lv e v1 v2 ts ps p) (hB : B ≤ w.heap.size) (hW : Below w.heap.size w W) (hg : W.grownBy w3 v1.ownBlock) {g cap : Nat} (hat : v1.ownBlock = some g ∨ w.heap.size ≤ g) (x : Int)
    (ho : w3.ownsRow B 3 1 (.slice (some ⟨g, 0, none⟩) (ts.length + 1) cap) (ts.length + 1) (ints ts ++ [.int .i64 x])) :
    Mk (w3.setCell ⟨k, 8, none⟩ (.slice (some ⟨g, 0, none⟩) (ts.length + 1) cap)) B k b lv e (.slice (some ⟨g, 0, none⟩) (ts.length + 1) cap) v2 (ts ++ [x]) ps p ∧ But (fun j => j = k ∨ v1.ownBlock = some j) w (w3.setCell ⟨k, 8, none⟩ (.slice (some ⟨g, 0, none⟩) (ts.length + 1) cap)) ∧ ∀ j, mkF k (.slice (some ⟨g, 0, none⟩) (ts.length + 1) cap) v2 j → mkF k v1 v2 j ∨ w.heap.size ≤ j := by
  have hlk := h.lb
  have b1 : But (fun j => v1.ownBlock = some j) w w3 := (But.of_below hW).grown hg fun k hk => .inr hk
  have hgk : g ≠ k := by
    rcases hat with hat | hat
    · exact fun e => h.n1 (e ▸ hat)
    · omega
  have hg2 : ∀ j, g = j → v2.ownBlock ≠ some j := by
    rintro j rfl
    rcases hat with hat | hat
    · exact h.ne g hat
    · exact fun e => by have := (h.o2.lt g e).2; omega
  have hk3 : w3.heap[k]? = w.heap[k]? := b1.block k hlk h.n1
  have c : ∀ {o : Nat} {v : Value}, o ≠ 8 → w.cell? ⟨k, o, none⟩ = some v → (w3.setCell ⟨k, 8, none⟩ (.slice (some ⟨g, 0, none⟩) (ts.length + 1) cap)).cell? ⟨k, o, none⟩ = some v := fun {o v} ho e =>
    (World.cell?_setCell_other _ _ _ _ (fun e => ho (by injection e with _ e; exact e.symm))).trans ((World.cell?_of_block hk3).trans e)
  have b2 : But (fun j => j = k ∨ v1.ownBlock = some j) w (w3.setCell ⟨k, 8, none⟩ (.slice (some ⟨g, 0, none⟩) (ts.length + 1) cap)) := (b1.mono fun _ _ h => .inr h).setCell (a := ⟨k, 8, none⟩) (.inr (.inl rfl)) _
  refine ⟨⟨c (by decide) h.c0, c (by decide) h.c1, c (by decide) h.c2, c (by decide) h.c3, c (by decide) h.c4, c (by decide) h.c5, c (by decide) h.c6, c (by decide) h.c7, World.cell?_setCell_same _ _ _ ((World.cell?_of_block hk3).trans h.c8), c (by decide) h.c9, c (by decide) h.c10, fun o => by rw [World.frozen?_setCell]; exact (World.frozen?_of_block hk3).trans (h.fz o), ?_, ?_, fun j hj => hg2 j (by simpa [Value.ownBlock] using hj), fun e => hgk (by simpa [Value.ownBlock] using e), h.n2, h.hi⟩, b2, fun j hj => ?_⟩
  · have e1 : ints (ts ++ [x]) = ints ts ++ [.int .i64 x] := by simp [ints]
    rw [List.length_append, List.length_singleton, e1]
    exact owns_of_block ho fun j hj => Below.heap_setCell _ _ _ _ fun e => hgk ((by simpa [Value.ownBlock] using hj : g = j).trans e)
  · exact ownsMaps_but h.o2 b2 fun j hj e => by
      rcases e with e | e
      · exact h.n2 (e ▸ hj)
      · exact h.ne j e hj
  · rcases hj with hj | hj | hj
    · exact .inl (.inl hj)
    · have : g = j := by simpa [Value.ownBlock] using hj
      subst this
      exact hat.imp (fun e => .inr (.inl e)) id
    · exact .inl (.inr (.inr hj))
/-- A maker's places have grown by one. -/
theorem Mk.push2 {w w3 W : World} {B k b : Nat} {lv : Int} {e : Pg.En} {v1 v2 : Value} {ts ps : List Int} {p : Int} (h : Mk w B k b lv e v1 v2 ts ps p) (hB : B ≤ w.heap.size) (hW : Below w.heap.size w W) (hg : W.grownBy w3 v2.ownBlock) {g cap : Nat} (hat : v2.ownBlock = some g ∨ w.heap.size ≤ g) (x : Int)
    (ho : w3.ownsRow B 3 1 (.slice (some ⟨g, 0, none⟩) (ps.length + 1) cap) (ps.length + 1) (ints ps ++ [.int .i64 x])) :
    Mk (w3.setCell ⟨k, 9, none⟩ (.slice (some ⟨g, 0, none⟩) (ps.length + 1) cap)) B k b lv e v1 (.slice (some ⟨g, 0, none⟩) (ps.length + 1) cap) ts (ps ++ [x]) p ∧ But (fun j => j = k ∨ v2.ownBlock = some j) w (w3.setCell ⟨k, 9, none⟩ (.slice (some ⟨g, 0, none⟩) (ps.length + 1) cap)) ∧ ∀ j, mkF k v1 (.slice (some ⟨g, 0, none⟩) (ps.length + 1) cap) j → mkF k v1 v2 j ∨ w.heap.size ≤ j := by
  have hlk := h.lb
  have b1 : But (fun j => v2.ownBlock = some j) w w3 := (But.of_below hW).grown hg fun k hk => .inr hk
  have hgk : g ≠ k := by
    rcases hat with hat | hat
    · exact fun e => h.n2 (e ▸ hat)
    · omega
  have hg2 : v1.ownBlock ≠ some g := by
    rcases hat with hat | hat
    · exact fun e => h.ne g e hat
    · exact fun e => by have := (h.o1.lt g e).2; omega
  have hk3 : w3.heap[k]? = w.heap[k]? := b1.block k hlk h.n2
  have c : ∀ {o : Nat} {v : Value}, o ≠ 9 → w.cell? ⟨k, o, none⟩ = some v → (w3.setCell ⟨k, 9, none⟩ (.slice (some ⟨g, 0, none⟩) (ps.length + 1) cap)).cell? ⟨k, o, none⟩ = some v := fun {o v} ho e =>
    (World.cell?_setCell_other _ _ _ _ (fun e => ho (by injection e with _ e; exact e.symm))).trans ((World.cell?_of_block hk3).trans e)
  have b2 : But (fun j => j = k ∨ v2.ownBlock = some j) w (w3.setCell ⟨k, 9, none⟩ (.slice (some ⟨g, 0, none⟩) (ps.length + 1) cap)) := (b1.mono fun _ _ h => .inr h).setCell (a := ⟨k, 9, none⟩) (.inr (.inl rfl)) _
  refine ⟨⟨c (by decide) h.c0, c (by decide) h.c1, c (by decide) h.c2, c (by decide) h.c3, c (by decide) h.c4, c (by decide) h.c5, c (by decide) h.c6, c (by decide) h.c7, c (by decide) h.c8, World.cell?_setCell_same _ _ _ ((World.cell?_of_block hk3).trans h.c9), c (by decide) h.c10, fun o => by rw [World.frozen?_setCell]; exact (World.frozen?_of_block hk3).trans (h.fz o), ?_, ?_, fun j hj e => hg2 (by have : g = j := (by simpa [Value.ownBlock] using e); rw [this]; exact hj), h.n1, fun e => hgk (by simpa [Value.ownBlock] using e), h.hi⟩, b2, fun j hj => ?_⟩
  · exact ownsMaps_but h.o1 b2 fun j hj e => by
      rcases e with e | e
      · exact h.n1 (e ▸ hj)
      · exact h.ne j hj e
  · have e1 : ints (ps ++ [x]) = ints ps ++ [.int .i64 x] := by simp [ints]
    rw [List.length_append, List.length_singleton, e1]
    exact owns_of_block ho fun j hj => Below.heap_setCell _ _ _ _ fun e => hgk ((by simpa [Value.ownBlock] using hj : g = j).trans e)
  · rcases hj with hj | hj | hj
    · exact .inl (.inl hj)
    · exact .inl (.inr (.inl hj))
    · have : g = j := by simpa [Value.ownBlock] using hj
      subst this
      exact hat.imp (fun e => .inr (.inr e)) id
/-- A step that writes a maker's own blocks. -/
theorem St.step {w0 w w' : World} {B k b : Nat} {F0 F : Nat → Prop} {S : Pg.Fs} {lv lv' : Int} {e e' : Pg.En} {ts ts' ps ps' : List Int} {p p' : Int} {v1 v2 v1' v2' : Value} {G : Nat → Prop} (hM : Mk w B k b lv e v1 v2 ts ps p) (hF : FrAt w b S F) (hB : But F0 w0 w) (h1 : ∀ j, F j → F0 j ∨ w0.heap.size ≤ j) (h2 : ∀ j, F j → ¬ mkF k v1 v2 j) (hBB : B ≤ w.heap.size) (hm : ∀ j, mkF k v1 v2 j → F0 j ∨ w0.heap.size ≤ j)
    (hM' : Mk w' B k b lv' e' v1' v2' ts' ps' p') (hb : But G w w') (hG : ∀ j, G j → mkF k v1 v2 j) (hn : ∀ j, mkF k v1' v2' j → mkF k v1 v2 j ∨ w.heap.size ≤ j) : St w0 w' k b F0 S lv' e' ts' ps' p' :=
  ⟨B, v1', v2', F, hM', hF.keep hb fun j hj hg => h2 j hj (hG j hg), hB.trans hb fun i hi hg => (hm i (hG i hg)).elim id fun h => by omega, h1, fun j hj hm => by
    rcases hn j hm with h | h
    · exact h2 j hj h
    · have := hF.lt hj; omega, Nat.le_trans hBB hb.size, fun j hj => by
    rcases hn j hj with h | h
    · exact hm j h
    · have := hB.size; exact .inr (by omega)⟩

theorem stTake_any {w0 w : World} {k b : Nat} {F0 : Nat → Prop} {S : Pg.Fs} {lv : Int} {e : Pg.En} {ts ps : List Int} {p : Int} (h : St w0 w k b F0 S lv e ts ps p) :
    Calls Tryz.prog 16 #[.pointer (some ⟨b, 0, none⟩)] w fun en w' => en = .returned (.int .i64 S.takeN) ∧ St w0 w' k b F0 S.take lv e ts ps p := by
  obtain ⟨B, v1, v2, F, hM, hF, hB, h1, h2, hBB, hm⟩ := h.body
  refine (frTake_any w hF).mono ?_
  rintro en w' ⟨rfl, F', f1, f2, f3⟩
  refine ⟨rfl, B, v1, v2, F', hM.keep f2 fun j hj hf => h2 j hf hj, f1, hB.trans f2 fun i hi hf => ?_, fun j hj => ?_, fun j hj hm => ?_, Nat.le_trans hBB f2.size, hm⟩
  · rcases h1 i hf with h | h
    · exact h
    · omega
  · rcases f3 j hj with h | h
    · exact h1 j h
    · have := hB.size; exact .inr (by omega)
  · rcases f3 j hj with h | h
    · exact h2 j h hm
    · have := (hM.lt hm).2; omega
end Go.Proofs.YtiojflaehjbcbafGreat
