
/-
  The developers' changes of tables: Remove.
-/
import Derived.Test.YtiojflaehjbcbaeGreatTabE
import Derived.Test.YtiojflaehjbcbaeGreatTabF
import Derived.Test.YtiojflaehjbcbaeGreatTabH
namespace Go.Proofs.YtiojflaehjbcbaeGreat
open Go.RowKit Go.Sort
set_option linter.unusedVariables false
set_option linter.unusedSimpArgs false
set_option maxRecDepth 100000

/-- A maker, from where it stands on. -/
theorem St.rebase {w0 w : World} {k b : Nat} {F0 : Nat → Prop} {S : Pg.Fs} {lv : Int} {e : Pg.En} {ts ps : List Int} {p : Int} (h : St w0 w k b F0 S lv e ts ps p) :
    ∃ H : Nat → Prop, St w w k b H S lv e ts ps p ∧ (∀ j, H j → F0 j ∨ w0.heap.size ≤ j) ∧ ∀ j, H j → j < w.heap.size := by
  obtain ⟨B, v1, v2, F, hM, hF, hB, h1, h2, hBB, hm⟩ := h.body
  refine ⟨fun j => F j ∨ mkF k v1 v2 j, ⟨B, v1, v2, F, hM, hF, But.refl _ _, fun j hj => .inl (.inl hj), h2, hBB, fun j hj => .inl (.inr hj)⟩, fun j hj => hj.elim (h1 j) (hm j), fun j hj => hj.elim (fun h => hF.lt h) fun h => (hM.lt h).2⟩
/-- What others write does not matter to it. -/
theorem St.other {w0 w w' : World} {k b : Nat} {H : Nat → Prop} {S : Pg.Fs} {lv : Int} {e : Pg.En} {ts ps : List Int} {p : Int} (h : St w0 w k b H S lv e ts ps p) {G : Nat → Prop} (hb : But G w w') (hG : ∀ j, G j → j < w0.heap.size ∧ ¬ H j) :
    ∃ H' : Nat → Prop, St w' w' k b H' S lv e ts ps p ∧ (∀ j, H' j → H j ∨ w0.heap.size ≤ j) ∧ ∀ j, H' j → j < w.heap.size := by
  obtain ⟨B, v1, v2, F, hM, hF, hB, h1, h2, hBB, hm⟩ := h.body
  have n1 : ∀ j, F j → ¬ G j := fun j hj hg => by
    obtain ⟨g1, g2⟩ := hG j hg
    rcases h1 j hj with h | h
    · exact g2 h
    · omega
  have n2 : ∀ j, mkF k v1 v2 j → ¬ G j := fun j hj hg => by
    obtain ⟨g1, g2⟩ := hG j hg
    rcases hm j hj with h | h
    · exact g2 h
    · omega
  exact ⟨fun j => F j ∨ mkF k v1 v2 j, ⟨B, v1, v2, F, hM.keep hb n2, hF.keep hb n1, But.refl _ _, fun j hj => .inl (.inl hj), h2, Nat.le_trans hBB hb.size, fun j hj => .inl (.inr hj)⟩, fun j hj => hj.elim (h1 j) (hm j), fun j hj => hj.elim (fun h => hF.lt h) fun h => (hM.lt h).2⟩

/-- What is left to do, the entry of the n-th table having gone. -/
def rmRest (p : Int) (ts : List Int) (n : Nat) (S : Pg.Fs) (G : List Int) : Pg.Fs × List Int :=
  if n ≤ 1 ∨ Pg.emptyT S (ts.getD (n - 1) 0) = false then (S, G) else Pg.rmW p ts (n - 1) S (G ++ [ts.getD (n - 1) 0])
theorem rmW_rest (p : Int) (ts : List Int) (m : Nat) (S : Pg.Fs) (G : List Int) : Pg.rmW p ts (m + 1) S G = rmRest p ts (m + 1) (S.store (ts.getD m 0) (Pg.index p (3 - (m : Int))) 0) G := by
  unfold rmRest
  rw [Pg.rmW]
  by_cases h : m = 0 ∨ Pg.emptyT (S.store (ts.getD m 0) (Pg.index p (3 - (m : Int))) 0) (ts.getD m 0) = false
  · rw [if_pos h, if_pos (by simpa using h.imp (fun e => by omega) id)]
  · rw [if_neg h, if_neg (by intro hh; exact h (by simpa using hh.imp (fun e => by omega) id))]
    simp
theorem take_last (l : List Int) (m : Nat) (h : m < l.length) : l.take (m + 1) = l.take m ++ [l.getD m 0] := by
  rw [List.take_succ_eq_append_getElem h]
  simp [List.getD, h]
end Go.Proofs.YtiojflaehjbcbaeGreat
