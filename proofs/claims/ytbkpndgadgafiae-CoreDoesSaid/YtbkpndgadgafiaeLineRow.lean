
/-
  How lines lie in a row of memory: no program is named here.
-/
import Derived.Test.YtbkpndgadgafiaeRowAt
import Derived.Test.YtbkpndgadgafiaeMapRow
import Derived.Test.YtbkpndgadgafiaePlainL
namespace Go.Proofs.Ytbkpndgadgafiae
open Go.RowKit Go.Sort
set_option linter.unusedVariables false

def lnCell (l : Pg.Ln) : List Value := [.int .i64 l.m.p, .int .i64 l.m.s, .int .i64 l.m.f, .int .i64 l.m.r, .bool l.d]
def lnCells (L : List Pg.Ln) : List Value := L.flatMap lnCell
theorem lnCells_len : ∀ L : List Pg.Ln, (lnCells L).length = L.length * 5
  | [] => rfl
  | x :: r => by
    have := lnCells_len r
    simp [lnCells, lnCell] at this ⊢
    omega
theorem lnCells_cons (x : Pg.Ln) (r : List Pg.Ln) : lnCells (x :: r) = lnCell x ++ lnCells r := by simp [lnCells]
theorem lnCells_append (A B : List Pg.Ln) : lnCells (A ++ B) = lnCells A ++ lnCells B := by simp [lnCells]
theorem lnCells_one (m : Pg.Ln) : lnCells [m] = lnCell m := by simp [lnCells]
theorem lnCells_push (A : List Pg.Ln) (m : Pg.Ln) : lnCells (A ++ [m]) = lnCells A ++ lnCell m := by rw [lnCells_append, lnCells_one]
theorem lnCells_at : ∀ (L : List Pg.Ln) (j i : Nat), j < L.length → i < 5 → (lnCells L)[j * 5 + i]? = (lnCell (L.getD j .zz))[i]?
  | [], j, _, h, _ => by simp at h
  | x :: r, 0, i, _, hi => by
    rw [lnCells_cons, List.getElem?_append_left (by simp [lnCell]; omega)]
    simp
  | x :: r, j + 1, i, h, hi => by
    have := lnCells_at r j i (by simpa using h) hi
    rw [lnCells_cons, List.getElem?_append_right (by simp [lnCell]; omega)]
    rw [show (j + 1) * 5 + i - (lnCell x).length = j * 5 + i by simp [lnCell]; omega, this]
    simp
theorem lnCells_one' (L : List Pg.Ln) : ∀ u, u ∈ lnCells L → u.oneCell' = true := by
  intro u hu
  obtain ⟨m, _, hm⟩ := List.mem_flatMap.1 hu
  simp [lnCell] at hm
  rcases hm with rfl | rfl | rfl | rfl | rfl <;> rfl
theorem lnCells_cut (L : List Pg.Ln) (j : Nat) : (lnCells L).take (j * 5) = lnCells (L.take j) ∧ (lnCells L).drop (j * 5) = lnCells (L.drop j) := by
  by_cases hj : j ≤ L.length
  · have e : lnCells L = lnCells (L.take j) ++ lnCells (L.drop j) := by rw [← lnCells_append, List.take_append_drop]
    have hl : (lnCells (L.take j)).length = j * 5 := by rw [lnCells_len, List.length_take]; congr 1; omega
    exact ⟨by rw [e, List.take_left' hl], by rw [e, List.drop_left' hl]⟩
  · have hl := lnCells_len L
    rw [List.take_of_length_le (by omega), List.take_of_length_le (l := L) (by omega), List.drop_eq_nil_of_le (by omega), List.drop_eq_nil_of_le (show L.length ≤ j by omega)]
    exact ⟨rfl, rfl⟩

/-- The line l lies at the offset o of the block g. -/
def LnAt (w : World) (g o : Nat) (l : Pg.Ln) : Prop :=
  w.cell? ⟨g, o, none⟩ = some (.int .i64 l.m.p) ∧ w.cell? ⟨g, o + 1, none⟩ = some (.int .i64 l.m.s) ∧ w.cell? ⟨g, o + 2, none⟩ = some (.int .i64 l.m.f) ∧ w.cell? ⟨g, o + 3, none⟩ = some (.int .i64 l.m.r) ∧ w.cell? ⟨g, o + 4, none⟩ = some (.bool l.d)
theorem LnAt.of {w w' : World} {g o : Nat} {l : Pg.Ln} (h : LnAt w g o l) (hc : ∀ p, w'.cell? ⟨g, p, none⟩ = w.cell? ⟨g, p, none⟩) : LnAt w' g o l :=
  ⟨(hc _).trans h.1, (hc _).trans h.2.1, (hc _).trans h.2.2.1, (hc _).trans h.2.2.2.1, (hc _).trans h.2.2.2.2⟩
theorem LnAt.below {w w' : World} {g o B : Nat} {l : Pg.Ln} (h : LnAt w g o l) (hb : Below B w w') (hg : g < B) : LnAt w' g o l := h.of fun p => hb.cell (p := ⟨g, p, none⟩) hg
/-- The lines L lie at ad. -/
def LinesAt (w : World) (ad : Option Addr) (L : List Pg.Ln) : Prop := ∀ j, j < L.length → ∃ g o, ad = some ⟨g, o, none⟩ ∧ g < w.heap.size ∧ LnAt w g (o + j * 5) (L.getD j .zz)
theorem LinesAt.below {w w' : World} {ad : Option Addr} {L : List Pg.Ln} (h : LinesAt w ad L) (hb : Below w.heap.size w w') : LinesAt w' ad L := by
  intro j hj
  obtain ⟨g, o, e, hg, hm⟩ := h j hj
  exact ⟨g, o, e, Nat.lt_of_lt_of_le hg hb.size, hm.below hb hg⟩
theorem ownsAt_lines {w : World} {e : TypeId} {ad : Option Addr} {n cap : Nat} {L : List Pg.Ln} (h : OwnsAt w e 5 (.slice ad n cap) L.length (lnCells L)) : LinesAt w ad L := by
  intro j hj
  obtain ⟨g, o, cap', e, hg, _⟩ := h.shape (by omega)
  cases e
  have hc := fun i (hi : i < 5) => (h.cell (j := j * 5 + i) (by omega)).trans (lnCells_at L j i hj hi)
  have h0 := hc 0 (by omega)
  have h1 := hc 1 (by omega)
  have h2 := hc 2 (by omega)
  have h3 := hc 3 (by omega)
  have h4 := hc 4 (by omega)
  simp only [lnCell, ← Nat.add_assoc, Nat.add_zero] at h0 h1 h2 h3 h4
  exact ⟨g, o, rfl, hg, by simpa using h0, by simpa using h1, by simpa using h2, by simpa using h3, by simpa using h4⟩
end Go.Proofs.Ytbkpndgadgafiae
