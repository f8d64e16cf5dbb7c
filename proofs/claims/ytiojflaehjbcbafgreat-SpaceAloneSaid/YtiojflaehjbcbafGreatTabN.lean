/-
  How many tables mappings need: the document's own count.
-/
import Derived.Test.YtiojflaehjbcbafGreatWalkI
import Derived.Test.YtiojflaehjbcbafGreatPlainTI
import Derived.Test.YtiojflaehjbcbafGreatTabCp
import Derived.Deep.AppendLies
namespace Go.Proofs.YtiojflaehjbcbafGreat
open Go.RowKit Go.Sort
set_option linter.unusedVariables false
set_option maxRecDepth 100000

theorem IntsAt.take {w : World} {ad : Option Addr} {L : List Int} (h : IntsAt w ad L) (i : Nat) : IntsAt w ad (L.take i) := fun j hj => by
  rw [List.length_take] at hj
  obtain ⟨g, e, hl, hc⟩ := h j (by omega)
  refine ⟨g, e, hl, ?_⟩
  rw [hc, List.getD_eq_getElem?_getD, List.getD_eq_getElem?_getD, List.getElem?_take, if_pos (by omega)]
end Go.Proofs.YtiojflaehjbcbafGreat

namespace Go.Proofs.YtiojflaehjbcbafGreat
open Go.RowKit Go.Sort
set_option linter.unusedVariables false
set_option linter.unusedSimpArgs false
set_option maxRecDepth 100000

theorem wrap64_in {n : Int} (h0 : -9223372036854775808 ≤ n) (h1 : n ≤ 9223372036854775807) : wrap64 n = n := by
  unfold wrap64
  omega
theorem key_wrap {pn N8 k : Nat} (h1 : pn < 4096) (h2 : k ≤ 3) : wrap64 (wrap64 (wrap64 ((pn : Int) / (N8 : Int)) * 4) + (k : Int)) = ((pn / N8 * 4 + k : Nat) : Int) := by
  have q1 : (pn : Int) / (N8 : Int) = ((pn / N8 : Nat) : Int) := by simp
  have q2 : pn / N8 ≤ pn := Nat.div_le_self _ _
  rw [q1]
  generalize pn / N8 = d at *
  rw [wrap64_in (n := (d : Int)) (by omega) (by omega), wrap64_in (n := (d : Int) * 4) (by omega) (by omega), wrap64_in (n := (d : Int) * 4 + (k : Int)) (by omega) (by omega)]
  omega
/-- The keys of a mapping from a level on downwards. -/
def keysD (m : Pg.Mp) : Nat → List Int
  | 0 => []
  | l + 1 => if m.s < ((l + 1 : Nat) : Int) then ((m.p.toNat / 8 ^ (l + 1) * 4 + (l + 1) : Nat) : Int) :: keysD m l else []
theorem keysD_more (pn sn l : Nat) (f r : Int) (h : sn < l + 1) : keysD ⟨(pn : Int), (sn : Int), f, r⟩ (l + 1) = ((pn / 8 ^ (l + 1) * 4 + (l + 1) : Nat) : Int) :: keysD ⟨(pn : Int), (sn : Int), f, r⟩ l := by
  rw [keysD, if_pos (by show (sn : Int) < ((l + 1 : Nat) : Int); omega)]
  simp only [Int.toNat_natCast]
theorem see_more (k : Int) (r A : List Int) : Pg.see (k :: r) A = Pg.see r (if k ∈ A then A else A ++ [k]) := rfl
theorem keysD_eq {m : Pg.Mp} (h0 : 0 ≤ m.s) (h1 : m.s ≤ 2) : keysD m 3 = Pg.keysM m := by
  have : m.s = 0 ∨ m.s = 1 ∨ m.s = 2 := by omega
  rcases this with e | e | e <;> simp [keysD, Pg.keysM, e]
theorem span_size {s : Int} (h : Pg.span s ≠ 0) : 0 ≤ s ∧ s ≤ 2 := by
  unfold Pg.span at h
  by_cases h0 : s = 0
  · omega
  · by_cases h1 : s = 1
    · omega
    · by_cases h2 : s = 2
      · omega
      · simp [h0, h1, h2] at h

/-- What holds in each round of Needed: what has been seen, and what comes. -/
structure NdInv (w wr : World) (vs : Value) (A : List Int) : Prop where
  bel : Below w.heap.size w wr
  own : wr.ownsRow w.heap.size 3 1 vs A.length (ints A)

end Go.Proofs.YtiojflaehjbcbafGreat
