
/-
  A step and a mapping in memory, and rows of numbers, as the statements on tables hold them.
-/
import Derived.Test.YtjdiaebgidgmaafGreatPlainT
import Derived.Test.YtjdiaebgidgmaafGreatFrameB
import Derived.Test.YtjdiaebgidgmaafGreatMapInfo
import Derived.Test.YtjdiaebgidgmaafGreatWalkI
namespace Go.Proofs.YtjdiaebgidgmaafGreat
open Go.RowKit Go.Sort
set_option linter.unusedVariables false
set_option maxRecDepth 100000

theorem IntsAt.but {w w' : World} {ad : Option Addr} {L : List Int} {G : Nat → Prop} (h : IntsAt w ad L) (hb : But G w w') (hn : ∀ g, ad = some ⟨g, 0, none⟩ → ¬ G g) : IntsAt w' ad L := fun j hj => by
  obtain ⟨g, e, hl, hc⟩ := h j hj
  exact ⟨g, e, Nat.lt_of_lt_of_le hl hb.size, (hb.cell (a := ⟨g, j, none⟩) hl (hn g e)).trans hc⟩
theorem rmW_len (p : Int) (ts : List Int) : ∀ (k : Nat) (S : Pg.Fs) (G : List Int), (Pg.rmW p ts k S G).2.length ≤ G.length + k
  | 0, S, G => by simp [Pg.rmW]
  | k + 1, S, G => by
    rw [Pg.rmW]
    split
    · exact Nat.le_add_right _ _
    · have := rmW_len p ts k (S.store (ts.getD k 0) (Pg.index p (3 - (k : Int))) 0) (G ++ [ts.getD k 0])
      simp at this ⊢
      omega
theorem rmR_len (S : Pg.Fs) (t p : Int) : (Pg.rmR S t p).2.length ≤ 4680 := by
  unfold Pg.rmR
  split
  · have h1 := rmW_len p (tabs (fndX S t p)) (fndX S t p).length S []
    have h2 := fndX_len S t p
    rw [List.length_nil] at h1
    omega
  · simp

end Go.Proofs.YtjdiaebgidgmaafGreat
