
/-
  A step and a mapping in memory, and rows of numbers, as the statements on tables hold them.
-/
import Derived.Test.YtiojflaehjbcbafGreatPlainT
import Derived.Test.YtiojflaehjbcbafGreatFrameB
import Derived.Test.YtiojflaehjbcbafGreatMapInfo
import Derived.Test.YtiojflaehjbcbafGreatWalkI
namespace Go.Proofs.YtiojflaehjbcbafGreat
open Go.RowKit Go.Sort
set_option linter.unusedVariables false
set_option maxRecDepth 100000

theorem IntsAt.but {w w' : World} {ad : Option Addr} {L : List Int} {G : Nat → Prop} (h : IntsAt w ad L) (hb : But G w w') (hn : ∀ g, ad = some ⟨g, 0, none⟩ → ¬ G g) : IntsAt w' ad L := fun j hj => by
  obtain ⟨g, e, hl, hc⟩ := h j hj
  exact ⟨g, e, Nat.lt_of_lt_of_le hl hb.size, (hb.cell (a := ⟨g, j, none⟩) hl (hn g e)).trans hc⟩
theorem rmW_len (p : Int) (ts : List Int) : ∀ (k : Nat) (S : Pg.Fs) (G : List Int), (Pg.rmW p ts k S G).2.length ≤ G.length + k
  | 0, S, G => by simp [Pg.rmW]
  | k + 1, S, G => by
    rw [Pg.rmW]
    split
    · exact Nat.le_add_right _ _
    · have := rmW_len p ts k (S.store (ts.getD k 0) (Pg.index p (3 - (k : Int))) 0) (G ++ [ts.getD k 0])
      simp at this ⊢
      omega
theorem rmR_len (S : Pg.Fs) (t p : Int) : (Pg.rmR S t p).2.length ≤ 4680 := by
  unfold Pg.rmR
  split
  · have h1 := rmW_len p (tabs (fndX S t p)) (fndX S t p).length S []
    have h2 := fndX_len S t p
    rw [List.length_nil] at h1
    omega
  · simp

theorem bst_block {w w' : World} {b : Nat} {x : Bst} (h : BstAt w b 0 x) (hk : w'.heap[b]? = w.heap[b]?) : BstAt w' b 0 x :=
  ⟨(World.cell?_of_block hk).trans h.1, (World.cell?_of_block hk).trans h.2.1, (World.cell?_of_block hk).trans h.2.2.1, (World.cell?_of_block hk).trans h.2.2.2.1, (World.cell?_of_block hk).trans h.2.2.2.2.1, (World.cell?_of_block hk).trans h.2.2.2.2.2.1, (World.cell?_of_block hk).trans h.2.2.2.2.2.2.1, (World.cell?_of_block hk).trans h.2.2.2.2.2.2.2.1, (World.cell?_of_block hk).trans h.2.2.2.2.2.2.2.2⟩
theorem mp_block {w w' : World} {Y : Nat} {m : Pg.Mp} (h : MpAt w Y 0 m) (hk : w'.heap[Y]? = w.heap[Y]?) : MpAt w' Y 0 m :=
  ⟨(World.cell?_of_block hk).trans h.1, (World.cell?_of_block hk).trans h.2.1, (World.cell?_of_block hk).trans h.2.2.1, (World.cell?_of_block hk).trans h.2.2.2⟩
theorem mp_set {w : World} {Y : Nat} {m0 : Pg.Mp} (h : MpAt w Y 0 m0) (p s f r : Int) : MpAt ((((w.setCell ⟨Y, 0, none⟩ (.int .i64 p)).setCell ⟨Y, 1, none⟩ (.int .i64 s)).setCell ⟨Y, 2, none⟩ (.int .i64 f)).setCell ⟨Y, 3, none⟩ (.int .i64 r)) Y 0 ⟨p, s, f, r⟩ := by
  obtain ⟨h0, h1, h2, h3⟩ := h
  simp only [Nat.zero_add] at h1 h2 h3
  refine ⟨?_, ?_, ?_, ?_⟩ <;> simp [go_sem, h0, h1, h2, h3]
theorem bst_cells {w : World} {X : Nat} {x : Bst} (h : BstAt w X 0 x) : w.cell? ⟨X, 0, none⟩ = some (.int .i64 x.kind) ∧ w.cell? ⟨X, 2, none⟩ = some (.int .i64 x.m.p) ∧ w.cell? ⟨X, 3, none⟩ = some (.int .i64 x.m.s) ∧ w.cell? ⟨X, 4, none⟩ = some (.int .i64 x.m.f) ∧ w.cell? ⟨X, 5, none⟩ = some (.int .i64 x.m.r) ∧ w.cell? ⟨X, 6, none⟩ = some (.int .i64 x.q) := by
  obtain ⟨h0, h1, h2, h3, h4, h5, h6, h7, h8⟩ := h
  simp only [Nat.zero_add] at h1 h2 h3 h4 h5 h6
  exact ⟨h0, h2, h3, h4, h5, h6⟩

end Go.Proofs.YtiojflaehjbcbafGreat
