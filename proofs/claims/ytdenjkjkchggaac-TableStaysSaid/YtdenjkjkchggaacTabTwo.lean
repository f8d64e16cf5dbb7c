
/-
  The two kinds of frames side by side, a step and two mappings beside them, as the statements on tables hold them.
-/
import Derived.Test.YtdenjkjkchggaacTabL
import Derived.Test.YtdenjkjkchggaacTabRefD
import Derived.Test.YtdenjkjkchggaacFrameB
import Derived.Test.YtdenjkjkchggaacFrameW
import Derived.Test.YtdenjkjkchggaacMapInfo
import Derived.Test.YtdenjkjkchggaacWalkI
namespace Go.Proofs.Ytdenjkjkchggaac
open Go.RowKit Go.Sort
set_option linter.unusedVariables false
set_option maxRecDepth 100000

theorem Side.stepM2 {w0 w w' : World} {bf bm g0 g1 : Nat} {vb vb' : Value} {F : Nat → Prop} {Sf Sm S' : Pg.Fs} (h : Side w0 bf bm g0 g1 vb F Sf Sm w) (h1 : MemAt w' bm g0 g1 vb' S') (hb : But (memF bm g0 g1 vb) w w') (hv : vb'.ownBlock = vb.ownBlock ∨ ∃ j, vb'.ownBlock = some j ∧ w.heap.size ≤ j) : Side w0 bf bm g0 g1 vb' F Sf S' w' := by
  have e : ∀ k, memF bm g0 g1 vb' k → memF bm g0 g1 vb k ∨ w.heap.size ≤ k := fun k hk => by
    rcases hk with hk | hk | hk | hk
    · exact .inl (.inl hk)
    · exact .inl (.inr (.inl hk))
    · exact .inl (.inr (.inr (.inl hk)))
    · rcases hv with hv | ⟨j, hv, hj⟩
      · rw [hv] at hk; exact .inl (.inr (.inr (.inr hk)))
      · rw [hv] at hk; cases hk; exact .inr hj
  refine ⟨h.bel.trans (hb.below h.bel.size h.mhi), h.fr.keep hb fun k hk hm => h.ne k hk hm, h1, h.fhi, fun k hk => ?_, fun k hk hm => ?_⟩
  · rcases e k hk with h2 | h2
    · exact h.mhi k h2
    · have := h.bel.size; omega
  · rcases e k hm with h2 | h2
    · exact h.ne k hk h2
    · have := h.fr.lt hk; omega
/-- What others write does not matter to the two kinds of frames. -/
theorem Side.beside {w0 w w' : World} {bf bm g0 g1 : Nat} {vb : Value} {F G : Nat → Prop} {Sf Sm : Pg.Fs} (h : Side w0 bf bm g0 g1 vb F Sf Sm w) (hb : But G w w') (hG : ∀ j, G j → w0.heap.size ≤ j ∧ ¬ F j ∧ ¬ memF bm g0 g1 vb j) : Side w0 bf bm g0 g1 vb F Sf Sm w' :=
  ⟨h.bel.trans (hb.below h.bel.size fun j hj => (hG j hj).1), h.fr.keep hb fun k hk hg => (hG k hg).2.1 hk, h.mem.keep hb fun k hk hg => (hG k hg).2.2 hk, h.fhi, h.mhi, h.ne⟩

theorem IntsAt.but {w w' : World} {ad : Option Addr} {L : List Int} {G : Nat → Prop} (h : IntsAt w ad L) (hb : But G w w') (hn : ∀ g, ad = some ⟨g, 0, none⟩ → ¬ G g) : IntsAt w' ad L := fun j hj => by
  obtain ⟨g, e, hl, hc⟩ := h j hj
  exact ⟨g, e, Nat.lt_of_lt_of_le hl hb.size, (hb.cell (a := ⟨g, j, none⟩) hl (hn g e)).trans hc⟩
theorem rmW_len (p : Int) (ts : List Int) : ∀ (k : Nat) (S : Pg.Fs) (G : List Int), (Pg.rmW p ts k S G).2.length ≤ G.length + k
  | 0, S, G => by simp [Pg.rmW]
  | k + 1, S, G => by
    rw [Pg.rmW]
    split
    · exact Nat.le_add_right _ _
    · have := rmW_len p ts k (S.store (ts.getD k 0) (Pg.index p (3 - (k : Int))) 0) (G ++ [ts.getD k 0])
      simp at this ⊢
      omega
theorem rmR_len (S : Pg.Fs) (t p : Int) : (Pg.rmR S t p).2.length ≤ 4680 := by
  unfold Pg.rmR
  split
  · have h1 := rmW_len p (tabs (fndX S t p)) (fndX S t p).length S []
    have h2 := fndX_len S t p
    rw [List.length_nil] at h1
    omega
  · simp

theorem bst_block {w w' : World} {b : Nat} {x : Bst} (h : BstAt w b 0 x) (hk : w'.heap[b]? = w.heap[b]?) : BstAt w' b 0 x :=
  ⟨(World.cell?_of_block hk).trans h.1, (World.cell?_of_block hk).trans h.2.1, (World.cell?_of_block hk).trans h.2.2.1, (World.cell?_of_block hk).trans h.2.2.2.1, (World.cell?_of_block hk).trans h.2.2.2.2.1, (World.cell?_of_block hk).trans h.2.2.2.2.2.1, (World.cell?_of_block hk).trans h.2.2.2.2.2.2.1, (World.cell?_of_block hk).trans h.2.2.2.2.2.2.2.1, (World.cell?_of_block hk).trans h.2.2.2.2.2.2.2.2⟩
theorem mp_block {w w' : World} {Y : Nat} {m : Pg.Mp} (h : MpAt w Y 0 m) (hk : w'.heap[Y]? = w.heap[Y]?) : MpAt w' Y 0 m :=
  ⟨(World.cell?_of_block hk).trans h.1, (World.cell?_of_block hk).trans h.2.1, (World.cell?_of_block hk).trans h.2.2.1, (World.cell?_of_block hk).trans h.2.2.2⟩
theorem mp_set {w : World} {Y : Nat} {m0 : Pg.Mp} (h : MpAt w Y 0 m0) (p s f r : Int) : MpAt ((((w.setCell ⟨Y, 0, none⟩ (.int .i64 p)).setCell ⟨Y, 1, none⟩ (.int .i64 s)).setCell ⟨Y, 2, none⟩ (.int .i64 f)).setCell ⟨Y, 3, none⟩ (.int .i64 r)) Y 0 ⟨p, s, f, r⟩ := by
  obtain ⟨h0, h1, h2, h3⟩ := h
  simp only [Nat.zero_add] at h1 h2 h3
  refine ⟨?_, ?_, ?_, ?_⟩ <;> simp [go_sem, h0, h1, h2, h3]
theorem bst_cells {w : World} {X : Nat} {x : Bst} (h : BstAt w X 0 x) : w.cell? ⟨X, 0, none⟩ = some (.int .i64 x.kind) ∧ w.cell? ⟨X, 2, none⟩ = some (.int .i64 x.m.p) ∧ w.cell? ⟨X, 3, none⟩ = some (.int .i64 x.m.s) ∧ w.cell? ⟨X, 4, none⟩ = some (.int .i64 x.m.f) ∧ w.cell? ⟨X, 5, none⟩ = some (.int .i64 x.m.r) ∧ w.cell? ⟨X, 6, none⟩ = some (.int .i64 x.q) := by
  obtain ⟨h0, h1, h2, h3, h4, h5, h6, h7, h8⟩ := h
  simp only [Nat.zero_add] at h1 h2 h3 h4 h5 h6
  exact ⟨h0, h2, h3, h4, h5, h6⟩

/-- The frames of both kinds, a step at X, two mappings at Y and behind it. -/
structure Tp (w0 wc : World) (bf bm g0 g1 : Nat) (vb : Value) (F : Nat → Prop) (Sf Sm : Pg.Fs) (X Y : Nat) (x : Bst) : Prop where
  side : Side w0 bf bm g0 g1 vb F Sf Sm wc
  xs : BstAt wc X 0 x
  zf : ∀ o, wc.frozen? ⟨Y, o, none⟩ = false ∧ wc.frozen? ⟨Y + 1, o, none⟩ = false
  nF : ∀ j, j = X ∨ j = Y ∨ j = Y + 1 → ¬ F j ∧ ¬ memF bm g0 g1 vb j
  lt : X < Y ∧ Y + 1 < wc.heap.size
  hi : w0.heap.size ≤ X
namespace Tp
variable {w0 wc wd : World} {bf bm g0 g1 : Nat} {vb vb' : Value} {F F' : Nat → Prop} {Sf Sm S' : Pg.Fs} {X Y : Nat} {x : Bst}
theorem grow (h : Tp w0 wc bf bm g0 g1 vb F Sf Sm X Y x) (hb : Below wc.heap.size wc wd) : Tp w0 wd bf bm g0 g1 vb F Sf Sm X Y x := by
  have hl := h.lt
  refine ⟨h.side.grow hb, bst_block h.xs (hb.block X (by omega)), fun o => ⟨(World.frozen?_of_block (hb.block Y (by omega))).trans (h.zf o).1, (World.frozen?_of_block (hb.block (Y + 1) (by omega))).trans (h.zf o).2⟩, h.nF, ⟨hl.1, Nat.lt_of_lt_of_le hl.2 hb.size⟩, h.hi⟩
/-- A step of the developers'. -/
theorem left (h : Tp w0 wc bf bm g0 g1 vb F Sf Sm X Y x) (h1 : FrAt wd bf S' F') (hb : But F wc wd) (hF : ∀ k, F' k → F k ∨ wc.heap.size ≤ k) :
    Tp w0 wd bf bm g0 g1 vb F' S' Sm X Y x ∧ ∀ j, j = X ∨ j = Y ∨ j = Y + 1 → wd.heap[j]? = wc.heap[j]? := by
  have hl := h.lt
  have hk : ∀ j, j = X ∨ j = Y ∨ j = Y + 1 → wd.heap[j]? = wc.heap[j]? := fun j hj => hb.block j (by omega) (h.nF j hj).1
  refine ⟨⟨h.side.stepF h1 hb hF, bst_block h.xs (hk X (.inl rfl)), fun o => ⟨(World.frozen?_of_block (hk Y (.inr (.inl rfl)))).trans (h.zf o).1, (World.frozen?_of_block (hk (Y + 1) (.inr (.inr rfl)))).trans (h.zf o).2⟩, fun j hj => ⟨fun hf => ?_, (h.nF j hj).2⟩, ⟨hl.1, Nat.lt_of_lt_of_le hl.2 hb.size⟩, h.hi⟩, hk⟩
  rcases hF j hf with h2 | h2
  · exact (h.nF j hj).1 h2
  · omega
/-- A step of the document's. -/
theorem right (h : Tp w0 wc bf bm g0 g1 vb F Sf Sm X Y x) (h1 : MemAt wd bm g0 g1 vb' S') (hb : But (memF bm g0 g1 vb) wc wd) (hv : vb'.ownBlock = vb.ownBlock ∨ ∃ j, vb'.ownBlock = some j ∧ wc.heap.size ≤ j) :
    Tp w0 wd bf bm g0 g1 vb' F Sf S' X Y x ∧ ∀ j, j = X ∨ j = Y ∨ j = Y + 1 → wd.heap[j]? = wc.heap[j]? := by
  have hl := h.lt
  have hk : ∀ j, j = X ∨ j = Y ∨ j = Y + 1 → wd.heap[j]? = wc.heap[j]? := fun j hj => hb.block j (by omega) (h.nF j hj).2
  refine ⟨⟨h.side.stepM2 h1 hb hv, bst_block h.xs (hk X (.inl rfl)), fun o => ⟨(World.frozen?_of_block (hk Y (.inr (.inl rfl)))).trans (h.zf o).1, (World.frozen?_of_block (hk (Y + 1) (.inr (.inr rfl)))).trans (h.zf o).2⟩, fun j hj => ⟨(h.nF j hj).1, fun hf => ?_⟩, ⟨hl.1, Nat.lt_of_lt_of_le hl.2 hb.size⟩, h.hi⟩, hk⟩
  rcases hf with hf | hf | hf | hf
  · exact (h.nF j hj).2 (.inl hf)
  · exact (h.nF j hj).2 (.inr (.inl hf))
  · exact (h.nF j hj).2 (.inr (.inr (.inl hf)))
  · rcases hv with hv | ⟨i, hv, hi⟩
    · rw [hv] at hf; exact (h.nF j hj).2 (.inr (.inr (.inr hf)))
    · rw [hv] at hf; cases hf; omega
/-- One of the two mappings is written. -/
theorem set (h : Tp w0 wc bf bm g0 g1 vb F Sf Sm X Y x) {r : Nat} (hr : r = Y ∨ r = Y + 1) (x0 x1 x2 x3 : Value) :
    Tp w0 ((((wc.setCell ⟨r, 0, none⟩ x0).setCell ⟨r, 1, none⟩ x1).setCell ⟨r, 2, none⟩ x2).setCell ⟨r, 3, none⟩ x3) bf bm g0 g1 vb F Sf Sm X Y x ∧ ∀ j, j ≠ r → ((((wc.setCell ⟨r, 0, none⟩ x0).setCell ⟨r, 1, none⟩ x1).setCell ⟨r, 2, none⟩ x2).setCell ⟨r, 3, none⟩ x3).heap[j]? = wc.heap[j]? := by
  have hl := h.lt
  have hb : But (fun k => k = r) wc ((((wc.setCell ⟨r, 0, none⟩ x0).setCell ⟨r, 1, none⟩ x1).setCell ⟨r, 2, none⟩ x2).setCell ⟨r, 3, none⟩ x3) := but_set4 (F := fun k => k = r) (But.refl _ wc) r (.inr rfl) x0 x1 x2 x3
  have hk : ∀ j, j ≠ r → ((((wc.setCell ⟨r, 0, none⟩ x0).setCell ⟨r, 1, none⟩ x1).setCell ⟨r, 2, none⟩ x2).setCell ⟨r, 3, none⟩ x3).heap[j]? = wc.heap[j]? := fun j hj => by
    rw [Below.heap_setCell _ _ _ _ hj, Below.heap_setCell _ _ _ _ hj, Below.heap_setCell _ _ _ _ hj, Below.heap_setCell _ _ _ _ hj]
  refine ⟨⟨h.side.beside hb fun j hj => ?_, bst_block h.xs (hk X (by omega)), fun o => by simpa using h.zf o, h.nF, ⟨hl.1, by simpa using hl.2⟩, h.hi⟩, hk⟩
  have := h.hi
  subst hj
  rcases hr with rfl | rfl
  · exact ⟨by omega, h.nF _ (.inr (.inl rfl))⟩
  · exact ⟨by omega, h.nF _ (.inr (.inr rfl))⟩
end Tp
end Go.Proofs.Ytdenjkjkchggaac
