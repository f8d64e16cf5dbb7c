
/-
  How the developers' frames lie in memory, and what writing one part of them leaves of the others: no program is named here.
-/
import Derived.Test.YtbkpndgadgafiacMemLay
namespace Go.Proofs.Ytbkpndgadgafiac
open Go.RowKit Go.Sort
set_option linter.unusedVariables false

/-- Frames S lie at the block b; whether each is in use, and its words, at g; what was given back at vb. -/
structure FrRaw (w : World) (b g : Nat) (vb : Value) (S : Pg.Fs) : Prop where
  c0 : w.cell? ⟨b, 0, none⟩ = some (.slice (some ⟨g, 0, none⟩) S.n S.n)
  c1 : w.cell? ⟨b, 1, none⟩ = some vb
  c2 : w.cell? ⟨b, 2, none⟩ = some (.int .i64 S.next)
  fb : ∀ o, w.frozen? ⟨b, o, none⟩ = false
  f0 : ∀ o, w.frozen? ⟨g, o, none⟩ = false
  ci : ∀ k, k < S.n → w.cell? ⟨g, k * 9, none⟩ = some (.bool (S.inn k))
  cw : ∀ k i, k < S.n → i < 8 → w.cell? ⟨g, k * 9 + 1 + i, none⟩ = some (.int .u64 (S.word k i))
  own : w.ownsRow 0 3 1 vb S.back.length (nats S.back)
  l0 : g < w.heap.size
  n0 : g ≠ b
  vb0 : vb.ownBlock ≠ some g
  vbb : vb.ownBlock ≠ some b

def frF (b g : Nat) (vb : Value) : Nat → Prop := fun k => k = b ∨ k = g ∨ vb.ownBlock = some k

namespace FrRaw
variable {w w' : World} {b g : Nat} {vb : Value} {S : Pg.Fs}
theorem lb (h : FrRaw w b g vb S) : b < w.heap.size := World.block_lt_of_cell? _ _ h.c0
theorem lt (h : FrRaw w b g vb S) {k : Nat} (hk : frF b g vb k) : k < w.heap.size := by
  rcases hk with rfl | rfl | hk
  · exact World.block_lt_of_cell? _ _ h.c0
  · exact h.l0
  · exact (h.own.lt k hk).2
theorem keep (h : FrRaw w b g vb S) {F : Nat → Prop} (hb : But F w w') (hF : ∀ k, frF b g vb k → ¬ F k) : FrRaw w' b g vb S := by
  have hk : ∀ k, frF b g vb k → w'.heap[k]? = w.heap[k]? := fun k hk => hb.block k (h.lt hk) (hF k hk)
  have kb := hk b (.inl rfl)
  have k0 := hk g (.inr (.inl rfl))
  exact ⟨(World.cell?_of_block kb).trans h.c0, (World.cell?_of_block kb).trans h.c1, (World.cell?_of_block kb).trans h.c2,
    fun o => (World.frozen?_of_block kb).trans (h.fb o), fun o => (World.frozen?_of_block k0).trans (h.f0 o),
    fun k a => (World.cell?_of_block k0).trans (h.ci k a), fun k i a c => (World.cell?_of_block k0).trans (h.cw k i a c),
    owns_of_block h.own fun k e => hk k (.inr (.inr e)), Nat.lt_of_lt_of_le h.l0 hb.size, h.n0, h.vb0, h.vbb⟩
theorem drewN (h : FrRaw w b g vb S) (n : Nat) : FrRaw (w.drewN n) b g vb S :=
  h.keep (F := fun _ => False) (But.of_below (below_drewN (brefl w) n)) (fun _ _ => id)

/-- 'fresh' is written. -/
theorem setNext (h : FrRaw w b g vb S) (m : Nat) : FrRaw (w.setCell ⟨b, 2, none⟩ (.int .i64 (m : Int))) b g vb { S with next := m } := by
  have hh : ∀ k, k ≠ b → (w.setCell ⟨b, 2, none⟩ (.int .i64 (m : Int))).heap[k]? = w.heap[k]? := fun k hk => Below.heap_setCell _ _ _ _ hk
  have k0 := hh g h.n0
  have hs : (w.setCell ⟨b, 2, none⟩ (.int .i64 (m : Int))).heap.size = w.heap.size := by simp
  refine ⟨?_, ?_, World.cell?_setCell_same _ _ _ h.c2, fun o => by simpa using h.fb o, fun o => by simpa using h.f0 o,
    fun k a => (World.cell?_of_block k0).trans (h.ci k a), fun k i a c => (World.cell?_of_block k0).trans (h.cw k i a c),
    owns_of_block h.own fun k e => hh k (fun e' => h.vbb (e' ▸ e)), hs.symm ▸ h.l0, h.n0, h.vb0, h.vbb⟩
  · exact (World.cell?_setCell_other _ _ _ _ (by simp)).trans h.c0
  · exact (World.cell?_setCell_other _ _ _ _ (by simp)).trans h.c1

/-- What was given back is another list, in memory that has grown, or where the old list lay. -/
theorem grow (h : FrRaw w b g vb S) (hs : w.heap.size ≤ w'.heap.size) (hk : ∀ k, k = b ∨ k = g → w'.heap[k]? = w.heap[k]?) {vb' : Value} {l : List Nat} (ho : w'.ownsRow 0 3 1 vb' l.length (nats l)) (v0 : vb'.ownBlock ≠ some g) (v2 : vb'.ownBlock ≠ some b) :
    FrRaw (w'.setCell ⟨b, 1, none⟩ vb') b g vb' { S with back := l } := by
  have kb := hk b (.inl rfl)
  have k0 := hk g (.inr rfl)
  have hh : ∀ k, k ≠ b → (w'.setCell ⟨b, 1, none⟩ vb').heap[k]? = w'.heap[k]? := fun k hk => Below.heap_setCell _ _ _ _ hk
  have j0 := (hh g h.n0).trans k0
  have hs' : (w'.setCell ⟨b, 1, none⟩ vb').heap.size = w'.heap.size := by simp
  have l0 := h.l0
  refine ⟨?_, World.cell?_setCell_same _ _ _ ((World.cell?_of_block kb).trans h.c1), ?_, fun o => ?_, fun o => (World.frozen?_of_block j0).trans (h.f0 o),
    fun k a => (World.cell?_of_block j0).trans (h.ci k a), fun k i a c => (World.cell?_of_block j0).trans (h.cw k i a c),
    owns_of_block ho fun k e => hh k (fun e' => v2 (e' ▸ e)), by rw [hs']; omega, h.n0, v0, v2⟩
  · exact (World.cell?_setCell_other _ _ _ _ (by simp)).trans ((World.cell?_of_block kb).trans h.c0)
  · exact (World.cell?_setCell_other _ _ _ _ (by simp)).trans ((World.cell?_of_block kb).trans h.c2)
  · rw [World.frozen?_setCell]
    exact (World.frozen?_of_block kb).trans (h.fb o)
theorem setBack (h : FrRaw w b g vb S) {vb' : Value} {l : List Nat} (ho : w.ownsRow 0 3 1 vb' l.length (nats l)) (v0 : vb'.ownBlock ≠ some g) (v2 : vb'.ownBlock ≠ some b) :
    FrRaw (w.setCell ⟨b, 1, none⟩ vb') b g vb' { S with back := l } := h.grow (Nat.le_refl _) (fun _ _ => rfl) ho v0 v2

/-- Whether the frame k is in use is written. -/
theorem mark (h : FrRaw w b g vb S) {k : Nat} (hk : k < S.n) (v : Bool) (l : List Nat) (hl : ∀ j, decide (j ∈ l) = if j = k then v else S.inn j) :
    FrRaw (w.setCell ⟨g, k * 9, none⟩ (.bool v)) b g vb { S with used := l } := by
  have hh : ∀ j, j ≠ g → (w.setCell ⟨g, k * 9, none⟩ (.bool v)).heap[j]? = w.heap[j]? := fun j hj => Below.heap_setCell _ _ _ _ hj
  have kb := hh b (Ne.symm h.n0)
  have hs : (w.setCell ⟨g, k * 9, none⟩ (.bool v)).heap.size = w.heap.size := by simp
  refine ⟨(World.cell?_of_block kb).trans h.c0, (World.cell?_of_block kb).trans h.c1, (World.cell?_of_block kb).trans h.c2,
    fun o => by simpa using h.fb o, fun o => by simpa using h.f0 o, fun j a => ?_, fun j i a c => ?_,
    owns_of_block h.own fun j e => hh j (fun e' => h.vb0 (e' ▸ e)), hs.symm ▸ h.l0, h.n0, h.vb0, h.vbb⟩
  · show _ = some (Value.bool (decide (j ∈ l)))
    rw [hl j]
    by_cases e : j = k
    · rw [if_pos e, e]
      exact World.cell?_setCell_same _ _ _ (h.ci k hk)
    · rw [if_neg e]
      exact (World.cell?_setCell_other _ _ _ _ (fun he => e (by injection he with _ he; omega))).trans (h.ci j a)
  · exact (World.cell?_setCell_other _ _ _ _ (fun he => by injection he with _ he; omega)).trans (h.cw j i a c)

/-- The frame k is in use, its words 0. -/
theorem fill (h : FrRaw w b g vb S) {k : Nat} (hk : k < S.n) (zs : List Value) (hz : zs.length = 9) (h0 : zs[0]? = some (.bool true)) (hv : ∀ j : Nat, j < 8 → zs[j + 1]? = some (.int .u64 0)) :
    FrRaw (w.setCells g (k * 9) zs) b g vb { S with used := k :: S.used, word := Pg.Fs.clear S.word k } := by
  have hh : ∀ j, j ≠ g → (w.setCells g (k * 9) zs).heap[j]? = w.heap[j]? := fun j hj => heap_setCells _ _ _ _ _ hj
  have kb := hh b (Ne.symm h.n0)
  have hs := size_setCells g zs (k * 9) w
  have hin : ∀ i, i < zs.length → (w.setCells g (k * 9) zs).cell? ⟨g, k * 9 + i, none⟩ = zs[i]? := by
    intro i hi
    have := World.cell?_setCells_in g zs (k * 9) w (fun i hi => by
      match i with
      | 0 => rw [show k * 9 + 0 = k * 9 from rfl, h.ci k hk]; rfl
      | i + 1 => rw [show k * 9 + (i + 1) = k * 9 + 1 + i by omega, h.cw k i hk (by omega)]; rfl) i hi
    rw [this, List.getElem?_eq_getElem hi]
  refine ⟨(World.cell?_of_block kb).trans h.c0, (World.cell?_of_block kb).trans h.c1, (World.cell?_of_block kb).trans h.c2,
    fun o => (World.frozen?_setCells _ _ _ _ _).trans (h.fb o), fun o => (World.frozen?_setCells _ _ _ _ _).trans (h.f0 o),
    fun j a => ?_, fun j i a c => ?_,
    owns_of_block h.own fun j e => hh j (fun e' => h.vb0 (e' ▸ e)), hs.symm ▸ h.l0, h.n0, h.vb0, h.vbb⟩
  · show _ = some (Value.bool (decide (j ∈ k :: S.used)))
    by_cases e : j = k
    · subst e
      have := hin 0 (by omega)
      simp only [Nat.add_zero] at this
      rw [this, h0]
      simp
    · have he : decide (j ∈ k :: S.used) = S.inn j := by simp [Pg.Fs.inn, e]
      rw [he]
      exact (World.cell?_setCells_out _ _ _ _ _ (fun _ _ => by show j * 9 < k * 9 ∨ k * 9 + zs.length ≤ j * 9; omega)).trans (h.ci j a)
  · show _ = some (Value.int .u64 (Pg.Fs.clear S.word k j i))
    unfold Pg.Fs.clear
    by_cases e : j = k
    · rw [if_pos e, e, show k * 9 + 1 + i = k * 9 + (i + 1) by omega, hin (i + 1) (by omega), hv i c]
    · rw [if_neg e]
      exact (World.cell?_setCells_out _ _ _ _ _ (fun _ _ => by show j * 9 + 1 + i < k * 9 ∨ k * 9 + zs.length ≤ j * 9 + 1 + i; omega)).trans (h.cw j i a c)

/-- One word is written. -/
theorem put (h : FrRaw w b g vb S) {k i : Nat} (hk : k < S.n) (hi : i < 8) (v : Int) :
    FrRaw (w.setCell ⟨g, k * 9 + 1 + i, none⟩ (.int .u64 v)) b g vb { S with word := Pg.Fs.put S.word k i v } := by
  have hh : ∀ j, j ≠ g → (w.setCell ⟨g, k * 9 + 1 + i, none⟩ (.int .u64 v)).heap[j]? = w.heap[j]? := fun j hj => Below.heap_setCell _ _ _ _ hj
  have kb := hh b (Ne.symm h.n0)
  have hs : (w.setCell ⟨g, k * 9 + 1 + i, none⟩ (.int .u64 v)).heap.size = w.heap.size := by simp
  refine ⟨(World.cell?_of_block kb).trans h.c0, (World.cell?_of_block kb).trans h.c1, (World.cell?_of_block kb).trans h.c2,
    fun o => by simpa using h.fb o, fun o => by simpa using h.f0 o,
    fun j a => (World.cell?_setCell_other _ _ _ _ (fun he => by injection he with _ he; omega)).trans (h.ci j a), fun j m a c => ?_,
    owns_of_block h.own fun j e => hh j (fun e' => h.vb0 (e' ▸ e)), hs.symm ▸ h.l0, h.n0, h.vb0, h.vbb⟩
  show _ = some (Value.int .u64 (Pg.Fs.put S.word k i v j m))
  unfold Pg.Fs.put
  by_cases e : j = k ∧ m = i
  · rw [if_pos e, e.1, e.2]
    exact World.cell?_setCell_same _ _ _ (h.cw k i hk hi)
  · rw [if_neg e]
    exact (World.cell?_setCell_other _ _ _ _ (fun he => e (by injection he with _ he; omega))).trans (h.cw j m a c)
end FrRaw

def frZero : Array Value := #[.bool false, .int .u64 0, .int .u64 0, .int .u64 0, .int .u64 0, .int .u64 0, .int .u64 0, .int .u64 0, .int .u64 0]
theorem frZero_at (k : Nat) : frZero[k * 9 % frZero.size]! = .bool false := by
  have : k * 9 % 9 = 0 := by omega
  show frZero[k * 9 % 9]! = _
  rw [this]; rfl
theorem frZero_in (k i : Nat) (hi : i < 8) : frZero[(k * 9 + 1 + i) % frZero.size]! = .int .u64 0 := by
  have : (k * 9 + 1 + i) % 9 = i + 1 := by omega
  show frZero[(k * 9 + 1 + i) % 9]! = _
  rw [this]
  match i, hi with
  | 0, _ | 1, _ | 2, _ | 3, _ | 4, _ | 5, _ | 6, _ | 7, _ => rfl

/-- New frames. -/
theorem FrRaw.made {w : World} {b g n : Nat} {t0 t2 : TypeId} (hb : w.heap[b]? = some (.cells #[.slice (some ⟨g, 0, none⟩) n n, .slice none 0 0, .int .i64 0] t2 (0, 0)))
    (h0 : w.heap[g]? = some (.cells (madeCells frZero (n * 9)) t0 (0, 0))) (n0 : g ≠ b) : FrRaw w b g (.slice none 0 0) (Pg.Fs.new n) := by
  refine ⟨?_, ?_, ?_, fun o => by simp [World.frozen?, hb], fun o => by simp [World.frozen?, h0], fun k hk => ?_, fun k i hk hi => ?_, World.ownsRow_nil _ _ _ _, (Array.getElem?_eq_some_iff.1 h0).1, n0, by simp [Value.ownBlock], by simp [Value.ownBlock]⟩
  · rw [cell_of_row w b 0 _ _ _ hb]; rfl
  · rw [cell_of_row w b 1 _ _ _ hb]; rfl
  · rw [cell_of_row w b 2 _ _ _ hb]; rfl
  · have hk : k < n := hk
    have hlt : k * 9 < n * 9 := by omega
    rw [cell_of_row w g _ _ _ _ h0, madeCells]
    simp only [Array.getElem?_map, Array.getElem?_range, hlt, if_true, Option.map_some, frZero_at]
    rfl
  · have hk : k < n := hk
    have hlt : k * 9 + 1 + i < n * 9 := by omega
    rw [cell_of_row w g _ _ _ _ h0, madeCells]
    simp only [Array.getElem?_map, Array.getElem?_range, hlt, if_true, Option.map_some, frZero_in k i hi]
    rfl

/-- Frames S lie at b, in the blocks F. -/
def FrAt (w : World) (b : Nat) (S : Pg.Fs) (F : Nat → Prop) : Prop := ∃ g vb, FrRaw w b g vb S ∧ S.Ok ∧ F = frF b g vb
theorem FrAt.lt {w : World} {b : Nat} {S : Pg.Fs} {F : Nat → Prop} (h : FrAt w b S F) {k : Nat} (hk : F k) : k < w.heap.size := by
  obtain ⟨g, vb, h, _, rfl⟩ := h
  exact h.lt hk
theorem FrAt.ok {w : World} {b : Nat} {S : Pg.Fs} {F : Nat → Prop} (h : FrAt w b S F) : S.Ok := by
  obtain ⟨g, vb, _, h, _⟩ := h
  exact h
theorem FrAt.keep {w w' : World} {b : Nat} {S : Pg.Fs} {F G : Nat → Prop} (h : FrAt w b S F) (hb : But G w w') (hF : ∀ k, F k → ¬ G k) : FrAt w' b S F := by
  obtain ⟨g, vb, h, ok, rfl⟩ := h
  exact ⟨g, vb, h.keep hb hF, ok, rfl⟩
/-- What a step of the frames' own leaves. -/
theorem FrAt.next {w w' : World} {b g : Nat} {vb vb' : Value} {S' : Pg.Fs} (h1 : FrRaw w' b g vb' S') (ok : S'.Ok) (hb : But (frF b g vb) w w') (hv : vb'.ownBlock = vb.ownBlock ∨ ∃ k, vb'.ownBlock = some k ∧ w.heap.size ≤ k) :
    ∃ F', FrAt w' b S' F' ∧ But (frF b g vb) w w' ∧ ∀ k, F' k → frF b g vb k ∨ w.heap.size ≤ k := by
  refine ⟨_, ⟨g, vb', h1, ok, rfl⟩, hb, fun k hk => ?_⟩
  rcases hk with rfl | rfl | hk
  · exact .inl (.inl rfl)
  · exact .inl (.inr (.inl rfl))
  · rcases hv with e | ⟨j, e, hj⟩
    · exact .inl (.inr (.inr (e ▸ hk)))
    · rw [hk] at e
      cases e
      exact .inr hj
end Go.Proofs.Ytbkpndgadgafiac
