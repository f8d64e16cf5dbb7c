
/-
  How frames lie in memory, and what writing one part of them leaves of the others: no program is named here.
-/
import Derived.Test.YtiojflaehjbcbaeGreatHeap
import Derived.Test.YtiojflaehjbcbaeGreatPlainM
import Derived.OwnWalk
import Derived.Laws.IdiomCopy
namespace Go.Proofs.YtiojflaehjbcbaeGreat
open Go.RowKit Go.Sort
set_option linter.unusedVariables false

theorem owns_of_block {w w' : World} {base e size n : Nat} {v : Value} {xs : List Value} (h : w.ownsRow base e size v n xs) (hk : ∀ k, v.ownBlock = some k → w'.heap[k]? = w.heap[k]?) : w'.ownsRow base e size v n xs := by
  refine ⟨h.1, ?_⟩
  rcases h.2 with hn | ⟨g, cap, cur, rfl, hb, hgg, rest⟩
  · exact .inl hn
  · exact .inr ⟨g, cap, cur, rfl, hb, by rw [hk g rfl]; exact hgg, rest⟩

def nats (l : List Nat) : List Value := l.map fun k : Nat => Value.int .i64 (k : Int)

/-- Frames S lie at the block b, their words at g0, what is in use at g1, what was given back at vb. -/
structure MemRaw (w : World) (b g0 g1 : Nat) (vb : Value) (S : Pg.Fs) : Prop where
  c0 : w.cell? ⟨b, 0, none⟩ = some (.slice (some ⟨g0, 0, none⟩) S.n S.n)
  c1 : w.cell? ⟨b, 1, none⟩ = some (.slice (some ⟨g1, 0, none⟩) S.n S.n)
  c2 : w.cell? ⟨b, 2, none⟩ = some vb
  c3 : w.cell? ⟨b, 3, none⟩ = some (.int .i64 S.next)
  fb : ∀ o, w.frozen? ⟨b, o, none⟩ = false
  f0 : ∀ o, w.frozen? ⟨g0, o, none⟩ = false
  f1 : ∀ o, w.frozen? ⟨g1, o, none⟩ = false
  cw : ∀ k i, k < S.n → i < 8 → w.cell? ⟨g0, k * 8 + i, none⟩ = some (.int .u64 (S.word k i))
  ci : ∀ k, k < S.n → w.cell? ⟨g1, k, none⟩ = some (.bool (S.inn k))
  own : w.ownsRow 0 3 1 vb S.back.length (nats S.back)
  l0 : g0 < w.heap.size
  l1 : g1 < w.heap.size
  n0 : g0 ≠ b
  n1 : g1 ≠ b
  n01 : g0 ≠ g1
  vb0 : vb.ownBlock ≠ some g0
  vb1 : vb.ownBlock ≠ some g1
  vbb : vb.ownBlock ≠ some b

def memF (b g0 g1 : Nat) (vb : Value) : Nat → Prop := fun k => k = b ∨ k = g0 ∨ k = g1 ∨ vb.ownBlock = some k

theorem heap_setCells (b : Nat) : ∀ (vs : List Value) (o : Nat) (w : World) (k : Nat), k ≠ b → (w.setCells b o vs).heap[k]? = w.heap[k]?
  | [], _, _, _, _ => rfl
  | v :: r, o, w, k, h => by rw [World.setCells, heap_setCells b r (o + 1) _ k h, Below.heap_setCell _ _ _ _ h]
theorem size_setCells (b : Nat) : ∀ (vs : List Value) (o : Nat) (w : World), (w.setCells b o vs).heap.size = w.heap.size
  | [], _, _ => rfl
  | v :: r, o, w => by rw [World.setCells, size_setCells b r (o + 1)]; simp
theorem But.setCells {F : Nat → Prop} {w : World} (b : Nat) (hb : w.heap.size ≤ b ∨ F b) : ∀ (vs : List Value) (o : Nat) (w1 : World), But F w w1 → But F w (w1.setCells b o vs)
  | [], _, _, h => h
  | v :: r, o, w1, h => But.setCells b hb r (o + 1) _ (h.setCell (a := ⟨b, o, none⟩) hb v)

namespace MemRaw
variable {w w' : World} {b g0 g1 : Nat} {vb : Value} {S : Pg.Fs}
theorem lb (h : MemRaw w b g0 g1 vb S) : b < w.heap.size := World.block_lt_of_cell? _ _ h.c0
theorem lt (h : MemRaw w b g0 g1 vb S) {k : Nat} (hk : memF b g0 g1 vb k) : k < w.heap.size := by
  rcases hk with rfl | rfl | rfl | hk
  · exact World.block_lt_of_cell? _ _ h.c0
  · exact h.l0
  · exact h.l1
  · exact (h.own.lt k hk).2
theorem keep (h : MemRaw w b g0 g1 vb S) {F : Nat → Prop} (hb : But F w w') (hF : ∀ k, memF b g0 g1 vb k → ¬ F k) : MemRaw w' b g0 g1 vb S := by
  have hk : ∀ k, memF b g0 g1 vb k → w'.heap[k]? = w.heap[k]? := fun k hk => hb.block k (h.lt hk) (hF k hk)
  have kb := hk b (.inl rfl)
  have k0 := hk g0 (.inr (.inl rfl))
  have k1 := hk g1 (.inr (.inr (.inl rfl)))
  exact ⟨(World.cell?_of_block kb).trans h.c0, (World.cell?_of_block kb).trans h.c1, (World.cell?_of_block kb).trans h.c2, (World.cell?_of_block kb).trans h.c3,
    fun o => (World.frozen?_of_block kb).trans (h.fb o), fun o => (World.frozen?_of_block k0).trans (h.f0 o), fun o => (World.frozen?_of_block k1).trans (h.f1 o),
    fun k i a c => (World.cell?_of_block k0).trans (h.cw k i a c), fun k a => (World.cell?_of_block k1).trans (h.ci k a),
    owns_of_block h.own fun k e => hk k (.inr (.inr (.inr e))), Nat.lt_of_lt_of_le h.l0 hb.size, Nat.lt_of_lt_of_le h.l1 hb.size, h.n0, h.n1, h.n01, h.vb0, h.vb1, h.vbb⟩
theorem drewN (h : MemRaw w b g0 g1 vb S) (n : Nat) : MemRaw (w.drewN n) b g0 g1 vb S :=
  h.keep (F := fun _ => False) (But.of_below (below_drewN (brefl w) n)) (fun _ _ => id)

/-- 'next' is written. -/
theorem setNext (h : MemRaw w b g0 g1 vb S) (m : Nat) : MemRaw (w.setCell ⟨b, 3, none⟩ (.int .i64 (m : Int))) b g0 g1 vb { S with next := m } := by
  have hh : ∀ k, k ≠ b → (w.setCell ⟨b, 3, none⟩ (.int .i64 (m : Int))).heap[k]? = w.heap[k]? := fun k hk => Below.heap_setCell _ _ _ _ hk
  have k0 := hh g0 h.n0
  have k1 := hh g1 h.n1
  have hs : (w.setCell ⟨b, 3, none⟩ (.int .i64 (m : Int))).heap.size = w.heap.size := by simp
  refine ⟨?_, ?_, ?_, World.cell?_setCell_same _ _ _ h.c3, fun o => by simpa using h.fb o, fun o => by simpa using h.f0 o, fun o => by simpa using h.f1 o,
    fun k i a c => (World.cell?_of_block k0).trans (h.cw k i a c), fun k a => (World.cell?_of_block k1).trans (h.ci k a),
    owns_of_block h.own fun k e => hh k (fun e' => h.vbb (e' ▸ e)), hs.symm ▸ h.l0, hs.symm ▸ h.l1, h.n0, h.n1, h.n01, h.vb0, h.vb1, h.vbb⟩
  · exact (World.cell?_setCell_other _ _ _ _ (by simp)).trans h.c0
  · exact (World.cell?_setCell_other _ _ _ _ (by simp)).trans h.c1
  · exact (World.cell?_setCell_other _ _ _ _ (by simp)).trans h.c2

/-- What was given back is another list. -/
theorem setBack (h : MemRaw w b g0 g1 vb S) {vb' : Value} {l : List Nat} (ho : w.ownsRow 0 3 1 vb' l.length (nats l)) (v0 : vb'.ownBlock ≠ some g0) (v1 : vb'.ownBlock ≠ some g1) (v2 : vb'.ownBlock ≠ some b) :
    MemRaw (w.setCell ⟨b, 2, none⟩ vb') b g0 g1 vb' { S with back := l } := by
  have hh : ∀ k, k ≠ b → (w.setCell ⟨b, 2, none⟩ vb').heap[k]? = w.heap[k]? := fun k hk => Below.heap_setCell _ _ _ _ hk
  have k0 := hh g0 h.n0
  have k1 := hh g1 h.n1
  have hs : (w.setCell ⟨b, 2, none⟩ vb').heap.size = w.heap.size := by simp
  refine ⟨?_, ?_, World.cell?_setCell_same _ _ _ h.c2, ?_, fun o => by simpa using h.fb o, fun o => by simpa using h.f0 o, fun o => by simpa using h.f1 o,
    fun k i a c => (World.cell?_of_block k0).trans (h.cw k i a c), fun k a => (World.cell?_of_block k1).trans (h.ci k a),
    owns_of_block ho fun k e => hh k (fun e' => v2 (e' ▸ e)), hs.symm ▸ h.l0, hs.symm ▸ h.l1, h.n0, h.n1, h.n01, v0, v1, v2⟩
  · exact (World.cell?_setCell_other _ _ _ _ (by simp)).trans h.c0
  · exact (World.cell?_setCell_other _ _ _ _ (by simp)).trans h.c1
  · exact (World.cell?_setCell_other _ _ _ _ (by simp)).trans h.c3

/-- What was given back is another list, in memory that has grown, or where the old list lay. -/
theorem grow (h : MemRaw w b g0 g1 vb S) (hs : w.heap.size ≤ w'.heap.size) (hk : ∀ k, k = b ∨ k = g0 ∨ k = g1 → w'.heap[k]? = w.heap[k]?) {vb' : Value} {l : List Nat} (ho : w'.ownsRow 0 3 1 vb' l.length (nats l)) (v0 : vb'.ownBlock ≠ some g0) (v1 : vb'.ownBlock ≠ some g1) (v2 : vb'.ownBlock ≠ some b) :
    MemRaw (w'.setCell ⟨b, 2, none⟩ vb') b g0 g1 vb' { S with back := l } := by
  have kb := hk b (.inl rfl)
  have k0 := hk g0 (.inr (.inl rfl))
  have k1 := hk g1 (.inr (.inr rfl))
  have hh : ∀ k, k ≠ b → (w'.setCell ⟨b, 2, none⟩ vb').heap[k]? = w'.heap[k]? := fun k hk => Below.heap_setCell _ _ _ _ hk
  have j0 := (hh g0 h.n0).trans k0
  have j1 := (hh g1 h.n1).trans k1
  have hs' : (w'.setCell ⟨b, 2, none⟩ vb').heap.size = w'.heap.size := by simp
  have l0 := h.l0
  have l1 := h.l1
  refine ⟨?_, ?_, World.cell?_setCell_same _ _ _ ((World.cell?_of_block kb).trans h.c2), ?_, fun o => ?_, fun o => (World.frozen?_of_block j0).trans (h.f0 o), fun o => (World.frozen?_of_block j1).trans (h.f1 o),
    fun k i a c => (World.cell?_of_block j0).trans (h.cw k i a c), fun k a => (World.cell?_of_block j1).trans (h.ci k a),
    owns_of_block ho fun k e => hh k (fun e' => v2 (e' ▸ e)), by rw [hs']; omega, by rw [hs']; omega, h.n0, h.n1, h.n01, v0, v1, v2⟩
  · exact (World.cell?_setCell_other _ _ _ _ (by simp)).trans ((World.cell?_of_block kb).trans h.c0)
  · exact (World.cell?_setCell_other _ _ _ _ (by simp)).trans ((World.cell?_of_block kb).trans h.c1)
  · exact (World.cell?_setCell_other _ _ _ _ (by simp)).trans ((World.cell?_of_block kb).trans h.c3)
  · rw [World.frozen?_setCell]
    exact (World.frozen?_of_block kb).trans (h.fb o)

/-- Whether the frame k is in use is written. -/
theorem mark (h : MemRaw w b g0 g1 vb S) {k : Nat} (hk : k < S.n) (v : Bool) (l : List Nat) (hl : ∀ j, decide (j ∈ l) = if j = k then v else S.inn j) :
    MemRaw (w.setCell ⟨g1, k, none⟩ (.bool v)) b g0 g1 vb { S with used := l } := by
  have hh : ∀ j, j ≠ g1 → (w.setCell ⟨g1, k, none⟩ (.bool v)).heap[j]? = w.heap[j]? := fun j hj => Below.heap_setCell _ _ _ _ hj
  have kb := hh b (Ne.symm h.n1)
  have k0 := hh g0 h.n01
  have hs : (w.setCell ⟨g1, k, none⟩ (.bool v)).heap.size = w.heap.size := by simp
  refine ⟨(World.cell?_of_block kb).trans h.c0, (World.cell?_of_block kb).trans h.c1, (World.cell?_of_block kb).trans h.c2, (World.cell?_of_block kb).trans h.c3,
    fun o => by simpa using h.fb o, fun o => by simpa using h.f0 o, fun o => by simpa using h.f1 o,
    fun j i a c => (World.cell?_of_block k0).trans (h.cw j i a c), fun j a => ?_,
    owns_of_block h.own fun j e => hh j (fun e' => h.vb1 (e' ▸ e)), hs.symm ▸ h.l0, hs.symm ▸ h.l1, h.n0, h.n1, h.n01, h.vb0, h.vb1, h.vbb⟩
  show _ = some (Value.bool (decide (j ∈ l)))
  rw [hl j]
  by_cases e : j = k
  · rw [if_pos e, e]
    exact World.cell?_setCell_same _ _ _ (h.ci k hk)
  · rw [if_neg e]
    exact (World.cell?_setCell_other _ _ _ _ (fun he => e (by injection he with _ he; exact he.symm))).trans (h.ci j a)

/-- All words of the frame k are 0. -/
theorem clear (h : MemRaw w b g0 g1 vb S) {k : Nat} (hk : k < S.n) (zs : List Value) (hz : zs.length = 8) (hv : ∀ (j : Nat) (hj : j < zs.length), zs[j] = .int .u64 0) :
    MemRaw (w.setCells g0 (k * 8) zs) b g0 g1 vb { S with word := Pg.Fs.clear S.word k } := by
  have hh : ∀ j, j ≠ g0 → (w.setCells g0 (k * 8) zs).heap[j]? = w.heap[j]? := fun j hj => heap_setCells _ _ _ _ _ hj
  have kb := hh b (Ne.symm h.n0)
  have k1 := hh g1 (Ne.symm h.n01)
  have hs := size_setCells g0 zs (k * 8) w
  refine ⟨(World.cell?_of_block kb).trans h.c0, (World.cell?_of_block kb).trans h.c1, (World.cell?_of_block kb).trans h.c2, (World.cell?_of_block kb).trans h.c3,
    fun o => (World.frozen?_setCells _ _ _ _ _).trans (h.fb o), fun o => (World.frozen?_setCells _ _ _ _ _).trans (h.f0 o), fun o => (World.frozen?_setCells _ _ _ _ _).trans (h.f1 o),
    fun j i a c => ?_, fun j a => (World.cell?_of_block k1).trans (h.ci j a),
    owns_of_block h.own fun j e => hh j (fun e' => h.vb0 (e' ▸ e)), hs.symm ▸ h.l0, hs.symm ▸ h.l1, h.n0, h.n1, h.n01, h.vb0, h.vb1, h.vbb⟩
  show _ = some (Value.int .u64 (Pg.Fs.clear S.word k j i))
  unfold Pg.Fs.clear
  by_cases e : j = k
  · rw [if_pos e, e]
    have := World.cell?_setCells_in g0 zs (k * 8) w (fun i hi => by rw [h.cw k i hk (by omega)]; rfl) i (by omega)
    rw [this, hv i (by omega)]
  · rw [if_neg e]
    exact (World.cell?_setCells_out _ _ _ _ _ (fun _ _ => by show j * 8 + i < k * 8 ∨ k * 8 + zs.length ≤ j * 8 + i; omega)).trans (h.cw j i a c)

/-- One word is written. -/
theorem put (h : MemRaw w b g0 g1 vb S) {k i : Nat} (hk : k < S.n) (hi : i < 8) (v : Int) :
    MemRaw (w.setCell ⟨g0, k * 8 + i, none⟩ (.int .u64 v)) b g0 g1 vb { S with word := Pg.Fs.put S.word k i v } := by
  have hh : ∀ j, j ≠ g0 → (w.setCell ⟨g0, k * 8 + i, none⟩ (.int .u64 v)).heap[j]? = w.heap[j]? := fun j hj => Below.heap_setCell _ _ _ _ hj
  have kb := hh b (Ne.symm h.n0)
  have k1 := hh g1 (Ne.symm h.n01)
  have hs : (w.setCell ⟨g0, k * 8 + i, none⟩ (.int .u64 v)).heap.size = w.heap.size := by simp
  refine ⟨(World.cell?_of_block kb).trans h.c0, (World.cell?_of_block kb).trans h.c1, (World.cell?_of_block kb).trans h.c2, (World.cell?_of_block kb).trans h.c3,
    fun o => by simpa using h.fb o, fun o => by simpa using h.f0 o, fun o => by simpa using h.f1 o,
    fun j m a c => ?_, fun j a => (World.cell?_of_block k1).trans (h.ci j a),
    owns_of_block h.own fun j e => hh j (fun e' => h.vb0 (e' ▸ e)), hs.symm ▸ h.l0, hs.symm ▸ h.l1, h.n0, h.n1, h.n01, h.vb0, h.vb1, h.vbb⟩
  show _ = some (Value.int .u64 (Pg.Fs.put S.word k i v j m))
  unfold Pg.Fs.put
  by_cases e : j = k ∧ m = i
  · rw [if_pos e, e.1, e.2]
    exact World.cell?_setCell_same _ _ _ (h.cw k i hk hi)
  · rw [if_neg e]
    exact (World.cell?_setCell_other _ _ _ _ (fun he => e (by injection he with _ he; omega))).trans (h.cw j m a c)
end MemRaw

def zeros : Array Value := #[.int .u64 0, .int .u64 0, .int .u64 0, .int .u64 0, .int .u64 0, .int .u64 0, .int .u64 0, .int .u64 0]
theorem zeros_at (j : Nat) : zeros[j % zeros.size]! = .int .u64 0 := by
  have : j % 8 < 8 := Nat.mod_lt _ (by decide)
  show zeros[j % 8]! = _
  generalize j % 8 = m at *
  match m, this with
  | 0, _ | 1, _ | 2, _ | 3, _ | 4, _ | 5, _ | 6, _ | 7, _ => rfl

/-- New frames. -/
theorem MemRaw.made {w : World} {b g0 g1 n : Nat} {t0 t1 t2 : TypeId} (hb : w.heap[b]? = some (.cells #[.slice (some ⟨g0, 0, none⟩) n n, .slice (some ⟨g1, 0, none⟩) n n, .slice none 0 0, .int .i64 0] t2 (0, 0)))
    (h0 : w.heap[g0]? = some (.cells (madeCells zeros (n * 8)) t0 (0, 0))) (h1 : w.heap[g1]? = some (.cells (madeCells #[.bool false] n) t1 (0, 0))) (n0 : g0 ≠ b) (n1 : g1 ≠ b) (n01 : g0 ≠ g1) : MemRaw w b g0 g1 (.slice none 0 0) (Pg.Fs.new n) := by
  refine ⟨?_, ?_, ?_, ?_, fun o => by simp [World.frozen?, hb], fun o => by simp [World.frozen?, h0], fun o => by simp [World.frozen?, h1], fun k i hk hi => ?_, fun k hk => ?_, World.ownsRow_nil _ _ _ _, (Array.getElem?_eq_some_iff.1 h0).1, (Array.getElem?_eq_some_iff.1 h1).1, n0, n1, n01, by simp [Value.ownBlock], by simp [Value.ownBlock], by simp [Value.ownBlock]⟩
  · rw [cell_of_row w b 0 _ _ _ hb]; rfl
  · rw [cell_of_row w b 1 _ _ _ hb]; rfl
  · rw [cell_of_row w b 2 _ _ _ hb]; rfl
  · rw [cell_of_row w b 3 _ _ _ hb]; rfl
  · have hk : k < n := hk
    have hlt : k * 8 + i < n * 8 := by omega
    rw [cell_of_row w g0 _ _ _ _ h0, madeCells]
    simp only [Array.getElem?_map, Array.getElem?_range, hlt, if_true, Option.map_some, zeros_at]
    rfl
  · have hk : k < n := hk
    rw [cell_of_row w g1 _ _ _ _ h1, madeCells]
    simp only [Array.getElem?_map, Array.getElem?_range, hk, if_true, Option.map_some]
    have : k % (#[Value.bool false] : Array Value).size = 0 := Nat.mod_one k
    rw [this]
    rfl

structure MemAt (w : World) (b g0 g1 : Nat) (vb : Value) (S : Pg.Fs) : Prop where
  raw : MemRaw w b g0 g1 vb S
  ok : S.Ok
theorem MemAt.keep {w w' : World} {b g0 g1 : Nat} {vb : Value} {S : Pg.Fs} (h : MemAt w b g0 g1 vb S) {F : Nat → Prop} (hb : But F w w') (hF : ∀ k, memF b g0 g1 vb k → ¬ F k) : MemAt w' b g0 g1 vb S := ⟨h.raw.keep hb hF, h.ok⟩
end Go.Proofs.YtiojflaehjbcbaeGreat
