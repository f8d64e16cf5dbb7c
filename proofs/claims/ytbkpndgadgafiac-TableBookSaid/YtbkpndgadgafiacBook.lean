/-
  The developers' book: what asking it answers, and what it leaves in memory: Protect.
-/
import Derived.Test.YtbkpndgadgafiacHeap
import Derived.Laws.CopyRow
import Derived.Laws.AppendOwn
import Derived.Lib.AppendZerosOnto
import Derived.WalkKit
import Derived.Test.YtbkpndgadgafiacPlainB
import Derived.Test.YtbkpndgadgafiacChecked
import Derived.Test.YtbkpndgadgafiacMapInfo
import Derived.Lib.Overlaps
import Derived.Lib.SliceRun
import Derived.Shelf.RegionOpenPlain
import Derived.Test.YtbkpndgadgafiacPageB
import Derived.Deep.LoopGhost
import Derived.Deep.RegionLaw
import Derived.Deep.RegionWith
namespace Go.Proofs.Ytbkpndgadgafiac
open Go.RowKit Go.Sort
set_option linter.unusedVariables false
variable {P : Program}

/-- 'copy(d, s)' where elements are of 'size' cells. -/
theorem run_copy_wide (w : World) (dT sT ty elem : TypeId) (size g o dLen dCap : Nat) (a : Addr) (sLen sCap : Nat) (cur : Array Value) (t : TypeId) (cs : List Value)
    (hu : P.underlying dT = some (.slice elem)) (hs : (P.info? elem).map (·.size) = some size)
    (hg : w.heap[g]? = some (.cells cur t (0, 0))) (hn : cs.length = Nat.min sLen dLen * size)
    (hsrc : ∀ j v, cs[j]? = some v → w.cell? (a.add j) = some v) (hfit : o + cs.length ≤ cur.size) (h1 : ∀ v ∈ cs, v.oneCell' = true) :
    (Builtin.copy_ #[dT, sT] ty #[.slice (some ⟨g, o, none⟩) dLen dCap, .slice (some a) sLen sCap]).run P w =
      .ok (goInt (Nat.min sLen dLen)) (w.setRow g (cur.toList.take o ++ cs ++ cur.toList.drop (o + cs.length)).toArray) := by
  have hf := run_firstCells_some (P := P) w size (Nat.min sLen dLen) a sLen sCap cs hn hsrc
  have hst := run_storeCells_at P g o t cs 0 cur w hg (by simpa using hfit) h1
  cases hq : P.info? elem with
  | none => simp [hq] at hs
  | some i =>
    have hi : i.size = size := by simpa [hq] using hs
    simp [Builtin.copy_, run_underlying hu, Builtin.lenOf, sizeOf, typeInfo, hq, hi, hf, hst]

/-- 'clear(s)' of n > 0 elements. -/
theorem run_clear_wide (w : World) (t e ty t' : TypeId) (z : Value) (ht : P.underlying t = some (.slice e)) (hv : ∀ w, (zeroValue e).run P w = .ok z w) (g o n c : Nat) (hn : 0 < n) (cur : Array Value)
    (hg : w.heap[g]? = some (.cells cur t' (0, 0))) (hfit : o + n * z.cells.size ≤ cur.size) (h1 : ∀ v ∈ (Builtin.zeroCells z.cells n).toList, v.oneCell' = true) :
    (Builtin.clear_ #[t] ty #[.slice (some ⟨g, o, none⟩) n c]).run P w = .ok (.tuple #[]) (w.setRow g (cur.toList.take o ++ (Builtin.zeroCells z.cells n).toList ++ cur.toList.drop (o + n * z.cells.size)).toArray) := by
  have hl : (Builtin.zeroCells z.cells n).toList.length = n * z.cells.size := by simp [size_zeroCells]
  have hst := run_storeCells_at P g o t' (Builtin.zeroCells z.cells n).toList 0 cur w hg (by rw [hl]; simpa using hfit) h1
  rw [hl] at hst
  simp only [Nat.add_zero] at hst
  obtain ⟨m, rfl⟩ : ∃ m, n = m + 1 := ⟨n - 1, by omega⟩
  simp [Builtin.clear_, run_underlying ht, hv, hst]

theorem wp_copy_known (w : World) {o : Oper} {a : Act} {K : Act → World → Prop} {Q : Exit → Act → World → Prop} (d s : Operand) (t t' : TypeId)
    (ho : o.op = .call { callee := .builtin .copy, args := #[d, s], argTypes := #[t, t'] }) (v u : Value) (hd : a.eval d = v) (hs : a.eval s = u) {v' : Value} {w' : World}
    (hr : (Builtin.copy_ #[t, t'] o.type #[v, u]).run P w = .ok v' w') (h : K (a.put o.dst v') w') : o.wp P a w K Q := by
  unfold Oper.wp execOp
  simp only [ho, resolve, invoke, builtin, Sem.run_bind, Sem.run_pure, Result.andThen_ok, List.map_toArray, List.map_cons, List.map_nil, hd, hs, hr]
  exact h
theorem wpList_copy_known (w : World) {ops : Array Oper} {rest : List Oper} {o : Oper} {a : Act} {Q : Exit → Act → World → Prop} (hgd : o.guard = none) (d s : Operand) (t t' : TypeId)
    (ho : o.op = .call { callee := .builtin .copy, args := #[d, s], argTypes := #[t, t'] }) (v u : Value) (hd : a.eval d = v) (hs : a.eval s = u) {v' : Value} {w' : World}
    (hr : (Builtin.copy_ #[t, t'] o.type #[v, u]).run P w = .ok v' w') (h : wpList P ops Q rest (a.put o.dst v') w') : wpList P ops Q (o :: rest) a w :=
  wpList_plain hgd fun _ hK => wp_copy_known w d s t t' ho v u hd hs hr (hK _ _ h)
/-- Where the run is known, as one step of a region that draws. -/
theorem step_copy_known {ops : Array Oper} {o : Oper} {a : Act} {w : World} {K : Act → World → Prop} {Q : Exit → Act → World → Prop} {E : Prop}
    (hg : o.guard = none) (d x : Operand) (dT sT : TypeId) (hop : o.op = Op.call { callee := Callee.builtin Builtin.copy, args := #[d, x], argTypes := #[dT, sT] })
    (v u : Value) (hd : a.eval d = v) (hx : a.eval x = u) {v' : Value} {w' : World} (hr : (Builtin.copy_ #[dT, sT] o.type #[v, u]).run P w = .ok v' w') (hK : K (a.put o.dst v') w') :
    if Region.wanted o (yielded ops a.tmps) = true then Oper.wp P o a w K Q else E := by
  have hw : Region.wanted o (yielded ops a.tmps) = true := by simp [Region.wanted, hg]
  rw [if_pos hw]
  unfold Oper.wp
  simp [execOp, hop, resolve, invoke, builtin, hd, hx, hr, Result.andThen]
  exact hK
theorem step_append_known {ops : Array Oper} {o : Oper} {a : Act} {w : World} {K : Act → World → Prop} {Q : Exit → Act → World → Prop} {E : Prop}
    (hg : o.guard = none) (d x : Operand) (dT sT : TypeId) (hop : o.op = Op.call { callee := Callee.builtin Builtin.append, args := #[d, x], argTypes := #[dT, sT] })
    (v u : Value) (hd : a.eval d = v) (hx : a.eval x = u) {v' : Value} {w' : World} (hr : (Builtin.append_ #[dT, sT] o.type #[v, u]).run P w = .ok v' w') (hK : K (a.put o.dst v') w') :
    if Region.wanted o (yielded ops a.tmps) = true then Oper.wp P o a w K Q else E := by
  have hw : Region.wanted o (yielded ops a.tmps) = true := by simp [Region.wanted, hg]
  rw [if_pos hw]
  unfold Oper.wp
  simp [execOp, hop, resolve, invoke, builtin, hd, hx, hr, Result.andThen]
  exact hK
theorem wp_clear_known (w : World) {o : Oper} {a : Act} {K : Act → World → Prop} {Q : Exit → Act → World → Prop} (d : Operand) (t : TypeId)
    (ho : o.op = .call { callee := .builtin .clear, args := #[d], argTypes := #[t] }) (v : Value) (hd : a.eval d = v) {v' : Value} {w' : World}
    (hr : (Builtin.clear_ #[t] o.type #[v]).run P w = .ok v' w') (h : K (a.put o.dst v') w') : o.wp P a w K Q := by
  unfold Oper.wp execOp
  simp only [ho, resolve, invoke, builtin, Sem.run_bind, Sem.run_pure, Result.andThen_ok, List.map_toArray, List.map_cons, List.map_nil, hd, hr]
  exact h
theorem wpList_clear_known (w : World) {ops : Array Oper} {rest : List Oper} {o : Oper} {a : Act} {Q : Exit → Act → World → Prop} (hgd : o.guard = none) (d : Operand) (t : TypeId)
    (ho : o.op = .call { callee := .builtin .clear, args := #[d], argTypes := #[t] }) (v : Value) (hd : a.eval d = v) {v' : Value} {w' : World}
    (hr : (Builtin.clear_ #[t] o.type #[v]).run P w = .ok v' w') (h : wpList P ops Q rest (a.put o.dst v') w') : wpList P ops Q (o :: rest) a w :=
  wpList_plain hgd fun _ hK => wp_clear_known w d t ho v hd hr (hK _ _ h)

/-- A row that is written in its own block alone. -/
theorem But.setRow {F : Nat → Prop} {w w1 : World} (h : But F w w1) {g : Nat} (ha : w.heap.size ≤ g ∨ F g) (cs : Array Value) : But F w (w1.setRow g cs) :=
  ⟨h.os, h.tape, h.output, by simpa using h.size, fun i hi hF => by
    rw [setRow_other _ _ _ _ (fun e => by subst e; exact ha.elim (fun h' => by omega) hF)]
    exact h.block i hi hF⟩

/-- How a row is opened for one more: its cells behind the place go on by one element, and the new one is laid there. -/
theorem row_opened {c xs news : List Value} {z n k : Nat} (hk : k ≤ n) (hc : (n + 1) * z ≤ c.length) (hx : c.take (n * z) = xs) (hn : news.length = z) :
    let c1 := c.take ((k + 1) * z) ++ xs.drop (k * z) ++ c.drop ((k + 1) * z + (xs.drop (k * z)).length)
    (c1.take (k * z) ++ news ++ c1.drop (k * z + news.length)).take ((n + 1) * z) = xs.take (k * z) ++ news ++ xs.drop (k * z) := by
  intro c1
  have e1 : (n + 1) * z = n * z + z := by rw [Nat.add_mul, Nat.one_mul]
  have e2 : (k + 1) * z = k * z + z := by rw [Nat.add_mul, Nat.one_mul]
  have e3 : k * z ≤ n * z := Nat.mul_le_mul_right _ hk
  have hxl : xs.length = n * z := by rw [← hx, List.length_take]; omega
  have hd : (xs.drop (k * z)).length = n * z - k * z := by rw [List.length_drop, hxl]
  have ht : (c.take ((k + 1) * z)).length = k * z + z := by rw [List.length_take]; omega
  have h1 : c1.take (k * z) = xs.take (k * z) := by
    show (c.take ((k + 1) * z) ++ xs.drop (k * z) ++ _).take (k * z) = _
    rw [List.append_assoc, List.take_append_of_le_length (by omega), List.take_take, ← hx, List.take_take]
    congr 1
    omega
  have h2 : c1.drop (k * z + news.length) = xs.drop (k * z) ++ c.drop ((k + 1) * z + (xs.drop (k * z)).length) := by
    show (c.take ((k + 1) * z) ++ xs.drop (k * z) ++ _).drop (k * z + news.length) = _
    rw [List.append_assoc, List.drop_append_of_le_length (by omega), List.drop_eq_nil_of_le (by omega), List.nil_append]
  have hp : (xs.take (k * z)).length = k * z := by rw [List.length_take]; omega
  rw [h1, h2, ← List.append_assoc, List.take_append_of_le_length (by simp only [List.length_append, hp, hd, hn]; omega), List.take_of_length_le (by simp only [List.length_append, hp, hd, hn]; omega)]
/-- How a row loses an element: those behind it go back by one, and the last one is made zeros. -/
theorem row_shut {c xs zs : List Value} {z n k : Nat} (hk : k < n) (hc : n * z ≤ c.length) (hx : c.take (n * z) = xs) :
    let c1 := c.take (k * z) ++ xs.drop ((k + 1) * z) ++ c.drop (k * z + (xs.drop ((k + 1) * z)).length)
    (c1.take ((n - 1) * z) ++ zs ++ c1.drop ((n - 1) * z + z)).take ((n - 1) * z) = xs.take (k * z) ++ xs.drop ((k + 1) * z) := by
  intro c1
  obtain ⟨m, rfl⟩ : ∃ m, n = m + 1 := ⟨n - 1, by omega⟩
  have e1 : (m + 1) * z = m * z + z := by rw [Nat.add_mul, Nat.one_mul]
  have e2 : (k + 1) * z = k * z + z := by rw [Nat.add_mul, Nat.one_mul]
  have e3 : k * z ≤ m * z := Nat.mul_le_mul_right _ (by omega)
  simp only [Nat.add_sub_cancel]
  have hxl : xs.length = m * z + z := by rw [← hx, List.length_take]; omega
  have hd : (xs.drop ((k + 1) * z)).length = m * z - k * z := by rw [List.length_drop, hxl]; omega
  have ht : (c.take (k * z)).length = k * z := by rw [List.length_take]; omega
  have h1 : c1.take (m * z) = c.take (k * z) ++ xs.drop ((k + 1) * z) := by
    show (c.take (k * z) ++ xs.drop ((k + 1) * z) ++ _).take (m * z) = _
    rw [List.take_append_of_le_length (by rw [List.length_append, ht, hd]; omega), List.take_of_length_le (by rw [List.length_append, ht, hd]; omega)]
  have hl : (c1.take (m * z)).length = m * z := by rw [h1, List.length_append, ht, hd]; omega
  rw [List.append_assoc, List.take_append_of_le_length (by omega), List.take_of_length_le (by omega), h1, ← hx, List.take_take]
  congr 2
  omega
/-- How a row that is laid anew takes one more and what stood behind it. -/
theorem row_filled {c xs news : List Value} {z n k : Nat} (hk : k ≤ n) (hc : (n + 1) * z ≤ c.length) (hx : c.take (k * z) = xs.take (k * z)) (hxl : xs.length = n * z) (hn : news.length = z) :
    let c1 := c.take (k * z) ++ news ++ c.drop (k * z + news.length)
    (c1.take ((k + 1) * z) ++ xs.drop (k * z) ++ c1.drop ((k + 1) * z + (xs.drop (k * z)).length)).take ((n + 1) * z) = xs.take (k * z) ++ news ++ xs.drop (k * z) := by
  intro c1
  have e1 : (n + 1) * z = n * z + z := by rw [Nat.add_mul, Nat.one_mul]
  have e2 : (k + 1) * z = k * z + z := by rw [Nat.add_mul, Nat.one_mul]
  have e3 : k * z ≤ n * z := Nat.mul_le_mul_right _ hk
  have hd : (xs.drop (k * z)).length = n * z - k * z := by rw [List.length_drop, hxl]
  have ht : (xs.take (k * z)).length = k * z := by rw [List.length_take]; omega
  have h1 : c1.take ((k + 1) * z) = xs.take (k * z) ++ news := by
    show (c.take (k * z) ++ news ++ _).take ((k + 1) * z) = _
    rw [hx, List.take_append_of_le_length (by rw [List.length_append, ht, hn]; omega), List.take_of_length_le (by rw [List.length_append, ht, hn]; omega)]
  rw [h1, List.take_append_of_le_length (by simp only [List.length_append, ht, hn, hd]; omega), List.take_of_length_le (by simp only [List.length_append, ht, hn, hd]; omega)]
end Go.Proofs.Ytbkpndgadgafiac

namespace Go.Proofs.Ytbkpndgadgafiac
open Go.RowKit
namespace Pg
def cmpI (x y : Int) : Int := if x < y then -1 else if y < x then 1 else 0
/-- How a page lies to a mapping; how a mapping lies to another one. -/
def lkP (q : Int) (x : Mp) : Int := if x.has q = true then 0 else cmpI q x.p
def lkM (m x : Mp) : Int := if x.meets m = true then 0 else cmpI m.p x.p
theorem cmpI_pos {x y : Int} : 0 < cmpI x y ↔ y < x := by unfold cmpI; split <;> (try split) <;> omega
theorem cmpI_zero {x y : Int} : cmpI x y = 0 ↔ y = x := by unfold cmpI; split <;> (try split) <;> omega
theorem cmpI_fits (x y : Int) : -1 ≤ cmpI x y ∧ cmpI x y ≤ 1 := by unfold cmpI; split <;> (try split) <;> omega
theorem has_iff {x : Mp} {q : Int} : x.has q = true ↔ x.p ≤ q ∧ q - x.p < span x.s := by simp [Mp.has, over]
theorem meets_iff {a b : Mp} : a.meets b = true ↔ (a.p ≤ b.p ∧ b.p - a.p < span a.s) ∨ (b.p ≤ a.p ∧ a.p - b.p < span b.s) := by
  unfold Mp.meets; rw [meet_eq]; simp
theorem lkP_pos {q : Int} {x : Mp} : 0 < lkP q x ↔ x.p + span x.s ≤ q ∧ x.p < q := by
  unfold lkP
  by_cases h : x.has q = true
  · rw [if_pos h]
    have := has_iff.1 h
    omega
  · rw [if_neg h, cmpI_pos]
    have : ¬ (x.p ≤ q ∧ q - x.p < span x.s) := fun a => h (has_iff.2 a)
    have := (span_bd x.s).1
    omega
theorem lkM_pos {m x : Mp} : 0 < lkM m x ↔ x.p + span x.s ≤ m.p ∧ x.p < m.p := by
  unfold lkM
  by_cases h : x.meets m = true
  · rw [if_pos h]
    have := meets_iff.1 h
    omega
  · rw [if_neg h, cmpI_pos]
    have : ¬ ((x.p ≤ m.p ∧ m.p - x.p < span x.s) ∨ (m.p ≤ x.p ∧ x.p - m.p < span m.s)) := fun a => h (meets_iff.2 a)
    have := (span_bd x.s).1
    omega
theorem span_ok {x : Mp} (h : x.code = 0) : 1 ≤ span x.s := by
  have := (check_zero h).1
  have := (span_bd x.s).1
  omega
theorem lkP_zero {q : Int} {x : Mp} (h : x.code = 0) : lkP q x = 0 ↔ x.has q = true := by
  have hs := span_ok h
  unfold lkP
  by_cases e : x.has q = true
  · simp [e]
  · rw [if_neg e, cmpI_zero]
    constructor
    · intro h; exact absurd (has_iff.2 ⟨by omega, by omega⟩) e
    · intro h; exact absurd h e
theorem lkM_zero {m x : Mp} (h : x.code = 0) : lkM m x = 0 ↔ x.meets m = true := by
  have hs := span_ok h
  unfold lkM
  by_cases e : x.meets m = true
  · simp [e]
  · rw [if_neg e, cmpI_zero]
    constructor
    · intro h; exact absurd (meets_iff.2 (.inl ⟨by omega, by omega⟩)) e
    · intro h; exact absurd h e

/-- Two mappings of a book, the one ahead of the other. -/
theorem Good.two {L : List Mp} (h : Good L) {i j : Nat} (hij : i < j) (hj : j < L.length) : (L.getD i .zz).p + span (L.getD i .zz).s ≤ (L.getD j .zz).p ∧ (L.getD i .zz).p < (L.getD j .zz).p := by
  have hp := List.pairwise_iff_getElem.1 h.up i j (by omega) hj hij
  rw [mp_at (by omega), mp_at hj]
  obtain ⟨h1, h2⟩ := hp
  have h3 : ¬ ((L[i].p ≤ L[j].p ∧ L[j].p - L[i].p < span L[i].s) ∨ (L[j].p ≤ L[i].p ∧ L[i].p - L[j].p < span L[j].s)) := fun a => by
    rw [meets_iff.2 a] at h2; cases h2
  omega
theorem Good.at {L : List Mp} (h : Good L) {i : Nat} (hi : i < L.length) : (L.getD i .zz).code = 0 := by
  rw [mp_at hi]; exact h.ok _ (List.getElem_mem _)

/-- The first place at which a look is not above 0. -/
def cut (L : List Mp) (lk : Mp → Int) : Nat := L.findIdx fun m => decide (lk m ≤ 0)
theorem cut_le (L : List Mp) (lk : Mp → Int) : cut L lk ≤ L.length := List.findIdx_le_length
theorem cut_ahead {L : List Mp} {lk : Mp → Int} {t : Nat} (h : t < cut L lk) : 0 < lk (L.getD t .zz) := by
  have hl := cut_le L lk
  have := List.not_of_lt_findIdx h
  rw [mp_at (by omega)]
  simp at this
  exact this
theorem cut_at {L : List Mp} {lk : Mp → Int} (h : cut L lk < L.length) : lk (L.getD (cut L lk) .zz) ≤ 0 := by
  have h1 : L.findIdx (fun m => decide (lk m ≤ 0)) < L.length := h
  have h2 := List.findIdx_getElem (w := h1)
  rw [mp_at h]
  exact of_decide_eq_true h2
/-- What is above 0 stays above 0 ahead of it. -/
def Falls (L : List Mp) (lk : Mp → Int) : Prop := ∀ i j, i < j → j < L.length → 0 < lk (L.getD j .zz) → 0 < lk (L.getD i .zz)
theorem cut_behind {L : List Mp} {lk : Mp → Int} (hf : Falls L lk) {t : Nat} (h : cut L lk ≤ t) (ht : t < L.length) : lk (L.getD t .zz) ≤ 0 := by
  have h0 := cut_at (L := L) (lk := lk) (by omega)
  by_cases e : cut L lk = t
  · rw [← e]; exact h0
  · have := hf (cut L lk) t (by omega) ht
    omega
theorem Good.fallsP {L : List Mp} (h : Good L) (q : Int) : Falls L (lkP q) := by
  intro i j hij hj hp
  have := h.two hij hj
  rw [lkP_pos] at hp ⊢
  have := (span_bd (L.getD j .zz).s).1
  omega
theorem Good.fallsM {L : List Mp} (h : Good L) (m : Mp) : Falls L (lkM m) := by
  intro i j hij hj hp
  have := h.two hij hj
  rw [lkM_pos] at hp ⊢
  have := (span_bd (L.getD j .zz).s).1
  omega
/-- A look at the place that was found. -/
def hit (L : List Mp) (lk : Mp → Int) : Bool := decide (cut L lk < L.length) && (lk (L.getD (cut L lk) .zz) == 0)
theorem hit_iff {L : List Mp} {lk : Mp → Int} : hit L lk = true ↔ cut L lk < L.length ∧ lk (L.getD (cut L lk) .zz) = 0 := by simp [hit]
theorem fnd_hit {L : List Mp} (h : Good L) (q : Int) : fnd L q = if hit L (lkP q) = true then some (cut L (lkP q)) else none := by
  split
  · rename_i hh
    obtain ⟨h1, h2⟩ := hit_iff.1 hh
    refine fnd_of h1 ((lkP_zero (h.at h1)).1 h2) fun j hj => ?_
    have h3 := lkP_pos.1 (cut_ahead hj)
    cases e : (L.getD j .zz).has q
    · rfl
    · have := has_iff.1 e; omega
  · rename_i hh
    refine fnd_no fun j hj => ?_
    cases e : (L.getD j .zz).has q
    · rfl
    · exfalso
      have he := has_iff.1 e
      have hc : cut L (lkP q) ≤ j := by
        refine Nat.le_of_not_lt fun hlt => ?_
        have := lkP_pos.1 (cut_ahead hlt)
        omega
      refine hh (hit_iff.2 ⟨by omega, ?_⟩)
      have h0 := cut_at (L := L) (lk := lkP q) (by omega)
      rw [lkP_zero (h.at (by omega))]
      by_cases e2 : cut L (lkP q) = j
      · rw [e2]; exact e
      · have := h.two (i := cut L (lkP q)) (j := j) (by omega) hj
        have hn : ¬ 0 < lkP q (L.getD (cut L (lkP q)) .zz) := by omega
        rw [lkP_pos] at hn
        rw [has_iff]
        omega
theorem any_hit {L : List Mp} (h : Good L) {m : Mp} (hm : m.code = 0) : (L.any fun x => x.meets m) = hit L (lkM m) := by
  have hs := span_ok hm
  cases hh : hit L (lkM m)
  · rw [List.any_eq_false]
    intro x hx e
    obtain ⟨j, hj, rfl⟩ := List.mem_iff_getElem.1 hx
    rw [← mp_at hj] at e
    have he := meets_iff.1 e
    have hc : cut L (lkM m) ≤ j := by
      refine Nat.le_of_not_lt fun hlt => ?_
      have := lkM_pos.1 (cut_ahead hlt)
      omega
    have h0 := cut_at (L := L) (lk := lkM m) (by omega)
    have : hit L (lkM m) = true := by
      refine hit_iff.2 ⟨by omega, ?_⟩
      rw [lkM_zero (h.at (by omega))]
      by_cases e2 : cut L (lkM m) = j
      · rw [e2]; exact e
      · have := h.two (i := cut L (lkM m)) (j := j) (by omega) hj
        have hn : ¬ 0 < lkM m (L.getD (cut L (lkM m)) .zz) := by omega
        rw [lkM_pos] at hn
        have s1 := span_ok (h.at (i := cut L (lkM m)) (by omega))
        have s2 := span_ok (h.at hj)
        rw [meets_iff]
        omega
    rw [hh] at this
    cases this
  · obtain ⟨h1, h2⟩ := hit_iff.1 hh
    rw [List.any_eq_true]
    refine ⟨L.getD (cut L (lkM m)) .zz, by rw [mp_at h1]; exact List.getElem_mem _, (lkM_zero (h.at h1)).1 h2⟩
theorem ins_at {m : Mp} : ∀ {L : List Mp} {k : Nat}, k ≤ L.length → (∀ t, t < k → ¬ m.p < (L.getD t .zz).p) → (k < L.length → m.p < (L.getD k .zz).p) → ins m L = L.take k ++ m :: L.drop k
  | [], k, hk, _, _ => by
    have : k = 0 := by simpa using hk
    subst this
    rfl
  | x :: r, 0, _, _, h2 => by
    have : m.p < x.p := by simpa using h2 (by simp)
    simp [ins, this]
  | x :: r, k + 1, hk, h1, h2 => by
    have h0 : ¬ m.p < x.p := by simpa using h1 0 (by omega)
    have := ins_at (m := m) (L := r) (k := k) (by simpa using hk) (fun t ht => by simpa using h1 (t + 1) (by omega)) (fun h => by simpa using h2 (by simpa using h))
    simp [ins, h0, this]
theorem ins_cut {L : List Mp} (h : Good L) {m : Mp} (hh : hit L (lkM m) = false) : ins m L = L.take (cut L (lkM m)) ++ m :: L.drop (cut L (lkM m)) := by
  refine ins_at (cut_le _ _) (fun t ht => ?_) (fun hl => ?_)
  · have := lkM_pos.1 (cut_ahead ht)
    omega
  · have h0 := cut_at (L := L) (lk := lkM m) hl
    have h1 : ¬ lkM m (L.getD (cut L (lkM m)) .zz) = 0 := fun e => by
      rw [hit_iff.2 ⟨hl, e⟩] at hh; cases hh
    have h2 : ¬ 0 < lkM m (L.getD (cut L (lkM m)) .zz) := by omega
    rw [lkM_zero (h.at hl), meets_iff] at h1
    rw [lkM_pos] at h2
    have := span_ok (h.at hl)
    omega
end Pg
end Go.Proofs.Ytbkpndgadgafiac

namespace Go.Proofs.Ytbkpndgadgafiac
open Go.RowKit Go.Sort
set_option linter.unusedVariables false
set_option maxRecDepth 100000

theorem clone_any {vb : Value} {L : List Pg.Mp} (w : World) (hr : w.ownsRow 0 53 4 vb L.length (mpCells L)) (hlen : L.length ≤ 4096) :
    Calls Try.prog 79 #[vb] w fun e w' => ∃ v', e = .returned v' ∧ w'.ownsRow w.heap.size 53 4 v' L.length (mpCells L) ∧ Below w.heap.size w w' := by
  have q58 : ∀ (w : World) (a : Option Addr) (n c n' c' : Nat), (binOp .eql 41 (.slice a n c) (.slice none n' c')).run Try.prog w = .ok (.bool a.isNone) w := fun w a n c n' c' => Lib.run_eql_slice_nil w _ _ a n c n' c' Try.underlying41
  rcases hr.2 with ⟨rfl, h0⟩ | ⟨g, cap, cur, rfl, _, hg, hrest⟩
  · have hL : L = [] := List.length_eq_zero_iff.1 h0
    subst hL
    clear hr
    go_enter Try.func79, Try.ntmps79
    go_wp2_with fail
    go_ret
    exact ⟨_, rfl, World.ownsRow_nil _ _ _ _, brefl _⟩
  · obtain ⟨q0, hqi, hz0, hz1, hz2⟩ := info_parts infoMap
    have hcells : Hid _ := hr.cells (g := g) rfl
    have hgl : g < w.heap.size := (Array.getElem?_eq_some_iff.1 hg).1
    clear hr hg hrest
    go_enter Try.func79, Try.ntmps79
    go_wp2_with (at_builtin; refine wpList_append_own _ rfl _ _ 41 rfl w.heap.size 53 q0 _ 4 32 Try.underlying41 hqi hz0 hz1 hz2 rfl (by decide) _ _ _ rfl (World.ownsRow_made w #[] 0 (Nat.le_refl _) (Nat.zero_le _) (by simp)) ⟨g, 0, none⟩ L.length cap (mpCells L) rfl (mpCells_len L) ?c1 (mpCells_one' L) ?c3 ?c4 ?c5 ?_)
    case c1 =>
      intro j u hj
      have := hcells.out j u hj
      exact (Below.cell (p := (⟨g, 0, none⟩ : Addr).add j) (balloc (brefl w) _) (World.block_lt_of_cell? _ _ this)).trans this
    case c3 => unfold maxLen; omega
    case c4 => omega
    case c5 => simp
    intro v' w1 hown hgrow hnil
    have hown' : Hid (w1.ownsRow w.heap.size 53 4 v' L.length (mpCells L)) := by simpa [Hid] using hown
    have hb : Hid (Below w.heap.size w w1) := ((But.refl (fun _ => False) w).alloc _).grown hgrow (fun k hk => .inl (by simp [Value.ownBlock] at hk; omega)) |>.below (Nat.le_refl _) (fun _ h => h.elim)
    clear hown hgrow hnil
    go_wp2_with fail
    go_ret
    exact ⟨v', rfl, hown'.out, hb.out⟩

theorem isNaN_any (x : Int) (w : World) : Calls Try.prog 107 #[.int .i64 x] w fun e w' => e = .returned (.bool false) ∧ w' = w := by
  go_enter Try.func107, Try.ntmps107
  go_wp2
  go_ret
  exact ⟨ret_bool (by simp), rfl⟩
theorem compare_any (x y : Int) (w : World) : Calls Try.prog 93 #[.int .i64 x, .int .i64 y] w fun e w' => e = .returned (.int .i64 (Pg.cmpI x y)) ∧ w' = w := by
  by_cases h1 : x < y
  · have HC : Hid (Pg.cmpI x y = -1) := by simp [Hid, Pg.cmpI, h1]
    go_enter Try.func93, Try.ntmps93
    go_wp2_with (go_at_call 107; refine (isNaN_any _ _).mono ?_; rintro e w' ⟨rfl, rfl⟩)
    go_ret
    exact ⟨ret_int HC.out.symm, rfl⟩
  · by_cases h2 : y < x
    · have HC : Hid (Pg.cmpI x y = 1) := by simp [Hid, Pg.cmpI, h1, h2]
      go_enter Try.func93, Try.ntmps93
      go_wp2_with (go_at_call 107; refine (isNaN_any _ _).mono ?_; rintro e w' ⟨rfl, rfl⟩)
      go_ret
      exact ⟨ret_int HC.out.symm, rfl⟩
    · have HC : Hid (Pg.cmpI x y = 0) := by simp [Hid, Pg.cmpI, h1, h2]
      go_enter Try.func93, Try.ntmps93
      go_wp2_with (go_at_call 107; refine (isNaN_any _ _).mono ?_; rintro e w' ⟨rfl, rfl⟩)
      go_ret
      exact ⟨ret_int HC.out.symm, rfl⟩
end Go.Proofs.Ytbkpndgadgafiac

namespace Go.Proofs.Ytbkpndgadgafiac
open Go.RowKit Go.Sort
set_option linter.unusedVariables false
set_option maxRecDepth 100000

set_option maxHeartbeats 4000000 in
/-- The library's search: k places are ahead of what is sought, and what is behind them is not. -/
theorem find_any (g : FuncId) (cb : Array Value) (n k : Nat) (c : Nat → Int) (w : World) (eg : ∀ args w, (callFunc g args).run Try.prog w = .ok (.enter g args) w) (hn : n ≤ 4096) (hk : k ≤ n)
    (h1 : ∀ t, t < k → 0 < c t) (h2 : ∀ t, k ≤ t → t < n → c t ≤ 0)
    (hf : ∀ (i : Nat) (w' : World), i < n → Below w.heap.size w w' → Calls Try.prog g (#[.int .i64 i] ++ cb) w' fun e w'' => e = .returned (.int .i64 (c i)) ∧ Below w'.heap.size w' w'') :
    Calls Try.prog 105 #[.int .i64 n, .func (.func g) #[] cb] w fun e w' => e = .returned (.tuple #[.int .i64 k, .bool (decide (k < n) && (c k == 0))]) ∧ Below w.heap.size w w' := by
  have HF : Hid _ := hf
  have H1 : Hid _ := h1
  have H2 : Hid _ := h2
  clear hf h1 h2
  go_enter Try.func105, Try.ntmps105
  go_wp2_with fail
  go_loopg [4, 6] n (fun kx s4 s6 wr => ∃ lo hi : Nat, s4 = .int .i64 lo ∧ s6 = .int .i64 hi ∧ lo ≤ k ∧ k ≤ hi ∧ hi ≤ n ∧ hi - lo ≤ kx ∧ Hid (Below w.heap.size w wr))
  case atStart => exact ⟨0, n, rfl, rfl, Nat.zero_le _, hk, Nat.le_refl _, by omega, brefl w⟩
  case round =>
    obtain ⟨lo, hi, rfl, rfl, hlk, hkh, hhn, hm, HB⟩ := hrel
    by_cases hlt : lo < hi
    · have hc := HF.out ((lo + hi) / 2) wr (by omega) HB.out
      rw [show (((lo + hi) / 2 : Nat) : Int) = ((lo : Int) + (hi : Int)) / 2 by omega] at hc
      have h3 := H1.out ((lo + hi) / 2)
      have h4 := H2.out ((lo + hi) / 2)
      generalize c ((lo + hi) / 2) = x at *
      by_cases hx : 0 < x
      · have hlt2 : (lo + hi) / 2 < k := by omega
        clear h3 h4
        go_wp2_with (go_at_fn g; refine hc.mono ?_; rintro e w' ⟨rfl, hb⟩)
        go_roundg (hi - ((lo + hi) / 2 + 1))
        case measure => omega
        case rel => exact ⟨(lo + hi) / 2 + 1, hi, by rw [show ((lo : Int) + (hi : Int)) / 2 + 1 = (((lo + hi) / 2 + 1 : Nat) : Int) by omega], rfl, by omega, hkh, hhn, Nat.le_refl _, bthen HB.out hb⟩
      · have hle : k ≤ (lo + hi) / 2 := by omega
        clear h3 h4
        go_wp2_with (go_at_fn g; refine hc.mono ?_; rintro e w' ⟨rfl, hb⟩)
        go_roundg ((lo + hi) / 2 - lo)
        case measure => omega
        case rel => exact ⟨lo, (lo + hi) / 2, rfl, by rw [show ((lo : Int) + (hi : Int)) / 2 = (((lo + hi) / 2 : Nat) : Int) by omega], hlk, hle, by omega, Nat.le_refl _, bthen HB.out hb⟩
    · have e1 : lo = k := by omega
      have e2 : hi = k := by omega
      subst e1 e2
      by_cases hkn : hi < n
      · have hc := HF.out hi wr hkn HB.out
        have HE : Hid (decide (hi < n) = true) := by simp [Hid, hkn]
        go_wp2_with (go_at_fn g; refine hc.mono ?_; rintro e w' ⟨rfl, hb⟩)
        go_ret2
        exact ⟨by rw [HE.out]; rfl, bthen HB.out hb⟩
      · have HE : Hid (decide (hi < n) = false) := by simp [Hid, hkn]
        go_wp2_with fail
        go_ret2
        exact ⟨by rw [HE.out]; rfl, HB.out⟩

theorem enters_search1 : ∀ args w, (callFunc 106 args).run Try.prog w = .ok (.enter 106 args) w := fun args w => by simp [go_sem]

/-- A book of the mappings L lies at b: its row is vb. -/
structure Dbk (w : World) (b : Nat) (vb : Value) (L : List Pg.Mp) : Prop where
  c0 : w.cell? ⟨b, 0, none⟩ = some vb
  fb : ∀ o, w.frozen? ⟨b, o, none⟩ = false
  row : w.ownsRow 0 53 4 vb L.length (mpCells L)
  nb : vb.ownBlock ≠ some b
  good : Pg.Good L
namespace Dbk
variable {w w' : World} {b : Nat} {vb vb' : Value} {L L' : List Pg.Mp}
theorem lb (h : Dbk w b vb L) : b < w.heap.size := World.block_lt_of_cell? _ _ h.c0
theorem lt (h : Dbk w b vb L) {k : Nat} (hk : bkF b vb k) : k < w.heap.size := by
  rcases hk with rfl | hk
  · exact h.lb
  · exact (h.row.lt k hk).2
theorem keep (h : Dbk w b vb L) {F : Nat → Prop} (hb : But F w w') (hF : ∀ k, bkF b vb k → ¬ F k) : Dbk w' b vb L := by
  have kb := hb.block b h.lb (hF b (.inl rfl))
  exact ⟨(World.cell?_of_block kb).trans h.c0, fun o => (World.frozen?_of_block kb).trans (h.fb o), ownsMaps_but h.row hb fun k hk => hF k (.inr hk), h.nb, h.good⟩
theorem grow (h : Dbk w b vb L) (hb : Below w.heap.size w w') : Dbk w' b vb L := h.keep (F := fun _ => False) (But.of_below hb) (fun _ _ => id)
/-- The mapping at a place. -/
theorem mp (h : Dbk w b vb L) {j : Nat} (hj : j < L.length) : ∃ g cap, vb = .slice (some ⟨g, 0, none⟩) L.length cap ∧ g < w.heap.size ∧ MpAt w g (j * 4) (L.getD j .zz) := by
  obtain ⟨g, cap, rfl, _, hg⟩ := h.row.form (by omega)
  obtain ⟨g', e, _, hm⟩ := owns_mapsAt h.row j hj
  cases e
  exact ⟨g, cap, rfl, hg, hm⟩
end Dbk

set_option maxHeartbeats 4000000 in
/-- One look of a search: the mapping at the place is looked at as it was handed in. -/
theorem search1_any {b bl bb : Nat} {vb : Value} {L : List Pg.Mp} (f : FuncId) (cb : Array Value) (lk : Pg.Mp → Int) (j : Nat) (w : World) (hD : Dbk w b vb L) (hj : j < L.length)
    (hl : w.cell? ⟨bl, 0, none⟩ = some (.func (.func f) #[] cb)) (hb : w.cell? ⟨bb, 0, none⟩ = some (.pointer (some ⟨b, 0, none⟩))) (ef : ∀ args w, (callFunc f args).run Try.prog w = .ok (.enter f args) w)
    (hf : ∀ (m : Pg.Mp) (w' : World), Pg.fits m.p → Below w.heap.size w w' → Calls Try.prog f (#[m.val] ++ cb) w' fun e w'' => e = .returned (.int .i64 (lk m)) ∧ Below w'.heap.size w' w'') :
    Calls Try.prog 106 #[.int .i64 j, .pointer (some ⟨bl, 0, none⟩), .pointer (some ⟨bb, 0, none⟩)] w fun e w' => e = .returned (.int .i64 (lk (L.getD j .zz))) ∧ Below w.heap.size w w' := by
  obtain ⟨g, cap, rfl, hg, hm0, hm1, hm2, hm3⟩ := hD.mp hj
  have hc0 := hD.c0
  have hlen := hD.good.len
  have hfit := (Pg.ok_fits (hD.good.at hj)).2.2.1
  have i0 : (0 : Int) ≤ (j : Int) := by omega
  have i1 : (j : Int) < (L.length : Int) := by omega
  have HF : Hid _ := fun w' hb => hf (L.getD j .zz) w' hfit hb
  clear hf hD
  generalize L.getD j .zz = m at *
  generalize L.length = n at *
  have hcall : ∀ d os, Calls Try.prog f (#[m.val] ++ cb) (grow (redrawn w d) os) fun e w'' => e = .returned (.int .i64 (lk m)) ∧ Below (grow (redrawn w d) os).heap.size (grow (redrawn w d) os) w'' := fun d os => HF.out _ (below_regrown w d os)
  obtain ⟨mp, ms, mf, mr⟩ := m
  simp only [Pg.Mp.val] at hcall
  simp only at hm0 hm1 hm2 hm3
  generalize lk ⟨mp, ms, mf, mr⟩ = x at *
  have C0 := cell_regrown hc0
  have C1 := cell_regrown hl
  have C2 := cell_regrown hb
  have M0 := cell_regrown hm0
  have M1 := cell_regrown hm1
  have M2 := cell_regrown hm2
  have M3 := cell_regrown hm3
  clear hc0 hl hb hm0 hm1 hm2 hm3
  go_enter Try.func106, Try.ntmps106
  go_wp2_with fail
  refine wp_region_quiet_below (by kernel_rfl) (by kernel_rfl) ?_
  repeat' (first
    | go_big_quiet_step ((go_at_fn f; exact Calls.regrown_of (hcall _ _))))
  refine wpQuiet_nil ?_
  intro _ hw'
  obtain ⟨⟨dq, osq⟩, rfl⟩ := hw'
  go_wp2_with fail
  go_ret
  exact ⟨rfl, below_regrown w dq osq⟩

set_option maxHeartbeats 4000000 in
/-- A search of a book, by a look that is handed in: k mappings are ahead of what is sought, and those behind them are not. -/
theorem search_any {b : Nat} {vb : Value} {L : List Pg.Mp} (f : FuncId) (cb : Array Value) (lk : Pg.Mp → Int) (w : World) (hD : Dbk w b vb L) (hfall : Pg.Falls L lk) (ef : ∀ args w, (callFunc f args).run Try.prog w = .ok (.enter f args) w)
    (hf : ∀ (m : Pg.Mp) (w' : World), Pg.fits m.p → Below w.heap.size w w' → Calls Try.prog f (#[m.val] ++ cb) w' fun e w'' => e = .returned (.int .i64 (lk m)) ∧ Below w'.heap.size w' w'') :
    Calls Try.prog 90 #[.pointer (some ⟨b, 0, none⟩), .func (.func f) #[] cb] w fun e w' => e = .returned (.tuple #[.int .i64 (Pg.cut L lk), .bool (Pg.hit L lk)]) ∧ Below w.heap.size w w' := by
  have hc0 := hD.c0
  have hlb := hD.lb
  have hlen := hD.good.len
  obtain ⟨ad, cap, rfl⟩ := ownsMaps_form hD.row
  obtain ⟨W, hW⟩ : ∃ W, W = (w.alloc (.cells #[.pointer (some ⟨b, 0, none⟩)] 76)).alloc (.cells #[.func (.func f) #[] cb] 78) := ⟨_, rfl⟩
  have hB : Below w.heap.size w W := by rw [hW]; exact balloc (balloc (brefl _) _) _
  have k0 : W.cell? ⟨b, 0, none⟩ = some (.slice ad L.length cap) := (hB.cell (p := ⟨b, 0, none⟩) hlb).trans hc0
  have k1 : W.cell? ⟨w.heap.size, 0, none⟩ = some (.pointer (some ⟨b, 0, none⟩)) := by rw [hW]; simp [go_sem]
  have k2 : W.cell? ⟨w.heap.size + 1, 0, none⟩ = some (.func (.func f) #[] cb) := by rw [hW]; simp [go_sem]
  have hDW := hD.grow hB
  have HS : Hid _ := find_any 106 #[.pointer (some ⟨w.heap.size + 1, 0, none⟩), .pointer (some ⟨w.heap.size, 0, none⟩)] L.length (Pg.cut L lk) (fun j => lk (L.getD j .zz)) W enters_search1 hlen (Pg.cut_le _ _) (fun t ht => Pg.cut_ahead ht) (fun t h1 h2 => Pg.cut_behind hfall h1 h2)
    (fun i w' hi hb => search1_any f cb lk i w' (hDW.grow hb) hi (cell_later hb k2) (cell_later hb k1) ef (fun m w'' hm hb' => hf m w'' hm (bthen (bthen hB hb) hb')))
  have HB : Hid _ := hB
  clear hf hfall hD hDW hB k0 k1 k2
  go_enter Try.func90, Try.ntmps90
  go_wp2_with fail
  rw [← hW]
  refine Calls.mono HS.out ?_
  rintro e w1 ⟨rfl, hb1⟩
  go_wp2_with fail
  go_ret2
  exact ⟨rfl, bthen HB.out hb1⟩

theorem having1_any {bq : Nat} (q : Int) (hq : Pg.fits q) (m : Pg.Mp) (hm : Pg.fits m.p) (w : World) (hc : w.cell? ⟨bq, 0, none⟩ = some (.int .i64 q)) :
    Calls Try.prog 96 #[m.val, .pointer (some ⟨bq, 0, none⟩)] w fun e w' => e = .returned (.int .i64 (Pg.lkP q m)) ∧ Below w.heap.size w w' := by
  obtain ⟨p, s, f, r⟩ := m
  have hbq := World.block_lt_of_cell? _ _ hc
  have HL : Hid (Pg.lkP q ⟨p, s, f, r⟩ = if Pg.over p s q = true then 0 else Pg.cmpI q p) := rfl
  simp only [Pg.Mp.val]
  cases h : Pg.over p s q
  · go_enter Try.func96, Try.ntmps96
    go_wp2_with fail
    refine (over_any _ _ _ _ _ hm hq _).mono ?_
    rintro e w1 ⟨rfl, hb1⟩
    rw [h]
    have hbx : Below w.heap.size w w1 := bthen (balloc (brefl _) _) hb1
    have c1 := cell_later hbx hc
    have c2 : w1.cell? ⟨w.heap.size, 0, none⟩ = some (.int .i64 p) := (hb1.cell (p := ⟨w.heap.size, 0, none⟩) (by simp)).trans (by simp [go_sem])
    have HB : Hid _ := hbx
    clear hb1 hbx
    go_wp2_with (go_at_call 93; refine (compare_any _ _ _).mono ?_; rintro e w' ⟨rfl, rfl⟩)
    go_ret
    exact ⟨ret_int (by rw [HL.out, h]; rfl), HB.out⟩
  · go_enter Try.func96, Try.ntmps96
    go_wp2_with fail
    refine (over_any _ _ _ _ _ hm hq _).mono ?_
    rintro e w1 ⟨rfl, hb1⟩
    rw [h]
    have HB : Hid (Below w.heap.size w w1) := bthen (balloc (brefl _) _) hb1
    clear hb1
    go_wp2_with fail
    go_ret
    exact ⟨ret_int (by rw [HL.out, h]; rfl), HB.out⟩

theorem meeting1_any {bm : Nat} (m x : Pg.Mp) (hm : Pg.fits m.p) (hx : Pg.fits x.p) (w : World) (hc : MpAt w bm 0 m) :
    Calls Try.prog 91 #[x.val, .pointer (some ⟨bm, 0, none⟩)] w fun e w' => e = .returned (.int .i64 (Pg.lkM m x)) ∧ Below w.heap.size w w' := by
  obtain ⟨p, s, f, r⟩ := x
  obtain ⟨p', s', f', r'⟩ := m
  obtain ⟨c0, c1, c2, c3⟩ := hc
  simp only [Nat.zero_add] at c0 c1 c2 c3
  have hbq := World.block_lt_of_cell? _ _ c0
  have HL : Hid (Pg.lkM ⟨p', s', f', r'⟩ ⟨p, s, f, r⟩ = if Pg.meet p s p' s' = true then 0 else Pg.cmpI p' p) := rfl
  simp only [Pg.Mp.val]
  cases h : Pg.meet p s p' s'
  · go_enter Try.func91, Try.ntmps91
    go_wp2_with fail
    refine (meet_any _ _ _ _ _ _ _ _ hx hm _).mono ?_
    rintro e w1 ⟨rfl, hb1⟩
    rw [h]
    have hbx : Below w.heap.size w w1 := bthen (balloc (brefl _) _) hb1
    have c1 := cell_later hbx c0
    have c2 : w1.cell? ⟨w.heap.size, 0, none⟩ = some (.int .i64 p) := (hb1.cell (p := ⟨w.heap.size, 0, none⟩) (by simp)).trans (by simp [go_sem])
    have HB : Hid _ := hbx
    clear hb1 hbx
    go_wp2_with (go_at_call 93; refine (compare_any _ _ _).mono ?_; rintro e w' ⟨rfl, rfl⟩)
    go_ret
    exact ⟨ret_int (by rw [HL.out, h]; rfl), HB.out⟩
  · go_enter Try.func91, Try.ntmps91
    go_wp2_with fail
    refine (meet_any _ _ _ _ _ _ _ _ hx hm _).mono ?_
    rintro e w1 ⟨rfl, hb1⟩
    rw [h]
    have HB : Hid (Below w.heap.size w w1) := bthen (balloc (brefl _) _) hb1
    clear hb1
    go_wp2_with fail
    go_ret
    exact ⟨ret_int (by rw [HL.out, h]; rfl), HB.out⟩

theorem having_any {b : Nat} {vb : Value} {L : List Pg.Mp} (q : Int) (hq : Pg.fits q) (w : World) (hD : Dbk w b vb L) :
    Calls Try.prog 77 #[.pointer (some ⟨b, 0, none⟩), .int .i64 q] w fun e w' => e = .returned (.tuple #[.int .i64 (Pg.cut L (Pg.lkP q)), .bool (Pg.hit L (Pg.lkP q))]) ∧ Below w.heap.size w w' := by
  obtain ⟨W, hW⟩ : ∃ W, W = w.alloc (.cells #[.int .i64 q] 3) := ⟨_, rfl⟩
  have hB : Below w.heap.size w W := by rw [hW]; exact balloc (brefl _) _
  have k1 : W.cell? ⟨w.heap.size, 0, none⟩ = some (.int .i64 q) := by rw [hW]; simp [go_sem]
  have HS : Hid _ := search_any 96 #[.pointer (some ⟨w.heap.size, 0, none⟩)] (Pg.lkP q) W (hD.grow hB) (hD.good.fallsP q) (fun args w => by simp [go_sem]) (fun m w' hm hb => having1_any q hq m hm w' (cell_later hb k1))
  have HB : Hid _ := hB
  clear hD hB k1
  go_enter Try.func77, Try.ntmps77
  go_wp2_with fail
  rw [← hW]
  refine Calls.mono HS.out ?_
  rintro e w1 ⟨rfl, hb1⟩
  go_wp2_with fail
  go_ret2
  exact ⟨rfl, bthen HB.out hb1⟩

theorem meeting_any {b : Nat} {vb : Value} {L : List Pg.Mp} (m : Pg.Mp) (hm : Pg.fits m.p) (w : World) (hD : Dbk w b vb L) :
    Calls Try.prog 75 #[.pointer (some ⟨b, 0, none⟩), m.val] w fun e w' => e = .returned (.tuple #[.int .i64 (Pg.cut L (Pg.lkM m)), .bool (Pg.hit L (Pg.lkM m))]) ∧ Below w.heap.size w w' := by
  obtain ⟨W, hW⟩ : ∃ W, W = w.alloc (.cells #[.int .i64 m.p, .int .i64 m.s, .int .i64 m.f, .int .i64 m.r] 53) := ⟨_, rfl⟩
  have hB : Below w.heap.size w W := by rw [hW]; exact balloc (brefl _) _
  have k1 : MpAt W w.heap.size 0 m := by rw [hW]; exact ⟨by simp [go_sem], by simp [go_sem], by simp [go_sem], by simp [go_sem]⟩
  have hlt : w.heap.size < W.heap.size := by rw [hW]; simp
  have HS : Hid _ := search_any 91 #[.pointer (some ⟨w.heap.size, 0, none⟩)] (Pg.lkM m) W (hD.grow hB) (hD.good.fallsM m) (fun args w => by simp [go_sem]) (fun x w' hx hb => meeting1_any m x hm hx w' (k1.below hb hlt))
  have HB : Hid _ := hB
  clear hD hB k1
  obtain ⟨mp, ms, mf, mr⟩ := m
  simp only [Pg.Mp.val]
  simp only at hW
  go_enter Try.func75, Try.ntmps75
  go_wp2_with fail
  rw [← hW]
  refine Calls.mono HS.out ?_
  rintro e w1 ⟨rfl, hb1⟩
  go_wp2_with fail
  go_ret2
  exact ⟨rfl, bthen HB.out hb1⟩
end Go.Proofs.Ytbkpndgadgafiac

namespace Go.Proofs.Ytbkpndgadgafiac
open Go.RowKit Go.Sort
set_option linter.unusedVariables false
set_option maxRecDepth 100000

theorem sizeMap : ∀ w, (Go.sizeOf 53).run Try.prog w = .ok 4 w := fun w => by
  obtain ⟨q0, hqi, hz0, hz1, hz2⟩ := info_parts infoMap
  simp [sizeOf, typeInfo, hqi, hz1]

set_option maxHeartbeats 4000000 in
/-- One more behind all. -/
theorem insertEnd_any {vb : Value} {n V : Nat} {xs : List Value} {a0 a1 a2 a3 : Value} {tV : TypeId} (w : World) (hr : w.ownsRow 0 53 4 vb n xs) (hn : n ≤ 4096)
    (hV : w.heap[V]? = some (.cells #[a0, a1, a2, a3] tV)) (h1 : ∀ u, u ∈ [a0, a1, a2, a3] → u.oneCell' = true) :
    Calls Try.prog 76 #[vb, .int .i64 n, .slice (some ⟨V, 0, none⟩) 1 1] w fun e w' => ∃ v', e = .returned v' ∧ w'.ownsRow 0 53 4 v' (n + 1) (xs ++ [a0, a1, a2, a3]) ∧ But (fun j => vb.ownBlock = some j) w w' ∧ ∀ j, v'.ownBlock = some j → vb.ownBlock = some j ∨ w.heap.size ≤ j := by
  obtain ⟨q0, hqi, hz0, hz1, hz2⟩ := info_parts infoMap
  have hnews := World.news_of_block hV
  have HN : Hid _ := hnews
  obtain ⟨ad, cap, hv⟩ := ownsMaps_form hr
  have hcap : n ≤ cap ∧ cap ≤ 9223372036854775807 := by
    rcases hr.2 with ⟨e, e0⟩ | ⟨g, cap', cur, e, _, _, hc1, hc2, _⟩
    · rw [hv] at e; cases e; exact ⟨Nat.le_refl _, by omega⟩
    · rw [hv] at e; cases e; unfold maxLen at hc2; exact ⟨hc1, by omega⟩
  obtain ⟨hcap1, hcap2⟩ := hcap
  have HR : Hid _ := hr
  clear hr hV hnews
  subst hv
  have Fin : ∀ {g cap' : Nat} {w1 : World}, w1.ownsRow 0 53 4 (.slice (some ⟨g, 0, none⟩) (n + 1) cap') (n + 1) (xs ++ [a0, a1, a2, a3]) → w.grownBy w1 (Value.slice ad n cap).ownBlock → ((Value.slice ad n cap).ownBlock = some g ∨ g = w.heap.size) →
      ∃ v', Ending.returned (.slice (some ⟨g, 0, none⟩) (n + 1) cap') = .returned v' ∧ w1.ownsRow 0 53 4 v' (n + 1) (xs ++ [a0, a1, a2, a3]) ∧ But (fun j => (Value.slice ad n cap).ownBlock = some j) w w1 ∧ ∀ j, v'.ownBlock = some j → (Value.slice ad n cap).ownBlock = some j ∨ w.heap.size ≤ j := by
    intro g cap' w1 h1 h2 hat
    refine ⟨_, rfl, h1, (But.refl _ w).grown h2 (fun j hj => .inr hj), fun j hj => ?_⟩
    simp only [Value.ownBlock, Option.some.injEq] at hj
    subst hj
    rcases hat with h | h
    · exact .inl h
    · exact .inr (by omega)
  have FIN : Hid _ := @Fin
  clear Fin
  by_cases hcn : cap = n
  · subst hcn
    go_enter Try.func76, Try.ntmps76
    go_wp2_with (at_builtin; refine wpList_append_lies _ rfl _ _ 41 rfl 0 53 q0 _ 4 32 Try.underlying41 hqi hz0 hz1 hz2 rfl (by decide) _ _ _ rfl HR.out ⟨V, 0, none⟩ 1 1 [a0, a1, a2, a3] rfl rfl HN.out h1 (by decide) ?c3 ?c4 (Nat.zero_le _) w.heap.size rfl ?_)
    case c3 => unfold maxLen; omega
    case c4 => omega
    intro g cap' w1 hown hgrow hat hlt
    have H1 : Hid _ := FIN.out hown hgrow hat
    clear hown hgrow hat hlt
    go_wp2_with fail
    go_ret
    exact H1.out
  · have hcn' : ¬ (n = cap) := fun e => hcn e.symm
    go_enter Try.func76, Try.ntmps76
    go_wp2_with (at_builtin; refine wpList_append_lies _ rfl _ _ 41 rfl 0 53 q0 _ 4 32 Try.underlying41 hqi hz0 hz1 hz2 rfl (by decide) _ _ _ rfl HR.out ⟨V, 0, none⟩ 1 1 [a0, a1, a2, a3] rfl rfl HN.out h1 (by decide) ?d3 ?d4 (Nat.zero_le _) w.heap.size rfl ?_)
    case d3 => unfold maxLen; omega
    case d4 => omega
    intro g cap' w1 hown hgrow hat hlt
    have H1 : Hid _ := FIN.out hown hgrow hat
    clear hown hgrow hat hlt
    go_wp2_with fail
    go_ret
    exact H1.out

set_option maxHeartbeats 4000000 in
/-- One more within, where there is room: in place. -/
theorem insertRoom_any {g cap n k V : Nat} {cur : Array Value} {xs : List Value} {a0 a1 a2 a3 : Value} {tV : TypeId} (w : World) (hg : w.heap[g]? = some (.cells cur 53 (0, 0))) (hn : n ≤ 4096) (hk : k < n) (hroom : n + 1 ≤ cap) (hcap : cap ≤ 9223372036854775807)
    (hcs : cur.size = cap * 4) (hx : cur.toList.take (n * 4) = xs) (h1x : ∀ u, u ∈ xs → u.oneCell' = true)
    (hV : w.heap[V]? = some (.cells #[a0, a1, a2, a3] tV)) (hgV : V ≠ g) (h1 : ∀ u, u ∈ [a0, a1, a2, a3] → u.oneCell' = true) :
    Calls Try.prog 76 #[.slice (some ⟨g, 0, none⟩) n cap, .int .i64 k, .slice (some ⟨V, 0, none⟩) 1 1] w fun e w' => e = .returned (.slice (some ⟨g, 0, none⟩) (n + 1) cap) ∧
      w'.ownsRow 0 53 4 (.slice (some ⟨g, 0, none⟩) (n + 1) cap) (n + 1) (xs.take (k * 4) ++ [a0, a1, a2, a3] ++ xs.drop (k * 4)) ∧ But (fun j => j = g) w w' := by
  have hsz : (Try.prog.info? 53).map (·.size) = some 4 := by
    obtain ⟨q0, hqi, hz0, hz1, hz2⟩ := info_parts infoMap
    rw [hqi]; simp [hz1]
  have hxl : xs.length = n * 4 := by rw [← hx, List.length_take, Array.length_toList, hcs]; omega
  have hov : ∀ lb cb o, (callFunc 94 #[.slice (some ⟨V, 0, none⟩) 1 1, .slice (some ⟨g, o, none⟩) lb cb]).run Try.prog w = .ok (.value (.bool false)) w := fun lb cb o => by
    have hs1 : w.shape? V = some (tV, 4) := by simp [World.shape?, hV]
    have hs2 : w.shape? g = some (53, cur.size) := by simp [World.shape?, hg]
    have hf1 : w.frozen? ⟨V, 0, none⟩ = false := by simp [World.frozen?, hV]
    have hf2 : w.frozen? ⟨V, 4, none⟩ = false := by simp [World.frozen?, hV]
    rw [run_callFunc_extern Try.func94 (by kernel_rfl) (by kernel_rfl) (by kernel_rfl) (e := Extern.SlicesOverlaps.overlaps #[41, 41] #[4]) (by kernel_rfl),
      Lib.run_overlaps_apart w 41 4 53 Try.underlying41 4 sizeMap ⟨V, 0, none⟩ ⟨g, o, none⟩ 1 1 lb cb hgV tV 53 4 cur.size hs1 hs2 (by omega) hf1 hf2]
    rfl
  have hz2 : ¬ ((k : Int) = (n : Int)) := by omega
  have hw1 : IntKind.i64.wrap ((k : Int) + 1) = (k : Int) + 1 := by rw [IntKind.wrap_i64]; omega
  have htn : ((k : Int) + 1).toNat = k + 1 := by omega
  have hb1 : (0 : Int) ≤ (k : Int) + 1 := by omega
  have hb2 : ¬ (cap = k + 1) := by omega
  have hb4 : ¬ (cap = k) := by omega
  have hkn : k ≤ n := by omega
  have hb3 : (k : Int) ≤ (n : Int) + 1 := by omega
  have hdl : (xs.drop (k * 4)).length = (n - k) * 4 := by rw [List.length_drop, hxl]; omega
  have hcx : ∀ j u, xs[j]? = some u → w.cell? ⟨g, j, none⟩ = some u := fun j u hu => by
    rw [cell_of_row w g j cur _ _ hg]
    rw [← hx, List.getElem?_take] at hu
    split at hu
    · simpa using hu
    · cases hu
  obtain ⟨C1, hC1⟩ : ∃ C1 : List Value, C1 = cur.toList.take ((k + 1) * 4) ++ xs.drop (k * 4) ++ cur.toList.drop ((k + 1) * 4 + (xs.drop (k * 4)).length) := ⟨_, rfl⟩
  have hC1l : C1.length = cap * 4 := by rw [hC1]; simp only [List.length_append, List.length_take, List.length_drop, Array.length_toList, hcs, hxl]; omega
  obtain ⟨W1, hW1⟩ : ∃ W1, W1 = w.drew.setRow g C1.toArray := ⟨_, rfl⟩
  have hcp1 : ∀ ty o o' dl dc sl sc, o = (k + 1) * 4 → o' = k * 4 → dl = n - k → sl = n + 1 - k → (Builtin.copy_ #[41, 41] ty #[.slice (some ⟨g, o, none⟩) dl dc, .slice (some ⟨g, o', none⟩) sl sc]).run Try.prog w.drew = .ok (goInt (n - k : Nat)) W1 := by
    intro ty o o' dl dc sl sc e1 e2 e3 e4
    subst e1 e2 e3 e4
    have hm : Nat.min (n + 1 - k) (n - k) = n - k := Nat.min_eq_right (by omega)
    have := run_copy_wide (P := Try.prog) w.drew 41 41 ty 53 4 g ((k + 1) * 4) (n - k) dc ⟨g, k * 4, none⟩ (n + 1 - k) sc cur 53 (xs.drop (k * 4)) Try.underlying41 hsz hg (by rw [hm, hdl])
      (fun j u hj => by rw [Addr.add_lit]; exact hcx (k * 4 + j) u (by rwa [List.getElem?_drop] at hj)) (by rw [hdl, hcs]; omega) (fun u hu => h1x u (List.mem_of_mem_drop hu))
    rw [hm, ← hC1, ← hW1] at this
    exact this
  have hg1 : W1.heap[g]? = some (.cells C1.toArray 53 (0, 0)) := by rw [hW1]; exact setRow_heap w.drew g cur _ _ _ hg
  have hV1 : W1.heap[V]? = some (.cells #[a0, a1, a2, a3] tV) := by rw [hW1, setRow_other _ _ _ _ hgV]; exact hV
  have hB1 : But (fun j => j = g) w W1 := by rw [hW1]; exact (But.refl (fun j => j = g) w).drew.setRow (.inr rfl) _
  obtain ⟨W2, hW2⟩ : ∃ W2, W2 = W1.setRow g (C1.take (k * 4) ++ [a0, a1, a2, a3] ++ C1.drop (k * 4 + 4)).toArray := ⟨_, rfl⟩
  have hcp2 : ∀ ty o dl dc, o = k * 4 → dl = n + 1 - k → (Builtin.copy_ #[41, 41] ty #[.slice (some ⟨g, o, none⟩) dl dc, .slice (some ⟨V, 0, none⟩) 1 1]).run Try.prog W1 = .ok (goInt 1) W2 := by
    intro ty o dl dc e1 e2
    subst e1 e2
    have hm : Nat.min 1 (n + 1 - k) = 1 := Nat.min_eq_left (by omega)
    have := run_copy_wide (P := Try.prog) W1 41 41 ty 53 4 g (k * 4) (n + 1 - k) dc ⟨V, 0, none⟩ 1 1 C1.toArray 53 [a0, a1, a2, a3] Try.underlying41 hsz hg1 (by rw [hm]; rfl)
      (World.news_of_block hV1) (by simp [hC1l]; omega) h1
    rw [hm] at this
    rw [this, hW2]
    rfl
  have hg2 : W2.heap[g]? = some (.cells (C1.take (k * 4) ++ [a0, a1, a2, a3] ++ C1.drop (k * 4 + 4)).toArray 53 (0, 0)) := by rw [hW2]; exact setRow_heap W1 g _ _ _ _ hg1
  have HB : Hid (But (fun j => j = g) w W2) := by rw [hW2]; exact hB1.setRow (.inr rfl) _
  have HO : Hid (W2.ownsRow 0 53 4 (.slice (some ⟨g, 0, none⟩) (n + 1) cap) (n + 1) (xs.take (k * 4) ++ [a0, a1, a2, a3] ++ xs.drop (k * 4))) := by
    have e := row_opened (c := cur.toList) (xs := xs) (news := [a0, a1, a2, a3]) (z := 4) (n := n) (k := k) hkn (by rw [Array.length_toList, hcs]; omega) hx rfl
    simp only [← hC1] at e
    refine ⟨by rw [← e]; simp only [List.length_take, List.length_append, List.length_drop, hC1l, List.length_cons, List.length_nil]; omega, .inr ⟨g, cap, _, rfl, Nat.zero_le _, hg2, hroom, by unfold maxLen; omega, ?_, ?_⟩⟩
    · simp only [List.size_toArray, List.length_take, List.length_append, List.length_drop, hC1l, List.length_cons, List.length_nil]; omega
    · exact e
  clear hg hx h1x hV h1 hcx hC1 hC1l hW1 hg1 hV1 hB1 hW2 hg2 hcs hxl hdl
  go_enter Try.func76, Try.ntmps76
  go_wp2_with (simp only [hov])
  go_region_law (refine step_copy_known rfl _ _ 41 41 rfl _ _ (by simp [Act.eval, Act.put]) (by simp [Act.eval, Act.put]) (hcp1 _ _ _ _ _ _ _ (by omega) (by omega) (by omega) (by omega)) ?_)
  go_wp2_with (at_builtin; refine wpList_copy_known _ rfl _ _ 41 41 rfl _ _ rfl rfl (hcp2 _ _ _ _ (by omega) (by omega)) ?_)
  go_ret
  exact ⟨rfl, HO.out, HB.out⟩

set_option maxHeartbeats 4000000 in
/-- One more within, where there is no room: a new row. -/
theorem insertGrow_any {g cap n k V : Nat} {cur : Array Value} {xs : List Value} {a0 a1 a2 a3 : Value} {tV : TypeId} (w : World) (hg : w.heap[g]? = some (.cells cur 53 (0, 0))) (hn : n ≤ 4096) (hk : k < n) (hroom : cap < n + 1) (hcap : n ≤ cap)
    (hcs : cur.size = cap * 4) (hx : cur.toList.take (n * 4) = xs) (h1x : ∀ u, u ∈ xs → u.oneCell' = true)
    (hV : w.heap[V]? = some (.cells #[a0, a1, a2, a3] tV)) (h1 : ∀ u, u ∈ [a0, a1, a2, a3] → u.oneCell' = true) :
    Calls Try.prog 76 #[.slice (some ⟨g, 0, none⟩) n cap, .int .i64 k, .slice (some ⟨V, 0, none⟩) 1 1] w fun e w' => ∃ G, e = .returned (.slice (some ⟨w.heap.size, 0, none⟩) (n + 1) G) ∧
      w'.ownsRow 0 53 4 (.slice (some ⟨w.heap.size, 0, none⟩) (n + 1) G) (n + 1) (xs.take (k * 4) ++ [a0, a1, a2, a3] ++ xs.drop (k * 4)) ∧ But (fun j => j = g) w w' := by
  obtain ⟨q0, hqi, hz0, hzz1, hzz2⟩ := info_parts infoMap
  have hsz : (Try.prog.info? 53).map (·.size) = some 4 := by rw [hqi]; simp [hzz1]
  have hcn : cap = n := by omega
  subst hcn
  have hxl : xs.length = cap * 4 := by rw [← hx, List.length_take, Array.length_toList, hcs]; omega
  have hgw : g < w.heap.size := (Array.getElem?_eq_some_iff.1 hg).1
  have hVw : V < w.heap.size := (Array.getElem?_eq_some_iff.1 hV).1
  have hz2 : ¬ ((k : Int) = (cap : Int)) := by omega
  have hw1 : IntKind.i64.wrap ((k : Int) + 1) = (k : Int) + 1 := by rw [IntKind.wrap_i64]; omega
  have htn : ((k : Int) + 1).toNat = k + 1 := by omega
  have hb1 : (0 : Int) ≤ (k : Int) + 1 := by omega
  have hb4 : ¬ (cap = k) := by omega
  have hkn : k ≤ cap := by omega
  have hb3 : (k : Int) ≤ (cap : Int) + 1 := by omega
  have hb5 : (k : Int) ≤ (cap : Int) := by omega
  have hdl : (xs.drop (k * 4)).length = (cap - k) * 4 := by rw [List.length_drop, hxl]; omega
  have hcx : ∀ j u, xs[j]? = some u → w.cell? ⟨g, j, none⟩ = some u := fun j u hu => by
    rw [cell_of_row w g j cur _ _ hg]
    rw [← hx, List.getElem?_take] at hu
    split at hu
    · simpa using hu
    · cases hu
  obtain ⟨G, hG⟩ : ∃ G, G = grownCap w (cap + 1) cap 53 := ⟨_, rfl⟩
  have hG1 : cap + 1 ≤ G := by rw [hG]; exact grownCap_ge w _ _ _
  have hG2 : G ≤ 9223372036854775807 := by
    have := grownCap_le_maxLen w (cap + 1) cap 53 (by unfold maxLen; omega)
    rw [← hG] at this
    unfold maxLen at this
    omega
  obtain ⟨ROW, hROW⟩ : ∃ ROW : Array Value, ROW = (xs.take (k * 4)).toArray ++ Builtin.zeroCells (Value.agg #[.int .i64 0, .int .i64 0, .int .i64 0, .int .i64 0]).cells (cap + 1 - k) ++ Builtin.zeroCells (Value.agg #[.int .i64 0, .int .i64 0, .int .i64 0, .int .i64 0]).cells (G - (cap + 1)) := ⟨_, rfl⟩
  have hzc : (Value.agg #[.int .i64 0, .int .i64 0, .int .i64 0, .int .i64 0]).cells.size = 4 := rfl
  have hRs : ROW.size = G * 4 := by
    rw [hROW]
    simp only [Array.size_append, size_zeroCells, hzc, List.size_toArray, List.length_take, hxl]
    omega
  have hRt : ROW.toList.take (k * 4) = xs.take (k * 4) := by
    rw [hROW]
    simp only [Array.toList_append, List.append_assoc]
    rw [List.take_append_of_le_length (by simp only [List.length_take, hxl]; omega), List.take_of_length_le (by simp only [List.length_take]; omega)]
  obtain ⟨W1, hW1⟩ : ∃ W1, W1 = w.drew.alloc (.cells ROW 53) := ⟨_, rfl⟩
  have hold : (Builtin.firstCells q0.size k (.slice (some ⟨g, 0, none⟩) k cap)).run Try.prog w.drew = .ok (xs.take (k * 4)).toArray w.drew := by
    rw [hzz1]
    exact run_firstCells_some w.drew 4 k ⟨g, 0, none⟩ k cap (xs.take (k * 4)) (by rw [List.length_take]; omega) (fun j v hj => by
      rw [Addr.add_lit, Nat.zero_add]
      rw [List.getElem?_take] at hj
      split at hj
      · exact hcx j v hj
      · cases hj)
  have hik : k + (cap + 1 - k) = cap + 1 := by omega
  have hrz : ∀ ty N, N = ((cap + 1 - k : Nat) : Int) → (Builtin.append_ #[41, 3] ty #[.slice (some ⟨g, 0, none⟩) k cap, .int .i64 N]).run Try.prog w = .ok (.slice (some ⟨w.heap.size, 0, none⟩) (cap + 1) G) W1 := by
    intro ty N hN
    have h := Lib.run_append_grow_zeros w 41 3 ty 53 q0 _ .i64 .i64 Try.underlying41 Try.underlying3 hqi hz0 (some ⟨g, 0, none⟩) k cap (xs.take (k * 4)) hold (cap + 1 - k) (by omega) (by omega) (by omega) (by omega) (by rw [hzz2]; omega) (by rw [hzz2, hik]; exact growslice_fits hroom (by omega))
    rw [hik, ← hG, ← hROW, ← hW1] at h
    rw [hN]
    exact h
  have hg1 : W1.heap[w.heap.size]? = some (.cells ROW 53 (0, 0)) := by rw [hW1]; exact heap_alloc_new w.drew _
  have hV1 : W1.heap[V]? = some (.cells #[a0, a1, a2, a3] tV) := by rw [hW1, Below.heap_alloc w.drew _ _ hVw]; exact hV
  have ho1 : W1.heap[g]? = some (.cells cur 53 (0, 0)) := by rw [hW1, Below.heap_alloc w.drew _ _ hgw]; exact hg
  have hB1 : But (fun j => j = g) w W1 := by rw [hW1]; exact (But.refl (fun j => j = g) w).drew.alloc _
  obtain ⟨C1, hC1⟩ : ∃ C1 : List Value, C1 = ROW.toList.take (k * 4) ++ [a0, a1, a2, a3] ++ ROW.toList.drop (k * 4 + 4) := ⟨_, rfl⟩
  have hC1l : C1.length = G * 4 := by rw [hC1]; simp only [List.length_append, List.length_take, List.length_drop, Array.length_toList, hRs, List.length_cons, List.length_nil]; omega
  obtain ⟨W2, hW2⟩ : ∃ W2, W2 = W1.setRow w.heap.size C1.toArray := ⟨_, rfl⟩
  have hcp1 : ∀ ty o dl dc, o = k * 4 → dl = cap + 1 - k → (Builtin.copy_ #[41, 41] ty #[.slice (some ⟨w.heap.size, o, none⟩) dl dc, .slice (some ⟨V, 0, none⟩) 1 1]).run Try.prog W1 = .ok (goInt 1) W2 := by
    intro ty o dl dc e1 e2
    subst e1 e2
    have hm : Nat.min 1 (cap + 1 - k) = 1 := Nat.min_eq_left (by omega)
    have := run_copy_wide (P := Try.prog) W1 41 41 ty 53 4 w.heap.size (k * 4) (cap + 1 - k) dc ⟨V, 0, none⟩ 1 1 ROW 53 [a0, a1, a2, a3] Try.underlying41 hsz hg1 (by rw [hm]; rfl)
      (World.news_of_block hV1) (by simp [hRs]; omega) h1
    rw [hm] at this
    rw [this, hW2, hC1]
    rfl
  have hg2 : W2.heap[w.heap.size]? = some (.cells C1.toArray 53 (0, 0)) := by rw [hW2]; exact setRow_heap W1 w.heap.size _ _ _ _ hg1
  have ho2 : W2.heap[g]? = some (.cells cur 53 (0, 0)) := by rw [hW2, setRow_other _ _ _ _ (by omega)]; exact ho1
  have hB2 : But (fun j => j = g) w W2 := by rw [hW2]; exact hB1.setRow (.inl (Nat.le_refl _)) _
  have hcx2 : ∀ j u, xs[j]? = some u → W2.drew.cell? ⟨g, j, none⟩ = some u := fun j u hu => by
    rw [cell_of_row W2.drew g j cur _ _ ho2, ← cell_of_row w g j cur _ _ hg]
    exact hcx j u hu
  obtain ⟨W3, hW3⟩ : ∃ W3, W3 = W2.drew.setRow w.heap.size (C1.take ((k + 1) * 4) ++ xs.drop (k * 4) ++ C1.drop ((k + 1) * 4 + (xs.drop (k * 4)).length)).toArray := ⟨_, rfl⟩
  have hcp2 : ∀ ty o o' dl dc sl sc, o = (k + 1) * 4 → o' = k * 4 → dl = cap - k → sl = cap - k → (Builtin.copy_ #[41, 41] ty #[.slice (some ⟨w.heap.size, o, none⟩) dl dc, .slice (some ⟨g, o', none⟩) sl sc]).run Try.prog W2.drew = .ok (goInt (cap - k : Nat)) W3 := by
    intro ty o o' dl dc sl sc e1 e2 e3 e4
    subst e1 e2 e3 e4
    have hm : Nat.min (cap - k) (cap - k) = cap - k := Nat.min_self _
    have := run_copy_wide (P := Try.prog) W2.drew 41 41 ty 53 4 w.heap.size ((k + 1) * 4) (cap - k) dc ⟨g, k * 4, none⟩ (cap - k) sc C1.toArray 53 (xs.drop (k * 4)) Try.underlying41 hsz hg2 (by rw [hm, hdl])
      (fun j u hj => by rw [Addr.add_lit]; exact hcx2 (k * 4 + j) u (by rwa [List.getElem?_drop] at hj)) (by simp only [List.size_toArray, hdl, hC1l]; omega) (fun u hu => h1x u (List.mem_of_mem_drop hu))
    rw [hm] at this
    rw [this, hW3]
  have hg3 : W3.heap[w.heap.size]? = some (.cells (C1.take ((k + 1) * 4) ++ xs.drop (k * 4) ++ C1.drop ((k + 1) * 4 + (xs.drop (k * 4)).length)).toArray 53 (0, 0)) := by rw [hW3]; exact setRow_heap W2.drew w.heap.size _ _ _ _ hg2
  have HB : Hid (But (fun j => j = g) w W3) := by rw [hW3]; exact hB2.drew.setRow (.inl (Nat.le_refl _)) _
  have HO : Hid (W3.ownsRow 0 53 4 (.slice (some ⟨w.heap.size, 0, none⟩) (cap + 1) G) (cap + 1) (xs.take (k * 4) ++ [a0, a1, a2, a3] ++ xs.drop (k * 4))) := by
    have e := row_filled (c := ROW.toList) (xs := xs) (news := [a0, a1, a2, a3]) (z := 4) (n := cap) (k := k) hkn (by rw [Array.length_toList, hRs]; omega) hRt hxl rfl
    rw [show k * 4 + [a0, a1, a2, a3].length = k * 4 + 4 from rfl] at e
    simp only [← hC1] at e
    refine ⟨by rw [← e]; simp only [List.length_take, List.length_append, List.length_drop, hC1l, hxl]; omega, .inr ⟨w.heap.size, G, _, rfl, Nat.zero_le _, hg3, hG1, by unfold maxLen; omega, ?_, ?_⟩⟩
    · simp only [List.size_toArray, List.length_take, List.length_append, List.length_drop, hC1l, hxl]; omega
    · exact e
  have hbG : ¬ (G = k) := by omega
  have hbG1 : ¬ (G = k + 1) := by omega
  have hN : IntKind.i64.wrap ((cap : Int) + 1 - (k : Int)) = (cap : Int) + 1 - (k : Int) := by rw [IntKind.wrap_i64]; omega
  clear hg hx h1x hV h1 hcx hC1 hC1l hW1 hg1 hV1 hB1 hW2 hg2 hcs hxl hdl hROW hRs hRt hold hqi hz0 hzz1 hzz2 hG ho1 ho2 hcx2 hB2 hW3 hg3 hzc
  go_enter Try.func76, Try.ntmps76
  go_wp2_with (first
    | (at_builtin; refine Lib.wpList_append_run _ rfl _ _ 41 3 rfl _ _ rfl rfl _ _ (hrz _ _ (by omega)) ?_)
    | (at_builtin; refine wpList_copy_known _ rfl _ _ 41 41 rfl _ _ rfl rfl (hcp1 _ _ _ _ (by omega) (by omega)) ?_))
  go_region_law (refine step_copy_known rfl _ _ 41 41 rfl _ _ (by simp [Act.eval, Act.put]) (by simp [Act.eval, Act.put]) (hcp2 _ _ _ _ _ _ _ (by omega) (by omega) (by omega) (by omega)) ?_)
  go_wp2_with fail
  go_ret
  exact ⟨G, rfl, HO.out, HB.out⟩
end Go.Proofs.Ytbkpndgadgafiac

namespace Go.Proofs.Ytbkpndgadgafiac
open Go.RowKit Go.Sort
set_option linter.unusedVariables false
set_option maxRecDepth 100000

/-- One more at a place. -/
theorem insert_any {vb : Value} {k V : Nat} {L : List Pg.Mp} {m : Pg.Mp} {tV : TypeId} (w : World) (hr : w.ownsRow 0 53 4 vb L.length (mpCells L)) (hn : L.length ≤ 4096) (hk : k ≤ L.length)
    (hV : w.heap[V]? = some (.cells #[.int .i64 m.p, .int .i64 m.s, .int .i64 m.f, .int .i64 m.r] tV)) (hvV : vb.ownBlock ≠ some V) :
    Calls Try.prog 76 #[vb, .int .i64 k, .slice (some ⟨V, 0, none⟩) 1 1] w fun e w' => ∃ v', e = .returned v' ∧ w'.ownsRow 0 53 4 v' (L.length + 1) (mpCells (L.take k ++ m :: L.drop k)) ∧ But (fun j => vb.ownBlock = some j) w w' ∧ ∀ j, v'.ownBlock = some j → vb.ownBlock = some j ∨ w.heap.size ≤ j := by
  have h1 : ∀ u, u ∈ [Value.int .i64 m.p, .int .i64 m.s, .int .i64 m.f, .int .i64 m.r] → u.oneCell' = true := by
    intro u hu
    simp at hu
    rcases hu with rfl | rfl | rfl | rfl <;> rfl
  have hcut : ∀ j, (mpCells L).take (j * 4) = mpCells (L.take j) ∧ (mpCells L).drop (j * 4) = mpCells (L.drop j) := by
    intro j
    by_cases hj : j ≤ L.length
    · have e : mpCells L = mpCells (L.take j) ++ mpCells (L.drop j) := by rw [← mpCells_append, List.take_append_drop]
      have hl : (mpCells (L.take j)).length = j * 4 := by rw [mpCells_len, List.length_take]; congr 1; omega
      exact ⟨by rw [e, List.take_left' hl], by rw [e, List.drop_left' hl]⟩
    · have hl := mpCells_len L
      rw [List.take_of_length_le (by omega), List.take_of_length_le (l := L) (by omega), List.drop_eq_nil_of_le (by omega), List.drop_eq_nil_of_le (show L.length ≤ j by omega)]
      exact ⟨rfl, rfl⟩
  have hm : mpCells (L.take k ++ m :: L.drop k) = (mpCells L).take (k * 4) ++ [Value.int .i64 m.p, .int .i64 m.s, .int .i64 m.f, .int .i64 m.r] ++ (mpCells L).drop (k * 4) := by
    rw [(hcut k).1, (hcut k).2, ← mpCells_one m, ← mpCells_append, ← mpCells_append, List.append_assoc]
    rfl
  rw [hm]
  by_cases hkn : k = L.length
  · subst hkn
    have hl := mpCells_len L
    rw [List.take_of_length_le (by omega), List.drop_eq_nil_of_le (by omega), List.append_nil]
    exact insertEnd_any w hr hn hV h1
  · obtain ⟨_, hrr⟩ := hr
    rcases hrr with ⟨_, e0⟩ | ⟨g, cap, cur, rfl, _, hg, hc1, hc2, hc3, hc4⟩
    · omega
    · have hgV : V ≠ g := fun e => hvV (by rw [e]; rfl)
      have hx1 := mpCells_one' L
      have hlt : g < w.heap.size := (Array.getElem?_eq_some_iff.1 hg).1
      by_cases hroom : L.length + 1 ≤ cap
      · refine (insertRoom_any w hg hn (by omega) hroom (by unfold maxLen at hc2; omega) hc3 hc4 hx1 hV hgV h1).mono ?_
        rintro e w' ⟨rfl, h2, h3⟩
        refine ⟨_, rfl, h2, h3.mono fun i _ hi => by rw [hi]; rfl, fun j hj => .inl hj⟩
      · refine (insertGrow_any w hg hn (by omega) (by omega) hc1 hc3 hc4 hx1 hV h1).mono ?_
        rintro e w' ⟨G, rfl, h2, h3⟩
        refine ⟨_, rfl, h2, h3.mono fun i _ hi => by rw [hi]; rfl, fun j hj => .inr ?_⟩
        simp only [Value.ownBlock, Option.some.injEq] at hj
        omega

set_option maxHeartbeats 4000000 in
/-- One less: in place. -/
theorem delete_raw {g cap n k : Nat} {cur : Array Value} {xs : List Value} (w : World) (hg : w.heap[g]? = some (.cells cur 53 (0, 0))) (hn : n ≤ 4096) (hk : k < n) (hcap0 : n ≤ cap) (hcap : cap ≤ 9223372036854775807)
    (hcs : cur.size = cap * 4) (hx : cur.toList.take (n * 4) = xs) (h1x : ∀ u, u ∈ xs → u.oneCell' = true) :
    Calls Try.prog 78 #[.slice (some ⟨g, 0, none⟩) n cap, .int .i64 k, .int .i64 (k + 1)] w fun e w' => e = .returned (.slice (some ⟨g, 0, none⟩) (n - 1) cap) ∧
      w'.ownsRow 0 53 4 (.slice (some ⟨g, 0, none⟩) (n - 1) cap) (n - 1) (xs.take (k * 4) ++ xs.drop ((k + 1) * 4)) ∧ But (fun j => j = g) w w' := by
  obtain ⟨q0, hqi, hz0, hzz1, hzz2⟩ := info_parts infoMap
  have hxl : xs.length = n * 4 := by rw [← hx, List.length_take, Array.length_toList, hcs]; omega
  have hdl : (xs.drop ((k + 1) * 4)).length = (n - (k + 1)) * 4 := by rw [List.length_drop, hxl]; omega
  have hcx : ∀ j u, xs[j]? = some u → w.drew.cell? ⟨g, j, none⟩ = some u := fun j u hu => by
    rw [cell_of_row w.drew g j cur _ _ hg]
    rw [← hx, List.getElem?_take] at hu
    split at hu
    · simpa using hu
    · cases hu
  obtain ⟨C1, hC1⟩ : ∃ C1 : List Value, C1 = cur.toList.take (k * 4) ++ xs.drop ((k + 1) * 4) ++ cur.toList.drop (k * 4 + (xs.drop ((k + 1) * 4)).length) := ⟨_, rfl⟩
  have hC1l : C1.length = cap * 4 := by rw [hC1]; simp only [List.length_append, List.length_take, List.length_drop, Array.length_toList, hcs, hxl]; omega
  obtain ⟨W1, hW1⟩ : ∃ W1, W1 = w.drew.setRow g C1.toArray := ⟨_, rfl⟩
  have hap : ∀ ty o l c, l = n - (k + 1) → (o = (k + 1) * 4 ∨ n = k + 1) → (Builtin.append_ #[41, 41] ty #[.slice (some ⟨g, 0, none⟩) k cap, .slice (some ⟨g, o, none⟩) l c]).run Try.prog w.drew = .ok (.slice (some ⟨g, 0, none⟩) (n - 1) cap) W1 := by
    intro ty o l c hl ho
    subst hl
    have := run_append_room (P := Try.prog) w.drew 41 ty 53 q0 Try.underlying41 hqi g k cap cur hg ⟨g, o, none⟩ (n - (k + 1)) c (xs.drop ((k + 1) * 4)) (by rw [hdl, hzz1])
      (fun j u hj => by
        rcases ho with rfl | ho
        · rw [Addr.add_lit]; exact hcx ((k + 1) * 4 + j) u (by rwa [List.getElem?_drop] at hj)
        · have h0 : (xs.drop ((k + 1) * 4)).length = 0 := by rw [hdl]; omega
          rw [List.length_eq_zero_iff.1 h0] at hj
          simp at hj) (fun u hu => h1x u (List.mem_of_mem_drop hu)) (by omega) (by rw [hdl, hzz1, hcs]; omega)
    rw [hzz1, ← hC1, ← hW1, show k + (n - (k + 1)) = n - 1 by omega] at this
    exact this
  have hg1 : W1.heap[g]? = some (.cells C1.toArray 53 (0, 0)) := by rw [hW1]; exact setRow_heap w.drew g cur _ _ _ hg
  have hB1 : But (fun j => j = g) w W1 := by rw [hW1]; exact (But.refl (fun j => j = g) w).drew.setRow (.inr rfl) _
  obtain ⟨W2, hW2⟩ : ∃ W2, W2 = W1.setRow g (C1.take ((n - 1) * 4) ++ [Value.int .i64 0, .int .i64 0, .int .i64 0, .int .i64 0] ++ C1.drop ((n - 1) * 4 + 4)).toArray := ⟨_, rfl⟩
  have hclr : ∀ ty o l c, o = (n - 1) * 4 → l = 1 → (Builtin.clear_ #[41] ty #[.slice (some ⟨g, o, none⟩) l c]).run Try.prog W1 = .ok (.tuple #[]) W2 := by
    intro ty o l c ho hl
    subst ho hl
    have hzl : (Builtin.zeroCells (Value.agg #[.int .i64 0, .int .i64 0, .int .i64 0, .int .i64 0]).cells 1).toList = [.int .i64 0, .int .i64 0, .int .i64 0, .int .i64 0] := by kernel_rfl
    have hv : ∀ w, (zeroValue 53).run Try.prog w = .ok (.agg #[.int .i64 0, .int .i64 0, .int .i64 0, .int .i64 0]) w := fun w => by simp [zeroValue, typeInfo, hqi, hz0]
    have := run_clear_wide (P := Try.prog) W1 41 53 ty 53 _ Try.underlying41 hv g ((n - 1) * 4) 1 c (by decide) C1.toArray hg1 (by
      show (n - 1) * 4 + 1 * 4 ≤ C1.toArray.size
      simp only [List.size_toArray, hC1l]
      omega) (by rw [hzl]; decide)
    rw [hzl] at this
    rw [this, hW2]
    rfl
  have hg2 : W2.heap[g]? = some (.cells (C1.take ((n - 1) * 4) ++ [Value.int .i64 0, .int .i64 0, .int .i64 0, .int .i64 0] ++ C1.drop ((n - 1) * 4 + 4)).toArray 53 (0, 0)) := by rw [hW2]; exact setRow_heap W1 g _ _ _ _ hg1
  have HB : Hid (But (fun j => j = g) w W2) := by rw [hW2]; exact hB1.setRow (.inr rfl) _
  have HO : Hid (W2.ownsRow 0 53 4 (.slice (some ⟨g, 0, none⟩) (n - 1) cap) (n - 1) (xs.take (k * 4) ++ xs.drop ((k + 1) * 4))) := by
    have e := row_shut (c := cur.toList) (xs := xs) (zs := [Value.int .i64 0, .int .i64 0, .int .i64 0, .int .i64 0]) (z := 4) (n := n) (k := k) hk (by rw [Array.length_toList, hcs]; omega) hx
    simp only [← hC1] at e
    refine ⟨by rw [List.length_append, hdl, List.length_take, hxl]; omega, .inr ⟨g, cap, _, rfl, Nat.zero_le _, hg2, by omega, by unfold maxLen; omega, ?_, ?_⟩⟩
    · simp only [List.size_toArray, List.length_take, List.length_append, List.length_drop, hC1l, List.length_cons, List.length_nil]; omega
    · exact e
  have hb1 : (k : Int) + 1 ≤ (n : Int) := by omega
  have htn : ((k : Int) + 1).toNat = k + 1 := by omega
  have hb0 : (0 : Int) ≤ (k : Int) + 1 := by omega
  have hb2 : (k : Int) ≤ (k : Int) + 1 := by omega
  have hb3 : ¬ ((k : Int) = (k : Int) + 1) := by omega
  have hb4 : (k : Int) ≤ (cap : Int) := by omega
  have hb5 : k ≤ cap := by omega
  have hb6 : n - 1 ≤ n := by omega
  have hb7 : n - (n - 1) = 1 := by omega
  have hb8 : ¬ (cap = n - 1) := by omega
  clear hg hx h1x hcx hC1 hC1l hW1 hg1 hB1 hW2 hg2 hcs hxl hdl hqi hz0 hzz1 hzz2
  by_cases hck : cap = k + 1
  · obtain rfl : n = k + 1 := by omega
    subst hck
    have HO' := HO.out
    simp only [Nat.add_sub_cancel, Nat.sub_self] at hap hclr HO' ⊢
    have HO'' : Hid _ := HO'
    clear HO HO' hb1 hb2 hb3 hb4 hb5 hb6 hb7 hb8
    have hb2 : (k : Int) ≤ (k : Int) + 1 := by omega
    have hb3 : ¬ ((k : Int) = (k : Int) + 1) := by omega
    have hb4 : ¬ (k + 1 = k) := by omega
    have hb5 : k + 1 - k = 1 := by omega
    go_enter Try.func78, Try.ntmps78
    go_wp2_with fail
    go_region_law (refine step_append_known rfl (.tmp 22) (.tmp 25) 41 41 rfl (.slice (some ⟨g, 0, none⟩) k (k + 1)) (.slice (some ⟨g, 0, none⟩) 0 0) (by simp [Act.eval, Act.put]) (by simp [Act.eval, Act.put]) (hap _ _ _ _ rfl (.inr trivial)) ?_)

    go_wp2_with (at_builtin; refine wpList_clear_known _ rfl _ 41 rfl _ rfl (hclr _ _ _ _ (by omega) (by omega)) ?_)
    go_ret
    exact ⟨rfl, HO''.out, HB.out⟩
  · go_enter Try.func78, Try.ntmps78
    go_wp2_with fail
    go_region_law (refine step_append_known rfl (.tmp 22) (.tmp 25) 41 41 rfl (.slice (some ⟨g, 0, none⟩) k cap) (.slice (some ⟨g, (k + 1) * 4, none⟩) (n - (k + 1)) (cap - (k + 1))) (by simp [Act.eval, Act.put]) (by simp [Act.eval, Act.put]) (hap _ _ _ _ rfl (.inl rfl)) ?_)
    go_wp2_with (at_builtin; refine wpList_clear_known _ rfl _ 41 rfl _ rfl (hclr _ _ _ _ (by omega) (by omega)) ?_)
    go_ret
    exact ⟨rfl, HO.out, HB.out⟩
end Go.Proofs.Ytbkpndgadgafiac

namespace Go.Proofs.Ytbkpndgadgafiac
open Go.RowKit Go.Sort
set_option linter.unusedVariables false
set_option maxRecDepth 100000

/-- A book of the mappings L lies at b, in the blocks F. -/
structure DbAt (w : World) (b : Nat) (L : List Pg.Mp) (F : Nat → Prop) : Prop where
  ex : ∃ vb, Dbk w b vb L ∧ F = bkF b vb
section
variable {w w' : World} {b : Nat} {L : List Pg.Mp} {F G : Nat → Prop}
theorem DbAt.lt (h : DbAt w b L F) {k : Nat} (hk : F k) : k < w.heap.size := by
  obtain ⟨vb, h, rfl⟩ := h
  exact h.lt hk
theorem DbAt.good (h : DbAt w b L F) : Pg.Good L := by
  obtain ⟨vb, h, rfl⟩ := h
  exact h.good
theorem DbAt.keep (h : DbAt w b L F) (hb : But G w w') (hF : ∀ k, F k → ¬ G k) : DbAt w' b L F := by
  obtain ⟨vb, h, rfl⟩ := h
  exact ⟨vb, h.keep hb hF, rfl⟩
end

theorem dboxed {w : World} {vb : Value} {L : List Pg.Mp} {t : TypeId} (hr : w.ownsRow 0 53 4 vb L.length (mpCells L)) (hg : Pg.Good L) : Dbk (w.alloc (.cells #[vb] t)) w.heap.size vb L := by
  have hb := heap_alloc_new w (.cells #[vb] t)
  refine ⟨cell_of_row _ _ 0 _ _ _ hb, fun o => by unfold World.frozen?; simp only [hb]; simp, hr.alloc _, fun e => ?_, hg⟩
  have := (hr.lt _ e).2
  omega

theorem dbNew_any (w : World) :
    Calls Try.prog 36 #[] w fun e w' => ∃ b F, e = .returned (.pointer (some ⟨b, 0, none⟩)) ∧ DbAt w' b [] F ∧ Below w.heap.size w w' ∧ ∀ k, F k → w.heap.size ≤ k := by
  go_enter Try.func36, Try.ntmps36
  go_wp2_with fail
  go_ret
  refine ⟨_, _, rfl, ⟨.slice none 0 0, dboxed (World.ownsRow_nil _ _ _ _) Pg.Good.nil, rfl⟩, balloc (brefl _) _, fun k hk => ?_⟩
  rcases hk with rfl | hk
  · exact Nat.le_refl _
  · simp [Value.ownBlock] at hk

section
variable {b : Nat} {L : List Pg.Mp} {F : Nat → Prop}
theorem dbList_any (w : World) (h : DbAt w b L F) :
    Calls Try.prog 40 #[.pointer (some ⟨b, 0, none⟩)] w fun e w' => ∃ ad cap, e = .returned (.slice ad L.length cap) ∧ MapsAt w' ad L ∧ Below w.heap.size w w' ∧ ∀ k, (Value.slice ad L.length cap).ownBlock = some k → w.heap.size ≤ k := by
  obtain ⟨vb, h, rfl⟩ := h
  have hc0 := h.c0
  have HC : Hid _ := clone_any w h.row h.good.len
  clear h
  go_enter Try.func40, Try.ntmps40
  go_wp2_with fail
  refine Calls.mono HC.out ?_
  rintro e w1 ⟨v', rfl, hr, hb⟩
  obtain ⟨ad, cap, rfl⟩ := ownsMaps_form hr
  have HR : Hid _ := hr
  have HB : Hid _ := hb
  clear hr hb
  go_wp2_with fail
  go_ret
  exact ⟨ad, cap, rfl, owns_mapsAt HR.out, HB.out, fun k hk => (World.ownsRow.lt HR.out k hk).1⟩

end
end Go.Proofs.Ytbkpndgadgafiac

namespace Go.Proofs.Ytbkpndgadgafiac
open Go.RowKit Go.Sort
set_option linter.unusedVariables false
set_option maxRecDepth 100000

/-- A book whose row has been written, or laid anew, and is stored. -/
theorem Dbk.put {w W : World} {b : Nat} {vb v' : Value} {L L' : List Pg.Mp} (h : Dbk w b vb L) (hb : But (fun j => vb.ownBlock = some j) w W) (hr : W.ownsRow 0 53 4 v' L'.length (mpCells L')) (hv : ∀ j, v'.ownBlock = some j → vb.ownBlock = some j ∨ w.heap.size ≤ j) (hg : Pg.Good L') :
    Dbk (W.setCell ⟨b, 0, none⟩ v') b v' L' ∧ But (bkF b vb) w (W.setCell ⟨b, 0, none⟩ v') ∧ (∀ k, bkF b v' k → bkF b vb k ∨ w.heap.size ≤ k) := by
  have hl := h.lb
  have kb : W.heap[b]? = w.heap[b]? := hb.block b hl h.nb
  have hc : W.cell? ⟨b, 0, none⟩ = some vb := (World.cell?_of_block (a := ⟨b, 0, none⟩) kb).trans h.c0
  have hne : v'.ownBlock ≠ some b := fun e => (hv b e).elim h.nb (fun h => by omega)
  refine ⟨⟨World.cell?_setCell_same _ _ _ hc, fun o => ?_, ?_, hne, hg⟩, ?_, fun k hk => ?_⟩
  · have := (World.frozen?_of_block (a := ⟨b, o, none⟩) kb).trans (h.fb o)
    simpa using this
  · exact owns_of_block hr fun k hk => Below.heap_setCell _ _ _ _ (fun e => hne (by rw [hk]; exact congrArg some e))
  · exact (hb.mono (G := bkF b vb) fun i _ hi => .inr hi).setCell (a := ⟨b, 0, none⟩) (.inr (.inl rfl)) _
  · rcases hk with rfl | hk
    · exact .inl (.inl rfl)
    · exact (hv k hk).imp .inr id

section
variable {b : Nat} {L : List Pg.Mp} {F : Nat → Prop}

set_option maxHeartbeats 4000000 in
theorem dbAdd_any (m : Pg.Mp) (hm : Pg.fits m.p) (w : World) (h : DbAt w b L F) :
    Calls Try.prog 37 #[.pointer (some ⟨b, 0, none⟩), m.val] w fun e w' => e = .returned (.int .i64 (Pg.addC L m)) ∧ ∃ F', DbAt w' b (Pg.addL L m) F' ∧ But F w w' ∧ ∀ k, F' k → F k ∨ w.heap.size ≤ k := by
  obtain ⟨vb, h, rfl⟩ := h
  have HK : Hid (∀ w', Below w.heap.size w w' → Pg.addC L m ≠ 0 → ∃ F', DbAt w' b (Pg.addL L m) F' ∧ But (bkF b vb) w w' ∧ ∀ k, F' k → bkF b vb k ∨ w.heap.size ≤ k) := fun w' hb hc =>
    ⟨bkF b vb, ⟨vb, by rw [Pg.addL, if_neg hc]; exact h.grow hb, rfl⟩, But.of_below hb, fun _ hk => .inl hk⟩
  by_cases hcode : m.code = 0
  · have HM := fun w' hb => meeting_any m hm w' (h.grow (w' := w') hb)
    have hah := Pg.any_hit h.good hcode
    cases hh : Pg.hit L (Pg.lkM m)
    · have hC : Hid (Pg.addC L m = 0) := by simp only [Hid, Pg.addC, hah, hh]; simp [hcode]
      have hL : Hid (Pg.addL L m = L.take (Pg.cut L (Pg.lkM m)) ++ m :: L.drop (Pg.cut L (Pg.lkM m))) := by
        simp only [Hid, Pg.addL]
        rw [if_pos hC.out]
        exact Pg.ins_cut h.good hh
      have HI : Hid (∀ (W : World) (V : Nat) (tV : TypeId), Below w.heap.size w W → w.heap.size ≤ V → W.heap[V]? = some (.cells #[.int .i64 m.p, .int .i64 m.s, .int .i64 m.f, .int .i64 m.r] tV) →
          Calls Try.prog 76 #[vb, .int .i64 (Pg.cut L (Pg.lkM m)), .slice (some ⟨V, 0, none⟩) 1 1] W fun e w' => ∃ ad cap, e = .returned (.slice ad (L.length + 1) cap) ∧ w'.cell? ⟨b, 0, none⟩ = some vb ∧ w'.frozen? ⟨b, 0, none⟩ = false ∧
            Hid (∃ F', DbAt (w'.setCell ⟨b, 0, none⟩ (.slice ad (L.length + 1) cap)) b (Pg.addL L m) F' ∧ But (bkF b vb) w (w'.setCell ⟨b, 0, none⟩ (.slice ad (L.length + 1) cap)) ∧ ∀ k, F' k → bkF b vb k ∨ w.heap.size ≤ k)) := by
        intro W V tV hb hV hVc
        have hW := h.grow hb
        refine (insert_any W hW.row h.good.len (Pg.cut_le _ _) hVc (fun e => by have := (h.row.lt _ e).2; omega)).mono ?_
        rintro e w' ⟨v', rfl, hr, hB, hv⟩
        obtain ⟨ad, cap, rfl⟩ := ownsMaps_form hr
        have kb : w'.heap[b]? = W.heap[b]? := hB.block b hW.lb hW.nb
        have hlen : (Pg.addL L m).length = L.length + 1 := by
          rw [hL.out]
          have := Pg.cut_le L (Pg.lkM m)
          simp only [List.length_append, List.length_cons, List.length_take, List.length_drop]
          omega
        have hg := h.good.add m
        have hr' : w'.ownsRow 0 53 4 (.slice ad (L.length + 1) cap) (Pg.addL L m).length (mpCells (Pg.addL L m)) := by rw [hlen, hL.out]; exact hr
        obtain ⟨p1, p2, p3⟩ := hW.put hB hr' hv hg
        refine ⟨ad, cap, rfl, (World.cell?_of_block (a := ⟨b, 0, none⟩) kb).trans hW.c0, (World.frozen?_of_block (a := ⟨b, 0, none⟩) kb).trans (hW.fb 0), ⟨_, ⟨_, p1, rfl⟩, ?_, fun k hk => ?_⟩⟩
        · exact (But.of_below hb).trans p2 (fun i _ hi => hi)
        · exact (p3 k hk).imp id (fun h => Nat.le_trans hb.size h)
      have hc0 := h.c0
      have hlb := h.lb
      simp only [hh] at HM
      rw [hC.out]
      have hce : Pg.check m.p m.s m.f m.r = 0 := hcode
      have HCK := check_any m.p m.s m.f m.r
      rw [hce] at HCK
      clear h hah hh HK hcode hL hC hce
      generalize Pg.cut L (Pg.lkM m) = c at *
      generalize Pg.addL L m = L' at *
      generalize L.length = n at *
      obtain ⟨mp, ms, mf, mr⟩ := m
      simp only [Pg.Mp.val] at HM ⊢
      simp only at HI HCK
      go_enter Try.func37, Try.ntmps37
      go_wp2_with fail
      refine (HCK _).mono ?_
      rintro e w1 ⟨rfl, hb1⟩
      have hx : ∀ o, w1.cell? ⟨w.heap.size, o, none⟩ = _ := fun o => hb1.cell (p := ⟨w.heap.size, o, none⟩) (by simp)
      have b1 : Below w.heap.size w w1 := bthen (balloc (brefl _) _) hb1
      have hs1 : w.heap.size < w1.heap.size := by have := hb1.size; simp at this; omega
      clear hb1
      go_wp2_with fail
      refine (HM _ b1).mono ?_
      rintro e w2 ⟨rfl, hb2⟩
      have z0 : w2.cell? ⟨w.heap.size, 0, none⟩ = some (.int .i64 mp) := ((hb2.cell (p := ⟨w.heap.size, 0, none⟩) hs1).trans (hx 0)).trans (by simp [go_sem])
      have z1 : w2.cell? ⟨w.heap.size, 1, none⟩ = some (.int .i64 ms) := ((hb2.cell (p := ⟨w.heap.size, 1, none⟩) hs1).trans (hx 1)).trans (by simp [go_sem])
      have z2 : w2.cell? ⟨w.heap.size, 2, none⟩ = some (.int .i64 mf) := ((hb2.cell (p := ⟨w.heap.size, 2, none⟩) hs1).trans (hx 2)).trans (by simp [go_sem])
      have z3 : w2.cell? ⟨w.heap.size, 3, none⟩ = some (.int .i64 mr) := ((hb2.cell (p := ⟨w.heap.size, 3, none⟩) hs1).trans (hx 3)).trans (by simp [go_sem])
      have hb3 : Below w.heap.size w w2 := bthen b1 hb2
      have y0 := cell_later hb3 hc0
      have HB2 : Hid _ := hb3
      have hs2 : w.heap.size ≤ w2.heap.size := hb3.size
      have hlb2 : b < w2.heap.size := Nat.lt_of_lt_of_le hlb hs2
      clear hx hb2 hb3 b1 hs1 hc0 HM HCK
      go_wp2_with fail
      have hcall : Hid _ := HI.out ((w2.alloc (.cells #[.int .i64 mp, .int .i64 ms, .int .i64 mf, .int .i64 mr] 53)).drew) w2.heap.size 53 ((balloc HB2.out _).trans ⟨rfl, rfl, rfl, Nat.le_refl _, fun _ _ => rfl⟩) hs2 (heap_alloc_new w2 _)
      clear HI
      go_region_with (go_at_call 76; refine Calls.mono hcall.out ?_; rintro e w' ⟨ad, cap, rfl, k0, k1, HF⟩)
      all_goals
        go_wp2_with fail
        go_ret
        exact ⟨rfl, HF.out⟩
    · have hC : Hid (Pg.addC L m = 4) := by simp only [Hid, Pg.addC, hah, hh]; simp [hcode]
      have HK' : Hid _ := fun w' hb => HK.out w' hb (by rw [hC.out]; decide)
      simp only [hh] at HM
      rw [hC.out]
      have hce : Pg.check m.p m.s m.f m.r = 0 := hcode
      have HCK := check_any m.p m.s m.f m.r
      rw [hce] at HCK
      clear h hah hh HK hcode hC hce
      generalize Pg.cut L (Pg.lkM m) = c at *
      generalize Pg.addL L m = L' at *
      obtain ⟨mp, ms, mf, mr⟩ := m
      simp only [Pg.Mp.val] at HM ⊢
      simp only at HCK
      go_enter Try.func37, Try.ntmps37
      go_wp2_with fail
      refine (HCK _).mono ?_
      rintro e w1 ⟨rfl, hb1⟩
      have hx : ∀ o, w1.cell? ⟨w.heap.size, o, none⟩ = _ := fun o => hb1.cell (p := ⟨w.heap.size, o, none⟩) (by simp)
      have b1 : Below w.heap.size w w1 := bthen (balloc (brefl _) _) hb1
      have hs1 : w.heap.size < w1.heap.size := by have := hb1.size; simp at this; omega
      clear hb1
      go_wp2_with fail
      refine (HM _ b1).mono ?_
      rintro e w2 ⟨rfl, hb2⟩
      have HB2 : Hid (Below w.heap.size w w2) := bthen b1 hb2
      clear hx hb2 b1 hs1 HM HCK
      go_wp2_with fail
      go_ret
      exact ⟨rfl, HK'.out _ HB2.out⟩
  · have hC : Hid (Pg.addC L m = Pg.check m.p m.s m.f m.r) := by simp only [Hid, Pg.addC]; rw [if_pos hcode]; rfl
    have HK' : Hid _ := fun w' hb => HK.out w' hb (by rw [hC.out]; exact hcode)
    have hne : (Pg.check m.p m.s m.f m.r != 0) = true := by
      have : Pg.check m.p m.s m.f m.r ≠ 0 := hcode
      simpa using this
    rw [hC.out]
    have HCK := check_any m.p m.s m.f m.r
    clear h HK hcode hC
    generalize Pg.addL L m = L' at *
    obtain ⟨mp, ms, mf, mr⟩ := m
    simp only at HCK hne
    simp only [Pg.Mp.val]
    generalize Pg.check mp ms mf mr = x at *
    go_enter Try.func37, Try.ntmps37
    go_wp2_with fail
    refine (HCK _).mono ?_
    rintro e w1 ⟨rfl, hb1⟩
    have HB : Hid (Below w.heap.size w w1) := bthen (balloc (brefl _) _) hb1
    clear hb1
    go_wp2_with fail
    go_ret
    exact ⟨rfl, HK'.out _ HB.out⟩

/-- One less of a row of mappings. -/
theorem delete_any {vb : Value} {L : List Pg.Mp} {k : Nat} (w : World) (hr : w.ownsRow 0 53 4 vb L.length (mpCells L)) (hn : L.length ≤ 4096) (hk : k < L.length) :
    Calls Try.prog 78 #[vb, .int .i64 k, .int .i64 (k + 1)] w fun e w' => ∃ g cap, vb = .slice (some ⟨g, 0, none⟩) L.length cap ∧ e = .returned (.slice (some ⟨g, 0, none⟩) (L.length - 1) cap) ∧ w'.ownsRow 0 53 4 (.slice (some ⟨g, 0, none⟩) (L.length - 1) cap) (L.eraseIdx k).length (mpCells (L.eraseIdx k)) ∧ But (fun j => vb.ownBlock = some j) w w' := by
  have hlen : (L.eraseIdx k).length = L.length - 1 := by rw [List.length_eraseIdx, if_pos hk]
  have hcut : (mpCells L).take (k * 4) ++ (mpCells L).drop ((k + 1) * 4) = mpCells (L.eraseIdx k) := by
    have e : ∀ j, j ≤ L.length → (mpCells L).take (j * 4) = mpCells (L.take j) ∧ (mpCells L).drop (j * 4) = mpCells (L.drop j) := by
      intro j hj
      have e : mpCells L = mpCells (L.take j) ++ mpCells (L.drop j) := by rw [← mpCells_append, List.take_append_drop]
      have hl : (mpCells (L.take j)).length = j * 4 := by rw [mpCells_len, List.length_take]; congr 1; omega
      exact ⟨by rw [e, List.take_left' hl], by rw [e, List.drop_left' hl]⟩
    rw [(e k (by omega)).1, (e (k + 1) (by omega)).2, ← mpCells_append, List.eraseIdx_eq_take_drop_succ]
  obtain ⟨_, hrr⟩ := hr
  rcases hrr with ⟨_, e0⟩ | ⟨g, cap, cur, rfl, _, hg, hc1, hc2, hc3, hc4⟩
  · omega
  · refine (delete_raw w hg hn hk hc1 (by unfold maxLen at hc2; omega) hc3 hc4 (mpCells_one' L)).mono ?_
    rintro e w' ⟨rfl, h1, h2⟩
    rw [hcut] at h1
    exact ⟨g, cap, rfl, rfl, by rw [hlen]; exact h1, h2.mono fun i _ hi => by rw [hi]; rfl⟩

set_option maxHeartbeats 4000000 in
theorem dbDrop_any (q : Int) (hq : Pg.fits q) (w : World) (h : DbAt w b L F) :
    Calls Try.prog 38 #[.pointer (some ⟨b, 0, none⟩), .int .i64 q] w fun e w' => e = .returned (.tuple #[(Pg.dropM L q).val, .int .i64 (Pg.dropC L q)]) ∧ ∃ F', DbAt w' b (Pg.dropL L q) F' ∧ But F w w' ∧ ∀ k, F' k → F k ∨ w.heap.size ≤ k := by
  obtain ⟨vb, h, rfl⟩ := h
  have HK : Hid (∀ w', Below w.heap.size w w' → Pg.dropC L q ≠ 0 → ∃ F', DbAt w' b (Pg.dropL L q) F' ∧ But (bkF b vb) w w' ∧ ∀ k, F' k → bkF b vb k ∨ w.heap.size ≤ k) := fun w' hb hc =>
    ⟨bkF b vb, ⟨vb, by rw [Pg.dropL, if_neg hc]; exact h.grow hb, rfl⟩, But.of_below hb, fun _ hk => .inl hk⟩
  cases hb4 : Pg.below q 4096
  · have hC : Pg.dropC L q = 1 := by simp [Pg.dropC, hb4]
    have hM : Pg.dropM L q = .zz := by simp [Pg.dropM, hC]
    have HK' : Hid _ := fun w' hb => HK.out w' hb (by rw [hC]; decide)
    rw [hC, hM, show (.zz : Pg.Mp).val = .agg #[.int .i64 0, .int .i64 0, .int .i64 0, .int .i64 0] from rfl]
    clear h HK hC hM
    generalize Pg.dropL L q = L' at *
    go_enter Try.func38, Try.ntmps38
    go_wp2_with (go_at_call 50; refine (has_any _ _).mono ?_; rintro e w' ⟨rfl, rfl⟩)
    refine bodyPost_ret (v := .tuple #[.agg #[.int .i64 0, .int .i64 0, .int .i64 0, .int .i64 0], .int .i64 1]) ?_ rfl ⟨rfl, ?_⟩
    · simp [results, Try.results38, go_sem]
    · exact HK'.out _ (balloc (brefl _) _)
  · have hfh := Pg.fnd_hit h.good q
    have HH := fun o => having_any q hq (w.alloc o) (h.grow (balloc (brefl _) o))
    cases hh : Pg.hit L (Pg.lkP q)
    · have e0 : Pg.fnd L q = none := by rw [hfh, hh]; rfl
      have hC : Pg.dropC L q = 5 := by simp [Pg.dropC, hb4, e0]
      have hM : Pg.dropM L q = .zz := by simp [Pg.dropM, hC]
      have HK' : Hid _ := fun w' hb => HK.out w' hb (by rw [hC]; decide)
      rw [hC, hM, show (.zz : Pg.Mp).val = .agg #[.int .i64 0, .int .i64 0, .int .i64 0, .int .i64 0] from rfl]
      simp only [hh] at HH
      clear h HK hC hM e0 hfh hh
      generalize Pg.dropL L q = L' at *
      generalize Pg.cut L (Pg.lkP q) = c at *
      go_enter Try.func38, Try.ntmps38
      go_wp2_with (go_at_call 50; refine (has_any _ _).mono ?_; rintro e w' ⟨rfl, rfl⟩)
      refine (HH _).mono ?_
      rintro e w1 ⟨rfl, hb1⟩
      have hr : ∀ o, w1.cell? ⟨w.heap.size, o, none⟩ = _ := fun o => hb1.cell (p := ⟨w.heap.size, o, none⟩) (by simp)
      have hf : ∀ o, w1.frozen? ⟨w.heap.size, o, none⟩ = _ := fun o => hb1.frozen (p := ⟨w.heap.size, o, none⟩) (by simp)
      have hB : Hid (Below w.heap.size w w1) := bthen (balloc (brefl _) _) hb1
      clear hb1 HH
      go_wp2_with fail
      refine bodyPost_ret (v := .tuple #[.agg #[.int .i64 0, .int .i64 0, .int .i64 0, .int .i64 0], .int .i64 5]) ?_ rfl ⟨rfl, ?_⟩
      · simp [results, Try.results38, go_sem, hr]
      · exact HK'.out _ (below_set4 hB.out _ (Nat.le_refl _) _ _ _ _)
    · obtain ⟨hlt, _⟩ := Pg.hit_iff.1 hh
      have e0 : Pg.fnd L q = some (Pg.cut L (Pg.lkP q)) := by rw [hfh, hh]; rfl
      have hC : Pg.dropC L q = 0 := by simp [Pg.dropC, hb4, e0]
      have hM : Pg.dropM L q = L.getD (Pg.cut L (Pg.lkP q)) .zz := by simp only [Pg.dropM, hC, if_true, Pg.at', e0]
      have hL : Pg.dropL L q = L.eraseIdx (Pg.cut L (Pg.lkP q)) := by simp only [Pg.dropL, hC, if_true, e0]
      rw [hC, hM, hL]
      simp only [hh] at HH
      clear HK hC hM hL e0 hfh hh
      generalize Pg.cut L (Pg.lkP q) = j at *
      obtain ⟨g, cap, rfl, hg, hm0, hm1, hm2, hm3⟩ := h.mp hlt
      have hnb : g ≠ b := fun e => h.nb (by rw [e]; rfl)
      have HD : Hid (∀ W, Below w.heap.size w W → Calls Try.prog 78 #[.slice (some ⟨g, 0, none⟩) L.length cap, .int .i64 j, .int .i64 (j + 1)] W fun e w' => e = .returned (.slice (some ⟨g, 0, none⟩) (L.length - 1) cap) ∧ w'.cell? ⟨b, 0, none⟩ = some (.slice (some ⟨g, 0, none⟩) L.length cap) ∧ w'.frozen? ⟨b, 0, none⟩ = false ∧ But (fun k => k = g) W w' ∧
          Hid (DbAt (w'.setCell ⟨b, 0, none⟩ (.slice (some ⟨g, 0, none⟩) (L.length - 1) cap)) b (L.eraseIdx j) (bkF b (.slice (some ⟨g, 0, none⟩) L.length cap)) ∧ But (bkF b (.slice (some ⟨g, 0, none⟩) L.length cap)) w (w'.setCell ⟨b, 0, none⟩ (.slice (some ⟨g, 0, none⟩) (L.length - 1) cap)))) := by
        intro W hb
        have hW := h.grow hb
        refine (delete_any W hW.row h.good.len hlt).mono ?_
        rintro e w' ⟨g', cap', he, rfl, hr, hB⟩
        cases he
        have kb : w'.heap[b]? = W.heap[b]? := hB.block b hW.lb hW.nb
        obtain ⟨p1, p2, p3⟩ := hW.put hB hr (fun k hk => .inl hk) (h.good.erase j)
        refine ⟨rfl, (World.cell?_of_block (a := ⟨b, 0, none⟩) kb).trans hW.c0, (World.frozen?_of_block (a := ⟨b, 0, none⟩) kb).trans (hW.fb 0), hB.mono (fun i _ hi => by simpa [Value.ownBlock] using hi.symm), ⟨⟨_, p1, rfl⟩, ?_⟩⟩
        exact (But.of_below hb).trans p2 (fun i _ hi => hi)
      have hc0 := h.c0
      have hlb := h.lb
      have hlen := h.good.len
      have i0 : (0 : Int) ≤ (j : Int) := by omega
      have i1 : (j : Int) < (L.length : Int) := by omega
      clear h
      generalize L.eraseIdx j = L' at *
      generalize L.getD j .zz = m at *
      generalize L.length = n at *
      obtain ⟨mp, ms, mf, mr⟩ := m
      simp only [Pg.Mp.val] at *
      go_enter Try.func38, Try.ntmps38
      go_wp2_with (go_at_call 50; refine (has_any _ _).mono ?_; rintro e w' ⟨rfl, rfl⟩)
      refine (HH _).mono ?_
      rintro e w1 ⟨rfl, hb1⟩
      have hr : ∀ o, w1.cell? ⟨w.heap.size, o, none⟩ = _ := fun o => hb1.cell (p := ⟨w.heap.size, o, none⟩) (by simp)
      have hf : ∀ o, w1.frozen? ⟨w.heap.size, o, none⟩ = _ := fun o => hb1.frozen (p := ⟨w.heap.size, o, none⟩) (by simp)
      have hs1 : w.heap.size < w1.heap.size := by have := hb1.size; simp at this; omega
      have hB0 : Below w.heap.size w w1 := bthen (balloc (brefl _) _) hb1
      have hlb1 : b < w1.heap.size := by omega
      have hB : Hid _ := hB0
      have c0 := cell_later hB0 hc0
      have m0 := cell_later hB0 hm0
      have m1 := cell_later hB0 hm1
      have m2 := cell_later hB0 hm2
      have m3 := cell_later hB0 hm3
      clear hb1 HH hB0 hc0 hm0 hm1 hm2 hm3
      go_wp2_with fail
      have hbW : Below w.heap.size w (w1.alloc (.cells #[.int .i64 mp, .int .i64 ms, .int .i64 mf, .int .i64 mr] 53)) := balloc hB.out _
      refine Calls.mono (HD.out _ hbW) ?_
      rintro e w2 ⟨rfl, k0, k1, hbt, HF⟩
      have hl1 : w1.heap.size < (w1.alloc (.cells #[.int .i64 mp, .int .i64 ms, .int .i64 mf, .int .i64 mr] 53)).heap.size := by simp
      have t1 : ∀ o, w2.cell? ⟨w1.heap.size, o, none⟩ = _ := fun o => hbt.cell (a := ⟨w1.heap.size, o, none⟩) hl1 (by show ¬ w1.heap.size = g; omega)
      have z0 : w2.cell? ⟨w1.heap.size, 0, none⟩ = some (.int .i64 mp) := (t1 0).trans (by simp [go_sem])
      have z1 : w2.cell? ⟨w1.heap.size, 1, none⟩ = some (.int .i64 ms) := (t1 1).trans (by simp [go_sem])
      have z2 : w2.cell? ⟨w1.heap.size, 2, none⟩ = some (.int .i64 mf) := (t1 2).trans (by simp [go_sem])
      have z3 : w2.cell? ⟨w1.heap.size, 3, none⟩ = some (.int .i64 mr) := (t1 3).trans (by simp [go_sem])
      have hl2 : w.heap.size < (w1.alloc (.cells #[.int .i64 mp, .int .i64 ms, .int .i64 mf, .int .i64 mr] 53)).heap.size := by simp; omega
      have t2 : ∀ o, w2.cell? ⟨w.heap.size, o, none⟩ = _ := fun o => (hbt.cell (a := ⟨w.heap.size, o, none⟩) hl2 (by show ¬ w.heap.size = g; omega)).trans ((Below.cell (p := ⟨w.heap.size, o, none⟩) (balloc (brefl w1) _) hs1).trans (hr o))
      have t3 : ∀ o, w2.frozen? ⟨w.heap.size, o, none⟩ = _ := fun o => (hbt.frozen (a := ⟨w.heap.size, o, none⟩) hl2 (by show ¬ w.heap.size = g; omega)).trans ((Below.frozen (p := ⟨w.heap.size, o, none⟩) (balloc (brefl w1) _) hs1).trans (hf o))
      have n1 : w1.heap.size ≠ b := by omega
      have n2 : w.heap.size ≠ b := by omega
      have n3 : w1.heap.size ≠ w.heap.size := by omega
      clear hbt t1 hr hf hbW hB c0 m0 m1 m2 m3 HD hl1 hl2
      go_wp2_with fail
      refine bodyPost_ret (v := .tuple #[.agg #[.int .i64 mp, .int .i64 ms, .int .i64 mf, .int .i64 mr], .int .i64 0]) ?_ rfl ⟨rfl, ?_⟩
      · simp [results, Try.results38, go_sem, t2]
      · obtain ⟨f1, f2⟩ := HF.out
        have hbs := but_set4 (But.refl (fun k => k = w.heap.size) (w2.setCell ⟨b, 0, none⟩ (.slice (some ⟨g, 0, none⟩) (n - 1) cap))) w.heap.size (.inr rfl) (.int .i64 mp) (.int .i64 ms) (.int .i64 mf) (.int .i64 mr)
        refine ⟨_, f1.keep hbs (fun k hk => ?_), f2.trans hbs (fun i hi e => ?_), fun k hk => .inl hk⟩
        · rcases hk with rfl | hk
          · exact fun e => n2 e.symm
          · simp only [Value.ownBlock, Option.some.injEq] at hk
            omega
        · omega
end
end Go.Proofs.Ytbkpndgadgafiac

namespace Go.Proofs.Ytbkpndgadgafiac
open Go.RowKit Go.Sort
set_option linter.unusedVariables false
set_option maxRecDepth 100000

theorem mpCells_set : ∀ (L : List Pg.Mp) (k : Nat) (r : Int), k < L.length → (mpCells L).set (k * 4 + 3) (.int .i64 r) = mpCells (L.set k ((L.getD k .zz).rts r))
  | [], _, _, h => by simp at h
  | x :: t, 0, r, _ => by simp [mpCells, Pg.Mp.rts]
  | x :: t, k + 1, r, h => by
    have ih := mpCells_set t k r (by simpa using h)
    have e1 : ∀ (y : Pg.Mp) (s : List Pg.Mp), mpCells (y :: s) = .int .i64 y.p :: .int .i64 y.s :: .int .i64 y.f :: .int .i64 y.r :: mpCells s := fun y s => by simp [mpCells]
    rw [e1, show (k + 1) * 4 + 3 = k * 4 + 3 + 4 by omega]
    simp only [List.set_cons_succ, List.getD_cons_succ, e1, ih]
theorem small_check (q r : Int) : Pg.check q 0 0 r = if Pg.below q 4096 = true ∧ Pg.below r 8 = true then 0 else 1 := by
  have hs : Pg.span 0 = 1 := rfl
  have hb : Pg.below 0 1048576 = true := rfl
  unfold Pg.check
  rw [hs, hb]
  cases Pg.below q 4096 <;> cases Pg.below r 8 <;> simp
theorem fits_good_set {L : List Pg.Mp} (h : Pg.Good L) {k : Nat} (hk : k < L.length) {r : Int} (hr : Pg.below r 8 = true) : Pg.Good (L.set k ((L.getD k .zz).rts r)) := by
  obtain ⟨_, h2⟩ := Pg.prot_add h hk hr
  rw [← h2]
  exact (h.erase k).add _

section
variable {b : Nat} {L : List Pg.Mp} {F : Nat → Prop}
set_option maxHeartbeats 4000000 in
theorem dbProtect_any (q r : Int) (hq : Pg.fits q) (w : World) (h : DbAt w b L F) :
    Calls Try.prog 39 #[.pointer (some ⟨b, 0, none⟩), .int .i64 q, .int .i64 r] w fun e w' => e = .returned (.tuple #[(Pg.protM L q r).val, .int .i64 (Pg.protC L q r)]) ∧ ∃ F', DbAt w' b (Pg.protL L q r) F' ∧ But F w w' ∧ ∀ k, F' k → F k ∨ w.heap.size ≤ k := by
  obtain ⟨vb, h, rfl⟩ := h
  have HK : Hid (∀ w', Below w.heap.size w w' → Pg.protC L q r ≠ 0 → ∃ F', DbAt w' b (Pg.protL L q r) F' ∧ But (bkF b vb) w w' ∧ ∀ k, F' k → bkF b vb k ∨ w.heap.size ≤ k) := fun w' hb hc =>
    ⟨bkF b vb, ⟨vb, by rw [Pg.protL, if_neg hc]; exact h.grow hb, rfl⟩, But.of_below hb, fun _ hk => .inl hk⟩
  have HCK := check_any q 0 0 r
  rw [small_check] at HCK
  by_cases hc : Pg.below q 4096 = true ∧ Pg.below r 8 = true
  · obtain ⟨hbq, hbr⟩ := hc
    rw [if_pos ⟨hbq, hbr⟩] at HCK
    have hfh := Pg.fnd_hit h.good q
    have HH := fun w' hb => having_any q hq w' (h.grow (w' := w') hb)
    cases hh : Pg.hit L (Pg.lkP q)
    · have e0 : Pg.fnd L q = none := by rw [hfh, hh]; rfl
      have hC : Pg.protC L q r = 5 := by simp [Pg.protC, Pg.dropC, hbq, hbr, e0]
      have hM : Pg.protM L q r = .zz := by simp [Pg.protM, hC]
      have HK' : Hid _ := fun w' hb => HK.out w' hb (by rw [hC]; decide)
      rw [hC, hM, show (.zz : Pg.Mp).val = .agg #[.int .i64 0, .int .i64 0, .int .i64 0, .int .i64 0] from rfl]
      simp only [hh] at HH
      clear h HK hC hM e0 hfh hh
      generalize Pg.protL L q r = L' at *
      generalize Pg.cut L (Pg.lkP q) = c at *
      go_enter Try.func39, Try.ntmps39
      go_wp2_with fail
      refine (HCK _).mono ?_
      rintro e w1 ⟨rfl, hb1⟩
      have b1 : Below w.heap.size w w1 := bthen (balloc (brefl _) _) hb1
      have hs1 : w.heap.size < w1.heap.size := by have := hb1.size; simp at this; omega
      have hr1 : ∀ o, w1.cell? ⟨w.heap.size, o, none⟩ = _ := fun o => hb1.cell (p := ⟨w.heap.size, o, none⟩) (by simp)
      have hf1 : ∀ o, w1.frozen? ⟨w.heap.size, o, none⟩ = _ := fun o => hb1.frozen (p := ⟨w.heap.size, o, none⟩) (by simp)
      clear hb1
      go_wp2_with fail
      refine (HH _ b1).mono ?_
      rintro e w2 ⟨rfl, hb2⟩
      have hr2 : ∀ o, w2.cell? ⟨w.heap.size, o, none⟩ = _ := fun o => (hb2.cell (p := ⟨w.heap.size, o, none⟩) hs1).trans (hr1 o)
      have hf2 : ∀ o, w2.frozen? ⟨w.heap.size, o, none⟩ = _ := fun o => (hb2.frozen (p := ⟨w.heap.size, o, none⟩) hs1).trans (hf1 o)
      have hB : Hid (Below w.heap.size w w2) := bthen b1 hb2
      clear hb2 HH HCK hr1 hf1 b1 hs1
      go_wp2_with fail
      refine bodyPost_ret (v := .tuple #[.agg #[.int .i64 0, .int .i64 0, .int .i64 0, .int .i64 0], .int .i64 5]) ?_ rfl ⟨rfl, ?_⟩
      · simp [results, Try.results39, go_sem, hr2]
      · exact HK'.out _ (below_set4 hB.out _ (Nat.le_refl _) _ _ _ _)
    · obtain ⟨hlt, _⟩ := Pg.hit_iff.1 hh
      have e0 : Pg.fnd L q = some (Pg.cut L (Pg.lkP q)) := by rw [hfh, hh]; rfl
      have hC : Pg.protC L q r = 0 := by simp [Pg.protC, Pg.dropC, hbq, hbr, e0]
      have hM : Pg.protM L q r = (L.getD (Pg.cut L (Pg.lkP q)) .zz).rts r := by simp only [Pg.protM, hC, if_true, Pg.at', e0]
      have hL : Pg.protL L q r = L.set (Pg.cut L (Pg.lkP q)) ((L.getD (Pg.cut L (Pg.lkP q)) .zz).rts r) := by simp only [Pg.protL, hC, if_true, e0]
      rw [hC, hM, hL]
      simp only [hh] at HH
      clear HK hC hM hL e0 hfh hh
      generalize Pg.cut L (Pg.lkP q) = j at *
      obtain ⟨g, cap, rfl, hg, hm0, hm1, hm2, hm3⟩ := h.mp hlt
      have hnb : g ≠ b := fun e => h.nb (by rw [e]; rfl)
      have HP : Hid (∀ W, Below w.heap.size w W → W.frozen? ⟨g, j * 4 + 3, none⟩ = false ∧ Dbk (W.setCell ⟨g, j * 4 + 3, none⟩ (.int .i64 r)) b (.slice (some ⟨g, 0, none⟩) L.length cap) (L.set j ((L.getD j .zz).rts r))) := by
        intro W hb
        have hW := h.grow hb
        obtain ⟨hl, hrr⟩ := hW.row
        rcases hrr with ⟨e, _⟩ | ⟨g', cap', cur, e, _, hgc, hc1, hc2, hc3, hc4⟩
        · cases e
        · cases e
          refine ⟨by simp [World.frozen?, hgc], ?_⟩
          have hset := setCell_eq_setRow W g (j * 4 + 3) cur _ _ (.int .i64 r) hgc
          have hgn : b ≠ g := fun e => hnb e.symm
          refine ⟨?_, fun o => ?_, ?_, hW.nb, fits_good_set h.good hlt hbr⟩
          · rw [hset, cell_setRow_other _ _ _ _ hgn]; exact hW.c0
          · rw [hset, World.frozen?_of_block (a := ⟨b, o, none⟩) (setRow_other _ _ _ _ hgn)]; exact hW.fb o
          · rw [hset, List.length_set, ← mpCells_set L j r hlt]
            refine ⟨by rw [List.length_set]; exact hl, .inr ⟨g, cap, _, rfl, Nat.zero_le _, setRow_heap W g cur _ _ _ hgc, hc1, hc2, by simpa using hc3, ?_⟩⟩
            rw [Array.toList_setIfInBounds, List.take_set, hc4]
      have HX : Hid _ := h
      have hc0 := h.c0
      have hlb := h.lb
      have hlen := h.good.len
      have i0 : (0 : Int) ≤ (j : Int) := by omega
      have i1 : (j : Int) < (L.length : Int) := by omega
      clear h
      generalize L.set j ((L.getD j .zz).rts r) = L' at *
      generalize L.getD j .zz = m at *
      generalize L.length = n at *
      obtain ⟨mp, ms, mf, mr⟩ := m
      simp only [Pg.Mp.val, Pg.Mp.rts] at *
      go_enter Try.func39, Try.ntmps39
      go_wp2_with fail
      refine (HCK _).mono ?_
      rintro e w1 ⟨rfl, hb1⟩
      have b1 : Below w.heap.size w w1 := bthen (balloc (brefl _) _) hb1
      have hs1 : w.heap.size < w1.heap.size := by have := hb1.size; simp at this; omega
      have hr1 : ∀ o, w1.cell? ⟨w.heap.size, o, none⟩ = _ := fun o => hb1.cell (p := ⟨w.heap.size, o, none⟩) (by simp)
      have hf1 : ∀ o, w1.frozen? ⟨w.heap.size, o, none⟩ = _ := fun o => hb1.frozen (p := ⟨w.heap.size, o, none⟩) (by simp)
      clear hb1
      go_wp2_with fail
      refine (HH _ b1).mono ?_
      rintro e w2 ⟨rfl, hb2⟩
      have hr2 : ∀ o, w2.cell? ⟨w.heap.size, o, none⟩ = _ := fun o => (hb2.cell (p := ⟨w.heap.size, o, none⟩) hs1).trans (hr1 o)
      have hf2 : ∀ o, w2.frozen? ⟨w.heap.size, o, none⟩ = _ := fun o => (hb2.frozen (p := ⟨w.heap.size, o, none⟩) hs1).trans (hf1 o)
      have hB0 : Below w.heap.size w w2 := bthen b1 hb2
      have c0 := cell_later hB0 hc0
      have m0 := cell_later hB0 hm0
      have m1 := cell_later hB0 hm1
      have m2 := cell_later hB0 hm2
      have m3 := cell_later hB0 hm3
      obtain ⟨fz, HD⟩ := HP.out w2 hB0
      have HD : Hid _ := HD
      have hB : Hid _ := hB0
      have n1 : g ≠ w.heap.size := by omega
      have n2 : b ≠ w.heap.size := by omega
      clear hb2 HH HCK hr1 hf1 b1 hs1 hB0 hc0 hm0 hm1 hm2 hm3 HP
      go_wp2_with fail
      refine bodyPost_ret (v := .tuple #[.agg #[.int .i64 mp, .int .i64 ms, .int .i64 mf, .int .i64 r], .int .i64 0]) ?_ rfl ⟨rfl, ?_⟩
      · simp [results, Try.results39, go_sem, hr2]
      · have f1 : DbAt (w2.setCell ⟨g, j * 4 + 3, none⟩ (.int .i64 r)) b L' (bkF b (.slice (some ⟨g, 0, none⟩) n cap)) := ⟨_, HD.out, rfl⟩
        have f2 : But (bkF b (.slice (some ⟨g, 0, none⟩) n cap)) w (w2.setCell ⟨g, j * 4 + 3, none⟩ (.int .i64 r)) := (But.of_below hB.out).setCell (a := ⟨g, j * 4 + 3, none⟩) (.inr (.inr rfl)) _
        have hbs := but_set4 (But.refl (fun k => k = w.heap.size) (w2.setCell ⟨g, j * 4 + 3, none⟩ (.int .i64 r))) w.heap.size (.inr rfl) (.int .i64 mp) (.int .i64 ms) (.int .i64 mf) (.int .i64 r)
        refine ⟨_, f1.keep hbs (fun k hk => ?_), f2.trans hbs (fun i hi e => ?_), fun k hk => .inl hk⟩
        · rcases hk with rfl | hk
          · exact n2
          · simp only [Value.ownBlock, Option.some.injEq] at hk
            omega
        · omega
  · rw [if_neg hc] at HCK
    have hC : Pg.protC L q r = 1 := by
      unfold Pg.protC Pg.dropC
      cases h1 : Pg.below q 4096 <;> cases h2 : Pg.below r 8 <;> simp_all
    have hM : Pg.protM L q r = .zz := by simp [Pg.protM, hC]
    have HK' : Hid _ := fun w' hb => HK.out w' hb (by rw [hC]; decide)
    rw [hC, hM, show (.zz : Pg.Mp).val = .agg #[.int .i64 0, .int .i64 0, .int .i64 0, .int .i64 0] from rfl]
    clear h HK hC hM hc
    generalize Pg.protL L q r = L' at *
    go_enter Try.func39, Try.ntmps39
    go_wp2_with fail
    refine (HCK _).mono ?_
    rintro e w1 ⟨rfl, hb1⟩
    have hr : ∀ o, w1.cell? ⟨w.heap.size, o, none⟩ = _ := fun o => hb1.cell (p := ⟨w.heap.size, o, none⟩) (by simp)
    have hf : ∀ o, w1.frozen? ⟨w.heap.size, o, none⟩ = _ := fun o => hb1.frozen (p := ⟨w.heap.size, o, none⟩) (by simp)
    have hB : Hid (Below w.heap.size w w1) := bthen (balloc (brefl _) _) hb1
    clear hb1 HCK
    go_wp2_with fail
    refine bodyPost_ret (v := .tuple #[.agg #[.int .i64 0, .int .i64 0, .int .i64 0, .int .i64 0], .int .i64 1]) ?_ rfl ⟨rfl, ?_⟩
    · simp [results, Try.results39, go_sem, hr]
    · exact HK'.out _ (below_set4 hB.out _ (Nat.le_refl _) _ _ _ _)
end
end Go.Proofs.Ytbkpndgadgafiac
