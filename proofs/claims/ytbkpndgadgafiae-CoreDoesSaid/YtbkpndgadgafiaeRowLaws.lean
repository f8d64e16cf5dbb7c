
/-
  Laws of no program: how rows whose elements are of several cells are copied, cleared and cut.
-/
import Derived.Test.YtbkpndgadgafiaeHeap
import Derived.Laws.CopyRow
import Derived.Laws.AppendOwn
import Derived.Lib.AppendZerosOnto
import Derived.WalkKit
namespace Go.Proofs.Ytbkpndgadgafiae
open Go.RowKit Go.Sort
set_option linter.unusedVariables false
variable {P : Program}

/-- 'copy(d, s)' where elements are of 'size' cells. -/
theorem run_copy_wide (w : World) (dT sT ty elem : TypeId) (size g o dLen dCap : Nat) (a : Addr) (sLen sCap : Nat) (cur : Array Value) (t : TypeId) (cs : List Value)
    (hu : P.underlying dT = some (.slice elem)) (hs : (P.info? elem).map (·.size) = some size)
    (hg : w.heap[g]? = some (.cells cur t (0, 0))) (hn : cs.length = Nat.min sLen dLen * size)
    (hsrc : ∀ j v, cs[j]? = some v → w.cell? (a.add j) = some v) (hfit : o + cs.length ≤ cur.size) (h1 : ∀ v ∈ cs, v.oneCell' = true) :
    (Builtin.copy_ #[dT, sT] ty #[.slice (some ⟨g, o, none⟩) dLen dCap, .slice (some a) sLen sCap]).run P w =
      .ok (goInt (Nat.min sLen dLen)) (w.setRow g (cur.toList.take o ++ cs ++ cur.toList.drop (o + cs.length)).toArray) := by
  have hf := run_firstCells_some (P := P) w size (Nat.min sLen dLen) a sLen sCap cs hn hsrc
  have hst := run_storeCells_at P g o t cs 0 cur w hg (by simpa using hfit) h1
  cases hq : P.info? elem with
  | none => simp [hq] at hs
  | some i =>
    have hi : i.size = size := by simpa [hq] using hs
    simp [Builtin.copy_, run_underlying hu, Builtin.lenOf, sizeOf, typeInfo, hq, hi, hf, hst]

/-- 'clear(s)' of n > 0 elements. -/
theorem run_clear_wide (w : World) (t e ty t' : TypeId) (z : Value) (ht : P.underlying t = some (.slice e)) (hv : ∀ w, (zeroValue e).run P w = .ok z w) (g o n c : Nat) (hn : 0 < n) (cur : Array Value)
    (hg : w.heap[g]? = some (.cells cur t' (0, 0))) (hfit : o + n * z.cells.size ≤ cur.size) (h1 : ∀ v ∈ (Builtin.zeroCells z.cells n).toList, v.oneCell' = true) :
    (Builtin.clear_ #[t] ty #[.slice (some ⟨g, o, none⟩) n c]).run P w = .ok (.tuple #[]) (w.setRow g (cur.toList.take o ++ (Builtin.zeroCells z.cells n).toList ++ cur.toList.drop (o + n * z.cells.size)).toArray) := by
  have hl : (Builtin.zeroCells z.cells n).toList.length = n * z.cells.size := by simp [size_zeroCells]
  have hst := run_storeCells_at P g o t' (Builtin.zeroCells z.cells n).toList 0 cur w hg (by rw [hl]; simpa using hfit) h1
  rw [hl] at hst
  simp only [Nat.add_zero] at hst
  obtain ⟨m, rfl⟩ : ∃ m, n = m + 1 := ⟨n - 1, by omega⟩
  simp [Builtin.clear_, run_underlying ht, hv, hst]

theorem wp_copy_known (w : World) {o : Oper} {a : Act} {K : Act → World → Prop} {Q : Exit → Act → World → Prop} (d s : Operand) (t t' : TypeId)
    (ho : o.op = .call { callee := .builtin .copy, args := #[d, s], argTypes := #[t, t'] }) (v u : Value) (hd : a.eval d = v) (hs : a.eval s = u) {v' : Value} {w' : World}
    (hr : (Builtin.copy_ #[t, t'] o.type #[v, u]).run P w = .ok v' w') (h : K (a.put o.dst v') w') : o.wp P a w K Q := by
  unfold Oper.wp execOp
  simp only [ho, resolve, invoke, builtin, Sem.run_bind, Sem.run_pure, Result.andThen_ok, List.map_toArray, List.map_cons, List.map_nil, hd, hs, hr]
  exact h
theorem wpList_copy_known (w : World) {ops : Array Oper} {rest : List Oper} {o : Oper} {a : Act} {Q : Exit → Act → World → Prop} (hgd : o.guard = none) (d s : Operand) (t t' : TypeId)
    (ho : o.op = .call { callee := .builtin .copy, args := #[d, s], argTypes := #[t, t'] }) (v u : Value) (hd : a.eval d = v) (hs : a.eval s = u) {v' : Value} {w' : World}
    (hr : (Builtin.copy_ #[t, t'] o.type #[v, u]).run P w = .ok v' w') (h : wpList P ops Q rest (a.put o.dst v') w') : wpList P ops Q (o :: rest) a w :=
  wpList_plain hgd fun _ hK => wp_copy_known w d s t t' ho v u hd hs hr (hK _ _ h)
/-- Where the run is known, as one step of a region that draws. -/
theorem step_copy_known {ops : Array Oper} {o : Oper} {a : Act} {w : World} {K : Act → World → Prop} {Q : Exit → Act → World → Prop} {E : Prop}
    (hg : o.guard = none) (d x : Operand) (dT sT : TypeId) (hop : o.op = Op.call { callee := Callee.builtin Builtin.copy, args := #[d, x], argTypes := #[dT, sT] })
    (v u : Value) (hd : a.eval d = v) (hx : a.eval x = u) {v' : Value} {w' : World} (hr : (Builtin.copy_ #[dT, sT] o.type #[v, u]).run P w = .ok v' w') (hK : K (a.put o.dst v') w') :
    if Region.wanted o (yielded ops a.tmps) = true then Oper.wp P o a w K Q else E := by
  have hw : Region.wanted o (yielded ops a.tmps) = true := by simp [Region.wanted, hg]
  rw [if_pos hw]
  unfold Oper.wp
  simp [execOp, hop, resolve, invoke, builtin, hd, hx, hr, Result.andThen]
  exact hK
theorem step_append_known {ops : Array Oper} {o : Oper} {a : Act} {w : World} {K : Act → World → Prop} {Q : Exit → Act → World → Prop} {E : Prop}
    (hg : o.guard = none) (d x : Operand) (dT sT : TypeId) (hop : o.op = Op.call { callee := Callee.builtin Builtin.append, args := #[d, x], argTypes := #[dT, sT] })
    (v u : Value) (hd : a.eval d = v) (hx : a.eval x = u) {v' : Value} {w' : World} (hr : (Builtin.append_ #[dT, sT] o.type #[v, u]).run P w = .ok v' w') (hK : K (a.put o.dst v') w') :
    if Region.wanted o (yielded ops a.tmps) = true then Oper.wp P o a w K Q else E := by
  have hw : Region.wanted o (yielded ops a.tmps) = true := by simp [Region.wanted, hg]
  rw [if_pos hw]
  unfold Oper.wp
  simp [execOp, hop, resolve, invoke, builtin, hd, hx, hr, Result.andThen]
  exact hK
theorem wp_clear_known (w : World) {o : Oper} {a : Act} {K : Act → World → Prop} {Q : Exit → Act → World → Prop} (d : Operand) (t : TypeId)
    (ho : o.op = .call { callee := .builtin .clear, args := #[d], argTypes := #[t] }) (v : Value) (hd : a.eval d = v) {v' : Value} {w' : World}
    (hr : (Builtin.clear_ #[t] o.type #[v]).run P w = .ok v' w') (h : K (a.put o.dst v') w') : o.wp P a w K Q := by
  unfold Oper.wp execOp
  simp only [ho, resolve, invoke, builtin, Sem.run_bind, Sem.run_pure, Result.andThen_ok, List.map_toArray, List.map_cons, List.map_nil, hd, hr]
  exact h
theorem wpList_clear_known (w : World) {ops : Array Oper} {rest : List Oper} {o : Oper} {a : Act} {Q : Exit → Act → World → Prop} (hgd : o.guard = none) (d : Operand) (t : TypeId)
    (ho : o.op = .call { callee := .builtin .clear, args := #[d], argTypes := #[t] }) (v : Value) (hd : a.eval d = v) {v' : Value} {w' : World}
    (hr : (Builtin.clear_ #[t] o.type #[v]).run P w = .ok v' w') (h : wpList P ops Q rest (a.put o.dst v') w') : wpList P ops Q (o :: rest) a w :=
  wpList_plain hgd fun _ hK => wp_clear_known w d t ho v hd hr (hK _ _ h)

/-- A row that is written in its own block alone. -/
theorem But.setRow {F : Nat → Prop} {w w1 : World} (h : But F w w1) {g : Nat} (ha : w.heap.size ≤ g ∨ F g) (cs : Array Value) : But F w (w1.setRow g cs) :=
  ⟨h.os, h.tape, h.output, by simpa using h.size, fun i hi hF => by
    rw [setRow_other _ _ _ _ (fun e => by subst e; exact ha.elim (fun h' => by omega) hF)]
    exact h.block i hi hF⟩

/-- How a row is opened for one more: its cells behind the place go on by one element, and the new one is laid there. -/
theorem row_opened {c xs news : List Value} {z n k : Nat} (hk : k ≤ n) (hc : (n + 1) * z ≤ c.length) (hx : c.take (n * z) = xs) (hn : news.length = z) :
    let c1 := c.take ((k + 1) * z) ++ xs.drop (k * z) ++ c.drop ((k + 1) * z + (xs.drop (k * z)).length)
    (c1.take (k * z) ++ news ++ c1.drop (k * z + news.length)).take ((n + 1) * z) = xs.take (k * z) ++ news ++ xs.drop (k * z) := by
  intro c1
  have e1 : (n + 1) * z = n * z + z := by rw [Nat.add_mul, Nat.one_mul]
  have e2 : (k + 1) * z = k * z + z := by rw [Nat.add_mul, Nat.one_mul]
  have e3 : k * z ≤ n * z := Nat.mul_le_mul_right _ hk
  have hxl : xs.length = n * z := by rw [← hx, List.length_take]; omega
  have hd : (xs.drop (k * z)).length = n * z - k * z := by rw [List.length_drop, hxl]
  have ht : (c.take ((k + 1) * z)).length = k * z + z := by rw [List.length_take]; omega
  have h1 : c1.take (k * z) = xs.take (k * z) := by
    show (c.take ((k + 1) * z) ++ xs.drop (k * z) ++ _).take (k * z) = _
    rw [List.append_assoc, List.take_append_of_le_length (by omega), List.take_take, ← hx, List.take_take]
    congr 1
    omega
  have h2 : c1.drop (k * z + news.length) = xs.drop (k * z) ++ c.drop ((k + 1) * z + (xs.drop (k * z)).length) := by
    show (c.take ((k + 1) * z) ++ xs.drop (k * z) ++ _).drop (k * z + news.length) = _
    rw [List.append_assoc, List.drop_append_of_le_length (by omega), List.drop_eq_nil_of_le (by omega), List.nil_append]
  have hp : (xs.take (k * z)).length = k * z := by rw [List.length_take]; omega
  rw [h1, h2, ← List.append_assoc, List.take_append_of_le_length (by simp only [List.length_append, hp, hd, hn]; omega), List.take_of_length_le (by simp only [List.length_append, hp, hd, hn]; omega)]
/-- How a row loses an element: those behind it go back by one, and the last one is made zeros. -/
theorem row_shut {c xs zs : List Value} {z n k : Nat} (hk : k < n) (hc : n * z ≤ c.length) (hx : c.take (n * z) = xs) :
    let c1 := c.take (k * z) ++ xs.drop ((k + 1) * z) ++ c.drop (k * z + (xs.drop ((k + 1) * z)).length)
    (c1.take ((n - 1) * z) ++ zs ++ c1.drop ((n - 1) * z + z)).take ((n - 1) * z) = xs.take (k * z) ++ xs.drop ((k + 1) * z) := by
  intro c1
  obtain ⟨m, rfl⟩ : ∃ m, n = m + 1 := ⟨n - 1, by omega⟩
  have e1 : (m + 1) * z = m * z + z := by rw [Nat.add_mul, Nat.one_mul]
  have e2 : (k + 1) * z = k * z + z := by rw [Nat.add_mul, Nat.one_mul]
  have e3 : k * z ≤ m * z := Nat.mul_le_mul_right _ (by omega)
  simp only [Nat.add_sub_cancel]
  have hxl : xs.length = m * z + z := by rw [← hx, List.length_take]; omega
  have hd : (xs.drop ((k + 1) * z)).length = m * z - k * z := by rw [List.length_drop, hxl]; omega
  have ht : (c.take (k * z)).length = k * z := by rw [List.length_take]; omega
  have h1 : c1.take (m * z) = c.take (k * z) ++ xs.drop ((k + 1) * z) := by
    show (c.take (k * z) ++ xs.drop ((k + 1) * z) ++ _).take (m * z) = _
    rw [List.take_append_of_le_length (by rw [List.length_append, ht, hd]; omega), List.take_of_length_le (by rw [List.length_append, ht, hd]; omega)]
  have hl : (c1.take (m * z)).length = m * z := by rw [h1, List.length_append, ht, hd]; omega
  rw [List.append_assoc, List.take_append_of_le_length (by omega), List.take_of_length_le (by omega), h1, ← hx, List.take_take]
  congr 2
  omega
/-- How a row that is laid anew takes one more and what stood behind it. -/
theorem row_filled {c xs news : List Value} {z n k : Nat} (hk : k ≤ n) (hc : (n + 1) * z ≤ c.length) (hx : c.take (k * z) = xs.take (k * z)) (hxl : xs.length = n * z) (hn : news.length = z) :
    let c1 := c.take (k * z) ++ news ++ c.drop (k * z + news.length)
    (c1.take ((k + 1) * z) ++ xs.drop (k * z) ++ c1.drop ((k + 1) * z + (xs.drop (k * z)).length)).take ((n + 1) * z) = xs.take (k * z) ++ news ++ xs.drop (k * z) := by
  intro c1
  have e1 : (n + 1) * z = n * z + z := by rw [Nat.add_mul, Nat.one_mul]
  have e2 : (k + 1) * z = k * z + z := by rw [Nat.add_mul, Nat.one_mul]
  have e3 : k * z ≤ n * z := Nat.mul_le_mul_right _ hk
  have hd : (xs.drop (k * z)).length = n * z - k * z := by rw [List.length_drop, hxl]
  have ht : (xs.take (k * z)).length = k * z := by rw [List.length_take]; omega
  have h1 : c1.take ((k + 1) * z) = xs.take (k * z) ++ news := by
    show (c.take (k * z) ++ news ++ _).take ((k + 1) * z) = _
    rw [hx, List.take_append_of_le_length (by rw [List.length_append, ht, hn]; omega), List.take_of_length_le (by rw [List.length_append, ht, hn]; omega)]
  rw [h1, List.take_append_of_le_length (by simp only [List.length_append, ht, hn, hd]; omega), List.take_of_length_le (by simp only [List.length_append, ht, hn, hd]; omega)]
end Go.Proofs.Ytbkpndgadgafiae
