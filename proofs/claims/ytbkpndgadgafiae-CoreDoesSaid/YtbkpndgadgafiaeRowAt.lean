
/-
  Rows that begin anywhere in their block, and grow: no program is named here.
-/
import Derived.Test.YtbkpndgadgafiaeRowLaws
import Derived.ArgAppend
namespace Go.Proofs.Ytbkpndgadgafiae
open Go.RowKit Go.Sort
set_option linter.unusedVariables false

/-- The value v is a row of n elements, of 'size' cells each, which are xs; its block is its own, from some place on. -/
def OwnsAt (w : World) (e : TypeId) (size : Nat) (v : Value) (n : Nat) (xs : List Value) : Prop :=
  xs.length = n * size ∧ ((v = .slice none 0 0 ∧ n = 0) ∨ ∃ g o cap cur, v = .slice (some ⟨g, o, none⟩) n cap ∧ w.heap[g]? = some (.cells cur e (0, 0)) ∧ n ≤ cap ∧ cap ≤ maxLen ∧ o + cap * size ≤ cur.size ∧ (cur.toList.drop o).take (n * size) = xs)

section
variable {w w' : World} {e : TypeId} {size n : Nat} {v : Value} {xs : List Value}
theorem OwnsAt.of_row {base : Nat} (h : w.ownsRow base e size v n xs) : OwnsAt w e size v n xs := by
  obtain ⟨hl, h⟩ := h
  refine ⟨hl, h.imp id ?_⟩
  rintro ⟨g, cap, cur, rfl, _, hg, h1, h2, h3, h4⟩
  exact ⟨g, 0, cap, cur, rfl, hg, h1, h2, by omega, by simpa using h4⟩
theorem OwnsAt.nil (w : World) (e : TypeId) (size : Nat) : OwnsAt w e size (.slice none 0 0) 0 [] := ⟨by simp, .inl ⟨rfl, rfl⟩⟩
theorem OwnsAt.lt (h : OwnsAt w e size v n xs) : ∀ k, v.ownBlock = some k → k < w.heap.size := by
  intro k hk
  rcases h.2 with ⟨rfl, _⟩ | ⟨g, o, cap, cur, rfl, hg, _⟩
  · simp [Value.ownBlock] at hk
  · simp [Value.ownBlock] at hk
    subst hk
    exact (Array.getElem?_eq_some_iff.1 hg).1
theorem OwnsAt.of_block (h : OwnsAt w e size v n xs) (hb : ∀ k, v.ownBlock = some k → w'.heap[k]? = w.heap[k]?) : OwnsAt w' e size v n xs := by
  refine ⟨h.1, h.2.imp id ?_⟩
  rintro ⟨g, o, cap, cur, rfl, hg, r⟩
  exact ⟨g, o, cap, cur, rfl, (hb g rfl).trans hg, r⟩
theorem OwnsAt.but {F : Nat → Prop} (h : OwnsAt w e size v n xs) (hb : But F w w') (hF : ∀ k, v.ownBlock = some k → ¬ F k) : OwnsAt w' e size v n xs :=
  h.of_block fun k hk => hb.block k (h.lt k hk) (hF k hk)
theorem OwnsAt.form (h : OwnsAt w e size v n xs) : ∃ ad cap, v = .slice ad n cap := by
  rcases h.2 with ⟨rfl, rfl⟩ | ⟨g, o, cap, cur, rfl, _⟩
  · exact ⟨none, 0, rfl⟩
  · exact ⟨_, _, rfl⟩
theorem OwnsAt.shape (h : OwnsAt w e size v n xs) (hn : 0 < n) : ∃ g o cap, v = .slice (some ⟨g, o, none⟩) n cap ∧ g < w.heap.size ∧ n ≤ cap ∧ cap ≤ maxLen := by
  rcases h.2 with ⟨rfl, rfl⟩ | ⟨g, o, cap, cur, rfl, hg, h1, h2, _⟩
  · omega
  · exact ⟨g, o, cap, rfl, (Array.getElem?_eq_some_iff.1 hg).1, h1, h2⟩
theorem OwnsAt.cell {g o cap : Nat} (h : OwnsAt w e size (.slice (some ⟨g, o, none⟩) n cap) n xs) {j : Nat} (hj : j < n * size) : w.cell? ⟨g, o + j, none⟩ = xs[j]? := by
  rcases h.2 with ⟨e, _⟩ | ⟨g', o', cap', cur, e, hg, h1, h2, h3, h4⟩
  · cases e
  · cases e
    rw [cell_of_row w g (o + j) cur _ _ hg, ← h4, List.getElem?_take, if_pos hj, List.getElem?_drop]
    simp
/-- What is left of a row behind its first element. -/
theorem OwnsAt.tail {g o cap : Nat} (h : OwnsAt w e size (.slice (some ⟨g, o, none⟩) n cap) n xs) (hn : 0 < n) {o' : Nat} (ho : o' = o + size ∨ (cap = 1 ∧ o' = o)) :
    OwnsAt w e size (.slice (some ⟨g, o', none⟩) (n - 1) (cap - 1)) (n - 1) (xs.drop size) := by
  obtain ⟨hl, h⟩ := h
  obtain ⟨m, rfl⟩ : ∃ m, n = m + 1 := ⟨n - 1, by omega⟩
  simp only [Nat.add_sub_cancel]
  have hm : (m + 1) * size = m * size + size := by rw [Nat.add_mul, Nat.one_mul]
  refine ⟨by rw [List.length_drop, hl]; omega, ?_⟩
  rcases h with ⟨e, _⟩ | ⟨g', p, cap', cur, e, hg, h1, h2, h3, h4⟩
  · cases e
  · cases e
    obtain ⟨c, rfl⟩ : ∃ c, cap = c + 1 := ⟨cap - 1, by omega⟩
    have hc : (c + 1) * size = c * size + size := by rw [Nat.add_mul, Nat.one_mul]
    refine .inr ⟨g, o', c, cur, rfl, hg, by omega, by omega, ?_, ?_⟩
    · rcases ho with rfl | ⟨h0, rfl⟩
      · omega
      · omega
    · rcases ho with rfl | ⟨h0, rfl⟩
      · rw [← h4, List.drop_take, List.drop_drop]
        congr 1
        omega
      · have hc0 : m = 0 := by omega
        subst hc0
        have : (xs.drop size).length = 0 := by rw [List.length_drop, hl]; omega
        rw [List.length_eq_zero_iff.1 this]
        simp
end

section
variable {P : Program} (w : World)
theorem run_append_roomAt (t ty e : TypeId) (i : TypeInfo) (ht : P.underlying t = some (.slice e)) (hi : P.info? e = some i)
    (g o sLen sCap : Nat) (cur : Array Value) (hg : w.heap[g]? = some (.cells cur e (0, 0)))
    (a : Addr) (m c : Nat) (news : List Value) (hl : news.length = m * i.size) (hnews : ∀ j u, news[j]? = some u → w.cell? (a.add j) = some u) (h1 : ∀ u ∈ news, u.oneCell' = true)
    (hroom : sLen + m ≤ sCap) (hfit : o + sLen * i.size + news.length ≤ cur.size) :
    (Builtin.append_ #[t, t] ty #[.slice (some ⟨g, o, none⟩) sLen sCap, .slice (some a) m c]).run P w =
      .ok (.slice (some ⟨g, o, none⟩) (sLen + m) sCap) (w.setRow g (cur.toList.take (o + sLen * i.size) ++ news ++ cur.toList.drop (o + sLen * i.size + news.length)).toArray) := by
  have hf := run_firstCells_some (P := P) w i.size m a m c news hl hnews
  have hst := run_storeCells_at P g (o + sLen * i.size) e news 0 cur w hg (by simpa using hfit) h1
  simp only [Nat.add_zero] at hst
  simp [Builtin.append_, run_underlying ht, sizeOf, typeInfo, hi, Builtin.lenOf, hroom, hf, Addr.add_lit, hst]

/-- 'append' to such a row. -/
theorem run_append_at (t ty e : TypeId) (i : TypeInfo) (z : Value) (size bytes : Nat) (ht : P.underlying t = some (.slice e)) (hi : P.info? e = some i) (hz : i.zero = some z)
    (hsize : i.size = size) (hby : i.bytes = bytes) (hzs : z.cells.size = size) (hsz : 0 < size)
    (v : Value) (n : Nat) (xs : List Value) (hown : OwnsAt w e size v n xs)
    (a : Addr) (m c : Nat) (news : List Value) (hl : news.length = m * size) (hnews : ∀ j u, news[j]? = some u → w.cell? (a.add j) = some u) (h1 : ∀ u ∈ news, u.oneCell' = true)
    (hm : 0 < m) (h63 : n + m ≤ maxLen) (hbytes : (n + m) * bytes ≤ 140737488355328) :
    ∃ g o cap w', (Builtin.append_ #[t, t] ty #[v, .slice (some a) m c]).run P w = .ok (.slice (some ⟨g, o, none⟩) (n + m) cap) w' ∧ OwnsAt w' e size (.slice (some ⟨g, o, none⟩) (n + m) cap) (n + m) (xs ++ news) ∧
      But (fun j => v.ownBlock = some j) w w' ∧ (v.ownBlock = some g ∨ w.heap.size ≤ g) := by
  have hlen : (xs ++ news).length = (n + m) * size := by rw [List.length_append, hown.1, hl, Nat.add_mul]
  rcases hown.2 with ⟨rfl, rfl⟩ | ⟨g, o, cap, cur, rfl, hg, hnc, hcm, hcs, htake⟩
  · have hx : xs = [] := List.eq_nil_of_length_eq_zero (by simpa using hown.1)
    subst hx
    obtain ⟨v', w', hr, h2, h3, h4⟩ := run_append_own (P := P) w w.heap.size t ty e i z size bytes ht hi hz hsize hby hzs hsz (.slice none 0 0) 0 [] (World.ownsRow_nil _ _ _ _) a m c news hl hnews h1 h63 hbytes (Nat.le_refl _)
    rcases h2.2 with ⟨_, e0⟩ | ⟨g, cap, cur, rfl, hb, r⟩
    · omega
    · exact ⟨g, 0, cap, w', hr, OwnsAt.of_row h2, (But.refl _ w).grown h3 (fun k hk => .inr hk), .inr hb⟩
  · by_cases hroom : n + m ≤ cap
    · subst hsize
      have e1 : (n + m) * i.size = n * i.size + m * i.size := Nat.add_mul _ _ _
      have e2 : (n + m) * i.size ≤ cap * i.size := Nat.mul_le_mul_right _ hroom
      have hr := run_append_roomAt (P := P) w t ty e i ht hi g o n cap cur hg a m c news hl hnews h1 hroom (by omega)
      refine ⟨g, o, cap, _, hr, ⟨hlen, .inr ⟨g, o, cap, _, rfl, setRow_heap w g cur _ e _ hg, hroom, hcm, ?_, ?_⟩⟩, But.setRow (But.refl (fun j => (Value.slice (some ⟨g, o, none⟩) n cap).ownBlock = some j) w) (g := g) (.inr rfl) _, .inl rfl⟩
      · simp only [List.size_toArray, List.length_append, List.length_take, List.length_drop, Array.length_toList]
        omega
      · have e3 : (cur.toList.take (o + n * i.size)).length = o + n * i.size := by rw [List.length_take, Array.length_toList]; omega
        rw [List.append_assoc, List.drop_append_of_le_length (by omega), List.drop_take, show o + n * i.size - o = n * i.size by omega, htake, ← List.append_assoc, List.take_append_of_le_length (by rw [hlen]; omega), List.take_of_length_le (by rw [hlen]; omega)]
    · obtain ⟨v', w', hr, r1, r2⟩ := run_append_arg_grows (P := P) w t ty e i z size bytes ht hi hz hsize hby hzs hsz ⟨g, o, none⟩ n cap xs hown.1 (fun j u hj => by
        rw [Addr.add_lit, hown.cell (by have := (List.getElem?_eq_some_iff.1 hj).1; rw [hown.1] at this; exact this)]
        exact hj) a m c news hl hnews (by omega) h63 hbytes
      rcases r1.2 with ⟨_, e0⟩ | ⟨g', cap', cur', rfl, hb, r⟩
      · omega
      · exact ⟨g', 0, cap', w', hr, OwnsAt.of_row r1, (But.refl _ w).grown r2 (fun k hk => by cases hk), .inr hb⟩

theorem wpList_append_known (w : World) {ops : Array Oper} {rest : List Oper} {o : Oper} {a : Act} {Q : Exit → Act → World → Prop} (hgd : o.guard = none) (d s : Operand) (t t' : TypeId)
    (ho : o.op = .call { callee := .builtin .append, args := #[d, s], argTypes := #[t, t'] }) (v u : Value) (hd : a.eval d = v) (hs : a.eval s = u) {v' : Value} {w' : World}
    (hr : (Builtin.append_ #[t, t'] o.type #[v, u]).run P w = .ok v' w') (h : wpList P ops Q rest (a.put o.dst v') w') : wpList P ops Q (o :: rest) a w := by
  refine wpList_plain hgd fun _ hK => ?_
  unfold Oper.wp execOp
  simp only [ho, resolve, invoke, builtin, Sem.run_bind, Sem.run_pure, Result.andThen_ok, List.map_toArray, List.map_cons, List.map_nil, hd, hs, hr]
  exact hK _ _ h
/-- The same, for the walk. -/
theorem wpList_append_at {ops : Array Oper} {rest : List Oper} {o : Oper} {a : Act} {Q : Exit → Act → World → Prop} (hgd : o.guard = none) (s x : Operand) (t : TypeId)
    (ho : o.op = .call { callee := .builtin .append, args := #[s, x], argTypes := #[t, t] })
    (e : TypeId) (i : TypeInfo) (z : Value) (size bytes : Nat) (ht : P.underlying t = some (.slice e)) (hi : P.info? e = some i) (hz : i.zero = some z)
    (hsize : i.size = size) (hby : i.bytes = bytes) (hzs : z.cells.size = size) (hsz : 0 < size)
    (v : Value) (n : Nat) (xs : List Value) (hs : a.eval s = v) (hown : OwnsAt w e size v n xs)
    (ad : Addr) (m c : Nat) (news : List Value) (hx : a.eval x = .slice (some ad) m c) (hl : news.length = m * size) (hnews : ∀ j u, news[j]? = some u → w.cell? (ad.add j) = some u) (h1 : ∀ u ∈ news, u.oneCell' = true)
    (hm : 0 < m) (h63 : n + m ≤ maxLen) (hbytes : (n + m) * bytes ≤ 140737488355328)
    (h : ∀ g p cap w', OwnsAt w' e size (.slice (some ⟨g, p, none⟩) (n + m) cap) (n + m) (xs ++ news) → But (fun j => v.ownBlock = some j) w w' → (v.ownBlock = some g ∨ w.heap.size ≤ g) → wpList P ops Q rest (a.put o.dst (.slice (some ⟨g, p, none⟩) (n + m) cap)) w') : wpList P ops Q (o :: rest) a w := by
  obtain ⟨g, p, cap, w', hr, h2, h3, h4⟩ := run_append_at (P := P) w t o.type e i z size bytes ht hi hz hsize hby hzs hsz v n xs hown ad m c news hl hnews h1 hm h63 hbytes
  exact wpList_append_known w hgd s x t t ho v _ hs hx hr (h g p cap w' h2 h3 h4)
end
end Go.Proofs.Ytbkpndgadgafiae
