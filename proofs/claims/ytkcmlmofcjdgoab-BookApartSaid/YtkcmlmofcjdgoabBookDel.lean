
/-
  What the library's functions on lists of mappings come to: one more at a place, one less: over rows of mappings.
-/
import Derived.Test.YtkcmlmofcjdgoabBookIns
namespace Go.Proofs.Ytkcmlmofcjdgoab
open Go.RowKit Go.Sort
set_option linter.unusedVariables false
set_option maxRecDepth 100000

/-- One more at a place. -/
theorem insert_any {vb : Value} {k V : Nat} {L : List Pg.Mp} {m : Pg.Mp} {tV : TypeId} (w : World) (hr : w.ownsRow 0 62 4 vb L.length (mpCells L)) (hn : L.length ≤ 4096) (hk : k ≤ L.length)
    (hV : w.heap[V]? = some (.cells #[.int .i64 m.p, .int .i64 m.s, .int .i64 m.f, .int .i64 m.r] tV)) (hvV : vb.ownBlock ≠ some V) :
    Calls Try.prog 55 #[vb, .int .i64 k, .slice (some ⟨V, 0, none⟩) 1 1] w fun e w' => ∃ v', e = .returned v' ∧ w'.ownsRow 0 62 4 v' (L.length + 1) (mpCells (L.take k ++ m :: L.drop k)) ∧ But (fun j => vb.ownBlock = some j) w w' ∧ ∀ j, v'.ownBlock = some j → vb.ownBlock = some j ∨ w.heap.size ≤ j := by
  have h1 : ∀ u, u ∈ [Value.int .i64 m.p, .int .i64 m.s, .int .i64 m.f, .int .i64 m.r] → u.oneCell' = true := by
    intro u hu
    simp at hu
    rcases hu with rfl | rfl | rfl | rfl <;> rfl
  have hcut : ∀ j, (mpCells L).take (j * 4) = mpCells (L.take j) ∧ (mpCells L).drop (j * 4) = mpCells (L.drop j) := by
    intro j
    by_cases hj : j ≤ L.length
    · have e : mpCells L = mpCells (L.take j) ++ mpCells (L.drop j) := by rw [← mpCells_append, List.take_append_drop]
      have hl : (mpCells (L.take j)).length = j * 4 := by rw [mpCells_len, List.length_take]; congr 1; omega
      exact ⟨by rw [e, List.take_left' hl], by rw [e, List.drop_left' hl]⟩
    · have hl := mpCells_len L
      rw [List.take_of_length_le (by omega), List.take_of_length_le (l := L) (by omega), List.drop_eq_nil_of_le (by omega), List.drop_eq_nil_of_le (show L.length ≤ j by omega)]
      exact ⟨rfl, rfl⟩
  have hm : mpCells (L.take k ++ m :: L.drop k) = (mpCells L).take (k * 4) ++ [Value.int .i64 m.p, .int .i64 m.s, .int .i64 m.f, .int .i64 m.r] ++ (mpCells L).drop (k * 4) := by
    rw [(hcut k).1, (hcut k).2, ← mpCells_one m, ← mpCells_append, ← mpCells_append, List.append_assoc]
    rfl
  rw [hm]
  by_cases hkn : k = L.length
  · subst hkn
    have hl := mpCells_len L
    rw [List.take_of_length_le (by omega), List.drop_eq_nil_of_le (by omega), List.append_nil]
    exact insertEnd_any w hr hn hV h1
  · obtain ⟨_, hrr⟩ := hr
    rcases hrr with ⟨_, e0⟩ | ⟨g, cap, cur, rfl, _, hg, hc1, hc2, hc3, hc4⟩
    · omega
    · have hgV : V ≠ g := fun e => hvV (by rw [e]; rfl)
      have hx1 := mpCells_one' L
      have hlt : g < w.heap.size := (Array.getElem?_eq_some_iff.1 hg).1
      by_cases hroom : L.length + 1 ≤ cap
      · refine (insertRoom_any w hg hn (by omega) hroom (by unfold maxLen at hc2; omega) hc3 hc4 hx1 hV hgV h1).mono ?_
        rintro e w' ⟨rfl, h2, h3⟩
        refine ⟨_, rfl, h2, h3.mono fun i _ hi => by rw [hi]; rfl, fun j hj => .inl hj⟩
      · refine (insertGrow_any w hg hn (by omega) (by omega) hc1 hc3 hc4 hx1 hV h1).mono ?_
        rintro e w' ⟨G, rfl, h2, h3⟩
        refine ⟨_, rfl, h2, h3.mono fun i _ hi => by rw [hi]; rfl, fun j hj => .inr ?_⟩
        simp only [Value.ownBlock, Option.some.injEq] at hj
        omega

set_option maxHeartbeats 4000000 in
/-- One less: in place. -/
theorem delete_raw {g cap n k : Nat} {cur : Array Value} {xs : List Value} (w : World) (hg : w.heap[g]? = some (.cells cur 62 (0, 0))) (hn : n ≤ 4096) (hk : k < n) (hcap0 : n ≤ cap) (hcap : cap ≤ 9223372036854775807)
    (hcs : cur.size = cap * 4) (hx : cur.toList.take (n * 4) = xs) (h1x : ∀ u, u ∈ xs → u.oneCell' = true) :
    Calls Try.prog 58 #[.slice (some ⟨g, 0, none⟩) n cap, .int .i64 k, .int .i64 (k + 1)] w fun e w' => e = .returned (.slice (some ⟨g, 0, none⟩) (n - 1) cap) ∧
      w'.ownsRow 0 62 4 (.slice (some ⟨g, 0, none⟩) (n - 1) cap) (n - 1) (xs.take (k * 4) ++ xs.drop ((k + 1) * 4)) ∧ But (fun j => j = g) w w' := by
  obtain ⟨q0, hqi, hz0, hzz1, hzz2⟩ := info_parts infoMap
  have hxl : xs.length = n * 4 := by rw [← hx, List.length_take, Array.length_toList, hcs]; omega
  have hdl : (xs.drop ((k + 1) * 4)).length = (n - (k + 1)) * 4 := by rw [List.length_drop, hxl]; omega
  have hcx : ∀ j u, xs[j]? = some u → w.drew.cell? ⟨g, j, none⟩ = some u := fun j u hu => by
    rw [cell_of_row w.drew g j cur _ _ hg]
    rw [← hx, List.getElem?_take] at hu
    split at hu
    · simpa using hu
    · cases hu
  obtain ⟨C1, hC1⟩ : ∃ C1 : List Value, C1 = cur.toList.take (k * 4) ++ xs.drop ((k + 1) * 4) ++ cur.toList.drop (k * 4 + (xs.drop ((k + 1) * 4)).length) := ⟨_, rfl⟩
  have hC1l : C1.length = cap * 4 := by rw [hC1]; simp only [List.length_append, List.length_take, List.length_drop, Array.length_toList, hcs, hxl]; omega
  obtain ⟨W1, hW1⟩ : ∃ W1, W1 = w.drew.setRow g C1.toArray := ⟨_, rfl⟩
  have hap : ∀ ty o l c, l = n - (k + 1) → (o = (k + 1) * 4 ∨ n = k + 1) → (Builtin.append_ #[58, 58] ty #[.slice (some ⟨g, 0, none⟩) k cap, .slice (some ⟨g, o, none⟩) l c]).run Try.prog w.drew = .ok (.slice (some ⟨g, 0, none⟩) (n - 1) cap) W1 := by
    intro ty o l c hl ho
    subst hl
    have := run_append_room (P := Try.prog) w.drew 58 ty 62 q0 Try.underlying58 hqi g k cap cur hg ⟨g, o, none⟩ (n - (k + 1)) c (xs.drop ((k + 1) * 4)) (by rw [hdl, hzz1])
      (fun j u hj => by
        rcases ho with rfl | ho
        · rw [Addr.add_lit]; exact hcx ((k + 1) * 4 + j) u (by rwa [List.getElem?_drop] at hj)
        · have h0 : (xs.drop ((k + 1) * 4)).length = 0 := by rw [hdl]; omega
          rw [List.length_eq_zero_iff.1 h0] at hj
          simp at hj) (fun u hu => h1x u (List.mem_of_mem_drop hu)) (by omega) (by rw [hdl, hzz1, hcs]; omega)
    rw [hzz1, ← hC1, ← hW1, show k + (n - (k + 1)) = n - 1 by omega] at this
    exact this
  have hg1 : W1.heap[g]? = some (.cells C1.toArray 62 (0, 0)) := by rw [hW1]; exact setRow_heap w.drew g cur _ _ _ hg
  have hB1 : But (fun j => j = g) w W1 := by rw [hW1]; exact (But.refl (fun j => j = g) w).drew.setRow (.inr rfl) _
  obtain ⟨W2, hW2⟩ : ∃ W2, W2 = W1.setRow g (C1.take ((n - 1) * 4) ++ [Value.int .i64 0, .int .i64 0, .int .i64 0, .int .i64 0] ++ C1.drop ((n - 1) * 4 + 4)).toArray := ⟨_, rfl⟩
  have hclr : ∀ ty o l c, o = (n - 1) * 4 → l = 1 → (Builtin.clear_ #[58] ty #[.slice (some ⟨g, o, none⟩) l c]).run Try.prog W1 = .ok (.tuple #[]) W2 := by
    intro ty o l c ho hl
    subst ho hl
    have hzl : (Builtin.zeroCells (Value.agg #[.int .i64 0, .int .i64 0, .int .i64 0, .int .i64 0]).cells 1).toList = [.int .i64 0, .int .i64 0, .int .i64 0, .int .i64 0] := by kernel_rfl
    have hv : ∀ w, (zeroValue 62).run Try.prog w = .ok (.agg #[.int .i64 0, .int .i64 0, .int .i64 0, .int .i64 0]) w := fun w => by simp [zeroValue, typeInfo, hqi, hz0]
    have := run_clear_wide (P := Try.prog) W1 58 62 ty 62 _ Try.underlying58 hv g ((n - 1) * 4) 1 c (by decide) C1.toArray hg1 (by
      show (n - 1) * 4 + 1 * 4 ≤ C1.toArray.size
      simp only [List.size_toArray, hC1l]
      omega) (by rw [hzl]; decide)
    rw [hzl] at this
    rw [this, hW2]
    rfl
  have hg2 : W2.heap[g]? = some (.cells (C1.take ((n - 1) * 4) ++ [Value.int .i64 0, .int .i64 0, .int .i64 0, .int .i64 0] ++ C1.drop ((n - 1) * 4 + 4)).toArray 62 (0, 0)) := by rw [hW2]; exact setRow_heap W1 g _ _ _ _ hg1
  have HB : Hid (But (fun j => j = g) w W2) := by rw [hW2]; exact hB1.setRow (.inr rfl) _
  have HO : Hid (W2.ownsRow 0 62 4 (.slice (some ⟨g, 0, none⟩) (n - 1) cap) (n - 1) (xs.take (k * 4) ++ xs.drop ((k + 1) * 4))) := by
    have e := row_shut (c := cur.toList) (xs := xs) (zs := [Value.int .i64 0, .int .i64 0, .int .i64 0, .int .i64 0]) (z := 4) (n := n) (k := k) hk (by rw [Array.length_toList, hcs]; omega) hx
    simp only [← hC1] at e
    refine ⟨by rw [List.length_append, hdl, List.length_take, hxl]; omega, .inr ⟨g, cap, _, rfl, Nat.zero_le _, hg2, by omega, by unfold maxLen; omega, ?_, ?_⟩⟩
    · simp only [List.size_toArray, List.length_take, List.length_append, List.length_drop, hC1l, List.length_cons, List.length_nil]; omega
    · exact e
  have hb1 : (k : Int) + 1 ≤ (n : Int) := by omega
  have htn : ((k : Int) + 1).toNat = k + 1 := by omega
  have hb0 : (0 : Int) ≤ (k : Int) + 1 := by omega
  have hb2 : (k : Int) ≤ (k : Int) + 1 := by omega
  have hb3 : ¬ ((k : Int) = (k : Int) + 1) := by omega
  have hb4 : (k : Int) ≤ (cap : Int) := by omega
  have hb5 : k ≤ cap := by omega
  have hb6 : n - 1 ≤ n := by omega
  have hb7 : n - (n - 1) = 1 := by omega
  have hb8 : ¬ (cap = n - 1) := by omega
  clear hg hx h1x hcx hC1 hC1l hW1 hg1 hB1 hW2 hg2 hcs hxl hdl hqi hz0 hzz1 hzz2
  by_cases hck : cap = k + 1
  · obtain rfl : n = k + 1 := by omega
    subst hck
    have HO' := HO.out
    simp only [Nat.add_sub_cancel, Nat.sub_self] at hap hclr HO' ⊢
    have HO'' : Hid _ := HO'
    clear HO HO' hb1 hb2 hb3 hb4 hb5 hb6 hb7 hb8
    have hb2 : (k : Int) ≤ (k : Int) + 1 := by omega
    have hb3 : ¬ ((k : Int) = (k : Int) + 1) := by omega
    have hb4 : ¬ (k + 1 = k) := by omega
    have hb5 : k + 1 - k = 1 := by omega
    go_enter Try.func58, Try.ntmps58
    go_wp2_with fail
    go_region_law (refine step_append_known rfl (.tmp 22) (.tmp 25) 58 58 rfl (.slice (some ⟨g, 0, none⟩) k (k + 1)) (.slice (some ⟨g, 0, none⟩) 0 0) (by simp [Act.eval, Act.put]) (by simp [Act.eval, Act.put]) (hap _ _ _ _ rfl (.inr trivial)) ?_)

    go_wp2_with (at_builtin; refine wpList_clear_known _ rfl _ 58 rfl _ rfl (hclr _ _ _ _ (by omega) (by omega)) ?_)
    go_ret
    exact ⟨rfl, HO''.out, HB.out⟩
  · go_enter Try.func58, Try.ntmps58
    go_wp2_with fail
    go_region_law (refine step_append_known rfl (.tmp 22) (.tmp 25) 58 58 rfl (.slice (some ⟨g, 0, none⟩) k cap) (.slice (some ⟨g, (k + 1) * 4, none⟩) (n - (k + 1)) (cap - (k + 1))) (by simp [Act.eval, Act.put]) (by simp [Act.eval, Act.put]) (hap _ _ _ _ rfl (.inl rfl)) ?_)
    go_wp2_with (at_builtin; refine wpList_clear_known _ rfl _ 58 rfl _ rfl (hclr _ _ _ _ (by omega) (by omega)) ?_)
    go_ret
    exact ⟨rfl, HO.out, HB.out⟩
end Go.Proofs.Ytkcmlmofcjdgoab
