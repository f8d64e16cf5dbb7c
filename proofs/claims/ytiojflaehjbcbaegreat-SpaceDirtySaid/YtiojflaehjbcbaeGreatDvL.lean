
/-
  The developers' space: Find; and what more is asked of a space.
-/
import Derived.Test.YtiojflaehjbcbaeGreatDvI
namespace Go.Proofs.YtiojflaehjbcbaeGreat
open Go.RowKit Go.Sort
set_option linter.unusedVariables false
set_option linter.unusedSimpArgs false
set_option maxRecDepth 100000
attribute [local go_sem] Loose.gent

/-- What more is asked of a space: where a page leads, which access is on its way. -/
structure SpMore (P : World → Nat → Pg.Spc → (Nat → Prop) → Prop) : Prop where
  find : ∀ (p : Int) (w : World) {b X F}, P w b X F → Calls Tryz.prog 27 #[.pointer (some ⟨b, 0, none⟩), .int .i64 p] w fun e w' => e = .returned (.tuple #[(Pg.tFM X.S 0 p).val, (Pg.tFE X.S 0 p).val, .int .i64 (Pg.tFC X.S 0 p)]) ∧ Below w.heap.size w w'
  on : ∀ (k : Int) (w : World) {b X F}, P w b X F → Calls Tryz.prog 14 #[.pointer (some ⟨b, 0, none⟩), .int .i64 k] w fun e w' => e = .returned (.tuple #[.agg #[.int .i64 (X.walkOf k).q, .int .i64 (X.walkOf k).k, .bool (X.walkOf k).u], .bool (X.walkOf k).on]) ∧ Below w.heap.size w w'

set_option maxHeartbeats 1000000 in
theorem dvFind_any {b : Nat} {D : Dsd} {X : Pg.Spc} (p : Int) (w : World) (h : Dsk w b D X) : Calls Tryz.prog 27 #[.pointer (some ⟨b, 0, none⟩), .int .i64 p] w fun e w' => e = .returned (.tuple #[(Pg.tFM X.S 0 p).val, (Pg.tFE X.S 0 p).val, .int .i64 (Pg.tFC X.S 0 p)]) ∧ Below w.heap.size w w' := by
  obtain ⟨W, hW⟩ : ∃ W, W = (w.alloc (.cells #[.int .i64 0, .int .i64 0, .int .i64 0, .int .i64 0] 39)).alloc (.cells #[.bool false, .bool false, .int .i64 0, .bool false, .bool false, .int .i64 0] 70) := ⟨_, rfl⟩
  have hB : Below w.heap.size w W := by rw [hW]; exact balloc (balloc (brefl _) _) _
  have hWs : W.heap.size = w.heap.size + 2 := by rw [hW]; simp
  have PW := h.grow hB
  have RM : Hid (W.heap[w.heap.size]? = some (.cells #[.int .i64 0, .int .i64 0, .int .i64 0, .int .i64 0] 39 (0, 0))) := by
    rw [Hid, hW, Below.heap_alloc _ _ _ (by simp)]
    exact heap_alloc_new _ _
  have RE : Hid (W.heap[w.heap.size + 1]? = some (.cells #[.bool false, .bool false, .int .i64 0, .bool false, .bool false, .int .i64 0] 70 (0, 0))) := by
    rw [Hid, hW]
    exact (by simp : (w.alloc (.cells #[.int .i64 0, .int .i64 0, .int .i64 0, .int .i64 0] 39)).heap.size = w.heap.size + 1) ▸ heap_alloc_new _ _
  have HF := fun d os => tFind_any 0 p _ (PW.grow (below_regrown W d os)).mem
  have g0 := cell_regrown PW.c0
  have g1 := cell_regrown PW.c1
  have HB : Hid _ := hB
  clear h hB PW
  generalize Pg.tFC X.S 0 p = c at *
  generalize Pg.tFM X.S 0 p = m at *
  generalize Pg.tFE X.S 0 p = en at *
  obtain ⟨mp, ms, mf, mr⟩ := m
  obtain ⟨et, el, er, eu, ed, ef⟩ := en
  simp only [Pg.Mp.val, Pg.En.val] at HF ⊢
  go_enter Tryz.func27, Tryz.ntmps27
  go_upto_region 1 with fail
  rw [← hW]
  clear hW
  refine Loose.wp_region_late 13 (by kernel_rfl) (by kernel_rfl) ?_
  simp only [List.take_succ_cons, List.take_zero, List.drop_succ_cons, List.drop_zero]
  repeat (
    refine Loose.wpGent_step (fun k hk => ?_)
    go_simp
    first
      | (refine hk _ ?_; clear hk k)
      | (apply Exists.intro
         refine ⟨fun _ => ?_, hk _ ?_⟩
         (go_at_call 57; exact Loose.calls (HF _ _))
         clear hk k))
  refine Loose.wpGent_nil ?_
  intro w3 hb3
  have hs3 : w.heap.size + 1 < w3.heap.size := by have := hb3.size; omega
  have hs3' : w.heap.size < w3.heap.size := by omega
  obtain ⟨⟨m0, m1, m2, m3⟩, mz⟩ := row4b ((hb3.block _ (by omega)).trans RM.out)
  obtain ⟨⟨z0, z1, z2, z3, z4, z5⟩, zf⟩ := row6a ((hb3.block _ (by omega)).trans RE.out)
  have HB3 : Hid (Below w.heap.size w w3) := bthen HB.out hb3
  have n1 : w.heap.size ≠ w.heap.size + 1 := by omega
  have n2 : w.heap.size + 1 ≠ w.heap.size := by omega
  clear hb3 HF g0 g1
  go_wp2_with fail
  refine bodyPost_ret (v := .tuple #[.agg #[.int .i64 mp, .int .i64 ms, .int .i64 mf, .int .i64 mr], .agg #[.bool et, .bool el, .int .i64 er, .bool eu, .bool ed, .int .i64 ef], .int .i64 c]) ?_ rfl ⟨rfl, ?_⟩
  · simp [results, Tryz.results27, go_sem, m0, m1, m2, m3, z0, z1, z2, z3, z4, z5, hs3, hs3']
  · exact bset6 (below_set4 HB3.out _ (Nat.le_refl _) _ _ _ _) _ (by omega) _ _ _ _ _ _
theorem devMore : SpMore DvAt where
  find := fun p w _ _ _ h => by
    obtain ⟨D, h, rfl⟩ := h
    exact dvFind_any p w h
  on := fun k w _ _ _ h => by
    obtain ⟨D, h, rfl⟩ := h
    exact dvOn_any k w h
end Go.Proofs.YtiojflaehjbcbaeGreat
