
/-
  The document's own answer on a leaf's mapping is a plain function.
-/
import Derived.Test.YtbkpndgadgafiacEntryRefB
namespace Go.Proofs.Ytbkpndgadgafiac
open Go.RowKit Go.Sort
set_option linter.unusedVariables false
attribute [local go_sem] Loose.gent

set_option maxHeartbeats 4000000 in
theorem leafMap_any (t l : Bool) (r : Int) (u d : Bool) (f lv q : Int) (w : World) :
    Calls Try.prog 21 #[.agg #[.bool t, .bool l, .int .i64 r, .bool u, .bool d, .int .i64 f], .int .i64 lv, .int .i64 q] w fun e w' => e = .returned (Pg.mapV t l r u d f lv q) ∧ Below w.heap.size w w' := by
  have hno : Pg.lOk t l r u d f lv q = false ∧ ((Pg.eFault t l r u d f lv != 0) = true ∨ ((Pg.eFault t l r u d f lv != 0) = false ∧ l = false) ∨ ((Pg.eFault t l r u d f lv != 0) = false ∧ l = true ∧ q < 0) ∨ ((Pg.eFault t l r u d f lv != 0) = false ∧ l = true ∧ 0 ≤ q ∧ 4096 ≤ q)) ∨
      (Pg.lOk t l r u d f lv q = true ∧ (Pg.eFault t l r u d f lv != 0) = false ∧ l = true ∧ 0 ≤ q ∧ q < 4096 ∧ 0 ≤ lv ∧ lv ≤ 2) := by
    by_cases h1 : Pg.eFault t l r u d f lv = 0
    · cases l
      · left; refine ⟨by simp [Pg.lOk], .inr (.inl ⟨by simp [h1], rfl⟩)⟩
      · by_cases h2 : 0 ≤ q ∧ q < 4096
        · right
          obtain ⟨⟨a, b⟩, hc⟩ := Pg.fault_zero h1
          refine ⟨by simp [Pg.lOk, h1, Pg.below, h2], by simp [h1], rfl, h2.1, h2.2, a, ?_⟩
          rcases hc with ⟨_, h, _⟩ | ⟨_, _, _, _, _, ⟨_, h, _⟩ | ⟨h, _⟩⟩
          · cases h
          · exact h
          · cases h
        · left
          refine ⟨by simp [Pg.lOk, Pg.below]; intro _; omega, ?_⟩
          by_cases h3 : q < 0
          · exact .inr (.inr (.inl ⟨by simp [h1], rfl, h3⟩))
          · exact .inr (.inr (.inr ⟨by simp [h1], rfl, by omega, by omega⟩))
    · left; exact ⟨by simp [Pg.lOk, h1], .inl (by simp [h1])⟩
  rcases hno with ⟨hk, hc⟩ | ⟨hk, h1, rfl, q0, q1, l0, l2⟩
  · have HV : Hid _ := Pg.mapV_no hk
    clear hk
    rcases hc with h1 | ⟨h1, rfl⟩ | ⟨h1, rfl, h2⟩ | ⟨h1, rfl, h2, h3⟩
    all_goals
      go_enter Try.func21, Try.ntmps21
      go_wp2_with fail
      refine (entryFault_any _ _ _ _ _ _ _ _).mono ?_
      rintro e w1 ⟨rfl, hb1⟩
      obtain ⟨hc1, hf1⟩ := bcell hb1
      go_wp2_with fail
      refine bodyPost_ret ?_ rfl ⟨by rw [HV.out], ?_⟩
      · simp [results, Try.results21, go_sem, hc1]
      · exact ((((bthen (balloc (balloc (brefl _) _) _) hb1).setCell (by simp) _).setCell (by simp) _).setCell (by simp) _).setCell (by simp) _
  · have HV : Hid _ := Pg.mapV_yes hk
    clear hk
    have hs := Pg.span_bd lv
    have hs1 : 1 ≤ Pg.span lv := by rcases Pg.span_cases lv with h | h | h | h <;> omega
    have hne : ¬ Pg.span lv = 0 := by omega
    have hne2 : (Pg.span lv == 0) = false := by simpa using hne
    have hm := Int.emod_nonneg q (by omega : Pg.span lv ≠ 0)
    have hm2 := Int.emod_lt_of_pos q (by omega : 0 < Pg.span lv)
    have ht : q.tmod (Pg.span lv) = q % Pg.span lv := Int.tmod_eq_emod_of_nonneg q0
    have hwr : IntKind.i64.wrap (q - q % Pg.span lv) = q - q % Pg.span lv := wrap_i64_in (by omega) (by omega)
    go_enter Try.func21, Try.ntmps21
    go_wp2_with fail
    refine (entryFault_any _ _ _ _ _ _ _ _).mono ?_
    rintro e w1 ⟨rfl, hb1⟩
    have ce := later6 (v0 := .bool t) (v1 := .bool true) (v2 := .int .i64 r) (v3 := .bool u) (v4 := .bool d) (v5 := .int .i64 f) (b := w.heap.size) hb1 (by simp [go_sem])
    have cr := later4 (v0 := .int .i64 0) (v1 := .int .i64 0) (v2 := .int .i64 0) (v3 := .int .i64 0) (b := w.heap.size + 1) hb1 (by simp [go_sem])
    have fr : ∀ i, w1.frozen? ⟨w.heap.size + 1, i, none⟩ = false := fun i => by
      rw [hb1.frozen (p := ⟨w.heap.size + 1, i, none⟩) (by simp)]; simp [go_sem]
    have hB := bthen (balloc (balloc (brefl _) _) _) hb1
    clear hb1
    go_wp2_with fail
    have ke := fun d os => later6 (below_regrown w1 d os) ce
    refine Loose.wp_region_store 12 (by kernel_rfl) (by kernel_rfl) ?_
    simp only [List.take_succ_cons, List.take_zero, List.drop_succ_cons, List.drop_zero]
    repeat (
      refine Loose.wpGent_step (fun k hk => ?_)
      go_simp
      first
        | (refine hk _ ?_; clear hk k)
        | (apply Exists.intro
           refine ⟨fun _ => ?_, hk _ ?_⟩
           (go_at_call 62; exact Loose.calls_same (spanOf_any _ _))
           clear hk k))
    refine Loose.wpGent_nil ?_
    intro w' hb'
    have hlt := World.block_lt_of_cell? _ _ cr.1
    replace cr := later4 hb' cr
    have fr' : ∀ i, w'.frozen? ⟨w.heap.size + 1, i, none⟩ = false := fun i => by
      rw [hb'.frozen (p := ⟨w.heap.size + 1, i, none⟩) hlt]; exact fr i
    replace hB := bthen hB hb'
    clear hb' fr ke ce
    go_wp2_with fail
    refine bodyPost_ret ?_ rfl ⟨by rw [HV.out], ?_⟩
    · simp [results, Try.results21, go_sem, cr]
    · exact (((hB.setCell (by simp) _).setCell (by simp) _).setCell (by simp) _).setCell (by simp) _
end Go.Proofs.Ytbkpndgadgafiac
