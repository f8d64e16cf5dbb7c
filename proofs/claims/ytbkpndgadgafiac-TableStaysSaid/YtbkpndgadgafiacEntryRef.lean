
/-
  The document's own answers on entries are plain functions.
-/
import Derived.Test.YtbkpndgadgafiacPlainE
import Derived.Test.YtbkpndgadgafiacRefSpan
import Derived.BigGuardPart
namespace Go.Proofs.Ytbkpndgadgafiac
open Go.RowKit Go.Sort
set_option linter.unusedVariables false

set_option maxHeartbeats 4000000 in
theorem entryFault_any (t l : Bool) (r : Int) (u d : Bool) (f lv : Int) (w : World) :
    Calls Try.prog 63 #[.agg #[.bool t, .bool l, .int .i64 r, .bool u, .bool d, .int .i64 f], .int .i64 lv] w fun e w' => e = .returned (.int .i64 (Pg.eFault t l r u d f lv)) ∧ Below w.heap.size w w' := by
  by_cases hl : lv < 0 ∨ 3 < lv
  · have HF : Hid (Pg.eFault t l r u d f lv = 1) := by simp [Hid, Pg.eFault, hl]
    rcases hl with h | h
    all_goals
      go_enter Try.func63, Try.ntmps63
      go_wp2_with fail
      go_ret
      exact ⟨by rw [HF.out]; rfl, balloc (brefl _) _⟩
  · have l0 : 0 ≤ lv := by omega
    have l3 : lv ≤ 3 := by omega
    clear hl
    cases t
    · go_enter Try.func63, Try.ntmps63
      go_wp2_with fail
      all_goals
        go_ret
        exact ⟨ret_int (by simp_all [Pg.eFault] <;> omega), balloc (brefl _) _⟩
    · have hs := Pg.span_bd lv
      have hs1 : 1 ≤ Pg.span lv ∨ lv = 3 := by rcases Pg.span_cases lv with h | h | h | h <;> omega
      go_enter Try.func63, Try.ntmps63
      go_wp2_with fail
      all_goals first
        | (go_ret; exact ⟨ret_int (by simp_all [Pg.eFault] <;> omega), balloc (brefl _) _⟩)
        | (have h1 : 1 ≤ Pg.span lv := by omega
           clear hs1
           go_quiet ((go_at_call 62; exact Calls.quiet_of_same (spanOf_any _ _)))
           go_wp2_with fail
           all_goals
             go_ret
             exact ⟨ret_int (by simp_all [Pg.eFault] <;> omega), below_drewN (balloc (brefl _) _) _⟩)

set_option maxHeartbeats 4000000 in
theorem wordOf_any (t l : Bool) (r : Int) (u d : Bool) (f lv : Int) (w : World) :
    Calls Try.prog 69 #[.agg #[.bool t, .bool l, .int .i64 r, .bool u, .bool d, .int .i64 f], .int .i64 lv] w fun e w' =>
      e = .returned (.tuple #[.int .u64 (Pg.enc t l r u d f lv), .int .i64 (Pg.eFault t l r u d f lv)]) ∧ Below w.heap.size w w' := by
  by_cases hf : Pg.eFault t l r u d f lv = 0
  · have hn : (Pg.eFault t l r u d f lv != 0) = false := by simp [hf]
    have HW : Hid (Pg.enc t l r u d f lv = Pg.eWord t l r u d f lv) := by simp [Hid, Pg.enc, hf]
    have HF : Hid (Pg.eFault t l r u d f lv = 0) := hf
    have hb : t = false ∨ (t = true ∧ 0 ≤ r ∧ r ≤ 7 ∧ 0 ≤ f ∧ f < 1048576) := by
      cases t
      · exact .inl rfl
      · right
        have := hf
        simp only [Pg.eFault] at this
        refine ⟨rfl, ?_⟩
        split at this
        · omega
        · rename_i hb
          simp only [Bool.true_eq_false, if_false] at this
          split at this
          · omega
          · omega
    clear hf
    rcases hb with rfl | ⟨rfl, r0, r1, f0, f1⟩
    · go_enter Try.func69, Try.ntmps69
      go_wp2_with fail
      refine (entryFault_any _ _ _ _ _ _ _ _).mono ?_
      rintro e w1 ⟨rfl, hb1⟩
      obtain ⟨hc1, hf1⟩ := bcell hb1
      go_wp2_with fail
      go_ret2
      exact ⟨ret_int2 (by rw [HW.out]; rfl) HF.out.symm, bthen (balloc (brefl _) _) hb1⟩
    · go_enter Try.func69, Try.ntmps69
      go_wp2_with fail
      refine (entryFault_any _ _ _ _ _ _ _ _).mono ?_
      rintro e w1 ⟨rfl, hb1⟩
      obtain ⟨hc1, hf1⟩ := bcell hb1
      go_wp2_with fail
      all_goals
        go_ret2
        exact ⟨ret_int2 (by have := HW.out; simp_all [Pg.eWord, Pg.b01] <;> omega) (by have := HF.out; simp_all), bthen (balloc (brefl _) _) hb1⟩
  · have hn : (Pg.eFault t l r u d f lv != 0) = true := by simp [hf]
    have HW : Hid (Pg.enc t l r u d f lv = 0) := by simp [Hid, Pg.enc, hf]
    clear hf
    go_enter Try.func69, Try.ntmps69
    go_wp2_with fail
    refine (entryFault_any _ _ _ _ _ _ _ _).mono ?_
    rintro e w1 ⟨rfl, hb1⟩
    obtain ⟨hc1, hf1⟩ := bcell hb1
    go_wp2_with fail
    go_ret2
    exact ⟨ret_int2 HW.out.symm rfl, bthen (balloc (brefl _) _) hb1⟩
end Go.Proofs.Ytbkpndgadgafiac
