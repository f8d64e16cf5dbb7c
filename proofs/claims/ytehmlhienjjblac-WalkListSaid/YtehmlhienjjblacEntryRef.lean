
/-
  The document's own answers on entries are plain functions.
-/
import Derived.Test.YtehmlhienjjblacPlainE
import Derived.Test.YtehmlhienjjblacRefSpan
import Derived.BigGuardPart
namespace Go.Proofs.Ytehmlhienjjblac
open Go.RowKit Go.Sort
set_option linter.unusedVariables false

set_option maxHeartbeats 4000000 in
theorem entryFault_any (t l : Bool) (r : Int) (u d : Bool) (f lv : Int) (w : World) :
    Calls Try.prog 37 #[.agg #[.bool t, .bool l, .int .i64 r, .bool u, .bool d, .int .i64 f], .int .i64 lv] w fun e w' => e = .returned (.int .i64 (Pg.eFault t l r u d f lv)) ∧ Below w.heap.size w w' := by
  by_cases hl : lv < 0 ∨ 3 < lv
  · have HF : Hid (Pg.eFault t l r u d f lv = 1) := by simp [Hid, Pg.eFault, hl]
    rcases hl with h | h
    all_goals
      go_enter Try.func37, Try.ntmps37
      go_wp2_with fail
      go_ret
      exact ⟨by rw [HF.out]; rfl, balloc (brefl _) _⟩
  · have l0 : 0 ≤ lv := by omega
    have l3 : lv ≤ 3 := by omega
    clear hl
    cases t
    · go_enter Try.func37, Try.ntmps37
      go_wp2_with fail
      all_goals
        go_ret
        exact ⟨ret_int (by simp_all [Pg.eFault] <;> omega), balloc (brefl _) _⟩
    · have hs := Pg.span_bd lv
      have hs1 : 1 ≤ Pg.span lv ∨ lv = 3 := by rcases Pg.span_cases lv with h | h | h | h <;> omega
      go_enter Try.func37, Try.ntmps37
      go_wp2_with fail
      all_goals first
        | (go_ret; exact ⟨ret_int (by simp_all [Pg.eFault] <;> omega), balloc (brefl _) _⟩)
        | (have h1 : 1 ≤ Pg.span lv := by omega
           clear hs1
           go_quiet ((go_at_call 36; exact Calls.quiet_of_same (spanOf_any _ _)))
           go_wp2_with fail
           all_goals
             go_ret
             exact ⟨ret_int (by simp_all [Pg.eFault] <;> omega), below_drewN (balloc (brefl _) _) _⟩)

end Go.Proofs.Ytehmlhienjjblac
