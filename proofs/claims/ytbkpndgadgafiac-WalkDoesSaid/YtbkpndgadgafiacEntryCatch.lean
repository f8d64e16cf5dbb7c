
/-
  Package entry's looks, which give up by a panic of their own and are caught, return what plain functions of their arguments say, and leave all memory that was there as it was.
-/
import Derived.Test.YtbkpndgadgafiacPage
import Derived.Test.YtbkpndgadgafiacPlainE
import Derived.Defers
import Derived.Recover
namespace Go.Proofs.Ytbkpndgadgafiac
open Go.RowKit Go.Sort
set_option linter.unusedVariables false

/-- How a look ends that has found a code; 0: it looked to the end. -/
def give (c : Int) : Ending := if c = 0 then .returned (.tuple #[]) else .panicked [{ v := .iface 149 (.agg #[.int .i64 c]), recovered := false }]
theorem give_zero : give 0 = .returned (.tuple #[]) := rfl
theorem give_code {c : Int} (h : c ≠ 0) : give c = .panicked [{ v := .iface 149 (.agg #[.int .i64 c]), recovered := false }] := if_neg h

theorem giveUpIf_no (c : Int) (w : World) :
    Calls Try.prog 113 #[.bool false, .int .i64 c] w fun e w' => e = .returned (.tuple #[]) ∧ w' = w := by
  go_enter Try.func113, Try.ntmps113
  go_wp2
  go_end0
  exact ⟨rfl, rfl⟩

theorem giveUpIf_yes (c : Int) (w : World) :
    Calls Try.prog 113 #[.bool true, .int .i64 c] w fun e w' => e = .panicked [{ v := .iface 149 (.agg #[.int .i64 c]), recovered := false }] ∧ w' = w := by
  go_enter Try.func113, Try.ntmps113
  go_wp2
  exact ⟨rfl, rfl, rfl⟩

theorem giveUpIf_any (so : Bool) (c : Int) (w : World) :
    Calls Try.prog 113 #[.bool so, .int .i64 c] w fun e w' => e = (bif so then .panicked [{ v := .iface 149 (.agg #[.int .i64 c]), recovered := false }] else .returned (.tuple #[])) ∧ w' = w := by
  cases so
  · exact giveUpIf_no c w
  · exact giveUpIf_yes c w

theorem catch_tmps (p : Addr) (v : Value) : #[Value.pointer (some p)] ++ ((Array.replicate 16 undef).setIfInBounds 3 v).setIfInBounds 0 v = #[.pointer (some p), v, undef, undef, v, undef, undef, undef, undef, undef, undef, undef, undef, undef, undef, undef, undef] := rfl

theorem catch_idle (p : Addr) (w : World) :
    CallsD Try.prog 111 #[.pointer (some p)] .returning w fun e u' w' => e = .returned (.tuple #[]) ∧ u' = .returning ∧ w' = w := by
  refine callsD_of_wpS Try.func111 rfl fun c₀ cs hu => ?_
  apply wpS_seq
  apply wpS_region
  simp [wpOpsS, go_sem, recoverD, hu, Try.ntmps111, Exit.thenS]
  refine wpS_of_wp ?_
  rw [catch_tmps]
  go_wp2
  cases c₀
  simp_all [bodyPostS, results, Try.results111]

theorem catch_up (p : Addr) (c : Int) (w : World) (hc : w.cell? p = some (.int .i64 0)) (hz : w.frozen? p = false) :
    CallsD Try.prog 111 #[.pointer (some p)] (.panicking [{ v := .iface 149 (.agg #[.int .i64 c]), recovered := false }]) w fun e u' w' =>
      e = .returned (.tuple #[]) ∧ u' = .panicking [{ v := .iface 149 (.agg #[.int .i64 c]), recovered := true }] ∧ w'.cell? p = some (.int .i64 c) ∧ Below p.block w w' := by
  have hta : ∀ (v : Value) (w : World), (Instr.typeAssert (.iface 149 v) 20 149 true).run Try.prog w = .ok (.tuple #[v, .bool true]) w := fun _ _ => by kernel_rfl
  have hlt : p.block < w.heap.size := World.block_lt_of_cell? _ _ hc
  have hz2 : ∀ o, (w.alloc o).frozen? p = false := fun o => ((balloc (brefl w) o).frozen hlt).trans hz
  have hc2 : ∀ o, (w.alloc o).cell? p = some (.int .i64 0) := fun o => ((balloc (brefl w) o).cell hlt).trans hc
  refine callsD_of_wpS Try.func111 rfl fun c₀ cs hu => ?_
  apply wpS_seq
  apply wpS_region
  simp [wpOpsS, go_sem, recoverD, hu, Try.ntmps111, Exit.thenS]
  refine wpS_of_wp ?_
  rw [catch_tmps]
  go_wp2
  refine ⟨rfl, _, rfl, .tuple #[], by simp [results, Try.results111], rfl, rfl, World.cell?_setCell_same _ _ _ (hc2 _), ((Below.refl p.block w).alloc (by omega) _).setCell (Nat.le_refl _) _⟩

theorem caught_any (f : FuncId) (caps : Array Value) (c : Int) (R : World → Prop) (w : World)
    (hf : ∀ w, (callFunc f caps).run Try.prog w = .ok (.enter f caps) w) (h : Calls Try.prog f caps (w.alloc (.cells #[.int .i64 0] 3)) fun e w' => e = give c ∧ R w' ∧ w'.cell? ⟨w.heap.size, 0, none⟩ = some (.int .i64 0) ∧ w'.frozen? ⟨w.heap.size, 0, none⟩ = false) :
    Calls Try.prog 101 #[.func (.func f) #[] caps] w fun e w' => e = .returned (.int .i64 c) ∧ ∃ w1, R w1 ∧ Below w.heap.size w1 w' := by
  have hmf : ∀ (fn : Fn) (first cap : Array Value) (w : World), (Instr.makeFunc fn first cap).run Try.prog w = .ok (.func fn first cap) w := fun _ _ _ _ => rfl
  go_enter_defers Try.func101, Try.ntmps101
  go_wp2_with fail
  refine h.mono ?_
  rintro e w1 ⟨rfl, hR, hc, hz⟩
  by_cases h0 : c = 0
  · rw [h0, give_zero]
    go_wp2_with fail
    refine leaves_cons (f := 111) (args := #[.pointer (some ⟨w.heap.size, 0, none⟩)]) (by simp) (by simp [go_sem]) ?_
    refine (catch_idle ⟨w.heap.size, 0, none⟩ _).mono ?_
    rintro e u' w'' ⟨rfl, rfl, rfl⟩
    simp [Leaves, settle, results, Try.results101, go_sem, hc]
    exact ⟨h0.symm, w1, hR, (Below.refl w.heap.size w1).setCell (p := ⟨w.heap.size, 0, none⟩) (Nat.le_refl _) _⟩
  · rw [give_code h0]
    go_wp2_with fail
    refine leaves_cons (f := 111) (args := #[.pointer (some ⟨w.heap.size, 0, none⟩)]) (by simp) (by simp [go_sem]) ?_
    refine (catch_up ⟨w.heap.size, 0, none⟩ c _ hc hz).mono ?_
    rintro e u' w'' ⟨rfl, rfl, hc', hb⟩
    simp [Leaves, settle, results, Try.results101, go_sem, hc']
    exact ⟨w1, hR, hb⟩

theorem mustBeLevel_yes (lv : Int) (h : lv < 0 ∨ 3 < lv) (w : World) :
    Calls Try.prog 112 #[.int .i64 lv] w fun e w' => e = .panicked [{ v := .iface 149 (.agg #[.int .i64 1]), recovered := false }] ∧ w' = w := by
  rcases h with h | h
  all_goals
    go_enter Try.func112, Try.ntmps112
    go_wp2_with (go_at_call 113; refine (giveUpIf_yes _ _).mono ?_; rintro e w' ⟨rfl, rfl⟩)
    exact ⟨rfl, rfl, rfl⟩

theorem mustBeLevel_no (lv : Int) (h : 0 ≤ lv) (h' : lv ≤ 3) (w : World) :
    Calls Try.prog 112 #[.int .i64 lv] w fun e w' => e = .returned (.tuple #[]) ∧ w' = w := by
  have d1 : decide (lv < 0) = false := by simpa using h
  have d2 : decide (3 < lv) = false := by simpa using h'
  clear h h'
  go_enter Try.func112, Try.ntmps112
  go_wp2_with (go_at_call 113; refine (giveUpIf_no _ _).mono ?_; rintro e w' ⟨rfl, rfl⟩)
  go_end0
  exact ⟨rfl, rfl⟩

end Go.Proofs.Ytbkpndgadgafiac
