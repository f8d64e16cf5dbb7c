
/-
  How many pages a size has, by the document, is a plain function.
-/
import Derived.Test.YtbkpndgadgafiacChecked
import Derived.Test.YtbkpndgadgafiacBase
namespace Go.Proofs.Ytbkpndgadgafiac
open Go.RowKit
set_option linter.unusedVariables false

theorem spanOf_any (s : Int) (w : World) :
    Calls Try.prog 62 #[.int .i64 s] w fun r w' => r = .returned (.int .i64 (Pg.span s)) ∧ w' = w := by
  by_cases hs : 0 ≤ s ∧ s ≤ 2
  · obtain ⟨s0, s2⟩ := hs
    go_enter Try.func62, Try.ntmps62
    go_wp2
    go_loop [3, 4] (fun n i => ∃ (k m : Int), 0 ≤ k ∧ k ≤ s ∧ i = .int .i64 k ∧ n = .int .i64 m ∧ 0 ≤ m ∧ m ≤ 64 ∧ Hid (m = Pg.span k)) (fun _ i => (s - intOf i).toNat)
    case atStart => exact ⟨0, 1, by omega, by omega, rfl, rfl, by omega, by omega, rfl⟩
    case round =>
      obtain ⟨k, m, k0, k1, rfl, rfl, m0, m1, HM⟩ := hrel
      by_cases hlt : k < s
      · have H1 : Hid (m * 8 = Pg.span (k + 1)) := by
          have : k = 0 ∨ k = 1 := by omega
          have e := HM.out
          rcases this with rfl | rfl <;> simp [Hid, Pg.span] at * <;> omega
        go_wp2
        go_round
        case rel => exact ⟨k + 1, m * 8, by omega, by omega, rfl, rfl, by omega, by have := Pg.span_bd (k + 1); have := H1.out; omega, H1⟩
        case measure => simp [intOf]; omega
      · go_wp2
        go_ret
        have : k = s := by omega
        exact ⟨by rw [← this, ← HM.out]; rfl, rfl⟩
  · have H : Hid (Pg.span s = 0) := by rcases Pg.span_cases s with h | h | h | h <;> simp only [Hid] <;> omega
    by_cases hn : s < 0
    · have hd : decide (s < 0) = true := by simpa using hn
      clear hs
      go_enter Try.func62, Try.ntmps62
      go_wp2
      go_ret
      exact ⟨by rw [H.out]; rfl, rfl⟩
    · have hd : decide (s < 0) = false := by simpa using hn
      have h3 : 2 < s := by omega
      have hd2 : decide (2 < s) = true := by simpa using h3
      clear hs
      go_enter Try.func62, Try.ntmps62
      go_wp2
      go_ret
      exact ⟨by rw [H.out]; rfl, rfl⟩

end Go.Proofs.Ytbkpndgadgafiac
