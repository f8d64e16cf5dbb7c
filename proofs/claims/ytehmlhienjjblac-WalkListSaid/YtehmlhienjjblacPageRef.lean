
/-
  The document's own answers on pages and mappings are the same plain functions.
-/
import Derived.Test.YtehmlhienjjblacBase
import Derived.Test.YtehmlhienjjblacRefSpan
namespace Go.Proofs.Ytehmlhienjjblac
open Go.RowKit
set_option linter.unusedVariables false

theorem refHas_any (p s f r q : Int) (hp : Pg.fits p) (hq : Pg.fits q) (w : World) :
    Calls Try.prog 16 #[.agg #[.int .i64 p, .int .i64 s, .int .i64 f, .int .i64 r], .int .i64 q] w fun e w' => e = .returned (.bool (Pg.over p s q)) ∧ Below w.heap.size w w' := by
  have hs := Pg.span_bd s
  unfold Pg.fits at hp hq
  by_cases h : q < p
  · have HM : Hid (Pg.over p s q = false) := by simp [Hid, Pg.over]; omega
    go_enter Try.func16, Try.ntmps16
    go_wp2_with (go_at_call 36; refine (spanOf_any _ _).mono ?_; rintro e w' ⟨rfl, rfl⟩)
    go_ret
    exact ⟨by rw [HM.out]; rfl, balloc (brefl _) _⟩
  · go_enter Try.func16, Try.ntmps16
    go_wp2_with (go_at_call 36; refine (spanOf_any _ _).mono ?_; rintro e w' ⟨rfl, rfl⟩)
    go_loop [1, 6] (fun a i => ∃ k : Int, 0 ≤ k ∧ k ≤ Pg.span s ∧ k ≤ q - p ∧ i = .int .i64 k ∧ a = .int .i64 (q - k)) (fun _ i => (Pg.span s - intOf i).toNat)
    case atStart => exact ⟨0, by omega, by omega, by omega, rfl, by simp⟩
    case round =>
      obtain ⟨k, k0, k1, k2, rfl, rfl⟩ := hrel
      by_cases hlt : k < Pg.span s
      · by_cases he : q - k = p
        · have hb : (q - k == p) = true := by simpa using he
          have HM : Hid (Pg.over p s q = true) := by simp [Hid, Pg.over]; omega
          clear he
          go_wp2
          go_ret
          exact ⟨by rw [HM.out]; rfl, balloc (brefl _) _⟩
        · have hb : (q - k == p) = false := by simpa using he
          have hm : (q - k == -9223372036854775808) = false := by simp; omega
          go_wp2
          go_round
          case rel => exact ⟨k + 1, by omega, by omega, by omega, rfl, by congr 1; omega⟩
          case measure => simp [intOf]; omega
      · have HM : Hid (Pg.over p s q = false) := by simp [Hid, Pg.over]; omega
        go_wp2
        go_ret
        exact ⟨by rw [HM.out]; rfl, balloc (brefl _) _⟩

theorem indexOf_any (p l : Int) (w : World) :
    Calls Try.prog 10 #[.int .i64 p, .int .i64 l] w fun e w' => e = .returned (.int .i64 (Pg.index p l)) ∧ Below w.heap.size w w' := by
  by_cases h : (0 ≤ p ∧ p < 4096) ∧ 0 ≤ l ∧ l < 4
  · obtain ⟨⟨p0, p1⟩, l0, l1⟩ := h
    have hl : l = 0 ∨ l = 1 ∨ l = 2 ∨ l = 3 := by omega
    obtain ⟨i0, i1, i2, i3⟩ := Pg.index_at p0 p1
    have I0 : Hid _ := i0
    have I1 : Hid _ := i1
    have I2 : Hid _ := i2
    have I3 : Hid _ := i3
    clear i0 i1 i2 i3
    rcases hl with rfl | rfl | rfl | rfl
    · go_enter Try.func10, Try.ntmps10
      go_wp2
      go_ret
      exact ⟨by rw [I0.out]; rfl, balloc (brefl _) _⟩
    · go_enter Try.func10, Try.ntmps10
      go_wp2
      go_ret
      exact ⟨by rw [I1.out]; rfl, balloc (brefl _) _⟩
    · go_enter Try.func10, Try.ntmps10
      go_wp2
      go_ret
      exact ⟨by rw [I2.out]; rfl, balloc (brefl _) _⟩
    · go_enter Try.func10, Try.ntmps10
      go_wp2
      go_ret
      exact ⟨by rw [I3.out]; rfl, balloc (brefl _) _⟩
  · have HI : Hid (Pg.index p l = -1) := by
      have : (Pg.below p 4096 && Pg.below l 4) = false := by
        cases h1 : Pg.below p 4096
        · rfl
        · cases h2 : Pg.below l 4
          · rfl
          · exact absurd ⟨Pg.below_iff.1 h1, Pg.below_iff.1 h2⟩ h
      simp [Hid, Pg.index, this]
    have hc : p < 0 ∨ (0 ≤ p ∧ 4096 ≤ p) ∨ (0 ≤ p ∧ p < 4096 ∧ l < 0) ∨ (0 ≤ p ∧ p < 4096 ∧ 0 ≤ l ∧ 4 ≤ l) := by omega
    clear h
    rcases hc with a | ⟨a, b⟩ | ⟨a, b, c⟩ | ⟨a, b, c, d⟩
    all_goals
      go_enter Try.func10, Try.ntmps10
      go_wp2
      go_ret
      exact ⟨by rw [HI.out]; rfl, brefl _⟩
end Go.Proofs.Ytehmlhienjjblac
