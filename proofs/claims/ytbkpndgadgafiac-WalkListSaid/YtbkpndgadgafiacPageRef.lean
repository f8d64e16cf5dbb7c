
/-
  The document's own answers on pages and mappings are the same plain functions.
-/
import Derived.Test.YtbkpndgadgafiacBase
import Derived.Test.YtbkpndgadgafiacRefSpan
namespace Go.Proofs.Ytbkpndgadgafiac
open Go.RowKit
set_option linter.unusedVariables false

set_option maxHeartbeats 4000000 in
theorem mapFault_any (p s f r : Int) (w : World) :
    Calls Try.prog 68 #[.agg #[.int .i64 p, .int .i64 s, .int .i64 f, .int .i64 r]] w fun e w' => e = .returned (.int .i64 (Pg.check p s f r)) ∧ Below w.heap.size w w' := by
  have hs := Pg.span_bd s
  by_cases h0 : Pg.span s = 0
  · have hb : (Pg.span s == 0) = true := by simpa using h0
    have H : Hid (Pg.span s = 0) := h0
    clear h0
    go_enter Try.func68, Try.ntmps68
    go_wp2_with (go_at_call 62; refine (spanOf_any _ _).mono ?_; rintro e w' ⟨rfl, rfl⟩)
    go_ret
    exact ⟨by rw [Pg.check_kind H.out]; rfl, balloc (brefl _) _⟩
  · have hb : (Pg.span s == 0) = false := by simpa using h0
    have H : Hid (Pg.span s ≠ 0) := h0
    have h1 : 1 ≤ Pg.span s := by omega
    clear h0
    by_cases hr : (!Pg.below p 4096 || !Pg.below f 1048576 || !Pg.below r 8) = true
    · have HR : Hid (Pg.check p s f r = 1) := Pg.check_range H.out hr
      have hc : (p < 0) ∨ (0 ≤ p ∧ 4096 ≤ p) ∨ (0 ≤ p ∧ p < 4096 ∧ f < 0) ∨ (0 ≤ p ∧ p < 4096 ∧ 0 ≤ f ∧ 1048576 ≤ f) ∨ (0 ≤ p ∧ p < 4096 ∧ 0 ≤ f ∧ f < 1048576 ∧ r < 0) ∨ (0 ≤ p ∧ p < 4096 ∧ 0 ≤ f ∧ f < 1048576 ∧ 0 ≤ r ∧ 8 ≤ r) := by
        simp [Pg.below] at hr; omega
      clear hr
      rcases hc with a | ⟨a, b⟩ | ⟨a, b, c⟩ | ⟨a, b, c, d⟩ | ⟨a, b, c, d, e⟩ | ⟨a, b, c, d, e, g⟩
      all_goals
        go_enter Try.func68, Try.ntmps68
        go_wp2_with (go_at_call 62; refine (spanOf_any _ _).mono ?_; rintro e w' ⟨rfl, rfl⟩)
        go_ret
        exact ⟨by rw [HR.out]; rfl, balloc (brefl _) _⟩
    · have b1 : Pg.below p 4096 = true := by cases h : Pg.below p 4096 <;> simp_all
      have b2 : Pg.below f 1048576 = true := by cases h : Pg.below f 1048576 <;> simp_all
      have b3 : Pg.below r 8 = true := by cases h : Pg.below r 8 <;> simp_all
      have HA : Hid (Pg.check p s f r = if p % Pg.span s = 0 ∧ f % Pg.span s = 0 then 0 else 3) := Pg.check_align H.out b1 b2 b3
      obtain ⟨p0, p1⟩ := Pg.below_iff.1 b1
      obtain ⟨f0, f1⟩ := Pg.below_iff.1 b2
      obtain ⟨r0, r1⟩ := Pg.below_iff.1 b3
      clear hr b1 b2 b3
      rcases Pg.span_cases s with ⟨rfl, hv⟩ | ⟨rfl, hv⟩ | ⟨rfl, hv⟩ | ⟨_, _, _, hv⟩
      · have HA : Hid (Pg.check p 0 f r = 0) := by have := HA.out; simp only [hv, Int.emod_one, and_self, if_true] at this; exact this
        go_enter Try.func68, Try.ntmps68
        go_wp2_with (go_at_call 62; refine (spanOf_any _ _).mono ?_; rintro e w' ⟨rfl, rfl⟩)
        go_quiet (fail)
        go_wp2
        go_ret
        exact ⟨by rw [HA.out]; rfl, below_drewN (balloc (brefl _) _) _⟩
      · by_cases d1 : p % 8 = 0
        · have e1 : (p / 8 * 8 != p) = false := by rw [bne_eq_false_iff_eq]; omega
          by_cases d2 : f % 8 = 0
          · have HA : Hid (Pg.check p 1 f r = 0) := by have := HA.out; simp only [hv, d1, d2, and_self, if_true] at this; exact this
            have e2 : (f / 8 * 8 != f) = false := by rw [bne_eq_false_iff_eq]; omega
            clear d1 d2
            go_enter Try.func68, Try.ntmps68
            go_wp2_with (go_at_call 62; refine (spanOf_any _ _).mono ?_; rintro e w' ⟨rfl, rfl⟩)
            go_quiet (fail)
            go_wp2
            go_ret
            exact ⟨by rw [HA.out]; rfl, below_drewN (balloc (brefl _) _) _⟩
          · have HA : Hid (Pg.check p 1 f r = 3) := by have := HA.out; simp only [hv, d1, d2, and_false, if_false] at this; exact this
            have e2 : (f / 8 * 8 != f) = true := by rw [bne_iff_ne]; omega
            clear d1 d2
            go_enter Try.func68, Try.ntmps68
            go_wp2_with (go_at_call 62; refine (spanOf_any _ _).mono ?_; rintro e w' ⟨rfl, rfl⟩)
            go_quiet (fail)
            go_wp2
            go_ret
            exact ⟨by rw [HA.out]; rfl, below_drewN (balloc (brefl _) _) _⟩
        · have HA : Hid (Pg.check p 1 f r = 3) := by have := HA.out; simp only [hv, d1, false_and, if_false] at this; exact this
          have e1 : (p / 8 * 8 != p) = true := by rw [bne_iff_ne]; omega
          clear d1
          go_enter Try.func68, Try.ntmps68
          go_wp2_with (go_at_call 62; refine (spanOf_any _ _).mono ?_; rintro e w' ⟨rfl, rfl⟩)
          go_quiet (fail)
          go_wp2
          go_ret
          exact ⟨by rw [HA.out]; rfl, below_drewN (balloc (brefl _) _) _⟩
      · by_cases d1 : p % 64 = 0
        · have e1 : (p / 64 * 64 != p) = false := by rw [bne_eq_false_iff_eq]; omega
          by_cases d2 : f % 64 = 0
          · have HA : Hid (Pg.check p 2 f r = 0) := by have := HA.out; simp only [hv, d1, d2, and_self, if_true] at this; exact this
            have e2 : (f / 64 * 64 != f) = false := by rw [bne_eq_false_iff_eq]; omega
            clear d1 d2
            go_enter Try.func68, Try.ntmps68
            go_wp2_with (go_at_call 62; refine (spanOf_any _ _).mono ?_; rintro e w' ⟨rfl, rfl⟩)
            go_quiet (fail)
            go_wp2
            go_ret
            exact ⟨by rw [HA.out]; rfl, below_drewN (balloc (brefl _) _) _⟩
          · have HA : Hid (Pg.check p 2 f r = 3) := by have := HA.out; simp only [hv, d1, d2, and_false, if_false] at this; exact this
            have e2 : (f / 64 * 64 != f) = true := by rw [bne_iff_ne]; omega
            clear d1 d2
            go_enter Try.func68, Try.ntmps68
            go_wp2_with (go_at_call 62; refine (spanOf_any _ _).mono ?_; rintro e w' ⟨rfl, rfl⟩)
            go_quiet (fail)
            go_wp2
            go_ret
            exact ⟨by rw [HA.out]; rfl, below_drewN (balloc (brefl _) _) _⟩
        · have HA : Hid (Pg.check p 2 f r = 3) := by have := HA.out; simp only [hv, d1, false_and, if_false] at this; exact this
          have e1 : (p / 64 * 64 != p) = true := by rw [bne_iff_ne]; omega
          clear d1
          go_enter Try.func68, Try.ntmps68
          go_wp2_with (go_at_call 62; refine (spanOf_any _ _).mono ?_; rintro e w' ⟨rfl, rfl⟩)
          go_quiet (fail)
          go_wp2
          go_ret
          exact ⟨by rw [HA.out]; rfl, below_drewN (balloc (brefl _) _) _⟩
      · exact absurd hv H.out

theorem refHas_any (p s f r q : Int) (hp : Pg.fits p) (hq : Pg.fits q) (w : World) :
    Calls Try.prog 20 #[.agg #[.int .i64 p, .int .i64 s, .int .i64 f, .int .i64 r], .int .i64 q] w fun e w' => e = .returned (.bool (Pg.over p s q)) ∧ Below w.heap.size w w' := by
  have hs := Pg.span_bd s
  unfold Pg.fits at hp hq
  by_cases h : q < p
  · have HM : Hid (Pg.over p s q = false) := by simp [Hid, Pg.over]; omega
    go_enter Try.func20, Try.ntmps20
    go_wp2_with (go_at_call 62; refine (spanOf_any _ _).mono ?_; rintro e w' ⟨rfl, rfl⟩)
    go_ret
    exact ⟨by rw [HM.out]; rfl, balloc (brefl _) _⟩
  · go_enter Try.func20, Try.ntmps20
    go_wp2_with (go_at_call 62; refine (spanOf_any _ _).mono ?_; rintro e w' ⟨rfl, rfl⟩)
    go_loop [1, 6] (fun a i => ∃ k : Int, 0 ≤ k ∧ k ≤ Pg.span s ∧ k ≤ q - p ∧ i = .int .i64 k ∧ a = .int .i64 (q - k)) (fun _ i => (Pg.span s - intOf i).toNat)
    case atStart => exact ⟨0, by omega, by omega, by omega, rfl, by simp⟩
    case round =>
      obtain ⟨k, k0, k1, k2, rfl, rfl⟩ := hrel
      by_cases hlt : k < Pg.span s
      · by_cases he : q - k = p
        · have hb : (q - k == p) = true := by simpa using he
          have HM : Hid (Pg.over p s q = true) := by simp [Hid, Pg.over]; omega
          clear he
          go_wp2
          go_ret
          exact ⟨by rw [HM.out]; rfl, balloc (brefl _) _⟩
        · have hb : (q - k == p) = false := by simpa using he
          have hm : (q - k == -9223372036854775808) = false := by simp; omega
          go_wp2
          go_round
          case rel => exact ⟨k + 1, by omega, by omega, by omega, rfl, by congr 1; omega⟩
          case measure => simp [intOf]; omega
      · have HM : Hid (Pg.over p s q = false) := by simp [Hid, Pg.over]; omega
        go_wp2
        go_ret
        exact ⟨by rw [HM.out]; rfl, balloc (brefl _) _⟩

theorem indexOf_any (p l : Int) (w : World) :
    Calls Try.prog 14 #[.int .i64 p, .int .i64 l] w fun e w' => e = .returned (.int .i64 (Pg.index p l)) ∧ Below w.heap.size w w' := by
  by_cases h : (0 ≤ p ∧ p < 4096) ∧ 0 ≤ l ∧ l < 4
  · obtain ⟨⟨p0, p1⟩, l0, l1⟩ := h
    have hl : l = 0 ∨ l = 1 ∨ l = 2 ∨ l = 3 := by omega
    obtain ⟨i0, i1, i2, i3⟩ := Pg.index_at p0 p1
    have I0 : Hid _ := i0
    have I1 : Hid _ := i1
    have I2 : Hid _ := i2
    have I3 : Hid _ := i3
    clear i0 i1 i2 i3
    rcases hl with rfl | rfl | rfl | rfl
    · go_enter Try.func14, Try.ntmps14
      go_wp2
      go_ret
      exact ⟨by rw [I0.out]; rfl, balloc (brefl _) _⟩
    · go_enter Try.func14, Try.ntmps14
      go_wp2
      go_ret
      exact ⟨by rw [I1.out]; rfl, balloc (brefl _) _⟩
    · go_enter Try.func14, Try.ntmps14
      go_wp2
      go_ret
      exact ⟨by rw [I2.out]; rfl, balloc (brefl _) _⟩
    · go_enter Try.func14, Try.ntmps14
      go_wp2
      go_ret
      exact ⟨by rw [I3.out]; rfl, balloc (brefl _) _⟩
  · have HI : Hid (Pg.index p l = -1) := by
      have : (Pg.below p 4096 && Pg.below l 4) = false := by
        cases h1 : Pg.below p 4096
        · rfl
        · cases h2 : Pg.below l 4
          · rfl
          · exact absurd ⟨Pg.below_iff.1 h1, Pg.below_iff.1 h2⟩ h
      simp [Hid, Pg.index, this]
    have hc : p < 0 ∨ (0 ≤ p ∧ 4096 ≤ p) ∨ (0 ≤ p ∧ p < 4096 ∧ l < 0) ∨ (0 ≤ p ∧ p < 4096 ∧ 0 ≤ l ∧ 4 ≤ l) := by omega
    clear h
    rcases hc with a | ⟨a, b⟩ | ⟨a, b, c⟩ | ⟨a, b, c, d⟩
    all_goals
      go_enter Try.func14, Try.ntmps14
      go_wp2
      go_ret
      exact ⟨by rw [HI.out]; rfl, brefl _⟩
end Go.Proofs.Ytbkpndgadgafiac
