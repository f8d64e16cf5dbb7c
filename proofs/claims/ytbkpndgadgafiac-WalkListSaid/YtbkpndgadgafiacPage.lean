
/-
  The functions of package page return what plain functions of their arguments say, and leave all memory that was there as it was.
-/
import Derived.Test.YtbkpndgadgafiacChecked
import Derived.Test.YtbkpndgadgafiacBase
namespace Go.Proofs.Ytbkpndgadgafiac
open Go.RowKit
set_option linter.unusedVariables false

theorem isBelow_any (n e : Int) (w : World) :
    Calls Try.prog 82 #[.int .i64 n, .int .i64 e] w fun r w' => r = .returned (.bool (Pg.below n e)) ∧ w' = w := by
  by_cases h : 0 ≤ n
  · have hd : decide (0 ≤ n) = true := by simpa using h
    go_enter Try.func82, Try.ntmps82
    go_wp2
    go_ret
    exact ⟨by simp [Pg.below, hd], rfl⟩
  · have hd : decide (0 ≤ n) = false := by simpa using h
    go_enter Try.func82, Try.ntmps82
    go_wp2
    go_ret
    exact ⟨by simp [Pg.below, hd], rfl⟩

theorem span_any (s : Int) (w : World) :
    Calls Try.prog 86 #[.int .i64 s] w fun r w' => r = .returned (.int .i64 (Pg.span s)) ∧ w' = w := by
  go_enter Try.func86, Try.ntmps86
  go_wp2
  all_goals
    go_ret
    exact ⟨by simp_all [Pg.span], rfl⟩

theorem has_any (n : Int) (w : World) :
    Calls Try.prog 50 #[.int .i64 n] w fun r w' => r = .returned (.bool (Pg.below n 4096)) ∧ w' = w := by
  go_enter Try.func50, Try.ntmps50
  go_wp2_with (go_at_call 82; refine (isBelow_any _ _ _).mono ?_; rintro e w' ⟨rfl, rfl⟩)
  go_ret
  exact ⟨rfl, rfl⟩

theorem areRights_any (n : Int) (w : World) :
    Calls Try.prog 87 #[.int .i64 n] w fun r w' => r = .returned (.bool (Pg.below n 8)) ∧ w' = w := by
  go_enter Try.func87, Try.ntmps87
  go_wp2_with (go_at_call 82; refine (isBelow_any _ _ _).mono ?_; rintro e w' ⟨rfl, rfl⟩)
  go_ret
  exact ⟨rfl, rfl⟩

theorem over_any (p s f r q : Int) (hp : Pg.fits p) (hq : Pg.fits q) (w : World) :
    Calls Try.prog 97 #[.agg #[.int .i64 p, .int .i64 s, .int .i64 f, .int .i64 r], .int .i64 q] w fun e w' => e = .returned (.bool (Pg.over p s q)) ∧ Below w.heap.size w w' := by
  have hs := Pg.span_bd s
  by_cases h : p ≤ q
  · have hd : decide (p ≤ q) = true := by simpa using h
    go_enter Try.func97, Try.ntmps97
    go_wp2
    go_quiet ((go_at_call 86; exact Calls.quiet_of_same (span_any _ _)))
    go_wp2
    go_ret
    exact ⟨by rw [← Pg.over_yes hp hq h]; rfl, below_drewN ((Below.refl _ _).alloc (Nat.le_refl _) _) _⟩
  · have hd : decide (p ≤ q) = false := by simpa using h
    go_enter Try.func97, Try.ntmps97
    go_wp2
    go_quiet ((go_at_call 86; exact Calls.quiet_of_same (span_any _ _)))
    go_wp2
    go_ret
    exact ⟨by rw [Pg.over_no hd]; rfl, below_drewN ((Below.refl _ _).alloc (Nat.le_refl _) _) _⟩

theorem check_any (p s f r : Int) (w : World) :
    Calls Try.prog 64 #[.agg #[.int .i64 p, .int .i64 s, .int .i64 f, .int .i64 r]] w fun e w' => e = .returned (.int .i64 (Pg.check p s f r)) ∧ Below w.heap.size w w' := by
  have hs := Pg.span_bd s
  by_cases h0 : Pg.span s = 0
  · have hb : (Pg.span s == 0) = true := by simpa using h0
    have H : Hid (Pg.span s = 0) := h0
    clear h0
    go_enter Try.func64, Try.ntmps64
    go_wp2_with (first
      | (go_at_call 86; refine (span_any _ _).mono ?_; rintro e w' ⟨rfl, rfl⟩)
      | (go_at_call 50; refine (has_any _ _).mono ?_; rintro e w' ⟨rfl, rfl⟩)
      | (go_at_call 82; refine (isBelow_any _ _ _).mono ?_; rintro e w' ⟨rfl, rfl⟩)
      | (go_at_call 87; refine (areRights_any _ _).mono ?_; rintro e w' ⟨rfl, rfl⟩))
    go_ret
    exact ⟨by rw [Pg.check_kind H.out]; rfl, (Below.refl _ _).alloc (Nat.le_refl _) _⟩
  · have hb : (Pg.span s == 0) = false := by simpa using h0
    have H : Hid (Pg.span s ≠ 0) := h0
    have h1 : 1 ≤ Pg.span s := by omega
    clear h0
    by_cases hr : (!Pg.below p 4096 || !Pg.below f 1048576 || !Pg.below r 8) = true
    · have HR : Hid ((!Pg.below p 4096 || !Pg.below f 1048576 || !Pg.below r 8) = true) := hr
      clear hr
      cases b1 : Pg.below p 4096
      · go_enter Try.func64, Try.ntmps64
        go_wp2_with (first
          | (go_at_call 86; refine (span_any _ _).mono ?_; rintro e w' ⟨rfl, rfl⟩)
          | (go_at_call 50; refine (has_any _ _).mono ?_; rintro e w' ⟨rfl, rfl⟩)
          | (go_at_call 82; refine (isBelow_any _ _ _).mono ?_; rintro e w' ⟨rfl, rfl⟩)
          | (go_at_call 87; refine (areRights_any _ _).mono ?_; rintro e w' ⟨rfl, rfl⟩))
        go_ret
        exact ⟨by rw [Pg.check_range H.out HR.out]; rfl, (Below.refl _ _).alloc (Nat.le_refl _) _⟩
      · cases b2 : Pg.below f 1048576
        · go_enter Try.func64, Try.ntmps64
          go_wp2_with (first
            | (go_at_call 86; refine (span_any _ _).mono ?_; rintro e w' ⟨rfl, rfl⟩)
            | (go_at_call 50; refine (has_any _ _).mono ?_; rintro e w' ⟨rfl, rfl⟩)
            | (go_at_call 82; refine (isBelow_any _ _ _).mono ?_; rintro e w' ⟨rfl, rfl⟩)
            | (go_at_call 87; refine (areRights_any _ _).mono ?_; rintro e w' ⟨rfl, rfl⟩))
          go_ret
          exact ⟨by rw [Pg.check_range H.out HR.out]; rfl, (Below.refl _ _).alloc (Nat.le_refl _) _⟩
        · cases b3 : Pg.below r 8
          · go_enter Try.func64, Try.ntmps64
            go_wp2_with (first
              | (go_at_call 86; refine (span_any _ _).mono ?_; rintro e w' ⟨rfl, rfl⟩)
              | (go_at_call 50; refine (has_any _ _).mono ?_; rintro e w' ⟨rfl, rfl⟩)
              | (go_at_call 82; refine (isBelow_any _ _ _).mono ?_; rintro e w' ⟨rfl, rfl⟩)
              | (go_at_call 87; refine (areRights_any _ _).mono ?_; rintro e w' ⟨rfl, rfl⟩))
            go_ret
            exact ⟨by rw [Pg.check_range H.out HR.out]; rfl, (Below.refl _ _).alloc (Nat.le_refl _) _⟩
          · exact absurd HR.out (by simp [b1, b2, b3])
    · have b1 : Pg.below p 4096 = true := by cases h : Pg.below p 4096 <;> simp_all
      have b2 : Pg.below f 1048576 = true := by cases h : Pg.below f 1048576 <;> simp_all
      have b3 : Pg.below r 8 = true := by cases h : Pg.below r 8 <;> simp_all
      clear hr
      have c1 := Pg.below_iff.1 b1
      have c2 := Pg.below_iff.1 b2
      have HA : Hid (Pg.check p s f r = if p % Pg.span s = 0 ∧ f % Pg.span s = 0 then 0 else 3) := Pg.check_align H.out b1 b2 b3
      by_cases d1 : p % Pg.span s = 0
      · have e1 : (p % Pg.span s != 0) = false := by simp [d1]
        have D1 : Hid (p % Pg.span s = 0) := d1
        clear d1
        by_cases d2 : f % Pg.span s = 0
        · have e2 : (f % Pg.span s != 0) = false := by simp [d2]
          have D2 : Hid (f % Pg.span s = 0) := d2
          clear d2
          go_enter Try.func64, Try.ntmps64
          go_wp2_with (first
            | (go_at_call 86; refine (span_any _ _).mono ?_; rintro e w' ⟨rfl, rfl⟩)
            | (go_at_call 50; refine (has_any _ _).mono ?_; rintro e w' ⟨rfl, rfl⟩)
            | (go_at_call 82; refine (isBelow_any _ _ _).mono ?_; rintro e w' ⟨rfl, rfl⟩)
            | (go_at_call 87; refine (areRights_any _ _).mono ?_; rintro e w' ⟨rfl, rfl⟩))
          go_ret
          exact ⟨by rw [HA.out, if_pos ⟨D1.out, D2.out⟩]; rfl, (Below.refl _ _).alloc (Nat.le_refl _) _⟩
        · have e2 : (f % Pg.span s != 0) = true := by simp [d2]
          have D2 : Hid (¬ f % Pg.span s = 0) := d2
          clear d2
          go_enter Try.func64, Try.ntmps64
          go_wp2_with (first
            | (go_at_call 86; refine (span_any _ _).mono ?_; rintro e w' ⟨rfl, rfl⟩)
            | (go_at_call 50; refine (has_any _ _).mono ?_; rintro e w' ⟨rfl, rfl⟩)
            | (go_at_call 82; refine (isBelow_any _ _ _).mono ?_; rintro e w' ⟨rfl, rfl⟩)
            | (go_at_call 87; refine (areRights_any _ _).mono ?_; rintro e w' ⟨rfl, rfl⟩))
          go_ret
          exact ⟨by rw [HA.out, if_neg (fun h => D2.out h.2)]; rfl, (Below.refl _ _).alloc (Nat.le_refl _) _⟩
      · have e1 : (p % Pg.span s != 0) = true := by simp [d1]
        have D1 : Hid (¬ p % Pg.span s = 0) := d1
        clear d1
        go_enter Try.func64, Try.ntmps64
        go_wp2_with (first
          | (go_at_call 86; refine (span_any _ _).mono ?_; rintro e w' ⟨rfl, rfl⟩)
          | (go_at_call 50; refine (has_any _ _).mono ?_; rintro e w' ⟨rfl, rfl⟩)
          | (go_at_call 82; refine (isBelow_any _ _ _).mono ?_; rintro e w' ⟨rfl, rfl⟩)
          | (go_at_call 87; refine (areRights_any _ _).mono ?_; rintro e w' ⟨rfl, rfl⟩))
        go_ret
        exact ⟨by rw [HA.out, if_neg (fun h => D1.out h.1)]; rfl, (Below.refl _ _).alloc (Nat.le_refl _) _⟩
end Go.Proofs.Ytbkpndgadgafiac
