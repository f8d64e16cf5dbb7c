
/-
  More functions of package page return what plain functions of their arguments say, and leave all memory that was there as it was.
-/
import Derived.Test.YtbkpndgadgafiacPage
namespace Go.Proofs.Ytbkpndgadgafiac
open Go.RowKit
set_option linter.unusedVariables false

theorem meet_any (p s f r p' s' f' r' : Int) (hp : Pg.fits p) (hq : Pg.fits p') (w : World) :
    Calls Try.prog 92 #[.agg #[.int .i64 p, .int .i64 s, .int .i64 f, .int .i64 r], .agg #[.int .i64 p', .int .i64 s', .int .i64 f', .int .i64 r']] w fun e w' => e = .returned (.bool (Pg.meet p s p' s')) ∧ Below w.heap.size w w' := by
  cases h : Pg.over p s p'
  · have HM : Hid (Pg.meet p s p' s' = Pg.over p' s' p) := by simp [Hid, Pg.meet, h]
    go_enter Try.func92, Try.ntmps92
    go_wp2_with fail
    refine (over_any _ _ _ _ _ hp hq _).mono ?_
    rintro e w1 ⟨rfl, hb1⟩
    obtain ⟨hc1, hf1⟩ := bcell hb1
    go_wp2_with fail
    refine (over_any _ _ _ _ _ hq hp _).mono ?_
    rintro e w2 ⟨rfl, hb2⟩
    go_wp2_with fail
    go_ret
    exact ⟨by rw [HM.out]; rfl, bthen (bthen (balloc (balloc (brefl _) _) _) hb1) hb2⟩
  · have HM : Hid (Pg.meet p s p' s' = true) := by simp [Hid, Pg.meet, h]
    go_enter Try.func92, Try.ntmps92
    go_wp2_with fail
    refine (over_any _ _ _ _ _ hp hq _).mono ?_
    rintro e w1 ⟨rfl, hb1⟩
    obtain ⟨hc1, hf1⟩ := bcell hb1
    go_wp2_with fail
    go_ret
    exact ⟨by rw [HM.out]; rfl, bthen (balloc (balloc (brefl _) _) _) hb1⟩

theorem index_any (p l : Int) (w : World) :
    Calls Try.prog 52 #[.int .i64 p, .int .i64 l] w fun e w' => e = .returned (.int .i64 (Pg.index p l)) ∧ w' = w := by
  cases h1 : Pg.below p 4096
  · have HI : Hid (Pg.index p l = -1) := by simp [Hid, Pg.index, h1]
    go_enter Try.func52, Try.ntmps52
    go_wp2_with (first
      | (go_at_call 82; refine (isBelow_any _ _ _).mono ?_; rintro e w' ⟨rfl, rfl⟩)
      | (go_at_call 50; refine (has_any _ _).mono ?_; rintro e w' ⟨rfl, rfl⟩))
    go_ret
    exact ⟨by rw [HI.out]; rfl, rfl⟩
  · cases h2 : Pg.below l 4
    · have HI : Hid (Pg.index p l = -1) := by simp [Hid, Pg.index, h2]
      go_enter Try.func52, Try.ntmps52
      go_wp2_with (first
        | (go_at_call 82; refine (isBelow_any _ _ _).mono ?_; rintro e w' ⟨rfl, rfl⟩)
        | (go_at_call 50; refine (has_any _ _).mono ?_; rintro e w' ⟨rfl, rfl⟩))
      go_ret
      exact ⟨by rw [HI.out]; rfl, rfl⟩
    · have HI : Hid (Pg.index p l = p / 8 ^ l.toNat % 8) := by simp [Hid, Pg.index, h1, h2]
      have c1 := Pg.below_iff.1 h1
      have c2 := Pg.below_iff.1 h2
      go_enter Try.func52, Try.ntmps52
      go_wp2_with (first
        | (go_at_call 82; refine (isBelow_any _ _ _).mono ?_; rintro e w' ⟨rfl, rfl⟩)
        | (go_at_call 50; refine (has_any _ _).mono ?_; rintro e w' ⟨rfl, rfl⟩))
      go_loop [0, 14] (fun a i => ∃ (k : Nat) (q : Int), (k : Int) ≤ l ∧ i = .int .i64 k ∧ a = .int .i64 q ∧ 0 ≤ q ∧ q < 4096 ∧ Hid (q = p / 8 ^ k)) (fun _ i => (l - intOf i).toNat)
      case atStart => exact ⟨0, p, by omega, rfl, rfl, by omega, by omega, by simp [Hid]⟩
      case round =>
        obtain ⟨k, q, hk, rfl, rfl, q0, q1, HQ⟩ := hrel
        by_cases hlt : (k : Int) < l
        · go_wp2
          go_round
          case rel => exact ⟨k + 1, q / 8, by omega, by go_num, rfl, by omega, by omega, by simp only [Hid]; rw [HQ.out, Int.ediv_ediv_of_nonneg (Int.pow_nonneg (by decide)), ← Int.pow_succ]⟩
          case measure => simp [intOf]; omega
        · go_wp2
          go_ret
          have hkl : l.toNat = k := by omega
          exact ⟨by rw [HI.out, hkl, ← HQ.out]; rfl, rfl⟩
end Go.Proofs.Ytbkpndgadgafiac
