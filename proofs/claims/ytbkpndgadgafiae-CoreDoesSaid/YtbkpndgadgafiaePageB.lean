
/-
  More functions of package page return what plain functions of their arguments say, and leave all memory that was there as it was.
-/
import Derived.Test.YtbkpndgadgafiaePage
namespace Go.Proofs.Ytbkpndgadgafiae
open Go.RowKit
set_option linter.unusedVariables false

theorem meet_any (p s f r p' s' f' r' : Int) (hp : Pg.fits p) (hq : Pg.fits p') (w : World) :
    Calls Try.prog 72 #[.agg #[.int .i64 p, .int .i64 s, .int .i64 f, .int .i64 r], .agg #[.int .i64 p', .int .i64 s', .int .i64 f', .int .i64 r']] w fun e w' => e = .returned (.bool (Pg.meet p s p' s')) ∧ Below w.heap.size w w' := by
  cases h : Pg.over p s p'
  · have HM : Hid (Pg.meet p s p' s' = Pg.over p' s' p) := by simp [Hid, Pg.meet, h]
    go_enter Try.func72, Try.ntmps72
    go_wp2_with fail
    refine (over_any _ _ _ _ _ hp hq _).mono ?_
    rintro e w1 ⟨rfl, hb1⟩
    obtain ⟨hc1, hf1⟩ := bcell hb1
    go_wp2_with fail
    refine (over_any _ _ _ _ _ hq hp _).mono ?_
    rintro e w2 ⟨rfl, hb2⟩
    go_wp2_with fail
    go_ret
    exact ⟨by rw [HM.out]; rfl, bthen (bthen (balloc (balloc (brefl _) _) _) hb1) hb2⟩
  · have HM : Hid (Pg.meet p s p' s' = true) := by simp [Hid, Pg.meet, h]
    go_enter Try.func72, Try.ntmps72
    go_wp2_with fail
    refine (over_any _ _ _ _ _ hp hq _).mono ?_
    rintro e w1 ⟨rfl, hb1⟩
    obtain ⟨hc1, hf1⟩ := bcell hb1
    go_wp2_with fail
    go_ret
    exact ⟨by rw [HM.out]; rfl, bthen (balloc (balloc (brefl _) _) _) hb1⟩

theorem may_any (r p k : Int) (u : Bool) (w : World) :
    Calls Try.prog 64 #[.int .i64 r, .agg #[.int .i64 p, .int .i64 k, .bool u]] w fun e w' => e = .returned (.bool (Pg.may r k u)) ∧ Below w.heap.size w w' := by
  have HM : Hid _ := Pg.may_eq r k u
  go_enter Try.func64, Try.ntmps64
  go_wp2_with fail
  refine (asks_any _ _ _ _).mono ?_
  rintro e w1 ⟨rfl, hb1⟩
  generalize ha : Pg.asks k u = a at *
  have HA := ha
  clear ha
  go_wp2_with fail
  go_ret
  exact ⟨by rw [← HM.out]; rfl, bthen (balloc (brefl _) _) hb1⟩

theorem checkAccess_any (p k : Int) (u : Bool) (w : World) :
    Calls Try.prog 33 #[.agg #[.int .i64 p, .int .i64 k, .bool u]] w fun e w' => e = .returned (.int .i64 (Pg.checkAccess p k)) ∧ Below w.heap.size w w' := by
  cases h1 : Pg.isKind k <;> cases h2 : Pg.below p 4096
  all_goals
    go_enter Try.func33, Try.ntmps33
    go_wp2_with (first
      | (go_at_call 62; refine (isKind_any _ _).mono ?_; rintro e w' ⟨rfl, rfl⟩)
      | (go_at_call 63; refine (has_any _ _).mono ?_; rintro e w' ⟨rfl, rfl⟩))
    go_ret
    exact ⟨by simp [Pg.checkAccess, h1, h2], (Below.refl _ _).alloc (Nat.le_refl _) _⟩

theorem answer_any0 (p s f r q k : Int) (u : Bool) (w : World) :
    Calls Try.prog 35 #[.agg #[.int .i64 p, .int .i64 s, .int .i64 f, .int .i64 r], .agg #[.int .i64 q, .int .i64 k, .bool u]] w fun e w' =>
      e = .returned (if Pg.may r k u = true then .agg #[.int .i64 0, .int .i64 (wrap64 (f + wrap64 (q - p))), .int .i64 r] else .agg #[.int .i64 2, .int .i64 0, .int .i64 0]) ∧ Below w.heap.size w w' := by
  cases h : Pg.may r k u
  · go_enter Try.func35, Try.ntmps35
    go_wp2_with fail
    refine (may_any _ _ _ _ _).mono ?_
    rintro e w1 ⟨rfl, hb1⟩
    obtain ⟨hc1, hf1⟩ := bcell hb1
    have hz : w.heap.size + 2 < w1.heap.size := by have := hb1.size; simp at this; omega
    go_wp2_with fail
    refine bodyPost_ret (v := .agg #[.int .i64 2, .int .i64 0, .int .i64 0]) ?_ rfl ⟨by simp, ?_⟩
    · simp [results, Try.results35, go_sem, hc1]
    · exact (((bthen (balloc (balloc (balloc (brefl _) _) _) _) hb1).setCell (by simp; omega) _).setCell (by simp; omega) _).setCell (by simp; omega) _
  · go_enter Try.func35, Try.ntmps35
    go_wp2_with fail
    refine (may_any _ _ _ _ _).mono ?_
    rintro e w1 ⟨rfl, hb1⟩
    obtain ⟨hc1, hf1⟩ := bcell hb1
    have hz : w.heap.size + 2 < w1.heap.size := by have := hb1.size; simp at this; omega
    go_wp2_with fail
    refine bodyPost_ret (v := .agg #[.int .i64 0, .int .i64 (wrap64 (f + wrap64 (q - p))), .int .i64 r]) ?_ rfl ⟨by simp, ?_⟩
    · simp [results, Try.results35, go_sem, hc1]
    · exact (((bthen (balloc (balloc (balloc (brefl _) _) _) _) hb1).setCell (by simp; omega) _).setCell (by simp; omega) _).setCell (by simp; omega) _

theorem answer_any (p s f r q k : Int) (u : Bool) (w : World) :
    Calls Try.prog 35 #[.agg #[.int .i64 p, .int .i64 s, .int .i64 f, .int .i64 r], .agg #[.int .i64 q, .int .i64 k, .bool u]] w fun e w' =>
      e = .returned (.agg #[.int .i64 (Pg.aEnd r k u), .int .i64 (Pg.aFrame p f r q k u), .int .i64 (Pg.aRights r k u)]) ∧ Below w.heap.size w w' := by
  refine (answer_any0 p s f r q k u w).mono ?_
  rintro e w' ⟨rfl, hb⟩
  refine ⟨?_, hb⟩
  unfold Pg.aEnd Pg.aFrame Pg.aRights
  split <;> rfl

theorem index_any (p l : Int) (w : World) :
    Calls Try.prog 91 #[.int .i64 p, .int .i64 l] w fun e w' => e = .returned (.int .i64 (Pg.index p l)) ∧ w' = w := by
  cases h1 : Pg.below p 4096
  · have HI : Hid (Pg.index p l = -1) := by simp [Hid, Pg.index, h1]
    go_enter Try.func91, Try.ntmps91
    go_wp2_with (first
      | (go_at_call 74; refine (isBelow_any _ _ _).mono ?_; rintro e w' ⟨rfl, rfl⟩)
      | (go_at_call 63; refine (has_any _ _).mono ?_; rintro e w' ⟨rfl, rfl⟩))
    go_ret
    exact ⟨by rw [HI.out]; rfl, rfl⟩
  · cases h2 : Pg.below l 4
    · have HI : Hid (Pg.index p l = -1) := by simp [Hid, Pg.index, h2]
      go_enter Try.func91, Try.ntmps91
      go_wp2_with (first
        | (go_at_call 74; refine (isBelow_any _ _ _).mono ?_; rintro e w' ⟨rfl, rfl⟩)
        | (go_at_call 63; refine (has_any _ _).mono ?_; rintro e w' ⟨rfl, rfl⟩))
      go_ret
      exact ⟨by rw [HI.out]; rfl, rfl⟩
    · have HI : Hid (Pg.index p l = p / 8 ^ l.toNat % 8) := by simp [Hid, Pg.index, h1, h2]
      have c1 := Pg.below_iff.1 h1
      have c2 := Pg.below_iff.1 h2
      go_enter Try.func91, Try.ntmps91
      go_wp2_with (first
        | (go_at_call 74; refine (isBelow_any _ _ _).mono ?_; rintro e w' ⟨rfl, rfl⟩)
        | (go_at_call 63; refine (has_any _ _).mono ?_; rintro e w' ⟨rfl, rfl⟩))
      go_loop [0, 14] (fun a i => ∃ (k : Nat) (q : Int), (k : Int) ≤ l ∧ i = .int .i64 k ∧ a = .int .i64 q ∧ 0 ≤ q ∧ q < 4096 ∧ Hid (q = p / 8 ^ k)) (fun _ i => (l - intOf i).toNat)
      case atStart => exact ⟨0, p, by omega, rfl, rfl, by omega, by omega, by simp [Hid]⟩
      case round =>
        obtain ⟨k, q, hk, rfl, rfl, q0, q1, HQ⟩ := hrel
        by_cases hlt : (k : Int) < l
        · go_wp2
          go_round
          case rel => exact ⟨k + 1, q / 8, by omega, by go_num, rfl, by omega, by omega, by simp only [Hid]; rw [HQ.out, Int.ediv_ediv_of_nonneg (Int.pow_nonneg (by decide)), ← Int.pow_succ]⟩
          case measure => simp [intOf]; omega
        · go_wp2
          go_ret
          have hkl : l.toNat = k := by omega
          exact ⟨by rw [HI.out, hkl, ← HQ.out]; rfl, rfl⟩
end Go.Proofs.Ytbkpndgadgafiae
