import Derived.Test.YtjdiaebgidgmaafGreatChecked
import Derived.Test.YtjdiaebgidgmaafGreatHeap
namespace Go.Proofs.YtjdiaebgidgmaafGreat
open Go.RowKit
set_option linter.unusedVariables false
theorem spanOf_any (s : Int) (w : World) :
 Calls Tryz.prog 147 #[.int .i64 s] w fun r w' => r = .returned (.int .i64 (Pg.span s)) ∧ w' = w := by
 by_cases hs : 0 ≤ s ∧ s ≤ 2
 ·obtain ⟨s0, s2⟩ := hs
  go_enter Tryz.func147, Tryz.ntmps147
  go_wp2
  go_loop [3, 4] (fun n i => ∃ (k m : Int), 0 ≤ k ∧ k ≤ s ∧ i = .int .i64 k ∧ n = .int .i64 m ∧ 0 ≤ m ∧ m ≤ 64 ∧ Hid (m = Pg.span k)) (fun _ i => (s - intOf i).toNat)
  case atStart => exact ⟨0, 1, by omega, by omega, rfl, rfl, by omega, by omega, rfl⟩
  case round =>
   obtain ⟨k, m, k0, k1, rfl, rfl, m0, m1, HM⟩ := hrel
   by_cases hlt : k < s
   ·have H1 : Hid (m * 8 = Pg.span (k + 1)) := by
     have : k = 0 ∨ k = 1 := by omega
     have e := HM.out
     rcases this with rfl | rfl <;> simp [Hid, Pg.span] at * <;> omega
    go_wp2
    go_round
    case rel => exact ⟨k + 1, m * 8, by omega, by omega, rfl, rfl, by omega, by have := Pg.span_bd (k + 1); have := H1.out; omega, H1⟩
    case measure => simp [intOf]; omega
   ·go_wp2
    go_ret
    have : k = s := by omega
    exact ⟨by rw [← this, ← HM.out]; rfl, rfl⟩
 ·have H : Hid (Pg.span s = 0) := by rcases Pg.span_cases s with h | h | h | h <;> simp only [Hid] <;> omega
  by_cases hn : s < 0
  ·have hd : decide (s < 0) = true := by simpa using hn
   clear hs
   go_enter Tryz.func147, Tryz.ntmps147
   go_wp2
   go_ret
   exact ⟨by rw [H.out]; rfl, rfl⟩
  ·have hd : decide (s < 0) = false := by simpa using hn
   have h3 : 2 < s := by omega
   have hd2 : decide (2 < s) = true := by simpa using h3
   clear hs
   go_enter Tryz.func147, Tryz.ntmps147
   go_wp2
   go_ret
   exact ⟨by rw [H.out]; rfl, rfl⟩
set_option maxHeartbeats 4000000 in
theorem mapFault_any (p s f r : Int) (w : World) :
 Calls Tryz.prog 102 #[.agg #[.int .i64 p, .int .i64 s, .int .i64 f, .int .i64 r]] w fun e w' => e = .returned (.int .i64 (Pg.check p s f r)) ∧ Below w.heap.size w w' := by
 have hs := Pg.span_bd s
 by_cases h0 : Pg.span s = 0
 ·have hb : (Pg.span s == 0) = true := by simpa using h0
  have H : Hid (Pg.span s = 0) := h0
  clear h0
  go_enter Tryz.func102, Tryz.ntmps102
  go_wp2_with (go_at_call 147; refine (spanOf_any _ _).mono ?_; rintro e w' ⟨rfl, rfl⟩)
  go_ret
  exact ⟨by rw [Pg.check_kind H.out]; rfl, zA (zR _) _⟩
 ·have hb : (Pg.span s == 0) = false := by simpa using h0
  have H : Hid (Pg.span s ≠ 0) := h0
  have h1 : 1 ≤ Pg.span s := by omega
  clear h0
  by_cases hr : (!Pg.below p 4096 || !Pg.below f 1048576 || !Pg.below r 8) = true
  ·have HR : Hid (Pg.check p s f r = 1) := Pg.check_range H.out hr
   have hc : (p < 0) ∨ (0 ≤ p ∧ 4096 ≤ p) ∨ (0 ≤ p ∧ p < 4096 ∧ f < 0) ∨ (0 ≤ p ∧ p < 4096 ∧ 0 ≤ f ∧ 1048576 ≤ f) ∨ (0 ≤ p ∧ p < 4096 ∧ 0 ≤ f ∧ f < 1048576 ∧ r < 0) ∨ (0 ≤ p ∧ p < 4096 ∧ 0 ≤ f ∧ f < 1048576 ∧ 0 ≤ r ∧ 8 ≤ r) := by
    simp [Pg.below] at hr; omega
   clear hr
   rcases hc with a | ⟨a, b⟩ | ⟨a, b, c⟩ | ⟨a, b, c, d⟩ | ⟨a, b, c, d, e⟩ | ⟨a, b, c, d, e, g⟩
   all_goals
    go_enter Tryz.func102, Tryz.ntmps102
    go_wp2_with (go_at_call 147; refine (spanOf_any _ _).mono ?_; rintro e w' ⟨rfl, rfl⟩)
    go_ret
    exact ⟨by rw [HR.out]; rfl, zA (zR _) _⟩
  ·have b1 : Pg.below p 4096 = true := by cases h : Pg.below p 4096 <;> simp_all
   have b2 : Pg.below f 1048576 = true := by cases h : Pg.below f 1048576 <;> simp_all
   have b3 : Pg.below r 8 = true := by cases h : Pg.below r 8 <;> simp_all
   have HA : Hid (Pg.check p s f r = if p % Pg.span s = 0 ∧ f % Pg.span s = 0 then 0 else 3) := Pg.check_align H.out b1 b2 b3
   obtain ⟨p0, p1⟩ := Pg.zB.1 b1
   obtain ⟨f0, f1⟩ := Pg.zB.1 b2
   obtain ⟨r0, r1⟩ := Pg.zB.1 b3
   clear hr b1 b2 b3
   rcases Pg.span_cases s with ⟨rfl, hv⟩ | ⟨rfl, hv⟩ | ⟨rfl, hv⟩ | ⟨_, _, _, hv⟩
   ·have HA : Hid (Pg.check p 0 f r = 0) := by have := HA.out; simp only [hv, Int.emod_one, and_self, if_true] at this; exact this
    go_enter Tryz.func102, Tryz.ntmps102
    go_wp2_with (go_at_call 147; refine (spanOf_any _ _).mono ?_; rintro e w' ⟨rfl, rfl⟩)
    go_quiet (fail)
    go_wp2
    go_ret
    exact ⟨by rw [HA.out]; rfl, below_drewN (zA (zR _) _) _⟩
   ·by_cases d1 : p % 8 = 0
    ·have e1 : (p / 8 * 8 != p) = false := by rw [bne_eq_false_iff_eq]; omega
     by_cases d2 : f % 8 = 0
     ·have HA : Hid (Pg.check p 1 f r = 0) := by have := HA.out; simp only [hv, d1, d2, and_self, if_true] at this; exact this
      have e2 : (f / 8 * 8 != f) = false := by rw [bne_eq_false_iff_eq]; omega
      clear d1 d2
      go_enter Tryz.func102, Tryz.ntmps102
      go_wp2_with (go_at_call 147; refine (spanOf_any _ _).mono ?_; rintro e w' ⟨rfl, rfl⟩)
      go_quiet (fail)
      go_wp2
      go_ret
      exact ⟨by rw [HA.out]; rfl, below_drewN (zA (zR _) _) _⟩
     ·have HA : Hid (Pg.check p 1 f r = 3) := by have := HA.out; simp only [hv, d1, d2, and_false, if_false] at this; exact this
      have e2 : (f / 8 * 8 != f) = true := by rw [bne_iff_ne]; omega
      clear d1 d2
      go_enter Tryz.func102, Tryz.ntmps102
      go_wp2_with (go_at_call 147; refine (spanOf_any _ _).mono ?_; rintro e w' ⟨rfl, rfl⟩)
      go_quiet (fail)
      go_wp2
      go_ret
      exact ⟨by rw [HA.out]; rfl, below_drewN (zA (zR _) _) _⟩
    ·have HA : Hid (Pg.check p 1 f r = 3) := by have := HA.out; simp only [hv, d1, false_and, if_false] at this; exact this
     have e1 : (p / 8 * 8 != p) = true := by rw [bne_iff_ne]; omega
     clear d1
     go_enter Tryz.func102, Tryz.ntmps102
     go_wp2_with (go_at_call 147; refine (spanOf_any _ _).mono ?_; rintro e w' ⟨rfl, rfl⟩)
     go_quiet (fail)
     go_wp2
     go_ret
     exact ⟨by rw [HA.out]; rfl, below_drewN (zA (zR _) _) _⟩
   ·by_cases d1 : p % 64 = 0
    ·have e1 : (p / 64 * 64 != p) = false := by rw [bne_eq_false_iff_eq]; omega
     by_cases d2 : f % 64 = 0
     ·have HA : Hid (Pg.check p 2 f r = 0) := by have := HA.out; simp only [hv, d1, d2, and_self, if_true] at this; exact this
      have e2 : (f / 64 * 64 != f) = false := by rw [bne_eq_false_iff_eq]; omega
      clear d1 d2
      go_enter Tryz.func102, Tryz.ntmps102
      go_wp2_with (go_at_call 147; refine (spanOf_any _ _).mono ?_; rintro e w' ⟨rfl, rfl⟩)
      go_quiet (fail)
      go_wp2
      go_ret
      exact ⟨by rw [HA.out]; rfl, below_drewN (zA (zR _) _) _⟩
     ·have HA : Hid (Pg.check p 2 f r = 3) := by have := HA.out; simp only [hv, d1, d2, and_false, if_false] at this; exact this
      have e2 : (f / 64 * 64 != f) = true := by rw [bne_iff_ne]; omega
      clear d1 d2
      go_enter Tryz.func102, Tryz.ntmps102
      go_wp2_with (go_at_call 147; refine (spanOf_any _ _).mono ?_; rintro e w' ⟨rfl, rfl⟩)
      go_quiet (fail)
      go_wp2
      go_ret
      exact ⟨by rw [HA.out]; rfl, below_drewN (zA (zR _) _) _⟩
    ·have HA : Hid (Pg.check p 2 f r = 3) := by have := HA.out; simp only [hv, d1, false_and, if_false] at this; exact this
     have e1 : (p / 64 * 64 != p) = true := by rw [bne_iff_ne]; omega
     clear d1
     go_enter Tryz.func102, Tryz.ntmps102
     go_wp2_with (go_at_call 147; refine (spanOf_any _ _).mono ?_; rintro e w' ⟨rfl, rfl⟩)
     go_quiet (fail)
     go_wp2
     go_ret
     exact ⟨by rw [HA.out]; rfl, below_drewN (zA (zR _) _) _⟩
   ·exact absurd hv H.out
theorem refHas_any (p s f r q : Int) (hp : Pg.fits p) (hq : Pg.fits q) (w : World) :
 Calls Tryz.prog 107 #[.agg #[.int .i64 p, .int .i64 s, .int .i64 f, .int .i64 r], .int .i64 q] w fun e w' => e = .returned (.bool (Pg.over p s q)) ∧ Below w.heap.size w w' := by
 have hs := Pg.span_bd s
 unfold Pg.fits at hp hq
 by_cases h : q < p
 ·have HM : Hid (Pg.over p s q = false) := by simp [Hid, Pg.over]; omega
  go_enter Tryz.func107, Tryz.ntmps107
  go_wp2_with (go_at_call 147; refine (spanOf_any _ _).mono ?_; rintro e w' ⟨rfl, rfl⟩)
  go_ret
  exact ⟨by rw [HM.out]; rfl, zA (zR _) _⟩
 ·go_enter Tryz.func107, Tryz.ntmps107
  go_wp2_with (go_at_call 147; refine (spanOf_any _ _).mono ?_; rintro e w' ⟨rfl, rfl⟩)
  go_loop [1, 6] (fun a i => ∃ k : Int, 0 ≤ k ∧ k ≤ Pg.span s ∧ k ≤ q - p ∧ i = .int .i64 k ∧ a = .int .i64 (q - k)) (fun _ i => (Pg.span s - intOf i).toNat)
  case atStart => exact ⟨0, by omega, by omega, by omega, rfl, by simp⟩
  case round =>
   obtain ⟨k, k0, k1, k2, rfl, rfl⟩ := hrel
   by_cases hlt : k < Pg.span s
   ·by_cases he : q - k = p
    ·have hb : (q - k == p) = true := by simpa using he
     have HM : Hid (Pg.over p s q = true) := by simp [Hid, Pg.over]; omega
     clear he
     go_wp2
     go_ret
     exact ⟨by rw [HM.out]; rfl, zA (zR _) _⟩
    ·have hb : (q - k == p) = false := by simpa using he
     have hm : (q - k == -9223372036854775808) = false := by simp; omega
     go_wp2
     go_round
     case rel => exact ⟨k + 1, by omega, by omega, by omega, rfl, by congr 1; omega⟩
     case measure => simp [intOf]; omega
   ·have HM : Hid (Pg.over p s q = false) := by simp [Hid, Pg.over]; omega
    go_wp2
    go_ret
    exact ⟨by rw [HM.out]; rfl, zA (zR _) _⟩
theorem both_any (p s f r p' s' f' r' : Int) (hp : Pg.fits p) (hq : Pg.fits p') (w : World) :
 Calls Tryz.prog 105 #[.agg #[.int .i64 p, .int .i64 s, .int .i64 f, .int .i64 r], .agg #[.int .i64 p', .int .i64 s', .int .i64 f', .int .i64 r']] w fun e w' => e = .returned (.bool (Pg.meet p s p' s')) ∧ Below w.heap.size w w' := by
 cases h : Pg.over p s p'
 ·have HM : Hid (Pg.meet p s p' s' = Pg.over p' s' p) := by simp [Hid, Pg.meet, h]
  go_enter Tryz.func105, Tryz.ntmps105
  go_wp2_with fail
  refine (refHas_any _ _ _ _ _ hp hq _).mono ?_
  rintro e w1 ⟨rfl, hb1⟩
  obtain ⟨hc1, hf1⟩ := bcell hb1
  go_wp2_with fail
  refine (refHas_any _ _ _ _ _ hq hp _).mono ?_
  rintro e w2 ⟨rfl, hb2⟩
  go_wp2_with fail
  go_ret
  exact ⟨by rw [HM.out]; rfl, zT (zT (zA (zA (zR _) _) _) hb1) hb2⟩
 ·have HM : Hid (Pg.meet p s p' s' = true) := by simp [Hid, Pg.meet, h]
  go_enter Tryz.func105, Tryz.ntmps105
  go_wp2_with fail
  refine (refHas_any _ _ _ _ _ hp hq _).mono ?_
  rintro e w1 ⟨rfl, hb1⟩
  obtain ⟨hc1, hf1⟩ := bcell hb1
  go_wp2_with fail
  go_ret
  exact ⟨by rw [HM.out]; rfl, zT (zA (zA (zR _) _) _) hb1⟩
set_option maxHeartbeats 4000000 in
theorem lets_any (r p k : Int) (u : Bool) (w : World) :
 Calls Tryz.prog 99 #[.int .i64 r, .agg #[.int .i64 p, .int .i64 k, .bool u]] w fun e w' => e = .returned (.bool (Pg.may r k u)) ∧ Below w.heap.size w w' := by
 have t1 : bits .and .i64 r 1 = ((Pg.r8 r &&& 1 : Nat) : Int) := Pg.band_small r 1 (by decide)
 have t2 : bits .and .i64 r 2 = ((Pg.r8 r &&& 2 : Nat) : Int) := Pg.band_small r 2 (by decide)
 have t4 : bits .and .i64 r 4 = ((Pg.r8 r &&& 4 : Nat) : Int) := Pg.band_small r 4 (by decide)
 have hl := Pg.r8_lt r
 have hm : Pg.may r k u = ((Pg.r8 r &&& Pg.asks k u) == Pg.asks k u) := rfl
 generalize Pg.r8 r = x at *
 have HM : Hid _ := hm
 clear hm
 by_cases k1 : k = 1
 ·have q1 : (k == 1) = true := by simpa using k1
  have q2 : (k == 2) = false := by simp; omega
  have ha : Hid (Pg.asks k u = if u = true then 3 else 1) := by subst k1; cases u <;> rfl
  clear k1
  have hx : x = 0 ∨ x = 1 ∨ x = 2 ∨ x = 3 ∨ x = 4 ∨ x = 5 ∨ x = 6 ∨ x = 7 := by omega
  rcases hx with rfl | rfl | rfl | rfl | rfl | rfl | rfl | rfl <;> cases u
  all_goals
   go_enter Tryz.func99, Tryz.ntmps99
   go_wp2
   go_ret
   exact ⟨by rw [HM.out, ha.out]; rfl, zA (zR _) _⟩
 ·have q1 : (k == 1) = false := by simpa using k1
  have hx : x = 0 ∨ x = 1 ∨ x = 2 ∨ x = 3 ∨ x = 4 ∨ x = 5 ∨ x = 6 ∨ x = 7 := by omega
  by_cases k2 : k = 2
  ·have q2 : (k == 2) = true := by simpa using k2
   have ha : Hid (Pg.asks k u = if u = true then 6 else 4) := by subst k2; cases u <;> rfl
   clear k1 k2
   rcases hx with rfl | rfl | rfl | rfl | rfl | rfl | rfl | rfl <;> cases u
   all_goals
    go_enter Tryz.func99, Tryz.ntmps99
    go_wp2
    go_ret
    exact ⟨by rw [HM.out, ha.out]; rfl, zA (zR _) _⟩
  ·have q2 : (k == 2) = false := by simpa using k2
   have ha : Hid (Pg.asks k u = if u = true then 2 else 0) := by cases u <;> simp [Hid, Pg.asks, k1, k2]
   clear k1 k2
   rcases hx with rfl | rfl | rfl | rfl | rfl | rfl | rfl | rfl <;> cases u
   all_goals
    go_enter Tryz.func99, Tryz.ntmps99
    go_wp2
    go_ret
    exact ⟨by rw [HM.out, ha.out]; rfl, zA (zR _) _⟩
theorem answerOf_any0 (p s f r q k : Int) (u : Bool) (w : World) :
 Calls Tryz.prog 64 #[.agg #[.int .i64 p, .int .i64 s, .int .i64 f, .int .i64 r], .agg #[.int .i64 q, .int .i64 k, .bool u]] w fun e w' =>
  e = .returned (if Pg.may r k u = true then .agg #[.int .i64 0, .int .i64 (wrap64 (f + wrap64 (q - p))), .int .i64 r] else .agg #[.int .i64 2, .int .i64 0, .int .i64 0]) ∧ Below w.heap.size w w' := by
 cases h : Pg.may r k u
 ·go_enter Tryz.func64, Tryz.ntmps64
  go_wp2_with fail
  refine (lets_any _ _ _ _ _).mono ?_
  rintro e w1 ⟨rfl, hb1⟩
  obtain ⟨hc1, hf1⟩ := bcell hb1
  have hz : w.heap.size + 2 < w1.heap.size := by have := hb1.size; simp at this; omega
  go_wp2_with fail
  refine bodyPost_ret (v := .agg #[.int .i64 2, .int .i64 0, .int .i64 0]) ?_ rfl ⟨by simp, ?_⟩
  ·simp [results, Tryz.results64, go_sem, hc1]
  ·exact (((zT (zA (zA (zA (zR _) _) _) _) hb1).setCell (by simp; omega) _).setCell (by simp; omega) _).setCell (by simp; omega) _
 ·go_enter Tryz.func64, Tryz.ntmps64
  go_wp2_with fail
  refine (lets_any _ _ _ _ _).mono ?_
  rintro e w1 ⟨rfl, hb1⟩
  obtain ⟨hc1, hf1⟩ := bcell hb1
  have hz : w.heap.size + 2 < w1.heap.size := by have := hb1.size; simp at this; omega
  go_wp2_with fail
  refine bodyPost_ret (v := .agg #[.int .i64 0, .int .i64 (wrap64 (f + wrap64 (q - p))), .int .i64 r]) ?_ rfl ⟨by simp, ?_⟩
  ·simp [results, Tryz.results64, go_sem, hc1]
  ·exact (((zT (zA (zA (zA (zR _) _) _) _) hb1).setCell (by simp; omega) _).setCell (by simp; omega) _).setCell (by simp; omega) _
theorem answerOf_any (p s f r q k : Int) (u : Bool) (w : World) :
 Calls Tryz.prog 64 #[.agg #[.int .i64 p, .int .i64 s, .int .i64 f, .int .i64 r], .agg #[.int .i64 q, .int .i64 k, .bool u]] w fun e w' =>
  e = .returned (.agg #[.int .i64 (Pg.aEnd r k u), .int .i64 (Pg.aFrame p f r q k u), .int .i64 (Pg.aRights r k u)]) ∧ Below w.heap.size w w' := by
 refine (answerOf_any0 p s f r q k u w).mono ?_
 rintro e w' ⟨rfl, hb⟩
 refine ⟨?_, hb⟩
 unfold Pg.aEnd Pg.aFrame Pg.aRights
 split <;> rfl
end Go.Proofs.YtjdiaebgidgmaafGreat
