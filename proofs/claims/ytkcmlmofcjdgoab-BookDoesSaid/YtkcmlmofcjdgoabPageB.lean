
/-
  More functions of package page return what plain functions of their arguments say, and leave all memory that was there as it was.
-/
import Derived.Test.YtkcmlmofcjdgoabPage
namespace Go.Proofs.Ytkcmlmofcjdgoab
open Go.RowKit
set_option linter.unusedVariables false

theorem meet_any (p s f r p' s' f' r' : Int) (hp : Pg.fits p) (hq : Pg.fits p') (w : World) :
    Calls Try.prog 76 #[.agg #[.int .i64 p, .int .i64 s, .int .i64 f, .int .i64 r], .agg #[.int .i64 p', .int .i64 s', .int .i64 f', .int .i64 r']] w fun e w' => e = .returned (.bool (Pg.meet p s p' s')) ∧ Below w.heap.size w w' := by
  cases h : Pg.over p s p'
  · have HM : Hid (Pg.meet p s p' s' = Pg.over p' s' p) := by simp [Hid, Pg.meet, h]
    go_enter Try.func76, Try.ntmps76
    go_wp2_with fail
    refine (over_any _ _ _ _ _ hp hq _).mono ?_
    rintro e w1 ⟨rfl, hb1⟩
    obtain ⟨hc1, hf1⟩ := bcell hb1
    go_wp2_with fail
    refine (over_any _ _ _ _ _ hq hp _).mono ?_
    rintro e w2 ⟨rfl, hb2⟩
    go_wp2_with fail
    go_ret
    exact ⟨by rw [HM.out]; rfl, bthen (bthen (balloc (balloc (brefl _) _) _) hb1) hb2⟩
  · have HM : Hid (Pg.meet p s p' s' = true) := by simp [Hid, Pg.meet, h]
    go_enter Try.func76, Try.ntmps76
    go_wp2_with fail
    refine (over_any _ _ _ _ _ hp hq _).mono ?_
    rintro e w1 ⟨rfl, hb1⟩
    obtain ⟨hc1, hf1⟩ := bcell hb1
    go_wp2_with fail
    go_ret
    exact ⟨by rw [HM.out]; rfl, bthen (balloc (balloc (brefl _) _) _) hb1⟩

theorem may_any (r p k : Int) (u : Bool) (w : World) :
    Calls Try.prog 82 #[.int .i64 r, .agg #[.int .i64 p, .int .i64 k, .bool u]] w fun e w' => e = .returned (.bool (Pg.may r k u)) ∧ Below w.heap.size w w' := by
  have HM : Hid _ := Pg.may_eq r k u
  go_enter Try.func82, Try.ntmps82
  go_wp2_with fail
  refine (asks_any _ _ _ _).mono ?_
  rintro e w1 ⟨rfl, hb1⟩
  generalize ha : Pg.asks k u = a at *
  have HA := ha
  clear ha
  go_wp2_with fail
  go_ret
  exact ⟨by rw [← HM.out]; rfl, bthen (balloc (brefl _) _) hb1⟩

theorem answer_any0 (p s f r q k : Int) (u : Bool) (w : World) :
    Calls Try.prog 59 #[.agg #[.int .i64 p, .int .i64 s, .int .i64 f, .int .i64 r], .agg #[.int .i64 q, .int .i64 k, .bool u]] w fun e w' =>
      e = .returned (if Pg.may r k u = true then .agg #[.int .i64 0, .int .i64 (wrap64 (f + wrap64 (q - p))), .int .i64 r] else .agg #[.int .i64 2, .int .i64 0, .int .i64 0]) ∧ Below w.heap.size w w' := by
  cases h : Pg.may r k u
  · go_enter Try.func59, Try.ntmps59
    go_wp2_with fail
    refine (may_any _ _ _ _ _).mono ?_
    rintro e w1 ⟨rfl, hb1⟩
    obtain ⟨hc1, hf1⟩ := bcell hb1
    have hz : w.heap.size + 2 < w1.heap.size := by have := hb1.size; simp at this; omega
    go_wp2_with fail
    refine bodyPost_ret (v := .agg #[.int .i64 2, .int .i64 0, .int .i64 0]) ?_ rfl ⟨by simp, ?_⟩
    · simp [results, Try.results59, go_sem, hc1]
    · exact (((bthen (balloc (balloc (balloc (brefl _) _) _) _) hb1).setCell (by simp; omega) _).setCell (by simp; omega) _).setCell (by simp; omega) _
  · go_enter Try.func59, Try.ntmps59
    go_wp2_with fail
    refine (may_any _ _ _ _ _).mono ?_
    rintro e w1 ⟨rfl, hb1⟩
    obtain ⟨hc1, hf1⟩ := bcell hb1
    have hz : w.heap.size + 2 < w1.heap.size := by have := hb1.size; simp at this; omega
    go_wp2_with fail
    refine bodyPost_ret (v := .agg #[.int .i64 0, .int .i64 (wrap64 (f + wrap64 (q - p))), .int .i64 r]) ?_ rfl ⟨by simp, ?_⟩
    · simp [results, Try.results59, go_sem, hc1]
    · exact (((bthen (balloc (balloc (balloc (brefl _) _) _) _) hb1).setCell (by simp; omega) _).setCell (by simp; omega) _).setCell (by simp; omega) _

theorem answer_any (p s f r q k : Int) (u : Bool) (w : World) :
    Calls Try.prog 59 #[.agg #[.int .i64 p, .int .i64 s, .int .i64 f, .int .i64 r], .agg #[.int .i64 q, .int .i64 k, .bool u]] w fun e w' =>
      e = .returned (.agg #[.int .i64 (Pg.aEnd r k u), .int .i64 (Pg.aFrame p f r q k u), .int .i64 (Pg.aRights r k u)]) ∧ Below w.heap.size w w' := by
  refine (answer_any0 p s f r q k u w).mono ?_
  rintro e w' ⟨rfl, hb⟩
  refine ⟨?_, hb⟩
  unfold Pg.aEnd Pg.aFrame Pg.aRights
  split <;> rfl

end Go.Proofs.Ytkcmlmofcjdgoab
