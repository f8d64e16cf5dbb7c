
/-
  More functions of package page return what plain functions of their arguments say, and leave all memory that was there as it was.
-/
import Derived.Test.YtmogcpbfcghbhadPage
namespace Go.Proofs.Ytmogcpbfcghbhad
open Go.RowKit
set_option linter.unusedVariables false

theorem meet_any (p s f r p' s' f' r' : Int) (hp : Pg.fits p) (hq : Pg.fits p') (w : World) :
    Calls Try.prog 23 #[.agg #[.int .i64 p, .int .i64 s, .int .i64 f, .int .i64 r], .agg #[.int .i64 p', .int .i64 s', .int .i64 f', .int .i64 r']] w fun e w' => e = .returned (.bool (Pg.meet p s p' s')) ∧ Below w.heap.size w w' := by
  cases h : Pg.over p s p'
  · have HM : Hid (Pg.meet p s p' s' = Pg.over p' s' p) := by simp [Hid, Pg.meet, h]
    go_enter Try.func23, Try.ntmps23
    go_wp2_with fail
    refine (over_any _ _ _ _ _ hp hq _).mono ?_
    rintro e w1 ⟨rfl, hb1⟩
    obtain ⟨hc1, hf1⟩ := bcell hb1
    go_wp2_with fail
    refine (over_any _ _ _ _ _ hq hp _).mono ?_
    rintro e w2 ⟨rfl, hb2⟩
    go_wp2_with fail
    go_ret
    exact ⟨by rw [HM.out]; rfl, bthen (bthen (balloc (balloc (brefl _) _) _) hb1) hb2⟩
  · have HM : Hid (Pg.meet p s p' s' = true) := by simp [Hid, Pg.meet, h]
    go_enter Try.func23, Try.ntmps23
    go_wp2_with fail
    refine (over_any _ _ _ _ _ hp hq _).mono ?_
    rintro e w1 ⟨rfl, hb1⟩
    obtain ⟨hc1, hf1⟩ := bcell hb1
    go_wp2_with fail
    go_ret
    exact ⟨by rw [HM.out]; rfl, bthen (balloc (balloc (brefl _) _) _) hb1⟩

end Go.Proofs.Ytmogcpbfcghbhad
