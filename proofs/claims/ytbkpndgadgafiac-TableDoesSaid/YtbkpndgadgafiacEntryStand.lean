
/-
  Whether an entry may stand at a level: package entry's look finds just the first code that is so.
-/
import Derived.Test.YtbkpndgadgafiacEntryLooks
namespace Go.Proofs.Ytbkpndgadgafiac
open Go.RowKit Go.Sort
set_option linter.unusedVariables false

set_option maxHeartbeats 1000000 in
theorem mustStand_none (l : Bool) (r : Int) (u d : Bool) (f lv : Int) (l0 : 0 ≤ lv) (l3 : lv ≤ 3) (w : World) :
    Calls Try.prog 103 #[.agg #[.bool false, .bool l, .int .i64 r, .bool u, .bool d, .int .i64 f], .int .i64 lv] w fun e w' => e = give (Pg.eFault false l r u d f lv) ∧ Below w.heap.size w w' := by
  have hg : Pg.eFault false l r u d f lv = if l = true ∨ r ≠ 0 ∨ u = true ∨ d = true ∨ f ≠ 0 then 7 else 0 := by
    simp only [Pg.eFault, if_neg (by omega : ¬ (lv < 0 ∨ 3 < lv)), if_true]
  generalize Pg.eFault false l r u d f lv = g at hg
  have HG : Hid _ := hg
  clear hg
  go_enter Try.func103, Try.ntmps103
  go_wp2_with (first
    | (go_at_call 112; refine (mustBeLevel_no _ l0 l3 _).mono ?_; rintro e w' ⟨rfl, rfl⟩)
    | (go_at_call 113; refine (giveUpIf_any _ _ _).mono ?_; rintro e w' ⟨rfl, rfl⟩; simp only [cond]))
  all_goals
    first
      | (refine ⟨rfl, ?_, balloc (brefl _) _⟩
         rw [HG.out]
         simp_all [give])
      | (refine bodyPost_ret (results_none rfl _ _ _) rfl ⟨?_, balloc (brefl _) _⟩
         rw [HG.out]
         simp_all [give])

set_option maxHeartbeats 1000000 in
theorem mustStand_there (l : Bool) (r : Int) (u d : Bool) (f lv : Int) (l0 : 0 ≤ lv) (l3 : lv ≤ 3) (w : World) :
    Calls Try.prog 103 #[.agg #[.bool true, .bool l, .int .i64 r, .bool u, .bool d, .int .i64 f], .int .i64 lv] w fun e w' => e = give (Pg.eFault true l r u d f lv) ∧ Below w.heap.size w w' := by
  have hlv : ¬ (lv < 0 ∨ 3 < lv) := by omega
  have HS : Hid _ := Pg.check_small f r
  by_cases hr : r < 0 ∨ 7 < r ∨ f < 0 ∨ 1048576 ≤ f
  · have hc : Pg.eFault true l r u d f lv = 1 := by simp [Pg.eFault, hlv, hr]
    rw [hc]
    have hk : (Pg.check 0 0 f r != 0) = true := by rw [HS.out, if_pos hr]; rfl
    clear hc hr HS hlv
    go_enter Try.func103, Try.ntmps103
    go_wp2_with (go_at_call 112; refine (mustBeLevel_no _ l0 l3 _).mono ?_; rintro e w' ⟨rfl, rfl⟩)
    refine (mapping_any _ _ _ _ _ _ _ _).mono ?_
    rintro e w1 ⟨rfl, hb1⟩
    go_wp2_with fail
    refine (check_any _ _ _ _ _).mono ?_
    rintro e w2 ⟨rfl, hb2⟩
    go_wp2_with (go_at_call 113; refine (giveUpIf_any _ _ _).mono ?_; rintro e w' ⟨rfl, rfl⟩; simp only [cond])
    exact ⟨rfl, rfl, bthen (bthen (balloc (brefl _) _) hb1) hb2⟩
  · have hk : (Pg.check 0 0 f r != 0) = false := by rw [HS.out, if_neg hr]; rfl
    have HR : Hid _ := hr
    cases l
    · have HC : Hid (Pg.eFault true false r u d f lv = if lv = 0 then 2 else if r ≠ 7 ∨ u = true ∨ d = true then 7 else 0) := by
        simp only [Hid, Pg.eFault, if_neg hlv, if_neg hr, Bool.true_eq_false, Bool.false_eq_true, if_false, false_and, true_and, false_or]
      generalize hg : (if lv = 0 then (2 : Int) else if r ≠ 7 ∨ u = true ∨ d = true then 7 else 0) = g at HC
      rw [HC.out]
      have HL := mustLead_any true false r u d f lv
      rw [hg] at HL
      clear HC hr HS hlv hg
      go_enter Try.func103, Try.ntmps103
      go_wp2_with (go_at_call 112; refine (mustBeLevel_no _ l0 l3 _).mono ?_; rintro e w' ⟨rfl, rfl⟩)
      refine (mapping_any _ _ _ _ _ _ _ _).mono ?_
      rintro e w1 ⟨rfl, hb1⟩
      obtain ⟨hc1, hf1⟩ := bcell hb1
      go_wp2_with fail
      refine (check_any _ _ _ _ _).mono ?_
      rintro e w2 ⟨rfl, hb2⟩
      obtain ⟨hc2, hf2⟩ := bcell (bthen hb1 hb2)
      go_wp2_with (go_at_call 113; refine (giveUpIf_any _ _ _).mono ?_; rintro e w' ⟨rfl, rfl⟩; simp only [cond])
      refine (HL _).mono ?_
      rintro e w3 ⟨rfl, hb3⟩
      by_cases h0 : g = 0
      · rw [h0, give_zero]
        go_wp2_with fail
        go_end0
        exact ⟨by rw [h0, give_zero], bthen (bthen (bthen (balloc (brefl _) _) hb1) hb2) hb3⟩
      · rw [give_code h0]
        go_wp2_with fail
        exact ⟨rfl, (give_code h0).symm, bthen (bthen (bthen (balloc (brefl _) _) hb1) hb2) hb3⟩
    · have HC : Hid (Pg.eFault true true r u d f lv = if lv = 3 then 2 else if f % Pg.span lv = 0 then 0 else 3) := by
        simp only [Hid, Pg.eFault, if_neg hlv, if_neg hr, Bool.true_eq_false, if_false, if_true, false_and, true_and, or_false]
      generalize hg : (if lv = 3 then (2 : Int) else if f % Pg.span lv = 0 then 0 else 3) = g at HC
      rw [HC.out]
      have HL := mustMap_any true true r u d f lv l0 l3 hr
      rw [hg] at HL
      clear HC hr HS hlv hg
      go_enter Try.func103, Try.ntmps103
      go_wp2_with (go_at_call 112; refine (mustBeLevel_no _ l0 l3 _).mono ?_; rintro e w' ⟨rfl, rfl⟩)
      refine (mapping_any _ _ _ _ _ _ _ _).mono ?_
      rintro e w1 ⟨rfl, hb1⟩
      obtain ⟨hc1, hf1⟩ := bcell hb1
      go_wp2_with fail
      refine (check_any _ _ _ _ _).mono ?_
      rintro e w2 ⟨rfl, hb2⟩
      obtain ⟨hc2, hf2⟩ := bcell (bthen hb1 hb2)
      go_wp2_with (go_at_call 113; refine (giveUpIf_any _ _ _).mono ?_; rintro e w' ⟨rfl, rfl⟩; simp only [cond])
      refine (HL _).mono ?_
      rintro e w3 ⟨rfl, hb3⟩
      by_cases h0 : g = 0
      · rw [h0, give_zero]
        go_wp2_with fail
        go_end0
        exact ⟨by rw [h0, give_zero], bthen (bthen (bthen (balloc (brefl _) _) hb1) hb2) hb3⟩
      · rw [give_code h0]
        go_wp2_with fail
        exact ⟨rfl, (give_code h0).symm, bthen (bthen (bthen (balloc (brefl _) _) hb1) hb2) hb3⟩

theorem mustStand_any (t l : Bool) (r : Int) (u d : Bool) (f lv : Int) (w : World) :
    Calls Try.prog 103 #[.agg #[.bool t, .bool l, .int .i64 r, .bool u, .bool d, .int .i64 f], .int .i64 lv] w fun e w' => e = give (Pg.eFault t l r u d f lv) ∧ Below w.heap.size w w' := by
  by_cases hl : lv < 0 ∨ 3 < lv
  · have hc : Pg.eFault t l r u d f lv = 1 := by simp [Pg.eFault, hl]
    rw [hc]
    go_enter Try.func103, Try.ntmps103
    go_wp2_with (go_at_call 112; refine (mustBeLevel_yes _ hl _).mono ?_; rintro e w' ⟨rfl, rfl⟩)
    exact ⟨rfl, rfl, balloc (brefl _) _⟩
  · cases t
    · exact mustStand_none l r u d f lv (by omega) (by omega) w
    · exact mustStand_there l r u d f lv (by omega) (by omega) w
end Go.Proofs.Ytbkpndgadgafiac
