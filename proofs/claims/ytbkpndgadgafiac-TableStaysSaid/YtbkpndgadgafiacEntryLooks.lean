
/-
  The looks of package entry find just the codes that plain functions of their arguments say.
-/
import Derived.Test.YtbkpndgadgafiacEntryCatch
import Derived.Test.YtbkpndgadgafiacPlainF
namespace Go.Proofs.Ytbkpndgadgafiac
open Go.RowKit Go.Sort
set_option linter.unusedVariables false

theorem mapping_any (t l : Bool) (r : Int) (u d : Bool) (f lv : Int) (w : World) :
    Calls Try.prog 100 #[.agg #[.bool t, .bool l, .int .i64 r, .bool u, .bool d, .int .i64 f], .int .i64 lv] w fun e w' => e = .returned (.agg #[.int .i64 0, .int .i64 lv, .int .i64 f, .int .i64 r]) ∧ Below w.heap.size w w' := by
  go_enter Try.func100, Try.ntmps100
  go_wp2_with fail
  refine bodyPost_ret (v := .agg #[.int .i64 0, .int .i64 lv, .int .i64 f, .int .i64 r]) ?_ rfl ⟨rfl, ?_⟩
  · simp [results, Try.results100, go_sem]
  · exact balloc (balloc (brefl _) _) _

theorem written_any (t l : Bool) (r : Int) (u d : Bool) (f lv : Int) (h : Pg.eFault t l r u d f lv = 0) (w : World) :
    Calls Try.prog 104 #[.agg #[.bool t, .bool l, .int .i64 r, .bool u, .bool d, .int .i64 f], .int .i64 lv] w fun e w' => e = .returned (.int .u64 (Pg.eWord t l r u d f lv)) ∧ Below w.heap.size w w' := by
  obtain ⟨⟨l0, l3⟩, hc⟩ := Pg.fault_zero h
  clear h
  rcases hc with ⟨rfl, rfl, rfl, rfl, rfl, rfl⟩ | ⟨rfl, r0, r1, f0, f1, hc⟩
  · go_enter Try.func104, Try.ntmps104
    go_wp2_with fail
    go_ret
    exact ⟨rfl, balloc (brefl _) _⟩
  · clear hc
    have HO : Hid _ := Pg.word_or r f r0 r1 f0 f1
    cases u <;> cases d <;> cases l
    all_goals
      go_enter Try.func104, Try.ntmps104
      go_wp2_with fail
    all_goals
      go_ret
      refine ⟨ret_int ?_, balloc (brefl _) _⟩
      obtain ⟨o1, o2, o3, o4, o5, o6, o7, o8⟩ := HO.out
      simp only [o1, o2, o3, o4, o5, o6, o7, o8]
      simp_all [Pg.eWord, Pg.b01] <;> omega

theorem read_any (W lv : Int) (h0 : 0 ≤ W) (h1 : W < 4294967296) (h2 : W % 2 = 1) (w : World) :
    Calls Try.prog 119 #[.int .u64 W, .int .i64 lv] w fun e w' => e = .returned (.agg #[.bool true, .bool (Pg.dLeaf W lv), .int .i64 (W / 2 % 8), .bool (Pg.dUsed W), .bool (Pg.dDirty W), .int .i64 (W / 4096)]) ∧ Below w.heap.size w w' := by
  have h1' : W < 18446744073709551616 := by omega
  have b0 : (bits .and .u64 W 1 == 0) = false := by rw [Pg.and1 W h0 h1', h2]; rfl
  have b5 : (bits .and .u64 W 32 != 0) = Pg.dUsed W := by rw [Pg.and32 W h0 h1', Bool.eq_iff_iff]; simp [Pg.dUsed]; omega
  have b6 : (bits .and .u64 W 64 != 0) = Pg.dDirty W := by rw [Pg.and64 W h0 h1', Bool.eq_iff_iff]; simp [Pg.dDirty]; omega
  have b1 : wrap64 (bits .and .u64 W 14 / 2) = W / 2 % 8 := by
    rw [Pg.and14 W h0 h1', wrap64]
    omega
  have bF : wrap64 (bits .and .u64 W 4294963200 / 4096) = W / 4096 := by
    rw [Pg.andF W h0 h1', wrap64]
    omega
  by_cases h7 : W / 128 % 2 = 1
  · have b7 : (bits .and .u64 W 128 != 0) = true := by rw [Pg.and128 W h0 h1', h7]; rfl
    have HL : Hid (Pg.dLeaf W lv = true) := by simp [Hid, Pg.dLeaf, h7]
    clear h7 h2
    go_enter Try.func119, Try.ntmps119
    go_wp2_with fail
    refine bodyPost_ret (v := .agg #[.bool true, .bool true, .int .i64 (W / 2 % 8), .bool (Pg.dUsed W), .bool (Pg.dDirty W), .int .i64 (W / 4096)]) ?_ rfl ⟨by rw [HL.out], ?_⟩
    · simp [results, Try.results119, go_sem]
    · exact balloc (brefl _) _
  · have b7 : (bits .and .u64 W 128 != 0) = false := by
      have : W / 128 % 2 = 0 := by omega
      rw [Pg.and128 W h0 h1', this]; rfl
    have HL : Hid (Pg.dLeaf W lv = (lv == 0)) := by
      simp only [Hid, Pg.dLeaf, h7, decide_false, Bool.or_false]; rfl
    clear h7 h2
    go_enter Try.func119, Try.ntmps119
    go_wp2_with fail
    refine bodyPost_ret (v := .agg #[.bool true, .bool (lv == 0), .int .i64 (W / 2 % 8), .bool (Pg.dUsed W), .bool (Pg.dDirty W), .int .i64 (W / 4096)]) ?_ rfl ⟨by rw [HL.out], ?_⟩
    · simp [results, Try.results119, go_sem]
    · exact balloc (brefl _) _

theorem read_none (lv : Int) (w : World) :
    Calls Try.prog 119 #[.int .u64 0, .int .i64 lv] w fun e w' => e = .returned (.agg #[.bool false, .bool false, .int .i64 0, .bool false, .bool false, .int .i64 0]) ∧ Below w.heap.size w w' := by
  have b0 : (bits .and .u64 0 1 == 0) = true := by decide
  go_enter Try.func119, Try.ntmps119
  go_wp2_with fail
  refine bodyPost_ret (v := .agg #[.bool false, .bool false, .int .i64 0, .bool false, .bool false, .int .i64 0]) ?_ rfl ⟨rfl, ?_⟩
  · simp [results, Try.results119, go_sem]
  · exact balloc (brefl _) _

set_option maxHeartbeats 1000000 in
theorem mustBeWord_any (W lv : Int) (h0 : 0 ≤ W) (h1 : W < 18446744073709551616) (w : World) :
    Calls Try.prog 118 #[.int .u64 W, .int .i64 lv] w fun e w' => e = give (if lv < 0 ∨ 3 < lv then 1 else if Pg.wBad W lv = true then 7 else 0) ∧ w' = w := by
  by_cases hl : lv < 0 ∨ 3 < lv
  · rw [if_pos hl]
    go_enter Try.func118, Try.ntmps118
    go_wp2_with (go_at_call 112; refine (mustBeLevel_yes _ hl _).mono ?_; rintro e w' ⟨rfl, rfl⟩)
    exact ⟨rfl, rfl, rfl⟩
  · rw [if_neg hl]
    have l0 : 0 ≤ lv := by omega
    have l3 : lv ≤ 3 := by omega
    clear hl
    have hw := Pg.wBad_eq W lv h0 h1
    have HW : Hid _ := hw
    clear hw
    generalize hg : (if Pg.wBad W lv = true then (7 : Int) else 0) = g
    have HG : Hid _ := hg
    clear hg
    cases c1 : (bits .andNot .u64 W 4294963439 != 0)
    · cases c2 : (bits .and .u64 W 1 == 0)
      · cases c4 : (bits .and .u64 W 128 != 0)
        · go_enter Try.func118, Try.ntmps118
          go_wp2_with (first
            | (go_at_call 112; refine (mustBeLevel_no _ l0 l3 _).mono ?_; rintro e w' ⟨rfl, rfl⟩)
            | (go_at_call 113; refine (giveUpIf_any _ _ _).mono ?_; rintro e w' ⟨rfl, rfl⟩; simp only [cond]))
          go_end0
          exact ⟨by rw [← HG.out, HW.out, c1, c2, c4]; rfl, rfl⟩
        · cases c5 : (lv == 0)
          · go_enter Try.func118, Try.ntmps118
            go_wp2_with (first
              | (go_at_call 112; refine (mustBeLevel_no _ l0 l3 _).mono ?_; rintro e w' ⟨rfl, rfl⟩)
              | (go_at_call 113; refine (giveUpIf_any _ _ _).mono ?_; rintro e w' ⟨rfl, rfl⟩; simp only [cond]))
            go_end0
            exact ⟨by rw [← HG.out, HW.out, c1, c2, c4, c5]; rfl, rfl⟩
          · go_enter Try.func118, Try.ntmps118
            go_wp2_with (first
              | (go_at_call 112; refine (mustBeLevel_no _ l0 l3 _).mono ?_; rintro e w' ⟨rfl, rfl⟩)
              | (go_at_call 113; refine (giveUpIf_any _ _ _).mono ?_; rintro e w' ⟨rfl, rfl⟩; simp only [cond]))
            exact ⟨rfl, by rw [← HG.out, HW.out, c1, c2, c4, c5]; rfl, rfl⟩
      · cases c3 : (W != 0)
        · have hz : W = 0 := by simpa using c3
          subst hz
          go_enter Try.func118, Try.ntmps118
          go_wp2_with (first
            | (go_at_call 112; refine (mustBeLevel_no _ l0 l3 _).mono ?_; rintro e w' ⟨rfl, rfl⟩)
            | (go_at_call 113; refine (giveUpIf_any _ _ _).mono ?_; rintro e w' ⟨rfl, rfl⟩; simp only [cond]))
          go_end0
          exact ⟨by rw [← HG.out]; simp [Pg.wBad, give], rfl⟩
        · go_enter Try.func118, Try.ntmps118
          go_wp2_with (first
            | (go_at_call 112; refine (mustBeLevel_no _ l0 l3 _).mono ?_; rintro e w' ⟨rfl, rfl⟩)
            | (go_at_call 113; refine (giveUpIf_any _ _ _).mono ?_; rintro e w' ⟨rfl, rfl⟩; simp only [cond]))
          exact ⟨rfl, by rw [← HG.out, HW.out, c1, c2, c3]; rfl, rfl⟩
    · go_enter Try.func118, Try.ntmps118
      go_wp2_with (first
        | (go_at_call 112; refine (mustBeLevel_no _ l0 l3 _).mono ?_; rintro e w' ⟨rfl, rfl⟩)
        | (go_at_call 113; refine (giveUpIf_any _ _ _).mono ?_; rintro e w' ⟨rfl, rfl⟩; simp only [cond]))
      exact ⟨rfl, by rw [← HG.out, HW.out, c1]; rfl, rfl⟩

set_option maxHeartbeats 1000000 in
theorem mustMap_any (t l : Bool) (r : Int) (u d : Bool) (f lv : Int) (l0 : 0 ≤ lv) (l3 : lv ≤ 3) (hr : ¬ (r < 0 ∨ 7 < r ∨ f < 0 ∨ 1048576 ≤ f)) (w : World) :
    Calls Try.prog 114 #[.agg #[.bool t, .bool l, .int .i64 r, .bool u, .bool d, .int .i64 f], .int .i64 lv] w fun e w' =>
      e = give (if lv = 3 then 2 else if f % Pg.span lv = 0 then 0 else 3) ∧ Below w.heap.size w w' := by
  by_cases h3 : lv = 3
  · subst h3
    clear hr
    go_enter Try.func114, Try.ntmps114
    go_wp2_with (go_at_call 113; refine (giveUpIf_any _ _ _).mono ?_; rintro e w' ⟨rfl, rfl⟩; simp only [cond])
    exact ⟨rfl, rfl, balloc (brefl _) _⟩
  · have e3 : (lv == 3) = false := by simpa using h3
    have HC : Hid _ := Pg.check_leaf hr l0 (by omega : lv ≤ 2)
    rw [if_neg h3]
    clear h3 hr
    by_cases hm : f % Pg.span lv = 0
    · have hk : (Pg.check 0 lv f r != 0) = false := by rw [HC.out, if_pos hm]; rfl
      rw [if_pos hm]
      clear hm HC
      go_enter Try.func114, Try.ntmps114
      go_wp2_with (go_at_call 113; refine (giveUpIf_any _ _ _).mono ?_; rintro e w' ⟨rfl, rfl⟩; simp only [cond])
      refine (mapping_any _ _ _ _ _ _ _ _).mono ?_
      rintro e w1 ⟨rfl, hb1⟩
      go_wp2_with fail
      refine (check_any _ _ _ _ _).mono ?_
      rintro e w2 ⟨rfl, hb2⟩
      go_wp2_with (go_at_call 113; refine (giveUpIf_any _ _ _).mono ?_; rintro e w' ⟨rfl, rfl⟩; simp only [cond])
      go_end0
      exact ⟨rfl, bthen (bthen (balloc (brefl _) _) hb1) hb2⟩
    · have hk : (Pg.check 0 lv f r != 0) = true := by rw [HC.out, if_neg hm]; rfl
      rw [if_neg hm]
      clear hm HC
      go_enter Try.func114, Try.ntmps114
      go_wp2_with (go_at_call 113; refine (giveUpIf_any _ _ _).mono ?_; rintro e w' ⟨rfl, rfl⟩; simp only [cond])
      refine (mapping_any _ _ _ _ _ _ _ _).mono ?_
      rintro e w1 ⟨rfl, hb1⟩
      go_wp2_with fail
      refine (check_any _ _ _ _ _).mono ?_
      rintro e w2 ⟨rfl, hb2⟩
      go_wp2_with (go_at_call 113; refine (giveUpIf_any _ _ _).mono ?_; rintro e w' ⟨rfl, rfl⟩; simp only [cond])
      exact ⟨rfl, rfl, bthen (bthen (balloc (brefl _) _) hb1) hb2⟩

set_option maxHeartbeats 1000000 in
theorem mustLead_any (t l : Bool) (r : Int) (u d : Bool) (f lv : Int) (w : World) :
    Calls Try.prog 115 #[.agg #[.bool t, .bool l, .int .i64 r, .bool u, .bool d, .int .i64 f], .int .i64 lv] w fun e w' =>
      e = give (if lv = 0 then 2 else if r ≠ 7 ∨ u = true ∨ d = true then 7 else 0) ∧ Below w.heap.size w w' := by
  by_cases h3 : lv = 0
  · subst h3
    go_enter Try.func115, Try.ntmps115
    go_wp2_with (go_at_call 113; refine (giveUpIf_any _ _ _).mono ?_; rintro e w' ⟨rfl, rfl⟩; simp only [cond])
    exact ⟨rfl, rfl, balloc (brefl _) _⟩
  · have e3 : (lv == 0) = false := by simpa using h3
    rw [if_neg h3]
    clear h3
    by_cases h7 : r = 7
    · subst h7
      cases u <;> cases d
      all_goals
        go_enter Try.func115, Try.ntmps115
        go_wp2_with (first
          | (go_at_call 113; refine (giveUpIf_any _ _ _).mono ?_; rintro e w' ⟨rfl, rfl⟩; simp only [cond]))
        first
          | exact ⟨rfl, rfl, balloc (brefl _) _⟩
          | (go_end0
             exact ⟨rfl, balloc (brefl _) _⟩)
    · have e7 : (r != 7) = true := by simpa using h7
      rw [if_pos (.inl h7)]
      clear h7
      go_enter Try.func115, Try.ntmps115
      go_wp2_with (first
        | (go_at_call 113; refine (giveUpIf_any _ _ _).mono ?_; rintro e w' ⟨rfl, rfl⟩; simp only [cond]))
      exact ⟨rfl, rfl, balloc (brefl _) _⟩
end Go.Proofs.Ytbkpndgadgafiac
