/-
  EntryMarks is true for every argument: a mark is a bit of an entry's word, and two entries that are not the same have other words.
-/
import Derived.Test.YtefdfaekfjdpoabFrameE
import Derived.Test.YtefdfaekfjdpoabEntryBegun
import Derived.BigGuardPart
namespace Go.Proofs.Ytefdfaekfjdpoab
open Go.ChangeShapes Go.WideShapes Go.ChangeAt Go.RowKit Go.Joins Go.Sort
set_option linter.unusedVariables false

set_option maxHeartbeats 4000000 in
theorem entryMarks_walk (et el : Bool) (er : Int) (eu ed : Bool) (ef : Int) (her : Pg.fits er) (hef : Pg.fits ef) (ot ol : Bool) (or' : Int) (ou od : Bool) (of : Int) (hor : Pg.fits or') (hof : Pg.fits of) (lv : Int) (hlv : Pg.fits lv) (us : Bool) (di : Bool) (w : World) :
    Calls Try.prog 3 #[.agg #[.bool et, .bool el, .int .i64 er, .bool eu, .bool ed, .int .i64 ef], .agg #[.bool ot, .bool ol, .int .i64 or', .bool ou, .bool od, .int .i64 of], .int .i64 lv, .bool us, .bool di] w
      fun e w' => e = .returned (.bool true) ∧ Below w.heap.size w w' := by
  go_enter Try.func3, Try.ntmps3
  go_wp2_with fail
  refine (entryBegun_any _).mono ?_
  rintro e w1 ⟨rfl, hb1⟩
  have hB := bthen (balloc (balloc (brefl _) _) _) hb1
  have ce := later6 (v0 := .bool et) (v1 := .bool el) (v2 := .int .i64 er) (v3 := .bool eu) (v4 := .bool ed) (v5 := .int .i64 ef) (b := w.heap.size) hb1 (by simp [go_sem])
  have co := later6 (v0 := .bool ot) (v1 := .bool ol) (v2 := .int .i64 or') (v3 := .bool ou) (v4 := .bool od) (v5 := .int .i64 of) (b := w.heap.size + 1) hb1 (by simp [go_sem])
  clear hb1
  go_wp2_with fail
  refine (encode_any _ _ _ _ _ _ _ _).mono ?_
  rintro e w2 ⟨rfl, hb2⟩
  replace hB := bthen hB hb2
  replace ce := later6 hb2 ce
  replace co := later6 hb2 co
  clear hb2
  go_wp2_with fail
  refine (encode_any _ _ _ _ _ _ _ _).mono ?_
  rintro e w3 ⟨rfl, hb3⟩
  replace hB := bthen hB hb3
  replace ce := later6 hb3 ce
  replace co := later6 hb3 co
  clear hb3
  by_cases hc : Pg.eFault et el er eu ed ef lv = 0
  · have HC : Hid (Pg.eFault et el er eu ed ef lv = 0) := hc
    have hc0 : (Pg.eFault et el er eu ed ef lv != 0) = false := by simp [hc]
    have hcs : (Pg.eFault ot ol or' ou od of lv == 0) = false ∨
        ((Pg.eFault ot ol or' ou od of lv == 0) = true ∧ (et = ot ∧ el = ol ∧ er = or' ∧ eu = ou ∧ ed = od ∧ ef = of)) ∨
        ((Pg.eFault ot ol or' ou od of lv == 0) = true ∧ (Pg.enc et el er eu ed ef lv == Pg.enc ot ol or' ou od of lv) = false ∧
          (¬ et = ot ∨ (et = ot ∧ ol = !el) ∨ (et = ot ∧ el = ol ∧ ¬ er = or') ∨ (et = ot ∧ el = ol ∧ er = or' ∧ ¬ eu = ou) ∨ (et = ot ∧ el = ol ∧ er = or' ∧ eu = ou ∧ ¬ ed = od) ∨ (et = ot ∧ el = ol ∧ er = or' ∧ eu = ou ∧ ed = od ∧ ¬ ef = of))) := by
      by_cases hd : Pg.eFault ot ol or' ou od of lv = 0
      · right
        have hd0 : (Pg.eFault ot ol or' ou od of lv == 0) = true := by simp [hd]
        by_cases he : et = ot ∧ el = ol ∧ er = or' ∧ eu = ou ∧ ed = od ∧ ef = of
        · exact .inl ⟨hd0, he⟩
        · refine .inr ⟨hd0, by simp; exact fun h => he (Pg.enc_inj hc hd h), ?_⟩
          by_cases a1 : et = ot
          · by_cases a2 : el = ol
            · by_cases a3 : er = or'
              · by_cases a4 : eu = ou
                · by_cases a5 : ed = od
                  · exact .inr (.inr (.inr (.inr (.inr ⟨a1, a2, a3, a4, a5, fun a6 => he ⟨a1, a2, a3, a4, a5, a6⟩⟩))))
                  · exact .inr (.inr (.inr (.inr (.inl ⟨a1, a2, a3, a4, a5⟩))))
                · exact .inr (.inr (.inr (.inl ⟨a1, a2, a3, a4⟩)))
              · exact .inr (.inr (.inl ⟨a1, a2, a3⟩))
            · exact .inr (.inl ⟨a1, by cases el <;> cases ol <;> simp_all⟩)
          · exact .inl a1
      · left; simp [hd]
    clear hc
    rcases hcs with hd0 | ⟨hd0, rfl, rfl, rfl, rfl, rfl, rfl⟩ | ⟨hd0, hne, a1 | ⟨rfl, rfl⟩ | ⟨rfl, rfl, a1⟩ | ⟨rfl, rfl, rfl, a1⟩ | ⟨rfl, rfl, rfl, rfl, a1⟩ | ⟨rfl, rfl, rfl, rfl, rfl, a1⟩⟩
    all_goals
      cases el
      · try simp only [Bool.not_false] at hne hd0
        go_wp2_with fail
        go_ret
        exact ⟨rfl, hB⟩
      · try simp only [Bool.not_true] at hne hd0
        obtain ⟨m1, m2, m3, m4⟩ := Pg.marks us di HC.out
        have hm3 : (bits .andNot .u64 (bits .xor .u64 (Pg.enc et true er us di ef lv) (Pg.enc et true er eu ed ef lv)) 96 == 0) = true := by rw [m3]; rfl
        have hx0 : (Pg.eFault et true er us di ef lv == 0) = true := by simp [m2]
        have hxe : (us = eu ∧ di = ed) ∨ (us = eu ∧ ¬ di = ed ∧ (Pg.enc et true er us di ef lv == Pg.enc et true er eu ed ef lv) = false) ∨ (¬ us = eu ∧ (Pg.enc et true er us di ef lv == Pg.enc et true er eu ed ef lv) = false) := by
          by_cases a : us = eu
          · by_cases b : di = ed
            · exact .inl ⟨a, b⟩
            · exact .inr (.inl ⟨a, b, by simp; intro h; exact b (m4.1 h).2⟩)
          · exact .inr (.inr ⟨a, by simp; intro h; exact a (m4.1 h).1⟩)
        clear m1 m2 m3 m4
        rcases hxe with ⟨rfl, rfl⟩ | ⟨rfl, a, b⟩ | ⟨a, b⟩
        all_goals
          go_wp2_with fail
          refine (encode_any _ _ _ _ _ _ _ _).mono ?_
          rintro e w5 ⟨rfl, hb5⟩
          have cx := later6 (v0 := .bool et) (v1 := .bool true) (v2 := .int .i64 er) (v3 := .bool us) (v4 := .bool di) (v5 := .int .i64 ef) (b := w3.heap.size) hb5 (by simp [go_sem])
          replace hB := bthen (balloc hB _) hb5
          replace ce := later6 hb5 (later6 (balloc (brefl w3) _) ce)
          clear hb5
          go_wp2_with fail
          go_ret
          exact ⟨rfl, hB⟩
  · have hc0 : (Pg.eFault et el er eu ed ef lv != 0) = true := by simp [hc]
    have hz : Pg.enc et el er eu ed ef lv = 0 := by simp [Pg.enc, hc]
    go_wp2_with fail
    go_ret
    exact ⟨rfl, hB⟩

set_option maxRecDepth 100000 in
theorem entryMarks_lifted (os : Os) (started : os.Started) (H : Type) (enc : TypeId × Value → H) :
    ReturnsInHanded {} Try.checked os 3 .any (Rows.entryMarksSpec.pre6 enc Try.prog Try.f3 Rows.entryMarksRow.domain false) (Rows.entryMarksSpec.post enc Try.prog Try.f3 false true false false) := by
  refine returnsInHanded_of_change (C := Try.checked) own started (by kernel_rfl) Try.func3
    (ChangeSpec.witness6 (enc := enc) (C := Try.checked) false ⟨#[], #[.agg #[.bool false, .bool false, .int .i64 0, .bool false, .bool false, .int .i64 0], .agg #[.bool false, .bool false, .int .i64 0, .bool false, .bool false, .int .i64 0], .int .i64 0, .bool false, .bool false], []⟩ 8 (by kernel_rfl) (by kernel_rfl) (by kernel_rfl) (by kernel_rfl)) ?_
  intro W base args ds gs before hval0 hW hcnd _
  have hval : ∀ (j : Nat) t v, Try.f3.params[j]? = some t → args[j]? = some v → Value.okWide Try.prog W .any base t v := hval0
  have hW' := hW
  obtain ⟨p, q, hA0, hV, rfl, hfz, hnd⟩ := hW
  have hA : DataW.TrodAll enc Try.prog W 0 (fun _ => true) true Try.f3.params.toList args.toList ds p := hA0
  rw [Try.params3] at hA hval
  obtain ⟨v0, vs0, d0, ds0, p0, q0, hargs, rfl, rfl, h0, r0⟩ := trodAll_cons hA
  obtain ⟨v1, vs1, d1, ds1, p1, q1, rfl, rfl, rfl, h1, r1⟩ := trodAll_cons r0
  obtain ⟨v2, vs2, d2, ds2, p2, q2, rfl, rfl, rfl, h2, r2⟩ := trodAll_cons r1
  obtain ⟨v3, vs3, d3, ds3, p3, q3, rfl, rfl, rfl, h3, r3⟩ := trodAll_cons r2
  obtain ⟨v4, vs4, d4, ds4, p4, q4, rfl, rfl, rfl, h4, r4⟩ := trodAll_cons r3
  obtain ⟨rfl, rfl, rfl⟩ := trodAll_nil r4
  obtain rfl : args = #[v0, v1, v2, v3, v4] := by cases args; simp_all
  obtain ⟨rfl, rfl⟩ := trodVars_none hV
  obtain ⟨a0a, a0b, a0c, a0d, a0e, a0f, rfl, f0a, f0b⟩ := openEntry (hval 0 23 v0 rfl rfl) h0
  obtain ⟨a1a, a1b, a1c, a1d, a1e, a1f, rfl, f1a, f1b⟩ := openEntry (hval 1 23 v1 rfl rfl) h1
  obtain ⟨a2a, rfl, f2a⟩ := openInt (hval 2 3 v2 rfl rfl) h2
  obtain ⟨a3a, rfl⟩ := openBool (hval 3 4 v3 rfl rfl) h3
  obtain ⟨a4a, rfl⟩ := openBool (hval 4 4 v4 rfl rfl) h4
  clear hA0 hval0
  refine (entryMarks_walk a0a a0b a0c a0d a0e a0f f0a f0b a1a a1b a1c a1d a1e a1f f1a f1b a2a f2a a3a a4a W).mono fun e W' ⟨he, bel⟩ => ?_
  subst he
  exact ⟨_, rfl, _, _, _, [], _, [], hW', trodAll_mk1 (shut_bool Try.underlying4 _), (trodAll_cons_mk (stays (by kernel_rfl) (of_decide_eq_true (by kernel_rfl)) h0 bel) (trodAll_cons_mk (stays (by kernel_rfl) (of_decide_eq_true (by kernel_rfl)) h1 bel) (trodAll_cons_mk (stays (by kernel_rfl) (of_decide_eq_true (by kernel_rfl)) h2 bel) (trodAll_cons_mk (stays (by kernel_rfl) (of_decide_eq_true (by kernel_rfl)) h3 bel) (trodAll_cons_mk (stays (by kernel_rfl) (of_decide_eq_true (by kernel_rfl)) h4 bel) trodAll_mk0))))), rfl, bel.frame _, fun h => by cases h⟩

theorem entryMarks_over : Rows.entryMarksRow.holds Try.pinned (OpenSpec.ofChange Rows.entryMarksSpec) :=
  OpenClaim.holds_of_wide 3 Try.f3 rfl rfl rfl rfl rfl rfl rfl ⟨rfl, rfl, rfl, rfl, rfl⟩ rfl rfl rfl rfl rfl (by kernel_rfl) Try.func3 (by kernel_rfl)
    (of_decide_eq_true (by kernel_rfl)) (by unfold Func.isWrapper; first | (rw [if_pos (by decide +kernel)]; kernel_rfl) | (rw [if_neg (by decide +kernel)]; exact ⟨rfl, rfl⟩))
    (fun os started H enc _ => entryMarks_lifted os started H enc)

theorem entryMarks_proved : Rows.EntryMarksSaid := entryMarks_over
#print axioms entryMarks_proved
end Go.Proofs.Ytefdfaekfjdpoab
