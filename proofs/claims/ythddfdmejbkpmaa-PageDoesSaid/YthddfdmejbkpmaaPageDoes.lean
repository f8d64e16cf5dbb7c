/-
  PageDoes is true for every argument: each function of package page answers as the document's own answer does.
-/
import Derived.Test.YthddfdmejbkpmaaFrame
import Derived.Test.YthddfdmejbkpmaaPageBegun
import Derived.Test.YthddfdmejbkpmaaPageRef
import Derived.WalkSpells
namespace Go.Proofs.Ythddfdmejbkpmaa
open Go.ChangeShapes Go.WideShapes Go.ChangeAt Go.RowKit Go.Joins Go.Sort
set_option linter.unusedVariables false

set_option maxHeartbeats 4000000 in
theorem pageDoes_walk (mp ms mf mr : Int) (hmp : Pg.fits mp) (hms : Pg.fits ms) (hmf : Pg.fits mf) (hmr : Pg.fits mr)
    (np ns nf nr : Int) (hnp : Pg.fits np) (hns : Pg.fits ns) (hnf : Pg.fits nf) (hnr : Pg.fits nr)
    (q k : Int) (u : Bool) (hq : Pg.fits q) (hk : Pg.fits k) (p : Int) (hp : Pg.fits p) (l : Int) (hl : Pg.fits l) (r : Int) (hr : Pg.fits r) (w : World) :
    Calls Try.prog 3 #[.agg #[.int .i64 mp, .int .i64 ms, .int .i64 mf, .int .i64 mr], .agg #[.int .i64 np, .int .i64 ns, .int .i64 nf, .int .i64 nr], .agg #[.int .i64 q, .int .i64 k, .bool u], .int .i64 p, .int .i64 l, .int .i64 r] w
      fun e w' => e = .returned (.bool true) ∧ Below w.heap.size w w' := by
  have HB : Hid (Pg.below p 4096 = (decide (0 ≤ p) && decide (p < 4096))) := rfl
  obtain ⟨hx, hd, hb⟩ : ∃ hx : Bool, decide (0 ≤ p) = hx ∧ Pg.below p 4096 = (hx && decide (p < 4096)) := ⟨_, rfl, HB.out⟩
  clear HB
  cases hx
  all_goals
    go_enter Try.func3, Try.ntmps3
    go_wp2_with fail
    refine (pageBegun_any _).mono ?_
    rintro e w1 ⟨rfl, hb1⟩
    have hB : Below w.heap.size w w1 := bthen (balloc (balloc (balloc (brefl _) _) _) _) hb1
    obtain ⟨hc1, hf1⟩ := bcell hb1
    have cm0 : w1.cell? ⟨w.heap.size, 0, none⟩ = some (.int .i64 mp) := by rw [hc1 _ _ (by simp <;> omega)]; simp [go_sem]
    have cm1 : w1.cell? ⟨w.heap.size, 1, none⟩ = some (.int .i64 ms) := by rw [hc1 _ _ (by simp <;> omega)]; simp [go_sem]
    have cm2 : w1.cell? ⟨w.heap.size, 2, none⟩ = some (.int .i64 mf) := by rw [hc1 _ _ (by simp <;> omega)]; simp [go_sem]
    have cm3 : w1.cell? ⟨w.heap.size, 3, none⟩ = some (.int .i64 mr) := by rw [hc1 _ _ (by simp <;> omega)]; simp [go_sem]
    have cn0 : w1.cell? ⟨w.heap.size + 1, 0, none⟩ = some (.int .i64 np) := by rw [hc1 _ _ (by simp <;> omega)]; simp [go_sem]
    have cn1 : w1.cell? ⟨w.heap.size + 1, 1, none⟩ = some (.int .i64 ns) := by rw [hc1 _ _ (by simp <;> omega)]; simp [go_sem]
    have cn2 : w1.cell? ⟨w.heap.size + 1, 2, none⟩ = some (.int .i64 nf) := by rw [hc1 _ _ (by simp <;> omega)]; simp [go_sem]
    have cn3 : w1.cell? ⟨w.heap.size + 1, 3, none⟩ = some (.int .i64 nr) := by rw [hc1 _ _ (by simp <;> omega)]; simp [go_sem]
    have ca0 : w1.cell? ⟨w.heap.size + 1 + 1, 0, none⟩ = some (.int .i64 q) := by rw [hc1 _ _ (by simp <;> omega)]; simp [go_sem]
    have ca1 : w1.cell? ⟨w.heap.size + 1 + 1, 1, none⟩ = some (.int .i64 k) := by rw [hc1 _ _ (by simp <;> omega)]; simp [go_sem]
    have ca2 : w1.cell? ⟨w.heap.size + 1 + 1, 2, none⟩ = some (.bool u) := by rw [hc1 _ _ (by simp <;> omega)]; simp [go_sem]
    clear hc1 hf1 hb1
    go_wp2_with fail
    have kcm0 := cell_regrown cm0
    have kcm1 := cell_regrown cm1
    have kcm2 := cell_regrown cm2
    have kcm3 := cell_regrown cm3
    have kcn0 := cell_regrown cn0
    have kcn1 := cell_regrown cn1
    have kcn2 := cell_regrown cn2
    have kcn3 := cell_regrown cn3
    have kca0 := cell_regrown ca0
    have kca1 := cell_regrown ca1
    have kca2 := cell_regrown ca2
    refine wp_region_quiet_below (by kernel_rfl) (by kernel_rfl) ?_
    repeat (first
      | go_big_quiet_step ((first
        | (go_at_call 8; exact Calls.regrown_of (below_of_same (span_any _ _)))
        | (go_at_call 9; exact Calls.regrown_of (below_of_same (spanOf_any _ _)))
        | (go_at_call 10; exact Calls.regrown_of (below_of_same (has_any _ _)))
        | (go_at_call 11; exact Calls.regrown_of (below_of_same (index_any _ _ _)))
        | (go_at_call 12; exact Calls.regrown_of (indexOf_any _ _ _))
        | (go_at_call 13; exact Calls.regrown_of (check_any _ _ _ _ _))
        | (go_at_call 14; exact Calls.regrown_of (mapFault_any _ _ _ _ _))
        | (go_at_call 15; exact Calls.regrown_of (over_any _ _ _ _ _ hmp hp _))
        | (go_at_call 16; exact Calls.regrown_of (refHas_any _ _ _ _ _ hmp hp _))
        | (go_at_call 17; exact Calls.regrown_of (meet_any _ _ _ _ _ _ _ _ hmp hnp _))
        | (go_at_call 18; exact Calls.regrown_of (both_any _ _ _ _ _ _ _ _ hmp hnp _)))))
    refine wpQuiet_nil ?_
    intro _ hw'
    obtain ⟨⟨dq, osq⟩, hw''⟩ := hw'
    subst hw''
    have hB2 : Below w.heap.size w (grow (redrawn w1 dq) osq) := bthen hB (below_regrown w1 dq osq)
    have ncm0 := kcm0 dq osq
    have ncm1 := kcm1 dq osq
    have ncm2 := kcm2 dq osq
    have ncm3 := kcm3 dq osq
    have ncn0 := kcn0 dq osq
    have ncn1 := kcn1 dq osq
    have ncn2 := kcn2 dq osq
    have ncn3 := kcn3 dq osq
    have nca0 := kca0 dq osq
    have nca1 := kca1 dq osq
    have nca2 := kca2 dq osq
    clear kcm0 kcm1 kcm2 kcm3 kcn0 kcn1 kcn2 kcn3 kca0 kca1 kca2
    clear cm0 cm1 cm2 cm3 cn0 cn1 cn2 cn3 ca0 ca1 ca2 hB
    generalize grow (redrawn w1 dq) osq = w2 at *
    have cm0 := ncm0; clear ncm0
    have cm1 := ncm1; clear ncm1
    have cm2 := ncm2; clear ncm2
    have cm3 := ncm3; clear ncm3
    have cn0 := ncn0; clear ncn0
    have cn1 := ncn1; clear ncn1
    have cn2 := ncn2; clear ncn2
    have cn3 := ncn3; clear ncn3
    have ca0 := nca0; clear nca0
    have ca1 := nca1; clear nca1
    have ca2 := nca2; clear nca2
    go_wp2_with fail
    have kca0 := cell_regrown ca0
    have kca1 := cell_regrown ca1
    have kca2 := cell_regrown ca2
    have kcm0 := cell_regrown cm0
    have kcm1 := cell_regrown cm1
    have kcm2 := cell_regrown cm2
    have kcm3 := cell_regrown cm3
    have kcn0 := cell_regrown cn0
    have kcn1 := cell_regrown cn1
    have kcn2 := cell_regrown cn2
    have kcn3 := cell_regrown cn3
    refine wp_region_quiet_below (by kernel_rfl) (by kernel_rfl) ?_
    repeat (first
      | go_big_quiet_step ((first
        | (go_at_call 19; exact Calls.regrown_of (may_any _ _ _ _ _))
        | (go_at_call 20; exact Calls.regrown_of (lets_any _ _ _ _ _))
        | (go_at_call 21; exact Calls.regrown_of (checkAccess_any _ _ _ _))
        | (go_at_call 22; exact Calls.regrown_of (accessFault_any _ _ _ _)))))
    refine wpQuiet_nil ?_
    intro _ hw'
    obtain ⟨⟨dq, osq⟩, hw''⟩ := hw'
    subst hw''
    have hB3 : Below w.heap.size w (grow (redrawn w2 dq) osq) := bthen hB2 (below_regrown w2 dq osq)
    have ncm0 := kcm0 dq osq
    have ncm1 := kcm1 dq osq
    have ncm2 := kcm2 dq osq
    have ncm3 := kcm3 dq osq
    have ncn0 := kcn0 dq osq
    have ncn1 := kcn1 dq osq
    have ncn2 := kcn2 dq osq
    have ncn3 := kcn3 dq osq
    have nca0 := kca0 dq osq
    have nca1 := kca1 dq osq
    have nca2 := kca2 dq osq
    clear kcm0 kcm1 kcm2 kcm3 kcn0 kcn1 kcn2 kcn3 kca0 kca1 kca2
    clear cm0 cm1 cm2 cm3 cn0 cn1 cn2 cn3 ca0 ca1 ca2 hB2
    generalize grow (redrawn w2 dq) osq = w3 at *
    have cm0 := ncm0; clear ncm0
    have cm1 := ncm1; clear ncm1
    have cm2 := ncm2; clear ncm2
    have cm3 := ncm3; clear ncm3
    have cn0 := ncn0; clear ncn0
    have cn1 := ncn1; clear ncn1
    have cn2 := ncn2; clear ncn2
    have cn3 := ncn3; clear ncn3
    have ca0 := nca0; clear nca0
    have ca1 := nca1; clear nca1
    have ca2 := nca2; clear nca2
    go_wp2_with fail
    refine (answer_any _ _ _ _ _ _ _ _).mono ?_
    rintro e w4 ⟨rfl, hb4⟩
    have hB4 : Below w.heap.size w w4 := bthen hB3 hb4
    have ncm0 := cell_later hb4 cm0
    have ncm1 := cell_later hb4 cm1
    have ncm2 := cell_later hb4 cm2
    have ncm3 := cell_later hb4 cm3
    have ncn0 := cell_later hb4 cn0
    have ncn1 := cell_later hb4 cn1
    have ncn2 := cell_later hb4 cn2
    have ncn3 := cell_later hb4 cn3
    have nca0 := cell_later hb4 ca0
    have nca1 := cell_later hb4 ca1
    have nca2 := cell_later hb4 ca2
    clear cm0 cm1 cm2 cm3 cn0 cn1 cn2 cn3 ca0 ca1 ca2 hB3 hb4
    clear w3
    go_wp2_with fail
    have hB5 : Below w.heap.size w (w4.alloc (Obj.cells #[.int .i64 (Pg.aEnd mr k u), .int .i64 (Pg.aFrame mp mf mr q k u), .int .i64 (Pg.aRights mr k u)] 36)) := balloc hB4 _
    have g0 : (w4.alloc (Obj.cells #[.int .i64 (Pg.aEnd mr k u), .int .i64 (Pg.aFrame mp mf mr q k u), .int .i64 (Pg.aRights mr k u)] 36)).cell? ⟨w4.heap.size, 0, none⟩ = some (.int .i64 (Pg.aEnd mr k u)) := by simp [go_sem]
    have g1 : (w4.alloc (Obj.cells #[.int .i64 (Pg.aEnd mr k u), .int .i64 (Pg.aFrame mp mf mr q k u), .int .i64 (Pg.aRights mr k u)] 36)).cell? ⟨w4.heap.size, 1, none⟩ = some (.int .i64 (Pg.aFrame mp mf mr q k u)) := by simp [go_sem]
    have g2 : (w4.alloc (Obj.cells #[.int .i64 (Pg.aEnd mr k u), .int .i64 (Pg.aFrame mp mf mr q k u), .int .i64 (Pg.aRights mr k u)] 36)).cell? ⟨w4.heap.size, 2, none⟩ = some (.int .i64 (Pg.aRights mr k u)) := by simp [go_sem]
    have hb5 := balloc (brefl w4) (Obj.cells #[.int .i64 (Pg.aEnd mr k u), .int .i64 (Pg.aFrame mp mf mr q k u), .int .i64 (Pg.aRights mr k u)] 36)
    have cm0 := cell_later hb5 ncm0; clear ncm0
    have cm1 := cell_later hb5 ncm1; clear ncm1
    have cm2 := cell_later hb5 ncm2; clear ncm2
    have cm3 := cell_later hb5 ncm3; clear ncm3
    have cn0 := cell_later hb5 ncn0; clear ncn0
    have cn1 := cell_later hb5 ncn1; clear ncn1
    have cn2 := cell_later hb5 ncn2; clear ncn2
    have cn3 := cell_later hb5 ncn3; clear ncn3
    have ca0 := cell_later hb5 nca0; clear nca0
    have ca1 := cell_later hb5 nca1; clear nca1
    have ca2 := cell_later hb5 nca2; clear nca2
    clear hb5 hB4
    generalize ha : w4.heap.size = ab at *
    clear ha
    generalize (w4.alloc (Obj.cells #[.int .i64 (Pg.aEnd mr k u), .int .i64 (Pg.aFrame mp mf mr q k u), .int .i64 (Pg.aRights mr k u)] 36)) = w5 at *
    clear w4
    have kcm0 := cell_regrown cm0
    have kcm1 := cell_regrown cm1
    have kcm2 := cell_regrown cm2
    have kcm3 := cell_regrown cm3
    have kcn0 := cell_regrown cn0
    have kcn1 := cell_regrown cn1
    have kcn2 := cell_regrown cn2
    have kcn3 := cell_regrown cn3
    have kca0 := cell_regrown ca0
    have kca1 := cell_regrown ca1
    have kca2 := cell_regrown ca2
    have kg0 := cell_regrown g0
    have kg1 := cell_regrown g1
    have kg2 := cell_regrown g2
    cases hc : (Pg.check mp ms mf mr != 0) <;> cases ho : Pg.over mp ms q
    all_goals
      refine wp_region_quiet_below (by kernel_rfl) (by kernel_rfl) ?_
      repeat (first
        | go_big_quiet_step ((first
          | (go_at_call 14; exact Calls.regrown_of (mapFault_any _ _ _ _ _))
          | (go_at_call 16; exact Calls.regrown_of (refHas_any _ _ _ _ _ hmp hq _))
          | (go_at_call 24; exact Calls.regrown_of (answerOf_any _ _ _ _ _ _ _ _)))))
      refine wpQuiet_nil ?_
      intro _ hw'
      obtain ⟨⟨dq, osq⟩, hw''⟩ := hw'
      subst hw''
      go_wp2_with fail
      go_ret
      exact ⟨rfl, bthen hB5 (below_regrown w5 dq osq)⟩

set_option maxRecDepth 100000 in
theorem pageDoes_lifted (os : Os) (started : os.Started) (H : Type) (enc : TypeId × Value → H) :
    ReturnsInHanded {} Try.checked os 3 .any (Rows.pageDoesSpec.pre6 enc Try.prog Try.f3 Rows.pageDoesRow.domain false) (Rows.pageDoesSpec.post enc Try.prog Try.f3 false true false false) := by
  refine returnsInHanded_of_change (C := Try.checked) own started (by kernel_rfl) Try.func3
    (ChangeSpec.witness6 (enc := enc) (C := Try.checked) false ⟨#[], #[.agg #[.int .i64 0, .int .i64 0, .int .i64 0, .int .i64 0], .agg #[.int .i64 0, .int .i64 0, .int .i64 0, .int .i64 0], .agg #[.int .i64 0, .int .i64 0, .bool false], .int .i64 0, .int .i64 0, .int .i64 0], []⟩ 8 (by kernel_rfl) (by kernel_rfl) (by kernel_rfl) (by kernel_rfl)) ?_
  intro W base args ds gs before hval0 hW hcnd _
  have hval : ∀ (j : Nat) t v, Try.f3.params[j]? = some t → args[j]? = some v → Value.okWide Try.prog W .any base t v := hval0
  have hW' := hW
  obtain ⟨p, q, hA0, hV, rfl, hfz, hnd⟩ := hW
  have hA : DataW.TrodAll enc Try.prog W 0 (fun _ => true) true Try.f3.params.toList args.toList ds p := hA0
  rw [Try.params3] at hA hval
  obtain ⟨v0, vs0, d0, ds0, p0, q0, hargs, rfl, rfl, h0, r0⟩ := trodAll_cons hA
  obtain ⟨v1, vs1, d1, ds1, p1, q1, rfl, rfl, rfl, h1, r1⟩ := trodAll_cons r0
  obtain ⟨v2, vs2, d2, ds2, p2, q2, rfl, rfl, rfl, h2, r2⟩ := trodAll_cons r1
  obtain ⟨v3, vs3, d3, ds3, p3, q3, rfl, rfl, rfl, h3, r3⟩ := trodAll_cons r2
  obtain ⟨v4, vs4, d4, ds4, p4, q4, rfl, rfl, rfl, h4, r4⟩ := trodAll_cons r3
  obtain ⟨v5, vs5, d5, ds5, p5, q5, rfl, rfl, rfl, h5, r5⟩ := trodAll_cons r4
  obtain ⟨rfl, rfl, rfl⟩ := trodAll_nil r5
  obtain rfl : args = #[v0, v1, v2, v3, v4, v5] := by cases args; simp_all
  obtain ⟨rfl, rfl⟩ := trodVars_none hV
  obtain ⟨a0a, a0b, a0c, a0d, rfl, f0a, f0b, f0c, f0d⟩ := openMap (hval 0 23 v0 rfl rfl) h0
  obtain ⟨a1a, a1b, a1c, a1d, rfl, f1a, f1b, f1c, f1d⟩ := openMap (hval 1 23 v1 rfl rfl) h1
  obtain ⟨a2a, a2b, a2c, rfl, f2a, f2b⟩ := openAccess (hval 2 25 v2 rfl rfl) h2
  obtain ⟨a3a, rfl, f3a⟩ := openInt (hval 3 3 v3 rfl rfl) h3
  obtain ⟨a4a, rfl, f4a⟩ := openInt (hval 4 3 v4 rfl rfl) h4
  obtain ⟨a5a, rfl, f5a⟩ := openInt (hval 5 3 v5 rfl rfl) h5
  clear hA0 hval0
  refine (pageDoes_walk a0a a0b a0c a0d f0a f0b f0c f0d a1a a1b a1c a1d f1a f1b f1c f1d a2a a2b a2c f2a f2b a3a f3a a4a f4a a5a f5a W).mono fun e W' ⟨he, bel⟩ => ?_
  subst he
  exact ⟨_, rfl, _, _, _, [], _, [], hW', trodAll_mk1 (shut_bool Try.underlying4 _), (trodAll_cons_mk (stays (by kernel_rfl) (of_decide_eq_true (by kernel_rfl)) h0 bel) (trodAll_cons_mk (stays (by kernel_rfl) (of_decide_eq_true (by kernel_rfl)) h1 bel) (trodAll_cons_mk (stays (by kernel_rfl) (of_decide_eq_true (by kernel_rfl)) h2 bel) (trodAll_cons_mk (stays (by kernel_rfl) (of_decide_eq_true (by kernel_rfl)) h3 bel) (trodAll_cons_mk (stays (by kernel_rfl) (of_decide_eq_true (by kernel_rfl)) h4 bel) (trodAll_cons_mk (stays (by kernel_rfl) (of_decide_eq_true (by kernel_rfl)) h5 bel) trodAll_mk0)))))), rfl, bel.frame _, fun h => by cases h⟩

theorem pageDoes_over : Rows.pageDoesRow.holds Try.pinned (OpenSpec.ofChange Rows.pageDoesSpec) :=
  OpenClaim.holds_of_wide 3 Try.f3 rfl rfl rfl rfl rfl rfl rfl ⟨rfl, rfl, rfl, rfl, rfl⟩ rfl rfl rfl rfl rfl (by kernel_rfl) Try.func3 (by kernel_rfl)
    (of_decide_eq_true (by kernel_rfl)) (by unfold Func.isWrapper; first | (rw [if_pos (by decide +kernel)]; kernel_rfl) | (rw [if_neg (by decide +kernel)]; exact ⟨rfl, rfl⟩))
    (fun os started H enc _ => pageDoes_lifted os started H enc)

theorem pageDoes_proved : Rows.PageDoesSaid := pageDoes_over
#print axioms pageDoes_proved
end Go.Proofs.Ythddfdmejbkpmaa
