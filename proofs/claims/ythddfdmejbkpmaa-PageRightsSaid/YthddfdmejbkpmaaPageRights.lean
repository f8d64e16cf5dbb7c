/-
  PageRights is true for every argument: more rights let more go on, and a mapping's answers are its frames, one after the other.
-/
import Derived.Test.YthddfdmejbkpmaaFrame
import Derived.Test.YthddfdmejbkpmaaPageBegun
import Derived.Test.YthddfdmejbkpmaaCarry
namespace Go.Proofs.Ythddfdmejbkpmaa
open Go.ChangeShapes Go.WideShapes Go.ChangeAt Go.RowKit Go.Joins Go.Sort
set_option linter.unusedVariables false

set_option maxHeartbeats 4000000 in
theorem pageRights_walk (mp ms mf mr : Int) (hmp : Pg.fits mp) (hms : Pg.fits ms) (hmf : Pg.fits mf) (hmr : Pg.fits mr)
    (q k : Int) (u : Bool) (hq : Pg.fits q) (hk : Pg.fits k) (r : Int) (hr : Pg.fits r) (o : Int) (ho : Pg.fits o) (w : World) :
    Calls Try.prog 6 #[.agg #[.int .i64 mp, .int .i64 ms, .int .i64 mf, .int .i64 mr], .agg #[.int .i64 q, .int .i64 k, .bool u], .int .i64 r, .int .i64 o] w
      fun e w' => e = .returned (.bool true) ∧ Below w.heap.size w w' := by
  have h7 := Pg.may_all k u
  have hor : Pg.may r k u = false ∨ (Pg.may r k u = true ∧ Pg.may (bits .or .i64 r o) k u = true) := by
    cases h : Pg.may r k u
    · exact .inl rfl
    · exact .inr ⟨rfl, Pg.may_or _ _ _ _ h⟩
  go_enter Try.func6, Try.ntmps6
  go_wp2_with fail
  refine (pageBegun_any _).mono ?_
  rintro e w1 ⟨rfl, hb1⟩
  have hB : Below w.heap.size w w1 := bthen (balloc (balloc (brefl _) _) _) hb1
  obtain ⟨hc1, hf1⟩ := bcell hb1
  have cm : w1.cell? ⟨w.heap.size, 0, none⟩ = some (.int .i64 mp) ∧ w1.cell? ⟨w.heap.size, 1, none⟩ = some (.int .i64 ms) ∧ w1.cell? ⟨w.heap.size, 2, none⟩ = some (.int .i64 mf) ∧ w1.cell? ⟨w.heap.size, 3, none⟩ = some (.int .i64 mr) :=
    later4 hb1 (by simp [go_sem])
  have ca : w1.cell? ⟨w.heap.size + 1, 0, none⟩ = some (.int .i64 q) ∧ w1.cell? ⟨w.heap.size + 1, 1, none⟩ = some (.int .i64 k) ∧ w1.cell? ⟨w.heap.size + 1, 2, none⟩ = some (.bool u) :=
    later3 hb1 (by simp [go_sem])
  have fa : w1.frozen? ⟨w.heap.size + 1, 0, none⟩ = false := by rw [hf1 _ _ (by simp <;> omega)]; simp [go_sem]
  clear hc1 hf1 hb1
  rcases hor with hor | ⟨hor1, hor2⟩
  · go_wp2_with fail
    refine (may_any _ _ _ _ _).mono ?_
    rintro e w2 ⟨rfl, hb2⟩
    replace hB := bthen hB hb2
    replace fa := frozen_later hb2 ca.1 fa
    replace cm := later4 hb2 cm
    replace ca := later3 hb2 ca
    clear hb2
    go_wp2_with fail
    refine (may_any _ _ _ _ _).mono ?_
    rintro e w4 ⟨rfl, hb4⟩
    replace hB := bthen hB hb4
    replace fa := frozen_later hb4 ca.1 fa
    replace cm := later4 hb4 cm
    replace ca := later3 hb4 ca
    clear hb4
    by_cases hc : Pg.check mp ms mf mr = 0
    · cases hm : Pg.may mr k u
      · have hn : (Pg.check mp ms mf mr != 0) = false := by simp [hc]
        clear hc
        go_wp2_with fail
        refine (check_any _ _ _ _ _).mono ?_
        rintro e w5 ⟨rfl, hb5⟩
        replace hB := bthen hB hb5
        replace fa := frozen_later hb5 ca.1 fa
        replace cm := later4 hb5 cm
        replace ca := later3 hb5 ca
        clear hb5
        go_wp2_with fail
        refine (may_any _ _ _ _ _).mono ?_
        rintro e w6 ⟨rfl, hb6⟩
        replace hB := bthen hB hb6
        replace fa := frozen_later hb6 ca.1 fa
        replace cm := later4 hb6 cm
        replace ca := later3 hb6 ca
        clear hb6
        go_wp2_with fail
        go_ret
        exact ⟨rfl, hB⟩
      · have hn : (Pg.check mp ms mf mr != 0) = false := by simp [hc]
        obtain ⟨z0, z1, z2, z3, z4, _, _, _, _⟩ := Pg.check_zero hc
        have hs := Pg.span_bd ms
        have hE : Pg.aEnd mr k u = 0 := by simp [Pg.aEnd, hm]
        have hR : Pg.aRights mr k u = mr := by simp [Pg.aRights, hm]
        clear hc
        go_wp2_with fail
        refine (check_any _ _ _ _ _).mono ?_
        rintro e w5 ⟨rfl, hb5⟩
        replace hB := bthen hB hb5
        replace fa := frozen_later hb5 ca.1 fa
        replace cm := later4 hb5 cm
        replace ca := later3 hb5 ca
        clear hb5
        go_wp2_with fail
        refine (may_any _ _ _ _ _).mono ?_
        rintro e w6 ⟨rfl, hb6⟩
        replace hB := bthen hB hb6
        replace fa := frozen_later hb6 ca.1 fa
        replace cm := later4 hb6 cm
        replace ca := later3 hb6 ca
        clear hb6
        go_wp2_with fail
        go_loopw [9] (fun i W => ∃ (n y : Int), 0 ≤ n ∧ n ≤ Pg.span ms ∧ i = .int .i64 n ∧ Below w.heap.size w W ∧ W.frozen? ⟨w.heap.size + 1, 0, none⟩ = false ∧
            (W.cell? ⟨w.heap.size, 0, none⟩ = some (.int .i64 mp) ∧ W.cell? ⟨w.heap.size, 1, none⟩ = some (.int .i64 ms) ∧ W.cell? ⟨w.heap.size, 2, none⟩ = some (.int .i64 mf) ∧ W.cell? ⟨w.heap.size, 3, none⟩ = some (.int .i64 mr)) ∧
            (W.cell? ⟨w.heap.size + 1, 0, none⟩ = some (.int .i64 y) ∧ W.cell? ⟨w.heap.size + 1, 1, none⟩ = some (.int .i64 k) ∧ W.cell? ⟨w.heap.size + 1, 2, none⟩ = some (.bool u))) (fun i _ => (Pg.span ms - intOf i).toNat)
        case atStart => exact ⟨0, q, by omega, by omega, rfl, hB, fa, cm, ca⟩
        case round =>
          clear hB fa cm ca
          obtain ⟨n, y, n0, n1, rfl, hB, fa, cm, ca⟩ := hrel
          by_cases hlt : n < Pg.span ms
          · have hF : Pg.aFrame mp mf mr (mp + n) k u = mf + n := by rw [Pg.aFrame_at hm (by omega) (by omega) (by omega) (by omega)]; omega
            go_wp2_with (go_at_call 8; refine (span_any _ _).mono ?_; rintro e w' ⟨rfl, rfl⟩)
            have hB2 : Below w.heap.size w (w'.setCell ⟨w.heap.size + 1, 0, none⟩ (.int .i64 (mp + n))) := hB.setCell (by simp) _
            have cm2 : (w'.setCell ⟨w.heap.size + 1, 0, none⟩ (.int .i64 (mp + n))).cell? ⟨w.heap.size, 0, none⟩ = some (.int .i64 mp) ∧ (w'.setCell ⟨w.heap.size + 1, 0, none⟩ (.int .i64 (mp + n))).cell? ⟨w.heap.size, 1, none⟩ = some (.int .i64 ms) ∧ (w'.setCell ⟨w.heap.size + 1, 0, none⟩ (.int .i64 (mp + n))).cell? ⟨w.heap.size, 2, none⟩ = some (.int .i64 mf) ∧ (w'.setCell ⟨w.heap.size + 1, 0, none⟩ (.int .i64 (mp + n))).cell? ⟨w.heap.size, 3, none⟩ = some (.int .i64 mr) := by simp [go_sem, cm]
            have ca2 : (w'.setCell ⟨w.heap.size + 1, 0, none⟩ (.int .i64 (mp + n))).cell? ⟨w.heap.size + 1, 0, none⟩ = some (.int .i64 (mp + n)) ∧ (w'.setCell ⟨w.heap.size + 1, 0, none⟩ (.int .i64 (mp + n))).cell? ⟨w.heap.size + 1, 1, none⟩ = some (.int .i64 k) ∧ (w'.setCell ⟨w.heap.size + 1, 0, none⟩ (.int .i64 (mp + n))).cell? ⟨w.heap.size + 1, 2, none⟩ = some (.bool u) := by simp [go_sem, ca]
            have fa2 : (w'.setCell ⟨w.heap.size + 1, 0, none⟩ (.int .i64 (mp + n))).frozen? ⟨w.heap.size + 1, 0, none⟩ = false := by simp [go_sem, fa]
            clear hB cm ca fa
            generalize w'.setCell ⟨w.heap.size + 1, 0, none⟩ (.int .i64 (mp + n)) = w7 at *
            have km := regrown4 cm2
            have ka := regrown3 ca2
            refine wp_region_quiet_below (by kernel_rfl) (by kernel_rfl) ?_
            repeat (first
              | go_big_quiet_step ((go_at_call 23; exact Calls.regrown_of (answer_any _ _ _ _ _ _ _ _))))
            refine wpQuiet_nil ?_
            intro _ hw'
            obtain ⟨⟨dq, osq⟩, hw''⟩ := hw'
            subst hw''
            have hb8 := below_regrown w7 dq osq
            go_wp2_with fail
            go_roundw
            case rel => exact ⟨n + 1, mp + n, by omega, by omega, rfl, bthen hB2 hb8, frozen_later hb8 ca2.1 fa2, later4 hb8 cm2, later3 hb8 ca2⟩
            case measure => simp [intOf]; omega
          · go_wp2_with (go_at_call 8; refine (span_any _ _).mono ?_; rintro e w' ⟨rfl, rfl⟩)
            go_ret
            exact ⟨rfl, hB⟩
    · have hn : (Pg.check mp ms mf mr != 0) = true := by simp [hc]
      clear hc
      go_wp2_with fail
      refine (check_any _ _ _ _ _).mono ?_
      rintro e w5 ⟨rfl, hb5⟩
      replace hB := bthen hB hb5
      replace fa := frozen_later hb5 ca.1 fa
      replace cm := later4 hb5 cm
      replace ca := later3 hb5 ca
      clear hb5
      go_wp2_with fail
      go_ret
      exact ⟨rfl, hB⟩
  · go_wp2_with fail
    refine (may_any _ _ _ _ _).mono ?_
    rintro e w2 ⟨rfl, hb2⟩
    replace hB := bthen hB hb2
    replace fa := frozen_later hb2 ca.1 fa
    replace cm := later4 hb2 cm
    replace ca := later3 hb2 ca
    clear hb2
    go_wp2_with fail
    refine (may_any _ _ _ _ _).mono ?_
    rintro e w3 ⟨rfl, hb3⟩
    replace hB := bthen hB hb3
    replace fa := frozen_later hb3 ca.1 fa
    replace cm := later4 hb3 cm
    replace ca := later3 hb3 ca
    clear hb3
    go_wp2_with fail
    refine (may_any _ _ _ _ _).mono ?_
    rintro e w4 ⟨rfl, hb4⟩
    replace hB := bthen hB hb4
    replace fa := frozen_later hb4 ca.1 fa
    replace cm := later4 hb4 cm
    replace ca := later3 hb4 ca
    clear hb4
    by_cases hc : Pg.check mp ms mf mr = 0
    · cases hm : Pg.may mr k u
      · have hn : (Pg.check mp ms mf mr != 0) = false := by simp [hc]
        clear hc
        go_wp2_with fail
        refine (check_any _ _ _ _ _).mono ?_
        rintro e w5 ⟨rfl, hb5⟩
        replace hB := bthen hB hb5
        replace fa := frozen_later hb5 ca.1 fa
        replace cm := later4 hb5 cm
        replace ca := later3 hb5 ca
        clear hb5
        go_wp2_with fail
        refine (may_any _ _ _ _ _).mono ?_
        rintro e w6 ⟨rfl, hb6⟩
        replace hB := bthen hB hb6
        replace fa := frozen_later hb6 ca.1 fa
        replace cm := later4 hb6 cm
        replace ca := later3 hb6 ca
        clear hb6
        go_wp2_with fail
        go_ret
        exact ⟨rfl, hB⟩
      · have hn : (Pg.check mp ms mf mr != 0) = false := by simp [hc]
        obtain ⟨z0, z1, z2, z3, z4, _, _, _, _⟩ := Pg.check_zero hc
        have hs := Pg.span_bd ms
        have hE : Pg.aEnd mr k u = 0 := by simp [Pg.aEnd, hm]
        have hR : Pg.aRights mr k u = mr := by simp [Pg.aRights, hm]
        clear hc
        go_wp2_with fail
        refine (check_any _ _ _ _ _).mono ?_
        rintro e w5 ⟨rfl, hb5⟩
        replace hB := bthen hB hb5
        replace fa := frozen_later hb5 ca.1 fa
        replace cm := later4 hb5 cm
        replace ca := later3 hb5 ca
        clear hb5
        go_wp2_with fail
        refine (may_any _ _ _ _ _).mono ?_
        rintro e w6 ⟨rfl, hb6⟩
        replace hB := bthen hB hb6
        replace fa := frozen_later hb6 ca.1 fa
        replace cm := later4 hb6 cm
        replace ca := later3 hb6 ca
        clear hb6
        go_wp2_with fail
        go_loopw [9] (fun i W => ∃ (n y : Int), 0 ≤ n ∧ n ≤ Pg.span ms ∧ i = .int .i64 n ∧ Below w.heap.size w W ∧ W.frozen? ⟨w.heap.size + 1, 0, none⟩ = false ∧
            (W.cell? ⟨w.heap.size, 0, none⟩ = some (.int .i64 mp) ∧ W.cell? ⟨w.heap.size, 1, none⟩ = some (.int .i64 ms) ∧ W.cell? ⟨w.heap.size, 2, none⟩ = some (.int .i64 mf) ∧ W.cell? ⟨w.heap.size, 3, none⟩ = some (.int .i64 mr)) ∧
            (W.cell? ⟨w.heap.size + 1, 0, none⟩ = some (.int .i64 y) ∧ W.cell? ⟨w.heap.size + 1, 1, none⟩ = some (.int .i64 k) ∧ W.cell? ⟨w.heap.size + 1, 2, none⟩ = some (.bool u))) (fun i _ => (Pg.span ms - intOf i).toNat)
        case atStart => exact ⟨0, q, by omega, by omega, rfl, hB, fa, cm, ca⟩
        case round =>
          clear hB fa cm ca
          obtain ⟨n, y, n0, n1, rfl, hB, fa, cm, ca⟩ := hrel
          by_cases hlt : n < Pg.span ms
          · have hF : Pg.aFrame mp mf mr (mp + n) k u = mf + n := by rw [Pg.aFrame_at hm (by omega) (by omega) (by omega) (by omega)]; omega
            go_wp2_with (go_at_call 8; refine (span_any _ _).mono ?_; rintro e w' ⟨rfl, rfl⟩)
            have hB2 : Below w.heap.size w (w'.setCell ⟨w.heap.size + 1, 0, none⟩ (.int .i64 (mp + n))) := hB.setCell (by simp) _
            have cm2 : (w'.setCell ⟨w.heap.size + 1, 0, none⟩ (.int .i64 (mp + n))).cell? ⟨w.heap.size, 0, none⟩ = some (.int .i64 mp) ∧ (w'.setCell ⟨w.heap.size + 1, 0, none⟩ (.int .i64 (mp + n))).cell? ⟨w.heap.size, 1, none⟩ = some (.int .i64 ms) ∧ (w'.setCell ⟨w.heap.size + 1, 0, none⟩ (.int .i64 (mp + n))).cell? ⟨w.heap.size, 2, none⟩ = some (.int .i64 mf) ∧ (w'.setCell ⟨w.heap.size + 1, 0, none⟩ (.int .i64 (mp + n))).cell? ⟨w.heap.size, 3, none⟩ = some (.int .i64 mr) := by simp [go_sem, cm]
            have ca2 : (w'.setCell ⟨w.heap.size + 1, 0, none⟩ (.int .i64 (mp + n))).cell? ⟨w.heap.size + 1, 0, none⟩ = some (.int .i64 (mp + n)) ∧ (w'.setCell ⟨w.heap.size + 1, 0, none⟩ (.int .i64 (mp + n))).cell? ⟨w.heap.size + 1, 1, none⟩ = some (.int .i64 k) ∧ (w'.setCell ⟨w.heap.size + 1, 0, none⟩ (.int .i64 (mp + n))).cell? ⟨w.heap.size + 1, 2, none⟩ = some (.bool u) := by simp [go_sem, ca]
            have fa2 : (w'.setCell ⟨w.heap.size + 1, 0, none⟩ (.int .i64 (mp + n))).frozen? ⟨w.heap.size + 1, 0, none⟩ = false := by simp [go_sem, fa]
            clear hB cm ca fa
            generalize w'.setCell ⟨w.heap.size + 1, 0, none⟩ (.int .i64 (mp + n)) = w7 at *
            have km := regrown4 cm2
            have ka := regrown3 ca2
            refine wp_region_quiet_below (by kernel_rfl) (by kernel_rfl) ?_
            repeat (first
              | go_big_quiet_step ((go_at_call 23; exact Calls.regrown_of (answer_any _ _ _ _ _ _ _ _))))
            refine wpQuiet_nil ?_
            intro _ hw'
            obtain ⟨⟨dq, osq⟩, hw''⟩ := hw'
            subst hw''
            have hb8 := below_regrown w7 dq osq
            go_wp2_with fail
            go_roundw
            case rel => exact ⟨n + 1, mp + n, by omega, by omega, rfl, bthen hB2 hb8, frozen_later hb8 ca2.1 fa2, later4 hb8 cm2, later3 hb8 ca2⟩
            case measure => simp [intOf]; omega
          · go_wp2_with (go_at_call 8; refine (span_any _ _).mono ?_; rintro e w' ⟨rfl, rfl⟩)
            go_ret
            exact ⟨rfl, hB⟩
    · have hn : (Pg.check mp ms mf mr != 0) = true := by simp [hc]
      clear hc
      go_wp2_with fail
      refine (check_any _ _ _ _ _).mono ?_
      rintro e w5 ⟨rfl, hb5⟩
      replace hB := bthen hB hb5
      replace fa := frozen_later hb5 ca.1 fa
      replace cm := later4 hb5 cm
      replace ca := later3 hb5 ca
      clear hb5
      go_wp2_with fail
      go_ret
      exact ⟨rfl, hB⟩

set_option maxRecDepth 100000 in
theorem pageRights_lifted (os : Os) (started : os.Started) (H : Type) (enc : TypeId × Value → H) :
    ReturnsInHanded {} Try.checked os 6 .any (Rows.pageRightsSpec.pre6 enc Try.prog Try.f6 Rows.pageRightsRow.domain false) (Rows.pageRightsSpec.post enc Try.prog Try.f6 false true false false) := by
  refine returnsInHanded_of_change (C := Try.checked) own started (by kernel_rfl) Try.func6
    (ChangeSpec.witness6 (enc := enc) (C := Try.checked) false ⟨#[], #[.agg #[.int .i64 0, .int .i64 0, .int .i64 0, .int .i64 0], .agg #[.int .i64 0, .int .i64 0, .bool false], .int .i64 0, .int .i64 0], []⟩ 8 (by kernel_rfl) (by kernel_rfl) (by kernel_rfl) (by kernel_rfl)) ?_
  intro W base args ds gs before hval0 hW hcnd _
  have hval : ∀ (j : Nat) t v, Try.f6.params[j]? = some t → args[j]? = some v → Value.okWide Try.prog W .any base t v := hval0
  have hW' := hW
  obtain ⟨p, q, hA0, hV, rfl, hfz, hnd⟩ := hW
  have hA : DataW.TrodAll enc Try.prog W 0 (fun _ => true) true Try.f6.params.toList args.toList ds p := hA0
  rw [Try.params6] at hA hval
  obtain ⟨v0, vs0, d0, ds0, p0, q0, hargs, rfl, rfl, h0, r0⟩ := trodAll_cons hA
  obtain ⟨v1, vs1, d1, ds1, p1, q1, rfl, rfl, rfl, h1, r1⟩ := trodAll_cons r0
  obtain ⟨v2, vs2, d2, ds2, p2, q2, rfl, rfl, rfl, h2, r2⟩ := trodAll_cons r1
  obtain ⟨v3, vs3, d3, ds3, p3, q3, rfl, rfl, rfl, h3, r3⟩ := trodAll_cons r2
  obtain ⟨rfl, rfl, rfl⟩ := trodAll_nil r3
  obtain rfl : args = #[v0, v1, v2, v3] := by cases args; simp_all
  obtain ⟨rfl, rfl⟩ := trodVars_none hV
  obtain ⟨a0a, a0b, a0c, a0d, rfl, f0a, f0b, f0c, f0d⟩ := openMap (hval 0 23 v0 rfl rfl) h0
  obtain ⟨a1a, a1b, a1c, rfl, f1a, f1b⟩ := openAccess (hval 1 25 v1 rfl rfl) h1
  obtain ⟨a2a, rfl, f2a⟩ := openInt (hval 2 3 v2 rfl rfl) h2
  obtain ⟨a3a, rfl, f3a⟩ := openInt (hval 3 3 v3 rfl rfl) h3
  clear hA0 hval0
  refine (pageRights_walk a0a a0b a0c a0d f0a f0b f0c f0d a1a a1b a1c f1a f1b a2a f2a a3a f3a W).mono fun e W' ⟨he, bel⟩ => ?_
  subst he
  exact ⟨_, rfl, _, _, _, [], _, [], hW', trodAll_mk1 (shut_bool Try.underlying4 _), (trodAll_cons_mk (stays (by kernel_rfl) (of_decide_eq_true (by kernel_rfl)) h0 bel) (trodAll_cons_mk (stays (by kernel_rfl) (of_decide_eq_true (by kernel_rfl)) h1 bel) (trodAll_cons_mk (stays (by kernel_rfl) (of_decide_eq_true (by kernel_rfl)) h2 bel) (trodAll_cons_mk (stays (by kernel_rfl) (of_decide_eq_true (by kernel_rfl)) h3 bel) trodAll_mk0)))), rfl, bel.frame _, fun h => by cases h⟩

theorem pageRights_over : Rows.pageRightsRow.holds Try.pinned (OpenSpec.ofChange Rows.pageRightsSpec) :=
  OpenClaim.holds_of_wide 6 Try.f6 rfl rfl rfl rfl rfl rfl rfl ⟨rfl, rfl, rfl, rfl, rfl⟩ rfl rfl rfl rfl rfl (by kernel_rfl) Try.func6 (by kernel_rfl)
    (of_decide_eq_true (by kernel_rfl)) (by unfold Func.isWrapper; first | (rw [if_pos (by decide +kernel)]; kernel_rfl) | (rw [if_neg (by decide +kernel)]; exact ⟨rfl, rfl⟩))
    (fun os started H enc _ => pageRights_lifted os started H enc)

theorem pageRights_proved : Rows.PageRightsSaid := pageRights_over
#print axioms pageRights_proved
end Go.Proofs.Ythddfdmejbkpmaa
