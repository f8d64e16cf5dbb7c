/-
  PageMeets is true for every argument: two mappings meet just if they have a page in common, and then the one has all pages of the other one.
-/
import Derived.Test.YthddfdmejbkpmaaFrame
import Derived.Test.YthddfdmejbkpmaaPageBegun
import Derived.Test.YthddfdmejbkpmaaCarry
namespace Go.Proofs.Ythddfdmejbkpmaa
open Go.ChangeShapes Go.WideShapes Go.ChangeAt Go.RowKit Go.Joins Go.Sort
set_option linter.unusedVariables false

set_option maxHeartbeats 4000000 in
theorem pageMeets_walk (mp ms mf mr : Int) (hmp : Pg.fits mp) (hms : Pg.fits ms) (hmf : Pg.fits mf) (hmr : Pg.fits mr) (np ns nf nr : Int) (hnp : Pg.fits np) (hns : Pg.fits ns) (hnf : Pg.fits nf) (hnr : Pg.fits nr) (w : World) :
    Calls Try.prog 5 #[.agg #[.int .i64 mp, .int .i64 ms, .int .i64 mf, .int .i64 mr], .agg #[.int .i64 np, .int .i64 ns, .int .i64 nf, .int .i64 nr]] w
      fun e w' => e = .returned (.bool true) ∧ Below w.heap.size w w' := by
  go_enter Try.func5, Try.ntmps5
  go_wp2_with fail
  refine (pageBegun_any _).mono ?_
  rintro e w1 ⟨rfl, hb1⟩
  have hB : Below w.heap.size w w1 := bthen (balloc (balloc (brefl _) _) _) hb1
  have cm : w1.cell? ⟨w.heap.size, 0, none⟩ = some (.int .i64 mp) ∧ w1.cell? ⟨w.heap.size, 1, none⟩ = some (.int .i64 ms) ∧ w1.cell? ⟨w.heap.size, 2, none⟩ = some (.int .i64 mf) ∧ w1.cell? ⟨w.heap.size, 3, none⟩ = some (.int .i64 mr) :=
    later4 hb1 (by simp [go_sem])
  have cn : w1.cell? ⟨w.heap.size + 1, 0, none⟩ = some (.int .i64 np) ∧ w1.cell? ⟨w.heap.size + 1, 1, none⟩ = some (.int .i64 ns) ∧ w1.cell? ⟨w.heap.size + 1, 2, none⟩ = some (.int .i64 nf) ∧ w1.cell? ⟨w.heap.size + 1, 3, none⟩ = some (.int .i64 nr) :=
    later4 hb1 (by simp [go_sem])
  clear hb1
  by_cases h1 : Pg.check mp ms mf mr = 0
  · have e1 : (Pg.check mp ms mf mr != 0) = false := by simp [h1]
    by_cases h2 : Pg.check np ns nf nr = 0
    · have e2 : (Pg.check np ns nf nr != 0) = false := by simp [h2]
      obtain ⟨z0, z1, z2, _⟩ := Pg.check_zero h1
      have HM : Hid _ := Pg.meets h1 h2
      have hs := Pg.span_bd ms
      have ht := Pg.span_bd ns
      clear h1 h2
      go_wp2_with (go_at_call 13; refine (check_any _ _ _ _ _).mono ?_; rintro e w2 ⟨rfl, hb2⟩; replace hB := bthen hB hb2; replace cm := later4 hb2 cm; replace cn := later4 hb2 cn; clear hb2)
      go_quiet ((go_at_call 8; exact Calls.quiet_of_same (span_any _ _)))
      go_wp2_with fail
      go_loopw [5, 8] (fun c i W => ∃ (k : Nat) (x : Int), (k : Int) ≤ Pg.span ms ∧ i = .int .i64 (mp + k) ∧ c = .int .i64 x ∧ 0 ≤ x ∧ x ≤ 64 ∧ Hid (x = Pg.cnt np ns mp k) ∧ Below w.heap.size w W ∧
          (W.cell? ⟨w.heap.size, 0, none⟩ = some (.int .i64 mp) ∧ W.cell? ⟨w.heap.size, 1, none⟩ = some (.int .i64 ms) ∧ W.cell? ⟨w.heap.size, 2, none⟩ = some (.int .i64 mf) ∧ W.cell? ⟨w.heap.size, 3, none⟩ = some (.int .i64 mr)) ∧
          (W.cell? ⟨w.heap.size + 1, 0, none⟩ = some (.int .i64 np) ∧ W.cell? ⟨w.heap.size + 1, 1, none⟩ = some (.int .i64 ns) ∧ W.cell? ⟨w.heap.size + 1, 2, none⟩ = some (.int .i64 nf) ∧ W.cell? ⟨w.heap.size + 1, 3, none⟩ = some (.int .i64 nr))) (fun _ i _ => (mp + Pg.span ms - intOf i).toNat)
      case atStart => exact ⟨0, 0, by omega, by simp, rfl, by omega, by omega, rfl, below_drewN hB _, by simpa using cm, by simpa using cn⟩
      case round =>
        clear hB cm cn
        obtain ⟨k, x, hk, rfl, rfl, x0, x1, HC, hB, cm, cn⟩ := hrel
        by_cases hlt : (k : Int) < Pg.span ms
        · have hx := Pg.cnt_bd np ns mp (k + 1)
          have fk : Pg.fits (mp + k) := by unfold Pg.fits; omega
          cases ho : Pg.over np ns (mp + k)
          · have H1 : Hid (x = Pg.cnt np ns mp (k + 1)) := by simp [Hid, Pg.cnt, ho, HC.out]
            go_wp2_with (go_at_call 15; refine (over_any _ _ _ _ _ hnp fk _).mono ?_; rintro e w3 ⟨rfl, hb3⟩; replace hB := bthen hB hb3; replace cm := later4 hb3 cm; replace cn := later4 hb3 cn; clear hb3)
            go_roundw
            case rel => exact ⟨k + 1, x, by omega, by go_num, rfl, x0, x1, H1, hB, cm, cn⟩
            case measure => simp [intOf]; omega
          · have H1 : Hid (x + 1 = Pg.cnt np ns mp (k + 1)) := by simp [Hid, Pg.cnt, ho, HC.out]
            have hx2 : x + 1 ≤ 64 := by have := H1.out; omega
            go_wp2_with (go_at_call 15; refine (over_any _ _ _ _ _ hnp fk _).mono ?_; rintro e w3 ⟨rfl, hb3⟩; replace hB := bthen hB hb3; replace cm := later4 hb3 cm; replace cn := later4 hb3 cn; clear hb3)
            go_roundw
            case rel => exact ⟨k + 1, x + 1, by omega, by go_num, rfl, by omega, hx2, H1, hB, cm, cn⟩
            case measure => simp [intOf]; omega
        · have hk2 : (Pg.span ms).toNat = k := by omega
          have HM2 : Hid ((x = 0 ∧ Pg.meet mp ms np ns = false ∧ Pg.meet np ns mp ms = false) ∨ (0 < x ∧ x = min (Pg.span ms) (Pg.span ns) ∧ Pg.meet mp ms np ns = true ∧ Pg.meet np ns mp ms = true)) := by
            have := HM.out
            rw [hk2, ← HC.out] at this
            exact this
          clear HM HC hk2
          go_wp2_with fail
          have km := regrown4 cm
          have kn := regrown4 cn
          rcases HM2.out with ⟨rfl, m1, m2⟩ | ⟨c1, c2, m1, m2⟩
          · clear HM2
            refine wp_region_quiet_below (by kernel_rfl) (by kernel_rfl) ?_
            repeat (first
              | go_big_quiet_step ((go_at_call 17; refine Calls.regrown_of (meet_any _ _ _ _ _ _ _ _ ?_ ?_ _) <;> assumption)))
            refine wpQuiet_nil ?_
            intro _ hw'
            obtain ⟨⟨dq, osq⟩, hw''⟩ := hw'
            subst hw''
            go_wp2_with fail
            go_ret
            exact ⟨rfl, bthen hB (below_regrown _ dq osq)⟩
          · have HX : Hid (x = min (Pg.span ms) (Pg.span ns)) := c2
            clear HM2 c2
            have q0 : (x == 0) = false := by simp; omega
            by_cases hl : Pg.span ns < Pg.span ms
            all_goals
              first
                | (have hx : (x == Pg.span ns) = true := by have := HX.out; simp; omega)
                | (have hx : (x == Pg.span ms) = true := by have := HX.out; simp; omega)
              refine wp_region_quiet_below (by kernel_rfl) (by kernel_rfl) ?_
              repeat (first
                | go_big_quiet_step ((go_at_call 17; refine Calls.regrown_of (meet_any _ _ _ _ _ _ _ _ ?_ ?_ _) <;> assumption)))
              refine wpQuiet_nil ?_
              intro _ hw'
              obtain ⟨⟨dq, osq⟩, hw''⟩ := hw'
              subst hw''
              go_wp2_with fail
              go_ret
              exact ⟨rfl, bthen hB (below_regrown _ dq osq)⟩
    · have e2 : (Pg.check np ns nf nr != 0) = true := by simp [h2]
      clear h1 h2
      go_wp2_with (go_at_call 13; refine (check_any _ _ _ _ _).mono ?_; rintro e w2 ⟨rfl, hb2⟩; replace hB := bthen hB hb2; replace cm := later4 hb2 cm; replace cn := later4 hb2 cn; clear hb2)
      go_ret
      exact ⟨rfl, hB⟩
  · have e1 : (Pg.check mp ms mf mr != 0) = true := by simp [h1]
    clear h1
    go_wp2_with (go_at_call 13; refine (check_any _ _ _ _ _).mono ?_; rintro e w2 ⟨rfl, hb2⟩; replace hB := bthen hB hb2; replace cm := later4 hb2 cm; replace cn := later4 hb2 cn; clear hb2)
    go_ret
    exact ⟨rfl, hB⟩

set_option maxRecDepth 100000 in
theorem pageMeets_lifted (os : Os) (started : os.Started) (H : Type) (enc : TypeId × Value → H) :
    ReturnsInHanded {} Try.checked os 5 .any (Rows.pageMeetsSpec.pre6 enc Try.prog Try.f5 Rows.pageMeetsRow.domain false) (Rows.pageMeetsSpec.post enc Try.prog Try.f5 false true false false) := by
  refine returnsInHanded_of_change (C := Try.checked) own started (by kernel_rfl) Try.func5
    (ChangeSpec.witness6 (enc := enc) (C := Try.checked) false ⟨#[], #[.agg #[.int .i64 0, .int .i64 0, .int .i64 0, .int .i64 0], .agg #[.int .i64 0, .int .i64 0, .int .i64 0, .int .i64 0]], []⟩ 8 (by kernel_rfl) (by kernel_rfl) (by kernel_rfl) (by kernel_rfl)) ?_
  intro W base args ds gs before hval0 hW hcnd _
  have hval : ∀ (j : Nat) t v, Try.f5.params[j]? = some t → args[j]? = some v → Value.okWide Try.prog W .any base t v := hval0
  have hW' := hW
  obtain ⟨p, q, hA0, hV, rfl, hfz, hnd⟩ := hW
  have hA : DataW.TrodAll enc Try.prog W 0 (fun _ => true) true Try.f5.params.toList args.toList ds p := hA0
  rw [Try.params5] at hA hval
  obtain ⟨v0, vs0, d0, ds0, p0, q0, hargs, rfl, rfl, h0, r0⟩ := trodAll_cons hA
  obtain ⟨v1, vs1, d1, ds1, p1, q1, rfl, rfl, rfl, h1, r1⟩ := trodAll_cons r0
  obtain ⟨rfl, rfl, rfl⟩ := trodAll_nil r1
  obtain rfl : args = #[v0, v1] := by cases args; simp_all
  obtain ⟨rfl, rfl⟩ := trodVars_none hV
  obtain ⟨a0a, a0b, a0c, a0d, rfl, f0a, f0b, f0c, f0d⟩ := openMap (hval 0 23 v0 rfl rfl) h0
  obtain ⟨a1a, a1b, a1c, a1d, rfl, f1a, f1b, f1c, f1d⟩ := openMap (hval 1 23 v1 rfl rfl) h1
  clear hA0 hval0
  refine (pageMeets_walk a0a a0b a0c a0d f0a f0b f0c f0d a1a a1b a1c a1d f1a f1b f1c f1d W).mono fun e W' ⟨he, bel⟩ => ?_
  subst he
  exact ⟨_, rfl, _, _, _, [], _, [], hW', trodAll_mk1 (shut_bool Try.underlying4 _), (trodAll_cons_mk (stays (by kernel_rfl) (of_decide_eq_true (by kernel_rfl)) h0 bel) (trodAll_cons_mk (stays (by kernel_rfl) (of_decide_eq_true (by kernel_rfl)) h1 bel) trodAll_mk0)), rfl, bel.frame _, fun h => by cases h⟩

theorem pageMeets_over : Rows.pageMeetsRow.holds Try.pinned (OpenSpec.ofChange Rows.pageMeetsSpec) :=
  OpenClaim.holds_of_wide 5 Try.f5 rfl rfl rfl rfl rfl rfl rfl ⟨rfl, rfl, rfl, rfl, rfl⟩ rfl rfl rfl rfl rfl (by kernel_rfl) Try.func5 (by kernel_rfl)
    (of_decide_eq_true (by kernel_rfl)) (by unfold Func.isWrapper; first | (rw [if_pos (by decide +kernel)]; kernel_rfl) | (rw [if_neg (by decide +kernel)]; exact ⟨rfl, rfl⟩))
    (fun os started H enc _ => pageMeets_lifted os started H enc)

theorem pageMeets_proved : Rows.PageMeetsSaid := pageMeets_over
#print axioms pageMeets_proved
end Go.Proofs.Ythddfdmejbkpmaa
