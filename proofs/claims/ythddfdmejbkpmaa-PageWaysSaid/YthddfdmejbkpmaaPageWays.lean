/-
  PageWays is true for every argument: the places on the ways to two pages are the same just if they are the same, and those of a mapping's pages are the same down to its level.
-/
import Derived.Test.YthddfdmejbkpmaaFrame
import Derived.Test.YthddfdmejbkpmaaPageBegun
import Derived.Test.YthddfdmejbkpmaaCarry
namespace Go.Proofs.Ythddfdmejbkpmaa
open Go.ChangeShapes Go.WideShapes Go.ChangeAt Go.RowKit Go.Joins Go.Sort
set_option linter.unusedVariables false

set_option maxHeartbeats 4000000 in
theorem pageWays_walk (p : Int) (hp : Pg.fits p) (q : Int) (hq : Pg.fits q) (mp ms mf mr : Int) (hmp : Pg.fits mp) (hms : Pg.fits ms) (hmf : Pg.fits mf) (hmr : Pg.fits mr) (w : World) :
    Calls Try.prog 4 #[.int .i64 p, .int .i64 q, .agg #[.int .i64 mp, .int .i64 ms, .int .i64 mf, .int .i64 mr]] w
      fun e w' => e = .returned (.bool true) ∧ Below w.heap.size w w' := by
  go_enter Try.func4, Try.ntmps4
  go_wp2_with fail
  refine (pageBegun_any _).mono ?_
  rintro e w1 ⟨rfl, hb1⟩
  have hB : Below w.heap.size w w1 := bthen (balloc (brefl _) _) hb1
  have cm : w1.cell? ⟨w.heap.size, 0, none⟩ = some (.int .i64 mp) ∧ w1.cell? ⟨w.heap.size, 1, none⟩ = some (.int .i64 ms) ∧ w1.cell? ⟨w.heap.size, 2, none⟩ = some (.int .i64 mf) ∧ w1.cell? ⟨w.heap.size, 3, none⟩ = some (.int .i64 mr) :=
    later4 hb1 (by simp [go_sem])
  clear hb1
  go_wp2_with fail
  go_loop [7, 8] (fun a i => ∃ (k : Nat) (b : Bool), k ≤ 4 ∧ i = .int .i64 k ∧ a = .bool b ∧ Hid (b = Pg.sameUpto p q k)) (fun _ i => (4 - intOf i).toNat)
  case atStart => exact ⟨0, true, by omega, rfl, rfl, rfl⟩
  case round =>
    obtain ⟨k, b, hk, rfl, rfl, HS⟩ := hrel
    by_cases hlt : k < 4
    · cases b
      · go_wp2_with (go_at_call 11; refine (index_any _ _ _).mono ?_; rintro e w' ⟨rfl, rfl⟩)
        go_round
        case rel => exact ⟨k + 1, false, by omega, by go_num, rfl, by simp [Hid, Pg.sameUpto, ← HS.out]⟩
        case measure => simp [intOf]; omega
      · go_wp2_with (go_at_call 11; refine (index_any _ _ _).mono ?_; rintro e w' ⟨rfl, rfl⟩)
        go_round
        case rel => exact ⟨k + 1, _, by omega, by go_num, rfl, by simp only [Hid, Pg.sameUpto, ← HS.out, Bool.true_and]⟩
        case measure => simp [intOf]; omega
    · have hk4 : k = 4 := by omega
      subst hk4
      have rest : (Pg.below p 4096 = false) ∨ (Pg.below p 4096 = true ∧ Pg.below q 4096 = false) ∨ (Pg.below p 4096 = true ∧ Pg.below q 4096 = true ∧ b = (p == q)) := by
        cases h1 : Pg.below p 4096
        · exact .inl rfl
        · cases h2 : Pg.below q 4096
          · exact .inr (.inl ⟨rfl, rfl⟩)
          · exact .inr (.inr ⟨rfl, rfl, by rw [HS.out, Pg.sameUpto_all h1 h2]⟩)
      clear HS hlt hk
      have last : (Pg.check mp ms mf mr != 0) = true ∨ ((Pg.check mp ms mf mr != 0) = false ∧ Pg.over mp ms p = false) ∨ ((Pg.check mp ms mf mr != 0) = false ∧ Pg.over mp ms p = true ∧ Pg.below p 4096 = true ∧ 0 ≤ ms ∧ ms ≤ 2 ∧ Hid (∀ l, ms ≤ l → l < 4 → Pg.index p l = Pg.index mp l)) := by
        by_cases h1 : Pg.check mp ms mf mr = 0
        · cases h2 : Pg.over mp ms p
          · exact .inr (.inl ⟨by simp [h1], rfl⟩)
          · obtain ⟨i1, i2, i3, i4⟩ := Pg.index_over h1 h2
            exact .inr (.inr ⟨by simp [h1], rfl, Pg.below_iff.2 i1, i2, i3, i4⟩)
        · exact .inl (by simp [h1])
      rcases rest with r1 | ⟨r1, r2⟩ | ⟨r1, r2, rfl⟩
      all_goals
        rcases last with l1 | ⟨l1, l2⟩ | ⟨l1, l2, l3, l4, l5, HL⟩
        · go_wp2_with (first
            | (go_at_call 10; refine (has_any _ _).mono ?_; rintro e w' ⟨rfl, rfl⟩)
            | (go_at_call 13; refine (check_any _ _ _ _ _).mono ?_; rintro e w2 ⟨rfl, hb2⟩; replace hB := bthen hB hb2; replace cm := later4 hb2 cm; clear hb2)
            | (go_at_call 15; refine (over_any _ _ _ _ _ hmp hp _).mono ?_; rintro e w3 ⟨rfl, hb3⟩; replace hB := bthen hB hb3; replace cm := later4 hb3 cm; clear hb3))
          go_ret
          exact ⟨rfl, hB⟩
        · go_wp2_with (first
            | (go_at_call 10; refine (has_any _ _).mono ?_; rintro e w' ⟨rfl, rfl⟩)
            | (go_at_call 13; refine (check_any _ _ _ _ _).mono ?_; rintro e w2 ⟨rfl, hb2⟩; replace hB := bthen hB hb2; replace cm := later4 hb2 cm; clear hb2)
            | (go_at_call 15; refine (over_any _ _ _ _ _ hmp hp _).mono ?_; rintro e w3 ⟨rfl, hb3⟩; replace hB := bthen hB hb3; replace cm := later4 hb3 cm; clear hb3))
          go_ret
          exact ⟨rfl, hB⟩
        · first
            | exact absurd (r1.symm.trans l3) (by decide)
            | (go_wp2_with (first
                | (go_at_call 10; refine (has_any _ _).mono ?_; rintro e w' ⟨rfl, rfl⟩)
                | (go_at_call 13; refine (check_any _ _ _ _ _).mono ?_; rintro e w2 ⟨rfl, hb2⟩; replace hB := bthen hB hb2; replace cm := later4 hb2 cm; clear hb2)
                | (go_at_call 15; refine (over_any _ _ _ _ _ hmp hp _).mono ?_; rintro e w3 ⟨rfl, hb3⟩; replace hB := bthen hB hb3; replace cm := later4 hb3 cm; clear hb3))
               go_loopw [9] (fun i W => ∃ n : Int, ms ≤ n ∧ n ≤ 4 ∧ i = .int .i64 n ∧ Below w.heap.size w W ∧
                 (W.cell? ⟨w.heap.size, 0, none⟩ = some (.int .i64 mp) ∧ W.cell? ⟨w.heap.size, 1, none⟩ = some (.int .i64 ms) ∧ W.cell? ⟨w.heap.size, 2, none⟩ = some (.int .i64 mf) ∧ W.cell? ⟨w.heap.size, 3, none⟩ = some (.int .i64 mr))) (fun i _ => (4 - intOf i).toNat)
               case atStart => exact ⟨ms, by omega, by omega, rfl, hB, cm⟩
               case round =>
                 clear hB cm
                 obtain ⟨n, n0, n1, rfl, hB, cm⟩ := hrel
                 by_cases hlt : n < 4
                 · have hI : Pg.index p n = Pg.index mp n := HL.out n n0 hlt
                   go_wp2_with fail
                   go_quiet ((go_at_call 11; exact Calls.quiet_of_same (index_any _ _ _)))
                   go_wp2_with fail
                   go_roundw
                   case rel => exact ⟨n + 1, by omega, by omega, rfl, below_drewN hB _, by simpa using cm⟩
                   case measure => simp [intOf]; omega
                 · go_wp2_with (go_at_call 10; refine (has_any _ _).mono ?_; rintro e w' ⟨rfl, rfl⟩)
                   go_ret
                   exact ⟨by simp, hB⟩)

set_option maxRecDepth 100000 in
theorem pageWays_lifted (os : Os) (started : os.Started) (H : Type) (enc : TypeId × Value → H) :
    ReturnsInHanded {} Try.checked os 4 .any (Rows.pageWaysSpec.pre6 enc Try.prog Try.f4 Rows.pageWaysRow.domain false) (Rows.pageWaysSpec.post enc Try.prog Try.f4 false true false false) := by
  refine returnsInHanded_of_change (C := Try.checked) own started (by kernel_rfl) Try.func4
    (ChangeSpec.witness6 (enc := enc) (C := Try.checked) false ⟨#[], #[.int .i64 0, .int .i64 0, .agg #[.int .i64 0, .int .i64 0, .int .i64 0, .int .i64 0]], []⟩ 8 (by kernel_rfl) (by kernel_rfl) (by kernel_rfl) (by kernel_rfl)) ?_
  intro W base args ds gs before hval0 hW hcnd _
  have hval : ∀ (j : Nat) t v, Try.f4.params[j]? = some t → args[j]? = some v → Value.okWide Try.prog W .any base t v := hval0
  have hW' := hW
  obtain ⟨p, q, hA0, hV, rfl, hfz, hnd⟩ := hW
  have hA : DataW.TrodAll enc Try.prog W 0 (fun _ => true) true Try.f4.params.toList args.toList ds p := hA0
  rw [Try.params4] at hA hval
  obtain ⟨v0, vs0, d0, ds0, p0, q0, hargs, rfl, rfl, h0, r0⟩ := trodAll_cons hA
  obtain ⟨v1, vs1, d1, ds1, p1, q1, rfl, rfl, rfl, h1, r1⟩ := trodAll_cons r0
  obtain ⟨v2, vs2, d2, ds2, p2, q2, rfl, rfl, rfl, h2, r2⟩ := trodAll_cons r1
  obtain ⟨rfl, rfl, rfl⟩ := trodAll_nil r2
  obtain rfl : args = #[v0, v1, v2] := by cases args; simp_all
  obtain ⟨rfl, rfl⟩ := trodVars_none hV
  obtain ⟨a0a, rfl, f0a⟩ := openInt (hval 0 3 v0 rfl rfl) h0
  obtain ⟨a1a, rfl, f1a⟩ := openInt (hval 1 3 v1 rfl rfl) h1
  obtain ⟨a2a, a2b, a2c, a2d, rfl, f2a, f2b, f2c, f2d⟩ := openMap (hval 2 23 v2 rfl rfl) h2
  clear hA0 hval0
  refine (pageWays_walk a0a f0a a1a f1a a2a a2b a2c a2d f2a f2b f2c f2d W).mono fun e W' ⟨he, bel⟩ => ?_
  subst he
  exact ⟨_, rfl, _, _, _, [], _, [], hW', trodAll_mk1 (shut_bool Try.underlying4 _), (trodAll_cons_mk (stays (by kernel_rfl) (of_decide_eq_true (by kernel_rfl)) h0 bel) (trodAll_cons_mk (stays (by kernel_rfl) (of_decide_eq_true (by kernel_rfl)) h1 bel) (trodAll_cons_mk (stays (by kernel_rfl) (of_decide_eq_true (by kernel_rfl)) h2 bel) trodAll_mk0))), rfl, bel.frame _, fun h => by cases h⟩

theorem pageWays_over : Rows.pageWaysRow.holds Try.pinned (OpenSpec.ofChange Rows.pageWaysSpec) :=
  OpenClaim.holds_of_wide 4 Try.f4 rfl rfl rfl rfl rfl rfl rfl ⟨rfl, rfl, rfl, rfl, rfl⟩ rfl rfl rfl rfl rfl (by kernel_rfl) Try.func4 (by kernel_rfl)
    (of_decide_eq_true (by kernel_rfl)) (by unfold Func.isWrapper; first | (rw [if_pos (by decide +kernel)]; kernel_rfl) | (rw [if_neg (by decide +kernel)]; exact ⟨rfl, rfl⟩))
    (fun os started H enc _ => pageWays_lifted os started H enc)

theorem pageWays_proved : Rows.PageWaysSaid := pageWays_over
#print axioms pageWays_proved
end Go.Proofs.Ythddfdmejbkpmaa
