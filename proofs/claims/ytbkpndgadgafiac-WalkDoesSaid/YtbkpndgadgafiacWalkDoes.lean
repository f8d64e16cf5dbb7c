
/-
  WalkDoes: every Find, List and Tables is as the document says, whatever stands in the words; it is so for every input.
-/
import Derived.Test.YtbkpndgadgafiacWalkI
import Derived.Test.YtbkpndgadgafiacWalkD
import Derived.Test.YtbkpndgadgafiacWalkF
import Derived.Test.YtbkpndgadgafiacWalkG
import Derived.Test.YtbkpndgadgafiacFrameW
namespace Go.Proofs.Ytbkpndgadgafiac
open Go.ChangeShapes Go.WideShapes Go.ChangeAt Go.RowKit Go.Joins Go.Sort
set_option linter.unusedVariables false
set_option maxRecDepth 100000

theorem mapsR_len (S : Pg.Fs) (t : Int) : (Pg.mapsR (Pg.thr S Pg.allW 3 t 0)).length ≤ 4680 := by
  unfold Pg.mapsR
  split
  · exact Nat.le_trans (Pg.mapsOf_len _) (Pg.thr_len S Pg.allW 3 t 0)
  · simp
theorem tabsR_len (S : Pg.Fs) (t : Int) : (Pg.tabsR t (Pg.thr S Pg.allW 3 t 0)).length ≤ 4681 := by
  unfold Pg.tabsR
  split
  · have h1 := Pg.tabsOf_len (Pg.thr S Pg.allW 3 t 0).1
    have h2 : (Pg.thr S Pg.allW 3 t 0).1.length ≤ 4680 := Pg.thr_len S Pg.allW 3 t 0
    simp
    omega
  · simp

set_option maxHeartbeats 4000000 in
theorem walkDoes_walk (W : World) (n : Int) (hn : Pg.fits n) (taken : Int) (htk : Pg.fits taken) (t : Int) (ht : Pg.fits t) (p : Int) (hp : Pg.fits p) (ad : Option Addr) (len cap : Nat) (q : Nat → Int) (hq : WordsAt W ad len q) :
    Calls Try.prog 3 #[.int .i64 n, .int .i64 taken, .int .i64 t, .int .i64 p, .slice ad len cap] W fun e W' => e = .returned (.bool true) ∧ Below W.heap.size W W' := by
  have HQ : Hid (WordsAt W ad len q) := hq
  clear hq hn htk ht hp
  have hcase : decide (n < 0) = true ∨ (decide (n < 0) = false ∧ 128 < n) ∨ (decide (n < 0) = false ∧ decide (128 < n) = false ∧ 2000 < len) ∨ (decide (n < 0) = false ∧ decide (128 < n) = false ∧ 0 ≤ n ∧ n ≤ 128 ∧ len ≤ 2000) := by
    by_cases h0 : n < 0
    · exact .inl (by simpa using h0)
    · by_cases h1 : 128 < n
      · exact .inr (.inl ⟨by simpa using h0, h1⟩)
      · by_cases h2 : 2000 < len
        · exact .inr (.inr (.inl ⟨by simpa using h0, by simpa using h1, h2⟩))
        · exact .inr (.inr (.inr ⟨by simpa using h0, by simpa using h1, by omega, by omega, by omega⟩))
  rcases hcase with h0 | ⟨h0, h1⟩ | ⟨h0, h1, h2⟩ | ⟨h0, h1, n0, n1, h2⟩
  · go_enter Try.func3, Try.ntmps3
    go_wp2_with fail
    refine (walkBegun_any _).mono ?_
    rintro e w1 ⟨rfl, hb1⟩
    have HB : Hid _ := hb1
    clear hb1
    go_wp2_with fail
    go_ret
    exact ⟨rfl, HB.out⟩
  · go_enter Try.func3, Try.ntmps3
    go_wp2_with fail
    refine (walkBegun_any _).mono ?_
    rintro e w1 ⟨rfl, hb1⟩
    have HB : Hid _ := hb1
    clear hb1
    go_wp2_with fail
    go_ret
    exact ⟨rfl, HB.out⟩
  · have h3 : (2000 : Int) < (len : Int) := by omega
    go_enter Try.func3, Try.ntmps3
    go_wp2_with fail
    refine (walkBegun_any _).mono ?_
    rintro e w1 ⟨rfl, hb1⟩
    have HB : Hid _ := hb1
    clear hb1
    go_wp2_with fail
    go_ret
    exact ⟨rfl, HB.out⟩
  · obtain ⟨m, rfl⟩ := Int.eq_ofNat_of_zero_le n0
    have h3 : decide ((2000 : Int) < (len : Int)) = false := by simp; omega
    have h3' : decide (2000 < len) = false := by simp; omega
    have hm : m ≤ 128 := by omega
    go_enter Try.func3, Try.ntmps3
    go_wp2_with fail
    refine (walkBegun_any _).mono ?_
    rintro e w1 ⟨rfl, hb1⟩
    have HB1 : Hid _ := hb1
    clear hb1
    go_wp2_with fail
    refine (memory_any m hm taken ad len cap h2 q w1 (WordsAt.below HQ.out (Nat.le_refl _) HB1.out)).mono ?_
    rintro e w2 ⟨bf, bm, g0, g1, vb, F, rfl, hS⟩
    generalize Pg.Fs.memory m taken q len = S at *
    have HS : Hid _ := hS
    have HB2 : Hid (Below W.heap.size W w2) := bthen HB1.out hS.bel
    clear hS
    have HX : Hid (∀ i, i < (fndX S t p).length → Pg.below p 4096 = true ∧ i ≤ 3 ∧ (plcs (fndX S t p)).getD i 0 = Pg.index p (3 - (i : Int))) := fun i hi => find_place S t p hi
    have hXl := fndX_len S t p
    have hML := mapsR_len S t
    have hTL := tabsR_len S t
    go_wp2_with fail
    refine (wFind_any t p w2 HS.out.fr).mono ?_
    rintro e w3 ⟨a1, c1, a2, c2, rfl, hi1, hi2, hb3⟩
    have S3 : Hid _ := HS.out.grow hb3
    have I1 : Hid (IntsAt w3 a1 (tabs (fndX S t p))) := hi1
    have I2 : Hid (IntsAt w3 a2 (plcs (fndX S t p))) := hi2
    have HB3 : Hid (Below W.heap.size W w3) := bthen HB2.out hb3
    clear hi1 hi2 hb3
    unfold spotV
    go_wp2_with fail
    obtain ⟨W3, hW3⟩ : ∃ W3, W3 = w3.alloc (.cells #[.int .i64 (lastL (fndX S t p)), .bool (lastE (fndX S t p)).t, .bool (lastE (fndX S t p)).l, .int .i64 (lastE (fndX S t p)).r, .bool (lastE (fndX S t p)).u, .bool (lastE (fndX S t p)).d, .int .i64 (lastE (fndX S t p)).f, .slice a1 (fndX S t p).length c1, .slice a2 (fndX S t p).length c2] 32) := ⟨_, rfl⟩
    have hB33 : Below w3.heap.size w3 W3 := by rw [hW3]; exact balloc (brefl w3) _
    have SP : Hid (SpotAt w3.heap.size (lastL (fndX S t p)) (lastE (fndX S t p)) (.slice a1 (fndX S t p).length c1) (.slice a2 (fndX S t p).length c2) W3) := by
      rw [hW3]
      refine ⟨?_, ?_, ?_, ?_, ?_, ?_, ?_, ?_, ?_, fun o => ?_⟩ <;> simp [go_sem]
    rw [← hW3]
    clear hW3
    have S33 : Hid _ := S3.out.grow hB33
    refine (wayTo_any t p W3 S33.out.mem).mono ?_
    rintro e w4 ⟨⟨a3, c3, rfl, hi3⟩, hb4⟩
    have S4 : Hid _ := S33.out.grow hb4
    have J1 : Hid (IntsAt w4 a1 (tabs (fndX S t p))) := (I1.out.below hB33).below hb4
    have J2 : Hid (IntsAt w4 a2 (plcs (fndX S t p))) := (I2.out.below hB33).below hb4
    have J3 : Hid (IntsAt w4 a3 (tabs (fndX S t p))) := hi3
    have SP4 : Hid _ := SP.out.of_block (hb4.block _ SP.out.lb)
    have HB4 : Hid (Below W.heap.size W w4) := bthen (bthen HB3.out hB33) hb4
    clear hi3 hb4 hB33 I1 I2
    unfold wayV
    generalize fndX S t p = X at *
    generalize fndC S t p = cd at *
    have hl34 := SP4.out.lb
    obtain ⟨s0, s1, s2, s3, s4, s5, s6, s7, s8, _⟩ := SP4.out
    generalize lastL X = xl at *
    generalize lastE X = xe at *
    obtain ⟨et, el, er, eu, ed, ef⟩ := xe
    simp only at s1 s2 s3 s4 s5 s6
    go_wp2_with fail
    have HB4' : Hid (∀ o, Below w4.heap.size w4 (w4.alloc o)) := fun o => balloc (brefl w4) o
    have HSI := fun o => sameInts_yes (cap := c1) (cap' := c3) _ (J1.out.below (HB4'.out o)) (J3.out.below (HB4'.out o)) (by rw [tabs_len]; omega)
    rw [tabs_len] at HSI
    refine (HSI _).mono ?_
    rintro e w5 ⟨rfl, hb5⟩
    have hb45 : Below w4.heap.size w4 w5 := bthen (balloc (brefl w4) _) hb5
    have S5 : Hid _ := S4.out.grow hb45
    have K2 : Hid (IntsAt w5 a2 (plcs X)) := J2.out.below hb45
    have SP5 : Hid _ := SP4.out.of_block (hb45.block _ SP4.out.lb)
    have v0 : w5.cell? ⟨w4.heap.size, 0, none⟩ = some (.slice a3 X.length c3) := (hb5.cell (p := ⟨w4.heap.size, 0, none⟩) (by simp)).trans (by simp [go_sem])
    have HB5 : Hid (Below W.heap.size W w5) := bthen HB4.out hb45
    clear s0 s1 s2 s3 s4 s5 s6 s7 s8 hb5 hb45 HSI HB4'
    have hl35 := SP5.out.lb
    have s8 := SP5.out.c8
    go_wp2_with fail
    go_loopw [17] (fun i wr => ∃ j : Nat, j ≤ X.length ∧ i = .int .i64 j ∧ Hid (Below w5.heap.size w5 wr)) (fun i _ => X.length - (intOf i).toNat)
    case atStart => exact ⟨0, by omega, rfl, brefl _⟩
    case round =>
      obtain ⟨j, hj, rfl, HR⟩ := hrel
      clear s8
      have SPr : Hid _ := SP5.out.of_block (HR.out.block _ SP5.out.lb)
      have s8 := SPr.out.c8
      have hlr := SPr.out.lb
      have j0 : (0 : Int) ≤ (j : Int) := by omega
      by_cases hlt : j < X.length
      · have j1 : (j : Int) < (X.length : Int) := by omega
        obtain ⟨g, rfl, hg, hc⟩ := IntsAt.below K2.out HR.out j (by rw [plcs_len]; exact hlt)
        rw [(HX.out j hlt).2.2] at hc
        have HI := indexOf_any p (3 - (j : Int))
        have hj3 : (j : Int) ≤ 3 := by have := (HX.out j hlt).2.1; omega
        generalize Pg.index p (3 - (j : Int)) = x at *
        have C0 := cell_regrown s8
        have C1 := cell_regrown hc
        go_wp2_with fail
        refine wp_region_quiet_below (by kernel_rfl) (by kernel_rfl) ?_
        repeat' (first
          | go_big_quiet_step ((go_at_call 14; exact Calls.regrown_of (HI _))))
        refine wpQuiet_nil ?_
        intro _ hw'
        obtain ⟨⟨dq, osq⟩, rfl⟩ := hw'
        have fin : Hid _ := bthen HR.out (below_regrown wr dq osq)
        clear C0 C1 HI
        go_wp2_with fail
        exact ⟨⟨j + 1, by omega, by go_num, fin.out⟩, by simp [intOf]; omega⟩
      · have j1 : ¬ (j : Int) < (X.length : Int) := by omega
        have Sr : Hid _ := S5.out.grow HR.out
        have HBr : Hid (Below W.heap.size W wr) := bthen HB5.out HR.out
        go_wp2_with fail
        refine (wList_any t wr Sr.out.fr).mono ?_
        rintro e w6 ⟨d1, e1, L1, rfl, hL1, hm1, hb6⟩
        have hL1' : L1 = Pg.mapsR (Pg.thr S Pg.allW 3 t 0) := hL1
        subst hL1'
        have S6 : Hid _ := Sr.out.grow hb6
        have M1 : Hid (MapsAt w6 d1 (Pg.mapsR (Pg.thr S Pg.allW 3 t 0))) := hm1
        have HB6 : Hid (Below W.heap.size W w6) := bthen HBr.out hb6
        clear hL1 hm1 hb6
        go_wp2_with fail
        refine (wTables_any t w6 S6.out.fr).mono ?_
        rintro e w7 ⟨d2, e2, L2, rfl, hL2, hm2, hb7⟩
        have hL2' : L2 = Pg.tabsR t (Pg.thr S Pg.allW 3 t 0) := hL2
        subst hL2'
        have S7 : Hid _ := S6.out.grow hb7
        have M2 : Hid (MapsAt w7 d1 (Pg.mapsR (Pg.thr S Pg.allW 3 t 0))) := M1.out.below hb7
        have T2 : Hid (IntsAt w7 d2 (Pg.tabsR t (Pg.thr S Pg.allW 3 t 0))) := hm2
        have HB7 : Hid (Below W.heap.size W w7) := bthen HB6.out hb7
        clear hL2 hm2 hb7
        go_wp2_with fail
        refine (allOf_any t w7 S7.out.mem).mono ?_
        rintro e w8 ⟨⟨d3, e3, d4, e4, rfl, hr8⟩, hb8⟩
        have M3 : Hid (MapsAt w8 d1 (Pg.mapsR (Pg.thr S Pg.allW 3 t 0))) := M2.out.below hb8
        have T3 : Hid (IntsAt w8 d2 (Pg.tabsR t (Pg.thr S Pg.allW 3 t 0))) := T2.out.below hb8
        have M4 : Hid (MapsAt w8 d3 (Pg.mapsR (Pg.thr S Pg.allW 3 t 0))) := owns_mapsAt hr8.m
        have T4 : Hid (IntsAt w8 d4 (Pg.tabsR t (Pg.thr S Pg.allW 3 t 0))) := owns_intsAt hr8.t
        have HB8 : Hid (Below W.heap.size W w8) := bthen HB7.out hb8
        clear hr8 hb8
        generalize Pg.mapsR (Pg.thr S Pg.allW 3 t 0) = MM at *
        generalize Pg.tabsR t (Pg.thr S Pg.allW 3 t 0) = TT at *
        generalize (Pg.thr S Pg.allW 3 t 0).2 = kc at *
        go_wp2_with fail
        refine (sameMapsW w8 M3.out M4.out (by omega)).mono ?_
        rintro e w9 ⟨rfl, hb9⟩
        have T5 : Hid (IntsAt w9 d2 TT) := T3.out.below hb9
        have T6 : Hid (IntsAt w9 d4 TT) := T4.out.below hb9
        have HB9 : Hid (Below W.heap.size W w9) := bthen HB8.out hb9
        clear hb9
        go_wp2_with fail
        refine (sameInts_yes w9 T5.out T6.out (by omega)).mono ?_
        rintro e w10 ⟨rfl, hb10⟩
        have HB10 : Hid (Below W.heap.size W w10) := bthen HB9.out hb10
        clear hb10
        go_wp2_with fail
        go_ret
        exact ⟨rfl, HB10.out⟩

set_option maxRecDepth 100000 in
theorem walkDoes_lifted (os : Os) (started : os.Started) (H : Type) (enc : TypeId × Value → H) :
    ReturnsInHanded {} Try.checked os 3 .any (Rows.walkDoesSpec.pre6 enc Try.prog Try.f3 Rows.walkDoesRow.domain false) (Rows.walkDoesSpec.post enc Try.prog Try.f3 false true false false) := by
  refine returnsInHanded_of_change (C := Try.checked) own started (by kernel_rfl) Try.func3
    (ChangeSpec.witness6 (enc := enc) (C := Try.checked) false ⟨#[], #[.int .i64 0, .int .i64 0, .int .i64 0, .int .i64 0, .slice none 0 0], []⟩ 8 (by kernel_rfl) (by kernel_rfl) (by kernel_rfl) (by kernel_rfl)) ?_
  intro W base args ds gs before hval0 hW hcnd _
  have hval : ∀ (j : Nat) t v, Try.f3.params[j]? = some t → args[j]? = some v → Value.okWide Try.prog W .any base t v := hval0
  have hW' := hW
  obtain ⟨p, q, hA0, hV, rfl, hfz, hnd⟩ := hW
  have hA : DataW.TrodAll enc Try.prog W 0 (fun _ => true) true Try.f3.params.toList args.toList ds p := hA0
  rw [Try.params3] at hA hval
  obtain ⟨v0, vs0, d0, ds0, p0, q0, hargs, rfl, rfl, h0, r0⟩ := trodAll_cons hA
  obtain ⟨v1, vs1, d1, ds1, p1, q1, rfl, rfl, rfl, h1, r1⟩ := trodAll_cons r0
  obtain ⟨v2, vs2, d2, ds2, p2, q2, rfl, rfl, rfl, h2, r2⟩ := trodAll_cons r1
  obtain ⟨v3, vs3, d3, ds3, p3, q3, rfl, rfl, rfl, h3, r3⟩ := trodAll_cons r2
  obtain ⟨v4, vs4, d4, ds4, p4, q4, rfl, rfl, rfl, h4, r4⟩ := trodAll_cons r3
  obtain ⟨rfl, rfl, rfl⟩ := trodAll_nil r4
  obtain rfl : args = #[v0, v1, v2, v3, v4] := by cases args; simp_all
  obtain ⟨rfl, rfl⟩ := trodVars_none hV
  obtain ⟨a0a, rfl, f0a⟩ := openInt (hval 0 3 v0 rfl rfl) h0
  obtain ⟨a1a, rfl, f1a⟩ := openInt (hval 1 3 v1 rfl rfl) h1
  obtain ⟨a2a, rfl, f2a⟩ := openInt (hval 2 3 v2 rfl rfl) h2
  obtain ⟨a3a, rfl, f3a⟩ := openInt (hval 3 3 v3 rfl rfl) h3
  obtain ⟨a4a, a4b, a4c, a4d, rfl, f4a⟩ := openWords (hval 4 22 v4 rfl rfl) h4
  clear hA0 hval0
  refine (walkDoes_walk W a0a f0a a1a f1a a2a f2a a3a f3a a4a a4b a4c a4d f4a).mono fun e W' ⟨he, bel⟩ => ?_
  subst he
  exact ⟨_, rfl, _, _, _, [], _, [], hW', trodAll_mk1 (shut_bool Try.underlying4 _), (trodAll_cons_mk (stays (by kernel_rfl) (of_decide_eq_true (by kernel_rfl)) h0 bel) (trodAll_cons_mk (stays (by kernel_rfl) (of_decide_eq_true (by kernel_rfl)) h1 bel) (trodAll_cons_mk (stays (by kernel_rfl) (of_decide_eq_true (by kernel_rfl)) h2 bel) (trodAll_cons_mk (stays (by kernel_rfl) (of_decide_eq_true (by kernel_rfl)) h3 bel) (trodAll_cons_mk (stays (by kernel_rfl) (of_decide_eq_true (by kernel_rfl)) h4 bel) trodAll_mk0))))), rfl, bel.frame _, fun h => by cases h⟩

theorem walkDoes_over : Rows.walkDoesRow.holds Try.pinned (OpenSpec.ofChange Rows.walkDoesSpec) :=
  OpenClaim.holds_of_wide 3 Try.f3 rfl rfl rfl rfl rfl rfl rfl ⟨rfl, rfl, rfl, rfl, rfl⟩ rfl rfl rfl rfl rfl (by kernel_rfl) Try.func3 (by kernel_rfl)
    (of_decide_eq_true (by kernel_rfl)) (by unfold Func.isWrapper; first | (rw [if_pos (by decide +kernel)]; kernel_rfl) | (rw [if_neg (by decide +kernel)]; exact ⟨rfl, rfl⟩))
    (fun os started H enc _ => walkDoes_lifted os started H enc)

theorem walkDoes_proved : Rows.WalkDoesSaid := walkDoes_over
#print axioms walkDoes_proved
end Go.Proofs.Ytbkpndgadgafiac
