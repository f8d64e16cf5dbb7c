
/-
  TlbApart is true for every argument: of what is kept no two lines meet, there are never more than there may be, and behind a Drop none meets what was dropped.
-/
import Derived.Test.YtkcmlmofcjdgoadTlbKept
import Derived.Test.YtkcmlmofcjdgoadPlainLB
import Derived.Deep.DeepCutAuto
namespace Go.Proofs.Ytkcmlmofcjdgoad
open Go.ChangeShapes Go.WideShapes Go.ChangeAt Go.RowKit Go.Joins Go.Sort
set_option maxRecDepth 100000
set_option linter.unusedVariables false

/-- Kept lines, with a step x in the block X beside. -/
structure Tbx (w0 w : World) (b X : Nat) (x : Lst) (L : List Pg.Ln) (F : Nat → Prop) : Prop where
  db : Tbd w0 w b L F
  xs : LstAt w X 0 x
  nF : ¬ F X
  new : w0.heap.size ≤ X
namespace Tbx
variable {w0 w w' : World} {b X : Nat} {x : Lst} {L L' : List Pg.Ln} {F F' : Nat → Prop}
theorem xl (h : Tbx w0 w b X x L F) : X < w.heap.size := World.block_lt_of_cell? _ _ h.xs.1
theorem grow (h : Tbx w0 w b X x L F) (hb : Below w.heap.size w w') : Tbx w0 w' b X x L F :=
  ⟨h.db.grow hb, h.xs.of fun p => hb.cell (p := ⟨X, p, none⟩) h.xl, h.nF, h.new⟩
theorem left (h : Tbx w0 w b X x L F) (h1 : TbAt w' b 0 L' F') (hb : But F w w') (hF : ∀ k, F' k → F k ∨ w.heap.size ≤ k) : Tbx w0 w' b X x L' F' :=
  ⟨h.db.step h1 hb hF, h.xs.of fun p => hb.cell (a := ⟨X, p, none⟩) h.xl h.nF, fun hf => (hF X hf).elim h.nF (fun hs => by have := h.xl; omega), h.new⟩
theorem cells (h : Tbx w0 w b X x L F) : w.cell? ⟨X, 0, none⟩ = some (.int .i64 x.a) ∧ w.cell? ⟨X, 1, none⟩ = some (.int .i64 x.k) ∧ w.cell? ⟨X, 2, none⟩ = some (.int .i64 x.m.p) ∧ w.cell? ⟨X, 3, none⟩ = some (.int .i64 x.m.s) ∧ w.cell? ⟨X, 4, none⟩ = some (.int .i64 x.m.f) ∧ w.cell? ⟨X, 5, none⟩ = some (.int .i64 x.m.r) := by
  obtain ⟨h0, h1, h2, h3, h4, h5⟩ := h.xs
  simp only [Nat.zero_add] at h1 h2 h3 h4 h5
  exact ⟨h0, h1, h2, h3, h4, h5⟩
end Tbx

set_option maxRecDepth 100000 in
set_option maxHeartbeats 40000000 in
theorem tlbApart_walk (w : World) (ad : Option Addr) (len cap : Nat) (q : Nat → Lst)
    (hq : ∀ j, j < len → (∃ b o, ad = some ⟨b, o, none⟩ ∧ b < w.heap.size ∧ LstAt w b (o + j * 6) (q j)) ∧ LstFits (q j)) :
    Calls Try.prog 4 #[.slice ad len cap] w fun e w' => e = .returned (.bool true) ∧ Below w.heap.size w w' := by
  have HQ : Hid _ := hq
  clear hq
  by_cases hl : 300 < len
  · have hl' : (300 : Int) < (len : Int) := by omega
    go_enter Try.func4, Try.ntmps4
    go_wp2_with fail
    refine (tlbBegun_any _).mono ?_
    rintro e w1 ⟨rfl, hb1⟩
    go_wp2_with fail
    go_ret
    exact ⟨rfl, hb1⟩
  · have hl' : decide ((300 : Int) < (len : Int)) = false := by simp; omega
    go_enter Try.func4, Try.ntmps4
    go_wp2_with fail
    refine (tlbBegun_any _).mono ?_
    rintro e w1 ⟨rfl, hb1⟩
    go_wp2_with fail
    refine (tbNew_any _).mono ?_
    rintro e w2 ⟨b, F, rfl, h2, hb2, hF2⟩
    have k2 : Hid (Tbd w w2 b [] F) := ⟨h2, bthen hb1 hb2, fun k hk => Nat.le_trans hb1.size (hF2 k hk)⟩
    clear h2 hb1 hb2 hF2
    go_wp2_with fail
    go_loopw [4, 5, 6, 7, 8] (fun i _ _ _ _ wr => ∃ k : Nat, k ≤ len ∧ i = .int .i64 k ∧ Hid (∃ L F, Tbd w wr b L F)) (fun i _ _ _ _ _ => len - (intOf i).toNat)
    case atStart => exact ⟨0, by omega, rfl, ⟨_, _, k2.out⟩⟩
    case round =>
      obtain ⟨k, hk, rfl, HR⟩ := hrel
      obtain ⟨L, F, HB⟩ := HR.out
      clear HR k2
      have HB : Hid _ := HB
      by_cases hlt : k < len
      · obtain ⟨⟨xb, xo, rfl, hxl, hx⟩, hfit⟩ := HQ.out k hlt
        have i0 : (0 : Int) ≤ (k : Int) := by omega
        have i1 : (k : Int) < (len : Int) := by omega
        generalize q k = x at *
        obtain ⟨xa, xk, ⟨mp, ms, mf, mr⟩⟩ := x
        obtain ⟨x0, x1, x2, x3, x4, x5⟩ := hx
        have y0 := (HB.out.bel.cell (p := ⟨xb, xo + k * 6, none⟩) hxl).trans x0
        have y1 := (HB.out.bel.cell (p := ⟨xb, xo + k * 6 + 1, none⟩) hxl).trans x1
        have y2 := (HB.out.bel.cell (p := ⟨xb, xo + k * 6 + 2, none⟩) hxl).trans x2
        have y3 := (HB.out.bel.cell (p := ⟨xb, xo + k * 6 + 3, none⟩) hxl).trans x3
        have y4 := (HB.out.bel.cell (p := ⟨xb, xo + k * 6 + 4, none⟩) hxl).trans x4
        have y5 := (HB.out.bel.cell (p := ⟨xb, xo + k * 6 + 5, none⟩) hxl).trans x5
        simp only at y0 y1 y2 y3 y4 y5
        obtain ⟨f0, f1⟩ := hfit
        simp only at f0 f1
        clear x0 x1 x2 x3 x4 x5 HQ
        go_upto_region 10 with fail
        have HP : Hid (Tbx w (wr.alloc (.cells #[.int .i64 xa, .int .i64 xk, .int .i64 mp, .int .i64 ms, .int .i64 mf, .int .i64 mr] 36)) b wr.heap.size ⟨xa, xk, ⟨mp, ms, mf, mr⟩⟩ L F) := by
          refine ⟨HB.out.grow (balloc (brefl _) _), ⟨?_, ?_, ?_, ?_, ?_, ?_⟩, fun hf => by have := HB.out.at'.lt hf; omega, HB.out.bel.size⟩ <;> simp [go_sem]
        clear HB y0 y1 y2 y3 y4 y5
        generalize wr.alloc (.cells #[.int .i64 xa, .int .i64 xk, .int .i64 mp, .int .i64 ms, .int .i64 mf, .int .i64 mr] 36) = wz at *
        generalize wr.heap.size = X at *
        have z0 := HP.out.cells.1
        simp only at z0
        go_cut [26] from 15 to 95 (fun s26 wc => s26 = .int .i64 xa ∧ wc = wz)
        case first =>
          go_wp2_with fail
          go_meet
          case rel => exact ⟨rfl, rfl⟩
        case rest =>
          obtain ⟨rfl, rfl⟩ := hcut
          clear z0
          rename_i hK1 K2 hK2
          refine hK2 _ _ ?_
          go_cut [] from 15 to 95 (fun wc => Hid (∃ L' F, Tbx w wc b X ⟨xa, xk, ⟨mp, ms, mf, mr⟩⟩ L' F ∧ (xa = 1 → ∀ j, j < L'.length → (L'.getD j .zz).m.meets ⟨mp, ms, mf, mr⟩ = false)))
          case first =>
            obtain ⟨_, t1, t2, t3, t4, t5⟩ := HP.out.cells
            simp only at t1 t2 t3 t4 t5
            by_cases h0 : xa = 0
            · as_aux_lemma =>
              subst h0
              have HE := tbPut_any ⟨⟨mp, ms, mf, mr⟩, decide (0 < xk)⟩ f1 _ HP.out.db.at'
              simp only [Pg.Ln.val] at HE
              go_wp2_with fail
              refine HE.mono ?_
              rintro e w5 ⟨rfl, F5, h5, hb5, hF5⟩
              have P5 : Hid _ := HP.out.left h5 hb5.but hF5
              clear h5 hb5 hF5 t1 t2 t3 t4 t5 HE
              go_wp2_with fail
              go_meet
              case rel => exact ⟨_, _, P5.out, fun h => absurd h (by decide)⟩
            · have n0 : (xa == 0) = false := by simpa using h0
              clear h0
              by_cases h1 : xa = 1
              · as_aux_lemma =>
                subst h1
                have HE := tbDrop_any ⟨mp, ms, mf, mr⟩ f1 _ HP.out.db.at'
                simp only [Pg.Mp.val] at HE
                go_wp2_with fail
                refine HE.mono ?_
                rintro e w5 ⟨rfl, F5, h5, hb5, hF5⟩
                have P5 : Hid _ := HP.out.left h5 hb5.but hF5
                clear h5 hb5 hF5 t1 t2 t3 t4 t5 HE
                go_wp2_with fail
                go_meet
                case rel => exact ⟨_, _, P5.out, fun _ j hj => Pg.kDrop_at hj⟩
              · have n1 : (xa == 1) = false := by simpa using h1
                by_cases h2 : xa = 2
                · as_aux_lemma =>
                  subst h2
                  have HE := tbEvict_any _ HP.out.db.at'
                  go_wp2_with fail
                  refine HE.mono ?_
                  rintro e w5 ⟨rfl, F5, h5, hb5, hF5⟩
                  have P5 : Hid _ := HP.out.left h5 hb5.but hF5
                  clear h5 hb5 hF5 t1 t2 t3 t4 t5 HE
                  go_wp2_with fail
                  go_meet
                  case rel => exact ⟨_, _, P5.out, fun h => absurd h (by decide)⟩
                · have n2 : (xa == 2) = false := by simpa using h2
                  have H1 : Hid (¬ xa = 1) := h1
                  clear h1 h2
                  go_wp2_with fail
                  go_meet
                  case rel => exact ⟨_, _, HP.out, fun h => absurd h H1.out⟩
          case rest =>
            obtain ⟨L', F9, P9, HD⟩ := hcut.out
            have P9 : Hid _ := P9
            have HD : Hid _ := HD
            clear hcut HP
            refine hK1 _ _ ?_
            have hlen' := P9.out.db.at'.kept.le
            have HK : Hid _ := P9.out.db.at'.kept
            go_wp2_with fail
            refine (tbList_any _ P9.out.db.at').mono ?_
            rintro e w6 ⟨ad6, cap6, rfl, m6, hb6, hn6⟩
            have P6 : Hid _ := P9.out.grow hb6
            have M6 : Hid _ := m6
            have d6 : decide ((6 : Int) < (L'.length : Int)) = false := by simp; omega
            clear hb6 hn6 m6 P9
            go_wp2_with fail
            go_loopw [7, 8] (fun s7 _ wr2 => ∃ n : Nat, n ≤ L'.length ∧ s7 = .int .i64 n ∧ Hid (Tbx w wr2 b X ⟨xa, xk, ⟨mp, ms, mf, mr⟩⟩ L' F9 ∧ LinesAt wr2 ad6 L')) (fun s7 _ _ => L'.length - (intOf s7).toNat)
            case atStart => exact ⟨0, by omega, rfl, P6.out, M6.out⟩
            case round =>
              obtain ⟨n, hn, rfl, HR⟩ := hrel
              clear P6 M6
              by_cases hnl : n < L'.length
              · obtain ⟨g, o, rfl, hg, hm⟩ := HR.out.2 n hnl
                obtain ⟨k0, k1, k2, k3, _⟩ := hm
                have i2 : (n : Int) < (L'.length : Int) := by omega
                have i3 : (0 : Int) ≤ (n : Int) := by omega
                have HM := mapFault_any (L'.getD n .zz).m.p (L'.getD n .zz).m.s (L'.getD n .zz).m.f (L'.getD n .zz).m.r
                rw [show Pg.check (L'.getD n .zz).m.p (L'.getD n .zz).m.s (L'.getD n .zz).m.f (L'.getD n .zz).m.r = 0 from HK.out.codeAt hnl] at HM
                have HC := both_any (L'.getD n .zz).m.p (L'.getD n .zz).m.s (L'.getD n .zz).m.f (L'.getD n .zz).m.r mp ms mf mr (HK.out.fits hnl) f1
                obtain ⟨t0, _, t2, t3, t4, t5⟩ := HR.out.1.cells
                simp only at t0 t2 t3 t4 t5
                have HX : Hid (∀ d os, Tbx w (grow (redrawn wr d) os) b X ⟨xa, xk, ⟨mp, ms, mf, mr⟩⟩ L' F9 ∧ LinesAt (grow (redrawn wr d) os) (some ⟨g, o, none⟩) L') := fun d os => ⟨HR.out.1.grow (below_regrown wr d os), HR.out.2.below (below_regrown wr d os)⟩
                have HW : xa = 1 → Pg.meet (L'.getD n .zz).m.p (L'.getD n .zz).m.s mp ms = false := fun h => HD.out h n hnl
                generalize L'.getD n .zz = yy at HM HC k0 k1 k2 k3 HW
                obtain ⟨⟨jp, js, jf, jr⟩, jd⟩ := yy
                simp only at HM HC k0 k1 k2 k3 HW
                have r0 := cell_regrown k0
                have r1 := cell_regrown k1
                have r2 := cell_regrown k2
                have r3 := cell_regrown k3
                have q0 := cell_regrown t0
                have q2 := cell_regrown t2
                have q3 := cell_regrown t3
                have q4 := cell_regrown t4
                have q5 := cell_regrown t5
                clear k0 k1 k2 k3 t0 t2 t3 t4 t5
                have HG : Hid _ := hg
                by_cases h1 : xa = 1
                · rw [HW h1] at HC
                  have n1 : (xa == 1) = true := by simpa using h1
                  clear h1 HW
                  go_wp2_with fail
                  refine wp_region_quiet_below (by kernel_rfl) (by kernel_rfl) ?_
                  repeat (first
                    | go_big_quiet_step ((first
                      | (go_at_call 20; exact Calls.regrown_of (HM _))
                      | (go_at_call 21; exact Calls.regrown_of (HC _)))))
                  refine wpQuiet_nil ?_
                  intro _ hw'
                  obtain ⟨⟨dq, osq⟩, rfl⟩ := hw'
                  have HY : Hid _ := HX.out dq osq
                  generalize grow (redrawn wr dq) osq = w7 at *
                  clear r0 r1 r2 r3 q0 q2 q3 q4 q5 HX HM HC HR
                  go_wp2_with fail
                  go_loopw [8] (fun s8 wr3 => ∃ t : Nat, t ≤ n ∧ s8 = .int .i64 t ∧ Hid (Tbx w wr3 b X ⟨xa, xk, ⟨mp, ms, mf, mr⟩⟩ L' F9 ∧ LinesAt wr3 (some ⟨g, o, none⟩) L')) (fun s8 _ => n - (intOf s8).toNat)
                  case atStart => exact ⟨0, by omega, rfl, HY.out⟩
                  case round =>
                    obtain ⟨t, ht, rfl, HS⟩ := hrel
                    clear HY
                    by_cases htn : t < n
                    · have u1 : (t : Int) < (n : Int) := by omega
                      have u2 : (0 : Int) ≤ (t : Int) := by omega
                      have u3 : (t : Int) < (L'.length : Int) := by omega
                      obtain ⟨g', o', e, hg', hm'⟩ := HS.out.2 t (by omega)
                      cases e
                      obtain ⟨g', o', e, hg', hm⟩ := HS.out.2 n hnl
                      cases e
                      obtain ⟨c0, c1, c2, c3, _⟩ := hm'
                      obtain ⟨e0, e1, e2, e3, _⟩ := hm
                      have HA := both_any (L'.getD t .zz).m.p (L'.getD t .zz).m.s (L'.getD t .zz).m.f (L'.getD t .zz).m.r (L'.getD n .zz).m.p (L'.getD n .zz).m.s (L'.getD n .zz).m.f (L'.getD n .zz).m.r (HK.out.fits (by omega)) (HK.out.fits hnl)
                      rw [show Pg.meet (L'.getD t .zz).m.p (L'.getD t .zz).m.s (L'.getD n .zz).m.p (L'.getD n .zz).m.s = false from HK.out.apart htn hnl] at HA
                      have HZ : Hid (∀ d os, Tbx w (grow (redrawn wr d) os) b X ⟨xa, xk, ⟨mp, ms, mf, mr⟩⟩ L' F9 ∧ LinesAt (grow (redrawn wr d) os) (some ⟨g, o, none⟩) L') := fun d os => ⟨HS.out.1.grow (below_regrown wr d os), HS.out.2.below (below_regrown wr d os)⟩
                      generalize L'.getD t .zz = y at *
                      generalize L'.getD n .zz = z at *
                      obtain ⟨⟨yp, ys, yf, yr⟩, yd⟩ := y
                      obtain ⟨⟨zp, zs, zf, zr⟩, zd⟩ := z
                      simp only at c0 c1 c2 c3 e0 e1 e2 e3 HA
                      have s0 := cell_regrown c0
                      have s1 := cell_regrown c1
                      have s2 := cell_regrown c2
                      have s3 := cell_regrown c3
                      have v0 := cell_regrown e0
                      have v1 := cell_regrown e1
                      have v2 := cell_regrown e2
                      have v3 := cell_regrown e3
                      go_wp2_with fail
                      refine wp_region_quiet_below (by kernel_rfl) (by kernel_rfl) ?_
                      repeat (first
                        | go_big_quiet_step ((go_at_call 21; exact Calls.regrown_of (HA _))))
                      refine wpQuiet_nil ?_
                      intro _ hw'
                      obtain ⟨⟨dq, osq⟩, rfl⟩ := hw'
                      have HY : Hid _ := HZ.out dq osq
                      generalize grow (redrawn wr dq) osq = w8 at *
                      clear s0 s1 s2 s3 v0 v1 v2 v3 HZ HA HS c0 c1 c2 c3 e0 e1 e2 e3
                      go_wp2_with fail
                      go_roundw
                      case rel => exact ⟨t + 1, by omega, by go_num, HY.out⟩
                      case measure => simp [intOf]; omega
                    · have u1 : ¬ (t : Int) < (n : Int) := by omega
                      go_wp2_with fail
                      go_roundw
                      case rel => exact ⟨n + 1, by omega, by go_num, HS.out⟩
                      case measure => simp [intOf]; omega
                · have n1 : (xa == 1) = false := by simpa using h1
                  clear h1 HW
                  go_wp2_with fail
                  refine wp_region_quiet_below (by kernel_rfl) (by kernel_rfl) ?_
                  repeat (first
                    | go_big_quiet_step ((first
                      | (go_at_call 20; exact Calls.regrown_of (HM _))
                      | (go_at_call 21; exact Calls.regrown_of (HC _)))))
                  refine wpQuiet_nil ?_
                  intro _ hw'
                  obtain ⟨⟨dq, osq⟩, rfl⟩ := hw'
                  have HY : Hid _ := HX.out dq osq
                  generalize grow (redrawn wr dq) osq = w7 at *
                  clear r0 r1 r2 r3 q0 q2 q3 q4 q5 HX HM HC HR
                  go_wp2_with fail
                  go_loopw [8] (fun s8 wr3 => ∃ t : Nat, t ≤ n ∧ s8 = .int .i64 t ∧ Hid (Tbx w wr3 b X ⟨xa, xk, ⟨mp, ms, mf, mr⟩⟩ L' F9 ∧ LinesAt wr3 (some ⟨g, o, none⟩) L')) (fun s8 _ => n - (intOf s8).toNat)
                  case atStart => exact ⟨0, by omega, rfl, HY.out⟩
                  case round =>
                    obtain ⟨t, ht, rfl, HS⟩ := hrel
                    clear HY
                    by_cases htn : t < n
                    · have u1 : (t : Int) < (n : Int) := by omega
                      have u2 : (0 : Int) ≤ (t : Int) := by omega
                      have u3 : (t : Int) < (L'.length : Int) := by omega
                      obtain ⟨g', o', e, hg', hm'⟩ := HS.out.2 t (by omega)
                      cases e
                      obtain ⟨g', o', e, hg', hm⟩ := HS.out.2 n hnl
                      cases e
                      obtain ⟨c0, c1, c2, c3, _⟩ := hm'
                      obtain ⟨e0, e1, e2, e3, _⟩ := hm
                      have HA := both_any (L'.getD t .zz).m.p (L'.getD t .zz).m.s (L'.getD t .zz).m.f (L'.getD t .zz).m.r (L'.getD n .zz).m.p (L'.getD n .zz).m.s (L'.getD n .zz).m.f (L'.getD n .zz).m.r (HK.out.fits (by omega)) (HK.out.fits hnl)
                      rw [show Pg.meet (L'.getD t .zz).m.p (L'.getD t .zz).m.s (L'.getD n .zz).m.p (L'.getD n .zz).m.s = false from HK.out.apart htn hnl] at HA
                      have HZ : Hid (∀ d os, Tbx w (grow (redrawn wr d) os) b X ⟨xa, xk, ⟨mp, ms, mf, mr⟩⟩ L' F9 ∧ LinesAt (grow (redrawn wr d) os) (some ⟨g, o, none⟩) L') := fun d os => ⟨HS.out.1.grow (below_regrown wr d os), HS.out.2.below (below_regrown wr d os)⟩
                      generalize L'.getD t .zz = y at *
                      generalize L'.getD n .zz = z at *
                      obtain ⟨⟨yp, ys, yf, yr⟩, yd⟩ := y
                      obtain ⟨⟨zp, zs, zf, zr⟩, zd⟩ := z
                      simp only at c0 c1 c2 c3 e0 e1 e2 e3 HA
                      have s0 := cell_regrown c0
                      have s1 := cell_regrown c1
                      have s2 := cell_regrown c2
                      have s3 := cell_regrown c3
                      have v0 := cell_regrown e0
                      have v1 := cell_regrown e1
                      have v2 := cell_regrown e2
                      have v3 := cell_regrown e3
                      go_wp2_with fail
                      refine wp_region_quiet_below (by kernel_rfl) (by kernel_rfl) ?_
                      repeat (first
                        | go_big_quiet_step ((go_at_call 21; exact Calls.regrown_of (HA _))))
                      refine wpQuiet_nil ?_
                      intro _ hw'
                      obtain ⟨⟨dq, osq⟩, rfl⟩ := hw'
                      have HY : Hid _ := HZ.out dq osq
                      generalize grow (redrawn wr dq) osq = w8 at *
                      clear s0 s1 s2 s3 v0 v1 v2 v3 HZ HA HS c0 c1 c2 c3 e0 e1 e2 e3
                      go_wp2_with fail
                      go_roundw
                      case rel => exact ⟨t + 1, by omega, by go_num, HY.out⟩
                      case measure => simp [intOf]; omega
                    · have u1 : ¬ (t : Int) < (n : Int) := by omega
                      go_wp2_with fail
                      go_roundw
                      case rel => exact ⟨n + 1, by omega, by go_num, HS.out⟩
                      case measure => simp [intOf]; omega
              · have i2 : ¬ (n : Int) < (L'.length : Int) := by omega
                have HF : Hid _ := HR.out.1.db
                go_wp2_with fail
                go_roundw
                case rel => exact ⟨k + 1, by omega, by go_num, ⟨_, _, HF.out⟩⟩
                case measure => simp [intOf]; omega
      · have i1 : ¬ (k : Int) < (len : Int) := by omega
        have HF : Hid _ := HB.out.bel
        clear HQ
        go_wp2_with fail
        go_ret
        exact ⟨rfl, HF.out⟩

set_option maxRecDepth 100000 in
theorem tlbApart_lifted (os : Os) (started : os.Started) (H : Type) (enc : TypeId × Value → H) :
    ReturnsInHanded {} Try.checked os 4 .any (Rows.tlbApartSpec.pre6 enc Try.prog Try.f4 Rows.tlbApartRow.domain false) (Rows.tlbApartSpec.post enc Try.prog Try.f4 false true false false) := by
  refine returnsInHanded_of_change (C := Try.checked) own started (by kernel_rfl) Try.func4
    (ChangeSpec.witness6 (enc := enc) (C := Try.checked) false ⟨#[], #[.slice none 0 0], []⟩ 8 (by kernel_rfl) (by kernel_rfl) (by kernel_rfl) (by kernel_rfl)) ?_
  intro W base args ds gs before hval0 hW hcnd _
  have hval : ∀ (j : Nat) t v, Try.f4.params[j]? = some t → args[j]? = some v → Value.okWide Try.prog W .any base t v := hval0
  have hW' := hW
  obtain ⟨p, q, hA0, hV, rfl, hfz, hnd⟩ := hW
  have hA : DataW.TrodAll enc Try.prog W 0 (fun _ => true) true Try.f4.params.toList args.toList ds p := hA0
  rw [Try.params4] at hA hval
  obtain ⟨v0, vs0, d0, ds0, p0, q0, hargs, rfl, rfl, h0, r0⟩ := trodAll_cons hA
  obtain ⟨rfl, rfl, rfl⟩ := trodAll_nil r0
  obtain rfl : args = #[v0] := by cases args; simp_all
  obtain ⟨rfl, rfl⟩ := trodVars_none hV
  obtain ⟨a0a, a0b, a0c, a0d, rfl, f0a⟩ := openLsts (hval 0 22 v0 rfl rfl) h0
  clear hA0 hval0
  refine (tlbApart_walk W a0a a0b a0c a0d f0a).mono fun e W' ⟨he, bel⟩ => ?_
  subst he
  exact ⟨_, rfl, _, _, _, [], _, [], hW', trodAll_mk1 (shut_bool Try.underlying4 _), (trodAll_cons_mk (stays (by kernel_rfl) (of_decide_eq_true (by kernel_rfl)) h0 bel) trodAll_mk0), rfl, bel.frame _, fun h => by cases h⟩

theorem tlbApart_over : Rows.tlbApartRow.holds Try.pinned (OpenSpec.ofChange Rows.tlbApartSpec) :=
  OpenClaim.holds_of_wide 4 Try.f4 rfl rfl rfl rfl rfl rfl rfl ⟨rfl, rfl, rfl, rfl, rfl⟩ rfl rfl rfl rfl rfl (by kernel_rfl) Try.func4 (by kernel_rfl)
    (of_decide_eq_true (by kernel_rfl)) (by unfold Func.isWrapper; first | (rw [if_pos (by decide +kernel)]; kernel_rfl) | (rw [if_neg (by decide +kernel)]; exact ⟨rfl, rfl⟩))
    (fun os started H enc _ => tlbApart_lifted os started H enc)

theorem tlbApart_proved : Rows.TlbApartSaid := tlbApart_over
#print axioms tlbApart_proved
end Go.Proofs.Ytkcmlmofcjdgoad
