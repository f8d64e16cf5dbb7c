
/-
  BookApart is true for every argument: mappings rise, and none meets another one; each page has the answer of its mapping, and no other page's matters.
-/
import Derived.Test.YtkcmlmofcjdgoabBookTurns
import Derived.Deep.RegionHeld3
import Derived.Deep.DeepCutAuto
namespace Go.Proofs.Ytkcmlmofcjdgoab
open Go.ChangeShapes Go.WideShapes Go.ChangeAt Go.RowKit Go.Joins Go.Sort
set_option maxRecDepth 100000
set_option linter.unusedVariables false

set_option maxRecDepth 100000 in
set_option maxHeartbeats 40000000 in
theorem bookApart_walk (w : World) (ad : Option Addr) (len cap : Nat) (q : Nat → Bst)
    (hq : ∀ j, j < len → (∃ b o, ad = some ⟨b, o, none⟩ ∧ b < w.heap.size ∧ BstAt w b (o + j * 9) (q j)) ∧ BstFits (q j)) (aq ak : Int) (au : Bool) (fq : Pg.fits aq) (fk : Pg.fits ak) :
    Calls Try.prog 7 #[.slice ad len cap, .agg #[.int .i64 aq, .int .i64 ak, .bool au]] w fun e w' => e = .returned (.bool true) ∧ Below w.heap.size w w' := by
  have HQ : Hid _ := hq
  clear hq
  have HA0 : Hid (Below w.heap.size w (w.alloc (.cells #[.int .i64 aq, .int .i64 ak, .bool au] 64))) := balloc (brefl _) _
  have ca0 : Hid ((w.alloc (.cells #[.int .i64 aq, .int .i64 ak, .bool au] 64)).cell? ⟨w.heap.size, 0, none⟩ = some (.int .i64 aq)) := by simp [Hid, go_sem]
  have ca1 : Hid ((w.alloc (.cells #[.int .i64 aq, .int .i64 ak, .bool au] 64)).cell? ⟨w.heap.size, 1, none⟩ = some (.int .i64 ak)) := by simp [Hid, go_sem]
  have ca2 : Hid ((w.alloc (.cells #[.int .i64 aq, .int .i64 ak, .bool au] 64)).cell? ⟨w.heap.size, 2, none⟩ = some (.bool au)) := by simp [Hid, go_sem]
  have lA : w.heap.size < (w.alloc (.cells #[.int .i64 aq, .int .i64 ak, .bool au] 64)).heap.size := by simp
  by_cases hl : 200 < len
  · have hl' : (200 : Int) < (len : Int) := by omega
    go_enter Try.func7, Try.ntmps7
    go_wp2_with fail
    refine (bookBegun_any _).mono ?_
    rintro e w1 ⟨rfl, hb1⟩
    go_wp2_with fail
    go_ret
    exact ⟨rfl, bthen HA0.out hb1⟩
  · have hl' : decide ((200 : Int) < (len : Int)) = false := by simp; omega
    go_enter Try.func7, Try.ntmps7
    go_wp2_with fail
    generalize w.alloc (.cells #[.int .i64 aq, .int .i64 ak, .bool au] 64) = wa at *
    refine (bookBegun_any _).mono ?_
    rintro e w1 ⟨rfl, hb1⟩
    go_wp2_with fail
    refine (dbNew_any _).mono ?_
    rintro e w2 ⟨b, F, rfl, h2, hb2, hF2⟩
    have K2 : Hid (Bkd wa w2 b [] F) := ⟨h2, bthen hb1 hb2, fun k hk => Nat.le_trans hb1.size (hF2 k hk)⟩
    clear h2 hb2 hF2 hb1
    go_wp2_with fail
    go_loopw [6] (fun i wr => ∃ k : Nat, k ≤ len ∧ i = .int .i64 k ∧ Hid (∃ L F, Bkd wa wr b L F)) (fun i _ => len - (intOf i).toNat)
    case atStart => exact ⟨0, by omega, rfl, ⟨_, _, K2.out⟩⟩
    case round =>
      obtain ⟨k, hk, rfl, HR⟩ := hrel
      obtain ⟨L, F, HB⟩ := HR.out
      clear HR K2
      have HB : Hid _ := HB
      by_cases hlt : k < len
      · obtain ⟨⟨xb, xo, rfl, hxl, hx⟩, hfit⟩ := HQ.out k hlt
        have i0 : (0 : Int) ≤ (k : Int) := by omega
        have i1 : (k : Int) < (len : Int) := by omega
        generalize q k = x at *
        obtain ⟨kind, core, ⟨mp, ms, mf, mr⟩, xq, xk, xu⟩ := x
        obtain ⟨x0, x1, x2, x3, x4, x5, x6, x7, x8⟩ := hx
        have hB := bthen HA0.out HB.out.bel
        have y0 := (hB.cell (p := ⟨xb, xo + k * 9, none⟩) hxl).trans x0
        have y2 := (hB.cell (p := ⟨xb, xo + k * 9 + 2, none⟩) hxl).trans x2
        have y3 := (hB.cell (p := ⟨xb, xo + k * 9 + 3, none⟩) hxl).trans x3
        have y4 := (hB.cell (p := ⟨xb, xo + k * 9 + 4, none⟩) hxl).trans x4
        have y5 := (hB.cell (p := ⟨xb, xo + k * 9 + 5, none⟩) hxl).trans x5
        simp only at y0 y2 y3 y4 y5
        obtain ⟨f0, f1, f2, f3, f4, f5⟩ := hfit
        simp only at f0
        clear x0 x1 x2 x3 x4 x5 x6 x7 x8 HQ f1 f2 f3 f4 f5 hB
        by_cases h1 : kind = 1
        · subst h1
          go_wp2_with fail
          refine (dbAdd_any (Pg.Mp.mk mp ms mf mr) f0 _ HB.out.at').mono ?_
          rintro e w5 ⟨rfl, F5, h5, hb5, hF5⟩
          have D5 : Hid _ := HB.out.step h5 hb5 hF5
          clear h5 hb5 hF5 y0 y2 y3 y4 y5
          go_wp2_with fail
          go_roundw
          case rel => exact ⟨k + 1, by omega, by go_num, ⟨_, _, D5.out⟩⟩
          case measure => simp [intOf]; omega
        · have n1 : (kind == 1) = false := by simpa using h1
          clear h1
          by_cases h2 : kind = 2
          · subst h2
            clear n1
            go_wp2_with fail
            refine (dbDrop_any mp f0 _ HB.out.at').mono ?_
            rintro e w5 ⟨rfl, F5, h5, hb5, hF5⟩
            have D5 : Hid _ := HB.out.step h5 hb5 hF5
            clear h5 hb5 hF5 y0 y2 y3 y4 y5
            go_wp2_with fail
            go_roundw
            case rel => exact ⟨k + 1, by omega, by go_num, ⟨_, _, D5.out⟩⟩
            case measure => simp [intOf]; omega
          · have n2 : (kind == 2) = false := by simpa using h2
            clear h2
            by_cases h3 : kind = 3
            · subst h3
              clear n1 n2
              have HBd : Hid (Bkd wa wr.drew b L F) := HB.out.grow (brefl wr).drew
              have nX : ¬ F xb := fun hf => by have := HB.out.new _ hf; have := HA0.out.size; omega
              go_wp2_with fail
              go_region_held3 (fun w' => w'.cell? ⟨xb, xo + k * 9 + 2, none⟩ = some (.int .i64 mp) ∧ w'.cell? ⟨xb, xo + k * 9 + 5, none⟩ = some (.int .i64 mr)) (go_keep) (first
                | (go_at_call 34; refine (dbProtect_any mp mr f0 _ HBd.out.at').mono ?_; rintro e w5 ⟨rfl, F5, h5, hb5, hF5⟩; have z2 : w5.cell? ⟨xb, xo + k * 9 + 2, none⟩ = some (.int .i64 mp) := (hb5.cell (a := ⟨xb, xo + k * 9 + 2, none⟩) (World.block_lt_of_cell? _ _ y2) nX).trans y2; have z5 : w5.cell? ⟨xb, xo + k * 9 + 5, none⟩ = some (.int .i64 mr) := (hb5.cell (a := ⟨xb, xo + k * 9 + 5, none⟩) (World.block_lt_of_cell? _ _ y5) nX).trans y5; have D5 : Hid _ := HBd.out.step h5 hb5 hF5; clear h5 hb5 hF5))
              all_goals
                go_wp2_with fail
                go_roundw
                case rel => exact ⟨k + 1, by omega, by go_num, ⟨_, _, D5.out⟩⟩
                case measure => simp [intOf]; omega
            · have n3 : (kind == 3) = false := by simpa using h3
              clear h3
              go_wp2_with fail
              go_roundw
              case rel => exact ⟨k + 1, by omega, by go_num, ⟨_, _, HB.out⟩⟩
              case measure => simp [intOf]; omega
      · have i1 : ¬ (k : Int) < (len : Int) := by omega
        clear HQ
        have hg := HB.out.at'.good
        have hlen := hg.len
        have HG : Hid _ := hg
        clear hg
        go_wp2_with fail
        refine (dbList_any _ HB.out.at').mono ?_
        rintro e w6 ⟨ad6, cap6, rfl, m6, hb6, hn6⟩
        have K6 : Hid (Bkd wa w6 b L F) := HB.out.grow hb6
        have A6 : Hid (∀ g, ad6 = some ⟨g, 0, none⟩ → ¬ F g) := fun g e hg => by
          have h1 := hn6 g (by rw [e]; rfl)
          have := HB.out.at'.lt hg
          omega
        have M6 : Hid _ := m6
        clear m6 hb6 hn6 HB
        go_wp2_with fail
        generalize hXe0 : w.heap.size = X at *
        have hXe : Hid _ := hXe0
        clear hXe0
        go_loopw [8, 9] (fun t i wr => ∃ k : Nat, k ≤ L.length ∧ i = .int .i64 k ∧ t = .int .i64 (Pg.atN L aq k) ∧ Hid (Below w6.heap.size w6 wr)) (fun _ i _ => L.length - (intOf i).toNat)
        case atStart => exact ⟨0, by omega, rfl, by rw [Pg.atN_zero], brefl _⟩
        case round =>
          obtain ⟨j, hj, rfl, rfl, HR⟩ := hrel
          by_cases hlt : j < L.length
          · as_aux_lemma =>
            obtain ⟨g, rfl, hgl, hmm⟩ := MapsAt.below M6.out HR.out j hlt
            obtain ⟨k0, k1, k2, k3⟩ := hmm
            have hcode := HG.out.code hlt
            have HM := mapFault_any (L.getD j .zz).p (L.getD j .zz).s (L.getD j .zz).f (L.getD j .zz).r
            rw [show Pg.check (L.getD j .zz).p (L.getD j .zz).s (L.getD j .zz).f (L.getD j .zz).r = 0 from hcode] at HM
            have HH := refHas_any (L.getD j .zz).p (L.getD j .zz).s (L.getD j .zz).f (L.getD j .zz).r aq (Pg.ok_fits hcode).2.2.1 fq
            have a0 := cell_later HR.out (cell_later K6.out.bel ca0.out)
            have hstep : Hid (((L.getD j .zz).has aq = false → Pg.atN L aq (j + 1) = Pg.atN L aq j) ∧ ((L.getD j .zz).has aq = true → Pg.atN L aq (j + 1) = (j : Int))) :=
              ⟨fun h => by rw [Pg.atN_step HG.out hlt, h]; rfl, fun h => by rw [Pg.atN_step HG.out hlt, h]; rfl⟩
            have i0 : (0 : Int) ≤ (j : Int) := by omega
            have i1 : (j : Int) < (L.length : Int) := by omega
            by_cases hj0 : j = 0
            · subst hj0
              generalize L.getD 0 .zz = x at *
              obtain ⟨xp, xs, xf, xr⟩ := x
              simp only [Nat.zero_mul] at k0 k1 k2 k3 HM HH
              have r0 := cell_regrown k0
              have r1 := cell_regrown k1
              have r2 := cell_regrown k2
              have r3 := cell_regrown k3
              clear hcode
              go_wp2_with fail
              refine wp_region_quiet_below (by kernel_rfl) (by kernel_rfl) ?_
              repeat (first
                | go_big_quiet_step ((first
                  | (go_at_call 42; exact Calls.regrown_of (HM _)))))
              refine wpQuiet_nil ?_
              intro _ hw'
              obtain ⟨⟨dq, osq⟩, rfl⟩ := hw'
              have hb7 := below_regrown wr dq osq
              have B7 : Hid _ := bthen HR.out hb7
              have k0 := cell_later hb7 k0
              have k1 := cell_later hb7 k1
              have k2 := cell_later hb7 k2
              have k3 := cell_later hb7 k3
              have a0 := cell_later hb7 a0
              clear r0 r1 r2 r3
              generalize grow (redrawn wr dq) osq = w7 at *
              have r0 := cell_regrown k0
              have r1 := cell_regrown k1
              have r2 := cell_regrown k2
              have r3 := cell_regrown k3
              have r4 := cell_regrown a0
              cases hh : (Pg.Mp.mk xp xs xf xr).has aq
              · rw [show Pg.over xp xs aq = false from hh] at HH
                have hstep : Hid _ := hstep.out.1 hh
                clear hh
                go_wp2_with fail
                refine wp_region_quiet_below (by kernel_rfl) (by kernel_rfl) ?_
                repeat (first
                  | go_big_quiet_step ((go_at_call 44; exact Calls.regrown_of (HH _))))
                refine wpQuiet_nil ?_
                intro _ hw'
                obtain ⟨⟨dr, osr⟩, rfl⟩ := hw'
                have B8 : Hid _ := bthen B7.out (below_regrown w7 dr osr)
                clear r0 r1 r2 r3 r4
                go_wp2_with fail
                go_roundw
                case rel => exact ⟨0 + 1, by omega, by go_num, by rw [hstep.out], B8.out⟩
                case measure => simp [intOf]; omega
              · rw [show Pg.over xp xs aq = true from hh] at HH
                have hstep : Hid _ := hstep.out.2 hh
                clear hh
                go_wp2_with fail
                refine wp_region_quiet_below (by kernel_rfl) (by kernel_rfl) ?_
                repeat (first
                  | go_big_quiet_step ((go_at_call 44; exact Calls.regrown_of (HH _))))
                refine wpQuiet_nil ?_
                intro _ hw'
                obtain ⟨⟨dr, osr⟩, rfl⟩ := hw'
                have B8 : Hid _ := bthen B7.out (below_regrown w7 dr osr)
                clear r0 r1 r2 r3 r4
                go_wp2_with fail
                go_roundw
                case rel => exact ⟨0 + 1, by omega, by go_num, by rw [hstep.out], B8.out⟩
                case measure => simp [intOf]; omega
            · obtain ⟨i, rfl⟩ : ∃ i, j = i + 1 := ⟨j - 1, by omega⟩
              obtain ⟨g', e', _, hpm⟩ := MapsAt.below M6.out HR.out i (by omega)
              cases e'
              obtain ⟨p0, p1, p2, p3⟩ := hpm
              have hil : i < L.length := by omega
              have hup : (L.getD i .zz).p < (L.getD (i + 1) .zz).p := by
                rw [Pg.mp_at hil, Pg.mp_at hlt]
                exact (List.pairwise_iff_getElem.1 HG.out.up i (i + 1) hil hlt (by omega)).1
              have hap := HG.out.apart hil hlt (by omega)
              have HO := both_any (L.getD i .zz).p (L.getD i .zz).s (L.getD i .zz).f (L.getD i .zz).r (L.getD (i + 1) .zz).p (L.getD (i + 1) .zz).s (L.getD (i + 1) .zz).f (L.getD (i + 1) .zz).r (Pg.ok_fits (HG.out.code hil)).2.2.1 (Pg.ok_fits hcode).2.2.1
              rw [show Pg.meet (L.getD i .zz).p (L.getD i .zz).s (L.getD (i + 1) .zz).p (L.getD (i + 1) .zz).s = false from hap] at HO
              clear hap hcode
              generalize L.getD (i + 1) .zz = x at *
              generalize L.getD i .zz = y at *
              obtain ⟨xp, xs, xf, xr⟩ := x
              obtain ⟨yp, ys, yf, yr⟩ := y
              simp only at k0 k1 k2 k3 p0 p1 p2 p3 HM HH HO hup
              have u0 : (0 : Int) < ((i + 1 : Nat) : Int) := by omega
              have u1 : ((i + 1 : Nat) : Int) - 1 = (i : Int) := by omega
              have u2 : decide (xp ≤ yp) = false := by simp; omega
              have u3 : (0 : Int) ≤ (i : Int) := by omega
              have u4 : (i : Int) < (L.length : Int) := by omega
              have r0 := cell_regrown k0
              have r1 := cell_regrown k1
              have r2 := cell_regrown k2
              have r3 := cell_regrown k3
              have t0 := cell_regrown p0
              have t1 := cell_regrown p1
              have t2 := cell_regrown p2
              have t3 := cell_regrown p3
              go_wp2_with fail
              refine wp_region_quiet_below (by kernel_rfl) (by kernel_rfl) ?_
              repeat (first
                | go_big_quiet_step ((first
                  | (go_at_call 42; exact Calls.regrown_of (HM _))
                  | (go_at_call 43; exact Calls.regrown_of (HO _)))))
              refine wpQuiet_nil ?_
              intro _ hw'
              obtain ⟨⟨dq, osq⟩, rfl⟩ := hw'
              have hb7 := below_regrown wr dq osq
              have B7 : Hid _ := bthen HR.out hb7
              have k0 := cell_later hb7 k0
              have k1 := cell_later hb7 k1
              have k2 := cell_later hb7 k2
              have k3 := cell_later hb7 k3
              have a0 := cell_later hb7 a0
              clear r0 r1 r2 r3 t0 t1 t2 t3 p0 p1 p2 p3
              generalize grow (redrawn wr dq) osq = w7 at *
              have r0 := cell_regrown k0
              have r1 := cell_regrown k1
              have r2 := cell_regrown k2
              have r3 := cell_regrown k3
              have r4 := cell_regrown a0
              cases hh : (Pg.Mp.mk xp xs xf xr).has aq
              · rw [show Pg.over xp xs aq = false from hh] at HH
                have hstep : Hid _ := hstep.out.1 hh
                clear hh
                go_wp2_with fail
                refine wp_region_quiet_below (by kernel_rfl) (by kernel_rfl) ?_
                repeat (first
                  | go_big_quiet_step ((go_at_call 44; exact Calls.regrown_of (HH _))))
                refine wpQuiet_nil ?_
                intro _ hw'
                obtain ⟨⟨dr, osr⟩, rfl⟩ := hw'
                have B8 : Hid _ := bthen B7.out (below_regrown w7 dr osr)
                clear r0 r1 r2 r3 r4
                go_wp2_with fail
                go_roundw
                case rel => exact ⟨(i + 1) + 1, by omega, by go_num, by rw [hstep.out], B8.out⟩
                case measure => simp [intOf]; omega
              · rw [show Pg.over xp xs aq = true from hh] at HH
                have hstep : Hid _ := hstep.out.2 hh
                clear hh
                go_wp2_with fail
                refine wp_region_quiet_below (by kernel_rfl) (by kernel_rfl) ?_
                repeat (first
                  | go_big_quiet_step ((go_at_call 44; exact Calls.regrown_of (HH _))))
                refine wpQuiet_nil ?_
                intro _ hw'
                obtain ⟨⟨dr, osr⟩, rfl⟩ := hw'
                have B8 : Hid _ := bthen B7.out (below_regrown w7 dr osr)
                clear r0 r1 r2 r3 r4
                go_wp2_with fail
                go_roundw
                case rel => exact ⟨(i + 1) + 1, by omega, by go_num, by rw [hstep.out], B8.out⟩
                case measure => simp [intOf]; omega
          · have hje : j = L.length := by omega
            subst hje
            have i4 : ¬ (L.length : Int) < (L.length : Int) := by omega
            have K9 : Hid (Bkd wa wr b L F) := K6.out.grow HR.out
            have M9 : Hid _ := MapsAt.below M6.out HR.out
            have a0 := cell_later K9.out.bel ca0.out
            have a1 := cell_later K9.out.bel ca1.out
            have a2 := cell_later K9.out.bel ca2.out
            have hA1 : Hid (∀ j, j < L.length → Pg.fnd L aq = some j → Pg.atN L aq L.length = (j : Int)) := fun j hj h => by simp [Pg.atN, h, hj]
            have hA2 : Hid (∀ j, j < L.length → Pg.fnd L aq ≠ some j → Pg.atN L aq L.length ≠ (j : Int)) := fun j hj h e => by
              unfold Pg.atN at e
              cases hf : Pg.fnd L aq with
              | none => rw [hf] at e; simp only at e; omega
              | some k =>
                rw [hf] at e
                have hk := (Pg.fnd_some hf).1
                simp only [hk, if_true] at e
                exact h (by rw [hf]; congr 1; omega)
            have hA3 : Hid _ := Pg.atN_all (L := L) aq ak au
            have hans : Hid _ := Pg.lft2_all (L := L) aq ak au
            clear HR K6 M6
            go_wp2_with fail
            refine (dbAnswer_any aq ak au fq _ K9.out.at').mono ?_
            rintro e w8 ⟨rfl, hb8⟩
            have nZ : ¬ F w8.heap.size := fun hf => by have := (K9.out.grow hb8).at'.lt hf; omega
            have P8 : Hid (∀ o, Bkd wa (w8.alloc o) b L F) := fun o => (K9.out.grow hb8).grow (balloc (brefl _) o)
            have M8 : Hid (∀ o, MapsAt (w8.alloc o) ad6 L) := fun o => MapsAt.below (MapsAt.below M9.out hb8) (balloc (brefl _) o)
            have C8 : Hid (∀ e f r : Int, (w8.alloc (.cells #[.int .i64 e, .int .i64 f, .int .i64 r] 78)).cell? ⟨w8.heap.size, 0, none⟩ = some (.int .i64 e) ∧ (w8.alloc (.cells #[.int .i64 e, .int .i64 f, .int .i64 r] 78)).cell? ⟨w8.heap.size, 1, none⟩ = some (.int .i64 f) ∧ (w8.alloc (.cells #[.int .i64 e, .int .i64 f, .int .i64 r] 78)).cell? ⟨w8.heap.size, 2, none⟩ = some (.int .i64 r)) := fun e f r => ⟨cells_new _ _ _ _, cells_new _ _ _ _, cells_new _ _ _ _⟩
            clear hb8 K9 M9 a0 a1 a2
            generalize Pg.atN L aq L.length = A at *
            generalize Pg.ansE L aq ak au = aE at *
            generalize Pg.ansF L aq ak au = aF at *
            generalize Pg.ansR L aq ak au = aR at *
            go_wp2_with fail
            have P9 : Hid _ := P8.out (.cells #[.int .i64 aE, .int .i64 aF, .int .i64 aR] 78)
            have M9 : Hid _ := M8.out (.cells #[.int .i64 aE, .int .i64 aF, .int .i64 aR] 78)
            have C9 : Hid _ := C8.out aE aF aR
            have lZ : w8.heap.size < (w8.alloc (.cells #[.int .i64 aE, .int .i64 aF, .int .i64 aR] 78)).heap.size := by simp
            clear P8 M8 C8
            generalize w8.alloc (.cells #[.int .i64 aE, .int .i64 aF, .int .i64 aR] 78) = w9 at *
            generalize w8.heap.size = Z at *
            go_loopw [11] (fun i wr => ∃ k : Nat, k ≤ L.length ∧ i = .int .i64 k ∧ Hid (∃ F, Bkd wa wr b (Pg.lft2 L aq k) F ∧ MapsAt wr ad6 L ∧ (∀ g, ad6 = some ⟨g, 0, none⟩ → ¬ F g) ∧ ¬ F Z ∧ Z < wr.heap.size ∧ wr.cell? ⟨Z, 0, none⟩ = some (.int .i64 aE) ∧ wr.cell? ⟨Z, 1, none⟩ = some (.int .i64 aF) ∧ wr.cell? ⟨Z, 2, none⟩ = some (.int .i64 aR))) (fun i _ => L.length - (intOf i).toNat)
            case atStart => exact ⟨0, by omega, rfl, ⟨F, by rw [Pg.lft2_zero]; exact P9.out, M9.out, A6.out, nZ, lZ, C9.out⟩⟩
            case round =>
              clear P9 M9 C9 lZ nZ A6
              obtain ⟨j, hj, rfl, HR⟩ := hrel
              obtain ⟨F', KJ, MJ, AJ, nZ, lZ, z0, z1, z2⟩ := HR.out
              clear HR
              have KJ : Hid _ := KJ
              have MJ : Hid _ := MJ
              have AJ : Hid _ := AJ
              by_cases hlt : j < L.length
              · as_aux_lemma =>
                have j0 : (0 : Int) ≤ (j : Int) := by omega
                have j1 : (j : Int) < (L.length : Int) := by omega
                by_cases hf : Pg.fnd L aq = some j
                · have n1 : ((j : Int) != A) = false := by rw [hA1.out j hlt hf]; simp
                  have n2 : ((j : Int) == A) = true := by rw [hA1.out j hlt hf]; simp
                  have hs : Hid _ := Pg.lft2_stay hlt hf
                  have fin : Hid _ := And.intro z0 (And.intro z1 z2)
                  clear hf z0 z1 z2
                  go_wp2_with fail
                  go_roundw
                  case rel => exact ⟨j + 1, by omega, by go_num, ⟨F', by rw [hs.out]; exact KJ.out, MJ.out, AJ.out, nZ, lZ, fin.out⟩⟩
                  case measure => simp [intOf]; omega
                · have hne := hA2.out j hlt hf
                  have n1 : ((j : Int) != A) = true := by simpa using fun e => hne e.symm
                  have n2 : ((j : Int) == A) = false := by simpa using fun e => hne e.symm
                  have hd := Pg.lft2_drop HG.out hlt hf
                  have hfit := (Pg.ok_fits (HG.out.code hlt)).2.2.1
                  obtain ⟨g, rfl, hgl, hmm⟩ := MJ.out j hlt
                  obtain ⟨k0, k1, k2, k3⟩ := hmm
                  have HV := dbDrop_any (L.getD j .zz).p hfit wr KJ.out.at'
                  rw [hd.2] at HV
                  clear hd hne hf
                  generalize (Pg.dropM (Pg.lft2 L aq j) (L.getD j .zz).p).val = v1 at *
                  generalize Pg.dropC (Pg.lft2 L aq j) (L.getD j .zz).p = v2 at *
                  generalize L.getD j .zz = x at *
                  obtain ⟨xp, xs, xf, xr⟩ := x
                  simp only at k0 k1 k2 k3 HV
                  go_wp2_with (go_at_call 32; refine HV.mono ?_; rintro e w5 ⟨rfl, F5, h5, hb5, hF5⟩; obtain ⟨n5, l5, x5, _⟩ := Bkd.beside h5 hb5 hF5 nZ lZ; have D5 : Hid _ := KJ.out.step h5 hb5 hF5; have M5 : Hid _ := MapsAt.but MJ.out hb5 AJ.out; have A5 : Hid (∀ g', some (⟨g, 0, none⟩ : Addr) = some ⟨g', 0, none⟩ → ¬ F5 g') := (fun g' e hg' => (by cases e; rcases hF5 _ hg' with h | h; exact AJ.out g rfl h; omega)); have C5 : Hid _ := And.intro ((x5 0).trans z0) (And.intro ((x5 1).trans z1) ((x5 2).trans z2)); clear h5 hb5 hF5 x5)
                  go_roundw
                  case rel => exact ⟨j + 1, by omega, by go_num, ⟨F5, D5.out, M5.out, A5.out, n5, l5, C5.out⟩⟩
                  case measure => simp [intOf]; omega
              · have j1 : ¬ (j : Int) < (L.length : Int) := by omega
                have hje : j = L.length := by omega
                subst hje
                have a0 := cell_later KJ.out.bel ca0.out
                have a1 := cell_later KJ.out.bel ca1.out
                have a2 := cell_later KJ.out.bel ca2.out
                have HB2 : Hid (Below X w wr) := HA0.out.trans (KJ.out.bel.mono (Nat.le_of_lt lA))
                have hXr : X ≤ wr.heap.size := by have := KJ.out.bel.size; omega
                have r0 := cell_regrown a0
                have r1 := cell_regrown a1
                have r2 := cell_regrown a2
                have r3 := cell_regrown z0
                have r4 := cell_regrown z1
                have r5 := cell_regrown z2
                have HV := fun w h => dbAnswer_any (b := b) (L := Pg.lft2 L aq L.length) (F := F') aq ak au fq w h
                rw [hans.out.1, hans.out.2.1, hans.out.2.2] at HV
                have HE : Hid (∀ d os, DbAt (grow (redrawn wr d) os) b (Pg.lft2 L aq L.length) F') := fun d os => (KJ.out.grow (below_regrown _ d os)).at'
                have hA3 := hA3.out
                cases hE : (aE != 1)
                · rw [hE] at hA3
                  have hA3 : decide (0 ≤ A) = false := hA3
                  go_wp2_with fail
                  refine wp_region_quiet_below (by kernel_rfl) (by kernel_rfl) ?_
                  repeat (first
                    | go_big_quiet_step ((go_at_call 40; exact Calls.regrown_of (HV _ (HE.out _ _)))))
                  refine wpQuiet_nil ?_
                  intro _ hw'
                  obtain ⟨⟨dq, osq⟩, rfl⟩ := hw'
                  have B8 : Hid (Below X w (grow (redrawn wr dq) osq)) := HB2.out.trans ((below_regrown wr dq osq).mono hXr)
                  clear r0 r1 r2 r3 r4 r5 HE HV
                  go_wp2_with fail
                  go_ret
                  exact ⟨rfl, by rw [hXe.out]; exact B8.out⟩
                · rw [hE] at hA3
                  have hA3 : decide (0 ≤ A) = true := hA3
                  go_wp2_with fail
                  refine wp_region_quiet_below (by kernel_rfl) (by kernel_rfl) ?_
                  repeat (first
                    | go_big_quiet_step ((go_at_call 40; exact Calls.regrown_of (HV _ (HE.out _ _)))))
                  refine wpQuiet_nil ?_
                  intro _ hw'
                  obtain ⟨⟨dq, osq⟩, rfl⟩ := hw'
                  have B8 : Hid (Below X w (grow (redrawn wr dq) osq)) := HB2.out.trans ((below_regrown wr dq osq).mono hXr)
                  clear r0 r1 r2 r3 r4 r5 HE HV
                  go_wp2_with fail
                  go_ret
                  exact ⟨rfl, by rw [hXe.out]; exact B8.out⟩

set_option maxRecDepth 100000 in
theorem bookApart_lifted (os : Os) (started : os.Started) (H : Type) (enc : TypeId × Value → H) :
    ReturnsInHanded {} Try.checked os 7 .any (Rows.bookApartSpec.pre6 enc Try.prog Try.f7 Rows.bookApartRow.domain false) (Rows.bookApartSpec.post enc Try.prog Try.f7 false true false false) := by
  refine returnsInHanded_of_change (C := Try.checked) own started (by kernel_rfl) Try.func7
    (ChangeSpec.witness6 (enc := enc) (C := Try.checked) false ⟨#[], #[.slice none 0 0, .agg #[.int .i64 0, .int .i64 0, .bool false]], []⟩ 8 (by kernel_rfl) (by kernel_rfl) (by kernel_rfl) (by kernel_rfl)) ?_
  intro W base args ds gs before hval0 hW hcnd _
  have hval : ∀ (j : Nat) t v, Try.f7.params[j]? = some t → args[j]? = some v → Value.okWide Try.prog W .any base t v := hval0
  have hW' := hW
  obtain ⟨p, q, hA0, hV, rfl, hfz, hnd⟩ := hW
  have hA : DataW.TrodAll enc Try.prog W 0 (fun _ => true) true Try.f7.params.toList args.toList ds p := hA0
  rw [Try.params7] at hA hval
  obtain ⟨v0, vs0, d0, ds0, p0, q0, hargs, rfl, rfl, h0, r0⟩ := trodAll_cons hA
  obtain ⟨v1, vs1, d1, ds1, p1, q1, rfl, rfl, rfl, h1, r1⟩ := trodAll_cons r0
  obtain ⟨rfl, rfl, rfl⟩ := trodAll_nil r1
  obtain rfl : args = #[v0, v1] := by cases args; simp_all
  obtain ⟨rfl, rfl⟩ := trodVars_none hV
  obtain ⟨a0a, a0b, a0c, a0d, rfl, f0a⟩ := openBsts (hval 0 54 v0 rfl rfl) h0
  obtain ⟨a1a, a1b, a1c, rfl, f1a, f1b⟩ := openAccess (hval 1 64 v1 rfl rfl) h1
  clear hA0 hval0
  refine (bookApart_walk W a0a a0b a0c a0d f0a a1a a1b a1c f1a f1b).mono fun e W' ⟨he, bel⟩ => ?_
  subst he
  exact ⟨_, rfl, _, _, _, [], _, [], hW', trodAll_mk1 (shut_bool Try.underlying4 _), (trodAll_cons_mk (stays (by kernel_rfl) (of_decide_eq_true (by kernel_rfl)) h0 bel) (trodAll_cons_mk (stays (by kernel_rfl) (of_decide_eq_true (by kernel_rfl)) h1 bel) trodAll_mk0)), rfl, bel.frame _, fun h => by cases h⟩

theorem bookApart_over : Rows.bookApartRow.holds Try.pinned (OpenSpec.ofChange Rows.bookApartSpec) :=
  OpenClaim.holds_of_wide 7 Try.f7 rfl rfl rfl rfl rfl rfl rfl ⟨rfl, rfl, rfl, rfl, rfl⟩ rfl rfl rfl rfl rfl (by kernel_rfl) Try.func7 (by kernel_rfl)
    (of_decide_eq_true (by kernel_rfl)) (by unfold Func.isWrapper; first | (rw [if_pos (by decide +kernel)]; kernel_rfl) | (rw [if_neg (by decide +kernel)]; exact ⟨rfl, rfl⟩))
    (fun os started H enc _ => bookApart_lifted os started H enc)

theorem bookApart_proved : Rows.BookApartSaid := bookApart_over
#print axioms bookApart_proved
end Go.Proofs.Ytkcmlmofcjdgoab
