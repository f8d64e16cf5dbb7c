/-
  NO WALK EVER MEETS A TABLE THAT IS NOT IN USE, nor a word that is none: SpaceSafe is proved: of whatever steps, none comes to ErrFree, a walk's step comes to no code but that it has nothing to do or that there is no such core, and all frames but the free ones are tables of the root, each once, or go when a change is over.
  Conditions: none.
-/
import Derived.Test.YtiojflaehjbcbaeGreatDvFace
import Derived.Test.YtiojflaehjbcbaeGreatFrameB
import Derived.Test.YtiojflaehjbcbaeGreatTabN
import Derived.Test.YtiojflaehjbcbaeGreatLooseT
import Derived.Deep.Quiet
namespace Go.Proofs.YtiojflaehjbcbaeGreat
open Go.RowKit Go.Sort
set_option linter.unusedVariables false
set_option linter.unusedSimpArgs false
set_option maxRecDepth 100000
attribute [local go_sem] Loose.gent

theorem greatSteps_any (ad : Option Addr) (len cap : Nat) (k : Int) (w : World) : Calls Tryz.prog 7 #[.slice ad len cap, .int .i64 k] w fun e w' => e = .returned (.bool (decide (k < (len : Int)))) ∧ w' = w := by
  go_enter Tryz.func7, Tryz.ntmps7
  go_wp2_with fail
  go_ret
  exact ⟨rfl, rfl⟩
def Bst.sx (x : Bst) : Pg.Sx := ⟨x.kind, x.core, x.m, x.q, x.k, x.u⟩
theorem tab_apart {T : List Int} (h : T.Nodup) {j : Nat} (hj : j < T.length) : decide (T.getD j 0 ∈ T.take j) = false := by
  simp only [decide_eq_false_iff_not]
  intro hm
  obtain ⟨i, hi, e⟩ := List.mem_iff_getElem.1 hm
  rw [List.length_take] at hi
  rw [List.getElem_take] at e
  have : T.getD j 0 = T[j] := by simp [List.getD, hj]
  rw [this] at e
  have := (List.getElem_inj h).1 e
  omega

section
variable {P : World → Nat → Pg.Spc → (Nat → Prop) → Prop}
/-- A space that was made behind W, and what holds of it. -/
structure Sps (P : World → Nat → Pg.Spc → (Nat → Prop) → Prop) (W w : World) (b : Nat) (nn : Nat) : Prop where
  ex : ∃ X F L L0, Spd P W w b X F ∧ Pg.Inv X L L0 ∧ X.S.n = nn
set_option maxHeartbeats 4000000 in
theorem spaceSafe_face (H : SpFace P) (W : World) (co n : Int) (ad : Option Addr) (len cap : Nat) (q : Nat → Bst)
    (hq : ∀ j, j < len → (∃ b o, ad = some ⟨b, o, none⟩ ∧ b < W.heap.size ∧ BstAt W b (o + j * 9) (q j)) ∧ BstFits (q j)) :
    Calls Tryz.prog 4 #[.int .i64 co, .int .i64 n, .slice ad len cap] W fun e W' => e = .returned (.bool true) ∧ Below W.heap.size W W' := by
  have HQ : Hid _ := hq
  clear hq
  by_cases hl : 300 < len
  · have d1 : decide ((300 : Int) < (len : Int)) = true := by simp; omega
    go_enter Tryz.func4, Tryz.ntmps4
    go_wp2_with fail
    refine (spaceBegun_any H _).mono ?_
    rintro e w1 ⟨rfl, hb1⟩
    have HB : Hid _ := hb1
    clear hb1
    go_wp2_with fail
    refine (greatSteps_any ad len cap 300 _).mono ?_
    rintro e w2 ⟨rfl, rfl⟩
    go_wp2_with fail
    go_ret
    exact ⟨rfl, HB.out⟩
  · have d1 : decide ((300 : Int) < (len : Int)) = false := by simp; omega
    by_cases hbad : co < 1 ∨ 4 < co ∨ n < 1 ∨ 128 < n
    · go_enter Tryz.func4, Tryz.ntmps4
      go_wp2_with fail
      refine (spaceBegun_any H _).mono ?_
      rintro e w1 ⟨rfl, hb1⟩
      have HB : Hid _ := hb1
      clear hb1
      go_wp2_with fail
      refine (greatSteps_any ad len cap 300 _).mono ?_
      rintro e w2 ⟨rfl, rfl⟩
      go_wp2_with fail
      refine (H.bad co n _ hbad).mono ?_
      rintro e w3 ⟨rfl, hb3⟩
      have HB3 : Hid _ := bthen HB.out hb3
      clear hb3
      go_wp2_with fail
      go_ret
      exact ⟨rfl, bthen HB3.out (balloc (brefl _) _)⟩
    · obtain ⟨cn, rfl⟩ := Int.eq_ofNat_of_zero_le (show 0 ≤ co by omega)
      obtain ⟨nn, rfl⟩ := Int.eq_ofNat_of_zero_le (show 0 ≤ n by omega)
      have HNW := fun w => H.new cn nn w (by omega) (by omega) (by omega) (by omega)
      have HIN : Hid _ := Pg.inv_new (cores := cn) (n := nn) (by omega) (by omega) (by omega)
      have hnn : nn ≤ 128 := by omega
      go_enter Tryz.func4, Tryz.ntmps4
      go_wp2_with fail
      refine (spaceBegun_any H _).mono ?_
      rintro e w1 ⟨rfl, hb1⟩
      have HB : Hid _ := hb1
      clear hb1
      go_wp2_with fail
      refine (greatSteps_any ad len cap 300 _).mono ?_
      rintro e w2 ⟨rfl, rfl⟩
      go_wp2_with fail
      refine (HNW _).mono ?_
      rintro e w3 ⟨b, F, rfl, h3, hb3, hF3⟩
      have S3 : Spd P W w3 b (Pg.Spc.new cn nn) F := ⟨h3, bthen HB.out hb3, fun k hk => Nat.le_trans HB.out.size (hF3 k hk)⟩
      have hsn : (Pg.Spc.new cn nn).S.n = nn := by
        show (Pg.Fs.new nn).take.n = nn
        rw [Pg.takes_n]
        rfl
      obtain ⟨W4, hW4⟩ : ∃ W4, W4 = w3.alloc (.cells #[.int .i64 0, .int .i64 0] 27) := ⟨_, rfl⟩
      have hb4 : Below w3.heap.size w3 W4 := by rw [hW4]; exact balloc (brefl _) _
      have S4 : Hid (Sps P W W4 b nn) := ⟨_, _, _, _, S3.grow H hb4, HIN.out, hsn⟩
      have y0 : W4.cell? ⟨w3.heap.size, 0, none⟩ = some (.int .i64 0) := by rw [hW4]; simp [go_sem]
      clear h3 hb3 hF3 S3 hsn HB HNW HIN
      go_upto_region 6 with fail
      rw [← hW4]
      clear hW4 hb4
      go_wp2_with fail
      clear y0
      go_loopw [9, 10, 11, 12] (fun i _ _ _ wr => ∃ k : Nat, k ≤ len ∧ i = .int .i64 k ∧ Hid (Sps P W wr b nn)) (fun i _ _ _ _ => len - (intOf i).toNat)
      case atStart => exact ⟨0, by omega, rfl, S4⟩
      case round =>
        obtain ⟨k, hk, rfl, HR⟩ := hrel
        clear S4
        by_cases hlt : k < len
        · obtain ⟨X, F, L, L0, S, I, hsn⟩ := HR.out.ex
          obtain ⟨⟨xb, xo, rfl, hxl, hx⟩, hfit⟩ := HQ.out k hlt
          have i0 : (0 : Int) ≤ (k : Int) := by omega
          have i1 : (k : Int) < (len : Int) := by omega
          generalize q k = x at *
          have HD := H.step x.sx wr hfit I S.at'
          have I' := Pg.inv_step I x.sx
          have hz := Pg.go_sizes I x.sx
          have hsf := Pg.safe_code I x.sx
          have S1 : Hid _ := S
          have HI : Hid _ := I'
          have HSN : Hid ((X.goN x.sx).S.n = nn) := hz.1.trans hsn
          clear HR S I I' hz hsn hfit
          generalize hE : X.goE x.sx = E at *
          generalize hN : X.goN x.sx = X' at *
          generalize X.nxL L x.sx = L' at *
          generalize X.nxP L L0 x.sx = L0' at *
          clear hE hN
          obtain ⟨kd, cr, ⟨mp, ms, mf, mr⟩, xq, xk, xu⟩ := x
          obtain ⟨ec, en, ea, ef, er, eb⟩ := E
          obtain ⟨x0, x1, x2, x3, x4, x5, x6, x7, x8⟩ := hx
          have y0 := (S1.out.bel.cell (p := ⟨xb, xo + k * 9, none⟩) hxl).trans x0
          have y1 := (S1.out.bel.cell (p := ⟨xb, xo + k * 9 + 1, none⟩) hxl).trans x1
          have y2 := (S1.out.bel.cell (p := ⟨xb, xo + k * 9 + 2, none⟩) hxl).trans x2
          have y3 := (S1.out.bel.cell (p := ⟨xb, xo + k * 9 + 3, none⟩) hxl).trans x3
          have y4 := (S1.out.bel.cell (p := ⟨xb, xo + k * 9 + 4, none⟩) hxl).trans x4
          have y5 := (S1.out.bel.cell (p := ⟨xb, xo + k * 9 + 5, none⟩) hxl).trans x5
          have y6 := (S1.out.bel.cell (p := ⟨xb, xo + k * 9 + 6, none⟩) hxl).trans x6
          have y7 := (S1.out.bel.cell (p := ⟨xb, xo + k * 9 + 7, none⟩) hxl).trans x7
          have y8 := (S1.out.bel.cell (p := ⟨xb, xo + k * 9 + 8, none⟩) hxl).trans x8
          have HX0 : Hid (W.cell? ⟨xb, xo + k * 9, none⟩ = some (.int .i64 kd)) := x0
          simp only [Bst.sx, Pg.Sx.val, Pg.Ev.val] at HD hsf y0 y1 y2 y3 y4 y5 y6 y7 y8
          clear x0 x1 x2 x3 x4 x5 x6 x7 x8
          have hcase : (kd = 5 ∧ ec = 0) ∨ (kd = 5 ∧ ec = 9) ∨ (kd = 5 ∧ ec = 1) ∨ ((kd == 5) = false ∧ (ec == 12) = false) := by
            by_cases h5 : kd = 5
            · rcases hsf.2.2 h5 with h | h | h
              · exact .inl ⟨h5, h⟩
              · exact .inr (.inl ⟨h5, h⟩)
              · exact .inr (.inr (.inl ⟨h5, h⟩))
            · exact .inr (.inr (.inr ⟨by simpa using h5, by simp; omega⟩))
          go_wp2_with fail
          refine HD.mono ?_
          rintro e w4 ⟨rfl, F4, h4, hb4, hF4⟩
          have S4 := S1.out.step h4 hb4 hF4
          obtain ⟨W5, hW5⟩ : ∃ W5, W5 = w4.alloc (.cells #[.int .i64 ec, .bool en, .int .i64 ea, .int .i64 ef, .int .i64 er, .bool eb] 36) := ⟨_, rfl⟩
          have hb5 : Below w4.heap.size w4 W5 := by rw [hW5]; exact balloc (brefl _) _
          have S5 : Hid _ := S4.grow H hb5
          have z0 : W5.cell? ⟨w4.heap.size, 0, none⟩ = some (.int .i64 ec) := by rw [hW5]; simp [go_sem]
          have v0 := (S5.out.bel.cell (p := ⟨xb, xo + k * 9, none⟩) hxl).trans HX0.out
          clear h4 hb4 hF4 S4 hb5 y0 y1 y2 y3 y4 y5 y6 y7 y8 HD S1 hsf
          have HTB := H.tables W5 HI.out S5.out.at'
          have HT5 : Hid _ := Pg.inv_tables HI.out
          have HTE : Hid _ := Pg.Inv.tabs HI.out
          have HME : Hid _ := Pg.Inv.maps HI.out
          have HGD : Hid _ := Pg.rep_good HI.out.bas.rep
          go_upto_region 12 with fail
          rw [← hW5]
          clear hW5
          go_cut [63] from 26 to 97 (fun s63 wc => s63 = .bool false ∧ wc = W5)
          case first =>
            rcases hcase with ⟨rfl, rfl⟩ | ⟨rfl, rfl⟩ | ⟨rfl, rfl⟩ | ⟨g1, g2⟩
            all_goals
              go_wp2_with fail
              go_meet
              case rel => exact ⟨rfl, rfl⟩
          case rest =>
            obtain ⟨rfl, rfl⟩ := hcut
            clear z0 v0 hcase
            go_wp2_with fail
            refine HTB.mono ?_
            rintro e w6 ⟨ad6, cap6, rfl, ha6, hcp, hb6⟩
            have S6 : Hid _ := S5.out.grow H hb6
            have A6 : Hid (IntsAt w6 ad6 X'.tabs) := ha6
            clear ha6 hb6 S5 HTB
            go_wp2_with fail
            refine (H.gone w6 S6.out.at').mono ?_
            rintro e w7 ⟨rfl, hb7⟩
            have S7 : Hid _ := S6.out.grow H hb7
            have A7 : Hid (IntsAt w7 ad6 X'.tabs) := A6.out.below hb7
            clear hb7 S6 A6
            have hsum : ((X'.tabs.length : Int) + (X'.G.length : Int)) + X'.S.free = (nn : Int) := by
              rw [HTE.out]
              have := HT5.out.2.2.2.1
              rw [HSN.out] at this
              exact this
            have hfr := S7.out
            have hf0 : 0 ≤ X'.S.free := HI.out.bas.ok.free_bd.1
            have hnd : Hid (X'.tabs.Nodup) := by rw [Hid, HTE.out]; exact HT5.out.2.2.1
            have hnd2 : Hid (Pg.needed L' = (X'.tabs.length : Int)) := by rw [Hid, HTE.out]; exact HT5.out.2.2.2.2
            clear hfr
            have HFR := fun w' F' (h : P w' b X' F') => H.free w' h
            have HLI := fun w' F' (h : P w' b X' F') => H.list w' HI.out h
            rw [HME.out] at HLI
            have HLN : Hid (L'.length ≤ 5000) := Nat.le_trans HGD.out.len (by decide)
            generalize hfe : X'.S.free = fr at *
            generalize hge : X'.G.length = gl at *
            generalize hte : X'.tabs.length = tl at *
            have t1 : IntKind.i64.wrap ((tl : Int) + (gl : Int)) = (tl : Int) + (gl : Int) := wrap_i64_in (by omega) (by omega)
            have t2 : IntKind.i64.wrap ((tl : Int) + (gl : Int) + fr) = (nn : Int) := by rw [wrap_i64_in (by omega) (by omega)]; exact hsum
            have u1 : (((tl : Int) + (gl : Int) + fr) != (nn : Int)) = false := by rw [hsum]; simp
            have u2 : ((nn : Int) != (nn : Int)) = false := by simp
            clear hfe hge
            go_wp2_with fail
            refine (HFR w7 _ S7.out.at').mono ?_
            rintro e w8 ⟨rfl, hb8⟩
            have S8 : Hid _ := S7.out.grow H hb8
            have A8 : Hid (IntsAt w8 ad6 X'.tabs) := A7.out.below hb8
            clear hb8 S7 A7 HFR
            go_wp2_with fail
            refine (HLI w8 _ S8.out.at').mono ?_
            rintro e w9 ⟨ad9, cap9, rfl, hm9, hb9, _⟩
            have S9 : Hid _ := S8.out.grow H hb9
            have A9 : Hid (IntsAt w9 ad6 X'.tabs) := A8.out.below hb9
            have HND := needed_any (cap := cap9) HGD.out.ok w9 hm9 HLN.out
            rw [hnd2.out] at HND
            have u3 : ((tl : Int) != (tl : Int)) = false := by simp
            clear hm9 hb9 S8 A8 HLI
            go_wp2_with fail
            refine HND.mono ?_
            rintro e w10 ⟨rfl, hb10⟩
            have S10 : Hid _ := S9.out.grow H hb10
            have A10 : Hid (IntsAt w10 ad6 X'.tabs) := A9.out.below hb10
            clear hb10 S9 A9 HND
            go_wp2_with fail
            go_loopw [12] (fun i wq => ∃ t : Nat, t ≤ tl ∧ i = .int .i64 t ∧ Hid (Below w10.heap.size w10 wq)) (fun i _ => tl - (intOf i).toNat)
            case atStart => exact ⟨0, by omega, rfl, brefl _⟩
            case round =>
              obtain ⟨t, ht, rfl, HQR⟩ := hrel
              have t0 : (0 : Int) ≤ (t : Int) := by omega
              by_cases hlt2 : t < tl
              · have t1 : (t : Int) < (tl : Int) := by omega
                have AQ := A10.out.below HQR.out
                obtain ⟨g, rfl, hgl, hgc⟩ := AQ t (by omega)
                have htk : (X'.tabs.take t).length = t := by rw [List.length_take]; omega
                have HIn := fun m => in_any (cap := cap6) (X'.tabs.getD t 0) (wr.drewN m) ((A10.out.below (bthen HQR.out (below_drewN (brefl wr) m))).take t) (by omega)
                rw [tab_apart hnd.out (by omega), htk] at HIn
                have hcp' : (t : Int) ≤ (cap6 : Int) := by omega
                have fin : Hid (∀ m, Below w10.heap.size w10 (wr.drewN m)) := fun m => bthen HQR.out (below_drewN (brefl wr) m)
                generalize X'.tabs.getD t 0 = xg at *
                clear htk AQ
                go_wp2_with fail
                go_quiet (first
                  | (go_at_call 30; exact Calls.quiet_of_same (HIn _)))
                go_wp2_with fail
                exact ⟨⟨t + 1, by omega, by go_num, fin.out _⟩, by simp [intOf]; omega⟩
              · have t1 : ¬ (t : Int) < (tl : Int) := by omega
                have SN : Hid (Sps P W wr b nn) := ⟨_, _, _, _, S10.out.grow H HQR.out, HI.out, HSN.out⟩
                go_wp2_with fail
                go_roundw
                case rel => exact ⟨k + 1, by omega, by go_num, SN⟩
                case measure => simp [intOf]; omega
        · have i1 : ¬ (k : Int) < (len : Int) := by omega
          obtain ⟨X, F, L, L0, S, I, hsn⟩ := HR.out.ex
          have HB : Hid _ := S.bel
          clear S I hsn HR
          go_wp2_with fail
          go_ret
          exact ⟨rfl, HB.out⟩
end
end Go.Proofs.YtiojflaehjbcbaeGreat

namespace Go.Proofs.YtiojflaehjbcbaeGreat
open Go.ChangeShapes Go.WideShapes Go.ChangeAt Go.RowKit Go.Joins Go.Sort
set_option linter.unusedVariables false
set_option maxRecDepth 100000

theorem spaceSafe_walk (W : World) (co : Int) (hco : Pg.fits co) (n : Int) (hn : Pg.fits n) (ad : Option Addr) (len cap : Nat) (q : Nat → Bst)
    (hq : ∀ j, j < len → (∃ b o, ad = some ⟨b, o, none⟩ ∧ b < W.heap.size ∧ BstAt W b (o + j * 9) (q j)) ∧ BstFits (q j)) :
    Calls Tryz.prog 4 #[.int .i64 co, .int .i64 n, .slice ad len cap] W fun e W' => e = .returned (.bool true) ∧ Below W.heap.size W W' :=
  spaceSafe_face devFace W co n ad len cap q hq

set_option maxRecDepth 100000 in
theorem spaceSafe_lifted (os : Os) (started : os.Started) (H : Type) (enc : TypeId × Value → H) :
    ReturnsInHanded {} Tryz.checked os 4 .any (Rows.spaceSafeSpec.pre6 enc Tryz.prog Tryz.f4 Rows.spaceSafeRow.domain false) (Rows.spaceSafeSpec.post enc Tryz.prog Tryz.f4 false true false false) := by
  refine returnsInHanded_of_change (C := Tryz.checked) own started (by kernel_rfl) Tryz.func4
    (ChangeSpec.witness6 (enc := enc) (C := Tryz.checked) false ⟨#[], #[.int .i64 0, .int .i64 0, .slice none 0 0], []⟩ 8 (by kernel_rfl) (by kernel_rfl) (by kernel_rfl) (by kernel_rfl)) ?_
  intro W base args ds gs before hval0 hW hcnd _
  have hval : ∀ (j : Nat) t v, Tryz.f4.params[j]? = some t → args[j]? = some v → Value.okWide Tryz.prog W .any base t v := hval0
  have hW' := hW
  obtain ⟨p, q, hA0, hV, rfl, hfz, hnd⟩ := hW
  have hA : DataW.TrodAll enc Tryz.prog W 0 (fun _ => true) true Tryz.f4.params.toList args.toList ds p := hA0
  rw [Tryz.params4] at hA hval
  obtain ⟨v0, vs0, d0, ds0, p0, q0, hargs, rfl, rfl, h0, r0⟩ := trodAll_cons hA
  obtain ⟨v1, vs1, d1, ds1, p1, q1, rfl, rfl, rfl, h1, r1⟩ := trodAll_cons r0
  obtain ⟨v2, vs2, d2, ds2, p2, q2, rfl, rfl, rfl, h2, r2⟩ := trodAll_cons r1
  obtain ⟨rfl, rfl, rfl⟩ := trodAll_nil r2
  obtain rfl : args = #[v0, v1, v2] := by cases args; simp_all
  obtain ⟨rfl, rfl⟩ := trodVars_none hV
  obtain ⟨a0a, rfl, f0a⟩ := openInt (hval 0 3 v0 rfl rfl) h0
  obtain ⟨a1a, rfl, f1a⟩ := openInt (hval 1 3 v1 rfl rfl) h1
  obtain ⟨a2a, a2b, a2c, a2d, rfl, f2a⟩ := openBsts (hval 2 22 v2 rfl rfl) h2
  clear hA0 hval0
  refine (spaceSafe_walk W a0a f0a a1a f1a a2a a2b a2c a2d f2a).mono fun e W' ⟨he, bel⟩ => ?_
  subst he
  exact ⟨_, rfl, _, _, _, [], _, [], hW', trodAll_mk1 (shut_bool Tryz.underlying4 _), (trodAll_cons_mk (stays (by kernel_rfl) (of_decide_eq_true (by kernel_rfl)) h0 bel) (trodAll_cons_mk (stays (by kernel_rfl) (of_decide_eq_true (by kernel_rfl)) h1 bel) (trodAll_cons_mk (stays (by kernel_rfl) (of_decide_eq_true (by kernel_rfl)) h2 bel) trodAll_mk0))), rfl, bel.frame _, fun h => by cases h⟩

theorem spaceSafe_over : Rows.spaceSafeRow.holds Tryz.pinned (OpenSpec.ofChange Rows.spaceSafeSpec) :=
  OpenClaim.holds_of_wide 4 Tryz.f4 rfl rfl rfl rfl rfl rfl rfl ⟨rfl, rfl, rfl, rfl, rfl⟩ rfl rfl rfl rfl rfl (by kernel_rfl) Tryz.func4 (by kernel_rfl)
    (of_decide_eq_true (by kernel_rfl)) (by unfold Func.isWrapper; first | (rw [if_pos (by decide +kernel)]; kernel_rfl) | (rw [if_neg (by decide +kernel)]; exact ⟨rfl, rfl⟩))
    (fun os started H enc _ => spaceSafe_lifted os started H enc)

theorem spaceSafe_proved : Rows.SpaceSafeSaid := spaceSafe_over
#print axioms spaceSafe_proved
end Go.Proofs.YtiojflaehjbcbaeGreat
