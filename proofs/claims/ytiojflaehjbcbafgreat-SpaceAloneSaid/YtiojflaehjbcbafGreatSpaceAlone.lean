/-
  CORES DO NOT MATTER TO EACH OTHER: SpaceAlone is proved: if each change is looked after at once, and each access goes on to its end at once, a core's answers are the same, whatever another core does, or if it does nothing.
  Conditions: none.
-/
import Derived.Test.YtiojflaehjbcbafGreatAloneB
import Derived.Test.YtiojflaehjbcbafGreatDvG
import Derived.Test.YtiojflaehjbcbafGreatWalkI
import Derived.Deep.RegionHeld3
import Derived.Deep.CutRange
import Derived.Deep.CutBlock
import Derived.Test.YtiojflaehjbcbafGreatDvFace
namespace Go.Proofs.YtiojflaehjbcbafGreat
open Go.RowKit Go.Sort
set_option linter.unusedVariables false
set_option linter.unusedSimpArgs false
set_option maxRecDepth 100000
attribute [local go_sem] Loose.gent

section
variable {P : World → Nat → Pg.Spc → (Nat → Prop) → Prop}
theorem Bx.nine {w : World} {xb : Nat} {a c p s f r q k : Int} {u : Bool} (h : Bx w xb ⟨a, c, ⟨p, s, f, r⟩, q, k, u⟩) : w.cell? ⟨xb, 0, none⟩ = some (.int .i64 a) ∧ w.cell? ⟨xb, 1, none⟩ = some (.int .i64 c) ∧ w.cell? ⟨xb, 2, none⟩ = some (.int .i64 p) ∧ w.cell? ⟨xb, 3, none⟩ = some (.int .i64 s) ∧ w.cell? ⟨xb, 4, none⟩ = some (.int .i64 f) ∧ w.cell? ⟨xb, 5, none⟩ = some (.int .i64 r) ∧ w.cell? ⟨xb, 6, none⟩ = some (.int .i64 q) ∧ w.cell? ⟨xb, 7, none⟩ = some (.int .i64 k) ∧ w.cell? ⟨xb, 8, none⟩ = some (.bool u) := ⟨h.x0, h.x1, h.x2, h.x3, h.x4, h.x5, h.x6, h.x7, h.x8⟩
set_option maxHeartbeats 4000000 in
theorem spaceAlone_face (H : SpFace P) (W : World) (n : Int) (ad : Option Addr) (len cap : Nat) (q : Nat → Bst)
    (hq : ∀ j, j < len → (∃ b o, ad = some ⟨b, o, none⟩ ∧ b < W.heap.size ∧ BstAt W b (o + j * 9) (q j)) ∧ BstFits (q j)) :
    Calls Tryz.prog 3 #[.int .i64 n, .slice ad len cap] W fun e W' => e = .returned (.bool true) ∧ Below W.heap.size W W' := by
  have HQ : Hid _ := hq
  clear hq
  by_cases hl : 200 < len
  · have d1 : decide ((200 : Int) < (len : Int)) = true := by simp; omega
    go_enter Tryz.func3, Tryz.ntmps3
    go_wp2_with fail
    refine (spaceBegun_any H _).mono ?_
    rintro e w1 ⟨rfl, hb1⟩
    have HB : Hid _ := hb1
    clear hb1
    go_wp2_with fail
    refine (greatSteps_any ad len cap 200 _).mono ?_
    rintro e w2 ⟨rfl, rfl⟩
    go_wp2_with fail
    go_ret
    exact ⟨rfl, HB.out⟩
  · have d1 : decide ((200 : Int) < (len : Int)) = false := by simp; omega
    by_cases hbad : n < 1 ∨ 128 < n
    · go_enter Tryz.func3, Tryz.ntmps3
      go_wp2_with fail
      refine (spaceBegun_any H _).mono ?_
      rintro e w1 ⟨rfl, hb1⟩
      have HB : Hid _ := hb1
      clear hb1
      go_wp2_with fail
      refine (greatSteps_any ad len cap 200 _).mono ?_
      rintro e w2 ⟨rfl, rfl⟩
      go_wp2_with fail
      refine (H.bad 2 n _ (by omega)).mono ?_
      rintro e w3 ⟨rfl, hb3⟩
      have HB3 : Hid _ := bthen HB.out hb3
      clear hb3
      obtain ⟨W4, hW4⟩ : ∃ W4, W4 = w3.alloc (.cells #[.int .i64 1, .int .i64 (-1)] 27) := ⟨_, rfl⟩
      have hb4 : Below w3.heap.size w3 W4 := by rw [hW4]; exact balloc (brefl _) _
      have y0 : W4.cell? ⟨w3.heap.size, 0, none⟩ = some (.int .i64 1) := by rw [hW4]; simp [go_sem]
      have y1 : W4.cell? ⟨w3.heap.size, 1, none⟩ = some (.int .i64 (-1)) := by rw [hW4]; simp [go_sem]
      have hl4 : w3.heap.size < W4.heap.size := World.block_lt_of_cell? _ _ y0
      have HB4 : Hid _ := bthen HB3.out hb4
      clear hb4
      go_upto_region 6 with fail
      rw [← hW4]
      clear hW4
      go_wp2_with fail
      refine (H.bad 2 n _ (by omega)).mono ?_
      rintro e w5 ⟨rfl, hb5⟩
      have z0 := (hb5.cell (p := ⟨w3.heap.size, 0, none⟩) hl4).trans y0
      have z1 := (hb5.cell (p := ⟨w3.heap.size, 1, none⟩) hl4).trans y1
      have hl5 : w3.heap.size < w5.heap.size := World.block_lt_of_cell? _ _ z0
      have hne : w3.heap.size ≠ w5.heap.size := by omega
      have HB5 : Hid _ := bthen HB4.out hb5
      clear hb5 y0 y1
      go_wp2_with fail
      go_ret
      exact ⟨rfl, bthen HB5.out (balloc (brefl _) _)⟩
    · obtain ⟨nn, rfl⟩ := Int.eq_ofNat_of_zero_le (show 0 ≤ n by omega)
      have HNW := fun w => H.new 2 nn w (by decide) (by decide) (by omega) (by omega)
      simp only [show ((2 : Nat) : Int) = 2 from rfl] at HNW
      have HLN : Hid _ := Pg.lone_new (nn := nn) (by omega) (by omega)
      go_enter Tryz.func3, Tryz.ntmps3
      go_wp2_with fail
      refine (spaceBegun_any H _).mono ?_
      rintro e w1 ⟨rfl, hb1⟩
      have HB : Hid _ := hb1
      clear hb1
      go_wp2_with fail
      refine (greatSteps_any ad len cap 200 _).mono ?_
      rintro e w2 ⟨rfl, rfl⟩
      go_wp2_with fail
      refine (HNW _).mono ?_
      rintro e w3 ⟨b, F, rfl, h3, hb3, hF3⟩
      have S3 : Spd P W w3 b (Pg.Spc.new 2 nn) F := ⟨h3, bthen HB.out hb3, fun k hk => Nat.le_trans HB.out.size (hF3 k hk)⟩
      obtain ⟨W4, hW4⟩ : ∃ W4, W4 = w3.alloc (.cells #[.int .i64 0, .int .i64 0] 27) := ⟨_, rfl⟩
      have hb4 : Below w3.heap.size w3 W4 := by rw [hW4]; exact balloc (brefl _) _
      have S4 : Hid _ := S3.grow H hb4
      have y0 : W4.cell? ⟨w3.heap.size, 0, none⟩ = some (.int .i64 0) := by rw [hW4]; simp [go_sem]
      have hl4 : w3.heap.size < W4.heap.size := World.block_lt_of_cell? _ _ y0
      clear h3 hb3 hF3 S3 HB hb4
      go_upto_region 6 with fail
      rw [← hW4]
      clear hW4
      go_wp2_with fail
      refine (HNW _).mono ?_
      rintro e w5 ⟨b', F', rfl, h5, hb5, hF5⟩
      have z0 := (hb5.cell (p := ⟨w3.heap.size, 0, none⟩) hl4).trans y0
      have D5 : Duo P W w5 b b' (Pg.Spc.new 2 nn) (Pg.Spc.new 2 nn) F F' := ⟨S4.out.grow H hb5, ⟨h5, bthen S4.out.bel hb5, fun k hk => Nat.le_trans S4.out.bel.size (hF5 k hk)⟩, fun k hk hf => by
        have := H.lt S4.out.at' hk
        have := hF5 k hf
        omega⟩
      obtain ⟨W6, hW6⟩ : ∃ W6, W6 = w5.alloc (.cells #[.int .i64 0, .int .i64 0] 27) := ⟨_, rfl⟩
      have hb6 : Below w5.heap.size w5 W6 := by rw [hW6]; exact balloc (brefl _) _
      have T6 : Hid (Twn P W W6 b b' nn) := ⟨_, _, _, _, _, D5.grow H hb6, HLN.out, HLN.out, Pg.new_calm nn, Pg.new_calm nn⟩
      have hl5 : w3.heap.size < w5.heap.size := World.block_lt_of_cell? _ _ z0
      have v0 := (hb6.cell (p := ⟨w3.heap.size, 0, none⟩) hl5).trans z0
      have v1 : W6.cell? ⟨w5.heap.size, 0, none⟩ = some (.int .i64 0) := by rw [hW6]; simp [go_sem]
      clear h5 hb5 hF5 D5 hb6 y0 z0 S4 HNW HLN
      go_upto_region 7 with fail
      rw [← hW6]
      clear hW6
      go_wp2_with fail
      clear v0 v1 hl4 hl5
      go_loopw [9, 10, 11, 12] (fun i _ _ _ wr => ∃ k : Nat, k ≤ len ∧ i = .int .i64 k ∧ Hid (Twn P W wr b b' nn)) (fun i _ _ _ _ => len - (intOf i).toNat)
      case atStart => exact ⟨0, by omega, rfl, T6⟩
      case round =>
        obtain ⟨k, hk, rfl, HR⟩ := hrel
        clear T6
        by_cases hlt : k < len
        · obtain ⟨X, Y, F, F', L, D, l1, l2, c1, c2⟩ := HR.out.ex
          obtain ⟨⟨xb, xo, rfl, hxl, hx⟩, hfit⟩ := HQ.out k hlt
          have i0 : (0 : Int) ≤ (k : Int) := by omega
          have i1 : (k : Int) < (len : Int) := by omega
          generalize q k = x at *
          have HF : Hid (SxFits x.sx) := hfit
          have HD0 : Hid _ := D
          have HL1 : Hid _ := l1
          have HL2 : Hid _ := l2
          have HC1 : Hid _ := c1
          have HC2 : Hid _ := c2
          clear HR D l1 l2 c1 c2 hfit
          obtain ⟨kd, cr, ⟨mp, ms, mf, mr⟩, xq, xk, xu⟩ := x
          obtain ⟨x0, x1, x2, x3, x4, x5, x6, x7, x8⟩ := hx
          have y0 := (HD0.out.one.bel.cell (p := ⟨xb, xo + k * 9, none⟩) hxl).trans x0
          have y1 := (HD0.out.one.bel.cell (p := ⟨xb, xo + k * 9 + 1, none⟩) hxl).trans x1
          have y2 := (HD0.out.one.bel.cell (p := ⟨xb, xo + k * 9 + 2, none⟩) hxl).trans x2
          have y3 := (HD0.out.one.bel.cell (p := ⟨xb, xo + k * 9 + 3, none⟩) hxl).trans x3
          have y4 := (HD0.out.one.bel.cell (p := ⟨xb, xo + k * 9 + 4, none⟩) hxl).trans x4
          have y5 := (HD0.out.one.bel.cell (p := ⟨xb, xo + k * 9 + 5, none⟩) hxl).trans x5
          have y6 := (HD0.out.one.bel.cell (p := ⟨xb, xo + k * 9 + 6, none⟩) hxl).trans x6
          have y7 := (HD0.out.one.bel.cell (p := ⟨xb, xo + k * 9 + 7, none⟩) hxl).trans x7
          have y8 := (HD0.out.one.bel.cell (p := ⟨xb, xo + k * 9 + 8, none⟩) hxl).trans x8
          clear x0 x1 x2 x3 x4 x5 x6 x7 x8
          obtain ⟨W7, hW7⟩ : ∃ W7, W7 = wr.alloc (.cells #[.int .i64 kd, .int .i64 cr, .int .i64 mp, .int .i64 ms, .int .i64 mf, .int .i64 mr, .int .i64 xq, .int .i64 xk, .bool xu] 35) := ⟨_, rfl⟩
          have hb7 : Below wr.heap.size wr W7 := by rw [hW7]; exact balloc (brefl _) _
          have B7 : Bx W7 wr.heap.size ⟨kd, cr, ⟨mp, ms, mf, mr⟩, xq, xk, xu⟩ := by rw [hW7]; constructor <;> simp [go_sem]
          have D7 : Hid (Dbx P W W7 b b' X Y F F' wr.heap.size ⟨kd, cr, ⟨mp, ms, mf, mr⟩, xq, xk, xu⟩) := ⟨HD0.out.grow H hb7, B7, fun hf => by have := H.lt HD0.out.one.at' hf; omega, fun hf => by have := H.lt HD0.out.two.at' hf; omega⟩
          have z0 := B7.x0
          simp only [] at z0
          clear B7 hb7 HD0
          go_upto_region 13 with fail
          rw [← hW7]
          clear hW7 y0 y1 y2 y3 y4 y5 y6 y7 y8
          generalize wr.heap.size = bx at *
          go_upto_block 2 with fail
          go_cut [11, 12] from 38 to 115 (fun _ _ wc => Hid (Twn P W wc b b' nn))
          case first =>
            clear z0
            obtain ⟨L0, I1⟩ := HL1.out.inv
            obtain ⟨L0', I2⟩ := HL2.out.inv
            have Q1 := fun w' (h : P w' b X F) => H.step _ w' HF.out I1 h
            have Q2 := fun w' (h : P w' b' Y F') => H.step _ w' HF.out I2 h
            simp only [Bst.sx] at Q1 Q2
            clear I1 I2
            obtain ⟨z0, z1, z2, z3, z4, z5, z6, z7, z8⟩ := D7.out.box.nine
            by_cases h123 : kd = 1 ∨ kd = 2 ∨ kd = 3
            · obtain ⟨e1, e2⟩ := HL1.out.same HL2.out HC1.out HC2.out (x := ⟨kd, cr, ⟨mp, ms, mf, mr⟩, xq, xk, xu⟩) (by simp only []; omega)
              have N1 : Hid _ := HL1.out.change (x := ⟨kd, cr, ⟨mp, ms, mf, mr⟩, xq, xk, xu⟩) (by simp only []; omega)
              have N2 : Hid _ := HL2.out.change (x := ⟨kd, cr, ⟨mp, ms, mf, mr⟩, xq, xk, xu⟩) (by simp only []; omega)
              rw [← e1] at Q2
              rw [← e2] at N2
              have D8 : Hid _ := D7.out.grow H (brefl W7).drew
              generalize Pg.Spc.goE X _ = E at *
              generalize Pg.Spc.goN X _ = X1 at *
              generalize Pg.Spc.goN Y _ = Y1 at *
              generalize Pg.Spc.nxL X L _ = L1 at *
              obtain ⟨ec, en, ea, ef, er, eb⟩ := E
              simp only [Pg.Sx.val, Pg.Ev.val] at Q1 Q2
              clear e1 e2 HL1 HL2 HC1 HC2 D7 HF
              have hbx := D8.out.box.lt
              rcases h123 with rfl | rfl | rfl
              · as_aux_lemma =>
                go_upto_region 17 with fail
                go_region_held3 (fun w' => w'.cell? ⟨bx, 0, none⟩ = some (.int .i64 1) ∧ w'.cell? ⟨bx, 1, none⟩ = some (.int .i64 cr) ∧ w'.cell? ⟨bx, 2, none⟩ = some (.int .i64 mp) ∧ w'.cell? ⟨bx, 3, none⟩ = some (.int .i64 ms) ∧ w'.cell? ⟨bx, 4, none⟩ = some (.int .i64 mf) ∧ w'.cell? ⟨bx, 5, none⟩ = some (.int .i64 mr) ∧ w'.cell? ⟨bx, 6, none⟩ = some (.int .i64 xq) ∧ w'.cell? ⟨bx, 7, none⟩ = some (.int .i64 xk) ∧ w'.cell? ⟨bx, 8, none⟩ = some (.bool xu)) (go_keep) (first
                  | (go_at_call 8; refine (Q2 _ D9.out.duo.two.at').mono ?_; rintro e w9 ⟨rfl, F9, h9, hb9, hF9⟩; have D10 : Hid _ := D9.out.step' H h9 hb9 hF9; obtain ⟨r0, r1, r2, r3, r4, r5, r6, r7, r8⟩ := D10.out.box.nine; clear h9 hb9 hF9)
                  | (go_at_call 8; refine (Q1 _ D8.out.duo.one.at').mono ?_; rintro e w8 ⟨rfl, F8, h8, hb8, hF8⟩; have D9 : Hid _ := D8.out.step H h8 hb8 hF8; obtain ⟨p0, p1, p2, p3, p4, p5, p6, p7, p8⟩ := D9.out.box.nine; clear h8 hb8 hF8))
                all_goals
                  have T9 : Hid (Twk P W w9 b b' nn 0) := ⟨X1, Y1, _, _, L1, D10.out.duo, N1.out, N2.out, fun j hj => absurd hj (by omega), fun j hj => absurd hj (by omega)⟩
                  clear Q1 Q2 D8 D9 D10 N1 N2 p0 p1 p2 p3 p4 p5 p6 p7 p8 r0 r1 r2 r3 r4 r5 r6 r7 r8 z0 z1 z2 z3 z4 z5 z6 z7 z8
                  go_wp2_with fail
                  go_loopw [11] (fun i wq => ∃ t : Nat, t ≤ 2 ∧ i = .int .i64 t ∧ Hid (Twk P W wq b b' nn t)) (fun i _ => 2 - (intOf i).toNat)
                  case atStart => exact ⟨0, by omega, rfl, T9⟩
                  case round =>
                    obtain ⟨t, ht, rfl, HT⟩ := hrel
                    by_cases htl : t < 2
                    · have t1 : (t : Int) < 2 := by omega
                      obtain ⟨X2, Y2, F2, F2', L2, D2, l1, l2, g1, g2⟩ := HT.out.ex
                      obtain ⟨L0a, I1⟩ := l1.inv
                      obtain ⟨L0b, I2⟩ := l2.inv
                      have A1 := H.step (.ack t) wr ⟨zeroFits, zeroFits, zeroFits, zeroFits, zeroFits, zeroFits⟩ I1 D2.one.at'
                      have A2 := fun w' (h : P w' b' Y2 F2') => H.step (.ack t) w' ⟨zeroFits, zeroFits, zeroFits, zeroFits, zeroFits, zeroFits⟩ I2 h
                      have HD2 : Hid _ := D2
                      have TN : Hid (∀ w' Fa Fb, Duo P W w' b b' (X2.goN (.ack t)) (Y2.goN (.ack t)) Fa Fb → Twk P W w' b b' nn (t + 1)) := fun w' Fa Fb h => ⟨_, _, _, _, L2, h, l1.ack t, l2.ack t, l1.acked (by omega) g1, l2.acked (by omega) g2⟩
                      clear D2 l1 l2 g1 g2 I1 I2 HT T9
                      generalize X2.goE (.ack t) = E1 at *
                      generalize Y2.goE (.ack t) = E2 at *
                      generalize X2.goN (.ack t) = X3 at *
                      generalize Y2.goN (.ack t) = Y3 at *
                      simp only [Pg.Sx.ack, Pg.Sx.val, Pg.Mp.zz] at A1 A2
                      go_wp2_with fail
                      refine A1.mono ?_
                      rintro e w12 ⟨rfl, F3, h3, hb3, hF3⟩
                      have D3 : Hid _ := HD2.out.step H h3 hb3 hF3
                      clear h3 hb3 hF3 A1
                      go_wp2_with fail
                      refine (A2 _ D3.out.two.at').mono ?_
                      rintro e w13 ⟨rfl, F4, h4, hb4, hF4⟩
                      have TM : Hid _ := TN.out _ _ _ (D3.out.step' H h4 hb4 hF4)
                      clear h4 hb4 hF4 A2 D3 HD2 TN
                      go_wp2_with fail
                      exact ⟨⟨t + 1, by omega, by go_num, TM⟩, by simp [intOf]; omega⟩
                    · have t1 : ¬ (t : Int) < 2 := by omega
                      have et : t = 2 := by omega
                      have TF : Hid (Twn P W wr b b' nn) := by
                        have := HT.out
                        rw [et] at this
                        exact this.end'
                      clear HT T9
                      go_wp2_with fail
                      go_meet
                      case rel => exact TF
              · as_aux_lemma =>
                go_upto_region 17 with fail
                go_region_held3 (fun w' => w'.cell? ⟨bx, 0, none⟩ = some (.int .i64 2) ∧ w'.cell? ⟨bx, 1, none⟩ = some (.int .i64 cr) ∧ w'.cell? ⟨bx, 2, none⟩ = some (.int .i64 mp) ∧ w'.cell? ⟨bx, 3, none⟩ = some (.int .i64 ms) ∧ w'.cell? ⟨bx, 4, none⟩ = some (.int .i64 mf) ∧ w'.cell? ⟨bx, 5, none⟩ = some (.int .i64 mr) ∧ w'.cell? ⟨bx, 6, none⟩ = some (.int .i64 xq) ∧ w'.cell? ⟨bx, 7, none⟩ = some (.int .i64 xk) ∧ w'.cell? ⟨bx, 8, none⟩ = some (.bool xu)) (go_keep) (first
                  | (go_at_call 8; refine (Q2 _ D9.out.duo.two.at').mono ?_; rintro e w9 ⟨rfl, F9, h9, hb9, hF9⟩; have D10 : Hid _ := D9.out.step' H h9 hb9 hF9; obtain ⟨r0, r1, r2, r3, r4, r5, r6, r7, r8⟩ := D10.out.box.nine; clear h9 hb9 hF9)
                  | (go_at_call 8; refine (Q1 _ D8.out.duo.one.at').mono ?_; rintro e w8 ⟨rfl, F8, h8, hb8, hF8⟩; have D9 : Hid _ := D8.out.step H h8 hb8 hF8; obtain ⟨p0, p1, p2, p3, p4, p5, p6, p7, p8⟩ := D9.out.box.nine; clear h8 hb8 hF8))
                all_goals
                  have T9 : Hid (Twk P W w9 b b' nn 0) := ⟨X1, Y1, _, _, L1, D10.out.duo, N1.out, N2.out, fun j hj => absurd hj (by omega), fun j hj => absurd hj (by omega)⟩
                  clear Q1 Q2 D8 D9 D10 N1 N2 p0 p1 p2 p3 p4 p5 p6 p7 p8 r0 r1 r2 r3 r4 r5 r6 r7 r8 z0 z1 z2 z3 z4 z5 z6 z7 z8
                  go_wp2_with fail
                  go_loopw [11] (fun i wq => ∃ t : Nat, t ≤ 2 ∧ i = .int .i64 t ∧ Hid (Twk P W wq b b' nn t)) (fun i _ => 2 - (intOf i).toNat)
                  case atStart => exact ⟨0, by omega, rfl, T9⟩
                  case round =>
                    obtain ⟨t, ht, rfl, HT⟩ := hrel
                    by_cases htl : t < 2
                    · have t1 : (t : Int) < 2 := by omega
                      obtain ⟨X2, Y2, F2, F2', L2, D2, l1, l2, g1, g2⟩ := HT.out.ex
                      obtain ⟨L0a, I1⟩ := l1.inv
                      obtain ⟨L0b, I2⟩ := l2.inv
                      have A1 := H.step (.ack t) wr ⟨zeroFits, zeroFits, zeroFits, zeroFits, zeroFits, zeroFits⟩ I1 D2.one.at'
                      have A2 := fun w' (h : P w' b' Y2 F2') => H.step (.ack t) w' ⟨zeroFits, zeroFits, zeroFits, zeroFits, zeroFits, zeroFits⟩ I2 h
                      have HD2 : Hid _ := D2
                      have TN : Hid (∀ w' Fa Fb, Duo P W w' b b' (X2.goN (.ack t)) (Y2.goN (.ack t)) Fa Fb → Twk P W w' b b' nn (t + 1)) := fun w' Fa Fb h => ⟨_, _, _, _, L2, h, l1.ack t, l2.ack t, l1.acked (by omega) g1, l2.acked (by omega) g2⟩
                      clear D2 l1 l2 g1 g2 I1 I2 HT T9
                      generalize X2.goE (.ack t) = E1 at *
                      generalize Y2.goE (.ack t) = E2 at *
                      generalize X2.goN (.ack t) = X3 at *
                      generalize Y2.goN (.ack t) = Y3 at *
                      simp only [Pg.Sx.ack, Pg.Sx.val, Pg.Mp.zz] at A1 A2
                      go_wp2_with fail
                      refine A1.mono ?_
                      rintro e w12 ⟨rfl, F3, h3, hb3, hF3⟩
                      have D3 : Hid _ := HD2.out.step H h3 hb3 hF3
                      clear h3 hb3 hF3 A1
                      go_wp2_with fail
                      refine (A2 _ D3.out.two.at').mono ?_
                      rintro e w13 ⟨rfl, F4, h4, hb4, hF4⟩
                      have TM : Hid _ := TN.out _ _ _ (D3.out.step' H h4 hb4 hF4)
                      clear h4 hb4 hF4 A2 D3 HD2 TN
                      go_wp2_with fail
                      exact ⟨⟨t + 1, by omega, by go_num, TM⟩, by simp [intOf]; omega⟩
                    · have t1 : ¬ (t : Int) < 2 := by omega
                      have et : t = 2 := by omega
                      have TF : Hid (Twn P W wr b b' nn) := by
                        have := HT.out
                        rw [et] at this
                        exact this.end'
                      clear HT T9
                      go_wp2_with fail
                      go_meet
                      case rel => exact TF
              · as_aux_lemma =>
                go_upto_region 17 with fail
                go_region_held3 (fun w' => w'.cell? ⟨bx, 0, none⟩ = some (.int .i64 3) ∧ w'.cell? ⟨bx, 1, none⟩ = some (.int .i64 cr) ∧ w'.cell? ⟨bx, 2, none⟩ = some (.int .i64 mp) ∧ w'.cell? ⟨bx, 3, none⟩ = some (.int .i64 ms) ∧ w'.cell? ⟨bx, 4, none⟩ = some (.int .i64 mf) ∧ w'.cell? ⟨bx, 5, none⟩ = some (.int .i64 mr) ∧ w'.cell? ⟨bx, 6, none⟩ = some (.int .i64 xq) ∧ w'.cell? ⟨bx, 7, none⟩ = some (.int .i64 xk) ∧ w'.cell? ⟨bx, 8, none⟩ = some (.bool xu)) (go_keep) (first
                  | (go_at_call 8; refine (Q2 _ D9.out.duo.two.at').mono ?_; rintro e w9 ⟨rfl, F9, h9, hb9, hF9⟩; have D10 : Hid _ := D9.out.step' H h9 hb9 hF9; obtain ⟨r0, r1, r2, r3, r4, r5, r6, r7, r8⟩ := D10.out.box.nine; clear h9 hb9 hF9)
                  | (go_at_call 8; refine (Q1 _ D8.out.duo.one.at').mono ?_; rintro e w8 ⟨rfl, F8, h8, hb8, hF8⟩; have D9 : Hid _ := D8.out.step H h8 hb8 hF8; obtain ⟨p0, p1, p2, p3, p4, p5, p6, p7, p8⟩ := D9.out.box.nine; clear h8 hb8 hF8))
                all_goals
                  have T9 : Hid (Twk P W w9 b b' nn 0) := ⟨X1, Y1, _, _, L1, D10.out.duo, N1.out, N2.out, fun j hj => absurd hj (by omega), fun j hj => absurd hj (by omega)⟩
                  clear Q1 Q2 D8 D9 D10 N1 N2 p0 p1 p2 p3 p4 p5 p6 p7 p8 r0 r1 r2 r3 r4 r5 r6 r7 r8 z0 z1 z2 z3 z4 z5 z6 z7 z8
                  go_wp2_with fail
                  go_loopw [11] (fun i wq => ∃ t : Nat, t ≤ 2 ∧ i = .int .i64 t ∧ Hid (Twk P W wq b b' nn t)) (fun i _ => 2 - (intOf i).toNat)
                  case atStart => exact ⟨0, by omega, rfl, T9⟩
                  case round =>
                    obtain ⟨t, ht, rfl, HT⟩ := hrel
                    by_cases htl : t < 2
                    · have t1 : (t : Int) < 2 := by omega
                      obtain ⟨X2, Y2, F2, F2', L2, D2, l1, l2, g1, g2⟩ := HT.out.ex
                      obtain ⟨L0a, I1⟩ := l1.inv
                      obtain ⟨L0b, I2⟩ := l2.inv
                      have A1 := H.step (.ack t) wr ⟨zeroFits, zeroFits, zeroFits, zeroFits, zeroFits, zeroFits⟩ I1 D2.one.at'
                      have A2 := fun w' (h : P w' b' Y2 F2') => H.step (.ack t) w' ⟨zeroFits, zeroFits, zeroFits, zeroFits, zeroFits, zeroFits⟩ I2 h
                      have HD2 : Hid _ := D2
                      have TN : Hid (∀ w' Fa Fb, Duo P W w' b b' (X2.goN (.ack t)) (Y2.goN (.ack t)) Fa Fb → Twk P W w' b b' nn (t + 1)) := fun w' Fa Fb h => ⟨_, _, _, _, L2, h, l1.ack t, l2.ack t, l1.acked (by omega) g1, l2.acked (by omega) g2⟩
                      clear D2 l1 l2 g1 g2 I1 I2 HT T9
                      generalize X2.goE (.ack t) = E1 at *
                      generalize Y2.goE (.ack t) = E2 at *
                      generalize X2.goN (.ack t) = X3 at *
                      generalize Y2.goN (.ack t) = Y3 at *
                      simp only [Pg.Sx.ack, Pg.Sx.val, Pg.Mp.zz] at A1 A2
                      go_wp2_with fail
                      refine A1.mono ?_
                      rintro e w12 ⟨rfl, F3, h3, hb3, hF3⟩
                      have D3 : Hid _ := HD2.out.step H h3 hb3 hF3
                      clear h3 hb3 hF3 A1
                      go_wp2_with fail
                      refine (A2 _ D3.out.two.at').mono ?_
                      rintro e w13 ⟨rfl, F4, h4, hb4, hF4⟩
                      have TM : Hid _ := TN.out _ _ _ (D3.out.step' H h4 hb4 hF4)
                      clear h4 hb4 hF4 A2 D3 HD2 TN
                      go_wp2_with fail
                      exact ⟨⟨t + 1, by omega, by go_num, TM⟩, by simp [intOf]; omega⟩
                    · have t1 : ¬ (t : Int) < 2 := by omega
                      have et : t = 2 := by omega
                      have TF : Hid (Twn P W wr b b' nn) := by
                        have := HT.out
                        rw [et] at this
                        exact this.end'
                      clear HT T9
                      go_wp2_with fail
                      go_meet
                      case rel => exact TF
            · have n1 : (kd == 1) = false := by rw [beq_eq_false_iff_ne]; omega
              have n2 : (kd == 2) = false := by rw [beq_eq_false_iff_ne]; omega
              have n3 : (kd == 3) = false := by rw [beq_eq_false_iff_ne]; omega
              clear h123
              by_cases h4 : kd = 4
              · as_aux_lemma =>
                subst h4
                clear n1 n2 n3 Q1 Q2
                have WH1 := fun w' (h : P w' b X F) => whole_any H ⟨4, cr, ⟨mp, ms, mf, mr⟩, xq, xk, xu⟩ rfl HF.out HL1.out HC1.out w' h
                have WH2 := fun w' (h : P w' b' Y F') => whole_any H ⟨4, cr, ⟨mp, ms, mf, mr⟩, xq, xk, xu⟩ rfl HF.out HL2.out HC2.out w' h
                simp only [Pg.Sx.val] at WH1 WH2
                go_upto_region 25 with fail
                go_wp2_with fail
                refine (WH1 _ D7.out.duo.one.at').mono ?_
                rintro e w8 ⟨E, rfl, hE, hW⟩
                obtain ⟨X2, F2, h2, hb2, hF2, l2', c2'⟩ := hW.ex
                have D8 : Hid _ := D7.out.step H h2 hb2 hF2
                have HE : Hid _ := hE
                have HL3 : Hid _ := l2'
                have HC3 : Hid _ := c2'
                clear h2 hb2 hF2 l2' c2' hW hE WH1 D7 HL1 HC1 z0 z1 z2 z3 z4 z5 z6 z7 z8
                obtain ⟨ec, en, ea, ef, er, eb⟩ := E
                simp only [Pg.Ev.val]
                obtain ⟨W9, hW9⟩ : ∃ W9, W9 = w8.alloc (.cells #[.int .i64 ec, .bool en, .int .i64 ea, .int .i64 ef, .int .i64 er, .bool eb] 39) := ⟨_, rfl⟩
                have hb9 : Below w8.heap.size w8 W9 := by rw [hW9]; exact balloc (brefl _) _
                obtain ⟨⟨v0, v1, v2, v3, v4, v5⟩, vf⟩ := row6a (show W9.heap[w8.heap.size]? = some (.cells #[.int .i64 ec, .bool en, .int .i64 ea, .int .i64 ef, .int .i64 er, .bool eb] 39 (0, 0)) by rw [hW9]; exact heap_alloc_new _ _)
                have D9 : Hid _ := D8.out.grow H hb9
                have nev : ¬ F' w8.heap.size := fun hf => by have := H.lt D8.out.duo.two.at' hf; omega
                go_upto_region 26 with fail
                rw [← hW9]
                clear hW9 hb9 D8
                generalize w8.heap.size = evb at *
                have hev : evb < W9.heap.size := World.block_lt_of_cell? _ _ v0
                obtain ⟨z0, z1, z2, z3, z4, z5, z6, z7, z8⟩ := D9.out.box.nine
                have hbx := D9.out.box.lt
                by_cases hc1 : cr = 1
                · have m1 : (cr != 1) = false := by simpa using hc1
                  clear hc1
                  have FIN : Hid (∀ w', Below W9.heap.size W9 w' → Twn P W w' b b' nn) := fun w' hb => ⟨_, _, _, _, _, (D9.out.grow H hb).duo, HL3.out, HL2.out, HC3.out, HC2.out⟩
                  go_quiet (fail)
                  go_wp2_with fail
                  go_meet
                  case rel => exact FIN.out _ (by first | exact brefl _ | exact (brefl _).drew | exact below_drewN (brefl _) _)
                · have m1 : (cr != 1) = true := by simpa using hc1
                  clear hc1
                  have D9d : Hid _ := D9.out.grow H (brefl W9).drew
                  go_region_held3 (fun w' => (w'.cell? ⟨bx, 0, none⟩ = some (.int .i64 4) ∧ w'.cell? ⟨bx, 1, none⟩ = some (.int .i64 cr) ∧ w'.cell? ⟨bx, 2, none⟩ = some (.int .i64 mp) ∧ w'.cell? ⟨bx, 3, none⟩ = some (.int .i64 ms) ∧ w'.cell? ⟨bx, 4, none⟩ = some (.int .i64 mf) ∧ w'.cell? ⟨bx, 5, none⟩ = some (.int .i64 mr) ∧ w'.cell? ⟨bx, 6, none⟩ = some (.int .i64 xq) ∧ w'.cell? ⟨bx, 7, none⟩ = some (.int .i64 xk) ∧ w'.cell? ⟨bx, 8, none⟩ = some (.bool xu)) ∧ w'.cell? ⟨evb, 0, none⟩ = some (.int .i64 ec) ∧ w'.cell? ⟨evb, 1, none⟩ = some (.bool en) ∧ w'.cell? ⟨evb, 2, none⟩ = some (.int .i64 ea) ∧ w'.cell? ⟨evb, 3, none⟩ = some (.int .i64 ef) ∧ w'.cell? ⟨evb, 4, none⟩ = some (.int .i64 er) ∧ w'.cell? ⟨evb, 5, none⟩ = some (.bool eb)) (go_keep) (
                    (go_at_call 9; refine (WH2 _ D9d.out.duo.two.at').mono ?_; rintro e w10 ⟨E', rfl, hE', hW'⟩
                     obtain ⟨Y2, F3, h3, hb3, hF3, l3, c3⟩ := hW'.ex
                     have eE := Pg.wend_same hE' HE.out
                     subst eE
                     simp only [Pg.Ev.val]
                     have D10 : Hid _ := D9d.out.step' H h3 hb3 hF3
                     have HL4 : Hid _ := l3
                     have HC4 : Hid _ := c3
                     obtain ⟨p0, p1, p2, p3, p4, p5, p6, p7, p8⟩ := D10.out.box.nine
                     have u0 := but_cell2 hb3 (below_drew1 W9) hev nev v0
                     have u1 := but_cell2 hb3 (below_drew1 W9) hev nev v1
                     have u2 := but_cell2 hb3 (below_drew1 W9) hev nev v2
                     have u3 := but_cell2 hb3 (below_drew1 W9) hev nev v3
                     have u4 := but_cell2 hb3 (below_drew1 W9) hev nev v4
                     have u5 := but_cell2 hb3 (below_drew1 W9) hev nev v5
                     clear h3 hb3 hF3 l3 c3 hE' hW'))
                  all_goals
                    have FIN : Hid (Twn P W w10 b b' nn) := ⟨_, _, _, _, _, D10.out.duo, HL3.out, HL4.out, HC3.out, HC4.out⟩
                    clear D9 D9d D10 HL3 HL4 HC3 HC4 u0 u1 u2 u3 u4 u5 p0 p1 p2 p3 p4 p5 p6 p7 p8 v0 v1 v2 v3 v4 v5 vf z0 z1 z2 z3 z4 z5 z6 z7 z8
                    go_wp2_with fail
                    go_meet
                    case rel => exact FIN
              · have n4 : (kd == 4) = false := by rw [beq_eq_false_iff_ne]; omega
                clear h4
                by_cases h7 : kd = 7
                · as_aux_lemma =>
                  subst h7
                  clear n1 n2 n3 n4
                  obtain ⟨a1, a2⟩ := HL1.out.evict (x := ⟨7, cr, ⟨mp, ms, mf, mr⟩, xq, xk, xu⟩) rfl
                  obtain ⟨a3, a4⟩ := HL2.out.evict (x := ⟨7, cr, ⟨mp, ms, mf, mr⟩, xq, xk, xu⟩) rfl
                  rw [HC1.out] at a2
                  rw [HC2.out] at a4
                  have A1 : Hid _ := a1
                  have A2 : Hid _ := a2
                  have A3 : Hid _ := a3
                  have A4 : Hid _ := a4
                  clear a1 a2 a3 a4
                  generalize Pg.Spc.goE X _ = E at *
                  generalize Pg.Spc.goE Y _ = E' at *
                  generalize Pg.Spc.goN X _ = X1 at *
                  generalize Pg.Spc.goN Y _ = Y1 at *
                  simp only [Pg.Sx.val] at Q1 Q2
                  by_cases hc1 : cr = 1
                  · have m1 : (cr != 1) = false := by simpa using hc1
                    clear hc1
                    go_wp2_with fail
                    refine (Q1 _ D7.out.duo.one.at').mono ?_
                    rintro e w8 ⟨rfl, F8, h8, hb8, hF8⟩
                    have D8 : Hid _ := D7.out.step H h8 hb8 hF8
                    obtain ⟨p0, p1, p2, p3, p4, p5, p6, p7, p8⟩ := D8.out.box.nine
                    clear h8 hb8 hF8 z0 z1 z2 z3 z4 z5 z6 z7 z8 D7 Q1 Q2
                    go_wp2_with fail
                    go_meet
                    case rel => exact ⟨_, _, _, _, _, D8.out.duo, A1.out, HL2.out, A2.out, HC2.out⟩
                  · have m1 : (cr != 1) = true := by simpa using hc1
                    clear hc1
                    go_wp2_with fail
                    refine (Q1 _ D7.out.duo.one.at').mono ?_
                    rintro e w8 ⟨rfl, F8, h8, hb8, hF8⟩
                    have D8 : Hid _ := D7.out.step H h8 hb8 hF8
                    obtain ⟨p0, p1, p2, p3, p4, p5, p6, p7, p8⟩ := D8.out.box.nine
                    clear h8 hb8 hF8 z0 z1 z2 z3 z4 z5 z6 z7 z8 D7 Q1
                    go_wp2_with fail
                    refine (Q2 _ D8.out.duo.two.at').mono ?_
                    rintro e w9 ⟨rfl, F9, h9, hb9, hF9⟩
                    have D9 : Hid _ := D8.out.step' H h9 hb9 hF9
                    clear h9 hb9 hF9 p0 p1 p2 p3 p4 p5 p6 p7 p8 D8 Q2
                    go_wp2_with fail
                    go_meet
                    case rel => exact ⟨_, _, _, _, _, D9.out.duo, A1.out, A3.out, A2.out, A4.out⟩
                · as_aux_lemma =>
                  have n7 : (kd == 7) = false := by rw [beq_eq_false_iff_ne]; omega
                  clear h7 Q1 Q2
                  go_wp2_with fail
                  go_meet
                  case rel => exact ⟨_, _, _, _, _, D7.out.duo, HL1.out, HL2.out, HC1.out, HC2.out⟩
          case rest =>
            clear z0 D7 HL1 HL2 HC1 HC2 HF
            obtain ⟨X, Y, F, F', L, D, l1, l2, c1, c2⟩ := hcut.out.ex
            obtain ⟨L0, I1⟩ := l1.inv
            obtain ⟨L0', I2⟩ := l2.inv
            have HLI1 := fun w' (h : P w' b X F) => H.list w' I1 h
            have HLI2 := fun w' (h : P w' b' Y F') => H.list w' I2 h
            rw [I1.maps] at HLI1
            rw [I2.maps] at HLI2
            have HFR1 := fun w' (h : P w' b X F) => H.free w' h
            have HFR2 := fun w' (h : P w' b' Y F') => H.free w' h
            rw [← l1.free l2 c1 c2] at HFR2
            have HBZ := fun w' (h : P w' b X F) => H.busy w' h
            rw [c1] at HBZ
            have HLN : Hid (L.length ≤ 5000) := Nat.le_trans (Pg.rep_good I1.bas.rep).len (by decide)
            have D0 : Hid _ := D
            have TW : Hid (∀ w', Duo P W w' b b' X Y F F' → Twn P W w' b b' nn) := fun w' h => ⟨_, _, _, _, _, h, l1, l2, c1, c2⟩
            clear D l1 l2 c1 c2 I1 I2 hcut
            generalize X.S.free = fr at *
            have u1 : (fr != fr) = false := by simp
            go_wp2_with fail
            refine (HLI1 _ D0.out.one.at').mono ?_
            rintro e w8 ⟨ad8, cap8, rfl, m8, hb8, _⟩
            have D8 : Hid _ := D0.out.grow H hb8
            have M8 : Hid (MapsAt w8 ad8 L) := m8
            clear m8 hb8 D0 HLI1
            go_wp2_with fail
            refine (HLI2 _ D8.out.two.at').mono ?_
            rintro e w9 ⟨ad9, cap9, rfl, m9, hb9, _⟩
            have D9 : Hid _ := D8.out.grow H hb9
            have HSM := sameMapsW (cap := cap8) (cap' := cap9) w9 (M8.out.below hb9) m9 HLN.out
            clear m9 hb9 D8 HLI2 M8
            go_wp2_with fail
            refine HSM.mono ?_
            rintro e w10 ⟨rfl, hb10⟩
            have D10 : Hid _ := D9.out.grow H hb10
            clear hb10 D9 HSM
            go_wp2_with fail
            refine (HFR1 _ D10.out.one.at').mono ?_
            rintro e w11 ⟨rfl, hb11⟩
            have D11 : Hid _ := D10.out.grow H hb11
            clear hb11 D10 HFR1
            go_wp2_with fail
            refine (HFR2 _ D11.out.two.at').mono ?_
            rintro e w12 ⟨rfl, hb12⟩
            have D12 : Hid _ := D11.out.grow H hb12
            clear hb12 D11 HFR2
            go_wp2_with fail
            refine (HBZ _ D12.out.one.at').mono ?_
            rintro e w13 ⟨rfl, hb13⟩
            have T13 : Hid _ := TW.out _ (D12.out.grow H hb13)
            clear hb13 D12 HBZ TW
            go_wp2_with fail
            go_roundw
            case rel => exact ⟨k + 1, by omega, by go_num, T13⟩
            case measure => simp [intOf]; omega
        · have i1 : ¬ (k : Int) < (len : Int) := by omega
          obtain ⟨X, Y, F, F', L, D, r⟩ := HR.out.ex
          have HB : Hid _ := D.one.bel
          clear D r HR
          go_wp2_with fail
          go_ret
          exact ⟨rfl, HB.out⟩
end
end Go.Proofs.YtiojflaehjbcbafGreat

namespace Go.Proofs.YtiojflaehjbcbafGreat
open Go.ChangeShapes Go.WideShapes Go.ChangeAt Go.RowKit Go.Joins Go.Sort
set_option linter.unusedVariables false
set_option maxRecDepth 100000

theorem spaceAlone_walk (W : World) (n : Int) (hn : Pg.fits n) (ad : Option Addr) (len cap : Nat) (q : Nat → Bst)
    (hq : ∀ j, j < len → (∃ b o, ad = some ⟨b, o, none⟩ ∧ b < W.heap.size ∧ BstAt W b (o + j * 9) (q j)) ∧ BstFits (q j)) :
    Calls Tryz.prog 3 #[.int .i64 n, .slice ad len cap] W fun e W' => e = .returned (.bool true) ∧ Below W.heap.size W W' :=
  spaceAlone_face devFace W n ad len cap q hq

set_option maxRecDepth 100000 in
theorem spaceAlone_lifted (os : Os) (started : os.Started) (H : Type) (enc : TypeId × Value → H) :
    ReturnsInHanded {} Tryz.checked os 3 .any (Rows.spaceAloneSpec.pre6 enc Tryz.prog Tryz.f3 Rows.spaceAloneRow.domain false) (Rows.spaceAloneSpec.post enc Tryz.prog Tryz.f3 false true false false) := by
  refine returnsInHanded_of_change (C := Tryz.checked) own started (by kernel_rfl) Tryz.func3
    (ChangeSpec.witness6 (enc := enc) (C := Tryz.checked) false ⟨#[], #[.int .i64 0, .slice none 0 0], []⟩ 8 (by kernel_rfl) (by kernel_rfl) (by kernel_rfl) (by kernel_rfl)) ?_
  intro W base args ds gs before hval0 hW hcnd _
  have hval : ∀ (j : Nat) t v, Tryz.f3.params[j]? = some t → args[j]? = some v → Value.okWide Tryz.prog W .any base t v := hval0
  have hW' := hW
  obtain ⟨p, q, hA0, hV, rfl, hfz, hnd⟩ := hW
  have hA : DataW.TrodAll enc Tryz.prog W 0 (fun _ => true) true Tryz.f3.params.toList args.toList ds p := hA0
  rw [Tryz.params3] at hA hval
  obtain ⟨v0, vs0, d0, ds0, p0, q0, hargs, rfl, rfl, h0, r0⟩ := trodAll_cons hA
  obtain ⟨v1, vs1, d1, ds1, p1, q1, rfl, rfl, rfl, h1, r1⟩ := trodAll_cons r0
  obtain ⟨rfl, rfl, rfl⟩ := trodAll_nil r1
  obtain rfl : args = #[v0, v1] := by cases args; simp_all
  obtain ⟨rfl, rfl⟩ := trodVars_none hV
  obtain ⟨a0a, rfl, f0a⟩ := openInt (hval 0 3 v0 rfl rfl) h0
  obtain ⟨a1a, a1b, a1c, a1d, rfl, f1a⟩ := openBsts (hval 1 22 v1 rfl rfl) h1
  clear hA0 hval0
  refine (spaceAlone_walk W a0a f0a a1a a1b a1c a1d f1a).mono fun e W' ⟨he, bel⟩ => ?_
  subst he
  exact ⟨_, rfl, _, _, _, [], _, [], hW', trodAll_mk1 (shut_bool Tryz.underlying4 _), (trodAll_cons_mk (stays (by kernel_rfl) (of_decide_eq_true (by kernel_rfl)) h0 bel) (trodAll_cons_mk (stays (by kernel_rfl) (of_decide_eq_true (by kernel_rfl)) h1 bel) trodAll_mk0)), rfl, bel.frame _, fun h => by cases h⟩

theorem spaceAlone_over : Rows.spaceAloneRow.holds Tryz.pinned (OpenSpec.ofChange Rows.spaceAloneSpec) :=
  OpenClaim.holds_of_wide 3 Tryz.f3 rfl rfl rfl rfl rfl rfl rfl ⟨rfl, rfl, rfl, rfl, rfl⟩ rfl rfl rfl rfl rfl (by kernel_rfl) Tryz.func3 (by kernel_rfl)
    (of_decide_eq_true (by kernel_rfl)) (by unfold Func.isWrapper; first | (rw [if_pos (by decide +kernel)]; kernel_rfl) | (rw [if_neg (by decide +kernel)]; exact ⟨rfl, rfl⟩))
    (fun os started H enc _ => spaceAlone_lifted os started H enc)

theorem spaceAlone_proved : Rows.SpaceAloneSaid := spaceAlone_over
#print axioms spaceAlone_proved
end Go.Proofs.YtiojflaehjbcbafGreat
