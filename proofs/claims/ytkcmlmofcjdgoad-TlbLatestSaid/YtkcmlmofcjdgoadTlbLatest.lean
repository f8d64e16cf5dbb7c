
/-
  TlbLatest is true for every argument: a line that was put is found by each of its pages, till something that meets it is put or dropped, or as many others were put as may be kept.
-/
import Derived.Test.YtkcmlmofcjdgoadTlbKept
import Derived.Test.YtkcmlmofcjdgoadPlainLB
import Derived.Deep.DeepCutAuto
namespace Go.Proofs.Ytkcmlmofcjdgoad
open Go.ChangeShapes Go.WideShapes Go.ChangeAt Go.RowKit Go.Joins Go.Sort
set_option maxRecDepth 100000
set_option linter.unusedVariables false

/-- Kept lines, with the mapping m in the block M beside. -/
structure Tbm (w0 w : World) (b M : Nat) (m : Pg.Mp) (L : List Pg.Ln) (F : Nat → Prop) : Prop where
  db : Tbd w0 w b L F
  ms : MpAt w M 0 m
  nF : ¬ F M
namespace Tbm
variable {w0 w w' : World} {b M : Nat} {m : Pg.Mp} {L L' : List Pg.Ln} {F F' : Nat → Prop}
theorem ml (h : Tbm w0 w b M m L F) : M < w.heap.size := World.block_lt_of_cell? _ _ h.ms.1
theorem grow (h : Tbm w0 w b M m L F) (hb : Below w.heap.size w w') : Tbm w0 w' b M m L F :=
  ⟨h.db.grow hb, h.ms.below hb h.ml, h.nF⟩
theorem left (h : Tbm w0 w b M m L F) (h1 : TbAt w' b 0 L' F') (hb : But F w w') (hF : ∀ k, F' k → F k ∨ w.heap.size ≤ k) : Tbm w0 w' b M m L' F' :=
  ⟨h.db.step h1 hb hF, ⟨(hb.cell (a := ⟨M, 0, none⟩) h.ml h.nF).trans h.ms.1, (hb.cell (a := ⟨M, 0 + 1, none⟩) h.ml h.nF).trans h.ms.2.1, (hb.cell (a := ⟨M, 0 + 2, none⟩) h.ml h.nF).trans h.ms.2.2.1, (hb.cell (a := ⟨M, 0 + 3, none⟩) h.ml h.nF).trans h.ms.2.2.2⟩, fun hf => (hF M hf).elim h.nF (fun hs => by have := h.ml; omega)⟩
theorem cells (h : Tbm w0 w b M m L F) : w.cell? ⟨M, 0, none⟩ = some (.int .i64 m.p) ∧ w.cell? ⟨M, 1, none⟩ = some (.int .i64 m.s) ∧ w.cell? ⟨M, 2, none⟩ = some (.int .i64 m.f) ∧ w.cell? ⟨M, 3, none⟩ = some (.int .i64 m.r) := by
  obtain ⟨h0, h1, h2, h3⟩ := h.ms
  simp only [Nat.zero_add] at h1 h2 h3
  exact ⟨h0, h1, h2, h3⟩
end Tbm

set_option maxRecDepth 100000 in
set_option maxHeartbeats 40000000 in
theorem tlbLatest_walk (w : World) (ad : Option Addr) (len cap : Nat) (q : Nat → Lst)
    (hq : ∀ j, j < len → (∃ b o, ad = some ⟨b, o, none⟩ ∧ b < w.heap.size ∧ LstAt w b (o + j * 6) (q j)) ∧ LstFits (q j))
    (np ns nf nr : Int) (g0 : Pg.fits np) (g1 : Pg.fits ns) (g2 : Pg.fits nf) (g3 : Pg.fits nr) (p : Int) (gp : Pg.fits p) :
    Calls Try.prog 5 #[.slice ad len cap, .agg #[.int .i64 np, .int .i64 ns, .int .i64 nf, .int .i64 nr], .int .i64 p] w fun e w' => e = .returned (.bool true) ∧ Below w.heap.size w w' := by
  have HQ : Hid _ := hq
  clear hq
  by_cases hl : 300 < len
  · have hl' : (300 : Int) < (len : Int) := by omega
    go_enter Try.func5, Try.ntmps5
    go_wp2_with fail
    refine (tlbBegun_any _).mono ?_
    rintro e w1 ⟨rfl, hb1⟩
    have HB1 : Hid (Below w.heap.size w w1) := bthen (balloc (brefl _) _) hb1
    clear hb1
    go_wp2_with fail
    go_ret
    exact ⟨rfl, HB1.out⟩
  · have hl' : decide ((300 : Int) < (len : Int)) = false := by simp; omega
    have HM := mapFault_any np ns nf nr
    by_cases hc : Pg.check np ns nf nr = 0
    · rw [hc] at HM
      have HH := refHas_any np ns nf nr p g0 gp
      cases ho : Pg.over np ns p
      · rw [ho] at HH
        go_enter Try.func5, Try.ntmps5
        go_wp2_with fail
        refine (tlbBegun_any _).mono ?_
        rintro e w1 ⟨rfl, hb1⟩
        have hx1 : ∀ o, w1.cell? ⟨w.heap.size, o, none⟩ = _ := fun o => hb1.cell (p := ⟨w.heap.size, o, none⟩) (by simp)
        have HB1 : Hid (Below w.heap.size w w1) := bthen (balloc (brefl _) _) hb1
        have m0 : w1.cell? ⟨w.heap.size, 0, none⟩ = some (.int .i64 np) := (hx1 0).trans (by simp [go_sem])
        have m1 : w1.cell? ⟨w.heap.size, 1, none⟩ = some (.int .i64 ns) := (hx1 1).trans (by simp [go_sem])
        have m2 : w1.cell? ⟨w.heap.size, 2, none⟩ = some (.int .i64 nf) := (hx1 2).trans (by simp [go_sem])
        have m3 : w1.cell? ⟨w.heap.size, 3, none⟩ = some (.int .i64 nr) := (hx1 3).trans (by simp [go_sem])
        clear hb1 hx1
        go_wp2_with fail
        refine (HM _).mono ?_
        rintro e w2 ⟨rfl, hb2⟩
        have HB2 : Hid (Below w.heap.size w w2) := bthen HB1.out hb2
        have m0 := cell_later hb2 m0
        have m1 := cell_later hb2 m1
        have m2 := cell_later hb2 m2
        have m3 := cell_later hb2 m3
        clear hb2 HB1
        go_wp2_with fail
        refine (HH _).mono ?_
        rintro e w3 ⟨rfl, hb3⟩
        have HB3 : Hid (Below w.heap.size w w3) := bthen HB2.out hb3
        clear hb3 HB2 m0 m1 m2 m3
        go_wp2_with fail
        go_ret
        exact ⟨rfl, HB3.out⟩
      · rw [ho] at HH
        go_enter Try.func5, Try.ntmps5
        go_wp2_with fail
        refine (tlbBegun_any _).mono ?_
        rintro e w1 ⟨rfl, hb1⟩
        have hx1 : ∀ o, w1.cell? ⟨w.heap.size, o, none⟩ = _ := fun o => hb1.cell (p := ⟨w.heap.size, o, none⟩) (by simp)
        have hs1 : w.heap.size < w1.heap.size := by have := hb1.size; simp at this; omega
        have HB1 : Hid (Below w.heap.size w w1) := bthen (balloc (brefl _) _) hb1
        have m0 : w1.cell? ⟨w.heap.size, 0, none⟩ = some (.int .i64 np) := (hx1 0).trans (by simp [go_sem])
        have m1 : w1.cell? ⟨w.heap.size, 1, none⟩ = some (.int .i64 ns) := (hx1 1).trans (by simp [go_sem])
        have m2 : w1.cell? ⟨w.heap.size, 2, none⟩ = some (.int .i64 nf) := (hx1 2).trans (by simp [go_sem])
        have m3 : w1.cell? ⟨w.heap.size, 3, none⟩ = some (.int .i64 nr) := (hx1 3).trans (by simp [go_sem])
        clear hb1 hx1
        go_wp2_with fail
        refine (HM _).mono ?_
        rintro e w2 ⟨rfl, hb2⟩
        have HB2 : Hid (Below w.heap.size w w2) := bthen HB1.out hb2
        have m0 := cell_later hb2 m0
        have m1 := cell_later hb2 m1
        have m2 := cell_later hb2 m2
        have m3 := cell_later hb2 m3
        have hs2 := Nat.lt_of_lt_of_le hs1 hb2.size
        clear hb2 HB1 HM hs1
        go_wp2_with fail
        refine (HH _).mono ?_
        rintro e w3 ⟨rfl, hb3⟩
        have HB3 : Hid (Below w.heap.size w w3) := bthen HB2.out hb3
        have m0 := cell_later hb3 m0
        have m1 := cell_later hb3 m1
        have m2 := cell_later hb3 m2
        have m3 := cell_later hb3 m3
        have hs3 := Nat.lt_of_lt_of_le hs2 hb3.size
        clear hb3 HB2 HH hs2
        go_wp2_with fail
        refine (tbNew_any _).mono ?_
        rintro e w4 ⟨b, F, rfl, h4, hb4, hF4⟩
        have k4 : Hid (Tbm w w4 b w.heap.size ⟨np, ns, nf, nr⟩ [] F) := ⟨⟨h4, bthen HB3.out hb4, fun k hk => by have := hF4 k hk; omega⟩, ⟨cell_later hb4 m0, cell_later hb4 m1, cell_later hb4 m2, cell_later hb4 m3⟩, fun hf => by have := hF4 _ hf; omega⟩
        clear h4 hb4 hF4 HB3 m0 m1 m2 m3 hs3
        have hMw : Hid (w.heap.size = w.heap.size) := rfl
        obtain ⟨M, hM⟩ : ∃ M, w.heap.size = M := ⟨_, rfl⟩
        rw [hM] at k4 ⊢
        clear hM hMw
        obtain ⟨m0, m1, m2, m3⟩ := k4.out.cells
        simp only at m0 m1 m2 m3
        have HE := tbPut_any ⟨⟨np, ns, nf, nr⟩, true⟩ g0 _ k4.out.db.at'
        have hcode : ((Pg.Mp.mk np ns nf nr).code == 0) = true := by
          have : (Pg.Mp.mk np ns nf nr).code = 0 := hc
          simp [this]
        have hput : Pg.kPut [] ⟨⟨np, ns, nf, nr⟩, true⟩ = [⟨⟨np, ns, nf, nr⟩, true⟩] := by
          rw [Pg.kPut_yes (show (Pg.Mp.mk np ns nf nr).code = 0 from hc)]
          rfl
        rw [hput] at HE
        simp only [Pg.Ln.val, hcode] at HE
        have HO : Hid ((Pg.Ln.mk ⟨np, ns, nf, nr⟩ true).m.has p = true) := ho
        clear hput hcode
        go_wp2_with fail
        refine HE.mono ?_
        rintro e w5 ⟨rfl, F5, h5, hb5, hF5⟩
        have P5 : Hid _ := k4.out.left h5 hb5.but hF5
        clear h5 hb5 hF5 k4 HE m0 m1 m2 m3
        go_wp2_with fail
        go_loopw [8, 9, 10, 11, 12] (fun s8 s9 _ _ _ wr => ∃ k n : Nat, k ≤ len ∧ n ≤ 5 ∧ s8 = .int .i64 n ∧ s9 = .int .i64 k ∧ Hid (∃ post F, post.length ≤ n ∧ Tbm w wr b M ⟨np, ns, nf, nr⟩ (⟨⟨np, ns, nf, nr⟩, true⟩ :: post) F)) (fun _ s9 _ _ _ _ => len - (intOf s9).toNat)
        case atStart => exact ⟨0, 0, by omega, by omega, rfl, rfl, ⟨[], _, by simp, P5.out⟩⟩
        case round =>
          obtain ⟨k, n, hk, hn, rfl, rfl, HR⟩ := hrel
          obtain ⟨post, F, hpost, HB⟩ := HR.out
          clear HR P5
          have HB : Hid _ := HB
          have HL : Hid _ := hpost
          clear hpost
          by_cases hlt : k < len
          · obtain ⟨⟨xb, xo, rfl, hxl, hx⟩, hfit⟩ := HQ.out k hlt
            have i0 : (0 : Int) ≤ (k : Int) := by omega
            have i1 : (k : Int) < (len : Int) := by omega
            generalize q k = x at *
            obtain ⟨xa, xk, ⟨mp, ms, mf, mr⟩⟩ := x
            obtain ⟨x0, x1, x2, x3, x4, x5⟩ := hx
            have hxl' : xb < w.heap.size := hxl
            have y0 := (HB.out.db.bel.cell (p := ⟨xb, xo + k * 6, none⟩) hxl').trans x0
            have y1 := (HB.out.db.bel.cell (p := ⟨xb, xo + k * 6 + 1, none⟩) hxl').trans x1
            have y2 := (HB.out.db.bel.cell (p := ⟨xb, xo + k * 6 + 2, none⟩) hxl').trans x2
            have y3 := (HB.out.db.bel.cell (p := ⟨xb, xo + k * 6 + 3, none⟩) hxl').trans x3
            have y4 := (HB.out.db.bel.cell (p := ⟨xb, xo + k * 6 + 4, none⟩) hxl').trans x4
            have y5 := (HB.out.db.bel.cell (p := ⟨xb, xo + k * 6 + 5, none⟩) hxl').trans x5
            simp only at y0 y1 y2 y3 y4 y5
            obtain ⟨f0, f1⟩ := hfit
            simp only at f0 f1
            clear x0 x1 x2 x3 x4 x5 HQ
            obtain ⟨m0, m1, m2, m3⟩ := HB.out.cells
            simp only at m0 m1 m2 m3
            have lM := HB.out.ml
            have HX : Hid (Tbm w (wr.alloc (.cells #[.int .i64 xa, .int .i64 xk, .int .i64 mp, .int .i64 ms, .int .i64 mf, .int .i64 mr] 36)) b M ⟨np, ns, nf, nr⟩ (⟨⟨np, ns, nf, nr⟩, true⟩ :: post) F) := HB.out.grow (balloc (brefl _) _)
            by_cases ha : 1 < xa
            · have d1 : decide (1 < xa) = true := by simpa using ha
              clear ha
              go_wp2_with fail
              go_ret
              exact ⟨rfl, HX.out.db.bel⟩
            · have d1 : decide (1 < xa) = false := by simpa using ha
              clear ha
              have HC := both_any mp ms mf mr np ns nf nr f1 g0
              have hme : Pg.meet mp ms np ns = (Pg.Mp.mk np ns nf nr).meets ⟨mp, ms, mf, mr⟩ := Pg.Mp.meets_comm ⟨mp, ms, mf, mr⟩ ⟨np, ns, nf, nr⟩
              rw [hme] at HC
              clear hme
              cases hmt : (Pg.Mp.mk np ns nf nr).meets ⟨mp, ms, mf, mr⟩
              · rw [hmt] at HC
                have HMT : Hid _ := hmt
                clear hmt
                have s6 : wr.heap.size < wr.heap.size + 1 := by omega
                go_wp2_with fail
                refine (HC _).mono ?_
                rintro e w5 ⟨rfl, hb5⟩
                have P5 : Hid _ := HX.out.grow hb5
                have hz : ∀ o, w5.cell? ⟨wr.heap.size, o, none⟩ = _ := fun o => hb5.cell (p := ⟨wr.heap.size, o, none⟩) (by simp)
                have z0 : w5.cell? ⟨wr.heap.size, 0, none⟩ = some (.int .i64 xa) := (hz 0).trans (by simp [go_sem])
                have z2 : w5.cell? ⟨wr.heap.size, 2, none⟩ = some (.int .i64 mp) := (hz 2).trans (by simp [go_sem])
                have z3 : w5.cell? ⟨wr.heap.size, 3, none⟩ = some (.int .i64 ms) := (hz 3).trans (by simp [go_sem])
                have z4 : w5.cell? ⟨wr.heap.size, 4, none⟩ = some (.int .i64 mf) := (hz 4).trans (by simp [go_sem])
                have z5 : w5.cell? ⟨wr.heap.size, 5, none⟩ = some (.int .i64 mr) := (hz 5).trans (by simp [go_sem])
                clear hb5 hz HC m0 m1 m2 m3 y0 y1 y2 y3 y4 y5 HX HB lM s6
                by_cases h0 : xa = 0
                · have n0 : (xa == 0) = true := by simpa using h0
                  clear h0
                  have HPut := tbPut_any ⟨⟨mp, ms, mf, mr⟩, false⟩ f1 _ P5.out.db.at'
                  simp only [Pg.Ln.val] at HPut
                  cases hcx : ((Pg.Mp.mk mp ms mf mr).code == 0)
                  · have hcn : (Pg.Mp.mk mp ms mf mr).code ≠ 0 := by simpa using hcx
                    rw [Pg.kPut_no (l := ⟨⟨mp, ms, mf, mr⟩, false⟩) hcn, hcx] at HPut
                    clear hcn hcx
                    have d6 : decide ((6 : Int) ≤ (n : Int)) = false := by simp; omega
                    go_wp2_with fail
                    refine HPut.mono ?_
                    rintro e w6 ⟨rfl, F6, h6, hb6, hF6⟩
                    have P6 : Hid _ := P5.out.left h6 hb6.but hF6
                    clear h6 hb6 hF6 HPut z0 z2 z3 z4 z5 P5
                    have e0 := P6.out.cells
                    simp only at e0
                    obtain ⟨e0, e1, e2, e3⟩ := e0
                    have HE := tbFind_any p gp _ P6.out.db.at'
                    rw [(Pg.latest_find HO.out).1, (Pg.latest_find HO.out).2] at HE
                    simp only [Pg.Ln.val, Option.isSome] at HE
                    go_wp2_with fail
                    refine HE.mono ?_
                    rintro e w7 ⟨rfl, hb7⟩
                    have e0 := cell_later hb7 e0
                    have e1 := cell_later hb7 e1
                    have e2 := cell_later hb7 e2
                    have e3 := cell_later hb7 e3
                    have P7 : Hid _ := (P6.out.grow hb7).grow (balloc (brefl w7) (.cells #[.int .i64 np, .int .i64 ns, .int .i64 nf, .int .i64 nr, .bool true] 39))
                    have lM7 : M < w7.heap.size := Nat.lt_of_lt_of_le P6.out.ml hb7.size
                    clear hb7 HE
                    go_wp2_with fail
                    go_roundw
                    case rel => exact ⟨k + 1, n, by omega, by omega, rfl, by go_num, ⟨_, _, HL.out, P7.out⟩⟩
                    case measure => simp [intOf]; omega
                  · rw [hcx] at HPut
                    by_cases h5 : n = 5
                    · subst h5
                      clear hcx
                      go_wp2_with fail
                      refine HPut.mono ?_
                      rintro e w6 ⟨rfl, F6, h6, hb6, hF6⟩
                      have P6 : Hid _ := P5.out.left h6 hb6.but hF6
                      clear h6 hb6 hF6 HPut z0 z2 z3 z4 z5 P5
                      go_wp2_with fail
                      go_ret
                      exact ⟨rfl, P6.out.db.bel⟩
                    · obtain ⟨post', hp1, hp2⟩ := Pg.latest_put (l0 := ⟨⟨np, ns, nf, nr⟩, true⟩) (x := ⟨⟨mp, ms, mf, mr⟩, false⟩) (post := post) HMT.out (by have := HL.out; omega)
                      rw [hp1] at HPut
                      have HL2 : Hid (post'.length ≤ n + 1) := by have := HL.out; show post'.length ≤ n + 1; omega
                      clear hp1 hp2 hcx
                      have d6 : decide ((6 : Int) ≤ (n : Int) + 1) = false := by simp; omega
                      go_wp2_with fail
                      refine HPut.mono ?_
                      rintro e w6 ⟨rfl, F6, h6, hb6, hF6⟩
                      have P6 : Hid _ := P5.out.left h6 hb6.but hF6
                      clear h6 hb6 hF6 HPut z0 z2 z3 z4 z5 P5
                      have e0 := P6.out.cells
                      simp only at e0
                      obtain ⟨e0, e1, e2, e3⟩ := e0
                      have HE := tbFind_any p gp _ P6.out.db.at'
                      rw [(Pg.latest_find HO.out).1, (Pg.latest_find HO.out).2] at HE
                      simp only [Pg.Ln.val, Option.isSome] at HE
                      go_wp2_with fail
                      refine HE.mono ?_
                      rintro e w7 ⟨rfl, hb7⟩
                      have e0 := cell_later hb7 e0
                      have e1 := cell_later hb7 e1
                      have e2 := cell_later hb7 e2
                      have e3 := cell_later hb7 e3
                      have P7 : Hid _ := (P6.out.grow hb7).grow (balloc (brefl w7) (.cells #[.int .i64 np, .int .i64 ns, .int .i64 nf, .int .i64 nr, .bool true] 39))
                      have lM7 : M < w7.heap.size := Nat.lt_of_lt_of_le P6.out.ml hb7.size
                      clear hb7 HE
                      go_wp2_with fail
                      go_roundw
                      case rel => exact ⟨k + 1, n + 1, by omega, by omega, by go_num, by go_num, ⟨_, _, HL2.out, P7.out⟩⟩
                      case measure => simp [intOf]; omega
                · have n0 : (xa == 0) = false := by simpa using h0
                  clear h0
                  have HDr := tbDrop_any ⟨mp, ms, mf, mr⟩ f1 _ P5.out.db.at'
                  rw [Pg.kDrop_head (l0 := ⟨⟨np, ns, nf, nr⟩, true⟩) HMT.out] at HDr
                  simp only [Pg.Mp.val] at HDr
                  have HL2 : Hid ((Pg.kDrop post ⟨mp, ms, mf, mr⟩).length ≤ n) := Nat.le_trans (Pg.kDrop_len _ _) HL.out
                  generalize Pg.kDrop post ⟨mp, ms, mf, mr⟩ = post' at *
                  have d6 : decide ((6 : Int) ≤ (n : Int)) = false := by simp; omega
                  generalize (((Pg.Ln.mk ⟨np, ns, nf, nr⟩ true :: post).length : Int) - ((Pg.Ln.mk ⟨np, ns, nf, nr⟩ true :: post').length : Int)) = dd at HDr
                  go_wp2_with fail
                  refine HDr.mono ?_
                  rintro e w6 ⟨rfl, F6, h6, hb6, hF6⟩
                  have P6 : Hid _ := P5.out.left h6 hb6.but hF6
                  clear h6 hb6 hF6 HDr z0 z2 z3 z4 z5 P5
                  have e0 := P6.out.cells
                  simp only at e0
                  obtain ⟨e0, e1, e2, e3⟩ := e0
                  have HE := tbFind_any p gp _ P6.out.db.at'
                  rw [(Pg.latest_find HO.out).1, (Pg.latest_find HO.out).2] at HE
                  simp only [Pg.Ln.val, Option.isSome] at HE
                  go_wp2_with fail
                  refine HE.mono ?_
                  rintro e w7 ⟨rfl, hb7⟩
                  have e0 := cell_later hb7 e0
                  have e1 := cell_later hb7 e1
                  have e2 := cell_later hb7 e2
                  have e3 := cell_later hb7 e3
                  have P7 : Hid _ := (P6.out.grow hb7).grow (balloc (brefl w7) (.cells #[.int .i64 np, .int .i64 ns, .int .i64 nf, .int .i64 nr, .bool true] 39))
                  have lM7 : M < w7.heap.size := Nat.lt_of_lt_of_le P6.out.ml hb7.size
                  clear hb7 HE
                  go_wp2_with fail
                  go_roundw
                  case rel => exact ⟨k + 1, n, by omega, by omega, rfl, by go_num, ⟨_, _, HL2.out, P7.out⟩⟩
                  case measure => simp [intOf]; omega
              · rw [hmt] at HC
                clear hmt
                go_wp2_with fail
                refine (HC _).mono ?_
                rintro e w5 ⟨rfl, hb5⟩
                have P5 : Hid _ := HX.out.grow hb5
                clear hb5 HC
                go_wp2_with fail
                go_ret
                exact ⟨rfl, P5.out.db.bel⟩
          · have i1 : ¬ (k : Int) < (len : Int) := by omega
            have HF : Hid _ := HB.out.db.bel
            clear HQ
            go_wp2_with fail
            go_ret
            exact ⟨rfl, HF.out⟩
    · have hne : (Pg.check np ns nf nr != 0) = true := by simpa using hc
      clear hc
      generalize Pg.check np ns nf nr = cc at *
      go_enter Try.func5, Try.ntmps5
      go_wp2_with fail
      refine (tlbBegun_any _).mono ?_
      rintro e w1 ⟨rfl, hb1⟩
      have hx1 : ∀ o, w1.cell? ⟨w.heap.size, o, none⟩ = _ := fun o => hb1.cell (p := ⟨w.heap.size, o, none⟩) (by simp)
      have HB1 : Hid (Below w.heap.size w w1) := bthen (balloc (brefl _) _) hb1
      have m0 : w1.cell? ⟨w.heap.size, 0, none⟩ = some (.int .i64 np) := (hx1 0).trans (by simp [go_sem])
      have m1 : w1.cell? ⟨w.heap.size, 1, none⟩ = some (.int .i64 ns) := (hx1 1).trans (by simp [go_sem])
      have m2 : w1.cell? ⟨w.heap.size, 2, none⟩ = some (.int .i64 nf) := (hx1 2).trans (by simp [go_sem])
      have m3 : w1.cell? ⟨w.heap.size, 3, none⟩ = some (.int .i64 nr) := (hx1 3).trans (by simp [go_sem])
      clear hb1 hx1
      go_wp2_with fail
      refine (HM _).mono ?_
      rintro e w2 ⟨rfl, hb2⟩
      have HB2 : Hid (Below w.heap.size w w2) := bthen HB1.out hb2
      clear hb2 HB1 m0 m1 m2 m3
      go_wp2_with fail
      go_ret
      exact ⟨rfl, HB2.out⟩

set_option maxRecDepth 100000 in
theorem tlbLatest_lifted (os : Os) (started : os.Started) (H : Type) (enc : TypeId × Value → H) :
    ReturnsInHanded {} Try.checked os 5 .any (Rows.tlbLatestSpec.pre6 enc Try.prog Try.f5 Rows.tlbLatestRow.domain false) (Rows.tlbLatestSpec.post enc Try.prog Try.f5 false true false false) := by
  refine returnsInHanded_of_change (C := Try.checked) own started (by kernel_rfl) Try.func5
    (ChangeSpec.witness6 (enc := enc) (C := Try.checked) false ⟨#[], #[.slice none 0 0, .agg #[.int .i64 0, .int .i64 0, .int .i64 0, .int .i64 0], .int .i64 0], []⟩ 8 (by kernel_rfl) (by kernel_rfl) (by kernel_rfl) (by kernel_rfl)) ?_
  intro W base args ds gs before hval0 hW hcnd _
  have hval : ∀ (j : Nat) t v, Try.f5.params[j]? = some t → args[j]? = some v → Value.okWide Try.prog W .any base t v := hval0
  have hW' := hW
  obtain ⟨p, q, hA0, hV, rfl, hfz, hnd⟩ := hW
  have hA : DataW.TrodAll enc Try.prog W 0 (fun _ => true) true Try.f5.params.toList args.toList ds p := hA0
  rw [Try.params5] at hA hval
  obtain ⟨v0, vs0, d0, ds0, p0, q0, hargs, rfl, rfl, h0, r0⟩ := trodAll_cons hA
  obtain ⟨v1, vs1, d1, ds1, p1, q1, rfl, rfl, rfl, h1, r1⟩ := trodAll_cons r0
  obtain ⟨v2, vs2, d2, ds2, p2, q2, rfl, rfl, rfl, h2, r2⟩ := trodAll_cons r1
  obtain ⟨rfl, rfl, rfl⟩ := trodAll_nil r2
  obtain rfl : args = #[v0, v1, v2] := by cases args; simp_all
  obtain ⟨rfl, rfl⟩ := trodVars_none hV
  obtain ⟨a0a, a0b, a0c, a0d, rfl, f0a⟩ := openLsts (hval 0 22 v0 rfl rfl) h0
  obtain ⟨a1a, a1b, a1c, a1d, rfl, f1a, f1b, f1c, f1d⟩ := openMap (hval 1 34 v1 rfl rfl) h1
  obtain ⟨a2a, rfl, f2a⟩ := openInt (hval 2 3 v2 rfl rfl) h2
  clear hA0 hval0
  refine (tlbLatest_walk W a0a a0b a0c a0d f0a a1a a1b a1c a1d f1a f1b f1c f1d a2a f2a).mono fun e W' ⟨he, bel⟩ => ?_
  subst he
  exact ⟨_, rfl, _, _, _, [], _, [], hW', trodAll_mk1 (shut_bool Try.underlying4 _), (trodAll_cons_mk (stays (by kernel_rfl) (of_decide_eq_true (by kernel_rfl)) h0 bel) (trodAll_cons_mk (stays (by kernel_rfl) (of_decide_eq_true (by kernel_rfl)) h1 bel) (trodAll_cons_mk (stays (by kernel_rfl) (of_decide_eq_true (by kernel_rfl)) h2 bel) trodAll_mk0))), rfl, bel.frame _, fun h => by cases h⟩

theorem tlbLatest_over : Rows.tlbLatestRow.holds Try.pinned (OpenSpec.ofChange Rows.tlbLatestSpec) :=
  OpenClaim.holds_of_wide 5 Try.f5 rfl rfl rfl rfl rfl rfl rfl ⟨rfl, rfl, rfl, rfl, rfl⟩ rfl rfl rfl rfl rfl (by kernel_rfl) Try.func5 (by kernel_rfl)
    (of_decide_eq_true (by kernel_rfl)) (by unfold Func.isWrapper; first | (rw [if_pos (by decide +kernel)]; kernel_rfl) | (rw [if_neg (by decide +kernel)]; exact ⟨rfl, rfl⟩))
    (fun os started H enc _ => tlbLatest_lifted os started H enc)

theorem tlbLatest_proved : Rows.TlbLatestSaid := tlbLatest_over
#print axioms tlbLatest_proved
end Go.Proofs.Ytkcmlmofcjdgoad
