/-
  WHAT WAS WRITTEN IS DIRTY: SpaceDirty is proved: behind a Write that was Done the entry of its page is Dirty and Used, till it is unmapped; what was done in another way is Used.
  Conditions: none.
-/
import Derived.Test.YtiojflaehjbcbaeGreatDirtyA
import Derived.Test.YtiojflaehjbcbaeGreatDvL
import Derived.Test.YtiojflaehjbcbaeGreatPageRef
import Derived.Deep.AppendLies
import Derived.Deep.CutRange
import Derived.Test.YtiojflaehjbcbaeGreatDvFace
namespace Go.Proofs.YtiojflaehjbcbaeGreat
open Go.RowKit Go.Sort
set_option linter.unusedVariables false
set_option linter.unusedSimpArgs false
set_option maxRecDepth 100000
attribute [local go_sem] Loose.gent

theorem bst_later {W w' : World} {xb o : Nat} {x : Bst} (h : BstAt W xb o x) (hl : xb < W.heap.size) (hb : Below W.heap.size W w') : BstAt w' xb o x := by
  obtain ⟨x0, x1, x2, x3, x4, x5, x6, x7, x8⟩ := h
  exact ⟨(hb.cell (p := ⟨xb, _, none⟩) hl).trans x0, (hb.cell (p := ⟨xb, _, none⟩) hl).trans x1, (hb.cell (p := ⟨xb, _, none⟩) hl).trans x2, (hb.cell (p := ⟨xb, _, none⟩) hl).trans x3, (hb.cell (p := ⟨xb, _, none⟩) hl).trans x4, (hb.cell (p := ⟨xb, _, none⟩) hl).trans x5, (hb.cell (p := ⟨xb, _, none⟩) hl).trans x6, (hb.cell (p := ⟨xb, _, none⟩) hl).trans x7, (hb.cell (p := ⟨xb, _, none⟩) hl).trans x8⟩
section
variable {P : World → Nat → Pg.Spc → (Nat → Prop) → Prop}
/-- A space that was made behind W, and a row of what was written: it lies apart. -/
structure Spw (P : World → Nat → Pg.Spc → (Nat → Prop) → Prop) (W w : World) (b : Nat) (ad : Option Addr) (n cap k : Nat) : Prop where
  ex : ∃ X F L L0 Wt, Spd P W w b X F ∧ Pg.Inv X L L0 ∧ Pg.Wrt X Wt ∧ w.ownsRow W.heap.size 3 1 (.slice ad n cap) n (ints Wt) ∧ (∀ g, (Value.slice ad n cap).ownBlock = some g → ¬ F g) ∧ Wt.length = n ∧ n ≤ k
set_option maxHeartbeats 4000000 in
theorem spaceDirty_face (H : SpFace P) (M : SpMore P) (W : World) (co n : Int) (ad : Option Addr) (len cap : Nat) (q : Nat → Bst)
    (hq : ∀ j, j < len → (∃ b o, ad = some ⟨b, o, none⟩ ∧ b < W.heap.size ∧ BstAt W b (o + j * 9) (q j)) ∧ BstFits (q j)) :
    Calls Tryz.prog 5 #[.int .i64 co, .int .i64 n, .slice ad len cap] W fun e W' => e = .returned (.bool true) ∧ Below W.heap.size W W' := by
  have HQ : Hid _ := hq
  clear hq
  by_cases hl : 300 < len
  · have d1 : decide ((300 : Int) < (len : Int)) = true := by simp; omega
    go_enter Tryz.func5, Tryz.ntmps5
    go_wp2_with fail
    refine (spaceBegun_any H _).mono ?_
    rintro e w1 ⟨rfl, hb1⟩
    have HB : Hid _ := hb1
    clear hb1
    go_wp2_with fail
    refine (greatSteps_any ad len cap 300 _).mono ?_
    rintro e w2 ⟨rfl, rfl⟩
    go_wp2_with fail
    go_ret
    exact ⟨rfl, HB.out⟩
  · have d1 : decide ((300 : Int) < (len : Int)) = false := by simp; omega
    by_cases hbad : co < 1 ∨ 4 < co ∨ n < 1 ∨ 128 < n
    · go_enter Tryz.func5, Tryz.ntmps5
      go_wp2_with fail
      refine (spaceBegun_any H _).mono ?_
      rintro e w1 ⟨rfl, hb1⟩
      have HB : Hid _ := hb1
      clear hb1
      go_wp2_with fail
      refine (greatSteps_any ad len cap 300 _).mono ?_
      rintro e w2 ⟨rfl, rfl⟩
      go_wp2_with fail
      refine (H.bad co n _ hbad).mono ?_
      rintro e w3 ⟨rfl, hb3⟩
      have HB3 : Hid _ := bthen HB.out hb3
      clear hb3
      go_wp2_with fail
      go_ret
      exact ⟨rfl, bthen HB3.out (balloc (brefl _) _)⟩
    · obtain ⟨cn, rfl⟩ := Int.eq_ofNat_of_zero_le (show 0 ≤ co by omega)
      obtain ⟨nn, rfl⟩ := Int.eq_ofNat_of_zero_le (show 0 ≤ n by omega)
      have HNW := fun w => H.new cn nn w (by omega) (by omega) (by omega) (by omega)
      have HIN : Hid _ := Pg.inv_new (cores := cn) (n := nn) (by omega) (by omega) (by omega)
      have hnn : nn ≤ 128 := by omega
      go_enter Tryz.func5, Tryz.ntmps5
      go_wp2_with fail
      refine (spaceBegun_any H _).mono ?_
      rintro e w1 ⟨rfl, hb1⟩
      have HB : Hid _ := hb1
      clear hb1
      go_wp2_with fail
      refine (greatSteps_any ad len cap 300 _).mono ?_
      rintro e w2 ⟨rfl, rfl⟩
      go_wp2_with fail
      refine (HNW _).mono ?_
      rintro e w3 ⟨b, F, rfl, h3, hb3, hF3⟩
      have S3 : Spd P W w3 b (Pg.Spc.new cn nn) F := ⟨h3, bthen HB.out hb3, fun k hk => Nat.le_trans HB.out.size (hF3 k hk)⟩
      obtain ⟨W4, hW4⟩ : ∃ W4, W4 = w3.alloc (.cells #[.int .i64 0, .int .i64 0] 27) := ⟨_, rfl⟩
      have hb4 : Below w3.heap.size w3 W4 := by rw [hW4]; exact balloc (brefl _) _
      have S4 : Hid (Spw P W W4 b none 0 0 0) := ⟨_, _, _, _, [], S3.grow H hb4, HIN.out, fun q hq => by simp at hq, World.ownsRow_nil _ _ _ _, fun g e => by simp [Value.ownBlock] at e, rfl, Nat.le_refl _⟩
      have y0 : W4.cell? ⟨w3.heap.size, 0, none⟩ = some (.int .i64 0) := by rw [hW4]; simp [go_sem]
      clear h3 hb3 hF3 S3 HB HNW HIN
      go_upto_region 6 with fail
      rw [← hW4]
      clear hW4 hb4
      go_wp2_with fail
      clear y0
      go_loopw [9, 10, 11, 12, 13, 14, 15, 16, 17, 18, 19, 20, 21, 22, 23, 24, 25] (fun v i _ _ _ _ _ _ _ _ _ _ _ _ _ _ _ wr => ∃ (k : Nat) (wa : Option Addr) (wn wc : Nat), k ≤ len ∧ i = .int .i64 k ∧ v = .slice wa wn wc ∧ Hid (Spw P W wr b wa wn wc k)) (fun _ i _ _ _ _ _ _ _ _ _ _ _ _ _ _ _ _ => len - (intOf i).toNat)
      case atStart => exact ⟨0, none, 0, 0, by omega, rfl, rfl, S4⟩
      case round =>
        obtain ⟨k, wa, wn, wcp, hk, rfl, rfl, HR⟩ := hrel
        clear S4
        by_cases hlt : k < len
        · obtain ⟨X, F, L, L0, Wt, S, I, hwt, hown, hnf, hwl, hwk⟩ := HR.out.ex
          obtain ⟨⟨xb, xo, rfl, hxl, hx⟩, hfit⟩ := HQ.out k hlt
          have i0 : (0 : Int) ≤ (k : Int) := by omega
          have i1 : (k : Int) < (len : Int) := by omega
          generalize q k = x at *
          have HXC : Hid (∀ w', Below W.heap.size W w' → BstAt w' xb (xo + k * 9) x) := fun w' hb => bst_later hx hxl hb
          clear hx HR
          have HON := M.on x.core wr S.at'
          have HF1 := fun w' (h : P w' b X F) => M.find x.m.p w' h
          have HD := fun w' (h : P w' b X F) => H.step x.sx w' hfit I h
          have HI : Hid _ := Pg.inv_step I x.sx
          have HDD : Hid _ := Pg.dirty_done I x.sx
          have HST : Hid _ := Pg.Wrt.stay I hwt x.sx
          have HLF : Hid _ := Pg.Wrt.left I hwt x.sx
          have HUF : Hid (x.kind = 2 → (X.goE x.sx).c = 0 → Pg.tFC X.S 0 x.m.p = 0) := fun h1 h2 => Pg.unmap_found (x := x.sx) h1 h2
          have HMF : Hid (Pg.fits (Pg.tFM X.S 0 x.m.p).p) := Pg.fm_fits X.S x.m.p
          have HWF : Hid (∀ y, y ∈ Wt → Pg.fits y) := fun y hy => by have := Pg.below_iff.1 (hwt y hy).1; unfold Pg.fits; omega
          have HAQ : Hid (X.accQ x.sx = if x.kind = 4 then x.q else (X.walkOf x.core).q) := rfl
          have HAK : Hid (X.accK x.sx = if x.kind = 4 then x.k else (X.walkOf x.core).k) := rfl
          have HS : Hid _ := S
          have HOW : Hid (wr.ownsRow W.heap.size 3 1 (.slice wa wn wcp) wn (ints Wt)) := hown
          have HNF : Hid _ := hnf
          have HWL : Hid (Wt.length = wn) := hwl
          obtain ⟨y0, y1, y2, y3, y4, y5, y6, y7, y8⟩ := HXC.out wr S.bel
          clear S I hwt hown hnf hwl hfit
          obtain ⟨kd, cr, ⟨mp, ms, mf, mr⟩, xq, xk, xu⟩ := x
          have hxe : Bst.sx ⟨kd, cr, ⟨mp, ms, mf, mr⟩, xq, xk, xu⟩ = ⟨kd, cr, ⟨mp, ms, mf, mr⟩, xq, xk, xu⟩ := rfl
          rw [hxe] at HD HI HDD HST HLF HUF HAQ HAK
          clear hxe
          simp only at HON HF1 HUF HMF HAQ HAK y0 y1 y2 y3 y4 y5 y6 y7 y8
          generalize X.accQ _ = aq at *
          generalize X.accK _ = ak at *
          generalize X.walkOf cr = K at *
          generalize X.nxL L _ = L' at *
          generalize X.nxP L L0 _ = L0' at *
          generalize X.goE _ = E at *
          generalize X.goN _ = X' at *
          generalize Pg.tFM X.S 0 mp = m at *
          generalize Pg.tFE X.S 0 mp = en at *
          generalize Pg.tFC X.S 0 mp = tc at *
          obtain ⟨on, kq, kk, ku, kt, kl, kx⟩ := K
          simp only at HON HAQ HAK
          go_wp2_with fail
          refine HON.mono ?_
          rintro e w1 ⟨rfl, hb1⟩
          obtain ⟨W1, hW1⟩ : ∃ W1, W1 = w1.alloc (.cells #[.int .i64 kq, .int .i64 kk, .bool ku] 41) := ⟨_, rfl⟩
          have hbA : Below w1.heap.size w1 W1 := by rw [hW1]; exact balloc (brefl _) _
          have RA : Hid (W1.heap[w1.heap.size]? = some (.cells #[.int .i64 kq, .int .i64 kk, .bool ku] 41 (0, 0))) := by rw [Hid, hW1]; exact heap_alloc_new _ _
          have S1 : Hid _ := HS.out.grow H (bthen hb1 hbA)
          have O1 : Hid (W1.ownsRow W.heap.size 3 1 (.slice wa wn wcp) wn (ints Wt)) := owns_grow HOW.out (bthen hb1 hbA)
          have LA : Hid (wr.heap.size ≤ w1.heap.size ∧ w1.heap.size < W1.heap.size) := ⟨hb1.size, by rw [hW1]; simp⟩
          go_upto_region 13 with fail
          rw [← hW1]
          clear hW1 hbA hb1 HON y0 y1 y2 y3 y4 y5 y6 y7 y8
          generalize w1.heap.size = ab at *
          obtain ⟨y0, y1, y2, y3, y4, y5, y6, y7, y8⟩ := HXC.out W1 S1.out.bel
          simp only at y0 y1 y2 y3 y4 y5 y6 y7 y8
          obtain ⟨mp', ms', mf', mr'⟩ := m
          obtain ⟨et, el, er, eu, ed, ef⟩ := en
          simp only [Pg.Mp.val, Pg.En.val] at HF1
          go_wp2_with fail
          refine (HF1 _ S1.out.at').mono ?_
          rintro e w2 ⟨rfl, hb2⟩
          obtain ⟨W3, hW3⟩ : ∃ W3, W3 = (w2.alloc (.cells #[.int .i64 mp', .int .i64 ms', .int .i64 mf', .int .i64 mr'] 39)).alloc (.cells #[.bool et, .bool el, .int .i64 er, .bool eu, .bool ed, .int .i64 ef] 70) := ⟨_, rfl⟩
          have hbA : Below w2.heap.size w2 W3 := by rw [hW3]; exact balloc (balloc (brefl _) _) _
          have RM : Hid (W3.heap[w2.heap.size]? = some (.cells #[.int .i64 mp', .int .i64 ms', .int .i64 mf', .int .i64 mr'] 39 (0, 0))) := by
            rw [Hid, hW3, Below.heap_alloc _ _ _ (by simp)]
            exact heap_alloc_new _ _
          have S3 : Hid _ := S1.out.grow H (bthen hb2 hbA)
          have O3 : Hid (W3.ownsRow W.heap.size 3 1 (.slice wa wn wcp) wn (ints Wt)) := owns_grow O1.out (bthen hb2 hbA)
          have RA3 : Hid (W3.heap[ab]? = _) := ((bthen hb2 hbA).block ab LA.out.2).trans RA.out
          have LM : Hid (ab < w2.heap.size ∧ w2.heap.size < W3.heap.size) := ⟨Nat.lt_of_lt_of_le LA.out.2 hb2.size, by rw [hW3]; simp; omega⟩
          go_upto_region 14 with fail
          rw [← hW3]
          clear hW3 hbA hb2 HF1 y0 y1 y2 y3 y4 y5 y6 y7 y8 S1 O1 RA
          generalize w2.heap.size = mb at *
          obtain ⟨y0, y1, y2, y3, y4, y5, y6, y7, y8⟩ := HXC.out W3 S3.out.bel
          simp only at y0 y1 y2 y3 y4 y5 y6 y7 y8
          obtain ⟨ec, ed', ea, ef', er', eb'⟩ := E
          simp only [Pg.Sx.val, Pg.Ev.val] at HD
          go_wp2_with fail
          refine (HD _ S3.out.at').mono ?_
          rintro e w4 ⟨rfl, F4, h4, hb4, hF4⟩
          obtain ⟨W5, hW5⟩ : ∃ W5, W5 = w4.alloc (.cells #[.int .i64 ec, .bool ed', .int .i64 ea, .int .i64 ef', .int .i64 er', .bool eb'] 36) := ⟨_, rfl⟩
          have hb5 : Below w4.heap.size w4 W5 := by rw [hW5]; exact balloc (brefl _) _
          have D5 : Hid (Dmd P W W5 b ab mb w4.heap.size X' F4 L' L0' kq kk ku ⟨mp', ms', mf', mr'⟩ ⟨ec, ed', ea, ef', er', eb'⟩ (.slice wa wn wcp) wn Wt) := by
            have hlt3 : ∀ y, F y → y < wr.heap.size := fun y hy => H.lt HS.out.at' hy
            have hlw : ∀ y, (Value.slice wa wn wcp).ownBlock = some y → y < wr.heap.size := fun y hy => (HOW.out.lt y hy).2
            have nA : ¬ F ab := fun h => by have := hlt3 _ h; have := LA.out; omega
            have nM : ¬ F mb := fun h => by have := hlt3 _ h; have := LA.out; have := LM.out; omega
            have kA := hb4.block ab (by have := LM.out; omega) nA
            have kM := hb4.block mb LM.out.2 nM
            have s4 := hb4.size
            have new : ∀ y, y < W3.heap.size → ¬ F y → ¬ F4 y := fun y h1 h2 h3 => by
              rcases hF4 y h3 with h | h
              · exact h2 h
              · omega
            have O4 := owns_of_block O3.out (fun y hy => hb4.block y (O3.out.lt y hy).2 (HNF.out y hy))
            obtain ⟨⟨a0, a1, a2⟩, af⟩ := row3a ((hb5.block ab (by have := LM.out; omega)).trans (kA.trans RA3.out))
            obtain ⟨⟨m0, m1, m2, m3⟩, _⟩ := row4b ((hb5.block mb (by have := LM.out; omega)).trans (kM.trans RM.out))
            obtain ⟨⟨e0, e1, e2, _, _, _⟩, _⟩ := row6a (show W5.heap[w4.heap.size]? = some (.cells #[.int .i64 ec, .bool ed', .int .i64 ea, .int .i64 ef', .int .i64 er', .bool eb'] 36 (0, 0)) by rw [hW5]; exact heap_alloc_new _ _)
            have hA := LA.out
            have hM := LM.out
            have hsw := HS.out.bel.size
            refine ⟨(S3.out.step h4 hb4 hF4).grow H hb5, HI.out, ⟨a0, a1, a2, af, m0, m1, m2, m3, e0, e1, e2⟩, owns_grow O4 hb5, fun g hg => ?_, by omega, ⟨by omega, by omega⟩, ⟨new _ (by omega) nA, new _ (by omega) nM, fun h => by have := H.lt h4 h; omega⟩, HWL.out⟩
            have := hlw g hg
            exact ⟨by omega, by omega, by omega, new g (by omega) (HNF.out g hg)⟩
          go_upto_region 15 with fail
          rw [← hW5]
          clear hW5 hb5 h4 hb4 hF4 HD y0 y1 y2 y3 y4 y5 y6 y7 y8 S3 O3 RA3 RM LA LM HS HOW HNF HI
          generalize w4.heap.size = eb at *
          obtain ⟨y0, y1, y2, y3, y4, y5, y6, y7, y8⟩ := HXC.out W5 D5.out.sp.bel
          simp only at y0 y1 y2 y3 y4 y5 y6 y7 y8
          have a0 := D5.out.bx.a0
          have a1 := D5.out.bx.a1
          have a2 := D5.out.bx.a2
          have af := D5.out.bx.af
          go_upto_if 78 with fail
          go_cut [12] from 39 to 181 (fun s12 wc => ∃ (on' : Bool) (au : Bool), s12 = .bool on' ∧ Hid (Dmd P W wc b ab mb eb X' F4 L' L0' aq ak au ⟨mp', ms', mf', mr'⟩ ⟨ec, ed', ea, ef', er', eb'⟩ (.slice wa wn wcp) wn Wt))
          case first =>
            as_aux_lemma =>
            by_cases h4 : kd = 4
            · subst h4
              have eq1 : aq = xq := by rw [HAQ.out]; simp
              have eq2 : ak = xk := by rw [HAK.out]; simp
              have HE1 : Hid _ := eq1
              have HE2 : Hid _ := eq2
              clear eq1 eq2
              have D6 : Hid _ := fun w' hw => D5.out.acc H (w' := w') xq xk xu hw
              go_wp2_with fail
              go_meet
              case rel => exact ⟨true, xu, rfl, by rw [HE1.out, HE2.out]; exact D6.out _ rfl⟩
            · have n4 : (kd == 4) = false := by simpa using h4
              have HE1 : Hid (aq = kq) := by rw [Hid, HAQ.out, if_neg h4]
              have HE2 : Hid (ak = kk) := by rw [Hid, HAK.out, if_neg h4]
              go_wp2_with fail
              go_meet
              case rel => exact ⟨on, ku, rfl, by rw [HE1.out, HE2.out]; exact D5⟩
          case rest =>
          clear y0 y1 y2 y3 y4 y5 y6 y7 y8 a0 a1 a2 af D5 HAQ HAK
          obtain ⟨on', au, rfl, D6⟩ := hcut
          obtain ⟨y0, y1, y2, y3, y4, y5, y6, y7, y8⟩ := HXC.out wc D6.out.sp.bel
          have e0 := D6.out.bx.e0
          simp only at y0 y1 y2 y3 y4 y5 y6 y7 y8 e0
          go_upto_region 17 with fail
          go_cut [98] from 39 to 181 (fun s98 w7 => ∃ z : Bool, s98 = .bool z ∧ (z = true ↔ (kd = 2 ∧ ec = 0)) ∧ w7 = wc)
          case first =>
            as_aux_lemma =>
            by_cases hk2 : kd = 2
            · subst hk2
              by_cases he0 : ec = 0
              · have ht : tc = 0 := HUF.out rfl he0
                subst he0 ht
                go_wp2_with fail
                go_meet
                case rel => exact ⟨true, rfl, by simp, rfl⟩
              · have n0 : (ec == 0) = false := by simpa using he0
                have HN0 : Hid _ := he0
                clear he0
                go_wp2_with fail
                go_meet
                case rel => exact ⟨false, rfl, ⟨(fun h => by cases h), fun h => absurd h.2 HN0.out⟩, rfl⟩
            · have n2 : (kd == 2) = false := by simpa using hk2
              have HN0 : Hid _ := hk2
              clear hk2
              go_wp2_with fail
              go_meet
              case rel => exact ⟨false, rfl, ⟨(fun h => by cases h), fun h => absurd h.1 HN0.out⟩, rfl⟩
          case rest =>
          obtain ⟨z, rfl, hz, hw7⟩ := hcut
          subst hw7
          clear y0 y1 y2 y3 y4 y5 y6 y7 y8 e0 HUF HXC
          go_upto_if 98 with fail
          go_cut [9, 17, 18] from 39 to 181 (fun v9 _ _ w7 => ∃ wa' wn' wp' Wt', v9 = .slice wa' wn' wp' ∧ wn' ≤ k ∧ Hid (Dmd P W w7 b ab mb eb X' F4 L' L0' aq ak au ⟨mp', ms', mf', mr'⟩ ⟨ec, ed', ea, ef', er', eb'⟩ (.slice wa' wn' wp') wn' Wt' ∧ Pg.Wrt X' Wt'))
          case first =>
            cases z
            · have hno : ¬ (kd = 2 ∧ ec = 0) := fun h => by have := hz.2 h; cases this
              have FIN : Hid (Pg.Wrt X' Wt) := HST.out hno
              clear hz hno
              go_wp2_with fail
              go_meet
              case rel => exact ⟨wa, wn, wcp, Wt, rfl, hwk, ⟨D6.out, FIN.out⟩⟩
            · as_aux_lemma =>
              clear hz
              obtain ⟨p0, hp0, hp1, hp2, hp3⟩ := info_parts infoIntF
              go_wp2_with fail
              go_loopw [17, 18] (fun l i wq => ∃ (t : Nat) (la : Option Addr) (ln lc : Nat), t ≤ wn ∧ ln ≤ t ∧ i = .int .i64 t ∧ l = .slice la ln lc ∧ Hid (Dmd P W wq b ab mb eb X' F4 L' L0' aq ak au ⟨mp', ms', mf', mr'⟩ ⟨ec, ed', ea, ef', er', eb'⟩ (.slice wa wn wcp) wn Wt ∧ wq.ownsRow W.heap.size 3 1 (.slice la ln lc) ln (ints ((Wt.take t).filter fun y => !(⟨mp', ms', mf', mr'⟩ : Pg.Mp).has y)) ∧ (∀ g, (Value.slice la ln lc).ownBlock = some g → g ≠ ab ∧ g ≠ mb ∧ g ≠ eb ∧ ¬ F4 g ∧ (Value.slice wa wn wcp).ownBlock ≠ some g) ∧ ((Wt.take t).filter fun y => !(⟨mp', ms', mf', mr'⟩ : Pg.Mp).has y).length = ln)) (fun _ i _ => wn - (intOf i).toNat)
              case atStart => exact ⟨0, none, 0, 0, by omega, by omega, rfl, rfl, ⟨D6.out, World.ownsRow_nil _ _ _ _, fun g e => by simp [Value.ownBlock] at e, rfl⟩⟩
              case round =>
                obtain ⟨t, la, ln, lc, ht, hlt', rfl, rfl, HQR⟩ := hrel
                have t0 : (0 : Int) ≤ (t : Int) := by omega
                by_cases htl : t < wn
                · have t1 : (t : Int) < (wn : Int) := by omega
                  have htw : t < Wt.length := by rw [HWL.out]; exact htl
                  obtain ⟨g, eg, hgl, hgc⟩ := owns_intsAt (L := Wt) (cap := wcp) (n := wn) (by rw [HWL.out]; exact HQR.out.1.own) t htw
                  subst eg
                  have hfy : Pg.fits (Wt.getD t 0) := HWF.out _ (Pg.getD_mem htw 0)
                  have HH := refHas_any mp' ms' mf' mr' (Wt.getD t 0) HMF.out hfy
                  have hfl : (Wt.take (t + 1)).filter (fun y => !(⟨mp', ms', mf', mr'⟩ : Pg.Mp).has y) = (Wt.take t).filter (fun y => !(⟨mp', ms', mf', mr'⟩ : Pg.Mp).has y) ++ (if Pg.over mp' ms' (Wt.getD t 0) = true then [] else [Wt.getD t 0]) := by
                    rw [List.take_succ_eq_append_getElem htw, List.filter_append]
                    congr 1
                    rw [show Wt.getD t 0 = Wt[t] by simp [List.getD, htw]]
                    show List.filter _ [Wt[t]] = _
                    rw [List.filter_cons]
                    show (if (!(Pg.over mp' ms' Wt[t])) = true then _ else _) = _
                    cases Pg.over mp' ms' Wt[t] <;> simp
                  have HFL : Hid _ := hfl
                  generalize Wt.getD t 0 = yv at *
                  generalize hLf : (Wt.take t).filter (fun y => !(⟨mp', ms', mf', mr'⟩ : Pg.Mp).has y) = Lf at *
                  have q0 := cell_regrown HQR.out.1.bx.m0
                  have q1 := cell_regrown HQR.out.1.bx.m1
                  have q2 := cell_regrown HQR.out.1.bx.m2
                  have q3 := cell_regrown HQR.out.1.bx.m3
                  have qg := cell_regrown hgc
                  have HGC : Hid _ := hgc
                  simp only at q0 q1 q2 q3
                  clear hfl hgc hLf
                  go_wp2_with fail
                  refine Loose.wp_region_late 5 (by kernel_rfl) (by kernel_rfl) ?_
                  simp only [List.take_succ_cons, List.take_zero, List.drop_succ_cons, List.drop_zero]
                  repeat (
                    refine Loose.wpGent_step (fun k hk => ?_)
                    go_simp
                    (refine hk _ ?_; clear hk k))
                  refine Loose.wpGent_nil ?_
                  intro w8 hb8
                  have HB8 : Hid _ := hb8
                  clear hb8 q0 q1 q2 q3 qg
                  cases hov : Pg.over mp' ms' yv
                  · rw [hov] at HH
                    have HFE : Hid _ := HFL.out
                    rw [hov] at HFE
                    simp only [Bool.false_eq_true, if_false] at HFE
                    go_wp2_with fail
                    refine (HH _).mono ?_
                    rintro e w9 ⟨rfl, hb9⟩
                    have D9 : Hid _ := HQR.out.1.grow H (bthen HB8.out hb9)
                    have hown := owns_grow HQR.out.2.1 (bthen HB8.out hb9)
                    have qg9 := ((bthen HB8.out hb9).cell (p := ⟨g, t, none⟩) hgl).trans HGC.out
                    have hgl9 : g < w9.heap.size := Nat.lt_of_lt_of_le hgl (bthen HB8.out hb9).size
                    have hbw := D9.out.sp.bel.size
                    clear hb9 HB8 HGC HH
                    go_wp2_with (first
                      | (at_builtin; refine wpList_append_lies _ rfl _ _ 45 rfl W.heap.size 3 p0 (.int .i64 0) 1 8 Tryz.underlying45 hp0 hp1 hp2 hp3 rfl (by decide) _ _ _ rfl (hown.alloc _) ⟨w9.heap.size, 0, none⟩ 1 1 [.int .i64 yv] rfl rfl ?c1 ?c2 (by decide) ?c3 ?c4 ?c5 (w9.heap.size + 1) (by simp) ?_))
                    case c1 =>
                      intro j u hj
                      match j, hj with
                      | 0, hj => simp at hj; subst hj; simp [Addr.add, go_sem]
                    case c2 => intro u hu; simp at hu; subst hu; rfl
                    case c3 => unfold maxLen; omega
                    case c4 => omega
                    case c5 => simp; omega
                    intro g' cap' wx hownx hgrowx hatx hltx
                    have bx : But (fun x => (Value.slice la ln lc).ownBlock = some x) w9 wx := ((But.refl _ w9).alloc _).grown hgrowx fun x hx => .inr hx
                    have DX : Hid (Dmd P W wx b ab mb eb X' F4 L' L0' aq ak au ⟨mp', ms', mf', mr'⟩ ⟨ec, ed', ea, ef', er', eb'⟩ (.slice (some ⟨g, 0, none⟩) wn wcp) wn Wt) := D9.out.but H bx (fun y hy => ⟨(hown.lt y hy).1, (HQR.out.2.2.1 y hy).1, (HQR.out.2.2.1 y hy).2.1, (HQR.out.2.2.1 y hy).2.2.1, (HQR.out.2.2.1 y hy).2.2.2.1⟩) (fun y hy hl => (HQR.out.2.2.1 y hl).2.2.2.2 hy)
                    have NX : Hid (wx.ownsRow W.heap.size 3 1 (.slice (some ⟨g', 0, none⟩) (ln + 1) cap') (ln + 1) (ints ((Wt.take (t + 1)).filter fun y => !(⟨mp', ms', mf', mr'⟩ : Pg.Mp).has y)) ∧ (∀ y, (Value.slice (some ⟨g', 0, none⟩) (ln + 1) cap').ownBlock = some y → y ≠ ab ∧ y ≠ mb ∧ y ≠ eb ∧ ¬ F4 y ∧ (Value.slice (some ⟨g, 0, none⟩) wn wcp).ownBlock ≠ some y) ∧ ((Wt.take (t + 1)).filter fun y => !(⟨mp', ms', mf', mr'⟩ : Pg.Mp).has y).length = ln + 1) := by
                      rw [HFE.out]
                      refine ⟨?_, fun y hy => ?_, by rw [List.length_append, HQR.out.2.2.2]; rfl⟩
                      · rw [show ints (Lf ++ [yv]) = ints Lf ++ [.int .i64 yv] by simp [ints]]
                        exact hownx
                      · have ey : y = g' := by simpa [Value.ownBlock] using hy.symm
                        subst ey
                        rcases hatx with h | h
                        · exact HQR.out.2.2.1 y h
                        · have a1 := D9.out.bx.la
                          have a2 := D9.out.bx.lm
                          have a3 := D9.out.bx.le
                          exact ⟨by omega, by omega, by omega, fun hf => by have := H.lt D9.out.sp.at' hf; omega, fun e => by have := (D9.out.own.lt y e).2; omega⟩
                    clear hown hownx hgrowx hatx hltx bx D9 HQR HFE HFL qg9
                    go_wp2_with fail
                    exact ⟨⟨t + 1, _, _, _, by omega, by omega, by go_num, rfl, ⟨DX.out, NX.out⟩⟩, by simp [intOf]; omega⟩
                  · rw [hov] at HH
                    have HFE : Hid _ := HFL.out
                    rw [hov] at HFE
                    simp only [if_true, List.append_nil] at HFE
                    go_wp2_with fail
                    refine (HH _).mono ?_
                    rintro e w9 ⟨rfl, hb9⟩
                    have NX : Hid (Dmd P W w9 b ab mb eb X' F4 L' L0' aq ak au ⟨mp', ms', mf', mr'⟩ ⟨ec, ed', ea, ef', er', eb'⟩ (.slice (some ⟨g, 0, none⟩) wn wcp) wn Wt ∧ w9.ownsRow W.heap.size 3 1 (.slice la ln lc) ln (ints ((Wt.take (t + 1)).filter fun y => !(⟨mp', ms', mf', mr'⟩ : Pg.Mp).has y)) ∧ (∀ y, (Value.slice la ln lc).ownBlock = some y → y ≠ ab ∧ y ≠ mb ∧ y ≠ eb ∧ ¬ F4 y ∧ (Value.slice (some ⟨g, 0, none⟩) wn wcp).ownBlock ≠ some y) ∧ ((Wt.take (t + 1)).filter fun y => !(⟨mp', ms', mf', mr'⟩ : Pg.Mp).has y).length = ln) := by
                      rw [HFE.out]
                      exact ⟨HQR.out.1.grow H (bthen HB8.out hb9), owns_grow HQR.out.2.1 (bthen HB8.out hb9), HQR.out.2.2.1, HQR.out.2.2.2⟩
                    clear hb9 HB8 HGC HH HQR HFE HFL
                    go_wp2_with fail
                    exact ⟨⟨t + 1, _, _, _, by omega, by omega, by go_num, rfl, NX⟩, by simp [intOf]; omega⟩
                · have t1 : ¬ (t : Int) < (wn : Int) := by omega
                  have et : t = wn := by omega
                  have FIN : Hid (Pg.Wrt X' (Wt.filter fun y => !(⟨mp', ms', mf', mr'⟩ : Pg.Mp).has y)) := HLF.out
                  have hE : Wt.take t = Wt := List.take_of_length_le (by rw [HWL.out, et]; exact Nat.le_refl _)
                  have DF : Hid (Dmd P W wr b ab mb eb X' F4 L' L0' aq ak au ⟨mp', ms', mf', mr'⟩ ⟨ec, ed', ea, ef', er', eb'⟩ (.slice la ln lc) ln (Wt.filter fun y => !(⟨mp', ms', mf', mr'⟩ : Pg.Mp).has y)) := by
                    have h1 := HQR.out.2.1
                    have h2 := HQR.out.2.2.2
                    rw [hE] at h1 h2
                    exact HQR.out.1.other h1 (fun g hg => ⟨(HQR.out.2.2.1 g hg).1, (HQR.out.2.2.1 g hg).2.1, (HQR.out.2.2.1 g hg).2.2.1, (HQR.out.2.2.1 g hg).2.2.2.1⟩) h2
                  clear HQR hE
                  go_wp2_with fail
                  go_meet
                  case rel => exact ⟨la, ln, lc, _, rfl, by omega, ⟨DF.out, FIN.out⟩⟩
          case rest =>
          clear D6 HST HLF HMF HWF HWL hz
          obtain ⟨wa', wn', wp', Wt', rfl, hwk', HD7⟩ := hcut
          have HFQ := fun w' (h : P w' b X' F4) => M.find aq w' h
          have HBU := fun w' (h : P w' b X' F4) => H.busy w' h
          have HFA : Hid (∀ w' y, P w' b X' F4 → Calls Tryz.prog 27 #[.pointer (some ⟨b, 0, none⟩), .int .i64 y] w' fun e w'' => e = .returned (.tuple #[(Pg.tFM X'.S 0 y).val, (Pg.tFE X'.S 0 y).val, .int .i64 (Pg.tFC X'.S 0 y)]) ∧ Below w'.heap.size w' w'') := fun w' y h => M.find y w' h
          generalize hm2 : Pg.tFM X'.S 0 aq = m2 at *
          generalize hen2 : Pg.tFE X'.S 0 aq = en2 at *
          generalize htc2 : Pg.tFC X'.S 0 aq = tc2 at *
          generalize hbz : X'.busy = bz at *
          clear hm2 hen2 htc2 hbz
          obtain ⟨m2p, m2s, m2f, m2r⟩ := m2
          obtain ⟨t2, l2, r2, u2, d2, f2⟩ := en2
          simp only [Pg.Mp.val, Pg.En.val] at HFQ
          simp only at HDD
          have a0 := HD7.out.1.bx.a0
          go_wp2_with fail
          refine (HFQ _ HD7.out.1.sp.at').mono ?_
          rintro e w8 ⟨rfl, hb8⟩
          obtain ⟨W9, hW9⟩ : ∃ W9, W9 = (w8.alloc (.cells #[.int .i64 m2p, .int .i64 m2s, .int .i64 m2f, .int .i64 m2r] 39)).alloc (.cells #[.bool t2, .bool l2, .int .i64 r2, .bool u2, .bool d2, .int .i64 f2] 70) := ⟨_, rfl⟩
          have hbA : Below w8.heap.size w8 W9 := by rw [hW9]; exact balloc (balloc (brefl _) _) _
          have D9 : Hid (Dmd P W W9 b ab mb eb X' F4 L' L0' aq ak au ⟨mp', ms', mf', mr'⟩ ⟨ec, ed', ea, ef', er', eb'⟩ (.slice wa' wn' wp') wn' Wt') := HD7.out.1.grow H (bthen hb8 hbA)
          have HWR : Hid _ := HD7.out.2
          have x3 : W9.cell? ⟨w8.heap.size + 1, 3, none⟩ = some (.bool u2) := by rw [hW9]; simp [go_sem]
          go_upto_region 26 with fail
          rw [← hW9]
          clear hW9 hbA hb8 HFQ a0 HD7
          generalize w8.heap.size + 1 = xe at *
          have hxe : xe < W9.heap.size := World.block_lt_of_cell? _ _ x3
          have e1 := D9.out.bx.e1
          have e2 := D9.out.bx.e2
          simp only at e1 e2
          go_cut [147] from 39 to 181 (fun s w10 => ∃ z : Bool, s = .bool z ∧ Hid ((z = true → ed' = true ∧ ea = 0 ∧ bz = false) ∧ Below W9.heap.size W9 w10))
          case first =>
            as_aux_lemma =>
            cases ed'
            · go_wp2_with fail
              go_meet
              case rel => exact ⟨false, rfl, ⟨(fun h => by cases h), brefl _⟩⟩
            · by_cases hea : ea = 0
              · subst hea
                cases on'
                · go_wp2_with fail
                  go_meet
                  case rel => exact ⟨false, rfl, ⟨(fun h => by cases h), brefl _⟩⟩
                · by_cases htc : tc2 = 0
                  · subst htc
                    go_wp2_with fail
                    refine (HBU _ D9.out.sp.at').mono ?_
                    rintro e w10 ⟨rfl, hb10⟩
                    have HB10 : Hid _ := hb10
                    clear hb10 HBU
                    cases bz
                    · go_wp2_with fail
                      go_meet
                      case rel => exact ⟨true, rfl, ⟨fun _ => by simp, HB10.out⟩⟩
                    · go_wp2_with fail
                      go_meet
                      case rel => exact ⟨false, rfl, ⟨(fun h => by cases h), HB10.out⟩⟩
                  · have n0 : (tc2 == 0) = false := by simpa using htc
                    clear htc
                    go_wp2_with fail
                    go_meet
                    case rel => exact ⟨false, rfl, ⟨(fun h => by cases h), brefl _⟩⟩
              · have n0 : (ea == 0) = false := by simpa using hea
                clear hea
                go_wp2_with fail
                go_meet
                case rel => exact ⟨false, rfl, ⟨(fun h => by cases h), brefl _⟩⟩
          case rest =>
          obtain ⟨z, rfl, HZ⟩ := hcut
          have D10 : Hid (Dmd P W wc b ab mb eb X' F4 L' L0' aq ak au ⟨mp', ms', mf', mr'⟩ ⟨ec, ed', ea, ef', er', eb'⟩ (.slice wa' wn' wp') wn' Wt') := D9.out.grow H HZ.out.2
          have x3' := (HZ.out.2.cell (p := ⟨xe, 3, none⟩) hxe).trans x3
          clear e1 e2 x3 hxe D9 HBU
          have a0 := D10.out.bx.a0
          have a1 := D10.out.bx.a1
          go_upto_if 147 with fail
          go_cut [9] from 39 to 181 (fun v9 w11 => ∃ wa'' wn'' wp'' Wt'', v9 = .slice wa'' wn'' wp'' ∧ wn'' ≤ k + 1 ∧ Hid (Dmd P W w11 b ab mb eb X' F4 L' L0' aq ak au ⟨mp', ms', mf', mr'⟩ ⟨ec, ed', ea, ef', er', eb'⟩ (.slice wa'' wn'' wp'') wn'' Wt'' ∧ Pg.Wrt X' Wt''))
          case first =>
            as_aux_lemma =>
            cases z
            · go_wp2_with fail
              go_meet
              case rel => exact ⟨wa', wn', wp', Wt', rfl, by omega, ⟨D10.out, HWR.out⟩⟩
            · obtain ⟨z1, z2, z3⟩ := HZ.out.1 rfl
              obtain ⟨v1, v2, v3⟩ := HDD.out z1 z2 z3
              have v2 : u2 = true := v2
              subst v2
              have HV1 : Hid _ := v1
              have HV3 : Hid _ := v3
              clear v1 v3 z1 z2 z3 HZ HDD
              by_cases hak : ak = 1
              · have n1 : (ak == 1) = true := by simpa using hak
                have HWN : Hid (Pg.Wrt X' (Wt' ++ [aq])) := Pg.Wrt.push HWR.out HV1.out (HV3.out hak)
                have hbw := D10.out.sp.bel.size
                clear hak HV1 HV3
                go_upto_region 30 with fail
                obtain ⟨p0, hp0, hp1, hp2, hp3⟩ := info_parts infoIntF
                have hown := D10.out.own
                clear x3' a1
                go_wp2_with (first
                  | (at_builtin; refine wpList_append_lies _ rfl _ _ 45 rfl W.heap.size 3 p0 (.int .i64 0) 1 8 Tryz.underlying45 hp0 hp1 hp2 hp3 rfl (by decide) _ _ _ rfl (hown.alloc _) ⟨wc.heap.size, 0, none⟩ 1 1 [.int .i64 aq] rfl rfl ?kk1 ?kk2 (by decide) ?kk3 ?kk4 ?kk5 (wc.heap.size + 1) (by simp) ?_))
                try case kk1 =>
                  intro j u hj
                  match j, hj with
                  | 0, hj => simp at hj; subst hj; simp [Addr.add, go_sem]
                try case kk2 => first | rfl | (intro u hu; simp at hu; subst hu; rfl)
                try case kk3 => unfold maxLen; omega
                try case kk4 => omega
                try case kk5 => first | omega | (simp; omega)
                intro g' cap' wx hownx hgrowx hatx hltx
                have bx : But (fun x => (Value.slice wa' wn' wp').ownBlock = some x) wc wx := ((But.refl _ wc).alloc _).grown hgrowx fun x hx => .inr hx
                have DX : Hid (Dmd P W wx b ab mb eb X' F4 L' L0' aq ak au ⟨mp', ms', mf', mr'⟩ ⟨ec, ed', ea, ef', er', eb'⟩ (.slice (some ⟨g', 0, none⟩) (wn' + 1) cap') (wn' + 1) (Wt' ++ [aq])) := D10.out.push H bx (by rw [show ints (Wt' ++ [aq]) = ints Wt' ++ [.int .i64 aq] by simp [ints]]; exact hownx) (hatx.imp id (fun h => by omega)) (by rw [List.length_append, D10.out.ln]; rfl)
                clear hown hownx hgrowx hatx hltx bx D10 a0 HWR
                go_wp2_with fail
                go_meet
                case rel => exact ⟨_, _, _, _, rfl, by omega, ⟨DX.out, HWN.out⟩⟩
              · have n1 : (ak == 1) = false := by simpa using hak
                clear hak
                go_wp2_with fail
                go_meet
                case rel => exact ⟨wa', wn', wp', Wt', rfl, by omega, ⟨D10.out, HWR.out⟩⟩
          case rest =>
          clear D10 HWR a0 a1 x3' HZ HDD
          obtain ⟨va, vn, vp, Vt, rfl, hvk, HD11⟩ := hcut
          go_wp2_with fail
          go_loopw [22, 23, 24, 25] (fun i _ _ _ wq => ∃ t : Nat, t ≤ vn ∧ i = .int .i64 t ∧ Hid (Dmd P W wq b ab mb eb X' F4 L' L0' aq ak au ⟨mp', ms', mf', mr'⟩ ⟨ec, ed', ea, ef', er', eb'⟩ (.slice va vn vp) vn Vt)) (fun i _ _ _ _ => vn - (intOf i).toNat)
          case atStart => exact ⟨0, by omega, rfl, HD11.out.1⟩
          case round =>
            obtain ⟨t, ht, rfl, HT⟩ := hrel
            have t0 : (0 : Int) ≤ (t : Int) := by omega
            by_cases htl : t < vn
            · have t1 : (t : Int) < (vn : Int) := by omega
              have htw : t < Vt.length := by rw [HT.out.ln]; exact htl
              obtain ⟨g, eg, hgl, hgc⟩ := owns_intsAt (L := Vt) (cap := vp) (n := vn) (by rw [HT.out.ln]; exact HT.out.own) t htw
              subst eg
              obtain ⟨f1, f2'⟩ := Pg.Wrt.find HT.out.inv HD11.out.2 htw
              have HFQ := HFA.out wr (Vt.getD t 0) HT.out.sp.at'
              rw [f1] at HFQ
              have hd3 : ∃ t3 l3 r3 u3 f3, Pg.tFE X'.S 0 (Vt.getD t 0) = ⟨t3, l3, r3, u3, true, f3⟩ := by
                generalize Pg.tFE X'.S 0 (Vt.getD t 0) = E3 at *
                obtain ⟨t3, l3, r3, u3, d3, f3⟩ := E3
                have f2' : d3 = true := f2'
                subst f2'
                exact ⟨t3, l3, r3, u3, f3, rfl⟩
              obtain ⟨t3, l3, r3, u3, f3, e3⟩ := hd3
              rw [e3] at HFQ
              generalize Pg.tFM X'.S 0 (Vt.getD t 0) = m3 at *
              obtain ⟨m3p, m3s, m3f, m3r⟩ := m3
              simp only [Pg.Mp.val, Pg.En.val] at HFQ
              clear f1 f2' e3
              generalize Vt.getD t 0 = yv at *
              go_wp2_with fail
              refine HFQ.mono ?_
              rintro e w12 ⟨rfl, hb12⟩
              have DN : Hid (∀ w13, Below w12.heap.size w12 w13 → Dmd P W w13 b ab mb eb X' F4 L' L0' aq ak au ⟨mp', ms', mf', mr'⟩ ⟨ec, ed', ea, ef', er', eb'⟩ (.slice (some ⟨g, 0, none⟩) vn vp) vn Vt) := fun w13 hb => HT.out.grow H (bthen hb12 hb)
              clear hb12 HFQ HT hgc
              go_wp2_with fail
              exact ⟨⟨t + 1, by omega, by go_num, DN.out _ (balloc (balloc (brefl _) _) _)⟩, by simp [intOf]; omega⟩
            · have t1 : ¬ (t : Int) < (vn : Int) := by omega
              have FIN : Hid (Spw P W wr b va vn vp (k + 1)) := ⟨X', F4, L', L0', Vt, HT.out.sp, HT.out.inv, HD11.out.2, HT.out.own, fun g hg => (HT.out.far g hg).2.2.2, HT.out.ln, hvk⟩
              clear HT HD11
              go_wp2_with fail
              go_roundw
              case rel => exact ⟨k + 1, va, vn, vp, by omega, by go_num, rfl, FIN⟩
              case measure => simp [intOf]; omega
        · have i1 : ¬ (k : Int) < (len : Int) := by omega
          obtain ⟨X, F, L, L0, Wt, S, I, _⟩ := HR.out.ex
          have HB : Hid _ := S.bel
          clear S I HR
          go_wp2_with fail
          go_ret
          exact ⟨rfl, HB.out⟩
end
end Go.Proofs.YtiojflaehjbcbaeGreat

namespace Go.Proofs.YtiojflaehjbcbaeGreat
open Go.ChangeShapes Go.WideShapes Go.ChangeAt Go.RowKit Go.Joins Go.Sort
set_option linter.unusedVariables false
set_option maxRecDepth 100000

theorem spaceDirty_walk (W : World) (co : Int) (hco : Pg.fits co) (n : Int) (hn : Pg.fits n) (ad : Option Addr) (len cap : Nat) (q : Nat → Bst)
    (hq : ∀ j, j < len → (∃ b o, ad = some ⟨b, o, none⟩ ∧ b < W.heap.size ∧ BstAt W b (o + j * 9) (q j)) ∧ BstFits (q j)) :
    Calls Tryz.prog 5 #[.int .i64 co, .int .i64 n, .slice ad len cap] W fun e W' => e = .returned (.bool true) ∧ Below W.heap.size W W' :=
  spaceDirty_face devFace devMore W co n ad len cap q hq

set_option maxRecDepth 100000 in
theorem spaceDirty_lifted (os : Os) (started : os.Started) (H : Type) (enc : TypeId × Value → H) :
    ReturnsInHanded {} Tryz.checked os 5 .any (Rows.spaceDirtySpec.pre6 enc Tryz.prog Tryz.f5 Rows.spaceDirtyRow.domain false) (Rows.spaceDirtySpec.post enc Tryz.prog Tryz.f5 false true false false) := by
  refine returnsInHanded_of_change (C := Tryz.checked) own started (by kernel_rfl) Tryz.func5
    (ChangeSpec.witness6 (enc := enc) (C := Tryz.checked) false ⟨#[], #[.int .i64 0, .int .i64 0, .slice none 0 0], []⟩ 8 (by kernel_rfl) (by kernel_rfl) (by kernel_rfl) (by kernel_rfl)) ?_
  intro W base args ds gs before hval0 hW hcnd _
  have hval : ∀ (j : Nat) t v, Tryz.f5.params[j]? = some t → args[j]? = some v → Value.okWide Tryz.prog W .any base t v := hval0
  have hW' := hW
  obtain ⟨p, q, hA0, hV, rfl, hfz, hnd⟩ := hW
  have hA : DataW.TrodAll enc Tryz.prog W 0 (fun _ => true) true Tryz.f5.params.toList args.toList ds p := hA0
  rw [Tryz.params5] at hA hval
  obtain ⟨v0, vs0, d0, ds0, p0, q0, hargs, rfl, rfl, h0, r0⟩ := trodAll_cons hA
  obtain ⟨v1, vs1, d1, ds1, p1, q1, rfl, rfl, rfl, h1, r1⟩ := trodAll_cons r0
  obtain ⟨v2, vs2, d2, ds2, p2, q2, rfl, rfl, rfl, h2, r2⟩ := trodAll_cons r1
  obtain ⟨rfl, rfl, rfl⟩ := trodAll_nil r2
  obtain rfl : args = #[v0, v1, v2] := by cases args; simp_all
  obtain ⟨rfl, rfl⟩ := trodVars_none hV
  obtain ⟨a0a, rfl, f0a⟩ := openInt (hval 0 3 v0 rfl rfl) h0
  obtain ⟨a1a, rfl, f1a⟩ := openInt (hval 1 3 v1 rfl rfl) h1
  obtain ⟨a2a, a2b, a2c, a2d, rfl, f2a⟩ := openBsts (hval 2 22 v2 rfl rfl) h2
  clear hA0 hval0
  refine (spaceDirty_walk W a0a f0a a1a f1a a2a a2b a2c a2d f2a).mono fun e W' ⟨he, bel⟩ => ?_
  subst he
  exact ⟨_, rfl, _, _, _, [], _, [], hW', trodAll_mk1 (shut_bool Tryz.underlying4 _), (trodAll_cons_mk (stays (by kernel_rfl) (of_decide_eq_true (by kernel_rfl)) h0 bel) (trodAll_cons_mk (stays (by kernel_rfl) (of_decide_eq_true (by kernel_rfl)) h1 bel) (trodAll_cons_mk (stays (by kernel_rfl) (of_decide_eq_true (by kernel_rfl)) h2 bel) trodAll_mk0))), rfl, bel.frame _, fun h => by cases h⟩

theorem spaceDirty_over : Rows.spaceDirtyRow.holds Tryz.pinned (OpenSpec.ofChange Rows.spaceDirtySpec) :=
  OpenClaim.holds_of_wide 5 Tryz.f5 rfl rfl rfl rfl rfl rfl rfl ⟨rfl, rfl, rfl, rfl, rfl⟩ rfl rfl rfl rfl rfl (by kernel_rfl) Tryz.func5 (by kernel_rfl)
    (of_decide_eq_true (by kernel_rfl)) (by unfold Func.isWrapper; first | (rw [if_pos (by decide +kernel)]; kernel_rfl) | (rw [if_neg (by decide +kernel)]; exact ⟨rfl, rfl⟩))
    (fun os started H enc _ => spaceDirty_lifted os started H enc)

theorem spaceDirty_proved : Rows.SpaceDirtySaid := spaceDirty_over
#print axioms spaceDirty_proved
end Go.Proofs.YtiojflaehjbcbaeGreat
