
/-
  WITH NOTHING BEGUN AN ANSWER IS TODAY'S: WatchNow is proved: of whatever steps, an access that begins while no change is begun, and ends ahead of the next one, is answered by what is mapped.
  Conditions: none.
-/
import Derived.Test.YtjdiaebgidgmaafGreatWtT
namespace Go.Proofs.YtjdiaebgidgmaafGreat
open Go.ChangeShapes Go.WideShapes Go.ChangeAt Go.RowKit Go.Joins Go.Sort
set_option linter.unusedVariables false
set_option linter.unusedSimpArgs false
set_option maxRecDepth 100000
attribute [local go_sem] Loose.gent
theorem next_len (T : Pg.Tms) (x : Pg.Sx) (e : Pg.Ev) : (T.next x e).L.length ≤ T.L.length + 1 := by
 unfold Pg.Tms.next Pg.Tms.more
 simp only
 split <;> simp
theorem TmAt.c0 {w : World} {b : Nat} {T : Pg.Tms} {F : Nat → Prop} (h : TmAt w b T F) (h1 : 1 ≤ T.L.length) : ∃ g cap, w.cell? ⟨b, 0, none⟩ = some (.slice (some ⟨g, 0, none⟩) T.L.length cap) := by
 obtain ⟨D, h, rfl⟩ := h
 obtain ⟨g, cap, e, _⟩ := row_at h.row h1
 exact ⟨g, cap, by rw [← e]; exact h.c0⟩
set_option maxHeartbeats 4000000 in
theorem watchNow_walk (W : World) (co : Int) (hco : Pg.fits co) (n : Int) (hn : Pg.fits n) (ad : Option Addr) (len cap : Nat) (q : Nat → Bst)
 (hq : ∀ j, j < len → (∃ b o, ad = some ⟨b, o, none⟩ ∧ b < W.heap.size ∧ BstAt W b (o + j * 9) (q j)) ∧ BstFits (q j)) :
 Calls Tryz.prog 7 #[.int .i64 co, .int .i64 n, .slice ad len cap] W fun e W' => e = .returned (.bool true) ∧ Below W.heap.size W W' := by
 have HQ : Hid _ := hq
 clear hq
 by_cases hl : 300 < len
 ·as_aux_lemma =>
  have d1 : decide ((300 : Int) < (len : Int)) = true := by simp; omega
  go_enter Tryz.func7, Tryz.ntmps7
  go_wp2_with fail
  refine (watchBegun_any _).mono ?_
  rintro e w1 ⟨rfl, hb1⟩
  have HB : Hid _ := hb1
  clear hb1
  go_wp2_with fail
  refine (greatSteps_any ad len cap 300 _).mono ?_
  rintro e w2 ⟨rfl, rfl⟩
  go_wp2_with fail
  go_ret
  exact ⟨rfl, HB.out⟩
 ·have d1 : decide ((300 : Int) < (len : Int)) = false := by simp; omega
  by_cases hbad : co < 1 ∨ 4 < co ∨ n < 1 ∨ 128 < n
  ·as_aux_lemma =>
   go_enter Tryz.func7, Tryz.ntmps7
   go_wp2_with fail
   refine (watchBegun_any _).mono ?_
   rintro e w1 ⟨rfl, hb1⟩
   have HB : Hid _ := hb1
   clear hb1
   go_wp2_with fail
   refine (greatSteps_any ad len cap 300 _).mono ?_
   rintro e w2 ⟨rfl, rfl⟩
   go_wp2_with fail
   refine (wtNew_bad co n _ hbad).mono ?_
   rintro e w3 ⟨rfl, hb3⟩
   have HB3 : Hid _ := zT HB.out hb3
   clear hb3
   go_wp2_with fail
   go_ret
   exact ⟨rfl, zT HB3.out (zA (zR _) _)⟩
  ·obtain ⟨cn, rfl⟩ := Int.eq_ofNat_of_zero_le (show 0 ≤ co by omega)
   obtain ⟨nn, rfl⟩ := Int.eq_ofNat_of_zero_le (show 0 ≤ n by omega)
   have HNW := fun w => wtNew_any cn nn w (by omega) (by omega) (by omega) (by omega)
   obtain ⟨q1, hq1, hy0, hy1, hy2⟩ := info_parts infoInt
   have m1 : ∀ w : World, (Instr.makeSlice 47 (.int .i64 (cn : Int)) (.int .i64 (cn : Int))).run Tryz.prog w = _ := fun w =>
    run_make w 47 3 q1 _ Tryz.underlying47 hq1 hy0 .i64 .i64 cn cn (by omega) (Int.le_refl _) (by rw [hy2]; omega) (by omega)
   rw [hy1] at m1
   simp only [Int.toNat_natCast] at m1
   have hc1 : 1 ≤ cn := by omega
   have hc4 : cn ≤ 4 := by omega
   go_enter Tryz.func7, Tryz.ntmps7
   go_wp2_with fail
   refine (watchBegun_any _).mono ?_
   rintro e w1 ⟨rfl, hb1⟩
   have HB : Hid _ := hb1
   clear hb1
   go_wp2_with fail
   refine (greatSteps_any ad len cap 300 _).mono ?_
   rintro e w2 ⟨rfl, rfl⟩
   go_wp2_with fail
   refine (HNW _).mono ?_
   rintro e w3 ⟨b, F, rfl, h3, hb3, hF3⟩
   obtain ⟨W4, hW4⟩ : ∃ W4, W4 = w3.alloc (.cells #[.int .i64 0, .int .i64 0] 27) := ⟨_, rfl⟩
   have hb4 : Below w3.heap.size w3 W4 := by rw [hW4]; exact zA (zR _) _
   have y0 : W4.cell? ⟨w3.heap.size, 0, none⟩ = some (.int .i64 0) := by rw [hW4]; simp [go_sem]
   have h4 : Hid _ := h3.grow hb4
   have HB4 : Hid (Below W.heap.size W W4) := zT (zT HB.out hb3) hb4
   have HF4 : Hid (∀ k, F k → W.heap.size ≤ k) := fun k hk => Nat.le_trans HB.out.size (hF3 k hk)
   clear h3 hb3 hF3 HB HNW hb4
   go_upto_region 6 with fail
   rw [← hW4]
   clear hW4
   go_wp2_with fail
   refine (newTimes_any _).mono ?_
   rintro e w5 ⟨t, G, rfl, h5, hb5, hG5⟩
   obtain ⟨W6, hW6⟩ : ∃ W6, W6 = w5.alloc (.cells (madeCells #[.int .i64 0] cn) 3) := ⟨_, rfl⟩
   have hb6 : Below w5.heap.size w5 W6 := by rw [hW6]; exact zA (zR _) _
   have R6 : ∀ j, j < cn → W6.cell? ⟨w5.heap.size, j, none⟩ = some (.int .i64 0) := fun j hj => by
    rw [hW6]
    obtain rfl | rfl | rfl | rfl : cn = 1 ∨ cn = 2 ∨ cn = 3 ∨ cn = 4 := by omega
    all_goals
     obtain rfl | rfl | rfl | rfl : j = 0 ∨ j = 1 ∨ j = 2 ∨ j = 3 := by omega
     all_goals first | omega | simp [go_sem, madeCells]
   have Z6 : ∀ p, W6.frozen? ⟨w5.heap.size, p, none⟩ = false := fun p => by rw [hW6]; simp [go_sem]
   have hg6 : w5.heap.size < W6.heap.size := by rw [hW6]; simp
   have S6 : Hid (∃ X L L0 ti F T G S, Wtt W W6 b t w5.heap.size cn X L L0 ti F T G S ∧ Pg.TOk X L L0 T ∧ ti = 0 ∧ T.L.length = 1 ∧ X.C.length = cn) :=
    ⟨Pg.Spc.new cn nn, [], [], 0, F, Pg.Tms.new, G, List.replicate cn 0, ⟨(h4.out.grow hb5).grow hb6, h5.grow hb6, fun j hj => by rw [R6 j hj]; simp [List.getD, hj], Z6, by simp, hg6, fun k hf hg => by have := h4.out.lt hf; have := hG5 k hg; omega, fun e => by have := (h4.out.grow hb5).lt e; omega, fun e => by have := h5.lt e; omega, zT (zT HB4.out hb5) hb6, fun k hk => by
     rcases hk with hk | hk | hk
     ·exact HF4.out k hk
     ·exact Nat.le_trans HB4.out.size (hG5 k hk)
     ·have := HB4.out.size; have := hb5.size; omega⟩, Pg.tok_new, rfl, rfl, by simp [Pg.Spc.new]⟩
   generalize hgg : w5.heap.size = g at *
   clear h4 HB4 HF4 h5 hb5 hG5 hb6 R6 Z6 hg6
   go_upto_region 10 with fail
   rw [← hW6]
   clear hW6 hgg m1
   go_wp2_with fail
   go_loopw [11] (fun i wr => ∃ k : Nat, k ≤ len ∧ i = .int .i64 k ∧ Hid (∃ X L L0 ti F T G S, Wtt W wr b t g cn X L L0 ti F T G S ∧ Pg.TOk X L L0 T ∧ 0 ≤ ti ∧ ti ≤ k ∧ T.L.length ≤ k + 1 ∧ X.C.length = cn)) (fun i _ => len - (intOf i).toNat)
   case atStart =>
    obtain ⟨X, L, L0, ti, F, T, G, S, h, ht, h0, h1, h2⟩ := S6.out
    exact ⟨0, by omega, rfl, ⟨X, L, L0, ti, F, T, G, S, h, ht, by omega, by omega, by omega, h2⟩⟩
   case round =>
    obtain ⟨k, hk, rfl, HR⟩ := hrel
    clear S6
    by_cases hlt : k < len
    ·obtain ⟨X, L, L0, ti, F, T, G, S, SW, tok, t0, t1, hT, hC⟩ := HR.out
     obtain ⟨⟨xb, xo, rfl, hxl, hx⟩, hfit⟩ := HQ.out k hlt
     have i0 : (0 : Int) ≤ (k : Int) := by omega
     have i1 : (k : Int) < (len : Int) := by omega
     generalize q k = x at *
     have hI := SW.wt.inv
     obtain ⟨sp, Fs, c0, sv⟩ := SW.wt.space
     have ON := dvOn_at x.sx.core sv
     have HDW := fun w' (h : WtAt w' b X L L0 ti F) => wtDo_any x.sx hfit w' h (by omega)
     have hI' := Pg.inv_step hI x.sx
     have hz := Pg.go_sizes hI x.sx
     have tok' := Pg.tok_step hI tok x.sx
     have HCH := fun w' (h : TmAt w' t T G) => tmChange_any x.sx hfit.1 (X.goE x.sx) w' h tok.one (by omega)
     have CN : Hid ((X.goN x.sx).C.length = cn) := by rw [Hid, hz.2]; exact hC
     have TI : Hid (0 ≤ ti + X.chg x.sx ∧ ti + X.chg x.sx ≤ (k : Int) + 1) := by
      unfold Hid Pg.Spc.chg
      split <;> omega
     have TLE : Hid (T.L.length ≤ 1000) := by unfold Hid; omega
     have ONE := tok'.one
     have TNX : Hid ((T.next x.sx (X.goE x.sx)).L.length ≤ k + 2) := by
      have := next_len T x.sx (X.goE x.sx)
      unfold Hid
      omega
     have WFQ : Hid (Pg.fits (X.walkOf x.sx.core).q) := Pg.walk_fits hI _
     have ACC : Hid ((X.goE x.sx).ended = true → (X.goE x.sx).c = 0 ∧ 0 ≤ x.sx.core ∧ x.sx.core < cn) := fun he => by
      have hw := Pg.was_right hI tok x.sx he (s := 0) (by have := tok.one; omega)
      rw [hC] at hw
      exact ⟨hw.1, hw.2.1, hw.2.2.1⟩
     have ACA : Hid (X.busy = false → (X.goE x.sx).ended = true → x.sx.kind = 4 → (X.goE x.sx).a = Pg.ansE L x.sx.q x.sx.k x.sx.u ∧ (X.goE x.sx).f = Pg.ansF L x.sx.q x.sx.k x.sx.u ∧ (X.goE x.sx).r = Pg.ansR L x.sx.q x.sx.k x.sx.u) := fun hb he h4 => by
      rcases Pg.now_right hI x.sx he (fun _ => hb) with ⟨_, h⟩ | ⟨h5, _⟩
      ·exact h
      ·omega
     have ACB : Hid ((X.goE x.sx).ended = true → ¬ (x.sx.kind = 4 ∧ (X.goE x.sx).c = 0) → (X.goE x.sx).a = Pg.ansE L (X.walkOf x.sx.core).q (X.walkOf x.sx.core).k (X.walkOf x.sx.core).u ∧ (X.goE x.sx).f = Pg.ansF L (X.walkOf x.sx.core).q (X.walkOf x.sx.core).k (X.walkOf x.sx.core).u ∧ (X.goE x.sx).r = Pg.ansR L (X.walkOf x.sx.core).q (X.walkOf x.sx.core).k (X.walkOf x.sx.core).u) := fun he hn => by
      obtain ⟨h0, _, h1, _, hx⟩ := Pg.ended_right hI x.sx he
      rcases hx with ⟨h4, _⟩ | ⟨_, _, h⟩
      ·exact absurd ⟨h4, h0⟩ hn
      ·have ew : X.walkOf x.sx.core = (X.at' x.sx.core).K := by
        unfold Pg.Spc.walkOf Pg.Spc.at'
        rw [if_pos h1]
       rw [ew]
       exact h
     have TNOW : Hid (T.L.getD (T.L.length - 1) [] = L) := tok.now
     have ONE0 := tok.one
     have HBU := fun w' (h : DvAt w' sp X Fs) => devFace.busy w' h
     have ACR : Hid (x.sx.kind = 4 ∧ (X.goE x.sx).c = 0 → 0 ≤ x.sx.core ∧ x.sx.core < cn) := fun h => by
      have := code_range x.sx (.inl h.1) h.2
      rw [hC] at this
      exact this
     have TOK' : Hid _ := tok'
     have SWH : Hid _ := SW
     have HFQ : Hid (Pg.fits x.sx.q) := hfit.2.2.2.2.1
     clear HR hI hI' hz tok tok' SW t0 t1 hT hC hfit
     generalize hE : X.goE x.sx = E at *
     generalize hN : X.goN x.sx = X' at *
     generalize X.nxL L x.sx = L' at *
     generalize X.nxP L L0 x.sx = L0' at *
     generalize X.chg x.sx = cg at *
     generalize T.next x.sx E = T' at *
     clear hE hN
     obtain ⟨kd, cr, ⟨mp, ms, mf, mr⟩, xq, xk, xu⟩ := x
     obtain ⟨x0, x1, x2, x3, x4, x5, x6, x7, x8⟩ := hx
     have XS : Hid (∀ w', Below W.heap.size W w' → w'.cell? ⟨xb, xo + k * 9, none⟩ = some (.int .i64 kd) ∧ w'.cell? ⟨xb, xo + k * 9 + 1, none⟩ = some (.int .i64 cr) ∧ w'.cell? ⟨xb, xo + k * 9 + 2, none⟩ = some (.int .i64 mp) ∧ w'.cell? ⟨xb, xo + k * 9 + 3, none⟩ = some (.int .i64 ms) ∧ w'.cell? ⟨xb, xo + k * 9 + 4, none⟩ = some (.int .i64 mf) ∧ w'.cell? ⟨xb, xo + k * 9 + 5, none⟩ = some (.int .i64 mr) ∧ w'.cell? ⟨xb, xo + k * 9 + 6, none⟩ = some (.int .i64 xq) ∧ w'.cell? ⟨xb, xo + k * 9 + 7, none⟩ = some (.int .i64 xk) ∧ w'.cell? ⟨xb, xo + k * 9 + 8, none⟩ = some (.bool xu)) := fun w' hb =>
      ⟨(hb.cell (p := ⟨xb, _, none⟩) hxl).trans x0, (hb.cell (p := ⟨xb, _, none⟩) hxl).trans x1, (hb.cell (p := ⟨xb, _, none⟩) hxl).trans x2, (hb.cell (p := ⟨xb, _, none⟩) hxl).trans x3, (hb.cell (p := ⟨xb, _, none⟩) hxl).trans x4, (hb.cell (p := ⟨xb, _, none⟩) hxl).trans x5, (hb.cell (p := ⟨xb, _, none⟩) hxl).trans x6, (hb.cell (p := ⟨xb, _, none⟩) hxl).trans x7, (hb.cell (p := ⟨xb, _, none⟩) hxl).trans x8⟩
     clear x0 x1 x2 x3 x4 x5 x6 x7 x8
     obtain ⟨ec, en, ea, ef, er, eb⟩ := E
     simp only [Bst.sx, Pg.Sx.val, Pg.Ev.val] at HDW HCH ON ACC ACA ACB ACR WFQ HFQ
     generalize X.walkOf cr = K at *
     generalize X.busy = bz at *
     obtain ⟨ko, kq, kk, ku, kt, kl, kx⟩ := K
     simp only at ON ACB WFQ
     obtain ⟨x0, x1, x2, x3, x4, x5, x6, x7, x8⟩ := XS.out _ SWH.out.bel
     go_wp2_with fail
     refine ON.mono ?_
     rintro e w2 ⟨rfl, hb2⟩
     obtain ⟨W3, hW3⟩ : ∃ W3, W3 = w2.alloc (.cells #[.int .i64 kq, .int .i64 kk, .bool ku] 33) := ⟨_, rfl⟩
     have hb3 : Below w2.heap.size w2 W3 := by rw [hW3]; exact zA (zR _) _
     have A3 : AcAt W3 w2.heap.size kq kk ku := by rw [hW3]; exact .made _ _ _ _ _
     have P2 := SWH.out.grow hb2
     have P3 := P2.grow hb3
     have HD := HDW _ P3.wt
     have NA : ¬ F w2.heap.size ∧ ¬ G w2.heap.size ∧ w2.heap.size ≠ g := ⟨fun e => by have := P2.wt.lt e; omega, fun e => by have := P2.tm.lt e; omega, fun e => by have := P2.gl; omega⟩
     have HA0 : W.heap.size ≤ w2.heap.size := P2.bel.size
     have hal : w2.heap.size < W3.heap.size := A3.lt
     have P3 : Hid _ := P3
     have A3 : Hid _ := A3
     have BU := HBU W3 (devFace.grow (devFace.grow sv hb2) hb3)
     have c3 := cell_later hb3 (cell_later hb2 c0)
     clear hb2 hb3 P2 ON x0 x1 x2 x3 x4 x5 x6 x7 x8 c0 SWH HD HBU sv
     go_upto_region 15 with fail
     rw [← hW3]
     clear hW3
     generalize w2.heap.size = ab at *
     go_wp2_with fail
     refine BU.mono ?_
     rintro e w3b ⟨rfl, hb3b⟩
     have A3 : Hid _ := A3.out.of_block (hb3b.block ab hal)
     have hal : ab < w3b.heap.size := Nat.lt_of_lt_of_le hal hb3b.size
     have P3 : Hid _ := P3.out.grow hb3b
     have HD := HDW _ P3.out.wt
     clear BU hb3b c3 HDW
     obtain ⟨x0, x1, x2, x3, x4, x5, x6, x7, x8⟩ := XS.out _ P3.out.bel
     go_wp2_with fail
     refine HD.mono ?_
     rintro e w4 ⟨rfl, F4, h4, hb4, hF4⟩
     have P4 := P3.out.stepW h4 hb4 hF4
     have A4 := A3.out.of_block (hb4.block ab hal NA.1)
     have NA4 : ¬ F4 ab := fun e => (hF4 ab e).elim NA.1 (fun e => by omega)
     obtain ⟨W5, hW5⟩ : ∃ W5, W5 = (w4.alloc (.cells #[.int .i64 ec, .bool en, .int .i64 ea, .int .i64 ef, .int .i64 er, .bool eb] 39)).alloc (.cells #[.int .i64 0, .int .i64 0] 27) := ⟨_, rfl⟩
     have hb5 : Below w4.heap.size w4 W5 := by rw [hW5]; exact zA (zA (zR _) _) _
     have EV5 : W5.heap[w4.heap.size]? = some (.cells #[.int .i64 ec, .bool en, .int .i64 ea, .int .i64 ef, .int .i64 er, .bool eb] 39 (0, 0)) := by
      rw [hW5, Below.heap_alloc _ _ _ (by simp)]
      exact heap_alloc_new _ _
     have f0 : W5.cell? ⟨w4.heap.size + 1, 0, none⟩ = some (.int .i64 0) := by rw [hW5]; simp [go_sem]
     have NE : ¬ F4 w4.heap.size ∧ ¬ G w4.heap.size ∧ w4.heap.size ≠ g ∧ w4.heap.size ≠ ab := ⟨fun e => by have := P4.wt.lt e; omega, fun e => by have := P4.tm.lt e; omega, fun e => by have := P4.gl; omega, fun e => by have := A4.lt; omega⟩
     have P5 : Hid _ := P4.grow hb5
     have A5 : Hid _ := A4.of_block (hb5.block ab A4.lt)
     have EVH : Hid _ := EV5
     clear HD h4 hb4 hF4 P4 A4 P3 A3 x0 x1 x2 x3 x4 x5 x6 x7 x8 hb5 hal
     go_upto_region 17 with fail
     rw [← hW5]
     clear hW5
     generalize w4.heap.size = eb' at *
     obtain ⟨x0, x1, x2, x3, x4, x5, x6, x7, x8⟩ := XS.out _ P5.out.bel
     obtain ⟨⟨e0, e1, e2, e3, e4, e5⟩, _⟩ := row6a EV5
     go_cut [78] from 34 to 134 (fun s78 wd => ∃ sb : Bool, s78 = .bool sb ∧ (sb = true ↔ kd = 4 ∧ ec = 0) ∧ wd = W5)
     case first =>
      as_aux_lemma =>
      by_cases h4 : kd = 4
      ·subst h4
       by_cases h0 : ec = 0
       ·subst h0
        go_wp2_with fail
        go_meet
        case rel => exact ⟨true, rfl, by simp, rfl⟩
       ·have h0' : (ec == 0) = false := by simpa using h0
        go_wp2_with fail
        go_meet
        case rel => exact ⟨false, rfl, by simp [h0], rfl⟩
      ·have h4' : (kd == 4) = false := by simpa using h4
       go_wp2_with fail
       go_meet
       case rel => exact ⟨false, rfl, by simp [h4], rfl⟩
     case rest =>
     obtain ⟨sb, rfl, hsb, hwc⟩ := hcut
     have hwc := hwc.symm
     subst hwc
     have HSB : Hid _ := hsb
     clear hsb
     go_upto_if 78 with fail
     go_cut [14] from 34 to 134 (fun s14 wd => Hid (∃ S' aq ak au, Wtt W wd b t g cn X' L' L0' (ti + cg) F4 T G S' ∧ AcAt wd ab aq ak au ∧ wd.heap[eb']? = some (.cells #[.int .i64 ec, .bool en, .int .i64 ea, .int .i64 ef, .int .i64 er, .bool eb] 39 (0, 0)) ∧ Pg.fits aq ∧ (en = true → S'.getD cr.toNat 0 = (T.L.length : Int) → ea = Pg.ansE L aq ak au ∧ ef = Pg.ansF L aq ak au ∧ er = Pg.ansR L aq ak au)))
     case first =>
      as_aux_lemma =>
      cases sb
      ·have hnA : ¬ (kd = 4 ∧ ec = 0) := fun h => by have := HSB.out.2 h; cases this
       go_wp2_with fail
       go_meet
       case rel => exact ⟨S, kq, kk, ku, P5.out, A5.out, EVH.out, WFQ.out, fun he _ => ACB.out he hnA⟩
      ·have hA := HSB.out.1 rfl
       obtain ⟨r1, r2⟩ := ACR.out hA
       obtain ⟨c, rfl⟩ := Int.eq_ofNat_of_zero_le r1
       obtain ⟨a0, a1, a2, az⟩ := A5.out
       obtain ⟨tg, tcap, tc⟩ := P5.out.tm.c0 ONE0
       have hc : c < cn := by omega
       have gc := P5.out.row c hc
       have gz := P5.out.rz
       have j0 : (0 : Int) ≤ (c : Int) := by omega
       have j1 : (c : Int) < (cn : Int) := by omega
       have n1 : ab ≠ g := NA.2.2
       have n2 : g ≠ ab := fun e => NA.2.2 e.symm
       have ntm : t ≠ ab := fun e => NA.2.1 (by obtain ⟨D, h, rfl⟩ := P5.out.tm; exact e ▸ (.inl rfl))
       obtain ⟨W6, hW6⟩ : ∃ W6, W6 = ((W5.setCell ⟨ab, 0, none⟩ (.int .i64 xq)).setCell ⟨ab, 1, none⟩ (.int .i64 xk)).setCell ⟨ab, 2, none⟩ (.bool xu) := ⟨_, rfl⟩
       have B6 : But (fun k => k = ab) W5 W6 := by rw [hW6]; exact but3 W5 ab _ _ _
       have P6 := P5.out.beside B6 NA4 NA.2.1 NA.2.2 HA0
       have A6 : AcAt W6 ab xq xk xu := by rw [hW6]; exact A5.out.set xq xk xu
       have hle : eb' < W5.heap.size := (Array.getElem?_eq_some_iff.1 EVH.out).1
       have E6 := (B6.block eb' hle NE.2.2.2).trans EVH.out
       have P7 := P6.set hc (T.L.length : Int)
       have A7 := A6.of_block ((but_set W6 g c (.int .i64 (T.L.length : Int))).block ab A6.lt NA.2.2)
       have E7 := ((but_set W6 g c (.int .i64 (T.L.length : Int))).block eb' (Nat.lt_of_lt_of_le hle B6.size) NE.2.2.1).trans E6
       have tc6 := (B6.cell (a := ⟨t, 0, none⟩) (World.block_lt_of_cell? _ _ tc) ntm).trans tc
       have gc6 := P6.row c hc
       have gz6 := P6.rz
       have P7 : Hid _ := P7
       have A7 : Hid _ := A7
       have E7 : Hid _ := E7
       clear P6 A6 E6 B6 EVH
       cases bz
       ·have R : Hid (en = true → (S.set c (T.L.length : Int)).getD c 0 = (T.L.length : Int) → ea = Pg.ansE L xq xk xu ∧ ef = Pg.ansF L xq xk xu ∧ er = Pg.ansR L xq xk xu) := fun he _ => ACA.out rfl he hA.1
        clear P5 A5
        go_upto_region 19 with fail
        rw [← hW6]
        clear hW6 tc gc gz a0 a1 a2 az x0 x1 x2 x3 x4 x5 x6 x7 x8 e0 e1 e2 e3 e4 e5
        go_wp2_with fail
        go_meet
        case rel => exact ⟨S.set c (T.L.length : Int), xq, xk, xu, P7.out, A7.out, E7.out, HFQ.out, by rw [Int.toNat_natCast]; exact R.out⟩
       ·have P8 := P7.out.set hc (-1 : Int)
        have A8 := A7.out.of_block ((but_set (W6.setCell ⟨g, c, none⟩ (.int .i64 (T.L.length : Int))) g c (.int .i64 (-1))).block ab A7.out.lt NA.2.2)
        have E8 := ((but_set (W6.setCell ⟨g, c, none⟩ (.int .i64 (T.L.length : Int))) g c (.int .i64 (-1))).block eb' (Array.getElem?_eq_some_iff.1 E7.out).1 NE.2.2.1).trans E7.out
        have R : Hid (en = true → ((S.set c (T.L.length : Int)).set c (-1)).getD c 0 = (T.L.length : Int) → ea = Pg.ansE L xq xk xu ∧ ef = Pg.ansF L xq xk xu ∧ er = Pg.ansR L xq xk xu) := fun he hv => by
         exfalso
         rw [Pg.set_getD (by rw [P7.out.len]; exact hc), if_pos rfl] at hv
         omega
        obtain ⟨W7, hW7⟩ : ∃ W7, W7 = W6.setCell ⟨g, c, none⟩ (.int .i64 (T.L.length : Int)) := ⟨_, rfl⟩
        have gc7 := P7.out.row c hc
        have gz7 := P7.out.rz
        rw [← hW7] at P8 A8 E8 gc7 gz7
        have P8 : Hid _ := P8
        have A8 : Hid _ := A8
        have E8 : Hid _ := E8
        clear P5 A5 P7 A7 E7
        go_upto_region 19 with fail
        rw [← hW6]
        clear hW6 tc gc gz a0 a1 a2 az x0 x1 x2 x3 x4 x5 x6 x7 x8 e0 e1 e2 e3 e4 e5
        go_upto_region 21 with fail
        rw [← hW7]
        clear hW7 gc6 gz6 tc6
        go_wp2_with fail
        go_meet
        case rel => exact ⟨(S.set c (T.L.length : Int)).set c (-1), xq, xk, xu, P8.out, A8.out, E8.out, HFQ.out, by rw [Int.toNat_natCast]; exact R.out⟩
     case rest =>
     obtain ⟨S', aq, ak, au, P6, A6, E6, FQ6, R6⟩ := hcut.out
     have P6 : Hid _ := P6
     have A6 : Hid _ := A6
     have E6 : Hid _ := E6
     have R6 : Hid _ := R6
     clear hcut P5 A5 EVH EV5 ACA ACB ACR HSB x0 x1 x2 x3 x4 x5 x6 x7 x8 e0 e1 e2 e3 e4 e5 f0
     go_upto_region 22 with fail
     go_cut [127] from 34 to 134 (fun s127 wd => s127 = .bool false ∧ Hid (Below wc.heap.size wc wd))
     case first =>
      cases en
      ·as_aux_lemma =>
       obtain ⟨⟨e0, e1, e2, e3, e4, e5⟩, _⟩ := row6a E6.out
       go_quiet (fail)
       go_wp2_with fail
       go_meet
       case rel => exact ⟨rfl, below_drewN (zR wc) _⟩
      ·as_aux_lemma =>
       obtain ⟨r0, r1, r2⟩ := ACC.out rfl
       subst r0
       obtain ⟨c, rfl⟩ := Int.eq_ofNat_of_zero_le r1
       have hc : c < cn := by omega
       have gc := P6.out.row c hc
       obtain ⟨⟨e0, e1, e2, e3, e4, e5⟩, _⟩ := row6a E6.out
       obtain ⟨a0, a1, a2, az⟩ := A6.out
       obtain ⟨tg, tcap, tc⟩ := P6.out.tm.c0 ONE0
       have j0 : (0 : Int) ≤ (c : Int) := by omega
       have j1 : (c : Int) < (cn : Int) := by omega
       by_cases hv : S'.getD c 0 = (T.L.length : Int)
       ·obtain ⟨w3, w4, w5⟩ := R6.out rfl (by rw [Int.toNat_natCast]; exact hv)
        rw [hv] at gc
        have P7 : Hid _ := P6.out.grow (zR wc).drew
        obtain ⟨Dm, hm, hGm⟩ := P7.out.tm
        have NOW := tmNow_any _ hm ONE0 (by have := TLE.out; omega)
        have ANS : Hid (∀ w', Below wc.drew.heap.size wc.drew w' → Calls Tryz.prog 32 #[.pointer (some ⟨Dm.cb (T.L.length - 1), 0, none⟩), .agg #[.int .i64 aq, .int .i64 ak, .bool au]] w' fun e w'' => e = .returned (.agg #[.int .i64 ea, .int .i64 ef, .int .i64 er]) ∧ Below w'.heap.size w' w'') := fun w' hb => by
         have := refAnswer_any aq ak au FQ6 w' ((hm.grow hb).book (T.L.length - 1) (by omega))
         rw [TNOW.out, ← w3, ← w4, ← w5] at this
         exact this
        have C7 : Hid ((wc.drew.cell? ⟨eb', 1, none⟩ = some (.bool true) ∧ wc.drew.cell? ⟨eb', 2, none⟩ = some (.int .i64 ea) ∧ wc.drew.cell? ⟨eb', 3, none⟩ = some (.int .i64 ef) ∧ wc.drew.cell? ⟨eb', 4, none⟩ = some (.int .i64 er)) ∧ wc.drew.cell? ⟨g, c, none⟩ = some (.int .i64 (T.L.length : Int)) ∧ wc.drew.cell? ⟨t, 0, none⟩ = some (.slice (some ⟨tg, 0, none⟩) T.L.length tcap) ∧ wc.drew.cell? ⟨ab, 0, none⟩ = some (.int .i64 aq) ∧ wc.drew.cell? ⟨ab, 1, none⟩ = some (.int .i64 ak) ∧ wc.drew.cell? ⟨ab, 2, none⟩ = some (.bool au)) := ⟨⟨e1, e2, e3, e4⟩, gc, tc, a0, a1, a2⟩
        clear w3 w4 w5 R6 hm hv hGm
        go_region_held3 (fun w' => (w'.cell? ⟨eb', 1, none⟩ = some (.bool true) ∧ w'.cell? ⟨eb', 2, none⟩ = some (.int .i64 ea) ∧ w'.cell? ⟨eb', 3, none⟩ = some (.int .i64 ef) ∧ w'.cell? ⟨eb', 4, none⟩ = some (.int .i64 er)) ∧ w'.cell? ⟨g, c, none⟩ = some (.int .i64 (T.L.length : Int)) ∧ w'.cell? ⟨t, 0, none⟩ = some (.slice (some ⟨tg, 0, none⟩) T.L.length tcap) ∧ w'.cell? ⟨ab, 0, none⟩ = some (.int .i64 aq) ∧ w'.cell? ⟨ab, 1, none⟩ = some (.int .i64 ak) ∧ w'.cell? ⟨ab, 2, none⟩ = some (.bool au)) (go_keep) (first
         | (go_at_call 32; refine (ANS.out _ H8.out).mono ?_; rintro z w9 ⟨rfl, hb9⟩; obtain ⟨⟨z1, z2, z3, z4⟩, z5, z6, z7, z8, z9⟩ := C8.out; have z1 := cell_later hb9 z1; have z2 := cell_later hb9 z2; have z3 := cell_later hb9 z3; have z4 := cell_later hb9 z4; have z5 := cell_later hb9 z5; have z6 := cell_later hb9 z6; have z7 := cell_later hb9 z7; have z8 := cell_later hb9 z8; have z9 := cell_later hb9 z9; have C9 : Hid _ := (⟨⟨z1, z2, z3, z4⟩, z5, z6, z7, z8, z9⟩ : (_ ∧ _ ∧ _ ∧ _) ∧ _ ∧ _ ∧ _ ∧ _ ∧ _); have B9 : Hid (Below wc.heap.size wc w9) := zT B8.out hb9; clear hb9)
         | (go_at_call 31; refine NOW.mono ?_; rintro z w8 ⟨rfl, hb8⟩; obtain ⟨⟨z1, z2, z3, z4⟩, z5, z6, z7, z8, z9⟩ := C7.out; have z1 := cell_later hb8 z1; have z2 := cell_later hb8 z2; have z3 := cell_later hb8 z3; have z4 := cell_later hb8 z4; have z5 := cell_later hb8 z5; have z6 := cell_later hb8 z6; have z7 := cell_later hb8 z7; have z8 := cell_later hb8 z8; have z9 := cell_later hb8 z9; have C8 : Hid _ := (⟨⟨z1, z2, z3, z4⟩, z5, z6, z7, z8, z9⟩ : (_ ∧ _ ∧ _ ∧ _) ∧ _ ∧ _ ∧ _ ∧ _ ∧ _); have H8 : Hid (Below wc.drew.heap.size wc.drew w8) := hb8; have B8 : Hid (Below wc.heap.size wc w8) := zT (zR wc).drew hb8; clear hb8))
        all_goals
         go_wp2_with fail
         go_meet
         case rel => exact ⟨rfl, B9.out⟩
       ·have hv' : (S'.getD c 0 == (T.L.length : Int)) = false := by simpa using hv
        generalize S'.getD c 0 = vv at *
        clear hv
        go_quiet (fail)
        go_wp2_with fail
        go_meet
        case rel => exact ⟨rfl, below_drewN (zR wc) _⟩
     case rest =>
     obtain ⟨rfl, HB7⟩ := hcut
     have P8 : Hid _ := (P6.out.grow HB7.out).grow (zR _).drew
     have E8 := (HB7.out.block eb' (Array.getElem?_eq_some_iff.1 E6.out).1).trans E6.out
     have X8 := (P6.out.grow HB7.out).bel
     have E8 : Hid _ := E8
     have X8 : Hid _ := X8
     have NEG : Hid (¬ G eb') := NE.2.1
     clear P6 A6 E6 R6 HB7
     go_upto_region 24 with fail
     obtain ⟨⟨e0, e1, e2, e3, e4, e5⟩, _⟩ := row6a E8.out
     obtain ⟨x0, x1, x2, x3, x4, x5, x6, x7, x8⟩ := XS.out _ X8.out
     have hel := (Array.getElem?_eq_some_iff.1 E8.out).1
     go_region_held3 (fun w' => (w'.cell? ⟨eb', 0, none⟩ = some (.int .i64 ec) ∧ w'.cell? ⟨eb', 1, none⟩ = some (.bool en) ∧ w'.cell? ⟨eb', 2, none⟩ = some (.int .i64 ea) ∧ w'.cell? ⟨eb', 3, none⟩ = some (.int .i64 ef) ∧ w'.cell? ⟨eb', 4, none⟩ = some (.int .i64 er) ∧ w'.cell? ⟨eb', 5, none⟩ = some (.bool eb)) ∧ w'.cell? ⟨xb, xo + k * 9, none⟩ = some (.int .i64 kd) ∧ w'.cell? ⟨xb, xo + k * 9 + 1, none⟩ = some (.int .i64 cr) ∧ w'.cell? ⟨xb, xo + k * 9 + 2, none⟩ = some (.int .i64 mp) ∧ w'.cell? ⟨xb, xo + k * 9 + 3, none⟩ = some (.int .i64 ms) ∧ w'.cell? ⟨xb, xo + k * 9 + 4, none⟩ = some (.int .i64 mf) ∧ w'.cell? ⟨xb, xo + k * 9 + 5, none⟩ = some (.int .i64 mr) ∧ w'.cell? ⟨xb, xo + k * 9 + 6, none⟩ = some (.int .i64 xq) ∧ w'.cell? ⟨xb, xo + k * 9 + 7, none⟩ = some (.int .i64 xk) ∧ w'.cell? ⟨xb, xo + k * 9 + 8, none⟩ = some (.bool xu)) (go_keep) (first | (go_at_call 26; refine (HCH _ P8.out.tm).mono ?_; rintro z w9 ⟨rfl, hd9⟩; obtain ⟨_, _, hb9, _⟩ := id hd9; have E9 : Hid _ := (hb9.block eb' hel NEG.out).trans E8.out; obtain ⟨G9, P9⟩ := P8.out.stepT hd9; have P9 : Hid _ := P9; obtain ⟨⟨u0, u1, u2, u3, u4, u5⟩, _⟩ := row6a E9.out; obtain ⟨v0, v1, v2, v3, v4, v5, v6, v7, v8⟩ := XS.out _ P9.out.bel; clear hb9 hd9))
     as_aux_lemma =>
     clear e0 e1 e2 e3 e4 e5 x0 x1 x2 x3 x4 x5 x6 x7 x8 u0 u1 u2 u3 u4 u5 v0 v1 v2 v3 v4 v5 v6 v7 v8 HCH
     go_wp2_with fail
     go_roundw
     case rel => exact ⟨k + 1, by omega, by go_num, ⟨_, _, _, _, _, _, _, S', P9.out, TOK'.out, TI.out.1, by have := TI.out.2; omega, by have := TNX.out; omega, CN.out⟩⟩
     case measure => simp [intOf]; omega
    ·have i1 : ¬ (k : Int) < (len : Int) := by omega
     obtain ⟨X, L, L0, ti, F, T, G, S, h, _⟩ := HR.out
     have HB : Hid _ := h.bel
     clear HR h
     go_wp2_with fail
     go_ret
     exact ⟨rfl, HB.out⟩
set_option maxRecDepth 100000 in
theorem watchNow_lifted (os : Os) (started : os.Started) (H : Type) (enc : TypeId × Value → H) :
 ReturnsInHanded {} Tryz.checked os 7 .any (Rows.watchNowSpec.pre6 enc Tryz.prog Tryz.f7 Rows.watchNowRow.domain false) (Rows.watchNowSpec.post enc Tryz.prog Tryz.f7 false true false false) := by
 refine returnsInHanded_of_change (C := Tryz.checked) own started (by kernel_rfl) Tryz.func7
  (ChangeSpec.witness6 (enc := enc) (C := Tryz.checked) false ⟨#[], #[.int .i64 0, .int .i64 0, .slice none 0 0], []⟩ 8 (by kernel_rfl) (by kernel_rfl) (by kernel_rfl) (by kernel_rfl)) ?_
 intro W base args ds gs before hval0 hW hcnd _
 have hval : ∀ (j : Nat) t v, Tryz.f7.params[j]? = some t → args[j]? = some v → Value.okWide Tryz.prog W .any base t v := hval0
 have hW' := hW
 obtain ⟨p, q, hA0, hV, rfl, hfz, hnd⟩ := hW
 have hA : DataW.TrodAll enc Tryz.prog W 0 (fun _ => true) true Tryz.f7.params.toList args.toList ds p := hA0
 rw [Tryz.params7] at hA hval
 obtain ⟨v0, vs0, d0, ds0, p0, q0, hargs, rfl, rfl, h0, r0⟩ := trodAll_cons hA
 obtain ⟨v1, vs1, d1, ds1, p1, q1, rfl, rfl, rfl, h1, r1⟩ := trodAll_cons r0
 obtain ⟨v2, vs2, d2, ds2, p2, q2, rfl, rfl, rfl, h2, r2⟩ := trodAll_cons r1
 obtain ⟨rfl, rfl, rfl⟩ := trodAll_nil r2
 obtain rfl : args = #[v0, v1, v2] := by cases args; simp_all
 obtain ⟨rfl, rfl⟩ := trodVars_none hV
 obtain ⟨a0a, rfl, f0a⟩ := openInt (hval 0 3 v0 rfl rfl) h0
 obtain ⟨a1a, rfl, f1a⟩ := openInt (hval 1 3 v1 rfl rfl) h1
 obtain ⟨a2a, a2b, a2c, a2d, rfl, f2a⟩ := openBsts (hval 2 22 v2 rfl rfl) h2
 clear hA0 hval0
 refine (watchNow_walk W a0a f0a a1a f1a a2a a2b a2c a2d f2a).mono fun e W' ⟨he, bel⟩ => ?_
 subst he
 exact ⟨_, rfl, _, _, _, [], _, [], hW', trodAll_mk1 (shut_bool Tryz.underlying4 _), (trodAll_cons_mk (stays (by kernel_rfl) (of_decide_eq_true (by kernel_rfl)) h0 bel) (trodAll_cons_mk (stays (by kernel_rfl) (of_decide_eq_true (by kernel_rfl)) h1 bel) (trodAll_cons_mk (stays (by kernel_rfl) (of_decide_eq_true (by kernel_rfl)) h2 bel) trodAll_mk0))), rfl, bel.frame _, fun h => by cases h⟩
theorem watchNow_over : Rows.watchNowRow.holds Tryz.pinned (OpenSpec.ofChange Rows.watchNowSpec) :=
 OpenClaim.holds_of_wide 7 Tryz.f7 rfl rfl rfl rfl rfl rfl rfl ⟨rfl, rfl, rfl, rfl, rfl⟩ rfl rfl rfl rfl rfl (by kernel_rfl) Tryz.func7 (by kernel_rfl)
  (of_decide_eq_true (by kernel_rfl)) (by unfold Func.isWrapper; first | (rw [if_pos (by decide +kernel)]; kernel_rfl) | (rw [if_neg (by decide +kernel)]; exact ⟨rfl, rfl⟩))
  (fun os started H enc _ => watchNow_lifted os started H enc)
theorem watchNow_proved : Rows.WatchNowSaid := watchNow_over
#print axioms watchNow_proved
end Go.Proofs.YtjdiaebgidgmaafGreat
