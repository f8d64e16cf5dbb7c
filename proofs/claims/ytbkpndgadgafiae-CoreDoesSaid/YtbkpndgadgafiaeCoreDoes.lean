
/-
  CoreDoes is true for every argument: every Begin, Step, Told, Busy, Access, Evict, Find and List of a core is as the document's own core says.
-/
import Derived.Test.YtbkpndgadgafiaeCQ
import Derived.Test.YtbkpndgadgafiaeMixQ
import Derived.Test.YtbkpndgadgafiaeTlbKept
import Derived.Deep.DeepCutAuto
import Derived.Test.YtbkpndgadgafiaeRows
namespace Go.Proofs.Ytbkpndgadgafiae
open Go.ChangeShapes Go.WideShapes Go.ChangeAt Go.RowKit Go.Joins Go.Deep Go.Sort
set_option maxRecDepth 100000
set_option linter.unusedVariables false
set_option linter.unusedSimpArgs false
attribute [local go_sem] Loose.gent Loose.gentI Loose.gentR Loose.relUpon

theorem crF_grow {b bk N : Nat} {Ft Ft' : Nat → Prop} (h : ∀ k, Ft' k → Ft k ∨ N ≤ k) : ∀ k, crF b bk Ft' k → crF b bk Ft k ∨ N ≤ k := fun k hk => by
  rcases hk with hk | hk | hk
  · exact .inl (.inl hk)
  · exact .inl (.inr (.inl hk))
  · exact (h k hk).imp (fun h => .inr (.inr h)) id

set_option maxHeartbeats 8000000 in
theorem coreDoes_walk (W : World) (n : Int) (hn : Pg.fits n) (taken : Int) (htk : Pg.fits taken) (ad : Option Addr) (len cap : Nat) (q : Nat → Int) (hq : WordsAt W ad len q) (ad' : Option Addr) (len' cap' : Nat) (q' : Nat → Cst)
    (hq' : ∀ j, j < len' → (∃ b o, ad' = some ⟨b, o, none⟩ ∧ b < W.heap.size ∧ CstAt W b (o + j * 11) (q' j)) ∧ CstFits (q' j)) :
    Calls Try.prog 3 #[.int .i64 n, .int .i64 taken, .slice ad len cap, .slice ad' len' cap'] W fun e W' => e = .returned (.bool true) ∧ Below W.heap.size W W' := by
  have HQ : Hid _ := hq
  have HQ' : Hid _ := hq'
  clear hn htk hq hq'
  have hcase : decide (n < 0) = true ∨ (decide (n < 0) = false ∧ decide (128 < n) = true) ∨ (decide (n < 0) = false ∧ decide (128 < n) = false ∧ (2000 : Int) < (len : Int)) ∨ (decide (n < 0) = false ∧ decide (128 < n) = false ∧ decide ((2000 : Int) < (len : Int)) = false ∧ (300 : Int) < (len' : Int)) ∨ (decide (n < 0) = false ∧ decide (128 < n) = false ∧ decide ((2000 : Int) < (len : Int)) = false ∧ decide ((300 : Int) < (len' : Int)) = false ∧ 0 ≤ n ∧ n ≤ 128 ∧ len ≤ 2000 ∧ len' ≤ 300) := by
    by_cases h0 : n < 0
    · exact .inl (by simpa using h0)
    · by_cases h1 : 128 < n
      · exact .inr (.inl ⟨by simpa using h0, by simpa using h1⟩)
      · by_cases h2 : 2000 < len
        · exact .inr (.inr (.inl ⟨by simpa using h0, by simpa using h1, by omega⟩))
        · by_cases h3 : 300 < len'
          · exact .inr (.inr (.inr (.inl ⟨by simpa using h0, by simpa using h1, by simp; omega, by omega⟩)))
          · exact .inr (.inr (.inr (.inr ⟨by simpa using h0, by simpa using h1, by simp; omega, by simp; omega, by omega, by omega, by omega, by omega⟩)))
  rcases hcase with h0 | ⟨h0, h1⟩ | ⟨h0, h1, h2⟩ | ⟨h0, h1, h2, h3⟩ | ⟨h0, h1, h2, h3, n0, n1, hl, hl'⟩
  iterate 4 focus
    go_enter Try.func3, Try.ntmps3
    go_wp2_with fail
    refine (coreBegun_any _).mono ?_
    rintro e w1 ⟨rfl, hb1⟩
    have HB : Hid _ := hb1
    clear hb1
    go_wp2_with fail
    go_ret
    exact ⟨rfl, HB.out⟩
  obtain ⟨nn, rfl⟩ := Int.eq_ofNat_of_zero_le (show 0 ≤ n by omega)
  go_enter Try.func3, Try.ntmps3
  go_wp2_with fail
  refine (coreBegun_any _).mono ?_
  rintro e w1 ⟨rfl, hb1⟩
  have HM := memory_any nn (by omega) taken ad len cap hl q w1 (WordsAt.below HQ.out (Nat.le_refl _) hb1)
  have HB1 : Hid _ := hb1
  clear hb1
  go_wp2_with fail
  refine HM.mono ?_
  rintro e w2 ⟨bf, bm, g0, g1, vb, Ff, rfl, hS⟩
  have HS : Hid (Side W bf bm g0 g1 vb Ff (Pg.Fs.memory nn taken q len) (Pg.Fs.memory nn taken q len) w2) := ⟨bthen HB1.out hS.bel, hS.fr, hS.mem, fun k hk => Nat.le_trans HB1.out.size (hS.fhi k hk), fun k hk => Nat.le_trans HB1.out.size (hS.mhi k hk), hS.ne⟩
  clear hS HM HB1 HQ
  generalize Pg.Fs.memory nn taken q len = S0 at *
  have HN := crNew_any 0 w2
  go_wp2_with fail
  refine HN.mono ?_
  rintro e w3 ⟨bk, Fk, rfl, hk3, hb3, hbk⟩
  have P3 : Hid (Cp W _ bf bm g0 g1 vb Ff bk Fk w3.heap.size (.slice none 0 0) 0 S0 S0 Pg.Cr.new Pg.Cr.new) := Cp.start HS.out hk3 hb3 hbk
  clear hk3 hb3 hbk HN HS
  generalize hbc : w3.heap.size = bc at *
  go_wp2_with fail
  try rw [hbc]
  go_loopw [13, 14, 15, 16, 17, 18, 19, 20, 21, 22, 23, 24, 25, 26, 27, 28, 29, 30, 31] (fun i _ _ _ _ _ _ _ _ _ _ _ _ _ _ _ _ _ _ wr => ∃ k : Nat, k ≤ len' ∧ i = .int .i64 k ∧ Hid (∃ S Ff vb Fk vc C, Cp W wr bf bm g0 g1 vb Ff bk Fk bc vc 0 S S C C)) (fun i _ _ _ _ _ _ _ _ _ _ _ _ _ _ _ _ _ _ _ => len' - (intOf i).toNat)
  case atStart => exact ⟨0, by omega, rfl, ⟨_, _, _, _, _, _, P3.out⟩⟩
  case round =>
    obtain ⟨k, hk, rfl, HR⟩ := hrel
    clear P3 hbc
    obtain ⟨S, Ff, vb, Fk, vc, C, hB⟩ := HR.out
    have HB : Hid _ := hB
    clear HR hB
    by_cases hlt : k < len'
    · obtain ⟨⟨xb, xo, rfl, hxl, hx⟩, hfit⟩ := HQ'.out k hlt
      have i0 : (0 : Int) ≤ (k : Int) := by omega
      have i1 : (k : Int) < (len' : Int) := by omega
      generalize q' k = x at *
      obtain ⟨xa, xk, xi, xw, xq, xn, xu, ⟨mp, ms, mf, mr⟩⟩ := x
      obtain ⟨x0, x1, x2, x3, x4, x5, x6, x7, x8, x9, xA⟩ := hx
      have y0 := (HB.out.side.bel.cell (p := ⟨xb, xo + k * 11, none⟩) hxl).trans x0
      have y1 := (HB.out.side.bel.cell (p := ⟨xb, xo + k * 11 + 1, none⟩) hxl).trans x1
      have y2 := (HB.out.side.bel.cell (p := ⟨xb, xo + k * 11 + 2, none⟩) hxl).trans x2
      have y3 := (HB.out.side.bel.cell (p := ⟨xb, xo + k * 11 + 3, none⟩) hxl).trans x3
      have y4 := (HB.out.side.bel.cell (p := ⟨xb, xo + k * 11 + 4, none⟩) hxl).trans x4
      have y5 := (HB.out.side.bel.cell (p := ⟨xb, xo + k * 11 + 5, none⟩) hxl).trans x5
      have y6 := (HB.out.side.bel.cell (p := ⟨xb, xo + k * 11 + 6, none⟩) hxl).trans x6
      have y7 := (HB.out.side.bel.cell (p := ⟨xb, xo + k * 11 + 7, none⟩) hxl).trans x7
      have y8 := (HB.out.side.bel.cell (p := ⟨xb, xo + k * 11 + 8, none⟩) hxl).trans x8
      have y9 := (HB.out.side.bel.cell (p := ⟨xb, xo + k * 11 + 9, none⟩) hxl).trans x9
      have yA := (HB.out.side.bel.cell (p := ⟨xb, xo + k * 11 + 10, none⟩) hxl).trans xA
      simp only at y0 y1 y2 y3 y4 y5 y6 y7 y8 y9 yA
      obtain ⟨⟨f0, f1⟩, f2, f3⟩ := hfit
      simp only at f0 f1 f2 f3
      have HW : Hid (0 ≤ xw ∧ xw < 18446744073709551616) := ⟨f0, f1⟩
      have HFq : Hid (Pg.fits xq) := f2
      have HFm : Hid (Pg.fits mp) := f3
      clear x0 x1 x2 x3 x4 x5 x6 x7 x8 x9 xA HQ' f0 f1 f2 f3
      go_upto_region 13 with fail
      have HP : Hid (Cpx W (wr.alloc (.cells #[.int .i64 xa, .int .i64 xk, .int .i64 xi, .int .u64 xw, .int .i64 xq, .int .i64 xn, .bool xu, .int .i64 mp, .int .i64 ms, .int .i64 mf, .int .i64 mr] 41)) bf bm g0 g1 vb Ff bk Fk bc vc 0 wr.heap.size ⟨xa, xk, xi, xw, xq, xn, xu, ⟨mp, ms, mf, mr⟩⟩ S S C C) := by
        refine ⟨HB.out.grow (balloc (brefl _) _), ⟨?_, ?_, ?_, ?_, ?_, ?_, ?_, ?_, ?_, ?_, ?_⟩, fun hf => by have := HB.out.side.fr.lt hf; omega, fun hf => by have := HB.out.side.mem.raw.lt hf; omega, fun hf => by have := HB.out.cr.lt hf; omega, fun hf => by have := HB.out.cd.lt hf; omega, HB.out.side.bel.size⟩ <;> simp [go_sem]
      clear HB y0 y1 y2 y3 y4 y5 y6 y7 y8 y9 yA
      generalize wr.alloc (.cells #[.int .i64 xa, .int .i64 xk, .int .i64 xi, .int .u64 xw, .int .i64 xq, .int .i64 xn, .bool xu, .int .i64 mp, .int .i64 ms, .int .i64 mf, .int .i64 mr] 41) = wz at *
      generalize wr.heap.size = X at *
      have z0 := HP.out.xs.1
      simp only at z0
      go_cut [73] from 62 to 270 (fun s73 wc => s73 = .int .i64 xa ∧ wc = wz)
      case first =>
        go_wp2_with fail
        go_meet
        case rel => exact ⟨rfl, rfl⟩
      case rest =>
        obtain ⟨rfl, rfl⟩ := hcut
        clear z0
        rename_i hK1 K2 hK2
        refine hK2 _ _ ?_
        go_cut [15, 16, 17, 18, 19, 20, 21, 22, 23, 24, 25, 26, 27, 28] from 62 to 270 (fun _ _ _ _ _ _ _ _ _ _ _ _ _ _ wc => Hid (∃ S' Ff vb Fk vc C', Cpx W wc bf bm g0 g1 vb Ff bk Fk bc vc 0 X ⟨xa, xk, xi, xw, xq, xn, xu, ⟨mp, ms, mf, mr⟩⟩ S' S' C' C'))
        case first =>
          by_cases h0 : xa = 0
          · as_aux_lemma =>
            subst h0
            obtain ⟨_, _, _, _, t4, t5, t6, _, _, _, _⟩ := HP.out.xs
            simp only [Nat.zero_add] at t4 t5 t6
            have HB1 := crBegin_any xq xn xu wc HP.out.two.cr
            have HB2 := fun w' vc (h : CdAt w' bc vc C) => cdBegin_any (root := 0) xq xn xu w' h
            simp only [Pg.Tl.val] at HB1 HB2
            generalize C.bgT xq xn xu = T at *
            generalize C.bgN 0 xq xn xu = C' at *
            obtain ⟨ta, tf, tr, te, tc⟩ := T
            simp only at HB1 HB2
            have n1 : (ta != ta) = false := by simp
            have n2 : (tf != tf) = false := by simp
            have n3 : (tr != tr) = false := by simp
            have n4 : (te != te) = false := by simp
            have n5 : (tc != tc) = false := by simp
            go_wp2_with fail
            refine HB1.mono ?_
            rintro e w5 ⟨rfl, hc5, hb5⟩
            obtain ⟨W6, hW6⟩ : ∃ W6, W6 = w5.alloc (.cells #[.int .i64 ta, .int .i64 tf, .int .i64 tr] 43) := ⟨_, rfl⟩
            have hb6 : Below w5.heap.size w5 W6 := by rw [hW6]; exact balloc (brefl _) _
            have P5 : Hid _ := HP.out.leftK hc5 hb5 (fun j hj => .inl hj)
            have P6 : Hid _ := P5.out.grow hb6
            have hX5 := P5.out.xl
            have A6 : Hid (W6.cell? ⟨w5.heap.size, 0, none⟩ = some (.int .i64 ta) ∧ W6.cell? ⟨w5.heap.size, 1, none⟩ = some (.int .i64 tf) ∧ W6.cell? ⟨w5.heap.size, 2, none⟩ = some (.int .i64 tr)) := by rw [Hid, hW6]; simp [go_sem]
            have hl6 : w5.heap.size < W6.heap.size := by rw [hW6]; simp
            have N6 : Hid (¬ w5.heap.size = bc) := fun e => by have := (HP.out.two.cd.keep hb5 fun k hk e => HP.out.two.ne k e hk).lb; omega
            clear hc5 hb5 hb6 HB1 t4 t5 t6
            obtain ⟨_, _, _, _, t4, t5, t6, _, _, _, _⟩ := P5.out.xs
            simp only [Nat.zero_add] at t4 t5 t6
            go_wp2_with fail
            rw [← hW6]
            clear hW6
            refine (HB2 _ _ P6.out.two.cd).mono ?_
            rintro e w7 ⟨rfl, hc7, hb7⟩
            have P7 : Hid _ := P6.out.rightC hc7 (fun j hj => .inl hj) (hb7.mono fun _ _ h => .inl h)
            have A7 : Hid _ := A6.out
            have a0 := (hb7.cell (a := ⟨w5.heap.size, 0, none⟩) hl6 N6.out).trans A6.out.1
            have a1 := (hb7.cell (a := ⟨w5.heap.size, 1, none⟩) hl6 N6.out).trans A6.out.2.1
            have a2 := (hb7.cell (a := ⟨w5.heap.size, 2, none⟩) hl6 N6.out).trans A6.out.2.2
            have hl7 : w5.heap.size < w7.heap.size := Nat.lt_of_lt_of_le hl6 hb7.size
            have hn7 : w5.heap.size ≠ w7.heap.size := by omega
            have P8 : Hid _ := P7.out.grow (balloc (brefl w7) (.cells #[.int .i64 ta, .int .i64 tf, .int .i64 tr] 43))
            clear hc7 hb7 HB2 A6 A7 t4 t5 t6 P6 P7
            go_wp2_with fail
            go_meet
            case rel => exact ⟨_, _, _, _, _, _, P8.out⟩
          · have n0 : (xa == 0) = false := by simpa using h0
            clear h0
            by_cases h1 : xa = 1
            · as_aux_lemma =>
              subst h1
              obtain ⟨bl, hbl⟩ : ∃ bl, bl = wc.heap.size := ⟨_, rfl⟩
              obtain ⟨W5, hW5⟩ : ∃ W5, W5 = wc.alloc (.cells #[.int .i64 0, .int .i64 0, .int .i64 0, .int .i64 0, .bool false] 48) := ⟨_, rfl⟩
              have hb5 : Below wc.heap.size wc W5 := by rw [hW5]; exact balloc (brefl _) _
              have P5 : Hid _ := HP.out.grow hb5
              have hln := heap_alloc_new wc (.cells #[.int .i64 0, .int .i64 0, .int .i64 0, .int .i64 0, .bool false] 48)
              rw [← hW5] at hln
              have L5 : LnAt W5 bl 0 ⟨⟨0, 0, 0, 0⟩, false⟩ := by rw [hbl]; refine ⟨?_, ?_, ?_, ?_, ?_⟩ <;> simp [World.cell?, hln]
              have LF5 : ∀ p, W5.frozen? ⟨bl, p, none⟩ = false := fun p => by rw [hbl]; simp [World.frozen?, hln]
              have NB : Hid (¬ Ff bl ∧ ¬ memF bm g0 g1 vb bl ∧ ¬ Fk bl ∧ ¬ bkF bc vc bl ∧ W.heap.size ≤ bl ∧ bl ≠ X) := by
                rw [hbl]
                exact ⟨fun h => by have := HP.out.two.side.fr.lt h; omega, fun h => by have := HP.out.two.side.mem.raw.lt h; omega, fun h => by have := HP.out.two.cr.lt h; omega, fun h => by have := HP.out.two.cd.lt h; omega, HP.out.two.side.bel.size, fun e => by have := HP.out.xl; omega⟩
              have HB1 := cStep_any (root := 0) P5.out.two.cd.ok W5 P5.out.two.cd.ck P5.out.two.side.mem L5 LF5 (P5.out.two.nc bc (.inl rfl)).2 NB.out.2.1 (fun e => NB.out.2.2.2.1 (.inl e.symm))
              have HB2 := fun w' Fk' (h : CrAt w' bk 0 C Fk') (hf : FrAt w' bf S Ff) (hn : ∀ j, Fk' j → ¬ Ff j) => crStep_any w' h hf hn
              have HOK : Hid _ := Pg.kOut_ok HP.out.two.side.fr.ok HP.out.two.cd.ok 0
              have HFT : Hid _ := Pg.res_fits C.K (Pg.kOut S 0 C.K)
              simp only [Pg.Cr.stT, Pg.Cr.stN, Pg.Cr.stS, Pg.Wo.tl, Pg.Tl.val] at HB2
              clear hb5 L5 LF5 hln
              subst hbl
              go_wp2_with fail
              rw [← hW5]
              refine HB1.mono ?_
              rintro e w6 ⟨he6, hck6, hm6, hl6, hch6⟩
              subst he6
              generalize Pg.kOut S 0 C.K = o at *
              generalize o.res C.K = R at *
              generalize o.next C.K = K' at *
              generalize o.fs S C.K = S' at *
              generalize o.cd = cd at *
              obtain ⟨en, ra, rf, rr, ⟨lp, ls, lf, lr⟩, ld⟩ := R
              simp only at HB2 HFT hl6
              have hcd6 : CdAt w6 bc vc ⟨C.L, K'⟩ := P5.out.two.cd.stepK hck6 HOK.out hch6 (fun k hk e => by
                rcases e with e | e | e
                · exact P5.out.two.cd.co.nb (e ▸ hk)
                · exact NB.out.2.2.2.1 (.inr (e ▸ hk))
                · exact (P5.out.two.nc k (.inr hk)).2 e)
              have P6 : Hid _ := P5.out.right hcd6 hm6 rfl (fun j hj => .inl hj) hch6.but (fun j hj => by
                rcases hj with hj | hj | hj
                · exact .inl (.inl hj)
                · exact .inr (.inr ⟨hj ▸ NB.out.2.2.2.2.1, hj ▸ NB.out.1, hj ▸ NB.out.2.2.1, hj ▸ NB.out.2.2.2.2.2⟩)
                · exact .inr (.inl hj))
              have L6 : Hid (LnAt w6 wc.heap.size 0 ⟨⟨lp, ls, lf, lr⟩, ld⟩) := hl6
              have hbl6 : wc.heap.size < w6.heap.size := hl6.lb
              clear hck6 hm6 hl6 hch6 hcd6 HB1 P5 hW5
              obtain ⟨W7, hW7⟩ : ∃ W7, W7 = w6.alloc (.cells #[.int .i64 ra, .int .i64 rf, .int .i64 rr] 43) := ⟨_, rfl⟩
              have hb7 : Below w6.heap.size w6 W7 := by rw [hW7]; exact balloc (brefl _) _
              have P7 : Hid _ := P6.out.grow hb7
              have A7 : Hid (W7.cell? ⟨w6.heap.size, 0, none⟩ = some (.int .i64 ra) ∧ W7.cell? ⟨w6.heap.size, 1, none⟩ = some (.int .i64 rf) ∧ W7.cell? ⟨w6.heap.size, 2, none⟩ = some (.int .i64 rr)) := by rw [Hid, hW7]; simp [go_sem]
              have L7 : Hid (LnAt W7 wc.heap.size 0 ⟨⟨lp, ls, lf, lr⟩, ld⟩) := LnAt.below L6.out hb7 hbl6
              have hs7 : w6.heap.size < W7.heap.size := by rw [hW7]; simp
              have N7 : Hid (¬ Ff w6.heap.size ∧ ¬ Fk w6.heap.size ∧ ¬ bkF bc vc w6.heap.size) := ⟨fun h => by have := P6.out.two.side.fr.lt h; omega, fun h => by have := P6.out.two.cr.lt h; omega, fun h => by have := P6.out.two.cd.lt h; omega⟩
              clear hb7 P6 L6
              have n1 : (ra != ra) = false := by simp
              have n2 : (rf != rf) = false := by simp
              have n3 : (rr != rr) = false := by simp
              have n4 : (en != en) = false := by simp
              have n5 : (cd != cd) = false := by simp
              have fin : ∀ (w8 : World) (vc8 : Value) (L8 : List Pg.Ln), Pg.rPut C.L ⟨en, ra, rf, rr, ⟨lp, ls, lf, lr⟩, ld⟩ = L8 → True := fun _ _ _ _ => trivial
              clear fin
              cases hgo : (en && ra == 0)
              · have eP : Pg.rPut C.L ⟨en, ra, rf, rr, ⟨lp, ls, lf, lr⟩, ld⟩ = C.L := by unfold Pg.rPut; rw [if_neg (by simp only; rw [hgo]; decide)]
                rw [eP] at HB2
                have hen : en = false ∨ (en = true ∧ (ra == 0) = false) := by
                  cases en
                  · exact .inl rfl
                  · exact .inr ⟨rfl, by simpa using hgo⟩
                clear eP hgo
                have P8 : Hid _ := P7.out
                obtain ⟨b0, b1, b2⟩ := A7.out
                go_upto_region 22 with fail
                rw [← hW7]
                clear hW7
                rcases hen with rfl | ⟨rfl, hra⟩
                all_goals
                  go_wp2_with fail
                  refine (HB2 _ _ P8.out.two.cr P8.out.two.side.fr (fun j hj => (P8.out.two.nk j hj).1)).mono ?_
                  rintro e w9 ⟨rfl, Fk9, Ff9, hc9, hf9, hb9, g1, g2, g3⟩
                  have P9 : Hid _ := P8.out.left hc9 hf9 hb9 g1 g2 g3
                  have c0 := (hb9.cell (a := ⟨w6.heap.size, 0, none⟩) hs7 (fun e => e.elim N7.out.2.1 N7.out.1)).trans b0
                  have c1 := (hb9.cell (a := ⟨w6.heap.size, 1, none⟩) hs7 (fun e => e.elim N7.out.2.1 N7.out.1)).trans b1
                  have c2 := (hb9.cell (a := ⟨w6.heap.size, 2, none⟩) hs7 (fun e => e.elim N7.out.2.1 N7.out.1)).trans b2
                  have hs9 : w6.heap.size < w9.heap.size := Nat.lt_of_lt_of_le hs7 hb9.size
                  have hn9 : w6.heap.size ≠ w9.heap.size := by omega
                  have PA : Hid _ := P9.out.grow (balloc (brefl w9) (.cells #[.int .i64 ra, .int .i64 rf, .int .i64 rr] 43))
                  clear hc9 hf9 hb9 g1 g2 g3 HB2 P9 b0 b1 b2
                  go_wp2_with fail
                  go_meet
                  case rel => exact ⟨_, _, _, _, _, _, PA.out⟩
              · have eP : Pg.rPut C.L ⟨en, ra, rf, rr, ⟨lp, ls, lf, lr⟩, ld⟩ = Pg.kPut C.L ⟨⟨lp, ls, lf, lr⟩, ld⟩ := by unfold Pg.rPut; rw [if_pos hgo]
                rw [eP] at HB2
                simp only [Bool.and_eq_true, beq_iff_eq] at hgo
                obtain ⟨hen, hra⟩ := hgo
                subst hen hra
                have HB3 := fun w' vc (h : CoAt w' bc vc C.L) => coPut_any ⟨⟨lp, ls, lf, lr⟩, ld⟩ HFT.out w' h
                simp only [Pg.Ln.val] at HB3
                clear eP
                obtain ⟨b0, b1, b2⟩ := A7.out
                go_upto_region 22 with fail
                rw [← hW7]
                clear hW7
                obtain ⟨l0, l1, l2, l3, l4⟩ := L7.out
                simp only [Nat.zero_add] at l0 l1 l2 l3 l4
                go_wp2_with fail
                refine (HB3 _ _ P7.out.two.cd.co).mono ?_
                rintro e w8 ⟨rfl, vc8, h8, hc8, hF8⟩
                have P8 : Hid _ := P7.out.rightC (P7.out.two.cd.stepL h8 hc8) hF8 hc8.but
                have d0 := (hc8.but.cell (a := ⟨w6.heap.size, 0, none⟩) hs7 N7.out.2.2).trans b0
                have d1 := (hc8.but.cell (a := ⟨w6.heap.size, 1, none⟩) hs7 N7.out.2.2).trans b1
                have d2 := (hc8.but.cell (a := ⟨w6.heap.size, 2, none⟩) hs7 N7.out.2.2).trans b2
                have hs8 : w6.heap.size < w8.heap.size := Nat.lt_of_lt_of_le hs7 hc8.but.size
                clear h8 hc8 hF8 HB3 P7 b0 b1 b2 l0 l1 l2 l3 l4 L7
                go_wp2_with fail
                refine (HB2 _ _ P8.out.two.cr P8.out.two.side.fr (fun j hj => (P8.out.two.nk j hj).1)).mono ?_
                rintro e w9 ⟨rfl, Fk9, Ff9, hc9, hf9, hb9, g1, g2, g3⟩
                have P9 : Hid _ := P8.out.left hc9 hf9 hb9 g1 g2 g3
                have c0 := (hb9.cell (a := ⟨w6.heap.size, 0, none⟩) hs8 (fun e => e.elim N7.out.2.1 N7.out.1)).trans d0
                have c1 := (hb9.cell (a := ⟨w6.heap.size, 1, none⟩) hs8 (fun e => e.elim N7.out.2.1 N7.out.1)).trans d1
                have c2 := (hb9.cell (a := ⟨w6.heap.size, 2, none⟩) hs8 (fun e => e.elim N7.out.2.1 N7.out.1)).trans d2
                have hs9 : w6.heap.size < w9.heap.size := Nat.lt_of_lt_of_le hs8 hb9.size
                have hn9 : w6.heap.size ≠ w9.heap.size := by omega
                have PA : Hid _ := P9.out.grow (balloc (brefl w9) (.cells #[.int .i64 0, .int .i64 rf, .int .i64 rr] 43))
                clear hc9 hf9 hb9 g1 g2 g3 HB2 P9 d0 d1 d2 P8
                go_wp2_with fail
                go_meet
                case rel => exact ⟨_, _, _, _, _, _, PA.out⟩
            · have n1 : (xa == 1) = false := by simpa using h1
              clear h1
              by_cases h2 : xa = 2
              · as_aux_lemma =>
                subst h2
                obtain ⟨_, _, _, _, _, _, _, t7, t8, t9, tA⟩ := HP.out.xs
                simp only [Nat.zero_add] at t7 t8 t9 tA
                have HB1 := crTold_any ⟨mp, ms, mf, mr⟩ HFm.out wc HP.out.two.cr
                have HB2 := fun w' vc (h : CoAt w' bc vc C.L) => coDrop_any ⟨mp, ms, mf, mr⟩ HFm.out w' h
                have HB3 := fun w' (h : CkEx w' bc C.K) => cAgain_any (root := 0) w' h
                simp only [Pg.Mp.val] at HB1 HB2
                go_wp2_with fail
                refine HB1.mono ?_
                rintro e w5 ⟨rfl, Fk5, hc5, hb5, hF5⟩
                have P5 : Hid _ := HP.out.leftK hc5 hb5 hF5
                clear hc5 hb5 hF5 HB1 t7 t8 t9 tA
                obtain ⟨_, _, _, _, _, _, _, t7, t8, t9, tA⟩ := P5.out.xs
                simp only [Nat.zero_add] at t7 t8 t9 tA
                go_wp2_with fail
                refine (HB2 _ _ P5.out.two.cd.co).mono ?_
                rintro e w6 ⟨rfl, vc6, h6, hc6, hF6⟩
                have P6 : Hid _ := P5.out.rightC (P5.out.two.cd.stepL h6 hc6) hF6 hc6.but
                clear h6 hc6 hF6 HB2 t7 t8 t9 tA P5
                go_wp2_with fail
                refine (HB3 _ P6.out.two.cd.ck).mono ?_
                rintro e w7 ⟨rfl, h7, hc7⟩
                have P7 : Hid (∃ vc', Cpx W w7 bf bm g0 g1 vb Ff bk Fk5 bc vc' 0 X ⟨2, xk, xi, xw, xq, xn, xu, ⟨mp, ms, mf, mr⟩⟩ S S (C.told 0 ⟨mp, ms, mf, mr⟩) (C.told 0 ⟨mp, ms, mf, mr⟩)) := ⟨_, P6.out.rightC (P6.out.two.cd.stepK h7 (P6.out.two.cd.ok.again 0) hc7 (fun k hk e => P6.out.two.cd.co.nb (e ▸ hk))) (fun j hj => .inl hj) (hc7.but.mono fun _ _ h => .inl h)⟩
                clear h7 hc7 HB3 P6
                go_wp2_with fail
                go_meet
                case rel =>
                  obtain ⟨vc', h⟩ := P7.out
                  exact ⟨_, _, _, _, _, _, h⟩
              · have n2 : (xa == 2) = false := by simpa using h2
                clear h2
                by_cases h3 : xa = 3
                · as_aux_lemma =>
                  subst h3
                  obtain ⟨_, t1, t2, t3, _, _, _, _, _, _, _⟩ := HP.out.xs
                  simp only [Nat.zero_add] at t1 t2 t3
                  have HSt := frStore_any xk xi xw HW.out.1 HW.out.2 wc HP.out.two.side.fr
                  have hXl : X < wc.heap.size := HP.out.xl
                  cases hat : S.at' xk xi
                  · have e1 : S.store xk xi xw = S := by simp [Pg.Fs.store, hat]
                    rw [hat, e1] at HSt
                    clear e1
                    go_wp2_with fail
                    refine HSt.mono ?_
                    rintro e w5 ⟨rfl, F5, hf5, hb5, hF5⟩
                    have P5 : Hid _ := HP.out.leftF hf5 hb5 hF5
                    clear hf5 hb5 hF5 HSt t1 t2 t3
                    go_wp2_with fail
                    go_meet
                    case rel => exact ⟨_, _, _, _, _, _, P5.out⟩
                  · obtain ⟨kn0, kn1, in0, in1, _⟩ := HP.out.two.side.fr.ok.at_lt hat
                    obtain ⟨kn, rfl⟩ := Int.eq_ofNat_of_zero_le kn0
                    obtain ⟨rn, rfl⟩ := Int.eq_ofNat_of_zero_le in0
                    have hkl : kn < S.n := by omega
                    have hr8 : rn < 8 := by omega
                    have hsm := HP.out.two.side.fr.ok.small
                    rw [hat] at HSt
                    have HAt : Hid _ := hat
                    clear hat
                    go_wp2_with fail
                    refine HSt.mono ?_
                    rintro e w5 ⟨rfl, F5, hf5, hb5, hF5⟩
                    have P5 : Hid _ := HP.out.leftF hf5 hb5 hF5
                    clear hf5 hb5 hF5 HSt t1 t2 t3
                    obtain ⟨_, t1, t2, t3, _, _, _, _, _, _, _⟩ := P5.out.xs
                    simp only [Nat.zero_add] at t1 t2 t3
                    have m0 := P5.out.two.side.mem.raw.c0
                    have mw := P5.out.two.side.mem.raw.cw kn rn hkl hr8
                    have mf' := P5.out.two.side.mem.raw.f0
                    have hgl := P5.out.two.side.mem.raw.l0
                    have hml := P5.out.two.side.mem.raw.lb
                    have hX5 := P5.out.xl
                    have G6 : Hid (Cpx W (w5.setCell ⟨g0, kn * 8 + rn, none⟩ (.int .u64 xw)).drew bf bm g0 g1 vb F5 bk Fk bc vc 0 X ⟨3, (kn : Int), (rn : Int), xw, xq, xn, xu, ⟨mp, ms, mf, mr⟩⟩ (S.store (kn : Int) (rn : Int) xw) (S.store (kn : Int) (rn : Int) xw) C C) := by
                      have e3 : S.store (kn : Int) (rn : Int) xw = { S with word := Pg.Fs.put S.word kn rn xw } := by simp [Pg.Fs.store, HAt.out]
                      have ok' := P5.out.two.side.mem.ok.store (kn : Int) (rn : Int) HW.out.1 HW.out.2
                      have hp := P5.out.two.side.mem.raw.put hkl hr8 xw
                      have hB : But (memF bm g0 g1 vb) w5 (w5.setCell ⟨g0, kn * 8 + rn, none⟩ (.int .u64 xw)).drew := ((But.refl _ w5).setCell (.inr (.inr (.inl rfl))) _).drew
                      refine P5.out.right (P5.out.two.cd.keep hB fun k hk => (P5.out.two.nc k hk).2) ⟨?_, ok'⟩ rfl (fun j hj => .inl hj) hB fun j hj => .inr (.inl hj)
                      rw [e3]
                      exact hp.keep (F := fun _ => False) ((But.refl _ _).drew) (fun _ _ => id)
                    clear P5 HAt
                    go_wp2_with fail
                    go_region
                    go_wp2_with fail
                    go_meet
                    case rel => exact ⟨_, _, _, _, _, _, G6.out⟩
                · have n3 : (xa == 3) = false := by simpa using h3
                  clear h3
                  by_cases h4 : xa = 4
                  · as_aux_lemma =>
                    subst h4
                    obtain ⟨ad9, cap9, rfl⟩ := HP.out.two.cd.co.row.form
                    have c0 := HP.out.two.cd.co.c0
                    have cf := HP.out.two.cd.co.fb 0
                    have hlb := HP.out.two.cd.lb
                    have hlen := HP.out.two.cd.co.kept.le
                    obtain ⟨bt, bkk, Ft, hcr, hFe⟩ := HP.out.two.cr.ex
                    subst hFe
                    have HCR : Hid _ := hcr
                    have HE := fun w' (h : TbAt w' bt 0 C.L Ft) => tbEvict_any w' h
                    clear hcr
                    by_cases hL : 0 < C.L.length
                    · obtain ⟨g, o, cp, e, hg, hn1, hn2⟩ := HP.out.two.cd.co.row.shape hL
                      cases e
                      have d0 : decide ((0 : Int) < (C.L.length : Int)) = true := by simp; omega
                      have j1 : (1 : Int) ≤ (C.L.length : Int) := by omega
                      have j3 : cap9 ≤ 9223372036854775807 := by unfold maxLen at hn2; omega
                      rw [show decide (0 < C.L.length) = true by simp [hL]] at HE
                      have hcase : (cap9 = 1 ∧ ∃ o', o' = o) ∨ (¬ cap9 = 1 ∧ ∃ o', o' = o + 5) := by
                        by_cases hc : cap9 = 1
                        · exact .inl ⟨hc, _, rfl⟩
                        · exact .inr ⟨hc, _, rfl⟩
                      rcases hcase with ⟨hc, o', ho'⟩ | ⟨hc, o', ho'⟩
                      · subst hc ho'
                        obtain ⟨e1, e2, e3⟩ := HP.out.two.cd.co.evict hL (o' := o') (.inr ⟨rfl, rfl⟩)
                        have P5 : Hid _ := HP.out.rightC (HP.out.two.cd.stepL e1 e2) e3 e2.but
                        have C5 : Hid _ := HCR.out.keep e2.but (fun k hk e => HP.out.two.ne k hk e)
                        have k0 := C5.out.c0
                        simp only [Nat.sub_self] at P5 C5 k0
                        clear e1 e2 e3 hn1 hn2 hg
                        go_wp2_with fail
                        refine (HE _ C5.out.tb).mono ?_
                        rintro e w6 ⟨rfl, F6, h6, hb6, hF6⟩
                        have P6 : Hid _ := P5.out.leftK (Fk' := crF bk bkk F6) ⟨_, _, _, C5.out.stepT h6 hb6.but hF6, rfl⟩ (hb6.but.mono fun _ _ h => .inr (.inr h)) (crF_grow hF6)
                        clear h6 hb6 hF6
                        go_wp2_with fail
                        go_meet
                        case rel => exact ⟨_, _, _, _, _, _, P6.out⟩
                      · subst ho'
                        obtain ⟨e1, e2, e3⟩ := HP.out.two.cd.co.evict hL (o' := o + 5) (.inl rfl)
                        have P5 : Hid _ := HP.out.rightC (HP.out.two.cd.stepL e1 e2) e3 e2.but
                        have C5 : Hid _ := HCR.out.keep e2.but (fun k hk e => HP.out.two.ne k hk e)
                        have k0 := C5.out.c0
                        clear e1 e2 e3 hn2 hg
                        go_wp2_with fail
                        refine (HE _ C5.out.tb).mono ?_
                        rintro e w6 ⟨rfl, F6, h6, hb6, hF6⟩
                        have P6 : Hid _ := P5.out.leftK (Fk' := crF bk bkk F6) ⟨_, _, _, C5.out.stepT h6 hb6.but hF6, rfl⟩ (hb6.but.mono fun _ _ h => .inr (.inr h)) (crF_grow hF6)
                        clear h6 hb6 hF6
                        go_wp2_with fail
                        go_meet
                        case rel => exact ⟨_, _, _, _, _, _, P6.out⟩
                    · obtain ⟨L0, K0⟩ := C
                      have hL0 : L0 = [] := List.length_eq_zero_iff.1 (by simpa using hL)
                      subst hL0
                      rw [show decide (0 < ([] : List Pg.Ln).length) = false from rfl] at HE
                      have k0 := HCR.out.c0
                      clear hL
                      go_wp2_with fail
                      refine (HE _ HCR.out.tb).mono ?_
                      rintro e w6 ⟨rfl, F6, h6, hb6, hF6⟩
                      have P6 : Hid _ := HP.out.leftK (Fk' := crF bk bkk F6) ⟨_, _, _, HCR.out.stepT h6 hb6.but hF6, rfl⟩ (hb6.but.mono fun _ _ h => .inr (.inr h)) (crF_grow hF6)
                      clear h6 hb6 hF6
                      go_wp2_with fail
                      go_meet
                      case rel => exact ⟨_, _, _, _, _, _, P6.out⟩
                  · have n4 : (xa == 4) = false := by simpa using h4
                    clear h4
                    clear HW HFq HFm
                    go_wp2_with fail
                    go_meet
                    case rel => exact ⟨_, _, _, _, _, _, HP.out⟩
        case rest =>
          obtain ⟨S9, Ff9, vb9, Fk9, vc9, C9, P9⟩ := hcut.out
          have P9 : Hid _ := P9
          clear hcut HP
          refine hK1 _ _ ?_
          clear hK1 hK2
          obtain ⟨ad9, cap9, rfl⟩ := P9.out.two.cd.co.row.form
          have hlen := P9.out.two.cd.co.kept.le
          obtain ⟨bt, bkk, Ft, hcr, hFe⟩ := P9.out.two.cr.ex
          subst hFe
          have HCR : Hid _ := hcr
          clear hcr
          obtain ⟨_, _, _, _, t4, _, _, _, _, _, _⟩ := P9.out.xs
          simp only [Nat.zero_add] at t4
          have HT4 : Hid _ := t4
          have g0 := cell_regrown HCR.out.c0
          have g1 := cell_regrown t4
          have HFi := fun d os => tbFind_any xq HFq.out _ (HCR.out.grow (below_regrown _ d os)).tb
          have HKp := fun w (h : CoAt w bc (.slice ad9 C9.L.length cap9) C9.L) => coKept_any xq HFq.out w h
          obtain ⟨L9, K9⟩ := C9
          simp only at HFi HKp hlen P9 HCR
          obtain ⟨k9on, k9q, k9k, k9u, k9t, k9lv, k9x⟩ := K9
          have hoo : (k9on != k9on) = false := by simp
          clear t4
          cases hf : Pg.kFnd L9 xq with
          | none =>
            have w1' : Pg.kFndN L9 xq = -1 := by simp only [Pg.kFndN, hf]
            have w2' : Pg.kAt L9 xq = .zz := by simp only [Pg.kAt, hf]
            have w3' : (Pg.kFnd L9 xq).isSome = false := by simp [hf]
            rw [w1'] at HKp
            rw [w2', w3', show (.zz : Pg.Ln).val = .agg #[.int .i64 0, .int .i64 0, .int .i64 0, .int .i64 0, .bool false] from rfl] at HFi
            clear w1' w2' w3' hf
            go_upto_region 40 with fail
            refine Loose.wp_region_drift_alloc 11 [10] 29 (.cells #[.int .i64 0, .int .i64 0, .int .i64 0, .int .i64 0, .bool false] 67) _ (by kernel_rfl) (by kernel_rfl) (by intro i o hi ho; simp only [List.mem_singleton] at hi; subst hi; cases ho; exact Loose.calm_extract rfl) rfl rfl rfl (by intro a w; simp [go_sem]) (by intro d v c a w h; cases d <;> exact h) ?_
            simp only [List.take_succ_cons, List.take_zero, List.drop_succ_cons, List.drop_zero]
            repeat (
              refine Loose.wpGent_step (fun k hk => ?_)
              go_simp
              first
                | (refine hk _ ?_; clear hk k)
                | (apply Exists.intro
                   refine ⟨fun _ => ?_, hk _ ?_⟩
                   (go_at_call 18; exact Loose.calls (HFi _ _))
                   clear hk k))
            refine Loose.wpGent_nil ?_
            intro bl w3 hb3 hbl hX
            have hxl : bl < w3.heap.size := (Array.getElem?_eq_some_iff.1 hX).1
            have cb : w3.cell? ⟨bl, 0, none⟩ = some (.int .i64 0) ∧ w3.cell? ⟨bl, 1, none⟩ = some (.int .i64 0) ∧ w3.cell? ⟨bl, 2, none⟩ = some (.int .i64 0) ∧ w3.cell? ⟨bl, 3, none⟩ = some (.int .i64 0) ∧ w3.cell? ⟨bl, 4, none⟩ = some (.bool false) := by
              simp [World.cell?, hX]
            obtain ⟨cb0, cb1, cb2, cb3, cb4⟩ := cb
            have fb : ∀ i, w3.frozen? ⟨bl, i, none⟩ = false := fun i => by simp [World.frozen?, hX]
            obtain ⟨W4, hW4⟩ : ∃ W4, W4 = ((((w3.setCell ⟨bl, 0, none⟩ (.int .i64 0)).setCell ⟨bl, 1, none⟩ (.int .i64 0)).setCell ⟨bl, 2, none⟩ (.int .i64 0)).setCell ⟨bl, 3, none⟩ (.int .i64 0)).setCell ⟨bl, 4, none⟩ (.bool false) := ⟨_, rfl⟩
            have hB4 := below_set5 hb3 _ hbl (.int .i64 0) (.int .i64 0) (.int .i64 0) (.int .i64 0) (.bool false)
            rw [← hW4] at hB4
            have L4 : Hid (W4.cell? ⟨bl, 0, none⟩ = some (.int .i64 0) ∧ W4.cell? ⟨bl, 1, none⟩ = some (.int .i64 0) ∧ W4.cell? ⟨bl, 2, none⟩ = some (.int .i64 0) ∧ W4.cell? ⟨bl, 3, none⟩ = some (.int .i64 0) ∧ W4.cell? ⟨bl, 4, none⟩ = some (.bool false)) := by
              rw [Hid, hW4]; simp [go_sem, cb0, cb1, cb2, cb3, cb4]
            have P4 : Hid _ := P9.out.grow hB4
            have C4 : Hid _ := HCR.out.grow hB4
            have hbl4 : bl < W4.heap.size := World.block_lt_of_cell? _ _ L4.out.1
            clear g0 g1 HFi P9 HCR HT4 hB4 hX hb3 hbl
            go_upto_region 41 with fail
            rw [← hW4]
            clear hW4 cb0 cb1 cb2 cb3 cb4 fb hxl
            obtain ⟨_, _, _, _, t4, _, _, _, _, _, _⟩ := P4.out.xs
            simp only [Nat.zero_add] at t4
            go_wp2_with fail
            refine (HKp _ P4.out.two.cd.co).mono ?_
            rintro e w5 ⟨rfl, hb5⟩
            have P5 : Hid _ := P4.out.grow hb5
            have C5 : Hid _ := C4.out.grow hb5
            obtain ⟨l0, l1, l2, l3, l4⟩ := L4.out
            have r0 := cell_regrown (cell_later hb5 l0)
            have r1 := cell_regrown (cell_later hb5 l1)
            have r2 := cell_regrown (cell_later hb5 l2)
            have r3 := cell_regrown (cell_later hb5 l3)
            clear hb5 HKp P4 C4 L4 l0 l1 l2 l3 l4 t4
            obtain ⟨t8, lv8, x8, hck⟩ := P5.out.two.cd.ck
            have s0 := cell_regrown C5.out.c0
            have s1 := cell_regrown C5.out.c1
            have s2 := cell_regrown P5.out.two.cd.co.c0
            have s3 := cell_regrown hck.c1
            have s4 := cell_regrown hck.c2
            have s5 := cell_regrown hck.c3
            have s6 := cell_regrown hck.c4
            simp only at s3 s4 s5 s6
            have HBz := fun d os => crBusy_any _ (P5.out.two.cr.grow (below_regrown w5 d os))
            have HAc := fun d os => kAccess_any _ (C5.out.wk.grow (below_regrown w5 d os))
            have HLi := fun d os => tbList_any _ (C5.out.tb.grow (below_regrown w5 d os))
            have HSl := fun d os ad cap (h : LinesAt (grow (redrawn w5 d) os) ad L9) => sameLines_yes (cap := cap) (cap' := cap9) _ h (ownsAt_lines (P5.out.two.cd.co.grow (below_regrown w5 d os)).row) hlen
            simp only at HBz HAc HLi HSl
            clear hck
            go_upto_region 42 with fail
            as_aux_lemma =>
            refine Loose.wp_region_mix [(0, 24), (25, 29), (24, 25), (29, 54)] [0, 1, 0, 0, 0, 0, 0, 0, 0, 0, 0, 0, 1, 0, 0, 0, 0, 0, 0, 0, 0, 0, 0, 0, 0, 0, 0, 0, 2, 1, 0, 0, 0, 0, 0, 0, 0, 0, 0, 0, 0, 0, 0, 0, 0, 0, 0, 0, 0, 0, 0, 0, 0, 0] 54 [] (by kernel_rfl) (by kernel_rfl) (by intro i o hi; cases hi) (.inl rfl) ?_
            simp only [Loose.pickS, List.flatMap_cons, List.flatMap_nil, List.take_succ_cons, List.take_zero, List.drop_succ_cons, List.drop_zero, List.cons_append, List.nil_append, List.append_nil]
            refine Loose.wpMix_block 1 (by rfl) ?_
            simp only [List.take_succ_cons, List.take_zero, List.drop_succ_cons, List.drop_zero]
            repeat (go_big_quiet_step (fail))
            refine wpQuiet_nil ?_
            refine Loose.wpMix_known (fun k hk => ?_)
            go_simp
            apply Exists.intro
            refine ⟨fun _ => ?_, hk _ ?_⟩
            · (go_at_call 20; exact Loose.calls_same (HBz _ _))
            clear hk k
            refine Loose.wpMix_block 10 (by rfl) ?_
            simp only [List.take_succ_cons, List.take_zero, List.drop_succ_cons, List.drop_zero]
            repeat (go_big_quiet_step (fail))
            refine wpQuiet_nil ?_
            refine Loose.wpMix_known (fun k hk => ?_)
            go_simp
            apply Exists.intro
            refine ⟨fun _ => ?_, hk _ ?_⟩
            · (go_at_call 21; exact Loose.calls (HAc _ _))
            clear hk k
            refine Loose.wpMix_block 15 (by rfl) ?_
            simp only [List.take_succ_cons, List.take_zero, List.drop_succ_cons, List.drop_zero]
            repeat (go_big_quiet_step (fail))
            refine wpQuiet_nil ?_
            refine Loose.wpMix_rel (fun k hk => ?_)
            go_simp
            refine ⟨Option Addr × Nat, fun x => .slice x.1 L9.length x.2, fun x w => LinesAt w x.1 L9, fun x w w' h hg => LinesAt.below h hg, fun p => ?_, fun x => hk _ _ ?_⟩
            · refine (HLi _ _).mono ?_
              rintro e w'' ⟨ad5, cap5, rfl, m5, hb5, hn5⟩
              exact ⟨_, rfl, hb5, (ad5, cap5), rfl, m5⟩
            clear hk k
            obtain ⟨adx, capx⟩ := x
            simp only
            refine Loose.wpMix_known (fun k hk => ?_)
            go_simp
            apply Exists.intro
            refine ⟨fun p hI => ?_, hk _ ?_⟩
            · (go_at_call 22; exact Loose.calls (HSl _ _ _ _ hI))
            clear hk k
            refine Loose.wpMix_block 24 (by rfl) ?_
            simp only [List.take_succ_cons, List.take_zero, List.drop_succ_cons, List.drop_zero]
            repeat (go_big_quiet_step (fail))
            refine wpQuiet_nil ?_
            refine Loose.wpMix_nil ?_
            intro w10 hb10 _
            have PA : Hid _ := P5.out.grow hb10
            clear P5 C5 hb10 HBz HAc HLi HSl s0 s1 s2 s3 s4 s5 s6
            go_wp2_with fail
            go_roundw
            case rel => exact ⟨k + 1, by omega, by go_num, ⟨_, _, _, _, _, _, PA.out.two⟩⟩
            case measure => simp [intOf]; omega
          | some j =>
            obtain ⟨hj, _, _⟩ := Pg.kFnd_some hf
            have w1' : Pg.kFndN L9 xq = (j : Int) := by simp only [Pg.kFndN, hf]
            have w2' : Pg.kAt L9 xq = L9.getD j .zz := by simp only [Pg.kAt, hf]
            have w3' : (Pg.kFnd L9 xq).isSome = true := by simp [hf]
            rw [w1'] at HKp
            rw [w2', w3'] at HFi
            obtain ⟨gg, og, rfl, hgg, hmm⟩ := ownsAt_lines P9.out.two.cd.co.row j hj
            have HMM : Hid (LnAt _ gg (og + j * 5) (L9.getD j .zz)) := hmm
            have j0 : (0 : Int) ≤ (j : Int) := by omega
            have j1 : (j : Int) < (L9.length : Int) := by omega
            have j2 : ¬ (j : Int) < 0 := by omega
            clear w1' w2' w3' hf hmm
            have hLx : L9.getD j .zz = L9.getD j .zz := rfl
            generalize L9.getD j .zz = x at *
            obtain ⟨⟨yp, ys, yf, yr⟩, yd⟩ := x
            simp only [Pg.Ln.val] at HFi
            go_upto_region 40 with fail
            refine Loose.wp_region_drift_alloc 11 [10] 29 (.cells #[.int .i64 0, .int .i64 0, .int .i64 0, .int .i64 0, .bool false] 67) _ (by kernel_rfl) (by kernel_rfl) (by intro i o hi ho; simp only [List.mem_singleton] at hi; subst hi; cases ho; exact Loose.calm_extract rfl) rfl rfl rfl (by intro a w; simp [go_sem]) (by intro d v c a w h; cases d <;> exact h) ?_
            simp only [List.take_succ_cons, List.take_zero, List.drop_succ_cons, List.drop_zero]
            repeat (
              refine Loose.wpGent_step (fun k hk => ?_)
              go_simp
              first
                | (refine hk _ ?_; clear hk k)
                | (apply Exists.intro
                   refine ⟨fun _ => ?_, hk _ ?_⟩
                   (go_at_call 18; exact Loose.calls (HFi _ _))
                   clear hk k))
            refine Loose.wpGent_nil ?_
            intro bl w3 hb3 hbl hX
            have hxl : bl < w3.heap.size := (Array.getElem?_eq_some_iff.1 hX).1
            have cb : w3.cell? ⟨bl, 0, none⟩ = some (.int .i64 0) ∧ w3.cell? ⟨bl, 1, none⟩ = some (.int .i64 0) ∧ w3.cell? ⟨bl, 2, none⟩ = some (.int .i64 0) ∧ w3.cell? ⟨bl, 3, none⟩ = some (.int .i64 0) ∧ w3.cell? ⟨bl, 4, none⟩ = some (.bool false) := by
              simp [World.cell?, hX]
            obtain ⟨cb0, cb1, cb2, cb3, cb4⟩ := cb
            have fb : ∀ i, w3.frozen? ⟨bl, i, none⟩ = false := fun i => by simp [World.frozen?, hX]
            obtain ⟨W4, hW4⟩ : ∃ W4, W4 = ((((w3.setCell ⟨bl, 0, none⟩ (.int .i64 yp)).setCell ⟨bl, 1, none⟩ (.int .i64 ys)).setCell ⟨bl, 2, none⟩ (.int .i64 yf)).setCell ⟨bl, 3, none⟩ (.int .i64 yr)).setCell ⟨bl, 4, none⟩ (.bool yd) := ⟨_, rfl⟩
            have hB4 := below_set5 hb3 _ hbl (.int .i64 yp) (.int .i64 ys) (.int .i64 yf) (.int .i64 yr) (.bool yd)
            rw [← hW4] at hB4
            have L4 : Hid (W4.cell? ⟨bl, 0, none⟩ = some (.int .i64 yp) ∧ W4.cell? ⟨bl, 1, none⟩ = some (.int .i64 ys) ∧ W4.cell? ⟨bl, 2, none⟩ = some (.int .i64 yf) ∧ W4.cell? ⟨bl, 3, none⟩ = some (.int .i64 yr) ∧ W4.cell? ⟨bl, 4, none⟩ = some (.bool yd)) := by
              rw [Hid, hW4]; simp [go_sem, cb0, cb1, cb2, cb3, cb4]
            have P4 : Hid _ := P9.out.grow hB4
            have C4 : Hid _ := HCR.out.grow hB4
            have hbl4 : bl < W4.heap.size := World.block_lt_of_cell? _ _ L4.out.1
            have M4 : Hid (LnAt W4 gg (og + j * 5) ⟨⟨yp, ys, yf, yr⟩, yd⟩) := LnAt.below HMM.out hB4 hgg
            have hgg4 : gg < W4.heap.size := Nat.lt_of_lt_of_le hgg hB4.size
            clear g0 g1 HFi P9 HCR HT4 hB4 hX hb3 hbl
            go_upto_region 41 with fail
            rw [← hW4]
            clear hW4 cb0 cb1 cb2 cb3 cb4 fb hxl
            obtain ⟨_, _, _, _, t4, _, _, _, _, _, _⟩ := P4.out.xs
            simp only [Nat.zero_add] at t4
            go_wp2_with fail
            refine (HKp _ P4.out.two.cd.co).mono ?_
            rintro e w5 ⟨rfl, hb5⟩
            have P5 : Hid _ := P4.out.grow hb5
            have C5 : Hid _ := C4.out.grow hb5
            obtain ⟨l0, l1, l2, l3, l4⟩ := L4.out
            have r0 := cell_regrown (cell_later hb5 l0)
            have r1 := cell_regrown (cell_later hb5 l1)
            have r2 := cell_regrown (cell_later hb5 l2)
            have r3 := cell_regrown (cell_later hb5 l3)
            obtain ⟨m0, m1, m2, m3, m4⟩ := LnAt.below M4.out hb5 hgg4
            have v0 := cell_regrown m0
            have v1 := cell_regrown m1
            have v2 := cell_regrown m2
            have v3 := cell_regrown m3
            simp only at v0 v1 v2 v3
            clear m0 m1 m2 m3 m4 M4
            clear hb5 HKp P4 C4 L4 l0 l1 l2 l3 l4 t4
            obtain ⟨t8, lv8, x8, hck⟩ := P5.out.two.cd.ck
            have s0 := cell_regrown C5.out.c0
            have s1 := cell_regrown C5.out.c1
            have s2 := cell_regrown P5.out.two.cd.co.c0
            have s3 := cell_regrown hck.c1
            have s4 := cell_regrown hck.c2
            have s5 := cell_regrown hck.c3
            have s6 := cell_regrown hck.c4
            simp only at s3 s4 s5 s6
            have HBz := fun d os => crBusy_any _ (P5.out.two.cr.grow (below_regrown w5 d os))
            have HAc := fun d os => kAccess_any _ (C5.out.wk.grow (below_regrown w5 d os))
            have HLi := fun d os => tbList_any _ (C5.out.tb.grow (below_regrown w5 d os))
            have HSl := fun d os ad cap (h : LinesAt (grow (redrawn w5 d) os) ad L9) => sameLines_yes (cap := cap) (cap' := cap9) _ h (ownsAt_lines (P5.out.two.cd.co.grow (below_regrown w5 d os)).row) hlen
            simp only at HBz HAc HLi HSl
            clear hck
            go_upto_region 42 with fail
            as_aux_lemma =>
            refine Loose.wp_region_mix [(0, 24), (25, 29), (24, 25), (29, 54)] [0, 1, 0, 0, 0, 0, 0, 0, 0, 0, 0, 0, 1, 0, 0, 0, 0, 0, 0, 0, 0, 0, 0, 0, 0, 0, 0, 0, 2, 1, 0, 0, 0, 0, 0, 0, 0, 0, 0, 0, 0, 0, 0, 0, 0, 0, 0, 0, 0, 0, 0, 0, 0, 0] 54 [] (by kernel_rfl) (by kernel_rfl) (by intro i o hi; cases hi) (.inl rfl) ?_
            simp only [Loose.pickS, List.flatMap_cons, List.flatMap_nil, List.take_succ_cons, List.take_zero, List.drop_succ_cons, List.drop_zero, List.cons_append, List.nil_append, List.append_nil]
            refine Loose.wpMix_block 1 (by rfl) ?_
            simp only [List.take_succ_cons, List.take_zero, List.drop_succ_cons, List.drop_zero]
            repeat (go_big_quiet_step (fail))
            refine wpQuiet_nil ?_
            refine Loose.wpMix_known (fun k hk => ?_)
            go_simp
            apply Exists.intro
            refine ⟨fun _ => ?_, hk _ ?_⟩
            · (go_at_call 20; exact Loose.calls_same (HBz _ _))
            clear hk k
            refine Loose.wpMix_block 10 (by rfl) ?_
            simp only [List.take_succ_cons, List.take_zero, List.drop_succ_cons, List.drop_zero]
            repeat (go_big_quiet_step (fail))
            refine wpQuiet_nil ?_
            refine Loose.wpMix_known (fun k hk => ?_)
            go_simp
            apply Exists.intro
            refine ⟨fun _ => ?_, hk _ ?_⟩
            · (go_at_call 21; exact Loose.calls (HAc _ _))
            clear hk k
            refine Loose.wpMix_block 15 (by rfl) ?_
            simp only [List.take_succ_cons, List.take_zero, List.drop_succ_cons, List.drop_zero]
            repeat (go_big_quiet_step (fail))
            refine wpQuiet_nil ?_
            refine Loose.wpMix_rel (fun k hk => ?_)
            go_simp
            refine ⟨Option Addr × Nat, fun x => .slice x.1 L9.length x.2, fun x w => LinesAt w x.1 L9, fun x w w' h hg => LinesAt.below h hg, fun p => ?_, fun x => hk _ _ ?_⟩
            · refine (HLi _ _).mono ?_
              rintro e w'' ⟨ad5, cap5, rfl, m5, hb5, hn5⟩
              exact ⟨_, rfl, hb5, (ad5, cap5), rfl, m5⟩
            clear hk k
            obtain ⟨adx, capx⟩ := x
            simp only
            refine Loose.wpMix_known (fun k hk => ?_)
            go_simp
            apply Exists.intro
            refine ⟨fun p hI => ?_, hk _ ?_⟩
            · (go_at_call 22; exact Loose.calls (HSl _ _ _ _ hI))
            clear hk k
            refine Loose.wpMix_block 24 (by rfl) ?_
            simp only [List.take_succ_cons, List.take_zero, List.drop_succ_cons, List.drop_zero]
            repeat (go_big_quiet_step (fail))
            refine wpQuiet_nil ?_
            refine Loose.wpMix_nil ?_
            intro w10 hb10 _
            have PA : Hid _ := P5.out.grow hb10
            clear P5 C5 hb10 HBz HAc HLi HSl s0 s1 s2 s3 s4 s5 s6
            go_wp2_with fail
            go_roundw
            case rel => exact ⟨k + 1, by omega, by go_num, ⟨_, _, _, _, _, _, PA.out.two⟩⟩
            case measure => simp [intOf]; omega
    · have i1 : ¬ (k : Int) < (len' : Int) := by omega
      have HSW := sameWords_any HB.out.side
      go_wp2_with fail
      refine HSW.mono ?_
      rintro e w9 ⟨rfl, hb9⟩
      have HF : Hid (Below W.heap.size W w9) := bthen HB.out.side.bel hb9
      clear hb9 HSW
      go_wp2_with fail
      go_ret
      exact ⟨rfl, HF.out⟩

set_option maxRecDepth 100000 in
theorem coreDoes_lifted (os : Os) (started : os.Started) (H : Type) (enc : TypeId × Value → H) :
    ReturnsInHanded {} Try.checked os 3 .any (Rows.coreDoesSpec.pre6 enc Try.prog Try.f3 Rows.coreDoesRow.domain false) (Rows.coreDoesSpec.post enc Try.prog Try.f3 false true false false) := by
  refine returnsInHanded_of_change (C := Try.checked) own started (by kernel_rfl) Try.func3
    (ChangeSpec.witness6 (enc := enc) (C := Try.checked) false ⟨#[], #[.int .i64 0, .int .i64 0, .slice none 0 0, .slice none 0 0], []⟩ 8 (by kernel_rfl) (by kernel_rfl) (by kernel_rfl) (by kernel_rfl)) ?_
  intro W base args ds gs before hval0 hW hcnd _
  have hval : ∀ (j : Nat) t v, Try.f3.params[j]? = some t → args[j]? = some v → Value.okWide Try.prog W .any base t v := hval0
  have hW' := hW
  obtain ⟨p, q, hA0, hV, rfl, hfz, hnd⟩ := hW
  have hA : DataW.TrodAll enc Try.prog W 0 (fun _ => true) true Try.f3.params.toList args.toList ds p := hA0
  rw [Try.params3] at hA hval
  obtain ⟨v0, vs0, d0, ds0, p0, q0, hargs, rfl, rfl, h0, r0⟩ := trodAll_cons hA
  obtain ⟨v1, vs1, d1, ds1, p1, q1, rfl, rfl, rfl, h1, r1⟩ := trodAll_cons r0
  obtain ⟨v2, vs2, d2, ds2, p2, q2, rfl, rfl, rfl, h2, r2⟩ := trodAll_cons r1
  obtain ⟨v3, vs3, d3, ds3, p3, q3, rfl, rfl, rfl, h3, r3⟩ := trodAll_cons r2
  obtain ⟨rfl, rfl, rfl⟩ := trodAll_nil r3
  obtain rfl : args = #[v0, v1, v2, v3] := by cases args; simp_all
  obtain ⟨rfl, rfl⟩ := trodVars_none hV
  obtain ⟨a0a, rfl, f0a⟩ := openInt (hval 0 3 v0 rfl rfl) h0
  obtain ⟨a1a, rfl, f1a⟩ := openInt (hval 1 3 v1 rfl rfl) h1
  obtain ⟨a2a, a2b, a2c, a2d, rfl, f2a⟩ := openWords (hval 2 22 v2 rfl rfl) h2
  obtain ⟨a3a, a3b, a3c, a3d, rfl, f3a⟩ := openCsts (hval 3 23 v3 rfl rfl) h3
  clear hA0 hval0
  refine (coreDoes_walk W a0a f0a a1a f1a a2a a2b a2c a2d f2a a3a a3b a3c a3d f3a).mono fun e W' ⟨he, bel⟩ => ?_
  subst he
  exact ⟨_, rfl, _, _, _, [], _, [], hW', trodAll_mk1 (shut_bool Try.underlying4 _), (trodAll_cons_mk (stays (by kernel_rfl) (of_decide_eq_true (by kernel_rfl)) h0 bel) (trodAll_cons_mk (stays (by kernel_rfl) (of_decide_eq_true (by kernel_rfl)) h1 bel) (trodAll_cons_mk (stays (by kernel_rfl) (of_decide_eq_true (by kernel_rfl)) h2 bel) (trodAll_cons_mk (stays (by kernel_rfl) (of_decide_eq_true (by kernel_rfl)) h3 bel) trodAll_mk0)))), rfl, bel.frame _, fun h => by cases h⟩

theorem coreDoes_over : Rows.coreDoesRow.holds Try.pinned (OpenSpec.ofChange Rows.coreDoesSpec) :=
  OpenClaim.holds_of_wide 3 Try.f3 rfl rfl rfl rfl rfl rfl rfl ⟨rfl, rfl, rfl, rfl, rfl⟩ rfl rfl rfl rfl rfl (by kernel_rfl) Try.func3 (by kernel_rfl)
    (of_decide_eq_true (by kernel_rfl)) (by unfold Func.isWrapper; first | (rw [if_pos (by decide +kernel)]; kernel_rfl) | (rw [if_neg (by decide +kernel)]; exact ⟨rfl, rfl⟩))
    (fun os started H enc _ => coreDoes_lifted os started H enc)

theorem coreDoes_proved : Rows.CoreDoesSaid := coreDoes_over
#print axioms coreDoes_proved
end Go.Proofs.Ytbkpndgadgafiae
