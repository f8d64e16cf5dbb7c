
/-
  TableStays: what is refused changes nothing, for every argument.
-/
import Derived.Test.YtdenjkjkchggaacTabTwo
import Derived.Test.YtdenjkjkchggaacFrameX
import Derived.Deep.RegionHeld3
import Derived.Deep.DeepCutAuto
import Derived.Test.YtdenjkjkchggaacRows
namespace Go.Proofs.Ytdenjkjkchggaac
open Go.ChangeShapes Go.WideShapes Go.ChangeAt Go.RowKit Go.Joins Go.Deep Go.Sort
set_option maxRecDepth 100000
set_option linter.unusedVariables false
set_option linter.unusedSimpArgs false

theorem notF_of {F F' : Nat → Prop} {B g : Nat} (hF : ∀ k, F' k → F k ∨ B ≤ k) (hn : ¬ F g) (hg : g < B) : ¬ F' g := fun h => by
  rcases hF g h with h' | h'
  · exact hn h'
  · omega
theorem notM_of {bm g0 g1 B g : Nat} {v v' : Value} (hv : v'.ownBlock = v.ownBlock ∨ ∃ j, v'.ownBlock = some j ∧ B ≤ j) (hn : ¬ memF bm g0 g1 v g) (hg : g < B) : ¬ memF bm g0 g1 v' g := fun h => by
  rcases h with h | h | h | h
  · exact hn (.inl h)
  · exact hn (.inr (.inl h))
  · exact hn (.inr (.inr (.inl h)))
  · rcases hv with hv | ⟨i, hv, hi⟩
    · rw [hv] at h; exact hn (.inr (.inr (.inr h)))
    · rw [hv] at h; cases h; omega

set_option maxHeartbeats 8000000 in
theorem tableStays_walk (W : World) (n : Int) (hn : Pg.fits n) (ad' : Option Addr) (len' cap' : Nat) (q' : Nat → Bst)
    (hq' : ∀ j, j < len' → (∃ b o, ad' = some ⟨b, o, none⟩ ∧ b < W.heap.size ∧ BstAt W b (o + j * 9) (q' j)) ∧ BstFits (q' j)) (x : Bst) (hx : BstFits x) :
    Calls Try.prog 7 #[.int .i64 n, .slice ad' len' cap', bstV x] W fun e W' => e = .returned (.bool true) ∧ Below W.heap.size W W' := by
  have HQ' : Hid _ := hq'
  obtain ⟨kind, core, ⟨mp, ms, mf, mr⟩, aq, ak, au⟩ := x
  unfold bstV
  simp only
  clear hn hq' hx
  have hcase : decide (n < 1) = true ∨ (decide (n < 1) = false ∧ decide (128 < n) = true) ∨ (decide (n < 1) = false ∧ decide (128 < n) = false ∧ (150 : Int) < (len' : Int)) ∨ (decide (n < 1) = false ∧ decide (128 < n) = false ∧ decide ((150 : Int) < (len' : Int)) = false ∧ 1 ≤ n ∧ n ≤ 128 ∧ len' ≤ 150) := by
    by_cases h0 : n < 1
    · exact .inl (by simpa using h0)
    · by_cases h1 : 128 < n
      · exact .inr (.inl ⟨by simpa using h0, by simpa using h1⟩)
      · by_cases h2 : 150 < len'
        · exact .inr (.inr (.inl ⟨by simpa using h0, by simpa using h1, by omega⟩))
        · exact .inr (.inr (.inr ⟨by simpa using h0, by simpa using h1, by simp; omega, by omega, by omega, by omega⟩))
  obtain ⟨W1, hW1⟩ : ∃ W1, W1 = W.alloc (.cells #[.int .i64 kind, .int .i64 core, .int .i64 mp, .int .i64 ms, .int .i64 mf, .int .i64 mr, .int .i64 aq, .int .i64 ak, .bool au] 60) := ⟨_, rfl⟩
  have hB1 : Below W.heap.size W W1 := by rw [hW1]; exact balloc (brefl W) _
  have X1 : Hid (BstAt W1 W.heap.size 0 ⟨kind, core, ⟨mp, ms, mf, mr⟩, aq, ak, au⟩) := by
    rw [hW1]
    refine ⟨?_, ?_, ?_, ?_, ?_, ?_, ?_, ?_, ?_⟩ <;> simp [go_sem]
  have HB1 : Hid _ := hB1
  have hl1 : W.heap.size < W1.heap.size := World.block_lt_of_cell? _ _ X1.out.1
  clear hB1
  rcases hcase with h0 | ⟨h0, h1⟩ | ⟨h0, h1, h2⟩ | ⟨h0, h1, h2, n0, n1, hl'⟩
  iterate 3 focus
    go_enter Try.func7, Try.ntmps7
    go_wp2_with fail
    rw [← hW1]
    refine (tableBegun_any _).mono ?_
    rintro e w1 ⟨rfl, hb1⟩
    have HB : Hid (Below W.heap.size W w1) := bthen HB1.out hb1
    clear hb1
    go_wp2_with fail
    go_ret
    exact ⟨rfl, HB.out⟩
  obtain ⟨nn, rfl⟩ := Int.eq_ofNat_of_zero_le (show 0 ≤ n by omega)
  go_enter Try.func7, Try.ntmps7
  go_wp2_with fail
  rw [← hW1]
  clear hW1
  refine (tableBegun_any _).mono ?_
  rintro e w1 ⟨rfl, hb1⟩
  have HB2 : Hid (Below W1.heap.size W1 w1) := hb1
  have HM := memory_any nn (by omega) 1 none 0 0 (by omega) (fun _ => 0) w1 (fun j hj => absurd hj (by omega))
  clear hb1
  go_wp2_with fail
  refine HM.mono ?_
  rintro e w2 ⟨bf, bm, g0, g1, vb0, F0, rfl, hS⟩
  have HS0 : Hid (∃ S, Side W1 bf bm g0 g1 vb0 F0 S S w2) := ⟨_, ⟨bthen HB2.out hS.bel, hS.fr, hS.mem, fun k hk => Nat.le_trans HB2.out.size (hS.fhi k hk), fun k hk => Nat.le_trans HB2.out.size (hS.mhi k hk), hS.ne⟩⟩
  clear hS HM HB2
  go_wp2_with fail
  go_loopw [9] (fun i wr => ∃ k : Nat, k ≤ len' ∧ i = .int .i64 k ∧ Hid (∃ S F vb, Side W1 bf bm g0 g1 vb F S S wr)) (fun i _ => len' - (intOf i).toNat)
  case atStart =>
    obtain ⟨S0, hS0⟩ := HS0.out
    exact ⟨0, by omega, rfl, ⟨_, _, _, hS0⟩⟩
  case round =>
    obtain ⟨k, hk, rfl, HR⟩ := hrel
    obtain ⟨S, F, vb, hB⟩ := HR.out
    have HB : Hid _ := hB
    clear HR hB HS0
    by_cases hlt : k < len'
    · as_aux_lemma =>
      obtain ⟨⟨xb, xo, rfl, hxl, hx⟩, hfit⟩ := HQ'.out k hlt
      have i0 : (0 : Int) ≤ (k : Int) := by omega
      have i1 : (k : Int) < (len' : Int) := by omega
      clear X1 hfit
      generalize q' k = x at *
      obtain ⟨kd, cr, ⟨lp, ls, lf, lr⟩, bq, bk, bu⟩ := x
      obtain ⟨x0, x1, x2, x3, x4, x5, x6, x7, x8⟩ := hx
      have HXC : Hid (∀ w', Below W1.heap.size W1 w' → w'.cell? ⟨xb, xo + k * 9, none⟩ = some (.int .i64 kd) ∧ w'.cell? ⟨xb, xo + k * 9 + 2, none⟩ = some (.int .i64 lp) ∧ w'.cell? ⟨xb, xo + k * 9 + 3, none⟩ = some (.int .i64 ls) ∧ w'.cell? ⟨xb, xo + k * 9 + 4, none⟩ = some (.int .i64 lf) ∧ w'.cell? ⟨xb, xo + k * 9 + 5, none⟩ = some (.int .i64 lr)) := fun w' hb => by
        have hb' := bthen HB1.out hb
        exact ⟨(hb'.cell (p := ⟨xb, xo + k * 9, none⟩) hxl).trans x0, (hb'.cell (p := ⟨xb, xo + k * 9 + 2, none⟩) hxl).trans x2, (hb'.cell (p := ⟨xb, xo + k * 9 + 3, none⟩) hxl).trans x3, (hb'.cell (p := ⟨xb, xo + k * 9 + 4, none⟩) hxl).trans x4, (hb'.cell (p := ⟨xb, xo + k * 9 + 5, none⟩) hxl).trans x5⟩
      obtain ⟨y0, y2, y3, y4, y5⟩ := HXC.out _ HB.out.bel
      clear x0 x1 x2 x3 x4 x5 x6 x7 x8 HQ'
      by_cases h1 : kd = 1
      · subst h1
        have HI := tInsert_any 0 ⟨lp, ls, lf, lr⟩ wr HB.out.fr
        simp only [Pg.Mp.val] at HI
        go_wp2_with fail
        refine HI.mono ?_
        rintro e w5 ⟨rfl, F5, h5, hb5, hF5⟩
        have G5 : Hid _ := HB.out.stepF h5 hb5 hF5
        obtain ⟨z0, z2, z3, z4, z5⟩ := HXC.out _ G5.out.bel
        have HI2 := insertTo_any 0 ⟨lp, ls, lf, lr⟩ w5 G5.out.mem
        simp only [Pg.Mp.val] at HI2
        clear h5 hb5 hF5 HI y0 y2 y3 y4 y5
        go_wp2_with fail
        refine HI2.mono ?_
        rintro e w6 ⟨rfl, v6, h6, hb6, hv6⟩
        have G6 : Hid _ := G5.out.stepM2 h6 hb6 (.inl hv6)
        clear h6 hb6 hv6 HI2
        go_wp2_with fail
        exact ⟨⟨k + 1, by omega, by go_num, ⟨_, _, _, G6.out⟩⟩, by simp [intOf]; omega⟩
      · have nn1 : (kd == 1) = false := by simpa using h1
        clear h1
        by_cases h2 : kd = 2
        · subst h2
          have HP := tRemove_any 0 lp wr HB.out.fr
          have HP2 := fun w (h : MemAt w bm g0 g1 vb S) => removeFrom_any 0 lp w h
          have hGl := rmR_len S 0 lp
          generalize Pg.tFM S 0 lp = dm at *
          generalize Pg.tFC S 0 lp = code at *
          generalize (Pg.rmR S 0 lp).1 = S1 at *
          generalize (Pg.rmR S 0 lp).2 = G at *
          obtain ⟨dp, ds, df, dr⟩ := dm
          have hmF : Hid (∀ j, memF bm g0 g1 vb j → j < wr.heap.size) := fun j hj => HB.out.mem.raw.lt hj
          go_wp2_with fail
          refine HP.mono ?_
          rintro e w5 ⟨ga, gc, F5, rfl, hi5, h5, hb5, hF5, hg5⟩
          have G5 : Hid _ := HB.out.stepF h5 hb5 hF5
          have HG5 : Hid (∀ g, ga = some ⟨g, 0, none⟩ → wr.heap.size ≤ g ∧ ¬ F5 g) := hg5
          have I5 : Hid (IntsAt w5 ga G) := hi5
          have hb5m := balloc (brefl w5) (.cells #[.int .i64 dp, .int .i64 ds, .int .i64 df, .int .i64 dr] 53)
          have G5m : Hid _ := G5.out.grow hb5m
          have I5m : Hid (IntsAt (w5.alloc (.cells #[.int .i64 dp, .int .i64 ds, .int .i64 df, .int .i64 dr] 53)) ga G) := IntsAt.below hi5 hb5m
          obtain ⟨z0, z2, z3, z4, z5⟩ := HXC.out _ G5m.out.bel
          clear h5 hb5 hF5 HP y0 y2 y3 y4 y5 hi5 hg5 hb5m
          simp only [Pg.Mp.val]
          have hxl5 : xb < w5.heap.size := by have := G5.out.bel.size; omega
          have hnx5 : ¬ xb = w5.heap.size := by omega
          have z2' : w5.cell? ⟨xb, xo + k * 9 + 2, none⟩ = some (.int .i64 lp) := (HXC.out _ G5.out.bel).2.1
          go_wp2_with fail
          refine (HP2 _ G5m.out.mem).mono ?_
          rintro e w6 ⟨ga2, gc2, rfl, hi6, h6, hb6, hg6⟩
          have G6 : Hid _ := G5m.out.stepM2 h6 hb6 (.inl rfl)
          have I6 : Hid (IntsAt w6 ga G) := IntsAt.but I5m.out hb6 fun g hg h => by have := (HG5.out g hg).1; have := hmF.out g h; omega
          have N6 : Hid (∀ g, ga = some ⟨g, 0, none⟩ → ¬ F5 g ∧ ¬ memF bm g0 g1 vb g) := fun g hg => ⟨(HG5.out g hg).2, fun h => by have := (HG5.out g hg).1; have := hmF.out g h; omega⟩
          clear h6 hb6 hi6 hg6 HP2 HG5 hmF I5 I5m z0 z2 z3 z4 z5 z2' G5 G5m
          go_wp2_with fail
          generalize wr.heap.size = bx at *
          go_loopw [13] (fun jv wi => ∃ j : Nat, j ≤ G.length ∧ jv = .int .i64 (j : Int) ∧ Hid (∃ S' F' vb', Side W1 bf bm g0 g1 vb' F' S' S' wi ∧ IntsAt wi ga G ∧ ∀ g, ga = some ⟨g, 0, none⟩ → ¬ F' g ∧ ¬ memF bm g0 g1 vb' g)) (fun jv _ => G.length - (intOf jv).toNat)
          case atStart => exact ⟨0, by omega, rfl, ⟨_, _, _, G6.out, I6.out, N6.out⟩⟩
          case round =>
            obtain ⟨j, hj, rfl, HRj⟩ := hrel
            obtain ⟨Sj, Fj, vj, pj, ij, gj⟩ := HRj.out
            have PJ : Hid _ := pj
            have IJ : Hid (IntsAt wr ga G) := ij
            have GJ : Hid _ := gj
            clear HRj pj ij gj G6 I6 N6
            have j0 : (0 : Int) ≤ (j : Int) := by omega
            by_cases hjl : j < G.length
            · have j1 : (j : Int) < (G.length : Int) := by omega
              obtain ⟨g, rfl, hgl, hgc⟩ := IJ.out j hjl
              obtain ⟨ng1, ng2⟩ := GJ.out g rfl
              have HGf := frGive_any (G.getD j 0) wr PJ.out.fr
              have HMg := fun (w : World) (vq : Value) (h : MemAt w bm g0 g1 vq Sj) => memGive_any (G.getD j 0) w h
              generalize G.getD j 0 = xg at *
              go_wp2_with fail
              refine HGf.mono ?_
              rintro e w8 ⟨rfl, F8, h8, hb8, hF8⟩
              have P8 : Hid _ := PJ.out.stepF h8 hb8 hF8
              have hg8 : w8.cell? ⟨g, j, none⟩ = some (.int .i64 xg) := (hb8.cell (a := ⟨g, j, none⟩) hgl ng1).trans hgc
              have I8 : Hid (IntsAt w8 (some ⟨g, 0, none⟩) G) := IntsAt.but IJ.out hb8 fun g' e h => by cases e; exact ng1 h
              have hgl8 : g < w8.heap.size := World.block_lt_of_cell? _ _ hg8
              have NF8 : Hid (¬ F8 g) := notF_of hF8 ng1 hgl
              clear h8 hb8 hF8 HGf
              go_wp2_with fail
              refine (HMg _ _ P8.out.mem).mono ?_
              rintro e w9 ⟨rfl, v9, h9, hb9, hv9⟩
              have P9 : Hid _ := P8.out.stepM2 h9 hb9 hv9
              have I9 : Hid (IntsAt w9 (some ⟨g, 0, none⟩) G) := IntsAt.but I8.out hb9 fun g' e h => by cases e; exact ng2 h
              have NM9 : Hid (¬ memF bm g0 g1 v9 g) := notM_of hv9 ng2 hgl8
              clear h9 hb9 hv9 HMg
              go_wp2_with fail
              exact ⟨⟨j + 1, by omega, by go_num, ⟨_, _, _, P9.out, I9.out, fun g' e => by cases e; exact ⟨NF8.out, NM9.out⟩⟩⟩, by simp [intOf]; omega⟩
            · have j1 : ¬ (j : Int) < (G.length : Int) := by omega
              go_wp2_with fail
              exact ⟨⟨k + 1, by omega, by go_num, ⟨_, _, _, PJ.out⟩⟩, by simp [intOf]; omega⟩
        · have nn2 : (kd == 2) = false := by simpa using h2
          clear h2
          go_wp2_with fail
          exact ⟨⟨k + 1, by omega, by go_num, ⟨_, _, _, HB.out⟩⟩, by simp [intOf]; omega⟩
    · have i1 : ¬ (k : Int) < (len' : Int) := by omega
      clear HQ'
      have hbx : wr.heap[W.heap.size]? = W1.heap[W.heap.size]? := HB.out.bel.block _ hl1
      obtain ⟨y0, y2, y3, y4, y5, _⟩ := bst_cells (bst_block X1.out hbx)
      simp only at y0 y2 y3 y4 y5
      have fin0 : Hid (∀ w', Below W1.heap.size W1 w' → Below W.heap.size W w') := fun w' hb => bthen HB1.out hb
      clear hbx X1
      by_cases h1 : kind = 1
      · as_aux_lemma =>
        subst h1
        have HI := tInsert_any 0 ⟨mp, ms, mf, mr⟩ wr HB.out.fr
        have hst : Pg.insC S 0 ⟨mp, ms, mf, mr⟩ ≠ 0 → Pg.insS S 0 ⟨mp, ms, mf, mr⟩ = S := fun h => by rw [Pg.insS, if_neg h]
        simp only [Pg.Mp.val] at HI
        generalize Pg.insC S 0 ⟨mp, ms, mf, mr⟩ = code at *
        generalize Pg.insS S 0 ⟨mp, ms, mf, mr⟩ = S1 at *
        go_wp2_with fail
        refine HI.mono ?_
        rintro e w5 ⟨rfl, F5, h5, hb5, hF5⟩
        have G5 : Hid _ := HB.out.stepF h5 hb5 hF5
        clear h5 hb5 hF5 HI y0 y2 y3 y4 y5
        by_cases hz : code = 0
        · subst hz
          have fin := G5.out.bel
          go_wp2_with fail
          go_ret
          exact ⟨rfl, fin0.out _ fin⟩
        · have hcb : (code == 0) = false := by simpa using hz
          have e1 := hst hz
          subst e1
          have HSW := sameWords_any G5.out
          clear hst hz
          go_wp2_with fail
          refine HSW.mono ?_
          rintro e w6 ⟨rfl, hb6⟩
          have G6 : Hid _ := G5.out.grow hb6
          have HT := frTake_any w6 G6.out.fr
          have HT2 := fun (w : World) (h : MemAt w bm g0 g1 vb S1) => memTake_any w h
          generalize S1.takeN = tk at *
          have tt : (tk == tk) = true := by simp
          clear hb6 HSW
          go_wp2_with fail
          refine HT.mono ?_
          rintro e w7 ⟨rfl, F7, h7, hb7, hF7⟩
          have G7 : Hid _ := G6.out.stepF h7 hb7 hF7
          clear h7 hb7 hF7 HT
          go_wp2_with fail
          refine (HT2 _ G7.out.mem).mono ?_
          rintro e w8 ⟨rfl, v8, h8, hb8, hv8⟩
          have G8 : Hid _ := G7.out.stepM h8 hb8 hv8
          clear h8 hb8 hv8 HT2
          go_wp2_with fail
          go_ret
          exact ⟨rfl, fin0.out _ G8.out.bel⟩
      · have nn1 : (kind == 1) = false := by simpa using h1
        clear h1
        by_cases h2 : kind = 2
        · as_aux_lemma =>
          subst h2
          have HP := tRemove_any 0 mp wr HB.out.fr
          have hst : Pg.tFC S 0 mp ≠ 0 → (Pg.rmR S 0 mp).1 = S := fun h => by rw [Pg.rmR, if_neg h]
          generalize Pg.tFM S 0 mp = dm at *
          generalize Pg.tFC S 0 mp = code at *
          generalize (Pg.rmR S 0 mp).1 = S1 at *
          generalize (Pg.rmR S 0 mp).2 = G at *
          obtain ⟨dp, ds, df, dr⟩ := dm
          go_wp2_with fail
          refine HP.mono ?_
          rintro e w5 ⟨ga, gc, F5, rfl, hi5, h5, hb5, hF5, hg5⟩
          have G5 : Hid _ := HB.out.stepF h5 hb5 hF5
          clear h5 hb5 hF5 HP y0 y2 y3 y4 y5 hi5 hg5
          simp only [Pg.Mp.val]
          by_cases hz : code = 0
          · subst hz
            have fin := G5.out.bel
            go_wp2_with fail
            go_ret
            exact ⟨rfl, fin0.out _ fin⟩
          · have hcb : (code == 0) = false := by simpa using hz
            have e1 := hst hz
            subst e1
            have HSW := sameWords_any G5.out
            clear hst hz
            go_wp2_with fail
            refine HSW.mono ?_
            rintro e w6 ⟨rfl, hb6⟩
            have G6 : Hid _ := G5.out.grow hb6
            have HT := frTake_any w6 G6.out.fr
            have HT2 := fun (w : World) (h : MemAt w bm g0 g1 vb S1) => memTake_any w h
            generalize S1.takeN = tk at *
            have tt : (tk == tk) = true := by simp
            clear hb6 HSW
            go_wp2_with fail
            refine HT.mono ?_
            rintro e w7 ⟨rfl, F7, h7, hb7, hF7⟩
            have G7 : Hid _ := G6.out.stepF h7 hb7 hF7
            clear h7 hb7 hF7 HT
            go_wp2_with fail
            refine (HT2 _ G7.out.mem).mono ?_
            rintro e w8 ⟨rfl, v8, h8, hb8, hv8⟩
            have G8 : Hid _ := G7.out.stepM h8 hb8 hv8
            clear h8 hb8 hv8 HT2
            go_wp2_with fail
            go_ret
            exact ⟨rfl, fin0.out _ G8.out.bel⟩
        · have nn2 : (kind == 2) = false := by simpa using h2
          clear h2
          by_cases h3 : kind = 3
          · as_aux_lemma =>
            subst h3
            have HP := tProtect_any 0 mp mr wr HB.out.fr
            have hst : Pg.prC S 0 mp mr ≠ 0 → Pg.prS S 0 mp mr = S := fun h => by rw [Pg.prS, if_neg h]
            generalize Pg.prM S 0 mp mr = dm at *
            generalize Pg.prC S 0 mp mr = code at *
            generalize Pg.prS S 0 mp mr = S1 at *
            obtain ⟨dp, ds, df, dr⟩ := dm
            simp only [Pg.Mp.val] at HP
            go_wp2_with fail
            refine HP.mono ?_
            rintro e w5 ⟨rfl, F5, h5, hb5, hF5⟩
            have G5 : Hid _ := HB.out.stepF h5 hb5 hF5
            clear h5 hb5 hF5 HP y0 y2 y3 y4 y5
            by_cases hz : code = 0
            · subst hz
              have fin := G5.out.bel
              go_wp2_with fail
              go_ret
              exact ⟨rfl, fin0.out _ fin⟩
            · have hcb : (code == 0) = false := by simpa using hz
              have e1 := hst hz
              subst e1
              have HSW := sameWords_any G5.out
              clear hst hz
              go_wp2_with fail
              refine HSW.mono ?_
              rintro e w6 ⟨rfl, hb6⟩
              have G6 : Hid _ := G5.out.grow hb6
              have HT := frTake_any w6 G6.out.fr
              have HT2 := fun (w : World) (h : MemAt w bm g0 g1 vb S1) => memTake_any w h
              generalize S1.takeN = tk at *
              have tt : (tk == tk) = true := by simp
              clear hb6 HSW
              go_wp2_with fail
              refine HT.mono ?_
              rintro e w7 ⟨rfl, F7, h7, hb7, hF7⟩
              have G7 : Hid _ := G6.out.stepF h7 hb7 hF7
              clear h7 hb7 hF7 HT
              go_wp2_with fail
              refine (HT2 _ G7.out.mem).mono ?_
              rintro e w8 ⟨rfl, v8, h8, hb8, hv8⟩
              have G8 : Hid _ := G7.out.stepM h8 hb8 hv8
              clear h8 hb8 hv8 HT2
              go_wp2_with fail
              go_ret
              exact ⟨rfl, fin0.out _ G8.out.bel⟩
          · have nn3 : (kind == 3) = false := by simpa using h3
            clear h3
            have fin := HB.out.bel
            go_wp2_with fail
            go_ret
            exact ⟨rfl, fin0.out _ fin⟩

set_option maxRecDepth 100000 in
theorem tableStays_lifted (os : Os) (started : os.Started) (H : Type) (enc : TypeId × Value → H) :
    ReturnsInHanded {} Try.checked os 7 .any (Rows.tableStaysSpec.pre6 enc Try.prog Try.f7 Rows.tableStaysRow.domain false) (Rows.tableStaysSpec.post enc Try.prog Try.f7 false true false false) := by
  refine returnsInHanded_of_change (C := Try.checked) own started (by kernel_rfl) Try.func7
    (ChangeSpec.witness6 (enc := enc) (C := Try.checked) false ⟨#[], #[.int .i64 0, .slice none 0 0, .agg #[.int .i64 0, .int .i64 0, .int .i64 0, .int .i64 0, .int .i64 0, .int .i64 0, .int .i64 0, .int .i64 0, .bool false]], []⟩ 8 (by kernel_rfl) (by kernel_rfl) (by kernel_rfl) (by kernel_rfl)) ?_
  intro W base args ds gs before hval0 hW hcnd _
  have hval : ∀ (j : Nat) t v, Try.f7.params[j]? = some t → args[j]? = some v → Value.okWide Try.prog W .any base t v := hval0
  have hW' := hW
  obtain ⟨p, q, hA0, hV, rfl, hfz, hnd⟩ := hW
  have hA : DataW.TrodAll enc Try.prog W 0 (fun _ => true) true Try.f7.params.toList args.toList ds p := hA0
  rw [Try.params7] at hA hval
  obtain ⟨v0, vs0, d0, ds0, p0, q0, hargs, rfl, rfl, h0, r0⟩ := trodAll_cons hA
  obtain ⟨v1, vs1, d1, ds1, p1, q1, rfl, rfl, rfl, h1, r1⟩ := trodAll_cons r0
  obtain ⟨v2, vs2, d2, ds2, p2, q2, rfl, rfl, rfl, h2, r2⟩ := trodAll_cons r1
  obtain ⟨rfl, rfl, rfl⟩ := trodAll_nil r2
  obtain rfl : args = #[v0, v1, v2] := by cases args; simp_all
  obtain ⟨rfl, rfl⟩ := trodVars_none hV
  obtain ⟨a0a, rfl, f0a⟩ := openInt (hval 0 3 v0 rfl rfl) h0
  obtain ⟨a1a, a1b, a1c, a1d, rfl, f1a⟩ := openBsts (hval 1 56 v1 rfl rfl) h1
  obtain ⟨a2a, rfl, f2a⟩ := openStep (hval 2 60 v2 rfl rfl) h2
  clear hA0 hval0
  refine (tableStays_walk W a0a f0a a1a a1b a1c a1d f1a a2a f2a).mono fun e W' ⟨he, bel⟩ => ?_
  subst he
  exact ⟨_, rfl, _, _, _, [], _, [], hW', trodAll_mk1 (shut_bool Try.underlying4 _), (trodAll_cons_mk (stays (by kernel_rfl) (of_decide_eq_true (by kernel_rfl)) h0 bel) (trodAll_cons_mk (stays (by kernel_rfl) (of_decide_eq_true (by kernel_rfl)) h1 bel) (trodAll_cons_mk (stays (by kernel_rfl) (of_decide_eq_true (by kernel_rfl)) h2 bel) trodAll_mk0))), rfl, bel.frame _, fun h => by cases h⟩

theorem tableStays_over : Rows.tableStaysRow.holds Try.pinned (OpenSpec.ofChange Rows.tableStaysSpec) :=
  OpenClaim.holds_of_wide 7 Try.f7 rfl rfl rfl rfl rfl rfl rfl ⟨rfl, rfl, rfl, rfl, rfl⟩ rfl rfl rfl rfl rfl (by kernel_rfl) Try.func7 (by kernel_rfl)
    (of_decide_eq_true (by kernel_rfl)) (by unfold Func.isWrapper; first | (rw [if_pos (by decide +kernel)]; kernel_rfl) | (rw [if_neg (by decide +kernel)]; exact ⟨rfl, rfl⟩))
    (fun os started H enc _ => tableStays_lifted os started H enc)

theorem tableStays_proved : Rows.TableStaysSaid := tableStays_over
#print axioms tableStays_proved
end Go.Proofs.Ytdenjkjkchggaac
