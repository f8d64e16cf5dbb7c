
/-
  TableKeeps: what is marked stays marked, for every argument.
-/
import Derived.Test.YtbkpndgadgafiacTabKp
import Derived.Deep.RegionHeld3
import Derived.Deep.DeepCutAuto
import Derived.Test.YtbkpndgadgafiacRows
namespace Go.Proofs.Ytbkpndgadgafiac
open Go.ChangeShapes Go.WideShapes Go.ChangeAt Go.RowKit Go.Joins Go.Deep Go.Sort
set_option maxRecDepth 100000
set_option linter.unusedVariables false
set_option linter.unusedSimpArgs false

theorem memory_one {nn : Nat} (h : 1 ≤ nn) : Pg.Fs.memory nn 1 (fun _ => 0) 0 = (Pg.Fs.new nn).take := by
  have e : min (1 : Int).toNat nn = 1 := by simp; omega
  unfold Pg.Fs.memory
  rw [e]
  rfl

set_option maxHeartbeats 8000000 in
theorem tableKeeps_walk (W : World) (n : Int) (hn : Pg.fits n) (ad' : Option Addr) (len' cap' : Nat) (q' : Nat → Bst)
    (hq' : ∀ j, j < len' → (∃ b o, ad' = some ⟨b, o, none⟩ ∧ b < W.heap.size ∧ BstAt W b (o + j * 9) (q' j)) ∧ BstFits (q' j)) (a0 : Int) (ha0 : Pg.fits a0) :
    Calls Try.prog 8 #[.int .i64 n, .slice ad' len' cap', .int .i64 a0] W fun e W' => e = .returned (.bool true) ∧ Below W.heap.size W W' := by
  have HQ' : Hid _ := hq'
  clear hn hq' ha0
  have hcase : decide (n < 1) = true ∨ (decide (n < 1) = false ∧ decide (128 < n) = true) ∨ (decide (n < 1) = false ∧ decide (128 < n) = false ∧ (150 : Int) < (len' : Int)) ∨ (decide (n < 1) = false ∧ decide (128 < n) = false ∧ decide ((150 : Int) < (len' : Int)) = false ∧ 1 ≤ n ∧ n ≤ 128 ∧ len' ≤ 150) := by
    by_cases h0 : n < 1
    · exact .inl (by simpa using h0)
    · by_cases h1 : 128 < n
      · exact .inr (.inl ⟨by simpa using h0, by simpa using h1⟩)
      · by_cases h2 : 150 < len'
        · exact .inr (.inr (.inl ⟨by simpa using h0, by simpa using h1, by omega⟩))
        · exact .inr (.inr (.inr ⟨by simpa using h0, by simpa using h1, by simp; omega, by omega, by omega, by omega⟩))
  rcases hcase with h0 | ⟨h0, h1⟩ | ⟨h0, h1, h2⟩ | ⟨h0, h1, h2, n0, n1, hl'⟩
  iterate 3 focus
    go_enter Try.func8, Try.ntmps8
    go_wp2_with fail
    refine (tableBegun_any _).mono ?_
    rintro e w1 ⟨rfl, hb1⟩
    have HB : Hid _ := hb1
    clear hb1
    go_wp2_with fail
    go_ret
    exact ⟨rfl, HB.out⟩
  obtain ⟨nn, rfl⟩ := Int.eq_ofNat_of_zero_le (show 0 ≤ n by omega)
  go_enter Try.func8, Try.ntmps8
  go_wp2_with fail
  refine (tableBegun_any _).mono ?_
  rintro e w1 ⟨rfl, hb1⟩
  have HB1 : Hid (Below W.heap.size W w1) := hb1
  have HM := memory_any nn (by omega) 1 none 0 0 (by omega) (fun _ => 0) w1 (fun j hj => absurd hj (by omega))
  rw [memory_one (by omega)] at HM
  have HR0 : Hid (Pg.Rep (Pg.Fs.new nn).take []) := Pg.rep_start (by omega) (by omega)
  have HN0 : Hid ((Pg.Fs.new nn).take.n = nn) := take_n _
  generalize (Pg.Fs.new nn).take = S0 at *
  clear hb1
  go_wp2_with fail
  refine HM.mono ?_
  rintro e w2 ⟨bf, bm, g0, g1, vb0, F0, rfl, hS⟩
  have T3 : Hid (Tk W w2 bf F0 S0) := ⟨bthen HB1.out hS.bel, hS.fr, fun k hk => Nat.le_trans HB1.out.size (hS.fhi k hk)⟩
  clear hS HM HB1
  go_wp2_with fail
  go_loopw [2, 9, 10] (fun s2 s9 i wr => ∃ (k : Nat) (a mk : Int), k ≤ len' ∧ i = .int .i64 k ∧ s2 = .int .i64 a ∧ s9 = .int .i64 mk ∧ Hid (∃ S L F, Tk W wr bf F S ∧ Pg.Rep S L ∧ S.n = nn ∧ KpOk S mk)) (fun _ _ i _ => len' - (intOf i).toNat)
  case atStart => exact ⟨0, a0, -1, by omega, rfl, rfl, rfl, ⟨_, _, _, T3.out, HR0.out, HN0.out, .inl rfl⟩⟩
  case round =>
    obtain ⟨k, a, mk, hk, rfl, rfl, rfl, HR⟩ := hrel
    obtain ⟨S, L, F, hB, hRep, hSn, hKp⟩ := HR.out
    have HB : Hid _ := hB
    have HRep : Hid _ := hRep
    have HSn : Hid (S.n = nn) := hSn
    have HKp : Hid (KpOk S mk) := hKp
    clear HR hB hRep hSn hKp T3 HR0 HN0
    by_cases hlt : k < len'
    · as_aux_lemma =>
      obtain ⟨⟨xb, xo, rfl, hxl, hx⟩, hfit⟩ := HQ'.out k hlt
      have i0 : (0 : Int) ≤ (k : Int) := by omega
      have i1 : (k : Int) < (len' : Int) := by omega
      generalize q' k = x at *
      obtain ⟨kind, core, ⟨mp, ms, mf, mr⟩, aq, ak, au⟩ := x
      obtain ⟨x0, x1, x2, x3, x4, x5, x6, x7, x8⟩ := hx
      have y0 := (HB.out.bel.cell (p := ⟨xb, xo + k * 9, none⟩) hxl).trans x0
      have y1 := (HB.out.bel.cell (p := ⟨xb, xo + k * 9 + 1, none⟩) hxl).trans x1
      have y2 := (HB.out.bel.cell (p := ⟨xb, xo + k * 9 + 2, none⟩) hxl).trans x2
      have y3 := (HB.out.bel.cell (p := ⟨xb, xo + k * 9 + 3, none⟩) hxl).trans x3
      have y4 := (HB.out.bel.cell (p := ⟨xb, xo + k * 9 + 4, none⟩) hxl).trans x4
      have y5 := (HB.out.bel.cell (p := ⟨xb, xo + k * 9 + 5, none⟩) hxl).trans x5
      have y6 := (HB.out.bel.cell (p := ⟨xb, xo + k * 9 + 6, none⟩) hxl).trans x6
      have y7 := (HB.out.bel.cell (p := ⟨xb, xo + k * 9 + 7, none⟩) hxl).trans x7
      have y8 := (HB.out.bel.cell (p := ⟨xb, xo + k * 9 + 8, none⟩) hxl).trans x8
      simp only at y0 y1 y2 y3 y4 y5 y6 y7 y8
      clear x0 x1 x2 x3 x4 x5 x6 x7 x8 HQ' hfit
      obtain ⟨Wz, hWz⟩ : ∃ Wz, Wz = wr.alloc (.cells #[.int .i64 kind, .int .i64 core, .int .i64 mp, .int .i64 ms, .int .i64 mf, .int .i64 mr, .int .i64 aq, .int .i64 ak, .bool au] 60) := ⟨_, rfl⟩
      have hbz : Below wr.heap.size wr Wz := by rw [hWz]; exact balloc (brefl _) _
      have BZ : Hid _ := HB.out.grow hbz
      have XZ : Hid (BstAt Wz wr.heap.size 0 ⟨kind, core, ⟨mp, ms, mf, mr⟩, aq, ak, au⟩) := by
        rw [hWz]
        refine ⟨?_, ?_, ?_, ?_, ?_, ?_, ?_, ?_, ?_⟩ <;> simp [go_sem]
      have hlF : Hid (∀ j, F j → j < wr.heap.size) := fun j hj => HB.out.fr.lt hj
      have hlz : wr.heap.size < Wz.heap.size := World.block_lt_of_cell? _ _ XZ.out.1
      have z0 : Wz.cell? ⟨wr.heap.size, 0, none⟩ = some (.int .i64 kind) := XZ.out.1
      clear hbz HB
      go_upto_region 11 with fail
      rw [← hWz]
      clear hWz y0 y1 y2 y3 y4 y5 y6 y7 y8
      generalize wr.heap.size = X at *
      go_cut [60] (fun s60 wc => s60 = .int .i64 kind ∧ wc = Wz)
      case first =>
        go_wp2_with fail
        go_meet
        case rel => exact ⟨rfl, rfl⟩
      case rest =>
        obtain ⟨rfl, rfl⟩ := hcut
        rename_i hK1 K2 hK2
        refine hK2 _ _ ?_
        clear z0
        go_cut [2, 9] (fun s2 s9 wd => ∃ a' mk' : Int, s2 = .int .i64 a' ∧ s9 = .int .i64 mk' ∧ Hid (∃ S' L' F', Tk W wd bf F' S' ∧ Pg.Rep S' L' ∧ S'.n = nn ∧ KpOk S' mk'))
        case first =>
          by_cases h1 : kind = 1
          · as_aux_lemma =>
            subst h1
            obtain ⟨_, t2, t3, t4, t5, _⟩ := bst_cells XZ.out
            simp only at t2 t3 t4 t5
            have HI := tInsert_any 0 ⟨mp, ms, mf, mr⟩ wc BZ.out.fr
            simp only [Pg.Mp.val] at HI
            have HNI : Hid ((Pg.insS S 0 ⟨mp, ms, mf, mr⟩).n = nn) := by rw [Hid, insS_n]; exact HSn.out
            have HKI : Hid (KpOk (Pg.insS S 0 ⟨mp, ms, mf, mr⟩) mk) := HKp.out.map fun q _ hq => Pg.marked_insert HRep.out _ hq
            obtain ⟨L1, hr1, hf1⟩ := Pg.ins_found HRep.out ⟨mp, ms, mf, mr⟩
            simp only at hf1
            have HR1 : Hid _ := hr1
            have HF1 : Hid _ := hf1
            clear hr1 hf1
            generalize Pg.insS S 0 ⟨mp, ms, mf, mr⟩ = S1 at *
            generalize Pg.insC S 0 ⟨mp, ms, mf, mr⟩ = code at *
            by_cases hgo : code = 0 ∧ mk < 0 ∧ a ≤ (k : Int)
            · as_aux_lemma =>
              obtain ⟨hc0, hm0, ha0⟩ := hgo
              obtain ⟨q, hq, rfl, hfq⟩ := HF1.out hc0
              obtain ⟨kk, T, P, k1, k2, k3, k4, v0, v1, hr, hmk, hsn⟩ := Pg.mark_all HR1.out hq hfq
              subst hc0
              have hmb : decide (mk < 0) = true := by simpa using hm0
              have hab : decide (a ≤ (k : Int)) = true := by simpa using ha0
              have HR2 : Hid _ := hr
              have HN2 : Hid ((S1.store T P (bits .or .u64 (S1.load T P) 96)).n = nn) := by rw [Hid, hsn]; exact HNI.out
              have HK2 : Hid (KpOk (S1.store T P (bits .or .u64 (S1.load T P) 96)) (q : Int)) := .inr ⟨q, rfl, hq, hmk⟩
              have HV : Hid (0 ≤ bits .or .u64 (S1.load T P) 96 ∧ bits .or .u64 (S1.load T P) 96 < 18446744073709551616) := ⟨v0, v1⟩
              clear hr hmk hsn HKI HR1 HNI HF1 hfq v0 v1
              obtain ⟨N, hN⟩ : ∃ N, N = kk + 1 := ⟨_, rfl⟩
              rw [← hN] at k1
              go_wp2_with fail
              refine HI.mono ?_
              rintro e w5 ⟨rfl, F5, h5, hb5, hF5⟩
              have B5 : Hid _ := BZ.out.left h5 hb5 hF5
              have hbx : w5.heap[X]? = wc.heap[X]? := hb5.block X hlz fun h => by have := hlF.out X h; omega
              have hXF : Hid (¬ F5 X) := notF hF5 (fun h => by have := hlF.out X h; omega) hlz
              obtain ⟨_, u2, _⟩ := bst_cells (bst_block XZ.out hbx)
              simp only at u2
              have HFd := wFind_new 0 (q : Int) w5 B5.out.fr
              have tl := tabs_len (fndX S1 0 (q : Int))
              have pl := plcs_len (fndX S1 0 (q : Int))
              unfold spotV at HFd
              rw [k1] at HFd tl pl
              generalize lastL (fndX S1 0 (q : Int)) = xl at *
              generalize lastE (fndX S1 0 (q : Int)) = xe at *
              generalize tabs (fndX S1 0 (q : Int)) = Ts at *
              generalize plcs (fndX S1 0 (q : Int)) = Ps at *
              generalize fndC S1 0 (q : Int) = fc at *
              obtain ⟨et, el, er, eu, ed, ef⟩ := xe
              simp only at HFd
              clear h5 hb5 hF5 HI hbx t2 t3 t4 t5 XZ BZ k1
              go_wp2_with fail
              refine HFd.mono ?_
              rintro e w6 ⟨a1, c1, a2, c2, rfl, hi1, hi2, hw1, hw2, hb6⟩
              obtain ⟨g1, rfl, hg1, e1⟩ := hi1 kk (by omega)
              obtain ⟨g2, rfl, hg2, e2⟩ := hi2 kk (by omega)
              rw [k3] at e1
              rw [k4] at e2
              obtain ⟨W7, hW7⟩ : ∃ W7, W7 = w6.alloc (.cells #[.int .i64 xl, .bool et, .bool el, .int .i64 er, .bool eu, .bool ed, .int .i64 ef, .slice (some ⟨g1, 0, none⟩) N c1, .slice (some ⟨g2, 0, none⟩) N c2] 32) := ⟨_, rfl⟩
              have hb7 : Below w6.heap.size w6 W7 := by rw [hW7]; exact balloc (brefl w6) _
              have B7 : Hid _ := B5.out.grow (bthen hb6 hb7)
              have s7 : W7.cell? ⟨w6.heap.size, 7, none⟩ = some (.slice (some ⟨g1, 0, none⟩) N c1) := by rw [hW7]; simp [go_sem]
              have s8 : W7.cell? ⟨w6.heap.size, 8, none⟩ = some (.slice (some ⟨g2, 0, none⟩) N c2) := by rw [hW7]; simp [go_sem]
              have x7 : W7.cell? ⟨X, 2, none⟩ = some (.int .i64 (q : Int)) := cell_later (bthen hb6 hb7) u2
              have e1' : W7.cell? ⟨g1, kk, none⟩ = some (.int .i64 T) := cell_later hb7 e1
              have e2' : W7.cell? ⟨g2, kk, none⟩ = some (.int .i64 P) := cell_later hb7 e2
              have lX := World.block_lt_of_cell? _ _ x7
              have hF5l : ∀ j, F5 j → j < w5.heap.size := fun j hj => B5.out.fr.lt hj
              have hG1 : Hid (¬ F5 g1) := fun h => by have := hF5l _ h; have := hw1 g1 rfl; omega
              have hG2 : Hid (¬ F5 g2) := fun h => by have := hF5l _ h; have := hw2 g2 rfl; omega
              have hG3 : Hid (¬ F5 w6.heap.size) := fun h => by have := hF5l _ h; have := hb6.size; omega
              have ly := World.block_lt_of_cell? _ _ s7
              have lg1 := World.block_lt_of_cell? _ _ e1'
              have lg2 := World.block_lt_of_cell? _ _ e2'
              have HLd := fun m => frLoad_same T P (W7.drewN m) (B7.out.grow (below_drewN (brefl W7) m)).fr
              have HSt : Hid (∀ W', Below W7.heap.size W7 W' → Calls Try.prog 46 #[.pointer (some ⟨bf, 0, none⟩), .int .i64 T, .int .i64 P, .int .u64 (bits .or .u64 (S1.load T P) 96)] W' fun en w' => en = .returned (.bool (S1.at' T P)) ∧ (∃ F', Tk W w' bf F' (S1.store T P (bits .or .u64 (S1.load T P) 96))) ∧ w'.cell? ⟨X, 2, none⟩ = some (.int .i64 (q : Int)) ∧ w'.cell? ⟨w6.heap.size, 7, none⟩ = some (.slice (some ⟨g1, 0, none⟩) N c1) ∧ w'.cell? ⟨w6.heap.size, 8, none⟩ = some (.slice (some ⟨g2, 0, none⟩) N c2) ∧ w'.cell? ⟨g1, kk, none⟩ = some (.int .i64 T) ∧ w'.cell? ⟨g2, kk, none⟩ = some (.int .i64 P)) := fun W' hb => by
                refine (frStore_any T P _ HV.out.1 HV.out.2 W' (B7.out.grow hb).fr).mono ?_
                rintro en w' ⟨rfl, F4, f1, f2, f3⟩
                exact ⟨rfl, ⟨F4, (B7.out.grow hb).left f1 f2 f3⟩, (f2.cell (a := ⟨X, 2, none⟩) (Nat.lt_of_lt_of_le lX hb.size) hXF.out).trans (cell_later hb x7),
                  (f2.cell (a := ⟨w6.heap.size, 7, none⟩) (Nat.lt_of_lt_of_le ly hb.size) hG3.out).trans (cell_later hb s7),
                  (f2.cell (a := ⟨w6.heap.size, 8, none⟩) (Nat.lt_of_lt_of_le ly hb.size) hG3.out).trans (cell_later hb s8),
                  (f2.cell (a := ⟨g1, kk, none⟩) (Nat.lt_of_lt_of_le lg1 hb.size) hG1.out).trans (cell_later hb e1'),
                  (f2.cell (a := ⟨g2, kk, none⟩) (Nat.lt_of_lt_of_le lg2 hb.size) hG2.out).trans (cell_later hb e2')⟩
              have kl : (N : Int) - 1 = (kk : Int) := by omega
              have kp : (0 : Int) ≤ (kk : Int) := by omega
              have kq : (kk : Int) < (N : Int) := by omega
              have kn : ¬ (kk : Int) < 0 := by omega
              have kN : (N : Int) ≤ 4 := by omega
              have HK3 : Hid (Ts.getD kk 0 = T ∧ Ps.getD kk 0 = P ∧ N = kk + 1) := ⟨k3, k4, hN⟩
              have HLX : Hid _ := lX
              clear k3 k4 tl pl hN lX hg1 hg2 hF5l hw1 hw2 ly lg1 lg2
              clear hi1 hi2 hb6 hb7 HFd e1 e2 u2
              go_upto_region 18 with fail
              rw [← hW7]
              clear hW7
              generalize w6.heap.size = Y at *
              have HLX7 : Hid _ := x7
              go_quiet (first
                | (go_at_call 45; exact Calls.quiet_of_same (HLd _)))
              go_upto_region 19 with fail
              go_region_held3 (fun w' => w'.cell? ⟨Y, 7, none⟩ = some (.slice (some ⟨g1, 0, none⟩) N c1) ∧ w'.cell? ⟨Y, 8, none⟩ = some (.slice (some ⟨g2, 0, none⟩) N c2) ∧ w'.cell? ⟨g1, kk, none⟩ = some (.int .i64 T) ∧ w'.cell? ⟨g2, kk, none⟩ = some (.int .i64 P)) (go_keep) (first
                | (go_at_call 46; refine (HSt.out _ (by first | exact below_drewN (brefl W7) _ | exact (below_drewN (brefl W7) _).drew)).mono ?_; rintro en w8 ⟨rfl, hf8, x8, p7, p8, pg1, pg2⟩
                   have P8 : Hid _ := hf8
                   clear hf8))
              obtain ⟨F8, P9⟩ := P8.out
              have P10 : Hid _ := P9
              clear P9 P8 p7 p8 pg1 pg2
              go_wp2_with fail
              go_meet
              case rel => exact ⟨a, q, rfl, rfl, ⟨_, _, _, P10.out, HR2.out, HN2.out, HK2.out⟩⟩
            · have hno : ((code == 0) = false) ∨ ((code == 0) = true ∧ decide (mk < 0) = false ∧ ¬ mk < 0) ∨ ((code == 0) = true ∧ decide (mk < 0) = true ∧ decide (a ≤ (k : Int)) = false ∧ mk < 0 ∧ ¬ a ≤ (k : Int)) := by
                by_cases g1 : code = 0
                · by_cases g2 : mk < 0
                  · have g3 : ¬ a ≤ (k : Int) := fun g3 => hgo ⟨g1, g2, g3⟩
                    exact .inr (.inr ⟨by simpa using g1, by simpa using g2, by simpa using g3, g2, g3⟩)
                  · exact .inr (.inl ⟨by simpa using g1, by simpa using g2, g2⟩)
                · exact .inl (by simpa using g1)
              clear hgo
              go_wp2_with fail
              refine HI.mono ?_
              rintro e w5 ⟨rfl, F5, h5, hb5, hF5⟩
              have B5 : Hid _ := BZ.out.left h5 hb5 hF5
              clear h5 hb5 hF5 HI
              rcases hno with hA | ⟨hA, hB, hB'⟩ | ⟨hA, hB, hC, hB', hC'⟩
              all_goals
                go_wp2_with fail
                go_meet
                case rel => exact ⟨a, mk, rfl, rfl, ⟨_, _, _, B5.out, HR1.out, HNI.out, HKI.out⟩⟩
          · have nn1 : (kind == 1) = false := by simpa using h1
            clear h1
            by_cases h2 : kind = 2
            · as_aux_lemma =>
              subst h2
              obtain ⟨_, t2, _⟩ := bst_cells XZ.out
              simp only at t2
              have HP := tRemove_any 0 mp wc BZ.out.fr
              obtain ⟨r1, r2, r3, r4, r5, r6, _, _⟩ := Pg.rep_remove HRep.out mp
              have HMk : Hid (∀ q : Nat, Pg.Marked S (q : Int) → (Pg.tFC S 0 mp = 0 → (Pg.tFM S 0 mp).has (q : Int) = false) → Pg.Marked (Pg.gives (Pg.rmR S 0 mp).2 (Pg.rmR S 0 mp).1) (q : Int)) := fun q hm hn => Pg.marked_remove HRep.out mp hm hn
              have HFp : Hid (Pg.fits (Pg.tFM S 0 mp).p) := Pg.found_fits HRep.out mp
              have hGl := rmR_len S 0 mp
              generalize Pg.dropL L mp = L1 at *
              generalize (Pg.rmR S 0 mp).1 = S1 at *
              generalize (Pg.rmR S 0 mp).2 = Gn at *
              generalize Pg.tFM S 0 mp = dm at *
              generalize Pg.tFC S 0 mp = code at *
              have HR4 : Hid _ := r4
              have HR5 : Hid _ := r5
              have HR6 : Hid _ := r6
              have HR1 : Hid _ := r1
              have HN1 : Hid ((Pg.gives Gn S1).n = nn) := by
                obtain ⟨_, _, q, _⟩ := Pg.gives_like Gn S1 r1 r4 r5
                rw [Hid, q, r2]
                exact HSn.out
              clear r1 r2 r3 r4 r5 r6
              obtain ⟨dp, ds, df, dr⟩ := dm
              go_wp2_with fail
              refine HP.mono ?_
              rintro e w5 ⟨ga, gc, F5, rfl, hi5, h5, hb5, hF5, hg5⟩
              have B5 : Hid _ := BZ.out.left h5 hb5 hF5
              have hb5m := balloc (brefl w5) (.cells #[.int .i64 dp, .int .i64 ds, .int .i64 df, .int .i64 dr] 53)
              obtain ⟨W6, hW6⟩ : ∃ W6, W6 = w5.alloc (.cells #[.int .i64 dp, .int .i64 ds, .int .i64 df, .int .i64 dr] 53) := ⟨_, rfl⟩
              rw [← hW6] at hb5m
              have B6 : Hid _ := B5.out.grow hb5m
              have I6 : Hid (IntsAt W6 ga Gn) := IntsAt.below hi5 hb5m
              have M6 : Hid (MpAt W6 w5.heap.size 0 ⟨dp, ds, df, dr⟩) := by
                rw [hW6]
                refine ⟨?_, ?_, ?_, ?_⟩ <;> simp [go_sem]
              have N6 : Hid (∀ g, ga = some ⟨g, 0, none⟩ → ¬ F5 g) := fun g hg => (hg5 g hg).2
              have NM6 : Hid (¬ F5 w5.heap.size) := fun h => by have := B5.out.fr.lt h; omega
              clear h5 hb5 hF5 HP hi5 hg5 hb5m t2 B5 BZ XZ
              simp only [Pg.Mp.val]
              go_wp2_with fail
              rw [← hW6]
              clear hW6
              generalize w5.heap.size = M at *
              go_loopw [20] (fun jv wi => ∃ j : Nat, j ≤ Gn.length ∧ jv = .int .i64 (j : Int) ∧ Hid (∃ F', Tk W wi bf F' (Pg.gives (Gn.take j) S1) ∧ IntsAt wi ga Gn ∧ (∀ g, ga = some ⟨g, 0, none⟩ → ¬ F' g) ∧ MpAt wi M 0 ⟨dp, ds, df, dr⟩ ∧ ¬ F' M)) (fun jv _ => Gn.length - (intOf jv).toNat)
              case atStart => exact ⟨0, by omega, rfl, ⟨_, B6.out, I6.out, N6.out, M6.out, NM6.out⟩⟩
              case round =>
                obtain ⟨j, hj, rfl, HRj⟩ := hrel
                obtain ⟨Fj, pj, ij, gj, mj, nj⟩ := HRj.out
                have PJ : Hid _ := pj
                have IJ : Hid (IntsAt wr ga Gn) := ij
                have GJ : Hid _ := gj
                have MJ : Hid (MpAt wr M 0 ⟨dp, ds, df, dr⟩) := mj
                have NJ : Hid (¬ Fj M) := nj
                clear HRj pj ij gj mj nj B6 I6 N6 M6 NM6
                have j0 : (0 : Int) ≤ (j : Int) := by omega
                by_cases hjl : j < Gn.length
                · have j1 : (j : Int) < (Gn.length : Int) := by omega
                  obtain ⟨g, rfl, hgl, hgc⟩ := IJ.out j hjl
                  have ng1 := GJ.out g rfl
                  have HGf := frGive_any (Gn.getD j 0) wr PJ.out.fr
                  obtain ⟨q1, q2⟩ := gives_next HR1.out HR4.out HR5.out hjl
                  rw [q1, ← q2] at HGf
                  clear q1 q2
                  generalize Gn.getD j 0 = xg at *
                  go_wp2_with fail
                  refine HGf.mono ?_
                  rintro e w8 ⟨rfl, F8, h8, hb8, hF8⟩
                  have P8 : Hid _ := PJ.out.left h8 hb8 hF8
                  have I8 : Hid (IntsAt w8 (some ⟨g, 0, none⟩) Gn) := IntsAt.but IJ.out hb8 fun g' e h => by cases e; exact ng1 h
                  have NF8 : Hid (¬ F8 g) := notF hF8 ng1 hgl
                  have lM := World.block_lt_of_cell? _ _ MJ.out.1
                  have M8 : Hid (MpAt w8 M 0 ⟨dp, ds, df, dr⟩) := mp_block MJ.out (hb8.block M lM NJ.out)
                  have NM8 : Hid (¬ F8 M) := notF hF8 NJ.out lM
                  clear h8 hb8 hF8 HGf
                  go_wp2_with fail
                  exact ⟨⟨j + 1, by omega, by go_num, ⟨_, P8.out, I8.out, fun g' e => by cases e; exact NF8.out, M8.out, NM8.out⟩⟩, by simp [intOf]; omega⟩
                · have j1 : ¬ (j : Int) < (Gn.length : Int) := by omega
                  have ej : j = Gn.length := by omega
                  have P9 : Hid (Tk W wr bf Fj (Pg.gives Gn S1)) := by
                    have := PJ.out
                    rw [ej, List.take_length] at this
                    exact this
                  clear ej PJ IJ GJ
                  obtain ⟨a1, a2, a3, a4⟩ := MJ.out
                  simp only [Nat.zero_add] at a1 a2 a3 a4
                  by_cases hc : code = 0
                  · have hcb : (code == 0) = true := by simpa using hc
                    rcases HKp.out with rfl | ⟨q, rfl, hq, hm⟩
                    · clear hc
                      go_wp2_with fail
                      go_meet
                      case rel => exact ⟨a, -1, rfl, rfl, ⟨_, _, _, P9.out, HR6.out, HN1.out, .inl rfl⟩⟩
                    · have HH := refHas_any dp ds df dr (q : Int) HFp.out (by unfold Pg.fits; omega) wr
                      have q0 : (0 : Int) ≤ (q : Int) := by omega
                      cases ho : Pg.over dp ds (q : Int)
                      · rw [ho] at HH
                        have fin : Hid (KpOk (Pg.gives Gn S1) (q : Int)) := .inr ⟨q, rfl, hq, HMk.out q hm fun _ => ho⟩
                        clear hc hm ho
                        go_wp2_with fail
                        refine HH.mono ?_
                        rintro e w10 ⟨rfl, hb10⟩
                        have P10 : Hid _ := P9.out.grow hb10
                        clear hb10 HH a1 a2 a3 a4
                        go_wp2_with fail
                        go_meet
                        case rel => exact ⟨a, q, rfl, rfl, ⟨_, _, _, P10.out, HR6.out, HN1.out, fin.out⟩⟩
                      · rw [ho] at HH
                        clear hc hm ho
                        go_wp2_with fail
                        refine HH.mono ?_
                        rintro e w10 ⟨rfl, hb10⟩
                        have P10 : Hid _ := P9.out.grow hb10
                        clear hb10 HH a1 a2 a3 a4
                        go_wp2_with fail
                        go_meet
                        case rel => exact ⟨_, -1, rfl, rfl, ⟨_, _, _, P10.out, HR6.out, HN1.out, .inl rfl⟩⟩
                  · have hcb : (code == 0) = false := by simpa using hc
                    have fin : Hid (KpOk (Pg.gives Gn S1) mk) := HKp.out.map fun q _ hm => HMk.out q hm fun e => absurd e hc
                    clear hc
                    go_wp2_with fail
                    go_meet
                    case rel => exact ⟨a, mk, rfl, rfl, ⟨_, _, _, P9.out, HR6.out, HN1.out, fin.out⟩⟩
            · have nn2 : (kind == 2) = false := by simpa using h2
              clear h2
              by_cases h3 : kind = 3
              · as_aux_lemma =>
                subst h3
                obtain ⟨_, t2, _, _, t5, _⟩ := bst_cells XZ.out
                simp only at t2 t5
                have HP := tProtect_any 0 mp mr wc BZ.out.fr
                obtain ⟨_, _, er⟩ := Pg.rep_protect HRep.out mp mr
                have HNI : Hid ((Pg.prS S 0 mp mr).n = nn) := by rw [Hid, prS_n]; exact HSn.out
                have HKI : Hid (KpOk (Pg.prS S 0 mp mr) mk) := HKp.out.map fun q _ hq => Pg.marked_protect HRep.out _ _ hq
                have HER : Hid _ := er
                generalize Pg.protL L mp mr = L1 at *
                generalize Pg.prS S 0 mp mr = S1 at *
                clear er
                go_wp2_with fail
                refine HP.mono ?_
                rintro e w5 ⟨rfl, F5, h5, hb5, hF5⟩
                have B5 : Hid _ := BZ.out.left h5 hb5 hF5
                clear h5 hb5 hF5 HP t2 t5
                go_wp2_with fail
                go_meet
                case rel => exact ⟨a, mk, rfl, rfl, ⟨_, _, _, B5.out, HER.out, HNI.out, HKI.out⟩⟩
              · have nn3 : (kind == 3) = false := by simpa using h3
                clear h3
                go_wp2_with fail
                go_meet
                case rel => exact ⟨a, mk, rfl, rfl, ⟨_, _, _, BZ.out, HRep.out, HSn.out, HKp.out⟩⟩
        case rest =>
          as_aux_lemma =>
          obtain ⟨a', mk', rfl, rfl, HR9⟩ := hcut
          obtain ⟨S9, L9, F9, b9, r9, n9, k9⟩ := HR9.out
          have B9 : Hid _ := b9
          have R9 : Hid _ := r9
          have N9 : Hid (S9.n = nn) := n9
          have K9 : Hid (KpOk S9 mk') := k9
          clear HR9 b9 r9 n9 k9 BZ XZ HRep HSn HKp
          refine hK1 _ _ ?_
          rcases K9.out with rfl | ⟨q, rfl, hq, hm⟩
          · go_wp2_with fail
            exact ⟨⟨k + 1, a', -1, by omega, by go_num, rfl, rfl, ⟨_, _, _, B9.out, R9.out, N9.out, K9.out⟩⟩, by simp [intOf]; omega⟩
          · have HFd := fun (w : World) (h : FrAt w bf S9 F9) => tFind_any 0 (q : Int) w h
            obtain ⟨f1, f2, f3⟩ := Pg.marked_find R9.out hq hm
            rw [f1] at HFd
            generalize Pg.tFE S9 0 (q : Int) = en at *
            generalize Pg.tFM S9 0 (q : Int) = fm at *
            obtain ⟨et, el, er, eu, ed, ef⟩ := en
            obtain ⟨fp, fs, ff, fr⟩ := fm
            simp only at f2 f3
            subst f2 f3
            simp only [Pg.Mp.val, Pg.En.val] at HFd
            have q0 : (0 : Int) ≤ (q : Int) := by omega
            clear hm f1
            go_wp2_with fail
            refine (HFd _ B9.out.fr).mono ?_
            rintro e w10 ⟨rfl, hb10⟩
            have B10 : Hid (∀ o o', Tk W ((w10.alloc o).alloc o') bf F9 S9) := fun o o' => B9.out.grow (bthen hb10 (balloc (balloc (brefl w10) _) _))
            clear hb10 HFd
            go_wp2_with fail
            exact ⟨⟨k + 1, a', q, by omega, by go_num, rfl, rfl, ⟨_, _, _, B10.out _ _, R9.out, N9.out, K9.out⟩⟩, by simp [intOf]; omega⟩
    · have i1 : ¬ (k : Int) < (len' : Int) := by omega
      as_aux_lemma =>
      have hlenL : L.length ≤ 4680 := by
        have h1 := Pg.mapsOf_len (Pg.thr S Pg.allW 3 0 0).1
        have h2 := Pg.thr_len S Pg.allW 3 0 0
        have h3 : Pg.cnt' (3 + 1) = 4680 := rfl
        rw [HRep.out.maps] at h1
        omega
      have HL := wList_new 0 wr HB.out.fr
      rw [HRep.out.code, if_pos rfl, HRep.out.maps] at HL
      clear HQ'
      go_wp2_with fail
      refine HL.mono ?_
      rintro e w10 ⟨ad1, cap1, Lq, rfl, rfl, hm10, hn10, hb10⟩
      have B10 : Hid _ := HB.out.grow hb10
      have M10 : Hid (MapsAt w10 ad1 Lq) := hm10
      have N10 : Hid (∀ g, ad1 = some ⟨g, 0, none⟩ → ¬ F g) := fun g hg h => by have := hn10 g hg; have := HB.out.fr.lt h; omega
      clear hb10 hm10 hn10 HL HB
      go_wp2_with fail
      go_loopw [26] (fun iv wi => ∃ i : Nat, i ≤ Lq.length ∧ iv = .int .i64 (i : Int) ∧ Hid (∃ S' F', Tk W wi bf F' S' ∧ Pg.Rep S' (Lq.drop i) ∧ S'.n = nn ∧ MapsAt wi ad1 Lq ∧ ∀ g, ad1 = some ⟨g, 0, none⟩ → ¬ F' g)) (fun iv _ => Lq.length - (intOf iv).toNat)
      case atStart => exact ⟨0, by omega, rfl, ⟨_, _, B10.out, HRep.out, HSn.out, M10.out, N10.out⟩⟩
      case round =>
        obtain ⟨i, hi, rfl, HRi⟩ := hrel
        obtain ⟨Si, Fi, pi, ri, ni, mi, gi⟩ := HRi.out
        have PI : Hid _ := pi
        have RI : Hid _ := ri
        have NI : Hid (Si.n = nn) := ni
        have MI : Hid (MapsAt wr ad1 Lq) := mi
        have GI : Hid _ := gi
        clear HRi pi ri ni mi gi B10 M10 N10 HRep HSn HKp
        have j0 : (0 : Int) ≤ (i : Int) := by omega
        by_cases hil : i < Lq.length
        · have j1 : (i : Int) < (Lq.length : Int) := by omega
          obtain ⟨ag, rfl, hagl, hagc⟩ := MI.out i hil
          obtain ⟨c0, _⟩ := hagc
          have nag := GI.out ag rfl
          obtain ⟨f1, f2⟩ := Pg.rep_next hil RI.out
          obtain ⟨r1, r2, r3, r4, r5, _, _, _⟩ := Pg.rep_remove RI.out (Lq.getD i .zz).p
          have HP := tRemove_any 0 (Lq.getD i .zz).p wr PI.out.fr
          rw [f1] at HP
          have hGl := rmR_len Si 0 (Lq.getD i .zz).p
          generalize (Lq.getD i .zz).p = mp at *
          generalize (Pg.rmR Si 0 mp).1 = S1 at *
          generalize (Pg.rmR Si 0 mp).2 = Gn at *
          generalize Pg.tFM Si 0 mp = dm at *
          have HR4 : Hid _ := r4
          have HR5 : Hid _ := r5
          have HR6 : Hid _ := f2
          have HR1 : Hid _ := r1
          have HN1 : Hid ((Pg.gives Gn S1).n = nn) := by
            obtain ⟨_, _, q, _⟩ := Pg.gives_like Gn S1 r1 r4 r5
            rw [Hid, q, r2]
            exact NI.out
          clear r1 r2 r3 r4 r5 f1 f2
          obtain ⟨dp, ds, df, dr⟩ := dm
          go_wp2_with fail
          refine HP.mono ?_
          rintro e w5 ⟨ga, gc, F5, rfl, hi5, h5, hb5, hF5, hg5⟩
          have B5 : Hid _ := PI.out.left h5 hb5 hF5
          have hb5m := balloc (brefl w5) (.cells #[.int .i64 dp, .int .i64 ds, .int .i64 df, .int .i64 dr] 53)
          have B6 : Hid _ := B5.out.grow hb5m
          have I6 : Hid _ := IntsAt.below hi5 hb5m
          have A6 : Hid _ := MapsAt.below (MapsAt.but MI.out hb5 fun g' e h => by cases e; exact nag h) hb5m
          have N6 : Hid (∀ g, ga = some ⟨g, 0, none⟩ → ¬ F5 g) := fun g hg => (hg5 g hg).2
          have NA6 : Hid (¬ F5 ag) := notF hF5 nag hagl
          clear h5 hb5 hF5 HP hi5 hg5 hb5m B5 c0 PI RI NI MI GI
          simp only [Pg.Mp.val]
          go_wp2_with fail
          go_loopw [30] (fun jv wi => ∃ j : Nat, j ≤ Gn.length ∧ jv = .int .i64 (j : Int) ∧ Hid (∃ F', Tk W wi bf F' (Pg.gives (Gn.take j) S1) ∧ IntsAt wi ga Gn ∧ (∀ g, ga = some ⟨g, 0, none⟩ → ¬ F' g) ∧ MapsAt wi (some ⟨ag, 0, none⟩) Lq ∧ ¬ F' ag)) (fun jv _ => Gn.length - (intOf jv).toNat)
          case atStart => exact ⟨0, by omega, rfl, ⟨_, B6.out, I6.out, N6.out, A6.out, NA6.out⟩⟩
          case round =>
            obtain ⟨j, hj, rfl, HRj⟩ := hrel
            obtain ⟨Fj, pj, ij, gj, mj, nj⟩ := HRj.out
            have PJ : Hid _ := pj
            have IJ : Hid (IntsAt wr ga Gn) := ij
            have GJ : Hid _ := gj
            have MJ : Hid (MapsAt wr (some ⟨ag, 0, none⟩) Lq) := mj
            have NJ : Hid (¬ Fj ag) := nj
            clear HRj pj ij gj mj nj B6 I6 N6 A6 NA6
            have j0 : (0 : Int) ≤ (j : Int) := by omega
            by_cases hjl : j < Gn.length
            · have j1 : (j : Int) < (Gn.length : Int) := by omega
              obtain ⟨g, rfl, hgl, hgc⟩ := IJ.out j hjl
              have ng1 := GJ.out g rfl
              have HGf := frGive_any (Gn.getD j 0) wr PJ.out.fr
              obtain ⟨q1, q2⟩ := gives_next HR1.out HR4.out HR5.out hjl
              rw [q1, ← q2] at HGf
              clear q1 q2
              generalize Gn.getD j 0 = xg at *
              go_wp2_with fail
              refine HGf.mono ?_
              rintro e w8 ⟨rfl, F8, h8, hb8, hF8⟩
              have P8 : Hid _ := PJ.out.left h8 hb8 hF8
              have I8 : Hid (IntsAt w8 (some ⟨g, 0, none⟩) Gn) := IntsAt.but IJ.out hb8 fun g' e h => by cases e; exact ng1 h
              have NF8 : Hid (¬ F8 g) := notF hF8 ng1 hgl
              have lA : ag < wr.heap.size := by
                obtain ⟨g', e', hl', _⟩ := MJ.out i hil
                cases e'
                exact hl'
              have M8 : Hid (MapsAt w8 (some ⟨ag, 0, none⟩) Lq) := MapsAt.but MJ.out hb8 fun g' e h => by cases e; exact NJ.out h
              have NM8 : Hid (¬ F8 ag) := notF hF8 NJ.out lA
              clear h8 hb8 hF8 HGf
              go_wp2_with fail
              exact ⟨⟨j + 1, by omega, by go_num, ⟨_, P8.out, I8.out, fun g' e => by cases e; exact NF8.out, M8.out, NM8.out⟩⟩, by simp [intOf]; omega⟩
            · have j1 : ¬ (j : Int) < (Gn.length : Int) := by omega
              have ej : j = Gn.length := by omega
              have P9 : Hid (Tk W wr bf Fj (Pg.gives Gn S1)) := by
                have := PJ.out
                rw [ej, List.take_length] at this
                exact this
              clear ej PJ IJ GJ
              go_wp2_with fail
              exact ⟨⟨i + 1, by omega, by go_num, ⟨_, _, P9.out, HR6.out, HN1.out, MJ.out, fun g' e => by cases e; exact NJ.out⟩⟩, by simp [intOf]; omega⟩
        · have j1 : ¬ (i : Int) < (Lq.length : Int) := by omega
          have hfree : Si.free = (nn : Int) - 1 := by
            have h1 := RI.out
            rw [List.drop_eq_nil_of_le (by omega)] at h1
            rw [Pg.rep_end h1, NI.out]
          have HFr := frFree_any wr PI.out.fr
          rw [hfree] at HFr
          have HF : Hid _ := PI.out.bel
          clear hfree
          go_wp2_with fail
          refine HFr.mono ?_
          rintro e w9 ⟨rfl, hb9⟩
          have HF9 : Hid (Below W.heap.size W w9) := bthen HF.out hb9
          clear hb9 HFr
          go_wp2_with fail
          go_ret
          exact ⟨by simp, HF9.out⟩

set_option maxRecDepth 100000 in
theorem tableKeeps_lifted (os : Os) (started : os.Started) (H : Type) (enc : TypeId × Value → H) :
    ReturnsInHanded {} Try.checked os 8 .any (Rows.tableKeepsSpec.pre6 enc Try.prog Try.f8 Rows.tableKeepsRow.domain false) (Rows.tableKeepsSpec.post enc Try.prog Try.f8 false true false false) := by
  refine returnsInHanded_of_change (C := Try.checked) own started (by kernel_rfl) Try.func8
    (ChangeSpec.witness6 (enc := enc) (C := Try.checked) false ⟨#[], #[.int .i64 0, .slice none 0 0, .int .i64 0], []⟩ 8 (by kernel_rfl) (by kernel_rfl) (by kernel_rfl) (by kernel_rfl)) ?_
  intro W base args ds gs before hval0 hW hcnd _
  have hval : ∀ (j : Nat) t v, Try.f8.params[j]? = some t → args[j]? = some v → Value.okWide Try.prog W .any base t v := hval0
  have hW' := hW
  obtain ⟨p, q, hA0, hV, rfl, hfz, hnd⟩ := hW
  have hA : DataW.TrodAll enc Try.prog W 0 (fun _ => true) true Try.f8.params.toList args.toList ds p := hA0
  rw [Try.params8] at hA hval
  obtain ⟨v0, vs0, d0, ds0, p0, q0, hargs, rfl, rfl, h0, r0⟩ := trodAll_cons hA
  obtain ⟨v1, vs1, d1, ds1, p1, q1, rfl, rfl, rfl, h1, r1⟩ := trodAll_cons r0
  obtain ⟨v2, vs2, d2, ds2, p2, q2, rfl, rfl, rfl, h2, r2⟩ := trodAll_cons r1
  obtain ⟨rfl, rfl, rfl⟩ := trodAll_nil r2
  obtain rfl : args = #[v0, v1, v2] := by cases args; simp_all
  obtain ⟨rfl, rfl⟩ := trodVars_none hV
  obtain ⟨a0a, rfl, f0a⟩ := openInt (hval 0 3 v0 rfl rfl) h0
  obtain ⟨a1a, a1b, a1c, a1d, rfl, f1a⟩ := openBsts (hval 1 56 v1 rfl rfl) h1
  obtain ⟨a2a, rfl, f2a⟩ := openInt (hval 2 3 v2 rfl rfl) h2
  clear hA0 hval0
  refine (tableKeeps_walk W a0a f0a a1a a1b a1c a1d f1a a2a f2a).mono fun e W' ⟨he, bel⟩ => ?_
  subst he
  exact ⟨_, rfl, _, _, _, [], _, [], hW', trodAll_mk1 (shut_bool Try.underlying4 _), (trodAll_cons_mk (stays (by kernel_rfl) (of_decide_eq_true (by kernel_rfl)) h0 bel) (trodAll_cons_mk (stays (by kernel_rfl) (of_decide_eq_true (by kernel_rfl)) h1 bel) (trodAll_cons_mk (stays (by kernel_rfl) (of_decide_eq_true (by kernel_rfl)) h2 bel) trodAll_mk0))), rfl, bel.frame _, fun h => by cases h⟩

theorem tableKeeps_over : Rows.tableKeepsRow.holds Try.pinned (OpenSpec.ofChange Rows.tableKeepsSpec) :=
  OpenClaim.holds_of_wide 8 Try.f8 rfl rfl rfl rfl rfl rfl rfl ⟨rfl, rfl, rfl, rfl, rfl⟩ rfl rfl rfl rfl rfl (by kernel_rfl) Try.func8 (by kernel_rfl)
    (of_decide_eq_true (by kernel_rfl)) (by unfold Func.isWrapper; first | (rw [if_pos (by decide +kernel)]; kernel_rfl) | (rw [if_neg (by decide +kernel)]; exact ⟨rfl, rfl⟩))
    (fun os started H enc _ => tableKeeps_lifted os started H enc)

theorem tableKeeps_proved : Rows.TableKeepsSaid := tableKeeps_over
#print axioms tableKeeps_proved
end Go.Proofs.Ytbkpndgadgafiac
