
/-
  WalkerDoes: every Begin, Step, Again, On and Access is as the document says, whatever stands in the words, and whatever becomes of them on the way.
-/
import Derived.Test.YtkcmlmofcjdgoadKP
import Derived.Deep.RegionHeld3
import Derived.Deep.DeepCutAuto
import Derived.Test.YtkcmlmofcjdgoadRows
namespace Go.Proofs.Ytkcmlmofcjdgoad
open Go.ChangeShapes Go.WideShapes Go.ChangeAt Go.RowKit Go.Joins Go.Deep Go.Sort
set_option maxRecDepth 100000
set_option linter.unusedVariables false
set_option linter.unusedSimpArgs false

theorem Pg.Wk.begin_ok {K : Pg.Wk} (h : K.Ok) (root q k : Int) (u : Bool) : (bgnK root K q k u).Ok := by
  unfold bgnK
  split
  · rename_i hc
    refine Pg.Wk.start_ok ?_
    unfold bgnC at hc
    split at hc
    · rename_i h1; exact absurd hc h1
    · rename_i h1
      have h1 : Pg.checkAccess q k = 0 := by simpa using h1
      unfold Pg.checkAccess at h1
      split at h1
      · split at h1
        · assumption
        · omega
      · omega
  · exact h

/-- A step, laid anew. -/
structure Wst7 (w : World) (b : Nat) (x : Wst) : Prop where
  c0 : w.cell? ⟨b, 0, none⟩ = some (.int .i64 x.a)
  c1 : w.cell? ⟨b, 1, none⟩ = some (.int .i64 x.k)
  c2 : w.cell? ⟨b, 2, none⟩ = some (.int .i64 x.i)
  c3 : w.cell? ⟨b, 3, none⟩ = some (.int .u64 x.w)
  c4 : w.cell? ⟨b, 4, none⟩ = some (.int .i64 x.q)
  c5 : w.cell? ⟨b, 5, none⟩ = some (.int .i64 x.n)
  c6 : w.cell? ⟨b, 6, none⟩ = some (.bool x.u)
theorem Wst7.of_block {w w' : World} {b : Nat} {x : Wst} (h : Wst7 w b x) (hk : w'.heap[b]? = w.heap[b]?) : Wst7 w' b x :=
  ⟨(World.cell?_of_block hk).trans h.c0, (World.cell?_of_block hk).trans h.c1, (World.cell?_of_block hk).trans h.c2, (World.cell?_of_block hk).trans h.c3, (World.cell?_of_block hk).trans h.c4, (World.cell?_of_block hk).trans h.c5, (World.cell?_of_block hk).trans h.c6⟩
theorem Wst7.lb {w : World} {b : Nat} {x : Wst} (h : Wst7 w b x) : b < w.heap.size := World.block_lt_of_cell? _ _ h.c0

set_option maxHeartbeats 8000000 in
theorem walkerDoes_walk (W : World) (n : Int) (hn : Pg.fits n) (taken : Int) (htk : Pg.fits taken) (ad : Option Addr) (len cap : Nat) (q : Nat → Int) (hq : WordsAt W ad len q) (root : Int) (hroot : Pg.fits root) (ad' : Option Addr) (len' cap' : Nat) (q' : Nat → Wst)
    (hq' : ∀ j, j < len' → (∃ b o, ad' = some ⟨b, o, none⟩ ∧ b < W.heap.size ∧ WstAt W b (o + j * 7) (q' j)) ∧ WstFits (q' j)) :
    Calls Try.prog 6 #[.int .i64 n, .int .i64 taken, .slice ad len cap, .int .i64 root, .slice ad' len' cap'] W fun e W' => e = .returned (.bool true) ∧ Below W.heap.size W W' := by
  have HQ : Hid _ := hq
  have HQ' : Hid _ := hq'
  clear hn htk hq hq' hroot
  have hcase : decide (n < 0) = true ∨ (decide (n < 0) = false ∧ decide (128 < n) = true) ∨ (decide (n < 0) = false ∧ decide (128 < n) = false ∧ (2000 : Int) < (len : Int)) ∨ (decide (n < 0) = false ∧ decide (128 < n) = false ∧ decide ((2000 : Int) < (len : Int)) = false ∧ (300 : Int) < (len' : Int)) ∨ (decide (n < 0) = false ∧ decide (128 < n) = false ∧ decide ((2000 : Int) < (len : Int)) = false ∧ decide ((300 : Int) < (len' : Int)) = false ∧ 0 ≤ n ∧ n ≤ 128 ∧ len ≤ 2000 ∧ len' ≤ 300) := by
    by_cases h0 : n < 0
    · exact .inl (by simpa using h0)
    · by_cases h1 : 128 < n
      · exact .inr (.inl ⟨by simpa using h0, by simpa using h1⟩)
      · by_cases h2 : 2000 < len
        · exact .inr (.inr (.inl ⟨by simpa using h0, by simpa using h1, by omega⟩))
        · by_cases h3 : 300 < len'
          · exact .inr (.inr (.inr (.inl ⟨by simpa using h0, by simpa using h1, by simp; omega, by omega⟩)))
          · exact .inr (.inr (.inr (.inr ⟨by simpa using h0, by simpa using h1, by simp; omega, by simp; omega, by omega, by omega, by omega, by omega⟩)))
  rcases hcase with h0 | ⟨h0, h1⟩ | ⟨h0, h1, h2⟩ | ⟨h0, h1, h2, h3⟩ | ⟨h0, h1, h2, h3, n0, n1, hl, hl'⟩
  iterate 4 focus
    go_enter Try.func6, Try.ntmps6
    go_wp2_with fail
    refine (walkerBegun_any _).mono ?_
    rintro e w1 ⟨rfl, hb1⟩
    have HB : Hid _ := hb1
    clear hb1
    go_wp2_with fail
    go_ret
    exact ⟨rfl, HB.out⟩
  obtain ⟨nn, rfl⟩ := Int.eq_ofNat_of_zero_le (show 0 ≤ n by omega)
  go_enter Try.func6, Try.ntmps6
  go_wp2_with fail
  refine (walkerBegun_any _).mono ?_
  rintro e w1 ⟨rfl, hb1⟩
  have HM := memory_any nn (by omega) taken ad len cap hl q w1 (WordsAt.below HQ.out (Nat.le_refl _) hb1)
  have HB1 : Hid _ := hb1
  clear hb1
  go_wp2_with fail
  refine HM.mono ?_
  rintro e w2 ⟨bf, bm, g0, g1, vb, F, rfl, hS⟩
  have HS : Hid (Side W bf bm g0 g1 vb F (Pg.Fs.memory nn taken q len) (Pg.Fs.memory nn taken q len) w2) := ⟨bthen HB1.out hS.bel, hS.fr, hS.mem, fun k hk => Nat.le_trans HB1.out.size (hS.fhi k hk), fun k hk => Nat.le_trans HB1.out.size (hS.mhi k hk), hS.ne⟩
  clear hS HM HB1 HQ
  generalize Pg.Fs.memory nn taken q len = S0 at *
  have HN := kNew_any root w2
  go_wp2_with fail
  refine HN.mono ?_
  rintro e w3 ⟨bk, rfl, hk3, hb3, hbk⟩
  have P3 : Hid (Kd W _ bf bm g0 g1 vb F bk w3.heap.size root S0 S0 Pg.Wk.off Pg.Wk.off) := Kd.start (t := 32) HS.out hk3 hb3 hbk
  clear hk3 hb3 hbk HN HS
  generalize hbc : w3.heap.size = bc at *
  go_wp2_with fail
  try rw [hbc]
  go_loopw [15] (fun i wr => ∃ k : Nat, k ≤ len' ∧ i = .int .i64 k ∧ Hid (∃ S F vb K, Kd W wr bf bm g0 g1 vb F bk bc root S S K K)) (fun i _ => len' - (intOf i).toNat)
  case atStart => exact ⟨0, by omega, rfl, ⟨_, _, _, _, P3.out⟩⟩
  case round =>
    obtain ⟨k, hk, rfl, HR⟩ := hrel
    clear P3 hbc
    obtain ⟨S, F, vb, K, hB⟩ := HR.out
    have HB : Hid _ := hB
    clear HR hB
    by_cases hlt : k < len'
    · obtain ⟨⟨xb, xo, rfl, hxl, hx⟩, hfit⟩ := HQ'.out k hlt
      have i0 : (0 : Int) ≤ (k : Int) := by omega
      have i1 : (k : Int) < (len' : Int) := by omega
      generalize q' k = x at *
      obtain ⟨xa, xk, xi, xw, xq, xn, xu⟩ := x
      obtain ⟨x0, x1, x2, x3, x4, x5, x6⟩ := hx
      have y0 := (HB.out.side.bel.cell (p := ⟨xb, xo + k * 7, none⟩) hxl).trans x0
      have y1 := (HB.out.side.bel.cell (p := ⟨xb, xo + k * 7 + 1, none⟩) hxl).trans x1
      have y2 := (HB.out.side.bel.cell (p := ⟨xb, xo + k * 7 + 2, none⟩) hxl).trans x2
      have y3 := (HB.out.side.bel.cell (p := ⟨xb, xo + k * 7 + 3, none⟩) hxl).trans x3
      have y4 := (HB.out.side.bel.cell (p := ⟨xb, xo + k * 7 + 4, none⟩) hxl).trans x4
      have y5 := (HB.out.side.bel.cell (p := ⟨xb, xo + k * 7 + 5, none⟩) hxl).trans x5
      have y6 := (HB.out.side.bel.cell (p := ⟨xb, xo + k * 7 + 6, none⟩) hxl).trans x6
      simp only at y0 y1 y2 y3 y4 y5 y6
      have HFit : Hid (0 ≤ xw ∧ xw < 18446744073709551616) := hfit
      clear x0 x1 x2 x3 x4 x5 x6 HQ' hfit
      obtain ⟨Wz, hWz⟩ : ∃ Wz, Wz = wr.alloc (.cells #[.int .i64 xa, .int .i64 xk, .int .i64 xi, .int .u64 xw, .int .i64 xq, .int .i64 xn, .bool xu] 62) := ⟨_, rfl⟩
      have hbz : Below wr.heap.size wr Wz := by rw [hWz]; exact balloc (brefl _) _
      have xz : Wst7 Wz wr.heap.size ⟨xa, xk, xi, xw, xq, xn, xu⟩ := by rw [hWz]; refine ⟨?_, ?_, ?_, ?_, ?_, ?_, ?_⟩ <;> simp [go_sem]
      have XZ : Hid _ := xz
      have PZ : Hid _ := HB.out.grow hbz
      have XN : Hid (¬ F wr.heap.size ∧ ¬ memF bm g0 g1 vb wr.heap.size ∧ wr.heap.size ≠ bk ∧ wr.heap.size ≠ bc ∧ W.heap.size ≤ wr.heap.size) := ⟨fun h => by have := HB.out.side.fr.lt h; omega, fun h => by have := HB.out.side.mem.raw.lt h; omega, fun e => by have := HB.out.wk.lb; omega, fun e => by have := HB.out.ck.lb; omega, HB.out.side.bel.size⟩
      have z0 : Wz.cell? ⟨wr.heap.size, 0, none⟩ = some (.int .i64 xa) := xz.c0
      clear hbz HB xz
      go_upto_region 14 with fail
      rw [← hWz]
      clear hWz y0 y1 y2 y3 y4 y5 y6 z0
      generalize wr.heap.size = X at *
      by_cases h0 : xa = 0
      · by_cases hc : Pg.checkAccess xq xn = 0
        · cases ho : K.on
          · skip
            subst h0
            obtain ⟨s0, s1, s2, s3, s4, s5, s6⟩ := XZ.out
            simp only at s4 s5 s6
            obtain ⟨t8, lv8, x8, hck8⟩ := PZ.out.ck
            have c1 := hck8.c1
            have HCa := accessFault_any xq xn xu Wz
            have hXl : X < Wz.heap.size := XZ.out.lb
            clear s0 s1 s2 s3 hck8
            have e2 : bgnC K xq xn = 0 := by simp [bgnC, hc, ho]
            have e3 : bgnK root K xq xn xu = Pg.Wk.start root xq xn xu := by simp [bgnK, e2]
            have HKB := fun W' (h : WkAt W' bk 0 root K) => kBegin_any PZ.out.okf xq xn xu W' h
            have hokS : Pg.Wk.Ok (Pg.Wk.start root xq xn xu) := by
              have := Pg.Wk.begin_ok PZ.out.okf root xq xn xu
              rwa [e3] at this
            rw [e2, e3] at HKB
            have hoff := PZ.out.okm.idle ho
            have hfits : Pg.fits xq := by
              unfold Pg.checkAccess at hc
              split at hc
              · split at hc
                · rename_i h; have := Pg.below_iff.1 h; unfold Pg.fits; omega
                · omega
              · omega
            have HCB := fun W' (h : CkEx W' bc Pg.Wk.off) (h' : CoAt W' bc (.slice none 0 0) []) => cBegin_any (root := root) xq xn xu hfits hc W' h h'
            have HOK : Hid _ := hokS
            have HOF : Hid _ := hoff
            rw [hc] at HCa
            rw [ho] at c1
            clear hc e2 e3 hokS hoff hfits
            go_wp2_with fail
            refine HCa.mono ?_
            rintro e w5 ⟨rfl, hb5⟩
            have P5 : Hid _ := PZ.out.grow hb5
            have X5 : Hid _ := XZ.out.of_block (hb5.block X hXl)
            clear s4 s5 s6 c1
            obtain ⟨s0, s1, s2, s3, s4, s5, s6⟩ := X5.out
            simp only at s4 s5 s6
            clear s0 s1 s2 s3 hb5 HCa PZ XZ

            go_wp2_with fail
            refine (HCB _ (by have := P5.out.ck; rwa [HOF.out] at this) P5.out.co).mono ?_
            rintro e w6 ⟨⟨v6, rfl⟩, hk6, hc6⟩
            have P6 : Hid _ := P5.out.rightK hk6 HOK.out hc6
            have X6 : Hid _ := X5.out.of_block (hc6.but.block X X5.out.lb XN.out.2.2.2.1)
            clear hk6 hc6 HCB s4 s5 s6
            obtain ⟨s0, s1, s2, s3, s4, s5, s6⟩ := X6.out
            simp only at s4 s5 s6
            clear s0 s1 s2 s3 X5 P5 ho
            go_wp2_with fail
            refine (HKB _ P6.out.wk).mono ?_
            rintro e w7 ⟨rfl, hk7, hc7⟩
            have P9 : Hid _ := P6.out.leftK hk7 HOK.out hc7.but
            clear hk7 hc7 HKB P6 X6 s4 s5 s6 HOF
            go_wp2_with fail
            generalize hKs : Pg.Wk.start root xq xn xu = KS at *
            clear hKs HOK
            obtain ⟨k9on, k9q, k9k, k9u, k9t, k9lv, k9x⟩ := KS

            obtain ⟨t9, lv9, x9, hck9⟩ := P9.out.ck
            have HOn := fun d os => below_of_same (kOn_any _ (P9.out.wk.grow (below_regrown w7 d os)))
            have HAc := fun d os => kAccess_any _ (P9.out.wk.grow (below_regrown w7 d os))
            have n1 := cell_regrown hck9.c1
            have n2 := cell_regrown hck9.c2
            have n3 := cell_regrown hck9.c3
            have n4 := cell_regrown hck9.c4
            have HK9 : Hid (∃ S' F' vb' K', Kd W w7 bf bm g0 g1 vb' F' bk bc root S' S' K' K') := ⟨_, _, _, _, P9.out⟩
            simp only at n1 n2 n3 n4 HOn HAc
            clear hck9 P9
            have hoo : (k9on != k9on) = false := by simp
            refine wp_region_quiet_below (by kernel_rfl) (by kernel_rfl) ?_
            repeat (first
              | go_big_quiet_step (first
                | (go_at_call 36; exact Calls.regrown_of (HOn _ _))
                | (go_at_call 37; exact Calls.regrown_of (HAc _ _))))
            refine wpQuiet_nil ?_
            intro _ hw'
            obtain ⟨⟨dq9, osq9⟩, rfl⟩ := hw'
            have hb10 := below_regrown w7 dq9 osq9
            have fin : Hid (∃ S' F' vb' K', Kd W (grow (redrawn w7 dq9) osq9) bf bm g0 g1 vb' F' bk bc root S' S' K' K') := by
              obtain ⟨S', F', vb', K', h9⟩ := HK9.out
              exact ⟨S', F', vb', K', h9.grow hb10⟩
            clear hb10 HOn HAc n1 n2 n3 n4 HK9
            generalize grow (redrawn w7 dq9) osq9 = w10 at *
            go_wp2_with fail
            first
              | exact ⟨⟨k + 1, by omega, by go_num, fin.out⟩, by simp [intOf]; omega⟩
              | (go_roundw
                 case rel => exact ⟨k + 1, by omega, by go_num, fin.out⟩
                 case measure => simp [intOf]; omega)
          · skip
            subst h0
            obtain ⟨s0, s1, s2, s3, s4, s5, s6⟩ := XZ.out
            simp only at s4 s5 s6
            obtain ⟨t8, lv8, x8, hck8⟩ := PZ.out.ck
            have c1 := hck8.c1
            have HCa := accessFault_any xq xn xu Wz
            have hXl : X < Wz.heap.size := XZ.out.lb
            clear s0 s1 s2 s3 hck8
            have e2 : bgnC K xq xn = 8 := by simp [bgnC, hc, ho]
            have e3 : bgnK root K xq xn xu = K := by simp [bgnK, e2]
            have HKB := fun W' (h : WkAt W' bk 0 root K) => kBegin_any PZ.out.okf xq xn xu W' h
            rw [e2, e3] at HKB
            rw [hc] at HCa
            rw [ho] at c1
            clear hc e2 e3
            go_wp2_with fail
            refine HCa.mono ?_
            rintro e w5 ⟨rfl, hb5⟩
            have P5 : Hid _ := PZ.out.grow hb5
            have X5 : Hid _ := XZ.out.of_block (hb5.block X hXl)
            clear s4 s5 s6 c1
            obtain ⟨s0, s1, s2, s3, s4, s5, s6⟩ := X5.out
            simp only at s4 s5 s6
            clear s0 s1 s2 s3 hb5 HCa PZ XZ

            go_wp2_with fail
            refine (HKB _ P5.out.wk).mono ?_
            rintro e w6 ⟨rfl, hk6, hc6⟩
            have P9 : Hid _ := P5.out.leftK hk6 P5.out.okf hc6.but
            clear hk6 hc6 HKB P5 X5 s4 s5 s6 ho
            go_wp2_with fail
            obtain ⟨k9on, k9q, k9k, k9u, k9t, k9lv, k9x⟩ := K

            obtain ⟨t9, lv9, x9, hck9⟩ := P9.out.ck
            have HOn := fun d os => below_of_same (kOn_any _ (P9.out.wk.grow (below_regrown w6 d os)))
            have HAc := fun d os => kAccess_any _ (P9.out.wk.grow (below_regrown w6 d os))
            have n1 := cell_regrown hck9.c1
            have n2 := cell_regrown hck9.c2
            have n3 := cell_regrown hck9.c3
            have n4 := cell_regrown hck9.c4
            have HK9 : Hid (∃ S' F' vb' K', Kd W w6 bf bm g0 g1 vb' F' bk bc root S' S' K' K') := ⟨_, _, _, _, P9.out⟩
            simp only at n1 n2 n3 n4 HOn HAc
            clear hck9 P9
            have hoo : (k9on != k9on) = false := by simp
            refine wp_region_quiet_below (by kernel_rfl) (by kernel_rfl) ?_
            repeat (first
              | go_big_quiet_step (first
                | (go_at_call 36; exact Calls.regrown_of (HOn _ _))
                | (go_at_call 37; exact Calls.regrown_of (HAc _ _))))
            refine wpQuiet_nil ?_
            intro _ hw'
            obtain ⟨⟨dq9, osq9⟩, rfl⟩ := hw'
            have hb10 := below_regrown w6 dq9 osq9
            have fin : Hid (∃ S' F' vb' K', Kd W (grow (redrawn w6 dq9) osq9) bf bm g0 g1 vb' F' bk bc root S' S' K' K') := by
              obtain ⟨S', F', vb', K', h9⟩ := HK9.out
              exact ⟨S', F', vb', K', h9.grow hb10⟩
            clear hb10 HOn HAc n1 n2 n3 n4 HK9
            generalize grow (redrawn w6 dq9) osq9 = w10 at *
            go_wp2_with fail
            first
              | exact ⟨⟨k + 1, by omega, by go_num, fin.out⟩, by simp [intOf]; omega⟩
              | (go_roundw
                 case rel => exact ⟨k + 1, by omega, by go_num, fin.out⟩
                 case measure => simp [intOf]; omega)
        · skip
          subst h0
          obtain ⟨s0, s1, s2, s3, s4, s5, s6⟩ := XZ.out
          simp only at s4 s5 s6
          obtain ⟨t8, lv8, x8, hck8⟩ := PZ.out.ck
          have c1 := hck8.c1
          have HCa := accessFault_any xq xn xu Wz
          have hXl : X < Wz.heap.size := XZ.out.lb
          clear s0 s1 s2 s3 hck8
          have hcn : (Pg.checkAccess xq xn == 0) = false := by simpa using hc
          have e2 : bgnC K xq xn = Pg.checkAccess xq xn := by simp [bgnC, hc]
          have e3 : bgnK root K xq xn xu = K := by simp [bgnK, e2, hc]
          have HKB := fun W' (h : WkAt W' bk 0 root K) => kBegin_any PZ.out.okf xq xn xu W' h
          rw [e2, e3] at HKB
          clear hc e2 e3
          generalize Pg.checkAccess xq xn = cc at *
          have hcc : (cc != cc) = false := by simp
          go_wp2_with fail
          refine HCa.mono ?_
          rintro e w5 ⟨rfl, hb5⟩
          have P5 : Hid _ := PZ.out.grow hb5
          have X5 : Hid _ := XZ.out.of_block (hb5.block X hXl)
          clear s4 s5 s6 c1
          obtain ⟨s0, s1, s2, s3, s4, s5, s6⟩ := X5.out
          simp only at s4 s5 s6
          clear s0 s1 s2 s3 hb5 HCa PZ XZ

          go_wp2_with fail
          refine (HKB _ P5.out.wk).mono ?_
          rintro e w6 ⟨rfl, hk6, hc6⟩
          have P9 : Hid _ := P5.out.leftK hk6 P5.out.okf hc6.but
          clear hk6 hc6 HKB P5 X5 s4 s5 s6
          go_wp2_with fail
          obtain ⟨k9on, k9q, k9k, k9u, k9t, k9lv, k9x⟩ := K

          obtain ⟨t9, lv9, x9, hck9⟩ := P9.out.ck
          have HOn := fun d os => below_of_same (kOn_any _ (P9.out.wk.grow (below_regrown w6 d os)))
          have HAc := fun d os => kAccess_any _ (P9.out.wk.grow (below_regrown w6 d os))
          have n1 := cell_regrown hck9.c1
          have n2 := cell_regrown hck9.c2
          have n3 := cell_regrown hck9.c3
          have n4 := cell_regrown hck9.c4
          have HK9 : Hid (∃ S' F' vb' K', Kd W w6 bf bm g0 g1 vb' F' bk bc root S' S' K' K') := ⟨_, _, _, _, P9.out⟩
          simp only at n1 n2 n3 n4 HOn HAc
          clear hck9 P9
          have hoo : (k9on != k9on) = false := by simp
          refine wp_region_quiet_below (by kernel_rfl) (by kernel_rfl) ?_
          repeat (first
            | go_big_quiet_step (first
              | (go_at_call 36; exact Calls.regrown_of (HOn _ _))
              | (go_at_call 37; exact Calls.regrown_of (HAc _ _))))
          refine wpQuiet_nil ?_
          intro _ hw'
          obtain ⟨⟨dq9, osq9⟩, rfl⟩ := hw'
          have hb10 := below_regrown w6 dq9 osq9
          have fin : Hid (∃ S' F' vb' K', Kd W (grow (redrawn w6 dq9) osq9) bf bm g0 g1 vb' F' bk bc root S' S' K' K') := by
            obtain ⟨S', F', vb', K', h9⟩ := HK9.out
            exact ⟨S', F', vb', K', h9.grow hb10⟩
          clear hb10 HOn HAc n1 n2 n3 n4 HK9
          generalize grow (redrawn w6 dq9) osq9 = w10 at *
          go_wp2_with fail
          first
            | exact ⟨⟨k + 1, by omega, by go_num, fin.out⟩, by simp [intOf]; omega⟩
            | (go_roundw
               case rel => exact ⟨k + 1, by omega, by go_num, fin.out⟩
               case measure => simp [intOf]; omega)
      · have nn0 : (xa == 0) = false := by simpa using h0
        by_cases h1 : xa = 1
        · skip
          subst h1
          have hXl : X < Wz.heap.size := XZ.out.lb
          obtain ⟨W5, hW5⟩ : ∃ W5, W5 = Wz.alloc (.cells #[.int .i64 0, .int .i64 0, .int .i64 0, .int .i64 0, .bool false] 41) := ⟨_, rfl⟩
          have hb5 : Below Wz.heap.size Wz W5 := by rw [hW5]; exact balloc (brefl _) _
          have P5 : Hid _ := PZ.out.grow hb5
          have hL5 : LnAt W5 Wz.heap.size 0 ⟨⟨0, 0, 0, 0⟩, false⟩ := by rw [hW5]; refine ⟨?_, ?_, ?_, ?_, ?_⟩ <;> simp [go_sem]
          have hLf5 : ∀ p, W5.frozen? ⟨Wz.heap.size, p, none⟩ = false := fun p => by rw [hW5]; simp [go_sem]
          have LN : Hid (¬ F Wz.heap.size ∧ ¬ memF bm g0 g1 vb Wz.heap.size ∧ Wz.heap.size ≠ bk ∧ bc ≠ Wz.heap.size ∧ W.heap.size ≤ Wz.heap.size) := ⟨fun h => by have := PZ.out.side.fr.lt h; omega, fun h => by have := PZ.out.side.mem.raw.lt h; omega, fun e => by have := PZ.out.wk.lb; omega, fun e => by have := PZ.out.ck.lb; omega, PZ.out.side.bel.size⟩
          have HCS : Calls Try.prog 29 #[.pointer (some ⟨bc, 0, none⟩), .pointer (some ⟨bm, 0, none⟩), .int .i64 root, .pointer (some ⟨Wz.heap.size, 0, none⟩)] W5 fun e w' => e = .returned (.tuple #[.agg #[.int .i64 (Pg.Wo.res K (Pg.kOut S root K)).a, .int .i64 (Pg.Wo.res K (Pg.kOut S root K)).f, .int .i64 (Pg.Wo.res K (Pg.kOut S root K)).r], .bool (Pg.Wo.res K (Pg.kOut S root K)).ended, .int .i64 (Pg.kOut S root K).cd]) ∧ CDone W5 bc bm g0 g1 Wz.heap.size vb S K (Pg.kOut S root K) e w' := (cStep_any (root := root) P5.out.okm W5 P5.out.ck P5.out.side.mem hL5 hLf5 P5.out.nc.2 LN.out.2.1 LN.out.2.2.2.1).mono fun e w' h => ⟨h.end', h⟩
          have HKS := fun W' (h : WkAt W' bk 0 root K) (hf : FrAt W' bf S F) (hn : ¬ F bk) => kStep_any P5.out.okf W' h hf hn
          have HKO : Hid _ := Pg.kOut_ok P5.out.side.fr.ok P5.out.okf root
          have hres : Hid (Pg.Rs.mk (Pg.Wo.res K (Pg.kOut S root K)).ended (Pg.Wo.res K (Pg.kOut S root K)).a (Pg.Wo.res K (Pg.kOut S root K)).f (Pg.Wo.res K (Pg.kOut S root K)).r (Pg.Wo.res K (Pg.kOut S root K)).m (Pg.Wo.res K (Pg.kOut S root K)).d = Pg.Wo.res K (Pg.kOut S root K)) := rfl
          clear hL5 hLf5 XZ hXl
          have hLl : Wz.heap.size < W5.heap.size := by rw [hW5]; simp
          clear hb5 PZ
          generalize hYe : Wz.heap.size = Y at *
          generalize hko : Pg.kOut S root K = ko at *
          generalize hrr : ko.res K = R at *
          obtain ⟨ra, rb, rc, rd, ⟨rmp, rms, rmf, rmr⟩, re⟩ := R
          have HRR : Hid _ := hrr
          generalize hcd : ko.cd = cd at *
          have HCD : Hid _ := hcd
          have hcd0 : (cd != cd) = false := by simp
          simp only [Pg.Rs.val] at HCS HKS
          clear hko hres hrr hcd
          go_wp2_with fail
          rw [← hW5]
          clear hW5 hYe
          refine HCS.mono ?_
          rintro e w6 ⟨rfl, hd⟩
          have P6 : Hid (Kd W w6 bf bm g0 g1 vb F bk bc root S (ko.fs S K) K (ko.next K)) := P5.out.right hd.at' hd.mem HKO.out rfl (hd.chg.oth 0 (.inl (by decide))) hd.chg.but (by
            rintro j (h | h | h)
            · exact .inl h
            · exact .inr (.inr (h ▸ ⟨LN.out.2.2.2.2, LN.out.1, LN.out.2.2.1⟩))
            · exact .inr (.inl h))
          have L6 : Hid (LnAt w6 Y 0 ⟨⟨rmp, rms, rmf, rmr⟩, re⟩) := by have := hd.ln; rwa [HRR.out] at this
          clear hd HCS P5
          generalize ko.fs S K = S2 at *
          generalize ko.next K = K2 at *
          have hY6 : Y < w6.heap.size := LnAt.lb L6.out
          obtain ⟨W7, hW7⟩ : ∃ W7, W7 = w6.alloc (.cells #[.int .i64 rb, .int .i64 rc, .int .i64 rd] 65) := ⟨_, rfl⟩
          have hb7 : Below w6.heap.size w6 W7 := by rw [hW7]; exact balloc (brefl _) _
          have A7 : Hid (W7.cell? ⟨w6.heap.size, 0, none⟩ = some (.int .i64 rb) ∧ W7.cell? ⟨w6.heap.size, 1, none⟩ = some (.int .i64 rc) ∧ W7.cell? ⟨w6.heap.size, 2, none⟩ = some (.int .i64 rd)) := by rw [Hid, hW7]; simp [go_sem]
          have L7 : Hid (LnAt W7 Y 0 ⟨⟨rmp, rms, rmf, rmr⟩, re⟩) := LnAt.below L6.out hb7 hY6
          have P7 : Hid _ := P6.out.grow hb7
          have hAF : Hid (¬ F w6.heap.size ∧ w6.heap.size ≠ bk) := ⟨fun h => by have := P6.out.side.fr.lt h; omega, fun e => by have := P6.out.wk.lb; omega⟩
          have hA7 : w6.heap.size < W7.heap.size := by rw [hW7]; simp
          clear hb7 L6 P6
          go_wp2_with fail
          rw [← hW7]
          clear hW7
          generalize w6.heap.size = A at *
          refine (HKS _ P7.out.wk P7.out.side.fr P7.out.nk.1).mono ?_
          rintro e w8 ⟨rfl, hk8, F8, hf8, hc8, hF8⟩
          have P8 : Hid _ := P7.out.left hk8 hf8 HKO.out hc8.but hF8
          have hkY : w8.heap[Y]? = W7.heap[Y]? := hc8.but.block Y (LnAt.lb L7.out) (by rintro (h | h); exact LN.out.2.2.1 h; exact LN.out.1 h)
          have hkA : w8.heap[A]? = W7.heap[A]? := hc8.but.block A hA7 (by rintro (h | h); exact hAF.out.2 h; exact hAF.out.1 h)
          have L8 : Hid (LnAt w8 Y 0 ⟨⟨rmp, rms, rmf, rmr⟩, re⟩) := LnAt.of (w' := w8) L7.out fun p => World.cell?_of_block (a := ⟨Y, p, none⟩) hkY
          have A8 : Hid (w8.cell? ⟨A, 0, none⟩ = some (.int .i64 rb) ∧ w8.cell? ⟨A, 1, none⟩ = some (.int .i64 rc) ∧ w8.cell? ⟨A, 2, none⟩ = some (.int .i64 rd)) := ⟨(World.cell?_of_block hkA).trans A7.out.1, (World.cell?_of_block hkA).trans A7.out.2.1, (World.cell?_of_block hkA).trans A7.out.2.2⟩
          clear hk8 hf8 hc8 hF8 HKS hkY hkA L7 A7 P7 hA7 hAF
          obtain ⟨a0, a1, a2⟩ := A8.out
          obtain ⟨l0, l1, l2, l3, l4⟩ := L8.out
          simp only [Nat.zero_add] at l0 l1 l2 l3 l4
          have hA8 := World.block_lt_of_cell? _ _ a0
          have hY8 := World.block_lt_of_cell? _ _ l0
          simp only at hA8 hY8
          have nA : A ≠ w8.heap.size := by omega
          have nY : Y ≠ w8.heap.size := by omega
          have mA : w8.heap.size ≠ A := by omega
          have mY : w8.heap.size ≠ Y := by omega
          have P9 : Hid _ := P8.out.grow (balloc (brefl w8) (.cells #[.bool ra, .int .i64 rb, .int .i64 rc, .int .i64 rd, .int .i64 rmp, .int .i64 rms, .int .i64 rmf, .int .i64 rmr, .bool re] 71))
          have era : (ra != ra) = false := by simp
          clear L8 A8 P8
          go_wp2_with fail
          generalize w8.alloc (.cells #[.bool ra, .int .i64 rb, .int .i64 rc, .int .i64 rd, .int .i64 rmp, .int .i64 rms, .int .i64 rmf, .int .i64 rmr, .bool re] 71) = w9 at *
          clear a0 a1 a2 l0 l1 l2 l3 l4 hA8 hY8 nA nY mA mY HKO
          obtain ⟨k9on, k9q, k9k, k9u, k9t, k9lv, k9x⟩ := K2

          obtain ⟨t9, lv9, x9, hck9⟩ := P9.out.ck
          have HOn := fun d os => below_of_same (kOn_any _ (P9.out.wk.grow (below_regrown w9 d os)))
          have HAc := fun d os => kAccess_any _ (P9.out.wk.grow (below_regrown w9 d os))
          have n1 := cell_regrown hck9.c1
          have n2 := cell_regrown hck9.c2
          have n3 := cell_regrown hck9.c3
          have n4 := cell_regrown hck9.c4
          have HK9 : Hid (∃ S' F' vb' K', Kd W w9 bf bm g0 g1 vb' F' bk bc root S' S' K' K') := ⟨_, _, _, _, P9.out⟩
          simp only at n1 n2 n3 n4 HOn HAc
          clear hck9 P9
          have hoo : (k9on != k9on) = false := by simp
          refine wp_region_quiet_below (by kernel_rfl) (by kernel_rfl) ?_
          repeat (first
            | go_big_quiet_step (first
              | (go_at_call 36; exact Calls.regrown_of (HOn _ _))
              | (go_at_call 37; exact Calls.regrown_of (HAc _ _))))
          refine wpQuiet_nil ?_
          intro _ hw'
          obtain ⟨⟨dq9, osq9⟩, rfl⟩ := hw'
          have hb10 := below_regrown w9 dq9 osq9
          have fin : Hid (∃ S' F' vb' K', Kd W (grow (redrawn w9 dq9) osq9) bf bm g0 g1 vb' F' bk bc root S' S' K' K') := by
            obtain ⟨S', F', vb', K', h9⟩ := HK9.out
            exact ⟨S', F', vb', K', h9.grow hb10⟩
          clear hb10 HOn HAc n1 n2 n3 n4 HK9
          generalize grow (redrawn w9 dq9) osq9 = w10 at *
          go_wp2_with fail
          first
            | exact ⟨⟨k + 1, by omega, by go_num, fin.out⟩, by simp [intOf]; omega⟩
            | (go_roundw
               case rel => exact ⟨k + 1, by omega, by go_num, fin.out⟩
               case measure => simp [intOf]; omega)
        · have nn1 : (xa == 1) = false := by simpa using h1
          by_cases h2 : xa = 2
          · skip
            subst h2
            have HKA := fun W' (h : WkAt W' bk 0 root K) => kAgain_any W' h
            have HCA := fun W' (h : CkEx W' bc K) => cAgain_any (root := root) W' h
            have HOK : Hid _ := PZ.out.okf.again root
            generalize Pg.Wk.again root K = K2 at *
            clear XZ
            go_wp2_with fail
            refine (HKA _ PZ.out.wk).mono ?_
            rintro e w5 ⟨rfl, hk5, hc5⟩
            have P5 : Hid _ := PZ.out.leftK hk5 HOK.out hc5.but
            clear hk5 hc5 HKA PZ
            go_wp2_with fail
            refine (HCA _ P5.out.ck).mono ?_
            rintro e w6 ⟨rfl, hk6, hc6⟩
            have P9 : Hid _ := P5.out.rightK hk6 HOK.out hc6
            clear hk6 hc6 HCA P5 HOK
            go_wp2_with fail
            obtain ⟨k9on, k9q, k9k, k9u, k9t, k9lv, k9x⟩ := K2

            obtain ⟨t9, lv9, x9, hck9⟩ := P9.out.ck
            have HOn := fun d os => below_of_same (kOn_any _ (P9.out.wk.grow (below_regrown w6 d os)))
            have HAc := fun d os => kAccess_any _ (P9.out.wk.grow (below_regrown w6 d os))
            have n1 := cell_regrown hck9.c1
            have n2 := cell_regrown hck9.c2
            have n3 := cell_regrown hck9.c3
            have n4 := cell_regrown hck9.c4
            have HK9 : Hid (∃ S' F' vb' K', Kd W w6 bf bm g0 g1 vb' F' bk bc root S' S' K' K') := ⟨_, _, _, _, P9.out⟩
            simp only at n1 n2 n3 n4 HOn HAc
            clear hck9 P9
            have hoo : (k9on != k9on) = false := by simp
            refine wp_region_quiet_below (by kernel_rfl) (by kernel_rfl) ?_
            repeat (first
              | go_big_quiet_step (first
                | (go_at_call 36; exact Calls.regrown_of (HOn _ _))
                | (go_at_call 37; exact Calls.regrown_of (HAc _ _))))
            refine wpQuiet_nil ?_
            intro _ hw'
            obtain ⟨⟨dq9, osq9⟩, rfl⟩ := hw'
            have hb10 := below_regrown w6 dq9 osq9
            have fin : Hid (∃ S' F' vb' K', Kd W (grow (redrawn w6 dq9) osq9) bf bm g0 g1 vb' F' bk bc root S' S' K' K') := by
              obtain ⟨S', F', vb', K', h9⟩ := HK9.out
              exact ⟨S', F', vb', K', h9.grow hb10⟩
            clear hb10 HOn HAc n1 n2 n3 n4 HK9
            generalize grow (redrawn w6 dq9) osq9 = w10 at *
            go_wp2_with fail
            first
              | exact ⟨⟨k + 1, by omega, by go_num, fin.out⟩, by simp [intOf]; omega⟩
              | (go_roundw
                 case rel => exact ⟨k + 1, by omega, by go_num, fin.out⟩
                 case measure => simp [intOf]; omega)
          · have nn2 : (xa == 2) = false := by simpa using h2
            by_cases h3 : xa = 3
            · cases hat : S.at' xk xi
              · skip
                subst h3
                obtain ⟨s0, s1, s2, s3, s4, s5, s6⟩ := XZ.out
                simp only at s1 s2 s3
                clear s0 s4 s5 s6
                have HSt := frStore_any xk xi xw HFit.out.1 HFit.out.2 Wz PZ.out.side.fr
                have hXl : X < Wz.heap.size := XZ.out.lb
                have e1 : S.store xk xi xw = S := by simp [Pg.Fs.store, hat]
                rw [hat, e1] at HSt
                clear e1
                go_wp2_with fail
                refine HSt.mono ?_
                rintro e w5 ⟨rfl, F5, hf5, hb5, hF5⟩
                have P5 : Hid _ := PZ.out.leftF hf5 hb5 hF5
                have X5 : Hid _ := XZ.out.of_block (hb5.block X hXl XN.out.1)
                clear s1 s2 s3
                obtain ⟨s0, s1, s2, s3, s4, s5, s6⟩ := X5.out
                simp only at s1 s2 s3
                clear s0 s4 s5 s6 hf5 hb5 hF5 HSt PZ XZ

                clear s1 s2 s3
                go_wp2_with fail
                obtain ⟨k9on, k9q, k9k, k9u, k9t, k9lv, k9x⟩ := K

                obtain ⟨t9, lv9, x9, hck9⟩ := P5.out.ck
                have HOn := fun d os => below_of_same (kOn_any _ (P5.out.wk.grow (below_regrown w5 d os)))
                have HAc := fun d os => kAccess_any _ (P5.out.wk.grow (below_regrown w5 d os))
                have n1 := cell_regrown hck9.c1
                have n2 := cell_regrown hck9.c2
                have n3 := cell_regrown hck9.c3
                have n4 := cell_regrown hck9.c4
                have HK9 : Hid (∃ S' F' vb' K', Kd W w5 bf bm g0 g1 vb' F' bk bc root S' S' K' K') := ⟨_, _, _, _, P5.out⟩
                simp only at n1 n2 n3 n4 HOn HAc
                clear hck9 P5
                have hoo : (k9on != k9on) = false := by simp
                refine wp_region_quiet_below (by kernel_rfl) (by kernel_rfl) ?_
                repeat (first
                  | go_big_quiet_step (first
                    | (go_at_call 36; exact Calls.regrown_of (HOn _ _))
                    | (go_at_call 37; exact Calls.regrown_of (HAc _ _))))
                refine wpQuiet_nil ?_
                intro _ hw'
                obtain ⟨⟨dq9, osq9⟩, rfl⟩ := hw'
                have hb10 := below_regrown w5 dq9 osq9
                have fin : Hid (∃ S' F' vb' K', Kd W (grow (redrawn w5 dq9) osq9) bf bm g0 g1 vb' F' bk bc root S' S' K' K') := by
                  obtain ⟨S', F', vb', K', h9⟩ := HK9.out
                  exact ⟨S', F', vb', K', h9.grow hb10⟩
                clear hb10 HOn HAc n1 n2 n3 n4 HK9
                generalize grow (redrawn w5 dq9) osq9 = w10 at *
                go_wp2_with fail
                first
                  | exact ⟨⟨k + 1, by omega, by go_num, fin.out⟩, by simp [intOf]; omega⟩
                  | (go_roundw
                     case rel => exact ⟨k + 1, by omega, by go_num, fin.out⟩
                     case measure => simp [intOf]; omega)
              · skip
                subst h3
                obtain ⟨s0, s1, s2, s3, s4, s5, s6⟩ := XZ.out
                simp only at s1 s2 s3
                clear s0 s4 s5 s6
                have HSt := frStore_any xk xi xw HFit.out.1 HFit.out.2 Wz PZ.out.side.fr
                have hXl : X < Wz.heap.size := XZ.out.lb
                obtain ⟨kn0, kn1, in0, in1, _⟩ := PZ.out.side.fr.ok.at_lt hat
                obtain ⟨kn, rfl⟩ := Int.eq_ofNat_of_zero_le kn0
                obtain ⟨rn, rfl⟩ := Int.eq_ofNat_of_zero_le in0
                have hkl : kn < S.n := by omega
                have hr8 : rn < 8 := by omega
                have hsm := PZ.out.side.fr.ok.small
                rw [hat] at HSt
                have HAt : Hid _ := hat
                clear hat
                go_wp2_with fail
                refine HSt.mono ?_
                rintro e w5 ⟨rfl, F5, hf5, hb5, hF5⟩
                have P5 : Hid _ := PZ.out.leftF hf5 hb5 hF5
                have X5 : Hid _ := XZ.out.of_block (hb5.block X hXl XN.out.1)
                clear s1 s2 s3
                obtain ⟨s0, s1, s2, s3, s4, s5, s6⟩ := X5.out
                simp only at s1 s2 s3
                clear s0 s4 s5 s6 hf5 hb5 hF5 HSt PZ XZ

                have m0 := P5.out.side.mem.raw.c0
                have mw := P5.out.side.mem.raw.cw kn rn hkl hr8
                have mf := P5.out.side.mem.raw.f0
                have hgl := P5.out.side.mem.raw.l0
                have hml := P5.out.side.mem.raw.lb
                have hX5 := X5.out.lb
                have G6 : Hid (Kd W (w5.setCell ⟨g0, kn * 8 + rn, none⟩ (.int .u64 xw)).drew bf bm g0 g1 vb F5 bk bc root (S.store (kn : Int) (rn : Int) xw) (S.store (kn : Int) (rn : Int) xw) K K) := by
                  have e3 : S.store (kn : Int) (rn : Int) xw = { S with word := Pg.Fs.put S.word kn rn xw } := by simp [Pg.Fs.store, HAt.out]
                  have ok' := P5.out.side.mem.ok.store (kn : Int) (rn : Int) HFit.out.1 HFit.out.2
                  have hp := P5.out.side.mem.raw.put hkl hr8 xw
                  have hB : But (memF bm g0 g1 vb) w5 (w5.setCell ⟨g0, kn * 8 + rn, none⟩ (.int .u64 xw)).drew := ((But.refl _ w5).setCell (.inr (.inr (.inl rfl))) _).drew
                  have hng : bc ≠ g0 := fun e => P5.out.nc.2 (.inr (.inl e))
                  have hkb : (w5.setCell ⟨g0, kn * 8 + rn, none⟩ (.int .u64 xw)).drew.heap[bc]? = w5.heap[bc]? := hB.block bc P5.out.ck.lb P5.out.nc.2
                  refine P5.out.right (P5.out.ck.of_block hkb) ⟨?_, ok'⟩ P5.out.okm rfl (World.cell?_of_block (a := ⟨bc, 0, none⟩) hkb) hB fun j hj => .inr (.inl hj)
                  rw [e3]
                  exact hp.keep (F := fun _ => False) ((But.refl _ _).drew) (fun _ _ => id)
                clear X5 P5 HAt
                go_wp2_with fail
                go_region
                go_wp2_with fail
                generalize (w5.setCell ⟨g0, kn * 8 + rn, none⟩ (.int .u64 xw)).drew = w9 at *
                clear s1 s2 s3 m0 mw mf hgl hml hX5
                obtain ⟨k9on, k9q, k9k, k9u, k9t, k9lv, k9x⟩ := K

                obtain ⟨t9, lv9, x9, hck9⟩ := G6.out.ck
                have HOn := fun d os => below_of_same (kOn_any _ (G6.out.wk.grow (below_regrown w9 d os)))
                have HAc := fun d os => kAccess_any _ (G6.out.wk.grow (below_regrown w9 d os))
                have n1 := cell_regrown hck9.c1
                have n2 := cell_regrown hck9.c2
                have n3 := cell_regrown hck9.c3
                have n4 := cell_regrown hck9.c4
                have HK9 : Hid (∃ S' F' vb' K', Kd W w9 bf bm g0 g1 vb' F' bk bc root S' S' K' K') := ⟨_, _, _, _, G6.out⟩
                simp only at n1 n2 n3 n4 HOn HAc
                clear hck9 G6
                have hoo : (k9on != k9on) = false := by simp
                refine wp_region_quiet_below (by kernel_rfl) (by kernel_rfl) ?_
                repeat (first
                  | go_big_quiet_step (first
                    | (go_at_call 36; exact Calls.regrown_of (HOn _ _))
                    | (go_at_call 37; exact Calls.regrown_of (HAc _ _))))
                refine wpQuiet_nil ?_
                intro _ hw'
                obtain ⟨⟨dq9, osq9⟩, rfl⟩ := hw'
                have hb10 := below_regrown w9 dq9 osq9
                have fin : Hid (∃ S' F' vb' K', Kd W (grow (redrawn w9 dq9) osq9) bf bm g0 g1 vb' F' bk bc root S' S' K' K') := by
                  obtain ⟨S', F', vb', K', h9⟩ := HK9.out
                  exact ⟨S', F', vb', K', h9.grow hb10⟩
                clear hb10 HOn HAc n1 n2 n3 n4 HK9
                generalize grow (redrawn w9 dq9) osq9 = w10 at *
                go_wp2_with fail
                first
                  | exact ⟨⟨k + 1, by omega, by go_num, fin.out⟩, by simp [intOf]; omega⟩
                  | (go_roundw
                     case rel => exact ⟨k + 1, by omega, by go_num, fin.out⟩
                     case measure => simp [intOf]; omega)
            · have nn3 : (xa == 3) = false := by simpa using h3
              by_cases h4 : xa = 4
              · skip
                subst h4
                obtain ⟨s0, s1, s2, s3, s4, s5, s6⟩ := XZ.out
                simp only at s1
                clear s0 s2 s3 s4 s5 s6
                have HGi := frGive_any xk Wz PZ.out.side.fr
                have hXl : X < Wz.heap.size := XZ.out.lb
                go_wp2_with fail
                refine HGi.mono ?_
                rintro e w5 ⟨rfl, F5, hf5, hb5, hF5⟩
                have P5 : Hid _ := PZ.out.leftF hf5 hb5 hF5
                have X5 : Hid _ := XZ.out.of_block (hb5.block X hXl XN.out.1)
                clear s1
                obtain ⟨s0, s1, s2, s3, s4, s5, s6⟩ := X5.out
                simp only at s1
                clear s0 s2 s3 s4 s5 s6 hf5 hb5 hF5 HGi PZ XZ
                have HGm := memGive_any xk w5 P5.out.side.mem
                go_wp2_with fail
                refine HGm.mono ?_
                rintro e w6 ⟨rfl, vb6, hm6, hb6, hv6⟩
                have P9 : Hid _ := P5.out.rightM hm6 hb6 hv6
                clear hm6 hb6 hv6
                clear HGm s1 X5 P5
                go_wp2_with fail
                obtain ⟨k9on, k9q, k9k, k9u, k9t, k9lv, k9x⟩ := K

                obtain ⟨t9, lv9, x9, hck9⟩ := P9.out.ck
                have HOn := fun d os => below_of_same (kOn_any _ (P9.out.wk.grow (below_regrown w6 d os)))
                have HAc := fun d os => kAccess_any _ (P9.out.wk.grow (below_regrown w6 d os))
                have n1 := cell_regrown hck9.c1
                have n2 := cell_regrown hck9.c2
                have n3 := cell_regrown hck9.c3
                have n4 := cell_regrown hck9.c4
                have HK9 : Hid (∃ S' F' vb' K', Kd W w6 bf bm g0 g1 vb' F' bk bc root S' S' K' K') := ⟨_, _, _, _, P9.out⟩
                simp only at n1 n2 n3 n4 HOn HAc
                clear hck9 P9
                have hoo : (k9on != k9on) = false := by simp
                refine wp_region_quiet_below (by kernel_rfl) (by kernel_rfl) ?_
                repeat (first
                  | go_big_quiet_step (first
                    | (go_at_call 36; exact Calls.regrown_of (HOn _ _))
                    | (go_at_call 37; exact Calls.regrown_of (HAc _ _))))
                refine wpQuiet_nil ?_
                intro _ hw'
                obtain ⟨⟨dq9, osq9⟩, rfl⟩ := hw'
                have hb10 := below_regrown w6 dq9 osq9
                have fin : Hid (∃ S' F' vb' K', Kd W (grow (redrawn w6 dq9) osq9) bf bm g0 g1 vb' F' bk bc root S' S' K' K') := by
                  obtain ⟨S', F', vb', K', h9⟩ := HK9.out
                  exact ⟨S', F', vb', K', h9.grow hb10⟩
                clear hb10 HOn HAc n1 n2 n3 n4 HK9
                generalize grow (redrawn w6 dq9) osq9 = w10 at *
                go_wp2_with fail
                first
                  | exact ⟨⟨k + 1, by omega, by go_num, fin.out⟩, by simp [intOf]; omega⟩
                  | (go_roundw
                     case rel => exact ⟨k + 1, by omega, by go_num, fin.out⟩
                     case measure => simp [intOf]; omega)
              · skip
                have nn0 : (xa == 0) = false := by simpa using h0
                have nn1 : (xa == 1) = false := by simpa using h1
                have nn2 : (xa == 2) = false := by simpa using h2
                have nn3 : (xa == 3) = false := by simpa using h3
                have nn4 : (xa == 4) = false := by simpa using h4
                clear h0 h1 h2 h3 h4 XZ
                go_wp2_with fail
                obtain ⟨k9on, k9q, k9k, k9u, k9t, k9lv, k9x⟩ := K

                obtain ⟨t9, lv9, x9, hck9⟩ := PZ.out.ck
                have HOn := fun d os => below_of_same (kOn_any _ (PZ.out.wk.grow (below_regrown Wz d os)))
                have HAc := fun d os => kAccess_any _ (PZ.out.wk.grow (below_regrown Wz d os))
                have n1 := cell_regrown hck9.c1
                have n2 := cell_regrown hck9.c2
                have n3 := cell_regrown hck9.c3
                have n4 := cell_regrown hck9.c4
                have HK9 : Hid (∃ S' F' vb' K', Kd W Wz bf bm g0 g1 vb' F' bk bc root S' S' K' K') := ⟨_, _, _, _, PZ.out⟩
                simp only at n1 n2 n3 n4 HOn HAc
                clear hck9 PZ
                have hoo : (k9on != k9on) = false := by simp
                refine wp_region_quiet_below (by kernel_rfl) (by kernel_rfl) ?_
                repeat (first
                  | go_big_quiet_step (first
                    | (go_at_call 36; exact Calls.regrown_of (HOn _ _))
                    | (go_at_call 37; exact Calls.regrown_of (HAc _ _))))
                refine wpQuiet_nil ?_
                intro _ hw'
                obtain ⟨⟨dq9, osq9⟩, rfl⟩ := hw'
                have hb10 := below_regrown Wz dq9 osq9
                have fin : Hid (∃ S' F' vb' K', Kd W (grow (redrawn Wz dq9) osq9) bf bm g0 g1 vb' F' bk bc root S' S' K' K') := by
                  obtain ⟨S', F', vb', K', h9⟩ := HK9.out
                  exact ⟨S', F', vb', K', h9.grow hb10⟩
                clear hb10 HOn HAc n1 n2 n3 n4 HK9
                generalize grow (redrawn Wz dq9) osq9 = w10 at *
                go_wp2_with fail
                first
                  | exact ⟨⟨k + 1, by omega, by go_num, fin.out⟩, by simp [intOf]; omega⟩
                  | (go_roundw
                     case rel => exact ⟨k + 1, by omega, by go_num, fin.out⟩
                     case measure => simp [intOf]; omega)
    · have i1 : ¬ (k : Int) < (len' : Int) := by omega
      have HSW := sameWords_any HB.out.side
      go_wp2_with fail
      refine HSW.mono ?_
      rintro e w9 ⟨rfl, hb9⟩
      have HF : Hid (Below W.heap.size W w9) := bthen HB.out.side.bel hb9
      clear hb9 HSW
      go_wp2_with fail
      go_ret
      exact ⟨rfl, HF.out⟩

set_option maxRecDepth 100000 in
theorem walkerDoes_lifted (os : Os) (started : os.Started) (H : Type) (enc : TypeId × Value → H) :
    ReturnsInHanded {} Try.checked os 6 .any (Rows.walkerDoesSpec.pre6 enc Try.prog Try.f6 Rows.walkerDoesRow.domain false) (Rows.walkerDoesSpec.post enc Try.prog Try.f6 false true false false) := by
  refine returnsInHanded_of_change (C := Try.checked) own started (by kernel_rfl) Try.func6
    (ChangeSpec.witness6 (enc := enc) (C := Try.checked) false ⟨#[], #[.int .i64 0, .int .i64 0, .slice none 0 0, .int .i64 0, .slice none 0 0], []⟩ 8 (by kernel_rfl) (by kernel_rfl) (by kernel_rfl) (by kernel_rfl)) ?_
  intro W base args ds gs before hval0 hW hcnd _
  have hval : ∀ (j : Nat) t v, Try.f6.params[j]? = some t → args[j]? = some v → Value.okWide Try.prog W .any base t v := hval0
  have hW' := hW
  obtain ⟨p, q, hA0, hV, rfl, hfz, hnd⟩ := hW
  have hA : DataW.TrodAll enc Try.prog W 0 (fun _ => true) true Try.f6.params.toList args.toList ds p := hA0
  rw [Try.params6] at hA hval
  obtain ⟨v0, vs0, d0, ds0, p0, q0, hargs, rfl, rfl, h0, r0⟩ := trodAll_cons hA
  obtain ⟨v1, vs1, d1, ds1, p1, q1, rfl, rfl, rfl, h1, r1⟩ := trodAll_cons r0
  obtain ⟨v2, vs2, d2, ds2, p2, q2, rfl, rfl, rfl, h2, r2⟩ := trodAll_cons r1
  obtain ⟨v3, vs3, d3, ds3, p3, q3, rfl, rfl, rfl, h3, r3⟩ := trodAll_cons r2
  obtain ⟨v4, vs4, d4, ds4, p4, q4, rfl, rfl, rfl, h4, r4⟩ := trodAll_cons r3
  obtain ⟨rfl, rfl, rfl⟩ := trodAll_nil r4
  obtain rfl : args = #[v0, v1, v2, v3, v4] := by cases args; simp_all
  obtain ⟨rfl, rfl⟩ := trodVars_none hV
  obtain ⟨a0a, rfl, f0a⟩ := openInt (hval 0 3 v0 rfl rfl) h0
  obtain ⟨a1a, rfl, f1a⟩ := openInt (hval 1 3 v1 rfl rfl) h1
  obtain ⟨a2a, a2b, a2c, a2d, rfl, f2a⟩ := openWords (hval 2 53 v2 rfl rfl) h2
  obtain ⟨a3a, rfl, f3a⟩ := openInt (hval 3 3 v3 rfl rfl) h3
  obtain ⟨a4a, a4b, a4c, a4d, rfl, f4a⟩ := openWsts (hval 4 54 v4 rfl rfl) h4
  clear hA0 hval0
  refine (walkerDoes_walk W a0a f0a a1a f1a a2a a2b a2c a2d f2a a3a f3a a4a a4b a4c a4d f4a).mono fun e W' ⟨he, bel⟩ => ?_
  subst he
  exact ⟨_, rfl, _, _, _, [], _, [], hW', trodAll_mk1 (shut_bool Try.underlying4 _), (trodAll_cons_mk (stays (by kernel_rfl) (of_decide_eq_true (by kernel_rfl)) h0 bel) (trodAll_cons_mk (stays (by kernel_rfl) (of_decide_eq_true (by kernel_rfl)) h1 bel) (trodAll_cons_mk (stays (by kernel_rfl) (of_decide_eq_true (by kernel_rfl)) h2 bel) (trodAll_cons_mk (stays (by kernel_rfl) (of_decide_eq_true (by kernel_rfl)) h3 bel) (trodAll_cons_mk (stays (by kernel_rfl) (of_decide_eq_true (by kernel_rfl)) h4 bel) trodAll_mk0))))), rfl, bel.frame _, fun h => by cases h⟩

theorem walkerDoes_over : Rows.walkerDoesRow.holds Try.pinned (OpenSpec.ofChange Rows.walkerDoesSpec) :=
  OpenClaim.holds_of_wide 6 Try.f6 rfl rfl rfl rfl rfl rfl rfl ⟨rfl, rfl, rfl, rfl, rfl⟩ rfl rfl rfl rfl rfl (by kernel_rfl) Try.func6 (by kernel_rfl)
    (of_decide_eq_true (by kernel_rfl)) (by unfold Func.isWrapper; first | (rw [if_pos (by decide +kernel)]; kernel_rfl) | (rw [if_neg (by decide +kernel)]; exact ⟨rfl, rfl⟩))
    (fun os started H enc _ => walkerDoes_lifted os started H enc)

theorem walkerDoes_proved : Rows.WalkerDoesSaid := walkerDoes_over
#print axioms walkerDoes_proved
end Go.Proofs.Ytkcmlmofcjdgoad
