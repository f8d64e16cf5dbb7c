
/-
  WalkerEnds: a walk ends: if nothing changes on its way it ends within a step a level and one more, with what is mapped, and marks nothing but that leaf.
-/
import Derived.Test.YtkcmlmofcjdgoadKQ
import Derived.Test.YtkcmlmofcjdgoadFrameW
import Derived.Deep.RegionHeld3
import Derived.Deep.DeepCutAuto
import Derived.Test.YtkcmlmofcjdgoadRows
namespace Go.Proofs.Ytkcmlmofcjdgoad
open Go.ChangeShapes Go.WideShapes Go.ChangeAt Go.RowKit Go.Joins Go.Deep Go.Sort
set_option maxRecDepth 100000
set_option linter.unusedVariables false
set_option linter.unusedSimpArgs false

theorem way_pos {S : Pg.Fs} {t p : Int} {X : List Pg.Sp} {lv : Nat} {e : Pg.En} {tl : Int} (h : Pg.Way S t p X lv e tl) : 0 < X.length := by
  cases X with
  | nil =>
    have h1 := h.lastL
    have h2 := h.len
    simp [lastL] at h1
    simp at h2
    omega
  | cons s X => simp

set_option maxHeartbeats 8000000 in
theorem walkerEnds_walk (W : World) (n : Int) (hn : Pg.fits n) (ad : Option Addr) (len cap : Nat) (q : Nat → Int) (hq : WordsAt W ad len q) (p k : Int) (u : Bool) (hp : Pg.fits p) (hk : Pg.fits k) :
    Calls Try.prog 7 #[.int .i64 n, .slice ad len cap, .agg #[.int .i64 p, .int .i64 k, .bool u]] W fun e W' => e = .returned (.bool true) ∧ Below W.heap.size W W' := by
  have HQ : Hid _ := hq
  clear hn hq hp hk
  obtain ⟨W1, hW1⟩ : ∃ W1, W1 = W.alloc (.cells #[.int .i64 p, .int .i64 k, .bool u] 29) := ⟨_, rfl⟩
  have hB1 : Below W.heap.size W W1 := by rw [hW1]; exact balloc (brefl W) _
  have A1 : Hid (W1.cell? ⟨W.heap.size, 0, none⟩ = some (.int .i64 p) ∧ W1.cell? ⟨W.heap.size, 1, none⟩ = some (.int .i64 k) ∧ W1.cell? ⟨W.heap.size, 2, none⟩ = some (.bool u)) := by rw [Hid, hW1]; simp [go_sem]
  have HB1 : Hid _ := hB1
  clear hB1
  have hcase : decide (n < 1) = true ∨ (decide (n < 1) = false ∧ decide (128 < n) = true) ∨ (decide (n < 1) = false ∧ decide (128 < n) = false ∧ (2000 : Int) < (len : Int)) ∨ (decide (n < 1) = false ∧ decide (128 < n) = false ∧ decide ((2000 : Int) < (len : Int)) = false ∧ 1 ≤ n ∧ n ≤ 128 ∧ len ≤ 2000) := by
    by_cases h0 : n < 1
    · exact .inl (by simpa using h0)
    · by_cases h1 : 128 < n
      · exact .inr (.inl ⟨by simpa using h0, by simpa using h1⟩)
      · by_cases h2 : 2000 < len
        · exact .inr (.inr (.inl ⟨by simpa using h0, by simpa using h1, by omega⟩))
        · exact .inr (.inr (.inr ⟨by simpa using h0, by simpa using h1, by simp; omega, by omega, by omega, by omega⟩))
  rcases hcase with h0 | ⟨h0, h1⟩ | ⟨h0, h1, h2⟩ | ⟨h0, h1, h2, n0, n1, hl⟩
  iterate 3 focus
    go_enter Try.func7, Try.ntmps7
    go_wp2_with fail
    rw [← hW1]
    refine (walkerBegun_any _).mono ?_
    rintro e w1 ⟨rfl, hb1⟩
    have HB : Hid _ := bthen HB1.out hb1
    clear hb1
    go_wp2_with fail
    go_ret
    exact ⟨rfl, HB.out⟩
  obtain ⟨nn, rfl⟩ := Int.eq_ofNat_of_zero_le (show 0 ≤ n by omega)
  go_enter Try.func7, Try.ntmps7
  go_wp2_with fail
  rw [← hW1]
  clear hW1
  refine (walkerBegun_any _).mono ?_
  rintro e w1 ⟨rfl, hb1⟩
  have HB2 : Hid (Below W.heap.size W w1) := bthen HB1.out hb1
  have HA2 : Hid _ := later3 hb1 A1.out
  have hA0 : W.heap.size < w1.heap.size := World.block_lt_of_cell? _ _ HA2.out.1
  have HM1 := memory_any nn (by omega) (nn : Int) ad len cap hl q w1 (WordsAt.below HQ.out (Nat.le_refl _) HB2.out)
  clear hb1 A1 HB1
  go_wp2_with fail
  refine HM1.mono ?_
  rintro e w2 ⟨bf, bm, g0, g1, vb, F, rfl, hS⟩
  have HS1 : Hid _ := hS
  clear hS HM1 HQ
  generalize Pg.Fs.memory nn (nn : Int) q len = S at *
  have HSO : Hid (S.Ok) := HS1.out.fr.ok
  have HN1 := kNew_any 0 w2
  go_wp2_with fail
  refine HN1.mono ?_
  rintro e w3 ⟨bk, rfl, hk3, hb3, hbk3⟩
  have P3 : Hid (Kq w1 w3 bf bm g0 g1 vb F bk S S Pg.Wk.off) := ⟨HS1.out.grow hb3, hk3, ⟨fun h => by have := HS1.out.fr.lt h; omega, fun h => by have := HS1.out.mem.raw.lt h; omega⟩, by have := HS1.out.bel.size; omega⟩
  clear hk3 hb3 hbk3 HN1 HS1
  obtain ⟨z0, z1, z2⟩ := later3 (hb := P3.out.side.bel.mono (Nat.le_refl _)) HA2.out
  have HBg := kBegin_any Pg.Wk.off_ok p k u w3 P3.out.wk
  by_cases hc : Pg.checkAccess p k = 0
  · have e2 : bgnC Pg.Wk.off p k = 0 := by simp [bgnC, hc, Pg.Wk.off]
    have e3 : bgnK 0 Pg.Wk.off p k u = Pg.Wk.start 0 p k u := by simp [bgnK, e2]
    have HBL : Hid (Pg.below p 4096 = true) := by
      unfold Pg.checkAccess at hc
      split at hc
      · split at hc
        · assumption
        · omega
      · omega
    rw [e2, e3] at HBg
    clear hc e2 e3
    go_wp2_with fail
    refine HBg.mono ?_
    rintro e w4 ⟨rfl, hk4, hc4⟩
    have P4 : Hid (∃ F' K', Kq w1 w4 bf bm g0 g1 vb F' bk S S K' ∧ K'.Ok ∧ Pg.KRun S p k u 0 K') := ⟨F, _, P3.out.leftK hk4 hc4.but, Pg.Wk.start_ok HBL.out, Pg.kRun_start S p k u⟩
    clear hk4 hc4 HBg P3 z0 z1 z2
    go_wp2_with fail
    go_loopw [10] (fun iv wr => ∃ i : Nat, i ≤ 5 ∧ iv = .int .i64 (i : Int) ∧ Hid (∃ F' K', Kq w1 wr bf bm g0 g1 vb F' bk S S K' ∧ K'.Ok ∧ Pg.KRun S p k u i K')) (fun iv _ => 5 - (intOf iv).toNat)
    case atStart => exact ⟨0, by omega, rfl, P4.out⟩
    case round =>
      obtain ⟨i, hi, rfl, HR⟩ := hrel
      clear P4
      obtain ⟨F2, K2, hkq, hok, hrun⟩ := HR.out
      obtain ⟨hi4, hends⟩ := Pg.kEnds HSO.out HBL.out hrun
      have PR : Hid _ := hkq
      have HK3 : Hid _ := Pg.kOut_ok HSO.out hok 0
      have HSt := kStep_any hok wr hkq.wk hkq.side.fr hkq.nk.1
      have HEN : Hid (((Pg.kOut S 0 K2).cd ≠ 0 → (Pg.kOut S 0 K2).fs S K2 = S ∧ fndC S 0 p = (Pg.kOut S 0 K2).cd) ∧ ((Pg.kOut S 0 K2).cd = 0 → (Pg.Wo.res K2 (Pg.kOut S 0 K2)).ended = false → (Pg.kOut S 0 K2).fs S K2 = S ∧ Pg.KRun S p k u (i + 1) ((Pg.kOut S 0 K2).next K2)) ∧ ((Pg.Wo.res K2 (Pg.kOut S 0 K2)).ended = true → (Pg.kOut S 0 K2).cd = 0 ∧ Pg.KEnd S p k u (Pg.Wo.res K2 (Pg.kOut S 0 K2)) ((Pg.kOut S 0 K2).fs S K2))) := by
        rcases hko : Pg.kOut S 0 K2 with c | K' | r | ⟨e, m⟩
        · rw [hko] at hends
          exact ⟨fun _ => ⟨rfl, hends.2⟩, fun h => absurd h hends.1, fun h => (by cases h)⟩
        · rw [hko] at hends
          exact ⟨fun h => absurd rfl h, fun _ _ => ⟨rfl, hends⟩, fun h => (by cases h)⟩
        · rw [hko] at hends
          exact ⟨fun h => absurd rfl h, fun _ h => (by cases h), fun _ => ⟨rfl, hends⟩⟩
        · rw [hko] at hends
          exact ⟨fun h => absurd rfl h, fun _ h => (by cases h), fun _ => ⟨rfl, hends⟩⟩
      clear hkq hok hrun hends HR
      generalize Pg.Wo.next K2 (Pg.kOut S 0 K2) = K3 at *
      generalize Pg.Wo.fs S K2 (Pg.kOut S 0 K2) = S3 at *
      generalize Pg.Wo.res K2 (Pg.kOut S 0 K2) = R3 at *
      generalize (Pg.kOut S 0 K2).cd = c3 at *
      obtain ⟨ra, rb, rc, rd, ⟨rmp, rms, rmf, rmr⟩, re⟩ := R3
      simp only [Pg.Rs.val] at HSt
      have i4 : (i : Int) ≤ 4 := by omega
      go_wp2_with fail
      refine HSt.mono ?_
      rintro e w5 ⟨rfl, hk5, F5, hf5, hc5, hF5⟩
      have P5 : Hid _ := PR.out.left hk5 hf5 hc5.but hF5
      clear hk5 hf5 hc5 hF5 HSt PR
      obtain ⟨W6, hW6⟩ : ∃ W6, W6 = w5.alloc (.cells #[.bool ra, .int .i64 rb, .int .i64 rc, .int .i64 rd, .int .i64 rmp, .int .i64 rms, .int .i64 rmf, .int .i64 rmr, .bool re] 71) := ⟨_, rfl⟩
      have hb6 : Below w5.heap.size w5 W6 := by rw [hW6]; exact balloc (brefl _) _
      have P6 : Hid _ := P5.out.grow hb6
      have R6 : Hid (W6.heap[w5.heap.size]? = some (.cells #[.bool ra, .int .i64 rb, .int .i64 rc, .int .i64 rd, .int .i64 rmp, .int .i64 rms, .int .i64 rmf, .int .i64 rmr, .bool re] 71 (0, 0))) := by rw [Hid, hW6]; exact heap_alloc_new _ _
      have hA5 := later3 (hb := P5.out.side.bel.mono (Nat.le_refl _)) HA2.out
      have hA6 := later3 (hb := P6.out.side.bel.mono (Nat.le_refl _)) HA2.out
      have hAl : W.heap.size < w5.heap.size := World.block_lt_of_cell? _ _ hA5.1
      have nAl : W.heap.size ≠ w5.heap.size := by omega
      have mAl : w5.heap.size ≠ W.heap.size := by omega
      have hl6 : w5.heap.size < W6.heap.size := by rw [hW6]; simp
      obtain ⟨z0, z1, z2⟩ := hA5
      clear hb6
      by_cases hc3 : c3 = 0
      · subst hc3
        cases ra
        · skip
          obtain ⟨es, hrun⟩ := HEN.out.2.1 rfl rfl
          rw [es] at P6
          have HN : Hid (∃ F' K', Kq w1 W6 bf bm g0 g1 vb F' bk S S K' ∧ K'.Ok ∧ Pg.KRun S p k u (i + 1) K') := ⟨_, _, P6.out, HK3.out, hrun⟩
          rw [hW6] at HN
          clear HEN P5 P6 es hrun hA6 HK3 R6 hW6
          go_wp2_with fail
          first
            | exact ⟨⟨i + 1, by omega, by go_num, HN.out⟩, by simp [intOf]; omega⟩
            | (go_roundw
               case rel => exact ⟨i + 1, by omega, by go_num, HN.out⟩
               case measure => simp [intOf]; omega)
        · obtain ⟨_, hE⟩ := HEN.out.2.2 rfl
          rcases hE with hE | hE
          · skip
            obtain ⟨hfc, rfl, rfl, rfl, es⟩ := hE
            rw [es] at P6
            generalize hmm : Pg.tFM S 0 p = mm at *
            generalize hee : Pg.tFE S 0 p = ee at *
            obtain ⟨mp, ms, mf, mr⟩ := mm
            obtain ⟨et, el, er, eu, ed, ef⟩ := ee

            have HFi := findIn_any 0 p W6 P6.out.side.mem
            rw [hfc, hmm, hee] at HFi
            simp only [Pg.Mp.val, Pg.En.val] at HFi
            clear hmm hee hfc es
            clear HEN P5
            go_wp2_with fail
            rw [← hW6]
            clear hW6 z0 z1 z2
            generalize w5.heap.size = RB at *
            refine HFi.mono ?_
            rintro e w7 ⟨rfl, hb7⟩
            have P7 : Hid _ := P6.out.grow hb7
            have R7 : Hid (w7.heap[RB]? = _) := (hb7.block _ hl6).trans R6.out
            have hR7 : RB < w7.heap.size := (Array.getElem?_eq_some_iff.1 R7.out).1
            obtain ⟨z0, z1, z2⟩ := later3 (hb := P7.out.side.bel.mono (Nat.le_refl _)) HA2.out
            have hA7 : W.heap.size < w7.heap.size := World.block_lt_of_cell? _ _ z0
            clear hb7 HFi P6 R6 hl6 hA6

            obtain ⟨W8, hW8⟩ : ∃ W8, W8 = (w7.alloc (.cells #[.int .i64 mp, .int .i64 ms, .int .i64 mf, .int .i64 mr] 34)).alloc (.cells #[.bool et, .bool el, .int .i64 er, .bool eu, .bool ed, .int .i64 ef] 87) := ⟨_, rfl⟩
            have hb8 : Below w7.heap.size w7 W8 := by rw [hW8]; exact balloc (balloc (brefl _) _) _
            have P8 : Hid _ := P7.out.grow hb8
            have R8 : Hid (W8.heap[RB]? = _) := (hb8.block _ hR7).trans R7.out
            have M8 : Hid (W8.cell? ⟨w7.heap.size, 0, none⟩ = some (.int .i64 mp) ∧ W8.cell? ⟨w7.heap.size, 1, none⟩ = some (.int .i64 ms) ∧ W8.cell? ⟨w7.heap.size, 2, none⟩ = some (.int .i64 mf) ∧ W8.cell? ⟨w7.heap.size, 3, none⟩ = some (.int .i64 mr)) := by rw [Hid, hW8]; simp [go_sem]
            have E8 : Hid (W8.cell? ⟨w7.heap.size + 1, 0, none⟩ = some (.bool et) ∧ W8.cell? ⟨w7.heap.size + 1, 1, none⟩ = some (.bool el) ∧ W8.cell? ⟨w7.heap.size + 1, 2, none⟩ = some (.int .i64 er) ∧ W8.cell? ⟨w7.heap.size + 1, 3, none⟩ = some (.bool eu) ∧ W8.cell? ⟨w7.heap.size + 1, 4, none⟩ = some (.bool ed) ∧ W8.cell? ⟨w7.heap.size + 1, 5, none⟩ = some (.int .i64 ef)) := by rw [Hid, hW8]; simp [go_sem]
            have F8 : Hid (∀ i, W8.frozen? ⟨w7.heap.size + 1, i, none⟩ = false) := fun i => by rw [hW8]; simp [go_sem]
            have hs8 : W8.heap.size = w7.heap.size + 1 + 1 := by rw [hW8]; simp

            obtain ⟨⟨x0, x1, x2, x3, x4, x5, x6, x7, x8⟩, xf⟩ := row9 R7.out
            have hR7' : RB < w7.heap.size + 1 := by omega
            have nR7 : RB ≠ w7.heap.size := by omega
            have mR7 : RB ≠ w7.heap.size + 1 := by omega
            have HSW := sameWords_any P8.out.side
            go_wp2_with fail
            rw [← hW8]
            refine HSW.mono ?_
            rintro e w9 ⟨rfl, hb9⟩
            have HF : Hid (Below W.heap.size W w9) := HB2.out.trans ((bthen P8.out.side.bel hb9).mono HB2.out.size)
            clear hb9 HSW
            go_wp2_with fail
            go_ret
            exact ⟨rfl, HF.out⟩
          · simp only at hE
            by_cases hrb : rb = 0
            · subst hrb
              obtain ⟨hfc, ha, hf, hr, _, hyes⟩ := hE
              obtain ⟨hfc0, es⟩ := hyes rfl
              rw [es] at P6
              clear hyes es
              obtain ⟨lvn, e0, tl, hway⟩ := Pg.way_of hfc0
              have htl := hway.lastT
              have hll := hway.lastL
              have hlen := hway.len
              have hhas := hway.hasT
              have hXp : 0 < (fndX S 0 p).length := way_pos hway
              have hlv4 : lvn < 4 := by omega
              have hlast := last_tab hXp
              rw [htl] at hlast
              rw [htl, hll, Pg.index_ix HBL.out hlv4] at P6
              obtain ⟨tn, rfl⟩ := Int.eq_ofNat_of_zero_le (HSO.out.has_lt hhas).1
              have htn : tn < S.n := by have := (HSO.out.has_lt hhas).2.1; omega
              have hixl := Pg.ix_lt p lvn
              have HAt : Hid (S.at' (tn : Int) (Pg.ix p lvn : Nat) = true) := by rw [Hid, at_has S (tn : Int) p lvn, hhas]
              clear hway e0 hhas htl


              have HME : Hid (∀ j, memF bm g0 g1 vb j → j < w5.heap.size) := fun j hj => P5.out.side.mem.raw.lt hj
              have HFE : Hid (∀ j, F5 j → j < w5.heap.size) := fun j hj => P5.out.side.fr.lt hj
              generalize hmm : Pg.tFM S 0 p = mm at *
              generalize hee : Pg.tFE S 0 p = ee at *
              obtain ⟨mp, ms, mf, mr⟩ := mm
              obtain ⟨et, el, er, eu, ed, ef⟩ := ee
              simp only at ha hf hr
              have HAn := fun W' => answerOf_any mp ms mf mr p k u W'
              rw [← ha, ← hf, ← hr] at HAn
              clear ha hf hr

              have HFi := findIn_any 0 p W6 P6.out.side.mem
              rw [hfc, hmm, hee] at HFi
              simp only [Pg.Mp.val, Pg.En.val] at HFi
              clear hmm hfc
              clear HEN P5
              go_wp2_with fail
              rw [← hW6]
              clear hW6 z0 z1 z2
              generalize w5.heap.size = RB at *
              refine HFi.mono ?_
              rintro e w7 ⟨rfl, hb7⟩
              have P7 : Hid _ := P6.out.grow hb7
              have R7 : Hid (w7.heap[RB]? = _) := (hb7.block _ hl6).trans R6.out
              have hR7 : RB < w7.heap.size := (Array.getElem?_eq_some_iff.1 R7.out).1
              obtain ⟨z0, z1, z2⟩ := later3 (hb := P7.out.side.bel.mono (Nat.le_refl _)) HA2.out
              have hA7 : W.heap.size < w7.heap.size := World.block_lt_of_cell? _ _ z0
              have hw17 : w1.heap.size ≤ w7.heap.size := P7.out.side.bel.size
              clear hb7 HFi P6 R6 hl6 hA6

              obtain ⟨W8, hW8⟩ : ∃ W8, W8 = (w7.alloc (.cells #[.int .i64 mp, .int .i64 ms, .int .i64 mf, .int .i64 mr] 34)).alloc (.cells #[.bool et, .bool el, .int .i64 er, .bool eu, .bool ed, .int .i64 ef] 87) := ⟨_, rfl⟩
              have hb8 : Below w7.heap.size w7 W8 := by rw [hW8]; exact balloc (balloc (brefl _) _) _
              have P8 : Hid _ := P7.out.grow hb8
              have R8 : Hid (W8.heap[RB]? = _) := (hb8.block _ hR7).trans R7.out
              have M8 : Hid (W8.cell? ⟨w7.heap.size, 0, none⟩ = some (.int .i64 mp) ∧ W8.cell? ⟨w7.heap.size, 1, none⟩ = some (.int .i64 ms) ∧ W8.cell? ⟨w7.heap.size, 2, none⟩ = some (.int .i64 mf) ∧ W8.cell? ⟨w7.heap.size, 3, none⟩ = some (.int .i64 mr)) := by rw [Hid, hW8]; simp [go_sem]
              have E8 : Hid (W8.cell? ⟨w7.heap.size + 1, 0, none⟩ = some (.bool et) ∧ W8.cell? ⟨w7.heap.size + 1, 1, none⟩ = some (.bool el) ∧ W8.cell? ⟨w7.heap.size + 1, 2, none⟩ = some (.int .i64 er) ∧ W8.cell? ⟨w7.heap.size + 1, 3, none⟩ = some (.bool eu) ∧ W8.cell? ⟨w7.heap.size + 1, 4, none⟩ = some (.bool ed) ∧ W8.cell? ⟨w7.heap.size + 1, 5, none⟩ = some (.int .i64 ef)) := by rw [Hid, hW8]; simp [go_sem]
              have F8 : Hid (∀ i, W8.frozen? ⟨w7.heap.size + 1, i, none⟩ = false) := fun i => by rw [hW8]; simp [go_sem]
              have hs8 : W8.heap.size = w7.heap.size + 1 + 1 := by rw [hW8]; simp

              go_wp2_with fail
              rw [← hW8]
              clear hW8
              have hRa := row9 R8.out
              obtain ⟨⟨x0, x1, x2, x3, x4, x5, x6, x7, x8⟩, xf⟩ := hRa
              have q0 := cell_regrown x1
              have q1 := cell_regrown x2
              have q2 := cell_regrown x3
              have q3 := cell_regrown M8.out.1
              have q4 := cell_regrown M8.out.2.1
              have q5 := cell_regrown M8.out.2.2.1
              have q6 := cell_regrown M8.out.2.2.2
              clear z0 z1 z2
              obtain ⟨z0, z1, z2⟩ := later3 (hb := P8.out.side.bel.mono (Nat.le_refl _)) HA2.out
              have q7 := cell_regrown z0
              have q8 := cell_regrown z1
              have q9 := cell_regrown z2
              clear z0 z1 z2 x0 x1 x2 x3 x4 x5 x6 x7 x8 xf
              refine wp_region_quiet_below (by kernel_rfl) (by kernel_rfl) ?_
              repeat (first
                | go_big_quiet_step ((go_at_call 41; exact Calls.regrown_of (HAn _))))
              refine wpQuiet_nil ?_
              intro _ hw'
              obtain ⟨⟨dq, osq⟩, rfl⟩ := hw'
              have hb9 := below_regrown W8 dq osq
              have P9 : Hid _ := P8.out.grow hb9
              have R9 : Hid ((grow (redrawn W8 dq) osq).heap[RB]? = _) := (hb9.block _ (by omega)).trans R8.out
              have E9 : Hid _ := later6 hb9 E8.out
              have F9 : Hid (∀ i, (grow (redrawn W8 dq) osq).frozen? ⟨w7.heap.size + 1, i, none⟩ = false) := fun i => (hb9.frozen (p := ⟨w7.heap.size + 1, i, none⟩) (show w7.heap.size + 1 < W8.heap.size by omega)).trans (F8.out i)
              have hs9 : w7.heap.size + 1 < (grow (redrawn W8 dq) osq).heap.size := by have := hb9.size; omega
              clear hb9 q0 q1 q2 q3 q4 q5 q6 q7 q8 q9 HAn P8 R8 E8 M8 F8 P7 R7 hs8
              generalize grow (redrawn W8 dq) osq = w9 at *
              generalize hEe : w7.heap.size + 1 = Eb at *
              have hEw : w1.heap.size < Eb ∧ W.heap.size < Eb ∧ RB < Eb := ⟨by omega, by omega, by omega⟩
              clear hEe
              obtain ⟨⟨x0, x1, x2, x3, x4, x5, x6, x7, x8⟩, xf⟩ := row9 R9.out

              have HFC0 : Hid _ := hfc0
              clear hfc0
              have hEm : ¬ memF bm g0 g1 vb Eb := fun h => by have := HME.out Eb h; omega
              have hEF : ¬ F5 Eb := fun h => by have := HFE.out Eb h; omega
              have hg0w : g0 < w9.heap.size := P9.out.side.mem.raw.l0
              have hg0h : w1.heap.size ≤ g0 := P9.out.side.mhi g0 (.inr (.inl rfl))
              generalize hixx : Pg.ix p lvn = ixn at *
              have HIXX : Hid _ := hixx
              clear hixx
              have hv := Pg.enc_bd' et el er true (ed || k == 1) ef (lvn : Int)
              have HWo := fun W' => wordOf_any et el er true (ed || k == 1) ef (lvn : Int) W'
              generalize Pg.enc et el er true (ed || k == 1) ef (lvn : Int) = v at *
              cases ed
              · obtain ⟨d', hk1⟩ : ∃ d', (k == 1) = d' := ⟨_, rfl⟩
                rw [Bool.false_or, hk1] at HWo
                have HWy := wayTo_any 0 p w9 P9.out.side.mem
                rw [HFC0.out] at HWy
                obtain ⟨y0, y1, y2⟩ := later3 (hb := P9.out.side.bel.mono (Nat.le_refl _)) HA2.out
                go_wp2_with fail
                clear y0 y1 y2
                refine HWy.mono ?_
                rintro e w10 ⟨⟨ad10, cap10, rfl, hi10⟩, hb10, hnew⟩
                obtain ⟨g, rfl, hg, hgc⟩ := hi10 ((fndX S 0 p).length - 1) (by rw [tabs_len]; omega)
                have hgn := hnew g _ _ _ rfl
                rw [hlast] at hgc
                have P10 : Hid _ := P9.out.grow hb10
                have E10 := later6 hb10 E9.out
                have F10 : ∀ i, w10.frozen? ⟨Eb, i, none⟩ = false := fun i => (hb10.frozen (p := ⟨Eb, i, none⟩) hs9).trans (F9.out i)
                obtain ⟨z0, z1, z2⟩ := later3 (hb := P10.out.side.bel.mono (Nat.le_refl _)) HA2.out
                unfold wayV
                rw [hll]
                generalize lastE (fndX S 0 p) = lE at *
                obtain ⟨m, hm⟩ : ∃ m, (fndX S 0 p).length - 1 = m := ⟨_, rfl⟩
                rw [hm] at hgc
                obtain ⟨Ln, hLn⟩ : ∃ Ln, (fndX S 0 p).length = Ln := ⟨_, rfl⟩
                rw [hLn]
                have hLm : (Ln : Int) - 1 = (m : Int) := by omega
                have hLm0 : (0 : Int) ≤ (m : Int) := by omega
                have hLm1 : (m : Int) < (Ln : Int) := by omega
                have hL4 : (Ln : Int) ≤ 4 := by omega
                have hLn0 : ¬ (m : Int) < 0 := by omega
                have hLw : IntKind.i64.wrap (m : Int) = (m : Int) := wrap_i64_in (by omega) (by omega)
                clear hi10 hnew hlast hll hm hLn hXp hlen hb10 HWy R9 x0 x1 x2 x3 x4 x5 x6 x7 x8 xf
                have hm10 := P10.out.side.mem
                have hs10 : Eb < w10.heap.size := World.block_lt_of_cell? _ _ E10.1
                have hA10 : W.heap.size < w10.heap.size := World.block_lt_of_cell? _ _ z0
                have hbl10 : bm < w10.heap.size := hm10.raw.lb
                have hg0l : g0 < w10.heap.size := hm10.raw.l0
                have hg0E : g0 ≠ Eb := fun e => hEm (.inr (.inl e.symm))
                have hbmE : bm ≠ Eb := fun e => hEm (.inl e.symm)
                have hgE : g ≠ Eb := by omega
                obtain ⟨W11, hW11⟩ : ∃ W11, W11 = ((w10.setCell ⟨Eb, 3, none⟩ (.bool true)).setCell ⟨Eb, 4, none⟩ (.bool d')).alloc (.cells #[.slice (some ⟨g, 0, none⟩) Ln cap10, .bool lE.t, .bool lE.l, .int .i64 lE.r, .bool lE.u, .bool lE.d, .int .i64 lE.f, .int .i64 (lvn : Int)] 89) := ⟨_, rfl⟩
                have hBs : Below w1.heap.size w10 ((w10.setCell ⟨Eb, 3, none⟩ (.bool true)).setCell ⟨Eb, 4, none⟩ (.bool d')) := by
                  have hE : w1.heap.size ≤ Eb := by omega
                  exact ((Below.refl _ w10).setCell hE _).setCell hE _
                have hsz : ((w10.setCell ⟨Eb, 3, none⟩ (.bool true)).setCell ⟨Eb, 4, none⟩ (.bool d')).heap.size = w10.heap.size := by simp
                have hkk : ∀ j, j ≠ Eb → j < w10.heap.size → W11.heap[j]? = w10.heap[j]? := fun j hj hl => by
                  rw [hW11, Below.heap_alloc _ _ _ (by rw [hsz]; exact hl), Below.heap_setCell _ _ _ _ hj, Below.heap_setCell _ _ _ _ hj]
                have hBut : But (fun j => j = Eb) w10 W11 := by
                  rw [hW11]
                  exact (((But.refl (fun j => j = Eb) w10).setCell (a := ⟨Eb, 3, none⟩) (.inr rfl) _).setCell (a := ⟨Eb, 4, none⟩) (.inr rfl) _).alloc _
                have P11 : Hid (Side w1 bf bm g0 g1 vb F5 (S.store (tn : Int) (ixn : Int) v) S W11) := by
                  have hsd := P10.out.side
                  refine ⟨hsd.bel.trans (hBut.below hsd.bel.size (fun j e => by show w1.heap.size ≤ j; omega)), hsd.fr.keep hBut (fun j hj e => hEF (e ▸ hj)), hsd.mem.keep hBut (fun j hj e => hEm (e ▸ hj)), hsd.fhi, hsd.mhi, hsd.ne⟩
                have q0 : W11.cell? ⟨bm, 0, none⟩ = _ := (World.cell?_of_block (a := ⟨bm, 0, none⟩) (hkk bm hbmE hbl10)).trans hm10.raw.c0
                have q1 : W11.cell? ⟨w10.heap.size, 0, none⟩ = some (.slice (some ⟨g, 0, none⟩) Ln cap10) := by rw [hW11]; simp [go_sem]
                have q2 : W11.cell? ⟨g, m, none⟩ = _ := (World.cell?_of_block (a := ⟨g, m, none⟩) (hkk g hgE hg)).trans hgc
                have q3 : W11.cell? ⟨W.heap.size, 0, none⟩ = _ := (World.cell?_of_block (a := ⟨W.heap.size, 0, none⟩) (hkk W.heap.size (by omega) hA10)).trans z0
                have q4 : W11.cell? ⟨w10.heap.size, 7, none⟩ = some (.int .i64 (lvn : Int)) := by rw [hW11]; simp [go_sem]
                have hQ6 : W11.cell? ⟨Eb, 0, none⟩ = some (.bool et) ∧ W11.cell? ⟨Eb, 1, none⟩ = some (.bool el) ∧ W11.cell? ⟨Eb, 2, none⟩ = some (.int .i64 er) ∧ W11.cell? ⟨Eb, 3, none⟩ = some (.bool true) ∧ W11.cell? ⟨Eb, 4, none⟩ = some (.bool d') ∧ W11.cell? ⟨Eb, 5, none⟩ = some (.int .i64 ef) := by
                  obtain ⟨r0, r1, r2, r3, r4, r5⟩ := E10
                  have nE10 : Eb ≠ w10.heap.size := by omega
                  rw [hW11]
                  simp [go_sem, r0, r1, r2, r3, r4, r5, hs10, nE10]
                obtain ⟨q5, q6, q7, q8, q9, q10⟩ := hQ6
                obtain ⟨e0, e1, e2, e3, e4, e5⟩ := E10
                have nE11 : Eb ≠ w10.heap.size := by omega
                have mE11 : w10.heap.size ≠ Eb := by omega
                have nA11 : W.heap.size ≠ w10.heap.size := by omega
                have nAE : W.heap.size ≠ Eb := by omega
                have mAE : Eb ≠ W.heap.size := by omega
                have hS11 : w10.heap.size < W11.heap.size := by rw [hW11]; simp
                have ng1 : g0 ≠ w10.heap.size := by omega
                have ng2 : g0 ≠ g := by
                  intro e
                  have := hg0w
                  omega
                have ng3 : g0 ≠ W.heap.size := by
                  intro e
                  have := hg0h
                  omega
                have ng4 : g0 ≠ bm := hm10.raw.n0
                clear P9 hkk hBut hBs hsz P10 hm10
                go_wp2_with fail
                rw [← hW11]
                clear hW11 e0 e1 e2 e3 e4 e5 z0 z1 z2 F10
                generalize w10.heap.size = WB at *
                generalize hA0e : W.heap.size = A0 at *
                have HIx2 := indexOf_any p (lvn : Int)
                rw [Pg.index_ix HBL.out hlv4, HIXX.out] at HIx2
                have ng1' : WB ≠ g0 := fun e => ng1 e.symm
                have ng2' : g ≠ g0 := fun e => ng2 e.symm
                have ng3' : A0 ≠ g0 := fun e => ng3 e.symm
                have ng4' : bm ≠ g0 := fun e => ng4 e.symm
                have ng5' : Eb ≠ g0 := fun e => hg0E e.symm
                have i0 : (0 : Int) ≤ (tn : Int) := by omega
                have i1 : (tn : Int) < (S.n : Int) := by omega
                have i2 : (0 : Int) ≤ (ixn : Int) := by omega
                have i3 : (ixn : Int) < 8 := by omega
                go_region_held3 (fun w' => w'.cell? ⟨bm, 0, none⟩ = some (.slice (some ⟨g0, 0, none⟩) S.n S.n) ∧ w'.cell? ⟨WB, 0, none⟩ = some (.slice (some ⟨g, 0, none⟩) Ln cap10) ∧ w'.cell? ⟨g, m, none⟩ = some (.int .i64 (tn : Int)) ∧ w'.cell? ⟨A0, 0, none⟩ = some (.int .i64 p) ∧ w'.cell? ⟨WB, 7, none⟩ = some (.int .i64 (lvn : Int)) ∧ w'.cell? ⟨Eb, 0, none⟩ = some (.bool et) ∧ w'.cell? ⟨Eb, 1, none⟩ = some (.bool el) ∧ w'.cell? ⟨Eb, 2, none⟩ = some (.int .i64 er) ∧ w'.cell? ⟨Eb, 3, none⟩ = some (.bool true) ∧ w'.cell? ⟨Eb, 4, none⟩ = some (.bool d') ∧ w'.cell? ⟨Eb, 5, none⟩ = some (.int .i64 ef)) (go_keep) (first
                  | (go_at_call 42; refine (HWo _).mono ?_; rintro en w13 ⟨rfl, hb13⟩; have HB78 : Hid _ := hb13; have P13 : Hid (Side w1 bf bm g0 g1 vb F5 (S.store (tn : Int) (ixn : Int) v) S w13) := (P11.out.grow HB12.out).grow hb13; have b0 := cell_later HB78.out a0; have b1 := cell_later HB78.out a1; have b2 := cell_later HB78.out a2; have b3 := cell_later HB78.out a3; have b4 := cell_later HB78.out a4; have b5 := cell_later HB78.out a5; have b6 := cell_later HB78.out a6; have b7 := cell_later HB78.out a7; have b8 := cell_later HB78.out a8; have b9 := cell_later HB78.out a9; have b10 := cell_later HB78.out a10; have gw := P13.out.mem.raw.cw tn ixn htn hixl; have gf := P13.out.mem.raw.f0; have gl := P13.out.mem.raw.l0; clear hb13)
                  | (go_at_call 43; refine (HIx2 _).mono ?_; rintro en w12 ⟨rfl, hb12⟩; have HB12 : Hid (Below W11.heap.size W11 w12) := (by first | exact bthen (brefl W11).drew hb12 | exact hb12); have a0 := cell_later HB12.out q0; have a1 := cell_later HB12.out q1; have a2 := cell_later HB12.out q2; have a3 := cell_later HB12.out q3; have a4 := cell_later HB12.out q4; have a5 := cell_later HB12.out q5; have a6 := cell_later HB12.out q6; have a7 := cell_later HB12.out q7; have a8 := cell_later HB12.out q8; have a9 := cell_later HB12.out q9; have a10 := cell_later HB12.out q10; clear hb12))
                go_wp2_with fail
                have P14 : Hid (Side w1 bf bm g0 g1 vb F5 (S.store (tn : Int) (ixn : Int) v) (S.store (tn : Int) (ixn : Int) v) (w13.setCell ⟨g0, tn * 8 + ixn, none⟩ (.int .u64 v))) := by
                  have e3 : S.store (tn : Int) (ixn : Int) v = { S with word := Pg.Fs.put S.word tn ixn v } := by simp [Pg.Fs.store, HAt.out]
                  have ok' := P13.out.mem.ok.store (tn : Int) (ixn : Int) hv.1 hv.2
                  have hp := P13.out.mem.raw.put htn hixl v
                  have hB : But (memF bm g0 g1 vb) w13 (w13.setCell ⟨g0, tn * 8 + ixn, none⟩ (.int .u64 v)) := (But.refl _ w13).setCell (a := ⟨g0, tn * 8 + ixn, none⟩) (.inr (.inr (.inl rfl))) _
                  refine P13.out.stepM ⟨?_, ok'⟩ hB rfl
                  rw [e3]
                  exact hp
                subst hA0e
                have HSW := sameWords_any P14.out
                refine HSW.mono ?_
                rintro e w15 ⟨rfl, hb15⟩
                have HF : Hid (Below W.heap.size W w15) := HB2.out.trans ((bthen P14.out.bel hb15).mono HB2.out.size)
                clear hb15 HSW
                go_wp2_with fail
                go_ret
                exact ⟨rfl, HF.out⟩

              · rw [Bool.true_or] at HWo
                have HWy := wayTo_any 0 p w9 P9.out.side.mem
                rw [HFC0.out] at HWy
                obtain ⟨y0, y1, y2⟩ := later3 (hb := P9.out.side.bel.mono (Nat.le_refl _)) HA2.out
                go_wp2_with fail
                clear y0 y1 y2
                refine HWy.mono ?_
                rintro e w10 ⟨⟨ad10, cap10, rfl, hi10⟩, hb10, hnew⟩
                obtain ⟨g, rfl, hg, hgc⟩ := hi10 ((fndX S 0 p).length - 1) (by rw [tabs_len]; omega)
                have hgn := hnew g _ _ _ rfl
                rw [hlast] at hgc
                have P10 : Hid _ := P9.out.grow hb10
                have E10 := later6 hb10 E9.out
                have F10 : ∀ i, w10.frozen? ⟨Eb, i, none⟩ = false := fun i => (hb10.frozen (p := ⟨Eb, i, none⟩) hs9).trans (F9.out i)
                obtain ⟨z0, z1, z2⟩ := later3 (hb := P10.out.side.bel.mono (Nat.le_refl _)) HA2.out
                unfold wayV
                rw [hll]
                generalize lastE (fndX S 0 p) = lE at *
                obtain ⟨m, hm⟩ : ∃ m, (fndX S 0 p).length - 1 = m := ⟨_, rfl⟩
                rw [hm] at hgc
                obtain ⟨Ln, hLn⟩ : ∃ Ln, (fndX S 0 p).length = Ln := ⟨_, rfl⟩
                rw [hLn]
                have hLm : (Ln : Int) - 1 = (m : Int) := by omega
                have hLm0 : (0 : Int) ≤ (m : Int) := by omega
                have hLm1 : (m : Int) < (Ln : Int) := by omega
                have hL4 : (Ln : Int) ≤ 4 := by omega
                have hLn0 : ¬ (m : Int) < 0 := by omega
                have hLw : IntKind.i64.wrap (m : Int) = (m : Int) := wrap_i64_in (by omega) (by omega)
                clear hi10 hnew hlast hll hm hLn hXp hlen hb10 HWy R9 x0 x1 x2 x3 x4 x5 x6 x7 x8 xf
                have hm10 := P10.out.side.mem
                have hs10 : Eb < w10.heap.size := World.block_lt_of_cell? _ _ E10.1
                have hA10 : W.heap.size < w10.heap.size := World.block_lt_of_cell? _ _ z0
                have hbl10 : bm < w10.heap.size := hm10.raw.lb
                have hg0l : g0 < w10.heap.size := hm10.raw.l0
                have hg0E : g0 ≠ Eb := fun e => hEm (.inr (.inl e.symm))
                have hbmE : bm ≠ Eb := fun e => hEm (.inl e.symm)
                have hgE : g ≠ Eb := by omega
                obtain ⟨W11, hW11⟩ : ∃ W11, W11 = ((w10.setCell ⟨Eb, 3, none⟩ (.bool true)).setCell ⟨Eb, 4, none⟩ (.bool true)).alloc (.cells #[.slice (some ⟨g, 0, none⟩) Ln cap10, .bool lE.t, .bool lE.l, .int .i64 lE.r, .bool lE.u, .bool lE.d, .int .i64 lE.f, .int .i64 (lvn : Int)] 89) := ⟨_, rfl⟩
                have hBs : Below w1.heap.size w10 ((w10.setCell ⟨Eb, 3, none⟩ (.bool true)).setCell ⟨Eb, 4, none⟩ (.bool true)) := by
                  have hE : w1.heap.size ≤ Eb := by omega
                  exact ((Below.refl _ w10).setCell hE _).setCell hE _
                have hsz : ((w10.setCell ⟨Eb, 3, none⟩ (.bool true)).setCell ⟨Eb, 4, none⟩ (.bool true)).heap.size = w10.heap.size := by simp
                have hkk : ∀ j, j ≠ Eb → j < w10.heap.size → W11.heap[j]? = w10.heap[j]? := fun j hj hl => by
                  rw [hW11, Below.heap_alloc _ _ _ (by rw [hsz]; exact hl), Below.heap_setCell _ _ _ _ hj, Below.heap_setCell _ _ _ _ hj]
                have hBut : But (fun j => j = Eb) w10 W11 := by
                  rw [hW11]
                  exact (((But.refl (fun j => j = Eb) w10).setCell (a := ⟨Eb, 3, none⟩) (.inr rfl) _).setCell (a := ⟨Eb, 4, none⟩) (.inr rfl) _).alloc _
                have P11 : Hid (Side w1 bf bm g0 g1 vb F5 (S.store (tn : Int) (ixn : Int) v) S W11) := by
                  have hsd := P10.out.side
                  refine ⟨hsd.bel.trans (hBut.below hsd.bel.size (fun j e => by show w1.heap.size ≤ j; omega)), hsd.fr.keep hBut (fun j hj e => hEF (e ▸ hj)), hsd.mem.keep hBut (fun j hj e => hEm (e ▸ hj)), hsd.fhi, hsd.mhi, hsd.ne⟩
                have q0 : W11.cell? ⟨bm, 0, none⟩ = _ := (World.cell?_of_block (a := ⟨bm, 0, none⟩) (hkk bm hbmE hbl10)).trans hm10.raw.c0
                have q1 : W11.cell? ⟨w10.heap.size, 0, none⟩ = some (.slice (some ⟨g, 0, none⟩) Ln cap10) := by rw [hW11]; simp [go_sem]
                have q2 : W11.cell? ⟨g, m, none⟩ = _ := (World.cell?_of_block (a := ⟨g, m, none⟩) (hkk g hgE hg)).trans hgc
                have q3 : W11.cell? ⟨W.heap.size, 0, none⟩ = _ := (World.cell?_of_block (a := ⟨W.heap.size, 0, none⟩) (hkk W.heap.size (by omega) hA10)).trans z0
                have q4 : W11.cell? ⟨w10.heap.size, 7, none⟩ = some (.int .i64 (lvn : Int)) := by rw [hW11]; simp [go_sem]
                have hQ6 : W11.cell? ⟨Eb, 0, none⟩ = some (.bool et) ∧ W11.cell? ⟨Eb, 1, none⟩ = some (.bool el) ∧ W11.cell? ⟨Eb, 2, none⟩ = some (.int .i64 er) ∧ W11.cell? ⟨Eb, 3, none⟩ = some (.bool true) ∧ W11.cell? ⟨Eb, 4, none⟩ = some (.bool true) ∧ W11.cell? ⟨Eb, 5, none⟩ = some (.int .i64 ef) := by
                  obtain ⟨r0, r1, r2, r3, r4, r5⟩ := E10
                  have nE10 : Eb ≠ w10.heap.size := by omega
                  rw [hW11]
                  simp [go_sem, r0, r1, r2, r3, r4, r5, hs10, nE10]
                obtain ⟨q5, q6, q7, q8, q9, q10⟩ := hQ6
                obtain ⟨e0, e1, e2, e3, e4, e5⟩ := E10
                have nE11 : Eb ≠ w10.heap.size := by omega
                have mE11 : w10.heap.size ≠ Eb := by omega
                have nA11 : W.heap.size ≠ w10.heap.size := by omega
                have nAE : W.heap.size ≠ Eb := by omega
                have mAE : Eb ≠ W.heap.size := by omega
                have hS11 : w10.heap.size < W11.heap.size := by rw [hW11]; simp
                have ng1 : g0 ≠ w10.heap.size := by omega
                have ng2 : g0 ≠ g := by
                  intro e
                  have := hg0w
                  omega
                have ng3 : g0 ≠ W.heap.size := by
                  intro e
                  have := hg0h
                  omega
                have ng4 : g0 ≠ bm := hm10.raw.n0
                clear P9 hkk hBut hBs hsz P10 hm10
                go_wp2_with fail
                rw [← hW11]
                clear hW11 e0 e1 e2 e3 e4 e5 z0 z1 z2 F10
                generalize w10.heap.size = WB at *
                generalize hA0e : W.heap.size = A0 at *
                have HIx2 := indexOf_any p (lvn : Int)
                rw [Pg.index_ix HBL.out hlv4, HIXX.out] at HIx2
                have ng1' : WB ≠ g0 := fun e => ng1 e.symm
                have ng2' : g ≠ g0 := fun e => ng2 e.symm
                have ng3' : A0 ≠ g0 := fun e => ng3 e.symm
                have ng4' : bm ≠ g0 := fun e => ng4 e.symm
                have ng5' : Eb ≠ g0 := fun e => hg0E e.symm
                have i0 : (0 : Int) ≤ (tn : Int) := by omega
                have i1 : (tn : Int) < (S.n : Int) := by omega
                have i2 : (0 : Int) ≤ (ixn : Int) := by omega
                have i3 : (ixn : Int) < 8 := by omega
                go_region_held3 (fun w' => w'.cell? ⟨bm, 0, none⟩ = some (.slice (some ⟨g0, 0, none⟩) S.n S.n) ∧ w'.cell? ⟨WB, 0, none⟩ = some (.slice (some ⟨g, 0, none⟩) Ln cap10) ∧ w'.cell? ⟨g, m, none⟩ = some (.int .i64 (tn : Int)) ∧ w'.cell? ⟨A0, 0, none⟩ = some (.int .i64 p) ∧ w'.cell? ⟨WB, 7, none⟩ = some (.int .i64 (lvn : Int)) ∧ w'.cell? ⟨Eb, 0, none⟩ = some (.bool et) ∧ w'.cell? ⟨Eb, 1, none⟩ = some (.bool el) ∧ w'.cell? ⟨Eb, 2, none⟩ = some (.int .i64 er) ∧ w'.cell? ⟨Eb, 3, none⟩ = some (.bool true) ∧ w'.cell? ⟨Eb, 4, none⟩ = some (.bool true) ∧ w'.cell? ⟨Eb, 5, none⟩ = some (.int .i64 ef)) (go_keep) (first
                  | (go_at_call 42; refine (HWo _).mono ?_; rintro en w13 ⟨rfl, hb13⟩; have HB78 : Hid _ := hb13; have P13 : Hid (Side w1 bf bm g0 g1 vb F5 (S.store (tn : Int) (ixn : Int) v) S w13) := (P11.out.grow HB12.out).grow hb13; have b0 := cell_later HB78.out a0; have b1 := cell_later HB78.out a1; have b2 := cell_later HB78.out a2; have b3 := cell_later HB78.out a3; have b4 := cell_later HB78.out a4; have b5 := cell_later HB78.out a5; have b6 := cell_later HB78.out a6; have b7 := cell_later HB78.out a7; have b8 := cell_later HB78.out a8; have b9 := cell_later HB78.out a9; have b10 := cell_later HB78.out a10; have gw := P13.out.mem.raw.cw tn ixn htn hixl; have gf := P13.out.mem.raw.f0; have gl := P13.out.mem.raw.l0; clear hb13)
                  | (go_at_call 43; refine (HIx2 _).mono ?_; rintro en w12 ⟨rfl, hb12⟩; have HB12 : Hid (Below W11.heap.size W11 w12) := (by first | exact bthen (brefl W11).drew hb12 | exact hb12); have a0 := cell_later HB12.out q0; have a1 := cell_later HB12.out q1; have a2 := cell_later HB12.out q2; have a3 := cell_later HB12.out q3; have a4 := cell_later HB12.out q4; have a5 := cell_later HB12.out q5; have a6 := cell_later HB12.out q6; have a7 := cell_later HB12.out q7; have a8 := cell_later HB12.out q8; have a9 := cell_later HB12.out q9; have a10 := cell_later HB12.out q10; clear hb12))
                go_wp2_with fail
                have P14 : Hid (Side w1 bf bm g0 g1 vb F5 (S.store (tn : Int) (ixn : Int) v) (S.store (tn : Int) (ixn : Int) v) (w13.setCell ⟨g0, tn * 8 + ixn, none⟩ (.int .u64 v))) := by
                  have e3 : S.store (tn : Int) (ixn : Int) v = { S with word := Pg.Fs.put S.word tn ixn v } := by simp [Pg.Fs.store, HAt.out]
                  have ok' := P13.out.mem.ok.store (tn : Int) (ixn : Int) hv.1 hv.2
                  have hp := P13.out.mem.raw.put htn hixl v
                  have hB : But (memF bm g0 g1 vb) w13 (w13.setCell ⟨g0, tn * 8 + ixn, none⟩ (.int .u64 v)) := (But.refl _ w13).setCell (a := ⟨g0, tn * 8 + ixn, none⟩) (.inr (.inr (.inl rfl))) _
                  refine P13.out.stepM ⟨?_, ok'⟩ hB rfl
                  rw [e3]
                  exact hp
                subst hA0e
                have HSW := sameWords_any P14.out
                refine HSW.mono ?_
                rintro e w15 ⟨rfl, hb15⟩
                have HF : Hid (Below W.heap.size W w15) := HB2.out.trans ((bthen P14.out.bel hb15).mono HB2.out.size)
                clear hb15 HSW
                go_wp2_with fail
                go_ret
                exact ⟨rfl, HF.out⟩
            · skip
              obtain ⟨hfc, ha, hf, hr, hne, _⟩ := hE
              have es := hne hrb
              rw [es] at P6

              generalize hmm : Pg.tFM S 0 p = mm at *
              generalize hee : Pg.tFE S 0 p = ee at *
              obtain ⟨mp, ms, mf, mr⟩ := mm
              obtain ⟨et, el, er, eu, ed, ef⟩ := ee
              simp only at ha hf hr
              have HAn := fun W' => answerOf_any mp ms mf mr p k u W'
              rw [← ha, ← hf, ← hr] at HAn
              clear ha hf hr

              have HFi := findIn_any 0 p W6 P6.out.side.mem
              rw [hfc, hmm, hee] at HFi
              simp only [Pg.Mp.val, Pg.En.val] at HFi
              clear hmm hfc
              clear HEN P5
              go_wp2_with fail
              rw [← hW6]
              clear hW6 z0 z1 z2
              generalize w5.heap.size = RB at *
              refine HFi.mono ?_
              rintro e w7 ⟨rfl, hb7⟩
              have P7 : Hid _ := P6.out.grow hb7
              have R7 : Hid (w7.heap[RB]? = _) := (hb7.block _ hl6).trans R6.out
              have hR7 : RB < w7.heap.size := (Array.getElem?_eq_some_iff.1 R7.out).1
              obtain ⟨z0, z1, z2⟩ := later3 (hb := P7.out.side.bel.mono (Nat.le_refl _)) HA2.out
              have hA7 : W.heap.size < w7.heap.size := World.block_lt_of_cell? _ _ z0
              have hw17 : w1.heap.size ≤ w7.heap.size := P7.out.side.bel.size
              clear hb7 HFi P6 R6 hl6 hA6

              obtain ⟨W8, hW8⟩ : ∃ W8, W8 = (w7.alloc (.cells #[.int .i64 mp, .int .i64 ms, .int .i64 mf, .int .i64 mr] 34)).alloc (.cells #[.bool et, .bool el, .int .i64 er, .bool eu, .bool ed, .int .i64 ef] 87) := ⟨_, rfl⟩
              have hb8 : Below w7.heap.size w7 W8 := by rw [hW8]; exact balloc (balloc (brefl _) _) _
              have P8 : Hid _ := P7.out.grow hb8
              have R8 : Hid (W8.heap[RB]? = _) := (hb8.block _ hR7).trans R7.out
              have M8 : Hid (W8.cell? ⟨w7.heap.size, 0, none⟩ = some (.int .i64 mp) ∧ W8.cell? ⟨w7.heap.size, 1, none⟩ = some (.int .i64 ms) ∧ W8.cell? ⟨w7.heap.size, 2, none⟩ = some (.int .i64 mf) ∧ W8.cell? ⟨w7.heap.size, 3, none⟩ = some (.int .i64 mr)) := by rw [Hid, hW8]; simp [go_sem]
              have E8 : Hid (W8.cell? ⟨w7.heap.size + 1, 0, none⟩ = some (.bool et) ∧ W8.cell? ⟨w7.heap.size + 1, 1, none⟩ = some (.bool el) ∧ W8.cell? ⟨w7.heap.size + 1, 2, none⟩ = some (.int .i64 er) ∧ W8.cell? ⟨w7.heap.size + 1, 3, none⟩ = some (.bool eu) ∧ W8.cell? ⟨w7.heap.size + 1, 4, none⟩ = some (.bool ed) ∧ W8.cell? ⟨w7.heap.size + 1, 5, none⟩ = some (.int .i64 ef)) := by rw [Hid, hW8]; simp [go_sem]
              have F8 : Hid (∀ i, W8.frozen? ⟨w7.heap.size + 1, i, none⟩ = false) := fun i => by rw [hW8]; simp [go_sem]
              have hs8 : W8.heap.size = w7.heap.size + 1 + 1 := by rw [hW8]; simp

              go_wp2_with fail
              rw [← hW8]
              clear hW8
              have hRa := row9 R8.out
              obtain ⟨⟨x0, x1, x2, x3, x4, x5, x6, x7, x8⟩, xf⟩ := hRa
              have q0 := cell_regrown x1
              have q1 := cell_regrown x2
              have q2 := cell_regrown x3
              have q3 := cell_regrown M8.out.1
              have q4 := cell_regrown M8.out.2.1
              have q5 := cell_regrown M8.out.2.2.1
              have q6 := cell_regrown M8.out.2.2.2
              clear z0 z1 z2
              obtain ⟨z0, z1, z2⟩ := later3 (hb := P8.out.side.bel.mono (Nat.le_refl _)) HA2.out
              have q7 := cell_regrown z0
              have q8 := cell_regrown z1
              have q9 := cell_regrown z2
              clear z0 z1 z2 x0 x1 x2 x3 x4 x5 x6 x7 x8 xf
              refine wp_region_quiet_below (by kernel_rfl) (by kernel_rfl) ?_
              repeat (first
                | go_big_quiet_step ((go_at_call 41; exact Calls.regrown_of (HAn _))))
              refine wpQuiet_nil ?_
              intro _ hw'
              obtain ⟨⟨dq, osq⟩, rfl⟩ := hw'
              have hb9 := below_regrown W8 dq osq
              have P9 : Hid _ := P8.out.grow hb9
              have R9 : Hid ((grow (redrawn W8 dq) osq).heap[RB]? = _) := (hb9.block _ (by omega)).trans R8.out
              have E9 : Hid _ := later6 hb9 E8.out
              have F9 : Hid (∀ i, (grow (redrawn W8 dq) osq).frozen? ⟨w7.heap.size + 1, i, none⟩ = false) := fun i => (hb9.frozen (p := ⟨w7.heap.size + 1, i, none⟩) (show w7.heap.size + 1 < W8.heap.size by omega)).trans (F8.out i)
              have hs9 : w7.heap.size + 1 < (grow (redrawn W8 dq) osq).heap.size := by have := hb9.size; omega
              clear hb9 q0 q1 q2 q3 q4 q5 q6 q7 q8 q9 HAn P8 R8 E8 M8 F8 P7 R7 hs8
              generalize grow (redrawn W8 dq) osq = w9 at *
              generalize hEe : w7.heap.size + 1 = Eb at *
              have hEw : w1.heap.size < Eb ∧ W.heap.size < Eb ∧ RB < Eb := ⟨by omega, by omega, by omega⟩
              clear hEe
              obtain ⟨⟨x0, x1, x2, x3, x4, x5, x6, x7, x8⟩, xf⟩ := row9 R9.out

              have hrb0 : (rb == 0) = false := by simpa using hrb
              have HSW := sameWords_any P9.out.side
              go_wp2_with fail
              refine HSW.mono ?_
              rintro e w10 ⟨rfl, hb10⟩
              have HF : Hid (Below W.heap.size W w10) := HB2.out.trans ((bthen P9.out.side.bel hb10).mono HB2.out.size)
              clear hb10 HSW
              go_wp2_with fail
              go_ret
              exact ⟨rfl, HF.out⟩
      · skip
        have hcn : (c3 != 0) = true := by simpa using hc3
        obtain ⟨es, ef⟩ := HEN.out.1 hc3
        rw [es] at P6
        have HWy := wayTo_any 0 p W6 P6.out.side.mem
        rw [ef] at HWy
        clear HEN P5 es ef hc3 hA6
        have hcc : (c3 == c3) = true := by simp
        go_wp2_with fail
        rw [← hW6]
        refine HWy.mono ?_
        rintro e w7 ⟨⟨ad7, cap7, rfl, _⟩, hb7, _⟩
        have P7 : Hid _ := P6.out.grow hb7
        clear hb7 HWy P6
        unfold wayV
        have P8 : Hid _ := P7.out.grow (balloc (brefl w7) (.cells #[.slice ad7 (fndX S 0 p).length cap7, .bool (lastE (fndX S 0 p)).t, .bool (lastE (fndX S 0 p)).l, .int .i64 (lastE (fndX S 0 p)).r, .bool (lastE (fndX S 0 p)).u, .bool (lastE (fndX S 0 p)).d, .int .i64 (lastE (fndX S 0 p)).f, .int .i64 (lastL (fndX S 0 p))] 89))
        have HSW := sameWords_any P8.out.side
        go_wp2_with fail
        refine HSW.mono ?_
        rintro e w9 ⟨rfl, hb9⟩
        have HF : Hid (Below W.heap.size W w9) := HB2.out.trans ((bthen P8.out.side.bel hb9).mono HB2.out.size)
        clear hb9 HSW
        go_wp2_with fail
        go_ret
        exact ⟨rfl, HF.out⟩
  · have e2 : bgnC Pg.Wk.off p k = Pg.checkAccess p k := by simp [bgnC, hc]
    have hcn : (Pg.checkAccess p k != 0) = true := by simpa using hc
    rw [e2] at HBg
    generalize Pg.checkAccess p k = cc at *
    clear hc e2
    go_wp2_with fail
    refine HBg.mono ?_
    rintro e w9 ⟨rfl, hk9, hc9⟩
    have HB28 : Hid (Below W.heap.size W w9) := HB2.out.trans ((P3.out.leftK hk9 hc9.but).side.bel.mono HB2.out.size)
    clear hk9 hc9 HBg P3 z0 z1 z2
    go_wp2_with fail
    go_ret
    exact ⟨rfl, HB28.out⟩

set_option maxRecDepth 100000 in
theorem walkerEnds_lifted (os : Os) (started : os.Started) (H : Type) (enc : TypeId × Value → H) :
    ReturnsInHanded {} Try.checked os 7 .any (Rows.walkerEndsSpec.pre6 enc Try.prog Try.f7 Rows.walkerEndsRow.domain false) (Rows.walkerEndsSpec.post enc Try.prog Try.f7 false true false false) := by
  refine returnsInHanded_of_change (C := Try.checked) own started (by kernel_rfl) Try.func7
    (ChangeSpec.witness6 (enc := enc) (C := Try.checked) false ⟨#[], #[.int .i64 0, .slice none 0 0, .agg #[.int .i64 0, .int .i64 0, .bool false]], []⟩ 8 (by kernel_rfl) (by kernel_rfl) (by kernel_rfl) (by kernel_rfl)) ?_
  intro W base args ds gs before hval0 hW hcnd _
  have hval : ∀ (j : Nat) t v, Try.f7.params[j]? = some t → args[j]? = some v → Value.okWide Try.prog W .any base t v := hval0
  have hW' := hW
  obtain ⟨p, q, hA0, hV, rfl, hfz, hnd⟩ := hW
  have hA : DataW.TrodAll enc Try.prog W 0 (fun _ => true) true Try.f7.params.toList args.toList ds p := hA0
  rw [Try.params7] at hA hval
  obtain ⟨v0, vs0, d0, ds0, p0, q0, hargs, rfl, rfl, h0, r0⟩ := trodAll_cons hA
  obtain ⟨v1, vs1, d1, ds1, p1, q1, rfl, rfl, rfl, h1, r1⟩ := trodAll_cons r0
  obtain ⟨v2, vs2, d2, ds2, p2, q2, rfl, rfl, rfl, h2, r2⟩ := trodAll_cons r1
  obtain ⟨rfl, rfl, rfl⟩ := trodAll_nil r2
  obtain rfl : args = #[v0, v1, v2] := by cases args; simp_all
  obtain ⟨rfl, rfl⟩ := trodVars_none hV
  obtain ⟨a0a, rfl, f0a⟩ := openInt (hval 0 3 v0 rfl rfl) h0
  obtain ⟨a1a, a1b, a1c, a1d, rfl, f1a⟩ := openWords (hval 1 53 v1 rfl rfl) h1
  obtain ⟨a2a, a2b, a2c, rfl, f2a, f2b⟩ := openAccess (hval 2 29 v2 rfl rfl) h2
  clear hA0 hval0
  refine (walkerEnds_walk W a0a f0a a1a a1b a1c a1d f1a a2a a2b a2c f2a f2b).mono fun e W' ⟨he, bel⟩ => ?_
  subst he
  exact ⟨_, rfl, _, _, _, [], _, [], hW', trodAll_mk1 (shut_bool Try.underlying4 _), (trodAll_cons_mk (stays (by kernel_rfl) (of_decide_eq_true (by kernel_rfl)) h0 bel) (trodAll_cons_mk (stays (by kernel_rfl) (of_decide_eq_true (by kernel_rfl)) h1 bel) (trodAll_cons_mk (stays (by kernel_rfl) (of_decide_eq_true (by kernel_rfl)) h2 bel) trodAll_mk0))), rfl, bel.frame _, fun h => by cases h⟩

theorem walkerEnds_over : Rows.walkerEndsRow.holds Try.pinned (OpenSpec.ofChange Rows.walkerEndsSpec) :=
  OpenClaim.holds_of_wide 7 Try.f7 rfl rfl rfl rfl rfl rfl rfl ⟨rfl, rfl, rfl, rfl, rfl⟩ rfl rfl rfl rfl rfl (by kernel_rfl) Try.func7 (by kernel_rfl)
    (of_decide_eq_true (by kernel_rfl)) (by unfold Func.isWrapper; first | (rw [if_pos (by decide +kernel)]; kernel_rfl) | (rw [if_neg (by decide +kernel)]; exact ⟨rfl, rfl⟩))
    (fun os started H enc _ => walkerEnds_lifted os started H enc)

theorem walkerEnds_proved : Rows.WalkerEndsSaid := walkerEnds_over
#print axioms walkerEnds_proved
end Go.Proofs.Ytkcmlmofcjdgoad
