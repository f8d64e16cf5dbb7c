
/-
  Encode and Decode of package entry return what plain functions of their arguments say, and leave all memory that was there as it was.
-/
import Derived.Test.YtbkpndgadgafiacEntryStand
namespace Go.Proofs.Ytbkpndgadgafiac
open Go.RowKit Go.Sort
set_option linter.unusedVariables false

theorem encodeLook_any (t l : Bool) (r : Int) (u d : Bool) (f lv : Int) (a b c : Nat) (w : World)
    (ha : w.cell? ⟨a, 0, none⟩ = some (.bool t) ∧ w.cell? ⟨a, 1, none⟩ = some (.bool l) ∧ w.cell? ⟨a, 2, none⟩ = some (.int .i64 r) ∧ w.cell? ⟨a, 3, none⟩ = some (.bool u) ∧ w.cell? ⟨a, 4, none⟩ = some (.bool d) ∧ w.cell? ⟨a, 5, none⟩ = some (.int .i64 f))
    (hb : w.cell? ⟨b, 0, none⟩ = some (.int .i64 lv)) (hc : w.cell? ⟨c, 0, none⟩ = some (.int .u64 0)) (hz : w.frozen? ⟨c, 0, none⟩ = false) :
    Calls Try.prog 102 #[.pointer (some ⟨a, 0, none⟩), .pointer (some ⟨b, 0, none⟩), .pointer (some ⟨c, 0, none⟩)] w fun e w' =>
      e = give (Pg.eFault t l r u d f lv) ∧ Below c w w' ∧ w'.cell? ⟨c, 0, none⟩ = some (.int .u64 (Pg.enc t l r u d f lv)) ∧
      ∀ k, k ≠ c → k < w.heap.size → w'.cell? ⟨k, 0, none⟩ = w.cell? ⟨k, 0, none⟩ ∧ w'.frozen? ⟨k, 0, none⟩ = w.frozen? ⟨k, 0, none⟩ := by
  have hlt : c < w.heap.size := World.block_lt_of_cell? _ _ hc
  have HLT : Hid _ := hlt
  obtain ⟨a0, a1, a2, a3, a4, a5⟩ := ha
  clear hlt
  go_enter Try.func102, Try.ntmps102
  go_wp2_with fail
  refine (mustStand_any _ _ _ _ _ _ _ _).mono ?_
  rintro e w1 ⟨rfl, hb1⟩
  by_cases h0 : Pg.eFault t l r u d f lv = 0
  · have HE : Hid (Pg.enc t l r u d f lv = Pg.eWord t l r u d f lv) := Pg.enc_zero h0
    have HW := written_any t l r u d f lv h0
    rw [h0, give_zero]
    have HG : Hid _ := h0
    clear h0
    have a0' := cell_later hb1 a0
    have a1' := cell_later hb1 a1
    have a2' := cell_later hb1 a2
    have a3' := cell_later hb1 a3
    have a4' := cell_later hb1 a4
    have a5' := cell_later hb1 a5
    have b' := cell_later hb1 hb
    go_wp2_with fail
    refine (HW _).mono ?_
    rintro e w2 ⟨rfl, hb2⟩
    have hB := bthen hb1 hb2
    have c' := cell_later hB hc
    have z' := frozen_later hB hc hz
    go_wp2_with fail
    go_end0
    refine ⟨by rw [HG.out, give_zero], (hB.mono (Nat.le_of_lt HLT.out)).setCell (Nat.le_refl c) _, ?_, ?_⟩
    · rw [HE.out]
      exact World.cell?_setCell_same _ _ _ c'
    · intro k hk hkl
      have e1 : ∀ v, (w2.setCell ⟨c, 0, none⟩ v).frozen? ⟨k, 0, none⟩ = w2.frozen? ⟨k, 0, none⟩ := fun v => by simp [go_sem]
      have e2 : ∀ v, (w2.setCell ⟨c, 0, none⟩ v).cell? ⟨k, 0, none⟩ = w2.cell? ⟨k, 0, none⟩ := fun v => World.cell?_setCell_other _ _ _ _ (fun e => hk (by cases e; rfl))
      exact ⟨(e2 _).trans (hB.cell hkl), (e1 _).trans (hB.frozen hkl)⟩
  · rw [give_code h0]
    go_wp2_with fail
    refine ⟨rfl, (give_code h0).symm, hb1.mono (Nat.le_of_lt HLT.out), ?_, ?_⟩
    · rw [Pg.enc, if_neg h0]
      exact cell_later hb1 hc
    · intro k hk hkl
      exact ⟨hb1.cell hkl, hb1.frozen hkl⟩

theorem encode_any (t l : Bool) (r : Int) (u d : Bool) (f lv : Int) (w : World) :
    Calls Try.prog 88 #[.agg #[.bool t, .bool l, .int .i64 r, .bool u, .bool d, .int .i64 f], .int .i64 lv] w fun e w' => e = .returned (.tuple #[.int .u64 (Pg.enc t l r u d f lv), .int .i64 (Pg.eFault t l r u d f lv)]) ∧ Below w.heap.size w w' := by
  have hmf : ∀ (fn : Fn) (first cap : Array Value) (w : World), (Instr.makeFunc fn first cap).run Try.prog w = .ok (.func fn first cap) w := fun _ _ _ _ => rfl
  go_enter Try.func88, Try.ntmps88
  go_wp2_with fail
  refine (caught_any 102 _ (Pg.eFault t l r u d f lv) (fun w' => Below w.heap.size w w' ∧ w'.cell? ⟨w.heap.size + 1 + 1, 0, none⟩ = some (.int .u64 (Pg.enc t l r u d f lv))) _ ?_ ?_).mono ?_
  · intro w
    simp [go_sem]
  · refine (encodeLook_any t l r u d f lv w.heap.size (w.heap.size + 1) (w.heap.size + 1 + 1) _ ?_ ?_ ?_ ?_).mono ?_
    · simp [go_sem]
    · simp [go_sem]
    · simp [go_sem]
    · simp [go_sem]
    · rintro e w1 ⟨rfl, hb1, hc1, hk⟩
      obtain ⟨k1, k2⟩ := hk (w.heap.size + 1 + 1 + 1) (by omega) (by simp)
      refine ⟨rfl, ⟨?_, hc1⟩, ?_, ?_⟩
      · exact (balloc (balloc (balloc (balloc (brefl w) _) _) _) _).trans (hb1.mono (by omega))
      · have : ((((w.alloc (.cells #[.bool t, .bool l, .int .i64 r, .bool u, .bool d, .int .i64 f] 29)).alloc (.cells #[.int .i64 lv] 3)).alloc (.cells #[.int .u64 0] 85)).heap.size) = w.heap.size + 1 + 1 + 1 := by simp
        rw [this, k1]
        simp [go_sem]
      · have : ((((w.alloc (.cells #[.bool t, .bool l, .int .i64 r, .bool u, .bool d, .int .i64 f] 29)).alloc (.cells #[.int .i64 lv] 3)).alloc (.cells #[.int .u64 0] 85)).heap.size) = w.heap.size + 1 + 1 + 1 := by simp
        rw [this, k2]
        simp [go_sem]
  · rintro e w2 ⟨rfl, w1, ⟨hb1, hc1⟩, hb2⟩
    have hc2 : w2.cell? ⟨w.heap.size + 1 + 1, 0, none⟩ = some (.int .u64 (Pg.enc t l r u d f lv)) := (hb2.cell (p := ⟨w.heap.size + 1 + 1, 0, none⟩) (by simp)).trans hc1
    have HB : Hid (Below w.heap.size w w2) := hb1.trans (hb2.mono (by simp; omega))
    clear hb1 hb2 hc1
    go_wp2_with fail
    go_ret2
    exact ⟨rfl, HB.out⟩

theorem stored6k {w : World} {c : Nat} {u0 u1 u2 u3 u4 u5 v0 v1 v2 v3 v4 v5 : Value} (h : w.cell? ⟨c, 0, none⟩ = some u0 ∧ w.cell? ⟨c, 1, none⟩ = some u1 ∧ w.cell? ⟨c, 2, none⟩ = some u2 ∧ w.cell? ⟨c, 3, none⟩ = some u3 ∧ w.cell? ⟨c, 4, none⟩ = some u4 ∧ w.cell? ⟨c, 5, none⟩ = some u5) :
    (((((((w.setCell ⟨c, 0, none⟩ v0).setCell ⟨c, 1, none⟩ v1).setCell ⟨c, 2, none⟩ v2).setCell ⟨c, 3, none⟩ v3).setCell ⟨c, 4, none⟩ v4).setCell ⟨c, 5, none⟩ v5).cell? ⟨c, 0, none⟩ = some v0 ∧ ((((((w.setCell ⟨c, 0, none⟩ v0).setCell ⟨c, 1, none⟩ v1).setCell ⟨c, 2, none⟩ v2).setCell ⟨c, 3, none⟩ v3).setCell ⟨c, 4, none⟩ v4).setCell ⟨c, 5, none⟩ v5).cell? ⟨c, 1, none⟩ = some v1 ∧ ((((((w.setCell ⟨c, 0, none⟩ v0).setCell ⟨c, 1, none⟩ v1).setCell ⟨c, 2, none⟩ v2).setCell ⟨c, 3, none⟩ v3).setCell ⟨c, 4, none⟩ v4).setCell ⟨c, 5, none⟩ v5).cell? ⟨c, 2, none⟩ = some v2 ∧ ((((((w.setCell ⟨c, 0, none⟩ v0).setCell ⟨c, 1, none⟩ v1).setCell ⟨c, 2, none⟩ v2).setCell ⟨c, 3, none⟩ v3).setCell ⟨c, 4, none⟩ v4).setCell ⟨c, 5, none⟩ v5).cell? ⟨c, 3, none⟩ = some v3 ∧ ((((((w.setCell ⟨c, 0, none⟩ v0).setCell ⟨c, 1, none⟩ v1).setCell ⟨c, 2, none⟩ v2).setCell ⟨c, 3, none⟩ v3).setCell ⟨c, 4, none⟩ v4).setCell ⟨c, 5, none⟩ v5).cell? ⟨c, 4, none⟩ = some v4 ∧ ((((((w.setCell ⟨c, 0, none⟩ v0).setCell ⟨c, 1, none⟩ v1).setCell ⟨c, 2, none⟩ v2).setCell ⟨c, 3, none⟩ v3).setCell ⟨c, 4, none⟩ v4).setCell ⟨c, 5, none⟩ v5).cell? ⟨c, 5, none⟩ = some v5) ∧
    (∀ k, k ≠ c → ((((((w.setCell ⟨c, 0, none⟩ v0).setCell ⟨c, 1, none⟩ v1).setCell ⟨c, 2, none⟩ v2).setCell ⟨c, 3, none⟩ v3).setCell ⟨c, 4, none⟩ v4).setCell ⟨c, 5, none⟩ v5).cell? ⟨k, 0, none⟩ = w.cell? ⟨k, 0, none⟩) ∧
    (∀ k, ((((((w.setCell ⟨c, 0, none⟩ v0).setCell ⟨c, 1, none⟩ v1).setCell ⟨c, 2, none⟩ v2).setCell ⟨c, 3, none⟩ v3).setCell ⟨c, 4, none⟩ v4).setCell ⟨c, 5, none⟩ v5).frozen? ⟨k, 0, none⟩ = w.frozen? ⟨k, 0, none⟩) := by
  refine ⟨by simp [go_sem, h], fun k hk => ?_, fun k => by simp [go_sem]⟩
  have hn : ∀ o, (⟨c, o, none⟩ : Addr) ≠ ⟨k, 0, none⟩ := fun o e => hk (by cases e; rfl)
  rw [World.cell?_setCell_other _ _ _ _ (hn _), World.cell?_setCell_other _ _ _ _ (hn _), World.cell?_setCell_other _ _ _ _ (hn _), World.cell?_setCell_other _ _ _ _ (hn _), World.cell?_setCell_other _ _ _ _ (hn _), World.cell?_setCell_other _ _ _ _ (hn _)]

theorem decodeLook_any (W lv : Int) (h0 : 0 ≤ W) (h1 : W < 18446744073709551616) (a b c : Nat) (w : World)
    (ha : w.cell? ⟨a, 0, none⟩ = some (.int .u64 W)) (hb : w.cell? ⟨b, 0, none⟩ = some (.int .i64 lv))
    (hc : w.cell? ⟨c, 0, none⟩ = some (.bool false) ∧ w.cell? ⟨c, 1, none⟩ = some (.bool false) ∧ w.cell? ⟨c, 2, none⟩ = some (.int .i64 0) ∧ w.cell? ⟨c, 3, none⟩ = some (.bool false) ∧ w.cell? ⟨c, 4, none⟩ = some (.bool false) ∧ w.cell? ⟨c, 5, none⟩ = some (.int .i64 0))
    (hz : ∀ o, w.frozen? ⟨c, o, none⟩ = false) :
    Calls Try.prog 117 #[.pointer (some ⟨a, 0, none⟩), .pointer (some ⟨b, 0, none⟩), .pointer (some ⟨c, 0, none⟩)] w fun e w' =>
      e = give (Pg.dCode W lv) ∧ Below c w w' ∧ (w'.cell? ⟨c, 0, none⟩ = some (.bool (Pg.dGood W lv)) ∧ w'.cell? ⟨c, 1, none⟩ = some (.bool (Pg.xL W lv)) ∧ w'.cell? ⟨c, 2, none⟩ = some (.int .i64 (Pg.xR W lv)) ∧ w'.cell? ⟨c, 3, none⟩ = some (.bool (Pg.xU W lv)) ∧ w'.cell? ⟨c, 4, none⟩ = some (.bool (Pg.xD W lv)) ∧ w'.cell? ⟨c, 5, none⟩ = some (.int .i64 (Pg.xF W lv))) ∧
      ∀ k, k ≠ c → k < w.heap.size → w'.cell? ⟨k, 0, none⟩ = w.cell? ⟨k, 0, none⟩ ∧ w'.frozen? ⟨k, 0, none⟩ = w.frozen? ⟨k, 0, none⟩ := by
  have hlt : c < w.heap.size := World.block_lt_of_cell? _ _ hc.1
  have HLT : Hid _ := hlt
  clear hlt
  have HM := mustBeWord_any W lv h0 h1
  by_cases hm : (if lv < 0 ∨ 3 < lv then (1 : Int) else if Pg.wBad W lv = true then 7 else 0) = 0
  · rw [hm, give_zero] at HM
    have hl : ¬ (lv < 0 ∨ 3 < lv) := by
      intro h
      rw [if_pos h] at hm
      exact absurd hm (by decide)
    rw [if_neg hl] at hm
    have hw : Pg.wBad W lv = false := by
      cases h : Pg.wBad W lv
      · rfl
      · rw [h] at hm; exact absurd hm (by decide)
    clear hm
    by_cases hz0 : W = 0
    · subst hz0
      have hd : Pg.dCode 0 lv = 0 := by simp [Pg.dCode, hl, hw]
      have hg : Pg.dGood 0 lv = false := by simp [Pg.dGood]
      have HF : Hid (Pg.eFault false false 0 false false 0 lv = 0) := Pg.fault_none (by omega) (by omega)
      have HX : Hid (Pg.dGood 0 lv = false ∧ Pg.xL 0 lv = false ∧ Pg.xR 0 lv = 0 ∧ Pg.xU 0 lv = false ∧ Pg.xD 0 lv = false ∧ Pg.xF 0 lv = 0) := by
        show _ ∧ _
        simp [Pg.xL, Pg.xR, Pg.xU, Pg.xD, Pg.xF, hg]
      have HD : Hid (Pg.dCode 0 lv = 0) := hd
      clear hd hg hl hw
      go_enter Try.func117, Try.ntmps117
      go_wp2_with fail
      refine (HM _).mono ?_
      rintro e w1 ⟨rfl, rfl⟩
      go_wp2_with fail
      refine (read_none _ _).mono ?_
      rintro e w2 ⟨rfl, hb2⟩
      have b2 : ∀ o, (w2.alloc o).cell? ⟨b, 0, none⟩ = some (.int .i64 lv) := fun o => cell_later (balloc hb2 o) hb
      have cc2 := later6 hb2 hc
      go_wp2_with fail
      refine (mustStand_any _ _ _ _ _ _ _ _).mono ?_
      rintro e w3 ⟨rfl, hb3⟩
      have hB3 := bthen (balloc hb2 _) hb3
      obtain ⟨hc3, hf3⟩ := bcell hb3
      obtain ⟨c0, c1, c2, c3, c4, c5⟩ := later6 hB3 hc
      have z3 : ∀ o, w3.frozen? ⟨c, o, none⟩ = false := fun o => (hB3.frozen (p := ⟨c, o, none⟩) HLT.out).trans (hz o)
      rw [HF.out, give_zero]
      go_wp2_with fail
      go_end0
      obtain ⟨s1, s2, s3⟩ := stored6k (v0 := .bool false) (v1 := .bool false) (v2 := .int .i64 0) (v3 := .bool false) (v4 := .bool false) (v5 := .int .i64 0) ⟨c0, c1, c2, c3, c4, c5⟩
      obtain ⟨x0, x1, x2, x3, x4, x5⟩ := HX.out
      rw [HD.out, x0, x1, x2, x3, x4, x5]
      refine ⟨rfl, ((((((hB3.mono (Nat.le_of_lt HLT.out)).setCell (Nat.le_refl c) _).setCell (Nat.le_refl c) _).setCell (Nat.le_refl c) _).setCell (Nat.le_refl c) _).setCell (Nat.le_refl c) _).setCell (Nat.le_refl c) _, s1, ?_⟩
      intro k hk hkl
      exact ⟨(s2 k hk).trans (hB3.cell hkl), (s3 k).trans (hB3.frozen hkl)⟩
    · have hw' : W % 2 = 1 ∧ W < 4294967296 := by
        simp only [Pg.wBad, decide_eq_false_iff_not] at hw
        omega
      have HD : Hid (Pg.dCode W lv = Pg.eFault true (Pg.dLeaf W lv) (W / 2 % 8) (Pg.dUsed W) (Pg.dDirty W) (W / 4096) lv) := by
        show Pg.dCode W lv = _
        rw [Pg.dCode, if_neg hl, if_neg (by rw [hw]; decide), if_neg hz0]
      have HZ : Hid (W ≠ 0) := hz0
      have HR := read_any W lv h0 hw'.2 hw'.1
      clear hl hw hw' hz0
      go_enter Try.func117, Try.ntmps117
      go_wp2_with fail
      refine (HM _).mono ?_
      rintro e w1 ⟨rfl, rfl⟩
      go_wp2_with fail
      refine (HR _).mono ?_
      rintro e w2 ⟨rfl, hb2⟩
      have b2 : ∀ o, (w2.alloc o).cell? ⟨b, 0, none⟩ = some (.int .i64 lv) := fun o => cell_later (balloc hb2 o) hb
      have cc2 := later6 hb2 hc
      go_wp2_with fail
      refine (mustStand_any _ _ _ _ _ _ _ _).mono ?_
      rintro e w3 ⟨rfl, hb3⟩
      have hB3 := bthen (balloc hb2 _) hb3
      obtain ⟨hc3, hf3⟩ := bcell hb3
      obtain ⟨c0, c1, c2, c3, c4, c5⟩ := later6 hB3 hc
      have z3 : ∀ o, w3.frozen? ⟨c, o, none⟩ = false := fun o => (hB3.frozen (p := ⟨c, o, none⟩) HLT.out).trans (hz o)
      rw [← HD.out]
      by_cases hd : Pg.dCode W lv = 0
      · have hg : Pg.dGood W lv = true := by simp [Pg.dGood, hd, HZ.out]
        have HX : Hid (Pg.dGood W lv = true ∧ Pg.xL W lv = Pg.dLeaf W lv ∧ Pg.xR W lv = W / 2 % 8 ∧ Pg.xU W lv = Pg.dUsed W ∧ Pg.xD W lv = Pg.dDirty W ∧ Pg.xF W lv = W / 4096) := by
          show _ ∧ _
          simp [Pg.xL, Pg.xR, Pg.xU, Pg.xD, Pg.xF, hg]
        rw [hd, give_zero]
        have HD0 : Hid _ := hd
        clear hd hg
        go_wp2_with fail
        go_end0
        obtain ⟨s1, s2, s3⟩ := stored6k (v0 := .bool true) (v1 := .bool (Pg.dLeaf W lv)) (v2 := .int .i64 (W / 2 % 8)) (v3 := .bool (Pg.dUsed W)) (v4 := .bool (Pg.dDirty W)) (v5 := .int .i64 (W / 4096)) ⟨c0, c1, c2, c3, c4, c5⟩
        obtain ⟨x0, x1, x2, x3, x4, x5⟩ := HX.out
        rw [HD0.out, x0, x1, x2, x3, x4, x5]
        refine ⟨rfl, ((((((hB3.mono (Nat.le_of_lt HLT.out)).setCell (Nat.le_refl c) _).setCell (Nat.le_refl c) _).setCell (Nat.le_refl c) _).setCell (Nat.le_refl c) _).setCell (Nat.le_refl c) _).setCell (Nat.le_refl c) _, s1, ?_⟩
        intro k hk hkl
        exact ⟨(s2 k hk).trans (hB3.cell hkl), (s3 k).trans (hB3.frozen hkl)⟩
      · have hg : Pg.dGood W lv = false := by simp [Pg.dGood, hd]
        rw [give_code hd]
        go_wp2_with fail
        refine ⟨rfl, (give_code hd).symm, hB3.mono (Nat.le_of_lt HLT.out), ?_, fun k _ hkl => ⟨hB3.cell hkl, hB3.frozen hkl⟩⟩
        simp [Pg.xL, Pg.xR, Pg.xU, Pg.xD, Pg.xF, hg, c0, c1, c2, c3, c4, c5]
  · have HC : Hid (Pg.dCode W lv = if lv < 0 ∨ 3 < lv then (1 : Int) else if Pg.wBad W lv = true then 7 else 0) := by
      show Pg.dCode W lv = _
      unfold Pg.dCode
      split
      · rfl
      · rename_i hl
        rw [if_neg hl] at hm
        split
        · rfl
        · rename_i hb
          rw [if_neg hb] at hm
          exact absurd rfl hm
    generalize (if lv < 0 ∨ 3 < lv then (1 : Int) else if Pg.wBad W lv = true then 7 else 0) = g at hm HM HC
    go_enter Try.func117, Try.ntmps117
    go_wp2_with fail
    refine (HM _).mono ?_
    rintro e w1 ⟨rfl, rfl⟩
    have hg : Pg.dGood W lv = false := by simp [Pg.dGood, HC.out, hm]
    rw [give_code hm]
    go_wp2_with fail
    refine ⟨rfl, by rw [HC.out, give_code hm], Below.refl _ _, ?_, fun k _ _ => ⟨rfl, rfl⟩⟩
    simpa [Pg.xL, Pg.xR, Pg.xU, Pg.xD, Pg.xF, hg] using hc

theorem decode_any (W lv : Int) (h0 : 0 ≤ W) (h1 : W < 18446744073709551616) (w : World) :
    Calls Try.prog 109 #[.int .u64 W, .int .i64 lv] w fun e w' => e = .returned (Pg.decV W lv) ∧ Below w.heap.size w w' := by
  have hv : Pg.decV W lv = .tuple #[.agg #[.bool (Pg.dGood W lv), .bool (Pg.xL W lv), .int .i64 (Pg.xR W lv), .bool (Pg.xU W lv), .bool (Pg.xD W lv), .int .i64 (Pg.xF W lv)], .int .i64 (Pg.dCode W lv)] := rfl
  have HV : Hid _ := hv
  clear hv
  have hmf : ∀ (fn : Fn) (first cap : Array Value) (w : World), (Instr.makeFunc fn first cap).run Try.prog w = .ok (.func fn first cap) w := fun _ _ _ _ => rfl
  go_enter Try.func109, Try.ntmps109
  go_wp2_with fail
  refine (caught_any 117 _ (Pg.dCode W lv) (fun w' => Below (w.heap.size + 1 + 1 + 1) ((((w.alloc (.cells #[.int .u64 W] 85)).alloc (.cells #[.int .i64 lv] 3)).alloc (.cells #[.bool false, .bool false, .int .i64 0, .bool false, .bool false, .int .i64 0] 29)).alloc (.cells #[.bool false, .bool false, .int .i64 0, .bool false, .bool false, .int .i64 0] 29)) w' ∧
      (w'.cell? ⟨w.heap.size + 1 + 1 + 1, 0, none⟩ = some (.bool (Pg.dGood W lv)) ∧ w'.cell? ⟨w.heap.size + 1 + 1 + 1, 1, none⟩ = some (.bool (Pg.xL W lv)) ∧ w'.cell? ⟨w.heap.size + 1 + 1 + 1, 2, none⟩ = some (.int .i64 (Pg.xR W lv)) ∧ w'.cell? ⟨w.heap.size + 1 + 1 + 1, 3, none⟩ = some (.bool (Pg.xU W lv)) ∧ w'.cell? ⟨w.heap.size + 1 + 1 + 1, 4, none⟩ = some (.bool (Pg.xD W lv)) ∧ w'.cell? ⟨w.heap.size + 1 + 1 + 1, 5, none⟩ = some (.int .i64 (Pg.xF W lv)))) _ ?_ ?_).mono ?_
  · intro w
    simp [go_sem]
  · refine (decodeLook_any W lv h0 h1 w.heap.size (w.heap.size + 1) (w.heap.size + 1 + 1 + 1) _ ?_ ?_ ?_ ?_).mono ?_
    · simp [go_sem]
    · simp [go_sem]
    · simp [go_sem]
    · intro o
      simp [go_sem]
    · rintro e w1 ⟨rfl, hb1, hc1, hk⟩
      obtain ⟨k1, k2⟩ := hk (w.heap.size + 1 + 1 + 1 + 1) (by omega) (by simp)
      have hs : ((((w.alloc (.cells #[.int .u64 W] 85)).alloc (.cells #[.int .i64 lv] 3)).alloc (.cells #[.bool false, .bool false, .int .i64 0, .bool false, .bool false, .int .i64 0] 29)).alloc (.cells #[.bool false, .bool false, .int .i64 0, .bool false, .bool false, .int .i64 0] 29)).heap.size = w.heap.size + 1 + 1 + 1 + 1 := by simp
      refine ⟨rfl, ⟨?_, hc1⟩, ?_, ?_⟩
      · exact ((Below.refl _ _).alloc (by simp) _).trans hb1
      · rw [hs, k1]
        simp [go_sem]
      · rw [hs, k2]
        simp [go_sem]
  · rintro e w2 ⟨rfl, w1, ⟨hb1, hc1⟩, hb2⟩
    have hc2 : ∀ o, w2.cell? ⟨w.heap.size + 1 + 1 + 1, o, none⟩ = w1.cell? ⟨w.heap.size + 1 + 1 + 1, o, none⟩ := fun o => hb2.cell (p := ⟨w.heap.size + 1 + 1 + 1, o, none⟩) (by simp)
    obtain ⟨x0, x1, x2, x3, x4, x5⟩ := hc1
    have y0 := (hc2 0).trans x0
    have y1 := (hc2 1).trans x1
    have y2 := (hc2 2).trans x2
    have y3 := (hc2 3).trans x3
    have y4 := (hc2 4).trans x4
    have y5 := (hc2 5).trans x5
    clear x0 x1 x2 x3 x4 x5 hc2
    have hB2 := hb1.trans (hb2.mono (by simp))
    have r0 : ∀ o, w2.cell? ⟨w.heap.size + 1 + 1, o, none⟩ = _ := fun o => hB2.cell (p := ⟨w.heap.size + 1 + 1, o, none⟩) (by simp)
    have f0 : ∀ o, w2.frozen? ⟨w.heap.size + 1 + 1, o, none⟩ = _ := fun o => hB2.frozen (p := ⟨w.heap.size + 1 + 1, o, none⟩) (by simp)
    have HB : Hid _ := hB2
    clear hb1 hb2 hB2
    go_wp2_with fail
    rw [HV.out]
    refine bodyPost_ret (v := .tuple #[.agg #[.bool (Pg.dGood W lv), .bool (Pg.xL W lv), .int .i64 (Pg.xR W lv), .bool (Pg.xU W lv), .bool (Pg.xD W lv), .int .i64 (Pg.xF W lv)], .int .i64 (Pg.dCode W lv)]) ?_ rfl ⟨rfl, ?_⟩
    · simp [results, Try.results109, go_sem, r0]
    · have hA := balloc (balloc (balloc (balloc (brefl w) (.cells #[.int .u64 W] 85)) (.cells #[.int .i64 lv] 3)) (.cells #[.bool false, .bool false, .int .i64 0, .bool false, .bool false, .int .i64 0] 29)) (.cells #[.bool false, .bool false, .int .i64 0, .bool false, .bool false, .int .i64 0] 29)
      exact ((((((hA.trans (HB.out.mono (by omega))).setCell (by simp; omega) _).setCell (by simp; omega) _).setCell (by simp; omega) _).setCell (by simp; omega) _).setCell (by simp; omega) _).setCell (by simp; omega) _
end Go.Proofs.Ytbkpndgadgafiac
