/-
  The document's own walk: a step that marks, and a step.
-/
import Derived.Test.YtbkpndgadgafiaeKD
namespace Go.Proofs.Ytbkpndgadgafiae
open Go.RowKit Go.Sort
set_option linter.unusedVariables false
set_option linter.unusedSimpArgs false
set_option maxRecDepth 100000
attribute [local go_sem] Loose.gent

section
variable {b : Nat} {root : Int}
set_option maxHeartbeats 1000000 in
theorem cStep_done {bm g0 g1 bl : Nat} {vb : Value} {S : Pg.Fs} {q k : Int} {u : Bool} {t : Int} {lv : Nat} {xw : Int} {er : Int} {ef : Int} (hq : Pg.below q 4096 = true) (hlv : lv < 4) (w : World) (h : CkAt w b ⟨true, q, k, u, t, lv, 0⟩ t (lv : Int) xw) (hm : MemAt w bm g0 g1 vb S) (hL : LnAt w bl 0 ⟨⟨0, 0, 0, 0⟩, false⟩) (hLf : ∀ p, w.frozen? ⟨bl, p, none⟩ = false) (hbm : ¬ memF bm g0 g1 vb b) (hlm : ¬ memF bm g0 g1 vb bl) (hbl : b ≠ bl) (hmay : Pg.may er k u = true) (hh : S.has t = true) (hc : Pg.rCode S t (Pg.ix q lv) lv = 0) (he : Pg.rEn S t (Pg.ix q lv) lv = ⟨true, true, er, true, true, ef⟩) :
    Calls Try.prog 10 #[.pointer (some ⟨b, 0, none⟩), .pointer (some ⟨bm, 0, none⟩), .int .i64 root, .pointer (some ⟨bl, 0, none⟩)] w fun e w' => e = .returned (.tuple #[.agg #[.int .i64 (Pg.Wo.res ⟨true, q, k, u, t, lv, 0⟩ (.done ⟨true, true, er, true, true, ef⟩ false)).a, .int .i64 (Pg.Wo.res ⟨true, q, k, u, t, lv, 0⟩ (.done ⟨true, true, er, true, true, ef⟩ false)).f, .int .i64 (Pg.Wo.res ⟨true, q, k, u, t, lv, 0⟩ (.done ⟨true, true, er, true, true, ef⟩ false)).r], .bool (Pg.Wo.res ⟨true, q, k, u, t, lv, 0⟩ (.done ⟨true, true, er, true, true, ef⟩ false)).ended, .int .i64 (Pg.Wo.cd (.done ⟨true, true, er, true, true, ef⟩ false))]) ∧ CkEx w' b Pg.Wk.off ∧ MemAt w' bm g0 g1 vb (Pg.Wo.fs S ⟨true, q, k, u, t, lv, 0⟩ (.done ⟨true, true, er, true, true, ef⟩ false)) ∧ LnAt w' bl 0 ⟨(Pg.Wo.res ⟨true, q, k, u, t, lv, 0⟩ (.done ⟨true, true, er, true, true, ef⟩ false)).m, (Pg.Wo.res ⟨true, q, k, u, t, lv, 0⟩ (.done ⟨true, true, er, true, true, ef⟩ false)).d⟩ ∧ Ch8 b 1 (fun j => j = b ∨ j = bl ∨ memF bm g0 g1 vb j) w w' := by
  have HMay := fun W' => lets_any er q k u W'
  rw [hmay] at HMay
  clear hmay

  obtain ⟨W, hW⟩ : ∃ W, W = w.alloc (.cells #[.int .i64 0, .int .i64 0, .int .i64 0] 43) := ⟨_, rfl⟩
  have hBW : Below w.heap.size w W := by rw [hW]; exact balloc (brefl w) _
  have hl := h.lb
  have HKw : Hid _ := h
  have HMw : Hid _ := hm
  have HBW : Hid _ := hBW
  have HKW := h.grow hBW
  have HMW := hm.keep (F := fun _ => False) (But.of_below hBW) (fun _ _ => id)
  have R0 : Hid (W.heap[w.heap.size]? = some (.cells #[.int .i64 0, .int .i64 0, .int .i64 0] 43 (0, 0))) := by rw [hW]; exact heap_alloc_new _ _
  have hrb : ¬ w.heap.size = b := by omega
  have hne : b ≠ w.heap.size := by omega
  have hlW : w.heap.size < W.heap.size := (Array.getElem?_eq_some_iff.1 R0.out).1
  have HT := memTaken_any t W HMW
  rw [hh] at HT
  have k1 := h.c1
  have k5 := h.c5
  simp only at k1 k5

  obtain ⟨tn, rfl⟩ := Int.eq_ofNat_of_zero_le (hm.ok.has_lt hh).1
  have htn : tn < S.n := by have := (hm.ok.has_lt hh).2.1; omega
  have hixl := Pg.ix_lt q lv
  have HIx := indexOf_any q (lv : Int)
  rw [Pg.index_ix hq hlv] at HIx
  have M0 := cell_regrown HMW.raw.c0
  have MW := cell_regrown (HMW.raw.cw tn (Pg.ix q lv) htn hixl)
  have K2 := cell_regrown HKW.c2
  have K5 := cell_regrown HKW.c5
  have K6 := cell_regrown HKW.c6
  simp only at K2 K5 K6
  have hwl := hm.ok.low tn (Pg.ix q lv)
  have hwh := hm.ok.high tn (Pg.ix q lv)
  obtain ⟨e1, e2⟩ := Pg.rCode_of (i := Pg.ix q lv) (lv := lv) hh
  simp only [Int.toNat_natCast] at e1 e2
  have HEO := fun W' => entryOf_any (S.word tn (Pg.ix q lv)) (lv : Int) hwl hwh W'
  rw [Pg.decV_of, ← e1, ← e2, hc, he] at HEO
  simp only [Pg.En.val] at HEO
  clear hwl hwh e1 e2 hc he
  generalize S.word tn (Pg.ix q lv) = wd at *
  generalize hixx : Pg.ix q lv = ixn at *
  have HIXX : Hid _ := hixx
  have i0 : (0 : Int) ≤ (tn : Int) := by omega
  have i1 : (tn : Int) < (S.n : Int) := by omega
  have i2 : (0 : Int) ≤ (ixn : Int) := by omega
  have i3 : (ixn : Int) < 8 := by omega
  clear h hm hBW HKW HMW hixx
  have HLf := fun W' => leafMap_any true true er true true ef (lv : Int) q W'
  rw [Pg.mapV_of ⟨true, true, er, true, true, ef⟩ (lv : Int) q] at HLf
  have hres : Pg.Wo.res ⟨true, q, k, u, (tn : Int), lv, 0⟩ (.done ⟨true, true, er, true, true, ef⟩ false) = ⟨true, Pg.aEnd (Pg.En.map ⟨true, true, er, true, true, ef⟩ (lv : Int) q).r k u, Pg.aFrame (Pg.En.map ⟨true, true, er, true, true, ef⟩ (lv : Int) q).p (Pg.En.map ⟨true, true, er, true, true, ef⟩ (lv : Int) q).f (Pg.En.map ⟨true, true, er, true, true, ef⟩ (lv : Int) q).r q k u, Pg.aRights (Pg.En.map ⟨true, true, er, true, true, ef⟩ (lv : Int) q).r k u, Pg.En.map ⟨true, true, er, true, true, ef⟩ (lv : Int) q, true⟩ := rfl
  rw [hres]
  clear hres
  generalize Pg.En.map ⟨true, true, er, true, true, ef⟩ (lv : Int) q = mm at *
  obtain ⟨mp, ms, mf, mr⟩ := mm
  simp only [Pg.Mp.val] at HLf
  have HAn := fun W' => answerOf_any mp ms mf mr q k u W'
  simp only [Pg.Wo.cd, Pg.Wo.fs]
  generalize Pg.aEnd mr k u = aa at *
  generalize Pg.aFrame mp mf mr q k u = af at *
  generalize Pg.aRights mr k u = ar at *
  have HL : Hid (LnAt w bl 0 ⟨⟨0, 0, 0, 0⟩, false⟩) := hL
  have HLF : Hid _ := hLf
  clear hL hLf
  go_enter Try.func10, Try.ntmps10
  go_wp2_with fail
  rw [← hW]
  refine HT.mono ?_
  rintro e w1 ⟨rfl, hw⟩
  subst w1
  clear hW
  clear HT k1 k5
  go_wp2_with fail
  refine wp_region_quiet_below (by kernel_rfl) (by kernel_rfl) ?_
  repeat (first
    | go_big_quiet_step ((go_at_call 39; exact Calls.regrown_of (HIx _))))
  refine wpQuiet_nil ?_
  intro _ hw'
  obtain ⟨⟨dq, osq⟩, rfl⟩ := hw'
  have hb2 := below_regrown W dq osq
  have HB2 : Hid (Below w.heap.size w (grow (redrawn W dq) osq)) := bthen HBW.out hb2
  have R2 : Hid ((grow (redrawn W dq) osq).heap[w.heap.size]? = _) := (hb2.block _ hlW).trans R0.out
  clear hb2 HIx M0 MW K2 K5 K6 R0 HBW hlW
  generalize grow (redrawn W dq) osq = w2 at *
  have hk2 := HKw.out.grow HB2.out
  have y7 := hk2.c7
  have y8 := hk2.c8
  have y6 := hk2.c6
  simp only [ne_eq, not_true_eq_false, decide_false] at y6 y7 y8
  have hr2 : w.heap.size < w2.heap.size := (Array.getElem?_eq_some_iff.1 R2.out).1
  have hl2 : b < w2.heap.size := hk2.lb
  clear hk2

  go_wp2_with fail
  refine (HEO _).mono ?_
  rintro e w3 ⟨rfl, hb3⟩
  have HB3 : Hid (Below w.heap.size w w3) := bthen HB2.out hb3
  have R3 : Hid (w3.heap[w.heap.size]? = _) := (hb3.block _ hr2).trans R2.out
  have hr3 : w.heap.size < w3.heap.size := Nat.lt_of_lt_of_le hr2 hb3.size
  have hl3 : b < w3.heap.size := Nat.lt_of_lt_of_le hl2 hb3.size
  have nb3 : b ≠ w3.heap.size := by omega
  have mb3 : w3.heap.size ≠ b := by omega
  have nr3 : w.heap.size ≠ w3.heap.size := by omega
  have mr3 : w3.heap.size ≠ w.heap.size := by omega
  clear hb3 HEO y6 y7 y8 HB2 R2 hr2 hl2

  obtain ⟨W4, hW4⟩ : ∃ W4, W4 = w3.alloc (.cells #[.bool true, .bool true, .int .i64 er, .bool true, .bool true, .int .i64 ef] 93) := ⟨_, rfl⟩
  have hB4 : Below w3.heap.size w3 W4 := by rw [hW4]; exact balloc (brefl _) _
  have HB4 : Hid (Below w.heap.size w W4) := bthen HB3.out hB4
  have R4 : Hid (W4.heap[w.heap.size]? = _) := (hB4.block _ hr3).trans R3.out
  have E4 : Hid (W4.cell? ⟨w3.heap.size, 0, none⟩ = some (.bool true) ∧ W4.cell? ⟨w3.heap.size, 1, none⟩ = some (.bool true) ∧ W4.cell? ⟨w3.heap.size, 2, none⟩ = some (.int .i64 er) ∧ W4.cell? ⟨w3.heap.size, 3, none⟩ = some (.bool true) ∧ W4.cell? ⟨w3.heap.size, 4, none⟩ = some (.bool true) ∧ W4.cell? ⟨w3.heap.size, 5, none⟩ = some (.int .i64 ef)) := by rw [Hid, hW4]; simp [go_sem]
  have F4 : Hid (∀ i, W4.frozen? ⟨w3.heap.size, i, none⟩ = false) := fun i => by rw [hW4]; simp [go_sem]
  have hr4 : w.heap.size < W4.heap.size := by have := hB4.size; omega
  have hl4 : b < W4.heap.size := by have := hB4.size; omega
  have he4 : w3.heap.size < W4.heap.size := by rw [hW4]; simp

  clear hB4
  go_wp2_with fail
  rw [← hW4]
  clear hW4
  have z2 := cell_regrown E4.out.2.2.1
  have y2 := cell_regrown (HKw.out.grow HB4.out).c2
  have y3 := cell_regrown (HKw.out.grow HB4.out).c3
  have y4 := cell_regrown (HKw.out.grow HB4.out).c4
  simp only at y2 y3 y4
  refine wp_region_quiet_below (by kernel_rfl) (by kernel_rfl) ?_
  repeat (first
    | go_big_quiet_step ((go_at_call 42; exact Calls.regrown_of (HMay _))))
  refine wpQuiet_nil ?_
  intro _ hw'
  obtain ⟨⟨dq5, osq5⟩, rfl⟩ := hw'
  have hb5 := below_regrown W4 dq5 osq5
  have HB5 : Hid (Below w.heap.size w (grow (redrawn W4 dq5) osq5)) := bthen HB4.out hb5
  have R5 : Hid ((grow (redrawn W4 dq5) osq5).heap[w.heap.size]? = _) := (hb5.block _ hr4).trans R4.out
  have E5 : Hid _ := later6 hb5 E4.out
  have F5 : Hid (∀ i, (grow (redrawn W4 dq5) osq5).frozen? ⟨w3.heap.size, i, none⟩ = false) := fun i => (hb5.frozen (p := ⟨w3.heap.size, i, none⟩) he4).trans (F4.out i)
  have hr5 : w.heap.size < (grow (redrawn W4 dq5) osq5).heap.size := Nat.lt_of_lt_of_le hr4 hb5.size
  have hl5 : b < (grow (redrawn W4 dq5) osq5).heap.size := Nat.lt_of_lt_of_le hl4 hb5.size
  have he5 : w3.heap.size < (grow (redrawn W4 dq5) osq5).heap.size := Nat.lt_of_lt_of_le he4 hb5.size
  clear hb5 z2 y2 y3 y4 E4 F4 HMay HB4 R4 hr4 hl4 he4 HB3 R3 hl3
  generalize grow (redrawn W4 dq5) osq5 = w5 at *
  generalize w3.heap.size = Eb at *

  obtain ⟨z0, z1, z2, z3, z4, z5⟩ := E5.out
  have hk5 := HKw.out.grow HB5.out
  have y3 := hk5.c3
  have y7 := hk5.c7
  simp only [ne_eq, not_true_eq_false, decide_false] at y3 y7
  clear hk5
  go_wp2_with fail
  clear z0 z1 z2 z3 z4 z5 y3 y7
  have HDX : Hid (But (fun _ => False) w w5) := But.of_below HB5.out
  have HMX : Hid (MemAt w5 bm g0 g1 vb S) := HMw.out.keep (F := fun _ => False) HDX.out (fun _ _ => id)
  have EX : Hid _ := E5.out
  have RX : Hid (w5.heap[w.heap.size]? = _) := R5.out
  have hEbw : w.heap.size < Eb := by omega

  have hLl : bl < w.heap.size := LnAt.lb HL.out
  have hDb : ¬ (fun _ => False) b := id
  have hDl : ¬ (fun _ => False) bl := id
  have hkX := HKw.out.keep HDX.out hDb
  have g0' := cell_regrown EX.out.1
  have g1' := cell_regrown EX.out.2.1
  have g2' := cell_regrown EX.out.2.2.1
  have g3' := cell_regrown EX.out.2.2.2.1
  have g4' := cell_regrown EX.out.2.2.2.2.1
  have g5' := cell_regrown EX.out.2.2.2.2.2
  have k2' := cell_regrown hkX.c2
  have k6' := cell_regrown hkX.c6
  simp only at k2' k6'
  clear hkX
  refine Loose.wp_region_alloc 11 15 (.cells #[.int .i64 0, .int .i64 0, .int .i64 0, .int .i64 0] 39) _ (by kernel_rfl) (by kernel_rfl) rfl rfl rfl (by intro a w; simp [go_sem]) ?_
  simp only [List.take_succ_cons, List.take_zero, List.drop_succ_cons, List.drop_zero]
  repeat (
    refine Loose.wpGent_step (fun k hk => ?_)
    go_simp
    first
      | (refine hk _ ?_; clear hk k)
      | (apply Exists.intro
         refine ⟨fun _ => ?_, hk _ ?_⟩
         (go_at_call 44; exact Loose.calls (HLf _))
         clear hk k))
  refine Loose.wpGent_nil ?_
  intro bx w6 hb6 hbX hX
  have cb : w6.cell? ⟨bx, 0, none⟩ = some (.int .i64 0) ∧ w6.cell? ⟨bx, 1, none⟩ = some (.int .i64 0) ∧ w6.cell? ⟨bx, 2, none⟩ = some (.int .i64 0) ∧ w6.cell? ⟨bx, 3, none⟩ = some (.int .i64 0) := by
    simp [World.cell?, hX]
  obtain ⟨cb0, cb1, cb2, cb3⟩ := cb
  have fbx : ∀ i, w6.frozen? ⟨bx, i, none⟩ = false := fun i => by simp [World.frozen?, hX]
  have hB7 : Below w5.heap.size w5 ((((w6.setCell ⟨bx, 0, none⟩ (.int .i64 mp)).setCell ⟨bx, 1, none⟩ (.int .i64 ms)).setCell ⟨bx, 2, none⟩ (.int .i64 mf)).setCell ⟨bx, 3, none⟩ (.int .i64 mr)) := below_set4 hb6 _ hbX _ _ _ _
  have m4 : ((((w6.setCell ⟨bx, 0, none⟩ (.int .i64 mp)).setCell ⟨bx, 1, none⟩ (.int .i64 ms)).setCell ⟨bx, 2, none⟩ (.int .i64 mf)).setCell ⟨bx, 3, none⟩ (.int .i64 mr)).cell? ⟨bx, 0, none⟩ = some (.int .i64 mp) ∧ ((((w6.setCell ⟨bx, 0, none⟩ (.int .i64 mp)).setCell ⟨bx, 1, none⟩ (.int .i64 ms)).setCell ⟨bx, 2, none⟩ (.int .i64 mf)).setCell ⟨bx, 3, none⟩ (.int .i64 mr)).cell? ⟨bx, 1, none⟩ = some (.int .i64 ms) ∧ ((((w6.setCell ⟨bx, 0, none⟩ (.int .i64 mp)).setCell ⟨bx, 1, none⟩ (.int .i64 ms)).setCell ⟨bx, 2, none⟩ (.int .i64 mf)).setCell ⟨bx, 3, none⟩ (.int .i64 mr)).cell? ⟨bx, 2, none⟩ = some (.int .i64 mf) ∧ ((((w6.setCell ⟨bx, 0, none⟩ (.int .i64 mp)).setCell ⟨bx, 1, none⟩ (.int .i64 ms)).setCell ⟨bx, 2, none⟩ (.int .i64 mf)).setCell ⟨bx, 3, none⟩ (.int .i64 mr)).cell? ⟨bx, 3, none⟩ = some (.int .i64 mr) := by simp [go_sem, cb0, cb1, cb2, cb3]
  have hsX : w.heap.size ≤ w5.heap.size := HDX.out.size
  have nbx : bx ≠ bl := by omega
  have mbx : bl ≠ bx := by omega
  have d4 := hb6.cell (p := ⟨Eb, 4, none⟩) (World.block_lt_of_cell? _ _ EX.out.2.2.2.2.1)
  have d4' := d4.trans EX.out.2.2.2.2.1
  have nEx : Eb ≠ bx := by have := World.block_lt_of_cell? _ _ EX.out.1; simp only at this; omega
  have mEx : bx ≠ Eb := fun e => nEx e.symm
  have nEl : Eb ≠ bl := by omega
  have mEl : bl ≠ Eb := by omega
  have hLX := HL.out.of (w' := w5) fun p => HDX.out.cell (a := ⟨bl, p, none⟩) hLl hDl
  have hL6 := hLX.below hb6 (Nat.lt_of_lt_of_le hLl hsX)
  have lf6 : ∀ i, w6.frozen? ⟨bl, i, none⟩ = false := fun i => (hb6.frozen (p := ⟨bl, i, none⟩) (Nat.lt_of_lt_of_le hLl hsX)).trans ((HDX.out.frozen (a := ⟨bl, i, none⟩) hLl hDl).trans (HLF.out i))
  obtain ⟨l0, l1, l2, l3, l4⟩ := hL6
  simp only [Nat.zero_add] at l1 l2 l3 l4
  generalize hW7 : ((((w6.setCell ⟨bx, 0, none⟩ (.int .i64 mp)).setCell ⟨bx, 1, none⟩ (.int .i64 ms)).setCell ⟨bx, 2, none⟩ (.int .i64 mf)).setCell ⟨bx, 3, none⟩ (.int .i64 mr)) = W7 at *
  have HB7 : Hid _ := hB7
  have M4 : Hid _ := m4
  obtain ⟨W8, hW8⟩ : ∃ W8, W8 = (((((W7.setCell ⟨bl, 0, none⟩ (.int .i64 mp)).setCell ⟨bl, 1, none⟩ (.int .i64 ms)).setCell ⟨bl, 2, none⟩ (.int .i64 mf)).setCell ⟨bl, 3, none⟩ (.int .i64 mr)).setCell ⟨bl, 4, none⟩ (.bool true)) := ⟨_, rfl⟩
  have hB8 : But (fun j => j = bl) W7 W8 := by rw [hW8]; exact (but_set4 (F := fun j => j = bl) (But.refl _ W7) bl (.inr rfl) _ _ _ _).setCell (a := ⟨bl, 4, none⟩) (.inr rfl) _
  have hk7 : W7.heap[bl]? = w6.heap[bl]? := by rw [← hW7, Below.heap_setCell _ _ _ _ mbx, Below.heap_setCell _ _ _ _ mbx, Below.heap_setCell _ _ _ _ mbx, Below.heap_setCell _ _ _ _ mbx]
  have t0 := (World.cell?_of_block (a := ⟨bl, 0, none⟩) hk7).trans l0
  have t1 := (World.cell?_of_block (a := ⟨bl, 1, none⟩) hk7).trans l1
  have t2 := (World.cell?_of_block (a := ⟨bl, 2, none⟩) hk7).trans l2
  have t3 := (World.cell?_of_block (a := ⟨bl, 3, none⟩) hk7).trans l3
  have t4 := (World.cell?_of_block (a := ⟨bl, 4, none⟩) hk7).trans l4
  have L8 : Hid (LnAt W8 bl 0 ⟨⟨mp, ms, mf, mr⟩, true⟩) := by
    rw [Hid, hW8]
    refine ⟨?_, ?_, ?_, ?_, ?_⟩ <;> simp [go_sem, t0, t1, t2, t3, t4]
  have H78 : Hid (But (fun j => j = bl) w5 W8) := (But.of_below (F := fun j => j = bl) hB7).trans hB8 (fun _ _ h => h)
  have M8 : Hid (W8.cell? ⟨bx, 0, none⟩ = some (.int .i64 mp) ∧ W8.cell? ⟨bx, 1, none⟩ = some (.int .i64 ms) ∧ W8.cell? ⟨bx, 2, none⟩ = some (.int .i64 mf) ∧ W8.cell? ⟨bx, 3, none⟩ = some (.int .i64 mr)) := by
    have hk : W8.heap[bx]? = W7.heap[bx]? := hB8.block bx (World.block_lt_of_cell? _ _ m4.1) nbx
    exact ⟨(World.cell?_of_block hk).trans m4.1, (World.cell?_of_block hk).trans m4.2.1, (World.cell?_of_block hk).trans m4.2.2.1, (World.cell?_of_block hk).trans m4.2.2.2⟩
  have tf : ∀ i, W7.frozen? ⟨bl, i, none⟩ = false := fun i => (World.frozen?_of_block (a := ⟨bl, i, none⟩) hk7).trans (lf6 i)
  have d7 : W7.cell? ⟨Eb, 4, none⟩ = some (.bool true) := by
    have hkE : W7.heap[Eb]? = w6.heap[Eb]? := by rw [← hW7, Below.heap_setCell _ _ _ _ nEx, Below.heap_setCell _ _ _ _ nEx, Below.heap_setCell _ _ _ _ nEx, Below.heap_setCell _ _ _ _ nEx]
    exact (World.cell?_of_block (a := ⟨Eb, 4, none⟩) hkE).trans d4'
  obtain ⟨p0, p1, p2, p3⟩ := m4
  clear hk7 hB8 hB7 d4 hLX g0' g1' g2' g3' g4' g5' k2' k6' hX
  go_wp2_with fail
  rw [← hW8]
  clear hW7 hW8 t0 t1 t2 t3 t4 tf d7 p0 p1 p2 p3 cb0 cb1 cb2 cb3 fbx d4' l0 l1 l2 l3 l4 lf6
  have H8 : Hid (But (fun j => (fun _ => False) j ∨ j = bl) w W8) := (HDX.out.mono (fun _ _ h => .inl h)).trans H78.out (fun _ _ h => .inr h)
  have hb8D : ¬ ((fun _ => False) b ∨ b = bl) := by rintro (h | h); exact hDb h; exact hbl h
  have hk8 := HKw.out.keep H8.out hb8D
  have q0' := cell_regrown M8.out.1
  have q1' := cell_regrown M8.out.2.1
  have q2' := cell_regrown M8.out.2.2.1
  have q3' := cell_regrown M8.out.2.2.2
  have k2' := cell_regrown hk8.c2
  have k3' := cell_regrown hk8.c3
  have k4' := cell_regrown hk8.c4
  simp only at k2' k3' k4'
  clear hk8
  refine Loose.wp_region_late2 7 8 11 (by kernel_rfl) (by kernel_rfl) ?_
  simp only [List.take_succ_cons, List.take_zero, List.drop_succ_cons, List.drop_zero]
  repeat (
    refine Loose.wpGent_step (fun k hk => ?_)
    go_simp
    first
      | (refine hk _ ?_; clear hk k)
      | (apply Exists.intro
         refine ⟨fun _ => ?_, hk _ ?_⟩
         (go_at_call 38; exact Loose.calls (HAn _))
         clear hk k))
  refine Loose.wpGent_nil ?_
  intro w10 hb10
  have H10 : Hid (But (fun j => j = bl) w5 w10) := H78.out.trans (But.of_below (F := fun j => j = bl) hb10) (fun _ _ h => h)
  have L10 : Hid (LnAt w10 bl 0 ⟨⟨mp, ms, mf, mr⟩, true⟩) := LnAt.below L8.out hb10 (LnAt.lb L8.out)
  clear q0' q1' q2' q3' k2' k3' k4' hb10 HAn L8 M8 H78 H8
  have H10w : Hid (But (fun j => (fun _ => False) j ∨ j = bl) w w10) := (HDX.out.mono (fun _ _ h => .inl h)).trans H10.out (fun _ _ h => .inr h)
  have HE := cEnd_any aa af ar w10 ⟨_, _, _, HKw.out.keep H10w.out hb8D⟩
  go_wp2_with fail
  refine HE.mono ?_
  rintro e w11 ⟨rfl, hk11, hc11⟩
  have HK11 : Hid (CkEx w11 b Pg.Wk.off) := hk11
  have H11 : Hid (But (fun j => j = bl ∨ j = b) w5 w11) := (H10.out.mono (fun _ _ h => .inl h)).trans hc11.but (fun _ _ h => .inr h)
  have HC11 : Hid (Ch8 b 1 (fun j => j = b ∨ j = bl ∨ memF bm g0 g1 vb j) w w11) := ((Ch8.of_but (o := 1) H10w.out hl hb8D).mono (G := fun j => j = b ∨ j = bl ∨ memF bm g0 g1 vb j) (fun _ _ h => h.elim False.elim (fun h => .inr (.inl h)))).trans hc11 (fun _ _ h => .inl h)
  have L11 : Hid (LnAt w11 bl 0 ⟨⟨mp, ms, mf, mr⟩, true⟩) := L10.out.of fun p => hc11.but.cell (a := ⟨bl, p, none⟩) (LnAt.lb L10.out) (fun e => hbl e.symm)
  have R11 : Hid (w11.heap[w.heap.size]? = _) := (H11.out.block _ (Array.getElem?_eq_some_iff.1 RX.out).1 (by rintro (h | h); omega; exact hrb h)).trans RX.out
  clear hk11 hc11 HE L10 H10 H10w
  go_wp2_with fail
  repeat (
    refine Loose.wpGent_step (fun k hk => ?_)
    go_simp
    (refine hk _ ?_; clear hk k))
  refine Loose.wpGent_nil ?_
  intro w12 hb12
  have HK12 : Hid _ := HK11.out.of_block (hb12.block b HK11.out.lb)
  have H12 : Hid (But (fun j => j = bl ∨ j = b) w5 w12) := H11.out.trans (But.of_below (F := fun j => j = bl ∨ j = b) hb12) (fun _ _ h => h)
  have HC12 : Hid (Ch8 b 1 (fun j => j = b ∨ j = bl ∨ memF bm g0 g1 vb j) w w12) := HC11.out.trans (Ch8.of_below (F := fun j => j = b ∨ j = bl ∨ memF bm g0 g1 vb j) hb12 HK11.out.lb) (fun _ _ h => h)
  have L12 : Hid (LnAt w12 bl 0 ⟨⟨mp, ms, mf, mr⟩, true⟩) := LnAt.below L11.out hb12 (LnAt.lb L11.out)
  have R12 : Hid (w12.heap[w.heap.size]? = _) := (hb12.block _ (Array.getElem?_eq_some_iff.1 R11.out).1).trans R11.out
  obtain ⟨⟨x0, x1, x2⟩, xf⟩ := row3 R12.out
  have HF : Hid _ := fin3 hrb (Nat.le_refl _) ⟨HK12.out, HC12.out⟩ (.int .i64 aa) (.int .i64 af) (.int .i64 ar)
  have hS3 := but_set3 (F := fun j => j = w.heap.size) (But.refl _ w12) w.heap.size (.inr rfl) (.int .i64 aa) (.int .i64 af) (.int .i64 ar)
  have HL13 : Hid _ := L12.out.of fun p => hS3.cell (a := ⟨bl, p, none⟩) (LnAt.lb L12.out) (show ¬ bl = w.heap.size by omega)
  have HM13 : Hid _ := HMX.out.keep (H12.out.mono (G := fun j => j = bl ∨ j = b ∨ j = w.heap.size) (fun _ _ h => h.elim .inl (fun h => .inr (.inl h))) |>.trans hS3 (fun _ _ h => .inr (.inr h))) (by
    rintro j hj (h | h | h)
    · exact hlm (h ▸ hj)
    · exact hbm (h ▸ hj)
    · have := HMw.out.raw.lt hj; omega)
  clear hS3 hb12
  go_wp2_with fail
  refine bodyPost_ret (v := .tuple #[.agg #[.int .i64 aa, .int .i64 af, .int .i64 ar], .bool true, .int .i64 0]) ?_ rfl ⟨rfl, HF.out.1, HM13.out, HL13.out, HF.out.2⟩
  simp [results, Try.results10, go_sem, x0, x1, x2]

set_option maxHeartbeats 1000000 in
theorem cStep_done2 {bm g0 g1 bl : Nat} {vb : Value} {S : Pg.Fs} {q k : Int} {u : Bool} {t : Int} {lv : Nat} {xw : Int} {er : Int} {ef : Int} (hq : Pg.below q 4096 = true) (hlv : lv < 4) (w : World) (h : CkAt w b ⟨true, q, k, u, t, lv, 0⟩ t (lv : Int) xw) (hm : MemAt w bm g0 g1 vb S) (hk1 : (k != 1) = true) (hL : LnAt w bl 0 ⟨⟨0, 0, 0, 0⟩, false⟩) (hLf : ∀ p, w.frozen? ⟨bl, p, none⟩ = false) (hbm : ¬ memF bm g0 g1 vb b) (hlm : ¬ memF bm g0 g1 vb bl) (hbl : b ≠ bl) (hmay : Pg.may er k u = true) (hh : S.has t = true) (hc : Pg.rCode S t (Pg.ix q lv) lv = 0) (he : Pg.rEn S t (Pg.ix q lv) lv = ⟨true, true, er, true, false, ef⟩) :
    Calls Try.prog 10 #[.pointer (some ⟨b, 0, none⟩), .pointer (some ⟨bm, 0, none⟩), .int .i64 root, .pointer (some ⟨bl, 0, none⟩)] w fun e w' => e = .returned (.tuple #[.agg #[.int .i64 (Pg.Wo.res ⟨true, q, k, u, t, lv, 0⟩ (.done ⟨true, true, er, true, false, ef⟩ false)).a, .int .i64 (Pg.Wo.res ⟨true, q, k, u, t, lv, 0⟩ (.done ⟨true, true, er, true, false, ef⟩ false)).f, .int .i64 (Pg.Wo.res ⟨true, q, k, u, t, lv, 0⟩ (.done ⟨true, true, er, true, false, ef⟩ false)).r], .bool (Pg.Wo.res ⟨true, q, k, u, t, lv, 0⟩ (.done ⟨true, true, er, true, false, ef⟩ false)).ended, .int .i64 (Pg.Wo.cd (.done ⟨true, true, er, true, false, ef⟩ false))]) ∧ CkEx w' b Pg.Wk.off ∧ MemAt w' bm g0 g1 vb (Pg.Wo.fs S ⟨true, q, k, u, t, lv, 0⟩ (.done ⟨true, true, er, true, false, ef⟩ false)) ∧ LnAt w' bl 0 ⟨(Pg.Wo.res ⟨true, q, k, u, t, lv, 0⟩ (.done ⟨true, true, er, true, false, ef⟩ false)).m, (Pg.Wo.res ⟨true, q, k, u, t, lv, 0⟩ (.done ⟨true, true, er, true, false, ef⟩ false)).d⟩ ∧ Ch8 b 1 (fun j => j = b ∨ j = bl ∨ memF bm g0 g1 vb j) w w' := by
  have HMay := fun W' => lets_any er q k u W'
  rw [hmay] at HMay
  clear hmay

  obtain ⟨W, hW⟩ : ∃ W, W = w.alloc (.cells #[.int .i64 0, .int .i64 0, .int .i64 0] 43) := ⟨_, rfl⟩
  have hBW : Below w.heap.size w W := by rw [hW]; exact balloc (brefl w) _
  have hl := h.lb
  have HKw : Hid _ := h
  have HMw : Hid _ := hm
  have HBW : Hid _ := hBW
  have HKW := h.grow hBW
  have HMW := hm.keep (F := fun _ => False) (But.of_below hBW) (fun _ _ => id)
  have R0 : Hid (W.heap[w.heap.size]? = some (.cells #[.int .i64 0, .int .i64 0, .int .i64 0] 43 (0, 0))) := by rw [hW]; exact heap_alloc_new _ _
  have hrb : ¬ w.heap.size = b := by omega
  have hne : b ≠ w.heap.size := by omega
  have hlW : w.heap.size < W.heap.size := (Array.getElem?_eq_some_iff.1 R0.out).1
  have HT := memTaken_any t W HMW
  rw [hh] at HT
  have k1 := h.c1
  have k5 := h.c5
  simp only at k1 k5

  obtain ⟨tn, rfl⟩ := Int.eq_ofNat_of_zero_le (hm.ok.has_lt hh).1
  have htn : tn < S.n := by have := (hm.ok.has_lt hh).2.1; omega
  have hixl := Pg.ix_lt q lv
  have HIx := indexOf_any q (lv : Int)
  rw [Pg.index_ix hq hlv] at HIx
  have M0 := cell_regrown HMW.raw.c0
  have MW := cell_regrown (HMW.raw.cw tn (Pg.ix q lv) htn hixl)
  have K2 := cell_regrown HKW.c2
  have K5 := cell_regrown HKW.c5
  have K6 := cell_regrown HKW.c6
  simp only at K2 K5 K6
  have hwl := hm.ok.low tn (Pg.ix q lv)
  have hwh := hm.ok.high tn (Pg.ix q lv)
  obtain ⟨e1, e2⟩ := Pg.rCode_of (i := Pg.ix q lv) (lv := lv) hh
  simp only [Int.toNat_natCast] at e1 e2
  have HEO := fun W' => entryOf_any (S.word tn (Pg.ix q lv)) (lv : Int) hwl hwh W'
  rw [Pg.decV_of, ← e1, ← e2, hc, he] at HEO
  simp only [Pg.En.val] at HEO
  clear hwl hwh e1 e2 hc he
  generalize S.word tn (Pg.ix q lv) = wd at *
  generalize hixx : Pg.ix q lv = ixn at *
  have HIXX : Hid _ := hixx
  have i0 : (0 : Int) ≤ (tn : Int) := by omega
  have i1 : (tn : Int) < (S.n : Int) := by omega
  have i2 : (0 : Int) ≤ (ixn : Int) := by omega
  have i3 : (ixn : Int) < 8 := by omega
  clear h hm hBW HKW HMW hixx
  have HLf := fun W' => leafMap_any true true er true false ef (lv : Int) q W'
  rw [Pg.mapV_of ⟨true, true, er, true, false, ef⟩ (lv : Int) q] at HLf
  have hres : Pg.Wo.res ⟨true, q, k, u, (tn : Int), lv, 0⟩ (.done ⟨true, true, er, true, false, ef⟩ false) = ⟨true, Pg.aEnd (Pg.En.map ⟨true, true, er, true, false, ef⟩ (lv : Int) q).r k u, Pg.aFrame (Pg.En.map ⟨true, true, er, true, false, ef⟩ (lv : Int) q).p (Pg.En.map ⟨true, true, er, true, false, ef⟩ (lv : Int) q).f (Pg.En.map ⟨true, true, er, true, false, ef⟩ (lv : Int) q).r q k u, Pg.aRights (Pg.En.map ⟨true, true, er, true, false, ef⟩ (lv : Int) q).r k u, Pg.En.map ⟨true, true, er, true, false, ef⟩ (lv : Int) q, false⟩ := rfl
  rw [hres]
  clear hres
  generalize Pg.En.map ⟨true, true, er, true, false, ef⟩ (lv : Int) q = mm at *
  obtain ⟨mp, ms, mf, mr⟩ := mm
  simp only [Pg.Mp.val] at HLf
  have HAn := fun W' => answerOf_any mp ms mf mr q k u W'
  simp only [Pg.Wo.cd, Pg.Wo.fs]
  generalize Pg.aEnd mr k u = aa at *
  generalize Pg.aFrame mp mf mr q k u = af at *
  generalize Pg.aRights mr k u = ar at *
  have HL : Hid (LnAt w bl 0 ⟨⟨0, 0, 0, 0⟩, false⟩) := hL
  have HLF : Hid _ := hLf
  clear hL hLf
  go_enter Try.func10, Try.ntmps10
  go_wp2_with fail
  rw [← hW]
  refine HT.mono ?_
  rintro e w1 ⟨rfl, hw⟩
  subst w1
  clear hW
  clear HT k1 k5
  go_wp2_with fail
  refine wp_region_quiet_below (by kernel_rfl) (by kernel_rfl) ?_
  repeat (first
    | go_big_quiet_step ((go_at_call 39; exact Calls.regrown_of (HIx _))))
  refine wpQuiet_nil ?_
  intro _ hw'
  obtain ⟨⟨dq, osq⟩, rfl⟩ := hw'
  have hb2 := below_regrown W dq osq
  have HB2 : Hid (Below w.heap.size w (grow (redrawn W dq) osq)) := bthen HBW.out hb2
  have R2 : Hid ((grow (redrawn W dq) osq).heap[w.heap.size]? = _) := (hb2.block _ hlW).trans R0.out
  clear hb2 HIx M0 MW K2 K5 K6 R0 HBW hlW
  generalize grow (redrawn W dq) osq = w2 at *
  have hk2 := HKw.out.grow HB2.out
  have y7 := hk2.c7
  have y8 := hk2.c8
  have y6 := hk2.c6
  simp only [ne_eq, not_true_eq_false, decide_false] at y6 y7 y8
  have hr2 : w.heap.size < w2.heap.size := (Array.getElem?_eq_some_iff.1 R2.out).1
  have hl2 : b < w2.heap.size := hk2.lb
  clear hk2

  go_wp2_with fail
  refine (HEO _).mono ?_
  rintro e w3 ⟨rfl, hb3⟩
  have HB3 : Hid (Below w.heap.size w w3) := bthen HB2.out hb3
  have R3 : Hid (w3.heap[w.heap.size]? = _) := (hb3.block _ hr2).trans R2.out
  have hr3 : w.heap.size < w3.heap.size := Nat.lt_of_lt_of_le hr2 hb3.size
  have hl3 : b < w3.heap.size := Nat.lt_of_lt_of_le hl2 hb3.size
  have nb3 : b ≠ w3.heap.size := by omega
  have mb3 : w3.heap.size ≠ b := by omega
  have nr3 : w.heap.size ≠ w3.heap.size := by omega
  have mr3 : w3.heap.size ≠ w.heap.size := by omega
  clear hb3 HEO y6 y7 y8 HB2 R2 hr2 hl2

  obtain ⟨W4, hW4⟩ : ∃ W4, W4 = w3.alloc (.cells #[.bool true, .bool true, .int .i64 er, .bool true, .bool false, .int .i64 ef] 93) := ⟨_, rfl⟩
  have hB4 : Below w3.heap.size w3 W4 := by rw [hW4]; exact balloc (brefl _) _
  have HB4 : Hid (Below w.heap.size w W4) := bthen HB3.out hB4
  have R4 : Hid (W4.heap[w.heap.size]? = _) := (hB4.block _ hr3).trans R3.out
  have E4 : Hid (W4.cell? ⟨w3.heap.size, 0, none⟩ = some (.bool true) ∧ W4.cell? ⟨w3.heap.size, 1, none⟩ = some (.bool true) ∧ W4.cell? ⟨w3.heap.size, 2, none⟩ = some (.int .i64 er) ∧ W4.cell? ⟨w3.heap.size, 3, none⟩ = some (.bool true) ∧ W4.cell? ⟨w3.heap.size, 4, none⟩ = some (.bool false) ∧ W4.cell? ⟨w3.heap.size, 5, none⟩ = some (.int .i64 ef)) := by rw [Hid, hW4]; simp [go_sem]
  have F4 : Hid (∀ i, W4.frozen? ⟨w3.heap.size, i, none⟩ = false) := fun i => by rw [hW4]; simp [go_sem]
  have hr4 : w.heap.size < W4.heap.size := by have := hB4.size; omega
  have hl4 : b < W4.heap.size := by have := hB4.size; omega
  have he4 : w3.heap.size < W4.heap.size := by rw [hW4]; simp

  clear hB4
  go_wp2_with fail
  rw [← hW4]
  clear hW4
  have z2 := cell_regrown E4.out.2.2.1
  have y2 := cell_regrown (HKw.out.grow HB4.out).c2
  have y3 := cell_regrown (HKw.out.grow HB4.out).c3
  have y4 := cell_regrown (HKw.out.grow HB4.out).c4
  simp only at y2 y3 y4
  refine wp_region_quiet_below (by kernel_rfl) (by kernel_rfl) ?_
  repeat (first
    | go_big_quiet_step ((go_at_call 42; exact Calls.regrown_of (HMay _))))
  refine wpQuiet_nil ?_
  intro _ hw'
  obtain ⟨⟨dq5, osq5⟩, rfl⟩ := hw'
  have hb5 := below_regrown W4 dq5 osq5
  have HB5 : Hid (Below w.heap.size w (grow (redrawn W4 dq5) osq5)) := bthen HB4.out hb5
  have R5 : Hid ((grow (redrawn W4 dq5) osq5).heap[w.heap.size]? = _) := (hb5.block _ hr4).trans R4.out
  have E5 : Hid _ := later6 hb5 E4.out
  have F5 : Hid (∀ i, (grow (redrawn W4 dq5) osq5).frozen? ⟨w3.heap.size, i, none⟩ = false) := fun i => (hb5.frozen (p := ⟨w3.heap.size, i, none⟩) he4).trans (F4.out i)
  have hr5 : w.heap.size < (grow (redrawn W4 dq5) osq5).heap.size := Nat.lt_of_lt_of_le hr4 hb5.size
  have hl5 : b < (grow (redrawn W4 dq5) osq5).heap.size := Nat.lt_of_lt_of_le hl4 hb5.size
  have he5 : w3.heap.size < (grow (redrawn W4 dq5) osq5).heap.size := Nat.lt_of_lt_of_le he4 hb5.size
  clear hb5 z2 y2 y3 y4 E4 F4 HMay HB4 R4 hr4 hl4 he4 HB3 R3 hl3
  generalize grow (redrawn W4 dq5) osq5 = w5 at *
  generalize w3.heap.size = Eb at *

  obtain ⟨z0, z1, z2, z3, z4, z5⟩ := E5.out
  have hk5 := HKw.out.grow HB5.out
  have y3 := hk5.c3
  have y7 := hk5.c7
  simp only [ne_eq, not_true_eq_false, decide_false] at y3 y7
  clear hk5
  go_wp2_with fail
  clear z0 z1 z2 z3 z4 z5 y3 y7
  have HDX : Hid (But (fun _ => False) w w5) := But.of_below HB5.out
  have HMX : Hid (MemAt w5 bm g0 g1 vb S) := HMw.out.keep (F := fun _ => False) HDX.out (fun _ _ => id)
  have EX : Hid _ := E5.out
  have RX : Hid (w5.heap[w.heap.size]? = _) := R5.out
  have hEbw : w.heap.size < Eb := by omega

  have hLl : bl < w.heap.size := LnAt.lb HL.out
  have hDb : ¬ (fun _ => False) b := id
  have hDl : ¬ (fun _ => False) bl := id
  have hkX := HKw.out.keep HDX.out hDb
  have g0' := cell_regrown EX.out.1
  have g1' := cell_regrown EX.out.2.1
  have g2' := cell_regrown EX.out.2.2.1
  have g3' := cell_regrown EX.out.2.2.2.1
  have g4' := cell_regrown EX.out.2.2.2.2.1
  have g5' := cell_regrown EX.out.2.2.2.2.2
  have k2' := cell_regrown hkX.c2
  have k6' := cell_regrown hkX.c6
  simp only at k2' k6'
  clear hkX
  refine Loose.wp_region_alloc 11 15 (.cells #[.int .i64 0, .int .i64 0, .int .i64 0, .int .i64 0] 39) _ (by kernel_rfl) (by kernel_rfl) rfl rfl rfl (by intro a w; simp [go_sem]) ?_
  simp only [List.take_succ_cons, List.take_zero, List.drop_succ_cons, List.drop_zero]
  repeat (
    refine Loose.wpGent_step (fun k hk => ?_)
    go_simp
    first
      | (refine hk _ ?_; clear hk k)
      | (apply Exists.intro
         refine ⟨fun _ => ?_, hk _ ?_⟩
         (go_at_call 44; exact Loose.calls (HLf _))
         clear hk k))
  refine Loose.wpGent_nil ?_
  intro bx w6 hb6 hbX hX
  have cb : w6.cell? ⟨bx, 0, none⟩ = some (.int .i64 0) ∧ w6.cell? ⟨bx, 1, none⟩ = some (.int .i64 0) ∧ w6.cell? ⟨bx, 2, none⟩ = some (.int .i64 0) ∧ w6.cell? ⟨bx, 3, none⟩ = some (.int .i64 0) := by
    simp [World.cell?, hX]
  obtain ⟨cb0, cb1, cb2, cb3⟩ := cb
  have fbx : ∀ i, w6.frozen? ⟨bx, i, none⟩ = false := fun i => by simp [World.frozen?, hX]
  have hB7 : Below w5.heap.size w5 ((((w6.setCell ⟨bx, 0, none⟩ (.int .i64 mp)).setCell ⟨bx, 1, none⟩ (.int .i64 ms)).setCell ⟨bx, 2, none⟩ (.int .i64 mf)).setCell ⟨bx, 3, none⟩ (.int .i64 mr)) := below_set4 hb6 _ hbX _ _ _ _
  have m4 : ((((w6.setCell ⟨bx, 0, none⟩ (.int .i64 mp)).setCell ⟨bx, 1, none⟩ (.int .i64 ms)).setCell ⟨bx, 2, none⟩ (.int .i64 mf)).setCell ⟨bx, 3, none⟩ (.int .i64 mr)).cell? ⟨bx, 0, none⟩ = some (.int .i64 mp) ∧ ((((w6.setCell ⟨bx, 0, none⟩ (.int .i64 mp)).setCell ⟨bx, 1, none⟩ (.int .i64 ms)).setCell ⟨bx, 2, none⟩ (.int .i64 mf)).setCell ⟨bx, 3, none⟩ (.int .i64 mr)).cell? ⟨bx, 1, none⟩ = some (.int .i64 ms) ∧ ((((w6.setCell ⟨bx, 0, none⟩ (.int .i64 mp)).setCell ⟨bx, 1, none⟩ (.int .i64 ms)).setCell ⟨bx, 2, none⟩ (.int .i64 mf)).setCell ⟨bx, 3, none⟩ (.int .i64 mr)).cell? ⟨bx, 2, none⟩ = some (.int .i64 mf) ∧ ((((w6.setCell ⟨bx, 0, none⟩ (.int .i64 mp)).setCell ⟨bx, 1, none⟩ (.int .i64 ms)).setCell ⟨bx, 2, none⟩ (.int .i64 mf)).setCell ⟨bx, 3, none⟩ (.int .i64 mr)).cell? ⟨bx, 3, none⟩ = some (.int .i64 mr) := by simp [go_sem, cb0, cb1, cb2, cb3]
  have hsX : w.heap.size ≤ w5.heap.size := HDX.out.size
  have nbx : bx ≠ bl := by omega
  have mbx : bl ≠ bx := by omega
  have d4 := hb6.cell (p := ⟨Eb, 4, none⟩) (World.block_lt_of_cell? _ _ EX.out.2.2.2.2.1)
  have d4' := d4.trans EX.out.2.2.2.2.1
  have nEx : Eb ≠ bx := by have := World.block_lt_of_cell? _ _ EX.out.1; simp only at this; omega
  have mEx : bx ≠ Eb := fun e => nEx e.symm
  have nEl : Eb ≠ bl := by omega
  have mEl : bl ≠ Eb := by omega
  have hLX := HL.out.of (w' := w5) fun p => HDX.out.cell (a := ⟨bl, p, none⟩) hLl hDl
  have hL6 := hLX.below hb6 (Nat.lt_of_lt_of_le hLl hsX)
  have lf6 : ∀ i, w6.frozen? ⟨bl, i, none⟩ = false := fun i => (hb6.frozen (p := ⟨bl, i, none⟩) (Nat.lt_of_lt_of_le hLl hsX)).trans ((HDX.out.frozen (a := ⟨bl, i, none⟩) hLl hDl).trans (HLF.out i))
  obtain ⟨l0, l1, l2, l3, l4⟩ := hL6
  simp only [Nat.zero_add] at l1 l2 l3 l4
  generalize hW7 : ((((w6.setCell ⟨bx, 0, none⟩ (.int .i64 mp)).setCell ⟨bx, 1, none⟩ (.int .i64 ms)).setCell ⟨bx, 2, none⟩ (.int .i64 mf)).setCell ⟨bx, 3, none⟩ (.int .i64 mr)) = W7 at *
  have HB7 : Hid _ := hB7
  have M4 : Hid _ := m4
  obtain ⟨W8, hW8⟩ : ∃ W8, W8 = (((((W7.setCell ⟨bl, 0, none⟩ (.int .i64 mp)).setCell ⟨bl, 1, none⟩ (.int .i64 ms)).setCell ⟨bl, 2, none⟩ (.int .i64 mf)).setCell ⟨bl, 3, none⟩ (.int .i64 mr)).setCell ⟨bl, 4, none⟩ (.bool false)) := ⟨_, rfl⟩
  have hB8 : But (fun j => j = bl) W7 W8 := by rw [hW8]; exact (but_set4 (F := fun j => j = bl) (But.refl _ W7) bl (.inr rfl) _ _ _ _).setCell (a := ⟨bl, 4, none⟩) (.inr rfl) _
  have hk7 : W7.heap[bl]? = w6.heap[bl]? := by rw [← hW7, Below.heap_setCell _ _ _ _ mbx, Below.heap_setCell _ _ _ _ mbx, Below.heap_setCell _ _ _ _ mbx, Below.heap_setCell _ _ _ _ mbx]
  have t0 := (World.cell?_of_block (a := ⟨bl, 0, none⟩) hk7).trans l0
  have t1 := (World.cell?_of_block (a := ⟨bl, 1, none⟩) hk7).trans l1
  have t2 := (World.cell?_of_block (a := ⟨bl, 2, none⟩) hk7).trans l2
  have t3 := (World.cell?_of_block (a := ⟨bl, 3, none⟩) hk7).trans l3
  have t4 := (World.cell?_of_block (a := ⟨bl, 4, none⟩) hk7).trans l4
  have L8 : Hid (LnAt W8 bl 0 ⟨⟨mp, ms, mf, mr⟩, false⟩) := by
    rw [Hid, hW8]
    refine ⟨?_, ?_, ?_, ?_, ?_⟩ <;> simp [go_sem, t0, t1, t2, t3, t4]
  have H78 : Hid (But (fun j => j = bl) w5 W8) := (But.of_below (F := fun j => j = bl) hB7).trans hB8 (fun _ _ h => h)
  have M8 : Hid (W8.cell? ⟨bx, 0, none⟩ = some (.int .i64 mp) ∧ W8.cell? ⟨bx, 1, none⟩ = some (.int .i64 ms) ∧ W8.cell? ⟨bx, 2, none⟩ = some (.int .i64 mf) ∧ W8.cell? ⟨bx, 3, none⟩ = some (.int .i64 mr)) := by
    have hk : W8.heap[bx]? = W7.heap[bx]? := hB8.block bx (World.block_lt_of_cell? _ _ m4.1) nbx
    exact ⟨(World.cell?_of_block hk).trans m4.1, (World.cell?_of_block hk).trans m4.2.1, (World.cell?_of_block hk).trans m4.2.2.1, (World.cell?_of_block hk).trans m4.2.2.2⟩
  have tf : ∀ i, W7.frozen? ⟨bl, i, none⟩ = false := fun i => (World.frozen?_of_block (a := ⟨bl, i, none⟩) hk7).trans (lf6 i)
  have d7 : W7.cell? ⟨Eb, 4, none⟩ = some (.bool false) := by
    have hkE : W7.heap[Eb]? = w6.heap[Eb]? := by rw [← hW7, Below.heap_setCell _ _ _ _ nEx, Below.heap_setCell _ _ _ _ nEx, Below.heap_setCell _ _ _ _ nEx, Below.heap_setCell _ _ _ _ nEx]
    exact (World.cell?_of_block (a := ⟨Eb, 4, none⟩) hkE).trans d4'
  obtain ⟨p0, p1, p2, p3⟩ := m4
  clear hk7 hB8 hB7 d4 hLX g0' g1' g2' g3' g4' g5' k2' k6' hX
  go_wp2_with fail
  rw [← hW8]
  clear hW7 hW8 t0 t1 t2 t3 t4 tf d7 p0 p1 p2 p3 cb0 cb1 cb2 cb3 fbx d4' l0 l1 l2 l3 l4 lf6
  have H8 : Hid (But (fun j => (fun _ => False) j ∨ j = bl) w W8) := (HDX.out.mono (fun _ _ h => .inl h)).trans H78.out (fun _ _ h => .inr h)
  have hb8D : ¬ ((fun _ => False) b ∨ b = bl) := by rintro (h | h); exact hDb h; exact hbl h
  have hk8 := HKw.out.keep H8.out hb8D
  have q0' := cell_regrown M8.out.1
  have q1' := cell_regrown M8.out.2.1
  have q2' := cell_regrown M8.out.2.2.1
  have q3' := cell_regrown M8.out.2.2.2
  have k2' := cell_regrown hk8.c2
  have k3' := cell_regrown hk8.c3
  have k4' := cell_regrown hk8.c4
  simp only at k2' k3' k4'
  clear hk8
  refine Loose.wp_region_late2 7 8 11 (by kernel_rfl) (by kernel_rfl) ?_
  simp only [List.take_succ_cons, List.take_zero, List.drop_succ_cons, List.drop_zero]
  repeat (
    refine Loose.wpGent_step (fun k hk => ?_)
    go_simp
    first
      | (refine hk _ ?_; clear hk k)
      | (apply Exists.intro
         refine ⟨fun _ => ?_, hk _ ?_⟩
         (go_at_call 38; exact Loose.calls (HAn _))
         clear hk k))
  refine Loose.wpGent_nil ?_
  intro w10 hb10
  have H10 : Hid (But (fun j => j = bl) w5 w10) := H78.out.trans (But.of_below (F := fun j => j = bl) hb10) (fun _ _ h => h)
  have L10 : Hid (LnAt w10 bl 0 ⟨⟨mp, ms, mf, mr⟩, false⟩) := LnAt.below L8.out hb10 (LnAt.lb L8.out)
  clear q0' q1' q2' q3' k2' k3' k4' hb10 HAn L8 M8 H78 H8
  have H10w : Hid (But (fun j => (fun _ => False) j ∨ j = bl) w w10) := (HDX.out.mono (fun _ _ h => .inl h)).trans H10.out (fun _ _ h => .inr h)
  have HE := cEnd_any aa af ar w10 ⟨_, _, _, HKw.out.keep H10w.out hb8D⟩
  go_wp2_with fail
  refine HE.mono ?_
  rintro e w11 ⟨rfl, hk11, hc11⟩
  have HK11 : Hid (CkEx w11 b Pg.Wk.off) := hk11
  have H11 : Hid (But (fun j => j = bl ∨ j = b) w5 w11) := (H10.out.mono (fun _ _ h => .inl h)).trans hc11.but (fun _ _ h => .inr h)
  have HC11 : Hid (Ch8 b 1 (fun j => j = b ∨ j = bl ∨ memF bm g0 g1 vb j) w w11) := ((Ch8.of_but (o := 1) H10w.out hl hb8D).mono (G := fun j => j = b ∨ j = bl ∨ memF bm g0 g1 vb j) (fun _ _ h => h.elim False.elim (fun h => .inr (.inl h)))).trans hc11 (fun _ _ h => .inl h)
  have L11 : Hid (LnAt w11 bl 0 ⟨⟨mp, ms, mf, mr⟩, false⟩) := L10.out.of fun p => hc11.but.cell (a := ⟨bl, p, none⟩) (LnAt.lb L10.out) (fun e => hbl e.symm)
  have R11 : Hid (w11.heap[w.heap.size]? = _) := (H11.out.block _ (Array.getElem?_eq_some_iff.1 RX.out).1 (by rintro (h | h); omega; exact hrb h)).trans RX.out
  clear hk11 hc11 HE L10 H10 H10w
  go_wp2_with fail
  repeat (
    refine Loose.wpGent_step (fun k hk => ?_)
    go_simp
    (refine hk _ ?_; clear hk k))
  refine Loose.wpGent_nil ?_
  intro w12 hb12
  have HK12 : Hid _ := HK11.out.of_block (hb12.block b HK11.out.lb)
  have H12 : Hid (But (fun j => j = bl ∨ j = b) w5 w12) := H11.out.trans (But.of_below (F := fun j => j = bl ∨ j = b) hb12) (fun _ _ h => h)
  have HC12 : Hid (Ch8 b 1 (fun j => j = b ∨ j = bl ∨ memF bm g0 g1 vb j) w w12) := HC11.out.trans (Ch8.of_below (F := fun j => j = b ∨ j = bl ∨ memF bm g0 g1 vb j) hb12 HK11.out.lb) (fun _ _ h => h)
  have L12 : Hid (LnAt w12 bl 0 ⟨⟨mp, ms, mf, mr⟩, false⟩) := LnAt.below L11.out hb12 (LnAt.lb L11.out)
  have R12 : Hid (w12.heap[w.heap.size]? = _) := (hb12.block _ (Array.getElem?_eq_some_iff.1 R11.out).1).trans R11.out
  obtain ⟨⟨x0, x1, x2⟩, xf⟩ := row3 R12.out
  have HF : Hid _ := fin3 hrb (Nat.le_refl _) ⟨HK12.out, HC12.out⟩ (.int .i64 aa) (.int .i64 af) (.int .i64 ar)
  have hS3 := but_set3 (F := fun j => j = w.heap.size) (But.refl _ w12) w.heap.size (.inr rfl) (.int .i64 aa) (.int .i64 af) (.int .i64 ar)
  have HL13 : Hid _ := L12.out.of fun p => hS3.cell (a := ⟨bl, p, none⟩) (LnAt.lb L12.out) (show ¬ bl = w.heap.size by omega)
  have HM13 : Hid _ := HMX.out.keep (H12.out.mono (G := fun j => j = bl ∨ j = b ∨ j = w.heap.size) (fun _ _ h => h.elim .inl (fun h => .inr (.inl h))) |>.trans hS3 (fun _ _ h => .inr (.inr h))) (by
    rintro j hj (h | h | h)
    · exact hlm (h ▸ hj)
    · exact hbm (h ▸ hj)
    · have := HMw.out.raw.lt hj; omega)
  clear hS3 hb12
  go_wp2_with fail
  refine bodyPost_ret (v := .tuple #[.agg #[.int .i64 aa, .int .i64 af, .int .i64 ar], .bool true, .int .i64 0]) ?_ rfl ⟨rfl, HF.out.1, HM13.out, HL13.out, HF.out.2⟩
  simp [results, Try.results10, go_sem, x0, x1, x2]

set_option maxHeartbeats 1000000 in
theorem cStep_mark1 {bm g0 g1 bl : Nat} {vb : Value} {S : Pg.Fs} {q k : Int} {u : Bool} {t : Int} {lv : Nat} {xw : Int} {x : Int} {er : Int} {ef : Int} (hq : Pg.below q 4096 = true) (hlv : lv < 4) (w : World) (h : CkAt w b ⟨true, q, k, u, t, lv, x⟩ t (lv : Int) xw) (hm : MemAt w bm g0 g1 vb S) (hL : LnAt w bl 0 ⟨⟨0, 0, 0, 0⟩, false⟩) (hLf : ∀ p, w.frozen? ⟨bl, p, none⟩ = false) (hbm : ¬ memF bm g0 g1 vb b) (hlm : ¬ memF bm g0 g1 vb bl) (hbl : b ≠ bl) (hmay : Pg.may er k u = true) (hh : S.has t = true) (hx : x ≠ 0) (hwd : S.word t.toNat (Pg.ix q lv) = x) (hc : Pg.rCode S t (Pg.ix q lv) lv = 0) (he : Pg.rEn S t (Pg.ix q lv) lv = ⟨true, true, er, false, true, ef⟩) :
    Calls Try.prog 10 #[.pointer (some ⟨b, 0, none⟩), .pointer (some ⟨bm, 0, none⟩), .int .i64 root, .pointer (some ⟨bl, 0, none⟩)] w fun e w' => e = .returned (.tuple #[.agg #[.int .i64 (Pg.Wo.res ⟨true, q, k, u, t, lv, x⟩ (.done ⟨true, true, er, true, true, ef⟩ true)).a, .int .i64 (Pg.Wo.res ⟨true, q, k, u, t, lv, x⟩ (.done ⟨true, true, er, true, true, ef⟩ true)).f, .int .i64 (Pg.Wo.res ⟨true, q, k, u, t, lv, x⟩ (.done ⟨true, true, er, true, true, ef⟩ true)).r], .bool (Pg.Wo.res ⟨true, q, k, u, t, lv, x⟩ (.done ⟨true, true, er, true, true, ef⟩ true)).ended, .int .i64 (Pg.Wo.cd (.done ⟨true, true, er, true, true, ef⟩ true))]) ∧ CkEx w' b Pg.Wk.off ∧ MemAt w' bm g0 g1 vb (Pg.Wo.fs S ⟨true, q, k, u, t, lv, x⟩ (.done ⟨true, true, er, true, true, ef⟩ true)) ∧ LnAt w' bl 0 ⟨(Pg.Wo.res ⟨true, q, k, u, t, lv, x⟩ (.done ⟨true, true, er, true, true, ef⟩ true)).m, (Pg.Wo.res ⟨true, q, k, u, t, lv, x⟩ (.done ⟨true, true, er, true, true, ef⟩ true)).d⟩ ∧ Ch8 b 1 (fun j => j = b ∨ j = bl ∨ memF bm g0 g1 vb j) w w' := by
  have HMay := fun W' => lets_any er q k u W'
  rw [hmay] at HMay
  clear hmay

  obtain ⟨W, hW⟩ : ∃ W, W = w.alloc (.cells #[.int .i64 0, .int .i64 0, .int .i64 0] 43) := ⟨_, rfl⟩
  have hBW : Below w.heap.size w W := by rw [hW]; exact balloc (brefl w) _
  have hl := h.lb
  have HKw : Hid _ := h
  have HMw : Hid _ := hm
  have HBW : Hid _ := hBW
  have HKW := h.grow hBW
  have HMW := hm.keep (F := fun _ => False) (But.of_below hBW) (fun _ _ => id)
  have R0 : Hid (W.heap[w.heap.size]? = some (.cells #[.int .i64 0, .int .i64 0, .int .i64 0] 43 (0, 0))) := by rw [hW]; exact heap_alloc_new _ _
  have hrb : ¬ w.heap.size = b := by omega
  have hne : b ≠ w.heap.size := by omega
  have hlW : w.heap.size < W.heap.size := (Array.getElem?_eq_some_iff.1 R0.out).1
  have HT := memTaken_any t W HMW
  rw [hh] at HT
  have k1 := h.c1
  have k5 := h.c5
  simp only at k1 k5

  obtain ⟨tn, rfl⟩ := Int.eq_ofNat_of_zero_le (hm.ok.has_lt hh).1
  have htn : tn < S.n := by have := (hm.ok.has_lt hh).2.1; omega
  have hixl := Pg.ix_lt q lv
  have HIx := indexOf_any q (lv : Int)
  rw [Pg.index_ix hq hlv] at HIx
  have M0 := cell_regrown HMW.raw.c0
  have MW := cell_regrown (HMW.raw.cw tn (Pg.ix q lv) htn hixl)
  have K2 := cell_regrown HKW.c2
  have K5 := cell_regrown HKW.c5
  have K6 := cell_regrown HKW.c6
  simp only at K2 K5 K6
  have hwl := hm.ok.low tn (Pg.ix q lv)
  have hwh := hm.ok.high tn (Pg.ix q lv)
  obtain ⟨e1, e2⟩ := Pg.rCode_of (i := Pg.ix q lv) (lv := lv) hh
  simp only [Int.toNat_natCast] at e1 e2
  have HEO := fun W' => entryOf_any (S.word tn (Pg.ix q lv)) (lv : Int) hwl hwh W'
  rw [Pg.decV_of, ← e1, ← e2, hc, he] at HEO
  simp only [Pg.En.val] at HEO
  clear hwl hwh e1 e2 hc he
  simp only [Int.toNat_natCast] at hwd
  generalize S.word tn (Pg.ix q lv) = wd at *
  generalize hixx : Pg.ix q lv = ixn at *
  have HIXX : Hid _ := hixx
  have i0 : (0 : Int) ≤ (tn : Int) := by omega
  have i1 : (tn : Int) < (S.n : Int) := by omega
  have i2 : (0 : Int) ≤ (ixn : Int) := by omega
  have i3 : (ixn : Int) < 8 := by omega
  clear h hm hBW HKW HMW hixx
  have HLf := fun W' => leafMap_any true true er true true ef (lv : Int) q W'
  rw [Pg.mapV_of ⟨true, true, er, true, true, ef⟩ (lv : Int) q] at HLf
  have hres : Pg.Wo.res ⟨true, q, k, u, (tn : Int), lv, x⟩ (.done ⟨true, true, er, true, true, ef⟩ true) = ⟨true, Pg.aEnd (Pg.En.map ⟨true, true, er, true, true, ef⟩ (lv : Int) q).r k u, Pg.aFrame (Pg.En.map ⟨true, true, er, true, true, ef⟩ (lv : Int) q).p (Pg.En.map ⟨true, true, er, true, true, ef⟩ (lv : Int) q).f (Pg.En.map ⟨true, true, er, true, true, ef⟩ (lv : Int) q).r q k u, Pg.aRights (Pg.En.map ⟨true, true, er, true, true, ef⟩ (lv : Int) q).r k u, Pg.En.map ⟨true, true, er, true, true, ef⟩ (lv : Int) q, true⟩ := rfl
  rw [hres]
  clear hres
  generalize Pg.En.map ⟨true, true, er, true, true, ef⟩ (lv : Int) q = mm at *
  obtain ⟨mp, ms, mf, mr⟩ := mm
  simp only [Pg.Mp.val] at HLf
  have HAn := fun W' => answerOf_any mp ms mf mr q k u W'
  simp only [Pg.Wo.cd, Pg.Wo.fs]
  generalize Pg.aEnd mr k u = aa at *
  generalize Pg.aFrame mp mf mr q k u = af at *
  generalize Pg.aRights mr k u = ar at *
  have HL : Hid (LnAt w bl 0 ⟨⟨0, 0, 0, 0⟩, false⟩) := hL
  have HLF : Hid _ := hLf
  clear hL hLf
  have HST : Hid (Pg.index q (lv : Int) = (Pg.ix q lv : Nat)) := Pg.index_ix hq hlv
  rw [HST.out, HIXX.out]
  have HWo := fun W' => wordOf_any true true er true true ef (lv : Int) W'
  have hv := Pg.enc_bd' true true er true true ef (lv : Int)
  generalize Pg.enc true true er true true ef (lv : Int) = v at *
  have HAt : Hid (S.at' (tn : Int) (ixn : Int) = true) := by rw [Hid, ← HIXX.out, at_hasK S (tn : Int) q lv, hh]
  clear hh
  go_enter Try.func10, Try.ntmps10
  go_wp2_with fail
  rw [← hW]
  refine HT.mono ?_
  rintro e w1 ⟨rfl, hw⟩
  subst w1
  clear hW
  clear HT k1 k5
  go_wp2_with fail
  refine wp_region_quiet_below (by kernel_rfl) (by kernel_rfl) ?_
  repeat (first
    | go_big_quiet_step ((go_at_call 39; exact Calls.regrown_of (HIx _))))
  refine wpQuiet_nil ?_
  intro _ hw'
  obtain ⟨⟨dq, osq⟩, rfl⟩ := hw'
  have hb2 := below_regrown W dq osq
  have HB2 : Hid (Below w.heap.size w (grow (redrawn W dq) osq)) := bthen HBW.out hb2
  have R2 : Hid ((grow (redrawn W dq) osq).heap[w.heap.size]? = _) := (hb2.block _ hlW).trans R0.out
  clear hb2 HIx M0 MW K2 K5 K6 R0 HBW hlW
  generalize grow (redrawn W dq) osq = w2 at *
  have hk2 := HKw.out.grow HB2.out
  have y7 := hk2.c7
  have y8 := hk2.c8
  have y6 := hk2.c6
  have hxd : decide (x ≠ 0) = true := by simpa using hx
  simp only [hxd] at y6 y7 y8
  have hxw := HKw.out.wd hx
  simp only at hxw
  subst hxw
  subst hwd
  have hww : (wd != wd) = false := by simp
  have HX : Hid _ := hx
  clear hxd hx
  have hr2 : w.heap.size < w2.heap.size := (Array.getElem?_eq_some_iff.1 R2.out).1
  have hl2 : b < w2.heap.size := hk2.lb
  clear hk2

  go_wp2_with fail
  refine (HEO _).mono ?_
  rintro e w3 ⟨rfl, hb3⟩
  have HB3 : Hid (Below w.heap.size w w3) := bthen HB2.out hb3
  have R3 : Hid (w3.heap[w.heap.size]? = _) := (hb3.block _ hr2).trans R2.out
  have hr3 : w.heap.size < w3.heap.size := Nat.lt_of_lt_of_le hr2 hb3.size
  have hl3 : b < w3.heap.size := Nat.lt_of_lt_of_le hl2 hb3.size
  have nb3 : b ≠ w3.heap.size := by omega
  have mb3 : w3.heap.size ≠ b := by omega
  have nr3 : w.heap.size ≠ w3.heap.size := by omega
  have mr3 : w3.heap.size ≠ w.heap.size := by omega
  clear hb3 HEO y6 y7 y8 HB2 R2 hr2 hl2

  obtain ⟨W4, hW4⟩ : ∃ W4, W4 = w3.alloc (.cells #[.bool true, .bool true, .int .i64 er, .bool false, .bool true, .int .i64 ef] 93) := ⟨_, rfl⟩
  have hB4 : Below w3.heap.size w3 W4 := by rw [hW4]; exact balloc (brefl _) _
  have HB4 : Hid (Below w.heap.size w W4) := bthen HB3.out hB4
  have R4 : Hid (W4.heap[w.heap.size]? = _) := (hB4.block _ hr3).trans R3.out
  have E4 : Hid (W4.cell? ⟨w3.heap.size, 0, none⟩ = some (.bool true) ∧ W4.cell? ⟨w3.heap.size, 1, none⟩ = some (.bool true) ∧ W4.cell? ⟨w3.heap.size, 2, none⟩ = some (.int .i64 er) ∧ W4.cell? ⟨w3.heap.size, 3, none⟩ = some (.bool false) ∧ W4.cell? ⟨w3.heap.size, 4, none⟩ = some (.bool true) ∧ W4.cell? ⟨w3.heap.size, 5, none⟩ = some (.int .i64 ef)) := by rw [Hid, hW4]; simp [go_sem]
  have F4 : Hid (∀ i, W4.frozen? ⟨w3.heap.size, i, none⟩ = false) := fun i => by rw [hW4]; simp [go_sem]
  have hr4 : w.heap.size < W4.heap.size := by have := hB4.size; omega
  have hl4 : b < W4.heap.size := by have := hB4.size; omega
  have he4 : w3.heap.size < W4.heap.size := by rw [hW4]; simp

  clear hB4
  go_wp2_with fail
  rw [← hW4]
  clear hW4
  have z2 := cell_regrown E4.out.2.2.1
  have y2 := cell_regrown (HKw.out.grow HB4.out).c2
  have y3 := cell_regrown (HKw.out.grow HB4.out).c3
  have y4 := cell_regrown (HKw.out.grow HB4.out).c4
  simp only at y2 y3 y4
  refine wp_region_quiet_below (by kernel_rfl) (by kernel_rfl) ?_
  repeat (first
    | go_big_quiet_step ((go_at_call 42; exact Calls.regrown_of (HMay _))))
  refine wpQuiet_nil ?_
  intro _ hw'
  obtain ⟨⟨dq5, osq5⟩, rfl⟩ := hw'
  have hb5 := below_regrown W4 dq5 osq5
  have HB5 : Hid (Below w.heap.size w (grow (redrawn W4 dq5) osq5)) := bthen HB4.out hb5
  have R5 : Hid ((grow (redrawn W4 dq5) osq5).heap[w.heap.size]? = _) := (hb5.block _ hr4).trans R4.out
  have E5 : Hid _ := later6 hb5 E4.out
  have F5 : Hid (∀ i, (grow (redrawn W4 dq5) osq5).frozen? ⟨w3.heap.size, i, none⟩ = false) := fun i => (hb5.frozen (p := ⟨w3.heap.size, i, none⟩) he4).trans (F4.out i)
  have hr5 : w.heap.size < (grow (redrawn W4 dq5) osq5).heap.size := Nat.lt_of_lt_of_le hr4 hb5.size
  have hl5 : b < (grow (redrawn W4 dq5) osq5).heap.size := Nat.lt_of_lt_of_le hl4 hb5.size
  have he5 : w3.heap.size < (grow (redrawn W4 dq5) osq5).heap.size := Nat.lt_of_lt_of_le he4 hb5.size
  clear hb5 z2 y2 y3 y4 E4 F4 HMay HB4 R4 hr4 hl4 he4 HB3 R3 hl3
  generalize grow (redrawn W4 dq5) osq5 = w5 at *
  generalize w3.heap.size = Eb at *

  obtain ⟨z0, z1, z2, z3, z4, z5⟩ := E5.out
  have zf := F5.out
  have hk5 := HKw.out.grow HB5.out
  have y3 := hk5.c3
  have y7 := hk5.c7
  simp only at y3 y7
  have hxd : decide (wd ≠ 0) = true := by simpa using HX.out
  rw [hxd] at y7
  clear hk5 hxd
  obtain ⟨W6, hW6⟩ : ∃ W6, W6 = ((w5.setCell ⟨Eb, 3, none⟩ (.bool true)).setCell ⟨Eb, 4, none⟩ (.bool true)) := ⟨_, rfl⟩
  have hEbw : w.heap.size < Eb := by omega
  have hB56 : Below w.heap.size w5 W6 := by
    have hE : w.heap.size ≤ Eb := by omega
    rw [hW6]
    exact ((Below.refl _ w5).setCell hE _).setCell hE _
  have HB6 : Hid (Below w.heap.size w W6) := HB5.out.trans hB56
  have E6 : Hid (W6.cell? ⟨Eb, 0, none⟩ = some (.bool true) ∧ W6.cell? ⟨Eb, 1, none⟩ = some (.bool true) ∧ W6.cell? ⟨Eb, 2, none⟩ = some (.int .i64 er) ∧ W6.cell? ⟨Eb, 3, none⟩ = some (.bool true) ∧ W6.cell? ⟨Eb, 4, none⟩ = some (.bool true) ∧ W6.cell? ⟨Eb, 5, none⟩ = some (.int .i64 ef)) := by rw [Hid, hW6]; simp [go_sem, z0, z1, z2, z3, z4, z5]
  have R6 : Hid (W6.heap[w.heap.size]? = some (.cells #[.int .i64 0, .int .i64 0, .int .i64 0] 43 (0, 0))) := by
    have hnE : w.heap.size ≠ Eb := by omega
    rw [hW6, Below.heap_setCell _ _ _ _ hnE, Below.heap_setCell _ _ _ _ hnE]
    exact R5.out
  go_wp2_with fail
  rw [← hW6]
  clear hW6 z0 z1 z2 z3 z4 z5 zf y3 y7 hB56 E5 F5 R5 HB5 hr5 hl5 he5
  have hk6 := HKw.out.grow HB6.out
  have hm6 := HMw.out.keep (F := fun _ => False) (But.of_below HB6.out) (fun _ _ => id)
  have c0 := hm6.raw.c0
  have c1 := hk6.c5
  have c2 := hk6.c2
  have c3 := hk6.c6
  simp only at c2
  have hlb6 := hk6.lb
  have hlm6 := hm6.raw.lb
  obtain ⟨c4, c5, c6, c7, c8, c9⟩ := E6.out
  have HIx2 := indexOf_any q (lv : Int)
  rw [Pg.index_ix hq hlv, HIXX.out] at HIx2
  have hg0 := HMw.out.raw.l0
  have ng1 : g0 ≠ bm := HMw.out.raw.n0
  have ng2 : bm ≠ g0 := fun e => ng1 e.symm
  have ng3 : g0 ≠ b := fun e => hbm (.inr (.inl e.symm))
  have ng4 : b ≠ g0 := fun e => ng3 e.symm
  have ng5 : g0 ≠ Eb := by omega
  have ng6 : Eb ≠ g0 := by omega
  clear hk6 hm6
  go_region_held3 (fun w' => w'.cell? ⟨bm, 0, none⟩ = some (.slice (some ⟨g0, 0, none⟩) S.n S.n) ∧ w'.cell? ⟨b, 5, none⟩ = some (.int .i64 (tn : Int)) ∧ w'.cell? ⟨b, 2, none⟩ = some (.int .i64 q) ∧ w'.cell? ⟨b, 6, none⟩ = some (.int .i64 (lv : Int)) ∧ w'.cell? ⟨Eb, 0, none⟩ = some (.bool true) ∧ w'.cell? ⟨Eb, 1, none⟩ = some (.bool true) ∧ w'.cell? ⟨Eb, 2, none⟩ = some (.int .i64 er) ∧ w'.cell? ⟨Eb, 3, none⟩ = some (.bool true) ∧ w'.cell? ⟨Eb, 4, none⟩ = some (.bool true) ∧ w'.cell? ⟨Eb, 5, none⟩ = some (.int .i64 ef)) (go_keep) (first
    | (go_at_call 43; refine (HWo _).mono ?_; rintro en w8 ⟨rfl, hb8⟩; have HB8 : Hid (Below w.heap.size w w8) := bthen (bthen HB6.out HB7.out) hb8; have HB78 : Hid _ := hb8; have b0 := cell_later HB78.out a0; have b1 := cell_later HB78.out a1; have b2 := cell_later HB78.out a2; have b3 := cell_later HB78.out a3; have b4 := cell_later HB78.out a4; have b5 := cell_later HB78.out a5; have b6 := cell_later HB78.out a6; have b7 := cell_later HB78.out a7; have b8 := cell_later HB78.out a8; have b9 := cell_later HB78.out a9; have hm8 := HMw.out.keep (F := fun _ => False) (But.of_below HB8.out) (fun _ _ => id); have gw := hm8.raw.cw tn ixn htn hixl; have gf := hm8.raw.f0; have gl := hm8.raw.l0; clear hm8 hb8)
    | (go_at_call 39; refine (HIx2 _).mono ?_; rintro en w7 ⟨rfl, hb7⟩; have HB7 : Hid (Below W6.heap.size W6 w7) := (by first | exact bthen (brefl W6).drew hb7 | exact hb7); have a0 := cell_later HB7.out c0; have a1 := cell_later HB7.out c1; have a2 := cell_later HB7.out c2; have a3 := cell_later HB7.out c3; have a4 := cell_later HB7.out c4; have a5 := cell_later HB7.out c5; have a6 := cell_later HB7.out c6; have a7 := cell_later HB7.out c7; have a8 := cell_later HB7.out c8; have a9 := cell_later HB7.out c9; clear hb7))
  go_wp2_with fail
  obtain ⟨WX, hWX⟩ : ∃ WX, WX = w8.setCell ⟨g0, tn * 8 + ixn, none⟩ (.int .u64 v) := ⟨_, rfl⟩
  rw [← hWX]
  have HDX : Hid (But (fun j => j = g0) w WX) := by rw [Hid, hWX]; exact (But.of_below (F := fun j => j = g0) HB8.out).setCell (a := ⟨g0, tn * 8 + ixn, none⟩) (.inr rfl) _
  have HMX : Hid (MemAt WX bm g0 g1 vb (S.store (tn : Int) (ixn : Int) v)) := by
    have hm8 := HMw.out.keep (F := fun _ => False) (But.of_below HB8.out) (fun _ _ => id)
    have e3 : S.store (tn : Int) (ixn : Int) v = { S with word := Pg.Fs.put S.word tn ixn v } := by simp [Pg.Fs.store, HAt.out]
    refine ⟨?_, hm8.ok.store (tn : Int) (ixn : Int) hv.1 hv.2⟩
    rw [e3, hWX]
    exact hm8.raw.put htn hixl v
  have hkE : WX.heap[Eb]? = w8.heap[Eb]? := by rw [hWX]; exact Below.heap_setCell _ _ _ _ ng6
  have EX : Hid _ := six_blockK hkE ⟨b4, b5, b6, b7, b8, b9⟩
  have hbr : w8.heap[w.heap.size]? = W6.heap[w.heap.size]? := (HB78.out.block _ (Nat.lt_of_lt_of_le (Array.getElem?_eq_some_iff.1 R6.out).1 HB7.out.size)).trans (HB7.out.block _ (Array.getElem?_eq_some_iff.1 R6.out).1)
  have RX : Hid (WX.heap[w.heap.size]? = some (.cells #[.int .i64 0, .int .i64 0, .int .i64 0] 43 (0, 0))) := by
    rw [Hid, hWX, Below.heap_setCell _ _ _ _ (show w.heap.size ≠ g0 by omega)]
    exact hbr.trans R6.out
  clear a0 a1 a2 a3 a4 a5 a6 a7 a8 a9 b0 b1 b2 b3 b4 b5 b6 b7 b8 b9 c0 c1 c2 c3 c4 c5 c6 c7 c8 c9 gw gf gl hkE hbr hWX HB7 HB78 HB8 HB6 E6 R6 HWo HIx2 hv

  have hLl : bl < w.heap.size := LnAt.lb HL.out
  have hDb : ¬ (fun j => j = g0) b := (fun e => hbm (.inr (.inl e)))
  have hDl : ¬ (fun j => j = g0) bl := (fun e => hlm (.inr (.inl e)))
  have hkX := HKw.out.keep HDX.out hDb
  have g0' := cell_regrown EX.out.1
  have g1' := cell_regrown EX.out.2.1
  have g2' := cell_regrown EX.out.2.2.1
  have g3' := cell_regrown EX.out.2.2.2.1
  have g4' := cell_regrown EX.out.2.2.2.2.1
  have g5' := cell_regrown EX.out.2.2.2.2.2
  have k2' := cell_regrown hkX.c2
  have k6' := cell_regrown hkX.c6
  simp only at k2' k6'
  clear hkX
  refine Loose.wp_region_alloc 11 15 (.cells #[.int .i64 0, .int .i64 0, .int .i64 0, .int .i64 0] 39) _ (by kernel_rfl) (by kernel_rfl) rfl rfl rfl (by intro a w; simp [go_sem]) ?_
  simp only [List.take_succ_cons, List.take_zero, List.drop_succ_cons, List.drop_zero]
  repeat (
    refine Loose.wpGent_step (fun k hk => ?_)
    go_simp
    first
      | (refine hk _ ?_; clear hk k)
      | (apply Exists.intro
         refine ⟨fun _ => ?_, hk _ ?_⟩
         (go_at_call 44; exact Loose.calls (HLf _))
         clear hk k))
  refine Loose.wpGent_nil ?_
  intro bx w6 hb6 hbX hX
  have cb : w6.cell? ⟨bx, 0, none⟩ = some (.int .i64 0) ∧ w6.cell? ⟨bx, 1, none⟩ = some (.int .i64 0) ∧ w6.cell? ⟨bx, 2, none⟩ = some (.int .i64 0) ∧ w6.cell? ⟨bx, 3, none⟩ = some (.int .i64 0) := by
    simp [World.cell?, hX]
  obtain ⟨cb0, cb1, cb2, cb3⟩ := cb
  have fbx : ∀ i, w6.frozen? ⟨bx, i, none⟩ = false := fun i => by simp [World.frozen?, hX]
  have hB7 : Below WX.heap.size WX ((((w6.setCell ⟨bx, 0, none⟩ (.int .i64 mp)).setCell ⟨bx, 1, none⟩ (.int .i64 ms)).setCell ⟨bx, 2, none⟩ (.int .i64 mf)).setCell ⟨bx, 3, none⟩ (.int .i64 mr)) := below_set4 hb6 _ hbX _ _ _ _
  have m4 : ((((w6.setCell ⟨bx, 0, none⟩ (.int .i64 mp)).setCell ⟨bx, 1, none⟩ (.int .i64 ms)).setCell ⟨bx, 2, none⟩ (.int .i64 mf)).setCell ⟨bx, 3, none⟩ (.int .i64 mr)).cell? ⟨bx, 0, none⟩ = some (.int .i64 mp) ∧ ((((w6.setCell ⟨bx, 0, none⟩ (.int .i64 mp)).setCell ⟨bx, 1, none⟩ (.int .i64 ms)).setCell ⟨bx, 2, none⟩ (.int .i64 mf)).setCell ⟨bx, 3, none⟩ (.int .i64 mr)).cell? ⟨bx, 1, none⟩ = some (.int .i64 ms) ∧ ((((w6.setCell ⟨bx, 0, none⟩ (.int .i64 mp)).setCell ⟨bx, 1, none⟩ (.int .i64 ms)).setCell ⟨bx, 2, none⟩ (.int .i64 mf)).setCell ⟨bx, 3, none⟩ (.int .i64 mr)).cell? ⟨bx, 2, none⟩ = some (.int .i64 mf) ∧ ((((w6.setCell ⟨bx, 0, none⟩ (.int .i64 mp)).setCell ⟨bx, 1, none⟩ (.int .i64 ms)).setCell ⟨bx, 2, none⟩ (.int .i64 mf)).setCell ⟨bx, 3, none⟩ (.int .i64 mr)).cell? ⟨bx, 3, none⟩ = some (.int .i64 mr) := by simp [go_sem, cb0, cb1, cb2, cb3]
  have hsX : w.heap.size ≤ WX.heap.size := HDX.out.size
  have nbx : bx ≠ bl := by omega
  have mbx : bl ≠ bx := by omega
  have d4 := hb6.cell (p := ⟨Eb, 4, none⟩) (World.block_lt_of_cell? _ _ EX.out.2.2.2.2.1)
  have d4' := d4.trans EX.out.2.2.2.2.1
  have nEx : Eb ≠ bx := by have := World.block_lt_of_cell? _ _ EX.out.1; simp only at this; omega
  have mEx : bx ≠ Eb := fun e => nEx e.symm
  have nEl : Eb ≠ bl := by omega
  have mEl : bl ≠ Eb := by omega
  have hLX := HL.out.of (w' := WX) fun p => HDX.out.cell (a := ⟨bl, p, none⟩) hLl hDl
  have hL6 := hLX.below hb6 (Nat.lt_of_lt_of_le hLl hsX)
  have lf6 : ∀ i, w6.frozen? ⟨bl, i, none⟩ = false := fun i => (hb6.frozen (p := ⟨bl, i, none⟩) (Nat.lt_of_lt_of_le hLl hsX)).trans ((HDX.out.frozen (a := ⟨bl, i, none⟩) hLl hDl).trans (HLF.out i))
  obtain ⟨l0, l1, l2, l3, l4⟩ := hL6
  simp only [Nat.zero_add] at l1 l2 l3 l4
  generalize hW7 : ((((w6.setCell ⟨bx, 0, none⟩ (.int .i64 mp)).setCell ⟨bx, 1, none⟩ (.int .i64 ms)).setCell ⟨bx, 2, none⟩ (.int .i64 mf)).setCell ⟨bx, 3, none⟩ (.int .i64 mr)) = W7 at *
  have HB7 : Hid _ := hB7
  have M4 : Hid _ := m4
  obtain ⟨W8, hW8⟩ : ∃ W8, W8 = (((((W7.setCell ⟨bl, 0, none⟩ (.int .i64 mp)).setCell ⟨bl, 1, none⟩ (.int .i64 ms)).setCell ⟨bl, 2, none⟩ (.int .i64 mf)).setCell ⟨bl, 3, none⟩ (.int .i64 mr)).setCell ⟨bl, 4, none⟩ (.bool true)) := ⟨_, rfl⟩
  have hB8 : But (fun j => j = bl) W7 W8 := by rw [hW8]; exact (but_set4 (F := fun j => j = bl) (But.refl _ W7) bl (.inr rfl) _ _ _ _).setCell (a := ⟨bl, 4, none⟩) (.inr rfl) _
  have hk7 : W7.heap[bl]? = w6.heap[bl]? := by rw [← hW7, Below.heap_setCell _ _ _ _ mbx, Below.heap_setCell _ _ _ _ mbx, Below.heap_setCell _ _ _ _ mbx, Below.heap_setCell _ _ _ _ mbx]
  have t0 := (World.cell?_of_block (a := ⟨bl, 0, none⟩) hk7).trans l0
  have t1 := (World.cell?_of_block (a := ⟨bl, 1, none⟩) hk7).trans l1
  have t2 := (World.cell?_of_block (a := ⟨bl, 2, none⟩) hk7).trans l2
  have t3 := (World.cell?_of_block (a := ⟨bl, 3, none⟩) hk7).trans l3
  have t4 := (World.cell?_of_block (a := ⟨bl, 4, none⟩) hk7).trans l4
  have L8 : Hid (LnAt W8 bl 0 ⟨⟨mp, ms, mf, mr⟩, true⟩) := by
    rw [Hid, hW8]
    refine ⟨?_, ?_, ?_, ?_, ?_⟩ <;> simp [go_sem, t0, t1, t2, t3, t4]
  have H78 : Hid (But (fun j => j = bl) WX W8) := (But.of_below (F := fun j => j = bl) hB7).trans hB8 (fun _ _ h => h)
  have M8 : Hid (W8.cell? ⟨bx, 0, none⟩ = some (.int .i64 mp) ∧ W8.cell? ⟨bx, 1, none⟩ = some (.int .i64 ms) ∧ W8.cell? ⟨bx, 2, none⟩ = some (.int .i64 mf) ∧ W8.cell? ⟨bx, 3, none⟩ = some (.int .i64 mr)) := by
    have hk : W8.heap[bx]? = W7.heap[bx]? := hB8.block bx (World.block_lt_of_cell? _ _ m4.1) nbx
    exact ⟨(World.cell?_of_block hk).trans m4.1, (World.cell?_of_block hk).trans m4.2.1, (World.cell?_of_block hk).trans m4.2.2.1, (World.cell?_of_block hk).trans m4.2.2.2⟩
  have tf : ∀ i, W7.frozen? ⟨bl, i, none⟩ = false := fun i => (World.frozen?_of_block (a := ⟨bl, i, none⟩) hk7).trans (lf6 i)
  have d7 : W7.cell? ⟨Eb, 4, none⟩ = some (.bool true) := by
    have hkE : W7.heap[Eb]? = w6.heap[Eb]? := by rw [← hW7, Below.heap_setCell _ _ _ _ nEx, Below.heap_setCell _ _ _ _ nEx, Below.heap_setCell _ _ _ _ nEx, Below.heap_setCell _ _ _ _ nEx]
    exact (World.cell?_of_block (a := ⟨Eb, 4, none⟩) hkE).trans d4'
  obtain ⟨p0, p1, p2, p3⟩ := m4
  clear hk7 hB8 hB7 d4 hLX g0' g1' g2' g3' g4' g5' k2' k6' hX
  go_wp2_with fail
  rw [← hW8]
  clear hW7 hW8 t0 t1 t2 t3 t4 tf d7 p0 p1 p2 p3 cb0 cb1 cb2 cb3 fbx d4' l0 l1 l2 l3 l4 lf6
  have H8 : Hid (But (fun j => (fun j => j = g0) j ∨ j = bl) w W8) := (HDX.out.mono (fun _ _ h => .inl h)).trans H78.out (fun _ _ h => .inr h)
  have hb8D : ¬ ((fun j => j = g0) b ∨ b = bl) := by rintro (h | h); exact hDb h; exact hbl h
  have hk8 := HKw.out.keep H8.out hb8D
  have q0' := cell_regrown M8.out.1
  have q1' := cell_regrown M8.out.2.1
  have q2' := cell_regrown M8.out.2.2.1
  have q3' := cell_regrown M8.out.2.2.2
  have k2' := cell_regrown hk8.c2
  have k3' := cell_regrown hk8.c3
  have k4' := cell_regrown hk8.c4
  simp only at k2' k3' k4'
  clear hk8
  refine Loose.wp_region_late2 7 8 11 (by kernel_rfl) (by kernel_rfl) ?_
  simp only [List.take_succ_cons, List.take_zero, List.drop_succ_cons, List.drop_zero]
  repeat (
    refine Loose.wpGent_step (fun k hk => ?_)
    go_simp
    first
      | (refine hk _ ?_; clear hk k)
      | (apply Exists.intro
         refine ⟨fun _ => ?_, hk _ ?_⟩
         (go_at_call 38; exact Loose.calls (HAn _))
         clear hk k))
  refine Loose.wpGent_nil ?_
  intro w10 hb10
  have H10 : Hid (But (fun j => j = bl) WX w10) := H78.out.trans (But.of_below (F := fun j => j = bl) hb10) (fun _ _ h => h)
  have L10 : Hid (LnAt w10 bl 0 ⟨⟨mp, ms, mf, mr⟩, true⟩) := LnAt.below L8.out hb10 (LnAt.lb L8.out)
  clear q0' q1' q2' q3' k2' k3' k4' hb10 HAn L8 M8 H78 H8
  have H10w : Hid (But (fun j => (fun j => j = g0) j ∨ j = bl) w w10) := (HDX.out.mono (fun _ _ h => .inl h)).trans H10.out (fun _ _ h => .inr h)
  have HE := cEnd_any aa af ar w10 ⟨_, _, _, HKw.out.keep H10w.out hb8D⟩
  go_wp2_with fail
  refine HE.mono ?_
  rintro e w11 ⟨rfl, hk11, hc11⟩
  have HK11 : Hid (CkEx w11 b Pg.Wk.off) := hk11
  have H11 : Hid (But (fun j => j = bl ∨ j = b) WX w11) := (H10.out.mono (fun _ _ h => .inl h)).trans hc11.but (fun _ _ h => .inr h)
  have HC11 : Hid (Ch8 b 1 (fun j => j = b ∨ j = bl ∨ memF bm g0 g1 vb j) w w11) := ((Ch8.of_but (o := 1) H10w.out hl hb8D).mono (G := fun j => j = b ∨ j = bl ∨ memF bm g0 g1 vb j) (fun _ _ h => h.elim (fun h => .inr (.inr (.inr (.inl h)))) (fun h => .inr (.inl h)))).trans hc11 (fun _ _ h => .inl h)
  have L11 : Hid (LnAt w11 bl 0 ⟨⟨mp, ms, mf, mr⟩, true⟩) := L10.out.of fun p => hc11.but.cell (a := ⟨bl, p, none⟩) (LnAt.lb L10.out) (fun e => hbl e.symm)
  have R11 : Hid (w11.heap[w.heap.size]? = _) := (H11.out.block _ (Array.getElem?_eq_some_iff.1 RX.out).1 (by rintro (h | h); omega; exact hrb h)).trans RX.out
  clear hk11 hc11 HE L10 H10 H10w
  go_wp2_with fail
  repeat (
    refine Loose.wpGent_step (fun k hk => ?_)
    go_simp
    (refine hk _ ?_; clear hk k))
  refine Loose.wpGent_nil ?_
  intro w12 hb12
  have HK12 : Hid _ := HK11.out.of_block (hb12.block b HK11.out.lb)
  have H12 : Hid (But (fun j => j = bl ∨ j = b) WX w12) := H11.out.trans (But.of_below (F := fun j => j = bl ∨ j = b) hb12) (fun _ _ h => h)
  have HC12 : Hid (Ch8 b 1 (fun j => j = b ∨ j = bl ∨ memF bm g0 g1 vb j) w w12) := HC11.out.trans (Ch8.of_below (F := fun j => j = b ∨ j = bl ∨ memF bm g0 g1 vb j) hb12 HK11.out.lb) (fun _ _ h => h)
  have L12 : Hid (LnAt w12 bl 0 ⟨⟨mp, ms, mf, mr⟩, true⟩) := LnAt.below L11.out hb12 (LnAt.lb L11.out)
  have R12 : Hid (w12.heap[w.heap.size]? = _) := (hb12.block _ (Array.getElem?_eq_some_iff.1 R11.out).1).trans R11.out
  obtain ⟨⟨x0, x1, x2⟩, xf⟩ := row3 R12.out
  have HF : Hid _ := fin3 hrb (Nat.le_refl _) ⟨HK12.out, HC12.out⟩ (.int .i64 aa) (.int .i64 af) (.int .i64 ar)
  have hS3 := but_set3 (F := fun j => j = w.heap.size) (But.refl _ w12) w.heap.size (.inr rfl) (.int .i64 aa) (.int .i64 af) (.int .i64 ar)
  have HL13 : Hid _ := L12.out.of fun p => hS3.cell (a := ⟨bl, p, none⟩) (LnAt.lb L12.out) (show ¬ bl = w.heap.size by omega)
  have HM13 : Hid _ := HMX.out.keep (H12.out.mono (G := fun j => j = bl ∨ j = b ∨ j = w.heap.size) (fun _ _ h => h.elim .inl (fun h => .inr (.inl h))) |>.trans hS3 (fun _ _ h => .inr (.inr h))) (by
    rintro j hj (h | h | h)
    · exact hlm (h ▸ hj)
    · exact hbm (h ▸ hj)
    · have := HMw.out.raw.lt hj; omega)
  clear hS3 hb12
  go_wp2_with fail
  refine bodyPost_ret (v := .tuple #[.agg #[.int .i64 aa, .int .i64 af, .int .i64 ar], .bool true, .int .i64 0]) ?_ rfl ⟨rfl, HF.out.1, HM13.out, HL13.out, HF.out.2⟩
  simp [results, Try.results10, go_sem, x0, x1, x2]

end
end Go.Proofs.Ytbkpndgadgafiae

namespace Go.Proofs.Ytbkpndgadgafiae
open Go.RowKit Go.Sort
set_option linter.unusedVariables false
set_option linter.unusedSimpArgs false
set_option maxRecDepth 100000
attribute [local go_sem] Loose.gent

section
variable {b : Nat} {root : Int}
set_option maxHeartbeats 1000000 in
theorem cStep_mark2 {bm g0 g1 bl : Nat} {vb : Value} {S : Pg.Fs} {q k : Int} {u : Bool} {t : Int} {lv : Nat} {xw : Int} {x : Int} {er : Int} {ef : Int} {d' : Bool} (hq : Pg.below q 4096 = true) (hlv : lv < 4) (w : World) (h : CkAt w b ⟨true, q, k, u, t, lv, x⟩ t (lv : Int) xw) (hm : MemAt w bm g0 g1 vb S) (hk1 : (k == 1) = d') (hL : LnAt w bl 0 ⟨⟨0, 0, 0, 0⟩, false⟩) (hLf : ∀ p, w.frozen? ⟨bl, p, none⟩ = false) (hbm : ¬ memF bm g0 g1 vb b) (hlm : ¬ memF bm g0 g1 vb bl) (hbl : b ≠ bl) (hmay : Pg.may er k u = true) (hh : S.has t = true) (hx : x ≠ 0) (hwd : S.word t.toNat (Pg.ix q lv) = x) (hc : Pg.rCode S t (Pg.ix q lv) lv = 0) (he : Pg.rEn S t (Pg.ix q lv) lv = ⟨true, true, er, false, false, ef⟩) :
    Calls Try.prog 10 #[.pointer (some ⟨b, 0, none⟩), .pointer (some ⟨bm, 0, none⟩), .int .i64 root, .pointer (some ⟨bl, 0, none⟩)] w fun e w' => e = .returned (.tuple #[.agg #[.int .i64 (Pg.Wo.res ⟨true, q, k, u, t, lv, x⟩ (.done ⟨true, true, er, true, d', ef⟩ true)).a, .int .i64 (Pg.Wo.res ⟨true, q, k, u, t, lv, x⟩ (.done ⟨true, true, er, true, d', ef⟩ true)).f, .int .i64 (Pg.Wo.res ⟨true, q, k, u, t, lv, x⟩ (.done ⟨true, true, er, true, d', ef⟩ true)).r], .bool (Pg.Wo.res ⟨true, q, k, u, t, lv, x⟩ (.done ⟨true, true, er, true, d', ef⟩ true)).ended, .int .i64 (Pg.Wo.cd (.done ⟨true, true, er, true, d', ef⟩ true))]) ∧ CkEx w' b Pg.Wk.off ∧ MemAt w' bm g0 g1 vb (Pg.Wo.fs S ⟨true, q, k, u, t, lv, x⟩ (.done ⟨true, true, er, true, d', ef⟩ true)) ∧ LnAt w' bl 0 ⟨(Pg.Wo.res ⟨true, q, k, u, t, lv, x⟩ (.done ⟨true, true, er, true, d', ef⟩ true)).m, (Pg.Wo.res ⟨true, q, k, u, t, lv, x⟩ (.done ⟨true, true, er, true, d', ef⟩ true)).d⟩ ∧ Ch8 b 1 (fun j => j = b ∨ j = bl ∨ memF bm g0 g1 vb j) w w' := by
  have HMay := fun W' => lets_any er q k u W'
  rw [hmay] at HMay
  clear hmay

  obtain ⟨W, hW⟩ : ∃ W, W = w.alloc (.cells #[.int .i64 0, .int .i64 0, .int .i64 0] 43) := ⟨_, rfl⟩
  have hBW : Below w.heap.size w W := by rw [hW]; exact balloc (brefl w) _
  have hl := h.lb
  have HKw : Hid _ := h
  have HMw : Hid _ := hm
  have HBW : Hid _ := hBW
  have HKW := h.grow hBW
  have HMW := hm.keep (F := fun _ => False) (But.of_below hBW) (fun _ _ => id)
  have R0 : Hid (W.heap[w.heap.size]? = some (.cells #[.int .i64 0, .int .i64 0, .int .i64 0] 43 (0, 0))) := by rw [hW]; exact heap_alloc_new _ _
  have hrb : ¬ w.heap.size = b := by omega
  have hne : b ≠ w.heap.size := by omega
  have hlW : w.heap.size < W.heap.size := (Array.getElem?_eq_some_iff.1 R0.out).1
  have HT := memTaken_any t W HMW
  rw [hh] at HT
  have k1 := h.c1
  have k5 := h.c5
  simp only at k1 k5

  obtain ⟨tn, rfl⟩ := Int.eq_ofNat_of_zero_le (hm.ok.has_lt hh).1
  have htn : tn < S.n := by have := (hm.ok.has_lt hh).2.1; omega
  have hixl := Pg.ix_lt q lv
  have HIx := indexOf_any q (lv : Int)
  rw [Pg.index_ix hq hlv] at HIx
  have M0 := cell_regrown HMW.raw.c0
  have MW := cell_regrown (HMW.raw.cw tn (Pg.ix q lv) htn hixl)
  have K2 := cell_regrown HKW.c2
  have K5 := cell_regrown HKW.c5
  have K6 := cell_regrown HKW.c6
  simp only at K2 K5 K6
  have hwl := hm.ok.low tn (Pg.ix q lv)
  have hwh := hm.ok.high tn (Pg.ix q lv)
  obtain ⟨e1, e2⟩ := Pg.rCode_of (i := Pg.ix q lv) (lv := lv) hh
  simp only [Int.toNat_natCast] at e1 e2
  have HEO := fun W' => entryOf_any (S.word tn (Pg.ix q lv)) (lv : Int) hwl hwh W'
  rw [Pg.decV_of, ← e1, ← e2, hc, he] at HEO
  simp only [Pg.En.val] at HEO
  clear hwl hwh e1 e2 hc he
  simp only [Int.toNat_natCast] at hwd
  generalize S.word tn (Pg.ix q lv) = wd at *
  generalize hixx : Pg.ix q lv = ixn at *
  have HIXX : Hid _ := hixx
  have i0 : (0 : Int) ≤ (tn : Int) := by omega
  have i1 : (tn : Int) < (S.n : Int) := by omega
  have i2 : (0 : Int) ≤ (ixn : Int) := by omega
  have i3 : (ixn : Int) < 8 := by omega
  clear h hm hBW HKW HMW hixx
  have HLf := fun W' => leafMap_any true true er true d' ef (lv : Int) q W'
  rw [Pg.mapV_of ⟨true, true, er, true, d', ef⟩ (lv : Int) q] at HLf
  have hres : Pg.Wo.res ⟨true, q, k, u, (tn : Int), lv, x⟩ (.done ⟨true, true, er, true, d', ef⟩ true) = ⟨true, Pg.aEnd (Pg.En.map ⟨true, true, er, true, d', ef⟩ (lv : Int) q).r k u, Pg.aFrame (Pg.En.map ⟨true, true, er, true, d', ef⟩ (lv : Int) q).p (Pg.En.map ⟨true, true, er, true, d', ef⟩ (lv : Int) q).f (Pg.En.map ⟨true, true, er, true, d', ef⟩ (lv : Int) q).r q k u, Pg.aRights (Pg.En.map ⟨true, true, er, true, d', ef⟩ (lv : Int) q).r k u, Pg.En.map ⟨true, true, er, true, d', ef⟩ (lv : Int) q, d'⟩ := rfl
  rw [hres]
  clear hres
  generalize Pg.En.map ⟨true, true, er, true, d', ef⟩ (lv : Int) q = mm at *
  obtain ⟨mp, ms, mf, mr⟩ := mm
  simp only [Pg.Mp.val] at HLf
  have HAn := fun W' => answerOf_any mp ms mf mr q k u W'
  simp only [Pg.Wo.cd, Pg.Wo.fs]
  generalize Pg.aEnd mr k u = aa at *
  generalize Pg.aFrame mp mf mr q k u = af at *
  generalize Pg.aRights mr k u = ar at *
  have HL : Hid (LnAt w bl 0 ⟨⟨0, 0, 0, 0⟩, false⟩) := hL
  have HLF : Hid _ := hLf
  clear hL hLf
  have HST : Hid (Pg.index q (lv : Int) = (Pg.ix q lv : Nat)) := Pg.index_ix hq hlv
  rw [HST.out, HIXX.out]
  have HWo := fun W' => wordOf_any true true er true d' ef (lv : Int) W'
  have hv := Pg.enc_bd' true true er true d' ef (lv : Int)
  generalize Pg.enc true true er true d' ef (lv : Int) = v at *
  have HAt : Hid (S.at' (tn : Int) (ixn : Int) = true) := by rw [Hid, ← HIXX.out, at_hasK S (tn : Int) q lv, hh]
  clear hh
  go_enter Try.func10, Try.ntmps10
  go_wp2_with fail
  rw [← hW]
  refine HT.mono ?_
  rintro e w1 ⟨rfl, hw⟩
  subst w1
  clear hW
  clear HT k1 k5
  go_wp2_with fail
  refine wp_region_quiet_below (by kernel_rfl) (by kernel_rfl) ?_
  repeat (first
    | go_big_quiet_step ((go_at_call 39; exact Calls.regrown_of (HIx _))))
  refine wpQuiet_nil ?_
  intro _ hw'
  obtain ⟨⟨dq, osq⟩, rfl⟩ := hw'
  have hb2 := below_regrown W dq osq
  have HB2 : Hid (Below w.heap.size w (grow (redrawn W dq) osq)) := bthen HBW.out hb2
  have R2 : Hid ((grow (redrawn W dq) osq).heap[w.heap.size]? = _) := (hb2.block _ hlW).trans R0.out
  clear hb2 HIx M0 MW K2 K5 K6 R0 HBW hlW
  generalize grow (redrawn W dq) osq = w2 at *
  have hk2 := HKw.out.grow HB2.out
  have y7 := hk2.c7
  have y8 := hk2.c8
  have y6 := hk2.c6
  have hxd : decide (x ≠ 0) = true := by simpa using hx
  simp only [hxd] at y6 y7 y8
  have hxw := HKw.out.wd hx
  simp only at hxw
  subst hxw
  subst hwd
  have hww : (wd != wd) = false := by simp
  have HX : Hid _ := hx
  clear hxd hx
  have hr2 : w.heap.size < w2.heap.size := (Array.getElem?_eq_some_iff.1 R2.out).1
  have hl2 : b < w2.heap.size := hk2.lb
  clear hk2

  go_wp2_with fail
  refine (HEO _).mono ?_
  rintro e w3 ⟨rfl, hb3⟩
  have HB3 : Hid (Below w.heap.size w w3) := bthen HB2.out hb3
  have R3 : Hid (w3.heap[w.heap.size]? = _) := (hb3.block _ hr2).trans R2.out
  have hr3 : w.heap.size < w3.heap.size := Nat.lt_of_lt_of_le hr2 hb3.size
  have hl3 : b < w3.heap.size := Nat.lt_of_lt_of_le hl2 hb3.size
  have nb3 : b ≠ w3.heap.size := by omega
  have mb3 : w3.heap.size ≠ b := by omega
  have nr3 : w.heap.size ≠ w3.heap.size := by omega
  have mr3 : w3.heap.size ≠ w.heap.size := by omega
  clear hb3 HEO y6 y7 y8 HB2 R2 hr2 hl2

  obtain ⟨W4, hW4⟩ : ∃ W4, W4 = w3.alloc (.cells #[.bool true, .bool true, .int .i64 er, .bool false, .bool false, .int .i64 ef] 93) := ⟨_, rfl⟩
  have hB4 : Below w3.heap.size w3 W4 := by rw [hW4]; exact balloc (brefl _) _
  have HB4 : Hid (Below w.heap.size w W4) := bthen HB3.out hB4
  have R4 : Hid (W4.heap[w.heap.size]? = _) := (hB4.block _ hr3).trans R3.out
  have E4 : Hid (W4.cell? ⟨w3.heap.size, 0, none⟩ = some (.bool true) ∧ W4.cell? ⟨w3.heap.size, 1, none⟩ = some (.bool true) ∧ W4.cell? ⟨w3.heap.size, 2, none⟩ = some (.int .i64 er) ∧ W4.cell? ⟨w3.heap.size, 3, none⟩ = some (.bool false) ∧ W4.cell? ⟨w3.heap.size, 4, none⟩ = some (.bool false) ∧ W4.cell? ⟨w3.heap.size, 5, none⟩ = some (.int .i64 ef)) := by rw [Hid, hW4]; simp [go_sem]
  have F4 : Hid (∀ i, W4.frozen? ⟨w3.heap.size, i, none⟩ = false) := fun i => by rw [hW4]; simp [go_sem]
  have hr4 : w.heap.size < W4.heap.size := by have := hB4.size; omega
  have hl4 : b < W4.heap.size := by have := hB4.size; omega
  have he4 : w3.heap.size < W4.heap.size := by rw [hW4]; simp

  clear hB4
  go_wp2_with fail
  rw [← hW4]
  clear hW4
  have z2 := cell_regrown E4.out.2.2.1
  have y2 := cell_regrown (HKw.out.grow HB4.out).c2
  have y3 := cell_regrown (HKw.out.grow HB4.out).c3
  have y4 := cell_regrown (HKw.out.grow HB4.out).c4
  simp only at y2 y3 y4
  refine wp_region_quiet_below (by kernel_rfl) (by kernel_rfl) ?_
  repeat (first
    | go_big_quiet_step ((go_at_call 42; exact Calls.regrown_of (HMay _))))
  refine wpQuiet_nil ?_
  intro _ hw'
  obtain ⟨⟨dq5, osq5⟩, rfl⟩ := hw'
  have hb5 := below_regrown W4 dq5 osq5
  have HB5 : Hid (Below w.heap.size w (grow (redrawn W4 dq5) osq5)) := bthen HB4.out hb5
  have R5 : Hid ((grow (redrawn W4 dq5) osq5).heap[w.heap.size]? = _) := (hb5.block _ hr4).trans R4.out
  have E5 : Hid _ := later6 hb5 E4.out
  have F5 : Hid (∀ i, (grow (redrawn W4 dq5) osq5).frozen? ⟨w3.heap.size, i, none⟩ = false) := fun i => (hb5.frozen (p := ⟨w3.heap.size, i, none⟩) he4).trans (F4.out i)
  have hr5 : w.heap.size < (grow (redrawn W4 dq5) osq5).heap.size := Nat.lt_of_lt_of_le hr4 hb5.size
  have hl5 : b < (grow (redrawn W4 dq5) osq5).heap.size := Nat.lt_of_lt_of_le hl4 hb5.size
  have he5 : w3.heap.size < (grow (redrawn W4 dq5) osq5).heap.size := Nat.lt_of_lt_of_le he4 hb5.size
  clear hb5 z2 y2 y3 y4 E4 F4 HMay HB4 R4 hr4 hl4 he4 HB3 R3 hl3
  generalize grow (redrawn W4 dq5) osq5 = w5 at *
  generalize w3.heap.size = Eb at *

  obtain ⟨z0, z1, z2, z3, z4, z5⟩ := E5.out
  have zf := F5.out
  have hk5 := HKw.out.grow HB5.out
  have y3 := hk5.c3
  have y7 := hk5.c7
  simp only at y3 y7
  have hxd : decide (wd ≠ 0) = true := by simpa using HX.out
  rw [hxd] at y7
  clear hk5 hxd
  obtain ⟨W6, hW6⟩ : ∃ W6, W6 = ((w5.setCell ⟨Eb, 3, none⟩ (.bool true)).setCell ⟨Eb, 4, none⟩ (.bool d')) := ⟨_, rfl⟩
  have hEbw : w.heap.size < Eb := by omega
  have hB56 : Below w.heap.size w5 W6 := by
    have hE : w.heap.size ≤ Eb := by omega
    rw [hW6]
    exact ((Below.refl _ w5).setCell hE _).setCell hE _
  have HB6 : Hid (Below w.heap.size w W6) := HB5.out.trans hB56
  have E6 : Hid (W6.cell? ⟨Eb, 0, none⟩ = some (.bool true) ∧ W6.cell? ⟨Eb, 1, none⟩ = some (.bool true) ∧ W6.cell? ⟨Eb, 2, none⟩ = some (.int .i64 er) ∧ W6.cell? ⟨Eb, 3, none⟩ = some (.bool true) ∧ W6.cell? ⟨Eb, 4, none⟩ = some (.bool d') ∧ W6.cell? ⟨Eb, 5, none⟩ = some (.int .i64 ef)) := by rw [Hid, hW6]; simp [go_sem, z0, z1, z2, z3, z4, z5]
  have R6 : Hid (W6.heap[w.heap.size]? = some (.cells #[.int .i64 0, .int .i64 0, .int .i64 0] 43 (0, 0))) := by
    have hnE : w.heap.size ≠ Eb := by omega
    rw [hW6, Below.heap_setCell _ _ _ _ hnE, Below.heap_setCell _ _ _ _ hnE]
    exact R5.out
  go_wp2_with fail
  rw [← hW6]
  clear hW6 z0 z1 z2 z3 z4 z5 zf y3 y7 hB56 E5 F5 R5 HB5 hr5 hl5 he5
  have hk6 := HKw.out.grow HB6.out
  have hm6 := HMw.out.keep (F := fun _ => False) (But.of_below HB6.out) (fun _ _ => id)
  have c0 := hm6.raw.c0
  have c1 := hk6.c5
  have c2 := hk6.c2
  have c3 := hk6.c6
  simp only at c2
  have hlb6 := hk6.lb
  have hlm6 := hm6.raw.lb
  obtain ⟨c4, c5, c6, c7, c8, c9⟩ := E6.out
  have HIx2 := indexOf_any q (lv : Int)
  rw [Pg.index_ix hq hlv, HIXX.out] at HIx2
  have hg0 := HMw.out.raw.l0
  have ng1 : g0 ≠ bm := HMw.out.raw.n0
  have ng2 : bm ≠ g0 := fun e => ng1 e.symm
  have ng3 : g0 ≠ b := fun e => hbm (.inr (.inl e.symm))
  have ng4 : b ≠ g0 := fun e => ng3 e.symm
  have ng5 : g0 ≠ Eb := by omega
  have ng6 : Eb ≠ g0 := by omega
  clear hk6 hm6
  go_region_held3 (fun w' => w'.cell? ⟨bm, 0, none⟩ = some (.slice (some ⟨g0, 0, none⟩) S.n S.n) ∧ w'.cell? ⟨b, 5, none⟩ = some (.int .i64 (tn : Int)) ∧ w'.cell? ⟨b, 2, none⟩ = some (.int .i64 q) ∧ w'.cell? ⟨b, 6, none⟩ = some (.int .i64 (lv : Int)) ∧ w'.cell? ⟨Eb, 0, none⟩ = some (.bool true) ∧ w'.cell? ⟨Eb, 1, none⟩ = some (.bool true) ∧ w'.cell? ⟨Eb, 2, none⟩ = some (.int .i64 er) ∧ w'.cell? ⟨Eb, 3, none⟩ = some (.bool true) ∧ w'.cell? ⟨Eb, 4, none⟩ = some (.bool d') ∧ w'.cell? ⟨Eb, 5, none⟩ = some (.int .i64 ef)) (go_keep) (first
    | (go_at_call 43; refine (HWo _).mono ?_; rintro en w8 ⟨rfl, hb8⟩; have HB8 : Hid (Below w.heap.size w w8) := bthen (bthen HB6.out HB7.out) hb8; have HB78 : Hid _ := hb8; have b0 := cell_later HB78.out a0; have b1 := cell_later HB78.out a1; have b2 := cell_later HB78.out a2; have b3 := cell_later HB78.out a3; have b4 := cell_later HB78.out a4; have b5 := cell_later HB78.out a5; have b6 := cell_later HB78.out a6; have b7 := cell_later HB78.out a7; have b8 := cell_later HB78.out a8; have b9 := cell_later HB78.out a9; have hm8 := HMw.out.keep (F := fun _ => False) (But.of_below HB8.out) (fun _ _ => id); have gw := hm8.raw.cw tn ixn htn hixl; have gf := hm8.raw.f0; have gl := hm8.raw.l0; clear hm8 hb8)
    | (go_at_call 39; refine (HIx2 _).mono ?_; rintro en w7 ⟨rfl, hb7⟩; have HB7 : Hid (Below W6.heap.size W6 w7) := (by first | exact bthen (brefl W6).drew hb7 | exact hb7); have a0 := cell_later HB7.out c0; have a1 := cell_later HB7.out c1; have a2 := cell_later HB7.out c2; have a3 := cell_later HB7.out c3; have a4 := cell_later HB7.out c4; have a5 := cell_later HB7.out c5; have a6 := cell_later HB7.out c6; have a7 := cell_later HB7.out c7; have a8 := cell_later HB7.out c8; have a9 := cell_later HB7.out c9; clear hb7))
  go_wp2_with fail
  obtain ⟨WX, hWX⟩ : ∃ WX, WX = w8.setCell ⟨g0, tn * 8 + ixn, none⟩ (.int .u64 v) := ⟨_, rfl⟩
  rw [← hWX]
  have HDX : Hid (But (fun j => j = g0) w WX) := by rw [Hid, hWX]; exact (But.of_below (F := fun j => j = g0) HB8.out).setCell (a := ⟨g0, tn * 8 + ixn, none⟩) (.inr rfl) _
  have HMX : Hid (MemAt WX bm g0 g1 vb (S.store (tn : Int) (ixn : Int) v)) := by
    have hm8 := HMw.out.keep (F := fun _ => False) (But.of_below HB8.out) (fun _ _ => id)
    have e3 : S.store (tn : Int) (ixn : Int) v = { S with word := Pg.Fs.put S.word tn ixn v } := by simp [Pg.Fs.store, HAt.out]
    refine ⟨?_, hm8.ok.store (tn : Int) (ixn : Int) hv.1 hv.2⟩
    rw [e3, hWX]
    exact hm8.raw.put htn hixl v
  have hkE : WX.heap[Eb]? = w8.heap[Eb]? := by rw [hWX]; exact Below.heap_setCell _ _ _ _ ng6
  have EX : Hid _ := six_blockK hkE ⟨b4, b5, b6, b7, b8, b9⟩
  have hbr : w8.heap[w.heap.size]? = W6.heap[w.heap.size]? := (HB78.out.block _ (Nat.lt_of_lt_of_le (Array.getElem?_eq_some_iff.1 R6.out).1 HB7.out.size)).trans (HB7.out.block _ (Array.getElem?_eq_some_iff.1 R6.out).1)
  have RX : Hid (WX.heap[w.heap.size]? = some (.cells #[.int .i64 0, .int .i64 0, .int .i64 0] 43 (0, 0))) := by
    rw [Hid, hWX, Below.heap_setCell _ _ _ _ (show w.heap.size ≠ g0 by omega)]
    exact hbr.trans R6.out
  clear a0 a1 a2 a3 a4 a5 a6 a7 a8 a9 b0 b1 b2 b3 b4 b5 b6 b7 b8 b9 c0 c1 c2 c3 c4 c5 c6 c7 c8 c9 gw gf gl hkE hbr hWX HB7 HB78 HB8 HB6 E6 R6 HWo HIx2 hv

  have hLl : bl < w.heap.size := LnAt.lb HL.out
  have hDb : ¬ (fun j => j = g0) b := (fun e => hbm (.inr (.inl e)))
  have hDl : ¬ (fun j => j = g0) bl := (fun e => hlm (.inr (.inl e)))
  have hkX := HKw.out.keep HDX.out hDb
  have g0' := cell_regrown EX.out.1
  have g1' := cell_regrown EX.out.2.1
  have g2' := cell_regrown EX.out.2.2.1
  have g3' := cell_regrown EX.out.2.2.2.1
  have g4' := cell_regrown EX.out.2.2.2.2.1
  have g5' := cell_regrown EX.out.2.2.2.2.2
  have k2' := cell_regrown hkX.c2
  have k6' := cell_regrown hkX.c6
  simp only at k2' k6'
  clear hkX
  refine Loose.wp_region_alloc 11 15 (.cells #[.int .i64 0, .int .i64 0, .int .i64 0, .int .i64 0] 39) _ (by kernel_rfl) (by kernel_rfl) rfl rfl rfl (by intro a w; simp [go_sem]) ?_
  simp only [List.take_succ_cons, List.take_zero, List.drop_succ_cons, List.drop_zero]
  repeat (
    refine Loose.wpGent_step (fun k hk => ?_)
    go_simp
    first
      | (refine hk _ ?_; clear hk k)
      | (apply Exists.intro
         refine ⟨fun _ => ?_, hk _ ?_⟩
         (go_at_call 44; exact Loose.calls (HLf _))
         clear hk k))
  refine Loose.wpGent_nil ?_
  intro bx w6 hb6 hbX hX
  have cb : w6.cell? ⟨bx, 0, none⟩ = some (.int .i64 0) ∧ w6.cell? ⟨bx, 1, none⟩ = some (.int .i64 0) ∧ w6.cell? ⟨bx, 2, none⟩ = some (.int .i64 0) ∧ w6.cell? ⟨bx, 3, none⟩ = some (.int .i64 0) := by
    simp [World.cell?, hX]
  obtain ⟨cb0, cb1, cb2, cb3⟩ := cb
  have fbx : ∀ i, w6.frozen? ⟨bx, i, none⟩ = false := fun i => by simp [World.frozen?, hX]
  have hB7 : Below WX.heap.size WX ((((w6.setCell ⟨bx, 0, none⟩ (.int .i64 mp)).setCell ⟨bx, 1, none⟩ (.int .i64 ms)).setCell ⟨bx, 2, none⟩ (.int .i64 mf)).setCell ⟨bx, 3, none⟩ (.int .i64 mr)) := below_set4 hb6 _ hbX _ _ _ _
  have m4 : ((((w6.setCell ⟨bx, 0, none⟩ (.int .i64 mp)).setCell ⟨bx, 1, none⟩ (.int .i64 ms)).setCell ⟨bx, 2, none⟩ (.int .i64 mf)).setCell ⟨bx, 3, none⟩ (.int .i64 mr)).cell? ⟨bx, 0, none⟩ = some (.int .i64 mp) ∧ ((((w6.setCell ⟨bx, 0, none⟩ (.int .i64 mp)).setCell ⟨bx, 1, none⟩ (.int .i64 ms)).setCell ⟨bx, 2, none⟩ (.int .i64 mf)).setCell ⟨bx, 3, none⟩ (.int .i64 mr)).cell? ⟨bx, 1, none⟩ = some (.int .i64 ms) ∧ ((((w6.setCell ⟨bx, 0, none⟩ (.int .i64 mp)).setCell ⟨bx, 1, none⟩ (.int .i64 ms)).setCell ⟨bx, 2, none⟩ (.int .i64 mf)).setCell ⟨bx, 3, none⟩ (.int .i64 mr)).cell? ⟨bx, 2, none⟩ = some (.int .i64 mf) ∧ ((((w6.setCell ⟨bx, 0, none⟩ (.int .i64 mp)).setCell ⟨bx, 1, none⟩ (.int .i64 ms)).setCell ⟨bx, 2, none⟩ (.int .i64 mf)).setCell ⟨bx, 3, none⟩ (.int .i64 mr)).cell? ⟨bx, 3, none⟩ = some (.int .i64 mr) := by simp [go_sem, cb0, cb1, cb2, cb3]
  have hsX : w.heap.size ≤ WX.heap.size := HDX.out.size
  have nbx : bx ≠ bl := by omega
  have mbx : bl ≠ bx := by omega
  have d4 := hb6.cell (p := ⟨Eb, 4, none⟩) (World.block_lt_of_cell? _ _ EX.out.2.2.2.2.1)
  have d4' := d4.trans EX.out.2.2.2.2.1
  have nEx : Eb ≠ bx := by have := World.block_lt_of_cell? _ _ EX.out.1; simp only at this; omega
  have mEx : bx ≠ Eb := fun e => nEx e.symm
  have nEl : Eb ≠ bl := by omega
  have mEl : bl ≠ Eb := by omega
  have hLX := HL.out.of (w' := WX) fun p => HDX.out.cell (a := ⟨bl, p, none⟩) hLl hDl
  have hL6 := hLX.below hb6 (Nat.lt_of_lt_of_le hLl hsX)
  have lf6 : ∀ i, w6.frozen? ⟨bl, i, none⟩ = false := fun i => (hb6.frozen (p := ⟨bl, i, none⟩) (Nat.lt_of_lt_of_le hLl hsX)).trans ((HDX.out.frozen (a := ⟨bl, i, none⟩) hLl hDl).trans (HLF.out i))
  obtain ⟨l0, l1, l2, l3, l4⟩ := hL6
  simp only [Nat.zero_add] at l1 l2 l3 l4
  generalize hW7 : ((((w6.setCell ⟨bx, 0, none⟩ (.int .i64 mp)).setCell ⟨bx, 1, none⟩ (.int .i64 ms)).setCell ⟨bx, 2, none⟩ (.int .i64 mf)).setCell ⟨bx, 3, none⟩ (.int .i64 mr)) = W7 at *
  have HB7 : Hid _ := hB7
  have M4 : Hid _ := m4
  obtain ⟨W8, hW8⟩ : ∃ W8, W8 = (((((W7.setCell ⟨bl, 0, none⟩ (.int .i64 mp)).setCell ⟨bl, 1, none⟩ (.int .i64 ms)).setCell ⟨bl, 2, none⟩ (.int .i64 mf)).setCell ⟨bl, 3, none⟩ (.int .i64 mr)).setCell ⟨bl, 4, none⟩ (.bool d')) := ⟨_, rfl⟩
  have hB8 : But (fun j => j = bl) W7 W8 := by rw [hW8]; exact (but_set4 (F := fun j => j = bl) (But.refl _ W7) bl (.inr rfl) _ _ _ _).setCell (a := ⟨bl, 4, none⟩) (.inr rfl) _
  have hk7 : W7.heap[bl]? = w6.heap[bl]? := by rw [← hW7, Below.heap_setCell _ _ _ _ mbx, Below.heap_setCell _ _ _ _ mbx, Below.heap_setCell _ _ _ _ mbx, Below.heap_setCell _ _ _ _ mbx]
  have t0 := (World.cell?_of_block (a := ⟨bl, 0, none⟩) hk7).trans l0
  have t1 := (World.cell?_of_block (a := ⟨bl, 1, none⟩) hk7).trans l1
  have t2 := (World.cell?_of_block (a := ⟨bl, 2, none⟩) hk7).trans l2
  have t3 := (World.cell?_of_block (a := ⟨bl, 3, none⟩) hk7).trans l3
  have t4 := (World.cell?_of_block (a := ⟨bl, 4, none⟩) hk7).trans l4
  have L8 : Hid (LnAt W8 bl 0 ⟨⟨mp, ms, mf, mr⟩, d'⟩) := by
    rw [Hid, hW8]
    refine ⟨?_, ?_, ?_, ?_, ?_⟩ <;> simp [go_sem, t0, t1, t2, t3, t4]
  have H78 : Hid (But (fun j => j = bl) WX W8) := (But.of_below (F := fun j => j = bl) hB7).trans hB8 (fun _ _ h => h)
  have M8 : Hid (W8.cell? ⟨bx, 0, none⟩ = some (.int .i64 mp) ∧ W8.cell? ⟨bx, 1, none⟩ = some (.int .i64 ms) ∧ W8.cell? ⟨bx, 2, none⟩ = some (.int .i64 mf) ∧ W8.cell? ⟨bx, 3, none⟩ = some (.int .i64 mr)) := by
    have hk : W8.heap[bx]? = W7.heap[bx]? := hB8.block bx (World.block_lt_of_cell? _ _ m4.1) nbx
    exact ⟨(World.cell?_of_block hk).trans m4.1, (World.cell?_of_block hk).trans m4.2.1, (World.cell?_of_block hk).trans m4.2.2.1, (World.cell?_of_block hk).trans m4.2.2.2⟩
  have tf : ∀ i, W7.frozen? ⟨bl, i, none⟩ = false := fun i => (World.frozen?_of_block (a := ⟨bl, i, none⟩) hk7).trans (lf6 i)
  have d7 : W7.cell? ⟨Eb, 4, none⟩ = some (.bool d') := by
    have hkE : W7.heap[Eb]? = w6.heap[Eb]? := by rw [← hW7, Below.heap_setCell _ _ _ _ nEx, Below.heap_setCell _ _ _ _ nEx, Below.heap_setCell _ _ _ _ nEx, Below.heap_setCell _ _ _ _ nEx]
    exact (World.cell?_of_block (a := ⟨Eb, 4, none⟩) hkE).trans d4'
  obtain ⟨p0, p1, p2, p3⟩ := m4
  clear hk7 hB8 hB7 d4 hLX g0' g1' g2' g3' g4' g5' k2' k6' hX
  go_wp2_with fail
  rw [← hW8]
  clear hW7 hW8 t0 t1 t2 t3 t4 tf d7 p0 p1 p2 p3 cb0 cb1 cb2 cb3 fbx d4' l0 l1 l2 l3 l4 lf6
  have H8 : Hid (But (fun j => (fun j => j = g0) j ∨ j = bl) w W8) := (HDX.out.mono (fun _ _ h => .inl h)).trans H78.out (fun _ _ h => .inr h)
  have hb8D : ¬ ((fun j => j = g0) b ∨ b = bl) := by rintro (h | h); exact hDb h; exact hbl h
  have hk8 := HKw.out.keep H8.out hb8D
  have q0' := cell_regrown M8.out.1
  have q1' := cell_regrown M8.out.2.1
  have q2' := cell_regrown M8.out.2.2.1
  have q3' := cell_regrown M8.out.2.2.2
  have k2' := cell_regrown hk8.c2
  have k3' := cell_regrown hk8.c3
  have k4' := cell_regrown hk8.c4
  simp only at k2' k3' k4'
  clear hk8
  refine Loose.wp_region_late2 7 8 11 (by kernel_rfl) (by kernel_rfl) ?_
  simp only [List.take_succ_cons, List.take_zero, List.drop_succ_cons, List.drop_zero]
  repeat (
    refine Loose.wpGent_step (fun k hk => ?_)
    go_simp
    first
      | (refine hk _ ?_; clear hk k)
      | (apply Exists.intro
         refine ⟨fun _ => ?_, hk _ ?_⟩
         (go_at_call 38; exact Loose.calls (HAn _))
         clear hk k))
  refine Loose.wpGent_nil ?_
  intro w10 hb10
  have H10 : Hid (But (fun j => j = bl) WX w10) := H78.out.trans (But.of_below (F := fun j => j = bl) hb10) (fun _ _ h => h)
  have L10 : Hid (LnAt w10 bl 0 ⟨⟨mp, ms, mf, mr⟩, d'⟩) := LnAt.below L8.out hb10 (LnAt.lb L8.out)
  clear q0' q1' q2' q3' k2' k3' k4' hb10 HAn L8 M8 H78 H8
  have H10w : Hid (But (fun j => (fun j => j = g0) j ∨ j = bl) w w10) := (HDX.out.mono (fun _ _ h => .inl h)).trans H10.out (fun _ _ h => .inr h)
  have HE := cEnd_any aa af ar w10 ⟨_, _, _, HKw.out.keep H10w.out hb8D⟩
  go_wp2_with fail
  refine HE.mono ?_
  rintro e w11 ⟨rfl, hk11, hc11⟩
  have HK11 : Hid (CkEx w11 b Pg.Wk.off) := hk11
  have H11 : Hid (But (fun j => j = bl ∨ j = b) WX w11) := (H10.out.mono (fun _ _ h => .inl h)).trans hc11.but (fun _ _ h => .inr h)
  have HC11 : Hid (Ch8 b 1 (fun j => j = b ∨ j = bl ∨ memF bm g0 g1 vb j) w w11) := ((Ch8.of_but (o := 1) H10w.out hl hb8D).mono (G := fun j => j = b ∨ j = bl ∨ memF bm g0 g1 vb j) (fun _ _ h => h.elim (fun h => .inr (.inr (.inr (.inl h)))) (fun h => .inr (.inl h)))).trans hc11 (fun _ _ h => .inl h)
  have L11 : Hid (LnAt w11 bl 0 ⟨⟨mp, ms, mf, mr⟩, d'⟩) := L10.out.of fun p => hc11.but.cell (a := ⟨bl, p, none⟩) (LnAt.lb L10.out) (fun e => hbl e.symm)
  have R11 : Hid (w11.heap[w.heap.size]? = _) := (H11.out.block _ (Array.getElem?_eq_some_iff.1 RX.out).1 (by rintro (h | h); omega; exact hrb h)).trans RX.out
  clear hk11 hc11 HE L10 H10 H10w
  go_wp2_with fail
  repeat (
    refine Loose.wpGent_step (fun k hk => ?_)
    go_simp
    (refine hk _ ?_; clear hk k))
  refine Loose.wpGent_nil ?_
  intro w12 hb12
  have HK12 : Hid _ := HK11.out.of_block (hb12.block b HK11.out.lb)
  have H12 : Hid (But (fun j => j = bl ∨ j = b) WX w12) := H11.out.trans (But.of_below (F := fun j => j = bl ∨ j = b) hb12) (fun _ _ h => h)
  have HC12 : Hid (Ch8 b 1 (fun j => j = b ∨ j = bl ∨ memF bm g0 g1 vb j) w w12) := HC11.out.trans (Ch8.of_below (F := fun j => j = b ∨ j = bl ∨ memF bm g0 g1 vb j) hb12 HK11.out.lb) (fun _ _ h => h)
  have L12 : Hid (LnAt w12 bl 0 ⟨⟨mp, ms, mf, mr⟩, d'⟩) := LnAt.below L11.out hb12 (LnAt.lb L11.out)
  have R12 : Hid (w12.heap[w.heap.size]? = _) := (hb12.block _ (Array.getElem?_eq_some_iff.1 R11.out).1).trans R11.out
  obtain ⟨⟨x0, x1, x2⟩, xf⟩ := row3 R12.out
  have HF : Hid _ := fin3 hrb (Nat.le_refl _) ⟨HK12.out, HC12.out⟩ (.int .i64 aa) (.int .i64 af) (.int .i64 ar)
  have hS3 := but_set3 (F := fun j => j = w.heap.size) (But.refl _ w12) w.heap.size (.inr rfl) (.int .i64 aa) (.int .i64 af) (.int .i64 ar)
  have HL13 : Hid _ := L12.out.of fun p => hS3.cell (a := ⟨bl, p, none⟩) (LnAt.lb L12.out) (show ¬ bl = w.heap.size by omega)
  have HM13 : Hid _ := HMX.out.keep (H12.out.mono (G := fun j => j = bl ∨ j = b ∨ j = w.heap.size) (fun _ _ h => h.elim .inl (fun h => .inr (.inl h))) |>.trans hS3 (fun _ _ h => .inr (.inr h))) (by
    rintro j hj (h | h | h)
    · exact hlm (h ▸ hj)
    · exact hbm (h ▸ hj)
    · have := HMw.out.raw.lt hj; omega)
  clear hS3 hb12
  go_wp2_with fail
  refine bodyPost_ret (v := .tuple #[.agg #[.int .i64 aa, .int .i64 af, .int .i64 ar], .bool true, .int .i64 0]) ?_ rfl ⟨rfl, HF.out.1, HM13.out, HL13.out, HF.out.2⟩
  simp [results, Try.results10, go_sem, x0, x1, x2]

set_option maxHeartbeats 1000000 in
theorem cStep_mark3 {bm g0 g1 bl : Nat} {vb : Value} {S : Pg.Fs} {q k : Int} {u : Bool} {t : Int} {lv : Nat} {xw : Int} {x : Int} {er : Int} {ef : Int} (hq : Pg.below q 4096 = true) (hlv : lv < 4) (w : World) (h : CkAt w b ⟨true, q, k, u, t, lv, x⟩ t (lv : Int) xw) (hm : MemAt w bm g0 g1 vb S) (hk1 : (k == 1) = true) (hk2 : (k != 1) = false) (hL : LnAt w bl 0 ⟨⟨0, 0, 0, 0⟩, false⟩) (hLf : ∀ p, w.frozen? ⟨bl, p, none⟩ = false) (hbm : ¬ memF bm g0 g1 vb b) (hlm : ¬ memF bm g0 g1 vb bl) (hbl : b ≠ bl) (hmay : Pg.may er k u = true) (hh : S.has t = true) (hx : x ≠ 0) (hwd : S.word t.toNat (Pg.ix q lv) = x) (hc : Pg.rCode S t (Pg.ix q lv) lv = 0) (he : Pg.rEn S t (Pg.ix q lv) lv = ⟨true, true, er, true, false, ef⟩) :
    Calls Try.prog 10 #[.pointer (some ⟨b, 0, none⟩), .pointer (some ⟨bm, 0, none⟩), .int .i64 root, .pointer (some ⟨bl, 0, none⟩)] w fun e w' => e = .returned (.tuple #[.agg #[.int .i64 (Pg.Wo.res ⟨true, q, k, u, t, lv, x⟩ (.done ⟨true, true, er, true, true, ef⟩ true)).a, .int .i64 (Pg.Wo.res ⟨true, q, k, u, t, lv, x⟩ (.done ⟨true, true, er, true, true, ef⟩ true)).f, .int .i64 (Pg.Wo.res ⟨true, q, k, u, t, lv, x⟩ (.done ⟨true, true, er, true, true, ef⟩ true)).r], .bool (Pg.Wo.res ⟨true, q, k, u, t, lv, x⟩ (.done ⟨true, true, er, true, true, ef⟩ true)).ended, .int .i64 (Pg.Wo.cd (.done ⟨true, true, er, true, true, ef⟩ true))]) ∧ CkEx w' b Pg.Wk.off ∧ MemAt w' bm g0 g1 vb (Pg.Wo.fs S ⟨true, q, k, u, t, lv, x⟩ (.done ⟨true, true, er, true, true, ef⟩ true)) ∧ LnAt w' bl 0 ⟨(Pg.Wo.res ⟨true, q, k, u, t, lv, x⟩ (.done ⟨true, true, er, true, true, ef⟩ true)).m, (Pg.Wo.res ⟨true, q, k, u, t, lv, x⟩ (.done ⟨true, true, er, true, true, ef⟩ true)).d⟩ ∧ Ch8 b 1 (fun j => j = b ∨ j = bl ∨ memF bm g0 g1 vb j) w w' := by
  have HMay := fun W' => lets_any er q k u W'
  rw [hmay] at HMay
  clear hmay

  obtain ⟨W, hW⟩ : ∃ W, W = w.alloc (.cells #[.int .i64 0, .int .i64 0, .int .i64 0] 43) := ⟨_, rfl⟩
  have hBW : Below w.heap.size w W := by rw [hW]; exact balloc (brefl w) _
  have hl := h.lb
  have HKw : Hid _ := h
  have HMw : Hid _ := hm
  have HBW : Hid _ := hBW
  have HKW := h.grow hBW
  have HMW := hm.keep (F := fun _ => False) (But.of_below hBW) (fun _ _ => id)
  have R0 : Hid (W.heap[w.heap.size]? = some (.cells #[.int .i64 0, .int .i64 0, .int .i64 0] 43 (0, 0))) := by rw [hW]; exact heap_alloc_new _ _
  have hrb : ¬ w.heap.size = b := by omega
  have hne : b ≠ w.heap.size := by omega
  have hlW : w.heap.size < W.heap.size := (Array.getElem?_eq_some_iff.1 R0.out).1
  have HT := memTaken_any t W HMW
  rw [hh] at HT
  have k1 := h.c1
  have k5 := h.c5
  simp only at k1 k5

  obtain ⟨tn, rfl⟩ := Int.eq_ofNat_of_zero_le (hm.ok.has_lt hh).1
  have htn : tn < S.n := by have := (hm.ok.has_lt hh).2.1; omega
  have hixl := Pg.ix_lt q lv
  have HIx := indexOf_any q (lv : Int)
  rw [Pg.index_ix hq hlv] at HIx
  have M0 := cell_regrown HMW.raw.c0
  have MW := cell_regrown (HMW.raw.cw tn (Pg.ix q lv) htn hixl)
  have K2 := cell_regrown HKW.c2
  have K5 := cell_regrown HKW.c5
  have K6 := cell_regrown HKW.c6
  simp only at K2 K5 K6
  have hwl := hm.ok.low tn (Pg.ix q lv)
  have hwh := hm.ok.high tn (Pg.ix q lv)
  obtain ⟨e1, e2⟩ := Pg.rCode_of (i := Pg.ix q lv) (lv := lv) hh
  simp only [Int.toNat_natCast] at e1 e2
  have HEO := fun W' => entryOf_any (S.word tn (Pg.ix q lv)) (lv : Int) hwl hwh W'
  rw [Pg.decV_of, ← e1, ← e2, hc, he] at HEO
  simp only [Pg.En.val] at HEO
  clear hwl hwh e1 e2 hc he
  simp only [Int.toNat_natCast] at hwd
  generalize S.word tn (Pg.ix q lv) = wd at *
  generalize hixx : Pg.ix q lv = ixn at *
  have HIXX : Hid _ := hixx
  have i0 : (0 : Int) ≤ (tn : Int) := by omega
  have i1 : (tn : Int) < (S.n : Int) := by omega
  have i2 : (0 : Int) ≤ (ixn : Int) := by omega
  have i3 : (ixn : Int) < 8 := by omega
  clear h hm hBW HKW HMW hixx
  have HLf := fun W' => leafMap_any true true er true true ef (lv : Int) q W'
  rw [Pg.mapV_of ⟨true, true, er, true, true, ef⟩ (lv : Int) q] at HLf
  have hres : Pg.Wo.res ⟨true, q, k, u, (tn : Int), lv, x⟩ (.done ⟨true, true, er, true, true, ef⟩ true) = ⟨true, Pg.aEnd (Pg.En.map ⟨true, true, er, true, true, ef⟩ (lv : Int) q).r k u, Pg.aFrame (Pg.En.map ⟨true, true, er, true, true, ef⟩ (lv : Int) q).p (Pg.En.map ⟨true, true, er, true, true, ef⟩ (lv : Int) q).f (Pg.En.map ⟨true, true, er, true, true, ef⟩ (lv : Int) q).r q k u, Pg.aRights (Pg.En.map ⟨true, true, er, true, true, ef⟩ (lv : Int) q).r k u, Pg.En.map ⟨true, true, er, true, true, ef⟩ (lv : Int) q, true⟩ := rfl
  rw [hres]
  clear hres
  generalize Pg.En.map ⟨true, true, er, true, true, ef⟩ (lv : Int) q = mm at *
  obtain ⟨mp, ms, mf, mr⟩ := mm
  simp only [Pg.Mp.val] at HLf
  have HAn := fun W' => answerOf_any mp ms mf mr q k u W'
  simp only [Pg.Wo.cd, Pg.Wo.fs]
  generalize Pg.aEnd mr k u = aa at *
  generalize Pg.aFrame mp mf mr q k u = af at *
  generalize Pg.aRights mr k u = ar at *
  have HL : Hid (LnAt w bl 0 ⟨⟨0, 0, 0, 0⟩, false⟩) := hL
  have HLF : Hid _ := hLf
  clear hL hLf
  have HST : Hid (Pg.index q (lv : Int) = (Pg.ix q lv : Nat)) := Pg.index_ix hq hlv
  rw [HST.out, HIXX.out]
  have HWo := fun W' => wordOf_any true true er true true ef (lv : Int) W'
  have hv := Pg.enc_bd' true true er true true ef (lv : Int)
  generalize Pg.enc true true er true true ef (lv : Int) = v at *
  have HAt : Hid (S.at' (tn : Int) (ixn : Int) = true) := by rw [Hid, ← HIXX.out, at_hasK S (tn : Int) q lv, hh]
  clear hh
  go_enter Try.func10, Try.ntmps10
  go_wp2_with fail
  rw [← hW]
  refine HT.mono ?_
  rintro e w1 ⟨rfl, hw⟩
  subst w1
  clear hW
  clear HT k1 k5
  go_wp2_with fail
  refine wp_region_quiet_below (by kernel_rfl) (by kernel_rfl) ?_
  repeat (first
    | go_big_quiet_step ((go_at_call 39; exact Calls.regrown_of (HIx _))))
  refine wpQuiet_nil ?_
  intro _ hw'
  obtain ⟨⟨dq, osq⟩, rfl⟩ := hw'
  have hb2 := below_regrown W dq osq
  have HB2 : Hid (Below w.heap.size w (grow (redrawn W dq) osq)) := bthen HBW.out hb2
  have R2 : Hid ((grow (redrawn W dq) osq).heap[w.heap.size]? = _) := (hb2.block _ hlW).trans R0.out
  clear hb2 HIx M0 MW K2 K5 K6 R0 HBW hlW
  generalize grow (redrawn W dq) osq = w2 at *
  have hk2 := HKw.out.grow HB2.out
  have y7 := hk2.c7
  have y8 := hk2.c8
  have y6 := hk2.c6
  have hxd : decide (x ≠ 0) = true := by simpa using hx
  simp only [hxd] at y6 y7 y8
  have hxw := HKw.out.wd hx
  simp only at hxw
  subst hxw
  subst hwd
  have hww : (wd != wd) = false := by simp
  have HX : Hid _ := hx
  clear hxd hx
  have hr2 : w.heap.size < w2.heap.size := (Array.getElem?_eq_some_iff.1 R2.out).1
  have hl2 : b < w2.heap.size := hk2.lb
  clear hk2

  go_wp2_with fail
  refine (HEO _).mono ?_
  rintro e w3 ⟨rfl, hb3⟩
  have HB3 : Hid (Below w.heap.size w w3) := bthen HB2.out hb3
  have R3 : Hid (w3.heap[w.heap.size]? = _) := (hb3.block _ hr2).trans R2.out
  have hr3 : w.heap.size < w3.heap.size := Nat.lt_of_lt_of_le hr2 hb3.size
  have hl3 : b < w3.heap.size := Nat.lt_of_lt_of_le hl2 hb3.size
  have nb3 : b ≠ w3.heap.size := by omega
  have mb3 : w3.heap.size ≠ b := by omega
  have nr3 : w.heap.size ≠ w3.heap.size := by omega
  have mr3 : w3.heap.size ≠ w.heap.size := by omega
  clear hb3 HEO y6 y7 y8 HB2 R2 hr2 hl2

  obtain ⟨W4, hW4⟩ : ∃ W4, W4 = w3.alloc (.cells #[.bool true, .bool true, .int .i64 er, .bool true, .bool false, .int .i64 ef] 93) := ⟨_, rfl⟩
  have hB4 : Below w3.heap.size w3 W4 := by rw [hW4]; exact balloc (brefl _) _
  have HB4 : Hid (Below w.heap.size w W4) := bthen HB3.out hB4
  have R4 : Hid (W4.heap[w.heap.size]? = _) := (hB4.block _ hr3).trans R3.out
  have E4 : Hid (W4.cell? ⟨w3.heap.size, 0, none⟩ = some (.bool true) ∧ W4.cell? ⟨w3.heap.size, 1, none⟩ = some (.bool true) ∧ W4.cell? ⟨w3.heap.size, 2, none⟩ = some (.int .i64 er) ∧ W4.cell? ⟨w3.heap.size, 3, none⟩ = some (.bool true) ∧ W4.cell? ⟨w3.heap.size, 4, none⟩ = some (.bool false) ∧ W4.cell? ⟨w3.heap.size, 5, none⟩ = some (.int .i64 ef)) := by rw [Hid, hW4]; simp [go_sem]
  have F4 : Hid (∀ i, W4.frozen? ⟨w3.heap.size, i, none⟩ = false) := fun i => by rw [hW4]; simp [go_sem]
  have hr4 : w.heap.size < W4.heap.size := by have := hB4.size; omega
  have hl4 : b < W4.heap.size := by have := hB4.size; omega
  have he4 : w3.heap.size < W4.heap.size := by rw [hW4]; simp

  clear hB4
  go_wp2_with fail
  rw [← hW4]
  clear hW4
  have z2 := cell_regrown E4.out.2.2.1
  have y2 := cell_regrown (HKw.out.grow HB4.out).c2
  have y3 := cell_regrown (HKw.out.grow HB4.out).c3
  have y4 := cell_regrown (HKw.out.grow HB4.out).c4
  simp only at y2 y3 y4
  refine wp_region_quiet_below (by kernel_rfl) (by kernel_rfl) ?_
  repeat (first
    | go_big_quiet_step ((go_at_call 42; exact Calls.regrown_of (HMay _))))
  refine wpQuiet_nil ?_
  intro _ hw'
  obtain ⟨⟨dq5, osq5⟩, rfl⟩ := hw'
  have hb5 := below_regrown W4 dq5 osq5
  have HB5 : Hid (Below w.heap.size w (grow (redrawn W4 dq5) osq5)) := bthen HB4.out hb5
  have R5 : Hid ((grow (redrawn W4 dq5) osq5).heap[w.heap.size]? = _) := (hb5.block _ hr4).trans R4.out
  have E5 : Hid _ := later6 hb5 E4.out
  have F5 : Hid (∀ i, (grow (redrawn W4 dq5) osq5).frozen? ⟨w3.heap.size, i, none⟩ = false) := fun i => (hb5.frozen (p := ⟨w3.heap.size, i, none⟩) he4).trans (F4.out i)
  have hr5 : w.heap.size < (grow (redrawn W4 dq5) osq5).heap.size := Nat.lt_of_lt_of_le hr4 hb5.size
  have hl5 : b < (grow (redrawn W4 dq5) osq5).heap.size := Nat.lt_of_lt_of_le hl4 hb5.size
  have he5 : w3.heap.size < (grow (redrawn W4 dq5) osq5).heap.size := Nat.lt_of_lt_of_le he4 hb5.size
  clear hb5 z2 y2 y3 y4 E4 F4 HMay HB4 R4 hr4 hl4 he4 HB3 R3 hl3
  generalize grow (redrawn W4 dq5) osq5 = w5 at *
  generalize w3.heap.size = Eb at *

  obtain ⟨z0, z1, z2, z3, z4, z5⟩ := E5.out
  have zf := F5.out
  have hk5 := HKw.out.grow HB5.out
  have y3 := hk5.c3
  have y7 := hk5.c7
  simp only at y3 y7
  have hxd : decide (wd ≠ 0) = true := by simpa using HX.out
  rw [hxd] at y7
  clear hk5 hxd
  obtain ⟨W6, hW6⟩ : ∃ W6, W6 = ((w5.setCell ⟨Eb, 3, none⟩ (.bool true)).setCell ⟨Eb, 4, none⟩ (.bool true)) := ⟨_, rfl⟩
  have hEbw : w.heap.size < Eb := by omega
  have hB56 : Below w.heap.size w5 W6 := by
    have hE : w.heap.size ≤ Eb := by omega
    rw [hW6]
    exact ((Below.refl _ w5).setCell hE _).setCell hE _
  have HB6 : Hid (Below w.heap.size w W6) := HB5.out.trans hB56
  have E6 : Hid (W6.cell? ⟨Eb, 0, none⟩ = some (.bool true) ∧ W6.cell? ⟨Eb, 1, none⟩ = some (.bool true) ∧ W6.cell? ⟨Eb, 2, none⟩ = some (.int .i64 er) ∧ W6.cell? ⟨Eb, 3, none⟩ = some (.bool true) ∧ W6.cell? ⟨Eb, 4, none⟩ = some (.bool true) ∧ W6.cell? ⟨Eb, 5, none⟩ = some (.int .i64 ef)) := by rw [Hid, hW6]; simp [go_sem, z0, z1, z2, z3, z4, z5]
  have R6 : Hid (W6.heap[w.heap.size]? = some (.cells #[.int .i64 0, .int .i64 0, .int .i64 0] 43 (0, 0))) := by
    have hnE : w.heap.size ≠ Eb := by omega
    rw [hW6, Below.heap_setCell _ _ _ _ hnE, Below.heap_setCell _ _ _ _ hnE]
    exact R5.out
  go_wp2_with fail
  rw [← hW6]
  clear hW6 z0 z1 z2 z3 z4 z5 zf y3 y7 hB56 E5 F5 R5 HB5 hr5 hl5 he5
  have hk6 := HKw.out.grow HB6.out
  have hm6 := HMw.out.keep (F := fun _ => False) (But.of_below HB6.out) (fun _ _ => id)
  have c0 := hm6.raw.c0
  have c1 := hk6.c5
  have c2 := hk6.c2
  have c3 := hk6.c6
  simp only at c2
  have hlb6 := hk6.lb
  have hlm6 := hm6.raw.lb
  obtain ⟨c4, c5, c6, c7, c8, c9⟩ := E6.out
  have HIx2 := indexOf_any q (lv : Int)
  rw [Pg.index_ix hq hlv, HIXX.out] at HIx2
  have hg0 := HMw.out.raw.l0
  have ng1 : g0 ≠ bm := HMw.out.raw.n0
  have ng2 : bm ≠ g0 := fun e => ng1 e.symm
  have ng3 : g0 ≠ b := fun e => hbm (.inr (.inl e.symm))
  have ng4 : b ≠ g0 := fun e => ng3 e.symm
  have ng5 : g0 ≠ Eb := by omega
  have ng6 : Eb ≠ g0 := by omega
  clear hk6 hm6
  go_region_held3 (fun w' => w'.cell? ⟨bm, 0, none⟩ = some (.slice (some ⟨g0, 0, none⟩) S.n S.n) ∧ w'.cell? ⟨b, 5, none⟩ = some (.int .i64 (tn : Int)) ∧ w'.cell? ⟨b, 2, none⟩ = some (.int .i64 q) ∧ w'.cell? ⟨b, 6, none⟩ = some (.int .i64 (lv : Int)) ∧ w'.cell? ⟨Eb, 0, none⟩ = some (.bool true) ∧ w'.cell? ⟨Eb, 1, none⟩ = some (.bool true) ∧ w'.cell? ⟨Eb, 2, none⟩ = some (.int .i64 er) ∧ w'.cell? ⟨Eb, 3, none⟩ = some (.bool true) ∧ w'.cell? ⟨Eb, 4, none⟩ = some (.bool true) ∧ w'.cell? ⟨Eb, 5, none⟩ = some (.int .i64 ef)) (go_keep) (first
    | (go_at_call 43; refine (HWo _).mono ?_; rintro en w8 ⟨rfl, hb8⟩; have HB8 : Hid (Below w.heap.size w w8) := bthen (bthen HB6.out HB7.out) hb8; have HB78 : Hid _ := hb8; have b0 := cell_later HB78.out a0; have b1 := cell_later HB78.out a1; have b2 := cell_later HB78.out a2; have b3 := cell_later HB78.out a3; have b4 := cell_later HB78.out a4; have b5 := cell_later HB78.out a5; have b6 := cell_later HB78.out a6; have b7 := cell_later HB78.out a7; have b8 := cell_later HB78.out a8; have b9 := cell_later HB78.out a9; have hm8 := HMw.out.keep (F := fun _ => False) (But.of_below HB8.out) (fun _ _ => id); have gw := hm8.raw.cw tn ixn htn hixl; have gf := hm8.raw.f0; have gl := hm8.raw.l0; clear hm8 hb8)
    | (go_at_call 39; refine (HIx2 _).mono ?_; rintro en w7 ⟨rfl, hb7⟩; have HB7 : Hid (Below W6.heap.size W6 w7) := (by first | exact bthen (brefl W6).drew hb7 | exact hb7); have a0 := cell_later HB7.out c0; have a1 := cell_later HB7.out c1; have a2 := cell_later HB7.out c2; have a3 := cell_later HB7.out c3; have a4 := cell_later HB7.out c4; have a5 := cell_later HB7.out c5; have a6 := cell_later HB7.out c6; have a7 := cell_later HB7.out c7; have a8 := cell_later HB7.out c8; have a9 := cell_later HB7.out c9; clear hb7))
  go_wp2_with fail
  obtain ⟨WX, hWX⟩ : ∃ WX, WX = w8.setCell ⟨g0, tn * 8 + ixn, none⟩ (.int .u64 v) := ⟨_, rfl⟩
  rw [← hWX]
  have HDX : Hid (But (fun j => j = g0) w WX) := by rw [Hid, hWX]; exact (But.of_below (F := fun j => j = g0) HB8.out).setCell (a := ⟨g0, tn * 8 + ixn, none⟩) (.inr rfl) _
  have HMX : Hid (MemAt WX bm g0 g1 vb (S.store (tn : Int) (ixn : Int) v)) := by
    have hm8 := HMw.out.keep (F := fun _ => False) (But.of_below HB8.out) (fun _ _ => id)
    have e3 : S.store (tn : Int) (ixn : Int) v = { S with word := Pg.Fs.put S.word tn ixn v } := by simp [Pg.Fs.store, HAt.out]
    refine ⟨?_, hm8.ok.store (tn : Int) (ixn : Int) hv.1 hv.2⟩
    rw [e3, hWX]
    exact hm8.raw.put htn hixl v
  have hkE : WX.heap[Eb]? = w8.heap[Eb]? := by rw [hWX]; exact Below.heap_setCell _ _ _ _ ng6
  have EX : Hid _ := six_blockK hkE ⟨b4, b5, b6, b7, b8, b9⟩
  have hbr : w8.heap[w.heap.size]? = W6.heap[w.heap.size]? := (HB78.out.block _ (Nat.lt_of_lt_of_le (Array.getElem?_eq_some_iff.1 R6.out).1 HB7.out.size)).trans (HB7.out.block _ (Array.getElem?_eq_some_iff.1 R6.out).1)
  have RX : Hid (WX.heap[w.heap.size]? = some (.cells #[.int .i64 0, .int .i64 0, .int .i64 0] 43 (0, 0))) := by
    rw [Hid, hWX, Below.heap_setCell _ _ _ _ (show w.heap.size ≠ g0 by omega)]
    exact hbr.trans R6.out
  clear a0 a1 a2 a3 a4 a5 a6 a7 a8 a9 b0 b1 b2 b3 b4 b5 b6 b7 b8 b9 c0 c1 c2 c3 c4 c5 c6 c7 c8 c9 gw gf gl hkE hbr hWX HB7 HB78 HB8 HB6 E6 R6 HWo HIx2 hv

  have hLl : bl < w.heap.size := LnAt.lb HL.out
  have hDb : ¬ (fun j => j = g0) b := (fun e => hbm (.inr (.inl e)))
  have hDl : ¬ (fun j => j = g0) bl := (fun e => hlm (.inr (.inl e)))
  have hkX := HKw.out.keep HDX.out hDb
  have g0' := cell_regrown EX.out.1
  have g1' := cell_regrown EX.out.2.1
  have g2' := cell_regrown EX.out.2.2.1
  have g3' := cell_regrown EX.out.2.2.2.1
  have g4' := cell_regrown EX.out.2.2.2.2.1
  have g5' := cell_regrown EX.out.2.2.2.2.2
  have k2' := cell_regrown hkX.c2
  have k6' := cell_regrown hkX.c6
  simp only at k2' k6'
  clear hkX
  refine Loose.wp_region_alloc 11 15 (.cells #[.int .i64 0, .int .i64 0, .int .i64 0, .int .i64 0] 39) _ (by kernel_rfl) (by kernel_rfl) rfl rfl rfl (by intro a w; simp [go_sem]) ?_
  simp only [List.take_succ_cons, List.take_zero, List.drop_succ_cons, List.drop_zero]
  repeat (
    refine Loose.wpGent_step (fun k hk => ?_)
    go_simp
    first
      | (refine hk _ ?_; clear hk k)
      | (apply Exists.intro
         refine ⟨fun _ => ?_, hk _ ?_⟩
         (go_at_call 44; exact Loose.calls (HLf _))
         clear hk k))
  refine Loose.wpGent_nil ?_
  intro bx w6 hb6 hbX hX
  have cb : w6.cell? ⟨bx, 0, none⟩ = some (.int .i64 0) ∧ w6.cell? ⟨bx, 1, none⟩ = some (.int .i64 0) ∧ w6.cell? ⟨bx, 2, none⟩ = some (.int .i64 0) ∧ w6.cell? ⟨bx, 3, none⟩ = some (.int .i64 0) := by
    simp [World.cell?, hX]
  obtain ⟨cb0, cb1, cb2, cb3⟩ := cb
  have fbx : ∀ i, w6.frozen? ⟨bx, i, none⟩ = false := fun i => by simp [World.frozen?, hX]
  have hB7 : Below WX.heap.size WX ((((w6.setCell ⟨bx, 0, none⟩ (.int .i64 mp)).setCell ⟨bx, 1, none⟩ (.int .i64 ms)).setCell ⟨bx, 2, none⟩ (.int .i64 mf)).setCell ⟨bx, 3, none⟩ (.int .i64 mr)) := below_set4 hb6 _ hbX _ _ _ _
  have m4 : ((((w6.setCell ⟨bx, 0, none⟩ (.int .i64 mp)).setCell ⟨bx, 1, none⟩ (.int .i64 ms)).setCell ⟨bx, 2, none⟩ (.int .i64 mf)).setCell ⟨bx, 3, none⟩ (.int .i64 mr)).cell? ⟨bx, 0, none⟩ = some (.int .i64 mp) ∧ ((((w6.setCell ⟨bx, 0, none⟩ (.int .i64 mp)).setCell ⟨bx, 1, none⟩ (.int .i64 ms)).setCell ⟨bx, 2, none⟩ (.int .i64 mf)).setCell ⟨bx, 3, none⟩ (.int .i64 mr)).cell? ⟨bx, 1, none⟩ = some (.int .i64 ms) ∧ ((((w6.setCell ⟨bx, 0, none⟩ (.int .i64 mp)).setCell ⟨bx, 1, none⟩ (.int .i64 ms)).setCell ⟨bx, 2, none⟩ (.int .i64 mf)).setCell ⟨bx, 3, none⟩ (.int .i64 mr)).cell? ⟨bx, 2, none⟩ = some (.int .i64 mf) ∧ ((((w6.setCell ⟨bx, 0, none⟩ (.int .i64 mp)).setCell ⟨bx, 1, none⟩ (.int .i64 ms)).setCell ⟨bx, 2, none⟩ (.int .i64 mf)).setCell ⟨bx, 3, none⟩ (.int .i64 mr)).cell? ⟨bx, 3, none⟩ = some (.int .i64 mr) := by simp [go_sem, cb0, cb1, cb2, cb3]
  have hsX : w.heap.size ≤ WX.heap.size := HDX.out.size
  have nbx : bx ≠ bl := by omega
  have mbx : bl ≠ bx := by omega
  have d4 := hb6.cell (p := ⟨Eb, 4, none⟩) (World.block_lt_of_cell? _ _ EX.out.2.2.2.2.1)
  have d4' := d4.trans EX.out.2.2.2.2.1
  have nEx : Eb ≠ bx := by have := World.block_lt_of_cell? _ _ EX.out.1; simp only at this; omega
  have mEx : bx ≠ Eb := fun e => nEx e.symm
  have nEl : Eb ≠ bl := by omega
  have mEl : bl ≠ Eb := by omega
  have hLX := HL.out.of (w' := WX) fun p => HDX.out.cell (a := ⟨bl, p, none⟩) hLl hDl
  have hL6 := hLX.below hb6 (Nat.lt_of_lt_of_le hLl hsX)
  have lf6 : ∀ i, w6.frozen? ⟨bl, i, none⟩ = false := fun i => (hb6.frozen (p := ⟨bl, i, none⟩) (Nat.lt_of_lt_of_le hLl hsX)).trans ((HDX.out.frozen (a := ⟨bl, i, none⟩) hLl hDl).trans (HLF.out i))
  obtain ⟨l0, l1, l2, l3, l4⟩ := hL6
  simp only [Nat.zero_add] at l1 l2 l3 l4
  generalize hW7 : ((((w6.setCell ⟨bx, 0, none⟩ (.int .i64 mp)).setCell ⟨bx, 1, none⟩ (.int .i64 ms)).setCell ⟨bx, 2, none⟩ (.int .i64 mf)).setCell ⟨bx, 3, none⟩ (.int .i64 mr)) = W7 at *
  have HB7 : Hid _ := hB7
  have M4 : Hid _ := m4
  obtain ⟨W8, hW8⟩ : ∃ W8, W8 = (((((W7.setCell ⟨bl, 0, none⟩ (.int .i64 mp)).setCell ⟨bl, 1, none⟩ (.int .i64 ms)).setCell ⟨bl, 2, none⟩ (.int .i64 mf)).setCell ⟨bl, 3, none⟩ (.int .i64 mr)).setCell ⟨bl, 4, none⟩ (.bool true)) := ⟨_, rfl⟩
  have hB8 : But (fun j => j = bl) W7 W8 := by rw [hW8]; exact (but_set4 (F := fun j => j = bl) (But.refl _ W7) bl (.inr rfl) _ _ _ _).setCell (a := ⟨bl, 4, none⟩) (.inr rfl) _
  have hk7 : W7.heap[bl]? = w6.heap[bl]? := by rw [← hW7, Below.heap_setCell _ _ _ _ mbx, Below.heap_setCell _ _ _ _ mbx, Below.heap_setCell _ _ _ _ mbx, Below.heap_setCell _ _ _ _ mbx]
  have t0 := (World.cell?_of_block (a := ⟨bl, 0, none⟩) hk7).trans l0
  have t1 := (World.cell?_of_block (a := ⟨bl, 1, none⟩) hk7).trans l1
  have t2 := (World.cell?_of_block (a := ⟨bl, 2, none⟩) hk7).trans l2
  have t3 := (World.cell?_of_block (a := ⟨bl, 3, none⟩) hk7).trans l3
  have t4 := (World.cell?_of_block (a := ⟨bl, 4, none⟩) hk7).trans l4
  have L8 : Hid (LnAt W8 bl 0 ⟨⟨mp, ms, mf, mr⟩, true⟩) := by
    rw [Hid, hW8]
    refine ⟨?_, ?_, ?_, ?_, ?_⟩ <;> simp [go_sem, t0, t1, t2, t3, t4]
  have H78 : Hid (But (fun j => j = bl) WX W8) := (But.of_below (F := fun j => j = bl) hB7).trans hB8 (fun _ _ h => h)
  have M8 : Hid (W8.cell? ⟨bx, 0, none⟩ = some (.int .i64 mp) ∧ W8.cell? ⟨bx, 1, none⟩ = some (.int .i64 ms) ∧ W8.cell? ⟨bx, 2, none⟩ = some (.int .i64 mf) ∧ W8.cell? ⟨bx, 3, none⟩ = some (.int .i64 mr)) := by
    have hk : W8.heap[bx]? = W7.heap[bx]? := hB8.block bx (World.block_lt_of_cell? _ _ m4.1) nbx
    exact ⟨(World.cell?_of_block hk).trans m4.1, (World.cell?_of_block hk).trans m4.2.1, (World.cell?_of_block hk).trans m4.2.2.1, (World.cell?_of_block hk).trans m4.2.2.2⟩
  have tf : ∀ i, W7.frozen? ⟨bl, i, none⟩ = false := fun i => (World.frozen?_of_block (a := ⟨bl, i, none⟩) hk7).trans (lf6 i)
  have d7 : W7.cell? ⟨Eb, 4, none⟩ = some (.bool true) := by
    have hkE : W7.heap[Eb]? = w6.heap[Eb]? := by rw [← hW7, Below.heap_setCell _ _ _ _ nEx, Below.heap_setCell _ _ _ _ nEx, Below.heap_setCell _ _ _ _ nEx, Below.heap_setCell _ _ _ _ nEx]
    exact (World.cell?_of_block (a := ⟨Eb, 4, none⟩) hkE).trans d4'
  obtain ⟨p0, p1, p2, p3⟩ := m4
  clear hk7 hB8 hB7 d4 hLX g0' g1' g2' g3' g4' g5' k2' k6' hX
  go_wp2_with fail
  rw [← hW8]
  clear hW7 hW8 t0 t1 t2 t3 t4 tf d7 p0 p1 p2 p3 cb0 cb1 cb2 cb3 fbx d4' l0 l1 l2 l3 l4 lf6
  have H8 : Hid (But (fun j => (fun j => j = g0) j ∨ j = bl) w W8) := (HDX.out.mono (fun _ _ h => .inl h)).trans H78.out (fun _ _ h => .inr h)
  have hb8D : ¬ ((fun j => j = g0) b ∨ b = bl) := by rintro (h | h); exact hDb h; exact hbl h
  have hk8 := HKw.out.keep H8.out hb8D
  have q0' := cell_regrown M8.out.1
  have q1' := cell_regrown M8.out.2.1
  have q2' := cell_regrown M8.out.2.2.1
  have q3' := cell_regrown M8.out.2.2.2
  have k2' := cell_regrown hk8.c2
  have k3' := cell_regrown hk8.c3
  have k4' := cell_regrown hk8.c4
  simp only at k2' k3' k4'
  clear hk8
  refine Loose.wp_region_late2 7 8 11 (by kernel_rfl) (by kernel_rfl) ?_
  simp only [List.take_succ_cons, List.take_zero, List.drop_succ_cons, List.drop_zero]
  repeat (
    refine Loose.wpGent_step (fun k hk => ?_)
    go_simp
    first
      | (refine hk _ ?_; clear hk k)
      | (apply Exists.intro
         refine ⟨fun _ => ?_, hk _ ?_⟩
         (go_at_call 38; exact Loose.calls (HAn _))
         clear hk k))
  refine Loose.wpGent_nil ?_
  intro w10 hb10
  have H10 : Hid (But (fun j => j = bl) WX w10) := H78.out.trans (But.of_below (F := fun j => j = bl) hb10) (fun _ _ h => h)
  have L10 : Hid (LnAt w10 bl 0 ⟨⟨mp, ms, mf, mr⟩, true⟩) := LnAt.below L8.out hb10 (LnAt.lb L8.out)
  clear q0' q1' q2' q3' k2' k3' k4' hb10 HAn L8 M8 H78 H8
  have H10w : Hid (But (fun j => (fun j => j = g0) j ∨ j = bl) w w10) := (HDX.out.mono (fun _ _ h => .inl h)).trans H10.out (fun _ _ h => .inr h)
  have HE := cEnd_any aa af ar w10 ⟨_, _, _, HKw.out.keep H10w.out hb8D⟩
  go_wp2_with fail
  refine HE.mono ?_
  rintro e w11 ⟨rfl, hk11, hc11⟩
  have HK11 : Hid (CkEx w11 b Pg.Wk.off) := hk11
  have H11 : Hid (But (fun j => j = bl ∨ j = b) WX w11) := (H10.out.mono (fun _ _ h => .inl h)).trans hc11.but (fun _ _ h => .inr h)
  have HC11 : Hid (Ch8 b 1 (fun j => j = b ∨ j = bl ∨ memF bm g0 g1 vb j) w w11) := ((Ch8.of_but (o := 1) H10w.out hl hb8D).mono (G := fun j => j = b ∨ j = bl ∨ memF bm g0 g1 vb j) (fun _ _ h => h.elim (fun h => .inr (.inr (.inr (.inl h)))) (fun h => .inr (.inl h)))).trans hc11 (fun _ _ h => .inl h)
  have L11 : Hid (LnAt w11 bl 0 ⟨⟨mp, ms, mf, mr⟩, true⟩) := L10.out.of fun p => hc11.but.cell (a := ⟨bl, p, none⟩) (LnAt.lb L10.out) (fun e => hbl e.symm)
  have R11 : Hid (w11.heap[w.heap.size]? = _) := (H11.out.block _ (Array.getElem?_eq_some_iff.1 RX.out).1 (by rintro (h | h); omega; exact hrb h)).trans RX.out
  clear hk11 hc11 HE L10 H10 H10w
  go_wp2_with fail
  repeat (
    refine Loose.wpGent_step (fun k hk => ?_)
    go_simp
    (refine hk _ ?_; clear hk k))
  refine Loose.wpGent_nil ?_
  intro w12 hb12
  have HK12 : Hid _ := HK11.out.of_block (hb12.block b HK11.out.lb)
  have H12 : Hid (But (fun j => j = bl ∨ j = b) WX w12) := H11.out.trans (But.of_below (F := fun j => j = bl ∨ j = b) hb12) (fun _ _ h => h)
  have HC12 : Hid (Ch8 b 1 (fun j => j = b ∨ j = bl ∨ memF bm g0 g1 vb j) w w12) := HC11.out.trans (Ch8.of_below (F := fun j => j = b ∨ j = bl ∨ memF bm g0 g1 vb j) hb12 HK11.out.lb) (fun _ _ h => h)
  have L12 : Hid (LnAt w12 bl 0 ⟨⟨mp, ms, mf, mr⟩, true⟩) := LnAt.below L11.out hb12 (LnAt.lb L11.out)
  have R12 : Hid (w12.heap[w.heap.size]? = _) := (hb12.block _ (Array.getElem?_eq_some_iff.1 R11.out).1).trans R11.out
  obtain ⟨⟨x0, x1, x2⟩, xf⟩ := row3 R12.out
  have HF : Hid _ := fin3 hrb (Nat.le_refl _) ⟨HK12.out, HC12.out⟩ (.int .i64 aa) (.int .i64 af) (.int .i64 ar)
  have hS3 := but_set3 (F := fun j => j = w.heap.size) (But.refl _ w12) w.heap.size (.inr rfl) (.int .i64 aa) (.int .i64 af) (.int .i64 ar)
  have HL13 : Hid _ := L12.out.of fun p => hS3.cell (a := ⟨bl, p, none⟩) (LnAt.lb L12.out) (show ¬ bl = w.heap.size by omega)
  have HM13 : Hid _ := HMX.out.keep (H12.out.mono (G := fun j => j = bl ∨ j = b ∨ j = w.heap.size) (fun _ _ h => h.elim .inl (fun h => .inr (.inl h))) |>.trans hS3 (fun _ _ h => .inr (.inr h))) (by
    rintro j hj (h | h | h)
    · exact hlm (h ▸ hj)
    · exact hbm (h ▸ hj)
    · have := HMw.out.raw.lt hj; omega)
  clear hS3 hb12
  go_wp2_with fail
  refine bodyPost_ret (v := .tuple #[.agg #[.int .i64 aa, .int .i64 af, .int .i64 ar], .bool true, .int .i64 0]) ?_ rfl ⟨rfl, HF.out.1, HM13.out, HL13.out, HF.out.2⟩
  simp [results, Try.results10, go_sem, x0, x1, x2]

theorem cStep_idle {bm bl : Nat} {K : Pg.Wk} (ho : K.on = false) (w : World) (h : CkEx w b K) :
    Calls Try.prog 10 #[.pointer (some ⟨b, 0, none⟩), .pointer (some ⟨bm, 0, none⟩), .int .i64 root, .pointer (some ⟨bl, 0, none⟩)] w fun e w' => e = .returned (.tuple #[.agg #[.int .i64 0, .int .i64 0, .int .i64 0], .bool false, .int .i64 9]) ∧ Below w.heap.size w w' := by
  obtain ⟨t, lv, x, h⟩ := h
  have c1 := h.c1
  have hl := h.lb
  have hne : b ≠ w.heap.size := by omega
  rw [ho] at c1
  clear h ho
  go_enter Try.func10, Try.ntmps10
  go_wp2_with fail
  refine bodyPost_ret (v := .tuple #[.agg #[.int .i64 0, .int .i64 0, .int .i64 0], .bool false, .int .i64 9]) ?_ rfl ⟨rfl, balloc (brefl _) _⟩
  simp [results, Try.results10, go_sem]

/-- What a step of the document's leaves. -/
structure CDone (w : World) (b bm g0 g1 bl : Nat) (vb : Value) (S : Pg.Fs) (K : Pg.Wk) (out : Pg.Wo) (e : Ending) (w' : World) : Prop where
  end' : e = .returned (.tuple #[.agg #[.int .i64 (out.res K).a, .int .i64 (out.res K).f, .int .i64 (out.res K).r], .bool (out.res K).ended, .int .i64 out.cd])
  at' : CkEx w' b (out.next K)
  mem : MemAt w' bm g0 g1 vb (out.fs S K)
  ln : LnAt w' bl 0 ⟨(out.res K).m, (out.res K).d⟩
  chg : Ch8 b 1 (fun j => j = b ∨ j = bl ∨ memF bm g0 g1 vb j) w w'

/-- A step that writes no line and no word. -/
theorem CDone.plain {w w' : World} {bm g0 g1 bl : Nat} {vb : Value} {S : Pg.Fs} {K : Pg.Wk} {out : Pg.Wo} {e : Ending} (hm : MemAt w bm g0 g1 vb S) (hL : LnAt w bl 0 ⟨⟨0, 0, 0, 0⟩, false⟩) (hbm : ¬ memF bm g0 g1 vb b) (hbl : b ≠ bl)
    (hf : out.fs S K = S) (h0 : (out.res K).m = ⟨0, 0, 0, 0⟩ ∧ (out.res K).d = false)
    (h : e = .returned (.tuple #[.agg #[.int .i64 (out.res K).a, .int .i64 (out.res K).f, .int .i64 (out.res K).r], .bool (out.res K).ended, .int .i64 out.cd]) ∧ CkEx w' b (out.next K) ∧ Ch8 b 1 (fun j => j = b) w w') : CDone w b bm g0 g1 bl vb S K out e w' := by
  obtain ⟨h1, h2, h3⟩ := h
  refine ⟨h1, h2, ?_, ?_, h3.mono (fun _ _ h => .inl h)⟩
  · rw [hf]
    exact hm.keep h3.but (fun j hj e => hbm (e ▸ hj))
  · rw [h0.1, h0.2]
    exact hL.of fun p => h3.but.cell (a := ⟨bl, p, none⟩) hL.lb (fun e => hbl e.symm)

theorem cStep_any {bm g0 g1 bl : Nat} {vb : Value} {S : Pg.Fs} {K : Pg.Wk} (ok : K.Ok) (w : World) (h : CkEx w b K) (hm : MemAt w bm g0 g1 vb S) (hL : LnAt w bl 0 ⟨⟨0, 0, 0, 0⟩, false⟩) (hLf : ∀ p, w.frozen? ⟨bl, p, none⟩ = false) (hbm : ¬ memF bm g0 g1 vb b) (hlm : ¬ memF bm g0 g1 vb bl) (hbl : b ≠ bl) :
    Calls Try.prog 10 #[.pointer (some ⟨b, 0, none⟩), .pointer (some ⟨bm, 0, none⟩), .int .i64 root, .pointer (some ⟨bl, 0, none⟩)] w fun e w' => CDone w b bm g0 g1 bl vb S K (Pg.kOut S root K) e w' := by
  cases ho : K.on
  · have e : Pg.kOut S root K = .code 9 := by simp [Pg.kOut, ho]
    rw [e]
    refine (cStep_idle ho w h).mono ?_
    rintro e w' ⟨rfl, hb⟩
    exact CDone.plain hm hL hbm hbl rfl ⟨rfl, rfl⟩ ⟨rfl, h.of_block (hb.block b h.lb), Ch8.of_below hb h.lb⟩
  · obtain ⟨t0, lv0, xw, h⟩ := h
    obtain ⟨on, q, k, u, t, lv, x⟩ := K
    simp only at ho
    subst ho
    obtain ⟨e1, e2⟩ := h.at' rfl
    simp only at e1 e2
    subst e1 e2
    have hq := ok.page rfl
    have hlv := ok.lv
    simp only at hq hlv
    have pl : ∀ (out : Pg.Wo) (e : Ending) (w' : World), out.fs S ⟨true, q, k, u, t0, lv, x⟩ = S → ((out.res ⟨true, q, k, u, t0, lv, x⟩).m = ⟨0, 0, 0, 0⟩ ∧ (out.res ⟨true, q, k, u, t0, lv, x⟩).d = false) → _ → CDone w b bm g0 g1 bl vb S ⟨true, q, k, u, t0, lv, x⟩ out e w' := fun out e w' hf h0 h => CDone.plain hm hL hbm hbl hf h0 h
    by_cases hx : x = 0
    · subst hx
      have hread := Pg.kRead S root q k u t0 lv
      rw [show Pg.kOut S root (Pg.Wk.at' q k u t0 lv 0) = Pg.kOut S root ⟨true, q, k, u, t0, lv, 0⟩ from rfl] at hread
      cases hh : S.has t0
      · have hrc : Pg.rCode S t0 (Pg.ix q lv) lv = 12 := by simp [Pg.rCode, hh]
        rw [hrc, if_pos (by decide)] at hread
        rw [hread]
        exact (cStep_free hq hlv w h hm hh).mono fun e w' h => pl _ _ _ rfl ⟨rfl, rfl⟩ h
      · by_cases hc : Pg.rCode S t0 (Pg.ix q lv) lv = 0
        · rw [if_neg (by simpa using hc)] at hread
          have hon := fun h => Pg.rEn_on (S := S) (t := t0) (i := Pg.ix q lv) (lv := lv) h
          have hwd0 : (Pg.rEn S t0 (Pg.ix q lv) lv).t = true → S.word t0.toNat (Pg.ix q lv) ≠ 0 := fun ht e => by
            rw [(Pg.rCode_of (i := Pg.ix q lv) (lv := lv) hh).2, e] at ht
            simp [Pg.En.of, Pg.dGood] at ht
          cases he : Pg.rEn S t0 (Pg.ix q lv) lv with
          | mk et el er eu ed ef =>
          rw [he] at hread hon hwd0
          simp only [Pg.En.on] at hread hon hwd0
          cases et
          · rw [if_pos rfl] at hread
            rw [hread]
            exact (cStep_none hq hlv w h hm hh hc he).mono fun e w' h => pl _ _ _ rfl ⟨rfl, rfl⟩ h
          · rw [if_neg (by decide)] at hread
            have hwd0 := hwd0 rfl
            cases el
            · rw [if_pos rfl] at hread
              obtain ⟨m, hm'⟩ := hon rfl
              have hlm2 : lv - 1 = m := by omega
              rw [hlm2] at hread
              rw [hread]
              exact (cStep_low hq hlv w h hm (m := m) (by omega) (by omega) hh hc he).mono fun e w' h => pl _ _ _ rfl ⟨rfl, rfl⟩ h
            · rw [if_neg (by decide)] at hread
              cases hmay : Pg.may er k u
              · rw [if_pos hmay] at hread
                rw [hread]
                exact (cStep_not hq hlv w h hm hmay hh hc he).mono fun e w' h => pl _ _ _ rfl ⟨rfl, rfl⟩ h
              · rw [if_neg (by simp [hmay])] at hread
                cases hr : (Pg.Wk.at' q k u t0 lv 0).ready ⟨true, true, er, eu, ed, ef⟩
                · rw [if_pos hr] at hread
                  rw [hread]
                  simp only [Pg.Wk.ready, Pg.Wk.at'] at hr
                  cases eu
                  · exact (cStep_wait hq hlv w h hm hwd0 hmay hh hc he).mono fun e w' h => pl _ _ _ rfl ⟨rfl, rfl⟩ h
                  · cases ed
                    · refine (cStep_wait2 hq hlv w h hm ?_ hwd0 hmay hh hc he).mono fun e w' h => pl _ _ _ rfl ⟨rfl, rfl⟩ h
                      simpa using hr
                    · simp at hr
                · rw [if_neg (by simp [hr])] at hread
                  rw [hread]
                  simp only [Pg.Wk.ready, Pg.Wk.at', Bool.and_eq_true] at hr
                  obtain ⟨rfl, h2⟩ := hr
                  cases ed
                  · refine (cStep_done2 hq hlv w h hm ?_ hL hLf hbm hlm hbl hmay hh hc he).mono fun e w' h => ⟨h.1, h.2.1, h.2.2.1, h.2.2.2.1, h.2.2.2.2⟩
                    simpa using h2
                  · exact (cStep_done hq hlv w h hm hL hLf hbm hlm hbl hmay hh hc he).mono fun e w' h => ⟨h.1, h.2.1, h.2.2.1, h.2.2.2.1, h.2.2.2.2⟩
        · rw [if_pos hc] at hread
          rw [hread]
          cases he : Pg.rEn S t0 (Pg.ix q lv) lv with
          | mk et el er eu ed ef => exact (cStep_bad hq hlv w h hm (by simpa using hc) hh rfl he).mono fun e w' h => pl _ _ _ rfl ⟨rfl, rfl⟩ h
    · obtain ⟨_, _, hdc, hlf, hmay, hrd⟩ := ok.leaf hx
      simp only at hdc hlf hmay hrd
      cases hh : S.has t0
      · have e : Pg.kOut S root ⟨true, q, k, u, t0, lv, x⟩ = .code 12 := by simp [Pg.kOut, hh]
        rw [e]
        exact (cStep_free hq hlv w h hm hh).mono fun e w' h => pl _ _ _ rfl ⟨rfl, rfl⟩ h
      · by_cases hw : S.word t0.toNat (Pg.ix q lv) = x
        · have e : Pg.kOut S root ⟨true, q, k, u, t0, lv, x⟩ = .done (Pg.Wk.mark ⟨true, q, k, u, t0, lv, x⟩ (Pg.En.of x lv)) true := Pg.kMark hx hh hw
          rw [e]
          obtain ⟨r1, r2⟩ := Pg.rCode_of (i := Pg.ix q lv) (lv := lv) hh
          rw [hw] at r1 r2
          rw [hdc] at r1
          have ht : (Pg.En.of x lv).t = true := by
            have := (Pg.rEn_leaf hm.ok (t := t0) (i := Pg.ix q lv) (lv := lv) (by rw [r2]; exact hlf)).2.1
            rwa [r2] at this
          cases he : Pg.En.of x lv with
          | mk et el er eu ed ef =>
          rw [he] at r2 hlf hmay hrd ht
          simp only at hlf hmay ht
          subst hlf ht
          simp only [Pg.Wk.ready] at hrd
          simp only [Pg.Wk.mark]
          cases eu
          · cases ed
            · rw [Bool.false_or]
              exact (cStep_mark2 hq hlv w h hm rfl hL hLf hbm hlm hbl hmay hh hx hw r1 r2).mono fun e w' h => ⟨h.1, h.2.1, h.2.2.1, h.2.2.2.1, h.2.2.2.2⟩
            · rw [Bool.true_or]
              exact (cStep_mark1 hq hlv w h hm hL hLf hbm hlm hbl hmay hh hx hw r1 r2).mono fun e w' h => ⟨h.1, h.2.1, h.2.2.1, h.2.2.2.1, h.2.2.2.2⟩
          · cases ed
            · have hk2 : (k != 1) = false := by simpa using hrd
              have hk1 : (k == 1) = true := by simpa using hk2
              rw [Bool.false_or, hk1]
              exact (cStep_mark3 hq hlv w h hm hk1 hk2 hL hLf hbm hlm hbl hmay hh hx hw r1 r2).mono fun e w' h => ⟨h.1, h.2.1, h.2.2.1, h.2.2.2.1, h.2.2.2.2⟩
            · simp at hrd
        · have e : Pg.kOut S root ⟨true, q, k, u, t0, lv, x⟩ = .go (Pg.Wk.again root ⟨true, q, k, u, t0, lv, x⟩) := by
            unfold Pg.kOut
            rw [if_neg (by simp), if_neg (by simp [hh]), if_pos hx, if_neg (show ¬ Pg.Wk.word S ⟨true, q, k, u, t0, lv, x⟩ = x from hw)]
          rw [e]
          exact (cStep_again hq hlv w h hm hh hx hw).mono fun e w' h => pl _ _ _ rfl ⟨rfl, rfl⟩ h
end
end Go.Proofs.Ytbkpndgadgafiae
