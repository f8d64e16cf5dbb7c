
/-
  The developers' walk: a step that reads.
-/
import Derived.Test.YtbkpndgadgafiaeKA
import Derived.Test.YtbkpndgadgafiaePlainKB
import Derived.Test.YtbkpndgadgafiaeFrames
import Derived.Test.YtbkpndgadgafiaeEntry
namespace Go.Proofs.Ytbkpndgadgafiae
open Go.RowKit Go.Sort
set_option linter.unusedVariables false
set_option linter.unusedSimpArgs false
set_option maxRecDepth 100000
attribute [local go_sem] Loose.gent

section
variable {b o : Nat} {root : Int}
theorem WkAt.low {W : World} {q k : Int} {u : Bool} {t : Int} {lv : Nat} {x : Int} (h : WkAt W b o root ⟨true, q, k, u, t, lv, x⟩) (t' : Int) (m : Nat) :
    WkAt ((W.setCell ⟨b, o + 5, none⟩ (.int .i64 t')).setCell ⟨b, o + 6, none⟩ (.int .i64 (m : Int))) b o root ⟨true, q, k, u, t', m, x⟩ ∧ Ch8 b o (fun j => j = b) W ((W.setCell ⟨b, o + 5, none⟩ (.int .i64 t')).setCell ⟨b, o + 6, none⟩ (.int .i64 (m : Int))) := by
  obtain ⟨c0, c1, c2, c3, c4, c5, c6, c7, fb⟩ := h
  refine ⟨⟨?_, ?_, ?_, ?_, ?_, ?_, ?_, ?_, fun p => ?_⟩, ((Ch8.refl b o (fun j => j = b) W).set rfl 5 (by decide) _).set rfl 6 (by decide) _⟩ <;> simp [go_sem, c0, c1, c2, c3, c4, c5, c6, c7, fb]
theorem WkAt.wait {W : World} {q k : Int} {u : Bool} {t : Int} {lv : Nat} {x : Int} (h : WkAt W b o root ⟨true, q, k, u, t, lv, x⟩) (x' : Int) :
    WkAt (W.setCell ⟨b, o + 7, none⟩ (.int .u64 x')) b o root ⟨true, q, k, u, t, lv, x'⟩ ∧ Ch8 b o (fun j => j = b) W (W.setCell ⟨b, o + 7, none⟩ (.int .u64 x')) := by
  obtain ⟨c0, c1, c2, c3, c4, c5, c6, c7, fb⟩ := h
  refine ⟨⟨?_, ?_, ?_, ?_, ?_, ?_, ?_, ?_, fun p => ?_⟩, (Ch8.refl b o (fun j => j = b) W).set rfl 7 (by decide) _⟩ <;> simp [go_sem, c0, c1, c2, c3, c4, c5, c6, c7, fb]

theorem at_has (S : Pg.Fs) (t q : Int) (lv : Nat) : S.at' t (Pg.ix q lv : Nat) = S.has t := by
  have := Pg.ix_lt q lv
  unfold Pg.Fs.at'
  cases S.has t
  · rfl
  · simp; omega

set_option maxHeartbeats 1000000 in
theorem kRead_free {bf : Nat} {S : Pg.Fs} {F : Nat → Prop} {q k : Int} {u : Bool} {t : Int} {lv : Nat} (hq : Pg.below q 4096 = true) (hlv : lv < 4) (w : World) (h : WkAt w b o root ⟨true, q, k, u, t, lv, 0⟩) (hf : FrAt w bf S F) (hh : S.has t = false) :
    Calls Try.prog 68 #[.pointer (some ⟨b, o, none⟩), .pointer (some ⟨bf, 0, none⟩)] w fun e w' => e = .returned (.tuple #[(Pg.Wo.res ⟨true, q, k, u, t, lv, 0⟩ (.code 12)).val, .int .i64 (Pg.Wo.cd (.code 12))]) ∧ WkAt w' b o root (Pg.Wo.next ⟨true, q, k, u, t, lv, 0⟩ (.code 12)) ∧ Ch8 b o (fun j => j = b) w w' := by
  obtain ⟨W, hW⟩ : ∃ W, W = w.alloc (.cells #[.bool false, .int .i64 0, .int .i64 0, .int .i64 0, .int .i64 0, .int .i64 0, .int .i64 0, .int .i64 0, .bool false] 102) := ⟨_, rfl⟩
  have hBW : Below w.heap.size w W := by rw [hW]; exact balloc (brefl w) _
  have hl := h.lb
  have hWs : W.heap.size = w.heap.size + 1 := by rw [hW]; simp
  have HKW : Hid _ := h.grow hBW
  have HFW : Hid (FrAt W bf S F) := hf.keep (G := fun _ => False) (But.of_below hBW) (fun _ _ => id)
  have HBW : Hid _ := hBW
  have R9 : Hid (W.heap[w.heap.size]? = some (.cells #[.bool false, .int .i64 0, .int .i64 0, .int .i64 0, .int .i64 0, .int .i64 0, .int .i64 0, .int .i64 0, .bool false] 102 (0, 0))) := by rw [hW]; exact heap_alloc_new _ _
  have hix := Pg.index_ix hq hlv
  have HP := fun d os => kPlace_any _ (HKW.out.grow (below_regrown W d os))
  simp only [hix] at HP
  have HL := fun d os => frLoad_any t (Pg.ix q lv : Nat) _ (FrAt.keep (G := fun _ => False) HFW.out (But.of_below (below_regrown W d os)) (fun _ _ => id))
  have hat : S.at' t (Pg.ix q lv : Nat) = S.has t := at_has S t q lv
  rw [hat] at HL
  have k5 := cell_regrown HKW.out.c5
  simp only at k5

  have hld : S.load t (Pg.ix q lv : Nat) = 0 := by simp [Pg.Fs.load, hat, hh]
  rw [hh, hld] at HL
  clear hld hh hat
  simp only [Pg.Wo.res, Pg.Wo.cd, Pg.Wo.next, Pg.Rs.zero, Pg.Rs.val]
  clear h hf hBW
  generalize ((Pg.ix q lv : Nat) : Int) = ixv at *

  go_enter Try.func68, Try.ntmps68
  go_wp2_with fail
  rw [← hW]
  clear hW
  refine wp_region_quiet_below (by kernel_rfl) (by kernel_rfl) ?_
  repeat (first
    | go_big_quiet_step (first
      | (go_at_call 80; exact Calls.regrown_of (HP _ _))
      | (go_at_call 59; exact Calls.regrown_of (HL _ _))))
  refine wpQuiet_nil ?_
  intro _ hw'
  obtain ⟨⟨dq, osq⟩, rfl⟩ := hw'
  have hb1 := below_regrown W dq osq
  have HK1 : Hid _ := HKW.out.grow hb1
  have HB1 : Hid (Below w.heap.size w (grow (redrawn W dq) osq)) := bthen HBW.out hb1
  have R1 : Hid ((grow (redrawn W dq) osq).heap[w.heap.size]? = _) := (hb1.block _ (by omega)).trans R9.out
  clear hb1 HP HL k5 HKW HFW HBW R9
  generalize grow (redrawn W dq) osq = w1 at *
  have hl1 : b < w1.heap.size := HK1.out.lb
  have hr1 : w.heap.size < w1.heap.size := by have := HB1.out.size; have := (Array.getElem?_eq_some_iff.1 R1.out).1; omega
  have hrb : ¬ w.heap.size = b := by omega

  obtain ⟨⟨x0, x1, x2, x3, x4, x5, x6, x7, x8⟩, xf⟩ := row9 R1.out
  have HF : Hid _ := fin9 hrb (Nat.le_refl _) ⟨HK1.out, Ch8.of_below (F := fun j => j = b) HB1.out hl⟩ (.bool false) (.int .i64 0) (.int .i64 0) (.int .i64 0) (.int .i64 0) (.int .i64 0) (.int .i64 0) (.int .i64 0) (.bool false)
  go_wp2_with fail
  refine bodyPost_ret (v := .tuple #[.agg #[.bool false, .int .i64 0, .int .i64 0, .int .i64 0, .int .i64 0, .int .i64 0, .int .i64 0, .int .i64 0, .bool false], .int .i64 12]) ?_ rfl ⟨rfl, HF.out⟩
  simp [results, Try.results68, go_sem, x0, x1, x2, x3, x4, x5, x6, x7, x8]

set_option maxHeartbeats 1000000 in
theorem kRead_bad {bf : Nat} {S : Pg.Fs} {F : Nat → Prop} {q k : Int} {u : Bool} {t : Int} {lv : Nat} (hq : Pg.below q 4096 = true) (hlv : lv < 4) (w : World) (h : WkAt w b o root ⟨true, q, k, u, t, lv, 0⟩) (hf : FrAt w bf S F) {rc : Int} {et el : Bool} {er : Int} {eu ed : Bool} {ef : Int} (hcn : (rc != 0) = true) (hh : S.has t = true) (hc : Pg.rCode S t (Pg.ix q lv) lv = rc) (he : Pg.rEn S t (Pg.ix q lv) lv = ⟨et, el, er, eu, ed, ef⟩) :
    Calls Try.prog 68 #[.pointer (some ⟨b, o, none⟩), .pointer (some ⟨bf, 0, none⟩)] w fun e w' => e = .returned (.tuple #[(Pg.Wo.res ⟨true, q, k, u, t, lv, 0⟩ (.code rc)).val, .int .i64 (Pg.Wo.cd (.code rc))]) ∧ WkAt w' b o root (Pg.Wo.next ⟨true, q, k, u, t, lv, 0⟩ (.code rc)) ∧ Ch8 b o (fun j => j = b) w w' := by
  obtain ⟨W, hW⟩ : ∃ W, W = w.alloc (.cells #[.bool false, .int .i64 0, .int .i64 0, .int .i64 0, .int .i64 0, .int .i64 0, .int .i64 0, .int .i64 0, .bool false] 102) := ⟨_, rfl⟩
  have hBW : Below w.heap.size w W := by rw [hW]; exact balloc (brefl w) _
  have hl := h.lb
  have hWs : W.heap.size = w.heap.size + 1 := by rw [hW]; simp
  have HKW : Hid _ := h.grow hBW
  have HFW : Hid (FrAt W bf S F) := hf.keep (G := fun _ => False) (But.of_below hBW) (fun _ _ => id)
  have HBW : Hid _ := hBW
  have R9 : Hid (W.heap[w.heap.size]? = some (.cells #[.bool false, .int .i64 0, .int .i64 0, .int .i64 0, .int .i64 0, .int .i64 0, .int .i64 0, .int .i64 0, .bool false] 102 (0, 0))) := by rw [hW]; exact heap_alloc_new _ _
  have hix := Pg.index_ix hq hlv
  have HP := fun d os => kPlace_any _ (HKW.out.grow (below_regrown W d os))
  simp only [hix] at HP
  have HL := fun d os => frLoad_any t (Pg.ix q lv : Nat) _ (FrAt.keep (G := fun _ => False) HFW.out (But.of_below (below_regrown W d os)) (fun _ _ => id))
  have hat : S.at' t (Pg.ix q lv : Nat) = S.has t := at_has S t q lv
  rw [hat] at HL
  have k5 := cell_regrown HKW.out.c5
  simp only at k5

  have hld : S.load t (Pg.ix q lv : Nat) = S.word t.toNat (Pg.ix q lv) := by simp [Pg.Fs.load, hat, hh]
  rw [hh, hld] at HL
  obtain ⟨e1, e2⟩ := Pg.rCode_of (i := Pg.ix q lv) (lv := lv) hh
  have HD := fun W' => decode_any (S.word t.toNat (Pg.ix q lv)) lv (hf.ok.low _ _) (hf.ok.high _ _) W'
  rw [Pg.decV_of, ← e1, ← e2, he, hc] at HD
  clear e1 e2 hld hh hat he hc
  generalize S.word t.toNat (Pg.ix q lv) = wd at *
  simp only [Pg.En.val] at HD
  clear h hf hBW
  generalize ((Pg.ix q lv : Nat) : Int) = ixv at *
  simp only [Pg.Wo.res, Pg.Wo.cd, Pg.Wo.next, Pg.Rs.zero, Pg.Rs.val]

  go_enter Try.func68, Try.ntmps68
  go_wp2_with fail
  rw [← hW]
  clear hW
  refine wp_region_quiet_below (by kernel_rfl) (by kernel_rfl) ?_
  repeat (first
    | go_big_quiet_step (first
      | (go_at_call 80; exact Calls.regrown_of (HP _ _))
      | (go_at_call 59; exact Calls.regrown_of (HL _ _))))
  refine wpQuiet_nil ?_
  intro _ hw'
  obtain ⟨⟨dq, osq⟩, rfl⟩ := hw'
  have hb1 := below_regrown W dq osq
  have HK1 : Hid _ := HKW.out.grow hb1
  have HB1 : Hid (Below w.heap.size w (grow (redrawn W dq) osq)) := bthen HBW.out hb1
  have R1 : Hid ((grow (redrawn W dq) osq).heap[w.heap.size]? = _) := (hb1.block _ (by omega)).trans R9.out
  clear hb1 HP HL k5 HKW HFW HBW R9
  generalize grow (redrawn W dq) osq = w1 at *
  have hl1 : b < w1.heap.size := HK1.out.lb
  have hr1 : w.heap.size < w1.heap.size := by have := HB1.out.size; have := (Array.getElem?_eq_some_iff.1 R1.out).1; omega
  have hrb : ¬ w.heap.size = b := by omega

  have k6 := HK1.out.c6
  simp only at k6
  go_wp2_with fail
  refine (HD _).mono ?_
  rintro e w2 ⟨rfl, hb2⟩
  have hr2 : w.heap.size < w2.heap.size := Nat.lt_of_lt_of_le hr1 hb2.size
  have hl2 : b < w2.heap.size := Nat.lt_of_lt_of_le hl1 hb2.size
  have HK2 : Hid _ := HK1.out.grow hb2
  have HB2 : Hid (Below w.heap.size w w2) := bthen HB1.out hb2
  have R2 : Hid (w2.heap[w.heap.size]? = _) := (hb2.block _ hr1).trans R1.out
  clear hb2 HK1 HB1 R1 k6 HD hr1 hl1 hlv hq hix
  have nb2 : b ≠ w2.heap.size := by omega
  have mb2 : w2.heap.size ≠ b := by omega
  have nr2 : w.heap.size ≠ w2.heap.size := by omega
  have mr2 : w2.heap.size ≠ w.heap.size := by omega
  obtain ⟨⟨x0, x1, x2, x3, x4, x5, x6, x7, x8⟩, xf⟩ := row9 R2.out
  have HF : Hid _ := fin8 (fin9 hrb (Nat.le_refl _) ⟨HK2.out, Ch8.of_below (F := fun j => j = b) HB2.out hl⟩ (.bool false) (.int .i64 0) (.int .i64 0) (.int .i64 0) (.int .i64 0) (.int .i64 0) (.int .i64 0) (.int .i64 0) (.bool false)) (balloc (brefl _) (.cells #[.bool et, .bool el, .int .i64 er, .bool eu, .bool ed, .int .i64 ef] 93))
  go_wp2_with fail
  refine bodyPost_ret (v := .tuple #[.agg #[.bool false, .int .i64 0, .int .i64 0, .int .i64 0, .int .i64 0, .int .i64 0, .int .i64 0, .int .i64 0, .bool false], .int .i64 rc]) ?_ rfl ⟨rfl, HF.out⟩
  simp [results, Try.results68, go_sem, x0, x1, x2, x3, x4, x5, x6, x7, x8, hr2, nr2, mr2]

set_option maxHeartbeats 1000000 in
theorem kRead_none {bf : Nat} {S : Pg.Fs} {F : Nat → Prop} {q k : Int} {u : Bool} {t : Int} {lv : Nat} (hq : Pg.below q 4096 = true) (hlv : lv < 4) (w : World) (h : WkAt w b o root ⟨true, q, k, u, t, lv, 0⟩) (hf : FrAt w bf S F) {el : Bool} {er : Int} {eu ed : Bool} {ef : Int} (hh : S.has t = true) (hc : Pg.rCode S t (Pg.ix q lv) lv = 0) (he : Pg.rEn S t (Pg.ix q lv) lv = ⟨false, el, er, eu, ed, ef⟩) :
    Calls Try.prog 68 #[.pointer (some ⟨b, o, none⟩), .pointer (some ⟨bf, 0, none⟩)] w fun e w' => e = .returned (.tuple #[(Pg.Wo.res ⟨true, q, k, u, t, lv, 0⟩ (.stop 1)).val, .int .i64 (Pg.Wo.cd (.stop 1))]) ∧ WkAt w' b o root (Pg.Wo.next ⟨true, q, k, u, t, lv, 0⟩ (.stop 1)) ∧ Ch8 b o (fun j => j = b) w w' := by
  obtain ⟨W, hW⟩ : ∃ W, W = w.alloc (.cells #[.bool false, .int .i64 0, .int .i64 0, .int .i64 0, .int .i64 0, .int .i64 0, .int .i64 0, .int .i64 0, .bool false] 102) := ⟨_, rfl⟩
  have hBW : Below w.heap.size w W := by rw [hW]; exact balloc (brefl w) _
  have hl := h.lb
  have hWs : W.heap.size = w.heap.size + 1 := by rw [hW]; simp
  have HKW : Hid _ := h.grow hBW
  have HFW : Hid (FrAt W bf S F) := hf.keep (G := fun _ => False) (But.of_below hBW) (fun _ _ => id)
  have HBW : Hid _ := hBW
  have R9 : Hid (W.heap[w.heap.size]? = some (.cells #[.bool false, .int .i64 0, .int .i64 0, .int .i64 0, .int .i64 0, .int .i64 0, .int .i64 0, .int .i64 0, .bool false] 102 (0, 0))) := by rw [hW]; exact heap_alloc_new _ _
  have hix := Pg.index_ix hq hlv
  have HP := fun d os => kPlace_any _ (HKW.out.grow (below_regrown W d os))
  simp only [hix] at HP
  have HL := fun d os => frLoad_any t (Pg.ix q lv : Nat) _ (FrAt.keep (G := fun _ => False) HFW.out (But.of_below (below_regrown W d os)) (fun _ _ => id))
  have hat : S.at' t (Pg.ix q lv : Nat) = S.has t := at_has S t q lv
  rw [hat] at HL
  have k5 := cell_regrown HKW.out.c5
  simp only at k5

  have hld : S.load t (Pg.ix q lv : Nat) = S.word t.toNat (Pg.ix q lv) := by simp [Pg.Fs.load, hat, hh]
  rw [hh, hld] at HL
  obtain ⟨e1, e2⟩ := Pg.rCode_of (i := Pg.ix q lv) (lv := lv) hh
  have HD := fun W' => decode_any (S.word t.toNat (Pg.ix q lv)) lv (hf.ok.low _ _) (hf.ok.high _ _) W'
  rw [Pg.decV_of, ← e1, ← e2, he, hc] at HD
  clear e1 e2 hld hh hat he hc
  generalize S.word t.toNat (Pg.ix q lv) = wd at *
  simp only [Pg.En.val] at HD
  clear h hf hBW
  generalize ((Pg.ix q lv : Nat) : Int) = ixv at *
  simp only [Pg.Wo.res, Pg.Wo.cd, Pg.Wo.next, Pg.Rs.zero, Pg.Rs.val]

  go_enter Try.func68, Try.ntmps68
  go_wp2_with fail
  rw [← hW]
  clear hW
  refine wp_region_quiet_below (by kernel_rfl) (by kernel_rfl) ?_
  repeat (first
    | go_big_quiet_step (first
      | (go_at_call 80; exact Calls.regrown_of (HP _ _))
      | (go_at_call 59; exact Calls.regrown_of (HL _ _))))
  refine wpQuiet_nil ?_
  intro _ hw'
  obtain ⟨⟨dq, osq⟩, rfl⟩ := hw'
  have hb1 := below_regrown W dq osq
  have HK1 : Hid _ := HKW.out.grow hb1
  have HB1 : Hid (Below w.heap.size w (grow (redrawn W dq) osq)) := bthen HBW.out hb1
  have R1 : Hid ((grow (redrawn W dq) osq).heap[w.heap.size]? = _) := (hb1.block _ (by omega)).trans R9.out
  clear hb1 HP HL k5 HKW HFW HBW R9
  generalize grow (redrawn W dq) osq = w1 at *
  have hl1 : b < w1.heap.size := HK1.out.lb
  have hr1 : w.heap.size < w1.heap.size := by have := HB1.out.size; have := (Array.getElem?_eq_some_iff.1 R1.out).1; omega
  have hrb : ¬ w.heap.size = b := by omega

  have k6 := HK1.out.c6
  simp only at k6
  go_wp2_with fail
  refine (HD _).mono ?_
  rintro e w2 ⟨rfl, hb2⟩
  have hr2 : w.heap.size < w2.heap.size := Nat.lt_of_lt_of_le hr1 hb2.size
  have hl2 : b < w2.heap.size := Nat.lt_of_lt_of_le hl1 hb2.size
  have HK2 : Hid _ := HK1.out.grow hb2
  have HB2 : Hid (Below w.heap.size w w2) := bthen HB1.out hb2
  have R2 : Hid (w2.heap[w.heap.size]? = _) := (hb2.block _ hr1).trans R1.out
  clear hb2 HK1 HB1 R1 k6 HD hr1 hl1 hlv hq hix
  have nb2 : b ≠ w2.heap.size := by omega
  have mb2 : w2.heap.size ≠ b := by omega
  have nr2 : w.heap.size ≠ w2.heap.size := by omega
  have mr2 : w2.heap.size ≠ w.heap.size := by omega

  obtain ⟨W3, hW3⟩ : ∃ W3, W3 = w2.alloc (.cells #[.bool false, .bool el, .int .i64 er, .bool eu, .bool ed, .int .i64 ef] 93) := ⟨_, rfl⟩
  have hB3 : Below w2.heap.size w2 W3 := by rw [hW3]; exact balloc (brefl _) _
  have HK3 : Hid _ := HK2.out.grow hB3
  have HB3 : Hid (Below w.heap.size w W3) := bthen HB2.out hB3
  have R3 : Hid (W3.heap[w.heap.size]? = _) := (hB3.block _ hr2).trans R2.out
  have e6 : W3.cell? ⟨w2.heap.size, 0, none⟩ = some (.bool false) ∧ W3.cell? ⟨w2.heap.size, 1, none⟩ = some (.bool el) ∧ W3.cell? ⟨w2.heap.size, 2, none⟩ = some (.int .i64 er) ∧ W3.cell? ⟨w2.heap.size, 3, none⟩ = some (.bool eu) ∧ W3.cell? ⟨w2.heap.size, 4, none⟩ = some (.bool ed) ∧ W3.cell? ⟨w2.heap.size, 5, none⟩ = some (.int .i64 ef) := by rw [hW3]; simp [go_sem]
  have hr3 : w.heap.size < W3.heap.size := by have := hB3.size; omega
  have hl3 : b < W3.heap.size := by have := hB3.size; omega
  clear hB3
  go_wp2_with fail
  rw [← hW3]
  clear hW3 HK2 HB2 R2

  have HE := kEnd_any 1 0 0 ⟨0, 0, 0, 0⟩ false _ HK3.out
  simp only [Pg.Rs.val] at HE
  refine HE.mono ?_
  rintro e w9 ⟨rfl, hk9, hc9⟩
  have HC9 : Hid (Ch8 b o (fun j => j = b) w w9) := (Ch8.of_below HB3.out hl).trans hc9 (fun _ _ h => h)
  have R9 : Hid (w9.heap[w.heap.size]? = _) := (hc9.but.block _ hr3 hrb).trans R3.out
  have hr9 : w.heap.size < w9.heap.size := Nat.lt_of_lt_of_le hr3 hc9.but.size
  obtain ⟨⟨x0, x1, x2, x3, x4, x5, x6, x7, x8⟩, xf⟩ := row9 R9.out
  have HF : Hid _ := fin9 hrb (Nat.le_refl _) ⟨hk9, HC9.out⟩ (.bool true) (.int .i64 1) (.int .i64 0) (.int .i64 0) (.int .i64 0) (.int .i64 0) (.int .i64 0) (.int .i64 0) (.bool false)
  clear hk9 hc9 HE
  go_wp2_with fail
  refine bodyPost_ret (v := .tuple #[.agg #[.bool true, .int .i64 1, .int .i64 0, .int .i64 0, .int .i64 0, .int .i64 0, .int .i64 0, .int .i64 0, .bool false], .int .i64 0]) ?_ rfl ⟨rfl, HF.out⟩
  simp [results, Try.results68, go_sem, x0, x1, x2, x3, x4, x5, x6, x7, x8]

set_option maxHeartbeats 1000000 in
theorem kRead_low {bf : Nat} {S : Pg.Fs} {F : Nat → Prop} {q k : Int} {u : Bool} {t : Int} {lv : Nat} (hq : Pg.below q 4096 = true) (hlv : lv < 4) (w : World) (h : WkAt w b o root ⟨true, q, k, u, t, lv, 0⟩) (hf : FrAt w bf S F) {er : Int} {eu ed : Bool} {ef : Int} {m : Nat} (hlm : (lv : Int) - 1 = (m : Int)) (hlm1 : (1 : Int) ≤ (lv : Int)) (hh : S.has t = true) (hc : Pg.rCode S t (Pg.ix q lv) lv = 0) (he : Pg.rEn S t (Pg.ix q lv) lv = ⟨true, false, er, eu, ed, ef⟩) :
    Calls Try.prog 68 #[.pointer (some ⟨b, o, none⟩), .pointer (some ⟨bf, 0, none⟩)] w fun e w' => e = .returned (.tuple #[(Pg.Wo.res ⟨true, q, k, u, t, lv, 0⟩ (.go ⟨true, q, k, u, ef, m, 0⟩)).val, .int .i64 (Pg.Wo.cd (.go ⟨true, q, k, u, ef, m, 0⟩))]) ∧ WkAt w' b o root (Pg.Wo.next ⟨true, q, k, u, t, lv, 0⟩ (.go ⟨true, q, k, u, ef, m, 0⟩)) ∧ Ch8 b o (fun j => j = b) w w' := by
  obtain ⟨W, hW⟩ : ∃ W, W = w.alloc (.cells #[.bool false, .int .i64 0, .int .i64 0, .int .i64 0, .int .i64 0, .int .i64 0, .int .i64 0, .int .i64 0, .bool false] 102) := ⟨_, rfl⟩
  have hBW : Below w.heap.size w W := by rw [hW]; exact balloc (brefl w) _
  have hl := h.lb
  have hWs : W.heap.size = w.heap.size + 1 := by rw [hW]; simp
  have HKW : Hid _ := h.grow hBW
  have HFW : Hid (FrAt W bf S F) := hf.keep (G := fun _ => False) (But.of_below hBW) (fun _ _ => id)
  have HBW : Hid _ := hBW
  have R9 : Hid (W.heap[w.heap.size]? = some (.cells #[.bool false, .int .i64 0, .int .i64 0, .int .i64 0, .int .i64 0, .int .i64 0, .int .i64 0, .int .i64 0, .bool false] 102 (0, 0))) := by rw [hW]; exact heap_alloc_new _ _
  have hix := Pg.index_ix hq hlv
  have HP := fun d os => kPlace_any _ (HKW.out.grow (below_regrown W d os))
  simp only [hix] at HP
  have HL := fun d os => frLoad_any t (Pg.ix q lv : Nat) _ (FrAt.keep (G := fun _ => False) HFW.out (But.of_below (below_regrown W d os)) (fun _ _ => id))
  have hat : S.at' t (Pg.ix q lv : Nat) = S.has t := at_has S t q lv
  rw [hat] at HL
  have k5 := cell_regrown HKW.out.c5
  simp only at k5

  have hld : S.load t (Pg.ix q lv : Nat) = S.word t.toNat (Pg.ix q lv) := by simp [Pg.Fs.load, hat, hh]
  rw [hh, hld] at HL
  obtain ⟨e1, e2⟩ := Pg.rCode_of (i := Pg.ix q lv) (lv := lv) hh
  have HD := fun W' => decode_any (S.word t.toNat (Pg.ix q lv)) lv (hf.ok.low _ _) (hf.ok.high _ _) W'
  rw [Pg.decV_of, ← e1, ← e2, he, hc] at HD
  clear e1 e2 hld hh hat he hc
  generalize S.word t.toNat (Pg.ix q lv) = wd at *
  simp only [Pg.En.val] at HD
  clear h hf hBW
  generalize ((Pg.ix q lv : Nat) : Int) = ixv at *
  simp only [Pg.Wo.res, Pg.Wo.cd, Pg.Wo.next, Pg.Rs.zero, Pg.Rs.val]

  go_enter Try.func68, Try.ntmps68
  go_wp2_with fail
  rw [← hW]
  clear hW
  refine wp_region_quiet_below (by kernel_rfl) (by kernel_rfl) ?_
  repeat (first
    | go_big_quiet_step (first
      | (go_at_call 80; exact Calls.regrown_of (HP _ _))
      | (go_at_call 59; exact Calls.regrown_of (HL _ _))))
  refine wpQuiet_nil ?_
  intro _ hw'
  obtain ⟨⟨dq, osq⟩, rfl⟩ := hw'
  have hb1 := below_regrown W dq osq
  have HK1 : Hid _ := HKW.out.grow hb1
  have HB1 : Hid (Below w.heap.size w (grow (redrawn W dq) osq)) := bthen HBW.out hb1
  have R1 : Hid ((grow (redrawn W dq) osq).heap[w.heap.size]? = _) := (hb1.block _ (by omega)).trans R9.out
  clear hb1 HP HL k5 HKW HFW HBW R9
  generalize grow (redrawn W dq) osq = w1 at *
  have hl1 : b < w1.heap.size := HK1.out.lb
  have hr1 : w.heap.size < w1.heap.size := by have := HB1.out.size; have := (Array.getElem?_eq_some_iff.1 R1.out).1; omega
  have hrb : ¬ w.heap.size = b := by omega

  have k6 := HK1.out.c6
  simp only at k6
  go_wp2_with fail
  refine (HD _).mono ?_
  rintro e w2 ⟨rfl, hb2⟩
  have hr2 : w.heap.size < w2.heap.size := Nat.lt_of_lt_of_le hr1 hb2.size
  have hl2 : b < w2.heap.size := Nat.lt_of_lt_of_le hl1 hb2.size
  have HK2 : Hid _ := HK1.out.grow hb2
  have HB2 : Hid (Below w.heap.size w w2) := bthen HB1.out hb2
  have R2 : Hid (w2.heap[w.heap.size]? = _) := (hb2.block _ hr1).trans R1.out
  clear hb2 HK1 HB1 R1 k6 HD hr1 hl1 hq hix
  have nb2 : b ≠ w2.heap.size := by omega
  have mb2 : w2.heap.size ≠ b := by omega
  have nr2 : w.heap.size ≠ w2.heap.size := by omega
  have mr2 : w2.heap.size ≠ w.heap.size := by omega

  obtain ⟨W3, hW3⟩ : ∃ W3, W3 = w2.alloc (.cells #[.bool true, .bool false, .int .i64 er, .bool eu, .bool ed, .int .i64 ef] 93) := ⟨_, rfl⟩
  have hB3 : Below w2.heap.size w2 W3 := by rw [hW3]; exact balloc (brefl _) _
  have HK3 : Hid _ := HK2.out.grow hB3
  have HB3 : Hid (Below w.heap.size w W3) := bthen HB2.out hB3
  have R3 : Hid (W3.heap[w.heap.size]? = _) := (hB3.block _ hr2).trans R2.out
  have e6 : W3.cell? ⟨w2.heap.size, 0, none⟩ = some (.bool true) ∧ W3.cell? ⟨w2.heap.size, 1, none⟩ = some (.bool false) ∧ W3.cell? ⟨w2.heap.size, 2, none⟩ = some (.int .i64 er) ∧ W3.cell? ⟨w2.heap.size, 3, none⟩ = some (.bool eu) ∧ W3.cell? ⟨w2.heap.size, 4, none⟩ = some (.bool ed) ∧ W3.cell? ⟨w2.heap.size, 5, none⟩ = some (.int .i64 ef) := by rw [hW3]; simp [go_sem]
  have hr3 : w.heap.size < W3.heap.size := by have := hB3.size; omega
  have hl3 : b < W3.heap.size := by have := hB3.size; omega
  clear hB3
  go_wp2_with fail
  rw [← hW3]
  clear hW3 HK2 HB2 R2

  obtain ⟨z0, z1, z2, z3, z4, z5⟩ := e6
  have y5 := HK3.out.c5
  have y6 := HK3.out.c6
  have yf := HK3.out.fb
  simp only at y5 y6
  obtain ⟨⟨x0, x1, x2, x3, x4, x5, x6, x7, x8⟩, xf⟩ := row9 R3.out
  have HF : Hid _ := fin8 (fin9 hrb (Nat.le_refl _) ⟨(HK3.out.low ef m).1, (Ch8.of_below HB3.out hl).trans (HK3.out.low ef m).2 (fun _ _ h => h)⟩ (.bool false) (.int .i64 0) (.int .i64 0) (.int .i64 0) (.int .i64 0) (.int .i64 0) (.int .i64 0) (.int .i64 0) (.bool false)) (brefl _).drew
  go_region
  go_wp2_with fail
  refine bodyPost_ret (v := .tuple #[.agg #[.bool false, .int .i64 0, .int .i64 0, .int .i64 0, .int .i64 0, .int .i64 0, .int .i64 0, .int .i64 0, .bool false], .int .i64 0]) ?_ rfl ⟨rfl, HF.out⟩
  simp [results, Try.results68, go_sem, x0, x1, x2, x3, x4, x5, x6, x7, x8]

set_option maxHeartbeats 1000000 in
theorem kRead_not {bf : Nat} {S : Pg.Fs} {F : Nat → Prop} {q k : Int} {u : Bool} {t : Int} {lv : Nat} (hq : Pg.below q 4096 = true) (hlv : lv < 4) (w : World) (h : WkAt w b o root ⟨true, q, k, u, t, lv, 0⟩) (hf : FrAt w bf S F) {er : Int} {eu ed : Bool} {ef : Int} (hmay : Pg.may er k u = false) (hh : S.has t = true) (hc : Pg.rCode S t (Pg.ix q lv) lv = 0) (he : Pg.rEn S t (Pg.ix q lv) lv = ⟨true, true, er, eu, ed, ef⟩) :
    Calls Try.prog 68 #[.pointer (some ⟨b, o, none⟩), .pointer (some ⟨bf, 0, none⟩)] w fun e w' => e = .returned (.tuple #[(Pg.Wo.res ⟨true, q, k, u, t, lv, 0⟩ (.stop 2)).val, .int .i64 (Pg.Wo.cd (.stop 2))]) ∧ WkAt w' b o root (Pg.Wo.next ⟨true, q, k, u, t, lv, 0⟩ (.stop 2)) ∧ Ch8 b o (fun j => j = b) w w' := by
  have HMay := fun W' => may_any er q k u W'
  rw [hmay] at HMay
  clear hmay

  obtain ⟨W, hW⟩ : ∃ W, W = w.alloc (.cells #[.bool false, .int .i64 0, .int .i64 0, .int .i64 0, .int .i64 0, .int .i64 0, .int .i64 0, .int .i64 0, .bool false] 102) := ⟨_, rfl⟩
  have hBW : Below w.heap.size w W := by rw [hW]; exact balloc (brefl w) _
  have hl := h.lb
  have hWs : W.heap.size = w.heap.size + 1 := by rw [hW]; simp
  have HKW : Hid _ := h.grow hBW
  have HFW : Hid (FrAt W bf S F) := hf.keep (G := fun _ => False) (But.of_below hBW) (fun _ _ => id)
  have HBW : Hid _ := hBW
  have R9 : Hid (W.heap[w.heap.size]? = some (.cells #[.bool false, .int .i64 0, .int .i64 0, .int .i64 0, .int .i64 0, .int .i64 0, .int .i64 0, .int .i64 0, .bool false] 102 (0, 0))) := by rw [hW]; exact heap_alloc_new _ _
  have hix := Pg.index_ix hq hlv
  have HP := fun d os => kPlace_any _ (HKW.out.grow (below_regrown W d os))
  simp only [hix] at HP
  have HL := fun d os => frLoad_any t (Pg.ix q lv : Nat) _ (FrAt.keep (G := fun _ => False) HFW.out (But.of_below (below_regrown W d os)) (fun _ _ => id))
  have hat : S.at' t (Pg.ix q lv : Nat) = S.has t := at_has S t q lv
  rw [hat] at HL
  have k5 := cell_regrown HKW.out.c5
  simp only at k5

  have hld : S.load t (Pg.ix q lv : Nat) = S.word t.toNat (Pg.ix q lv) := by simp [Pg.Fs.load, hat, hh]
  rw [hh, hld] at HL
  obtain ⟨e1, e2⟩ := Pg.rCode_of (i := Pg.ix q lv) (lv := lv) hh
  have HD := fun W' => decode_any (S.word t.toNat (Pg.ix q lv)) lv (hf.ok.low _ _) (hf.ok.high _ _) W'
  rw [Pg.decV_of, ← e1, ← e2, he, hc] at HD
  clear e1 e2 hld hh hat he hc
  generalize S.word t.toNat (Pg.ix q lv) = wd at *
  simp only [Pg.En.val] at HD
  clear h hf hBW
  generalize ((Pg.ix q lv : Nat) : Int) = ixv at *
  simp only [Pg.Wo.res, Pg.Wo.cd, Pg.Wo.next, Pg.Rs.zero, Pg.Rs.val]

  go_enter Try.func68, Try.ntmps68
  go_wp2_with fail
  rw [← hW]
  clear hW
  refine wp_region_quiet_below (by kernel_rfl) (by kernel_rfl) ?_
  repeat (first
    | go_big_quiet_step (first
      | (go_at_call 80; exact Calls.regrown_of (HP _ _))
      | (go_at_call 59; exact Calls.regrown_of (HL _ _))))
  refine wpQuiet_nil ?_
  intro _ hw'
  obtain ⟨⟨dq, osq⟩, rfl⟩ := hw'
  have hb1 := below_regrown W dq osq
  have HK1 : Hid _ := HKW.out.grow hb1
  have HB1 : Hid (Below w.heap.size w (grow (redrawn W dq) osq)) := bthen HBW.out hb1
  have R1 : Hid ((grow (redrawn W dq) osq).heap[w.heap.size]? = _) := (hb1.block _ (by omega)).trans R9.out
  clear hb1 HP HL k5 HKW HFW HBW R9
  generalize grow (redrawn W dq) osq = w1 at *
  have hl1 : b < w1.heap.size := HK1.out.lb
  have hr1 : w.heap.size < w1.heap.size := by have := HB1.out.size; have := (Array.getElem?_eq_some_iff.1 R1.out).1; omega
  have hrb : ¬ w.heap.size = b := by omega

  have k6 := HK1.out.c6
  simp only at k6
  go_wp2_with fail
  refine (HD _).mono ?_
  rintro e w2 ⟨rfl, hb2⟩
  have hr2 : w.heap.size < w2.heap.size := Nat.lt_of_lt_of_le hr1 hb2.size
  have hl2 : b < w2.heap.size := Nat.lt_of_lt_of_le hl1 hb2.size
  have HK2 : Hid _ := HK1.out.grow hb2
  have HB2 : Hid (Below w.heap.size w w2) := bthen HB1.out hb2
  have R2 : Hid (w2.heap[w.heap.size]? = _) := (hb2.block _ hr1).trans R1.out
  clear hb2 HK1 HB1 R1 k6 HD hr1 hl1 hlv hq hix
  have nb2 : b ≠ w2.heap.size := by omega
  have mb2 : w2.heap.size ≠ b := by omega
  have nr2 : w.heap.size ≠ w2.heap.size := by omega
  have mr2 : w2.heap.size ≠ w.heap.size := by omega

  obtain ⟨W3, hW3⟩ : ∃ W3, W3 = w2.alloc (.cells #[.bool true, .bool true, .int .i64 er, .bool eu, .bool ed, .int .i64 ef] 93) := ⟨_, rfl⟩
  have hB3 : Below w2.heap.size w2 W3 := by rw [hW3]; exact balloc (brefl _) _
  have HK3 : Hid _ := HK2.out.grow hB3
  have HB3 : Hid (Below w.heap.size w W3) := bthen HB2.out hB3
  have R3 : Hid (W3.heap[w.heap.size]? = _) := (hB3.block _ hr2).trans R2.out
  have e6 : W3.cell? ⟨w2.heap.size, 0, none⟩ = some (.bool true) ∧ W3.cell? ⟨w2.heap.size, 1, none⟩ = some (.bool true) ∧ W3.cell? ⟨w2.heap.size, 2, none⟩ = some (.int .i64 er) ∧ W3.cell? ⟨w2.heap.size, 3, none⟩ = some (.bool eu) ∧ W3.cell? ⟨w2.heap.size, 4, none⟩ = some (.bool ed) ∧ W3.cell? ⟨w2.heap.size, 5, none⟩ = some (.int .i64 ef) := by rw [hW3]; simp [go_sem]
  have hr3 : w.heap.size < W3.heap.size := by have := hB3.size; omega
  have hl3 : b < W3.heap.size := by have := hB3.size; omega
  clear hB3
  go_wp2_with fail
  rw [← hW3]
  clear hW3 HK2 HB2 R2

  have z2 := cell_regrown e6.2.2.1
  have y2 := cell_regrown HK3.out.c2
  have y3 := cell_regrown HK3.out.c3
  have y4 := cell_regrown HK3.out.c4
  simp only at y2 y3 y4
  refine wp_region_quiet_below (by kernel_rfl) (by kernel_rfl) ?_
  repeat (first
    | go_big_quiet_step ((go_at_call 64; exact Calls.regrown_of (HMay _))))
  refine wpQuiet_nil ?_
  intro _ hw'
  obtain ⟨⟨dq4, osq4⟩, rfl⟩ := hw'
  have hb4 := below_regrown W3 dq4 osq4
  have HK4 : Hid _ := HK3.out.grow hb4
  have HB4 : Hid (Below w.heap.size w (grow (redrawn W3 dq4) osq4)) := bthen HB3.out hb4
  have R4 : Hid ((grow (redrawn W3 dq4) osq4).heap[w.heap.size]? = _) := (hb4.block _ hr3).trans R3.out
  have E4 : Hid _ := later6 hb4 e6
  have hr4 : w.heap.size < (grow (redrawn W3 dq4) osq4).heap.size := Nat.lt_of_lt_of_le hr3 hb4.size
  have hl4 : b < (grow (redrawn W3 dq4) osq4).heap.size := Nat.lt_of_lt_of_le hl3 hb4.size
  clear hb4 z2 y2 y3 y4 e6 HMay HK3 HB3 R3 hr3 hl3
  generalize grow (redrawn W3 dq4) osq4 = w4 at *
  go_wp2_with fail

  have HE := kEnd_any 2 0 0 ⟨0, 0, 0, 0⟩ false _ HK4.out
  simp only [Pg.Rs.val] at HE
  refine HE.mono ?_
  rintro e w9 ⟨rfl, hk9, hc9⟩
  have HC9 : Hid (Ch8 b o (fun j => j = b) w w9) := (Ch8.of_below HB4.out hl).trans hc9 (fun _ _ h => h)
  have R9 : Hid (w9.heap[w.heap.size]? = _) := (hc9.but.block _ hr4 hrb).trans R4.out
  have hr9 : w.heap.size < w9.heap.size := Nat.lt_of_lt_of_le hr4 hc9.but.size
  obtain ⟨⟨x0, x1, x2, x3, x4, x5, x6, x7, x8⟩, xf⟩ := row9 R9.out
  have HF : Hid _ := fin9 hrb (Nat.le_refl _) ⟨hk9, HC9.out⟩ (.bool true) (.int .i64 2) (.int .i64 0) (.int .i64 0) (.int .i64 0) (.int .i64 0) (.int .i64 0) (.int .i64 0) (.bool false)
  clear hk9 hc9 HE
  go_wp2_with fail
  refine bodyPost_ret (v := .tuple #[.agg #[.bool true, .int .i64 2, .int .i64 0, .int .i64 0, .int .i64 0, .int .i64 0, .int .i64 0, .int .i64 0, .bool false], .int .i64 0]) ?_ rfl ⟨rfl, HF.out⟩
  simp [results, Try.results68, go_sem, x0, x1, x2, x3, x4, x5, x6, x7, x8]

set_option maxHeartbeats 1000000 in
theorem kRead_wait {bf : Nat} {S : Pg.Fs} {F : Nat → Prop} {q k : Int} {u : Bool} {t : Int} {lv : Nat} (hq : Pg.below q 4096 = true) (hlv : lv < 4) (w : World) (h : WkAt w b o root ⟨true, q, k, u, t, lv, 0⟩) (hf : FrAt w bf S F) {er : Int} {ed d' : Bool} (hmk : (ed || k == 1) = d') {ef : Int} (hmay : Pg.may er k u = true) (hh : S.has t = true) (hc : Pg.rCode S t (Pg.ix q lv) lv = 0) (he : Pg.rEn S t (Pg.ix q lv) lv = ⟨true, true, er, false, ed, ef⟩) :
    Calls Try.prog 68 #[.pointer (some ⟨b, o, none⟩), .pointer (some ⟨bf, 0, none⟩)] w fun e w' => e = .returned (.tuple #[(Pg.Wo.res ⟨true, q, k, u, t, lv, 0⟩ (.go ⟨true, q, k, u, t, lv, S.word t.toNat (Pg.ix q lv)⟩)).val, .int .i64 (Pg.Wo.cd (.go ⟨true, q, k, u, t, lv, S.word t.toNat (Pg.ix q lv)⟩))]) ∧ WkAt w' b o root (Pg.Wo.next ⟨true, q, k, u, t, lv, 0⟩ (.go ⟨true, q, k, u, t, lv, S.word t.toNat (Pg.ix q lv)⟩)) ∧ Ch8 b o (fun j => j = b) w w' := by
  have HMay := fun W' => may_any er q k u W'
  rw [hmay] at HMay
  clear hmay

  obtain ⟨W, hW⟩ : ∃ W, W = w.alloc (.cells #[.bool false, .int .i64 0, .int .i64 0, .int .i64 0, .int .i64 0, .int .i64 0, .int .i64 0, .int .i64 0, .bool false] 102) := ⟨_, rfl⟩
  have hBW : Below w.heap.size w W := by rw [hW]; exact balloc (brefl w) _
  have hl := h.lb
  have hWs : W.heap.size = w.heap.size + 1 := by rw [hW]; simp
  have HKW : Hid _ := h.grow hBW
  have HFW : Hid (FrAt W bf S F) := hf.keep (G := fun _ => False) (But.of_below hBW) (fun _ _ => id)
  have HBW : Hid _ := hBW
  have R9 : Hid (W.heap[w.heap.size]? = some (.cells #[.bool false, .int .i64 0, .int .i64 0, .int .i64 0, .int .i64 0, .int .i64 0, .int .i64 0, .int .i64 0, .bool false] 102 (0, 0))) := by rw [hW]; exact heap_alloc_new _ _
  have hix := Pg.index_ix hq hlv
  have HP := fun d os => kPlace_any _ (HKW.out.grow (below_regrown W d os))
  simp only [hix] at HP
  have HL := fun d os => frLoad_any t (Pg.ix q lv : Nat) _ (FrAt.keep (G := fun _ => False) HFW.out (But.of_below (below_regrown W d os)) (fun _ _ => id))
  have hat : S.at' t (Pg.ix q lv : Nat) = S.has t := at_has S t q lv
  rw [hat] at HL
  have k5 := cell_regrown HKW.out.c5
  simp only at k5

  have hld : S.load t (Pg.ix q lv : Nat) = S.word t.toNat (Pg.ix q lv) := by simp [Pg.Fs.load, hat, hh]
  rw [hh, hld] at HL
  obtain ⟨e1, e2⟩ := Pg.rCode_of (i := Pg.ix q lv) (lv := lv) hh
  have HD := fun W' => decode_any (S.word t.toNat (Pg.ix q lv)) lv (hf.ok.low _ _) (hf.ok.high _ _) W'
  rw [Pg.decV_of, ← e1, ← e2, he, hc] at HD
  clear e1 e2 hld hh hat he hc
  generalize S.word t.toNat (Pg.ix q lv) = wd at *
  simp only [Pg.En.val] at HD
  clear h hf hBW
  generalize ((Pg.ix q lv : Nat) : Int) = ixv at *
  simp only [Pg.Wo.res, Pg.Wo.cd, Pg.Wo.next, Pg.Rs.zero, Pg.Rs.val]

  go_enter Try.func68, Try.ntmps68
  go_wp2_with fail
  rw [← hW]
  clear hW
  refine wp_region_quiet_below (by kernel_rfl) (by kernel_rfl) ?_
  repeat (first
    | go_big_quiet_step (first
      | (go_at_call 80; exact Calls.regrown_of (HP _ _))
      | (go_at_call 59; exact Calls.regrown_of (HL _ _))))
  refine wpQuiet_nil ?_
  intro _ hw'
  obtain ⟨⟨dq, osq⟩, rfl⟩ := hw'
  have hb1 := below_regrown W dq osq
  have HK1 : Hid _ := HKW.out.grow hb1
  have HB1 : Hid (Below w.heap.size w (grow (redrawn W dq) osq)) := bthen HBW.out hb1
  have R1 : Hid ((grow (redrawn W dq) osq).heap[w.heap.size]? = _) := (hb1.block _ (by omega)).trans R9.out
  clear hb1 HP HL k5 HKW HFW HBW R9
  generalize grow (redrawn W dq) osq = w1 at *
  have hl1 : b < w1.heap.size := HK1.out.lb
  have hr1 : w.heap.size < w1.heap.size := by have := HB1.out.size; have := (Array.getElem?_eq_some_iff.1 R1.out).1; omega
  have hrb : ¬ w.heap.size = b := by omega

  have k6 := HK1.out.c6
  simp only at k6
  go_wp2_with fail
  refine (HD _).mono ?_
  rintro e w2 ⟨rfl, hb2⟩
  have hr2 : w.heap.size < w2.heap.size := Nat.lt_of_lt_of_le hr1 hb2.size
  have hl2 : b < w2.heap.size := Nat.lt_of_lt_of_le hl1 hb2.size
  have HK2 : Hid _ := HK1.out.grow hb2
  have HB2 : Hid (Below w.heap.size w w2) := bthen HB1.out hb2
  have R2 : Hid (w2.heap[w.heap.size]? = _) := (hb2.block _ hr1).trans R1.out
  clear hb2 HK1 HB1 R1 k6 HD hr1 hl1 hlv hq hix
  have nb2 : b ≠ w2.heap.size := by omega
  have mb2 : w2.heap.size ≠ b := by omega
  have nr2 : w.heap.size ≠ w2.heap.size := by omega
  have mr2 : w2.heap.size ≠ w.heap.size := by omega

  obtain ⟨W3, hW3⟩ : ∃ W3, W3 = w2.alloc (.cells #[.bool true, .bool true, .int .i64 er, .bool false, .bool ed, .int .i64 ef] 93) := ⟨_, rfl⟩
  have hB3 : Below w2.heap.size w2 W3 := by rw [hW3]; exact balloc (brefl _) _
  have HK3 : Hid _ := HK2.out.grow hB3
  have HB3 : Hid (Below w.heap.size w W3) := bthen HB2.out hB3
  have R3 : Hid (W3.heap[w.heap.size]? = _) := (hB3.block _ hr2).trans R2.out
  have e6 : W3.cell? ⟨w2.heap.size, 0, none⟩ = some (.bool true) ∧ W3.cell? ⟨w2.heap.size, 1, none⟩ = some (.bool true) ∧ W3.cell? ⟨w2.heap.size, 2, none⟩ = some (.int .i64 er) ∧ W3.cell? ⟨w2.heap.size, 3, none⟩ = some (.bool false) ∧ W3.cell? ⟨w2.heap.size, 4, none⟩ = some (.bool ed) ∧ W3.cell? ⟨w2.heap.size, 5, none⟩ = some (.int .i64 ef) := by rw [hW3]; simp [go_sem]
  have hr3 : w.heap.size < W3.heap.size := by have := hB3.size; omega
  have hl3 : b < W3.heap.size := by have := hB3.size; omega
  clear hB3
  go_wp2_with fail
  rw [← hW3]
  clear hW3 HK2 HB2 R2

  have z2 := cell_regrown e6.2.2.1
  have y2 := cell_regrown HK3.out.c2
  have y3 := cell_regrown HK3.out.c3
  have y4 := cell_regrown HK3.out.c4
  simp only at y2 y3 y4
  refine wp_region_quiet_below (by kernel_rfl) (by kernel_rfl) ?_
  repeat (first
    | go_big_quiet_step ((go_at_call 64; exact Calls.regrown_of (HMay _))))
  refine wpQuiet_nil ?_
  intro _ hw'
  obtain ⟨⟨dq4, osq4⟩, rfl⟩ := hw'
  have hb4 := below_regrown W3 dq4 osq4
  have HK4 : Hid _ := HK3.out.grow hb4
  have HB4 : Hid (Below w.heap.size w (grow (redrawn W3 dq4) osq4)) := bthen HB3.out hb4
  have R4 : Hid ((grow (redrawn W3 dq4) osq4).heap[w.heap.size]? = _) := (hb4.block _ hr3).trans R3.out
  have E4 : Hid _ := later6 hb4 e6
  have hr4 : w.heap.size < (grow (redrawn W3 dq4) osq4).heap.size := Nat.lt_of_lt_of_le hr3 hb4.size
  have hl4 : b < (grow (redrawn W3 dq4) osq4).heap.size := Nat.lt_of_lt_of_le hl3 hb4.size
  clear hb4 z2 y2 y3 y4 e6 HMay HK3 HB3 R3 hr3 hl3
  generalize grow (redrawn W3 dq4) osq4 = w4 at *
  go_wp2_with fail

  obtain ⟨z0, z1, z2, z3, z4, z5⟩ := E4.out
  have g0 := cell_regrown z0
  have g1 := cell_regrown z1
  have g2 := cell_regrown z2
  have g3 := cell_regrown z3
  have g4 := cell_regrown z4
  have g5 := cell_regrown z5
  have HMk := fun d os => kMarked_any ⟨true, true, er, false, ed, ef⟩ _ (HK4.out.grow (below_regrown w4 d os))
  simp only [Pg.En.val, Pg.Wk.mark] at HMk
  rw [hmk] at HMk
  refine wp_region_quiet_below (by kernel_rfl) (by kernel_rfl) ?_
  repeat (first
    | go_big_quiet_step ((go_at_call 77; exact Calls.regrown_of (HMk _ _))))
  refine wpQuiet_nil ?_
  intro _ hw'
  obtain ⟨⟨dq5, osq5⟩, rfl⟩ := hw'
  have hb5 := below_regrown w4 dq5 osq5
  have HK5 : Hid _ := HK4.out.grow hb5
  have HB5 : Hid (Below w.heap.size w (grow (redrawn w4 dq5) osq5)) := bthen HB4.out hb5
  have R5 : Hid ((grow (redrawn w4 dq5) osq5).heap[w.heap.size]? = _) := (hb5.block _ hr4).trans R4.out
  have e5 := later6 hb5 E4.out
  have hr5 : w.heap.size < (grow (redrawn w4 dq5) osq5).heap.size := Nat.lt_of_lt_of_le hr4 hb5.size
  have hl5 : b < (grow (redrawn w4 dq5) osq5).heap.size := Nat.lt_of_lt_of_le hl4 hb5.size
  clear hb5 z0 z1 z2 z3 z4 z5 g0 g1 g2 g3 g4 g5 HMk HK4 HB4 R4 E4 hr4 hl4
  generalize grow (redrawn w4 dq5) osq5 = w5 at *
  obtain ⟨z0, z1, z2, z3, z4, z5⟩ := e5

  have y7 := HK5.out.c7
  have yf := HK5.out.fb
  simp only at y7
  obtain ⟨⟨x0, x1, x2, x3, x4, x5, x6, x7, x8⟩, xf⟩ := row9 R5.out
  have HF : Hid _ := fin9 hrb (Nat.le_refl _) ⟨(HK5.out.wait wd).1, (Ch8.of_below HB5.out hl).trans (HK5.out.wait wd).2 (fun _ _ h => h)⟩ (.bool false) (.int .i64 0) (.int .i64 0) (.int .i64 0) (.int .i64 0) (.int .i64 0) (.int .i64 0) (.int .i64 0) (.bool false)
  go_wp2_with fail
  refine bodyPost_ret (v := .tuple #[.agg #[.bool false, .int .i64 0, .int .i64 0, .int .i64 0, .int .i64 0, .int .i64 0, .int .i64 0, .int .i64 0, .bool false], .int .i64 0]) ?_ rfl ⟨rfl, HF.out⟩
  simp [results, Try.results68, go_sem, x0, x1, x2, x3, x4, x5, x6, x7, x8]

set_option maxHeartbeats 1000000 in
theorem kRead_wait2 {bf : Nat} {S : Pg.Fs} {F : Nat → Prop} {q k : Int} {u : Bool} {t : Int} {lv : Nat} (hq : Pg.below q 4096 = true) (hlv : lv < 4) (w : World) (h : WkAt w b o root ⟨true, q, k, u, t, lv, 0⟩) (hf : FrAt w bf S F) {er : Int} {d' : Bool} (hd : d' = true) (hmk : (false || k == 1) = d') {ef : Int} (hmay : Pg.may er k u = true) (hh : S.has t = true) (hc : Pg.rCode S t (Pg.ix q lv) lv = 0) (he : Pg.rEn S t (Pg.ix q lv) lv = ⟨true, true, er, true, false, ef⟩) :
    Calls Try.prog 68 #[.pointer (some ⟨b, o, none⟩), .pointer (some ⟨bf, 0, none⟩)] w fun e w' => e = .returned (.tuple #[(Pg.Wo.res ⟨true, q, k, u, t, lv, 0⟩ (.go ⟨true, q, k, u, t, lv, S.word t.toNat (Pg.ix q lv)⟩)).val, .int .i64 (Pg.Wo.cd (.go ⟨true, q, k, u, t, lv, S.word t.toNat (Pg.ix q lv)⟩))]) ∧ WkAt w' b o root (Pg.Wo.next ⟨true, q, k, u, t, lv, 0⟩ (.go ⟨true, q, k, u, t, lv, S.word t.toNat (Pg.ix q lv)⟩)) ∧ Ch8 b o (fun j => j = b) w w' := by
  subst hd
  have HMay := fun W' => may_any er q k u W'
  rw [hmay] at HMay
  clear hmay

  obtain ⟨W, hW⟩ : ∃ W, W = w.alloc (.cells #[.bool false, .int .i64 0, .int .i64 0, .int .i64 0, .int .i64 0, .int .i64 0, .int .i64 0, .int .i64 0, .bool false] 102) := ⟨_, rfl⟩
  have hBW : Below w.heap.size w W := by rw [hW]; exact balloc (brefl w) _
  have hl := h.lb
  have hWs : W.heap.size = w.heap.size + 1 := by rw [hW]; simp
  have HKW : Hid _ := h.grow hBW
  have HFW : Hid (FrAt W bf S F) := hf.keep (G := fun _ => False) (But.of_below hBW) (fun _ _ => id)
  have HBW : Hid _ := hBW
  have R9 : Hid (W.heap[w.heap.size]? = some (.cells #[.bool false, .int .i64 0, .int .i64 0, .int .i64 0, .int .i64 0, .int .i64 0, .int .i64 0, .int .i64 0, .bool false] 102 (0, 0))) := by rw [hW]; exact heap_alloc_new _ _
  have hix := Pg.index_ix hq hlv
  have HP := fun d os => kPlace_any _ (HKW.out.grow (below_regrown W d os))
  simp only [hix] at HP
  have HL := fun d os => frLoad_any t (Pg.ix q lv : Nat) _ (FrAt.keep (G := fun _ => False) HFW.out (But.of_below (below_regrown W d os)) (fun _ _ => id))
  have hat : S.at' t (Pg.ix q lv : Nat) = S.has t := at_has S t q lv
  rw [hat] at HL
  have k5 := cell_regrown HKW.out.c5
  simp only at k5

  have hld : S.load t (Pg.ix q lv : Nat) = S.word t.toNat (Pg.ix q lv) := by simp [Pg.Fs.load, hat, hh]
  rw [hh, hld] at HL
  obtain ⟨e1, e2⟩ := Pg.rCode_of (i := Pg.ix q lv) (lv := lv) hh
  have HD := fun W' => decode_any (S.word t.toNat (Pg.ix q lv)) lv (hf.ok.low _ _) (hf.ok.high _ _) W'
  rw [Pg.decV_of, ← e1, ← e2, he, hc] at HD
  clear e1 e2 hld hh hat he hc
  generalize S.word t.toNat (Pg.ix q lv) = wd at *
  simp only [Pg.En.val] at HD
  clear h hf hBW
  generalize ((Pg.ix q lv : Nat) : Int) = ixv at *
  simp only [Pg.Wo.res, Pg.Wo.cd, Pg.Wo.next, Pg.Rs.zero, Pg.Rs.val]

  go_enter Try.func68, Try.ntmps68
  go_wp2_with fail
  rw [← hW]
  clear hW
  refine wp_region_quiet_below (by kernel_rfl) (by kernel_rfl) ?_
  repeat (first
    | go_big_quiet_step (first
      | (go_at_call 80; exact Calls.regrown_of (HP _ _))
      | (go_at_call 59; exact Calls.regrown_of (HL _ _))))
  refine wpQuiet_nil ?_
  intro _ hw'
  obtain ⟨⟨dq, osq⟩, rfl⟩ := hw'
  have hb1 := below_regrown W dq osq
  have HK1 : Hid _ := HKW.out.grow hb1
  have HB1 : Hid (Below w.heap.size w (grow (redrawn W dq) osq)) := bthen HBW.out hb1
  have R1 : Hid ((grow (redrawn W dq) osq).heap[w.heap.size]? = _) := (hb1.block _ (by omega)).trans R9.out
  clear hb1 HP HL k5 HKW HFW HBW R9
  generalize grow (redrawn W dq) osq = w1 at *
  have hl1 : b < w1.heap.size := HK1.out.lb
  have hr1 : w.heap.size < w1.heap.size := by have := HB1.out.size; have := (Array.getElem?_eq_some_iff.1 R1.out).1; omega
  have hrb : ¬ w.heap.size = b := by omega

  have k6 := HK1.out.c6
  simp only at k6
  go_wp2_with fail
  refine (HD _).mono ?_
  rintro e w2 ⟨rfl, hb2⟩
  have hr2 : w.heap.size < w2.heap.size := Nat.lt_of_lt_of_le hr1 hb2.size
  have hl2 : b < w2.heap.size := Nat.lt_of_lt_of_le hl1 hb2.size
  have HK2 : Hid _ := HK1.out.grow hb2
  have HB2 : Hid (Below w.heap.size w w2) := bthen HB1.out hb2
  have R2 : Hid (w2.heap[w.heap.size]? = _) := (hb2.block _ hr1).trans R1.out
  clear hb2 HK1 HB1 R1 k6 HD hr1 hl1 hlv hq hix
  have nb2 : b ≠ w2.heap.size := by omega
  have mb2 : w2.heap.size ≠ b := by omega
  have nr2 : w.heap.size ≠ w2.heap.size := by omega
  have mr2 : w2.heap.size ≠ w.heap.size := by omega

  obtain ⟨W3, hW3⟩ : ∃ W3, W3 = w2.alloc (.cells #[.bool true, .bool true, .int .i64 er, .bool true, .bool false, .int .i64 ef] 93) := ⟨_, rfl⟩
  have hB3 : Below w2.heap.size w2 W3 := by rw [hW3]; exact balloc (brefl _) _
  have HK3 : Hid _ := HK2.out.grow hB3
  have HB3 : Hid (Below w.heap.size w W3) := bthen HB2.out hB3
  have R3 : Hid (W3.heap[w.heap.size]? = _) := (hB3.block _ hr2).trans R2.out
  have e6 : W3.cell? ⟨w2.heap.size, 0, none⟩ = some (.bool true) ∧ W3.cell? ⟨w2.heap.size, 1, none⟩ = some (.bool true) ∧ W3.cell? ⟨w2.heap.size, 2, none⟩ = some (.int .i64 er) ∧ W3.cell? ⟨w2.heap.size, 3, none⟩ = some (.bool true) ∧ W3.cell? ⟨w2.heap.size, 4, none⟩ = some (.bool false) ∧ W3.cell? ⟨w2.heap.size, 5, none⟩ = some (.int .i64 ef) := by rw [hW3]; simp [go_sem]
  have hr3 : w.heap.size < W3.heap.size := by have := hB3.size; omega
  have hl3 : b < W3.heap.size := by have := hB3.size; omega
  clear hB3
  go_wp2_with fail
  rw [← hW3]
  clear hW3 HK2 HB2 R2

  have z2 := cell_regrown e6.2.2.1
  have y2 := cell_regrown HK3.out.c2
  have y3 := cell_regrown HK3.out.c3
  have y4 := cell_regrown HK3.out.c4
  simp only at y2 y3 y4
  refine wp_region_quiet_below (by kernel_rfl) (by kernel_rfl) ?_
  repeat (first
    | go_big_quiet_step ((go_at_call 64; exact Calls.regrown_of (HMay _))))
  refine wpQuiet_nil ?_
  intro _ hw'
  obtain ⟨⟨dq4, osq4⟩, rfl⟩ := hw'
  have hb4 := below_regrown W3 dq4 osq4
  have HK4 : Hid _ := HK3.out.grow hb4
  have HB4 : Hid (Below w.heap.size w (grow (redrawn W3 dq4) osq4)) := bthen HB3.out hb4
  have R4 : Hid ((grow (redrawn W3 dq4) osq4).heap[w.heap.size]? = _) := (hb4.block _ hr3).trans R3.out
  have E4 : Hid _ := later6 hb4 e6
  have hr4 : w.heap.size < (grow (redrawn W3 dq4) osq4).heap.size := Nat.lt_of_lt_of_le hr3 hb4.size
  have hl4 : b < (grow (redrawn W3 dq4) osq4).heap.size := Nat.lt_of_lt_of_le hl3 hb4.size
  clear hb4 z2 y2 y3 y4 e6 HMay HK3 HB3 R3 hr3 hl3
  generalize grow (redrawn W3 dq4) osq4 = w4 at *
  go_wp2_with fail

  obtain ⟨z0, z1, z2, z3, z4, z5⟩ := E4.out
  have g0 := cell_regrown z0
  have g1 := cell_regrown z1
  have g2 := cell_regrown z2
  have g3 := cell_regrown z3
  have g4 := cell_regrown z4
  have g5 := cell_regrown z5
  have HMk := fun d os => kMarked_any ⟨true, true, er, true, false, ef⟩ _ (HK4.out.grow (below_regrown w4 d os))
  simp only [Pg.En.val, Pg.Wk.mark] at HMk
  rw [hmk] at HMk
  refine wp_region_quiet_below (by kernel_rfl) (by kernel_rfl) ?_
  repeat (first
    | go_big_quiet_step ((go_at_call 77; exact Calls.regrown_of (HMk _ _))))
  refine wpQuiet_nil ?_
  intro _ hw'
  obtain ⟨⟨dq5, osq5⟩, rfl⟩ := hw'
  have hb5 := below_regrown w4 dq5 osq5
  have HK5 : Hid _ := HK4.out.grow hb5
  have HB5 : Hid (Below w.heap.size w (grow (redrawn w4 dq5) osq5)) := bthen HB4.out hb5
  have R5 : Hid ((grow (redrawn w4 dq5) osq5).heap[w.heap.size]? = _) := (hb5.block _ hr4).trans R4.out
  have e5 := later6 hb5 E4.out
  have hr5 : w.heap.size < (grow (redrawn w4 dq5) osq5).heap.size := Nat.lt_of_lt_of_le hr4 hb5.size
  have hl5 : b < (grow (redrawn w4 dq5) osq5).heap.size := Nat.lt_of_lt_of_le hl4 hb5.size
  clear hb5 z0 z1 z2 z3 z4 z5 g0 g1 g2 g3 g4 g5 HMk HK4 HB4 R4 E4 hr4 hl4
  generalize grow (redrawn w4 dq5) osq5 = w5 at *
  obtain ⟨z0, z1, z2, z3, z4, z5⟩ := e5

  have y7 := HK5.out.c7
  have yf := HK5.out.fb
  simp only at y7
  obtain ⟨⟨x0, x1, x2, x3, x4, x5, x6, x7, x8⟩, xf⟩ := row9 R5.out
  have HF : Hid _ := fin9 hrb (Nat.le_refl _) ⟨(HK5.out.wait wd).1, (Ch8.of_below HB5.out hl).trans (HK5.out.wait wd).2 (fun _ _ h => h)⟩ (.bool false) (.int .i64 0) (.int .i64 0) (.int .i64 0) (.int .i64 0) (.int .i64 0) (.int .i64 0) (.int .i64 0) (.bool false)
  go_wp2_with fail
  refine bodyPost_ret (v := .tuple #[.agg #[.bool false, .int .i64 0, .int .i64 0, .int .i64 0, .int .i64 0, .int .i64 0, .int .i64 0, .int .i64 0, .bool false], .int .i64 0]) ?_ rfl ⟨rfl, HF.out⟩
  simp [results, Try.results68, go_sem, x0, x1, x2, x3, x4, x5, x6, x7, x8]

set_option maxHeartbeats 1000000 in
theorem kRead_done {bf : Nat} {S : Pg.Fs} {F : Nat → Prop} {q k : Int} {u : Bool} {t : Int} {lv : Nat} (hq : Pg.below q 4096 = true) (hlv : lv < 4) (w : World) (h : WkAt w b o root ⟨true, q, k, u, t, lv, 0⟩) (hf : FrAt w bf S F) {er : Int} {ed : Bool} {ef : Int} (hmk : (ed || k == 1) = ed) (hmay : Pg.may er k u = true) (hh : S.has t = true) (hc : Pg.rCode S t (Pg.ix q lv) lv = 0) (he : Pg.rEn S t (Pg.ix q lv) lv = ⟨true, true, er, true, ed, ef⟩) :
    Calls Try.prog 68 #[.pointer (some ⟨b, o, none⟩), .pointer (some ⟨bf, 0, none⟩)] w fun e w' => e = .returned (.tuple #[(Pg.Wo.res ⟨true, q, k, u, t, lv, 0⟩ (.done ⟨true, true, er, true, ed, ef⟩ false)).val, .int .i64 (Pg.Wo.cd (.done ⟨true, true, er, true, ed, ef⟩ false))]) ∧ WkAt w' b o root (Pg.Wo.next ⟨true, q, k, u, t, lv, 0⟩ (.done ⟨true, true, er, true, ed, ef⟩ false)) ∧ Ch8 b o (fun j => j = b) w w' := by
  have HMay := fun W' => may_any er q k u W'
  rw [hmay] at HMay
  clear hmay
  generalize hR : Pg.Wo.res ⟨true, q, k, u, t, lv, 0⟩ (Pg.Wo.done ⟨true, true, er, true, ed, ef⟩ false) = R
  obtain ⟨ra, rb, rc, rd, ⟨rmp, rms, rmf, rmr⟩, re⟩ := R
  have HRR : Hid _ := hR
  clear hR

  obtain ⟨W, hW⟩ : ∃ W, W = w.alloc (.cells #[.bool false, .int .i64 0, .int .i64 0, .int .i64 0, .int .i64 0, .int .i64 0, .int .i64 0, .int .i64 0, .bool false] 102) := ⟨_, rfl⟩
  have hBW : Below w.heap.size w W := by rw [hW]; exact balloc (brefl w) _
  have hl := h.lb
  have hWs : W.heap.size = w.heap.size + 1 := by rw [hW]; simp
  have HKW : Hid _ := h.grow hBW
  have HFW : Hid (FrAt W bf S F) := hf.keep (G := fun _ => False) (But.of_below hBW) (fun _ _ => id)
  have HBW : Hid _ := hBW
  have R9 : Hid (W.heap[w.heap.size]? = some (.cells #[.bool false, .int .i64 0, .int .i64 0, .int .i64 0, .int .i64 0, .int .i64 0, .int .i64 0, .int .i64 0, .bool false] 102 (0, 0))) := by rw [hW]; exact heap_alloc_new _ _
  have hix := Pg.index_ix hq hlv
  have HP := fun d os => kPlace_any _ (HKW.out.grow (below_regrown W d os))
  simp only [hix] at HP
  have HL := fun d os => frLoad_any t (Pg.ix q lv : Nat) _ (FrAt.keep (G := fun _ => False) HFW.out (But.of_below (below_regrown W d os)) (fun _ _ => id))
  have hat : S.at' t (Pg.ix q lv : Nat) = S.has t := at_has S t q lv
  rw [hat] at HL
  have k5 := cell_regrown HKW.out.c5
  simp only at k5

  have hld : S.load t (Pg.ix q lv : Nat) = S.word t.toNat (Pg.ix q lv) := by simp [Pg.Fs.load, hat, hh]
  rw [hh, hld] at HL
  obtain ⟨e1, e2⟩ := Pg.rCode_of (i := Pg.ix q lv) (lv := lv) hh
  have HD := fun W' => decode_any (S.word t.toNat (Pg.ix q lv)) lv (hf.ok.low _ _) (hf.ok.high _ _) W'
  rw [Pg.decV_of, ← e1, ← e2, he, hc] at HD
  clear e1 e2 hld hh hat he hc
  generalize S.word t.toNat (Pg.ix q lv) = wd at *
  simp only [Pg.En.val] at HD
  clear h hf hBW
  generalize ((Pg.ix q lv : Nat) : Int) = ixv at *
  simp only [Pg.Wo.cd, Pg.Wo.next, Pg.Rs.val]

  go_enter Try.func68, Try.ntmps68
  go_wp2_with fail
  rw [← hW]
  clear hW
  refine wp_region_quiet_below (by kernel_rfl) (by kernel_rfl) ?_
  repeat (first
    | go_big_quiet_step (first
      | (go_at_call 80; exact Calls.regrown_of (HP _ _))
      | (go_at_call 59; exact Calls.regrown_of (HL _ _))))
  refine wpQuiet_nil ?_
  intro _ hw'
  obtain ⟨⟨dq, osq⟩, rfl⟩ := hw'
  have hb1 := below_regrown W dq osq
  have HK1 : Hid _ := HKW.out.grow hb1
  have HB1 : Hid (Below w.heap.size w (grow (redrawn W dq) osq)) := bthen HBW.out hb1
  have R1 : Hid ((grow (redrawn W dq) osq).heap[w.heap.size]? = _) := (hb1.block _ (by omega)).trans R9.out
  clear hb1 HP HL k5 HKW HFW HBW R9
  generalize grow (redrawn W dq) osq = w1 at *
  have hl1 : b < w1.heap.size := HK1.out.lb
  have hr1 : w.heap.size < w1.heap.size := by have := HB1.out.size; have := (Array.getElem?_eq_some_iff.1 R1.out).1; omega
  have hrb : ¬ w.heap.size = b := by omega

  have k6 := HK1.out.c6
  simp only at k6
  go_wp2_with fail
  refine (HD _).mono ?_
  rintro e w2 ⟨rfl, hb2⟩
  have hr2 : w.heap.size < w2.heap.size := Nat.lt_of_lt_of_le hr1 hb2.size
  have hl2 : b < w2.heap.size := Nat.lt_of_lt_of_le hl1 hb2.size
  have HK2 : Hid _ := HK1.out.grow hb2
  have HB2 : Hid (Below w.heap.size w w2) := bthen HB1.out hb2
  have R2 : Hid (w2.heap[w.heap.size]? = _) := (hb2.block _ hr1).trans R1.out
  clear hb2 HK1 HB1 R1 k6 HD hr1 hl1 hlv hq hix
  have nb2 : b ≠ w2.heap.size := by omega
  have mb2 : w2.heap.size ≠ b := by omega
  have nr2 : w.heap.size ≠ w2.heap.size := by omega
  have mr2 : w2.heap.size ≠ w.heap.size := by omega

  obtain ⟨W3, hW3⟩ : ∃ W3, W3 = w2.alloc (.cells #[.bool true, .bool true, .int .i64 er, .bool true, .bool ed, .int .i64 ef] 93) := ⟨_, rfl⟩
  have hB3 : Below w2.heap.size w2 W3 := by rw [hW3]; exact balloc (brefl _) _
  have HK3 : Hid _ := HK2.out.grow hB3
  have HB3 : Hid (Below w.heap.size w W3) := bthen HB2.out hB3
  have R3 : Hid (W3.heap[w.heap.size]? = _) := (hB3.block _ hr2).trans R2.out
  have e6 : W3.cell? ⟨w2.heap.size, 0, none⟩ = some (.bool true) ∧ W3.cell? ⟨w2.heap.size, 1, none⟩ = some (.bool true) ∧ W3.cell? ⟨w2.heap.size, 2, none⟩ = some (.int .i64 er) ∧ W3.cell? ⟨w2.heap.size, 3, none⟩ = some (.bool true) ∧ W3.cell? ⟨w2.heap.size, 4, none⟩ = some (.bool ed) ∧ W3.cell? ⟨w2.heap.size, 5, none⟩ = some (.int .i64 ef) := by rw [hW3]; simp [go_sem]
  have hr3 : w.heap.size < W3.heap.size := by have := hB3.size; omega
  have hl3 : b < W3.heap.size := by have := hB3.size; omega
  clear hB3
  go_wp2_with fail
  rw [← hW3]
  clear hW3 HK2 HB2 R2

  have z2 := cell_regrown e6.2.2.1
  have y2 := cell_regrown HK3.out.c2
  have y3 := cell_regrown HK3.out.c3
  have y4 := cell_regrown HK3.out.c4
  simp only at y2 y3 y4
  refine wp_region_quiet_below (by kernel_rfl) (by kernel_rfl) ?_
  repeat (first
    | go_big_quiet_step ((go_at_call 64; exact Calls.regrown_of (HMay _))))
  refine wpQuiet_nil ?_
  intro _ hw'
  obtain ⟨⟨dq4, osq4⟩, rfl⟩ := hw'
  have hb4 := below_regrown W3 dq4 osq4
  have HK4 : Hid _ := HK3.out.grow hb4
  have HB4 : Hid (Below w.heap.size w (grow (redrawn W3 dq4) osq4)) := bthen HB3.out hb4
  have R4 : Hid ((grow (redrawn W3 dq4) osq4).heap[w.heap.size]? = _) := (hb4.block _ hr3).trans R3.out
  have E4 : Hid _ := later6 hb4 e6
  have hr4 : w.heap.size < (grow (redrawn W3 dq4) osq4).heap.size := Nat.lt_of_lt_of_le hr3 hb4.size
  have hl4 : b < (grow (redrawn W3 dq4) osq4).heap.size := Nat.lt_of_lt_of_le hl3 hb4.size
  clear hb4 z2 y2 y3 y4 e6 HMay HK3 HB3 R3 hr3 hl3
  generalize grow (redrawn W3 dq4) osq4 = w4 at *
  go_wp2_with fail

  obtain ⟨z0, z1, z2, z3, z4, z5⟩ := E4.out
  have g0 := cell_regrown z0
  have g1 := cell_regrown z1
  have g2 := cell_regrown z2
  have g3 := cell_regrown z3
  have g4 := cell_regrown z4
  have g5 := cell_regrown z5
  have HMk := fun d os => kMarked_any ⟨true, true, er, true, ed, ef⟩ _ (HK4.out.grow (below_regrown w4 d os))
  simp only [Pg.En.val, Pg.Wk.mark] at HMk
  rw [hmk] at HMk
  refine wp_region_quiet_below (by kernel_rfl) (by kernel_rfl) ?_
  repeat (first
    | go_big_quiet_step ((go_at_call 77; exact Calls.regrown_of (HMk _ _))))
  refine wpQuiet_nil ?_
  intro _ hw'
  obtain ⟨⟨dq5, osq5⟩, rfl⟩ := hw'
  have hb5 := below_regrown w4 dq5 osq5
  have HK5 : Hid _ := HK4.out.grow hb5
  have HB5 : Hid (Below w.heap.size w (grow (redrawn w4 dq5) osq5)) := bthen HB4.out hb5
  have R5 : Hid ((grow (redrawn w4 dq5) osq5).heap[w.heap.size]? = _) := (hb5.block _ hr4).trans R4.out
  have e5 := later6 hb5 E4.out
  have hr5 : w.heap.size < (grow (redrawn w4 dq5) osq5).heap.size := Nat.lt_of_lt_of_le hr4 hb5.size
  have hl5 : b < (grow (redrawn w4 dq5) osq5).heap.size := Nat.lt_of_lt_of_le hl4 hb5.size
  clear hb5 z0 z1 z2 z3 z4 z5 g0 g1 g2 g3 g4 g5 HMk HK4 HB4 R4 E4 hr4 hl4
  generalize grow (redrawn w4 dq5) osq5 = w5 at *
  obtain ⟨z0, z1, z2, z3, z4, z5⟩ := e5

  have HDn := kDone_any ⟨true, true, er, true, ed, ef⟩ _ HK5.out false
  simp only [Pg.En.val] at HDn
  rw [HRR.out] at HDn
  simp only [Pg.Rs.val] at HDn
  go_wp2_with fail
  refine HDn.mono ?_
  rintro e w9 ⟨rfl, hk9, hc9⟩
  have HC9 : Hid (Ch8 b o (fun j => j = b) w w9) := (Ch8.of_below HB5.out hl).trans hc9 (fun _ _ h => h)
  have R9 : Hid (w9.heap[w.heap.size]? = _) := (hc9.but.block _ hr5 hrb).trans R5.out
  have hr9 : w.heap.size < w9.heap.size := Nat.lt_of_lt_of_le hr5 hc9.but.size
  obtain ⟨⟨x0, x1, x2, x3, x4, x5, x6, x7, x8⟩, xf⟩ := row9 R9.out
  have HF : Hid _ := fin9 hrb (Nat.le_refl _) ⟨hk9, HC9.out⟩ (.bool ra) (.int .i64 rb) (.int .i64 rc) (.int .i64 rd) (.int .i64 rmp) (.int .i64 rms) (.int .i64 rmf) (.int .i64 rmr) (.bool re)
  clear hk9 hc9 HDn
  go_wp2_with fail
  refine bodyPost_ret (v := .tuple #[.agg #[.bool ra, .int .i64 rb, .int .i64 rc, .int .i64 rd, .int .i64 rmp, .int .i64 rms, .int .i64 rmf, .int .i64 rmr, .bool re], .int .i64 0]) ?_ rfl ⟨rfl, HF.out⟩
  simp [results, Try.results68, go_sem, x0, x1, x2, x3, x4, x5, x6, x7, x8]

theorem kRead_any {bf : Nat} {S : Pg.Fs} {F : Nat → Prop} {q k : Int} {u : Bool} {t : Int} {lv : Nat} (hq : Pg.below q 4096 = true) (hlv : lv < 4) (w : World) (h : WkAt w b o root ⟨true, q, k, u, t, lv, 0⟩) (hf : FrAt w bf S F) :
    Calls Try.prog 68 #[.pointer (some ⟨b, o, none⟩), .pointer (some ⟨bf, 0, none⟩)] w fun e w' => e = .returned (.tuple #[((Pg.kOut S root ⟨true, q, k, u, t, lv, 0⟩).res ⟨true, q, k, u, t, lv, 0⟩).val, .int .i64 (Pg.kOut S root ⟨true, q, k, u, t, lv, 0⟩).cd]) ∧ WkAt w' b o root ((Pg.kOut S root ⟨true, q, k, u, t, lv, 0⟩).next ⟨true, q, k, u, t, lv, 0⟩) ∧ Ch8 b o (fun j => j = b) w w' := by
  have hread := Pg.kRead S root q k u t lv
  rw [show Pg.kOut S root (Pg.Wk.at' q k u t lv 0) = Pg.kOut S root ⟨true, q, k, u, t, lv, 0⟩ from rfl] at hread
  cases hh : S.has t
  · have hrc : Pg.rCode S t (Pg.ix q lv) lv = 12 := by simp [Pg.rCode, hh]
    rw [hrc, if_pos (by decide)] at hread
    rw [hread]
    exact kRead_free hq hlv w h hf hh
  · by_cases hc : Pg.rCode S t (Pg.ix q lv) lv = 0
    · rw [if_neg (by simpa using hc)] at hread
      have hon := fun h => Pg.rEn_on (S := S) (t := t) (i := Pg.ix q lv) (lv := lv) h
      cases he : Pg.rEn S t (Pg.ix q lv) lv with
      | mk et el er eu ed ef =>
      rw [he] at hread hon
      simp only [Pg.En.on] at hread hon
      cases et
      · rw [if_pos rfl] at hread
        rw [hread]
        exact kRead_none hq hlv w h hf hh hc he
      · rw [if_neg (by decide)] at hread
        cases el
        · rw [if_pos rfl] at hread
          obtain ⟨m, hm⟩ := hon rfl
          have hlm2 : lv - 1 = m := by omega
          rw [hlm2] at hread
          rw [hread]
          exact kRead_low hq hlv w h hf (m := m) (by omega) (by omega) hh hc he
        · rw [if_neg (by decide)] at hread
          cases hmay : Pg.may er k u
          · rw [if_pos hmay] at hread
            rw [hread]
            exact kRead_not hq hlv w h hf hmay hh hc he
          · rw [if_neg (by simp [hmay])] at hread
            cases hr : (Pg.Wk.at' q k u t lv 0).ready ⟨true, true, er, eu, ed, ef⟩
            · rw [if_pos hr] at hread
              rw [hread]
              simp only [Pg.Wk.ready, Pg.Wk.at'] at hr
              cases eu
              · exact kRead_wait hq hlv w h hf rfl hmay hh hc he
              · cases ed
                · refine kRead_wait2 (d' := true) hq hlv w h hf rfl ?_ hmay hh hc he
                  by_cases e : k = 1
                  · simp [e]
                  · simp [e] at hr
                · simp at hr
            · rw [if_neg (by simp [hr])] at hread
              rw [hread]
              simp only [Pg.Wk.ready, Pg.Wk.at', Bool.and_eq_true] at hr
              obtain ⟨rfl, h2⟩ := hr
              refine kRead_done hq hlv w h hf ?_ hmay hh hc he
              cases ed
              · by_cases e : k = 1
                · simp [e] at h2
                · simp [e]
              · rfl
    · rw [if_pos hc] at hread
      rw [hread]
      cases he : Pg.rEn S t (Pg.ix q lv) lv with
      | mk et el er eu ed ef => exact kRead_bad hq hlv w h hf (by simpa using hc) hh rfl he
end
end Go.Proofs.Ytbkpndgadgafiae
