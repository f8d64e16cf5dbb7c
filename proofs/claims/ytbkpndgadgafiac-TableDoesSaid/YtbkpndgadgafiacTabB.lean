
/-
  The developers' changes of tables: what a maker's mapping is, and what it puts.
-/
import Derived.Test.YtbkpndgadgafiacTabA
import Derived.Deep.RegionWith
namespace Go.Proofs.Ytbkpndgadgafiac
open Go.RowKit Go.Sort
set_option linter.unusedVariables false
set_option linter.unusedSimpArgs false
set_option maxRecDepth 100000

set_option maxHeartbeats 1000000 in
theorem mkMapping_any {w0 w : World} {k b : Nat} {F0 : Nat → Prop} {S : Pg.Fs} {lv : Int} {e : Pg.En} {ts ps : List Int} {p : Int} (h : St w0 w k b F0 S lv e ts ps p) :
    Calls Try.prog 71 #[.pointer (some ⟨k, 0, none⟩)] w fun en w' => en = .returned (e.map lv p).val ∧ Below w.heap.size w w' := by
  obtain ⟨B, v1, v2, F, hM, hF, hB, h1, h2, hBB, hm⟩ := h.body
  obtain ⟨et, el, er, eu, ed, ef⟩ := e
  obtain ⟨W, hW⟩ : ∃ W, W = w.alloc (.cells #[.int .i64 0, .int .i64 0, .int .i64 0, .int .i64 0] 53) := ⟨_, rfl⟩
  have hBW : Below w.heap.size w W := by rw [hW]; exact balloc (brefl w) _
  have hM1 := hM.grow hBW
  have hz : W.cell? ⟨w.heap.size, 0, none⟩ = some (.int .i64 0) ∧ W.cell? ⟨w.heap.size, 1, none⟩ = some (.int .i64 0) ∧ W.cell? ⟨w.heap.size, 2, none⟩ = some (.int .i64 0) ∧ W.cell? ⟨w.heap.size, 3, none⟩ = some (.int .i64 0) := by rw [hW]; simp [go_sem]
  have hzf : ∀ o, W.frozen? ⟨w.heap.size, o, none⟩ = false := fun o => by rw [hW]; simp [go_sem]
  have hlW : w.heap.size < W.heap.size := World.block_lt_of_cell? _ _ hz.1
  have HE := eMap_any et el er eu ed ef lv p
  have e1 : Pg.mapV et el er eu ed ef lv p = (Pg.En.map ⟨et, el, er, eu, ed, ef⟩ lv p).val := rfl
  rw [e1] at HE
  generalize Pg.En.map ⟨et, el, er, eu, ed, ef⟩ lv p = m at *
  obtain ⟨mp, ms, mf, mr⟩ := m
  simp only [Pg.Mp.val] at HE ⊢
  have nk : ¬ k = w.heap.size := by have := hM.lb; omega
  have nk' : ¬ w.heap.size = k := by have := hM.lb; omega
  have HZ : Hid _ := hz
  have HZF : Hid _ := hzf
  have HBW : Hid _ := hBW
  have k1 := hM1.c1
  have k2 := hM1.c2
  have k3 := hM1.c3
  have k4 := hM1.c4
  have k5 := hM1.c5
  have k6 := hM1.c6
  have k7 := hM1.c7
  have k10 := hM1.c10
  simp only at k2 k3 k4 k5 k6 k7
  clear h hM hF hB h1 h2 hM1 hz hzf hBW e1 hBB hm
  go_enter Try.func71, Try.ntmps71
  go_wp2_with fail
  rw [← hW]
  clear hW
  go_region_held3 (fun w' => w'.cell? ⟨k, 1, none⟩ = some (.int .i64 lv) ∧ w'.cell? ⟨k, 2, none⟩ = some (.bool et) ∧ w'.cell? ⟨k, 3, none⟩ = some (.bool el) ∧ w'.cell? ⟨k, 4, none⟩ = some (.int .i64 er) ∧ w'.cell? ⟨k, 5, none⟩ = some (.bool eu) ∧ w'.cell? ⟨k, 6, none⟩ = some (.bool ed) ∧ w'.cell? ⟨k, 7, none⟩ = some (.int .i64 ef) ∧ w'.cell? ⟨k, 10, none⟩ = some (.int .i64 p)) (go_keep) (
    (go_at_call 85; refine (HE _).mono ?_; rintro en w2 ⟨rfl, hb2⟩
     have HB2 : Hid (Below W.heap.size W w2) := bthen (brefl W).drew hb2
     have q1 := cell_later HB2.out k1
     have q2 := cell_later HB2.out k2
     have q3 := cell_later HB2.out k3
     have q4 := cell_later HB2.out k4
     have q5 := cell_later HB2.out k5
     have q6 := cell_later HB2.out k6
     have q7 := cell_later HB2.out k7
     have q10 := cell_later HB2.out k10
     obtain ⟨z0, z1, z2, z3⟩ := later4 HB2.out HZ.out
     have zf : ∀ o, w2.frozen? ⟨w.heap.size, o, none⟩ = false := fun o => (HB2.out.frozen (p := ⟨w.heap.size, o, none⟩) hlW).trans (HZF.out o)
     clear hb2))
  have fin : Hid (Below w.heap.size w ((((w2.setCell ⟨w.heap.size, 0, none⟩ (.int .i64 mp)).setCell ⟨w.heap.size, 1, none⟩ (.int .i64 ms)).setCell ⟨w.heap.size, 2, none⟩ (.int .i64 mf)).setCell ⟨w.heap.size, 3, none⟩ (.int .i64 mr))) := below_set4 (bthen HBW.out HB2.out) _ (Nat.le_refl _) _ _ _ _
  go_wp2_with fail
  refine bodyPost_ret (v := .agg #[.int .i64 mp, .int .i64 ms, .int .i64 mf, .int .i64 mr]) ?_ rfl ⟨rfl, fin.out⟩
  simp [results, Try.results71, go_sem, z0, z1, z2, z3]

/-- The last one of a row. -/
theorem own_last {w : World} {B : Nat} {v : Value} {ts : List Int} {t : Int} (h : w.ownsRow B 3 1 v (ts ++ [t]).length (ints (ts ++ [t]))) : ∃ g cap, v = .slice (some ⟨g, 0, none⟩) (ts.length + 1) cap ∧ w.cell? ⟨g, ts.length, none⟩ = some (.int .i64 t) ∧ ts.length + 1 ≤ cap := by
  rw [List.length_append, List.length_singleton] at h
  have h2 := h
  obtain ⟨g, cap, rfl, _, _⟩ := h.form (by omega)
  refine ⟨g, cap, rfl, ?_, ?_⟩
  · rw [h.cellAt ts.length (by omega)]
    simp [ints]
  · rcases h2.2 with ⟨h', _⟩ | ⟨g', cap', cur, h', _, _, hle, _⟩
    · cases h'
    · cases h'; exact hle

set_option maxHeartbeats 2000000 in
theorem put_any {w0 w : World} {k b : Nat} {F0 : Nat → Prop} {S : Pg.Fs} {lv : Int} {e : Pg.En} {ts ps : List Int} {p t q : Int} (e' : Pg.En) (h : St w0 w k b F0 S lv e (ts ++ [t]) (ps ++ [q]) p) (hlen : ts.length = ps.length) (hl : ts.length < 5000) :
    Calls Try.prog 67 #[.pointer (some ⟨k, 0, none⟩), e'.val] w fun en w' => en = .returned (.tuple #[]) ∧ St w0 w' k b F0 (S.store t q (Pg.enc e'.t e'.l e'.r e'.u e'.d e'.f lv)) lv e' (ts ++ [t]) (ps ++ [q]) p := by
  obtain ⟨et, el, er, eu, ed, ef⟩ := e'
  simp only [Pg.En.val]
  have HE := encode_any et el er eu ed ef lv
  have hv : 0 ≤ Pg.enc et el er eu ed ef lv ∧ Pg.enc et el er eu ed ef lv < 18446744073709551616 := Pg.enc_bd _ _ _ _ _ _ _
  generalize Pg.enc et el er eu ed ef lv = v at *
  generalize Pg.eFault et el er eu ed ef lv = fl at *
  obtain ⟨hv0, hv1⟩ := hv
  obtain ⟨W, hW⟩ : ∃ W, W = w.alloc (.cells #[.bool et, .bool el, .int .i64 er, .bool eu, .bool ed, .int .i64 ef] 29) := ⟨_, rfl⟩
  have hBW : Below w.heap.size w W := by rw [hW]; exact balloc (brefl w) _
  have hx : W.cell? ⟨w.heap.size, 0, none⟩ = some (.bool et) ∧ W.cell? ⟨w.heap.size, 1, none⟩ = some (.bool el) ∧ W.cell? ⟨w.heap.size, 2, none⟩ = some (.int .i64 er) ∧ W.cell? ⟨w.heap.size, 3, none⟩ = some (.bool eu) ∧ W.cell? ⟨w.heap.size, 4, none⟩ = some (.bool ed) ∧ W.cell? ⟨w.heap.size, 5, none⟩ = some (.int .i64 ef) := by rw [hW]; simp [go_sem]
  have nk : ¬ k = w.heap.size := by have := h.lb; omega
  have nk' : ¬ w.heap.size = k := by have := h.lb; omega
  have hlw : w.heap.size < W.heap.size := World.block_lt_of_cell? _ _ hx.1
  obtain ⟨B, v1, v2, F, hM, hF, hB, h1, h2, hBB, hm⟩ := h.body
  obtain ⟨g1, cap1, rfl, ht, _⟩ := own_last hM.o1
  obtain ⟨g2, cap2, rfl, hq, _⟩ := own_last hM.o2
  have HFl : Hid (∀ j, F j → j < w.heap.size) := fun j hj => hF.lt hj
  have HM : Hid _ := hM
  have HF : Hid (FrAt w b S F) := hF
  have HBt : Hid _ := hB
  have H1 : Hid _ := h1
  have H2 : Hid _ := h2
  have HBB : Hid _ := hBB
  have Hm : Hid _ := hm
  have HBW : Hid _ := hBW
  have k1 := (hM.grow hBW).c1
  obtain ⟨x0, x1, x2, x3, x4, x5⟩ := hx
  clear hM hF hB h1 h2 h hBW hBB hm
  go_enter Try.func67, Try.ntmps67
  go_wp2_with fail
  rw [← hW]
  clear hW
  go_region_held3 (fun w' => w'.cell? ⟨w.heap.size, 0, none⟩ = some (.bool et) ∧ w'.cell? ⟨w.heap.size, 1, none⟩ = some (.bool el) ∧ w'.cell? ⟨w.heap.size, 2, none⟩ = some (.int .i64 er) ∧ w'.cell? ⟨w.heap.size, 3, none⟩ = some (.bool eu) ∧ w'.cell? ⟨w.heap.size, 4, none⟩ = some (.bool ed) ∧ w'.cell? ⟨w.heap.size, 5, none⟩ = some (.int .i64 ef) ∧ w'.cell? ⟨k, 1, none⟩ = some (.int .i64 lv)) (go_keep) (
    (go_at_call 88; refine (HE _).mono ?_; rintro en w2 ⟨rfl, hb2⟩
     have HB2 : Hid (Below W.heap.size W w2) := bthen (brefl W).drew hb2
     have q0 := cell_later HB2.out x0
     have q1 := cell_later HB2.out x1
     have q2 := cell_later HB2.out x2
     have q3 := cell_later HB2.out x3
     have q4 := cell_later HB2.out x4
     have q5 := cell_later HB2.out x5
     have q6 := cell_later HB2.out k1
     clear hb2))
  have HB3 : Hid (Below w.heap.size w w2) := bthen HBW.out HB2.out
  have hl2 : w.heap.size < w2.heap.size := World.block_lt_of_cell? _ _ q0
  have HM2 : Hid _ := HM.out.grow HB3.out
  have HF2 : Hid (FrAt w2 b S F) := FrAt.keep (G := fun _ => False) HF.out (But.of_below HB3.out) fun _ _ => id
  have HBt2 : Hid (But F0 w0 w2) := HBt.out.trans (But.of_below (F := fun _ => False) HB3.out) fun _ _ h => h.elim
  have X2 : Hid (w2.cell? ⟨w.heap.size, 0, none⟩ = some (.bool et) ∧ w2.cell? ⟨w.heap.size, 1, none⟩ = some (.bool el) ∧ w2.cell? ⟨w.heap.size, 2, none⟩ = some (.int .i64 er) ∧ w2.cell? ⟨w.heap.size, 3, none⟩ = some (.bool eu) ∧ w2.cell? ⟨w.heap.size, 4, none⟩ = some (.bool ed) ∧ w2.cell? ⟨w.heap.size, 5, none⟩ = some (.int .i64 ef)) := ⟨q0, q1, q2, q3, q4, q5⟩
  have k0 := HM2.out.c0
  have k8 := HM2.out.c8
  have k9 := HM2.out.c9
  have kt := cell_later HB3.out ht
  have kq := cell_later HB3.out hq
  clear x0 x1 x2 x3 x4 x5 k1 HE q0 q1 q2 q3 q4 q5 q6 ht hq HM HF HBt HB2 HBW
  have HEnd : ∀ W', Below w2.heap.size w2 W' → Calls Try.prog 89 #[.pointer (some ⟨k, 0, none⟩)] W' fun en w' => en = .returned (.int .i64 (ts.length : Int)) ∧ w' = W' := fun W' hb => by
    have hS : St w0 W' k b F0 S lv e (ts ++ [t]) (ps ++ [q]) p := St.grow ⟨B, _, _, F, HM2.out, HF2.out, HBt2.out, H1.out, H2.out, Nat.le_trans HBB.out HB3.out.size, Hm.out⟩ hb
    refine (end_any hS (by simp; omega)).mono ?_
    rintro en w' ⟨rfl, rfl⟩
    exact ⟨by simp, rfl⟩
  have HSt : ∀ W', Below w2.heap.size w2 W' → Calls Try.prog 46 #[.pointer (some ⟨b, 0, none⟩), .int .i64 t, .int .i64 q, .int .u64 v] W' fun en w' => en = .returned (.bool (S.at' t q)) ∧ ∃ F4, FrAt w' b (S.store t q v) F4 ∧ But F w2 w' ∧ ∀ k, F4 k → F k ∨ w2.heap.size ≤ k := fun W' hb => by
    refine (frStore_any t q v hv0 hv1 W' (FrAt.keep (G := fun _ => False) HF2.out (But.of_below hb) fun _ _ => id)).mono ?_
    rintro en w' ⟨rfl, F4, f1, f2, f3⟩
    exact ⟨rfl, F4, f1, (But.of_below hb).trans f2 fun _ _ h => h, fun j hj => (f3 j hj).imp id fun h => by have := hb.size; omega⟩
  have hlen' : ps.length = ts.length := hlen.symm
  rw [hlen'] at k9 kq
  have i0 : (0 : Int) ≤ (ts.length : Int) := by omega
  have i1 : (ts.length : Int) < (ts.length : Int) + 1 := by omega
  have HL : Hid _ := hlen
  clear hlen hlen'
  generalize hn : ts.length = n at *
  have HN : Hid _ := hn
  clear hn
  go_wp2_with fail
  go_region_held3 (fun w' => w'.cell? ⟨k, 0, none⟩ = some (.pointer (some ⟨b, 0, none⟩)) ∧ w'.cell? ⟨k, 8, none⟩ = some (.slice (some ⟨g1, 0, none⟩) (n + 1) cap1) ∧ w'.cell? ⟨k, 9, none⟩ = some (.slice (some ⟨g2, 0, none⟩) (n + 1) cap2) ∧ w'.cell? ⟨g1, n, none⟩ = some (.int .i64 t) ∧ w'.cell? ⟨g2, n, none⟩ = some (.int .i64 q)) (go_keep) (first
    | (go_at_call 89; refine (HEnd _ (by first | exact (brefl w2).drew | exact brefl w2)).mono ?_; rintro en w3 ⟨rfl, hw3⟩; subst w3)
    | (go_at_call 46; refine (HSt _ (by first | exact (brefl w2).drew | exact brefl w2)).mono ?_; rintro en w4 ⟨rfl, hf4⟩
       obtain ⟨F4, f1, f2, f3⟩ := hf4
       have f2' : But F w2 w4 := f2
       have HM4 : Hid _ := HM2.out.keep f2' fun j hj hF => H2.out j hF hj
       have HF4 : Hid (FrAt w4 b (S.store t q v) F4) := f1
       have HF42 : Hid (But F w2 w4) := f2'
       have HF43 : Hid (∀ k, F4 k → F k ∨ w2.heap.size ≤ k) := f3
       have r0 := HM4.out.c0
       have r8 := HM4.out.c8
       have r9 := HM4.out.c9
       rw [← HL.out] at r9
       have rt : w4.cell? ⟨g1, n, none⟩ = some (.int .i64 t) := (f2'.cell (a := ⟨g1, n, none⟩) (World.block_lt_of_cell? _ _ kt) fun hF => H2.out g1 hF (.inr (.inl rfl))).trans kt
       have rq : w4.cell? ⟨g2, n, none⟩ = some (.int .i64 q) := (f2'.cell (a := ⟨g2, n, none⟩) (World.block_lt_of_cell? _ _ kq) fun hF => H2.out g2 hF (.inr (.inr rfl))).trans kq
       clear f1 f2 f3 f2'))
  have y : ∀ (o : Nat) (u : Value), w2.cell? ⟨w.heap.size, o, none⟩ = some u → w4.cell? ⟨w.heap.size, o, none⟩ = some u := fun o u hu => (HF42.out.cell (a := ⟨w.heap.size, o, none⟩) hl2 fun hF => by have := HFl.out _ hF; simp at this).trans hu
  have y0 := y _ _ X2.out.1
  have y1 := y _ _ X2.out.2.1
  have y2 := y _ _ X2.out.2.2.1
  have y3 := y _ _ X2.out.2.2.2.1
  have y4 := y _ _ X2.out.2.2.2.2.1
  have y5 := y _ _ X2.out.2.2.2.2.2
  have r2 := HM4.out.c2
  have r3 := HM4.out.c3
  have r4 := HM4.out.c4
  have r5 := HM4.out.c5
  have r6 := HM4.out.c6
  have r7 := HM4.out.c7
  have rf := HM4.out.fz
  have hlk := HM4.out.lb
  have fin : Hid _ := HM4.out.setE ⟨et, el, er, eu, ed, ef⟩
  have fbt : Hid (But (fun j => j = k) w4 ((((((w4.setCell ⟨k, 2, none⟩ (.bool et)).setCell ⟨k, 3, none⟩ (.bool el)).setCell ⟨k, 4, none⟩ (.int .i64 er)).setCell ⟨k, 5, none⟩ (.bool eu)).setCell ⟨k, 6, none⟩ (.bool ed)).setCell ⟨k, 7, none⟩ (.int .i64 ef))) :=
    ((((((But.refl (fun j => j = k) w4).setCell (a := ⟨k, 2, none⟩) (.inr rfl) _).setCell (a := ⟨k, 3, none⟩) (.inr rfl) _).setCell (a := ⟨k, 4, none⟩) (.inr rfl) _).setCell (a := ⟨k, 5, none⟩) (.inr rfl) _).setCell (a := ⟨k, 6, none⟩) (.inr rfl) _).setCell (a := ⟨k, 7, none⟩) (.inr rfl) _
  have F4n : Hid (∀ j, F4 j → ¬ mkF k (.slice (some ⟨g1, 0, none⟩) (n + 1) cap1) (.slice (some ⟨g2, 0, none⟩) (ps.length + 1) cap2) j) := fun j hj hm => by
    rcases HF43.out j hj with h | h
    · exact H2.out j h hm
    · have := (HM2.out.lt hm).2; omega
  have hhi := HM2.out.hi
  clear y r0 r8 r9 rt rq k0 k8 k9 kt kq HSt HEnd
  go_wp2_with fail
  go_end0
  refine ⟨rfl, B, _, _, F4, fin.out, FrAt.keep HF4.out fbt.out fun j hj e => F4n.out j hj (.inl e), ?_, fun j hj => ?_, F4n.out, ?_, Hm.out⟩
  · refine (HBt2.out.trans HF42.out fun i hi hF => ?_).trans fbt.out fun i hi e => ?_
    · rcases H1.out i hF with h | h
      · exact h
      · omega
    · rcases Hm.out i (.inl e) with h | h
      · exact h
      · omega
  · rcases HF43.out j hj with h | h
    · exact H1.out j h
    · have := HBt2.out.size; exact .inr (by omega)
  · exact Nat.le_trans (Nat.le_trans HBB.out HB3.out.size) (Nat.le_trans HF42.out.size fbt.out.size)
end Go.Proofs.Ytbkpndgadgafiac
