
/-
  A walk to its end, as the statements make it.
-/
import Derived.Test.YtkcmlmofcjdgoadKG
namespace Go.Proofs.Ytkcmlmofcjdgoad
open Go.RowKit Go.Sort
set_option linter.unusedVariables false
set_option linter.unusedSimpArgs false
set_option maxRecDepth 100000

theorem res_ended (o : Pg.Wo) (K : Pg.Wk) : (o.res K).ended = o.ended := by rcases o with c | K' | r | ⟨e, m⟩ <;> rfl

/-- On the way to the end: a walk behind i - 1 steps. -/
structure FinAt (w0 w wr : World) (bf bk : Nat) (F : Nat → Prop) (root : Int) (T : Pg.Fin) (i : Nat) : Prop where
  ex : ∃ F' S K, Wf w0 wr bf F' S bk root K ∧ K.Ok ∧ T = Pg.fin root (20 - i) (i : Int) S K ∧ But (fun j => j = bk ∨ F j) w wr ∧ ∀ j, F' j → F j ∨ w.heap.size < j
  cell : wr.heap[w.heap.size]? = some (.cells #[.bool false, .int .i64 0, .int .i64 0, .int .i64 0, .int .i64 0, .int .i64 0, .int .i64 0, .int .i64 0, .bool false] 71 (0, 0))

/-- The result's own cells are written. -/
theorem finW0 {w0 w wc : World} {bf bk : Nat} {F G : Nat → Prop} {S : Pg.Fs} {root : Int} {K : Pg.Wk} (hw0 : w0.heap.size ≤ w.heap.size) (hrb : ¬ w.heap.size = bk) (hrF : ¬ F w.heap.size) (h : Wf w0 wc bf F S bk root K) (hb : But G w wc) (v0 v1 v2 v3 v4 v5 v6 v7 v8 : Value) :
    Wf w0 (((((((((wc.setCell ⟨w.heap.size, 0, none⟩ v0).setCell ⟨w.heap.size, 1, none⟩ v1).setCell ⟨w.heap.size, 2, none⟩ v2).setCell ⟨w.heap.size, 3, none⟩ v3).setCell ⟨w.heap.size, 4, none⟩ v4).setCell ⟨w.heap.size, 5, none⟩ v5).setCell ⟨w.heap.size, 6, none⟩ v6).setCell ⟨w.heap.size, 7, none⟩ v7).setCell ⟨w.heap.size, 8, none⟩ v8) bf F S bk root K ∧
    But G w (((((((((wc.setCell ⟨w.heap.size, 0, none⟩ v0).setCell ⟨w.heap.size, 1, none⟩ v1).setCell ⟨w.heap.size, 2, none⟩ v2).setCell ⟨w.heap.size, 3, none⟩ v3).setCell ⟨w.heap.size, 4, none⟩ v4).setCell ⟨w.heap.size, 5, none⟩ v5).setCell ⟨w.heap.size, 6, none⟩ v6).setCell ⟨w.heap.size, 7, none⟩ v7).setCell ⟨w.heap.size, 8, none⟩ v8) := by
  have h9 := but_set9k (F := fun j => j = w.heap.size) (But.refl _ wc) w.heap.size (.inr rfl) v0 v1 v2 v3 v4 v5 v6 v7 v8
  refine ⟨h.beside h9 ?_, but_set9k hb w.heap.size (.inl (Nat.le_refl _)) v0 v1 v2 v3 v4 v5 v6 v7 v8⟩
  rintro j _ rfl
  exact ⟨hw0, hrF, hrb⟩
theorem finW {w0 w wc : World} {bf bk : Nat} {F G : Nat → Prop} {S : Pg.Fs} {root : Int} {K : Pg.Wk} (hw0 : w0.heap.size ≤ w.heap.size) (hrb : ¬ w.heap.size = bk) (hrF : ¬ F w.heap.size) (h : Wf w0 wc bf F S bk root K) (hb : But G w wc) (v0 v1 v2 v3 v4 v5 v6 v7 v8 : Value) (ob : Obj) :
    Wf w0 ((((((((((wc.setCell ⟨w.heap.size, 0, none⟩ v0).setCell ⟨w.heap.size, 1, none⟩ v1).setCell ⟨w.heap.size, 2, none⟩ v2).setCell ⟨w.heap.size, 3, none⟩ v3).setCell ⟨w.heap.size, 4, none⟩ v4).setCell ⟨w.heap.size, 5, none⟩ v5).setCell ⟨w.heap.size, 6, none⟩ v6).setCell ⟨w.heap.size, 7, none⟩ v7).setCell ⟨w.heap.size, 8, none⟩ v8).alloc ob) bf F S bk root K ∧
    But G w ((((((((((wc.setCell ⟨w.heap.size, 0, none⟩ v0).setCell ⟨w.heap.size, 1, none⟩ v1).setCell ⟨w.heap.size, 2, none⟩ v2).setCell ⟨w.heap.size, 3, none⟩ v3).setCell ⟨w.heap.size, 4, none⟩ v4).setCell ⟨w.heap.size, 5, none⟩ v5).setCell ⟨w.heap.size, 6, none⟩ v6).setCell ⟨w.heap.size, 7, none⟩ v7).setCell ⟨w.heap.size, 8, none⟩ v8).alloc ob) := by
  obtain ⟨h1, h2⟩ := finW0 hw0 hrb hrF h hb v0 v1 v2 v3 v4 v5 v6 v7 v8
  exact ⟨h1.grow (balloc (brefl _) _), h2.alloc _⟩

set_option maxHeartbeats 1000000 in
theorem finish_any {w0 : World} {bf bk : Nat} {F : Nat → Prop} {S : Pg.Fs} {root : Int} {K : Pg.Wk} (ok : K.Ok) (w : World) (h : Wf w0 w bf F S bk root K) :
    Calls Try.prog 46 #[.pointer (some ⟨bk, 0, none⟩), .pointer (some ⟨bf, 0, none⟩)] w fun e w' => e = .returned (.tuple #[(Pg.fin root 19 1 S K).R.val, .int .i64 (Pg.fin root 19 1 S K).n, .int .i64 (Pg.fin root 19 1 S K).c]) ∧ ∃ F', Wf w0 w' bf F' (Pg.fin root 19 1 S K).S bk root (Pg.fin root 19 1 S K).K ∧ But (fun j => j = bk ∨ F j) w w' ∧ ∀ j, F' j → F j ∨ w.heap.size ≤ j := by
  obtain ⟨W, hW⟩ : ∃ W, W = w.alloc (.cells #[.bool false, .int .i64 0, .int .i64 0, .int .i64 0, .int .i64 0, .int .i64 0, .int .i64 0, .int .i64 0, .bool false] 71) := ⟨_, rfl⟩
  have hBW : Below w.heap.size w W := by rw [hW]; exact balloc (brefl w) _
  have hFl : Hid (∀ j, F j → j < w.heap.size) := fun j hj => h.fr.lt hj
  have hkl : bk < w.heap.size := h.wk.lb
  generalize hT : Pg.fin root 19 1 S K = T
  have H0 : Hid (FinAt w0 w W bf bk F root T 1) := ⟨⟨F, S, K, h.grow hBW, ok, hT.symm, But.of_below hBW, fun j hj => .inl hj⟩, by rw [hW]; exact heap_alloc_new _ _⟩
  have hw0 : w0.heap.size ≤ w.heap.size := h.bel.size
  clear h hBW hT ok
  obtain ⟨⟨ra, rb, rc, rd, ⟨rmp, rms, rmf, rmr⟩, re⟩, Tn, Tc, TS, TK⟩ := T
  simp only [Pg.Rs.val]
  go_enter Try.func46, Try.ntmps46
  go_wp2_with fail
  rw [← hW]
  clear hW
  go_loopw [7] (fun iv wr => ∃ i : Nat, 1 ≤ i ∧ i ≤ 20 ∧ iv = .int .i64 (i : Int) ∧ Hid (FinAt w0 w wr bf bk F root ⟨⟨ra, rb, rc, rd, ⟨rmp, rms, rmf, rmr⟩, re⟩, Tn, Tc, TS, TK⟩ i)) (fun iv _ => 20 - (intOf iv).toNat)
  case atStart => exact ⟨1, by omega, by omega, rfl, H0.out⟩
  case round =>
    obtain ⟨i, hi1, hi20, rfl, HR⟩ := hrel
    clear H0
    obtain ⟨⟨F', S', K', hwf, hok, hfin, hbut, hF'⟩, hcell⟩ := HR.out
    have HWF : Hid _ := hwf
    have HOK : Hid (K'.Ok) := hok
    have HFN : Hid _ := hfin
    have HBT : Hid _ := hbut
    have HF' : Hid _ := hF'
    have HCL : Hid _ := hcell
    clear hwf hok hfin hbut hF' hcell HR
    have hrr : w.heap.size < wr.heap.size := (Array.getElem?_eq_some_iff.1 HCL.out).1
    have hrF : Hid (¬ F' w.heap.size) := fun hj => by rcases HF'.out _ hj with h | h; have := hFl.out _ h; omega; omega
    have hrb : ¬ w.heap.size = bk := by omega
    by_cases hlt : i < 20
    · have i1 : (i : Int) < 20 := by omega
      have HS := kStep_any HOK.out wr HWF.out.wk HWF.out.fr HWF.out.ne
      obtain ⟨fu, hfu⟩ : ∃ fu, 20 - i = fu + 1 := ⟨19 - i, by omega⟩
      rw [hfu] at HFN
      have HEN : Hid _ := res_ended (Pg.kOut S' root K') K'
      have HON : Hid ((Pg.Wo.next K' (Pg.kOut S' root K')).Ok) := Pg.kOut_ok HWF.out.fr.ok HOK.out root
      have HUN : Hid (Pg.fin root (fu + 1) (i : Int) S' K' = if (Pg.kOut S' root K').cd ≠ 0 ∨ (Pg.kOut S' root K').ended = true then ⟨(Pg.kOut S' root K').res K', (i : Int), (Pg.kOut S' root K').cd, (Pg.kOut S' root K').fs S' K', (Pg.kOut S' root K').next K'⟩ else Pg.fin root fu ((i : Int) + 1) ((Pg.kOut S' root K').fs S' K') ((Pg.kOut S' root K').next K')) := rfl
      generalize Pg.Wo.next K' (Pg.kOut S' root K') = K2 at *
      generalize Pg.Wo.fs S' K' (Pg.kOut S' root K') = S2 at *
      generalize Pg.Wo.res K' (Pg.kOut S' root K') = R2 at *
      generalize (Pg.kOut S' root K').cd = c2 at *
      generalize (Pg.kOut S' root K').ended = en2 at *
      obtain ⟨qa, qb, qc, qd, ⟨qmp, qms, qmf, qmr⟩, qe⟩ := R2
      simp only at HEN
      simp only [Pg.Rs.val] at HS
      go_wp2_with fail
      refine HS.mono ?_
      rintro e w1 ⟨rfl, hk1, F1, hf1, hc1, hF1⟩
      have HW1 : Hid _ := HWF.out.step hk1 hf1 hc1.but hF1
      have HB1 : Hid (But (fun j => j = bk ∨ F j) w w1) := HBT.out.trans hc1.but (by
        rintro j hj (h | h)
        · exact .inl h
        · rcases HF'.out j h with h2 | h2
          · exact .inr h2
          · omega)
      have HFF : Hid (∀ j, F1 j → F j ∨ w.heap.size < j) := fun j hj => by
        rcases hF1 j hj with h2 | h2
        · exact HF'.out j h2
        · exact .inr (by omega)
      have R1 : Hid (w1.heap[w.heap.size]? = _) := (hc1.but.block _ hrr (by rintro (h | h); exact hrb h; exact hrF.out h)).trans HCL.out
      have hr1 : w.heap.size < w1.heap.size := Nat.lt_of_lt_of_le hrr hc1.but.size
      clear hk1 hf1 hc1 hF1 HS HWF HBT HF' HCL hrr hrF HOK
      have nr1 : w.heap.size ≠ w1.heap.size := by omega
      have mr1 : w1.heap.size ≠ w.heap.size := by omega
      obtain ⟨⟨x0, x1, x2, x3, x4, x5, x6, x7, x8⟩, xf⟩ := row9 R1.out
      have hcase : c2 = 0 ∧ qa = false ∨ (c2 != 0) = true ∨ ((c2 != 0) = false ∧ qa = true) := by
        by_cases h : c2 = 0
        · cases qa
          · exact .inl ⟨h, rfl⟩
          · exact .inr (.inr ⟨by simpa using h, rfl⟩)
        · exact .inr (.inl (by simpa using h))
      have HEG : Hid ((c2 != 0) = true ∨ qa = true → (⟨⟨ra, rb, rc, rd, ⟨rmp, rms, rmf, rmr⟩, re⟩, Tn, Tc, TS, TK⟩ : Pg.Fin) = ⟨⟨qa, qb, qc, qd, ⟨qmp, qms, qmf, qmr⟩, qe⟩, (i : Int), c2, S2, K2⟩) := fun hq => by
        rw [HFN.out, HUN.out, if_pos (by rw [← HEN.out]; exact hq.imp (fun h => by simpa using h) id)]
      rcases hcase with ⟨rfl, rfl⟩ | hcn | ⟨hcn, rfl⟩
      · have HN : Hid (FinAt w0 w (w1.alloc (.cells #[.bool false, .int .i64 qb, .int .i64 qc, .int .i64 qd, .int .i64 qmp, .int .i64 qms, .int .i64 qmf, .int .i64 qmr, .bool qe] 71)) bf bk F root ⟨⟨ra, rb, rc, rd, ⟨rmp, rms, rmf, rmr⟩, re⟩, Tn, Tc, TS, TK⟩ (i + 1)) := by
          have hb := balloc (brefl w1) (.cells #[.bool false, .int .i64 qb, .int .i64 qc, .int .i64 qd, .int .i64 qmp, .int .i64 qms, .int .i64 qmf, .int .i64 qmr, .bool qe] 71)
          refine ⟨⟨F1, S2, K2, HW1.out.grow hb, HON.out, ?_, HB1.out.trans (But.of_below (F := fun _ => False) hb) (fun _ _ h => h.elim), HFF.out⟩, (hb.block _ hr1).trans R1.out⟩
          rw [HFN.out, HUN.out, if_neg (by rw [← HEN.out]; simp), show 20 - (i + 1) = fu by omega]
          simp
        clear HUN HEN HFN HB1 HFF R1 HW1
        go_wp2_with fail
        first
          | exact ⟨⟨i + 1, by omega, by omega, by go_num, HN.out⟩, by simp [intOf]; omega⟩
          | (go_roundw
             case rel => exact ⟨i + 1, by omega, by omega, by go_num, HN.out⟩
             case measure => simp [intOf]; omega)
      all_goals
        have HE2 := HEG.out (by first | exact .inl hcn | exact .inr rfl)
        injection HE2 with j1 j2 j3 j4 j5
        injection j1 with l1 l2 l3 l4 l5 l6
        injection l5 with m1 m2 m3 m4
        subst l1 l2 l3 l4 l6 m1 m2 m3 m4 j2 j3 j4 j5
        have HWs : Hid (∀ (v0 v1 v2 v3 v4 v5 v6 v7 v8 : Value) (ob : Obj), _) := fun v0 v1 v2 v3 v4 v5 v6 v7 v8 ob => finW hw0 hrb (fun hj => by rcases HFF.out _ hj with h2 | h2; have := hFl.out _ h2; omega; omega) HW1.out HB1.out v0 v1 v2 v3 v4 v5 v6 v7 v8 ob
        clear HEG HUN HEN HFN HW1 HB1
        go_wp2_with fail
        refine bodyPost_ret (v := .tuple #[.agg #[.bool _, .int .i64 rb, .int .i64 rc, .int .i64 rd, .int .i64 rmp, .int .i64 rms, .int .i64 rmf, .int .i64 rmr, .bool re], .int .i64 (i : Int), .int .i64 Tc]) ?_ rfl ⟨rfl, F1, (HWs.out _ _ _ _ _ _ _ _ _ _).1, (HWs.out _ _ _ _ _ _ _ _ _ _).2, fun j hj => (HFF.out j hj).imp id Nat.le_of_lt⟩
        simp [results, Try.results46, go_sem, x0, x1, x2, x3, x4, x5, x6, x7, x8, hr1, nr1, mr1]
    · have hi : i = 20 := by omega
      subst hi
      have HE := HFN.out
      rw [show Pg.fin root (20 - 20) ((20 : Nat) : Int) S' K' = ⟨⟨false, 0, 0, 0, ⟨0, 0, 0, 0⟩, false⟩, 20, -1, S', K'⟩ from rfl] at HE
      injection HE with j1 j2 j3 j4 j5
      injection j1 with l1 l2 l3 l4 l5 l6
      injection l5 with m1 m2 m3 m4
      subst l1 l2 l3 l4 l6 m1 m2 m3 m4 j2 j3 j4 j5
      have HWs : Hid _ := finW0 hw0 hrb hrF.out HWF.out HBT.out (.bool false) (.int .i64 0) (.int .i64 0) (.int .i64 0) (.int .i64 0) (.int .i64 0) (.int .i64 0) (.int .i64 0) (.bool false)
      obtain ⟨⟨x0, x1, x2, x3, x4, x5, x6, x7, x8⟩, xf⟩ := row9 HCL.out
      clear HFN HWF HBT HOK
      go_wp2_with fail
      refine bodyPost_ret (v := .tuple #[.agg #[.bool false, .int .i64 0, .int .i64 0, .int .i64 0, .int .i64 0, .int .i64 0, .int .i64 0, .int .i64 0, .bool false], .int .i64 20, .int .i64 (-1)]) ?_ rfl ⟨rfl, F', HWs.out.1, HWs.out.2, fun j hj => (HF'.out j hj).imp id Nat.le_of_lt⟩
      simp [results, Try.results46, go_sem, x0, x1, x2, x3, x4, x5, x6, x7, x8]
end Go.Proofs.Ytkcmlmofcjdgoad
