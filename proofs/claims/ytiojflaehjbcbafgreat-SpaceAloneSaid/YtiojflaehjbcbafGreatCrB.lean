
/-
  The developers' core: Step.
-/
import Derived.Test.YtiojflaehjbcbafGreatCrA
import Derived.Deep.RegionHeld3
namespace Go.Proofs.YtiojflaehjbcbafGreat
open Go.RowKit Go.Sort
set_option linter.unusedVariables false
set_option linter.unusedSimpArgs false
set_option maxRecDepth 100000
attribute [local go_sem] Loose.gent

section
variable {b : Nat} {root : Int} {C : Pg.Cr} {F : Nat → Prop}
set_option maxHeartbeats 1000000 in
theorem crStep_any {bf : Nat} {S : Pg.Fs} {Ff : Nat → Prop} (w : World) (h : CrAt w b root C F) (hf : FrAt w bf S Ff) (hne : ∀ j, F j → ¬ Ff j) :
    Calls Tryz.prog 36 #[.pointer (some ⟨b, 0, none⟩), .pointer (some ⟨bf, 0, none⟩)] w fun e w' => e = .returned (C.stT S root).val ∧ ∃ F' Ff', CrAt w' b root (C.stN S root) F' ∧ FrAt w' bf (C.stS S root) Ff' ∧ But (fun j => F j ∨ Ff j) w w' ∧ (∀ j, F' j → F j ∨ w.heap.size ≤ j) ∧ (∀ j, Ff' j → Ff j ∨ w.heap.size ≤ j) ∧ ∀ j, F' j → ¬ Ff' j := by
  obtain ⟨bt, bk, Ft, h, rfl⟩ := h
  obtain ⟨W, hW⟩ : ∃ W, W = w.alloc (.cells #[.int .i64 0, .int .i64 0, .int .i64 0] 37) := ⟨_, rfl⟩
  have hB : Below w.heap.size w W := by rw [hW]; exact balloc (brefl _) _
  have R3 : Hid (W.heap[w.heap.size]? = some (.cells #[.int .i64 0, .int .i64 0, .int .i64 0] 37 (0, 0))) := by rw [Hid, hW]; exact heap_alloc_new _ _
  have hWs : w.heap.size < W.heap.size := by rw [hW]; simp
  have hl := h.lb
  have HW : Hid _ := h.grow hB
  have HFW : Hid (FrAt W bf S Ff) := hf.keep (G := fun _ => False) (But.of_below hB) (fun _ _ => id)
  have HB : Hid _ := hB
  have HNE : Hid _ := hne
  have HLT : Hid (∀ j, crF b bk Ft j → j < w.heap.size) := fun j hj => h.lt hj
  have HLX : Hid (¬ (w.heap.size = bk ∨ Ff w.heap.size)) := fun e => e.elim (fun e => by have := h.wk.lb; omega) (fun e => by have := hf.lt e; omega)
  have HS := kStep_any h.ok W HW.out.wk HFW.out (hne bk (.inr (.inl rfl)))
  have HOK : Hid _ := Pg.kOut_ok hf.ok h.ok root
  have HFT : Hid _ := Pg.res_fits C.K (Pg.kOut S root C.K)
  have c1 := h.c1
  clear h hf hB hne
  simp only [Pg.Cr.stT, Pg.Cr.stN, Pg.Cr.stS, Pg.Wo.tl, Pg.Tl.val]
  generalize Pg.kOut S root C.K = o at *
  generalize o.res C.K = R at *
  generalize o.next C.K = K' at *
  generalize o.fs S C.K = S' at *
  generalize o.cd = cd at *
  obtain ⟨en, ra, rf, rr, ⟨mp, ms, mf, mr⟩, rd⟩ := R
  simp only [Pg.Rs.val] at HS HFT ⊢
  have hnx : ¬ (w.heap.size = bk ∨ Ff w.heap.size) := fun e => HLX.out e
  cases hgo : (en && ra == 0)
  · have eP : Pg.rPut C.L ⟨en, ra, rf, rr, ⟨mp, ms, mf, mr⟩, rd⟩ = C.L := by unfold Pg.rPut; rw [if_neg (by simp only; rw [hgo]; decide)]
    rw [eP]
    clear eP
    go_enter Tryz.func36, Tryz.ntmps36
    go_wp2_with fail
    rw [← hW]
    clear hW
    refine HS.mono ?_
    rintro e w1 ⟨rfl, hk1, Ff1, hf1, hc1, hF1⟩
    have P1 : Hid _ := HW.out.stepS hk1 HOK.out hc1.but HNE.out
    have Q1 : Hid (FrAt w1 bf S' Ff1) := hf1
    have B1 : Hid (But (fun j => crF b bk Ft j ∨ Ff j) w w1) := (But.of_below HB.out).trans hc1.but (fun _ _ h => h.elim (fun e => .inl (.inr (.inl e))) .inr)
    have F1 : Hid (∀ j, Ff1 j → Ff j ∨ w.heap.size < j) := fun j hj => (hF1 j hj).imp id (fun h => by omega)
    have N1 : Hid (∀ j, crF b bk Ft j → ¬ Ff1 j) := fun j hj hf => (hF1 j hf).elim (HNE.out j hj) (fun h => by have := HW.out.lt hj; omega)
    have R1 : w1.heap[w.heap.size]? = some (.cells #[.int .i64 0, .int .i64 0, .int .i64 0] 37 (0, 0)) := (hc1.but.block _ hWs hnx).trans R3.out
    have hr1 : w.heap.size < w1.heap.size := Nat.lt_of_lt_of_le hWs hc1.but.size
    obtain ⟨⟨z0, z1, z2⟩, zf⟩ := row3a R1
    have fin : Hid (∀ Wf, But (fun j => j = w.heap.size) w1 Wf → ∃ F' Ff', CrAt Wf b root ⟨C.L, K'⟩ F' ∧ FrAt Wf bf S' Ff' ∧ But (fun j => crF b bk Ft j ∨ Ff j) w Wf ∧ (∀ j, F' j → crF b bk Ft j ∨ w.heap.size ≤ j) ∧ (∀ j, Ff' j → Ff j ∨ w.heap.size ≤ j) ∧ ∀ j, F' j → ¬ Ff' j) := fun Wf hb =>
      ⟨_, Ff1, ⟨_, _, _, P1.out.keep hb fun k hk e => by have := HLT.out k hk; omega, rfl⟩, Q1.out.keep hb fun k hk e => (F1.out k hk).elim (fun h => hnx (.inr (e ▸ h))) (fun h => by omega), B1.out.trans hb (fun i hi e => by omega), fun j hj => .inl hj, fun j hj => (F1.out j hj).imp id (fun h => by omega), N1.out⟩
    clear hk1 hf1 hc1 hF1 HS HW HFW R1 R3 HB HNE c1 P1 Q1 B1 F1 N1
    have hne1 : w.heap.size ≠ w1.heap.size := by omega
    cases en
    · go_wp2_with fail
      go_region
      go_wp2_with fail
      refine bodyPost_ret (v := .tuple #[.agg #[.int .i64 ra, .int .i64 rf, .int .i64 rr], .bool false, .int .i64 cd]) ?_ rfl ⟨rfl, fin.out _ (((but_set3a (But.refl (fun j => j = w.heap.size) w1) _ (.inr rfl) _ _ _).alloc _).drew)⟩
      simp [results, Tryz.results36, go_sem, z0, z1, z2, hr1]
    · simp only [Bool.true_and] at hgo
      go_wp2_with fail
      go_region
      go_wp2_with fail
      refine bodyPost_ret (v := .tuple #[.agg #[.int .i64 ra, .int .i64 rf, .int .i64 rr], .bool true, .int .i64 cd]) ?_ rfl ⟨rfl, fin.out _ (((but_set3a (But.refl (fun j => j = w.heap.size) w1) _ (.inr rfl) _ _ _).alloc _).drew)⟩
      simp [results, Tryz.results36, go_sem, z0, z1, z2, hr1]
  · have eP : Pg.rPut C.L ⟨en, ra, rf, rr, ⟨mp, ms, mf, mr⟩, rd⟩ = Pg.kPut C.L ⟨⟨mp, ms, mf, mr⟩, rd⟩ := by unfold Pg.rPut; rw [if_pos hgo]
    rw [eP]
    simp only [Bool.and_eq_true, beq_iff_eq] at hgo
    obtain ⟨hen, hra⟩ := hgo
    subst hen hra
    have HP := fun w' (ht : TbAt w' bt 0 C.L Ft) => tbPut_any ⟨⟨mp, ms, mf, mr⟩, rd⟩ HFT.out w' ht
    simp only [Pg.Ln.val] at HP
    generalize Pg.kPut C.L ⟨⟨mp, ms, mf, mr⟩, rd⟩ = L' at *
    clear eP
    go_enter Tryz.func36, Tryz.ntmps36
    go_wp2_with fail
    rw [← hW]
    clear hW
    refine HS.mono ?_
    rintro e w1 ⟨rfl, hk1, Ff1, hf1, hc1, hF1⟩
    obtain ⟨W2, hW2⟩ : ∃ W2, W2 = w1.alloc (.cells #[.bool true, .int .i64 0, .int .i64 rf, .int .i64 rr, .int .i64 mp, .int .i64 ms, .int .i64 mf, .int .i64 mr, .bool rd] 129) := ⟨_, rfl⟩
    have hb2 : Below w1.heap.size w1 W2 := by rw [hW2]; exact balloc (brefl _) _
    have hsz2 : w1.heap.size < W2.heap.size := by rw [hW2]; simp
    have X2 : Hid (W2.heap[w1.heap.size]? = some (.cells #[.bool true, .int .i64 0, .int .i64 rf, .int .i64 rr, .int .i64 mp, .int .i64 ms, .int .i64 mf, .int .i64 mr, .bool rd] 129 (0, 0))) := by rw [Hid, hW2]; exact heap_alloc_new _ _
    have P1 : Hid _ := (HW.out.stepS hk1 HOK.out hc1.but HNE.out).grow hb2
    have Q1 : Hid (FrAt W2 bf S' Ff1) := hf1.keep (G := fun _ => False) (But.of_below hb2) (fun _ _ => id)
    have B1 : Hid (But (fun j => crF b bk Ft j ∨ Ff j) w W2) := ((But.of_below HB.out).trans hc1.but (fun _ _ h => h.elim (fun e => .inl (.inr (.inl e))) .inr)).trans (But.of_below (F := fun _ => False) hb2) (fun _ _ h => h.elim)
    have F1 : Hid (∀ j, Ff1 j → Ff j ∨ w.heap.size < j) := fun j hj => (hF1 j hj).imp id (fun h => by omega)
    have N1 : Hid (∀ j, crF b bk Ft j → ¬ Ff1 j) := fun j hj hf => (hF1 j hf).elim (HNE.out j hj) (fun h => by have := HW.out.lt hj; omega)
    have hs1 : W.heap.size ≤ w1.heap.size := hc1.but.size
    have L1 : Hid (∀ j, Ff1 j → j < w1.heap.size) := fun j hj => hf1.lt hj
    have R1 : Hid (W2.heap[w.heap.size]? = some (.cells #[.int .i64 0, .int .i64 0, .int .i64 0] 37 (0, 0))) := (hb2.block _ (by omega)).trans ((hc1.but.block _ hWs hnx).trans R3.out)
    have hr1 : w.heap.size < w1.heap.size := by omega
    clear hk1 hf1 hc1 hF1 HS HW HFW R3 HB HNE c1 hb2
    go_wp2_with fail
    rw [← hW2]
    clear hW2
    obtain ⟨⟨x0, x1, x2, x3, x4, x5, x6, x7, x8⟩, xf⟩ := row9 X2.out
    have g0 := cell_regrown P1.out.c0
    have g4 := cell_regrown x4
    have g5 := cell_regrown x5
    have g6 := cell_regrown x6
    have g7 := cell_regrown x7
    have g8 := cell_regrown x8
    clear x0 x1 x2 x3 x4 x5 x6 x7 x8 xf
    refine Loose.wp_region_late 6 (by kernel_rfl) (by kernel_rfl) ?_
    simp only [List.take_succ_cons, List.take_zero, List.drop_succ_cons, List.drop_zero]
    repeat (
      refine Loose.wpGent_step (fun k hk => ?_)
      go_simp
      (refine hk _ ?_; clear hk k))
    refine Loose.wpGent_nil ?_
    intro w3 hb3
    have P3 : Hid _ := P1.out.grow hb3
    have Q3 : Hid (FrAt w3 bf S' Ff1) := Q1.out.keep (G := fun _ => False) (But.of_below hb3) (fun _ _ => id)
    have B3 : Hid (But (fun j => crF b bk Ft j ∨ Ff j) w w3) := B1.out.trans (But.of_below (F := fun _ => False) hb3) (fun _ _ h => h.elim)
    have X3 : Hid (w3.heap[w1.heap.size]? = _) := (hb3.block _ hsz2).trans X2.out
    have R3 : Hid (w3.heap[w.heap.size]? = _) := (hb3.block _ (by omega)).trans R1.out
    have hs3 := hb3.size
    clear hb3 g0 g4 g5 g6 g7 g8 P1 Q1 B1 X2 R1
    go_wp2_with fail
    refine (HP _ P3.out.tb).mono ?_
    rintro e w4 ⟨rfl, Ft', ht, hc, hF⟩
    have P4 : Hid _ := P3.out.stepT ht hc.but hF
    have Q4 : Hid (FrAt w4 bf S' Ff1) := Q3.out.keep hc.but (fun k hk hf => N1.out k (.inr (.inr hf)) hk)
    have B4 : Hid (But (fun j => crF b bk Ft j ∨ Ff j) w w4) := B3.out.trans hc.but (fun _ _ h => .inl (.inr (.inr h)))
    have F4 : Hid (∀ k, crF b bk Ft' k → crF b bk Ft k ∨ w1.heap.size < k) := fun k hk => by
      rcases hk with hk | hk | hk
      · exact .inl (.inl hk)
      · exact .inl (.inr (.inl hk))
      · exact (hF k hk).imp (fun h => .inr (.inr h)) (fun h => by omega)
    have n1 : ¬ Ft w1.heap.size := fun hf => by have := HLT.out _ (.inr (.inr hf)); omega
    have n2 : ¬ Ft w.heap.size := fun hf => by have := HLT.out _ (.inr (.inr hf)); omega
    obtain ⟨⟨z0, z1, z2⟩, zf⟩ := row3a ((hc.but.block _ (by omega) n2).trans R3.out)
    obtain ⟨⟨x0, x1, x2, x3, x4, x5, x6, x7, x8⟩, xf⟩ := row9 ((hc.but.block _ (by omega) n1).trans X3.out)
    have hr4 : w.heap.size < w4.heap.size := by have := hc.but.size; omega
    have hx4 : w1.heap.size < w4.heap.size := by have := hc.but.size; omega
    have fin : Hid (∀ Wf, But (fun j => j = w.heap.size) w4 Wf → ∃ F' Ff', CrAt Wf b root ⟨L', K'⟩ F' ∧ FrAt Wf bf S' Ff' ∧ But (fun j => crF b bk Ft j ∨ Ff j) w Wf ∧ (∀ j, F' j → crF b bk Ft j ∨ w.heap.size ≤ j) ∧ (∀ j, Ff' j → Ff j ∨ w.heap.size ≤ j) ∧ ∀ j, F' j → ¬ Ff' j) := fun Wf hb =>
      ⟨_, Ff1, ⟨_, _, _, P4.out.keep hb fun k hk e => (F4.out k hk).elim (fun h => by have := HLT.out k h; omega) (fun h => by omega), rfl⟩, Q4.out.keep hb fun k hk e => (F1.out k hk).elim (fun h => hnx (.inr (e ▸ h))) (fun h => by omega), B4.out.trans hb (fun i hi e => by omega), fun j hj => (F4.out j hj).imp id (fun h => by omega), fun j hj => (F1.out j hj).imp id (fun h => by omega), fun j hj hf => (F4.out j hj).elim (fun h => N1.out j h hf) (fun h => by have := L1.out j hf; omega)⟩
    clear ht hc hF P3 Q3 B3 X3 R3 P4 Q4 B4 F1 N1 L1 F4 HP n1 n2
    have hne1 : w.heap.size ≠ w1.heap.size := by omega
    go_wp2_with fail
    go_region
    go_wp2_with fail
    refine bodyPost_ret (v := .tuple #[.agg #[.int .i64 0, .int .i64 rf, .int .i64 rr], .bool true, .int .i64 cd]) ?_ rfl ⟨rfl, fin.out _ ((but_set3a (But.refl (fun j => j = w.heap.size) w4) _ (.inr rfl) _ _ _).drew)⟩
    simp [results, Tryz.results36, go_sem, z0, z1, z2, hr4]
end
end Go.Proofs.YtiojflaehjbcbafGreat
