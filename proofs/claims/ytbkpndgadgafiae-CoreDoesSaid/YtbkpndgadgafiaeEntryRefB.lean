/-
  The document's own answer on words is a plain function.
-/
import Derived.Test.YtbkpndgadgafiaeEntryRef
import Derived.Test.YtbkpndgadgafiaeLooseT
namespace Go.Proofs.Ytbkpndgadgafiae
open Go.RowKit Go.Sort
set_option linter.unusedVariables false
attribute [local go_sem] Loose.gent

theorem on_any0 (W : Int) (h0 : 0 ≤ W) (h1 : W < 18446744073709551616) (k : Nat) (hk : k < 64) (b : Nat) (w : World) (hc : w.cell? ⟨b, 0, none⟩ = some (.int .u64 W)) :
    Calls Try.prog 65 #[.int .u64 (k : Int), .pointer (some ⟨b, 0, none⟩)] w fun e w' => e = .returned (.bool (Pg.bit W k)) ∧ w' = w := by
  have hq : 0 ≤ W / 2 ^ k := Int.ediv_nonneg h0 (Int.pow_nonneg (by decide))
  have HQ : Hid (((W / 2 ^ k).tmod 2 == 1) = Pg.bit W k) := by
    show ((W / 2 ^ k).tmod 2 == 1) = decide (W / 2 ^ k % 2 = 1)
    rw [Int.tmod_eq_emod_of_nonneg hq, Bool.eq_iff_iff]
    simp
  clear hq
  go_enter Try.func65, Try.ntmps65
  go_wp2_with fail
  go_ret
  exact ⟨ret_bool HQ.out, rfl⟩

theorem on_any (W : Int) (h0 : 0 ≤ W) (h1 : W < 18446744073709551616) (k : Int) (n : Nat) (hn : k.toNat = n) (k0 : 0 ≤ k) (k1 : k < 64) (b : Nat) (w : World) (hc : w.cell? ⟨b, 0, none⟩ = some (.int .u64 W)) :
    Calls Try.prog 65 #[.int .u64 k, .pointer (some ⟨b, 0, none⟩)] w fun e w' => e = .returned (.bool (Pg.bit W n)) ∧ w' = w := by
  obtain ⟨m, rfl⟩ := Int.eq_ofNat_of_zero_le k0
  rw [Int.toNat_natCast] at hn
  subst hn
  exact on_any0 W h0 h1 _ (by omega) b w hc

set_option maxHeartbeats 8000000 in
theorem entryOf_any (W lv : Int) (h0 : 0 ≤ W) (h1 : W < 18446744073709551616) (w : World) :
    Calls Try.prog 40 #[.int .u64 W, .int .i64 lv] w fun e w' => e = .returned (Pg.decV W lv) ∧ Below w.heap.size w w' := by
  by_cases hl : lv < 0 ∨ 3 < lv
  · have HC : Hid (Pg.dCode W lv = 1) := by simp [Hid, Pg.dCode, hl]
    have HV : Hid _ := Pg.decV_bad HC.out (by simp [Pg.dGood, HC.out])
    rcases hl with h | h
    all_goals
      go_enter Try.func40, Try.ntmps40
      go_wp2_with fail
      refine bodyPost_ret (v := .tuple #[.agg #[.bool false, .bool false, .int .i64 0, .bool false, .bool false, .int .i64 0], .int .i64 1]) ?_ rfl ⟨by rw [HV.out], ?_⟩
      · simp [results, Try.results40, go_sem]
      · exact balloc (balloc (brefl _) _) _
  · have l0 : 0 ≤ lv := by omega
    have l3 : lv ≤ 3 := by omega
    have HL : Hid (¬ (lv < 0 ∨ 3 < lv)) := hl
    clear hl
    go_enter Try.func40, Try.ntmps40
    go_wp2_with fail
    go_loop [7] (fun i => ∃ k : Nat, k ≤ 64 ∧ i = .int .u64 k ∧ Hid (∀ j, j < k → Pg.bitBad W lv j = false)) (fun i => (64 - intOf i).toNat)
    case atStart => exact ⟨0, by omega, rfl, fun j hj => absurd hj (by omega)⟩
    case round =>
      obtain ⟨k, hk, rfl, HB⟩ := hrel
      by_cases hlt : k < 64
      · have HN : Hid (Pg.bitBad W lv k = false → Hid (∀ j, j < k + 1 → Pg.bitBad W lv j = false)) := by
          intro hb j hj
          by_cases e : j = k
          · rw [e]; exact hb
          · exact HB.out j (by omega)
        have HV : Hid (Pg.bitBad W lv k = true → Pg.decV W lv = .tuple #[.agg #[.bool false, .bool false, .int .i64 0, .bool false, .bool false, .int .i64 0], .int .i64 7]) := by
          intro hb
          have := Pg.bits_of_good h0 hlt hb
          have hl := HL.out
          have hc : Pg.dCode W lv = 7 := by simp [Pg.dCode, hl, this]
          exact Pg.decV_bad hc (by simp [Pg.dGood, hc])
        clear HB
        rcases Pg.kint k with ⟨d3, dk⟩ | ⟨d3, d5, d12, dk⟩ | ⟨d3, d5, d7, dk⟩ | ⟨d3, d5, d7, d12, dk⟩ | ⟨d3, d5, d7, d12, d31, dk⟩ | ⟨d3, d5, d7, d12, d31, dk⟩
        all_goals
          cases hbk : Pg.bit W k
          all_goals
            go_wp2_with (first
              | (go_at_call 65; refine (on_any W h0 h1 _ k ?_ ?_ ?_ _ _ ?_).mono ?_; (exact Int.toNat_natCast _); (omega); (omega); (go_simp); rintro e w' ⟨rfl, rfl⟩)
              | (go_at_call 65; refine (on_any W h0 h1 _ 0 ?_ ?_ ?_ _ _ ?_).mono ?_; (exact rfl); (omega); (omega); (go_simp); rintro e w' ⟨rfl, rfl⟩))
            all_goals first
              | (go_round
                 case rel =>
                   refine ⟨k + 1, by omega, ?_, HN.out ?_⟩
                   · first | go_num | (congr 1; omega)
                   · first | exact Pg.bitBad_off hbk | exact Pg.bitBad_ok dk ‹Pg.bit W 0 = true› (.inl ‹_›) | exact Pg.bitBad_ok dk ‹Pg.bit W 0 = true› (.inr (of_decide_eq_false ‹(lv == 0) = false›))
                 case measure => simp [intOf] <;> omega)
              | (have hbad : Pg.bitBad W lv k = true := by
                   first | exact Pg.bitBad_unknown hbk dk | exact Pg.bitBad_zero hbk ‹Pg.bit W 0 = false› | exact Pg.bitBad_seven hbk ‹(k : Int) = 7› (of_decide_eq_true ‹(lv == 0) = true›)
                 refine bodyPost_ret (v := .tuple #[.agg #[.bool false, .bool false, .int .i64 0, .bool false, .bool false, .int .i64 0], .int .i64 7]) ?_ rfl ⟨by rw [HV.out hbad], ?_⟩
                 · simp [results, Try.results40, go_sem]
                 · exact balloc (balloc (brefl _) _) _)
      · have hk64 : k = 64 := by omega
        subst hk64
        have hG := Pg.good_of_bits h0 h1 HB.out
        have HG : Hid _ := hG
        clear HB hlt hk hG
        by_cases hz : W = 0
        · have HC : Hid (Pg.dCode W lv = 0) := by
            have hl := HL.out
            simp [Hid, Pg.dCode, hl, hz, Pg.wBad]
          have HV : Hid _ := Pg.decV_bad HC.out (by simp [Pg.dGood, hz])
          have hz' : (W == 0) = true := by simpa using hz
          clear hz
          go_wp2_with fail
          refine bodyPost_ret (v := .tuple #[.agg #[.bool false, .bool false, .int .i64 0, .bool false, .bool false, .int .i64 0], .int .i64 0]) ?_ rfl ⟨by rw [HV.out], ?_⟩
          · simp [results, Try.results40, go_sem]
          · exact balloc (balloc (brefl _) _) _
        · have hz' : (W == 0) = false := by simpa using hz
          have HC : Hid (Pg.dCode W lv = Pg.eFault true (Pg.dLeaf W lv) (W / 2 % 8) (Pg.dUsed W) (Pg.dDirty W) (W / 4096) lv) := by
            have hl := HL.out
            simp [Hid, Pg.dCode, hl, HG.out, hz]
          have HZ : Hid (W ≠ 0) := hz
          clear hz
          obtain ⟨L, hL, hdl⟩ : ∃ L, Hid (Pg.dLeaf W lv = L) ∧ ((lv == 0) = true ∧ true = L ∨ (lv == 0) = false ∧ Pg.bit W 7 = L) := by
            by_cases hl0 : lv = 0
            · exact ⟨true, by simp [Hid, hl0, Pg.dLeaf], .inl ⟨by simpa using hl0, rfl⟩⟩
            · refine ⟨_, rfl, .inr ⟨by simpa using hl0, ?_⟩⟩
              simp only [Pg.dLeaf, hl0, decide_false, Bool.false_or]
              rfl
          have HC2 : Hid (Pg.dCode W lv = Pg.eFault true L (W / 2 % 8) (Pg.dUsed W) (Pg.dDirty W) (W / 4096) lv) := by
            have := HC.out
            rw [hL.out] at this
            exact this
          have HV0 : Hid (Pg.eFault true L (W / 2 % 8) (Pg.dUsed W) (Pg.dDirty W) (W / 4096) lv = 0 → Pg.decV W lv = .tuple #[.agg #[.bool true, .bool L, .int .i64 (W / 2 % 8), .bool (Pg.dUsed W), .bool (Pg.dDirty W), .int .i64 (W / 4096)], .int .i64 0]) := by
            intro hz
            have := Pg.decV_good (HC2.out.trans hz) HZ.out
            rw [hL.out] at this
            exact this
          have HV1 : Hid (Pg.eFault true L (W / 2 % 8) (Pg.dUsed W) (Pg.dDirty W) (W / 4096) lv ≠ 0 → Pg.decV W lv = .tuple #[.agg #[.bool false, .bool false, .int .i64 0, .bool false, .bool false, .int .i64 0], .int .i64 (Pg.eFault true L (W / 2 % 8) (Pg.dUsed W) (Pg.dDirty W) (W / 4096) lv)]) := by
            intro hz
            exact Pg.decV_bad HC2.out (by simp [Pg.dGood, HC2.out, hz])
          clear HC HC2 hL HG
          have b5 : Pg.bit W 5 = Pg.dUsed W := rfl
          have b6 : Pg.bit W 6 = Pg.dDirty W := rfl
          go_wp2_with fail
          have c0 : ∀ d os, (grow (redrawn ((w.alloc (Obj.cells #[Value.int IntKind.u64 W] 35)).alloc (Obj.cells #[Value.bool false, Value.bool false, Value.int IntKind.i64 0, Value.bool false, Value.bool false, Value.int IntKind.i64 0] 93)) d) os).cell? ⟨w.heap.size, 0, none⟩ = some (.int .u64 W) :=
            cell_regrown (by simp [go_sem])
          rcases hdl with ⟨q0, rfl⟩ | ⟨q0, q1⟩
          all_goals
            refine Loose.wp_region_alloc 18 9 (.cells #[.bool false, .bool false, .int .i64 0, .bool false, .bool false, .int .i64 0] 93) _ (by kernel_rfl) (by kernel_rfl) rfl rfl rfl (by intro a w; simp [go_sem]) ?_
            simp only [List.take_succ_cons, List.take_zero, List.drop_succ_cons, List.drop_zero]
            repeat (
              refine Loose.wpGent_step (fun k hk => ?_)
              go_simp
              first
                | (refine hk _ ?_; clear hk k)
                | (apply Exists.intro
                   refine ⟨fun _ => ?_, hk _ ?_⟩
                   (first
                     | (go_at_call 65; refine Loose.calls_same (on_any W h0 h1 _ 7 ?_ ?_ ?_ _ _ ?_); (exact rfl); (omega); (omega); (go_simp))
                     | (go_at_call 65; refine Loose.calls_same (on_any W h0 h1 _ 5 ?_ ?_ ?_ _ _ ?_); (exact rfl); (omega); (omega); (go_simp))
                     | (go_at_call 65; refine Loose.calls_same (on_any W h0 h1 _ 6 ?_ ?_ ?_ _ _ ?_); (exact rfl); (omega); (omega); (go_simp)))
                   clear hk k))
            refine Loose.wpGent_nil ?_
            intro b w' hb' hbl hX
            have cb : w'.cell? ⟨b, 0, none⟩ = some (.bool false) ∧ w'.cell? ⟨b, 1, none⟩ = some (.bool false) ∧ w'.cell? ⟨b, 2, none⟩ = some (.int .i64 0) ∧ w'.cell? ⟨b, 3, none⟩ = some (.bool false) ∧ w'.cell? ⟨b, 4, none⟩ = some (.bool false) ∧ w'.cell? ⟨b, 5, none⟩ = some (.int .i64 0) := by
              simp [World.cell?, hX]
            have fb : ∀ i, w'.frozen? ⟨b, i, none⟩ = false := fun i => by simp [World.frozen?, hX]
            have hB : Below w.heap.size w w' := bthen (balloc (balloc (brefl _) _) _) hb'
            have hbl' : w.heap.size + 2 ≤ b := by simpa using hbl
            have hcr : w'.cell? ⟨w.heap.size + 1, 0, none⟩ = some (.bool false) ∧ w'.cell? ⟨w.heap.size + 1, 1, none⟩ = some (.bool false) ∧ w'.cell? ⟨w.heap.size + 1, 2, none⟩ = some (.int .i64 0) ∧ w'.cell? ⟨w.heap.size + 1, 3, none⟩ = some (.bool false) ∧ w'.cell? ⟨w.heap.size + 1, 4, none⟩ = some (.bool false) ∧ w'.cell? ⟨w.heap.size + 1, 5, none⟩ = some (.int .i64 0) :=
              ⟨cell_later hb' (by simp [go_sem]), cell_later hb' (by simp [go_sem]), cell_later hb' (by simp [go_sem]), cell_later hb' (by simp [go_sem]), cell_later hb' (by simp [go_sem]), cell_later hb' (by simp [go_sem])⟩
            have hfr : ∀ i, w'.frozen? ⟨w.heap.size + 1, i, none⟩ = false := fun i => by
              rw [hb'.frozen (by simp)]; simp [go_sem]
            clear hX hbl hb' c0
            go_wp2_with fail
            first
              | (have st := stored6 (v0 := .bool true) (v1 := .bool L) (v2 := .int .i64 (W / 2 % 8)) (v3 := .bool (Pg.dUsed W)) (v4 := .bool (Pg.dDirty W)) (v5 := .int .i64 (W / 4096)) hB (by omega) cb)
              | (have st := stored6 (v0 := .bool true) (v1 := .bool true) (v2 := .int .i64 (W / 2 % 8)) (v3 := .bool (Pg.dUsed W)) (v4 := .bool (Pg.dDirty W)) (v5 := .int .i64 (W / 4096)) hB (by omega) cb)
            refine (entryFault_any _ _ _ _ _ _ _ _).mono ?_
            rintro e w3 ⟨rfl, hb3⟩
            obtain ⟨hB2, cb2, ho2, hf2⟩ := st
            have hcr2 : w3.cell? ⟨w.heap.size + 1, 0, none⟩ = some (.bool false) ∧ w3.cell? ⟨w.heap.size + 1, 1, none⟩ = some (.bool false) ∧ w3.cell? ⟨w.heap.size + 1, 2, none⟩ = some (.int .i64 0) ∧ w3.cell? ⟨w.heap.size + 1, 3, none⟩ = some (.bool false) ∧ w3.cell? ⟨w.heap.size + 1, 4, none⟩ = some (.bool false) ∧ w3.cell? ⟨w.heap.size + 1, 5, none⟩ = some (.int .i64 0) :=
              later6 hb3 ⟨ho2 _ _ _ (by omega) hcr.1, ho2 _ _ _ (by omega) hcr.2.1, ho2 _ _ _ (by omega) hcr.2.2.1, ho2 _ _ _ (by omega) hcr.2.2.2.1, ho2 _ _ _ (by omega) hcr.2.2.2.2.1, ho2 _ _ _ (by omega) hcr.2.2.2.2.2⟩
            have hlt := World.block_lt_of_cell? _ _ (ho2 _ _ _ (by omega) hcr.1)
            have hfr2 : ∀ i, w3.frozen? ⟨w.heap.size + 1, i, none⟩ = false := fun i => by rw [hb3.frozen (p := ⟨w.heap.size + 1, i, none⟩) hlt, hf2]; exact hfr i
            have cb3 := later6 hb3 cb2
            have hB3 := bthen hB2 hb3
            clear hb3 hB2 cb2 ho2 hf2 hcr hfr hB cb fb hlt
            generalize hcv : Pg.eFault true _ (W / 2 % 8) (Pg.dUsed W) (Pg.dDirty W) (W / 4096) lv = c at *
            clear hcv
            by_cases hz : c = 0
            · have hn : (c != 0) = false := by simp [hz]
              have HV := HV0.out hz
              have HV' : Hid _ := HV
              have HZ0 : Hid (c = 0) := hz
              clear HV hz
              go_wp2_with fail
              refine bodyPost_ret ?_ rfl ⟨by rw [HV'.out], ?_⟩
              · simp [results, Try.results40, go_sem, hcr2]
              · exact (((((hB3.setCell (by simp) _).setCell (by simp) _).setCell (by simp) _).setCell (by simp) _).setCell (by simp) _).setCell (by simp) _
            · have hn : (c != 0) = true := by simp [hz]
              have HV := HV1.out hz
              have HV' : Hid _ := HV
              clear HV hz
              go_wp2_with fail
              refine bodyPost_ret ?_ rfl ⟨by rw [HV'.out], ?_⟩
              · simp [results, Try.results40, go_sem, hcr2]
              · exact (((((hB3.setCell (by simp) _).setCell (by simp) _).setCell (by simp) _).setCell (by simp) _).setCell (by simp) _).setCell (by simp) _
end Go.Proofs.Ytbkpndgadgafiae
