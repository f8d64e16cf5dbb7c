
/-
  The developers' changes of tables: is a table empty?
-/
import Derived.Test.YtiojflaehjbcbafGreatTabC
namespace Go.Proofs.YtiojflaehjbcbafGreat
open Go.RowKit Go.Sort
set_option linter.unusedVariables false
set_option linter.unusedSimpArgs false
set_option maxRecDepth 100000

theorem emptyT_at {S : Pg.Fs} {t : Int} (ht : S.has t = true) : (Pg.emptyT S t = true ↔ ∀ j : Nat, j < 8 → S.load t (j : Int) = 0) := by
  unfold Pg.emptyT
  simp only [List.all_eq_true, List.mem_range, beq_iff_eq]
  refine forall_congr' fun j => forall_congr' fun hj => ?_
  have : S.at' t (j : Int) = true := by simp [Pg.Fs.at', ht]; omega
  simp [Pg.Fs.load, this]

set_option maxHeartbeats 1000000 in
theorem isTableEmpty_any {w0 w : World} {k b : Nat} {F0 : Nat → Prop} {S : Pg.Fs} {lv : Int} {e : Pg.En} {ts ps : List Int} {p t : Int} (h : St w0 w k b F0 S lv e (ts ++ [t]) ps p) (hl : ts.length < 4000) (ht : S.has t = true) :
    Calls Tryz.prog 50 #[.pointer (some ⟨k, 0, none⟩)] w fun en w' => en = .returned (.bool (Pg.emptyT S t)) ∧ Below w.heap.size w w' := by
  have HS : Hid _ := h
  have HE : Hid _ := emptyT_at ht
  have hlen : (ts ++ [t]).length = ts.length + 1 := by simp
  clear h ht
  generalize Pg.emptyT S t = em at *
  go_enter Tryz.func50, Tryz.ntmps50
  go_wp2_with fail
  go_loopw [6] (fun i wr => ∃ j : Nat, j ≤ 8 ∧ i = .int .i64 j ∧ Hid (Below w.heap.size w wr ∧ ∀ m : Nat, m < j → S.load t (m : Int) = 0)) (fun i _ => 8 - (intOf i).toNat)
  case atStart => exact ⟨0, by omega, rfl, brefl _, fun m hm => by omega⟩
  case round =>
    obtain ⟨j, hj, rfl, HR⟩ := hrel
    have i0 : (0 : Int) ≤ (j : Int) := by omega
    have hS := HS.out.grow HR.out.1
    obtain ⟨B, v1, v2, F, hM, hF, hB, h1, h2, hBB, hm⟩ := hS.body
    obtain ⟨g1, cap1, rfl, hc, _⟩ := own_last hM.o1
    have k0 := hM.c0
    have k8 := hM.c8
    have HEnd := fun m => end_any (hS.grow (below_drewN (brefl wr) m)) (by rw [hlen]; omega)
    have e1 : (((ts ++ [t]).length : Nat) : Int) - 1 = (ts.length : Int) := by rw [hlen]; omega
    rw [e1] at HEnd
    have HLo := fun m => frLoad_same t (j : Int) (wr.drewN m) (hF.keep (G := fun _ => False) (But.of_below (below_drewN (brefl wr) m)) fun _ _ => id)
    clear hM hB h1 h2 hS hF e1 hBB hm
    have i2 : (0 : Int) ≤ (ts.length : Int) := by omega
    have i3 : (ts.length : Int) < (ts.length : Int) + 1 := by omega
    have HX : Hid (S.load t (j : Int) = 0 → ∀ m : Nat, m < j + 1 → S.load t (m : Int) = 0) := fun hz m hm => by
      by_cases e : m = j
      · rw [e]; exact hz
      · exact HR.out.2 m (by omega)
    by_cases hlt : j < 8
    · have i1 : (j : Int) < 8 := by omega
      have HJ : Hid _ := hlt
      have fin : Hid (∀ nq, Below w.heap.size w (wr.drewN nq)) := fun nq => bthen HR.out.1 (below_drewN (brefl _) nq)
      generalize hx : S.load t (j : Int) = x at *
      have HXX : Hid _ := hx
      clear hx
      generalize S.at' t (j : Int) = at' at *
      generalize ts.length = n at *
      by_cases hz : x = 0
      · have HZ : Hid _ := HX.out hz
        have hzb : (x != 0) = false := by simp [hz]
        clear hz HX
        go_wp2_with fail
        go_quiet (first
          | (go_at_call 73; exact Calls.quiet_of_same (HEnd _))
          | (go_at_call 74; exact Calls.quiet_of_same (HLo _)))
        go_wp2_with fail
        exact ⟨⟨j + 1, by omega, by go_num, fin.out _, HZ.out⟩, by simp [intOf]; omega⟩
      · have HZ : Hid _ := hz
        have hzb : (x != 0) = true := by simp [hz]
        clear hz HX
        go_wp2_with fail
        go_quiet (first
          | (go_at_call 73; exact Calls.quiet_of_same (HEnd _))
          | (go_at_call 74; exact Calls.quiet_of_same (HLo _)))
        go_wp2_with fail
        go_ret
        refine ⟨ret_bool ?_, fin.out _⟩
        cases em
        · rfl
        · exact absurd (HXX.out ▸ (HE.out.1 rfl j HJ.out)) HZ.out
    · have i1 : ¬ (j : Int) < 8 := by omega
      have e8 : j = 8 := by omega
      subst e8
      clear HEnd HLo k0 k8
      go_wp2_with fail
      go_ret
      exact ⟨ret_bool (HE.out.2 fun m hm => HR.out.2 m hm).symm, HR.out.1⟩
end Go.Proofs.YtiojflaehjbcbafGreat
