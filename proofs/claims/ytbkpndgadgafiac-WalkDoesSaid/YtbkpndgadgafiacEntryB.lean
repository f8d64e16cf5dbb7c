
/-
  Check and Map of package entry return what plain functions of their arguments say, and leave all memory that was there as it was.
-/
import Derived.Test.YtbkpndgadgafiacEntryStand
namespace Go.Proofs.Ytbkpndgadgafiac
open Go.RowKit Go.Sort
set_option linter.unusedVariables false

theorem checkLook_any (t l : Bool) (r : Int) (u d : Bool) (f lv : Int) (a b : Nat) (w : World)
    (ha : w.cell? ⟨a, 0, none⟩ = some (.bool t) ∧ w.cell? ⟨a, 1, none⟩ = some (.bool l) ∧ w.cell? ⟨a, 2, none⟩ = some (.int .i64 r) ∧ w.cell? ⟨a, 3, none⟩ = some (.bool u) ∧ w.cell? ⟨a, 4, none⟩ = some (.bool d) ∧ w.cell? ⟨a, 5, none⟩ = some (.int .i64 f))
    (hb : w.cell? ⟨b, 0, none⟩ = some (.int .i64 lv)) :
    Calls Try.prog 110 #[.pointer (some ⟨a, 0, none⟩), .pointer (some ⟨b, 0, none⟩)] w fun e w' => e = give (Pg.eFault t l r u d f lv) ∧ Below w.heap.size w w' := by
  obtain ⟨a0, a1, a2, a3, a4, a5⟩ := ha
  go_enter Try.func110, Try.ntmps110
  go_wp2_with fail
  refine (mustStand_any _ _ _ _ _ _ _ _).mono ?_
  rintro e w1 ⟨rfl, hb1⟩
  by_cases h0 : Pg.eFault t l r u d f lv = 0
  · rw [h0, give_zero]
    go_wp2_with fail
    go_end0
    exact ⟨by rw [h0, give_zero], hb1⟩
  · rw [give_code h0]
    go_wp2_with fail
    exact ⟨rfl, (give_code h0).symm, hb1⟩

theorem eCheck_any (t l : Bool) (r : Int) (u d : Bool) (f lv : Int) (w : World) :
    Calls Try.prog 99 #[.agg #[.bool t, .bool l, .int .i64 r, .bool u, .bool d, .int .i64 f], .int .i64 lv] w fun e w' => e = .returned (.int .i64 (Pg.eFault t l r u d f lv)) ∧ Below w.heap.size w w' := by
  have hmf : ∀ (fn : Fn) (first cap : Array Value) (w : World), (Instr.makeFunc fn first cap).run Try.prog w = .ok (.func fn first cap) w := fun _ _ _ _ => rfl
  go_enter Try.func99, Try.ntmps99
  go_wp2_with fail
  refine (caught_any 110 _ (Pg.eFault t l r u d f lv) (fun w' => Below w.heap.size w w') _ ?_ ?_).mono ?_
  · intro w
    simp [go_sem]
  · refine (checkLook_any t l r u d f lv w.heap.size (w.heap.size + 1) _ ?_ ?_).mono ?_
    · simp [go_sem]
    · simp [go_sem]
    · rintro e w1 ⟨rfl, hb1⟩
      obtain ⟨k1, k2⟩ := bcell hb1
      refine ⟨rfl, ?_, ?_, ?_⟩
      · exact bthen (balloc (balloc (balloc (brefl w) _) _) _) hb1
      · rw [k1 _ _ (by simp)]
        simp [go_sem]
      · rw [k2 _ _ (by simp)]
        simp [go_sem]
  · rintro e w2 ⟨rfl, w1, hb1, hb2⟩
    have HB : Hid (Below w.heap.size w w2) := hb1.trans (hb2.mono (by simp; omega))
    clear hb1 hb2
    go_wp2_with fail
    go_ret
    exact ⟨rfl, HB.out⟩

theorem eMap_any (t l : Bool) (r : Int) (u d : Bool) (f lv q : Int) (w : World) :
    Calls Try.prog 85 #[.agg #[.bool t, .bool l, .int .i64 r, .bool u, .bool d, .int .i64 f], .int .i64 lv, .int .i64 q] w fun e w' => e = .returned (Pg.mapV t l r u d f lv q) ∧ Below w.heap.size w w' := by
  by_cases h0 : Pg.eFault t l r u d f lv = 0
  · have e0 : (Pg.eFault t l r u d f lv != 0) = false := by simp [h0]
    have H0 : Hid _ := h0
    cases l
    · have HV : Hid _ := Pg.mapV_no (at' := q) (by simp [Pg.lOk, h0] : Pg.lOk t false r u d f lv q = false)
      clear h0
      go_enter Try.func85, Try.ntmps85
      go_wp2_with fail
      refine (eCheck_any _ _ _ _ _ _ _ _).mono ?_
      rintro e w1 ⟨rfl, hb1⟩
      obtain ⟨hc1, hf1⟩ := bcell hb1
      go_wp2_with fail
      refine bodyPost_ret (v := .agg #[.int .i64 0, .int .i64 0, .int .i64 0, .int .i64 0]) ?_ rfl ⟨by rw [HV.out], ?_⟩
      · simp [results, Try.results85, go_sem, hc1]
      · exact ((((bthen (balloc (balloc (brefl _) _) _) hb1).setCell (by simp) _).setCell (by simp) _).setCell (by simp) _).setCell (by simp) _
    · cases hq : Pg.below q 4096
      · have HV : Hid _ := Pg.mapV_no (at' := q) (by simp [Pg.lOk, hq] : Pg.lOk t true r u d f lv q = false)
        clear h0
        go_enter Try.func85, Try.ntmps85
        go_wp2_with fail
        refine (eCheck_any _ _ _ _ _ _ _ _).mono ?_
        rintro e w1 ⟨rfl, hb1⟩
        obtain ⟨hc1, hf1⟩ := bcell hb1
        go_wp2_with (go_at_call 50; refine (has_any _ _).mono ?_; rintro e w' ⟨rfl, rfl⟩)
        refine bodyPost_ret (v := .agg #[.int .i64 0, .int .i64 0, .int .i64 0, .int .i64 0]) ?_ rfl ⟨by rw [HV.out], ?_⟩
        · simp [results, Try.results85, go_sem, hc1]
        · exact ((((bthen (balloc (balloc (brefl _) _) _) hb1).setCell (by simp) _).setCell (by simp) _).setCell (by simp) _).setCell (by simp) _
      · have HV : Hid _ := Pg.mapV_yes (at' := q) (by simp [Pg.lOk, hq, h0] : Pg.lOk t true r u d f lv q = true)
        have hs1 : 1 ≤ Pg.span lv ∧ Pg.span lv ≤ 64 := by
          obtain ⟨⟨l0, l3⟩, hc⟩ := Pg.fault_zero h0
          have hsp := Pg.span_cases lv
          have hb := Pg.span_bd lv
          rcases hc with ⟨_, h, _⟩ | ⟨_, _, _, _, _, ⟨_, h, _⟩ | ⟨h, _⟩⟩
          · cases h
          · omega
          · cases h
        obtain ⟨s1, s2⟩ := hs1
        obtain ⟨q0, q1⟩ := Pg.below_iff.1 hq
        clear h0
        go_enter Try.func85, Try.ntmps85
        go_wp2_with fail
        refine (eCheck_any _ _ _ _ _ _ _ _).mono ?_
        rintro e w1 ⟨rfl, hb1⟩
        obtain ⟨hc1, hf1⟩ := bcell hb1
        go_wp2_with (go_at_call 50; refine (has_any _ _).mono ?_; rintro e w' ⟨rfl, rfl⟩)
        refine (mapping_any _ _ _ _ _ _ _ _).mono ?_
        rintro e w2 ⟨rfl, hb2⟩
        have hB := bthen hb1 hb2
        have fr : ∀ o k, (w2.alloc o).frozen? ⟨w.heap.size + 1, k, none⟩ = false := fun o k => ((balloc hB o).frozen (p := ⟨w.heap.size + 1, k, none⟩) (by simp)).trans (by simp [go_sem])
        have c0 : ∀ o, (w2.alloc o).cell? ⟨w.heap.size + 1, 0, none⟩ = some (.int .i64 0) := fun o => ((balloc hB o).cell (p := ⟨w.heap.size + 1, 0, none⟩) (by simp)).trans (by simp [go_sem])
        have c1 : ∀ o, (w2.alloc o).cell? ⟨w.heap.size + 1, 1, none⟩ = some (.int .i64 0) := fun o => ((balloc hB o).cell (p := ⟨w.heap.size + 1, 1, none⟩) (by simp)).trans (by simp [go_sem])
        have c2 : ∀ o, (w2.alloc o).cell? ⟨w.heap.size + 1, 2, none⟩ = some (.int .i64 0) := fun o => ((balloc hB o).cell (p := ⟨w.heap.size + 1, 2, none⟩) (by simp)).trans (by simp [go_sem])
        have c3 : ∀ o, (w2.alloc o).cell? ⟨w.heap.size + 1, 3, none⟩ = some (.int .i64 0) := fun o => ((balloc hB o).cell (p := ⟨w.heap.size + 1, 3, none⟩) (by simp)).trans (by simp [go_sem])
        have hwr : wrap64 (q - q % Pg.span lv) = q - q % Pg.span lv := by
          have := Int.emod_nonneg q (by omega : Pg.span lv ≠ 0)
          have := Int.emod_lt_of_pos q (by omega : 0 < Pg.span lv)
          rw [wrap64]
          omega
        have HB : Hid (Below w.heap.size w w2) := bthen (balloc (balloc (brefl w) _) _) hB
        clear hB hb1 hb2 hc1 hf1
        go_wp2_with (go_at_call 86; refine (span_any _ _).mono ?_; rintro e w' ⟨rfl, rfl⟩)
        refine bodyPost_ret (v := .agg #[.int .i64 (q - q % Pg.span lv), .int .i64 lv, .int .i64 f, .int .i64 r]) ?_ rfl ⟨by rw [HV.out], ?_⟩
        · simp [results, Try.results85, go_sem, c0, c1, c2, c3]
        · exact ((((balloc HB.out _).setCell (by simp) _).setCell (by simp) _).setCell (by simp) _).setCell (by simp) _
  · have e0 : (Pg.eFault t l r u d f lv != 0) = true := by simp [h0]
    have HV : Hid _ := Pg.mapV_no (at' := q) (by simp [Pg.lOk, h0] : Pg.lOk t l r u d f lv q = false)
    clear h0
    go_enter Try.func85, Try.ntmps85
    go_wp2_with fail
    refine (eCheck_any _ _ _ _ _ _ _ _).mono ?_
    rintro e w1 ⟨rfl, hb1⟩
    obtain ⟨hc1, hf1⟩ := bcell hb1
    go_wp2_with fail
    refine bodyPost_ret (v := .agg #[.int .i64 0, .int .i64 0, .int .i64 0, .int .i64 0]) ?_ rfl ⟨by rw [HV.out], ?_⟩
    · simp [results, Try.results85, go_sem, hc1]
    · exact ((((bthen (balloc (balloc (brefl _) _) _) hb1).setCell (by simp) _).setCell (by simp) _).setCell (by simp) _).setCell (by simp) _
end Go.Proofs.Ytbkpndgadgafiac
