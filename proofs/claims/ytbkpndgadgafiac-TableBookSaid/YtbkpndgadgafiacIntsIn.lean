
/-
  A number held against others.
-/
import Derived.Test.YtbkpndgadgafiacWalkI
namespace Go.Proofs.Ytbkpndgadgafiac
open Go.RowKit Go.Sort
set_option linter.unusedVariables false
set_option maxRecDepth 100000

/-- Is a number among others? -/
theorem in_any {ad : Option Addr} {cap : Nat} {L : List Int} (n : Int) (w : World) (h : IntsAt w ad L) (hl : L.length ≤ 20000) :
    Calls Try.prog 19 #[.slice ad L.length cap, .int .i64 n] w fun e w' => e = .returned (.bool (decide (n ∈ L))) ∧ w' = w := by
  have HA : Hid (IntsAt w ad L) := h
  clear h
  go_enter Try.func19, Try.ntmps19
  go_wp2_with fail
  go_loopw [5] (fun i wr => ∃ j : Nat, j ≤ L.length ∧ i = .int .i64 j ∧ Hid (wr = w ∧ ∀ k, k < j → L.getD k 0 ≠ n)) (fun i _ => L.length - (intOf i).toNat)
  case atStart => exact ⟨0, by omega, rfl, rfl, fun k hk => by omega⟩
  case round =>
    obtain ⟨j, hj, rfl, HR⟩ := hrel
    have i0 : (0 : Int) ≤ (j : Int) := by omega
    have hw := HR.out.1
    subst hw
    by_cases hlt : j < L.length
    · obtain ⟨g, rfl, hg, hm⟩ := HA.out j hlt
      have i1 : (j : Int) < (L.length : Int) := by omega
      have HJ : Hid (L.getD j 0 ≠ n → ∀ k, k < j + 1 → L.getD k 0 ≠ n) := fun hne k hk => by
        by_cases e : k = j
        · rw [e]; exact hne
        · exact HR.out.2 k (by omega)
      have HIn : Hid (L.getD j 0 ∈ L) := by simp [Hid, List.getD, hlt]
      generalize L.getD j 0 = x at *
      by_cases hx : x = n
      · have hxb : (x == n) = true := by simpa using hx
        have HD : Hid (true = decide (n ∈ L)) := by rw [Hid, eq_comm, decide_eq_true_eq, ← hx]; exact HIn.out
        go_wp2_with fail
        go_ret
        exact ⟨ret_bool HD.out, rfl⟩
      · have hxb : (x == n) = false := by simpa using hx
        have HJ2 : Hid _ := HJ.out hx
        clear hx
        go_wp2_with fail
        exact ⟨⟨j + 1, by omega, by go_num, by first | trivial | rfl, HJ2.out⟩, by simp [intOf]; omega⟩
    · have i1 : ¬ (j : Int) < (L.length : Int) := by omega
      have HD : Hid (false = decide (n ∈ L)) := by
        rw [Hid, eq_comm, decide_eq_false_iff_not]
        intro hm
        obtain ⟨k, hk, e⟩ := List.mem_iff_getElem.1 hm
        exact HR.out.2 k (by omega) (by simpa [List.getD, hk] using e)
      go_wp2_with fail
      go_ret
      exact ⟨ret_bool HD.out, rfl⟩
theorem IntsAt.take {w : World} {ad : Option Addr} {L : List Int} (h : IntsAt w ad L) (i : Nat) : IntsAt w ad (L.take i) := fun j hj => by
  rw [List.length_take] at hj
  obtain ⟨g, e, hl, hc⟩ := h j (by omega)
  refine ⟨g, e, hl, ?_⟩
  rw [hc, List.getD_eq_getElem?_getD, List.getD_eq_getElem?_getD, List.getElem?_take, if_pos (by omega)]
end Go.Proofs.Ytbkpndgadgafiac
