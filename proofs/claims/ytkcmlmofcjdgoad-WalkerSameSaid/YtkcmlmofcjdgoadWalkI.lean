
/-
  Lists of numbers held against each other; how the statements on ways begin.
-/
import Derived.Test.YtkcmlmofcjdgoadWalkE
import Derived.Test.YtkcmlmofcjdgoadWalkH
namespace Go.Proofs.Ytkcmlmofcjdgoad
open Go.RowKit Go.Sort
set_option linter.unusedVariables false
set_option maxRecDepth 100000

theorem in_yes {ad : Option Addr} {cap : Nat} {L : List Int} (n : Int) (hn : n ∈ L) (w : World) (h : IntsAt w ad L) (hl : L.length ≤ 5000) :
    Calls Try.prog 45 #[.slice ad L.length cap, .int .i64 n] w fun e w' => e = .returned (.bool true) ∧ Below w.heap.size w w' := by
  have HA : Hid (IntsAt w ad L) := h
  have HN : Hid _ := hn
  clear h hn
  go_enter Try.func45, Try.ntmps45
  go_wp2_with fail
  go_loopw [5] (fun i wr => ∃ j : Nat, j ≤ L.length ∧ i = .int .i64 j ∧ Hid (Below w.heap.size w wr ∧ ∀ k, k < j → L.getD k 0 ≠ n)) (fun i _ => L.length - (intOf i).toNat)
  case atStart => exact ⟨0, by omega, rfl, brefl _, fun k hk => by omega⟩
  case round =>
    obtain ⟨j, hj, rfl, HR⟩ := hrel
    have i0 : (0 : Int) ≤ (j : Int) := by omega
    by_cases hlt : j < L.length
    · obtain ⟨g, rfl, hg, hm⟩ := IntsAt.below HA.out HR.out.1 j hlt
      have i1 : (j : Int) < (L.length : Int) := by omega
      have HJ : Hid (L.getD j 0 ≠ n → ∀ k, k < j + 1 → L.getD k 0 ≠ n) := fun hne k hk => by
        by_cases e : k = j
        · rw [e]; exact hne
        · exact HR.out.2 k (by omega)
      generalize L.getD j 0 = x at *
      by_cases hx : x = n
      · have hxb : (x == n) = true := by simpa using hx
        go_wp2_with fail
        go_ret
        exact ⟨rfl, HR.out.1⟩
      · have hxb : (x == n) = false := by simpa using hx
        have HJ2 : Hid _ := HJ.out hx
        clear hx
        go_wp2_with fail
        exact ⟨⟨j + 1, by omega, by go_num, HR.out.1, HJ2.out⟩, by simp [intOf]; omega⟩
    · exfalso
      obtain ⟨k, hk, e⟩ := List.mem_iff_getElem.1 HN.out
      exact HR.out.2 k (by omega) (by simpa [List.getD, hk] using e)

theorem begun_facts : fndC (Pg.Fs.memory 2 1 (fun _ => 1) 1) 0 0 = 7 ∧ fndC (Pg.Fs.memory 2 1 (fun _ => 1) 1) 0 512 = 0 ∧ lastL (fndX (Pg.Fs.memory 2 1 (fun _ => 1) 1) 0 512) = 3 ∧ (fndX (Pg.Fs.memory 2 1 (fun _ => 1) 1) 0 512).length = 1 ∧ plcs (fndX (Pg.Fs.memory 2 1 (fun _ => 1) 1) 0 512) = [1] := by
  refine ⟨?_, ?_, ?_, ?_, ?_⟩ <;> decide +kernel

/-- The places on a way. -/
theorem way_place (S : Pg.Fs) (p : Int) : ∀ (lv : Nat) (t : Int) (a i : Nat), i < (Pg.thr S (Pg.onW p) lv t a).1.length → i ≤ lv ∧ (plcs (Pg.thr S (Pg.onW p) lv t a).1).getD i 0 = (Pg.ix p (lv - i) : Nat) := by
  intro lv
  induction lv with
  | zero =>
    intro t a i hi
    rw [Pg.thr_way] at hi ⊢
    split at hi
    · simp at hi
    · rename_i h1
      rw [if_neg h1]
      split at hi
      · rename_i h2
        rw [if_pos h2]
        simp at hi
        subst hi
        exact ⟨by omega, by simp [plcs, Pg.spt]⟩
      · rename_i h2
        obtain ⟨m, hm⟩ := Pg.rEn_on (S := S) (t := t) (i := Pg.ix p 0) (lv := 0) (by simpa using h2)
        omega
  | succ lv ih =>
    intro t a i hi
    rw [Pg.thr_way] at hi ⊢
    split at hi
    · simp at hi
    · rename_i h1
      rw [if_neg h1]
      split at hi
      · rename_i h2
        rw [if_pos h2]
        simp at hi
        subst hi
        exact ⟨by omega, by simp [plcs, Pg.spt]⟩
      · rename_i h2
        rw [if_neg h2]
        simp only at hi ⊢
        cases i with
        | zero => exact ⟨by omega, by simp [plcs, Pg.spt]⟩
        | succ i =>
          have h3 := ih (Pg.rEn S t (Pg.ix p (lv + 1)) (lv + 1)).f ((a + Pg.ix p (lv + 1)) * 8) i (by simpa [Pg.sub] using hi)
          refine ⟨by omega, ?_⟩
          rw [show lv + 1 - (i + 1) = lv - i by omega]
          simpa [plcs, Pg.sub] using h3.2
theorem find_place (S : Pg.Fs) (t p : Int) {i : Nat} (hi : i < (fndX S t p).length) : Pg.below p 4096 = true ∧ i ≤ 3 ∧ (plcs (fndX S t p)).getD i 0 = Pg.index p (3 - (i : Int)) := by
  unfold fndX at hi ⊢
  split at hi
  · rename_i h
    rw [if_pos h]
    obtain ⟨h1, h2⟩ := way_place S p 3 t 0 i hi
    refine ⟨h.1, h1, ?_⟩
    rw [h2, show (3 - (i : Int)) = ((3 - i : Nat) : Int) by omega, Pg.index_ix h.1 (by omega)]
  · simp at hi
theorem fndX_len (S : Pg.Fs) (t p : Int) : (fndX S t p).length ≤ 4680 := by
  unfold fndX
  split
  · exact Pg.thr_len S (Pg.onW p) 3 t 0
  · simp
end Go.Proofs.Ytkcmlmofcjdgoad
