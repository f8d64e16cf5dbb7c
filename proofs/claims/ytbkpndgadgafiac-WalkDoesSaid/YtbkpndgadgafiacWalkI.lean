
/-
  Lists of numbers held against each other; how the statements on ways begin.
-/
import Derived.Test.YtbkpndgadgafiacWalkE
import Derived.Test.YtbkpndgadgafiacWalkH
namespace Go.Proofs.Ytbkpndgadgafiac
open Go.RowKit Go.Sort
set_option linter.unusedVariables false
set_option maxRecDepth 100000

theorem sameInts_yes {ad ad' : Option Addr} {cap cap' : Nat} {L : List Int} (w : World) (h : IntsAt w ad L) (h' : IntsAt w ad' L) (hl : L.length ≤ 5000) :
    Calls Try.prog 13 #[.slice ad L.length cap, .slice ad' L.length cap'] w fun e w' => e = .returned (.bool true) ∧ Below w.heap.size w w' := by
  have HA : Hid (IntsAt w ad L) := h
  have HB : Hid (IntsAt w ad' L) := h'
  clear h h'
  go_enter Try.func13, Try.ntmps13
  go_wp2_with fail
  go_loopw [5] (fun i wr => ∃ j : Nat, j ≤ L.length ∧ i = .int .i64 j ∧ Hid (Below w.heap.size w wr)) (fun i _ => L.length - (intOf i).toNat)
  case atStart => exact ⟨0, by omega, rfl, brefl _⟩
  case round =>
    obtain ⟨j, hj, rfl, HR⟩ := hrel
    have i0 : (0 : Int) ≤ (j : Int) := by omega
    by_cases hlt : j < L.length
    · obtain ⟨g, rfl, hg, hm⟩ := IntsAt.below HA.out HR.out j hlt
      obtain ⟨g', rfl, hg', hm'⟩ := IntsAt.below HB.out HR.out j hlt
      have i1 : (j : Int) < (L.length : Int) := by omega
      have fin : Hid (∀ nq, Below w.heap.size w (wr.drewN nq)) := fun nq => bthen HR.out (below_drewN (brefl _) nq)
      generalize L.getD j 0 = x at *
      go_wp2_with fail
      go_quiet (fail)
      go_wp2_with fail
      exact ⟨⟨j + 1, by omega, by go_num, fin.out _⟩, by simp [intOf]; omega⟩
    · have i1 : ¬ (j : Int) < (L.length : Int) := by omega
      go_wp2_with fail
      go_ret
      exact ⟨rfl, HR.out⟩

theorem in_yes {ad : Option Addr} {cap : Nat} {L : List Int} (n : Int) (hn : n ∈ L) (w : World) (h : IntsAt w ad L) (hl : L.length ≤ 5000) :
    Calls Try.prog 19 #[.slice ad L.length cap, .int .i64 n] w fun e w' => e = .returned (.bool true) ∧ Below w.heap.size w w' := by
  have HA : Hid (IntsAt w ad L) := h
  have HN : Hid _ := hn
  clear h hn
  go_enter Try.func19, Try.ntmps19
  go_wp2_with fail
  go_loopw [5] (fun i wr => ∃ j : Nat, j ≤ L.length ∧ i = .int .i64 j ∧ Hid (Below w.heap.size w wr ∧ ∀ k, k < j → L.getD k 0 ≠ n)) (fun i _ => L.length - (intOf i).toNat)
  case atStart => exact ⟨0, by omega, rfl, brefl _, fun k hk => by omega⟩
  case round =>
    obtain ⟨j, hj, rfl, HR⟩ := hrel
    have i0 : (0 : Int) ≤ (j : Int) := by omega
    by_cases hlt : j < L.length
    · obtain ⟨g, rfl, hg, hm⟩ := IntsAt.below HA.out HR.out.1 j hlt
      have i1 : (j : Int) < (L.length : Int) := by omega
      have HJ : Hid (L.getD j 0 ≠ n → ∀ k, k < j + 1 → L.getD k 0 ≠ n) := fun hne k hk => by
        by_cases e : k = j
        · rw [e]; exact hne
        · exact HR.out.2 k (by omega)
      generalize L.getD j 0 = x at *
      by_cases hx : x = n
      · have hxb : (x == n) = true := by simpa using hx
        go_wp2_with fail
        go_ret
        exact ⟨rfl, HR.out.1⟩
      · have hxb : (x == n) = false := by simpa using hx
        have HJ2 : Hid _ := HJ.out hx
        clear hx
        go_wp2_with fail
        exact ⟨⟨j + 1, by omega, by go_num, HR.out.1, HJ2.out⟩, by simp [intOf]; omega⟩
    · exfalso
      obtain ⟨k, hk, e⟩ := List.mem_iff_getElem.1 HN.out
      exact HR.out.2 k (by omega) (by simpa [List.getD, hk] using e)

theorem begun_facts : fndC (Pg.Fs.memory 2 1 (fun _ => 1) 1) 0 0 = 7 ∧ fndC (Pg.Fs.memory 2 1 (fun _ => 1) 1) 0 512 = 0 ∧ lastL (fndX (Pg.Fs.memory 2 1 (fun _ => 1) 1) 0 512) = 3 ∧ (fndX (Pg.Fs.memory 2 1 (fun _ => 1) 1) 0 512).length = 1 ∧ plcs (fndX (Pg.Fs.memory 2 1 (fun _ => 1) 1) 0 512) = [1] := by
  refine ⟨?_, ?_, ?_, ?_, ?_⟩ <;> decide +kernel

set_option maxHeartbeats 1000000 in
theorem walkBegun_any (w : World) :
    Calls Try.prog 9 #[] w fun e w' => e = .returned (.bool true) ∧ Below w.heap.size w w' := by
  obtain ⟨b1, b2, b3, b4, b5⟩ := begun_facts
  have hw : WordsAt (w.alloc (.cells #[.int .u64 1] 85)) (some ⟨w.heap.size, 0, none⟩) 1 (fun _ => 1) := by
    intro j hj
    have : j = 0 := by omega
    subst this
    exact ⟨⟨w.heap.size, 0, rfl, by simp, by simp [go_sem]⟩, by decide, by decide⟩
  have HM := memory_any 2 (by omega) 1 (some ⟨w.heap.size, 0, none⟩) 1 1 (by omega) (fun _ => 1) _ hw
  generalize Pg.Fs.memory 2 1 (fun _ => 1) 1 = S at *
  clear hw
  have HB : Hid (fndC S 0 0 = 7 ∧ fndC S 0 512 = 0 ∧ lastL (fndX S 0 512) = 3 ∧ (fndX S 0 512).length = 1 ∧ plcs (fndX S 0 512) = [1]) := ⟨b1, b2, b3, b4, b5⟩
  clear b1 b2 b3 b4 b5
  go_enter Try.func9, Try.ntmps9
  go_wp2_with fail
  refine HM.mono ?_
  rintro e w1 ⟨bf, bm, g0, g1, vb, F, rfl, hS⟩
  have HS : Hid _ := hS
  clear hS HM
  go_wp2_with fail
  have HF := wFind_any 0 0 w1 HS.out.fr
  rw [HB.out.1] at HF
  refine HF.mono ?_
  rintro e w2 ⟨a1, c1, a2, c2, rfl, _, _, hb2⟩
  have G2 : Hid _ := HS.out.grow hb2
  clear hb2 HF
  unfold spotV
  go_wp2_with fail
  have G3 := G2.out.grow (balloc (brefl w2) (.cells #[.int .i64 (lastL (fndX S 0 0)), .bool (lastE (fndX S 0 0)).t, .bool (lastE (fndX S 0 0)).l, .int .i64 (lastE (fndX S 0 0)).r, .bool (lastE (fndX S 0 0)).u, .bool (lastE (fndX S 0 0)).d, .int .i64 (lastE (fndX S 0 0)).f, .slice a1 (fndX S 0 0).length c1, .slice a2 (fndX S 0 0).length c2] 32))
  have HF := wFind_any 0 512 _ G3.fr
  rw [HB.out.2.1] at HF
  have H3 : Hid _ := G3
  clear G3
  refine HF.mono ?_
  rintro e w3 ⟨a3, c3, a4, c4, rfl, _, hI, hb3⟩
  have G4 : Hid _ := H3.out.grow hb3
  have hI0 := hI 0 (by rw [HB.out.2.2.2.2]; decide)
  obtain ⟨g, rfl, hg, hc⟩ := hI0
  rw [HB.out.2.2.2.2] at hc
  have hl := HB.out.2.2.1
  have hn := HB.out.2.2.2.1
  have hc1 : w3.cell? ⟨g, 0, none⟩ = some (.int .i64 1) := hc
  clear hc hI hb3 HF
  generalize fndX S 0 512 = X at *
  unfold spotV
  rw [hl, hn]
  go_wp2_with fail
  go_ret
  exact ⟨rfl, bthen (balloc (brefl w) _) (balloc G4.out.bel _)⟩

/-- Two rows of the same mappings are the same. -/
theorem sameMapsW {ad ad' : Option Addr} {cap cap' : Nat} {L : List Pg.Mp} (w : World) (h : MapsAt w ad L) (h' : MapsAt w ad' L) (hl : L.length ≤ 5000) :
    Calls Try.prog 18 #[.slice ad L.length cap, .slice ad' L.length cap'] w fun e w' => e = .returned (.bool true) ∧ Below w.heap.size w w' := by
  have HA : Hid (MapsAt w ad L) := h
  have HB : Hid (MapsAt w ad' L) := h'
  clear h h'
  go_enter Try.func18, Try.ntmps18
  go_wp2_with fail
  go_loopw [5] (fun i wr => ∃ j : Nat, j ≤ L.length ∧ i = .int .i64 j ∧ Hid (Below w.heap.size w wr)) (fun i _ => L.length - (intOf i).toNat)
  case atStart => exact ⟨0, by omega, rfl, brefl _⟩
  case round =>
    obtain ⟨j, hj, rfl, HR⟩ := hrel
    have i0 : (0 : Int) ≤ (j : Int) := by omega
    by_cases hlt : j < L.length
    · obtain ⟨g, rfl, hg, hm⟩ := MapsAt.below HA.out HR.out j hlt
      obtain ⟨g', rfl, hg', hm'⟩ := MapsAt.below HB.out HR.out j hlt
      obtain ⟨k0, k1, k2, k3⟩ := hm
      obtain ⟨m0, m1, m2, m3⟩ := hm'
      have i1 : (j : Int) < (L.length : Int) := by omega
      have fin : Hid (∀ nq, Below w.heap.size w (wr.drewN nq)) := fun nq => bthen HR.out (below_drewN (brefl _) nq)
      generalize L.getD j .zz = x at *
      obtain ⟨p, s, f, r⟩ := x
      simp only at k0 k1 k2 k3 m0 m1 m2 m3
      go_wp2_with fail
      go_quiet (fail)
      go_wp2_with fail
      exact ⟨⟨j + 1, by omega, by go_num, fin.out _⟩, by simp [intOf]; omega⟩
    · have i1 : ¬ (j : Int) < (L.length : Int) := by omega
      go_wp2_with fail
      go_ret
      exact ⟨rfl, HR.out⟩

/-- The places on a way. -/
theorem way_place (S : Pg.Fs) (p : Int) : ∀ (lv : Nat) (t : Int) (a i : Nat), i < (Pg.thr S (Pg.onW p) lv t a).1.length → i ≤ lv ∧ (plcs (Pg.thr S (Pg.onW p) lv t a).1).getD i 0 = (Pg.ix p (lv - i) : Nat) := by
  intro lv
  induction lv with
  | zero =>
    intro t a i hi
    rw [Pg.thr_way] at hi ⊢
    split at hi
    · simp at hi
    · rename_i h1
      rw [if_neg h1]
      split at hi
      · rename_i h2
        rw [if_pos h2]
        simp at hi
        subst hi
        exact ⟨by omega, by simp [plcs, Pg.spt]⟩
      · rename_i h2
        obtain ⟨m, hm⟩ := Pg.rEn_on (S := S) (t := t) (i := Pg.ix p 0) (lv := 0) (by simpa using h2)
        omega
  | succ lv ih =>
    intro t a i hi
    rw [Pg.thr_way] at hi ⊢
    split at hi
    · simp at hi
    · rename_i h1
      rw [if_neg h1]
      split at hi
      · rename_i h2
        rw [if_pos h2]
        simp at hi
        subst hi
        exact ⟨by omega, by simp [plcs, Pg.spt]⟩
      · rename_i h2
        rw [if_neg h2]
        simp only at hi ⊢
        cases i with
        | zero => exact ⟨by omega, by simp [plcs, Pg.spt]⟩
        | succ i =>
          have h3 := ih (Pg.rEn S t (Pg.ix p (lv + 1)) (lv + 1)).f ((a + Pg.ix p (lv + 1)) * 8) i (by simpa [Pg.sub] using hi)
          refine ⟨by omega, ?_⟩
          rw [show lv + 1 - (i + 1) = lv - i by omega]
          simpa [plcs, Pg.sub] using h3.2
theorem find_place (S : Pg.Fs) (t p : Int) {i : Nat} (hi : i < (fndX S t p).length) : Pg.below p 4096 = true ∧ i ≤ 3 ∧ (plcs (fndX S t p)).getD i 0 = Pg.index p (3 - (i : Int)) := by
  unfold fndX at hi ⊢
  split at hi
  · rename_i h
    rw [if_pos h]
    obtain ⟨h1, h2⟩ := way_place S p 3 t 0 i hi
    refine ⟨h.1, h1, ?_⟩
    rw [h2, show (3 - (i : Int)) = ((3 - i : Nat) : Int) by omega, Pg.index_ix h.1 (by omega)]
  · simp at hi
theorem fndX_len (S : Pg.Fs) (t p : Int) : (fndX S t p).length ≤ 4680 := by
  unfold fndX
  split
  · exact Pg.thr_len S (Pg.onW p) 3 t 0
  · simp
end Go.Proofs.Ytbkpndgadgafiac
