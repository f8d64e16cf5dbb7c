
/-
  How the statements hold the words of the two kinds of frames against each other.
-/
import Derived.Test.YtbkpndgadgafiacWalkH
namespace Go.Proofs.Ytbkpndgadgafiac
open Go.RowKit Go.Sort
set_option linter.unusedVariables false
set_option linter.unusedSimpArgs false
set_option maxRecDepth 100000

set_option maxHeartbeats 2000000 in
theorem sameWords_any {w0 w : World} {bf bm g0 g1 : Nat} {vb : Value} {F : Nat → Prop} {S : Pg.Fs} (h : Side w0 bf bm g0 g1 vb F S S w) :
    Calls Try.prog 35 #[.pointer (some ⟨bf, 0, none⟩), .pointer (some ⟨bm, 0, none⟩)] w fun e w' => e = .returned (.bool true) ∧ Below w.heap.size w w' := by
  have HS : Hid _ := h
  have hsm := h.mem.ok.small
  clear h
  go_enter Try.func35, Try.ntmps35
  go_wp2_with fail
  go_loopw [5] (fun kv wr => ∃ k : Nat, k ≤ S.n ∧ kv = .int .i64 (k : Int) ∧ Hid (Below w.heap.size w wr)) (fun kv _ => S.n - (intOf kv).toNat)
  case atStart => exact ⟨0, by omega, rfl, brefl _⟩
  case round =>
    obtain ⟨k, hk, rfl, HR⟩ := hrel
    have G : Hid _ := HS.out.grow HR.out
    have c0 := G.out.mem.raw.c0
    have k0 : (0 : Int) ≤ (k : Int) := by omega
    by_cases hlt : k < S.n
    · have k1 : (k : Int) < (S.n : Int) := by omega
      have HT := frTaken_any (k : Int) wr G.out.fr
      generalize hhk : S.has (k : Int) = hk' at *
      have HHK : Hid _ := hhk
      clear hhk
      go_wp2_with fail
      refine HT.mono ?_
      rintro e w2 ⟨rfl, hb2⟩
      have HB2 : Hid (Below w.heap.size w w2) := bthen HR.out hb2
      have G2 : Hid _ := HS.out.grow HB2.out
      have HT2 := memTaken_any (k : Int) w2 G2.out.mem
      rw [HHK.out] at HT2
      clear hb2 HT
      have hbb : (hk' != hk') = false := by simp
      go_wp2_with fail
      refine HT2.mono ?_
      rintro e w3 ⟨rfl, rfl⟩
      clear HT2
      go_wp2_with fail
      generalize wr.heap.size = bx at *
      go_loopw [6] (fun iv wi => ∃ i : Nat, i ≤ 8 ∧ iv = .int .i64 (i : Int) ∧ Hid (Below w.heap.size w wi)) (fun iv _ => 8 - (intOf iv).toNat)
      case atStart => exact ⟨0, by omega, rfl, HB2.out⟩
      case round =>
        obtain ⟨i, hi, rfl, HRi⟩ := hrel
        have Gi : Hid _ := HS.out.grow HRi.out
        have i0 : (0 : Int) ≤ (i : Int) := by omega
        have HTi := memTaken_any (k : Int) wr Gi.out.mem
        rw [HHK.out] at HTi
        by_cases hi8 : i < 8
        · have i1 : (i : Int) < 8 := by omega
          cases hk'
          · go_wp2_with fail
            refine HTi.mono ?_
            rintro e w4 ⟨rfl, rfl⟩
            go_wp2_with fail
            exact ⟨⟨k + 1, by omega, by go_num, HRi.out⟩, by simp [intOf]; omega⟩
          · have HL := frLoad_same (k : Int) (i : Int) wr Gi.out.fr
            have hat : S.at' (k : Int) (i : Int) = true := by simp [Pg.Fs.at', HHK.out]; omega
            have hld : S.load (k : Int) (i : Int) = S.word k i := by simp [Pg.Fs.load, hat]
            rw [hat, hld] at HL
            have c0i := Gi.out.mem.raw.c0
            have cwi := Gi.out.mem.raw.cw k i hlt hi8
            generalize S.word k i = x at *
            have hxx : (x != x) = false := by simp
            go_wp2_with fail
            refine HTi.mono ?_
            rintro e w4 ⟨rfl, rfl⟩
            go_wp2_with fail
            refine HL.mono ?_
            rintro e w5 ⟨rfl, rfl⟩
            go_wp2_with fail
            exact ⟨⟨i + 1, by omega, by go_num, HRi.out⟩, by simp [intOf]; omega⟩
        · have i1 : ¬ (i : Int) < 8 := by omega
          have d1 : decide ((i : Int) < 8) = false := by simp; omega
          go_wp2_with fail
          exact ⟨⟨k + 1, by omega, by go_num, HRi.out⟩, by simp [intOf]; omega⟩
    · have k1 : ¬ (k : Int) < (S.n : Int) := by omega
      go_wp2_with fail
      go_ret
      exact ⟨rfl, HR.out⟩
end Go.Proofs.Ytbkpndgadgafiac
