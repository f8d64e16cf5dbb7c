
/-
  The document's own book: what asking it answers, and what it leaves in memory.
-/
import Derived.Test.YtkcmlmofcjdgoabChecked
import Derived.Test.YtkcmlmofcjdgoabMapRow
import Derived.Test.YtkcmlmofcjdgoabPageRef
import Derived.Deep.AppendLies
namespace Go.Proofs.Ytkcmlmofcjdgoab
open Go.RowKit Go.Sort
set_option maxRecDepth 100000
set_option linter.unusedVariables false

theorem refFind_any {b : Nat} {vb : Value} {L : List Pg.Mp} (q : Int) (hq : Pg.fits q) (w : World) (h : BkAt w b vb L) :
    Calls Try.prog 38 #[.pointer (some ⟨b, 0, none⟩), .int .i64 q] w fun e w' => e = .returned (.int .i64 (Pg.fndN L q)) ∧ Below w.heap.size w w' := by
  obtain ⟨ad, cap, rfl⟩ := ownsMaps_form h.row
  have hlen := h.good.len
  have HB : Hid _ := h
  clear h
  go_enter Try.func38, Try.ntmps38
  go_wp2_with fail
  go_loopw [5] (fun i wr => ∃ j : Nat, j ≤ L.length ∧ i = .int .i64 j ∧ Hid ((∀ t, t < j → (L.getD t .zz).has q = false) ∧ Below w.heap.size w wr)) (fun i _ => L.length - (intOf i).toNat)
  case atStart => exact ⟨0, by omega, rfl, ⟨fun t ht => by omega, brefl _⟩⟩
  case round =>
    obtain ⟨j, hj, rfl, HR⟩ := hrel
    have hc0 := (HB.out.grow HR.out.2).c0
    have i0 : (0 : Int) ≤ (j : Int) := by omega
    by_cases hlt : j < L.length
    · obtain ⟨g, rfl, hg, hm⟩ := owns_mapsAt (HB.out.grow HR.out.2).row j hlt
      obtain ⟨k0, k1, k2, k3⟩ := hm
      have i1 : (j : Int) < (L.length : Int) := by omega
      have hok := HB.out.good.ok (L.getD j .zz) (by rw [Pg.mp_at hlt]; exact List.getElem_mem _)
      have HC := refHas_any (L.getD j .zz).p (L.getD j .zz).s (L.getD j .zz).f (L.getD j .zz).r q (Pg.ok_fits hok).2.2.1 hq wr
      cases hh : (L.getD j .zz).has q
      · have HN : Hid (∀ t, t < j + 1 → (L.getD t .zz).has q = false) := fun t ht => by
          by_cases e : t = j
          · rw [e]; exact hh
          · exact HR.out.1 t (by omega)
        rw [show Pg.over (L.getD j .zz).p (L.getD j .zz).s q = false from hh] at HC
        clear hh hok
        generalize L.getD j .zz = x at *
        obtain ⟨p, s, f, r⟩ := x
        go_wp2_with (go_at_call 44; refine HC.mono ?_; rintro e w1 ⟨rfl, hb1⟩; have HN1 : Hid _ := bthen HR.out.2 hb1; clear hb1)
        go_roundw
        case rel => exact ⟨j + 1, by omega, by go_num, ⟨HN.out, HN1.out⟩⟩
        case measure => simp [intOf]; omega
      · have HF : Hid (Pg.fndN L q = (j : Int)) := by simp [Hid, Pg.fndN, Pg.fnd_of hlt hh HR.out.1]
        rw [show Pg.over (L.getD j .zz).p (L.getD j .zz).s q = true from hh] at HC
        clear hh hok
        generalize L.getD j .zz = x at *
        obtain ⟨p, s, f, r⟩ := x
        go_wp2_with (go_at_call 44; refine HC.mono ?_; rintro e w1 ⟨rfl, hb1⟩; have HN1 : Hid _ := bthen HR.out.2 hb1; clear hb1)
        go_ret
        exact ⟨ret_int HF.out.symm, HN1.out⟩
    · have i1 : ¬ (j : Int) < (L.length : Int) := by omega
      have HF : Hid (Pg.fndN L q = -1) := by
        have : Pg.fnd L q = none := Pg.fnd_no fun t ht => HR.out.1 t (by omega)
        simp [Hid, Pg.fndN, this]
      go_wp2_with fail
      go_ret
      exact ⟨ret_int HF.out.symm, HR.out.2⟩

/-- Two rows of the same mappings are the same. -/
theorem sameMaps_yes {ad ad' : Option Addr} {cap cap' : Nat} {L : List Pg.Mp} (w : World) (h : MapsAt w ad L) (h' : MapsAt w ad' L) (hl : L.length ≤ 4096) :
    Calls Try.prog 36 #[.slice ad L.length cap, .slice ad' L.length cap'] w fun e w' => e = .returned (.bool true) ∧ Below w.heap.size w w' := by
  have HA : Hid _ := h
  have HB : Hid _ := h'
  clear h h'
  go_enter Try.func36, Try.ntmps36
  go_wp2_with fail
  go_loopw [5] (fun i wr => ∃ j : Nat, j ≤ L.length ∧ i = .int .i64 j ∧ Hid (Below w.heap.size w wr)) (fun i _ => L.length - (intOf i).toNat)
  case atStart => exact ⟨0, by omega, rfl, brefl _⟩
  case round =>
    obtain ⟨j, hj, rfl, HR⟩ := hrel
    have i0 : (0 : Int) ≤ (j : Int) := by omega
    by_cases hlt : j < L.length
    · obtain ⟨g, rfl, hg, hm⟩ := MapsAt.below HA.out HR.out j hlt
      obtain ⟨g', rfl, hg', hm'⟩ := MapsAt.below HB.out HR.out j hlt
      obtain ⟨k0, k1, k2, k3⟩ := hm
      obtain ⟨m0, m1, m2, m3⟩ := hm'
      have i1 : (j : Int) < (L.length : Int) := by omega
      have fin : Hid (∀ nq, Below w.heap.size w (wr.drewN nq)) := fun nq => bthen HR.out (below_drewN (brefl _) nq)
      generalize L.getD j .zz = x at *
      obtain ⟨p, s, f, r⟩ := x
      simp only at k0 k1 k2 k3 m0 m1 m2 m3
      go_wp2_with fail
      go_quiet (fail)
      go_wp2_with fail
      go_roundw
      case rel => exact ⟨j + 1, by omega, by go_num, fin.out _⟩
      case measure => simp [intOf]; omega
    · have i1 : ¬ (j : Int) < (L.length : Int) := by omega
      go_wp2_with fail
      go_ret
      exact ⟨rfl, HR.out⟩
end Go.Proofs.Ytkcmlmofcjdgoab
