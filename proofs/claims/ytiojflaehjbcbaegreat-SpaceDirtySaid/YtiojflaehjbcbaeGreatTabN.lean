/-
  How many tables mappings need: the document's own count.
-/
import Derived.Test.YtiojflaehjbcbaeGreatWalkI
import Derived.Test.YtiojflaehjbcbaeGreatPlainTI
import Derived.Test.YtiojflaehjbcbaeGreatTabCp
import Derived.Deep.AppendLies
namespace Go.Proofs.YtiojflaehjbcbaeGreat
open Go.RowKit Go.Sort
set_option linter.unusedVariables false
set_option maxRecDepth 100000

/-- Is a number among others? -/
theorem in_any {ad : Option Addr} {cap : Nat} {L : List Int} (n : Int) (w : World) (h : IntsAt w ad L) (hl : L.length ≤ 20000) :
    Calls Tryz.prog 30 #[.slice ad L.length cap, .int .i64 n] w fun e w' => e = .returned (.bool (decide (n ∈ L))) ∧ w' = w := by
  have HA : Hid (IntsAt w ad L) := h
  clear h
  go_enter Tryz.func30, Tryz.ntmps30
  go_wp2_with fail
  go_loopw [5] (fun i wr => ∃ j : Nat, j ≤ L.length ∧ i = .int .i64 j ∧ Hid (wr = w ∧ ∀ k, k < j → L.getD k 0 ≠ n)) (fun i _ => L.length - (intOf i).toNat)
  case atStart => exact ⟨0, by omega, rfl, rfl, fun k hk => by omega⟩
  case round =>
    obtain ⟨j, hj, rfl, HR⟩ := hrel
    have i0 : (0 : Int) ≤ (j : Int) := by omega
    have hw := HR.out.1
    subst hw
    by_cases hlt : j < L.length
    · obtain ⟨g, rfl, hg, hm⟩ := HA.out j hlt
      have i1 : (j : Int) < (L.length : Int) := by omega
      have HJ : Hid (L.getD j 0 ≠ n → ∀ k, k < j + 1 → L.getD k 0 ≠ n) := fun hne k hk => by
        by_cases e : k = j
        · rw [e]; exact hne
        · exact HR.out.2 k (by omega)
      have HIn : Hid (L.getD j 0 ∈ L) := by simp [Hid, List.getD, hlt]
      generalize L.getD j 0 = x at *
      by_cases hx : x = n
      · have hxb : (x == n) = true := by simpa using hx
        have HD : Hid (true = decide (n ∈ L)) := by rw [Hid, eq_comm, decide_eq_true_eq, ← hx]; exact HIn.out
        go_wp2_with fail
        go_ret
        exact ⟨ret_bool HD.out, rfl⟩
      · have hxb : (x == n) = false := by simpa using hx
        have HJ2 : Hid _ := HJ.out hx
        clear hx
        go_wp2_with fail
        exact ⟨⟨j + 1, by omega, by go_num, by first | trivial | rfl, HJ2.out⟩, by simp [intOf]; omega⟩
    · have i1 : ¬ (j : Int) < (L.length : Int) := by omega
      have HD : Hid (false = decide (n ∈ L)) := by
        rw [Hid, eq_comm, decide_eq_false_iff_not]
        intro hm
        obtain ⟨k, hk, e⟩ := List.mem_iff_getElem.1 hm
        exact HR.out.2 k (by omega) (by simpa [List.getD, hk] using e)
      go_wp2_with fail
      go_ret
      exact ⟨ret_bool HD.out, rfl⟩
theorem IntsAt.take {w : World} {ad : Option Addr} {L : List Int} (h : IntsAt w ad L) (i : Nat) : IntsAt w ad (L.take i) := fun j hj => by
  rw [List.length_take] at hj
  obtain ⟨g, e, hl, hc⟩ := h j (by omega)
  refine ⟨g, e, hl, ?_⟩
  rw [hc, List.getD_eq_getElem?_getD, List.getD_eq_getElem?_getD, List.getElem?_take, if_pos (by omega)]
end Go.Proofs.YtiojflaehjbcbaeGreat

namespace Go.Proofs.YtiojflaehjbcbaeGreat
open Go.RowKit Go.Sort
set_option linter.unusedVariables false
set_option linter.unusedSimpArgs false
set_option maxRecDepth 100000

theorem wrap64_in {n : Int} (h0 : -9223372036854775808 ≤ n) (h1 : n ≤ 9223372036854775807) : wrap64 n = n := by
  unfold wrap64
  omega
theorem key_wrap {pn N8 k : Nat} (h1 : pn < 4096) (h2 : k ≤ 3) : wrap64 (wrap64 (wrap64 ((pn : Int) / (N8 : Int)) * 4) + (k : Int)) = ((pn / N8 * 4 + k : Nat) : Int) := by
  have q1 : (pn : Int) / (N8 : Int) = ((pn / N8 : Nat) : Int) := by simp
  have q2 : pn / N8 ≤ pn := Nat.div_le_self _ _
  rw [q1]
  generalize pn / N8 = d at *
  rw [wrap64_in (n := (d : Int)) (by omega) (by omega), wrap64_in (n := (d : Int) * 4) (by omega) (by omega), wrap64_in (n := (d : Int) * 4 + (k : Int)) (by omega) (by omega)]
  omega
/-- The keys of a mapping from a level on downwards. -/
def keysD (m : Pg.Mp) : Nat → List Int
  | 0 => []
  | l + 1 => if m.s < ((l + 1 : Nat) : Int) then ((m.p.toNat / 8 ^ (l + 1) * 4 + (l + 1) : Nat) : Int) :: keysD m l else []
theorem keysD_more (pn sn l : Nat) (f r : Int) (h : sn < l + 1) : keysD ⟨(pn : Int), (sn : Int), f, r⟩ (l + 1) = ((pn / 8 ^ (l + 1) * 4 + (l + 1) : Nat) : Int) :: keysD ⟨(pn : Int), (sn : Int), f, r⟩ l := by
  rw [keysD, if_pos (by show (sn : Int) < ((l + 1 : Nat) : Int); omega)]
  simp only [Int.toNat_natCast]
theorem see_more (k : Int) (r A : List Int) : Pg.see (k :: r) A = Pg.see r (if k ∈ A then A else A ++ [k]) := rfl
theorem keysD_eq {m : Pg.Mp} (h0 : 0 ≤ m.s) (h1 : m.s ≤ 2) : keysD m 3 = Pg.keysM m := by
  have : m.s = 0 ∨ m.s = 1 ∨ m.s = 2 := by omega
  rcases this with e | e | e <;> simp [keysD, Pg.keysM, e]
theorem span_size {s : Int} (h : Pg.span s ≠ 0) : 0 ≤ s ∧ s ≤ 2 := by
  unfold Pg.span at h
  by_cases h0 : s = 0
  · omega
  · by_cases h1 : s = 1
    · omega
    · by_cases h2 : s = 2
      · omega
      · simp [h0, h1, h2] at h

/-- What holds in each round of Needed: what has been seen, and what comes. -/
structure NdInv (w wr : World) (vs : Value) (A : List Int) : Prop where
  bel : Below w.heap.size w wr
  own : wr.ownsRow w.heap.size 3 1 vs A.length (ints A)

set_option maxHeartbeats 4000000 in
theorem needed_any {ad : Option Addr} {cap : Nat} {L : List Pg.Mp} (hg : ∀ m, m ∈ L → m.code = 0) (w : World) (h : MapsAt w ad L) (hl : L.length ≤ 5000) :
    Calls Tryz.prog 29 #[.slice ad L.length cap] w fun e w' => e = .returned (.int .i64 (Pg.needed L)) ∧ Below w.heap.size w w' := by
  have HA : Hid (MapsAt w ad L) := h
  have HG : Hid _ := hg
  clear h hg
  obtain ⟨R, hR⟩ : ∃ R, R = Pg.seen L := ⟨_, rfl⟩
  have HR0 : Hid (Pg.see (L.flatMap Pg.keysM) [] = R) := hR.symm
  have HN : Hid (Pg.needed L = (R.length : Int) + 1) := by rw [Hid, hR]; rfl
  clear hR
  go_enter Tryz.func29, Tryz.ntmps29
  go_wp2_with fail
  go_loopw [3, 4] (fun vs iv wr => ∃ (i : Nat) (A : List Int), i ≤ L.length ∧ iv = .int .i64 (i : Int) ∧ A.length ≤ 3 * i ∧ Hid (NdInv w wr vs A ∧ Pg.see ((L.drop i).flatMap Pg.keysM) A = R)) (fun _ iv _ => L.length - (intOf iv).toNat)
  case atStart => exact ⟨0, [], by omega, rfl, by simp, ⟨brefl _, World.ownsRow_nil _ _ _ _⟩, HR0.out⟩
  case round =>
    obtain ⟨i, A, hi, rfl, hAl, HR⟩ := hrel
    have i0 : (0 : Int) ≤ (i : Int) := by omega
    obtain ⟨va, vc, hvs⟩ := ownsMaps_form HR.out.1.own
    subst hvs
    by_cases hlt : i < L.length
    · have i1 : (i : Int) < (L.length : Int) := by omega
      obtain ⟨g, rfl, hgl, k0, k1, k2, k3⟩ := MapsAt.below HA.out HR.out.1.bel i hlt
      have HKC : Hid (∀ w', Below w.heap.size w w' → w'.cell? ⟨g, i * 4 + 1, none⟩ = some (.int .i64 (L.getD i .zz).s)) := fun w' hb => by
        obtain ⟨g', e', _, hm⟩ := MapsAt.below HA.out hb i hlt
        cases e'
        exact hm.2.1
      have hcode : (L.getD i .zz).code = 0 := HG.out _ (by simp [List.getD, hlt])
      have hdrop : L.drop i = L.getD i .zz :: L.drop (i + 1) := by
        rw [List.drop_eq_getElem_cons hlt]
        simp [List.getD, hlt]
      have HR2 : Hid (Pg.see (keysD (L.getD i .zz) 3 ++ (L.drop (i + 1)).flatMap Pg.keysM) A = R) := by
        obtain ⟨z0, z1, z2, z3, z4, z5, z6, z7, z8⟩ := Pg.check_zero hcode
        have := HR.out.2
        rw [hdrop, List.flatMap_cons] at this
        rw [Hid, keysD_eq (span_size z0).1 (span_size z0).2]
        exact this
      obtain ⟨z0, z1, z2, z3, z4, z5, z6, z7, z8⟩ := Pg.check_zero hcode
      generalize L.getD i .zz = m at *
      obtain ⟨mp, ms, mf, mr⟩ := m
      simp only at k0 k1 k2 k3 z0 z1 z2 z3 z4 z5 z6 z7 z8
      obtain ⟨s0, s2⟩ := span_size z0
      obtain ⟨pn, rfl⟩ := Int.eq_ofNat_of_zero_le z1
      obtain ⟨sn, rfl⟩ := Int.eq_ofNat_of_zero_le s0
      have hsn : sn ≤ 2 := by omega
      have hpn : pn < 4096 := by omega
      clear z0 z1 z2 z3 z4 z5 z6 z7 z8 s0 s2 hcode hdrop k2 k3
      go_wp2_with fail
      generalize wr.heap.size = bx at *
      go_loopw [3, 6] (fun vs lv wi => ∃ (l : Nat) (A' : List Int), l ≤ 3 ∧ sn ≤ l ∧ lv = .int .i64 (l : Int) ∧ A'.length + l ≤ 3 * i + 3 ∧ Hid (NdInv w wi vs A' ∧ Pg.see (keysD ⟨(pn : Int), (sn : Int), mf, mr⟩ l ++ (L.drop (i + 1)).flatMap Pg.keysM) A' = R)) (fun _ lv _ => (intOf lv).toNat)
      case atStart => exact ⟨3, A, by omega, by omega, rfl, by omega, HR.out.1, HR2.out⟩
      case round =>
        obtain ⟨l, A', hl3, hsl, rfl, hAl', HRl⟩ := hrel
        obtain ⟨va', vc', hvs'⟩ := ownsMaps_form HRl.out.1.own
        subst hvs'
        have ks := HKC.out _ HRl.out.1.bel
        by_cases hsl2 : sn < l
        · have l1 : (sn : Int) < (l : Int) := by omega
          have HIA : Hid (IntsAt wr va' A') := owns_intsAt (cap := vc') (n := A'.length) HRl.out.1.own
          have HOW : Hid _ := HRl.out.1.own
          go_wp2_with fail
          go_loopw [7, 8] (fun nv kv wk => ∃ k : Nat, k ≤ l ∧ kv = .int .i64 (k : Int) ∧ nv = .int .i64 ((8 ^ k : Nat) : Int) ∧ Hid (wk = wr)) (fun _ kv _ => l - (intOf kv).toNat)
          case atStart => exact ⟨0, by omega, rfl, rfl, rfl⟩
          case round =>
            obtain ⟨k, hk, rfl, rfl, HW⟩ := hrel
            have ew := HW.out
            subst ew
            by_cases hkl : k < l
            · have k1 : (k : Int) < (l : Int) := by omega
              obtain ⟨N8, hN8, hNx, hNb⟩ : ∃ N8 : Nat, N8 = 8 ^ k ∧ N8 * 8 = 8 ^ (k + 1) ∧ N8 ≤ 64 := by
                refine ⟨8 ^ k, rfl, (Nat.pow_succ ..).symm, ?_⟩
                have hk3 : k = 0 ∨ k = 1 ∨ k = 2 := by omega
                rcases hk3 with rfl | rfl | rfl <;> decide
              rw [← hN8]
              have HN8 : Hid _ := hNx
              clear hN8 hNx
              go_wp2_with fail
              exact ⟨⟨k + 1, by omega, by go_num, by rw [← HN8.out]; simp, by first | trivial | rfl⟩, by simp [intOf]; omega⟩
            · have hkk : k = l := by omega
              subst hkk
              have k1 : ¬ (k : Int) < (k : Int) := by omega
              have hal2 : A'.length ≤ 20000 := by omega
              obtain ⟨lm, hkm⟩ : ∃ lm, k = lm + 1 := ⟨k - 1, by omega⟩
              have hsl3 : sn < lm + 1 := by omega
              have hal3 : A'.length + 1 + lm ≤ 3 * i + 3 := by omega
              have HSee : Hid (Pg.see (keysD ⟨(pn : Int), (sn : Int), mf, mr⟩ lm ++ (L.drop (i + 1)).flatMap Pg.keysM) (if ((pn / 8 ^ k * 4 + k : Nat) : Int) ∈ A' then A' else A' ++ [((pn / 8 ^ k * 4 + k : Nat) : Int)]) = R) := by
                have := HRl.out.2
                rw [hkm, keysD_more pn sn lm mf mr hsl3, List.cons_append, see_more] at this
                rw [hkm]
                exact this
              have hkey : wrap64 (wrap64 (wrap64 ((pn : Int) / ((8 ^ k : Nat) : Int)) * 4) + (k : Int)) = ((pn / 8 ^ k * 4 + k : Nat) : Int) := key_wrap hpn hl3
              have hN1 : (1 : Int) ≤ ((8 ^ k : Nat) : Int) := by
                have : 0 < 8 ^ k := Nat.pow_pos (by decide)
                exact Int.ofNat_le.2 this
              generalize ((pn / 8 ^ k * 4 + k : Nat) : Int) = key at *
              obtain ⟨N8, hN8⟩ : ∃ N8 : Nat, N8 = 8 ^ k := ⟨_, rfl⟩
              rw [← hN8] at hkey hN1
              have hN0 : ¬ (N8 : Int) = 0 := fun e => by rw [e] at hN1; exact absurd hN1 (by decide)
              rw [← hN8]
              have HI := in_any (cap := vc') key wr HIA.out hal2
              have HB : Hid _ := HRl.out.1.bel
              have HKM : Hid _ := hkm
              clear hN8 HRl hkm
              have hkI : (k : Int) - 1 = (lm : Int) := by have := HKM.out; omega
              have hk1 : (1 : Int) ≤ (k : Int) := by have := HKM.out; omega
              have hlm3 : lm ≤ 3 := by have := HKM.out; omega
              have hslm : sn ≤ lm := by omega
              by_cases hin : key ∈ A'
              · have hd : decide (key ∈ A') = true := by simpa using hin
                rw [hd] at HI
                have HS2 : Hid (Pg.see (keysD ⟨(pn : Int), (sn : Int), mf, mr⟩ lm ++ (L.drop (i + 1)).flatMap Pg.keysM) A' = R) := by have := HSee.out; rw [if_pos hin] at this; exact this
                clear hin hd HSee
                go_wp2_with fail
                refine HI.mono ?_
                rintro e w5 ⟨rfl, hw5⟩
                subst w5
                clear HI
                go_wp2_with fail
                exact ⟨⟨lm, A', hlm3, hslm, by first | go_num | simp [hkI] | rfl, by omega, ⟨HB.out, HOW.out⟩, HS2.out⟩, by have := HKM.out; simp [intOf]; omega⟩
              · have hd : decide (key ∈ A') = false := by simpa using hin
                rw [hd] at HI
                have HS2 : Hid (Pg.see (keysD ⟨(pn : Int), (sn : Int), mf, mr⟩ lm ++ (L.drop (i + 1)).flatMap Pg.keysM) (A' ++ [key]) = R) := by have := HSee.out; rw [if_neg hin] at this; exact this
                obtain ⟨q0, hq, hz0, hz1, hz2⟩ := info_parts infoIntW
                have hown := HOW.out
                have hsw : w.heap.size ≤ wr.heap.size := HB.out.size
                clear hin hd HSee
                go_wp2_with fail
                refine HI.mono ?_
                rintro e w5 ⟨rfl, hw5⟩
                subst w5
                clear HI
                go_wp2_with (first
                  | (at_builtin; refine wpList_append_lies _ rfl _ _ 45 rfl w.heap.size 3 q0 (.int .i64 0) 1 8 Tryz.underlying45 hq hz0 hz1 hz2 rfl (by decide) _ _ _ rfl (World.ownsRow.alloc hown _) ⟨wr.heap.size, 0, none⟩ 1 1 [.int .i64 key] rfl rfl ?c1 ?c2 (by decide) ?c3 ?c4 ?c5 (wr.heap.size + 1) (by simp) ?_))
                case c1 =>
                  intro j u hj
                  exact World.news_of_block (cs := #[.int .i64 key]) (heap_alloc_new wr _) j u hj
                case c2 => intro u hu; simp at hu; subst hu; rfl
                case c3 => unfold maxLen; omega
                case c4 => omega
                case c5 => simp; omega
                intro g9 cap9 w9 hown9 hgrow9 hat9 hlt9
                have fin : Hid (NdInv w w9 (.slice (some ⟨g9, 0, none⟩) (A'.length + 1) cap9) (A' ++ [key])) := by
                  have hb9 : But (fun j => (Value.slice va' A'.length vc').ownBlock = some j) wr w9 := (But.of_below (balloc (brefl wr) _)).grown hgrow9 fun k hk => .inr hk
                  refine ⟨HB.out.trans (hb9.below hsw fun j hj => (World.ownsRow.lt HOW.out j hj).1), ?_⟩
                  have e1 : ints (A' ++ [key]) = ints A' ++ [.int .i64 key] := by simp [ints]
                  rw [List.length_append, List.length_singleton, e1]
                  exact hown9
                clear hown9 hgrow9 hat9 hlt9 hown
                go_wp2_with fail
                exact ⟨⟨lm, A' ++ [key], hlm3, hslm, by first | go_num | simp [hkI] | rfl, by simp; omega, fin.out, HS2.out⟩, by have := HKM.out; simp [intOf]; omega⟩
        · have hee : l = sn := by omega
          subst hee
          have l1 : ¬ (l : Int) < (l : Int) := by omega
          have fin : Hid (Pg.see ((L.drop (i + 1)).flatMap Pg.keysM) A' = R) := by
            have := HRl.out.2
            have e : keysD ⟨(pn : Int), (l : Int), mf, mr⟩ l = [] := by cases l <;> simp [keysD]
            rw [e] at this
            exact this
          go_wp2_with fail
          exact ⟨⟨i + 1, A', by omega, by go_num, by omega, HRl.out.1, fin.out⟩, by simp [intOf]; omega⟩
    · have i1 : ¬ (i : Int) < (L.length : Int) := by omega
      have HFin : Hid (A = R) := by
        have := HR.out.2
        rw [List.drop_eq_nil_of_le (by omega)] at this
        exact this
      have hal : A.length ≤ 15000 := by omega
      have HLn : Hid ((A.length : Int) + 1 = Pg.needed L) := by rw [Hid, HN.out, HFin.out]
      have HB : Hid _ := HR.out.1.bel
      generalize A.length = al at *
      go_wp2_with fail
      go_ret
      exact ⟨ret_int HLn.out, HB.out⟩
end Go.Proofs.YtiojflaehjbcbaeGreat
