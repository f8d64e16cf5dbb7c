
/-
  WalkList: a list is all ways: if all words are such as may stand there, a page's way ends at a leaf just if a mapping of the list has it, and that is its mapping; each leaf's tables are among the tables; it is so for every input.
-/
import Derived.Test.YtbkpndgadgafiacWalkI
import Derived.Test.YtbkpndgadgafiacWalkD
import Derived.Test.YtbkpndgadgafiacPlainWL
import Derived.Test.YtbkpndgadgafiacPageRef
import Derived.Test.YtbkpndgadgafiacEntryRefC
import Derived.Test.YtbkpndgadgafiacFrameW
namespace Go.Proofs.Ytbkpndgadgafiac
open Go.ChangeShapes Go.WideShapes Go.ChangeAt Go.RowKit Go.Joins Go.Sort
set_option linter.unusedVariables false
set_option maxRecDepth 100000

/-- How many of the first j mappings have the page. -/
def hasN (L : List Pg.Mp) (p : Int) (j : Nat) : Nat := ((L.take j).filter fun m => m.has p).length
theorem hasN_succ {L : List Pg.Mp} {p : Int} {j : Nat} (hj : j < L.length) : hasN L p (j + 1) = hasN L p j + if (L.getD j .zz).has p = true then 1 else 0 := by
  unfold hasN
  rw [List.take_add_one, List.getElem?_eq_getElem hj, List.filter_append, List.length_append, Pg.mp_at hj]
  simp only [Option.toList_some, List.filter_cons, List.filter_nil]
  split <;> simp
theorem hasN_le (L : List Pg.Mp) (p : Int) (j : Nat) : hasN L p j ≤ L.length := by
  unfold hasN
  exact Nat.le_trans (List.length_filter_le _ _) (by rw [List.length_take]; omega)

/-- What a list that met no code says of a page. -/
structure Says (S : Pg.Fs) (p : Int) : Prop where
  code : fndC S 0 p = 0
  tabs : ∀ x, x ∈ tabs (fndX S 0 p) → x ∈ (0 : Int) :: Pg.tabsOf (Pg.thr S Pg.allW 3 0 0).1
  maps : (Pg.mapsOf (Pg.thr S Pg.allW 3 0 0).1).filter (fun m => m.has p) = if (lastE (fndX S 0 p)).t = true then [(lastE (fndX S 0 p)).map (lastL (fndX S 0 p)) p] else []
  fit : ∀ m, m ∈ Pg.mapsOf (Pg.thr S Pg.allW 3 0 0).1 → Pg.fits m.p
theorem says {S : Pg.Fs} (h : S.Ok) {p : Int} (hp : Pg.below p 4096 = true) (hz : (Pg.thr S Pg.allW 3 0 0).2 = 0) : Says S p := by
  obtain ⟨p0, p1⟩ := Pg.below_iff.1 hp
  obtain ⟨q, rfl⟩ := Int.eq_ofNat_of_zero_le p0
  have hq : q < 4096 := by omega
  have hd : q / 8 ^ 3 < 8 := by
    rw [show (8 : Nat) ^ 3 = 512 by decide]
    omega
  obtain ⟨a1, a2, s, a3, a4⟩ := Pg.all_ways h q 3 (by omega) 0 0 (by omega) (by decide) (by omega) (by omega) hz
  have eX : fndX S 0 (q : Int) = (Pg.thr S (Pg.onW (q : Int)) 3 0 0).1 := by
    unfold fndX
    rw [if_pos ⟨hp, a1⟩]
  have eC : fndC S 0 (q : Int) = 0 := by
    unfold fndC
    rw [if_pos hp, a1]
  refine ⟨eC, fun x hx => ?_, ?_, fun m hm => ?_⟩
  · rw [eX] at hx
    simp only [tabs, List.mem_map] at hx
    obtain ⟨s', hs, rfl⟩ := hx
    exact a2 s' hs
  · rw [a4, eX]
    unfold lastE lastL
    rw [a3]
  · have := Pg.maps_range h 3 (by omega) 0 0 (by decide) hz m hm
    have h2 := (Pg.span_bd m.s).1
    have e : (((0 + 8) * 8 ^ 3 : Nat) : Int) = 4096 := by decide
    rw [e] at this
    unfold Pg.fits
    omega

set_option maxHeartbeats 4000000 in
theorem walkList_walk (W : World) (n : Int) (hn : Pg.fits n) (ad : Option Addr) (len cap : Nat) (q : Nat → Int) (hq : WordsAt W ad len q) (p : Int) (hp : Pg.fits p) :
    Calls Try.prog 4 #[.int .i64 n, .slice ad len cap, .int .i64 p] W fun e W' => e = .returned (.bool true) ∧ Below W.heap.size W W' := by
  have HQ : Hid (WordsAt W ad len q) := hq
  have HP : Hid _ := hp
  clear hq hn hp
  have hcase : decide (n < 1) = true ∨ (decide (n < 1) = false ∧ 128 < n) ∨ (decide (n < 1) = false ∧ decide (128 < n) = false ∧ 2000 < len) ∨ (decide (n < 1) = false ∧ decide (128 < n) = false ∧ 1 ≤ n ∧ n ≤ 128 ∧ len ≤ 2000) := by
    by_cases h0 : n < 1
    · exact .inl (by simpa using h0)
    · by_cases h1 : 128 < n
      · exact .inr (.inl ⟨by simpa using h0, h1⟩)
      · by_cases h2 : 2000 < len
        · exact .inr (.inr (.inl ⟨by simpa using h0, by simpa using h1, h2⟩))
        · exact .inr (.inr (.inr ⟨by simpa using h0, by simpa using h1, by omega, by omega, by omega⟩))
  rcases hcase with h0 | ⟨h0, h1⟩ | ⟨h0, h1, h2⟩ | ⟨h0, h1, n0, n1, h2⟩
  · go_enter Try.func4, Try.ntmps4
    go_wp2_with fail
    refine (walkBegun_any _).mono ?_
    rintro e w1 ⟨rfl, hb1⟩
    have HB : Hid _ := hb1
    clear hb1
    go_wp2_with fail
    go_ret
    exact ⟨rfl, HB.out⟩
  · go_enter Try.func4, Try.ntmps4
    go_wp2_with fail
    refine (walkBegun_any _).mono ?_
    rintro e w1 ⟨rfl, hb1⟩
    have HB : Hid _ := hb1
    clear hb1
    go_wp2_with fail
    go_ret
    exact ⟨rfl, HB.out⟩
  · have h3 : (2000 : Int) < (len : Int) := by omega
    go_enter Try.func4, Try.ntmps4
    go_wp2_with fail
    refine (walkBegun_any _).mono ?_
    rintro e w1 ⟨rfl, hb1⟩
    have HB : Hid _ := hb1
    clear hb1
    go_wp2_with fail
    go_ret
    exact ⟨rfl, HB.out⟩
  · obtain ⟨m, rfl⟩ := Int.eq_ofNat_of_zero_le (show 0 ≤ n by omega)
    have h3 : decide ((2000 : Int) < (len : Int)) = false := by simp; omega
    have h3' : decide (2000 < len) = false := by simp; omega
    have hm : m ≤ 128 := by omega
    go_enter Try.func4, Try.ntmps4
    go_wp2_with fail
    refine (walkBegun_any _).mono ?_
    rintro e w1 ⟨rfl, hb1⟩
    have HB1 : Hid _ := hb1
    clear hb1
    go_wp2_with fail
    refine (memory_any m hm (m : Int) ad len cap h2 q w1 (WordsAt.below HQ.out (Nat.le_refl _) HB1.out)).mono ?_
    rintro e w2 ⟨bf, bm, g0, g1, vb, F, rfl, hS⟩
    generalize Pg.Fs.memory m (m : Int) q len = S at *
    have HS : Hid _ := hS
    have HB2 : Hid (Below W.heap.size W w2) := bthen HB1.out hS.bel
    have HOK : Hid _ := hS.fr.ok
    clear hS
    go_wp2_with fail
    refine (wList_any 0 w2 HS.out.fr).mono ?_
    rintro e w3 ⟨d1, e1, L1, rfl, hL1, hm1, hb3⟩
    have S3 : Hid _ := HS.out.grow hb3
    have M1 : Hid (MapsAt w3 d1 L1) := hm1
    have HB3 : Hid (Below W.heap.size W w3) := bthen HB2.out hb3
    have HL1 : Hid _ := hL1
    clear hm1 hb3 hL1
    go_wp2_with fail
    refine (wTables_any 0 w3 S3.out.fr).mono ?_
    rintro e w4 ⟨d2, e2, L2, rfl, hL2, hm2, hb4⟩
    have S4 : Hid _ := S3.out.grow hb4
    have M2 : Hid (MapsAt w4 d1 L1) := M1.out.below hb4
    have T2 : Hid (IntsAt w4 d2 L2) := hm2
    have HB4 : Hid (Below W.heap.size W w4) := bthen HB3.out hb4
    have HL2 : Hid _ := hL2
    clear hm2 hb4 hL2
    by_cases hz : (Pg.thr S Pg.allW 3 0 0).2 = 0
    · have hlt : (Pg.thr S Pg.allW 3 0 0).1.length ≤ 4680 := Pg.thr_len S Pg.allW 3 0 0
      have eL1 : L1 = Pg.mapsOf (Pg.thr S Pg.allW 3 0 0).1 := by rw [HL1.out, if_pos hz]
      have eL2 : L2 = (0 : Int) :: Pg.tabsOf (Pg.thr S Pg.allW 3 0 0).1 := by rw [HL2.out, if_pos hz]
      have hl1 : L1.length ≤ 4680 := by rw [eL1]; exact Nat.le_trans (Pg.mapsOf_len _) hlt
      have hl2 : L2.length ≤ 4681 := by rw [eL2]; have := Pg.tabsOf_len (Pg.thr S Pg.allW 3 0 0).1; simp; omega
      have HC := wFind_any 0 p w4 S4.out.fr
      cases hp : Pg.below p 4096
      · have ec : fndC S 0 p = 1 := by simp [fndC, hp]
        rw [ec] at HC
        rw [hz]
        clear eL1 eL2 hz
        go_wp2_with fail
        refine HC.mono ?_
        rintro e w5 ⟨a1, c1, a2, c2, rfl, _, _, hb5⟩
        have HB5 : Hid (Below W.heap.size W w5) := bthen HB4.out hb5
        clear hb5 HC
        unfold spotV
        go_wp2_with fail
        go_ret
        exact ⟨rfl, balloc HB5.out _⟩
      · have HSY : Hid _ := says HOK.out hp hz
        have ET : Hid (∀ x, x ∈ tabs (fndX S 0 p) → x ∈ L2) := by rw [eL2]; exact HSY.out.tabs
        have EM : Hid (L1.filter (fun m => m.has p) = if (lastE (fndX S 0 p)).t = true then [(lastE (fndX S 0 p)).map (lastL (fndX S 0 p)) p] else []) := by rw [eL1]; exact HSY.out.maps
        have EF : Hid (∀ m, m ∈ L1 → Pg.fits m.p) := by rw [eL1]; exact HSY.out.fit
        have hXl := fndX_len S 0 p
        rw [HSY.out.code] at HC
        rw [hz]
        clear eL1 eL2 hz HL1 HL2 hlt HSY
        go_wp2_with fail
        refine HC.mono ?_
        rintro e w5 ⟨a1, c1, a2, c2, rfl, hi1, _, hb5⟩
        have HB5 : Hid (Below W.heap.size W w5) := bthen HB4.out hb5
        have M5 : Hid (MapsAt w5 d1 L1) := M2.out.below hb5
        have T5 : Hid (IntsAt w5 d2 L2) := T2.out.below hb5
        have I5 : Hid (IntsAt w5 a1 (tabs (fndX S 0 p))) := hi1
        clear hb5 HC hi1
        unfold spotV
        generalize fndX S 0 p = X at *
        generalize lastL X = xl at *
        generalize lastE X = xe at *
        obtain ⟨et, el, er, eu, ed, ef⟩ := xe
        simp only at EM
        obtain ⟨W6, hW6⟩ : ∃ W6, W6 = w5.alloc (.cells #[.int .i64 xl, .bool et, .bool el, .int .i64 er, .bool eu, .bool ed, .int .i64 ef, .slice a1 X.length c1, .slice a2 X.length c2] 32) := ⟨_, rfl⟩
        have hB66 : Below w5.heap.size w5 W6 := by rw [hW6]; exact balloc (brefl w5) _
        have SP : Hid (SpotAt w5.heap.size xl ⟨et, el, er, eu, ed, ef⟩ (.slice a1 X.length c1) (.slice a2 X.length c2) W6) := by
          rw [hW6]
          refine ⟨?_, ?_, ?_, ?_, ?_, ?_, ?_, ?_, ?_, fun o => ?_⟩ <;> simp [go_sem]
        have M6 : Hid (MapsAt W6 d1 L1) := M5.out.below hB66
        have T6 : Hid (IntsAt W6 d2 L2) := T5.out.below hB66
        have I6 : Hid (IntsAt W6 a1 (tabs X)) := I5.out.below hB66
        have HB6 : Hid (Below W.heap.size W W6) := bthen HB5.out hB66
        clear hB66
        simp only
        go_wp2_with fail
        rw [← hW6]
        clear hW6
        generalize w5.heap.size = sb at *
        go_loopw [15] (fun i wr => ∃ j : Nat, j ≤ X.length ∧ i = .int .i64 j ∧ Hid (Below W6.heap.size W6 wr)) (fun i _ => X.length - (intOf i).toNat)
        case atStart => exact ⟨0, by omega, rfl, brefl _⟩
        case round =>
          obtain ⟨j, hj, rfl, HR⟩ := hrel
          have SPr : Hid _ := SP.out.of_block (HR.out.block _ SP.out.lb)
          have s7 := SPr.out.c7
          have hlr := SPr.out.lb
          have j0 : (0 : Int) ≤ (j : Int) := by omega
          by_cases hlt : j < X.length
          · have j1 : (j : Int) < (X.length : Int) := by omega
            have htl : j < (tabs X).length := by rw [tabs_len]; exact hlt
            obtain ⟨g, rfl, hg, hc⟩ := IntsAt.below I6.out HR.out j htl
            have hmem : (tabs X).getD j 0 ∈ L2 := ET.out _ (by rw [List.getD, List.getElem?_eq_getElem htl]; exact List.getElem_mem _)
            have HI := in_yes (cap := e2) ((tabs X).getD j 0) hmem wr (IntsAt.below T6.out HR.out) (by omega)
            generalize (tabs X).getD j 0 = x at *
            clear hmem
            go_wp2_with fail
            refine HI.mono ?_
            rintro e w7 ⟨rfl, hb7⟩
            have fin : Hid _ := bthen HR.out hb7
            clear hb7 HI
            go_wp2_with fail
            exact ⟨⟨j + 1, by omega, by go_num, fin.out⟩, by simp [intOf]; omega⟩
          · have j1 : ¬ (j : Int) < (X.length : Int) := by omega
            have MR : Hid (MapsAt wr d1 L1) := M6.out.below HR.out
            have HBr : Hid (Below W.heap.size W wr) := bthen HB6.out HR.out
            clear hlt hj j0
            go_wp2_with fail
            go_loopw [16, 17] (fun k i w2 => ∃ i' : Nat, i' ≤ L1.length ∧ k = .int .i64 (hasN L1 p i' : Nat) ∧ i = .int .i64 i' ∧ Hid (Below wr.heap.size wr w2)) (fun _ i _ => L1.length - (intOf i).toNat)
            case atStart => exact ⟨0, by omega, rfl, rfl, brefl _⟩
            case round =>
              obtain ⟨i, hi, rfl, rfl, HR2⟩ := hrel
              have SP2 : Hid _ := SPr.out.of_block (HR2.out.block _ SPr.out.lb)
              have hHN := hasN_le L1 p i
              have HBw : Hid (Below W.heap.size W wr) := bthen HBr.out HR2.out
              clear s7 hlr
              have hls := SP2.out.lb
              obtain ⟨s0, s1, s2, s3, s4, s5, s6, _, _, _⟩ := SP2.out
              simp only at s1 s2 s3 s4 s5 s6
              have i0 : (0 : Int) ≤ (i : Int) := by omega
              by_cases hil : i < L1.length
              · have i1 : (i : Int) < (L1.length : Int) := by omega
                obtain ⟨g, rfl, hg, hm⟩ := MapsAt.below MR.out HR2.out i hil
                obtain ⟨k0, k1, k2, k3⟩ := hm
                have hmem : L1.getD i .zz ∈ L1 := by rw [Pg.mp_at hil]; exact List.getElem_mem _
                have HC := refHas_any (L1.getD i .zz).p (L1.getD i .zz).s (L1.getD i .zz).f (L1.getD i .zz).r p (EF.out _ hmem) HP.out wr
                have hsucc := hasN_succ (p := p) hil
                cases hh : (L1.getD i .zz).has p
                · rw [hh] at hsucc
                  rw [show Pg.over (L1.getD i .zz).p (L1.getD i .zz).s p = false from hh] at HC
                  have HSU : Hid (hasN L1 p (i + 1) = hasN L1 p i) := by rw [Hid, hsucc]; simp
                  clear hsucc hh hmem
                  generalize L1.getD i .zz = x at *
                  obtain ⟨xp, xs, xf, xr⟩ := x
                  simp only at k0 k1 k2 k3 HC
                  go_wp2_with fail
                  refine HC.mono ?_
                  rintro e w9 ⟨rfl, hb9⟩
                  have fin : Hid _ := bthen HR2.out hb9
                  clear hb9 HC
                  go_wp2_with fail
                  exact ⟨⟨i + 1, by omega, by rw [HSU.out], by go_num, fin.out⟩, by simp [intOf]; omega⟩
                · rw [hh] at hsucc
                  rw [show Pg.over (L1.getD i .zz).p (L1.getD i .zz).s p = true from hh] at HC
                  have HSU : Hid (hasN L1 p (i + 1) = hasN L1 p i + 1) := by rw [Hid, hsucc]; simp
                  have hin : L1.getD i .zz ∈ L1.filter (fun m => m.has p) := List.mem_filter.2 ⟨hmem, hh⟩
                  rw [EM.out] at hin
                  have hE : L1.getD i .zz = (⟨et, el, er, eu, ed, ef⟩ : Pg.En).map xl p := by
                    split at hin
                    · simpa using hin
                    · simp at hin
                  have HLM := leafMap_any et el er eu ed ef xl p
                  rw [Pg.mapV_of ⟨et, el, er, eu, ed, ef⟩, ← hE] at HLM
                  clear hsucc hh hmem hin hE
                  generalize L1.getD i .zz = x at *
                  obtain ⟨xp, xs, xf, xr⟩ := x
                  simp only [Pg.Mp.val] at k0 k1 k2 k3 HC HLM
                  go_wp2_with fail
                  refine HC.mono ?_
                  rintro e w9 ⟨rfl, hb9⟩
                  have K0 := cell_regrown (cell_later hb9 k0)
                  have K1 := cell_regrown (cell_later hb9 k1)
                  have K2 := cell_regrown (cell_later hb9 k2)
                  have K3 := cell_regrown (cell_later hb9 k3)
                  have Z0 := cell_regrown (cell_later hb9 s0)
                  have Z1 := cell_regrown (cell_later hb9 s1)
                  have Z2 := cell_regrown (cell_later hb9 s2)
                  have Z3 := cell_regrown (cell_later hb9 s3)
                  have Z4 := cell_regrown (cell_later hb9 s4)
                  have Z5 := cell_regrown (cell_later hb9 s5)
                  have Z6 := cell_regrown (cell_later hb9 s6)
                  have HB9 : Hid _ := bthen HR2.out hb9
                  clear hb9 HC k0 k1 k2 k3 s0 s1 s2 s3 s4 s5 s6
                  go_wp2_with fail
                  refine wp_region_quiet_below (by kernel_rfl) (by kernel_rfl) ?_
                  repeat' (first
                    | go_big_quiet_step ((go_at_call 21; exact Calls.regrown_of (HLM _))))
                  refine wpQuiet_nil ?_
                  intro _ hw'
                  obtain ⟨⟨dq, osq⟩, rfl⟩ := hw'
                  have fin : Hid _ := bthen HB9.out (below_regrown w9 dq osq)
                  clear K0 K1 K2 K3 Z0 Z1 Z2 Z3 Z4 Z5 Z6 HLM
                  go_wp2_with fail
                  exact ⟨⟨i + 1, by omega, by rw [HSU.out]; simp, by go_num, fin.out⟩, by simp [intOf]; omega⟩
              · have hil' : i = L1.length := by omega
                have i1 : ¬ (i : Int) < (L1.length : Int) := by omega
                have hN : hasN L1 p i = if et = true then 1 else 0 := by
                  rw [hil']
                  unfold hasN
                  rw [List.take_length, EM.out]
                  split <;> simp
                cases et
                · have hN' : hasN L1 p i = 0 := by rw [hN]; rfl
                  rw [hN']
                  clear hN hN' hHN hil hil'
                  go_wp2_with fail
                  go_ret
                  exact ⟨rfl, HBw.out⟩
                · have hN' : hasN L1 p i = 1 := by rw [hN]; rfl
                  rw [hN']
                  clear hN hN' hHN hil hil'
                  go_wp2_with fail
                  go_ret
                  exact ⟨rfl, HBw.out⟩
    · have hzb : ((Pg.thr S Pg.allW 3 0 0).2 != 0) = true := by simp [hz]
      have eL1 : L1 = [] := by rw [HL1.out, if_neg hz]
      have eL2 : L2 = [] := by rw [HL2.out, if_neg hz]
      subst eL1 eL2
      clear hz HL1 HL2
      generalize (Pg.thr S Pg.allW 3 0 0).2 = kc at *
      go_wp2_with fail
      go_ret
      exact ⟨rfl, HB4.out⟩

set_option maxRecDepth 100000 in
theorem walkList_lifted (os : Os) (started : os.Started) (H : Type) (enc : TypeId × Value → H) :
    ReturnsInHanded {} Try.checked os 4 .any (Rows.walkListSpec.pre6 enc Try.prog Try.f4 Rows.walkListRow.domain false) (Rows.walkListSpec.post enc Try.prog Try.f4 false true false false) := by
  refine returnsInHanded_of_change (C := Try.checked) own started (by kernel_rfl) Try.func4
    (ChangeSpec.witness6 (enc := enc) (C := Try.checked) false ⟨#[], #[.int .i64 0, .slice none 0 0, .int .i64 0], []⟩ 8 (by kernel_rfl) (by kernel_rfl) (by kernel_rfl) (by kernel_rfl)) ?_
  intro W base args ds gs before hval0 hW hcnd _
  have hval : ∀ (j : Nat) t v, Try.f4.params[j]? = some t → args[j]? = some v → Value.okWide Try.prog W .any base t v := hval0
  have hW' := hW
  obtain ⟨p, q, hA0, hV, rfl, hfz, hnd⟩ := hW
  have hA : DataW.TrodAll enc Try.prog W 0 (fun _ => true) true Try.f4.params.toList args.toList ds p := hA0
  rw [Try.params4] at hA hval
  obtain ⟨v0, vs0, d0, ds0, p0, q0, hargs, rfl, rfl, h0, r0⟩ := trodAll_cons hA
  obtain ⟨v1, vs1, d1, ds1, p1, q1, rfl, rfl, rfl, h1, r1⟩ := trodAll_cons r0
  obtain ⟨v2, vs2, d2, ds2, p2, q2, rfl, rfl, rfl, h2, r2⟩ := trodAll_cons r1
  obtain ⟨rfl, rfl, rfl⟩ := trodAll_nil r2
  obtain rfl : args = #[v0, v1, v2] := by cases args; simp_all
  obtain ⟨rfl, rfl⟩ := trodVars_none hV
  obtain ⟨a0a, rfl, f0a⟩ := openInt (hval 0 3 v0 rfl rfl) h0
  obtain ⟨a1a, a1b, a1c, a1d, rfl, f1a⟩ := openWords (hval 1 22 v1 rfl rfl) h1
  obtain ⟨a2a, rfl, f2a⟩ := openInt (hval 2 3 v2 rfl rfl) h2
  clear hA0 hval0
  refine (walkList_walk W a0a f0a a1a a1b a1c a1d f1a a2a f2a).mono fun e W' ⟨he, bel⟩ => ?_
  subst he
  exact ⟨_, rfl, _, _, _, [], _, [], hW', trodAll_mk1 (shut_bool Try.underlying4 _), (trodAll_cons_mk (stays (by kernel_rfl) (of_decide_eq_true (by kernel_rfl)) h0 bel) (trodAll_cons_mk (stays (by kernel_rfl) (of_decide_eq_true (by kernel_rfl)) h1 bel) (trodAll_cons_mk (stays (by kernel_rfl) (of_decide_eq_true (by kernel_rfl)) h2 bel) trodAll_mk0))), rfl, bel.frame _, fun h => by cases h⟩

theorem walkList_over : Rows.walkListRow.holds Try.pinned (OpenSpec.ofChange Rows.walkListSpec) :=
  OpenClaim.holds_of_wide 4 Try.f4 rfl rfl rfl rfl rfl rfl rfl ⟨rfl, rfl, rfl, rfl, rfl⟩ rfl rfl rfl rfl rfl (by kernel_rfl) Try.func4 (by kernel_rfl)
    (of_decide_eq_true (by kernel_rfl)) (by unfold Func.isWrapper; first | (rw [if_pos (by decide +kernel)]; kernel_rfl) | (rw [if_neg (by decide +kernel)]; exact ⟨rfl, rfl⟩))
    (fun os started H enc _ => walkList_lifted os started H enc)

theorem walkList_proved : Rows.WalkListSaid := walkList_over
#print axioms walkList_proved
end Go.Proofs.Ytbkpndgadgafiac
