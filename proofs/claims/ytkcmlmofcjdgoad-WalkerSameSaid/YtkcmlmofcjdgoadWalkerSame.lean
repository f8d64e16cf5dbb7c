
/-
  WalkerSame: a walk again is the same: what a walk told it tells again, with no step more; that it began again on the way does not matter: on a way on which no table stands twice.
-/
import Derived.Test.YtkcmlmofcjdgoadKS
import Derived.Test.YtkcmlmofcjdgoadFrameW
import Derived.Deep.DeepCutAuto
import Derived.Test.YtkcmlmofcjdgoadRows
namespace Go.Proofs.Ytkcmlmofcjdgoad
open Go.ChangeShapes Go.WideShapes Go.ChangeAt Go.RowKit Go.Joins Go.Deep Go.Sort
set_option maxRecDepth 100000
set_option linter.unusedVariables false
set_option linter.unusedSimpArgs false

/-- No table stands twice on the way to a page. -/
def NoTwice (S : Pg.Fs) (p : Int) : Prop := fndC S 0 p = 0 → (tabs (fndX S 0 p)).Nodup
theorem nodup_take {L : List Int} {i : Nat} (h : (L.take i).Nodup) (hi : i < L.length) (hn : L.getD i 0 ∉ L.take i) : (L.take (i + 1)).Nodup := by
  have e : L.take (i + 1) = L.take i ++ [L.getD i 0] := by
    rw [List.take_add_one, List.getElem?_eq_getElem hi]
    simp [List.getD, hi]
  rw [e, List.nodup_append]
  refine ⟨h, by simp, fun a ha b hb hab => hn ?_⟩
  rw [List.mem_singleton] at hb
  exact (hab.trans hb) ▸ ha
theorem rem6 (n : Int) : ∃ m : Nat, m < 6 ∧ (IntKind.u64.wrap n).tmod 6 = (m : Int) := by
  have h0 : 0 ≤ IntKind.u64.wrap n := by
    simp only [IntKind.wrap, IntKind.bits, IntKind.signed, Bool.false_and, Bool.false_eq_true, if_false]; omega
  obtain ⟨k, hk⟩ := Int.eq_ofNat_of_zero_le h0
  rw [hk, Int.tmod_eq_emod_of_nonneg (by omega)]
  exact ⟨k % 6, by omega, by omega⟩

set_option maxHeartbeats 8000000 in
theorem walkerSame_walk (W : World) (n : Int) (hn : Pg.fits n) (ad : Option Addr) (len cap : Nat) (q : Nat → Int) (hq : WordsAt W ad len q) (p k : Int) (u : Bool) (hp : Pg.fits p) (hk : Pg.fits k) (at' : Int) (hat : Pg.fits at') :
    Calls Try.prog 8 #[.int .i64 n, .slice ad len cap, .agg #[.int .i64 p, .int .i64 k, .bool u], .int .i64 at'] W fun e W' => e = .returned (.bool true) ∧ Below W.heap.size W W' := by
  have HQ : Hid _ := hq
  clear hn hq hp hk hat
  obtain ⟨W1, hW1⟩ : ∃ W1, W1 = W.alloc (.cells #[.int .i64 p, .int .i64 k, .bool u] 29) := ⟨_, rfl⟩
  have hB1 : Below W.heap.size W W1 := by rw [hW1]; exact balloc (brefl W) _
  have A1 : Hid (W1.cell? ⟨W.heap.size, 0, none⟩ = some (.int .i64 p) ∧ W1.cell? ⟨W.heap.size, 1, none⟩ = some (.int .i64 k) ∧ W1.cell? ⟨W.heap.size, 2, none⟩ = some (.bool u)) := by rw [Hid, hW1]; simp [go_sem]
  have HB1 : Hid _ := hB1
  clear hB1
  have hcase : decide (n < 1) = true ∨ (decide (n < 1) = false ∧ decide (128 < n) = true) ∨ (decide (n < 1) = false ∧ decide (128 < n) = false ∧ (2000 : Int) < (len : Int)) ∨ (decide (n < 1) = false ∧ decide (128 < n) = false ∧ decide ((2000 : Int) < (len : Int)) = false ∧ 1 ≤ n ∧ n ≤ 128 ∧ len ≤ 2000) := by
    by_cases h0 : n < 1
    · exact .inl (by simpa using h0)
    · by_cases h1 : 128 < n
      · exact .inr (.inl ⟨by simpa using h0, by simpa using h1⟩)
      · by_cases h2 : 2000 < len
        · exact .inr (.inr (.inl ⟨by simpa using h0, by simpa using h1, by omega⟩))
        · exact .inr (.inr (.inr ⟨by simpa using h0, by simpa using h1, by simp; omega, by omega, by omega, by omega⟩))
  rcases hcase with h0 | ⟨h0, h1⟩ | ⟨h0, h1, h2⟩ | ⟨h0, h1, h2, n0, n1, hl⟩
  iterate 3 focus
    go_enter Try.func8, Try.ntmps8
    go_wp2_with fail
    rw [← hW1]
    refine (walkerBegun_any _).mono ?_
    rintro e w1 ⟨rfl, hb1⟩
    have HB : Hid _ := bthen HB1.out hb1
    clear hb1
    go_wp2_with fail
    go_ret
    exact ⟨rfl, HB.out⟩
  obtain ⟨nn, rfl⟩ := Int.eq_ofNat_of_zero_le (show 0 ≤ n by omega)
  go_enter Try.func8, Try.ntmps8
  go_wp2_with fail
  rw [← hW1]
  clear hW1
  refine (walkerBegun_any _).mono ?_
  rintro e w1 ⟨rfl, hb1⟩
  have HB2 : Hid (Below W.heap.size W w1) := bthen HB1.out hb1
  have HA2 : Hid _ := later3 hb1 A1.out
  have hA0 : W.heap.size < w1.heap.size := World.block_lt_of_cell? _ _ HA2.out.1
  have HM1 := memory_any nn (by omega) (nn : Int) ad len cap hl q w1 (WordsAt.below HQ.out (Nat.le_refl _) HB2.out)
  clear hb1 A1 HB1
  go_wp2_with fail
  refine HM1.mono ?_
  rintro e w2 ⟨bf, bm, g0, g1, vb, Ff, rfl, hS⟩
  have HS1 : Hid _ := hS
  have HM2 := memory_any nn (by omega) (nn : Int) ad len cap hl q w2 (WordsAt.below HQ.out (Nat.le_refl _) (HB2.out.trans (hS.bel.mono HB2.out.size)))
  clear hS HM1
  generalize Pg.Fs.memory nn (nn : Int) q len = S at *
  go_wp2_with fail
  refine HM2.mono ?_
  rintro e w3 ⟨bg, bm2, g02, g12, vb2, Fg, rfl, hS⟩
  have HF3 : Hid (Below w1.heap.size w1 w3 ∧ FrAt w3 bf S Ff ∧ FrAt w3 bg S Fg ∧ (∀ j, Ff j → w1.heap.size ≤ j) ∧ (∀ j, Fg j → w1.heap.size ≤ j) ∧ ∀ j, Ff j → ¬ Fg j) :=
    ⟨bthen HS1.out.bel hS.bel, FrAt.keep (G := fun _ => False) HS1.out.fr (But.of_below hS.bel) (fun _ _ => id), hS.fr, HS1.out.fhi, fun j hj => by have := hS.fhi j hj; have := HS1.out.bel.size; omega, fun j h1 h2 => by have := HS1.out.fr.lt h1; have := hS.fhi j h2; omega⟩
  clear hS HM2 HS1 HQ
  have HSO : Hid (S.Ok) := HF3.out.2.1.ok
  have HFi := wFind_cap 0 p w3 HF3.out.2.1
  obtain ⟨z0, z1, z2⟩ := later3 (hb := HF3.out.1.mono (Nat.le_refl _)) HA2.out
  go_wp2_with fail
  refine HFi.mono ?_
  rintro e w4 ⟨a1, c1, a2, c2, rfl, hi1, hcap, hb4⟩
  have HI4 : Hid (IntsAt w4 a1 (tabs (fndX S 0 p))) := hi1
  have HB4 : Hid (Below w1.heap.size w1 w4 ∧ FrAt w4 bf S Ff ∧ FrAt w4 bg S Fg) := ⟨HF3.out.1.trans (hb4.mono HF3.out.1.size), FrAt.keep (G := fun _ => False) HF3.out.2.1 (But.of_below hb4) (fun _ _ => id), FrAt.keep (G := fun _ => False) HF3.out.2.2.1 (But.of_below hb4) (fun _ _ => id)⟩
  have HFF : Hid ((∀ j, Ff j → w1.heap.size ≤ j) ∧ (∀ j, Fg j → w1.heap.size ≤ j) ∧ ∀ j, Ff j → ¬ Fg j) := HF3.out.2.2.2
  clear hi1 hb4 HFi HF3 z0 z1 z2
  have hlen4 := fndX_len S 0 p
  unfold spotV
  have hB5 := balloc (brefl w4) (.cells #[.int .i64 (lastL (fndX S 0 p)), .bool (lastE (fndX S 0 p)).t, .bool (lastE (fndX S 0 p)).l, .int .i64 (lastE (fndX S 0 p)).r, .bool (lastE (fndX S 0 p)).u, .bool (lastE (fndX S 0 p)).d, .int .i64 (lastE (fndX S 0 p)).f, .slice a1 (fndX S 0 p).length c1, .slice a2 (fndX S 0 p).length c2] 100)
  obtain ⟨W5, hW5⟩ : ∃ W5, W5 = w4.alloc (.cells #[.int .i64 (lastL (fndX S 0 p)), .bool (lastE (fndX S 0 p)).t, .bool (lastE (fndX S 0 p)).l, .int .i64 (lastE (fndX S 0 p)).r, .bool (lastE (fndX S 0 p)).u, .bool (lastE (fndX S 0 p)).d, .int .i64 (lastE (fndX S 0 p)).f, .slice a1 (fndX S 0 p).length c1, .slice a2 (fndX S 0 p).length c2] 100) := ⟨_, rfl⟩
  rw [← hW5] at hB5
  have C7 : Hid (W5.cell? ⟨w4.heap.size, 7, none⟩ = some (.slice a1 (fndX S 0 p).length c1)) := by rw [Hid, hW5]; simp [go_sem]
  have HBX : Hid (Below w1.heap.size w1 W5 ∧ FrAt W5 bf S Ff ∧ FrAt W5 bg S Fg) := ⟨bthen HB4.out.1 hB5 |> id, FrAt.keep (G := fun _ => False) HB4.out.2.1 (But.of_below hB5) (fun _ _ => id), FrAt.keep (G := fun _ => False) HB4.out.2.2 (But.of_below hB5) (fun _ _ => id)⟩
  have HI5 : Hid (IntsAt W5 a1 (tabs (fndX S 0 p))) := IntsAt.below HI4.out hB5
  have hS5 : w4.heap.size < W5.heap.size := by rw [hW5]; simp
  clear hB5 HB4 HI4
  have htl := tabs_len (fndX S 0 p)
  by_cases hf : fndC S 0 p = 0
  · have hf0 : Hid _ := hf
    rw [hf]
    clear hf
    generalize hX : fndX S 0 p = X at *
    have HX : Hid _ := hX
    clear hX
    go_wp2_with fail
    rw [← hW5]
    clear hW5
    generalize w4.heap.size = B13 at *
    go_loopw [15] (fun iv wr => ∃ i : Nat, i ≤ X.length ∧ iv = .int .i64 (i : Int) ∧ Hid (Below W5.heap.size W5 wr ∧ ((tabs X).take i).Nodup)) (fun iv _ => X.length - (intOf iv).toNat)
    case atStart => exact ⟨0, by omega, rfl, brefl _, by simp⟩
    case round =>
      obtain ⟨i, hi, rfl, HR⟩ := hrel
      have HBX2 : Hid (Below w1.heap.size w1 wr ∧ FrAt wr bf S Ff ∧ FrAt wr bg S Fg) := ⟨bthen HBX.out.1 HR.out.1, FrAt.keep (G := fun _ => False) HBX.out.2.1 (But.of_below HR.out.1) (fun _ _ => id), FrAt.keep (G := fun _ => False) HBX.out.2.2 (But.of_below HR.out.1) (fun _ _ => id)⟩
      have y7 := cell_later HR.out.1 C7.out
      have i0 : (0 : Int) ≤ (i : Int) := by omega
      by_cases hlt : i < X.length
      · have i1 : (i : Int) < (X.length : Int) := by omega
        have hIw := IntsAt.below HI5.out HR.out.1
        obtain ⟨g, rfl, hg, hc⟩ := hIw i (by rw [htl]; exact hlt)
        have HIn := fun d os => below_of_same (in_any (cap := c1) ((tabs X).getD i 0) _ (IntsAt.below (hIw.take i) (below_regrown wr d os)) (by rw [List.length_take]; omega))
        have hti : ((tabs X).take i).length = i := by rw [List.length_take, htl]; omega
        rw [hti] at HIn
        have HNX : Hid ((tabs X).getD i 0 ∉ (tabs X).take i → ((tabs X).take (i + 1)).Nodup) := fun hnm => nodup_take HR.out.2 (by rw [htl]; exact hlt) hnm
        have Y7 := cell_regrown y7
        have i2 : (i : Int) ≤ (c1 : Int) := by omega
        have i3 : i ≤ c1 := by omega
        have YC := cell_regrown hc
        generalize (tabs X).getD i 0 = tv at *
        cases hin : decide (tv ∈ (tabs X).take i)
        · rw [hin] at HIn
          have hnm : tv ∉ (tabs X).take i := by simpa using hin
          have HND2 : Hid (((tabs X).take (i + 1)).Nodup) := HNX.out hnm
          clear hin hnm HNX
          go_wp2_with fail
          refine wp_region_quiet_below (by kernel_rfl) (by kernel_rfl) ?_
          repeat (first
            | go_big_quiet_step ((go_at_call 45; exact Calls.regrown_of (HIn _ _))))
          refine wpQuiet_nil ?_
          intro _ hw'
          obtain ⟨⟨dq, osq⟩, rfl⟩ := hw'
          have HBN : Hid (Below W5.heap.size W5 (grow (redrawn wr dq) osq)) := bthen HR.out.1 (below_regrown wr dq osq)
          clear HIn Y7 YC y7 hc HBX2 hIw
          generalize grow (redrawn wr dq) osq = w6 at *
          go_wp2_with fail
          first
            | exact ⟨⟨i + 1, by omega, by go_num, HBN.out, HND2.out⟩, by simp [intOf]; omega⟩
            | (go_roundw
               case rel => exact ⟨i + 1, by omega, by go_num, HBN.out, HND2.out⟩
               case measure => simp [intOf]; omega)
        · rw [hin] at HIn
          clear hin HNX
          go_wp2_with fail
          refine wp_region_quiet_below (by kernel_rfl) (by kernel_rfl) ?_
          repeat (first
            | go_big_quiet_step ((go_at_call 45; exact Calls.regrown_of (HIn _ _))))
          refine wpQuiet_nil ?_
          intro _ hw'
          obtain ⟨⟨dq, osq⟩, rfl⟩ := hw'
          have HBN : Hid (Below W.heap.size W (grow (redrawn wr dq) osq)) := HB2.out.trans ((bthen HBX2.out.1 (below_regrown wr dq osq)).mono HB2.out.size)
          clear HIn Y7 YC y7 hc HBX2 hIw
          generalize grow (redrawn wr dq) osq = w6 at *
          go_wp2_with fail
          go_ret
          exact ⟨rfl, HBN.out⟩
      · have hiX : i = X.length := by omega
        have HND : Hid (NoTwice S p) := fun _ => by
          have := HR.out.2
          rw [hiX, ← htl, List.take_length] at this
          rw [HX.out]
          exact this
        have i1 : ¬ (i : Int) < (X.length : Int) := by omega
        have d1 : decide ((i : Int) < (X.length : Int)) = false := by simpa using i1
        have d2 : decide (i < X.length) = false := by simpa using hlt
        have HBX : Hid _ := HBX2.out
        clear HR HBX2
        go_wp2_with fail
        have HN1 := kNew_any 0 wr
        go_wp2_with fail
        refine HN1.mono ?_
        rintro e w7 ⟨bk, rfl, hk7, hb7, hbk7⟩
        have HN2 := kNew_any 0 w7
        go_wp2_with fail
        refine HN2.mono ?_
        rintro e w8 ⟨bj, rfl, hk8, hb8, hbk8⟩
        have P8 : Hid (Ws w1 w8 bf Ff S bk Pg.Wk.off bg Fg S bj Pg.Wk.off) := by
          have hb78 := bthen hb7 hb8
          have hs1 := HBX.out.1.size
          have hs7 := hb7.size
          have hl7 := hk7.lb
          refine ⟨⟨HBX.out.1.trans (hb78.mono hs1), FrAt.keep (G := fun _ => False) HBX.out.2.1 (But.of_below hb78) (fun _ _ => id), hk7.grow hb8, HFF.out.1, by omega, fun h => by have := FrAt.lt HBX.out.2.1 h; omega⟩, ⟨HBX.out.1.trans (hb78.mono hs1), FrAt.keep (G := fun _ => False) HBX.out.2.2 (But.of_below hb78) (fun _ _ => id), hk8, HFF.out.2.1, by omega, fun h => by have := FrAt.lt HBX.out.2.2 h; omega⟩, ?_⟩
          rintro j (h | h) (h' | h')
          · omega
          · have := FrAt.lt HBX.out.2.2 h'; omega
          · have := FrAt.lt HBX.out.2.1 h; omega
          · exact HFF.out.2.2 j h h'
        clear hk7 hb7 hbk7 hk8 hb8 hbk8 HN1 HN2 HBX
        have hA8 := later3 (hb := P8.out.a.bel.mono (Nat.le_refl _)) HA2.out
        obtain ⟨z0, z1, z2⟩ := hA8
        have HBg := kBegin_any Pg.Wk.off_ok p k u w8 P8.out.a.wk
        by_cases hc : Pg.checkAccess p k = 0
        · have e2 : bgnC Pg.Wk.off p k = 0 := by simp [bgnC, hc, Pg.Wk.off]
          have e3 : bgnK 0 Pg.Wk.off p k u = Pg.Wk.start 0 p k u := by simp [bgnK, e2]
          have HBC : Hid (bgnC Pg.Wk.off p k = 0 ∧ bgnK 0 Pg.Wk.off p k u = Pg.Wk.start 0 p k u) := ⟨e2, e3⟩
          have HBL : Hid (Pg.below p 4096 = true) := by
            unfold Pg.checkAccess at hc
            split at hc
            · split at hc
              · assumption
              · omega
            · omega
          have HKS : Hid ((Pg.Wk.start 0 p k u).Ok) := Pg.Wk.start_ok HBL.out
          rw [e2, e3] at HBg
          clear hc e2 e3
          go_wp2_with fail
          refine HBg.mono ?_
          rintro e w9 ⟨rfl, hk9, hc9⟩
          have P9 : Hid _ := P8.out.leftK hk9 hc9.but
          have HBj := kBegin_any Pg.Wk.off_ok p k u w9 P9.out.b.wk
          rw [HBC.out.1, HBC.out.2] at HBj
          clear hk9 hc9 HBg P8 z0 z1 z2
          obtain ⟨z0, z1, z2⟩ := later3 (hb := P9.out.a.bel.mono (Nat.le_refl _)) HA2.out
          go_wp2_with fail
          refine HBj.mono ?_
          rintro e w10 ⟨rfl, hk10, hc10⟩
          have P10 : Hid (∃ Fg' Sg' Kg', Ws w1 w10 bf Ff S bk (Pg.Wk.start 0 p k u) bg Fg' Sg' bj Kg' ∧ Kg'.Ok ∧ Still S p k u Sg' Kg') := ⟨Fg, S, _, P9.out.rightK hk10 hc10.but, HKS.out, fun _ => ⟨rfl, rfl, rfl, rfl⟩⟩
          clear hk10 hc10 HBj P9 z0 z1 z2
          obtain ⟨mm, hm6, hmm⟩ := rem6 at'
          have hm0 : (0 : Int) ≤ (mm : Int) := by omega
          go_wp2_with fail
          go_loopw [18] (fun iv wr => ∃ i : Nat, i ≤ mm ∧ iv = .int .i64 (i : Int) ∧ Hid (∃ Fg' Sg' Kg', Ws w1 wr bf Ff S bk (Pg.Wk.start 0 p k u) bg Fg' Sg' bj Kg' ∧ Kg'.Ok ∧ Still S p k u Sg' Kg')) (fun iv _ => mm - (intOf iv).toNat)
          case atStart => exact ⟨0, by omega, rfl, P10.out⟩
          case round =>
            obtain ⟨i, hi, rfl, HR⟩ := hrel
            clear P10
            obtain ⟨Fg2X, Sg2, Kg2, hws, hok, hst⟩ := HR.out
            have PR : Hid _ := hws
            have HOK : Hid (Kg2.Ok) := hok
            have HST : Hid (Still S p k u Sg2 Kg2) := hst
            clear hws hok hst HR
            have i0 : (0 : Int) ≤ (i : Int) := by omega
            by_cases hlt : i < mm
            · have i1 : (i : Int) < (mm : Int) := by omega
              have HOn := kOn_any wr PR.out.b.wk
              cases hon : Kg2.on
              · rw [hon] at HOn
                have HON : Hid _ := hon
                clear hon
                go_wp2_with fail
                refine HOn.mono ?_
                rintro e w11 ⟨rfl, hw11⟩
                subst w11
                clear HOn
                have HOn2 := kOn_any wr PR.out.b.wk
                rw [HON.out] at HOn2
                have HB28 : Hid (Below W.heap.size W wr) := HB2.out.trans (PR.out.a.bel.mono HB2.out.size)
                clear PR HOK HST HON
                go_wp2_with fail
                refine HOn2.mono ?_
                rintro e w20 ⟨rfl, hw20⟩
                subst w20
                go_wp2_with fail
                go_ret
                exact ⟨rfl, HB28.out⟩
              · rw [hon] at HOn
                have HON : Hid _ := hon
                clear hon
                have HSt := kStep_any HOK.out wr PR.out.b.wk PR.out.b.fr PR.out.b.ne
                have HK3 : Hid _ := Pg.kOut_ok PR.out.b.fr.ok HOK.out 0
                have HST3 : Hid (Still S p k u ((Pg.kOut Sg2 0 Kg2).fs Sg2 Kg2) ((Pg.kOut Sg2 0 Kg2).next Kg2)) := HST.out.step HON.out
                have HCN : Hid ((Pg.kOut Sg2 0 Kg2).cd ≠ 0 → (Pg.kOut Sg2 0 Kg2).next Kg2 = Kg2) := by
                  rcases hko : Pg.kOut Sg2 0 Kg2 with c | K' | r | ⟨e, m⟩
                  · exact fun _ => rfl
                  · exact fun h => absurd rfl h
                  · exact fun h => absurd rfl h
                  · exact fun h => absurd rfl h
                generalize Pg.Wo.next Kg2 (Pg.kOut Sg2 0 Kg2) = Kg3 at *
                generalize Pg.Wo.fs Sg2 Kg2 (Pg.kOut Sg2 0 Kg2) = Sg3 at *
                generalize Pg.Wo.res Kg2 (Pg.kOut Sg2 0 Kg2) = R3 at *
                generalize (Pg.kOut Sg2 0 Kg2).cd = c3 at *
                obtain ⟨qa, qb, qc, qd, ⟨qmp, qms, qmf, qmr⟩, qe⟩ := R3
                simp only [Pg.Rs.val] at HSt
                go_wp2_with fail
                refine HOn.mono ?_
                rintro e w11 ⟨rfl, hw11⟩
                subst w11
                clear HOn
                go_wp2_with fail
                refine HSt.mono ?_
                rintro e w12 ⟨rfl, hk12, Fg3X, hf12, hc12, hF12⟩
                have P12 : Hid _ := PR.out.right (PR.out.b.step hk12 hf12 hc12.but hF12) hc12.but hF12
                have P13 : Hid _ := P12.out.grow (balloc (brefl w12) (.cells #[.bool qa, .int .i64 qb, .int .i64 qc, .int .i64 qd, .int .i64 qmp, .int .i64 qms, .int .i64 qmf, .int .i64 qmr, .bool qe] 71))
                clear hk12 hf12 hc12 hF12 HSt P12 HOK HST
                by_cases hc3 : c3 = 0
                · subst hc3
                  have HN : Hid (∃ Fg' Sg' Kg', Ws w1 _ bf Ff S bk (Pg.Wk.start 0 p k u) bg Fg' Sg' bj Kg' ∧ Kg'.Ok ∧ Still S p k u Sg' Kg') := ⟨_, _, _, P13.out, HK3.out, HST3.out⟩
                  clear P13 HK3 HST3 HCN HON PR
                  go_wp2_with fail
                  first
                    | exact ⟨⟨i + 1, by omega, by go_num, HN.out⟩, by simp [intOf]; omega⟩
                    | (go_roundw
                       case rel => exact ⟨i + 1, by omega, by go_num, HN.out⟩
                       case measure => simp [intOf]; omega)
                · have hcn3 : (c3 != 0) = true := by simpa using hc3
                  have hkk := HCN.out hc3
                  subst hkk
                  have HOK : Hid _ := HK3.out
                  have HST : Hid (Still S p k u Sg3 Kg3) := HST3.out
                  clear HCN HK3 HST3 PR hc3
                  go_wp2_with fail
                  generalize w12.alloc (.cells #[.bool qa, .int .i64 qb, .int .i64 qc, .int .i64 qd, .int .i64 qmp, .int .i64 qms, .int .i64 qmf, .int .i64 qmr, .bool qe] 71) = w14 at *
                  have HOn2 := kOn_any w14 P13.out.b.wk
                  rw [HON.out] at HOn2
                  have HAg := kAgain_any w14 P13.out.b.wk
                  obtain ⟨es, ea⟩ := HST.out.again HON.out
                  rw [ea] at HAg
                  have HES : Hid _ := es
                  clear es ea
                  go_wp2_with fail
                  refine HOn2.mono ?_
                  rintro e w20 ⟨rfl, hw20⟩
                  subst w20
                  go_wp2_with fail
                  refine HAg.mono ?_
                  rintro e w21 ⟨rfl, hk21, hc21⟩
                  have P21 : Hid _ := P13.out.rightK hk21 hc21.but
                  rw [HES.out] at P21
                  clear hk21 hc21 HAg HOn2 P13 HOK HST HON HES
                  have HFa := finish_any HKS.out w21 P21.out.a
                  generalize hT : Pg.fin 0 19 1 S (Pg.Wk.start 0 p k u) = T at *
                  obtain ⟨⟨ra, rb, rc, rd, ⟨rmp, rms, rmf, rmr⟩, re⟩, Tn, Tc, TS, TK⟩ := T
                  simp only [Pg.Rs.val] at HFa
                  have HTT : Hid _ := hT
                  clear hT
                  go_wp2_with fail
                  refine HFa.mono ?_
                  rintro e w22 ⟨rfl, Ff2, hwf, hb22, hF22⟩
                  have P22 : Hid _ := P21.out.left hwf hb22 hF22
                  clear hwf hb22 hF22 HFa P21
                  obtain ⟨W23, hW23⟩ : ∃ W23, W23 = w22.alloc (.cells #[.bool ra, .int .i64 rb, .int .i64 rc, .int .i64 rd, .int .i64 rmp, .int .i64 rms, .int .i64 rmf, .int .i64 rmr, .bool re] 71) := ⟨_, rfl⟩
                  have hb23 : Below w22.heap.size w22 W23 := by rw [hW23]; exact balloc (brefl _) _
                  have R23 : Hid (W23.heap[w22.heap.size]? = some (.cells #[.bool ra, .int .i64 rb, .int .i64 rc, .int .i64 rd, .int .i64 rmp, .int .i64 rms, .int .i64 rmf, .int .i64 rmr, .bool re] 71 (0, 0))) := by rw [Hid, hW23]; exact heap_alloc_new _ _
                  have P23 : Hid _ := P22.out.grow hb23
                  have XN : Hid (¬ Ff2 w22.heap.size ∧ w22.heap.size ≠ bk ∧ ¬ Fg3X w22.heap.size ∧ w22.heap.size ≠ bj) := ⟨fun h => by have := P22.out.a.fr.lt h; omega, fun e => by have := P22.out.a.wk.lb; omega, fun h => by have := P22.out.b.fr.lt h; omega, fun e => by have := P22.out.b.wk.lb; omega⟩
                  have HFb := finish_any HKS.out W23 P23.out.b
                  rw [HTT.out] at HFb
                  simp only [Pg.Rs.val] at HFb
                  clear hb23 P22
                  go_wp2_with fail
                  rw [← hW23]
                  clear hW23
                  generalize w22.heap.size = X1 at *
                  refine HFb.mono ?_
                  rintro e w24 ⟨rfl, Fg3, hwf, hb24, hF24⟩
                  have P24 : Hid _ := P23.out.right hwf hb24 hF24
                  have R24 : Hid (w24.heap[X1]? = _) := (hb24.block _ (Array.getElem?_eq_some_iff.1 R23.out).1 (by rintro (h | h); exact XN.out.2.2.2 h; exact XN.out.2.2.1 h)).trans R23.out
                  clear hwf hb24 hF24 HFb P23 R23
                  have hX24 : X1 < w24.heap.size := (Array.getElem?_eq_some_iff.1 R24.out).1
                  have nX24 : X1 ≠ w24.heap.size := by omega
                  have mX24 : w24.heap.size ≠ X1 := by omega
                  obtain ⟨⟨x0, x1, x2, x3, x4, x5, x6, x7, x8⟩, xf⟩ := row9 R24.out
                  have era : (ra != ra) = false := by simp
                  have ere : (re != re) = false := by simp
                  have ecc : (Tc != Tc) = false := by simp
                  obtain ⟨W25, hW25⟩ : ∃ W25, W25 = w24.alloc (.cells #[.bool ra, .int .i64 rb, .int .i64 rc, .int .i64 rd, .int .i64 rmp, .int .i64 rms, .int .i64 rmf, .int .i64 rmr, .bool re] 71) := ⟨_, rfl⟩
                  have hb25 : Below w24.heap.size w24 W25 := by rw [hW25]; exact balloc (brefl _) _
                  have P25 : Hid _ := P24.out.grow hb25
                  have R25 : Hid (W25.heap[X1]? = _) := (hb25.block _ hX24).trans R24.out
                  have hA25 := later3 (hb := P24.out.a.bel.mono (Nat.le_refl _)) HA2.out
                  have hA26 : W.heap.size < w24.heap.size := World.block_lt_of_cell? _ _ hA25.1
                  have nA26 : W.heap.size ≠ w24.heap.size := by omega
                  have mA26 : w24.heap.size ≠ W.heap.size := by omega
                  by_cases hTc : Tc = 0
                  · subst hTc
                    have hsf := same_facts (k := k) (u := u) HSO.out HBL.out (show fndC S 0 p = 0 → (tabs (fndX S 0 p)).Nodup from HND.out) (by rw [HTT.out])
                    rw [HTT.out] at hsf
                    simp only at hsf
                    obtain ⟨f1, f2, f3, f4⟩ := hsf
                    subst f1
                    have HBg := kBegin_any Pg.Wk.off_ok p k u W25 P25.out.a.wk
                    rw [HBC.out.1, HBC.out.2] at HBg
                    have HFc := fun W' (h : Wf w1 W' bf Ff2 TS bk 0 (Pg.Wk.start 0 p k u)) => finish_any HKS.out W' h
                    generalize Pg.fin 0 19 1 TS (Pg.Wk.start 0 p k u) = T2 at *
                    obtain ⟨R2, T2n, T2c, T2S, T2K⟩ := T2
                    simp only at f2 f3 f4
                    subst f2 f3
                    simp only [Pg.Rs.val] at HFc
                    obtain ⟨z0, z1, z2⟩ := hA25
                    have HLE : Hid _ := f4
                    clear P24 hb25
                    go_wp2_with fail
                    rw [← hW25]
                    clear hW25 x0 x1 x2 x3 x4 x5 x6 x7 x8 xf
                    refine HBg.mono ?_
                    rintro e w26 ⟨rfl, hk26, hc26⟩
                    have P26 : Hid _ := P25.out.leftK hk26 hc26.but
                    have R26 : Hid (w26.heap[X1]? = _) := (hc26.but.block _ (Array.getElem?_eq_some_iff.1 R25.out).1 (fun e => XN.out.2.1 e)).trans R25.out
                    clear hk26 hc26 HBg P25 R25 z0 z1 z2
                    go_wp2_with fail
                    refine (HFc _ P26.out.a).mono ?_
                    rintro e w27 ⟨rfl, Ff4, hwf, hb27, hF27⟩
                    have R27 : Hid (w27.heap[X1]? = _) := (hb27.block _ (Array.getElem?_eq_some_iff.1 R26.out).1 (by rintro (h | h); exact XN.out.2.1 h; exact XN.out.1 h)).trans R26.out
                    have HB27 : Hid (Below W.heap.size W w27) := HB2.out.trans (hwf.bel.mono HB2.out.size)
                    have hX27 : X1 < w27.heap.size := (Array.getElem?_eq_some_iff.1 R27.out).1
                    have nX27 : X1 ≠ w27.heap.size := by omega
                    have mX27 : w27.heap.size ≠ X1 := by omega
                    obtain ⟨⟨x0, x1, x2, x3, x4, x5, x6, x7, x8⟩, xf⟩ := row9 R27.out
                    have hle : T2n ≤ Tn := HLE.out
                    clear hwf hb27 hF27 HFc P26 R26 R27 HLE
                    go_wp2_with fail
                    go_ret
                    exact ⟨rfl, balloc HB27.out _⟩
                  · have hcn : (Tc != 0) = true := by simpa using hTc
                    have HB28 : Hid (Below W.heap.size W W25) := HB2.out.trans (P25.out.a.bel.mono HB2.out.size)
                    clear hTc P24 hb25
                    go_wp2_with fail
                    first
                      | rw [← hW25]
                      | skip
                    go_ret
                    refine ⟨rfl, ?_⟩
                    first
                      | exact HB28.out
                      | (rw [← hW25]; exact HB28.out)
            · have i1 : ¬ (i : Int) < (mm : Int) := by omega
              have d1 : decide ((i : Int) < (mm : Int)) = false := by simpa using i1
              have d2 : decide (i < mm) = false := by simpa using hlt
              cases hon : Kg2.on
              · have HON : Hid _ := hon
                clear hon
                go_wp2_with fail
                have HOn2 := kOn_any wr PR.out.b.wk
                rw [HON.out] at HOn2
                have HB28 : Hid (Below W.heap.size W wr) := HB2.out.trans (PR.out.a.bel.mono HB2.out.size)
                clear PR HOK HST HON
                go_wp2_with fail
                refine HOn2.mono ?_
                rintro e w20 ⟨rfl, hw20⟩
                subst w20
                go_wp2_with fail
                go_ret
                exact ⟨rfl, HB28.out⟩
              · have HON : Hid _ := hon
                clear hon
                go_wp2_with fail
                have HOn2 := kOn_any wr PR.out.b.wk
                rw [HON.out] at HOn2
                have HAg := kAgain_any wr PR.out.b.wk
                obtain ⟨es, ea⟩ := HST.out.again HON.out
                rw [ea] at HAg
                have HES : Hid _ := es
                clear es ea
                go_wp2_with fail
                refine HOn2.mono ?_
                rintro e w20 ⟨rfl, hw20⟩
                subst w20
                go_wp2_with fail
                refine HAg.mono ?_
                rintro e w21 ⟨rfl, hk21, hc21⟩
                have P21 : Hid _ := PR.out.rightK hk21 hc21.but
                rw [HES.out] at P21
                clear hk21 hc21 HAg HOn2 PR HOK HST HON HES
                have HFa := finish_any HKS.out w21 P21.out.a
                generalize hT : Pg.fin 0 19 1 S (Pg.Wk.start 0 p k u) = T at *
                obtain ⟨⟨ra, rb, rc, rd, ⟨rmp, rms, rmf, rmr⟩, re⟩, Tn, Tc, TS, TK⟩ := T
                simp only [Pg.Rs.val] at HFa
                have HTT : Hid _ := hT
                clear hT
                go_wp2_with fail
                refine HFa.mono ?_
                rintro e w22 ⟨rfl, Ff2, hwf, hb22, hF22⟩
                have P22 : Hid _ := P21.out.left hwf hb22 hF22
                clear hwf hb22 hF22 HFa P21
                obtain ⟨W23, hW23⟩ : ∃ W23, W23 = w22.alloc (.cells #[.bool ra, .int .i64 rb, .int .i64 rc, .int .i64 rd, .int .i64 rmp, .int .i64 rms, .int .i64 rmf, .int .i64 rmr, .bool re] 71) := ⟨_, rfl⟩
                have hb23 : Below w22.heap.size w22 W23 := by rw [hW23]; exact balloc (brefl _) _
                have R23 : Hid (W23.heap[w22.heap.size]? = some (.cells #[.bool ra, .int .i64 rb, .int .i64 rc, .int .i64 rd, .int .i64 rmp, .int .i64 rms, .int .i64 rmf, .int .i64 rmr, .bool re] 71 (0, 0))) := by rw [Hid, hW23]; exact heap_alloc_new _ _
                have P23 : Hid _ := P22.out.grow hb23
                have XN : Hid (¬ Ff2 w22.heap.size ∧ w22.heap.size ≠ bk ∧ ¬ Fg2X w22.heap.size ∧ w22.heap.size ≠ bj) := ⟨fun h => by have := P22.out.a.fr.lt h; omega, fun e => by have := P22.out.a.wk.lb; omega, fun h => by have := P22.out.b.fr.lt h; omega, fun e => by have := P22.out.b.wk.lb; omega⟩
                have HFb := finish_any HKS.out W23 P23.out.b
                rw [HTT.out] at HFb
                simp only [Pg.Rs.val] at HFb
                clear hb23 P22
                go_wp2_with fail
                rw [← hW23]
                clear hW23
                generalize w22.heap.size = X1 at *
                refine HFb.mono ?_
                rintro e w24 ⟨rfl, Fg3, hwf, hb24, hF24⟩
                have P24 : Hid _ := P23.out.right hwf hb24 hF24
                have R24 : Hid (w24.heap[X1]? = _) := (hb24.block _ (Array.getElem?_eq_some_iff.1 R23.out).1 (by rintro (h | h); exact XN.out.2.2.2 h; exact XN.out.2.2.1 h)).trans R23.out
                clear hwf hb24 hF24 HFb P23 R23
                have hX24 : X1 < w24.heap.size := (Array.getElem?_eq_some_iff.1 R24.out).1
                have nX24 : X1 ≠ w24.heap.size := by omega
                have mX24 : w24.heap.size ≠ X1 := by omega
                obtain ⟨⟨x0, x1, x2, x3, x4, x5, x6, x7, x8⟩, xf⟩ := row9 R24.out
                have era : (ra != ra) = false := by simp
                have ere : (re != re) = false := by simp
                have ecc : (Tc != Tc) = false := by simp
                obtain ⟨W25, hW25⟩ : ∃ W25, W25 = w24.alloc (.cells #[.bool ra, .int .i64 rb, .int .i64 rc, .int .i64 rd, .int .i64 rmp, .int .i64 rms, .int .i64 rmf, .int .i64 rmr, .bool re] 71) := ⟨_, rfl⟩
                have hb25 : Below w24.heap.size w24 W25 := by rw [hW25]; exact balloc (brefl _) _
                have P25 : Hid _ := P24.out.grow hb25
                have R25 : Hid (W25.heap[X1]? = _) := (hb25.block _ hX24).trans R24.out
                have hA25 := later3 (hb := P24.out.a.bel.mono (Nat.le_refl _)) HA2.out
                have hA26 : W.heap.size < w24.heap.size := World.block_lt_of_cell? _ _ hA25.1
                have nA26 : W.heap.size ≠ w24.heap.size := by omega
                have mA26 : w24.heap.size ≠ W.heap.size := by omega
                by_cases hTc : Tc = 0
                · subst hTc
                  have hsf := same_facts (k := k) (u := u) HSO.out HBL.out (show fndC S 0 p = 0 → (tabs (fndX S 0 p)).Nodup from HND.out) (by rw [HTT.out])
                  rw [HTT.out] at hsf
                  simp only at hsf
                  obtain ⟨f1, f2, f3, f4⟩ := hsf
                  subst f1
                  have HBg := kBegin_any Pg.Wk.off_ok p k u W25 P25.out.a.wk
                  rw [HBC.out.1, HBC.out.2] at HBg
                  have HFc := fun W' (h : Wf w1 W' bf Ff2 TS bk 0 (Pg.Wk.start 0 p k u)) => finish_any HKS.out W' h
                  generalize Pg.fin 0 19 1 TS (Pg.Wk.start 0 p k u) = T2 at *
                  obtain ⟨R2, T2n, T2c, T2S, T2K⟩ := T2
                  simp only at f2 f3 f4
                  subst f2 f3
                  simp only [Pg.Rs.val] at HFc
                  obtain ⟨z0, z1, z2⟩ := hA25
                  have HLE : Hid _ := f4
                  clear P24 hb25
                  go_wp2_with fail
                  rw [← hW25]
                  clear hW25 x0 x1 x2 x3 x4 x5 x6 x7 x8 xf
                  refine HBg.mono ?_
                  rintro e w26 ⟨rfl, hk26, hc26⟩
                  have P26 : Hid _ := P25.out.leftK hk26 hc26.but
                  have R26 : Hid (w26.heap[X1]? = _) := (hc26.but.block _ (Array.getElem?_eq_some_iff.1 R25.out).1 (fun e => XN.out.2.1 e)).trans R25.out
                  clear hk26 hc26 HBg P25 R25 z0 z1 z2
                  go_wp2_with fail
                  refine (HFc _ P26.out.a).mono ?_
                  rintro e w27 ⟨rfl, Ff4, hwf, hb27, hF27⟩
                  have R27 : Hid (w27.heap[X1]? = _) := (hb27.block _ (Array.getElem?_eq_some_iff.1 R26.out).1 (by rintro (h | h); exact XN.out.2.1 h; exact XN.out.1 h)).trans R26.out
                  have HB27 : Hid (Below W.heap.size W w27) := HB2.out.trans (hwf.bel.mono HB2.out.size)
                  have hX27 : X1 < w27.heap.size := (Array.getElem?_eq_some_iff.1 R27.out).1
                  have nX27 : X1 ≠ w27.heap.size := by omega
                  have mX27 : w27.heap.size ≠ X1 := by omega
                  obtain ⟨⟨x0, x1, x2, x3, x4, x5, x6, x7, x8⟩, xf⟩ := row9 R27.out
                  have hle : T2n ≤ Tn := HLE.out
                  clear hwf hb27 hF27 HFc P26 R26 R27 HLE
                  go_wp2_with fail
                  go_ret
                  exact ⟨rfl, balloc HB27.out _⟩
                · have hcn : (Tc != 0) = true := by simpa using hTc
                  have HB28 : Hid (Below W.heap.size W W25) := HB2.out.trans (P25.out.a.bel.mono HB2.out.size)
                  clear hTc P24 hb25
                  go_wp2_with fail
                  first
                    | rw [← hW25]
                    | skip
                  go_ret
                  refine ⟨rfl, ?_⟩
                  first
                    | exact HB28.out
                    | (rw [← hW25]; exact HB28.out)

        · have e2 : bgnC Pg.Wk.off p k = Pg.checkAccess p k := by simp [bgnC, hc]
          have hcn : (Pg.checkAccess p k != 0) = true := by simpa using hc
          rw [e2] at HBg
          generalize Pg.checkAccess p k = cc at *
          clear hc e2
          go_wp2_with fail
          refine HBg.mono ?_
          rintro e w9 ⟨rfl, hk9, hc9⟩
          have HB28 : Hid (Below W.heap.size W w9) := HB2.out.trans ((P8.out.a.own hk9 hc9.but).bel.mono HB2.out.size)
          clear hk9 hc9 HBg P8 z0 z1 z2
          go_wp2_with fail
          go_ret
          exact ⟨rfl, HB28.out⟩
  · have hfn : (fndC S 0 p == 0) = false := by simpa using hf
    have HND : Hid (NoTwice S p) := fun h => absurd h hf
    generalize fndC S 0 p = fc at *
    generalize hX : fndX S 0 p = X at *
    go_wp2_with fail
    rw [← hW5]
    clear hW5 hX hf hfn C7 HI5 htl hlen4
    have HN1 := kNew_any 0 W5
    go_wp2_with fail
    refine HN1.mono ?_
    rintro e w7 ⟨bk, rfl, hk7, hb7, hbk7⟩
    have HN2 := kNew_any 0 w7
    go_wp2_with fail
    refine HN2.mono ?_
    rintro e w8 ⟨bj, rfl, hk8, hb8, hbk8⟩
    have P8 : Hid (Ws w1 w8 bf Ff S bk Pg.Wk.off bg Fg S bj Pg.Wk.off) := by
      have hb78 := bthen hb7 hb8
      have hs1 := HBX.out.1.size
      have hs7 := hb7.size
      have hl7 := hk7.lb
      refine ⟨⟨HBX.out.1.trans (hb78.mono hs1), FrAt.keep (G := fun _ => False) HBX.out.2.1 (But.of_below hb78) (fun _ _ => id), hk7.grow hb8, HFF.out.1, by omega, fun h => by have := FrAt.lt HBX.out.2.1 h; omega⟩, ⟨HBX.out.1.trans (hb78.mono hs1), FrAt.keep (G := fun _ => False) HBX.out.2.2 (But.of_below hb78) (fun _ _ => id), hk8, HFF.out.2.1, by omega, fun h => by have := FrAt.lt HBX.out.2.2 h; omega⟩, ?_⟩
      rintro j (h | h) (h' | h')
      · omega
      · have := FrAt.lt HBX.out.2.2 h'; omega
      · have := FrAt.lt HBX.out.2.1 h; omega
      · exact HFF.out.2.2 j h h'
    clear hk7 hb7 hbk7 hk8 hb8 hbk8 HN1 HN2 HBX
    have hA8 := later3 (hb := P8.out.a.bel.mono (Nat.le_refl _)) HA2.out
    obtain ⟨z0, z1, z2⟩ := hA8
    have HBg := kBegin_any Pg.Wk.off_ok p k u w8 P8.out.a.wk
    by_cases hc : Pg.checkAccess p k = 0
    · have e2 : bgnC Pg.Wk.off p k = 0 := by simp [bgnC, hc, Pg.Wk.off]
      have e3 : bgnK 0 Pg.Wk.off p k u = Pg.Wk.start 0 p k u := by simp [bgnK, e2]
      have HBC : Hid (bgnC Pg.Wk.off p k = 0 ∧ bgnK 0 Pg.Wk.off p k u = Pg.Wk.start 0 p k u) := ⟨e2, e3⟩
      have HBL : Hid (Pg.below p 4096 = true) := by
        unfold Pg.checkAccess at hc
        split at hc
        · split at hc
          · assumption
          · omega
        · omega
      have HKS : Hid ((Pg.Wk.start 0 p k u).Ok) := Pg.Wk.start_ok HBL.out
      rw [e2, e3] at HBg
      clear hc e2 e3
      go_wp2_with fail
      refine HBg.mono ?_
      rintro e w9 ⟨rfl, hk9, hc9⟩
      have P9 : Hid _ := P8.out.leftK hk9 hc9.but
      have HBj := kBegin_any Pg.Wk.off_ok p k u w9 P9.out.b.wk
      rw [HBC.out.1, HBC.out.2] at HBj
      clear hk9 hc9 HBg P8 z0 z1 z2
      obtain ⟨z0, z1, z2⟩ := later3 (hb := P9.out.a.bel.mono (Nat.le_refl _)) HA2.out
      go_wp2_with fail
      refine HBj.mono ?_
      rintro e w10 ⟨rfl, hk10, hc10⟩
      have P10 : Hid (∃ Fg' Sg' Kg', Ws w1 w10 bf Ff S bk (Pg.Wk.start 0 p k u) bg Fg' Sg' bj Kg' ∧ Kg'.Ok ∧ Still S p k u Sg' Kg') := ⟨Fg, S, _, P9.out.rightK hk10 hc10.but, HKS.out, fun _ => ⟨rfl, rfl, rfl, rfl⟩⟩
      clear hk10 hc10 HBj P9 z0 z1 z2
      obtain ⟨mm, hm6, hmm⟩ := rem6 at'
      have hm0 : (0 : Int) ≤ (mm : Int) := by omega
      go_wp2_with fail
      go_loopw [18] (fun iv wr => ∃ i : Nat, i ≤ mm ∧ iv = .int .i64 (i : Int) ∧ Hid (∃ Fg' Sg' Kg', Ws w1 wr bf Ff S bk (Pg.Wk.start 0 p k u) bg Fg' Sg' bj Kg' ∧ Kg'.Ok ∧ Still S p k u Sg' Kg')) (fun iv _ => mm - (intOf iv).toNat)
      case atStart => exact ⟨0, by omega, rfl, P10.out⟩
      case round =>
        obtain ⟨i, hi, rfl, HR⟩ := hrel
        clear P10
        obtain ⟨Fg2X, Sg2, Kg2, hws, hok, hst⟩ := HR.out
        have PR : Hid _ := hws
        have HOK : Hid (Kg2.Ok) := hok
        have HST : Hid (Still S p k u Sg2 Kg2) := hst
        clear hws hok hst HR
        have i0 : (0 : Int) ≤ (i : Int) := by omega
        by_cases hlt : i < mm
        · have i1 : (i : Int) < (mm : Int) := by omega
          have HOn := kOn_any wr PR.out.b.wk
          cases hon : Kg2.on
          · rw [hon] at HOn
            have HON : Hid _ := hon
            clear hon
            go_wp2_with fail
            refine HOn.mono ?_
            rintro e w11 ⟨rfl, hw11⟩
            subst w11
            clear HOn
            have HOn2 := kOn_any wr PR.out.b.wk
            rw [HON.out] at HOn2
            have HB28 : Hid (Below W.heap.size W wr) := HB2.out.trans (PR.out.a.bel.mono HB2.out.size)
            clear PR HOK HST HON
            go_wp2_with fail
            refine HOn2.mono ?_
            rintro e w20 ⟨rfl, hw20⟩
            subst w20
            go_wp2_with fail
            go_ret
            exact ⟨rfl, HB28.out⟩
          · rw [hon] at HOn
            have HON : Hid _ := hon
            clear hon
            have HSt := kStep_any HOK.out wr PR.out.b.wk PR.out.b.fr PR.out.b.ne
            have HK3 : Hid _ := Pg.kOut_ok PR.out.b.fr.ok HOK.out 0
            have HST3 : Hid (Still S p k u ((Pg.kOut Sg2 0 Kg2).fs Sg2 Kg2) ((Pg.kOut Sg2 0 Kg2).next Kg2)) := HST.out.step HON.out
            have HCN : Hid ((Pg.kOut Sg2 0 Kg2).cd ≠ 0 → (Pg.kOut Sg2 0 Kg2).next Kg2 = Kg2) := by
              rcases hko : Pg.kOut Sg2 0 Kg2 with c | K' | r | ⟨e, m⟩
              · exact fun _ => rfl
              · exact fun h => absurd rfl h
              · exact fun h => absurd rfl h
              · exact fun h => absurd rfl h
            generalize Pg.Wo.next Kg2 (Pg.kOut Sg2 0 Kg2) = Kg3 at *
            generalize Pg.Wo.fs Sg2 Kg2 (Pg.kOut Sg2 0 Kg2) = Sg3 at *
            generalize Pg.Wo.res Kg2 (Pg.kOut Sg2 0 Kg2) = R3 at *
            generalize (Pg.kOut Sg2 0 Kg2).cd = c3 at *
            obtain ⟨qa, qb, qc, qd, ⟨qmp, qms, qmf, qmr⟩, qe⟩ := R3
            simp only [Pg.Rs.val] at HSt
            go_wp2_with fail
            refine HOn.mono ?_
            rintro e w11 ⟨rfl, hw11⟩
            subst w11
            clear HOn
            go_wp2_with fail
            refine HSt.mono ?_
            rintro e w12 ⟨rfl, hk12, Fg3X, hf12, hc12, hF12⟩
            have P12 : Hid _ := PR.out.right (PR.out.b.step hk12 hf12 hc12.but hF12) hc12.but hF12
            have P13 : Hid _ := P12.out.grow (balloc (brefl w12) (.cells #[.bool qa, .int .i64 qb, .int .i64 qc, .int .i64 qd, .int .i64 qmp, .int .i64 qms, .int .i64 qmf, .int .i64 qmr, .bool qe] 71))
            clear hk12 hf12 hc12 hF12 HSt P12 HOK HST
            by_cases hc3 : c3 = 0
            · subst hc3
              have HN : Hid (∃ Fg' Sg' Kg', Ws w1 _ bf Ff S bk (Pg.Wk.start 0 p k u) bg Fg' Sg' bj Kg' ∧ Kg'.Ok ∧ Still S p k u Sg' Kg') := ⟨_, _, _, P13.out, HK3.out, HST3.out⟩
              clear P13 HK3 HST3 HCN HON PR
              go_wp2_with fail
              first
                | exact ⟨⟨i + 1, by omega, by go_num, HN.out⟩, by simp [intOf]; omega⟩
                | (go_roundw
                   case rel => exact ⟨i + 1, by omega, by go_num, HN.out⟩
                   case measure => simp [intOf]; omega)
            · have hcn3 : (c3 != 0) = true := by simpa using hc3
              have hkk := HCN.out hc3
              subst hkk
              have HOK : Hid _ := HK3.out
              have HST : Hid (Still S p k u Sg3 Kg3) := HST3.out
              clear HCN HK3 HST3 PR hc3
              go_wp2_with fail
              generalize w12.alloc (.cells #[.bool qa, .int .i64 qb, .int .i64 qc, .int .i64 qd, .int .i64 qmp, .int .i64 qms, .int .i64 qmf, .int .i64 qmr, .bool qe] 71) = w14 at *
              have HOn2 := kOn_any w14 P13.out.b.wk
              rw [HON.out] at HOn2
              have HAg := kAgain_any w14 P13.out.b.wk
              obtain ⟨es, ea⟩ := HST.out.again HON.out
              rw [ea] at HAg
              have HES : Hid _ := es
              clear es ea
              go_wp2_with fail
              refine HOn2.mono ?_
              rintro e w20 ⟨rfl, hw20⟩
              subst w20
              go_wp2_with fail
              refine HAg.mono ?_
              rintro e w21 ⟨rfl, hk21, hc21⟩
              have P21 : Hid _ := P13.out.rightK hk21 hc21.but
              rw [HES.out] at P21
              clear hk21 hc21 HAg HOn2 P13 HOK HST HON HES
              have HFa := finish_any HKS.out w21 P21.out.a
              generalize hT : Pg.fin 0 19 1 S (Pg.Wk.start 0 p k u) = T at *
              obtain ⟨⟨ra, rb, rc, rd, ⟨rmp, rms, rmf, rmr⟩, re⟩, Tn, Tc, TS, TK⟩ := T
              simp only [Pg.Rs.val] at HFa
              have HTT : Hid _ := hT
              clear hT
              go_wp2_with fail
              refine HFa.mono ?_
              rintro e w22 ⟨rfl, Ff2, hwf, hb22, hF22⟩
              have P22 : Hid _ := P21.out.left hwf hb22 hF22
              clear hwf hb22 hF22 HFa P21
              obtain ⟨W23, hW23⟩ : ∃ W23, W23 = w22.alloc (.cells #[.bool ra, .int .i64 rb, .int .i64 rc, .int .i64 rd, .int .i64 rmp, .int .i64 rms, .int .i64 rmf, .int .i64 rmr, .bool re] 71) := ⟨_, rfl⟩
              have hb23 : Below w22.heap.size w22 W23 := by rw [hW23]; exact balloc (brefl _) _
              have R23 : Hid (W23.heap[w22.heap.size]? = some (.cells #[.bool ra, .int .i64 rb, .int .i64 rc, .int .i64 rd, .int .i64 rmp, .int .i64 rms, .int .i64 rmf, .int .i64 rmr, .bool re] 71 (0, 0))) := by rw [Hid, hW23]; exact heap_alloc_new _ _
              have P23 : Hid _ := P22.out.grow hb23
              have XN : Hid (¬ Ff2 w22.heap.size ∧ w22.heap.size ≠ bk ∧ ¬ Fg3X w22.heap.size ∧ w22.heap.size ≠ bj) := ⟨fun h => by have := P22.out.a.fr.lt h; omega, fun e => by have := P22.out.a.wk.lb; omega, fun h => by have := P22.out.b.fr.lt h; omega, fun e => by have := P22.out.b.wk.lb; omega⟩
              have HFb := finish_any HKS.out W23 P23.out.b
              rw [HTT.out] at HFb
              simp only [Pg.Rs.val] at HFb
              clear hb23 P22
              go_wp2_with fail
              rw [← hW23]
              clear hW23
              generalize w22.heap.size = X1 at *
              refine HFb.mono ?_
              rintro e w24 ⟨rfl, Fg3, hwf, hb24, hF24⟩
              have P24 : Hid _ := P23.out.right hwf hb24 hF24
              have R24 : Hid (w24.heap[X1]? = _) := (hb24.block _ (Array.getElem?_eq_some_iff.1 R23.out).1 (by rintro (h | h); exact XN.out.2.2.2 h; exact XN.out.2.2.1 h)).trans R23.out
              clear hwf hb24 hF24 HFb P23 R23
              have hX24 : X1 < w24.heap.size := (Array.getElem?_eq_some_iff.1 R24.out).1
              have nX24 : X1 ≠ w24.heap.size := by omega
              have mX24 : w24.heap.size ≠ X1 := by omega
              obtain ⟨⟨x0, x1, x2, x3, x4, x5, x6, x7, x8⟩, xf⟩ := row9 R24.out
              have era : (ra != ra) = false := by simp
              have ere : (re != re) = false := by simp
              have ecc : (Tc != Tc) = false := by simp
              obtain ⟨W25, hW25⟩ : ∃ W25, W25 = w24.alloc (.cells #[.bool ra, .int .i64 rb, .int .i64 rc, .int .i64 rd, .int .i64 rmp, .int .i64 rms, .int .i64 rmf, .int .i64 rmr, .bool re] 71) := ⟨_, rfl⟩
              have hb25 : Below w24.heap.size w24 W25 := by rw [hW25]; exact balloc (brefl _) _
              have P25 : Hid _ := P24.out.grow hb25
              have R25 : Hid (W25.heap[X1]? = _) := (hb25.block _ hX24).trans R24.out
              have hA25 := later3 (hb := P24.out.a.bel.mono (Nat.le_refl _)) HA2.out
              have hA26 : W.heap.size < w24.heap.size := World.block_lt_of_cell? _ _ hA25.1
              have nA26 : W.heap.size ≠ w24.heap.size := by omega
              have mA26 : w24.heap.size ≠ W.heap.size := by omega
              by_cases hTc : Tc = 0
              · subst hTc
                have hsf := same_facts (k := k) (u := u) HSO.out HBL.out (show fndC S 0 p = 0 → (tabs (fndX S 0 p)).Nodup from HND.out) (by rw [HTT.out])
                rw [HTT.out] at hsf
                simp only at hsf
                obtain ⟨f1, f2, f3, f4⟩ := hsf
                subst f1
                have HBg := kBegin_any Pg.Wk.off_ok p k u W25 P25.out.a.wk
                rw [HBC.out.1, HBC.out.2] at HBg
                have HFc := fun W' (h : Wf w1 W' bf Ff2 TS bk 0 (Pg.Wk.start 0 p k u)) => finish_any HKS.out W' h
                generalize Pg.fin 0 19 1 TS (Pg.Wk.start 0 p k u) = T2 at *
                obtain ⟨R2, T2n, T2c, T2S, T2K⟩ := T2
                simp only at f2 f3 f4
                subst f2 f3
                simp only [Pg.Rs.val] at HFc
                obtain ⟨z0, z1, z2⟩ := hA25
                have HLE : Hid _ := f4
                clear P24 hb25
                go_wp2_with fail
                rw [← hW25]
                clear hW25 x0 x1 x2 x3 x4 x5 x6 x7 x8 xf
                refine HBg.mono ?_
                rintro e w26 ⟨rfl, hk26, hc26⟩
                have P26 : Hid _ := P25.out.leftK hk26 hc26.but
                have R26 : Hid (w26.heap[X1]? = _) := (hc26.but.block _ (Array.getElem?_eq_some_iff.1 R25.out).1 (fun e => XN.out.2.1 e)).trans R25.out
                clear hk26 hc26 HBg P25 R25 z0 z1 z2
                go_wp2_with fail
                refine (HFc _ P26.out.a).mono ?_
                rintro e w27 ⟨rfl, Ff4, hwf, hb27, hF27⟩
                have R27 : Hid (w27.heap[X1]? = _) := (hb27.block _ (Array.getElem?_eq_some_iff.1 R26.out).1 (by rintro (h | h); exact XN.out.2.1 h; exact XN.out.1 h)).trans R26.out
                have HB27 : Hid (Below W.heap.size W w27) := HB2.out.trans (hwf.bel.mono HB2.out.size)
                have hX27 : X1 < w27.heap.size := (Array.getElem?_eq_some_iff.1 R27.out).1
                have nX27 : X1 ≠ w27.heap.size := by omega
                have mX27 : w27.heap.size ≠ X1 := by omega
                obtain ⟨⟨x0, x1, x2, x3, x4, x5, x6, x7, x8⟩, xf⟩ := row9 R27.out
                have hle : T2n ≤ Tn := HLE.out
                clear hwf hb27 hF27 HFc P26 R26 R27 HLE
                go_wp2_with fail
                go_ret
                exact ⟨rfl, balloc HB27.out _⟩
              · have hcn : (Tc != 0) = true := by simpa using hTc
                have HB28 : Hid (Below W.heap.size W W25) := HB2.out.trans (P25.out.a.bel.mono HB2.out.size)
                clear hTc P24 hb25
                go_wp2_with fail
                first
                  | rw [← hW25]
                  | skip
                go_ret
                refine ⟨rfl, ?_⟩
                first
                  | exact HB28.out
                  | (rw [← hW25]; exact HB28.out)
        · have i1 : ¬ (i : Int) < (mm : Int) := by omega
          have d1 : decide ((i : Int) < (mm : Int)) = false := by simpa using i1
          have d2 : decide (i < mm) = false := by simpa using hlt
          cases hon : Kg2.on
          · have HON : Hid _ := hon
            clear hon
            go_wp2_with fail
            have HOn2 := kOn_any wr PR.out.b.wk
            rw [HON.out] at HOn2
            have HB28 : Hid (Below W.heap.size W wr) := HB2.out.trans (PR.out.a.bel.mono HB2.out.size)
            clear PR HOK HST HON
            go_wp2_with fail
            refine HOn2.mono ?_
            rintro e w20 ⟨rfl, hw20⟩
            subst w20
            go_wp2_with fail
            go_ret
            exact ⟨rfl, HB28.out⟩
          · have HON : Hid _ := hon
            clear hon
            go_wp2_with fail
            have HOn2 := kOn_any wr PR.out.b.wk
            rw [HON.out] at HOn2
            have HAg := kAgain_any wr PR.out.b.wk
            obtain ⟨es, ea⟩ := HST.out.again HON.out
            rw [ea] at HAg
            have HES : Hid _ := es
            clear es ea
            go_wp2_with fail
            refine HOn2.mono ?_
            rintro e w20 ⟨rfl, hw20⟩
            subst w20
            go_wp2_with fail
            refine HAg.mono ?_
            rintro e w21 ⟨rfl, hk21, hc21⟩
            have P21 : Hid _ := PR.out.rightK hk21 hc21.but
            rw [HES.out] at P21
            clear hk21 hc21 HAg HOn2 PR HOK HST HON HES
            have HFa := finish_any HKS.out w21 P21.out.a
            generalize hT : Pg.fin 0 19 1 S (Pg.Wk.start 0 p k u) = T at *
            obtain ⟨⟨ra, rb, rc, rd, ⟨rmp, rms, rmf, rmr⟩, re⟩, Tn, Tc, TS, TK⟩ := T
            simp only [Pg.Rs.val] at HFa
            have HTT : Hid _ := hT
            clear hT
            go_wp2_with fail
            refine HFa.mono ?_
            rintro e w22 ⟨rfl, Ff2, hwf, hb22, hF22⟩
            have P22 : Hid _ := P21.out.left hwf hb22 hF22
            clear hwf hb22 hF22 HFa P21
            obtain ⟨W23, hW23⟩ : ∃ W23, W23 = w22.alloc (.cells #[.bool ra, .int .i64 rb, .int .i64 rc, .int .i64 rd, .int .i64 rmp, .int .i64 rms, .int .i64 rmf, .int .i64 rmr, .bool re] 71) := ⟨_, rfl⟩
            have hb23 : Below w22.heap.size w22 W23 := by rw [hW23]; exact balloc (brefl _) _
            have R23 : Hid (W23.heap[w22.heap.size]? = some (.cells #[.bool ra, .int .i64 rb, .int .i64 rc, .int .i64 rd, .int .i64 rmp, .int .i64 rms, .int .i64 rmf, .int .i64 rmr, .bool re] 71 (0, 0))) := by rw [Hid, hW23]; exact heap_alloc_new _ _
            have P23 : Hid _ := P22.out.grow hb23
            have XN : Hid (¬ Ff2 w22.heap.size ∧ w22.heap.size ≠ bk ∧ ¬ Fg2X w22.heap.size ∧ w22.heap.size ≠ bj) := ⟨fun h => by have := P22.out.a.fr.lt h; omega, fun e => by have := P22.out.a.wk.lb; omega, fun h => by have := P22.out.b.fr.lt h; omega, fun e => by have := P22.out.b.wk.lb; omega⟩
            have HFb := finish_any HKS.out W23 P23.out.b
            rw [HTT.out] at HFb
            simp only [Pg.Rs.val] at HFb
            clear hb23 P22
            go_wp2_with fail
            rw [← hW23]
            clear hW23
            generalize w22.heap.size = X1 at *
            refine HFb.mono ?_
            rintro e w24 ⟨rfl, Fg3, hwf, hb24, hF24⟩
            have P24 : Hid _ := P23.out.right hwf hb24 hF24
            have R24 : Hid (w24.heap[X1]? = _) := (hb24.block _ (Array.getElem?_eq_some_iff.1 R23.out).1 (by rintro (h | h); exact XN.out.2.2.2 h; exact XN.out.2.2.1 h)).trans R23.out
            clear hwf hb24 hF24 HFb P23 R23
            have hX24 : X1 < w24.heap.size := (Array.getElem?_eq_some_iff.1 R24.out).1
            have nX24 : X1 ≠ w24.heap.size := by omega
            have mX24 : w24.heap.size ≠ X1 := by omega
            obtain ⟨⟨x0, x1, x2, x3, x4, x5, x6, x7, x8⟩, xf⟩ := row9 R24.out
            have era : (ra != ra) = false := by simp
            have ere : (re != re) = false := by simp
            have ecc : (Tc != Tc) = false := by simp
            obtain ⟨W25, hW25⟩ : ∃ W25, W25 = w24.alloc (.cells #[.bool ra, .int .i64 rb, .int .i64 rc, .int .i64 rd, .int .i64 rmp, .int .i64 rms, .int .i64 rmf, .int .i64 rmr, .bool re] 71) := ⟨_, rfl⟩
            have hb25 : Below w24.heap.size w24 W25 := by rw [hW25]; exact balloc (brefl _) _
            have P25 : Hid _ := P24.out.grow hb25
            have R25 : Hid (W25.heap[X1]? = _) := (hb25.block _ hX24).trans R24.out
            have hA25 := later3 (hb := P24.out.a.bel.mono (Nat.le_refl _)) HA2.out
            have hA26 : W.heap.size < w24.heap.size := World.block_lt_of_cell? _ _ hA25.1
            have nA26 : W.heap.size ≠ w24.heap.size := by omega
            have mA26 : w24.heap.size ≠ W.heap.size := by omega
            by_cases hTc : Tc = 0
            · subst hTc
              have hsf := same_facts (k := k) (u := u) HSO.out HBL.out (show fndC S 0 p = 0 → (tabs (fndX S 0 p)).Nodup from HND.out) (by rw [HTT.out])
              rw [HTT.out] at hsf
              simp only at hsf
              obtain ⟨f1, f2, f3, f4⟩ := hsf
              subst f1
              have HBg := kBegin_any Pg.Wk.off_ok p k u W25 P25.out.a.wk
              rw [HBC.out.1, HBC.out.2] at HBg
              have HFc := fun W' (h : Wf w1 W' bf Ff2 TS bk 0 (Pg.Wk.start 0 p k u)) => finish_any HKS.out W' h
              generalize Pg.fin 0 19 1 TS (Pg.Wk.start 0 p k u) = T2 at *
              obtain ⟨R2, T2n, T2c, T2S, T2K⟩ := T2
              simp only at f2 f3 f4
              subst f2 f3
              simp only [Pg.Rs.val] at HFc
              obtain ⟨z0, z1, z2⟩ := hA25
              have HLE : Hid _ := f4
              clear P24 hb25
              go_wp2_with fail
              rw [← hW25]
              clear hW25 x0 x1 x2 x3 x4 x5 x6 x7 x8 xf
              refine HBg.mono ?_
              rintro e w26 ⟨rfl, hk26, hc26⟩
              have P26 : Hid _ := P25.out.leftK hk26 hc26.but
              have R26 : Hid (w26.heap[X1]? = _) := (hc26.but.block _ (Array.getElem?_eq_some_iff.1 R25.out).1 (fun e => XN.out.2.1 e)).trans R25.out
              clear hk26 hc26 HBg P25 R25 z0 z1 z2
              go_wp2_with fail
              refine (HFc _ P26.out.a).mono ?_
              rintro e w27 ⟨rfl, Ff4, hwf, hb27, hF27⟩
              have R27 : Hid (w27.heap[X1]? = _) := (hb27.block _ (Array.getElem?_eq_some_iff.1 R26.out).1 (by rintro (h | h); exact XN.out.2.1 h; exact XN.out.1 h)).trans R26.out
              have HB27 : Hid (Below W.heap.size W w27) := HB2.out.trans (hwf.bel.mono HB2.out.size)
              have hX27 : X1 < w27.heap.size := (Array.getElem?_eq_some_iff.1 R27.out).1
              have nX27 : X1 ≠ w27.heap.size := by omega
              have mX27 : w27.heap.size ≠ X1 := by omega
              obtain ⟨⟨x0, x1, x2, x3, x4, x5, x6, x7, x8⟩, xf⟩ := row9 R27.out
              have hle : T2n ≤ Tn := HLE.out
              clear hwf hb27 hF27 HFc P26 R26 R27 HLE
              go_wp2_with fail
              go_ret
              exact ⟨rfl, balloc HB27.out _⟩
            · have hcn : (Tc != 0) = true := by simpa using hTc
              have HB28 : Hid (Below W.heap.size W W25) := HB2.out.trans (P25.out.a.bel.mono HB2.out.size)
              clear hTc P24 hb25
              go_wp2_with fail
              first
                | rw [← hW25]
                | skip
              go_ret
              refine ⟨rfl, ?_⟩
              first
                | exact HB28.out
                | (rw [← hW25]; exact HB28.out)

    · have e2 : bgnC Pg.Wk.off p k = Pg.checkAccess p k := by simp [bgnC, hc]
      have hcn : (Pg.checkAccess p k != 0) = true := by simpa using hc
      rw [e2] at HBg
      generalize Pg.checkAccess p k = cc at *
      clear hc e2
      go_wp2_with fail
      refine HBg.mono ?_
      rintro e w9 ⟨rfl, hk9, hc9⟩
      have HB28 : Hid (Below W.heap.size W w9) := HB2.out.trans ((P8.out.a.own hk9 hc9.but).bel.mono HB2.out.size)
      clear hk9 hc9 HBg P8 z0 z1 z2
      go_wp2_with fail
      go_ret
      exact ⟨rfl, HB28.out⟩

set_option maxRecDepth 100000 in
theorem walkerSame_lifted (os : Os) (started : os.Started) (H : Type) (enc : TypeId × Value → H) :
    ReturnsInHanded {} Try.checked os 8 .any (Rows.walkerSameSpec.pre6 enc Try.prog Try.f8 Rows.walkerSameRow.domain false) (Rows.walkerSameSpec.post enc Try.prog Try.f8 false true false false) := by
  refine returnsInHanded_of_change (C := Try.checked) own started (by kernel_rfl) Try.func8
    (ChangeSpec.witness6 (enc := enc) (C := Try.checked) false ⟨#[], #[.int .i64 0, .slice none 0 0, .agg #[.int .i64 0, .int .i64 0, .bool false], .int .i64 0], []⟩ 8 (by kernel_rfl) (by kernel_rfl) (by kernel_rfl) (by kernel_rfl)) ?_
  intro W base args ds gs before hval0 hW hcnd _
  have hval : ∀ (j : Nat) t v, Try.f8.params[j]? = some t → args[j]? = some v → Value.okWide Try.prog W .any base t v := hval0
  have hW' := hW
  obtain ⟨p, q, hA0, hV, rfl, hfz, hnd⟩ := hW
  have hA : DataW.TrodAll enc Try.prog W 0 (fun _ => true) true Try.f8.params.toList args.toList ds p := hA0
  rw [Try.params8] at hA hval
  obtain ⟨v0, vs0, d0, ds0, p0, q0, hargs, rfl, rfl, h0, r0⟩ := trodAll_cons hA
  obtain ⟨v1, vs1, d1, ds1, p1, q1, rfl, rfl, rfl, h1, r1⟩ := trodAll_cons r0
  obtain ⟨v2, vs2, d2, ds2, p2, q2, rfl, rfl, rfl, h2, r2⟩ := trodAll_cons r1
  obtain ⟨v3, vs3, d3, ds3, p3, q3, rfl, rfl, rfl, h3, r3⟩ := trodAll_cons r2
  obtain ⟨rfl, rfl, rfl⟩ := trodAll_nil r3
  obtain rfl : args = #[v0, v1, v2, v3] := by cases args; simp_all
  obtain ⟨rfl, rfl⟩ := trodVars_none hV
  obtain ⟨a0a, rfl, f0a⟩ := openInt (hval 0 3 v0 rfl rfl) h0
  obtain ⟨a1a, a1b, a1c, a1d, rfl, f1a⟩ := openWords (hval 1 53 v1 rfl rfl) h1
  obtain ⟨a2a, a2b, a2c, rfl, f2a, f2b⟩ := openAccess (hval 2 29 v2 rfl rfl) h2
  obtain ⟨a3a, rfl, f3a⟩ := openInt (hval 3 3 v3 rfl rfl) h3
  clear hA0 hval0
  refine (walkerSame_walk W a0a f0a a1a a1b a1c a1d f1a a2a a2b a2c f2a f2b a3a f3a).mono fun e W' ⟨he, bel⟩ => ?_
  subst he
  exact ⟨_, rfl, _, _, _, [], _, [], hW', trodAll_mk1 (shut_bool Try.underlying4 _), (trodAll_cons_mk (stays (by kernel_rfl) (of_decide_eq_true (by kernel_rfl)) h0 bel) (trodAll_cons_mk (stays (by kernel_rfl) (of_decide_eq_true (by kernel_rfl)) h1 bel) (trodAll_cons_mk (stays (by kernel_rfl) (of_decide_eq_true (by kernel_rfl)) h2 bel) (trodAll_cons_mk (stays (by kernel_rfl) (of_decide_eq_true (by kernel_rfl)) h3 bel) trodAll_mk0)))), rfl, bel.frame _, fun h => by cases h⟩

theorem walkerSame_over : Rows.walkerSameRow.holds Try.pinned (OpenSpec.ofChange Rows.walkerSameSpec) :=
  OpenClaim.holds_of_wide 8 Try.f8 rfl rfl rfl rfl rfl rfl rfl ⟨rfl, rfl, rfl, rfl, rfl⟩ rfl rfl rfl rfl rfl (by kernel_rfl) Try.func8 (by kernel_rfl)
    (of_decide_eq_true (by kernel_rfl)) (by unfold Func.isWrapper; first | (rw [if_pos (by decide +kernel)]; kernel_rfl) | (rw [if_neg (by decide +kernel)]; exact ⟨rfl, rfl⟩))
    (fun os started H enc _ => walkerSame_lifted os started H enc)

theorem walkerSame_proved : Rows.WalkerSameSaid := walkerSame_over
#print axioms walkerSame_proved
end Go.Proofs.Ytkcmlmofcjdgoad
