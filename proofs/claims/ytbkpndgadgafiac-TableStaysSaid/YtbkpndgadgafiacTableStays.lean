/-
  TableStays: what is refused changes nothing, for every argument.
-/
import Derived.Test.YtbkpndgadgafiacTabD
import Derived.Test.YtbkpndgadgafiacTabH
import Derived.Test.YtbkpndgadgafiacTabJ
import Derived.Test.YtbkpndgadgafiacWalkH
import Derived.Test.YtbkpndgadgafiacWords
import Derived.Test.YtbkpndgadgafiacPlainT
import Derived.Test.YtbkpndgadgafiacFrameB
import Derived.Test.YtbkpndgadgafiacMapInfo
import Derived.Test.YtbkpndgadgafiacWalkI
import Derived.Test.YtbkpndgadgafiacTabRefD
import Derived.Test.YtbkpndgadgafiacFrameW
import Derived.Deep.RegionHeld3
import Derived.Deep.DeepCutAuto
import Derived.Test.YtbkpndgadgafiacRows
namespace Go.Proofs.Ytbkpndgadgafiac
open Go.RowKit Go.Sort
set_option linter.unusedVariables false
set_option linter.unusedSimpArgs false
set_option maxRecDepth 100000

theorem insW_done (p : Int) (s : Nat) (S : Pg.Fs) (t : Int) : Pg.insW p s s S t = (S, t) := by
  cases s with
  | zero => rfl
  | succ s => simp [Pg.insW]
theorem insW_more (p : Int) (s m : Nat) (S : Pg.Fs) (t : Int) (h : s ≤ m) : Pg.insW p s (m + 1) S t = Pg.insW p s m (S.take.store t (Pg.index p ((m + 1 : Nat) : Int)) (Pg.enc true false 7 false false S.takeN ((m + 1 : Nat) : Int))) S.takeN := by
  rw [Pg.insW, if_neg (by omega)]

set_option maxHeartbeats 4000000 in
theorem tInsert_any {b : Nat} {S : Pg.Fs} {F : Nat → Prop} (t : Int) (m : Pg.Mp) (w : World) (h : FrAt w b S F) :
    Calls Try.prog 23 #[.pointer (some ⟨b, 0, none⟩), .int .i64 t, m.val] w fun en w' => en = .returned (.int .i64 (Pg.insC S t m)) ∧ ∃ F', FrAt w' b (Pg.insS S t m) F' ∧ But F w w' ∧ ∀ k, F' k → F k ∨ w.heap.size ≤ k := by
  obtain ⟨p, s, f, r⟩ := m
  have HC := check_any p s f r
  have eC : Pg.Mp.code ⟨p, s, f, r⟩ = Pg.check p s f r := rfl
  rw [← eC] at HC
  simp only [Pg.Mp.val]
  have H : Hid (FrAt w b S F) := h
  obtain ⟨W1, hW1⟩ : ∃ W1, W1 = w.alloc (.cells #[.int .i64 p, .int .i64 s, .int .i64 f, .int .i64 r] 53) := ⟨_, rfl⟩
  have hB1 : Below w.heap.size w W1 := by rw [hW1]; exact balloc (brefl w) _
  have r4 : W1.cell? ⟨w.heap.size, 0, none⟩ = some (.int .i64 p) ∧ W1.cell? ⟨w.heap.size, 1, none⟩ = some (.int .i64 s) ∧ W1.cell? ⟨w.heap.size, 2, none⟩ = some (.int .i64 f) ∧ W1.cell? ⟨w.heap.size, 3, none⟩ = some (.int .i64 r) := by rw [hW1]; simp [go_sem]
  have HB1 : Hid _ := hB1
  obtain ⟨x0, x1, x2, x3⟩ := r4
  have fin0 : Hid (∀ w', Below w.heap.size w w' → ∃ F', FrAt w' b S F' ∧ But F w w' ∧ ∀ k, F' k → F k ∨ w.heap.size ≤ k) := fun w' hb => ⟨F, FrAt.keep (G := fun _ => False) H.out (But.of_below hb) fun _ _ => id, But.of_below hb, fun k hk => .inl hk⟩
  have HW := fun w2 (hb : Below w.heap.size w w2) => newMaker_any t p w2 (h.keep (G := fun _ => False) (But.of_below hb) fun _ _ => id)
  clear hB1 eC
  by_cases hc : Pg.Mp.code ⟨p, s, f, r⟩ = 0
  · rw [hc] at HC
    by_cases hz : fndC S t p = 0
    · obtain ⟨Y, sp, lv, hY, W, hsl, hl3, hY3, hpl, hix⟩ := way_split hz
      have hs : 0 ≤ s ∧ s ≤ 2 := by
        have hc' : Pg.check p s f r = 0 := hc
        have hsp : Pg.span s ≠ 0 := by
          intro e
          rw [Pg.check, if_pos e] at hc'
          omega
        unfold Pg.span at hsp
        by_cases h0 : s = 0
        · omega
        · by_cases h1 : s = 1
          · omega
          · by_cases h2 : s = 2
            · omega
            · simp [h0, h1, h2] at hsp
      obtain ⟨sn, rfl⟩ := Int.eq_ofNat_of_zero_le hs.1
      have hs2 : sn ≤ 2 := by omega
      have e6 : tabs (Y ++ [sp]) = tabs Y ++ [sp.table] := by simp [tabs]
      have e7 : plcs (Y ++ [sp]) = plcs Y ++ [(sp.place : Int)] := by simp [plcs]
      have eI : Pg.insC S t ⟨p, sn, f, r⟩ = if sp.e.t = true ∨ (lv : Int) < (sn : Int) then 4 else if S.free < (lv : Int) - (sn : Int) then 6 else 0 := by
        rw [Pg.insC, if_neg (by simp [hc]), if_neg (by simp [hz]), hY, W.lastE, W.lastL]
      have eS : Pg.insS S t ⟨p, sn, f, r⟩ = if Pg.insC S t ⟨p, sn, f, r⟩ = 0 then (Pg.insW p sn lv S sp.table).1.store (Pg.insW p sn lv S sp.table).2 (Pg.index p (sn : Int)) (Pg.enc true true r false false f (sn : Int)) else S := by
        rw [Pg.insS, hY, W.lastL, W.lastT]
        rfl
      rw [hz, hY, W.lastL, W.lastE, e6, e7, hpl] at HW
      have hlen : (tabs Y).length = (plcs Y).length := by rw [tabs_len, plcs_len]
      have hlt : (tabs Y).length ≤ 3 := by rw [tabs_len]; omega
      have hfree := h.ok.free_bd
      have HFr := fun w2 (hb : Below w.heap.size w w2) => frFree_any w2 (h.keep (G := fun _ => False) (But.of_below hb) fun _ _ => id)
      clear hc hz W hY hsl hpl hix h e6 e7 hs
      generalize tabs Y = T at *
      generalize plcs Y = P at *
      obtain ⟨st, _, _, _, ⟨et, el, er, eu, ed, ef⟩⟩ := sp
      simp only at eI eS HW
      clear hY3 Y
      generalize Pg.insC S t ⟨p, sn, f, r⟩ = ic at *
      generalize Pg.insS S t ⟨p, sn, f, r⟩ = iS at *
      by_cases hE : et = true ∨ (lv : Int) < (sn : Int)
      · rw [if_pos hE] at eI
        rw [eI, if_neg (by decide)] at eS
        rw [eI, eS]
        clear eI eS
        cases et
        · have hlt' : (lv : Int) < (sn : Int) := by
            rcases hE with h | h
            · cases h
            · exact h
          clear hE
          go_enter Try.func23, Try.ntmps23
          go_wp2_with fail
          rw [← hW1]
          clear hW1
          refine (HC _).mono ?_
          rintro en w2 ⟨rfl, hb2⟩
          have y0 := cell_later hb2 x0
          have y1 := cell_later hb2 x1
          have y2 := cell_later hb2 x2
          have y3 := cell_later hb2 x3
          have HB2 : Hid (Below w.heap.size w w2) := bthen HB1.out hb2
          clear hb2 HC x0 x1 x2 x3
          go_wp2_with fail
          refine (HW _ HB2.out).mono ?_
          rintro en w3 ⟨k, rfl, hS, hb3⟩
          have HS : Hid _ := hS
          have HB3 : Hid (Below w.heap.size w w3) := bthen HB2.out hb3
          obtain ⟨B, v1, v2, F', hM, _, _, _, _, _, _⟩ := hS.body
          have k0 := hM.c0
          have k1 := hM.c1
          have k2 := hM.c2
          simp only at k2
          have z1 := cell_later hb3 y1
          have z2 := cell_later hb3 y2
          have z3 := cell_later hb3 y3
          have hlx : w.heap.size < w2.heap.size := World.block_lt_of_cell? _ _ y0
          have HZ : Hid _ := And.intro z1 (And.intro z2 z3)
          clear hM hS hb3 HW y0 y1 y2 y3
          go_wp2_with fail
          go_quiet (fail)
          go_wp2_with fail
          go_ret
          exact ⟨rfl, fin0.out _ (bthen HB3.out (below_drewN (brefl _) _))⟩
        · clear hE
          go_enter Try.func23, Try.ntmps23
          go_wp2_with fail
          rw [← hW1]
          clear hW1
          refine (HC _).mono ?_
          rintro en w2 ⟨rfl, hb2⟩
          have y0 := cell_later hb2 x0
          have y1 := cell_later hb2 x1
          have y2 := cell_later hb2 x2
          have y3 := cell_later hb2 x3
          have HB2 : Hid (Below w.heap.size w w2) := bthen HB1.out hb2
          clear hb2 HC x0 x1 x2 x3
          go_wp2_with fail
          refine (HW _ HB2.out).mono ?_
          rintro en w3 ⟨k, rfl, hS, hb3⟩
          have HS : Hid _ := hS
          have HB3 : Hid (Below w.heap.size w w3) := bthen HB2.out hb3
          obtain ⟨B, v1, v2, F', hM, _, _, _, _, _, _⟩ := hS.body
          have k0 := hM.c0
          have k1 := hM.c1
          have k2 := hM.c2
          simp only at k2
          have z1 := cell_later hb3 y1
          have z2 := cell_later hb3 y2
          have z3 := cell_later hb3 y3
          have hlx : w.heap.size < w2.heap.size := World.block_lt_of_cell? _ _ y0
          have HZ : Hid _ := And.intro z1 (And.intro z2 z3)
          clear hM hS hb3 HW y0 y1 y2 y3
          go_wp2_with fail
          go_quiet (fail)
          go_wp2_with fail
          go_ret
          exact ⟨rfl, fin0.out _ (bthen HB3.out (below_drewN (brefl _) _))⟩
      · rw [if_neg hE] at eI
        have hef : et = false := by
          cases et
          · rfl
          · exact absurd (.inl rfl) hE
        have hle : sn ≤ lv := by omega
        subst hef
        clear hE
        by_cases hfu : S.free < (lv : Int) - (sn : Int)
        · rw [if_pos hfu] at eI
          rw [eI, if_neg (by decide)] at eS
          rw [eI, eS]
          clear eI eS
          go_enter Try.func23, Try.ntmps23
          go_wp2_with fail
          rw [← hW1]
          clear hW1
          refine (HC _).mono ?_
          rintro en w2 ⟨rfl, hb2⟩
          have y0 := cell_later hb2 x0
          have y1 := cell_later hb2 x1
          have y2 := cell_later hb2 x2
          have y3 := cell_later hb2 x3
          have HB2 : Hid (Below w.heap.size w w2) := bthen HB1.out hb2
          clear hb2 HC x0 x1 x2 x3
          go_wp2_with fail
          refine (HW _ HB2.out).mono ?_
          rintro en w3 ⟨k, rfl, hS, hb3⟩
          have HS : Hid _ := hS
          have HB3 : Hid (Below w.heap.size w w3) := bthen HB2.out hb3
          obtain ⟨B, v1, v2, F', hM, _, _, _, _, _, _⟩ := hS.body
          have k0 := hM.c0
          have k1 := hM.c1
          have k2 := hM.c2
          simp only at k2
          have z1 := cell_later hb3 y1
          have z2 := cell_later hb3 y2
          have z3 := cell_later hb3 y3
          have hlx : w.heap.size < w2.heap.size := World.block_lt_of_cell? _ _ y0
          have HZ : Hid _ := And.intro z1 (And.intro z2 z3)
          clear hM hS hb3 HW y0 y1 y2 y3
          go_wp2_with fail
          go_quiet (fail)
          go_wp2_with fail
          refine (HFr _ (bthen HB3.out (below_drewN (brefl _) _))).mono ?_
          rintro en w4 ⟨rfl, hb4⟩
          have HB4 : Hid (Below w.heap.size w w4) := bthen (bthen HB3.out (below_drewN (brefl _) _)) hb4
          clear hb4 HFr
          go_wp2_with fail
          go_ret
          exact ⟨rfl, fin0.out _ HB4.out⟩
        · rw [if_neg hfu] at eI
          rw [eI, if_pos rfl] at eS
          rw [eI, eS]
          clear eI eS
          have dd1 : decide ((lv : Int) - (sn : Int) < 0) = false := by simp; omega
          have dd2 : decide (S.free < (lv : Int) - (sn : Int)) = false := by simp; omega
          go_enter Try.func23, Try.ntmps23
          go_wp2_with fail
          rw [← hW1]
          clear hW1
          refine (HC _).mono ?_
          rintro en w2 ⟨rfl, hb2⟩
          have y0 := cell_later hb2 x0
          have y1 := cell_later hb2 x1
          have y2 := cell_later hb2 x2
          have y3 := cell_later hb2 x3
          have HB2 : Hid (Below w.heap.size w w2) := bthen HB1.out hb2
          clear hb2 HC x0 x1 x2 x3
          go_wp2_with fail
          refine (HW _ HB2.out).mono ?_
          rintro en w3 ⟨k, rfl, hS, hb3⟩
          have HS : Hid _ := hS
          have HB3 : Hid (Below w.heap.size w w3) := bthen HB2.out hb3
          obtain ⟨B, v1, v2, F', hM, _, _, _, _, _, _⟩ := hS.body
          have k0 := hM.c0
          have k1 := hM.c1
          have k2 := hM.c2
          simp only at k2
          have z1 := cell_later hb3 y1
          have z2 := cell_later hb3 y2
          have z3 := cell_later hb3 y3
          have hlx : w.heap.size < w2.heap.size := World.block_lt_of_cell? _ _ y0
          have HZ : Hid _ := And.intro z1 (And.intro z2 z3)
          clear hM hS hb3 HW y0 y1 y2 y3
          go_wp2_with fail
          go_quiet (fail)
          go_wp2_with fail
          refine (HFr _ (bthen HB3.out (below_drewN (brefl _) _))).mono ?_
          rintro en w4 ⟨rfl, hb4⟩
          have HB34 : Hid (Below w3.heap.size w3 w4) := bthen (below_drewN (brefl _) _) hb4
          clear hb4 HFr
          go_wp2_with fail
          try simp only [dd1, dd2]
          go_loopw [53] (fun i wr => ∃ (j lvn : Nat) (Si : Pg.Fs) (ei : Pg.En) (ts ps : List Int) (ti : Int), lvn + j = lv ∧ sn ≤ lvn ∧ i = .int .i64 (j : Int) ∧ ts.length = ps.length ∧ ts.length = T.length + j ∧ Hid (St w2 wr k b F Si (lvn : Int) ei (ts ++ [ti]) (ps ++ [Pg.index p (lvn : Int)]) p ∧ Pg.insW p sn lvn Si ti = Pg.insW p sn lv S st)) (fun i _ => lv - (intOf i).toNat)
          case atStart => exact ⟨0, lv, S, _, T, P, st, by omega, by omega, rfl, hlen, rfl, HS.out.grow HB34.out, rfl⟩
          case round =>
            obtain ⟨j, lvn, Si, ei, ts, ps, ti, hj, hlvn, rfl, hl1, hl2, HR⟩ := hrel
            have j0 : (0 : Int) ≤ (j : Int) := by omega
            by_cases hlt2 : sn < lvn
            · have j1 : (j : Int) < (lv : Int) - (sn : Int) := by omega
              have HX := extend_any HR.out.1 hl1 (by omega) (by omega) (by omega)
              obtain ⟨lm, rfl⟩ : ∃ lm, lvn = lm + 1 := ⟨lvn - 1, by omega⟩
              have e9 : ((lm + 1 : Nat) : Int) - 1 = (lm : Int) := by omega
              rw [e9] at HX
              have e10 : Hid (Pg.insW p sn lm (Si.take.store ti (Pg.index p ((lm + 1 : Nat) : Int)) (Pg.enc true false 7 false false Si.takeN ((lm + 1 : Nat) : Int))) Si.takeN = Pg.insW p sn lv S st) := by rw [Hid, ← insW_more p sn lm Si ti (by omega)]; exact HR.out.2
              go_wp2_with fail
              refine HX.mono ?_
              rintro en w5 ⟨rfl, h5⟩
              have H5 : Hid _ := h5
              clear h5 HX HR
              go_wp2_with fail
              exact ⟨⟨j + 1, lm, _, _, _, _, _, by omega, by omega, by go_num, by simp [hl1], by simp [hl2]; omega, H5.out, e10.out⟩, by simp [intOf]; omega⟩
            · have hee : lvn = sn := by omega
              subst hee
              have j1 : ¬ (j : Int) < (lv : Int) - (lvn : Int) := by omega
              have hins := HR.out.2
              rw [insW_done] at hins
              have HX := put_any ⟨true, true, r, false, false, f⟩ HR.out.1 hl1 (by omega)
              simp only [Pg.En.val] at HX
              have hbx : wr.heap[w.heap.size]? = w3.heap[w.heap.size]? := by
                have q1 := HR.out.1.but.block w.heap.size hlx fun hF => by have := FrAt.lt H.out hF; omega
                have q2 := HS.out.but.block w.heap.size hlx fun hF => by have := FrAt.lt H.out hF; omega
                exact q1.trans q2.symm
              have b2 := (World.cell?_of_block hbx).trans HZ.out.2.1
              have b3 := (World.cell?_of_block hbx).trans HZ.out.2.2
              have HIN : Hid _ := hins
              clear hins hbx z1 z2 z3 k0 k1 k2 HR
              go_wp2_with fail
              refine HX.mono ?_
              rintro en w6 ⟨rfl, h6⟩
              obtain ⟨F6, f1, f2, f3⟩ := h6.leaves
              have fin : Hid (∃ F', FrAt w6 b ((Pg.insW p lvn lv S st).1.store (Pg.insW p lvn lv S st).2 (Pg.index p (lvn : Int)) (Pg.enc true true r false false f (lvn : Int))) F' ∧ But F w w6 ∧ ∀ k, F' k → F k ∨ w.heap.size ≤ k) := by
                rw [Hid, ← HIN.out]
                exact ⟨F6, f1, (But.of_below HB2.out).trans f2 fun _ _ h => h, fun j hj => (f3 j hj).imp id fun h => by have := HB2.out.size; omega⟩
              clear h6 f1 f2 f3 HX HIN
              go_wp2_with fail
              go_ret
              exact ⟨rfl, fin.out⟩
    · have e1 : Pg.insC S t ⟨p, s, f, r⟩ = fndC S t p := by rw [Pg.insC, if_neg (by simp [hc]), if_pos hz]
      have e2 : Pg.insS S t ⟨p, s, f, r⟩ = S := by rw [Pg.insS, e1, if_neg hz]
      rw [e1, e2]
      clear e1 e2 h
      generalize fndC S t p = cc at *
      have hcb : (cc != 0) = true := by simp [hz]
      clear hz hc
      go_enter Try.func23, Try.ntmps23
      go_wp2_with fail
      rw [← hW1]
      clear hW1
      refine (HC _).mono ?_
      rintro en w2 ⟨rfl, hb2⟩
      have y0 := cell_later hb2 x0
      have HB2 : Hid (Below w.heap.size w w2) := bthen HB1.out hb2
      clear hb2
      go_wp2_with fail
      refine (HW _ HB2.out).mono ?_
      rintro en w3 ⟨k, rfl, _, hb3⟩
      have HB3 : Hid (Below w.heap.size w w3) := bthen HB2.out hb3
      clear hb3
      go_wp2_with fail
      go_ret
      exact ⟨rfl, fin0.out _ HB3.out⟩
  · have e1 : Pg.insC S t ⟨p, s, f, r⟩ = Pg.Mp.code ⟨p, s, f, r⟩ := by rw [Pg.insC, if_pos hc]
    have e2 : Pg.insS S t ⟨p, s, f, r⟩ = S := by rw [Pg.insS, e1, if_neg hc]
    rw [e1, e2]
    clear e1 e2 h HW
    generalize Pg.Mp.code ⟨p, s, f, r⟩ = cc at *
    have hcb : (cc != 0) = true := by simp [hc]
    clear hc
    go_enter Try.func23, Try.ntmps23
    go_wp2_with fail
    rw [← hW1]
    clear hW1
    refine (HC _).mono ?_
    rintro en w2 ⟨rfl, hb2⟩
    have HB2 : Hid (Below w.heap.size w w2) := bthen HB1.out hb2
    clear hb2
    go_wp2_with fail
    go_ret
    exact ⟨rfl, fin0.out _ HB2.out⟩
end Go.Proofs.Ytbkpndgadgafiac

namespace Go.Proofs.Ytbkpndgadgafiac
open Go.RowKit Go.Sort
set_option linter.unusedVariables false
set_option linter.unusedSimpArgs false
set_option maxRecDepth 100000

/-- What Remove leaves. -/
structure RmDone (w : World) (b : Nat) (F : Nat → Prop) (S S' : Pg.Fs) (m : Pg.Mp) (G : List Int) (c : Int) (en : Ending) (w' : World) : Prop where
  body : ∃ ad cap F', en = .returned (.tuple #[m.val, .slice ad G.length cap, .int .i64 c]) ∧ IntsAt w' ad G ∧ FrAt w' b S' F' ∧ But F w w' ∧ (∀ k, F' k → F k ∨ w.heap.size ≤ k) ∧ ∀ g, ad = some ⟨g, 0, none⟩ → w.heap.size ≤ g ∧ ¬ F' g

def lenOf : Value → Nat
  | .slice _ n _ => n
  | _ => 0
/-- What holds in each round of Remove. -/
structure RmInv (W5 wr : World) (k b : Nat) (H0 Hc : Nat → Prop) (Si : Pg.Fs) (ei : Pg.En) (T P : List Int) (n : Nat) (p : Int) (vg : Value) (Gi : List Int) (R : Pg.Fs × List Int) : Prop where
  st : St wr wr k b Hc Si (4 - (n : Int)) ei (T.take n) (P.take n) p
  but : But H0 W5 wr
  hc : ∀ j, Hc j → H0 j ∨ W5.heap.size ≤ j
  lt : ∀ j, Hc j → j < wr.heap.size
  own : wr.ownsRow W5.heap.size 3 1 vg Gi.length (ints Gi)
  far : ∀ j, vg.ownBlock = some j → ¬ Hc j
  has : ∀ x, x ∈ T → Si.has x = true
  rest : rmRest p T n Si Gi = R

theorem rm_finish {w W1 W5 wr w7 : World} {k b n : Nat} {F H0 Hc : Nat → Prop} {S Si : Pg.Fs} {ei : Pg.En} {T P Gi : List Int} {p : Int} {ga : Option Addr} {gc : Nat} {R : Pg.Fs × List Int} (HI : RmInv W5 wr k b H0 Hc Si ei T P n p (.slice ga Gi.length gc) Gi R) (hb : Below wr.heap.size wr w7) (H : FrAt w b S F) (hB5 : But F w W5) (hH0 : ∀ j, H0 j → F j ∨ W1.heap.size ≤ j) (hlw : w.heap.size < W1.heap.size) (h15 : W1.heap.size ≤ W5.heap.size) (a0 a1 a2 a3 : Value) (m : Pg.Mp) (c : Int) :
    RmDone w b F S Si m Gi c (.returned (.tuple #[m.val, .slice ga Gi.length gc, .int .i64 c])) ((((w7.setCell ⟨w.heap.size, 0, none⟩ a0).setCell ⟨w.heap.size, 1, none⟩ a1).setCell ⟨w.heap.size, 2, none⟩ a2).setCell ⟨w.heap.size, 3, none⟩ a3) := by
  obtain ⟨F2, hF, hB, h1⟩ := HI.st.leaves
  have hFc : ∀ j, F2 j → Hc j := fun j hj => by
    rcases h1 j hj with h | h
    · exact h
    · have := hF.lt hj; omega
  have hFf : ∀ j, F2 j → F j ∨ W1.heap.size ≤ j := fun j hj => by
    rcases HI.hc j (hFc j hj) with h | h
    · exact hH0 j h
    · exact .inr (by omega)
  have hbt : But (fun j => j = w.heap.size) wr ((((w7.setCell ⟨w.heap.size, 0, none⟩ a0).setCell ⟨w.heap.size, 1, none⟩ a1).setCell ⟨w.heap.size, 2, none⟩ a2).setCell ⟨w.heap.size, 3, none⟩ a3) := by
    iterate 4 refine But.setCell ?_ (by exact .inr rfl) _
    exact But.of_below hb
  refine ⟨ga, gc, F2, rfl, ?_, hF.keep hbt fun j hj e => ?_, ?_, fun j hj => (hFf j hj).imp id fun h => by omega, fun g hg => ?_⟩
  · exact owns_intsAt (cap := gc) (n := Gi.length) (ownsMaps_but HI.own hbt fun j hj e => by have := (HI.own.lt j hj).1; omega)
  · rcases hFf j hj with h | h
    · have := H.lt h; omega
    · omega
  · refine (hB5.trans HI.but fun i hi h => ?_).trans hbt fun i hi e => by omega
    rcases hH0 i h with h | h
    · exact h
    · omega
  · subst hg
    have := (HI.own.lt g rfl).1
    exact ⟨by omega, fun h => HI.far g rfl (hFc g h)⟩

set_option maxHeartbeats 4000000 in
theorem tRemove_any {b : Nat} {S : Pg.Fs} {F : Nat → Prop} (t p : Int) (w : World) (h : FrAt w b S F) :
    Calls Try.prog 25 #[.pointer (some ⟨b, 0, none⟩), .int .i64 t, .int .i64 p] w fun en w' => RmDone w b F S (Pg.rmR S t p).1 (Pg.tFM S t p) (Pg.rmR S t p).2 (Pg.tFC S t p) en w' := by
  have H : Hid (FrAt w b S F) := h
  obtain ⟨W1, hW1⟩ : ∃ W1, W1 = w.alloc (.cells #[.int .i64 0, .int .i64 0, .int .i64 0, .int .i64 0] 53) := ⟨_, rfl⟩
  have hB1 : Below w.heap.size w W1 := by rw [hW1]; exact balloc (brefl w) _
  have r4 : W1.cell? ⟨w.heap.size, 0, none⟩ = some (.int .i64 0) ∧ W1.cell? ⟨w.heap.size, 1, none⟩ = some (.int .i64 0) ∧ W1.cell? ⟨w.heap.size, 2, none⟩ = some (.int .i64 0) ∧ W1.cell? ⟨w.heap.size, 3, none⟩ = some (.int .i64 0) := by rw [hW1]; simp [go_sem]
  have rf4 : ∀ o, W1.frozen? ⟨w.heap.size, o, none⟩ = false := fun o => by rw [hW1]; simp [go_sem]
  have HR4 : Hid _ := r4
  have HF4 : Hid _ := rf4
  have HB1 : Hid _ := hB1
  have hlw : w.heap.size < W1.heap.size := World.block_lt_of_cell? _ _ r4.1
  have HW := newLeafMaker_any t p W1 (h.keep (G := fun _ => False) (But.of_below hB1) fun _ _ => id)
  by_cases hc : Pg.tFC S t p = 0
  · have hz : fndC S t p = 0 := by
      by_cases hz : fndC S t p = 0
      · exact hz
      · rw [Pg.tFC, if_pos hz] at hc
        exact absurd hc hz
    obtain ⟨Y, s, lv, hY, W, hsl, hl3, hY3, hpl, hix⟩ := way_split hz
    have hhas := W.has
    have hlenX := W.len
    have e5 : Pg.tFM S t p = s.e.map (lv : Int) p := by rw [Pg.tFM, if_pos hc, hY, W.lastE, W.lastL]
    have eR : Pg.rmR S t p = Pg.rmW p (tabs (Y ++ [s])) (Y.length + 1) S [] := by rw [Pg.rmR, if_pos hc, hY]; simp
    have hps : ∀ i, i < Y.length + 1 → (plcs (Y ++ [s])).getD i 0 = Pg.index p (3 - (i : Int)) := fun i hi => by
      have := (find_place S t p (i := i) (by rw [hY]; simpa using hi)).2.2
      rw [hY] at this
      exact this
    rw [hc, e5, eR]
    rw [hc, hY, W.lastL, W.lastE] at HW
    have hlT : (tabs (Y ++ [s])).length = Y.length + 1 := by rw [tabs_len]; simp
    have hlP : (plcs (Y ++ [s])).length = Y.length + 1 := by rw [plcs_len]; simp
    rw [List.length_append, List.length_singleton] at hlenX
    clear hc hz W hY hsl hpl hix h e5 eR r4 rf4 hB1
    generalize tabs (Y ++ [s]) = T at *
    generalize plcs (Y ++ [s]) = P at *
    generalize Y.length = N at *
    generalize hee : s.e = e at *
    clear hee
    generalize hmm : e.map (lv : Int) p = mm at *
    have HMM : Hid _ := hmm
    clear hmm
    obtain ⟨mp, ms, mf, mr⟩ := mm
    rw [rmW_rest]
    go_enter Try.func25, Try.ntmps25
    go_wp2_with fail
    rw [← hW1]
    clear hW1
    refine HW.mono ?_
    rintro en w3 ⟨k, rfl, hS, hb3⟩
    have HMap := mkMapping_any hS
    rw [HMM.out] at HMap
    simp only [Pg.Mp.val] at HMap
    have HS3 : Hid _ := hS
    have HB3 : Hid (Below W1.heap.size W1 w3) := hb3
    clear hS hb3 HW
    go_wp2_with fail
    refine HMap.mono ?_
    rintro en w4 ⟨rfl, hb4⟩
    have HB4 : Hid (Below w3.heap.size w3 w4) := hb4
    clear hb4 HMap
    obtain ⟨W5, hW5⟩ : ∃ W5, W5 = w4.alloc (.cells #[.int .i64 mp, .int .i64 ms, .int .i64 mf, .int .i64 mr] 53) := ⟨_, rfl⟩
    have hB5 : Below w3.heap.size w3 W5 := by rw [hW5]; exact balloc HB4.out _
    have m4 : W5.cell? ⟨w4.heap.size, 0, none⟩ = some (.int .i64 mp) ∧ W5.cell? ⟨w4.heap.size, 1, none⟩ = some (.int .i64 ms) ∧ W5.cell? ⟨w4.heap.size, 2, none⟩ = some (.int .i64 mf) ∧ W5.cell? ⟨w4.heap.size, 3, none⟩ = some (.int .i64 mr) := by rw [hW5]; simp [go_sem]
    have hl45 : w4.heap.size < W5.heap.size := World.block_lt_of_cell? _ _ m4.1
    have Z5 : Hid _ := later4 (bthen HB3.out hB5) HR4.out
    have ZF5 : Hid (∀ o, W5.frozen? ⟨w.heap.size, o, none⟩ = false) := fun o => ((bthen HB3.out hB5).frozen (p := ⟨w.heap.size, o, none⟩) hlw).trans (HF4.out o)
    have hS6 : ∃ H0' : Nat → Prop, St W5 W5 k b H0' S (lv : Int) e T P p ∧ (∀ j, H0' j → F j ∨ W1.heap.size ≤ j) ∧ ∀ j, H0' j → j < w4.heap.size := by
      obtain ⟨H', q1, q2, q3⟩ := (HS3.out.grow HB4.out).other (w' := W5) (G := fun _ => False) (by rw [hW5]; exact But.of_below (balloc (brefl _) _)) fun _ h => h.elim
      exact ⟨H', q1, q2, q3⟩
    obtain ⟨H0, hS5, hH0, hH0'⟩ := hS6
    have HP2 : Calls Try.prog 67 #[.pointer (some ⟨k, 0, none⟩), .agg #[.bool false, .bool false, .int .i64 0, .bool false, .bool false, .int .i64 0]] W5 fun en w' => en = .returned (.tuple #[]) ∧ St W5 w' k b H0 (S.store (T.getD N 0) (Pg.index p (3 - (N : Int))) 0) (lv : Int) Pg.En.zero (T.take (N + 1)) (P.take (N + 1)) p := by
      have eT : T = T.take N ++ [T.getD N 0] := by rw [← take_last T N (by omega), ← hlT, List.take_length]
      have eP : P = P.take N ++ [Pg.index p (3 - (N : Int))] := by rw [← hps N (by omega), ← take_last P N (by omega), ← hlP, List.take_length]
      have hS7 : St W5 W5 k b H0 S (lv : Int) e (T.take N ++ [T.getD N 0]) (P.take N ++ [Pg.index p (3 - (N : Int))]) p := by rw [← eT, ← eP]; exact hS5
      have := put_any Pg.En.zero hS7 (by simp; omega) (by simp; omega)
      simp only [Pg.En.zero, Pg.En.val, enc_none] at this
      rw [← eT, ← eP] at this
      have t1 : T.take (N + 1) = T := by rw [← hlT, List.take_length]
      have t2 : P.take (N + 1) = P := by rw [← hlP, List.take_length]
      rw [t1, t2]
      exact this
    have M5 : Hid _ := m4
    have HBt5 : Hid (But F w W5) := (But.of_below HB1.out).trans ((HS3.out.but).trans (But.of_below (F := fun _ => False) hB5) fun _ _ h => h.elim) fun _ _ h => h
    have HH0 : Hid _ := hH0
    have HH0' : Hid _ := hH0'
    have hl15 : W1.heap.size ≤ W5.heap.size := Nat.le_trans HB3.out.size hB5.size
    clear hS5 hH0 hH0' m4 hB5 HS3
    have hlv : (lv : Int) = 4 - ((N + 1 : Nat) : Int) := by omega
    rw [hlv] at HP2
    generalize hR : rmRest p T (N + 1) (S.store (T.getD N 0) (Pg.index p (3 - (N : Int))) 0) [] = R at *
    have HRR : Hid _ := hR
    clear hR
    have hhas' : ∀ x, x ∈ T → (S.store (T.getD N 0) (Pg.index p (3 - (N : Int))) 0).has x = true := fun x hx => by rw [Pg.store_has]; exact hhas x hx
    have HHS : Hid _ := hhas'
    clear hhas hhas'
    go_wp2_with fail
    rw [← hW5]
    clear hW5
    refine HP2.mono ?_
    rintro en w6 ⟨rfl, h6⟩
    have HS6 : Hid _ := h6
    clear h6 HP2
    go_wp2_with fail
    go_loopw [12] (fun vg wr => ∃ (n : Nat) (Si : Pg.Fs) (ei : Pg.En) (Gi : List Int) (Hc : Nat → Prop), 1 ≤ n ∧ Gi.length + n = N + 1 ∧ Hid (RmInv W5 wr k b H0 Hc Si ei T P n p vg Gi R)) (fun vg _ => 10 - lenOf vg)
    case atStart =>
      obtain ⟨Hc, q1, q2, q3⟩ := HS6.out.rebase
      exact ⟨N + 1, _, _, [], Hc, by omega, by simp, q1, HS6.out.but, q2, q3, World.ownsRow_nil _ _ _ _, fun j hj => by simp [Value.ownBlock] at hj, HHS.out, HRR.out⟩
    case round =>
      obtain ⟨n, Si, ei, Gi, Hc, hn1, hgn, HI⟩ := hrel
      have hTn : (T.take n).length = n := by simp; omega
      have HBR := isBelowRoot_any HI.out.st (by omega)
      rw [hTn] at HBR
      obtain ⟨ga, gc, hvg⟩ := ownsMaps_form HI.out.own
      subst hvg
      by_cases h1 : n = 1
      · subst h1
        have hb1 : decide (1 < 1) = false := by decide
        rw [hb1] at HBR
        have HFin : Hid (R = (Si, Gi)) := by rw [Hid, ← HI.out.rest, rmRest, if_pos (by left; omega)]
        go_wp2_with fail
        refine HBR.mono ?_
        rintro en w7 ⟨rfl, hw7⟩
        have hb7 : Below wr.heap.size wr w7 := hw7 ▸ brefl wr
        clear hw7
        have hbw : w7.heap[w.heap.size]? = W5.heap[w.heap.size]? := by
          have q1 := HI.out.but.block w.heap.size (by omega) fun h => by
            rcases HH0.out _ h with h | h
            · have := FrAt.lt H.out h; omega
            · omega
          exact (hb7.block _ (by have := HI.out.but.size; omega)).trans q1
        have hbm : w7.heap[w4.heap.size]? = W5.heap[w4.heap.size]? := by
          have q1 := HI.out.but.block w4.heap.size (by omega) fun h => by have := HH0'.out _ h; omega
          exact (hb7.block _ (by have := HI.out.but.size; omega)).trans q1
        have z0 := (World.cell?_of_block hbw).trans Z5.out.1
        have z1 := (World.cell?_of_block hbw).trans Z5.out.2.1
        have z2 := (World.cell?_of_block hbw).trans Z5.out.2.2.1
        have z3 := (World.cell?_of_block hbw).trans Z5.out.2.2.2
        have zf : ∀ o, w7.frozen? ⟨w.heap.size, o, none⟩ = false := fun o => (World.frozen?_of_block hbw).trans (ZF5.out o)
        have m0 := (World.cell?_of_block hbm).trans M5.out.1
        have m1 := (World.cell?_of_block hbm).trans M5.out.2.1
        have m2 := (World.cell?_of_block hbm).trans M5.out.2.2.1
        have m3 := (World.cell?_of_block hbm).trans M5.out.2.2.2
        have fin : Hid _ := rm_finish HI.out hb7 H.out HBt5.out HH0.out hlw hl15 (.int .i64 mp) (.int .i64 ms) (.int .i64 mf) (.int .i64 mr) ⟨mp, ms, mf, mr⟩ 0
        clear hbw hbm hb7 HBR
        go_wp2_with fail
        refine bodyPost_ret (v := .tuple #[.agg #[.int .i64 mp, .int .i64 ms, .int .i64 mf, .int .i64 mr], .slice ga Gi.length gc, .int .i64 0]) ?_ rfl ?_
        · simp [results, Try.results25, go_sem, z0, z1, z2, z3]
        · rw [HRR.out, HFin.out]
          exact fin.out
      · obtain ⟨m, rfl⟩ : ∃ m, n = m + 2 := ⟨n - 2, by omega⟩
        have hb1 : decide (1 < m + 2) = true := by simp
        rw [hb1] at HBR
        have eT : T.take (m + 2) = T.take m ++ [T.getD m 0] ++ [T.getD (m + 1) 0] := by rw [take_last T (m + 1) (by omega), take_last T m (by omega)]
        have eT1 : T.take (m + 2) = T.take (m + 1) ++ [T.getD (m + 1) 0] := take_last T (m + 1) (by omega)
        have eP : P.take (m + 2) = P.take m ++ [P.getD m 0] ++ [P.getD (m + 1) 0] := by rw [take_last P (m + 1) (by omega), take_last P m (by omega)]
        have hin : T.getD (m + 1) 0 ∈ T := by
          have : m + 1 < T.length := by omega
          simp [List.getD, this]
        have HTE : Calls Try.prog 73 #[.pointer (some ⟨k, 0, none⟩)] wr fun en w' => en = .returned (.bool (Pg.emptyT Si (T.getD (m + 1) 0))) ∧ Below wr.heap.size wr w' := isTableEmpty_any (by rw [← eT1]; exact HI.out.st) (by simp; omega) (HI.out.has _ hin)
        cases hem : Pg.emptyT Si (T.getD (m + 1) 0)
        · rw [hem] at HTE
          have HFin : Hid (R = (Si, Gi)) := by rw [Hid, ← HI.out.rest, rmRest, if_pos (by right; exact hem)]
          go_wp2_with fail
          refine HBR.mono ?_
          rintro en w7 ⟨rfl, hw7⟩
          subst w7
          go_wp2_with fail
          refine HTE.mono ?_
          rintro en w7 ⟨rfl, hb7⟩
          have hbw : w7.heap[w.heap.size]? = W5.heap[w.heap.size]? := by
            have q1 := HI.out.but.block w.heap.size (by omega) fun h => by
              rcases HH0.out _ h with h | h
              · have := FrAt.lt H.out h; omega
              · omega
            exact (hb7.block _ (by have := HI.out.but.size; omega)).trans q1
          have hbm : w7.heap[w4.heap.size]? = W5.heap[w4.heap.size]? := by
            have q1 := HI.out.but.block w4.heap.size (by omega) fun h => by have := HH0'.out _ h; omega
            exact (hb7.block _ (by have := HI.out.but.size; omega)).trans q1
          have z0 := (World.cell?_of_block hbw).trans Z5.out.1
          have z1 := (World.cell?_of_block hbw).trans Z5.out.2.1
          have z2 := (World.cell?_of_block hbw).trans Z5.out.2.2.1
          have z3 := (World.cell?_of_block hbw).trans Z5.out.2.2.2
          have zf : ∀ o, w7.frozen? ⟨w.heap.size, o, none⟩ = false := fun o => (World.frozen?_of_block hbw).trans (ZF5.out o)
          have m0 := (World.cell?_of_block hbm).trans M5.out.1
          have m1 := (World.cell?_of_block hbm).trans M5.out.2.1
          have m2 := (World.cell?_of_block hbm).trans M5.out.2.2.1
          have m3 := (World.cell?_of_block hbm).trans M5.out.2.2.2
          have fin : Hid _ := rm_finish HI.out hb7 H.out HBt5.out HH0.out hlw hl15 (.int .i64 mp) (.int .i64 ms) (.int .i64 mf) (.int .i64 mr) ⟨mp, ms, mf, mr⟩ 0
          clear hbw hbm hb7 HBR HTE
          go_wp2_with fail
          refine bodyPost_ret (v := .tuple #[.agg #[.int .i64 mp, .int .i64 ms, .int .i64 mf, .int .i64 mr], .slice ga Gi.length gc, .int .i64 0]) ?_ rfl ?_
          · simp [results, Try.results25, go_sem, z0, z1, z2, z3]
          · rw [HRR.out, HFin.out]
            exact fin.out
        · rw [hem] at HTE
          have HNext : Hid (rmRest p T (m + 1) (Si.store (T.getD m 0) (Pg.index p (3 - (m : Int))) 0) (Gi ++ [T.getD (m + 1) 0]) = R) := by
            rw [Hid, ← HI.out.rest, ← rmW_rest]
            conv => rhs; rw [rmRest, if_neg (by intro hh; rcases hh with h | h; (· omega); (· rw [show m + 2 - 1 = m + 1 from rfl, hem] at h; cases h))]
            rfl
          go_wp2_with fail
          refine HBR.mono ?_
          rintro en w7 ⟨rfl, hw7⟩
          subst w7
          go_wp2_with fail
          refine HTE.mono ?_
          rintro en w7 ⟨rfl, hb7⟩
          have hlvl : (4 - ((m + 2 : Nat) : Int)) + 1 = 4 - ((m + 1 : Nat) : Int) := by omega
          have hS7 : St wr w7 k b Hc Si (4 - ((m + 2 : Nat) : Int)) ei (T.take m ++ [T.getD m 0] ++ [T.getD (m + 1) 0]) (P.take m ++ [P.getD m 0] ++ [P.getD (m + 1) 0]) p := by rw [← eT, ← eP]; exact HI.out.st.grow hb7
          have HCut := cut_any hS7 (by simp; omega) (by simp; omega) (by omega) (by omega)
          rw [hlvl, hps m (by omega)] at HCut
          rw [← take_last T m (by omega)] at HCut
          have eP1 : P.take m ++ [Pg.index p (3 - (m : Int))] = P.take (m + 1) := by rw [take_last P m (by omega), hps m (by omega)]
          rw [eP1] at HCut
          have HB7 : Hid _ := hb7
          have HIN : Hid _ := HI.out
          have hgl : Gi.length + 1 ≤ 4 := by omega
          generalize T.getD (m + 1) 0 = tg at *
          generalize T.getD m 0 = tm at *
          clear hb7 HBR HTE eT eT1 eP hin eP1 hlvl hS7
          go_wp2_with fail
          refine HCut.mono ?_
          rintro en w8 ⟨rfl, h8⟩
          have HS8 : Hid _ := h8
          have hB8 : But Hc wr w8 := h8.but
          have hown8 : w8.ownsRow W5.heap.size 3 1 (.slice ga Gi.length gc) Gi.length (ints Gi) := ownsMaps_but HI.out.own hB8 fun j hj => HI.out.far j hj
          have hs58 : W5.heap.size ≤ w8.heap.size := by have := HI.out.but.size; have := hB8.size; omega
          have HB8 : Hid _ := hB8
          obtain ⟨q0, hq, hz0, hz1, hz2⟩ := info_parts infoIntW
          clear h8 HCut hB8
          go_wp2_with (first
            | (at_builtin; refine wpList_append_lies _ rfl _ _ 30 rfl W5.heap.size 3 q0 (.int .i64 0) 1 8 Try.underlying30 hq hz0 hz1 hz2 rfl (by decide) _ _ _ rfl (hown8.alloc _) ⟨w8.heap.size, 0, none⟩ 1 1 [.int .i64 tg] rfl rfl ?c1 ?c2 (by decide) ?c3 ?c4 ?c5 (w8.heap.size + 1) (by simp) ?_))
          case c1 =>
            intro j u hj
            match j, hj with
            | 0, hj => simp at hj; subst hj; simp [Addr.add, go_sem]
          case c2 => intro u hu; simp at hu; subst hu; rfl
          case c3 => unfold maxLen; omega
          case c4 => omega
          case c5 => simp; omega
          intro g9 cap9 w9 hown9 hgrow9 hat9 hlt9
          have HO9 : Hid (w9.ownsRow W5.heap.size 3 1 (.slice (some ⟨g9, 0, none⟩) (Gi.length + 1) cap9) (Gi.length + 1) (ints Gi ++ [.int .i64 tg])) := hown9
          have hB9 : But (fun j => (Value.slice ga Gi.length gc).ownBlock = some j) w8 w9 := (But.of_below (balloc (brefl w8) _)).grown hgrow9 fun k hk => .inr hk
          have HB9 : Hid _ := hB9
          have HA9 : Hid ((Value.slice ga Gi.length gc).ownBlock = some g9 ∨ g9 = w8.heap.size + 1) := hat9
          clear hown9 hgrow9 hat9 hlt9 hown8 hB9
          have fin : Hid (∃ Hc', RmInv W5 w9 k b H0 Hc' (Si.store tm (Pg.index p (3 - (m : Int))) 0) Pg.En.zero T P (m + 1) p (.slice (some ⟨g9, 0, none⟩) (Gi.length + 1) cap9) (Gi ++ [tg]) R) := by
            have hlt : ∀ j, (Value.slice ga Gi.length gc).ownBlock = some j → W5.heap.size ≤ j ∧ j < wr.heap.size := fun j hj => HIN.out.own.lt j hj
            obtain ⟨Hc', q1, q2, q3⟩ := HS8.out.other HB9.out fun j hj => ⟨(hlt j hj).2, HIN.out.far j hj⟩
            refine ⟨Hc', q1, ?_, fun j hj => ?_, fun j hj => Nat.lt_of_lt_of_le (q3 j hj) HB9.out.size, ?_, fun j hj => ?_, fun x hx => ?_, HNext.out⟩
            · refine (HIN.out.but.trans HB8.out fun i hi h => ?_).trans HB9.out fun i hi h => ?_
              · rcases HIN.out.hc i h with h | h
                · exact h
                · omega
              · have := (hlt i h).1; omega
            · rcases q2 j hj with h | h
              · exact HIN.out.hc j h
              · have := HIN.out.but.size; exact .inr (by omega)
            · rw [List.length_append, List.length_singleton, ints_push]
              exact HO9.out
            · have e : g9 = j := by simpa [Value.ownBlock] using hj
              subst e
              intro hh
              rcases HA9.out with h | h
              · rcases q2 g9 hh with h' | h'
                · exact HIN.out.far g9 h h'
                · have := (hlt g9 h).2; omega
              · have := q3 g9 hh; omega
            · rw [Pg.store_has]; exact HIN.out.has x hx
          go_wp2_with fail
          obtain ⟨Hc', hI'⟩ := fin.out
          exact ⟨⟨m + 1, _, _, Gi ++ [tg], Hc', by omega, by simp; omega, hI'⟩, by simp [lenOf]; omega⟩
  · have e2 : Pg.tFM S t p = .zz := by rw [Pg.tFM, if_neg hc]
    have e3 : Pg.rmR S t p = (S, []) := by rw [Pg.rmR, if_neg hc]
    rw [e2, e3]
    clear h e2 e3 r4 rf4 hB1
    generalize Pg.tFC S t p = cc at *
    have hcb : (cc != 0) = true := by simp [hc]
    clear hc
    go_enter Try.func25, Try.ntmps25
    go_wp2_with fail
    rw [← hW1]
    clear hW1
    refine HW.mono ?_
    rintro en w3 ⟨k, rfl, _, hb3⟩
    obtain ⟨y0, y1, y2, y3⟩ := later4 hb3 HR4.out
    have yf : ∀ o, w3.frozen? ⟨w.heap.size, o, none⟩ = false := fun o => (hb3.frozen (p := ⟨w.heap.size, o, none⟩) hlw).trans (HF4.out o)
    have HB3 : Hid (Below w.heap.size w w3) := bthen HB1.out hb3
    clear hb3 HW
    go_wp2_with fail
    have hBf := below_set4 HB3.out w.heap.size (Nat.le_refl _) (.int .i64 0) (.int .i64 0) (.int .i64 0) (.int .i64 0)
    refine bodyPost_ret (v := .tuple #[.agg #[.int .i64 0, .int .i64 0, .int .i64 0, .int .i64 0], .slice none 0 0, .int .i64 cc]) ?_ rfl ⟨none, 0, F, rfl, fun j hj => absurd hj (by simp), FrAt.keep (G := fun _ => False) H.out (But.of_below hBf) fun _ _ => id, But.of_below hBf, fun k hk => .inl hk, fun g hg => by cases hg⟩
    simp [results, Try.results25, go_sem, y0, y1, y2, y3]
end Go.Proofs.Ytbkpndgadgafiac

namespace Go.Proofs.Ytbkpndgadgafiac
open Go.RowKit Go.Sort
set_option linter.unusedVariables false
set_option linter.unusedSimpArgs false
set_option maxRecDepth 100000

theorem tabBegun_facts : Pg.insC (Pg.Fs.memory 4 1 (fun _ => 0) 0) 0 ⟨5, 0, 9, 3⟩ = 0 ∧ Pg.insC (Pg.insS (Pg.Fs.memory 4 1 (fun _ => 0) 0) 0 ⟨5, 0, 9, 3⟩) 0 ⟨512, 0, 0, 0⟩ = 6 ∧
    Pg.tFC (Pg.insS (Pg.Fs.memory 4 1 (fun _ => 0) 0) 0 ⟨5, 0, 9, 3⟩) 0 5 = 0 ∧ (Pg.tFM (Pg.insS (Pg.Fs.memory 4 1 (fun _ => 0) 0) 0 ⟨5, 0, 9, 3⟩) 0 5).f = 9 ∧ (Pg.tFE (Pg.insS (Pg.Fs.memory 4 1 (fun _ => 0) 0) 0 ⟨5, 0, 9, 3⟩) 0 5).r = 3 ∧
    (Pg.rmR (Pg.insS (Pg.Fs.memory 4 1 (fun _ => 0) 0) 0 ⟨5, 0, 9, 3⟩) 0 5).2 = [3, 2, 1] := by
  refine ⟨?_, ?_, ?_, ?_, ?_, ?_⟩ <;> decide +kernel

set_option maxHeartbeats 1000000 in
theorem tableBegun_any (w : World) :
    Calls Try.prog 22 #[] w fun e w' => e = .returned (.bool true) ∧ Below w.heap.size w w' := by
  obtain ⟨b1, b2, b3, b4, b5, b6⟩ := tabBegun_facts
  have hw : WordsAt w none 0 (fun _ => 0) := fun j hj => absurd hj (by omega)
  have HM := memory_any 4 (by omega) 1 none 0 0 (by omega) (fun _ => 0) w hw
  generalize Pg.Fs.memory 4 1 (fun _ => 0) 0 = S at *
  have e2 : Pg.insS (Pg.insS S 0 ⟨5, 0, 9, 3⟩) 0 ⟨512, 0, 0, 0⟩ = Pg.insS S 0 ⟨5, 0, 9, 3⟩ := by rw [Pg.insS, b2, if_neg (by decide)]
  have HI1 := fun (w : World) (b : Nat) (F : Nat → Prop) (h : FrAt w b S F) => tInsert_any 0 ⟨5, 0, 9, 3⟩ w h
  rw [b1] at HI1
  simp only [Pg.Mp.val] at HI1
  generalize Pg.insS S 0 ⟨5, 0, 9, 3⟩ = S1 at *
  have HI2 := fun (w : World) (b : Nat) (F : Nat → Prop) (h : FrAt w b S1 F) => tInsert_any 0 ⟨512, 0, 0, 0⟩ w h
  rw [b2, e2] at HI2
  simp only [Pg.Mp.val] at HI2
  have HF := fun (w : World) (b : Nat) (F : Nat → Prop) (h : FrAt w b S1 F) => tFind_any 0 5 w h
  rw [b3] at HF
  have HR := fun (w : World) (b : Nat) (F : Nat → Prop) (h : FrAt w b S1 F) => tRemove_any 0 5 w h
  rw [b3, b6] at HR
  generalize Pg.tFM S1 0 5 = mm at *
  generalize Pg.tFE S1 0 5 = ee at *
  obtain ⟨mp, ms, mf, mr⟩ := mm
  obtain ⟨et, el, er, eu, ed, ef⟩ := ee
  simp only at b4 b5
  subst b4 b5
  simp only [Pg.Mp.val, Pg.En.val] at HF
  generalize (Pg.rmR S1 0 5).1 = S2 at *
  clear hw b1 b2 b3 b6 e2
  go_enter Try.func22, Try.ntmps22
  go_wp2_with fail
  refine HM.mono ?_
  rintro e w1 ⟨bf, bm, g0, g1, vb, F, rfl, hS⟩
  have HS : Hid _ := hS
  clear hS HM
  go_wp2_with fail
  refine (HI1 _ _ _ HS.out.fr).mono ?_
  rintro e w2 ⟨rfl, F2, f1, f2, f3⟩
  have G2 : Hid _ := HS.out.stepF f1 f2 f3
  clear f1 f2 f3 HI1
  go_wp2_with fail
  refine (HI2 _ _ _ G2.out.fr).mono ?_
  rintro e w3 ⟨rfl, F3, f1, f2, f3⟩
  have G3 : Hid _ := G2.out.stepF f1 f2 f3
  clear f1 f2 f3 HI2
  go_wp2_with fail
  refine (HF _ _ _ G3.out.fr).mono ?_
  rintro e w4 ⟨rfl, hb4⟩
  have G4 : Hid _ := G3.out.grow hb4
  clear hb4 HF
  obtain ⟨W5, hW5⟩ : ∃ W5, W5 = (w4.alloc (.cells #[.int .i64 mp, .int .i64 ms, .int .i64 9, .int .i64 mr] 53)).alloc (.cells #[.bool et, .bool el, .int .i64 3, .bool eu, .bool ed, .int .i64 ef] 29) := ⟨_, rfl⟩
  have hb5 : Below w4.heap.size w4 W5 := by rw [hW5]; exact balloc (balloc (brefl _) _) _
  have c2 : W5.cell? ⟨w4.heap.size, 2, none⟩ = some (.int .i64 9) := by rw [hW5]; simp [go_sem]
  have c3 : W5.cell? ⟨w4.heap.size + 1, 2, none⟩ = some (.int .i64 3) := by rw [hW5]; simp [go_sem]
  have G5 : Hid _ := G4.out.grow hb5
  have HFl : Hid (∀ j, F3 j → j < w4.heap.size) := fun j hj => FrAt.lt G4.out.fr hj
  clear hb5
  go_wp2_with fail
  rw [← hW5]
  clear hW5
  refine (HR _ _ _ G5.out.fr).mono ?_
  rintro e w6 ⟨ad, cap, F6, rfl, hi, f1, f2, f3, hg⟩
  have G6 : Hid _ := G5.out.stepF f1 f2 f3
  have d2 := (f2.cell (a := ⟨w4.heap.size, 2, none⟩) (World.block_lt_of_cell? _ _ c2) fun h => by have := HFl.out _ h; simp at this).trans c2
  have d3 := (f2.cell (a := ⟨w4.heap.size + 1, 2, none⟩) (World.block_lt_of_cell? _ _ c3) fun h => by have := HFl.out _ h; simp at this; omega).trans c3
  obtain ⟨g, rfl, hgl, hgc⟩ := hi 0 (by decide)
  have hgc' : w6.cell? ⟨g, 0, none⟩ = some (.int .i64 3) := hgc
  have hl1 : w4.heap.size < w6.heap.size := World.block_lt_of_cell? _ _ d2
  have hl2 : w4.heap.size + 1 < w6.heap.size := World.block_lt_of_cell? _ _ d3
  clear f1 f2 f3 hg hi hgc c2 c3 HR
  simp only [Pg.Mp.val]
  go_wp2_with fail
  go_ret
  exact ⟨rfl, balloc G6.out.bel _⟩

end Go.Proofs.Ytbkpndgadgafiac

namespace Go.Proofs.Ytbkpndgadgafiac
open Go.RowKit Go.Sort
set_option linter.unusedVariables false
set_option maxRecDepth 100000

theorem IntsAt.but {w w' : World} {ad : Option Addr} {L : List Int} {G : Nat → Prop} (h : IntsAt w ad L) (hb : But G w w') (hn : ∀ g, ad = some ⟨g, 0, none⟩ → ¬ G g) : IntsAt w' ad L := fun j hj => by
  obtain ⟨g, e, hl, hc⟩ := h j hj
  exact ⟨g, e, Nat.lt_of_lt_of_le hl hb.size, (hb.cell (a := ⟨g, j, none⟩) hl (hn g e)).trans hc⟩
theorem rmW_len (p : Int) (ts : List Int) : ∀ (k : Nat) (S : Pg.Fs) (G : List Int), (Pg.rmW p ts k S G).2.length ≤ G.length + k
  | 0, S, G => by simp [Pg.rmW]
  | k + 1, S, G => by
    rw [Pg.rmW]
    split
    · exact Nat.le_add_right _ _
    · have := rmW_len p ts k (S.store (ts.getD k 0) (Pg.index p (3 - (k : Int))) 0) (G ++ [ts.getD k 0])
      simp at this ⊢
      omega
theorem rmR_len (S : Pg.Fs) (t p : Int) : (Pg.rmR S t p).2.length ≤ 4680 := by
  unfold Pg.rmR
  split
  · have h1 := rmW_len p (tabs (fndX S t p)) (fndX S t p).length S []
    have h2 := fndX_len S t p
    rw [List.length_nil] at h1
    omega
  · simp

theorem bst_block {w w' : World} {b : Nat} {x : Bst} (h : BstAt w b 0 x) (hk : w'.heap[b]? = w.heap[b]?) : BstAt w' b 0 x :=
  ⟨(World.cell?_of_block hk).trans h.1, (World.cell?_of_block hk).trans h.2.1, (World.cell?_of_block hk).trans h.2.2.1, (World.cell?_of_block hk).trans h.2.2.2.1, (World.cell?_of_block hk).trans h.2.2.2.2.1, (World.cell?_of_block hk).trans h.2.2.2.2.2.1, (World.cell?_of_block hk).trans h.2.2.2.2.2.2.1, (World.cell?_of_block hk).trans h.2.2.2.2.2.2.2.1, (World.cell?_of_block hk).trans h.2.2.2.2.2.2.2.2⟩
theorem mp_block {w w' : World} {Y : Nat} {m : Pg.Mp} (h : MpAt w Y 0 m) (hk : w'.heap[Y]? = w.heap[Y]?) : MpAt w' Y 0 m :=
  ⟨(World.cell?_of_block hk).trans h.1, (World.cell?_of_block hk).trans h.2.1, (World.cell?_of_block hk).trans h.2.2.1, (World.cell?_of_block hk).trans h.2.2.2⟩
theorem mp_set {w : World} {Y : Nat} {m0 : Pg.Mp} (h : MpAt w Y 0 m0) (p s f r : Int) : MpAt ((((w.setCell ⟨Y, 0, none⟩ (.int .i64 p)).setCell ⟨Y, 1, none⟩ (.int .i64 s)).setCell ⟨Y, 2, none⟩ (.int .i64 f)).setCell ⟨Y, 3, none⟩ (.int .i64 r)) Y 0 ⟨p, s, f, r⟩ := by
  obtain ⟨h0, h1, h2, h3⟩ := h
  simp only [Nat.zero_add] at h1 h2 h3
  refine ⟨?_, ?_, ?_, ?_⟩ <;> simp [go_sem, h0, h1, h2, h3]
theorem bst_cells {w : World} {X : Nat} {x : Bst} (h : BstAt w X 0 x) : w.cell? ⟨X, 0, none⟩ = some (.int .i64 x.kind) ∧ w.cell? ⟨X, 2, none⟩ = some (.int .i64 x.m.p) ∧ w.cell? ⟨X, 3, none⟩ = some (.int .i64 x.m.s) ∧ w.cell? ⟨X, 4, none⟩ = some (.int .i64 x.m.f) ∧ w.cell? ⟨X, 5, none⟩ = some (.int .i64 x.m.r) ∧ w.cell? ⟨X, 6, none⟩ = some (.int .i64 x.q) := by
  obtain ⟨h0, h1, h2, h3, h4, h5, h6, h7, h8⟩ := h
  simp only [Nat.zero_add] at h1 h2 h3 h4 h5 h6
  exact ⟨h0, h2, h3, h4, h5, h6⟩

end Go.Proofs.Ytbkpndgadgafiac

namespace Go.Proofs.Ytbkpndgadgafiac
open Go.RowKit Go.Sort
set_option linter.unusedVariables false
set_option maxRecDepth 100000

theorem Side.stepM2 {w0 w w' : World} {bf bm g0 g1 : Nat} {vb vb' : Value} {F : Nat → Prop} {Sf Sm S' : Pg.Fs} (h : Side w0 bf bm g0 g1 vb F Sf Sm w) (h1 : MemAt w' bm g0 g1 vb' S') (hb : But (memF bm g0 g1 vb) w w') (hv : vb'.ownBlock = vb.ownBlock ∨ ∃ j, vb'.ownBlock = some j ∧ w.heap.size ≤ j) : Side w0 bf bm g0 g1 vb' F Sf S' w' := by
  have e : ∀ k, memF bm g0 g1 vb' k → memF bm g0 g1 vb k ∨ w.heap.size ≤ k := fun k hk => by
    rcases hk with hk | hk | hk | hk
    · exact .inl (.inl hk)
    · exact .inl (.inr (.inl hk))
    · exact .inl (.inr (.inr (.inl hk)))
    · rcases hv with hv | ⟨j, hv, hj⟩
      · rw [hv] at hk; exact .inl (.inr (.inr (.inr hk)))
      · rw [hv] at hk; cases hk; exact .inr hj
  refine ⟨h.bel.trans (hb.below h.bel.size h.mhi), h.fr.keep hb fun k hk hm => h.ne k hk hm, h1, h.fhi, fun k hk => ?_, fun k hk hm => ?_⟩
  · rcases e k hk with h2 | h2
    · exact h.mhi k h2
    · have := h.bel.size; omega
  · rcases e k hm with h2 | h2
    · exact h.ne k hk h2
    · have := h.fr.lt hk; omega
/-- What others write does not matter to the two kinds of frames. -/
theorem Side.beside {w0 w w' : World} {bf bm g0 g1 : Nat} {vb : Value} {F G : Nat → Prop} {Sf Sm : Pg.Fs} (h : Side w0 bf bm g0 g1 vb F Sf Sm w) (hb : But G w w') (hG : ∀ j, G j → w0.heap.size ≤ j ∧ ¬ F j ∧ ¬ memF bm g0 g1 vb j) : Side w0 bf bm g0 g1 vb F Sf Sm w' :=
  ⟨h.bel.trans (hb.below h.bel.size fun j hj => (hG j hj).1), h.fr.keep hb fun k hk hg => (hG k hg).2.1 hk, h.mem.keep hb fun k hk hg => (hG k hg).2.2 hk, h.fhi, h.mhi, h.ne⟩

/-- The frames of both kinds, a step at X, two mappings at Y and behind it. -/
structure Tp (w0 wc : World) (bf bm g0 g1 : Nat) (vb : Value) (F : Nat → Prop) (Sf Sm : Pg.Fs) (X Y : Nat) (x : Bst) : Prop where
  side : Side w0 bf bm g0 g1 vb F Sf Sm wc
  xs : BstAt wc X 0 x
  zf : ∀ o, wc.frozen? ⟨Y, o, none⟩ = false ∧ wc.frozen? ⟨Y + 1, o, none⟩ = false
  nF : ∀ j, j = X ∨ j = Y ∨ j = Y + 1 → ¬ F j ∧ ¬ memF bm g0 g1 vb j
  lt : X < Y ∧ Y + 1 < wc.heap.size
  hi : w0.heap.size ≤ X
namespace Tp
variable {w0 wc wd : World} {bf bm g0 g1 : Nat} {vb vb' : Value} {F F' : Nat → Prop} {Sf Sm S' : Pg.Fs} {X Y : Nat} {x : Bst}
theorem grow (h : Tp w0 wc bf bm g0 g1 vb F Sf Sm X Y x) (hb : Below wc.heap.size wc wd) : Tp w0 wd bf bm g0 g1 vb F Sf Sm X Y x := by
  have hl := h.lt
  refine ⟨h.side.grow hb, bst_block h.xs (hb.block X (by omega)), fun o => ⟨(World.frozen?_of_block (hb.block Y (by omega))).trans (h.zf o).1, (World.frozen?_of_block (hb.block (Y + 1) (by omega))).trans (h.zf o).2⟩, h.nF, ⟨hl.1, Nat.lt_of_lt_of_le hl.2 hb.size⟩, h.hi⟩
/-- A step of the developers'. -/
theorem left (h : Tp w0 wc bf bm g0 g1 vb F Sf Sm X Y x) (h1 : FrAt wd bf S' F') (hb : But F wc wd) (hF : ∀ k, F' k → F k ∨ wc.heap.size ≤ k) :
    Tp w0 wd bf bm g0 g1 vb F' S' Sm X Y x ∧ ∀ j, j = X ∨ j = Y ∨ j = Y + 1 → wd.heap[j]? = wc.heap[j]? := by
  have hl := h.lt
  have hk : ∀ j, j = X ∨ j = Y ∨ j = Y + 1 → wd.heap[j]? = wc.heap[j]? := fun j hj => hb.block j (by omega) (h.nF j hj).1
  refine ⟨⟨h.side.stepF h1 hb hF, bst_block h.xs (hk X (.inl rfl)), fun o => ⟨(World.frozen?_of_block (hk Y (.inr (.inl rfl)))).trans (h.zf o).1, (World.frozen?_of_block (hk (Y + 1) (.inr (.inr rfl)))).trans (h.zf o).2⟩, fun j hj => ⟨fun hf => ?_, (h.nF j hj).2⟩, ⟨hl.1, Nat.lt_of_lt_of_le hl.2 hb.size⟩, h.hi⟩, hk⟩
  rcases hF j hf with h2 | h2
  · exact (h.nF j hj).1 h2
  · omega
/-- A step of the document's. -/
theorem right (h : Tp w0 wc bf bm g0 g1 vb F Sf Sm X Y x) (h1 : MemAt wd bm g0 g1 vb' S') (hb : But (memF bm g0 g1 vb) wc wd) (hv : vb'.ownBlock = vb.ownBlock ∨ ∃ j, vb'.ownBlock = some j ∧ wc.heap.size ≤ j) :
    Tp w0 wd bf bm g0 g1 vb' F Sf S' X Y x ∧ ∀ j, j = X ∨ j = Y ∨ j = Y + 1 → wd.heap[j]? = wc.heap[j]? := by
  have hl := h.lt
  have hk : ∀ j, j = X ∨ j = Y ∨ j = Y + 1 → wd.heap[j]? = wc.heap[j]? := fun j hj => hb.block j (by omega) (h.nF j hj).2
  refine ⟨⟨h.side.stepM2 h1 hb hv, bst_block h.xs (hk X (.inl rfl)), fun o => ⟨(World.frozen?_of_block (hk Y (.inr (.inl rfl)))).trans (h.zf o).1, (World.frozen?_of_block (hk (Y + 1) (.inr (.inr rfl)))).trans (h.zf o).2⟩, fun j hj => ⟨(h.nF j hj).1, fun hf => ?_⟩, ⟨hl.1, Nat.lt_of_lt_of_le hl.2 hb.size⟩, h.hi⟩, hk⟩
  rcases hf with hf | hf | hf | hf
  · exact (h.nF j hj).2 (.inl hf)
  · exact (h.nF j hj).2 (.inr (.inl hf))
  · exact (h.nF j hj).2 (.inr (.inr (.inl hf)))
  · rcases hv with hv | ⟨i, hv, hi⟩
    · rw [hv] at hf; exact (h.nF j hj).2 (.inr (.inr (.inr hf)))
    · rw [hv] at hf; cases hf; omega
/-- One of the two mappings is written. -/
theorem set (h : Tp w0 wc bf bm g0 g1 vb F Sf Sm X Y x) {r : Nat} (hr : r = Y ∨ r = Y + 1) (x0 x1 x2 x3 : Value) :
    Tp w0 ((((wc.setCell ⟨r, 0, none⟩ x0).setCell ⟨r, 1, none⟩ x1).setCell ⟨r, 2, none⟩ x2).setCell ⟨r, 3, none⟩ x3) bf bm g0 g1 vb F Sf Sm X Y x ∧ ∀ j, j ≠ r → ((((wc.setCell ⟨r, 0, none⟩ x0).setCell ⟨r, 1, none⟩ x1).setCell ⟨r, 2, none⟩ x2).setCell ⟨r, 3, none⟩ x3).heap[j]? = wc.heap[j]? := by
  have hl := h.lt
  have hb : But (fun k => k = r) wc ((((wc.setCell ⟨r, 0, none⟩ x0).setCell ⟨r, 1, none⟩ x1).setCell ⟨r, 2, none⟩ x2).setCell ⟨r, 3, none⟩ x3) := but_set4 (F := fun k => k = r) (But.refl _ wc) r (.inr rfl) x0 x1 x2 x3
  have hk : ∀ j, j ≠ r → ((((wc.setCell ⟨r, 0, none⟩ x0).setCell ⟨r, 1, none⟩ x1).setCell ⟨r, 2, none⟩ x2).setCell ⟨r, 3, none⟩ x3).heap[j]? = wc.heap[j]? := fun j hj => by
    rw [Below.heap_setCell _ _ _ _ hj, Below.heap_setCell _ _ _ _ hj, Below.heap_setCell _ _ _ _ hj, Below.heap_setCell _ _ _ _ hj]
  refine ⟨⟨h.side.beside hb fun j hj => ?_, bst_block h.xs (hk X (by omega)), fun o => by simpa using h.zf o, h.nF, ⟨hl.1, by simpa using hl.2⟩, h.hi⟩, hk⟩
  have := h.hi
  subst hj
  rcases hr with rfl | rfl
  · exact ⟨by omega, h.nF _ (.inr (.inl rfl))⟩
  · exact ⟨by omega, h.nF _ (.inr (.inr rfl))⟩
end Tp
end Go.Proofs.Ytbkpndgadgafiac

namespace Go.Proofs.Ytbkpndgadgafiac
open Go.ChangeShapes Go.WideShapes Go.ChangeAt Go.RowKit Go.Joins Go.Deep
set_option maxRecDepth 100000
set_option linter.unusedVariables false

def bstV (x : Bst) : Value := .agg #[.int .i64 x.kind, .int .i64 x.core, .int .i64 x.m.p, .int .i64 x.m.s, .int .i64 x.m.f, .int .i64 x.m.r, .int .i64 x.q, .int .i64 x.k, .bool x.u]
theorem array9 {cs : Array Value} (h : cs.size = 9) : ∃ c0 c1 c2 c3 c4 c5 c6 c7 c8, cs = #[c0, c1, c2, c3, c4, c5, c6, c7, c8] := by
  obtain ⟨l⟩ := cs
  match l, h with
  | [c0, c1, c2, c3, c4, c5, c6, c7, c8], _ => exact ⟨c0, c1, c2, c3, c4, c5, c6, c7, c8, rfl⟩

section
variable {H : Type} {enc : TypeId × Value → H} {W : World} {r : Reach} {b0 base : Nat} {spare : Nat → Bool} {held : Bool} {v : Value} {d : DataW H} {p : List MemPlace}
theorem openStep (hv : Value.okWide Try.prog W r b0 60 v) (h : DataW.Trod enc Try.prog W base spare held 60 v d p) :
    ∃ x : Bst, v = bstV x ∧ BstFits x := by
  obtain ⟨cs, rfl, hsz⟩ := okWide_struct Try.underlying60 hv
  obtain ⟨v0, v1, v2, v3, v4, v5, v6, v7, v8, rfl⟩ := array9 (hsz.trans (by kernel_rfl))
  obtain ⟨fuel, hf⟩ := h
  have k1 : Try.prog.cellsOf 3 = 1 := by kernel_rfl
  have kb : Try.prog.cellsOf 4 = 1 := by kernel_rfl
  have km : Try.prog.cellsOf 53 = 4 := by kernel_rfl
  have ka : Try.prog.cellsOf 58 = 3 := by kernel_rfl
  obtain ⟨xs, n, _, _, _, hlen, hq⟩ := DataW.trod_struct Try.underlying60 hf
  match xs, hlen with
  | [y0, y1, y2, y3], _ =>
    have q0 := hq 0 _ rfl
    have q1 := hq 1 _ rfl
    have q2 := hq 2 _ rfl
    have q3 := hq 3 _ rfl
    simp [Value.cells, k1, km, ka] at q0 q1 q2 q3
    obtain ⟨xm, kM, _, _, _, hml, hmq⟩ := DataW.trod_struct Try.underlying53 q2
    obtain ⟨xa, kA, _, _, _, hal, haq⟩ := DataW.trod_struct Try.underlying58 q3
    match xm, hml, xa, hal with
    | [m0, m1, m2, m3], _, [n0, n1, n2], _ =>
      have r0 := hmq 0 _ rfl
      have r1 := hmq 1 _ rfl
      have r2 := hmq 2 _ rfl
      have r3 := hmq 3 _ rfl
      have s0 := haq 0 _ rfl
      have s1 := haq 1 _ rfl
      have s2 := haq 2 _ rfl
      simp [k1] at r0 r1 r2 r3
      simp [k1, kb] at s0 s1 s2
      obtain ⟨a0, e0, _, _⟩ := DataW.trod_int Try.underlying3 q0
      obtain ⟨a1, e1, _, _⟩ := DataW.trod_int Try.underlying3 q1
      obtain ⟨a2, e2, _, w2⟩ := DataW.trod_int Try.underlying3 r0
      obtain ⟨a3, e3, _, w3⟩ := DataW.trod_int Try.underlying3 r1
      obtain ⟨a4, e4, _, w4⟩ := DataW.trod_int Try.underlying3 r2
      obtain ⟨a5, e5, _, w5⟩ := DataW.trod_int Try.underlying3 r3
      obtain ⟨a6, e6, _, w6⟩ := DataW.trod_int Try.underlying3 s0
      obtain ⟨a7, e7, _, w7⟩ := DataW.trod_int Try.underlying3 s1
      obtain ⟨a8, e8, _⟩ := DataW.trod_bool Try.underlying4 s2
      simp at e0 e1 e2 e3 e4 e5 e6 e7 e8
      subst e0 e1 e2 e3 e4 e5 e6 e7 e8
      exact ⟨⟨a0, a1, ⟨a2, a3, a4, a5⟩, a6, a7, a8⟩, rfl, Pg.fits_wf w2, Pg.fits_wf w3, Pg.fits_wf w4, Pg.fits_wf w5, Pg.fits_wf w6, Pg.fits_wf w7⟩
end
end Go.Proofs.Ytbkpndgadgafiac

namespace Go.Proofs.Ytbkpndgadgafiac
open Go.ChangeShapes Go.WideShapes Go.ChangeAt Go.RowKit Go.Joins Go.Deep Go.Sort
set_option maxRecDepth 100000
set_option linter.unusedVariables false
set_option linter.unusedSimpArgs false

theorem notF_of {F F' : Nat → Prop} {B g : Nat} (hF : ∀ k, F' k → F k ∨ B ≤ k) (hn : ¬ F g) (hg : g < B) : ¬ F' g := fun h => by
  rcases hF g h with h' | h'
  · exact hn h'
  · omega
theorem notM_of {bm g0 g1 B g : Nat} {v v' : Value} (hv : v'.ownBlock = v.ownBlock ∨ ∃ j, v'.ownBlock = some j ∧ B ≤ j) (hn : ¬ memF bm g0 g1 v g) (hg : g < B) : ¬ memF bm g0 g1 v' g := fun h => by
  rcases h with h | h | h | h
  · exact hn (.inl h)
  · exact hn (.inr (.inl h))
  · exact hn (.inr (.inr (.inl h)))
  · rcases hv with hv | ⟨i, hv, hi⟩
    · rw [hv] at h; exact hn (.inr (.inr (.inr h)))
    · rw [hv] at h; cases h; omega

set_option maxHeartbeats 8000000 in
theorem tableStays_walk (W : World) (n : Int) (hn : Pg.fits n) (ad' : Option Addr) (len' cap' : Nat) (q' : Nat → Bst)
    (hq' : ∀ j, j < len' → (∃ b o, ad' = some ⟨b, o, none⟩ ∧ b < W.heap.size ∧ BstAt W b (o + j * 9) (q' j)) ∧ BstFits (q' j)) (x : Bst) (hx : BstFits x) :
    Calls Try.prog 7 #[.int .i64 n, .slice ad' len' cap', bstV x] W fun e W' => e = .returned (.bool true) ∧ Below W.heap.size W W' := by
  have HQ' : Hid _ := hq'
  obtain ⟨kind, core, ⟨mp, ms, mf, mr⟩, aq, ak, au⟩ := x
  unfold bstV
  simp only
  clear hn hq' hx
  have hcase : decide (n < 1) = true ∨ (decide (n < 1) = false ∧ decide (128 < n) = true) ∨ (decide (n < 1) = false ∧ decide (128 < n) = false ∧ (150 : Int) < (len' : Int)) ∨ (decide (n < 1) = false ∧ decide (128 < n) = false ∧ decide ((150 : Int) < (len' : Int)) = false ∧ 1 ≤ n ∧ n ≤ 128 ∧ len' ≤ 150) := by
    by_cases h0 : n < 1
    · exact .inl (by simpa using h0)
    · by_cases h1 : 128 < n
      · exact .inr (.inl ⟨by simpa using h0, by simpa using h1⟩)
      · by_cases h2 : 150 < len'
        · exact .inr (.inr (.inl ⟨by simpa using h0, by simpa using h1, by omega⟩))
        · exact .inr (.inr (.inr ⟨by simpa using h0, by simpa using h1, by simp; omega, by omega, by omega, by omega⟩))
  obtain ⟨W1, hW1⟩ : ∃ W1, W1 = W.alloc (.cells #[.int .i64 kind, .int .i64 core, .int .i64 mp, .int .i64 ms, .int .i64 mf, .int .i64 mr, .int .i64 aq, .int .i64 ak, .bool au] 60) := ⟨_, rfl⟩
  have hB1 : Below W.heap.size W W1 := by rw [hW1]; exact balloc (brefl W) _
  have X1 : Hid (BstAt W1 W.heap.size 0 ⟨kind, core, ⟨mp, ms, mf, mr⟩, aq, ak, au⟩) := by
    rw [hW1]
    refine ⟨?_, ?_, ?_, ?_, ?_, ?_, ?_, ?_, ?_⟩ <;> simp [go_sem]
  have HB1 : Hid _ := hB1
  have hl1 : W.heap.size < W1.heap.size := World.block_lt_of_cell? _ _ X1.out.1
  clear hB1
  rcases hcase with h0 | ⟨h0, h1⟩ | ⟨h0, h1, h2⟩ | ⟨h0, h1, h2, n0, n1, hl'⟩
  iterate 3 focus
    go_enter Try.func7, Try.ntmps7
    go_wp2_with fail
    rw [← hW1]
    refine (tableBegun_any _).mono ?_
    rintro e w1 ⟨rfl, hb1⟩
    have HB : Hid (Below W.heap.size W w1) := bthen HB1.out hb1
    clear hb1
    go_wp2_with fail
    go_ret
    exact ⟨rfl, HB.out⟩
  obtain ⟨nn, rfl⟩ := Int.eq_ofNat_of_zero_le (show 0 ≤ n by omega)
  go_enter Try.func7, Try.ntmps7
  go_wp2_with fail
  rw [← hW1]
  clear hW1
  refine (tableBegun_any _).mono ?_
  rintro e w1 ⟨rfl, hb1⟩
  have HB2 : Hid (Below W1.heap.size W1 w1) := hb1
  have HM := memory_any nn (by omega) 1 none 0 0 (by omega) (fun _ => 0) w1 (fun j hj => absurd hj (by omega))
  clear hb1
  go_wp2_with fail
  refine HM.mono ?_
  rintro e w2 ⟨bf, bm, g0, g1, vb0, F0, rfl, hS⟩
  have HS0 : Hid (∃ S, Side W1 bf bm g0 g1 vb0 F0 S S w2) := ⟨_, ⟨bthen HB2.out hS.bel, hS.fr, hS.mem, fun k hk => Nat.le_trans HB2.out.size (hS.fhi k hk), fun k hk => Nat.le_trans HB2.out.size (hS.mhi k hk), hS.ne⟩⟩
  clear hS HM HB2
  go_wp2_with fail
  go_loopw [9] (fun i wr => ∃ k : Nat, k ≤ len' ∧ i = .int .i64 k ∧ Hid (∃ S F vb, Side W1 bf bm g0 g1 vb F S S wr)) (fun i _ => len' - (intOf i).toNat)
  case atStart =>
    obtain ⟨S0, hS0⟩ := HS0.out
    exact ⟨0, by omega, rfl, ⟨_, _, _, hS0⟩⟩
  case round =>
    obtain ⟨k, hk, rfl, HR⟩ := hrel
    obtain ⟨S, F, vb, hB⟩ := HR.out
    have HB : Hid _ := hB
    clear HR hB HS0
    by_cases hlt : k < len'
    · as_aux_lemma =>
      obtain ⟨⟨xb, xo, rfl, hxl, hx⟩, hfit⟩ := HQ'.out k hlt
      have i0 : (0 : Int) ≤ (k : Int) := by omega
      have i1 : (k : Int) < (len' : Int) := by omega
      clear X1 hfit
      generalize q' k = x at *
      obtain ⟨kd, cr, ⟨lp, ls, lf, lr⟩, bq, bk, bu⟩ := x
      obtain ⟨x0, x1, x2, x3, x4, x5, x6, x7, x8⟩ := hx
      have HXC : Hid (∀ w', Below W1.heap.size W1 w' → w'.cell? ⟨xb, xo + k * 9, none⟩ = some (.int .i64 kd) ∧ w'.cell? ⟨xb, xo + k * 9 + 2, none⟩ = some (.int .i64 lp) ∧ w'.cell? ⟨xb, xo + k * 9 + 3, none⟩ = some (.int .i64 ls) ∧ w'.cell? ⟨xb, xo + k * 9 + 4, none⟩ = some (.int .i64 lf) ∧ w'.cell? ⟨xb, xo + k * 9 + 5, none⟩ = some (.int .i64 lr)) := fun w' hb => by
        have hb' := bthen HB1.out hb
        exact ⟨(hb'.cell (p := ⟨xb, xo + k * 9, none⟩) hxl).trans x0, (hb'.cell (p := ⟨xb, xo + k * 9 + 2, none⟩) hxl).trans x2, (hb'.cell (p := ⟨xb, xo + k * 9 + 3, none⟩) hxl).trans x3, (hb'.cell (p := ⟨xb, xo + k * 9 + 4, none⟩) hxl).trans x4, (hb'.cell (p := ⟨xb, xo + k * 9 + 5, none⟩) hxl).trans x5⟩
      obtain ⟨y0, y2, y3, y4, y5⟩ := HXC.out _ HB.out.bel
      clear x0 x1 x2 x3 x4 x5 x6 x7 x8 HQ'
      by_cases h1 : kd = 1
      · subst h1
        have HI := tInsert_any 0 ⟨lp, ls, lf, lr⟩ wr HB.out.fr
        simp only [Pg.Mp.val] at HI
        go_wp2_with fail
        refine HI.mono ?_
        rintro e w5 ⟨rfl, F5, h5, hb5, hF5⟩
        have G5 : Hid _ := HB.out.stepF h5 hb5 hF5
        obtain ⟨z0, z2, z3, z4, z5⟩ := HXC.out _ G5.out.bel
        have HI2 := insertTo_any 0 ⟨lp, ls, lf, lr⟩ w5 G5.out.mem
        simp only [Pg.Mp.val] at HI2
        clear h5 hb5 hF5 HI y0 y2 y3 y4 y5
        go_wp2_with fail
        refine HI2.mono ?_
        rintro e w6 ⟨rfl, v6, h6, hb6, hv6⟩
        have G6 : Hid _ := G5.out.stepM2 h6 hb6 (.inl hv6)
        clear h6 hb6 hv6 HI2
        go_wp2_with fail
        exact ⟨⟨k + 1, by omega, by go_num, ⟨_, _, _, G6.out⟩⟩, by simp [intOf]; omega⟩
      · have nn1 : (kd == 1) = false := by simpa using h1
        clear h1
        by_cases h2 : kd = 2
        · subst h2
          have HP := tRemove_any 0 lp wr HB.out.fr
          have HP2 := fun w (h : MemAt w bm g0 g1 vb S) => removeFrom_any 0 lp w h
          have hGl := rmR_len S 0 lp
          generalize Pg.tFM S 0 lp = dm at *
          generalize Pg.tFC S 0 lp = code at *
          generalize (Pg.rmR S 0 lp).1 = S1 at *
          generalize (Pg.rmR S 0 lp).2 = G at *
          obtain ⟨dp, ds, df, dr⟩ := dm
          have hmF : Hid (∀ j, memF bm g0 g1 vb j → j < wr.heap.size) := fun j hj => HB.out.mem.raw.lt hj
          go_wp2_with fail
          refine HP.mono ?_
          rintro e w5 ⟨ga, gc, F5, rfl, hi5, h5, hb5, hF5, hg5⟩
          have G5 : Hid _ := HB.out.stepF h5 hb5 hF5
          have HG5 : Hid (∀ g, ga = some ⟨g, 0, none⟩ → wr.heap.size ≤ g ∧ ¬ F5 g) := hg5
          have I5 : Hid (IntsAt w5 ga G) := hi5
          have hb5m := balloc (brefl w5) (.cells #[.int .i64 dp, .int .i64 ds, .int .i64 df, .int .i64 dr] 53)
          have G5m : Hid _ := G5.out.grow hb5m
          have I5m : Hid (IntsAt (w5.alloc (.cells #[.int .i64 dp, .int .i64 ds, .int .i64 df, .int .i64 dr] 53)) ga G) := IntsAt.below hi5 hb5m
          obtain ⟨z0, z2, z3, z4, z5⟩ := HXC.out _ G5m.out.bel
          clear h5 hb5 hF5 HP y0 y2 y3 y4 y5 hi5 hg5 hb5m
          simp only [Pg.Mp.val]
          have hxl5 : xb < w5.heap.size := by have := G5.out.bel.size; omega
          have hnx5 : ¬ xb = w5.heap.size := by omega
          have z2' : w5.cell? ⟨xb, xo + k * 9 + 2, none⟩ = some (.int .i64 lp) := (HXC.out _ G5.out.bel).2.1
          go_wp2_with fail
          refine (HP2 _ G5m.out.mem).mono ?_
          rintro e w6 ⟨ga2, gc2, rfl, hi6, h6, hb6, hg6⟩
          have G6 : Hid _ := G5m.out.stepM2 h6 hb6 (.inl rfl)
          have I6 : Hid (IntsAt w6 ga G) := IntsAt.but I5m.out hb6 fun g hg h => by have := (HG5.out g hg).1; have := hmF.out g h; omega
          have N6 : Hid (∀ g, ga = some ⟨g, 0, none⟩ → ¬ F5 g ∧ ¬ memF bm g0 g1 vb g) := fun g hg => ⟨(HG5.out g hg).2, fun h => by have := (HG5.out g hg).1; have := hmF.out g h; omega⟩
          clear h6 hb6 hi6 hg6 HP2 HG5 hmF I5 I5m z0 z2 z3 z4 z5 z2' G5 G5m
          go_wp2_with fail
          generalize wr.heap.size = bx at *
          go_loopw [13] (fun jv wi => ∃ j : Nat, j ≤ G.length ∧ jv = .int .i64 (j : Int) ∧ Hid (∃ S' F' vb', Side W1 bf bm g0 g1 vb' F' S' S' wi ∧ IntsAt wi ga G ∧ ∀ g, ga = some ⟨g, 0, none⟩ → ¬ F' g ∧ ¬ memF bm g0 g1 vb' g)) (fun jv _ => G.length - (intOf jv).toNat)
          case atStart => exact ⟨0, by omega, rfl, ⟨_, _, _, G6.out, I6.out, N6.out⟩⟩
          case round =>
            obtain ⟨j, hj, rfl, HRj⟩ := hrel
            obtain ⟨Sj, Fj, vj, pj, ij, gj⟩ := HRj.out
            have PJ : Hid _ := pj
            have IJ : Hid (IntsAt wr ga G) := ij
            have GJ : Hid _ := gj
            clear HRj pj ij gj G6 I6 N6
            have j0 : (0 : Int) ≤ (j : Int) := by omega
            by_cases hjl : j < G.length
            · have j1 : (j : Int) < (G.length : Int) := by omega
              obtain ⟨g, rfl, hgl, hgc⟩ := IJ.out j hjl
              obtain ⟨ng1, ng2⟩ := GJ.out g rfl
              have HGf := frGive_any (G.getD j 0) wr PJ.out.fr
              have HMg := fun (w : World) (vq : Value) (h : MemAt w bm g0 g1 vq Sj) => memGive_any (G.getD j 0) w h
              generalize G.getD j 0 = xg at *
              go_wp2_with fail
              refine HGf.mono ?_
              rintro e w8 ⟨rfl, F8, h8, hb8, hF8⟩
              have P8 : Hid _ := PJ.out.stepF h8 hb8 hF8
              have hg8 : w8.cell? ⟨g, j, none⟩ = some (.int .i64 xg) := (hb8.cell (a := ⟨g, j, none⟩) hgl ng1).trans hgc
              have I8 : Hid (IntsAt w8 (some ⟨g, 0, none⟩) G) := IntsAt.but IJ.out hb8 fun g' e h => by cases e; exact ng1 h
              have hgl8 : g < w8.heap.size := World.block_lt_of_cell? _ _ hg8
              have NF8 : Hid (¬ F8 g) := notF_of hF8 ng1 hgl
              clear h8 hb8 hF8 HGf
              go_wp2_with fail
              refine (HMg _ _ P8.out.mem).mono ?_
              rintro e w9 ⟨rfl, v9, h9, hb9, hv9⟩
              have P9 : Hid _ := P8.out.stepM2 h9 hb9 hv9
              have I9 : Hid (IntsAt w9 (some ⟨g, 0, none⟩) G) := IntsAt.but I8.out hb9 fun g' e h => by cases e; exact ng2 h
              have NM9 : Hid (¬ memF bm g0 g1 v9 g) := notM_of hv9 ng2 hgl8
              clear h9 hb9 hv9 HMg
              go_wp2_with fail
              exact ⟨⟨j + 1, by omega, by go_num, ⟨_, _, _, P9.out, I9.out, fun g' e => by cases e; exact ⟨NF8.out, NM9.out⟩⟩⟩, by simp [intOf]; omega⟩
            · have j1 : ¬ (j : Int) < (G.length : Int) := by omega
              go_wp2_with fail
              exact ⟨⟨k + 1, by omega, by go_num, ⟨_, _, _, PJ.out⟩⟩, by simp [intOf]; omega⟩
        · have nn2 : (kd == 2) = false := by simpa using h2
          clear h2
          go_wp2_with fail
          exact ⟨⟨k + 1, by omega, by go_num, ⟨_, _, _, HB.out⟩⟩, by simp [intOf]; omega⟩
    · have i1 : ¬ (k : Int) < (len' : Int) := by omega
      clear HQ'
      have hbx : wr.heap[W.heap.size]? = W1.heap[W.heap.size]? := HB.out.bel.block _ hl1
      obtain ⟨y0, y2, y3, y4, y5, _⟩ := bst_cells (bst_block X1.out hbx)
      simp only at y0 y2 y3 y4 y5
      have fin0 : Hid (∀ w', Below W1.heap.size W1 w' → Below W.heap.size W w') := fun w' hb => bthen HB1.out hb
      clear hbx X1
      by_cases h1 : kind = 1
      · as_aux_lemma =>
        subst h1
        have HI := tInsert_any 0 ⟨mp, ms, mf, mr⟩ wr HB.out.fr
        have hst : Pg.insC S 0 ⟨mp, ms, mf, mr⟩ ≠ 0 → Pg.insS S 0 ⟨mp, ms, mf, mr⟩ = S := fun h => by rw [Pg.insS, if_neg h]
        simp only [Pg.Mp.val] at HI
        generalize Pg.insC S 0 ⟨mp, ms, mf, mr⟩ = code at *
        generalize Pg.insS S 0 ⟨mp, ms, mf, mr⟩ = S1 at *
        go_wp2_with fail
        refine HI.mono ?_
        rintro e w5 ⟨rfl, F5, h5, hb5, hF5⟩
        have G5 : Hid _ := HB.out.stepF h5 hb5 hF5
        clear h5 hb5 hF5 HI y0 y2 y3 y4 y5
        by_cases hz : code = 0
        · subst hz
          have fin := G5.out.bel
          go_wp2_with fail
          go_ret
          exact ⟨rfl, fin0.out _ fin⟩
        · have hcb : (code == 0) = false := by simpa using hz
          have e1 := hst hz
          subst e1
          have HSW := sameWords_any G5.out
          clear hst hz
          go_wp2_with fail
          refine HSW.mono ?_
          rintro e w6 ⟨rfl, hb6⟩
          have G6 : Hid _ := G5.out.grow hb6
          have HT := frTake_any w6 G6.out.fr
          have HT2 := fun (w : World) (h : MemAt w bm g0 g1 vb S1) => memTake_any w h
          generalize S1.takeN = tk at *
          have tt : (tk == tk) = true := by simp
          clear hb6 HSW
          go_wp2_with fail
          refine HT.mono ?_
          rintro e w7 ⟨rfl, F7, h7, hb7, hF7⟩
          have G7 : Hid _ := G6.out.stepF h7 hb7 hF7
          clear h7 hb7 hF7 HT
          go_wp2_with fail
          refine (HT2 _ G7.out.mem).mono ?_
          rintro e w8 ⟨rfl, v8, h8, hb8, hv8⟩
          have G8 : Hid _ := G7.out.stepM h8 hb8 hv8
          clear h8 hb8 hv8 HT2
          go_wp2_with fail
          go_ret
          exact ⟨rfl, fin0.out _ G8.out.bel⟩
      · have nn1 : (kind == 1) = false := by simpa using h1
        clear h1
        by_cases h2 : kind = 2
        · as_aux_lemma =>
          subst h2
          have HP := tRemove_any 0 mp wr HB.out.fr
          have hst : Pg.tFC S 0 mp ≠ 0 → (Pg.rmR S 0 mp).1 = S := fun h => by rw [Pg.rmR, if_neg h]
          generalize Pg.tFM S 0 mp = dm at *
          generalize Pg.tFC S 0 mp = code at *
          generalize (Pg.rmR S 0 mp).1 = S1 at *
          generalize (Pg.rmR S 0 mp).2 = G at *
          obtain ⟨dp, ds, df, dr⟩ := dm
          go_wp2_with fail
          refine HP.mono ?_
          rintro e w5 ⟨ga, gc, F5, rfl, hi5, h5, hb5, hF5, hg5⟩
          have G5 : Hid _ := HB.out.stepF h5 hb5 hF5
          clear h5 hb5 hF5 HP y0 y2 y3 y4 y5 hi5 hg5
          simp only [Pg.Mp.val]
          by_cases hz : code = 0
          · subst hz
            have fin := G5.out.bel
            go_wp2_with fail
            go_ret
            exact ⟨rfl, fin0.out _ fin⟩
          · have hcb : (code == 0) = false := by simpa using hz
            have e1 := hst hz
            subst e1
            have HSW := sameWords_any G5.out
            clear hst hz
            go_wp2_with fail
            refine HSW.mono ?_
            rintro e w6 ⟨rfl, hb6⟩
            have G6 : Hid _ := G5.out.grow hb6
            have HT := frTake_any w6 G6.out.fr
            have HT2 := fun (w : World) (h : MemAt w bm g0 g1 vb S1) => memTake_any w h
            generalize S1.takeN = tk at *
            have tt : (tk == tk) = true := by simp
            clear hb6 HSW
            go_wp2_with fail
            refine HT.mono ?_
            rintro e w7 ⟨rfl, F7, h7, hb7, hF7⟩
            have G7 : Hid _ := G6.out.stepF h7 hb7 hF7
            clear h7 hb7 hF7 HT
            go_wp2_with fail
            refine (HT2 _ G7.out.mem).mono ?_
            rintro e w8 ⟨rfl, v8, h8, hb8, hv8⟩
            have G8 : Hid _ := G7.out.stepM h8 hb8 hv8
            clear h8 hb8 hv8 HT2
            go_wp2_with fail
            go_ret
            exact ⟨rfl, fin0.out _ G8.out.bel⟩
        · have nn2 : (kind == 2) = false := by simpa using h2
          clear h2
          by_cases h3 : kind = 3
          · as_aux_lemma =>
            subst h3
            have HP := tProtect_any 0 mp mr wr HB.out.fr
            have hst : Pg.prC S 0 mp mr ≠ 0 → Pg.prS S 0 mp mr = S := fun h => by rw [Pg.prS, if_neg h]
            generalize Pg.prM S 0 mp mr = dm at *
            generalize Pg.prC S 0 mp mr = code at *
            generalize Pg.prS S 0 mp mr = S1 at *
            obtain ⟨dp, ds, df, dr⟩ := dm
            simp only [Pg.Mp.val] at HP
            go_wp2_with fail
            refine HP.mono ?_
            rintro e w5 ⟨rfl, F5, h5, hb5, hF5⟩
            have G5 : Hid _ := HB.out.stepF h5 hb5 hF5
            clear h5 hb5 hF5 HP y0 y2 y3 y4 y5
            by_cases hz : code = 0
            · subst hz
              have fin := G5.out.bel
              go_wp2_with fail
              go_ret
              exact ⟨rfl, fin0.out _ fin⟩
            · have hcb : (code == 0) = false := by simpa using hz
              have e1 := hst hz
              subst e1
              have HSW := sameWords_any G5.out
              clear hst hz
              go_wp2_with fail
              refine HSW.mono ?_
              rintro e w6 ⟨rfl, hb6⟩
              have G6 : Hid _ := G5.out.grow hb6
              have HT := frTake_any w6 G6.out.fr
              have HT2 := fun (w : World) (h : MemAt w bm g0 g1 vb S1) => memTake_any w h
              generalize S1.takeN = tk at *
              have tt : (tk == tk) = true := by simp
              clear hb6 HSW
              go_wp2_with fail
              refine HT.mono ?_
              rintro e w7 ⟨rfl, F7, h7, hb7, hF7⟩
              have G7 : Hid _ := G6.out.stepF h7 hb7 hF7
              clear h7 hb7 hF7 HT
              go_wp2_with fail
              refine (HT2 _ G7.out.mem).mono ?_
              rintro e w8 ⟨rfl, v8, h8, hb8, hv8⟩
              have G8 : Hid _ := G7.out.stepM h8 hb8 hv8
              clear h8 hb8 hv8 HT2
              go_wp2_with fail
              go_ret
              exact ⟨rfl, fin0.out _ G8.out.bel⟩
          · have nn3 : (kind == 3) = false := by simpa using h3
            clear h3
            have fin := HB.out.bel
            go_wp2_with fail
            go_ret
            exact ⟨rfl, fin0.out _ fin⟩

set_option maxRecDepth 100000 in
theorem tableStays_lifted (os : Os) (started : os.Started) (H : Type) (enc : TypeId × Value → H) :
    ReturnsInHanded {} Try.checked os 7 .any (Rows.tableStaysSpec.pre6 enc Try.prog Try.f7 Rows.tableStaysRow.domain false) (Rows.tableStaysSpec.post enc Try.prog Try.f7 false true false false) := by
  refine returnsInHanded_of_change (C := Try.checked) own started (by kernel_rfl) Try.func7
    (ChangeSpec.witness6 (enc := enc) (C := Try.checked) false ⟨#[], #[.int .i64 0, .slice none 0 0, .agg #[.int .i64 0, .int .i64 0, .int .i64 0, .int .i64 0, .int .i64 0, .int .i64 0, .int .i64 0, .int .i64 0, .bool false]], []⟩ 8 (by kernel_rfl) (by kernel_rfl) (by kernel_rfl) (by kernel_rfl)) ?_
  intro W base args ds gs before hval0 hW hcnd _
  have hval : ∀ (j : Nat) t v, Try.f7.params[j]? = some t → args[j]? = some v → Value.okWide Try.prog W .any base t v := hval0
  have hW' := hW
  obtain ⟨p, q, hA0, hV, rfl, hfz, hnd⟩ := hW
  have hA : DataW.TrodAll enc Try.prog W 0 (fun _ => true) true Try.f7.params.toList args.toList ds p := hA0
  rw [Try.params7] at hA hval
  obtain ⟨v0, vs0, d0, ds0, p0, q0, hargs, rfl, rfl, h0, r0⟩ := trodAll_cons hA
  obtain ⟨v1, vs1, d1, ds1, p1, q1, rfl, rfl, rfl, h1, r1⟩ := trodAll_cons r0
  obtain ⟨v2, vs2, d2, ds2, p2, q2, rfl, rfl, rfl, h2, r2⟩ := trodAll_cons r1
  obtain ⟨rfl, rfl, rfl⟩ := trodAll_nil r2
  obtain rfl : args = #[v0, v1, v2] := by cases args; simp_all
  obtain ⟨rfl, rfl⟩ := trodVars_none hV
  obtain ⟨a0a, rfl, f0a⟩ := openInt (hval 0 3 v0 rfl rfl) h0
  obtain ⟨a1a, a1b, a1c, a1d, rfl, f1a⟩ := openBsts (hval 1 56 v1 rfl rfl) h1
  obtain ⟨a2a, rfl, f2a⟩ := openStep (hval 2 60 v2 rfl rfl) h2
  clear hA0 hval0
  refine (tableStays_walk W a0a f0a a1a a1b a1c a1d f1a a2a f2a).mono fun e W' ⟨he, bel⟩ => ?_
  subst he
  exact ⟨_, rfl, _, _, _, [], _, [], hW', trodAll_mk1 (shut_bool Try.underlying4 _), (trodAll_cons_mk (stays (by kernel_rfl) (of_decide_eq_true (by kernel_rfl)) h0 bel) (trodAll_cons_mk (stays (by kernel_rfl) (of_decide_eq_true (by kernel_rfl)) h1 bel) (trodAll_cons_mk (stays (by kernel_rfl) (of_decide_eq_true (by kernel_rfl)) h2 bel) trodAll_mk0))), rfl, bel.frame _, fun h => by cases h⟩

theorem tableStays_over : Rows.tableStaysRow.holds Try.pinned (OpenSpec.ofChange Rows.tableStaysSpec) :=
  OpenClaim.holds_of_wide 7 Try.f7 rfl rfl rfl rfl rfl rfl rfl ⟨rfl, rfl, rfl, rfl, rfl⟩ rfl rfl rfl rfl rfl (by kernel_rfl) Try.func7 (by kernel_rfl)
    (of_decide_eq_true (by kernel_rfl)) (by unfold Func.isWrapper; first | (rw [if_pos (by decide +kernel)]; kernel_rfl) | (rw [if_neg (by decide +kernel)]; exact ⟨rfl, rfl⟩))
    (fun os started H enc _ => tableStays_lifted os started H enc)

theorem tableStays_proved : Rows.TableStaysSaid := tableStays_over
#print axioms tableStays_proved
end Go.Proofs.Ytbkpndgadgafiac
