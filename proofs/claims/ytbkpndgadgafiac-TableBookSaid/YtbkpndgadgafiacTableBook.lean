/-
  TableBook: tables say what a book says, for every argument.
-/
import Derived.Test.YtbkpndgadgafiacTabD
import Derived.Test.YtbkpndgadgafiacTabH
import Derived.Test.YtbkpndgadgafiacTabJ
import Derived.Test.YtbkpndgadgafiacWalkH
import Derived.Test.YtbkpndgadgafiacWords
import Derived.Test.YtbkpndgadgafiacPlainTI
import Derived.Test.YtbkpndgadgafiacWalkI
import Derived.Test.YtbkpndgadgafiacIntsIn
import Derived.Test.YtbkpndgadgafiacWalkD
import Derived.Deep.AppendLies
import Derived.Test.YtbkpndgadgafiacPlainT
import Derived.Test.YtbkpndgadgafiacFrameB
import Derived.Test.YtbkpndgadgafiacMapInfo
import Derived.Test.YtbkpndgadgafiacBook
import Derived.Deep.RegionHeld3
import Derived.Deep.DeepCutAuto
import Derived.Test.YtbkpndgadgafiacRows
namespace Go.Proofs.Ytbkpndgadgafiac
open Go.RowKit Go.Sort
set_option linter.unusedVariables false
set_option linter.unusedSimpArgs false
set_option maxRecDepth 100000

theorem insW_done (p : Int) (s : Nat) (S : Pg.Fs) (t : Int) : Pg.insW p s s S t = (S, t) := by
  cases s with
  | zero => rfl
  | succ s => simp [Pg.insW]
theorem insW_more (p : Int) (s m : Nat) (S : Pg.Fs) (t : Int) (h : s ≤ m) : Pg.insW p s (m + 1) S t = Pg.insW p s m (S.take.store t (Pg.index p ((m + 1 : Nat) : Int)) (Pg.enc true false 7 false false S.takeN ((m + 1 : Nat) : Int))) S.takeN := by
  rw [Pg.insW, if_neg (by omega)]

set_option maxHeartbeats 4000000 in
theorem tInsert_any {b : Nat} {S : Pg.Fs} {F : Nat → Prop} (t : Int) (m : Pg.Mp) (w : World) (h : FrAt w b S F) :
    Calls Try.prog 23 #[.pointer (some ⟨b, 0, none⟩), .int .i64 t, m.val] w fun en w' => en = .returned (.int .i64 (Pg.insC S t m)) ∧ ∃ F', FrAt w' b (Pg.insS S t m) F' ∧ But F w w' ∧ ∀ k, F' k → F k ∨ w.heap.size ≤ k := by
  obtain ⟨p, s, f, r⟩ := m
  have HC := check_any p s f r
  have eC : Pg.Mp.code ⟨p, s, f, r⟩ = Pg.check p s f r := rfl
  rw [← eC] at HC
  simp only [Pg.Mp.val]
  have H : Hid (FrAt w b S F) := h
  obtain ⟨W1, hW1⟩ : ∃ W1, W1 = w.alloc (.cells #[.int .i64 p, .int .i64 s, .int .i64 f, .int .i64 r] 53) := ⟨_, rfl⟩
  have hB1 : Below w.heap.size w W1 := by rw [hW1]; exact balloc (brefl w) _
  have r4 : W1.cell? ⟨w.heap.size, 0, none⟩ = some (.int .i64 p) ∧ W1.cell? ⟨w.heap.size, 1, none⟩ = some (.int .i64 s) ∧ W1.cell? ⟨w.heap.size, 2, none⟩ = some (.int .i64 f) ∧ W1.cell? ⟨w.heap.size, 3, none⟩ = some (.int .i64 r) := by rw [hW1]; simp [go_sem]
  have HB1 : Hid _ := hB1
  obtain ⟨x0, x1, x2, x3⟩ := r4
  have fin0 : Hid (∀ w', Below w.heap.size w w' → ∃ F', FrAt w' b S F' ∧ But F w w' ∧ ∀ k, F' k → F k ∨ w.heap.size ≤ k) := fun w' hb => ⟨F, FrAt.keep (G := fun _ => False) H.out (But.of_below hb) fun _ _ => id, But.of_below hb, fun k hk => .inl hk⟩
  have HW := fun w2 (hb : Below w.heap.size w w2) => newMaker_any t p w2 (h.keep (G := fun _ => False) (But.of_below hb) fun _ _ => id)
  clear hB1 eC
  by_cases hc : Pg.Mp.code ⟨p, s, f, r⟩ = 0
  · rw [hc] at HC
    by_cases hz : fndC S t p = 0
    · obtain ⟨Y, sp, lv, hY, W, hsl, hl3, hY3, hpl, hix⟩ := way_split hz
      have hs : 0 ≤ s ∧ s ≤ 2 := by
        have hc' : Pg.check p s f r = 0 := hc
        have hsp : Pg.span s ≠ 0 := by
          intro e
          rw [Pg.check, if_pos e] at hc'
          omega
        unfold Pg.span at hsp
        by_cases h0 : s = 0
        · omega
        · by_cases h1 : s = 1
          · omega
          · by_cases h2 : s = 2
            · omega
            · simp [h0, h1, h2] at hsp
      obtain ⟨sn, rfl⟩ := Int.eq_ofNat_of_zero_le hs.1
      have hs2 : sn ≤ 2 := by omega
      have e6 : tabs (Y ++ [sp]) = tabs Y ++ [sp.table] := by simp [tabs]
      have e7 : plcs (Y ++ [sp]) = plcs Y ++ [(sp.place : Int)] := by simp [plcs]
      have eI : Pg.insC S t ⟨p, sn, f, r⟩ = if sp.e.t = true ∨ (lv : Int) < (sn : Int) then 4 else if S.free < (lv : Int) - (sn : Int) then 6 else 0 := by
        rw [Pg.insC, if_neg (by simp [hc]), if_neg (by simp [hz]), hY, W.lastE, W.lastL]
      have eS : Pg.insS S t ⟨p, sn, f, r⟩ = if Pg.insC S t ⟨p, sn, f, r⟩ = 0 then (Pg.insW p sn lv S sp.table).1.store (Pg.insW p sn lv S sp.table).2 (Pg.index p (sn : Int)) (Pg.enc true true r false false f (sn : Int)) else S := by
        rw [Pg.insS, hY, W.lastL, W.lastT]
        rfl
      rw [hz, hY, W.lastL, W.lastE, e6, e7, hpl] at HW
      have hlen : (tabs Y).length = (plcs Y).length := by rw [tabs_len, plcs_len]
      have hlt : (tabs Y).length ≤ 3 := by rw [tabs_len]; omega
      have hfree := h.ok.free_bd
      have HFr := fun w2 (hb : Below w.heap.size w w2) => frFree_any w2 (h.keep (G := fun _ => False) (But.of_below hb) fun _ _ => id)
      clear hc hz W hY hsl hpl hix h e6 e7 hs
      generalize tabs Y = T at *
      generalize plcs Y = P at *
      obtain ⟨st, _, _, _, ⟨et, el, er, eu, ed, ef⟩⟩ := sp
      simp only at eI eS HW
      clear hY3 Y
      generalize Pg.insC S t ⟨p, sn, f, r⟩ = ic at *
      generalize Pg.insS S t ⟨p, sn, f, r⟩ = iS at *
      by_cases hE : et = true ∨ (lv : Int) < (sn : Int)
      · rw [if_pos hE] at eI
        rw [eI, if_neg (by decide)] at eS
        rw [eI, eS]
        clear eI eS
        cases et
        · have hlt' : (lv : Int) < (sn : Int) := by
            rcases hE with h | h
            · cases h
            · exact h
          clear hE
          go_enter Try.func23, Try.ntmps23
          go_wp2_with fail
          rw [← hW1]
          clear hW1
          refine (HC _).mono ?_
          rintro en w2 ⟨rfl, hb2⟩
          have y0 := cell_later hb2 x0
          have y1 := cell_later hb2 x1
          have y2 := cell_later hb2 x2
          have y3 := cell_later hb2 x3
          have HB2 : Hid (Below w.heap.size w w2) := bthen HB1.out hb2
          clear hb2 HC x0 x1 x2 x3
          go_wp2_with fail
          refine (HW _ HB2.out).mono ?_
          rintro en w3 ⟨k, rfl, hS, hb3⟩
          have HS : Hid _ := hS
          have HB3 : Hid (Below w.heap.size w w3) := bthen HB2.out hb3
          obtain ⟨B, v1, v2, F', hM, _, _, _, _, _, _⟩ := hS.body
          have k0 := hM.c0
          have k1 := hM.c1
          have k2 := hM.c2
          simp only at k2
          have z1 := cell_later hb3 y1
          have z2 := cell_later hb3 y2
          have z3 := cell_later hb3 y3
          have hlx : w.heap.size < w2.heap.size := World.block_lt_of_cell? _ _ y0
          have HZ : Hid _ := And.intro z1 (And.intro z2 z3)
          clear hM hS hb3 HW y0 y1 y2 y3
          go_wp2_with fail
          go_quiet (fail)
          go_wp2_with fail
          go_ret
          exact ⟨rfl, fin0.out _ (bthen HB3.out (below_drewN (brefl _) _))⟩
        · clear hE
          go_enter Try.func23, Try.ntmps23
          go_wp2_with fail
          rw [← hW1]
          clear hW1
          refine (HC _).mono ?_
          rintro en w2 ⟨rfl, hb2⟩
          have y0 := cell_later hb2 x0
          have y1 := cell_later hb2 x1
          have y2 := cell_later hb2 x2
          have y3 := cell_later hb2 x3
          have HB2 : Hid (Below w.heap.size w w2) := bthen HB1.out hb2
          clear hb2 HC x0 x1 x2 x3
          go_wp2_with fail
          refine (HW _ HB2.out).mono ?_
          rintro en w3 ⟨k, rfl, hS, hb3⟩
          have HS : Hid _ := hS
          have HB3 : Hid (Below w.heap.size w w3) := bthen HB2.out hb3
          obtain ⟨B, v1, v2, F', hM, _, _, _, _, _, _⟩ := hS.body
          have k0 := hM.c0
          have k1 := hM.c1
          have k2 := hM.c2
          simp only at k2
          have z1 := cell_later hb3 y1
          have z2 := cell_later hb3 y2
          have z3 := cell_later hb3 y3
          have hlx : w.heap.size < w2.heap.size := World.block_lt_of_cell? _ _ y0
          have HZ : Hid _ := And.intro z1 (And.intro z2 z3)
          clear hM hS hb3 HW y0 y1 y2 y3
          go_wp2_with fail
          go_quiet (fail)
          go_wp2_with fail
          go_ret
          exact ⟨rfl, fin0.out _ (bthen HB3.out (below_drewN (brefl _) _))⟩
      · rw [if_neg hE] at eI
        have hef : et = false := by
          cases et
          · rfl
          · exact absurd (.inl rfl) hE
        have hle : sn ≤ lv := by omega
        subst hef
        clear hE
        by_cases hfu : S.free < (lv : Int) - (sn : Int)
        · rw [if_pos hfu] at eI
          rw [eI, if_neg (by decide)] at eS
          rw [eI, eS]
          clear eI eS
          go_enter Try.func23, Try.ntmps23
          go_wp2_with fail
          rw [← hW1]
          clear hW1
          refine (HC _).mono ?_
          rintro en w2 ⟨rfl, hb2⟩
          have y0 := cell_later hb2 x0
          have y1 := cell_later hb2 x1
          have y2 := cell_later hb2 x2
          have y3 := cell_later hb2 x3
          have HB2 : Hid (Below w.heap.size w w2) := bthen HB1.out hb2
          clear hb2 HC x0 x1 x2 x3
          go_wp2_with fail
          refine (HW _ HB2.out).mono ?_
          rintro en w3 ⟨k, rfl, hS, hb3⟩
          have HS : Hid _ := hS
          have HB3 : Hid (Below w.heap.size w w3) := bthen HB2.out hb3
          obtain ⟨B, v1, v2, F', hM, _, _, _, _, _, _⟩ := hS.body
          have k0 := hM.c0
          have k1 := hM.c1
          have k2 := hM.c2
          simp only at k2
          have z1 := cell_later hb3 y1
          have z2 := cell_later hb3 y2
          have z3 := cell_later hb3 y3
          have hlx : w.heap.size < w2.heap.size := World.block_lt_of_cell? _ _ y0
          have HZ : Hid _ := And.intro z1 (And.intro z2 z3)
          clear hM hS hb3 HW y0 y1 y2 y3
          go_wp2_with fail
          go_quiet (fail)
          go_wp2_with fail
          refine (HFr _ (bthen HB3.out (below_drewN (brefl _) _))).mono ?_
          rintro en w4 ⟨rfl, hb4⟩
          have HB4 : Hid (Below w.heap.size w w4) := bthen (bthen HB3.out (below_drewN (brefl _) _)) hb4
          clear hb4 HFr
          go_wp2_with fail
          go_ret
          exact ⟨rfl, fin0.out _ HB4.out⟩
        · rw [if_neg hfu] at eI
          rw [eI, if_pos rfl] at eS
          rw [eI, eS]
          clear eI eS
          have dd1 : decide ((lv : Int) - (sn : Int) < 0) = false := by simp; omega
          have dd2 : decide (S.free < (lv : Int) - (sn : Int)) = false := by simp; omega
          go_enter Try.func23, Try.ntmps23
          go_wp2_with fail
          rw [← hW1]
          clear hW1
          refine (HC _).mono ?_
          rintro en w2 ⟨rfl, hb2⟩
          have y0 := cell_later hb2 x0
          have y1 := cell_later hb2 x1
          have y2 := cell_later hb2 x2
          have y3 := cell_later hb2 x3
          have HB2 : Hid (Below w.heap.size w w2) := bthen HB1.out hb2
          clear hb2 HC x0 x1 x2 x3
          go_wp2_with fail
          refine (HW _ HB2.out).mono ?_
          rintro en w3 ⟨k, rfl, hS, hb3⟩
          have HS : Hid _ := hS
          have HB3 : Hid (Below w.heap.size w w3) := bthen HB2.out hb3
          obtain ⟨B, v1, v2, F', hM, _, _, _, _, _, _⟩ := hS.body
          have k0 := hM.c0
          have k1 := hM.c1
          have k2 := hM.c2
          simp only at k2
          have z1 := cell_later hb3 y1
          have z2 := cell_later hb3 y2
          have z3 := cell_later hb3 y3
          have hlx : w.heap.size < w2.heap.size := World.block_lt_of_cell? _ _ y0
          have HZ : Hid _ := And.intro z1 (And.intro z2 z3)
          clear hM hS hb3 HW y0 y1 y2 y3
          go_wp2_with fail
          go_quiet (fail)
          go_wp2_with fail
          refine (HFr _ (bthen HB3.out (below_drewN (brefl _) _))).mono ?_
          rintro en w4 ⟨rfl, hb4⟩
          have HB34 : Hid (Below w3.heap.size w3 w4) := bthen (below_drewN (brefl _) _) hb4
          clear hb4 HFr
          go_wp2_with fail
          try simp only [dd1, dd2]
          go_loopw [53] (fun i wr => ∃ (j lvn : Nat) (Si : Pg.Fs) (ei : Pg.En) (ts ps : List Int) (ti : Int), lvn + j = lv ∧ sn ≤ lvn ∧ i = .int .i64 (j : Int) ∧ ts.length = ps.length ∧ ts.length = T.length + j ∧ Hid (St w2 wr k b F Si (lvn : Int) ei (ts ++ [ti]) (ps ++ [Pg.index p (lvn : Int)]) p ∧ Pg.insW p sn lvn Si ti = Pg.insW p sn lv S st)) (fun i _ => lv - (intOf i).toNat)
          case atStart => exact ⟨0, lv, S, _, T, P, st, by omega, by omega, rfl, hlen, rfl, HS.out.grow HB34.out, rfl⟩
          case round =>
            obtain ⟨j, lvn, Si, ei, ts, ps, ti, hj, hlvn, rfl, hl1, hl2, HR⟩ := hrel
            have j0 : (0 : Int) ≤ (j : Int) := by omega
            by_cases hlt2 : sn < lvn
            · have j1 : (j : Int) < (lv : Int) - (sn : Int) := by omega
              have HX := extend_any HR.out.1 hl1 (by omega) (by omega) (by omega)
              obtain ⟨lm, rfl⟩ : ∃ lm, lvn = lm + 1 := ⟨lvn - 1, by omega⟩
              have e9 : ((lm + 1 : Nat) : Int) - 1 = (lm : Int) := by omega
              rw [e9] at HX
              have e10 : Hid (Pg.insW p sn lm (Si.take.store ti (Pg.index p ((lm + 1 : Nat) : Int)) (Pg.enc true false 7 false false Si.takeN ((lm + 1 : Nat) : Int))) Si.takeN = Pg.insW p sn lv S st) := by rw [Hid, ← insW_more p sn lm Si ti (by omega)]; exact HR.out.2
              go_wp2_with fail
              refine HX.mono ?_
              rintro en w5 ⟨rfl, h5⟩
              have H5 : Hid _ := h5
              clear h5 HX HR
              go_wp2_with fail
              exact ⟨⟨j + 1, lm, _, _, _, _, _, by omega, by omega, by go_num, by simp [hl1], by simp [hl2]; omega, H5.out, e10.out⟩, by simp [intOf]; omega⟩
            · have hee : lvn = sn := by omega
              subst hee
              have j1 : ¬ (j : Int) < (lv : Int) - (lvn : Int) := by omega
              have hins := HR.out.2
              rw [insW_done] at hins
              have HX := put_any ⟨true, true, r, false, false, f⟩ HR.out.1 hl1 (by omega)
              simp only [Pg.En.val] at HX
              have hbx : wr.heap[w.heap.size]? = w3.heap[w.heap.size]? := by
                have q1 := HR.out.1.but.block w.heap.size hlx fun hF => by have := FrAt.lt H.out hF; omega
                have q2 := HS.out.but.block w.heap.size hlx fun hF => by have := FrAt.lt H.out hF; omega
                exact q1.trans q2.symm
              have b2 := (World.cell?_of_block hbx).trans HZ.out.2.1
              have b3 := (World.cell?_of_block hbx).trans HZ.out.2.2
              have HIN : Hid _ := hins
              clear hins hbx z1 z2 z3 k0 k1 k2 HR
              go_wp2_with fail
              refine HX.mono ?_
              rintro en w6 ⟨rfl, h6⟩
              obtain ⟨F6, f1, f2, f3⟩ := h6.leaves
              have fin : Hid (∃ F', FrAt w6 b ((Pg.insW p lvn lv S st).1.store (Pg.insW p lvn lv S st).2 (Pg.index p (lvn : Int)) (Pg.enc true true r false false f (lvn : Int))) F' ∧ But F w w6 ∧ ∀ k, F' k → F k ∨ w.heap.size ≤ k) := by
                rw [Hid, ← HIN.out]
                exact ⟨F6, f1, (But.of_below HB2.out).trans f2 fun _ _ h => h, fun j hj => (f3 j hj).imp id fun h => by have := HB2.out.size; omega⟩
              clear h6 f1 f2 f3 HX HIN
              go_wp2_with fail
              go_ret
              exact ⟨rfl, fin.out⟩
    · have e1 : Pg.insC S t ⟨p, s, f, r⟩ = fndC S t p := by rw [Pg.insC, if_neg (by simp [hc]), if_pos hz]
      have e2 : Pg.insS S t ⟨p, s, f, r⟩ = S := by rw [Pg.insS, e1, if_neg hz]
      rw [e1, e2]
      clear e1 e2 h
      generalize fndC S t p = cc at *
      have hcb : (cc != 0) = true := by simp [hz]
      clear hz hc
      go_enter Try.func23, Try.ntmps23
      go_wp2_with fail
      rw [← hW1]
      clear hW1
      refine (HC _).mono ?_
      rintro en w2 ⟨rfl, hb2⟩
      have y0 := cell_later hb2 x0
      have HB2 : Hid (Below w.heap.size w w2) := bthen HB1.out hb2
      clear hb2
      go_wp2_with fail
      refine (HW _ HB2.out).mono ?_
      rintro en w3 ⟨k, rfl, _, hb3⟩
      have HB3 : Hid (Below w.heap.size w w3) := bthen HB2.out hb3
      clear hb3
      go_wp2_with fail
      go_ret
      exact ⟨rfl, fin0.out _ HB3.out⟩
  · have e1 : Pg.insC S t ⟨p, s, f, r⟩ = Pg.Mp.code ⟨p, s, f, r⟩ := by rw [Pg.insC, if_pos hc]
    have e2 : Pg.insS S t ⟨p, s, f, r⟩ = S := by rw [Pg.insS, e1, if_neg hc]
    rw [e1, e2]
    clear e1 e2 h HW
    generalize Pg.Mp.code ⟨p, s, f, r⟩ = cc at *
    have hcb : (cc != 0) = true := by simp [hc]
    clear hc
    go_enter Try.func23, Try.ntmps23
    go_wp2_with fail
    rw [← hW1]
    clear hW1
    refine (HC _).mono ?_
    rintro en w2 ⟨rfl, hb2⟩
    have HB2 : Hid (Below w.heap.size w w2) := bthen HB1.out hb2
    clear hb2
    go_wp2_with fail
    go_ret
    exact ⟨rfl, fin0.out _ HB2.out⟩
end Go.Proofs.Ytbkpndgadgafiac

namespace Go.Proofs.Ytbkpndgadgafiac
open Go.RowKit Go.Sort
set_option linter.unusedVariables false
set_option linter.unusedSimpArgs false
set_option maxRecDepth 100000

/-- What Remove leaves. -/
structure RmDone (w : World) (b : Nat) (F : Nat → Prop) (S S' : Pg.Fs) (m : Pg.Mp) (G : List Int) (c : Int) (en : Ending) (w' : World) : Prop where
  body : ∃ ad cap F', en = .returned (.tuple #[m.val, .slice ad G.length cap, .int .i64 c]) ∧ IntsAt w' ad G ∧ FrAt w' b S' F' ∧ But F w w' ∧ (∀ k, F' k → F k ∨ w.heap.size ≤ k) ∧ ∀ g, ad = some ⟨g, 0, none⟩ → w.heap.size ≤ g ∧ ¬ F' g

def lenOf : Value → Nat
  | .slice _ n _ => n
  | _ => 0
/-- What holds in each round of Remove. -/
structure RmInv (W5 wr : World) (k b : Nat) (H0 Hc : Nat → Prop) (Si : Pg.Fs) (ei : Pg.En) (T P : List Int) (n : Nat) (p : Int) (vg : Value) (Gi : List Int) (R : Pg.Fs × List Int) : Prop where
  st : St wr wr k b Hc Si (4 - (n : Int)) ei (T.take n) (P.take n) p
  but : But H0 W5 wr
  hc : ∀ j, Hc j → H0 j ∨ W5.heap.size ≤ j
  lt : ∀ j, Hc j → j < wr.heap.size
  own : wr.ownsRow W5.heap.size 3 1 vg Gi.length (ints Gi)
  far : ∀ j, vg.ownBlock = some j → ¬ Hc j
  has : ∀ x, x ∈ T → Si.has x = true
  rest : rmRest p T n Si Gi = R

theorem rm_finish {w W1 W5 wr w7 : World} {k b n : Nat} {F H0 Hc : Nat → Prop} {S Si : Pg.Fs} {ei : Pg.En} {T P Gi : List Int} {p : Int} {ga : Option Addr} {gc : Nat} {R : Pg.Fs × List Int} (HI : RmInv W5 wr k b H0 Hc Si ei T P n p (.slice ga Gi.length gc) Gi R) (hb : Below wr.heap.size wr w7) (H : FrAt w b S F) (hB5 : But F w W5) (hH0 : ∀ j, H0 j → F j ∨ W1.heap.size ≤ j) (hlw : w.heap.size < W1.heap.size) (h15 : W1.heap.size ≤ W5.heap.size) (a0 a1 a2 a3 : Value) (m : Pg.Mp) (c : Int) :
    RmDone w b F S Si m Gi c (.returned (.tuple #[m.val, .slice ga Gi.length gc, .int .i64 c])) ((((w7.setCell ⟨w.heap.size, 0, none⟩ a0).setCell ⟨w.heap.size, 1, none⟩ a1).setCell ⟨w.heap.size, 2, none⟩ a2).setCell ⟨w.heap.size, 3, none⟩ a3) := by
  obtain ⟨F2, hF, hB, h1⟩ := HI.st.leaves
  have hFc : ∀ j, F2 j → Hc j := fun j hj => by
    rcases h1 j hj with h | h
    · exact h
    · have := hF.lt hj; omega
  have hFf : ∀ j, F2 j → F j ∨ W1.heap.size ≤ j := fun j hj => by
    rcases HI.hc j (hFc j hj) with h | h
    · exact hH0 j h
    · exact .inr (by omega)
  have hbt : But (fun j => j = w.heap.size) wr ((((w7.setCell ⟨w.heap.size, 0, none⟩ a0).setCell ⟨w.heap.size, 1, none⟩ a1).setCell ⟨w.heap.size, 2, none⟩ a2).setCell ⟨w.heap.size, 3, none⟩ a3) := by
    iterate 4 refine But.setCell ?_ (by exact .inr rfl) _
    exact But.of_below hb
  refine ⟨ga, gc, F2, rfl, ?_, hF.keep hbt fun j hj e => ?_, ?_, fun j hj => (hFf j hj).imp id fun h => by omega, fun g hg => ?_⟩
  · exact owns_intsAt (cap := gc) (n := Gi.length) (ownsMaps_but HI.own hbt fun j hj e => by have := (HI.own.lt j hj).1; omega)
  · rcases hFf j hj with h | h
    · have := H.lt h; omega
    · omega
  · refine (hB5.trans HI.but fun i hi h => ?_).trans hbt fun i hi e => by omega
    rcases hH0 i h with h | h
    · exact h
    · omega
  · subst hg
    have := (HI.own.lt g rfl).1
    exact ⟨by omega, fun h => HI.far g rfl (hFc g h)⟩

set_option maxHeartbeats 4000000 in
theorem tRemove_any {b : Nat} {S : Pg.Fs} {F : Nat → Prop} (t p : Int) (w : World) (h : FrAt w b S F) :
    Calls Try.prog 25 #[.pointer (some ⟨b, 0, none⟩), .int .i64 t, .int .i64 p] w fun en w' => RmDone w b F S (Pg.rmR S t p).1 (Pg.tFM S t p) (Pg.rmR S t p).2 (Pg.tFC S t p) en w' := by
  have H : Hid (FrAt w b S F) := h
  obtain ⟨W1, hW1⟩ : ∃ W1, W1 = w.alloc (.cells #[.int .i64 0, .int .i64 0, .int .i64 0, .int .i64 0] 53) := ⟨_, rfl⟩
  have hB1 : Below w.heap.size w W1 := by rw [hW1]; exact balloc (brefl w) _
  have r4 : W1.cell? ⟨w.heap.size, 0, none⟩ = some (.int .i64 0) ∧ W1.cell? ⟨w.heap.size, 1, none⟩ = some (.int .i64 0) ∧ W1.cell? ⟨w.heap.size, 2, none⟩ = some (.int .i64 0) ∧ W1.cell? ⟨w.heap.size, 3, none⟩ = some (.int .i64 0) := by rw [hW1]; simp [go_sem]
  have rf4 : ∀ o, W1.frozen? ⟨w.heap.size, o, none⟩ = false := fun o => by rw [hW1]; simp [go_sem]
  have HR4 : Hid _ := r4
  have HF4 : Hid _ := rf4
  have HB1 : Hid _ := hB1
  have hlw : w.heap.size < W1.heap.size := World.block_lt_of_cell? _ _ r4.1
  have HW := newLeafMaker_any t p W1 (h.keep (G := fun _ => False) (But.of_below hB1) fun _ _ => id)
  by_cases hc : Pg.tFC S t p = 0
  · have hz : fndC S t p = 0 := by
      by_cases hz : fndC S t p = 0
      · exact hz
      · rw [Pg.tFC, if_pos hz] at hc
        exact absurd hc hz
    obtain ⟨Y, s, lv, hY, W, hsl, hl3, hY3, hpl, hix⟩ := way_split hz
    have hhas := W.has
    have hlenX := W.len
    have e5 : Pg.tFM S t p = s.e.map (lv : Int) p := by rw [Pg.tFM, if_pos hc, hY, W.lastE, W.lastL]
    have eR : Pg.rmR S t p = Pg.rmW p (tabs (Y ++ [s])) (Y.length + 1) S [] := by rw [Pg.rmR, if_pos hc, hY]; simp
    have hps : ∀ i, i < Y.length + 1 → (plcs (Y ++ [s])).getD i 0 = Pg.index p (3 - (i : Int)) := fun i hi => by
      have := (find_place S t p (i := i) (by rw [hY]; simpa using hi)).2.2
      rw [hY] at this
      exact this
    rw [hc, e5, eR]
    rw [hc, hY, W.lastL, W.lastE] at HW
    have hlT : (tabs (Y ++ [s])).length = Y.length + 1 := by rw [tabs_len]; simp
    have hlP : (plcs (Y ++ [s])).length = Y.length + 1 := by rw [plcs_len]; simp
    rw [List.length_append, List.length_singleton] at hlenX
    clear hc hz W hY hsl hpl hix h e5 eR r4 rf4 hB1
    generalize tabs (Y ++ [s]) = T at *
    generalize plcs (Y ++ [s]) = P at *
    generalize Y.length = N at *
    generalize hee : s.e = e at *
    clear hee
    generalize hmm : e.map (lv : Int) p = mm at *
    have HMM : Hid _ := hmm
    clear hmm
    obtain ⟨mp, ms, mf, mr⟩ := mm
    rw [rmW_rest]
    go_enter Try.func25, Try.ntmps25
    go_wp2_with fail
    rw [← hW1]
    clear hW1
    refine HW.mono ?_
    rintro en w3 ⟨k, rfl, hS, hb3⟩
    have HMap := mkMapping_any hS
    rw [HMM.out] at HMap
    simp only [Pg.Mp.val] at HMap
    have HS3 : Hid _ := hS
    have HB3 : Hid (Below W1.heap.size W1 w3) := hb3
    clear hS hb3 HW
    go_wp2_with fail
    refine HMap.mono ?_
    rintro en w4 ⟨rfl, hb4⟩
    have HB4 : Hid (Below w3.heap.size w3 w4) := hb4
    clear hb4 HMap
    obtain ⟨W5, hW5⟩ : ∃ W5, W5 = w4.alloc (.cells #[.int .i64 mp, .int .i64 ms, .int .i64 mf, .int .i64 mr] 53) := ⟨_, rfl⟩
    have hB5 : Below w3.heap.size w3 W5 := by rw [hW5]; exact balloc HB4.out _
    have m4 : W5.cell? ⟨w4.heap.size, 0, none⟩ = some (.int .i64 mp) ∧ W5.cell? ⟨w4.heap.size, 1, none⟩ = some (.int .i64 ms) ∧ W5.cell? ⟨w4.heap.size, 2, none⟩ = some (.int .i64 mf) ∧ W5.cell? ⟨w4.heap.size, 3, none⟩ = some (.int .i64 mr) := by rw [hW5]; simp [go_sem]
    have hl45 : w4.heap.size < W5.heap.size := World.block_lt_of_cell? _ _ m4.1
    have Z5 : Hid _ := later4 (bthen HB3.out hB5) HR4.out
    have ZF5 : Hid (∀ o, W5.frozen? ⟨w.heap.size, o, none⟩ = false) := fun o => ((bthen HB3.out hB5).frozen (p := ⟨w.heap.size, o, none⟩) hlw).trans (HF4.out o)
    have hS6 : ∃ H0' : Nat → Prop, St W5 W5 k b H0' S (lv : Int) e T P p ∧ (∀ j, H0' j → F j ∨ W1.heap.size ≤ j) ∧ ∀ j, H0' j → j < w4.heap.size := by
      obtain ⟨H', q1, q2, q3⟩ := (HS3.out.grow HB4.out).other (w' := W5) (G := fun _ => False) (by rw [hW5]; exact But.of_below (balloc (brefl _) _)) fun _ h => h.elim
      exact ⟨H', q1, q2, q3⟩
    obtain ⟨H0, hS5, hH0, hH0'⟩ := hS6
    have HP2 : Calls Try.prog 67 #[.pointer (some ⟨k, 0, none⟩), .agg #[.bool false, .bool false, .int .i64 0, .bool false, .bool false, .int .i64 0]] W5 fun en w' => en = .returned (.tuple #[]) ∧ St W5 w' k b H0 (S.store (T.getD N 0) (Pg.index p (3 - (N : Int))) 0) (lv : Int) Pg.En.zero (T.take (N + 1)) (P.take (N + 1)) p := by
      have eT : T = T.take N ++ [T.getD N 0] := by rw [← take_last T N (by omega), ← hlT, List.take_length]
      have eP : P = P.take N ++ [Pg.index p (3 - (N : Int))] := by rw [← hps N (by omega), ← take_last P N (by omega), ← hlP, List.take_length]
      have hS7 : St W5 W5 k b H0 S (lv : Int) e (T.take N ++ [T.getD N 0]) (P.take N ++ [Pg.index p (3 - (N : Int))]) p := by rw [← eT, ← eP]; exact hS5
      have := put_any Pg.En.zero hS7 (by simp; omega) (by simp; omega)
      simp only [Pg.En.zero, Pg.En.val, enc_none] at this
      rw [← eT, ← eP] at this
      have t1 : T.take (N + 1) = T := by rw [← hlT, List.take_length]
      have t2 : P.take (N + 1) = P := by rw [← hlP, List.take_length]
      rw [t1, t2]
      exact this
    have M5 : Hid _ := m4
    have HBt5 : Hid (But F w W5) := (But.of_below HB1.out).trans ((HS3.out.but).trans (But.of_below (F := fun _ => False) hB5) fun _ _ h => h.elim) fun _ _ h => h
    have HH0 : Hid _ := hH0
    have HH0' : Hid _ := hH0'
    have hl15 : W1.heap.size ≤ W5.heap.size := Nat.le_trans HB3.out.size hB5.size
    clear hS5 hH0 hH0' m4 hB5 HS3
    have hlv : (lv : Int) = 4 - ((N + 1 : Nat) : Int) := by omega
    rw [hlv] at HP2
    generalize hR : rmRest p T (N + 1) (S.store (T.getD N 0) (Pg.index p (3 - (N : Int))) 0) [] = R at *
    have HRR : Hid _ := hR
    clear hR
    have hhas' : ∀ x, x ∈ T → (S.store (T.getD N 0) (Pg.index p (3 - (N : Int))) 0).has x = true := fun x hx => by rw [Pg.store_has]; exact hhas x hx
    have HHS : Hid _ := hhas'
    clear hhas hhas'
    go_wp2_with fail
    rw [← hW5]
    clear hW5
    refine HP2.mono ?_
    rintro en w6 ⟨rfl, h6⟩
    have HS6 : Hid _ := h6
    clear h6 HP2
    go_wp2_with fail
    go_loopw [12] (fun vg wr => ∃ (n : Nat) (Si : Pg.Fs) (ei : Pg.En) (Gi : List Int) (Hc : Nat → Prop), 1 ≤ n ∧ Gi.length + n = N + 1 ∧ Hid (RmInv W5 wr k b H0 Hc Si ei T P n p vg Gi R)) (fun vg _ => 10 - lenOf vg)
    case atStart =>
      obtain ⟨Hc, q1, q2, q3⟩ := HS6.out.rebase
      exact ⟨N + 1, _, _, [], Hc, by omega, by simp, q1, HS6.out.but, q2, q3, World.ownsRow_nil _ _ _ _, fun j hj => by simp [Value.ownBlock] at hj, HHS.out, HRR.out⟩
    case round =>
      obtain ⟨n, Si, ei, Gi, Hc, hn1, hgn, HI⟩ := hrel
      have hTn : (T.take n).length = n := by simp; omega
      have HBR := isBelowRoot_any HI.out.st (by omega)
      rw [hTn] at HBR
      obtain ⟨ga, gc, hvg⟩ := ownsMaps_form HI.out.own
      subst hvg
      by_cases h1 : n = 1
      · subst h1
        have hb1 : decide (1 < 1) = false := by decide
        rw [hb1] at HBR
        have HFin : Hid (R = (Si, Gi)) := by rw [Hid, ← HI.out.rest, rmRest, if_pos (by left; omega)]
        go_wp2_with fail
        refine HBR.mono ?_
        rintro en w7 ⟨rfl, hw7⟩
        have hb7 : Below wr.heap.size wr w7 := hw7 ▸ brefl wr
        clear hw7
        have hbw : w7.heap[w.heap.size]? = W5.heap[w.heap.size]? := by
          have q1 := HI.out.but.block w.heap.size (by omega) fun h => by
            rcases HH0.out _ h with h | h
            · have := FrAt.lt H.out h; omega
            · omega
          exact (hb7.block _ (by have := HI.out.but.size; omega)).trans q1
        have hbm : w7.heap[w4.heap.size]? = W5.heap[w4.heap.size]? := by
          have q1 := HI.out.but.block w4.heap.size (by omega) fun h => by have := HH0'.out _ h; omega
          exact (hb7.block _ (by have := HI.out.but.size; omega)).trans q1
        have z0 := (World.cell?_of_block hbw).trans Z5.out.1
        have z1 := (World.cell?_of_block hbw).trans Z5.out.2.1
        have z2 := (World.cell?_of_block hbw).trans Z5.out.2.2.1
        have z3 := (World.cell?_of_block hbw).trans Z5.out.2.2.2
        have zf : ∀ o, w7.frozen? ⟨w.heap.size, o, none⟩ = false := fun o => (World.frozen?_of_block hbw).trans (ZF5.out o)
        have m0 := (World.cell?_of_block hbm).trans M5.out.1
        have m1 := (World.cell?_of_block hbm).trans M5.out.2.1
        have m2 := (World.cell?_of_block hbm).trans M5.out.2.2.1
        have m3 := (World.cell?_of_block hbm).trans M5.out.2.2.2
        have fin : Hid _ := rm_finish HI.out hb7 H.out HBt5.out HH0.out hlw hl15 (.int .i64 mp) (.int .i64 ms) (.int .i64 mf) (.int .i64 mr) ⟨mp, ms, mf, mr⟩ 0
        clear hbw hbm hb7 HBR
        go_wp2_with fail
        refine bodyPost_ret (v := .tuple #[.agg #[.int .i64 mp, .int .i64 ms, .int .i64 mf, .int .i64 mr], .slice ga Gi.length gc, .int .i64 0]) ?_ rfl ?_
        · simp [results, Try.results25, go_sem, z0, z1, z2, z3]
        · rw [HRR.out, HFin.out]
          exact fin.out
      · obtain ⟨m, rfl⟩ : ∃ m, n = m + 2 := ⟨n - 2, by omega⟩
        have hb1 : decide (1 < m + 2) = true := by simp
        rw [hb1] at HBR
        have eT : T.take (m + 2) = T.take m ++ [T.getD m 0] ++ [T.getD (m + 1) 0] := by rw [take_last T (m + 1) (by omega), take_last T m (by omega)]
        have eT1 : T.take (m + 2) = T.take (m + 1) ++ [T.getD (m + 1) 0] := take_last T (m + 1) (by omega)
        have eP : P.take (m + 2) = P.take m ++ [P.getD m 0] ++ [P.getD (m + 1) 0] := by rw [take_last P (m + 1) (by omega), take_last P m (by omega)]
        have hin : T.getD (m + 1) 0 ∈ T := by
          have : m + 1 < T.length := by omega
          simp [List.getD, this]
        have HTE : Calls Try.prog 73 #[.pointer (some ⟨k, 0, none⟩)] wr fun en w' => en = .returned (.bool (Pg.emptyT Si (T.getD (m + 1) 0))) ∧ Below wr.heap.size wr w' := isTableEmpty_any (by rw [← eT1]; exact HI.out.st) (by simp; omega) (HI.out.has _ hin)
        cases hem : Pg.emptyT Si (T.getD (m + 1) 0)
        · rw [hem] at HTE
          have HFin : Hid (R = (Si, Gi)) := by rw [Hid, ← HI.out.rest, rmRest, if_pos (by right; exact hem)]
          go_wp2_with fail
          refine HBR.mono ?_
          rintro en w7 ⟨rfl, hw7⟩
          subst w7
          go_wp2_with fail
          refine HTE.mono ?_
          rintro en w7 ⟨rfl, hb7⟩
          have hbw : w7.heap[w.heap.size]? = W5.heap[w.heap.size]? := by
            have q1 := HI.out.but.block w.heap.size (by omega) fun h => by
              rcases HH0.out _ h with h | h
              · have := FrAt.lt H.out h; omega
              · omega
            exact (hb7.block _ (by have := HI.out.but.size; omega)).trans q1
          have hbm : w7.heap[w4.heap.size]? = W5.heap[w4.heap.size]? := by
            have q1 := HI.out.but.block w4.heap.size (by omega) fun h => by have := HH0'.out _ h; omega
            exact (hb7.block _ (by have := HI.out.but.size; omega)).trans q1
          have z0 := (World.cell?_of_block hbw).trans Z5.out.1
          have z1 := (World.cell?_of_block hbw).trans Z5.out.2.1
          have z2 := (World.cell?_of_block hbw).trans Z5.out.2.2.1
          have z3 := (World.cell?_of_block hbw).trans Z5.out.2.2.2
          have zf : ∀ o, w7.frozen? ⟨w.heap.size, o, none⟩ = false := fun o => (World.frozen?_of_block hbw).trans (ZF5.out o)
          have m0 := (World.cell?_of_block hbm).trans M5.out.1
          have m1 := (World.cell?_of_block hbm).trans M5.out.2.1
          have m2 := (World.cell?_of_block hbm).trans M5.out.2.2.1
          have m3 := (World.cell?_of_block hbm).trans M5.out.2.2.2
          have fin : Hid _ := rm_finish HI.out hb7 H.out HBt5.out HH0.out hlw hl15 (.int .i64 mp) (.int .i64 ms) (.int .i64 mf) (.int .i64 mr) ⟨mp, ms, mf, mr⟩ 0
          clear hbw hbm hb7 HBR HTE
          go_wp2_with fail
          refine bodyPost_ret (v := .tuple #[.agg #[.int .i64 mp, .int .i64 ms, .int .i64 mf, .int .i64 mr], .slice ga Gi.length gc, .int .i64 0]) ?_ rfl ?_
          · simp [results, Try.results25, go_sem, z0, z1, z2, z3]
          · rw [HRR.out, HFin.out]
            exact fin.out
        · rw [hem] at HTE
          have HNext : Hid (rmRest p T (m + 1) (Si.store (T.getD m 0) (Pg.index p (3 - (m : Int))) 0) (Gi ++ [T.getD (m + 1) 0]) = R) := by
            rw [Hid, ← HI.out.rest, ← rmW_rest]
            conv => rhs; rw [rmRest, if_neg (by intro hh; rcases hh with h | h; (· omega); (· rw [show m + 2 - 1 = m + 1 from rfl, hem] at h; cases h))]
            rfl
          go_wp2_with fail
          refine HBR.mono ?_
          rintro en w7 ⟨rfl, hw7⟩
          subst w7
          go_wp2_with fail
          refine HTE.mono ?_
          rintro en w7 ⟨rfl, hb7⟩
          have hlvl : (4 - ((m + 2 : Nat) : Int)) + 1 = 4 - ((m + 1 : Nat) : Int) := by omega
          have hS7 : St wr w7 k b Hc Si (4 - ((m + 2 : Nat) : Int)) ei (T.take m ++ [T.getD m 0] ++ [T.getD (m + 1) 0]) (P.take m ++ [P.getD m 0] ++ [P.getD (m + 1) 0]) p := by rw [← eT, ← eP]; exact HI.out.st.grow hb7
          have HCut := cut_any hS7 (by simp; omega) (by simp; omega) (by omega) (by omega)
          rw [hlvl, hps m (by omega)] at HCut
          rw [← take_last T m (by omega)] at HCut
          have eP1 : P.take m ++ [Pg.index p (3 - (m : Int))] = P.take (m + 1) := by rw [take_last P m (by omega), hps m (by omega)]
          rw [eP1] at HCut
          have HB7 : Hid _ := hb7
          have HIN : Hid _ := HI.out
          have hgl : Gi.length + 1 ≤ 4 := by omega
          generalize T.getD (m + 1) 0 = tg at *
          generalize T.getD m 0 = tm at *
          clear hb7 HBR HTE eT eT1 eP hin eP1 hlvl hS7
          go_wp2_with fail
          refine HCut.mono ?_
          rintro en w8 ⟨rfl, h8⟩
          have HS8 : Hid _ := h8
          have hB8 : But Hc wr w8 := h8.but
          have hown8 : w8.ownsRow W5.heap.size 3 1 (.slice ga Gi.length gc) Gi.length (ints Gi) := ownsMaps_but HI.out.own hB8 fun j hj => HI.out.far j hj
          have hs58 : W5.heap.size ≤ w8.heap.size := by have := HI.out.but.size; have := hB8.size; omega
          have HB8 : Hid _ := hB8
          obtain ⟨q0, hq, hz0, hz1, hz2⟩ := info_parts infoIntW
          clear h8 HCut hB8
          go_wp2_with (first
            | (at_builtin; refine wpList_append_lies _ rfl _ _ 30 rfl W5.heap.size 3 q0 (.int .i64 0) 1 8 Try.underlying30 hq hz0 hz1 hz2 rfl (by decide) _ _ _ rfl (hown8.alloc _) ⟨w8.heap.size, 0, none⟩ 1 1 [.int .i64 tg] rfl rfl ?c1 ?c2 (by decide) ?c3 ?c4 ?c5 (w8.heap.size + 1) (by simp) ?_))
          case c1 =>
            intro j u hj
            match j, hj with
            | 0, hj => simp at hj; subst hj; simp [Addr.add, go_sem]
          case c2 => intro u hu; simp at hu; subst hu; rfl
          case c3 => unfold maxLen; omega
          case c4 => omega
          case c5 => simp; omega
          intro g9 cap9 w9 hown9 hgrow9 hat9 hlt9
          have HO9 : Hid (w9.ownsRow W5.heap.size 3 1 (.slice (some ⟨g9, 0, none⟩) (Gi.length + 1) cap9) (Gi.length + 1) (ints Gi ++ [.int .i64 tg])) := hown9
          have hB9 : But (fun j => (Value.slice ga Gi.length gc).ownBlock = some j) w8 w9 := (But.of_below (balloc (brefl w8) _)).grown hgrow9 fun k hk => .inr hk
          have HB9 : Hid _ := hB9
          have HA9 : Hid ((Value.slice ga Gi.length gc).ownBlock = some g9 ∨ g9 = w8.heap.size + 1) := hat9
          clear hown9 hgrow9 hat9 hlt9 hown8 hB9
          have fin : Hid (∃ Hc', RmInv W5 w9 k b H0 Hc' (Si.store tm (Pg.index p (3 - (m : Int))) 0) Pg.En.zero T P (m + 1) p (.slice (some ⟨g9, 0, none⟩) (Gi.length + 1) cap9) (Gi ++ [tg]) R) := by
            have hlt : ∀ j, (Value.slice ga Gi.length gc).ownBlock = some j → W5.heap.size ≤ j ∧ j < wr.heap.size := fun j hj => HIN.out.own.lt j hj
            obtain ⟨Hc', q1, q2, q3⟩ := HS8.out.other HB9.out fun j hj => ⟨(hlt j hj).2, HIN.out.far j hj⟩
            refine ⟨Hc', q1, ?_, fun j hj => ?_, fun j hj => Nat.lt_of_lt_of_le (q3 j hj) HB9.out.size, ?_, fun j hj => ?_, fun x hx => ?_, HNext.out⟩
            · refine (HIN.out.but.trans HB8.out fun i hi h => ?_).trans HB9.out fun i hi h => ?_
              · rcases HIN.out.hc i h with h | h
                · exact h
                · omega
              · have := (hlt i h).1; omega
            · rcases q2 j hj with h | h
              · exact HIN.out.hc j h
              · have := HIN.out.but.size; exact .inr (by omega)
            · rw [List.length_append, List.length_singleton, ints_push]
              exact HO9.out
            · have e : g9 = j := by simpa [Value.ownBlock] using hj
              subst e
              intro hh
              rcases HA9.out with h | h
              · rcases q2 g9 hh with h' | h'
                · exact HIN.out.far g9 h h'
                · have := (hlt g9 h).2; omega
              · have := q3 g9 hh; omega
            · rw [Pg.store_has]; exact HIN.out.has x hx
          go_wp2_with fail
          obtain ⟨Hc', hI'⟩ := fin.out
          exact ⟨⟨m + 1, _, _, Gi ++ [tg], Hc', by omega, by simp; omega, hI'⟩, by simp [lenOf]; omega⟩
  · have e2 : Pg.tFM S t p = .zz := by rw [Pg.tFM, if_neg hc]
    have e3 : Pg.rmR S t p = (S, []) := by rw [Pg.rmR, if_neg hc]
    rw [e2, e3]
    clear h e2 e3 r4 rf4 hB1
    generalize Pg.tFC S t p = cc at *
    have hcb : (cc != 0) = true := by simp [hc]
    clear hc
    go_enter Try.func25, Try.ntmps25
    go_wp2_with fail
    rw [← hW1]
    clear hW1
    refine HW.mono ?_
    rintro en w3 ⟨k, rfl, _, hb3⟩
    obtain ⟨y0, y1, y2, y3⟩ := later4 hb3 HR4.out
    have yf : ∀ o, w3.frozen? ⟨w.heap.size, o, none⟩ = false := fun o => (hb3.frozen (p := ⟨w.heap.size, o, none⟩) hlw).trans (HF4.out o)
    have HB3 : Hid (Below w.heap.size w w3) := bthen HB1.out hb3
    clear hb3 HW
    go_wp2_with fail
    have hBf := below_set4 HB3.out w.heap.size (Nat.le_refl _) (.int .i64 0) (.int .i64 0) (.int .i64 0) (.int .i64 0)
    refine bodyPost_ret (v := .tuple #[.agg #[.int .i64 0, .int .i64 0, .int .i64 0, .int .i64 0], .slice none 0 0, .int .i64 cc]) ?_ rfl ⟨none, 0, F, rfl, fun j hj => absurd hj (by simp), FrAt.keep (G := fun _ => False) H.out (But.of_below hBf) fun _ _ => id, But.of_below hBf, fun k hk => .inl hk, fun g hg => by cases hg⟩
    simp [results, Try.results25, go_sem, y0, y1, y2, y3]
end Go.Proofs.Ytbkpndgadgafiac

namespace Go.Proofs.Ytbkpndgadgafiac
open Go.RowKit Go.Sort
set_option linter.unusedVariables false
set_option linter.unusedSimpArgs false
set_option maxRecDepth 100000

theorem tabBegun_facts : Pg.insC (Pg.Fs.memory 4 1 (fun _ => 0) 0) 0 ⟨5, 0, 9, 3⟩ = 0 ∧ Pg.insC (Pg.insS (Pg.Fs.memory 4 1 (fun _ => 0) 0) 0 ⟨5, 0, 9, 3⟩) 0 ⟨512, 0, 0, 0⟩ = 6 ∧
    Pg.tFC (Pg.insS (Pg.Fs.memory 4 1 (fun _ => 0) 0) 0 ⟨5, 0, 9, 3⟩) 0 5 = 0 ∧ (Pg.tFM (Pg.insS (Pg.Fs.memory 4 1 (fun _ => 0) 0) 0 ⟨5, 0, 9, 3⟩) 0 5).f = 9 ∧ (Pg.tFE (Pg.insS (Pg.Fs.memory 4 1 (fun _ => 0) 0) 0 ⟨5, 0, 9, 3⟩) 0 5).r = 3 ∧
    (Pg.rmR (Pg.insS (Pg.Fs.memory 4 1 (fun _ => 0) 0) 0 ⟨5, 0, 9, 3⟩) 0 5).2 = [3, 2, 1] := by
  refine ⟨?_, ?_, ?_, ?_, ?_, ?_⟩ <;> decide +kernel

set_option maxHeartbeats 1000000 in
theorem tableBegun_any (w : World) :
    Calls Try.prog 22 #[] w fun e w' => e = .returned (.bool true) ∧ Below w.heap.size w w' := by
  obtain ⟨b1, b2, b3, b4, b5, b6⟩ := tabBegun_facts
  have hw : WordsAt w none 0 (fun _ => 0) := fun j hj => absurd hj (by omega)
  have HM := memory_any 4 (by omega) 1 none 0 0 (by omega) (fun _ => 0) w hw
  generalize Pg.Fs.memory 4 1 (fun _ => 0) 0 = S at *
  have e2 : Pg.insS (Pg.insS S 0 ⟨5, 0, 9, 3⟩) 0 ⟨512, 0, 0, 0⟩ = Pg.insS S 0 ⟨5, 0, 9, 3⟩ := by rw [Pg.insS, b2, if_neg (by decide)]
  have HI1 := fun (w : World) (b : Nat) (F : Nat → Prop) (h : FrAt w b S F) => tInsert_any 0 ⟨5, 0, 9, 3⟩ w h
  rw [b1] at HI1
  simp only [Pg.Mp.val] at HI1
  generalize Pg.insS S 0 ⟨5, 0, 9, 3⟩ = S1 at *
  have HI2 := fun (w : World) (b : Nat) (F : Nat → Prop) (h : FrAt w b S1 F) => tInsert_any 0 ⟨512, 0, 0, 0⟩ w h
  rw [b2, e2] at HI2
  simp only [Pg.Mp.val] at HI2
  have HF := fun (w : World) (b : Nat) (F : Nat → Prop) (h : FrAt w b S1 F) => tFind_any 0 5 w h
  rw [b3] at HF
  have HR := fun (w : World) (b : Nat) (F : Nat → Prop) (h : FrAt w b S1 F) => tRemove_any 0 5 w h
  rw [b3, b6] at HR
  generalize Pg.tFM S1 0 5 = mm at *
  generalize Pg.tFE S1 0 5 = ee at *
  obtain ⟨mp, ms, mf, mr⟩ := mm
  obtain ⟨et, el, er, eu, ed, ef⟩ := ee
  simp only at b4 b5
  subst b4 b5
  simp only [Pg.Mp.val, Pg.En.val] at HF
  generalize (Pg.rmR S1 0 5).1 = S2 at *
  clear hw b1 b2 b3 b6 e2
  go_enter Try.func22, Try.ntmps22
  go_wp2_with fail
  refine HM.mono ?_
  rintro e w1 ⟨bf, bm, g0, g1, vb, F, rfl, hS⟩
  have HS : Hid _ := hS
  clear hS HM
  go_wp2_with fail
  refine (HI1 _ _ _ HS.out.fr).mono ?_
  rintro e w2 ⟨rfl, F2, f1, f2, f3⟩
  have G2 : Hid _ := HS.out.stepF f1 f2 f3
  clear f1 f2 f3 HI1
  go_wp2_with fail
  refine (HI2 _ _ _ G2.out.fr).mono ?_
  rintro e w3 ⟨rfl, F3, f1, f2, f3⟩
  have G3 : Hid _ := G2.out.stepF f1 f2 f3
  clear f1 f2 f3 HI2
  go_wp2_with fail
  refine (HF _ _ _ G3.out.fr).mono ?_
  rintro e w4 ⟨rfl, hb4⟩
  have G4 : Hid _ := G3.out.grow hb4
  clear hb4 HF
  obtain ⟨W5, hW5⟩ : ∃ W5, W5 = (w4.alloc (.cells #[.int .i64 mp, .int .i64 ms, .int .i64 9, .int .i64 mr] 53)).alloc (.cells #[.bool et, .bool el, .int .i64 3, .bool eu, .bool ed, .int .i64 ef] 29) := ⟨_, rfl⟩
  have hb5 : Below w4.heap.size w4 W5 := by rw [hW5]; exact balloc (balloc (brefl _) _) _
  have c2 : W5.cell? ⟨w4.heap.size, 2, none⟩ = some (.int .i64 9) := by rw [hW5]; simp [go_sem]
  have c3 : W5.cell? ⟨w4.heap.size + 1, 2, none⟩ = some (.int .i64 3) := by rw [hW5]; simp [go_sem]
  have G5 : Hid _ := G4.out.grow hb5
  have HFl : Hid (∀ j, F3 j → j < w4.heap.size) := fun j hj => FrAt.lt G4.out.fr hj
  clear hb5
  go_wp2_with fail
  rw [← hW5]
  clear hW5
  refine (HR _ _ _ G5.out.fr).mono ?_
  rintro e w6 ⟨ad, cap, F6, rfl, hi, f1, f2, f3, hg⟩
  have G6 : Hid _ := G5.out.stepF f1 f2 f3
  have d2 := (f2.cell (a := ⟨w4.heap.size, 2, none⟩) (World.block_lt_of_cell? _ _ c2) fun h => by have := HFl.out _ h; simp at this).trans c2
  have d3 := (f2.cell (a := ⟨w4.heap.size + 1, 2, none⟩) (World.block_lt_of_cell? _ _ c3) fun h => by have := HFl.out _ h; simp at this; omega).trans c3
  obtain ⟨g, rfl, hgl, hgc⟩ := hi 0 (by decide)
  have hgc' : w6.cell? ⟨g, 0, none⟩ = some (.int .i64 3) := hgc
  have hl1 : w4.heap.size < w6.heap.size := World.block_lt_of_cell? _ _ d2
  have hl2 : w4.heap.size + 1 < w6.heap.size := World.block_lt_of_cell? _ _ d3
  clear f1 f2 f3 hg hi hgc c2 c3 HR
  simp only [Pg.Mp.val]
  go_wp2_with fail
  go_ret
  exact ⟨rfl, balloc G6.out.bel _⟩

end Go.Proofs.Ytbkpndgadgafiac

namespace Go.Proofs.Ytbkpndgadgafiac
open Go.RowKit Go.Sort
set_option linter.unusedVariables false
set_option linter.unusedSimpArgs false
set_option maxRecDepth 100000

theorem wrap64_in {n : Int} (h0 : -9223372036854775808 ≤ n) (h1 : n ≤ 9223372036854775807) : wrap64 n = n := by
  unfold wrap64
  omega
theorem key_wrap {pn N8 k : Nat} (h1 : pn < 4096) (h2 : k ≤ 3) : wrap64 (wrap64 (wrap64 ((pn : Int) / (N8 : Int)) * 4) + (k : Int)) = ((pn / N8 * 4 + k : Nat) : Int) := by
  have q1 : (pn : Int) / (N8 : Int) = ((pn / N8 : Nat) : Int) := by simp
  have q2 : pn / N8 ≤ pn := Nat.div_le_self _ _
  rw [q1]
  generalize pn / N8 = d at *
  rw [wrap64_in (n := (d : Int)) (by omega) (by omega), wrap64_in (n := (d : Int) * 4) (by omega) (by omega), wrap64_in (n := (d : Int) * 4 + (k : Int)) (by omega) (by omega)]
  omega
/-- The keys of a mapping from a level on downwards. -/
def keysD (m : Pg.Mp) : Nat → List Int
  | 0 => []
  | l + 1 => if m.s < ((l + 1 : Nat) : Int) then ((m.p.toNat / 8 ^ (l + 1) * 4 + (l + 1) : Nat) : Int) :: keysD m l else []
theorem keysD_more (pn sn l : Nat) (f r : Int) (h : sn < l + 1) : keysD ⟨(pn : Int), (sn : Int), f, r⟩ (l + 1) = ((pn / 8 ^ (l + 1) * 4 + (l + 1) : Nat) : Int) :: keysD ⟨(pn : Int), (sn : Int), f, r⟩ l := by
  rw [keysD, if_pos (by show (sn : Int) < ((l + 1 : Nat) : Int); omega)]
  simp only [Int.toNat_natCast]
theorem see_more (k : Int) (r A : List Int) : Pg.see (k :: r) A = Pg.see r (if k ∈ A then A else A ++ [k]) := rfl
theorem keysD_eq {m : Pg.Mp} (h0 : 0 ≤ m.s) (h1 : m.s ≤ 2) : keysD m 3 = Pg.keysM m := by
  have : m.s = 0 ∨ m.s = 1 ∨ m.s = 2 := by omega
  rcases this with e | e | e <;> simp [keysD, Pg.keysM, e]
theorem span_size {s : Int} (h : Pg.span s ≠ 0) : 0 ≤ s ∧ s ≤ 2 := by
  unfold Pg.span at h
  by_cases h0 : s = 0
  · omega
  · by_cases h1 : s = 1
    · omega
    · by_cases h2 : s = 2
      · omega
      · simp [h0, h1, h2] at h

/-- What holds in each round of Needed: what has been seen, and what comes. -/
structure NdInv (w wr : World) (vs : Value) (A : List Int) : Prop where
  bel : Below w.heap.size w wr
  own : wr.ownsRow w.heap.size 3 1 vs A.length (ints A)

set_option maxHeartbeats 4000000 in
theorem needed_any {ad : Option Addr} {cap : Nat} {L : List Pg.Mp} (hg : ∀ m, m ∈ L → m.code = 0) (w : World) (h : MapsAt w ad L) (hl : L.length ≤ 5000) :
    Calls Try.prog 41 #[.slice ad L.length cap] w fun e w' => e = .returned (.int .i64 (Pg.needed L)) ∧ Below w.heap.size w w' := by
  have HA : Hid (MapsAt w ad L) := h
  have HG : Hid _ := hg
  clear h hg
  obtain ⟨R, hR⟩ : ∃ R, R = Pg.seen L := ⟨_, rfl⟩
  have HR0 : Hid (Pg.see (L.flatMap Pg.keysM) [] = R) := hR.symm
  have HN : Hid (Pg.needed L = (R.length : Int) + 1) := by rw [Hid, hR]; rfl
  clear hR
  go_enter Try.func41, Try.ntmps41
  go_wp2_with fail
  go_loopw [3, 4] (fun vs iv wr => ∃ (i : Nat) (A : List Int), i ≤ L.length ∧ iv = .int .i64 (i : Int) ∧ A.length ≤ 3 * i ∧ Hid (NdInv w wr vs A ∧ Pg.see ((L.drop i).flatMap Pg.keysM) A = R)) (fun _ iv _ => L.length - (intOf iv).toNat)
  case atStart => exact ⟨0, [], by omega, rfl, by simp, ⟨brefl _, World.ownsRow_nil _ _ _ _⟩, HR0.out⟩
  case round =>
    obtain ⟨i, A, hi, rfl, hAl, HR⟩ := hrel
    have i0 : (0 : Int) ≤ (i : Int) := by omega
    obtain ⟨va, vc, hvs⟩ := ownsMaps_form HR.out.1.own
    subst hvs
    by_cases hlt : i < L.length
    · have i1 : (i : Int) < (L.length : Int) := by omega
      obtain ⟨g, rfl, hgl, k0, k1, k2, k3⟩ := MapsAt.below HA.out HR.out.1.bel i hlt
      have HKC : Hid (∀ w', Below w.heap.size w w' → w'.cell? ⟨g, i * 4 + 1, none⟩ = some (.int .i64 (L.getD i .zz).s)) := fun w' hb => by
        obtain ⟨g', e', _, hm⟩ := MapsAt.below HA.out hb i hlt
        cases e'
        exact hm.2.1
      have hcode : (L.getD i .zz).code = 0 := HG.out _ (by simp [List.getD, hlt])
      have hdrop : L.drop i = L.getD i .zz :: L.drop (i + 1) := by
        rw [List.drop_eq_getElem_cons hlt]
        simp [List.getD, hlt]
      have HR2 : Hid (Pg.see (keysD (L.getD i .zz) 3 ++ (L.drop (i + 1)).flatMap Pg.keysM) A = R) := by
        obtain ⟨z0, z1, z2, z3, z4, z5, z6, z7, z8⟩ := Pg.check_zero hcode
        have := HR.out.2
        rw [hdrop, List.flatMap_cons] at this
        rw [Hid, keysD_eq (span_size z0).1 (span_size z0).2]
        exact this
      obtain ⟨z0, z1, z2, z3, z4, z5, z6, z7, z8⟩ := Pg.check_zero hcode
      generalize L.getD i .zz = m at *
      obtain ⟨mp, ms, mf, mr⟩ := m
      simp only at k0 k1 k2 k3 z0 z1 z2 z3 z4 z5 z6 z7 z8
      obtain ⟨s0, s2⟩ := span_size z0
      obtain ⟨pn, rfl⟩ := Int.eq_ofNat_of_zero_le z1
      obtain ⟨sn, rfl⟩ := Int.eq_ofNat_of_zero_le s0
      have hsn : sn ≤ 2 := by omega
      have hpn : pn < 4096 := by omega
      clear z0 z1 z2 z3 z4 z5 z6 z7 z8 s0 s2 hcode hdrop k2 k3
      go_wp2_with fail
      generalize wr.heap.size = bx at *
      go_loopw [3, 6] (fun vs lv wi => ∃ (l : Nat) (A' : List Int), l ≤ 3 ∧ sn ≤ l ∧ lv = .int .i64 (l : Int) ∧ A'.length + l ≤ 3 * i + 3 ∧ Hid (NdInv w wi vs A' ∧ Pg.see (keysD ⟨(pn : Int), (sn : Int), mf, mr⟩ l ++ (L.drop (i + 1)).flatMap Pg.keysM) A' = R)) (fun _ lv _ => (intOf lv).toNat)
      case atStart => exact ⟨3, A, by omega, by omega, rfl, by omega, HR.out.1, HR2.out⟩
      case round =>
        obtain ⟨l, A', hl3, hsl, rfl, hAl', HRl⟩ := hrel
        obtain ⟨va', vc', hvs'⟩ := ownsMaps_form HRl.out.1.own
        subst hvs'
        have ks := HKC.out _ HRl.out.1.bel
        by_cases hsl2 : sn < l
        · have l1 : (sn : Int) < (l : Int) := by omega
          have HIA : Hid (IntsAt wr va' A') := owns_intsAt (cap := vc') (n := A'.length) HRl.out.1.own
          have HOW : Hid _ := HRl.out.1.own
          go_wp2_with fail
          go_loopw [7, 8] (fun nv kv wk => ∃ k : Nat, k ≤ l ∧ kv = .int .i64 (k : Int) ∧ nv = .int .i64 ((8 ^ k : Nat) : Int) ∧ Hid (wk = wr)) (fun _ kv _ => l - (intOf kv).toNat)
          case atStart => exact ⟨0, by omega, rfl, rfl, rfl⟩
          case round =>
            obtain ⟨k, hk, rfl, rfl, HW⟩ := hrel
            have ew := HW.out
            subst ew
            by_cases hkl : k < l
            · have k1 : (k : Int) < (l : Int) := by omega
              obtain ⟨N8, hN8, hNx, hNb⟩ : ∃ N8 : Nat, N8 = 8 ^ k ∧ N8 * 8 = 8 ^ (k + 1) ∧ N8 ≤ 64 := by
                refine ⟨8 ^ k, rfl, (Nat.pow_succ ..).symm, ?_⟩
                have hk3 : k = 0 ∨ k = 1 ∨ k = 2 := by omega
                rcases hk3 with rfl | rfl | rfl <;> decide
              rw [← hN8]
              have HN8 : Hid _ := hNx
              clear hN8 hNx
              go_wp2_with fail
              exact ⟨⟨k + 1, by omega, by go_num, by rw [← HN8.out]; simp, by first | trivial | rfl⟩, by simp [intOf]; omega⟩
            · have hkk : k = l := by omega
              subst hkk
              have k1 : ¬ (k : Int) < (k : Int) := by omega
              have hal2 : A'.length ≤ 20000 := by omega
              obtain ⟨lm, hkm⟩ : ∃ lm, k = lm + 1 := ⟨k - 1, by omega⟩
              have hsl3 : sn < lm + 1 := by omega
              have hal3 : A'.length + 1 + lm ≤ 3 * i + 3 := by omega
              have HSee : Hid (Pg.see (keysD ⟨(pn : Int), (sn : Int), mf, mr⟩ lm ++ (L.drop (i + 1)).flatMap Pg.keysM) (if ((pn / 8 ^ k * 4 + k : Nat) : Int) ∈ A' then A' else A' ++ [((pn / 8 ^ k * 4 + k : Nat) : Int)]) = R) := by
                have := HRl.out.2
                rw [hkm, keysD_more pn sn lm mf mr hsl3, List.cons_append, see_more] at this
                rw [hkm]
                exact this
              have hkey : wrap64 (wrap64 (wrap64 ((pn : Int) / ((8 ^ k : Nat) : Int)) * 4) + (k : Int)) = ((pn / 8 ^ k * 4 + k : Nat) : Int) := key_wrap hpn hl3
              have hN1 : (1 : Int) ≤ ((8 ^ k : Nat) : Int) := by
                have : 0 < 8 ^ k := Nat.pow_pos (by decide)
                exact Int.ofNat_le.2 this
              generalize ((pn / 8 ^ k * 4 + k : Nat) : Int) = key at *
              obtain ⟨N8, hN8⟩ : ∃ N8 : Nat, N8 = 8 ^ k := ⟨_, rfl⟩
              rw [← hN8] at hkey hN1
              have hN0 : ¬ (N8 : Int) = 0 := fun e => by rw [e] at hN1; exact absurd hN1 (by decide)
              rw [← hN8]
              have HI := in_any (cap := vc') key wr HIA.out hal2
              have HB : Hid _ := HRl.out.1.bel
              have HKM : Hid _ := hkm
              clear hN8 HRl hkm
              have hkI : (k : Int) - 1 = (lm : Int) := by have := HKM.out; omega
              have hk1 : (1 : Int) ≤ (k : Int) := by have := HKM.out; omega
              have hlm3 : lm ≤ 3 := by have := HKM.out; omega
              have hslm : sn ≤ lm := by omega
              by_cases hin : key ∈ A'
              · have hd : decide (key ∈ A') = true := by simpa using hin
                rw [hd] at HI
                have HS2 : Hid (Pg.see (keysD ⟨(pn : Int), (sn : Int), mf, mr⟩ lm ++ (L.drop (i + 1)).flatMap Pg.keysM) A' = R) := by have := HSee.out; rw [if_pos hin] at this; exact this
                clear hin hd HSee
                go_wp2_with fail
                refine HI.mono ?_
                rintro e w5 ⟨rfl, hw5⟩
                subst w5
                clear HI
                go_wp2_with fail
                exact ⟨⟨lm, A', hlm3, hslm, by first | go_num | simp [hkI] | rfl, by omega, ⟨HB.out, HOW.out⟩, HS2.out⟩, by have := HKM.out; simp [intOf]; omega⟩
              · have hd : decide (key ∈ A') = false := by simpa using hin
                rw [hd] at HI
                have HS2 : Hid (Pg.see (keysD ⟨(pn : Int), (sn : Int), mf, mr⟩ lm ++ (L.drop (i + 1)).flatMap Pg.keysM) (A' ++ [key]) = R) := by have := HSee.out; rw [if_neg hin] at this; exact this
                obtain ⟨q0, hq, hz0, hz1, hz2⟩ := info_parts infoIntW
                have hown := HOW.out
                have hsw : w.heap.size ≤ wr.heap.size := HB.out.size
                clear hin hd HSee
                go_wp2_with fail
                refine HI.mono ?_
                rintro e w5 ⟨rfl, hw5⟩
                subst w5
                clear HI
                go_wp2_with (first
                  | (at_builtin; refine wpList_append_lies _ rfl _ _ 30 rfl w.heap.size 3 q0 (.int .i64 0) 1 8 Try.underlying30 hq hz0 hz1 hz2 rfl (by decide) _ _ _ rfl (World.ownsRow.alloc hown _) ⟨wr.heap.size, 0, none⟩ 1 1 [.int .i64 key] rfl rfl ?c1 ?c2 (by decide) ?c3 ?c4 ?c5 (wr.heap.size + 1) (by simp) ?_))
                case c1 =>
                  intro j u hj
                  exact World.news_of_block (cs := #[.int .i64 key]) (heap_alloc_new wr _) j u hj
                case c2 => intro u hu; simp at hu; subst hu; rfl
                case c3 => unfold maxLen; omega
                case c4 => omega
                case c5 => simp; omega
                intro g9 cap9 w9 hown9 hgrow9 hat9 hlt9
                have fin : Hid (NdInv w w9 (.slice (some ⟨g9, 0, none⟩) (A'.length + 1) cap9) (A' ++ [key])) := by
                  have hb9 : But (fun j => (Value.slice va' A'.length vc').ownBlock = some j) wr w9 := (But.of_below (balloc (brefl wr) _)).grown hgrow9 fun k hk => .inr hk
                  refine ⟨HB.out.trans (hb9.below hsw fun j hj => (World.ownsRow.lt HOW.out j hj).1), ?_⟩
                  have e1 : ints (A' ++ [key]) = ints A' ++ [.int .i64 key] := by simp [ints]
                  rw [List.length_append, List.length_singleton, e1]
                  exact hown9
                clear hown9 hgrow9 hat9 hlt9 hown
                go_wp2_with fail
                exact ⟨⟨lm, A' ++ [key], hlm3, hslm, by first | go_num | simp [hkI] | rfl, by simp; omega, fin.out, HS2.out⟩, by have := HKM.out; simp [intOf]; omega⟩
        · have hee : l = sn := by omega
          subst hee
          have l1 : ¬ (l : Int) < (l : Int) := by omega
          have fin : Hid (Pg.see ((L.drop (i + 1)).flatMap Pg.keysM) A' = R) := by
            have := HRl.out.2
            have e : keysD ⟨(pn : Int), (l : Int), mf, mr⟩ l = [] := by cases l <;> simp [keysD]
            rw [e] at this
            exact this
          go_wp2_with fail
          exact ⟨⟨i + 1, A', by omega, by go_num, by omega, HRl.out.1, fin.out⟩, by simp [intOf]; omega⟩
    · have i1 : ¬ (i : Int) < (L.length : Int) := by omega
      have HFin : Hid (A = R) := by
        have := HR.out.2
        rw [List.drop_eq_nil_of_le (by omega)] at this
        exact this
      have hal : A.length ≤ 15000 := by omega
      have HLn : Hid ((A.length : Int) + 1 = Pg.needed L) := by rw [Hid, HN.out, HFin.out]
      have HB : Hid _ := HR.out.1.bel
      generalize A.length = al at *
      go_wp2_with fail
      go_ret
      exact ⟨ret_int HLn.out, HB.out⟩
end Go.Proofs.Ytbkpndgadgafiac

namespace Go.Proofs.Ytbkpndgadgafiac
open Go.RowKit Go.Sort
set_option linter.unusedVariables false
set_option maxRecDepth 100000

theorem IntsAt.but {w w' : World} {ad : Option Addr} {L : List Int} {G : Nat → Prop} (h : IntsAt w ad L) (hb : But G w w') (hn : ∀ g, ad = some ⟨g, 0, none⟩ → ¬ G g) : IntsAt w' ad L := fun j hj => by
  obtain ⟨g, e, hl, hc⟩ := h j hj
  exact ⟨g, e, Nat.lt_of_lt_of_le hl hb.size, (hb.cell (a := ⟨g, j, none⟩) hl (hn g e)).trans hc⟩
theorem rmW_len (p : Int) (ts : List Int) : ∀ (k : Nat) (S : Pg.Fs) (G : List Int), (Pg.rmW p ts k S G).2.length ≤ G.length + k
  | 0, S, G => by simp [Pg.rmW]
  | k + 1, S, G => by
    rw [Pg.rmW]
    split
    · exact Nat.le_add_right _ _
    · have := rmW_len p ts k (S.store (ts.getD k 0) (Pg.index p (3 - (k : Int))) 0) (G ++ [ts.getD k 0])
      simp at this ⊢
      omega
theorem rmR_len (S : Pg.Fs) (t p : Int) : (Pg.rmR S t p).2.length ≤ 4680 := by
  unfold Pg.rmR
  split
  · have h1 := rmW_len p (tabs (fndX S t p)) (fndX S t p).length S []
    have h2 := fndX_len S t p
    rw [List.length_nil] at h1
    omega
  · simp

theorem bst_block {w w' : World} {b : Nat} {x : Bst} (h : BstAt w b 0 x) (hk : w'.heap[b]? = w.heap[b]?) : BstAt w' b 0 x :=
  ⟨(World.cell?_of_block hk).trans h.1, (World.cell?_of_block hk).trans h.2.1, (World.cell?_of_block hk).trans h.2.2.1, (World.cell?_of_block hk).trans h.2.2.2.1, (World.cell?_of_block hk).trans h.2.2.2.2.1, (World.cell?_of_block hk).trans h.2.2.2.2.2.1, (World.cell?_of_block hk).trans h.2.2.2.2.2.2.1, (World.cell?_of_block hk).trans h.2.2.2.2.2.2.2.1, (World.cell?_of_block hk).trans h.2.2.2.2.2.2.2.2⟩
theorem mp_block {w w' : World} {Y : Nat} {m : Pg.Mp} (h : MpAt w Y 0 m) (hk : w'.heap[Y]? = w.heap[Y]?) : MpAt w' Y 0 m :=
  ⟨(World.cell?_of_block hk).trans h.1, (World.cell?_of_block hk).trans h.2.1, (World.cell?_of_block hk).trans h.2.2.1, (World.cell?_of_block hk).trans h.2.2.2⟩
theorem mp_set {w : World} {Y : Nat} {m0 : Pg.Mp} (h : MpAt w Y 0 m0) (p s f r : Int) : MpAt ((((w.setCell ⟨Y, 0, none⟩ (.int .i64 p)).setCell ⟨Y, 1, none⟩ (.int .i64 s)).setCell ⟨Y, 2, none⟩ (.int .i64 f)).setCell ⟨Y, 3, none⟩ (.int .i64 r)) Y 0 ⟨p, s, f, r⟩ := by
  obtain ⟨h0, h1, h2, h3⟩ := h
  simp only [Nat.zero_add] at h1 h2 h3
  refine ⟨?_, ?_, ?_, ?_⟩ <;> simp [go_sem, h0, h1, h2, h3]
theorem bst_cells {w : World} {X : Nat} {x : Bst} (h : BstAt w X 0 x) : w.cell? ⟨X, 0, none⟩ = some (.int .i64 x.kind) ∧ w.cell? ⟨X, 2, none⟩ = some (.int .i64 x.m.p) ∧ w.cell? ⟨X, 3, none⟩ = some (.int .i64 x.m.s) ∧ w.cell? ⟨X, 4, none⟩ = some (.int .i64 x.m.f) ∧ w.cell? ⟨X, 5, none⟩ = some (.int .i64 x.m.r) ∧ w.cell? ⟨X, 6, none⟩ = some (.int .i64 x.q) := by
  obtain ⟨h0, h1, h2, h3, h4, h5, h6, h7, h8⟩ := h
  simp only [Nat.zero_add] at h1 h2 h3 h4 h5 h6
  exact ⟨h0, h2, h3, h4, h5, h6⟩

end Go.Proofs.Ytbkpndgadgafiac

namespace Go.Proofs.Ytbkpndgadgafiac
open Go.RowKit Go.Sort
set_option linter.unusedVariables false
set_option maxRecDepth 100000

structure Tb (w0 wc : World) (bf b : Nat) (F G : Nat → Prop) (S : Pg.Fs) (L : List Pg.Mp) : Prop where
  bel : Below w0.heap.size w0 wc
  fr : FrAt wc bf S F
  db : DbAt wc b L G
  fhi : ∀ k, F k → w0.heap.size ≤ k
  ghi : ∀ k, G k → w0.heap.size ≤ k
  ne : ∀ k, F k → ¬ G k
namespace Tb
variable {w0 wc wd : World} {bf b : Nat} {F F' G G' : Nat → Prop} {S S' : Pg.Fs} {L L' : List Pg.Mp}
theorem grow (h : Tb w0 wc bf b F G S L) (hb : Below wc.heap.size wc wd) : Tb w0 wd bf b F G S L :=
  ⟨bthen h.bel hb, h.fr.keep (G := fun _ => False) (But.of_below hb) fun _ _ => id, h.db.keep (G := fun _ => False) (But.of_below hb) fun _ _ => id, h.fhi, h.ghi, h.ne⟩
theorem left (h : Tb w0 wc bf b F G S L) (h1 : FrAt wd bf S' F') (hb : But F wc wd) (hF : ∀ k, F' k → F k ∨ wc.heap.size ≤ k) : Tb w0 wd bf b F' G S' L := by
  refine ⟨h.bel.trans (hb.below h.bel.size h.fhi), h1, h.db.keep hb fun k hk hf => h.ne k hf hk, fun k hk => ?_, h.ghi, fun k hk hg => ?_⟩
  · rcases hF k hk with h2 | h2
    · exact h.fhi k h2
    · have := h.bel.size; omega
  · rcases hF k hk with h2 | h2
    · exact h.ne k h2 hg
    · have := h.db.lt hg; omega
theorem right (h : Tb w0 wc bf b F G S L) (h1 : DbAt wd b L' G') (hb : But G wc wd) (hG : ∀ k, G' k → G k ∨ wc.heap.size ≤ k) : Tb w0 wd bf b F G' S L' := by
  refine ⟨h.bel.trans (hb.below h.bel.size h.ghi), h.fr.keep hb fun k hk hf => h.ne k hk hf, h1, h.fhi, fun k hk => ?_, fun k hk hg => ?_⟩
  · rcases hG k hk with h2 | h2
    · exact h.ghi k h2
    · have := h.bel.size; omega
  · rcases hG k hg with h2 | h2
    · exact h.ne k hk h2
    · have := h.fr.lt hk; omega
end Tb

theorem owns_cap {w : World} {base : Nat} {e : TypeId} {size n cap : Nat} {ad : Option Addr} {xs : List Value} (h : w.ownsRow base e size (.slice ad n cap) n xs) : n ≤ cap := by
  rcases h.2 with ⟨e, _⟩ | ⟨g, c, cur, e, _, _, hle, _⟩
  · cases e; exact Nat.le_refl _
  · cases e; exact hle
set_option maxHeartbeats 1000000 in
theorem wTables_cap {b : Nat} {S : Pg.Fs} {F : Nat → Prop} (t : Int) (w : World) (h : FrAt w b S F) :
    Calls Try.prog 16 #[.pointer (some ⟨b, 0, none⟩), .int .i64 t] w fun e w' => ∃ ad cap L, e = .returned (.tuple #[.slice ad L.length cap, .int .i64 (Pg.thr S Pg.allW 3 t 0).2]) ∧ L = (if (Pg.thr S Pg.allW 3 t 0).2 = 0 then t :: Pg.tabsOf (Pg.thr S Pg.allW 3 t 0).1 else []) ∧ IntsAt w' ad L ∧ L.length ≤ cap ∧ Below w.heap.size w w' := by
  obtain ⟨W, hW⟩ : ∃ W, W = (w.alloc (.cells #[.int .i64 t] 3)).alloc (.cells #[.slice (some ⟨w.heap.size, 0, none⟩) 1 1] 30) := ⟨_, rfl⟩
  have hB : Below w.heap.size w W := by rw [hW]; exact balloc (balloc (brefl w) _) _
  have hK : Keeps w (w.heap.size + 1) 3 1 (fun X => (t :: Pg.tabsOf X).length) (fun X => ints (t :: Pg.tabsOf X)) [] (fun k => k = w.heap.size + 1 ∨ (Value.slice (some ⟨w.heap.size, 0, none⟩) 1 1).ownBlock = some k) W := by
    refine ⟨hB, by omega, fun o => by rw [hW]; simp [go_sem], .slice (some ⟨w.heap.size, 0, none⟩) 1 1, ⟨by rw [hW]; simp [go_sem], ?_, by simp [Value.ownBlock]⟩, rfl⟩
    refine ⟨by simp [ints, Pg.tabsOf], .inr ⟨w.heap.size, 1, #[.int .i64 t], rfl, Nat.le_refl _, ?_, Nat.le_refl _, by decide, rfl, by simp [ints, Pg.tabsOf]⟩⟩
    rw [hW, Below.heap_alloc _ _ _ (by simp)]
    exact heap_alloc_new w _
  have HC : Hid _ := from_any (tables_tells (c := w.heap.size + 1) (t := t) h) t _ W hK
  clear h hK hB
  generalize Pg.thr S Pg.allW 3 t 0 = th at *
  go_enter Try.func16, Try.ntmps16
  go_wp2_with fail
  rw [← hW]
  refine Calls.mono HC.out ?_
  rintro e w1 ⟨rfl, V1, hK1, hb1, hn1⟩
  clear hb1 hn1
  have HB : Hid (Below w.heap.size w w1) := hK1.bel
  obtain ⟨vb, hv, _⟩ := hK1.var
  obtain ⟨ad, cap, rfl⟩ := ownsMaps_form hv.own
  by_cases hc : th.2 = 0
  · have hcb : (th.2 != 0) = false := by simp [hc]
    have cc := hv.cell
    have HI : Hid _ := owns_intsAt hv.own
    have HCap : Hid _ := owns_cap hv.own
    have HC0 : Hid _ := hc
    clear hv hK1 hc
    go_wp2_with fail
    go_ret2
    exact ⟨ad, cap, t :: Pg.tabsOf th.1, rfl, by first | rw [if_pos HC0.out] | rfl, HI.out, HCap.out, HB.out⟩
  · have hcb : (th.2 != 0) = true := by simp [hc]
    have HC0 : Hid _ := hc
    clear hv hK1 hc
    go_wp2_with fail
    go_ret2
    exact ⟨none, 0, [], rfl, by first | rw [if_neg HC0.out] | rfl, fun j hj => absurd hj (by simp), by simp, HB.out⟩
theorem taken_same {b : Nat} {S : Pg.Fs} {F : Nat → Prop} (k : Int) (w : World) (h : FrAt w b S F) :
    Calls Try.prog 42 #[.pointer (some ⟨b, 0, none⟩), .int .i64 k] w fun e w' => e = .returned (.bool (S.has k)) ∧ w' = w := by
  obtain ⟨g, vb, h, ok, rfl⟩ := h
  exact taken_raw k w h ok
theorem ints_take {w : World} {ad : Option Addr} {T : List Int} (h : IntsAt w ad T) (k : Nat) : IntsAt w ad (T.take k) := fun j hj => by
  have hj1 : j < k := by simp at hj; omega
  have hj2 : j < T.length := by simp at hj; omega
  obtain ⟨g, e, hl, hc⟩ := h j hj2
  refine ⟨g, e, hl, ?_⟩
  rw [hc]
  simp [List.getD, hj1]
theorem not_before {T : List Int} (h : T.Nodup) {k : Nat} (hk : k < T.length) : decide (T.getD k 0 ∈ T.take k) = false := by
  have e : T.take (k + 1) = T.take k ++ [T.getD k 0] := by
    rw [List.take_succ_eq_append_getElem hk]
    simp [List.getD, hk]
  have h1 : (T.take (k + 1)).Nodup := h.sublist (List.take_sublist _ _)
  rw [e, List.nodup_append] at h1
  rw [decide_eq_false_iff_not]
  exact fun hm => h1.2.2 _ hm _ (by simp) rfl

theorem take_n (S : Pg.Fs) : S.take.n = S.n := by
  unfold Pg.Fs.take
  split
  · rfl
  · split <;> rfl
theorem insW_n (p s : Int) : ∀ (lv : Nat) (S : Pg.Fs) (t : Int), (Pg.insW p s lv S t).1.n = S.n
  | 0, S, t => rfl
  | lv + 1, S, t => by
    rw [Pg.insW]
    split
    · rfl
    · rw [insW_n p s lv, (Pg.store_n _ _ _ _).1, take_n]
theorem insS_n (S : Pg.Fs) (t : Int) (m : Pg.Mp) : (Pg.insS S t m).n = S.n := by
  unfold Pg.insS
  split
  · rw [(Pg.store_n _ _ _ _).1, insW_n]
  · rfl
theorem prS_n (S : Pg.Fs) (t p r : Int) : (Pg.prS S t p r).n = S.n := by
  unfold Pg.prS
  split
  · exact (Pg.store_n _ _ _ _).1
  · rfl
theorem gives_snoc : ∀ (G : List Int) (x : Int) (S : Pg.Fs), Pg.gives (G ++ [x]) S = (Pg.gives G S).give x
  | [], x, S => rfl
  | y :: r, x, S => by
    show Pg.gives (r ++ [x]) (S.give y) = _
    rw [gives_snoc r x (S.give y)]
    rfl
/-- One more is given back: it is in use. -/
theorem gives_next {G : List Int} {S : Pg.Fs} (ok : S.Ok) (hn : G.Nodup) (hh : ∀ x, x ∈ G → S.has x = true) {j : Nat} (hj : j < G.length) : (Pg.gives (G.take j) S).has (G.getD j 0) = true ∧ Pg.gives (G.take (j + 1)) S = (Pg.gives (G.take j) S).give (G.getD j 0) := by
  have e : G.take (j + 1) = G.take j ++ [G.getD j 0] := by
    rw [List.take_succ_eq_append_getElem hj]
    simp [List.getD, hj]
  have hx : G.getD j 0 ∈ G := by simp [List.getD, hj]
  have hnot : G.getD j 0 ∉ G.take j := by
    have h1 : (G.take (j + 1)).Nodup := hn.sublist (List.take_sublist _ _)
    rw [e, List.nodup_append] at h1
    intro hm
    exact h1.2.2 _ hm _ (by simp) rfl
  obtain ⟨_, _, _, hu, _⟩ := Pg.gives_like (G.take j) S ok (hn.sublist (List.take_sublist _ _)) fun x hx => hh x (List.mem_of_mem_take hx)
  obtain ⟨g0, _, g2⟩ := ok.has_lt (hh _ hx)
  refine ⟨?_, by rw [e, gives_snoc]⟩
  have := (hu (G.getD j 0).toNat).2 ⟨g2, by rw [Int.toNat_of_nonneg g0]; exact hnot⟩
  unfold Pg.Fs.has Pg.Fs.inn
  rw [Bool.and_eq_true, decide_eq_true_eq, decide_eq_true_eq]
  exact ⟨g0, this⟩
end Go.Proofs.Ytbkpndgadgafiac

namespace Go.Proofs.Ytbkpndgadgafiac
open Go.ChangeShapes Go.WideShapes Go.ChangeAt Go.RowKit Go.Joins Go.Deep Go.Sort
set_option maxRecDepth 100000
set_option linter.unusedVariables false
set_option linter.unusedSimpArgs false

theorem memory_one {nn : Nat} (h : 1 ≤ nn) : Pg.Fs.memory nn 1 (fun _ => 0) 0 = (Pg.Fs.new nn).take := by
  have e : min (1 : Int).toNat nn = 1 := by simp; omega
  unfold Pg.Fs.memory
  rw [e]
  rfl

set_option maxHeartbeats 8000000 in
theorem tableBook_walk (W : World) (n : Int) (hn : Pg.fits n) (ad' : Option Addr) (len' cap' : Nat) (q' : Nat → Bst)
    (hq' : ∀ j, j < len' → (∃ b o, ad' = some ⟨b, o, none⟩ ∧ b < W.heap.size ∧ BstAt W b (o + j * 9) (q' j)) ∧ BstFits (q' j)) :
    Calls Try.prog 6 #[.int .i64 n, .slice ad' len' cap'] W fun e W' => e = .returned (.bool true) ∧ Below W.heap.size W W' := by
  have HQ' : Hid _ := hq'
  clear hn hq'
  have hcase : decide (n < 1) = true ∨ (decide (n < 1) = false ∧ decide (128 < n) = true) ∨ (decide (n < 1) = false ∧ decide (128 < n) = false ∧ (150 : Int) < (len' : Int)) ∨ (decide (n < 1) = false ∧ decide (128 < n) = false ∧ decide ((150 : Int) < (len' : Int)) = false ∧ 1 ≤ n ∧ n ≤ 128 ∧ len' ≤ 150) := by
    by_cases h0 : n < 1
    · exact .inl (by simpa using h0)
    · by_cases h1 : 128 < n
      · exact .inr (.inl ⟨by simpa using h0, by simpa using h1⟩)
      · by_cases h2 : 150 < len'
        · exact .inr (.inr (.inl ⟨by simpa using h0, by simpa using h1, by omega⟩))
        · exact .inr (.inr (.inr ⟨by simpa using h0, by simpa using h1, by simp; omega, by omega, by omega, by omega⟩))
  rcases hcase with h0 | ⟨h0, h1⟩ | ⟨h0, h1, h2⟩ | ⟨h0, h1, h2, n0, n1, hl'⟩
  iterate 3 focus
    go_enter Try.func6, Try.ntmps6
    go_wp2_with fail
    refine (tableBegun_any _).mono ?_
    rintro e w1 ⟨rfl, hb1⟩
    have HB : Hid _ := hb1
    clear hb1
    go_wp2_with fail
    go_ret
    exact ⟨rfl, HB.out⟩
  obtain ⟨nn, rfl⟩ := Int.eq_ofNat_of_zero_le (show 0 ≤ n by omega)
  go_enter Try.func6, Try.ntmps6
  go_wp2_with fail
  refine (tableBegun_any _).mono ?_
  rintro e w1 ⟨rfl, hb1⟩
  have HB1 : Hid (Below W.heap.size W w1) := hb1
  have HM := memory_any nn (by omega) 1 none 0 0 (by omega) (fun _ => 0) w1 (fun j hj => absurd hj (by omega))
  rw [memory_one (by omega)] at HM
  have HR0 : Hid (Pg.Rep (Pg.Fs.new nn).take []) := Pg.rep_start (by omega) (by omega)
  have HN0 : Hid ((Pg.Fs.new nn).take.n = nn) := take_n _
  generalize (Pg.Fs.new nn).take = S0 at *
  clear hb1
  go_wp2_with fail
  refine HM.mono ?_
  rintro e w2 ⟨bf, bm, g0, g1, vb0, F0, rfl, hS⟩
  have HS0 : Hid _ := hS
  clear hS HM
  go_wp2_with fail
  refine (dbNew_any w2).mono ?_
  rintro e w3 ⟨b, G0, rfl, h3, hb3, hG3⟩
  have T3 : Hid (Tb W w3 bf b F0 G0 S0 []) := by
    have hb := bthen HB1.out HS0.out.bel
    refine ⟨bthen hb hb3, HS0.out.fr.keep (G := fun _ => False) (But.of_below hb3) fun _ _ => id, h3, fun k hk => Nat.le_trans HB1.out.size (HS0.out.fhi k hk), fun k hk => Nat.le_trans hb.size (hG3 k hk), fun k hk hg => ?_⟩
    have := HS0.out.fr.lt hk
    have := hG3 k hg
    omega
  clear h3 hb3 hG3 HS0 HB1
  go_wp2_with fail
  go_loopw [8] (fun i wr => ∃ k : Nat, k ≤ len' ∧ i = .int .i64 k ∧ Hid (∃ S L F G, Tb W wr bf b F G S L ∧ Pg.Rep S L ∧ S.n = nn)) (fun i _ => len' - (intOf i).toNat)
  case atStart => exact ⟨0, by omega, rfl, ⟨_, _, _, _, T3.out, HR0.out, HN0.out⟩⟩
  case round =>
    obtain ⟨k, hk, rfl, HR⟩ := hrel
    obtain ⟨S, L, F, G, hB, hRep, hSn⟩ := HR.out
    have HB : Hid _ := hB
    have HRep : Hid _ := hRep
    have HSn : Hid (S.n = nn) := hSn
    clear HR hB hRep hSn T3 HR0 HN0
    by_cases hlt : k < len'
    · as_aux_lemma =>
      obtain ⟨⟨xb, xo, rfl, hxl, hx⟩, hfit⟩ := HQ'.out k hlt
      have i0 : (0 : Int) ≤ (k : Int) := by omega
      have i1 : (k : Int) < (len' : Int) := by omega
      generalize q' k = x at *
      obtain ⟨kind, core, ⟨mp, ms, mf, mr⟩, aq, ak, au⟩ := x
      obtain ⟨x0, x1, x2, x3, x4, x5, x6, x7, x8⟩ := hx
      have y0 := (HB.out.bel.cell (p := ⟨xb, xo + k * 9, none⟩) hxl).trans x0
      have y1 := (HB.out.bel.cell (p := ⟨xb, xo + k * 9 + 1, none⟩) hxl).trans x1
      have y2 := (HB.out.bel.cell (p := ⟨xb, xo + k * 9 + 2, none⟩) hxl).trans x2
      have y3 := (HB.out.bel.cell (p := ⟨xb, xo + k * 9 + 3, none⟩) hxl).trans x3
      have y4 := (HB.out.bel.cell (p := ⟨xb, xo + k * 9 + 4, none⟩) hxl).trans x4
      have y5 := (HB.out.bel.cell (p := ⟨xb, xo + k * 9 + 5, none⟩) hxl).trans x5
      have y6 := (HB.out.bel.cell (p := ⟨xb, xo + k * 9 + 6, none⟩) hxl).trans x6
      have y7 := (HB.out.bel.cell (p := ⟨xb, xo + k * 9 + 7, none⟩) hxl).trans x7
      have y8 := (HB.out.bel.cell (p := ⟨xb, xo + k * 9 + 8, none⟩) hxl).trans x8
      simp only at y0 y1 y2 y3 y4 y5 y6 y7 y8
      have hfp : Hid (Pg.fits mp) := hfit.1
      clear x0 x1 x2 x3 x4 x5 x6 x7 x8 HQ' hfit
      obtain ⟨Wz, hWz⟩ : ∃ Wz, Wz = wr.alloc (.cells #[.int .i64 kind, .int .i64 core, .int .i64 mp, .int .i64 ms, .int .i64 mf, .int .i64 mr, .int .i64 aq, .int .i64 ak, .bool au] 60) := ⟨_, rfl⟩
      have hbz : Below wr.heap.size wr Wz := by rw [hWz]; exact balloc (brefl _) _
      have BZ : Hid _ := HB.out.grow hbz
      have XZ : Hid (BstAt Wz wr.heap.size 0 ⟨kind, core, ⟨mp, ms, mf, mr⟩, aq, ak, au⟩) := by
        rw [hWz]
        refine ⟨?_, ?_, ?_, ?_, ?_, ?_, ?_, ?_, ?_⟩ <;> simp [go_sem]
      have hlF : Hid (∀ j, F j → j < wr.heap.size) := fun j hj => HB.out.fr.lt hj
      have hlG : Hid (∀ j, G j → j < wr.heap.size) := fun j hj => HB.out.db.lt hj
      have hlz : wr.heap.size < Wz.heap.size := World.block_lt_of_cell? _ _ XZ.out.1
      have z0 : Wz.cell? ⟨wr.heap.size, 0, none⟩ = some (.int .i64 kind) := XZ.out.1
      clear hbz HB
      go_upto_region 11 with fail
      rw [← hWz]
      clear hWz y0 y1 y2 y3 y4 y5 y6 y7 y8
      generalize wr.heap.size = X at *
      go_cut [56] (fun s56 wc => s56 = .int .i64 kind ∧ wc = Wz)
      case first =>
        go_wp2_with fail
        go_meet
        case rel => exact ⟨rfl, rfl⟩
      case rest =>
        obtain ⟨rfl, rfl⟩ := hcut
        rename_i hK1 K2 hK2
        refine hK2 _ _ ?_
        clear z0
        go_cut [5] (fun s5 wd => s5 = .pointer (some ⟨bf, 0, none⟩) ∧ Hid (∃ S' L' F' G', Tb W wd bf b F' G' S' L' ∧ Pg.Rep S' L' ∧ S'.n = nn))
        case first =>
          by_cases h1 : kind = 1
          · as_aux_lemma =>
            subst h1
            obtain ⟨_, t2, t3, t4, t5, _⟩ := bst_cells XZ.out
            simp only at t2 t3 t4 t5
            have HI := tInsert_any 0 ⟨mp, ms, mf, mr⟩ wc BZ.out.fr
            simp only [Pg.Mp.val] at HI
            have HRI := Pg.rep_insert HRep.out ⟨mp, ms, mf, mr⟩
            have HNI : Hid ((Pg.insS S 0 ⟨mp, ms, mf, mr⟩).n = nn) := by rw [Hid, insS_n]; exact HSn.out
            rcases HRI with ⟨e1, e2, e3⟩ | ⟨e1, e2, e3, _⟩
            · rw [e1, e3] at HI
              have HFr := fun (w : World) (h : FrAt w bf S F) => frFree_any w h
              have fb := HRep.out.ok.free_bd
              go_wp2_with fail
              refine HI.mono ?_
              rintro e w5 ⟨rfl, F5, h5, hb5, hF5⟩
              have B5 : Hid _ := BZ.out.left h5 hb5 hF5
              have HFr := frFree_any w5 h5
              have d3 : ¬ (3 : Int) ≤ S.free := by omega
              have d3' : decide ((3 : Int) ≤ S.free) = false := by simp; omega
              clear h5 hb5 hF5 HI
              go_wp2_with fail
              refine HFr.mono ?_
              rintro e w6 ⟨rfl, hb6⟩
              have B6 : Hid _ := B5.out.grow hb6
              clear hb6 HFr
              go_wp2_with fail
              exact ⟨⟨k + 1, by omega, by go_num, ⟨_, _, _, _, B6.out, HRep.out, HSn.out⟩⟩, by simp [intOf]; omega⟩
            · rw [e2] at HI
              have hne : Pg.addC L ⟨mp, ms, mf, mr⟩ ≠ 6 := by rw [← e2]; exact e1
              have hneb : (Pg.addC L ⟨mp, ms, mf, mr⟩ == 6) = false := by simpa using hne
              have HA := fun (w : World) (Gq : Nat → Prop) (h : DbAt w b L Gq) => dbAdd_any ⟨mp, ms, mf, mr⟩ hfp.out w h
              simp only [Pg.Mp.val] at HA
              have HE3 : Hid _ := e3
              generalize Pg.addC L ⟨mp, ms, mf, mr⟩ = code at *
              generalize Pg.addL L ⟨mp, ms, mf, mr⟩ = L1 at *
              generalize Pg.insS S 0 ⟨mp, ms, mf, mr⟩ = S1 at *
              have cc0 : (code != code) = false := by simp
              clear hne e1 e2 e3
              go_wp2_with fail
              refine HI.mono ?_
              rintro e w5 ⟨rfl, F5, h5, hb5, hF5⟩
              have B5 : Hid _ := BZ.out.left h5 hb5 hF5
              have hbx : w5.heap[X]? = wc.heap[X]? := hb5.block X hlz fun h => by have := hlF.out X h; omega
              obtain ⟨_, u2, u3, u4, u5, _⟩ := bst_cells (bst_block XZ.out hbx)
              simp only at u2 u3 u4 u5
              clear h5 hb5 hF5 HI t2 t3 t4 t5 hbx
              go_wp2_with fail
              refine (HA _ _ B5.out.db).mono ?_
              rintro e w6 ⟨rfl, G6, h6, hb6, hG6⟩
              have B6 : Hid _ := B5.out.right h6 hb6 hG6
              clear h6 hb6 hG6 HA u2 u3 u4 u5
              go_wp2_with fail
              go_meet
              case rel => exact ⟨rfl, ⟨_, _, _, _, B6.out, HE3.out, HNI.out⟩⟩
          · have nn1 : (kind == 1) = false := by simpa using h1
            clear h1
            by_cases h2 : kind = 2
            · as_aux_lemma =>
              subst h2
              obtain ⟨_, t2, _⟩ := bst_cells XZ.out
              simp only at t2
              have HP := tRemove_any 0 mp wc BZ.out.fr
              have HD := fun (w : World) (Gq : Nat → Prop) (h : DbAt w b L Gq) => dbDrop_any mp hfp.out w h
              obtain ⟨ec, em⟩ := Pg.rep_codes HRep.out mp
              obtain ⟨r1, r2, r3, r4, r5, r6, _, _⟩ := Pg.rep_remove HRep.out mp
              rw [ec, em] at HP
              have hGl := rmR_len S 0 mp
              generalize Pg.dropM L mp = dm at *
              generalize Pg.dropC L mp = code at *
              generalize Pg.dropL L mp = L1 at *
              generalize (Pg.rmR S 0 mp).1 = S1 at *
              generalize (Pg.rmR S 0 mp).2 = Gn at *
              have HR4 : Hid _ := r4
              have HR5 : Hid _ := r5
              have HR6 : Hid _ := r6
              have HR1 : Hid _ := r1
              have HN1 : Hid ((Pg.gives Gn S1).n = nn) := by
                obtain ⟨_, _, q, _⟩ := Pg.gives_like Gn S1 r1 r4 r5
                rw [Hid, q, r2]
                exact HSn.out
              clear r1 r2 r3 r4 r5 r6 ec em
              obtain ⟨dp, ds, df, dr⟩ := dm
              simp only [Pg.Mp.val] at HD
              have cc0 : (code != code) = false := by simp
              go_wp2_with fail
              refine HP.mono ?_
              rintro e w5 ⟨ga, gc, F5, rfl, hi5, h5, hb5, hF5, hg5⟩
              have B5 : Hid _ := BZ.out.left h5 hb5 hF5
              have hbx : w5.heap[X]? = wc.heap[X]? := hb5.block X hlz fun h => by have := hlF.out X h; omega
              have hs5 := hb5.size
              have hb5m := balloc (brefl w5) (.cells #[.int .i64 dp, .int .i64 ds, .int .i64 df, .int .i64 dr] 53)
              obtain ⟨W6, hW6⟩ : ∃ W6, W6 = w5.alloc (.cells #[.int .i64 dp, .int .i64 ds, .int .i64 df, .int .i64 dr] 53) := ⟨_, rfl⟩
              rw [← hW6] at hb5m
              have B6 : Hid _ := B5.out.grow hb5m
              have I6 : Hid (IntsAt W6 ga Gn) := IntsAt.below hi5 hb5m
              have M6 : Hid (MpAt W6 w5.heap.size 0 ⟨dp, ds, df, dr⟩) := by
                rw [hW6]
                refine ⟨?_, ?_, ?_, ?_⟩ <;> simp [go_sem]
              have hX5 : X < w5.heap.size := by omega
              have hnX5 : ¬ X = w5.heap.size := by omega
              obtain ⟨_, u2, _⟩ := bst_cells (bst_block XZ.out hbx)
              simp only at u2
              have HG5 : Hid (∀ g, ga = some ⟨g, 0, none⟩ → wc.heap.size ≤ g ∧ ¬ F5 g) := hg5
              have hl6 : w5.heap.size < W6.heap.size := World.block_lt_of_cell? _ _ M6.out.1
              have hG5l : Hid (∀ j, G j → j < wc.heap.size) := fun j hj => BZ.out.db.lt hj
              clear h5 hb5 hF5 HP hi5 hg5 hb5m hbx t2
              simp only [Pg.Mp.val]
              go_wp2_with fail
              rw [← hW6]
              clear hW6
              refine (HD _ _ B6.out.db).mono ?_
              rintro e w7 ⟨rfl, G7, h7, hb7, hG7⟩
              have B7 : Hid _ := B6.out.right h7 hb7 hG7
              have I7 : Hid (IntsAt w7 ga Gn) := IntsAt.but I6.out hb7 fun g hg h => by have := (HG5.out g hg).1; have := hG5l.out g h; omega
              have m7 : MpAt w7 w5.heap.size 0 ⟨dp, ds, df, dr⟩ := mp_block M6.out (hb7.block _ hl6 fun h => by have := hG5l.out _ h; omega)
              obtain ⟨a0, a1, a2, a3⟩ := m7
              simp only [Nat.zero_add] at a0 a1 a2 a3
              have N7 : Hid (∀ g, ga = some ⟨g, 0, none⟩ → ¬ F5 g) := fun g hg => (HG5.out g hg).2
              have hl7 : w5.heap.size < w7.heap.size := World.block_lt_of_cell? _ _ a0
              have hn7 : ¬ w5.heap.size = w7.heap.size := by omega
              have b7 := B7.out.grow (balloc (brefl w7) (.cells #[.int .i64 dp, .int .i64 ds, .int .i64 df, .int .i64 dr] 53))
              have i7 : IntsAt (w7.alloc (.cells #[.int .i64 dp, .int .i64 ds, .int .i64 df, .int .i64 dr] 53)) ga Gn := IntsAt.below I7.out (balloc (brefl w7) _)
              have B8 : Hid _ := b7
              have I8 : Hid (IntsAt (w7.alloc (.cells #[.int .i64 dp, .int .i64 ds, .int .i64 df, .int .i64 dr] 53)) ga Gn) := i7
              clear h7 hb7 hG7 HD HG5 hG5l u2 B6 I6 M6 B5 I7 B7 b7 i7
              go_wp2_with fail
              go_loopw [16] (fun jv wi => ∃ j : Nat, j ≤ Gn.length ∧ jv = .int .i64 (j : Int) ∧ Hid (∃ F', Tb W wi bf b F' G7 (Pg.gives (Gn.take j) S1) L1 ∧ IntsAt wi ga Gn ∧ ∀ g, ga = some ⟨g, 0, none⟩ → ¬ F' g)) (fun jv _ => Gn.length - (intOf jv).toNat)
              case atStart => exact ⟨0, by omega, rfl, ⟨_, B8.out, I8.out, N7.out⟩⟩
              case round =>
                obtain ⟨j, hj, rfl, HRj⟩ := hrel
                obtain ⟨Fj, pj, ij, gj⟩ := HRj.out
                have PJ : Hid _ := pj
                have IJ : Hid (IntsAt wr ga Gn) := ij
                have GJ : Hid _ := gj
                clear HRj pj ij gj B8 I8 N7
                have j0 : (0 : Int) ≤ (j : Int) := by omega
                by_cases hjl : j < Gn.length
                · have j1 : (j : Int) < (Gn.length : Int) := by omega
                  obtain ⟨g, rfl, hgl, hgc⟩ := IJ.out j hjl
                  have ng1 := GJ.out g rfl
                  have HGf := frGive_any (Gn.getD j 0) wr PJ.out.fr
                  obtain ⟨q1, q2⟩ := gives_next HR1.out HR4.out HR5.out hjl
                  rw [q1, ← q2] at HGf
                  clear q1 q2
                  generalize Gn.getD j 0 = xg at *
                  go_wp2_with fail
                  refine HGf.mono ?_
                  rintro e w8 ⟨rfl, F8, h8, hb8, hF8⟩
                  have P8 : Hid _ := PJ.out.left h8 hb8 hF8
                  have I8 : Hid (IntsAt w8 (some ⟨g, 0, none⟩) Gn) := IntsAt.but IJ.out hb8 fun g' e h => by cases e; exact ng1 h
                  have NF8 : Hid (¬ F8 g) := fun h => by
                    rcases hF8 g h with h' | h'
                    · exact ng1 h'
                    · omega
                  clear h8 hb8 hF8 HGf
                  go_wp2_with fail
                  exact ⟨⟨j + 1, by omega, by go_num, ⟨_, P8.out, I8.out, fun g' e => by cases e; exact NF8.out⟩⟩, by simp [intOf]; omega⟩
                · have j1 : ¬ (j : Int) < (Gn.length : Int) := by omega
                  have ej : j = Gn.length := by omega
                  have fin : Hid (∃ S' L' F' G', Tb W wr bf b F' G' S' L' ∧ Pg.Rep S' L' ∧ S'.n = nn) := by
                    have := PJ.out
                    rw [ej, List.take_length] at this
                    exact ⟨_, _, _, _, this, HR6.out, HN1.out⟩
                  clear ej
                  go_wp2_with fail
                  go_meet
                  case rel => exact ⟨rfl, fin.out⟩
            · have nn2 : (kind == 2) = false := by simpa using h2
              clear h2
              by_cases h3 : kind = 3
              · as_aux_lemma =>
                subst h3
                obtain ⟨_, t2, _, _, t5, _⟩ := bst_cells XZ.out
                simp only at t2 t5
                have HP := tProtect_any 0 mp mr wc BZ.out.fr
                have HD := fun (w : World) (Gq : Nat → Prop) (h : DbAt w b L Gq) => dbProtect_any mp mr hfp.out w h
                obtain ⟨ec, em, er⟩ := Pg.rep_protect HRep.out mp mr
                have HNI : Hid ((Pg.prS S 0 mp mr).n = nn) := by rw [Hid, prS_n]; exact HSn.out
                rw [ec, em] at HP
                have HER : Hid _ := er
                generalize Pg.protM L mp mr = dm at *
                generalize Pg.protC L mp mr = code at *
                generalize Pg.protL L mp mr = L1 at *
                generalize Pg.prS S 0 mp mr = S1 at *
                clear ec em er
                obtain ⟨dp, ds, df, dr⟩ := dm
                simp only [Pg.Mp.val] at HP HD
                have cc0 : (code != code) = false := by simp
                go_wp2_with fail
                refine HP.mono ?_
                rintro e w5 ⟨rfl, F5, h5, hb5, hF5⟩
                have B5 : Hid _ := BZ.out.left h5 hb5 hF5
                have hbx : w5.heap[X]? = wc.heap[X]? := hb5.block X hlz fun h => by have := hlF.out X h; omega
                have hs5 := hb5.size
                have hb5m := balloc (brefl w5) (.cells #[.int .i64 dp, .int .i64 ds, .int .i64 df, .int .i64 dr] 53)
                obtain ⟨W6, hW6⟩ : ∃ W6, W6 = w5.alloc (.cells #[.int .i64 dp, .int .i64 ds, .int .i64 df, .int .i64 dr] 53) := ⟨_, rfl⟩
                rw [← hW6] at hb5m
                have B6 : Hid _ := B5.out.grow hb5m
                have M6 : Hid (MpAt W6 w5.heap.size 0 ⟨dp, ds, df, dr⟩) := by
                  rw [hW6]
                  refine ⟨?_, ?_, ?_, ?_⟩ <;> simp [go_sem]
                have hX5 : X < w5.heap.size := by omega
                have hnX5 : ¬ X = w5.heap.size := by omega
                obtain ⟨_, u2, _, _, u5, _⟩ := bst_cells (bst_block XZ.out hbx)
                simp only at u2 u5
                have hl6 : w5.heap.size < W6.heap.size := World.block_lt_of_cell? _ _ M6.out.1
                have hG5l : Hid (∀ j, G j → j < wc.heap.size) := fun j hj => BZ.out.db.lt hj
                clear h5 hb5 hF5 HP hb5m hbx t2 t5
                go_wp2_with fail
                rw [← hW6]
                clear hW6
                refine (HD _ _ B6.out.db).mono ?_
                rintro e w7 ⟨rfl, G7, h7, hb7, hG7⟩
                have B7 : Hid _ := B6.out.right h7 hb7 hG7
                have m7 : MpAt w7 w5.heap.size 0 ⟨dp, ds, df, dr⟩ := mp_block M6.out (hb7.block _ hl6 fun h => by have := hG5l.out _ h; omega)
                obtain ⟨a0, a1, a2, a3⟩ := m7
                simp only [Nat.zero_add] at a0 a1 a2 a3
                have hl7 : w5.heap.size < w7.heap.size := World.block_lt_of_cell? _ _ a0
                have hn7 : ¬ w5.heap.size = w7.heap.size := by omega
                have B8 : Hid _ := B7.out.grow (balloc (brefl w7) (.cells #[.int .i64 dp, .int .i64 ds, .int .i64 df, .int .i64 dr] 53))
                clear h7 hb7 hG7 HD hG5l u2 u5 B6 M6 B5 B7
                go_wp2_with fail
                go_meet
                case rel => exact ⟨rfl, ⟨_, _, _, _, B8.out, HER.out, HNI.out⟩⟩
              · have nn3 : (kind == 3) = false := by simpa using h3
                clear h3
                go_wp2_with fail
                go_meet
                case rel => exact ⟨rfl, ⟨_, _, _, _, BZ.out, HRep.out, HSn.out⟩⟩
        case rest =>
          as_aux_lemma =>
          obtain ⟨rfl, HR9⟩ := hcut
          obtain ⟨S9, L9, F9, G9, b9, r9, n9⟩ := HR9.out
          have B9 : Hid _ := b9
          have R9 : Hid _ := r9
          have N9 : Hid (S9.n = nn) := n9
          clear HR9 b9 r9 n9 BZ XZ HRep HSn
          have hlenL : L9.length ≤ 4680 := by
            have h1 := Pg.mapsOf_len (Pg.thr S9 Pg.allW 3 0 0).1
            have h2 := Pg.thr_len S9 Pg.allW 3 0 0
            have h3 : Pg.cnt' (3 + 1) = 4680 := rfl
            rw [R9.out.maps] at h1
            omega
          have hneed := Pg.rep_needed R9.out
          have htab := Pg.rep_tables R9.out
          have hfb := R9.out.ok.free_bd
          rw [N9.out] at htab
          have HL : ∀ w', FrAt w' bf S9 F9 → Calls Try.prog 15 #[.pointer (some ⟨bf, 0, none⟩), .int .i64 0] w' fun e w1 => ∃ ad cap, e = .returned (.tuple #[.slice ad L9.length cap, .int .i64 0]) ∧ MapsAt w1 ad L9 ∧ Below w'.heap.size w' w1 := fun w' h => by
            refine (wList_any 0 w' h).mono ?_
            rintro e w1 ⟨ad, cap, Lq, rfl, hq, hm, hb⟩
            rw [R9.out.code, if_pos rfl, R9.out.maps] at hq
            subst hq
            exact ⟨ad, cap, by rw [R9.out.code], hm, hb⟩
          obtain ⟨T, hT⟩ : ∃ T, T = (0 : Int) :: Pg.tabsOf (Pg.thr S9 Pg.allW 3 0 0).1 := ⟨_, rfl⟩
          have HT : ∀ w', FrAt w' bf S9 F9 → Calls Try.prog 16 #[.pointer (some ⟨bf, 0, none⟩), .int .i64 0] w' fun e w1 => ∃ ad cap, e = .returned (.tuple #[.slice ad T.length cap, .int .i64 0]) ∧ IntsAt w1 ad T ∧ T.length ≤ cap ∧ Below w'.heap.size w' w1 := fun w' h => by
            refine (wTables_cap 0 w' h).mono ?_
            rintro e w1 ⟨ad, cap, Lq, rfl, hq, hm, hcp, hb⟩
            rw [R9.out.code, if_pos rfl, ← hT] at hq
            subst hq
            exact ⟨ad, cap, by rw [R9.out.code], hm, hcp, hb⟩
          have HNd : Hid (T.Nodup) := by rw [Hid, hT]; exact R9.out.nodup
          have HUs : Hid (∀ x, x ∈ T → S9.has x = true) := fun x hx => Pg.tabs_has 3 0 0 R9.out.code x (by rw [← hT]; exact hx)
          have hTl : Pg.needed L9 = (T.length : Int) := by rw [hneed, hT]; simp
          have hTb : T.length ≤ 128 := by omega
          have HNe := fun (ad : Option Addr) (cap : Nat) (w : World) (h : MapsAt w ad L9) => needed_any (cap := cap) (Pg.rep_good R9.out).ok w h (by omega)
          rw [hTl] at HNe
          have HFr := fun (w : World) (h : FrAt w bf S9 F9) => frFree_any w h
          have hfr : (nn : Int) - S9.free = (T.length : Int) := by omega
          generalize S9.free = fr at *
          have hTT : ((T.length : Int) != (T.length : Int)) = false := by simp
          clear hneed htab hTl hT
          refine hK1 _ _ ?_
          go_wp2_with fail
          refine (HL _ B9.out.fr).mono ?_
          rintro e w10 ⟨ad1, cap1, rfl, hm10, hb10⟩
          have B10 : Hid _ := B9.out.grow hb10
          have M10 : Hid (MapsAt w10 ad1 L9) := hm10
          clear hb10 hm10 HL B9
          go_wp2_with fail
          refine (HT _ B10.out.fr).mono ?_
          rintro e w11 ⟨ad2, cap2, rfl, hi11, hcap, hb11⟩
          have B11 : Hid _ := B10.out.grow hb11
          have M11 : Hid (MapsAt w11 ad1 L9) := MapsAt.below M10.out hb11
          have I11 : Hid (IntsAt w11 ad2 T) := hi11
          clear hb11 hi11 HT B10 M10
          go_wp2_with fail
          refine (dbList_any w11 B11.out.db).mono ?_
          rintro e w12 ⟨ad3, cap3, rfl, hm12, hb12, _⟩
          have B12 : Hid _ := B11.out.grow hb12
          have M12 : Hid (MapsAt w12 ad1 L9) := MapsAt.below M11.out hb12
          have D12 : Hid (MapsAt w12 ad3 L9) := hm12
          have I12 : Hid (IntsAt w12 ad2 T) := IntsAt.below I11.out hb12
          clear hb12 hm12 B11 M11 I11
          have HSM := sameMapsW (cap := cap1) (cap' := cap3) w12 M12.out D12.out (by omega)
          go_wp2_with fail
          refine HSM.mono ?_
          rintro e w13 ⟨rfl, hb13⟩
          have B13 : Hid _ := B12.out.grow hb13
          have M13 : Hid (MapsAt w13 ad1 L9) := MapsAt.below M12.out hb13
          have I13 : Hid (IntsAt w13 ad2 T) := IntsAt.below I12.out hb13
          clear hb13 HSM B12 M12 D12 I12
          go_wp2_with fail
          refine (HNe ad1 cap1 w13 M13.out).mono ?_
          rintro e w14 ⟨rfl, hb14⟩
          have B14 : Hid _ := B13.out.grow hb14
          have I14 : Hid (IntsAt w14 ad2 T) := IntsAt.below I13.out hb14
          clear hb14 HNe B13 M13 I13
          go_wp2_with fail
          refine (HFr w14 B14.out.fr).mono ?_
          rintro e w15 ⟨rfl, hb15⟩
          have B15 : Hid _ := B14.out.grow hb15
          have I15 : Hid (IntsAt w15 ad2 T) := IntsAt.below I14.out hb15
          clear hb15 HFr B14 I14
          go_wp2_with fail
          go_loopw [25] (fun jv wi => ∃ j : Nat, j ≤ T.length ∧ jv = .int .i64 (j : Int) ∧ Hid (Tb W wi bf b F9 G9 S9 L9 ∧ IntsAt wi ad2 T)) (fun jv _ => T.length - (intOf jv).toNat)
          case atStart => exact ⟨0, by omega, rfl, B15.out, I15.out⟩
          case round =>
            obtain ⟨j, hj, rfl, HRj⟩ := hrel
            clear B15 I15
            have j0 : (0 : Int) ≤ (j : Int) := by omega
            by_cases hjl : j < T.length
            · have j1 : (j : Int) < (T.length : Int) := by omega
              have j2 : (j : Int) ≤ (cap2 : Int) := by omega
              obtain ⟨g, rfl, hgl, hgc⟩ := HRj.out.2 j hjl
              have HTk := fun m => taken_same (T.getD j 0) (wr.drewN m) (HRj.out.1.grow (below_drewN (brefl wr) m)).fr
              have hin : T.getD j 0 ∈ T := by simp [List.getD, hjl]
              rw [HUs.out _ hin] at HTk
              have htk : (T.take j).length = j := by simp; omega
              have HIn := fun m => in_any (cap := cap2) (T.getD j 0) (wr.drewN m) (ints_take (IntsAt.below HRj.out.2 (below_drewN (brefl wr) m)) j) (by omega)
              rw [not_before HNd.out hjl, htk] at HIn
              generalize T.getD j 0 = xg at *
              have fin : Hid (∀ nq, Tb W (wr.drewN nq) bf b F9 G9 S9 L9 ∧ IntsAt (wr.drewN nq) (some ⟨g, 0, none⟩) T) := fun nq => ⟨HRj.out.1.grow (below_drewN (brefl wr) nq), IntsAt.below HRj.out.2 (below_drewN (brefl wr) nq)⟩
              clear hin htk
              go_wp2_with fail
              go_quiet (first
                | (go_at_call 42; exact Calls.quiet_of_same (HTk _))
                | (go_at_call 19; exact Calls.quiet_of_same (HIn _)))
              go_wp2_with fail
              exact ⟨⟨j + 1, by omega, by go_num, fin.out _⟩, by simp [intOf]; omega⟩
            · have j1 : ¬ (j : Int) < (T.length : Int) := by omega
              go_wp2_with fail
              exact ⟨⟨k + 1, by omega, by go_num, ⟨_, _, _, _, HRj.out.1, R9.out, N9.out⟩⟩, by simp [intOf]; omega⟩
    · have i1 : ¬ (k : Int) < (len' : Int) := by omega
      have HF : Hid _ := HB.out.bel
      go_wp2_with fail
      go_ret
      exact ⟨rfl, HF.out⟩

set_option maxRecDepth 100000 in
theorem tableBook_lifted (os : Os) (started : os.Started) (H : Type) (enc : TypeId × Value → H) :
    ReturnsInHanded {} Try.checked os 6 .any (Rows.tableBookSpec.pre6 enc Try.prog Try.f6 Rows.tableBookRow.domain false) (Rows.tableBookSpec.post enc Try.prog Try.f6 false true false false) := by
  refine returnsInHanded_of_change (C := Try.checked) own started (by kernel_rfl) Try.func6
    (ChangeSpec.witness6 (enc := enc) (C := Try.checked) false ⟨#[], #[.int .i64 0, .slice none 0 0], []⟩ 8 (by kernel_rfl) (by kernel_rfl) (by kernel_rfl) (by kernel_rfl)) ?_
  intro W base args ds gs before hval0 hW hcnd _
  have hval : ∀ (j : Nat) t v, Try.f6.params[j]? = some t → args[j]? = some v → Value.okWide Try.prog W .any base t v := hval0
  have hW' := hW
  obtain ⟨p, q, hA0, hV, rfl, hfz, hnd⟩ := hW
  have hA : DataW.TrodAll enc Try.prog W 0 (fun _ => true) true Try.f6.params.toList args.toList ds p := hA0
  rw [Try.params6] at hA hval
  obtain ⟨v0, vs0, d0, ds0, p0, q0, hargs, rfl, rfl, h0, r0⟩ := trodAll_cons hA
  obtain ⟨v1, vs1, d1, ds1, p1, q1, rfl, rfl, rfl, h1, r1⟩ := trodAll_cons r0
  obtain ⟨rfl, rfl, rfl⟩ := trodAll_nil r1
  obtain rfl : args = #[v0, v1] := by cases args; simp_all
  obtain ⟨rfl, rfl⟩ := trodVars_none hV
  obtain ⟨a0a, rfl, f0a⟩ := openInt (hval 0 3 v0 rfl rfl) h0
  obtain ⟨a1a, a1b, a1c, a1d, rfl, f1a⟩ := openBsts (hval 1 56 v1 rfl rfl) h1
  clear hA0 hval0
  refine (tableBook_walk W a0a f0a a1a a1b a1c a1d f1a).mono fun e W' ⟨he, bel⟩ => ?_
  subst he
  exact ⟨_, rfl, _, _, _, [], _, [], hW', trodAll_mk1 (shut_bool Try.underlying4 _), (trodAll_cons_mk (stays (by kernel_rfl) (of_decide_eq_true (by kernel_rfl)) h0 bel) (trodAll_cons_mk (stays (by kernel_rfl) (of_decide_eq_true (by kernel_rfl)) h1 bel) trodAll_mk0)), rfl, bel.frame _, fun h => by cases h⟩

theorem tableBook_over : Rows.tableBookRow.holds Try.pinned (OpenSpec.ofChange Rows.tableBookSpec) :=
  OpenClaim.holds_of_wide 6 Try.f6 rfl rfl rfl rfl rfl rfl rfl ⟨rfl, rfl, rfl, rfl, rfl⟩ rfl rfl rfl rfl rfl (by kernel_rfl) Try.func6 (by kernel_rfl)
    (of_decide_eq_true (by kernel_rfl)) (by unfold Func.isWrapper; first | (rw [if_pos (by decide +kernel)]; kernel_rfl) | (rw [if_neg (by decide +kernel)]; exact ⟨rfl, rfl⟩))
    (fun os started H enc _ => tableBook_lifted os started H enc)

theorem tableBook_proved : Rows.TableBookSaid := tableBook_over
#print axioms tableBook_proved
end Go.Proofs.Ytbkpndgadgafiac
