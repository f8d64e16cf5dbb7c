/-
  What SpaceDirty holds in memory: a space, a row of what was written, and three boxes.
-/
import Derived.Test.YtiojflaehjbcbaeGreatSpVal
import Derived.Test.YtiojflaehjbcbaeGreatPlainSH
import Derived.Test.YtiojflaehjbcbaeGreatDvFace
import Derived.Test.YtiojflaehjbcbaeGreatFrameB
import Derived.Test.YtiojflaehjbcbaeGreatTabN
import Derived.Test.YtiojflaehjbcbaeGreatLooseT
import Derived.Deep.Quiet
import Derived.Test.YtiojflaehjbcbaeGreatWalkE
namespace Go.Proofs.YtiojflaehjbcbaeGreat
open Go.RowKit
set_option linter.unusedVariables false
set_option maxRecDepth 10000
namespace Pg
/-- The page and the kind of the access that a step is about. -/
def Spc.accQ (X : Spc) (x : Sx) : Int := if x.kind = 4 then x.q else (X.walkOf x.core).q
def Spc.accK (X : Spc) (x : Sx) : Int := if x.kind = 4 then x.k else (X.walkOf x.core).k
theorem used_find {S : Fs} {L : List Mp} (h : Rep S L) {q : Nat} (hq : q < 4096) {m : Mp} {d : Bool} (hm : Leaf S m d) (hh : m.has (q : Int) = true) : (tFE S 0 (q : Int)).u = true := by
  obtain ⟨s, hs, hl, e0, hu, _⟩ := hm
  rw [← e0] at hh
  obtain ⟨hz, lv, e, tl, A, B, F⟩ := rep_find h hq
  have e1 := found_leaf F hs hl hh
  subst e1
  simp only at hl hu
  have ht : e.t = true := by
    have hl' : (rEn S tl (ix (q : Int) lv) lv).l = true := by rw [← F.way.en]; exact hl
    have := (rEn_leaf h.ok hl').2.1
    rw [← F.way.en] at this
    exact this
  have hc : tFC S 0 (q : Int) = 0 := by rw [tFC, hz, if_neg (by decide), F.way.lastE, ht, if_pos rfl]
  rw [tFE, if_pos hc, F.way.lastE]
  exact hu
section
variable {X : Spc} {L L0 : List Mp}
/-- Steps of walks and accesses leave it as it was who waits. -/
theorem core_W {x : Sx} (hk : x.kind = 4 ∨ x.kind = 5) : (X.goN x).W = X.W := by
  unfold Spc.goN
  rw [if_neg (by omega), if_neg (by omega)]
  split
  · rfl
  · rcases hk with hk | hk
    · rw [if_pos hk]
    · rw [if_neg (by omega), if_pos hk]
theorem dirty_done (h : Inv X L L0) (x : Sx) (he : (X.goE x).ended = true) (ha : (X.goE x).a = 0) (hb : (X.goN x).busy = false) : below (X.accQ x) 4096 = true ∧ (tFE (X.goN x).S 0 (X.accQ x)).u = true ∧ (X.accK x = 1 → Marked (gives (X.goN x).G (X.goN x).S) (X.accQ x)) := by
  obtain ⟨_, _, c0, c1, hx⟩ := ended_right h x he
  have hk : x.kind = 4 ∨ x.kind = 5 := by
    rcases hx with ⟨h4, _⟩ | ⟨h5, _⟩
    · exact .inl h4
    · exact .inr h5
  have hb0 : X.busy = false := by
    unfold Spc.busy at hb ⊢
    rw [core_W hk] at hb
    exact hb
  have h' := inv_step h x
  have hG : (X.goN x).G = [] := h'.calm hb
  obtain ⟨q, k, hqk, hq, m, hm, hl⟩ := done_marks h x he ha hb0
  have e : X.accQ x = q ∧ X.accK x = k := by
    unfold Spc.accQ Spc.accK
    rcases hqk with ⟨h4, e1, e2⟩ | ⟨h5, e1, e2⟩
    · rw [if_pos h4, if_pos h4]
      exact ⟨e1.symm, e2.symm⟩
    · rw [if_neg (by omega), if_neg (by omega)]
      have ew : X.walkOf x.core = (X.at' x.core).K := by
        unfold Spc.walkOf Spc.at'
        rw [if_pos c0]
      rw [ew]
      exact ⟨e1.symm, e2.symm⟩
  rw [e.1, e.2]
  refine ⟨hq, ?_, fun e1 => ?_⟩
  · obtain ⟨q0, q1⟩ := below_iff.1 hq
    obtain ⟨n, rfl⟩ := Int.eq_ofNat_of_zero_le q0
    exact used_find (h'.rep hb) (by omega) hl hm
  · rw [hG]
    rw [e1] at hl
    exact Leaf.marked hl hm
/-- What was written stays dirty, but what is unmapped. -/
def Wrt (X : Spc) (Wt : List Int) : Prop := ∀ q, q ∈ Wt → below q 4096 = true ∧ Marked (gives X.G X.S) q
theorem Wrt.stay (h : Inv X L L0) {Wt : List Int} (hw : Wrt X Wt) (x : Sx) (hn : ¬ (x.kind = 2 ∧ (X.goE x).c = 0)) : Wrt (X.goN x) Wt := fun q hq => ⟨(hw q hq).1, marks_stay h x (hw q hq).2 (fun h1 h2 => absurd ⟨h1, h2⟩ hn)⟩
theorem Wrt.left (h : Inv X L L0) {Wt : List Int} (hw : Wrt X Wt) (x : Sx) : Wrt (X.goN x) (Wt.filter fun q => !(tFM X.S 0 x.m.p).has q) := fun q hq => by
  obtain ⟨h1, h2⟩ := List.mem_filter.1 hq
  exact ⟨(hw q h1).1, marks_stay h x (hw q h1).2 (fun _ _ => by simpa using h2)⟩
theorem Wrt.push {Wt : List Int} (hw : Wrt X Wt) {q : Int} (h1 : below q 4096 = true) (h2 : Marked (gives X.G X.S) q) : Wrt X (Wt ++ [q]) := fun y hy => by
  rcases List.mem_append.1 hy with h | h
  · exact hw y h
  · rw [List.mem_singleton.1 h]
    exact ⟨h1, h2⟩
theorem Wrt.find (h : Inv X L L0) {Wt : List Int} (hw : Wrt X Wt) {j : Nat} (hj : j < Wt.length) : tFC X.S 0 (Wt.getD j 0) = 0 ∧ (tFE X.S 0 (Wt.getD j 0)).d = true := by
  have hm := hw (Wt.getD j 0) (getD_mem hj 0)
  have := marks_find h hm.1 hm.2
  exact ⟨this.1, this.2.2⟩
/-- An unmap that went well found its page. -/
theorem unmap_found {x : Sx} (hk : x.kind = 2) (hc : (X.goE x).c = 0) : tFC X.S 0 x.m.p = 0 := by
  unfold Spc.goE at hc
  rw [if_pos (by omega)] at hc
  unfold Spc.chE at hc
  split at hc
  · simp [Ev.code] at hc
  · first
    | (rw [if_neg (by omega), if_pos hk] at hc; exact hc)
    | (rw [if_neg (by omega)] at hc; exact hc)
    | exact hc
end
end Pg
end Go.Proofs.YtiojflaehjbcbaeGreat

namespace Go.Proofs.YtiojflaehjbcbaeGreat
open Go.RowKit Go.Sort
set_option linter.unusedVariables false
set_option linter.unusedSimpArgs false
set_option maxRecDepth 100000
attribute [local go_sem] Loose.gent

theorem greatSteps_any (ad : Option Addr) (len cap : Nat) (k : Int) (w : World) : Calls Tryz.prog 7 #[.slice ad len cap, .int .i64 k] w fun e w' => e = .returned (.bool (decide (k < (len : Int)))) ∧ w' = w := by
  go_enter Tryz.func7, Tryz.ntmps7
  go_wp2_with fail
  go_ret
  exact ⟨rfl, rfl⟩
def Bst.sx (x : Bst) : Pg.Sx := ⟨x.kind, x.core, x.m, x.q, x.k, x.u⟩
theorem tab_apart {T : List Int} (h : T.Nodup) {j : Nat} (hj : j < T.length) : decide (T.getD j 0 ∈ T.take j) = false := by
  simp only [decide_eq_false_iff_not]
  intro hm
  obtain ⟨i, hi, e⟩ := List.mem_iff_getElem.1 hm
  rw [List.length_take] at hi
  rw [List.getElem_take] at e
  have : T.getD j 0 = T[j] := by simp [List.getD, hj]
  rw [this] at e
  have := (List.getElem_inj h).1 e
  omega

section
variable {P : World → Nat → Pg.Spc → (Nat → Prop) → Prop}
/-- A space that was made behind W, and what holds of it. -/
structure Sps (P : World → Nat → Pg.Spc → (Nat → Prop) → Prop) (W w : World) (b : Nat) (nn : Nat) : Prop where
  ex : ∃ X F L L0, Spd P W w b X F ∧ Pg.Inv X L L0 ∧ X.S.n = nn
set_option maxHeartbeats 4000000 in
theorem spaceSafe_face (H : SpFace P) (W : World) (co n : Int) (ad : Option Addr) (len cap : Nat) (q : Nat → Bst)
    (hq : ∀ j, j < len → (∃ b o, ad = some ⟨b, o, none⟩ ∧ b < W.heap.size ∧ BstAt W b (o + j * 9) (q j)) ∧ BstFits (q j)) :
    Calls Tryz.prog 4 #[.int .i64 co, .int .i64 n, .slice ad len cap] W fun e W' => e = .returned (.bool true) ∧ Below W.heap.size W W' := by
  have HQ : Hid _ := hq
  clear hq
  by_cases hl : 300 < len
  · have d1 : decide ((300 : Int) < (len : Int)) = true := by simp; omega
    go_enter Tryz.func4, Tryz.ntmps4
    go_wp2_with fail
    refine (spaceBegun_any H _).mono ?_
    rintro e w1 ⟨rfl, hb1⟩
    have HB : Hid _ := hb1
    clear hb1
    go_wp2_with fail
    refine (greatSteps_any ad len cap 300 _).mono ?_
    rintro e w2 ⟨rfl, rfl⟩
    go_wp2_with fail
    go_ret
    exact ⟨rfl, HB.out⟩
  · have d1 : decide ((300 : Int) < (len : Int)) = false := by simp; omega
    by_cases hbad : co < 1 ∨ 4 < co ∨ n < 1 ∨ 128 < n
    · go_enter Tryz.func4, Tryz.ntmps4
      go_wp2_with fail
      refine (spaceBegun_any H _).mono ?_
      rintro e w1 ⟨rfl, hb1⟩
      have HB : Hid _ := hb1
      clear hb1
      go_wp2_with fail
      refine (greatSteps_any ad len cap 300 _).mono ?_
      rintro e w2 ⟨rfl, rfl⟩
      go_wp2_with fail
      refine (H.bad co n _ hbad).mono ?_
      rintro e w3 ⟨rfl, hb3⟩
      have HB3 : Hid _ := bthen HB.out hb3
      clear hb3
      go_wp2_with fail
      go_ret
      exact ⟨rfl, bthen HB3.out (balloc (brefl _) _)⟩
    · obtain ⟨cn, rfl⟩ := Int.eq_ofNat_of_zero_le (show 0 ≤ co by omega)
      obtain ⟨nn, rfl⟩ := Int.eq_ofNat_of_zero_le (show 0 ≤ n by omega)
      have HNW := fun w => H.new cn nn w (by omega) (by omega) (by omega) (by omega)
      have HIN : Hid _ := Pg.inv_new (cores := cn) (n := nn) (by omega) (by omega) (by omega)
      have hnn : nn ≤ 128 := by omega
      go_enter Tryz.func4, Tryz.ntmps4
      go_wp2_with fail
      refine (spaceBegun_any H _).mono ?_
      rintro e w1 ⟨rfl, hb1⟩
      have HB : Hid _ := hb1
      clear hb1
      go_wp2_with fail
      refine (greatSteps_any ad len cap 300 _).mono ?_
      rintro e w2 ⟨rfl, rfl⟩
      go_wp2_with fail
      refine (HNW _).mono ?_
      rintro e w3 ⟨b, F, rfl, h3, hb3, hF3⟩
      have S3 : Spd P W w3 b (Pg.Spc.new cn nn) F := ⟨h3, bthen HB.out hb3, fun k hk => Nat.le_trans HB.out.size (hF3 k hk)⟩
      have hsn : (Pg.Spc.new cn nn).S.n = nn := by
        show (Pg.Fs.new nn).take.n = nn
        rw [Pg.takes_n]
        rfl
      obtain ⟨W4, hW4⟩ : ∃ W4, W4 = w3.alloc (.cells #[.int .i64 0, .int .i64 0] 27) := ⟨_, rfl⟩
      have hb4 : Below w3.heap.size w3 W4 := by rw [hW4]; exact balloc (brefl _) _
      have S4 : Hid (Sps P W W4 b nn) := ⟨_, _, _, _, S3.grow H hb4, HIN.out, hsn⟩
      have y0 : W4.cell? ⟨w3.heap.size, 0, none⟩ = some (.int .i64 0) := by rw [hW4]; simp [go_sem]
      clear h3 hb3 hF3 S3 hsn HB HNW HIN
      go_upto_region 6 with fail
      rw [← hW4]
      clear hW4 hb4
      go_wp2_with fail
      clear y0
      go_loopw [9, 10, 11, 12] (fun i _ _ _ wr => ∃ k : Nat, k ≤ len ∧ i = .int .i64 k ∧ Hid (Sps P W wr b nn)) (fun i _ _ _ _ => len - (intOf i).toNat)
      case atStart => exact ⟨0, by omega, rfl, S4⟩
      case round =>
        obtain ⟨k, hk, rfl, HR⟩ := hrel
        clear S4
        by_cases hlt : k < len
        · obtain ⟨X, F, L, L0, S, I, hsn⟩ := HR.out.ex
          obtain ⟨⟨xb, xo, rfl, hxl, hx⟩, hfit⟩ := HQ.out k hlt
          have i0 : (0 : Int) ≤ (k : Int) := by omega
          have i1 : (k : Int) < (len : Int) := by omega
          generalize q k = x at *
          have HD := H.step x.sx wr hfit I S.at'
          have I' := Pg.inv_step I x.sx
          have hz := Pg.go_sizes I x.sx
          have hsf := Pg.safe_code I x.sx
          have S1 : Hid _ := S
          have HI : Hid _ := I'
          have HSN : Hid ((X.goN x.sx).S.n = nn) := hz.1.trans hsn
          clear HR S I I' hz hsn hfit
          generalize hE : X.goE x.sx = E at *
          generalize hN : X.goN x.sx = X' at *
          generalize X.nxL L x.sx = L' at *
          generalize X.nxP L L0 x.sx = L0' at *
          clear hE hN
          obtain ⟨kd, cr, ⟨mp, ms, mf, mr⟩, xq, xk, xu⟩ := x
          obtain ⟨ec, en, ea, ef, er, eb⟩ := E
          obtain ⟨x0, x1, x2, x3, x4, x5, x6, x7, x8⟩ := hx
          have y0 := (S1.out.bel.cell (p := ⟨xb, xo + k * 9, none⟩) hxl).trans x0
          have y1 := (S1.out.bel.cell (p := ⟨xb, xo + k * 9 + 1, none⟩) hxl).trans x1
          have y2 := (S1.out.bel.cell (p := ⟨xb, xo + k * 9 + 2, none⟩) hxl).trans x2
          have y3 := (S1.out.bel.cell (p := ⟨xb, xo + k * 9 + 3, none⟩) hxl).trans x3
          have y4 := (S1.out.bel.cell (p := ⟨xb, xo + k * 9 + 4, none⟩) hxl).trans x4
          have y5 := (S1.out.bel.cell (p := ⟨xb, xo + k * 9 + 5, none⟩) hxl).trans x5
          have y6 := (S1.out.bel.cell (p := ⟨xb, xo + k * 9 + 6, none⟩) hxl).trans x6
          have y7 := (S1.out.bel.cell (p := ⟨xb, xo + k * 9 + 7, none⟩) hxl).trans x7
          have y8 := (S1.out.bel.cell (p := ⟨xb, xo + k * 9 + 8, none⟩) hxl).trans x8
          have HX0 : Hid (W.cell? ⟨xb, xo + k * 9, none⟩ = some (.int .i64 kd)) := x0
          simp only [Bst.sx, Pg.Sx.val, Pg.Ev.val] at HD hsf y0 y1 y2 y3 y4 y5 y6 y7 y8
          clear x0 x1 x2 x3 x4 x5 x6 x7 x8
          have hcase : (kd = 5 ∧ ec = 0) ∨ (kd = 5 ∧ ec = 9) ∨ (kd = 5 ∧ ec = 1) ∨ ((kd == 5) = false ∧ (ec == 12) = false) := by
            by_cases h5 : kd = 5
            · rcases hsf.2.2 h5 with h | h | h
              · exact .inl ⟨h5, h⟩
              · exact .inr (.inl ⟨h5, h⟩)
              · exact .inr (.inr (.inl ⟨h5, h⟩))
            · exact .inr (.inr (.inr ⟨by simpa using h5, by simp; omega⟩))
          go_wp2_with fail
          refine HD.mono ?_
          rintro e w4 ⟨rfl, F4, h4, hb4, hF4⟩
          have S4 := S1.out.step h4 hb4 hF4
          obtain ⟨W5, hW5⟩ : ∃ W5, W5 = w4.alloc (.cells #[.int .i64 ec, .bool en, .int .i64 ea, .int .i64 ef, .int .i64 er, .bool eb] 36) := ⟨_, rfl⟩
          have hb5 : Below w4.heap.size w4 W5 := by rw [hW5]; exact balloc (brefl _) _
          have S5 : Hid _ := S4.grow H hb5
          have z0 : W5.cell? ⟨w4.heap.size, 0, none⟩ = some (.int .i64 ec) := by rw [hW5]; simp [go_sem]
          have v0 := (S5.out.bel.cell (p := ⟨xb, xo + k * 9, none⟩) hxl).trans HX0.out
          clear h4 hb4 hF4 S4 hb5 y0 y1 y2 y3 y4 y5 y6 y7 y8 HD S1 hsf
          have HTB := H.tables W5 HI.out S5.out.at'
          have HT5 : Hid _ := Pg.inv_tables HI.out
          have HTE : Hid _ := Pg.Inv.tabs HI.out
          have HME : Hid _ := Pg.Inv.maps HI.out
          have HGD : Hid _ := Pg.rep_good HI.out.bas.rep
          go_upto_region 12 with fail
          rw [← hW5]
          clear hW5
          go_cut [63] from 26 to 97 (fun s63 wc => s63 = .bool false ∧ wc = W5)
          case first =>
            rcases hcase with ⟨rfl, rfl⟩ | ⟨rfl, rfl⟩ | ⟨rfl, rfl⟩ | ⟨g1, g2⟩
            all_goals
              go_wp2_with fail
              go_meet
              case rel => exact ⟨rfl, rfl⟩
          case rest =>
            obtain ⟨rfl, rfl⟩ := hcut
            clear z0 v0 hcase
            go_wp2_with fail
            refine HTB.mono ?_
            rintro e w6 ⟨ad6, cap6, rfl, ha6, hcp, hb6⟩
            have S6 : Hid _ := S5.out.grow H hb6
            have A6 : Hid (IntsAt w6 ad6 X'.tabs) := ha6
            clear ha6 hb6 S5 HTB
            go_wp2_with fail
            refine (H.gone w6 S6.out.at').mono ?_
            rintro e w7 ⟨rfl, hb7⟩
            have S7 : Hid _ := S6.out.grow H hb7
            have A7 : Hid (IntsAt w7 ad6 X'.tabs) := A6.out.below hb7
            clear hb7 S6 A6
            have hsum : ((X'.tabs.length : Int) + (X'.G.length : Int)) + X'.S.free = (nn : Int) := by
              rw [HTE.out]
              have := HT5.out.2.2.2.1
              rw [HSN.out] at this
              exact this
            have hfr := S7.out
            have hf0 : 0 ≤ X'.S.free := HI.out.bas.ok.free_bd.1
            have hnd : Hid (X'.tabs.Nodup) := by rw [Hid, HTE.out]; exact HT5.out.2.2.1
            have hnd2 : Hid (Pg.needed L' = (X'.tabs.length : Int)) := by rw [Hid, HTE.out]; exact HT5.out.2.2.2.2
            clear hfr
            have HFR := fun w' F' (h : P w' b X' F') => H.free w' h
            have HLI := fun w' F' (h : P w' b X' F') => H.list w' HI.out h
            rw [HME.out] at HLI
            have HLN : Hid (L'.length ≤ 5000) := Nat.le_trans HGD.out.len (by decide)
            generalize hfe : X'.S.free = fr at *
            generalize hge : X'.G.length = gl at *
            generalize hte : X'.tabs.length = tl at *
            have t1 : IntKind.i64.wrap ((tl : Int) + (gl : Int)) = (tl : Int) + (gl : Int) := wrap_i64_in (by omega) (by omega)
            have t2 : IntKind.i64.wrap ((tl : Int) + (gl : Int) + fr) = (nn : Int) := by rw [wrap_i64_in (by omega) (by omega)]; exact hsum
            have u1 : (((tl : Int) + (gl : Int) + fr) != (nn : Int)) = false := by rw [hsum]; simp
            have u2 : ((nn : Int) != (nn : Int)) = false := by simp
            clear hfe hge
            go_wp2_with fail
            refine (HFR w7 _ S7.out.at').mono ?_
            rintro e w8 ⟨rfl, hb8⟩
            have S8 : Hid _ := S7.out.grow H hb8
            have A8 : Hid (IntsAt w8 ad6 X'.tabs) := A7.out.below hb8
            clear hb8 S7 A7 HFR
            go_wp2_with fail
            refine (HLI w8 _ S8.out.at').mono ?_
            rintro e w9 ⟨ad9, cap9, rfl, hm9, hb9, _⟩
            have S9 : Hid _ := S8.out.grow H hb9
            have A9 : Hid (IntsAt w9 ad6 X'.tabs) := A8.out.below hb9
            have HND := needed_any (cap := cap9) HGD.out.ok w9 hm9 HLN.out
            rw [hnd2.out] at HND
            have u3 : ((tl : Int) != (tl : Int)) = false := by simp
            clear hm9 hb9 S8 A8 HLI
            go_wp2_with fail
            refine HND.mono ?_
            rintro e w10 ⟨rfl, hb10⟩
            have S10 : Hid _ := S9.out.grow H hb10
            have A10 : Hid (IntsAt w10 ad6 X'.tabs) := A9.out.below hb10
            clear hb10 S9 A9 HND
            go_wp2_with fail
            go_loopw [12] (fun i wq => ∃ t : Nat, t ≤ tl ∧ i = .int .i64 t ∧ Hid (Below w10.heap.size w10 wq)) (fun i _ => tl - (intOf i).toNat)
            case atStart => exact ⟨0, by omega, rfl, brefl _⟩
            case round =>
              obtain ⟨t, ht, rfl, HQR⟩ := hrel
              have t0 : (0 : Int) ≤ (t : Int) := by omega
              by_cases hlt2 : t < tl
              · have t1 : (t : Int) < (tl : Int) := by omega
                have AQ := A10.out.below HQR.out
                obtain ⟨g, rfl, hgl, hgc⟩ := AQ t (by omega)
                have htk : (X'.tabs.take t).length = t := by rw [List.length_take]; omega
                have HIn := fun m => in_any (cap := cap6) (X'.tabs.getD t 0) (wr.drewN m) ((A10.out.below (bthen HQR.out (below_drewN (brefl wr) m))).take t) (by omega)
                rw [tab_apart hnd.out (by omega), htk] at HIn
                have hcp' : (t : Int) ≤ (cap6 : Int) := by omega
                have fin : Hid (∀ m, Below w10.heap.size w10 (wr.drewN m)) := fun m => bthen HQR.out (below_drewN (brefl wr) m)
                generalize X'.tabs.getD t 0 = xg at *
                clear htk AQ
                go_wp2_with fail
                go_quiet (first
                  | (go_at_call 30; exact Calls.quiet_of_same (HIn _)))
                go_wp2_with fail
                exact ⟨⟨t + 1, by omega, by go_num, fin.out _⟩, by simp [intOf]; omega⟩
              · have t1 : ¬ (t : Int) < (tl : Int) := by omega
                have SN : Hid (Sps P W wr b nn) := ⟨_, _, _, _, S10.out.grow H HQR.out, HI.out, HSN.out⟩
                go_wp2_with fail
                go_roundw
                case rel => exact ⟨k + 1, by omega, by go_num, SN⟩
                case measure => simp [intOf]; omega
        · have i1 : ¬ (k : Int) < (len : Int) := by omega
          obtain ⟨X, F, L, L0, S, I, hsn⟩ := HR.out.ex
          have HB : Hid _ := S.bel
          clear S I hsn HR
          go_wp2_with fail
          go_ret
          exact ⟨rfl, HB.out⟩
end
end Go.Proofs.YtiojflaehjbcbaeGreat

namespace Go.Proofs.YtiojflaehjbcbaeGreat
open Go.RowKit Go.Sort
set_option linter.unusedVariables false
set_option linter.unusedSimpArgs false
set_option maxRecDepth 100000

/-- An access at the block ab, a mapping at mb, an event at eb. -/
structure Bxs (w : World) (ab mb eb : Nat) (aq ak : Int) (au : Bool) (m : Pg.Mp) (E : Pg.Ev) : Prop where
  a0 : w.cell? ⟨ab, 0, none⟩ = some (.int .i64 aq)
  a1 : w.cell? ⟨ab, 1, none⟩ = some (.int .i64 ak)
  a2 : w.cell? ⟨ab, 2, none⟩ = some (.bool au)
  af : ∀ i, w.frozen? ⟨ab, i, none⟩ = false
  m0 : w.cell? ⟨mb, 0, none⟩ = some (.int .i64 m.p)
  m1 : w.cell? ⟨mb, 1, none⟩ = some (.int .i64 m.s)
  m2 : w.cell? ⟨mb, 2, none⟩ = some (.int .i64 m.f)
  m3 : w.cell? ⟨mb, 3, none⟩ = some (.int .i64 m.r)
  e0 : w.cell? ⟨eb, 0, none⟩ = some (.int .i64 E.c)
  e1 : w.cell? ⟨eb, 1, none⟩ = some (.bool E.ended)
  e2 : w.cell? ⟨eb, 2, none⟩ = some (.int .i64 E.a)
section
variable {w w' : World} {ab mb eb : Nat} {aq ak : Int} {au : Bool} {m : Pg.Mp} {E : Pg.Ev} {G : Nat → Prop}
theorem Bxs.la (h : Bxs w ab mb eb aq ak au m E) : ab < w.heap.size := World.block_lt_of_cell? _ _ h.a0
theorem Bxs.lm (h : Bxs w ab mb eb aq ak au m E) : mb < w.heap.size := World.block_lt_of_cell? _ _ h.m0
theorem Bxs.le (h : Bxs w ab mb eb aq ak au m E) : eb < w.heap.size := World.block_lt_of_cell? _ _ h.e0
theorem Bxs.keep (h : Bxs w ab mb eb aq ak au m E) (hb : But G w w') (ha : ¬ G ab) (hm : ¬ G mb) (he : ¬ G eb) : Bxs w' ab mb eb aq ak au m E := by
  have ka := hb.block ab h.la ha
  have km := hb.block mb h.lm hm
  have ke := hb.block eb h.le he
  exact ⟨(World.cell?_of_block ka).trans h.a0, (World.cell?_of_block ka).trans h.a1, (World.cell?_of_block ka).trans h.a2, fun i => (World.frozen?_of_block ka).trans (h.af i), (World.cell?_of_block km).trans h.m0, (World.cell?_of_block km).trans h.m1, (World.cell?_of_block km).trans h.m2, (World.cell?_of_block km).trans h.m3, (World.cell?_of_block ke).trans h.e0, (World.cell?_of_block ke).trans h.e1, (World.cell?_of_block ke).trans h.e2⟩
end
/-- A space behind its step, the boxes, and the row v of the numbers Wt: all lie apart. -/
structure Dmd (P : World → Nat → Pg.Spc → (Nat → Prop) → Prop) (W w : World) (b ab mb eb : Nat) (X : Pg.Spc) (F : Nat → Prop) (L L0 : List Pg.Mp) (aq ak : Int) (au : Bool) (m : Pg.Mp) (E : Pg.Ev) (v : Value) (n : Nat) (Wt : List Int) : Prop where
  sp : Spd P W w b X F
  inv : Pg.Inv X L L0
  bx : Bxs w ab mb eb aq ak au m E
  own : w.ownsRow W.heap.size 3 1 v n (ints Wt)
  far : ∀ g, v.ownBlock = some g → g ≠ ab ∧ g ≠ mb ∧ g ≠ eb ∧ ¬ F g
  hi : W.heap.size ≤ ab
  ne : ab ≠ mb ∧ ab ≠ eb
  nf : ¬ F ab ∧ ¬ F mb ∧ ¬ F eb
  ln : Wt.length = n
section
variable {P : World → Nat → Pg.Spc → (Nat → Prop) → Prop} {W w w' : World} {b ab mb eb n : Nat} {X : Pg.Spc} {F : Nat → Prop} {L L0 : List Pg.Mp} {aq ak : Int} {au : Bool} {m : Pg.Mp} {E : Pg.Ev} {v : Value} {Wt : List Int}
theorem owns_grow {e : TypeId} {base : Nat} {xs : List Value} (h : w.ownsRow base e 1 v n xs) (hb : Below w.heap.size w w') : w'.ownsRow base e 1 v n xs := owns_of_block h (fun x hx => hb.block x (h.lt x hx).2)
theorem Dmd.grow (H : SpFace P) (h : Dmd P W w b ab mb eb X F L L0 aq ak au m E v n Wt) (hb : Below w.heap.size w w') : Dmd P W w' b ab mb eb X F L L0 aq ak au m E v n Wt :=
  ⟨h.sp.grow H hb, h.inv, h.bx.keep (G := fun _ => False) (But.of_below hb) id id id, owns_grow h.own hb, h.far, h.hi, h.ne, h.nf, h.ln⟩
/-- A row was written, that is none of these. -/
theorem Dmd.but (H : SpFace P) (h : Dmd P W w b ab mb eb X F L L0 aq ak au m E v n Wt) {G : Nat → Prop} (hb : But G w w') (hG : ∀ g, G g → W.heap.size ≤ g ∧ g ≠ ab ∧ g ≠ mb ∧ g ≠ eb ∧ ¬ F g) (hv : ∀ g, v.ownBlock = some g → ¬ G g) : Dmd P W w' b ab mb eb X F L L0 aq ak au m E v n Wt :=
  ⟨⟨H.keep h.sp.at' hb (fun k hk hg => (hG k hg).2.2.2.2 hk), h.sp.bel.trans (hb.below h.sp.bel.size (fun k hk => (hG k hk).1)), h.sp.hi⟩, h.inv, h.bx.keep hb (fun hg => absurd rfl (hG _ hg).2.1) (fun hg => absurd rfl (hG _ hg).2.2.1) (fun hg => absurd rfl (hG _ hg).2.2.2.1), owns_of_block h.own (fun x hx => hb.block x (h.own.lt x hx).2 (hv x hx)), h.far, h.hi, h.ne, h.nf, h.ln⟩
/-- The row has grown. -/
theorem Dmd.push (H : SpFace P) (h : Dmd P W w b ab mb eb X F L L0 aq ak au m E v n Wt) (hb : But (fun x => v.ownBlock = some x) w w') {g cap n' : Nat} {Wt' : List Int} (ho : w'.ownsRow W.heap.size 3 1 (.slice (some ⟨g, 0, none⟩) n' cap) n' (ints Wt')) (hg : v.ownBlock = some g ∨ w.heap.size ≤ g) (hl : Wt'.length = n') : Dmd P W w' b ab mb eb X F L L0 aq ak au m E (.slice (some ⟨g, 0, none⟩) n' cap) n' Wt' := by
  refine ⟨⟨H.keep h.sp.at' hb (fun k hk hg => (h.far k hg).2.2.2 hk), h.sp.bel.trans (hb.below h.sp.bel.size (fun k hk => (h.own.lt k hk).1)), h.sp.hi⟩, h.inv, h.bx.keep hb (fun hg => absurd rfl (h.far _ hg).1) (fun hg => absurd rfl (h.far _ hg).2.1) (fun hg => absurd rfl (h.far _ hg).2.2.1), ho, fun x hx => ?_, h.hi, h.ne, h.nf, hl⟩
  have ex : x = g := by simpa [Value.ownBlock] using hx.symm
  subst ex
  rcases hg with hg | hg
  · exact h.far x hg
  · have := h.bx.la
    have := h.bx.lm
    have := h.bx.le
    exact ⟨by omega, by omega, by omega, fun hf => by have := H.lt h.sp.at' hf; omega⟩
/-- Another row in its place. -/
theorem Dmd.other (h : Dmd P W w b ab mb eb X F L L0 aq ak au m E v n Wt) {v' : Value} {n' : Nat} {Wt' : List Int} (ho : w.ownsRow W.heap.size 3 1 v' n' (ints Wt')) (hf : ∀ g, v'.ownBlock = some g → g ≠ ab ∧ g ≠ mb ∧ g ≠ eb ∧ ¬ F g) (hl : Wt'.length = n') : Dmd P W w b ab mb eb X F L L0 aq ak au m E v' n' Wt' :=
  ⟨h.sp, h.inv, h.bx, ho, hf, h.hi, h.ne, h.nf, hl⟩
theorem Bxs.acc (h : Bxs w ab mb eb aq ak au m E) (h1 : ab ≠ mb) (h2 : ab ≠ eb) (aq' ak' : Int) (au' : Bool) (hw : w' = ((w.setCell ⟨ab, 0, none⟩ (.int .i64 aq')).setCell ⟨ab, 1, none⟩ (.int .i64 ak')).setCell ⟨ab, 2, none⟩ (.bool au')) : Bxs w' ab mb eb aq' ak' au' m E ∧ But (fun x => x = ab) w w' := by
  have hb : But (fun x => x = ab) w w' := by
    rw [hw]
    exact (((But.refl (fun x => x = ab) w).setCell (a := ⟨ab, 0, none⟩) (.inr rfl) _).setCell (a := ⟨ab, 1, none⟩) (.inr rfl) _).setCell (a := ⟨ab, 2, none⟩) (.inr rfl) _
  have km := hb.block mb h.lm (fun e => h1 e.symm)
  have ke := hb.block eb h.le (fun e => h2 e.symm)
  have k0 := h.a0
  have k1 := h.a1
  have k2 := h.a2
  have kf := h.af
  have c0 : w'.cell? ⟨ab, 0, none⟩ = some (.int .i64 aq') := by rw [hw]; simp [go_sem, k0]
  have c1 : w'.cell? ⟨ab, 1, none⟩ = some (.int .i64 ak') := by rw [hw]; simp [go_sem, k1]
  have c2 : w'.cell? ⟨ab, 2, none⟩ = some (.bool au') := by rw [hw]; simp [go_sem, k2]
  have cf : ∀ i, w'.frozen? ⟨ab, i, none⟩ = false := fun i => by rw [hw]; simp [go_sem, kf]
  clear hw
  exact ⟨⟨c0, c1, c2, cf, (World.cell?_of_block km).trans h.m0, (World.cell?_of_block km).trans h.m1, (World.cell?_of_block km).trans h.m2, (World.cell?_of_block km).trans h.m3, (World.cell?_of_block ke).trans h.e0, (World.cell?_of_block ke).trans h.e1, (World.cell?_of_block ke).trans h.e2⟩, hb⟩
/-- The access was written. -/
theorem Dmd.acc (H : SpFace P) (h : Dmd P W w b ab mb eb X F L L0 aq ak au m E v n Wt) (aq' ak' : Int) (au' : Bool) (hw : w' = ((w.setCell ⟨ab, 0, none⟩ (.int .i64 aq')).setCell ⟨ab, 1, none⟩ (.int .i64 ak')).setCell ⟨ab, 2, none⟩ (.bool au')) : Dmd P W w' b ab mb eb X F L L0 aq' ak' au' m E v n Wt := by
  obtain ⟨hx, hb⟩ := h.bx.acc h.ne.1 h.ne.2 aq' ak' au' hw
  exact ⟨⟨H.keep h.sp.at' hb (fun k hk e => h.nf.1 (e ▸ hk)), h.sp.bel.trans (hb.below h.sp.bel.size (fun k hk => by rw [hk]; exact h.hi)), h.sp.hi⟩, h.inv, hx, owns_of_block h.own (fun x hx => hb.block x (h.own.lt x hx).2 (fun e => (h.far x hx).1 e)), h.far, h.hi, h.ne, h.nf, h.ln⟩
end
end Go.Proofs.YtiojflaehjbcbaeGreat
