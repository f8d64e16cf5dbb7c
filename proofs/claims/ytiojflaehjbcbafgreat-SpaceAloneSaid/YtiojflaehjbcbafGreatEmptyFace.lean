/-
  SpaceEmpties, over a space's face: no frame is lost: whatever was done, behind unmaps of all that is mapped, looked after, every frame but the root is free.
-/
import Derived.Test.YtiojflaehjbcbafGreatDvFace
import Derived.Test.YtiojflaehjbcbafGreatFrameB
import Derived.Test.YtiojflaehjbcbafGreatTabN
import Derived.Test.YtiojflaehjbcbafGreatLooseT
import Derived.Deep.Quiet
import Derived.Test.YtiojflaehjbcbafGreatPlainSI
namespace Go.Proofs.YtiojflaehjbcbafGreat
open Go.RowKit Go.Sort
set_option linter.unusedVariables false
set_option linter.unusedSimpArgs false
set_option maxRecDepth 100000
attribute [local go_sem] Loose.gent

theorem greatSteps_any (ad : Option Addr) (len cap : Nat) (k : Int) (w : World) : Calls Tryz.prog 6 #[.slice ad len cap, .int .i64 k] w fun e w' => e = .returned (.bool (decide (k < (len : Int)))) ∧ w' = w := by
  go_enter Tryz.func6, Tryz.ntmps6
  go_wp2_with fail
  go_ret
  exact ⟨rfl, rfl⟩
def Bst.sx (x : Bst) : Pg.Sx := ⟨x.kind, x.core, x.m, x.q, x.k, x.u⟩
theorem tab_apart {T : List Int} (h : T.Nodup) {j : Nat} (hj : j < T.length) : decide (T.getD j 0 ∈ T.take j) = false := by
  simp only [decide_eq_false_iff_not]
  intro hm
  obtain ⟨i, hi, e⟩ := List.mem_iff_getElem.1 hm
  rw [List.length_take] at hi
  rw [List.getElem_take] at e
  have : T.getD j 0 = T[j] := by simp [List.getD, hj]
  rw [this] at e
  have := (List.getElem_inj h).1 e
  omega

section
variable {P : World → Nat → Pg.Spc → (Nat → Prop) → Prop}
/-- A space that was made behind W, and what holds of it. -/
structure Sps (P : World → Nat → Pg.Spc → (Nat → Prop) → Prop) (W w : World) (b : Nat) (nn : Nat) : Prop where
  ex : ∃ X F L L0, Spd P W w b X F ∧ Pg.Inv X L L0 ∧ X.S.n = nn
end
end Go.Proofs.YtiojflaehjbcbafGreat

namespace Go.Proofs.YtiojflaehjbcbafGreat
open Go.RowKit Go.Sort
set_option linter.unusedVariables false
set_option linter.unusedSimpArgs false
set_option maxRecDepth 100000
attribute [local go_sem] Loose.gent


section
variable {P : World → Nat → Pg.Spc → (Nat → Prop) → Prop}
/-- A space that was made behind W, with so many cores, and what holds of it. -/
structure Spc' (P : World → Nat → Pg.Spc → (Nat → Prop) → Prop) (W w : World) (b nn cn : Nat) : Prop where
  ex : ∃ X F L L0, Spd P W w b X F ∧ Pg.Inv X L L0 ∧ X.S.n = nn ∧ X.C.length = cn
/-- The cores ahead of k have looked after all. -/
structure Sak (P : World → Nat → Pg.Spc → (Nat → Prop) → Prop) (W w : World) (b nn cn k : Nat) : Prop where
  ex : ∃ X F L L0, Spd P W w b X F ∧ Pg.Inv X L L0 ∧ X.S.n = nn ∧ X.C.length = cn ∧ ∀ j, j < k → X.W.getD j false = false
/-- A row of mappings that lies apart. -/
structure Row (w : World) (ad : Option Addr) (A : List Pg.Mp) (F : Nat → Prop) : Prop where
  at' : MapsAt w ad A
  nf : ∀ g, ad = some ⟨g, 0, none⟩ → ¬ F g
theorem Row.step {w w' : World} {ad : Option Addr} {A : List Pg.Mp} {F F' : Nat → Prop} (h : Row w ad A F) (hb : But F w w') (hF : ∀ k, F' k → F k ∨ w.heap.size ≤ k) (ha : 0 < A.length) : Row w' ad A F' := by
  obtain ⟨g, e, hl, _⟩ := h.at' 0 ha
  refine ⟨fun j hj => ?_, fun g' e' hf => ?_⟩
  · obtain ⟨g', e', hl', h0, h1, h2, h3⟩ := h.at' j hj
    have hn := h.nf g' e'
    exact ⟨g', e', Nat.lt_of_lt_of_le hl' hb.size, (hb.cell (a := ⟨g', _, none⟩) hl' hn).trans h0, (hb.cell (a := ⟨g', _, none⟩) hl' hn).trans h1, (hb.cell (a := ⟨g', _, none⟩) hl' hn).trans h2, (hb.cell (a := ⟨g', _, none⟩) hl' hn).trans h3⟩
  · have : g' = g := by rw [e] at e'; injection e' with e'; injection e' with e'; exact e'.symm
    subst this
    rcases hF g' hf with h' | h'
    · exact h.nf g' e h'
    · omega
theorem Row.grow {w w' : World} {ad : Option Addr} {A : List Pg.Mp} {F : Nat → Prop} (h : Row w ad A F) (hb : Below w.heap.size w w') : Row w' ad A F := ⟨h.at'.below hb, h.nf⟩
/-- No change is begun; the mappings L are left. -/
structure Sun (P : World → Nat → Pg.Spc → (Nat → Prop) → Prop) (W w : World) (b nn cn : Nat) (ad : Option Addr) (A L : List Pg.Mp) : Prop where
  ex : ∃ X F L0, Spd P W w b X F ∧ Pg.Inv X L L0 ∧ X.S.n = nn ∧ X.C.length = cn ∧ X.busy = false ∧ Row w ad A F
/-- The cores ahead of k have looked after the change, those from k on have not. -/
structure Sgo (P : World → Nat → Pg.Spc → (Nat → Prop) → Prop) (W w : World) (b nn cn : Nat) (ad : Option Addr) (A L : List Pg.Mp) (k : Nat) : Prop where
  ex : ∃ X F L0, Spd P W w b X F ∧ Pg.Inv X L L0 ∧ X.S.n = nn ∧ X.C.length = cn ∧ (∀ j, j < k → X.W.getD j false = false) ∧ (∀ j, k ≤ j → j < cn → X.W.getD j false = true) ∧ Row w ad A F
theorem zeroFits : Pg.fits 0 := by unfold Pg.fits; omega
set_option maxHeartbeats 4000000 in
theorem spaceEmpties_face (H : SpFace P) (W : World) (co n : Int) (ad : Option Addr) (len cap : Nat) (q : Nat → Bst)
    (hq : ∀ j, j < len → (∃ b o, ad = some ⟨b, o, none⟩ ∧ b < W.heap.size ∧ BstAt W b (o + j * 9) (q j)) ∧ BstFits (q j)) :
    Calls Tryz.prog 4 #[.int .i64 co, .int .i64 n, .slice ad len cap] W fun e W' => e = .returned (.bool true) ∧ Below W.heap.size W W' := by
  have HQ : Hid _ := hq
  clear hq
  by_cases hl : 300 < len
  · have d1 : decide ((300 : Int) < (len : Int)) = true := by simp; omega
    go_enter Tryz.func4, Tryz.ntmps4
    go_wp2_with fail
    refine (spaceBegun_any H _).mono ?_
    rintro e w1 ⟨rfl, hb1⟩
    have HB : Hid _ := hb1
    clear hb1
    go_wp2_with fail
    refine (greatSteps_any ad len cap 300 _).mono ?_
    rintro e w2 ⟨rfl, rfl⟩
    go_wp2_with fail
    go_ret
    exact ⟨rfl, HB.out⟩
  · have d1 : decide ((300 : Int) < (len : Int)) = false := by simp; omega
    by_cases hbad : co < 1 ∨ 4 < co ∨ n < 1 ∨ 128 < n
    · go_enter Tryz.func4, Tryz.ntmps4
      go_wp2_with fail
      refine (spaceBegun_any H _).mono ?_
      rintro e w1 ⟨rfl, hb1⟩
      have HB : Hid _ := hb1
      clear hb1
      go_wp2_with fail
      refine (greatSteps_any ad len cap 300 _).mono ?_
      rintro e w2 ⟨rfl, rfl⟩
      go_wp2_with fail
      refine (H.bad co n _ hbad).mono ?_
      rintro e w3 ⟨rfl, hb3⟩
      have HB3 : Hid _ := bthen HB.out hb3
      clear hb3
      go_wp2_with fail
      go_ret
      exact ⟨rfl, bthen HB3.out (balloc (brefl _) _)⟩
    · obtain ⟨cn, rfl⟩ := Int.eq_ofNat_of_zero_le (show 0 ≤ co by omega)
      obtain ⟨nn, rfl⟩ := Int.eq_ofNat_of_zero_le (show 0 ≤ n by omega)
      have HNW := fun w => H.new cn nn w (by omega) (by omega) (by omega) (by omega)
      have HIN : Hid _ := Pg.inv_new (cores := cn) (n := nn) (by omega) (by omega) (by omega)
      have hnn : nn ≤ 128 := by omega
      go_enter Tryz.func4, Tryz.ntmps4
      go_wp2_with fail
      refine (spaceBegun_any H _).mono ?_
      rintro e w1 ⟨rfl, hb1⟩
      have HB : Hid _ := hb1
      clear hb1
      go_wp2_with fail
      refine (greatSteps_any ad len cap 300 _).mono ?_
      rintro e w2 ⟨rfl, rfl⟩
      go_wp2_with fail
      refine (HNW _).mono ?_
      rintro e w3 ⟨b, F, rfl, h3, hb3, hF3⟩
      have S3 : Spd P W w3 b (Pg.Spc.new cn nn) F := ⟨h3, bthen HB.out hb3, fun k hk => Nat.le_trans HB.out.size (hF3 k hk)⟩
      have hsn : (Pg.Spc.new cn nn).S.n = nn := by
        show (Pg.Fs.new nn).take.n = nn
        rw [Pg.takes_n]
        rfl
      obtain ⟨W4, hW4⟩ : ∃ W4, W4 = w3.alloc (.cells #[.int .i64 0, .int .i64 0] 27) := ⟨_, rfl⟩
      have hb4 : Below w3.heap.size w3 W4 := by rw [hW4]; exact balloc (brefl _) _
      have S4 : Hid (Spc' P W W4 b nn cn) := ⟨_, _, _, _, S3.grow H hb4, HIN.out, hsn, by simp [Pg.Spc.new]⟩
      have y0 : W4.cell? ⟨w3.heap.size, 0, none⟩ = some (.int .i64 0) := by rw [hW4]; simp [go_sem]
      clear h3 hb3 hF3 S3 hsn HB HNW HIN
      go_upto_region 6 with fail
      rw [← hW4]
      clear hW4 hb4
      go_wp2_with fail
      clear y0
      go_loopw [9] (fun i wr => ∃ k : Nat, k ≤ len ∧ i = .int .i64 k ∧ Hid (Spc' P W wr b nn cn)) (fun i _ => len - (intOf i).toNat)
      case atStart => exact ⟨0, by omega, rfl, S4⟩
      case round =>
        obtain ⟨k, hk, rfl, HR⟩ := hrel
        clear S4
        by_cases hlt : k < len
        · obtain ⟨X, F, L, L0, S, I, hsn, hcn⟩ := HR.out.ex
          obtain ⟨⟨xb, xo, rfl, hxl, hx⟩, hfit⟩ := HQ.out k hlt
          have i0 : (0 : Int) ≤ (k : Int) := by omega
          have i1 : (k : Int) < (len : Int) := by omega
          generalize q k = x at *
          have HD := H.step x.sx wr hfit I S.at'
          have I' := Pg.inv_step I x.sx
          have hz := Pg.go_sizes I x.sx
          have S1 : Hid _ := S
          have HI : Hid _ := I'
          have HSN : Hid ((X.goN x.sx).S.n = nn) := hz.1.trans hsn
          have HCN : Hid ((X.goN x.sx).C.length = cn) := hz.2.trans hcn
          clear HR S I I' hz hsn hcn hfit
          generalize hE : X.goE x.sx = E at *
          generalize hN : X.goN x.sx = X' at *
          clear hE hN
          obtain ⟨kd, cr, ⟨mp, ms, mf, mr⟩, xq, xk, xu⟩ := x
          obtain ⟨ec, en, ea, ef, er, eb⟩ := E
          obtain ⟨x0, x1, x2, x3, x4, x5, x6, x7, x8⟩ := hx
          have y0 := (S1.out.bel.cell (p := ⟨xb, xo + k * 9, none⟩) hxl).trans x0
          have y1 := (S1.out.bel.cell (p := ⟨xb, xo + k * 9 + 1, none⟩) hxl).trans x1
          have y2 := (S1.out.bel.cell (p := ⟨xb, xo + k * 9 + 2, none⟩) hxl).trans x2
          have y3 := (S1.out.bel.cell (p := ⟨xb, xo + k * 9 + 3, none⟩) hxl).trans x3
          have y4 := (S1.out.bel.cell (p := ⟨xb, xo + k * 9 + 4, none⟩) hxl).trans x4
          have y5 := (S1.out.bel.cell (p := ⟨xb, xo + k * 9 + 5, none⟩) hxl).trans x5
          have y6 := (S1.out.bel.cell (p := ⟨xb, xo + k * 9 + 6, none⟩) hxl).trans x6
          have y7 := (S1.out.bel.cell (p := ⟨xb, xo + k * 9 + 7, none⟩) hxl).trans x7
          have y8 := (S1.out.bel.cell (p := ⟨xb, xo + k * 9 + 8, none⟩) hxl).trans x8
          simp only [Bst.sx, Pg.Sx.val, Pg.Ev.val] at HD y0 y1 y2 y3 y4 y5 y6 y7 y8
          clear x0 x1 x2 x3 x4 x5 x6 x7 x8
          go_wp2_with fail
          refine HD.mono ?_
          rintro e w4 ⟨rfl, F4, h4, hb4, hF4⟩
          have S4 : Hid (Spc' P W w4 b nn cn) := ⟨_, _, _, _, S1.out.step h4 hb4 hF4, HI.out, HSN.out, HCN.out⟩
          clear h4 hb4 hF4 y0 y1 y2 y3 y4 y5 y6 y7 y8 HD S1 HI HSN HCN
          go_wp2_with fail
          go_roundw
          case rel => exact ⟨k + 1, by omega, by go_num, S4⟩
          case measure => simp [intOf]; omega
        · have i1 : ¬ (k : Int) < (len : Int) := by omega
          have SA : Hid (Sak P W wr b nn cn 0) := by
            obtain ⟨X, F, L, L0, S, I, hsn, hcn⟩ := HR.out.ex
            exact ⟨_, _, _, _, S, I, hsn, hcn, fun j hj => by omega⟩
          clear HR HQ
          go_wp2_with fail
          go_loopw [10] (fun i wq => ∃ t : Nat, t ≤ cn ∧ i = .int .i64 t ∧ Hid (Sak P W wq b nn cn t)) (fun i _ => cn - (intOf i).toNat)
          case atStart => exact ⟨0, by omega, rfl, SA⟩
          case round =>
            obtain ⟨t, ht, rfl, HA⟩ := hrel
            clear SA
            by_cases hlt2 : t < cn
            · have t1 : (t : Int) < (cn : Int) := by omega
              obtain ⟨X, F, L, L0, S, I, hsn, hcn, hw⟩ := HA.out.ex
              have hk : t < X.C.length := by omega
              have HD := H.step (.ack t) wr ⟨zeroFits, zeroFits, zeroFits, zeroFits, zeroFits, zeroFits⟩ I S.at'
              have hz := Pg.go_sizes I (.ack t)
              have SN : Hid (∀ w' F', P w' b (X.goN (.ack t)) F' → But F wr w' → (∀ k, F' k → F k ∨ wr.heap.size ≤ k) → Sak P W w' b nn cn (t + 1)) := fun w' F' h hb hF => ⟨_, _, _, _, S.step h hb hF, Pg.inv_ack I t, hz.1.trans hsn, hz.2.trans hcn, fun j hj => by
                rw [Pg.ack_waits I hk]
                split
                · rfl
                · exact hw j (by omega)⟩
              clear HA S I hz hsn hcn hw hk
              simp only [Pg.Sx.ack, Pg.Sx.val, Pg.Mp.zz] at HD
              go_wp2_with fail
              refine HD.mono ?_
              rintro e w4 ⟨rfl, F4, h4, hb4, hF4⟩
              have S4 : Hid _ := SN.out w4 F4 h4 hb4 hF4
              clear h4 hb4 hF4 HD SN
              go_wp2_with fail
              go_roundw
              case rel => exact ⟨t + 1, by omega, by go_num, S4⟩
              case measure => simp [intOf]; omega
            · have t1 : ¬ (t : Int) < (cn : Int) := by omega
              obtain ⟨X, F, L, L0, S, I, hsn, hcn, hw⟩ := HA.out.ex
              have hbz := I.idle (fun j hj => hw j (by omega))
              have HL := H.list wr I S.at'
              rw [I.maps] at HL
              have HLN : L.length ≤ 4096 := (Pg.rep_good I.bas.rep).len
              have HGD : Hid (Pg.Good L) := Pg.rep_good I.bas.rep
              have SN : Hid (∀ w' ad, MapsAt w' ad L → Below wr.heap.size wr w' → (∀ g, ad = some ⟨g, 0, none⟩ → wr.heap.size ≤ g) → Sun P W w' b nn cn ad L L) := fun w' ad hm hb hg => ⟨_, _, _, S.grow H hb, I, hsn, hcn, hbz, hm, fun g e hf => by have := H.lt S.at' hf; have := hg g e; omega⟩
              clear HA S I hsn hcn hw hbz
              go_wp2_with fail
              refine HL.mono ?_
              rintro e w5 ⟨ad5, cap5, rfl, hm5, hb5, hg5⟩
              have SU : Hid (Sun P W w5 b nn cn ad5 L (L.drop 0)) := SN.out w5 ad5 hm5 hb5 hg5
              clear hm5 hb5 hg5 HL SN
              go_wp2_with fail
              go_loopw [12, 13, 14, 15] (fun i _ _ _ wq => ∃ t : Nat, t ≤ L.length ∧ i = .int .i64 t ∧ Hid (Sun P W wq b nn cn ad5 L (L.drop t))) (fun i _ _ _ _ => L.length - (intOf i).toNat)
              case atStart => exact ⟨0, by omega, rfl, SU⟩
              case round =>
                obtain ⟨s, hs, rfl, HU⟩ := hrel
                clear SU
                have s0 : (0 : Int) ≤ (s : Int) := by omega
                by_cases hlt3 : s < L.length
                · have s1 : (s : Int) < (L.length : Int) := by omega
                  obtain ⟨X, F, L0, S, I, hsn, hcn, hbz, hrow⟩ := HU.out.ex
                  obtain ⟨g, rfl, hgl, hm0, hm1, hm2, hm3⟩ := hrow.at' s hlt3
                  have hdr : L.drop s = L.getD s .zz :: L.drop (s + 1) := by
                    rw [Pg.mp_at hlt3]
                    exact List.drop_eq_getElem_cons hlt3
                  rw [hdr] at I
                  obtain ⟨u1, u2, u3⟩ := Pg.un_first I hbz
                  have hpf : Pg.fits (L.getD s .zz).p := (Pg.ok_fits (HGD.out.ok _ (by rw [Pg.mp_at hlt3]; exact List.getElem_mem _))).2.2.1
                  have HD := H.step (.un (L.getD s .zz).p) wr ⟨hpf, zeroFits, zeroFits, zeroFits, zeroFits, zeroFits⟩ I S.at'
                  rw [u1] at HD
                  have hz := Pg.go_sizes I (.un (L.getD s .zz).p)
                  have SN : Hid (∀ w' F', P w' b (X.goN (.un (L.getD s .zz).p)) F' → But F wr w' → (∀ k, F' k → F k ∨ wr.heap.size ≤ k) → Sgo P W w' b nn cn (some ⟨g, 0, none⟩) L (L.drop (s + 1)) 0) := fun w' F' h hb hF => ⟨_, _, _, S.step h hb hF, u2, hz.1.trans hsn, hz.2.trans hcn, fun j hj => by omega, fun j _ hj => u3 j (by omega), hrow.step hb hF (by omega)⟩
                  clear HU S I hz hsn hcn u1 u2 u3 hbz hrow hdr hpf
                  generalize (L.getD s .zz).p = pp at *
                  simp only [Pg.Sx.un, Pg.Sx.val, Pg.Ev.val, Pg.Ev.code] at HD
                  go_wp2_with fail
                  refine HD.mono ?_
                  rintro e w6 ⟨rfl, F6, h6, hb6, hF6⟩
                  have S6 := SN.out w6 F6 h6 hb6 hF6
                  obtain ⟨W7, hW7⟩ : ∃ W7, W7 = w6.alloc (.cells #[.int .i64 0, .bool false, .int .i64 0, .int .i64 0, .int .i64 0, .bool false] 39) := ⟨_, rfl⟩
                  have hb7 : Below w6.heap.size w6 W7 := by rw [hW7]; exact balloc (brefl _) _
                  have S7 : Hid (Sgo P W W7 b nn cn (some ⟨g, 0, none⟩) L (L.drop (s + 1)) 0) := by
                    obtain ⟨X, F, L0, S, I, a1, a2, a3, a4, a5⟩ := S6.ex
                    exact ⟨_, _, _, S.grow H hb7, I, a1, a2, a3, a4, a5.grow hb7⟩
                  obtain ⟨⟨z0, z1, z2, z3, z4, z5⟩, zf⟩ := row6a (show W7.heap[w6.heap.size]? = some (.cells #[.int .i64 0, .bool false, .int .i64 0, .int .i64 0, .int .i64 0, .bool false] 39 (0, 0)) by rw [hW7]; exact heap_alloc_new _ _)
                  clear h6 hb6 hF6 S6 hb7 HD SN hm0 hm1 hm2 hm3 hgl
                  go_upto_region 21 with fail
                  rw [← hW7]
                  clear hW7
                  go_wp2_with fail
                  clear z0 z1 z2 z3 z4 z5 zf
                  go_loopw [14, 15] (fun i _ wp => ∃ t : Nat, t ≤ cn ∧ i = .int .i64 t ∧ Hid (Sgo P W wp b nn cn (some ⟨g, 0, none⟩) L (L.drop (s + 1)) t)) (fun i _ _ => cn - (intOf i).toNat)
                  case atStart => exact ⟨0, by omega, rfl, S7⟩
                  case round =>
                    obtain ⟨t, ht, rfl, HG⟩ := hrel
                    clear S7
                    by_cases hlt4 : t < cn
                    · have t1 : (t : Int) < (cn : Int) := by omega
                      obtain ⟨X, F, L0, S, I, hsn, hcn, hlo, hhi, hrow⟩ := HG.out.ex
                      have hk : t < X.C.length := by omega
                      have HD := H.step (.ack t) wr ⟨zeroFits, zeroFits, zeroFits, zeroFits, zeroFits, zeroFits⟩ I S.at'
                      rw [Pg.ack_event I hk hlo (fun j h1 h2 => hhi j h1 (by omega)), hcn] at HD
                      have hz := Pg.go_sizes I (.ack t)
                      have SN : Hid (∀ w' F', P w' b (X.goN (.ack t)) F' → But F wr w' → (∀ k, F' k → F k ∨ wr.heap.size ≤ k) → Sgo P W w' b nn cn (some ⟨g, 0, none⟩) L (L.drop (s + 1)) (t + 1)) := fun w' F' h hb hF => ⟨_, _, _, S.step h hb hF, Pg.inv_ack I t, hz.1.trans hsn, hz.2.trans hcn, fun j hj => by
                        rw [Pg.ack_waits I hk]
                        split
                        · rfl
                        · exact hlo j (by omega), fun j h1 h2 => by
                        rw [Pg.ack_waits I hk, if_neg (by omega)]
                        exact hhi j (by omega) h2, hrow.step hb hF (by omega)⟩
                      clear HG S I hz hsn hcn hlo hhi hrow hk
                      have v1 : IntKind.i64.wrap ((cn : Int) - 1) = (cn : Int) - 1 := wrap_i64_in (by omega) (by omega)
                      simp only [Pg.Sx.ack, Pg.Sx.val, Pg.Mp.zz, Pg.Ev.val] at HD
                      cases hlast : decide (t + 1 = cn)
                      · have hne : ¬ t + 1 = cn := by simpa using hlast
                        have v2 : ((t : Int) == (cn : Int) - 1) = false := by rw [beq_eq_false_iff_ne]; omega
                        rw [hlast] at HD
                        clear hlast
                        go_wp2_with fail
                        refine HD.mono ?_
                        rintro e w8 ⟨rfl, F8, h8, hb8, hF8⟩
                        have S8 := SN.out w8 F8 h8 hb8 hF8
                        obtain ⟨W9, hW9⟩ : ∃ W9, W9 = w8.alloc (.cells #[.int .i64 0, .bool false, .int .i64 0, .int .i64 0, .int .i64 0, .bool false] 39) := ⟨_, rfl⟩
                        have hb9 : Below w8.heap.size w8 W9 := by rw [hW9]; exact balloc (brefl _) _
                        have S9 : Hid (Sgo P W W9 b nn cn (some ⟨g, 0, none⟩) L (L.drop (s + 1)) (t + 1)) := by
                          obtain ⟨X, F, L0, S, I, a1, a2, a3, a4, a5⟩ := S8.ex
                          exact ⟨_, _, _, S.grow H hb9, I, a1, a2, a3, a4, a5.grow hb9⟩
                        obtain ⟨⟨z0, z1, z2, z3, z4, z5⟩, zf⟩ := row6a (show W9.heap[w8.heap.size]? = some (.cells #[.int .i64 0, .bool false, .int .i64 0, .int .i64 0, .int .i64 0, .bool false] 39 (0, 0)) by rw [hW9]; exact heap_alloc_new _ _)
                        clear h8 hb8 hF8 S8 hb9 HD SN
                        go_upto_region 27 with fail
                        rw [← hW9]
                        clear hW9
                        go_wp2_with fail
                        go_roundw
                        case rel => exact ⟨t + 1, by omega, by go_num, S9⟩
                        case measure => simp [intOf]; omega
                      · have hne : t + 1 = cn := by simpa using hlast
                        have v2 : ((t : Int) == (cn : Int) - 1) = true := by rw [beq_iff_eq]; omega
                        rw [hlast] at HD
                        clear hlast hne
                        go_wp2_with fail
                        refine HD.mono ?_
                        rintro e w8 ⟨rfl, F8, h8, hb8, hF8⟩
                        have S8 := SN.out w8 F8 h8 hb8 hF8
                        obtain ⟨W9, hW9⟩ : ∃ W9, W9 = w8.alloc (.cells #[.int .i64 0, .bool false, .int .i64 0, .int .i64 0, .int .i64 0, .bool true] 39) := ⟨_, rfl⟩
                        have hb9 : Below w8.heap.size w8 W9 := by rw [hW9]; exact balloc (brefl _) _
                        have S9 : Hid (Sgo P W W9 b nn cn (some ⟨g, 0, none⟩) L (L.drop (s + 1)) (t + 1)) := by
                          obtain ⟨X, F, L0, S, I, a1, a2, a3, a4, a5⟩ := S8.ex
                          exact ⟨_, _, _, S.grow H hb9, I, a1, a2, a3, a4, a5.grow hb9⟩
                        obtain ⟨⟨z0, z1, z2, z3, z4, z5⟩, zf⟩ := row6a (show W9.heap[w8.heap.size]? = some (.cells #[.int .i64 0, .bool false, .int .i64 0, .int .i64 0, .int .i64 0, .bool true] 39 (0, 0)) by rw [hW9]; exact heap_alloc_new _ _)
                        clear h8 hb8 hF8 S8 hb9 HD SN
                        go_upto_region 27 with fail
                        rw [← hW9]
                        clear hW9
                        go_wp2_with fail
                        go_roundw
                        case rel => exact ⟨t + 1, by omega, by go_num, S9⟩
                        case measure => simp [intOf]; omega
                    · have t1 : ¬ (t : Int) < (cn : Int) := by omega
                      have SE : Hid (Sun P W wr b nn cn (some ⟨g, 0, none⟩) L (L.drop (s + 1))) := by
                        obtain ⟨X, F, L0, S, I, a1, a2, a3, a4, a5⟩ := HG.out.ex
                        exact ⟨_, _, _, S, I, a1, a2, I.idle (fun j hj => a3 j (by omega)), a5⟩
                      clear HG
                      go_wp2_with fail
                      go_roundw
                      case rel => exact ⟨s + 1, by omega, by go_num, SE⟩
                      case measure => simp [intOf]; omega
                · have s1 : ¬ (s : Int) < (L.length : Int) := by omega
                  have es : s = L.length := by omega
                  obtain ⟨X, F, L0, S, I, hsn, hcn, hbz, hrow⟩ := HU.out.ex
                  rw [es, List.drop_length] at I
                  obtain ⟨f1, f2⟩ := Pg.inv_empty I hbz
                  have HF := fun w' (h : P w' b X F) => H.free w' h
                  have HT := fun w' (h : P w' b X F) => H.tables w' I h
                  have HB := fun w' (h : P w' b X F) => H.busy w' h
                  rw [f1, hsn] at HF
                  rw [f2] at HT
                  rw [hbz] at HB
                  have S1 : Hid _ := S
                  have v1 : IntKind.i64.wrap ((nn : Int) - 1) = (nn : Int) - 1 := wrap_i64_in (by omega) (by omega)
                  clear HU S I hsn hcn hbz hrow f1 f2
                  go_wp2_with fail
                  refine (HF _ S1.out.at').mono ?_
                  rintro e w6 ⟨rfl, hb6⟩
                  have S6 : Hid _ := S1.out.grow H hb6
                  clear hb6 HF S1
                  go_wp2_with fail
                  refine (HT _ S6.out.at').mono ?_
                  rintro e w7 ⟨ad7, cap7, rfl, _, _, hb7⟩
                  have S7 : Hid _ := S6.out.grow H hb7
                  clear hb7 HT S6
                  go_wp2_with fail
                  refine (HB _ S7.out.at').mono ?_
                  rintro e w8 ⟨rfl, hb8⟩
                  have HBL : Hid _ := (S7.out.grow H hb8).bel
                  clear hb8 HB S7
                  go_wp2_with fail
                  go_ret
                  exact ⟨rfl, HBL.out⟩
end
end Go.Proofs.YtiojflaehjbcbafGreat
