/-
  TO WATCH CHANGES NOTHING: WatchSame is proved: of whatever steps, a Watch's step comes to what a Space's comes to of which the same was asked, and both list the same and have as many frames free; a step that can't be changes nothing that is told.
  Conditions: none.
-/
import Derived.Test.YtjdiaebgidgmaafGreatDvFace
import Derived.Test.YtjdiaebgidgmaafGreatFrameB
import Derived.Test.YtjdiaebgidgmaafGreatTabN
import Derived.Test.YtjdiaebgidgmaafGreatLooseT
import Derived.Deep.Quiet
import Derived.Test.YtjdiaebgidgmaafGreatWtH
import Derived.Test.YtjdiaebgidgmaafGreatWalkI
namespace Go.Proofs.YtjdiaebgidgmaafGreat
open Go.RowKit Go.Sort
set_option linter.unusedVariables false
set_option linter.unusedSimpArgs false
set_option maxRecDepth 100000
attribute [local go_sem] Loose.gent

theorem greatSteps_any (ad : Option Addr) (len cap : Nat) (k : Int) (w : World) : Calls Tryz.prog 10 #[.slice ad len cap, .int .i64 k] w fun e w' => e = .returned (.bool (decide (k < (len : Int)))) ∧ w' = w := by
  go_enter Tryz.func10, Tryz.ntmps10
  go_wp2_with fail
  go_ret
  exact ⟨rfl, rfl⟩
def Bst.sx (x : Bst) : Pg.Sx := ⟨x.kind, x.core, x.m, x.q, x.k, x.u⟩
section
variable {P : World → Nat → Pg.Spc → (Nat → Prop) → Prop}
end
end Go.Proofs.YtjdiaebgidgmaafGreat

namespace Go.Proofs.YtjdiaebgidgmaafGreat
open Go.RowKit Go.Sort
set_option linter.unusedVariables false
set_option linter.unusedSimpArgs false
set_option maxRecDepth 100000
attribute [local go_sem] Loose.gent

namespace Pg
def bgW : Sx := ⟨1, 0, ⟨5, 0, 9, 0⟩, 0, 0, false⟩
theorem bw_map : (Spc.new 1 4).goE bgW = ⟨0, false, 0, 0, 0, true⟩ := by kernel_rfl
theorem bw_chg : (Spc.new 1 4).chg bgW = 1 := by kernel_rfl
theorem bw_maps : ((Spc.new 1 4).goN bgW).maps.length = 1 := by kernel_rfl
end Pg
set_option maxHeartbeats 2000000 in
theorem watchBegun_any (w : World) : Calls Tryz.prog 19 #[] w fun e w' => e = .returned (.bool true) ∧ Below w.heap.size w w' := by
  have HN := wtNew_any 1 4 w (by decide) (by decide) (by decide) (by decide)
  simp only [show ((1 : Nat) : Int) = 1 from rfl, show ((4 : Nat) : Int) = 4 from rfl] at HN
  have f0 : Pg.fits 0 := by unfold Pg.fits; omega
  have f5 : Pg.fits 5 := by unfold Pg.fits; omega
  have f9 : Pg.fits 9 := by unfold Pg.fits; omega
  have q2 := fun w' b F (h : WtAt w' b (Pg.Spc.new 1 4) [] [] 0 F) => wtDo_any Pg.bgW ⟨f5, f0, f9, f0, f0, f0⟩ w' h (by omega)
  rw [Pg.bw_map, Pg.bw_chg] at q2
  have q7 := fun w' b F (h : DvAt w' b ((Pg.Spc.new 1 4).goN Pg.bgW) F) => dvLst_any h
  rw [Pg.bw_maps] at q7
  generalize (Pg.Spc.new 1 4).goN Pg.bgW = X2 at *
  generalize (Pg.Spc.new 1 4).nxL [] Pg.bgW = L2 at *
  generalize (Pg.Spc.new 1 4).nxP [] [] Pg.bgW = P2 at *
  generalize Pg.Spc.new 1 4 = X1 at *
  simp only [Pg.Sx.val, Pg.bgW, Pg.Ev.val] at q2
  go_enter Tryz.func19, Tryz.ntmps19
  go_wp2_with fail
  refine HN.mono ?_
  rintro e w1 ⟨b, F, rfl, h1, hb1, hF1⟩
  obtain ⟨W2, hW2⟩ : ∃ W2, W2 = w1.alloc (.cells #[.int .i64 0, .int .i64 0] 27) := ⟨_, rfl⟩
  have hb2 : Below w1.heap.size w1 W2 := by rw [hW2]; exact balloc (brefl _) _
  have y0 : W2.cell? ⟨w1.heap.size, 0, none⟩ = some (.int .i64 0) := by rw [hW2]; simp [go_sem]
  have T2 := q2 W2 b F (h1.grow hb2)
  have HB2 : Hid (Below w.heap.size w W2) := bthen hb1 hb2
  have HF2 : Hid (∀ k, F k → w.heap.size ≤ k) := hF1
  clear q2 HN h1 hb1 hF1 hb2
  go_upto_region 2 with fail
  rw [← hW2]
  clear hW2
  go_wp2_with fail
  refine T2.mono ?_
  rintro e w3 ⟨rfl, F3, h3, hb3, hF3⟩
  have HB3 : Hid (Below w.heap.size w w3) := HB2.out.trans (hb3.below HB2.out.size HF2.out)
  obtain ⟨W4, hW4⟩ : ∃ W4, W4 = (w3.alloc (.cells #[.int .i64 0, .bool false, .int .i64 0, .int .i64 0, .int .i64 0, .bool true] 39)).alloc (.cells #[.int .i64 0, .int .i64 0] 27) := ⟨_, rfl⟩
  have hb4 : Below w3.heap.size w3 W4 := by rw [hW4]; exact balloc (balloc (brefl _) _) _
  have e5 : W4.cell? ⟨w3.heap.size, 5, none⟩ = some (.bool true) := by rw [hW4]; simp [go_sem]
  have f0' : W4.cell? ⟨w3.heap.size + 1, 0, none⟩ = some (.int .i64 0) := by rw [hW4]; simp [go_sem]
  have h4 := h3.grow hb4
  obtain ⟨sp, Fs, c0, s4⟩ := h4.space
  have HT := wtTime_any W4 h4
  have H4 : Hid _ := h4
  have HB4 : Hid (Below w.heap.size w W4) := bthen HB3.out hb4
  clear T2 h3 hb3 hF3 HB3 h4 y0
  go_upto_region 5 with fail
  rw [← hW4]
  clear hW4 hb4
  go_wp2_with fail
  refine HT.mono ?_
  rintro e w5 ⟨rfl, hb5⟩
  have c0 := cell_later hb5 c0
  have S5 := q7 w5 sp Fs (devFace.grow s4 hb5)
  have HB5 : Hid (Below w.heap.size w w5) := bthen HB4.out hb5
  clear hb5 q7 HT s4
  go_wp2_with fail
  refine S5.mono ?_
  rintro e w6 ⟨ad, cap, rfl, _, hb6⟩
  have HB6 : Hid _ := bthen HB5.out hb6
  clear hb6 S5
  go_wp2_with fail
  go_ret
  exact ⟨rfl, HB6.out⟩

/-- A watch of the space X and a space Y, made behind the world w0. -/
structure Wsm (w0 w : World) (b c : Nat) (X : Pg.Spc) (L L0 : List Pg.Mp) (ti : Int) (F : Nat → Prop) (Y : Pg.Spc) (G : Nat → Prop) : Prop where
  wt : WtAt w b X L L0 ti F
  sp : DvAt w c Y G
  ap : ∀ k, F k → ¬ G k
  bel : Below w0.heap.size w0 w
  hi : ∀ k, F k ∨ G k → w0.heap.size ≤ k
namespace Wsm
variable {w0 w w' : World} {b c : Nat} {X X' Y Y' : Pg.Spc} {L L0 L' L0' : List Pg.Mp} {ti ti' : Int} {F F' G G' : Nat → Prop}
theorem grow (h : Wsm w0 w b c X L L0 ti F Y G) (hb : Below w.heap.size w w') : Wsm w0 w' b c X L L0 ti F Y G := ⟨h.wt.grow hb, devFace.grow h.sp hb, h.ap, bthen h.bel hb, h.hi⟩
theorem stepW (h : Wsm w0 w b c X L L0 ti F Y G) (hw : WtAt w' b X' L' L0' ti' F') (hb : But F w w') (hF : ∀ k, F' k → F k ∨ w.heap.size ≤ k) : Wsm w0 w' b c X' L' L0' ti' F' Y G :=
  ⟨hw, h.sp.keep hb fun k hk hf => h.ap k hf hk, fun k hk hg => (hF k hk).elim (fun e => h.ap k e hg) (fun e => by have := h.sp.lt hg; omega), h.bel.trans (hb.below h.bel.size fun k hk => h.hi k (.inl hk)),
   fun k hk => hk.elim (fun hk => (hF k hk).elim (fun e => h.hi k (.inl e)) (fun e => Nat.le_trans h.bel.size e)) fun hk => h.hi k (.inr hk)⟩
theorem stepS (h : Wsm w0 w b c X L L0 ti F Y G) (hs : DvAt w' c Y' G') (hb : But G w w') (hG : ∀ k, G' k → G k ∨ w.heap.size ≤ k) : Wsm w0 w' b c X L L0 ti F Y' G' :=
  ⟨h.wt.keep hb fun k hk hg => h.ap k hk hg, hs, fun k hk hg => (hG k hg).elim (fun e => h.ap k hk e) (fun e => by have := h.wt.lt hk; omega), h.bel.trans (hb.below h.bel.size fun k hk => h.hi k (.inr hk)),
   fun k hk => hk.elim (fun hk => h.hi k (.inl hk)) fun hk => (hG k hk).elim (fun e => h.hi k (.inr e)) (fun e => Nat.le_trans h.bel.size e)⟩
end Wsm
end Go.Proofs.YtjdiaebgidgmaafGreat

namespace Go.Proofs.YtjdiaebgidgmaafGreat
open Go.RowKit Go.Sort
set_option linter.unusedVariables false
set_option linter.unusedSimpArgs false
set_option maxRecDepth 100000
attribute [local go_sem] Loose.gent

set_option maxHeartbeats 1000000 in
theorem wTables_new {b : Nat} {S : Pg.Fs} {F : Nat → Prop} (t : Int) (w : World) (h : FrAt w b S F) :
    Calls Tryz.prog 45 #[.pointer (some ⟨b, 0, none⟩), .int .i64 t] w fun e w' => ∃ ad cap L, e = .returned (.tuple #[.slice ad L.length cap, .int .i64 (Pg.thr S Pg.allW 3 t 0).2]) ∧ L = (if (Pg.thr S Pg.allW 3 t 0).2 = 0 then t :: Pg.tabsOf (Pg.thr S Pg.allW 3 t 0).1 else []) ∧ IntsAt w' ad L ∧ (∀ g, ad = some ⟨g, 0, none⟩ → w.heap.size ≤ g) ∧ Below w.heap.size w w' := by
  obtain ⟨W, hW⟩ : ∃ W, W = (w.alloc (.cells #[.int .i64 t] 3)).alloc (.cells #[.slice (some ⟨w.heap.size, 0, none⟩) 1 1] 47) := ⟨_, rfl⟩
  have hB : Below w.heap.size w W := by rw [hW]; exact balloc (balloc (brefl w) _) _
  have hK : Keeps w (w.heap.size + 1) 3 1 (fun X => (t :: Pg.tabsOf X).length) (fun X => ints (t :: Pg.tabsOf X)) [] (fun k => k = w.heap.size + 1 ∨ (Value.slice (some ⟨w.heap.size, 0, none⟩) 1 1).ownBlock = some k) W := by
    refine ⟨hB, by omega, fun o => by rw [hW]; simp [go_sem], .slice (some ⟨w.heap.size, 0, none⟩) 1 1, ⟨by rw [hW]; simp [go_sem], ?_, by simp [Value.ownBlock]⟩, rfl⟩
    refine ⟨by simp [ints, Pg.tabsOf], .inr ⟨w.heap.size, 1, #[.int .i64 t], rfl, Nat.le_refl _, ?_, Nat.le_refl _, by decide, rfl, by simp [ints, Pg.tabsOf]⟩⟩
    rw [hW, Below.heap_alloc _ _ _ (by simp)]
    exact heap_alloc_new w _
  have HC : Hid _ := from_any (tables_tells (c := w.heap.size + 1) (t := t) h) t _ W hK
  clear h hK hB
  generalize Pg.thr S Pg.allW 3 t 0 = th at *
  go_enter Tryz.func45, Tryz.ntmps45
  go_wp2_with fail
  rw [← hW]
  refine Calls.mono HC.out ?_
  rintro e w1 ⟨rfl, V1, hK1, hb1, hn1⟩
  clear hb1 hn1
  have HB : Hid (Below w.heap.size w w1) := hK1.bel
  obtain ⟨vb, hv, _⟩ := hK1.var
  obtain ⟨ad, cap, rfl⟩ := ownsMaps_form hv.own
  by_cases hc : th.2 = 0
  · have hcb : (th.2 != 0) = false := by simp [hc]
    have cc := hv.cell
    have HI : Hid _ := owns_intsAt hv.own
    have HCap : Hid _ := owns_new hv.own
    have HC0 : Hid _ := hc
    clear hv hK1 hc
    go_wp2_with fail
    go_ret2
    exact ⟨ad, cap, t :: Pg.tabsOf th.1, rfl, by first | rw [if_pos HC0.out] | rfl, HI.out, HCap.out, HB.out⟩
  · have hcb : (th.2 != 0) = true := by simp [hc]
    have HC0 : Hid _ := hc
    clear hv hK1 hc
    go_wp2_with fail
    go_ret2
    exact ⟨none, 0, [], rfl, by first | rw [if_neg HC0.out] | rfl, fun j hj => absurd hj (by simp), fun g hg => (by cases hg), HB.out⟩
theorem dvTables_new {b : Nat} {D : Dsd} {X : Pg.Spc} (w : World) (h : Dsk w b D X) : Calls Tryz.prog 18 #[.pointer (some ⟨b, 0, none⟩)] w fun e w' => ∃ ad cap, e = .returned (.slice ad X.tabs.length cap) ∧ IntsAt w' ad X.tabs ∧ (∀ g, ad = some ⟨g, 0, none⟩ → w.heap.size ≤ g) ∧ Below w.heap.size w w' := by
  have c0 := h.c0
  have c1 := h.c1
  have HL := wTables_new 0 w.drew (h.grow (below_drew1 w)).mem
  have HDR : Hid (Below w.heap.size w w.drew) := below_drew1 w
  have hlb : b < w.heap.size := h.lb
  have EM : Hid (X.tabs = if (Pg.thr X.S Pg.allW 3 0 0).2 = 0 then 0 :: Pg.tabsOf (Pg.thr X.S Pg.allW 3 0 0).1 else []) := rfl
  generalize X.tabs = M at *
  generalize Pg.thr X.S Pg.allW 3 0 0 = th at *
  clear h
  go_enter Tryz.func18, Tryz.ntmps18
  go_wp2_with fail
  go_region_held3 (fun w' => w'.cell? ⟨b, 0, none⟩ = some (.pointer (some ⟨D.bm, 0, none⟩)) ∧ w'.cell? ⟨b, 1, none⟩ = some (.int .i64 0)) (go_keep) (
    (go_at_call 45; refine HL.mono ?_; rintro en w4 ⟨ad, cap, L, rfl, eL, hA, hN, hb0⟩
     have hb : Below w.heap.size w w4 := bthen HDR.out hb0
     have u0 : w4.cell? ⟨b, 0, none⟩ = some (.pointer (some ⟨D.bm, 0, none⟩)) := (hb.cell (p := ⟨b, 0, none⟩) hlb).trans c0
     have u1 : w4.cell? ⟨b, 1, none⟩ = some (.int .i64 0) := (hb.cell (p := ⟨b, 1, none⟩) hlb).trans c1
     have HF : Hid ((L = M) ∧ IntsAt w4 ad L ∧ Below w.heap.size w w4 ∧ ∀ g, ad = some ⟨g, 0, none⟩ → w.heap.size ≤ g) := ⟨eL.trans EM.out.symm, hA, hb, hN⟩
     clear eL hA hN hb hb0))
  all_goals
    go_wp2_with fail
    go_ret
    obtain ⟨rfl, h1, h2, h3⟩ := HF.out
    exact ⟨ad, cap, rfl, by first | exact h1 | exact h1.below (brefl _).drew, h3, by first | exact h2 | exact h2.drew⟩

theorem mapsBut {w w' : World} {ad : Option Addr} {L : List Pg.Mp} {G : Nat → Prop} (h : MapsAt w ad L) (hb : But G w w') (hn : ∀ g, ad = some ⟨g, 0, none⟩ → ¬ G g) : MapsAt w' ad L := fun j hj => by
  obtain ⟨g, e, hl, c0, c1, c2, c3⟩ := h j hj
  have hg := hn g e
  exact ⟨g, e, Nat.lt_of_lt_of_le hl hb.size, (hb.cell (a := ⟨g, _, none⟩) hl hg).trans c0, (hb.cell (a := ⟨g, _, none⟩) hl hg).trans c1, (hb.cell (a := ⟨g, _, none⟩) hl hg).trans c2, (hb.cell (a := ⟨g, _, none⟩) hl hg).trans c3⟩
theorem WtAt.at' {w : World} {b sp : Nat} {X : Pg.Spc} {L L0 : List Pg.Mp} {ti : Int} {F : Nat → Prop} (h : WtAt w b X L L0 ti F) (hc : w.cell? ⟨b, 0, none⟩ = some (.pointer (some ⟨sp, 0, none⟩))) : ∃ Fs, DvAt w sp X Fs := by
  obtain ⟨sp', Fs, c, h⟩ := h.space
  rw [hc] at c
  injection c with c
  injection c with c
  injection c with c
  injection c with c
  exact ⟨Fs, c ▸ h⟩
theorem dvTab_at {w : World} {b : Nat} {X : Pg.Spc} {F : Nat → Prop} (h : DvAt w b X F) : Calls Tryz.prog 18 #[.pointer (some ⟨b, 0, none⟩)] w fun e w' => ∃ ad cap, e = .returned (.slice ad X.tabs.length cap) ∧ IntsAt w' ad X.tabs ∧ (∀ g, ad = some ⟨g, 0, none⟩ → w.heap.size ≤ g) ∧ Below w.heap.size w w' := by
  obtain ⟨D, h, rfl⟩ := h
  exact dvTables_new w h
theorem dvLst_new {w : World} {b : Nat} {X : Pg.Spc} {F : Nat → Prop} (h : DvAt w b X F) : Calls Tryz.prog 15 #[.pointer (some ⟨b, 0, none⟩)] w fun e w' => ∃ ad cap, e = .returned (.slice ad X.maps.length cap) ∧ MapsAt w' ad X.maps ∧ (∀ g, ad = some ⟨g, 0, none⟩ → w.heap.size ≤ g) ∧ Below w.heap.size w w' := by
  obtain ⟨D, h, rfl⟩ := h
  refine (dvList_any w h).mono ?_
  rintro e w' ⟨ad, cap, rfl, h1, h2, h3⟩
  exact ⟨ad, cap, rfl, h1, h3, h2⟩
theorem dvKept_at {w : World} {b : Nat} {X : Pg.Spc} {F : Nat → Prop} (k : Int) (h : DvAt w b X F) : Calls Tryz.prog 33 #[.pointer (some ⟨b, 0, none⟩), .int .i64 k] w fun e w' => ∃ ad cap, e = .returned (.slice ad (X.linesOf k).length cap) ∧ Below w.heap.size w w' := by
  obtain ⟨D, h, rfl⟩ := h
  refine (dvKept_any k w h).mono ?_
  rintro e w' ⟨ad, cap, rfl, _, h2⟩
  exact ⟨ad, cap, rfl, h2⟩
end Go.Proofs.YtjdiaebgidgmaafGreat

namespace Go.Proofs.YtjdiaebgidgmaafGreat
open Go.ChangeShapes Go.WideShapes Go.ChangeAt Go.RowKit Go.Joins Go.Sort
set_option linter.unusedVariables false
set_option linter.unusedSimpArgs false
set_option maxRecDepth 100000
attribute [local go_sem] Loose.gent

set_option maxHeartbeats 4000000 in
theorem watchSame_walk (W : World) (co : Int) (hco : Pg.fits co) (n : Int) (hn : Pg.fits n) (ad : Option Addr) (len cap : Nat) (q : Nat → Bst)
    (hq : ∀ j, j < len → (∃ b o, ad = some ⟨b, o, none⟩ ∧ b < W.heap.size ∧ BstAt W b (o + j * 9) (q j)) ∧ BstFits (q j)) :
    Calls Tryz.prog 8 #[.int .i64 co, .int .i64 n, .slice ad len cap] W fun e W' => e = .returned (.bool true) ∧ Below W.heap.size W W' := by
  have HQ : Hid _ := hq
  clear hq
  by_cases hl : 200 < len
  · as_aux_lemma =>
    have d1 : decide ((200 : Int) < (len : Int)) = true := by simp; omega
    go_enter Tryz.func8, Tryz.ntmps8
    go_wp2_with fail
    refine (watchBegun_any _).mono ?_
    rintro e w1 ⟨rfl, hb1⟩
    have HB : Hid _ := hb1
    clear hb1
    go_wp2_with fail
    refine (greatSteps_any ad len cap 200 _).mono ?_
    rintro e w2 ⟨rfl, rfl⟩
    go_wp2_with fail
    go_ret
    exact ⟨rfl, HB.out⟩
  · have d1 : decide ((200 : Int) < (len : Int)) = false := by simp; omega
    by_cases hbad : co < 1 ∨ 4 < co ∨ n < 1 ∨ 128 < n
    · as_aux_lemma =>
      go_enter Tryz.func8, Tryz.ntmps8
      go_wp2_with fail
      refine (watchBegun_any _).mono ?_
      rintro e w1 ⟨rfl, hb1⟩
      have HB : Hid _ := hb1
      clear hb1
      go_wp2_with fail
      refine (greatSteps_any ad len cap 200 _).mono ?_
      rintro e w2 ⟨rfl, rfl⟩
      go_wp2_with fail
      refine (wtNew_bad co n _ hbad).mono ?_
      rintro e w3 ⟨rfl, hb3⟩
      obtain ⟨W4, hW4⟩ : ∃ W4, W4 = w3.alloc (.cells #[.int .i64 1, .int .i64 (-1)] 27) := ⟨_, rfl⟩
      have hb4 : Below w3.heap.size w3 W4 := by rw [hW4]; exact balloc (brefl _) _
      have y0 : W4.cell? ⟨w3.heap.size, 0, none⟩ = some (.int .i64 1) := by rw [hW4]; simp [go_sem]
      have y1 : W4.cell? ⟨w3.heap.size, 1, none⟩ = some (.int .i64 (-1)) := by rw [hW4]; simp [go_sem]
      have HB4 : Hid _ := bthen (bthen HB.out hb3) hb4
      clear hb3 hb4
      go_upto_region 6 with fail
      rw [← hW4]
      clear hW4
      go_wp2_with fail
      refine (devFace.bad co n _ hbad).mono ?_
      rintro e w5 ⟨rfl, hb5⟩
      have y0 := cell_later hb5 y0
      have y1 := cell_later hb5 y1
      have hs5 : w3.heap.size < w5.heap.size := World.block_lt_of_cell? _ _ y0
      have HB5 : Hid _ := bthen HB4.out hb5
      have n5 : w3.heap.size ≠ w5.heap.size := by omega
      clear hb5
      go_wp2_with fail
      go_ret
      exact ⟨rfl, balloc HB5.out _⟩
    · obtain ⟨cn, rfl⟩ := Int.eq_ofNat_of_zero_le (show 0 ≤ co by omega)
      obtain ⟨nn, rfl⟩ := Int.eq_ofNat_of_zero_le (show 0 ≤ n by omega)
      have HNW := fun w => wtNew_any cn nn w (by omega) (by omega) (by omega) (by omega)
      have HNS := fun w => devFace.new cn nn w (by omega) (by omega) (by omega) (by omega)
      go_enter Tryz.func8, Tryz.ntmps8
      go_wp2_with fail
      refine (watchBegun_any _).mono ?_
      rintro e w1 ⟨rfl, hb1⟩
      have HB : Hid _ := hb1
      clear hb1
      go_wp2_with fail
      refine (greatSteps_any ad len cap 200 _).mono ?_
      rintro e w2 ⟨rfl, rfl⟩
      go_wp2_with fail
      refine (HNW _).mono ?_
      rintro e w3 ⟨b, F, rfl, h3, hb3, hF3⟩
      obtain ⟨W4, hW4⟩ : ∃ W4, W4 = w3.alloc (.cells #[.int .i64 0, .int .i64 0] 27) := ⟨_, rfl⟩
      have hb4 : Below w3.heap.size w3 W4 := by rw [hW4]; exact balloc (brefl _) _
      have y0 : W4.cell? ⟨w3.heap.size, 0, none⟩ = some (.int .i64 0) := by rw [hW4]; simp [go_sem]
      have y1 : W4.cell? ⟨w3.heap.size, 1, none⟩ = some (.int .i64 0) := by rw [hW4]; simp [go_sem]
      have h4 : Hid _ := h3.grow hb4
      have HB4 : Hid (Below W.heap.size W W4) := bthen (bthen HB.out hb3) hb4
      have HF4 : Hid (∀ k, F k → W.heap.size ≤ k) := fun k hk => Nat.le_trans HB.out.size (hF3 k hk)
      clear h3 hb3 hF3 HB HNW hb4
      go_upto_region 6 with fail
      rw [← hW4]
      clear hW4
      go_wp2_with fail
      refine (HNS _).mono ?_
      rintro e w5 ⟨c, G, rfl, h5, hb5, hG5⟩
      obtain ⟨W6, hW6⟩ : ∃ W6, W6 = w5.alloc (.cells #[.int .i64 0, .int .i64 0] 27) := ⟨_, rfl⟩
      have hb6 : Below w5.heap.size w5 W6 := by rw [hW6]; exact balloc (brefl _) _
      have y0 := cell_later hb6 (cell_later hb5 y0)
      have y1 := cell_later hb6 (cell_later hb5 y1)
      have z0 : W6.cell? ⟨w5.heap.size, 0, none⟩ = some (.int .i64 0) := by rw [hW6]; simp [go_sem]
      have z1 : W6.cell? ⟨w5.heap.size, 1, none⟩ = some (.int .i64 0) := by rw [hW6]; simp [go_sem]
      have S6 : Hid (∃ X L L0 ti F G, Wsm W W6 b c X L L0 ti F X G ∧ ti = 0 ∧ X.S.n ≤ 128) := ⟨_, _, _, _, _, _, Wsm.grow ⟨h4.out.grow hb5, h5, fun k hf hg => by have := h4.out.lt hf; have := hG5 k hg; omega, bthen HB4.out hb5, fun k hk => hk.elim (HF4.out k) fun hk => Nat.le_trans HB4.out.size (hG5 k hk)⟩ hb6, rfl, by show (Pg.Fs.new nn).take.n ≤ 128; rw [Pg.takes_n]; show nn ≤ 128; omega⟩
      clear h4 HB4 HF4 h5 hb5 hG5 HNS hb6
      go_upto_region 7 with fail
      rw [← hW6]
      clear hW6
      go_wp2_with fail
      clear y0 y1 z0 z1
      go_loopw [11] (fun i wr => ∃ k : Nat, k ≤ len ∧ i = .int .i64 k ∧ Hid (∃ X L L0 ti F G, Wsm W wr b c X L L0 ti F X G ∧ 0 ≤ ti ∧ ti ≤ k ∧ X.S.n ≤ 128)) (fun i _ => len - (intOf i).toNat)
      case atStart =>
        obtain ⟨X, L, L0, ti, F, G, h, ht, hn⟩ := S6.out
        exact ⟨0, by omega, rfl, ⟨X, L, L0, ti, F, G, h, by omega, by omega, hn⟩⟩
      case round =>
        obtain ⟨k, hk, rfl, HR⟩ := hrel
        clear S6
        by_cases hlt : k < len
        · obtain ⟨X, L, L0, ti, F, G, S, t0, t1, hn⟩ := HR.out
          obtain ⟨⟨xb, xo, rfl, hxl, hx⟩, hfit⟩ := HQ.out k hlt
          have i0 : (0 : Int) ≤ (k : Int) := by omega
          have i1 : (k : Int) < (len : Int) := by omega
          generalize q k = x at *
          have hI := S.wt.inv
          obtain ⟨sp, Fs, c0, _⟩ := S.wt.space
          have HDW := fun w' (h : WtAt w' b X L L0 ti F) => wtDo_any x.sx hfit w' h (by omega)
          have HDS := fun w' (h : DvAt w' c X G) => devFace.step x.sx w' hfit hI h
          have hI' := Pg.inv_step hI x.sx
          have hz := Pg.go_sizes hI x.sx
          have hts := Pg.inv_tables hI
          have LNM : Hid (X.maps.length ≤ 5000) := by
            rw [Hid, inv_maps hI]
            have := (Pg.rep_good hI.bas.rep).len
            omega
          have LNM' : Hid ((X.goN x.sx).maps.length ≤ 5000) := by
            rw [Hid, inv_maps hI']
            have := (Pg.rep_good hI'.bas.rep).len
            omega
          have LNT : Hid (X.tabs.length ≤ 5000) := by
            rw [Hid, hI.tabs]
            have := hts.2.2.2.1
            have h0 : (0 : Int) ≤ X.S.free := hI.bas.ok.free_bd.1
            omega
          have SAME : Hid ((X.goE x.sx).c ≠ 0 → X.goN x.sx = X ∧ X.goE x.sx = .code (X.goE x.sx).c ∧ X.chg x.sx = 0) := fun hc => by
            obtain ⟨a1, a2⟩ := Pg.code_same hI x.sx hc
            exact ⟨a1, a2, by unfold Pg.Spc.chg; rw [if_neg (fun e => hc e.2.2)]⟩
          have TI : Hid (0 ≤ ti + X.chg x.sx ∧ ti + X.chg x.sx ≤ (k : Int) + 1) := by
            unfold Hid Pg.Spc.chg
            split <;> omega
          have SN : Hid ((X.goN x.sx).S.n ≤ 128) := by rw [Hid, hz.1]; exact hn
          have SW : Hid _ := S
          clear HR hI hI' hz hts hn t0 t1
          generalize hE : X.goE x.sx = E at *
          generalize hN : X.goN x.sx = X' at *
          generalize X.nxL L x.sx = L' at *
          generalize X.nxP L L0 x.sx = L0' at *
          generalize X.chg x.sx = cg at *
          clear hE hN
          obtain ⟨kd, cr, ⟨mp, ms, mf, mr⟩, xq, xk, xu⟩ := x
          obtain ⟨x0, x1, x2, x3, x4, x5, x6, x7, x8⟩ := hx
          have XS : Hid (∀ w', Below W.heap.size W w' → w'.cell? ⟨xb, xo + k * 9, none⟩ = some (.int .i64 kd) ∧ w'.cell? ⟨xb, xo + k * 9 + 1, none⟩ = some (.int .i64 cr) ∧ w'.cell? ⟨xb, xo + k * 9 + 2, none⟩ = some (.int .i64 mp) ∧ w'.cell? ⟨xb, xo + k * 9 + 3, none⟩ = some (.int .i64 ms) ∧ w'.cell? ⟨xb, xo + k * 9 + 4, none⟩ = some (.int .i64 mf) ∧ w'.cell? ⟨xb, xo + k * 9 + 5, none⟩ = some (.int .i64 mr) ∧ w'.cell? ⟨xb, xo + k * 9 + 6, none⟩ = some (.int .i64 xq) ∧ w'.cell? ⟨xb, xo + k * 9 + 7, none⟩ = some (.int .i64 xk) ∧ w'.cell? ⟨xb, xo + k * 9 + 8, none⟩ = some (.bool xu)) := fun w' hb =>
            ⟨(hb.cell (p := ⟨xb, _, none⟩) hxl).trans x0, (hb.cell (p := ⟨xb, _, none⟩) hxl).trans x1, (hb.cell (p := ⟨xb, _, none⟩) hxl).trans x2, (hb.cell (p := ⟨xb, _, none⟩) hxl).trans x3, (hb.cell (p := ⟨xb, _, none⟩) hxl).trans x4, (hb.cell (p := ⟨xb, _, none⟩) hxl).trans x5, (hb.cell (p := ⟨xb, _, none⟩) hxl).trans x6, (hb.cell (p := ⟨xb, _, none⟩) hxl).trans x7, (hb.cell (p := ⟨xb, _, none⟩) hxl).trans x8⟩
          clear x0 x1 x2 x3 x4 x5 x6 x7 x8
          obtain ⟨ec, en, ea, ef, er, eb⟩ := E
          simp only [Bst.sx, Pg.Sx.val, Pg.Ev.val] at HDW HDS SAME
          have hdr : Below wr.heap.size wr wr.drew := (brefl wr).drew
          have P1 : Hid (Wsm W wr.drew b c X L L0 ti F X G) := SW.out.grow hdr
          have C1 : Hid (wr.drew.cell? ⟨b, 0, none⟩ = some (.pointer (some ⟨sp, 0, none⟩))) := c0
          clear hdr SW
          go_upto_region 12 with fail
          go_region_held3 (fun w' => w'.cell? ⟨b, 0, none⟩ = some (.pointer (some ⟨sp, 0, none⟩))) (go_keep) (first
            | (go_at_call 27; refine (wtTime_any _ P3.out.wt).mono ?_; rintro e w4 ⟨rfl, hb4⟩; have z4 := cell_later hb4 C3.out; have P4 : Hid _ := P3.out.grow hb4; have M4 : Hid _ := MapsAt.below M3.out hb4; have T4 : Hid _ := IntsAt.below T3.out hb4; have MN : Hid _ := MN2.out; have TN : Hid _ := TN3.out; have Z4 : Hid _ := z4)
            | (go_at_call 18; refine (dvTab_at (P2.out.wt.at' C2.out).choose_spec).mono ?_; rintro e w3 ⟨adt, capt, rfl, t3, tn3, hb3⟩; have z3 := cell_later hb3 C2.out; have C3 : Hid _ := z3; have P3 : Hid _ := P2.out.grow hb3; have M3 : Hid _ := MapsAt.below M2.out hb3; have T3 : Hid _ := t3; have TN3 : Hid (∀ g, adt = some ⟨g, 0, none⟩ → ¬ F g ∧ ¬ G g) := fun g hg => ⟨fun e => by have := tn3 g hg; have := P2.out.wt.lt e; omega, fun e => by have := tn3 g hg; have := P2.out.sp.lt e; omega⟩; clear t3 tn3)
            | (go_at_call 15; refine (dvLst_new (P1.out.wt.at' C1.out).choose_spec).mono ?_; rintro e w2 ⟨adm, capm, rfl, m2, mn2, hb2⟩; have z2 := cell_later hb2 C1.out; have C2 : Hid _ := z2; have P2 : Hid _ := P1.out.grow hb2; have M2 : Hid _ := m2; have MN2 : Hid (∀ g, adm = some ⟨g, 0, none⟩ → ¬ F g ∧ ¬ G g) := fun g hg => ⟨fun e => by have := mn2 g hg; have := P1.out.wt.lt e; omega, fun e => by have := mn2 g hg; have := P1.out.sp.lt e; omega⟩; clear m2 mn2))
          as_aux_lemma =>
          have C4 := Z4.out
          obtain ⟨_, x1, _⟩ := XS.out _ P4.out.bel
          clear P1 P2 P3 C1 C2 C3 M2 M3 T3 MN2 TN3 z2 z3 z4
          go_upto_region 13 with fail
          have P5 : Hid _ := P4.out.grow (brefl w4).drew
          have M5 : Hid _ := MapsAt.below M4.out (brefl w4).drew
          have T5 : Hid _ := IntsAt.below T4.out (brefl w4).drew
          have C5 : Hid (w4.drew.cell? ⟨b, 0, none⟩ = some (.pointer (some ⟨sp, 0, none⟩)) ∧ w4.drew.cell? ⟨xb, xo + k * 9 + 1, none⟩ = some (.int .i64 cr)) := ⟨C4, x1⟩
          go_region_held3 (fun w' => w'.cell? ⟨b, 0, none⟩ = some (.pointer (some ⟨sp, 0, none⟩)) ∧ w'.cell? ⟨xb, xo + k * 9 + 1, none⟩ = some (.int .i64 cr)) (go_keep)
            (first | (go_at_call 33; refine (dvKept_at cr (P5.out.wt.at' C5.out.1).choose_spec).mono ?_; rintro e w6 ⟨adl, capl, rfl, hb6⟩; have C6 : Hid _ := two_later hb6 C5.out; obtain ⟨z60, z61⟩ := C6.out; have P6 : Hid _ := P5.out.grow hb6; have M6 : Hid _ := MapsAt.below M5.out hb6; have T6 : Hid _ := IntsAt.below T5.out hb6))
          as_aux_lemma =>
          obtain ⟨x0, x1, x2, x3, x4, x5, x6, x7, x8⟩ := XS.out _ P6.out.bel
          have HD := HDW _ P6.out.wt
          clear HDW P4 P5 M4 M5 T4 T5 C4 C5 C6 z60 z61
          go_wp2_with fail
          refine HD.mono ?_
          rintro e w7 ⟨rfl, F7, h7, hb7, hF7⟩
          have P7 := P6.out.stepW h7 hb7 hF7
          have M7 := mapsBut M6.out hb7 fun g hg => (MN.out g hg).1
          have T7 := IntsAt.but T6.out hb7 fun g hg => (TN.out g hg).1
          obtain ⟨W8, hW8⟩ : ∃ W8, W8 = (w7.alloc (.cells #[.int .i64 ec, .bool en, .int .i64 ea, .int .i64 ef, .int .i64 er, .bool eb] 39)).alloc (.cells #[.int .i64 0, .int .i64 0] 27) := ⟨_, rfl⟩
          have hb8 : Below w7.heap.size w7 W8 := by rw [hW8]; exact balloc (balloc (brefl _) _) _
          have EV8 : W8.heap[w7.heap.size]? = some (.cells #[.int .i64 ec, .bool en, .int .i64 ea, .int .i64 ef, .int .i64 er, .bool eb] 39 (0, 0)) := by
            rw [hW8, Below.heap_alloc _ _ _ (by simp)]
            exact heap_alloc_new _ _
          have hlt8 : w7.heap.size < W8.heap.size := by rw [hW8]; simp; omega
          have NG : ¬ G w7.heap.size := fun e => by have := P7.sp.lt e; omega
          have P8 : Hid _ := (P7.grow hb8).grow (brefl W8).drew
          have M8 : Hid _ := MapsAt.below (MapsAt.below M7 hb8) (brefl W8).drew
          have T8 : Hid _ := IntsAt.below (IntsAt.below T7 hb8) (brefl W8).drew
          have BL8 : Hid (Below W.heap.size W W8) := (P7.grow hb8).bel
          clear HD h7 hb7 hF7 P7 M7 T7 P6 M6 T6 x0 x1 x2 x3 x4 x5 x6 x7 x8 hb8
          go_upto_region 15 with fail
          rw [← hW8]
          clear hW8
          obtain ⟨⟨e0, e1, e2, e3, e4, e5⟩, _⟩ := row6a EV8
          obtain ⟨x0, x1, x2, x3, x4, x5, x6, x7, x8⟩ := XS.out _ BL8.out
          go_region_held3 (fun w' => (w'.cell? ⟨w7.heap.size, 0, none⟩ = some (.int .i64 ec) ∧ w'.cell? ⟨w7.heap.size, 1, none⟩ = some (.bool en) ∧ w'.cell? ⟨w7.heap.size, 2, none⟩ = some (.int .i64 ea) ∧ w'.cell? ⟨w7.heap.size, 3, none⟩ = some (.int .i64 ef) ∧ w'.cell? ⟨w7.heap.size, 4, none⟩ = some (.int .i64 er) ∧ w'.cell? ⟨w7.heap.size, 5, none⟩ = some (.bool eb)) ∧ w'.cell? ⟨xb, xo + k * 9, none⟩ = some (.int .i64 kd) ∧ w'.cell? ⟨xb, xo + k * 9 + 1, none⟩ = some (.int .i64 cr) ∧ w'.cell? ⟨xb, xo + k * 9 + 2, none⟩ = some (.int .i64 mp) ∧ w'.cell? ⟨xb, xo + k * 9 + 3, none⟩ = some (.int .i64 ms) ∧ w'.cell? ⟨xb, xo + k * 9 + 4, none⟩ = some (.int .i64 mf) ∧ w'.cell? ⟨xb, xo + k * 9 + 5, none⟩ = some (.int .i64 mr) ∧ w'.cell? ⟨xb, xo + k * 9 + 6, none⟩ = some (.int .i64 xq) ∧ w'.cell? ⟨xb, xo + k * 9 + 7, none⟩ = some (.int .i64 xk) ∧ w'.cell? ⟨xb, xo + k * 9 + 8, none⟩ = some (.bool xu)) (go_keep)
            (first | (go_at_call 12; refine (HDS _ P8.out.sp).mono ?_; rintro e w9 ⟨rfl, G9, h9, hb9, hG9⟩; have P9 : Hid _ := P8.out.stepS h9 hb9 hG9; have M9 : Hid _ := mapsBut M8.out hb9 fun g hg => (MN.out g hg).2; have T9 : Hid _ := IntsAt.but T8.out hb9 fun g hg => (TN.out g hg).2; have EV9 : Hid _ := (hb9.block w7.heap.size hlt8 NG).trans EV8; obtain ⟨⟨u0, u1, u2, u3, u4, u5⟩, _⟩ := row6a EV9.out; obtain ⟨v0, v1, v2, v3, v4, v5, v6, v7, v8⟩ := XS.out _ P9.out.bel; clear h9 hb9 hG9))
          as_aux_lemma =>
          go_upto_region 17 with fail
          clear e0 e1 e2 e3 e4 e5 x0 x1 x2 x3 x4 x5 x6 x7 x8 EV8 hlt8 NG P8 M8 T8 BL8 HDS
          go_cut [141] from 45 to 160 (fun s141 wd => s141 = .bool false ∧ Hid (Wsm W wd b c X' L' L0' (ti + cg) F7 X' G9))
          case first =>
            by_cases hc : ec = 0
            · as_aux_lemma =>
              subst hc
              go_quiet (fail)
              go_wp2_with fail
              go_meet
              case rel => exact ⟨rfl, P9.out.grow (below_drewN (brefl w9) _)⟩
            · as_aux_lemma =>
              obtain ⟨hX, hE, hg⟩ := SAME.out hc
              obtain ⟨sp9, _, c9, _⟩ := P9.out.wt.space
              simp only [Pg.Ev.code, Pg.Ev.mk.injEq, true_and] at hE
              obtain ⟨rfl, rfl, rfl, rfl, rfl⟩ := hE
              subst hX hg
              have hec : (ec == 0) = false := by simpa using hc
              have hne : (ec != 0) = true := by simpa using hc
              have P10 : Hid _ := P9.out.grow (brefl w9).drew
              have M10 : Hid _ := MapsAt.below M9.out (brefl w9).drew
              have T10 : Hid _ := IntsAt.below T9.out (brefl w9).drew
              have C10 : Hid (w9.drew.cell? ⟨b, 0, none⟩ = some (.pointer (some ⟨sp9, 0, none⟩))) := c9
              have EV10 : Hid (w9.drew.heap[w7.heap.size]? = _) := EV9.out
              clear P9 M9 T9 EV9 SAME
              go_region_held3 (fun w' => w'.cell? ⟨b, 0, none⟩ = some (.pointer (some ⟨sp9, 0, none⟩)) ∧ w'.cell? ⟨xb, xo + k * 9 + 1, none⟩ = some (.int .i64 cr) ∧ w'.cell? ⟨w7.heap.size, 0, none⟩ = some (.int .i64 ec) ∧ w'.cell? ⟨w7.heap.size, 1, none⟩ = some (.bool false) ∧ w'.cell? ⟨w7.heap.size, 2, none⟩ = some (.int .i64 0) ∧ w'.cell? ⟨w7.heap.size, 3, none⟩ = some (.int .i64 0) ∧ w'.cell? ⟨w7.heap.size, 4, none⟩ = some (.int .i64 0) ∧ w'.cell? ⟨w7.heap.size, 5, none⟩ = some (.bool false)) (go_keep) (first
                | (go_at_call 33; refine (dvKept_at cr (P15.out.wt.at' C15.out).choose_spec).mono ?_; rintro e w16 ⟨ad16, cap16, rfl, hb16⟩; have P16 : Hid _ := P15.out.grow hb16; have EV16 : Hid _ := (hb16.block w7.heap.size (Array.getElem?_eq_some_iff.1 EV15.out).1).trans EV15.out; have C16 : Hid _ := cell_later hb16 C15.out; have c16 := C16.out; obtain ⟨⟨u160, u161, u162, u163, u164, u165⟩, _⟩ := row6a EV16.out; obtain ⟨_, v161, _⟩ := XS.out _ P16.out.bel)
                | (go_at_call 27; refine (wtTime_any _ P14.out.wt).mono ?_; rintro e w15 ⟨rfl, hb15⟩; have P15 : Hid _ := P14.out.grow hb15; have EV15 : Hid _ := (hb15.block w7.heap.size (Array.getElem?_eq_some_iff.1 EV14.out).1).trans EV14.out; have C15 : Hid _ := cell_later hb15 C14.out; have c15 := C15.out; obtain ⟨⟨u150, u151, u152, u153, u154, u155⟩, _⟩ := row6a EV15.out; obtain ⟨_, v151, _⟩ := XS.out _ P15.out.bel)
                | (go_at_call 34; refine (sameInts_yes _ T13.out I13.out LNT.out).mono ?_; rintro e w14 ⟨rfl, hb14⟩; have P14 : Hid _ := P13.out.grow hb14; have EV14 : Hid _ := (hb14.block w7.heap.size (Array.getElem?_eq_some_iff.1 EV13.out).1).trans EV13.out; have C14 : Hid _ := cell_later hb14 C13.out; have c14 := C14.out; obtain ⟨⟨u140, u141, u142, u143, u144, u145⟩, _⟩ := row6a EV14.out; obtain ⟨_, v141, _⟩ := XS.out _ P14.out.bel)
                | (go_at_call 18; refine (dvTab_at (P12.out.wt.at' C12.out).choose_spec).mono ?_; rintro e w13 ⟨ad13, cap13, rfl, i13, _, hb13⟩; have P13 : Hid _ := P12.out.grow hb13; have EV13 : Hid _ := (hb13.block w7.heap.size (Array.getElem?_eq_some_iff.1 EV12.out).1).trans EV12.out; have C13 : Hid _ := cell_later hb13 C12.out; have c13 := C13.out; obtain ⟨⟨u130, u131, u132, u133, u134, u135⟩, _⟩ := row6a EV13.out; obtain ⟨_, v131, _⟩ := XS.out _ P13.out.bel; have I13 : Hid _ := i13; have T13 : Hid _ := IntsAt.below T12.out hb13; clear i13)
                | (go_at_call 14; refine (sameMapsW _ M11.out J11.out LNM.out).mono ?_; rintro e w12 ⟨rfl, hb12⟩; have P12 : Hid _ := P11.out.grow hb12; have EV12 : Hid _ := (hb12.block w7.heap.size (Array.getElem?_eq_some_iff.1 EV11.out).1).trans EV11.out; have C12 : Hid _ := cell_later hb12 C11.out; have c12 := C12.out; obtain ⟨⟨u120, u121, u122, u123, u124, u125⟩, _⟩ := row6a EV12.out; obtain ⟨_, v121, _⟩ := XS.out _ P12.out.bel; have T12 : Hid _ := IntsAt.below T11.out hb12)
                | (go_at_call 15; refine (dvLst_any (P10.out.wt.at' C10.out).choose_spec).mono ?_; rintro e w11 ⟨ad11, cap11, rfl, j11, hb11⟩; have P11 : Hid _ := P10.out.grow hb11; have EV11 : Hid _ := (hb11.block w7.heap.size (Array.getElem?_eq_some_iff.1 EV10.out).1).trans EV10.out; have C11 : Hid _ := cell_later hb11 C10.out; have c11 := C11.out; obtain ⟨⟨u110, u111, u112, u113, u114, u115⟩, _⟩ := row6a EV11.out; obtain ⟨_, v111, _⟩ := XS.out _ P11.out.bel; have J11 : Hid _ := j11; have M11 : Hid _ := MapsAt.below M10.out hb11; have T11 : Hid _ := IntsAt.below T10.out hb11; clear j11))
              all_goals
                go_wp2_with fail
                go_meet
                case rel => exact ⟨rfl, P16.out⟩
          case rest =>
            as_aux_lemma =>
            obtain ⟨rfl, PD⟩ := hcut
            obtain ⟨sp20, _, c20, _⟩ := PD.out.wt.space
            clear u0 u1 u2 u3 u4 u5 v0 v1 v2 v3 v4 v5 v6 v7 v8 P9 M9 T9 EV9 SAME
            have P20 : Hid _ := PD.out.grow (brefl wc).drew
            have C20 : Hid (wc.drew.cell? ⟨b, 0, none⟩ = some (.pointer (some ⟨sp20, 0, none⟩))) := c20
            clear PD
            go_upto_region 19 with fail
            go_region_held3 (fun w' => w'.cell? ⟨b, 0, none⟩ = some (.pointer (some ⟨sp20, 0, none⟩))) (go_keep) (first
              | (go_at_call 16; refine (devFace.free _ (P24.out.wt.at' C24.out).choose_spec).mono ?_; rintro e w25 ⟨rfl, hb25⟩; have P25 : Hid _ := P24.out.grow hb25; have C25 : Hid _ := cell_later hb25 C24.out; have c25 := C25.out)
              | (go_at_call 16; refine (devFace.free _ P23.out.sp).mono ?_; rintro e w24 ⟨rfl, hb24⟩; have P24 : Hid _ := P23.out.grow hb24; have C24 : Hid _ := cell_later hb24 C23.out; have c24 := C24.out)
              | (go_at_call 14; refine (sameMapsW _ M22.out J22.out LNM'.out).mono ?_; rintro e w23 ⟨rfl, hb23⟩; have P23 : Hid _ := P22.out.grow hb23; have C23 : Hid _ := cell_later hb23 C22.out; have c23 := C23.out)
              | (go_at_call 15; refine (dvLst_any (P21.out.wt.at' C21.out).choose_spec).mono ?_; rintro e w22 ⟨ad22, cap22, rfl, j22, hb22⟩; have P22 : Hid _ := P21.out.grow hb22; have C22 : Hid _ := cell_later hb22 C21.out; have c22 := C22.out; have J22 : Hid _ := j22; have M22 : Hid _ := MapsAt.below M21.out hb22; clear j22)
              | (go_at_call 15; refine (dvLst_any P20.out.sp).mono ?_; rintro e w21 ⟨ad21, cap21, rfl, m21, hb21⟩; have P21 : Hid _ := P20.out.grow hb21; have C21 : Hid _ := cell_later hb21 C20.out; have c21 := C21.out; have M21 : Hid _ := m21; clear m21))
            all_goals
              go_wp2_with fail
              go_roundw
              case rel => exact ⟨k + 1, by omega, by go_num, ⟨_, _, _, _, _, _, P25.out, TI.out.1, by have := TI.out.2; omega, SN.out⟩⟩
              case measure => simp [intOf]; omega
        · have i1 : ¬ (k : Int) < (len : Int) := by omega
          obtain ⟨X, L, L0, ti, F, G, S, _⟩ := HR.out
          have HB : Hid _ := S.bel
          clear HR S
          go_wp2_with fail
          go_ret
          exact ⟨rfl, HB.out⟩
set_option maxRecDepth 100000 in
theorem watchSame_lifted (os : Os) (started : os.Started) (H : Type) (enc : TypeId × Value → H) :
    ReturnsInHanded {} Tryz.checked os 8 .any (Rows.watchSameSpec.pre6 enc Tryz.prog Tryz.f8 Rows.watchSameRow.domain false) (Rows.watchSameSpec.post enc Tryz.prog Tryz.f8 false true false false) := by
  refine returnsInHanded_of_change (C := Tryz.checked) own started (by kernel_rfl) Tryz.func8
    (ChangeSpec.witness6 (enc := enc) (C := Tryz.checked) false ⟨#[], #[.int .i64 0, .int .i64 0, .slice none 0 0], []⟩ 8 (by kernel_rfl) (by kernel_rfl) (by kernel_rfl) (by kernel_rfl)) ?_
  intro W base args ds gs before hval0 hW hcnd _
  have hval : ∀ (j : Nat) t v, Tryz.f8.params[j]? = some t → args[j]? = some v → Value.okWide Tryz.prog W .any base t v := hval0
  have hW' := hW
  obtain ⟨p, q, hA0, hV, rfl, hfz, hnd⟩ := hW
  have hA : DataW.TrodAll enc Tryz.prog W 0 (fun _ => true) true Tryz.f8.params.toList args.toList ds p := hA0
  rw [Tryz.params8] at hA hval
  obtain ⟨v0, vs0, d0, ds0, p0, q0, hargs, rfl, rfl, h0, r0⟩ := trodAll_cons hA
  obtain ⟨v1, vs1, d1, ds1, p1, q1, rfl, rfl, rfl, h1, r1⟩ := trodAll_cons r0
  obtain ⟨v2, vs2, d2, ds2, p2, q2, rfl, rfl, rfl, h2, r2⟩ := trodAll_cons r1
  obtain ⟨rfl, rfl, rfl⟩ := trodAll_nil r2
  obtain rfl : args = #[v0, v1, v2] := by cases args; simp_all
  obtain ⟨rfl, rfl⟩ := trodVars_none hV
  obtain ⟨a0a, rfl, f0a⟩ := openInt (hval 0 3 v0 rfl rfl) h0
  obtain ⟨a1a, rfl, f1a⟩ := openInt (hval 1 3 v1 rfl rfl) h1
  obtain ⟨a2a, a2b, a2c, a2d, rfl, f2a⟩ := openBsts (hval 2 22 v2 rfl rfl) h2
  clear hA0 hval0
  refine (watchSame_walk W a0a f0a a1a f1a a2a a2b a2c a2d f2a).mono fun e W' ⟨he, bel⟩ => ?_
  subst he
  exact ⟨_, rfl, _, _, _, [], _, [], hW', trodAll_mk1 (shut_bool Tryz.underlying4 _), (trodAll_cons_mk (stays (by kernel_rfl) (of_decide_eq_true (by kernel_rfl)) h0 bel) (trodAll_cons_mk (stays (by kernel_rfl) (of_decide_eq_true (by kernel_rfl)) h1 bel) (trodAll_cons_mk (stays (by kernel_rfl) (of_decide_eq_true (by kernel_rfl)) h2 bel) trodAll_mk0))), rfl, bel.frame _, fun h => by cases h⟩

theorem watchSame_over : Rows.watchSameRow.holds Tryz.pinned (OpenSpec.ofChange Rows.watchSameSpec) :=
  OpenClaim.holds_of_wide 8 Tryz.f8 rfl rfl rfl rfl rfl rfl rfl ⟨rfl, rfl, rfl, rfl, rfl⟩ rfl rfl rfl rfl rfl (by kernel_rfl) Tryz.func8 (by kernel_rfl)
    (of_decide_eq_true (by kernel_rfl)) (by unfold Func.isWrapper; first | (rw [if_pos (by decide +kernel)]; kernel_rfl) | (rw [if_neg (by decide +kernel)]; exact ⟨rfl, rfl⟩))
    (fun os started H enc _ => watchSame_lifted os started H enc)

theorem watchSame_proved : Rows.WatchSameSaid := watchSame_over
#print axioms watchSame_proved
end Go.Proofs.YtjdiaebgidgmaafGreat
