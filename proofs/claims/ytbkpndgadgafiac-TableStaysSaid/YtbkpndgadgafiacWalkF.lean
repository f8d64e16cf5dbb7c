
/-
  The document's own way to a page.
-/
import Derived.Test.YtbkpndgadgafiacWalkE
import Derived.Test.YtbkpndgadgafiacMemRef
import Derived.Test.YtbkpndgadgafiacPageRef
import Derived.Test.YtbkpndgadgafiacEntryRefB
import Derived.Deep.RegionHeld3
namespace Go.Proofs.Ytbkpndgadgafiac
open Go.RowKit Go.Sort
set_option linter.unusedVariables false
set_option maxRecDepth 100000
attribute [local go_sem] Loose.gent

/-- Eight cells of a block. -/
def Eight (w : World) (b : Nat) (v0 : Value) (e : Pg.En) (lv : Int) : Prop :=
  w.cell? ⟨b, 0, none⟩ = some v0 ∧ w.cell? ⟨b, 1, none⟩ = some (.bool e.t) ∧ w.cell? ⟨b, 2, none⟩ = some (.bool e.l) ∧ w.cell? ⟨b, 3, none⟩ = some (.int .i64 e.r) ∧ w.cell? ⟨b, 4, none⟩ = some (.bool e.u) ∧ w.cell? ⟨b, 5, none⟩ = some (.bool e.d) ∧ w.cell? ⟨b, 6, none⟩ = some (.int .i64 e.f) ∧ w.cell? ⟨b, 7, none⟩ = some (.int .i64 lv)
theorem Eight.of_block {w w' : World} {b : Nat} {v0 : Value} {e : Pg.En} {lv : Int} (hk : w'.heap[b]? = w.heap[b]?) (h : Eight w b v0 e lv) : Eight w' b v0 e lv :=
  ⟨(World.cell?_of_block hk).trans h.1, (World.cell?_of_block hk).trans h.2.1, (World.cell?_of_block hk).trans h.2.2.1, (World.cell?_of_block hk).trans h.2.2.2.1, (World.cell?_of_block hk).trans h.2.2.2.2.1, (World.cell?_of_block hk).trans h.2.2.2.2.2.1, (World.cell?_of_block hk).trans h.2.2.2.2.2.2.1, (World.cell?_of_block hk).trans h.2.2.2.2.2.2.2⟩
theorem Eight.lb {w : World} {b : Nat} {v0 : Value} {e : Pg.En} {lv : Int} (h : Eight w b v0 e lv) : b < w.heap.size := World.block_lt_of_cell? _ _ h.1

/-- On the way: the result, still nothing, and the way so far. -/
structure WayAt (w0 : World) (X : List Pg.Sp) (lv : Int) (vb : Value) (wr : World) : Prop where
  bel : Below w0.heap.size w0 wr
  r : Eight wr w0.heap.size (.slice none 0 0) Pg.En.zero 0
  rf : ∀ o, wr.frozen? ⟨w0.heap.size, o, none⟩ = false
  c : Eight wr (w0.heap.size + 1) vb Pg.En.zero lv
  cf : ∀ o, wr.frozen? ⟨w0.heap.size + 1, o, none⟩ = false
  own : wr.ownsRow (w0.heap.size + 1 + 1) 3 1 vb X.length (ints (tabs X))
namespace WayAt
variable {w0 wr w' : World} {X : List Pg.Sp} {lv : Int} {vb : Value}
theorem grow (h : WayAt w0 X lv vb wr) (hb : Below wr.heap.size wr w') : WayAt w0 X lv vb w' :=
  ⟨h.bel.trans (hb.mono h.bel.size), h.r.of_block (hb.block _ h.r.lb), fun o => (hb.frozen (p := ⟨w0.heap.size, o, none⟩) h.r.lb).trans (h.rf o), h.c.of_block (hb.block _ h.c.lb), fun o => (hb.frozen (p := ⟨w0.heap.size + 1, o, none⟩) h.c.lb).trans (h.cf o), ownsMaps_below h.own hb⟩
end WayAt

theorem Eight.set0 {w : World} {b : Nat} {v0 : Value} {e : Pg.En} {lv : Int} (h : Eight w b v0 e lv) (v : Value) : Eight (w.setCell ⟨b, 0, none⟩ v) b v e lv :=
  ⟨World.cell?_setCell_same _ _ _ h.1, (World.cell?_setCell_other _ _ _ _ (by simp)).trans h.2.1, (World.cell?_setCell_other _ _ _ _ (by simp)).trans h.2.2.1, (World.cell?_setCell_other _ _ _ _ (by simp)).trans h.2.2.2.1, (World.cell?_setCell_other _ _ _ _ (by simp)).trans h.2.2.2.2.1, (World.cell?_setCell_other _ _ _ _ (by simp)).trans h.2.2.2.2.2.1, (World.cell?_setCell_other _ _ _ _ (by simp)).trans h.2.2.2.2.2.2.1, (World.cell?_setCell_other _ _ _ _ (by simp)).trans h.2.2.2.2.2.2.2⟩
theorem Eight.set7 {w : World} {b : Nat} {v0 : Value} {e : Pg.En} {lv : Int} (h : Eight w b v0 e lv) (l : Int) : Eight (w.setCell ⟨b, 7, none⟩ (.int .i64 l)) b v0 e l :=
  ⟨(World.cell?_setCell_other _ _ _ _ (by simp)).trans h.1, (World.cell?_setCell_other _ _ _ _ (by simp)).trans h.2.1, (World.cell?_setCell_other _ _ _ _ (by simp)).trans h.2.2.1, (World.cell?_setCell_other _ _ _ _ (by simp)).trans h.2.2.2.1, (World.cell?_setCell_other _ _ _ _ (by simp)).trans h.2.2.2.2.1, (World.cell?_setCell_other _ _ _ _ (by simp)).trans h.2.2.2.2.2.1, (World.cell?_setCell_other _ _ _ _ (by simp)).trans h.2.2.2.2.2.2.1, World.cell?_setCell_same _ _ _ h.2.2.2.2.2.2.2⟩
theorem WayAt.lower {w0 wr : World} {X : List Pg.Sp} {lv : Int} {vb : Value} (h : WayAt w0 X lv vb wr) (l : Int) : WayAt w0 X l vb (wr.setCell ⟨w0.heap.size + 1, 7, none⟩ (.int .i64 l)) := by
  have hk : ∀ k, k ≠ w0.heap.size + 1 → (wr.setCell ⟨w0.heap.size + 1, 7, none⟩ (.int .i64 l)).heap[k]? = wr.heap[k]? := fun k hk => Below.heap_setCell _ _ _ _ hk
  refine ⟨h.bel.setCell (by simp) _, h.r.of_block (hk _ (by omega)), fun o => by rw [World.frozen?_setCell]; exact h.rf o, h.c.set7 l, fun o => by rw [World.frozen?_setCell]; exact h.cf o, owns_of_block h.own fun k hk' => hk k (fun e => ?_)⟩
  have := (h.own.lt k hk').1
  omega
theorem WayAt.push {w0 W w6 : World} {X : List Pg.Sp} {lv : Int} {vb : Value} {g cap : Nat} {t : Int} (h : WayAt w0 X lv vb W) (G : Grew (w0.heap.size + 1) vb W w6 g) (ho : w6.ownsRow (w0.heap.size + 1 + 1) 3 1 (.slice (some ⟨g, 0, none⟩) (X.length + 1) cap) (X.length + 1) (ints (tabs X) ++ [.int .i64 t])) (s : Pg.Sp) (hs : s.table = t) :
    WayAt w0 (X ++ [s]) lv (.slice (some ⟨g, 0, none⟩) (X.length + 1) cap) (w6.setCell ⟨w0.heap.size + 1, 0, none⟩ (.slice (some ⟨g, 0, none⟩) (X.length + 1) cap)) := by
  have hk : ∀ k, k ≠ w0.heap.size + 1 → (w6.setCell ⟨w0.heap.size + 1, 0, none⟩ (.slice (some ⟨g, 0, none⟩) (X.length + 1) cap)).heap[k]? = w6.heap[k]? := fun k hk => Below.heap_setCell _ _ _ _ hk
  have hr := h.r.lb
  have hc := h.c.lb
  have b0 : w6.heap[w0.heap.size]? = W.heap[w0.heap.size]? := G.but.block _ hr fun e => by have := G.far _ e; omega
  have b1 : w6.heap[w0.heap.size + 1]? = W.heap[w0.heap.size + 1]? := G.but.block _ hc fun e => by have := G.far _ e; omega
  have hB : Below w0.heap.size W w6 := G.but.below h.bel.size fun k hk => by have := G.far k hk; omega
  refine ⟨(h.bel.trans hB).setCell (by simp) _, (h.r.of_block b0).of_block (hk _ (by omega)), fun o => ?_, (h.c.of_block b1).set0 _, fun o => ?_, ?_⟩
  · rw [World.frozen?_setCell, World.frozen?_of_block b0]; exact h.rf o
  · rw [World.frozen?_setCell, World.frozen?_of_block b1]; exact h.cf o
  · rw [tabs_push, hs, List.length_append, List.length_singleton]
    refine owns_of_block ho fun k hk' => hk k (fun e => ?_)
    have e1 : g = k := by simpa [Value.ownBlock] using hk'
    have := G.gc
    omega

def wayV (X : List Pg.Sp) (v : Value) : Value := .agg #[v, .bool (lastE X).t, .bool (lastE X).l, .int .i64 (lastE X).r, .bool (lastE X).u, .bool (lastE X).d, .int .i64 (lastE X).f, .int .i64 (lastL X)]

/-- What WayTo leaves. -/
structure WayDone (w : World) (X : List Pg.Sp) (c : Int) (e : Ending) (w' : World) : Prop where
  end' : ∃ ad cap, e = .returned (.tuple #[wayV X (.slice ad X.length cap), .int .i64 c]) ∧ IntsAt w' ad (tabs X)
  bel : Below w.heap.size w w'
  new : ∀ g n c d, e = .returned (.tuple #[wayV X (.slice (some ⟨g, 0, none⟩) n c), d]) → w.heap.size ≤ g

theorem but_set8 {F : Nat → Prop} {w w1 : World} (h : But F w w1) (r : Nat) (hr : w.heap.size ≤ r ∨ F r) (x0 x1 x2 x3 x4 x5 x6 x7 : Value) :
    But F w ((((((((w1.setCell ⟨r, 0, none⟩ x0).setCell ⟨r, 1, none⟩ x1).setCell ⟨r, 2, none⟩ x2).setCell ⟨r, 3, none⟩ x3).setCell ⟨r, 4, none⟩ x4).setCell ⟨r, 5, none⟩ x5).setCell ⟨r, 6, none⟩ x6).setCell ⟨r, 7, none⟩ x7) :=
  (((((((h.setCell (a := ⟨r, 0, none⟩) hr x0).setCell (a := ⟨r, 1, none⟩) hr x1).setCell (a := ⟨r, 2, none⟩) hr x2).setCell (a := ⟨r, 3, none⟩) hr x3).setCell (a := ⟨r, 4, none⟩) hr x4).setCell (a := ⟨r, 5, none⟩) hr x5).setCell (a := ⟨r, 6, none⟩) hr x6).setCell (a := ⟨r, 7, none⟩) hr x7

set_option maxHeartbeats 4000000 in
theorem wayTo_any {b g0 g1 : Nat} {vm : Value} {S : Pg.Fs} (t p : Int) (w : World) (h : MemAt w b g0 g1 vm S) :
    Calls Try.prog 12 #[.pointer (some ⟨b, 0, none⟩), .int .i64 t, .int .i64 p] w fun e w' => WayDone w (fndX S t p) (fndC S t p) e w' := by
  cases hp : Pg.below p 4096
  · have e1 : fndX S t p = [] := by simp [fndX, hp]
    have e2 : fndC S t p = 1 := by simp [fndC, hp]
    rw [e1, e2]
    have hq : decide (p < 0) = true ∨ (decide (p < 0) = false ∧ 4096 ≤ p) := by
      rcases Pg.below_not.1 hp with h | h
      · exact .inl (by simpa using h)
      · exact .inr ⟨by simp; omega, h⟩
    clear h e1 e2 hp
    rcases hq with hq | ⟨hq, hq2⟩
    all_goals
      go_enter Try.func12, Try.ntmps12
      go_wp2_with fail
      refine bodyPost_ret (v := .tuple #[wayV [] (.slice none 0 0), .int .i64 1]) ?_ rfl ⟨⟨none, 0, rfl, fun j hj => absurd hj (by simp [tabs])⟩, ?_, fun _ _ _ _ h => by simp [wayV] at h⟩
      · simp [results, Try.results12, go_sem, wayV, lastL, lastE, Pg.En.zero]
      · exact balloc (brefl w) _
  · obtain ⟨p0, p1⟩ := Pg.below_iff.1 hp
    have HM : Hid _ := h
    have HP : Hid _ := hp
    have e2 : fndC S t p = (Pg.thr S (Pg.onW p) 3 t 0).2 := by simp [fndC, hp]
    have e1 : fndX S t p = if (Pg.thr S (Pg.onW p) 3 t 0).2 = 0 then (Pg.thr S (Pg.onW p) 3 t 0).1 else [] := by simp [fndX, hp]
    rw [e1, e2]
    have d0 : decide (p < 0) = false := by simpa using p0
    have d1 : ¬ (4096 : Int) ≤ p := by omega
    have HW : Hid (WayAt w [] 3 (.slice none 0 0) ((w.alloc (.cells #[.slice none 0 0, .bool false, .bool false, .int .i64 0, .bool false, .bool false, .int .i64 0, .int .i64 0] 36)).alloc (.cells #[.slice none 0 0, .bool false, .bool false, .int .i64 0, .bool false, .bool false, .int .i64 0, .int .i64 3] 36))) := by
      refine ⟨balloc (balloc (brefl w) _) _, ?_, fun o => by simp [go_sem], ?_, fun o => by simp [go_sem], World.ownsRow_nil _ _ _ _⟩
      · refine ⟨?_, ?_, ?_, ?_, ?_, ?_, ?_, ?_⟩ <;> simp [go_sem, Pg.En.zero]
      · refine ⟨?_, ?_, ?_, ?_, ?_, ?_, ?_, ?_⟩ <;> simp [go_sem, Pg.En.zero]
    clear h e1 e2 hp
    obtain ⟨q0, hq, hz0, hz1, hz2⟩ := info_parts infoIntW
    generalize hth : Pg.thr S (Pg.onW p) 3 t 0 = th
    have HTH : Hid _ := hth
    clear hth
    obtain ⟨Xf, HXF⟩ : ∃ Xf, Hid (Xf = if th.2 = 0 then th.1 else []) := ⟨_, rfl⟩
    obtain ⟨cf, HCF⟩ : ∃ cf, Hid (cf = th.2) := ⟨_, rfl⟩
    rw [← HXF.out, ← HCF.out]
    go_enter Try.func12, Try.ntmps12
    go_wp2_with fail
    go_loopw [9] (fun i wr => ∃ (lv : Nat) (t' : Int) (a : Nat) (X : List Pg.Sp) (vb : Value), i = .int .i64 t' ∧ lv < 4 ∧ X.length + lv = 3 ∧ Hid (WayAt w X lv vb wr ∧ th = (X ++ (Pg.thr S (Pg.onW p) lv t' a).1, (Pg.thr S (Pg.onW p) lv t' a).2))) (fun _ wr => match wr.cell? ⟨w.heap.size + 1, 7, none⟩ with | some v => (intOf v).toNat | none => 0)
    case atStart => exact ⟨3, t, 0, [], .slice none 0 0, rfl, by omega, rfl, HW.out, by rw [HTH.out]; rfl⟩
    case round =>
      obtain ⟨lv, t', a, X, vb, rfl, hlv, hXl, HR⟩ := hrel
      clear HW
      have hthw := Pg.thr_way S p lv t' a
      have HM2 : Hid _ := HM.out.keep (F := fun k => w.heap.size ≤ k) (w' := wr) ⟨HR.out.1.bel.os, HR.out.1.bel.tape, HR.out.1.bel.output, HR.out.1.bel.size, fun k hk _ => HR.out.1.bel.block k hk⟩ (fun k hk => by have := HM.out.raw.lt hk; omega)
      have HT := memTaken_any t' wr HM2.out
      have hlr := HR.out.1.r.lb
      have hlc := HR.out.1.c.lb
      have hrf := HR.out.1.rf
      have hcf := HR.out.1.cf
      obtain ⟨r0, r1, r2, r3, r4, r5, r6, r7⟩ := HR.out.1.r
      obtain ⟨k0, k1, k2, k3, k4, k5, k6, k7⟩ := HR.out.1.c
      simp only [Pg.En.zero] at r1 r2 r3 r4 r5 r6 k1 k2 k3 k4 k5 k6
      cases hh : S.has t'
      · have hrc : Pg.rCode S t' (Pg.ix p lv) lv = 12 := by simp [Pg.rCode, hh]
        rw [hrc, if_pos (by decide)] at hthw
        have HE : Hid (Xf = [] ∧ cf = 12) := by
          have h1 := HR.out.2
          rw [hthw] at h1
          rw [Hid, HXF.out, HCF.out, h1]
          simp
        rw [hh] at HT
        clear hthw hrc hh
        go_wp2_with (go_at_call 49; refine HT.mono ?_; rintro e w1 ⟨rfl, hw⟩; subst w1)
        refine bodyPost_ret (v := .tuple #[wayV [] (.slice none 0 0), .int .i64 12]) ?_ rfl ?_
        · simp [results, Try.results12, go_sem, wayV, lastL, lastE, Pg.En.zero, r0, r1, r2, r3, r4, r5, r6, r7]
        · rw [HE.out.1, HE.out.2]
          have hbt := but_set8 (But.refl (fun k => k = w.heap.size) wr) w.heap.size (.inr rfl) (.slice none 0 0) (.bool false) (.bool false) (.int .i64 0) (.bool false) (.bool false) (.int .i64 0) (.int .i64 0)
          exact ⟨⟨none, 0, rfl, fun j hj => absurd hj (by simp [tabs])⟩, HR.out.1.bel.trans (hbt.below HR.out.1.bel.size fun k hk => by omega), fun _ _ _ _ h => by simp [wayV] at h⟩
      · obtain ⟨t0, t1, _⟩ := HM2.out.ok.has_lt hh
        obtain ⟨tn, rfl⟩ := Int.eq_ofNat_of_zero_le t0
        have hix := Pg.ix_lt p lv
        have hsm := HM2.out.ok.small
        have m0 := HM2.out.raw.c0
        have mw := HM2.out.raw.cw tn (Pg.ix p lv) (by omega) hix
        have u0 := HM2.out.ok.low tn (Pg.ix p lv)
        have u1 := HM2.out.ok.high tn (Pg.ix p lv)
        have hrc : Pg.rCode S (tn : Int) (Pg.ix p lv) lv = Pg.dCode (S.word tn (Pg.ix p lv)) lv := by simp [Pg.rCode, hh]
        have hre : Pg.rEn S (tn : Int) (Pg.ix p lv) lv = Pg.En.of (S.word tn (Pg.ix p lv)) lv := by simp [Pg.rEn, hh]
        have HIx := indexOf_any p (lv : Int)
        rw [Pg.index_ix HP.out hlv] at HIx
        have HEO := entryOf_any (S.word tn (Pg.ix p lv)) (lv : Int) u0 u1
        rw [Pg.decV_of, ← hre, ← hrc] at HEO
        rw [hh] at HT
        generalize S.word tn (Pg.ix p lv) = W at *
        clear hre hrc hh u0 u1 t0
        have HTW : Hid _ := hthw
        have HSP : Hid (∀ a, Pg.spt S (tn : Int) (Pg.ix p lv) lv a = ⟨(tn : Int), Pg.ix p lv, lv, a + Pg.ix p lv, Pg.rEn S (tn : Int) (Pg.ix p lv) lv⟩) := fun a => rfl
        have HON : Hid _ := @Pg.rEn_on S (tn : Int) (Pg.ix p lv) lv
        clear hthw
        generalize Pg.rCode S (tn : Int) (Pg.ix p lv) lv = rc at *
        generalize Pg.rEn S (tn : Int) (Pg.ix p lv) lv = E at *
        generalize hixx : Pg.ix p lv = ix at *
        have HIXX : Hid _ := hixx
        clear hixx
        obtain ⟨et, el, er, eu, ed, ef⟩ := E
        simp only [Pg.En.val] at HEO
        have i0 : (0 : Int) ≤ (tn : Int) := by omega
        have i1 : (tn : Int) < (S.n : Int) := by omega
        have i2 : (0 : Int) ≤ (ix : Int) := by omega
        have i3 : (ix : Int) < 8 := by omega
        have M0 := cell_regrown m0
        have MW := cell_regrown mw
        have K7 := cell_regrown k7
        go_wp2_with (go_at_call 49; refine HT.mono ?_; rintro e w1 ⟨rfl, hw⟩; subst w1)
        have hbl := HM2.out.raw.lb
        have hgl := HM2.out.raw.l0
        have xn0 : wr.heap.size ≠ b := by omega
        have xm0 : b ≠ wr.heap.size := by omega
        have xn1 : wr.heap.size ≠ g0 := by omega
        have xm1 : g0 ≠ wr.heap.size := by omega
        have xn2 : wr.heap.size ≠ w.heap.size + 1 := by omega
        have xm2 : w.heap.size + 1 ≠ wr.heap.size := by omega
        go_region_held3 (fun w' => w'.cell? ⟨b, 0, none⟩ = some (.slice (some ⟨g0, 0, none⟩) S.n S.n) ∧ w'.cell? ⟨g0, tn * 8 + ix, none⟩ = some (.int .u64 W) ∧ w'.cell? ⟨w.heap.size + 1, 7, none⟩ = some (.int .i64 (lv : Int))) (go_keep) (first
          | (go_at_call 14; refine (HIx _).mono ?_; rintro e w2 ⟨rfl, hb2⟩; have HB2 : Hid _ := hb2; have z0 : w2.cell? ⟨b, 0, none⟩ = some (.slice (some ⟨g0, 0, none⟩) S.n S.n) := (hb2.cell (p := ⟨b, 0, none⟩) (by first | omega | (simp; omega))).trans (by first | exact m0 | (simp [go_sem, m0, hbl]; done)); have zl0 := World.block_lt_of_cell? _ _ z0; simp only at zl0; have z1 : w2.cell? ⟨g0, tn * 8 + ix, none⟩ = some (.int .u64 W) := (hb2.cell (p := ⟨g0, tn * 8 + ix, none⟩) (by first | omega | (simp; omega))).trans (by first | exact mw | (simp [go_sem, mw, hgl]; done)); have zl1 := World.block_lt_of_cell? _ _ z1; simp only at zl1; have z2 : w2.cell? ⟨w.heap.size + 1, 7, none⟩ = some (.int .i64 (lv : Int)) := (hb2.cell (p := ⟨w.heap.size + 1, 7, none⟩) (by first | omega | (simp; omega))).trans (by first | exact k7 | (simp [go_sem, k7, hlc]; done)); have zl2 := World.block_lt_of_cell? _ _ z2; simp only at zl2; (try have s2 : wr.heap.size < w2.heap.size := (by have := hb2.size; simp at this; omega)); have zn0 : w2.heap.size ≠ b := (by omega); have zm0 : b ≠ w2.heap.size := (by omega); have zn1 : w2.heap.size ≠ g0 := (by omega); have zm1 : g0 ≠ w2.heap.size := (by omega); have zn2 : w2.heap.size ≠ w.heap.size + 1 := (by omega); have zm2 : w.heap.size + 1 ≠ w2.heap.size := (by omega); obtain ⟨hcw2, hfw2⟩ := bcell hb2; clear hb2)
          | (go_at_call 55; refine (HEO _).mono ?_; rintro e w3 ⟨rfl, hb3⟩; have HB3 : Hid _ := hb3; have y0 : w3.cell? ⟨b, 0, none⟩ = some (.slice (some ⟨g0, 0, none⟩) S.n S.n) := (hb3.cell (p := ⟨b, 0, none⟩) (by first | omega | (simp; omega))).trans (by first | exact z0 | (simp [go_sem, z0, zl0]; done)); have yl0 := World.block_lt_of_cell? _ _ y0; simp only at yl0; have y1 : w3.cell? ⟨g0, tn * 8 + ix, none⟩ = some (.int .u64 W) := (hb3.cell (p := ⟨g0, tn * 8 + ix, none⟩) (by first | omega | (simp; omega))).trans (by first | exact z1 | (simp [go_sem, z1, zl1]; done)); have yl1 := World.block_lt_of_cell? _ _ y1; simp only at yl1; have y2 : w3.cell? ⟨w.heap.size + 1, 7, none⟩ = some (.int .i64 (lv : Int)) := (hb3.cell (p := ⟨w.heap.size + 1, 7, none⟩) (by first | omega | (simp; omega))).trans (by first | exact z2 | (simp [go_sem, z2, zl2]; done)); have yl2 := World.block_lt_of_cell? _ _ y2; simp only at yl2; have yn0 : w3.heap.size ≠ b := (by omega); have ym0 : b ≠ w3.heap.size := (by omega); have yn1 : w3.heap.size ≠ g0 := (by omega); have ym1 : g0 ≠ w3.heap.size := (by omega); have yn2 : w3.heap.size ≠ w.heap.size + 1 := (by omega); have ym2 : w.heap.size + 1 ≠ w3.heap.size := (by omega); obtain ⟨hcw3, hfw3⟩ := bcell hb3; clear hb3))
        focus
          have hW5 : Below wr.heap.size wr (w3.alloc (.cells #[.bool et, .bool el, .int .i64 er, .bool eu, .bool ed, .int .i64 ef] 29)) ∧ wr.heap.size ≤ w3.heap.size ∧ ((w3.alloc (.cells #[.bool et, .bool el, .int .i64 er, .bool eu, .bool ed, .int .i64 ef] 29)).cell? ⟨w3.heap.size, 0, none⟩ = some (.bool et) ∧ (w3.alloc (.cells #[.bool et, .bool el, .int .i64 er, .bool eu, .bool ed, .int .i64 ef] 29)).cell? ⟨w3.heap.size, 1, none⟩ = some (.bool el) ∧ (w3.alloc (.cells #[.bool et, .bool el, .int .i64 er, .bool eu, .bool ed, .int .i64 ef] 29)).cell? ⟨w3.heap.size, 2, none⟩ = some (.int .i64 er) ∧ (w3.alloc (.cells #[.bool et, .bool el, .int .i64 er, .bool eu, .bool ed, .int .i64 ef] 29)).cell? ⟨w3.heap.size, 3, none⟩ = some (.bool eu) ∧ (w3.alloc (.cells #[.bool et, .bool el, .int .i64 er, .bool eu, .bool ed, .int .i64 ef] 29)).cell? ⟨w3.heap.size, 4, none⟩ = some (.bool ed) ∧ (w3.alloc (.cells #[.bool et, .bool el, .int .i64 er, .bool eu, .bool ed, .int .i64 ef] 29)).cell? ⟨w3.heap.size, 5, none⟩ = some (.int .i64 ef)) := by
            have hB3 := bthen (bthen (brefl wr).drew HB2.out) HB3.out
            exact ⟨balloc hB3 _, hB3.size, by simp [go_sem]⟩
          generalize w3.alloc (.cells #[.bool et, .bool el, .int .i64 er, .bool eu, .bool ed, .int .i64 ef] 29) = W5 at *
          generalize w3.heap.size = Eb at *
          obtain ⟨EB0, hEb, hE6⟩ := hW5
          have EB : Hid _ := EB0
          have E6 : Hid _ := hE6
          clear EB0 hE6 hcw2 hfw2 hcw3 hfw3 z0 z1 z2 zl0 zl1 zl2 y0 y1 y2 yl0 yl1 yl2 zn0 zn1 zn2 zm0 zm1 zm2 yn0 yn1 yn2 ym0 ym1 ym2 HB2 HB3
        rotate_left
        focus
          have hW5 : Below wr.heap.size wr (((((((w3.setCell ⟨w2.heap.size, 0, none⟩ (.bool et)).setCell ⟨w2.heap.size, 1, none⟩ (.bool el)).setCell ⟨w2.heap.size, 2, none⟩ (.int .i64 er)).setCell ⟨w2.heap.size, 3, none⟩ (.bool eu)).setCell ⟨w2.heap.size, 4, none⟩ (.bool ed)).setCell ⟨w2.heap.size, 5, none⟩ (.int .i64 ef))) ∧ wr.heap.size ≤ w2.heap.size ∧ ((((((((w3.setCell ⟨w2.heap.size, 0, none⟩ (.bool et)).setCell ⟨w2.heap.size, 1, none⟩ (.bool el)).setCell ⟨w2.heap.size, 2, none⟩ (.int .i64 er)).setCell ⟨w2.heap.size, 3, none⟩ (.bool eu)).setCell ⟨w2.heap.size, 4, none⟩ (.bool ed)).setCell ⟨w2.heap.size, 5, none⟩ (.int .i64 ef))).cell? ⟨w2.heap.size, 0, none⟩ = some (.bool et) ∧ (((((((w3.setCell ⟨w2.heap.size, 0, none⟩ (.bool et)).setCell ⟨w2.heap.size, 1, none⟩ (.bool el)).setCell ⟨w2.heap.size, 2, none⟩ (.int .i64 er)).setCell ⟨w2.heap.size, 3, none⟩ (.bool eu)).setCell ⟨w2.heap.size, 4, none⟩ (.bool ed)).setCell ⟨w2.heap.size, 5, none⟩ (.int .i64 ef))).cell? ⟨w2.heap.size, 1, none⟩ = some (.bool el) ∧ (((((((w3.setCell ⟨w2.heap.size, 0, none⟩ (.bool et)).setCell ⟨w2.heap.size, 1, none⟩ (.bool el)).setCell ⟨w2.heap.size, 2, none⟩ (.int .i64 er)).setCell ⟨w2.heap.size, 3, none⟩ (.bool eu)).setCell ⟨w2.heap.size, 4, none⟩ (.bool ed)).setCell ⟨w2.heap.size, 5, none⟩ (.int .i64 ef))).cell? ⟨w2.heap.size, 2, none⟩ = some (.int .i64 er) ∧ (((((((w3.setCell ⟨w2.heap.size, 0, none⟩ (.bool et)).setCell ⟨w2.heap.size, 1, none⟩ (.bool el)).setCell ⟨w2.heap.size, 2, none⟩ (.int .i64 er)).setCell ⟨w2.heap.size, 3, none⟩ (.bool eu)).setCell ⟨w2.heap.size, 4, none⟩ (.bool ed)).setCell ⟨w2.heap.size, 5, none⟩ (.int .i64 ef))).cell? ⟨w2.heap.size, 3, none⟩ = some (.bool eu) ∧ (((((((w3.setCell ⟨w2.heap.size, 0, none⟩ (.bool et)).setCell ⟨w2.heap.size, 1, none⟩ (.bool el)).setCell ⟨w2.heap.size, 2, none⟩ (.int .i64 er)).setCell ⟨w2.heap.size, 3, none⟩ (.bool eu)).setCell ⟨w2.heap.size, 4, none⟩ (.bool ed)).setCell ⟨w2.heap.size, 5, none⟩ (.int .i64 ef))).cell? ⟨w2.heap.size, 4, none⟩ = some (.bool ed) ∧ (((((((w3.setCell ⟨w2.heap.size, 0, none⟩ (.bool et)).setCell ⟨w2.heap.size, 1, none⟩ (.bool el)).setCell ⟨w2.heap.size, 2, none⟩ (.int .i64 er)).setCell ⟨w2.heap.size, 3, none⟩ (.bool eu)).setCell ⟨w2.heap.size, 4, none⟩ (.bool ed)).setCell ⟨w2.heap.size, 5, none⟩ (.int .i64 ef))).cell? ⟨w2.heap.size, 5, none⟩ = some (.int .i64 ef)) := by
            have hB2 := bthen (brefl wr).drew HB2.out
            have hB3 := bthen (balloc hB2 _) HB3.out
            have h6 : w3.cell? ⟨w2.heap.size, 0, none⟩ = some (.bool false) ∧ w3.cell? ⟨w2.heap.size, 1, none⟩ = some (.bool false) ∧ w3.cell? ⟨w2.heap.size, 2, none⟩ = some (.int .i64 0) ∧ w3.cell? ⟨w2.heap.size, 3, none⟩ = some (.bool false) ∧ w3.cell? ⟨w2.heap.size, 4, none⟩ = some (.bool false) ∧ w3.cell? ⟨w2.heap.size, 5, none⟩ = some (.int .i64 0) := by
              refine ⟨?_, ?_, ?_, ?_, ?_, ?_⟩ <;> (rw [hcw3 _ _ (by simp)]; simp [go_sem])
            have hst := stored6 (v0 := .bool et) (v1 := .bool el) (v2 := .int .i64 er) (v3 := .bool eu) (v4 := .bool ed) (v5 := .int .i64 ef) hB3 hB2.size h6
            exact ⟨hst.1, hB2.size, hst.2.1⟩
          generalize ((((((w3.setCell ⟨w2.heap.size, 0, none⟩ (.bool et)).setCell ⟨w2.heap.size, 1, none⟩ (.bool el)).setCell ⟨w2.heap.size, 2, none⟩ (.int .i64 er)).setCell ⟨w2.heap.size, 3, none⟩ (.bool eu)).setCell ⟨w2.heap.size, 4, none⟩ (.bool ed)).setCell ⟨w2.heap.size, 5, none⟩ (.int .i64 ef)) = W5 at *
          generalize w2.heap.size = Eb at *
          obtain ⟨EB0, hEb, hE6⟩ := hW5
          have EB : Hid _ := EB0
          have E6 : Hid _ := hE6
          clear EB0 hE6 hcw2 hfw2 hcw3 hfw3 z0 z1 z2 zl0 zl1 zl2 y0 y1 y2 yl0 yl1 yl2 zn0 zn1 zn2 zm0 zm1 zm2 yn0 yn1 yn2 ym0 ym1 ym2 HB2 HB3
        rotate_left
        focus
          obtain ⟨Eb, hEbE⟩ : ∃ Eb, Eb = wr.heap.size := ⟨_, rfl⟩
          rw [← hEbE]
          have hW5 : Below wr.heap.size wr (((((((w3.setCell ⟨Eb, 0, none⟩ (.bool et)).setCell ⟨Eb, 1, none⟩ (.bool el)).setCell ⟨Eb, 2, none⟩ (.int .i64 er)).setCell ⟨Eb, 3, none⟩ (.bool eu)).setCell ⟨Eb, 4, none⟩ (.bool ed)).setCell ⟨Eb, 5, none⟩ (.int .i64 ef))) ∧ wr.heap.size ≤ Eb ∧ ((((((((w3.setCell ⟨Eb, 0, none⟩ (.bool et)).setCell ⟨Eb, 1, none⟩ (.bool el)).setCell ⟨Eb, 2, none⟩ (.int .i64 er)).setCell ⟨Eb, 3, none⟩ (.bool eu)).setCell ⟨Eb, 4, none⟩ (.bool ed)).setCell ⟨Eb, 5, none⟩ (.int .i64 ef))).cell? ⟨Eb, 0, none⟩ = some (.bool et) ∧ (((((((w3.setCell ⟨Eb, 0, none⟩ (.bool et)).setCell ⟨Eb, 1, none⟩ (.bool el)).setCell ⟨Eb, 2, none⟩ (.int .i64 er)).setCell ⟨Eb, 3, none⟩ (.bool eu)).setCell ⟨Eb, 4, none⟩ (.bool ed)).setCell ⟨Eb, 5, none⟩ (.int .i64 ef))).cell? ⟨Eb, 1, none⟩ = some (.bool el) ∧ (((((((w3.setCell ⟨Eb, 0, none⟩ (.bool et)).setCell ⟨Eb, 1, none⟩ (.bool el)).setCell ⟨Eb, 2, none⟩ (.int .i64 er)).setCell ⟨Eb, 3, none⟩ (.bool eu)).setCell ⟨Eb, 4, none⟩ (.bool ed)).setCell ⟨Eb, 5, none⟩ (.int .i64 ef))).cell? ⟨Eb, 2, none⟩ = some (.int .i64 er) ∧ (((((((w3.setCell ⟨Eb, 0, none⟩ (.bool et)).setCell ⟨Eb, 1, none⟩ (.bool el)).setCell ⟨Eb, 2, none⟩ (.int .i64 er)).setCell ⟨Eb, 3, none⟩ (.bool eu)).setCell ⟨Eb, 4, none⟩ (.bool ed)).setCell ⟨Eb, 5, none⟩ (.int .i64 ef))).cell? ⟨Eb, 3, none⟩ = some (.bool eu) ∧ (((((((w3.setCell ⟨Eb, 0, none⟩ (.bool et)).setCell ⟨Eb, 1, none⟩ (.bool el)).setCell ⟨Eb, 2, none⟩ (.int .i64 er)).setCell ⟨Eb, 3, none⟩ (.bool eu)).setCell ⟨Eb, 4, none⟩ (.bool ed)).setCell ⟨Eb, 5, none⟩ (.int .i64 ef))).cell? ⟨Eb, 4, none⟩ = some (.bool ed) ∧ (((((((w3.setCell ⟨Eb, 0, none⟩ (.bool et)).setCell ⟨Eb, 1, none⟩ (.bool el)).setCell ⟨Eb, 2, none⟩ (.int .i64 er)).setCell ⟨Eb, 3, none⟩ (.bool eu)).setCell ⟨Eb, 4, none⟩ (.bool ed)).setCell ⟨Eb, 5, none⟩ (.int .i64 ef))).cell? ⟨Eb, 5, none⟩ = some (.int .i64 ef)) := by
            subst hEbE
            have hB2 := bthen (balloc (brefl wr) _).drew HB2.out
            have hB3 := bthen hB2 HB3.out
            have h6 : w3.cell? ⟨wr.heap.size, 0, none⟩ = some (.bool false) ∧ w3.cell? ⟨wr.heap.size, 1, none⟩ = some (.bool false) ∧ w3.cell? ⟨wr.heap.size, 2, none⟩ = some (.int .i64 0) ∧ w3.cell? ⟨wr.heap.size, 3, none⟩ = some (.bool false) ∧ w3.cell? ⟨wr.heap.size, 4, none⟩ = some (.bool false) ∧ w3.cell? ⟨wr.heap.size, 5, none⟩ = some (.int .i64 0) := by
              refine ⟨?_, ?_, ?_, ?_, ?_, ?_⟩ <;> (rw [hcw3 _ _ s2, hcw2 _ _ (by simp)]; simp [go_sem])
            have hst := stored6 (v0 := .bool et) (v1 := .bool el) (v2 := .int .i64 er) (v3 := .bool eu) (v4 := .bool ed) (v5 := .int .i64 ef) hB3 (Nat.le_refl _) h6
            exact ⟨hst.1, Nat.le_refl _, hst.2.1⟩
          generalize ((((((w3.setCell ⟨Eb, 0, none⟩ (.bool et)).setCell ⟨Eb, 1, none⟩ (.bool el)).setCell ⟨Eb, 2, none⟩ (.int .i64 er)).setCell ⟨Eb, 3, none⟩ (.bool eu)).setCell ⟨Eb, 4, none⟩ (.bool ed)).setCell ⟨Eb, 5, none⟩ (.int .i64 ef)) = W5 at *
          obtain ⟨EB0, hEb, hE6⟩ := hW5
          have EB : Hid _ := EB0
          have E6 : Hid _ := hE6
          clear EB0 hE6 hEbE hcw2 hfw2 hcw3 hfw3 z0 z1 z2 zl0 zl1 zl2 y0 y1 y2 yl0 yl1 yl2 zn0 zn1 zn2 zm0 zm1 zm2 yn0 yn1 yn2 ym0 ym1 ym2 HB2 HB3
        rotate_left
        all_goals
          have hlEb := World.block_lt_of_cell? _ _ E6.out.1
          simp only at hlEb
          have W5A : Hid (WayAt w X lv vb W5) := HR.out.1.grow EB.out
          have hvb : Hid (∀ k, vb.ownBlock = some k → k < wr.heap.size) := fun k hk => (World.ownsRow.lt HR.out.1.own k hk).2
          clear r0 r1 r2 r3 r4 r5 r6 r7 k0 k1 k2 k3 k4 k5 k6 k7 m0 mw M0 MW K7 hrf hcf HT HIx HEO
          have hrf := W5A.out.rf
          have hcf := W5A.out.cf
          obtain ⟨r0, r1, r2, r3, r4, r5, r6, r7⟩ := W5A.out.r
          obtain ⟨k0, k1, k2, k3, k4, k5, k6, k7⟩ := W5A.out.c
          simp only [Pg.En.zero] at r1 r2 r3 r4 r5 r6 k1 k2 k3 k4 k5 k6
          have hlr5 := W5A.out.r.lb
          have hlc5 := W5A.out.c.lb
          have nE1 : Eb ≠ w.heap.size := by omega
          have nE2 : Eb ≠ w.heap.size + 1 := by omega
          by_cases hrc : rc = 0
          · subst hrc
            have hown : W5.ownsRow (w.heap.size + 1 + 1) 3 1 vb X.length (ints (tabs X)) := W5A.out.own
            go_wp2_with (first
              | (at_builtin; refine wpList_append_lies _ rfl _ _ 30 rfl (w.heap.size + 1 + 1) 3 q0 (.int .i64 0) 1 8 Try.underlying30 hq hz0 hz1 hz2 rfl (by decide) _ _ _ rfl (hown.alloc _) ⟨W5.heap.size, 0, none⟩ 1 1 [.int .i64 (tn : Int)] rfl rfl ?c1 ?c2 (by decide) ?c3 ?c4 ?c5 (W5.heap.size + 1) (by simp) ?_))
            case c1 =>
              intro j u hj
              match j, hj with
              | 0, hj => simp at hj; subst hj; simp [Addr.add, go_sem]
            case c2 => intro u hu; simp at hu; subst hu; rfl
            case c3 => unfold maxLen; omega
            case c4 => omega
            case c5 => simp; omega
            intro g cap w6 hown6 hgrow6 hat6 hlt6
            have G6 : Hid _ := grew hown hgrow6 hat6 hlc5 hlt6
            have hblkE : w6.heap[Eb]? = W5.heap[Eb]? := G6.out.but.block Eb hlEb fun e => by have := hvb.out Eb e; omega
            obtain ⟨x0, x1, x2, x3, x4, x5⟩ := E6.out
            replace x0 := (World.cell?_of_block hblkE).trans x0
            replace x1 := (World.cell?_of_block hblkE).trans x1
            replace x2 := (World.cell?_of_block hblkE).trans x2
            replace x3 := (World.cell?_of_block hblkE).trans x3
            replace x4 := (World.cell?_of_block hblkE).trans x4
            replace x5 := (World.cell?_of_block hblkE).trans x5
            have b0 : w6.heap[w.heap.size]? = W5.heap[w.heap.size]? := G6.out.but.block _ hlr5 fun e => by have := G6.out.far _ e; omega
            have b1 : w6.heap[w.heap.size + 1]? = W5.heap[w.heap.size + 1]? := G6.out.but.block _ hlc5 fun e => by have := G6.out.far _ e; omega
            have A7 : Hid (WayAt w (X ++ [⟨(tn : Int), ix, lv, a + ix, ⟨et, el, er, eu, ed, ef⟩⟩]) lv (.slice (some ⟨g, 0, none⟩) (X.length + 1) cap) (w6.setCell ⟨w.heap.size + 1, 0, none⟩ (.slice (some ⟨g, 0, none⟩) (X.length + 1) cap))) := W5A.out.push G6.out hown6 _ rfl
            clear r0 r1 r2 r3 r4 r5 r6 r7 k0 k1 k2 k3 k4 k5 k6 k7 hrf hcf
            obtain ⟨r0, r1, r2, r3, r4, r5, r6, r7⟩ := W5A.out.r.of_block b0
            obtain ⟨k0, k1, k2, k3, k4, k5, k6, k7⟩ := W5A.out.c.of_block b1
            simp only [Pg.En.zero] at r1 r2 r3 r4 r5 r6 k1 k2 k3 k4 k5 k6
            have hrf : ∀ o, w6.frozen? ⟨w.heap.size, o, none⟩ = false := fun o => (World.frozen?_of_block b0).trans (W5A.out.rf o)
            have hcf : ∀ o, w6.frozen? ⟨w.heap.size + 1, o, none⟩ = false := fun o => (World.frozen?_of_block b1).trans (W5A.out.cf o)
            have hl6 : w.heap.size + 1 < w6.heap.size := by have := G6.out.but.size; omega
            have hlE6 : Eb < w6.heap.size := by have := G6.out.but.size; omega
            clear hown6 hgrow6 hat6 hlt6 b0 b1 hblkE hown
            have hend : et = false ∨ (et = true ∧ el = true) ∨ (et = true ∧ el = false) := by cases et <;> cases el <;> simp
            rcases hend with rfl | ⟨rfl, rfl⟩ | ⟨rfl, rfl⟩
            focus
              have HX2 : Hid (Xf = X ++ [⟨(tn : Int), ix, lv, a + ix, ⟨false, el, er, eu, ed, ef⟩⟩] ∧ cf = 0) := by
                have h1 := HR.out.2
                rw [HTW.out, if_neg (by simp), if_pos (by simp [Pg.En.on]), HSP.out] at h1
                rw [Hid, HXF.out, HCF.out, h1]
                simp
              obtain ⟨sp, hsp⟩ : ∃ sp : Pg.Sp, sp = ⟨(tn : Int), ix, lv, a + ix, ⟨false, el, er, eu, ed, ef⟩⟩ := ⟨_, rfl⟩
              have HSE : Hid (sp.e = ⟨false, el, er, eu, ed, ef⟩ ∧ sp.level = lv) := by rw [hsp]; exact ⟨rfl, rfl⟩
              rw [← hsp] at A7 HX2
              clear hsp
            rotate_left
            focus
              have HX2 : Hid (Xf = X ++ [⟨(tn : Int), ix, lv, a + ix, ⟨true, true, er, eu, ed, ef⟩⟩] ∧ cf = 0) := by
                have h1 := HR.out.2
                rw [HTW.out, if_neg (by simp), if_pos (by simp [Pg.En.on]), HSP.out] at h1
                rw [Hid, HXF.out, HCF.out, h1]
                simp
              obtain ⟨sp, hsp⟩ : ∃ sp : Pg.Sp, sp = ⟨(tn : Int), ix, lv, a + ix, ⟨true, true, er, eu, ed, ef⟩⟩ := ⟨_, rfl⟩
              have HSE : Hid (sp.e = ⟨true, true, er, eu, ed, ef⟩ ∧ sp.level = lv) := by rw [hsp]; exact ⟨rfl, rfl⟩
              rw [← hsp] at A7 HX2
              clear hsp
            rotate_left
            focus
              obtain ⟨m, hm⟩ := HON.out rfl
              have hlm : (lv : Int) - 1 = (m : Int) := by omega
              have hlm1 : (1 : Int) ≤ (lv : Int) := by omega
              go_wp2_with fail
              have A8 := A7.out.lower (m : Int)
              refine ⟨⟨m, ef, (a + ix) * 8, X ++ [⟨(tn : Int), ix, lv, a + ix, ⟨true, false, er, eu, ed, ef⟩⟩], .slice (some ⟨g, 0, none⟩) (X.length + 1) cap, rfl, by omega, by rw [List.length_append, List.length_singleton]; omega, A8, ?_⟩, ?_⟩
              · have h1 := HR.out.2
                rw [HTW.out, if_neg (by simp), if_neg (by simp [Pg.En.on]), HSP.out, hm] at h1
                rw [h1, hm]
                simp [Pg.sub]
              · have q1 := A8.c.2.2.2.2.2.2.2
                have q2 := HR.out.1.c.2.2.2.2.2.2.2
                rw [q1, q2]
                simp [intOf]
                omega
            all_goals
              go_wp2_with fail
              have HV : Hid (wayV (X ++ [sp]) (.slice (some ⟨g, 0, none⟩) (X.length + 1) cap) = .agg #[.slice (some ⟨g, 0, none⟩) (X.length + 1) cap, .bool sp.e.t, .bool sp.e.l, .int .i64 sp.e.r, .bool sp.e.u, .bool sp.e.d, .int .i64 sp.e.f, .int .i64 (sp.level : Int)]) := by rw [Hid, wayV, lastE_push, lastL_push]
              rw [HSE.out.1, HSE.out.2] at HV
              refine bodyPost_ret (v := .tuple #[wayV (X ++ [sp]) (.slice (some ⟨g, 0, none⟩) (X.length + 1) cap), .int .i64 0]) ?_ rfl ?_
              · rw [HV.out]
                simp [results, Try.results12, go_sem, r0, r1, r2, r3, r4, r5, r6, r7]
              · rw [HX2.out.1, HX2.out.2]
                have fin : ∀ Wf, But (fun k => k = w.heap.size + 1 ∨ k = w.heap.size) (w6.setCell ⟨w.heap.size + 1, 0, none⟩ (.slice (some ⟨g, 0, none⟩) (X.length + 1) cap)) Wf → WayDone w (X ++ [sp]) 0 (.returned (.tuple #[wayV (X ++ [sp]) (.slice (some ⟨g, 0, none⟩) (X.length + 1) cap), .int .i64 0])) Wf := fun Wf hbt => by
                  refine ⟨⟨some ⟨g, 0, none⟩, cap, by rw [List.length_append, List.length_singleton], ?_⟩, A7.out.bel.trans (hbt.below A7.out.bel.size fun k hk => by omega), fun g' _ _ _ h => ?_⟩
                  rotate_left
                  · have e : g = g' := by simp [wayV] at h; exact h.1.1
                    have := (World.ownsRow.lt A7.out.own g rfl).1
                    omega
                  refine owns_intsAt (base := w.heap.size + 1 + 1) (n := X.length + 1) (cap := cap) ?_
                  rw [tabs_len]
                  exact ownsMaps_but A7.out.own hbt fun k hk e => by have := (World.ownsRow.lt A7.out.own k hk).1; omega
                refine fin _ ?_
                iterate 8 refine But.setCell ?_ (.inr (.inr rfl)) _
                iterate 6 refine But.setCell ?_ (.inr (.inl rfl)) _
                exact But.refl _ _
          · have hcb : (rc != 0) = true := by simp [hrc]
            have HX2 : Hid (Xf = [] ∧ cf = rc) := by
              have h1 := HR.out.2
              rw [HTW.out, if_pos hrc] at h1
              rw [Hid, HXF.out, HCF.out, h1]
              simp [hrc]
            clear hrc
            go_wp2_with fail
            refine bodyPost_ret (v := .tuple #[wayV [] (.slice none 0 0), .int .i64 rc]) ?_ rfl ?_
            · simp [results, Try.results12, go_sem, wayV, lastL, lastE, Pg.En.zero, r0, r1, r2, r3, r4, r5, r6, r7]
            · rw [HX2.out.1, HX2.out.2]
              have hbt := but_set8 (But.refl (fun k => k = w.heap.size) W5) w.heap.size (.inr rfl) (.slice none 0 0) (.bool false) (.bool false) (.int .i64 0) (.bool false) (.bool false) (.int .i64 0) (.int .i64 0)
              exact ⟨⟨none, 0, rfl, fun j hj => absurd hj (by simp [tabs])⟩, W5A.out.bel.trans (hbt.below W5A.out.bel.size fun k hk => by omega), fun _ _ _ _ h => by simp [wayV] at h⟩
end Go.Proofs.Ytbkpndgadgafiac
