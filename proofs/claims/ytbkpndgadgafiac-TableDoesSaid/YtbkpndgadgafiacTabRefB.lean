
/-
  The document's own changes of tables: Protect.
-/
import Derived.Test.YtbkpndgadgafiacTabRef
namespace Go.Proofs.Ytbkpndgadgafiac
open Go.RowKit Go.Sort
set_option linter.unusedVariables false
set_option linter.unusedSimpArgs false
set_option maxRecDepth 100000
attribute [local go_sem] Loose.gent

/-- What Protect reads and writes, at the end. -/
structure PrAt (w : World) (b g0 n g j Y x R k : Nat) (vt : Value) (el : Bool) (r : Int) (eu ed : Bool) (ef lv tl lp ls lf W : Int) : Prop where
  a0 : w.cell? ⟨b, 0, none⟩ = some (.slice (some ⟨g0, 0, none⟩) n n)
  a1 : w.cell? ⟨Y, 0, none⟩ = some vt
  a2 : w.cell? ⟨Y, 7, none⟩ = some (.int .i64 lv)
  a3 : w.cell? ⟨g, j, none⟩ = some (.int .i64 tl)
  y0 : w.cell? ⟨x + 1, 0, none⟩ = some (.bool true)
  y1 : w.cell? ⟨x + 1, 1, none⟩ = some (.bool el)
  y2 : w.cell? ⟨x + 1, 2, none⟩ = some (.int .i64 r)
  y3 : w.cell? ⟨x + 1, 3, none⟩ = some (.bool eu)
  y4 : w.cell? ⟨x + 1, 4, none⟩ = some (.bool ed)
  y5 : w.cell? ⟨x + 1, 5, none⟩ = some (.int .i64 ef)
  x0 : w.cell? ⟨x, 0, none⟩ = some (.int .i64 lp)
  x1 : w.cell? ⟨x, 1, none⟩ = some (.int .i64 ls)
  x2 : w.cell? ⟨x, 2, none⟩ = some (.int .i64 lf)
  x3 : w.cell? ⟨x, 3, none⟩ = some (.int .i64 r)
  z0 : w.cell? ⟨R, 0, none⟩ = some (.int .i64 0)
  z1 : w.cell? ⟨R, 1, none⟩ = some (.int .i64 0)
  z2 : w.cell? ⟨R, 2, none⟩ = some (.int .i64 0)
  z3 : w.cell? ⟨R, 3, none⟩ = some (.int .i64 0)
  cw : w.cell? ⟨g0, k, none⟩ = some (.int .u64 W)
  f0 : ∀ o, w.frozen? ⟨g0, o, none⟩ = false
  fR : ∀ o, w.frozen? ⟨R, o, none⟩ = false
theorem PrAt.later {w w' : World} {b g0 n g j Y x R k : Nat} {vt : Value} {el : Bool} {r : Int} {eu ed : Bool} {ef lv tl lp ls lf W : Int} (h : PrAt w b g0 n g j Y x R k vt el r eu ed ef lv tl lp ls lf W) (hb : Below w.heap.size w w') : PrAt w' b g0 n g j Y x R k vt el r eu ed ef lv tl lp ls lf W := by
  have c : ∀ {a : Addr} {v : Value}, w.cell? a = some v → w'.cell? a = some v := fun {a v} e => (hb.cell (p := a) (World.block_lt_of_cell? _ _ e)).trans e
  have q0 : g0 < w.heap.size := World.block_lt_of_cell? _ _ h.cw
  have q1 : R < w.heap.size := World.block_lt_of_cell? _ _ h.z0
  exact ⟨c h.a0, c h.a1, c h.a2, c h.a3, c h.y0, c h.y1, c h.y2, c h.y3, c h.y4, c h.y5, c h.x0, c h.x1, c h.x2, c h.x3, c h.z0, c h.z1, c h.z2, c h.z3, c h.cw, fun o => (hb.frozen (p := ⟨g0, o, none⟩) q0).trans (h.f0 o), fun o => (hb.frozen (p := ⟨R, o, none⟩) q1).trans (h.fR o)⟩
theorem PrAt.drewN {w : World} {b g0 n g j Y x R k : Nat} {vt : Value} {el : Bool} {r : Int} {eu ed : Bool} {ef lv tl lp ls lf W : Int} (h : PrAt w b g0 n g j Y x R k vt el r eu ed ef lv tl lp ls lf W) (m : Nat) : PrAt (w.drewN m) b g0 n g j Y x R k vt el r eu ed ef lv tl lp ls lf W := h.later (below_drewN (brefl _) m)
theorem tabs_last {X : List Pg.Sp} (h : 1 ≤ X.length) : (tabs X).getD (X.length - 1) 0 = lastT X := by
  unfold tabs lastT
  rw [List.getLast?_eq_getElem?, List.getD, List.getElem?_map]
  cases X[X.length - 1]? <;> rfl

set_option maxHeartbeats 1000000 in
theorem protectIn_any {b g0 g1 : Nat} {vm : Value} {S : Pg.Fs} (t p r : Int) (w : World) (h : MemAt w b g0 g1 vm S) :
    Calls Try.prog 30 #[.pointer (some ⟨b, 0, none⟩), .int .i64 t, .int .i64 p, .int .i64 r] w fun e w' => e = .returned (.tuple #[(Pg.prM S t p r).val, .int .i64 (Pg.prC S t p r)]) ∧ MemAt w' b g0 g1 vm (Pg.prS S t p r) ∧ But (memF b g0 g1 vm) w w' := by
  have HX : Hid _ := h
  by_cases hr : r < 0 ∨ 7 < r
  · have e1 : Pg.prC S t p r = 1 := by rw [Pg.prC, if_pos hr]
    have e2 : Pg.prM S t p r = .zz := by rw [Pg.prM, e1, if_neg (by decide)]
    have e3 : Pg.prS S t p r = S := by rw [Pg.prS, e1, if_neg (by decide)]
    rw [e1, e2, e3]
    have fin : Hid (∀ o : Obj, MemAt (w.alloc o) b g0 g1 vm S ∧ But (memF b g0 g1 vm) w (w.alloc o)) := fun o => ⟨h.grow (balloc (brefl _) _), But.of_below (balloc (brefl _) _)⟩
    clear h e1 e2 e3 HX
    by_cases h0 : r < 0
    · clear hr
      go_enter Try.func30, Try.ntmps30
      go_wp2_with fail
      refine bodyPost_ret (v := .tuple #[.agg #[.int .i64 0, .int .i64 0, .int .i64 0, .int .i64 0], .int .i64 1]) ?_ rfl ⟨rfl, ?_⟩
      · simp [results, Try.results30, go_sem]
      · exact fin.out _
    · have h1 : 7 < r := by omega
      clear hr
      go_enter Try.func30, Try.ntmps30
      go_wp2_with fail
      refine bodyPost_ret (v := .tuple #[.agg #[.int .i64 0, .int .i64 0, .int .i64 0, .int .i64 0], .int .i64 1]) ?_ rfl ⟨rfl, ?_⟩
      · simp [results, Try.results30, go_sem]
      · exact fin.out _
  · have h0 : ¬ r < 0 := by omega
    have h1 : ¬ 7 < r := by omega
    have HF := fun o => findIn_any t p (w.alloc o) (h.grow (balloc (brefl _) o))
    have e1 : Pg.prC S t p r = Pg.tFC S t p := by rw [Pg.prC, if_neg hr]
    by_cases hc : Pg.tFC S t p = 0
    · have hz : fndC S t p = 0 := by
        by_cases hz : fndC S t p = 0
        · exact hz
        · rw [Pg.tFC, if_pos hz] at hc
          exact absurd hc hz
      obtain ⟨lv, ⟨et, el, er, eu, ed, ef⟩, tl, W⟩ := Pg.way_of hz
      have ht : et = true := by
        rw [Pg.tFC, hz, if_neg (by decide), W.lastE] at hc
        cases et
        · simp at hc
        · rfl
      subst ht
      have hlen := W.len
      have hX1 : 1 ≤ (fndX S t p).length := by
        cases hX : fndX S t p with
        | nil =>
          have := W.hasT
          rw [← W.lastT] at this
          have h4 := W.len
          rw [hX] at h4
          have h5 := W.lastL
          rw [hX] at h5
          simp [lastL] at h5 h4
          omega
        | cons a l => simp
      have hidx : Pg.index p (lv : Int) = (Pg.ix p lv : Nat) := Pg.index_ix W.below (by omega)
      have hix8 : Pg.ix p lv < 8 := Pg.ix_lt _ _
      have e2 : Pg.prM S t p r = (Pg.tFM S t p).rts r := by rw [Pg.prM, e1, if_pos hc]
      have e3 : Pg.prS S t p r = S.store tl ((Pg.ix p lv : Nat) : Int) (Pg.enc true el r eu ed ef (lv : Int)) := by
        rw [Pg.prS, e1, if_pos hc, W.lastT, W.lastL, W.lastE, hidx]
      have e5 : Pg.tFE S t p = ⟨true, el, er, eu, ed, ef⟩ := by rw [Pg.tFE, if_pos hc, W.lastE]
      rw [e1, e2, e3, hc]
      rw [e5, hc] at HF
      generalize Pg.tFM S t p = mm at *
      obtain ⟨lp, ls, lf, lr⟩ := mm
      have HF' : ∀ o, Calls Try.prog 34 #[.pointer (some ⟨b, 0, none⟩), .int .i64 t, .int .i64 p] (w.alloc o) fun e w' => e = .returned (.tuple #[.agg #[.int .i64 lp, .int .i64 ls, .int .i64 lf, .int .i64 lr], .agg #[.bool true, .bool el, .int .i64 er, .bool eu, .bool ed, .int .i64 ef], .int .i64 0]) ∧ Below (w.alloc o).heap.size (w.alloc o) w' := HF
      have HW : ∀ W', Below w.heap.size w W' → Calls Try.prog 12 #[.pointer (some ⟨b, 0, none⟩), .int .i64 t, .int .i64 p] W' fun e w' => (∃ ad cap, e = .returned (.tuple #[.agg #[.slice ad (fndX S t p).length cap, .bool true, .bool el, .int .i64 er, .bool eu, .bool ed, .int .i64 ef, .int .i64 (lv : Int)], .int .i64 0]) ∧ IntsAt w' ad (tabs (fndX S t p)) ∧ ∀ g, ad = some ⟨g, 0, none⟩ → W'.heap.size ≤ g) ∧ Below W'.heap.size W' w' := by
        intro W' hW'
        refine (wayTo_any t p W' (h.grow hW')).mono ?_
        rintro e w' ⟨⟨ad, cap, he, hi⟩, hb, hnew⟩
        refine ⟨⟨ad, cap, ?_, hi, fun g hg => hnew g _ _ _ (by rw [he, hg])⟩, hb⟩
        rw [he, hz]
        simp only [wayV, W.lastE, W.lastL]
      clear h e1 e2 e3 e5 HF hr hc
      have WW : Hid _ := W
      clear W
      go_enter Try.func30, Try.ntmps30
      go_wp2_with fail
      refine (HF' _).mono ?_
      rintro e w1 ⟨rfl, hb1⟩
      have hr : ∀ o, w1.cell? ⟨w.heap.size, o, none⟩ = _ := fun o => hb1.cell (p := ⟨w.heap.size, o, none⟩) (by simp)
      have hf : ∀ o, w1.frozen? ⟨w.heap.size, o, none⟩ = _ := fun o => hb1.frozen (p := ⟨w.heap.size, o, none⟩) (by simp)
      have hB : Hid (Below w.heap.size w w1) := bthen (balloc (brefl _) _) hb1
      have hl0 : w.heap.size < w1.heap.size := by have := hb1.size; simp at this; omega
      have hn0 : ¬ w.heap.size = w1.heap.size := by omega
      clear hb1 HF'
      go_wp2_with fail
      have kx : ((w1.alloc (.cells #[.int .i64 lp, .int .i64 ls, .int .i64 lf, .int .i64 lr] 53)).alloc (.cells #[.bool true, .bool el, .int .i64 er, .bool eu, .bool ed, .int .i64 ef] 29)).cell? ⟨w1.heap.size, 0, none⟩ = some (.int .i64 lp) ∧ ((w1.alloc (.cells #[.int .i64 lp, .int .i64 ls, .int .i64 lf, .int .i64 lr] 53)).alloc (.cells #[.bool true, .bool el, .int .i64 er, .bool eu, .bool ed, .int .i64 ef] 29)).cell? ⟨w1.heap.size, 1, none⟩ = some (.int .i64 ls) ∧ ((w1.alloc (.cells #[.int .i64 lp, .int .i64 ls, .int .i64 lf, .int .i64 lr] 53)).alloc (.cells #[.bool true, .bool el, .int .i64 er, .bool eu, .bool ed, .int .i64 ef] 29)).cell? ⟨w1.heap.size, 2, none⟩ = some (.int .i64 lf) ∧ ((w1.alloc (.cells #[.int .i64 lp, .int .i64 ls, .int .i64 lf, .int .i64 lr] 53)).alloc (.cells #[.bool true, .bool el, .int .i64 er, .bool eu, .bool ed, .int .i64 ef] 29)).cell? ⟨w1.heap.size, 3, none⟩ = some (.int .i64 lr) := by simp [go_sem]
      have ke : ((w1.alloc (.cells #[.int .i64 lp, .int .i64 ls, .int .i64 lf, .int .i64 lr] 53)).alloc (.cells #[.bool true, .bool el, .int .i64 er, .bool eu, .bool ed, .int .i64 ef] 29)).cell? ⟨w1.heap.size + 1, 0, none⟩ = some (.bool true) ∧ ((w1.alloc (.cells #[.int .i64 lp, .int .i64 ls, .int .i64 lf, .int .i64 lr] 53)).alloc (.cells #[.bool true, .bool el, .int .i64 er, .bool eu, .bool ed, .int .i64 ef] 29)).cell? ⟨w1.heap.size + 1, 1, none⟩ = some (.bool el) ∧ ((w1.alloc (.cells #[.int .i64 lp, .int .i64 ls, .int .i64 lf, .int .i64 lr] 53)).alloc (.cells #[.bool true, .bool el, .int .i64 er, .bool eu, .bool ed, .int .i64 ef] 29)).cell? ⟨w1.heap.size + 1, 2, none⟩ = some (.int .i64 er) ∧ ((w1.alloc (.cells #[.int .i64 lp, .int .i64 ls, .int .i64 lf, .int .i64 lr] 53)).alloc (.cells #[.bool true, .bool el, .int .i64 er, .bool eu, .bool ed, .int .i64 ef] 29)).cell? ⟨w1.heap.size + 1, 3, none⟩ = some (.bool eu) ∧ ((w1.alloc (.cells #[.int .i64 lp, .int .i64 ls, .int .i64 lf, .int .i64 lr] 53)).alloc (.cells #[.bool true, .bool el, .int .i64 er, .bool eu, .bool ed, .int .i64 ef] 29)).cell? ⟨w1.heap.size + 1, 4, none⟩ = some (.bool ed) ∧ ((w1.alloc (.cells #[.int .i64 lp, .int .i64 ls, .int .i64 lf, .int .i64 lr] 53)).alloc (.cells #[.bool true, .bool el, .int .i64 er, .bool eu, .bool ed, .int .i64 ef] 29)).cell? ⟨w1.heap.size + 1, 5, none⟩ = some (.int .i64 ef) := by simp [go_sem]
      have kr : ∀ o, ((w1.alloc (.cells #[.int .i64 lp, .int .i64 ls, .int .i64 lf, .int .i64 lr] 53)).alloc (.cells #[.bool true, .bool el, .int .i64 er, .bool eu, .bool ed, .int .i64 ef] 29)).frozen? ⟨w1.heap.size, o, none⟩ = false ∧ ((w1.alloc (.cells #[.int .i64 lp, .int .i64 ls, .int .i64 lf, .int .i64 lr] 53)).alloc (.cells #[.bool true, .bool el, .int .i64 er, .bool eu, .bool ed, .int .i64 ef] 29)).frozen? ⟨w1.heap.size + 1, o, none⟩ = false ∧ ((w1.alloc (.cells #[.int .i64 lp, .int .i64 ls, .int .i64 lf, .int .i64 lr] 53)).alloc (.cells #[.bool true, .bool el, .int .i64 er, .bool eu, .bool ed, .int .i64 ef] 29)).frozen? ⟨w.heap.size, o, none⟩ = false := fun o => by simp [go_sem, hf, hl0, hn0]
      have k0 : ((w1.alloc (.cells #[.int .i64 lp, .int .i64 ls, .int .i64 lf, .int .i64 lr] 53)).alloc (.cells #[.bool true, .bool el, .int .i64 er, .bool eu, .bool ed, .int .i64 ef] 29)).cell? ⟨w.heap.size, 0, none⟩ = some (.int .i64 0) ∧ ((w1.alloc (.cells #[.int .i64 lp, .int .i64 ls, .int .i64 lf, .int .i64 lr] 53)).alloc (.cells #[.bool true, .bool el, .int .i64 er, .bool eu, .bool ed, .int .i64 ef] 29)).cell? ⟨w.heap.size, 1, none⟩ = some (.int .i64 0) ∧ ((w1.alloc (.cells #[.int .i64 lp, .int .i64 ls, .int .i64 lf, .int .i64 lr] 53)).alloc (.cells #[.bool true, .bool el, .int .i64 er, .bool eu, .bool ed, .int .i64 ef] 29)).cell? ⟨w.heap.size, 2, none⟩ = some (.int .i64 0) ∧ ((w1.alloc (.cells #[.int .i64 lp, .int .i64 ls, .int .i64 lf, .int .i64 lr] 53)).alloc (.cells #[.bool true, .bool el, .int .i64 er, .bool eu, .bool ed, .int .i64 ef] 29)).cell? ⟨w.heap.size, 3, none⟩ = some (.int .i64 0) := by simp [go_sem, hr, hl0, hn0]
      have kB : Below w.heap.size w ((w1.alloc (.cells #[.int .i64 lp, .int .i64 ls, .int .i64 lf, .int .i64 lr] 53)).alloc (.cells #[.bool true, .bool el, .int .i64 er, .bool eu, .bool ed, .int .i64 ef] 29)) := balloc (balloc hB.out _) _
      generalize (w1.alloc (.cells #[.int .i64 lp, .int .i64 ls, .int .i64 lf, .int .i64 lr] 53)).alloc (.cells #[.bool true, .bool el, .int .i64 er, .bool eu, .bool ed, .int .i64 ef] 29) = W2 at *
      clear hr hf hB
      generalize w1.heap.size = x at *
      refine (HW _ kB).mono ?_
      rintro e w3 ⟨⟨ad, cap, rfl, hi, hnew⟩, hb3⟩
      obtain ⟨g, rfl, hg, hgc⟩ := hi ((fndX S t p).length - 1) (by rw [tabs_len]; omega)
      obtain ⟨x0, x1, x2, x3⟩ := later4 hb3 kx
      obtain ⟨y0, y1, y2, y3, y4, y5⟩ := later6 hb3 ke
      obtain ⟨z0, z1, z2, z3⟩ := later4 hb3 k0
      have xl : x < w3.heap.size := World.block_lt_of_cell? _ _ x0
      have yl : x + 1 < w3.heap.size := World.block_lt_of_cell? _ _ y0
      have xl2 : x < W2.heap.size := World.block_lt_of_cell? _ _ kx.1
      have yl2 : x + 1 < W2.heap.size := World.block_lt_of_cell? _ _ ke.1
      have u0 : ∀ o, w3.frozen? ⟨x, o, none⟩ = false := fun o => (hb3.frozen (p := ⟨x, o, none⟩) xl2).trans (kr o).1
      have u1 : ∀ o, w3.frozen? ⟨x + 1, o, none⟩ = false := fun o => (hb3.frozen (p := ⟨x + 1, o, none⟩) yl2).trans (kr o).2.1
      have u2 : ∀ o, w3.frozen? ⟨w.heap.size, o, none⟩ = false := fun o => (hb3.frozen (p := ⟨w.heap.size, o, none⟩) (by show w.heap.size < _; omega)).trans (kr o).2.2
      have B3 : Hid (Below w.heap.size w w3) := bthen kB hb3
      have M3 : Hid _ := HX.out.grow B3.out
      have hlt3 : w.heap.size < w3.heap.size := by omega
      have m1 : ¬ x = w3.heap.size := by omega
      have m2 : ¬ x + 1 = w3.heap.size := by omega
      have m3 : ¬ w.heap.size = w3.heap.size := by omega
      have htl : (tabs (fndX S t p)).getD ((fndX S t p).length - 1) 0 = tl := by rw [tabs_last hX1]; exact WW.out.lastT
      rw [htl] at hgc
      obtain ⟨t0, t1, _⟩ := M3.out.ok.has_lt WW.out.hasT
      obtain ⟨tn, rfl⟩ := Int.eq_ofNat_of_zero_le t0
      have htn : tn < S.n := by omega
      have hsm := M3.out.ok.small
      have hgg : ¬ g = g0 := by
        intro e
        have h1 := M3.out.raw.cw 0 ((fndX S t p).length - 1) (by omega) (by omega)
        rw [e, show (fndX S t p).length - 1 = 0 * 8 + ((fndX S t p).length - 1) by omega, h1] at hgc
        simp at hgc
      have hl0w := HX.out.raw.l0
      have hlb := HX.out.raw.lb
      have hgx : W2.heap.size ≤ g := hnew g rfl
      have gx0 : ¬ g = x := by omega
      have gx1 : ¬ g = x + 1 := by omega
      have gY : ¬ g = w3.heap.size := by omega
      have hcw := M3.out.raw.cw tn (Pg.ix p lv) htn hix8
      have hf0 := M3.out.raw.f0
      have hc0 := M3.out.raw.c0
      have nb0 : ¬ b = x := by omega
      have nb1 : ¬ b = x + 1 := by omega
      have nbY : ¬ b = w3.heap.size := by omega
      have ng0 : ¬ g0 = x := by omega
      have ng1 : ¬ g0 = x + 1 := by omega
      have ngY : ¬ g0 = w3.heap.size := by omega
      have ngR : ¬ g0 = w.heap.size := by omega
      have lb3 : b < w3.heap.size := by omega
      have lg3 : g0 < w3.heap.size := by omega
      clear kx ke kr k0 kB HW hi hnew
      generalize hV : Value.slice (some ⟨g, 0, none⟩) (fndX S t p).length cap = vt
      have P4 : PrAt (((w3.setCell ⟨x + 1, 2, none⟩ (.int .i64 r)).setCell ⟨x, 3, none⟩ (.int .i64 r)).alloc (.cells #[vt, .bool true, .bool el, .int .i64 er, .bool eu, .bool ed, .int .i64 ef, .int .i64 (lv : Int)] 36)) b g0 S.n g ((fndX S t p).length - 1) w3.heap.size x w.heap.size (tn * 8 + Pg.ix p lv) vt el r eu ed ef (lv : Int) (tn : Int) lp ls lf (S.word tn (Pg.ix p lv)) := by
        constructor <;> first
          | (simp [go_sem, hc0, hgc, x0, x1, x2, x3, y0, y1, y2, y3, y4, y5, z0, z1, z2, z3, hcw, xl, yl, hg, lb3, lg3, hlt3, gx0, gx1, nb0, nb1, ng0, ng1, hn0, hl0, m1, m2, m3, gY, nbY, ngY, ngR]; done)
          | (intro o; simp [go_sem, hf0, u2, lg3, hlt3]; done)
      subst hV
      have b4 : Below w.heap.size w (((w3.setCell ⟨x + 1, 2, none⟩ (.int .i64 r)).setCell ⟨x, 3, none⟩ (.int .i64 r)).alloc (.cells #[Value.slice (some ⟨g, 0, none⟩) (fndX S t p).length cap, .bool true, .bool el, .int .i64 er, .bool eu, .bool ed, .int .i64 ef, .int .i64 (lv : Int)] 36)) := balloc ((B3.out.setCell (by show w.heap.size ≤ x + 1; omega) _).setCell (by show w.heap.size ≤ x; omega) _) _
      have HB4 : Hid _ := b4
      have HP4 : Hid _ := P4
      clear b4 P4
      go_wp2_with fail
      generalize hW4 : (((w3.setCell ⟨x + 1, 2, none⟩ (.int .i64 r)).setCell ⟨x, 3, none⟩ (.int .i64 r)).alloc (.cells #[Value.slice (some ⟨g, 0, none⟩) (fndX S t p).length cap, .bool true, .bool el, .int .i64 er, .bool eu, .bool ed, .int .i64 ef, .int .i64 (lv : Int)] 36)) = W4 at *
      have hY4 : w3.heap.size < W4.heap.size := World.block_lt_of_cell? _ _ HP4.out.a1
      clear hW4 x0 x1 x2 x3 y0 y1 y2 y3 y4 y5 z0 z1 z2 z3 u0 u1 u2 hgc hcw hf0 hc0 hb3
      generalize hYY : w3.heap.size = Y at *
      clear hYY
      have HIx := indexOf_any p (lv : Int)
      rw [hidx] at HIx
      have HWo := wordOf_any true el r eu ed ef (lv : Int)
      have hv0 : Hid (0 ≤ Pg.enc true el r eu ed ef (lv : Int) ∧ Pg.enc true el r eu ed ef (lv : Int) < 18446744073709551616) := Pg.enc_bd _ _ _ _ _ _ _
      generalize hve : Pg.enc true el r eu ed ef (lv : Int) = v at *
      have HVE : Hid _ := hve
      clear hve
      generalize Pg.eFault true el r eu ed ef (lv : Int) = fl at *
      generalize hii : Pg.ix p lv = i at *
      have HII : Hid _ := hii
      clear hii
      generalize S.word tn i = W at *
      generalize (fndX S t p).length = len at *
      obtain ⟨j, rfl⟩ : ∃ j, len = j + 1 := ⟨len - 1, by omega⟩
      rw [Nat.add_sub_cancel] at HP4
      have i0 : (0 : Int) ≤ (tn : Int) := by omega
      have i1 : (tn : Int) < (S.n : Int) := by omega
      have i2 : (0 : Int) ≤ (i : Int) := by omega
      have i3 : (i : Int) < 8 := by omega
      have i4 : (0 : Int) ≤ (j : Int) := by omega
      have i5 : (j : Int) < (j : Int) + 1 := by omega
      have i6 : ((j + 1 : Nat) : Int) - 1 = (j : Int) := by omega
      have n0 : ¬ g0 = b := HX.out.raw.n0
      have n0' : ¬ b = g0 := fun e => n0 e.symm
      have ngg : ¬ g0 = g := fun e => hgg e.symm
      have i7 : IntKind.i64.wrap (j : Int) = (j : Int) := wrap_i64_in (by omega) (by omega)
      obtain ⟨p0, p1, p2, p3, p4, p5, p6, p7, p8, p9, p10, p11, p12, p13, p14, p15, p16, p17, p18, p19, p20⟩ := HP4.out
      go_region_held3 (fun w' => w'.cell? ⟨b, 0, none⟩ = some (.slice (some ⟨g0, 0, none⟩) S.n S.n) ∧ w'.cell? ⟨Y, 0, none⟩ = some (.slice (some ⟨g, 0, none⟩) (j + 1) cap) ∧ w'.cell? ⟨Y, 7, none⟩ = some (.int .i64 (lv : Int)) ∧ w'.cell? ⟨g, j, none⟩ = some (.int .i64 (tn : Int)) ∧ w'.cell? ⟨x + 1, 0, none⟩ = some (.bool true) ∧ w'.cell? ⟨x + 1, 1, none⟩ = some (.bool el) ∧ w'.cell? ⟨x + 1, 2, none⟩ = some (.int .i64 r) ∧ w'.cell? ⟨x + 1, 3, none⟩ = some (.bool eu) ∧ w'.cell? ⟨x + 1, 4, none⟩ = some (.bool ed) ∧ w'.cell? ⟨x + 1, 5, none⟩ = some (.int .i64 ef)) (go_keep) (first
        | (go_at_call 14; refine (HIx _).mono ?_; rintro e w5 ⟨rfl, hb5⟩
           have HB5 : Hid (Below W4.heap.size W4 w5) := bthen (brefl W4).drew hb5
           have HP5 : Hid _ := HP4.out.later HB5.out
           obtain ⟨q0, q1, q2, q3, q4, q5, q6, q7, q8, q9, q10, q11, q12, q13, q14, q15, q16, q17, q18, q19, q20⟩ := HP5.out
           clear hb5)
        | (go_at_call 69; refine (HWo _).mono ?_; rintro e w6 ⟨rfl, hb6⟩
           have HB6 : Hid (Below w5.heap.size w5 w6) := hb6
           have HP6 : Hid _ := HP5.out.later HB6.out
           obtain ⟨o0, o1, o2, o3, o4, o5, o6, o7, o8, o9, o10, o11, o12, o13, o14, o15, o16, o17, o18, o19, o20⟩ := HP6.out
           clear hb6))
      have r0 : ¬ x = g0 := fun e => ng0 e.symm
      have r1 : ¬ w.heap.size = g0 := fun e => ngR e.symm
      have hat : S.at' (tn : Int) (i : Int) = true := by
        have := WW.out.hasT
        simp only [Pg.Fs.at', this, Bool.true_and, Bool.and_eq_true, decide_eq_true_eq]
        exact ⟨i2, i3⟩
      have fin : Hid (∀ a0 a1 a2 a3 : Value, MemAt (((((w6.setCell ⟨g0, tn * 8 + i, none⟩ (.int .u64 v)).setCell ⟨w.heap.size, 0, none⟩ a0).setCell ⟨w.heap.size, 1, none⟩ a1).setCell ⟨w.heap.size, 2, none⟩ a2).setCell ⟨w.heap.size, 3, none⟩ a3) b g0 g1 vm (S.store (tn : Int) (i : Int) v) ∧ But (memF b g0 g1 vm) w (((((w6.setCell ⟨g0, tn * 8 + i, none⟩ (.int .u64 v)).setCell ⟨w.heap.size, 0, none⟩ a0).setCell ⟨w.heap.size, 1, none⟩ a1).setCell ⟨w.heap.size, 2, none⟩ a2).setCell ⟨w.heap.size, 3, none⟩ a3)) := by
        intro a0 a1 a2 a3
        have B6 : Below w.heap.size w w6 := bthen (bthen HB4.out HB5.out) HB6.out
        have M6 := HX.out.grow B6
        have hS : S.store (tn : Int) (i : Int) v = { S with word := Pg.Fs.put S.word tn i v } := by simp [Pg.Fs.store, hat]
        have M7 : MemAt (w6.setCell ⟨g0, tn * 8 + i, none⟩ (.int .u64 v)) b g0 g1 vm (S.store (tn : Int) (i : Int) v) := ⟨by rw [hS]; exact M6.raw.put htn hix8 v, M6.ok.store _ _ hv0.out.1 hv0.out.2⟩
        have hF : ∀ k, memF b g0 g1 vm k → ¬ k = w.heap.size := fun k hk => by have := HX.out.raw.lt hk; omega
        refine ⟨M7.keep (F := fun k => k = w.heap.size) ?_ hF, ?_⟩
        · iterate 4 refine But.setCell ?_ (by first | exact .inr rfl) _
          exact But.refl _ _
        · iterate 4 refine But.setCell ?_ (by exact .inl (Nat.le_refl _)) _
          refine But.setCell ?_ (by exact .inr (.inr (.inl rfl))) _
          exact But.of_below B6
      clear hat HX WW HB4 HB5 HB6
      go_wp2_with fail
      refine bodyPost_ret (v := .tuple #[.agg #[.int .i64 lp, .int .i64 ls, .int .i64 lf, .int .i64 r], .int .i64 0]) ?_ rfl ⟨rfl, ?_⟩
      · simp [results, Try.results30, go_sem, o14, o15, o16, o17, r0, r1, ng0, ngR]
      · rw [HII.out, HVE.out]
        exact fin.out _ _ _ _
    · have e2 : Pg.prM S t p r = .zz := by rw [Pg.prM, e1, if_neg hc]
      have e3 : Pg.prS S t p r = S := by rw [Pg.prS, e1, if_neg hc]
      rw [e1, e2, e3]
      have e4 : Pg.tFM S t p = .zz := by rw [Pg.tFM, if_neg hc]
      have e5 : Pg.tFE S t p = Pg.En.zero := by rw [Pg.tFE, if_neg hc]
      rw [e4, e5] at HF
      clear h e1 e2 e3 e4 e5 hr
      generalize Pg.tFC S t p = c at *
      have HF' : ∀ o, Calls Try.prog 34 #[.pointer (some ⟨b, 0, none⟩), .int .i64 t, .int .i64 p] (w.alloc o) fun e w' => e = .returned (.tuple #[.agg #[.int .i64 0, .int .i64 0, .int .i64 0, .int .i64 0], .agg #[.bool false, .bool false, .int .i64 0, .bool false, .bool false, .int .i64 0], .int .i64 c]) ∧ Below (w.alloc o).heap.size (w.alloc o) w' := HF
      clear HF
      go_enter Try.func30, Try.ntmps30
      go_wp2_with fail
      refine (HF' _).mono ?_
      rintro e w1 ⟨rfl, hb1⟩
      have hr : ∀ o, w1.cell? ⟨w.heap.size, o, none⟩ = _ := fun o => hb1.cell (p := ⟨w.heap.size, o, none⟩) (by simp)
      have hf : ∀ o, w1.frozen? ⟨w.heap.size, o, none⟩ = _ := fun o => hb1.frozen (p := ⟨w.heap.size, o, none⟩) (by simp)
      have hB : Hid (Below w.heap.size w w1) := bthen (balloc (brefl _) _) hb1
      have hl0 : w.heap.size < w1.heap.size := by have := hb1.size; simp at this; omega
      have hn0 : ¬ w.heap.size = w1.heap.size := by omega
      clear hb1 HF'
      go_wp2_with fail
      refine bodyPost_ret (v := .tuple #[.agg #[.int .i64 0, .int .i64 0, .int .i64 0, .int .i64 0], .int .i64 c]) ?_ rfl ⟨rfl, ?_⟩
      · simp [results, Try.results30, go_sem, hr, hl0, hn0]
      · have hB' := balloc (balloc (below_set4 hB.out w.heap.size (Nat.le_refl _) (.int .i64 0) (.int .i64 0) (.int .i64 0) (.int .i64 0)) (.cells #[.int .i64 0, .int .i64 0, .int .i64 0, .int .i64 0] 53)) (.cells #[.bool false, .bool false, .int .i64 0, .bool false, .bool false, .int .i64 0] 29)
        exact ⟨HX.out.grow hB', But.of_below hB'⟩
end Go.Proofs.Ytbkpndgadgafiac
