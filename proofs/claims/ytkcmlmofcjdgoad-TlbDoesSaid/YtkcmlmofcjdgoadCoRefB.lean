
/-
  The document's own kept lines: Put.
-/
import Derived.Test.YtkcmlmofcjdgoadCoRef
import Derived.Deep.RegionLaw
namespace Go.Proofs.Ytkcmlmofcjdgoad
open Go.RowKit Go.Sort
set_option maxRecDepth 100000
set_option linter.unusedVariables false

/-- The oldest line goes. -/
theorem CoAt.evict {w : World} {b g o cap : Nat} {L : List Pg.Ln} (h : CoAt w b (.slice (some ⟨g, o, none⟩) L.length cap) L) (h0 : 0 < L.length) {o' : Nat} (ho : o' = o + 5 ∨ (cap = 1 ∧ o' = o)) :
    CoAt (w.setCell ⟨b, 0, none⟩ (.slice (some ⟨g, o', none⟩) (L.length - 1) (cap - 1))) b (.slice (some ⟨g, o', none⟩) (L.length - 1) (cap - 1)) (L.drop 1) ∧ Chg b 0 (bkF b (.slice (some ⟨g, o, none⟩) L.length cap)) w (w.setCell ⟨b, 0, none⟩ (.slice (some ⟨g, o', none⟩) (L.length - 1) (cap - 1))) ∧ (∀ k, bkF b (.slice (some ⟨g, o', none⟩) (L.length - 1) (cap - 1)) k → bkF b (.slice (some ⟨g, o, none⟩) L.length cap) k ∨ w.heap.size ≤ k) := by
  have ht := h.row.tail h0 ho
  have e := (lnCells_cut L 1).2
  rw [show 1 * 5 = 5 from rfl] at e
  rw [e] at ht
  exact h.put (But.refl _ w) (by rw [List.length_drop]; exact ht) (fun j hj => .inl hj) h.kept.tail

set_option maxHeartbeats 4000000 in
theorem coPut_any {b : Nat} {vb : Value} {L : List Pg.Ln} (l : Pg.Ln) (hm : Pg.fits l.m.p) (w : World) (h : CoAt w b vb L) :
    Calls Try.prog 12 #[.pointer (some ⟨b, 0, none⟩), l.val] w fun e w' => e = .returned (.bool (l.m.code == 0)) ∧ ∃ vb', CoAt w' b vb' (Pg.kPut L l) ∧ Chg b 0 (bkF b vb) w w' ∧ ∀ k, bkF b vb' k → bkF b vb k ∨ w.heap.size ≤ k := by
  have HX : Hid _ := h
  have hlF : ∀ k, bkF b vb k → k < w.heap.size := fun k hk => h.lt hk
  have HCK := mapFault_any l.m.p l.m.s l.m.f l.m.r
  have hlb : b < w.heap.size := h.lb
  by_cases hcode : l.m.code = 0
  · have hce : Pg.check l.m.p l.m.s l.m.f l.m.r = 0 := hcode
    rw [hce] at HCK
    have hr : (l.m.code == 0) = true := by simp [hcode]
    have HKK : Hid (Pg.Kept (Pg.kPut L l)) := h.kept.put l
    have HLL : Hid ((Pg.kDrop L l.m).length ≤ 6) := (h.kept.drop l.m).le
    have HD := fun w' (hb : Below w.heap.size w w') => coDrop_any l.m hm w' (h.grow hb)
    rw [hr]
    rw [Pg.kPut_yes hcode] at HKK ⊢
    clear h hcode hce hr
    generalize Pg.kDrop L l.m = L1 at *
    obtain ⟨L2, hL2⟩ : ∃ L2, L2 = Pg.kRoom L1 := ⟨_, rfl⟩
    rw [← hL2] at HKK
    have HLR : Hid (L2.length ≤ 5) := by rw [hL2]; exact Pg.kRoom_len HLL.out
    have HL2 : Hid (L2 = Pg.kRoom L1) := hL2
    clear hL2
    generalize bkF b vb = F at *
    obtain ⟨⟨mp, ms, mf, mr⟩, d⟩ := l
    simp only [Pg.Ln.val, Pg.Mp.val] at *
    go_enter Try.func12, Try.ntmps12
    go_wp2_with fail
    refine (HCK _).mono ?_
    rintro e w1 ⟨rfl, hb1⟩
    have hx1 : ∀ p, w1.cell? ⟨w.heap.size, p, none⟩ = _ := fun p => hb1.cell (p := ⟨w.heap.size, p, none⟩) (by simp)
    have hbb : Below w.heap.size w w1 := bthen (balloc (brefl _) _) hb1
    have hs1 : w.heap.size < w1.heap.size := by have := hb1.size; simp at this; omega
    have HB1 : Hid _ := hbb
    clear hb1 hbb HCK
    go_wp2_with fail
    refine (HD _ HB1.out).mono ?_
    rintro e w2 ⟨rfl, vb2, h2, hc2, hF2⟩
    have hnx : ¬ F w.heap.size := fun hf => by have := hlF _ hf; omega
    have hx2 : ∀ p, w2.cell? ⟨w.heap.size, p, none⟩ = _ := fun p => (hc2.but.cell (a := ⟨w.heap.size, p, none⟩) hs1 hnx).trans (hx1 p)
    have hs2 : w.heap.size < w2.heap.size := Nat.lt_of_lt_of_le hs1 hc2.but.size
    have HC2 : Hid (Chg b 0 F w w2) := (Chg.of_below (o := 0) HB1.out hlb).trans hc2 (fun i _ hi => hi)
    have hF2 : Hid (∀ k, bkF b vb2 k → F k ∨ w.heap.size < k) := fun k hk => (hF2 k hk).imp id (fun h => by omega)
    obtain ⟨ad2, cap2, rfl⟩ := h2.row.form
    have c20 := h2.c0
    have l20 := h2.lb
    have cf20 := h2.fb 0
    clear hc2 HD hx1 HX
    by_cases h6 : L1.length = 6
    · have i6 : ((L1.length : Int) == 6) = true := by simp [h6]
      have eR : L1.drop 1 = L2 := by rw [HL2.out]; simp [Pg.kRoom, h6]
      have eL : L1.length - 1 = L2.length := by rw [← eR, List.length_drop]
      obtain ⟨g2, o2, cp, e, hg2, hn2, hn3⟩ := h2.row.shape (by omega)
      cases e
      have H2 : Hid _ := h2
      have j1 : (1 : Int) ≤ (L1.length : Int) := by omega
      have j2 : ¬ (cap2 = 1) := by omega
      have j3 : cap2 ≤ 9223372036854775807 := by unfold maxLen at hn3; omega
      obtain ⟨e1, e2, e3⟩ := H2.out.evict (by omega) (o' := o2 + 5) (.inl rfl)
      rw [eR] at e1
      rw [eL] at e1 e2 e3
      obtain ⟨w3, hw3⟩ : ∃ w3, w3 = w2.setCell ⟨b, 0, none⟩ (.slice (some ⟨g2, o2 + 5, none⟩) L2.length (cap2 - 1)) := ⟨_, rfl⟩
      rw [← hw3] at e1 e2
      have hnx2 : ¬ bkF b (.slice (some ⟨g2, o2, none⟩) L1.length cap2) w.heap.size := fun hf => (hF2.out _ hf).elim hnx (fun h => by omega)
      have hx3 : ∀ p, w3.cell? ⟨w.heap.size, p, none⟩ = _ := fun p => (e2.but.cell (a := ⟨w.heap.size, p, none⟩) hs2 hnx2).trans (hx2 p)
      have lx3 : w.heap.size < w3.heap.size := Nat.lt_of_lt_of_le hs2 e2.but.size
      have HC3 : Hid (Chg b 0 F w w3) := HC2.out.trans e2 (fun i hi hg => (hF2.out i hg).elim id (fun h => by omega))
      have HF3 : Hid (∀ k, bkF b (.slice (some ⟨g2, o2 + 5, none⟩) L2.length (cap2 - 1)) k → F k ∨ w.heap.size ≤ k) := fun k hk => (e3 k hk).elim (fun h => (hF2.out k h).imp id (fun h => by omega)) (fun h => .inr (by omega))
      have x0 : w3.cell? ⟨w.heap.size, 0, none⟩ = some (.int .i64 mp) := (hx3 0).trans (by simp [go_sem])
      have x1 : w3.cell? ⟨w.heap.size, 1, none⟩ = some (.int .i64 ms) := (hx3 1).trans (by simp [go_sem])
      have x2 : w3.cell? ⟨w.heap.size, 2, none⟩ = some (.int .i64 mf) := (hx3 2).trans (by simp [go_sem])
      have x3 : w3.cell? ⟨w.heap.size, 3, none⟩ = some (.int .i64 mr) := (hx3 3).trans (by simp [go_sem])
      have x4 : w3.cell? ⟨w.heap.size, 4, none⟩ = some (.bool d) := (hx3 4).trans (by simp [go_sem])
      have t3 : Hid _ := e1
      clear hx3 hx2 h2 e2 e3 e1 hg2 hn3 h6
      go_wp2_with fail
      rw [← hw3]
      have t3 := t3.out
      clear c20 hw3 cf20
      obtain ⟨ad3, cap3, hv3⟩ : ∃ ad3 cap3, Value.slice (some ⟨g2, o2 + 5, none⟩) L2.length (cap2 - 1) = .slice ad3 L2.length cap3 := ⟨_, _, rfl⟩
      rw [hv3] at t3 HF3
      clear hv3

      have hown := t3.row
      have r0 := t3.c0
      have rf := t3.fb 0
      have hlk := t3.lb
      have hn3 := t3.nb
      have hlen3 : L2.length ≤ 5 := HLR.out
      have HT3 : Hid _ := t3
      have HK3 : Hid (Pg.Kept (L2 ++ [⟨⟨mp, ms, mf, mr⟩, d⟩])) := HKK.out
      obtain ⟨q0, hqi, hz0, hz1, hz2⟩ := info_parts infoRLine
      have hone : ∀ u, u ∈ [Value.int .i64 mp, .int .i64 ms, .int .i64 mf, .int .i64 mr, .bool d] → u.oneCell' = true := by
        intro u hu; simp at hu; rcases hu with rfl | rfl | rfl | rfl | rfl <;> rfl
      have hm1 : L2.length + 1 ≤ maxLen := by unfold maxLen; omega
      have hm2 : (L2.length + 1) * 40 ≤ 140737488355328 := by omega
      have hlx : w.heap.size < w3.heap.size := lx3
      have hown' : OwnsAt (w3.alloc (.cells #[.int .i64 mp, .int .i64 ms, .int .i64 mf, .int .i64 mr, .bool d] 41)).drew 41 5 (.slice ad3 L2.length cap3) L2.length (lnCells L2) := hown.but (F := fun _ => False) (((But.refl _ w3).alloc _).drew) (fun _ _ => id)
      obtain ⟨g6, o6, cap6, w6, hrun, hO, hBt, hA⟩ := run_append_at (P := Try.prog) (w3.alloc (.cells #[.int .i64 mp, .int .i64 ms, .int .i64 mf, .int .i64 mr, .bool d] 41)).drew 27 27 41 q0 _ 5 40 Try.underlying27 hqi hz0 hz1 hz2 rfl (by decide) _ _ _ hown' ⟨w3.heap.size, 0, none⟩ 1 1 [.int .i64 mp, .int .i64 ms, .int .i64 mf, .int .i64 mr, .bool d] rfl (fun j u hj => World.news_of_block (heap_alloc_new w3 _) j u hj) hone (by decide) hm1 hm2
      have hB6 : But (fun j => (Value.slice ad3 L2.length cap3).ownBlock = some j) w3 w6 := ((But.refl _ w3).alloc _).drew.trans hBt (fun _ _ h => h)
      have hk6 : w6.heap[b]? = w3.heap[b]? := hB6.block b hlk hn3
      have e9 : w6.cell? ⟨b, 0, none⟩ = some (.slice ad3 L2.length cap3) := (World.cell?_of_block hk6).trans r0
      have ef9 : w6.frozen? ⟨b, 0, none⟩ = false := (World.frozen?_of_block hk6).trans rf
      have hr6 : OwnsAt w6 41 5 (.slice (some ⟨g6, o6, none⟩) (L2.length + 1) cap6) (L2 ++ [Pg.Ln.mk ⟨mp, ms, mf, mr⟩ d]).length (lnCells (L2 ++ [Pg.Ln.mk ⟨mp, ms, mf, mr⟩ d])) := by
        rw [lnCells_push, List.length_append]
        exact hO
      have HF : Hid _ := HT3.out.put hB6 hr6 (fun j hj => by
        rcases hA with h | h
        · exact .inl (h.trans hj)
        · exact .inr (by simp [Value.ownBlock] at hj; simp at h; omega)) HK3.out
      have hlk6 : b < w6.heap.size := Nat.lt_of_lt_of_le hlk hB6.size
      clear t3 lx3 hr6 hB6 hO hA hBt hk6 hown hown'
      go_wp2_with fail
      go_region_law (refine step_append_known rfl (.tmp 31) (.tmp 33) 27 27 rfl (.slice ad3 L2.length cap3) (.slice (some ⟨w3.heap.size, 0, none⟩) 1 1) (by simp [Act.eval]) (by simp [Act.eval]) hrun ?_)
      all_goals
        go_wp2_with fail
        go_ret
        obtain ⟨f1, f2, f3⟩ := HF.out
        refine ⟨rfl, _, by rw [← HL2.out]; exact f1, HC3.out.trans f2 (fun i hi hg => (HF3.out i hg).elim id (fun h => by omega)), fun k hk => (f3 k hk).elim (HF3.out k) (fun h => .inr (by omega))⟩
    · have i6 : ((L1.length : Int) == 6) = false := by
        have : ¬ ((L1.length : Int) = 6) := by omega
        simpa using this
      have eR : L1 = L2 := by rw [HL2.out]; simp [Pg.kRoom, h6]
      rw [eR] at h2 c20 i6 hF2
      clear eR
      have HC3 : Hid _ := HC2.out
      have HF3 : Hid (∀ k, bkF b (.slice ad2 L2.length cap2) k → F k ∨ w.heap.size ≤ k) := fun k hk => (hF2.out k hk).imp id (fun h => by omega)
      have t3 : Hid _ := h2
      have x0 : w2.cell? ⟨w.heap.size, 0, none⟩ = some (.int .i64 mp) := (hx2 0).trans (by simp [go_sem])
      have x1 : w2.cell? ⟨w.heap.size, 1, none⟩ = some (.int .i64 ms) := (hx2 1).trans (by simp [go_sem])
      have x2 : w2.cell? ⟨w.heap.size, 2, none⟩ = some (.int .i64 mf) := (hx2 2).trans (by simp [go_sem])
      have x3 : w2.cell? ⟨w.heap.size, 3, none⟩ = some (.int .i64 mr) := (hx2 3).trans (by simp [go_sem])
      have x4 : w2.cell? ⟨w.heap.size, 4, none⟩ = some (.bool d) := (hx2 4).trans (by simp [go_sem])
      have lx3 : w.heap.size < w2.heap.size := hs2
      clear hx2 h2 l20
      go_wp2_with fail
      clear c20 cf20
      have t3 := t3.out
      generalize w2 = w3 at *
      generalize ad2 = ad3 at *
      generalize cap2 = cap3 at *

      have hown := t3.row
      have r0 := t3.c0
      have rf := t3.fb 0
      have hlk := t3.lb
      have hn3 := t3.nb
      have hlen3 : L2.length ≤ 5 := HLR.out
      have HT3 : Hid _ := t3
      have HK3 : Hid (Pg.Kept (L2 ++ [⟨⟨mp, ms, mf, mr⟩, d⟩])) := HKK.out
      obtain ⟨q0, hqi, hz0, hz1, hz2⟩ := info_parts infoRLine
      have hone : ∀ u, u ∈ [Value.int .i64 mp, .int .i64 ms, .int .i64 mf, .int .i64 mr, .bool d] → u.oneCell' = true := by
        intro u hu; simp at hu; rcases hu with rfl | rfl | rfl | rfl | rfl <;> rfl
      have hm1 : L2.length + 1 ≤ maxLen := by unfold maxLen; omega
      have hm2 : (L2.length + 1) * 40 ≤ 140737488355328 := by omega
      have hlx : w.heap.size < w3.heap.size := lx3
      have hown' : OwnsAt (w3.alloc (.cells #[.int .i64 mp, .int .i64 ms, .int .i64 mf, .int .i64 mr, .bool d] 41)).drew 41 5 (.slice ad3 L2.length cap3) L2.length (lnCells L2) := hown.but (F := fun _ => False) (((But.refl _ w3).alloc _).drew) (fun _ _ => id)
      obtain ⟨g6, o6, cap6, w6, hrun, hO, hBt, hA⟩ := run_append_at (P := Try.prog) (w3.alloc (.cells #[.int .i64 mp, .int .i64 ms, .int .i64 mf, .int .i64 mr, .bool d] 41)).drew 27 27 41 q0 _ 5 40 Try.underlying27 hqi hz0 hz1 hz2 rfl (by decide) _ _ _ hown' ⟨w3.heap.size, 0, none⟩ 1 1 [.int .i64 mp, .int .i64 ms, .int .i64 mf, .int .i64 mr, .bool d] rfl (fun j u hj => World.news_of_block (heap_alloc_new w3 _) j u hj) hone (by decide) hm1 hm2
      have hB6 : But (fun j => (Value.slice ad3 L2.length cap3).ownBlock = some j) w3 w6 := ((But.refl _ w3).alloc _).drew.trans hBt (fun _ _ h => h)
      have hk6 : w6.heap[b]? = w3.heap[b]? := hB6.block b hlk hn3
      have e9 : w6.cell? ⟨b, 0, none⟩ = some (.slice ad3 L2.length cap3) := (World.cell?_of_block hk6).trans r0
      have ef9 : w6.frozen? ⟨b, 0, none⟩ = false := (World.frozen?_of_block hk6).trans rf
      have hr6 : OwnsAt w6 41 5 (.slice (some ⟨g6, o6, none⟩) (L2.length + 1) cap6) (L2 ++ [Pg.Ln.mk ⟨mp, ms, mf, mr⟩ d]).length (lnCells (L2 ++ [Pg.Ln.mk ⟨mp, ms, mf, mr⟩ d])) := by
        rw [lnCells_push, List.length_append]
        exact hO
      have HF : Hid _ := HT3.out.put hB6 hr6 (fun j hj => by
        rcases hA with h | h
        · exact .inl (h.trans hj)
        · exact .inr (by simp [Value.ownBlock] at hj; simp at h; omega)) HK3.out
      have hlk6 : b < w6.heap.size := Nat.lt_of_lt_of_le hlk hB6.size
      clear t3 lx3 hr6 hB6 hO hA hBt hk6 hown hown'
      go_wp2_with fail
      go_region_law (refine step_append_known rfl (.tmp 31) (.tmp 33) 27 27 rfl (.slice ad3 L2.length cap3) (.slice (some ⟨w3.heap.size, 0, none⟩) 1 1) (by simp [Act.eval]) (by simp [Act.eval]) hrun ?_)
      all_goals
        go_wp2_with fail
        go_ret
        obtain ⟨f1, f2, f3⟩ := HF.out
        refine ⟨rfl, _, by rw [← HL2.out]; exact f1, HC3.out.trans f2 (fun i hi hg => (HF3.out i hg).elim id (fun h => by omega)), fun k hk => (f3 k hk).elim (HF3.out k) (fun h => .inr (by omega))⟩
  · have hr : (l.m.code == 0) = false := by simp [hcode]
    have hne : (Pg.check l.m.p l.m.s l.m.f l.m.r != 0) = true := by
      have : Pg.check l.m.p l.m.s l.m.f l.m.r ≠ 0 := hcode
      simpa using this
    rw [hr, Pg.kPut_no hcode]
    clear hcode hr h
    obtain ⟨⟨mp, ms, mf, mr⟩, d⟩ := l
    simp only at HCK hne
    simp only [Pg.Ln.val]
    generalize Pg.check mp ms mf mr = x at *
    go_enter Try.func12, Try.ntmps12
    go_wp2_with fail
    refine (HCK _).mono ?_
    rintro e w1 ⟨rfl, hb1⟩
    have HB : Hid (Below w.heap.size w w1) := bthen (balloc (brefl _) _) hb1
    clear hb1
    go_wp2_with fail
    go_ret
    exact ⟨rfl, _, HX.out.grow HB.out, Chg.of_below HB.out hlb, fun k hk => .inl hk⟩
end Go.Proofs.Ytkcmlmofcjdgoad
