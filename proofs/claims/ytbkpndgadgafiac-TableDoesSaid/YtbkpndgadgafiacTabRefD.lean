
/-
  The document's own changes of tables: Remove.
-/
import Derived.Test.YtbkpndgadgafiacTabRefC
import Derived.Test.YtbkpndgadgafiacTabJ
import Derived.Test.YtbkpndgadgafiacArrT
namespace Go.Proofs.Ytbkpndgadgafiac
open Go.RowKit Go.Sort
set_option linter.unusedVariables false
set_option linter.unusedSimpArgs false
set_option maxRecDepth 100000
attribute [local go_sem] Loose.gent run_equal8

/-- What RemoveFrom leaves. -/
structure RmDoneM (w : World) (b g0 g1 : Nat) (vm : Value) (S' : Pg.Fs) (m : Pg.Mp) (G : List Int) (c : Int) (en : Ending) (w' : World) : Prop where
  body : ∃ ad cap, en = .returned (.tuple #[m.val, .slice ad G.length cap, .int .i64 c]) ∧ IntsAt w' ad G ∧ MemAt w' b g0 g1 vm S' ∧ But (memF b g0 g1 vm) w w' ∧ ∀ g, ad = some ⟨g, 0, none⟩ → w.heap.size ≤ g

/-- What holds in each round of RemoveFrom. -/
structure RmInvM (W5 wr : World) (b g0 g1 : Nat) (vm : Value) (Si : Pg.Fs) (T : List Int) (k : Nat) (p : Int) (vg : Value) (Gi : List Int) (R : Pg.Fs × List Int) : Prop where
  mem : MemAt wr b g0 g1 vm Si
  but : But (memF b g0 g1 vm) W5 wr
  own : wr.ownsRow W5.heap.size 3 1 vg Gi.length (ints Gi)
  has : ∀ x, x ∈ T → Si.has x = true
  rest : Pg.rmW p T (k + 1) Si Gi = R

theorem rmM_finish {w W6 W8 w9 : World} {b g0 g1 : Nat} {vm : Value} {S S' : Pg.Fs} {Gi : List Int} {ga : Option Addr} {gc : Nat} (H : MemAt w b g0 g1 vm S) (B6 : Below w.heap.size w W6) (M8 : MemAt W8 b g0 g1 vm S') (B8 : But (memF b g0 g1 vm) W6 W8) (O8 : W8.ownsRow W6.heap.size 3 1 (.slice ga Gi.length gc) Gi.length (ints Gi)) (hb : Below W8.heap.size W8 w9) (hlw : w.heap.size < W6.heap.size) (a0 a1 a2 a3 : Value) (m : Pg.Mp) (c : Int) :
    RmDoneM w b g0 g1 vm S' m Gi c (.returned (.tuple #[m.val, .slice ga Gi.length gc, .int .i64 c])) ((((w9.setCell ⟨w.heap.size, 0, none⟩ a0).setCell ⟨w.heap.size, 1, none⟩ a1).setCell ⟨w.heap.size, 2, none⟩ a2).setCell ⟨w.heap.size, 3, none⟩ a3) := by
  have hbt : But (fun j => j = w.heap.size) W8 ((((w9.setCell ⟨w.heap.size, 0, none⟩ a0).setCell ⟨w.heap.size, 1, none⟩ a1).setCell ⟨w.heap.size, 2, none⟩ a2).setCell ⟨w.heap.size, 3, none⟩ a3) := by
    iterate 4 refine But.setCell ?_ (by exact .inr rfl) _
    exact But.of_below hb
  refine ⟨ga, gc, rfl, ?_, M8.keep hbt fun j hj e => ?_, ?_, fun g hg => ?_⟩
  · exact owns_intsAt (cap := gc) (n := Gi.length) (ownsMaps_but O8 hbt fun j hj e => by have := (O8.lt j hj).1; omega)
  · have := H.raw.lt hj; omega
  · exact ((But.of_below B6).trans B8 fun _ _ h => h).trans hbt fun i hi e => by omega
  · subst hg
    have := (O8.lt g rfl).1
    omega
theorem zero8_words (S : Pg.Fs) (tn : Nat) : zero8 (S.word tn 0) (S.word tn 1) (S.word tn 2) (S.word tn 3) (S.word tn 4) (S.word tn 5) (S.word tn 6) (S.word tn 7) = Pg.emptyT S (tn : Int) := by
  unfold zero8 Pg.emptyT
  simp [List.range, List.range.loop]
theorem emptyT_words (S : Pg.Fs) (tn : Nat) : Pg.emptyT S (tn : Int) = true ↔ (S.word tn 0 = 0 ∧ S.word tn 1 = 0 ∧ S.word tn 2 = 0 ∧ S.word tn 3 = 0 ∧ S.word tn 4 = 0 ∧ S.word tn 5 = 0 ∧ S.word tn 6 = 0 ∧ S.word tn 7 = 0) := by
  unfold Pg.emptyT
  simp [List.range, List.range.loop]

set_option maxHeartbeats 4000000 in
theorem removeFrom_any {b g0 g1 : Nat} {vm : Value} {S : Pg.Fs} (t p : Int) (w : World) (h : MemAt w b g0 g1 vm S) :
    Calls Try.prog 26 #[.pointer (some ⟨b, 0, none⟩), .int .i64 t, .int .i64 p] w fun en w' => RmDoneM w b g0 g1 vm (Pg.rmR S t p).1 (Pg.tFM S t p) (Pg.rmR S t p).2 (Pg.tFC S t p) en w' := by
  have H : Hid _ := h
  obtain ⟨W1, hW1⟩ : ∃ W1, W1 = w.alloc (.cells #[.int .i64 0, .int .i64 0, .int .i64 0, .int .i64 0] 53) := ⟨_, rfl⟩
  have hB1 : Below w.heap.size w W1 := by rw [hW1]; exact balloc (brefl w) _
  have r4 : W1.cell? ⟨w.heap.size, 0, none⟩ = some (.int .i64 0) ∧ W1.cell? ⟨w.heap.size, 1, none⟩ = some (.int .i64 0) ∧ W1.cell? ⟨w.heap.size, 2, none⟩ = some (.int .i64 0) ∧ W1.cell? ⟨w.heap.size, 3, none⟩ = some (.int .i64 0) := by rw [hW1]; simp [go_sem]
  have rf4 : ∀ o, W1.frozen? ⟨w.heap.size, o, none⟩ = false := fun o => by rw [hW1]; simp [go_sem]
  have HR4 : Hid _ := r4
  have HF4 : Hid _ := rf4
  have HB1 : Hid _ := hB1
  have hlw : w.heap.size < W1.heap.size := World.block_lt_of_cell? _ _ r4.1
  have HFi := findIn_any t p W1 (h.grow hB1)
  by_cases hc : Pg.tFC S t p = 0
  · have hz : fndC S t p = 0 := by
      by_cases hz : fndC S t p = 0
      · exact hz
      · rw [Pg.tFC, if_pos hz] at hc
        exact absurd hc hz
    obtain ⟨Y, s, lv, hY, W, hsl, hl3, hY3, hpl, hix⟩ := way_split hz
    have hhas := W.has
    have hlenX : lv + (Y.length + 1) = 4 := by have := W.len; rw [List.length_append, List.length_singleton] at this; exact this
    have hbel := W.below
    have eR : Pg.rmR S t p = Pg.rmW p (tabs (Y ++ [s])) (Y.length + 1) S [] := by rw [Pg.rmR, if_pos hc, hY]; simp
    have hlT : (tabs (Y ++ [s])).length = Y.length + 1 := by rw [tabs_len]; simp
    have HW2 : ∀ W', Below w.heap.size w W' → Calls Try.prog 12 #[.pointer (some ⟨b, 0, none⟩), .int .i64 t, .int .i64 p] W' fun e w' => (∃ ad cap, e = .returned (.tuple #[.agg #[.slice ad (Y.length + 1) cap, .bool s.e.t, .bool s.e.l, .int .i64 s.e.r, .bool s.e.u, .bool s.e.d, .int .i64 s.e.f, .int .i64 (lv : Int)], .int .i64 0]) ∧ IntsAt w' ad (tabs (Y ++ [s])) ∧ ∀ g, ad = some ⟨g, 0, none⟩ → W'.heap.size ≤ g) ∧ Below W'.heap.size W' w' := by
      intro W' hW'
      refine (wayTo_any t p W' (h.grow hW')).mono ?_
      rintro e w' ⟨⟨ad, cap, he, hi⟩, hb, hnew⟩
      rw [hY] at hi
      refine ⟨⟨ad, cap, ?_, hi, fun g hg => hnew g _ _ _ (by rw [he, hg])⟩, hb⟩
      rw [he, hz, hY]
      simp only [wayV, W.lastE, W.lastL, List.length_append, List.length_singleton]
    rw [hc, eR]
    rw [hc] at HFi
    clear hc hz W hY hsl hpl hix h eR r4 rf4 hB1
    generalize tabs (Y ++ [s]) = T at *
    generalize Y.length = N at *
    generalize s.e = e at *
    generalize Pg.tFM S t p = mm at *
    generalize Pg.tFE S t p = ee at *
    obtain ⟨mp, ms, mf, mr⟩ := mm
    obtain ⟨et, el, er, eu, ed, ef⟩ := e
    obtain ⟨e't, e'l, e'r, e'u, e'd, e'f⟩ := ee
    simp only [Pg.Mp.val, Pg.En.val] at HFi
    simp only at HW2
    go_enter Try.func26, Try.ntmps26
    go_wp2_with fail
    rw [← hW1]
    clear hW1
    refine HFi.mono ?_
    rintro en w3 ⟨rfl, hb3⟩
    have HB3 : Hid (Below W1.heap.size W1 w3) := hb3
    clear hb3 HFi
    go_wp2_with fail
    obtain ⟨W4, hW4⟩ : ∃ W4, W4 = (w3.alloc (.cells #[.int .i64 mp, .int .i64 ms, .int .i64 mf, .int .i64 mr] 53)).alloc (.cells #[.bool e't, .bool e'l, .int .i64 e'r, .bool e'u, .bool e'd, .int .i64 e'f] 29) := ⟨_, rfl⟩
    have hb4 : Below w3.heap.size w3 W4 := by rw [hW4]; exact balloc (balloc (brefl _) _) _
    have m4 : W4.cell? ⟨w3.heap.size, 0, none⟩ = some (.int .i64 mp) ∧ W4.cell? ⟨w3.heap.size, 1, none⟩ = some (.int .i64 ms) ∧ W4.cell? ⟨w3.heap.size, 2, none⟩ = some (.int .i64 mf) ∧ W4.cell? ⟨w3.heap.size, 3, none⟩ = some (.int .i64 mr) := by rw [hW4]; simp [go_sem]
    have HB4 : Hid (Below W1.heap.size W1 W4) := bthen HB3.out hb4
    have M4 : Hid _ := m4
    rw [← hW4]
    clear hW4 hb4 m4
    refine (HW2 _ (bthen HB1.out HB4.out)).mono ?_
    rintro en w5 ⟨⟨ad, cap, rfl, hi, hnew⟩, hb5⟩
    have HB5 : Hid (Below W4.heap.size W4 w5) := hb5
    clear hb5 HW2
    obtain ⟨W6, hW6⟩ : ∃ W6, W6 = w5.alloc (.cells #[.slice ad (N + 1) cap, .bool et, .bool el, .int .i64 er, .bool eu, .bool ed, .int .i64 ef, .int .i64 (lv : Int)] 36) := ⟨_, rfl⟩
    have hb6 : Below w5.heap.size w5 W6 := by rw [hW6]; exact balloc (brefl _) _
    have c0 : W6.cell? ⟨w5.heap.size, 0, none⟩ = some (.slice ad (N + 1) cap) := by rw [hW6]; simp [go_sem]
    have hi6 := hi.below hb6
    have HB6 : Hid (Below W4.heap.size W4 W6) := bthen HB5.out hb6
    have B6 : Hid (Below w.heap.size w W6) := bthen HB1.out (bthen HB4.out HB6.out)
    have Z6 : Hid _ := later4 (bthen HB4.out HB6.out) HR4.out
    have ZF6 : Hid (∀ o, W6.frozen? ⟨w.heap.size, o, none⟩ = false) := fun o => ((bthen HB4.out HB6.out).frozen (p := ⟨w.heap.size, o, none⟩) hlw).trans (HF4.out o)
    have M6 : Hid _ := later4 HB6.out M4.out
    have hl6 : w5.heap.size < W6.heap.size := World.block_lt_of_cell? _ _ c0
    have hl36 : w3.heap.size < W6.heap.size := World.block_lt_of_cell? _ _ M6.out.1
    have hmF : Hid (∀ j, memF b g0 g1 vm j → j < w.heap.size) := fun j hj => H.out.raw.lt hj
    obtain ⟨g, rfl, hg6, _⟩ := hi6 N (by omega)
    have hgnew := hnew g rfl
    have hs13 : W1.heap.size ≤ w3.heap.size := HB3.out.size
    have hs14 : w3.heap.size ≤ w5.heap.size := by have h1 := World.block_lt_of_cell? _ _ M4.out.1; have h2 := HB5.out.size; simp only at h1; omega
    have hs44 : W1.heap.size ≤ W4.heap.size := HB4.out.size
    have HI6 : Hid (IntsAt W6 (some ⟨g, 0, none⟩) T) := hi6
    have C0 : Hid _ := c0
    generalize hR : Pg.rmW p T (N + 1) S [] = R at *
    have HRR : Hid _ := hR
    have HHS : Hid _ := hhas
    have hNI : ((N + 1 : Nat) : Int) - 1 = (N : Int) := by omega
    clear hR hhas hi hb6 hnew HR4 HF4 HB3 HB5
    go_wp2_with fail
    rw [← hW6]
    clear hW6
    go_wp2_with fail
    clear c0 hi6
    go_loopw [14, 15] (fun vg kv wr => ∃ (kk : Nat) (Si : Pg.Fs) (Gi : List Int), Gi.length + kk = N ∧ kv = .int .i64 (kk : Int) ∧ Hid (RmInvM W6 wr b g0 g1 vm Si T kk p vg Gi R)) (fun _ kv _ => (intOf kv).toNat)
    case atStart => exact ⟨N, S, [], by simp, by simp, H.out.grow B6.out, But.refl _ _, World.ownsRow_nil _ _ _ _, HHS.out, HRR.out⟩
    case round =>
      obtain ⟨kk, Si, Gi, hgk, rfl, HI⟩ := hrel
      have k0 : (0 : Int) ≤ (kk : Int) := by omega
      obtain ⟨ga, gc, hvg⟩ := ownsMaps_form HI.out.own
      subst hvg
      have hin : T.getD kk 0 ∈ T := by
        have : kk < T.length := by omega
        simp [List.getD, this]
      have hhT := HI.out.has _ hin
      obtain ⟨t0, t1, _⟩ := HI.out.mem.ok.has_lt hhT
      obtain ⟨tn, htn⟩ := Int.eq_ofNat_of_zero_le t0
      obtain ⟨g', eg, _, hgc0⟩ := HI6.out kk (by omega)
      cases eg
      have nF : ∀ j, w.heap.size ≤ j → ¬ memF b g0 g1 vm j := fun j hj h => by have := hmF.out j h; omega
      have hbw : wr.heap[w5.heap.size]? = W6.heap[w5.heap.size]? := HI.out.but.block _ hl6 (nF _ (by omega))
      have hbg : wr.heap[g]? = W6.heap[g]? := HI.out.but.block _ hg6 (nF _ (by omega))
      have y0 := (World.cell?_of_block hbw).trans C0.out
      have y1 := (World.cell?_of_block hbg).trans hgc0
      rw [htn] at hhT y1 t1
      have hidx : Pg.index p (3 - (kk : Int)) = (Pg.ix p (3 - kk) : Nat) := by rw [show (3 - (kk : Int)) = ((3 - kk : Nat) : Int) by omega]; exact Pg.index_ix hbel (by omega)
      have hix8 : Pg.ix p (3 - kk) < 8 := Pg.ix_lt _ _
      have HIx := indexOf_any p (3 - (kk : Int))
      rw [hidx] at HIx
      have hrest := HI.out.rest
      rw [rmW_rest, htn, hidx] at hrest
      have HRE : Hid _ := hrest
      have HTN : Hid _ := htn
      generalize Pg.ix p (3 - kk) = i at *
      have hw3 : IntKind.i64.wrap (3 - (kk : Int)) = 3 - (kk : Int) := wrap_i64_in (by omega) (by omega)
      have hc0 := HI.out.mem.raw.c0
      have htl : tn < Si.n := by omega
      have hcw := HI.out.mem.raw.cw tn i htl hix8
      have hf0 := HI.out.mem.raw.f0
      have hsm := HI.out.mem.ok.small
      have i0 : (0 : Int) ≤ (tn : Int) := by omega
      have i1 : (tn : Int) < (Si.n : Int) := by omega
      have i2 : (0 : Int) ≤ (i : Int) := by omega
      have i3 : (i : Int) < 8 := by omega
      have i4 : (kk : Int) < (N : Int) + 1 := by omega
      have n0 : ¬ g0 = b := HI.out.mem.raw.n0
      have n0' : ¬ b = g0 := fun e => n0 e.symm
      have hg0w : g0 < w.heap.size := hmF.out g0 (.inr (.inl rfl))
      have hbw0 : b < w.heap.size := hmF.out b (.inl rfl)
      have e1 : ¬ g0 = g := by omega
      have e2 : ¬ g = g0 := by omega
      have e3 : ¬ g0 = w5.heap.size := by omega
      have e4 : ¬ w5.heap.size = g0 := by omega
      have lg6 : g0 < wr.heap.size := HI.out.mem.raw.l0
      have HHas : Hid _ := hhT
      clear hbw hbg hgc0 hrest hhT hidx t0 t1 nF htn
      generalize Si.word tn i = wo at *
      go_wp2_with fail
      go_region_held3 (fun w' => w'.cell? ⟨b, 0, none⟩ = some (.slice (some ⟨g0, 0, none⟩) Si.n Si.n) ∧ w'.cell? ⟨w5.heap.size, 0, none⟩ = some (.slice (some ⟨g, 0, none⟩) (N + 1) cap) ∧ w'.cell? ⟨g, kk, none⟩ = some (.int .i64 (tn : Int))) (go_keep) (
        (go_at_call 14; refine (HIx _).mono ?_; rintro e w7 ⟨rfl, hb7⟩
         have HB7 : Hid (Below wr.heap.size wr w7) := bthen (brefl wr).drew hb7
         have s0 := cell_later HB7.out hc0
         have s1 := cell_later HB7.out y0
         have s2 := cell_later HB7.out y1
         have s3 := cell_later HB7.out hcw
         have s4 : ∀ o, w7.frozen? ⟨g0, o, none⟩ = false := fun o => (HB7.out.frozen (p := ⟨g0, o, none⟩) lg6).trans (hf0 o)
         clear hb7))
      have M8 : Hid (MemAt (w7.setCell ⟨g0, tn * 8 + i, none⟩ (.int .u64 0)) b g0 g1 vm (Si.store (tn : Int) (i : Int) 0)) := (HI.out.mem.grow HB7.out).word HHas.out hix8 (by decide) (by decide)
      have B8 : Hid (But (memF b g0 g1 vm) W6 (w7.setCell ⟨g0, tn * 8 + i, none⟩ (.int .u64 0))) := by
        refine But.setCell ?_ (by exact .inr (.inr (.inl rfl))) _
        exact HI.out.but.trans (But.of_below (F := fun _ => False) HB7.out) fun _ _ h => h.elim
      have O8 : Hid ((w7.setCell ⟨g0, tn * 8 + i, none⟩ (.int .u64 0)).ownsRow W6.heap.size 3 1 (.slice ga Gi.length gc) Gi.length (ints Gi)) := by
        have hb : But (fun j => j = g0) wr (w7.setCell ⟨g0, tn * 8 + i, none⟩ (.int .u64 0)) := by
          refine But.setCell ?_ (by exact .inr rfl) _
          exact But.of_below HB7.out
        exact ownsMaps_but HI.out.own hb fun j hj e => by have := (HI.out.own.lt j hj).1; omega
      have S8 : Hid (∀ x, x ∈ T → (Si.store (tn : Int) (i : Int) 0).has x = true) := fun x hx => by rw [Pg.store_has]; exact HI.out.has x hx
      have hn8 : (Si.store (tn : Int) (i : Int) 0).n = Si.n := (Pg.store_n _ _ _ _).1
      have HN8 : Hid _ := hn8
      have j0 : (w7.setCell ⟨g0, tn * 8 + i, none⟩ (.int .u64 0)).cell? ⟨b, 0, none⟩ = some (.slice (some ⟨g0, 0, none⟩) Si.n Si.n) := by have := M8.out.raw.c0; rw [hn8] at this; exact this
      have j1 : (w7.setCell ⟨g0, tn * 8 + i, none⟩ (.int .u64 0)).cell? ⟨w5.heap.size, 0, none⟩ = some (.slice (some ⟨g, 0, none⟩) (N + 1) cap) := by simp [go_sem, s1, e3]
      have j2 : (w7.setCell ⟨g0, tn * 8 + i, none⟩ (.int .u64 0)).cell? ⟨g, kk, none⟩ = some (.int .i64 (tn : Int)) := by simp [go_sem, s2, e1]
      go_wp2_with fail
      generalize (w7.setCell ⟨g0, tn * 8 + i, none⟩ (.int .u64 0)) = W8 at *
      generalize Si.store (tn : Int) (i : Int) 0 = S' at *
      clear s0 s1 s2 s3 s4 HI HB7 hc0 hcw hf0 y0 y1 lg6 HIx hn8
      by_cases hk0 : kk = 0
      · have hkb : ((kk : Int) == 0) = true := by simp [hk0]
        have HFin : Hid (R = (S', Gi)) := by rw [Hid, ← HRE.out, rmRest, if_pos (by left; omega)]
        have hbw : W8.heap[w.heap.size]? = W6.heap[w.heap.size]? := B8.out.block _ (by omega) fun h => by have := hmF.out _ h; omega
        have hbm : W8.heap[w3.heap.size]? = W6.heap[w3.heap.size]? := B8.out.block _ hl36 fun h => by have := hmF.out _ h; omega
        have z0 := (World.cell?_of_block hbw).trans Z6.out.1
        have z1 := (World.cell?_of_block hbw).trans Z6.out.2.1
        have z2 := (World.cell?_of_block hbw).trans Z6.out.2.2.1
        have z3 := (World.cell?_of_block hbw).trans Z6.out.2.2.2
        have zf : ∀ o, W8.frozen? ⟨w.heap.size, o, none⟩ = false := fun o => (World.frozen?_of_block hbw).trans (ZF6.out o)
        have m0 := (World.cell?_of_block hbm).trans M6.out.1
        have m1 := (World.cell?_of_block hbm).trans M6.out.2.1
        have m2 := (World.cell?_of_block hbm).trans M6.out.2.2.1
        have m3 := (World.cell?_of_block hbm).trans M6.out.2.2.2
        have fin : Hid (∀ nq, RmDoneM w b g0 g1 vm S' ⟨mp, ms, mf, mr⟩ Gi 0 (.returned (.tuple #[(Pg.Mp.mk mp ms mf mr).val, .slice ga Gi.length gc, .int .i64 0])) (((((W8.drewN nq).setCell ⟨w.heap.size, 0, none⟩ (.int .i64 mp)).setCell ⟨w.heap.size, 1, none⟩ (.int .i64 ms)).setCell ⟨w.heap.size, 2, none⟩ (.int .i64 mf)).setCell ⟨w.heap.size, 3, none⟩ (.int .i64 mr))) := fun nq => rmM_finish H.out B6.out M8.out B8.out O8.out (below_drewN (brefl _) nq) (by omega) _ _ _ _ ⟨mp, ms, mf, mr⟩ 0
        clear hbw hbm
        go_quiet (fail)
        go_wp2_with fail
        refine bodyPost_ret (v := .tuple #[.agg #[.int .i64 mp, .int .i64 ms, .int .i64 mf, .int .i64 mr], .slice ga Gi.length gc, .int .i64 0]) ?_ rfl ?_
        · simp [results, Try.results26, go_sem, z0, z1, z2, z3]
        · rw [HRR.out, HFin.out]
          exact fin.out _
      · have hkb : ((kk : Int) == 0) = false := by simp [hk0]
        have htl8 : tn < S'.n := by rw [HN8.out]; exact htl
        have w0 : W8.cell? ⟨g0, tn * 8, none⟩ = _ := M8.out.raw.cw tn 0 htl8 (by omega)
        have w1 := M8.out.raw.cw tn 1 htl8 (by omega)
        have w2 := M8.out.raw.cw tn 2 htl8 (by omega)
        have w3' := M8.out.raw.cw tn 3 htl8 (by omega)
        have w4 := M8.out.raw.cw tn 4 htl8 (by omega)
        have w5' := M8.out.raw.cw tn 5 htl8 (by omega)
        have w6 := M8.out.raw.cw tn 6 htl8 (by omega)
        have w7' := M8.out.raw.cw tn 7 htl8 (by omega)
        have hz8 := zero8_words S' tn
        generalize S'.word tn 0 = q0 at *
        generalize S'.word tn 1 = q1 at *
        generalize S'.word tn 2 = q2 at *
        generalize S'.word tn 3 = q3 at *
        generalize S'.word tn 4 = q4 at *
        generalize S'.word tn 5 = q5 at *
        generalize S'.word tn 6 = q6 at *
        generalize S'.word tn 7 = q7 at *
        cases hem : Pg.emptyT S' (tn : Int)
        · have HFin : Hid (R = (S', Gi)) := by rw [Hid, ← HRE.out, rmRest, if_pos (by right; rw [show kk + 1 - 1 = kk from rfl, HTN.out]; exact hem)]
          rw [hem] at hz8
          have hbw : W8.heap[w.heap.size]? = W6.heap[w.heap.size]? := B8.out.block _ (by omega) fun h => by have := hmF.out _ h; omega
          have hbm : W8.heap[w3.heap.size]? = W6.heap[w3.heap.size]? := B8.out.block _ hl36 fun h => by have := hmF.out _ h; omega
          have z0 := (World.cell?_of_block hbw).trans Z6.out.1
          have z1 := (World.cell?_of_block hbw).trans Z6.out.2.1
          have z2 := (World.cell?_of_block hbw).trans Z6.out.2.2.1
          have z3 := (World.cell?_of_block hbw).trans Z6.out.2.2.2
          have zf : ∀ o, W8.frozen? ⟨w.heap.size, o, none⟩ = false := fun o => (World.frozen?_of_block hbw).trans (ZF6.out o)
          have m0 := (World.cell?_of_block hbm).trans M6.out.1
          have m1 := (World.cell?_of_block hbm).trans M6.out.2.1
          have m2 := (World.cell?_of_block hbm).trans M6.out.2.2.1
          have m3 := (World.cell?_of_block hbm).trans M6.out.2.2.2
          have fin : Hid (∀ nq, RmDoneM w b g0 g1 vm S' ⟨mp, ms, mf, mr⟩ Gi 0 (.returned (.tuple #[(Pg.Mp.mk mp ms mf mr).val, .slice ga Gi.length gc, .int .i64 0])) (((((W8.drewN nq).setCell ⟨w.heap.size, 0, none⟩ (.int .i64 mp)).setCell ⟨w.heap.size, 1, none⟩ (.int .i64 ms)).setCell ⟨w.heap.size, 2, none⟩ (.int .i64 mf)).setCell ⟨w.heap.size, 3, none⟩ (.int .i64 mr))) := fun nq => rmM_finish H.out B6.out M8.out B8.out O8.out (below_drewN (brefl _) nq) (by omega) _ _ _ _ ⟨mp, ms, mf, mr⟩ 0
          clear hbw hbm
          go_quiet (fail)
          go_wp2_with fail
          refine bodyPost_ret (v := .tuple #[.agg #[.int .i64 mp, .int .i64 ms, .int .i64 mf, .int .i64 mr], .slice ga Gi.length gc, .int .i64 0]) ?_ rfl ?_
          · simp [results, Try.results26, go_sem, z0, z1, z2, z3]
          · rw [HRR.out, HFin.out]
            exact fin.out _
        · rw [hem] at hz8
          obtain ⟨m, hkm⟩ : ∃ m, kk = m + 1 := ⟨kk - 1, by omega⟩
          have HNext : Hid (Pg.rmW p T (m + 1) S' (Gi ++ [(tn : Int)]) = R) := by
            rw [Hid, ← HRE.out, rmRest, if_neg (by
              intro hh
              rcases hh with h | h
              · omega
              · rw [show kk + 1 - 1 = kk from rfl, HTN.out, hem] at h; cases h)]
            rw [show kk + 1 - 1 = kk from rfl, HTN.out, hkm]
          have hkI : (kk : Int) - 1 = (m : Int) := by omega
          have HKM : Hid _ := hkm
          clear hkm
          have hgl : Gi.length + 1 ≤ 4 := by omega
          have hlm1 : (1 : Int) ≤ (kk : Int) := by omega
          go_quiet (fail)
          have hown9 : (W8.drewN nq).ownsRow W6.heap.size 3 1 (.slice ga Gi.length gc) Gi.length (ints Gi) := ownsMaps_below O8.out (below_drewN (brefl _) nq)
          have hs69 : W6.heap.size ≤ W8.heap.size := B8.out.size
          obtain ⟨p0, hq, hz0, hz1, hz2⟩ := info_parts infoIntW
          go_wp2_with (first
            | (at_builtin; refine wpList_append_lies _ rfl _ _ 30 rfl W6.heap.size 3 p0 (.int .i64 0) 1 8 Try.underlying30 hq hz0 hz1 hz2 rfl (by decide) _ _ _ rfl (hown9.alloc _) ⟨W8.heap.size, 0, none⟩ 1 1 [.int .i64 (tn : Int)] rfl rfl ?c1 ?c2 (by decide) ?c3 ?c4 ?c5 (W8.heap.size + 1) (by simp) ?_))
          case c1 =>
            intro j u hj
            exact World.news_of_block (cs := #[.int .i64 (tn : Int)]) (heap_alloc_new (W8.drewN nq) _) j u hj
          case c2 => intro u hu; simp at hu; subst hu; rfl
          case c3 => unfold maxLen; omega
          case c4 => omega
          case c5 => simp; omega
          intro g9 cap9 w9 hown9' hgrow9 hat9 hlt9
          have hB9 : But (fun j => (Value.slice ga Gi.length gc).ownBlock = some j) W8 w9 := (But.of_below (balloc (below_drewN (brefl W8) nq) _)).grown hgrow9 fun k hk => .inr hk
          have fin : Hid (RmInvM W6 w9 b g0 g1 vm S' T m p (.slice (some ⟨g9, 0, none⟩) (Gi.length + 1) cap9) (Gi ++ [(tn : Int)]) R) := by
            have hlt : ∀ j, (Value.slice ga Gi.length gc).ownBlock = some j → W6.heap.size ≤ j := fun j hj => (O8.out.lt j hj).1
            refine ⟨M8.out.keep hB9 fun j hj e => ?_, B8.out.trans hB9 fun i hi h => ?_, ?_, S8.out, HNext.out⟩
            · have := hlt j e
              have := hmF.out j hj
              have := B6.out.size
              omega
            · have := hlt i h; omega
            · rw [List.length_append, List.length_singleton, ints_push]
              exact hown9'
          clear hown9 hown9' hgrow9 hat9 hlt9 hB9
          go_wp2_with fail
          exact ⟨⟨m, _, Gi ++ [(tn : Int)], by have := HKM.out; simp; omega, by first | go_num | simp [hkI] | rfl, fin.out⟩, by have := HKM.out; simp [intOf]; omega⟩
  · have e2 : Pg.tFM S t p = .zz := by rw [Pg.tFM, if_neg hc]
    have e4 : Pg.tFE S t p = Pg.En.zero := by rw [Pg.tFE, if_neg hc]
    have e3 : Pg.rmR S t p = (S, []) := by rw [Pg.rmR, if_neg hc]
    rw [e2, e3]
    rw [e2, e4] at HFi
    clear h e2 e3 r4 rf4 hB1 e4
    generalize Pg.tFC S t p = cc at *
    have hcb : (cc != 0) = true := by simp [hc]
    clear hc
    have HFi2 : Calls Try.prog 34 #[.pointer (some ⟨b, 0, none⟩), .int .i64 t, .int .i64 p] W1 fun e w' => e = .returned (.tuple #[.agg #[.int .i64 0, .int .i64 0, .int .i64 0, .int .i64 0], .agg #[.bool false, .bool false, .int .i64 0, .bool false, .bool false, .int .i64 0], .int .i64 cc]) ∧ Below W1.heap.size W1 w' := HFi
    clear HFi
    go_enter Try.func26, Try.ntmps26
    go_wp2_with fail
    rw [← hW1]
    clear hW1
    refine HFi2.mono ?_
    rintro en w3 ⟨rfl, hb3⟩
    obtain ⟨y0, y1, y2, y3⟩ := later4 hb3 HR4.out
    have yf : ∀ o, w3.frozen? ⟨w.heap.size, o, none⟩ = false := fun o => (hb3.frozen (p := ⟨w.heap.size, o, none⟩) hlw).trans (HF4.out o)
    have HB3 : Hid (Below w.heap.size w w3) := bthen HB1.out hb3
    have hl3 : w.heap.size < w3.heap.size := World.block_lt_of_cell? _ _ y0
    have hn3 : ¬ w.heap.size = w3.heap.size := by omega
    clear hb3 HFi2
    go_wp2_with fail
    have hBf := balloc (balloc (below_set4 HB3.out w.heap.size (Nat.le_refl _) (.int .i64 0) (.int .i64 0) (.int .i64 0) (.int .i64 0)) (.cells #[.int .i64 0, .int .i64 0, .int .i64 0, .int .i64 0] 53)) (.cells #[.bool false, .bool false, .int .i64 0, .bool false, .bool false, .int .i64 0] 29)
    refine bodyPost_ret (v := .tuple #[.agg #[.int .i64 0, .int .i64 0, .int .i64 0, .int .i64 0], .slice none 0 0, .int .i64 cc]) ?_ rfl ?_
    · simp [results, Try.results26, go_sem, y0, y1, y2, y3, hl3, hn3]
    · exact ⟨none, 0, rfl, fun j hj => absurd hj (by simp), H.out.grow hBf, But.of_below hBf, fun g hg => by cases hg⟩
end Go.Proofs.Ytbkpndgadgafiac
