/-
  The document's own walk: Again, end, Begin, and a step.
-/
import Derived.Test.YtbkpndgadgafiaeKLay
import Derived.Test.YtbkpndgadgafiaeMemRef
import Derived.Test.YtbkpndgadgafiaePageRef
import Derived.Test.YtbkpndgadgafiaeEntryRefC
import Derived.Test.YtbkpndgadgafiaeCoRefB
import Derived.Test.YtbkpndgadgafiaeLooseT
import Derived.Test.YtbkpndgadgafiaeMapInfo
import Derived.Test.YtbkpndgadgafiaePlainKB
import Derived.Deep.RegionHeld3
namespace Go.Proofs.Ytbkpndgadgafiae
open Go.RowKit Go.Sort
set_option linter.unusedVariables false
set_option linter.unusedSimpArgs false
set_option maxRecDepth 100000
attribute [local go_sem] Loose.gent

section
variable {b : Nat} {root : Int}
theorem CkEx.of_block {w w' : World} {K : Pg.Wk} (h : CkEx w b K) (hk : w'.heap[b]? = w.heap[b]?) : CkEx w' b K := by
  obtain ⟨t, lv, x, h⟩ := h
  exact ⟨t, lv, x, h.of_block hk⟩
theorem CkEx.lb {w : World} {K : Pg.Wk} (h : CkEx w b K) : b < w.heap.size := by
  obtain ⟨t, lv, x, h⟩ := h
  exact h.lb
theorem row3 {w : World} {r : Nat} {v0 v1 v2 : Value} {t : TypeId} (h : w.heap[r]? = some (.cells #[v0, v1, v2] t (0, 0))) :
    (w.cell? ⟨r, 0, none⟩ = some v0 ∧ w.cell? ⟨r, 1, none⟩ = some v1 ∧ w.cell? ⟨r, 2, none⟩ = some v2) ∧ ∀ i, w.frozen? ⟨r, i, none⟩ = false :=
  ⟨by simp [World.cell?, h], fun i => by simp [World.frozen?, h]⟩
theorem but_set3 {F : Nat → Prop} {w w1 : World} (h : But F w w1) (r : Nat) (hr : w.heap.size ≤ r ∨ F r) (x0 x1 x2 : Value) : But F w (((w1.setCell ⟨r, 0, none⟩ x0).setCell ⟨r, 1, none⟩ x1).setCell ⟨r, 2, none⟩ x2) :=
  ((h.setCell (a := ⟨r, 0, none⟩) hr x0).setCell (a := ⟨r, 1, none⟩) hr x1).setCell (a := ⟨r, 2, none⟩) hr x2
/-- The answer's own cells are written. -/
theorem fin3 {K : Pg.Wk} {G : Nat → Prop} {w W : World} {r : Nat} (hr : ¬ r = b) (hw : w.heap.size ≤ r) (h : CkEx W b K ∧ Ch8 b 1 G w W) (v0 v1 v2 : Value) :
    CkEx (((W.setCell ⟨r, 0, none⟩ v0).setCell ⟨r, 1, none⟩ v1).setCell ⟨r, 2, none⟩ v2) b K ∧ Ch8 b 1 G w (((W.setCell ⟨r, 0, none⟩ v0).setCell ⟨r, 1, none⟩ v1).setCell ⟨r, 2, none⟩ v2) := by
  have hb := but_set3 (F := fun j => j = r) (But.refl _ W) r (.inr rfl) v0 v1 v2
  have hne : ¬ b = r := fun e => hr e.symm
  have hl := h.1.lb
  refine ⟨h.1.of_block (hb.block b hl hne), but_set3 h.2.but r (.inl hw) v0 v1 v2, fun p hp => ?_⟩
  exact (hb.cell (a := ⟨b, p, none⟩) hl hne).trans (h.2.oth p hp)
theorem finC {K : Pg.Wk} {G : Nat → Prop} {w W W' : World} (h : CkEx W b K ∧ Ch8 b 1 G w W) (hb : Below W.heap.size W W') : CkEx W' b K ∧ Ch8 b 1 G w W' :=
  ⟨h.1.of_block (hb.block b h.1.lb), h.2.trans (Ch8.of_below (F := G) hb h.1.lb) fun _ _ hi => hi⟩

/-- A walk on its way, wherever it is. -/
structure CkOn (w : World) (b : Nat) (q k : Int) (u : Bool) (t lv x : Int) (m : Bool) : Prop where
  c1 : w.cell? ⟨b, 1, none⟩ = some (.bool true)
  c2 : w.cell? ⟨b, 2, none⟩ = some (.int .i64 q)
  c3 : w.cell? ⟨b, 3, none⟩ = some (.int .i64 k)
  c4 : w.cell? ⟨b, 4, none⟩ = some (.bool u)
  c5 : w.cell? ⟨b, 5, none⟩ = some (.int .i64 t)
  c6 : w.cell? ⟨b, 6, none⟩ = some (.int .i64 lv)
  c7 : w.cell? ⟨b, 7, none⟩ = some (.bool m)
  c8 : w.cell? ⟨b, 8, none⟩ = some (.int .u64 x)
  fb : ∀ p, w.frozen? ⟨b, p, none⟩ = false
theorem CkOn.drew {W : World} {q k : Int} {u : Bool} {t lv x : Int} {m : Bool} (h : CkOn W b q k u t lv x m) : CkOn W.drew b q k u t lv x m := ⟨h.c1, h.c2, h.c3, h.c4, h.c5, h.c6, h.c7, h.c8, h.fb⟩
theorem CkOn.again {W : World} {q k : Int} {u : Bool} {t lv x : Int} {m : Bool} (h : CkOn W b q k u t lv x m) :
    CkEx (((W.setCell ⟨b, 5, none⟩ (.int .i64 root)).setCell ⟨b, 6, none⟩ (.int .i64 3)).setCell ⟨b, 7, none⟩ (.bool false)) b (Pg.Wk.start root q k u) ∧ Ch8 b 1 (fun j => j = b) W (((W.setCell ⟨b, 5, none⟩ (.int .i64 root)).setCell ⟨b, 6, none⟩ (.int .i64 3)).setCell ⟨b, 7, none⟩ (.bool false)) := by
  obtain ⟨c1, c2, c3, c4, c5, c6, c7, c8, fb⟩ := h
  refine ⟨⟨root, 3, x, ?_, ?_, ?_, ?_, ?_, ?_, ?_, ?_, fun p => ?_, fun _ => ⟨rfl, rfl⟩, fun h => absurd rfl h⟩, (((Ch8.refl b 1 (fun j => j = b) W).set rfl 4 (by decide) _).set rfl 5 (by decide) _).set rfl 6 (by decide) _⟩ <;> simp [go_sem, c1, c2, c3, c4, c5, c6, c7, c8, fb, Pg.Wk.start]
theorem cAgain_on {q k : Int} {u : Bool} {t lv x : Int} {m : Bool} (w : World) (h : CkOn w b q k u t lv x m) :
    Calls Try.prog 15 #[.pointer (some ⟨b, 0, none⟩), .int .i64 root] w fun e w' => e = .returned (.tuple #[]) ∧ CkEx w' b (Pg.Wk.start root q k u) ∧ Ch8 b 1 (fun j => j = b) w w' := by
  have HF : Hid _ := h.again (root := root)
  have c1 := h.c1
  have c5 := h.c5
  have c6 := h.c6
  have c7 := h.c7
  have fb := h.fb
  clear h
  go_enter Try.func15, Try.ntmps15
  go_wp2_with fail
  go_end0
  exact ⟨rfl, HF.out⟩
theorem cAgain_any {K : Pg.Wk} (w : World) (h : CkEx w b K) :
    Calls Try.prog 15 #[.pointer (some ⟨b, 0, none⟩), .int .i64 root] w fun e w' => e = .returned (.tuple #[]) ∧ CkEx w' b (K.again root) ∧ Ch8 b 1 (fun j => j = b) w w' := by
  obtain ⟨t, lv, x, h⟩ := h
  cases ho : K.on
  · have e : K.again root = K := by simp [Pg.Wk.again, ho]
    rw [e]
    have c1 := h.c1
    rw [ho] at c1
    have HF : Hid (CkEx w b K ∧ Ch8 b 1 (fun j => j = b) w w) := ⟨⟨_, _, _, h⟩, Ch8.refl _ _ _ _⟩
    clear h ho e
    go_enter Try.func15, Try.ntmps15
    go_wp2_with fail
    go_end0
    exact ⟨rfl, HF.out⟩
  · have e : K.again root = Pg.Wk.start root K.q K.k K.u := by simp [Pg.Wk.again, ho, Pg.Wk.start]
    rw [e]
    exact cAgain_on w ⟨by rw [h.c1, ho], h.c2, h.c3, h.c4, h.c5, h.c6, h.c7, h.c8, h.fb⟩

theorem CkAt.ended {W : World} {K : Pg.Wk} {t lv x : Int} (h : CkAt W b K t lv x) :
    CkEx (((((W.setCell ⟨b, 1, none⟩ (.bool false)).setCell ⟨b, 2, none⟩ (.int .i64 0)).setCell ⟨b, 3, none⟩ (.int .i64 0)).setCell ⟨b, 4, none⟩ (.bool false)).setCell ⟨b, 7, none⟩ (.bool false)) b Pg.Wk.off ∧ Ch8 b 1 (fun j => j = b) W (((((W.setCell ⟨b, 1, none⟩ (.bool false)).setCell ⟨b, 2, none⟩ (.int .i64 0)).setCell ⟨b, 3, none⟩ (.int .i64 0)).setCell ⟨b, 4, none⟩ (.bool false)).setCell ⟨b, 7, none⟩ (.bool false)) := by
  obtain ⟨c1, c2, c3, c4, c5, c6, c7, c8, fb, _, _⟩ := h
  refine ⟨⟨t, lv, x, ?_, ?_, ?_, ?_, ?_, ?_, ?_, ?_, fun p => ?_, fun h => (by cases h), fun h => absurd rfl h⟩, (((((Ch8.refl b 1 (fun j => j = b) W).set0 rfl _).set rfl 1 (by decide) _).set rfl 2 (by decide) _).set rfl 3 (by decide) _).set rfl 6 (by decide) _⟩ <;> simp [go_sem, c1, c2, c3, c4, c5, c6, c7, c8, fb, Pg.Wk.off]

theorem cEnd_any {K : Pg.Wk} (a f r : Int) (w : World) (h : CkEx w b K) :
    Calls Try.prog 41 #[.pointer (some ⟨b, 0, none⟩), .agg #[.int .i64 a, .int .i64 f, .int .i64 r]] w fun e w' => e = .returned (.tuple #[.agg #[.int .i64 a, .int .i64 f, .int .i64 r], .bool true, .int .i64 0]) ∧ CkEx w' b Pg.Wk.off ∧ Ch8 b 1 (fun j => j = b) w w' := by
  obtain ⟨t, lv, x, h⟩ := h
  have HF := h.ended
  have c1 := h.c1
  have c2 := h.c2
  have c3 := h.c3
  have c4 := h.c4
  have c7 := h.c7
  have fb := h.fb
  have hl := h.lb
  have hl1 : b < w.heap.size + 1 := by omega
  have n0 : b ≠ w.heap.size := by omega
  have n1 : b ≠ w.heap.size + 1 := by omega
  have m0 : w.heap.size ≠ b := by omega
  have m1 : w.heap.size + 1 ≠ b := by omega
  have HF' : Hid _ := HF
  clear h HF
  go_enter Try.func41, Try.ntmps41
  go_wp2_with fail
  refine bodyPost_ret (v := .tuple #[.agg #[.int .i64 a, .int .i64 f, .int .i64 r], .bool true, .int .i64 0]) ?_ rfl ⟨rfl, finC HF'.out (balloc (balloc (brefl _) _) _)⟩
  simp [results, Try.results41, go_sem]

theorem CkAt.begun {W : World} {t lv x : Int} (h : CkAt W b Pg.Wk.off t lv x) (q k : Int) (u : Bool) :
    CkOn ((((W.setCell ⟨b, 1, none⟩ (.bool true)).setCell ⟨b, 2, none⟩ (.int .i64 q)).setCell ⟨b, 3, none⟩ (.int .i64 k)).setCell ⟨b, 4, none⟩ (.bool u)) b q k u t lv x false ∧ Ch8 b 1 (fun j => j = b) W ((((W.setCell ⟨b, 1, none⟩ (.bool true)).setCell ⟨b, 2, none⟩ (.int .i64 q)).setCell ⟨b, 3, none⟩ (.int .i64 k)).setCell ⟨b, 4, none⟩ (.bool u)) := by
  obtain ⟨c1, c2, c3, c4, c5, c6, c7, c8, fb, _, _⟩ := h
  refine ⟨⟨?_, ?_, ?_, ?_, ?_, ?_, ?_, ?_, fun p => ?_⟩, ((((Ch8.refl b 1 (fun j => j = b) W).set0 rfl _).set rfl 1 (by decide) _).set rfl 2 (by decide) _).set rfl 3 (by decide) _⟩ <;> simp [go_sem, c1, c2, c3, c4, c5, c6, c7, c8, fb, Pg.Wk.off]

set_option maxHeartbeats 1000000 in
/-- Begin, where nothing is kept, the access is one, and no walk is on its way. -/
theorem cBegin_any (q k : Int) (u : Bool) (hq : Pg.fits q) (hc : Pg.checkAccess q k = 0) (w : World) (h : CkEx w b Pg.Wk.off) {vb : Value} (hco : CoAt w b vb []) :
    Calls Try.prog 9 #[.pointer (some ⟨b, 0, none⟩), .int .i64 root, .agg #[.int .i64 q, .int .i64 k, .bool u]] w fun e w' => (∃ v, e = .returned v) ∧ CkEx w' b (Pg.Wk.start root q k u) ∧ Ch8 b 1 (fun j => j = b) w w' := by
  obtain ⟨t, lv, x, h⟩ := h
  obtain ⟨W, hW⟩ : ∃ W, W = (w.alloc (.cells #[.int .i64 q, .int .i64 k, .bool u] 34)).alloc (.cells #[.int .i64 0, .int .i64 0, .int .i64 0] 43) := ⟨_, rfl⟩
  have hBW : Below w.heap.size w W := by rw [hW]; exact balloc (balloc (brefl w) _) _
  have A3 : Hid (W.cell? ⟨w.heap.size, 0, none⟩ = some (.int .i64 q) ∧ W.cell? ⟨w.heap.size, 1, none⟩ = some (.int .i64 k) ∧ W.cell? ⟨w.heap.size, 2, none⟩ = some (.bool u)) := by rw [Hid, hW]; simp [go_sem]
  have R3 : Hid (W.heap[w.heap.size + 1]? = some (.cells #[.int .i64 0, .int .i64 0, .int .i64 0] 43 (0, 0))) := by
    rw [Hid, hW]
    exact (by simp : (w.alloc (.cells #[.int .i64 q, .int .i64 k, .bool u] 34)).heap.size = w.heap.size + 1) ▸ heap_alloc_new _ _
  have hl := h.lb
  have HKW : Hid _ := h.grow hBW
  have HCW : Hid _ := hco.grow hBW
  have HBW : Hid _ := hBW
  have HCa := accessFault_any q k u W
  rw [hc] at HCa
  have hne : b ≠ w.heap.size := by omega
  have mne : w.heap.size ≠ b := by omega
  have hrb : ¬ w.heap.size + 1 = b := by omega
  have hrW : w.heap.size + 1 < W.heap.size := by rw [hW]; simp
  clear h hco hBW hc
  go_enter Try.func9, Try.ntmps9
  go_wp2_with fail
  rw [← hW]
  refine HCa.mono ?_
  rintro e w1 ⟨rfl, hb1⟩
  have HK1 : Hid _ := HKW.out.grow hb1
  have HC1 : Hid _ := HCW.out.grow hb1
  have HB1 : Hid (Below w.heap.size w w1) := bthen HBW.out hb1
  have R1 : Hid (w1.heap[w.heap.size + 1]? = _) := (hb1.block _ hrW).trans R3.out
  have hr1 : w.heap.size + 1 < w1.heap.size := Nat.lt_of_lt_of_le hrW hb1.size
  have a1 := later3 hb1 A3.out
  have c1 := HK1.out.c1
  simp only [Pg.Wk.off] at c1
  obtain ⟨z0, z1, z2⟩ := a1
  have HKt := coKept_any q hq w1 HC1.out
  have hkn : Pg.kFndN [] q = -1 := rfl
  rw [hkn] at HKt
  have A1 : Hid _ := And.intro z0 (And.intro z1 z2)
  clear hb1 HCa HKW HCW HBW A3 hW R3 hkn
  go_wp2_with fail
  refine HKt.mono ?_
  rintro e w2 ⟨rfl, hb2⟩
  have HK2 : Hid _ := HK1.out.grow hb2
  have HB2 : Hid (Below w.heap.size w w2) := bthen HB1.out hb2
  have R2 : Hid (w2.heap[w.heap.size + 1]? = _) := (hb2.block _ hr1).trans R1.out
  have a2 := later3 hb2 A1.out
  have HF : Hid _ := HK2.out.begun q k u
  have d1 := HK2.out.c1
  have d2 := HK2.out.c2
  have d3 := HK2.out.c3
  have d4 := HK2.out.c4
  have fb := HK2.out.fb
  simp only [Pg.Wk.off] at d1 d2 d3 d4
  have hr2 : w.heap.size + 1 < w2.heap.size := Nat.lt_of_lt_of_le hr1 hb2.size
  clear z0 z1 z2 c1
  obtain ⟨z0, z1, z2⟩ := a2
  have hlz := World.block_lt_of_cell? _ _ z0
  simp only at hlz
  clear hb2 HKt HK1 HC1 HB1 R1 A1 hr1
  go_wp2_with fail
  go_region
  have HA := cAgain_on (root := root) _ HF.out.1.drew
  go_wp2_with fail
  refine HA.mono ?_
  rintro e w3 ⟨rfl, hk3, hc3⟩
  have HC3 : Hid (Ch8 b 1 (fun j => j = b) w w3) := (Ch8.of_below HB2.out hl).trans (HF.out.2.drew.trans hc3 (fun _ _ h => h)) (fun _ _ h => h)
  have R3 : Hid (w3.heap[w.heap.size + 1]? = some (.cells #[.int .i64 0, .int .i64 0, .int .i64 0] 43 (0, 0))) := ((HF.out.2.drew.trans hc3 (fun _ _ h => h)).but.block _ hr2 hrb).trans R2.out
  obtain ⟨⟨x0, x1, x2⟩, xf⟩ := row3 R3.out
  have HFin : Hid _ := fin3 hrb (Nat.le_succ _) ⟨hk3, HC3.out⟩ (.int .i64 0) (.int .i64 0) (.int .i64 0)
  clear hk3 hc3 HA z0 z1 z2 d1 d2 d3 d4 fb
  go_wp2_with fail
  refine bodyPost_ret (v := .tuple #[.agg #[.int .i64 0, .int .i64 0, .int .i64 0], .bool false, .int .i64 0]) ?_ rfl ⟨⟨_, rfl⟩, HFin.out⟩
  simp [results, Try.results9, go_sem, x0, x1, x2]

theorem at_hasK (S : Pg.Fs) (t q : Int) (lv : Nat) : S.at' t (Pg.ix q lv : Nat) = S.has t := by
  have := Pg.ix_lt q lv
  unfold Pg.Fs.at'
  cases S.has t
  · rfl
  · simp; omega
theorem six_blockK {w w' : World} {e : Nat} {v0 v1 v2 v3 v4 v5 : Value} (hk : w'.heap[e]? = w.heap[e]?) (h : w.cell? ⟨e, 0, none⟩ = some v0 ∧ w.cell? ⟨e, 1, none⟩ = some v1 ∧ w.cell? ⟨e, 2, none⟩ = some v2 ∧ w.cell? ⟨e, 3, none⟩ = some v3 ∧ w.cell? ⟨e, 4, none⟩ = some v4 ∧ w.cell? ⟨e, 5, none⟩ = some v5) :
    w'.cell? ⟨e, 0, none⟩ = some v0 ∧ w'.cell? ⟨e, 1, none⟩ = some v1 ∧ w'.cell? ⟨e, 2, none⟩ = some v2 ∧ w'.cell? ⟨e, 3, none⟩ = some v3 ∧ w'.cell? ⟨e, 4, none⟩ = some v4 ∧ w'.cell? ⟨e, 5, none⟩ = some v5 :=
  ⟨(World.cell?_of_block hk).trans h.1, (World.cell?_of_block hk).trans h.2.1, (World.cell?_of_block hk).trans h.2.2.1, (World.cell?_of_block hk).trans h.2.2.2.1, (World.cell?_of_block hk).trans h.2.2.2.2.1, (World.cell?_of_block hk).trans h.2.2.2.2.2⟩
theorem LnAt.lb {w : World} {g o : Nat} {l : Pg.Ln} (h : LnAt w g o l) : g < w.heap.size := World.block_lt_of_cell? _ _ h.1
theorem CkAt.low {W : World} {q k : Int} {u : Bool} {t : Int} {lv : Nat} {xw : Int} (h : CkAt W b ⟨true, q, k, u, t, lv, 0⟩ t (lv : Int) xw) (t' : Int) (m : Nat) :
    CkEx ((W.setCell ⟨b, 5, none⟩ (.int .i64 t')).setCell ⟨b, 6, none⟩ (.int .i64 (m : Int))) b ⟨true, q, k, u, t', m, 0⟩ ∧ Ch8 b 1 (fun j => j = b) W ((W.setCell ⟨b, 5, none⟩ (.int .i64 t')).setCell ⟨b, 6, none⟩ (.int .i64 (m : Int))) := by
  obtain ⟨c1, c2, c3, c4, c5, c6, c7, c8, fb, _, _⟩ := h
  refine ⟨⟨t', (m : Int), xw, ?_, ?_, ?_, ?_, ?_, ?_, ?_, ?_, fun p => ?_, fun _ => ⟨rfl, rfl⟩, fun h => absurd rfl h⟩, ((Ch8.refl b 1 (fun j => j = b) W).set rfl 4 (by decide) _).set rfl 5 (by decide) _⟩ <;> simp [go_sem, c1, c2, c3, c4, c5, c6, c7, c8, fb]
theorem CkAt.wait {W : World} {q k : Int} {u : Bool} {t : Int} {lv : Nat} {xw : Int} (h : CkAt W b ⟨true, q, k, u, t, lv, 0⟩ t (lv : Int) xw) (x' : Int) (hx : x' ≠ 0) :
    CkEx ((W.setCell ⟨b, 7, none⟩ (.bool true)).setCell ⟨b, 8, none⟩ (.int .u64 x')) b ⟨true, q, k, u, t, lv, x'⟩ ∧ Ch8 b 1 (fun j => j = b) W ((W.setCell ⟨b, 7, none⟩ (.bool true)).setCell ⟨b, 8, none⟩ (.int .u64 x')) := by
  obtain ⟨c1, c2, c3, c4, c5, c6, c7, c8, fb, _, _⟩ := h
  refine ⟨⟨t, (lv : Int), x', ?_, ?_, ?_, ?_, ?_, ?_, ?_, ?_, fun p => ?_, fun _ => ⟨rfl, rfl⟩, fun _ => rfl⟩, ((Ch8.refl b 1 (fun j => j = b) W).set rfl 6 (by decide) _).set rfl 7 (by decide) _⟩ <;> simp [go_sem, c1, c2, c3, c4, c5, c6, c7, c8, fb, hx]

set_option maxHeartbeats 1000000 in
theorem cStep_free {bm g0 g1 bl : Nat} {vb : Value} {S : Pg.Fs} {q k : Int} {u : Bool} {t : Int} {lv : Nat} {xw : Int} {x : Int} (hq : Pg.below q 4096 = true) (hlv : lv < 4) (w : World) (h : CkAt w b ⟨true, q, k, u, t, lv, x⟩ t (lv : Int) xw) (hm : MemAt w bm g0 g1 vb S) (hh : S.has t = false) :
    Calls Try.prog 10 #[.pointer (some ⟨b, 0, none⟩), .pointer (some ⟨bm, 0, none⟩), .int .i64 root, .pointer (some ⟨bl, 0, none⟩)] w fun e w' => e = .returned (.tuple #[.agg #[.int .i64 (Pg.Wo.res ⟨true, q, k, u, t, lv, x⟩ (.code 12)).a, .int .i64 (Pg.Wo.res ⟨true, q, k, u, t, lv, x⟩ (.code 12)).f, .int .i64 (Pg.Wo.res ⟨true, q, k, u, t, lv, x⟩ (.code 12)).r], .bool (Pg.Wo.res ⟨true, q, k, u, t, lv, x⟩ (.code 12)).ended, .int .i64 (Pg.Wo.cd (.code 12))]) ∧ CkEx w' b (Pg.Wo.next ⟨true, q, k, u, t, lv, x⟩ (.code 12)) ∧ Ch8 b 1 (fun j => j = b) w w' := by
  obtain ⟨W, hW⟩ : ∃ W, W = w.alloc (.cells #[.int .i64 0, .int .i64 0, .int .i64 0] 43) := ⟨_, rfl⟩
  have hBW : Below w.heap.size w W := by rw [hW]; exact balloc (brefl w) _
  have hl := h.lb
  have HKw : Hid _ := h
  have HMw : Hid _ := hm
  have HBW : Hid _ := hBW
  have HKW := h.grow hBW
  have HMW := hm.keep (F := fun _ => False) (But.of_below hBW) (fun _ _ => id)
  have R0 : Hid (W.heap[w.heap.size]? = some (.cells #[.int .i64 0, .int .i64 0, .int .i64 0] 43 (0, 0))) := by rw [hW]; exact heap_alloc_new _ _
  have hrb : ¬ w.heap.size = b := by omega
  have hne : b ≠ w.heap.size := by omega
  have hlW : w.heap.size < W.heap.size := (Array.getElem?_eq_some_iff.1 R0.out).1
  have HT := memTaken_any t W HMW
  rw [hh] at HT
  have k1 := h.c1
  have k5 := h.c5
  simp only at k1 k5

  simp only [Pg.Wo.res, Pg.Wo.cd, Pg.Wo.next, Pg.Rs.zero]
  clear h hm hBW HKW HMW
  go_enter Try.func10, Try.ntmps10
  go_wp2_with fail
  rw [← hW]
  refine HT.mono ?_
  rintro e w1 ⟨rfl, hw⟩
  subst w1
  clear hW
  obtain ⟨⟨x0, x1, x2⟩, xf⟩ := row3 R0.out
  have HF : Hid _ := fin3 hrb (Nat.le_refl _) ⟨⟨_, _, _, HKw.out.grow HBW.out⟩, Ch8.of_below (F := fun j => j = b) HBW.out hl⟩ (.int .i64 0) (.int .i64 0) (.int .i64 0)
  go_wp2_with fail
  refine bodyPost_ret (v := .tuple #[.agg #[.int .i64 0, .int .i64 0, .int .i64 0], .bool false, .int .i64 12]) ?_ rfl ⟨rfl, HF.out⟩
  simp [results, Try.results10, go_sem, x0, x1, x2]

set_option maxHeartbeats 1000000 in
theorem cStep_again {bm g0 g1 bl : Nat} {vb : Value} {S : Pg.Fs} {q k : Int} {u : Bool} {t : Int} {lv : Nat} {xw : Int} {x : Int} (hq : Pg.below q 4096 = true) (hlv : lv < 4) (w : World) (h : CkAt w b ⟨true, q, k, u, t, lv, x⟩ t (lv : Int) xw) (hm : MemAt w bm g0 g1 vb S) (hh : S.has t = true) (hx : x ≠ 0) (hwd : S.word t.toNat (Pg.ix q lv) ≠ x) :
    Calls Try.prog 10 #[.pointer (some ⟨b, 0, none⟩), .pointer (some ⟨bm, 0, none⟩), .int .i64 root, .pointer (some ⟨bl, 0, none⟩)] w fun e w' => e = .returned (.tuple #[.agg #[.int .i64 (Pg.Wo.res ⟨true, q, k, u, t, lv, x⟩ (.go (Pg.Wk.again root ⟨true, q, k, u, t, lv, x⟩))).a, .int .i64 (Pg.Wo.res ⟨true, q, k, u, t, lv, x⟩ (.go (Pg.Wk.again root ⟨true, q, k, u, t, lv, x⟩))).f, .int .i64 (Pg.Wo.res ⟨true, q, k, u, t, lv, x⟩ (.go (Pg.Wk.again root ⟨true, q, k, u, t, lv, x⟩))).r], .bool (Pg.Wo.res ⟨true, q, k, u, t, lv, x⟩ (.go (Pg.Wk.again root ⟨true, q, k, u, t, lv, x⟩))).ended, .int .i64 (Pg.Wo.cd (.go (Pg.Wk.again root ⟨true, q, k, u, t, lv, x⟩)))]) ∧ CkEx w' b (Pg.Wo.next ⟨true, q, k, u, t, lv, x⟩ (.go (Pg.Wk.again root ⟨true, q, k, u, t, lv, x⟩))) ∧ Ch8 b 1 (fun j => j = b) w w' := by
  obtain ⟨W, hW⟩ : ∃ W, W = w.alloc (.cells #[.int .i64 0, .int .i64 0, .int .i64 0] 43) := ⟨_, rfl⟩
  have hBW : Below w.heap.size w W := by rw [hW]; exact balloc (brefl w) _
  have hl := h.lb
  have HKw : Hid _ := h
  have HMw : Hid _ := hm
  have HBW : Hid _ := hBW
  have HKW := h.grow hBW
  have HMW := hm.keep (F := fun _ => False) (But.of_below hBW) (fun _ _ => id)
  have R0 : Hid (W.heap[w.heap.size]? = some (.cells #[.int .i64 0, .int .i64 0, .int .i64 0] 43 (0, 0))) := by rw [hW]; exact heap_alloc_new _ _
  have hrb : ¬ w.heap.size = b := by omega
  have hne : b ≠ w.heap.size := by omega
  have hlW : w.heap.size < W.heap.size := (Array.getElem?_eq_some_iff.1 R0.out).1
  have HT := memTaken_any t W HMW
  rw [hh] at HT
  have k1 := h.c1
  have k5 := h.c5
  simp only at k1 k5

  obtain ⟨tn, rfl⟩ := Int.eq_ofNat_of_zero_le (hm.ok.has_lt hh).1
  have htn : tn < S.n := by have := (hm.ok.has_lt hh).2.1; omega
  have hixl := Pg.ix_lt q lv
  have HIx := indexOf_any q (lv : Int)
  rw [Pg.index_ix hq hlv] at HIx
  have M0 := cell_regrown HMW.raw.c0
  have MW := cell_regrown (HMW.raw.cw tn (Pg.ix q lv) htn hixl)
  have K2 := cell_regrown HKW.c2
  have K5 := cell_regrown HKW.c5
  have K6 := cell_regrown HKW.c6
  simp only at K2 K5 K6

  simp only [Int.toNat_natCast] at hwd
  generalize S.word tn (Pg.ix q lv) = wd at *
  generalize hixx : Pg.ix q lv = ixn at *
  have HIXX : Hid _ := hixx
  have i0 : (0 : Int) ≤ (tn : Int) := by omega
  have i1 : (tn : Int) < (S.n : Int) := by omega
  have i2 : (0 : Int) ≤ (ixn : Int) := by omega
  have i3 : (ixn : Int) < 8 := by omega
  clear h hm hBW HKW HMW hixx
  simp only [Pg.Wo.res, Pg.Wo.cd, Pg.Wo.next, Pg.Rs.zero, Pg.Wo.ended]
  go_enter Try.func10, Try.ntmps10
  go_wp2_with fail
  rw [← hW]
  refine HT.mono ?_
  rintro e w1 ⟨rfl, hw⟩
  subst w1
  clear hW
  clear HT k1 k5
  go_wp2_with fail
  refine wp_region_quiet_below (by kernel_rfl) (by kernel_rfl) ?_
  repeat (first
    | go_big_quiet_step ((go_at_call 39; exact Calls.regrown_of (HIx _))))
  refine wpQuiet_nil ?_
  intro _ hw'
  obtain ⟨⟨dq, osq⟩, rfl⟩ := hw'
  have hb2 := below_regrown W dq osq
  have HB2 : Hid (Below w.heap.size w (grow (redrawn W dq) osq)) := bthen HBW.out hb2
  have R2 : Hid ((grow (redrawn W dq) osq).heap[w.heap.size]? = _) := (hb2.block _ hlW).trans R0.out
  clear hb2 HIx M0 MW K2 K5 K6 R0 HBW hlW
  generalize grow (redrawn W dq) osq = w2 at *
  have hk2 := HKw.out.grow HB2.out
  have y7 := hk2.c7
  have y8 := hk2.c8
  have y6 := hk2.c6
  have hxd : decide (x ≠ 0) = true := by simpa using hx
  simp only [hxd] at y6 y7 y8
  have hxw := HKw.out.wd hx
  simp only at hxw
  subst hxw
  have hwn : (wd != xw) = true := by simpa using hwd
  clear hwd hxd hx
  have hr2 : w.heap.size < w2.heap.size := (Array.getElem?_eq_some_iff.1 R2.out).1
  have hl2 : b < w2.heap.size := hk2.lb
  clear hk2

  have HA := cAgain_any (root := root) w2 ⟨_, _, _, HKw.out.grow HB2.out⟩
  go_wp2_with fail
  refine HA.mono ?_
  rintro e w3 ⟨rfl, hk3, hc3⟩
  have HC3 : Hid (Ch8 b 1 (fun j => j = b) w w3) := (Ch8.of_below HB2.out hl).trans hc3 (fun _ _ h => h)
  have R3 : Hid (w3.heap[w.heap.size]? = _) := (hc3.but.block _ hr2 hrb).trans R2.out
  obtain ⟨⟨x0, x1, x2⟩, xf⟩ := row3 R3.out
  have HF : Hid _ := fin3 hrb (Nat.le_refl _) ⟨hk3, HC3.out⟩ (.int .i64 0) (.int .i64 0) (.int .i64 0)
  clear hk3 hc3 HA
  go_wp2_with fail
  refine bodyPost_ret (v := .tuple #[.agg #[.int .i64 0, .int .i64 0, .int .i64 0], .bool false, .int .i64 0]) ?_ rfl ⟨rfl, HF.out⟩
  simp [results, Try.results10, go_sem, x0, x1, x2]

set_option maxHeartbeats 1000000 in
theorem cStep_bad {bm g0 g1 bl : Nat} {vb : Value} {S : Pg.Fs} {q k : Int} {u : Bool} {t : Int} {lv : Nat} {xw : Int} {rc : Int} {et el : Bool} {er : Int} {eu ed : Bool} {ef : Int} (hq : Pg.below q 4096 = true) (hlv : lv < 4) (w : World) (h : CkAt w b ⟨true, q, k, u, t, lv, 0⟩ t (lv : Int) xw) (hm : MemAt w bm g0 g1 vb S) (hcn : (rc != 0) = true) (hh : S.has t = true) (hc : Pg.rCode S t (Pg.ix q lv) lv = rc) (he : Pg.rEn S t (Pg.ix q lv) lv = ⟨et, el, er, eu, ed, ef⟩) :
    Calls Try.prog 10 #[.pointer (some ⟨b, 0, none⟩), .pointer (some ⟨bm, 0, none⟩), .int .i64 root, .pointer (some ⟨bl, 0, none⟩)] w fun e w' => e = .returned (.tuple #[.agg #[.int .i64 (Pg.Wo.res ⟨true, q, k, u, t, lv, 0⟩ (.code rc)).a, .int .i64 (Pg.Wo.res ⟨true, q, k, u, t, lv, 0⟩ (.code rc)).f, .int .i64 (Pg.Wo.res ⟨true, q, k, u, t, lv, 0⟩ (.code rc)).r], .bool (Pg.Wo.res ⟨true, q, k, u, t, lv, 0⟩ (.code rc)).ended, .int .i64 (Pg.Wo.cd (.code rc))]) ∧ CkEx w' b (Pg.Wo.next ⟨true, q, k, u, t, lv, 0⟩ (.code rc)) ∧ Ch8 b 1 (fun j => j = b) w w' := by
  obtain ⟨W, hW⟩ : ∃ W, W = w.alloc (.cells #[.int .i64 0, .int .i64 0, .int .i64 0] 43) := ⟨_, rfl⟩
  have hBW : Below w.heap.size w W := by rw [hW]; exact balloc (brefl w) _
  have hl := h.lb
  have HKw : Hid _ := h
  have HMw : Hid _ := hm
  have HBW : Hid _ := hBW
  have HKW := h.grow hBW
  have HMW := hm.keep (F := fun _ => False) (But.of_below hBW) (fun _ _ => id)
  have R0 : Hid (W.heap[w.heap.size]? = some (.cells #[.int .i64 0, .int .i64 0, .int .i64 0] 43 (0, 0))) := by rw [hW]; exact heap_alloc_new _ _
  have hrb : ¬ w.heap.size = b := by omega
  have hne : b ≠ w.heap.size := by omega
  have hlW : w.heap.size < W.heap.size := (Array.getElem?_eq_some_iff.1 R0.out).1
  have HT := memTaken_any t W HMW
  rw [hh] at HT
  have k1 := h.c1
  have k5 := h.c5
  simp only at k1 k5

  obtain ⟨tn, rfl⟩ := Int.eq_ofNat_of_zero_le (hm.ok.has_lt hh).1
  have htn : tn < S.n := by have := (hm.ok.has_lt hh).2.1; omega
  have hixl := Pg.ix_lt q lv
  have HIx := indexOf_any q (lv : Int)
  rw [Pg.index_ix hq hlv] at HIx
  have M0 := cell_regrown HMW.raw.c0
  have MW := cell_regrown (HMW.raw.cw tn (Pg.ix q lv) htn hixl)
  have K2 := cell_regrown HKW.c2
  have K5 := cell_regrown HKW.c5
  have K6 := cell_regrown HKW.c6
  simp only at K2 K5 K6
  have hwl := hm.ok.low tn (Pg.ix q lv)
  have hwh := hm.ok.high tn (Pg.ix q lv)
  obtain ⟨e1, e2⟩ := Pg.rCode_of (i := Pg.ix q lv) (lv := lv) hh
  simp only [Int.toNat_natCast] at e1 e2
  have HEO := fun W' => entryOf_any (S.word tn (Pg.ix q lv)) (lv : Int) hwl hwh W'
  rw [Pg.decV_of, ← e1, ← e2, hc, he] at HEO
  simp only [Pg.En.val] at HEO
  clear hwl hwh e1 e2 hc he
  generalize S.word tn (Pg.ix q lv) = wd at *
  generalize hixx : Pg.ix q lv = ixn at *
  have HIXX : Hid _ := hixx
  have i0 : (0 : Int) ≤ (tn : Int) := by omega
  have i1 : (tn : Int) < (S.n : Int) := by omega
  have i2 : (0 : Int) ≤ (ixn : Int) := by omega
  have i3 : (ixn : Int) < 8 := by omega
  clear h hm hBW HKW HMW hixx
  simp only [Pg.Wo.res, Pg.Wo.cd, Pg.Wo.next, Pg.Rs.zero]
  go_enter Try.func10, Try.ntmps10
  go_wp2_with fail
  rw [← hW]
  refine HT.mono ?_
  rintro e w1 ⟨rfl, hw⟩
  subst w1
  clear hW
  clear HT k1 k5
  go_wp2_with fail
  refine wp_region_quiet_below (by kernel_rfl) (by kernel_rfl) ?_
  repeat (first
    | go_big_quiet_step ((go_at_call 39; exact Calls.regrown_of (HIx _))))
  refine wpQuiet_nil ?_
  intro _ hw'
  obtain ⟨⟨dq, osq⟩, rfl⟩ := hw'
  have hb2 := below_regrown W dq osq
  have HB2 : Hid (Below w.heap.size w (grow (redrawn W dq) osq)) := bthen HBW.out hb2
  have R2 : Hid ((grow (redrawn W dq) osq).heap[w.heap.size]? = _) := (hb2.block _ hlW).trans R0.out
  clear hb2 HIx M0 MW K2 K5 K6 R0 HBW hlW
  generalize grow (redrawn W dq) osq = w2 at *
  have hk2 := HKw.out.grow HB2.out
  have y7 := hk2.c7
  have y8 := hk2.c8
  have y6 := hk2.c6
  simp only [ne_eq, not_true_eq_false, decide_false] at y6 y7 y8
  have hr2 : w.heap.size < w2.heap.size := (Array.getElem?_eq_some_iff.1 R2.out).1
  have hl2 : b < w2.heap.size := hk2.lb
  clear hk2

  go_wp2_with fail
  refine (HEO _).mono ?_
  rintro e w3 ⟨rfl, hb3⟩
  have HB3 : Hid (Below w.heap.size w w3) := bthen HB2.out hb3
  have R3 : Hid (w3.heap[w.heap.size]? = _) := (hb3.block _ hr2).trans R2.out
  have hr3 : w.heap.size < w3.heap.size := Nat.lt_of_lt_of_le hr2 hb3.size
  have hl3 : b < w3.heap.size := Nat.lt_of_lt_of_le hl2 hb3.size
  have nb3 : b ≠ w3.heap.size := by omega
  have mb3 : w3.heap.size ≠ b := by omega
  have nr3 : w.heap.size ≠ w3.heap.size := by omega
  have mr3 : w3.heap.size ≠ w.heap.size := by omega
  clear hb3 HEO y6 y7 y8 HB2 R2 hr2 hl2
  obtain ⟨⟨x0, x1, x2⟩, xf⟩ := row3 R3.out
  have HF : Hid _ := finC (fin3 hrb (Nat.le_refl _) ⟨⟨_, _, _, HKw.out.grow HB3.out⟩, Ch8.of_below (F := fun j => j = b) HB3.out hl⟩ (.int .i64 0) (.int .i64 0) (.int .i64 0)) (balloc (brefl _) (.cells #[.bool et, .bool el, .int .i64 er, .bool eu, .bool ed, .int .i64 ef] 93))
  go_wp2_with fail
  refine bodyPost_ret (v := .tuple #[.agg #[.int .i64 0, .int .i64 0, .int .i64 0], .bool false, .int .i64 rc]) ?_ rfl ⟨rfl, HF.out⟩
  simp [results, Try.results10, go_sem, x0, x1, x2, hr3, nr3, mr3]

set_option maxHeartbeats 1000000 in
theorem cStep_none {bm g0 g1 bl : Nat} {vb : Value} {S : Pg.Fs} {q k : Int} {u : Bool} {t : Int} {lv : Nat} {xw : Int} {el : Bool} {er : Int} {eu ed : Bool} {ef : Int} (hq : Pg.below q 4096 = true) (hlv : lv < 4) (w : World) (h : CkAt w b ⟨true, q, k, u, t, lv, 0⟩ t (lv : Int) xw) (hm : MemAt w bm g0 g1 vb S) (hh : S.has t = true) (hc : Pg.rCode S t (Pg.ix q lv) lv = 0) (he : Pg.rEn S t (Pg.ix q lv) lv = ⟨false, el, er, eu, ed, ef⟩) :
    Calls Try.prog 10 #[.pointer (some ⟨b, 0, none⟩), .pointer (some ⟨bm, 0, none⟩), .int .i64 root, .pointer (some ⟨bl, 0, none⟩)] w fun e w' => e = .returned (.tuple #[.agg #[.int .i64 (Pg.Wo.res ⟨true, q, k, u, t, lv, 0⟩ (.stop 1)).a, .int .i64 (Pg.Wo.res ⟨true, q, k, u, t, lv, 0⟩ (.stop 1)).f, .int .i64 (Pg.Wo.res ⟨true, q, k, u, t, lv, 0⟩ (.stop 1)).r], .bool (Pg.Wo.res ⟨true, q, k, u, t, lv, 0⟩ (.stop 1)).ended, .int .i64 (Pg.Wo.cd (.stop 1))]) ∧ CkEx w' b (Pg.Wo.next ⟨true, q, k, u, t, lv, 0⟩ (.stop 1)) ∧ Ch8 b 1 (fun j => j = b) w w' := by
  obtain ⟨W, hW⟩ : ∃ W, W = w.alloc (.cells #[.int .i64 0, .int .i64 0, .int .i64 0] 43) := ⟨_, rfl⟩
  have hBW : Below w.heap.size w W := by rw [hW]; exact balloc (brefl w) _
  have hl := h.lb
  have HKw : Hid _ := h
  have HMw : Hid _ := hm
  have HBW : Hid _ := hBW
  have HKW := h.grow hBW
  have HMW := hm.keep (F := fun _ => False) (But.of_below hBW) (fun _ _ => id)
  have R0 : Hid (W.heap[w.heap.size]? = some (.cells #[.int .i64 0, .int .i64 0, .int .i64 0] 43 (0, 0))) := by rw [hW]; exact heap_alloc_new _ _
  have hrb : ¬ w.heap.size = b := by omega
  have hne : b ≠ w.heap.size := by omega
  have hlW : w.heap.size < W.heap.size := (Array.getElem?_eq_some_iff.1 R0.out).1
  have HT := memTaken_any t W HMW
  rw [hh] at HT
  have k1 := h.c1
  have k5 := h.c5
  simp only at k1 k5

  obtain ⟨tn, rfl⟩ := Int.eq_ofNat_of_zero_le (hm.ok.has_lt hh).1
  have htn : tn < S.n := by have := (hm.ok.has_lt hh).2.1; omega
  have hixl := Pg.ix_lt q lv
  have HIx := indexOf_any q (lv : Int)
  rw [Pg.index_ix hq hlv] at HIx
  have M0 := cell_regrown HMW.raw.c0
  have MW := cell_regrown (HMW.raw.cw tn (Pg.ix q lv) htn hixl)
  have K2 := cell_regrown HKW.c2
  have K5 := cell_regrown HKW.c5
  have K6 := cell_regrown HKW.c6
  simp only at K2 K5 K6
  have hwl := hm.ok.low tn (Pg.ix q lv)
  have hwh := hm.ok.high tn (Pg.ix q lv)
  obtain ⟨e1, e2⟩ := Pg.rCode_of (i := Pg.ix q lv) (lv := lv) hh
  simp only [Int.toNat_natCast] at e1 e2
  have HEO := fun W' => entryOf_any (S.word tn (Pg.ix q lv)) (lv : Int) hwl hwh W'
  rw [Pg.decV_of, ← e1, ← e2, hc, he] at HEO
  simp only [Pg.En.val] at HEO
  clear hwl hwh e1 e2 hc he
  generalize S.word tn (Pg.ix q lv) = wd at *
  generalize hixx : Pg.ix q lv = ixn at *
  have HIXX : Hid _ := hixx
  have i0 : (0 : Int) ≤ (tn : Int) := by omega
  have i1 : (tn : Int) < (S.n : Int) := by omega
  have i2 : (0 : Int) ≤ (ixn : Int) := by omega
  have i3 : (ixn : Int) < 8 := by omega
  clear h hm hBW HKW HMW hixx
  simp only [Pg.Wo.res, Pg.Wo.cd, Pg.Wo.next, Pg.Rs.zero]
  go_enter Try.func10, Try.ntmps10
  go_wp2_with fail
  rw [← hW]
  refine HT.mono ?_
  rintro e w1 ⟨rfl, hw⟩
  subst w1
  clear hW
  clear HT k1 k5
  go_wp2_with fail
  refine wp_region_quiet_below (by kernel_rfl) (by kernel_rfl) ?_
  repeat (first
    | go_big_quiet_step ((go_at_call 39; exact Calls.regrown_of (HIx _))))
  refine wpQuiet_nil ?_
  intro _ hw'
  obtain ⟨⟨dq, osq⟩, rfl⟩ := hw'
  have hb2 := below_regrown W dq osq
  have HB2 : Hid (Below w.heap.size w (grow (redrawn W dq) osq)) := bthen HBW.out hb2
  have R2 : Hid ((grow (redrawn W dq) osq).heap[w.heap.size]? = _) := (hb2.block _ hlW).trans R0.out
  clear hb2 HIx M0 MW K2 K5 K6 R0 HBW hlW
  generalize grow (redrawn W dq) osq = w2 at *
  have hk2 := HKw.out.grow HB2.out
  have y7 := hk2.c7
  have y8 := hk2.c8
  have y6 := hk2.c6
  simp only [ne_eq, not_true_eq_false, decide_false] at y6 y7 y8
  have hr2 : w.heap.size < w2.heap.size := (Array.getElem?_eq_some_iff.1 R2.out).1
  have hl2 : b < w2.heap.size := hk2.lb
  clear hk2

  go_wp2_with fail
  refine (HEO _).mono ?_
  rintro e w3 ⟨rfl, hb3⟩
  have HB3 : Hid (Below w.heap.size w w3) := bthen HB2.out hb3
  have R3 : Hid (w3.heap[w.heap.size]? = _) := (hb3.block _ hr2).trans R2.out
  have hr3 : w.heap.size < w3.heap.size := Nat.lt_of_lt_of_le hr2 hb3.size
  have hl3 : b < w3.heap.size := Nat.lt_of_lt_of_le hl2 hb3.size
  have nb3 : b ≠ w3.heap.size := by omega
  have mb3 : w3.heap.size ≠ b := by omega
  have nr3 : w.heap.size ≠ w3.heap.size := by omega
  have mr3 : w3.heap.size ≠ w.heap.size := by omega
  clear hb3 HEO y6 y7 y8 HB2 R2 hr2 hl2

  obtain ⟨W4, hW4⟩ : ∃ W4, W4 = w3.alloc (.cells #[.bool false, .bool el, .int .i64 er, .bool eu, .bool ed, .int .i64 ef] 93) := ⟨_, rfl⟩
  have hB4 : Below w3.heap.size w3 W4 := by rw [hW4]; exact balloc (brefl _) _
  have HB4 : Hid (Below w.heap.size w W4) := bthen HB3.out hB4
  have R4 : Hid (W4.heap[w.heap.size]? = _) := (hB4.block _ hr3).trans R3.out
  have E4 : Hid (W4.cell? ⟨w3.heap.size, 0, none⟩ = some (.bool false) ∧ W4.cell? ⟨w3.heap.size, 1, none⟩ = some (.bool el) ∧ W4.cell? ⟨w3.heap.size, 2, none⟩ = some (.int .i64 er) ∧ W4.cell? ⟨w3.heap.size, 3, none⟩ = some (.bool eu) ∧ W4.cell? ⟨w3.heap.size, 4, none⟩ = some (.bool ed) ∧ W4.cell? ⟨w3.heap.size, 5, none⟩ = some (.int .i64 ef)) := by rw [Hid, hW4]; simp [go_sem]
  have F4 : Hid (∀ i, W4.frozen? ⟨w3.heap.size, i, none⟩ = false) := fun i => by rw [hW4]; simp [go_sem]
  have hr4 : w.heap.size < W4.heap.size := by have := hB4.size; omega
  have hl4 : b < W4.heap.size := by have := hB4.size; omega
  have he4 : w3.heap.size < W4.heap.size := by rw [hW4]; simp
  clear hB4
  go_wp2_with fail
  rw [← hW4]
  clear hW4

  have HE := cEnd_any 1 0 0 _ ⟨_, _, _, HKw.out.grow HB4.out⟩
  refine HE.mono ?_
  rintro e w9 ⟨rfl, hk9, hc9⟩
  have HC9 : Hid (Ch8 b 1 (fun j => j = b) w w9) := (Ch8.of_below HB4.out hl).trans hc9 (fun _ _ h => h)
  have R9 : Hid (w9.heap[w.heap.size]? = _) := (hc9.but.block _ hr4 hrb).trans R4.out
  obtain ⟨⟨x0, x1, x2⟩, xf⟩ := row3 R9.out
  have HF : Hid _ := fin3 hrb (Nat.le_refl _) ⟨hk9, HC9.out⟩ (.int .i64 1) (.int .i64 0) (.int .i64 0)
  clear hk9 hc9 HE
  go_wp2_with fail
  refine bodyPost_ret (v := .tuple #[.agg #[.int .i64 1, .int .i64 0, .int .i64 0], .bool true, .int .i64 0]) ?_ rfl ⟨rfl, HF.out⟩
  simp [results, Try.results10, go_sem, x0, x1, x2]

set_option maxHeartbeats 1000000 in
theorem cStep_low {bm g0 g1 bl : Nat} {vb : Value} {S : Pg.Fs} {q k : Int} {u : Bool} {t : Int} {lv : Nat} {xw : Int} {er : Int} {eu ed : Bool} {ef : Int} {m : Nat} (hq : Pg.below q 4096 = true) (hlv : lv < 4) (w : World) (h : CkAt w b ⟨true, q, k, u, t, lv, 0⟩ t (lv : Int) xw) (hm : MemAt w bm g0 g1 vb S) (hlm : (lv : Int) - 1 = (m : Int)) (hlm1 : (1 : Int) ≤ (lv : Int)) (hh : S.has t = true) (hc : Pg.rCode S t (Pg.ix q lv) lv = 0) (he : Pg.rEn S t (Pg.ix q lv) lv = ⟨true, false, er, eu, ed, ef⟩) :
    Calls Try.prog 10 #[.pointer (some ⟨b, 0, none⟩), .pointer (some ⟨bm, 0, none⟩), .int .i64 root, .pointer (some ⟨bl, 0, none⟩)] w fun e w' => e = .returned (.tuple #[.agg #[.int .i64 (Pg.Wo.res ⟨true, q, k, u, t, lv, 0⟩ (.go ⟨true, q, k, u, ef, m, 0⟩)).a, .int .i64 (Pg.Wo.res ⟨true, q, k, u, t, lv, 0⟩ (.go ⟨true, q, k, u, ef, m, 0⟩)).f, .int .i64 (Pg.Wo.res ⟨true, q, k, u, t, lv, 0⟩ (.go ⟨true, q, k, u, ef, m, 0⟩)).r], .bool (Pg.Wo.res ⟨true, q, k, u, t, lv, 0⟩ (.go ⟨true, q, k, u, ef, m, 0⟩)).ended, .int .i64 (Pg.Wo.cd (.go ⟨true, q, k, u, ef, m, 0⟩))]) ∧ CkEx w' b (Pg.Wo.next ⟨true, q, k, u, t, lv, 0⟩ (.go ⟨true, q, k, u, ef, m, 0⟩)) ∧ Ch8 b 1 (fun j => j = b) w w' := by
  obtain ⟨W, hW⟩ : ∃ W, W = w.alloc (.cells #[.int .i64 0, .int .i64 0, .int .i64 0] 43) := ⟨_, rfl⟩
  have hBW : Below w.heap.size w W := by rw [hW]; exact balloc (brefl w) _
  have hl := h.lb
  have HKw : Hid _ := h
  have HMw : Hid _ := hm
  have HBW : Hid _ := hBW
  have HKW := h.grow hBW
  have HMW := hm.keep (F := fun _ => False) (But.of_below hBW) (fun _ _ => id)
  have R0 : Hid (W.heap[w.heap.size]? = some (.cells #[.int .i64 0, .int .i64 0, .int .i64 0] 43 (0, 0))) := by rw [hW]; exact heap_alloc_new _ _
  have hrb : ¬ w.heap.size = b := by omega
  have hne : b ≠ w.heap.size := by omega
  have hlW : w.heap.size < W.heap.size := (Array.getElem?_eq_some_iff.1 R0.out).1
  have HT := memTaken_any t W HMW
  rw [hh] at HT
  have k1 := h.c1
  have k5 := h.c5
  simp only at k1 k5

  obtain ⟨tn, rfl⟩ := Int.eq_ofNat_of_zero_le (hm.ok.has_lt hh).1
  have htn : tn < S.n := by have := (hm.ok.has_lt hh).2.1; omega
  have hixl := Pg.ix_lt q lv
  have HIx := indexOf_any q (lv : Int)
  rw [Pg.index_ix hq hlv] at HIx
  have M0 := cell_regrown HMW.raw.c0
  have MW := cell_regrown (HMW.raw.cw tn (Pg.ix q lv) htn hixl)
  have K2 := cell_regrown HKW.c2
  have K5 := cell_regrown HKW.c5
  have K6 := cell_regrown HKW.c6
  simp only at K2 K5 K6
  have hwl := hm.ok.low tn (Pg.ix q lv)
  have hwh := hm.ok.high tn (Pg.ix q lv)
  obtain ⟨e1, e2⟩ := Pg.rCode_of (i := Pg.ix q lv) (lv := lv) hh
  simp only [Int.toNat_natCast] at e1 e2
  have HEO := fun W' => entryOf_any (S.word tn (Pg.ix q lv)) (lv : Int) hwl hwh W'
  rw [Pg.decV_of, ← e1, ← e2, hc, he] at HEO
  simp only [Pg.En.val] at HEO
  clear hwl hwh e1 e2 hc he
  generalize S.word tn (Pg.ix q lv) = wd at *
  generalize hixx : Pg.ix q lv = ixn at *
  have HIXX : Hid _ := hixx
  have i0 : (0 : Int) ≤ (tn : Int) := by omega
  have i1 : (tn : Int) < (S.n : Int) := by omega
  have i2 : (0 : Int) ≤ (ixn : Int) := by omega
  have i3 : (ixn : Int) < 8 := by omega
  clear h hm hBW HKW HMW hixx
  simp only [Pg.Wo.res, Pg.Wo.cd, Pg.Wo.next, Pg.Rs.zero]
  go_enter Try.func10, Try.ntmps10
  go_wp2_with fail
  rw [← hW]
  refine HT.mono ?_
  rintro e w1 ⟨rfl, hw⟩
  subst w1
  clear hW
  clear HT k1 k5
  go_wp2_with fail
  refine wp_region_quiet_below (by kernel_rfl) (by kernel_rfl) ?_
  repeat (first
    | go_big_quiet_step ((go_at_call 39; exact Calls.regrown_of (HIx _))))
  refine wpQuiet_nil ?_
  intro _ hw'
  obtain ⟨⟨dq, osq⟩, rfl⟩ := hw'
  have hb2 := below_regrown W dq osq
  have HB2 : Hid (Below w.heap.size w (grow (redrawn W dq) osq)) := bthen HBW.out hb2
  have R2 : Hid ((grow (redrawn W dq) osq).heap[w.heap.size]? = _) := (hb2.block _ hlW).trans R0.out
  clear hb2 HIx M0 MW K2 K5 K6 R0 HBW hlW
  generalize grow (redrawn W dq) osq = w2 at *
  have hk2 := HKw.out.grow HB2.out
  have y7 := hk2.c7
  have y8 := hk2.c8
  have y6 := hk2.c6
  simp only [ne_eq, not_true_eq_false, decide_false] at y6 y7 y8
  have hr2 : w.heap.size < w2.heap.size := (Array.getElem?_eq_some_iff.1 R2.out).1
  have hl2 : b < w2.heap.size := hk2.lb
  clear hk2

  go_wp2_with fail
  refine (HEO _).mono ?_
  rintro e w3 ⟨rfl, hb3⟩
  have HB3 : Hid (Below w.heap.size w w3) := bthen HB2.out hb3
  have R3 : Hid (w3.heap[w.heap.size]? = _) := (hb3.block _ hr2).trans R2.out
  have hr3 : w.heap.size < w3.heap.size := Nat.lt_of_lt_of_le hr2 hb3.size
  have hl3 : b < w3.heap.size := Nat.lt_of_lt_of_le hl2 hb3.size
  have nb3 : b ≠ w3.heap.size := by omega
  have mb3 : w3.heap.size ≠ b := by omega
  have nr3 : w.heap.size ≠ w3.heap.size := by omega
  have mr3 : w3.heap.size ≠ w.heap.size := by omega
  clear hb3 HEO y6 y7 y8 HB2 R2 hr2 hl2

  have hk3 := HKw.out.grow HB3.out
  have z5 := hk3.c5
  have z6 := hk3.c6
  have zf := hk3.fb
  obtain ⟨⟨x0, x1, x2⟩, xf⟩ := row3 R3.out
  have HF : Hid _ := finC (fin3 hrb (Nat.le_refl _) ⟨(hk3.low ef m).1, (Ch8.of_below HB3.out hl).trans (hk3.low ef m).2 (fun _ _ h => h)⟩ (.int .i64 0) (.int .i64 0) (.int .i64 0)) (balloc (brefl _) (.cells #[.bool true, .bool false, .int .i64 er, .bool eu, .bool ed, .int .i64 ef] 93))
  clear hk3
  go_wp2_with fail
  refine bodyPost_ret (v := .tuple #[.agg #[.int .i64 0, .int .i64 0, .int .i64 0], .bool false, .int .i64 0]) ?_ rfl ⟨rfl, HF.out⟩
  simp [results, Try.results10, go_sem, x0, x1, x2, hr3, nr3, mr3]

set_option maxHeartbeats 1000000 in
theorem cStep_not {bm g0 g1 bl : Nat} {vb : Value} {S : Pg.Fs} {q k : Int} {u : Bool} {t : Int} {lv : Nat} {xw : Int} {er : Int} {eu ed : Bool} {ef : Int} (hq : Pg.below q 4096 = true) (hlv : lv < 4) (w : World) (h : CkAt w b ⟨true, q, k, u, t, lv, 0⟩ t (lv : Int) xw) (hm : MemAt w bm g0 g1 vb S) (hmay : Pg.may er k u = false) (hh : S.has t = true) (hc : Pg.rCode S t (Pg.ix q lv) lv = 0) (he : Pg.rEn S t (Pg.ix q lv) lv = ⟨true, true, er, eu, ed, ef⟩) :
    Calls Try.prog 10 #[.pointer (some ⟨b, 0, none⟩), .pointer (some ⟨bm, 0, none⟩), .int .i64 root, .pointer (some ⟨bl, 0, none⟩)] w fun e w' => e = .returned (.tuple #[.agg #[.int .i64 (Pg.Wo.res ⟨true, q, k, u, t, lv, 0⟩ (.stop 2)).a, .int .i64 (Pg.Wo.res ⟨true, q, k, u, t, lv, 0⟩ (.stop 2)).f, .int .i64 (Pg.Wo.res ⟨true, q, k, u, t, lv, 0⟩ (.stop 2)).r], .bool (Pg.Wo.res ⟨true, q, k, u, t, lv, 0⟩ (.stop 2)).ended, .int .i64 (Pg.Wo.cd (.stop 2))]) ∧ CkEx w' b (Pg.Wo.next ⟨true, q, k, u, t, lv, 0⟩ (.stop 2)) ∧ Ch8 b 1 (fun j => j = b) w w' := by
  have HMay := fun W' => lets_any er q k u W'
  rw [hmay] at HMay
  clear hmay

  obtain ⟨W, hW⟩ : ∃ W, W = w.alloc (.cells #[.int .i64 0, .int .i64 0, .int .i64 0] 43) := ⟨_, rfl⟩
  have hBW : Below w.heap.size w W := by rw [hW]; exact balloc (brefl w) _
  have hl := h.lb
  have HKw : Hid _ := h
  have HMw : Hid _ := hm
  have HBW : Hid _ := hBW
  have HKW := h.grow hBW
  have HMW := hm.keep (F := fun _ => False) (But.of_below hBW) (fun _ _ => id)
  have R0 : Hid (W.heap[w.heap.size]? = some (.cells #[.int .i64 0, .int .i64 0, .int .i64 0] 43 (0, 0))) := by rw [hW]; exact heap_alloc_new _ _
  have hrb : ¬ w.heap.size = b := by omega
  have hne : b ≠ w.heap.size := by omega
  have hlW : w.heap.size < W.heap.size := (Array.getElem?_eq_some_iff.1 R0.out).1
  have HT := memTaken_any t W HMW
  rw [hh] at HT
  have k1 := h.c1
  have k5 := h.c5
  simp only at k1 k5

  obtain ⟨tn, rfl⟩ := Int.eq_ofNat_of_zero_le (hm.ok.has_lt hh).1
  have htn : tn < S.n := by have := (hm.ok.has_lt hh).2.1; omega
  have hixl := Pg.ix_lt q lv
  have HIx := indexOf_any q (lv : Int)
  rw [Pg.index_ix hq hlv] at HIx
  have M0 := cell_regrown HMW.raw.c0
  have MW := cell_regrown (HMW.raw.cw tn (Pg.ix q lv) htn hixl)
  have K2 := cell_regrown HKW.c2
  have K5 := cell_regrown HKW.c5
  have K6 := cell_regrown HKW.c6
  simp only at K2 K5 K6
  have hwl := hm.ok.low tn (Pg.ix q lv)
  have hwh := hm.ok.high tn (Pg.ix q lv)
  obtain ⟨e1, e2⟩ := Pg.rCode_of (i := Pg.ix q lv) (lv := lv) hh
  simp only [Int.toNat_natCast] at e1 e2
  have HEO := fun W' => entryOf_any (S.word tn (Pg.ix q lv)) (lv : Int) hwl hwh W'
  rw [Pg.decV_of, ← e1, ← e2, hc, he] at HEO
  simp only [Pg.En.val] at HEO
  clear hwl hwh e1 e2 hc he
  generalize S.word tn (Pg.ix q lv) = wd at *
  generalize hixx : Pg.ix q lv = ixn at *
  have HIXX : Hid _ := hixx
  have i0 : (0 : Int) ≤ (tn : Int) := by omega
  have i1 : (tn : Int) < (S.n : Int) := by omega
  have i2 : (0 : Int) ≤ (ixn : Int) := by omega
  have i3 : (ixn : Int) < 8 := by omega
  clear h hm hBW HKW HMW hixx
  simp only [Pg.Wo.res, Pg.Wo.cd, Pg.Wo.next, Pg.Rs.zero]
  go_enter Try.func10, Try.ntmps10
  go_wp2_with fail
  rw [← hW]
  refine HT.mono ?_
  rintro e w1 ⟨rfl, hw⟩
  subst w1
  clear hW
  clear HT k1 k5
  go_wp2_with fail
  refine wp_region_quiet_below (by kernel_rfl) (by kernel_rfl) ?_
  repeat (first
    | go_big_quiet_step ((go_at_call 39; exact Calls.regrown_of (HIx _))))
  refine wpQuiet_nil ?_
  intro _ hw'
  obtain ⟨⟨dq, osq⟩, rfl⟩ := hw'
  have hb2 := below_regrown W dq osq
  have HB2 : Hid (Below w.heap.size w (grow (redrawn W dq) osq)) := bthen HBW.out hb2
  have R2 : Hid ((grow (redrawn W dq) osq).heap[w.heap.size]? = _) := (hb2.block _ hlW).trans R0.out
  clear hb2 HIx M0 MW K2 K5 K6 R0 HBW hlW
  generalize grow (redrawn W dq) osq = w2 at *
  have hk2 := HKw.out.grow HB2.out
  have y7 := hk2.c7
  have y8 := hk2.c8
  have y6 := hk2.c6
  simp only [ne_eq, not_true_eq_false, decide_false] at y6 y7 y8
  have hr2 : w.heap.size < w2.heap.size := (Array.getElem?_eq_some_iff.1 R2.out).1
  have hl2 : b < w2.heap.size := hk2.lb
  clear hk2

  go_wp2_with fail
  refine (HEO _).mono ?_
  rintro e w3 ⟨rfl, hb3⟩
  have HB3 : Hid (Below w.heap.size w w3) := bthen HB2.out hb3
  have R3 : Hid (w3.heap[w.heap.size]? = _) := (hb3.block _ hr2).trans R2.out
  have hr3 : w.heap.size < w3.heap.size := Nat.lt_of_lt_of_le hr2 hb3.size
  have hl3 : b < w3.heap.size := Nat.lt_of_lt_of_le hl2 hb3.size
  have nb3 : b ≠ w3.heap.size := by omega
  have mb3 : w3.heap.size ≠ b := by omega
  have nr3 : w.heap.size ≠ w3.heap.size := by omega
  have mr3 : w3.heap.size ≠ w.heap.size := by omega
  clear hb3 HEO y6 y7 y8 HB2 R2 hr2 hl2

  obtain ⟨W4, hW4⟩ : ∃ W4, W4 = w3.alloc (.cells #[.bool true, .bool true, .int .i64 er, .bool eu, .bool ed, .int .i64 ef] 93) := ⟨_, rfl⟩
  have hB4 : Below w3.heap.size w3 W4 := by rw [hW4]; exact balloc (brefl _) _
  have HB4 : Hid (Below w.heap.size w W4) := bthen HB3.out hB4
  have R4 : Hid (W4.heap[w.heap.size]? = _) := (hB4.block _ hr3).trans R3.out
  have E4 : Hid (W4.cell? ⟨w3.heap.size, 0, none⟩ = some (.bool true) ∧ W4.cell? ⟨w3.heap.size, 1, none⟩ = some (.bool true) ∧ W4.cell? ⟨w3.heap.size, 2, none⟩ = some (.int .i64 er) ∧ W4.cell? ⟨w3.heap.size, 3, none⟩ = some (.bool eu) ∧ W4.cell? ⟨w3.heap.size, 4, none⟩ = some (.bool ed) ∧ W4.cell? ⟨w3.heap.size, 5, none⟩ = some (.int .i64 ef)) := by rw [Hid, hW4]; simp [go_sem]
  have F4 : Hid (∀ i, W4.frozen? ⟨w3.heap.size, i, none⟩ = false) := fun i => by rw [hW4]; simp [go_sem]
  have hr4 : w.heap.size < W4.heap.size := by have := hB4.size; omega
  have hl4 : b < W4.heap.size := by have := hB4.size; omega
  have he4 : w3.heap.size < W4.heap.size := by rw [hW4]; simp

  clear hB4
  go_wp2_with fail
  rw [← hW4]
  clear hW4
  have z2 := cell_regrown E4.out.2.2.1
  have y2 := cell_regrown (HKw.out.grow HB4.out).c2
  have y3 := cell_regrown (HKw.out.grow HB4.out).c3
  have y4 := cell_regrown (HKw.out.grow HB4.out).c4
  simp only at y2 y3 y4
  refine wp_region_quiet_below (by kernel_rfl) (by kernel_rfl) ?_
  repeat (first
    | go_big_quiet_step ((go_at_call 42; exact Calls.regrown_of (HMay _))))
  refine wpQuiet_nil ?_
  intro _ hw'
  obtain ⟨⟨dq5, osq5⟩, rfl⟩ := hw'
  have hb5 := below_regrown W4 dq5 osq5
  have HB5 : Hid (Below w.heap.size w (grow (redrawn W4 dq5) osq5)) := bthen HB4.out hb5
  have R5 : Hid ((grow (redrawn W4 dq5) osq5).heap[w.heap.size]? = _) := (hb5.block _ hr4).trans R4.out
  have E5 : Hid _ := later6 hb5 E4.out
  have F5 : Hid (∀ i, (grow (redrawn W4 dq5) osq5).frozen? ⟨w3.heap.size, i, none⟩ = false) := fun i => (hb5.frozen (p := ⟨w3.heap.size, i, none⟩) he4).trans (F4.out i)
  have hr5 : w.heap.size < (grow (redrawn W4 dq5) osq5).heap.size := Nat.lt_of_lt_of_le hr4 hb5.size
  have hl5 : b < (grow (redrawn W4 dq5) osq5).heap.size := Nat.lt_of_lt_of_le hl4 hb5.size
  have he5 : w3.heap.size < (grow (redrawn W4 dq5) osq5).heap.size := Nat.lt_of_lt_of_le he4 hb5.size
  clear hb5 z2 y2 y3 y4 E4 F4 HMay HB4 R4 hr4 hl4 he4 HB3 R3 hl3
  generalize grow (redrawn W4 dq5) osq5 = w5 at *
  generalize w3.heap.size = Eb at *
  go_wp2_with fail

  have HE := cEnd_any 2 0 0 _ ⟨_, _, _, HKw.out.grow HB5.out⟩
  refine HE.mono ?_
  rintro e w9 ⟨rfl, hk9, hc9⟩
  have HC9 : Hid (Ch8 b 1 (fun j => j = b) w w9) := (Ch8.of_below HB5.out hl).trans hc9 (fun _ _ h => h)
  have R9 : Hid (w9.heap[w.heap.size]? = _) := (hc9.but.block _ hr5 hrb).trans R5.out
  obtain ⟨⟨x0, x1, x2⟩, xf⟩ := row3 R9.out
  have HF : Hid _ := fin3 hrb (Nat.le_refl _) ⟨hk9, HC9.out⟩ (.int .i64 2) (.int .i64 0) (.int .i64 0)
  clear hk9 hc9 HE
  go_wp2_with fail
  refine bodyPost_ret (v := .tuple #[.agg #[.int .i64 2, .int .i64 0, .int .i64 0], .bool true, .int .i64 0]) ?_ rfl ⟨rfl, HF.out⟩
  simp [results, Try.results10, go_sem, x0, x1, x2]

set_option maxHeartbeats 1000000 in
theorem cStep_wait {bm g0 g1 bl : Nat} {vb : Value} {S : Pg.Fs} {q k : Int} {u : Bool} {t : Int} {lv : Nat} {xw : Int} {er : Int} {ed : Bool} {ef : Int} (hq : Pg.below q 4096 = true) (hlv : lv < 4) (w : World) (h : CkAt w b ⟨true, q, k, u, t, lv, 0⟩ t (lv : Int) xw) (hm : MemAt w bm g0 g1 vb S) (hwd0 : S.word t.toNat (Pg.ix q lv) ≠ 0) (hmay : Pg.may er k u = true) (hh : S.has t = true) (hc : Pg.rCode S t (Pg.ix q lv) lv = 0) (he : Pg.rEn S t (Pg.ix q lv) lv = ⟨true, true, er, false, ed, ef⟩) :
    Calls Try.prog 10 #[.pointer (some ⟨b, 0, none⟩), .pointer (some ⟨bm, 0, none⟩), .int .i64 root, .pointer (some ⟨bl, 0, none⟩)] w fun e w' => e = .returned (.tuple #[.agg #[.int .i64 (Pg.Wo.res ⟨true, q, k, u, t, lv, 0⟩ (.go ⟨true, q, k, u, t, lv, S.word t.toNat (Pg.ix q lv)⟩)).a, .int .i64 (Pg.Wo.res ⟨true, q, k, u, t, lv, 0⟩ (.go ⟨true, q, k, u, t, lv, S.word t.toNat (Pg.ix q lv)⟩)).f, .int .i64 (Pg.Wo.res ⟨true, q, k, u, t, lv, 0⟩ (.go ⟨true, q, k, u, t, lv, S.word t.toNat (Pg.ix q lv)⟩)).r], .bool (Pg.Wo.res ⟨true, q, k, u, t, lv, 0⟩ (.go ⟨true, q, k, u, t, lv, S.word t.toNat (Pg.ix q lv)⟩)).ended, .int .i64 (Pg.Wo.cd (.go ⟨true, q, k, u, t, lv, S.word t.toNat (Pg.ix q lv)⟩))]) ∧ CkEx w' b (Pg.Wo.next ⟨true, q, k, u, t, lv, 0⟩ (.go ⟨true, q, k, u, t, lv, S.word t.toNat (Pg.ix q lv)⟩)) ∧ Ch8 b 1 (fun j => j = b) w w' := by
  have HMay := fun W' => lets_any er q k u W'
  rw [hmay] at HMay
  clear hmay

  obtain ⟨W, hW⟩ : ∃ W, W = w.alloc (.cells #[.int .i64 0, .int .i64 0, .int .i64 0] 43) := ⟨_, rfl⟩
  have hBW : Below w.heap.size w W := by rw [hW]; exact balloc (brefl w) _
  have hl := h.lb
  have HKw : Hid _ := h
  have HMw : Hid _ := hm
  have HBW : Hid _ := hBW
  have HKW := h.grow hBW
  have HMW := hm.keep (F := fun _ => False) (But.of_below hBW) (fun _ _ => id)
  have R0 : Hid (W.heap[w.heap.size]? = some (.cells #[.int .i64 0, .int .i64 0, .int .i64 0] 43 (0, 0))) := by rw [hW]; exact heap_alloc_new _ _
  have hrb : ¬ w.heap.size = b := by omega
  have hne : b ≠ w.heap.size := by omega
  have hlW : w.heap.size < W.heap.size := (Array.getElem?_eq_some_iff.1 R0.out).1
  have HT := memTaken_any t W HMW
  rw [hh] at HT
  have k1 := h.c1
  have k5 := h.c5
  simp only at k1 k5

  obtain ⟨tn, rfl⟩ := Int.eq_ofNat_of_zero_le (hm.ok.has_lt hh).1
  have htn : tn < S.n := by have := (hm.ok.has_lt hh).2.1; omega
  have hixl := Pg.ix_lt q lv
  have HIx := indexOf_any q (lv : Int)
  rw [Pg.index_ix hq hlv] at HIx
  have M0 := cell_regrown HMW.raw.c0
  have MW := cell_regrown (HMW.raw.cw tn (Pg.ix q lv) htn hixl)
  have K2 := cell_regrown HKW.c2
  have K5 := cell_regrown HKW.c5
  have K6 := cell_regrown HKW.c6
  simp only at K2 K5 K6
  have hwl := hm.ok.low tn (Pg.ix q lv)
  have hwh := hm.ok.high tn (Pg.ix q lv)
  obtain ⟨e1, e2⟩ := Pg.rCode_of (i := Pg.ix q lv) (lv := lv) hh
  simp only [Int.toNat_natCast] at e1 e2
  have HEO := fun W' => entryOf_any (S.word tn (Pg.ix q lv)) (lv : Int) hwl hwh W'
  rw [Pg.decV_of, ← e1, ← e2, hc, he] at HEO
  simp only [Pg.En.val] at HEO
  clear hwl hwh e1 e2 hc he
  simp only [Int.toNat_natCast] at hwd0 ⊢
  generalize S.word tn (Pg.ix q lv) = wd at *
  generalize hixx : Pg.ix q lv = ixn at *
  have HIXX : Hid _ := hixx
  have i0 : (0 : Int) ≤ (tn : Int) := by omega
  have i1 : (tn : Int) < (S.n : Int) := by omega
  have i2 : (0 : Int) ≤ (ixn : Int) := by omega
  have i3 : (ixn : Int) < 8 := by omega
  clear h hm hBW HKW HMW hixx
  simp only [Pg.Wo.res, Pg.Wo.cd, Pg.Wo.next, Pg.Rs.zero]
  go_enter Try.func10, Try.ntmps10
  go_wp2_with fail
  rw [← hW]
  refine HT.mono ?_
  rintro e w1 ⟨rfl, hw⟩
  subst w1
  clear hW
  clear HT k1 k5
  go_wp2_with fail
  refine wp_region_quiet_below (by kernel_rfl) (by kernel_rfl) ?_
  repeat (first
    | go_big_quiet_step ((go_at_call 39; exact Calls.regrown_of (HIx _))))
  refine wpQuiet_nil ?_
  intro _ hw'
  obtain ⟨⟨dq, osq⟩, rfl⟩ := hw'
  have hb2 := below_regrown W dq osq
  have HB2 : Hid (Below w.heap.size w (grow (redrawn W dq) osq)) := bthen HBW.out hb2
  have R2 : Hid ((grow (redrawn W dq) osq).heap[w.heap.size]? = _) := (hb2.block _ hlW).trans R0.out
  clear hb2 HIx M0 MW K2 K5 K6 R0 HBW hlW
  generalize grow (redrawn W dq) osq = w2 at *
  have hk2 := HKw.out.grow HB2.out
  have y7 := hk2.c7
  have y8 := hk2.c8
  have y6 := hk2.c6
  simp only [ne_eq, not_true_eq_false, decide_false] at y6 y7 y8
  have hr2 : w.heap.size < w2.heap.size := (Array.getElem?_eq_some_iff.1 R2.out).1
  have hl2 : b < w2.heap.size := hk2.lb
  clear hk2

  go_wp2_with fail
  refine (HEO _).mono ?_
  rintro e w3 ⟨rfl, hb3⟩
  have HB3 : Hid (Below w.heap.size w w3) := bthen HB2.out hb3
  have R3 : Hid (w3.heap[w.heap.size]? = _) := (hb3.block _ hr2).trans R2.out
  have hr3 : w.heap.size < w3.heap.size := Nat.lt_of_lt_of_le hr2 hb3.size
  have hl3 : b < w3.heap.size := Nat.lt_of_lt_of_le hl2 hb3.size
  have nb3 : b ≠ w3.heap.size := by omega
  have mb3 : w3.heap.size ≠ b := by omega
  have nr3 : w.heap.size ≠ w3.heap.size := by omega
  have mr3 : w3.heap.size ≠ w.heap.size := by omega
  clear hb3 HEO y6 y7 y8 HB2 R2 hr2 hl2

  obtain ⟨W4, hW4⟩ : ∃ W4, W4 = w3.alloc (.cells #[.bool true, .bool true, .int .i64 er, .bool false, .bool ed, .int .i64 ef] 93) := ⟨_, rfl⟩
  have hB4 : Below w3.heap.size w3 W4 := by rw [hW4]; exact balloc (brefl _) _
  have HB4 : Hid (Below w.heap.size w W4) := bthen HB3.out hB4
  have R4 : Hid (W4.heap[w.heap.size]? = _) := (hB4.block _ hr3).trans R3.out
  have E4 : Hid (W4.cell? ⟨w3.heap.size, 0, none⟩ = some (.bool true) ∧ W4.cell? ⟨w3.heap.size, 1, none⟩ = some (.bool true) ∧ W4.cell? ⟨w3.heap.size, 2, none⟩ = some (.int .i64 er) ∧ W4.cell? ⟨w3.heap.size, 3, none⟩ = some (.bool false) ∧ W4.cell? ⟨w3.heap.size, 4, none⟩ = some (.bool ed) ∧ W4.cell? ⟨w3.heap.size, 5, none⟩ = some (.int .i64 ef)) := by rw [Hid, hW4]; simp [go_sem]
  have F4 : Hid (∀ i, W4.frozen? ⟨w3.heap.size, i, none⟩ = false) := fun i => by rw [hW4]; simp [go_sem]
  have hr4 : w.heap.size < W4.heap.size := by have := hB4.size; omega
  have hl4 : b < W4.heap.size := by have := hB4.size; omega
  have he4 : w3.heap.size < W4.heap.size := by rw [hW4]; simp

  clear hB4
  go_wp2_with fail
  rw [← hW4]
  clear hW4
  have z2 := cell_regrown E4.out.2.2.1
  have y2 := cell_regrown (HKw.out.grow HB4.out).c2
  have y3 := cell_regrown (HKw.out.grow HB4.out).c3
  have y4 := cell_regrown (HKw.out.grow HB4.out).c4
  simp only at y2 y3 y4
  refine wp_region_quiet_below (by kernel_rfl) (by kernel_rfl) ?_
  repeat (first
    | go_big_quiet_step ((go_at_call 42; exact Calls.regrown_of (HMay _))))
  refine wpQuiet_nil ?_
  intro _ hw'
  obtain ⟨⟨dq5, osq5⟩, rfl⟩ := hw'
  have hb5 := below_regrown W4 dq5 osq5
  have HB5 : Hid (Below w.heap.size w (grow (redrawn W4 dq5) osq5)) := bthen HB4.out hb5
  have R5 : Hid ((grow (redrawn W4 dq5) osq5).heap[w.heap.size]? = _) := (hb5.block _ hr4).trans R4.out
  have E5 : Hid _ := later6 hb5 E4.out
  have F5 : Hid (∀ i, (grow (redrawn W4 dq5) osq5).frozen? ⟨w3.heap.size, i, none⟩ = false) := fun i => (hb5.frozen (p := ⟨w3.heap.size, i, none⟩) he4).trans (F4.out i)
  have hr5 : w.heap.size < (grow (redrawn W4 dq5) osq5).heap.size := Nat.lt_of_lt_of_le hr4 hb5.size
  have hl5 : b < (grow (redrawn W4 dq5) osq5).heap.size := Nat.lt_of_lt_of_le hl4 hb5.size
  have he5 : w3.heap.size < (grow (redrawn W4 dq5) osq5).heap.size := Nat.lt_of_lt_of_le he4 hb5.size
  clear hb5 z2 y2 y3 y4 E4 F4 HMay HB4 R4 hr4 hl4 he4 HB3 R3 hl3
  generalize grow (redrawn W4 dq5) osq5 = w5 at *
  generalize w3.heap.size = Eb at *

  obtain ⟨z0, z1, z2, z3, z4, z5⟩ := E5.out
  have hk5 := HKw.out.grow HB5.out
  have y3 := hk5.c3
  have y7 := hk5.c7
  have y8 := hk5.c8
  have yf := hk5.fb
  simp only [ne_eq, not_true_eq_false, decide_false] at y3 y7 y8
  obtain ⟨⟨x0, x1, x2⟩, xf⟩ := row3 R5.out
  have HF : Hid _ := fin3 hrb (Nat.le_refl _) ⟨(hk5.wait wd hwd0).1, (Ch8.of_below HB5.out hl).trans (hk5.wait wd hwd0).2 (fun _ _ h => h)⟩ (.int .i64 0) (.int .i64 0) (.int .i64 0)
  clear hk5
  go_wp2_with fail
  refine bodyPost_ret (v := .tuple #[.agg #[.int .i64 0, .int .i64 0, .int .i64 0], .bool false, .int .i64 0]) ?_ rfl ⟨rfl, HF.out⟩
  simp [results, Try.results10, go_sem, x0, x1, x2]

set_option maxHeartbeats 1000000 in
theorem cStep_wait2 {bm g0 g1 bl : Nat} {vb : Value} {S : Pg.Fs} {q k : Int} {u : Bool} {t : Int} {lv : Nat} {xw : Int} {er : Int} {ef : Int} (hq : Pg.below q 4096 = true) (hlv : lv < 4) (w : World) (h : CkAt w b ⟨true, q, k, u, t, lv, 0⟩ t (lv : Int) xw) (hm : MemAt w bm g0 g1 vb S) (hk1 : (k != 1) = false) (hwd0 : S.word t.toNat (Pg.ix q lv) ≠ 0) (hmay : Pg.may er k u = true) (hh : S.has t = true) (hc : Pg.rCode S t (Pg.ix q lv) lv = 0) (he : Pg.rEn S t (Pg.ix q lv) lv = ⟨true, true, er, true, false, ef⟩) :
    Calls Try.prog 10 #[.pointer (some ⟨b, 0, none⟩), .pointer (some ⟨bm, 0, none⟩), .int .i64 root, .pointer (some ⟨bl, 0, none⟩)] w fun e w' => e = .returned (.tuple #[.agg #[.int .i64 (Pg.Wo.res ⟨true, q, k, u, t, lv, 0⟩ (.go ⟨true, q, k, u, t, lv, S.word t.toNat (Pg.ix q lv)⟩)).a, .int .i64 (Pg.Wo.res ⟨true, q, k, u, t, lv, 0⟩ (.go ⟨true, q, k, u, t, lv, S.word t.toNat (Pg.ix q lv)⟩)).f, .int .i64 (Pg.Wo.res ⟨true, q, k, u, t, lv, 0⟩ (.go ⟨true, q, k, u, t, lv, S.word t.toNat (Pg.ix q lv)⟩)).r], .bool (Pg.Wo.res ⟨true, q, k, u, t, lv, 0⟩ (.go ⟨true, q, k, u, t, lv, S.word t.toNat (Pg.ix q lv)⟩)).ended, .int .i64 (Pg.Wo.cd (.go ⟨true, q, k, u, t, lv, S.word t.toNat (Pg.ix q lv)⟩))]) ∧ CkEx w' b (Pg.Wo.next ⟨true, q, k, u, t, lv, 0⟩ (.go ⟨true, q, k, u, t, lv, S.word t.toNat (Pg.ix q lv)⟩)) ∧ Ch8 b 1 (fun j => j = b) w w' := by
  have HMay := fun W' => lets_any er q k u W'
  rw [hmay] at HMay
  clear hmay

  obtain ⟨W, hW⟩ : ∃ W, W = w.alloc (.cells #[.int .i64 0, .int .i64 0, .int .i64 0] 43) := ⟨_, rfl⟩
  have hBW : Below w.heap.size w W := by rw [hW]; exact balloc (brefl w) _
  have hl := h.lb
  have HKw : Hid _ := h
  have HMw : Hid _ := hm
  have HBW : Hid _ := hBW
  have HKW := h.grow hBW
  have HMW := hm.keep (F := fun _ => False) (But.of_below hBW) (fun _ _ => id)
  have R0 : Hid (W.heap[w.heap.size]? = some (.cells #[.int .i64 0, .int .i64 0, .int .i64 0] 43 (0, 0))) := by rw [hW]; exact heap_alloc_new _ _
  have hrb : ¬ w.heap.size = b := by omega
  have hne : b ≠ w.heap.size := by omega
  have hlW : w.heap.size < W.heap.size := (Array.getElem?_eq_some_iff.1 R0.out).1
  have HT := memTaken_any t W HMW
  rw [hh] at HT
  have k1 := h.c1
  have k5 := h.c5
  simp only at k1 k5

  obtain ⟨tn, rfl⟩ := Int.eq_ofNat_of_zero_le (hm.ok.has_lt hh).1
  have htn : tn < S.n := by have := (hm.ok.has_lt hh).2.1; omega
  have hixl := Pg.ix_lt q lv
  have HIx := indexOf_any q (lv : Int)
  rw [Pg.index_ix hq hlv] at HIx
  have M0 := cell_regrown HMW.raw.c0
  have MW := cell_regrown (HMW.raw.cw tn (Pg.ix q lv) htn hixl)
  have K2 := cell_regrown HKW.c2
  have K5 := cell_regrown HKW.c5
  have K6 := cell_regrown HKW.c6
  simp only at K2 K5 K6
  have hwl := hm.ok.low tn (Pg.ix q lv)
  have hwh := hm.ok.high tn (Pg.ix q lv)
  obtain ⟨e1, e2⟩ := Pg.rCode_of (i := Pg.ix q lv) (lv := lv) hh
  simp only [Int.toNat_natCast] at e1 e2
  have HEO := fun W' => entryOf_any (S.word tn (Pg.ix q lv)) (lv : Int) hwl hwh W'
  rw [Pg.decV_of, ← e1, ← e2, hc, he] at HEO
  simp only [Pg.En.val] at HEO
  clear hwl hwh e1 e2 hc he
  simp only [Int.toNat_natCast] at hwd0 ⊢
  generalize S.word tn (Pg.ix q lv) = wd at *
  generalize hixx : Pg.ix q lv = ixn at *
  have HIXX : Hid _ := hixx
  have i0 : (0 : Int) ≤ (tn : Int) := by omega
  have i1 : (tn : Int) < (S.n : Int) := by omega
  have i2 : (0 : Int) ≤ (ixn : Int) := by omega
  have i3 : (ixn : Int) < 8 := by omega
  clear h hm hBW HKW HMW hixx
  simp only [Pg.Wo.res, Pg.Wo.cd, Pg.Wo.next, Pg.Rs.zero]
  go_enter Try.func10, Try.ntmps10
  go_wp2_with fail
  rw [← hW]
  refine HT.mono ?_
  rintro e w1 ⟨rfl, hw⟩
  subst w1
  clear hW
  clear HT k1 k5
  go_wp2_with fail
  refine wp_region_quiet_below (by kernel_rfl) (by kernel_rfl) ?_
  repeat (first
    | go_big_quiet_step ((go_at_call 39; exact Calls.regrown_of (HIx _))))
  refine wpQuiet_nil ?_
  intro _ hw'
  obtain ⟨⟨dq, osq⟩, rfl⟩ := hw'
  have hb2 := below_regrown W dq osq
  have HB2 : Hid (Below w.heap.size w (grow (redrawn W dq) osq)) := bthen HBW.out hb2
  have R2 : Hid ((grow (redrawn W dq) osq).heap[w.heap.size]? = _) := (hb2.block _ hlW).trans R0.out
  clear hb2 HIx M0 MW K2 K5 K6 R0 HBW hlW
  generalize grow (redrawn W dq) osq = w2 at *
  have hk2 := HKw.out.grow HB2.out
  have y7 := hk2.c7
  have y8 := hk2.c8
  have y6 := hk2.c6
  simp only [ne_eq, not_true_eq_false, decide_false] at y6 y7 y8
  have hr2 : w.heap.size < w2.heap.size := (Array.getElem?_eq_some_iff.1 R2.out).1
  have hl2 : b < w2.heap.size := hk2.lb
  clear hk2

  go_wp2_with fail
  refine (HEO _).mono ?_
  rintro e w3 ⟨rfl, hb3⟩
  have HB3 : Hid (Below w.heap.size w w3) := bthen HB2.out hb3
  have R3 : Hid (w3.heap[w.heap.size]? = _) := (hb3.block _ hr2).trans R2.out
  have hr3 : w.heap.size < w3.heap.size := Nat.lt_of_lt_of_le hr2 hb3.size
  have hl3 : b < w3.heap.size := Nat.lt_of_lt_of_le hl2 hb3.size
  have nb3 : b ≠ w3.heap.size := by omega
  have mb3 : w3.heap.size ≠ b := by omega
  have nr3 : w.heap.size ≠ w3.heap.size := by omega
  have mr3 : w3.heap.size ≠ w.heap.size := by omega
  clear hb3 HEO y6 y7 y8 HB2 R2 hr2 hl2

  obtain ⟨W4, hW4⟩ : ∃ W4, W4 = w3.alloc (.cells #[.bool true, .bool true, .int .i64 er, .bool true, .bool false, .int .i64 ef] 93) := ⟨_, rfl⟩
  have hB4 : Below w3.heap.size w3 W4 := by rw [hW4]; exact balloc (brefl _) _
  have HB4 : Hid (Below w.heap.size w W4) := bthen HB3.out hB4
  have R4 : Hid (W4.heap[w.heap.size]? = _) := (hB4.block _ hr3).trans R3.out
  have E4 : Hid (W4.cell? ⟨w3.heap.size, 0, none⟩ = some (.bool true) ∧ W4.cell? ⟨w3.heap.size, 1, none⟩ = some (.bool true) ∧ W4.cell? ⟨w3.heap.size, 2, none⟩ = some (.int .i64 er) ∧ W4.cell? ⟨w3.heap.size, 3, none⟩ = some (.bool true) ∧ W4.cell? ⟨w3.heap.size, 4, none⟩ = some (.bool false) ∧ W4.cell? ⟨w3.heap.size, 5, none⟩ = some (.int .i64 ef)) := by rw [Hid, hW4]; simp [go_sem]
  have F4 : Hid (∀ i, W4.frozen? ⟨w3.heap.size, i, none⟩ = false) := fun i => by rw [hW4]; simp [go_sem]
  have hr4 : w.heap.size < W4.heap.size := by have := hB4.size; omega
  have hl4 : b < W4.heap.size := by have := hB4.size; omega
  have he4 : w3.heap.size < W4.heap.size := by rw [hW4]; simp

  clear hB4
  go_wp2_with fail
  rw [← hW4]
  clear hW4
  have z2 := cell_regrown E4.out.2.2.1
  have y2 := cell_regrown (HKw.out.grow HB4.out).c2
  have y3 := cell_regrown (HKw.out.grow HB4.out).c3
  have y4 := cell_regrown (HKw.out.grow HB4.out).c4
  simp only at y2 y3 y4
  refine wp_region_quiet_below (by kernel_rfl) (by kernel_rfl) ?_
  repeat (first
    | go_big_quiet_step ((go_at_call 42; exact Calls.regrown_of (HMay _))))
  refine wpQuiet_nil ?_
  intro _ hw'
  obtain ⟨⟨dq5, osq5⟩, rfl⟩ := hw'
  have hb5 := below_regrown W4 dq5 osq5
  have HB5 : Hid (Below w.heap.size w (grow (redrawn W4 dq5) osq5)) := bthen HB4.out hb5
  have R5 : Hid ((grow (redrawn W4 dq5) osq5).heap[w.heap.size]? = _) := (hb5.block _ hr4).trans R4.out
  have E5 : Hid _ := later6 hb5 E4.out
  have F5 : Hid (∀ i, (grow (redrawn W4 dq5) osq5).frozen? ⟨w3.heap.size, i, none⟩ = false) := fun i => (hb5.frozen (p := ⟨w3.heap.size, i, none⟩) he4).trans (F4.out i)
  have hr5 : w.heap.size < (grow (redrawn W4 dq5) osq5).heap.size := Nat.lt_of_lt_of_le hr4 hb5.size
  have hl5 : b < (grow (redrawn W4 dq5) osq5).heap.size := Nat.lt_of_lt_of_le hl4 hb5.size
  have he5 : w3.heap.size < (grow (redrawn W4 dq5) osq5).heap.size := Nat.lt_of_lt_of_le he4 hb5.size
  clear hb5 z2 y2 y3 y4 E4 F4 HMay HB4 R4 hr4 hl4 he4 HB3 R3 hl3
  generalize grow (redrawn W4 dq5) osq5 = w5 at *
  generalize w3.heap.size = Eb at *

  obtain ⟨z0, z1, z2, z3, z4, z5⟩ := E5.out
  have hk5 := HKw.out.grow HB5.out
  have y3 := hk5.c3
  have y7 := hk5.c7
  have y8 := hk5.c8
  have yf := hk5.fb
  simp only [ne_eq, not_true_eq_false, decide_false] at y3 y7 y8
  obtain ⟨⟨x0, x1, x2⟩, xf⟩ := row3 R5.out
  have HF : Hid _ := fin3 hrb (Nat.le_refl _) ⟨(hk5.wait wd hwd0).1, (Ch8.of_below HB5.out hl).trans (hk5.wait wd hwd0).2 (fun _ _ h => h)⟩ (.int .i64 0) (.int .i64 0) (.int .i64 0)
  clear hk5
  go_wp2_with fail
  refine bodyPost_ret (v := .tuple #[.agg #[.int .i64 0, .int .i64 0, .int .i64 0], .bool false, .int .i64 0]) ?_ rfl ⟨rfl, HF.out⟩
  simp [results, Try.results10, go_sem, x0, x1, x2]

end
end Go.Proofs.Ytbkpndgadgafiae
