/-
  The document's own core: where it lies, and what Begin answers, whatever it keeps.
-/
import Derived.Test.YtbkpndgadgafiaePlainC
import Derived.Test.YtbkpndgadgafiaeKD
import Derived.Test.YtbkpndgadgafiaeCoRefB
import Derived.Test.YtbkpndgadgafiaeMixQ
import Derived.Deep.DeepCutAuto
namespace Go.Proofs.Ytbkpndgadgafiae
open Go.RowKit Go.Sort
set_option linter.unusedVariables false
set_option linter.unusedSimpArgs false
set_option maxRecDepth 100000
attribute [local go_sem] Loose.gent

/-- The document's core C lies at the block b; vb: the row of its lines. -/
structure CdAt (w : World) (b : Nat) (vb : Value) (C : Pg.Cr) : Prop where
  co : CoAt w b vb C.L
  ck : CkEx w b C.K
  ok : C.K.Ok
theorem CkEx.fb {w : World} {b : Nat} {K : Pg.Wk} (h : CkEx w b K) : ∀ p, w.frozen? ⟨b, p, none⟩ = false := by
  obtain ⟨t, lv, x, h⟩ := h
  exact h.fb
/-- The walk has been asked: the lines stay. -/
theorem CoAt.walked {w w' : World} {b : Nat} {vb : Value} {L : List Pg.Ln} {K : Pg.Wk} {G : Nat → Prop} (h : CoAt w b vb L) (hk : CkEx w' b K) (hc : Ch8 b 1 G w w') (hG : ∀ k, vb.ownBlock = some k → ¬ G k) : CoAt w' b vb L :=
  ⟨(hc.oth 0 (.inl (by decide))).trans h.c0, hk.fb, h.row.but hc.but hG, h.nb, h.kept⟩
/-- The lines have been asked: the walk stays. -/
theorem CkEx.kept {w w' : World} {b : Nat} {vb : Value} {L : List Pg.Ln} {K : Pg.Wk} {G : Nat → Prop} (h : CkEx w b K) (hk : CoAt w' b vb L) (hc : Chg b 0 G w w') : CkEx w' b K := by
  obtain ⟨t, lv, x, h⟩ := h
  exact ⟨t, lv, x, (hc.oth 1 (by decide)).trans h.c1, (hc.oth 2 (by decide)).trans h.c2, (hc.oth 3 (by decide)).trans h.c3, (hc.oth 4 (by decide)).trans h.c4, (hc.oth 5 (by decide)).trans h.c5, (hc.oth 6 (by decide)).trans h.c6, (hc.oth 7 (by decide)).trans h.c7, (hc.oth 8 (by decide)).trans h.c8, hk.fb, h.at', h.wd⟩
namespace CdAt
variable {w w' : World} {b : Nat} {vb vb' : Value} {C : Pg.Cr} {G : Nat → Prop}
theorem lb (h : CdAt w b vb C) : b < w.heap.size := h.co.lb
theorem lt (h : CdAt w b vb C) {k : Nat} (hk : bkF b vb k) : k < w.heap.size := h.co.lt hk
theorem keep (h : CdAt w b vb C) (hb : But G w w') (hG : ∀ k, bkF b vb k → ¬ G k) : CdAt w' b vb C := ⟨h.co.keep hb hG, h.ck.of_block (hb.block b h.lb (hG b (.inl rfl))), h.ok⟩
theorem grow (h : CdAt w b vb C) (hb : Below w.heap.size w w') : CdAt w' b vb C := h.keep (G := fun _ => False) (But.of_below hb) (fun _ _ => id)
theorem stepK {K' : Pg.Wk} (h : CdAt w b vb C) (hk : CkEx w' b K') (ok : K'.Ok) (hc : Ch8 b 1 G w w') (hG : ∀ k, vb.ownBlock = some k → ¬ G k) : CdAt w' b vb ⟨C.L, K'⟩ := ⟨h.co.walked hk hc hG, hk, ok⟩
theorem stepL {L' : List Pg.Ln} (h : CdAt w b vb C) (hk : CoAt w' b vb' L') (hc : Chg b 0 G w w') : CdAt w' b vb' ⟨L', C.K⟩ := ⟨hk, h.ck.kept hk hc, h.ok⟩
end CdAt

theorem below_set3c {w w1 : World} (h : Below w.heap.size w w1) (r : Nat) (hr : w.heap.size ≤ r) (x0 x1 x2 : Value) : Below w.heap.size w (((w1.setCell ⟨r, 0, none⟩ x0).setCell ⟨r, 1, none⟩ x1).setCell ⟨r, 2, none⟩ x2) :=
  ((h.setCell (p := ⟨r, 0, none⟩) hr x0).setCell (p := ⟨r, 1, none⟩) hr x1).setCell (p := ⟨r, 2, none⟩) hr x2

section
variable {b : Nat} {root : Int} {C : Pg.Cr} {vb : Value}
set_option maxHeartbeats 1000000 in
theorem cdBegin_bad (q k : Int) (u : Bool) (hc : Pg.checkAccess q k ≠ 0) (w : World) (h : CdAt w b vb C) :
    Calls Try.prog 9 #[.pointer (some ⟨b, 0, none⟩), .int .i64 root, .agg #[.int .i64 q, .int .i64 k, .bool u]] w fun e w' => e = .returned (Pg.Tl.code (Pg.checkAccess q k)).val ∧ Below w.heap.size w w' := by
  obtain ⟨W, hW⟩ : ∃ W, W = (w.alloc (.cells #[.int .i64 q, .int .i64 k, .bool u] 34)).alloc (.cells #[.int .i64 0, .int .i64 0, .int .i64 0] 43) := ⟨_, rfl⟩
  have hBW : Below w.heap.size w W := by rw [hW]; exact balloc (balloc (brefl w) _) _
  have A3 : Hid (W.cell? ⟨w.heap.size, 0, none⟩ = some (.int .i64 q) ∧ W.cell? ⟨w.heap.size, 1, none⟩ = some (.int .i64 k) ∧ W.cell? ⟨w.heap.size, 2, none⟩ = some (.bool u)) := by rw [Hid, hW]; simp [go_sem]
  have R3 : Hid (W.heap[w.heap.size + 1]? = some (.cells #[.int .i64 0, .int .i64 0, .int .i64 0] 43 (0, 0))) := by
    rw [Hid, hW]
    exact (by simp : (w.alloc (.cells #[.int .i64 q, .int .i64 k, .bool u] 34)).heap.size = w.heap.size + 1) ▸ heap_alloc_new _ _
  have hl := h.lb
  have HW : Hid _ := h.grow hBW
  have HBW : Hid _ := hBW
  have HCa := accessFault_any q k u W
  have hne : b ≠ w.heap.size := by omega
  have mne : w.heap.size ≠ b := by omega
  have hrb : ¬ w.heap.size + 1 = b := by omega
  have hrW : w.heap.size + 1 < W.heap.size := by rw [hW]; simp
  have HX : Hid _ := h
  have hcn : (Pg.checkAccess q k != 0) = true := by simpa using hc
  generalize Pg.checkAccess q k = c at *
  simp only [Pg.Tl.code, Pg.Tl.val]
  clear h hBW
  go_enter Try.func9, Try.ntmps9
  go_wp2_with fail
  rw [← hW]
  refine HCa.mono ?_
  rintro e w1 ⟨rfl, hb1⟩
  have P1 : Hid _ := HW.out.grow hb1
  have HB1 : Hid (Below w.heap.size w w1) := bthen HBW.out hb1
  have R1 : Hid (w1.heap[w.heap.size + 1]? = some (.cells #[.int .i64 0, .int .i64 0, .int .i64 0] 43 (0, 0))) := (hb1.block _ hrW).trans R3.out
  have hr1 : w.heap.size + 1 < w1.heap.size := Nat.lt_of_lt_of_le hrW hb1.size
  have A1 : Hid _ := later3 hb1 A3.out
  clear hb1 HCa HW HBW A3 hW R3
  obtain ⟨⟨x0, x1, x2⟩, xf⟩ := row3 R1.out
  go_wp2_with fail
  refine bodyPost_ret (v := .tuple #[.agg #[.int .i64 0, .int .i64 0, .int .i64 0], .bool false, .int .i64 c]) ?_ rfl ⟨rfl, below_set3c HB1.out _ (Nat.le_succ _) _ _ _⟩
  simp [results, Try.results9, go_sem, x0, x1, x2]

set_option maxHeartbeats 1000000 in
theorem cdBegin_busy (q k : Int) (u : Bool) (hc : Pg.checkAccess q k = 0) (ho : C.K.on = true) (w : World) (h : CdAt w b vb C) :
    Calls Try.prog 9 #[.pointer (some ⟨b, 0, none⟩), .int .i64 root, .agg #[.int .i64 q, .int .i64 k, .bool u]] w fun e w' => e = .returned (Pg.Tl.code 8).val ∧ Below w.heap.size w w' := by
  obtain ⟨W, hW⟩ : ∃ W, W = (w.alloc (.cells #[.int .i64 q, .int .i64 k, .bool u] 34)).alloc (.cells #[.int .i64 0, .int .i64 0, .int .i64 0] 43) := ⟨_, rfl⟩
  have hBW : Below w.heap.size w W := by rw [hW]; exact balloc (balloc (brefl w) _) _
  have A3 : Hid (W.cell? ⟨w.heap.size, 0, none⟩ = some (.int .i64 q) ∧ W.cell? ⟨w.heap.size, 1, none⟩ = some (.int .i64 k) ∧ W.cell? ⟨w.heap.size, 2, none⟩ = some (.bool u)) := by rw [Hid, hW]; simp [go_sem]
  have R3 : Hid (W.heap[w.heap.size + 1]? = some (.cells #[.int .i64 0, .int .i64 0, .int .i64 0] 43 (0, 0))) := by
    rw [Hid, hW]
    exact (by simp : (w.alloc (.cells #[.int .i64 q, .int .i64 k, .bool u] 34)).heap.size = w.heap.size + 1) ▸ heap_alloc_new _ _
  have hl := h.lb
  have HW : Hid _ := h.grow hBW
  have HBW : Hid _ := hBW
  have HCa := accessFault_any q k u W
  have hne : b ≠ w.heap.size := by omega
  have mne : w.heap.size ≠ b := by omega
  have hrb : ¬ w.heap.size + 1 = b := by omega
  have hrW : w.heap.size + 1 < W.heap.size := by rw [hW]; simp
  have HX : Hid _ := h
  rw [hc] at HCa
  simp only [Pg.Tl.code, Pg.Tl.val]
  clear h hBW
  go_enter Try.func9, Try.ntmps9
  go_wp2_with fail
  rw [← hW]
  refine HCa.mono ?_
  rintro e w1 ⟨rfl, hb1⟩
  have P1 : Hid _ := HW.out.grow hb1
  have HB1 : Hid (Below w.heap.size w w1) := bthen HBW.out hb1
  have R1 : Hid (w1.heap[w.heap.size + 1]? = some (.cells #[.int .i64 0, .int .i64 0, .int .i64 0] 43 (0, 0))) := (hb1.block _ hrW).trans R3.out
  have hr1 : w.heap.size + 1 < w1.heap.size := Nat.lt_of_lt_of_le hrW hb1.size
  have A1 : Hid _ := later3 hb1 A3.out
  clear hb1 HCa HW HBW A3 hW R3
  obtain ⟨⟨x0, x1, x2⟩, xf⟩ := row3 R1.out
  obtain ⟨t8, lv8, x8, hck⟩ := P1.out.ck
  have c1 := hck.c1
  rw [ho] at c1
  clear hck ho hc
  go_wp2_with fail
  refine bodyPost_ret (v := .tuple #[.agg #[.int .i64 0, .int .i64 0, .int .i64 0], .bool false, .int .i64 8]) ?_ rfl ⟨rfl, below_set3c HB1.out _ (Nat.le_succ _) _ _ _⟩
  simp [results, Try.results9, go_sem, x0, x1, x2]

set_option maxHeartbeats 1000000 in
theorem cdBegin_none (q k : Int) (u : Bool) (hc : Pg.checkAccess q k = 0) (ho : C.K.on = false) (hn : Pg.kFnd C.L q = none) (w : World) (h : CdAt w b vb C) :
    Calls Try.prog 9 #[.pointer (some ⟨b, 0, none⟩), .int .i64 root, .agg #[.int .i64 q, .int .i64 k, .bool u]] w fun e w' => e = .returned (Pg.Tl.code 0).val ∧ CdAt w' b vb ⟨C.L, Pg.Wk.start root q k u⟩ ∧ But (fun j => j = b) w w' := by
  obtain ⟨W, hW⟩ : ∃ W, W = (w.alloc (.cells #[.int .i64 q, .int .i64 k, .bool u] 34)).alloc (.cells #[.int .i64 0, .int .i64 0, .int .i64 0] 43) := ⟨_, rfl⟩
  have hBW : Below w.heap.size w W := by rw [hW]; exact balloc (balloc (brefl w) _) _
  have A3 : Hid (W.cell? ⟨w.heap.size, 0, none⟩ = some (.int .i64 q) ∧ W.cell? ⟨w.heap.size, 1, none⟩ = some (.int .i64 k) ∧ W.cell? ⟨w.heap.size, 2, none⟩ = some (.bool u)) := by rw [Hid, hW]; simp [go_sem]
  have R3 : Hid (W.heap[w.heap.size + 1]? = some (.cells #[.int .i64 0, .int .i64 0, .int .i64 0] 43 (0, 0))) := by
    rw [Hid, hW]
    exact (by simp : (w.alloc (.cells #[.int .i64 q, .int .i64 k, .bool u] 34)).heap.size = w.heap.size + 1) ▸ heap_alloc_new _ _
  have hl := h.lb
  have HW : Hid _ := h.grow hBW
  have HBW : Hid _ := hBW
  have HCa := accessFault_any q k u W
  have hne : b ≠ w.heap.size := by omega
  have mne : w.heap.size ≠ b := by omega
  have hrb : ¬ w.heap.size + 1 = b := by omega
  have hrW : w.heap.size + 1 < W.heap.size := by rw [hW]; simp
  have HX : Hid _ := h
  have HOF : Hid _ := h.ok.idle ho
  have HOK : Hid _ := Pg.Wk.start_ok (root := root) (k := k) (u := u) (Pg.access_page hc)
  have HQ : Hid _ := Pg.access_fits hc
  rw [hc] at HCa
  have hkn : Pg.kFndN C.L q = -1 := by simp only [Pg.kFndN, hn]
  simp only [Pg.Tl.code, Pg.Tl.val]
  clear h hBW
  go_enter Try.func9, Try.ntmps9
  go_wp2_with fail
  rw [← hW]
  refine HCa.mono ?_
  rintro e w1 ⟨rfl, hb1⟩
  have P1 : Hid _ := HW.out.grow hb1
  have HB1 : Hid (Below w.heap.size w w1) := bthen HBW.out hb1
  have R1 : Hid (w1.heap[w.heap.size + 1]? = some (.cells #[.int .i64 0, .int .i64 0, .int .i64 0] 43 (0, 0))) := (hb1.block _ hrW).trans R3.out
  have hr1 : w.heap.size + 1 < w1.heap.size := Nat.lt_of_lt_of_le hrW hb1.size
  have A1 : Hid _ := later3 hb1 A3.out
  clear hb1 HCa HW HBW A3 hW R3
  obtain ⟨z0, z1, z2⟩ := A1.out
  obtain ⟨t8, lv8, x8, hck⟩ := P1.out.ck
  have c1 := hck.c1
  rw [ho] at c1
  have HKt := coKept_any q HQ.out w1 P1.out.co
  rw [hkn] at HKt
  clear hck hkn ho hc
  go_wp2_with fail
  refine HKt.mono ?_
  rintro e w2 ⟨rfl, hb2⟩
  have P2 : Hid _ := P1.out.grow hb2
  have HB2 : Hid (Below w.heap.size w w2) := bthen HB1.out hb2
  have R2 : Hid (w2.heap[w.heap.size + 1]? = some (.cells #[.int .i64 0, .int .i64 0, .int .i64 0] 43 (0, 0))) := (hb2.block _ hr1).trans R1.out
  have hr2 : w.heap.size + 1 < w2.heap.size := Nat.lt_of_lt_of_le hr1 hb2.size
  have A2 : Hid _ := later3 hb2 A1.out
  clear hb2 HKt P1 HB1 R1 A1 hr1 z0 z1 z2 c1
  obtain ⟨t8, lv8, x8, hck⟩ := P2.out.ck
  rw [HOF.out] at hck
  have HF : Hid _ := hck.begun q k u
  have d1 := hck.c1
  have d2 := hck.c2
  have d3 := hck.c3
  have d4 := hck.c4
  have fb := hck.fb
  simp only [Pg.Wk.off] at d1 d2 d3 d4
  obtain ⟨z0, z1, z2⟩ := A2.out
  have hlz := World.block_lt_of_cell? _ _ z0
  simp only at hlz
  clear hck
  go_wp2_with fail
  go_region
  have HA := cAgain_on (root := root) _ HF.out.1.drew
  go_wp2_with fail
  refine HA.mono ?_
  rintro e w9 ⟨rfl, hk9, hc9⟩
  have HC9 : Hid (Ch8 b 1 (fun j => j = b) w w9) := (Ch8.of_below HB2.out hl).trans (HF.out.2.drew.trans hc9 (fun _ _ h => h)) (fun _ _ h => h)
  have R9 := ((HF.out.2.drew.trans hc9 (fun _ _ h => h)).but.block _ hr2 hrb).trans R2.out
  obtain ⟨⟨x0, x1, x2⟩, xf⟩ := row3 R9
  have HFin : Hid _ := fin3 hrb (Nat.le_succ _) ⟨hk9, HC9.out⟩ (.int .i64 0) (.int .i64 0) (.int .i64 0)
  clear hk9 hc9 HA z0 z1 z2 d1 d2 d3 d4 fb R9
  go_wp2_with fail
  refine bodyPost_ret (v := .tuple #[.agg #[.int .i64 0, .int .i64 0, .int .i64 0], .bool false, .int .i64 0]) ?_ rfl ⟨rfl, HX.out.stepK HFin.out.1 HOK.out HFin.out.2 (fun k hk e => HX.out.co.nb (e ▸ hk)), HFin.out.2.but⟩
  simp [results, Try.results9, go_sem, x0, x1, x2]

set_option maxHeartbeats 1000000 in
theorem cdBegin_wants (q k : Int) (u : Bool) (hc : Pg.checkAccess q k = 0) (ho : C.K.on = false) {j : Nat} (hn : Pg.kFnd C.L q = some j) (hwt : (Pg.kAt C.L q).wants k u = true) (w : World) (h : CdAt w b vb C) :
    Calls Try.prog 9 #[.pointer (some ⟨b, 0, none⟩), .int .i64 root, .agg #[.int .i64 q, .int .i64 k, .bool u]] w fun e w' => e = .returned (Pg.Tl.code 0).val ∧ CdAt w' b vb ⟨C.L, Pg.Wk.start root q k u⟩ ∧ But (fun j => j = b) w w' := by
  obtain ⟨W, hW⟩ : ∃ W, W = (w.alloc (.cells #[.int .i64 q, .int .i64 k, .bool u] 34)).alloc (.cells #[.int .i64 0, .int .i64 0, .int .i64 0] 43) := ⟨_, rfl⟩
  have hBW : Below w.heap.size w W := by rw [hW]; exact balloc (balloc (brefl w) _) _
  have A3 : Hid (W.cell? ⟨w.heap.size, 0, none⟩ = some (.int .i64 q) ∧ W.cell? ⟨w.heap.size, 1, none⟩ = some (.int .i64 k) ∧ W.cell? ⟨w.heap.size, 2, none⟩ = some (.bool u)) := by rw [Hid, hW]; simp [go_sem]
  have R3 : Hid (W.heap[w.heap.size + 1]? = some (.cells #[.int .i64 0, .int .i64 0, .int .i64 0] 43 (0, 0))) := by
    rw [Hid, hW]
    exact (by simp : (w.alloc (.cells #[.int .i64 q, .int .i64 k, .bool u] 34)).heap.size = w.heap.size + 1) ▸ heap_alloc_new _ _
  have hl := h.lb
  have HW : Hid _ := h.grow hBW
  have HBW : Hid _ := hBW
  have HCa := accessFault_any q k u W
  have hne : b ≠ w.heap.size := by omega
  have mne : w.heap.size ≠ b := by omega
  have hrb : ¬ w.heap.size + 1 = b := by omega
  have hrW : w.heap.size + 1 < W.heap.size := by rw [hW]; simp
  have HX : Hid _ := h
  have HOF : Hid _ := h.ok.idle ho
  have HOK : Hid _ := Pg.Wk.start_ok (root := root) (k := k) (u := u) (Pg.access_page hc)
  have HQ : Hid _ := Pg.access_fits hc
  rw [hc] at HCa
  have hkn : Pg.kFndN C.L q = (j : Int) := by simp only [Pg.kFndN, hn]
  have ekA : Pg.kAt C.L q = C.L.getD j .zz := by simp only [Pg.kAt, hn]
  obtain ⟨hj, _, _⟩ := Pg.kFnd_some hn
  have hlen := h.co.kept.le
  have i0 : (0 : Int) ≤ (j : Int) := by omega
  have i1 : (j : Int) < (C.L.length : Int) := by omega
  have i2 : ¬ (j : Int) < 0 := by omega
  obtain ⟨ad, cap, rfl⟩ := h.co.row.form
  obtain ⟨g, og, rfl, _, _⟩ := ownsAt_lines h.co.row j hj
  obtain ⟨l, hLl⟩ : ∃ l, l = C.L.getD j .zz := ⟨_, rfl⟩
  rw [← hLl] at ekA
  rw [ekA] at hwt
  have HAn := fun w => answerOf_any l.m.p l.m.s l.m.f l.m.r q k u w
  obtain ⟨⟨mp, ms, mf, mr⟩, ld⟩ := l
  simp only at HAn
  have HLL : Hid _ := hLl
  clear ekA hLl
  simp only [Pg.Ln.wants, Bool.and_eq_true, beq_iff_eq, Bool.not_eq_true'] at hwt
  obtain ⟨hk1, hld, hmay⟩ := hwt
  have e1 : Pg.aEnd mr k u = 0 := by simp [Pg.aEnd, hmay]
  rw [e1] at HAn
  obtain ⟨ra, hra⟩ : ∃ ra : Int, ra = 0 := ⟨_, rfl⟩
  rw [← hra] at HAn
  generalize Pg.aFrame mp mf mr q k u = rf at *
  generalize Pg.aRights mr k u = rr at *
  clear e1 hmay
  have hk2 : (k != 1) = false := by simp [hk1]
  have hra2 : (ra != 0) = false := by simp [hra]
  have HK1 : Hid _ := hk1
  clear hk1 hra
  simp only [Pg.Tl.code, Pg.Tl.val]
  clear h hBW
  go_enter Try.func9, Try.ntmps9
  go_wp2_with fail
  rw [← hW]
  refine HCa.mono ?_
  rintro e w1 ⟨rfl, hb1⟩
  have P1 : Hid _ := HW.out.grow hb1
  have HB1 : Hid (Below w.heap.size w w1) := bthen HBW.out hb1
  have R1 : Hid (w1.heap[w.heap.size + 1]? = some (.cells #[.int .i64 0, .int .i64 0, .int .i64 0] 43 (0, 0))) := (hb1.block _ hrW).trans R3.out
  have hr1 : w.heap.size + 1 < w1.heap.size := Nat.lt_of_lt_of_le hrW hb1.size
  have A1 : Hid _ := later3 hb1 A3.out
  clear hb1 HCa HW HBW A3 hW R3
  obtain ⟨z0, z1, z2⟩ := A1.out
  obtain ⟨t8, lv8, x8, hck⟩ := P1.out.ck
  have c1 := hck.c1
  rw [ho] at c1
  have HKt := coKept_any q HQ.out w1 P1.out.co
  rw [hkn] at HKt
  clear hck hkn ho hc
  go_wp2_with fail
  refine HKt.mono ?_
  rintro e w2 ⟨rfl, hb2⟩
  have P2 : Hid _ := P1.out.grow hb2
  have HB2 : Hid (Below w.heap.size w w2) := bthen HB1.out hb2
  have R2 : Hid (w2.heap[w.heap.size + 1]? = some (.cells #[.int .i64 0, .int .i64 0, .int .i64 0] 43 (0, 0))) := (hb2.block _ hr1).trans R1.out
  have hr2 : w.heap.size + 1 < w2.heap.size := Nat.lt_of_lt_of_le hr1 hb2.size
  have A2 : Hid _ := later3 hb2 A1.out
  clear hb2 HKt P1 HB1 R1 A1 hr1 z0 z1 z2 c1
  have HL2 : Hid (LnAt w2 g (og + j * 5) ⟨⟨mp, ms, mf, mr⟩, ld⟩) := by
    obtain ⟨g', o', e, _, hm⟩ := ownsAt_lines P2.out.co.row j hj
    cases e
    rw [Hid, HLL.out]
    exact hm
  obtain ⟨l0, l1, l2, l3, l4⟩ := HL2.out
  simp only at l0 l1 l2 l3 l4
  obtain ⟨z0, z1, z2⟩ := A2.out
  have g0 := cell_regrown P2.out.co.c0
  have g1 := cell_regrown l0
  have g2 := cell_regrown l1
  have g3 := cell_regrown l2
  have g4 := cell_regrown l3
  have g5 := cell_regrown z0
  have g6 := cell_regrown z1
  have g7 := cell_regrown z2
  clear l0 l1 l2 l3 l4 z0 z1 z2
  go_wp2_with fail
  refine Loose.wp_region_drift_alloc 10 [] 11 (.cells #[.int .i64 0, .int .i64 0, .int .i64 0] 43) _ (by kernel_rfl) (by kernel_rfl) (by intro i o hi; cases hi) rfl rfl rfl (by intro a w; simp [go_sem]) (by intro d v c a w h; cases d <;> exact h) ?_
  simp only [List.take_succ_cons, List.take_zero, List.drop_succ_cons, List.drop_zero]
  repeat (
    refine Loose.wpGent_step (fun k hk => ?_)
    go_simp
    first
      | (refine hk _ ?_; clear hk k)
      | (apply Exists.intro
         refine ⟨fun _ => ?_, hk _ ?_⟩
         (go_at_call 38; exact Loose.calls (HAn _))
         clear hk k))
  refine Loose.wpGent_nil ?_
  intro bl w3 hb3 hbl hX
  obtain ⟨⟨cb0, cb1, cb2⟩, fb⟩ := row3 hX
  have hxl : bl < w3.heap.size := (Array.getElem?_eq_some_iff.1 hX).1
  obtain ⟨W4, hW4⟩ : ∃ W4, W4 = ((w3.setCell ⟨bl, 0, none⟩ (.int .i64 ra)).setCell ⟨bl, 1, none⟩ (.int .i64 rf)).setCell ⟨bl, 2, none⟩ (.int .i64 rr) := ⟨_, rfl⟩
  have hB4 : Below w2.heap.size w2 W4 := by rw [hW4]; exact below_set3c hb3 _ hbl _ _ _
  have B4 : Hid (W4.cell? ⟨bl, 0, none⟩ = some (.int .i64 ra) ∧ W4.cell? ⟨bl, 1, none⟩ = some (.int .i64 rf) ∧ W4.cell? ⟨bl, 2, none⟩ = some (.int .i64 rr)) := by
    rw [Hid, hW4]; simp [go_sem, cb0, cb1, cb2]
  have P4 : Hid _ := P2.out.grow hB4
  have HB4 : Hid (Below w.heap.size w W4) := bthen HB2.out hB4
  have R4 : Hid (W4.heap[w.heap.size + 1]? = some (.cells #[.int .i64 0, .int .i64 0, .int .i64 0] 43 (0, 0))) := (hB4.block _ hr2).trans R2.out
  have hr4 : w.heap.size + 1 < W4.heap.size := Nat.lt_of_lt_of_le hr2 hB4.size
  have A4 : Hid _ := later3 hB4 A2.out
  have L4 : Hid (LnAt W4 g (og + j * 5) ⟨⟨mp, ms, mf, mr⟩, ld⟩) := HL2.out.below hB4 HL2.out.lb
  clear hb3 hbl hX hB4 P2 HB2 R2 A2 HL2 hr2 HAn g0 g1 g2 g3 g4 g5 g6 g7
  go_upto_region 9 with fail
  rw [← hW4]
  clear hW4 cb0 cb1 cb2 fb hxl
  obtain ⟨y0, y1, y2⟩ := B4.out
  obtain ⟨z0, z1, z2⟩ := A4.out
  have c0 := P4.out.co.c0
  have l4 := L4.out.2.2.2.2
  simp only at l4
  subst hld
  go_upto_region 11 with fail
  clear y0 y1 y2 z0 z1 z2 c0 l4
  obtain ⟨t8, lv8, x8, hck⟩ := P4.out.ck
  rw [HOF.out] at hck
  have HF : Hid _ := hck.begun q k u
  have d1 := hck.c1
  have d2 := hck.c2
  have d3 := hck.c3
  have d4 := hck.c4
  have fb := hck.fb
  simp only [Pg.Wk.off] at d1 d2 d3 d4
  obtain ⟨z0, z1, z2⟩ := A4.out
  have hlz := World.block_lt_of_cell? _ _ z0
  simp only at hlz
  clear hck
  go_wp2_with fail
  go_region
  have HA := cAgain_on (root := root) _ HF.out.1.drew
  go_wp2_with fail
  refine HA.mono ?_
  rintro e w9 ⟨rfl, hk9, hc9⟩
  have HC9 : Hid (Ch8 b 1 (fun j => j = b) w w9) := (Ch8.of_below HB4.out hl).trans (HF.out.2.drew.trans hc9 (fun _ _ h => h)) (fun _ _ h => h)
  have R9 := ((HF.out.2.drew.trans hc9 (fun _ _ h => h)).but.block _ hr4 hrb).trans R4.out
  obtain ⟨⟨x0, x1, x2⟩, xf⟩ := row3 R9
  have HFin : Hid _ := fin3 hrb (Nat.le_succ _) ⟨hk9, HC9.out⟩ (.int .i64 0) (.int .i64 0) (.int .i64 0)
  clear hk9 hc9 HA z0 z1 z2 d1 d2 d3 d4 fb R9
  go_wp2_with fail
  refine bodyPost_ret (v := .tuple #[.agg #[.int .i64 0, .int .i64 0, .int .i64 0], .bool false, .int .i64 0]) ?_ rfl ⟨rfl, HX.out.stepK HFin.out.1 HOK.out HFin.out.2 (fun k hk e => HX.out.co.nb (e ▸ hk)), HFin.out.2.but⟩
  simp [results, Try.results9, go_sem, x0, x1, x2]

set_option maxHeartbeats 1000000 in
theorem cdBegin_hit (q k : Int) (u : Bool) (hc : Pg.checkAccess q k = 0) (ho : C.K.on = false) {j : Nat} (hn : Pg.kFnd C.L q = some j) (hwt : (Pg.kAt C.L q).wants k u = false) (w : World) (h : CdAt w b vb C) :
    Calls Try.prog 9 #[.pointer (some ⟨b, 0, none⟩), .int .i64 root, .agg #[.int .i64 q, .int .i64 k, .bool u]] w fun e w' => e = .returned ((Pg.kAt C.L q).ans q k u).val ∧ Below w.heap.size w w' := by
  obtain ⟨W, hW⟩ : ∃ W, W = (w.alloc (.cells #[.int .i64 q, .int .i64 k, .bool u] 34)).alloc (.cells #[.int .i64 0, .int .i64 0, .int .i64 0] 43) := ⟨_, rfl⟩
  have hBW : Below w.heap.size w W := by rw [hW]; exact balloc (balloc (brefl w) _) _
  have A3 : Hid (W.cell? ⟨w.heap.size, 0, none⟩ = some (.int .i64 q) ∧ W.cell? ⟨w.heap.size, 1, none⟩ = some (.int .i64 k) ∧ W.cell? ⟨w.heap.size, 2, none⟩ = some (.bool u)) := by rw [Hid, hW]; simp [go_sem]
  have R3 : Hid (W.heap[w.heap.size + 1]? = some (.cells #[.int .i64 0, .int .i64 0, .int .i64 0] 43 (0, 0))) := by
    rw [Hid, hW]
    exact (by simp : (w.alloc (.cells #[.int .i64 q, .int .i64 k, .bool u] 34)).heap.size = w.heap.size + 1) ▸ heap_alloc_new _ _
  have hl := h.lb
  have HW : Hid _ := h.grow hBW
  have HBW : Hid _ := hBW
  have HCa := accessFault_any q k u W
  have hne : b ≠ w.heap.size := by omega
  have mne : w.heap.size ≠ b := by omega
  have hrb : ¬ w.heap.size + 1 = b := by omega
  have hrW : w.heap.size + 1 < W.heap.size := by rw [hW]; simp
  have HX : Hid _ := h
  have HOF : Hid _ := h.ok.idle ho
  have HOK : Hid _ := Pg.Wk.start_ok (root := root) (k := k) (u := u) (Pg.access_page hc)
  have HQ : Hid _ := Pg.access_fits hc
  rw [hc] at HCa
  have hkn : Pg.kFndN C.L q = (j : Int) := by simp only [Pg.kFndN, hn]
  have ekA : Pg.kAt C.L q = C.L.getD j .zz := by simp only [Pg.kAt, hn]
  obtain ⟨hj, _, _⟩ := Pg.kFnd_some hn
  have hlen := h.co.kept.le
  have i0 : (0 : Int) ≤ (j : Int) := by omega
  have i1 : (j : Int) < (C.L.length : Int) := by omega
  have i2 : ¬ (j : Int) < 0 := by omega
  obtain ⟨ad, cap, rfl⟩ := h.co.row.form
  obtain ⟨g, og, rfl, _, _⟩ := ownsAt_lines h.co.row j hj
  obtain ⟨l, hLl⟩ : ∃ l, l = C.L.getD j .zz := ⟨_, rfl⟩
  rw [← hLl] at ekA
  rw [ekA] at hwt ⊢
  have HAn := fun w => answerOf_any l.m.p l.m.s l.m.f l.m.r q k u w
  obtain ⟨⟨mp, ms, mf, mr⟩, ld⟩ := l
  simp only at HAn
  have HLL : Hid _ := hLl
  clear ekA hLl
  simp only [Pg.Ln.ans, Pg.Tl.val]
  have hcase : (Pg.aEnd mr k u != 0) = true ∨ ((Pg.aEnd mr k u != 0) = false ∧ (k != 1) = true) ∨ ((Pg.aEnd mr k u != 0) = false ∧ (k != 1) = false ∧ ld = true) := by
    simp only [Pg.Ln.wants] at hwt
    unfold Pg.aEnd
    cases hm : Pg.may mr k u
    · exact .inl (by simp)
    · rw [hm] at hwt
      by_cases hk : k = 1
      · subst hk
        cases ld
        · simp at hwt
        · exact .inr (.inr ⟨by simp, by simp, rfl⟩)
      · exact .inr (.inl ⟨by simp, by simp [hk]⟩)
  clear hwt
  generalize Pg.aEnd mr k u = ra at *
  generalize Pg.aFrame mp mf mr q k u = rf at *
  generalize Pg.aRights mr k u = rr at *
  clear h hBW
  go_enter Try.func9, Try.ntmps9
  go_wp2_with fail
  rw [← hW]
  refine HCa.mono ?_
  rintro e w1 ⟨rfl, hb1⟩
  have P1 : Hid _ := HW.out.grow hb1
  have HB1 : Hid (Below w.heap.size w w1) := bthen HBW.out hb1
  have R1 : Hid (w1.heap[w.heap.size + 1]? = some (.cells #[.int .i64 0, .int .i64 0, .int .i64 0] 43 (0, 0))) := (hb1.block _ hrW).trans R3.out
  have hr1 : w.heap.size + 1 < w1.heap.size := Nat.lt_of_lt_of_le hrW hb1.size
  have A1 : Hid _ := later3 hb1 A3.out
  clear hb1 HCa HW HBW A3 hW R3
  obtain ⟨z0, z1, z2⟩ := A1.out
  obtain ⟨t8, lv8, x8, hck⟩ := P1.out.ck
  have c1 := hck.c1
  rw [ho] at c1
  have HKt := coKept_any q HQ.out w1 P1.out.co
  rw [hkn] at HKt
  clear hck hkn ho hc
  go_wp2_with fail
  refine HKt.mono ?_
  rintro e w2 ⟨rfl, hb2⟩
  have P2 : Hid _ := P1.out.grow hb2
  have HB2 : Hid (Below w.heap.size w w2) := bthen HB1.out hb2
  have R2 : Hid (w2.heap[w.heap.size + 1]? = some (.cells #[.int .i64 0, .int .i64 0, .int .i64 0] 43 (0, 0))) := (hb2.block _ hr1).trans R1.out
  have hr2 : w.heap.size + 1 < w2.heap.size := Nat.lt_of_lt_of_le hr1 hb2.size
  have A2 : Hid _ := later3 hb2 A1.out
  clear hb2 HKt P1 HB1 R1 A1 hr1 z0 z1 z2 c1
  have HL2 : Hid (LnAt w2 g (og + j * 5) ⟨⟨mp, ms, mf, mr⟩, ld⟩) := by
    obtain ⟨g', o', e, _, hm⟩ := ownsAt_lines P2.out.co.row j hj
    cases e
    rw [Hid, HLL.out]
    exact hm
  obtain ⟨l0, l1, l2, l3, l4⟩ := HL2.out
  simp only at l0 l1 l2 l3 l4
  obtain ⟨z0, z1, z2⟩ := A2.out
  have g0 := cell_regrown P2.out.co.c0
  have g1 := cell_regrown l0
  have g2 := cell_regrown l1
  have g3 := cell_regrown l2
  have g4 := cell_regrown l3
  have g5 := cell_regrown z0
  have g6 := cell_regrown z1
  have g7 := cell_regrown z2
  clear l0 l1 l2 l3 l4 z0 z1 z2
  go_wp2_with fail
  refine Loose.wp_region_drift_alloc 10 [] 11 (.cells #[.int .i64 0, .int .i64 0, .int .i64 0] 43) _ (by kernel_rfl) (by kernel_rfl) (by intro i o hi; cases hi) rfl rfl rfl (by intro a w; simp [go_sem]) (by intro d v c a w h; cases d <;> exact h) ?_
  simp only [List.take_succ_cons, List.take_zero, List.drop_succ_cons, List.drop_zero]
  repeat (
    refine Loose.wpGent_step (fun k hk => ?_)
    go_simp
    first
      | (refine hk _ ?_; clear hk k)
      | (apply Exists.intro
         refine ⟨fun _ => ?_, hk _ ?_⟩
         (go_at_call 38; exact Loose.calls (HAn _))
         clear hk k))
  refine Loose.wpGent_nil ?_
  intro bl w3 hb3 hbl hX
  obtain ⟨⟨cb0, cb1, cb2⟩, fb⟩ := row3 hX
  have hxl : bl < w3.heap.size := (Array.getElem?_eq_some_iff.1 hX).1
  obtain ⟨W4, hW4⟩ : ∃ W4, W4 = ((w3.setCell ⟨bl, 0, none⟩ (.int .i64 ra)).setCell ⟨bl, 1, none⟩ (.int .i64 rf)).setCell ⟨bl, 2, none⟩ (.int .i64 rr) := ⟨_, rfl⟩
  have hB4 : Below w2.heap.size w2 W4 := by rw [hW4]; exact below_set3c hb3 _ hbl _ _ _
  have B4 : Hid (W4.cell? ⟨bl, 0, none⟩ = some (.int .i64 ra) ∧ W4.cell? ⟨bl, 1, none⟩ = some (.int .i64 rf) ∧ W4.cell? ⟨bl, 2, none⟩ = some (.int .i64 rr)) := by
    rw [Hid, hW4]; simp [go_sem, cb0, cb1, cb2]
  have P4 : Hid _ := P2.out.grow hB4
  have HB4 : Hid (Below w.heap.size w W4) := bthen HB2.out hB4
  have R4 : Hid (W4.heap[w.heap.size + 1]? = some (.cells #[.int .i64 0, .int .i64 0, .int .i64 0] 43 (0, 0))) := (hB4.block _ hr2).trans R2.out
  have hr4 : w.heap.size + 1 < W4.heap.size := Nat.lt_of_lt_of_le hr2 hB4.size
  have A4 : Hid _ := later3 hB4 A2.out
  have L4 : Hid (LnAt W4 g (og + j * 5) ⟨⟨mp, ms, mf, mr⟩, ld⟩) := HL2.out.below hB4 HL2.out.lb
  clear hb3 hbl hX hB4 P2 HB2 R2 A2 HL2 hr2 HAn g0 g1 g2 g3 g4 g5 g6 g7
  go_upto_region 9 with fail
  rw [← hW4]
  clear hW4 cb0 cb1 cb2 fb hxl
  obtain ⟨y0, y1, y2⟩ := B4.out
  obtain ⟨z0, z1, z2⟩ := A4.out
  have c0 := P4.out.co.c0
  have l4 := L4.out.2.2.2.2
  simp only at l4
  obtain ⟨⟨x0, x1, x2⟩, xf⟩ := row3 R4.out
  rcases hcase with h1 | ⟨h1, h2⟩ | ⟨h1, h2, h3⟩
  · go_wp2_with fail
    refine bodyPost_ret (v := .tuple #[.agg #[.int .i64 ra, .int .i64 rf, .int .i64 rr], .bool true, .int .i64 0]) ?_ rfl ⟨rfl, below_set3c HB4.out _ (Nat.le_succ _) _ _ _⟩
    simp [results, Try.results9, go_sem, x0, x1, x2]
  · go_wp2_with fail
    refine bodyPost_ret (v := .tuple #[.agg #[.int .i64 ra, .int .i64 rf, .int .i64 rr], .bool true, .int .i64 0]) ?_ rfl ⟨rfl, below_set3c HB4.out _ (Nat.le_succ _) _ _ _⟩
    simp [results, Try.results9, go_sem, x0, x1, x2]
  · subst h3
    go_wp2_with fail
    refine bodyPost_ret (v := .tuple #[.agg #[.int .i64 ra, .int .i64 rf, .int .i64 rr], .bool true, .int .i64 0]) ?_ rfl ⟨rfl, below_set3c HB4.out _ (Nat.le_succ _) _ _ _⟩
    simp [results, Try.results9, go_sem, x0, x1, x2]

theorem cdBegin_any (q k : Int) (u : Bool) (w : World) (h : CdAt w b vb C) :
    Calls Try.prog 9 #[.pointer (some ⟨b, 0, none⟩), .int .i64 root, .agg #[.int .i64 q, .int .i64 k, .bool u]] w fun e w' => e = .returned (C.bgT q k u).val ∧ CdAt w' b vb (C.bgN root q k u) ∧ But (fun j => j = b) w w' := by
  unfold Pg.Cr.bgT Pg.Cr.bgN
  by_cases hc : Pg.checkAccess q k = 0
  · rw [if_neg (by simp [hc])]
    cases ho : C.K.on
    · rw [if_neg (by simp)]
      unfold Pg.Cr.hit
      cases hn : Pg.kFnd C.L q with
      | none =>
        rw [if_neg (by simp), if_pos ⟨hc, rfl, by simp⟩]
        exact cdBegin_none q k u hc ho hn w h
      | some j =>
        cases hwt : (Pg.kAt C.L q).wants k u
        · rw [if_pos (by simp), if_neg (by simp)]
          exact (cdBegin_hit q k u hc ho hn hwt w h).mono fun e w' ⟨he, hb⟩ => ⟨he, h.grow hb, But.of_below hb⟩
        · rw [if_neg (by simp), if_pos ⟨hc, rfl, by simp⟩]
          exact cdBegin_wants q k u hc ho hn hwt w h
    · rw [if_pos rfl, if_neg (by simp)]
      exact (cdBegin_busy q k u hc ho w h).mono fun e w' ⟨he, hb⟩ => ⟨he, h.grow hb, But.of_below hb⟩
  · rw [if_pos (by simpa using hc), if_neg (by simp [hc])]
    exact (cdBegin_bad q k u hc w h).mono fun e w' ⟨he, hb⟩ => ⟨he, h.grow hb, But.of_below hb⟩
end
end Go.Proofs.Ytbkpndgadgafiae
