import Derived.Test.YtjdiaebgidgmaafGreatBookRefE
import Derived.Test.YtjdiaebgidgmaafGreatPlainSH
import Derived.Test.YtjdiaebgidgmaafGreatSpVal
import Derived.Test.YtjdiaebgidgmaafGreatDvK
import Derived.Test.YtjdiaebgidgmaafGreatLooseT
import Derived.Deep.RegionHeld3
import Derived.Deep.DeepCutAuto
import Derived.Deep.Quiet
import Derived.Deep.AppendLies
import Derived.Test.YtjdiaebgidgmaafGreatWtI
namespace Go.Proofs.YtjdiaebgidgmaafGreat
open Go.RowKit Go.Sort
set_option linter.unusedVariables false
set_option linter.unusedSimpArgs false
set_option maxRecDepth 100000
attribute [local go_sem] Loose.gent
structure Tmd where
 vL : Value
 cb : Nat → Nat
 vb : Nat → Value
structure Tmk (w : World) (b : Nat) (D : Tmd) (T : Pg.Tms) : Prop where
 c0 : w.cell? ⟨b, 0, none⟩ = some D.vL
 c1 : w.cell? ⟨b, 1, none⟩ = some (.int .i64 (T.fl : Int))
 fz : ∀ p, w.frozen? ⟨b, p, none⟩ = false
 row : w.ownsRow 0 80 1 D.vL T.L.length (ptrs D.cb T.L.length)
 book : ∀ i, i < T.L.length → BkAt w (D.cb i) (D.vb i) (T.L.getD i [])
 nb : D.vL.ownBlock ≠ some b
 ap : ∀ i, i < T.L.length → ∀ k, bkF (D.cb i) (D.vb i) k → k ≠ b ∧ D.vL.ownBlock ≠ some k
def Tmd.F (D : Tmd) (b n : Nat) : Nat → Prop := fun k => k = b ∨ D.vL.ownBlock = some k ∨ ∃ i, i < n ∧ bkF (D.cb i) (D.vb i) k
structure TmAt (w : World) (b : Nat) (T : Pg.Tms) (F : Nat → Prop) : Prop where
 ex : ∃ D, Tmk w b D T ∧ F = D.F b T.L.length
section
variable {w w' : World} {b : Nat} {D : Tmd} {T : Pg.Tms} {F G : Nat → Prop}
theorem Tmk.lb (h : Tmk w b D T) : b < w.heap.size := World.block_lt_of_cell? _ _ h.c0
theorem Tmk.lt (h : Tmk w b D T) {k : Nat} (hk : D.F b T.L.length k) : k < w.heap.size := by
 rcases hk with rfl | hk | ⟨i, hi, hk⟩
 ·exact h.lb
 ·exact (h.row.lt k hk).2
 ·exact (h.book i hi).lt hk
theorem Tmk.keep (h : Tmk w b D T) (hb : But G w w') (hF : ∀ k, D.F b T.L.length k → ¬ G k) : Tmk w' b D T := by
 have kb := hb.block b h.lb (hF b (.inl rfl))
 have e : ∀ p, w'.cell? ⟨b, p, none⟩ = w.cell? ⟨b, p, none⟩ := fun p => World.cell?_of_block (a := ⟨b, p, none⟩) kb
 exact ⟨(e _).trans h.c0, (e _).trans h.c1, fun p => (World.frozen?_of_block (a := ⟨b, p, none⟩) kb).trans (h.fz p), ownsMaps_but h.row hb fun k hk => hF k (.inr (.inl hk)), fun i hi => (h.book i hi).keep hb fun k hk => hF k (.inr (.inr ⟨i, hi, hk⟩)), h.nb, h.ap⟩
theorem Tmk.grow (h : Tmk w b D T) (hb : Below w.heap.size w w') : Tmk w' b D T := h.keep (G := fun _ => False) (But.of_below hb) (fun _ _ => id)
theorem TmAt.lt (h : TmAt w b T F) {k : Nat} (hk : F k) : k < w.heap.size := by
 obtain ⟨D, h, rfl⟩ := h
 exact h.lt hk
theorem TmAt.keep (h : TmAt w b T F) (hb : But G w w') (hF : ∀ k, F k → ¬ G k) : TmAt w' b T F := by
 obtain ⟨D, h, rfl⟩ := h
 exact ⟨D, h.keep hb hF, rfl⟩
theorem TmAt.grow (h : TmAt w b T F) (hb : Below w.heap.size w w') : TmAt w' b T F := h.keep (G := fun _ => False) (But.of_below hb) (fun _ _ => id)
end
theorem newTimes_any (w : World) : Calls Tryz.prog 23 #[] w fun e w' => ∃ b F, e = .returned (.pointer (some ⟨b, 0, none⟩)) ∧ TmAt w' b Pg.Tms.new F ∧ Below w.heap.size w w' ∧ ∀ k, F k → w.heap.size ≤ k := by
 obtain ⟨W, hW⟩ : ∃ W, W = ((w.alloc (.cells #[.slice none 0 0] 79)).alloc (.cells #[.pointer (some ⟨w.heap.size, 0, none⟩)] 80)).alloc (.cells #[.slice (some ⟨w.heap.size + 1, 0, none⟩) 1 1, .int .i64 0] 63) := ⟨_, rfl⟩
 obtain ⟨q1, q2, q3⟩ := alloc3 w (.cells #[.slice none 0 0] 79) (.cells #[.pointer (some ⟨w.heap.size, 0, none⟩)] 80) (.cells #[.slice (some ⟨w.heap.size + 1, 0, none⟩) 1 1, .int .i64 0] 63)
 rw [← hW] at q1 q2 q3
 have hB : Below w.heap.size w W := by rw [hW]; exact zA (zA (zA (zR _) _) _) _
 have hs : W.heap.size = w.heap.size + 3 := by rw [hW]; simp
 have T : Hid (TmAt W (w.heap.size + 2) Pg.Tms.new (Tmd.F ⟨.slice (some ⟨w.heap.size + 1, 0, none⟩) 1 1, fun _ => w.heap.size, fun _ => .slice none 0 0⟩ (w.heap.size + 2) 1)) := by
  refine ⟨⟨.slice (some ⟨w.heap.size + 1, 0, none⟩) 1 1, fun _ => w.heap.size, fun _ => .slice none 0 0⟩, ⟨by simp [World.cell?, q3], by simp [World.cell?, q3, Pg.Tms.new], fun p => by simp [World.frozen?, q3], ?_, fun i hi => ?_, by simp [Value.ownBlock], fun i hi k hk => ?_⟩, rfl⟩
  ·refine ⟨by simp [Pg.Tms.new, ptrs], .inr ⟨w.heap.size + 1, 1, #[.pointer (some ⟨w.heap.size, 0, none⟩)], rfl, Nat.zero_le _, q2, Nat.le_refl _, by decide, rfl, ?_⟩⟩
   simp [Pg.Tms.new, ptrs]
  ·have e : Pg.Tms.new.L.getD i [] = [] := by
    have : i = 0 := by simp [Pg.Tms.new] at hi; omega
    subst this
    rfl
   rw [e]
   exact ⟨by simp [World.cell?, q1], fun o => by simp [World.frozen?, q1], World.ownsRow_nil _ _ _ _, by simp [Value.ownBlock], Pg.Good.nil, fun _ => rfl⟩
  ·rcases hk with hk | hk
   ·have hk : k = w.heap.size := hk
    exact ⟨by omega, by simp [Value.ownBlock]; omega⟩
   ·simp [Value.ownBlock] at hk
 have OWN : Hid (∀ k, Tmd.F ⟨.slice (some ⟨w.heap.size + 1, 0, none⟩) 1 1, fun _ => w.heap.size, fun _ => .slice none 0 0⟩ (w.heap.size + 2) 1 k → w.heap.size ≤ k) := fun k hk => by
  rcases hk with hk | hk | ⟨i, _, hk⟩
  ·omega
  ·simp [Value.ownBlock] at hk; omega
  ·rcases hk with hk | hk
   ·have hk : k = w.heap.size := hk
    omega
   ·simp [Value.ownBlock] at hk
 have HB : Hid _ := hB
 clear q1 q2 q3 hB hs
 go_enter Tryz.func23, Tryz.ntmps23
 go_wp2_with fail
 go_ret
 simp only [Nat.add_assoc, Nat.reduceAdd]
 refine ⟨_, _, rfl, ?_, ?_, OWN.out⟩
 ·exact hW ▸ T.out
 ·exact hW ▸ HB.out
theorem row_at {w : World} {base : Nat} {e : TypeId} {v : Value} {n : Nat} {cb : Nat → Nat} (h : w.ownsRow base e 1 v n (ptrs cb n)) (hn : 1 ≤ n) : ∃ g cap, v = .slice (some ⟨g, 0, none⟩) n cap ∧ g < w.heap.size ∧ ∀ j, j < n → w.cell? ⟨g, j, none⟩ = some (.pointer (some ⟨cb j, 0, none⟩)) := by
 rcases h.2 with ⟨_, h0⟩ | ⟨g, cap, cur, rfl, _, hg, hle, hcap, hsz, hcells⟩
 ·omega
 ·refine ⟨g, cap, rfl, (Array.getElem?_eq_some_iff.1 hg).1, fun j hj => ?_⟩
  have e : cur.toList[j]? = some (.pointer (some ⟨cb j, 0, none⟩)) := by
   rw [← ptrs_at cb hj, ← hcells, List.getElem?_take_of_lt (by omega)]
  rw [Array.getElem?_toList] at e
  simp [World.cell?, hg, e]
theorem tmNow_any {b : Nat} {D : Tmd} {T : Pg.Tms} (w : World) (h : Tmk w b D T) (h1 : 1 ≤ T.L.length) (hm : T.L.length ≤ 4611686018427387904) :
 Calls Tryz.prog 31 #[.pointer (some ⟨b, 0, none⟩)] w fun e w' => e = .returned (.pointer (some ⟨D.cb (T.L.length - 1), 0, none⟩)) ∧ Below w.heap.size w w' := by
 obtain ⟨g, cap, e, hg, hc⟩ := row_at h.row h1
 have c0 := h.c0
 rw [e] at c0
 generalize T.L.length = n at *
 obtain ⟨m, rfl⟩ : ∃ m, n = m + 1 := ⟨n - 1, by omega⟩
 have hx := hc m (by omega)
 rw [show m + 1 - 1 = m from rfl]
 generalize D.cb m = y at *
 have j1 : (((m + 1 : Nat) : Int) - 1) = (m : Int) := by omega
 have r1 : IntKind.i64.wrap (m : Int) = (m : Int) := wrap_i64_in (by omega) (by omega)
 have i0 : (0 : Int) ≤ (m : Int) := by omega
 have i1 : (m : Int) < ((m + 1 : Nat) : Int) := by omega
 clear h hc
 go_enter Tryz.func31, Tryz.ntmps31
 go_wp2_with fail
 go_quiet (fail)
 go_wp2_with fail
 go_ret
 exact ⟨rfl, below_drewN (zR _) _⟩
set_option maxHeartbeats 1000000 in
theorem tmWas_any {b : Nat} {D : Tmd} {T : Pg.Tms} (s : Nat) (q k : Int) (u : Bool) (hq : Pg.fits q) (a f r : Int) (w : World) (h : Tmk w b D T) (hm : T.L.length ≤ 4611686018427387904) (hw : ∃ i, s ≤ i ∧ i < T.L.length ∧ Pg.ansE (T.L.getD i []) q k u = a ∧ Pg.ansF (T.L.getD i []) q k u = f ∧ Pg.ansR (T.L.getD i []) q k u = r) :
 Calls Tryz.prog 30 #[.pointer (some ⟨b, 0, none⟩), .int .i64 (s : Int), .agg #[.int .i64 q, .int .i64 k, .bool u], .agg #[.int .i64 a, .int .i64 f, .int .i64 r]] w fun e w' => e = .returned (.bool true) ∧ Below w.heap.size w w' := by
 obtain ⟨g, cap, e, hg, hc⟩ := row_at h.row (by obtain ⟨i, _, hi, _⟩ := hw; omega)
 have HT : Hid _ := h
 have HC : Hid (∀ j, j < T.L.length → w.cell? ⟨g, j, none⟩ = some (.pointer (some ⟨D.cb j, 0, none⟩))) := hc
 have HW : Hid (∃ i, s ≤ i ∧ i < T.L.length ∧ Pg.ansE (T.L.getD i []) q k u = a ∧ Pg.ansF (T.L.getD i []) q k u = f ∧ Pg.ansR (T.L.getD i []) q k u = r) := hw
 have c0 := h.c0
 rw [e] at c0
 obtain ⟨V, hV⟩ : ∃ V, V = (w.alloc (.cells #[.int .i64 q, .int .i64 k, .bool u] 33)).alloc (.cells #[.int .i64 a, .int .i64 f, .int .i64 r] 37) := ⟨_, rfl⟩
 have hB : Below w.heap.size w V := by rw [hV]; exact zA (zA (zR _) _) _
 have x0 : V.cell? ⟨w.heap.size, 0, none⟩ = some (.int .i64 q) := by rw [hV]; simp [go_sem]
 have x1 : V.cell? ⟨w.heap.size, 1, none⟩ = some (.int .i64 k) := by rw [hV]; simp [go_sem]
 have x2 : V.cell? ⟨w.heap.size, 2, none⟩ = some (.bool u) := by rw [hV]; simp [go_sem]
 have y0 : V.cell? ⟨w.heap.size + 1, 0, none⟩ = some (.int .i64 a) := by rw [hV]; simp [go_sem]
 have y1 : V.cell? ⟨w.heap.size + 1, 1, none⟩ = some (.int .i64 f) := by rw [hV]; simp [go_sem]
 have y2 : V.cell? ⟨w.heap.size + 1, 2, none⟩ = some (.int .i64 r) := by rw [hV]; simp [go_sem]
 have HX : Hid ((V.cell? ⟨w.heap.size, 0, none⟩ = some (.int .i64 q) ∧ V.cell? ⟨w.heap.size, 1, none⟩ = some (.int .i64 k) ∧ V.cell? ⟨w.heap.size, 2, none⟩ = some (.bool u)) ∧ V.cell? ⟨w.heap.size + 1, 0, none⟩ = some (.int .i64 a) ∧ V.cell? ⟨w.heap.size + 1, 1, none⟩ = some (.int .i64 f) ∧ V.cell? ⟨w.heap.size + 1, 2, none⟩ = some (.int .i64 r)) := ⟨⟨x0, x1, x2⟩, y0, y1, y2⟩
 have C0 : Hid (V.cell? ⟨b, 0, none⟩ = some (.slice (some ⟨g, 0, none⟩) T.L.length cap)) := cell_later hB c0
 have HB : Hid _ := hB
 clear h hc hw c0 x0 x1 x2 y0 y1 y2 hB
 go_enter Tryz.func30, Tryz.ntmps30
 go_upto_region 1 with fail
 rw [← hV]
 clear hV
 go_wp2_with fail
 go_loopw [9] (fun i wr => ∃ j : Nat, j ≤ T.L.length ∧ i = .int .i64 j ∧ Hid (Below V.heap.size V wr) ∧ Hid (∃ i, j ≤ i ∧ i < T.L.length ∧ Pg.ansE (T.L.getD i []) q k u = a ∧ Pg.ansF (T.L.getD i []) q k u = f ∧ Pg.ansR (T.L.getD i []) q k u = r)) (fun i _ => T.L.length - (intOf i).toNat)
 case atStart => exact ⟨s, by obtain ⟨i, h1, h2, _⟩ := HW.out; omega, rfl, zR _, HW.out⟩
 case round =>
  obtain ⟨j, hj, rfl, HR, HE⟩ := hrel
  have hlt : j < T.L.length := by obtain ⟨i, h1, h2, _⟩ := HE.out; omega
  have i0 : (0 : Int) ≤ (j : Int) := by omega
  have i1 : (j : Int) < (T.L.length : Int) := by omega
  have VB : Below w.heap.size w wr := zT HB.out HR.out
  have c0 := cell_later HR.out C0.out
  have cj := cell_later VB (HC.out j hlt)
  obtain ⟨⟨x0, x1, x2⟩, y0, y1, y2⟩ := HX.out
  have x0 := cell_later HR.out x0
  have x1 := cell_later HR.out x1
  have x2 := cell_later HR.out x2
  have y0 := cell_later HR.out y0
  have y1 := cell_later HR.out y1
  have y2 := cell_later HR.out y2
  have hb := (HT.out.grow VB).book j hlt
  have HA := fun d os => refAnswer_any q k u hq _ (hb.grow (below_regrown wr d os))
  have NEXT : Hid (¬ (Pg.ansE (T.L.getD j []) q k u = a ∧ Pg.ansF (T.L.getD j []) q k u = f ∧ Pg.ansR (T.L.getD j []) q k u = r) → ∃ i, j + 1 ≤ i ∧ i < T.L.length ∧ Pg.ansE (T.L.getD i []) q k u = a ∧ Pg.ansF (T.L.getD i []) q k u = f ∧ Pg.ansR (T.L.getD i []) q k u = r) := fun hne => by
   obtain ⟨i, h1, h2, h3⟩ := HE.out
   by_cases e : i = j
   ·subst e
    exact absurd h3 hne
   ·exact ⟨i, by omega, h2, h3⟩
  generalize Pg.ansE (T.L.getD j []) q k u = z0 at *
  generalize Pg.ansF (T.L.getD j []) q k u = z1 at *
  generalize Pg.ansR (T.L.getD j []) q k u = z2 at *
  clear hb HE
  have g0 := cell_regrown x0
  have g1 := cell_regrown x1
  have g2 := cell_regrown x2
  have h0 := cell_regrown y0
  have h1 := cell_regrown y1
  have h2 := cell_regrown y2
  have g3 := cell_regrown c0
  have g4 := cell_regrown cj
  by_cases hz : z0 = a ∧ z1 = f ∧ z2 = r
  ·obtain ⟨rfl, rfl, rfl⟩ := hz
   go_wp2_with fail
   refine Loose.wp_region_late 11 (by kernel_rfl) (by kernel_rfl) ?_
   simp only [List.take_succ_cons, List.take_zero, List.drop_succ_cons, List.drop_zero]
   repeat (
    refine Loose.zS (fun k hk => ?_)
    go_simp
    first
     | (refine hk _ ?_; clear hk k)
     | (apply Exists.intro
        refine ⟨fun _ => ?_, hk _ ?_⟩
        (go_at_call 32; exact Loose.calls (HA _ _))
        clear hk k))
   refine Loose.wpGent_nil ?_
   intro w3 hb3
   have VB3 : Hid (Below w.heap.size w w3) := zT VB hb3
   have HR3 : Hid (Below V.heap.size V w3) := zT HR.out hb3
   clear hb3 g0 g1 g2 g3 g4 h0 h1 h2 HA
   go_wp2_with fail
   go_ret
   exact ⟨rfl, VB3.out⟩
  ·have hz3 : (z0 == a) = false ∨ ((z0 == a) = true ∧ (z1 == f) = false) ∨ ((z0 == a) = true ∧ (z1 == f) = true ∧ (z2 == r) = false) := by
    by_cases a1 : z0 = a
    ·by_cases a2 : z1 = f
     ·refine .inr (.inr ⟨by simpa using a1, by simpa using a2, ?_⟩)
      simpa using fun e => hz ⟨a1, a2, e⟩
     ·exact .inr (.inl ⟨by simpa using a1, by simpa using a2⟩)
    ·exact .inl (by simpa using a1)
   have NX : Hid _ := NEXT.out hz
   clear hz NEXT
   rcases hz3 with e1 | ⟨e1, e2⟩ | ⟨e1, e2, e3⟩
   ·go_wp2_with fail
    refine Loose.wp_region_late 11 (by kernel_rfl) (by kernel_rfl) ?_
    simp only [List.take_succ_cons, List.take_zero, List.drop_succ_cons, List.drop_zero]
    repeat (
     refine Loose.zS (fun k hk => ?_)
     go_simp
     first
      | (refine hk _ ?_; clear hk k)
      | (apply Exists.intro
         refine ⟨fun _ => ?_, hk _ ?_⟩
         (go_at_call 32; exact Loose.calls (HA _ _))
         clear hk k))
    refine Loose.wpGent_nil ?_
    intro w3 hb3
    have VB3 : Hid (Below w.heap.size w w3) := zT VB hb3
    have HR3 : Hid (Below V.heap.size V w3) := zT HR.out hb3
    clear hb3 g0 g1 g2 g3 g4 h0 h1 h2 HA
    go_wp2_with fail
    go_roundw
    case rel => exact ⟨j + 1, by omega, by go_num, HR3.out, NX.out⟩
    case measure => simp [intOf]; omega
   ·go_wp2_with fail
    refine Loose.wp_region_late 11 (by kernel_rfl) (by kernel_rfl) ?_
    simp only [List.take_succ_cons, List.take_zero, List.drop_succ_cons, List.drop_zero]
    repeat (
     refine Loose.zS (fun k hk => ?_)
     go_simp
     first
      | (refine hk _ ?_; clear hk k)
      | (apply Exists.intro
         refine ⟨fun _ => ?_, hk _ ?_⟩
         (go_at_call 32; exact Loose.calls (HA _ _))
         clear hk k))
    refine Loose.wpGent_nil ?_
    intro w3 hb3
    have VB3 : Hid (Below w.heap.size w w3) := zT VB hb3
    have HR3 : Hid (Below V.heap.size V w3) := zT HR.out hb3
    clear hb3 g0 g1 g2 g3 g4 h0 h1 h2 HA
    go_wp2_with fail
    go_roundw
    case rel => exact ⟨j + 1, by omega, by go_num, HR3.out, NX.out⟩
    case measure => simp [intOf]; omega
   ·go_wp2_with fail
    refine Loose.wp_region_late 11 (by kernel_rfl) (by kernel_rfl) ?_
    simp only [List.take_succ_cons, List.take_zero, List.drop_succ_cons, List.drop_zero]
    repeat (
     refine Loose.zS (fun k hk => ?_)
     go_simp
     first
      | (refine hk _ ?_; clear hk k)
      | (apply Exists.intro
         refine ⟨fun _ => ?_, hk _ ?_⟩
         (go_at_call 32; exact Loose.calls (HA _ _))
         clear hk k))
    refine Loose.wpGent_nil ?_
    intro w3 hb3
    have VB3 : Hid (Below w.heap.size w w3) := zT VB hb3
    have HR3 : Hid (Below V.heap.size V w3) := zT HR.out hb3
    clear hb3 g0 g1 g2 g3 g4 h0 h1 h2 HA
    go_wp2_with fail
    go_roundw
    case rel => exact ⟨j + 1, by omega, by go_num, HR3.out, NX.out⟩
    case measure => simp [intOf]; omega
theorem infoPagesP : (Tryz.prog.info? 80).map (fun i => (i.zero, i.size, i.bytes)) = some (some (.pointer none), 1, 8) := by kernel_rfl
theorem Tmk.floored {w : World} {b : Nat} {D : Tmd} {T : Pg.Tms} (h : Tmk w b D T) (m : Nat) : Tmk (w.setCell ⟨b, 1, none⟩ (.int .i64 (m : Int))) b D ⟨T.L, m⟩ := by
 have hb : But (fun k => k = b) w (w.setCell ⟨b, 1, none⟩ (.int .i64 (m : Int))) := (But.refl (fun k => k = b) w).setCell (a := ⟨b, 1, none⟩) (.inr rfl) _
 refine ⟨(World.cell?_setCell_other _ _ _ _ (fun h => by have := congrArg Addr.off h; simp at this)).trans h.c0, World.cell?_setCell_same _ _ _ h.c1, fun p => (World.frozen?_setCell _ _ _ _).trans (h.fz p), ownsMaps_but h.row hb fun k hk e => h.nb (by rw [hk, e]), fun i hi => (h.book i hi).keep hb fun k hk e => (h.ap i hi k hk).1 e, h.nb, h.ap⟩
theorem Tmk.push {w V w6 : World} {b g cap nb n0 : Nat} {D : Tmd} {T : Pg.Tms} {M : List Pg.Mp} {vn : Value} (h : Tmk w b D T) (hV : Below w.heap.size w V) (hg6 : V.grownBy w6 D.vL.ownBlock) (hg : D.vL.ownBlock = some g ∨ g = V.heap.size) (hgl : g < w6.heap.size)
 (ho : w6.ownsRow 0 80 1 (.slice (some ⟨g, 0, none⟩) (T.L.length + 1) cap) (T.L.length + 1) (ptrs D.cb T.L.length ++ [.pointer (some ⟨nb, 0, none⟩)])) (hbk : BkAt w nb vn M) (hn : ∀ k, D.F b T.L.length k → k < n0) (hnb : ∀ k, bkF nb vn k → n0 ≤ k) :
 ∃ D', Tmk (w6.setCell ⟨b, 0, none⟩ (.slice (some ⟨g, 0, none⟩) (T.L.length + 1) cap)) b D' ⟨T.L ++ [M], T.fl⟩ ∧ But (D.F b T.L.length) w (w6.setCell ⟨b, 0, none⟩ (.slice (some ⟨g, 0, none⟩) (T.L.length + 1) cap)) ∧ ∀ k, D'.F b (T.L.length + 1) k → D.F b T.L.length k ∨ bkF nb vn k ∨ w.heap.size ≤ k := by
 have hb6 : But (fun k => D.vL.ownBlock = some k) w w6 := (But.of_below hV).grown hg6 fun k hk => .inr hk
 have hb7 : But (fun k => D.vL.ownBlock = some k ∨ k = b) w (w6.setCell ⟨b, 0, none⟩ (.slice (some ⟨g, 0, none⟩) (T.L.length + 1) cap)) := (hb6.mono fun _ _ e => .inl e).setCell (a := ⟨b, 0, none⟩) (.inr (.inr rfl)) _
 have nbb : ¬ D.vL.ownBlock = some b := h.nb
 have kb := hb6.block b h.lb nbb
 have e0 : ∀ p, w6.cell? ⟨b, p, none⟩ = w.cell? ⟨b, p, none⟩ := fun p => World.cell?_of_block (a := ⟨b, p, none⟩) kb
 have hlt : ∀ i, i < T.L.length → ∀ k, bkF (D.cb i) (D.vb i) k → k < w.heap.size := fun i hi k hk => (h.book i hi).lt hk
 have gnb : g ≠ b := fun e => hg.elim (fun hg => h.nb (by rw [hg, e])) (fun hg => by have := h.lb; have := hV.size; omega)
 have gold : ∀ i, i < T.L.length → ∀ k, bkF (D.cb i) (D.vb i) k → g ≠ k := fun i hi k hk e => hg.elim (fun hg => (h.ap i hi k hk).2 (by rw [hg, e])) (fun hg => by have := hlt i hi k hk; have := hV.size; omega)
 have gnew : ∀ k, bkF nb vn k → g ≠ k := fun k hk e => hg.elim (fun hg => by have := hn g (.inr (.inl hg)); have := hnb k hk; omega) (fun hg => by have := hbk.lt hk; have := hV.size; omega)
 have bw : b < n0 := hn b (.inl rfl)
 refine ⟨⟨.slice (some ⟨g, 0, none⟩) (T.L.length + 1) cap, fun i => if i = T.L.length then nb else D.cb i, fun i => if i = T.L.length then vn else D.vb i⟩, ⟨World.cell?_setCell_same _ _ _ ((e0 0).trans h.c0), (World.cell?_setCell_other _ _ _ _ (fun h => by have := congrArg Addr.off h; simp at this)).trans ((e0 1).trans h.c1), fun p => (World.frozen?_setCell _ _ _ _).trans ((World.frozen?_of_block (a := ⟨b, p, none⟩) kb).trans (h.fz p)), ?_, fun i hi => ?_, ?_, fun i hi k hk => ?_⟩, hb7.mono fun i hi e => e.elim (fun e => .inr (.inl e)) (fun e => .inl e), fun k hk => ?_⟩
 ·have e : ptrs (fun i => if i = T.L.length then nb else D.cb i) (T.L ++ [M]).length = ptrs D.cb T.L.length ++ [.pointer (some ⟨nb, 0, none⟩)] := by
   rw [List.length_append, List.length_singleton, ptrs_push, if_pos rfl, ptrs_same (cb' := D.cb) fun j hj => if_neg (by omega)]
  show World.ownsRow _ _ _ _ (.slice (some ⟨g, 0, none⟩) (T.L.length + 1) cap) (T.L ++ [M]).length (ptrs (fun i => if i = T.L.length then nb else D.cb i) (T.L ++ [M]).length)
  rw [e, List.length_append, List.length_singleton]
  exact ownsMaps_but ho ((But.refl (fun k => k = b) w6).setCell (a := ⟨b, 0, none⟩) (.inr rfl) _) fun k hk e => gnb (by simp [Value.ownBlock] at hk; omega)
 ·have hi : i < T.L.length + 1 := by simpa using hi
  by_cases e : i = T.L.length
  ·subst e
   have : (T.L ++ [M]).getD T.L.length [] = M := by simp [List.getD]
   simp only [if_true, this]
   exact hbk.keep hb7 fun k hk e => e.elim (fun e => by have := hn k (.inr (.inl e)); have := hnb k hk; omega) (fun e => by have := hnb k hk; omega)
  ·have hi : i < T.L.length := by omega
   have : (T.L ++ [M]).getD i [] = T.L.getD i [] := by simp [List.getD, List.getElem?_append_left hi]
   simp only [if_neg e, this]
   exact (h.book i hi).keep hb7 fun k hk e => e.elim (fun e => (h.ap i hi k hk).2 e) (fun e => (h.ap i hi k hk).1 e)
 ·simp only [Value.ownBlock]
  intro e
  injection e with e
  exact gnb e
 ·have hi : i < T.L.length + 1 := by simpa using hi
  have key : (bkF nb vn k) ∨ ∃ i, i < T.L.length ∧ bkF (D.cb i) (D.vb i) k := by
   by_cases e : i = T.L.length
   ·simp only [if_pos e] at hk
    exact .inl hk
   ·simp only [if_neg e] at hk
    exact .inr ⟨i, by omega, hk⟩
  have hne : k ≠ b := key.elim (fun e ek => by have := hnb k e; omega) (fun ⟨i, hi, e⟩ => (h.ap i hi k e).1)
  refine ⟨hne, ?_⟩
  simp only [Value.ownBlock]
  intro e
  injection e with e
  exact key.elim (fun e' => gnew k e' e) (fun ⟨i, hi, e'⟩ => gold i hi k e' e)
 ·rcases hk with hk | hk | ⟨i, hi, hk⟩
  ·exact .inl (.inl hk)
  ·simp [Value.ownBlock] at hk
   rcases hg with hg | hg
   ·exact .inl (.inr (.inl (by rw [hg, hk])))
   ·exact .inr (.inr (by have := hV.size; omega))
  ·by_cases e : i = T.L.length
   ·simp only [if_pos e] at hk
    exact .inr (.inl hk)
   ·simp only [if_neg e] at hk
    exact .inl (.inr (.inr ⟨i, by omega, hk⟩))
def sxCs (x : Pg.Sx) : Array Value := #[.int .i64 x.kind, .int .i64 x.core, .int .i64 x.m.p, .int .i64 x.m.s, .int .i64 x.m.f, .int .i64 x.m.r, .int .i64 x.q, .int .i64 x.k, .bool x.u]
def evCs (e : Pg.Ev) : Array Value := #[.int .i64 e.c, .bool e.ended, .int .i64 e.a, .int .i64 e.f, .int .i64 e.r, .bool e.back]
structure Lay2 (w : World) (n : Nat) (x : Pg.Sx) (e : Pg.Ev) : Prop where
 sx : w.heap[n]? = some (.cells (sxCs x) 35 (0, 0))
 ev : w.heap[n + 1]? = some (.cells (evCs e) 39 (0, 0))
theorem Lay2.but {w w' : World} {n : Nat} {x : Pg.Sx} {e : Pg.Ev} {G : Nat → Prop} (h : Lay2 w n x e) (hb : But G w w') (h0 : ¬ G n) (h1 : ¬ G (n + 1)) : Lay2 w' n x e :=
 ⟨(hb.block n (Array.getElem?_eq_some_iff.1 h.sx).1 h0).trans h.sx, (hb.block (n + 1) (Array.getElem?_eq_some_iff.1 h.ev).1 h1).trans h.ev⟩
theorem Lay2.cells {w : World} {n : Nat} {x : Pg.Sx} {e : Pg.Ev} (h : Lay2 w n x e) :
 (w.cell? ⟨n, 0, none⟩ = some (.int .i64 x.kind) ∧ w.cell? ⟨n, 2, none⟩ = some (.int .i64 x.m.p) ∧ w.cell? ⟨n, 3, none⟩ = some (.int .i64 x.m.s) ∧ w.cell? ⟨n, 4, none⟩ = some (.int .i64 x.m.f) ∧ w.cell? ⟨n, 5, none⟩ = some (.int .i64 x.m.r)) ∧ w.cell? ⟨n + 1, 0, none⟩ = some (.int .i64 e.c) ∧ w.cell? ⟨n + 1, 5, none⟩ = some (.bool e.back) := by
 have h1 := h.sx
 have h2 := h.ev
 unfold sxCs at h1
 unfold evCs at h2
 exact ⟨by simp [World.cell?, h1], by simp [World.cell?, h2]⟩
def TmDone (w : World) (b : Nat) (F : Nat → Prop) (T' : Pg.Tms) (w' : World) : Prop := ∃ F', TmAt w' b T' F' ∧ But F w w' ∧ ∀ k, F' k → F k ∨ w.heap.size ≤ k
set_option maxHeartbeats 4000000 in
theorem tmChange_no {b : Nat} {T : Pg.Tms} {F : Nat → Prop} (x : Pg.Sx) (e : Pg.Ev) (hn : ¬ (e.c = 0 ∧ 1 ≤ x.kind ∧ x.kind ≤ 3)) (w : World) (h : TmAt w b T F) (h1 : 1 ≤ T.L.length) (hm : T.L.length ≤ 4611686018427387904) :
 Calls Tryz.prog 26 #[.pointer (some ⟨b, 0, none⟩), x.val, e.val] w fun r w' => r = .returned (.tuple #[]) ∧ TmDone w b F (T.next x e) w' := by
 obtain ⟨D, h, rfl⟩ := h
 obtain ⟨W, hW⟩ : ∃ W, W = (w.alloc (.cells (sxCs x) 35)).alloc (.cells (evCs e) 39) := ⟨_, rfl⟩
 have hB : Below w.heap.size w W := by rw [hW]; exact zA (zA (zR _) _) _
 have L0 : Lay2 W w.heap.size x e := by
  refine ⟨?_, ?_⟩
  ·rw [hW, Below.heap_alloc _ _ _ (by simp)]
   exact heap_alloc_new _ _
  ·rw [hW]
   exact (by simp : (w.alloc (.cells (sxCs x) 35)).heap.size = w.heap.size + 1) ▸ heap_alloc_new _ _
 have TW := h.grow hB
 obtain ⟨g, cap, ev, hg, _⟩ := row_at TW.row h1
 have c0 := TW.c0
 rw [ev] at c0
 have c1 := TW.c1
 have cz := TW.fz
 have eT : T.next x e = ⟨T.L, if e.back = true then T.L.length - 1 else T.fl⟩ := by
  unfold Pg.Tms.next Pg.Tms.more
  rw [if_neg hn]
 have A0 : Hid (e.back = false → TmDone w b (D.F b T.L.length) (T.next x e) W) := fun hk => by
  rw [eT, hk]
  exact ⟨_, ⟨D, TW, rfl⟩, But.of_below hB, fun _ => .inl⟩
 have A1 : Hid (e.back = true → TmDone w b (D.F b T.L.length) (T.next x e) (W.setCell ⟨b, 1, none⟩ (.int .i64 ((T.L.length - 1 : Nat) : Int)))) := fun hk => by
  rw [eT, hk]
  exact ⟨_, ⟨D, TW.floored _, rfl⟩, (But.of_below hB).setCell (a := ⟨b, 1, none⟩) (.inr (.inl rfl)) _, fun _ => .inl⟩
 obtain ⟨⟨x0, x2, x3, x4, x5⟩, e0, e5⟩ := L0.cells
 have hbl := h.lb
 have nb1 : w.heap.size ≠ b := by omega
 have nb2 : w.heap.size + 1 ≠ b := by omega
 clear h TW L0 ev eT hB
 generalize hTn : T.next x e = T' at *
 generalize T.L.length = n at *
 obtain ⟨m, rfl⟩ : ∃ m, n = m + 1 := ⟨n - 1, by omega⟩
 rw [show m + 1 - 1 = m from rfl] at A1
 have j1 : (((m + 1 : Nat) : Int) - 1) = (m : Int) := by omega
 have r1 : IntKind.i64.wrap (m : Int) = (m : Int) := wrap_i64_in (by omega) (by omega)
 clear hTn
 obtain ⟨kd, co, ⟨p, s, f, r⟩, q, k, u⟩ := x
 obtain ⟨ec, en, ea, ef, er, eb⟩ := e
 simp only [Pg.Sx.val, Pg.Ev.val, sxCs, evCs] at hW x0 x2 x3 x4 x5 e0 e5 hn A0 A1 ⊢
 have hcase : (ec == 0) = false ∨ (ec = 0 ∧ ¬ (1 : Int) ≤ kd) ∨ (ec = 0 ∧ (1 : Int) ≤ kd ∧ ¬ kd ≤ 3) := by
  by_cases a1 : ec = 0
  ·by_cases a2 : (1 : Int) ≤ kd
   ·exact .inr (.inr ⟨a1, a2, fun a3 => hn ⟨a1, a2, a3⟩⟩)
   ·exact .inr (.inl ⟨a1, a2⟩)
  ·exact .inl (by simpa using a1)
 clear hn
 cases eb
 ·clear A1
  rcases hcase with hc | ⟨rfl, hk1⟩ | ⟨rfl, hk1, hk2⟩
  all_goals
   go_enter Tryz.func26, Tryz.ntmps26
   go_upto_region 1 with fail
   rw [← hW]
   clear hW
   go_wp2_with fail
   go_end0
   exact ⟨rfl, A0.out trivial⟩
 ·clear A0
  rcases hcase with hc | ⟨rfl, hk1⟩ | ⟨rfl, hk1, hk2⟩
  all_goals
   go_enter Tryz.func26, Tryz.ntmps26
   go_upto_region 1 with fail
   rw [← hW]
   clear hW
   go_wp2_with fail
   go_end0
   exact ⟨rfl, A1.out trivial⟩
set_option maxHeartbeats 4000000 in
theorem tmChange_yes {b : Nat} {T : Pg.Tms} {F : Nat → Prop} (x : Pg.Sx) (hx : Pg.fits x.m.p) (e : Pg.Ev) (hc : e.c = 0) (hk : x.kind = 1 ∨ x.kind = 2 ∨ x.kind = 3) (w : World) (h : TmAt w b T F) (h1 : 1 ≤ T.L.length) (hm : T.L.length ≤ 1000000) :
 Calls Tryz.prog 26 #[.pointer (some ⟨b, 0, none⟩), x.val, e.val] w fun r w' => r = .returned (.tuple #[]) ∧ TmDone w b F (T.next x e) w' := by
 obtain ⟨D, h, rfl⟩ := h
 obtain ⟨W, hW⟩ : ∃ W, W = (w.alloc (.cells (sxCs x) 35)).alloc (.cells (evCs e) 39) := ⟨_, rfl⟩
 have hB : Below w.heap.size w W := by rw [hW]; exact zA (zA (zR _) _) _
 have hs : W.heap.size = w.heap.size + 2 := by rw [hW]; simp
 have L0 : Lay2 W w.heap.size x e := by
  refine ⟨?_, ?_⟩
  ·rw [hW, Below.heap_alloc _ _ _ (by simp)]
   exact heap_alloc_new _ _
  ·rw [hW]
   exact (by simp : (w.alloc (.cells (sxCs x) 35)).heap.size = w.heap.size + 1) ▸ heap_alloc_new _ _
 have TW := h.grow hB
 obtain ⟨g, cap, ev, hg, hcs⟩ := row_at TW.row h1
 have c0 := TW.c0
 rw [ev] at c0
 obtain ⟨m, hmn⟩ : ∃ m, T.L.length = m + 1 := ⟨T.L.length - 1, by omega⟩
 have cm := hcs m (by omega)
 have HCP := fun w' (hb : Below W.heap.size W w') => refCopy_any w' ((TW.grow hb).book m (by omega))
 have eN : T.L.getD m [] = T.now := by unfold Pg.Tms.now; rw [hmn]; rfl
 rw [eN] at HCP
 have eT : T.next x e = ⟨T.L ++ [Pg.opL T.now x], if e.back = true then T.L.length else T.fl⟩ := by
  unfold Pg.Tms.next Pg.Tms.more
  rw [if_pos ⟨hc, by omega, by omega⟩]
  simp
 obtain ⟨⟨x0, x2, x3, x4, x5⟩, e0, e5⟩ := L0.cells
 have hbl := h.lb
 have LF : Hid (∀ k, D.F b T.L.length k → k < w.heap.size) := fun k hk => h.lt hk
 have LL : Hid _ := L0
 have HT : Hid _ := TW
 have HB : Hid _ := hB
 obtain ⟨p0, hp0, hp1, hp2, hp3⟩ := info_parts infoPagesP
 clear h TW L0 hB hcs h1
 obtain ⟨kd, co, ⟨p, s, f, r⟩, q, k, u⟩ := x
 obtain ⟨ec, en, ea, ef, er, eb⟩ := e
 simp only at hc hk hx
 subst hc
 simp only [Pg.Sx.val, Pg.Ev.val, sxCs, evCs] at hW x0 x2 x3 x4 x5 e0 e5 eT ⊢
 have i0 : (0 : Int) ≤ (m : Int) := by omega
 have i1 : (m : Int) < (T.L.length : Int) := by omega
 have r1 : IntKind.i64.wrap ((T.L.length : Int) - 1) = (m : Int) := (wrap_i64_in (by omega) (by omega)).trans (by omega)
 have HMN : Hid (T.L.length = m + 1) := hmn
 have HM : Hid (T.L.length ≤ 1000000) := hm
 clear hmn hm eN
 rcases hk with rfl | rfl | rfl
 ·have OP : Hid (∀ w' nb vn, BkAt w' nb vn T.now → Calls Tryz.prog 57 #[.pointer (some ⟨nb, 0, none⟩), .agg #[.int .i64 p, .int .i64 s, .int .i64 f, .int .i64 r]] w' fun z w'' => (∃ v, z = .returned v) ∧ ∃ vb', BkAt w'' nb vb' (Pg.addL T.now ⟨p, s, f, r⟩) ∧ But (bkF nb vn) w' w'' ∧ ∀ k, bkF nb vb' k → bkF nb vn k ∨ w'.heap.size ≤ k) := fun w' nb vn hb => by
   refine (refAdd_any ⟨p, s, f, r⟩ hx w' hb).mono ?_
   rintro z w'' ⟨a, b⟩
   exact ⟨⟨_, a⟩, b⟩
  rw [show Pg.opL T.now ⟨1, co, ⟨p, s, f, r⟩, q, k, u⟩ = Pg.addL T.now ⟨p, s, f, r⟩ from by unfold Pg.opL; simp] at eT
  generalize Pg.addL T.now ⟨p, s, f, r⟩ = M at *
  go_enter Tryz.func26, Tryz.ntmps26
  go_upto_region 1 with fail
  rw [← hW]
  clear hW
  go_upto_region 2 with fail
  go_region_held3 (fun w' => w'.cell? ⟨b, 0, none⟩ = some (.slice (some ⟨g, 0, none⟩) T.L.length cap) ∧ w'.cell? ⟨g, m, none⟩ = some (.pointer (some ⟨D.cb m, 0, none⟩))) (go_keep) (first | (go_at_call 56; refine (HCP _ (by first | exact (zR W).drew | exact zR W)).mono ?_; rintro z w2 ⟨nb, vn, rfl, hb2, hbl2, hn2⟩; have B2 : Hid (Below W.heap.size W w2) := (by first | exact zT (zR W).drew hbl2 | exact hbl2); have u0 := cell_later B2.out c0; have u1 := cell_later B2.out cm; have K2 : Hid _ := hb2; have N2 : Hid (∀ k, bkF nb vn k → W.heap.size ≤ k) := hn2; clear hb2 hbl2 hn2))
  clear c0 cm u0 u1 x0 x2 x3 x4 x5 e0 e5 HCP
  as_aux_lemma =>
  have NL : ¬ bkF nb vn w.heap.size := fun e => by have := N2.out _ e; omega
  have NL' : ¬ bkF nb vn (w.heap.size + 1) := fun e => by have := N2.out _ e; omega
  have L2 : Lay2 w2 w.heap.size _ _ := LL.out.but (But.of_below (F := fun _ => False) B2.out) id id
  have T2 : Tmk w2 b D T := HT.out.grow B2.out
  obtain ⟨⟨x0, x2, x3, x4, x5⟩, e0, e5⟩ := L2.cells
  simp only at x0 x2 x3 x4 x5 e0 e5
  have HO := OP.out w2 nb vn K2.out
  go_wp2_with fail
  refine HO.mono ?_
  rintro z w3 ⟨⟨zv, rfl⟩, vn3, k3, hb3, hn3⟩
  have L3 : Lay2 w3 w.heap.size _ _ := L2.but hb3 NL NL'
  have hFn : ∀ k, D.F b T.L.length k → ¬ bkF nb vn k := fun k hk e => by have := LF.out k hk; have := N2.out k e; omega
  have T3 : Tmk w3 b D T := T2.keep hb3 hFn
  have B3 : But (D.F b T.L.length) w w3 := ((But.of_below HB.out).trans (But.of_below (F := fun _ => False) B2.out) fun _ _ e => e.elim).trans hb3 fun i hi e => by have := N2.out i e; omega
  have s3 : W.heap.size ≤ w3.heap.size := Nat.le_trans B2.out.size hb3.size
  have N3 : ∀ k, bkF nb vn3 k → W.heap.size ≤ k := fun k hk => (hn3 k hk).elim (N2.out k) fun e => Nat.le_trans B2.out.size e
  obtain ⟨⟨x0, x2, x3, x4, x5⟩, e0, e5⟩ := L3.cells
  simp only at x0 x2 x3 x4 x5 e0 e5
  have c0 := T3.c0
  rw [ev] at c0
  have cz := T3.fz
  have hbl3 : b < w3.heap.size := T3.lb
  have hown := T3.row
  rw [ev] at hown
  have hnb3 : b ≠ w3.heap.size := by omega
  have PUSH : Hid (∀ V w6 g' cap', Below w3.heap.size w3 V → V.grownBy w6 D.vL.ownBlock → (D.vL.ownBlock = some g' ∨ g' = V.heap.size) → g' < w6.heap.size → w6.ownsRow 0 80 1 (.slice (some ⟨g', 0, none⟩) (T.L.length + 1) cap') (T.L.length + 1) (ptrs D.cb T.L.length ++ [.pointer (some ⟨nb, 0, none⟩)]) →
   ∃ D', Tmk (w6.setCell ⟨b, 0, none⟩ (.slice (some ⟨g', 0, none⟩) (T.L.length + 1) cap')) b D' ⟨T.L ++ [M], T.fl⟩ ∧ But (D.F b T.L.length) w (w6.setCell ⟨b, 0, none⟩ (.slice (some ⟨g', 0, none⟩) (T.L.length + 1) cap')) ∧ (∀ k, D'.F b (T.L.length + 1) k → D.F b T.L.length k ∨ w.heap.size ≤ k) ∧ Lay2 (w6.setCell ⟨b, 0, none⟩ (.slice (some ⟨g', 0, none⟩) (T.L.length + 1) cap')) w.heap.size _ _) := fun V w6 g' cap' hV hg6 hg' hgl ho => by
   obtain ⟨D', t7, b7, f7⟩ := T3.push hV hg6 hg' hgl ho k3 (n0 := W.heap.size) (fun k hk => by have := LF.out k hk; omega) N3
   refine ⟨D', t7, B3.trans b7 fun i _ e => e, fun k hk => ?_, L3.but b7 (fun e => by have := LF.out _ e; omega) (fun e => by have := LF.out _ e; omega)⟩
   rcases f7 k hk with e | e | e
   ·exact .inl e
   ·exact .inr (by have := N3 k e; omega)
   ·exact .inr (by omega)
  rw [ev] at PUSH
  have gb : g ≠ b := fun e => T3.nb (by rw [ev, e]; rfl)
  have hML : T.L.length + 1 ≤ 2000000 := by have := HM.out; omega
  clear HO hb3 hn3 k3 T2 L2 K2 NL NL' hFn T3 N3 B3 L3 B2 N2
  go_wp2_with (first
   | (at_builtin; refine wpList_append_lies _ rfl _ _ 61 rfl 0 80 p0 (.pointer none) 1 8 Tryz.underlying61 hp0 hp1 hp2 hp3 rfl (by decide) _ _ _ rfl (hown.alloc _) ⟨w3.heap.size, 0, none⟩ 1 1 [.pointer (some ⟨nb, 0, none⟩)] rfl rfl ?c1 ?c2 (by decide) ?c3 ?c4 ?c5 (w3.heap.size + 1) (by simp) ?_))
  case c1 =>
   intro j u hj
   match j, hj with
   | 0, hj => simp at hj; subst hj; simp [Addr.add, go_sem]
  case c2 => intro u hu; simp at hu; subst hu; rfl
  case c3 => unfold maxLen; omega
  case c4 => omega
  case c5 => simp
  intro g6 cap6 w6 hown6 hgrow6 hat6 hlt6
  obtain ⟨D', t7, b7, f7, l7⟩ := PUSH.out _ w6 g6 cap6 (zA (zR w3) _) hgrow6 (hat6.imp id (fun h => by rw [h]; simp)) hlt6 hown6
  have hb6 : But (fun k => k = g) w3 w6 := (But.of_below (zA (zR w3) _)).grown hgrow6 fun k hk => .inr (by simp [Value.ownBlock] at hk; exact hk.symm)
  have k0 := (hb6.cell (a := ⟨b, 0, none⟩) hbl3 gb.symm).trans c0
  have kz : ∀ p, w6.frozen? ⟨b, p, none⟩ = false := fun p => (hb6.frozen (a := ⟨b, p, none⟩) hbl3 gb.symm).trans (cz p)
  have T7 : Hid _ := t7
  have B7 : Hid _ := b7
  have F7 : Hid _ := f7
  have L7 : Hid _ := l7
  clear t7 b7 f7 l7 hown hown6 hgrow6 hat6 hlt6 hb6 PUSH x0 x2 x3 x4 x5 e0 e5 c0 cz
  go_upto_region 10 with fail
  generalize w6.setCell ⟨b, 0, none⟩ (.slice (some ⟨g6, 0, none⟩) (T.L.length + 1) cap6) = W7 at *
  clear k0 kz
  obtain ⟨_, e0, e5⟩ := L7.out.cells
  simp only at e0 e5
  have c0 := T7.out.c0
  have c1 := T7.out.c1
  have cz := T7.out.fz
  obtain ⟨g7, cap7, ev7, _, _⟩ := row_at T7.out.row (by simp)
  rw [ev7] at c0
  simp only [List.length_append, List.length_singleton] at c0
  have nb1 : w.heap.size ≠ b := by omega
  have nb2 : w.heap.size + 1 ≠ b := by omega
  have r2 : IntKind.i64.wrap (((T.L.length + 1 : Nat) : Int) - 1) = (T.L.length : Int) := (wrap_i64_in (by omega) (by omega)).trans (by omega)
  have r3 : IntKind.i64.wrap ((T.L.length : Int) + 1 - 1) = (T.L.length : Int) := (wrap_i64_in (by omega) (by omega)).trans (by omega)
  have r4 : IntKind.i64.wrap (T.L.length : Int) = (T.L.length : Int) := wrap_i64_in (by omega) (by omega)
  cases eb
  ·have E : Hid (TmDone w b (D.F b T.L.length) ⟨T.L ++ [M], T.fl⟩ W7) := ⟨_, ⟨D', T7.out, rfl⟩, B7.out, fun k hk => F7.out k (by simpa using hk)⟩
   clear T7 B7 F7 L7 LL HT HB
   go_wp2_with fail
   go_end0
   refine ⟨rfl, ?_⟩
   first | exact E.out | (rw [eT]; exact E.out)
  ·have E : Hid (TmDone w b (D.F b T.L.length) ⟨T.L ++ [M], T.L.length⟩ (W7.setCell ⟨b, 1, none⟩ (.int .i64 (T.L.length : Int)))) := ⟨_, ⟨D', T7.out.floored _, rfl⟩, B7.out.setCell (a := ⟨b, 1, none⟩) (.inr (.inl rfl)) _, fun k hk => F7.out k (by simpa using hk)⟩
   clear T7 B7 F7 L7 LL HT HB
   go_wp2_with fail
   go_end0
   refine ⟨rfl, ?_⟩
   first | exact E.out | (rw [eT]; exact E.out)
 ·have OP : Hid (∀ w' nb vn, BkAt w' nb vn T.now → Calls Tryz.prog 58 #[.pointer (some ⟨nb, 0, none⟩), .int .i64 p] w' fun z w'' => (∃ v, z = .returned v) ∧ ∃ vb', BkAt w'' nb vb' (Pg.dropL T.now p) ∧ But (bkF nb vn) w' w'' ∧ ∀ k, bkF nb vb' k → bkF nb vn k ∨ w'.heap.size ≤ k) := fun w' nb vn hb => by
   refine (refDrop_any p hx w' hb).mono ?_
   rintro z w'' ⟨a, b⟩
   exact ⟨⟨_, a⟩, b⟩
  rw [show Pg.opL T.now ⟨2, co, ⟨p, s, f, r⟩, q, k, u⟩ = Pg.dropL T.now p from by unfold Pg.opL; simp] at eT
  generalize Pg.dropL T.now p = M at *
  go_enter Tryz.func26, Tryz.ntmps26
  go_upto_region 1 with fail
  rw [← hW]
  clear hW
  go_upto_region 2 with fail
  go_region_held3 (fun w' => w'.cell? ⟨b, 0, none⟩ = some (.slice (some ⟨g, 0, none⟩) T.L.length cap) ∧ w'.cell? ⟨g, m, none⟩ = some (.pointer (some ⟨D.cb m, 0, none⟩))) (go_keep) (first | (go_at_call 56; refine (HCP _ (by first | exact (zR W).drew | exact zR W)).mono ?_; rintro z w2 ⟨nb, vn, rfl, hb2, hbl2, hn2⟩; have B2 : Hid (Below W.heap.size W w2) := (by first | exact zT (zR W).drew hbl2 | exact hbl2); have u0 := cell_later B2.out c0; have u1 := cell_later B2.out cm; have K2 : Hid _ := hb2; have N2 : Hid (∀ k, bkF nb vn k → W.heap.size ≤ k) := hn2; clear hb2 hbl2 hn2))
  clear c0 cm u0 u1 x0 x2 x3 x4 x5 e0 e5 HCP
  as_aux_lemma =>
  have NL : ¬ bkF nb vn w.heap.size := fun e => by have := N2.out _ e; omega
  have NL' : ¬ bkF nb vn (w.heap.size + 1) := fun e => by have := N2.out _ e; omega
  have L2 : Lay2 w2 w.heap.size _ _ := LL.out.but (But.of_below (F := fun _ => False) B2.out) id id
  have T2 : Tmk w2 b D T := HT.out.grow B2.out
  obtain ⟨⟨x0, x2, x3, x4, x5⟩, e0, e5⟩ := L2.cells
  simp only at x0 x2 x3 x4 x5 e0 e5
  have HO := OP.out w2 nb vn K2.out
  go_wp2_with fail
  refine HO.mono ?_
  rintro z w3 ⟨⟨zv, rfl⟩, vn3, k3, hb3, hn3⟩
  have L3 : Lay2 w3 w.heap.size _ _ := L2.but hb3 NL NL'
  have hFn : ∀ k, D.F b T.L.length k → ¬ bkF nb vn k := fun k hk e => by have := LF.out k hk; have := N2.out k e; omega
  have T3 : Tmk w3 b D T := T2.keep hb3 hFn
  have B3 : But (D.F b T.L.length) w w3 := ((But.of_below HB.out).trans (But.of_below (F := fun _ => False) B2.out) fun _ _ e => e.elim).trans hb3 fun i hi e => by have := N2.out i e; omega
  have s3 : W.heap.size ≤ w3.heap.size := Nat.le_trans B2.out.size hb3.size
  have N3 : ∀ k, bkF nb vn3 k → W.heap.size ≤ k := fun k hk => (hn3 k hk).elim (N2.out k) fun e => Nat.le_trans B2.out.size e
  obtain ⟨⟨x0, x2, x3, x4, x5⟩, e0, e5⟩ := L3.cells
  simp only at x0 x2 x3 x4 x5 e0 e5
  have c0 := T3.c0
  rw [ev] at c0
  have cz := T3.fz
  have hbl3 : b < w3.heap.size := T3.lb
  have hown := T3.row
  rw [ev] at hown
  have hnb3 : b ≠ w3.heap.size := by omega
  have PUSH : Hid (∀ V w6 g' cap', Below w3.heap.size w3 V → V.grownBy w6 D.vL.ownBlock → (D.vL.ownBlock = some g' ∨ g' = V.heap.size) → g' < w6.heap.size → w6.ownsRow 0 80 1 (.slice (some ⟨g', 0, none⟩) (T.L.length + 1) cap') (T.L.length + 1) (ptrs D.cb T.L.length ++ [.pointer (some ⟨nb, 0, none⟩)]) →
   ∃ D', Tmk (w6.setCell ⟨b, 0, none⟩ (.slice (some ⟨g', 0, none⟩) (T.L.length + 1) cap')) b D' ⟨T.L ++ [M], T.fl⟩ ∧ But (D.F b T.L.length) w (w6.setCell ⟨b, 0, none⟩ (.slice (some ⟨g', 0, none⟩) (T.L.length + 1) cap')) ∧ (∀ k, D'.F b (T.L.length + 1) k → D.F b T.L.length k ∨ w.heap.size ≤ k) ∧ Lay2 (w6.setCell ⟨b, 0, none⟩ (.slice (some ⟨g', 0, none⟩) (T.L.length + 1) cap')) w.heap.size _ _) := fun V w6 g' cap' hV hg6 hg' hgl ho => by
   obtain ⟨D', t7, b7, f7⟩ := T3.push hV hg6 hg' hgl ho k3 (n0 := W.heap.size) (fun k hk => by have := LF.out k hk; omega) N3
   refine ⟨D', t7, B3.trans b7 fun i _ e => e, fun k hk => ?_, L3.but b7 (fun e => by have := LF.out _ e; omega) (fun e => by have := LF.out _ e; omega)⟩
   rcases f7 k hk with e | e | e
   ·exact .inl e
   ·exact .inr (by have := N3 k e; omega)
   ·exact .inr (by omega)
  rw [ev] at PUSH
  have gb : g ≠ b := fun e => T3.nb (by rw [ev, e]; rfl)
  have hML : T.L.length + 1 ≤ 2000000 := by have := HM.out; omega
  clear HO hb3 hn3 k3 T2 L2 K2 NL NL' hFn T3 N3 B3 L3 B2 N2
  go_wp2_with (first
   | (at_builtin; refine wpList_append_lies _ rfl _ _ 61 rfl 0 80 p0 (.pointer none) 1 8 Tryz.underlying61 hp0 hp1 hp2 hp3 rfl (by decide) _ _ _ rfl (hown.alloc _) ⟨w3.heap.size, 0, none⟩ 1 1 [.pointer (some ⟨nb, 0, none⟩)] rfl rfl ?c1 ?c2 (by decide) ?c3 ?c4 ?c5 (w3.heap.size + 1) (by simp) ?_))
  case c1 =>
   intro j u hj
   match j, hj with
   | 0, hj => simp at hj; subst hj; simp [Addr.add, go_sem]
  case c2 => intro u hu; simp at hu; subst hu; rfl
  case c3 => unfold maxLen; omega
  case c4 => omega
  case c5 => simp
  intro g6 cap6 w6 hown6 hgrow6 hat6 hlt6
  obtain ⟨D', t7, b7, f7, l7⟩ := PUSH.out _ w6 g6 cap6 (zA (zR w3) _) hgrow6 (hat6.imp id (fun h => by rw [h]; simp)) hlt6 hown6
  have hb6 : But (fun k => k = g) w3 w6 := (But.of_below (zA (zR w3) _)).grown hgrow6 fun k hk => .inr (by simp [Value.ownBlock] at hk; exact hk.symm)
  have k0 := (hb6.cell (a := ⟨b, 0, none⟩) hbl3 gb.symm).trans c0
  have kz : ∀ p, w6.frozen? ⟨b, p, none⟩ = false := fun p => (hb6.frozen (a := ⟨b, p, none⟩) hbl3 gb.symm).trans (cz p)
  have T7 : Hid _ := t7
  have B7 : Hid _ := b7
  have F7 : Hid _ := f7
  have L7 : Hid _ := l7
  clear t7 b7 f7 l7 hown hown6 hgrow6 hat6 hlt6 hb6 PUSH x0 x2 x3 x4 x5 e0 e5 c0 cz
  go_upto_region 10 with fail
  generalize w6.setCell ⟨b, 0, none⟩ (.slice (some ⟨g6, 0, none⟩) (T.L.length + 1) cap6) = W7 at *
  clear k0 kz
  obtain ⟨_, e0, e5⟩ := L7.out.cells
  simp only at e0 e5
  have c0 := T7.out.c0
  have c1 := T7.out.c1
  have cz := T7.out.fz
  obtain ⟨g7, cap7, ev7, _, _⟩ := row_at T7.out.row (by simp)
  rw [ev7] at c0
  simp only [List.length_append, List.length_singleton] at c0
  have nb1 : w.heap.size ≠ b := by omega
  have nb2 : w.heap.size + 1 ≠ b := by omega
  have r2 : IntKind.i64.wrap (((T.L.length + 1 : Nat) : Int) - 1) = (T.L.length : Int) := (wrap_i64_in (by omega) (by omega)).trans (by omega)
  have r3 : IntKind.i64.wrap ((T.L.length : Int) + 1 - 1) = (T.L.length : Int) := (wrap_i64_in (by omega) (by omega)).trans (by omega)
  have r4 : IntKind.i64.wrap (T.L.length : Int) = (T.L.length : Int) := wrap_i64_in (by omega) (by omega)
  cases eb
  ·have E : Hid (TmDone w b (D.F b T.L.length) ⟨T.L ++ [M], T.fl⟩ W7) := ⟨_, ⟨D', T7.out, rfl⟩, B7.out, fun k hk => F7.out k (by simpa using hk)⟩
   clear T7 B7 F7 L7 LL HT HB
   go_wp2_with fail
   go_end0
   refine ⟨rfl, ?_⟩
   first | exact E.out | (rw [eT]; exact E.out)
  ·have E : Hid (TmDone w b (D.F b T.L.length) ⟨T.L ++ [M], T.L.length⟩ (W7.setCell ⟨b, 1, none⟩ (.int .i64 (T.L.length : Int)))) := ⟨_, ⟨D', T7.out.floored _, rfl⟩, B7.out.setCell (a := ⟨b, 1, none⟩) (.inr (.inl rfl)) _, fun k hk => F7.out k (by simpa using hk)⟩
   clear T7 B7 F7 L7 LL HT HB
   go_wp2_with fail
   go_end0
   refine ⟨rfl, ?_⟩
   first | exact E.out | (rw [eT]; exact E.out)
 ·have OP : Hid (∀ w' nb vn, BkAt w' nb vn T.now → Calls Tryz.prog 59 #[.pointer (some ⟨nb, 0, none⟩), .int .i64 p, .int .i64 r] w' fun z w'' => (∃ v, z = .returned v) ∧ ∃ vb', BkAt w'' nb vb' (Pg.protL T.now p r) ∧ But (bkF nb vn) w' w'' ∧ ∀ k, bkF nb vb' k → bkF nb vn k ∨ w'.heap.size ≤ k) := fun w' nb vn hb => by
   refine (refProtect_any p r hx w' hb).mono ?_
   rintro z w'' ⟨a, b⟩
   exact ⟨⟨_, a⟩, b⟩
  rw [show Pg.opL T.now ⟨3, co, ⟨p, s, f, r⟩, q, k, u⟩ = Pg.protL T.now p r from by unfold Pg.opL; simp] at eT
  generalize Pg.protL T.now p r = M at *
  go_enter Tryz.func26, Tryz.ntmps26
  go_upto_region 1 with fail
  rw [← hW]
  clear hW
  go_upto_region 2 with fail
  go_region_held3 (fun w' => w'.cell? ⟨b, 0, none⟩ = some (.slice (some ⟨g, 0, none⟩) T.L.length cap) ∧ w'.cell? ⟨g, m, none⟩ = some (.pointer (some ⟨D.cb m, 0, none⟩))) (go_keep) (first | (go_at_call 56; refine (HCP _ (by first | exact (zR W).drew | exact zR W)).mono ?_; rintro z w2 ⟨nb, vn, rfl, hb2, hbl2, hn2⟩; have B2 : Hid (Below W.heap.size W w2) := (by first | exact zT (zR W).drew hbl2 | exact hbl2); have u0 := cell_later B2.out c0; have u1 := cell_later B2.out cm; have K2 : Hid _ := hb2; have N2 : Hid (∀ k, bkF nb vn k → W.heap.size ≤ k) := hn2; clear hb2 hbl2 hn2))
  clear c0 cm u0 u1 x0 x2 x3 x4 x5 e0 e5 HCP
  as_aux_lemma =>
  have NL : ¬ bkF nb vn w.heap.size := fun e => by have := N2.out _ e; omega
  have NL' : ¬ bkF nb vn (w.heap.size + 1) := fun e => by have := N2.out _ e; omega
  have L2 : Lay2 w2 w.heap.size _ _ := LL.out.but (But.of_below (F := fun _ => False) B2.out) id id
  have T2 : Tmk w2 b D T := HT.out.grow B2.out
  obtain ⟨⟨x0, x2, x3, x4, x5⟩, e0, e5⟩ := L2.cells
  simp only at x0 x2 x3 x4 x5 e0 e5
  have HO := OP.out w2 nb vn K2.out
  go_wp2_with fail
  refine HO.mono ?_
  rintro z w3 ⟨⟨zv, rfl⟩, vn3, k3, hb3, hn3⟩
  have L3 : Lay2 w3 w.heap.size _ _ := L2.but hb3 NL NL'
  have hFn : ∀ k, D.F b T.L.length k → ¬ bkF nb vn k := fun k hk e => by have := LF.out k hk; have := N2.out k e; omega
  have T3 : Tmk w3 b D T := T2.keep hb3 hFn
  have B3 : But (D.F b T.L.length) w w3 := ((But.of_below HB.out).trans (But.of_below (F := fun _ => False) B2.out) fun _ _ e => e.elim).trans hb3 fun i hi e => by have := N2.out i e; omega
  have s3 : W.heap.size ≤ w3.heap.size := Nat.le_trans B2.out.size hb3.size
  have N3 : ∀ k, bkF nb vn3 k → W.heap.size ≤ k := fun k hk => (hn3 k hk).elim (N2.out k) fun e => Nat.le_trans B2.out.size e
  obtain ⟨⟨x0, x2, x3, x4, x5⟩, e0, e5⟩ := L3.cells
  simp only at x0 x2 x3 x4 x5 e0 e5
  have c0 := T3.c0
  rw [ev] at c0
  have cz := T3.fz
  have hbl3 : b < w3.heap.size := T3.lb
  have hown := T3.row
  rw [ev] at hown
  have hnb3 : b ≠ w3.heap.size := by omega
  have PUSH : Hid (∀ V w6 g' cap', Below w3.heap.size w3 V → V.grownBy w6 D.vL.ownBlock → (D.vL.ownBlock = some g' ∨ g' = V.heap.size) → g' < w6.heap.size → w6.ownsRow 0 80 1 (.slice (some ⟨g', 0, none⟩) (T.L.length + 1) cap') (T.L.length + 1) (ptrs D.cb T.L.length ++ [.pointer (some ⟨nb, 0, none⟩)]) →
   ∃ D', Tmk (w6.setCell ⟨b, 0, none⟩ (.slice (some ⟨g', 0, none⟩) (T.L.length + 1) cap')) b D' ⟨T.L ++ [M], T.fl⟩ ∧ But (D.F b T.L.length) w (w6.setCell ⟨b, 0, none⟩ (.slice (some ⟨g', 0, none⟩) (T.L.length + 1) cap')) ∧ (∀ k, D'.F b (T.L.length + 1) k → D.F b T.L.length k ∨ w.heap.size ≤ k) ∧ Lay2 (w6.setCell ⟨b, 0, none⟩ (.slice (some ⟨g', 0, none⟩) (T.L.length + 1) cap')) w.heap.size _ _) := fun V w6 g' cap' hV hg6 hg' hgl ho => by
   obtain ⟨D', t7, b7, f7⟩ := T3.push hV hg6 hg' hgl ho k3 (n0 := W.heap.size) (fun k hk => by have := LF.out k hk; omega) N3
   refine ⟨D', t7, B3.trans b7 fun i _ e => e, fun k hk => ?_, L3.but b7 (fun e => by have := LF.out _ e; omega) (fun e => by have := LF.out _ e; omega)⟩
   rcases f7 k hk with e | e | e
   ·exact .inl e
   ·exact .inr (by have := N3 k e; omega)
   ·exact .inr (by omega)
  rw [ev] at PUSH
  have gb : g ≠ b := fun e => T3.nb (by rw [ev, e]; rfl)
  have hML : T.L.length + 1 ≤ 2000000 := by have := HM.out; omega
  clear HO hb3 hn3 k3 T2 L2 K2 NL NL' hFn T3 N3 B3 L3 B2 N2
  go_wp2_with (first
   | (at_builtin; refine wpList_append_lies _ rfl _ _ 61 rfl 0 80 p0 (.pointer none) 1 8 Tryz.underlying61 hp0 hp1 hp2 hp3 rfl (by decide) _ _ _ rfl (hown.alloc _) ⟨w3.heap.size, 0, none⟩ 1 1 [.pointer (some ⟨nb, 0, none⟩)] rfl rfl ?c1 ?c2 (by decide) ?c3 ?c4 ?c5 (w3.heap.size + 1) (by simp) ?_))
  case c1 =>
   intro j u hj
   match j, hj with
   | 0, hj => simp at hj; subst hj; simp [Addr.add, go_sem]
  case c2 => intro u hu; simp at hu; subst hu; rfl
  case c3 => unfold maxLen; omega
  case c4 => omega
  case c5 => simp
  intro g6 cap6 w6 hown6 hgrow6 hat6 hlt6
  obtain ⟨D', t7, b7, f7, l7⟩ := PUSH.out _ w6 g6 cap6 (zA (zR w3) _) hgrow6 (hat6.imp id (fun h => by rw [h]; simp)) hlt6 hown6
  have hb6 : But (fun k => k = g) w3 w6 := (But.of_below (zA (zR w3) _)).grown hgrow6 fun k hk => .inr (by simp [Value.ownBlock] at hk; exact hk.symm)
  have k0 := (hb6.cell (a := ⟨b, 0, none⟩) hbl3 gb.symm).trans c0
  have kz : ∀ p, w6.frozen? ⟨b, p, none⟩ = false := fun p => (hb6.frozen (a := ⟨b, p, none⟩) hbl3 gb.symm).trans (cz p)
  have T7 : Hid _ := t7
  have B7 : Hid _ := b7
  have F7 : Hid _ := f7
  have L7 : Hid _ := l7
  clear t7 b7 f7 l7 hown hown6 hgrow6 hat6 hlt6 hb6 PUSH x0 x2 x3 x4 x5 e0 e5 c0 cz
  go_upto_region 10 with fail
  generalize w6.setCell ⟨b, 0, none⟩ (.slice (some ⟨g6, 0, none⟩) (T.L.length + 1) cap6) = W7 at *
  clear k0 kz
  obtain ⟨_, e0, e5⟩ := L7.out.cells
  simp only at e0 e5
  have c0 := T7.out.c0
  have c1 := T7.out.c1
  have cz := T7.out.fz
  obtain ⟨g7, cap7, ev7, _, _⟩ := row_at T7.out.row (by simp)
  rw [ev7] at c0
  simp only [List.length_append, List.length_singleton] at c0
  have nb1 : w.heap.size ≠ b := by omega
  have nb2 : w.heap.size + 1 ≠ b := by omega
  have r2 : IntKind.i64.wrap (((T.L.length + 1 : Nat) : Int) - 1) = (T.L.length : Int) := (wrap_i64_in (by omega) (by omega)).trans (by omega)
  have r3 : IntKind.i64.wrap ((T.L.length : Int) + 1 - 1) = (T.L.length : Int) := (wrap_i64_in (by omega) (by omega)).trans (by omega)
  have r4 : IntKind.i64.wrap (T.L.length : Int) = (T.L.length : Int) := wrap_i64_in (by omega) (by omega)
  cases eb
  ·have E : Hid (TmDone w b (D.F b T.L.length) ⟨T.L ++ [M], T.fl⟩ W7) := ⟨_, ⟨D', T7.out, rfl⟩, B7.out, fun k hk => F7.out k (by simpa using hk)⟩
   clear T7 B7 F7 L7 LL HT HB
   go_wp2_with fail
   go_end0
   refine ⟨rfl, ?_⟩
   first | exact E.out | (rw [eT]; exact E.out)
  ·have E : Hid (TmDone w b (D.F b T.L.length) ⟨T.L ++ [M], T.L.length⟩ (W7.setCell ⟨b, 1, none⟩ (.int .i64 (T.L.length : Int)))) := ⟨_, ⟨D', T7.out.floored _, rfl⟩, B7.out.setCell (a := ⟨b, 1, none⟩) (.inr (.inl rfl)) _, fun k hk => F7.out k (by simpa using hk)⟩
   clear T7 B7 F7 L7 LL HT HB
   go_wp2_with fail
   go_end0
   refine ⟨rfl, ?_⟩
   first | exact E.out | (rw [eT]; exact E.out)
theorem tmChange_any {b : Nat} {T : Pg.Tms} {F : Nat → Prop} (x : Pg.Sx) (hx : Pg.fits x.m.p) (e : Pg.Ev) (w : World) (h : TmAt w b T F) (h1 : 1 ≤ T.L.length) (hm : T.L.length ≤ 1000000) :
 Calls Tryz.prog 26 #[.pointer (some ⟨b, 0, none⟩), x.val, e.val] w fun r w' => r = .returned (.tuple #[]) ∧ TmDone w b F (T.next x e) w' := by
 by_cases hc : e.c = 0 ∧ 1 ≤ x.kind ∧ x.kind ≤ 3
 ·exact tmChange_yes x hx e hc.1 (by omega) w h h1 hm
 ·exact tmChange_no x e hc w h h1 (by omega)
structure Wtt (w0 w : World) (b t g cn : Nat) (X : Pg.Spc) (L L0 : List Pg.Mp) (ti : Int) (F : Nat → Prop) (T : Pg.Tms) (G : Nat → Prop) (S : List Int) : Prop where
 wt : WtAt w b X L L0 ti F
 tm : TmAt w t T G
 row : ∀ j, j < cn → w.cell? ⟨g, j, none⟩ = some (.int .i64 (S.getD j 0))
 rz : ∀ p, w.frozen? ⟨g, p, none⟩ = false
 len : S.length = cn
 gl : g < w.heap.size
 ap : ∀ k, F k → ¬ G k
 nf : ¬ F g
 ng : ¬ G g
 bel : Below w0.heap.size w0 w
 hi : ∀ k, F k ∨ G k ∨ k = g → w0.heap.size ≤ k
namespace Wtt
variable {w0 w w' : World} {b t g cn : Nat} {X X' : Pg.Spc} {L L0 L' L0' : List Pg.Mp} {ti ti' : Int} {F F' G G' : Nat → Prop} {T T' : Pg.Tms} {S : List Int}
theorem grow (h : Wtt w0 w b t g cn X L L0 ti F T G S) (hb : Below w.heap.size w w') : Wtt w0 w' b t g cn X L L0 ti F T G S :=
 ⟨h.wt.grow hb, h.tm.grow hb, fun j hj => cell_later hb (h.row j hj), fun p => (hb.frozen (p := ⟨g, p, none⟩) h.gl).trans (h.rz p), h.len, Nat.lt_of_lt_of_le h.gl hb.size, h.ap, h.nf, h.ng, zT h.bel hb, h.hi⟩
theorem stepW (h : Wtt w0 w b t g cn X L L0 ti F T G S) (hw : WtAt w' b X' L' L0' ti' F') (hb : But F w w') (hF : ∀ k, F' k → F k ∨ w.heap.size ≤ k) : Wtt w0 w' b t g cn X' L' L0' ti' F' T G S :=
 ⟨hw, h.tm.keep hb fun k hk hf => h.ap k hf hk, fun j hj => (hb.cell (a := ⟨g, j, none⟩) h.gl h.nf).trans (h.row j hj), fun p => (hb.frozen (a := ⟨g, p, none⟩) h.gl h.nf).trans (h.rz p), h.len, Nat.lt_of_lt_of_le h.gl hb.size,
  fun k hk hg => (hF k hk).elim (fun e => h.ap k e hg) (fun e => by have := h.tm.lt hg; omega), fun e => (hF g e).elim h.nf (fun e => by have := h.gl; omega), h.ng, h.bel.trans (hb.below h.bel.size fun k hk => h.hi k (.inl hk)),
  fun k hk => hk.elim (fun hk => (hF k hk).elim (fun e => h.hi k (.inl e)) (fun e => Nat.le_trans h.bel.size e)) fun hk => h.hi k (.inr hk)⟩
theorem stepT (h : Wtt w0 w b t g cn X L L0 ti F T G S) (hd : TmDone w t G T' w') : ∃ G', Wtt w0 w' b t g cn X L L0 ti F T' G' S := by
 obtain ⟨G', hT, hb, hG⟩ := hd
 exact ⟨G', h.wt.keep hb fun k hk hg => h.ap k hk hg, hT, fun j hj => (hb.cell (a := ⟨g, j, none⟩) h.gl h.ng).trans (h.row j hj), fun p => (hb.frozen (a := ⟨g, p, none⟩) h.gl h.ng).trans (h.rz p), h.len, Nat.lt_of_lt_of_le h.gl hb.size,
  fun k hk hg => (hG k hg).elim (fun e => h.ap k hk e) (fun e => by have := h.wt.lt hk; omega), h.nf, fun e => (hG g e).elim h.ng (fun e => by have := h.gl; omega), h.bel.trans (hb.below h.bel.size fun k hk => h.hi k (.inr (.inl hk))),
  fun k hk => by
   rcases hk with hk | hk | hk
   ·exact h.hi k (.inl hk)
   ·exact (hG k hk).elim (fun e => h.hi k (.inr (.inl e))) (fun e => Nat.le_trans h.bel.size e)
   ·exact h.hi k (.inr (.inr hk))⟩
theorem set (h : Wtt w0 w b t g cn X L L0 ti F T G S) {j : Nat} (hj : j < cn) (v : Int) : Wtt w0 (w.setCell ⟨g, j, none⟩ (.int .i64 v)) b t g cn X L L0 ti F T G (S.set j v) := by
 have hb : But (fun k => k = g) w (w.setCell ⟨g, j, none⟩ (.int .i64 v)) := but_set w g j _
 refine ⟨h.wt.keep hb fun k hk e => h.nf (e ▸ hk), h.tm.keep hb fun k hk e => h.ng (e ▸ hk), fun i hi => ?_, fun p => (World.frozen?_setCell _ _ _ _).trans (h.rz p), by simp [h.len], by simpa [World.setCell] using Nat.lt_of_lt_of_le h.gl hb.size, h.ap, h.nf, h.ng, h.bel.trans (hb.below h.bel.size fun k e => h.hi k (.inr (.inr e))), h.hi⟩
 rw [Pg.set_getD (by rw [h.len]; exact hj)]
 split
 ·next e => rw [e]; exact World.cell?_setCell_same _ _ _ (h.row j hj)
 ·next e => exact (World.cell?_setCell_other _ _ _ _ (fun h => e (congrArg Addr.off h).symm)).trans (h.row i hi)
end Wtt
structure AcAt (w : World) (r : Nat) (q k : Int) (u : Bool) : Prop where
 c0 : w.cell? ⟨r, 0, none⟩ = some (.int .i64 q)
 c1 : w.cell? ⟨r, 1, none⟩ = some (.int .i64 k)
 c2 : w.cell? ⟨r, 2, none⟩ = some (.bool u)
 fz : ∀ p, w.frozen? ⟨r, p, none⟩ = false
theorem AcAt.of_block {w w' : World} {r : Nat} {q k : Int} {u : Bool} (h : AcAt w r q k u) (hk : w'.heap[r]? = w.heap[r]?) : AcAt w' r q k u :=
 ⟨(World.cell?_of_block hk).trans h.c0, (World.cell?_of_block hk).trans h.c1, (World.cell?_of_block hk).trans h.c2, fun p => (World.frozen?_of_block hk).trans (h.fz p)⟩
theorem AcAt.lt {w : World} {r : Nat} {q k : Int} {u : Bool} (h : AcAt w r q k u) : r < w.heap.size := World.block_lt_of_cell? _ _ h.c0
theorem AcAt.made (w : World) (q k : Int) (u : Bool) (t : TypeId) : AcAt (w.alloc (.cells #[.int .i64 q, .int .i64 k, .bool u] t)) w.heap.size q k u := by
 refine ⟨?_, ?_, ?_, fun p => ?_⟩ <;> simp [go_sem]
theorem AcAt.set {w : World} {r : Nat} {q k : Int} {u : Bool} (h : AcAt w r q k u) (q' k' : Int) (u' : Bool) : AcAt (((w.setCell ⟨r, 0, none⟩ (.int .i64 q')).setCell ⟨r, 1, none⟩ (.int .i64 k')).setCell ⟨r, 2, none⟩ (.bool u')) r q' k' u' := by
 obtain ⟨c0, c1, c2, fz⟩ := h
 refine ⟨?_, ?_, ?_, fun p => ?_⟩ <;> simp [go_sem, c0, c1, c2, fz]
theorem but3 (w : World) (r : Nat) (x0 x1 x2 : Value) : But (fun k => k = r) w (((w.setCell ⟨r, 0, none⟩ x0).setCell ⟨r, 1, none⟩ x1).setCell ⟨r, 2, none⟩ x2) :=
 (((But.refl (fun k => k = r) w).setCell (a := ⟨r, 0, none⟩) (.inr rfl) x0).setCell (a := ⟨r, 1, none⟩) (.inr rfl) x1).setCell (a := ⟨r, 2, none⟩) (.inr rfl) x2
theorem Wtt.beside {w0 w w' : World} {b t g cn : Nat} {X : Pg.Spc} {L L0 : List Pg.Mp} {ti : Int} {F G : Nat → Prop} {T : Pg.Tms} {S : List Int} {r : Nat} (h : Wtt w0 w b t g cn X L L0 ti F T G S) (hb : But (fun k => k = r) w w') (h1 : ¬ F r) (h2 : ¬ G r) (h3 : r ≠ g) (h0 : w0.heap.size ≤ r) : Wtt w0 w' b t g cn X L L0 ti F T G S :=
 ⟨h.wt.keep hb fun k hk e => h1 (e ▸ hk), h.tm.keep hb fun k hk e => h2 (e ▸ hk), fun j hj => (hb.cell (a := ⟨g, j, none⟩) h.gl (fun e => h3 e.symm)).trans (h.row j hj), fun p => (hb.frozen (a := ⟨g, p, none⟩) h.gl (fun e => h3 e.symm)).trans (h.rz p), h.len, Nat.lt_of_lt_of_le h.gl hb.size, h.ap, h.nf, h.ng, h.bel.trans (hb.below h.bel.size fun k e => by omega), h.hi⟩
theorem TmAt.c1 {w : World} {b : Nat} {T : Pg.Tms} {F : Nat → Prop} (h : TmAt w b T F) : w.cell? ⟨b, 1, none⟩ = some (.int .i64 (T.fl : Int)) := by
 obtain ⟨D, h, rfl⟩ := h
 exact h.c1
end Go.Proofs.YtjdiaebgidgmaafGreat
