/-
  The document's own kept lines: Put.
-/
import Derived.Test.YtbkpndgadgafiaeChecked
import Derived.Test.YtbkpndgadgafiaeLineRow
import Derived.Test.YtbkpndgadgafiaePageRef
import Derived.Test.YtbkpndgadgafiaeTlbB
import Derived.Deep.AppendLies
import Derived.Deep.RegionLaw
namespace Go.Proofs.Ytbkpndgadgafiae
open Go.RowKit Go.Sort
set_option maxRecDepth 100000
set_option linter.unusedVariables false

theorem infoRLine : (Try.prog.info? 48).map (fun i => (i.zero, i.size, i.bytes)) = some (some (.agg #[.int .i64 0, .int .i64 0, .int .i64 0, .int .i64 0, .bool false]), 5, 40) := by kernel_rfl

/-- A core's lines L: its block b holds the row vb of them, in its first cell. -/
structure CoAt (w : World) (b : Nat) (vb : Value) (L : List Pg.Ln) : Prop where
  c0 : w.cell? ⟨b, 0, none⟩ = some vb
  fb : ∀ p, w.frozen? ⟨b, p, none⟩ = false
  row : OwnsAt w 48 5 vb L.length (lnCells L)
  nb : vb.ownBlock ≠ some b
  kept : Pg.Kept L
namespace CoAt
variable {w w' W : World} {b : Nat} {vb v' : Value} {L L' : List Pg.Ln}
theorem lb (h : CoAt w b vb L) : b < w.heap.size := World.block_lt_of_cell? _ _ h.c0
theorem lt (h : CoAt w b vb L) {k : Nat} (hk : bkF b vb k) : k < w.heap.size := by
  rcases hk with rfl | hk
  · exact h.lb
  · exact h.row.lt k hk
theorem keep (h : CoAt w b vb L) {F : Nat → Prop} (hb : But F w w') (hF : ∀ k, bkF b vb k → ¬ F k) : CoAt w' b vb L := by
  have kb := hb.block b h.lb (hF b (.inl rfl))
  exact ⟨(World.cell?_of_block kb).trans h.c0, fun p => (World.frozen?_of_block kb).trans (h.fb p), h.row.but hb fun k hk => hF k (.inr hk), h.nb, h.kept⟩
theorem grow (h : CoAt w b vb L) (hb : Below w.heap.size w w') : CoAt w' b vb L := h.keep (F := fun _ => False) (But.of_below hb) (fun _ _ => id)
/-- The row has been written, or laid anew, and is stored. -/
theorem put (h : CoAt w b vb L) (hb : But (fun j => vb.ownBlock = some j) w W) (hr : OwnsAt W 48 5 v' L'.length (lnCells L')) (hv : ∀ j, v'.ownBlock = some j → vb.ownBlock = some j ∨ w.heap.size ≤ j) (hg : Pg.Kept L') :
    CoAt (W.setCell ⟨b, 0, none⟩ v') b v' L' ∧ Chg b 0 (bkF b vb) w (W.setCell ⟨b, 0, none⟩ v') ∧ (∀ k, bkF b v' k → bkF b vb k ∨ w.heap.size ≤ k) := by
  have hl := h.lb
  have kb : W.heap[b]? = w.heap[b]? := hb.block b hl h.nb
  have hc : W.cell? ⟨b, 0, none⟩ = some vb := (World.cell?_of_block (a := ⟨b, 0, none⟩) kb).trans h.c0
  have hne : v'.ownBlock ≠ some b := fun e => (hv b e).elim h.nb (fun h => by omega)
  refine ⟨⟨World.cell?_setCell_same _ _ _ hc, fun p => ?_, ?_, hne, hg⟩, ⟨?_, fun p hp => ?_⟩, fun k hk => ?_⟩
  · have := (World.frozen?_of_block (a := ⟨b, p, none⟩) kb).trans (h.fb p)
    simpa using this
  · exact hr.of_block fun k hk => Below.heap_setCell _ _ _ _ (fun e => hne (by rw [hk]; exact congrArg some e))
  · exact (hb.mono (G := bkF b vb) fun i _ hi => .inr hi).setCell (a := ⟨b, 0, none⟩) (.inr (.inl rfl)) _
  · rw [World.cell?_setCell_other _ _ _ _ (fun e => hp (by injection e with _ e; exact e.symm))]
    exact World.cell?_of_block (a := ⟨b, p, none⟩) kb
  · rcases hk with rfl | hk
    · exact .inl (.inl rfl)
    · exact (hv k hk).imp .inr id
end CoAt

theorem coKept_any {b : Nat} {vb : Value} {L : List Pg.Ln} (q : Int) (hq : Pg.fits q) (w : World) (h : CoAt w b vb L) :
    Calls Try.prog 19 #[.pointer (some ⟨b, 0, none⟩), .int .i64 q] w fun e w' => e = .returned (.int .i64 (Pg.kFndN L q)) ∧ Below w.heap.size w w' := by
  obtain ⟨ad, cap, rfl⟩ := h.row.form
  have hlen := h.kept.le
  have HB : Hid _ := h
  clear h
  go_enter Try.func19, Try.ntmps19
  go_wp2_with fail
  go_loopw [5] (fun i wr => ∃ j : Nat, j ≤ L.length ∧ i = .int .i64 j ∧ Hid ((∀ t, t < j → (L.getD t .zz).has q = false) ∧ Below w.heap.size w wr)) (fun i _ => L.length - (intOf i).toNat)
  case atStart => exact ⟨0, by omega, rfl, ⟨fun t ht => by omega, brefl _⟩⟩
  case round =>
    obtain ⟨j, hj, rfl, HR⟩ := hrel
    have hc0 := (HB.out.grow HR.out.2).c0
    have i0 : (0 : Int) ≤ (j : Int) := by omega
    by_cases hlt : j < L.length
    · obtain ⟨g, o, rfl, hg, hm⟩ := ownsAt_lines (HB.out.grow HR.out.2).row j hlt
      obtain ⟨k0, k1, k2, k3, k4⟩ := hm
      have i1 : (j : Int) < (L.length : Int) := by omega
      have HC := refHas_any (L.getD j .zz).m.p (L.getD j .zz).m.s (L.getD j .zz).m.f (L.getD j .zz).m.r q (HB.out.kept.fits hlt) hq wr
      cases hh : (L.getD j .zz).has q
      · have HN : Hid (∀ t, t < j + 1 → (L.getD t .zz).has q = false) := fun t ht => by
          by_cases e : t = j
          · rw [e]; exact hh
          · exact HR.out.1 t (by omega)
        rw [show Pg.over (L.getD j .zz).m.p (L.getD j .zz).m.s q = false from hh] at HC
        clear hh
        generalize L.getD j .zz = x at *
        obtain ⟨⟨p, s, f, r⟩, d⟩ := x
        go_wp2_with (go_at_call 25; refine HC.mono ?_; rintro e w1 ⟨rfl, hb1⟩; have HN1 : Hid _ := bthen HR.out.2 hb1; clear hb1)
        go_roundw
        case rel => exact ⟨j + 1, by omega, by go_num, ⟨HN.out, HN1.out⟩⟩
        case measure => simp [intOf]; omega
      · have HF : Hid (Pg.kFndN L q = (j : Int)) := by
          show Pg.kFndN L q = (j : Int)
          unfold Pg.kFndN Pg.kFnd
          rw [Pg.idx_some (P := fun l => l.has q) hlt hh HR.out.1]
        rw [show Pg.over (L.getD j .zz).m.p (L.getD j .zz).m.s q = true from hh] at HC
        clear hh
        generalize L.getD j .zz = x at *
        obtain ⟨⟨p, s, f, r⟩, d⟩ := x
        go_wp2_with (go_at_call 25; refine HC.mono ?_; rintro e w1 ⟨rfl, hb1⟩; have HN1 : Hid _ := bthen HR.out.2 hb1; clear hb1)
        go_ret
        exact ⟨ret_int HF.out.symm, HN1.out⟩
    · have i1 : ¬ (j : Int) < (L.length : Int) := by omega
      have HF : Hid (Pg.kFndN L q = -1) := by
        show Pg.kFndN L q = -1
        unfold Pg.kFndN Pg.kFnd
        rw [Pg.idx_none (P := fun l => l.has q) fun t ht => HR.out.1 t (by omega)]
      go_wp2_with fail
      go_ret
      exact ⟨ret_int HF.out.symm, HR.out.2⟩

set_option maxHeartbeats 4000000 in
theorem coDrop_any {b : Nat} {vb : Value} {L : List Pg.Ln} (m : Pg.Mp) (hm : Pg.fits m.p) (w : World) (h : CoAt w b vb L) :
    Calls Try.prog 14 #[.pointer (some ⟨b, 0, none⟩), m.val] w fun e w' => e = .returned (.int .i64 ((L.length : Int) - ((Pg.kDrop L m).length : Int))) ∧ ∃ vb', CoAt w' b vb' (Pg.kDrop L m) ∧ Chg b 0 (bkF b vb) w w' ∧ ∀ k, bkF b vb' k → bkF b vb k ∨ w.heap.size ≤ k := by
  have hlen := h.kept.le
  have HX : Hid _ := h
  obtain ⟨q0, hqi, hz0, hz1, hz2⟩ := info_parts infoRLine
  obtain ⟨ad, cap, rfl⟩ := h.row.form
  obtain ⟨w1, hw1⟩ : ∃ w1, w1 = w.alloc (.cells #[.int .i64 m.p, .int .i64 m.s, .int .i64 m.f, .int .i64 m.r] 39) := ⟨_, rfl⟩
  have hB : Hid (Below w.heap.size w w1) := by rw [hw1]; exact balloc (brefl _) _
  have hsz : w.heap.size < w1.heap.size := by rw [hw1]; simp
  have hmx : Hid (MpAt w1 w.heap.size 0 m) := by rw [hw1]; exact ⟨by simp [go_sem], by simp [go_sem], by simp [go_sem], by simp [go_sem]⟩
  have hlb := h.lb
  have hkd : Hid (Pg.kDrop L m = L.filter (fun l => !l.meets m)) := rfl
  have hkl : (Pg.kDrop L m).length ≤ 6 := (h.kept.drop m).le
  have HKD : Hid _ := h.kept.drop m
  generalize Pg.kDrop L m = LD at *
  clear h
  obtain ⟨mp, ms, mf, mr⟩ := m
  simp only at hw1
  simp only [Pg.Mp.val]
  go_enter Try.func14, Try.ntmps14
  go_wp2_with fail
  rw [← hw1]
  clear hw1
  go_loopw [5, 6] (fun v i wr => ∃ j : Nat, j ≤ L.length ∧ i = .int .i64 j ∧ ∃ ad cap, ∃ M : List Pg.Ln, v = .slice ad M.length cap ∧ M.length ≤ j ∧ Hid (M = (L.take j).filter (fun l => !l.meets ⟨mp, ms, mf, mr⟩) ∧ wr.ownsRow w1.heap.size 48 5 (.slice ad M.length cap) M.length (lnCells M) ∧ Below w1.heap.size w1 wr)) (fun _ i _ => L.length - (intOf i).toNat)
  case atStart => exact ⟨0, by omega, rfl, none, 0, [], rfl, by simp, ⟨by simp, World.ownsRow_nil _ _ _ _, brefl _⟩⟩
  case round =>
    obtain ⟨j, hj, rfl, ad2, cap2, M, rfl, hM, HR⟩ := hrel
    have HW : Hid _ := (HX.out.grow hB.out).grow HR.out.2.2
    have hc0 := HW.out.c0
    have i0 : (0 : Int) ≤ (j : Int) := by omega
    by_cases hlt : j < L.length
    · obtain ⟨g, o, rfl, hg, hmm⟩ := ownsAt_lines HW.out.row j hlt
      obtain ⟨k0, k1, k2, k3, k4⟩ := hmm
      have i1 : (j : Int) < (L.length : Int) := by omega
      have HC := both_any (L.getD j .zz).m.p (L.getD j .zz).m.s (L.getD j .zz).m.f (L.getD j .zz).m.r mp ms mf mr (HX.out.kept.fits hlt) hm
      obtain ⟨m0, m1, m2, m3⟩ := hmx.out.below HR.out.2.2 hsz
      simp only [Nat.zero_add] at m0 m1 m2 m3
      have hwr : w.heap.size < wr.heap.size := by have := HR.out.2.2.size; omega
      have hbr : b < wr.heap.size := HW.out.lb
      have hws : w1.heap.size ≤ wr.heap.size := HR.out.2.2.size
      have HY : Hid ((!(L.getD j .zz).meets ⟨mp, ms, mf, mr⟩) = true → (L.take (j + 1)).filter (fun l => !l.meets ⟨mp, ms, mf, mr⟩) = (L.take j).filter (fun l => !l.meets ⟨mp, ms, mf, mr⟩) ++ [L.getD j .zz]) := fun h => Pg.filter_take_yes (P := fun l => !l.meets ⟨mp, ms, mf, mr⟩) hlt h
      have HN : Hid ((!(L.getD j .zz).meets ⟨mp, ms, mf, mr⟩) = false → (L.take (j + 1)).filter (fun l => !l.meets ⟨mp, ms, mf, mr⟩) = (L.take j).filter (fun l => !l.meets ⟨mp, ms, mf, mr⟩)) := fun h => Pg.filter_take_no (P := fun l => !l.meets ⟨mp, ms, mf, mr⟩) hlt h
      have HCM : Hid (Pg.meet (L.getD j .zz).m.p (L.getD j .zz).m.s mp ms = (L.getD j .zz).meets ⟨mp, ms, mf, mr⟩) := rfl
      generalize L.getD j .zz = x at *
      obtain ⟨⟨p, s, f, r⟩, d⟩ := x
      simp only at k0 k1 k2 k3 k4
      have r0 := cell_regrown k0
      have r1 := cell_regrown k1
      have r2 := cell_regrown k2
      have r3 := cell_regrown k3
      have r4 := cell_regrown hc0
      have r5 := cell_regrown m0
      have r6 := cell_regrown m1
      have r7 := cell_regrown m2
      have r8 := cell_regrown m3
      cases hx : (Pg.Ln.mk ⟨p, s, f, r⟩ d).meets ⟨mp, ms, mf, mr⟩
      · rw [HCM.out, hx] at HC
        have HY : Hid _ := HY.out (by rw [hx]; rfl)
        clear hx HCM HN
        go_wp2_with fail
        refine wp_region_quiet_below (by kernel_rfl) (by kernel_rfl) ?_
        repeat (first
          | go_big_quiet_step ((go_at_call 50; exact Calls.regrown_of (HC _))))
        refine wpQuiet_nil ?_
        intro _ hw'
        obtain ⟨⟨dq, osq⟩, rfl⟩ := hw'
        have hb2 := below_regrown wr dq osq
        have HL2 : Hid (Below w1.heap.size w1 (grow (redrawn wr dq) osq)) := bthen HR.out.2.2 hb2
        have s0 := r0 dq osq
        have s1 := r1 dq osq
        have s2 := r2 dq osq
        have s3 := r3 dq osq
        have s4 := r4 dq osq
        have s5 := cell_later hb2 k4
        have hown := ownsMaps_below HR.out.2.1 hb2
        have hz2w := hb2.size
        have HO : Hid ((grow (redrawn wr dq) osq).ownsRow w1.heap.size 48 5 (.slice ad2 M.length cap2) M.length (lnCells M)) := hown
        generalize grow (redrawn wr dq) osq = w2 at *
        clear r0 r1 r2 r3 r4 r5 r6 r7 r8 k0 k1 k2 k3 k4 m0 m1 m2 m3 hc0 HC hb2
        go_wp2_with (first
          | (at_builtin; refine wpList_append_lies _ rfl _ _ 32 rfl w1.heap.size 48 q0 _ 5 40 Try.underlying32 hqi hz0 hz1 hz2 rfl (by decide) _ _ _ rfl (hown.alloc _) ⟨w2.heap.size, 0, none⟩ 1 1 [.int .i64 p, .int .i64 s, .int .i64 f, .int .i64 r, .bool d] rfl rfl ?c1 ?c2 (by decide) ?c3 ?c4 ?c5 (w2.heap.size + 1) (by simp) ?_))
        case c1 => exact fun j u hj => World.news_of_block (heap_alloc_new w2 _) j u hj
        case c2 => intro u hu; simp at hu; rcases hu with rfl | rfl | rfl | rfl | rfl <;> rfl
        case c3 => unfold maxLen; omega
        case c4 => omega
        case c5 => simp; omega
        intro g3 cap3 w3 hown3 hgrow hat hlt3
        have fin : Hid (M ++ [Pg.Ln.mk ⟨p, s, f, r⟩ d] = (L.take (j + 1)).filter (fun l => !l.meets ⟨mp, ms, mf, mr⟩) ∧ w3.ownsRow w1.heap.size 48 5 (.slice (some ⟨g3, 0, none⟩) (M ++ [Pg.Ln.mk ⟨p, s, f, r⟩ d]).length cap3) (M ++ [Pg.Ln.mk ⟨p, s, f, r⟩ d]).length (lnCells (M ++ [Pg.Ln.mk ⟨p, s, f, r⟩ d])) ∧ Below w1.heap.size w1 w3) :=
          ⟨by rw [HY.out, ← HR.out.1], by rw [lnCells_push, List.length_append]; exact hown3, pushedMaps HL2.out HO.out hgrow⟩
        clear hown3 hgrow hat hlt3 hown
        go_wp2_with fail
        go_roundw
        case rel => exact ⟨j + 1, by omega, by go_num, _, cap3, M ++ [Pg.Ln.mk ⟨p, s, f, r⟩ d], by simp, by simp; omega, fin.out⟩
        case measure => simp [intOf]; omega
      · rw [HCM.out, hx] at HC
        have HN : Hid _ := HN.out (by rw [hx]; rfl)
        clear hx HCM HY
        go_wp2_with fail
        refine wp_region_quiet_below (by kernel_rfl) (by kernel_rfl) ?_
        repeat (first
          | go_big_quiet_step ((go_at_call 50; exact Calls.regrown_of (HC _))))
        refine wpQuiet_nil ?_
        intro _ hw'
        obtain ⟨⟨dq, osq⟩, rfl⟩ := hw'
        have hb2 := below_regrown wr dq osq
        have HL2 : Hid (Below w1.heap.size w1 (grow (redrawn wr dq) osq)) := bthen HR.out.2.2 hb2
        have HO : Hid ((grow (redrawn wr dq) osq).ownsRow w1.heap.size 48 5 (.slice ad2 M.length cap2) M.length (lnCells M)) := ownsMaps_below HR.out.2.1 hb2
        generalize grow (redrawn wr dq) osq = w2 at *
        clear r0 r1 r2 r3 r4 r5 r6 r7 r8 k0 k1 k2 k3 k4 m0 m1 m2 m3 hc0 HC hb2
        go_wp2_with fail
        go_roundw
        case rel => exact ⟨j + 1, by omega, by go_num, _, cap2, M, rfl, by omega, by rw [HN.out]; exact HR.out.1, HO.out, HL2.out⟩
        case measure => simp [intOf]; omega
    · have i1 : ¬ (j : Int) < (L.length : Int) := by omega
      have hMe : M = LD := by rw [HR.out.1, hkd.out, List.take_of_length_le (by omega)]
      have hfb := HW.out.fb 0
      have hbr : b < wr.heap.size := HW.out.lb
      have HF : Hid _ := HX.out.put (W := wr) (L' := M) (v' := .slice ad2 M.length cap2) ((But.of_below (bthen hB.out HR.out.2.2))) (OwnsAt.of_row HR.out.2.1) (fun j hj => .inr (by have := (HR.out.2.1.lt j hj).1; omega)) (by rw [hMe]; exact HKD.out)
      go_wp2_with fail
      go_ret
      obtain ⟨f1, f2, f3⟩ := HF.out
      rw [hMe] at f1 f2 f3
      exact ⟨rfl, _, f1, f2, f3⟩
end Go.Proofs.Ytbkpndgadgafiae

namespace Go.Proofs.Ytbkpndgadgafiae
open Go.RowKit Go.Sort
set_option maxRecDepth 100000
set_option linter.unusedVariables false

/-- The oldest line goes. -/
theorem CoAt.evict {w : World} {b g o cap : Nat} {L : List Pg.Ln} (h : CoAt w b (.slice (some ⟨g, o, none⟩) L.length cap) L) (h0 : 0 < L.length) {o' : Nat} (ho : o' = o + 5 ∨ (cap = 1 ∧ o' = o)) :
    CoAt (w.setCell ⟨b, 0, none⟩ (.slice (some ⟨g, o', none⟩) (L.length - 1) (cap - 1))) b (.slice (some ⟨g, o', none⟩) (L.length - 1) (cap - 1)) (L.drop 1) ∧ Chg b 0 (bkF b (.slice (some ⟨g, o, none⟩) L.length cap)) w (w.setCell ⟨b, 0, none⟩ (.slice (some ⟨g, o', none⟩) (L.length - 1) (cap - 1))) ∧ (∀ k, bkF b (.slice (some ⟨g, o', none⟩) (L.length - 1) (cap - 1)) k → bkF b (.slice (some ⟨g, o, none⟩) L.length cap) k ∨ w.heap.size ≤ k) := by
  have ht := h.row.tail h0 ho
  have e := (lnCells_cut L 1).2
  rw [show 1 * 5 = 5 from rfl] at e
  rw [e] at ht
  exact h.put (But.refl _ w) (by rw [List.length_drop]; exact ht) (fun j hj => .inl hj) h.kept.tail

set_option maxHeartbeats 4000000 in
theorem coPut_any {b : Nat} {vb : Value} {L : List Pg.Ln} (l : Pg.Ln) (hm : Pg.fits l.m.p) (w : World) (h : CoAt w b vb L) :
    Calls Try.prog 11 #[.pointer (some ⟨b, 0, none⟩), l.val] w fun e w' => e = .returned (.bool (l.m.code == 0)) ∧ ∃ vb', CoAt w' b vb' (Pg.kPut L l) ∧ Chg b 0 (bkF b vb) w w' ∧ ∀ k, bkF b vb' k → bkF b vb k ∨ w.heap.size ≤ k := by
  have HX : Hid _ := h
  have hlF : ∀ k, bkF b vb k → k < w.heap.size := fun k hk => h.lt hk
  have HCK := mapFault_any l.m.p l.m.s l.m.f l.m.r
  have hlb : b < w.heap.size := h.lb
  by_cases hcode : l.m.code = 0
  · have hce : Pg.check l.m.p l.m.s l.m.f l.m.r = 0 := hcode
    rw [hce] at HCK
    have hr : (l.m.code == 0) = true := by simp [hcode]
    have HKK : Hid (Pg.Kept (Pg.kPut L l)) := h.kept.put l
    have HLL : Hid ((Pg.kDrop L l.m).length ≤ 6) := (h.kept.drop l.m).le
    have HD := fun w' (hb : Below w.heap.size w w') => coDrop_any l.m hm w' (h.grow hb)
    rw [hr]
    rw [Pg.kPut_yes hcode] at HKK ⊢
    clear h hcode hce hr
    generalize Pg.kDrop L l.m = L1 at *
    obtain ⟨L2, hL2⟩ : ∃ L2, L2 = Pg.kRoom L1 := ⟨_, rfl⟩
    rw [← hL2] at HKK
    have HLR : Hid (L2.length ≤ 5) := by rw [hL2]; exact Pg.kRoom_len HLL.out
    have HL2 : Hid (L2 = Pg.kRoom L1) := hL2
    clear hL2
    generalize bkF b vb = F at *
    obtain ⟨⟨mp, ms, mf, mr⟩, d⟩ := l
    simp only [Pg.Ln.val, Pg.Mp.val] at *
    go_enter Try.func11, Try.ntmps11
    go_wp2_with fail
    refine (HCK _).mono ?_
    rintro e w1 ⟨rfl, hb1⟩
    have hx1 : ∀ p, w1.cell? ⟨w.heap.size, p, none⟩ = _ := fun p => hb1.cell (p := ⟨w.heap.size, p, none⟩) (by simp)
    have hbb : Below w.heap.size w w1 := bthen (balloc (brefl _) _) hb1
    have hs1 : w.heap.size < w1.heap.size := by have := hb1.size; simp at this; omega
    have HB1 : Hid _ := hbb
    clear hb1 hbb HCK
    go_wp2_with fail
    refine (HD _ HB1.out).mono ?_
    rintro e w2 ⟨rfl, vb2, h2, hc2, hF2⟩
    have hnx : ¬ F w.heap.size := fun hf => by have := hlF _ hf; omega
    have hx2 : ∀ p, w2.cell? ⟨w.heap.size, p, none⟩ = _ := fun p => (hc2.but.cell (a := ⟨w.heap.size, p, none⟩) hs1 hnx).trans (hx1 p)
    have hs2 : w.heap.size < w2.heap.size := Nat.lt_of_lt_of_le hs1 hc2.but.size
    have HC2 : Hid (Chg b 0 F w w2) := (Chg.of_below (o := 0) HB1.out hlb).trans hc2 (fun i _ hi => hi)
    have hF2 : Hid (∀ k, bkF b vb2 k → F k ∨ w.heap.size < k) := fun k hk => (hF2 k hk).imp id (fun h => by omega)
    obtain ⟨ad2, cap2, rfl⟩ := h2.row.form
    have c20 := h2.c0
    have l20 := h2.lb
    have cf20 := h2.fb 0
    clear hc2 HD hx1 HX
    by_cases h6 : L1.length = 6
    · have i6 : ((L1.length : Int) == 6) = true := by simp [h6]
      have eR : L1.drop 1 = L2 := by rw [HL2.out]; simp [Pg.kRoom, h6]
      have eL : L1.length - 1 = L2.length := by rw [← eR, List.length_drop]
      obtain ⟨g2, o2, cp, e, hg2, hn2, hn3⟩ := h2.row.shape (by omega)
      cases e
      have H2 : Hid _ := h2
      have j1 : (1 : Int) ≤ (L1.length : Int) := by omega
      have j2 : ¬ (cap2 = 1) := by omega
      have j3 : cap2 ≤ 9223372036854775807 := by unfold maxLen at hn3; omega
      obtain ⟨e1, e2, e3⟩ := H2.out.evict (by omega) (o' := o2 + 5) (.inl rfl)
      rw [eR] at e1
      rw [eL] at e1 e2 e3
      obtain ⟨w3, hw3⟩ : ∃ w3, w3 = w2.setCell ⟨b, 0, none⟩ (.slice (some ⟨g2, o2 + 5, none⟩) L2.length (cap2 - 1)) := ⟨_, rfl⟩
      rw [← hw3] at e1 e2
      have hnx2 : ¬ bkF b (.slice (some ⟨g2, o2, none⟩) L1.length cap2) w.heap.size := fun hf => (hF2.out _ hf).elim hnx (fun h => by omega)
      have hx3 : ∀ p, w3.cell? ⟨w.heap.size, p, none⟩ = _ := fun p => (e2.but.cell (a := ⟨w.heap.size, p, none⟩) hs2 hnx2).trans (hx2 p)
      have lx3 : w.heap.size < w3.heap.size := Nat.lt_of_lt_of_le hs2 e2.but.size
      have HC3 : Hid (Chg b 0 F w w3) := HC2.out.trans e2 (fun i hi hg => (hF2.out i hg).elim id (fun h => by omega))
      have HF3 : Hid (∀ k, bkF b (.slice (some ⟨g2, o2 + 5, none⟩) L2.length (cap2 - 1)) k → F k ∨ w.heap.size ≤ k) := fun k hk => (e3 k hk).elim (fun h => (hF2.out k h).imp id (fun h => by omega)) (fun h => .inr (by omega))
      have x0 : w3.cell? ⟨w.heap.size, 0, none⟩ = some (.int .i64 mp) := (hx3 0).trans (by simp [go_sem])
      have x1 : w3.cell? ⟨w.heap.size, 1, none⟩ = some (.int .i64 ms) := (hx3 1).trans (by simp [go_sem])
      have x2 : w3.cell? ⟨w.heap.size, 2, none⟩ = some (.int .i64 mf) := (hx3 2).trans (by simp [go_sem])
      have x3 : w3.cell? ⟨w.heap.size, 3, none⟩ = some (.int .i64 mr) := (hx3 3).trans (by simp [go_sem])
      have x4 : w3.cell? ⟨w.heap.size, 4, none⟩ = some (.bool d) := (hx3 4).trans (by simp [go_sem])
      have t3 : Hid _ := e1
      clear hx3 hx2 h2 e2 e3 e1 hg2 hn3 h6
      go_wp2_with fail
      rw [← hw3]
      have t3 := t3.out
      clear c20 hw3 cf20
      obtain ⟨ad3, cap3, hv3⟩ : ∃ ad3 cap3, Value.slice (some ⟨g2, o2 + 5, none⟩) L2.length (cap2 - 1) = .slice ad3 L2.length cap3 := ⟨_, _, rfl⟩
      rw [hv3] at t3 HF3
      clear hv3

      have hown := t3.row
      have r0 := t3.c0
      have rf := t3.fb 0
      have hlk := t3.lb
      have hn3 := t3.nb
      have hlen3 : L2.length ≤ 5 := HLR.out
      have HT3 : Hid _ := t3
      have HK3 : Hid (Pg.Kept (L2 ++ [⟨⟨mp, ms, mf, mr⟩, d⟩])) := HKK.out
      obtain ⟨q0, hqi, hz0, hz1, hz2⟩ := info_parts infoRLine
      have hone : ∀ u, u ∈ [Value.int .i64 mp, .int .i64 ms, .int .i64 mf, .int .i64 mr, .bool d] → u.oneCell' = true := by
        intro u hu; simp at hu; rcases hu with rfl | rfl | rfl | rfl | rfl <;> rfl
      have hm1 : L2.length + 1 ≤ maxLen := by unfold maxLen; omega
      have hm2 : (L2.length + 1) * 40 ≤ 140737488355328 := by omega
      have hlx : w.heap.size < w3.heap.size := lx3
      have hown' : OwnsAt (w3.alloc (.cells #[.int .i64 mp, .int .i64 ms, .int .i64 mf, .int .i64 mr, .bool d] 48)).drew 48 5 (.slice ad3 L2.length cap3) L2.length (lnCells L2) := hown.but (F := fun _ => False) (((But.refl _ w3).alloc _).drew) (fun _ _ => id)
      obtain ⟨g6, o6, cap6, w6, hrun, hO, hBt, hA⟩ := run_append_at (P := Try.prog) (w3.alloc (.cells #[.int .i64 mp, .int .i64 ms, .int .i64 mf, .int .i64 mr, .bool d] 48)).drew 32 32 48 q0 _ 5 40 Try.underlying32 hqi hz0 hz1 hz2 rfl (by decide) _ _ _ hown' ⟨w3.heap.size, 0, none⟩ 1 1 [.int .i64 mp, .int .i64 ms, .int .i64 mf, .int .i64 mr, .bool d] rfl (fun j u hj => World.news_of_block (heap_alloc_new w3 _) j u hj) hone (by decide) hm1 hm2
      have hB6 : But (fun j => (Value.slice ad3 L2.length cap3).ownBlock = some j) w3 w6 := ((But.refl _ w3).alloc _).drew.trans hBt (fun _ _ h => h)
      have hk6 : w6.heap[b]? = w3.heap[b]? := hB6.block b hlk hn3
      have e9 : w6.cell? ⟨b, 0, none⟩ = some (.slice ad3 L2.length cap3) := (World.cell?_of_block hk6).trans r0
      have ef9 : w6.frozen? ⟨b, 0, none⟩ = false := (World.frozen?_of_block hk6).trans rf
      have hr6 : OwnsAt w6 48 5 (.slice (some ⟨g6, o6, none⟩) (L2.length + 1) cap6) (L2 ++ [Pg.Ln.mk ⟨mp, ms, mf, mr⟩ d]).length (lnCells (L2 ++ [Pg.Ln.mk ⟨mp, ms, mf, mr⟩ d])) := by
        rw [lnCells_push, List.length_append]
        exact hO
      have HF : Hid _ := HT3.out.put hB6 hr6 (fun j hj => by
        rcases hA with h | h
        · exact .inl (h.trans hj)
        · exact .inr (by simp [Value.ownBlock] at hj; simp at h; omega)) HK3.out
      have hlk6 : b < w6.heap.size := Nat.lt_of_lt_of_le hlk hB6.size
      clear t3 lx3 hr6 hB6 hO hA hBt hk6 hown hown'
      go_wp2_with fail
      go_region_law (refine step_append_known rfl (.tmp 31) (.tmp 33) 32 32 rfl (.slice ad3 L2.length cap3) (.slice (some ⟨w3.heap.size, 0, none⟩) 1 1) (by simp [Act.eval]) (by simp [Act.eval]) hrun ?_)
      all_goals
        go_wp2_with fail
        go_ret
        obtain ⟨f1, f2, f3⟩ := HF.out
        refine ⟨rfl, _, by rw [← HL2.out]; exact f1, HC3.out.trans f2 (fun i hi hg => (HF3.out i hg).elim id (fun h => by omega)), fun k hk => (f3 k hk).elim (HF3.out k) (fun h => .inr (by omega))⟩
    · have i6 : ((L1.length : Int) == 6) = false := by
        have : ¬ ((L1.length : Int) = 6) := by omega
        simpa using this
      have eR : L1 = L2 := by rw [HL2.out]; simp [Pg.kRoom, h6]
      rw [eR] at h2 c20 i6 hF2
      clear eR
      have HC3 : Hid _ := HC2.out
      have HF3 : Hid (∀ k, bkF b (.slice ad2 L2.length cap2) k → F k ∨ w.heap.size ≤ k) := fun k hk => (hF2.out k hk).imp id (fun h => by omega)
      have t3 : Hid _ := h2
      have x0 : w2.cell? ⟨w.heap.size, 0, none⟩ = some (.int .i64 mp) := (hx2 0).trans (by simp [go_sem])
      have x1 : w2.cell? ⟨w.heap.size, 1, none⟩ = some (.int .i64 ms) := (hx2 1).trans (by simp [go_sem])
      have x2 : w2.cell? ⟨w.heap.size, 2, none⟩ = some (.int .i64 mf) := (hx2 2).trans (by simp [go_sem])
      have x3 : w2.cell? ⟨w.heap.size, 3, none⟩ = some (.int .i64 mr) := (hx2 3).trans (by simp [go_sem])
      have x4 : w2.cell? ⟨w.heap.size, 4, none⟩ = some (.bool d) := (hx2 4).trans (by simp [go_sem])
      have lx3 : w.heap.size < w2.heap.size := hs2
      clear hx2 h2 l20
      go_wp2_with fail
      clear c20 cf20
      have t3 := t3.out
      generalize w2 = w3 at *
      generalize ad2 = ad3 at *
      generalize cap2 = cap3 at *

      have hown := t3.row
      have r0 := t3.c0
      have rf := t3.fb 0
      have hlk := t3.lb
      have hn3 := t3.nb
      have hlen3 : L2.length ≤ 5 := HLR.out
      have HT3 : Hid _ := t3
      have HK3 : Hid (Pg.Kept (L2 ++ [⟨⟨mp, ms, mf, mr⟩, d⟩])) := HKK.out
      obtain ⟨q0, hqi, hz0, hz1, hz2⟩ := info_parts infoRLine
      have hone : ∀ u, u ∈ [Value.int .i64 mp, .int .i64 ms, .int .i64 mf, .int .i64 mr, .bool d] → u.oneCell' = true := by
        intro u hu; simp at hu; rcases hu with rfl | rfl | rfl | rfl | rfl <;> rfl
      have hm1 : L2.length + 1 ≤ maxLen := by unfold maxLen; omega
      have hm2 : (L2.length + 1) * 40 ≤ 140737488355328 := by omega
      have hlx : w.heap.size < w3.heap.size := lx3
      have hown' : OwnsAt (w3.alloc (.cells #[.int .i64 mp, .int .i64 ms, .int .i64 mf, .int .i64 mr, .bool d] 48)).drew 48 5 (.slice ad3 L2.length cap3) L2.length (lnCells L2) := hown.but (F := fun _ => False) (((But.refl _ w3).alloc _).drew) (fun _ _ => id)
      obtain ⟨g6, o6, cap6, w6, hrun, hO, hBt, hA⟩ := run_append_at (P := Try.prog) (w3.alloc (.cells #[.int .i64 mp, .int .i64 ms, .int .i64 mf, .int .i64 mr, .bool d] 48)).drew 32 32 48 q0 _ 5 40 Try.underlying32 hqi hz0 hz1 hz2 rfl (by decide) _ _ _ hown' ⟨w3.heap.size, 0, none⟩ 1 1 [.int .i64 mp, .int .i64 ms, .int .i64 mf, .int .i64 mr, .bool d] rfl (fun j u hj => World.news_of_block (heap_alloc_new w3 _) j u hj) hone (by decide) hm1 hm2
      have hB6 : But (fun j => (Value.slice ad3 L2.length cap3).ownBlock = some j) w3 w6 := ((But.refl _ w3).alloc _).drew.trans hBt (fun _ _ h => h)
      have hk6 : w6.heap[b]? = w3.heap[b]? := hB6.block b hlk hn3
      have e9 : w6.cell? ⟨b, 0, none⟩ = some (.slice ad3 L2.length cap3) := (World.cell?_of_block hk6).trans r0
      have ef9 : w6.frozen? ⟨b, 0, none⟩ = false := (World.frozen?_of_block hk6).trans rf
      have hr6 : OwnsAt w6 48 5 (.slice (some ⟨g6, o6, none⟩) (L2.length + 1) cap6) (L2 ++ [Pg.Ln.mk ⟨mp, ms, mf, mr⟩ d]).length (lnCells (L2 ++ [Pg.Ln.mk ⟨mp, ms, mf, mr⟩ d])) := by
        rw [lnCells_push, List.length_append]
        exact hO
      have HF : Hid _ := HT3.out.put hB6 hr6 (fun j hj => by
        rcases hA with h | h
        · exact .inl (h.trans hj)
        · exact .inr (by simp [Value.ownBlock] at hj; simp at h; omega)) HK3.out
      have hlk6 : b < w6.heap.size := Nat.lt_of_lt_of_le hlk hB6.size
      clear t3 lx3 hr6 hB6 hO hA hBt hk6 hown hown'
      go_wp2_with fail
      go_region_law (refine step_append_known rfl (.tmp 31) (.tmp 33) 32 32 rfl (.slice ad3 L2.length cap3) (.slice (some ⟨w3.heap.size, 0, none⟩) 1 1) (by simp [Act.eval]) (by simp [Act.eval]) hrun ?_)
      all_goals
        go_wp2_with fail
        go_ret
        obtain ⟨f1, f2, f3⟩ := HF.out
        refine ⟨rfl, _, by rw [← HL2.out]; exact f1, HC3.out.trans f2 (fun i hi hg => (HF3.out i hg).elim id (fun h => by omega)), fun k hk => (f3 k hk).elim (HF3.out k) (fun h => .inr (by omega))⟩
  · have hr : (l.m.code == 0) = false := by simp [hcode]
    have hne : (Pg.check l.m.p l.m.s l.m.f l.m.r != 0) = true := by
      have : Pg.check l.m.p l.m.s l.m.f l.m.r ≠ 0 := hcode
      simpa using this
    rw [hr, Pg.kPut_no hcode]
    clear hcode hr h
    obtain ⟨⟨mp, ms, mf, mr⟩, d⟩ := l
    simp only at HCK hne
    simp only [Pg.Ln.val]
    generalize Pg.check mp ms mf mr = x at *
    go_enter Try.func11, Try.ntmps11
    go_wp2_with fail
    refine (HCK _).mono ?_
    rintro e w1 ⟨rfl, hb1⟩
    have HB : Hid (Below w.heap.size w w1) := bthen (balloc (brefl _) _) hb1
    clear hb1
    go_wp2_with fail
    go_ret
    exact ⟨rfl, _, HX.out.grow HB.out, Chg.of_below HB.out hlb, fun k hk => .inl hk⟩
end Go.Proofs.Ytbkpndgadgafiae
