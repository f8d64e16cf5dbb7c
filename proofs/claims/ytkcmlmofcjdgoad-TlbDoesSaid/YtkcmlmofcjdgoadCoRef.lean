
/-
  The document's own kept lines: where they lie, and what asking them answers: Kept, Drop.
-/
import Derived.Test.YtkcmlmofcjdgoadChecked
import Derived.Test.YtkcmlmofcjdgoadLineRow
import Derived.Test.YtkcmlmofcjdgoadPageRef
import Derived.Test.YtkcmlmofcjdgoadTlbA
import Derived.Deep.AppendLies
namespace Go.Proofs.Ytkcmlmofcjdgoad
open Go.RowKit Go.Sort
set_option maxRecDepth 100000
set_option linter.unusedVariables false

theorem infoRLine : (Try.prog.info? 41).map (fun i => (i.zero, i.size, i.bytes)) = some (some (.agg #[.int .i64 0, .int .i64 0, .int .i64 0, .int .i64 0, .bool false]), 5, 40) := by kernel_rfl

/-- A core's lines L: its block b holds the row vb of them, in its first cell. -/
structure CoAt (w : World) (b : Nat) (vb : Value) (L : List Pg.Ln) : Prop where
  c0 : w.cell? ⟨b, 0, none⟩ = some vb
  fb : ∀ p, w.frozen? ⟨b, p, none⟩ = false
  row : OwnsAt w 41 5 vb L.length (lnCells L)
  nb : vb.ownBlock ≠ some b
  kept : Pg.Kept L
namespace CoAt
variable {w w' W : World} {b : Nat} {vb v' : Value} {L L' : List Pg.Ln}
theorem lb (h : CoAt w b vb L) : b < w.heap.size := World.block_lt_of_cell? _ _ h.c0
theorem lt (h : CoAt w b vb L) {k : Nat} (hk : bkF b vb k) : k < w.heap.size := by
  rcases hk with rfl | hk
  · exact h.lb
  · exact h.row.lt k hk
theorem keep (h : CoAt w b vb L) {F : Nat → Prop} (hb : But F w w') (hF : ∀ k, bkF b vb k → ¬ F k) : CoAt w' b vb L := by
  have kb := hb.block b h.lb (hF b (.inl rfl))
  exact ⟨(World.cell?_of_block kb).trans h.c0, fun p => (World.frozen?_of_block kb).trans (h.fb p), h.row.but hb fun k hk => hF k (.inr hk), h.nb, h.kept⟩
theorem grow (h : CoAt w b vb L) (hb : Below w.heap.size w w') : CoAt w' b vb L := h.keep (F := fun _ => False) (But.of_below hb) (fun _ _ => id)
/-- The row has been written, or laid anew, and is stored. -/
theorem put (h : CoAt w b vb L) (hb : But (fun j => vb.ownBlock = some j) w W) (hr : OwnsAt W 41 5 v' L'.length (lnCells L')) (hv : ∀ j, v'.ownBlock = some j → vb.ownBlock = some j ∨ w.heap.size ≤ j) (hg : Pg.Kept L') :
    CoAt (W.setCell ⟨b, 0, none⟩ v') b v' L' ∧ Chg b 0 (bkF b vb) w (W.setCell ⟨b, 0, none⟩ v') ∧ (∀ k, bkF b v' k → bkF b vb k ∨ w.heap.size ≤ k) := by
  have hl := h.lb
  have kb : W.heap[b]? = w.heap[b]? := hb.block b hl h.nb
  have hc : W.cell? ⟨b, 0, none⟩ = some vb := (World.cell?_of_block (a := ⟨b, 0, none⟩) kb).trans h.c0
  have hne : v'.ownBlock ≠ some b := fun e => (hv b e).elim h.nb (fun h => by omega)
  refine ⟨⟨World.cell?_setCell_same _ _ _ hc, fun p => ?_, ?_, hne, hg⟩, ⟨?_, fun p hp => ?_⟩, fun k hk => ?_⟩
  · have := (World.frozen?_of_block (a := ⟨b, p, none⟩) kb).trans (h.fb p)
    simpa using this
  · exact hr.of_block fun k hk => Below.heap_setCell _ _ _ _ (fun e => hne (by rw [hk]; exact congrArg some e))
  · exact (hb.mono (G := bkF b vb) fun i _ hi => .inr hi).setCell (a := ⟨b, 0, none⟩) (.inr (.inl rfl)) _
  · rw [World.cell?_setCell_other _ _ _ _ (fun e => hp (by injection e with _ e; exact e.symm))]
    exact World.cell?_of_block (a := ⟨b, p, none⟩) kb
  · rcases hk with rfl | hk
    · exact .inl (.inl rfl)
    · exact (hv k hk).imp .inr id
end CoAt

theorem coKept_any {b : Nat} {vb : Value} {L : List Pg.Ln} (q : Int) (hq : Pg.fits q) (w : World) (h : CoAt w b vb L) :
    Calls Try.prog 17 #[.pointer (some ⟨b, 0, none⟩), .int .i64 q] w fun e w' => e = .returned (.int .i64 (Pg.kFndN L q)) ∧ Below w.heap.size w w' := by
  obtain ⟨ad, cap, rfl⟩ := h.row.form
  have hlen := h.kept.le
  have HB : Hid _ := h
  clear h
  go_enter Try.func17, Try.ntmps17
  go_wp2_with fail
  go_loopw [5] (fun i wr => ∃ j : Nat, j ≤ L.length ∧ i = .int .i64 j ∧ Hid ((∀ t, t < j → (L.getD t .zz).has q = false) ∧ Below w.heap.size w wr)) (fun i _ => L.length - (intOf i).toNat)
  case atStart => exact ⟨0, by omega, rfl, ⟨fun t ht => by omega, brefl _⟩⟩
  case round =>
    obtain ⟨j, hj, rfl, HR⟩ := hrel
    have hc0 := (HB.out.grow HR.out.2).c0
    have i0 : (0 : Int) ≤ (j : Int) := by omega
    by_cases hlt : j < L.length
    · obtain ⟨g, o, rfl, hg, hm⟩ := ownsAt_lines (HB.out.grow HR.out.2).row j hlt
      obtain ⟨k0, k1, k2, k3, k4⟩ := hm
      have i1 : (j : Int) < (L.length : Int) := by omega
      have HC := refHas_any (L.getD j .zz).m.p (L.getD j .zz).m.s (L.getD j .zz).m.f (L.getD j .zz).m.r q (HB.out.kept.fits hlt) hq wr
      cases hh : (L.getD j .zz).has q
      · have HN : Hid (∀ t, t < j + 1 → (L.getD t .zz).has q = false) := fun t ht => by
          by_cases e : t = j
          · rw [e]; exact hh
          · exact HR.out.1 t (by omega)
        rw [show Pg.over (L.getD j .zz).m.p (L.getD j .zz).m.s q = false from hh] at HC
        clear hh
        generalize L.getD j .zz = x at *
        obtain ⟨⟨p, s, f, r⟩, d⟩ := x
        go_wp2_with (go_at_call 22; refine HC.mono ?_; rintro e w1 ⟨rfl, hb1⟩; have HN1 : Hid _ := bthen HR.out.2 hb1; clear hb1)
        go_roundw
        case rel => exact ⟨j + 1, by omega, by go_num, ⟨HN.out, HN1.out⟩⟩
        case measure => simp [intOf]; omega
      · have HF : Hid (Pg.kFndN L q = (j : Int)) := by
          show Pg.kFndN L q = (j : Int)
          unfold Pg.kFndN Pg.kFnd
          rw [Pg.idx_some (P := fun l => l.has q) hlt hh HR.out.1]
        rw [show Pg.over (L.getD j .zz).m.p (L.getD j .zz).m.s q = true from hh] at HC
        clear hh
        generalize L.getD j .zz = x at *
        obtain ⟨⟨p, s, f, r⟩, d⟩ := x
        go_wp2_with (go_at_call 22; refine HC.mono ?_; rintro e w1 ⟨rfl, hb1⟩; have HN1 : Hid _ := bthen HR.out.2 hb1; clear hb1)
        go_ret
        exact ⟨ret_int HF.out.symm, HN1.out⟩
    · have i1 : ¬ (j : Int) < (L.length : Int) := by omega
      have HF : Hid (Pg.kFndN L q = -1) := by
        show Pg.kFndN L q = -1
        unfold Pg.kFndN Pg.kFnd
        rw [Pg.idx_none (P := fun l => l.has q) fun t ht => HR.out.1 t (by omega)]
      go_wp2_with fail
      go_ret
      exact ⟨ret_int HF.out.symm, HR.out.2⟩

set_option maxHeartbeats 4000000 in
theorem coDrop_any {b : Nat} {vb : Value} {L : List Pg.Ln} (m : Pg.Mp) (hm : Pg.fits m.p) (w : World) (h : CoAt w b vb L) :
    Calls Try.prog 14 #[.pointer (some ⟨b, 0, none⟩), m.val] w fun e w' => e = .returned (.int .i64 ((L.length : Int) - ((Pg.kDrop L m).length : Int))) ∧ ∃ vb', CoAt w' b vb' (Pg.kDrop L m) ∧ Chg b 0 (bkF b vb) w w' ∧ ∀ k, bkF b vb' k → bkF b vb k ∨ w.heap.size ≤ k := by
  have hlen := h.kept.le
  have HX : Hid _ := h
  obtain ⟨q0, hqi, hz0, hz1, hz2⟩ := info_parts infoRLine
  obtain ⟨ad, cap, rfl⟩ := h.row.form
  obtain ⟨w1, hw1⟩ : ∃ w1, w1 = w.alloc (.cells #[.int .i64 m.p, .int .i64 m.s, .int .i64 m.f, .int .i64 m.r] 34) := ⟨_, rfl⟩
  have hB : Hid (Below w.heap.size w w1) := by rw [hw1]; exact balloc (brefl _) _
  have hsz : w.heap.size < w1.heap.size := by rw [hw1]; simp
  have hmx : Hid (MpAt w1 w.heap.size 0 m) := by rw [hw1]; exact ⟨by simp [go_sem], by simp [go_sem], by simp [go_sem], by simp [go_sem]⟩
  have hlb := h.lb
  have hkd : Hid (Pg.kDrop L m = L.filter (fun l => !l.meets m)) := rfl
  have hkl : (Pg.kDrop L m).length ≤ 6 := (h.kept.drop m).le
  have HKD : Hid _ := h.kept.drop m
  generalize Pg.kDrop L m = LD at *
  clear h
  obtain ⟨mp, ms, mf, mr⟩ := m
  simp only at hw1
  simp only [Pg.Mp.val]
  go_enter Try.func14, Try.ntmps14
  go_wp2_with fail
  rw [← hw1]
  clear hw1
  go_loopw [5, 6] (fun v i wr => ∃ j : Nat, j ≤ L.length ∧ i = .int .i64 j ∧ ∃ ad cap, ∃ M : List Pg.Ln, v = .slice ad M.length cap ∧ M.length ≤ j ∧ Hid (M = (L.take j).filter (fun l => !l.meets ⟨mp, ms, mf, mr⟩) ∧ wr.ownsRow w1.heap.size 41 5 (.slice ad M.length cap) M.length (lnCells M) ∧ Below w1.heap.size w1 wr)) (fun _ i _ => L.length - (intOf i).toNat)
  case atStart => exact ⟨0, by omega, rfl, none, 0, [], rfl, by simp, ⟨by simp, World.ownsRow_nil _ _ _ _, brefl _⟩⟩
  case round =>
    obtain ⟨j, hj, rfl, ad2, cap2, M, rfl, hM, HR⟩ := hrel
    have HW : Hid _ := (HX.out.grow hB.out).grow HR.out.2.2
    have hc0 := HW.out.c0
    have i0 : (0 : Int) ≤ (j : Int) := by omega
    by_cases hlt : j < L.length
    · obtain ⟨g, o, rfl, hg, hmm⟩ := ownsAt_lines HW.out.row j hlt
      obtain ⟨k0, k1, k2, k3, k4⟩ := hmm
      have i1 : (j : Int) < (L.length : Int) := by omega
      have HC := both_any (L.getD j .zz).m.p (L.getD j .zz).m.s (L.getD j .zz).m.f (L.getD j .zz).m.r mp ms mf mr (HX.out.kept.fits hlt) hm
      obtain ⟨m0, m1, m2, m3⟩ := hmx.out.below HR.out.2.2 hsz
      simp only [Nat.zero_add] at m0 m1 m2 m3
      have hwr : w.heap.size < wr.heap.size := by have := HR.out.2.2.size; omega
      have hbr : b < wr.heap.size := HW.out.lb
      have hws : w1.heap.size ≤ wr.heap.size := HR.out.2.2.size
      have HY : Hid ((!(L.getD j .zz).meets ⟨mp, ms, mf, mr⟩) = true → (L.take (j + 1)).filter (fun l => !l.meets ⟨mp, ms, mf, mr⟩) = (L.take j).filter (fun l => !l.meets ⟨mp, ms, mf, mr⟩) ++ [L.getD j .zz]) := fun h => Pg.filter_take_yes (P := fun l => !l.meets ⟨mp, ms, mf, mr⟩) hlt h
      have HN : Hid ((!(L.getD j .zz).meets ⟨mp, ms, mf, mr⟩) = false → (L.take (j + 1)).filter (fun l => !l.meets ⟨mp, ms, mf, mr⟩) = (L.take j).filter (fun l => !l.meets ⟨mp, ms, mf, mr⟩)) := fun h => Pg.filter_take_no (P := fun l => !l.meets ⟨mp, ms, mf, mr⟩) hlt h
      have HCM : Hid (Pg.meet (L.getD j .zz).m.p (L.getD j .zz).m.s mp ms = (L.getD j .zz).meets ⟨mp, ms, mf, mr⟩) := rfl
      generalize L.getD j .zz = x at *
      obtain ⟨⟨p, s, f, r⟩, d⟩ := x
      simp only at k0 k1 k2 k3 k4
      have r0 := cell_regrown k0
      have r1 := cell_regrown k1
      have r2 := cell_regrown k2
      have r3 := cell_regrown k3
      have r4 := cell_regrown hc0
      have r5 := cell_regrown m0
      have r6 := cell_regrown m1
      have r7 := cell_regrown m2
      have r8 := cell_regrown m3
      cases hx : (Pg.Ln.mk ⟨p, s, f, r⟩ d).meets ⟨mp, ms, mf, mr⟩
      · rw [HCM.out, hx] at HC
        have HY : Hid _ := HY.out (by rw [hx]; rfl)
        clear hx HCM HN
        go_wp2_with fail
        refine wp_region_quiet_below (by kernel_rfl) (by kernel_rfl) ?_
        repeat (first
          | go_big_quiet_step ((go_at_call 21; exact Calls.regrown_of (HC _))))
        refine wpQuiet_nil ?_
        intro _ hw'
        obtain ⟨⟨dq, osq⟩, rfl⟩ := hw'
        have hb2 := below_regrown wr dq osq
        have HL2 : Hid (Below w1.heap.size w1 (grow (redrawn wr dq) osq)) := bthen HR.out.2.2 hb2
        have s0 := r0 dq osq
        have s1 := r1 dq osq
        have s2 := r2 dq osq
        have s3 := r3 dq osq
        have s4 := r4 dq osq
        have s5 := cell_later hb2 k4
        have hown := ownsMaps_below HR.out.2.1 hb2
        have hz2w := hb2.size
        have HO : Hid ((grow (redrawn wr dq) osq).ownsRow w1.heap.size 41 5 (.slice ad2 M.length cap2) M.length (lnCells M)) := hown
        generalize grow (redrawn wr dq) osq = w2 at *
        clear r0 r1 r2 r3 r4 r5 r6 r7 r8 k0 k1 k2 k3 k4 m0 m1 m2 m3 hc0 HC hb2
        go_wp2_with (first
          | (at_builtin; refine wpList_append_lies _ rfl _ _ 27 rfl w1.heap.size 41 q0 _ 5 40 Try.underlying27 hqi hz0 hz1 hz2 rfl (by decide) _ _ _ rfl (hown.alloc _) ⟨w2.heap.size, 0, none⟩ 1 1 [.int .i64 p, .int .i64 s, .int .i64 f, .int .i64 r, .bool d] rfl rfl ?c1 ?c2 (by decide) ?c3 ?c4 ?c5 (w2.heap.size + 1) (by simp) ?_))
        case c1 => exact fun j u hj => World.news_of_block (heap_alloc_new w2 _) j u hj
        case c2 => intro u hu; simp at hu; rcases hu with rfl | rfl | rfl | rfl | rfl <;> rfl
        case c3 => unfold maxLen; omega
        case c4 => omega
        case c5 => simp; omega
        intro g3 cap3 w3 hown3 hgrow hat hlt3
        have fin : Hid (M ++ [Pg.Ln.mk ⟨p, s, f, r⟩ d] = (L.take (j + 1)).filter (fun l => !l.meets ⟨mp, ms, mf, mr⟩) ∧ w3.ownsRow w1.heap.size 41 5 (.slice (some ⟨g3, 0, none⟩) (M ++ [Pg.Ln.mk ⟨p, s, f, r⟩ d]).length cap3) (M ++ [Pg.Ln.mk ⟨p, s, f, r⟩ d]).length (lnCells (M ++ [Pg.Ln.mk ⟨p, s, f, r⟩ d])) ∧ Below w1.heap.size w1 w3) :=
          ⟨by rw [HY.out, ← HR.out.1], by rw [lnCells_push, List.length_append]; exact hown3, pushedMaps HL2.out HO.out hgrow⟩
        clear hown3 hgrow hat hlt3 hown
        go_wp2_with fail
        go_roundw
        case rel => exact ⟨j + 1, by omega, by go_num, _, cap3, M ++ [Pg.Ln.mk ⟨p, s, f, r⟩ d], by simp, by simp; omega, fin.out⟩
        case measure => simp [intOf]; omega
      · rw [HCM.out, hx] at HC
        have HN : Hid _ := HN.out (by rw [hx]; rfl)
        clear hx HCM HY
        go_wp2_with fail
        refine wp_region_quiet_below (by kernel_rfl) (by kernel_rfl) ?_
        repeat (first
          | go_big_quiet_step ((go_at_call 21; exact Calls.regrown_of (HC _))))
        refine wpQuiet_nil ?_
        intro _ hw'
        obtain ⟨⟨dq, osq⟩, rfl⟩ := hw'
        have hb2 := below_regrown wr dq osq
        have HL2 : Hid (Below w1.heap.size w1 (grow (redrawn wr dq) osq)) := bthen HR.out.2.2 hb2
        have HO : Hid ((grow (redrawn wr dq) osq).ownsRow w1.heap.size 41 5 (.slice ad2 M.length cap2) M.length (lnCells M)) := ownsMaps_below HR.out.2.1 hb2
        generalize grow (redrawn wr dq) osq = w2 at *
        clear r0 r1 r2 r3 r4 r5 r6 r7 r8 k0 k1 k2 k3 k4 m0 m1 m2 m3 hc0 HC hb2
        go_wp2_with fail
        go_roundw
        case rel => exact ⟨j + 1, by omega, by go_num, _, cap2, M, rfl, by omega, by rw [HN.out]; exact HR.out.1, HO.out, HL2.out⟩
        case measure => simp [intOf]; omega
    · have i1 : ¬ (j : Int) < (L.length : Int) := by omega
      have hMe : M = LD := by rw [HR.out.1, hkd.out, List.take_of_length_le (by omega)]
      have hfb := HW.out.fb 0
      have hbr : b < wr.heap.size := HW.out.lb
      have HF : Hid _ := HX.out.put (W := wr) (L' := M) (v' := .slice ad2 M.length cap2) ((But.of_below (bthen hB.out HR.out.2.2))) (OwnsAt.of_row HR.out.2.1) (fun j hj => .inr (by have := (HR.out.2.1.lt j hj).1; omega)) (by rw [hMe]; exact HKD.out)
      go_wp2_with fail
      go_ret
      obtain ⟨f1, f2, f3⟩ := HF.out
      rw [hMe] at f1 f2 f3
      exact ⟨rfl, _, f1, f2, f3⟩
end Go.Proofs.Ytkcmlmofcjdgoad
