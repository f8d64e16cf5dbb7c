
/-
  The developers' kept lines: where they lie, and what asking them answers: New, List, Find.
-/
import Derived.Test.YtbkpndgadgafiaeTlbDel
import Derived.Test.YtbkpndgadgafiaePageB
namespace Go.Proofs.Ytbkpndgadgafiae
open Go.RowKit Go.Sort
set_option linter.unusedVariables false
set_option maxRecDepth 100000

/-- Of the blocks that were there those outside F are as they were, and so is all of the block b but the cell o. -/
structure Chg (b o : Nat) (F : Nat → Prop) (w w' : World) : Prop where
  but : But F w w'
  oth : ∀ p, p ≠ o → w'.cell? ⟨b, p, none⟩ = w.cell? ⟨b, p, none⟩
theorem Chg.of_below {b o : Nat} {F : Nat → Prop} {w w' : World} (h : Below w.heap.size w w') (hb : b < w.heap.size) : Chg b o F w w' := ⟨But.of_below h, fun p _ => h.cell (p := ⟨b, p, none⟩) hb⟩
theorem Chg.trans {b o : Nat} {F G : Nat → Prop} {w w1 w2 : World} (h : Chg b o F w w1) (k : Chg b o G w1 w2) (hG : ∀ i, i < w.heap.size → G i → F i) : Chg b o F w w2 :=
  ⟨h.but.trans k.but hG, fun p hp => (k.oth p hp).trans (h.oth p hp)⟩

/-- What is kept at the cell o of the block b are the lines L: their row is vb. -/
structure Tbk (w : World) (b o : Nat) (vb : Value) (L : List Pg.Ln) : Prop where
  c0 : w.cell? ⟨b, o, none⟩ = some vb
  fb : ∀ p, w.frozen? ⟨b, p, none⟩ = false
  row : w.ownsRow 0 67 5 vb L.length (lnCells L)
  nb : vb.ownBlock ≠ some b
  kept : Pg.Kept L
namespace Tbk
variable {w w' W : World} {b o : Nat} {vb v' : Value} {L L' : List Pg.Ln}
theorem lb (h : Tbk w b o vb L) : b < w.heap.size := World.block_lt_of_cell? _ _ h.c0
theorem lt (h : Tbk w b o vb L) {k : Nat} (hk : bkF b vb k) : k < w.heap.size := by
  rcases hk with rfl | hk
  · exact h.lb
  · exact (h.row.lt k hk).2
theorem keep (h : Tbk w b o vb L) {F : Nat → Prop} (hb : But F w w') (hF : ∀ k, bkF b vb k → ¬ F k) : Tbk w' b o vb L := by
  have kb := hb.block b h.lb (hF b (.inl rfl))
  exact ⟨(World.cell?_of_block kb).trans h.c0, fun p => (World.frozen?_of_block kb).trans (h.fb p), ownsMaps_but h.row hb fun k hk => hF k (.inr hk), h.nb, h.kept⟩
theorem grow (h : Tbk w b o vb L) (hb : Below w.heap.size w w') : Tbk w' b o vb L := h.keep (F := fun _ => False) (But.of_below hb) (fun _ _ => id)
/-- The row has been written, or laid anew, and is stored. -/
theorem put (h : Tbk w b o vb L) (hb : But (fun j => vb.ownBlock = some j) w W) (hr : W.ownsRow 0 67 5 v' L'.length (lnCells L')) (hv : ∀ j, v'.ownBlock = some j → vb.ownBlock = some j ∨ w.heap.size ≤ j) (hg : Pg.Kept L') :
    Tbk (W.setCell ⟨b, o, none⟩ v') b o v' L' ∧ Chg b o (bkF b vb) w (W.setCell ⟨b, o, none⟩ v') ∧ (∀ k, bkF b v' k → bkF b vb k ∨ w.heap.size ≤ k) := by
  have hl := h.lb
  have kb : W.heap[b]? = w.heap[b]? := hb.block b hl h.nb
  have hc : W.cell? ⟨b, o, none⟩ = some vb := (World.cell?_of_block (a := ⟨b, o, none⟩) kb).trans h.c0
  have hne : v'.ownBlock ≠ some b := fun e => (hv b e).elim h.nb (fun h => by omega)
  refine ⟨⟨World.cell?_setCell_same _ _ _ hc, fun p => ?_, ?_, hne, hg⟩, ⟨?_, fun p hp => ?_⟩, fun k hk => ?_⟩
  · have := (World.frozen?_of_block (a := ⟨b, p, none⟩) kb).trans (h.fb p)
    simpa using this
  · exact owns_of_block hr fun k hk => Below.heap_setCell _ _ _ _ (fun e => hne (by rw [hk]; exact congrArg some e))
  · exact (hb.mono (G := bkF b vb) fun i _ hi => .inr hi).setCell (a := ⟨b, o, none⟩) (.inr (.inl rfl)) _
  · rw [World.cell?_setCell_other _ _ _ _ (fun e => hp (by injection e with _ e; exact e.symm))]
    exact World.cell?_of_block (a := ⟨b, p, none⟩) kb
  · rcases hk with rfl | hk
    · exact .inl (.inl rfl)
    · exact (hv k hk).imp .inr id
end Tbk

/-- What is kept at the cell o of the block b are the lines L, in the blocks F. -/
structure TbAt (w : World) (b o : Nat) (L : List Pg.Ln) (F : Nat → Prop) : Prop where
  ex : ∃ vb, Tbk w b o vb L ∧ F = bkF b vb
section
variable {w w' : World} {b o : Nat} {L : List Pg.Ln} {F G : Nat → Prop}
theorem TbAt.lt (h : TbAt w b o L F) {k : Nat} (hk : F k) : k < w.heap.size := by
  obtain ⟨vb, h, rfl⟩ := h
  exact h.lt hk
theorem TbAt.kept (h : TbAt w b o L F) : Pg.Kept L := by
  obtain ⟨vb, h, rfl⟩ := h
  exact h.kept
theorem TbAt.keep (h : TbAt w b o L F) (hb : But G w w') (hF : ∀ k, F k → ¬ G k) : TbAt w' b o L F := by
  obtain ⟨vb, h, rfl⟩ := h
  exact ⟨vb, h.keep hb hF, rfl⟩
theorem TbAt.grow (h : TbAt w b o L F) (hb : Below w.heap.size w w') : TbAt w' b o L F := h.keep (G := fun _ => False) (But.of_below hb) (fun _ _ => id)
end

theorem tboxed {w : World} {vb : Value} {L : List Pg.Ln} {t : TypeId} (hr : w.ownsRow 0 67 5 vb L.length (lnCells L)) (hg : Pg.Kept L) : Tbk (w.alloc (.cells #[vb] t)) w.heap.size 0 vb L := by
  have hb := heap_alloc_new w (.cells #[vb] t)
  refine ⟨cell_of_row _ _ 0 _ _ _ hb, fun o => by unfold World.frozen?; simp only [hb]; simp, hr.alloc _, fun e => ?_, hg⟩
  have := (hr.lt _ e).2
  omega

theorem tbNew_any (w : World) :
    Calls Try.prog 31 #[] w fun e w' => ∃ b F, e = .returned (.pointer (some ⟨b, 0, none⟩)) ∧ TbAt w' b 0 [] F ∧ Below w.heap.size w w' ∧ ∀ k, F k → w.heap.size ≤ k := by
  go_enter Try.func31, Try.ntmps31
  go_wp2_with fail
  go_ret
  refine ⟨_, _, rfl, ⟨.slice none 0 0, tboxed (World.ownsRow_nil _ _ _ _) Pg.Kept.nil, rfl⟩, balloc (brefl _) _, fun k hk => ?_⟩
  rcases hk with rfl | hk
  · exact Nat.le_refl _
  · simp [Value.ownBlock] at hk

section
variable {b o : Nat} {L : List Pg.Ln} {F : Nat → Prop}
theorem tbList_any (w : World) (h : TbAt w b o L F) :
    Calls Try.prog 23 #[.pointer (some ⟨b, o, none⟩)] w fun e w' => ∃ ad cap, e = .returned (.slice ad L.length cap) ∧ LinesAt w' ad L ∧ Below w.heap.size w w' ∧ ∀ k, (Value.slice ad L.length cap).ownBlock = some k → w.heap.size ≤ k := by
  obtain ⟨vb, h, rfl⟩ := h
  have hc0 := h.c0
  have HC : Hid _ := lnClone_any w h.row h.kept.le
  clear h
  go_enter Try.func23, Try.ntmps23
  go_wp2_with fail
  refine Calls.mono HC.out ?_
  rintro e w1 ⟨v', rfl, hr, hb⟩
  obtain ⟨ad, cap, rfl⟩ := ownsMaps_form hr
  have HR : Hid _ := hr
  have HB : Hid _ := hb
  clear hr hb
  go_wp2_with fail
  go_ret
  exact ⟨ad, cap, rfl, ownsAt_lines (OwnsAt.of_row HR.out), HB.out, fun k hk => (World.ownsRow.lt HR.out k hk).1⟩

/-- A look at a line: has it the page? -/
theorem find1_any {bq oq : Nat} (q : Int) (hq : Pg.fits q) (l : Pg.Ln) (hl : Pg.fits l.m.p) (w : World) (hc : w.cell? ⟨bq, oq, none⟩ = some (.int .i64 q)) :
    Calls Try.prog 54 #[l.val, .pointer (some ⟨bq, oq, none⟩)] w fun e w' => e = .returned (.bool (l.has q)) ∧ Below w.heap.size w w' := by
  obtain ⟨⟨p, s, f, r⟩, d⟩ := l
  have hbq := World.block_lt_of_cell? _ _ hc
  have HO := over_any p s f r q hl hq
  simp only [Pg.Ln.val, Pg.Ln.has, Pg.Mp.has]
  generalize Pg.over p s q = x at *
  go_enter Try.func54, Try.ntmps54
  go_wp2_with fail
  refine (HO _).mono ?_
  rintro e w1 ⟨rfl, hb1⟩
  go_wp2_with fail
  go_ret
  exact ⟨rfl, bthen (balloc (brefl _) _) hb1⟩

/-- A look at a line: does it meet the mapping? -/
theorem drop1_any {bm om : Nat} (m : Pg.Mp) (hm : Pg.fits m.p) (l : Pg.Ln) (hl : Pg.fits l.m.p) (w : World) (hc : MpAt w bm om m) :
    Calls Try.prog 71 #[l.val, .pointer (some ⟨bm, om, none⟩)] w fun e w' => e = .returned (.bool (l.meets m)) ∧ Below w.heap.size w w' := by
  obtain ⟨⟨p, s, f, r⟩, d⟩ := l
  obtain ⟨p', s', f', r'⟩ := m
  obtain ⟨c0, c1, c2, c3⟩ := hc
  have hbq := World.block_lt_of_cell? _ _ c0
  have HO := meet_any p s f r p' s' f' r' hl hm
  simp only at c0 c1 c2 c3
  simp only [Pg.Ln.val, Pg.Ln.meets, Pg.Mp.meets]
  generalize Pg.meet p s p' s' = x at *
  go_enter Try.func71, Try.ntmps71
  go_wp2_with fail
  refine (HO _).mono ?_
  rintro e w1 ⟨rfl, hb1⟩
  go_wp2_with fail
  go_ret
  exact ⟨rfl, bthen (balloc (brefl _) _) hb1⟩

theorem below_set5 {w w1 : World} (h : Below w.heap.size w w1) (r : Nat) (hr : w.heap.size ≤ r) (x0 x1 x2 x3 x4 : Value) :
    Below w.heap.size w (((((w1.setCell ⟨r, 0, none⟩ x0).setCell ⟨r, 1, none⟩ x1).setCell ⟨r, 2, none⟩ x2).setCell ⟨r, 3, none⟩ x3).setCell ⟨r, 4, none⟩ x4) :=
  ((((h.setCell hr _).setCell hr _).setCell hr _).setCell hr _).setCell hr _

set_option maxHeartbeats 4000000 in
theorem tbFind_any (q : Int) (hq : Pg.fits q) (w : World) (h : TbAt w b o L F) :
    Calls Try.prog 18 #[.pointer (some ⟨b, o, none⟩), .int .i64 q] w fun e w' => e = .returned (.tuple #[(Pg.kAt L q).val, .bool (Pg.kFnd L q).isSome]) ∧ Below w.heap.size w w' := by
  obtain ⟨vb, h, rfl⟩ := h
  obtain ⟨ad, cap, rfl⟩ := ownsMaps_form h.row
  obtain ⟨W, hW⟩ : ∃ W, W = (w.alloc (.cells #[.int .i64 q] 3)).alloc (.cells #[.int .i64 0, .int .i64 0, .int .i64 0, .int .i64 0, .bool false] 67) := ⟨_, rfl⟩
  have hB : Below w.heap.size w W := by rw [hW]; exact balloc (balloc (brefl _) _) _
  have hT := h.grow hB
  have k1 : W.cell? ⟨w.heap.size, 0, none⟩ = some (.int .i64 q) := by rw [hW]; simp [go_sem]
  have HI := idxFunc_any (cap := cap) (fun l => l.has q) 54 #[.pointer (some ⟨w.heap.size, 0, none⟩)] W (ownsAt_lines (OwnsAt.of_row hT.row)) h.kept.le (fun args w => by simp [go_sem]) (fun j w' hj hb => find1_any q hq _ (h.kept.fits hj) w' (cell_later hb k1))
  have hlb := h.lb
  have hc0 := hT.c0
  have hc00 := h.c0
  have hlen := h.kept.le
  have hsz : W.heap.size = w.heap.size + 2 := by rw [hW]; simp
  cases hf : Pg.kFnd L q with
  | none =>
    have e1 : Pg.kAt L q = .zz := by simp only [Pg.kAt, hf]
    have e2 : Pg.idxN L (fun l => l.has q) = -1 := by
      unfold Pg.kFnd at hf
      simp only [Pg.idxN, hf]
    rw [e2] at HI
    have HB : Hid _ := hB
    rw [e1]
    clear e1 e2 hf h hT hB k1
    go_enter Try.func18, Try.ntmps18
    go_wp2_with fail
    rw [← hW]
    refine HI.mono ?_
    rintro e w1 ⟨rfl, hb1⟩
    have hr : ∀ p, w1.cell? ⟨w.heap.size + 1, p, none⟩ = _ := fun p => hb1.cell (p := ⟨w.heap.size + 1, p, none⟩) (by simp; omega)
    have hf : ∀ p, w1.frozen? ⟨w.heap.size + 1, p, none⟩ = _ := fun p => hb1.frozen (p := ⟨w.heap.size + 1, p, none⟩) (by simp; omega)
    rw [hW] at hr hf
    have HB1 : Hid _ := bthen HB.out hb1
    clear hb1 HI HB hc0 hc00 hW
    go_wp2_with fail
    refine bodyPost_ret (v := .tuple #[.agg #[.int .i64 0, .int .i64 0, .int .i64 0, .int .i64 0, .bool false], .bool false]) ?_ rfl ⟨rfl, ?_⟩
    · simp [results, Try.results18, go_sem, hr]
    · exact below_set5 HB1.out _ (Nat.le_succ _) _ _ _ _ _
  | some k =>
    obtain ⟨hk, _, _⟩ := Pg.kFnd_some hf
    have e1 : Pg.kAt L q = L.getD k .zz := by simp only [Pg.kAt, hf]
    have e2 : Pg.idxN L (fun l => l.has q) = (k : Int) := by
      unfold Pg.kFnd at hf
      simp only [Pg.idxN, hf]
    rw [e2] at HI
    obtain ⟨g, og, e3, hg, hm⟩ := ownsAt_lines (OwnsAt.of_row hT.row) k hk
    subst e3
    have HB : Hid _ := hB
    rw [e1]
    have i0 : (0 : Int) ≤ (k : Int) := by omega
    have i1 : (k : Int) < (L.length : Int) := by omega
    have i2 : ¬ (k : Int) < 0 := by omega
    have hbW : b < W.heap.size := Nat.lt_of_lt_of_le hlb hB.size
    clear e1 e2 hf h hT hB k1
    generalize L.getD k .zz = x at *
    obtain ⟨⟨xp, xs, xf, xr⟩, xd⟩ := x
    simp only [Pg.Ln.val]
    go_enter Try.func18, Try.ntmps18
    go_wp2_with fail
    rw [← hW]
    refine HI.mono ?_
    rintro e w1 ⟨rfl, hb1⟩
    have hr : ∀ p, w1.cell? ⟨w.heap.size + 1, p, none⟩ = _ := fun p => hb1.cell (p := ⟨w.heap.size + 1, p, none⟩) (by simp; omega)
    have hf : ∀ p, w1.frozen? ⟨w.heap.size + 1, p, none⟩ = _ := fun p => hb1.frozen (p := ⟨w.heap.size + 1, p, none⟩) (by simp; omega)
    rw [hW] at hr hf
    have HB1 : Hid _ := bthen HB.out hb1
    have c0 := cell_later hb1 hc0
    obtain ⟨m0, m1, m2, m3, m4⟩ := hm.below hb1 hg
    simp only at m0 m1 m2 m3 m4
    have hbw : b < w1.heap.size := Nat.lt_of_lt_of_le hbW hb1.size
    clear hb1 HI HB hc0 hc00 hW hm
    go_wp2_with fail
    refine bodyPost_ret (v := .tuple #[.agg #[.int .i64 xp, .int .i64 xs, .int .i64 xf, .int .i64 xr, .bool xd], .bool true]) ?_ rfl ⟨rfl, ?_⟩
    · simp [results, Try.results18, go_sem, hr]
    · exact below_set5 HB1.out _ (Nat.le_succ _) _ _ _ _ _
end
end Go.Proofs.Ytbkpndgadgafiae
