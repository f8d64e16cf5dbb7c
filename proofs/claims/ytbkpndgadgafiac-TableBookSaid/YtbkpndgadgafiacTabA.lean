
/-
  The developers' changes of tables: what a maker is, what it tells, and what it puts.
-/
import Derived.Test.YtbkpndgadgafiacPlainT
import Derived.Test.YtbkpndgadgafiacEntryB
import Derived.Test.YtbkpndgadgafiacPageB
import Derived.Deep.RegionHeld3
import Derived.Deep.AppendLies
namespace Go.Proofs.Ytbkpndgadgafiac
open Go.RowKit Go.Sort
set_option linter.unusedVariables false
set_option linter.unusedSimpArgs false
set_option maxRecDepth 100000

/-- A maker at the block k, over the frames at b: the level, the entry, the tables and places on the way, the page. -/
structure Mk (w : World) (B k b : Nat) (lv : Int) (e : Pg.En) (v1 v2 : Value) (ts ps : List Int) (p : Int) : Prop where
  c0 : w.cell? ⟨k, 0, none⟩ = some (.pointer (some ⟨b, 0, none⟩))
  c1 : w.cell? ⟨k, 1, none⟩ = some (.int .i64 lv)
  c2 : w.cell? ⟨k, 2, none⟩ = some (.bool e.t)
  c3 : w.cell? ⟨k, 3, none⟩ = some (.bool e.l)
  c4 : w.cell? ⟨k, 4, none⟩ = some (.int .i64 e.r)
  c5 : w.cell? ⟨k, 5, none⟩ = some (.bool e.u)
  c6 : w.cell? ⟨k, 6, none⟩ = some (.bool e.d)
  c7 : w.cell? ⟨k, 7, none⟩ = some (.int .i64 e.f)
  c8 : w.cell? ⟨k, 8, none⟩ = some v1
  c9 : w.cell? ⟨k, 9, none⟩ = some v2
  c10 : w.cell? ⟨k, 10, none⟩ = some (.int .i64 p)
  fz : ∀ o, w.frozen? ⟨k, o, none⟩ = false
  o1 : w.ownsRow B 3 1 v1 ts.length (ints ts)
  o2 : w.ownsRow B 3 1 v2 ps.length (ints ps)
  ne : ∀ j, v1.ownBlock = some j → v2.ownBlock ≠ some j
  n1 : v1.ownBlock ≠ some k
  n2 : v2.ownBlock ≠ some k
  hi : B ≤ k
/-- A maker's blocks. -/
def mkF (k : Nat) (v1 v2 : Value) : Nat → Prop := fun j => j = k ∨ v1.ownBlock = some j ∨ v2.ownBlock = some j
namespace Mk
variable {w w' : World} {B k b : Nat} {lv : Int} {e : Pg.En} {v1 v2 : Value} {ts ps : List Int} {p : Int}
theorem lb (h : Mk w B k b lv e v1 v2 ts ps p) : k < w.heap.size := World.block_lt_of_cell? _ _ h.c0
theorem lt (h : Mk w B k b lv e v1 v2 ts ps p) {j : Nat} (hj : mkF k v1 v2 j) : B ≤ j ∧ j < w.heap.size := by
  rcases hj with rfl | hj | hj
  · exact ⟨h.hi, h.lb⟩
  · exact h.o1.lt j hj
  · exact h.o2.lt j hj
theorem keep (h : Mk w B k b lv e v1 v2 ts ps p) {G : Nat → Prop} (hb : But G w w') (hG : ∀ j, mkF k v1 v2 j → ¬ G j) : Mk w' B k b lv e v1 v2 ts ps p := by
  have hk : w'.heap[k]? = w.heap[k]? := hb.block k h.lb (hG k (.inl rfl))
  have c : ∀ {o : Nat} {v : Value}, w.cell? ⟨k, o, none⟩ = some v → w'.cell? ⟨k, o, none⟩ = some v := fun e => (World.cell?_of_block hk).trans e
  exact ⟨c h.c0, c h.c1, c h.c2, c h.c3, c h.c4, c h.c5, c h.c6, c h.c7, c h.c8, c h.c9, c h.c10, fun o => (World.frozen?_of_block hk).trans (h.fz o),
    ownsMaps_but h.o1 hb fun j hj => hG j (.inr (.inl hj)), ownsMaps_but h.o2 hb fun j hj => hG j (.inr (.inr hj)), h.ne, h.n1, h.n2, h.hi⟩
theorem grow (h : Mk w B k b lv e v1 v2 ts ps p) (hb : Below w.heap.size w w') : Mk w' B k b lv e v1 v2 ts ps p := h.keep (G := fun _ => False) (But.of_below hb) fun _ _ => id
/-- Other cells of its own block are written. -/
theorem setCell (h : Mk w B k b lv e v1 v2 ts ps p) (o : Nat) (v : Value) :
    (∀ o', o' ≠ o → (w.setCell ⟨k, o, none⟩ v).cell? ⟨k, o', none⟩ = w.cell? ⟨k, o', none⟩) ∧ (w.setCell ⟨k, o, none⟩ v).ownsRow B 3 1 v1 ts.length (ints ts) ∧ (w.setCell ⟨k, o, none⟩ v).ownsRow B 3 1 v2 ps.length (ints ps) := by
  refine ⟨fun o' ho => World.cell?_setCell_other _ _ _ _ (fun e => ho (by injection e with _ e; exact e.symm)), ?_, ?_⟩
  · exact owns_of_block h.o1 fun j hj => Below.heap_setCell _ _ _ _ fun e => h.n1 (by rw [hj, e])
  · exact owns_of_block h.o2 fun j hj => Below.heap_setCell _ _ _ _ fun e => h.n2 (by rw [hj, e])
theorem setLv (h : Mk w B k b lv e v1 v2 ts ps p) (lv' : Int) : Mk (w.setCell ⟨k, 1, none⟩ (.int .i64 lv')) B k b lv' e v1 v2 ts ps p := by
  obtain ⟨hc, q1, q2⟩ := h.setCell 1 (.int .i64 lv')
  exact ⟨(hc 0 (by decide)).trans h.c0, World.cell?_setCell_same _ _ _ h.c1, (hc 2 (by decide)).trans h.c2, (hc 3 (by decide)).trans h.c3, (hc 4 (by decide)).trans h.c4, (hc 5 (by decide)).trans h.c5, (hc 6 (by decide)).trans h.c6, (hc 7 (by decide)).trans h.c7, (hc 8 (by decide)).trans h.c8, (hc 9 (by decide)).trans h.c9, (hc 10 (by decide)).trans h.c10,
    fun o => by rw [World.frozen?_setCell]; exact h.fz o, q1, q2, h.ne, h.n1, h.n2, h.hi⟩
theorem setE (h : Mk w B k b lv e v1 v2 ts ps p) (e' : Pg.En) : Mk ((((((w.setCell ⟨k, 2, none⟩ (.bool e'.t)).setCell ⟨k, 3, none⟩ (.bool e'.l)).setCell ⟨k, 4, none⟩ (.int .i64 e'.r)).setCell ⟨k, 5, none⟩ (.bool e'.u)).setCell ⟨k, 6, none⟩ (.bool e'.d)).setCell ⟨k, 7, none⟩ (.int .i64 e'.f)) B k b lv e' v1 v2 ts ps p := by
  have hb : But (fun j => j = k) w ((((((w.setCell ⟨k, 2, none⟩ (.bool e'.t)).setCell ⟨k, 3, none⟩ (.bool e'.l)).setCell ⟨k, 4, none⟩ (.int .i64 e'.r)).setCell ⟨k, 5, none⟩ (.bool e'.u)).setCell ⟨k, 6, none⟩ (.bool e'.d)).setCell ⟨k, 7, none⟩ (.int .i64 e'.f)) :=
    ((((((But.refl (fun j => j = k) w).setCell (a := ⟨k, 2, none⟩) (.inr rfl) _).setCell (a := ⟨k, 3, none⟩) (.inr rfl) _).setCell (a := ⟨k, 4, none⟩) (.inr rfl) _).setCell (a := ⟨k, 5, none⟩) (.inr rfl) _).setCell (a := ⟨k, 6, none⟩) (.inr rfl) _).setCell (a := ⟨k, 7, none⟩) (.inr rfl) _
  refine ⟨?_, ?_, ?_, ?_, ?_, ?_, ?_, ?_, ?_, ?_, ?_, fun o => ?_, ownsMaps_but h.o1 hb fun j hj e => h.n1 (by rw [hj, e]), ownsMaps_but h.o2 hb fun j hj e => h.n2 (by rw [hj, e]), h.ne, h.n1, h.n2, h.hi⟩ <;>
    simp [go_sem, h.c0, h.c1, h.c2, h.c3, h.c4, h.c5, h.c6, h.c7, h.c8, h.c9, h.c10, h.fz]
end Mk

/-- A maker at work: what it is, and the frames that it works on, since w0. -/
structure St (w0 w : World) (k b : Nat) (F0 : Nat → Prop) (S : Pg.Fs) (lv : Int) (e : Pg.En) (ts ps : List Int) (p : Int) : Prop where
  body : ∃ B v1 v2 F, Mk w B k b lv e v1 v2 ts ps p ∧ FrAt w b S F ∧ But F0 w0 w ∧ (∀ j, F j → F0 j ∨ w0.heap.size ≤ j) ∧ (∀ j, F j → ¬ mkF k v1 v2 j) ∧ B ≤ w.heap.size ∧ ∀ j, mkF k v1 v2 j → F0 j ∨ w0.heap.size ≤ j
namespace St
variable {w0 w w' : World} {k b : Nat} {F0 : Nat → Prop} {S : Pg.Fs} {lv : Int} {e : Pg.En} {ts ps : List Int} {p : Int}
theorem grow (h : St w0 w k b F0 S lv e ts ps p) (hb : Below w.heap.size w w') : St w0 w' k b F0 S lv e ts ps p := by
  obtain ⟨B, v1, v2, F, hM, hF, hB, h1, h2, hBB, hm⟩ := h.body
  exact ⟨B, v1, v2, F, hM.grow hb, hF.keep (G := fun _ => False) (But.of_below hb) fun _ _ => id, hB.trans (But.of_below (F := fun _ => False) hb) fun _ _ h => h.elim, h1, h2, Nat.le_trans hBB hb.size, hm⟩
theorem but (h : St w0 w k b F0 S lv e ts ps p) : But F0 w0 w := by
  obtain ⟨B, v1, v2, F, hM, hF, hB, h1, h2, hBB, hm⟩ := h.body
  exact hB
theorem lb (h : St w0 w k b F0 S lv e ts ps p) : k < w.heap.size := by
  obtain ⟨B, v1, v2, F, hM, hF, hB, h1, h2, hBB, hm⟩ := h.body
  exact hM.lb
/-- What it leaves of the frames. -/
theorem leaves (h : St w0 w k b F0 S lv e ts ps p) : ∃ F, FrAt w b S F ∧ But F0 w0 w ∧ ∀ j, F j → F0 j ∨ w0.heap.size ≤ j := by
  obtain ⟨B, v1, v2, F, hM, hF, hB, h1, h2, hBB, hm⟩ := h.body
  exact ⟨F, hF, hB, h1⟩
end St

set_option maxHeartbeats 1000000 in
theorem newMaker_any {b : Nat} {S : Pg.Fs} {F : Nat → Prop} (t p : Int) (w : World) (h : FrAt w b S F) :
    Calls Try.prog 65 #[.pointer (some ⟨b, 0, none⟩), .int .i64 t, .int .i64 p] w fun en w' => ∃ k, en = .returned (.tuple #[.pointer (some ⟨k, 0, none⟩), .int .i64 (fndC S t p)]) ∧ St w w' k b F S (lastL (fndX S t p)) (lastE (fndX S t p)) (tabs (fndX S t p)) (plcs (fndX S t p)) p ∧ Below w.heap.size w w' := by
  have HF := wFind_own t p w h
  have H : Hid (FrAt w b S F) := h
  clear h
  have htl := tabs_len (fndX S t p)
  have hpl := plcs_len (fndX S t p)
  generalize fndX S t p = X at *
  generalize fndC S t p = c at *
  unfold spotV at HF
  generalize lastL X = lv at *
  generalize lastE X = e at *
  go_enter Try.func65, Try.ntmps65
  go_wp2_with fail
  refine HF.mono ?_
  rintro en w1 ⟨v1, v2, rfl, o1, o2, hne, hb⟩
  obtain ⟨a1, c1, rfl⟩ := ownsMaps_form o1
  obtain ⟨a2, c2, rfl⟩ := ownsMaps_form o2
  have HO1 : Hid (w1.ownsRow w.heap.size 3 1 (.slice a1 X.length c1) (tabs X).length (ints (tabs X))) := by rw [htl]; exact o1
  have HO2 : Hid (w1.ownsRow w.heap.size 3 1 (.slice a2 X.length c2) (plcs X).length (ints (plcs X))) := by rw [hpl]; exact o2
  have HN : Hid _ := hne
  have HB : Hid _ := hb
  clear o1 o2 hne hb HF
  go_wp2_with fail
  go_ret2
  have hB1 : Below w.heap.size w (w1.alloc (.cells #[.int .i64 lv, .bool e.t, .bool e.l, .int .i64 e.r, .bool e.u, .bool e.d, .int .i64 e.f, .slice a1 X.length c1, .slice a2 X.length c2] 32)) := balloc HB.out _
  have hB2 := balloc hB1 (.cells #[.pointer (some ⟨b, 0, none⟩), .int .i64 lv, .bool e.t, .bool e.l, .int .i64 e.r, .bool e.u, .bool e.d, .int .i64 e.f, .slice a1 X.length c1, .slice a2 X.length c2, .int .i64 p] 117)
  have hsz := HB.out.size
  refine ⟨w1.heap.size + 1, rfl, ⟨w.heap.size, .slice a1 X.length c1, .slice a2 X.length c2, F, ⟨?_, ?_, ?_, ?_, ?_, ?_, ?_, ?_, ?_, ?_, ?_, fun o => ?_, (HO1.out.alloc _).alloc _, (HO2.out.alloc _).alloc _, HN.out, fun e => ?_, fun e => ?_, by omega⟩, ?_, ?_, ?_, ?_, hB2.size, ?_⟩, hB2⟩
  iterate 12 (focus (simp [go_sem]))
  · have := (World.ownsRow.lt HO1.out _ e).2; omega
  · have := (World.ownsRow.lt HO2.out _ e).2; omega
  · exact FrAt.keep (G := fun _ => False) H.out (But.of_below hB2) fun _ _ => id
  · exact But.of_below hB2
  · exact fun j hj => .inl hj
  · intro j hj hm
    have := FrAt.lt H.out hj
    rcases hm with rfl | hm | hm
    · omega
    · have := (World.ownsRow.lt HO1.out _ hm).1; omega
    · have := (World.ownsRow.lt HO2.out _ hm).1; omega
  · intro j hm
    right
    rcases hm with rfl | hm | hm
    · omega
    · exact (World.ownsRow.lt HO1.out _ hm).1
    · exact (World.ownsRow.lt HO2.out _ hm).1

theorem end_any {w0 w : World} {k b : Nat} {F0 : Nat → Prop} {S : Pg.Fs} {lv : Int} {e : Pg.En} {ts ps : List Int} {p : Int} (h : St w0 w k b F0 S lv e ts ps p) (hl : ts.length ≤ 5000) :
    Calls Try.prog 89 #[.pointer (some ⟨k, 0, none⟩)] w fun en w' => en = .returned (.int .i64 ((ts.length : Int) - 1)) ∧ w' = w := by
  obtain ⟨B, v1, v2, F, hM, hF, hB, h1, h2, hBB, hm⟩ := h.body
  obtain ⟨a1, c1, rfl⟩ := ownsMaps_form hM.o1
  have c8 := hM.c8
  clear hM hF hB h1 h2 h hBB hm
  generalize ts.length = n at *
  go_enter Try.func89, Try.ntmps89
  go_wp2_with fail
  go_ret
  exact ⟨rfl, rfl⟩

theorem isBelowRoot_any {w0 w : World} {k b : Nat} {F0 : Nat → Prop} {S : Pg.Fs} {lv : Int} {e : Pg.En} {ts ps : List Int} {p : Int} (h : St w0 w k b F0 S lv e ts ps p) (hl : ts.length ≤ 5000) :
    Calls Try.prog 72 #[.pointer (some ⟨k, 0, none⟩)] w fun en w' => en = .returned (.bool (decide (1 < ts.length))) ∧ w' = w := by
  have HE := end_any h hl
  have HD : Hid (decide (1 < (ts.length : Int)) = decide (1 < ts.length)) := by
    rw [Hid, decide_eq_decide]
    omega
  clear h
  generalize ts.length = n at *
  go_enter Try.func72, Try.ntmps72
  go_wp2_with fail
  refine HE.mono ?_
  rintro en w1 ⟨rfl, rfl⟩
  go_wp2_with fail
  go_ret
  exact ⟨ret_bool HD.out, rfl⟩

theorem newLeafMaker_any {b : Nat} {S : Pg.Fs} {F : Nat → Prop} (t p : Int) (w : World) (h : FrAt w b S F) :
    Calls Try.prog 70 #[.pointer (some ⟨b, 0, none⟩), .int .i64 t, .int .i64 p] w fun en w' => ∃ k, en = .returned (.tuple #[.pointer (some ⟨k, 0, none⟩), .int .i64 (Pg.tFC S t p)]) ∧ St w w' k b F S (lastL (fndX S t p)) (lastE (fndX S t p)) (tabs (fndX S t p)) (plcs (fndX S t p)) p ∧ Below w.heap.size w w' := by
  have HF := newMaker_any t p w h
  have hleaf : fndC S t p = 0 → (lastE (fndX S t p)).l = (lastE (fndX S t p)).t := by
    intro hz
    obtain ⟨lv, e, tl, W⟩ := Pg.way_of hz
    have hf := Pg.rEn_fault h.ok W.code
    rw [← W.en] at hf
    obtain ⟨_, hx⟩ := Pg.fault_zero hf
    have ho := W.on
    rw [W.lastE]
    unfold Pg.En.on at ho
    rcases hx with ⟨h1, h2, _⟩ | ⟨h1, _⟩
    · rw [h1, h2]
    · rw [h1] at ho ⊢
      simpa using ho
  have e1 : Pg.tFC S t p = if fndC S t p ≠ 0 then fndC S t p else if (lastE (fndX S t p)).t = true then 0 else 5 := rfl
  clear h
  generalize Pg.tFC S t p = cc at *
  generalize fndX S t p = X at *
  generalize fndC S t p = c at *
  go_enter Try.func70, Try.ntmps70
  go_wp2_with fail
  refine HF.mono ?_
  rintro en w1 ⟨k, rfl, hS, hb⟩
  have HS : Hid _ := hS
  have HB : Hid _ := hb
  obtain ⟨B, v1, v2, F', hM, _, _, _, _, _, _⟩ := hS.body
  have c3 := hM.c3
  clear hM hS hb HF
  by_cases hc : c = 0
  · subst hc
    rw [if_neg (by decide)] at e1
    rw [hleaf rfl] at c3
    clear hleaf
    cases ht : (lastE X).t
    · rw [ht] at e1 c3
      have E1 : Hid _ := e1
      clear e1 ht
      go_wp2_with fail
      go_ret2
      exact ⟨k, by rw [E1.out]; rfl, HS.out, HB.out⟩
    · rw [ht] at e1 c3
      have E1 : Hid _ := e1
      clear e1 ht
      go_wp2_with fail
      go_ret2
      exact ⟨k, by rw [E1.out]; rfl, HS.out, HB.out⟩
  · have hcb : (c == 0) = false := by simpa using hc
    have E1 : Hid (cc = c) := by rw [Hid, e1, if_pos hc]
    clear e1 hleaf hc c3
    go_wp2_with fail
    go_ret2
    exact ⟨k, by rw [E1.out]; rfl, HS.out, HB.out⟩
end Go.Proofs.Ytbkpndgadgafiac
