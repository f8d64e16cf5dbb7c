
/-
  The document's own book: Copy and Drop.
-/
import Derived.Test.YtkcmlmofcjdgoabBookRef
import Derived.Test.YtkcmlmofcjdgoabMapInfo
namespace Go.Proofs.Ytkcmlmofcjdgoab
open Go.RowKit Go.Sort
set_option maxRecDepth 100000
set_option linter.unusedVariables false

theorem boxed {w : World} {vb : Value} {L : List Pg.Mp} {t : TypeId} (hr : w.ownsRow 0 62 4 vb L.length (mpCells L)) (hg : Pg.Good L) (hn : L = [] → vb = .slice none 0 0) : BkAt (w.alloc (.cells #[vb] t)) w.heap.size vb L := by
  have hb := heap_alloc_new w (.cells #[vb] t)
  refine ⟨cell_of_row _ _ 0 _ _ _ hb, fun o => by unfold World.frozen?; simp only [hb]; simp, hr.alloc _, fun e => ?_, hg, hn⟩
  have := (hr.lt _ e).2
  omega

theorem refCopy_any {b : Nat} {vb : Value} {L : List Pg.Mp} (w : World) (h : BkAt w b vb L) :
    Calls Try.prog 29 #[.pointer (some ⟨b, 0, none⟩)] w fun e w' => ∃ b' vb', e = .returned (.pointer (some ⟨b', 0, none⟩)) ∧ BkAt w' b' vb' L ∧ Below w.heap.size w w' ∧ ∀ k, bkF b' vb' k → w.heap.size ≤ k := by
  have hlen := h.good.len
  have hc0 := h.c0
  by_cases hL : L = []
  · have e := h.none' hL
    subst e
    have hg := h.good
    subst hL
    clear h
    go_enter Try.func29, Try.ntmps29
    go_wp2_with fail
    go_ret
    refine ⟨_, .slice none 0 0, rfl, boxed (World.ownsRow_nil _ _ _ _) hg (fun _ => rfl), balloc (brefl _) _, fun k hk => ?_⟩
    rcases hk with rfl | hk
    · exact Nat.le_refl _
    · simp [Value.ownBlock] at hk
  · have hpos : 0 < L.length := List.length_pos_iff.2 hL
    obtain ⟨g, cap, rfl, _, hgl⟩ := h.row.form hpos
    obtain ⟨q0, hqi, hz0, hz1, hz2⟩ := info_parts infoMap
    have hcells : Hid _ := h.row.cells (g := g) rfl
    have hown : w.ownsRow w.heap.size 62 4 (.slice none 0 0) 0 [] := World.ownsRow_nil _ _ _ _
    have HG : Hid _ := h.good
    clear h
    go_enter Try.func29, Try.ntmps29
    go_wp2_with (first
      | (at_builtin; refine wpList_append_lies _ rfl _ _ 58 rfl w.heap.size 62 q0 _ 4 32 Try.underlying58 hqi hz0 hz1 hz2 rfl (by decide) _ _ _ rfl hown ⟨g, 0, none⟩ L.length cap (mpCells L) rfl (mpCells_len L) ?c1 (mpCells_one' L) hpos ?c3 ?c4 (Nat.le_refl _) (w.heap.size) rfl ?_))
    case c1 => exact hcells.out
    case c3 => unfold maxLen; omega
    case c4 => omega
    intro g3 cap3 w3 hown3 hgrow hat hlt3
    have hr3' : w3.ownsRow w.heap.size 62 4 (.slice (some ⟨g3, 0, none⟩) L.length cap3) L.length (mpCells L) := by simpa using hown3
    have hr3 : Hid _ := hr3'
    have hb3 : Hid (Below w.heap.size w w3) := ((But.refl (fun _ => False) w).grown hgrow fun k hk => by simp [Value.ownBlock] at hk).below (Nat.le_refl _) (fun _ h => h.elim)
    clear hown3 hgrow hat hlt3 hown hr3'
    go_wp2_with fail
    go_ret
    refine ⟨_, .slice (some ⟨g3, 0, none⟩) L.length cap3, rfl, boxed (ownsMaps_zero hr3.out) HG.out (fun e => absurd e hL), balloc hb3.out _, fun k hk => ?_⟩
    rcases hk with rfl | hk
    · exact hb3.out.size
    · exact (World.ownsRow.lt hr3.out k hk).1

set_option maxHeartbeats 4000000 in
theorem refDrop_any {b : Nat} {vb : Value} {L : List Pg.Mp} (q : Int) (hq : Pg.fits q) (w : World) (h : BkAt w b vb L) :
    Calls Try.prog 33 #[.pointer (some ⟨b, 0, none⟩), .int .i64 q] w fun e w' => e = .returned (.tuple #[(Pg.dropM L q).val, .int .i64 (Pg.dropC L q)]) ∧ ∃ vb', BkAt w' b vb' (Pg.dropL L q) ∧ But (bkF b vb) w w' ∧ ∀ k, bkF b vb' k → bkF b vb k ∨ w.heap.size ≤ k := by
  have hlen := h.good.len
  have HX : Hid _ := h
  cases hbq : Pg.below q 4096
  · have e1 : Pg.dropC L q = 1 := by simp [Pg.dropC, hbq]
    have e2 : Pg.dropM L q = .zz := by simp [Pg.dropM, e1]
    have e3 : Pg.dropL L q = L := by simp [Pg.dropL, e1]
    rw [e1, e2, e3]
    have fin : Hid (∀ o : Obj, ∃ vb', BkAt (w.alloc o) b vb' L ∧ But (bkF b vb) w (w.alloc o) ∧ ∀ k, bkF b vb' k → bkF b vb k ∨ w.heap.size ≤ k) := fun o =>
      ⟨vb, h.grow (balloc (brefl _) _), But.of_below (balloc (brefl _) _), fun k hk => .inl hk⟩
    clear h HX e1 e2 e3
    rcases Pg.below_not.1 hbq with h0 | h0
    · clear hbq
      go_enter Try.func33, Try.ntmps33
      go_wp2_with fail
      refine bodyPost_ret (v := .tuple #[.agg #[.int .i64 0, .int .i64 0, .int .i64 0, .int .i64 0], .int .i64 1]) ?_ rfl ⟨rfl, ?_⟩
      · simp [results, Try.results33, go_sem]
      · exact fin.out _
    · have h1 : ¬ q < 0 := by omega
      clear hbq
      go_enter Try.func33, Try.ntmps33
      go_wp2_with fail
      refine bodyPost_ret (v := .tuple #[.agg #[.int .i64 0, .int .i64 0, .int .i64 0, .int .i64 0], .int .i64 1]) ?_ rfl ⟨rfl, ?_⟩
      · simp [results, Try.results33, go_sem]
      · exact fin.out _
  · have h0 : ¬ q < 0 := by have := Pg.below_iff.1 hbq; omega
    have h1 : ¬ 4096 ≤ q := by have := Pg.below_iff.1 hbq; omega
    have HF := fun o => refFind_any q hq (w.alloc o) (h.grow (balloc (brefl _) o))
    cases hf : Pg.fnd L q with
    | none =>
      have e1 : Pg.dropC L q = 5 := by simp [Pg.dropC, hbq, hf]
      have e2 : Pg.dropM L q = .zz := by simp [Pg.dropM, e1]
      have e3 : Pg.dropL L q = L := by simp [Pg.dropL, e1]
      have e4 : Pg.fndN L q = -1 := by simp [Pg.fndN, hf]
      rw [e1, e2, e3]
      rw [e4] at HF
      clear h e1 e2 e3 e4 hf hbq
      go_enter Try.func33, Try.ntmps33
      go_wp2_with fail
      refine (HF _).mono ?_
      rintro e w1 ⟨rfl, hb1⟩
      have hr : ∀ o, w1.cell? ⟨w.heap.size, o, none⟩ = _ := fun o => hb1.cell (p := ⟨w.heap.size, o, none⟩) (by simp)
      have hf : ∀ o, w1.frozen? ⟨w.heap.size, o, none⟩ = _ := fun o => hb1.frozen (p := ⟨w.heap.size, o, none⟩) (by simp)
      have hB : Hid (Below w.heap.size w w1) := bthen (balloc (brefl _) _) hb1
      clear hb1 HF
      go_wp2_with fail
      refine bodyPost_ret (v := .tuple #[.agg #[.int .i64 0, .int .i64 0, .int .i64 0, .int .i64 0], .int .i64 5]) ?_ rfl ⟨rfl, ?_⟩
      · simp [results, Try.results33, go_sem, hr]
      · have hB' := below_set4 hB.out w.heap.size (Nat.le_refl _) (.int .i64 0) (.int .i64 0) (.int .i64 0) (.int .i64 0)
        exact ⟨vb, HX.out.grow hB', But.of_below hB', fun k hk => .inl hk⟩
    | some k =>
      have hk := Pg.fnd_some hf
      have e1 : Pg.dropC L q = 0 := by simp [Pg.dropC, hbq, hf]
      have e2 : Pg.dropM L q = L.getD k .zz := by simp only [Pg.dropM, e1, Pg.at', hf, if_true]
      have e3 : Pg.dropL L q = L.eraseIdx k := by simp only [Pg.dropL, e1, hf, if_true]
      have e4 : Pg.fndN L q = (k : Int) := by simp [Pg.fndN, hf]
      rw [e1, e2, e3]
      rw [e4] at HF
      have hkl := hk.1
      obtain ⟨q0, hqi, hz0, hz1, hz2⟩ := info_parts infoMap
      have j0 : ¬ (k : Int) < 0 := by omega
      have j1 : (0 : Int) ≤ (k : Int) := by omega
      have j2 : (k : Int) < (L.length : Int) := by omega
      clear h e1 e2 e3 e4 hf hbq hk
      obtain ⟨ad, cap, rfl⟩ := ownsMaps_form HX.out.row
      go_enter Try.func33, Try.ntmps33
      go_wp2_with fail
      refine (HF _).mono ?_
      rintro e w1 ⟨rfl, hb1⟩
      have hr : Hid (∀ o, w1.cell? ⟨w.heap.size, o, none⟩ = _) := fun o => hb1.cell (p := ⟨w.heap.size, o, none⟩) (by simp)
      have hf : Hid (∀ o, w1.frozen? ⟨w.heap.size, o, none⟩ = _) := fun o => hb1.frozen (p := ⟨w.heap.size, o, none⟩) (by simp)
      have hB : Hid (Below w.heap.size w w1) := bthen (balloc (brefl _) _) hb1
      have hsz : w.heap.size < w1.heap.size := by have := hb1.size; simp at this; omega
      clear hb1 HF
      go_wp2_with fail
      go_loopw [7, 8] (fun v i wr => ∃ j : Nat, j ≤ L.length ∧ i = .int .i64 j ∧ ∃ ad cap, ∃ M : List Pg.Mp, v = .slice ad M.length cap ∧ Hid (M = (L.take j).eraseIdx k ∧ wr.ownsRow w1.heap.size 62 4 (.slice ad M.length cap) M.length (mpCells M) ∧ Below w1.heap.size w1 wr ∧ (M = [] → Value.slice ad M.length cap = .slice none 0 0))) (fun _ i _ => L.length - (intOf i).toNat)
      case atStart => exact ⟨0, by omega, rfl, none, 0, [], rfl, ⟨by simp, World.ownsRow_nil _ _ _ _, brefl _, fun _ => rfl⟩⟩
      case round =>
        obtain ⟨j, hj, rfl, ad2, cap2, M, rfl, HR⟩ := hrel
        have HW : Hid _ := (HX.out.grow hB.out).grow HR.out.2.2.1
        have hc0 := HW.out.c0
        have i0 : (0 : Int) ≤ (j : Int) := by omega
        have hM : M.length ≤ 4096 := by
          have h1 := HR.out.1
          have h2 := List.length_eraseIdx_le (L.take j) k
          rw [← h1] at h2
          have := List.length_take_le j L
          omega
        by_cases hlt : j < L.length
        · have i1 : (j : Int) < (L.length : Int) := by omega
          by_cases hjk : j = k
          · have fin : Hid (M = (L.take (j + 1)).eraseIdx k) := by
              show M = (L.take (j + 1)).eraseIdx k
              rw [hjk, Pg.erase_take_at hkl, ← hjk]
              have := HR.out.1
              rw [← hjk] at this
              exact this
            have n1 : ((j : Int) != (k : Int)) = false := by simp [hjk]
            have n2 : ((j : Int) == (k : Int)) = true := by simp [hjk]
            clear hjk
            go_wp2_with fail
            go_roundw
            case rel => exact ⟨j + 1, by omega, by go_num, ad2, cap2, M, rfl, ⟨fin.out, HR.out.2⟩⟩
            case measure => simp [intOf]; omega
          · have n1 : ((j : Int) != (k : Int)) = true := by simp; omega
            have n2 : ((j : Int) == (k : Int)) = false := by simp; omega
            obtain ⟨g, rfl, hg, hm⟩ := owns_mapsAt HW.out.row j hlt
            obtain ⟨k0, k1, k2, k3⟩ := hm
            have hsucc : Hid _ := Pg.erase_take_ne hlt hjk
            have hown := HR.out.2.1
            have hws : w1.heap.size ≤ wr.heap.size := HR.out.2.2.1.size
            clear hjk
            generalize L.getD j .zz = x at *
            obtain ⟨p, s, f, r⟩ := x
            simp only at k0 k1 k2 k3
            go_wp2_with (first
              | (at_builtin; refine wpList_append_lies _ rfl _ _ 58 rfl w1.heap.size 62 q0 _ 4 32 Try.underlying58 hqi hz0 hz1 hz2 rfl (by decide) _ _ _ rfl (hown.alloc _) ⟨wr.heap.size, 0, none⟩ 1 1 [.int .i64 p, .int .i64 s, .int .i64 f, .int .i64 r] rfl rfl ?c1 ?c2 (by decide) ?c3 ?c4 ?c5 (wr.heap.size + 1) (by simp) ?_))
            case c1 =>
              intro j u hj
              match j, hj with
              | 0, hj => simp at hj; subst hj; simp [Addr.add, go_sem]
              | 1, hj => simp at hj; subst hj; simp [Addr.add, go_sem]
              | 2, hj => simp at hj; subst hj; simp [Addr.add, go_sem]
              | 3, hj => simp at hj; subst hj; simp [Addr.add, go_sem]
            case c2 => intro u hu; simp at hu; rcases hu with rfl | rfl | rfl | rfl <;> rfl
            case c3 => unfold maxLen; omega
            case c4 => omega
            case c5 => simp; omega
            intro g3 cap3 w3 hown3 hgrow hat hlt3
            have fin : Hid (M ++ [Pg.Mp.mk p s f r] = (L.take (j + 1)).eraseIdx k ∧ w3.ownsRow w1.heap.size 62 4 (.slice (some ⟨g3, 0, none⟩) (M ++ [Pg.Mp.mk p s f r]).length cap3) (M ++ [Pg.Mp.mk p s f r]).length (mpCells (M ++ [Pg.Mp.mk p s f r])) ∧ Below w1.heap.size w1 w3 ∧ (M ++ [Pg.Mp.mk p s f r] = [] → Value.slice (some ⟨g3, 0, none⟩) (M ++ [Pg.Mp.mk p s f r]).length cap3 = .slice none 0 0)) :=
              ⟨by rw [hsucc.out, ← HR.out.1], by rw [mpCells_push]; simpa using hown3, pushedMaps HR.out.2.2.1 HR.out.2.1 hgrow, fun e => by simp at e⟩
            clear hown3 hgrow hat hlt3 hown
            go_wp2_with fail
            go_roundw
            case rel => exact ⟨j + 1, by omega, by go_num, _, cap3, M ++ [Pg.Mp.mk p s f r], by simp, fin.out⟩
            case measure => simp [intOf]; omega
        · have i1 : ¬ (j : Int) < (L.length : Int) := by omega
          have hj' : j = L.length := by omega
          subst hj'
          have hMe : M = L.eraseIdx k := by
            have := HR.out.1
            rw [List.take_length] at this
            exact this
          obtain ⟨g, rfl, hg, hm⟩ := owns_mapsAt HW.out.row k hkl
          obtain ⟨k0, k1, k2, k3⟩ := hm
          have hr' := fun o => (HR.out.2.2.1.cell (p := ⟨w.heap.size, o, none⟩) hsz).trans (hr.out o)
          have hf' := fun o => (HR.out.2.2.1.frozen (p := ⟨w.heap.size, o, none⟩) hsz).trans (hf.out o)
          have hfb := HW.out.fb
          have hne : b ≠ w.heap.size := fun e => by have := HX.out.lb; omega
          have hws : w1.heap.size ≤ wr.heap.size := HR.out.2.2.1.size
          have n3 : b < wr.heap.size := by have := HX.out.lb; omega
          have n4 : w.heap.size < wr.heap.size := by omega
          have fin : Hid (∀ (o : Obj) (x0 x1 x2 x3 : Value), ∃ vb', BkAt ((((((wr.setCell ⟨b, 0, none⟩ (.slice ad2 M.length cap2)).setCell ⟨w.heap.size, 0, none⟩ x0).setCell ⟨w.heap.size, 1, none⟩ x1).setCell ⟨w.heap.size, 2, none⟩ x2).setCell ⟨w.heap.size, 3, none⟩ x3).alloc o) b vb' (L.eraseIdx k) ∧ But (bkF b (.slice (some ⟨g, 0, none⟩) L.length cap)) w ((((((wr.setCell ⟨b, 0, none⟩ (.slice ad2 M.length cap2)).setCell ⟨w.heap.size, 0, none⟩ x0).setCell ⟨w.heap.size, 1, none⟩ x1).setCell ⟨w.heap.size, 2, none⟩ x2).setCell ⟨w.heap.size, 3, none⟩ x3).alloc o) ∧ ∀ k, bkF b vb' k → bkF b (.slice (some ⟨g, 0, none⟩) L.length cap) k ∨ w.heap.size ≤ k) := by
            intro o x0 x1 x2 x3
            have hbl : Below w.heap.size w wr := bthen hB.out HR.out.2.2.1
            have hrow : wr.ownsRow w.heap.size 62 4 (.slice ad2 M.length cap2) (L.eraseIdx k).length (mpCells (L.eraseIdx k)) := by
              rw [← hMe]
              exact ownsMaps_mono HR.out.2.1 (Nat.le_of_lt hsz)
            obtain ⟨h1, h2, h3⟩ := HX.out.put hbl hrow (HX.out.good.erase k) (fun e => by rw [← hMe] at e; exact HR.out.2.2.2 e)
            refine ⟨_, (h1.keep (F := fun k => k = w.heap.size) (but_set4 (F := fun k => k = w.heap.size) (But.refl _ _) w.heap.size (.inr rfl) x0 x1 x2 x3) ?_).grow (balloc (brefl _) _), (but_set4 h2 _ (.inl (Nat.le_refl _)) x0 x1 x2 x3).alloc _, h3⟩
            intro t ht e
            subst e
            rcases ht with e | ht
            · exact hne e.symm
            · have := (HR.out.2.1.lt _ ht).1
              omega
          clear hMe hj
          obtain ⟨x, hx⟩ : ∃ x, x = L.getD k .zz := ⟨_, rfl⟩
          rw [← hx] at k0 k1 k2 k3
          rw [Pg.mp_at hkl] at hx
          have hx : Hid _ := hx
          obtain ⟨p, s, f, r⟩ := x
          simp only at k0 k1 k2 k3
          go_wp2_with fail
          refine bodyPost_ret (v := .tuple #[.agg #[.int .i64 p, .int .i64 s, .int .i64 f, .int .i64 r], .int .i64 0]) ?_ rfl ⟨by rw [← hx.out]; rfl, ?_⟩
          · simp [results, Try.results33, go_sem, hr', n4]
          · exact fin.out _ _ _ _ _
end Go.Proofs.Ytkcmlmofcjdgoab
