import Derived.Test.YtjdiaebgidgmaafGreatChecked
import Derived.Test.YtjdiaebgidgmaafGreatMapInfo
import Derived.Test.YtjdiaebgidgmaafGreatPageRef
import Derived.Deep.AppendLies
import Derived.Deep.RegionHeld3
namespace Go.Proofs.YtjdiaebgidgmaafGreat
open Go.RowKit Go.Sort
set_option maxRecDepth 100000
set_option linter.unusedVariables false
theorem refFind_any {b : Nat} {vb : Value} {L : List Pg.Mp} (q : Int) (hq : Pg.fits q) (w : World) (h : BkAt w b vb L) :
 Calls Tryz.prog 63 #[.pointer (some ⟨b, 0, none⟩), .int .i64 q] w fun e w' => e = .returned (.int .i64 (Pg.fndN L q)) ∧ Below w.heap.size w w' := by
 obtain ⟨ad, cap, rfl⟩ := zF h.row
 have hlen := h.good.len
 have HB : Hid _ := h
 clear h
 go_enter Tryz.func63, Tryz.ntmps63
 go_wp2_with fail
 go_loopw [5] (fun i wr => ∃ j : Nat, j ≤ L.length ∧ i = .int .i64 j ∧ Hid ((∀ t, t < j → (L.getD t .zz).has q = false) ∧ Below w.heap.size w wr)) (fun i _ => L.length - (intOf i).toNat)
 case atStart => exact ⟨0, by omega, rfl, ⟨fun t ht => by omega, zR _⟩⟩
 case round =>
  obtain ⟨j, hj, rfl, HR⟩ := hrel
  have hc0 := (HB.out.grow HR.out.2).c0
  have i0 : (0 : Int) ≤ (j : Int) := by omega
  by_cases hlt : j < L.length
  ·obtain ⟨g, rfl, hg, hm⟩ := owns_mapsAt (HB.out.grow HR.out.2).row j hlt
   obtain ⟨k0, k1, k2, k3⟩ := hm
   have i1 : (j : Int) < (L.length : Int) := by omega
   have hok := HB.out.good.ok (L.getD j .zz) (by rw [Pg.mp_at hlt]; exact List.getElem_mem _)
   have HC := refHas_any (L.getD j .zz).p (L.getD j .zz).s (L.getD j .zz).f (L.getD j .zz).r q (Pg.ok_fits hok).2.2.1 hq wr
   cases hh : (L.getD j .zz).has q
   ·have HN : Hid (∀ t, t < j + 1 → (L.getD t .zz).has q = false) := fun t ht => by
     by_cases e : t = j
     ·rw [e]; exact hh
     ·exact HR.out.1 t (by omega)
    rw [show Pg.over (L.getD j .zz).p (L.getD j .zz).s q = false from hh] at HC
    clear hh hok
    generalize L.getD j .zz = x at *
    obtain ⟨p, s, f, r⟩ := x
    go_wp2_with (go_at_call 107; refine HC.mono ?_; rintro e w1 ⟨rfl, hb1⟩; have HN1 : Hid _ := zT HR.out.2 hb1; clear hb1)
    go_roundw
    case rel => exact ⟨j + 1, by omega, by go_num, ⟨HN.out, HN1.out⟩⟩
    case measure => simp [intOf]; omega
   ·have HF : Hid (Pg.fndN L q = (j : Int)) := by simp [Hid, Pg.fndN, Pg.fnd_of hlt hh HR.out.1]
    rw [show Pg.over (L.getD j .zz).p (L.getD j .zz).s q = true from hh] at HC
    clear hh hok
    generalize L.getD j .zz = x at *
    obtain ⟨p, s, f, r⟩ := x
    go_wp2_with (go_at_call 107; refine HC.mono ?_; rintro e w1 ⟨rfl, hb1⟩; have HN1 : Hid _ := zT HR.out.2 hb1; clear hb1)
    go_ret
    exact ⟨ret_int HF.out.symm, HN1.out⟩
  ·have i1 : ¬ (j : Int) < (L.length : Int) := by omega
   have HF : Hid (Pg.fndN L q = -1) := by
    have : Pg.fnd L q = none := Pg.fnd_no fun t ht => HR.out.1 t (by omega)
    simp [Hid, Pg.fndN, this]
   go_wp2_with fail
   go_ret
   exact ⟨ret_int HF.out.symm, HR.out.2⟩
theorem boxed {w : World} {vb : Value} {L : List Pg.Mp} {t : TypeId} (hr : w.ownsRow 0 31 4 vb L.length (zC L)) (hg : Pg.Good L) (hn : L = [] → vb = .slice none 0 0) : BkAt (w.alloc (.cells #[vb] t)) w.heap.size vb L := by
 have hb := heap_alloc_new w (.cells #[vb] t)
 refine ⟨cell_of_row _ _ 0 _ _ _ hb, fun o => by unfold World.frozen?; simp only [hb]; simp, hr.alloc _, fun e => ?_, hg, hn⟩
 have := (hr.lt _ e).2
 omega
theorem refCopy_any {b : Nat} {vb : Value} {L : List Pg.Mp} (w : World) (h : BkAt w b vb L) :
 Calls Tryz.prog 56 #[.pointer (some ⟨b, 0, none⟩)] w fun e w' => ∃ b' vb', e = .returned (.pointer (some ⟨b', 0, none⟩)) ∧ BkAt w' b' vb' L ∧ Below w.heap.size w w' ∧ ∀ k, bkF b' vb' k → w.heap.size ≤ k := by
 have hlen := h.good.len
 have hc0 := h.c0
 by_cases hL : L = []
 ·have e := h.none' hL
  subst e
  have hg := h.good
  subst hL
  clear h
  go_enter Tryz.func56, Tryz.ntmps56
  go_wp2_with fail
  go_ret
  refine ⟨_, .slice none 0 0, rfl, boxed (World.ownsRow_nil _ _ _ _) hg (fun _ => rfl), zA (zR _) _, fun k hk => ?_⟩
  rcases hk with rfl | hk
  ·exact Nat.le_refl _
  ·simp [Value.ownBlock] at hk
 ·have hpos : 0 < L.length := List.length_pos_iff.2 hL
  obtain ⟨g, cap, rfl, _, hgl⟩ := h.row.form hpos
  obtain ⟨q0, hqi, hz0, hz1, hz2⟩ := info_parts infoMap
  have hcells : Hid _ := h.row.cells (g := g) rfl
  have hown : w.ownsRow w.heap.size 31 4 (.slice none 0 0) 0 [] := World.ownsRow_nil _ _ _ _
  have HG : Hid _ := h.good
  clear h
  go_enter Tryz.func56, Tryz.ntmps56
  go_wp2_with (first
   | (at_builtin; refine wpList_append_lies _ rfl _ _ 43 rfl w.heap.size 31 q0 _ 4 32 Tryz.underlying43 hqi hz0 hz1 hz2 rfl (by decide) _ _ _ rfl hown ⟨g, 0, none⟩ L.length cap (zC L) rfl (mpCells_len L) ?c1 (mpCells_one' L) hpos ?c3 ?c4 (Nat.le_refl _) (w.heap.size) rfl ?_))
  case c1 => exact hcells.out
  case c3 => unfold maxLen; omega
  case c4 => omega
  intro g3 cap3 w3 hown3 hgrow hat hlt3
  have hr3' : w3.ownsRow w.heap.size 31 4 (.slice (some ⟨g3, 0, none⟩) L.length cap3) L.length (zC L) := by simpa using hown3
  have hr3 : Hid _ := hr3'
  have hb3 : Hid (Below w.heap.size w w3) := ((But.refl (fun _ => False) w).grown hgrow fun k hk => by simp [Value.ownBlock] at hk).below (Nat.le_refl _) (fun _ h => h.elim)
  clear hown3 hgrow hat hlt3 hown hr3'
  go_wp2_with fail
  go_ret
  refine ⟨_, .slice (some ⟨g3, 0, none⟩) L.length cap3, rfl, boxed (ownsMaps_zero hr3.out) HG.out (fun e => absurd e hL), zA hb3.out _, fun k hk => ?_⟩
  rcases hk with rfl | hk
  ·exact hb3.out.size
  ·exact (World.ownsRow.lt hr3.out k hk).1
set_option maxHeartbeats 4000000 in
theorem refDrop_any {b : Nat} {vb : Value} {L : List Pg.Mp} (q : Int) (hq : Pg.fits q) (w : World) (h : BkAt w b vb L) :
 Calls Tryz.prog 58 #[.pointer (some ⟨b, 0, none⟩), .int .i64 q] w fun e w' => e = .returned (.tuple #[(Pg.dropM L q).val, .int .i64 (Pg.dropC L q)]) ∧ ∃ vb', BkAt w' b vb' (Pg.dropL L q) ∧ But (bkF b vb) w w' ∧ ∀ k, bkF b vb' k → bkF b vb k ∨ w.heap.size ≤ k := by
 have hlen := h.good.len
 have HX : Hid _ := h
 cases hbq : Pg.below q 4096
 ·have e1 : Pg.dropC L q = 1 := by simp [Pg.dropC, hbq]
  have e2 : Pg.dropM L q = .zz := by simp [Pg.dropM, e1]
  have e3 : Pg.dropL L q = L := by simp [Pg.dropL, e1]
  rw [e1, e2, e3]
  have fin : Hid (∀ o : Obj, ∃ vb', BkAt (w.alloc o) b vb' L ∧ But (bkF b vb) w (w.alloc o) ∧ ∀ k, bkF b vb' k → bkF b vb k ∨ w.heap.size ≤ k) := fun o =>
   ⟨vb, h.grow (zA (zR _) _), But.of_below (zA (zR _) _), fun k hk => .inl hk⟩
  clear h HX e1 e2 e3
  rcases Pg.below_not.1 hbq with h0 | h0
  ·clear hbq
   go_enter Tryz.func58, Tryz.ntmps58
   go_wp2_with fail
   refine bodyPost_ret (v := .tuple #[.agg #[.int .i64 0, .int .i64 0, .int .i64 0, .int .i64 0], .int .i64 1]) ?_ rfl ⟨rfl, ?_⟩
   ·simp [results, Tryz.results58, go_sem]
   ·exact fin.out _
  ·have h1 : ¬ q < 0 := by omega
   clear hbq
   go_enter Tryz.func58, Tryz.ntmps58
   go_wp2_with fail
   refine bodyPost_ret (v := .tuple #[.agg #[.int .i64 0, .int .i64 0, .int .i64 0, .int .i64 0], .int .i64 1]) ?_ rfl ⟨rfl, ?_⟩
   ·simp [results, Tryz.results58, go_sem]
   ·exact fin.out _
 ·have h0 : ¬ q < 0 := by have := Pg.zB.1 hbq; omega
  have h1 : ¬ 4096 ≤ q := by have := Pg.zB.1 hbq; omega
  have HF := fun o => refFind_any q hq (w.alloc o) (h.grow (zA (zR _) o))
  cases hf : Pg.fnd L q with
  | none =>
    have e1 : Pg.dropC L q = 5 := by simp [Pg.dropC, hbq, hf]
    have e2 : Pg.dropM L q = .zz := by simp [Pg.dropM, e1]
    have e3 : Pg.dropL L q = L := by simp [Pg.dropL, e1]
    have e4 : Pg.fndN L q = -1 := by simp [Pg.fndN, hf]
    rw [e1, e2, e3]
    rw [e4] at HF
    clear h e1 e2 e3 e4 hf hbq
    go_enter Tryz.func58, Tryz.ntmps58
    go_wp2_with fail
    refine (HF _).mono ?_
    rintro e w1 ⟨rfl, hb1⟩
    have hr : ∀ o, w1.cell? ⟨w.heap.size, o, none⟩ = _ := fun o => hb1.cell (p := ⟨w.heap.size, o, none⟩) (by simp)
    have hf : ∀ o, w1.frozen? ⟨w.heap.size, o, none⟩ = _ := fun o => hb1.frozen (p := ⟨w.heap.size, o, none⟩) (by simp)
    have hB : Hid (Below w.heap.size w w1) := zT (zA (zR _) _) hb1
    clear hb1 HF
    go_wp2_with fail
    refine bodyPost_ret (v := .tuple #[.agg #[.int .i64 0, .int .i64 0, .int .i64 0, .int .i64 0], .int .i64 5]) ?_ rfl ⟨rfl, ?_⟩
    ·simp [results, Tryz.results58, go_sem, hr]
    ·have hB' := below_set4 hB.out w.heap.size (Nat.le_refl _) (.int .i64 0) (.int .i64 0) (.int .i64 0) (.int .i64 0)
     exact ⟨vb, HX.out.grow hB', But.of_below hB', fun k hk => .inl hk⟩
  | some k =>
    have hk := Pg.fnd_some hf
    have e1 : Pg.dropC L q = 0 := by simp [Pg.dropC, hbq, hf]
    have e2 : Pg.dropM L q = L.getD k .zz := by simp only [Pg.dropM, e1, Pg.at', hf, if_true]
    have e3 : Pg.dropL L q = L.eraseIdx k := by simp only [Pg.dropL, e1, hf, if_true]
    have e4 : Pg.fndN L q = (k : Int) := by simp [Pg.fndN, hf]
    rw [e1, e2, e3]
    rw [e4] at HF
    have hkl := hk.1
    obtain ⟨q0, hqi, hz0, hz1, hz2⟩ := info_parts infoMap
    have j0 : ¬ (k : Int) < 0 := by omega
    have j1 : (0 : Int) ≤ (k : Int) := by omega
    have j2 : (k : Int) < (L.length : Int) := by omega
    clear h e1 e2 e3 e4 hf hbq hk
    obtain ⟨ad, cap, rfl⟩ := zF HX.out.row
    go_enter Tryz.func58, Tryz.ntmps58
    go_wp2_with fail
    refine (HF _).mono ?_
    rintro e w1 ⟨rfl, hb1⟩
    have hr : Hid (∀ o, w1.cell? ⟨w.heap.size, o, none⟩ = _) := fun o => hb1.cell (p := ⟨w.heap.size, o, none⟩) (by simp)
    have hf : Hid (∀ o, w1.frozen? ⟨w.heap.size, o, none⟩ = _) := fun o => hb1.frozen (p := ⟨w.heap.size, o, none⟩) (by simp)
    have hB : Hid (Below w.heap.size w w1) := zT (zA (zR _) _) hb1
    have hsz : w.heap.size < w1.heap.size := by have := hb1.size; simp at this; omega
    clear hb1 HF
    go_wp2_with fail
    go_loopw [7, 8] (fun v i wr => ∃ j : Nat, j ≤ L.length ∧ i = .int .i64 j ∧ ∃ ad cap, ∃ M : List Pg.Mp, v = .slice ad M.length cap ∧ Hid (M = (L.take j).eraseIdx k ∧ wr.ownsRow w1.heap.size 31 4 (.slice ad M.length cap) M.length (zC M) ∧ Below w1.heap.size w1 wr ∧ (M = [] → Value.slice ad M.length cap = .slice none 0 0))) (fun _ i _ => L.length - (intOf i).toNat)
    case atStart => exact ⟨0, by omega, rfl, none, 0, [], rfl, ⟨by simp, World.ownsRow_nil _ _ _ _, zR _, fun _ => rfl⟩⟩
    case round =>
     obtain ⟨j, hj, rfl, ad2, cap2, M, rfl, HR⟩ := hrel
     have HW : Hid _ := (HX.out.grow hB.out).grow HR.out.2.2.1
     have hc0 := HW.out.c0
     have i0 : (0 : Int) ≤ (j : Int) := by omega
     have hM : M.length ≤ 4096 := by
      have h1 := HR.out.1
      have h2 := List.length_eraseIdx_le (L.take j) k
      rw [← h1] at h2
      have := List.length_take_le j L
      omega
     by_cases hlt : j < L.length
     ·have i1 : (j : Int) < (L.length : Int) := by omega
      by_cases hjk : j = k
      ·have fin : Hid (M = (L.take (j + 1)).eraseIdx k) := by
        show M = (L.take (j + 1)).eraseIdx k
        rw [hjk, Pg.erase_take_at hkl, ← hjk]
        have := HR.out.1
        rw [← hjk] at this
        exact this
       have n1 : ((j : Int) != (k : Int)) = false := by simp [hjk]
       have n2 : ((j : Int) == (k : Int)) = true := by simp [hjk]
       clear hjk
       go_wp2_with fail
       go_roundw
       case rel => exact ⟨j + 1, by omega, by go_num, ad2, cap2, M, rfl, ⟨fin.out, HR.out.2⟩⟩
       case measure => simp [intOf]; omega
      ·have n1 : ((j : Int) != (k : Int)) = true := by simp; omega
       have n2 : ((j : Int) == (k : Int)) = false := by simp; omega
       obtain ⟨g, rfl, hg, hm⟩ := owns_mapsAt HW.out.row j hlt
       obtain ⟨k0, k1, k2, k3⟩ := hm
       have hsucc : Hid _ := Pg.erase_take_ne hlt hjk
       have hown := HR.out.2.1
       have hws : w1.heap.size ≤ wr.heap.size := HR.out.2.2.1.size
       clear hjk
       generalize L.getD j .zz = x at *
       obtain ⟨p, s, f, r⟩ := x
       simp only at k0 k1 k2 k3
       go_wp2_with (first
        | (at_builtin; refine wpList_append_lies _ rfl _ _ 43 rfl w1.heap.size 31 q0 _ 4 32 Tryz.underlying43 hqi hz0 hz1 hz2 rfl (by decide) _ _ _ rfl (hown.alloc _) ⟨wr.heap.size, 0, none⟩ 1 1 [.int .i64 p, .int .i64 s, .int .i64 f, .int .i64 r] rfl rfl ?c1 ?c2 (by decide) ?c3 ?c4 ?c5 (wr.heap.size + 1) (by simp) ?_))
       case c1 =>
        intro j u hj
        match j, hj with
        | 0, hj => simp at hj; subst hj; simp [Addr.add, go_sem]
        | 1, hj => simp at hj; subst hj; simp [Addr.add, go_sem]
        | 2, hj => simp at hj; subst hj; simp [Addr.add, go_sem]
        | 3, hj => simp at hj; subst hj; simp [Addr.add, go_sem]
       case c2 => intro u hu; simp at hu; rcases hu with rfl | rfl | rfl | rfl <;> rfl
       case c3 => unfold maxLen; omega
       case c4 => omega
       case c5 => simp; omega
       intro g3 cap3 w3 hown3 hgrow hat hlt3
       have fin : Hid (M ++ [Pg.Mp.mk p s f r] = (L.take (j + 1)).eraseIdx k ∧ w3.ownsRow w1.heap.size 31 4 (.slice (some ⟨g3, 0, none⟩) (M ++ [Pg.Mp.mk p s f r]).length cap3) (M ++ [Pg.Mp.mk p s f r]).length (zC (M ++ [Pg.Mp.mk p s f r])) ∧ Below w1.heap.size w1 w3 ∧ (M ++ [Pg.Mp.mk p s f r] = [] → Value.slice (some ⟨g3, 0, none⟩) (M ++ [Pg.Mp.mk p s f r]).length cap3 = .slice none 0 0)) :=
        ⟨by rw [hsucc.out, ← HR.out.1], by rw [mpCells_push]; simpa using hown3, pushedMaps HR.out.2.2.1 HR.out.2.1 hgrow, fun e => by simp at e⟩
       clear hown3 hgrow hat hlt3 hown
       go_wp2_with fail
       go_roundw
       case rel => exact ⟨j + 1, by omega, by go_num, _, cap3, M ++ [Pg.Mp.mk p s f r], by simp, fin.out⟩
       case measure => simp [intOf]; omega
     ·have i1 : ¬ (j : Int) < (L.length : Int) := by omega
      have hj' : j = L.length := by omega
      subst hj'
      have hMe : M = L.eraseIdx k := by
       have := HR.out.1
       rw [List.take_length] at this
       exact this
      obtain ⟨g, rfl, hg, hm⟩ := owns_mapsAt HW.out.row k hkl
      obtain ⟨k0, k1, k2, k3⟩ := hm
      have hr' := fun o => (HR.out.2.2.1.cell (p := ⟨w.heap.size, o, none⟩) hsz).trans (hr.out o)
      have hf' := fun o => (HR.out.2.2.1.frozen (p := ⟨w.heap.size, o, none⟩) hsz).trans (hf.out o)
      have hfb := HW.out.fb
      have hne : b ≠ w.heap.size := fun e => by have := HX.out.lb; omega
      have hws : w1.heap.size ≤ wr.heap.size := HR.out.2.2.1.size
      have n3 : b < wr.heap.size := by have := HX.out.lb; omega
      have n4 : w.heap.size < wr.heap.size := by omega
      have fin : Hid (∀ (o : Obj) (x0 x1 x2 x3 : Value), ∃ vb', BkAt ((((((wr.setCell ⟨b, 0, none⟩ (.slice ad2 M.length cap2)).setCell ⟨w.heap.size, 0, none⟩ x0).setCell ⟨w.heap.size, 1, none⟩ x1).setCell ⟨w.heap.size, 2, none⟩ x2).setCell ⟨w.heap.size, 3, none⟩ x3).alloc o) b vb' (L.eraseIdx k) ∧ But (bkF b (.slice (some ⟨g, 0, none⟩) L.length cap)) w ((((((wr.setCell ⟨b, 0, none⟩ (.slice ad2 M.length cap2)).setCell ⟨w.heap.size, 0, none⟩ x0).setCell ⟨w.heap.size, 1, none⟩ x1).setCell ⟨w.heap.size, 2, none⟩ x2).setCell ⟨w.heap.size, 3, none⟩ x3).alloc o) ∧ ∀ k, bkF b vb' k → bkF b (.slice (some ⟨g, 0, none⟩) L.length cap) k ∨ w.heap.size ≤ k) := by
       intro o x0 x1 x2 x3
       have hbl : Below w.heap.size w wr := zT hB.out HR.out.2.2.1
       have hrow : wr.ownsRow w.heap.size 31 4 (.slice ad2 M.length cap2) (L.eraseIdx k).length (zC (L.eraseIdx k)) := by
        rw [← hMe]
        exact ownsMaps_mono HR.out.2.1 (Nat.le_of_lt hsz)
       obtain ⟨h1, h2, h3⟩ := HX.out.put hbl hrow (HX.out.good.erase k) (fun e => by rw [← hMe] at e; exact HR.out.2.2.2 e)
       refine ⟨_, (h1.keep (F := fun k => k = w.heap.size) (but_set4 (F := fun k => k = w.heap.size) (But.refl _ _) w.heap.size (.inr rfl) x0 x1 x2 x3) ?_).grow (zA (zR _) _), (but_set4 h2 _ (.inl (Nat.le_refl _)) x0 x1 x2 x3).alloc _, h3⟩
       intro t ht e
       subst e
       rcases ht with e | ht
       ·exact hne e.symm
       ·have := (HR.out.2.1.lt _ ht).1
        omega
      clear hMe hj
      obtain ⟨x, hx⟩ : ∃ x, x = L.getD k .zz := ⟨_, rfl⟩
      rw [← hx] at k0 k1 k2 k3
      rw [Pg.mp_at hkl] at hx
      have hx : Hid _ := hx
      obtain ⟨p, s, f, r⟩ := x
      simp only at k0 k1 k2 k3
      go_wp2_with fail
      refine bodyPost_ret (v := .tuple #[.agg #[.int .i64 p, .int .i64 s, .int .i64 f, .int .i64 r], .int .i64 0]) ?_ rfl ⟨by rw [← hx.out]; rfl, ?_⟩
      ·simp [results, Tryz.results58, go_sem, hr', n4]
      ·exact fin.out _ _ _ _ _
structure Laid (w1 wr : World) (ad : Option Addr) (cap : Nat) (M : List Pg.Mp) : Prop where
 row : wr.ownsRow w1.heap.size 31 4 (.slice ad M.length cap) M.length (zC M)
 bel : Below w1.heap.size w1 wr
 nil : M = [] → Value.slice ad M.length cap = .slice none 0 0
theorem Laid.push {w1 wr w3 : World} {ad : Option Addr} {cap g3 cap3 : Nat} {M : List Pg.Mp} {m : Pg.Mp} {o : Obj} (h : Laid w1 wr ad cap M)
 (h3 : w3.ownsRow w1.heap.size 31 4 (.slice (some ⟨g3, 0, none⟩) (M.length + 1) cap3) (M.length + 1) (zC M ++ [.int .i64 m.p, .int .i64 m.s, .int .i64 m.f, .int .i64 m.r]))
 (hg : (wr.alloc o).grownBy w3 (Value.slice ad M.length cap).ownBlock) : Laid w1 w3 (some ⟨g3, 0, none⟩) cap3 (M ++ [m]) :=
 ⟨by rw [mpCells_push]; simpa using h3, pushedMaps h.bel h.row hg, fun e => by simp at e⟩
theorem Laid.grow {w1 wr w' : World} {ad : Option Addr} {cap : Nat} {M : List Pg.Mp} (h : Laid w1 wr ad cap M) (hb : Below wr.heap.size wr w') : Laid w1 w' ad cap M :=
 ⟨ownsMaps_below h.row hb, zT h.bel hb, h.nil⟩
theorem cells_drewN (w : World) (n : Nat) (cs : Array Value) (t : TypeId) (i : Nat) : ((w.drewN n).alloc (.cells cs t)).cell? ⟨w.heap.size, i, none⟩ = cs[i]? := by
 have h := heap_alloc_new (w.drewN n) (.cells cs t)
 have e : (w.drewN n).heap.size = w.heap.size := by simp
 rw [e] at h
 exact cell_of_row _ _ i _ _ _ h
theorem cells_new (w : World) (cs : Array Value) (t : TypeId) (i : Nat) : (w.alloc (.cells cs t)).cell? ⟨w.heap.size, i, none⟩ = cs[i]? := cells_drewN w 0 cs t i
set_option maxHeartbeats 4000000 in
theorem refAdd_any {b : Nat} {vb : Value} {L : List Pg.Mp} (m : Pg.Mp) (hm : Pg.fits m.p) (w : World) (h : BkAt w b vb L) :
 Calls Tryz.prog 57 #[.pointer (some ⟨b, 0, none⟩), m.val] w fun e w' => e = .returned (.int .i64 (Pg.addC L m)) ∧ ∃ vb', BkAt w' b vb' (Pg.addL L m) ∧ But (bkF b vb) w w' ∧ ∀ k, bkF b vb' k → bkF b vb k ∨ w.heap.size ≤ k := by
 have hlen := h.good.len
 have HX : Hid _ := h
 have HM := mapFault_any m.p m.s m.f m.r
 have stay : Hid (∀ w', Below w.heap.size w w' → ∃ vb', BkAt w' b vb' L ∧ But (bkF b vb) w w' ∧ ∀ k, bkF b vb' k → bkF b vb k ∨ w.heap.size ≤ k) := fun w' hb => ⟨vb, h.grow hb, But.of_below hb, fun k hk => .inl hk⟩
 by_cases hc : m.code = 0
 ·rw [show Pg.check m.p m.s m.f m.r = 0 from hc] at HM
  obtain ⟨q0, hqi, hz0, hz1, hz2⟩ := info_parts infoMap
  obtain ⟨ad, cap, rfl⟩ := zF HX.out.row
  have hgood : Hid (∀ hn : (∀ x, x ∈ L → x.meets m = false), Pg.addC L m = 0 ∧ Pg.addL L m = Pg.ins m L) := by
   intro hn
   have e : Pg.addC L m = 0 := by
    have : (L.any fun x => x.meets m) = false := by
     rw [List.any_eq_false]
     intro x hx
     simp [hn x hx]
    simp [Pg.addC, hc, this]
   exact ⟨e, by simp [Pg.addL, e]⟩
  have hbad : Hid (∀ j, j < L.length → (L.getD j .zz).meets m = true → Pg.addC L m = 4 ∧ Pg.addL L m = L) := by
   intro j hj hx
   have : (L.any fun x => x.meets m) = true := List.any_eq_true.2 ⟨L.getD j .zz, by rw [Pg.mp_at hj]; exact List.getElem_mem _, hx⟩
   have e : Pg.addC L m = 4 := by simp [Pg.addC, hc, this]
   exact ⟨e, by simp [Pg.addL, e]⟩
  have hc : Hid _ := hc
  clear h
  obtain ⟨mp, ms, mf, mr⟩ := m
  simp only at HM hm
  unfold Pg.Mp.val
  simp only
  go_enter Tryz.func57, Tryz.ntmps57
  go_wp2_with fail
  refine (HM _).mono ?_
  rintro e w1 ⟨rfl, hb1⟩
  have hr : Hid (∀ o, w1.cell? ⟨w.heap.size, o, none⟩ = _) := fun o => hb1.cell (p := ⟨w.heap.size, o, none⟩) (by simp)
  have hB : Hid (Below w.heap.size w w1) := zT (zA (zR _) _) hb1
  have hsz : w.heap.size < w1.heap.size := by have := hb1.size; simp at this; omega
  clear hb1 HM
  go_wp2_with fail
  go_loopw [6, 7, 8] (fun v t i wr => ∃ j : Nat, j ≤ L.length ∧ i = .int .i64 j ∧ ∃ ad cap, ∃ M : List Pg.Mp, ∃ pt : Bool, v = .slice ad M.length cap ∧ t = .bool pt ∧ Hid ((∀ t, t < j → (L.getD t .zz).meets ⟨mp, ms, mf, mr⟩ = false) ∧ pt = ((L.take j).any fun y => decide (mp < y.p)) ∧ M = Pg.hlf L ⟨mp, ms, mf, mr⟩ j ∧ Laid w1 wr ad cap M)) (fun _ _ i _ => L.length - (intOf i).toNat)
  case atStart => exact ⟨0, by omega, rfl, none, 0, [], false, rfl, rfl, ⟨fun t ht => by omega, by simp, by simp [Pg.hlf], World.ownsRow_nil _ _ _ _, zR _, fun _ => rfl⟩⟩
  case round =>
   obtain ⟨j, hj, rfl, ad2, cap2, M, pt, rfl, rfl, HR⟩ := hrel
   have HW : Hid _ := (HX.out.grow hB.out).grow HR.out.2.2.2.bel
   have hc0 := HW.out.c0
   have i0 : (0 : Int) ≤ (j : Int) := by omega
   have hM : M.length ≤ 4097 := by
    have h1 := HR.out.2.2.1
    have h2 := Pg.hlf_len (L := L) (m := ⟨mp, ms, mf, mr⟩) (j := j)
    rw [← h1] at h2
    omega
   have hr' := fun o => (HR.out.2.2.2.bel.cell (p := ⟨w.heap.size, o, none⟩) hsz).trans (hr.out o)
   by_cases hlt : j < L.length
   ·obtain ⟨g, rfl, hg, hmm⟩ := owns_mapsAt HW.out.row j hlt
    obtain ⟨k0, k1, k2, k3⟩ := hmm
    have i1 : (j : Int) < (L.length : Int) := by omega
    have hok := HX.out.good.ok (L.getD j .zz) (by rw [Pg.mp_at hlt]; exact List.getElem_mem _)
    have HC := both_any (L.getD j .zz).p (L.getD j .zz).s (L.getD j .zz).f (L.getD j .zz).r mp ms mf mr (Pg.ok_fits hok).2.2.1 hm
    have m0 : wr.cell? ⟨w.heap.size, 0, none⟩ = some (.int .i64 mp) := (hr' 0).trans (cells_new _ _ _ _)
    have m1 : wr.cell? ⟨w.heap.size, 1, none⟩ = some (.int .i64 ms) := (hr' 1).trans (cells_new _ _ _ _)
    have m2 : wr.cell? ⟨w.heap.size, 2, none⟩ = some (.int .i64 mf) := (hr' 2).trans (cells_new _ _ _ _)
    have m3 : wr.cell? ⟨w.heap.size, 3, none⟩ = some (.int .i64 mr) := (hr' 3).trans (cells_new _ _ _ _)
    have hwr : w.heap.size < wr.heap.size := by have := HR.out.2.2.2.bel.size; omega
    have hbr : b < wr.heap.size := HW.out.lb
    have hws : w1.heap.size ≤ wr.heap.size := HR.out.2.2.2.bel.size
    have hany : Hid _ := Pg.any_take_succ hlt fun y => decide (mp < y.p)
    have HP : Hid (((L.take j).any fun y => decide (mp < y.p)) = true → Pg.hlf L ⟨mp, ms, mf, mr⟩ (j + 1) = Pg.hlf L ⟨mp, ms, mf, mr⟩ j ++ [L.getD j .zz]) := fun h => Pg.hlf_put (m := ⟨mp, ms, mf, mr⟩) hlt h
    have HN : Hid (((L.take j).any fun y => decide (mp < y.p)) = false → mp < (L.getD j .zz).p → Pg.hlf L ⟨mp, ms, mf, mr⟩ (j + 1) = Pg.hlf L ⟨mp, ms, mf, mr⟩ j ++ [⟨mp, ms, mf, mr⟩] ++ [L.getD j .zz]) := fun h h' => Pg.hlf_now (m := ⟨mp, ms, mf, mr⟩) hlt h h'
    have HO : Hid (((L.take j).any fun y => decide (mp < y.p)) = false → ¬ mp < (L.getD j .zz).p → Pg.hlf L ⟨mp, ms, mf, mr⟩ (j + 1) = Pg.hlf L ⟨mp, ms, mf, mr⟩ j ++ [L.getD j .zz]) := fun h h' => Pg.hlf_not (m := ⟨mp, ms, mf, mr⟩) hlt h h'
    have HBd : Hid ((L.getD j .zz).meets ⟨mp, ms, mf, mr⟩ = true → Pg.addC L ⟨mp, ms, mf, mr⟩ = 4 ∧ Pg.addL L ⟨mp, ms, mf, mr⟩ = L) := fun h => hbad.out j hlt h
    have HNx : Hid ((L.getD j .zz).meets ⟨mp, ms, mf, mr⟩ = false → ∀ t, t < j + 1 → (L.getD t .zz).meets ⟨mp, ms, mf, mr⟩ = false) := fun h t ht => by
     by_cases e : t = j
     ·rw [e]; exact h
     ·exact HR.out.1 t (by omega)
    have HCM : Hid (Pg.meet (L.getD j .zz).p (L.getD j .zz).s mp ms = (L.getD j .zz).meets ⟨mp, ms, mf, mr⟩) := rfl
    clear hok hr'
    generalize hxe : L.getD j .zz = x at *
    have hxe' : Hid _ := hxe
    clear hxe
    obtain ⟨p, s, f, r⟩ := x
    simp only at k0 k1 k2 k3
    have r0 := cell_regrown k0
    have r1 := cell_regrown k1
    have r2 := cell_regrown k2
    have r3 := cell_regrown k3
    have r4 := cell_regrown hc0
    have r5 := cell_regrown m0
    have r6 := cell_regrown m1
    have r7 := cell_regrown m2
    have r8 := cell_regrown m3
    cases hx : (Pg.Mp.mk p s f r).meets ⟨mp, ms, mf, mr⟩
    ·rw [HCM.out, hx] at HC
     have HNx : Hid _ := HNx.out hx
     clear HBd hx HCM
     go_wp2_with fail
     refine wp_region_quiet_below (by kernel_rfl) (by kernel_rfl) ?_
     repeat (first
      | go_big_quiet_step ((go_at_call 105; exact Calls.regrown_of (HC _))))
     refine wpQuiet_nil ?_
     intro _ hw'
     obtain ⟨⟨dq, osq⟩, rfl⟩ := hw'
     have hb2 := below_regrown wr dq osq
     have s0 := r0 dq osq
     have s1 := r1 dq osq
     have s2 := r2 dq osq
     have s3 := r3 dq osq
     have s4 := r4 dq osq
     have s5 := r5 dq osq
     have s6 := r6 dq osq
     have s7 := r7 dq osq
     have s8 := r8 dq osq
     have HL2 : Hid _ := HR.out.2.2.2.grow hb2
     have hz2w := hb2.size
     generalize grow (redrawn wr dq) osq = w2 at *
     clear r0 r1 r2 r3 r4 r5 r6 r7 r8 k0 k1 k2 k3 m0 m1 m2 m3 hc0 HC hb2
     have hown := fun nq => ownsMaps_below HL2.out.row (below_drewN (zR w2) nq)
     have HLq : Hid (∀ nq, Laid w1 (w2.drewN nq) ad2 cap2 M) := fun nq => HL2.out.grow (below_drewN (zR w2) nq)
     cases hpt : pt
     ·have hp0 : ((L.take j).any fun y => decide (mp < y.p)) = false := by rw [← HR.out.2.1]; exact hpt
      by_cases hxp : mp < p
      ·have hM' : Hid (Pg.hlf L ⟨mp, ms, mf, mr⟩ (j + 1) = M ++ [⟨mp, ms, mf, mr⟩] ++ [Pg.Mp.mk p s f r]) := by
        show Pg.hlf L ⟨mp, ms, mf, mr⟩ (j + 1) = M ++ [⟨mp, ms, mf, mr⟩] ++ [Pg.Mp.mk p s f r]
        rw [HN.out hp0 hxp, ← HR.out.2.2.1]
       have ha' : Hid (true = ((L.take (j + 1)).any fun y => decide (mp < y.p))) := by
        show true = _
        rw [hany.out, hp0]
        simp [hxp]
       clear hp0
       subst hpt
       go_wp2_with fail
       go_quiet (fail)
       go_wp2_with (first
        | (at_builtin; refine wpList_append_lies _ rfl _ _ 43 rfl w1.heap.size 31 q0 _ 4 32 Tryz.underlying43 hqi hz0 hz1 hz2 rfl (by decide) _ _ _ rfl ((hown _).alloc _) ⟨w2.heap.size, 0, none⟩ 1 1 [.int .i64 mp, .int .i64 ms, .int .i64 mf, .int .i64 mr] rfl rfl ?c1 ?c2 (by decide) ?c3 ?c4 ?c5 (w2.heap.size + 1) (by simp) ?_))
       case c1 =>
        intro j u hj
        match j, hj with
        | 0, hj => simp at hj; subst hj; exact cells_drewN w2 _ _ _ 0
        | 1, hj => simp at hj; subst hj; exact cells_drewN w2 _ _ _ 1
        | 2, hj => simp at hj; subst hj; exact cells_drewN w2 _ _ _ 2
        | 3, hj => simp at hj; subst hj; exact cells_drewN w2 _ _ _ 3
       case c2 => intro u hu; simp at hu; rcases hu with rfl | rfl | rfl | rfl <;> rfl
       case c3 => unfold maxLen; first | omega | (simp; omega)
       case c4 => first | omega | (simp; omega)
       case c5 => first | omega | (simp; omega)
       intro g3 cap3 w3 hown3 hgrow hat hlt3
       have HL3 : Hid (Laid w1 w3 (some ⟨g3, 0, none⟩) cap3 (M ++ [Pg.Mp.mk mp ms mf mr])) := (HLq.out _).push (m := Pg.Mp.mk mp ms mf mr) hown3 hgrow
       have HW3 : Hid _ := (HX.out.grow hB.out).grow HL3.out.bel
       have t0 := HW3.out.c0
       obtain ⟨g', e', _, tt⟩ := owns_mapsAt HW3.out.row j hlt
       cases e'
       rw [hxe'.out] at tt
       obtain ⟨t1, t2, t3, t4⟩ := tt
       simp only at t1 t2 t3 t4
       have hown4 : w3.ownsRow w1.heap.size 31 4 (.slice (some ⟨g3, 0, none⟩) (M.length + 1) cap3) (M.length + 1) (zC (M ++ [Pg.Mp.mk mp ms mf mr])) := by simpa using HL3.out.row
       have hws3 : w1.heap.size ≤ w3.heap.size := HL3.out.bel.size
       clear hown3 hgrow hat hlt3 hown
       go_wp2_with (first
        | (at_builtin; refine wpList_append_lies _ rfl _ _ 43 rfl w1.heap.size 31 q0 _ 4 32 Tryz.underlying43 hqi hz0 hz1 hz2 rfl (by decide) _ _ _ rfl ((hown4).alloc _) ⟨w3.heap.size, 0, none⟩ 1 1 [.int .i64 p, .int .i64 s, .int .i64 f, .int .i64 r] rfl rfl ?d1 ?d2 (by decide) ?d3 ?d4 ?d5 (w3.heap.size + 1) (by simp) ?_))
       case d1 =>
        intro j u hj
        match j, hj with
        | 0, hj => simp at hj; subst hj; exact cells_new w3 _ _ 0
        | 1, hj => simp at hj; subst hj; exact cells_new w3 _ _ 1
        | 2, hj => simp at hj; subst hj; exact cells_new w3 _ _ 2
        | 3, hj => simp at hj; subst hj; exact cells_new w3 _ _ 3
       case d2 => intro u hu; simp at hu; rcases hu with rfl | rfl | rfl | rfl <;> rfl
       case d3 => unfold maxLen; first | omega | (simp; omega)
       case d4 => first | omega | (simp; omega)
       case d5 => first | omega | (simp; omega)
       intro g4 cap4 w4 hown5 hgrow5 hat5 hlt5
       have fin : Hid (Laid w1 w4 (some ⟨g4, 0, none⟩) cap4 (M ++ [Pg.Mp.mk mp ms mf mr] ++ [Pg.Mp.mk p s f r])) := HL3.out.push (m := Pg.Mp.mk p s f r) (by simpa using hown5) hgrow5
       have hM' : Hid (M ++ [Pg.Mp.mk mp ms mf mr] ++ [Pg.Mp.mk p s f r] = Pg.hlf L ⟨mp, ms, mf, mr⟩ (j + 1)) := hM'.out.symm
       clear hown5 hgrow5 hat5 hlt5 hown4
       go_wp2_with fail
       go_roundw
       case rel => exact ⟨j + 1, by omega, by go_num, _, cap4, M ++ [Pg.Mp.mk mp ms mf mr] ++ [Pg.Mp.mk p s f r], true, by simp, rfl, ⟨HNx.out, ha'.out, hM'.out, fin.out⟩⟩
       case measure => simp [intOf]; omega
      ·have hM' : Hid (M ++ [Pg.Mp.mk p s f r] = Pg.hlf L ⟨mp, ms, mf, mr⟩ (j + 1)) := by
        show M ++ [Pg.Mp.mk p s f r] = Pg.hlf L ⟨mp, ms, mf, mr⟩ (j + 1)
        rw [HO.out hp0 (by omega), ← HR.out.2.2.1]
       have ha' : Hid (false = ((L.take (j + 1)).any fun y => decide (mp < y.p))) := by
        show false = _
        rw [hany.out, hp0]
        simp [hxp]
       have hxd : decide (mp < p) = false := by simpa using hxp
       clear hp0
       subst hpt
       go_wp2_with fail
       go_quiet (fail)
       go_wp2_with (first
        | (at_builtin; refine wpList_append_lies _ rfl _ _ 43 rfl w1.heap.size 31 q0 _ 4 32 Tryz.underlying43 hqi hz0 hz1 hz2 rfl (by decide) _ _ _ rfl ((hown _).alloc _) ⟨w2.heap.size, 0, none⟩ 1 1 [.int .i64 p, .int .i64 s, .int .i64 f, .int .i64 r] rfl rfl ?c1 ?c2 (by decide) ?c3 ?c4 ?c5 (w2.heap.size + 1) (by simp) ?_))
       case c1 =>
        intro j u hj
        match j, hj with
        | 0, hj => simp at hj; subst hj; exact cells_drewN w2 _ _ _ 0
        | 1, hj => simp at hj; subst hj; exact cells_drewN w2 _ _ _ 1
        | 2, hj => simp at hj; subst hj; exact cells_drewN w2 _ _ _ 2
        | 3, hj => simp at hj; subst hj; exact cells_drewN w2 _ _ _ 3
       case c2 => intro u hu; simp at hu; rcases hu with rfl | rfl | rfl | rfl <;> rfl
       case c3 => unfold maxLen; first | omega | (simp; omega)
       case c4 => first | omega | (simp; omega)
       case c5 => first | omega | (simp; omega)
       intro g3 cap3 w3 hown3 hgrow hat hlt3
       have fin : Hid (Laid w1 w3 (some ⟨g3, 0, none⟩) cap3 (M ++ [Pg.Mp.mk p s f r])) := (HLq.out _).push (m := Pg.Mp.mk p s f r) hown3 hgrow
       clear hown3 hgrow hat hlt3 hown
       go_wp2_with fail
       go_roundw
       case rel => exact ⟨j + 1, by omega, by go_num, _, cap3, M ++ [Pg.Mp.mk p s f r], false, by simp, rfl, ⟨HNx.out, ha'.out, hM'.out, fin.out⟩⟩
       case measure => simp [intOf]; omega
     ·have hp1 : ((L.take j).any fun y => decide (mp < y.p)) = true := by rw [← HR.out.2.1]; exact hpt
      have hM' : Hid (M ++ [Pg.Mp.mk p s f r] = Pg.hlf L ⟨mp, ms, mf, mr⟩ (j + 1)) := by
       show M ++ [Pg.Mp.mk p s f r] = Pg.hlf L ⟨mp, ms, mf, mr⟩ (j + 1)
       rw [HP.out hp1, ← HR.out.2.2.1]
      have ha' : Hid (true = ((L.take (j + 1)).any fun y => decide (mp < y.p))) := by
       show true = _
       rw [hany.out, hp1]
       rfl
      clear hp1
      subst hpt
      go_wp2_with fail
      go_quiet (fail)
      go_wp2_with (first
       | (at_builtin; refine wpList_append_lies _ rfl _ _ 43 rfl w1.heap.size 31 q0 _ 4 32 Tryz.underlying43 hqi hz0 hz1 hz2 rfl (by decide) _ _ _ rfl ((hown _).alloc _) ⟨w2.heap.size, 0, none⟩ 1 1 [.int .i64 p, .int .i64 s, .int .i64 f, .int .i64 r] rfl rfl ?c1 ?c2 (by decide) ?c3 ?c4 ?c5 (w2.heap.size + 1) (by simp) ?_))
      case c1 =>
       intro j u hj
       match j, hj with
       | 0, hj => simp at hj; subst hj; exact cells_drewN w2 _ _ _ 0
       | 1, hj => simp at hj; subst hj; exact cells_drewN w2 _ _ _ 1
       | 2, hj => simp at hj; subst hj; exact cells_drewN w2 _ _ _ 2
       | 3, hj => simp at hj; subst hj; exact cells_drewN w2 _ _ _ 3
      case c2 => intro u hu; simp at hu; rcases hu with rfl | rfl | rfl | rfl <;> rfl
      case c3 => unfold maxLen; first | omega | (simp; omega)
      case c4 => first | omega | (simp; omega)
      case c5 => first | omega | (simp; omega)
      intro g3 cap3 w3 hown3 hgrow hat hlt3
      have fin : Hid (Laid w1 w3 (some ⟨g3, 0, none⟩) cap3 (M ++ [Pg.Mp.mk p s f r])) := (HLq.out _).push (m := Pg.Mp.mk p s f r) hown3 hgrow
      clear hown3 hgrow hat hlt3 hown
      go_wp2_with fail
      go_roundw
      case rel => exact ⟨j + 1, by omega, by go_num, _, cap3, M ++ [Pg.Mp.mk p s f r], true, by simp, rfl, ⟨HNx.out, ha'.out, hM'.out, fin.out⟩⟩
      case measure => simp [intOf]; omega
    ·rw [HCM.out, hx] at HC
     have HBd : Hid _ := HBd.out hx
     clear hx HCM
     go_wp2_with fail
     refine wp_region_quiet_below (by kernel_rfl) (by kernel_rfl) ?_
     repeat (first
      | go_big_quiet_step ((go_at_call 105; exact Calls.regrown_of (HC _))))
     refine wpQuiet_nil ?_
     intro _ hw'
     obtain ⟨⟨dq, osq⟩, rfl⟩ := hw'
     have fin : Hid _ := stay.out _ (zT (zT hB.out HR.out.2.2.2.bel) (below_regrown wr dq osq))
     go_wp2_with fail
     go_ret
     rw [HBd.out.1, HBd.out.2]
     exact ⟨rfl, fin.out⟩
   ·have i1 : ¬ (j : Int) < (L.length : Int) := by omega
    have hj' : j = L.length := by omega
    subst hj'
    have hn : ∀ x, x ∈ L → x.meets ⟨mp, ms, mf, mr⟩ = false := by
     intro x hx
     obtain ⟨t, ht, rfl⟩ := List.mem_iff_getElem.1 hx
     have := HR.out.1 t ht
     rw [Pg.mp_at ht] at this
     exact this
    have HG0 := hgood.out hn
    have hgi : Pg.Good (Pg.ins ⟨mp, ms, mf, mr⟩ L) := by
     have := HX.out.good.add ⟨mp, ms, mf, mr⟩
     rw [HG0.2] at this
     exact this
    have hall := Pg.hlf_all (L := L) (m := ⟨mp, ms, mf, mr⟩)
    have hpe := HR.out.2.1
    rw [List.take_length] at hpe
    have HG : Hid _ := HG0
    clear HG0
    have hbl : Below w.heap.size w wr := zT hB.out HR.out.2.2.2.bel
    have n3 : b < wr.heap.size := by have := HX.out.lb; have := hbl.size; omega
    have hfb := HW.out.fb
    cases hpt : pt
    ·have hMe : M ++ [Pg.Mp.mk mp ms mf mr] = Pg.ins ⟨mp, ms, mf, mr⟩ L := by
      rw [hall, ← hpe, hpt, HR.out.2.2.1]
      rfl
     have hown := HR.out.2.2.2.row
     have hws : w1.heap.size ≤ wr.heap.size := HR.out.2.2.2.bel.size
     have n4 : w.heap.size < wr.heap.size := by omega
     have m0 : wr.cell? ⟨w.heap.size, 0, none⟩ = some (.int .i64 mp) := (hr' 0).trans (cells_new _ _ _ _)
     have m1 : wr.cell? ⟨w.heap.size, 1, none⟩ = some (.int .i64 ms) := (hr' 1).trans (cells_new _ _ _ _)
     have m2 : wr.cell? ⟨w.heap.size, 2, none⟩ = some (.int .i64 mf) := (hr' 2).trans (cells_new _ _ _ _)
     have m3 : wr.cell? ⟨w.heap.size, 3, none⟩ = some (.int .i64 mr) := (hr' 3).trans (cells_new _ _ _ _)
     subst hpt
     clear hr' hall hpe hn
     go_wp2_with (first
      | (at_builtin; refine wpList_append_lies _ rfl _ _ 43 rfl w1.heap.size 31 q0 _ 4 32 Tryz.underlying43 hqi hz0 hz1 hz2 rfl (by decide) _ _ _ rfl ((hown).alloc _) ⟨wr.heap.size, 0, none⟩ 1 1 [.int .i64 mp, .int .i64 ms, .int .i64 mf, .int .i64 mr] rfl rfl ?c1 ?c2 (by decide) ?c3 ?c4 ?c5 (wr.heap.size + 1) (by simp) ?_))
     case c2 => exact ⟨rfl, rfl, rfl, rfl⟩
     case c3 => unfold maxLen; first | omega | (simp; omega)
     case c4 => first | omega | (simp; omega)
     case c5 => first | omega | (simp; omega)
     intro g3 cap3 w3 hown3 hgrow hat hlt3
     have HL3 : Hid (Laid w1 w3 (some ⟨g3, 0, none⟩) cap3 (M ++ [Pg.Mp.mk mp ms mf mr])) := HR.out.2.2.2.push (m := Pg.Mp.mk mp ms mf mr) hown3 hgrow
     have HW3 : Hid _ := (HX.out.grow hB.out).grow HL3.out.bel
     have t0 := HW3.out.c0
     have t1 := HW3.out.fb
     have fin : Hid _ := HX.out.put (vb' := .slice (some ⟨g3, 0, none⟩) (M.length + 1) cap3) (L' := Pg.ins ⟨mp, ms, mf, mr⟩ L) (zT hB.out HL3.out.bel) (by rw [← hMe]; have := ownsMaps_mono HL3.out.row (Nat.le_of_lt hsz); simpa using this) hgi (fun e => by rw [← hMe] at e; simp at e)
     clear hown3 hgrow hat hlt3 hown hgi hMe hbl
     go_wp2_with fail
     go_ret
     rw [HG.out.1, HG.out.2]
     exact ⟨rfl, _, fin.out⟩
    ·have hMe : M = Pg.ins ⟨mp, ms, mf, mr⟩ L := by
      rw [hall, ← hpe, hpt, HR.out.2.2.1]
      rfl
     have fin : Hid _ := HX.out.put (vb' := .slice ad2 M.length cap2) (L' := Pg.ins ⟨mp, ms, mf, mr⟩ L) hbl (by rw [← hMe]; exact ownsMaps_mono HR.out.2.2.2.row (Nat.le_of_lt hsz)) hgi (fun e => by rw [← hMe] at e; exact HR.out.2.2.2.nil e)
     clear hgi hall hpe hMe hbl hn
     subst hpt
     go_wp2_with fail
     go_ret
     rw [HG.out.1, HG.out.2]
     exact ⟨rfl, _, fin.out⟩
 ·have e1 : Pg.addC L m = m.code := by simp [Pg.addC, hc]
  have e2 : Pg.addL L m = L := by simp [Pg.addL, e1, hc]
  rw [e1, e2]
  have hn : (Pg.check m.p m.s m.f m.r != 0) = true := by
   have h0 : ¬ Pg.check m.p m.s m.f m.r = 0 := hc
   simpa using h0
  have hcd : Hid (Pg.check m.p m.s m.f m.r = m.code) := rfl
  clear h hc e1 e2
  obtain ⟨p, s, f, r⟩ := m
  unfold Pg.Mp.val
  simp only at HM hn hcd ⊢
  generalize Pg.check p s f r = c at *
  go_enter Tryz.func57, Tryz.ntmps57
  go_wp2_with fail
  refine (HM _).mono ?_
  rintro e w1 ⟨rfl, hb1⟩
  have hB : Hid (Below w.heap.size w w1) := zT (zA (zR _) _) hb1
  clear hb1 HM
  go_wp2_with fail
  go_ret
  exact ⟨ret_int hcd.out, stay.out _ hB.out⟩
theorem closeR {w w1 : World} {b : Nat} {vb vb1 : Value} {L1 : List Pg.Mp} (hlt : ∀ k, bkF b vb k → k < w.heap.size) (hb : But (bkF b vb) w w1) (h1 : BkAt w1 b vb1 L1) (hF : ∀ k, bkF b vb1 k → bkF b vb k ∨ w.heap.size < k) (x0 x1 x2 x3 : Value) :
 BkAt ((((w1.setCell ⟨w.heap.size, 0, none⟩ x0).setCell ⟨w.heap.size, 1, none⟩ x1).setCell ⟨w.heap.size, 2, none⟩ x2).setCell ⟨w.heap.size, 3, none⟩ x3) b vb1 L1 ∧ But (bkF b vb) w ((((w1.setCell ⟨w.heap.size, 0, none⟩ x0).setCell ⟨w.heap.size, 1, none⟩ x1).setCell ⟨w.heap.size, 2, none⟩ x2).setCell ⟨w.heap.size, 3, none⟩ x3) := by
 refine ⟨h1.keep (F := fun k => k = w.heap.size) (but_set4 (F := fun k => k = w.heap.size) (But.refl _ _) w.heap.size (.inr rfl) x0 x1 x2 x3) fun k hk e => ?_, but_set4 hb _ (.inl (Nat.le_refl _)) x0 x1 x2 x3⟩
 subst e
 rcases hF _ hk with h | h
 ·have := hlt _ h
  omega
 ·omega
set_option maxHeartbeats 4000000 in
theorem refProtect_any {b : Nat} {vb : Value} {L : List Pg.Mp} (q r : Int) (hq : Pg.fits q) (w : World) (h : BkAt w b vb L) :
 Calls Tryz.prog 59 #[.pointer (some ⟨b, 0, none⟩), .int .i64 q, .int .i64 r] w fun e w' => e = .returned (.tuple #[(Pg.protM L q r).val, .int .i64 (Pg.protC L q r)]) ∧ ∃ vb', BkAt w' b vb' (Pg.protL L q r) ∧ But (bkF b vb) w w' ∧ ∀ k, bkF b vb' k → bkF b vb k ∨ w.heap.size ≤ k := by
 have HX : Hid _ := h
 by_cases hin : Pg.below q 4096 = true ∧ Pg.below r 8 = true
 ·obtain ⟨hbq, hbr⟩ := hin
  have q0 : ¬ q < 0 := by have := Pg.zB.1 hbq; omega
  have q1 : ¬ 4096 ≤ q := by have := Pg.zB.1 hbq; omega
  have r0 : ¬ r < 0 := by have := Pg.zB.1 hbr; omega
  have r1 : ¬ 7 < r := by have := Pg.zB.1 hbr; omega
  have HD := fun o => refDrop_any q hq (w.alloc o) (h.grow (zA (zR _) o))
  cases hf : Pg.fnd L q with
  | none =>
    have e1 : Pg.dropC L q = 5 := by simp [Pg.dropC, hbq, hf]
    have e2 : Pg.dropM L q = .zz := by simp [Pg.dropM, e1]
    have e3 : Pg.dropL L q = L := by simp [Pg.dropL, e1]
    have e4 : Pg.protC L q r = 5 := by simp [Pg.protC, hbr, e1]
    have e5 : Pg.protM L q r = .zz := by simp [Pg.protM, e4]
    have e6 : Pg.protL L q r = L := by simp [Pg.protL, e4]
    rw [e4, e5, e6]
    rw [e1, e2, e3] at HD
    clear h e1 e2 e3 e4 e5 e6 hf hbq hbr
    go_enter Tryz.func59, Tryz.ntmps59
    go_wp2_with fail
    refine (HD _).mono ?_
    rintro e w1 ⟨rfl, vb1, h1, hb1, hF1⟩
    have hnb : ¬ bkF b vb w.heap.size := fun hk => by have := HX.out.lt hk; omega
    have hr : ∀ o, w1.cell? ⟨w.heap.size, o, none⟩ = _ := fun o => hb1.cell (a := ⟨w.heap.size, o, none⟩) (by simp) hnb
    have hf : ∀ o, w1.frozen? ⟨w.heap.size, o, none⟩ = _ := fun o => hb1.frozen (a := ⟨w.heap.size, o, none⟩) (by simp) hnb
    have hsz : w.heap.size < w1.heap.size := by have := hb1.size; simp at this; omega
    have hB1 : Hid _ := hb1
    have H1 : Hid _ := h1
    have hF1 : Hid _ := hF1
    clear hb1 h1 HD
    unfold Pg.Mp.val
    simp only
    go_wp2_with fail
    refine bodyPost_ret (v := .tuple #[.agg #[.int .i64 0, .int .i64 0, .int .i64 0, .int .i64 0], .int .i64 5]) ?_ rfl ⟨rfl, ?_⟩
    ·simp [results, Tryz.results59, go_sem, hr, hsz]
    ·obtain ⟨c1, c2⟩ := closeR (w := w) (fun k hk => HX.out.lt hk) (((But.refl _ w).alloc _).trans hB1.out (fun i hi hg => hg)) H1.out (fun k hk => (hF1.out k hk).imp id (fun h => by simp at h; omega)) (.int .i64 0) (.int .i64 0) (.int .i64 0) (.int .i64 0)
     exact ⟨vb1, c1.grow (zA (zR _) _), c2.alloc _, fun k hk => (hF1.out k hk).imp id (fun h => by simp at h; omega)⟩
  | some k =>
    have hk := Pg.fnd_some hf
    have e1 : Pg.dropC L q = 0 := by simp [Pg.dropC, hbq, hf]
    have e2 : Pg.dropM L q = L.getD k .zz := by simp only [Pg.dropM, e1, Pg.at', hf, if_true]
    have e3 : Pg.dropL L q = L.eraseIdx k := by simp only [Pg.dropL, e1, hf, if_true]
    have e4 : Pg.protC L q r = 0 := by simp [Pg.protC, hbr, e1]
    have e5 : Pg.protM L q r = (L.getD k .zz).rts r := by simp only [Pg.protM, e4, Pg.at', hf, if_true]
    have e6 : Pg.protL L q r = L.set k ((L.getD k .zz).rts r) := by simp only [Pg.protL, e4, hf, if_true]
    obtain ⟨p1, p2⟩ := Pg.prot_add h.good hk.1 hbr
    have hft : Pg.fits (L.getD k .zz).p := (Pg.ok_fits (h.good.ok _ (by rw [Pg.mp_at hk.1]; exact List.getElem_mem _))).2.2.1
    rw [e4, e5, e6]
    rw [e1, e2, e3] at HD
    clear h e1 e2 e3 e4 e5 e6 hf hbq hbr hk
    generalize L.set k ((L.getD k .zz).rts r) = L2 at *
    generalize L.eraseIdx k = L1 at *
    generalize L.getD k .zz = y at *
    obtain ⟨mp, ms, mf, mr⟩ := y
    simp only [Pg.Mp.rts] at p1 p2 hft ⊢
    have HA := fun w vb h => refAdd_any (b := b) (vb := vb) (L := L1) (Pg.Mp.mk mp ms mf r) hft w h
    rw [p1, p2] at HA
    unfold Pg.Mp.val at HA HD ⊢
    simp only at HA HD ⊢
    clear p1 p2
    go_enter Tryz.func59, Tryz.ntmps59
    go_wp2_with fail
    refine (HD _).mono ?_
    rintro e w1 ⟨rfl, vb1, h1, hb1, hF1⟩
    have hnb : ¬ bkF b vb w.heap.size := fun hk => by have := HX.out.lt hk; omega
    have hr : Hid (∀ o, w1.cell? ⟨w.heap.size, o, none⟩ = _) := fun o => hb1.cell (a := ⟨w.heap.size, o, none⟩) (by simp) hnb
    have hf : Hid (∀ o, w1.frozen? ⟨w.heap.size, o, none⟩ = _) := fun o => hb1.frozen (a := ⟨w.heap.size, o, none⟩) (by simp) hnb
    have hsz : w.heap.size < w1.heap.size := by have := hb1.size; simp at this; omega
    have hB1 : Hid (But (bkF b vb) w w1) := ((But.refl _ w).alloc _).trans hb1 (fun i hi hg => hg)
    have H1 : Hid _ := h1
    have hF1 : Hid (∀ k, bkF b vb1 k → bkF b vb k ∨ w.heap.size < k) := fun k hk => (hF1 k hk).imp id (fun h => by simp at h; omega)
    clear hb1 h1 HD
    go_wp2_with fail
    refine (HA _ _ (H1.out.grow (zA (zR _) _))).mono ?_
    rintro e w2 ⟨rfl, vb2, h2, hb2, hF2⟩
    have hnb1 : ¬ bkF b vb1 w.heap.size := fun hk => by
     rcases hF1.out _ hk with h | h
     ·exact hnb h
     ·omega
    have hnb2 : ¬ bkF b vb1 w1.heap.size := fun hk => by have := H1.out.lt hk; omega
    have hr2 : ∀ o, w2.cell? ⟨w.heap.size, o, none⟩ = _ := fun o => (hb2.cell (a := ⟨w.heap.size, o, none⟩) (by simp; omega) hnb1).trans ((Below.cell (p := ⟨w.heap.size, o, none⟩) (zA (zR w1) _) hsz).trans (hr.out o))
    have hf2 : ∀ o, w2.frozen? ⟨w.heap.size, o, none⟩ = _ := fun o => (hb2.frozen (a := ⟨w.heap.size, o, none⟩) (by simp; omega) hnb1).trans ((Below.frozen (p := ⟨w.heap.size, o, none⟩) (zA (zR w1) _) hsz).trans (hf.out o))
    have hm2 : ∀ o, w2.cell? ⟨w1.heap.size, o, none⟩ = _ := fun o => hb2.cell (a := ⟨w1.heap.size, o, none⟩) (by simp) hnb2
    have fin : Hid (∀ x0 x1 x2 x3, ∃ vb', BkAt ((((w2.setCell ⟨w.heap.size, 0, none⟩ x0).setCell ⟨w.heap.size, 1, none⟩ x1).setCell ⟨w.heap.size, 2, none⟩ x2).setCell ⟨w.heap.size, 3, none⟩ x3) b vb' L2 ∧ But (bkF b vb) w ((((w2.setCell ⟨w.heap.size, 0, none⟩ x0).setCell ⟨w.heap.size, 1, none⟩ x1).setCell ⟨w.heap.size, 2, none⟩ x2).setCell ⟨w.heap.size, 3, none⟩ x3) ∧ ∀ k, bkF b vb' k → bkF b vb k ∨ w.heap.size ≤ k) := by
     intro x0 x1 x2 x3
     have hB2 : But (bkF b vb) w w2 := (hB1.out.alloc _).trans hb2 (fun i hi hg => (hF1.out i hg).elim id (fun h => by omega))
     have hF : ∀ k, bkF b vb2 k → bkF b vb k ∨ w.heap.size < k := fun k hk => (hF2 k hk).elim (hF1.out k) (fun h => .inr (by simp at h; omega))
     obtain ⟨c1, c2⟩ := closeR (w := w) (fun k hk => HX.out.lt hk) hB2 h2 hF x0 x1 x2 x3
     exact ⟨vb2, c1, c2, fun k hk => (hF k hk).imp id Nat.le_of_lt⟩
    clear hb2 h2 hF2 HA hnb hnb1 hnb2
    go_wp2_with fail
    refine bodyPost_ret (v := .tuple #[.agg #[.int .i64 mp, .int .i64 ms, .int .i64 mf, .int .i64 r], .int .i64 0]) ?_ rfl ⟨rfl, ?_⟩
    ·simp [results, Tryz.results59, go_sem, hr2]
    ·exact fin.out _ _ _ _
 ·have e4 : Pg.protC L q r = 1 := by
   unfold Pg.protC Pg.dropC
   cases h1 : Pg.below r 8
   ·rfl
   ·cases h2 : Pg.below q 4096
    ·rfl
    ·exact absurd ⟨h2, h1⟩ hin
  have e5 : Pg.protM L q r = .zz := by simp [Pg.protM, e4]
  have e6 : Pg.protL L q r = L := by simp [Pg.protL, e4]
  rw [e4, e5, e6]
  have fin : Hid (∀ o : Obj, ∃ vb', BkAt (w.alloc o) b vb' L ∧ But (bkF b vb) w (w.alloc o) ∧ ∀ k, bkF b vb' k → bkF b vb k ∨ w.heap.size ≤ k) := fun o =>
   ⟨vb, h.grow (zA (zR _) _), But.of_below (zA (zR _) _), fun k hk => .inl hk⟩
  have hin : ¬ ((0 ≤ q ∧ q < 4096) ∧ (0 ≤ r ∧ r < 8)) := fun h => hin ⟨Pg.zB.2 h.1, Pg.zB.2 h.2⟩
  clear h HX e4 e5 e6
  by_cases q0 : q < 0
  ·clear hin
   go_enter Tryz.func59, Tryz.ntmps59
   go_wp2_with fail
   refine bodyPost_ret (v := .tuple #[.agg #[.int .i64 0, .int .i64 0, .int .i64 0, .int .i64 0], .int .i64 1]) ?_ rfl ⟨rfl, fin.out _⟩
   simp [results, Tryz.results59, go_sem]
  ·by_cases q1 : 4096 ≤ q
   ·clear hin
    go_enter Tryz.func59, Tryz.ntmps59
    go_wp2_with fail
    refine bodyPost_ret (v := .tuple #[.agg #[.int .i64 0, .int .i64 0, .int .i64 0, .int .i64 0], .int .i64 1]) ?_ rfl ⟨rfl, fin.out _⟩
    simp [results, Tryz.results59, go_sem]
   ·by_cases r0 : r < 0
    ·clear hin
     go_enter Tryz.func59, Tryz.ntmps59
     go_wp2_with fail
     refine bodyPost_ret (v := .tuple #[.agg #[.int .i64 0, .int .i64 0, .int .i64 0, .int .i64 0], .int .i64 1]) ?_ rfl ⟨rfl, fin.out _⟩
     simp [results, Tryz.results59, go_sem]
    ·have r1 : 7 < r := by omega
     clear hin
     go_enter Tryz.func59, Tryz.ntmps59
     go_wp2_with fail
     refine bodyPost_ret (v := .tuple #[.agg #[.int .i64 0, .int .i64 0, .int .i64 0, .int .i64 0], .int .i64 1]) ?_ rfl ⟨rfl, fin.out _⟩
     simp [results, Tryz.results59, go_sem]
set_option maxHeartbeats 4000000 in
theorem refAnswer_any {b : Nat} {vb : Value} {L : List Pg.Mp} (q k : Int) (u : Bool) (hq : Pg.fits q) (w : World) (h : BkAt w b vb L) :
 Calls Tryz.prog 32 #[.pointer (some ⟨b, 0, none⟩), .agg #[.int .i64 q, .int .i64 k, .bool u]] w fun e w' =>
  e = .returned (.agg #[.int .i64 (Pg.ansE L q k u), .int .i64 (Pg.ansF L q k u), .int .i64 (Pg.ansR L q k u)]) ∧ Below w.heap.size w w' := by
 have HX : Hid _ := h
 have HF := fun o o' => refFind_any q hq ((w.alloc o).alloc o') ((h.grow (zA (zR _) o)).grow (zA (zR _) o'))
 have hlen := h.good.len
 cases hf : Pg.fnd L q with
 | none =>
   have e1 : Pg.fndN L q = -1 := by simp [Pg.fndN, hf]
   have e2 : Pg.ansE L q k u = 1 := by simp [Pg.ansE, hf]
   have e3 : Pg.ansF L q k u = 0 := by simp [Pg.ansF, hf]
   have e4 : Pg.ansR L q k u = 0 := by simp [Pg.ansR, hf]
   rw [e2, e3, e4]
   rw [e1] at HF
   clear h e1 e2 e3 e4 hf
   go_enter Tryz.func32, Tryz.ntmps32
   go_wp2_with fail
   refine (HF _ _).mono ?_
   rintro e w1 ⟨rfl, hb1⟩
   have hr : ∀ o, w1.cell? ⟨w.heap.size + 1, o, none⟩ = _ := fun o => hb1.cell (p := ⟨w.heap.size + 1, o, none⟩) (by simp)
   have hf : ∀ o, w1.frozen? ⟨w.heap.size + 1, o, none⟩ = _ := fun o => hb1.frozen (p := ⟨w.heap.size + 1, o, none⟩) (by simp)
   have hB : Hid (Below w.heap.size w w1) := zT (zA (zA (zR _) _) _) hb1
   clear hb1 HF
   go_wp2_with fail
   refine bodyPost_ret (v := .agg #[.int .i64 1, .int .i64 0, .int .i64 0]) ?_ rfl ⟨rfl, ?_⟩
   ·simp [results, Tryz.results32, go_sem, hr]
   ·exact ((hB.out.setCell (by simp) _).setCell (by simp) _).setCell (by simp) _
 | some j =>
   have hj := Pg.fnd_some hf
   have e1 : Pg.fndN L q = (j : Int) := by simp [Pg.fndN, hf]
   have e2 : Pg.ansE L q k u = Pg.aEnd (L.getD j .zz).r k u := by simp only [Pg.ansE, hf]
   have e3 : Pg.ansF L q k u = Pg.aFrame (L.getD j .zz).p (L.getD j .zz).f (L.getD j .zz).r q k u := by simp only [Pg.ansF, hf]
   have e4 : Pg.ansR L q k u = Pg.aRights (L.getD j .zz).r k u := by simp only [Pg.ansR, hf]
   rw [e2, e3, e4]
   rw [e1] at HF
   have HA := answerOf_any (L.getD j .zz).p (L.getD j .zz).s (L.getD j .zz).f (L.getD j .zz).r q k u
   have hjl := hj.1
   obtain ⟨ad, cap, rfl⟩ := zF h.row
   obtain ⟨g, rfl, hg, hm⟩ := owns_mapsAt h.row j hjl
   have hc0 := h.c0
   have hlb := h.lb
   have i0 : (0 : Int) ≤ (j : Int) := by omega
   have i1 : (j : Int) < (L.length : Int) := by omega
   have n0 : ¬ (j : Int) < 0 := by omega
   obtain ⟨k0, k1, k2, k3⟩ := hm
   clear h e1 e2 e3 e4 hf hj
   generalize L.getD j .zz = y at *
   obtain ⟨mp, ms, mf, mr⟩ := y
   simp only at k0 k1 k2 k3 HA ⊢
   go_enter Tryz.func32, Tryz.ntmps32
   go_wp2_with fail
   refine (HF _ _).mono ?_
   rintro e w1 ⟨rfl, hb1⟩
   have hB : Below w.heap.size w w1 := zT (zA (zA (zR _) _) _) hb1
   have hr : Hid (∀ o, w1.cell? ⟨w.heap.size + 1, o, none⟩ = _) := fun o => hb1.cell (p := ⟨w.heap.size + 1, o, none⟩) (by simp)
   have hf : Hid (∀ o, w1.frozen? ⟨w.heap.size + 1, o, none⟩ = _) := fun o => hb1.frozen (p := ⟨w.heap.size + 1, o, none⟩) (by simp)
   have a0 : w1.cell? ⟨w.heap.size, 0, none⟩ = some (.int .i64 q) := (hb1.cell (p := ⟨w.heap.size, 0, none⟩) (by simp; omega)).trans (by simp [go_sem])
   have a1 : w1.cell? ⟨w.heap.size, 1, none⟩ = some (.int .i64 k) := (hb1.cell (p := ⟨w.heap.size, 1, none⟩) (by simp; omega)).trans (by simp [go_sem])
   have a2 : w1.cell? ⟨w.heap.size, 2, none⟩ = some (.bool u) := (hb1.cell (p := ⟨w.heap.size, 2, none⟩) (by simp; omega)).trans (by simp [go_sem])
   have hsz : w.heap.size + 1 < w1.heap.size := by have := hb1.size; simp at this; omega
   have b0 := (hB.cell (p := ⟨b, 0, none⟩) hlb).trans hc0
   have l0 := (hB.cell (p := ⟨g, j * 4, none⟩) hg).trans k0
   have l1 := (hB.cell (p := ⟨g, j * 4 + 1, none⟩) hg).trans k1
   have l2 := (hB.cell (p := ⟨g, j * 4 + 2, none⟩) hg).trans k2
   have l3 := (hB.cell (p := ⟨g, j * 4 + 3, none⟩) hg).trans k3
   have hbw : b < w1.heap.size := Nat.lt_of_lt_of_le hlb hB.size
   have hgw : g < w1.heap.size := Nat.lt_of_lt_of_le hg hB.size
   have hww : w.heap.size < w1.heap.size := by omega
   have y1 : w.heap.size + 1 ≠ b := by omega
   have y2 : w.heap.size + 1 ≠ g := by omega
   have y3 : b ≠ w.heap.size + 1 := by omega
   have y4 : g ≠ w.heap.size + 1 := by omega
   have HB : Hid _ := hB
   clear hb1 HF hB k0 k1 k2 k3 hc0
   go_wp2_with fail
   go_region_held3 (fun w' => w'.cell? ⟨b, 0, none⟩ = some (.slice (some ⟨g, 0, none⟩) L.length cap) ∧ w'.cell? ⟨g, j * 4, none⟩ = some (.int .i64 mp) ∧ w'.cell? ⟨g, j * 4 + 1, none⟩ = some (.int .i64 ms) ∧ w'.cell? ⟨g, j * 4 + 2, none⟩ = some (.int .i64 mf) ∧ w'.cell? ⟨g, j * 4 + 3, none⟩ = some (.int .i64 mr) ∧ w'.cell? ⟨w.heap.size, 0, none⟩ = some (.int .i64 q) ∧ w'.cell? ⟨w.heap.size, 1, none⟩ = some (.int .i64 k) ∧ w'.cell? ⟨w.heap.size, 2, none⟩ = some (.bool u)) (go_keep) (first
    | (go_at_call 64; refine (HA _).mono ?_; rintro e w2 ⟨rfl, hb2⟩; have s0 : ∀ o, w2.cell? ⟨w.heap.size + 1, o, none⟩ = _ := fun o => (hb2.cell (p := ⟨w.heap.size + 1, o, none⟩) (by simpa using hsz)).trans (hr.out o); have s1 : ∀ o, w2.frozen? ⟨w.heap.size + 1, o, none⟩ = _ := fun o => (hb2.frozen (p := ⟨w.heap.size + 1, o, none⟩) (by simpa using hsz)).trans (hf.out o); have z0 := (hb2.cell (p := ⟨b, 0, none⟩) (by simpa using hbw)).trans (by simpa using b0); have z1 := (hb2.cell (p := ⟨g, j * 4, none⟩) (by simpa using hgw)).trans (by simpa using l0); have z2 := (hb2.cell (p := ⟨g, j * 4 + 1, none⟩) (by simpa using hgw)).trans (by simpa using l1); have z3 := (hb2.cell (p := ⟨g, j * 4 + 2, none⟩) (by simpa using hgw)).trans (by simpa using l2); have z4 := (hb2.cell (p := ⟨g, j * 4 + 3, none⟩) (by simpa using hgw)).trans (by simpa using l3); have z5 := (hb2.cell (p := ⟨w.heap.size, 0, none⟩) (by simpa using hww)).trans (by simpa using a0); have z6 := (hb2.cell (p := ⟨w.heap.size, 1, none⟩) (by simpa using hww)).trans (by simpa using a1); have z7 := (hb2.cell (p := ⟨w.heap.size, 2, none⟩) (by simpa using hww)).trans (by simpa using a2); have HB2 : Hid (Below w.heap.size w w2) := zT HB.out.drew hb2; clear hb2))
   all_goals
    go_wp2_with fail
    refine bodyPost_ret (v := .agg #[.int .i64 (Pg.aEnd mr k u), .int .i64 (Pg.aFrame mp mf mr q k u), .int .i64 (Pg.aRights mr k u)]) ?_ rfl ⟨rfl, ?_⟩
    ·simp [results, Tryz.results32, go_sem, s0]
    ·exact ((HB2.out.setCell (by simp) _).setCell (by simp) _).setCell (by simp) _
end Go.Proofs.YtjdiaebgidgmaafGreat
