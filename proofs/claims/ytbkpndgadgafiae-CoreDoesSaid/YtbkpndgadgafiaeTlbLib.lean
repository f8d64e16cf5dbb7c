
/-
  What the library's functions on lists of lines come to: a copy, the first one of which something holds, all but those.
-/
import Derived.Test.YtbkpndgadgafiaeChecked
import Derived.Test.YtbkpndgadgafiaeLineRow
import Derived.Lib.Overlaps
import Derived.Lib.SliceRun
import Derived.Shelf.RegionOpenPlain
import Derived.Deep.LoopGhost
namespace Go.Proofs.Ytbkpndgadgafiae
open Go.RowKit Go.Sort
set_option linter.unusedVariables false
set_option maxRecDepth 100000

theorem infoLine : (Try.prog.info? 67).map (fun i => (i.zero, i.size, i.bytes)) = some (some (.agg #[.int .i64 0, .int .i64 0, .int .i64 0, .int .i64 0, .bool false]), 5, 40) := by kernel_rfl

theorem lnClone_any {vb : Value} {L : List Pg.Ln} (w : World) (hr : w.ownsRow 0 67 5 vb L.length (lnCells L)) (hlen : L.length ≤ 6) :
    Calls Try.prog 57 #[vb] w fun e w' => ∃ v', e = .returned v' ∧ w'.ownsRow w.heap.size 67 5 v' L.length (lnCells L) ∧ Below w.heap.size w w' := by
  have q58 : ∀ (w : World) (a : Option Addr) (n c n' c' : Nat), (binOp .eql 73 (.slice a n c) (.slice none n' c')).run Try.prog w = .ok (.bool a.isNone) w := fun w a n c n' c' => Lib.run_eql_slice_nil w _ _ a n c n' c' Try.underlying73
  rcases hr.2 with ⟨rfl, h0⟩ | ⟨g, cap, cur, rfl, _, hg, hrest⟩
  · have hL : L = [] := List.length_eq_zero_iff.1 h0
    subst hL
    clear hr
    go_enter Try.func57, Try.ntmps57
    go_wp2_with fail
    go_ret
    exact ⟨_, rfl, World.ownsRow_nil _ _ _ _, brefl _⟩
  · obtain ⟨q0, hqi, hz0, hz1, hz2⟩ := info_parts infoLine
    have hcells : Hid _ := hr.cells (g := g) rfl
    have hgl : g < w.heap.size := (Array.getElem?_eq_some_iff.1 hg).1
    clear hr hg hrest
    go_enter Try.func57, Try.ntmps57
    go_wp2_with (at_builtin; refine wpList_append_own _ rfl _ _ 73 rfl w.heap.size 67 q0 _ 5 40 Try.underlying73 hqi hz0 hz1 hz2 rfl (by decide) _ _ _ rfl (World.ownsRow_made w #[] 0 (Nat.le_refl _) (Nat.zero_le _) (by simp)) ⟨g, 0, none⟩ L.length cap (lnCells L) rfl (lnCells_len L) ?c1 (lnCells_one' L) ?c3 ?c4 ?c5 ?_)
    case c1 =>
      intro j u hj
      have := hcells.out j u hj
      exact (Below.cell (p := (⟨g, 0, none⟩ : Addr).add j) (balloc (brefl w) _) (World.block_lt_of_cell? _ _ this)).trans this
    case c3 => unfold maxLen; omega
    case c4 => omega
    case c5 => simp
    intro v' w1 hown hgrow hnil
    have hown' : Hid (w1.ownsRow w.heap.size 67 5 v' L.length (lnCells L)) := by simpa [Hid] using hown
    have hb : Hid (Below w.heap.size w w1) := ((But.refl (fun _ => False) w).alloc _).grown hgrow (fun k hk => .inl (by simp [Value.ownBlock] at hk; omega)) |>.below (Nat.le_refl _) (fun _ h => h.elim)
    clear hown hgrow hnil
    go_wp2_with fail
    go_ret
    exact ⟨v', rfl, hown'.out, hb.out⟩

set_option maxHeartbeats 2000000 in
/-- The first one of which something holds. -/
theorem idxFunc_any {ad : Option Addr} {cap : Nat} {L : List Pg.Ln} (P : Pg.Ln → Bool) (f : FuncId) (cb : Array Value) (w : World) (hr : LinesAt w ad L) (hlen : L.length ≤ 6) (ef : ∀ args w, (callFunc f args).run Try.prog w = .ok (.enter f args) w)
    (hf : ∀ (j : Nat) (w' : World), j < L.length → Below w.heap.size w w' → Calls Try.prog f (#[(L.getD j .zz).val] ++ cb) w' fun e w'' => e = .returned (.bool (P (L.getD j .zz))) ∧ Below w'.heap.size w' w'') :
    Calls Try.prog 53 #[.slice ad L.length cap, .func (.func f) #[] cb] w fun e w' => e = .returned (.int .i64 (Pg.idxN L P)) ∧ Below w.heap.size w w' := by
  have HR : Hid _ := hr
  have HF : Hid _ := hf
  clear hr hf
  go_enter Try.func53, Try.ntmps53
  go_wp2_with fail
  go_loopg [5, 8] L.length (fun gg _ s8 wr => ∃ k : Nat, k ≤ L.length ∧ L.length - k ≤ gg ∧ s8 = .int .i64 k ∧ Hid (Below w.heap.size w wr ∧ ∀ j, j < k → P (L.getD j .zz) = false))
  case atStart => exact ⟨0, Nat.zero_le _, by omega, rfl, brefl _, fun j hj => absurd hj (Nat.not_lt_zero _)⟩
  case round =>
    obtain ⟨k, hk, hg, rfl, HB⟩ := hrel
    by_cases hlt : k < L.length
    · obtain ⟨g, o, rfl, hgl, hm⟩ := LinesAt.below HR.out HB.out.1 k hlt
      obtain ⟨m0, m1, m2, m3, m4⟩ := hm
      have i0 : (0 : Int) ≤ (k : Int) := by omega
      have i1 : (k : Int) < (L.length : Int) := by omega
      have hc := HF.out k wr hlt HB.out.1
      cases hp : P (L.getD k .zz)
      · have fin : Hid (∀ j, j < k + 1 → P (L.getD j .zz) = false) := fun j hj => by
          by_cases e : j = k
          · rw [e]; exact hp
          · exact HB.out.2 j (by omega)
        rw [hp] at hc
        clear hp HF HR
        generalize L.getD k .zz = x at *
        obtain ⟨⟨p, s, fr, r⟩, d⟩ := x
        simp only [Pg.Ln.val] at hc
        simp only at m0 m1 m2 m3 m4
        go_wp2_with (go_at_fn f; refine hc.mono ?_; rintro e w' ⟨rfl, hb⟩)
        go_roundg (L.length - (k + 1))
        case measure => omega
        case rel => exact ⟨k + 1, by omega, by omega, by go_num, bthen HB.out.1 hb, fin.out⟩
      · have fin : Hid (Pg.idxN L P = (k : Int)) := by
          show Pg.idxN L P = (k : Int)
          unfold Pg.idxN
          rw [Pg.idx_some hlt hp HB.out.2]
        rw [hp] at hc
        clear hp HF HR
        generalize L.getD k .zz = x at *
        obtain ⟨⟨p, s, fr, r⟩, d⟩ := x
        simp only [Pg.Ln.val] at hc
        simp only at m0 m1 m2 m3 m4
        go_wp2_with (go_at_fn f; refine hc.mono ?_; rintro e w' ⟨rfl, hb⟩)
        go_ret
        exact ⟨ret_int fin.out.symm, bthen HB.out.1 hb⟩
    · have i1 : ¬ (k : Int) < (L.length : Int) := by omega
      have fin : Hid (Pg.idxN L P = -1) := by
        show Pg.idxN L P = -1
        unfold Pg.idxN
        rw [Pg.idx_none fun j hj => HB.out.2 j (by omega)]
      go_wp2_with fail
      go_ret
      exact ⟨ret_int fin.out.symm, HB.out.1⟩
end Go.Proofs.Ytbkpndgadgafiae
