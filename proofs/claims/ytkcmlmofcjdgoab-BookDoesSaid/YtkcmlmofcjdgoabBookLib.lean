
/-
  What the library's functions on lists of mappings come to: a copy, one more at a place, one less, two numbers held against each other.
-/
import Derived.Test.YtkcmlmofcjdgoabChecked
import Derived.Test.YtkcmlmofcjdgoabMapInfo
import Derived.Test.YtkcmlmofcjdgoabRowLaws
import Derived.Test.YtkcmlmofcjdgoabPlainBS
import Derived.Lib.Overlaps
import Derived.Lib.SliceRun
import Derived.Shelf.RegionOpenPlain
namespace Go.Proofs.Ytkcmlmofcjdgoab
open Go.RowKit Go.Sort
set_option linter.unusedVariables false
set_option maxRecDepth 100000

theorem clone_any {vb : Value} {L : List Pg.Mp} (w : World) (hr : w.ownsRow 0 62 4 vb L.length (mpCells L)) (hlen : L.length ≤ 4096) :
    Calls Try.prog 52 #[vb] w fun e w' => ∃ v', e = .returned v' ∧ w'.ownsRow w.heap.size 62 4 v' L.length (mpCells L) ∧ Below w.heap.size w w' := by
  have q58 : ∀ (w : World) (a : Option Addr) (n c n' c' : Nat), (binOp .eql 58 (.slice a n c) (.slice none n' c')).run Try.prog w = .ok (.bool a.isNone) w := fun w a n c n' c' => Lib.run_eql_slice_nil w _ _ a n c n' c' Try.underlying58
  rcases hr.2 with ⟨rfl, h0⟩ | ⟨g, cap, cur, rfl, _, hg, hrest⟩
  · have hL : L = [] := List.length_eq_zero_iff.1 h0
    subst hL
    clear hr
    go_enter Try.func52, Try.ntmps52
    go_wp2_with fail
    go_ret
    exact ⟨_, rfl, World.ownsRow_nil _ _ _ _, brefl _⟩
  · obtain ⟨q0, hqi, hz0, hz1, hz2⟩ := info_parts infoMap
    have hcells : Hid _ := hr.cells (g := g) rfl
    have hgl : g < w.heap.size := (Array.getElem?_eq_some_iff.1 hg).1
    clear hr hg hrest
    go_enter Try.func52, Try.ntmps52
    go_wp2_with (at_builtin; refine wpList_append_own _ rfl _ _ 58 rfl w.heap.size 62 q0 _ 4 32 Try.underlying58 hqi hz0 hz1 hz2 rfl (by decide) _ _ _ rfl (World.ownsRow_made w #[] 0 (Nat.le_refl _) (Nat.zero_le _) (by simp)) ⟨g, 0, none⟩ L.length cap (mpCells L) rfl (mpCells_len L) ?c1 (mpCells_one' L) ?c3 ?c4 ?c5 ?_)
    case c1 =>
      intro j u hj
      have := hcells.out j u hj
      exact (Below.cell (p := (⟨g, 0, none⟩ : Addr).add j) (balloc (brefl w) _) (World.block_lt_of_cell? _ _ this)).trans this
    case c3 => unfold maxLen; omega
    case c4 => omega
    case c5 => simp
    intro v' w1 hown hgrow hnil
    have hown' : Hid (w1.ownsRow w.heap.size 62 4 v' L.length (mpCells L)) := by simpa [Hid] using hown
    have hb : Hid (Below w.heap.size w w1) := ((But.refl (fun _ => False) w).alloc _).grown hgrow (fun k hk => .inl (by simp [Value.ownBlock] at hk; omega)) |>.below (Nat.le_refl _) (fun _ h => h.elim)
    clear hown hgrow hnil
    go_wp2_with fail
    go_ret
    exact ⟨v', rfl, hown'.out, hb.out⟩

theorem isNaN_any (x : Int) (w : World) : Calls Try.prog 86 #[.int .i64 x] w fun e w' => e = .returned (.bool false) ∧ w' = w := by
  go_enter Try.func86, Try.ntmps86
  go_wp2
  go_ret
  exact ⟨ret_bool (by simp), rfl⟩
theorem compare_any (x y : Int) (w : World) : Calls Try.prog 77 #[.int .i64 x, .int .i64 y] w fun e w' => e = .returned (.int .i64 (Pg.cmpI x y)) ∧ w' = w := by
  by_cases h1 : x < y
  · have HC : Hid (Pg.cmpI x y = -1) := by simp [Hid, Pg.cmpI, h1]
    go_enter Try.func77, Try.ntmps77
    go_wp2_with (go_at_call 86; refine (isNaN_any _ _).mono ?_; rintro e w' ⟨rfl, rfl⟩)
    go_ret
    exact ⟨ret_int HC.out.symm, rfl⟩
  · by_cases h2 : y < x
    · have HC : Hid (Pg.cmpI x y = 1) := by simp [Hid, Pg.cmpI, h1, h2]
      go_enter Try.func77, Try.ntmps77
      go_wp2_with (go_at_call 86; refine (isNaN_any _ _).mono ?_; rintro e w' ⟨rfl, rfl⟩)
      go_ret
      exact ⟨ret_int HC.out.symm, rfl⟩
    · have HC : Hid (Pg.cmpI x y = 0) := by simp [Hid, Pg.cmpI, h1, h2]
      go_enter Try.func77, Try.ntmps77
      go_wp2_with (go_at_call 86; refine (isNaN_any _ _).mono ?_; rintro e w' ⟨rfl, rfl⟩)
      go_ret
      exact ⟨ret_int HC.out.symm, rfl⟩
end Go.Proofs.Ytkcmlmofcjdgoab
