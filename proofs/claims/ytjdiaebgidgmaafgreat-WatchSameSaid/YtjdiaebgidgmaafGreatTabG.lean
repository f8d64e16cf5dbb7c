
/-
  The developers' changes of tables: Find and Protect.
-/
import Derived.Test.YtjdiaebgidgmaafGreatTabB
import Derived.Deep.RegionHeld3
namespace Go.Proofs.YtjdiaebgidgmaafGreat
open Go.RowKit Go.Sort
set_option linter.unusedVariables false
set_option linter.unusedSimpArgs false
set_option maxRecDepth 100000

theorem map_rts {e : Pg.En} {lv : Nat} {p r : Int} (hf : e.fault lv = 0) (ht : e.t = true) (hl : e.l = true) (hp : Pg.below p 4096 = true) (h0 : 0 ≤ r) (h1 : r ≤ 7) : Pg.En.map ⟨e.t, e.l, r, e.u, e.d, e.f⟩ lv p = (e.map lv p).rts r := by
  obtain ⟨et, el, er, eu, ed, ef⟩ := e
  simp only at ht hl
  subst ht hl
  unfold Pg.En.fault at hf
  have hf' : Pg.eFault true true r eu ed ef lv = 0 := by
    unfold Pg.eFault at hf ⊢
    simp only at hf
    rw [if_neg (by omega)]
    rw [if_neg (by simp), if_neg (by rintro (h | h | h | h) <;> simp_all <;> omega)]
    split at hf
    · omega
    · rw [if_neg (by simp)] at hf
      split at hf
      · omega
      · simpa using hf
  have o1 : Pg.lOk true true er eu ed ef lv p = true := by
    simp only [Pg.lOk, hf, hp]; simp
  have o2 : Pg.lOk true true r eu ed ef lv p = true := by
    simp only [Pg.lOk, hf', hp]; simp
  simp [Pg.En.map, Pg.Mp.rts, Pg.lPage, Pg.lSize, Pg.lFrame, Pg.lRights, o1, o2]

end Go.Proofs.YtjdiaebgidgmaafGreat
