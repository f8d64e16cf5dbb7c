
/-
  A walk of the developers' over their frames, the document's frames beside them.
-/
import Derived.Test.YtkcmlmofcjdgoadKG
import Derived.Test.YtkcmlmofcjdgoadWords
import Derived.Test.YtkcmlmofcjdgoadTabRef
import Derived.Test.YtkcmlmofcjdgoadPlainKC
namespace Go.Proofs.Ytkcmlmofcjdgoad
open Go.RowKit Go.Sort
set_option linter.unusedVariables false
set_option maxRecDepth 100000

structure Kq (w0 wc : World) (bf bm g0 g1 : Nat) (vb : Value) (F : Nat → Prop) (bk : Nat) (Sf Sm : Pg.Fs) (K : Pg.Wk) : Prop where
  side : Side w0 bf bm g0 g1 vb F Sf Sm wc
  wk : WkAt wc bk 0 0 K
  nk : ¬ F bk ∧ ¬ memF bm g0 g1 vb bk
  hi : w0.heap.size ≤ bk
namespace Kq
variable {w0 wc wd : World} {bf bm g0 g1 : Nat} {vb : Value} {F F' : Nat → Prop} {bk : Nat} {Sf Sm S' : Pg.Fs} {K K' : Pg.Wk}
theorem grow (h : Kq w0 wc bf bm g0 g1 vb F bk Sf Sm K) (hb : Below wc.heap.size wc wd) : Kq w0 wd bf bm g0 g1 vb F bk Sf Sm K := ⟨h.side.grow hb, h.wk.grow hb, h.nk, h.hi⟩
theorem left (h : Kq w0 wc bf bm g0 g1 vb F bk Sf Sm K) (hk : WkAt wd bk 0 0 K') (hf : FrAt wd bf S' F') (hb : But (fun j => j = bk ∨ F j) wc wd) (hF : ∀ j, F' j → F j ∨ wc.heap.size ≤ j) : Kq w0 wd bf bm g0 g1 vb F' bk S' Sm K' := by
  have hlk := h.wk.lb
  refine ⟨⟨h.side.bel.trans (hb.below h.side.bel.size fun j hj => hj.elim (fun e => e ▸ h.hi) (h.side.fhi j)), hf, h.side.mem.keep hb ?_, fun j hj => ?_, h.side.mhi, fun j hj hm => ?_⟩, hk, ⟨fun hj => ?_, h.nk.2⟩, h.hi⟩
  · rintro j hm (e | e)
    · exact h.nk.2 (e ▸ hm)
    · exact h.side.ne j e hm
  · rcases hF j hj with h2 | h2
    · exact h.side.fhi j h2
    · have := h.side.bel.size; omega
  · rcases hF j hj with h2 | h2
    · exact h.side.ne j h2 hm
    · have := h.side.mem.raw.lt hm; omega
  · rcases hF bk hj with h2 | h2
    · exact h.nk.1 h2
    · omega
theorem leftK (h : Kq w0 wc bf bm g0 g1 vb F bk Sf Sm K) (hk : WkAt wd bk 0 0 K') (hb : But (fun j => j = bk) wc wd) : Kq w0 wd bf bm g0 g1 vb F bk Sf Sm K' :=
  h.left hk (h.side.fr.keep hb fun j hj e => h.nk.1 (e ▸ hj)) (hb.mono fun _ _ e => .inl e) fun _ hj => .inl hj
end Kq

/-- The last table of a way. -/
theorem last_tab : ∀ {X : List Pg.Sp}, 0 < X.length → (tabs X).getD (X.length - 1) 0 = lastT X := by
  intro X h
  have hne : X ≠ [] := fun e => by rw [e] at h; cases h
  obtain ⟨Y, s, rfl⟩ : ∃ Y s, X = Y ++ [s] := ⟨X.dropLast, X.getLast hne, (List.dropLast_concat_getLast hne).symm⟩
  simp [tabs, lastT, List.getD]
end Go.Proofs.Ytkcmlmofcjdgoad
