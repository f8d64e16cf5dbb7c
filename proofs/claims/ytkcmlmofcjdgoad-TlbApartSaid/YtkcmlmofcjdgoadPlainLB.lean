
/-
  Plain facts on kept lines: none meets another one; the latest is found.
-/
import Derived.Test.YtkcmlmofcjdgoadPlainL
namespace Go.Proofs.Ytkcmlmofcjdgoad
open Go.RowKit
namespace Pg
theorem Kept.apart {L : List Ln} (h : Kept L) {n k : Nat} (hn : n < k) (hk : k < L.length) : (L.getD n .zz).m.meets (L.getD k .zz).m = false := by
  rw [ln_at (by omega), ln_at hk]
  exact List.pairwise_iff_getElem.1 h.ap n k (by omega) hk hn
theorem Kept.codeAt {L : List Ln} (h : Kept L) {k : Nat} (hk : k < L.length) : (L.getD k .zz).m.code = 0 := h.ok _ (ln_mem hk)
theorem kDrop_at {L : List Ln} {m : Mp} {k : Nat} (hk : k < (kDrop L m).length) : ((kDrop L m).getD k .zz).m.meets m = false := kDrop_not (ln_mem hk)
theorem kDrop_head {l0 : Ln} {post : List Ln} {m : Mp} (h : l0.m.meets m = false) : kDrop (l0 :: post) m = l0 :: kDrop post m := by
  unfold kDrop
  rw [List.filter_cons_of_pos]
  show (!l0.m.meets m) = true
  rw [h]
  rfl
theorem kDrop_len (L : List Ln) (m : Mp) : (kDrop L m).length ≤ L.length := List.length_filter_le _ _
theorem latest_put {l0 x : Ln} {post : List Ln} (h : l0.m.meets x.m = false) (hn : post.length ≤ 4) : ∃ post', kPut (l0 :: post) x = l0 :: post' ∧ post'.length ≤ post.length + 1 := by
  by_cases hc : x.m.code = 0
  · have hl := kDrop_len post x.m
    refine ⟨kDrop post x.m ++ [x], ?_, by simp; omega⟩
    rw [kPut_yes hc, kDrop_head h]
    have : kRoom (l0 :: kDrop post x.m) = l0 :: kDrop post x.m := by
      unfold kRoom
      rw [if_neg (by simp; omega)]
    rw [this]
    rfl
  · exact ⟨post, kPut_no hc, by omega⟩
theorem latest_find {l0 : Ln} {post : List Ln} {p : Int} (h : l0.m.has p = true) : kFnd (l0 :: post) p = some 0 ∧ kAt (l0 :: post) p = l0 := by
  have e : kFnd (l0 :: post) p = some 0 := by
    unfold kFnd
    rw [List.findIdx?_cons]
    have : l0.has p = true := h
    simp [this]
  exact ⟨e, by simp [kAt, e]⟩
end Pg
end Go.Proofs.Ytkcmlmofcjdgoad
