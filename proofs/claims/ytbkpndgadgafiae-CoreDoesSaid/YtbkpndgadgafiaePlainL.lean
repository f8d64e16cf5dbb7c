
/-
  Plain functions that say what is kept: lines, the oldest one first, and what asking them comes to.
-/
import Derived.Test.YtbkpndgadgafiaePlainB
namespace Go.Proofs.Ytbkpndgadgafiae
open Go.RowKit
namespace Pg
/-- A line: its mapping, and whether it is dirty. -/
structure Ln where
  m : Mp
  d : Bool
def Ln.zz : Ln := ⟨.zz, false⟩
namespace Ln
def val (l : Ln) : Value := .agg #[.int .i64 l.m.p, .int .i64 l.m.s, .int .i64 l.m.f, .int .i64 l.m.r, .bool l.d]
def has (l : Ln) (q : Int) : Bool := l.m.has q
def meets (l : Ln) (m : Mp) : Bool := l.m.meets m
end Ln

/-- All are mappings; no two meet; there are no more than may be kept. -/
structure Kept (L : List Ln) : Prop where
  ok : ∀ l, l ∈ L → l.m.code = 0
  ap : L.Pairwise fun a b => a.m.meets b.m = false
  le : L.length ≤ 6

theorem Kept.nil : Kept [] := ⟨fun _ h => by simp at h, List.Pairwise.nil, by simp⟩

/-- Where the line of a page stands. -/
def kFnd (L : List Ln) (q : Int) : Option Nat := L.findIdx? fun l => l.has q
def kFndN (L : List Ln) (q : Int) : Int := match kFnd L q with
  | some k => (k : Int)
  | none => -1
def kAt (L : List Ln) (q : Int) : Ln := match kFnd L q with
  | some k => L.getD k .zz
  | none => .zz
def kDrop (L : List Ln) (m : Mp) : List Ln := L.filter fun l => !l.meets m
def kRoom (L : List Ln) : List Ln := if L.length = 6 then L.drop 1 else L
def kPut (L : List Ln) (l : Ln) : List Ln := if l.m.code = 0 then kRoom (kDrop L l.m) ++ [l] else L

theorem ln_at {L : List Ln} {j : Nat} (hj : j < L.length) : L.getD j .zz = L[j] := by simp [List.getD, hj]
theorem ln_mem {L : List Ln} {j : Nat} (hj : j < L.length) : L.getD j .zz ∈ L := by rw [ln_at hj]; exact List.getElem_mem _
theorem kFnd_some {L : List Ln} {q : Int} {k : Nat} (h : kFnd L q = some k) : k < L.length ∧ (L.getD k .zz).has q = true ∧ ∀ j, j < k → (L.getD j .zz).has q = false := by
  obtain ⟨hk, h1, h2⟩ := List.findIdx?_eq_some_iff_getElem.1 h
  refine ⟨hk, by rw [ln_at hk]; exact h1, fun j hj => ?_⟩
  rw [ln_at (by omega)]
  simpa using h2 j hj
/-- Where the first one stands of which something holds. -/
theorem idx_some {L : List Ln} {P : Ln → Bool} {k : Nat} (hk : k < L.length) (h1 : P (L.getD k .zz) = true) (h2 : ∀ j, j < k → P (L.getD j .zz) = false) : L.findIdx? P = some k := by
  refine List.findIdx?_eq_some_iff_getElem.2 ⟨hk, by rw [← ln_at hk]; exact h1, fun j hj => ?_⟩
  have := h2 j hj
  rw [ln_at (by omega)] at this
  simpa using this
theorem idx_none {L : List Ln} {P : Ln → Bool} (h : ∀ j, j < L.length → P (L.getD j .zz) = false) : L.findIdx? P = none := by
  refine List.findIdx?_eq_none_iff.2 fun m hm => ?_
  obtain ⟨j, hj, rfl⟩ := List.mem_iff_getElem.1 hm
  have := h j hj
  rw [ln_at hj] at this
  simpa using this
theorem idx_of_some {L : List Ln} {P : Ln → Bool} {k : Nat} (h : L.findIdx? P = some k) : k < L.length ∧ P (L.getD k .zz) = true ∧ ∀ j, j < k → P (L.getD j .zz) = false := by
  obtain ⟨hk, h1, h2⟩ := List.findIdx?_eq_some_iff_getElem.1 h
  refine ⟨hk, by rw [ln_at hk]; exact h1, fun j hj => ?_⟩
  rw [ln_at (by omega)]
  simpa using h2 j hj
theorem idx_of_none {L : List Ln} {P : Ln → Bool} (h : L.findIdx? P = none) : ∀ l, l ∈ L → P l = false := fun l hl => by
  simpa using List.findIdx?_eq_none_iff.1 h l hl
def idxN (L : List Ln) (P : Ln → Bool) : Int := match L.findIdx? P with
  | some k => (k : Int)
  | none => -1
theorem take_succ {L : List Ln} {j : Nat} (hj : j < L.length) : L.take (j + 1) = L.take j ++ [L.getD j .zz] := by
  rw [List.take_succ_eq_append_getElem hj, ln_at hj]
theorem filter_take_yes {L : List Ln} {P : Ln → Bool} {j : Nat} (hj : j < L.length) (h : P (L.getD j .zz) = true) : (L.take (j + 1)).filter P = (L.take j).filter P ++ [L.getD j .zz] := by
  rw [take_succ hj, List.filter_append]
  simp only [List.filter_cons, h, if_true, List.filter_nil]
theorem filter_take_no {L : List Ln} {P : Ln → Bool} {j : Nat} (hj : j < L.length) (h : P (L.getD j .zz) = false) : (L.take (j + 1)).filter P = (L.take j).filter P := by
  rw [take_succ hj, List.filter_append]
  simp only [List.filter_cons, h, Bool.false_eq_true, if_false, List.filter_nil, List.append_nil]
theorem filter_len (L : List Ln) (P : Ln → Bool) : (L.filter P).length ≤ L.length := List.length_filter_le _ _

theorem Kept.fits {L : List Ln} (h : Kept L) {j : Nat} (hj : j < L.length) : Pg.fits (L.getD j .zz).m.p := (ok_fits (h.ok _ (ln_mem hj))).2.2.1
theorem Kept.sub {L M : List Ln} (h : Kept L) (hs : M.Sublist L) : Kept M :=
  ⟨fun l hl => h.ok l (hs.subset hl), h.ap.sublist hs, Nat.le_trans hs.length_le h.le⟩
theorem Kept.drop {L : List Ln} (h : Kept L) (m : Mp) : Kept (kDrop L m) := h.sub List.filter_sublist
theorem Kept.tail {L : List Ln} (h : Kept L) : Kept (L.drop 1) := h.sub (List.drop_sublist _ _)
theorem kRoom_sub (L : List Ln) : (kRoom L).Sublist L := by
  unfold kRoom
  split
  · exact List.drop_sublist _ _
  · exact List.Sublist.refl _
theorem kRoom_len {L : List Ln} (h : L.length ≤ 6) : (kRoom L).length ≤ 5 := by
  unfold kRoom
  split
  · simp; omega
  · omega
theorem kDrop_not {L : List Ln} {m : Mp} {l : Ln} (h : l ∈ kDrop L m) : l.m.meets m = false := by
  have := (List.mem_filter.1 h).2
  simpa [Ln.meets] using this
theorem Kept.put {L : List Ln} (h : Kept L) (l : Ln) : Kept (kPut L l) := by
  unfold kPut
  split
  · rename_i hc
    have hd := (h.drop l.m).sub (kRoom_sub _)
    refine ⟨fun x hx => ?_, ?_, ?_⟩
    · rcases List.mem_append.1 hx with hx | hx
      · exact hd.ok x hx
      · rw [List.mem_singleton.1 hx]; exact hc
    · refine List.pairwise_append.2 ⟨hd.ap, by simp, fun a ha b hb => ?_⟩
      rw [List.mem_singleton.1 hb]
      exact kDrop_not ((kRoom_sub _).subset ha)
    · have := kRoom_len (h.drop l.m).le
      simp only [List.length_append, List.length_cons, List.length_nil]
      omega
  · exact h
theorem kPut_no {L : List Ln} {l : Ln} (h : l.m.code ≠ 0) : kPut L l = L := by simp [kPut, h]
theorem kPut_yes {L : List Ln} {l : Ln} (h : l.m.code = 0) : kPut L l = kRoom (kDrop L l.m) ++ [l] := by simp [kPut, h]
end Pg
end Go.Proofs.Ytbkpndgadgafiae
