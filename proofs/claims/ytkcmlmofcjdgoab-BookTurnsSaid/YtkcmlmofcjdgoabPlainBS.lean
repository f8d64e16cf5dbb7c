
/-
  Plain facts on a search in a book's mappings, which rise and do not meet: what is ahead of a page, or of a mapping, lies ahead of all that is not.
-/
import Derived.Test.YtkcmlmofcjdgoabPlainB
namespace Go.Proofs.Ytkcmlmofcjdgoab
open Go.RowKit
namespace Pg
def cmpI (x y : Int) : Int := if x < y then -1 else if y < x then 1 else 0
/-- How a page lies to a mapping; how a mapping lies to another one. -/
def lkP (q : Int) (x : Mp) : Int := if x.has q = true then 0 else cmpI q x.p
def lkM (m x : Mp) : Int := if x.meets m = true then 0 else cmpI m.p x.p
theorem cmpI_pos {x y : Int} : 0 < cmpI x y ↔ y < x := by unfold cmpI; split <;> (try split) <;> omega
theorem cmpI_zero {x y : Int} : cmpI x y = 0 ↔ y = x := by unfold cmpI; split <;> (try split) <;> omega
theorem cmpI_fits (x y : Int) : -1 ≤ cmpI x y ∧ cmpI x y ≤ 1 := by unfold cmpI; split <;> (try split) <;> omega
theorem has_iff {x : Mp} {q : Int} : x.has q = true ↔ x.p ≤ q ∧ q - x.p < span x.s := by simp [Mp.has, over]
theorem meets_iff {a b : Mp} : a.meets b = true ↔ (a.p ≤ b.p ∧ b.p - a.p < span a.s) ∨ (b.p ≤ a.p ∧ a.p - b.p < span b.s) := by
  unfold Mp.meets; rw [meet_eq]; simp
theorem lkP_pos {q : Int} {x : Mp} : 0 < lkP q x ↔ x.p + span x.s ≤ q ∧ x.p < q := by
  unfold lkP
  by_cases h : x.has q = true
  · rw [if_pos h]
    have := has_iff.1 h
    omega
  · rw [if_neg h, cmpI_pos]
    have : ¬ (x.p ≤ q ∧ q - x.p < span x.s) := fun a => h (has_iff.2 a)
    have := (span_bd x.s).1
    omega
theorem lkM_pos {m x : Mp} : 0 < lkM m x ↔ x.p + span x.s ≤ m.p ∧ x.p < m.p := by
  unfold lkM
  by_cases h : x.meets m = true
  · rw [if_pos h]
    have := meets_iff.1 h
    omega
  · rw [if_neg h, cmpI_pos]
    have : ¬ ((x.p ≤ m.p ∧ m.p - x.p < span x.s) ∨ (m.p ≤ x.p ∧ x.p - m.p < span m.s)) := fun a => h (meets_iff.2 a)
    have := (span_bd x.s).1
    omega
theorem span_ok {x : Mp} (h : x.code = 0) : 1 ≤ span x.s := by
  have := (check_zero h).1
  have := (span_bd x.s).1
  omega
theorem lkP_zero {q : Int} {x : Mp} (h : x.code = 0) : lkP q x = 0 ↔ x.has q = true := by
  have hs := span_ok h
  unfold lkP
  by_cases e : x.has q = true
  · simp [e]
  · rw [if_neg e, cmpI_zero]
    constructor
    · intro h; exact absurd (has_iff.2 ⟨by omega, by omega⟩) e
    · intro h; exact absurd h e
theorem lkM_zero {m x : Mp} (h : x.code = 0) : lkM m x = 0 ↔ x.meets m = true := by
  have hs := span_ok h
  unfold lkM
  by_cases e : x.meets m = true
  · simp [e]
  · rw [if_neg e, cmpI_zero]
    constructor
    · intro h; exact absurd (meets_iff.2 (.inl ⟨by omega, by omega⟩)) e
    · intro h; exact absurd h e

/-- Two mappings of a book, the one ahead of the other. -/
theorem Good.two {L : List Mp} (h : Good L) {i j : Nat} (hij : i < j) (hj : j < L.length) : (L.getD i .zz).p + span (L.getD i .zz).s ≤ (L.getD j .zz).p ∧ (L.getD i .zz).p < (L.getD j .zz).p := by
  have hp := List.pairwise_iff_getElem.1 h.up i j (by omega) hj hij
  rw [mp_at (by omega), mp_at hj]
  obtain ⟨h1, h2⟩ := hp
  have h3 : ¬ ((L[i].p ≤ L[j].p ∧ L[j].p - L[i].p < span L[i].s) ∨ (L[j].p ≤ L[i].p ∧ L[i].p - L[j].p < span L[j].s)) := fun a => by
    rw [meets_iff.2 a] at h2; cases h2
  omega
theorem Good.at {L : List Mp} (h : Good L) {i : Nat} (hi : i < L.length) : (L.getD i .zz).code = 0 := by
  rw [mp_at hi]; exact h.ok _ (List.getElem_mem _)

/-- The first place at which a look is not above 0. -/
def cut (L : List Mp) (lk : Mp → Int) : Nat := L.findIdx fun m => decide (lk m ≤ 0)
theorem cut_le (L : List Mp) (lk : Mp → Int) : cut L lk ≤ L.length := List.findIdx_le_length
theorem cut_ahead {L : List Mp} {lk : Mp → Int} {t : Nat} (h : t < cut L lk) : 0 < lk (L.getD t .zz) := by
  have hl := cut_le L lk
  have := List.not_of_lt_findIdx h
  rw [mp_at (by omega)]
  simp at this
  exact this
theorem cut_at {L : List Mp} {lk : Mp → Int} (h : cut L lk < L.length) : lk (L.getD (cut L lk) .zz) ≤ 0 := by
  have h1 : L.findIdx (fun m => decide (lk m ≤ 0)) < L.length := h
  have h2 := List.findIdx_getElem (w := h1)
  rw [mp_at h]
  exact of_decide_eq_true h2
/-- What is above 0 stays above 0 ahead of it. -/
def Falls (L : List Mp) (lk : Mp → Int) : Prop := ∀ i j, i < j → j < L.length → 0 < lk (L.getD j .zz) → 0 < lk (L.getD i .zz)
theorem cut_behind {L : List Mp} {lk : Mp → Int} (hf : Falls L lk) {t : Nat} (h : cut L lk ≤ t) (ht : t < L.length) : lk (L.getD t .zz) ≤ 0 := by
  have h0 := cut_at (L := L) (lk := lk) (by omega)
  by_cases e : cut L lk = t
  · rw [← e]; exact h0
  · have := hf (cut L lk) t (by omega) ht
    omega
theorem Good.fallsP {L : List Mp} (h : Good L) (q : Int) : Falls L (lkP q) := by
  intro i j hij hj hp
  have := h.two hij hj
  rw [lkP_pos] at hp ⊢
  have := (span_bd (L.getD j .zz).s).1
  omega
theorem Good.fallsM {L : List Mp} (h : Good L) (m : Mp) : Falls L (lkM m) := by
  intro i j hij hj hp
  have := h.two hij hj
  rw [lkM_pos] at hp ⊢
  have := (span_bd (L.getD j .zz).s).1
  omega
/-- A look at the place that was found. -/
def hit (L : List Mp) (lk : Mp → Int) : Bool := decide (cut L lk < L.length) && (lk (L.getD (cut L lk) .zz) == 0)
theorem hit_iff {L : List Mp} {lk : Mp → Int} : hit L lk = true ↔ cut L lk < L.length ∧ lk (L.getD (cut L lk) .zz) = 0 := by simp [hit]
theorem fnd_hit {L : List Mp} (h : Good L) (q : Int) : fnd L q = if hit L (lkP q) = true then some (cut L (lkP q)) else none := by
  split
  · rename_i hh
    obtain ⟨h1, h2⟩ := hit_iff.1 hh
    refine fnd_of h1 ((lkP_zero (h.at h1)).1 h2) fun j hj => ?_
    have h3 := lkP_pos.1 (cut_ahead hj)
    cases e : (L.getD j .zz).has q
    · rfl
    · have := has_iff.1 e; omega
  · rename_i hh
    refine fnd_no fun j hj => ?_
    cases e : (L.getD j .zz).has q
    · rfl
    · exfalso
      have he := has_iff.1 e
      have hc : cut L (lkP q) ≤ j := by
        refine Nat.le_of_not_lt fun hlt => ?_
        have := lkP_pos.1 (cut_ahead hlt)
        omega
      refine hh (hit_iff.2 ⟨by omega, ?_⟩)
      have h0 := cut_at (L := L) (lk := lkP q) (by omega)
      rw [lkP_zero (h.at (by omega))]
      by_cases e2 : cut L (lkP q) = j
      · rw [e2]; exact e
      · have := h.two (i := cut L (lkP q)) (j := j) (by omega) hj
        have hn : ¬ 0 < lkP q (L.getD (cut L (lkP q)) .zz) := by omega
        rw [lkP_pos] at hn
        rw [has_iff]
        omega
theorem any_hit {L : List Mp} (h : Good L) {m : Mp} (hm : m.code = 0) : (L.any fun x => x.meets m) = hit L (lkM m) := by
  have hs := span_ok hm
  cases hh : hit L (lkM m)
  · rw [List.any_eq_false]
    intro x hx e
    obtain ⟨j, hj, rfl⟩ := List.mem_iff_getElem.1 hx
    rw [← mp_at hj] at e
    have he := meets_iff.1 e
    have hc : cut L (lkM m) ≤ j := by
      refine Nat.le_of_not_lt fun hlt => ?_
      have := lkM_pos.1 (cut_ahead hlt)
      omega
    have h0 := cut_at (L := L) (lk := lkM m) (by omega)
    have : hit L (lkM m) = true := by
      refine hit_iff.2 ⟨by omega, ?_⟩
      rw [lkM_zero (h.at (by omega))]
      by_cases e2 : cut L (lkM m) = j
      · rw [e2]; exact e
      · have := h.two (i := cut L (lkM m)) (j := j) (by omega) hj
        have hn : ¬ 0 < lkM m (L.getD (cut L (lkM m)) .zz) := by omega
        rw [lkM_pos] at hn
        have s1 := span_ok (h.at (i := cut L (lkM m)) (by omega))
        have s2 := span_ok (h.at hj)
        rw [meets_iff]
        omega
    rw [hh] at this
    cases this
  · obtain ⟨h1, h2⟩ := hit_iff.1 hh
    rw [List.any_eq_true]
    refine ⟨L.getD (cut L (lkM m)) .zz, by rw [mp_at h1]; exact List.getElem_mem _, (lkM_zero (h.at h1)).1 h2⟩
theorem ins_at {m : Mp} : ∀ {L : List Mp} {k : Nat}, k ≤ L.length → (∀ t, t < k → ¬ m.p < (L.getD t .zz).p) → (k < L.length → m.p < (L.getD k .zz).p) → ins m L = L.take k ++ m :: L.drop k
  | [], k, hk, _, _ => by
    have : k = 0 := by simpa using hk
    subst this
    rfl
  | x :: r, 0, _, _, h2 => by
    have : m.p < x.p := by simpa using h2 (by simp)
    simp [ins, this]
  | x :: r, k + 1, hk, h1, h2 => by
    have h0 : ¬ m.p < x.p := by simpa using h1 0 (by omega)
    have := ins_at (m := m) (L := r) (k := k) (by simpa using hk) (fun t ht => by simpa using h1 (t + 1) (by omega)) (fun h => by simpa using h2 (by simpa using h))
    simp [ins, h0, this]
theorem ins_cut {L : List Mp} (h : Good L) {m : Mp} (hh : hit L (lkM m) = false) : ins m L = L.take (cut L (lkM m)) ++ m :: L.drop (cut L (lkM m)) := by
  refine ins_at (cut_le _ _) (fun t ht => ?_) (fun hl => ?_)
  · have := lkM_pos.1 (cut_ahead ht)
    omega
  · have h0 := cut_at (L := L) (lk := lkM m) hl
    have h1 : ¬ lkM m (L.getD (cut L (lkM m)) .zz) = 0 := fun e => by
      rw [hit_iff.2 ⟨hl, e⟩] at hh; cases hh
    have h2 : ¬ 0 < lkM m (L.getD (cut L (lkM m)) .zz) := by omega
    rw [lkM_zero (h.at hl), meets_iff] at h1
    rw [lkM_pos] at h2
    have := span_ok (h.at hl)
    omega
end Pg
end Go.Proofs.Ytkcmlmofcjdgoab
