
/-
  Plain facts on books: not when, but what; and what is left when all others are dropped.
-/
import Derived.Test.YtkcmlmofcjdgoabPlainB
namespace Go.Proofs.Ytkcmlmofcjdgoab
open Go.RowKit
namespace Pg
theorem sorted_eq : ∀ {A B : List Mp}, (A.Pairwise fun a b => a.p < b.p) → (B.Pairwise fun a b => a.p < b.p) → (∀ x, x ∈ A ↔ x ∈ B) → A = B
  | [], [], _, _, _ => rfl
  | [], b :: B, _, _, h => by have := (h b).2 (by simp); simp at this
  | a :: A, [], _, _, h => by have := (h a).1 (by simp); simp at this
  | a :: A, b :: B, hA, hB, h => by
    rw [List.pairwise_cons] at hA hB
    have e : a = b := by
      have h1 := (h a).1 (by simp)
      have h2 := (h b).2 (by simp)
      rcases List.mem_cons.1 h1 with e | h1
      · exact e
      · rcases List.mem_cons.1 h2 with e | h2
        · exact e.symm
        · have := hB.1 a h1
          have := hA.1 b h2
          omega
    subst e
    congr 1
    refine sorted_eq hA.2 hB.2 fun x => ⟨fun hx => ?_, fun hx => ?_⟩
    · rcases List.mem_cons.1 ((h x).1 (by simp [hx])) with e | h'
      · have := hA.1 x hx
        rw [e] at this
        omega
      · exact h'
    · rcases List.mem_cons.1 ((h x).2 (by simp [hx])) with e | h'
      · have := hB.1 x hx
        rw [e] at this
        omega
      · exact h'

theorem Good.rise {L : List Mp} (h : Good L) : L.Pairwise fun a b => a.p < b.p := h.up.imp fun ⟨h, _⟩ => h
theorem Good.apart {L : List Mp} (h : Good L) {i j : Nat} (hi : i < L.length) (hj : j < L.length) (hne : i ≠ j) : (L.getD i .zz).meets (L.getD j .zz) = false := by
  rw [mp_at hi, mp_at hj]
  have hp := List.pairwise_iff_getElem.1 h.up
  by_cases hlt : i < j
  · exact (hp i j hi hj hlt).2
  · rw [Mp.meets_comm]
    exact (hp j i hj hi (by omega)).2
theorem Good.code {L : List Mp} (h : Good L) {i : Nat} (hi : i < L.length) : (L.getD i .zz).code = 0 := h.ok _ (by rw [mp_at hi]; exact List.getElem_mem _)

/-- The i-th place of a list that is begun elsewhere. -/
def turn (n s i : Nat) : Nat := (i + s) % n
theorem turn_lt {n s i : Nat} (h : 0 < n) : turn n s i < n := Nat.mod_lt _ h
theorem turn_ne {n s i t : Nat} (hi : i < n) (ht : t < i) (hs : s < n) : turn n s t ≠ turn n s i := by
  unfold turn
  intro e
  have h1 : (t + s) % n = if t + s < n then t + s else t + s - n := by
    split
    · exact Nat.mod_eq_of_lt (by assumption)
    · rw [Nat.mod_eq_sub_mod (by omega)]
      exact Nat.mod_eq_of_lt (by omega)
  have h2 : (i + s) % n = if i + s < n then i + s else i + s - n := by
    split
    · exact Nat.mod_eq_of_lt (by assumption)
    · rw [Nat.mod_eq_sub_mod (by omega)]
      exact Nat.mod_eq_of_lt (by omega)
  rw [h1, h2] at e
  split at e <;> split at e <;> omega
theorem turn_all {n s j : Nat} (hj : j < n) (hs : s < n) : ∃ t, t < n ∧ turn n s t = j := by
  unfold turn
  by_cases h : s ≤ j
  · exact ⟨j - s, by omega, by rw [Nat.sub_add_cancel h]; exact Nat.mod_eq_of_lt hj⟩
  · refine ⟨j + n - s, by omega, ?_⟩
    rw [show j + n - s + s = j + n by omega]
    simp [Nat.mod_eq_of_lt hj]
/-- Behind i of them. -/
structure Turned (L C : List Mp) (s i : Nat) : Prop where
  good : Good C
  mem : ∀ x, x ∈ C ↔ ∃ t, t < i ∧ x = L.getD (turn L.length s t) .zz
theorem Turned.nil (L : List Mp) (s : Nat) : Turned L [] s 0 := ⟨Good.nil, fun x => by simp⟩
theorem Turned.step {L C : List Mp} {s i : Nat} (h : Turned L C s i) (hL : Good L) (hs : s < L.length) (hi : i < L.length) :
    addC C (L.getD (turn L.length s i) .zz) = 0 ∧ Turned L (addL C (L.getD (turn L.length s i) .zz)) s (i + 1) := by
  have hn : 0 < L.length := by omega
  have hl := turn_lt (s := s) (i := i) hn
  have hc := hL.code hl
  have ha : ∀ x, x ∈ C → x.meets (L.getD (turn L.length s i) .zz) = false := by
    intro x hx
    obtain ⟨t, ht, rfl⟩ := (h.mem x).1 hx
    exact hL.apart (turn_lt hn) hl (turn_ne hi ht hs)
  have he : addC C (L.getD (turn L.length s i) .zz) = 0 := by
    generalize L.getD (turn L.length s i) .zz = m at *
    have : (C.any fun x => x.meets m) = false := by
      rw [List.any_eq_false]
      intro x hx
      simp [ha x hx]
    simp [addC, hc, this]
  refine ⟨he, h.good.add _, fun x => ?_⟩
  rw [addL, if_pos he, ins_mem, h.mem]
  constructor
  · rintro (rfl | ⟨t, ht, rfl⟩)
    · exact ⟨i, by omega, rfl⟩
    · exact ⟨t, by omega, rfl⟩
  · rintro ⟨t, ht, rfl⟩
    by_cases e : t = i
    · exact .inl (by rw [e])
    · exact .inr ⟨t, by omega, rfl⟩
theorem Turned.all {L C : List Mp} {s : Nat} (h : Turned L C s L.length) (hL : Good L) (hs : s < L.length) : C = L := by
  refine sorted_eq h.good.rise hL.rise fun x => ?_
  rw [h.mem]
  constructor
  · rintro ⟨t, ht, rfl⟩
    rw [mp_at (turn_lt (by omega))]
    exact List.getElem_mem _
  · intro hx
    obtain ⟨j, hj, rfl⟩ := List.mem_iff_getElem.1 hx
    obtain ⟨t, ht, e⟩ := turn_all hj hs
    exact ⟨t, ht, by rw [e, mp_at hj]⟩

/-- One that has another one's page meets it. -/
theorem has_meets {a b : Mp} (h : a.has b.p = true) : a.meets b = true := by
  unfold Mp.has at h
  unfold Mp.meets meet
  rw [h]
  rfl
theorem own_page {m : Mp} (h : m.code = 0) : m.has m.p = true := by
  have hs := (check_zero h).1
  have := (span_bd m.s).1
  unfold Mp.has over
  simp
  omega
/-- No two of a book have the same page. -/
theorem has_one {L : List Mp} (h : Good L) {i j : Nat} {q : Int} (hi : i < L.length) (hj : j < L.length) (h1 : (L.getD i .zz).has q = true) (h2 : (L.getD j .zz).has q = true) : i = j := by
  by_cases e : i = j
  · exact e
  · have ha := h.apart hi hj e
    generalize L.getD i .zz = a at *
    generalize L.getD j .zz = b at *
    unfold Mp.meets at ha
    rw [meet_eq] at ha
    simp only [decide_eq_false_iff_not] at ha
    unfold Mp.has over at h1 h2
    simp only [Bool.and_eq_true, decide_eq_true_eq] at h1 h2
    exfalso
    apply ha
    by_cases hab : a.p ≤ b.p
    · exact .inl ⟨hab, by omega⟩
    · exact .inr ⟨by omega, by omega⟩
/-- The one that has a page, if it stands ahead of i. -/
def kpt (L : List Mp) (q : Int) (i : Nat) : List Mp := match fnd L q with
  | some k => if k < i then [L.getD k .zz] else []
  | none => []
/-- What is left behind i of the drops of all but the one that has the page q. -/
def lft2 (L : List Mp) (q : Int) (i : Nat) : List Mp := kpt L q i ++ L.drop i
def atN (L : List Mp) (q : Int) (i : Nat) : Int := match fnd L q with
  | some k => if k < i then (k : Int) else -1
  | none => -1
theorem lft2_zero (L : List Mp) (q : Int) : lft2 L q 0 = L := by
  unfold lft2 kpt
  cases fnd L q <;> simp
theorem drop_cons {L : List Mp} {i : Nat} (hi : i < L.length) : L.drop i = L.getD i .zz :: L.drop (i + 1) := by
  rw [mp_at hi]
  exact List.drop_eq_getElem_cons hi
/-- The one that has the page is not dropped. -/
theorem lft2_stay {L : List Mp} {q : Int} {i : Nat} (hi : i < L.length) (h : fnd L q = some i) : lft2 L q (i + 1) = lft2 L q i := by
  unfold lft2 kpt
  rw [h]
  simp only [Nat.lt_irrefl, if_false, Nat.lt_succ_self, if_true]
  rw [drop_cons hi]
  rfl
theorem kpt_next {L : List Mp} {q : Int} {i : Nat} (h : fnd L q ≠ some i) : kpt L q (i + 1) = kpt L q i := by
  unfold kpt
  cases hf : fnd L q with
  | none => rfl
  | some k =>
    have hk : k ≠ i := fun e => h (by rw [hf, e])
    by_cases hlt : k < i
    · simp [hlt, show k < i + 1 by omega]
    · simp [hlt, show ¬ k < i + 1 by omega]
theorem kpt_mem {L : List Mp} {q : Int} {i : Nat} {x : Mp} (h : x ∈ kpt L q i) : ∃ k, k < i ∧ k < L.length ∧ x = L.getD k .zz := by
  unfold kpt at h
  cases hf : fnd L q with
  | none => rw [hf] at h; simp at h
  | some k =>
    rw [hf] at h
    by_cases hlt : k < i
    · simp only [hlt, if_true] at h
      exact ⟨k, hlt, (fnd_some hf).1, by simpa using h⟩
    · simp [hlt] at h
/-- All others are, each by its own page. -/
theorem lft2_drop {L : List Mp} (hL : Good L) {q : Int} {i : Nat} (hi : i < L.length) (h : fnd L q ≠ some i) : dropC (lft2 L q i) (L.getD i .zz).p = 0 ∧ dropL (lft2 L q i) (L.getD i .zz).p = lft2 L q (i + 1) := by
  have hc := hL.code hi
  have hb := ok_fits hc
  have e1 : lft2 L q i = kpt L q i ++ L.getD i .zz :: L.drop (i + 1) := by rw [lft2, drop_cons hi]
  have hf : fnd (lft2 L q i) (L.getD i .zz).p = some (kpt L q i).length := by
    have hat : (lft2 L q i).getD (kpt L q i).length .zz = L.getD i .zz := by rw [e1]; simp [List.getD]
    refine fnd_of (by rw [e1]; simp) (by rw [hat]; exact own_page hc) fun j hj => ?_
    have hx : (lft2 L q i).getD j .zz ∈ kpt L q i := by
      rw [e1, mp_at (by simp; omega), List.getElem_append_left hj]
      exact List.getElem_mem _
    obtain ⟨k, hki, hkl, e⟩ := kpt_mem hx
    rw [e]
    cases hh : (L.getD k .zz).has (L.getD i .zz).p
    · rfl
    · have := has_meets hh
      rw [hL.apart hkl hi (by omega)] at this
      cases this
  have hd : dropC (lft2 L q i) (L.getD i .zz).p = 0 := by
    unfold dropC
    rw [if_pos (below_iff.2 ⟨hb.1, hb.2.1⟩), hf]
    exact if_neg (by simp)
  refine ⟨hd, ?_⟩
  simp only [dropL, hd, if_true, hf]
  rw [lft2, lft2, kpt_next h, drop_cons hi, List.eraseIdx_append_of_length_le (Nat.le_refl _)]
  simp
/-- What is answered is as it was. -/
theorem lft2_all {L : List Mp} (q k : Int) (u : Bool) : ansE (lft2 L q L.length) q k u = ansE L q k u ∧ ansF (lft2 L q L.length) q k u = ansF L q k u ∧ ansR (lft2 L q L.length) q k u = ansR L q k u := by
  cases hf : fnd L q with
  | none =>
    have e : lft2 L q L.length = [] := by simp [lft2, kpt, hf]
    have hf0 : fnd ([] : List Mp) q = none := rfl
    rw [e]
    refine ⟨?_, ?_, ?_⟩
    · simp only [ansE, hf, hf0]
    · simp only [ansF, hf, hf0]
    · simp only [ansR, hf, hf0]
  | some j =>
    have hj := fnd_some hf
    have e : lft2 L q L.length = [L.getD j .zz] := by simp only [lft2, kpt, hf, hj.1, if_true, List.drop_length, List.append_nil]
    have hf' : fnd [L.getD j .zz] q = some 0 := fnd_of (by simp) (by simpa using hj.2.1) (fun t ht => by omega)
    rw [e]
    simp only [ansE, ansF, ansR, hf, hf']
    exact ⟨rfl, rfl, rfl⟩
theorem atN_zero (L : List Mp) (q : Int) : atN L q 0 = -1 := by
  unfold atN
  cases fnd L q <;> simp
theorem atN_step {L : List Mp} (hL : Good L) {q : Int} {i : Nat} (hi : i < L.length) : atN L q (i + 1) = if (L.getD i .zz).has q = true then (i : Int) else atN L q i := by
  unfold atN
  cases hf : fnd L q with
  | none =>
    have := List.findIdx?_eq_none_iff.1 hf (L.getD i .zz) (by rw [mp_at hi]; exact List.getElem_mem _)
    have hh : (L.getD i .zz).has q = false := by
      generalize (L.getD i .zz).has q = v at this ⊢
      cases v
      · rfl
      · simp at this
    rw [hh]
    rfl
  | some k =>
    have hk := fnd_some hf
    cases hh : (L.getD i .zz).has q
    · have hne : k ≠ i := fun e => by rw [e, hh] at hk; simp at hk
      by_cases hlt : k < i
      · simp [hlt, show k < i + 1 by omega]
      · simp [hlt, show ¬ k < i + 1 by omega]
    · have := has_one hL hk.1 hi hk.2.1 hh
      subst this
      simp
theorem atN_all {L : List Mp} (q k : Int) (u : Bool) : decide (0 ≤ atN L q L.length) = (ansE L q k u != 1) := by
  unfold atN ansE
  cases hf : fnd L q with
  | none => rfl
  | some j =>
    have hj := (fnd_some hf).1
    simp only [hj, if_true]
    unfold aEnd
    split <;> simp
end Pg
end Go.Proofs.Ytkcmlmofcjdgoab
