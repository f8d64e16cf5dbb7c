
/-
  Plain facts: a list of all leaves says what each way says.
-/
import Derived.Test.YtbkpndgadgafiacPlainW
namespace Go.Proofs.Ytbkpndgadgafiac
open Go.RowKit
namespace Pg

theorem leaf_at {S : Fs} {t : Int} {i lv a : Nat} (h2 : lv ≤ 2) : (spt S t i lv a).mp = (rEn S t i lv).map lv (((a + i) * 8 ^ lv : Nat) : Int) := by
  have e : (((a + i) * 8 ^ lv : Nat) : Int) = ((a + i : Nat) : Int) * span (lv : Int) := by
    have : lv = 0 ∨ lv = 1 ∨ lv = 2 := by omega
    rcases this with rfl | rfl | rfl <;> simp [span]
  rw [e]
  rfl
theorem span_pow {lv : Nat} (h : lv ≤ 2) : span (lv : Int) = ((8 ^ lv : Nat) : Int) := by
  have : lv = 0 ∨ lv = 1 ∨ lv = 2 := by omega
  rcases this with rfl | rfl | rfl <;> simp [span]
/-- The mapping of a leaf on the way to a page. -/
theorem map_leaf {S : Fs} (h : S.Ok) {t : Int} {i lv : Nat} (hl : (rEn S t i lv).l = true) {q : Nat} (hq : q < 4096) :
    (rEn S t i lv).map lv (q : Int) = ⟨((q / 8 ^ lv * 8 ^ lv : Nat) : Int), (lv : Int), (rEn S t i lv).f, (rEn S t i lv).r⟩ := by
  obtain ⟨hc, _, h2⟩ := rEn_leaf h hl
  have hf : eFault (rEn S t i lv).t (rEn S t i lv).l (rEn S t i lv).r (rEn S t i lv).u (rEn S t i lv).d (rEn S t i lv).f (lv : Int) = 0 := rEn_fault h hc
  have hok : lOk (rEn S t i lv).t (rEn S t i lv).l (rEn S t i lv).r (rEn S t i lv).u (rEn S t i lv).d (rEn S t i lv).f (lv : Int) (q : Int) = true := by
    have hb : below (q : Int) 4096 = true := below_iff.2 ⟨by omega, by omega⟩
    unfold lOk
    rw [hf, hb, hl]
    rfl
  have e : (q : Int) - (q : Int) % span (lv : Int) = ((q / 8 ^ lv * 8 ^ lv : Nat) : Int) := by
    rw [span_pow h2]
    have h1 := Nat.div_add_mod q (8 ^ lv)
    rw [Nat.mul_comm] at h1
    omega
  unfold En.map lPage lSize lFrame lRights
  rw [hok]
  simp only [if_true]
  rw [e]

/-- What one place tells, if there is no code. -/
theorem out_all {S : Fs} {lv : Nat} {rec : Int → Nat → List Sp × Int} {t : Int} {a i : Nat} (hz : (out S allW lv rec t a i).2 = 0) :
    rCode S t i lv = 0 ∧ (((rEn S t i lv).on = false ∧ out S allW lv rec t a i = ([spt S t i lv a], 0)) ∨ ((rEn S t i lv).on = true ∧ (rec (rEn S t i lv).f ((a + i) * 8)).2 = 0 ∧ (out S allW lv rec t a i).1 = spt S t i lv a :: (rec (rEn S t i lv).f ((a + i) * 8)).1)) := by
  unfold out at hz ⊢
  rw [if_neg (by simp [allW])] at hz ⊢
  split at hz
  · rename_i h1
    exact absurd hz h1
  · rename_i h1
    have h1 : rCode S t i lv = 0 := by simpa using h1
    refine ⟨h1, ?_⟩
    rw [if_neg (by simpa using h1)]
    split at hz
    · rename_i h2
      exact .inl ⟨h2, by rw [if_pos h2]⟩
    · rename_i h2
      exact .inr ⟨by simpa using h2, hz, by rw [if_neg h2]⟩
section
variable {S : Fs}
theorem maps_range (h : S.Ok) : ∀ (lv : Nat), lv < 4 → ∀ (t : Int) (a : Nat), a + 8 ≤ 8 ^ (4 - lv) → (thr S allW lv t a).2 = 0 → ∀ m, m ∈ mapsOf (thr S allW lv t a).1 → ((a * 8 ^ lv : Nat) : Int) ≤ m.p ∧ m.p + span m.s ≤ (((a + 8) * 8 ^ lv : Nat) : Int) := by
  intro lv
  induction lv using Nat.strongRecOn with
  | _ lv IH =>
  intro hlv t a ha hz m hm
  rw [thr_eq] at hz hm
  obtain ⟨h1, h2⟩ := scan_zero 8 0 hz
  rw [h2] at hm
  simp only [mapsOf, List.mem_flatMap] at hm
  obtain ⟨s, ⟨i, hi, hs⟩, hsm⟩ := hm
  have hi8 : i < 8 := by have := (List.mem_range'_1.1 hi).2; omega
  have hpow : 0 < 8 ^ lv := Nat.pow_pos (by decide)
  have hle : (a + i + 1) * 8 ^ lv ≤ (a + 8) * 8 ^ lv := Nat.mul_le_mul_right _ (by omega)
  have hge : a * 8 ^ lv ≤ (a + i) * 8 ^ lv := Nat.mul_le_mul_right _ (by omega)
  have hall : (a + 8) * 8 ^ lv ≤ 4096 := by
    have h3 : (a + 8) * 8 ^ lv ≤ 8 ^ (4 - lv) * 8 ^ lv := Nat.mul_le_mul_right _ ha
    rw [← Nat.pow_add, show 4 - lv + lv = 4 by omega] at h3
    have e : (8 : Nat) ^ 4 = 4096 := by decide
    omega
  have hex : (a + i + 1) * 8 ^ lv = (a + i) * 8 ^ lv + 8 ^ lv := by rw [Nat.add_mul, Nat.one_mul]
  obtain ⟨hc, ho⟩ := out_all (h1 i (by omega) (by omega))
  have leaf : s = spt S t i lv a → ((a * 8 ^ lv : Nat) : Int) ≤ m.p ∧ m.p + span m.s ≤ (((a + 8) * 8 ^ lv : Nat) : Int) := by
    intro e
    subst e
    by_cases hl : (rEn S t i lv).l = true
    · have hl' : (spt S t i lv a).e.l = true := hl
      rw [if_pos hl'] at hsm
      simp at hsm
      subst hsm
      have h2 := (rEn_leaf h hl).2.2
      rw [leaf_at h2, map_leaf h hl (by omega), Nat.mul_div_cancel _ hpow]
      simp only
      rw [span_pow h2]
      omega
    · have hl' : ¬ (spt S t i lv a).e.l = true := hl
      rw [if_neg hl'] at hsm
      simp at hsm
  rcases ho with ⟨_, ho⟩ | ⟨hon, hr, ho⟩
  · rw [ho] at hs
    simp at hs
    exact leaf hs
  · rw [ho] at hs
    simp at hs
    rcases hs with hs | hs
    · exact leaf hs
    · obtain ⟨k, rfl⟩ := rEn_on hon
      have hr2 : (thr S allW k (rEn S t i (k + 1)).f ((a + i) * 8)).2 = 0 := hr
      have hs2 : s ∈ (thr S allW k (rEn S t i (k + 1)).f ((a + i) * 8)).1 := hs
      have := IH k (by omega) (by omega) (rEn S t i (k + 1)).f ((a + i) * 8) (by
        rw [show 4 - k = (4 - (k + 1)) + 1 by omega, Nat.pow_succ]
        omega) hr2 m (by simp only [mapsOf, List.mem_flatMap]; exact ⟨s, hs2, hsm⟩)
      have e1 : (a + i) * 8 * 8 ^ k = (a + i) * 8 ^ (k + 1) := by rw [Nat.pow_succ, Nat.mul_assoc, Nat.mul_comm 8]
      have e2 : ((a + i) * 8 + 8) * 8 ^ k = (a + i + 1) * 8 ^ (k + 1) := by rw [show (a + i) * 8 + 8 = (a + i + 1) * 8 by omega, Nat.pow_succ, Nat.mul_assoc, Nat.mul_comm 8]
      rw [e1, e2] at this
      omega
end

theorem flatMap_one {α : Type} (f : Nat → List α) (k : Nat) : ∀ (n s : Nat), (∀ j, s ≤ j → j < s + n → j ≠ k → f j = []) → (List.range' s n).flatMap f = if s ≤ k ∧ k < s + n then f k else []
  | 0, s, _ => by rw [if_neg (by omega)]; rfl
  | n + 1, s, hf => by
    rw [List.range'_succ, List.flatMap_cons, flatMap_one f k n (s + 1) (fun j h1 h2 h3 => hf j (by omega) (by omega) h3)]
    by_cases e : s = k
    · subst e
      have e1 : ¬ (s + 1 ≤ s ∧ s < s + 1 + n) := by omega
      have e2 : s ≤ s ∧ s < s + (n + 1) := by omega
      rw [if_neg e1, if_pos e2, List.append_nil]
    · rw [hf s (by omega) (by omega) e, List.nil_append]
      by_cases hk : s + 1 ≤ k ∧ k < s + 1 + n
      · rw [if_pos hk, if_pos (by omega)]
      · rw [if_neg hk, if_neg (by omega)]

section
variable {S : Fs}
/-- A list is all ways. -/
theorem all_ways (h : S.Ok) (q : Nat) : ∀ (lv : Nat), lv < 4 → ∀ (t : Int) (a : Nat), a % 8 = 0 → a + 8 ≤ 8 ^ (4 - lv) → a ≤ q / 8 ^ lv → q / 8 ^ lv < a + 8 → (thr S allW lv t a).2 = 0 →
    (thr S (onW (q : Int)) lv t a).2 = 0 ∧ (∀ s, s ∈ (thr S (onW (q : Int)) lv t a).1 → s.table ∈ t :: tabsOf (thr S allW lv t a).1) ∧
      ∃ s, (thr S (onW (q : Int)) lv t a).1.getLast? = some s ∧ (mapsOf (thr S allW lv t a).1).filter (fun m => m.has (q : Int)) = if s.e.t = true then [s.e.map s.level (q : Int)] else [] := by
  intro lv
  induction lv using Nat.strongRecOn with
  | _ lv IH =>
  intro hlv t a ha8 ha h1 h2 hz
  have hzz := hz
  rw [thr_eq] at hz
  obtain ⟨c1, c2⟩ := scan_zero 8 0 hz
  have hpow : 0 < 8 ^ lv := Nat.pow_pos (by decide)
  have hix : ix (q : Int) lv = q / 8 ^ lv % 8 := by
    unfold ix
    have e : (q : Int) / 8 ^ lv % 8 = ((q / 8 ^ lv % 8 : Nat) : Int) := by simp
    rw [e]
    exact Int.toNat_natCast _
  obtain ⟨k, hk⟩ : ∃ k, q / 8 ^ lv = a + k := ⟨q / 8 ^ lv - a, by omega⟩
  have hk8 : k < 8 := by omega
  have hixk : ix (q : Int) lv = k := by rw [hix]; omega
  have hq1 : (a + k) * 8 ^ lv ≤ q := by rw [← hk]; exact Nat.div_mul_le_self q _
  have hq2 : q < (a + k + 1) * 8 ^ lv := by
    rw [← hk, Nat.add_mul, Nat.one_mul]
    have := Nat.lt_div_mul_add (a := q) hpow
    omega
  have hall : (a + 8) * 8 ^ lv ≤ 4096 := by
    have h3 : (a + 8) * 8 ^ lv ≤ 8 ^ (4 - lv) * 8 ^ lv := Nat.mul_le_mul_right _ ha
    rw [← Nat.pow_add, show 4 - lv + lv = 4 by omega] at h3
    have e : (8 : Nat) ^ 4 = 4096 := by decide
    omega
  have hq4 : q < 4096 := by
    have : (a + k + 1) * 8 ^ lv ≤ (a + 8) * 8 ^ lv := Nat.mul_le_mul_right _ (by omega)
    omega
  -- of the other places no mapping has the page
  have other : ∀ j, j < 8 → j ≠ k → (mapsOf (out S allW lv (sub S allW lv) t a j).1).filter (fun m => m.has (q : Int)) = [] := by
    intro j hj hne
    rw [List.filter_eq_nil_iff]
    intro m hm
    simp only [Mp.has, over, Bool.and_eq_true, decide_eq_true_eq, not_and]
    intro hle
    have rng : (((a + j) * 8 ^ lv : Nat) : Int) ≤ m.p ∧ m.p + span m.s ≤ (((a + j + 1) * 8 ^ lv : Nat) : Int) := by
      obtain ⟨hc, ho⟩ := out_all (c1 j (by omega) (by omega))
      have hbj : (a + j + 1) * 8 ^ lv ≤ (a + 8) * 8 ^ lv := Nat.mul_le_mul_right _ (by omega)
      have hex : (a + j + 1) * 8 ^ lv = (a + j) * 8 ^ lv + 8 ^ lv := by rw [Nat.add_mul, Nat.one_mul]
      have leaf : ∀ hl : (rEn S t j lv).l = true, m = (spt S t j lv a).mp → (((a + j) * 8 ^ lv : Nat) : Int) ≤ m.p ∧ m.p + span m.s ≤ (((a + j + 1) * 8 ^ lv : Nat) : Int) := by
        intro hl e
        subst e
        have h2 := (rEn_leaf h hl).2.2
        rw [leaf_at h2, map_leaf h hl (by omega), Nat.mul_div_cancel _ hpow]
        simp only
        rw [span_pow h2]
        omega
      rcases ho with ⟨hon, ho⟩ | ⟨hon, hr, ho⟩
      · rw [ho] at hm
        by_cases hl : (rEn S t j lv).l = true
        · have hl' : (spt S t j lv a).e.l = true := hl
          simp [mapsOf, hl'] at hm
          exact leaf hl hm
        · have hl' : (spt S t j lv a).e.l = false := Bool.eq_false_iff.2 hl
          simp [mapsOf, hl'] at hm
      · rw [ho] at hm
        have hl' : (spt S t j lv a).e.l = false := by
          have : (rEn S t j lv).on = true := hon
          simp [En.on] at this
          exact this.2
        obtain ⟨b, rfl⟩ := rEn_on hon
        have hr2 : (thr S allW b (rEn S t j (b + 1)).f ((a + j) * 8)).2 = 0 := hr
        have hm2 : m ∈ mapsOf (thr S allW b (rEn S t j (b + 1)).f ((a + j) * 8)).1 := by simpa [mapsOf, hl', sub] using hm
        have := maps_range h b (by omega) (rEn S t j (b + 1)).f ((a + j) * 8) (by
          rw [show 4 - b = (4 - (b + 1)) + 1 by omega, Nat.pow_succ]
          omega) hr2 m hm2
        have e1 : (a + j) * 8 * 8 ^ b = (a + j) * 8 ^ (b + 1) := by rw [Nat.pow_succ, Nat.mul_assoc, Nat.mul_comm 8]
        have e2 : ((a + j) * 8 + 8) * 8 ^ b = (a + j + 1) * 8 ^ (b + 1) := by rw [show (a + j) * 8 + 8 = (a + j + 1) * 8 by omega, Nat.pow_succ, Nat.mul_assoc, Nat.mul_comm 8]
        rw [e1, e2] at this
        exact this
    rcases Nat.lt_or_gt_of_ne hne with hlt | hgt
    · have : (a + j + 1) * 8 ^ lv ≤ (a + k) * 8 ^ lv := Nat.mul_le_mul_right _ (by omega)
      omega
    · have : (a + k + 1) * 8 ^ lv ≤ (a + j) * 8 ^ lv := Nat.mul_le_mul_right _ (by omega)
      omega
  have hflt : (mapsOf (thr S allW lv t a).1).filter (fun m => m.has (q : Int)) = (mapsOf (out S allW lv (sub S allW lv) t a k).1).filter (fun m => m.has (q : Int)) := by
    rw [thr_eq, c2]
    have e : (mapsOf ((List.range' 0 8).flatMap fun j => (out S allW lv (sub S allW lv) t a j).1)).filter (fun m => m.has (q : Int)) = (List.range' 0 8).flatMap fun j => (mapsOf (out S allW lv (sub S allW lv) t a j).1).filter (fun m => m.has (q : Int)) := by
      simp only [mapsOf, List.flatMap_assoc, List.filter_flatMap]
    rw [e, flatMap_one _ k 8 0 (fun j _ h2 h3 => other j (by omega) h3), if_pos (by omega)]
  have htab : ∀ x, x ∈ tabsOf (out S allW lv (sub S allW lv) t a k).1 → x ∈ tabsOf (thr S allW lv t a).1 := by
    intro x hx
    rw [thr_eq, c2]
    simp only [tabsOf, List.mem_flatMap] at hx ⊢
    obtain ⟨s, hs, hx⟩ := hx
    exact ⟨s, ⟨k, by rw [List.mem_range'_1]; omega, hs⟩, hx⟩
  obtain ⟨hc, ho⟩ := out_all (c1 k (by omega) (by omega))
  have hw := thr_way S (q : Int) lv t a
  rw [hixk, if_neg (by simpa using hc)] at hw
  rcases ho with ⟨hon, ho⟩ | ⟨hon, hr, ho⟩
  · rw [if_pos hon] at hw
    rw [hw]
    refine ⟨rfl, fun s hs => ?_, spt S t k lv a, rfl, ?_⟩
    · simp at hs
      subst hs
      exact List.mem_cons_self
    · rw [hflt, ho]
      have hE : (spt S t k lv a).e = rEn S t k lv := rfl
      by_cases hl : (rEn S t k lv).l = true
      · obtain ⟨_, ht, h2⟩ := rEn_leaf h hl
        have hm : (spt S t k lv a).mp = (rEn S t k lv).map lv (q : Int) := by
          rw [leaf_at h2, map_leaf h hl (by omega), map_leaf h hl hq4, Nat.mul_div_cancel _ hpow, hk]
        have hmaps : mapsOf [spt S t k lv a] = [(rEn S t k lv).map lv (q : Int)] := by
          simp [mapsOf, hE, hl, hm]
        rw [hmaps, hE, if_pos ht]
        have hhas : ((rEn S t k lv).map lv (q : Int)).has (q : Int) = true := by
          rw [map_leaf h hl hq4, hk]
          simp only [Mp.has, over, Bool.and_eq_true, decide_eq_true_eq]
          rw [span_pow h2]
          rw [Nat.add_mul, Nat.one_mul] at hq2
          omega
        rw [List.filter_cons_of_pos (p := fun m : Mp => m.has (q : Int)) hhas]
        rfl
      · have hl' : (rEn S t k lv).l = false := by simpa using hl
        have ht : (rEn S t k lv).t = false := by
          simp [En.on, hl'] at hon
          exact hon
        simp [mapsOf, hE, hl', ht]
  · rw [if_neg (by simp [hon])] at hw
    have hl' : (spt S t k lv a).e.l = false := by
      have : (rEn S t k lv).on = true := hon
      simp [En.on] at this
      exact this.2
    obtain ⟨b, rfl⟩ := rEn_on hon
    have hr2 : (thr S allW b (rEn S t k (b + 1)).f ((a + k) * 8)).2 = 0 := hr
    have hdiv : q / 8 ^ b / 8 = a + k := by rw [Nat.div_div_eq_div_mul, ← Nat.pow_succ]; exact hk
    obtain ⟨i1, i2, s, i3, i4⟩ := IH b (by omega) (by omega) (rEn S t k (b + 1)).f ((a + k) * 8) (by omega) (by
      rw [show 4 - b = (4 - (b + 1)) + 1 by omega, Nat.pow_succ]
      omega) (by omega) (by omega) hr2
    have hsubw : sub S (onW (q : Int)) (b + 1) = thr S (onW (q : Int)) b := rfl
    rw [hsubw] at hw
    have hmo : mapsOf (out S allW (b + 1) (sub S allW (b + 1)) t a k).1 = mapsOf (thr S allW b (rEn S t k (b + 1)).f ((a + k) * 8)).1 := by
      rw [ho]; simp [mapsOf, hl', sub]
    have hon' : (spt S t k (b + 1) a).e.on = true := hon
    have hto : tabsOf (out S allW (b + 1) (sub S allW (b + 1)) t a k).1 = (rEn S t k (b + 1)).f :: tabsOf (thr S allW b (rEn S t k (b + 1)).f ((a + k) * 8)).1 := by
      rw [ho]; simp [tabsOf, hon', sub]; rfl
    rw [hw]
    refine ⟨i1, fun s' hs => ?_, s, ?_, ?_⟩
    · simp at hs
      rcases hs with rfl | hs
      · exact List.mem_cons_self
      · have := i2 s' hs
        rw [← hto] at this
        exact List.mem_cons_of_mem _ (htab _ this)
    · rw [List.getLast?_cons, i3]
      rfl
    · rw [hflt, hmo, i4]
end
end Pg
end Go.Proofs.Ytbkpndgadgafiac
