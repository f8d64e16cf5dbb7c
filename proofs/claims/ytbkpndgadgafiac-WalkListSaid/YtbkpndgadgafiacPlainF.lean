
/-
  What '&', '&^' and '|' make of a word of 64 bits, in numbers.
-/
import Derived.Test.YtbkpndgadgafiacPlainE
namespace Go.Proofs.Ytbkpndgadgafiac
open Go.RowKit
namespace Pg
theorem and_mask (W k n : Nat) : W &&& ((2 ^ n - 1) * 2 ^ k) = (W / 2 ^ k % 2 ^ n) * 2 ^ k := by
  apply Nat.eq_of_testBit_eq
  intro i
  rw [Nat.testBit_and, Nat.testBit_mul_two_pow, Nat.testBit_mul_two_pow, Nat.testBit_two_pow_sub_one, Nat.testBit_mod_two_pow, Nat.testBit_div_two_pow]
  by_cases h : k ≤ i
  · have e : i - k + k = i := by omega
    simp [h, e, Bool.and_comm]
  · simp [h]

theorem and_at (W : Int) (h0 : 0 ≤ W) (h1 : W < 18446744073709551616) (k n m : Nat) (hm : (2 ^ n - 1) * 2 ^ k = m) (hb : m < 18446744073709551616) :
    bits .and .u64 W (m : Int) = (W / 2 ^ k % 2 ^ n) * 2 ^ k := by
  obtain ⟨v, rfl⟩ := Int.eq_ofNat_of_zero_le h0
  rw [u64_and_nat v m (by omega) hb, ← hm, and_mask]
  simp

theorem and1 (W : Int) (h0 : 0 ≤ W) (h1 : W < 18446744073709551616) : bits .and .u64 W 1 = W % 2 := by
  have := and_at W h0 h1 0 1 1 rfl (by decide); simpa using this
theorem and32 (W : Int) (h0 : 0 ≤ W) (h1 : W < 18446744073709551616) : bits .and .u64 W 32 = W / 32 % 2 * 32 := by
  have := and_at W h0 h1 5 1 32 rfl (by decide); simpa using this
theorem and64 (W : Int) (h0 : 0 ≤ W) (h1 : W < 18446744073709551616) : bits .and .u64 W 64 = W / 64 % 2 * 64 := by
  have := and_at W h0 h1 6 1 64 rfl (by decide); simpa using this
theorem and128 (W : Int) (h0 : 0 ≤ W) (h1 : W < 18446744073709551616) : bits .and .u64 W 128 = W / 128 % 2 * 128 := by
  have := and_at W h0 h1 7 1 128 rfl (by decide); simpa using this
theorem and14 (W : Int) (h0 : 0 ≤ W) (h1 : W < 18446744073709551616) : bits .and .u64 W 14 = W / 2 % 8 * 2 := by
  have := and_at W h0 h1 1 3 14 rfl (by decide); simpa using this
theorem andF (W : Int) (h0 : 0 ≤ W) (h1 : W < 18446744073709551616) : bits .and .u64 W 4294963200 = W / 4096 % 1048576 * 4096 := by
  have := and_at W h0 h1 12 20 4294963200 rfl (by decide); simpa using this

theorem known_not (W : Int) (h0 : 0 ≤ W) (h1 : W < 18446744073709551616) : bits .andNot .u64 W 4294963439 = 0 ↔ W / 16 % 2 = 0 ∧ W / 256 % 16 = 0 ∧ W < 4294967296 := by
  obtain ⟨v, rfl⟩ := Int.eq_ofNat_of_zero_le h0
  have e0 : (4294963439 : Int) = ((4294963439 : Nat) : Int) := rfl
  have e1 : (18446744073709551615 - 4294963439 : Nat) = ((2 ^ 1 - 1) * 2 ^ 4 ||| (2 ^ 4 - 1) * 2 ^ 8) ||| (2 ^ 32 - 1) * 2 ^ 32 := by decide
  rw [e0, u64_andNot_nat v _ (by omega) (by decide), e1, Nat.and_or_distrib_left, Nat.and_or_distrib_left, and_mask, and_mask, and_mask]
  have : ((((v / 2 ^ 4 % 2 ^ 1 * 2 ^ 4 ||| v / 2 ^ 8 % 2 ^ 4 * 2 ^ 8) ||| v / 2 ^ 32 % 2 ^ 32 * 2 ^ 32 : Nat) : Int) = 0) ↔ (v / 2 ^ 4 % 2 ^ 1 * 2 ^ 4 = 0 ∧ v / 2 ^ 8 % 2 ^ 4 * 2 ^ 8 = 0) ∧ v / 2 ^ 32 % 2 ^ 32 * 2 ^ 32 = 0 := by
    rw [Int.natCast_eq_zero, Nat.or_eq_zero_iff, Nat.or_eq_zero_iff]
  rw [this]
  omega

/-- A word is none of a level by one of three looks. -/
theorem wBad_eq (W lv : Int) (h0 : 0 ≤ W) (h1 : W < 18446744073709551616) :
    wBad W lv = (bits .andNot .u64 W 4294963439 != 0 || ((bits .and .u64 W 1 == 0) && (W != 0)) || ((bits .and .u64 W 128 != 0) && (lv == 0))) := by
  rw [and1 W h0 h1, and128 W h0 h1, Bool.eq_iff_iff]
  have hk := known_not W h0 h1
  simp only [wBad, decide_eq_true_eq, Bool.or_eq_true, Bool.and_eq_true, bne_iff_ne, ne_eq, beq_iff_eq]
  rw [hk]
  omega

theorem or_low (F x y : Nat) (hx : x < 4096) (hy : y < 4096) : (4096 * F + x) ||| y = 4096 * F + (x ||| y) := by
  have e1 : 2 ^ 12 * F + x = 2 ^ 12 * F ||| x := Nat.two_pow_add_eq_or_of_lt hx F
  have e2 : 2 ^ 12 * F + (x ||| y) = 2 ^ 12 * F ||| (x ||| y) := Nat.two_pow_add_eq_or_of_lt (Nat.or_lt_two_pow (n := 12) hx hy) F
  show (2 ^ 12 * F + x) ||| y = 2 ^ 12 * F + (x ||| y)
  rw [e1, e2, Nat.or_assoc]

theorem or_bit (f x : Int) (f0 : 0 ≤ f) (f1 : f < 1048576) (x0 : 0 ≤ x) (x1 : x < 4096) (y z : Nat) (hy : y < 4096) (hz : x.toNat ||| y = z) :
    bits .or .u64 (f * 4096 + x) (y : Int) = f * 4096 + z := by
  obtain ⟨F, rfl⟩ := Int.eq_ofNat_of_zero_le f0
  obtain ⟨X, rfl⟩ := Int.eq_ofNat_of_zero_le x0
  have e : ((F : Int) * 4096 + (X : Int)) = ((4096 * F + X : Nat) : Int) := by omega
  rw [e, u64_or_nat _ y (by omega) (by omega), or_low F X y (by omega) hy]
  rw [Int.toNat_natCast] at hz
  rw [hz]
  omega

theorem or_frame (f x : Int) (f0 : 0 ≤ f) (f1 : f < 1048576) (x0 : 0 ≤ x) (x1 : x < 4096) : bits .or .u64 x (f * 4096) = f * 4096 + x := by
  obtain ⟨F, rfl⟩ := Int.eq_ofNat_of_zero_le f0
  obtain ⟨X, rfl⟩ := Int.eq_ofNat_of_zero_le x0
  have e : ((F : Int) * 4096) = ((4096 * F : Nat) : Int) := by omega
  have e1 : 2 ^ 12 * F + X = 2 ^ 12 * F ||| X := Nat.two_pow_add_eq_or_of_lt (by omega) F
  rw [e, u64_or_nat X _ (by omega) (by omega), Nat.or_comm]
  have : (4096 * F ||| X) = 4096 * F + X := e1.symm
  rw [this]
  omega

/-- The word that 'written' makes, bit by bit. -/
theorem word_or (r f : Int) (r0 : 0 ≤ r) (r1 : r ≤ 7) (f0 : 0 ≤ f) (f1 : f < 1048576) :
    bits .or .u64 (bits .or .u64 1 (r * 2)) (f * 4096) = f * 4096 + (r * 2 + 1) ∧
    bits .or .u64 (f * 4096 + (r * 2 + 1)) 32 = f * 4096 + (r * 2 + 33) ∧ bits .or .u64 (f * 4096 + (r * 2 + 1)) 64 = f * 4096 + (r * 2 + 65) ∧ bits .or .u64 (f * 4096 + (r * 2 + 33)) 64 = f * 4096 + (r * 2 + 97) ∧
    bits .or .u64 (f * 4096 + (r * 2 + 1)) 128 = f * 4096 + (r * 2 + 129) ∧ bits .or .u64 (f * 4096 + (r * 2 + 33)) 128 = f * 4096 + (r * 2 + 161) ∧ bits .or .u64 (f * 4096 + (r * 2 + 65)) 128 = f * 4096 + (r * 2 + 193) ∧ bits .or .u64 (f * 4096 + (r * 2 + 97)) 128 = f * 4096 + (r * 2 + 225) := by
  have hr : r = 0 ∨ r = 1 ∨ r = 2 ∨ r = 3 ∨ r = 4 ∨ r = 5 ∨ r = 6 ∨ r = 7 := by omega
  rcases hr with rfl | rfl | rfl | rfl | rfl | rfl | rfl | rfl
  all_goals
    refine ⟨?_, ?_, ?_, ?_, ?_, ?_, ?_, ?_⟩
    · exact or_frame f _ f0 f1 (by decide) (by decide)
    · exact or_bit f _ f0 f1 (by decide) (by decide) 32 _ (by decide) rfl
    · exact or_bit f _ f0 f1 (by decide) (by decide) 64 _ (by decide) rfl
    · exact or_bit f _ f0 f1 (by decide) (by decide) 64 _ (by decide) rfl
    · exact or_bit f _ f0 f1 (by decide) (by decide) 128 _ (by decide) rfl
    · exact or_bit f _ f0 f1 (by decide) (by decide) 128 _ (by decide) rfl
    · exact or_bit f _ f0 f1 (by decide) (by decide) 128 _ (by decide) rfl
    · exact or_bit f _ f0 f1 (by decide) (by decide) 128 _ (by decide) rfl

/-- The ranges of an entry, by a mapping of one page. -/
theorem check_small (f r : Int) : check 0 0 f r = if r < 0 ∨ 7 < r ∨ f < 0 ∨ 1048576 ≤ f then 1 else 0 := by
  have hs : span 0 = 1 := rfl
  split
  · rename_i h
    refine check_range (by decide) ?_
    simp only [below, Bool.or_eq_true, Bool.not_eq_true', Bool.and_eq_false_iff, decide_eq_false_iff_not]
    omega
  · rename_i h
    rw [check_align (by decide) (below_iff.2 (by omega)) (below_iff.2 (by omega)) (below_iff.2 (by omega)), hs]
    simp
/-- The frame of a leaf whose ranges are right. -/
theorem check_leaf {f r lv : Int} (h : ¬ (r < 0 ∨ 7 < r ∨ f < 0 ∨ 1048576 ≤ f)) (l0 : 0 ≤ lv) (l2 : lv ≤ 2) : check 0 lv f r = if f % span lv = 0 then 0 else 3 := by
  have hs := span_cases lv
  rw [check_align (by omega) (below_iff.2 (by omega)) (below_iff.2 (by omega)) (below_iff.2 (by omega))]
  simp
end Pg
end Go.Proofs.Ytbkpndgadgafiac
