
/-
  Plain facts on numbers that the program's statements lean on: bits of small masks, wraps, spans of mappings.
-/
import Derived.WalkKit
namespace Go.Proofs.YtjdiaebgidgmaafGreat
open Go.RowKit

namespace Pg
/-- The three lowest bits of a number. -/
def r8 (x : Int) : Nat := (BitVec.ofInt 64 x).toNat % 8

theorem and_small (n m : Nat) (h : m < 8) : n &&& m = (n % 8) &&& m := by
  have h7 : m = 7 &&& m := by
    have : m = 0 ∨ m = 1 ∨ m = 2 ∨ m = 3 ∨ m = 4 ∨ m = 5 ∨ m = 6 ∨ m = 7 := by omega
    rcases this with h | h | h | h | h | h | h | h <;> subst h <;> decide
  have e : n &&& 7 = n % 8 := Nat.and_two_pow_sub_one_eq_mod n 3
  rw [← e, Nat.and_assoc, ← h7]

theorem ofInt_small (y : Nat) (h : y < 8) : (BitVec.ofInt 64 (y : Int)).toNat = y := by
  rw [BitVec.toNat_ofInt]; omega

theorem wrap_i64_small (n : Nat) (h : n < 8) : IntKind.i64.wrap (n : Int) = n := by
  simp [IntKind.wrap, IntKind.bits, IntKind.signed]; omega

theorem and_lt8 (a m : Nat) (h : m < 8) : a &&& m < 8 := Nat.lt_of_le_of_lt Nat.and_le_right h

theorem band_small (x : Int) (m : Nat) (h : m < 8) : bits .and .i64 x (m : Int) = ((r8 x &&& m : Nat) : Int) := by
  unfold bits r8
  show IntKind.i64.wrap ((BitVec.ofInt 64 x &&& BitVec.ofInt 64 (m : Int)).toNat : Int) = _
  rw [BitVec.toNat_and, ofInt_small m h, and_small _ m h]
  exact wrap_i64_small _ (and_lt8 _ m h)

theorem u64_of_wrap64 (n : Int) (h0 : 0 ≤ n) (h1 : n < 18446744073709551616) : IntKind.u64.wrap (wrap64 n) = n := by
  simp only [IntKind.wrap, IntKind.bits, IntKind.signed, wrap64, Bool.false_and, Bool.false_eq_true, if_false]
  omega

def below (n e : Int) : Bool := decide (0 ≤ n) && decide (n < e)
def span (s : Int) : Int := if s = 0 then 1 else if s = 1 then 8 else if s = 2 then 64 else 0
def isKind (k : Int) : Bool := k == 0 || k == 1 || k == 2
def check (p s f r : Int) : Int :=
  if span s = 0 then 2
  else if (!below p 4096 || !below f 1048576 || !below r 8) = true then 1
  else if p % span s = 0 ∧ f % span s = 0 then 0 else 3
def over (mp ms p : Int) : Bool := decide (mp ≤ p) && decide (p - mp < span ms)
def meet (ap az bp bz : Int) : Bool := over ap az bp || over bp bz ap
def asks (k : Int) (u : Bool) : Nat := (if k = 1 then 1 else if k = 2 then 4 else 0) + (if u then 2 else 0)
def may (r k : Int) (u : Bool) : Bool := (r8 r &&& asks k u) == asks k u
def checkAccess (p k : Int) : Int := if isKind k = true then (if below p 4096 = true then 0 else 1) else 2
def index (p l : Int) : Int := if (below p 4096 && below l 4) = true then p / 8 ^ l.toNat % 8 else -1
def aEnd (r k : Int) (u : Bool) : Int := if may r k u = true then 0 else 2
def aFrame (p f r q k : Int) (u : Bool) : Int := if may r k u = true then wrap64 (f + wrap64 (q - p)) else 0
def aRights (r k : Int) (u : Bool) : Int := if may r k u = true then r else 0
def fits (n : Int) : Prop := -9223372036854775808 ≤ n ∧ n ≤ 9223372036854775807

theorem asks_lt (k : Int) (u : Bool) : asks k u < 8 := by
  unfold asks; repeat (any_goals split)
  all_goals omega

theorem span_cases (s : Int) : (s = 0 ∧ span s = 1) ∨ (s = 1 ∧ span s = 8) ∨ (s = 2 ∧ span s = 64) ∨ (s ≠ 0 ∧ s ≠ 1 ∧ s ≠ 2 ∧ span s = 0) := by
  unfold span; split <;> (try split) <;> (try split) <;> omega
theorem span_bd (s : Int) : 0 ≤ span s ∧ span s ≤ 64 := by
  rcases span_cases s with h | h | h | h <;> omega

theorem fits_wf {n : Int} (h : (Lit.int .i64 n).wf = true) : fits n := by
  simp only [Lit.wf, IntKind.min, IntKind.max, IntKind.signed, IntKind.bits, Bool.and_eq_true, decide_eq_true_eq, if_true] at h
  unfold fits; omega

theorem over_no {p s q : Int} (h : decide (p ≤ q) = false) : over p s q = false := by simp [over, h]
theorem over_yes {p s q : Int} (hp : fits p) (hq : fits q) (h : p ≤ q) : decide (IntKind.u64.wrap (wrap64 (q - p)) < span s) = over p s q := by
  unfold fits at hp hq
  rw [u64_of_wrap64 _ (by omega) (by omega)]
  simp [over, h]

theorem may_eq (r k : Int) (u : Bool) : (bits .and .i64 r (asks k u : Int) == (asks k u : Int)) = may r k u := by
  rw [band_small r _ (asks_lt k u)]
  unfold may
  rw [Bool.eq_iff_iff]
  simp only [beq_iff_eq]
  exact Int.ofNat_inj

theorem check_kind {p s f r : Int} (h : span s = 0) : check p s f r = 2 := by simp [check, h]
theorem check_range {p s f r : Int} (h : span s ≠ 0) (hb : (!below p 4096 || !below f 1048576 || !below r 8) = true) : check p s f r = 1 := by
  simp only [check, h, if_false, hb, if_true]
theorem check_align {p s f r : Int} (h : span s ≠ 0) (h1 : below p 4096 = true) (h2 : below f 1048576 = true) (h3 : below r 8 = true) :
    check p s f r = if p % span s = 0 ∧ f % span s = 0 then 0 else 3 := by
  simp [check, h, h1, h2, h3]
theorem below_iff {n e : Int} : below n e = true ↔ 0 ≤ n ∧ n < e := by simp [below]
theorem check_zero {p s f r : Int} (h : check p s f r = 0) : span s ≠ 0 ∧ 0 ≤ p ∧ p < 4096 ∧ 0 ≤ f ∧ f < 1048576 ∧ 0 ≤ r ∧ r < 8 ∧ p % span s = 0 ∧ f % span s = 0 := by
  unfold check at h
  split at h
  · omega
  · split at h
    · omega
    · split at h
      · rename_i h1 h2 h3
        simp [below] at h2
        refine ⟨h1, ?_⟩
        obtain ⟨h3a, h3b⟩ := h3
        omega
      · omega
def sameUpto (p q : Int) : Nat → Bool
  | 0 => true
  | k + 1 => sameUpto p q k && (index p (k : Int) == index q (k : Int))
def cnt (np ns mp : Int) : Nat → Int
  | 0 => 0
  | j + 1 => cnt np ns mp j + (if over np ns (mp + (j : Int)) = true then 1 else 0)
theorem cnt_eq (np ns mp : Int) (j : Nat) : cnt np ns mp j = max 0 (min (mp + j) (np + span ns) - max mp np) := by
  have hs := (span_bd ns).1
  induction j with
  | zero => simp only [cnt]; omega
  | succ j ih =>
    simp only [cnt, ih]
    have e : (over np ns (mp + (j : Int)) = true) ↔ (np ≤ mp + j ∧ mp + j - np < span ns) := by simp [over]
    by_cases h : np ≤ mp + (j : Int) ∧ mp + (j : Int) - np < span ns
    · rw [if_pos (e.2 h)]; omega
    · rw [if_neg (fun x => h (e.1 x))]; omega
theorem meet_eq (a s b t : Int) : meet a s b t = decide ((a ≤ b ∧ b - a < span s) ∨ (b ≤ a ∧ a - b < span t)) := by
  rw [Bool.eq_iff_iff]; simp [meet, over]
theorem meets {mp ms mf mr np ns nf nr : Int} (h : check mp ms mf mr = 0) (h' : check np ns nf nr = 0) :
    (cnt np ns mp (span ms).toNat = 0 ∧ meet mp ms np ns = false ∧ meet np ns mp ms = false) ∨
    (0 < cnt np ns mp (span ms).toNat ∧ cnt np ns mp (span ms).toNat = min (span ms) (span ns) ∧ meet mp ms np ns = true ∧ meet np ns mp ms = true) := by
  obtain ⟨z0, z1, z2, _, _, _, _, z3, _⟩ := check_zero h
  obtain ⟨y0, y1, y2, _, _, _, _, y3, _⟩ := check_zero h'
  rw [cnt_eq, meet_eq, meet_eq]
  simp only [decide_eq_false_iff_not, decide_eq_true_eq]
  rcases span_cases ms with ⟨_, hv⟩ | ⟨_, hv⟩ | ⟨_, hv⟩ | ⟨_, _, _, hv⟩ <;> rcases span_cases ns with ⟨_, hw⟩ | ⟨_, hw⟩ | ⟨_, hw⟩ | ⟨_, _, _, hw⟩
  all_goals
    rw [hv] at z0 z3
    rw [hw] at y0 y3
    rw [hv, hw]
    omega
theorem below_not {n e : Int} : below n e = false ↔ n < 0 ∨ e ≤ n := by simp [below]; omega
end Pg
end Go.Proofs.YtjdiaebgidgmaafGreat
