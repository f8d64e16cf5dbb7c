/-
  A statement whose order is open, by stages: operations that only read or call what lays new memory, in any order; then some that come one behind the other, for they wait, be it by others, for all ahead; then again: what holds of the one lexical walk holds of every order. No program is named here.
-/
import Derived.Test.YtbkpndgadgafiaeLoose
namespace Go.Proofs.Ytbkpndgadgafiae.Loose
open Go.RowKit Go.Sort

/-- Does the operation t wait for i, or for one that does? -/
def reachB (ops : Array Oper) : Nat → Nat → Nat → Bool
  | 0, t, i => Region.waitsFor .any ops t i
  | f + 1, t, i => Region.waitsFor .any ops t i || (List.range ops.size).any fun m => Region.waitsFor .any ops t m && reachB ops f m i
def pairS (ops : Array Oper) (s N : Nat) : Bool := (List.range N).all fun j => (List.range j).all fun i =>
  decide (i < s) || (Region.waitsFor .any ops j i || (match ops[i]?, ops[j]? with | some oi, some oj => oi.apart ops oj | _, _ => false))
def tailS (ops : Array Oper) (s N : Nat) : Bool := (List.range ops.size).all fun t => decide (t < N) || (List.range N).all fun i => decide (i < s) || reachB ops N t i
/-- From s to N all may come in any order, and all behind N wait for them. -/
def stageB (ops : Array Oper) (s N : Nat) : Bool := decide (s ≤ N) && decide (N ≤ ops.size) && Region.noSelect ops && pairS ops s N && backB ops N && tailS ops s N

/-- What is listed has what it waits for listed. -/
def Closed (ops : Array Oper) (listed : Array Bool) : Prop := ∀ j o, ops[j]? = some o → listed.getD j false = true → ∀ e ∈ o.after, Region.binds .any e = true → listed.getD e.on false = true

theorem reach_listed {ops : Array Oper} {listed : Array Bool} (hc : Closed ops listed) : ∀ (f t i : Nat) (o : Oper), ops[t]? = some o → (∀ e ∈ o.after, Region.binds .any e = true → listed.getD e.on false = true) → reachB ops f t i = true → listed.getD i false = true
  | 0, t, i, o, ho, h, hr => by
    obtain ⟨o', ho', e, he, hb, hon⟩ := Region.waitsFor_spec hr
    rw [ho] at ho'
    cases ho'
    rw [← hon]
    exact h e he hb
  | f + 1, t, i, o, ho, h, hr => by
    simp only [reachB, Bool.or_eq_true, List.any_eq_true, List.mem_range, Bool.and_eq_true] at hr
    rcases hr with hr | ⟨m, hm, h1, h2⟩
    · obtain ⟨o', ho', e, he, hb, hon⟩ := Region.waitsFor_spec hr
      rw [ho] at ho'
      cases ho'
      rw [← hon]
      exact h e he hb
    · obtain ⟨o', ho', e, he, hb, hon⟩ := Region.waitsFor_spec h1
      rw [ho] at ho'
      cases ho'
      have hl : listed.getD m false = true := by rw [← hon]; exact h e he hb
      have hom : ops[m]? = some ops[m] := by simp [hm]
      exact reach_listed hc f m i _ hom (hc m _ hom hl) h2

section
variable {P : Program} {ops : Array Oper} {w0 : World} {s N : Nat} {Q : Exit → Act → World → Prop}

structure OkS (ops : Array Oper) (s N : Nat) : Prop where
  le : s ≤ N
  size : N ≤ ops.size
  sel : ∀ (j : Nat) (o : Oper) cs b, ops[j]? = some o → o.op ≠ .select cs b
  pair : ∀ i j oi oj, s ≤ i → i < j → j < N → ops[i]? = some oi → ops[j]? = some oj → (∀ e ∈ oj.after, Region.binds .any e = true → e.on ≠ i) → oi.apart ops oj = true
  back : ∀ j o, j < N → ops[j]? = some o → ∀ e ∈ o.after, Region.binds .any e = true → e.on < j
  tail : ∀ t, N ≤ t → t < ops.size → ∀ i, s ≤ i → i < N → reachB ops N t i = true

theorem okS_of (hB : stageB ops s N = true) : OkS ops s N := by
  simp only [stageB, Bool.and_eq_true, decide_eq_true_eq] at hB
  obtain ⟨⟨⟨⟨⟨hs, hN⟩, hsel⟩, hpair⟩, hback⟩, htail⟩ := hB
  refine ⟨hs, hN, fun j o cs b hj => Region.noSelect_spec hsel j o cs b hj, ?_, ?_, ?_⟩
  · intro i j oi oj hsi hij hj hi hj' hno
    simp only [pairS, List.all_eq_true, List.mem_range] at hpair
    have := hpair j hj i hij
    simp only [hi, hj', Bool.or_eq_true, decide_eq_true_eq] at this
    rcases this with h | h | h
    · omega
    · obtain ⟨oj', ho, e, he, hb, hon⟩ := Region.waitsFor_spec h
      rw [hj'] at ho
      cases ho
      exact absurd hon (hno e he hb)
    · exact h
  · intro j o hj ho e he hb
    simp only [backB, List.all_eq_true, List.mem_range] at hback
    have := hback j hj
    simp only [ho, Array.all_eq_true'] at this
    have := this e he
    simpa [hb] using this
  · intro t ht hts i hsi hi
    simp only [tailS, List.all_eq_true, List.mem_range] at htail
    have := htail t hts
    simp only [Bool.or_eq_true, decide_eq_true_eq, List.all_eq_true, List.mem_range] at this
    rcases this with h | h
    · omega
    · rcases h i hi with h | h
      · omega
      · exact h

theorem every_stage (K : OkS ops s N) :
    ∀ (k : Nat) (listed : Array Bool) (a : Act) (w : World), (rst N listed).length = k → listed.size = ops.size →
      (∀ t, N ≤ t → t < ops.size → listed.getD t true = false) → (∀ t, t < s → listed.getD t true = true) → Closed ops listed → G w0 w →
      LexL P ops w0 N (fun _ _ _ => True) (fun a w => wpAny P .any ops Q (ops.size - N) (doneUpto N (ops.size - N)) a w) (rst N listed) a (fun _ => True) →
      wpAny P .any ops Q (k + (ops.size - N)) listed a w := by
  intro k
  induction k with
  | zero =>
    intro listed a w hk hs ht hst hc hw h
    have hr : rst N listed = [] := List.length_eq_zero_iff.1 hk
    rw [hr] at h
    have hl : listed = doneUpto N (ops.size - N) := by
      apply Array.ext
      · simp [doneUpto, hs]; have := K.size; omega
      · intro i h1 h2
        by_cases hi : i < N
        · have : i ∉ rst N listed := by rw [hr]; simp
          have : listed.getD i true = true := by
            cases hg : listed.getD i true
            · exact absurd (mem_rst.2 ⟨hi, hg⟩) this
            · rfl
          simp only [Array.getD, h1, dite_true] at this
          rw [show (doneUpto N (ops.size - N))[i] = true from by simp [doneUpto, hi]]
          exact this
        · have := ht i (by omega) (by omega)
          simp only [Array.getD, h1, dite_true] at this
          rw [show (doneUpto N (ops.size - N))[i] = false from by simp [doneUpto, Array.getElem_append, hi]]
          exact this
    rw [Nat.zero_add, hl]
    exact h w hw trivial
  | succ k ih =>
    intro listed a w hk hs ht hst hc hw h
    have hne : rst N listed ≠ [] := by intro e; rw [e] at hk; cases hk
    have e : k + 1 + (ops.size - N) = (k + (ops.size - N)) + 1 := by omega
    rw [e]
    refine ⟨fun hr => ?_, fun i hi => ?_⟩
    · exfalso
      obtain ⟨i0, r, hr0⟩ := List.exists_cons_of_ne_nil hne
      have hm : i0 ∈ rst N listed := by rw [hr0]; simp
      obtain ⟨hi0, hu0⟩ := mem_rst.1 hm
      have hlt : i0 < ops.size := by have := K.size; omega
      have : i0 ∈ Region.ready .any ops listed := by
        refine mem_ready.2 ⟨hu0, ops[i0], by simp [hlt], fun e he hb => ?_⟩
        have hon := K.back i0 ops[i0] hi0 (by simp [hlt]) e he hb
        have : e.on ∉ rst N listed := by
          rw [hr0]
          intro hmem
          rcases List.mem_cons.1 hmem with h | h
          · omega
          · have hp := rst_pair N listed
            rw [hr0] at hp
            have := (List.pairwise_cons.1 hp).1 _ h
            omega
        have h1 : listed.getD e.on true = true := by
          cases hg : listed.getD e.on true
          · exact absurd (mem_rst.2 ⟨by omega, hg⟩) this
          · rfl
        have hes : e.on < listed.size := by omega
        simp only [Array.getD, hes, dite_true] at h1 ⊢
        exact h1
      rw [hr] at this
      cases this
    · obtain ⟨hu, o, ho, hall⟩ := mem_ready.1 hi
      have his : i < ops.size := (Array.getElem?_eq_some_iff.1 ho).1
      have hiN : i < N := by
        rcases Nat.lt_or_ge i N with h' | h'
        · exact h'
        · exfalso
          obtain ⟨i0, r, hr0⟩ := List.exists_cons_of_ne_nil hne
          have hm : i0 ∈ rst N listed := by rw [hr0]; simp
          obtain ⟨hi0, hu0⟩ := mem_rst.1 hm
          have hsi : s ≤ i0 := by
            rcases Nat.lt_or_ge i0 s with h'' | h''
            · rw [hst i0 h''] at hu0; cases hu0
            · exact h''
          have h1 := reach_listed hc N i i0 o ho hall (K.tail i h' his i0 hsi hi0)
          have hes : i0 < listed.size := by have := K.size; omega
          simp only [Array.getD, hes, dite_true] at h1 hu0
          rw [hu0] at h1
          cases h1
      have him : i ∈ rst N listed := mem_rst.2 ⟨hiN, hu⟩
      have hapart : ∀ i' oi', i' ∈ rst N listed → i' < i → ops[i']? = some oi' → oi'.apart ops o = true := by
        intro i' oi' hm' hlt ho'
        have h2 := (mem_rst.1 hm').2
        have hsi : s ≤ i' := by
          rcases Nat.lt_or_ge i' s with h'' | h''
          · rw [hst i' h''] at h2; cases h2
          · exact h''
        refine K.pair i' i oi' o hsi hlt hiN ho' ho (fun e he hb hon => ?_)
        have h1 := hall e he hb
        rw [hon] at h1
        have hes : i' < listed.size := by have := K.size; omega
        simp only [Array.getD, hes, dite_true] at h1 h2
        rw [h2] at h1
        cases h1
      have hlen : (rst N (listed.setIfInBounds i true)).length = k := by
        rw [rst_set him, List.length_erase_of_mem him, hk]; rfl
      have hsz : (listed.setIfInBounds i true).size = ops.size := by simpa using hs
      have htl : ∀ t, N ≤ t → t < ops.size → (listed.setIfInBounds i true).getD t true = false := by
        intro t h1 h2
        rw [getD_set_ne true (by omega : ¬ i = t)]
        exact ht t h1 h2
      have hst' : ∀ t, t < s → (listed.setIfInBounds i true).getD t true = true := by
        intro t h1
        by_cases e : i = t
        · subst e
          simp [Array.getD]
        · rw [getD_set_ne true e]
          exact hst t h1
      have hmono : ∀ x, listed.getD x false = true → (listed.setIfInBounds i true).getD x false = true := by
        intro x hx
        by_cases e : i = x
        · subst e
          have : i < listed.size := by omega
          simp [Array.getD, this]
        · rw [getD_set_ne false e]
          exact hx
      have hc' : Closed ops (listed.setIfInBounds i true) := by
        intro j oj hj hl e he hb
        by_cases e' : i = j
        · subst e'
          rw [ho] at hj
          cases hj
          exact hmono _ (hall e he hb)
        · rw [getD_set_ne false e'] at hl
          exact hmono _ (hc j oj hj hl e he hb)
      unfold wpOp
      simp only [ho]
      obtain ⟨v, hy, hL⟩ := step_quiet K.sel ho hiN (rst_pair N listed) him hapart h
      rw [← rst_set him] at hL
      rcases hy with ⟨hwant, hq⟩ | ⟨hwant, rfl⟩
      · rw [if_pos hwant]
        left
        exact wp_of_quietAt (hq w hw) G.rfl (fun w' hg => ih _ _ w' hlen hsz htl hst' hc' (hw.trans hg) hL)
      · rw [if_neg (by rw [hwant]; exact Bool.false_ne_true)]
        exact ih _ _ w hlen hsz htl hst' hc' hw hL

/-- A stage of quiet operations. -/
theorem wp_stage {a : Act} {w : World} {l : List Oper} (s N : Nat) (hB : stageB l.toArray s N = true) (hG : G w0 w)
    (h : wpGent P l.toArray w0 (fun a' => ∀ w', Below w0.heap.size w0 w' → wpAny P .any l.toArray Q (l.toArray.size - N) (doneUpto N (l.toArray.size - N)) a' w') ((l.take N).drop s) a) :
    wpAny P .any l.toArray Q (l.toArray.size - s) (doneUpto s (l.toArray.size - s)) a w := by
  have K := okS_of hB
  have hsz := K.size
  have hle := K.le
  have hlen : l.toArray.size = l.length := by simp
  have hr : rst N (doneUpto s (l.toArray.size - s)) = List.range' s (N - s) := by
    have hrng : List.range N = List.range s ++ List.range' s (N - s) := by
      have h := List.range'_append_1 (s := 0) (m := s) (n := N - s)
      rw [Nat.zero_add, show s + (N - s) = N by omega] at h
      rw [List.range_eq_range', List.range_eq_range', h]
    unfold rst
    rw [hrng, List.filter_append]
    have h1 : (List.range s).filter (fun i => !(doneUpto s (l.toArray.size - s)).getD i true) = [] := by
      rw [List.filter_eq_nil_iff]
      intro i hi
      have hi := List.mem_range.1 hi
      have : i < (doneUpto s (l.toArray.size - s)).size := by simp [doneUpto]; omega
      simp only [Array.getD, this, dite_true]
      rw [show (doneUpto s (l.toArray.size - s)).getInternal i this = true from by simp [doneUpto, hi]]
      decide
    have h2 : (List.range' s (N - s)).filter (fun i => !(doneUpto s (l.toArray.size - s)).getD i true) = List.range' s (N - s) := by
      rw [List.filter_eq_self]
      intro i hi
      have hi := List.mem_range'_1.1 hi
      have : i < (doneUpto s (l.toArray.size - s)).size := by simp [doneUpto]; omega
      simp only [Array.getD, this, dite_true]
      rw [show (doneUpto s (l.toArray.size - s)).getInternal i this = false from by simp [doneUpto, Array.getElem_append]; omega]
      decide
    rw [h1, h2, List.nil_append]
  have hk : (rst N (doneUpto s (l.toArray.size - s))).length = N - s := by rw [hr]; simp
  have := every_stage (P := P) (w0 := w0) (Q := Q) K (N - s) (doneUpto s (l.toArray.size - s)) a w hk (by simp [doneUpto]; omega) ?_ ?_ ?_ hG ?_
  · rwa [show N - s + (l.toArray.size - N) = l.toArray.size - s by omega] at this
  · intro t h1 h2
    have : t < (doneUpto s (l.toArray.size - s)).size := by simp [doneUpto]; omega
    simp only [Array.getD, this, dite_true]
    simp [doneUpto, Array.getElem_append]
    omega
  · intro t h1
    have : t < (doneUpto s (l.toArray.size - s)).size := by simp [doneUpto]; omega
    simp only [Array.getD, this, dite_true]
    simp [doneUpto, h1]
  · intro j o ho hl e he hb
    have hj : j < s := by
      rcases Nat.lt_or_ge j s with h' | h'
      · exact h'
      · exfalso
        by_cases hjs : j < (doneUpto s (l.toArray.size - s)).size
        · simp only [Array.getD, hjs, dite_true] at hl
          simp [doneUpto, Array.getElem_append] at hl
          omega
        · rw [Array.getD, dif_neg hjs] at hl
          cases hl
    have hon := K.back j o (by omega) ho e he hb
    have : e.on < (doneUpto s (l.toArray.size - s)).size := by simp [doneUpto]; omega
    simp only [Array.getD, this, dite_true]
    simp [doneUpto, show e.on < s by omega]
  · rw [hr]
    have hl2 : ((l.take N).drop s).length = N - s := by rw [List.length_drop, List.length_take, Nat.min_eq_left (by omega)]
    have hrr : List.range' s (N - s) = List.range' s ((l.take N).drop s).length ++ [] := by rw [hl2, List.append_nil]
    rw [hrr]
    refine lexL_of_gent (late := []) ?_ ((l.take N).drop s) s a ?_ (by rw [hl2]; omega) h
    · intro a' hk w' hw' _
      exact hk w' hw'
    · intro j o' hj
      rw [List.getElem?_drop, List.getElem?_take] at hj
      split at hj
      · simpa using hj
      · cases hj

theorem wp_then {o : Oper} {a : Act} {w : World} {K : Act → World → Prop} {X : Act → World → Prop} (h : o.wp P a w K (Exit.then X Q)) : o.wp P a w K Q := by
  unfold Oper.wp at *
  generalize (execOp a.eval o).run P w = r at *
  cases r with
  | ok n w' =>
    cases n <;> simp only [Oper.upon] at h ⊢ <;>
      first
        | exact h
        | exact Calls.mono h (fun e w'' he => by cases e <;> exact he)
  | halt x w' => cases x <;> simp only [Oper.upon] at h ⊢ <;> exact h

theorem wp_into {o : Oper} {a : Act} {w : World} {K : Act → World → Prop} {X Y : Act → World → Prop} (h : o.wp P a w K (Exit.then X Q)) : o.wp P a w K (Exit.then Y Q) := by
  unfold Oper.wp at *
  generalize (execOp a.eval o).run P w = r at *
  cases r with
  | ok n w' =>
    cases n <;> simp only [Oper.upon] at h ⊢ <;>
      first
        | exact h
        | exact Calls.mono h (fun e w'' he => by cases e <;> exact he)
  | halt x w' => cases x <;> simp only [Oper.upon] at h ⊢ <;> exact h

/-- Operations that come one behind the other. -/
def seqUp (ops : Array Oper) : Nat → Nat → Array Bool → Bool
  | 0, _, _ => true
  | g + 1, k, listed => decide (Region.ready .any ops listed = [k]) && seqUp ops g (k + 1) (listed.setIfInBounds k true)
def setUp : Nat → Nat → Array Bool → Array Bool
  | 0, _, listed => listed
  | g + 1, k, listed => setUp g (k + 1) (listed.setIfInBounds k true)
theorem wp_chain {F : Nat} : ∀ (l : List Oper) (k : Nat) (listed : Array Bool) (a : Act) (w : World), (∀ j, j < l.length → l[j]? = ops[k + j]?) → seqUp ops l.length k listed = true →
    wpList P ops (Exit.then (fun a w => wpAny P .any ops Q F (setUp l.length k listed) a w) Q) l a w → wpAny P .any ops Q (l.length + F) listed a w
  | [], _, _, _, _, _, _, h => by rw [List.length_nil, Nat.zero_add]; exact h
  | o :: l, k, listed, a, w, hl, hB, h => by
    have h0 : ops[k]? = some o := by simpa using (hl 0 (by simp)).symm
    simp only [List.length_cons, seqUp, Bool.and_eq_true, decide_eq_true_eq] at hB
    rw [show (o :: l).length + F = (l.length + F) + 1 by simp; omega]
    refine ⟨fun h1 => (by rw [hB.1] at h1; cases h1), fun i hi => ?_⟩
    rw [hB.1] at hi
    have hik : i = k := by simpa using hi
    subst hik
    have ih := fun a' w' h' => wp_chain (F := F) l (i + 1) (listed.setIfInBounds i true) a' w' (fun j hj => by have := hl (j + 1) (by simpa using hj); simpa [Nat.add_assoc, Nat.add_comm 1 j] using this) hB.2 h'
    unfold wpOp
    simp only [h0]
    simp only [wpList] at h
    split
    · rename_i hw
      rw [if_pos hw] at h
      rcases h with h | ⟨h1, h2⟩
      · exact .inl (Oper.wp_mono ih (wp_then h))
      · exact .inr ⟨h1, h2⟩
    · rename_i hw
      rw [if_neg hw] at h
      exact ih _ _ h

theorem gent_mono {K K' : Act → Prop} (hK : ∀ a, K a → K' a) : ∀ (l : List Oper) (a : Act), wpGent P ops w0 K l a → wpGent P ops w0 K' l a
  | [], a, h => hK a h
  | o :: l, a, h => by
    unfold wpGent at h ⊢
    split
    · rename_i hw
      rw [if_pos hw] at h
      obtain ⟨v, hv, hk⟩ := h
      exact ⟨v, hv, gent_mono hK l _ hk⟩
    · rename_i hw
      rw [if_neg hw] at h
      exact gent_mono hK l _ h
theorem list_then {X Y : Act → World → Prop} (hX : ∀ a w, X a w → Y a w) : ∀ (l : List Oper) (a : Act) (w : World), wpList P ops (Exit.then X Q) l a w → wpList P ops (Exit.then Y Q) l a w
  | [], a, w, h => hX a w h
  | o :: l, a, w, h => by
    unfold wpList at h ⊢
    split
    · rename_i hw
      rw [if_pos hw] at h
      rcases h with h | ⟨h1, h2⟩
      · exact .inl (wp_into (Oper.wp_mono (fun a w h => list_then hX l a w h) h))
      · exact .inr ⟨h1, h2⟩
    · rename_i hw
      rw [if_neg hw] at h
      exact list_then hX l _ w h

/-- Quiet operations up to N, and all behind them one behind the other. -/
theorem wp_region_late {id : Nat} {a : Act} {w : World} {l : List Oper} (N : Nat) (hm : P.follows .mixedOrders = true) (hB : (stageB l.toArray 0 N && Region.seqB .any l.toArray (l.toArray.size - N) N (doneUpto N (l.toArray.size - N))) = true)
    (h : wpGent P l.toArray w (fun a' => ∀ w', Below w.heap.size w w' → wpList P l.toArray Q (l.drop N) a' w') (l.take N) a) : (Code.region id l.toArray true).wp P Q a w := by
  rw [Bool.and_eq_true] at hB
  refine wp_region_any hm ?_
  have hs : (Array.replicate l.toArray.size false) = doneUpto 0 (l.toArray.size - 0) := by simp [doneUpto]
  have hd : (l.drop N).length = l.toArray.size - N := by simp
  rw [hs]
  refine wp_stage (w0 := w) 0 N hB.1 (show Below _ _ _ from ⟨rfl, rfl, rfl, Nat.le_refl _, fun _ _ => rfl⟩) ?_
  rw [List.drop_zero]
  refine gent_mono (fun a' h1 w' hw' => ?_) _ _ h
  have := wpAny_of_seq (P := P) (md := .any) (Q' := Q) (ops := l.toArray) (l.drop N) N (doneUpto N (l.toArray.size - N)) a' w' (by intro j; simp) (by rw [hd]; exact hB.2) (h1 w' hw')
  rwa [hd] at this
/-- Quiet operations up to N, one behind the other up to M, quiet ones up to N', and all behind them one behind the other. -/
theorem wp_region_late2 {id : Nat} {a : Act} {w : World} {l : List Oper} (N M N' : Nat) (hm : P.follows .mixedOrders = true)
    (hB : (stageB l.toArray 0 N && seqUp l.toArray (M - N) N (doneUpto N (l.toArray.size - N)) && decide (setUp (M - N) N (doneUpto N (l.toArray.size - N)) = doneUpto M (l.toArray.size - M)) && decide (N ≤ M) && decide (M ≤ l.toArray.size) && stageB l.toArray M N' && Region.seqB .any l.toArray (l.toArray.size - N') N' (doneUpto N' (l.toArray.size - N'))) = true)
    (h : wpGent P l.toArray w (fun a' => ∀ w', Below w.heap.size w w' → wpList P l.toArray (Exit.then (fun a2 w2 => wpGent P l.toArray w2 (fun a3 => ∀ w3, Below w2.heap.size w2 w3 → wpList P l.toArray Q (l.drop N') a3 w3) ((l.take N').drop M) a2) Q) ((l.take M).drop N) a' w') (l.take N) a) : (Code.region id l.toArray true).wp P Q a w := by
  simp only [Bool.and_eq_true, decide_eq_true_eq] at hB
  obtain ⟨⟨⟨⟨⟨⟨hB1, hB2⟩, hB3⟩, hNM⟩, hMs⟩, hB4⟩, hB5⟩ := hB
  refine wp_region_any hm ?_
  have hs : (Array.replicate l.toArray.size false) = doneUpto 0 (l.toArray.size - 0) := by simp [doneUpto]
  have hd : (l.drop N').length = l.toArray.size - N' := by simp
  have hlen : l.toArray.size = l.length := by simp
  rw [hs]
  refine wp_stage (w0 := w) 0 N hB1 (show Below _ _ _ from ⟨rfl, rfl, rfl, Nat.le_refl _, fun _ _ => rfl⟩) ?_
  rw [List.drop_zero]
  refine gent_mono (fun a' h1 w' hw' => ?_) _ _ h
  have h2 := h1 w' hw'
  have hl2 : ((l.take M).drop N).length = M - N := by rw [List.length_drop, List.length_take, Nat.min_eq_left (by omega)]
  have := wp_chain (P := P) (Q := Q) (ops := l.toArray) (F := l.toArray.size - M) ((l.take M).drop N) N (doneUpto N (l.toArray.size - N)) a' w' ?_ (by rw [hl2]; exact hB2) ?_
  · rwa [hl2, show M - N + (l.toArray.size - M) = l.toArray.size - N by omega] at this
  · intro j hj
    rw [hl2] at hj
    rw [List.getElem?_drop, List.getElem?_take, if_pos (by omega)]
    simp
  · rw [hl2, hB3]
    refine list_then (fun a2 w2 h3 => ?_) _ _ _ h2
    refine wp_stage (w0 := w2) M N' hB4 G.rfl ?_
    refine gent_mono (fun a3 h4 w3 hw3 => ?_) _ _ h3
    have := wpAny_of_seq (P := P) (md := .any) (Q' := Q) (ops := l.toArray) (l.drop N') N' (doneUpto N' (l.toArray.size - N')) a3 w3 (by intro j; simp) (by rw [hd]; exact hB5) (h4 w3 hw3)
    rwa [hd] at this
end
end Go.Proofs.Ytbkpndgadgafiae.Loose
