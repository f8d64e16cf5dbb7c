/-
  A walk in an order of our choice (Mix), by blocks of operations that only read: each block is a quiet walk. No program is named here.
-/
import Derived.Test.YtbkpndgadgafiaeLooseT
import Derived.BigQuiet
namespace Go.Proofs.Ytbkpndgadgafiae.Loose
open Go.RowKit Go.Sort

/-- An operation that looks at no memory and leaves it. -/
def Calm (P : Program) (o : Oper) : Prop := ∀ (e : Operand → Value) (w : World), (∃ v, ∀ w', (execOp e o).run P w' = .ok (.value v) w') ∨ (∃ h w'', (execOp e o).run P w = .halt h w'')
theorem calm_move {P : Program} {o : Oper} {x : Operand} (h : o.op = .move x) : Calm P o := fun e w => .inl ⟨e x, fun w' => by simp only [execOp, h]; rfl⟩
theorem calm_assign {P : Program} {o : Oper} {x : Operand} (h : o.op = .assign x) : Calm P o := fun e w => .inl ⟨e x, fun w' => by simp only [execOp, h]; rfl⟩
theorem calm_extract {P : Program} {o : Oper} {x : Operand} {k : Nat} (h : o.op = .extract x k) : Calm P o := by
  intro e w
  simp only [execOp, h, Instr.extract]
  split
  · split
    · exact .inl ⟨_, fun w' => rfl⟩
    · exact .inr ⟨_, _, rfl⟩
  · exact .inr ⟨_, _, rfl⟩

def driftB (ops : Array Oper) (N : Nat) (D : List Nat) : Bool := (List.range ops.size).all fun t => decide (t < N) || (List.range N).all fun i =>
  if D.contains i then (Region.waitsFor .any ops t i || (match ops[i]?, ops[t]? with | some oi, some ot => oi.apart ops ot | _, _ => false)) else reachB ops N t i
def stageD (ops : Array Oper) (n N : Nat) (D : List Nat) : Bool := decide (n ≤ N) && decide (N ≤ ops.size) && Region.noSelect ops && pairB ops N && backB ops N && driftB ops N D && D.all (fun i => decide (i < n)) && Region.seqB .any ops (ops.size - N) N (doneUpto N (ops.size - N))

section
variable {P : Program} {ops : Array Oper} {w0 : World} {n N : Nat} {D : List Nat} {R : Nat → Value → World → Prop} {Q : Exit → Act → World → Prop}

structure OkD (P : Program) (ops : Array Oper) (w0 : World) (n N : Nat) (D : List Nat) (R : Nat → Value → World → Prop) : Prop where
  le : n ≤ N
  size : N ≤ ops.size
  sel : ∀ (j : Nat) (o : Oper) cs b, ops[j]? = some o → o.op ≠ .select cs b
  pair : ∀ i j oi oj, i < j → j < N → ops[i]? = some oi → ops[j]? = some oj → (∀ e ∈ oj.after, Region.binds .any e = true → e.on ≠ i) → oi.apart ops oj = true
  back : ∀ j o, j < N → ops[j]? = some o → ∀ e ∈ o.after, Region.binds .any e = true → e.on < j
  tail : ∀ t, N ≤ t → t < ops.size → ∀ i, i < N → i ∉ D → reachB ops N t i = true
  late : ∀ t ot, N ≤ t → ops[t]? = some ot → ∀ i oi, i < N → i ∈ D → ops[i]? = some oi → (∀ e ∈ ot.after, Region.binds .any e = true → e.on ≠ i) → oi.apart ops ot = true
  low : ∀ i, i ∈ D → i < n
  seq : Region.seqB .any ops (ops.size - N) N (doneUpto N (ops.size - N)) = true
  calm : ∀ i o, i ∈ D → ops[i]? = some o → Calm P o
  loose : ∀ i o, n ≤ i → i < N → ops[i]? = some o → (∀ a : Act, Region.wanted o (yielded ops a.tmps) = true) ∧ ∀ (a : Act) w, G w0 w → ∃ v w', (execOp a.eval o).run P w = .ok (.value v) w' ∧ G w w' ∧ R i v w'
  stable : ∀ i v w w', R i v w → G w w' → R i v w'

theorem okD_of (hB : stageD ops n N D = true) (calm : ∀ i o, i ∈ D → ops[i]? = some o → Calm P o)
    (loose : ∀ i o, n ≤ i → i < N → ops[i]? = some o → (∀ a : Act, Region.wanted o (yielded ops a.tmps) = true) ∧ ∀ (a : Act) w, G w0 w → ∃ v w', (execOp a.eval o).run P w = .ok (.value v) w' ∧ G w w' ∧ R i v w')
    (stable : ∀ i v w w', R i v w → G w w' → R i v w') : OkD P ops w0 n N D R := by
  simp only [stageD, Bool.and_eq_true, decide_eq_true_eq] at hB
  obtain ⟨⟨⟨⟨⟨⟨⟨hn, hN⟩, hsel⟩, hpair⟩, hback⟩, hdr⟩, hlow⟩, hseq⟩ := hB
  simp only [driftB, List.all_eq_true, List.mem_range, Bool.or_eq_true, decide_eq_true_eq] at hdr
  refine ⟨hn, hN, fun j o cs b hj => Region.noSelect_spec hsel j o cs b hj, ?_, ?_, ?_, ?_, ?_, hseq, calm, loose, stable⟩
  · intro i j oi oj hij hj hi hj' hno
    simp only [pairB, List.all_eq_true, List.mem_range] at hpair
    have := hpair j hj i hij
    simp only [hi, hj', Bool.or_eq_true] at this
    rcases this with h | h
    · obtain ⟨oj', ho, e, he, hb, hon⟩ := Region.waitsFor_spec h
      rw [hj'] at ho
      cases ho
      exact absurd hon (hno e he hb)
    · exact h
  · intro j o hj ho e he hb
    simp only [backB, List.all_eq_true, List.mem_range] at hback
    have := hback j hj
    simp only [ho, Array.all_eq_true'] at this
    have := this e he
    simpa [hb] using this
  · intro t ht hts i hi hD
    rcases hdr t hts with h | h
    · omega
    · have := h i hi
      rw [if_neg (by simpa using hD)] at this
      exact this
  · intro t ot ht ho i oi hi hD hoi hno
    have hts : t < ops.size := (Array.getElem?_eq_some_iff.1 ho).1
    rcases hdr t hts with h | h
    · omega
    · have := h i hi
      rw [if_pos (by simpa using hD), hoi, ho] at this
      simp only [Bool.or_eq_true] at this
      rcases this with h | h
      · obtain ⟨o', ho', e, he, hb, hon⟩ := Region.waitsFor_spec h
        rw [ho] at ho'
        cases ho'
        exact absurd hon (hno e he hb)
      · exact h
  · intro i hi
    simpa using List.all_eq_true.1 hlow i hi

theorem yields_of {o : Oper} {a : Act} {v : Value} {w : World} (hc : Calm P o) (hg : G w0 w) (h : Yl P ops w0 o a v) : Yields P ops o v a := by
  rcases h with ⟨h1, h2⟩ | h
  · refine .inl ⟨h1, ?_⟩
    have h3 := h2 w hg
    unfold Oper.quietAt at h3
    rcases hc a.eval w with ⟨u, hu⟩ | ⟨x, w'', hx⟩
    · rw [hu w] at h3
      obtain ⟨_, e⟩ := h3
      subst e
      exact hu
    · rw [hx] at h3
      exact h3.elim
  · exact .inr h

theorem every_drift (K : OkD P ops w0 n N D R) (hQ : ∀ (d : Option Tmp) (v : Value) c a w, Q (.panic c) (a.put d v) w → Q (.panic c) a w) :
    ∀ (k : Nat) (listed : Array Bool) (a : Act) (w : World) (I : World → Prop), (rst N listed).length = k → listed.size = ops.size →
      (∀ t, N ≤ t → t < ops.size → listed.getD t true = false) → Closed ops listed → (∀ w w', I w → G w w' → I w') → G w0 w → I w →
      LexL P ops w0 n R (fun a w => wpList P ops Q (ops.toList.drop N) a w) (rst N listed) a I →
      wpAny P .any ops Q (k + (ops.size - N)) listed a w := by
  intro k
  induction k with
  | zero =>
    intro listed a w I hk hs ht hc hI hw hIw h
    have hr : rst N listed = [] := List.length_eq_zero_iff.1 hk
    rw [hr] at h
    have hl : listed = doneUpto N (ops.size - N) := by
      apply Array.ext
      · simp [doneUpto, hs]; have := K.size; omega
      · intro i h1 h2
        by_cases hi : i < N
        · have : i ∉ rst N listed := by rw [hr]; simp
          have : listed.getD i true = true := by
            cases hg : listed.getD i true
            · exact absurd (mem_rst.2 ⟨hi, hg⟩) this
            · rfl
          simp only [Array.getD, h1, dite_true] at this
          rw [show (doneUpto N (ops.size - N))[i] = true from by simp [doneUpto, hi]]
          exact this
        · have := ht i (by omega) (by omega)
          simp only [Array.getD, h1, dite_true] at this
          rw [show (doneUpto N (ops.size - N))[i] = false from by simp [doneUpto, Array.getElem_append, hi]]
          exact this
    have hf := h w hw hIw
    have hlen : (ops.toList.drop N).length = ops.size - N := by simp
    have := wpAny_of_seq (P := P) (md := .any) (Q' := Q) (ops.toList.drop N) N listed a w (by intro j; simp) (by rw [hlen, hl]; exact K.seq) hf
    rw [hlen] at this
    simpa using this
  | succ k ih =>
    intro listed a w I hk hs ht hc hI hw hIw h
    have hne : rst N listed ≠ [] := by intro e; rw [e] at hk; cases hk
    have e : k + 1 + (ops.size - N) = (k + (ops.size - N)) + 1 := by omega
    rw [e]
    obtain ⟨i0, r, hr0⟩ := List.exists_cons_of_ne_nil hne
    have hm0 : i0 ∈ rst N listed := by rw [hr0]; simp
    obtain ⟨hi0, hu0⟩ := mem_rst.1 hm0
    have hlt0 : i0 < ops.size := by have := K.size; omega
    have ho0 : ops[i0]? = some ops[i0] := by simp [hlt0]
    have hready0 : i0 ∈ Region.ready .any ops listed := by
      refine mem_ready.2 ⟨hu0, ops[i0], ho0, fun e he hb => ?_⟩
      have hon := K.back i0 ops[i0] hi0 ho0 e he hb
      have : e.on ∉ rst N listed := by
        rw [hr0]
        intro hmem
        rcases List.mem_cons.1 hmem with h | h
        · omega
        · have hp := rst_pair N listed
          rw [hr0] at hp
          have := (List.pairwise_cons.1 hp).1 _ h
          omega
      have h1 : listed.getD e.on true = true := by
        cases hg : listed.getD e.on true
        · exact absurd (mem_rst.2 ⟨by omega, hg⟩) this
        · rfl
      have hes : e.on < listed.size := by omega
      simp only [Array.getD, hes, dite_true] at h1 ⊢
      exact h1
    -- what one step leaves
    have hnext : ∀ i o, i < N → ops[i]? = some o → listed.getD i true = false → (∀ e ∈ o.after, Region.binds .any e = true → listed.getD e.on false = true) →
        (rst N (listed.setIfInBounds i true)).length = k ∧ (listed.setIfInBounds i true).size = ops.size ∧ (∀ t, N ≤ t → t < ops.size → (listed.setIfInBounds i true).getD t true = false) ∧ Closed ops (listed.setIfInBounds i true) := by
      intro i o hiN ho hu hall
      have him : i ∈ rst N listed := mem_rst.2 ⟨hiN, hu⟩
      have his : i < ops.size := (Array.getElem?_eq_some_iff.1 ho).1
      refine ⟨by rw [rst_set him, List.length_erase_of_mem him, hk]; rfl, by simpa using hs, ?_, ?_⟩
      · intro t h1 h2
        rw [getD_set_ne true (by omega : ¬ i = t)]
        exact ht t h1 h2
      · have hmono : ∀ x, listed.getD x false = true → (listed.setIfInBounds i true).getD x false = true := by
          intro x hx
          by_cases e : i = x
          · subst e
            have : i < listed.size := by omega
            simp [Array.getD, this]
          · rw [getD_set_ne false e]
            exact hx
        intro j oj hj hl e he hb
        by_cases e' : i = j
        · subst e'
          rw [ho] at hj
          cases hj
          exact hmono _ (hall e he hb)
        · rw [getD_set_ne false e'] at hl
          exact hmono _ (hc j oj hj hl e he hb)
    by_cases hall : ∀ i, i ∈ rst N listed → i ∈ D
    · -- nothing but such as look at no memory: the first one comes now
      have hD0 := hall i0 hm0
      have hin := K.low i0 hD0
      rw [hr0] at h
      obtain ⟨o, ho, h⟩ := h
      rw [ho0] at ho
      cases ho
      rcases h with ⟨_, v, hy, hL⟩ | ⟨h', _⟩
      · obtain ⟨q1, q2, q3, q4⟩ := hnext i0 ops[i0] hi0 ho0 hu0 (fun e he hb => by
          obtain ⟨_, o', ho', hall'⟩ := mem_ready.1 hready0
          rw [ho0] at ho'
          cases ho'
          exact hall' e he hb)
        have hL' : LexL P ops w0 n R (fun a w => wpList P ops Q (ops.toList.drop N) a w) (rst N (listed.setIfInBounds i0 true)) (a.put ops[i0].dst v) I := by
          rw [rst_set hm0, hr0, List.erase_cons_head]
          exact hL
        refine wpAny_first ho0 K.sel (hQ _ _) _ listed a w ?_ hready0 (yields_of (K.calm i0 _ hD0 ho0) hw hy) (ih _ _ w I q1 q2 q3 q4 hI hw hIw hL')
        intro j oj hj hne' hun hno
        have hjs : j < ops.size := (Array.getElem?_eq_some_iff.1 hj).1
        rcases Nat.lt_or_ge j N with hjN | hjN
        · have hjm : j ∈ rst N listed := mem_rst.2 ⟨hjN, hun⟩
          rw [hr0] at hjm
          have hjr : j ∈ r := by
            rcases List.mem_cons.1 hjm with e | e
            · exact absurd e hne'
            · exact e
          have hp := rst_pair N listed
          rw [hr0] at hp
          exact K.pair i0 j _ oj ((List.pairwise_cons.1 hp).1 j hjr) hjN ho0 hj hno
        · exact K.late j oj hjN hj i0 _ hi0 hD0 ho0 hno
      · omega
    · have hex : ∃ j, j ∈ rst N listed ∧ j ∉ D := by
        by_cases hx : ∃ j, j ∈ rst N listed ∧ j ∉ D
        · exact hx
        · exact absurd (fun i hi => by
            by_cases hd : i ∈ D
            · exact hd
            · exact absurd ⟨i, hi, hd⟩ hx) hall
      obtain ⟨j0, hj0, hjD⟩ := hex
      obtain ⟨hj0N, hj0u⟩ := mem_rst.1 hj0
      refine ⟨fun hr => (by rw [hr] at hready0; cases hready0), fun i hi => ?_⟩
      obtain ⟨hu, o, ho, hall'⟩ := mem_ready.1 hi
      have his : i < ops.size := (Array.getElem?_eq_some_iff.1 ho).1
      have hiN : i < N := by
        rcases Nat.lt_or_ge i N with h' | h'
        · exact h'
        · exfalso
          have h1 := reach_listed hc N i j0 o ho hall' (K.tail i h' his j0 hj0N hjD)
          have hes : j0 < listed.size := by have := K.size; omega
          simp only [Array.getD, hes, dite_true] at h1 hj0u
          rw [hj0u] at h1
          cases h1
      have him : i ∈ rst N listed := mem_rst.2 ⟨hiN, hu⟩
      have hapart : ∀ i' oi', i' ∈ rst N listed → i' < i → ops[i']? = some oi' → oi'.apart ops o = true := by
        intro i' oi' hm' hlt ho'
        refine K.pair i' i oi' o hlt hiN ho' ho (fun e he hb hon => ?_)
        have h1 := hall' e he hb
        have h2 := (mem_rst.1 hm').2
        rw [hon] at h1
        have hes : i' < listed.size := by have := K.size; omega
        simp only [Array.getD, hes, dite_true] at h1 h2
        rw [h2] at h1
        cases h1
      obtain ⟨q1, q2, q3, q4⟩ := hnext i o hiN ho hu hall'
      unfold wpOp
      simp only [ho]
      by_cases hin : i < n
      · obtain ⟨v, hy, hL⟩ := step_quiet K.sel ho hin (rst_pair N listed) him hapart h
        rw [← rst_set him] at hL
        rcases hy with ⟨hwant, hq⟩ | ⟨hwant, rfl⟩
        · rw [if_pos hwant]
          left
          exact wp_of_quietAt (hq w hw) G.rfl (fun w' hg => ih _ _ w' I q1 q2 q3 q4 hI (hw.trans hg) (hI _ _ hIw hg) hL)
        · rw [if_neg (by rw [hwant]; exact Bool.false_ne_true)]
          exact ih _ _ w I q1 q2 q3 q4 hI hw hIw hL
      · obtain ⟨hwant, hrun⟩ := K.loose i o (by omega) hiN ho
        rw [if_pos (hwant a)]
        left
        obtain ⟨v, w', he, hg, hR⟩ := hrun a w hw
        unfold Oper.wp
        rw [he]
        have hL := step_loose K.sel ho (by omega) v (rst_pair N listed) him hapart h
        rw [← rst_set him] at hL
        exact ih _ _ w' _ q1 q2 q3 q4 (fun x y hx hg => ⟨hI _ _ hx.1 hg, K.stable _ _ _ _ hx.2 hg⟩) (hw.trans hg) ⟨hI _ _ hIw hg, hR⟩ hL

theorem closed_none (ops : Array Oper) : Closed ops (Array.replicate ops.size false) := by
  intro j o ho hl
  have hj : j < ops.size := (Array.getElem?_eq_some_iff.1 ho).1
  simp [Array.getD, hj] at hl

theorem wp_region_drifts {id : Nat} {a : Act} {w : World} (hm : P.follows .mixedOrders = true) (K : OkD P ops w n N D R) (hQ : ∀ (d : Option Tmp) (v : Value) c a w, Q (.panic c) (a.put d v) w → Q (.panic c) a w)
    (h : LexL P ops w n R (fun a w => wpList P ops Q (ops.toList.drop N) a w) (List.range N) a (fun _ => True)) : (Code.region id ops true).wp P Q a w := by
  refine wp_region_any hm ?_
  have hr : rst N (Array.replicate ops.size false) = List.range N := by
    unfold rst
    rw [List.filter_eq_self]
    intro i hi
    have : i < ops.size := by have := K.size; have := List.mem_range.1 hi; omega
    simp [Array.getD, this]
  have := every_drift K hQ N (Array.replicate ops.size false) a { w with drawn := w.drawn + 1 } (fun _ => True) (by rw [hr]; simp) (by simp)
    (fun t _ ht => by simp [Array.getD, ht]) (closed_none ops) (fun _ _ _ _ => trivial) (show Below _ _ _ from ⟨rfl, rfl, rfl, Nat.le_refl _, fun _ _ => rfl⟩) trivial (by rw [hr]; exact h)
  have hN := K.size
  rwa [show N + (ops.size - N) = ops.size from by omega] at this

/-- Quiet operations up to N, of which those of D may come later, and all behind N one behind the other. -/
theorem wp_region_drift {id : Nat} {a : Act} {w : World} {l : List Oper} (N : Nat) (D : List Nat) (hm : P.follows .mixedOrders = true) (hB : stageD l.toArray N N D = true) (hc : ∀ i o, i ∈ D → l[i]? = some o → Calm P o)
    (hQ : ∀ (d : Option Tmp) (v : Value) c a w, Q (.panic c) (a.put d v) w → Q (.panic c) a w)
    (h : wpGent P l.toArray w (fun a' => ∀ w', Below w.heap.size w w' → wpList P l.toArray Q (l.drop N) a' w') (l.take N) a) : (Code.region id l.toArray true).wp P Q a w := by
  have K : OkD P l.toArray w N N D (fun _ _ _ => True) := okD_of hB (fun i o hi ho => hc i o hi (by simpa using ho)) (fun i o h1 h2 _ => by omega) (fun _ _ _ _ _ _ => trivial)
  have hlen : N ≤ l.length := by simpa using K.size
  refine wp_region_drifts hm K hQ ?_
  have hr : List.range N = List.range' 0 (l.take N).length ++ [] := by
    rw [List.length_take, Nat.min_eq_left hlen, List.range_eq_range', List.append_nil]
  rw [hr]
  refine lexL_of_gent (late := []) ?_ (l.take N) 0 a ?_ (by rw [List.length_take]; omega) h
  · intro a' hk w' hw' _
    exact hk w' hw'
  · intro j o' hj
    have : l[j]? = some o' := by
      rw [List.getElem?_take] at hj
      split at hj
      · exact hj
      · cases hj
    simpa using this

/-- Quiet operations up to n, of which those of D may come later, the laying of one new variable, and all behind it one behind the other. -/
theorem wp_region_drift_alloc {id : Nat} {a : Act} {w : World} {l : List Oper} (n : Nat) (D : List Nat) (d : Tmp) (X : Obj) (o : Oper)
    (hm : P.follows .mixedOrders = true) (hB : stageD l.toArray n (n + 1) D = true) (hc : ∀ i o, i ∈ D → l[i]? = some o → Calm P o) (ho : l[n]? = some o) (hd : o.dst = some d) (hg : o.guard = none)
    (hrun : ∀ (a : Act) w, (execOp a.eval o).run P w = .ok (.value (.pointer (some ⟨w.heap.size, 0, none⟩))) (w.alloc X))
    (hQ : ∀ (d : Option Tmp) (v : Value) c a w, Q (.panic c) (a.put d v) w → Q (.panic c) a w)
    (h : wpGent P l.toArray w (fun a' => ∀ b w', Below w.heap.size w w' → w.heap.size ≤ b → w'.heap[b]? = some X →
      wpList P l.toArray Q (l.drop (n + 1)) (a'.put (some d) (.pointer (some ⟨b, 0, none⟩))) w') (l.take n) a) : (Code.region id l.toArray true).wp P Q a w := by
  have hlen : n < l.length := by
    rcases Nat.lt_or_ge n l.length with h' | h'
    · exact h'
    · rw [List.getElem?_eq_none h'] at ho; cases ho
  have K : OkD P l.toArray w n (n + 1) D (fun _ v w' => ∃ b, v = .pointer (some ⟨b, 0, none⟩) ∧ w.heap.size ≤ b ∧ w'.heap[b]? = some X) := by
    refine okD_of hB (fun i o hi ho => hc i o hi (by simpa using ho)) ?_ ?_
    · intro i o' h1 h2 ho'
      have hi : i = n := by omega
      subst hi
      have he : o' = o := by
        have h3 : l[i]? = some o' := by simpa using ho'
        rw [ho] at h3
        cases h3
        rfl
      subst he
      refine ⟨fun a => by simp [Region.wanted, hg], fun a w1 hw1 => ⟨_, _, hrun a w1, ?_, w1.heap.size, rfl, hw1.size, by show (w1.heap.push X)[w1.heap.size]? = some X; simp⟩⟩
      exact (Below.refl _ _).alloc (Nat.le_refl _) _
    · rintro i v w1 w2 ⟨b, e, hb, hx⟩ hg2
      refine ⟨b, e, hb, ?_⟩
      have hlt : b < w1.heap.size := by
        rcases Nat.lt_or_ge b w1.heap.size with h' | h'
        · exact h'
        · rw [Array.getElem?_eq_none h'] at hx; cases hx
      rw [Below.block hg2 b hlt]
      exact hx
  refine wp_region_drifts hm K hQ ?_
  have hr : List.range (n + 1) = List.range' 0 (l.take n).length ++ [n] := by
    rw [List.length_take, Nat.min_eq_left (by omega), List.range_succ, List.range_eq_range']
  rw [hr]
  refine lexL_of_gent (late := [n]) ?_ (l.take n) 0 a ?_ (by rw [List.length_take]; omega) h
  · intro a' hk
    refine ⟨o, by simpa using ho, .inr ⟨Nat.le_refl _, fun v w' hw' hI => ?_⟩⟩
    obtain ⟨_, b, e, hb, hx⟩ := hI
    subst e
    rw [hd]
    exact hk b w' hw' hb hx
  · intro j o' hj
    have : l[j]? = some o' := by
      rw [List.getElem?_take] at hj
      split at hj
      · exact hj
      · cases hj
    simpa using this
end
end Go.Proofs.Ytbkpndgadgafiae.Loose

namespace Go.Proofs.Ytbkpndgadgafiae.Loose
open Go.RowKit Go.Sort

/-- In every order t comes behind i. -/
def Rch (ops : Array Oper) (t i : Nat) : Prop := ∀ (listed : Array Bool) (o : Oper), ops[t]? = some o → Closed ops listed → (∀ e ∈ o.after, Region.binds .any e = true → listed.getD e.on false = true) → listed.getD i false = true

def keys (done : List (Nat × Nat × Nat)) : List (Nat × Nat) := done.map fun p => (p.1, p.2.1)
def look (done : List (Nat × Nat × Nat)) (i : Nat) : Nat := match done.find? (fun p => p.2.1 == i) with
  | some p => p.2.2
  | none => 0
def maskOf (done : List (Nat × Nat × Nat)) (o : Oper) : Nat := o.after.toList.foldl (fun m e => if Region.binds .any e then m ||| (1 <<< e.on ||| look done e.on) else m) 0
/-- What the masks say is so. -/
def Inv (ops : Array Oper) (done : List (Nat × Nat × Nat)) : Prop := ∀ p ∈ done, (∃ o, ops[p.2.1]? = some o) ∧ ∀ i, p.2.2.testBit i = true → Rch ops p.2.1 i

theorem mask_fold (done : List (Nat × Nat × Nat)) (i : Nat) : ∀ (l : List Edge) (m : Nat), (l.foldl (fun m e => if Region.binds .any e then m ||| (1 <<< e.on ||| look done e.on) else m) m).testBit i = true →
    m.testBit i = true ∨ ∃ e ∈ l, Region.binds .any e = true ∧ (e.on = i ∨ (look done e.on).testBit i = true)
  | [], m, h => .inl h
  | e :: l, m, h => by
    rw [List.foldl_cons] at h
    rcases mask_fold done i l _ h with h | ⟨e', he, hb, h⟩
    · split at h
      · rename_i hb
        rw [Nat.testBit_or, Nat.testBit_or, Bool.or_eq_true, Bool.or_eq_true, Nat.one_shiftLeft, Nat.testBit_two_pow, decide_eq_true_eq] at h
        rcases h with h | h | h
        · exact .inl h
        · exact .inr ⟨e, by simp, hb, .inl h⟩
        · exact .inr ⟨e, by simp, hb, .inr h⟩
      · exact .inl h
    · exact .inr ⟨e', by simp [he], hb, h⟩

theorem mask_spec {ops : Array Oper} {done : List (Nat × Nat × Nat)} (hi : Inv ops done) {t : Nat} {o : Oper} (ho : ops[t]? = some o) {i : Nat} (h : (maskOf done o).testBit i = true) : Rch ops t i := by
  intro listed o' ho' hc hl
  rw [ho] at ho'
  cases ho'
  rcases mask_fold done i _ _ h with h | ⟨e, he, hb, h⟩
  · rw [Nat.zero_testBit] at h
    cases h
  · have he' : e ∈ o.after := by simpa using he
    have hm := hl e he' hb
    rcases h with h | h
    · rw [← h]; exact hm
    · unfold look at h
      split at h
      · rename_i p hp
        have hmem := List.mem_of_find?_eq_some hp
        have hk : p.2.1 = e.on := by simpa using List.find?_some hp
        obtain ⟨⟨om, hom⟩, hr⟩ := hi p hmem
        rw [hk] at hom hr
        exact hr i h listed om hom hc (fun e2 he2 hb2 => hc e.on om hom hm e2 he2 hb2)
      · simp at h

/-- May the walk go in this order? -/
def ordB (ops : Array Oper) (fin : List (Nat × Nat × Nat) → Bool) : List (Nat × Nat × Nat) → List (Nat × Nat) → Bool
  | done, [] => fin done
  | done, (c, j) :: r => match ops[j]? with
    | none => false
    | some oj => (oj.after.toList.all fun e => !Region.binds .any e || done.any fun p => p.2.1 == e.on) &&
      (done.all fun p => (maskOf done oj).testBit p.2.1 || (p.1 != 2 && match ops[p.2.1]? with | some oi => oi.apart ops oj | none => false)) &&
      !(done.any fun p => p.2.1 == j) && ordB ops fin ((c, j, maskOf done oj) :: done) r

theorem ord_spec {ops : Array Oper} {fin : List (Nat × Nat × Nat) → Bool} : ∀ (r : List (Nat × Nat)) (done : List (Nat × Nat × Nat)), Inv ops done → ordB ops fin done r = true →
    (∀ pre c j post, r = pre ++ (c, j) :: post → ∀ p, (p ∈ pre ∨ p ∈ keys done) → Rch ops j p.2 ∨ (p.1 ≠ 2 ∧ ∀ oi oj, ops[p.2]? = some oi → ops[j]? = some oj → oi.apart ops oj = true)) ∧
    (∀ pre c j post, r = pre ++ (c, j) :: post → ∀ o, ops[j]? = some o → ∀ e ∈ o.after, Region.binds .any e = true → ∃ p, (p ∈ pre ∨ p ∈ keys done) ∧ p.2 = e.on) ∧
    (∀ p ∈ keys done, p.2 ∉ r.map Prod.snd) ∧ (r.map Prod.snd).Nodup ∧
    ∃ d', Inv ops d' ∧ fin d' = true ∧ ∀ p, p ∈ keys d' ↔ (p ∈ r ∨ p ∈ keys done)
  | [], done, hi, h => ⟨fun pre c j post e => by simp at e, fun pre c j post e => by simp at e, fun p _ => by simp, by simp, done, hi, h, fun p => by simp⟩
  | (c, j) :: r, done, hi, h => by
    unfold ordB at h
    split at h
    · cases h
    · rename_i oj hoj
      simp only [Bool.and_eq_true] at h
      obtain ⟨⟨⟨h1, h2⟩, h3⟩, h4⟩ := h
      have hi' : Inv ops ((c, j, maskOf done oj) :: done) := by
        intro p hp
        rcases List.mem_cons.1 hp with e | e
        · subst e
          exact ⟨⟨oj, hoj⟩, fun i hm => mask_spec hi hoj hm⟩
        · exact hi p e
      obtain ⟨g1, g2, g3, g4, d', g5, g6, g7⟩ := ord_spec r _ hi' h4
      have hk : keys ((c, j, maskOf done oj) :: done) = (c, j) :: keys done := rfl
      rw [hk] at g1 g2 g3 g7
      have hnj : ∀ p ∈ keys done, p.2 ≠ j := by
        intro p hp e
        obtain ⟨d, hd, rfl⟩ := List.mem_map.1 hp
        simp only [Bool.not_eq_true', List.any_eq_false] at h3
        exact h3 d hd (by simpa using e)
      refine ⟨?_, ?_, ?_, ?_, d', g5, g6, ?_⟩
      · intro pre c' j' post e p hp
        cases pre with
        | nil =>
          simp only [List.nil_append, List.cons.injEq, Prod.mk.injEq] at e
          obtain ⟨⟨rfl, rfl⟩, rfl⟩ := e
          rcases hp with hp | hp
          · cases hp
          · obtain ⟨d, hd, rfl⟩ := List.mem_map.1 hp
            have := List.all_eq_true.1 h2 d hd
            simp only [Bool.or_eq_true, Bool.and_eq_true, bne_iff_ne, ne_eq] at this
            rcases this with h | ⟨ha, hb⟩
            · exact .inl (mask_spec hi hoj h)
            · refine .inr ⟨ha, fun oi oj' ho1 ho2 => ?_⟩
              rw [hoj] at ho2
              cases ho2
              simp only at ho1
              rw [ho1] at hb
              exact hb
        | cons q pre =>
          simp only [List.cons_append, List.cons.injEq] at e
          obtain ⟨rfl, rfl⟩ := e
          refine g1 pre c' j' post rfl p ?_
          rcases hp with hp | hp
          · rcases List.mem_cons.1 hp with e | e
            · exact .inr (by rw [e]; simp)
            · exact .inl e
          · exact .inr (by simp [hp])
      · intro pre c' j' post e o ho ed hed hb
        cases pre with
        | nil =>
          simp only [List.nil_append, List.cons.injEq, Prod.mk.injEq] at e
          obtain ⟨⟨rfl, rfl⟩, rfl⟩ := e
          rw [hoj] at ho
          cases ho
          have := List.all_eq_true.1 h1 ed (by simpa using hed)
          rw [hb] at this
          simp only [Bool.not_true, Bool.false_or, List.any_eq_true] at this
          obtain ⟨d, hd, he⟩ := this
          exact ⟨(d.1, d.2.1), .inr (List.mem_map.2 ⟨d, hd, rfl⟩), by simpa using he⟩
        | cons q pre =>
          simp only [List.cons_append, List.cons.injEq] at e
          obtain ⟨rfl, rfl⟩ := e
          obtain ⟨p, hp, hpe⟩ := g2 pre c' j' post rfl o ho ed hed hb
          refine ⟨p, ?_, hpe⟩
          rcases hp with hp | hp
          · exact .inl (by simp [hp])
          · rcases List.mem_cons.1 hp with e | e
            · exact .inl (by rw [e]; simp)
            · exact .inr e
      · intro p hp
        simp only [List.map_cons, List.mem_cons, not_or]
        exact ⟨hnj p hp, g3 p (by simp [hp])⟩
      · simp only [List.map_cons, List.nodup_cons]
        exact ⟨g3 (c, j) (by simp), g4⟩
      · intro p
        rw [g7 p]
        simp only [List.mem_cons]
        constructor
        · rintro (h | h | h)
          · exact .inl (.inr h)
          · exact .inl (.inl h)
          · exact .inr h
        · rintro ((h | h) | h)
          · exact .inr (.inl h)
          · exact .inl h
          · exact .inr (.inr h)

/-- Do those from N on wait for all ahead, but such as may come late? -/
def lateB (ops : Array Oper) (D : List Nat) : List (Nat × Nat × Nat) → List Nat → Bool
  | _, [] => true
  | done, t :: ts => match ops[t]? with
    | none => false
    | some ot => (done.all fun p => p.1 == 3 || (if D.contains p.2.1 then (Region.waitsFor .any ops t p.2.1 || (match ops[p.2.1]? with | some oi => oi.apart ops ot | none => false)) else (maskOf done ot).testBit p.2.1)) && lateB ops D ((3, t, maskOf done ot) :: done) ts

theorem late_spec {ops : Array Oper} {D : List Nat} : ∀ (ts : List Nat) (done : List (Nat × Nat × Nat)), Inv ops done → lateB ops D done ts = true → ∀ t ∈ ts, ∀ p ∈ done, p.1 ≠ 3 →
    (p.2.1 ∉ D → Rch ops t p.2.1) ∧ (p.2.1 ∈ D → ∀ ot oi, ops[t]? = some ot → ops[p.2.1]? = some oi → (∀ e ∈ ot.after, Region.binds .any e = true → e.on ≠ p.2.1) → oi.apart ops ot = true)
  | [], _, _, _, t, ht, _, _, _ => by cases ht
  | t :: ts, done, hi, h, t', ht', p, hp, h3 => by
    unfold lateB at h
    split at h
    · cases h
    · rename_i ot hot
      simp only [Bool.and_eq_true] at h
      obtain ⟨h1, h2⟩ := h
      rcases List.mem_cons.1 ht' with e | e
      · subst e
        have := List.all_eq_true.1 h1 p hp
        simp only [Bool.or_eq_true, beq_iff_eq] at this
        rcases this with h | h
        · exact absurd h h3
        · refine ⟨fun hD => ?_, fun hD ot' oi ho1 ho2 hno => ?_⟩
          · rw [if_neg (by simpa using hD)] at h
            exact mask_spec hi hot h
          · rw [if_pos (by simpa using hD)] at h
            rw [hot] at ho1
            cases ho1
            simp only [Bool.or_eq_true] at h
            rcases h with h | h
            · obtain ⟨o', ho', e, he, hb, hon⟩ := Region.waitsFor_spec h
              rw [hot] at ho'
              cases ho'
              exact absurd hon (hno e he hb)
            · rw [ho2] at h
              exact h
      · refine late_spec ts _ ?_ h2 t' e p (by simp [hp]) h3
        intro q hq
        rcases List.mem_cons.1 hq with e | e
        · subst e
          exact ⟨⟨ot, hot⟩, fun i hm => mask_spec hi hot hm⟩
        · exact hi q e

def finB (ops : Array Oper) (N : Nat) (D : List Nat) (done : List (Nat × Nat × Nat)) : Bool :=
  ((List.range N).all fun i => done.any fun p => p.2.1 == i) && (done.all fun p => decide (p.2.1 < N) && p.1 != 3 && (!D.contains p.2.1 || p.1 == 0)) && lateB ops D done (List.range' N (ops.size - N))
def mixB (ops : Array Oper) (L : List (Nat × Nat)) (N : Nat) (D : List Nat) : Bool :=
  decide (N ≤ ops.size) && Region.noSelect ops && ordB ops (finB ops N D) [] L && (D.all fun i => (List.range N).all fun j => j == i || Region.waitsFor .any ops j i || Region.waitsFor .any ops i j || (match ops[i]?, ops[j]? with | some oi, some oj => oi.apart ops oj | _, _ => false)) && Region.seqB .any ops (ops.size - N) N (doneUpto N (ops.size - N))

section
variable {P : Program} {ops : Array Oper} {w0 : World} {N : Nat} {D : List Nat} {L : List (Nat × Nat)} {Fin : Act → World → Prop} {Q : Exit → Act → World → Prop}

structure OkM (ops : Array Oper) (L : List (Nat × Nat)) (N : Nat) (D : List Nat) : Prop where
  size : N ≤ ops.size
  sel : ∀ (j : Nat) (o : Oper) cs b, ops[j]? = some o → o.op ≠ .select cs b
  pair : ∀ pre c j post, L = pre ++ (c, j) :: post → ∀ p ∈ pre, Rch ops j p.2 ∨ (p.1 ≠ 2 ∧ ∀ oi oj, ops[p.2]? = some oi → ops[j]? = some oj → oi.apart ops oj = true)
  back : ∀ pre c j post, L = pre ++ (c, j) :: post → ∀ o, ops[j]? = some o → ∀ e ∈ o.after, Region.binds .any e = true → ∃ p ∈ pre, p.2 = e.on
  nd : (L.map Prod.snd).Nodup
  mem : ∀ i, i < N ↔ ∃ c, (c, i) ∈ L
  zero : ∀ c i, (c, i) ∈ L → i ∈ D → c = 0
  tail : ∀ t, N ≤ t → t < ops.size → ∀ i, i < N → i ∉ D → Rch ops t i
  late : ∀ t ot, N ≤ t → ops[t]? = some ot → ∀ i oi, i < N → i ∈ D → ops[i]? = some oi → (∀ e ∈ ot.after, Region.binds .any e = true → e.on ≠ i) → oi.apart ops ot = true
  drift : ∀ i oi j oj, i ∈ D → ops[i]? = some oi → j < N → j ≠ i → ops[j]? = some oj → (∀ e ∈ oj.after, Region.binds .any e = true → e.on ≠ i) → (∀ e ∈ oi.after, Region.binds .any e = true → e.on ≠ j) → oi.apart ops oj = true
  seq : Region.seqB .any ops (ops.size - N) N (doneUpto N (ops.size - N)) = true

theorem okM_of (hB : mixB ops L N D = true) : OkM ops L N D := by
  simp only [mixB, Bool.and_eq_true, decide_eq_true_eq] at hB
  obtain ⟨⟨⟨⟨hN, hsel⟩, hord⟩, hD⟩, hseq⟩ := hB
  obtain ⟨g1, g2, g3, g4, d', g5, g6, g7⟩ := ord_spec L [] (fun p hp => by cases hp) hord
  simp only [finB, Bool.and_eq_true, List.all_eq_true, List.mem_range, List.any_eq_true, decide_eq_true_eq] at g6
  obtain ⟨⟨f1, f2⟩, f3⟩ := g6
  have hkey : ∀ p, p ∈ keys d' ↔ p ∈ L := fun p => by rw [g7 p]; simp [keys]
  have hof : ∀ c i, (c, i) ∈ L → ∃ m, (c, i, m) ∈ d' := fun c i h => by
    obtain ⟨d, hd, e⟩ := List.mem_map.1 ((hkey (c, i)).2 h)
    obtain ⟨d1, d2, d3⟩ := d
    simp only [Prod.mk.injEq] at e
    obtain ⟨rfl, rfl⟩ := e
    exact ⟨d3, hd⟩
  refine ⟨hN, fun j o cs b hj => Region.noSelect_spec hsel j o cs b hj, fun pre c j post e p hp => g1 pre c j post e p (.inl hp), fun pre c j post e o ho ed hed hb => ?_, g4, fun i => ⟨fun hi => ?_, fun ⟨c, hc⟩ => ?_⟩, fun c i hc hD' => ?_, fun t ht hts i hi hnD => ?_, fun t ot ht hot i oi hi hD' hoi hno => ?_, fun i oi j oj hi hoi hjN hne hoj n1 n2 => ?_, hseq⟩
  · obtain ⟨p, hp, hpe⟩ := g2 pre c j post e o ho ed hed hb
    rcases hp with hp | hp
    · exact ⟨p, hp, hpe⟩
    · simp [keys] at hp
  · obtain ⟨d, hd, he⟩ := f1 i hi
    obtain ⟨d1, d2, d3⟩ := d
    have he : d2 = i := by simpa using he
    subst he
    exact ⟨d1, (hkey _).1 (List.mem_map.2 ⟨_, hd, rfl⟩)⟩
  · obtain ⟨m, hm⟩ := hof c i hc
    exact (f2 _ hm).1.1
  · obtain ⟨m, hm⟩ := hof c i hc
    have := (f2 _ hm).2
    simp only [Bool.or_eq_true, Bool.not_eq_true', beq_iff_eq] at this
    rcases this with h | h
    · simp only [List.contains_eq_mem, decide_eq_false_iff_not] at h
      exact absurd hD' h
    · exact h
  · obtain ⟨d, hd, he⟩ := f1 i hi
    have he : d.2.1 = i := by simpa using he
    have h3 : d.1 ≠ 3 := by simpa using (f2 _ hd).1.2
    have := (late_spec _ d' g5 f3 t (by rw [List.mem_range'_1]; omega) d hd h3).1
    rw [he] at this
    exact this hnD
  · have hts : t < ops.size := (Array.getElem?_eq_some_iff.1 hot).1
    obtain ⟨d, hd, he⟩ := f1 i hi
    have he : d.2.1 = i := by simpa using he
    have h3 : d.1 ≠ 3 := by simpa using (f2 _ hd).1.2
    have := (late_spec _ d' g5 f3 t (by rw [List.mem_range'_1]; omega) d hd h3).2
    rw [he] at this
    exact this hD' ot oi hot hoi hno
  · simp only [List.all_eq_true, List.mem_range, Bool.or_eq_true, beq_iff_eq] at hD
    rcases hD i hi j hjN with ((h | h) | h) | h
    · exact absurd h hne
    · obtain ⟨o', ho', e, he, hb, hon⟩ := Region.waitsFor_spec h
      rw [hoj] at ho'
      cases ho'
      exact absurd hon (n1 e he hb)
    · obtain ⟨o', ho', e, he, hb, hon⟩ := Region.waitsFor_spec h
      rw [hoi] at ho'
      cases ho'
      exact absurd hon (n2 e he hb)
    · rw [hoi, hoj] at h
      exact h

/-! ### The walk -/

/-- What an operation answers of which a relation holds. -/
def relUpon (P : Program) (w : World) (S : Value → World → Prop) : Result Next → Prop
  | .ok (.value v) w' => S v w'
  | .ok (.enter f args) w' => w' = w ∧ Calls P f args w (fun e w'' => ∃ v, e = .returned v ∧ S v w'')
  | _ => False

def Ym (P : Program) (ops : Array Oper) (w0 : World) (I : World → Prop) (o : Oper) (a : Act) (v : Value) : Prop :=
  (Region.wanted o (yielded ops a.tmps) = true ∧ ∀ w, G w0 w → I w → o.quietAt P a (G w) w v) ∨ (Region.wanted o (yielded ops a.tmps) = false ∧ v = undef)
def Rm (P : Program) (ops : Array Oper) (w0 : World) (I : World → Prop) (o : Oper) (a : Act) (α : Type) (val : α → Value) (R : α → World → Prop) : Prop :=
  Region.wanted o (yielded ops a.tmps) = true ∧ (∀ x w w', R x w → G w w' → R x w') ∧ ∀ w, G w0 w → I w → relUpon P w (fun v w' => G w w' ∧ ∃ x, v = val x ∧ R x w') ((execOp a.eval o).run P w)

theorem Ym.put {I : World → Prop} {o x : Oper} {a : Act} {v : Value} (hs : ∀ cs b, o.op ≠ .select cs b) (h : ∀ d, x.dst = some d → d ∉ o.looksAt ops) (u : Value) :
    Ym P ops w0 I o (a.put x.dst u) v ↔ Ym P ops w0 I o a v := by
  unfold Ym Oper.quietAt
  rw [execOp_put o hs a x.dst u h, wanted_put o a x.dst u h]
theorem Rm.put {I : World → Prop} {o x : Oper} {a : Act} {α : Type} {val : α → Value} {R : α → World → Prop} (hs : ∀ cs b, o.op ≠ .select cs b) (h : ∀ d, x.dst = some d → d ∉ o.looksAt ops) (u : Value) :
    Rm P ops w0 I o (a.put x.dst u) α val R ↔ Rm P ops w0 I o a α val R := by
  unfold Rm
  rw [execOp_put o hs a x.dst u h, wanted_put o a x.dst u h]
theorem Ym.mono {I I' : World → Prop} (hi : ∀ w, I' w → I w) {o : Oper} {a : Act} {v : Value} (h : Ym P ops w0 I o a v) : Ym P ops w0 I' o a v :=
  h.imp (fun ⟨h1, h2⟩ => ⟨h1, fun w hw hI => h2 w hw (hi w hI)⟩) id
theorem Rm.mono {I I' : World → Prop} (hi : ∀ w, I' w → I w) {o : Oper} {a : Act} {α : Type} {val : α → Value} {R : α → World → Prop} (h : Rm P ops w0 I o a α val R) : Rm P ops w0 I' o a α val R :=
  ⟨h.1, h.2.1, fun w hw hI => h.2.2 w hw (hi w hI)⟩

def LexM (P : Program) (ops : Array Oper) (w0 : World) (Fin : Act → World → Prop) : List (Nat × Nat) → Act → (World → Prop) → Prop
  | [], a, I => ∀ w, G w0 w → I w → Fin a w
  | (c, i) :: r, a, I => ∃ o, ops[i]? = some o ∧
      ((∃ v, Ym P ops w0 I o a v ∧ LexM P ops w0 Fin r (a.put o.dst v) I) ∨
       (c = 2 ∧ ∃ (α : Type) (val : α → Value) (R : α → World → Prop), Rm P ops w0 I o a α val R ∧ ∀ x, LexM P ops w0 Fin r (a.put o.dst (val x)) (fun w => I w ∧ R x w)))

theorem LexM.mono : ∀ {l : List (Nat × Nat)} {a : Act} {I I' : World → Prop}, (∀ w, I' w → I w) → LexM P ops w0 Fin l a I → LexM P ops w0 Fin l a I'
  | [], _, _, _, hi, h => fun w hw hI => h w hw (hi w hI)
  | _ :: _, _, _, _, hi, ⟨o, ho, h⟩ => ⟨o, ho, h.imp
      (fun ⟨v, hy, hk⟩ => ⟨v, hy.mono hi, LexM.mono hi hk⟩)
      (fun ⟨hc, α, val, R, hr, hk⟩ => ⟨hc, α, val, R, hr.mono hi, fun x => LexM.mono (fun w hw => ⟨hi w hw.1, hw.2⟩) (hk x)⟩)⟩

/-- An operation that may come now comes now. -/
theorem step_mix (hsel : ∀ (j : Nat) (o : Oper) cs b, ops[j]? = some o → o.op ≠ .select cs b) {c j : Nat} {oj : Oper} (hj : ops[j]? = some oj) {post : List (Nat × Nat)} :
    ∀ {pre : List (Nat × Nat)} {a : Act} {I : World → Prop}, (∀ p ∈ pre, ∀ oi, ops[p.2]? = some oi → oi.apart ops oj = true) → (∀ p ∈ pre, p.1 ≠ 2) →
      LexM P ops w0 Fin (pre ++ (c, j) :: post) a I →
      (∃ v, Ym P ops w0 I oj a v ∧ LexM P ops w0 Fin (pre ++ post) (a.put oj.dst v) I) ∨
      (∃ (α : Type) (val : α → Value) (R : α → World → Prop), Rm P ops w0 I oj a α val R ∧ ∀ x, LexM P ops w0 Fin (pre ++ post) (a.put oj.dst (val x)) (fun w => I w ∧ R x w))
  | [], a, I, _, _, ⟨o, ho, h⟩ => by
    rw [hj] at ho
    cases ho
    exact h.imp id (fun h => h.2)
  | p :: pre, a, I, hap, hnr, ⟨o, ho, h⟩ => by
    obtain ⟨h1, h2, h3⟩ := Oper.apart_spec (hap p (by simp) o ho)
    rcases h with ⟨v, hy, hk⟩ | ⟨hc, _⟩
    · rcases step_mix hsel hj (fun q hq => hap q (by simp [hq])) (fun q hq => hnr q (by simp [hq])) hk with ⟨u, hu, hk'⟩ | ⟨α, val, R, hr, hk'⟩
      · refine .inl ⟨u, (Ym.put (hsel j oj · · hj) h1 v).1 hu, ?_⟩
        refine ⟨o, ho, .inl ⟨v, (Ym.put (hsel p.2 o · · ho) h3 u).2 hy, ?_⟩⟩
        rw [← Act.put_comm a v u h2]
        exact hk'
      · refine .inr ⟨α, val, R, (Rm.put (hsel j oj · · hj) h1 v).1 hr, fun x => ?_⟩
        refine ⟨o, ho, .inl ⟨v, ((Ym.put (hsel p.2 o · · ho) h3 (val x)).2 hy).mono (fun w hw => hw.1), ?_⟩⟩
        rw [← Act.put_comm a v (val x) h2]
        exact hk' x
    · exact absurd hc (hnr p (by simp))
/-- One operation, in one world. -/
theorem wp_of_relAt {o : Oper} {a : Act} {S : Value → World → Prop} {w : World} {K : Act → World → Prop}
    (h : relUpon P w S ((execOp a.eval o).run P w)) (hK : ∀ v w', S v w' → K (a.put o.dst v) w') : o.wp P a w K Q := by
  unfold Oper.wp
  generalize (execOp a.eval o).run P w = r at *
  cases r with
  | halt x w' => exact h.elim
  | ok nx w' =>
    cases nx with
    | value u => exact hK _ _ h
    | enter f args =>
      obtain ⟨e, hc⟩ := h
      subst e
      exact hc.mono fun _ _ ⟨v, he, h'⟩ => by subst he; exact hK _ _ h'
    | _ => exact h.elim

def rem (L : List (Nat × Nat)) (listed : Array Bool) : List (Nat × Nat) := L.filter fun p => !listed.getD p.2 true
theorem mem_rem {listed : Array Bool} {p : Nat × Nat} : p ∈ rem L listed ↔ p ∈ L ∧ listed.getD p.2 true = false := by
  simp [rem]
theorem rem_set {listed : Array Bool} (nd : (L.map Prod.snd).Nodup) {pre post : List (Nat × Nat)} {c j : Nat} (hl : rem L listed = pre ++ (c, j) :: post) : rem L (listed.setIfInBounds j true) = pre ++ post := by
  have hj : listed.getD j true = false := by
    have : (c, j) ∈ rem L listed := by rw [hl]; simp
    exact (mem_rem.1 this).2
  have hs : j < listed.size := by
    rcases Nat.lt_or_ge j listed.size with h | h
    · exact h
    · simp [Array.getD, Nat.not_lt.2 h] at hj
  have h1 : rem L (listed.setIfInBounds j true) = (rem L listed).filter fun p => decide (p.2 ≠ j) := by
    unfold rem
    rw [List.filter_filter]
    apply List.filter_congr
    intro x hx
    by_cases hxi : x.2 = j
    · rw [hxi]
      simp [Array.getD, hs]
    · have : (listed.setIfInBounds j true).getD x.2 true = listed.getD x.2 true := getD_set_ne true (fun e => hxi e.symm)
      simp [this, hxi]
  have hnd : ((rem L listed).map Prod.snd).Nodup := nd.sublist (List.Sublist.map _ List.filter_sublist)
  rw [h1, hl]
  rw [hl, List.map_append, List.map_cons] at hnd
  obtain ⟨_, n2, n3⟩ := List.nodup_append.1 hnd
  have n2' := List.nodup_cons.1 n2
  rw [List.filter_append, List.filter_cons_of_neg (by simp)]
  congr 1
  · rw [List.filter_eq_self]
    intro p hp
    have := n3 p.2 (List.mem_map.2 ⟨p, hp, rfl⟩) j (by simp)
    simpa using this
  · rw [List.filter_eq_self]
    intro p hp
    have : p.2 ≠ j := fun e => n2'.1 (List.mem_map.2 ⟨p, hp, e⟩)
    simpa using this

theorem yields_mix {I : World → Prop} {o : Oper} {a : Act} {v : Value} {w : World} (hc : Calm P o) (hg : G w0 w) (hI : I w) (h : Ym P ops w0 I o a v) : Yields P ops o v a := by
  rcases h with ⟨h1, h2⟩ | h
  · refine .inl ⟨h1, ?_⟩
    have h3 := h2 w hg hI
    unfold Oper.quietAt at h3
    rcases hc a.eval w with ⟨u, hu⟩ | ⟨x, w'', hx⟩
    · rw [hu w] at h3
      obtain ⟨_, e⟩ := h3
      subst e
      exact hu
    · rw [hx] at h3
      exact h3.elim
  · exact .inr h

/-- A split of what is left is a split of all. -/
theorem rem_split {listed : Array Bool} {pre post : List (Nat × Nat)} {c j : Nat} (hl : rem L listed = pre ++ (c, j) :: post) : ∃ pre' post', L = pre' ++ (c, j) :: post' ∧ (∀ p ∈ pre, p ∈ pre') ∧ (∀ p ∈ pre', listed.getD p.2 true = false → p ∈ pre) := by
  unfold rem at hl
  obtain ⟨l1, l2, rfl, h1, h2⟩ := List.filter_eq_append_iff.1 hl
  obtain ⟨m1, m2, rfl, h3, h4, h5⟩ := List.filter_eq_cons_iff.1 h2
  refine ⟨l1 ++ m1, m2, by simp, fun p hp => ?_, fun p hp hu => ?_⟩
  · rw [← h1] at hp
    exact List.mem_append_left _ (List.mem_filter.1 hp).1
  · rcases List.mem_append.1 hp with hp | hp
    · rw [← h1]
      exact List.mem_filter.2 ⟨hp, by simp [hu]⟩
    · exact absurd (by simp [hu]) (h3 p hp)

theorem every_mix (K : OkM ops L N D) (hcalm : ∀ i o, i ∈ D → ops[i]? = some o → Calm P o) (hQ : D = [] ∨ ∀ (d : Option Tmp) (v : Value) c a w, Q (.panic c) (a.put d v) w → Q (.panic c) a w) :
    ∀ (k : Nat) (listed : Array Bool) (a : Act) (w : World) (I : World → Prop), (rem L listed).length = k → listed.size = ops.size →
      (∀ t, N ≤ t → t < ops.size → listed.getD t true = false) → Closed ops listed → (∀ w w', I w → G w w' → I w') → G w0 w → I w →
      LexM P ops w0 (fun a w => wpList P ops Q (ops.toList.drop N) a w) (rem L listed) a I →
      wpAny P .any ops Q (k + (ops.size - N)) listed a w := by
  intro k
  induction k with
  | zero =>
    intro listed a w I hk hs ht hc hI hw hIw h
    have hr : rem L listed = [] := List.length_eq_zero_iff.1 hk
    rw [hr] at h
    have hl : listed = doneUpto N (ops.size - N) := by
      apply Array.ext
      · simp [doneUpto, hs]; have := K.size; omega
      · intro i h1 h2
        by_cases hi : i < N
        · obtain ⟨c, hcm⟩ := (K.mem i).1 hi
          have : listed.getD i true = true := by
            cases hg : listed.getD i true
            · have : (c, i) ∈ rem L listed := mem_rem.2 ⟨hcm, hg⟩
              rw [hr] at this
              cases this
            · rfl
          simp only [Array.getD, h1, dite_true] at this
          rw [show (doneUpto N (ops.size - N))[i] = true from by simp [doneUpto, hi]]
          exact this
        · have := ht i (by omega) (by omega)
          simp only [Array.getD, h1, dite_true] at this
          rw [show (doneUpto N (ops.size - N))[i] = false from by simp [doneUpto, Array.getElem_append, hi]]
          exact this
    have hf := h w hw hIw
    have hlen : (ops.toList.drop N).length = ops.size - N := by simp
    have := wpAny_of_seq (P := P) (md := .any) (Q' := Q) (ops.toList.drop N) N listed a w (by intro j; simp) (by rw [hlen, hl]; exact K.seq) hf
    rw [hlen] at this
    simpa using this
  | succ k ih =>
    intro listed a w I hk hs ht hc hI hw hIw h
    have hne : rem L listed ≠ [] := by intro e; rw [e] at hk; cases hk
    have e : k + 1 + (ops.size - N) = (k + (ops.size - N)) + 1 := by omega
    rw [e]
    obtain ⟨⟨c0, i0⟩, r, hr0⟩ := List.exists_cons_of_ne_nil hne
    have hm0 : (c0, i0) ∈ rem L listed := by rw [hr0]; simp
    obtain ⟨hL0, hu0⟩ := mem_rem.1 hm0
    have hi0 : i0 < N := (K.mem i0).2 ⟨c0, hL0⟩
    have hlt0 : i0 < ops.size := by have := K.size; omega
    have ho0 : ops[i0]? = some ops[i0] := by simp [hlt0]
    have hready0 : i0 ∈ Region.ready .any ops listed := by
      refine mem_ready.2 ⟨hu0, ops[i0], ho0, fun e he hb => ?_⟩
      obtain ⟨pre', post', hL, _, hback⟩ := rem_split (pre := []) (post := r) (by simpa using hr0)
      obtain ⟨p, hp, hpe⟩ := K.back pre' c0 i0 post' hL ops[i0] ho0 e he hb
      have h1 : listed.getD p.2 true = true := by
        cases hg : listed.getD p.2 true
        · exact absurd (hback p hp hg) (by simp)
        · rfl
      rw [hpe] at h1
      have hon : e.on < N := by rw [← hpe]; exact (K.mem p.2).2 ⟨p.1, by rw [hL]; simp [hp]⟩
      have hes : e.on < listed.size := by have := K.size; omega
      simp only [Array.getD, hes, dite_true] at h1 ⊢
      exact h1
    have hnext : ∀ (pre post : List (Nat × Nat)) (c i : Nat) (o : Oper), rem L listed = pre ++ (c, i) :: post → ops[i]? = some o → (∀ e ∈ o.after, Region.binds .any e = true → listed.getD e.on false = true) →
        (rem L (listed.setIfInBounds i true)).length = k ∧ (listed.setIfInBounds i true).size = ops.size ∧ (∀ t, N ≤ t → t < ops.size → (listed.setIfInBounds i true).getD t true = false) ∧ Closed ops (listed.setIfInBounds i true) ∧ rem L (listed.setIfInBounds i true) = pre ++ post := by
      intro pre post c i o hsp ho hall
      have him : (c, i) ∈ rem L listed := by rw [hsp]; simp
      obtain ⟨hiL, hu⟩ := mem_rem.1 him
      have hiN : i < N := (K.mem i).2 ⟨c, hiL⟩
      have his : i < ops.size := (Array.getElem?_eq_some_iff.1 ho).1
      have hrs := rem_set K.nd hsp
      refine ⟨?_, by simpa using hs, ?_, ?_, hrs⟩
      · rw [hrs]
        rw [hsp] at hk
        simp only [List.length_append, List.length_cons] at hk ⊢
        omega
      · intro t h1 h2
        rw [getD_set_ne true (by omega : ¬ i = t)]
        exact ht t h1 h2
      · have hmono : ∀ x, listed.getD x false = true → (listed.setIfInBounds i true).getD x false = true := by
          intro x hx
          by_cases e : i = x
          · subst e
            have : i < listed.size := by omega
            simp [Array.getD, this]
          · rw [getD_set_ne false e]
            exact hx
        intro j oj hj hl e he hb
        by_cases e' : i = j
        · subst e'
          rw [ho] at hj
          cases hj
          exact hmono _ (hall e he hb)
        · rw [getD_set_ne false e'] at hl
          exact hmono _ (hc j oj hj hl e he hb)
    by_cases hall : ∀ p, p ∈ rem L listed → p.2 ∈ D
    · have hD0 := hall _ hm0
      have hQ : ∀ (d : Option Tmp) (v : Value) c a w, Q (.panic c) (a.put d v) w → Q (.panic c) a w := by
        rcases hQ with e | hQ
        · rw [e] at hD0
          cases hD0
        · exact hQ
      have hc0 := K.zero c0 i0 hL0 hD0
      subst hc0
      have h' := h
      rw [hr0] at h'
      obtain ⟨o, ho, h'⟩ := h'
      rw [ho0] at ho
      cases ho
      rcases h' with ⟨v, hy, hL'⟩ | ⟨h', _⟩
      · obtain ⟨q1, q2, q3, q4, q5⟩ := hnext [] r 0 i0 ops[i0] (by simpa using hr0) ho0 (fun e he hb => by
          obtain ⟨_, o', ho', hall'⟩ := mem_ready.1 hready0
          rw [ho0] at ho'
          cases ho'
          exact hall' e he hb)
        have hL2 : LexM P ops w0 (fun a w => wpList P ops Q (ops.toList.drop N) a w) (rem L (listed.setIfInBounds i0 true)) (a.put ops[i0].dst v) I := by
          rw [q5]
          exact hL'
        refine wpAny_first ho0 K.sel (hQ _ _) _ listed a w ?_ hready0 (yields_mix (hcalm i0 _ hD0 ho0) hw hIw hy) (ih _ _ w I q1 q2 q3 q4 hI hw hIw hL2)
        intro j oj hj hne' hun hno
        have hjs : j < ops.size := (Array.getElem?_eq_some_iff.1 hj).1
        rcases Nat.lt_or_ge j N with hjN | hjN
        · refine K.drift i0 _ j oj hD0 ho0 hjN hne' hj hno (fun e he hb hon => ?_)
          obtain ⟨_, o', ho', hall'⟩ := mem_ready.1 hready0
          rw [ho0] at ho'
          cases ho'
          have h1 := hall' e he hb
          rw [hon] at h1
          have hes : j < listed.size := by omega
          simp only [Array.getD, hes, dite_true] at h1 hun
          rw [hun] at h1
          cases h1
        · exact K.late j oj hjN hj i0 _ hi0 hD0 ho0 hno
      · cases h'
    · have hex : ∃ p, p ∈ rem L listed ∧ p.2 ∉ D := by
        by_cases hx : ∃ p, p ∈ rem L listed ∧ p.2 ∉ D
        · exact hx
        · exact absurd (fun p hp => by
            by_cases hd : p.2 ∈ D
            · exact hd
            · exact absurd ⟨p, hp, hd⟩ hx) hall
      obtain ⟨⟨cj, j0⟩, hj0, hjD⟩ := hex
      obtain ⟨hj0L, hj0u⟩ := mem_rem.1 hj0
      have hj0N : j0 < N := (K.mem j0).2 ⟨cj, hj0L⟩
      refine ⟨fun hr => (by rw [hr] at hready0; cases hready0), fun i hi => ?_⟩
      obtain ⟨hu, o, ho, hall'⟩ := mem_ready.1 hi
      have his : i < ops.size := (Array.getElem?_eq_some_iff.1 ho).1
      have hno : ∀ x, Rch ops i x → x < listed.size → listed.getD x true = false → False := by
        intro x hx hxs hxu
        have h1 := hx listed o ho hc hall'
        simp only [Array.getD, hxs, dite_true] at h1 hxu
        rw [hxu] at h1
        cases h1
      have hiN : i < N := by
        rcases Nat.lt_or_ge i N with h' | h'
        · exact h'
        · exact (hno j0 (K.tail i h' his j0 hj0N hjD) (by have := K.size; omega) hj0u).elim
      obtain ⟨c, hcL⟩ := (K.mem i).1 hiN
      have him : (c, i) ∈ rem L listed := mem_rem.2 ⟨hcL, hu⟩
      obtain ⟨pre, post, hsp⟩ := List.append_of_mem him
      obtain ⟨pre', post', hL3, hin, _⟩ := rem_split hsp
      have hpre : ∀ p ∈ pre, p.1 ≠ 2 ∧ ∀ oi, ops[p.2]? = some oi → oi.apart ops o = true := by
        intro p hp
        have hpm : p ∈ rem L listed := by rw [hsp]; simp [hp]
        obtain ⟨hpL, hpu⟩ := mem_rem.1 hpm
        have hpN : p.2 < N := (K.mem p.2).2 ⟨p.1, hpL⟩
        rcases K.pair pre' c i post' hL3 p (hin p hp) with hR | ⟨h2, hap⟩
        · exact (hno p.2 hR (by have := K.size; omega) hpu).elim
        · exact ⟨h2, fun oi hoi => hap oi o hoi ho⟩
      obtain ⟨q1, q2, q3, q4, q5⟩ := hnext pre post c i o hsp ho hall'
      rw [hsp] at h
      unfold wpOp
      simp only [ho]
      rcases step_mix K.sel ho (fun p hp => (hpre p hp).2) (fun p hp => (hpre p hp).1) h with ⟨v, hy, hL4⟩ | ⟨α, val, R, hr, hL4⟩
      · rw [← q5] at hL4
        rcases hy with ⟨hwant, hq⟩ | ⟨hwant, rfl⟩
        · rw [if_pos hwant]
          left
          exact wp_of_quietAt (hq w hw hIw) G.rfl (fun w' hg => ih _ _ w' I q1 q2 q3 q4 hI (hw.trans hg) (hI _ _ hIw hg) hL4)
        · rw [if_neg (by rw [hwant]; exact Bool.false_ne_true)]
          exact ih _ _ w I q1 q2 q3 q4 hI hw hIw hL4
      · obtain ⟨hwant, hst, hrel⟩ := hr
        rw [if_pos hwant]
        left
        refine wp_of_relAt (hrel w hw hIw) (fun v w' hS => ?_)
        obtain ⟨hg, x, rfl, hR⟩ := hS
        have := hL4 x
        rw [← q5] at this
        exact ih _ _ w' _ q1 q2 q3 q4 (fun y z hy hg' => ⟨hI _ _ hy.1 hg', hst x _ _ hy.2 hg'⟩) (hw.trans hg) ⟨hI _ _ hIw hg, hR⟩ this

/-! ### The walk, as a walk -/

def gentI (P : Program) (o : Oper) (a : Act) (w0 : World) (I : World → Prop) (K : Act → Prop) : Prop :=
  ∃ v, (∀ p : Regrown, I (grow (redrawn w0 p.d) p.os) → Oper.quietUpon P (fun w'' => G (grow (redrawn w0 p.d) p.os) w'') (grow (redrawn w0 p.d) p.os) v ((execOp a.eval o).run P (grow (redrawn w0 p.d) p.os))) ∧ K (a.put o.dst v)
def gentR (P : Program) (o : Oper) (a : Act) (w0 : World) (I : World → Prop) (K : Act → (World → Prop) → Prop) : Prop :=
  ∃ (α : Type) (val : α → Value) (R : α → World → Prop), (∀ x w w', R x w → G w w' → R x w') ∧ (∀ p : Regrown, I (grow (redrawn w0 p.d) p.os) → relUpon P (grow (redrawn w0 p.d) p.os) (fun v w' => G (grow (redrawn w0 p.d) p.os) w' ∧ ∃ x, v = val x ∧ R x w') ((execOp a.eval o).run P (grow (redrawn w0 p.d) p.os))) ∧ ∀ x, K (a.put o.dst (val x)) (fun w => I w ∧ R x w)

/-- Classes: 0: nothing need be known; 1: what is known so far serves; 2: of the answer no more is known than a relation. -/
def wpMix (P : Program) (ops : Array Oper) (w0 : World) (K : Act → (World → Prop) → Prop) : List Nat → List Oper → Act → (World → Prop) → Prop
  | _, [], a, I => K a I
  | [], _ :: _, _, _ => False
  | c :: cs, o :: os, a, I => if Region.wanted o (yielded ops a.tmps) then
      (if c = 0 then gent P o a w0 (fun a' => wpMix P ops w0 K cs os a' I) else if c = 1 then gentI P o a w0 I (fun a' => wpMix P ops w0 K cs os a' I) else if c = 2 then gentR P o a w0 I (fun a' I' => wpMix P ops w0 K cs os a' I') else False)
    else wpMix P ops w0 K cs os (a.put o.dst undef) I

theorem wpMix_nil {K : Act → (World → Prop) → Prop} {cs : List Nat} {a : Act} {I : World → Prop} (h : K a I) : wpMix P ops w0 K cs [] a I := by
  cases cs <;> exact h
theorem wpMix_step {K : Act → (World → Prop) → Prop} {cs : List Nat} {os : List Oper} {a : Act} {I : World → Prop} {o : Oper}
    (h : ∀ k : Act → Prop, (∀ a, wpMix P ops w0 K cs os a I → k a) → if Region.wanted o (yielded ops a.tmps) then gent P o a w0 k else k (a.put o.dst undef)) : wpMix P ops w0 K (0 :: cs) (o :: os) a I := by
  have := h _ (fun _ h => h)
  unfold wpMix
  simpa using this
theorem wpMix_known {K : Act → (World → Prop) → Prop} {cs : List Nat} {os : List Oper} {a : Act} {I : World → Prop} {o : Oper}
    (h : ∀ k : Act → Prop, (∀ a, wpMix P ops w0 K cs os a I → k a) → if Region.wanted o (yielded ops a.tmps) then gentI P o a w0 I k else k (a.put o.dst undef)) : wpMix P ops w0 K (1 :: cs) (o :: os) a I := by
  have := h _ (fun _ h => h)
  unfold wpMix
  simpa using this
theorem wpMix_rel {K : Act → (World → Prop) → Prop} {cs : List Nat} {os : List Oper} {a : Act} {I : World → Prop} {o : Oper}
    (h : ∀ k : Act → (World → Prop) → Prop, (∀ a I', wpMix P ops w0 K cs os a I' → k a I') → if Region.wanted o (yielded ops a.tmps) then gentR P o a w0 I k else k (a.put o.dst undef) I) : wpMix P ops w0 K (2 :: cs) (o :: os) a I := by
  have := h _ (fun _ _ h => h)
  unfold wpMix
  simpa using this

theorem lexM_of_mix {K : Act → (World → Prop) → Prop} (hK : ∀ a I, K a I → LexM P ops w0 Fin [] a I) (os : List Oper) :
    ∀ (cs ix : List Nat) (a : Act) (I : World → Prop), cs.length = os.length → ix.length = os.length → (∀ (k i : Nat) (o : Oper), ix[k]? = some i → os[k]? = some o → ops[i]? = some o) → wpMix P ops w0 K cs os a I → LexM P ops w0 Fin (cs.zip ix) a I := by
  induction os with
  | nil =>
    intro cs ix a I h1 h2 h3 h
    obtain rfl : cs = [] := List.length_eq_zero_iff.1 (by simpa using h1)
    obtain rfl : ix = [] := List.length_eq_zero_iff.1 (by simpa using h2)
    exact hK a I h
  | cons o os ih =>
    intro cs ix a I h1 h2 h3 h
    cases cs with
    | nil => simp at h1
    | cons c cs =>
    cases ix with
    | nil => simp at h2
    | cons i ix =>
    have h0 : ops[i]? = some o := h3 0 i o rfl rfl
    have ih := fun a' I' => ih cs ix a' I' (by simpa using h1) (by simpa using h2) (fun k i' o' e1 e2 => h3 (k + 1) i' o' (by simpa using e1) (by simpa using e2))
    refine ⟨o, h0, ?_⟩
    unfold wpMix at h
    by_cases hw : Region.wanted o (yielded ops a.tmps) = true
    · rw [if_pos hw] at h
      by_cases c0 : c = 0
      · rw [if_pos c0] at h
        obtain ⟨v, hv, hk⟩ := h
        refine .inl ⟨v, .inl ⟨hw, fun w hg _ => ?_⟩, ih _ _ hk⟩
        obtain ⟨p, rfl⟩ := regrown_of_below hg
        exact hv p
      · rw [if_neg c0] at h
        by_cases c1 : c = 1
        · rw [if_pos c1] at h
          obtain ⟨v, hv, hk⟩ := h
          refine .inl ⟨v, .inl ⟨hw, fun w hg hI => ?_⟩, ih _ _ hk⟩
          obtain ⟨p, rfl⟩ := regrown_of_below hg
          exact hv p hI
        · rw [if_neg c1] at h
          by_cases c2 : c = 2
          · rw [if_pos c2] at h
            obtain ⟨α, val, R, hst, hv, hk⟩ := h
            refine .inr ⟨c2, α, val, R, ⟨hw, hst, fun w hg hI => ?_⟩, fun x => ih _ _ (hk x)⟩
            obtain ⟨p, rfl⟩ := regrown_of_below hg
            exact hv p hI
          · rw [if_neg c2] at h
            exact h.elim
    · rw [if_neg hw] at h
      exact .inl ⟨undef, .inr ⟨by simpa using hw, rfl⟩, ih _ _ h⟩

def pickS (l : List Oper) (segs : List (Nat × Nat)) : List Oper := segs.flatMap fun s => (l.take s.2).drop s.1
def ordS (segs : List (Nat × Nat)) : List Nat := segs.flatMap fun s => List.range' s.1 (s.2 - s.1)
theorem pick_at (l : List Oper) (k s n i : Nat) (o : Oper) (h1 : (List.range' s n)[k]? = some i) (h2 : ((l.take (s + n)).drop s)[k]? = some o) : l[i]? = some o := by
  have hk : k < n := by
    have := (List.getElem?_eq_some_iff.1 h1).1
    simpa using this
  rw [List.getElem?_range' (by omega)] at h1
  have : s + k = i := by simpa using h1
  rw [← this]
  rw [List.getElem?_drop, List.getElem?_take, if_pos (by omega)] at h2
  exact h2
theorem pick_len (l : List Oper) : ∀ (segs : List (Nat × Nat)), (∀ s ∈ segs, s.1 ≤ s.2 ∧ s.2 ≤ l.length) → (pickS l segs).length = (ordS segs).length ∧ ∀ (k i : Nat) (o : Oper), (ordS segs)[k]? = some i → (pickS l segs)[k]? = some o → l[i]? = some o
  | [], _ => ⟨rfl, fun k i o h => by simp [ordS] at h⟩
  | s :: segs, hs => by
    obtain ⟨h1, h2⟩ := pick_len l segs (fun t ht => hs t (by simp [ht]))
    obtain ⟨g1, g2⟩ := hs s (by simp)
    have hl : ((l.take s.2).drop s.1).length = s.2 - s.1 := by rw [List.length_drop, List.length_take, Nat.min_eq_left g2]
    have e1 : pickS l (s :: segs) = (l.take s.2).drop s.1 ++ pickS l segs := by simp [pickS]
    have e2 : ordS (s :: segs) = List.range' s.1 (s.2 - s.1) ++ ordS segs := by simp [ordS]
    refine ⟨by rw [e1, e2, List.length_append, List.length_append, h1, hl, List.length_range'], fun k i o hi ho => ?_⟩
    rw [e2] at hi
    rw [e1] at ho
    by_cases hk : k < s.2 - s.1
    · rw [List.getElem?_append_left (by simpa using hk)] at hi
      rw [List.getElem?_append_left (by rw [hl]; exact hk)] at ho
      exact pick_at l k s.1 (s.2 - s.1) i o hi (by rw [show s.1 + (s.2 - s.1) = s.2 by omega]; exact ho)
    · rw [List.getElem?_append_right (by simpa using hk)] at hi
      rw [List.getElem?_append_right (by rw [hl]; omega)] at ho
      rw [hl] at ho
      rw [List.length_range'] at hi
      exact h2 _ i o hi ho

def mixL (l : List Oper) (segs : List (Nat × Nat)) (cl : List Nat) (N : Nat) (D : List Nat) : Bool :=
  (segs.all fun s => decide (s.1 ≤ s.2) && decide (s.2 ≤ l.length)) && decide (cl.length = (ordS segs).length) && mixB l.toArray (cl.zip (ordS segs)) N D

/-- **ONE WALK, IN AN ORDER OF OUR CHOICE, SERVES EVERY ORDER.** -/
theorem wp_region_mix {id : Nat} {a : Act} {w : World} {l : List Oper} (segs : List (Nat × Nat)) (cl : List Nat) (N : Nat) (D : List Nat) (hm : P.follows .mixedOrders = true) (hB : mixL l segs cl N D = true)
    (hc : ∀ i o, i ∈ D → l[i]? = some o → Calm P o) (hQ : D = [] ∨ ∀ (d : Option Tmp) (v : Value) c a w, Q (.panic c) (a.put d v) w → Q (.panic c) a w)
    (h : wpMix P l.toArray w (fun a' I => ∀ w', Below w.heap.size w w' → I w' → wpList P l.toArray Q (l.drop N) a' w') cl (pickS l segs) a (fun _ => True)) : (Code.region id l.toArray true).wp P Q a w := by
  simp only [mixL, Bool.and_eq_true, decide_eq_true_eq, List.all_eq_true] at hB
  obtain ⟨⟨hs, hcl⟩, hB⟩ := hB
  have K := okM_of hB
  obtain ⟨hlen, hat⟩ := pick_len l segs hs
  refine wp_region_any hm ?_
  have hr : rem (cl.zip (ordS segs)) (Array.replicate l.toArray.size false) = cl.zip (ordS segs) := by
    unfold rem
    rw [List.filter_eq_self]
    intro p hp
    have hpN : p.2 < N := (K.mem p.2).2 ⟨p.1, hp⟩
    have : p.2 < l.length := by have := K.size; simp at this; omega
    simp [Array.getD, this]
  have hL : LexM P l.toArray w (fun a w => wpList P l.toArray Q (l.toArray.toList.drop N) a w) (cl.zip (ordS segs)) a (fun _ => True) := by
    refine lexM_of_mix (K := fun a' I => ∀ w', Below w.heap.size w w' → I w' → wpList P l.toArray Q (l.drop N) a' w') (fun a' I hk w' hg hI => hk w' hg hI) (pickS l segs) cl (ordS segs) a _ (by rw [hcl, hlen]) hlen.symm (fun k i o e1 e2 => by simpa using hat k i o e1 e2) h
  have hln : (cl.zip (ordS segs)).length = N := by
    have h1 : ((cl.zip (ordS segs)).map Prod.snd).length = N := by
      have hsub : ((cl.zip (ordS segs)).map Prod.snd).Perm (List.range N) := by
        refine (List.perm_ext_iff_of_nodup K.nd List.nodup_range).2 fun i => ?_
        rw [List.mem_range, K.mem i]
        constructor
        · intro hi
          obtain ⟨p, hp, rfl⟩ := List.mem_map.1 hi
          exact ⟨p.1, hp⟩
        · rintro ⟨c, hc⟩
          exact List.mem_map.2 ⟨_, hc, rfl⟩
      rw [hsub.length_eq, List.length_range]
    simpa using h1
  have := every_mix (w0 := w) K (fun i o hi ho => hc i o hi (by simpa using ho)) hQ N (Array.replicate l.toArray.size false) a { w with drawn := w.drawn + 1 } (fun _ => True) (by rw [hr]; exact hln) (by simp)
    (fun t _ ht => by simp only [Array.getD, Array.size_replicate, ht, dite_true]; simp) (closed_none _) (fun _ _ _ _ => trivial) (show Below _ _ _ from ⟨rfl, rfl, rfl, Nat.le_refl _, fun _ _ => rfl⟩) trivial (by rw [hr]; exact hL)
  have hN := K.size
  rwa [show N + (l.toArray.size - N) = l.toArray.size from by omega] at this
end
end Go.Proofs.Ytbkpndgadgafiae.Loose

namespace Go.Proofs.Ytbkpndgadgafiae.Loose
open Go.RowKit Go.Sort

/-- Operations that enter no function. -/
def plainOp : Op → Bool
  | .move _ | .assign _ | .pick .. | .load .. | .nilCheck _ | .binOp .. | .unOp .. | .fieldAddr .. | .indexAddr .. | .extract .. | .field .. | .index .. | .build .. | .slice .. | .convert .. => true
  | _ => false

section
variable {P : Program} {ops : Array Oper} {w0 : World}

theorem no_v {s : Sem Value} {w : World} {f : FuncId} {args : Array Value} {w' : World} : (do let x ← s; pure (Next.value x) : Sem Next).run P w ≠ .ok (.enter f args) w' := by
  rw [Sem.run_bind]
  cases s.run P w with
  | ok v w1 => rw [Result.andThen_ok, Sem.run_pure]; intro h; cases h
  | halt h w1 => rw [Result.andThen_halt]; intro h; cases h

theorem no_bind {β : Type} {s : Sem β} {k : β → Sem Next} {w : World} {f : FuncId} {args : Array Value} {w' : World} (h : ∀ x w1, (k x).run P w1 ≠ .ok (.enter f args) w') : (do let x ← s; k x : Sem Next).run P w ≠ .ok (.enter f args) w' := by
  rw [Sem.run_bind]
  cases s.run P w with
  | ok v w1 => rw [Result.andThen_ok]; exact h v w1
  | halt h w1 => rw [Result.andThen_halt]; intro h; cases h
theorem no_value {v : Value} {w : World} {f : FuncId} {args : Array Value} {w' : World} : (pure (Next.value v) : Sem Next).run P w ≠ .ok (.enter f args) w' := by
  rw [Sem.run_pure]; intro h; cases h

theorem no_enter {o : Oper} (h : plainOp o.op = true) (e : Operand → Value) (w : World) (f : FuncId) (args : Array Value) (w' : World) : (execOp e o).run P w ≠ .ok (.enter f args) w' := by
  unfold execOp
  cases ho : o.op <;> rw [ho] at h <;> first | (cases h; done) | skip
  all_goals simp only
  all_goals first
    | exact no_v
    | (intro h'; cases h'; done)
    | skip
  · exact no_bind fun x w1 => no_value
  · split
    any_goals exact no_value
    any_goals (intro h'; cases h'; done)
    split
    any_goals exact no_value
    any_goals (intro h'; cases h'; done)
    refine no_bind fun x w1 => no_bind fun y w2 => ?_
    split
    · exact no_bind fun _ _ => no_value
    · exact no_value

theorem gent_of_quiet {o : Oper} (hp : plainOp o.op = true) {a : Act} {K : Act → Prop} (h : o.quiet P a (fun w' => ∃ p : Regrown, w' = grow (redrawn w0 p.d) p.os) K) : gent P o a w0 K := by
  obtain ⟨v, hv, hk⟩ := h
  refine ⟨v, fun p => ?_, hk⟩
  have h1 := hv _ ⟨p, rfl⟩
  unfold Oper.quietAt at h1
  have h2 := no_enter (P := P) hp a.eval (grow (redrawn w0 p.d) p.os)
  generalize (execOp a.eval o).run P (grow (redrawn w0 p.d) p.os) = r at *
  cases r with
  | halt x w' => exact h1
  | ok nx w' =>
    cases nx with
    | enter f args => exact absurd rfl (h2 f args w')
    | _ => exact h1

/-- A block of such operations. -/
theorem wpMix_block {K : Act → (World → Prop) → Prop} {I : World → Prop} (n : Nat) : ∀ {cs : List Nat} {os : List Oper} {a : Act}, ((cs.take n).all (fun c => c == 0) && decide (n ≤ cs.length) && (os.take n).all (fun o => plainOp o.op)) = true →
    wpQuiet P ops (fun w' => ∃ p : Regrown, w' = grow (redrawn w0 p.d) p.os) (fun a' => wpMix P ops w0 K (cs.drop n) (os.drop n) a' I) (os.take n) a → wpMix P ops w0 K cs os a I := by
  induction n with
  | zero =>
    intro cs os a _ h
    rw [List.take_zero, List.drop_zero, List.drop_zero] at h
    exact h
  | succ n ih =>
    intro cs os a hb h
    cases os with
    | nil =>
      rw [List.take_nil, List.drop_nil] at h
      have h' : wpMix P ops w0 K (cs.drop (n + 1)) [] a I := h
      refine wpMix_nil ?_
      cases hd : cs.drop (n + 1) with
      | nil => rw [hd] at h'; exact h'
      | cons x y => rw [hd] at h'; exact h'
    | cons o os =>
    cases cs with
    | nil => simp at hb
    | cons c cs =>
    simp only [List.take_succ_cons, List.all_cons, Bool.and_eq_true, beq_iff_eq, List.length_cons, decide_eq_true_eq] at hb
    obtain ⟨⟨⟨hc, hcs⟩, hn⟩, ho, hos⟩ := hb
    subst hc
    have ih := fun a' => ih (cs := cs) (os := os) (a := a') (by simp only [Bool.and_eq_true, decide_eq_true_eq]; exact ⟨⟨hcs, by omega⟩, hos⟩)
    simp only [List.take_succ_cons, List.drop_succ_cons, wpQuiet] at h
    refine wpMix_step fun k hk => ?_
    by_cases hw : Region.wanted o (yielded ops a.tmps) = true
    · rw [if_pos hw] at h ⊢
      refine gent_of_quiet ho ?_
      obtain ⟨v, hv, hq⟩ := h
      exact ⟨v, hv, hk _ (ih _ hq)⟩
    · rw [if_neg hw] at h ⊢
      exact hk _ (ih _ h)
end
end Go.Proofs.Ytbkpndgadgafiae.Loose
