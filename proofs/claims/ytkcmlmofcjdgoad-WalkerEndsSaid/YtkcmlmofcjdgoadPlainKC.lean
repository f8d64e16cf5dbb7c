
/-
  A walk over words that nobody else changes, held against what is on the way.
-/
import Derived.Test.YtkcmlmofcjdgoadPlainKB
import Derived.Test.YtkcmlmofcjdgoadPlainT
namespace Go.Proofs.Ytkcmlmofcjdgoad
open Go.RowKit
namespace Pg
/-- Where a walk from the root 0 on is, behind i steps: it reads on, or it is to mark the leaf that it read. -/
def KRun (S : Fs) (q k : Int) (u : Bool) (i : Nat) (K : Wk) : Prop :=
  (∃ (t : Int) (lv a : Nat) (P : List Sp), i + lv = 3 ∧ thr S (onW q) 3 0 0 = (P ++ (thr S (onW q) lv t a).1, (thr S (onW q) lv t a).2) ∧ K = Wk.at' q k u t lv 0) ∨
  (∃ (t : Int) (lv a : Nat) (P : List Sp), i + lv = 4 ∧ thr S (onW q) 3 0 0 = (P ++ [spt S t (ix q lv) lv a], 0) ∧ rCode S t (ix q lv) lv = 0 ∧ (rEn S t (ix q lv) lv).l = true ∧ may (rEn S t (ix q lv) lv).r k u = true ∧ S.word t.toNat (ix q lv) ≠ 0 ∧ K = Wk.at' q k u t lv (S.word t.toNat (ix q lv)))
theorem KRun.read {S : Fs} {q k : Int} {u : Bool} {i : Nat} (t : Int) (lv a : Nat) (P : List Sp) (hi : i + lv = 3) (hP : thr S (onW q) 3 0 0 = (P ++ (thr S (onW q) lv t a).1, (thr S (onW q) lv t a).2)) : KRun S q k u i (Wk.at' q k u t lv 0) := .inl ⟨t, lv, a, P, hi, hP, rfl⟩
theorem KRun.mark {S : Fs} {q k : Int} {u : Bool} {i : Nat} (t : Int) (lv a : Nat) (P : List Sp) (hi : i + lv = 4) (hP : thr S (onW q) 3 0 0 = (P ++ [spt S t (ix q lv) lv a], 0)) (hc : rCode S t (ix q lv) lv = 0) (hl : (rEn S t (ix q lv) lv).l = true) (hm : may (rEn S t (ix q lv) lv).r k u = true) (hx : S.word t.toNat (ix q lv) ≠ 0) : KRun S q k u i (Wk.at' q k u t lv (S.word t.toNat (ix q lv))) := .inr ⟨t, lv, a, P, hi, hP, hc, hl, hm, hx, rfl⟩
/-- What a walk told at its end, and what it leaves, held against Find. -/
def KEnd (S : Fs) (q k : Int) (u : Bool) (R : Rs) (S' : Fs) : Prop :=
  (tFC S 0 q = 5 ∧ R.a = 1 ∧ R.f = 0 ∧ R.r = 0 ∧ S' = S) ∨
  (tFC S 0 q = 0 ∧ R.a = aEnd (tFM S 0 q).r k u ∧ R.f = aFrame (tFM S 0 q).p (tFM S 0 q).f (tFM S 0 q).r q k u ∧ R.r = aRights (tFM S 0 q).r k u ∧
    (R.a ≠ 0 → S' = S) ∧ (R.a = 0 → fndC S 0 q = 0 ∧ S' = S.store (lastT (fndX S 0 q)) (index q (lastL (fndX S 0 q))) (enc (tFE S 0 q).t (tFE S 0 q).l (tFE S 0 q).r true ((tFE S 0 q).d || k == 1) (tFE S 0 q).f (lastL (fndX S 0 q)))))

theorem store_self {S : Fs} (t : Int) (i : Nat) : S.store t (i : Int) (S.word t.toNat i) = S := by
  unfold Fs.store
  split
  · have e : Fs.put S.word t.toNat (i : Int).toNat (S.word t.toNat i) = S.word := by
      funext a b
      unfold Fs.put
      split
      · rename_i h
        rw [h.1, h.2]
        rfl
      · rfl
    rw [e]
  · rfl

/-- What Find tells where the way ends at a place. -/
theorem end_at {S : Fs} {q : Int} (hq : below q 4096 = true) {P : List Sp} {t : Int} {lv a : Nat} (hP : thr S (onW q) 3 0 0 = (P ++ [spt S t (ix q lv) lv a], 0)) :
    fndC S 0 q = 0 ∧ lastT (fndX S 0 q) = t ∧ lastL (fndX S 0 q) = (lv : Int) ∧ lastE (fndX S 0 q) = rEn S t (ix q lv) lv := by
  have e1 : fndX S 0 q = P ++ [spt S t (ix q lv) lv a] := by simp [fndX, hq, hP]
  refine ⟨by simp [fndC, hq, hP], ?_, ?_, ?_⟩
  · rw [e1]; simp [lastT, spt]
  · rw [e1, lastL_push]; rfl
  · rw [e1, lastE_push]; rfl
theorem leaf_rights {e : En} {lv q : Int} (hq : below q 4096 = true) (hl : e.l = true) (hf : e.fault lv = 0) : (e.map lv q).r = e.r := by
  have h0 : eFault e.t e.l e.r e.u e.d e.f lv = 0 := hf
  have h1 : lOk e.t e.l e.r e.u e.d e.f lv q = true := by
    unfold lOk
    rw [h0, hl, hq]
    rfl
  show lRights e.t e.l e.r e.u e.d e.f lv q = e.r
  unfold lRights
  rw [if_pos h1]

theorem kEnds {S : Fs} (hS : S.Ok) {q k : Int} {u : Bool} (hq : below q 4096 = true) {i : Nat} {K : Wk} (h : KRun S q k u i K) :
    i ≤ 4 ∧ match kOut S 0 K with
      | .inl c => c ≠ 0 ∧ fndC S 0 q = c
      | .inr (.inl K') => KRun S q k u (i + 1) K'
      | .inr (.inr (.inl r)) => KEnd S q k u ((Wo.stop r).res K) S
      | .inr (.inr (.inr (e, m))) => KEnd S q k u ((Wo.done e m).res K) ((Wo.done e m).fs S K) := by
  rcases h with ⟨t, lv, a, P, hi, hP, rfl⟩ | ⟨t, lv, a, P, hi, hP, hc, hl, hm, hx, rfl⟩
  · refine ⟨by omega, ?_⟩
    rw [thr_way S q lv t a] at hP
    have hr := kRead S 0 q k u t lv
    by_cases hc : rCode S t (ix q lv) lv = 0
    · rw [if_neg (by simpa using hc)] at hP hr
      have hfl := rEn_fault hS hc
      cases ho : (rEn S t (ix q lv) lv).on
      · rw [if_pos ho] at hP
        obtain ⟨c1, c2, c3, c4⟩ := end_at hq hP
        by_cases h1 : (rEn S t (ix q lv) lv).t = false
        · rw [if_pos h1] at hr
          rw [hr]
          refine .inl ⟨?_, rfl, rfl, rfl, rfl⟩
          unfold tFC
          rw [c1, c4, if_neg (by simp), if_neg (by simp [h1])]
        · rw [if_neg h1] at hr
          have h1 : (rEn S t (ix q lv) lv).t = true := by simpa using h1
          have hl : (rEn S t (ix q lv) lv).l = true := by
            simp only [En.on, h1, Bool.true_and] at ho
            simpa using ho
          rw [if_neg (by simp [hl])] at hr
          have z0 : tFC S 0 q = 0 := by
            unfold tFC
            rw [c1, c4, if_neg (by simp), if_pos h1]
          have z1 : tFM S 0 q = (rEn S t (ix q lv) lv).map lv q := by
            unfold tFM
            rw [if_pos z0, c3, c4]
          have z2 : tFE S 0 q = rEn S t (ix q lv) lv := by
            unfold tFE
            rw [if_pos z0, c4]
          have z3 := leaf_rights hq hl hfl
          by_cases h2 : may (rEn S t (ix q lv) lv).r k u = false
          · rw [if_pos h2] at hr
            rw [hr]
            refine .inr ⟨z0, ?_, ?_, ?_, fun _ => rfl, fun h => by cases h⟩
            · rw [z1, z3, aEnd, if_neg (by simp [h2])]; rfl
            · rw [z1, z3, aFrame, if_neg (by simp [h2])]; rfl
            · rw [z1, z3, aRights, if_neg (by simp [h2])]; rfl
          · rw [if_neg h2] at hr
            have h2 : may (rEn S t (ix q lv) lv).r k u = true := by simpa using h2
            have hh : S.has t = true := rCode_has hc
            obtain ⟨e1, e2⟩ := rCode_of (i := ix q lv) (lv := lv) hh
            by_cases h3 : (Wk.at' q k u t lv 0).ready (rEn S t (ix q lv) lv) = false
            · rw [if_pos h3] at hr
              rw [hr]
              refine .mark t lv a P (by omega) hP hc hl h2 fun e => ?_
              rw [e2, e] at h1
              simp [En.of, dGood] at h1
            · rw [if_neg h3] at hr
              rw [hr]
              refine .inr ⟨z0, by rw [z1]; rfl, by rw [z1]; rfl, by rw [z1]; rfl, fun _ => rfl, fun _ => ⟨c1, ?_⟩⟩
              have h3 : (Wk.at' q k u t lv 0).ready (rEn S t (ix q lv) lv) = true := by simpa using h3
              have hm := mark_same h3
              have hlv : lv < 4 := by omega
              rw [c2, c3, z2, index_ix hq hlv]
              have ew : enc (rEn S t (ix q lv) lv).t (rEn S t (ix q lv) lv).l (rEn S t (ix q lv) lv).r true ((rEn S t (ix q lv) lv).d || k == 1) (rEn S t (ix q lv) lv).f lv = S.word t.toNat (ix q lv) := by
                have h5 : enc ((Wk.at' q k u t lv 0).mark (rEn S t (ix q lv) lv)).t ((Wk.at' q k u t lv 0).mark (rEn S t (ix q lv) lv)).l ((Wk.at' q k u t lv 0).mark (rEn S t (ix q lv) lv)).r ((Wk.at' q k u t lv 0).mark (rEn S t (ix q lv) lv)).u ((Wk.at' q k u t lv 0).mark (rEn S t (ix q lv) lv)).d ((Wk.at' q k u t lv 0).mark (rEn S t (ix q lv) lv)).f lv = S.word t.toNat (ix q lv) := by
                  rw [hm, e2]
                  exact (enc_dec (hS.low _ _) (by rw [← e1]; exact hc)).2
                exact h5
              rw [ew, store_self]
              rfl
      · rw [if_neg (by simp [ho])] at hP
        obtain ⟨m, rfl⟩ := rEn_on ho
        simp only [En.on, Bool.and_eq_true, Bool.not_eq_true'] at ho
        rw [if_neg (by simp [ho.1]), if_pos ho.2] at hr
        rw [hr]
        refine .read _ m ((a + ix q (m + 1)) * 8) (P ++ [spt S t (ix q (m + 1)) (m + 1) a]) (by omega) ?_
        rw [hP]
        simp only [List.append_assoc, List.singleton_append]
        rfl
    · rw [if_pos hc] at hP hr
      rw [hr]
      exact ⟨hc, by simp [fndC, hq, hP]⟩
  · refine ⟨by omega, ?_⟩
    have hh : S.has t = true := rCode_has hc
    obtain ⟨e1, e2⟩ := rCode_of (i := ix q lv) (lv := lv) hh
    have hr := kMark (root := 0) (k := k) (u := u) hx hh rfl
    rw [hr, ← e2]
    have hfl := rEn_fault hS hc
    obtain ⟨c1, c2, c3, c4⟩ := end_at hq hP
    have ht := (rEn_leaf hS hl).2.1
    have z0 : tFC S 0 q = 0 := by
      unfold tFC
      rw [c1, c4, if_neg (by simp), if_pos ht]
    have z1 : tFM S 0 q = (rEn S t (ix q lv) lv).map lv q := by
      unfold tFM
      rw [if_pos z0, c3, c4]
    have z2 : tFE S 0 q = rEn S t (ix q lv) lv := by
      unfold tFE
      rw [if_pos z0, c4]
    have z3 := leaf_rights hq hl hfl
    have z4 := (mark_leaf (K := Wk.at' q k u t lv (S.word t.toNat (ix q lv))) hl hfl).2 q
    have za : (Wo.res (Wk.at' q k u t lv (S.word t.toNat (ix q lv))) (Wo.done ((Wk.at' q k u t lv (S.word t.toNat (ix q lv))).mark (rEn S t (ix q lv) lv)) true)).a = aEnd (((Wk.at' q k u t lv (S.word t.toNat (ix q lv))).mark (rEn S t (ix q lv) lv)).map lv q).r k u := rfl
    refine .inr ⟨z0, ?_, ?_, ?_, fun h => ?_, fun _ => ⟨c1, ?_⟩⟩
    · rw [z1, ← z4]; rfl
    · rw [z1, ← z4]; rfl
    · rw [z1, ← z4]; rfl
    · rw [za, z4, z3, aEnd, if_pos hm] at h
      exact absurd rfl h
    · rw [c2, c3, z2]
      rfl
theorem kRun_start (S : Fs) (q k : Int) (u : Bool) : KRun S q k u 0 (Wk.start 0 q k u) := .read 0 3 0 [] rfl rfl
end Pg
end Go.Proofs.Ytkcmlmofcjdgoad
