/-
  CoreKeeps is true for every argument: what was found is used again; told of it, the core looks anew.
-/
import Derived.Test.YtbkpndgadgafiaePlainKB
import Derived.Test.YtbkpndgadgafiaePlainT
import Derived.Test.YtbkpndgadgafiaePlainC
import Derived.Test.YtbkpndgadgafiaeCrB
import Derived.Test.YtbkpndgadgafiaeCrC
import Derived.Test.YtbkpndgadgafiaeWalkH
import Derived.Test.YtbkpndgadgafiaeLooseD
import Derived.Test.YtbkpndgadgafiaePageRef
import Derived.Test.YtbkpndgadgafiaeFrameW
import Derived.Deep.DeepCutAuto
import Derived.Test.YtbkpndgadgafiaeRows
namespace Go.Proofs.Ytbkpndgadgafiae
open Go.RowKit
namespace Pg
/-- Where a walk from the root 0 on is, behind i steps: it reads on, or it is to mark the leaf that it read. -/
def KRun (S : Fs) (q k : Int) (u : Bool) (i : Nat) (K : Wk) : Prop :=
  (∃ (t : Int) (lv a : Nat) (P : List Sp), i + lv = 3 ∧ thr S (onW q) 3 0 0 = (P ++ (thr S (onW q) lv t a).1, (thr S (onW q) lv t a).2) ∧ K = Wk.at' q k u t lv 0) ∨
  (∃ (t : Int) (lv a : Nat) (P : List Sp), i + lv = 4 ∧ thr S (onW q) 3 0 0 = (P ++ [spt S t (ix q lv) lv a], 0) ∧ rCode S t (ix q lv) lv = 0 ∧ (rEn S t (ix q lv) lv).l = true ∧ may (rEn S t (ix q lv) lv).r k u = true ∧ S.word t.toNat (ix q lv) ≠ 0 ∧ K = Wk.at' q k u t lv (S.word t.toNat (ix q lv)))
theorem KRun.read {S : Fs} {q k : Int} {u : Bool} {i : Nat} (t : Int) (lv a : Nat) (P : List Sp) (hi : i + lv = 3) (hP : thr S (onW q) 3 0 0 = (P ++ (thr S (onW q) lv t a).1, (thr S (onW q) lv t a).2)) : KRun S q k u i (Wk.at' q k u t lv 0) := .inl ⟨t, lv, a, P, hi, hP, rfl⟩
theorem KRun.mark {S : Fs} {q k : Int} {u : Bool} {i : Nat} (t : Int) (lv a : Nat) (P : List Sp) (hi : i + lv = 4) (hP : thr S (onW q) 3 0 0 = (P ++ [spt S t (ix q lv) lv a], 0)) (hc : rCode S t (ix q lv) lv = 0) (hl : (rEn S t (ix q lv) lv).l = true) (hm : may (rEn S t (ix q lv) lv).r k u = true) (hx : S.word t.toNat (ix q lv) ≠ 0) : KRun S q k u i (Wk.at' q k u t lv (S.word t.toNat (ix q lv))) := .inr ⟨t, lv, a, P, hi, hP, hc, hl, hm, hx, rfl⟩
/-- What a walk told at its end, and what it leaves, held against Find. -/
def KEnd (S : Fs) (q k : Int) (u : Bool) (R : Rs) (S' : Fs) : Prop :=
  (tFC S 0 q = 5 ∧ R.a = 1 ∧ R.f = 0 ∧ R.r = 0 ∧ S' = S) ∨
  (tFC S 0 q = 0 ∧ R.a = aEnd (tFM S 0 q).r k u ∧ R.f = aFrame (tFM S 0 q).p (tFM S 0 q).f (tFM S 0 q).r q k u ∧ R.r = aRights (tFM S 0 q).r k u ∧
    (R.a ≠ 0 → S' = S) ∧ (R.a = 0 → fndC S 0 q = 0 ∧ S' = S.store (lastT (fndX S 0 q)) (index q (lastL (fndX S 0 q))) (enc (tFE S 0 q).t (tFE S 0 q).l (tFE S 0 q).r true ((tFE S 0 q).d || k == 1) (tFE S 0 q).f (lastL (fndX S 0 q)))))

theorem store_self {S : Fs} (t : Int) (i : Nat) : S.store t (i : Int) (S.word t.toNat i) = S := by
  unfold Fs.store
  split
  · have e : Fs.put S.word t.toNat (i : Int).toNat (S.word t.toNat i) = S.word := by
      funext a b
      unfold Fs.put
      split
      · rename_i h
        rw [h.1, h.2]
        rfl
      · rfl
    rw [e]
  · rfl

/-- What Find tells where the way ends at a place. -/
theorem end_at {S : Fs} {q : Int} (hq : below q 4096 = true) {P : List Sp} {t : Int} {lv a : Nat} (hP : thr S (onW q) 3 0 0 = (P ++ [spt S t (ix q lv) lv a], 0)) :
    fndC S 0 q = 0 ∧ lastT (fndX S 0 q) = t ∧ lastL (fndX S 0 q) = (lv : Int) ∧ lastE (fndX S 0 q) = rEn S t (ix q lv) lv := by
  have e1 : fndX S 0 q = P ++ [spt S t (ix q lv) lv a] := by simp [fndX, hq, hP]
  refine ⟨by simp [fndC, hq, hP], ?_, ?_, ?_⟩
  · rw [e1]; simp [lastT, spt]
  · rw [e1, lastL_push]; rfl
  · rw [e1, lastE_push]; rfl
theorem leaf_rights {e : En} {lv q : Int} (hq : below q 4096 = true) (hl : e.l = true) (hf : e.fault lv = 0) : (e.map lv q).r = e.r := by
  have h0 : eFault e.t e.l e.r e.u e.d e.f lv = 0 := hf
  have h1 : lOk e.t e.l e.r e.u e.d e.f lv q = true := by
    unfold lOk
    rw [h0, hl, hq]
    rfl
  show lRights e.t e.l e.r e.u e.d e.f lv q = e.r
  unfold lRights
  rw [if_pos h1]

theorem kEnds {S : Fs} (hS : S.Ok) {q k : Int} {u : Bool} (hq : below q 4096 = true) {i : Nat} {K : Wk} (h : KRun S q k u i K) :
    i ≤ 4 ∧ match kOut S 0 K with
      | .inl c => c ≠ 0 ∧ fndC S 0 q = c
      | .inr (.inl K') => KRun S q k u (i + 1) K'
      | .inr (.inr (.inl r)) => KEnd S q k u ((Wo.stop r).res K) S
      | .inr (.inr (.inr (e, m))) => KEnd S q k u ((Wo.done e m).res K) ((Wo.done e m).fs S K) := by
  rcases h with ⟨t, lv, a, P, hi, hP, rfl⟩ | ⟨t, lv, a, P, hi, hP, hc, hl, hm, hx, rfl⟩
  · refine ⟨by omega, ?_⟩
    rw [thr_way S q lv t a] at hP
    have hr := kRead S 0 q k u t lv
    by_cases hc : rCode S t (ix q lv) lv = 0
    · rw [if_neg (by simpa using hc)] at hP hr
      have hfl := rEn_fault hS hc
      cases ho : (rEn S t (ix q lv) lv).on
      · rw [if_pos ho] at hP
        obtain ⟨c1, c2, c3, c4⟩ := end_at hq hP
        by_cases h1 : (rEn S t (ix q lv) lv).t = false
        · rw [if_pos h1] at hr
          rw [hr]
          refine .inl ⟨?_, rfl, rfl, rfl, rfl⟩
          unfold tFC
          rw [c1, c4, if_neg (by simp), if_neg (by simp [h1])]
        · rw [if_neg h1] at hr
          have h1 : (rEn S t (ix q lv) lv).t = true := by simpa using h1
          have hl : (rEn S t (ix q lv) lv).l = true := by
            simp only [En.on, h1, Bool.true_and] at ho
            simpa using ho
          rw [if_neg (by simp [hl])] at hr
          have z0 : tFC S 0 q = 0 := by
            unfold tFC
            rw [c1, c4, if_neg (by simp), if_pos h1]
          have z1 : tFM S 0 q = (rEn S t (ix q lv) lv).map lv q := by
            unfold tFM
            rw [if_pos z0, c3, c4]
          have z2 : tFE S 0 q = rEn S t (ix q lv) lv := by
            unfold tFE
            rw [if_pos z0, c4]
          have z3 := leaf_rights hq hl hfl
          by_cases h2 : may (rEn S t (ix q lv) lv).r k u = false
          · rw [if_pos h2] at hr
            rw [hr]
            refine .inr ⟨z0, ?_, ?_, ?_, fun _ => rfl, fun h => by cases h⟩
            · rw [z1, z3, aEnd, if_neg (by simp [h2])]; rfl
            · rw [z1, z3, aFrame, if_neg (by simp [h2])]; rfl
            · rw [z1, z3, aRights, if_neg (by simp [h2])]; rfl
          · rw [if_neg h2] at hr
            have h2 : may (rEn S t (ix q lv) lv).r k u = true := by simpa using h2
            have hh : S.has t = true := rCode_has hc
            obtain ⟨e1, e2⟩ := rCode_of (i := ix q lv) (lv := lv) hh
            by_cases h3 : (Wk.at' q k u t lv 0).ready (rEn S t (ix q lv) lv) = false
            · rw [if_pos h3] at hr
              rw [hr]
              refine .mark t lv a P (by omega) hP hc hl h2 fun e => ?_
              rw [e2, e] at h1
              simp [En.of, dGood] at h1
            · rw [if_neg h3] at hr
              rw [hr]
              refine .inr ⟨z0, by rw [z1]; rfl, by rw [z1]; rfl, by rw [z1]; rfl, fun _ => rfl, fun _ => ⟨c1, ?_⟩⟩
              have h3 : (Wk.at' q k u t lv 0).ready (rEn S t (ix q lv) lv) = true := by simpa using h3
              have hm := mark_same h3
              have hlv : lv < 4 := by omega
              rw [c2, c3, z2, index_ix hq hlv]
              have ew : enc (rEn S t (ix q lv) lv).t (rEn S t (ix q lv) lv).l (rEn S t (ix q lv) lv).r true ((rEn S t (ix q lv) lv).d || k == 1) (rEn S t (ix q lv) lv).f lv = S.word t.toNat (ix q lv) := by
                have h5 : enc ((Wk.at' q k u t lv 0).mark (rEn S t (ix q lv) lv)).t ((Wk.at' q k u t lv 0).mark (rEn S t (ix q lv) lv)).l ((Wk.at' q k u t lv 0).mark (rEn S t (ix q lv) lv)).r ((Wk.at' q k u t lv 0).mark (rEn S t (ix q lv) lv)).u ((Wk.at' q k u t lv 0).mark (rEn S t (ix q lv) lv)).d ((Wk.at' q k u t lv 0).mark (rEn S t (ix q lv) lv)).f lv = S.word t.toNat (ix q lv) := by
                  rw [hm, e2]
                  exact (enc_dec (hS.low _ _) (by rw [← e1]; exact hc)).2
                exact h5
              rw [ew, store_self]
              rfl
      · rw [if_neg (by simp [ho])] at hP
        obtain ⟨m, rfl⟩ := rEn_on ho
        simp only [En.on, Bool.and_eq_true, Bool.not_eq_true'] at ho
        rw [if_neg (by simp [ho.1]), if_pos ho.2] at hr
        rw [hr]
        refine .read _ m ((a + ix q (m + 1)) * 8) (P ++ [spt S t (ix q (m + 1)) (m + 1) a]) (by omega) ?_
        rw [hP]
        simp only [List.append_assoc, List.singleton_append]
        rfl
    · rw [if_pos hc] at hP hr
      rw [hr]
      exact ⟨hc, by simp [fndC, hq, hP]⟩
  · refine ⟨by omega, ?_⟩
    have hh : S.has t = true := rCode_has hc
    obtain ⟨e1, e2⟩ := rCode_of (i := ix q lv) (lv := lv) hh
    have hr := kMark (root := 0) (k := k) (u := u) hx hh rfl
    rw [hr, ← e2]
    have hfl := rEn_fault hS hc
    obtain ⟨c1, c2, c3, c4⟩ := end_at hq hP
    have ht := (rEn_leaf hS hl).2.1
    have z0 : tFC S 0 q = 0 := by
      unfold tFC
      rw [c1, c4, if_neg (by simp), if_pos ht]
    have z1 : tFM S 0 q = (rEn S t (ix q lv) lv).map lv q := by
      unfold tFM
      rw [if_pos z0, c3, c4]
    have z2 : tFE S 0 q = rEn S t (ix q lv) lv := by
      unfold tFE
      rw [if_pos z0, c4]
    have z3 := leaf_rights hq hl hfl
    have z4 := (mark_leaf (K := Wk.at' q k u t lv (S.word t.toNat (ix q lv))) hl hfl).2 q
    have za : (Wo.res (Wk.at' q k u t lv (S.word t.toNat (ix q lv))) (Wo.done ((Wk.at' q k u t lv (S.word t.toNat (ix q lv))).mark (rEn S t (ix q lv) lv)) true)).a = aEnd (((Wk.at' q k u t lv (S.word t.toNat (ix q lv))).mark (rEn S t (ix q lv) lv)).map lv q).r k u := rfl
    refine .inr ⟨z0, ?_, ?_, ?_, fun h => ?_, fun _ => ⟨c1, ?_⟩⟩
    · rw [z1, ← z4]; rfl
    · rw [z1, ← z4]; rfl
    · rw [z1, ← z4]; rfl
    · rw [za, z4, z3, aEnd, if_pos hm] at h
      exact absurd rfl h
    · rw [c2, c3, z2]
      rfl
theorem kRun_start (S : Fs) (q k : Int) (u : Bool) : KRun S q k u 0 (Wk.start 0 q k u) := .read 0 3 0 [] rfl rfl
end Pg
end Go.Proofs.Ytbkpndgadgafiae

namespace Go.Proofs.Ytbkpndgadgafiae
open Go.RowKit
namespace Pg
/-- A leaf's mapping is one, and has the page. -/
theorem leaf_maps {e : En} {lv q : Int} (hq : below q 4096 = true) (hl : e.l = true) (hf : e.fault lv = 0) : (e.map lv q).code = 0 ∧ (e.map lv q).has q = true := by
  have h0 : eFault e.t e.l e.r e.u e.d e.f lv = 0 := hf
  have h1 : lOk e.t e.l e.r e.u e.d e.f lv q = true := by
    unfold lOk
    rw [h0, hl, hq]
    rfl
  have hm : e.map lv q = ⟨q - q % span lv, lv, e.f, e.r⟩ := by
    unfold En.map lPage lSize lFrame lRights
    simp only [h1, if_true]
  obtain ⟨⟨g0, g3⟩, hc⟩ := fault_zero h0
  have hq' := below_iff.1 hq
  rcases hc with ⟨_, hl', _⟩ | ⟨_, r0, r1, f0, f1, hc⟩
  · rw [hl] at hl'
    cases hl'
  · rcases hc with ⟨_, h2, hmod⟩ | ⟨hl', _⟩
    · rw [hm]
      have hlv : lv = 0 ∨ lv = 1 ∨ lv = 2 := by omega
      have hs : span lv = 1 ∨ span lv = 8 ∨ span lv = 64 := by
        rcases hlv with rfl | rfl | rfl
        · exact .inl rfl
        · exact .inr (.inl rfl)
        · exact .inr (.inr rfl)
      constructor
      · show check (q - q % span lv) lv e.f e.r = 0
        unfold check
        have b1 : below (q - q % span lv) 4096 = true := below_iff.2 (by rcases hs with h | h | h <;> rw [h] <;> omega)
        have b2 : below e.f 1048576 = true := below_iff.2 (by omega)
        have b3 : below e.r 8 = true := below_iff.2 (by omega)
        rw [if_neg (by rcases hs with h | h | h <;> rw [h] <;> decide), b1, b2, b3, if_neg (by decide), if_pos]
        exact ⟨by rcases hs with h | h | h <;> rw [h] <;> omega, hmod⟩
      · show over (q - q % span lv) lv q = true
        unfold over
        simp only [Bool.and_eq_true, decide_eq_true_eq]
        rcases hs with h | h | h <;> rw [h] <;> omega
    · rw [hl] at hl'
      cases hl'

/-- What a walk found at its end. -/
theorem kFound {S : Fs} (hS : S.Ok) {q k : Int} {u : Bool} (hq : below q 4096 = true) {i : Nat} {K : Wk} (h : KRun S q k u i K) {e : En} {m : Bool} (ho : kOut S 0 K = .done e m) :
    (K.q = q ∧ K.k = k ∧ K.u = u) ∧ (e.map K.lv q).code = 0 ∧ (e.map K.lv q).has q = true ∧ (k = 1 → e.d = true) := by
  rcases h with ⟨t, lv, a, P, hi, hP, rfl⟩ | ⟨t, lv, a, P, hi, hP, hc, hl, hm, hx, rfl⟩
  · rw [kRead] at ho
    split at ho
    · cases ho
    · rename_i hc
      have hc : rCode S t (ix q lv) lv = 0 := by simpa using hc
      split at ho
      · cases ho
      · split at ho
        · cases ho
        · rename_i hl
          have hl : (rEn S t (ix q lv) lv).l = true := by simpa using hl
          split at ho
          · cases ho
          · split at ho
            · cases ho
            · rename_i hr
              cases ho
              obtain ⟨h1, h2⟩ := leaf_maps (lv := (lv : Int)) hq hl (rEn_fault hS hc)
              refine ⟨⟨rfl, rfl, rfl⟩, h1, h2, fun hk => ?_⟩
              have hr : (Wk.at' q k u t lv 0).ready (rEn S t (ix q lv) lv) = true := by simpa using hr
              unfold Wk.ready at hr
              subst hk
              simp only [Wk.at', Bool.and_eq_true, Bool.or_eq_true] at hr
              rcases hr.2 with h | h
              · exact h
              · simp at h
  · have hh : S.has t = true := rCode_has hc
    obtain ⟨e1, e2⟩ := rCode_of (i := ix q lv) (lv := lv) hh
    rw [kMark hx hh rfl] at ho
    cases ho
    rw [← e2]
    have hfl := rEn_fault hS hc
    obtain ⟨k1, k2⟩ := mark_leaf (K := Wk.at' q k u t lv (S.word t.toNat (ix q lv))) hl hfl
    obtain ⟨h1, h2⟩ := leaf_maps (lv := (lv : Int)) hq hl hfl
    refine ⟨⟨rfl, rfl, rfl⟩, ?_, ?_, fun hk => ?_⟩
    · show ((Wk.mark _ _).map (lv : Int) q).code = 0
      rw [k2]; exact h1
    · show ((Wk.mark _ _).map (lv : Int) q).has q = true
      rw [k2]; exact h2
    · subst hk
      simp [Wk.mark, Wk.at']

theorem kStop {S : Fs} {root : Int} {K : Wk} {r : Int} (h : kOut S root K = .stop r) : r ≠ 0 := by
  unfold kOut at h
  split at h
  · cases h
  · split at h
    · cases h
    · split at h
      · split at h <;> cases h
      · split at h
        · cases h
        · split at h
          · cases h; decide
          · split at h
            · cases h
            · split at h
              · cases h; decide
              · split at h <;> cases h

/-- Where a core that kept nothing is, behind i steps of an access: on its way; it met a code; it ended. -/
def Kst (S : Fs) (q k : Int) (u : Bool) (i : Nat) (T : Tl) (S' : Fs) (C : Cr) : Prop :=
  (checkAccess q k = 0 ∧ T = ⟨0, 0, 0, false, 0⟩ ∧ S' = S ∧ ∃ K, C = ⟨[], K⟩ ∧ KRun S q k u i K) ∨
  (T.ended = false ∧ T.c ≠ 0) ∨
  (checkAccess q k = 0 ∧ T.ended = true ∧ T.c = 0 ∧ S'.has 0 = S.has 0 ∧ ((T.a ≠ 0 ∧ C.L = []) ∨ (T.a = 0 ∧ ∃ l : Ln, C = ⟨[l], Wk.off⟩ ∧ l.m.code = 0 ∧ l.m.has q = true ∧ l.wants k u = false ∧ T = l.ans q k u)))

theorem kRound {S : Fs} (hS : S.Ok) {q k : Int} {u : Bool} (hc : checkAccess q k = 0) {i : Nat} {K : Wk} (h : KRun S q k u i K) :
    i ≤ 4 ∧ Kst S q k u (i + 1) (Cr.stT S 0 ⟨[], K⟩) (Cr.stS S 0 ⟨[], K⟩) (Cr.stN S 0 ⟨[], K⟩) := by
  have hq := access_page hc
  obtain ⟨hi, he⟩ := kEnds hS hq h
  refine ⟨hi, ?_⟩
  unfold Cr.stT Cr.stN Cr.stS
  simp only
  rcases ho : kOut S 0 K with c | K' | r | ⟨e, m⟩
  · rw [ho] at he
    exact .inr (.inl ⟨rfl, he.1⟩)
  · rw [ho] at he
    exact .inl ⟨hc, rfl, rfl, K', rfl, he⟩
  · have hr := kStop ho
    refine .inr (.inr ⟨hc, rfl, rfl, rfl, .inl ⟨hr, ?_⟩⟩)
    show rPut [] ((Wo.stop r).res K) = []
    unfold rPut
    rw [if_neg]
    show ¬ (true && r == 0) = true
    simpa using hr
  · obtain ⟨⟨rfl, rfl, rfl⟩, h1, h2, h3⟩ := kFound hS hq h ho
    have hfs : ((Wo.done e m).fs S K).has 0 = S.has 0 := by
      cases m
      · rfl
      · exact store_has' _ _ _ _ _
    refine .inr (.inr ⟨hc, rfl, rfl, hfs, ?_⟩)
    by_cases ha : aEnd (e.map K.lv K.q).r K.k K.u = 0
    · refine .inr ⟨ha, ⟨e.map K.lv K.q, e.d⟩, ?_, h1, h2, ?_, rfl⟩
      · show (⟨rPut [] ((Wo.done e m).res K), Wk.off⟩ : Cr) = _
        unfold rPut
        rw [if_pos]
        · show (⟨kPut [] ⟨e.map K.lv K.q, e.d⟩, Wk.off⟩ : Cr) = _
          rw [kPut_yes h1]
          rfl
        · show (true && aEnd (e.map K.lv K.q).r K.k K.u == 0) = true
          simpa using ha
      · unfold Ln.wants
        by_cases hk : K.k = 1
        · simp only [h3 hk]
          simp
        · have : (K.k == 1) = false := by simpa using hk
          rw [this]
          rfl
    · refine .inl ⟨ha, ?_⟩
      show rPut [] ((Wo.done e m).res K) = []
      unfold rPut
      rw [if_neg]
      show ¬ (true && aEnd (e.map K.lv K.q).r K.k K.u == 0) = true
      simpa using ha

/-- The first words of a frame are noughts. -/
def zs (S : Fs) : Nat → Fs
  | 0 => S
  | i + 1 => (zs S i).store 0 (i : Int) 0
theorem zs_has (S : Fs) (k : Int) : ∀ i, (zs S i).has k = S.has k
  | 0 => rfl
  | i + 1 => by rw [zs, store_has', zs_has S k i]
theorem zs_word {S : Fs} (hh : S.has 0 = true) : ∀ i, i ≤ 8 → ∀ j, j < i → (zs S i).word 0 j = 0
  | 0, _, j, hj => absurd hj (by omega)
  | i + 1, hi, j, hj => by
    have ha : (zs S i).at' 0 (i : Int) = true := by
      unfold Fs.at'
      rw [zs_has, hh]
      simp
      omega
    show ((zs S i).store 0 (i : Int) 0).word 0 j = 0
    unfold Fs.store
    rw [if_pos ha]
    show Fs.put (zs S i).word (0 : Int).toNat (i : Int).toNat 0 0 j = 0
    unfold Fs.put
    split
    · rfl
    · rename_i hn
      refine zs_word hh i (by omega) j ?_
      have : ¬ j = i := fun e => hn ⟨rfl, by omega⟩
      omega
theorem zs_stop {S : Fs} (hh : S.has 0 = true) (q k : Int) (u : Bool) : kOut (zs S 8) 0 (Wk.start 0 q k u) = .stop 1 := by
  have h1 : (zs S 8).has 0 = true := by rw [zs_has]; exact hh
  have h2 : (zs S 8).word 0 (ix q 3) = 0 := zs_word hh 8 (by omega) _ (ix_lt q 3)
  obtain ⟨c1, c2⟩ := rCode_of (S := zs S 8) (t := 0) (i := ix q 3) (lv := 3) h1
  have h3 := kRead (zs S 8) 0 q k u 0 3
  rw [show (0 : Int).toNat = 0 from rfl, h2] at c1 c2
  rw [c1, c2, if_neg (by decide), if_pos (by decide)] at h3
  exact h3
/-- A line of the page ends the access at once; told of the page, the core keeps nothing. -/
theorem one_line {l : Ln} {q k : Int} {u : Bool} (hc : checkAccess q k = 0) (hh : l.m.has q = true) (hw : l.wants k u = false) :
    kFnd [l] q = some 0 ∧ kAt [l] q = l ∧ Cr.bgT ⟨[l], Wk.off⟩ q k u = l.ans q k u ∧ (∀ root, Cr.bgN root ⟨[l], Wk.off⟩ q k u = ⟨[l], Wk.off⟩) ∧ ∀ root, Cr.told root ⟨[l], Wk.off⟩ ⟨q, 0, 0, 0⟩ = Cr.new := by
  have h1 : kFnd [l] q = some 0 := by
    unfold kFnd
    simp [List.findIdx?_cons, Ln.has, hh]
  have h2 : kAt [l] q = l := by
    unfold kAt
    rw [h1]
    rfl
  have h3 : Cr.hit ⟨[l], Wk.off⟩ q k u = true := by
    unfold Cr.hit
    simp only
    rw [h1, h2, hw]
    rfl
  refine ⟨h1, h2, ?_, fun root => ?_, fun root => ?_⟩
  · unfold Cr.bgT
    rw [if_neg (by simp [hc]), if_neg (by simp [Wk.off]), if_pos h3]
    simp only
    rw [h2]
  · unfold Cr.bgN
    rw [if_neg]
    rintro ⟨_, _, h⟩
    rw [h3] at h
    cases h
  · have hm : l.meets ⟨q, 0, 0, 0⟩ = true := by
      unfold Ln.meets Mp.meets meet
      have : over l.m.p l.m.s q = true := hh
      simp only
      rw [this]
      rfl
    unfold Cr.told kDrop
    simp only [List.filter_cons, hm, Bool.not_true, Bool.false_eq_true, if_false, List.filter_nil]
    rfl
theorem new_begins {q k : Int} {u : Bool} (hc : checkAccess q k = 0) : Cr.bgT Cr.new q k u = .code 0 ∧ ∀ root, Cr.bgN root Cr.new q k u = ⟨[], Wk.start root q k u⟩ := by
  refine ⟨?_, fun root => ?_⟩
  · unfold Cr.bgT
    rw [if_neg (by simp [hc]), if_neg (by simp [Cr.new, Wk.off]), if_neg (by simp [Cr.hit, kFnd, Cr.new])]
  · unfold Cr.bgN
    rw [if_pos ⟨hc, rfl, by simp [Cr.hit, kFnd, Cr.new]⟩]
    rfl
/-- How it begins. -/
theorem kst_begin (S : Fs) (q k : Int) (u : Bool) : Kst S q k u 0 (Cr.bgT Cr.new q k u) S (Cr.bgN 0 Cr.new q k u) := by
  by_cases hc : checkAccess q k = 0
  · rw [(new_begins hc).1, (new_begins hc).2 0]
    exact .inl ⟨hc, rfl, rfl, _, rfl, kRun_start S q k u⟩
  · have e1 : Cr.bgT Cr.new q k u = .code (checkAccess q k) := by
      unfold Cr.bgT
      rw [if_pos (by simpa using hc)]
    rw [e1]
    exact .inr (.inl ⟨rfl, hc⟩)
end Pg
end Go.Proofs.Ytbkpndgadgafiae

namespace Go.Proofs.Ytbkpndgadgafiae
open Go.RowKit Go.Sort
set_option linter.unusedVariables false
set_option linter.unusedSimpArgs false
set_option maxRecDepth 100000

/-- A core of the developers' over their frames, behind all that was there. -/
structure Cf (w0 wc : World) (bf : Nat) (Ff : Nat → Prop) (S : Pg.Fs) (b : Nat) (F : Nat → Prop) (root : Int) (C : Pg.Cr) : Prop where
  bel : Below w0.heap.size w0 wc
  fr : FrAt wc bf S Ff
  cr : CrAt wc b root C F
  fhi : ∀ j, Ff j → w0.heap.size ≤ j
  chi : ∀ j, F j → w0.heap.size ≤ j
  ne : ∀ j, F j → ¬ Ff j
namespace Cf
variable {w0 wc wd : World} {bf b : Nat} {F F' Ff Ff' : Nat → Prop} {S S' : Pg.Fs} {root : Int} {C C' : Pg.Cr}
theorem grow (h : Cf w0 wc bf Ff S b F root C) (hb : Below wc.heap.size wc wd) : Cf w0 wd bf Ff S b F root C :=
  ⟨bthen h.bel hb, h.fr.keep (G := fun _ => False) (But.of_below hb) (fun _ _ => id), h.cr.grow hb, h.fhi, h.chi, h.ne⟩
/-- A step. -/
theorem step (h : Cf w0 wc bf Ff S b F root C) (hc : CrAt wd b root C' F') (hf : FrAt wd bf S' Ff') (hb : But (fun j => F j ∨ Ff j) wc wd) (hF : ∀ j, F' j → F j ∨ wc.heap.size ≤ j) (hFf : ∀ j, Ff' j → Ff j ∨ wc.heap.size ≤ j) (hne : ∀ j, F' j → ¬ Ff' j) : Cf w0 wd bf Ff' S' b F' root C' := by
  have hs := h.bel.size
  exact ⟨h.bel.trans (hb.below hs fun j hj => hj.elim (h.chi j) (h.fhi j)), hf, hc, fun j hj => (hFf j hj).elim (h.fhi j) (fun h => by omega), fun j hj => (hF j hj).elim (h.chi j) (fun h => by omega), hne⟩
/-- Another call of the core's own. -/
theorem own (h : Cf w0 wc bf Ff S b F root C) (hc : CrAt wd b root C' F') (hb : But F wc wd) (hF : ∀ j, F' j → F j ∨ wc.heap.size ≤ j) : Cf w0 wd bf Ff S b F' root C' :=
  h.step hc (h.fr.keep hb fun j hj e => h.ne j e hj) (hb.mono fun _ _ e => .inl e) hF (fun j hj => .inl hj) (fun j hj hf => (hF j hj).elim (fun h' => h.ne j h' hf) (fun h' => by have := h.fr.lt hf; omega))
/-- What is kept alone was asked. -/
theorem lines {bt : Nat} {Ft' : Nat → Prop} {L' : List Pg.Ln} {bk : Nat} {Ft : Nat → Prop} (h : Cf w0 wc bf Ff S b (crF b bk Ft) root C) (hc : Crk wc b bt bk Ft root C) (ht : TbAt wd bt 0 L' Ft') (hb : But Ft wc wd) (hF : ∀ j, Ft' j → Ft j ∨ wc.heap.size ≤ j) : Cf w0 wd bf Ff S b (crF b bk Ft') root ⟨L', C.K⟩ :=
  h.own ⟨_, _, _, hc.stepT ht hb hF, rfl⟩ (hb.mono fun _ _ h => .inr (.inr h)) (fun j hj => by
    rcases hj with hj | hj | hj
    · exact .inl (.inl hj)
    · exact .inl (.inr (.inl hj))
    · exact (hF j hj).imp (fun h => .inr (.inr h)) id)
end Cf

theorem cBegun_facts : Pg.kOut (Pg.Fs.memory 2 1 (fun _ => 0) 0) 0 (Pg.Wk.start 0 5 0 false) = .stop 1 ∧ Pg.checkAccess 5 0 = 0 := by
  have h1 : (Pg.Fs.memory 2 1 (fun _ => 0) 0).has 0 = true ∧ (Pg.Fs.memory 2 1 (fun _ => 0) 0).word 0 (Pg.ix 5 3) = 0 := by decide +kernel
  refine ⟨?_, by decide +kernel⟩
  have h2 : Pg.rCode (Pg.Fs.memory 2 1 (fun _ => 0) 0) 0 (Pg.ix 5 3) 3 = 0 ∧ (Pg.rEn (Pg.Fs.memory 2 1 (fun _ => 0) 0) 0 (Pg.ix 5 3) 3).t = false := by decide +kernel
  have h3 := Pg.kRead (Pg.Fs.memory 2 1 (fun _ => 0) 0) 0 5 0 false 0 3
  rw [h2.1, if_neg (by decide), if_pos h2.2] at h3
  exact h3

set_option maxHeartbeats 1000000 in
theorem coreBegun_any (w : World) :
    Calls Try.prog 5 #[] w fun e w' => e = .returned (.bool true) ∧ Below w.heap.size w w' := by
  obtain ⟨b1, b2⟩ := cBegun_facts
  have HM := memory_any 2 (by omega) 1 none 0 0 (by omega) (fun _ => 0) w (fun j hj => by omega)
  have t1 : (Pg.Cr.new).bgT 5 0 false = .code 0 := by
    unfold Pg.Cr.bgT
    rw [if_neg (by simp [b2]), if_neg (by simp [Pg.Cr.new, Pg.Wk.off]), if_neg (by simp [Pg.Cr.hit, Pg.kFnd, Pg.Cr.new])]
  have t2 : (Pg.Cr.new).bgN 0 5 0 false = ⟨[], Pg.Wk.start 0 5 0 false⟩ := by
    unfold Pg.Cr.bgN
    rw [if_pos ⟨b2, rfl, by simp [Pg.Cr.hit, Pg.kFnd, Pg.Cr.new]⟩]
    rfl
  have t3 : Pg.Cr.stT (Pg.Fs.memory 2 1 (fun _ => 0) 0) 0 ⟨[], Pg.Wk.start 0 5 0 false⟩ = ⟨1, 0, 0, true, 0⟩ := by
    unfold Pg.Cr.stT
    rw [b1]
    rfl
  have t4 : Pg.Cr.stN (Pg.Fs.memory 2 1 (fun _ => 0) 0) 0 ⟨[], Pg.Wk.start 0 5 0 false⟩ = Pg.Cr.new := by
    unfold Pg.Cr.stN
    rw [b1]
    rfl
  have HB := fun (W : World) (b : Nat) (F : Nat → Prop) (h : CrAt W b 0 Pg.Cr.new F) => crBegin_any 5 0 false W h
  have HS := fun (W : World) (b bf : Nat) (F Ff : Nat → Prop) (h : CrAt W b 0 ⟨[], Pg.Wk.start 0 5 0 false⟩ F) (hf : FrAt W bf (Pg.Fs.memory 2 1 (fun _ => 0) 0) Ff) (hn : ∀ j, F j → ¬ Ff j) => crStep_any W h hf hn
  simp only [t1, t2, t3, t4] at HB HS
  simp only [Pg.Tl.val, Pg.Tl.code] at HB HS
  have HO := fun (W : World) (b : Nat) (F : Nat → Prop) (h : CrAt W b 0 Pg.Cr.new F) => crBusy_any W h
  simp only [show Pg.Cr.new.K.on = false from rfl] at HO
  have HN := fun w => crNew_any 0 w
  clear b1 b2 t1 t2 t3 t4
  generalize Pg.Fs.memory 2 1 (fun _ => 0) 0 = S at *
  go_enter Try.func5, Try.ntmps5
  go_wp2_with fail
  refine HM.mono ?_
  rintro e w1 ⟨bf, bm, g0, g1, vb, Ff, rfl, hS⟩
  have HSd : Hid _ := hS
  clear hS HM
  go_wp2_with fail
  refine (HN _).mono ?_
  rintro e w2 ⟨b, F, rfl, hc2, hb2, hF2⟩
  have P2 : Hid (Cf w w2 bf Ff S b F 0 Pg.Cr.new) := ⟨bthen HSd.out.bel hb2, HSd.out.fr.keep (G := fun _ => False) (But.of_below hb2) (fun _ _ => id), hc2, HSd.out.fhi, fun j hj => Nat.le_trans HSd.out.bel.size (hF2 j hj), fun j hj hf => by have := HSd.out.fr.lt hf; have := hF2 j hj; omega⟩
  clear hc2 hb2 hF2 HN HSd
  go_wp2_with fail
  refine (HB _ _ _ P2.out.cr).mono ?_
  rintro e w3 ⟨rfl, hc3, hb3⟩
  have P3 : Hid (Cf w (w3.alloc (.cells #[.int .i64 0, .int .i64 0, .int .i64 0] 43)) bf Ff S b F 0 ⟨[], Pg.Wk.start 0 5 0 false⟩) := (P2.out.own hc3 hb3 (fun j hj => .inl hj)).grow (balloc (brefl _) _)
  clear hc3 hb3 HB P2
  go_wp2_with fail
  refine (HS _ _ _ _ _ P3.out.cr P3.out.fr P3.out.ne).mono ?_
  rintro e w4 ⟨rfl, F4, Ff4, hc4, hf4, hb4, g1, g2, g3⟩
  have P4 : Hid _ := P3.out.step hc4 hf4 hb4 g1 g2 g3
  clear hc4 hf4 hb4 g1 g2 g3 HS P3
  generalize Pg.Cr.stS S 0 ⟨[], Pg.Wk.start 0 5 0 false⟩ = S4 at *
  obtain ⟨W5, hW5⟩ : ∃ W5, W5 = w4.alloc (.cells #[.int .i64 1, .int .i64 0, .int .i64 0] 43) := ⟨_, rfl⟩
  have hb5 : Below w4.heap.size w4 W5 := by rw [hW5]; exact balloc (brefl _) _
  have P5 : Hid _ := P4.out.grow hb5
  clear hb5 P4
  go_wp2_with fail
  rw [← hW5]
  clear hW5
  refine (HO _ _ _ P5.out.cr).mono ?_
  rintro e w6 ⟨rfl, hw6⟩
  subst w6
  obtain ⟨bt, bk, Ft, hcr, hFe⟩ := P5.out.cr
  subst hFe
  have c0 := hcr.c0
  have HE := tbEvict_any W5 hcr.tb
  rw [show decide (0 < Pg.Cr.new.L.length) = false from rfl] at HE
  have HC : Hid _ := hcr
  clear hcr
  go_wp2_with fail
  refine HE.mono ?_
  rintro e w7 ⟨rfl, Ft7, h7, hb7, hF7⟩
  have P7 : Hid _ := P5.out.lines HC.out h7 hb7.but hF7
  clear HE h7 hb7 hF7
  go_wp2_with fail
  go_ret
  exact ⟨rfl, P7.out.bel⟩
end Go.Proofs.Ytbkpndgadgafiae

namespace Go.Proofs.Ytbkpndgadgafiae
open Go.RowKit Go.Sort
set_option linter.unusedVariables false
set_option maxRecDepth 100000

theorem ln_lb {w : World} {g o : Nat} {l : Pg.Ln} (h : LnAt w g o l) : g < w.heap.size := World.block_lt_of_cell? _ _ h.1

/-- An answer lies in a block of its own. -/
structure An3 (w : World) (b : Nat) (a f r : Int) : Prop where
  c0 : w.cell? ⟨b, 0, none⟩ = some (.int .i64 a)
  c1 : w.cell? ⟨b, 1, none⟩ = some (.int .i64 f)
  c2 : w.cell? ⟨b, 2, none⟩ = some (.int .i64 r)
  fb : ∀ p, w.frozen? ⟨b, p, none⟩ = false
namespace An3
variable {w w' : World} {b : Nat} {a f r : Int}
theorem lb (h : An3 w b a f r) : b < w.heap.size := World.block_lt_of_cell? _ _ h.c0
theorem of_block (h : An3 w b a f r) (hk : w'.heap[b]? = w.heap[b]?) : An3 w' b a f r :=
  ⟨(World.cell?_of_block hk).trans h.c0, (World.cell?_of_block hk).trans h.c1, (World.cell?_of_block hk).trans h.c2, fun p => (World.frozen?_of_block hk).trans (h.fb p)⟩
theorem set (h : An3 w b a f r) (a' f' r' : Int) : An3 (((w.setCell ⟨b, 0, none⟩ (.int .i64 a')).setCell ⟨b, 1, none⟩ (.int .i64 f')).setCell ⟨b, 2, none⟩ (.int .i64 r')) b a' f' r' := by
  obtain ⟨c0, c1, c2, fb⟩ := h
  refine ⟨?_, ?_, ?_, fun p => ?_⟩ <;> simp [go_sem, c0, c1, c2, fb]
end An3
theorem An3.alloc (w : World) (a f r : Int) (t : TypeId) : An3 (w.alloc (.cells #[.int .i64 a, .int .i64 f, .int .i64 r] t)) w.heap.size a f r := by
  refine ⟨?_, ?_, ?_, fun p => ?_⟩ <;> simp [go_sem]

/-- A core over frames, and an answer. -/
structure Cg (w0 wc : World) (bf : Nat) (Ff : Nat → Prop) (S : Pg.Fs) (b : Nat) (F : Nat → Prop) (root : Int) (C : Pg.Cr) (br : Nat) (a f r : Int) : Prop where
  cf : Cf w0 wc bf Ff S b F root C
  an : An3 wc br a f r
  n1 : ¬ Ff br
  n2 : ¬ F br
  new : w0.heap.size ≤ br
namespace Cg
variable {w0 wc wd : World} {bf b br : Nat} {F F' Ff Ff' : Nat → Prop} {S S' : Pg.Fs} {root : Int} {C C' : Pg.Cr} {a f r : Int}
theorem grow (h : Cg w0 wc bf Ff S b F root C br a f r) (hb : Below wc.heap.size wc wd) : Cg w0 wd bf Ff S b F root C br a f r :=
  ⟨h.cf.grow hb, h.an.of_block (hb.block br h.an.lb), h.n1, h.n2, h.new⟩
theorem step (h : Cg w0 wc bf Ff S b F root C br a f r) (hc : CrAt wd b root C' F') (hf : FrAt wd bf S' Ff') (hb : But (fun j => F j ∨ Ff j) wc wd) (hF : ∀ j, F' j → F j ∨ wc.heap.size ≤ j) (hFf : ∀ j, Ff' j → Ff j ∨ wc.heap.size ≤ j) (hne : ∀ j, F' j → ¬ Ff' j) : Cg w0 wd bf Ff' S' b F' root C' br a f r := by
  have hl := h.an.lb
  exact ⟨h.cf.step hc hf hb hF hFf hne, h.an.of_block (hb.block br hl (fun e => e.elim h.n2 h.n1)), fun e => (hFf br e).elim h.n1 (fun h => by omega), fun e => (hF br e).elim h.n2 (fun h => by omega), h.new⟩
theorem own (h : Cg w0 wc bf Ff S b F root C br a f r) (hc : CrAt wd b root C' F') (hb : But F wc wd) (hF : ∀ j, F' j → F j ∨ wc.heap.size ≤ j) : Cg w0 wd bf Ff S b F' root C' br a f r := by
  have hl := h.an.lb
  exact ⟨h.cf.own hc hb hF, h.an.of_block (hb.block br hl h.n2), h.n1, fun e => (hF br e).elim h.n2 (fun h => by omega), h.new⟩
theorem frames (h : Cg w0 wc bf Ff S b F root C br a f r) (hf : FrAt wd bf S' Ff') (hb : But Ff wc wd) (hFf : ∀ j, Ff' j → Ff j ∨ wc.heap.size ≤ j) : Cg w0 wd bf Ff' S' b F root C br a f r :=
  h.step (h.cf.cr.keep hb fun j hj e => h.cf.ne j hj e) hf (hb.mono fun _ _ e => .inr e) (fun _ hj => .inl hj) hFf (fun j hj e => (hFf j e).elim (h.cf.ne j hj) (fun h' => by have := h.cf.cr.lt hj; omega))
theorem set (h : Cg w0 wc bf Ff S b F root C br a f r) (a' f' r' : Int) : Cg w0 (((wc.setCell ⟨br, 0, none⟩ (.int .i64 a')).setCell ⟨br, 1, none⟩ (.int .i64 f')).setCell ⟨br, 2, none⟩ (.int .i64 r')) bf Ff S b F root C br a' f' r' := by
  have hb := but_set3a (But.refl (fun j => j = br) wc) br (.inr rfl) (.int .i64 a') (.int .i64 f') (.int .i64 r')
  exact ⟨⟨h.cf.bel.trans (hb.below h.cf.bel.size fun j hj => hj ▸ h.new), h.cf.fr.keep hb (fun k hk e => h.n1 (e ▸ hk)), h.cf.cr.keep hb (fun k hk e => h.n2 (e ▸ hk)), h.cf.fhi, h.cf.chi, h.cf.ne⟩, h.an.set a' f' r', h.n1, h.n2, h.new⟩
end Cg
theorem Cf.answer {w0 wc : World} {bf b : Nat} {F Ff : Nat → Prop} {S : Pg.Fs} {root : Int} {C : Pg.Cr} (h : Cf w0 wc bf Ff S b F root C) (a f r : Int) (t : TypeId) : Cg w0 (wc.alloc (.cells #[.int .i64 a, .int .i64 f, .int .i64 r] t)) bf Ff S b F root C wc.heap.size a f r :=
  ⟨h.grow (balloc (brefl _) _), An3.alloc wc a f r t, fun e => by have := h.fr.lt e; omega, fun e => by have := h.cr.lt e; omega, h.bel.size⟩

namespace Pg.Fs
theorem take_has {S : Fs} (k : Int) (h : S.has k = true) : S.take.has k = true := by
  unfold has inn at *
  simp only [Bool.and_eq_true, decide_eq_true_eq] at *
  refine ⟨h.1, ?_⟩
  unfold take
  split
  · exact List.mem_cons_of_mem _ h.2
  · split
    · exact List.mem_cons_of_mem _ h.2
    · exact h.2
theorem takes_has {n : Nat} (hn : 0 < n) : ∀ k, 0 < k → (takes k (new n)).has 0 = true
  | 0, h => absurd h (by omega)
  | 1, _ => by
    show (new n).take.has 0 = true
    unfold take new has inn
    simp [hn]
  | k + 2, _ => take_has 0 (takes_has hn (k + 1) (by omega))
theorem stores_has (q : Nat → Int) (k : Int) (S : Fs) : ∀ j, (stores q j S).has k = S.has k
  | 0 => rfl
  | j + 1 => by
    show ((stores q j S).store _ _ _).has k = _
    rw [store_has', stores_has q k S j]
theorem memory_has {n : Nat} (hn : 0 < n) (q : Nat → Int) (len : Nat) : (memory n (n : Int) q len).has 0 = true := by
  unfold memory
  rw [stores_has]
  exact takes_has hn _ (by simp; omega)
end Pg.Fs
end Go.Proofs.Ytbkpndgadgafiae

namespace Go.Proofs.Ytbkpndgadgafiae
open Go.ChangeShapes Go.WideShapes Go.ChangeAt Go.RowKit Go.Joins Go.Deep Go.Sort
set_option maxRecDepth 100000
set_option linter.unusedVariables false
set_option linter.unusedSimpArgs false
attribute [local go_sem] Loose.gent

set_option maxHeartbeats 8000000 in
theorem coreKeeps_walk (W : World) (n : Int) (hn : Pg.fits n) (ad : Option Addr) (len cap : Nat) (q : Nat → Int) (hq : WordsAt W ad len q) (xq xn : Int) (xu : Bool) (hxq : Pg.fits xq) (hxn : Pg.fits xn) :
    Calls Try.prog 4 #[.int .i64 n, .slice ad len cap, .agg #[.int .i64 xq, .int .i64 xn, .bool xu]] W fun e W' => e = .returned (.bool true) ∧ Below W.heap.size W W' := by
  have HQ : Hid _ := hq
  have HFq : Hid _ := hxq
  clear hn hq hxq hxn
  obtain ⟨WA, hWA⟩ : ∃ WA, WA = W.alloc (.cells #[.int .i64 xq, .int .i64 xn, .bool xu] 34) := ⟨_, rfl⟩
  have hBA : Below W.heap.size W WA := by rw [hWA]; exact balloc (brefl _) _
  have A3 : Hid (WA.cell? ⟨W.heap.size, 0, none⟩ = some (.int .i64 xq) ∧ WA.cell? ⟨W.heap.size, 1, none⟩ = some (.int .i64 xn) ∧ WA.cell? ⟨W.heap.size, 2, none⟩ = some (.bool xu)) := by rw [Hid, hWA]; simp [go_sem]
  have HBA : Hid _ := hBA
  clear hBA
  have hcase : decide (n < 1) = true ∨ (decide (n < 1) = false ∧ decide (128 < n) = true) ∨ (decide (n < 1) = false ∧ decide (128 < n) = false ∧ (2000 : Int) < (len : Int)) ∨ (decide (n < 1) = false ∧ decide (128 < n) = false ∧ decide ((2000 : Int) < (len : Int)) = false ∧ 1 ≤ n ∧ n ≤ 128 ∧ len ≤ 2000) := by
    by_cases h0 : n < 1
    · exact .inl (by simpa using h0)
    · by_cases h1 : 128 < n
      · exact .inr (.inl ⟨by simpa using h0, by simpa using h1⟩)
      · by_cases h2 : 2000 < len
        · exact .inr (.inr (.inl ⟨by simpa using h0, by simpa using h1, by omega⟩))
        · exact .inr (.inr (.inr ⟨by simpa using h0, by simpa using h1, by simp; omega, by omega, by omega, by omega⟩))
  rcases hcase with h0 | ⟨h0, h1⟩ | ⟨h0, h1, h2⟩ | ⟨h0, h1, h2, n0, n1, hl⟩
  iterate 3 focus
    go_enter Try.func4, Try.ntmps4
    go_wp2_with fail
    rw [← hWA]
    clear hWA
    refine (coreBegun_any _).mono ?_
    rintro e w1 ⟨rfl, hb1⟩
    have HB : Hid (Below W.heap.size W w1) := bthen HBA.out hb1
    clear hb1
    go_wp2_with fail
    go_ret
    exact ⟨rfl, HB.out⟩
  obtain ⟨nn, rfl⟩ := Int.eq_ofNat_of_zero_le (show 0 ≤ n by omega)
  have hh0 := Pg.Fs.memory_has (n := nn) (by omega) q len
  go_enter Try.func4, Try.ntmps4
  go_wp2_with fail
  rw [← hWA]
  clear hWA
  refine (coreBegun_any _).mono ?_
  rintro e w1 ⟨rfl, hb1⟩
  have HM := memory_any nn (by omega) (nn : Int) ad len cap hl q w1 (WordsAt.below HQ.out (Nat.le_refl _) (bthen HBA.out hb1))
  have HB1 : Hid _ := hb1
  clear hb1
  go_wp2_with fail
  refine HM.mono ?_
  rintro e w2 ⟨bf, bm, g0, g1, vb, Ff, rfl, hS⟩
  have HS : Hid (Below WA.heap.size WA w2 ∧ FrAt w2 bf (Pg.Fs.memory nn (nn : Int) q len) Ff ∧ ∀ k, Ff k → WA.heap.size ≤ k) := ⟨bthen HB1.out hS.bel, hS.fr, fun k hk => Nat.le_trans HB1.out.size (hS.fhi k hk)⟩
  clear hS HM HB1 HQ
  have HH : Hid _ := hh0
  clear hh0
  generalize Pg.Fs.memory nn (nn : Int) q len = S0 at *
  have HN := crNew_any 0 w2
  go_wp2_with fail
  refine HN.mono ?_
  rintro e w3 ⟨bk, Fk, rfl, hk3, hb3, hbk⟩
  have P3 : Hid (Cf WA w3 bf Ff S0 bk Fk 0 Pg.Cr.new) := ⟨bthen HS.out.1 hb3, HS.out.2.1.keep (G := fun _ => False) (But.of_below hb3) (fun _ _ => id), hk3, HS.out.2.2, fun j hj => Nat.le_trans HS.out.1.size (hbk j hj), fun j hj hf => by have := HS.out.2.1.lt hf; have := hbk j hj; omega⟩
  clear hk3 hb3 hbk HN HS
  have AC : Hid (∀ w', Below WA.heap.size WA w' → w'.cell? ⟨W.heap.size, 0, none⟩ = some (.int .i64 xq) ∧ w'.cell? ⟨W.heap.size, 1, none⟩ = some (.int .i64 xn) ∧ w'.cell? ⟨W.heap.size, 2, none⟩ = some (.bool xu)) := fun w' hb => later3 hb A3.out
  clear A3
  have HOS : Hid (S0.Ok) := P3.out.fr.ok
  have HK0 : Hid (Pg.Kst S0 xq xn xu 0 (Pg.Cr.bgT Pg.Cr.new xq xn xu) S0 (Pg.Cr.bgN 0 Pg.Cr.new xq xn xu)) := Pg.kst_begin S0 xq xn xu
  have HB := crBegin_any xq xn xu w3 P3.out.cr
  generalize Pg.Cr.bgT Pg.Cr.new xq xn xu = T0 at *
  generalize Pg.Cr.bgN 0 Pg.Cr.new xq xn xu = C0 at *
  obtain ⟨ta, tf, tr, te, tc⟩ := T0
  simp only [Pg.Tl.val] at HB
  obtain ⟨a0, a1, a2⟩ := AC.out _ P3.out.bel
  go_wp2_with fail
  refine HB.mono ?_
  rintro e w4 ⟨rfl, hc4, hb4⟩
  have P4 : Hid _ := (P3.out.own hc4 hb4 (fun j hj => .inl hj)).answer ta tf tr 43
  clear hc4 hb4 HB P3 a0 a1 a2
  generalize hbr : w4.heap.size = br at *
  go_wp2_with fail
  try rw [hbr]
  go_loopw [11, 12, 13] (fun en ec i wr => ∃ (k : Nat) (T : Pg.Tl), k ≤ 5 ∧ i = .int .i64 k ∧ en = .bool T.ended ∧ ec = .int .i64 T.c ∧ Hid (∃ S' Ff Fk C, Pg.Kst S0 xq xn xu k T S' C ∧ Cg WA wr bf Ff S' bk Fk 0 C br T.a T.f T.r)) (fun _ _ i _ => 9 - (intOf i).toNat)
  case atStart => exact ⟨0, ⟨ta, tf, tr, te, tc⟩, by omega, rfl, rfl, rfl, S0, Ff, Fk, C0, HK0.out, P4.out⟩
  case round =>
    obtain ⟨k, T, hk9, rfl, rfl, rfl, HR⟩ := hrel
    have k0 : decide ((k : Int) < 9) = true := by simp; omega
    clear P4 hbr HK0
    obtain ⟨S', Ff, Fk, C, hK, hP⟩ := HR.out
    have HP : Hid _ := hP
    clear HR hP
    rcases hK with ⟨hc, rfl, rfl, K, rfl, hrun⟩ | ⟨he, hcd⟩ | ⟨hc, he, hcd, hhas, hend⟩
    · -- on its way
      obtain ⟨hk4, hst⟩ := Pg.kRound HOS.out hc hrun
      have HST : Hid (Pg.Kst S' xq xn xu (k + 1) (Pg.Cr.stT S' 0 ⟨[], K⟩) (Pg.Cr.stS S' 0 ⟨[], K⟩) (Pg.Cr.stN S' 0 ⟨[], K⟩)) := hst
      have HSp := fun w' (h : CrAt w' bk 0 ⟨[], K⟩ Fk) (hf : FrAt w' bf S' Ff) => crStep_any w' h hf HP.out.cf.ne
      clear hst hrun hc
      generalize Pg.Cr.stT S' 0 ⟨[], K⟩ = T' at *
      generalize Pg.Cr.stN S' 0 ⟨[], K⟩ = C' at *
      generalize Pg.Cr.stS S' 0 ⟨[], K⟩ = S'' at *
      obtain ⟨ua, uf, ur, ue, uc⟩ := T'
      simp only [Pg.Tl.val] at HSp
      have z0 := HP.out.an.c0
      go_wp2_with fail
      refine (HSp _ HP.out.cf.cr HP.out.cf.fr).mono ?_
      rintro e w5 ⟨rfl, Fk5, Ff5, hc5, hf5, hb5, g1, g2, g3⟩
      have P5 : Hid _ := HP.out.step hc5 hf5 hb5 g1 g2 g3
      obtain ⟨y0, y1, y2, yf⟩ := P5.out.an
      have P6 : Hid _ := P5.out.set ua uf ur
      clear hc5 hf5 hb5 g1 g2 g3 HSp HP P5 z0
      go_wp2_with fail
      go_roundw
      case rel => exact ⟨k + 1, ⟨ua, uf, ur, ue, uc⟩, by omega, by go_num, rfl, rfl, _, _, _, _, HST.out, P6.out⟩
      case measure => simp [intOf]; omega
    · -- a code
      obtain ⟨ua, uf, ur, ue, uc⟩ := T
      simp only at he hcd HP
      subst he
      have hcn : (uc != 0) = true := by simpa using hcd
      have hce : (uc == 0) = false := by simpa using hcd
      clear hcd
      go_wp2_with fail
      go_ret
      exact ⟨rfl, bthen HBA.out HP.out.cf.bel⟩
    · obtain ⟨ua, uf, ur, ue, uc⟩ := T
      simp only at he hcd HP hend
      subst he hcd
      have HC : Hid _ := hc
      have HH' : Hid (S'.has 0 = true) := hhas.trans HH.out
      clear hc hhas
      obtain ⟨y0, y1, y2, yf⟩ := HP.out.an
      rcases hend with ⟨hne, hL⟩ | ⟨h0', l, rfl, hcode, hhasq, hwt, hT⟩
      · -- it ended otherwise: nothing is kept
        have hna : (ua != 0) = true := by simpa using hne
        obtain ⟨bt, bkk, Ft, hcr, hFe⟩ := HP.out.cf.cr.ex
        subst hFe
        have c0 := hcr.c0
        have HLi := tbList_any _ hcr.tb
        rw [hL, show ([] : List Pg.Ln).length = 0 from rfl] at HLi
        clear hne hL hcr
        go_wp2_with fail
        refine HLi.mono ?_
        rintro e w5 ⟨ad5, cap5, rfl, m5, hb5, hn5⟩
        have HF : Hid (Below W.heap.size W w5) := bthen HBA.out (bthen HP.out.cf.bel hb5)
        clear m5 hb5 hn5 HLi
        go_wp2_with fail
        go_ret
        exact ⟨rfl, HF.out⟩
      · subst h0'
        obtain ⟨q1, q2, q3, q4, q5⟩ := Pg.one_line HC.out hhasq hwt
        have HB2 := fun w' F' (h : CrAt w' bk 0 ⟨[l], Pg.Wk.off⟩ F') => crBegin_any xq xn xu w' h
        have HT2 := fun w' F' (h : CrAt w' bk 0 ⟨[l], Pg.Wk.off⟩ F') => crTold_any ⟨xq, 0, 0, 0⟩ HFq.out w' h
        have HB3 := fun w' F' (h : CrAt w' bk 0 Pg.Cr.new F') => crBegin_any xq xn xu w' h
        have HS3 := fun w' F' Ff' (h : CrAt w' bk 0 ⟨[], Pg.Wk.start 0 xq xn xu⟩ F') (hf : FrAt w' bf (Pg.zs S' 8) Ff') (hn : ∀ j, F' j → ¬ Ff' j) => crStep_any w' h hf hn
        have e3 : Pg.Cr.stT (Pg.zs S' 8) 0 ⟨[], Pg.Wk.start 0 xq xn xu⟩ = ⟨1, 0, 0, true, 0⟩ := by
          unfold Pg.Cr.stT
          rw [Pg.zs_stop HH'.out]
          rfl
        simp only [q3, q4, ← hT] at HB2
        simp only [q5] at HT2
        simp only [(Pg.new_begins HC.out).1, (Pg.new_begins HC.out).2] at HB3
        simp only [e3] at HS3
        simp only [Pg.Tl.val, Pg.Tl.code, Pg.Mp.val] at HB2 HT2 HB3 HS3
        obtain ⟨bt, bkk, Ft, hcr, hFe⟩ := HP.out.cf.cr.ex
        subst hFe
        have HCR : Hid _ := hcr
        have HFi := fun d os => tbFind_any xq HFq.out _ (hcr.grow (below_regrown wr d os)).tb
        simp only [q1, q2] at HFi
        have HHa := fun w => refHas_any l.m.p l.m.s l.m.f l.m.r xq (Pg.ok_fits hcode).2.2.1 HFq.out w
        have e4 : Pg.over l.m.p l.m.s xq = true := hhasq
        rw [e4] at HHa
        obtain ⟨a0, a1, a2⟩ := AC.out _ HP.out.cf.bel
        have g0 := cell_regrown hcr.c0
        have g1 := cell_regrown a0
        clear q1 q2 q3 q4 q5 hT hcr e3 e4 hcode hhasq hwt a0 a1 a2
        generalize hll : l = l' at *
        obtain ⟨⟨yp, ys, yfr, yr⟩, yd⟩ := l'
        simp only [Pg.Ln.val, show (some 0 : Option Nat).isSome = true from rfl] at HFi HHa
        go_upto_region 16 with fail
        refine Loose.wp_region_drift_alloc 10 [9] 14 (.cells #[.int .i64 0, .int .i64 0, .int .i64 0, .int .i64 0, .bool false] 67) _ (by kernel_rfl) (by kernel_rfl) (by intro i o hi ho; simp only [List.mem_singleton] at hi; subst hi; cases ho; exact Loose.calm_extract rfl) rfl rfl rfl (by intro a w; simp [go_sem]) (by intro d v c a w h; cases d <;> exact h) ?_
        simp only [List.take_succ_cons, List.take_zero, List.drop_succ_cons, List.drop_zero]
        repeat (
          refine Loose.wpGent_step (fun k hk => ?_)
          go_simp
          first
            | (refine hk _ ?_; clear hk k)
            | (apply Exists.intro
               refine ⟨fun _ => ?_, hk _ ?_⟩
               (go_at_call 18; exact Loose.calls (HFi _ _))
               clear hk k))
        refine Loose.wpGent_nil ?_
        intro bl w3 hb3 hbl hX
        have hxl : bl < w3.heap.size := (Array.getElem?_eq_some_iff.1 hX).1
        have cb : w3.cell? ⟨bl, 0, none⟩ = some (.int .i64 0) ∧ w3.cell? ⟨bl, 1, none⟩ = some (.int .i64 0) ∧ w3.cell? ⟨bl, 2, none⟩ = some (.int .i64 0) ∧ w3.cell? ⟨bl, 3, none⟩ = some (.int .i64 0) ∧ w3.cell? ⟨bl, 4, none⟩ = some (.bool false) := by
          simp [World.cell?, hX]
        obtain ⟨cb0, cb1, cb2, cb3, cb4⟩ := cb
        have fb : ∀ i, w3.frozen? ⟨bl, i, none⟩ = false := fun i => by simp [World.frozen?, hX]
        obtain ⟨W4, hW4⟩ : ∃ W4, W4 = ((((w3.setCell ⟨bl, 0, none⟩ (.int .i64 yp)).setCell ⟨bl, 1, none⟩ (.int .i64 ys)).setCell ⟨bl, 2, none⟩ (.int .i64 yfr)).setCell ⟨bl, 3, none⟩ (.int .i64 yr)).setCell ⟨bl, 4, none⟩ (.bool yd) := ⟨_, rfl⟩
        have hB4 := below_set5 hb3 _ hbl (.int .i64 yp) (.int .i64 ys) (.int .i64 yfr) (.int .i64 yr) (.bool yd)
        rw [← hW4] at hB4
        have L4 : Hid (LnAt W4 bl 0 ⟨⟨yp, ys, yfr, yr⟩, yd⟩) := by
          rw [hW4]; refine ⟨?_, ?_, ?_, ?_, ?_⟩ <;> simp [go_sem, cb0, cb1, cb2, cb3, cb4]
        have P4 : Hid _ := HP.out.grow hB4
        have NL : Hid (¬ Ff bl ∧ ¬ crF bk bkk Ft bl) := ⟨fun e => by have := HP.out.cf.fr.lt e; omega, fun e => by have := HP.out.cf.cr.lt e; omega⟩
        clear g0 g1 HFi HP HCR hB4 hX hb3 hbl y0 y1 y2 yf
        go_upto_region 17 with fail
        rw [← hW4]
        clear hW4 cb0 cb1 cb2 cb3 cb4 fb hxl
        go_wp2_with fail
        go_loopw [16] (fun i w5 => ∃ j : Nat, j ≤ 8 ∧ i = .int .i64 j ∧ Hid (∃ Ff, Cg WA w5 bf Ff (Pg.zs S' j) bk (crF bk bkk Ft) 0 ⟨[⟨⟨yp, ys, yfr, yr⟩, yd⟩], Pg.Wk.off⟩ br 0 uf ur ∧ LnAt w5 bl 0 ⟨⟨yp, ys, yfr, yr⟩, yd⟩ ∧ ¬ Ff bl ∧ ¬ crF bk bkk Ft bl)) (fun i _ => 8 - (intOf i).toNat)
        case atStart => exact ⟨0, by omega, rfl, Ff, P4.out, L4.out, NL.out⟩
        case round =>
          obtain ⟨j, hj, rfl, HR⟩ := hrel
          obtain ⟨Ff5, h5, hL5, hn5, hm5⟩ := HR.out
          have P5 : Hid _ := h5
          have L5 : Hid (LnAt _ bl 0 ⟨⟨yp, ys, yfr, yr⟩, yd⟩) := hL5
          clear HR h5 hL5 P4 L4 NL
          have i0 : (0 : Int) ≤ (j : Int) := by omega
          by_cases hlt : j < 8
          · have i1 : (j : Int) < 8 := by omega
            have HSt := frStore_any 0 (j : Int) 0 (by omega) (by omega) _ P5.out.cf.fr
            go_wp2_with fail
            refine HSt.mono ?_
            rintro e w6 ⟨rfl, Ff6, hf6, hb6, hF6⟩
            have fin : Hid (∃ Ff, Cg WA w6 bf Ff (Pg.zs S' (j + 1)) bk (crF bk bkk Ft) 0 ⟨[⟨⟨yp, ys, yfr, yr⟩, yd⟩], Pg.Wk.off⟩ br 0 uf ur ∧ LnAt w6 bl 0 ⟨⟨yp, ys, yfr, yr⟩, yd⟩ ∧ ¬ Ff bl ∧ ¬ crF bk bkk Ft bl) := ⟨Ff6, P5.out.frames hf6 hb6 hF6, LnAt.of L5.out (fun p => hb6.cell (a := ⟨bl, p, none⟩) (ln_lb L5.out) hn5), fun e => (hF6 bl e).elim hn5 (fun h => by have := (ln_lb L5.out); omega), hm5⟩
            clear hf6 hb6 hF6 HSt P5 L5
            go_wp2_with fail
            go_roundw
            case rel => exact ⟨j + 1, by omega, by go_num, fin.out⟩
            case measure => simp [intOf]; omega
          · have i1 : ¬ (j : Int) < 8 := by omega
            have hj8 : j = 8 := by omega
            subst hj8
            obtain ⟨a0, a1, a2⟩ := AC.out _ P5.out.cf.bel
            have m1 : (uf != uf) = false := by simp
            have m2 : (ur != ur) = false := by simp
            go_wp2_with fail
            refine (HB2 _ _ P5.out.cf.cr).mono ?_
            rintro e w6 ⟨rfl, hc6, hb6⟩
            have P6 : Hid _ := P5.out.own hc6 hb6 (fun j hj => .inl hj)
            have L6 : Hid (LnAt w6 bl 0 ⟨⟨yp, ys, yfr, yr⟩, yd⟩) := LnAt.of L5.out (fun p => hb6.cell (a := ⟨bl, p, none⟩) (ln_lb L5.out) hm5)
            clear hc6 hb6 HB2 P5 L5 a0 a1 a2
            obtain ⟨W7, hW7⟩ : ∃ W7, W7 = w6.alloc (.cells #[.int .i64 0, .int .i64 uf, .int .i64 ur] 43) := ⟨_, rfl⟩
            have hb7 : Below w6.heap.size w6 W7 := by rw [hW7]; exact balloc (brefl _) _
            have P7 : Hid _ := P6.out.grow hb7
            have B7 : An3 W7 w6.heap.size 0 uf ur := by rw [hW7]; exact An3.alloc w6 0 uf ur _
            obtain ⟨b0, b1, b2, _⟩ := B7
            obtain ⟨y0, y1, y2, _⟩ := P7.out.an
            obtain ⟨l0, l1, l2, l3, l4⟩ := LnAt.below L6.out hb7 (ln_lb L6.out)
            simp only [Nat.zero_add] at l0 l1 l2 l3 l4
            obtain ⟨a0, a1, a2⟩ := AC.out _ P7.out.cf.bel
            clear hb7 P6 L6
            go_upto_region 22 with fail
            rw [← hW7]
            clear hW7
            go_wp2_with fail
            refine (HHa _).mono ?_
            rintro e w8 ⟨rfl, hb8⟩
            have P8 : Hid _ := P7.out.grow hb8
            clear hb8 HHa P7 b0 b1 b2 y0 y1 y2 l0 l1 l2 l3 l4 a0 a1 a2
            obtain ⟨a0, a1, a2⟩ := AC.out _ P8.out.cf.bel
            go_wp2_with fail
            refine (HT2 _ _ P8.out.cf.cr).mono ?_
            rintro e w9 ⟨rfl, F9, hc9, hb9, hF9⟩
            have P9 : Hid _ := P8.out.own hc9 hb9 hF9
            clear hc9 hb9 hF9 HT2 P8 a0 a1 a2
            obtain ⟨a0, a1, a2⟩ := AC.out _ P9.out.cf.bel
            go_wp2_with fail
            refine (HB3 _ _ P9.out.cf.cr).mono ?_
            rintro e wA ⟨rfl, hcA, hbA⟩
            have PA : Hid _ := P9.out.own hcA hbA (fun j hj => .inl hj)
            clear hcA hbA HB3 P9 a0 a1 a2
            go_wp2_with fail
            refine (HS3 _ _ _ PA.out.cf.cr PA.out.cf.fr PA.out.cf.ne).mono ?_
            rintro e wB ⟨rfl, FB, FfB, hcB, hfB, hbB, g1, g2, g3⟩
            have PB : Hid _ := PA.out.step hcB hfB hbB g1 g2 g3
            have HF : Hid (Below W.heap.size W (wB.alloc (.cells #[.int .i64 1, .int .i64 0, .int .i64 0] 43))) := bthen HBA.out (bthen PB.out.cf.bel (balloc (brefl _) _))
            clear hcB hfB hbB g1 g2 g3 HS3 PA PB
            go_wp2_with fail
            go_ret
            exact ⟨rfl, HF.out⟩

set_option maxRecDepth 100000 in
theorem coreKeeps_lifted (os : Os) (started : os.Started) (H : Type) (enc : TypeId × Value → H) :
    ReturnsInHanded {} Try.checked os 4 .any (Rows.coreKeepsSpec.pre6 enc Try.prog Try.f4 Rows.coreKeepsRow.domain false) (Rows.coreKeepsSpec.post enc Try.prog Try.f4 false true false false) := by
  refine returnsInHanded_of_change (C := Try.checked) own started (by kernel_rfl) Try.func4
    (ChangeSpec.witness6 (enc := enc) (C := Try.checked) false ⟨#[], #[.int .i64 0, .slice none 0 0, .agg #[.int .i64 0, .int .i64 0, .bool false]], []⟩ 8 (by kernel_rfl) (by kernel_rfl) (by kernel_rfl) (by kernel_rfl)) ?_
  intro W base args ds gs before hval0 hW hcnd _
  have hval : ∀ (j : Nat) t v, Try.f4.params[j]? = some t → args[j]? = some v → Value.okWide Try.prog W .any base t v := hval0
  have hW' := hW
  obtain ⟨p, q, hA0, hV, rfl, hfz, hnd⟩ := hW
  have hA : DataW.TrodAll enc Try.prog W 0 (fun _ => true) true Try.f4.params.toList args.toList ds p := hA0
  rw [Try.params4] at hA hval
  obtain ⟨v0, vs0, d0, ds0, p0, q0, hargs, rfl, rfl, h0, r0⟩ := trodAll_cons hA
  obtain ⟨v1, vs1, d1, ds1, p1, q1, rfl, rfl, rfl, h1, r1⟩ := trodAll_cons r0
  obtain ⟨v2, vs2, d2, ds2, p2, q2, rfl, rfl, rfl, h2, r2⟩ := trodAll_cons r1
  obtain ⟨rfl, rfl, rfl⟩ := trodAll_nil r2
  obtain rfl : args = #[v0, v1, v2] := by cases args; simp_all
  obtain ⟨rfl, rfl⟩ := trodVars_none hV
  obtain ⟨a0a, rfl, f0a⟩ := openInt (hval 0 3 v0 rfl rfl) h0
  obtain ⟨a1a, a1b, a1c, a1d, rfl, f1a⟩ := openWords (hval 1 22 v1 rfl rfl) h1
  obtain ⟨a2a, a2b, a2c, rfl, f2a, f2b⟩ := openAccess (hval 2 34 v2 rfl rfl) h2
  clear hA0 hval0
  refine (coreKeeps_walk W a0a f0a a1a a1b a1c a1d f1a a2a a2b a2c f2a f2b).mono fun e W' ⟨he, bel⟩ => ?_
  subst he
  exact ⟨_, rfl, _, _, _, [], _, [], hW', trodAll_mk1 (shut_bool Try.underlying4 _), (trodAll_cons_mk (stays (by kernel_rfl) (of_decide_eq_true (by kernel_rfl)) h0 bel) (trodAll_cons_mk (stays (by kernel_rfl) (of_decide_eq_true (by kernel_rfl)) h1 bel) (trodAll_cons_mk (stays (by kernel_rfl) (of_decide_eq_true (by kernel_rfl)) h2 bel) trodAll_mk0))), rfl, bel.frame _, fun h => by cases h⟩

theorem coreKeeps_over : Rows.coreKeepsRow.holds Try.pinned (OpenSpec.ofChange Rows.coreKeepsSpec) :=
  OpenClaim.holds_of_wide 4 Try.f4 rfl rfl rfl rfl rfl rfl rfl ⟨rfl, rfl, rfl, rfl, rfl⟩ rfl rfl rfl rfl rfl (by kernel_rfl) Try.func4 (by kernel_rfl)
    (of_decide_eq_true (by kernel_rfl)) (by unfold Func.isWrapper; first | (rw [if_pos (by decide +kernel)]; kernel_rfl) | (rw [if_neg (by decide +kernel)]; exact ⟨rfl, rfl⟩))
    (fun os started H enc _ => coreKeeps_lifted os started H enc)

theorem coreKeeps_proved : Rows.CoreKeepsSaid := coreKeeps_over
#print axioms coreKeeps_proved
end Go.Proofs.Ytbkpndgadgafiae
