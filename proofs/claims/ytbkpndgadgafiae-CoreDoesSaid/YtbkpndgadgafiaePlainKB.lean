
/-
  A walk over words that nobody else changes: it ends, with what is on the way; made again, it tells the same.
-/
import Derived.Test.YtbkpndgadgafiaePlainK
namespace Go.Proofs.Ytbkpndgadgafiae
open Go.RowKit
namespace Pg
/-- The walk that reads the word of the table t of a level. -/
def Wk.at' (q k : Int) (u : Bool) (t : Int) (lv : Nat) (x : Int) : Wk := ⟨true, q, k, u, t, lv, x⟩

/-- The word that is read. -/
theorem rCode_of {S : Fs} {t : Int} {i lv : Nat} (h : S.has t = true) : rCode S t i lv = dCode (S.word t.toNat i) lv ∧ rEn S t i lv = En.of (S.word t.toNat i) lv := by
  unfold rCode rEn
  rw [if_pos h, if_pos h]
  exact ⟨rfl, rfl⟩

/-- A step that reads: by what is there. -/
theorem kRead (S : Fs) (root q k : Int) (u : Bool) (t : Int) (lv : Nat) :
    kOut S root (Wk.at' q k u t lv 0) =
      if rCode S t (ix q lv) lv ≠ 0 then .code (rCode S t (ix q lv) lv)
      else if (rEn S t (ix q lv) lv).t = false then .stop 1
      else if (rEn S t (ix q lv) lv).l = false then .go (Wk.at' q k u (rEn S t (ix q lv) lv).f (lv - 1) 0)
      else if may (rEn S t (ix q lv) lv).r k u = false then .stop 2
      else if (Wk.at' q k u t lv 0).ready (rEn S t (ix q lv) lv) = false then .go (Wk.at' q k u t lv (S.word t.toNat (ix q lv)))
      else .done (rEn S t (ix q lv) lv) false := by
  unfold kOut
  rw [if_neg (by simp [Wk.at'])]
  cases h : S.has t
  · have hr : rCode S t (ix q lv) lv = 12 := by simp [rCode, h]
    rw [if_pos (show S.has (Wk.at' q k u t lv 0).t = false from h), hr, if_pos (by decide)]
  · obtain ⟨h1, h2⟩ := rCode_of (i := ix q lv) (lv := lv) h
    rw [if_neg (show ¬ S.has (Wk.at' q k u t lv 0).t = false by rw [show (Wk.at' q k u t lv 0).t = t from rfl, h]; decide), if_neg (show ¬ (Wk.at' q k u t lv 0).x ≠ 0 from fun h => h rfl), h1, h2]
    rfl
/-- A step that marks. -/
theorem kMark {S : Fs} {root q k : Int} {u : Bool} {t : Int} {lv : Nat} {x : Int} (hx : x ≠ 0) (hh : S.has t = true) (hw : S.word t.toNat (ix q lv) = x) :
    kOut S root (Wk.at' q k u t lv x) = .done ((Wk.at' q k u t lv x).mark (En.of x lv)) true := by
  unfold kOut
  rw [if_neg (by simp [Wk.at']), if_neg (show ¬ S.has (Wk.at' q k u t lv x).t = false by rw [show (Wk.at' q k u t lv x).t = t from rfl, hh]; decide), if_pos (show (Wk.at' q k u t lv x).x ≠ 0 from hx), if_pos (show (Wk.at' q k u t lv x).word S = (Wk.at' q k u t lv x).x from hw)]
  rfl

/-- A leaf with marks is a leaf still; what it maps is the same. -/
theorem mark_leaf {K : Wk} {e : En} {lv : Int} (hl : e.l = true) (hf : e.fault lv = 0) : (K.mark e).fault lv = 0 ∧ ∀ q, (K.mark e).map lv q = e.map lv q := by
  obtain ⟨t, l, r, u, d, f⟩ := e
  simp only at hl
  subst hl
  have h := (marks true (d || K.k == 1) hf).2.1
  refine ⟨h, fun q => ?_⟩
  unfold En.map lPage lSize lFrame lRights lOk
  have h0 : eFault t true r u d f lv = 0 := hf
  show (⟨_, _, _, _⟩ : Mp) = _
  simp only [Wk.mark, h, h0]
theorem mark_ready (K : Wk) (e : En) : K.ready (K.mark e) = true := by
  unfold Wk.ready Wk.mark
  simp only [Bool.true_and]
  cases e.d <;> cases hk : (K.k == 1) <;> simp_all
theorem mark_same {K : Wk} {e : En} (h : K.ready e = true) : K.mark e = e := by
  obtain ⟨t, l, r, u, d, f⟩ := e
  unfold Wk.ready at h
  unfold Wk.mark
  cases hk : (K.k == 1) <;> simp_all

/-- What a walk to its end told, by how many steps, its code, and what it leaves. -/
structure Fin where
  R : Rs
  n : Int
  c : Int
  S : Fs
  K : Wk
def fin (root : Int) : Nat → Int → Fs → Wk → Fin
  | 0, _, S, K => ⟨Rs.zero, 20, -1, S, K⟩
  | f + 1, i, S, K => if (kOut S root K).cd ≠ 0 ∨ (kOut S root K).ended = true then ⟨(kOut S root K).res K, i, (kOut S root K).cd, (kOut S root K).fs S K, (kOut S root K).next K⟩
    else fin root f (i + 1) ((kOut S root K).fs S K) ((kOut S root K).next K)
theorem fin_code {root : Int} {f : Nat} {i : Int} {S : Fs} {K : Wk} {c : Int} (h : kOut S root K = .code c) (hc : c ≠ 0) : fin root (f + 1) i S K = ⟨Rs.zero, i, c, S, K⟩ := by
  rw [fin, h, if_pos (.inl hc)]
  rfl
theorem fin_stop {root : Int} {f : Nat} {i : Int} {S : Fs} {K : Wk} {r : Int} (h : kOut S root K = .stop r) : fin root (f + 1) i S K = ⟨(Wo.stop r).res K, i, 0, S, Wk.off⟩ := by
  rw [fin, h, if_pos (.inr rfl)]
  rfl
theorem fin_done {root : Int} {f : Nat} {i : Int} {S : Fs} {K : Wk} {e : En} {m : Bool} (h : kOut S root K = .done e m) : fin root (f + 1) i S K = ⟨(Wo.done e m).res K, i, 0, (Wo.done e m).fs S K, Wk.off⟩ := by
  rw [fin, h, if_pos (.inr rfl)]
  rfl
theorem fin_go {root : Int} {f : Nat} {i : Int} {S : Fs} {K K' : Wk} (h : kOut S root K = .go K') : fin root (f + 1) i S K = fin root f (i + 1) S K' := by
  rw [fin, h, if_neg (by simp [Wo.cd, Wo.ended])]
  rfl
/-- It ended with no code: it is off its way. -/
theorem fin_off (root : Int) : ∀ (f : Nat) (i : Int) (S : Fs) (K : Wk), (fin root f i S K).c = 0 → (fin root f i S K).K = Wk.off
  | 0, i, S, K, h => by simp [fin] at h
  | f + 1, i, S, K, h => by
    rcases ho : kOut S root K with c | K' | r | ⟨e, m⟩
    · by_cases hc : c = 0
      · subst hc
        rw [fin, ho, if_neg (by simp [Wo.cd, Wo.ended])] at h ⊢
        exact fin_off root f _ _ _ h
      · rw [fin_code ho hc] at h
        exact absurd h hc
    · rw [fin_go ho] at h ⊢
      exact fin_off root f _ _ _ h
    · rw [fin_stop ho]
    · rw [fin_done ho]

theorem store_word {S : Fs} {t i v : Int} (x j : Nat) (h : x ≠ t.toNat) : (S.store t i v).word x j = S.word x j := by
  unfold Fs.store
  split
  · show Fs.put S.word t.toNat i.toNat v x j = _
    unfold Fs.put
    rw [if_neg (fun e => h e.1)]
  · rfl
theorem store_at {S : Fs} {t : Int} {i : Nat} (v : Int) (hh : S.has t = true) (hi : i < 8) : (S.store t (i : Int) v).word t.toNat i = v := by
  have ha : S.at' t (i : Int) = true := by
    unfold Fs.at'
    rw [hh]
    simp
    omega
  unfold Fs.store
  rw [if_pos ha]
  show Fs.put S.word t.toNat (i : Int).toNat v t.toNat i = v
  unfold Fs.put
  rw [if_pos ⟨rfl, by omega⟩]
theorem store_has' (S : Fs) (t i v x : Int) : (S.store t i v).has x = S.has x := by
  unfold Fs.store
  split <;> rfl

/-- A walk that meets a code. -/
theorem fin_bad (S : Fs) (root q k : Int) (u : Bool) : ∀ (lv : Nat) (t : Int) (a f : Nat) (i : Int), lv < f → (thr S (onW q) lv t a).2 ≠ 0 → (fin root f i S (Wk.at' q k u t lv 0)).c = (thr S (onW q) lv t a).2
  | lv, t, a, 0, i, hf, _ => absurd hf (by omega)
  | lv, t, a, f + 1, i, hf, hz => by
    have hr := kRead S root q k u t lv
    rw [thr_way] at hz ⊢
    by_cases hc : rCode S t (ix q lv) lv = 0
    · rw [if_neg (by simpa using hc)] at hz hr ⊢
      cases ho : (rEn S t (ix q lv) lv).on
      · rw [if_pos ho] at hz
        exact absurd rfl hz
      · rw [if_neg (by simp [ho])] at hz ⊢
        obtain ⟨m, rfl⟩ := rEn_on ho
        simp only [En.on, Bool.and_eq_true, Bool.not_eq_true'] at ho
        rw [if_neg (by simp [ho.1]), if_pos ho.2] at hr
        rw [fin_go hr]
        exact fin_bad S root q k u m _ _ f (i + 1) (by omega) hz
    · rw [if_pos hc] at hr ⊢
      rw [fin_code hr hc]

/-- A walk again, on a way on which no table stands twice. -/
theorem fin_again {S : Fs} (hS : S.Ok) (root q k : Int) (u : Bool) (hq : below q 4096 = true) : ∀ (lv : Nat) (t : Int) (a f : Nat) (i : Int), lv < 4 → lv + 1 < f → (thr S (onW q) lv t a).2 = 0 → ((thr S (onW q) lv t a).1.map fun s => s.table).Nodup → (fin root f i S (Wk.at' q k u t lv 0)).c = 0 →
    (fin root f i (fin root f i S (Wk.at' q k u t lv 0)).S (Wk.at' q k u t lv 0)).c = 0 ∧ (fin root f i (fin root f i S (Wk.at' q k u t lv 0)).S (Wk.at' q k u t lv 0)).R = (fin root f i S (Wk.at' q k u t lv 0)).R ∧ (fin root f i (fin root f i S (Wk.at' q k u t lv 0)).S (Wk.at' q k u t lv 0)).n ≤ (fin root f i S (Wk.at' q k u t lv 0)).n ∧
    (∀ x, (fin root f i S (Wk.at' q k u t lv 0)).S.has x = S.has x) ∧ ∀ x, S.has x = true → (∀ s, s ∈ (thr S (onW q) lv t a).1 → s.table ≠ x) → ∀ j, (fin root f i S (Wk.at' q k u t lv 0)).S.word x.toNat j = S.word x.toNat j
  | lv, t, a, 0, i, _, hf, _, _, _ => absurd hf (by omega)
  | lv, t, a, f + 1, i, h4, hf, hz, hn, hc0 => by
    have hr := kRead S root q k u t lv
    rw [thr_way] at hz hn
    by_cases hc : rCode S t (ix q lv) lv = 0
    · have hh : S.has t = true := rCode_has hc
      rw [if_neg (by simpa using hc)] at hz hn hr
      cases ho : (rEn S t (ix q lv) lv).on
      · -- the last one
        have same : ∀ o, kOut S root (Wk.at' q k u t lv 0) = o → o.ended = true → o.fs S (Wk.at' q k u t lv 0) = S → (fin root (f + 1) i S (Wk.at' q k u t lv 0)).S = S := fun o h1 h3 h4 => by
          rw [fin, h1, if_pos (.inr h3)]
          exact h4
        by_cases h1 : (rEn S t (ix q lv) lv).t = false
        · rw [if_pos h1] at hr
          rw [same _ hr rfl rfl]
          exact ⟨hc0, rfl, Int.le_refl _, fun x => rfl, fun x _ _ j => rfl⟩
        · rw [if_neg h1] at hr
          have h1 : (rEn S t (ix q lv) lv).t = true := by simpa using h1
          have hl : (rEn S t (ix q lv) lv).l = true := by
            simp only [En.on, h1, Bool.true_and] at ho
            simpa using ho
          rw [if_neg (by simp [hl])] at hr
          by_cases h2 : may (rEn S t (ix q lv) lv).r k u = false
          · rw [if_pos h2] at hr
            rw [same _ hr rfl rfl]
            exact ⟨hc0, rfl, Int.le_refl _, fun x => rfl, fun x _ _ j => rfl⟩
          · rw [if_neg h2] at hr
            by_cases h3 : (Wk.at' q k u t lv 0).ready (rEn S t (ix q lv) lv) = false
            · rw [if_pos h3] at hr
              obtain ⟨e1, e2⟩ := rCode_of (i := ix q lv) (lv := lv) hh
              have hx : S.word t.toNat (ix q lv) ≠ 0 := fun e => by
                rw [e2, e] at h1
                simp [En.of, dGood] at h1
              obtain ⟨f', rfl⟩ : ∃ f', f = f' + 1 := ⟨f - 1, by omega⟩
              have hm := kMark (root := root) (k := k) (u := u) hx hh rfl
              rw [fin_go hr, fin_done hm]
              rw [← e2] at hm ⊢
              have hfl := rEn_fault hS hc
              obtain ⟨k1, k2⟩ := mark_leaf (K := Wk.at' q k u t lv (S.word t.toNat (ix q lv))) hl hfl
              have k3 := mark_ready (Wk.at' q k u t lv (S.word t.toNat (ix q lv))) (rEn S t (ix q lv) lv)
              have k4 : ((Wk.at' q k u t lv (S.word t.toNat (ix q lv))).mark (rEn S t (ix q lv) lv)).t = true ∧ ((Wk.at' q k u t lv (S.word t.toNat (ix q lv))).mark (rEn S t (ix q lv) lv)).l = true ∧ ((Wk.at' q k u t lv (S.word t.toNat (ix q lv))).mark (rEn S t (ix q lv) lv)).r = (rEn S t (ix q lv) lv).r := ⟨h1, hl, rfl⟩
              generalize (Wk.at' q k u t lv (S.word t.toNat (ix q lv))).mark (rEn S t (ix q lv) lv) = e' at *
              have hix : index q (lv : Int) = (ix q lv : Nat) := index_ix hq h4
              have eS : (Wo.done e' true).fs S (Wk.at' q k u t lv (S.word t.toNat (ix q lv))) = S.store t (ix q lv : Nat) (enc e'.t e'.l e'.r e'.u e'.d e'.f lv) := by
                show S.store t (index q lv) _ = _
                rw [hix]
                rfl
              rw [eS]
              have hw := store_at (enc e'.t e'.l e'.r e'.u e'.d e'.f lv) hh (ix_lt q lv)
              have hhs : ∀ x, (S.store t (ix q lv : Nat) (enc e'.t e'.l e'.r e'.u e'.d e'.f lv)).has x = S.has x := fun x => store_has' _ _ _ _ _
              have hoth : ∀ x : Nat, x ≠ t.toNat → ∀ j, (S.store t (ix q lv : Nat) (enc e'.t e'.l e'.r e'.u e'.d e'.f lv)).word x j = S.word x j := fun x hx j => store_word x j hx
              have hr2 := kRead (S.store t (ix q lv : Nat) (enc e'.t e'.l e'.r e'.u e'.d e'.f lv)) root q k u t lv
              obtain ⟨d0, d1⟩ := rCode_of (S := S.store t (ix q lv : Nat) (enc e'.t e'.l e'.r e'.u e'.d e'.f lv)) (i := ix q lv) (lv := lv) ((hhs t).trans hh)
              rw [hw] at d0 d1
              obtain ⟨_, _, b3, _, b5, b6, b7, b8, b9, b10⟩ := dec_enc (t := e'.t) (l := e'.l) (r := e'.r) (u := e'.u) (d := e'.d) (f := e'.f) (lv := (lv : Int)) k1
              have d2 : rEn (S.store t (ix q lv : Nat) (enc e'.t e'.l e'.r e'.u e'.d e'.f lv)) t (ix q lv) lv = e' := by
                rw [d1]
                unfold En.of
                rw [b5, b6, b7, b8, b9, b10]
              rw [d0, d2, b3, if_neg (by simp), if_neg (by simp [k4.1]), if_neg (by simp [k4.2.1]), if_neg (by rw [k4.2.2]; exact h2), if_neg (by rw [show (Wk.at' q k u t lv 0).ready e' = true from k3]; decide)] at hr2
              rw [fin_done hr2]
              refine ⟨rfl, rfl, ?_, hhs, fun x hx hs j => hoth _ (fun e => ?_) j⟩
              · show i ≤ i + 1
                omega
              · have : t ≠ x := by
                  refine hs (spt S t (ix q lv) lv a) ?_
                  rw [thr_way, if_neg (by simpa using hc), if_pos ho]
                  simp
                obtain ⟨x0, _⟩ := hS.has_lt hx
                obtain ⟨t0, _⟩ := hS.has_lt hh
                omega
            · rw [if_neg h3] at hr
              rw [same _ hr rfl rfl]
              exact ⟨hc0, rfl, Int.le_refl _, fun x => rfl, fun x _ _ j => rfl⟩
      · rw [if_neg (by simp [ho])] at hz hn
        obtain ⟨m, rfl⟩ := rEn_on ho
        have ho' := ho
        simp only [En.on, Bool.and_eq_true, Bool.not_eq_true'] at ho
        rw [if_neg (by simp [ho.1]), if_pos ho.2] at hr
        rw [fin_go hr] at hc0 ⊢
        simp only [List.map_cons, List.nodup_cons] at hn
        obtain ⟨i1, i2, i3, i4, i5⟩ := fin_again hS root q k u hq m _ _ f (i + 1) (by omega) (by omega) hz hn.2 hc0
        generalize hF : fin root f (i + 1) S (Wk.at' q k u (rEn S t (ix q (m + 1)) (m + 1)).f (m + 1 - 1) 0) = F at *
        have hF' : fin root f (i + 1) S (Wk.at' q k u (rEn S t (ix q (m + 1)) (m + 1)).f m 0) = F := hF
        rw [hF'] at i1 i2 i3 i4 i5
        have hw : ∀ j, F.S.word t.toNat j = S.word t.toNat j := fun j => i5 t hh (fun s hs e => hn.1 (List.mem_map.2 ⟨s, hs, e⟩)) j
        have hr2 : rCode F.S t (ix q (m + 1)) (m + 1) = rCode S t (ix q (m + 1)) (m + 1) ∧ rEn F.S t (ix q (m + 1)) (m + 1) = rEn S t (ix q (m + 1)) (m + 1) := by
          unfold rCode rEn
          rw [i4 t, hw]
          exact ⟨rfl, rfl⟩
        have hr3 := kRead F.S root q k u t (m + 1)
        rw [hr2.1, hr2.2, if_neg (by simpa using hc), if_neg (by simp [ho.1]), if_pos ho.2] at hr3
        rw [fin_go hr3]
        refine ⟨i1, i2, i3, i4, fun x hx hs j => i5 x hx (fun s hs' => hs s ?_) j⟩
        rw [thr_way, if_neg (by simpa using hc), if_neg (by simp [ho'])]
        exact List.mem_cons_of_mem _ hs'
    · rw [if_pos hc] at hr
      rw [fin_code hr hc] at hc0
      exact absurd hc0 hc
end Pg
end Go.Proofs.Ytbkpndgadgafiae
