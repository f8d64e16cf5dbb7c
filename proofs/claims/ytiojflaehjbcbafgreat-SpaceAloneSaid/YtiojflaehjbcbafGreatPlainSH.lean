/-
  Plain facts: how a space begins.
-/
import Derived.Test.YtiojflaehjbcbafGreatPlainSD
import Derived.KernelRfl
namespace Go.Proofs.YtiojflaehjbcbafGreat
open Go.RowKit
set_option maxRecDepth 10000
namespace Pg
/-- The answer that the book of the mappings gives. -/
def Right (L : List Mp) (q k : Int) (u : Bool) (e : Ev) : Prop := e.a = ansE L q k u ∧ e.f = ansF L q k u ∧ e.r = ansR L q k u

theorem takes_n (S : Fs) : S.take.n = S.n := by
  unfold Fs.take
  split
  · rfl
  · split <;> rfl
theorem insW_n (p s : Int) : ∀ (lv : Nat) (S : Fs) (t : Int), (insW p s lv S t).1.n = S.n
  | 0, _, _ => rfl
  | lv + 1, S, t => by
    rw [insW]
    split
    · rfl
    · rw [insW_n p s lv, (store_n _ _ _ _).1, takes_n]
theorem ins_n (S : Fs) (t : Int) (m : Mp) : (insS S t m).n = S.n := by
  unfold insS
  split
  · rw [(store_n _ _ _ _).1, insW_n]
  · rfl

theorem prs_n (S : Fs) (t p r : Int) : (prS S t p r).n = S.n := by
  unfold prS
  split
  · exact (store_n _ _ _ _).1
  · rfl
section
variable {X : Spc} {L L0 : List Mp}
theorem Inv.stT (h : Inv X L L0) {k : Nat} (hk : k < X.C.length) (ho : (X.C.getD k Cr.new).K.on = true) : Stepped X.S X.G L L0 X.T (X.W.getD k false) (X.C.getD k Cr.new) := bas_walk h.bas (h.cores k hk) ho

/-- How many frames there are, and cores, stays. -/
theorem go_sizes (h : Inv X L L0) (x : Sx) : (X.goN x).S.n = X.S.n ∧ (X.goN x).C.length = X.C.length := by
  unfold Spc.goN
  split
  · unfold Spc.chN
    split
    · exact ⟨rfl, rfl⟩
    · rename_i hb
      have hb : X.busy = false := by simpa using hb
      split
      · exact ⟨ins_n _ _ _, rfl⟩
      · split
        · split
          · exact ⟨(rep_remove (h.rep hb) _).2.1, rfl⟩
          · exact ⟨rfl, rfl⟩
        · split
          · exact ⟨prs_n _ _ _ _, rfl⟩
          · exact ⟨rfl, rfl⟩
  · split
    · exact ⟨rfl, rfl⟩
    · split
      · exact ⟨rfl, rfl⟩
      · rename_i _ hc
        have hlt := core_lt hc
        split
        · exact ⟨rfl, by simp⟩
        · split
          · refine ⟨?_, by simp⟩
            show ((X.C.getD x.core.toNat Cr.new).stS X.S 0).n = X.S.n
            cases ho : (X.C.getD x.core.toNat Cr.new).K.on
            · rw [(off_step (S := X.S) ho).2.2]
            · exact (h.stT hlt ho).n
          · split
            · unfold Spc.akN
              split
              · exact ⟨rfl, rfl⟩
              · split
                · exact ⟨rfl, by simp⟩
                · exact ⟨(gives_like X.G X.S h.bas.ok h.bas.nd h.bas.hs).2.2.1, by simp⟩
            · exact ⟨rfl, by simp⟩
/-- What the tables are, and how many. -/
theorem inv_tables (h : Inv X L L0) : (thr X.S allW 3 0 0).2 = 0 ∧ mapsOf (thr X.S allW 3 0 0).1 = L ∧ ((0 : Int) :: tabsOf (thr X.S allW 3 0 0).1).Nodup ∧ (((0 : Int) :: tabsOf (thr X.S allW 3 0 0).1).length : Int) + X.G.length + X.S.free = X.S.n ∧ needed L = (((0 : Int) :: tabsOf (thr X.S allW 3 0 0).1).length : Int) := by
  rw [h.bas.thr]
  have g := gives_like X.G X.S h.bas.ok h.bas.nd h.bas.hs
  have hf := rep_free h.bas.rep
  have hn := rep_needed h.bas.rep
  rw [g.2.2.2.2, g.2.2.1] at hf
  refine ⟨h.bas.rep.code, h.bas.rep.maps, h.bas.rep.nodup, ?_, ?_⟩
  · rw [List.length_cons]
    omega
  · rw [hn, List.length_cons]
    omega

theorem code_le (m : Mp) : 0 ≤ m.code ∧ m.code ≤ 3 := by
  unfold Mp.code check
  split
  · decide
  · split
    · decide
    · split <;> decide
theorem dropC_le (L : List Mp) (p : Int) : dropC L p = 0 ∨ dropC L p = 1 ∨ dropC L p = 5 := by
  unfold dropC
  split
  · split
    · exact .inr (.inr rfl)
    · exact .inl rfl
  · exact .inr (.inl rfl)
theorem ins_code {S : Fs} (h : Rep S L) (m : Mp) : 0 ≤ insC S 0 m ∧ insC S 0 m ≤ 6 := by
  rcases rep_insert h m with ⟨e, _⟩ | ⟨_, e, _⟩
  · omega
  · rw [e]
    unfold addC
    have := code_le m
    split
    · omega
    · split <;> omega
theorem access_le (q k : Int) : 0 ≤ checkAccess q k ∧ checkAccess q k ≤ 2 := by
  unfold checkAccess
  split
  · split <;> decide
  · decide
theorem bgT_code (C : Cr) (q k : Int) (u : Bool) : (C.bgT q k u).c = if checkAccess q k ≠ 0 then checkAccess q k else if C.K.on = true then 8 else 0 := by
  unfold Cr.bgT
  split
  · rfl
  · split
    · rfl
    · split
      · rfl
      · rfl
/-- The codes of steps: none meets a table that is not in use. -/
theorem safe_code (h : Inv X L L0) (x : Sx) : 0 ≤ (X.goE x).c ∧ (X.goE x).c ≤ 9 ∧ (x.kind = 5 → (X.goE x).c = 0 ∨ (X.goE x).c = 9 ∨ (X.goE x).c = 1) := by
  unfold Spc.goE
  split
  · rename_i hk
    refine ⟨?_, ?_, fun e => by omega⟩ <;> unfold Spc.chE <;> split
    · decide
    · rename_i hb
      have hb : X.busy = false := by simpa using hb
      split
      · exact (ins_code (h.rep hb) x.m).1
      · split
        · show 0 ≤ tFC X.S 0 x.m.p
          rw [(rep_codes (h.rep hb) _).1]
          have := dropC_le L x.m.p
          omega
        · show 0 ≤ prC X.S 0 x.m.p x.m.r
          unfold prC
          rw [(rep_codes (h.rep hb) _).1]
          have := dropC_le L x.m.p
          split <;> omega
    · decide
    · rename_i hb
      have hb : X.busy = false := by simpa using hb
      split
      · have := (ins_code (h.rep hb) x.m).2
        show insC X.S 0 x.m ≤ 9
        omega
      · split
        · show tFC X.S 0 x.m.p ≤ 9
          rw [(rep_codes (h.rep hb) _).1]
          have := dropC_le L x.m.p
          omega
        · show prC X.S 0 x.m.p x.m.r ≤ 9
          unfold prC
          rw [(rep_codes (h.rep hb) _).1]
          have := dropC_le L x.m.p
          split <;> omega
  · split
    · rename_i hk
      exact ⟨by decide, by decide, fun e => by omega⟩
    · split
      · exact ⟨by decide, by decide, fun _ => .inr (.inr rfl)⟩
      · rename_i hc
        have hlt := core_lt hc
        split
        · rename_i h4
          show 0 ≤ ((X.at' x.core).bgT x.q x.k x.u).c ∧ ((X.at' x.core).bgT x.q x.k x.u).c ≤ 9 ∧ _
          rw [bgT_code]
          have := access_le x.q x.k
          refine ⟨?_, ?_, fun e => by omega⟩
          · split
            · omega
            · split <;> omega
          · split
            · omega
            · split <;> omega
        · split
          · show 0 ≤ ((X.C.getD x.core.toNat Cr.new).stT X.S 0).c ∧ ((X.C.getD x.core.toNat Cr.new).stT X.S 0).c ≤ 9 ∧ (_ → ((X.C.getD x.core.toNat Cr.new).stT X.S 0).c = 0 ∨ ((X.C.getD x.core.toNat Cr.new).stT X.S 0).c = 9 ∨ ((X.C.getD x.core.toNat Cr.new).stT X.S 0).c = 1)
            cases ho : (X.C.getD x.core.toNat Cr.new).K.on
            · rw [(off_step (S := X.S) ho).1]
              exact ⟨by decide, by decide, fun _ => .inr (.inl rfl)⟩
            · rw [(h.stT hlt ho).code]
              exact ⟨by decide, by decide, fun _ => .inl rfl⟩
          · rename_i h5
            split
            · unfold Spc.akE
              split
              · exact ⟨by decide, by decide, fun e => absurd e h5⟩
              · split <;> exact ⟨by decide, by decide, fun e => absurd e h5⟩
            · split <;> exact ⟨by decide, by decide, fun e => absurd e h5⟩
/-- A step that can't be changes nothing. -/
theorem code_same (h : Inv X L L0) (x : Sx) (hc : (X.goE x).c ≠ 0) : X.goN x = X ∧ X.goE x = .code (X.goE x).c := by
  unfold Spc.goE at hc ⊢
  unfold Spc.goN
  by_cases hk : 1 ≤ x.kind ∧ x.kind ≤ 3
  · rw [if_pos hk] at hc
    rw [if_pos hk, if_pos hk]
    unfold Spc.chE at hc ⊢
    unfold Spc.chN
    by_cases hb : X.busy = true
    · rw [if_pos hb, if_pos hb]
      exact ⟨rfl, rfl⟩
    · rw [if_neg hb] at hc
      rw [if_neg hb, if_neg hb]
      by_cases h1 : x.kind = 1
      · rw [if_pos h1] at hc
        rw [if_pos h1, if_pos h1]
        have hc : insC X.S 0 x.m ≠ 0 := hc
        have : insS X.S 0 x.m = X.S := by rw [insS, if_neg hc]
        rw [this]
        refine ⟨rfl, ?_⟩
        simp [Ev.code, hc]
      · rw [if_neg h1] at hc
        rw [if_neg h1, if_neg h1]
        by_cases h2 : x.kind = 2
        · rw [if_pos h2] at hc
          rw [if_pos h2, if_pos h2, if_neg (show ¬ tFC X.S 0 x.m.p = 0 from hc)]
          exact ⟨rfl, rfl⟩
        · rw [if_neg h2] at hc
          rw [if_neg h2, if_neg h2, if_neg (show ¬ prC X.S 0 x.m.p x.m.r = 0 from hc)]
          exact ⟨rfl, rfl⟩
  · rw [if_neg hk] at hc
    rw [if_neg hk, if_neg hk]
    by_cases hk2 : x.kind < 1 ∨ 7 < x.kind
    · rw [if_pos hk2, if_pos hk2]
      exact ⟨rfl, rfl⟩
    · rw [if_neg hk2] at hc
      rw [if_neg hk2, if_neg hk2]
      by_cases hr : x.core < 0 ∨ (X.C.length : Int) ≤ x.core
      · rw [if_pos hr, if_pos hr]
        exact ⟨rfl, rfl⟩
      · rw [if_neg hr] at hc
        rw [if_neg hr, if_neg hr]
        have hlt := core_lt hr
        by_cases h4 : x.kind = 4
        · rw [if_pos h4] at hc
          rw [if_pos h4, if_pos h4]
          have hc : ((X.at' x.core).bgT x.q x.k x.u).c ≠ 0 := hc
          rw [bgT_code] at hc
          have e1 : (X.at' x.core).bgN 0 x.q x.k x.u = X.at' x.core := by
            unfold Cr.bgN
            rw [if_neg]
            rintro ⟨a1, a2, _⟩
            rw [a1, a2] at hc
            exact hc rfl
          have e2 : (X.at' x.core).bgT x.q x.k x.u = .code ((X.at' x.core).bgT x.q x.k x.u).c := by
            unfold Cr.bgT
            split
            · rfl
            · rename_i b1
              split
              · rfl
              · rename_i b2
                rw [if_neg b1, if_neg b2] at hc
                exact absurd rfl hc
          rw [e1]
          refine ⟨?_, ?_⟩
          · unfold Spc.at'
            rw [set_same hlt]
          · rw [e2]
            rfl
        · rw [if_neg h4] at hc
          rw [if_neg h4, if_neg h4]
          by_cases h5 : x.kind = 5
          · rw [if_pos h5] at hc
            rw [if_pos h5, if_pos h5]
            have hc : ((X.C.getD x.core.toNat Cr.new).stT X.S 0).c ≠ 0 := hc
            cases ho : (X.C.getD x.core.toNat Cr.new).K.on
            · obtain ⟨o1, o2, o3⟩ := off_step (S := X.S) ho
              unfold Spc.at'
              rw [o1, o2, o3, set_same hlt]
              exact ⟨rfl, rfl⟩
            · exact absurd (h.stT hlt ho).code hc
          · rw [if_neg h5] at hc
            rw [if_neg h5, if_neg h5]
            by_cases h6 : x.kind = 6
            · rw [if_pos h6] at hc
              rw [if_pos h6, if_pos h6]
              unfold Spc.akE at hc ⊢
              unfold Spc.akN
              by_cases hw : X.W.getD x.core.toNat false = false
              · rw [if_pos hw, if_pos hw]
                exact ⟨rfl, rfl⟩
              · rw [if_neg hw] at hc
                exfalso
                split at hc
                · exact hc rfl
                · exact hc rfl
            · rw [if_neg h6] at hc
              rw [if_neg h6, if_neg h6]
              by_cases hL : (X.at' x.core).L = []
              · rw [if_pos hL]
                refine ⟨?_, rfl⟩
                have : (X.at' x.core).evict = X.at' x.core := by
                  unfold Cr.evict
                  rw [hL]
                  show (⟨[], (X.at' x.core).K⟩ : Cr) = _
                  rw [← hL]
                rw [this]
                unfold Spc.at'
                rw [set_same hlt]
              · rw [if_neg hL] at hc
                exact absurd rfl hc

/-- A line of the page: the answer is right, by what its mapping is of. -/
theorem line_right {L : List Mp} (hg : Good L) {l : Ln} (hm : l.m ∈ L) {q : Int} (hq : l.m.has q = true) (k : Int) (u : Bool) : Right L q k u (l.ans q k u).ev := by
  obtain ⟨h1, h2, h3⟩ := good_ans hg hm hq k u
  exact ⟨h1.symm, h2.symm, h3.symm⟩
theorem hit_line {C : Cr} {q k : Int} {u : Bool} (h : C.hit q k u = true) : kAt C.L q ∈ C.L ∧ (kAt C.L q).m.has q = true ∧ (kAt C.L q).wants k u = false := by
  unfold Cr.hit at h
  simp only [Bool.and_eq_true, Option.isSome_iff_exists, Bool.not_eq_true'] at h
  obtain ⟨⟨j, hj⟩, hw⟩ := h
  obtain ⟨k1, k2, _⟩ := kFnd_some hj
  refine ⟨?_, ?_, hw⟩
  · unfold kAt
    rw [hj]
    exact ln_mem k1
  · unfold kAt
    rw [hj]
    exact k2
theorem bgT_ended {C : Cr} {q k : Int} {u : Bool} (h : (C.bgT q k u).ended = true) : checkAccess q k = 0 ∧ C.K.on = false ∧ C.hit q k u = true ∧ C.bgT q k u = (kAt C.L q).ans q k u := by
  unfold Cr.bgT at h ⊢
  split at h
  · cases h
  · rename_i h1
    split at h
    · cases h
    · rename_i h2
      split at h
      · rename_i h3
        refine ⟨by simpa using h1, by simpa using h2, h3, ?_⟩
        rw [if_neg h1, if_neg h2, if_pos h3]
      · cases h
/-- An access that ended: of what kind the step was, and that the answer is right by the mappings, or, while a change is not over, by those ahead of it. -/
theorem ended_right (h : Inv X L L0) (x : Sx) (he : (X.goE x).ended = true) : (X.goE x).c = 0 ∧ (X.goE x).back = false ∧ 0 ≤ x.core ∧ x.core < X.C.length ∧
    ((x.kind = 4 ∧ checkAccess x.q x.k = 0 ∧ (X.at' x.core).K.on = false ∧ (Right L x.q x.k x.u (X.goE x) ∨ (X.busy = true ∧ Right L0 x.q x.k x.u (X.goE x)))) ∨
     (x.kind = 5 ∧ (X.at' x.core).K.on = true ∧ Right L (X.at' x.core).K.q (X.at' x.core).K.k (X.at' x.core).K.u (X.goE x))) := by
  unfold Spc.goE at he ⊢
  split at he
  · exfalso
    unfold Spc.chE at he
    split at he
    · cases he
    · split at he
      · cases he
      · split at he <;> cases he
  · rename_i hk
    split at he
    · cases he
    · rename_i hk2
      split at he
      · cases he
      · rename_i hc
        have hlt := core_lt hc
        rw [if_neg hk, if_neg hk2, if_neg hc]
        split at he
        · rename_i h4
          rw [if_pos h4]
          have he : ((X.at' x.core).bgT x.q x.k x.u).ended = true := he
          obtain ⟨b1, b2, b3, b4⟩ := bgT_ended he
          obtain ⟨l1, l2, l3⟩ := hit_line b3
          rw [b4]
          refine ⟨rfl, rfl, by omega, by omega, .inl ⟨h4, b1, b2, ?_⟩⟩
          rcases (h.cores _ hlt).lines _ l1 with hx | ⟨hw, hx, _⟩
          · exact .inl (line_right (rep_good h.bas.rep) (hx.mem h.bas.rep) l2 _ _)
          · have hb : X.busy = true := List.any_eq_true.2 ⟨true, by rw [← hw]; exact getD_mem (by rw [h.len]; exact hlt) _, rfl⟩
            exact .inr ⟨hb, line_right (h.past hb) hx l2 _ _⟩
        · rename_i h4
          rw [if_neg h4]
          split at he
          · rename_i h5
            rw [if_pos h5]
            have he : ((X.C.getD x.core.toNat Cr.new).stT X.S 0).ended = true := he
            cases ho : (X.C.getD x.core.toNat Cr.new).K.on
            · rw [(off_step (S := X.S) ho).1] at he
              cases he
            · have hs := h.stT hlt ho
              exact ⟨hs.code, rfl, by omega, by omega, .inr ⟨h5, ho, hs.ans he⟩⟩
          · split at he
            · unfold Spc.akE at he
              split at he
              · cases he
              · split at he <;> cases he
            · split at he <;> cases he
/-- What was done leaves its marks, while no change is begun. -/
theorem done_marks (h : Inv X L L0) (x : Sx) (he : (X.goE x).ended = true) (ha : (X.goE x).a = 0) (hb : X.busy = false) :
    ∃ q k : Int, ((x.kind = 4 ∧ q = x.q ∧ k = x.k) ∨ (x.kind = 5 ∧ q = (X.at' x.core).K.q ∧ k = (X.at' x.core).K.k)) ∧ below q 4096 = true ∧ ∃ m, m.has q = true ∧ Leaf (X.goN x).S m (k == 1) := by
  have hr := h.rep hb
  have hG := h.calm hb
  obtain ⟨_, _, c0, c1, hx⟩ := ended_right h x he
  have hc : ¬ (x.core < 0 ∨ (X.C.length : Int) ≤ x.core) := by omega
  have hlt := core_lt hc
  rcases hx with ⟨h4, a1, a2, _⟩ | ⟨h5, ho, _⟩
  · refine ⟨x.q, x.k, .inl ⟨h4, rfl, rfl⟩, access_page a1, ?_⟩
    have eE : X.goE x = ((X.at' x.core).bgT x.q x.k x.u).ev := by
      unfold Spc.goE
      rw [if_neg (by omega), if_neg (by omega), if_neg hc, if_pos h4]
    have eN : (X.goN x).S = X.S := by
      unfold Spc.goN
      rw [if_neg (by omega), if_neg (by omega), if_neg hc, if_pos h4]
    rw [eN]
    rw [eE] at he ha
    have he : ((X.at' x.core).bgT x.q x.k x.u).ended = true := he
    have ha : ((X.at' x.core).bgT x.q x.k x.u).a = 0 := ha
    obtain ⟨b1, b2, b3, b4⟩ := bgT_ended he
    obtain ⟨l1, l2, l3⟩ := hit_line b3
    rw [b4] at ha
    have hm : may (kAt (X.at' x.core).L x.q).m.r x.k x.u = true := by
      have ha : aEnd (kAt (X.at' x.core).L x.q).m.r x.k x.u = 0 := ha
      unfold aEnd at ha
      split at ha
      · assumption
      · omega
    have hK := h.cores _ hlt
    rw [h.still hb, hG] at hK
    rcases hK.lines _ l1 with hl | hl
    · refine ⟨_, l2, ?_⟩
      obtain ⟨s, s1, s2, s3, s4, s5⟩ := hl
      refine ⟨s, s1, s2, s3, s4, fun hk => s5 ?_⟩
      unfold Ln.wants at l3
      rw [hk, hm] at l3
      simpa using l3
    · simp at hl
  · have hst := h.stT hlt ho
    refine ⟨_, _, .inr ⟨h5, rfl, rfl⟩, (h.cores _ hlt).ok.walk.page ho, ?_⟩
    have eE : X.goE x = ((X.C.getD x.core.toNat Cr.new).stT X.S 0).ev := by
      unfold Spc.goE
      rw [if_neg (by omega), if_neg (by omega), if_neg hc, if_neg (by omega), if_pos h5]
      rfl
    have eN : (X.goN x).S = (X.C.getD x.core.toNat Cr.new).stS X.S 0 := by
      unfold Spc.goN
      rw [if_neg (by omega), if_neg (by omega), if_neg hc, if_neg (by omega), if_pos h5]
      rfl
    rw [eN]
    rw [eE] at he ha
    have := hst.done he ha
    rw [hG] at this
    exact this
/-- What is marked stays marked, but where it is unmapped. -/
theorem marks_stay (h : Inv X L L0) (x : Sx) {q : Int} (hm : Marked (gives X.G X.S) q) (hn : x.kind = 2 → (X.goE x).c = 0 → (tFM X.S 0 x.m.p).has q = false) : Marked (gives (X.goN x).G (X.goN x).S) q := by
  unfold Spc.goE at hn
  unfold Spc.goN
  by_cases hk : 1 ≤ x.kind ∧ x.kind ≤ 3
  · rw [if_pos hk] at hn ⊢
    unfold Spc.chE at hn
    unfold Spc.chN
    by_cases hb : X.busy = true
    · rw [if_pos hb]
      exact hm
    · rw [if_neg hb] at hn ⊢
      have hb : X.busy = false := by simpa using hb
      have hr := h.rep hb
      have hG := h.calm hb
      rw [hG] at hm
      by_cases h1 : x.kind = 1
      · rw [if_pos h1]
        show Marked (gives X.G (insS X.S 0 x.m)) q
        rw [hG]
        exact marked_insert hr x.m hm
      · rw [if_neg h1] at hn ⊢
        by_cases h2 : x.kind = 2
        · rw [if_pos h2] at hn ⊢
          by_cases hc : tFC X.S 0 x.m.p = 0
          · rw [if_pos hc]
            exact marked_remove hr x.m.p hm fun _ => hn h2 hc
          · rw [if_neg hc, hG]
            exact hm
        · rw [if_neg h2]
          by_cases hc : prC X.S 0 x.m.p x.m.r = 0
          · rw [if_pos hc]
            exact marked_protect hr x.m.p x.m.r hm
          · rw [if_neg hc, hG]
            exact hm
  · rw [if_neg hk]
    split
    · exact hm
    · split
      · exact hm
      · rename_i _ hc
        have hlt := core_lt hc
        split
        · exact hm
        · split
          · show Marked (gives X.G ((X.C.getD x.core.toNat Cr.new).stS X.S 0)) q
            cases ho : (X.C.getD x.core.toNat Cr.new).K.on
            · rw [(off_step (S := X.S) ho).2.2]
              exact hm
            · exact (h.stT hlt ho).marks q hm
          · split
            · unfold Spc.akN
              split
              · exact hm
              · split
                · exact hm
                · exact hm
            · exact hm
/-- The entry of a page that is marked: Find tells it. -/
theorem marks_find (h : Inv X L L0) {q : Int} (hq : below q 4096 = true) (hm : Marked (gives X.G X.S) q) : tFC X.S 0 q = 0 ∧ (tFE X.S 0 q).u = true ∧ (tFE X.S 0 q).d = true := by
  obtain ⟨q0, q1⟩ := below_iff.1 hq
  obtain ⟨n, rfl⟩ := Int.eq_ofNat_of_zero_le q0
  obtain ⟨f1, _, f3⟩ := h.bas.find (n : Int)
  rw [f1, f3]
  exact marked_find h.bas.rep (by omega) hm
end
end Pg
end Go.Proofs.YtiojflaehjbcbafGreat

namespace Go.Proofs.YtiojflaehjbcbafGreat
open Go.RowKit
set_option maxRecDepth 10000
namespace Pg
/-- How many steps a walk has ahead of it, at most. -/
def rk (S : Fs) (K : Wk) : Nat := if K.x = 0 then K.lv + 2 else if K.word S = K.x then 1 else 6
theorem rk_pos (S : Fs) (K : Wk) : 1 ≤ rk S K := by
  unfold rk
  split
  · omega
  · split <;> omega
theorem rk_step {S : Fs} {root : Int} {K K' : Wk} (h : kOut S root K = .go K') : rk S K' < rk S K := by
  unfold kOut at h
  split at h
  · cases h
  · rename_i ho
    have ho : K.on = true := by simpa using ho
    split at h
    · cases h
    · split at h
      · rename_i hx
        split at h
        · cases h
        · rename_i hw
          cases h
          have e1 : (K.again root).x = 0 ∧ (K.again root).lv = 3 := by
            unfold Wk.again
            rw [if_pos ho]
            exact ⟨rfl, rfl⟩
          unfold rk
          rw [if_pos e1.1, e1.2, if_neg hx, if_neg hw]
          omega
      · rename_i hx
        have hx : K.x = 0 := by simpa using hx
        split at h
        · cases h
        · split at h
          · cases h
          · rename_i ht
            have ht : (En.of (K.word S) K.lv).t = true := by simpa using ht
            split at h
            · rename_i hl
              cases h
              have hlv : K.lv ≠ 0 := by
                intro e
                rw [e] at hl ht
                have : (En.of (K.word S) ((0 : Nat) : Int)).on = true := by simp only [En.on, hl, ht]; rfl
                simp [En.on, En.of, xL, dLeaf] at this
              unfold rk
              rw [if_pos (show ({ K with t := (En.of (K.word S) K.lv).f, lv := K.lv - 1 } : Wk).x = 0 from hx), if_pos hx]
              show K.lv - 1 + 2 < K.lv + 2
              omega
            · split at h
              · cases h
              · split at h
                · cases h
                  have hw : K.word S ≠ 0 := by
                    intro e
                    rw [e] at ht
                    simp [En.of, dGood] at ht
                  unfold rk
                  rw [if_neg (show ¬ ({ K with x := K.word S } : Wk).x = 0 from hw), if_pos (show ({ K with x := K.word S } : Wk).word S = ({ K with x := K.word S } : Wk).x from rfl), if_pos hx]
                  omega
                · cases h
theorem rk_le {S : Fs} {K : Wk} (h : K.Ok) : rk S K ≤ 6 := by
  have := h.lv
  unfold rk
  split
  · omega
  · split <;> omega

/-- The steps of an access, and of a walk. -/
def Sx.acc (c : Nat) (m : Mp) (q k : Int) (u : Bool) : Sx := ⟨4, c, m, q, k, u⟩
def Sx.wlk (c : Nat) : Sx := ⟨5, c, .zz, 0, 0, false⟩
def Sx.ack (c : Nat) : Sx := ⟨6, c, .zz, 0, 0, false⟩
section
variable {X X0 : Spc} {L L0 : List Mp}
theorem go_acc (X : Spc) {c : Nat} (hc : c < X.C.length) (m : Mp) (q k : Int) (u : Bool) : X.goE (.acc c m q k u) = ((X.C.getD c Cr.new).bgT q k u).ev ∧ X.goN (.acc c m q k u) = { X with C := X.C.set c ((X.C.getD c Cr.new).bgN 0 q k u) } := by
  unfold Spc.goE Spc.goN Sx.acc
  simp only
  rw [if_neg (by omega), if_neg (by omega), if_neg (by omega), if_pos trivial, if_neg (by omega), if_neg (by omega), if_neg (by omega), if_pos trivial]
  exact ⟨rfl, rfl⟩
theorem go_wlk (X : Spc) {c : Nat} (hc : c < X.C.length) : X.goE (.wlk c) = ((X.C.getD c Cr.new).stT X.S 0).ev ∧ X.goN (.wlk c) = { X with S := (X.C.getD c Cr.new).stS X.S 0, C := X.C.set c ((X.C.getD c Cr.new).stN X.S 0) } := by
  unfold Spc.goE Spc.goN Sx.wlk
  simp only
  rw [if_neg (by omega), if_neg (by omega), if_neg (by omega), if_neg (by omega), if_pos trivial, if_neg (by omega), if_neg (by omega), if_neg (by omega), if_neg (by omega), if_pos trivial]
  exact ⟨rfl, rfl⟩
theorem go_ack (X : Spc) {c : Nat} (hc : c < X.C.length) : X.goE (.ack c) = X.akE c ∧ X.goN (.ack c) = X.akN c := by
  unfold Spc.goE Spc.goN Sx.ack
  simp only
  rw [if_neg (by omega), if_neg (by omega), if_neg (by omega), if_neg (by omega), if_neg (by omega), if_pos trivial, if_neg (by omega), if_neg (by omega), if_neg (by omega), if_neg (by omega), if_neg (by omega), if_pos trivial]
  exact ⟨rfl, rfl⟩

/-- What a core's step of its walk comes to while no change is begun: on its way, with less ahead of it, or ended as the mappings say. -/
theorem walk_on (h : Inv X L L0) (hb : X.busy = false) {c : Nat} (hc : c < X.C.length) (ho : (X.C.getD c Cr.new).K.on = true) :
    ((X.C.getD c Cr.new).stT X.S 0 = .code 0 ∧ (X.C.getD c Cr.new).stS X.S 0 = X.S ∧ ((X.C.getD c Cr.new).stN X.S 0).K.on = true ∧ ((X.C.getD c Cr.new).stN X.S 0).K.q = (X.C.getD c Cr.new).K.q ∧ ((X.C.getD c Cr.new).stN X.S 0).K.k = (X.C.getD c Cr.new).K.k ∧ ((X.C.getD c Cr.new).stN X.S 0).K.u = (X.C.getD c Cr.new).K.u ∧ rk X.S ((X.C.getD c Cr.new).stN X.S 0).K < rk X.S (X.C.getD c Cr.new).K) ∨
    ((X.C.getD c Cr.new).stT X.S 0).ended = true ∧ ((X.C.getD c Cr.new).stN X.S 0).K.on = false := by
  have hG := h.calm hb
  have hK := h.cores c hc
  rw [h.still hb, hG] at hK
  rcases hK.walk ho with hon | hx
  · have hs := on_step (h.rep hb) hK.ok.walk ho hon
    unfold Cr.stT Cr.stS Cr.stN
    rcases hout : kOut X.S 0 (X.C.getD c Cr.new).K with c | K' | r | ⟨e, m⟩
    · rw [hout] at hs
      exact hs.elim
    · rw [hout] at hs
      exact .inl ⟨rfl, rfl, hs.1, hs.2.2.1, hs.2.2.2.1, hs.2.2.2.2, rk_step hout⟩
    · exact .inr ⟨rfl, rfl⟩
    · exact .inr ⟨rfl, rfl⟩
  · simp at hx

/-- Where an access of a core is, behind i steps of its walk, while no change is begun: on its way; ended, as the mappings say; refused. -/
structure Cst (X0 : Spc) (L L0 : List Mp) (c : Nat) (q k : Int) (u : Bool) (i : Nat) (e : Ev) (X : Spc) : Prop where
  inv : Inv X L L0
  calm : X.busy = false
  n : X.S.n = X0.S.n
  len : X.C.length = X0.C.length
  oth : ∀ j, j ≠ c → X.C.getD j Cr.new = X0.C.getD j Cr.new
  at' : (e = .code 0 ∧ checkAccess q k = 0 ∧ (X.C.getD c Cr.new).K.on = true ∧ (X.C.getD c Cr.new).K.q = q ∧ (X.C.getD c Cr.new).K.k = k ∧ (X.C.getD c Cr.new).K.u = u ∧ rk X.S (X.C.getD c Cr.new).K + i ≤ 5) ∨
    (e.c = 0 ∧ e.ended = true ∧ e.back = false ∧ checkAccess q k = 0 ∧ Right L q k u e ∧ (X.C.getD c Cr.new).K.on = false) ∨
    (e = .code (checkAccess q k) ∧ checkAccess q k ≠ 0 ∧ (X.C.getD c Cr.new).K.on = false)
theorem cst_begin (h : Inv X L L0) (hb : X.busy = false) {c : Nat} (hc : c < X.C.length) (hoff : (X.C.getD c Cr.new).K.on = false) (m : Mp) (q k : Int) (u : Bool) : Cst X L L0 c q k u 0 (X.goE (.acc c m q k u)) (X.goN (.acc c m q k u)) := by
  have hinv : Inv (X.goN (.acc c m q k u)) L L0 := inv_step h (.acc c m q k u)
  obtain ⟨g1, g2⟩ := go_acc X hc m q k u
  have hr := ended_right h (.acc c m q k u)
  rw [g2] at hinv ⊢
  refine ⟨hinv, hb, rfl, by simp, fun j hj => ?_, ?_⟩
  · show (X.C.set c _).getD j Cr.new = _
    rw [set_getD hc, if_neg hj]
  · have e0 : (X.C.set c ((X.C.getD c Cr.new).bgN 0 q k u)).getD c Cr.new = (X.C.getD c Cr.new).bgN 0 q k u := by rw [set_getD hc, if_pos rfl]
    simp only
    rw [e0, g1]
    rw [g1] at hr
    by_cases ha : checkAccess q k = 0
    · by_cases hh : (X.C.getD c Cr.new).hit q k u = true
      · have e1 : (X.C.getD c Cr.new).bgT q k u = (kAt (X.C.getD c Cr.new).L q).ans q k u := by
          unfold Cr.bgT
          rw [if_neg (by simp [ha]), if_neg (by rw [hoff]; simp), if_pos hh]
        have e2 : (X.C.getD c Cr.new).bgN 0 q k u = X.C.getD c Cr.new := by
          unfold Cr.bgN
          rw [if_neg]
          rintro ⟨_, _, e⟩
          rw [hh] at e
          cases e
        obtain ⟨r1, r2, _, _, r5⟩ := hr (by rw [e1]; rfl)
        rw [e2]
        refine .inr (.inl ⟨r1, by rw [e1]; rfl, r2, ha, ?_, hoff⟩)
        rcases r5 with ⟨_, _, _, r5 | ⟨r5, _⟩⟩ | ⟨r5, _⟩
        · exact r5
        · rw [hb] at r5
          cases r5
        · cases r5
      · have hh : (X.C.getD c Cr.new).hit q k u = false := by simpa using hh
        have e1 : (X.C.getD c Cr.new).bgT q k u = .code 0 := by
          unfold Cr.bgT
          rw [if_neg (by simp [ha]), if_neg (by rw [hoff]; simp), if_neg (by rw [hh]; simp)]
        have e2 : (X.C.getD c Cr.new).bgN 0 q k u = ⟨(X.C.getD c Cr.new).L, Wk.start 0 q k u⟩ := by
          unfold Cr.bgN
          rw [if_pos ⟨ha, hoff, hh⟩]
        rw [e1, e2]
        exact .inl ⟨rfl, ha, rfl, rfl, rfl, rfl, by show rk X.S (Wk.start 0 q k u) + 0 ≤ 5; simp [rk, Wk.start]⟩
    · have e1 : (X.C.getD c Cr.new).bgT q k u = .code (checkAccess q k) := by
        unfold Cr.bgT
        rw [if_pos ha]
      have e2 : (X.C.getD c Cr.new).bgN 0 q k u = X.C.getD c Cr.new := by
        unfold Cr.bgN
        rw [if_neg]
        rintro ⟨e, _⟩
        exact ha e
      rw [e1, e2]
      exact .inr (.inr ⟨rfl, ha, hoff⟩)
theorem cst_step {c : Nat} {q k : Int} {u : Bool} {i : Nat} {e : Ev} (h : Cst X0 L L0 c q k u i e X) (hc : c < X.C.length) (h1 : e.c = 0) (h2 : e.ended = false) : i ≤ 4 ∧ Cst X0 L L0 c q k u (i + 1) (X.goE (.wlk c)) (X.goN (.wlk c)) := by
  rcases h.at' with ⟨_, ha, ho, a1, a2, a3, a4⟩ | ⟨_, e2, _⟩ | ⟨e1, e2, _⟩
  · have hp := rk_pos X.S (X.C.getD c Cr.new).K
    refine ⟨by omega, ?_⟩
    have hinv : Inv (X.goN (.wlk c)) L L0 := inv_step h.inv (.wlk c)
    obtain ⟨s1, s2⟩ := go_sizes h.inv (.wlk c)
    obtain ⟨g1, g2⟩ := go_wlk X hc
    have hr := ended_right h.inv (.wlk c)
    have hw := walk_on h.inv h.calm hc ho
    rw [g1] at hr ⊢
    rw [g2] at hinv s1 s2 ⊢
    refine ⟨hinv, h.calm, s1.trans h.n, s2.trans h.len, fun j hj => ?_, ?_⟩
    · show (X.C.set c _).getD j Cr.new = _
      rw [set_getD hc, if_neg hj]
      exact h.oth j hj
    · have e0 : (X.C.set c ((X.C.getD c Cr.new).stN X.S 0)).getD c Cr.new = (X.C.getD c Cr.new).stN X.S 0 := by rw [set_getD hc, if_pos rfl]
      simp only
      rw [e0]
      rcases hw with ⟨w1, w2, w3, w4, w5, w6, w7⟩ | ⟨w1, w2⟩
      · rw [w1, w2]
        exact .inl ⟨rfl, ha, w3, w4.trans a1, w5.trans a2, w6.trans a3, by omega⟩
      · obtain ⟨r1, r2, _, _, r5⟩ := hr w1
        refine .inr (.inl ⟨r1, w1, r2, ha, ?_, w2⟩)
        rcases r5 with ⟨r5, _⟩ | ⟨_, _, r5⟩
        · cases r5
        · have e3 : X.at' (Sx.wlk c).core = X.C.getD c Cr.new := rfl
          rw [e3, a1, a2, a3] at r5
          exact r5
  · rw [h2] at e2
    cases e2
  · rw [e1] at h1
    exact absurd h1 e2
/-- It ended, or was refused. -/
theorem cst_end {c : Nat} {q k : Int} {u : Bool} {i : Nat} {e : Ev} (h : Cst X0 L L0 c q k u i e X) (hd : i = 6 ∨ e.c ≠ 0 ∨ e.ended = true) : (X.C.getD c Cr.new).K.on = false ∧ ((checkAccess q k = 0 ∧ e.c = 0 ∧ e.ended = true ∧ e.back = false ∧ Right L q k u e) ∨ (checkAccess q k ≠ 0 ∧ e = .code (checkAccess q k))) := by
  rcases h.at' with ⟨e1, ha, ho, a1, a2, a3, a4⟩ | ⟨e1, e2, e3, e4, e5, e6⟩ | ⟨e1, e2, e3⟩
  · exfalso
    rcases hd with hd | hd | hd
    · omega
    · rw [e1] at hd
      exact hd rfl
    · rw [e1] at hd
      cases hd
  · exact ⟨e6, .inl ⟨e4, e1, e2, e3, e5⟩⟩
  · exact ⟨e3, .inr ⟨e2, e1⟩⟩
/-- Two events that are right by the same mappings, or refused, are the same. -/
theorem ends_same {q k : Int} {u : Bool} {e e' : Ev} (h : (checkAccess q k = 0 ∧ e.c = 0 ∧ e.ended = true ∧ e.back = false ∧ Right L q k u e) ∨ (checkAccess q k ≠ 0 ∧ e = .code (checkAccess q k))) (h' : (checkAccess q k = 0 ∧ e'.c = 0 ∧ e'.ended = true ∧ e'.back = false ∧ Right L q k u e') ∨ (checkAccess q k ≠ 0 ∧ e' = .code (checkAccess q k))) : e = e' := by
  rcases h with ⟨a0, a1, a2, a3, a4, a5, a6⟩ | ⟨a0, a1⟩
  · rcases h' with ⟨b0, b1, b2, b3, b4, b5, b6⟩ | ⟨b0, _⟩
    · obtain ⟨c, en, a, f, r, b⟩ := e
      obtain ⟨c', en', a', f', r', b'⟩ := e'
      simp only at a1 a2 a3 a4 a5 a6 b1 b2 b3 b4 b5 b6
      subst a1 a2 a3 b1 b2 b3
      rw [a4, a5, a6, b4, b5, b6]
    · exact absurd a0 b0
  · rcases h' with ⟨b0, _⟩ | ⟨_, b1⟩
    · exact absurd b0 a0
    · rw [a1, b1]

/-- Which cores wait, behind an Ack. -/
theorem ack_W (h : Inv X L L0) {k : Nat} (hk : k < X.C.length) (j : Nat) : (X.akN k).W.getD j false = if j = k then false else X.W.getD j false := by
  have hkW : k < X.W.length := by rw [h.len]; exact hk
  unfold Spc.akN
  simp only [Int.toNat_natCast]
  split
  · rename_i hw
    split
    · rename_i e
      rw [e]
      exact hw
    · rfl
  · split <;> exact set_getD hkW false false j
theorem ack_C (X : Spc) {k : Nat} (hk : k < X.C.length) (j : Nat) : ((X.akN k).C.getD j Cr.new).K.on = (X.C.getD j Cr.new).K.on := by
  unfold Spc.akN
  simp only [Int.toNat_natCast]
  have : ∀ C : Cr, (C.told 0 X.T).K.on = C.K.on := fun C => by
    show (C.K.again 0).on = C.K.on
    unfold Wk.again
    split <;> simp_all
  have hs : ((X.C.set k ((X.at' k).told 0 X.T)).getD j Cr.new).K.on = (X.C.getD j Cr.new).K.on := by
    rw [set_getD hk]
    split
    · rename_i e
      subst e
      exact this _
    · rfl
  split
  · rfl
  · split
    · exact hs
    · exact hs
theorem busy_iff (X : Spc) : X.busy = true ↔ ∃ j, j < X.W.length ∧ X.W.getD j false = true := by
  unfold Spc.busy
  rw [List.any_eq_true]
  constructor
  · rintro ⟨b, hb, hb2⟩
    obtain ⟨j, hj, rfl⟩ := List.mem_iff_getElem.1 hb
    exact ⟨j, hj, by simp [List.getD, hj]; exact hb2⟩
  · rintro ⟨j, hj, e⟩
    exact ⟨true, by rw [← e]; exact getD_mem hj _, rfl⟩
theorem busy_no {X : Spc} (h : ∀ j, j < X.W.length → X.W.getD j false = false) : X.busy = false := by
  cases hb : X.busy
  · rfl
  · obtain ⟨j, h1, h2⟩ := (busy_iff X).1 hb
    rw [h j h1] at h2
    cases h2
/-- What an Ack comes to: nothing, or over if it was the last one. -/
theorem ack_E (X : Spc) (k : Nat) : X.akE k = (if X.W.getD k false = false then .code 9 else if (X.akN k).busy = true then .code 0 else ⟨0, false, 0, 0, 0, true⟩) := by
  unfold Spc.akE Spc.akN
  simp only [Int.toNat_natCast]
  by_cases hw : X.W.getD k false = false
  · rw [if_pos hw, if_pos hw]
  · rw [if_neg hw, if_neg hw, if_neg hw]
    by_cases hb : (X.W.set k false).any id = true
    · rw [if_pos hb, if_pos hb]
      exact (if_pos hb).symm
    · rw [if_neg hb, if_neg hb]
      exact (if_neg hb).symm

/-- How deep the way of a page goes is told by the mappings. -/
theorem way_depth {S : Fs} (h : Rep S L) {q : Nat} (hq : q < 4096) {l : Nat} (h1 : 1 ≤ l) (h3 : l ≤ 3) : lastL (fndX S 0 (q : Int)) < (l : Int) ↔ Wants L 3 (l, q / 8 ^ l) := by
  have K := kpt h.ok 3 (by omega) 0 0 (by decide) h.code h.full
  rw [h.maps] at K
  rw [← K.mem (l, q / 8 ^ l)]
  have hp : below (q : Int) 4096 = true := below_iff.2 ⟨by omega, by omega⟩
  have hd : q / 8 ^ 3 < 8 := by
    rw [show (8 : Nat) ^ 3 = 512 by decide]
    omega
  obtain ⟨hz, lv, e, tl, A, B, F⟩ := rep_find h hq
  have hwz : (thr S (onW (q : Int)) 3 0 0).2 = 0 := by
    unfold fndC at hz
    rw [if_pos hp] at hz
    exact hz
  have eX : fndX S 0 (q : Int) = (thr S (onW (q : Int)) 3 0 0).1 := by unfold fndX; rw [if_pos ⟨hp, hwz⟩]
  obtain ⟨_, hlk⟩ := way_like S (q : Int) 3 0 0
  obtain ⟨s, j1, j2, j3, j4, j5⟩ := hlk hwz
  have eL : lastL (fndX S 0 (q : Int)) = (s.level : Int) := by
    rw [eX]
    unfold Go.Proofs.YtiojflaehjbcbafGreat.lastL
    rw [j1]
  rw [eL]
  constructor
  · intro hlt
    obtain ⟨s', m1, m2, m3⟩ := way_step S (q : Int) 3 0 0 hwz s j1 l (by omega) h3
    obtain ⟨A', B', sp⟩ := spot1 h.ok q 3 (by omega) 0 0 (by omega) (by decide) (by omega) (by omega) h.code h.nodup s' m1
    have hm : s' ∈ (thr S allW 3 0 0).1 := by
      rw [sp.all]
      refine List.mem_append_left _ (List.mem_append_right _ ?_)
      have hs' : spt S s'.table s'.place s'.level (s'.ahead - s'.place) = s' := by
        unfold spt
        rw [← sp.en, Nat.sub_add_cancel sp.le]
      obtain ⟨_, ho⟩ := out_all sp.code
      rw [hs'] at ho
      rcases ho with ⟨_, ho⟩ | ⟨_, _, ho⟩ <;> rw [ho] <;> exact List.mem_cons_self
    simp only [kOf, List.mem_flatMap]
    refine ⟨s', hm, ?_⟩
    rw [if_pos m3, m2, sp.ahead, m2]
    exact List.mem_cons_self
  · intro hk
    simp only [kOf, List.mem_flatMap] at hk
    obtain ⟨s', hs', hk⟩ := hk
    split at hk
    · rename_i ho
      simp only [List.mem_singleton, Prod.mk.injEq] at hk
      obtain ⟨b, rfl⟩ : ∃ b, l = b + 1 := ⟨l - 1, by omega⟩
      have hT : Tab S s'.e.f b (q / 8 ^ (b + 1)) := .inr ⟨s', hs', ho, rfl, hk.1.symm, hk.2.symm⟩
      obtain ⟨P, a, hw⟩ := tab_way h.code hq (3 - b) b (by omega) _ hT
      obtain ⟨_, hlk2⟩ := way_like S (q : Int) b s'.e.f a
      rw [hw] at hwz j1
      obtain ⟨y, y1, y2, _⟩ := hlk2 hwz
      have hne : (thr S (onW (q : Int)) b s'.e.f a).1 ≠ [] := by
        intro e
        rw [e] at y1
        cases y1
      have : s = y := by
        have j1 : (P ++ (thr S (onW (q : Int)) b s'.e.f a).1).getLast? = some s := j1
        rw [List.getLast?_append, y1] at j1
        simpa using j1.symm
      subst this
      have hl : 1 ≤ (thr S (onW (q : Int)) b s'.e.f a).1.length := by
        cases hx : (thr S (onW (q : Int)) b s'.e.f a).1 with
        | nil => exact absurd hx hne
        | cons _ _ => simp
      omega
    · simp at hk
/-- Insert's code is told by the mappings and how many frames there are. -/
theorem ins_same {S S' : Fs} (h : Rep S L) (h' : Rep S' L) (hn : S.n = S'.n) (m : Mp) : insC S 0 m = insC S' 0 m := by
  by_cases hm : m.code = 0
  · obtain ⟨_, z1, z2, _⟩ := check_zero hm
    obtain ⟨q, hmp⟩ := Int.eq_ofNat_of_zero_le z1
    have hq : q < 4096 := by omega
    obtain ⟨hz, lv, e, tl, A, B, F⟩ := rep_find h hq
    obtain ⟨hz', lv', e', tl', A', B', F'⟩ := rep_find h' hq
    have hfree : S.free = S'.free := by
      have t1 := rep_tables h
      have t2 := rep_tables h'
      omega
    have hlv : lv = lv' := by
      have d : ∀ l : Nat, 1 ≤ l → l ≤ 3 → ((lv : Int) < l ↔ (lv' : Int) < l) := fun l h1 h3 => by
        have e1 := way_depth h hq h1 h3
        have e2 := way_depth h' hq h1 h3
        rw [F.way.lastL] at e1
        rw [F'.way.lastL] at e2
        exact e1.trans e2.symm
      have b1 := F.le
      have b2 := F'.le
      have d1 := d 1 (by omega) (by omega)
      have d2 := d 2 (by omega) (by omega)
      have d3 := d 3 (by omega) (by omega)
      omega
    have ht : (e.t = true) ↔ (e'.t = true) := by
      have c1 := (rep_codes h (q : Int)).1
      have c2 := (rep_codes h' (q : Int)).1
      rw [tFC, hz, if_neg (by decide), F.way.lastE] at c1
      rw [tFC, hz', if_neg (by decide), F'.way.lastE, ← c1] at c2
      cases he : e.t <;> cases he' : e'.t <;> rw [he, he'] at c2 <;> simp at c2 ⊢
    have c1 : insC S 0 m = if e.t = true ∨ (lv : Int) < m.s then 4 else if S.free < (lv : Int) - m.s then 6 else 0 := by
      rw [insC, if_neg (by simpa using hm), hmp, hz, if_neg (by decide), F.way.lastE, F.way.lastL]
    have c2 : insC S' 0 m = if e'.t = true ∨ (lv' : Int) < m.s then 4 else if S'.free < (lv' : Int) - m.s then 6 else 0 := by
      rw [insC, if_neg (by simpa using hm), hmp, hz', if_neg (by decide), F'.way.lastE, F'.way.lastL]
    rw [c1, c2, hlv, hfree]
    by_cases hx : e.t = true ∨ (lv' : Int) < m.s
    · rw [if_pos hx, if_pos (hx.imp ht.1 id)]
    · have hx' : ¬ (e'.t = true ∨ (lv' : Int) < m.s) := fun y => hx (y.imp ht.2 id)
      rw [if_neg hx, if_neg hx']
  · unfold insC
    rw [if_pos hm, if_pos hm]
/-- Changes of two spaces with the same mappings, of which none is begun, come to the same. -/
theorem change_same {X' : Spc} {L0' : List Mp} (h : Inv X L L0) (h' : Inv X' L L0') (hb : X.busy = false) (hb' : X'.busy = false) (hn : X.S.n = X'.S.n) (x : Sx) (hk : 1 ≤ x.kind ∧ x.kind ≤ 3) : X.goE x = X'.goE x ∧ X.nxL L x = X'.nxL L x := by
  have e : X.goE x = X'.goE x := by
    unfold Spc.goE
    rw [if_pos hk, if_pos hk]
    unfold Spc.chE
    rw [if_neg (show ¬ X.busy = true by rw [hb]; simp), if_neg (show ¬ X'.busy = true by rw [hb']; simp)]
    rw [ins_same (h.rep hb) (h'.rep hb') hn, (rep_codes (h.rep hb) _).1, (rep_codes (h'.rep hb') _).1, (rep_protect (h.rep hb) _ _).1, (rep_protect (h'.rep hb') _ _).1]
  refine ⟨e, ?_⟩
  unfold Spc.nxL
  rw [e]
end
end Pg
end Go.Proofs.YtiojflaehjbcbafGreat

namespace Go.Proofs.YtiojflaehjbcbafGreat
open Go.RowKit
set_option maxRecDepth 10000
namespace Pg
/-- What was mapped at each time, and which time is over. -/
structure Tms where
  L : List (List Mp)
  fl : Nat
def opL (L : List Mp) (x : Sx) : List Mp := if x.kind = 1 then addL L x.m else if x.kind = 2 then dropL L x.m.p else protL L x.m.p x.m.r
namespace Tms
def new : Tms := ⟨[[]], 0⟩
def now (T : Tms) : List Mp := T.L.getD (T.L.length - 1) []
def more (T : Tms) (x : Sx) (e : Ev) : List (List Mp) := if e.c = 0 ∧ 1 ≤ x.kind ∧ x.kind ≤ 3 then T.L ++ [opL T.now x] else T.L
def next (T : Tms) (x : Sx) (e : Ev) : Tms := ⟨T.more x e, if e.back = true then (T.more x e).length - 1 else T.fl⟩
/-- It was right at some time from one on. -/
def Was (T : Tms) (from' : Nat) (q k : Int) (u : Bool) (e : Ev) : Prop := ∃ i, from' ≤ i ∧ i < T.L.length ∧ Right (T.L.getD i []) q k u e
end Tms
/-- Times that fit a space. -/
structure TOk (X : Spc) (L L0 : List Mp) (T : Tms) : Prop where
  one : 1 ≤ T.L.length
  now : T.now = L
  good : ∀ M, M ∈ T.L → Good M
  busy : X.busy = true → T.fl + 2 = T.L.length ∧ T.L.getD T.fl [] = L0
  calm : X.busy = false → T.fl + 1 = T.L.length
section
variable {X : Spc} {L L0 : List Mp} {T : Tms}
theorem tok_new {cores n : Nat} : TOk (Spc.new cores n) [] [] Tms.new := by
  refine ⟨by simp [Tms.new], rfl, fun M hM => ?_, fun h => ?_, fun _ => rfl⟩
  · have : M = [] := by simpa [Tms.new] using hM
    rw [this]
    exact Good.nil
  · exfalso
    simp [Spc.busy, Spc.new] at h
/-- What becomes of the change that is not over. -/
theorem go_busy (h : Inv X L L0) (x : Sx) :
    ((2 ≤ x.kind ∧ x.kind ≤ 3 ∧ (X.goE x).c = 0) ∧ X.busy = false ∧ (X.goN x).busy = true ∧ (X.goE x).back = false) ∨
    ((x.kind = 1 ∧ (X.goE x).c = 0) ∧ X.busy = false ∧ (X.goN x).busy = false ∧ (X.goE x).back = true) ∨
    (¬ (1 ≤ x.kind ∧ x.kind ≤ 3 ∧ (X.goE x).c = 0) ∧ (((X.goE x).back = false ∧ (X.goN x).busy = X.busy) ∨ ((X.goE x).back = true ∧ X.busy = true ∧ (X.goN x).busy = false ∧ (X.goE x).c = 0))) := by
  by_cases hk : 1 ≤ x.kind ∧ x.kind ≤ 3
  · by_cases hc : (X.goE x).c = 0
    · have hg : X.goE x = X.chE x := by unfold Spc.goE; rw [if_pos hk]
      have hN : X.goN x = X.chN x := by unfold Spc.goN; rw [if_pos hk]
      rw [hg] at hc ⊢
      rw [hN]
      unfold Spc.chE at hc ⊢
      unfold Spc.chN
      by_cases hb : X.busy = true
      · rw [if_pos hb] at hc
        cases hc
      · rw [if_neg hb] at hc
        rw [if_neg hb, if_neg hb]
        have hb' : X.busy = false := by simpa using hb
        by_cases h1 : x.kind = 1
        · rw [if_pos h1] at hc
          rw [if_pos h1, if_pos h1]
          have hc : insC X.S 0 x.m = 0 := hc
          exact .inr (.inl ⟨⟨h1, hc⟩, hb', hb', by simp [hc]⟩)
        · rw [if_neg h1] at hc
          rw [if_neg h1, if_neg h1]
          have hsome : 1 ≤ X.W.length := by rw [h.len]; exact h.some
          by_cases h2 : x.kind = 2
          · rw [if_pos h2] at hc
            rw [if_pos h2, if_pos h2, if_pos (show tFC X.S 0 x.m.p = 0 from hc)]
            exact .inl ⟨⟨by omega, hk.2, hc⟩, hb', any_map_true hsome, rfl⟩
          · rw [if_neg h2] at hc
            rw [if_neg h2, if_neg h2, if_pos (show prC X.S 0 x.m.p x.m.r = 0 from hc)]
            exact .inl ⟨⟨by omega, hk.2, hc⟩, hb', any_map_true hsome, rfl⟩
    · obtain ⟨e1, e2⟩ := code_same h x hc
      refine .inr (.inr ⟨fun e => hc e.2.2, .inl ⟨by rw [e2]; rfl, by rw [e1]⟩⟩)
  · refine .inr (.inr ⟨fun e => hk ⟨e.1, e.2.1⟩, ?_⟩)
    unfold Spc.goE Spc.goN
    rw [if_neg hk, if_neg hk]
    by_cases hk2 : x.kind < 1 ∨ 7 < x.kind
    · rw [if_pos hk2, if_pos hk2]
      exact .inl ⟨rfl, rfl⟩
    · rw [if_neg hk2, if_neg hk2]
      by_cases hr : x.core < 0 ∨ (X.C.length : Int) ≤ x.core
      · rw [if_pos hr, if_pos hr]
        exact .inl ⟨rfl, rfl⟩
      · rw [if_neg hr, if_neg hr]
        by_cases h4 : x.kind = 4
        · rw [if_pos h4, if_pos h4]
          exact .inl ⟨rfl, rfl⟩
        · rw [if_neg h4, if_neg h4]
          by_cases h5 : x.kind = 5
          · rw [if_pos h5, if_pos h5]
            exact .inl ⟨rfl, rfl⟩
          · rw [if_neg h5, if_neg h5]
            by_cases h6 : x.kind = 6
            · rw [if_pos h6, if_pos h6]
              have hlt := core_lt hr
              unfold Spc.akE Spc.akN
              by_cases hw : X.W.getD x.core.toNat false = false
              · rw [if_pos hw, if_pos hw]
                exact .inl ⟨rfl, rfl⟩
              · rw [if_neg hw, if_neg hw]
                have hw : X.W.getD x.core.toNat false = true := by simpa using hw
                have hb : X.busy = true := (busy_iff X).2 ⟨_, by rw [h.len]; exact hlt, hw⟩
                by_cases ha : (X.W.set x.core.toNat false).any id = true
                · rw [if_pos ha, if_pos ha]
                  exact .inl ⟨rfl, ha.trans hb.symm⟩
                · rw [if_neg ha, if_neg ha]
                  have ha : (X.W.set x.core.toNat false).any id = false := by simpa using ha
                  exact .inr ⟨rfl, hb, ha, rfl⟩
            · rw [if_neg h6, if_neg h6]
              split
              · exact .inl ⟨rfl, rfl⟩
              · exact .inl ⟨rfl, rfl⟩
theorem Tms.now_push (T : Tms) (M : List Mp) (f : Nat) : (⟨T.L ++ [M], f⟩ : Tms).now = M := by
  unfold Tms.now
  simp [List.getD]
theorem tok_step (h : Inv X L L0) (ht : TOk X L L0 T) (x : Sx) : TOk (X.goN x) (X.nxL L x) (X.nxP L L0 x) (T.next x (X.goE x)) := by
  have hg' := rep_good (inv_step h x).bas.rep
  have h1 := ht.one
  rcases go_busy h x with ⟨⟨k1, k2, k3⟩, b1, b2, b3⟩ | ⟨⟨k1, k3⟩, b1, b2, b3⟩ | ⟨hn, hx⟩
  · have eL : X.nxL L x = opL L x := by unfold Spc.nxL; rw [if_pos ⟨by omega, k2, k3⟩]; rfl
    have eP : X.nxP L L0 x = L := by unfold Spc.nxP; rw [if_pos ⟨k1, k2, k3⟩]
    have eT : T.next x (X.goE x) = ⟨T.L ++ [opL L x], T.fl⟩ := by
      unfold Tms.next Tms.more
      rw [if_pos ⟨k3, by omega, k2⟩, ht.now, b3]
      rfl
    have hfl := ht.calm b1
    rw [eL] at hg' ⊢
    rw [eP, eT]
    refine ⟨by simp, T.now_push _ _, fun M hM => ?_, fun _ => ⟨by simp; omega, ?_⟩, fun e => by rw [b2] at e; cases e⟩
    · rcases List.mem_append.1 hM with hM | hM
      · exact ht.good M hM
      · have : M = opL L x := by simpa using hM
        rw [this]
        exact hg'
    · show (T.L ++ [opL L x]).getD T.fl [] = L
      have e1 : T.fl = T.L.length - 1 := by omega
      have := ht.now
      unfold Tms.now at this
      rw [e1]
      simp only [List.getD] at this ⊢
      rw [List.getElem?_append_left (by omega)]
      exact this
  · have eL : X.nxL L x = opL L x := by unfold Spc.nxL; rw [if_pos ⟨by omega, by omega, k3⟩]; rfl
    have eT : T.next x (X.goE x) = ⟨T.L ++ [opL L x], T.L.length⟩ := by
      unfold Tms.next Tms.more
      rw [if_pos ⟨k3, by omega, by omega⟩, ht.now, b3]
      simp
    rw [eL] at hg' ⊢
    rw [eT]
    refine ⟨by simp, T.now_push _ _, fun M hM => ?_, fun e => (by rw [b2] at e; cases e), fun _ => by simp⟩
    rcases List.mem_append.1 hM with hM | hM
    · exact ht.good M hM
    · have : M = opL L x := by simpa using hM
      rw [this]
      exact hg'
  · have eL : X.nxL L x = L := by unfold Spc.nxL; rw [if_neg hn]
    have eP : X.nxP L L0 x = L0 := by unfold Spc.nxP; rw [if_neg (fun e => hn ⟨by omega, e.2⟩)]
    have eM : T.more x (X.goE x) = T.L := by unfold Tms.more; rw [if_neg (fun e => hn ⟨e.2.1, e.2.2, e.1⟩)]
    rw [eL, eP]
    rcases hx with ⟨b1, b2⟩ | ⟨b1, b2, b3, _⟩
    · have eT : T.next x (X.goE x) = T := by
        unfold Tms.next
        rw [eM, b1]
        rfl
      rw [eT]
      exact ⟨ht.one, ht.now, ht.good, fun e => ht.busy (by rw [← b2]; exact e), fun e => ht.calm (by rw [← b2]; exact e)⟩
    · have eT : T.next x (X.goE x) = ⟨T.L, T.L.length - 1⟩ := by
        unfold Tms.next
        rw [eM, b1]
        rfl
      rw [eT]
      exact ⟨ht.one, ht.now, ht.good, fun e => (by rw [b3] at e; cases e), fun _ => by show T.L.length - 1 + 1 = T.L.length; omega⟩
/-- The last time is the mappings'. -/
theorem TOk.last (ht : TOk X L L0 T) : T.L.getD (T.L.length - 1) [] = L := ht.now
theorem TOk.fl_lt (ht : TOk X L L0 T) : T.fl < T.L.length := by
  have := ht.one
  cases hb : X.busy
  · have := ht.calm hb
    omega
  · have := (ht.busy hb).1
    omega
/-- An access that ended was right at some time that was not over when it began: 's' is the floor of that time, if it began ahead. -/
theorem was_right (h : Inv X L L0) (ht : TOk X L L0 T) (x : Sx) (he : (X.goE x).ended = true) {s : Nat} (hs : s < T.L.length) :
    (X.goE x).c = 0 ∧ 0 ≤ x.core ∧ x.core < X.C.length ∧ ((x.kind = 4 ∧ T.Was T.fl x.q x.k x.u (X.goE x)) ∨ (x.kind = 5 ∧ T.Was s (X.at' x.core).K.q (X.at' x.core).K.k (X.at' x.core).K.u (X.goE x))) := by
  have h1 := ht.one
  obtain ⟨c0, _, c1, c2, hx⟩ := ended_right h x he
  refine ⟨c0, c1, c2, ?_⟩
  rcases hx with ⟨k4, _, _, hr⟩ | ⟨k5, _, hr⟩
  · refine .inl ⟨k4, ?_⟩
    rcases hr with hr | ⟨hb, hr⟩
    · have := ht.fl_lt
      exact ⟨T.L.length - 1, by omega, by omega, by rw [ht.last]; exact hr⟩
    · exact ⟨T.fl, by omega, ht.fl_lt, by rw [(ht.busy hb).2]; exact hr⟩
  · exact .inr ⟨k5, T.L.length - 1, by omega, by omega, by rw [ht.last]; exact hr⟩
/-- With nothing begun, and of a walk always, an answer is today's. -/
theorem now_right (h : Inv X L L0) (x : Sx) (he : (X.goE x).ended = true) (hb : x.kind = 4 → X.busy = false) :
    (x.kind = 4 ∧ Right L x.q x.k x.u (X.goE x)) ∨ (x.kind = 5 ∧ Right L (X.at' x.core).K.q (X.at' x.core).K.k (X.at' x.core).K.u (X.goE x)) := by
  obtain ⟨_, _, _, _, hx⟩ := ended_right h x he
  rcases hx with ⟨k4, _, _, hr⟩ | ⟨k5, _, hr⟩
  · refine .inl ⟨k4, ?_⟩
    rcases hr with hr | ⟨hb', _⟩
    · exact hr
    · rw [hb k4] at hb'
      cases hb'
  · exact .inr ⟨k5, hr⟩
end
end Pg
end Go.Proofs.YtiojflaehjbcbafGreat

namespace Go.Proofs.YtiojflaehjbcbafGreat
open Go.RowKit
set_option maxRecDepth 100000
namespace Pg
/-- What a space lists, and its tables. -/
def Spc.maps (X : Spc) : List Mp := if (thr X.S allW 3 0 0).2 = 0 then mapsOf (thr X.S allW 3 0 0).1 else []
def Spc.tabs (X : Spc) : List Int := if (thr X.S allW 3 0 0).2 = 0 then 0 :: tabsOf (thr X.S allW 3 0 0).1 else []
theorem Inv.maps {X : Spc} {L L0 : List Mp} (h : Inv X L L0) : X.maps = L := by
  obtain ⟨h1, h2, _⟩ := inv_tables h
  unfold Spc.maps
  rw [if_pos h1, h2]
theorem Inv.tabs {X : Spc} {L L0 : List Mp} (h : Inv X L L0) : X.tabs = 0 :: tabsOf (thr X.S allW 3 0 0).1 := by
  unfold Spc.tabs
  rw [if_pos (inv_tables h).1]
/-- The steps of a beginning. -/
def bgX : Spc := Spc.new 1 4
def bg1 : Sx := ⟨1, 0, ⟨5, 0, 9, 1⟩, 0, 0, false⟩
def bg2 : Sx := ⟨2, 0, ⟨5, 0, 0, 0⟩, 0, 0, false⟩
def bg3 : Sx := ⟨6, 0, ⟨0, 0, 0, 0⟩, 0, 0, false⟩
theorem bg_free : bgX.S.free = 3 := by decide
theorem bg_map : bgX.goE bg1 = ⟨0, false, 0, 0, 0, true⟩ := by kernel_rfl
theorem bg_none : (bgX.goN bg1).S.free = 0 := by kernel_rfl
theorem bg_un : (bgX.goN bg1).goE bg2 = .code 0 := by kernel_rfl
theorem bg_ack : ((bgX.goN bg1).goN bg2).goE bg3 = ⟨0, false, 0, 0, 0, true⟩ := by kernel_rfl
theorem bg_back : (((bgX.goN bg1).goN bg2).goN bg3).S.free = 3 := by kernel_rfl
theorem bg_maps : (((bgX.goN bg1).goN bg2).goN bg3).maps = [] := by kernel_rfl
end Pg
end Go.Proofs.YtiojflaehjbcbafGreat
