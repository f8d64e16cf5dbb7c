
/-
  Frames alone, as TableKeeps holds them, and what it marks.
-/
import Derived.Test.YtbkpndgadgafiacTabL
import Derived.Test.YtbkpndgadgafiacTabOne
import Derived.Test.YtbkpndgadgafiacWalkD
import Derived.Test.YtbkpndgadgafiacWalkI
import Derived.Test.YtbkpndgadgafiacFrameB
import Derived.Test.YtbkpndgadgafiacMapInfo
import Derived.Test.YtbkpndgadgafiacPlainTI
import Derived.Test.YtbkpndgadgafiacPageRef
namespace Go.Proofs.Ytbkpndgadgafiac
open Go.RowKit Go.Sort
set_option linter.unusedVariables false
set_option linter.unusedSimpArgs false
set_option maxRecDepth 100000

structure Tk (w0 wc : World) (bf : Nat) (F : Nat → Prop) (S : Pg.Fs) : Prop where
  bel : Below w0.heap.size w0 wc
  fr : FrAt wc bf S F
  fhi : ∀ k, F k → w0.heap.size ≤ k
namespace Tk
variable {w0 wc wd : World} {bf : Nat} {F F' : Nat → Prop} {S S' : Pg.Fs}
theorem grow (h : Tk w0 wc bf F S) (hb : Below wc.heap.size wc wd) : Tk w0 wd bf F S :=
  ⟨bthen h.bel hb, h.fr.keep (G := fun _ => False) (But.of_below hb) fun _ _ => id, h.fhi⟩
theorem left (h : Tk w0 wc bf F S) (h1 : FrAt wd bf S' F') (hb : But F wc wd) (hF : ∀ k, F' k → F k ∨ wc.heap.size ≤ k) : Tk w0 wd bf F' S' := by
  refine ⟨h.bel.trans (hb.below h.bel.size h.fhi), h1, fun k hk => ?_⟩
  rcases hF k hk with h2 | h2
  · exact h.fhi k h2
  · have := h.bel.size; omega
end Tk

theorem MapsAt.but {w w' : World} {ad : Option Addr} {L : List Pg.Mp} {G : Nat → Prop} (h : MapsAt w ad L) (hb : But G w w') (hn : ∀ g, ad = some ⟨g, 0, none⟩ → ¬ G g) : MapsAt w' ad L := fun j hj => by
  obtain ⟨g, e, hl, h0, h1, h2, h3⟩ := h j hj
  refine ⟨g, e, Nat.lt_of_lt_of_le hl hb.size, ?_, ?_, ?_, ?_⟩
  · exact (hb.cell (a := ⟨g, _, none⟩) hl (hn g e)).trans h0
  · exact (hb.cell (a := ⟨g, _, none⟩) hl (hn g e)).trans h1
  · exact (hb.cell (a := ⟨g, _, none⟩) hl (hn g e)).trans h2
  · exact (hb.cell (a := ⟨g, _, none⟩) hl (hn g e)).trans h3
theorem owns_new {w : World} {base : Nat} {e : TypeId} {size n cap : Nat} {ad : Option Addr} {xs : List Value} (h : w.ownsRow base e size (.slice ad n cap) n xs) : ∀ g, ad = some ⟨g, 0, none⟩ → base ≤ g := by
  intro g hg
  rcases h.2 with ⟨e, _⟩ | ⟨g', c, cur, e, hb, _⟩
  · cases e; cases hg
  · cases e; cases hg; exact hb
theorem wFind_new {b : Nat} {S : Pg.Fs} {F : Nat → Prop} (t p : Int) (w : World) (h : FrAt w b S F) :
    Calls Try.prog 11 #[.pointer (some ⟨b, 0, none⟩), .int .i64 t, .int .i64 p] w fun e w' => ∃ a1 c1 a2 c2, e = .returned (.tuple #[spotV (fndX S t p) (.slice a1 (fndX S t p).length c1) (.slice a2 (fndX S t p).length c2), .int .i64 (fndC S t p)]) ∧ IntsAt w' a1 (tabs (fndX S t p)) ∧ IntsAt w' a2 (plcs (fndX S t p)) ∧ (∀ g, a1 = some ⟨g, 0, none⟩ → w.heap.size ≤ g) ∧ (∀ g, a2 = some ⟨g, 0, none⟩ → w.heap.size ≤ g) ∧ Below w.heap.size w w' := by
  refine (wFind_own t p w h).mono ?_
  rintro e w1 ⟨v1, v2, rfl, o1, o2, _, hb⟩
  obtain ⟨a1, c1, rfl⟩ := ownsMaps_form o1
  obtain ⟨a2, c2, rfl⟩ := ownsMaps_form o2
  exact ⟨a1, c1, a2, c2, rfl, owns_intsAt (cap := c1) (n := (fndX S t p).length) (by rw [tabs_len]; exact o1), owns_intsAt (cap := c2) (n := (fndX S t p).length) (by rw [plcs_len]; exact o2), owns_new o1, owns_new o2, hb⟩
set_option maxHeartbeats 1000000 in
theorem wList_new {b : Nat} {S : Pg.Fs} {F : Nat → Prop} (t : Int) (w : World) (h : FrAt w b S F) :
    Calls Try.prog 15 #[.pointer (some ⟨b, 0, none⟩), .int .i64 t] w fun e w' => ∃ ad cap L, e = .returned (.tuple #[.slice ad L.length cap, .int .i64 (Pg.thr S Pg.allW 3 t 0).2]) ∧ L = (if (Pg.thr S Pg.allW 3 t 0).2 = 0 then Pg.mapsOf (Pg.thr S Pg.allW 3 t 0).1 else []) ∧ MapsAt w' ad L ∧ (∀ g, ad = some ⟨g, 0, none⟩ → w.heap.size ≤ g) ∧ Below w.heap.size w w' := by
  obtain ⟨W, hW⟩ : ∃ W, W = w.alloc (.cells #[.slice none 0 0] 41) := ⟨_, rfl⟩
  have hB : Below w.heap.size w W := by rw [hW]; exact balloc (brefl w) _
  have hK : Keeps w w.heap.size 53 4 (fun X => (Pg.mapsOf X).length) (fun X => mpCells (Pg.mapsOf X)) [] (fun k => k = w.heap.size ∨ (Value.slice none 0 0).ownBlock = some k) W :=
    ⟨hB, Nat.le_refl _, fun o => by rw [hW]; simp [go_sem], .slice none 0 0, ⟨by rw [hW]; simp [go_sem], World.ownsRow_nil _ _ _ _, by simp [Value.ownBlock]⟩, rfl⟩
  have HC : Hid _ := from_any (list_tells (c := w.heap.size) h) t _ W hK
  clear h hK hB
  generalize Pg.thr S Pg.allW 3 t 0 = th at *
  go_enter Try.func15, Try.ntmps15
  go_wp2_with fail
  rw [← hW]
  refine Calls.mono HC.out ?_
  rintro e w1 ⟨rfl, V1, hK1, hb1, hn1⟩
  clear hb1 hn1
  have HB : Hid (Below w.heap.size w w1) := hK1.bel
  obtain ⟨vb, hv, _⟩ := hK1.var
  obtain ⟨ad, cap, rfl⟩ := ownsMaps_form hv.own
  by_cases hc : th.2 = 0
  · have hcb : (th.2 != 0) = false := by simp [hc]
    have cc := hv.cell
    have HI : Hid (MapsAt w1 ad (Pg.mapsOf th.1)) := owns_mapsAt hv.own
    have HNw : Hid _ := owns_new hv.own
    have HC0 : Hid _ := hc
    clear hv hK1 hc
    go_wp2_with fail
    go_ret2
    exact ⟨ad, cap, Pg.mapsOf th.1, rfl, by first | rw [if_pos HC0.out] | rfl, HI.out, HNw.out, HB.out⟩
  · have hcb : (th.2 != 0) = true := by simp [hc]
    have HC0 : Hid _ := hc
    clear hv hK1 hc
    go_wp2_with fail
    go_ret2
    exact ⟨none, 0, [], rfl, by first | rw [if_neg HC0.out] | rfl, fun j hj => absurd hj (by simp), fun g hg => (by cases hg), HB.out⟩

theorem take_n (S : Pg.Fs) : S.take.n = S.n := by
  unfold Pg.Fs.take
  split
  · rfl
  · split <;> rfl
theorem insW_n (p s : Int) : ∀ (lv : Nat) (S : Pg.Fs) (t : Int), (Pg.insW p s lv S t).1.n = S.n
  | 0, S, t => rfl
  | lv + 1, S, t => by
    rw [Pg.insW]
    split
    · rfl
    · rw [insW_n p s lv, (Pg.store_n _ _ _ _).1, take_n]
theorem insS_n (S : Pg.Fs) (t : Int) (m : Pg.Mp) : (Pg.insS S t m).n = S.n := by
  unfold Pg.insS
  split
  · rw [(Pg.store_n _ _ _ _).1, insW_n]
  · rfl
theorem prS_n (S : Pg.Fs) (t p r : Int) : (Pg.prS S t p r).n = S.n := by
  unfold Pg.prS
  split
  · exact (Pg.store_n _ _ _ _).1
  · rfl
theorem gives_snoc : ∀ (G : List Int) (x : Int) (S : Pg.Fs), Pg.gives (G ++ [x]) S = (Pg.gives G S).give x
  | [], x, S => rfl
  | y :: r, x, S => by
    show Pg.gives (r ++ [x]) (S.give y) = _
    rw [gives_snoc r x (S.give y)]
    rfl
/-- One more is given back: it is in use. -/
theorem gives_next {G : List Int} {S : Pg.Fs} (ok : S.Ok) (hn : G.Nodup) (hh : ∀ x, x ∈ G → S.has x = true) {j : Nat} (hj : j < G.length) : (Pg.gives (G.take j) S).has (G.getD j 0) = true ∧ Pg.gives (G.take (j + 1)) S = (Pg.gives (G.take j) S).give (G.getD j 0) := by
  have e : G.take (j + 1) = G.take j ++ [G.getD j 0] := by
    rw [List.take_succ_eq_append_getElem hj]
    simp [List.getD, hj]
  have hx : G.getD j 0 ∈ G := by simp [List.getD, hj]
  have hnot : G.getD j 0 ∉ G.take j := by
    have h1 : (G.take (j + 1)).Nodup := hn.sublist (List.take_sublist _ _)
    rw [e, List.nodup_append] at h1
    intro hm
    exact h1.2.2 _ hm _ (by simp) rfl
  obtain ⟨_, _, _, hu, _⟩ := Pg.gives_like (G.take j) S ok (hn.sublist (List.take_sublist _ _)) fun x hx => hh x (List.mem_of_mem_take hx)
  obtain ⟨g0, _, g2⟩ := ok.has_lt (hh _ hx)
  refine ⟨?_, by rw [e, gives_snoc]⟩
  have := (hu (G.getD j 0).toNat).2 ⟨g2, by rw [Int.toNat_of_nonneg g0]; exact hnot⟩
  unfold Pg.Fs.has Pg.Fs.inn
  rw [Bool.and_eq_true, decide_eq_true_eq, decide_eq_true_eq]
  exact ⟨g0, this⟩
theorem last_tab {X : List Pg.Sp} (h : 1 ≤ X.length) : (tabs X).getD (X.length - 1) 0 = lastT X := by
  unfold tabs lastT
  rw [List.getLast?_eq_getElem?, List.getD, List.getElem?_map]
  cases X[X.length - 1]? <;> rfl

namespace Pg
/-- The page of a mapping that was added is found. -/
theorem add_found {L : List Mp} {m : Mp} (hc : addC L m = 0) : ∃ q : Nat, q < 4096 ∧ m.p = (q : Int) ∧ dropC (addL L m) m.p = 0 := by
  obtain ⟨hm, _⟩ := addC_zero hc
  obtain ⟨z0, z1, z2, _⟩ := check_zero hm
  have hh : m.has m.p = true := by
    have := (span_bd m.s).1
    simp only [Mp.has, over, Bool.and_eq_true, decide_eq_true_eq]
    omega
  obtain ⟨q, hq⟩ := Int.eq_ofNat_of_zero_le z1
  refine ⟨q, by omega, hq, ?_⟩
  rw [dropC, if_pos (below_iff.2 ⟨z1, z2⟩), addL, if_pos hc, if_neg]
  intro hn
  rw [fnd, List.findIdx?_eq_none_iff] at hn
  have := hn m (ins_mem.2 (.inl rfl))
  rw [hh] at this
  cases this
/-- All that the marking of a found mapping needs. -/
theorem mark_all {S : Fs} {L : List Mp} (h : Rep S L) {q : Nat} (hq : q < 4096) (hc : tFC S 0 (q : Int) = 0) :
    ∃ (k : Nat) (T P : Int), (fndX S 0 (q : Int)).length = k + 1 ∧ k ≤ 3 ∧ (tabs (fndX S 0 (q : Int))).getD k 0 = T ∧ (plcs (fndX S 0 (q : Int))).getD k 0 = P ∧
      0 ≤ bits .or .u64 (S.load T P) 96 ∧ bits .or .u64 (S.load T P) 96 < 18446744073709551616 ∧
      Rep (S.store T P (bits .or .u64 (S.load T P) 96)) L ∧ Marked (S.store T P (bits .or .u64 (S.load T P) 96)) (q : Int) ∧ (S.store T P (bits .or .u64 (S.load T P) 96)).n = S.n := by
  obtain ⟨lv, tl, hlen, ht, hh, hr, hm⟩ := rep_mark h hq hc
  have hX : 1 ≤ (fndX S 0 (q : Int)).length := by
    cases hX : fndX S 0 (q : Int) with
    | nil =>
      rw [tFC, hX] at hc
      simp [lastE, En.zero] at hc
      split at hc <;> omega
    | cons a l => simp
  obtain ⟨k, hk⟩ : ∃ k, (fndX S 0 (q : Int)).length = k + 1 := ⟨(fndX S 0 (q : Int)).length - 1, by omega⟩
  have hT := last_tab hX
  rw [hk, ht] at hT
  simp only [Nat.add_sub_cancel] at hT
  obtain ⟨b1, b2, hP⟩ := find_place S 0 (q : Int) (i := k) (by omega)
  have el : (3 - (k : Int)) = (lv : Int) := by omega
  rw [el, index_ix b1 (by omega)] at hP
  have hix := ix_lt (q : Int) lv
  have hld : S.load tl ((ix (q : Int) lv : Nat) : Int) = S.word tl.toNat (ix (q : Int) lv) := by
    have : S.at' tl ((ix (q : Int) lv : Nat) : Int) = true := by simp [Fs.at', hh]; omega
    simp [Fs.load, this]
  refine ⟨k, tl, ((ix (q : Int) lv : Nat) : Int), hk, by omega, hT, hP, ?_⟩
  rw [hld]
  have hw := store_word hh hix (bits .or .u64 (S.word tl.toNat (ix (q : Int) lv)) 96)
  have hlow := hr.ok.low tl.toNat (ix (q : Int) lv)
  rw [hw] at hlow
  have hhigh := hr.ok.high tl.toNat (ix (q : Int) lv)
  rw [hw] at hhigh
  exact ⟨hlow, hhigh, hr, hm, (store_n _ _ _ _).1⟩
/-- After an Insert: what the tables hold, and where it was done, that the page is found. -/
theorem ins_found {S : Fs} {L : List Mp} (h : Rep S L) (m : Mp) : ∃ L1, Rep (insS S 0 m) L1 ∧ (insC S 0 m = 0 → ∃ q : Nat, q < 4096 ∧ m.p = (q : Int) ∧ tFC (insS S 0 m) 0 (q : Int) = 0) := by
  rcases rep_insert h m with ⟨e1, _, e3⟩ | ⟨_, e2, e3, _⟩
  · exact ⟨L, by rw [e3]; exact h, fun e => by omega⟩
  · refine ⟨_, e3, fun e => ?_⟩
    obtain ⟨q, h1, h2, h3⟩ := add_found (L := L) (m := m) (by rw [← e2]; exact e)
    exact ⟨q, h1, h2, by rw [← h2, (rep_codes e3 m.p).1]; exact h3⟩
/-- What is found begins at a page that fits. -/
theorem found_fits {S : Fs} {L : List Mp} (h : Rep S L) (p : Int) : fits (tFM S 0 p).p := by
  have h0 : fits (.zz : Mp).p := by show fits 0; unfold fits; omega
  rw [(rep_codes h p).2, dropM]
  split
  · unfold Pg.at'
    split
    · rename_i k hk
      exact (ok_fits ((rep_good h).ok _ (by rw [mp_at (fnd_some hk).1]; exact List.getElem_mem _))).2.2.1
    · exact h0
  · exact h0
/-- The first of the rest is taken out. -/
theorem rep_next {S : Fs} {L : List Mp} {i : Nat} (hi : i < L.length) (h : Rep S (L.drop i)) : tFC S 0 (L.getD i .zz).p = 0 ∧ Rep (gives (rmR S 0 (L.getD i .zz).p).2 (rmR S 0 (L.getD i .zz).p).1) (L.drop (i + 1)) := by
  have e : L.drop i = L.getD i .zz :: L.drop (i + 1) := by
    rw [List.drop_eq_getElem_cons hi, mp_at hi]
  rw [e] at h
  obtain ⟨f1, f2⟩ := rep_first h
  obtain ⟨_, _, _, _, _, r6, _⟩ := rep_remove h (L.getD i .zz).p
  rw [f2] at r6
  exact ⟨f1, r6⟩
end Pg
theorem notF {F F' : Nat → Prop} {B g : Nat} (hF : ∀ k, F' k → F k ∨ B ≤ k) (hn : ¬ F g) (hg : g < B) : ¬ F' g := fun h => by
  rcases hF g h with h' | h'
  · exact hn h'
  · omega
/-- No page is marked, or the one that is named. -/
def KpOk (S : Pg.Fs) (mk : Int) : Prop := mk = -1 ∨ ∃ q : Nat, mk = (q : Int) ∧ q < 4096 ∧ Pg.Marked S (q : Int)
theorem KpOk.map {S S' : Pg.Fs} {mk : Int} (h : KpOk S mk) (f : ∀ q : Nat, mk = (q : Int) → Pg.Marked S (q : Int) → Pg.Marked S' (q : Int)) : KpOk S' mk := by
  rcases h with h | ⟨q, h1, h2, h3⟩
  · exact .inl h
  · exact .inr ⟨q, h1, h2, f q h1 h3⟩
theorem KpOk.fits {S : Pg.Fs} {mk : Int} (h : KpOk S mk) : Pg.fits mk := by
  rcases h with h | ⟨q, h1, h2, h3⟩ <;> unfold Pg.fits <;> omega
end Go.Proofs.Ytbkpndgadgafiac
