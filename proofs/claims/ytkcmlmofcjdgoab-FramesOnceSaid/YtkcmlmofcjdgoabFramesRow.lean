
/-
  Frames beside a list of numbers that a call has made for itself; and what holds of a list of those that are in use.
-/
import Derived.Test.YtkcmlmofcjdgoabFramesKept
namespace Go.Proofs.Ytkcmlmofcjdgoab
open Go.RowKit Go.Sort
set_option linter.unusedVariables false

theorem getD_at {l : List Nat} {j : Nat} (hj : j < l.length) : l.getD j 0 = l[j] := by simp [List.getD, hj]

/-- The list l lies at ad. -/
def ListAt (w : World) (ad : Option Addr) (l : List Nat) : Prop := ∀ j, j < l.length → ∃ g, ad = some ⟨g, 0, none⟩ ∧ w.cell? ⟨g, j, none⟩ = some (.int .i64 (l.getD j 0 : Nat))

theorem owns_listAt {w : World} {base : Nat} {ad : Option Addr} {n cap : Nat} {l : List Nat} (h : w.ownsRow base 3 1 (.slice ad n cap) l.length (nats l)) : ListAt w ad l := by
  intro j hj
  obtain ⟨g, cap', e, _, _⟩ := h.form (by omega)
  cases e
  refine ⟨g, rfl, ?_⟩
  rw [h.cellAt j (by omega), nats, List.getElem?_map, List.getElem?_eq_getElem hj, getD_at hj]
  rfl

/-- A row of any make: its form. -/
theorem owns_form {w : World} {base : Nat} {e : TypeId} {size n : Nat} {v : Value} {xs : List Value} (h : w.ownsRow base e size v n xs) : ∃ ad cap, v = .slice ad n cap := by
  rcases h.2 with ⟨rfl, rfl⟩ | ⟨g, cap, cur, rfl, _⟩
  · exact ⟨none, 0, rfl⟩
  · exact ⟨_, _, rfl⟩

theorem owns_below {w w' : World} {base : Nat} {e : TypeId} {size n : Nat} {v : Value} {xs : List Value} (h : w.ownsRow base e size v n xs) (hb : Below w.heap.size w w') : w'.ownsRow base e size v n xs :=
  owns_of_block h fun k hk => hb.block k (h.lt k hk).2
theorem owns_but {F : Nat → Prop} {w w' : World} {base : Nat} {e : TypeId} {size n : Nat} {v : Value} {xs : List Value} (h : w.ownsRow base e size v n xs) (hb : But F w w') (hF : ∀ k, v.ownBlock = some k → ¬ F k) : w'.ownsRow base e size v n xs :=
  owns_of_block h fun k hk => hb.block k (h.lt k hk).2 (hF k hk)

/-- The developers' frames and a list that the call has made for itself lie apart, in memory that was not there when the call began. -/
structure Lst (w0 w : World) (b : Nat) (S : Pg.Fs) (F : Nat → Prop) (ad : Option Addr) (cap : Nat) (l : List Nat) : Prop where
  fr : Kept w0 w b S F
  row : w.ownsRow 0 3 1 (.slice ad l.length cap) l.length (nats l)
  new : ∀ k, (Value.slice ad l.length cap).ownBlock = some k → w0.heap.size ≤ k
  apart : ∀ k, F k → (Value.slice ad l.length cap).ownBlock ≠ some k
  perm : l.Perm S.used

namespace Lst
variable {w0 w w' : World} {b : Nat} {S S' : Pg.Fs} {F F' : Nat → Prop} {ad : Option Addr} {cap : Nat} {l : List Nat}
theorem grow (h : Lst w0 w b S F ad cap l) (hb : Below w.heap.size w w') : Lst w0 w' b S F ad cap l :=
  ⟨h.fr.grow hb, owns_below h.row hb, h.new, h.apart, h.perm⟩
theorem listAt (h : Lst w0 w b S F ad cap l) : ListAt w ad l := owns_listAt h.row
/-- The frames have taken a step; the list is as it was. -/
theorem step (h : Lst w0 w b S F ad cap l) (h1 : FrAt w' b S' F') (hb : But F w w') (hF : ∀ k, F' k → F k ∨ w.heap.size ≤ k) :
    Kept w0 w' b S' F' ∧ w'.ownsRow 0 3 1 (.slice ad l.length cap) l.length (nats l) ∧ (∀ k, F' k → (Value.slice ad l.length cap).ownBlock ≠ some k) := by
  refine ⟨h.fr.step h1 hb hF, owns_but h.row hb fun k hk hf => h.apart k hf hk, fun k hk e => ?_⟩
  rcases hF k hk with hf | hs
  · exact h.apart k hf e
  · have := (h.row.lt k e).2
    omega
theorem len (h : Lst w0 w b S F ad cap l) : l.length = S.used.length := h.perm.length_eq
theorem small (h : Lst w0 w b S F ad cap l) : l.length ≤ S.n ∧ S.n ≤ 128 := by
  have := h.fr.at'.ok.len; have := h.fr.at'.ok.top; have := h.fr.at'.ok.small; have := h.len
  omega
theorem free (h : Lst w0 w b S F ad cap l) : S.free = (S.n : Int) - (l.length : Int) := by
  have := h.fr.at'.ok.len; have := h.fr.at'.ok.top; have := h.len
  unfold Pg.Fs.free
  omega
end Lst

/-- None is free: all are in use. -/
theorem pick_none {S : Pg.Fs} (ok : S.Ok) (h : S.pick = none) : S.used.length = S.n ∧ S.take = S := by
  unfold Pg.Fs.pick at h
  cases hb : S.back.getLast? with
  | some k => rw [hb] at h; cases h
  | none =>
    rw [hb] at h
    have hb' : S.back = [] := by simpa using hb
    by_cases hn : S.next < S.n
    · simp [hn] at h
    · have h1 := ok.len
      have h2 := ok.top
      rw [hb'] at h1
      simp only [List.length_nil] at h1
      exact ⟨by omega, by simp [Pg.Fs.take, hb, hn]⟩
theorem pick_take {S : Pg.Fs} {k : Nat} (h : S.pick = some k) : S.take.used = k :: S.used ∧ S.take.word = Pg.Fs.clear S.word k ∧ S.take.n = S.n := by
  unfold Pg.Fs.pick at h
  cases hb : S.back.getLast? with
  | some j =>
    rw [hb] at h
    cases h
    simp [Pg.Fs.take, hb]
  | none =>
    rw [hb] at h
    by_cases hn : S.next < S.n
    · simp [hn] at h
      subst h
      simp [Pg.Fs.take, hb, hn]
    · simp [hn] at h

/-- What is left of a list without K. -/
def lft (l : List Nat) (K : Int) : List Nat := l.filter fun k : Nat => decide ((k : Int) ≠ K)
theorem lft_take_eq {l : List Nat} {K : Int} {j : Nat} (hj : j < l.length) (h : ((l.getD j 0 : Nat) : Int) = K) : lft (l.take (j + 1)) K = lft (l.take j) K := by
  rw [getD_at hj] at h
  rw [lft, List.take_succ_eq_append_getElem hj, List.filter_append]
  simp [lft]
  exact h
theorem lft_take_ne {l : List Nat} {K : Int} {j : Nat} (hj : j < l.length) (h : ((l.getD j 0 : Nat) : Int) ≠ K) : lft (l.take (j + 1)) K = lft (l.take j) K ++ [l.getD j 0] := by
  rw [getD_at hj] at h ⊢
  rw [lft, List.take_succ_eq_append_getElem hj, List.filter_append]
  simp [lft]
  exact h
theorem lft_len (l : List Nat) (K : Int) : (lft l K).length ≤ l.length := List.length_filter_le _ _
theorem lft_in {l : List Nat} {k : Nat} (hn : l.Nodup) (h : k ∈ l) : (lft l k).Perm (l.erase k) := by
  rw [hn.erase_eq_filter]
  refine List.Perm.of_eq ?_
  unfold lft
  congr 1
  funext x
  by_cases e : x = k
  · simp [e]
  · have : (x != k) = true := by simpa using e
    rw [this]
    simp; omega
theorem lft_out {l : List Nat} {K : Int} (h : ∀ k : Nat, k ∈ l → (k : Int) ≠ K) : lft l K = l := by
  unfold lft
  rw [List.filter_eq_self]
  intro k hk
  simpa using h k hk
/-- Behind a Give: what is left are those in use. -/
theorem lft_give {S : Pg.Fs} (ok : S.Ok) {l : List Nat} (hp : l.Perm S.used) (K : Int) : (lft l K).Perm (S.give K).used ∧ decide ((lft l K).length < l.length) = S.has K := by
  have hnd : l.Nodup := hp.nodup_iff.2 (List.nodup_append.1 ok.nodup).1
  cases hh : S.has K
  · have hout : ∀ k : Nat, k ∈ l → (k : Int) ≠ K := by
      intro k hk e
      subst e
      have : k ∈ S.used := hp.mem_iff.1 hk
      simp [Pg.Fs.has, Pg.Fs.inn, this] at hh
    rw [lft_out hout]
    exact ⟨by simpa [Pg.Fs.give, hh] using hp, by simp⟩
  · obtain ⟨h0, _, hm⟩ := ok.has_lt hh
    obtain ⟨k, rfl⟩ := Int.eq_ofNat_of_zero_le h0
    have hm : k ∈ S.used := by simpa using hm
    have hk : k ∈ l := hp.mem_iff.2 hm
    have h1 := lft_in hnd hk
    refine ⟨?_, ?_⟩
    · have e : (S.give (k : Int)).used = S.used.erase k := by simp [Pg.Fs.give, hh]
      rw [e]
      exact h1.trans (hp.erase k)
    · have := h1.length_eq
      rw [List.length_erase_of_mem hk] at this
      have := List.length_pos_of_mem hk
      simp
      omega

/-- The words of the frames of a list, one after the other: so many of them. -/
def wds (S : Pg.Fs) (l : List Nat) (n : Nat) : List Value := (List.range n).map fun t => .int .u64 (S.word (l.getD (t / 8) 0) (t % 8))
theorem wds_len (S : Pg.Fs) (l : List Nat) (n : Nat) : (wds S l n).length = n := by simp [wds]
theorem wds_succ (S : Pg.Fs) (l : List Nat) (j i : Nat) (hi : i < 8) : wds S l (j * 8 + i + 1) = wds S l (j * 8 + i) ++ [.int .u64 (S.word (l.getD j 0) i)] := by
  have e1 : (j * 8 + i) / 8 = j := by omega
  have e2 : (j * 8 + i) % 8 = i := by omega
  simp [wds, List.range_succ, e1, e2]
theorem wds_at (S : Pg.Fs) (l : List Nat) (n j i : Nat) (hi : i < 8) (hn : j * 8 + i < n) : (wds S l n)[j * 8 + i]? = some (.int .u64 (S.word (l.getD j 0) i)) := by
  have e1 : (j * 8 + i) / 8 = j := by omega
  have e2 : (j * 8 + i) % 8 = i := by omega
  simp [wds, hn, e1, e2]

theorem owns_zero {w : World} {base : Nat} {e : TypeId} {size n : Nat} {v : Value} {xs : List Value} (h : w.ownsRow base e size v n xs) : w.ownsRow 0 e size v n xs :=
  ⟨h.1, h.2.imp id fun ⟨g, cap, cur, a, _, r⟩ => ⟨g, cap, cur, a, Nat.zero_le _, r⟩⟩

theorem Kept.keep {w0 w w' : World} {b : Nat} {S : Pg.Fs} {F G : Nat → Prop} (h : Kept w0 w b S F) (hb : But G w w') (hF : ∀ k, F k → ¬ G k) (hG : ∀ k, G k → w0.heap.size ≤ k) : Kept w0 w' b S F :=
  ⟨h.at'.keep hb hF, h.bel.trans (hb.below h.bel.size hG), h.new⟩

/-- The list is one longer. -/
theorem Lst.push {w0 w w3 : World} {b : Nat} {S : Pg.Fs} {F : Nat → Prop} {ad : Option Addr} {cap g cap3 : Nat} {l : List Nat} (hf : Kept w0 w b S F) (hr : w.ownsRow 0 3 1 (.slice ad l.length cap) l.length (nats l))
    (hn : ∀ k, (Value.slice ad l.length cap).ownBlock = some k → w0.heap.size ≤ k) (ha : ∀ k, F k → (Value.slice ad l.length cap).ownBlock ≠ some k) {k : Nat} (hp : (l ++ [k]).Perm S.used) {o : Obj}
    (h3 : w3.ownsRow 0 3 1 (.slice (some ⟨g, 0, none⟩) (l.length + 1) cap3) (l.length + 1) (nats l ++ [.int .i64 (k : Int)])) (hg : (w.alloc o).grownBy w3 (Value.slice ad l.length cap).ownBlock)
    (hat : (Value.slice ad l.length cap).ownBlock = some g ∨ g = w.heap.size + 1) : Lst w0 w3 b S F (some ⟨g, 0, none⟩) cap3 (l ++ [k]) := by
  have hb : But (fun j => (Value.slice ad l.length cap).ownBlock = some j) w w3 := ((But.refl _ w).alloc o).grown hg fun j hj => .inr hj
  have hs := hf.bel.size
  refine ⟨hf.keep hb (fun j hj => ha j hj) hn, by simpa [nats] using h3, ?_, ?_, hp⟩
  · intro j hj
    have hj : g = j := by simpa [Value.ownBlock] using hj
    subst hj
    rcases hat with h | h
    · exact hn _ h
    · omega
  · intro j hj e
    have e : g = j := by simpa [Value.ownBlock] using e
    subst e
    rcases hat with h | h
    · exact ha _ hj h
    · have := hf.at'.lt hj
      omega

/-- A row that is laid behind all else is one longer: what was there ahead of it is as it was. -/
theorem pushed {wx w w3 : World} {e : TypeId} {n : Nat} {v : Value} {xs : List Value} {o : Obj} (hb : Below wx.heap.size wx w) (hr : w.ownsRow wx.heap.size e 1 v n xs) (hg : (w.alloc o).grownBy w3 v.ownBlock) : Below wx.heap.size wx w3 := by
  have hB : But (fun j => v.ownBlock = some j) w w3 := ((But.refl _ w).alloc o).grown hg fun j hj => .inr hj
  exact hb.trans (hB.below hb.size fun k hk => (hr.lt k hk).1)

/-- Behind a Give the list is what is left. -/
theorem Lst.gave {w0 wx w w' : World} {b : Nat} {S S' : Pg.Fs} {F F' : Nat → Prop} {ad ad' : Option Addr} {cap cap' : Nat} {l l' : List Nat} (h : Lst w0 wx b S F ad cap l) (hb : Below wx.heap.size wx w)
    (hr : w.ownsRow wx.heap.size 3 1 (.slice ad' l'.length cap') l'.length (nats l')) (h1 : FrAt w' b S' F') (hB : But F w w') (hF : ∀ k, F' k → F k ∨ w.heap.size ≤ k) (hp : l'.Perm S'.used) : Lst w0 w' b S' F' ad' cap' l' := by
  have hk := (h.grow hb).fr.step h1 hB hF
  have hlt : ∀ k, F k → k < wx.heap.size := fun k hk => h.fr.at'.lt hk
  have hs := h.fr.bel.size
  refine ⟨hk, owns_zero (owns_but hr hB fun k hk hf => ?_), fun k hk => ?_, fun k hk e => ?_, hp⟩
  · have := (hr.lt k hk).1
    have := hlt k hf
    omega
  · have := (hr.lt k hk).1
    omega
  · have := hr.lt k e
    rcases hF k hk with hf | hf
    · have := hlt k hf
      omega
    · omega

theorem lst_load {w0 w : World} {b : Nat} {S : Pg.Fs} {F : Nat → Prop} {ad : Option Addr} {cap : Nat} {l : List Nat} (h : Lst w0 w b S F ad cap l) {c d : Nat} (hc : c < l.length) (hd : d < 8) :
    S.load ((l.getD c 0 : Nat) : Int) (d : Int) = S.word (l.getD c 0) d ∧ S.at' ((l.getD c 0 : Nat) : Int) (d : Int) = true := by
  have hm : l.getD c 0 ∈ S.used := h.perm.mem_iff.1 (by rw [getD_at hc]; exact List.getElem_mem _)
  generalize l.getD c 0 = y at *
  have ha : S.at' (y : Int) (d : Int) = true := by
    simp [Pg.Fs.at', Pg.Fs.has, Pg.Fs.inn, hm]
    omega
  exact ⟨by simp [Pg.Fs.load, ha], ha⟩

/-- What is loaded behind a Store. -/
theorem store_load {S : Pg.Fs} {y d : Nat} (K I v : Int) (hu : y ∈ S.used) (hd : d < 8) :
    (S.store K I v).load (y : Int) (d : Int) = (if (y : Int) = K ∧ (d : Int) = I then v else S.word y d) ∧ (S.store K I v).at' (y : Int) (d : Int) = true := by
  have hA : S.at' (y : Int) (d : Int) = true := by
    simp [Pg.Fs.at', Pg.Fs.has, Pg.Fs.inn, hu]
    omega
  have hu' : (S.store K I v).used = S.used := by
    unfold Pg.Fs.store
    split <;> rfl
  have hA' : (S.store K I v).at' (y : Int) (d : Int) = true := by
    simp [Pg.Fs.at', Pg.Fs.has, Pg.Fs.inn, hu', hu]
    omega
  refine ⟨?_, hA'⟩
  have e : (S.store K I v).load (y : Int) (d : Int) = (S.store K I v).word y d := by simp [Pg.Fs.load, hA']
  rw [e]
  cases hK : S.at' K I
  · have hn : ¬ ((y : Int) = K ∧ (d : Int) = I) := by
      rintro ⟨rfl, rfl⟩
      rw [hA] at hK
      cases hK
    rw [if_neg hn]
    simp [Pg.Fs.store, hK]
  · have h0 : 0 ≤ K ∧ 0 ≤ I := by
      simp [Pg.Fs.at', Pg.Fs.has] at hK
      omega
    have e2 : (S.store K I v).word y d = if y = K.toNat ∧ d = I.toNat then v else S.word y d := by simp [Pg.Fs.store, hK, Pg.Fs.put]
    rw [e2]
    by_cases h : (y : Int) = K ∧ (d : Int) = I
    · rw [if_pos h, if_pos (by omega)]
    · rw [if_neg h, if_neg (by omega)]
theorem store_used (S : Pg.Fs) (K I v : Int) : (S.store K I v).used = S.used ∧ (S.store K I v).n = S.n := by
  unfold Pg.Fs.store
  split <;> exact ⟨rfl, rfl⟩
theorem give_n (S : Pg.Fs) (K : Int) : (S.give K).n = S.n := by
  unfold Pg.Fs.give
  split <;> rfl
theorem lst_mem {w0 w : World} {b : Nat} {S : Pg.Fs} {F : Nat → Prop} {ad : Option Addr} {cap : Nat} {l : List Nat} (h : Lst w0 w b S F ad cap l) {c : Nat} (hc : c < l.length) : l.getD c 0 ∈ S.used :=
  h.perm.mem_iff.1 (by rw [getD_at hc]; exact List.getElem_mem _)

theorem cell_drewN (w : World) (n : Nat) (v : Value) (t : TypeId) : ((w.drewN n).alloc (.cells #[v] t)).cell? ⟨w.heap.size, 0, none⟩ = some v := by
  have h := heap_alloc_new (w.drewN n) (.cells #[v] t)
  have e : (w.drewN n).heap.size = w.heap.size := by simp
  rw [e] at h
  exact cell_of_row _ _ 0 _ _ _ h

theorem in_no (ad : Option Addr) (cap : Nat) (l : List Nat) (k : Int) (w : World) (h : ListAt w ad l) (hl : l.length ≤ 128) (hk : ∀ j : Nat, j ∈ l → (j : Int) ≠ k) :
    Calls Try.prog 25 #[.slice ad l.length cap, .int .i64 k] w fun e w' => e = .returned (.bool false) ∧ w' = w := by
  have HL : Hid _ := h
  have HK : Hid _ := hk
  clear h hk
  go_enter Try.func25, Try.ntmps25
  go_wp2_with fail
  go_loopw [5] (fun i wr => ∃ j : Nat, j ≤ l.length ∧ i = .int .i64 j ∧ wr = w) (fun i _ => l.length - (intOf i).toNat)
  case atStart => exact ⟨0, by omega, rfl, rfl⟩
  case round =>
    obtain ⟨j, hj, rfl, rfl⟩ := hrel
    by_cases hlt : j < l.length
    · obtain ⟨g, rfl, hc⟩ := HL.out j hlt
      have i0 : (0 : Int) ≤ (j : Int) := by omega
      have i1 : (j : Int) < (l.length : Int) := by omega
      have hm : l.getD j 0 ∈ l := by rw [getD_at hlt]; exact List.getElem_mem _
      have hne : (((l.getD j 0 : Nat) : Int) == k) = false := by simpa using HK.out _ hm
      generalize ((l.getD j 0 : Nat) : Int) = x at *
      generalize hln : l.length = n at *
      clear hm
      go_wp2_with fail
      go_roundw
      case rel => exact ⟨j + 1, by omega, by go_num, by trivial⟩
      case measure => simp [intOf]; omega
    · have i1 : ¬ (j : Int) < (l.length : Int) := by omega
      go_wp2_with fail
      go_ret
      exact ⟨rfl, rfl⟩
end Go.Proofs.Ytkcmlmofcjdgoab
