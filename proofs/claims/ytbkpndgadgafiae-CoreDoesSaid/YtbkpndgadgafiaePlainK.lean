
/-
  Plain functions that say what a walk is, word by word: where it is, what a step comes to, what it leaves.
-/
import Derived.Test.YtbkpndgadgafiaePlainW
namespace Go.Proofs.Ytbkpndgadgafiae
open Go.RowKit
namespace Pg
/-- A walk: for an access of the page q, of the kind k, of a user or not; next is the table t of the level lv; x: the word of the leaf that the next step marks, 0: the next step reads. -/
structure Wk where
  on : Bool
  q : Int
  k : Int
  u : Bool
  t : Int
  lv : Nat
  x : Int
namespace Wk
def off : Wk := ⟨false, 0, 0, false, 0, 0, 0⟩
def start (root q k : Int) (u : Bool) : Wk := ⟨true, q, k, u, root, 3, 0⟩
def again (root : Int) (K : Wk) : Wk := if K.on = true then { K with t := root, lv := 3, x := 0 } else K
/-- A leaf with an access's marks. -/
def mark (K : Wk) (e : En) : En := { e with u := true, d := e.d || K.k == 1 }
def ready (K : Wk) (e : En) : Bool := e.u && (e.d || K.k != 1)
structure Ok (K : Wk) : Prop where
  page : K.on = true → below K.q 4096 = true
  lv : K.lv < 4
  leaf : K.x ≠ 0 → 0 ≤ K.x ∧ K.x < 18446744073709551616 ∧ dCode K.x K.lv = 0 ∧ (En.of K.x K.lv).l = true ∧ may (En.of K.x K.lv).r K.k K.u = true ∧ ready K (En.of K.x K.lv) = false
  idle : K.on = false → K = Wk.off
/-- The next word on the way. -/
def word (S : Fs) (K : Wk) : Int := S.word K.t.toNat (ix K.q K.lv)
end Wk

/-- What a step comes to: a code; it goes on; it ends with nothing; it ends at a leaf, which it has marked or not. -/
abbrev Wo : Type := Int ⊕ Wk ⊕ Int ⊕ (En × Bool)
abbrev Wo.code (c : Int) : Wo := .inl c
abbrev Wo.go (K : Wk) : Wo := .inr (.inl K)
abbrev Wo.stop (r : Int) : Wo := .inr (.inr (.inl r))
abbrev Wo.done (e : En) (m : Bool) : Wo := .inr (.inr (.inr (e, m)))
def kOut (S : Fs) (root : Int) (K : Wk) : Wo :=
  if K.on = false then .code 9
  else if S.has K.t = false then .code 12
  else if K.x ≠ 0 then (if K.word S = K.x then .done (K.mark (En.of K.x K.lv)) true else .go (K.again root))
  else if dCode (K.word S) K.lv ≠ 0 then .code (dCode (K.word S) K.lv)
  else if (En.of (K.word S) K.lv).t = false then .stop 1
  else if (En.of (K.word S) K.lv).l = false then .go { K with t := (En.of (K.word S) K.lv).f, lv := K.lv - 1 }
  else if may (En.of (K.word S) K.lv).r K.k K.u = false then .stop 2
  else if K.ready (En.of (K.word S) K.lv) = false then .go { K with x := K.word S }
  else .done (En.of (K.word S) K.lv) false

/-- What a step told. -/
structure Rs where
  ended : Bool
  a : Int
  f : Int
  r : Int
  m : Mp
  d : Bool
def Rs.zero : Rs := ⟨false, 0, 0, 0, ⟨0, 0, 0, 0⟩, false⟩
def Rs.val (R : Rs) : Value := .agg #[.bool R.ended, .int .i64 R.a, .int .i64 R.f, .int .i64 R.r, .int .i64 R.m.p, .int .i64 R.m.s, .int .i64 R.m.f, .int .i64 R.m.r, .bool R.d]
namespace Wo
def cd : Wo → Int
  | .inl c => c
  | _ => 0
def ended : Wo → Bool
  | .inr (.inr _) => true
  | _ => false
def res (K : Wk) : Wo → Rs
  | .inl _ => Rs.zero
  | .inr (.inl _) => Rs.zero
  | .inr (.inr (.inl r)) => ⟨true, r, 0, 0, ⟨0, 0, 0, 0⟩, false⟩
  | .inr (.inr (.inr (e, _))) => ⟨true, aEnd (e.map K.lv K.q).r K.k K.u, aFrame (e.map K.lv K.q).p (e.map K.lv K.q).f (e.map K.lv K.q).r K.q K.k K.u, aRights (e.map K.lv K.q).r K.k K.u, e.map K.lv K.q, e.d⟩
def next (K : Wk) : Wo → Wk
  | .inl _ => K
  | .inr (.inl K') => K'
  | _ => Wk.off
def fs (S : Fs) (K : Wk) : Wo → Fs
  | .inr (.inr (.inr (e, true))) => S.store K.t (index K.q K.lv) (enc e.t e.l e.r e.u e.d e.f K.lv)
  | _ => S
end Wo

theorem enc_bd' (t l : Bool) (r : Int) (u d : Bool) (f lv : Int) : 0 ≤ enc t l r u d f lv ∧ enc t l r u d f lv < 18446744073709551616 := by
  unfold enc
  split
  · rename_i h
    obtain ⟨_, hc⟩ := fault_zero h
    unfold eWord b01
    rcases hc with ⟨rfl, _⟩ | ⟨rfl, r0, r1, f0, f1, _⟩
    · simp
    · simp only [if_true]
      split <;> split <;> split <;> omega
  · omega
theorem Wk.off_ok : Wk.off.Ok := ⟨fun h => (by cases h), (by decide), fun h => absurd rfl h, fun _ => rfl⟩
theorem Wk.start_ok {root q k : Int} {u : Bool} (h : below q 4096 = true) : (Wk.start root q k u).Ok := ⟨fun _ => h, by show 3 < 4; omega, fun h => absurd rfl h, fun h => by cases h⟩
theorem Wk.Ok.again {K : Wk} (h : K.Ok) (root : Int) : (K.again root).Ok := by
  unfold Wk.again
  split
  · rename_i ho
    exact ⟨fun _ => h.page ho, by show 3 < 4; omega, fun h => absurd rfl h, fun h => by rw [ho] at h; cases h⟩
  · exact h
theorem kOut_ok {S : Fs} (hS : S.Ok) {K : Wk} (h : K.Ok) (root : Int) : ((kOut S root K).next K).Ok := by
  unfold kOut
  split
  · exact h
  · rename_i ho
    have ho : K.on = true := by simpa using ho
    split
    · exact h
    · split
      · split
        · exact Wk.off_ok
        · exact h.again root
      · rename_i hx
        have hx : K.x = 0 := by simpa using hx
        split
        · exact h
        · rename_i hc
          have hc : dCode (K.word S) K.lv = 0 := by simpa using hc
          split
          · exact Wk.off_ok
          · rename_i ht
            split
            · exact ⟨fun _ => h.page ho, by show K.lv - 1 < 4; have := h.lv; omega, fun h => absurd hx h, fun h => by rw [ho] at h; cases h⟩
            · rename_i hl
              have hl : (En.of (K.word S) K.lv).l = true := by simpa using hl
              split
              · exact Wk.off_ok
              · rename_i hm
                have hm : may (En.of (K.word S) K.lv).r K.k K.u = true := by simpa using hm
                split
                · rename_i hr
                  exact ⟨fun _ => h.page ho, h.lv, fun _ => ⟨hS.low _ _, hS.high _ _, hc, hl, hm, hr⟩, fun h => by rw [ho] at h; cases h⟩
                · exact Wk.off_ok
theorem kOut_fs {S : Fs} (hS : S.Ok) {K : Wk} (root : Int) : ((kOut S root K).fs S K).Ok := by
  rcases kOut S root K with c | K' | r | ⟨e, m⟩
  · exact hS
  · exact hS
  · exact hS
  · cases m
    · exact hS
    · have hb := enc_bd' e.t e.l e.r e.u e.d e.f K.lv
      exact hS.store _ _ hb.1 hb.2
end Pg
end Go.Proofs.Ytbkpndgadgafiae
