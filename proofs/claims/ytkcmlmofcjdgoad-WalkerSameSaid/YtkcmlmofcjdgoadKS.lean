
/-
  Two walks of the developers', each over frames of its own.
-/
import Derived.Test.YtkcmlmofcjdgoadKH
import Derived.Test.YtkcmlmofcjdgoadPlainKC
import Derived.Test.YtkcmlmofcjdgoadIntsIn
namespace Go.Proofs.Ytkcmlmofcjdgoad
open Go.RowKit Go.Sort
set_option linter.unusedVariables false
set_option maxRecDepth 100000

structure Ws (w0 wc : World) (bf : Nat) (Ff : Nat → Prop) (Sf : Pg.Fs) (bk : Nat) (Kf : Pg.Wk) (bg : Nat) (Fg : Nat → Prop) (Sg : Pg.Fs) (bj : Nat) (Kg : Pg.Wk) : Prop where
  a : Wf w0 wc bf Ff Sf bk 0 Kf
  b : Wf w0 wc bg Fg Sg bj 0 Kg
  ne : ∀ j, (j = bk ∨ Ff j) → ¬ (j = bj ∨ Fg j)
namespace Ws
variable {w0 wc wd : World} {bf bg bk bj : Nat} {Ff Fg F' : Nat → Prop} {Sf Sg S' : Pg.Fs} {Kf Kg K' : Pg.Wk}
theorem grow (h : Ws w0 wc bf Ff Sf bk Kf bg Fg Sg bj Kg) (hb : Below wc.heap.size wc wd) : Ws w0 wd bf Ff Sf bk Kf bg Fg Sg bj Kg := ⟨h.a.grow hb, h.b.grow hb, h.ne⟩
theorem symm (h : Ws w0 wc bf Ff Sf bk Kf bg Fg Sg bj Kg) : Ws w0 wc bg Fg Sg bj Kg bf Ff Sf bk Kf := ⟨h.b, h.a, fun j h1 h2 => h.ne j h2 h1⟩
theorem left (h : Ws w0 wc bf Ff Sf bk Kf bg Fg Sg bj Kg) (ha : Wf w0 wd bf F' S' bk 0 K') (hb : But (fun j => j = bk ∨ Ff j) wc wd) (hF : ∀ j, F' j → Ff j ∨ wc.heap.size ≤ j) : Ws w0 wd bf F' S' bk K' bg Fg Sg bj Kg := by
  refine ⟨ha, h.b.beside hb fun j _ hj => ⟨hj.elim (fun e => e ▸ h.a.khi) (h.a.fhi j), fun hg => h.ne j hj (.inr hg), fun e => h.ne j hj (.inl e)⟩, fun j hj hg => ?_⟩
  rcases hj with e | hj
  · exact h.ne j (.inl e) hg
  · rcases hF j hj with h2 | h2
    · exact h.ne j (.inr h2) hg
    · rcases hg with e | hg
      · have := h.b.wk.lb; omega
      · have := h.b.fr.lt hg; omega
theorem right (h : Ws w0 wc bf Ff Sf bk Kf bg Fg Sg bj Kg) (hb' : Wf w0 wd bg F' S' bj 0 K') (hb : But (fun j => j = bj ∨ Fg j) wc wd) (hF : ∀ j, F' j → Fg j ∨ wc.heap.size ≤ j) : Ws w0 wd bf Ff Sf bk Kf bg F' S' bj K' := (h.symm.left hb' hb hF).symm
theorem leftK (h : Ws w0 wc bf Ff Sf bk Kf bg Fg Sg bj Kg) (hk : WkAt wd bk 0 0 K') (hb : But (fun j => j = bk) wc wd) : Ws w0 wd bf Ff Sf bk K' bg Fg Sg bj Kg := h.left (h.a.own hk hb) (hb.mono fun _ _ e => .inl e) fun _ hj => .inl hj
theorem rightK (h : Ws w0 wc bf Ff Sf bk Kf bg Fg Sg bj Kg) (hk : WkAt wd bj 0 0 K') (hb : But (fun j => j = bj) wc wd) : Ws w0 wd bf Ff Sf bk Kf bg Fg Sg bj K' := (h.symm.leftK hk hb).symm
end Ws

/-- Find, with what its rows may hold. -/
theorem wFind_cap {b : Nat} {S : Pg.Fs} {F : Nat → Prop} (t p : Int) (w : World) (h : FrAt w b S F) :
    Calls Try.prog 44 #[.pointer (some ⟨b, 0, none⟩), .int .i64 t, .int .i64 p] w fun e w' => ∃ a1 c1 a2 c2, e = .returned (.tuple #[spotV (fndX S t p) (.slice a1 (fndX S t p).length c1) (.slice a2 (fndX S t p).length c2), .int .i64 (fndC S t p)]) ∧ IntsAt w' a1 (tabs (fndX S t p)) ∧ (fndX S t p).length ≤ c1 ∧ Below w.heap.size w w' := by
  refine (wFind_own t p w h).mono ?_
  rintro e w1 ⟨v1, v2, rfl, o1, o2, _, hb⟩
  obtain ⟨a1, c1, rfl⟩ := ownsMaps_form o1
  obtain ⟨a2, c2, rfl⟩ := ownsMaps_form o2
  refine ⟨a1, c1, a2, c2, rfl, owns_intsAt (cap := c1) (n := (fndX S t p).length) (by rw [tabs_len]; exact o1), ?_, hb⟩
  rcases o1.2 with ⟨h', h''⟩ | ⟨g', cap', cur, h', _, _, hle, _⟩
  · omega
  · injection h' with _ _ h'; omega

/-- A walk that is made again. -/
theorem same_facts {S : Pg.Fs} (hS : S.Ok) {p k : Int} {u : Bool} (hp : Pg.below p 4096 = true) (hn : fndC S 0 p = 0 → (tabs (fndX S 0 p)).Nodup) (hc : (Pg.fin 0 19 1 S (Pg.Wk.start 0 p k u)).c = 0) :
    (Pg.fin 0 19 1 S (Pg.Wk.start 0 p k u)).K = Pg.Wk.off ∧ (Pg.fin 0 19 1 (Pg.fin 0 19 1 S (Pg.Wk.start 0 p k u)).S (Pg.Wk.start 0 p k u)).c = 0 ∧ (Pg.fin 0 19 1 (Pg.fin 0 19 1 S (Pg.Wk.start 0 p k u)).S (Pg.Wk.start 0 p k u)).R = (Pg.fin 0 19 1 S (Pg.Wk.start 0 p k u)).R ∧ (Pg.fin 0 19 1 (Pg.fin 0 19 1 S (Pg.Wk.start 0 p k u)).S (Pg.Wk.start 0 p k u)).n ≤ (Pg.fin 0 19 1 S (Pg.Wk.start 0 p k u)).n := by
  refine ⟨Pg.fin_off 0 19 1 S _ hc, ?_⟩
  by_cases hz : (Pg.thr S (Pg.onW p) 3 0 0).2 = 0
  · have h1 : fndC S 0 p = 0 := by simp [fndC, hp, hz]
    have h2 : fndX S 0 p = (Pg.thr S (Pg.onW p) 3 0 0).1 := by simp [fndX, hp, hz]
    have h3 := hn h1
    rw [h2] at h3
    have := Pg.fin_again hS 0 p k u hp 3 0 0 19 1 (by omega) (by omega) hz h3 hc
    exact ⟨this.1, this.2.1, this.2.2.1⟩
  · have := Pg.fin_bad S 0 p k u 3 0 0 19 1 (by omega) hz
    rw [show Pg.Wk.at' p k u 0 3 0 = Pg.Wk.start 0 p k u from rfl, hc] at this
    exact absurd this.symm hz

/-- Where a walk is that has not ended: nothing has been written, and it is for the same access. -/
def Still (S : Pg.Fs) (p k : Int) (u : Bool) (S' : Pg.Fs) (K : Pg.Wk) : Prop := K.on = true → S' = S ∧ K.q = p ∧ K.k = k ∧ K.u = u
theorem Still.step {S S' : Pg.Fs} {p k : Int} {u : Bool} {K : Pg.Wk} (h : Still S p k u S' K) (ho : K.on = true) : Still S p k u ((Pg.kOut S' 0 K).fs S' K) ((Pg.kOut S' 0 K).next K) := by
  obtain ⟨rfl, hq⟩ := h ho
  unfold Pg.kOut
  rw [if_neg (by simp [ho])]
  repeat (any_goals split)
  all_goals (intro h; first | (exact absurd (show false = true from h) (by decide)) | exact ⟨rfl, hq⟩ | (simp only [Pg.Wo.next, Pg.Wo.fs, Pg.Wk.again, ho, if_true]; exact ⟨trivial, hq⟩))
theorem Still.again {S S' : Pg.Fs} {p k : Int} {u : Bool} {K : Pg.Wk} (h : Still S p k u S' K) (ho : K.on = true) : S' = S ∧ K.again 0 = Pg.Wk.start 0 p k u := by
  obtain ⟨h1, h2, h3, h4⟩ := h ho
  refine ⟨h1, ?_⟩
  unfold Pg.Wk.again Pg.Wk.start
  rw [if_pos ho, h2, h3, h4, ho]
end Go.Proofs.Ytkcmlmofcjdgoad
