
/-
  Regions that draw their order, walked by hand: an operation is named by what it does and where to; one whose guard is not met is passed by. No program is named here.
-/
import Derived.Deep.RegionHeld3
import Derived.Deep.RegionHeld
namespace Go.Proofs.Ytkcmlmofcjdgoad
section
variable {P : Program} {ops : Array Oper} {Q : Exit → Act → World → Prop} {md : Region.Mode} {S : World → Prop}

/-- An operation that is not wanted is passed by. -/
theorem wpAnyH_skip {i : Nat} (d : Option Tmp) {fuel : Nat} {listed : Array Bool} {a : Act} {w : World} (hi : (ops[i]?).map (fun o => o.dst) = some d)
    (hs : Region.noSelect ops = true) (hf : Region.free md ops listed i = true) (hr : (Region.ready md ops listed).contains i = true)
    (hQ : ∀ (d : Option Tmp) (v : Value) c a w, Q (.panic c) (a.put d v) w → Q (.panic c) a w) (hw : (ops[i]?).map (fun o => Region.wanted o (yielded ops a.tmps)) = some false) (hS : S w)
    (h : wpAnyH P md ops Q S fuel (listed.setIfInBounds i true) (a.put d undef) w) : wpAnyH P md ops Q S (fuel + 1) listed a w := by
  cases ho : ops[i]? with
  | none => rw [ho] at hi; cases hi
  | some o =>
    rw [ho] at hi hw
    have e1 : o.dst = d := Option.some.inj hi
    have e2 : Region.wanted o (yielded ops a.tmps) = false := Option.some.inj hw
    exact wpAnyH_take (v := undef) ho hs hf hr (fun c a w => hQ _ _ c a w) (.inr ⟨e2, rfl⟩) hS (by rw [e1]; exact h)

/-- An operation that tells the same in every world in which S holds is taken first. -/
theorem wpAnyH_put {i : Nat} (d : Option Tmp) (op : Op) (g : Option (Nat × Bool)) (v : Value) {fuel : Nat} {listed : Array Bool} {a : Act} {w : World} (hi : (ops[i]?).map (fun o => (o.dst, o.op, o.guard)) = some (d, op, g))
    (hs : Region.noSelect ops = true) (hf : Region.free md ops listed i = true) (hr : (Region.ready md ops listed).contains i = true)
    (hQ : ∀ (d : Option Tmp) (v : Value) c a w, Q (.panic c) (a.put d v) w → Q (.panic c) a w)
    (hw : (ops[i]?).map (fun o => Region.wanted o (yielded ops a.tmps)) = some true) (hS : S w)
    (hy : ∀ (o : Oper), o.dst = d → o.op = op → o.guard = g → ∀ w, S w → (execOp a.eval o).run P w = .ok (.value v) w)
    (h : wpAnyH P md ops Q S fuel (listed.setIfInBounds i true) (a.put d v) w) : wpAnyH P md ops Q S (fuel + 1) listed a w := by
  cases ho : ops[i]? with
  | none => rw [ho] at hi; cases hi
  | some o =>
    rw [ho] at hi hw
    have e0 := Option.some.inj hi
    have e1 : o.dst = d := congrArg Prod.fst e0
    have e2 : o.op = op := congrArg (fun x => x.2.1) e0
    have e3 : o.guard = g := congrArg (fun x => x.2.2) e0
    have e4 : Region.wanted o (yielded ops a.tmps) = true := Option.some.inj hw
    exact wpAnyH_take (v := v) ho hs hf hr (fun c a w => hQ _ _ c a w) (.inl ⟨e4, hy o e1 e2 e3⟩) hS (by rw [e1]; exact h)

/-- The one operation that may come up: a call. -/
theorem wpAnyH_call {i : Nat} (d : Option Tmp) (c : Call) (g : Option (Nat × Bool)) {fuel : Nat} {listed : Array Bool} {a : Act} {w : World} (hr : Region.ready md ops listed = [i])
    (hi : (ops[i]?).map (fun o => (o.dst, o.op, o.guard)) = some (d, .call c, g)) (hw : (ops[i]?).map (fun o => Region.wanted o (yielded ops a.tmps)) = some true)
    (f : FuncId) (args : Array Value) (hc : ∀ (o : Oper), o.op = .call c → (execOp a.eval o).run P w = .ok (.enter f args) w) {R : Ending → World → Prop} (hf : Calls P f args w R) (h : ∀ v w', R (.returned v) w' → S w' ∧ (S w' → wpAnyH P md ops Q S fuel (listed.setIfInBounds i true) (a.put d v) w'))
    (hp : ∀ c w', ¬ R (.panicked c) w') (hg : ∀ w', ¬ R .outgrown w') : wpAnyH P md ops Q S (fuel + 1) listed a w := by
  cases ho : ops[i]? with
  | none => rw [ho] at hi; cases hi
  | some o =>
    rw [ho] at hi hw
    have e0 := Option.some.inj hi
    have e1 : o.dst = d := congrArg Prod.fst e0
    have e2 : o.op = .call c := congrArg (fun x => x.2.1) e0
    have e4 : Region.wanted o (yielded ops a.tmps) = true := Option.some.inj hw
    refine wpAnyH_ready hr (by simp) (AllReadyH.cons ho (fun K hK => ?_) AllReadyH.nil)
    rw [if_pos e4]
    unfold Oper.wp
    rw [hc o e2]
    simp only [Oper.upon]
    refine hf.mono fun e w' he => ?_
    cases e with
    | returned v =>
      obtain ⟨h1, h2⟩ := h v w' he
      rw [e1]
      exact hK.out _ _ h1 h2
    | panicked c => exact absurd he (hp c w')
    | outgrown => exact absurd he (hg w')
end
end Go.Proofs.Ytkcmlmofcjdgoad
