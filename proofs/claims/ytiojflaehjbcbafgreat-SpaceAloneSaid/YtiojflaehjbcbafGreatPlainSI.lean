
/-
  Plain facts: unmaps of all that is mapped, looked after.
-/
import Derived.Test.YtiojflaehjbcbafGreatPlainSH
namespace Go.Proofs.YtiojflaehjbcbafGreat
open Go.RowKit
set_option maxRecDepth 10000
namespace Pg
def Sx.un (p : Int) : Sx := ⟨2, 0, ⟨p, 0, 0, 0⟩, 0, 0, false⟩
section
variable {X : Spc} {L L0 : List Mp}
theorem inv_ack (h : Inv X L L0) (k : Nat) : Inv (X.goN (.ack k)) L L0 := by
  have := inv_step h (.ack k)
  have e1 : X.nxL L (.ack k) = L := by unfold Spc.nxL; rw [if_neg (fun e => by have : (6 : Int) ≤ 3 := e.2.1; omega)]
  have e2 : X.nxP L L0 (.ack k) = L0 := by unfold Spc.nxP; rw [if_neg (fun e => by have : (6 : Int) ≤ 3 := e.2.1; omega)]
  rw [e1, e2] at this
  exact this
theorem ack_waits (h : Inv X L L0) {k : Nat} (hk : k < X.C.length) (j : Nat) : (X.goN (.ack k)).W.getD j false = if j = k then false else X.W.getD j false := by
  rw [(go_ack X hk).2]
  exact ack_W h hk j
/-- No core waits: no change is begun. -/
theorem Inv.idle (h : Inv X L L0) (hw : ∀ j, j < X.C.length → X.W.getD j false = false) : X.busy = false := busy_no fun j hj => hw j (by rw [← h.len]; exact hj)
/-- The first mapping is unmapped: all cores are told. -/
theorem un_first {m : Mp} (h : Inv X (m :: L) L0) (hb : X.busy = false) : X.goE (.un m.p) = .code 0 ∧ Inv (X.goN (.un m.p)) L (m :: L) ∧ ∀ j, j < X.C.length → (X.goN (.un m.p)).W.getD j false = true := by
  obtain ⟨h1, h2⟩ := rep_first (h.rep hb)
  have hE : X.goE (.un m.p) = .code 0 := by
    unfold Spc.goE Sx.un
    simp only
    rw [if_pos (by omega)]
    unfold Spc.chE
    simp only
    rw [if_neg (by rw [hb]; simp), if_neg (by omega), if_pos trivial, h1]
  have hN : X.goN (.un m.p) = X.post (rmR X.S 0 m.p).1 (tFM X.S 0 m.p) (rmR X.S 0 m.p).2 := by
    unfold Spc.goN Sx.un
    simp only
    rw [if_pos (by omega)]
    unfold Spc.chN
    simp only
    rw [if_neg (by rw [hb]; simp), if_neg (by omega), if_pos trivial, if_pos h1]
  have := inv_step h (.un m.p)
  have e1 : X.nxL (m :: L) (.un m.p) = L := by
    unfold Spc.nxL
    rw [hE, if_pos ⟨by show (1 : Int) ≤ 2; omega, by show (2 : Int) ≤ 3; omega, rfl⟩, if_neg (by show ¬ (2 : Int) = 1; omega), if_pos (by rfl)]
    exact h2
  have e2 : X.nxP (m :: L) L0 (.un m.p) = m :: L := by
    unfold Spc.nxP
    rw [hE, if_pos ⟨by show (2 : Int) ≤ 2; omega, by show (2 : Int) ≤ 3; omega, rfl⟩]
  rw [e1, e2] at this
  refine ⟨hE, this, fun j hj => ?_⟩
  rw [hN]
  exact map_true X.W j (by rw [h.len]; exact hj)
/-- An Ack of a core that waits, where those ahead do not: over, if it is the last one. -/
theorem ack_event (h : Inv X L L0) {k : Nat} (hk : k < X.C.length) (hlo : ∀ j, j < k → X.W.getD j false = false) (hhi : ∀ j, k ≤ j → j < X.C.length → X.W.getD j false = true) : X.goE (.ack k) = ⟨0, false, 0, 0, 0, decide (k + 1 = X.C.length)⟩ := by
  have hl : (X.goN (.ack k)).W.length = X.C.length := by
    have h2 := (inv_ack h k).len
    rw [h2]
    exact (go_sizes h (.ack k)).2
  have hbz : (X.goN (.ack k)).busy = !decide (k + 1 = X.C.length) := by
    by_cases e : k + 1 = X.C.length
    · rw [decide_eq_true e]
      refine busy_no fun j hj => ?_
      rw [ack_waits h hk]
      split
      · rfl
      · exact hlo j (by omega)
    · rw [decide_eq_false e]
      refine (busy_iff _).2 ⟨k + 1, by omega, ?_⟩
      rw [ack_waits h hk, if_neg (by omega)]
      exact hhi (k + 1) (by omega) (by omega)
  rw [(go_ack X hk).2] at hbz
  rw [(go_ack X hk).1, ack_E, hbz, if_neg (by rw [hhi k (Nat.le_refl _) hk]; simp)]
  by_cases e : k + 1 = X.C.length
  · simp [e]
  · simp [e, Ev.code]
/-- Nothing is mapped: every frame but the root is free. -/
theorem inv_empty (h : Inv X [] L0) (hb : X.busy = false) : X.S.free = X.S.n - 1 ∧ X.tabs.length = 1 := by
  obtain ⟨_, _, _, h4, h5⟩ := inv_tables h
  have hg := h.calm hb
  rw [h.tabs]
  have e : needed [] = 1 := rfl
  rw [e] at h5
  rw [hg] at h4
  simp only [List.length_nil] at h4
  constructor
  · omega
  · omega
end
end Pg
end Go.Proofs.YtiojflaehjbcbafGreat
