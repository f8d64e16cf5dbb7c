
/-
  The developers' walk and the document's, over both kinds of frames.
-/
import Derived.Test.YtkcmlmofcjdgoadKG
import Derived.Test.YtkcmlmofcjdgoadKF
import Derived.Test.YtkcmlmofcjdgoadWords
import Derived.Test.YtkcmlmofcjdgoadFrameK
namespace Go.Proofs.Ytkcmlmofcjdgoad
open Go.RowKit Go.Sort
set_option linter.unusedVariables false
set_option maxRecDepth 100000

/-- Both kinds of frames, and a walk of each kind beside them. -/
structure Kd (w0 wc : World) (bf bm g0 g1 : Nat) (vb : Value) (F : Nat → Prop) (bk bc : Nat) (root : Int) (Sf Sm : Pg.Fs) (Kf Km : Pg.Wk) : Prop where
  side : Side w0 bf bm g0 g1 vb F Sf Sm wc
  wk : WkAt wc bk 0 root Kf
  ck : CkEx wc bc Km
  c0 : wc.cell? ⟨bc, 0, none⟩ = some (.slice none 0 0)
  okf : Kf.Ok
  okm : Km.Ok
  nk : ¬ F bk ∧ ¬ memF bm g0 g1 vb bk
  nc : ¬ F bc ∧ ¬ memF bm g0 g1 vb bc
  ne : bk ≠ bc
  hi : w0.heap.size ≤ bk ∧ w0.heap.size ≤ bc
namespace Kd
variable {w0 wc wd : World} {bf bm g0 g1 : Nat} {vb vb' : Value} {F F' : Nat → Prop} {bk bc : Nat} {root : Int} {Sf Sm S' : Pg.Fs} {Kf Km K' : Pg.Wk}
theorem grow (h : Kd w0 wc bf bm g0 g1 vb F bk bc root Sf Sm Kf Km) (hb : Below wc.heap.size wc wd) : Kd w0 wd bf bm g0 g1 vb F bk bc root Sf Sm Kf Km :=
  ⟨h.side.grow hb, h.wk.grow hb, h.ck.of_block (hb.block bc h.ck.lb), (hb.cell (p := ⟨bc, 0, none⟩) h.ck.lb).trans h.c0, h.okf, h.okm, h.nk, h.nc, h.ne, h.hi⟩
theorem co (h : Kd w0 wc bf bm g0 g1 vb F bk bc root Sf Sm Kf Km) : CoAt wc bc (.slice none 0 0) [] := by
  obtain ⟨t, lv, x, hc⟩ := h.ck
  exact ⟨h.c0, hc.fb, OwnsAt.of_row (base := 0) (World.ownsRow_nil _ _ _ _), by simp [Value.ownBlock], Pg.Kept.nil⟩
/-- A call of the developers'. -/
theorem left (h : Kd w0 wc bf bm g0 g1 vb F bk bc root Sf Sm Kf Km) (hk : WkAt wd bk 0 root K') (hf : FrAt wd bf S' F') (ok : K'.Ok) (hb : But (fun j => j = bk ∨ F j) wc wd) (hF : ∀ j, F' j → F j ∨ wc.heap.size ≤ j) :
    Kd w0 wd bf bm g0 g1 vb F' bk bc root S' Sm K' Km := by
  have hne : ¬ (bc = bk ∨ F bc) := by rintro (e | e); exact h.ne e.symm; exact h.nc.1 e
  have hlc := h.ck.lb
  have hlk := h.wk.lb
  refine ⟨⟨h.side.bel.trans (hb.below h.side.bel.size fun j hj => hj.elim (fun e => e ▸ h.hi.1) (h.side.fhi j)), hf, h.side.mem.keep hb ?_, fun j hj => ?_, h.side.mhi, fun j hj hm => ?_⟩, hk, h.ck.of_block (hb.block bc hlc hne), (hb.cell (a := ⟨bc, 0, none⟩) hlc hne).trans h.c0, ok, h.okm, ⟨fun hj => ?_, h.nk.2⟩, ⟨fun hj => ?_, h.nc.2⟩, h.ne, h.hi⟩
  · rintro j hm (e | e)
    · exact h.nk.2 (e ▸ hm)
    · exact h.side.ne j e hm
  · rcases hF j hj with h2 | h2
    · exact h.side.fhi j h2
    · have := h.side.bel.size; omega
  · rcases hF j hj with h2 | h2
    · exact h.side.ne j h2 hm
    · have := h.side.mem.raw.lt hm; omega
  · rcases hF bk hj with h2 | h2
    · exact h.nk.1 h2
    · omega
  · rcases hF bc hj with h2 | h2
    · exact h.nc.1 h2
    · omega
theorem leftK (h : Kd w0 wc bf bm g0 g1 vb F bk bc root Sf Sm Kf Km) (hk : WkAt wd bk 0 root K') (ok : K'.Ok) (hb : But (fun j => j = bk) wc wd) : Kd w0 wd bf bm g0 g1 vb F bk bc root Sf Sm K' Km :=
  h.left hk (h.side.fr.keep hb fun j hj e => h.nk.1 (e ▸ hj)) ok (hb.mono fun _ _ e => .inl e) fun _ hj => .inl hj
theorem leftF (h : Kd w0 wc bf bm g0 g1 vb F bk bc root Sf Sm Kf Km) (hf : FrAt wd bf S' F') (hb : But F wc wd) (hF : ∀ j, F' j → F j ∨ wc.heap.size ≤ j) : Kd w0 wd bf bm g0 g1 vb F' bk bc root S' Sm Kf Km :=
  h.left (h.wk.keep hb h.nk.1) hf h.okf (hb.mono fun _ _ e => .inr e) hF
/-- A call of the document's; it may write other memory that nobody here has. -/
theorem right (h : Kd w0 wc bf bm g0 g1 vb F bk bc root Sf Sm Kf Km) {G : Nat → Prop} (hc : CkEx wd bc K') (hm : MemAt wd bm g0 g1 vb' S') (ok : K'.Ok) (hv : vb'.ownBlock = vb.ownBlock) (h0 : wd.cell? ⟨bc, 0, none⟩ = wc.cell? ⟨bc, 0, none⟩) (hb : But G wc wd) (hG : ∀ j, G j → j = bc ∨ memF bm g0 g1 vb j ∨ (w0.heap.size ≤ j ∧ ¬ F j ∧ j ≠ bk)) :
    Kd w0 wd bf bm g0 g1 vb' F bk bc root Sf S' Kf K' := by
  have e : ∀ k, memF bm g0 g1 vb' k ↔ memF bm g0 g1 vb k := fun k => by unfold memF; rw [hv]
  have hGF : ∀ j, G j → ¬ F j := fun j hj => by
    rcases hG j hj with h2 | h2 | h2
    · exact h2 ▸ h.nc.1
    · exact fun hf => h.side.ne j hf h2
    · exact h2.2.1
  have hGk : ¬ G bk := fun hj => by
    rcases hG bk hj with h2 | h2 | h2
    · exact h.ne h2
    · exact h.nk.2 h2
    · exact h2.2.2 rfl
  refine ⟨⟨h.side.bel.trans (hb.below h.side.bel.size fun j hj => ?_), h.side.fr.keep hb fun j hj hg => hGF j hg hj, hm, h.side.fhi, fun j hj => h.side.mhi j ((e j).1 hj), fun j hj hm => h.side.ne j hj ((e j).1 hm)⟩, h.wk.keep hb hGk, hc, h0.trans h.c0, h.okf, ok, ⟨h.nk.1, fun hm => h.nk.2 ((e bk).1 hm)⟩, ⟨h.nc.1, fun hm => h.nc.2 ((e bc).1 hm)⟩, h.ne, h.hi⟩
  rcases hG j hj with h2 | h2 | h2
  · exact h2 ▸ h.hi.2
  · exact h.side.mhi j h2
  · exact h2.1
theorem rightK (h : Kd w0 wc bf bm g0 g1 vb F bk bc root Sf Sm Kf Km) (hc : CkEx wd bc K') (ok : K'.Ok) (hb : Ch8 bc 1 (fun j => j = bc) wc wd) : Kd w0 wd bf bm g0 g1 vb F bk bc root Sf Sm Kf K' :=
  h.right hc (h.side.mem.keep hb.but fun j hj e => h.nc.2 (e ▸ hj)) ok rfl (hb.oth 0 (.inl (by decide))) hb.but fun _ hj => .inl hj
/-- A call of the document's frames. -/
theorem rightM (h : Kd w0 wc bf bm g0 g1 vb F bk bc root Sf Sm Kf Km) (hm : MemAt wd bm g0 g1 vb' S') (hb : But (memF bm g0 g1 vb) wc wd) (hv : vb'.ownBlock = vb.ownBlock ∨ ∃ j, vb'.ownBlock = some j ∧ wc.heap.size ≤ j) :
    Kd w0 wd bf bm g0 g1 vb' F bk bc root Sf S' Kf Km := by
  have e : ∀ k, memF bm g0 g1 vb' k → memF bm g0 g1 vb k ∨ wc.heap.size ≤ k := fun k hk => by
    rcases hk with hk | hk | hk | hk
    · exact .inl (.inl hk)
    · exact .inl (.inr (.inl hk))
    · exact .inl (.inr (.inr (.inl hk)))
    · rcases hv with hv | ⟨j, hv, hj⟩
      · rw [hv] at hk; exact .inl (.inr (.inr (.inr hk)))
      · rw [hv] at hk; cases hk; exact .inr hj
  have hlk := h.wk.lb
  have hlc := h.ck.lb
  refine ⟨⟨h.side.bel.trans (hb.below h.side.bel.size h.side.mhi), h.side.fr.keep hb fun k hk hm => h.side.ne k hk hm, hm, h.side.fhi, fun k hk => ?_, fun k hk hm => ?_⟩, h.wk.keep hb h.nk.2, h.ck.of_block (hb.block bc hlc h.nc.2), (hb.cell (a := ⟨bc, 0, none⟩) hlc h.nc.2).trans h.c0, h.okf, h.okm, ⟨h.nk.1, fun hm => ?_⟩, ⟨h.nc.1, fun hm => ?_⟩, h.ne, h.hi⟩
  · rcases e k hk with h2 | h2
    · exact h.side.mhi k h2
    · have := h.side.bel.size; omega
  · rcases e k hm with h2 | h2
    · exact h.side.ne k hk h2
    · have := h.side.fr.lt hk; omega
  · rcases e bk hm with h2 | h2
    · exact h.nk.2 h2
    · omega
  · rcases e bc hm with h2 | h2
    · exact h.nc.2 h2
    · omega
end Kd

/-- How the two begin. -/
theorem Kd.start {w0 wc wd : World} {bf bm g0 g1 : Nat} {vb : Value} {F : Nat → Prop} {bk : Nat} {root : Int} {S : Pg.Fs} {t : TypeId} (h : Side w0 bf bm g0 g1 vb F S S wc) (hk : WkAt wd bk 0 root Pg.Wk.off) (hb : Below wc.heap.size wc wd) (hbk : wc.heap.size ≤ bk) :
    Kd w0 (wd.alloc (.cells #[.slice none 0 0, .bool false, .int .i64 0, .int .i64 0, .bool false, .int .i64 0, .int .i64 0, .bool false, .int .u64 0] t)) bf bm g0 g1 vb F bk wd.heap.size root S S Pg.Wk.off Pg.Wk.off := by
  have hb2 := balloc (brefl wd) (.cells #[.slice none 0 0, .bool false, .int .i64 0, .int .i64 0, .bool false, .int .i64 0, .int .i64 0, .bool false, .int .u64 0] t)
  have hlk := hk.lb
  have hs := hb.size
  have hs2 := h.bel.size
  refine ⟨(h.grow hb).grow hb2, hk.grow hb2, ⟨0, 0, 0, ?_, ?_, ?_, ?_, ?_, ?_, ?_, ?_, fun p => ?_, fun h => (by cases h), fun h => absurd rfl h⟩, ?_, Pg.Wk.off_ok, Pg.Wk.off_ok, ⟨fun hj => ?_, fun hj => ?_⟩, ⟨fun hj => ?_, fun hj => ?_⟩, by omega, ⟨by omega, by omega⟩⟩
  any_goals (simp [go_sem, Pg.Wk.off]; done)
  · have := h.fr.lt hj; omega
  · have := h.mem.raw.lt hj; omega
  · have := h.fr.lt hj; omega
  · have := h.mem.raw.lt hj; omega
end Go.Proofs.Ytkcmlmofcjdgoad
