/-
  Both kinds of frames, and a core of each kind beside them.
-/
import Derived.Test.YtbkpndgadgafiaeCrB
import Derived.Test.YtbkpndgadgafiaeCrC
import Derived.Test.YtbkpndgadgafiaeWalkH
import Derived.Test.YtbkpndgadgafiaeCdA
import Derived.Test.YtbkpndgadgafiaeKF
import Derived.Test.YtbkpndgadgafiaeWords
import Derived.Test.YtbkpndgadgafiaeFrameC
namespace Go.Proofs.Ytbkpndgadgafiae
open Go.RowKit Go.Sort
set_option linter.unusedVariables false
set_option linter.unusedSimpArgs false
set_option maxRecDepth 100000

/-- A core of the developers' over their frames, behind all that was there. -/
structure Cf (w0 wc : World) (bf : Nat) (Ff : Nat → Prop) (S : Pg.Fs) (b : Nat) (F : Nat → Prop) (root : Int) (C : Pg.Cr) : Prop where
  bel : Below w0.heap.size w0 wc
  fr : FrAt wc bf S Ff
  cr : CrAt wc b root C F
  fhi : ∀ j, Ff j → w0.heap.size ≤ j
  chi : ∀ j, F j → w0.heap.size ≤ j
  ne : ∀ j, F j → ¬ Ff j
namespace Cf
variable {w0 wc wd : World} {bf b : Nat} {F F' Ff Ff' : Nat → Prop} {S S' : Pg.Fs} {root : Int} {C C' : Pg.Cr}
theorem grow (h : Cf w0 wc bf Ff S b F root C) (hb : Below wc.heap.size wc wd) : Cf w0 wd bf Ff S b F root C :=
  ⟨bthen h.bel hb, h.fr.keep (G := fun _ => False) (But.of_below hb) (fun _ _ => id), h.cr.grow hb, h.fhi, h.chi, h.ne⟩
/-- A step. -/
theorem step (h : Cf w0 wc bf Ff S b F root C) (hc : CrAt wd b root C' F') (hf : FrAt wd bf S' Ff') (hb : But (fun j => F j ∨ Ff j) wc wd) (hF : ∀ j, F' j → F j ∨ wc.heap.size ≤ j) (hFf : ∀ j, Ff' j → Ff j ∨ wc.heap.size ≤ j) (hne : ∀ j, F' j → ¬ Ff' j) : Cf w0 wd bf Ff' S' b F' root C' := by
  have hs := h.bel.size
  exact ⟨h.bel.trans (hb.below hs fun j hj => hj.elim (h.chi j) (h.fhi j)), hf, hc, fun j hj => (hFf j hj).elim (h.fhi j) (fun h => by omega), fun j hj => (hF j hj).elim (h.chi j) (fun h => by omega), hne⟩
/-- Another call of the core's own. -/
theorem own (h : Cf w0 wc bf Ff S b F root C) (hc : CrAt wd b root C' F') (hb : But F wc wd) (hF : ∀ j, F' j → F j ∨ wc.heap.size ≤ j) : Cf w0 wd bf Ff S b F' root C' :=
  h.step hc (h.fr.keep hb fun j hj e => h.ne j e hj) (hb.mono fun _ _ e => .inl e) hF (fun j hj => .inl hj) (fun j hj hf => (hF j hj).elim (fun h' => h.ne j h' hf) (fun h' => by have := h.fr.lt hf; omega))
/-- What is kept alone was asked. -/
theorem lines {bt : Nat} {Ft' : Nat → Prop} {L' : List Pg.Ln} {bk : Nat} {Ft : Nat → Prop} (h : Cf w0 wc bf Ff S b (crF b bk Ft) root C) (hc : Crk wc b bt bk Ft root C) (ht : TbAt wd bt 0 L' Ft') (hb : But Ft wc wd) (hF : ∀ j, Ft' j → Ft j ∨ wc.heap.size ≤ j) : Cf w0 wd bf Ff S b (crF b bk Ft') root ⟨L', C.K⟩ :=
  h.own ⟨_, _, _, hc.stepT ht hb hF, rfl⟩ (hb.mono fun _ _ h => .inr (.inr h)) (fun j hj => by
    rcases hj with hj | hj | hj
    · exact .inl (.inl hj)
    · exact .inl (.inr (.inl hj))
    · exact (hF j hj).imp (fun h => .inr (.inr h)) id)
end Cf

theorem cBegun_facts : Pg.kOut (Pg.Fs.memory 2 1 (fun _ => 0) 0) 0 (Pg.Wk.start 0 5 0 false) = .stop 1 ∧ Pg.checkAccess 5 0 = 0 := by
  have h1 : (Pg.Fs.memory 2 1 (fun _ => 0) 0).has 0 = true ∧ (Pg.Fs.memory 2 1 (fun _ => 0) 0).word 0 (Pg.ix 5 3) = 0 := by decide +kernel
  refine ⟨?_, by decide +kernel⟩
  have h2 : Pg.rCode (Pg.Fs.memory 2 1 (fun _ => 0) 0) 0 (Pg.ix 5 3) 3 = 0 ∧ (Pg.rEn (Pg.Fs.memory 2 1 (fun _ => 0) 0) 0 (Pg.ix 5 3) 3).t = false := by decide +kernel
  have h3 := Pg.kRead (Pg.Fs.memory 2 1 (fun _ => 0) 0) 0 5 0 false 0 3
  rw [h2.1, if_neg (by decide), if_pos h2.2] at h3
  exact h3

set_option maxHeartbeats 1000000 in
theorem coreBegun_any (w : World) :
    Calls Try.prog 5 #[] w fun e w' => e = .returned (.bool true) ∧ Below w.heap.size w w' := by
  obtain ⟨b1, b2⟩ := cBegun_facts
  have HM := memory_any 2 (by omega) 1 none 0 0 (by omega) (fun _ => 0) w (fun j hj => by omega)
  have t1 : (Pg.Cr.new).bgT 5 0 false = .code 0 := by
    unfold Pg.Cr.bgT
    rw [if_neg (by simp [b2]), if_neg (by simp [Pg.Cr.new, Pg.Wk.off]), if_neg (by simp [Pg.Cr.hit, Pg.kFnd, Pg.Cr.new])]
  have t2 : (Pg.Cr.new).bgN 0 5 0 false = ⟨[], Pg.Wk.start 0 5 0 false⟩ := by
    unfold Pg.Cr.bgN
    rw [if_pos ⟨b2, rfl, by simp [Pg.Cr.hit, Pg.kFnd, Pg.Cr.new]⟩]
    rfl
  have t3 : Pg.Cr.stT (Pg.Fs.memory 2 1 (fun _ => 0) 0) 0 ⟨[], Pg.Wk.start 0 5 0 false⟩ = ⟨1, 0, 0, true, 0⟩ := by
    unfold Pg.Cr.stT
    rw [b1]
    rfl
  have t4 : Pg.Cr.stN (Pg.Fs.memory 2 1 (fun _ => 0) 0) 0 ⟨[], Pg.Wk.start 0 5 0 false⟩ = Pg.Cr.new := by
    unfold Pg.Cr.stN
    rw [b1]
    rfl
  have HB := fun (W : World) (b : Nat) (F : Nat → Prop) (h : CrAt W b 0 Pg.Cr.new F) => crBegin_any 5 0 false W h
  have HS := fun (W : World) (b bf : Nat) (F Ff : Nat → Prop) (h : CrAt W b 0 ⟨[], Pg.Wk.start 0 5 0 false⟩ F) (hf : FrAt W bf (Pg.Fs.memory 2 1 (fun _ => 0) 0) Ff) (hn : ∀ j, F j → ¬ Ff j) => crStep_any W h hf hn
  simp only [t1, t2, t3, t4] at HB HS
  simp only [Pg.Tl.val, Pg.Tl.code] at HB HS
  have HO := fun (W : World) (b : Nat) (F : Nat → Prop) (h : CrAt W b 0 Pg.Cr.new F) => crBusy_any W h
  simp only [show Pg.Cr.new.K.on = false from rfl] at HO
  have HN := fun w => crNew_any 0 w
  clear b1 b2 t1 t2 t3 t4
  generalize Pg.Fs.memory 2 1 (fun _ => 0) 0 = S at *
  go_enter Try.func5, Try.ntmps5
  go_wp2_with fail
  refine HM.mono ?_
  rintro e w1 ⟨bf, bm, g0, g1, vb, Ff, rfl, hS⟩
  have HSd : Hid _ := hS
  clear hS HM
  go_wp2_with fail
  refine (HN _).mono ?_
  rintro e w2 ⟨b, F, rfl, hc2, hb2, hF2⟩
  have P2 : Hid (Cf w w2 bf Ff S b F 0 Pg.Cr.new) := ⟨bthen HSd.out.bel hb2, HSd.out.fr.keep (G := fun _ => False) (But.of_below hb2) (fun _ _ => id), hc2, HSd.out.fhi, fun j hj => Nat.le_trans HSd.out.bel.size (hF2 j hj), fun j hj hf => by have := HSd.out.fr.lt hf; have := hF2 j hj; omega⟩
  clear hc2 hb2 hF2 HN HSd
  go_wp2_with fail
  refine (HB _ _ _ P2.out.cr).mono ?_
  rintro e w3 ⟨rfl, hc3, hb3⟩
  have P3 : Hid (Cf w (w3.alloc (.cells #[.int .i64 0, .int .i64 0, .int .i64 0] 43)) bf Ff S b F 0 ⟨[], Pg.Wk.start 0 5 0 false⟩) := (P2.out.own hc3 hb3 (fun j hj => .inl hj)).grow (balloc (brefl _) _)
  clear hc3 hb3 HB P2
  go_wp2_with fail
  refine (HS _ _ _ _ _ P3.out.cr P3.out.fr P3.out.ne).mono ?_
  rintro e w4 ⟨rfl, F4, Ff4, hc4, hf4, hb4, g1, g2, g3⟩
  have P4 : Hid _ := P3.out.step hc4 hf4 hb4 g1 g2 g3
  clear hc4 hf4 hb4 g1 g2 g3 HS P3
  generalize Pg.Cr.stS S 0 ⟨[], Pg.Wk.start 0 5 0 false⟩ = S4 at *
  obtain ⟨W5, hW5⟩ : ∃ W5, W5 = w4.alloc (.cells #[.int .i64 1, .int .i64 0, .int .i64 0] 43) := ⟨_, rfl⟩
  have hb5 : Below w4.heap.size w4 W5 := by rw [hW5]; exact balloc (brefl _) _
  have P5 : Hid _ := P4.out.grow hb5
  clear hb5 P4
  go_wp2_with fail
  rw [← hW5]
  clear hW5
  refine (HO _ _ _ P5.out.cr).mono ?_
  rintro e w6 ⟨rfl, hw6⟩
  subst w6
  obtain ⟨bt, bk, Ft, hcr, hFe⟩ := P5.out.cr
  subst hFe
  have c0 := hcr.c0
  have HE := tbEvict_any W5 hcr.tb
  rw [show decide (0 < Pg.Cr.new.L.length) = false from rfl] at HE
  have HC : Hid _ := hcr
  clear hcr
  go_wp2_with fail
  refine HE.mono ?_
  rintro e w7 ⟨rfl, Ft7, h7, hb7, hF7⟩
  have P7 : Hid _ := P5.out.lines HC.out h7 hb7.but hF7
  clear HE h7 hb7 hF7
  go_wp2_with fail
  go_ret
  exact ⟨rfl, P7.out.bel⟩
end Go.Proofs.Ytbkpndgadgafiae

namespace Go.Proofs.Ytbkpndgadgafiae
open Go.RowKit Go.Sort
set_option linter.unusedVariables false
set_option maxRecDepth 100000

/-- Both kinds of frames, and a core of each kind beside them. -/
structure Cp (w0 wc : World) (bf bm g0 g1 : Nat) (vb : Value) (Ff : Nat → Prop) (bk : Nat) (Fk : Nat → Prop) (bc : Nat) (vc : Value) (root : Int) (Sf Sm : Pg.Fs) (Cf Cm : Pg.Cr) : Prop where
  side : Side w0 bf bm g0 g1 vb Ff Sf Sm wc
  cr : CrAt wc bk root Cf Fk
  cd : CdAt wc bc vc Cm
  nk : ∀ j, Fk j → ¬ Ff j ∧ ¬ memF bm g0 g1 vb j
  nc : ∀ j, bkF bc vc j → ¬ Ff j ∧ ¬ memF bm g0 g1 vb j
  ne : ∀ j, Fk j → ¬ bkF bc vc j
  khi : ∀ j, Fk j → w0.heap.size ≤ j
  chi : ∀ j, bkF bc vc j → w0.heap.size ≤ j
namespace Cp
variable {w0 wc wd : World} {bf bm g0 g1 : Nat} {vb vb' : Value} {Ff Ff' : Nat → Prop} {bk : Nat} {Fk Fk' : Nat → Prop} {bc : Nat} {vc vc' : Value} {root : Int} {Sf Sm S' : Pg.Fs} {Cf Cm C' : Pg.Cr}
theorem grow (h : Cp w0 wc bf bm g0 g1 vb Ff bk Fk bc vc root Sf Sm Cf Cm) (hb : Below wc.heap.size wc wd) : Cp w0 wd bf bm g0 g1 vb Ff bk Fk bc vc root Sf Sm Cf Cm :=
  ⟨h.side.grow hb, h.cr.grow hb, h.cd.grow hb, h.nk, h.nc, h.ne, h.khi, h.chi⟩
/-- A call of the developers'. -/
theorem left (h : Cp w0 wc bf bm g0 g1 vb Ff bk Fk bc vc root Sf Sm Cf Cm) (hk : CrAt wd bk root C' Fk') (hf : FrAt wd bf S' Ff') (hb : But (fun j => Fk j ∨ Ff j) wc wd) (hK : ∀ j, Fk' j → Fk j ∨ wc.heap.size ≤ j) (hF : ∀ j, Ff' j → Ff j ∨ wc.heap.size ≤ j) (hne : ∀ j, Fk' j → ¬ Ff' j) :
    Cp w0 wd bf bm g0 g1 vb Ff' bk Fk' bc vc root S' Sm C' Cm := by
  have hs := h.side.bel.size
  have hcd : CdAt wd bc vc Cm := h.cd.keep hb fun k hk e => e.elim (fun e => h.ne k e hk) (h.nc k hk).1
  refine ⟨⟨h.side.bel.trans (hb.below hs fun j hj => hj.elim (h.khi j) (h.side.fhi j)), hf, h.side.mem.keep hb ?_, fun j hj => ?_, h.side.mhi, fun j hj hm => ?_⟩, hk, hcd, fun j hj => ⟨hne j hj, fun hm => ?_⟩, fun j hj => ⟨fun hf => ?_, (h.nc j hj).2⟩, fun j hj hc => ?_, fun j hj => ?_, h.chi⟩
  · rintro j hm (e | e)
    · exact (h.nk j e).2 hm
    · exact h.side.ne j e hm
  · rcases hF j hj with h2 | h2
    · exact h.side.fhi j h2
    · omega
  · rcases hF j hj with h2 | h2
    · exact h.side.ne j h2 hm
    · have := h.side.mem.raw.lt hm; omega
  · rcases hK j hj with h2 | h2
    · exact (h.nk j h2).2 hm
    · have := h.side.mem.raw.lt hm; omega
  · rcases hF j hf with h2 | h2
    · exact (h.nc j hj).1 h2
    · have := h.cd.lt hj; omega
  · rcases hK j hj with h2 | h2
    · exact h.ne j h2 hc
    · have := h.cd.lt hc; omega
  · rcases hK j hj with h2 | h2
    · exact h.khi j h2
    · omega
theorem leftK (h : Cp w0 wc bf bm g0 g1 vb Ff bk Fk bc vc root Sf Sm Cf Cm) (hk : CrAt wd bk root C' Fk') (hb : But Fk wc wd) (hK : ∀ j, Fk' j → Fk j ∨ wc.heap.size ≤ j) : Cp w0 wd bf bm g0 g1 vb Ff bk Fk' bc vc root Sf Sm C' Cm :=
  h.left hk (h.side.fr.keep hb fun j hj e => (h.nk j e).1 hj) (hb.mono fun _ _ e => .inl e) hK (fun _ hj => .inl hj) (fun j hj hf => (hK j hj).elim (fun h' => (h.nk j h').1 hf) (fun h' => by have := h.side.fr.lt hf; omega))
theorem leftF (h : Cp w0 wc bf bm g0 g1 vb Ff bk Fk bc vc root Sf Sm Cf Cm) (hf : FrAt wd bf S' Ff') (hb : But Ff wc wd) (hF : ∀ j, Ff' j → Ff j ∨ wc.heap.size ≤ j) : Cp w0 wd bf bm g0 g1 vb Ff' bk Fk bc vc root S' Sm Cf Cm :=
  h.left (h.cr.keep hb fun j hj e => (h.nk j hj).1 e) hf (hb.mono fun _ _ e => .inr e) (fun _ hj => .inl hj) hF (fun j hj hf => (hF j hf).elim (h.nk j hj).1 (fun h' => by have := h.cr.lt hj; omega))
/-- A call of the document's; it may write other memory that nobody here has. -/
theorem right (h : Cp w0 wc bf bm g0 g1 vb Ff bk Fk bc vc root Sf Sm Cf Cm) {G : Nat → Prop} (hc : CdAt wd bc vc' C') (hm : MemAt wd bm g0 g1 vb' S') (hv : vb'.ownBlock = vb.ownBlock) (hC : ∀ j, bkF bc vc' j → bkF bc vc j ∨ wc.heap.size ≤ j) (hb : But G wc wd) (hG : ∀ j, G j → bkF bc vc j ∨ memF bm g0 g1 vb j ∨ (w0.heap.size ≤ j ∧ ¬ Ff j ∧ ¬ Fk j)) :
    Cp w0 wd bf bm g0 g1 vb' Ff bk Fk bc vc' root Sf S' Cf C' := by
  have hs := h.side.bel.size
  have e : ∀ k, memF bm g0 g1 vb' k ↔ memF bm g0 g1 vb k := fun k => by unfold memF; rw [hv]
  have hGF : ∀ j, G j → ¬ Ff j := fun j hj => by
    rcases hG j hj with h2 | h2 | h2
    · exact (h.nc j h2).1
    · exact fun hf => h.side.ne j hf h2
    · exact h2.2.1
  have hGk : ∀ j, G j → ¬ Fk j := fun j hj => by
    rcases hG j hj with h2 | h2 | h2
    · exact fun hk => h.ne j hk h2
    · exact fun hk => (h.nk j hk).2 h2
    · exact h2.2.2
  refine ⟨⟨h.side.bel.trans (hb.below hs fun j hj => ?_), h.side.fr.keep hb fun j hj hg => hGF j hg hj, hm, h.side.fhi, fun j hj => h.side.mhi j ((e j).1 hj), fun j hj hm => h.side.ne j hj ((e j).1 hm)⟩, h.cr.keep hb fun j hj hg => hGk j hg hj, hc, fun j hj => ⟨(h.nk j hj).1, fun hm => (h.nk j hj).2 ((e j).1 hm)⟩, fun j hj => ⟨fun hf => ?_, fun hm => ?_⟩, fun j hj hc => ?_, h.khi, fun j hj => ?_⟩
  · rcases hG j hj with h2 | h2 | h2
    · exact h.chi j h2
    · exact h.side.mhi j h2
    · exact h2.1
  · rcases hC j hj with h2 | h2
    · exact (h.nc j h2).1 hf
    · have := h.side.fr.lt hf; omega
  · rcases hC j hj with h2 | h2
    · exact (h.nc j h2).2 ((e j).1 hm)
    · have := h.side.mem.raw.lt ((e j).1 hm); omega
  · rcases hC j hc with h2 | h2
    · exact h.ne j hj h2
    · have := h.cr.lt hj; omega
  · rcases hC j hj with h2 | h2
    · exact h.chi j h2
    · omega
theorem rightC (h : Cp w0 wc bf bm g0 g1 vb Ff bk Fk bc vc root Sf Sm Cf Cm) (hc : CdAt wd bc vc' C') (hC : ∀ j, bkF bc vc' j → bkF bc vc j ∨ wc.heap.size ≤ j) (hb : But (bkF bc vc) wc wd) : Cp w0 wd bf bm g0 g1 vb Ff bk Fk bc vc' root Sf Sm Cf C' :=
  h.right hc (h.side.mem.keep hb fun j hj e => (h.nc j e).2 hj) rfl hC hb fun _ hj => .inl hj
end Cp

/-- How the two begin. -/
theorem Cp.start {w0 wc wd : World} {bf bm g0 g1 : Nat} {vb : Value} {Ff : Nat → Prop} {bk : Nat} {Fk : Nat → Prop} {root : Int} {S : Pg.Fs} (h : Side w0 bf bm g0 g1 vb Ff S S wc) (hk : CrAt wd bk root Pg.Cr.new Fk) (hb : Below wc.heap.size wc wd) (hbk : ∀ j, Fk j → wc.heap.size ≤ j) :
    Cp w0 (wd.alloc (.cells #[.slice none 0 0, .bool false, .int .i64 0, .int .i64 0, .bool false, .int .i64 0, .int .i64 0, .bool false, .int .u64 0] 37)) bf bm g0 g1 vb Ff bk Fk wd.heap.size (.slice none 0 0) root S S Pg.Cr.new Pg.Cr.new := by
  have hb2 := balloc (brefl wd) (.cells #[.slice none 0 0, .bool false, .int .i64 0, .int .i64 0, .bool false, .int .i64 0, .int .i64 0, .bool false, .int .u64 0] 37)
  have hs := hb.size
  have hs2 := h.bel.size
  have hC : ∀ j, bkF wd.heap.size (.slice none 0 0) j → j = wd.heap.size := fun j hj => by
    rcases hj with hj | hj
    · exact hj
    · simp [Value.ownBlock] at hj
  have hn := heap_alloc_new wd (.cells #[.slice none 0 0, .bool false, .int .i64 0, .int .i64 0, .bool false, .int .i64 0, .int .i64 0, .bool false, .int .u64 0] 37)
  have hco : CoAt (wd.alloc (.cells #[.slice none 0 0, .bool false, .int .i64 0, .int .i64 0, .bool false, .int .i64 0, .int .i64 0, .bool false, .int .u64 0] 37)) wd.heap.size (.slice none 0 0) [] :=
    ⟨cell_of_row _ _ 0 _ _ _ hn, fun o => by unfold World.frozen?; simp only [hn]; simp, OwnsAt.nil _ _ _, fun e => by simp [Value.ownBlock] at e, Pg.Kept.nil⟩
  refine ⟨(h.grow hb).grow hb2, hk.grow hb2, ⟨hco, ⟨0, 0, 0, ?_, ?_, ?_, ?_, ?_, ?_, ?_, ?_, fun p => ?_, fun h => (by cases h), fun h => absurd rfl h⟩, Pg.Wk.off_ok⟩, fun j hj => ⟨fun hf => ?_, fun hm => ?_⟩, fun j hj => ⟨fun hf => ?_, fun hm => ?_⟩, fun j hj hc => ?_, fun j hj => ?_, fun j hj => ?_⟩
  any_goals (simp [go_sem, Pg.Cr.new, Pg.Wk.off]; done)
  · have := h.fr.lt hf; have := hbk j hj; omega
  · have := h.mem.raw.lt hm; have := hbk j hj; omega
  · have := h.fr.lt hf; have := hC j hj; omega
  · have := h.mem.raw.lt hm; have := hC j hj; omega
  · have := hk.lt hj; have := hC j hc; omega
  · have := hbk j hj; omega
  · have := hC j hj; omega

theorem CstAt.of {w w' : World} {X o : Nat} {x : Cst} (h : CstAt w X o x) (hc : ∀ p, w'.cell? ⟨X, p, none⟩ = w.cell? ⟨X, p, none⟩) : CstAt w' X o x :=
  ⟨(hc _).trans h.1, (hc _).trans h.2.1, (hc _).trans h.2.2.1, (hc _).trans h.2.2.2.1, (hc _).trans h.2.2.2.2.1, (hc _).trans h.2.2.2.2.2.1, (hc _).trans h.2.2.2.2.2.2.1, (hc _).trans h.2.2.2.2.2.2.2.1, (hc _).trans h.2.2.2.2.2.2.2.2.1, (hc _).trans h.2.2.2.2.2.2.2.2.2.1, (hc _).trans h.2.2.2.2.2.2.2.2.2.2⟩
/-- The same, with a step x in the block X beside. -/
structure Cpx (w0 wc : World) (bf bm g0 g1 : Nat) (vb : Value) (Ff : Nat → Prop) (bk : Nat) (Fk : Nat → Prop) (bc : Nat) (vc : Value) (root : Int) (X : Nat) (x : Cst) (Sf Sm : Pg.Fs) (Cf Cm : Pg.Cr) : Prop where
  two : Cp w0 wc bf bm g0 g1 vb Ff bk Fk bc vc root Sf Sm Cf Cm
  xs : CstAt wc X 0 x
  n1 : ¬ Ff X
  n2 : ¬ memF bm g0 g1 vb X
  n3 : ¬ Fk X
  n4 : ¬ bkF bc vc X
  new : w0.heap.size ≤ X
namespace Cpx
variable {w0 wc wd : World} {bf bm g0 g1 : Nat} {vb vb' : Value} {Ff Ff' : Nat → Prop} {bk : Nat} {Fk Fk' : Nat → Prop} {bc : Nat} {vc vc' : Value} {root : Int} {X : Nat} {x : Cst} {Sf Sm S' : Pg.Fs} {Cf Cm C' : Pg.Cr}
theorem xl (h : Cpx w0 wc bf bm g0 g1 vb Ff bk Fk bc vc root X x Sf Sm Cf Cm) : X < wc.heap.size := World.block_lt_of_cell? _ _ h.xs.1
theorem grow (h : Cpx w0 wc bf bm g0 g1 vb Ff bk Fk bc vc root X x Sf Sm Cf Cm) (hb : Below wc.heap.size wc wd) : Cpx w0 wd bf bm g0 g1 vb Ff bk Fk bc vc root X x Sf Sm Cf Cm :=
  ⟨h.two.grow hb, h.xs.of fun p => hb.cell (p := ⟨X, p, none⟩) h.xl, h.n1, h.n2, h.n3, h.n4, h.new⟩
theorem left (h : Cpx w0 wc bf bm g0 g1 vb Ff bk Fk bc vc root X x Sf Sm Cf Cm) (hk : CrAt wd bk root C' Fk') (hf : FrAt wd bf S' Ff') (hb : But (fun j => Fk j ∨ Ff j) wc wd) (hK : ∀ j, Fk' j → Fk j ∨ wc.heap.size ≤ j) (hF : ∀ j, Ff' j → Ff j ∨ wc.heap.size ≤ j) (hne : ∀ j, Fk' j → ¬ Ff' j) :
    Cpx w0 wd bf bm g0 g1 vb Ff' bk Fk' bc vc root X x S' Sm C' Cm := by
  have hx := h.xl
  exact ⟨h.two.left hk hf hb hK hF hne, h.xs.of fun p => hb.cell (a := ⟨X, p, none⟩) hx (fun e => e.elim h.n3 h.n1), fun e => (hF X e).elim h.n1 (fun h => by omega), h.n2, fun e => (hK X e).elim h.n3 (fun h => by omega), h.n4, h.new⟩
theorem leftK (h : Cpx w0 wc bf bm g0 g1 vb Ff bk Fk bc vc root X x Sf Sm Cf Cm) (hk : CrAt wd bk root C' Fk') (hb : But Fk wc wd) (hK : ∀ j, Fk' j → Fk j ∨ wc.heap.size ≤ j) : Cpx w0 wd bf bm g0 g1 vb Ff bk Fk' bc vc root X x Sf Sm C' Cm := by
  have hx := h.xl
  exact ⟨h.two.leftK hk hb hK, h.xs.of fun p => hb.cell (a := ⟨X, p, none⟩) hx h.n3, h.n1, h.n2, fun e => (hK X e).elim h.n3 (fun h => by omega), h.n4, h.new⟩
theorem leftF (h : Cpx w0 wc bf bm g0 g1 vb Ff bk Fk bc vc root X x Sf Sm Cf Cm) (hf : FrAt wd bf S' Ff') (hb : But Ff wc wd) (hF : ∀ j, Ff' j → Ff j ∨ wc.heap.size ≤ j) : Cpx w0 wd bf bm g0 g1 vb Ff' bk Fk bc vc root X x S' Sm Cf Cm := by
  have hx := h.xl
  exact ⟨h.two.leftF hf hb hF, h.xs.of fun p => hb.cell (a := ⟨X, p, none⟩) hx h.n1, fun e => (hF X e).elim h.n1 (fun h => by omega), h.n2, h.n3, h.n4, h.new⟩
theorem right (h : Cpx w0 wc bf bm g0 g1 vb Ff bk Fk bc vc root X x Sf Sm Cf Cm) {G : Nat → Prop} (hc : CdAt wd bc vc' C') (hm : MemAt wd bm g0 g1 vb' S') (hv : vb'.ownBlock = vb.ownBlock) (hC : ∀ j, bkF bc vc' j → bkF bc vc j ∨ wc.heap.size ≤ j) (hb : But G wc wd) (hG : ∀ j, G j → bkF bc vc j ∨ memF bm g0 g1 vb j ∨ (w0.heap.size ≤ j ∧ ¬ Ff j ∧ ¬ Fk j ∧ j ≠ X)) :
    Cpx w0 wd bf bm g0 g1 vb' Ff bk Fk bc vc' root X x Sf S' Cf C' := by
  have hx := h.xl
  have e : ∀ k, memF bm g0 g1 vb' k ↔ memF bm g0 g1 vb k := fun k => by unfold memF; rw [hv]
  refine ⟨h.two.right hc hm hv hC hb fun j hj => (hG j hj).imp id (fun h => h.imp id (fun h => ⟨h.1, h.2.1, h.2.2.1⟩)), h.xs.of fun p => hb.cell (a := ⟨X, p, none⟩) hx (fun e => ?_), h.n1, fun hm => h.n2 ((e X).1 hm), h.n3, fun e => (hC X e).elim h.n4 (fun h => by omega), h.new⟩
  rcases hG X e with h2 | h2 | h2
  · exact h.n4 h2
  · exact h.n2 h2
  · exact h2.2.2.2 rfl
theorem rightC (h : Cpx w0 wc bf bm g0 g1 vb Ff bk Fk bc vc root X x Sf Sm Cf Cm) (hc : CdAt wd bc vc' C') (hC : ∀ j, bkF bc vc' j → bkF bc vc j ∨ wc.heap.size ≤ j) (hb : But (bkF bc vc) wc wd) : Cpx w0 wd bf bm g0 g1 vb Ff bk Fk bc vc' root X x Sf Sm Cf C' :=
  h.right hc (h.two.side.mem.keep hb fun j hj e => (h.two.nc j e).2 hj) rfl hC hb fun _ hj => .inl hj
end Cpx
end Go.Proofs.Ytbkpndgadgafiae
