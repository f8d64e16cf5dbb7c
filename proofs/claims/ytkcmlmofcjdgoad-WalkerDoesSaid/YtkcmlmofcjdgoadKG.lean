
/-
  The developers' walk and the document's, over both kinds of frames; how the statements on walks begin.
-/
import Derived.Test.YtkcmlmofcjdgoadKC
import Derived.Test.YtkcmlmofcjdgoadWalkH
namespace Go.Proofs.Ytkcmlmofcjdgoad
open Go.RowKit Go.Sort
set_option linter.unusedVariables false
set_option linter.unusedSimpArgs false
set_option maxRecDepth 100000

/-- A walk of the developers' over their frames, behind all that was there. -/
structure Wf (w0 wc : World) (bf : Nat) (F : Nat → Prop) (S : Pg.Fs) (bk : Nat) (root : Int) (K : Pg.Wk) : Prop where
  bel : Below w0.heap.size w0 wc
  fr : FrAt wc bf S F
  wk : WkAt wc bk 0 root K
  fhi : ∀ j, F j → w0.heap.size ≤ j
  khi : w0.heap.size ≤ bk
  ne : ¬ F bk
namespace Wf
variable {w0 wc wd : World} {bf bk : Nat} {F F' : Nat → Prop} {S S' : Pg.Fs} {root : Int} {K K' : Pg.Wk}
theorem grow (h : Wf w0 wc bf F S bk root K) (hb : Below wc.heap.size wc wd) : Wf w0 wd bf F S bk root K :=
  ⟨bthen h.bel hb, h.fr.keep (G := fun _ => False) (But.of_below hb) (fun _ _ => id), h.wk.grow hb, h.fhi, h.khi, h.ne⟩
/-- What others write does not matter. -/
theorem beside (h : Wf w0 wc bf F S bk root K) {G : Nat → Prop} (hb : But G wc wd) (hG : ∀ j, j < wc.heap.size → G j → w0.heap.size ≤ j ∧ ¬ F j ∧ j ≠ bk) : Wf w0 wd bf F S bk root K := by
  have hb' : But (fun j => G j ∧ j < wc.heap.size) wc wd := hb.mono fun i hi hg => ⟨hg, hi⟩
  refine ⟨h.bel.trans (hb'.below h.bel.size fun j hj => (hG j hj.2 hj.1).1), h.fr.keep hb' fun k hk hg => (hG k hg.2 hg.1).2.1 hk, h.wk.keep hb' fun hg => (hG bk hg.2 hg.1).2.2 rfl, h.fhi, h.khi, h.ne⟩
/-- A step, or another call of the walk's own. -/
theorem step (h : Wf w0 wc bf F S bk root K) (hk : WkAt wd bk 0 root K') (hf : FrAt wd bf S' F') (hb : But (fun j => j = bk ∨ F j) wc wd) (hF : ∀ j, F' j → F j ∨ wc.heap.size ≤ j) : Wf w0 wd bf F' S' bk root K' := by
  refine ⟨h.bel.trans (hb.below h.bel.size fun j hj => hj.elim (fun e => e ▸ h.khi) (h.fhi j)), hf, hk, fun j hj => ?_, h.khi, fun hj => ?_⟩
  · rcases hF j hj with h2 | h2
    · exact h.fhi j h2
    · have := h.bel.size; omega
  · rcases hF bk hj with h2 | h2
    · exact h.ne h2
    · have := h.wk.lb; omega
theorem own (h : Wf w0 wc bf F S bk root K) (hk : WkAt wd bk 0 root K') (hb : But (fun j => j = bk) wc wd) : Wf w0 wd bf F S bk root K' :=
  h.step hk (h.fr.keep hb fun j hj e => h.ne (e ▸ hj)) (hb.mono fun _ _ e => .inl e) fun _ hj => .inl hj
end Wf

theorem kBegun_facts : Pg.kOut (Pg.Fs.memory 2 1 (fun _ => 4111) 1) 0 (Pg.Wk.start 0 512 0 false) = .stop 1 ∧ bgnC Pg.Wk.off 512 0 = 0 ∧ bgnC (Pg.Wk.start 0 512 0 false) 0 0 = 8 := by
  have h1 : (Pg.Fs.memory 2 1 (fun _ => 4111) 1).has 0 = true ∧ (Pg.Fs.memory 2 1 (fun _ => 4111) 1).word 0 (Pg.ix 512 3) = 0 := by decide +kernel
  refine ⟨?_, by decide +kernel, by decide +kernel⟩
  have h2 : Pg.rCode (Pg.Fs.memory 2 1 (fun _ => 4111) 1) 0 (Pg.ix 512 3) 3 = 0 ∧ (Pg.rEn (Pg.Fs.memory 2 1 (fun _ => 4111) 1) 0 (Pg.ix 512 3) 3).t = false := by decide +kernel
  have h3 := Pg.kRead (Pg.Fs.memory 2 1 (fun _ => 4111) 1) 0 512 0 false 0 3
  rw [h2.1, if_neg (by decide), if_pos h2.2] at h3
  exact h3

set_option maxHeartbeats 1000000 in
theorem walkerBegun_any (w : World) :
    Calls Try.prog 23 #[] w fun e w' => e = .returned (.bool true) ∧ Below w.heap.size w w' := by
  obtain ⟨b1, b2, b3⟩ := kBegun_facts
  have hw : WordsAt (w.alloc (.cells #[.int .u64 4111] 30)) (some ⟨w.heap.size, 0, none⟩) 1 (fun _ => 4111) := by
    intro j hj
    have : j = 0 := by omega
    subst this
    exact ⟨⟨w.heap.size, 0, rfl, by simp, by simp [go_sem]⟩, by decide, by decide⟩
  have HM := memory_any 2 (by omega) 1 (some ⟨w.heap.size, 0, none⟩) 1 1 (by omega) (fun _ => 4111) _ hw
  generalize Pg.Fs.memory 2 1 (fun _ => 4111) 1 = S at *
  clear hw
  have o1 : (Pg.Wk.start 0 512 0 false).Ok := Pg.Wk.start_ok (by decide)
  have k1 : bgnK 0 Pg.Wk.off 512 0 false = Pg.Wk.start 0 512 0 false := by simp [bgnK, b2]
  have k2 : bgnK 0 (Pg.Wk.start 0 512 0 false) 0 0 false = Pg.Wk.start 0 512 0 false := by simp [bgnK, b3]
  have HB1 := fun (W : World) (b : Nat) (h : WkAt W b 0 0 Pg.Wk.off) => kBegin_any Pg.Wk.off_ok 512 0 false W h
  have HB2 := fun (W : World) (b : Nat) (h : WkAt W b 0 0 (Pg.Wk.start 0 512 0 false)) => kBegin_any o1 0 0 false W h
  have HO := fun (W : World) (b : Nat) (h : WkAt W b 0 0 (Pg.Wk.start 0 512 0 false)) => kOn_any W h
  have HO2 := fun (W : World) (b : Nat) (h : WkAt W b 0 0 Pg.Wk.off) => kOn_any W h
  have HS1 := fun (W : World) (b bf : Nat) (F : Nat → Prop) (h : WkAt W b 0 0 (Pg.Wk.start 0 512 0 false)) (hf : FrAt W bf S F) (hn : ¬ F b) => kStep_any o1 W h hf hn
  have HS2 := fun (W : World) (b bf : Nat) (h : WkAt W b 0 0 Pg.Wk.off) => kStep_idle (bf := bf) rfl W h
  simp only [b1, b2, b3, k1, k2] at HB1 HB2 HS1
  simp only [Pg.Wo.res, Pg.Wo.cd, Pg.Wo.next, Pg.Wo.fs, Pg.Rs.val, Pg.Rs.zero] at HS1 HS2
  have ho1 : (Pg.Wk.start 0 512 0 false).on = true := rfl
  have ho2 : Pg.Wk.off.on = false := rfl
  simp only [ho1] at HO
  simp only [ho2] at HO2
  have HN := fun w => kNew_any 0 w
  generalize Pg.Wk.start 0 512 0 false = K1 at *
  generalize Pg.Wk.off = K0 at *
  clear b1 b2 b3 k1 k2 ho1 ho2 o1
  go_enter Try.func23, Try.ntmps23
  go_wp2_with fail
  refine HM.mono ?_
  rintro e w1 ⟨bf, bm, g0, g1, vb, F, rfl, hS⟩
  have HS : Hid _ := hS
  clear hS HM
  go_wp2_with fail
  refine (HN _).mono ?_
  rintro e w2 ⟨bk, rfl, hk2, hb2, hbk⟩
  have P2 : Hid (Wf w w2 bf F S bk 0 K0) := ⟨bthen (bthen (balloc (brefl w) _) HS.out.bel) hb2, HS.out.fr.keep (G := fun _ => False) (But.of_below hb2) (fun _ _ => id), hk2, fun j hj => by have := HS.out.fhi j hj; simp at this; omega, by have := HS.out.bel.size; simp at this; omega, fun hj => by have := HS.out.fr.lt hj; omega⟩
  clear hk2 hb2 hbk HN HS
  go_wp2_with fail
  refine (HB1 _ _ P2.out.wk).mono ?_
  rintro e w3 ⟨rfl, hk3, hc3⟩
  have P3 : Hid _ := P2.out.own hk3 hc3.but
  clear hk3 hc3 HB1 P2
  go_wp2_with fail
  refine (HB2 _ _ P3.out.wk).mono ?_
  rintro e w4 ⟨rfl, hk4, hc4⟩
  have P4 : Hid _ := P3.out.own hk4 hc4.but
  clear hk4 hc4 HB2 P3
  go_wp2_with fail
  refine (HO _ _ P4.out.wk).mono ?_
  rintro e w5 ⟨rfl, hw5⟩
  subst w5
  clear HO
  go_wp2_with fail
  refine (HS1 _ _ _ _ P4.out.wk P4.out.fr P4.out.ne).mono ?_
  rintro e w6 ⟨rfl, hk6, F6, hf6, hc6, hF6⟩
  have P6 : Hid _ := P4.out.step hk6 hf6 hc6.but hF6
  clear hk6 hf6 hc6 hF6 HS1 P4
  obtain ⟨W7, hW7⟩ : ∃ W7, W7 = w6.alloc (.cells #[.bool true, .int .i64 1, .int .i64 0, .int .i64 0, .int .i64 0, .int .i64 0, .int .i64 0, .int .i64 0, .bool false] 71) := ⟨_, rfl⟩
  have hb7 : Below w6.heap.size w6 W7 := by rw [hW7]; exact balloc (brefl _) _
  have c0 : W7.cell? ⟨w6.heap.size, 0, none⟩ = some (.bool true) ∧ W7.cell? ⟨w6.heap.size, 1, none⟩ = some (.int .i64 1) := by rw [hW7]; simp [go_sem]
  have P7 : Hid _ := P6.out.grow hb7
  clear hb7 P6
  go_wp2_with fail
  rw [← hW7]
  clear hW7
  refine (HS2 _ _ _ P7.out.wk).mono ?_
  rintro e w8 ⟨rfl, hb8⟩
  have P8 : Hid _ := P7.out.grow hb8
  have d0 := cell_later hb8 c0.1
  have d1 := cell_later hb8 c0.2
  have hl8 := World.block_lt_of_cell? _ _ d0
  simp only at hl8
  have n8 : w6.heap.size ≠ w8.heap.size := by omega
  clear hb8 c0 HS2 P7
  have P9 : Hid _ := P8.out.grow (balloc (brefl w8) (.cells #[.bool false, .int .i64 0, .int .i64 0, .int .i64 0, .int .i64 0, .int .i64 0, .int .i64 0, .int .i64 0, .bool false] 71))
  go_wp2_with fail
  refine (HO2 _ _ P9.out.wk).mono ?_
  rintro e w10 ⟨rfl, hw10⟩
  subst w10
  go_wp2_with fail
  go_ret
  exact ⟨rfl, P9.out.bel⟩
end Go.Proofs.Ytkcmlmofcjdgoad
