import Derived.Test.YtjdiaebgidgmaafGreatWalkI
import Derived.Test.YtjdiaebgidgmaafGreatPlainTI
import Derived.Test.YtjdiaebgidgmaafGreatTabCp
import Derived.Deep.AppendLies
import Derived.Test.YtjdiaebgidgmaafGreatDvFace
import Derived.Test.YtjdiaebgidgmaafGreatFrameB
import Derived.Test.YtjdiaebgidgmaafGreatLooseT
import Derived.Deep.Quiet
import Derived.Test.YtjdiaebgidgmaafGreatWtH
namespace Go.Proofs.YtjdiaebgidgmaafGreat
open Go.RowKit Go.Sort
set_option linter.unusedVariables false
set_option maxRecDepth 100000
set_option linter.unusedSimpArgs false
attribute [local go_sem] Loose.gent
theorem greatSteps_any (ad : Option Addr) (len cap : Nat) (k : Int) (w : World) : Calls Tryz.prog 10 #[.slice ad len cap, .int .i64 k] w fun e w' => e = .returned (.bool (decide (k < (len : Int)))) ∧ w' = w := by
 go_enter Tryz.func10, Tryz.ntmps10
 go_wp2_with fail
 go_ret
 exact ⟨rfl, rfl⟩
def Bst.sx (x : Bst) : Pg.Sx := ⟨x.kind, x.core, x.m, x.q, x.k, x.u⟩
section
variable {P : World → Nat → Pg.Spc → (Nat → Prop) → Prop}
end
namespace Pg
def bgW : Sx := ⟨1, 0, ⟨5, 0, 9, 0⟩, 0, 0, false⟩
theorem bw_map : (Spc.new 1 4).goE bgW = ⟨0, false, 0, 0, 0, true⟩ := by kernel_rfl
theorem bw_chg : (Spc.new 1 4).chg bgW = 1 := by kernel_rfl
theorem bw_maps : ((Spc.new 1 4).goN bgW).maps.length = 1 := by kernel_rfl
end Pg
set_option maxHeartbeats 2000000 in
theorem watchBegun_any (w : World) : Calls Tryz.prog 19 #[] w fun e w' => e = .returned (.bool true) ∧ Below w.heap.size w w' := by
 have HN := wtNew_any 1 4 w (by decide) (by decide) (by decide) (by decide)
 simp only [show ((1 : Nat) : Int) = 1 from rfl, show ((4 : Nat) : Int) = 4 from rfl] at HN
 have f0 : Pg.fits 0 := by unfold Pg.fits; omega
 have f5 : Pg.fits 5 := by unfold Pg.fits; omega
 have f9 : Pg.fits 9 := by unfold Pg.fits; omega
 have q2 := fun w' b F (h : WtAt w' b (Pg.Spc.new 1 4) [] [] 0 F) => wtDo_any Pg.bgW ⟨f5, f0, f9, f0, f0, f0⟩ w' h (by omega)
 rw [Pg.bw_map, Pg.bw_chg] at q2
 have q7 := fun w' b F (h : DvAt w' b ((Pg.Spc.new 1 4).goN Pg.bgW) F) => dvLst_any h
 rw [Pg.bw_maps] at q7
 generalize (Pg.Spc.new 1 4).goN Pg.bgW = X2 at *
 generalize (Pg.Spc.new 1 4).nxL [] Pg.bgW = L2 at *
 generalize (Pg.Spc.new 1 4).nxP [] [] Pg.bgW = P2 at *
 generalize Pg.Spc.new 1 4 = X1 at *
 simp only [Pg.Sx.val, Pg.bgW, Pg.Ev.val] at q2
 go_enter Tryz.func19, Tryz.ntmps19
 go_wp2_with fail
 refine HN.mono ?_
 rintro e w1 ⟨b, F, rfl, h1, hb1, hF1⟩
 obtain ⟨W2, hW2⟩ : ∃ W2, W2 = w1.alloc (.cells #[.int .i64 0, .int .i64 0] 27) := ⟨_, rfl⟩
 have hb2 : Below w1.heap.size w1 W2 := by rw [hW2]; exact zA (zR _) _
 have y0 : W2.cell? ⟨w1.heap.size, 0, none⟩ = some (.int .i64 0) := by rw [hW2]; simp [go_sem]
 have T2 := q2 W2 b F (h1.grow hb2)
 have HB2 : Hid (Below w.heap.size w W2) := zT hb1 hb2
 have HF2 : Hid (∀ k, F k → w.heap.size ≤ k) := hF1
 clear q2 HN h1 hb1 hF1 hb2
 go_upto_region 2 with fail
 rw [← hW2]
 clear hW2
 go_wp2_with fail
 refine T2.mono ?_
 rintro e w3 ⟨rfl, F3, h3, hb3, hF3⟩
 have HB3 : Hid (Below w.heap.size w w3) := HB2.out.trans (hb3.below HB2.out.size HF2.out)
 obtain ⟨W4, hW4⟩ : ∃ W4, W4 = (w3.alloc (.cells #[.int .i64 0, .bool false, .int .i64 0, .int .i64 0, .int .i64 0, .bool true] 39)).alloc (.cells #[.int .i64 0, .int .i64 0] 27) := ⟨_, rfl⟩
 have hb4 : Below w3.heap.size w3 W4 := by rw [hW4]; exact zA (zA (zR _) _) _
 have e5 : W4.cell? ⟨w3.heap.size, 5, none⟩ = some (.bool true) := by rw [hW4]; simp [go_sem]
 have f0' : W4.cell? ⟨w3.heap.size + 1, 0, none⟩ = some (.int .i64 0) := by rw [hW4]; simp [go_sem]
 have h4 := h3.grow hb4
 obtain ⟨sp, Fs, c0, s4⟩ := h4.space
 have HT := wtTime_any W4 h4
 have H4 : Hid _ := h4
 have HB4 : Hid (Below w.heap.size w W4) := zT HB3.out hb4
 clear T2 h3 hb3 hF3 HB3 h4 y0
 go_upto_region 5 with fail
 rw [← hW4]
 clear hW4 hb4
 go_wp2_with fail
 refine HT.mono ?_
 rintro e w5 ⟨rfl, hb5⟩
 have c0 := cell_later hb5 c0
 have S5 := q7 w5 sp Fs (devFace.grow s4 hb5)
 have HB5 : Hid (Below w.heap.size w w5) := zT HB4.out hb5
 clear hb5 q7 HT s4
 go_wp2_with fail
 refine S5.mono ?_
 rintro e w6 ⟨ad, cap, rfl, _, hb6⟩
 have HB6 : Hid _ := zT HB5.out hb6
 clear hb6 S5
 go_wp2_with fail
 go_ret
 exact ⟨rfl, HB6.out⟩
namespace Wsm
variable {w0 w w' : World} {b c : Nat} {X X' Y Y' : Pg.Spc} {L L0 L' L0' : List Pg.Mp} {ti ti' : Int} {F F' G G' : Nat → Prop}
end Wsm
end Go.Proofs.YtjdiaebgidgmaafGreat
