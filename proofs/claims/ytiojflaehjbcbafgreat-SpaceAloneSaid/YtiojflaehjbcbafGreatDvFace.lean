/-
  The developers' space has a space's face.
-/
import Derived.Test.YtiojflaehjbcbafGreatPlainSH
import Derived.Test.YtiojflaehjbcbafGreatSpVal
import Derived.Deep.DeepCutAuto
import Derived.Deep.RegionHeld3
import Derived.Test.YtiojflaehjbcbafGreatMapInfo
import Derived.Test.YtiojflaehjbcbafGreatLineRow
import Derived.Test.YtiojflaehjbcbafGreatDvK
namespace Go.Proofs.YtiojflaehjbcbafGreat
open Go.RowKit Go.Sort
set_option linter.unusedVariables false
set_option linter.unusedSimpArgs false
set_option maxRecDepth 100000

/-- The developers' spaces: 'P w b X F': the space X lies at the block b, in the blocks F. -/
structure SpFace (P : World → Nat → Pg.Spc → (Nat → Prop) → Prop) : Prop where
  lt : ∀ {w b X F k}, P w b X F → F k → k < w.heap.size
  keep : ∀ {w w' : World} {b X F} {G : Nat → Prop}, P w b X F → But G w w' → (∀ k, F k → ¬ G k) → P w' b X F
  bad : ∀ (co n : Int) (w : World), co < 1 ∨ 4 < co ∨ n < 1 ∨ 128 < n →
    Calls Tryz.prog 7 #[.int .i64 co, .int .i64 n] w fun e w' => e = .returned (.tuple #[.pointer none, .agg #[.int .i64 1, .int .i64 (-1)]]) ∧ Below w.heap.size w w'
  new : ∀ (co n : Nat) (w : World), 1 ≤ co → co ≤ 4 → 1 ≤ n → n ≤ 128 →
    Calls Tryz.prog 7 #[.int .i64 (co : Int), .int .i64 (n : Int)] w fun e w' => ∃ b F, e = .returned (.tuple #[.pointer (some ⟨b, 0, none⟩), .agg #[.int .i64 0, .int .i64 0]]) ∧ P w' b (Pg.Spc.new co n) F ∧ Below w.heap.size w w' ∧ ∀ k, F k → w.heap.size ≤ k
  step : ∀ (x : Pg.Sx) (w : World) {b X F L L0}, SxFits x → Pg.Inv X L L0 → P w b X F →
    Calls Tryz.prog 8 #[.pointer (some ⟨b, 0, none⟩), x.val] w fun e w' => e = .returned (X.goE x).val ∧ ∃ F', P w' b (X.goN x) F' ∧ But F w w' ∧ ∀ k, F' k → F k ∨ w.heap.size ≤ k
  list : ∀ (w : World) {b X F L L0}, Pg.Inv X L L0 → P w b X F →
    Calls Tryz.prog 11 #[.pointer (some ⟨b, 0, none⟩)] w fun e w' => ∃ ad cap, e = .returned (.slice ad X.maps.length cap) ∧ MapsAt w' ad X.maps ∧ Below w.heap.size w w' ∧ ∀ g, ad = some ⟨g, 0, none⟩ → w.heap.size ≤ g
  tables : ∀ (w : World) {b X F L L0}, Pg.Inv X L L0 → P w b X F →
    Calls Tryz.prog 14 #[.pointer (some ⟨b, 0, none⟩)] w fun e w' => ∃ ad cap, e = .returned (.slice ad X.tabs.length cap) ∧ IntsAt w' ad X.tabs ∧ X.tabs.length ≤ cap ∧ Below w.heap.size w w'
  free : ∀ (w : World) {b X F}, P w b X F → Calls Tryz.prog 12 #[.pointer (some ⟨b, 0, none⟩)] w fun e w' => e = .returned (.int .i64 X.S.free) ∧ Below w.heap.size w w'
  busy : ∀ (w : World) {b X F}, P w b X F → Calls Tryz.prog 13 #[.pointer (some ⟨b, 0, none⟩)] w fun e w' => e = .returned (.bool X.busy) ∧ Below w.heap.size w w'

section
variable {P : World → Nat → Pg.Spc → (Nat → Prop) → Prop}
theorem SpFace.grow (H : SpFace P) {w w' : World} {b X F} (h : P w b X F) (hb : Below w.heap.size w w') : P w' b X F := H.keep (G := fun _ => False) h (But.of_below hb) (fun _ _ => id)
/-- A space that was made behind the world w0. -/
structure Spd (P : World → Nat → Pg.Spc → (Nat → Prop) → Prop) (w0 w : World) (b : Nat) (X : Pg.Spc) (F : Nat → Prop) : Prop where
  at' : P w b X F
  bel : Below w0.heap.size w0 w
  hi : ∀ k, F k → w0.heap.size ≤ k
theorem Spd.grow (H : SpFace P) {w0 w w' : World} {b X F} (h : Spd P w0 w b X F) (hb : Below w.heap.size w w') : Spd P w0 w' b X F := ⟨H.grow h.at' hb, bthen h.bel hb, h.hi⟩
theorem Spd.step {w0 w w' : World} {b X X' F F'} (h : Spd P w0 w b X F) (h' : P w' b X' F') (hb : But F w w') (hF : ∀ k, F' k → F k ∨ w.heap.size ≤ k) : Spd P w0 w' b X' F' :=
  ⟨h', h.bel.trans (hb.below h.bel.size h.hi), fun k hk => (hF k hk).elim (h.hi k) (fun h1 => Nat.le_trans h.bel.size h1)⟩
set_option maxHeartbeats 2000000 in
theorem spaceBegun_any (H : SpFace P) (w : World) : Calls Tryz.prog 5 #[] w fun e w' => e = .returned (.bool true) ∧ Below w.heap.size w w' := by
  have HN := H.new 1 4 w (by decide) (by decide) (by decide) (by decide)
  simp only [show ((1 : Nat) : Int) = 1 from rfl, show ((4 : Nat) : Int) = 4 from rfl] at HN
  have hfd : ∀ w : World, (Instr.field 39 (.agg #[.int .i64 0, .bool false, .int .i64 0, .int .i64 0, .int .i64 0, .bool true]) 3).run Tryz.prog w = .ok (.bool true) w := fun _ => by kernel_rfl
  go_enter Tryz.func5, Tryz.ntmps5
  go_wp2_with fail
  refine HN.mono ?_
  rintro e w1 ⟨b, F, rfl, h1, hb1, hF1⟩
  have I1 := Pg.inv_new (cores := 1) (n := 4) (by decide) (by decide) (by decide)
  have I2 := Pg.inv_step I1 Pg.bg1
  have I3 := Pg.inv_step I2 Pg.bg2
  have I4 := Pg.inv_step I3 Pg.bg3
  have f0 : Pg.fits 0 := by unfold Pg.fits; omega
  have f1 : Pg.fits 1 := by unfold Pg.fits; omega
  have f5 : Pg.fits 5 := by unfold Pg.fits; omega
  have f9 : Pg.fits 9 := by unfold Pg.fits; omega
  have q1 := fun w' (h : P w' b (Pg.Spc.new 1 4) F) => H.free w' h
  have q2 := fun w' (h : P w' b (Pg.Spc.new 1 4) F) => H.step Pg.bg1 w' ⟨f5, f0, f9, f1, f0, f0⟩ I1 h
  have q3 := fun w' F' (h : P w' b ((Pg.Spc.new 1 4).goN Pg.bg1) F') => H.free w' h
  have q4 := fun w' F' (h : P w' b ((Pg.Spc.new 1 4).goN Pg.bg1) F') => H.step Pg.bg2 w' ⟨f5, f0, f0, f0, f0, f0⟩ I2 h
  have q5 := fun w' F' (h : P w' b (((Pg.Spc.new 1 4).goN Pg.bg1).goN Pg.bg2) F') => H.step Pg.bg3 w' ⟨f0, f0, f0, f0, f0, f0⟩ I3 h
  have q6 := fun w' F' (h : P w' b ((((Pg.Spc.new 1 4).goN Pg.bg1).goN Pg.bg2).goN Pg.bg3) F') => H.free w' h
  have q7 := fun w' F' (h : P w' b ((((Pg.Spc.new 1 4).goN Pg.bg1).goN Pg.bg2).goN Pg.bg3) F') => H.list w' I4 h
  rw [show (Pg.Spc.new 1 4).S.free = 3 from Pg.bg_free] at q1
  rw [show (Pg.Spc.new 1 4).goE Pg.bg1 = _ from Pg.bg_map] at q2
  rw [show ((Pg.Spc.new 1 4).goN Pg.bg1).S.free = 0 from Pg.bg_none] at q3
  rw [show ((Pg.Spc.new 1 4).goN Pg.bg1).goE Pg.bg2 = _ from Pg.bg_un] at q4
  rw [show (((Pg.Spc.new 1 4).goN Pg.bg1).goN Pg.bg2).goE Pg.bg3 = _ from Pg.bg_ack] at q5
  rw [show ((((Pg.Spc.new 1 4).goN Pg.bg1).goN Pg.bg2).goN Pg.bg3).S.free = 3 from Pg.bg_back] at q6
  rw [show ((((Pg.Spc.new 1 4).goN Pg.bg1).goN Pg.bg2).goN Pg.bg3).maps = [] from Pg.bg_maps] at q7
  generalize (((Pg.Spc.new 1 4).goN Pg.bg1).goN Pg.bg2).goN Pg.bg3 = X4 at *
  generalize ((Pg.Spc.new 1 4).goN Pg.bg1).goN Pg.bg2 = X3 at *
  generalize (Pg.Spc.new 1 4).goN Pg.bg1 = X2 at *
  generalize Pg.Spc.new 1 4 = X1 at *
  simp only [Pg.Sx.val, Pg.bg1, Pg.bg2, Pg.bg3, Pg.Ev.val, Pg.Ev.code, List.length_nil] at q2 q4 q5 q7
  clear I1 I2 I3 I4 f0 f1 f5 f9 HN
  have S1 : Hid (Spd P w w1 b X1 F) := ⟨h1, hb1, hF1⟩
  clear h1 hb1 hF1
  obtain ⟨W2, hW2⟩ : ∃ W2, W2 = w1.alloc (.cells #[.int .i64 0, .int .i64 0] 27) := ⟨_, rfl⟩
  have hb2 : Below w1.heap.size w1 W2 := by rw [hW2]; exact balloc (brefl _) _
  have S2 : Hid _ := S1.out.grow H hb2
  have y0 : W2.cell? ⟨w1.heap.size, 0, none⟩ = some (.int .i64 0) := by rw [hW2]; simp [go_sem]
  go_upto_region 2 with fail
  rw [← hW2]
  clear hW2 S1
  go_wp2_with fail
  refine (q1 _ S2.out.at').mono ?_
  rintro e w3 ⟨rfl, hb3⟩
  have S3 : Hid _ := S2.out.grow H hb3
  clear hb3 S2 q1
  go_wp2_with fail
  refine (q2 _ S3.out.at').mono ?_
  rintro e w4 ⟨rfl, F4, h4, hb4, hF4⟩
  have S4 : Hid _ := S3.out.step h4 hb4 hF4
  clear h4 hb4 hF4 S3 q2
  go_wp2_with fail
  refine (q3 _ _ S4.out.at').mono ?_
  rintro e w5 ⟨rfl, hb5⟩
  have S5 : Hid _ := S4.out.grow H hb5
  clear hb5 S4 q3
  go_wp2_with fail
  refine (q4 _ _ S5.out.at').mono ?_
  rintro e w6 ⟨rfl, F6, h6, hb6, hF6⟩
  have S6 : Hid _ := S5.out.step h6 hb6 hF6
  clear h6 hb6 hF6 S5 q4
  obtain ⟨W7, hW7⟩ : ∃ W7, W7 = w6.alloc (.cells #[.int .i64 0, .bool false, .int .i64 0, .int .i64 0, .int .i64 0, .bool false] 39) := ⟨_, rfl⟩
  have hb7 : Below w6.heap.size w6 W7 := by rw [hW7]; exact balloc (brefl _) _
  have S7 : Hid _ := S6.out.grow H hb7
  have E7 : Hid (W7.heap[w6.heap.size]? = some (.cells #[.int .i64 0, .bool false, .int .i64 0, .int .i64 0, .int .i64 0, .bool false] 39 (0, 0))) := by rw [Hid, hW7]; exact heap_alloc_new _ _
  have hs7 : w6.heap.size < W7.heap.size := by rw [hW7]; simp
  have N7 : Hid (¬ F6 w6.heap.size) := fun e => by have := H.lt S6.out.at' e; omega
  go_upto_region 5 with fail
  rw [← hW7]
  clear hW7 S6
  go_wp2_with fail
  refine (q5 _ _ S7.out.at').mono ?_
  rintro e w8 ⟨rfl, F8, h8, hb8, hF8⟩
  have S8 : Hid _ := S7.out.step h8 hb8 hF8
  have E8 : Hid (w8.heap[w6.heap.size]? = _) := (hb8.block _ hs7 N7.out).trans E7.out
  have hs8 : w6.heap.size < w8.heap.size := Nat.lt_of_lt_of_le hs7 hb8.size
  clear h8 hb8 hF8 S7 q5 E7 N7
  obtain ⟨W9, hW9⟩ : ∃ W9, W9 = w8.alloc (.cells #[.int .i64 0, .bool false, .int .i64 0, .int .i64 0, .int .i64 0, .bool true] 39) := ⟨_, rfl⟩
  have hb9 : Below w8.heap.size w8 W9 := by rw [hW9]; exact balloc (brefl _) _
  have S9 : Hid _ := S8.out.grow H hb9
  obtain ⟨⟨z0, z1, z2, z3, z4, z5⟩, zf⟩ := row6a ((hb9.block _ hs8).trans E8.out)
  have d5 : W9.cell? ⟨w8.heap.size, 5, none⟩ = some (.bool true) := by rw [hW9]; simp [go_sem]
  go_upto_region 6 with fail
  rw [← hW9]
  clear hW9 S8 hb9 E8
  go_wp2_with fail
  refine (q6 _ _ S9.out.at').mono ?_
  rintro e w10 ⟨rfl, hb10⟩
  have S10 : Hid _ := S9.out.grow H hb10
  clear hb10 S9 q6
  go_wp2_with fail
  refine (q7 _ _ S10.out.at').mono ?_
  rintro e w11 ⟨ad, cap, rfl, _, hb11, _⟩
  have HB : Hid _ := (S10.out.grow H hb11).bel
  clear hb11 S10 q7
  go_wp2_with fail
  go_ret
  exact ⟨rfl, HB.out⟩
end
end Go.Proofs.YtiojflaehjbcbafGreat

namespace Go.Proofs.YtiojflaehjbcbafGreat
open Go.RowKit Go.Sort
set_option linter.unusedVariables false
set_option maxRecDepth 100000

theorem devFace : SpFace DvAt where
  lt := fun h hk => h.lt hk
  keep := fun h hb hF => h.keep hb hF
  bad := fun co n w hb => dvNew_bad co n w hb
  new := fun co n w h1 h2 h3 h4 => dvNew_any co n w h1 h2 h3 h4
  step := fun x w _ _ _ _ _ _ _ h => dvDo_any x w h
  list := fun w _ _ _ _ _ _ h => by
    obtain ⟨D, h, rfl⟩ := h
    exact dvList_any w h
  tables := fun w _ _ _ _ _ _ h => by
    obtain ⟨D, h, rfl⟩ := h
    exact dvTables_any w h
  free := fun w _ _ _ h => by
    obtain ⟨D, h, rfl⟩ := h
    exact dvFree_any w h
  busy := fun w _ _ _ h => by
    obtain ⟨D, h, rfl⟩ := h
    refine (dvBusy_any w h).mono ?_
    rintro e w' ⟨rfl, rfl⟩
    exact ⟨rfl, brefl _⟩
end Go.Proofs.YtiojflaehjbcbafGreat
