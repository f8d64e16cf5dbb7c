/-
  EntryBack is true for every argument: what was encoded is decoded as it was; what is decoded is encoded as that very word; nothing is the word 0.
-/
import Derived.Test.YtefdfaekfjdpoaaFrameE
import Derived.Test.YtefdfaekfjdpoaaEntryBegun
namespace Go.Proofs.Ytefdfaekfjdpoaa
open Go.ChangeShapes Go.WideShapes Go.ChangeAt Go.RowKit Go.Joins Go.Sort
set_option linter.unusedVariables false

set_option maxHeartbeats 4000000 in
theorem entryBack_walk (et el : Bool) (er : Int) (eu ed : Bool) (ef : Int) (her : Pg.fits er) (hef : Pg.fits ef) (W : Int) (hW : 0 ≤ W ∧ W < 18446744073709551616) (lv : Int) (hlv : Pg.fits lv) (w : World) :
    Calls Try.prog 8 #[.agg #[.bool et, .bool el, .int .i64 er, .bool eu, .bool ed, .int .i64 ef], .int .u64 W, .int .i64 lv] w
      fun e w' => e = .returned (.bool true) ∧ Below w.heap.size w w' := by
  have hv : Pg.decV W lv = (.tuple #[.agg #[.bool (Pg.dGood W lv), .bool (Pg.xL W lv), .int .i64 (Pg.xR W lv), .bool (Pg.xU W lv), .bool (Pg.xD W lv), .int .i64 (Pg.xF W lv)], .int .i64 (Pg.dCode W lv)]) := rfl
  have HV : Hid _ := hv
  clear hv
  go_enter Try.func8, Try.ntmps8
  go_wp2_with fail
  refine (entryBegun_any _).mono ?_
  rintro e w1 ⟨rfl, hb1⟩
  have hB := bthen (balloc (brefl _) _) hb1
  have ce := later6 (v0 := .bool et) (v1 := .bool el) (v2 := .int .i64 er) (v3 := .bool eu) (v4 := .bool ed) (v5 := .int .i64 ef) (b := w.heap.size) hb1 (by simp [go_sem])
  clear hb1
  go_wp2_with fail
  refine (encode_any _ _ _ _ _ _ _ _).mono ?_
  rintro e w2 ⟨rfl, hb2⟩
  replace hB := bthen hB hb2
  replace ce := later6 hb2 ce
  clear hb2
  by_cases hc : Pg.eFault et el er eu ed ef lv = 0
  · obtain ⟨p0, p1, p2, p3, p4, p5, p6, p7, p8, p9⟩ := Pg.dec_enc hc
    have hc0 : (Pg.eFault et el er eu ed ef lv == 0) = true := by simp [hc]
    have HX : Hid (Pg.decV (Pg.enc et el er eu ed ef lv) lv = .tuple #[.agg #[.bool et, .bool el, .int .i64 er, .bool eu, .bool ed, .int .i64 ef], .int .i64 0]) := by
      simp only [Hid, Pg.decV, p2, p4, p5, p6, p7, p8, p9]
    have hz : (Pg.enc et el er eu ed ef lv == 0) = !et := by
      cases et
      · have := p3.2 rfl; simp [this]
      · have : Pg.enc true el er eu ed ef lv ≠ 0 := fun h => by have := p3.1 h; cases this
        simp [this]
    clear p2 p3 p4 p5 p6 p7 p8 p9 hc
    go_wp2_with fail
    refine (decode_any _ _ p0 p1 _).mono ?_
    rintro e w3 ⟨rfl, hb3⟩
    rw [HX.out]
    have hs3 := World.block_lt_of_cell? _ _ (cell_later hb3 ce.1)
    have hn3 : ¬ w.heap.size = w3.heap.size := by have : w.heap.size < w3.heap.size := hs3; omega
    replace hB := bthen hB hb3
    replace ce := later6 hb3 ce
    clear hb3 hs3 p0 p1
    have cx : ∀ X : Obj, (w3.alloc X).cell? ⟨w.heap.size, 0, none⟩ = some (.bool et) ∧ (w3.alloc X).cell? ⟨w.heap.size, 1, none⟩ = some (.bool el) ∧ (w3.alloc X).cell? ⟨w.heap.size, 2, none⟩ = some (.int .i64 er) ∧ (w3.alloc X).cell? ⟨w.heap.size, 3, none⟩ = some (.bool eu) ∧ (w3.alloc X).cell? ⟨w.heap.size, 4, none⟩ = some (.bool ed) ∧ (w3.alloc X).cell? ⟨w.heap.size, 5, none⟩ = some (.int .i64 ef) := fun X => later6 (balloc (brefl w3) X) ce
    replace hB := fun X : Obj => balloc hB X
    go_wp2_with fail
    refine (decode_any _ _ hW.1 hW.2 _).mono ?_
    rintro e w4 ⟨rfl, hb4⟩
    rw [HV.out]
    replace hB := bthen (hB _) hb4
    clear hb4
    by_cases hk : Pg.dCode W lv = 0
    · obtain ⟨g1, g2⟩ := Pg.enc_dec hW.1 hk
      have G1 : Hid _ := g1
      have hk0 : (Pg.dCode W lv != 0) = false := by simp [hk]
      clear hk g1
      go_wp2_with fail
      refine (encode_any _ _ _ _ _ _ _ _).mono ?_
      rintro e w5 ⟨rfl, hb5⟩
      rw [G1.out]
      replace hB := bthen (balloc hB _) hb5
      clear hb5
      go_wp2_with fail
      go_ret
      exact ⟨rfl, hB⟩
    · have hk0 : (Pg.dCode W lv != 0) = true := by simp [hk]
      have hg : Pg.dGood W lv = false := by simp [Pg.dGood, hk]
      have z1 : Pg.xL W lv = false := by simp [Pg.xL, hg]
      have z2 : Pg.xR W lv = 0 := by simp [Pg.xR, hg]
      have z3 : Pg.xU W lv = false := by simp [Pg.xU, hg]
      have z4 : Pg.xD W lv = false := by simp [Pg.xD, hg]
      have z5 : Pg.xF W lv = 0 := by simp [Pg.xF, hg]
      clear hk
      go_wp2_with fail
      go_ret
      exact ⟨rfl, balloc hB _⟩
  · have hc0 : (Pg.eFault et el er eu ed ef lv == 0) = false := by simp [hc]
    clear hc
    go_wp2_with fail
    refine (decode_any _ _ hW.1 hW.2 _).mono ?_
    rintro e w4 ⟨rfl, hb4⟩
    rw [HV.out]
    replace hB := bthen hB hb4
    clear hb4
    by_cases hk : Pg.dCode W lv = 0
    · obtain ⟨g1, g2⟩ := Pg.enc_dec hW.1 hk
      have G1 : Hid _ := g1
      have hk0 : (Pg.dCode W lv != 0) = false := by simp [hk]
      clear hk g1
      go_wp2_with fail
      refine (encode_any _ _ _ _ _ _ _ _).mono ?_
      rintro e w5 ⟨rfl, hb5⟩
      rw [G1.out]
      replace hB := bthen (balloc hB _) hb5
      clear hb5
      go_wp2_with fail
      go_ret
      exact ⟨rfl, hB⟩
    · have hk0 : (Pg.dCode W lv != 0) = true := by simp [hk]
      have hg : Pg.dGood W lv = false := by simp [Pg.dGood, hk]
      have z1 : Pg.xL W lv = false := by simp [Pg.xL, hg]
      have z2 : Pg.xR W lv = 0 := by simp [Pg.xR, hg]
      have z3 : Pg.xU W lv = false := by simp [Pg.xU, hg]
      have z4 : Pg.xD W lv = false := by simp [Pg.xD, hg]
      have z5 : Pg.xF W lv = 0 := by simp [Pg.xF, hg]
      clear hk
      go_wp2_with fail
      go_ret
      exact ⟨rfl, balloc hB _⟩

set_option maxRecDepth 100000 in
theorem entryBack_lifted (os : Os) (started : os.Started) (H : Type) (enc : TypeId × Value → H) :
    ReturnsInHanded {} Try.checked os 8 .any (Rows.entryBackSpec.pre6 enc Try.prog Try.f8 Rows.entryBackRow.domain false) (Rows.entryBackSpec.post enc Try.prog Try.f8 false true false false) := by
  refine returnsInHanded_of_change (C := Try.checked) own started (by kernel_rfl) Try.func8
    (ChangeSpec.witness6 (enc := enc) (C := Try.checked) false ⟨#[], #[.agg #[.bool false, .bool false, .int .i64 0, .bool false, .bool false, .int .i64 0], .int .u64 0, .int .i64 0], []⟩ 8 (by kernel_rfl) (by kernel_rfl) (by kernel_rfl) (by kernel_rfl)) ?_
  intro W base args ds gs before hval0 hW hcnd _
  have hval : ∀ (j : Nat) t v, Try.f8.params[j]? = some t → args[j]? = some v → Value.okWide Try.prog W .any base t v := hval0
  have hW' := hW
  obtain ⟨p, q, hA0, hV, rfl, hfz, hnd⟩ := hW
  have hA : DataW.TrodAll enc Try.prog W 0 (fun _ => true) true Try.f8.params.toList args.toList ds p := hA0
  rw [Try.params8] at hA hval
  obtain ⟨v0, vs0, d0, ds0, p0, q0, hargs, rfl, rfl, h0, r0⟩ := trodAll_cons hA
  obtain ⟨v1, vs1, d1, ds1, p1, q1, rfl, rfl, rfl, h1, r1⟩ := trodAll_cons r0
  obtain ⟨v2, vs2, d2, ds2, p2, q2, rfl, rfl, rfl, h2, r2⟩ := trodAll_cons r1
  obtain ⟨rfl, rfl, rfl⟩ := trodAll_nil r2
  obtain rfl : args = #[v0, v1, v2] := by cases args; simp_all
  obtain ⟨rfl, rfl⟩ := trodVars_none hV
  obtain ⟨a0a, a0b, a0c, a0d, a0e, a0f, rfl, f0a, f0b⟩ := openEntry (hval 0 42 v0 rfl rfl) h0
  obtain ⟨a1a, rfl, f1a⟩ := openU64 (hval 1 43 v1 rfl rfl) h1
  obtain ⟨a2a, rfl, f2a⟩ := openInt (hval 2 3 v2 rfl rfl) h2
  clear hA0 hval0
  refine (entryBack_walk a0a a0b a0c a0d a0e a0f f0a f0b a1a f1a a2a f2a W).mono fun e W' ⟨he, bel⟩ => ?_
  subst he
  exact ⟨_, rfl, _, _, _, [], _, [], hW', trodAll_mk1 (shut_bool Try.underlying4 _), (trodAll_cons_mk (stays (by kernel_rfl) (of_decide_eq_true (by kernel_rfl)) h0 bel) (trodAll_cons_mk (stays (by kernel_rfl) (of_decide_eq_true (by kernel_rfl)) h1 bel) (trodAll_cons_mk (stays (by kernel_rfl) (of_decide_eq_true (by kernel_rfl)) h2 bel) trodAll_mk0))), rfl, bel.frame _, fun h => by cases h⟩

theorem entryBack_over : Rows.entryBackRow.holds Try.pinned (OpenSpec.ofChange Rows.entryBackSpec) :=
  OpenClaim.holds_of_wide 8 Try.f8 rfl rfl rfl rfl rfl rfl rfl ⟨rfl, rfl, rfl, rfl, rfl⟩ rfl rfl rfl rfl rfl (by kernel_rfl) Try.func8 (by kernel_rfl)
    (of_decide_eq_true (by kernel_rfl)) (by unfold Func.isWrapper; first | (rw [if_pos (by decide +kernel)]; kernel_rfl) | (rw [if_neg (by decide +kernel)]; exact ⟨rfl, rfl⟩))
    (fun os started H enc _ => entryBack_lifted os started H enc)

theorem entryBack_proved : Rows.EntryBackSaid := entryBack_over
#print axioms entryBack_proved
end Go.Proofs.Ytefdfaekfjdpoaa
