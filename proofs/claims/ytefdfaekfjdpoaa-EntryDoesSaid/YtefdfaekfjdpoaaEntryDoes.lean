/-
  EntryDoes is true for every argument: each function of package entry answers as the document's own answer does.
-/
import Derived.Test.YtefdfaekfjdpoaaFrameE
import Derived.Test.YtefdfaekfjdpoaaEntryBegun
import Derived.Test.YtefdfaekfjdpoaaEntryRefC
import Derived.Test.YtefdfaekfjdpoaaEntryB
namespace Go.Proofs.Ytefdfaekfjdpoaa
open Go.ChangeShapes Go.WideShapes Go.ChangeAt Go.RowKit Go.Joins Go.Sort
set_option linter.unusedVariables false

set_option maxHeartbeats 4000000 in
theorem entryDoes_walk (et el : Bool) (er : Int) (eu ed : Bool) (ef : Int) (her : Pg.fits er) (hef : Pg.fits ef) (W : Int) (hW : 0 ≤ W ∧ W < 18446744073709551616) (lv : Int) (hlv : Pg.fits lv) (q : Int) (hq : Pg.fits q) (w : World) :
    Calls Try.prog 7 #[.agg #[.bool et, .bool el, .int .i64 er, .bool eu, .bool ed, .int .i64 ef], .int .u64 W, .int .i64 lv, .int .i64 q] w
      fun e w' => e = .returned (.bool true) ∧ Below w.heap.size w w' := by
  have hv : Pg.decV W lv = (.tuple #[.agg #[.bool (Pg.dGood W lv), .bool (Pg.xL W lv), .int .i64 (Pg.xR W lv), .bool (Pg.xU W lv), .bool (Pg.xD W lv), .int .i64 (Pg.xF W lv)], .int .i64 (Pg.dCode W lv)]) := rfl
  have HV : Hid _ := hv
  have hm : Pg.mapV et el er eu ed ef lv q = .agg #[.int .i64 (Pg.lPage et el er eu ed ef lv q), .int .i64 (Pg.lSize et el er eu ed ef lv q), .int .i64 (Pg.lFrame et el er eu ed ef lv q), .int .i64 (Pg.lRights et el er eu ed ef lv q)] := rfl
  clear hv
  go_enter Try.func7, Try.ntmps7
  go_wp2_with fail
  refine (entryBegun_any _).mono ?_
  rintro e w1 ⟨rfl, hb1⟩
  have hB := bthen (balloc (brefl _) _) hb1
  have ce := later6 (v0 := .bool et) (v1 := .bool el) (v2 := .int .i64 er) (v3 := .bool eu) (v4 := .bool ed) (v5 := .int .i64 ef) (b := w.heap.size) hb1 (by simp [go_sem])
  clear hb1
  go_wp2_with fail
  refine (encode_any _ _ _ _ _ _ _ _).mono ?_
  rintro e w2 ⟨rfl, hb2⟩
  replace hB := bthen hB hb2
  replace ce := later6 hb2 ce
  clear hb2
  go_wp2_with fail
  refine (wordOf_any _ _ _ _ _ _ _ _).mono ?_
  rintro e w3 ⟨rfl, hb3⟩
  replace hB := bthen hB hb3
  replace ce := later6 hb3 ce
  clear hb3
  go_wp2_with fail
  refine (decode_any _ _ hW.1 hW.2 _).mono ?_
  rintro e w4 ⟨rfl, hb4⟩
  rw [HV.out]
  replace hB := bthen hB hb4
  replace ce := later6 hb4 ce
  clear hb4
  go_wp2_with fail
  refine (entryOf_any _ _ hW.1 hW.2 _).mono ?_
  rintro e w5 ⟨rfl, hb5⟩
  rw [HV.out]
  have cx := later6 (v0 := .bool (Pg.dGood W lv)) (v1 := .bool (Pg.xL W lv)) (v2 := .int .i64 (Pg.xR W lv)) (v3 := .bool (Pg.xU W lv)) (v4 := .bool (Pg.xD W lv)) (v5 := .int .i64 (Pg.xF W lv)) (b := w4.heap.size) hb5 (by simp [go_sem])
  replace hB := bthen (balloc hB _) hb5
  replace ce := later6 hb5 (later6 (balloc (brefl w4) _) ce)
  clear hb5
  generalize w4.heap.size = bx at *
  go_wp2_with fail
  have hb6 := balloc (brefl w5) (Obj.cells #[.bool (Pg.dGood W lv), .bool (Pg.xL W lv), .int .i64 (Pg.xR W lv), .bool (Pg.xU W lv), .bool (Pg.xD W lv), .int .i64 (Pg.xF W lv)] 42)
  have cy : (w5.alloc (Obj.cells #[.bool (Pg.dGood W lv), .bool (Pg.xL W lv), .int .i64 (Pg.xR W lv), .bool (Pg.xU W lv), .bool (Pg.xD W lv), .int .i64 (Pg.xF W lv)] 42)).cell? ⟨w5.heap.size, 0, none⟩ = some (.bool (Pg.dGood W lv)) ∧ (w5.alloc (Obj.cells #[.bool (Pg.dGood W lv), .bool (Pg.xL W lv), .int .i64 (Pg.xR W lv), .bool (Pg.xU W lv), .bool (Pg.xD W lv), .int .i64 (Pg.xF W lv)] 42)).cell? ⟨w5.heap.size, 1, none⟩ = some (.bool (Pg.xL W lv)) ∧ (w5.alloc (Obj.cells #[.bool (Pg.dGood W lv), .bool (Pg.xL W lv), .int .i64 (Pg.xR W lv), .bool (Pg.xU W lv), .bool (Pg.xD W lv), .int .i64 (Pg.xF W lv)] 42)).cell? ⟨w5.heap.size, 2, none⟩ = some (.int .i64 (Pg.xR W lv)) ∧ (w5.alloc (Obj.cells #[.bool (Pg.dGood W lv), .bool (Pg.xL W lv), .int .i64 (Pg.xR W lv), .bool (Pg.xU W lv), .bool (Pg.xD W lv), .int .i64 (Pg.xF W lv)] 42)).cell? ⟨w5.heap.size, 3, none⟩ = some (.bool (Pg.xU W lv)) ∧ (w5.alloc (Obj.cells #[.bool (Pg.dGood W lv), .bool (Pg.xL W lv), .int .i64 (Pg.xR W lv), .bool (Pg.xU W lv), .bool (Pg.xD W lv), .int .i64 (Pg.xF W lv)] 42)).cell? ⟨w5.heap.size, 4, none⟩ = some (.bool (Pg.xD W lv)) ∧ (w5.alloc (Obj.cells #[.bool (Pg.dGood W lv), .bool (Pg.xL W lv), .int .i64 (Pg.xR W lv), .bool (Pg.xU W lv), .bool (Pg.xD W lv), .int .i64 (Pg.xF W lv)] 42)).cell? ⟨w5.heap.size, 5, none⟩ = some (.int .i64 (Pg.xF W lv)) := by simp [go_sem]
  replace hB := balloc hB (Obj.cells #[.bool (Pg.dGood W lv), .bool (Pg.xL W lv), .int .i64 (Pg.xR W lv), .bool (Pg.xU W lv), .bool (Pg.xD W lv), .int .i64 (Pg.xF W lv)] 42)
  replace ce := later6 hb6 ce
  replace cx := later6 hb6 cx
  clear hb6
  generalize w5.heap.size = by' at *
  generalize w5.alloc (Obj.cells #[.bool (Pg.dGood W lv), .bool (Pg.xL W lv), .int .i64 (Pg.xR W lv), .bool (Pg.xU W lv), .bool (Pg.xD W lv), .int .i64 (Pg.xF W lv)] 42) = w6 at *
  have ke := fun d os => later6 (below_regrown w6 d os) ce
  have kx := fun d os => later6 (below_regrown w6 d os) cx
  have ky := fun d os => later6 (below_regrown w6 d os) cy
  refine wp_region_quiet_below (by kernel_rfl) (by kernel_rfl) ?_
  repeat (first
    | go_big_quiet_step ((first
      | (go_at_call 32; exact Calls.regrown_of (eCheck_any _ _ _ _ _ _ _ _))
      | (go_at_call 33; exact Calls.regrown_of (entryFault_any _ _ _ _ _ _ _ _))
      | (go_at_call 34; exact Calls.regrown_of (eMap_any _ _ _ _ _ _ _ _ _))
      | (go_at_call 35; exact Calls.regrown_of (leafMap_any _ _ _ _ _ _ _ _ _)))))
  refine wpQuiet_nil ?_
  intro _ hw'
  obtain ⟨⟨dq, osq⟩, hw''⟩ := hw'
  subst hw''
  go_wp2_with fail
  go_ret
  exact ⟨rfl, bthen hB (below_regrown w6 dq osq)⟩

set_option maxRecDepth 100000 in
theorem entryDoes_lifted (os : Os) (started : os.Started) (H : Type) (enc : TypeId × Value → H) :
    ReturnsInHanded {} Try.checked os 7 .any (Rows.entryDoesSpec.pre6 enc Try.prog Try.f7 Rows.entryDoesRow.domain false) (Rows.entryDoesSpec.post enc Try.prog Try.f7 false true false false) := by
  refine returnsInHanded_of_change (C := Try.checked) own started (by kernel_rfl) Try.func7
    (ChangeSpec.witness6 (enc := enc) (C := Try.checked) false ⟨#[], #[.agg #[.bool false, .bool false, .int .i64 0, .bool false, .bool false, .int .i64 0], .int .u64 0, .int .i64 0, .int .i64 0], []⟩ 8 (by kernel_rfl) (by kernel_rfl) (by kernel_rfl) (by kernel_rfl)) ?_
  intro W base args ds gs before hval0 hW hcnd _
  have hval : ∀ (j : Nat) t v, Try.f7.params[j]? = some t → args[j]? = some v → Value.okWide Try.prog W .any base t v := hval0
  have hW' := hW
  obtain ⟨p, q, hA0, hV, rfl, hfz, hnd⟩ := hW
  have hA : DataW.TrodAll enc Try.prog W 0 (fun _ => true) true Try.f7.params.toList args.toList ds p := hA0
  rw [Try.params7] at hA hval
  obtain ⟨v0, vs0, d0, ds0, p0, q0, hargs, rfl, rfl, h0, r0⟩ := trodAll_cons hA
  obtain ⟨v1, vs1, d1, ds1, p1, q1, rfl, rfl, rfl, h1, r1⟩ := trodAll_cons r0
  obtain ⟨v2, vs2, d2, ds2, p2, q2, rfl, rfl, rfl, h2, r2⟩ := trodAll_cons r1
  obtain ⟨v3, vs3, d3, ds3, p3, q3, rfl, rfl, rfl, h3, r3⟩ := trodAll_cons r2
  obtain ⟨rfl, rfl, rfl⟩ := trodAll_nil r3
  obtain rfl : args = #[v0, v1, v2, v3] := by cases args; simp_all
  obtain ⟨rfl, rfl⟩ := trodVars_none hV
  obtain ⟨a0a, a0b, a0c, a0d, a0e, a0f, rfl, f0a, f0b⟩ := openEntry (hval 0 42 v0 rfl rfl) h0
  obtain ⟨a1a, rfl, f1a⟩ := openU64 (hval 1 43 v1 rfl rfl) h1
  obtain ⟨a2a, rfl, f2a⟩ := openInt (hval 2 3 v2 rfl rfl) h2
  obtain ⟨a3a, rfl, f3a⟩ := openInt (hval 3 3 v3 rfl rfl) h3
  clear hA0 hval0
  refine (entryDoes_walk a0a a0b a0c a0d a0e a0f f0a f0b a1a f1a a2a f2a a3a f3a W).mono fun e W' ⟨he, bel⟩ => ?_
  subst he
  exact ⟨_, rfl, _, _, _, [], _, [], hW', trodAll_mk1 (shut_bool Try.underlying4 _), (trodAll_cons_mk (stays (by kernel_rfl) (of_decide_eq_true (by kernel_rfl)) h0 bel) (trodAll_cons_mk (stays (by kernel_rfl) (of_decide_eq_true (by kernel_rfl)) h1 bel) (trodAll_cons_mk (stays (by kernel_rfl) (of_decide_eq_true (by kernel_rfl)) h2 bel) (trodAll_cons_mk (stays (by kernel_rfl) (of_decide_eq_true (by kernel_rfl)) h3 bel) trodAll_mk0)))), rfl, bel.frame _, fun h => by cases h⟩

theorem entryDoes_over : Rows.entryDoesRow.holds Try.pinned (OpenSpec.ofChange Rows.entryDoesSpec) :=
  OpenClaim.holds_of_wide 7 Try.f7 rfl rfl rfl rfl rfl rfl rfl ⟨rfl, rfl, rfl, rfl, rfl⟩ rfl rfl rfl rfl rfl (by kernel_rfl) Try.func7 (by kernel_rfl)
    (of_decide_eq_true (by kernel_rfl)) (by unfold Func.isWrapper; first | (rw [if_pos (by decide +kernel)]; kernel_rfl) | (rw [if_neg (by decide +kernel)]; exact ⟨rfl, rfl⟩))
    (fun os started H enc _ => entryDoes_lifted os started H enc)

theorem entryDoes_proved : Rows.EntryDoesSaid := entryDoes_over
#print axioms entryDoes_proved
end Go.Proofs.Ytefdfaekfjdpoaa
