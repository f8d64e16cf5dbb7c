
/-
  TlbDoes is true for every argument: each function of package tlb answers as the document's own kept lines do.
-/
import Derived.Test.YtkcmlmofcjdgoadTlbKept
import Derived.Test.YtkcmlmofcjdgoadSkip
import Derived.Deep.RegionHeld3
import Derived.Deep.DeepCutAuto
namespace Go.Proofs.Ytkcmlmofcjdgoad
open Go.ChangeShapes Go.WideShapes Go.ChangeAt Go.RowKit Go.Joins Go.Sort
set_option maxRecDepth 100000
set_option linter.unusedVariables false

/-- A core of the document's that keeps nothing. -/
theorem coboxed (w : World) : CoAt (w.alloc (.cells #[.slice none 0 0, .bool false, .int .i64 0, .int .i64 0, .bool false, .int .i64 0, .int .i64 0, .bool false, .int .u64 0] 32)) w.heap.size (.slice none 0 0) [] := by
  have hb := heap_alloc_new w (.cells #[.slice none 0 0, .bool false, .int .i64 0, .int .i64 0, .bool false, .int .i64 0, .int .i64 0, .bool false, .int .u64 0] 32)
  refine ⟨cell_of_row _ _ 0 _ _ _ hb, fun o => by unfold World.frozen?; simp only [hb]; simp, OwnsAt.nil _ _ _, fun e => by simp [Value.ownBlock] at e, Pg.Kept.nil⟩

theorem eleven_later {w w' : World} (hb : Below w.heap.size w w') {a0 a1 a2 a3 a4 a5 a6 a7 a8 a9 aa : Addr} {x0 x1 x2 x3 x4 x5 x6 x7 x8 x9 xa : Value} (h : w.cell? a0 = some x0 ∧ w.cell? a1 = some x1 ∧ w.cell? a2 = some x2 ∧ w.cell? a3 = some x3 ∧ w.cell? a4 = some x4 ∧ w.cell? a5 = some x5 ∧ w.cell? a6 = some x6 ∧ w.cell? a7 = some x7 ∧ w.cell? a8 = some x8 ∧ w.cell? a9 = some x9 ∧ w.cell? aa = some xa) : w'.cell? a0 = some x0 ∧ w'.cell? a1 = some x1 ∧ w'.cell? a2 = some x2 ∧ w'.cell? a3 = some x3 ∧ w'.cell? a4 = some x4 ∧ w'.cell? a5 = some x5 ∧ w'.cell? a6 = some x6 ∧ w'.cell? a7 = some x7 ∧ w'.cell? a8 = some x8 ∧ w'.cell? a9 = some x9 ∧ w'.cell? aa = some xa :=
  ⟨cell_later hb h.1, cell_later hb h.2.1, cell_later hb h.2.2.1, cell_later hb h.2.2.2.1, cell_later hb h.2.2.2.2.1, cell_later hb h.2.2.2.2.2.1, cell_later hb h.2.2.2.2.2.2.1, cell_later hb h.2.2.2.2.2.2.2.1, cell_later hb h.2.2.2.2.2.2.2.2.1, cell_later hb h.2.2.2.2.2.2.2.2.2.1, cell_later hb h.2.2.2.2.2.2.2.2.2.2⟩

set_option maxRecDepth 100000 in
set_option maxHeartbeats 40000000 in
theorem tlbDoes_walk (w : World) (ad : Option Addr) (len cap : Nat) (q : Nat → Lst)
    (hq : ∀ j, j < len → (∃ b o, ad = some ⟨b, o, none⟩ ∧ b < w.heap.size ∧ LstAt w b (o + j * 6) (q j)) ∧ LstFits (q j)) :
    Calls Try.prog 3 #[.slice ad len cap] w fun e w' => e = .returned (.bool true) ∧ Below w.heap.size w w' := by
  have HQ : Hid _ := hq
  clear hq
  by_cases hl : 300 < len
  · have hl' : (300 : Int) < (len : Int) := by omega
    go_enter Try.func3, Try.ntmps3
    go_wp2_with fail
    refine (tlbBegun_any _).mono ?_
    rintro e w1 ⟨rfl, hb1⟩
    go_wp2_with fail
    go_ret
    exact ⟨rfl, hb1⟩
  · have hl' : decide ((300 : Int) < (len : Int)) = false := by simp; omega
    go_enter Try.func3, Try.ntmps3
    go_wp2_with fail
    refine (tlbBegun_any _).mono ?_
    rintro e w1 ⟨rfl, hb1⟩
    go_wp2_with fail
    refine (tbNew_any _).mono ?_
    rintro e w2 ⟨b, F, rfl, h2, hb2, hF2⟩
    have k2 : Hid (Tw w (w2.alloc (.cells #[.slice none 0 0, .bool false, .int .i64 0, .int .i64 0, .bool false, .int .i64 0, .int .i64 0, .bool false, .int .u64 0] 32)) b w2.heap.size [] [] F (.slice none 0 0)) := by
      have hB := bthen hb1 hb2
      refine ⟨Tbd.grow ⟨h2, hB, fun k hk => Nat.le_trans hb1.size (hF2 k hk)⟩ (balloc (brefl _) _), coboxed _, fun k hk => ?_, fun k hk hk' => ?_⟩
      · rcases hk with rfl | hk
        · exact hB.size
        · simp [Value.ownBlock] at hk
      · rcases hk' with rfl | hk'
        · have := h2.lt hk
          omega
        · simp [Value.ownBlock] at hk'
    clear h2 hb1 hb2 hF2
    go_wp2_with fail
    generalize w2.heap.size = rb at *
    go_loopw [5, 6, 7, 8, 9, 10] (fun i _ _ _ _ _ wr => ∃ k : Nat, k ≤ len ∧ i = .int .i64 k ∧ Hid (∃ L F vb, Tw w wr b rb L L F vb)) (fun i _ _ _ _ _ _ => len - (intOf i).toNat)
    case atStart => exact ⟨0, by omega, rfl, ⟨_, _, _, k2.out⟩⟩
    case round =>
      obtain ⟨k, hk, rfl, HR⟩ := hrel
      obtain ⟨L, F, vb, HB⟩ := HR.out
      clear HR k2
      have HB : Hid _ := HB
      by_cases hlt : k < len
      · obtain ⟨⟨xb, xo, rfl, hxl, hx⟩, hfit⟩ := HQ.out k hlt
        have i0 : (0 : Int) ≤ (k : Int) := by omega
        have i1 : (k : Int) < (len : Int) := by omega
        generalize q k = x at *
        obtain ⟨xa, xk, ⟨mp, ms, mf, mr⟩⟩ := x
        obtain ⟨x0, x1, x2, x3, x4, x5⟩ := hx
        have y0 := (HB.out.db.bel.cell (p := ⟨xb, xo + k * 6, none⟩) hxl).trans x0
        have y1 := (HB.out.db.bel.cell (p := ⟨xb, xo + k * 6 + 1, none⟩) hxl).trans x1
        have y2 := (HB.out.db.bel.cell (p := ⟨xb, xo + k * 6 + 2, none⟩) hxl).trans x2
        have y3 := (HB.out.db.bel.cell (p := ⟨xb, xo + k * 6 + 3, none⟩) hxl).trans x3
        have y4 := (HB.out.db.bel.cell (p := ⟨xb, xo + k * 6 + 4, none⟩) hxl).trans x4
        have y5 := (HB.out.db.bel.cell (p := ⟨xb, xo + k * 6 + 5, none⟩) hxl).trans x5
        simp only at y0 y1 y2 y3 y4 y5
        obtain ⟨f0, f1⟩ := hfit
        simp only at f0 f1
        clear x0 x1 x2 x3 x4 x5 HQ
        go_upto_region 10 with fail
        have HP : Hid (Twx w (wr.alloc (.cells #[.int .i64 xa, .int .i64 xk, .int .i64 mp, .int .i64 ms, .int .i64 mf, .int .i64 mr] 36)) b rb wr.heap.size ⟨xa, xk, ⟨mp, ms, mf, mr⟩⟩ L L F vb) := by
          refine ⟨HB.out.grow (balloc (brefl _) _), ⟨?_, ?_, ?_, ?_, ?_, ?_⟩, fun hf => by have := HB.out.db.at'.lt hf; omega, fun hf => by have := HB.out.bk.lt hf; omega, HB.out.db.bel.size⟩ <;> simp [go_sem]
        clear HB y0 y1 y2 y3 y4 y5
        generalize wr.alloc (.cells #[.int .i64 xa, .int .i64 xk, .int .i64 mp, .int .i64 ms, .int .i64 mf, .int .i64 mr] 36) = wz at *
        generalize wr.heap.size = X at *
        have z0 := HP.out.cells.1
        simp only at z0
        go_cut [30] from 19 to 136 (fun s30 wc => s30 = .int .i64 xa ∧ wc = wz)
        case first =>
          go_wp2_with fail
          go_meet
          case rel => exact ⟨rfl, rfl⟩
        case rest =>
          obtain ⟨rfl, rfl⟩ := hcut
          clear z0
          rename_i hK1 K2 hK2
          refine hK2 _ _ ?_
          go_cut [7] from 19 to 136 (fun _ wc => Hid (∃ L' F vb, Twx w wc b rb X ⟨xa, xk, ⟨mp, ms, mf, mr⟩⟩ L' L' F vb))
          case first =>
            by_cases h0 : xa = 0
            · as_aux_lemma =>
              subst h0
              have HPd : Hid _ := HP.out.grow (brefl wc).drew
              obtain ⟨_, t1, t2, t3, t4, t5⟩ := HP.out.cells
              simp only at t1 t2 t3 t4 t5
              go_wp2_with fail
              go_region_held3 (fun w' => w'.cell? ⟨X, 1, none⟩ = some (.int .i64 xk) ∧ w'.cell? ⟨X, 2, none⟩ = some (.int .i64 mp) ∧ w'.cell? ⟨X, 3, none⟩ = some (.int .i64 ms) ∧ w'.cell? ⟨X, 4, none⟩ = some (.int .i64 mf) ∧ w'.cell? ⟨X, 5, none⟩ = some (.int .i64 mr)) (go_keep) (first
                | (go_at_call 11; refine (tbPut_any ⟨⟨mp, ms, mf, mr⟩, decide (0 < xk)⟩ f1 _ HPd.out.two.db.at').mono ?_; rintro e w5 ⟨rfl, F5, h5, hb5, hF5⟩; have P5 : Hid _ := HPd.out.left h5 hb5.but hF5; obtain ⟨_, z1, z2, z3, z4, z5⟩ := P5.out.cells; simp only at z1 z2 z3 z4 z5; clear h5 hb5 hF5)
                | (go_at_call 12; refine (coPut_any ⟨⟨mp, ms, mf, mr⟩, decide (0 < xk)⟩ f1 _ P5.out.two.bk).mono ?_; rintro e w6 ⟨rfl, vb6, h6, hb6, hF6⟩; have P6 : Hid _ := P5.out.right h6 hb6.but hF6; obtain ⟨_, v1, v2, v3, v4, v5⟩ := P6.out.cells; simp only at v1 v2 v3 v4 v5; clear h6 hb6 hF6))
              all_goals
                go_wp2_with fail
                go_meet
                case rel => exact ⟨_, _, _, P6.out⟩
            · have n0 : (xa == 0) = false := by simpa using h0
              clear h0
              by_cases h1 : xa = 1
              · as_aux_lemma =>
                subst h1
                have HPd : Hid _ := HP.out.grow (brefl wc).drew
                obtain ⟨_, t1, t2, t3, t4, t5⟩ := HP.out.cells
                simp only at t1 t2 t3 t4 t5
                go_wp2_with fail
                go_region_held3 (fun w' => w'.cell? ⟨X, 2, none⟩ = some (.int .i64 mp) ∧ w'.cell? ⟨X, 3, none⟩ = some (.int .i64 ms) ∧ w'.cell? ⟨X, 4, none⟩ = some (.int .i64 mf) ∧ w'.cell? ⟨X, 5, none⟩ = some (.int .i64 mr)) (go_keep) (first
                  | (go_at_call 13; refine (tbDrop_any ⟨mp, ms, mf, mr⟩ f1 _ HPd.out.two.db.at').mono ?_; rintro e w5 ⟨rfl, F5, h5, hb5, hF5⟩; have P5 : Hid _ := HPd.out.left h5 hb5.but hF5; obtain ⟨_, z1, z2, z3, z4, z5⟩ := P5.out.cells; simp only at z1 z2 z3 z4 z5; clear h5 hb5 hF5)
                  | (go_at_call 14; refine (coDrop_any ⟨mp, ms, mf, mr⟩ f1 _ P5.out.two.bk).mono ?_; rintro e w6 ⟨rfl, vb6, h6, hb6, hF6⟩; have P6 : Hid _ := P5.out.right h6 hb6.but hF6; obtain ⟨_, v1, v2, v3, v4, v5⟩ := P6.out.cells; simp only at v1 v2 v3 v4 v5; clear h6 hb6 hF6))
                all_goals
                  go_wp2_with fail
                  go_meet
                  case rel => exact ⟨_, _, _, P6.out⟩
              · have n1 : (xa == 1) = false := by simpa using h1
                clear h1
                by_cases h2 : xa = 2
                · as_aux_lemma =>
                  subst h2
                  obtain ⟨ad9, cap9, rfl⟩ := HP.out.two.bk.row.form
                  have c0 := HP.out.two.bk.c0
                  have cf := HP.out.two.bk.fb 0
                  have hlb := HP.out.two.bk.lb
                  by_cases hL : 0 < L.length
                  · obtain ⟨g, o, cp, e, hg, hn1, hn2⟩ := HP.out.two.bk.row.shape hL
                    cases e
                    have d0 : decide ((0 : Int) < (L.length : Int)) = true := by simp; omega
                    have j1 : (1 : Int) ≤ (L.length : Int) := by omega
                    have j3 : cap9 ≤ 9223372036854775807 := by unfold maxLen at hn2; omega
                    have HE := fun w' F' (h : TbAt w' b 0 L F') => tbEvict_any w' h
                    rw [show decide (0 < L.length) = true by simp [hL]] at HE
                    by_cases hc : cap9 = 1
                    · subst hc
                      obtain ⟨e1, e2, e3⟩ := HP.out.two.bk.evict hL (o' := o) (.inr ⟨rfl, rfl⟩)
                      have P5 : Hid _ := HP.out.right e1 e2.but e3
                      simp only [Nat.sub_self] at P5
                      clear e1 e2 e3 hn1 hn2 hg
                      go_wp2_with fail
                      refine (HE _ _ P5.out.two.db.at').mono ?_
                      rintro e w6 ⟨rfl, F6, h6, hb6, hF6⟩
                      have P6 : Hid _ := P5.out.left h6 hb6.but hF6
                      clear h6 hb6 hF6
                      go_wp2_with fail
                      go_meet
                      case rel => exact ⟨_, _, _, P6.out⟩
                    · obtain ⟨e1, e2, e3⟩ := HP.out.two.bk.evict hL (o' := o + 5) (.inl rfl)
                      have P5 : Hid _ := HP.out.right e1 e2.but e3
                      clear e1 e2 e3 hn2 hg
                      go_wp2_with fail
                      refine (HE _ _ P5.out.two.db.at').mono ?_
                      rintro e w6 ⟨rfl, F6, h6, hb6, hF6⟩
                      have P6 : Hid _ := P5.out.left h6 hb6.but hF6
                      clear h6 hb6 hF6
                      go_wp2_with fail
                      go_meet
                      case rel => exact ⟨_, _, _, P6.out⟩
                  · have hL0 : L = [] := List.length_eq_zero_iff.1 (by omega)
                    subst hL0
                    have HE := fun w' F' (h : TbAt w' b 0 [] F') => tbEvict_any w' h
                    rw [show decide (0 < ([] : List Pg.Ln).length) = false from rfl] at HE
                    clear hL
                    go_wp2_with fail
                    refine (HE _ _ HP.out.two.db.at').mono ?_
                    rintro e w6 ⟨rfl, F6, h6, hb6, hF6⟩
                    have P6 : Hid _ := HP.out.left h6 hb6.but hF6
                    clear h6 hb6 hF6
                    go_wp2_with fail
                    go_meet
                    case rel => exact ⟨_, _, _, P6.out⟩
                · have n2 : (xa == 2) = false := by simpa using h2
                  clear h2
                  go_wp2_with fail
                  go_meet
                  case rel => exact ⟨_, _, _, HP.out⟩
          case rest =>
            obtain ⟨L', F9, vb9, P9⟩ := hcut.out
            have P9 : Hid _ := P9
            clear hcut HP
            refine hK1 _ _ ?_
            obtain ⟨ad9, cap9, rfl⟩ := P9.out.two.bk.row.form
            have hlen' := P9.out.two.bk.kept.le
            have e1 := P9.out.cells.2.1
            simp only at e1
            have lX := P9.out.xl
            have HA := fun w (h : CoAt w rb (.slice ad9 L'.length cap9) L') => coKept_any xk f0 w h
            have HC := fun w (h : TbAt w b 0 L' F9) => tbFind_any xk f0 w h
            cases hf : Pg.kFnd L' xk with
            | none =>
              as_aux_lemma =>
              have w1' : Pg.kFndN L' xk = -1 := by simp only [Pg.kFndN, hf]
              have w2' : Pg.kAt L' xk = .zz := by simp only [Pg.kAt, hf]
              have w3' : (Pg.kFnd L' xk).isSome = false := by simp [hf]
              rw [w1'] at HA
              rw [w2', w3', show (.zz : Pg.Ln).val = .agg #[.int .i64 0, .int .i64 0, .int .i64 0, .int .i64 0, .bool false] from rfl] at HC
              clear w1' w2' w3' hf
              go_wp2_with fail
              refine (HC _ P9.out.two.db.at').mono ?_
              rintro e w3 ⟨rfl, hb3⟩
              have P3 : Hid (∀ o, Twx w (w3.alloc o) b rb X ⟨xa, xk, ⟨mp, ms, mf, mr⟩⟩ L' L' F9 (.slice ad9 L'.length cap9)) := fun o => (P9.out.grow hb3).grow (balloc (brefl _) o)
              have e1 := cell_later hb3 e1
              have lX := Nat.lt_of_lt_of_le lX hb3.size
              clear hb3 HC P9
              go_wp2_with fail
              refine (HA _ (P3.out _).two.bk).mono ?_
              rintro e w4 ⟨rfl, hb4⟩
              have P4 : Hid _ := (P3.out _).grow hb4
              have P4d : Hid _ := P4.out.grow (brefl w4).drew
              have z4 := P4.out.two.bk.c0
              clear hb4 HA P3 e1 lX
              go_wp2_with fail
              refine wp_region_noPanic ?_
              refine wp_region_held_drew (S := fun w' => w'.cell? ⟨rb, 0, none⟩ = some (.slice ad9 L'.length cap9)) (by kernel_rfl) z4 (fun hHeld => ?_)
              refine wpAnyH_put (i := 0) (some 93) (.move (.tmp 9)) none (.bool false) rfl (by kernel_rfl) (by kernel_rfl) (by kernel_rfl) (fun _ _ _ _ _ h => h) rfl (by assumption) ?h0 ?_
              case h0 => (intro o _ ho _ w hSw; simp only [execOp, ho]; go_simp)
              simp only [Act.put, List.setIfInBounds_toArray, List.set_cons_zero, List.set_cons_succ]
              refine wpAnyH_put (i := 1) (some 94) (.move (.tmp 10)) none (.int .i64 (-1)) rfl (by kernel_rfl) (by kernel_rfl) (by kernel_rfl) (fun _ _ _ _ _ h => h) rfl (by assumption) ?h1 ?_
              case h1 => (intro o _ ho _ w hSw; simp only [execOp, ho]; go_simp)
              simp only [Act.put, List.setIfInBounds_toArray, List.set_cons_zero, List.set_cons_succ]
              refine wpAnyH_put (i := 2) (some 95) (.binOp .geq 3 (.tmp 94) (.const (.int .i64 0)) 3) none (.bool false) rfl (by kernel_rfl) (by kernel_rfl) (by kernel_rfl) (fun _ _ _ _ _ h => h) rfl (by assumption) ?h2 ?_
              case h2 => (intro o _ ho _ w hSw; simp only [execOp, ho]; go_simp)
              simp only [Act.put, List.setIfInBounds_toArray, List.set_cons_zero, List.set_cons_succ]
              refine wpAnyH_put (i := 3) (some 96) (.binOp .neq 4 (.tmp 93) (.tmp 95) 4) none (.bool false) rfl (by kernel_rfl) (by kernel_rfl) (by kernel_rfl) (fun _ _ _ _ _ h => h) rfl (by assumption) ?h3 ?_
              case h3 => (intro o _ ho _ w hSw; simp only [execOp, ho]; go_simp)
              simp only [Act.put, List.setIfInBounds_toArray, List.set_cons_zero, List.set_cons_succ]
              refine wpAnyH_put (i := 4) (some 97) (.move (.tmp 96)) none (.bool false) rfl (by kernel_rfl) (by kernel_rfl) (by kernel_rfl) (fun _ _ _ _ _ h => h) rfl (by assumption) ?h4 ?_
              case h4 => (intro o _ ho _ w hSw; simp only [execOp, ho]; go_simp)
              simp only [Act.put, List.setIfInBounds_toArray, List.set_cons_zero, List.set_cons_succ]
              refine wpAnyH_put (i := 5) (some 98) (.move (.tmp 10)) (some (4, false)) (.int .i64 (-1)) rfl (by kernel_rfl) (by kernel_rfl) (by kernel_rfl) (fun _ _ _ _ _ h => h) rfl (by assumption) ?h5 ?_
              case h5 => (intro o _ ho _ w hSw; simp only [execOp, ho]; go_simp)
              simp only [Act.put, List.setIfInBounds_toArray, List.set_cons_zero, List.set_cons_succ]
              refine wpAnyH_put (i := 6) (some 99) (.binOp .geq 3 (.tmp 98) (.const (.int .i64 0)) 3) (some (4, false)) (.bool false) rfl (by kernel_rfl) (by kernel_rfl) (by kernel_rfl) (fun _ _ _ _ _ h => h) rfl (by assumption) ?h6 ?_
              case h6 => (intro o _ ho _ w hSw; simp only [execOp, ho]; go_simp)
              simp only [Act.put, List.setIfInBounds_toArray, List.set_cons_zero, List.set_cons_succ]
              refine wpAnyH_put (i := 7) (some 100) (.move (.tmp 99)) (some (4, false)) (.bool false) rfl (by kernel_rfl) (by kernel_rfl) (by kernel_rfl) (fun _ _ _ _ _ h => h) rfl (by assumption) ?h7 ?_
              case h7 => (intro o _ ho _ w hSw; simp only [execOp, ho]; go_simp)
              simp only [Act.put, List.setIfInBounds_toArray, List.set_cons_zero, List.set_cons_succ]
              refine wpAnyH_skip (i := 8) (some 101) rfl (by kernel_rfl) (by kernel_rfl) (by kernel_rfl) (fun _ _ _ _ _ h => h) rfl (by assumption) ?_
              simp only [Act.put, List.setIfInBounds_toArray, List.set_cons_zero, List.set_cons_succ]
              refine wpAnyH_skip (i := 9) (some 102) rfl (by kernel_rfl) (by kernel_rfl) (by kernel_rfl) (fun _ _ _ _ _ h => h) rfl (by assumption) ?_
              simp only [Act.put, List.setIfInBounds_toArray, List.set_cons_zero, List.set_cons_succ]
              refine wpAnyH_skip (i := 10) (some 103) rfl (by kernel_rfl) (by kernel_rfl) (by kernel_rfl) (fun _ _ _ _ _ h => h) rfl (by assumption) ?_
              simp only [Act.put, List.setIfInBounds_toArray, List.set_cons_zero, List.set_cons_succ]
              refine wpAnyH_skip (i := 11) (some 104) rfl (by kernel_rfl) (by kernel_rfl) (by kernel_rfl) (fun _ _ _ _ _ h => h) rfl (by assumption) ?_
              simp only [Act.put, List.setIfInBounds_toArray, List.set_cons_zero, List.set_cons_succ]
              refine wpAnyH_skip (i := 12) (some 105) rfl (by kernel_rfl) (by kernel_rfl) (by kernel_rfl) (fun _ _ _ _ _ h => h) rfl (by assumption) ?_
              simp only [Act.put, List.setIfInBounds_toArray, List.set_cons_zero, List.set_cons_succ]
              refine wpAnyH_skip (i := 13) (some 106) rfl (by kernel_rfl) (by kernel_rfl) (by kernel_rfl) (fun _ _ _ _ _ h => h) rfl (by assumption) ?_
              simp only [Act.put, List.setIfInBounds_toArray, List.set_cons_zero, List.set_cons_succ]
              refine wpAnyH_skip (i := 14) (some 107) rfl (by kernel_rfl) (by kernel_rfl) (by kernel_rfl) (fun _ _ _ _ _ h => h) rfl (by assumption) ?_
              simp only [Act.put, List.setIfInBounds_toArray, List.set_cons_zero, List.set_cons_succ]
              refine wpAnyH_skip (i := 15) (some 108) rfl (by kernel_rfl) (by kernel_rfl) (by kernel_rfl) (fun _ _ _ _ _ h => h) rfl (by assumption) ?_
              simp only [Act.put, List.setIfInBounds_toArray, List.set_cons_zero, List.set_cons_succ]
              refine wpAnyH_skip (i := 16) (some 109) rfl (by kernel_rfl) (by kernel_rfl) (by kernel_rfl) (fun _ _ _ _ _ h => h) rfl (by assumption) ?_
              simp only [Act.put, List.setIfInBounds_toArray, List.set_cons_zero, List.set_cons_succ]
              refine wpAnyH_skip (i := 17) (some 110) rfl (by kernel_rfl) (by kernel_rfl) (by kernel_rfl) (fun _ _ _ _ _ h => h) rfl (by assumption) ?_
              simp only [Act.put, List.setIfInBounds_toArray, List.set_cons_zero, List.set_cons_succ]
              refine wpAnyH_skip (i := 18) (some 111) rfl (by kernel_rfl) (by kernel_rfl) (by kernel_rfl) (fun _ _ _ _ _ h => h) rfl (by assumption) ?_
              simp only [Act.put, List.setIfInBounds_toArray, List.set_cons_zero, List.set_cons_succ]
              refine wpAnyH_skip (i := 19) (some 112) rfl (by kernel_rfl) (by kernel_rfl) (by kernel_rfl) (fun _ _ _ _ _ h => h) rfl (by assumption) ?_
              simp only [Act.put, List.setIfInBounds_toArray, List.set_cons_zero, List.set_cons_succ]
              refine wpAnyH_skip (i := 20) (some 113) rfl (by kernel_rfl) (by kernel_rfl) (by kernel_rfl) (fun _ _ _ _ _ h => h) rfl (by assumption) ?_
              simp only [Act.put, List.setIfInBounds_toArray, List.set_cons_zero, List.set_cons_succ]
              refine wpAnyH_skip (i := 21) (some 114) rfl (by kernel_rfl) (by kernel_rfl) (by kernel_rfl) (fun _ _ _ _ _ h => h) rfl (by assumption) ?_
              simp only [Act.put, List.setIfInBounds_toArray, List.set_cons_zero, List.set_cons_succ]
              refine wpAnyH_skip (i := 22) (some 115) rfl (by kernel_rfl) (by kernel_rfl) (by kernel_rfl) (fun _ _ _ _ _ h => h) rfl (by assumption) ?_
              simp only [Act.put, List.setIfInBounds_toArray, List.set_cons_zero, List.set_cons_succ]
              refine wpAnyH_skip (i := 23) (some 116) rfl (by kernel_rfl) (by kernel_rfl) (by kernel_rfl) (fun _ _ _ _ _ h => h) rfl (by assumption) ?_
              simp only [Act.put, List.setIfInBounds_toArray, List.set_cons_zero, List.set_cons_succ]
              refine wpAnyH_skip (i := 24) (some 117) rfl (by kernel_rfl) (by kernel_rfl) (by kernel_rfl) (fun _ _ _ _ _ h => h) rfl (by assumption) ?_
              simp only [Act.put, List.setIfInBounds_toArray, List.set_cons_zero, List.set_cons_succ]
              refine wpAnyH_skip (i := 25) (some 118) rfl (by kernel_rfl) (by kernel_rfl) (by kernel_rfl) (fun _ _ _ _ _ h => h) rfl (by assumption) ?_
              simp only [Act.put, List.setIfInBounds_toArray, List.set_cons_zero, List.set_cons_succ]
              refine wpAnyH_skip (i := 26) (some 119) rfl (by kernel_rfl) (by kernel_rfl) (by kernel_rfl) (fun _ _ _ _ _ h => h) rfl (by assumption) ?_
              simp only [Act.put, List.setIfInBounds_toArray, List.set_cons_zero, List.set_cons_succ]
              refine wpAnyH_skip (i := 27) (some 120) rfl (by kernel_rfl) (by kernel_rfl) (by kernel_rfl) (fun _ _ _ _ _ h => h) rfl (by assumption) ?_
              simp only [Act.put, List.setIfInBounds_toArray, List.set_cons_zero, List.set_cons_succ]
              refine wpAnyH_skip (i := 28) (some 121) rfl (by kernel_rfl) (by kernel_rfl) (by kernel_rfl) (fun _ _ _ _ _ h => h) rfl (by assumption) ?_
              simp only [Act.put, List.setIfInBounds_toArray, List.set_cons_zero, List.set_cons_succ]
              refine wpAnyH_skip (i := 29) (some 122) rfl (by kernel_rfl) (by kernel_rfl) (by kernel_rfl) (fun _ _ _ _ _ h => h) rfl (by assumption) ?_
              simp only [Act.put, List.setIfInBounds_toArray, List.set_cons_zero, List.set_cons_succ]
              refine wpAnyH_skip (i := 30) (some 123) rfl (by kernel_rfl) (by kernel_rfl) (by kernel_rfl) (fun _ _ _ _ _ h => h) rfl (by assumption) ?_
              simp only [Act.put, List.setIfInBounds_toArray, List.set_cons_zero, List.set_cons_succ]
              refine wpAnyH_skip (i := 31) (some 124) rfl (by kernel_rfl) (by kernel_rfl) (by kernel_rfl) (fun _ _ _ _ _ h => h) rfl (by assumption) ?_
              simp only [Act.put, List.setIfInBounds_toArray, List.set_cons_zero, List.set_cons_succ]
              refine wpAnyH_put (i := 32) (some 125) (.pick (.tmp 100) (.tmp 124) (.const (.bool false))) (some (4, false)) (.bool false) rfl (by kernel_rfl) (by kernel_rfl) (by kernel_rfl) (fun _ _ _ _ _ h => h) rfl (by assumption) ?h32 ?_
              case h32 => (intro o _ ho _ w hSw; simp only [execOp, ho]; go_simp)
              simp only [Act.put, List.setIfInBounds_toArray, List.set_cons_zero, List.set_cons_succ]
              refine wpAnyH_put (i := 33) (some 126) (.pick (.tmp 97) (.const (.bool true)) (.tmp 125)) none (.bool false) rfl (by kernel_rfl) (by kernel_rfl) (by kernel_rfl) (fun _ _ _ _ _ h => h) rfl (by assumption) ?h33 ?_
              case h33 => (intro o _ ho _ w hSw; simp only [execOp, ho]; go_simp)
              simp only [Act.put, List.setIfInBounds_toArray, List.set_cons_zero, List.set_cons_succ]
              refine wpAnyH_put (i := 34) (some 127) (.move (.tmp 126)) none (.bool false) rfl (by kernel_rfl) (by kernel_rfl) (by kernel_rfl) (fun _ _ _ _ _ h => h) rfl (by assumption) ?h34 ?_
              case h34 => (intro o _ ho _ w hSw; simp only [execOp, ho]; go_simp)
              simp only [Act.put, List.setIfInBounds_toArray, List.set_cons_zero, List.set_cons_succ]
              refine wpAnyH_put (i := 35) (some 128) (.move (.tmp 3)) (some (34, false)) (.pointer (some ⟨b, 0, none⟩)) rfl (by kernel_rfl) (by kernel_rfl) (by kernel_rfl) (fun _ _ _ _ _ h => h) rfl (by assumption) ?h35 ?_
              case h35 => (intro o _ ho _ w hSw; simp only [execOp, ho]; go_simp)
              simp only [Act.put, List.setIfInBounds_toArray, List.set_cons_zero, List.set_cons_succ]
              refine wpAnyH_put (i := 37) (some 130) (.move (.tmp 4)) (some (34, false)) (.pointer (some ⟨rb, 0, none⟩)) rfl (by kernel_rfl) (by kernel_rfl) (by kernel_rfl) (fun _ _ _ _ _ h => h) rfl (by assumption) ?h37 ?_
              case h37 => (intro o _ ho _ w hSw; simp only [execOp, ho]; go_simp)
              simp only [Act.put, List.setIfInBounds_toArray, List.set_cons_zero, List.set_cons_succ]
              refine wpAnyH_put (i := 38) (some 131) (.nilCheck (.tmp 130)) (some (34, false)) (.pointer (some ⟨rb, 0, none⟩)) rfl (by kernel_rfl) (by kernel_rfl) (by kernel_rfl) (fun _ _ _ _ _ h => h) rfl (by assumption) ?h38 ?_
              case h38 => (intro o _ ho _ w hSw; simp only [execOp, ho]; go_simp)
              simp only [Act.put, List.setIfInBounds_toArray, List.set_cons_zero, List.set_cons_succ]
              refine wpAnyH_put (i := 39) (some 132) (.fieldAddr 32 (.tmp 131) 0) (some (34, false)) (.pointer (some ⟨rb, 0, none⟩)) rfl (by kernel_rfl) (by kernel_rfl) (by kernel_rfl) (fun _ _ _ _ _ h => h) rfl (by assumption) ?h39 ?_
              case h39 => (intro o _ ho _ w hSw; simp only [execOp, ho]; go_simp)
              simp only [Act.put, List.setIfInBounds_toArray, List.set_cons_zero, List.set_cons_succ]
              refine wpAnyH_put (i := 40) (some 133) (.load 27 (.tmp 132)) (some (34, false)) (.slice ad9 L'.length cap9) rfl (by kernel_rfl) (by kernel_rfl) (by kernel_rfl) (fun _ _ _ _ _ h => h) rfl (by assumption) ?h40 ?_
              case h40 => (intro o _ ho _ w hSw; simp only [execOp, ho]; go_simp)
              simp only [Act.put, List.setIfInBounds_toArray, List.set_cons_zero, List.set_cons_succ]
              refine wpAnyH_call (i := 36) (some 129) { callee := .value (.func 19), args := #[.tmp 128], argTypes := #[24] } (some (34, false)) (by kernel_rfl) rfl rfl 19 #[.pointer (some ⟨b, 0, none⟩)] (fun o ho => by simp only [execOp, ho]; go_simp) (tbList_any _ P4d.out.two.db.at') (fun v w' hR => ?c36) (fun c w' hR => by obtain ⟨_, _, h, _⟩ := hR; cases h) (fun w' hR => by obtain ⟨_, _, h, _⟩ := hR; cases h)
              obtain ⟨ad5, cap5, he, m5, hb5, hn5⟩ := hR
              cases he
              have P5 : Hid _ := P4d.out.grow hb5
              have m5 : Hid _ := m5
              refine ⟨P5.out.two.bk.c0, fun hHeld => ?_⟩
              clear hn5 hb5
              simp only [Act.put, List.setIfInBounds_toArray, List.set_cons_zero, List.set_cons_succ]
              refine wpAnyH_call (i := 41) (some 134) { callee := .value (.func 18), args := #[.tmp 129, .tmp 133], argTypes := #[47, 27] } (some (34, false)) (by kernel_rfl) rfl rfl 18 #[.slice ad5 L'.length cap5, .slice ad9 L'.length cap9] (fun o ho => by simp only [execOp, ho]; go_simp) (sameLines_yes _ m5.out (ownsAt_lines P5.out.two.bk.row) hlen') (fun v w' hR => ?c41) (fun c w' hR => by obtain ⟨h, _⟩ := hR; cases h) (fun w' hR => by obtain ⟨h, _⟩ := hR; cases h)
              obtain ⟨he, hb6⟩ := hR
              cases he
              have P6 : Hid _ := P5.out.grow hb6
              refine ⟨P6.out.two.bk.c0, fun hHeld => ?_⟩
              clear hb6
              simp only [Act.put, List.setIfInBounds_toArray, List.set_cons_zero, List.set_cons_succ]
              refine wpAnyH_put (i := 42) (some 135) (.unOp .not 4 (.tmp 134)) (some (34, false)) (.bool false) rfl (by kernel_rfl) (by kernel_rfl) (by kernel_rfl) (fun _ _ _ _ _ h => h) rfl (by assumption) ?h42 ?_
              case h42 => (intro o _ ho _ w hSw; simp only [execOp, ho]; go_simp)
              simp only [Act.put, List.setIfInBounds_toArray, List.set_cons_zero, List.set_cons_succ]
              refine wpAnyH_put (i := 43) (some 136) (.pick (.tmp 127) (.const (.bool true)) (.tmp 135)) none (.bool false) rfl (by kernel_rfl) (by kernel_rfl) (by kernel_rfl) (fun _ _ _ _ _ h => h) rfl (by assumption) ?h43 ?_
              case h43 => (intro o _ ho _ w hSw; simp only [execOp, ho]; go_simp)
              simp only [Act.put, List.setIfInBounds_toArray, List.set_cons_zero, List.set_cons_succ]
              refine wpAnyH_done (by kernel_rfl) ?_ _
              refine NoPanic.normal ?_
              clear hHeld z4
              go_wp2_with fail
              go_roundw
              case rel => exact ⟨k + 1, by omega, by go_num, ⟨_, _, _, P6.out.two⟩⟩
              case measure => simp [intOf]; omega
            | some j =>
              as_aux_lemma =>
              obtain ⟨hjl, _, _⟩ := Pg.kFnd_some hf
              have w1' : Pg.kFndN L' xk = (j : Int) := by simp only [Pg.kFndN, hf]
              have w2' : Pg.kAt L' xk = L'.getD j .zz := by simp only [Pg.kAt, hf]
              have w3' : (Pg.kFnd L' xk).isSome = true := by simp [hf]
              rw [w1'] at HA
              rw [w2', w3'] at HC
              obtain ⟨g, o, rfl, hg, hmg⟩ := ownsAt_lines P9.out.two.bk.row j hjl
              have j0 : (0 : Int) ≤ (j : Int) := by omega
              have j1 : (j : Int) < (L'.length : Int) := by omega
              have j2 : decide ((0 : Int) ≤ (j : Int)) = true := by simp
              clear w1' w2' w3' hf
              generalize L'.getD j .zz = y at *
              obtain ⟨⟨yp, ys, yf, yr⟩, yd⟩ := y
              rw [show (Pg.Ln.mk ⟨yp, ys, yf, yr⟩ yd).val = .agg #[.int .i64 yp, .int .i64 ys, .int .i64 yf, .int .i64 yr, .bool yd] from rfl] at HC
              go_wp2_with fail
              refine (HC _ P9.out.two.db.at').mono ?_
              rintro e w3 ⟨rfl, hb3⟩
              have P3 : Hid (∀ o', Twx w (w3.alloc o') b rb X ⟨xa, xk, ⟨mp, ms, mf, mr⟩⟩ L' L' F9 (.slice (some ⟨g, o, none⟩) L'.length cap9)) := fun o' => (P9.out.grow hb3).grow (balloc (brefl _) o')
              have e1 := cell_later hb3 e1
              have lX := Nat.lt_of_lt_of_le lX hb3.size
              have hmg : Hid (LnAt w3 g (o + j * 5) ⟨⟨yp, ys, yf, yr⟩, yd⟩) := hmg.below hb3 hg
              have hg := Nat.lt_of_lt_of_le hg hb3.size
              clear hb3 HC P9
              go_wp2_with fail
              refine (HA _ (P3.out _).two.bk).mono ?_
              rintro e w4 ⟨rfl, hb4⟩
              have P4 : Hid _ := (P3.out _).grow hb4
              have P4d : Hid _ := P4.out.grow (brefl w4).drew
              have z4 := P4.out.two.bk.c0
              have hs4 : ∀ p, w4.cell? ⟨w3.heap.size, p, none⟩ = _ := fun p => hb4.cell (p := ⟨w3.heap.size, p, none⟩) (by simp)
              have s0 : w4.cell? ⟨w3.heap.size, 0, none⟩ = some (.int .i64 yp) := (hs4 0).trans (by simp [go_sem])
              have s1 : w4.cell? ⟨w3.heap.size, 1, none⟩ = some (.int .i64 ys) := (hs4 1).trans (by simp [go_sem])
              have s2 : w4.cell? ⟨w3.heap.size, 2, none⟩ = some (.int .i64 yf) := (hs4 2).trans (by simp [go_sem])
              have s3 : w4.cell? ⟨w3.heap.size, 3, none⟩ = some (.int .i64 yr) := (hs4 3).trans (by simp [go_sem])
              have s4 : w4.cell? ⟨w3.heap.size, 4, none⟩ = some (.bool yd) := (hs4 4).trans (by simp [go_sem])
              obtain ⟨r0, r1, r2, r3, r4⟩ := (hmg.out.below (balloc (brefl w3) (.cells #[.int .i64 yp, .int .i64 ys, .int .i64 yf, .int .i64 yr, .bool yd] 39)) hg).below hb4 (by simp; omega)
              simp only at r0 r1 r2 r3 r4
              clear hb4 HA P3 e1 lX hmg hs4 hg
              have T4 : Hid (w4.cell? ⟨rb, 0, none⟩ = some (.slice (some ⟨g, o, none⟩) L'.length cap9) ∧ w4.cell? ⟨w3.heap.size, 0, none⟩ = some (.int .i64 yp) ∧ w4.cell? ⟨w3.heap.size, 1, none⟩ = some (.int .i64 ys) ∧ w4.cell? ⟨w3.heap.size, 2, none⟩ = some (.int .i64 yf) ∧ w4.cell? ⟨w3.heap.size, 3, none⟩ = some (.int .i64 yr) ∧ w4.cell? ⟨w3.heap.size, 4, none⟩ = some (.bool yd) ∧ w4.cell? ⟨g, o + j * 5, none⟩ = some (.int .i64 yp) ∧ w4.cell? ⟨g, o + j * 5 + 1, none⟩ = some (.int .i64 ys) ∧ w4.cell? ⟨g, o + j * 5 + 2, none⟩ = some (.int .i64 yf) ∧ w4.cell? ⟨g, o + j * 5 + 3, none⟩ = some (.int .i64 yr) ∧ w4.cell? ⟨g, o + j * 5 + 4, none⟩ = some (.bool yd)) := ⟨z4, s0, s1, s2, s3, s4, r0, r1, r2, r3, r4⟩
              generalize w3.heap.size = A at *
              go_wp2_with fail
              go_region_held3 (fun w' => w'.cell? ⟨rb, 0, none⟩ = some (.slice (some ⟨g, o, none⟩) L'.length cap9) ∧ w'.cell? ⟨A, 0, none⟩ = some (.int .i64 yp) ∧ w'.cell? ⟨A, 1, none⟩ = some (.int .i64 ys) ∧ w'.cell? ⟨A, 2, none⟩ = some (.int .i64 yf) ∧ w'.cell? ⟨A, 3, none⟩ = some (.int .i64 yr) ∧ w'.cell? ⟨A, 4, none⟩ = some (.bool yd) ∧ w'.cell? ⟨g, o + j * 5, none⟩ = some (.int .i64 yp) ∧ w'.cell? ⟨g, o + j * 5 + 1, none⟩ = some (.int .i64 ys) ∧ w'.cell? ⟨g, o + j * 5 + 2, none⟩ = some (.int .i64 yf) ∧ w'.cell? ⟨g, o + j * 5 + 3, none⟩ = some (.int .i64 yr) ∧ w'.cell? ⟨g, o + j * 5 + 4, none⟩ = some (.bool yd)) (go_keep) (first
                | (go_at_call 18; refine (sameLines_yes _ m5.out (ownsAt_lines P5.out.two.bk.row) hlen').mono ?_; rintro e w6 ⟨rfl, hb6⟩; have T6 : Hid _ := eleven_later hb6 T5.out; obtain ⟨z60, z61, z62, z63, z64, z65, z66, z67, z68, z69, z6a⟩ := T6.out; have P6 : Hid _ := P5.out.grow hb6; clear hb6)
                | (go_at_call 19; refine (tbList_any _ P4d.out.two.db.at').mono ?_; rintro e w5 ⟨ad5, cap5, rfl, m5, hb5, hn5⟩; have T5 : Hid _ := eleven_later hb5 T4.out; obtain ⟨z50, z51, z52, z53, z54, z55, z56, z57, z58, z59, z5a⟩ := T5.out; have P5 : Hid _ := P4d.out.grow hb5; have m5 : Hid _ := m5; clear hn5 hb5))
              all_goals
                go_wp2_with fail
                go_roundw
                case rel => exact ⟨k + 1, by omega, by go_num, ⟨_, _, _, P6.out.two⟩⟩
                case measure => simp [intOf]; omega
      · have i1 : ¬ (k : Int) < (len : Int) := by omega
        have HF : Hid _ := HB.out.db.bel
        clear HQ
        go_wp2_with fail
        go_ret
        exact ⟨rfl, HF.out⟩

set_option maxRecDepth 100000 in
theorem tlbDoes_lifted (os : Os) (started : os.Started) (H : Type) (enc : TypeId × Value → H) :
    ReturnsInHanded {} Try.checked os 3 .any (Rows.tlbDoesSpec.pre6 enc Try.prog Try.f3 Rows.tlbDoesRow.domain false) (Rows.tlbDoesSpec.post enc Try.prog Try.f3 false true false false) := by
  refine returnsInHanded_of_change (C := Try.checked) own started (by kernel_rfl) Try.func3
    (ChangeSpec.witness6 (enc := enc) (C := Try.checked) false ⟨#[], #[.slice none 0 0], []⟩ 8 (by kernel_rfl) (by kernel_rfl) (by kernel_rfl) (by kernel_rfl)) ?_
  intro W base args ds gs before hval0 hW hcnd _
  have hval : ∀ (j : Nat) t v, Try.f3.params[j]? = some t → args[j]? = some v → Value.okWide Try.prog W .any base t v := hval0
  have hW' := hW
  obtain ⟨p, q, hA0, hV, rfl, hfz, hnd⟩ := hW
  have hA : DataW.TrodAll enc Try.prog W 0 (fun _ => true) true Try.f3.params.toList args.toList ds p := hA0
  rw [Try.params3] at hA hval
  obtain ⟨v0, vs0, d0, ds0, p0, q0, hargs, rfl, rfl, h0, r0⟩ := trodAll_cons hA
  obtain ⟨rfl, rfl, rfl⟩ := trodAll_nil r0
  obtain rfl : args = #[v0] := by cases args; simp_all
  obtain ⟨rfl, rfl⟩ := trodVars_none hV
  obtain ⟨a0a, a0b, a0c, a0d, rfl, f0a⟩ := openLsts (hval 0 22 v0 rfl rfl) h0
  clear hA0 hval0
  refine (tlbDoes_walk W a0a a0b a0c a0d f0a).mono fun e W' ⟨he, bel⟩ => ?_
  subst he
  exact ⟨_, rfl, _, _, _, [], _, [], hW', trodAll_mk1 (shut_bool Try.underlying4 _), (trodAll_cons_mk (stays (by kernel_rfl) (of_decide_eq_true (by kernel_rfl)) h0 bel) trodAll_mk0), rfl, bel.frame _, fun h => by cases h⟩

theorem tlbDoes_over : Rows.tlbDoesRow.holds Try.pinned (OpenSpec.ofChange Rows.tlbDoesSpec) :=
  OpenClaim.holds_of_wide 3 Try.f3 rfl rfl rfl rfl rfl rfl rfl ⟨rfl, rfl, rfl, rfl, rfl⟩ rfl rfl rfl rfl rfl (by kernel_rfl) Try.func3 (by kernel_rfl)
    (of_decide_eq_true (by kernel_rfl)) (by unfold Func.isWrapper; first | (rw [if_pos (by decide +kernel)]; kernel_rfl) | (rw [if_neg (by decide +kernel)]; exact ⟨rfl, rfl⟩))
    (fun os started H enc _ => tlbDoes_lifted os started H enc)

theorem tlbDoes_proved : Rows.TlbDoesSaid := tlbDoes_over
#print axioms tlbDoes_proved
end Go.Proofs.Ytkcmlmofcjdgoad
