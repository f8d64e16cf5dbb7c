
/-
  BookDoes is true for every argument: each function of package book answers as the document's own book does.
-/
import Derived.Test.YtkcmlmofcjdgoabBookTwo
import Derived.Deep.RegionHeld3
import Derived.Deep.DeepCutAuto
namespace Go.Proofs.Ytkcmlmofcjdgoab
open Go.ChangeShapes Go.WideShapes Go.ChangeAt Go.RowKit Go.Joins Go.Sort
set_option maxRecDepth 100000
set_option linter.unusedVariables false

theorem MpAt.of {w w' : World} {Y : Nat} {m : Pg.Mp} (h : MpAt w Y 0 m) (hc : ∀ o, w'.cell? ⟨Y, o, none⟩ = w.cell? ⟨Y, o, none⟩) : MpAt w' Y 0 m :=
  ⟨(hc _).trans h.1, (hc _).trans h.2.1, (hc _).trans h.2.2.1, (hc _).trans h.2.2.2⟩
theorem BstAt.cells {w : World} {X : Nat} {x : Bst} (h : BstAt w X 0 x) : w.cell? ⟨X, 0, none⟩ = some (.int .i64 x.kind) ∧ w.cell? ⟨X, 2, none⟩ = some (.int .i64 x.m.p) ∧ w.cell? ⟨X, 3, none⟩ = some (.int .i64 x.m.s) ∧ w.cell? ⟨X, 4, none⟩ = some (.int .i64 x.m.f) ∧ w.cell? ⟨X, 5, none⟩ = some (.int .i64 x.m.r) ∧ w.cell? ⟨X, 6, none⟩ = some (.int .i64 x.q) ∧ w.cell? ⟨X, 7, none⟩ = some (.int .i64 x.k) ∧ w.cell? ⟨X, 8, none⟩ = some (.bool x.u) := by
  obtain ⟨h0, _, h2, h3, h4, h5, h6, h7, h8⟩ := h
  simp only [Nat.zero_add] at h2 h3 h4 h5 h6 h7 h8
  exact ⟨h0, h2, h3, h4, h5, h6, h7, h8⟩

theorem set4_mp {w : World} {Y : Nat} {m0 : Pg.Mp} (h : MpAt w Y 0 m0) (p s f r : Int) : MpAt ((((w.setCell ⟨Y, 0, none⟩ (.int .i64 p)).setCell ⟨Y, 1, none⟩ (.int .i64 s)).setCell ⟨Y, 2, none⟩ (.int .i64 f)).setCell ⟨Y, 3, none⟩ (.int .i64 r)) Y 0 ⟨p, s, f, r⟩ := by
  obtain ⟨h0, h1, h2, h3⟩ := h
  simp only [Nat.zero_add] at h1 h2 h3
  refine ⟨?_, ?_, ?_, ?_⟩ <;> simp [go_sem, h0, h1, h2, h3]
theorem set4_other {w : World} {Y Z : Nat} (h : Z ≠ Y) (x0 x1 x2 x3 : Value) (o : Nat) : ((((w.setCell ⟨Y, 0, none⟩ x0).setCell ⟨Y, 1, none⟩ x1).setCell ⟨Y, 2, none⟩ x2).setCell ⟨Y, 3, none⟩ x3).cell? ⟨Z, o, none⟩ = w.cell? ⟨Z, o, none⟩ := by
  have hb := but_set4 (F := fun k => k = Y) (But.refl _ w) Y (.inr rfl) x0 x1 x2 x3
  by_cases hl : Z < w.heap.size
  · exact hb.cell (a := ⟨Z, o, none⟩) hl h
  · rw [World.cell?_setCell_other _ _ _ _ (fun e => h (by injection e with e _; exact e.symm)), World.cell?_setCell_other _ _ _ _ (fun e => h (by injection e with e _; exact e.symm)), World.cell?_setCell_other _ _ _ _ (fun e => h (by injection e with e _; exact e.symm)), World.cell?_setCell_other _ _ _ _ (fun e => h (by injection e with e _; exact e.symm))]
theorem set4_frozen {w : World} {Y Z : Nat} (x0 x1 x2 x3 : Value) (o : Nat) : ((((w.setCell ⟨Y, 0, none⟩ x0).setCell ⟨Y, 1, none⟩ x1).setCell ⟨Y, 2, none⟩ x2).setCell ⟨Y, 3, none⟩ x3).frozen? ⟨Z, o, none⟩ = w.frozen? ⟨Z, o, none⟩ := by simp

theorem ten_later {w w' : World} (hb : Below w.heap.size w w') {a0 a1 a2 a3 a4 a5 a6 a7 a8 a9 : Addr} {x0 x1 x2 x3 x4 x5 x6 x7 x8 x9 : Value} (h : w.cell? a0 = some x0 ∧ w.cell? a1 = some x1 ∧ w.cell? a2 = some x2 ∧ w.cell? a3 = some x3 ∧ w.cell? a4 = some x4 ∧ w.cell? a5 = some x5 ∧ w.cell? a6 = some x6 ∧ w.cell? a7 = some x7 ∧ w.cell? a8 = some x8 ∧ w.cell? a9 = some x9) : w'.cell? a0 = some x0 ∧ w'.cell? a1 = some x1 ∧ w'.cell? a2 = some x2 ∧ w'.cell? a3 = some x3 ∧ w'.cell? a4 = some x4 ∧ w'.cell? a5 = some x5 ∧ w'.cell? a6 = some x6 ∧ w'.cell? a7 = some x7 ∧ w'.cell? a8 = some x8 ∧ w'.cell? a9 = some x9 :=
  ⟨cell_later hb h.1, cell_later hb h.2.1, cell_later hb h.2.2.1, cell_later hb h.2.2.2.1, cell_later hb h.2.2.2.2.1, cell_later hb h.2.2.2.2.2.1, cell_later hb h.2.2.2.2.2.2.1, cell_later hb h.2.2.2.2.2.2.2.1, cell_later hb h.2.2.2.2.2.2.2.2.1, cell_later hb h.2.2.2.2.2.2.2.2.2⟩

set_option maxRecDepth 100000 in
set_option maxHeartbeats 40000000 in
theorem bookDoes_walk (w : World) (ad : Option Addr) (len cap : Nat) (q : Nat → Bst)
    (hq : ∀ j, j < len → (∃ b o, ad = some ⟨b, o, none⟩ ∧ b < w.heap.size ∧ BstAt w b (o + j * 9) (q j)) ∧ BstFits (q j)) :
    Calls Try.prog 6 #[.slice ad len cap] w fun e w' => e = .returned (.bool true) ∧ Below w.heap.size w w' := by
  have HQ : Hid _ := hq
  clear hq
  by_cases hl : 200 < len
  · have hl' : (200 : Int) < (len : Int) := by omega
    go_enter Try.func6, Try.ntmps6
    go_wp2_with fail
    refine (bookBegun_any _).mono ?_
    rintro e w1 ⟨rfl, hb1⟩
    go_wp2_with fail
    go_ret
    exact ⟨rfl, hb1⟩
  · have hl' : decide ((200 : Int) < (len : Int)) = false := by simp; omega
    go_enter Try.func6, Try.ntmps6
    go_wp2_with fail
    refine (bookBegun_any _).mono ?_
    rintro e w1 ⟨rfl, hb1⟩
    go_wp2_with fail
    refine (dbNew_any _).mono ?_
    rintro e w2 ⟨b, F, rfl, h2, hb2, hF2⟩
    have k2 : Hid (Two w (w2.alloc (.cells #[.slice none 0 0] 60)) b w2.heap.size [] [] F (.slice none 0 0)) := by
      have hB := bthen hb1 hb2
      refine ⟨Bkd.grow ⟨h2, hB, fun k hk => Nat.le_trans hb1.size (hF2 k hk)⟩ (balloc (brefl _) _), boxed (World.ownsRow_nil _ _ _ _) Pg.Good.nil (fun _ => rfl), fun k hk => ?_, fun k hk hk' => ?_⟩
      · rcases hk with rfl | hk
        · exact hB.size
        · simp [Value.ownBlock] at hk
      · rcases hk' with rfl | hk'
        · have := h2.lt hk
          omega
        · simp [Value.ownBlock] at hk'
    clear h2 hb1 hb2 hF2
    go_wp2_with fail
    generalize w2.heap.size = rb at *
    go_loopw [5] (fun i wr => ∃ k : Nat, k ≤ len ∧ i = .int .i64 k ∧ Hid (∃ L F vb, Two w wr b rb L L F vb)) (fun i _ => len - (intOf i).toNat)
    case atStart => exact ⟨0, by omega, rfl, ⟨_, _, _, k2.out⟩⟩
    case round =>
      obtain ⟨k, hk, rfl, HR⟩ := hrel
      obtain ⟨L, F, vb, HB⟩ := HR.out
      clear HR k2
      have HB : Hid _ := HB
      by_cases hlt : k < len
      · obtain ⟨⟨xb, xo, rfl, hxl, hx⟩, hfit⟩ := HQ.out k hlt
        have i0 : (0 : Int) ≤ (k : Int) := by omega
        have i1 : (k : Int) < (len : Int) := by omega
        generalize q k = x at *
        obtain ⟨kind, core, ⟨mp, ms, mf, mr⟩, aq, ak, au⟩ := x
        obtain ⟨x0, x1, x2, x3, x4, x5, x6, x7, x8⟩ := hx
        have y0 := (HB.out.db.bel.cell (p := ⟨xb, xo + k * 9, none⟩) hxl).trans x0
        have y1 := (HB.out.db.bel.cell (p := ⟨xb, xo + k * 9 + 1, none⟩) hxl).trans x1
        have y2 := (HB.out.db.bel.cell (p := ⟨xb, xo + k * 9 + 2, none⟩) hxl).trans x2
        have y3 := (HB.out.db.bel.cell (p := ⟨xb, xo + k * 9 + 3, none⟩) hxl).trans x3
        have y4 := (HB.out.db.bel.cell (p := ⟨xb, xo + k * 9 + 4, none⟩) hxl).trans x4
        have y5 := (HB.out.db.bel.cell (p := ⟨xb, xo + k * 9 + 5, none⟩) hxl).trans x5
        have y6 := (HB.out.db.bel.cell (p := ⟨xb, xo + k * 9 + 6, none⟩) hxl).trans x6
        have y7 := (HB.out.db.bel.cell (p := ⟨xb, xo + k * 9 + 7, none⟩) hxl).trans x7
        have y8 := (HB.out.db.bel.cell (p := ⟨xb, xo + k * 9 + 8, none⟩) hxl).trans x8
        simp only at y0 y1 y2 y3 y4 y5 y6 y7 y8
        obtain ⟨f0, f1, f2, f3, f4, f5⟩ := hfit
        simp only at f0 f1 f2 f3 f4 f5
        clear x0 x1 x2 x3 x4 x5 x6 x7 x8 HQ
        have HX : Hid (∀ o, Two w (wr.alloc o) b rb L L F vb) := fun o => HB.out.grow (balloc (brefl wr) o)
        go_wp2_with fail
        refine (dbCopy_any _ (HX.out _).db.at').mono ?_
        rintro e w3 ⟨c, G, rfl, h3, hb3, hG3⟩
        have T3 := (HX.out _).grow hb3
        have T3 : Hid _ := T3
        have h3 : Hid _ := h3
        have X3 : Hid (BstAt w3 wr.heap.size 0 ⟨kind, core, ⟨mp, ms, mf, mr⟩, aq, ak, au⟩) := by
          have hc : ∀ o, w3.cell? ⟨wr.heap.size, o, none⟩ = _ := fun o => hb3.cell (p := ⟨wr.heap.size, o, none⟩) (by simp)
          refine ⟨(hc _).trans ?_, (hc _).trans ?_, (hc _).trans ?_, (hc _).trans ?_, (hc _).trans ?_, (hc _).trans ?_, (hc _).trans ?_, (hc _).trans ?_, (hc _).trans ?_⟩ <;> simp [go_sem]
        have l3 : wr.heap.size < w3.heap.size := by have := hb3.size; simp at this; omega
        have hG3 : Hid (∀ k, G k → wr.heap.size < k) := fun k hk => by have := hG3 k hk; simp at this; omega
        clear hb3
        go_wp2_with fail
        refine (refCopy_any _ T3.out.bk).mono ?_
        rintro e w4 ⟨rc, vc, rfl, h4, hb4, hF4⟩
        have HP : Hid (∀ o o', Pre w ((w4.alloc o).alloc o') b rb c rc wr.heap.size w4.heap.size ⟨kind, core, ⟨mp, ms, mf, mr⟩, aq, ak, au⟩ L L L F vb G vc) := by
          intro o o'
          have hb5 : Below w3.heap.size w3 ((w4.alloc o).alloc o') := balloc (balloc hb4 _) _
          have hz := hb4.size
          have hw := HB.out.db.bel.size
          have hlF : ∀ k, F k → k < wr.heap.size := fun k hk => HB.out.db.at'.lt hk
          have hlB : ∀ k, bkF rb vb k → k < wr.heap.size := fun k hk => HB.out.bk.lt hk
          have hlG : ∀ k, G k → k < w3.heap.size := fun k hk => h3.out.lt hk
          have hlC : ∀ k, bkF rc vc k → k < w4.heap.size := fun k hk => h4.lt hk
          refine ⟨T3.out.grow hb5, h3.out.keep (G := fun _ => False) (But.of_below hb5) (fun _ _ => id), h4.grow (balloc (balloc (brefl _) _) _), X3.out.of fun o => hb5.cell (p := ⟨wr.heap.size, o, none⟩) l3, by simp; omega, by simp, by omega, fun k hk => ?_, fun k hk => ?_, ⟨?_, ?_⟩, ⟨?_, ?_⟩, by omega, by omega⟩
          · have := hlF k hk
            exact ⟨fun h => by have := hG3.out k h; omega, fun h => by have := hF4 k h; omega, by omega, by omega, by omega⟩
          · have := hlB k hk
            exact ⟨fun h => by have := hG3.out k h; omega, fun h => by have := hF4 k h; omega, by omega, by omega, by omega⟩
          · exact fun h => by have := hlG _ h; omega
          · exact fun h => by have := hlG _ h; omega
          · exact fun h => by have := hlC _ h; omega
          · exact fun h => by have := hlC _ h; omega
        have hc4 : ∀ o, w4.cell? ⟨wr.heap.size, o, none⟩ = w3.cell? ⟨wr.heap.size, o, none⟩ := fun o => hb4.cell (p := ⟨wr.heap.size, o, none⟩) l3
        have s0 := (hc4 0).trans X3.out.1
        have l4 : wr.heap.size < w4.heap.size := by have := hb4.size; omega
        have l5 : wr.heap.size < w4.heap.size + 1 := by omega
        have l6 : wr.heap.size ≤ w4.heap.size := by omega
        have s1 := cell_later (balloc (balloc (brefl w4) (.cells #[.int .i64 0, .int .i64 0, .int .i64 0, .int .i64 0] 62)) (.cells #[.int .i64 0, .int .i64 0, .int .i64 0, .int .i64 0] 62)) s0
        have hc4 : Hid _ := hc4
        clear h4 hb4 hF4 T3 h3 hG3 y0 y1 y2 y3 y4 y5 y6 y7 y8 HX
        simp only at s0
        generalize wr.heap.size = X at *
        go_upto_region 13 with fail
        go_cut [39] from 24 to 162 (fun s39 wc => s39 = .int .i64 kind ∧ wc = ((w4.alloc (.cells #[.int .i64 0, .int .i64 0, .int .i64 0, .int .i64 0] 62)).alloc (.cells #[.int .i64 0, .int .i64 0, .int .i64 0, .int .i64 0] 62)))
        case first =>
          go_wp2_with fail
          go_meet
          case rel => exact ⟨rfl, rfl⟩
        case rest =>
          obtain ⟨rfl, rfl⟩ := hcut
          rename_i hK1 K2 hK2
          refine hK2 _ _ ?_
          go_cut [11, 12] from 24 to 162 (fun cc dd wc => ∃ code, cc = .int .i64 code ∧ dd = .int .i64 code ∧ Hid (∃ L' F vb, Pre w wc b rb c rc X w4.heap.size ⟨kind, core, ⟨mp, ms, mf, mr⟩, aq, ak, au⟩ L' L' L F vb G vc ∧ ∃ mm, MpAt wc w4.heap.size 0 mm ∧ MpAt wc (w4.heap.size + 1) 0 mm))
          case first =>
            have HZ : Hid (MpAt ((w4.alloc (.cells #[.int .i64 0, .int .i64 0, .int .i64 0, .int .i64 0] 62)).alloc (.cells #[.int .i64 0, .int .i64 0, .int .i64 0, .int .i64 0] 62)) w4.heap.size 0 .zz ∧ MpAt ((w4.alloc (.cells #[.int .i64 0, .int .i64 0, .int .i64 0, .int .i64 0] 62)).alloc (.cells #[.int .i64 0, .int .i64 0, .int .i64 0, .int .i64 0] 62)) (w4.heap.size + 1) 0 .zz) := by
              refine ⟨⟨?_, ?_, ?_, ?_⟩, ⟨?_, ?_, ?_, ?_⟩⟩ <;> simp [go_sem] <;> rfl
            have HPz : Hid _ := HP.out (.cells #[.int .i64 0, .int .i64 0, .int .i64 0, .int .i64 0] 62) (.cells #[.int .i64 0, .int .i64 0, .int .i64 0, .int .i64 0] 62)
            have FZ : Hid ((∀ o, ((w4.alloc (.cells #[.int .i64 0, .int .i64 0, .int .i64 0, .int .i64 0] 62)).alloc (.cells #[.int .i64 0, .int .i64 0, .int .i64 0, .int .i64 0] 62)).frozen? ⟨w4.heap.size, o, none⟩ = false) ∧ (∀ o, ((w4.alloc (.cells #[.int .i64 0, .int .i64 0, .int .i64 0, .int .i64 0] 62)).alloc (.cells #[.int .i64 0, .int .i64 0, .int .i64 0, .int .i64 0] 62)).frozen? ⟨w4.heap.size + 1, o, none⟩ = false)) := by
              refine ⟨fun o => ?_, fun o => ?_⟩ <;> simp [go_sem]
            generalize ((w4.alloc (.cells #[.int .i64 0, .int .i64 0, .int .i64 0, .int .i64 0] 62)).alloc (.cells #[.int .i64 0, .int .i64 0, .int .i64 0, .int .i64 0] 62)) = wz at *
            clear HP s0 s1 hc4 X3 l3 l4 l5 l6 HB
            generalize w4.heap.size = Y at *
            by_cases h1 : kind = 1
            · as_aux_lemma =>
              subst h1
              have HPd : Hid _ := HPz.out.grow (brefl wz).drew
              obtain ⟨_, t2, t3, t4, t5, _, _, _⟩ := HPz.out.xs.cells
              simp only at t2 t3 t4 t5
              go_wp2_with fail
              go_region_held3 (fun w' => w'.cell? ⟨X, 2, none⟩ = some (.int .i64 mp) ∧ w'.cell? ⟨X, 3, none⟩ = some (.int .i64 ms) ∧ w'.cell? ⟨X, 4, none⟩ = some (.int .i64 mf) ∧ w'.cell? ⟨X, 5, none⟩ = some (.int .i64 mr)) (go_keep) (first
                | (go_at_call 30; refine (dbAdd_any (Pg.Mp.mk mp ms mf mr) f0 _ HPd.out.two.db.at').mono ?_; rintro e w5 ⟨rfl, F5, h5, hb5, hF5⟩; have P5 : Hid _ := HPd.out.left h5 hb5 hF5; have Y5 : Hid _ := HPd.out.yleft hb5; obtain ⟨_, z2, z3, z4, z5, _, _, _⟩ := P5.out.xs.cells; simp only at z2 z3 z4 z5; clear h5 hb5 hF5)
                | (go_at_call 31; refine (refAdd_any (Pg.Mp.mk mp ms mf mr) f0 _ P5.out.two.bk).mono ?_; rintro e w6 ⟨rfl, vb6, h6, hb6, hF6⟩; have P6 : Hid _ := P5.out.right h6 hb6 hF6; have Y6 : Hid _ := P5.out.yright hb6; obtain ⟨_, v2, v3, v4, v5, _, _, _⟩ := P6.out.xs.cells; simp only at v2 v3 v4 v5; clear h6 hb6 hF6))
              all_goals
                go_wp2_with fail
                go_meet
                case rel => exact ⟨_, rfl, rfl, ⟨_, _, _, P6.out, .zz, (HZ.out.1.of fun o => (Y5.out.1 o).1).of fun o => (Y6.out.1 o).1, (HZ.out.2.of fun o => (Y5.out.2 o).1).of fun o => (Y6.out.2 o).1⟩⟩
            · have n1 : (kind == 1) = false := by simpa using h1
              clear h1
              by_cases h2 : kind = 2
              · as_aux_lemma =>
                subst h2
                have nXY : X ≠ Y := HPz.out.aY.2.2.1
                have nYX : Y ≠ X := Ne.symm nXY
                have nXZ : X ≠ Y + 1 := HPz.out.aY.2.2.2
                obtain ⟨_, t2, t3, t4, t5, _, _, _⟩ := HPz.out.xs.cells
                simp only at t2 t3 t4 t5
                go_wp2_with fail
                refine (dbDrop_any mp f0 _ HPz.out.two.db.at').mono ?_
                rintro e w5 ⟨rfl, F5, h5, hb5, hF5⟩
                have P5 : Hid _ := HPz.out.left h5 hb5 hF5
                obtain ⟨Y5, Z5⟩ := HPz.out.yleft hb5
                have M5 : Hid (MpAt w5 Y 0 .zz) := HZ.out.1.of fun o => (Y5 o).1
                have N5 : Hid (MpAt w5 (Y + 1) 0 .zz) := HZ.out.2.of fun o => (Z5 o).1
                obtain ⟨a0, a1, a2, a3⟩ := M5.out
                simp only [Nat.zero_add] at a1 a2 a3
                have b0 : ∀ o, w5.frozen? ⟨Y, o, none⟩ = false := fun o => (Y5 o).2.trans (FZ.out.1 o)
                have b1 : Hid (∀ o, w5.frozen? ⟨Y + 1, o, none⟩ = false) := fun o => (Z5 o).2.trans (FZ.out.2 o)
                obtain ⟨_, z2, z3, z4, z5, _, _, _⟩ := P5.out.xs.cells
                simp only at z2 z3 z4 z5
                clear h5 hb5 hF5 Y5 Z5 t2 t3 t4 t5
                have HM : Hid (Pg.dropM L mp = Pg.dropM L mp) := rfl
                generalize hdm : Pg.dropM L mp = dm at *
                obtain ⟨dp, ds, df, dr⟩ := dm
                have hdm : Hid _ := hdm
                unfold Pg.Mp.val
                simp only
                go_wp2_with fail
                have P5' : Hid _ := P5.out.beside (but_set4 (F := fun k => k = Y ∨ k = Y + 1) (But.refl _ w5) Y (.inr (.inl rfl)) (.int .i64 dp) (.int .i64 ds) (.int .i64 df) (.int .i64 dr))
                refine (refDrop_any mp f0 _ P5'.out.two.bk).mono ?_
                rintro e w6 ⟨rfl, vb6, h6, hb6, hF6⟩
                have P6 : Hid _ := P5'.out.right h6 hb6 hF6
                obtain ⟨Y6, Z6⟩ := P5'.out.yright hb6
                have M6 : Hid (MpAt w6 Y 0 ⟨dp, ds, df, dr⟩) := (set4_mp M5.out dp ds df dr).of fun o => (Y6 o).1
                have N6 : Hid (MpAt w6 (Y + 1) 0 .zz) := (N5.out.of fun o => set4_other (by omega) _ _ _ _ o).of fun o => (Z6 o).1
                obtain ⟨c0, c1, c2, c3⟩ := N6.out
                simp only [Nat.zero_add] at c1 c2 c3
                have d1 : ∀ o, w6.frozen? ⟨Y + 1, o, none⟩ = false := fun o => (Z6 o).2.trans ((set4_frozen _ _ _ _ o).trans (b1.out o))
                rw [show Pg.dropM L mp = ⟨dp, ds, df, dr⟩ from hdm.out]
                clear h6 hb6 hF6 Y6 Z6 a0 a1 a2 a3 b0 b1 z2 z3 z4 z5
                unfold Pg.Mp.val
                simp only
                have fin : Hid _ := P6.out.beside (but_set4 (F := fun k => k = Y ∨ k = Y + 1) (But.refl _ w6) (Y + 1) (.inr (.inr rfl)) (.int .i64 dp) (.int .i64 ds) (.int .i64 df) (.int .i64 dr))
                have MF : Hid _ := M6.out.of fun o => set4_other (w := w6) (Y := Y + 1) (by omega) (.int .i64 dp) (.int .i64 ds) (.int .i64 df) (.int .i64 dr) o
                have NF : Hid _ := set4_mp N6.out dp ds df dr
                go_wp2_with fail
                go_meet
                case rel => exact ⟨_, rfl, rfl, ⟨_, _, _, fin.out, ⟨dp, ds, df, dr⟩, MF.out, NF.out⟩⟩
              · have n2 : (kind == 2) = false := by simpa using h2
                clear h2
                by_cases h3 : kind = 3
                · as_aux_lemma =>
                  subst h3
                  have nXY : X ≠ Y := HPz.out.aY.2.2.1
                  have nYX : Y ≠ X := Ne.symm nXY
                  have nXZ : X ≠ Y + 1 := HPz.out.aY.2.2.2
                  obtain ⟨_, t2, t3, t4, t5, _, _, _⟩ := HPz.out.xs.cells
                  simp only at t2 t3 t4 t5
                  go_wp2_with fail
                  refine (dbProtect_any mp mr f0 _ HPz.out.two.db.at').mono ?_
                  rintro e w5 ⟨rfl, F5, h5, hb5, hF5⟩
                  have P5 : Hid _ := HPz.out.left h5 hb5 hF5
                  obtain ⟨Y5, Z5⟩ := HPz.out.yleft hb5
                  have M5 : Hid (MpAt w5 Y 0 .zz) := HZ.out.1.of fun o => (Y5 o).1
                  have N5 : Hid (MpAt w5 (Y + 1) 0 .zz) := HZ.out.2.of fun o => (Z5 o).1
                  obtain ⟨a0, a1, a2, a3⟩ := M5.out
                  simp only [Nat.zero_add] at a1 a2 a3
                  have b0 : ∀ o, w5.frozen? ⟨Y, o, none⟩ = false := fun o => (Y5 o).2.trans (FZ.out.1 o)
                  have b1 : Hid (∀ o, w5.frozen? ⟨Y + 1, o, none⟩ = false) := fun o => (Z5 o).2.trans (FZ.out.2 o)
                  obtain ⟨_, z2, z3, z4, z5, _, _, _⟩ := P5.out.xs.cells
                  simp only at z2 z3 z4 z5
                  clear h5 hb5 hF5 Y5 Z5 t2 t3 t4 t5
                  have HM : Hid (Pg.protM L mp mr = Pg.protM L mp mr) := rfl
                  generalize hdm : Pg.protM L mp mr = dm at *
                  obtain ⟨dp, ds, df, dr⟩ := dm
                  have hdm : Hid _ := hdm
                  unfold Pg.Mp.val
                  simp only
                  go_wp2_with fail
                  have P5' : Hid _ := P5.out.beside (but_set4 (F := fun k => k = Y ∨ k = Y + 1) (But.refl _ w5) Y (.inr (.inl rfl)) (.int .i64 dp) (.int .i64 ds) (.int .i64 df) (.int .i64 dr))
                  refine (refProtect_any mp mr f0 _ P5'.out.two.bk).mono ?_
                  rintro e w6 ⟨rfl, vb6, h6, hb6, hF6⟩
                  have P6 : Hid _ := P5'.out.right h6 hb6 hF6
                  obtain ⟨Y6, Z6⟩ := P5'.out.yright hb6
                  have M6 : Hid (MpAt w6 Y 0 ⟨dp, ds, df, dr⟩) := (set4_mp M5.out dp ds df dr).of fun o => (Y6 o).1
                  have N6 : Hid (MpAt w6 (Y + 1) 0 .zz) := (N5.out.of fun o => set4_other (by omega) _ _ _ _ o).of fun o => (Z6 o).1
                  obtain ⟨c0, c1, c2, c3⟩ := N6.out
                  simp only [Nat.zero_add] at c1 c2 c3
                  have d1 : ∀ o, w6.frozen? ⟨Y + 1, o, none⟩ = false := fun o => (Z6 o).2.trans ((set4_frozen _ _ _ _ o).trans (b1.out o))
                  rw [show Pg.protM L mp mr = ⟨dp, ds, df, dr⟩ from hdm.out]
                  clear h6 hb6 hF6 Y6 Z6 a0 a1 a2 a3 b0 b1 z2 z3 z4 z5
                  unfold Pg.Mp.val
                  simp only
                  have fin : Hid _ := P6.out.beside (but_set4 (F := fun k => k = Y ∨ k = Y + 1) (But.refl _ w6) (Y + 1) (.inr (.inr rfl)) (.int .i64 dp) (.int .i64 ds) (.int .i64 df) (.int .i64 dr))
                  have MF : Hid _ := M6.out.of fun o => set4_other (w := w6) (Y := Y + 1) (by omega) (.int .i64 dp) (.int .i64 ds) (.int .i64 df) (.int .i64 dr) o
                  have NF : Hid _ := set4_mp N6.out dp ds df dr
                  go_wp2_with fail
                  go_meet
                  case rel => exact ⟨_, rfl, rfl, ⟨_, _, _, fin.out, ⟨dp, ds, df, dr⟩, MF.out, NF.out⟩⟩
                · have n3 : (kind == 3) = false := by simpa using h3
                  clear h3
                  go_wp2_with fail
                  go_meet
                  case rel => exact ⟨0, rfl, rfl, ⟨_, _, _, HPz.out, .zz, HZ.out⟩⟩
          case rest =>
            obtain ⟨code, rfl, rfl, HR9⟩ := hcut
            obtain ⟨L', F9, vb9, P9, ⟨pm, sm, fm, rm⟩, ⟨u0, u1, u2, u3⟩, ⟨v0, v1, v2, v3⟩⟩ := HR9.out
            clear HR9 HP s0 s1 hc4 X3 l3 l4 l5 l6 HB
            simp only [Nat.zero_add] at u0 u1 u2 u3 v0 v1 v2 v3
            generalize w4.heap.size = Y at *
            obtain ⟨ad9, cap9, rfl⟩ := ownsMaps_form P9.two.bk.row
            obtain ⟨adc, capc, rfl⟩ := ownsMaps_form P9.was.row
            have c9 := P9.two.bk.c0
            have cc := P9.was.c0
            have hlen' := P9.two.bk.good.len
            have hlen0 := P9.was.good.len
            have P9d : Hid _ := P9.grow (brefl wc).drew
            clear P9
            refine hK1 _ _ ?_
            go_upto_region 22 with fail
            go_cut [119] from 24 to 162 (fun s119 wd => s119 = .bool false ∧ Hid (Pre w wd b rb c rc X Y ⟨kind, core, ⟨mp, ms, mf, mr⟩, aq, ak, au⟩ L' L' L F9 (.slice ad9 L'.length cap9) G (.slice adc L.length capc)))
            case first =>
              as_aux_lemma =>
              have T4 : Hid (wc.drew.cell? ⟨rb, 0, none⟩ = some (.slice ad9 L'.length cap9) ∧ wc.drew.cell? ⟨rc, 0, none⟩ = some (.slice adc L.length capc) ∧ wc.drew.cell? ⟨Y, 0, none⟩ = some (.int .i64 pm) ∧ wc.drew.cell? ⟨Y, 1, none⟩ = some (.int .i64 sm) ∧ wc.drew.cell? ⟨Y, 2, none⟩ = some (.int .i64 fm) ∧ wc.drew.cell? ⟨Y, 3, none⟩ = some (.int .i64 rm) ∧ wc.drew.cell? ⟨Y + 1, 0, none⟩ = some (.int .i64 pm) ∧ wc.drew.cell? ⟨Y + 1, 1, none⟩ = some (.int .i64 sm) ∧ wc.drew.cell? ⟨Y + 1, 2, none⟩ = some (.int .i64 fm) ∧ wc.drew.cell? ⟨Y + 1, 3, none⟩ = some (.int .i64 rm)) := ⟨c9, cc, u0, u1, u2, u3, v0, v1, v2, v3⟩
              go_region_held3 (fun w' => w'.cell? ⟨rb, 0, none⟩ = some (.slice ad9 L'.length cap9) ∧ w'.cell? ⟨rc, 0, none⟩ = some (.slice adc L.length capc) ∧ w'.cell? ⟨Y, 0, none⟩ = some (.int .i64 pm) ∧ w'.cell? ⟨Y, 1, none⟩ = some (.int .i64 sm) ∧ w'.cell? ⟨Y, 2, none⟩ = some (.int .i64 fm) ∧ w'.cell? ⟨Y, 3, none⟩ = some (.int .i64 rm) ∧ w'.cell? ⟨Y + 1, 0, none⟩ = some (.int .i64 pm) ∧ w'.cell? ⟨Y + 1, 1, none⟩ = some (.int .i64 sm) ∧ w'.cell? ⟨Y + 1, 2, none⟩ = some (.int .i64 fm) ∧ w'.cell? ⟨Y + 1, 3, none⟩ = some (.int .i64 rm)) (go_keep) (first
                | (go_at_call 36; refine (sameMaps_yes _ m7.out (owns_mapsAt P7.out.was.row) hlen0).mono ?_; rintro e w8 ⟨rfl, hb8⟩; have T8 : Hid _ := ten_later hb8 T7.out; obtain ⟨z80, z81, z82, z83, z84, z85, z86, z87, z88, z89⟩ := T8.out; have P8 : Hid _ := P7.out.grow hb8)
                | (go_at_call 37; refine (dbList_any _ P6.out.old).mono ?_; rintro e w7 ⟨ad7, cap7, rfl, m7, hb7, hn7⟩; have T7 : Hid _ := ten_later hb7 T6.out; obtain ⟨z70, z71, z72, z73, z74, z75, z76, z77, z78, z79⟩ := T7.out; have P7 : Hid _ := P6.out.grow hb7; have m7 : Hid _ := m7; clear hn7)
                | (go_at_call 36; refine (sameMaps_yes _ m5.out (owns_mapsAt P5.out.two.bk.row) hlen').mono ?_; rintro e w6 ⟨rfl, hb6⟩; have T6 : Hid _ := ten_later hb6 T5.out; obtain ⟨z60, z61, z62, z63, z64, z65, z66, z67, z68, z69⟩ := T6.out; have P6 : Hid _ := P5.out.grow hb6)
                | (go_at_call 37; refine (dbList_any _ P9d.out.two.db.at').mono ?_; rintro e w5 ⟨ad5, cap5, rfl, m5, hb5, hn5⟩; have T5 : Hid _ := ten_later hb5 T4.out; obtain ⟨z50, z51, z52, z53, z54, z55, z56, z57, z58, z59⟩ := T5.out; have P5 : Hid _ := P9d.out.grow hb5; have m5 : Hid _ := m5; clear hn5))
              all_goals
                go_wp2_with fail
                go_meet
                case rel => exact ⟨rfl, P8.out⟩
            case rest =>
              obtain ⟨rfl, PD⟩ := hcut
              clear c9 cc u0 u1 u2 u3 v0 v1 v2 v3 P9d
              cases hf : Pg.fnd L' aq with
              | none =>
                as_aux_lemma =>
                obtain ⟨_, _, _, _, _, e6, e7, e8⟩ := PD.out.xs.cells
                simp only at e6 e7 e8
                have w1' : Pg.fndN L' aq = -1 := by simp [Pg.fndN, hf]
                have w2' : Pg.at' L' aq = .zz := by simp only [Pg.at', hf]
                have w3' : (Pg.fnd L' aq).isSome = false := by simp [hf]
                have HA := fun w (h : BkAt w rb (.slice ad9 L'.length cap9) L') => refFind_any aq f4 w h
                have HC := fun w (h : DbAt w b L' F9) => dbFind_any aq f4 w h
                rw [w1'] at HA
                rw [w2', w3'] at HC
                clear w1' w2' w3' hf
                go_wp2_with fail
                refine (HA _ PD.out.two.bk).mono ?_
                rintro e w10 ⟨rfl, hb10⟩
                have P10 : Hid _ := PD.out.grow hb10
                have e6 := cell_later hb10 e6
                have e7 := cell_later hb10 e7
                have e8 := cell_later hb10 e8
                clear hb10 HA PD
                go_wp2_with fail
                refine (HC _ P10.out.two.db.at').mono ?_
                rintro e w11 ⟨rfl, hb11⟩
                have P11 : Hid _ := P10.out.grow hb11
                have e6 := cell_later hb11 e6
                have e7 := cell_later hb11 e7
                have e8 := cell_later hb11 e8
                have c11 := P11.out.two.bk.c0
                clear hb11 HC P10
                rw [show (.zz : Pg.Mp).val = .agg #[.int .i64 0, .int .i64 0, .int .i64 0, .int .i64 0] from rfl]
                go_wp2_with fail
                have hbz := balloc (brefl w11) (.cells #[.int .i64 0, .int .i64 0, .int .i64 0, .int .i64 0] 62)
                have r6 := cell_regrown (cell_later hbz e6)
                have r7 := cell_regrown (cell_later hbz e7)
                have r8 := cell_regrown (cell_later hbz e8)
                have rr := cell_regrown (cell_later hbz c11)
                have s0 := cell_regrown (show (w11.alloc (.cells #[.int .i64 0, .int .i64 0, .int .i64 0, .int .i64 0] 62)).cell? ⟨w11.heap.size, 0, none⟩ = some (.int .i64 0) from cells_new _ _ _ _)
                have s1 := cell_regrown (show (w11.alloc (.cells #[.int .i64 0, .int .i64 0, .int .i64 0, .int .i64 0] 62)).cell? ⟨w11.heap.size, 1, none⟩ = some (.int .i64 0) from cells_new _ _ _ _)
                have s2 := cell_regrown (show (w11.alloc (.cells #[.int .i64 0, .int .i64 0, .int .i64 0, .int .i64 0] 62)).cell? ⟨w11.heap.size, 2, none⟩ = some (.int .i64 0) from cells_new _ _ _ _)
                have s3 := cell_regrown (show (w11.alloc (.cells #[.int .i64 0, .int .i64 0, .int .i64 0, .int .i64 0] 62)).cell? ⟨w11.heap.size, 3, none⟩ = some (.int .i64 0) from cells_new _ _ _ _)
                have HE : Hid (∀ d os, Pre w (grow (redrawn (w11.alloc (.cells #[.int .i64 0, .int .i64 0, .int .i64 0, .int .i64 0] 62)) d) os) b rb c rc X Y ⟨kind, core, ⟨mp, ms, mf, mr⟩, aq, ak, au⟩ L' L' L F9 (.slice ad9 L'.length cap9) G (.slice adc L.length capc)) := fun d os => (P11.out.grow hbz).grow (below_regrown _ d os)
                clear hbz
                refine wp_region_quiet_below (by kernel_rfl) (by kernel_rfl) ?_
                repeat (first
                  | go_big_quiet_step ((first
                    | (go_at_call 40; exact Calls.regrown_of (dbAnswer_any aq ak au f4 _ (HE.out _ _).two.db.at'))
                    | (go_at_call 41; exact Calls.regrown_of (refAnswer_any aq ak au f4 _ (HE.out _ _).two.bk)))))
                refine wpQuiet_nil ?_
                intro _ hw'
                obtain ⟨⟨dq, osq⟩, rfl⟩ := hw'
                have HF : Hid _ := (HE.out dq osq).two
                clear HE r6 r7 r8 rr s0 s1 s2 s3
                go_wp2_with fail
                go_roundw
                case rel => exact ⟨k + 1, by omega, by go_num, ⟨_, _, _, HF.out⟩⟩
                case measure => simp [intOf]; omega
              | some j =>
                as_aux_lemma =>
                obtain ⟨_, _, _, _, _, e6, e7, e8⟩ := PD.out.xs.cells
                simp only at e6 e7 e8
                have hj := Pg.fnd_some hf
                have w1' : Pg.fndN L' aq = (j : Int) := by simp [Pg.fndN, hf]
                have w2' : Pg.at' L' aq = L'.getD j .zz := by simp only [Pg.at', hf]
                have w3' : (Pg.fnd L' aq).isSome = true := by simp [hf]
                have hjl := hj.1
                have j0 : (0 : Int) ≤ (j : Int) := by omega
                have j1 : (j : Int) < (L'.length : Int) := by omega
                have j2 : decide ((0 : Int) ≤ (j : Int)) = true := by simp
                have HA := fun w (h : BkAt w rb (.slice ad9 L'.length cap9) L') => refFind_any aq f4 w h
                have HC := fun w (h : DbAt w b L' F9) => dbFind_any aq f4 w h
                rw [w1'] at HA
                rw [w2', w3'] at HC
                clear w1' w2' w3' hf hj
                go_wp2_with fail
                refine (HA _ PD.out.two.bk).mono ?_
                rintro e w10 ⟨rfl, hb10⟩
                have P10 : Hid _ := PD.out.grow hb10
                have e6 := cell_later hb10 e6
                have e7 := cell_later hb10 e7
                have e8 := cell_later hb10 e8
                clear hb10 HA PD
                go_wp2_with fail
                refine (HC _ P10.out.two.db.at').mono ?_
                rintro e w11 ⟨rfl, hb11⟩
                have P11 : Hid _ := P10.out.grow hb11
                have e6 := cell_later hb11 e6
                have e7 := cell_later hb11 e7
                have e8 := cell_later hb11 e8
                have c11 := P11.out.two.bk.c0
                clear hb11 HC P10
                obtain ⟨g, rfl, hg, hmg⟩ := owns_mapsAt P11.out.two.bk.row j hjl
                obtain ⟨o0, o1, o2, o3⟩ := hmg
                generalize L'.getD j .zz = y at *
                obtain ⟨yp, ys, yf, yr⟩ := y
                simp only at o0 o1 o2 o3
                rw [show (Pg.Mp.mk yp ys yf yr).val = .agg #[.int .i64 yp, .int .i64 ys, .int .i64 yf, .int .i64 yr] from rfl]
                go_wp2_with fail
                have hbz := balloc (brefl w11) (.cells #[.int .i64 yp, .int .i64 ys, .int .i64 yf, .int .i64 yr] 62)
                have r6 := cell_regrown (cell_later hbz e6)
                have r7 := cell_regrown (cell_later hbz e7)
                have r8 := cell_regrown (cell_later hbz e8)
                have rr := cell_regrown (cell_later hbz c11)
                have q0 := cell_regrown (cell_later hbz o0)
                have q1 := cell_regrown (cell_later hbz o1)
                have q2 := cell_regrown (cell_later hbz o2)
                have q3 := cell_regrown (cell_later hbz o3)
                have s0 := cell_regrown (show (w11.alloc (.cells #[.int .i64 yp, .int .i64 ys, .int .i64 yf, .int .i64 yr] 62)).cell? ⟨w11.heap.size, 0, none⟩ = some (.int .i64 yp) from cells_new _ _ _ _)
                have s1 := cell_regrown (show (w11.alloc (.cells #[.int .i64 yp, .int .i64 ys, .int .i64 yf, .int .i64 yr] 62)).cell? ⟨w11.heap.size, 1, none⟩ = some (.int .i64 ys) from cells_new _ _ _ _)
                have s2 := cell_regrown (show (w11.alloc (.cells #[.int .i64 yp, .int .i64 ys, .int .i64 yf, .int .i64 yr] 62)).cell? ⟨w11.heap.size, 2, none⟩ = some (.int .i64 yf) from cells_new _ _ _ _)
                have s3 := cell_regrown (show (w11.alloc (.cells #[.int .i64 yp, .int .i64 ys, .int .i64 yf, .int .i64 yr] 62)).cell? ⟨w11.heap.size, 3, none⟩ = some (.int .i64 yr) from cells_new _ _ _ _)
                have HE : Hid (∀ d os, Pre w (grow (redrawn (w11.alloc (.cells #[.int .i64 yp, .int .i64 ys, .int .i64 yf, .int .i64 yr] 62)) d) os) b rb c rc X Y ⟨kind, core, ⟨mp, ms, mf, mr⟩, aq, ak, au⟩ L' L' L F9 (.slice (some ⟨g, 0, none⟩) L'.length cap9) G (.slice adc L.length capc)) := fun d os => (P11.out.grow hbz).grow (below_regrown _ d os)
                clear hbz
                refine wp_region_quiet_below (by kernel_rfl) (by kernel_rfl) ?_
                repeat (first
                  | go_big_quiet_step ((first
                    | (go_at_call 40; exact Calls.regrown_of (dbAnswer_any aq ak au f4 _ (HE.out _ _).two.db.at'))
                    | (go_at_call 41; exact Calls.regrown_of (refAnswer_any aq ak au f4 _ (HE.out _ _).two.bk)))))
                refine wpQuiet_nil ?_
                intro _ hw'
                obtain ⟨⟨dq, osq⟩, rfl⟩ := hw'
                have HF : Hid _ := (HE.out dq osq).two
                clear HE r6 r7 r8 rr s0 s1 s2 s3
                go_wp2_with fail
                go_roundw
                case rel => exact ⟨k + 1, by omega, by go_num, ⟨_, _, _, HF.out⟩⟩
                case measure => simp [intOf]; omega
      · have i1 : ¬ (k : Int) < (len : Int) := by omega
        have HF : Hid _ := HB.out.db.bel
        clear HQ
        go_wp2_with fail
        go_ret
        exact ⟨rfl, HF.out⟩

set_option maxRecDepth 100000 in
theorem bookDoes_lifted (os : Os) (started : os.Started) (H : Type) (enc : TypeId × Value → H) :
    ReturnsInHanded {} Try.checked os 6 .any (Rows.bookDoesSpec.pre6 enc Try.prog Try.f6 Rows.bookDoesRow.domain false) (Rows.bookDoesSpec.post enc Try.prog Try.f6 false true false false) := by
  refine returnsInHanded_of_change (C := Try.checked) own started (by kernel_rfl) Try.func6
    (ChangeSpec.witness6 (enc := enc) (C := Try.checked) false ⟨#[], #[.slice none 0 0], []⟩ 8 (by kernel_rfl) (by kernel_rfl) (by kernel_rfl) (by kernel_rfl)) ?_
  intro W base args ds gs before hval0 hW hcnd _
  have hval : ∀ (j : Nat) t v, Try.f6.params[j]? = some t → args[j]? = some v → Value.okWide Try.prog W .any base t v := hval0
  have hW' := hW
  obtain ⟨p, q, hA0, hV, rfl, hfz, hnd⟩ := hW
  have hA : DataW.TrodAll enc Try.prog W 0 (fun _ => true) true Try.f6.params.toList args.toList ds p := hA0
  rw [Try.params6] at hA hval
  obtain ⟨v0, vs0, d0, ds0, p0, q0, hargs, rfl, rfl, h0, r0⟩ := trodAll_cons hA
  obtain ⟨rfl, rfl, rfl⟩ := trodAll_nil r0
  obtain rfl : args = #[v0] := by cases args; simp_all
  obtain ⟨rfl, rfl⟩ := trodVars_none hV
  obtain ⟨a0a, a0b, a0c, a0d, rfl, f0a⟩ := openBsts (hval 0 54 v0 rfl rfl) h0
  clear hA0 hval0
  refine (bookDoes_walk W a0a a0b a0c a0d f0a).mono fun e W' ⟨he, bel⟩ => ?_
  subst he
  exact ⟨_, rfl, _, _, _, [], _, [], hW', trodAll_mk1 (shut_bool Try.underlying4 _), (trodAll_cons_mk (stays (by kernel_rfl) (of_decide_eq_true (by kernel_rfl)) h0 bel) trodAll_mk0), rfl, bel.frame _, fun h => by cases h⟩

theorem bookDoes_over : Rows.bookDoesRow.holds Try.pinned (OpenSpec.ofChange Rows.bookDoesSpec) :=
  OpenClaim.holds_of_wide 6 Try.f6 rfl rfl rfl rfl rfl rfl rfl ⟨rfl, rfl, rfl, rfl, rfl⟩ rfl rfl rfl rfl rfl (by kernel_rfl) Try.func6 (by kernel_rfl)
    (of_decide_eq_true (by kernel_rfl)) (by unfold Func.isWrapper; first | (rw [if_pos (by decide +kernel)]; kernel_rfl) | (rw [if_neg (by decide +kernel)]; exact ⟨rfl, rfl⟩))
    (fun os started H enc _ => bookDoes_lifted os started H enc)

theorem bookDoes_proved : Rows.BookDoesSaid := bookDoes_over
#print axioms bookDoes_proved
end Go.Proofs.Ytkcmlmofcjdgoab
