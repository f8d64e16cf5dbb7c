/-
  Two spaces that lie apart, over a space's face; 'whole' of whatever access.
-/
import Derived.Test.YtiojflaehjbcbafGreatEmptyFace
namespace Go.Proofs.YtiojflaehjbcbafGreat
open Go.RowKit Go.Sort
set_option linter.unusedVariables false
set_option linter.unusedSimpArgs false
set_option maxRecDepth 100000

namespace Pg
/-- No walk is on its way. -/
def AllOff (X : Spc) : Prop := ∀ j, (X.C.getD j Cr.new).K.on = false
/-- What an access comes to at its end, of so many cores, by the mappings. -/
def WEnd (L : List Mp) (cn : Nat) (x : Sx) (e : Ev) : Prop := ((x.core < 0 ∨ (cn : Int) ≤ x.core) ∧ e = .code 1) ∨ ((0 ≤ x.core ∧ x.core < (cn : Int)) ∧ ((checkAccess x.q x.k = 0 ∧ e.c = 0 ∧ e.ended = true ∧ e.back = false ∧ Right L x.q x.k x.u e) ∨ (checkAccess x.q x.k ≠ 0 ∧ e = .code (checkAccess x.q x.k))))
theorem wend_same {L : List Mp} {cn : Nat} {x : Sx} {e e' : Ev} (h : WEnd L cn x e) (h' : WEnd L cn x e') : e = e' := by
  rcases h with ⟨a, b⟩ | ⟨a, b⟩
  · rcases h' with ⟨_, b'⟩ | ⟨a', _⟩
    · rw [b, b']
    · omega
  · rcases h' with ⟨a', _⟩ | ⟨_, b'⟩
    · omega
    · exact ends_same b b'
theorem go_core_bad {X : Spc} {x : Sx} (hk : x.kind = 4) (hc : x.core < 0 ∨ (X.C.length : Int) ≤ x.core) : X.goE x = .code 1 ∧ X.goN x = X := by
  unfold Spc.goE Spc.goN
  rw [if_neg (by omega), if_neg (by omega), if_pos hc, if_neg (by omega), if_neg (by omega), if_pos hc]
  exact ⟨rfl, rfl⟩
end Pg

section
variable {P : World → Nat → Pg.Spc → (Nat → Prop) → Prop}
/-- What 'whole' leaves. -/
structure Whd (P : World → Nat → Pg.Spc → (Nat → Prop) → Prop) (w w' : World) (b : Nat) (X : Pg.Spc) (F : Nat → Prop) (L L0 : List Pg.Mp) : Prop where
  ex : ∃ X' F', P w' b X' F' ∧ But F w w' ∧ (∀ k, F' k → F k ∨ w.heap.size ≤ k) ∧ Pg.Inv X' L L0 ∧ X'.busy = false ∧ Pg.AllOff X' ∧ X'.S.n = X.S.n ∧ X'.C.length = X.C.length
/-- Where 'whole' is behind i steps of the walk: the step lies at w.heap.size, the answer's variable behind it, the event at eb. -/
structure Whs (P : World → Nat → Pg.Spc → (Nat → Prop) → Prop) (w wr : World) (b eb : Nat) (X0 : Pg.Spc) (F0 : Nat → Prop) (L L0 : List Pg.Mp) (c : Nat) (q k : Int) (u : Bool) (i : Nat) (e : Pg.Ev) (X : Pg.Spc) (F : Nat → Prop) : Prop where
  cst : Pg.Cst X0 L L0 c q k u i e X
  at' : P wr b X F
  but : But F0 w wr
  own : ∀ y, F y → F0 y ∨ (w.heap.size + 2 ≤ y ∧ y ≠ eb)
  lt0 : ∀ y, F0 y → y < w.heap.size
  x1 : wr.cell? ⟨w.heap.size, 1, none⟩ = some (.int .i64 (c : Int))
  ev : (wr.cell? ⟨eb, 0, none⟩ = some (.int .i64 e.c) ∧ wr.cell? ⟨eb, 1, none⟩ = some (.bool e.ended) ∧ wr.cell? ⟨eb, 2, none⟩ = some (.int .i64 e.a) ∧ wr.cell? ⟨eb, 3, none⟩ = some (.int .i64 e.f) ∧ wr.cell? ⟨eb, 4, none⟩ = some (.int .i64 e.r) ∧ wr.cell? ⟨eb, 5, none⟩ = some (.bool e.back)) ∧ ∀ p, wr.frozen? ⟨eb, p, none⟩ = false
  rv : wr.heap[w.heap.size + 1]? = some (.cells #[.int .i64 0, .bool false, .int .i64 0, .int .i64 0, .int .i64 0, .bool false] 39 (0, 0))
  ebl : w.heap.size + 2 ≤ eb

set_option maxHeartbeats 2000000 in
theorem whole_bad (H : SpFace P) {b : Nat} {X : Pg.Spc} {F : Nat → Prop} {L L0 : List Pg.Mp} (x : Pg.Sx) (hk : x.kind = 4) (hf : SxFits x) (hc : x.core < 0 ∨ (X.C.length : Int) ≤ x.core) (I : Pg.Inv X L L0) (w : World) (h : P w b X F) :
    Calls Tryz.prog 9 #[.pointer (some ⟨b, 0, none⟩), x.val] w fun e w' => e = .returned (Pg.Ev.code 1).val ∧ ∃ F', P w' b X F' ∧ But F w w' ∧ ∀ k, F' k → F k ∨ w.heap.size ≤ k := by
  obtain ⟨W, hW⟩ : ∃ W, W = chW w x := ⟨_, rfl⟩
  have CW : Hid (ChW w W x) := by rw [hW]; exact chW_is w x
  have HD := H.step x W hf I (H.grow h CW.out.bel)
  obtain ⟨g1, g2⟩ := Pg.go_core_bad hk hc
  rw [g1, g2] at HD
  have LT : Hid (∀ y, F y → y < w.heap.size) := fun y hy => H.lt h hy
  have hWs : W.heap.size = w.heap.size + 2 := CW.out.size
  obtain ⟨x0, x1, x2, x3, x4, x5, x6, x7, x8⟩ := (⟨CW.out.x0, CW.out.x1, CW.out.x2, CW.out.x3, CW.out.x4, CW.out.x5, CW.out.x6, CW.out.x7, CW.out.x8⟩ : _ ∧ _ ∧ _ ∧ _ ∧ _ ∧ _ ∧ _ ∧ _ ∧ _)
  clear h g1 g2 hf hc I hk
  obtain ⟨kd, co, ⟨p, s, f, r⟩, q, k, u⟩ := x
  simp only [chW, Pg.Sx.val, Pg.Ev.val, Pg.Ev.code] at hW HD x0 x1 x2 x3 x4 x5 x6 x7 x8 ⊢
  go_enter Tryz.func9, Tryz.ntmps9
  go_upto_region 1 with fail
  rw [← hW]
  clear hW
  go_wp2_with fail
  refine HD.mono ?_
  rintro e w4 ⟨rfl, F4, h4, hb4, hF4⟩
  obtain ⟨W5, hW5⟩ : ∃ W5, W5 = w4.alloc (.cells #[.int .i64 1, .bool false, .int .i64 0, .int .i64 0, .int .i64 0, .bool false] 39) := ⟨_, rfl⟩
  have hb5 : Below w4.heap.size w4 W5 := by rw [hW5]; exact balloc (brefl _) _
  have hs4 : w.heap.size + 2 ≤ w4.heap.size := by have := hb4.size; omega
  have N1 : ¬ F (w.heap.size + 1) := fun e => by have := LT.out _ e; omega
  have hs5 : W5.heap.size = w4.heap.size + 1 := by rw [hW5]; simp
  have R5 : W5.heap[w.heap.size + 1]? = _ := (hb5.block _ (by omega)).trans ((hb4.block _ (by omega) N1).trans CW.out.ev)
  obtain ⟨⟨r0, r1, r2, r3, r4, r5⟩, rf⟩ := row6a R5
  obtain ⟨⟨z0, z1, z2, z3, z4, z5⟩, zf⟩ := row6a (show W5.heap[w4.heap.size]? = some (.cells #[.int .i64 1, .bool false, .int .i64 0, .int .i64 0, .int .i64 0, .bool false] 39 (0, 0)) by rw [hW5]; exact heap_alloc_new _ _)
  have FIN : Hid (∀ Wf, But (fun y => y = w.heap.size + 1) W5 Wf → ∃ F', P Wf b X F' ∧ But F w Wf ∧ ∀ k, F' k → F k ∨ w.heap.size ≤ k) := fun Wf hb => by
    refine ⟨F4, H.keep (H.grow h4 hb5) hb (fun y hy e => ?_), ((((But.of_below CW.out.bel).trans hb4 (fun _ _ h => h)).trans (But.of_below (F := fun _ => False) hb5) (fun _ _ h => h.elim))).trans hb (fun y hy e => by omega), fun y hy => (hF4 y hy).imp id (fun h => by omega)⟩
    rcases hF4 y hy with h | h
    · have := LT.out y h
      omega
    · omega
  have hsr : w.heap.size + 1 < W5.heap.size := by omega
  have hne : w.heap.size + 1 ≠ w4.heap.size := by omega
  clear h4 hb4 hF4 hb5 HD x0 x1 x2 x3 x4 x5 x6 x7 x8 CW R5 N1
  go_upto_region 2 with fail
  rw [← hW5]
  clear hW5
  go_wp2_with fail
  go_loopw [6] (fun i wr => ∃ t : Nat, t ≤ 6 ∧ i = .int .i64 t ∧ wr = W5) (fun i _ => 6 - (intOf i).toNat)
  case atStart => exact ⟨0, by omega, rfl, rfl⟩
  case round =>
    obtain ⟨t, ht, rfl, rfl⟩ := hrel
    cases hd : decide ((t : Int) < 6)
    · go_wp2_with fail
      refine bodyPost_ret (v := (Pg.Ev.code 1).val) ?_ rfl ⟨rfl, FIN.out _ ?_⟩
      · simp [results, Tryz.results9, go_sem, r0, r1, r2, r3, r4, r5, hsr, Pg.Ev.val, Pg.Ev.code]
      · exact uset6 (But.refl (fun y => y = w.heap.size + 1) wr) _ (.inr rfl) _ _ _ _ _ _
    · go_wp2_with fail
      refine bodyPost_ret (v := (Pg.Ev.code 1).val) ?_ rfl ⟨rfl, FIN.out _ ?_⟩
      · simp [results, Tryz.results9, go_sem, r0, r1, r2, r3, r4, r5, hsr, Pg.Ev.val, Pg.Ev.code]
      · exact uset6 (But.refl (fun y => y = w.heap.size + 1) wr) _ (.inr rfl) _ _ _ _ _ _
/-- The event was stored, where the space has gone on. -/
theorem Whs.next {w wr w7 : World} {b eb c i : Nat} {X0 X X' : Pg.Spc} {F0 F F' : Nat → Prop} {L L0 : List Pg.Mp} {q k : Int} {u : Bool} {e E : Pg.Ev} (H : SpFace P) (h : Whs P w wr b eb X0 F0 L L0 c q k u i e X F) (hc : Pg.Cst X0 L L0 c q k u (i + 1) E X') (h7 : P w7 b X' F') (hb : But F wr w7) (hF : ∀ y, F' y → F y ∨ wr.heap.size ≤ y) :
    Whs P w ((((((w7.setCell ⟨eb, 0, none⟩ (.int .i64 E.c)).setCell ⟨eb, 1, none⟩ (.bool E.ended)).setCell ⟨eb, 2, none⟩ (.int .i64 E.a)).setCell ⟨eb, 3, none⟩ (.int .i64 E.f)).setCell ⟨eb, 4, none⟩ (.int .i64 E.r)).setCell ⟨eb, 5, none⟩ (.bool E.back)) b eb X0 F0 L L0 c q k u (i + 1) E X' F' ∧ ((w7.cell? ⟨eb, 0, none⟩ = some (.int .i64 e.c) ∧ w7.cell? ⟨eb, 1, none⟩ = some (.bool e.ended) ∧ w7.cell? ⟨eb, 2, none⟩ = some (.int .i64 e.a) ∧ w7.cell? ⟨eb, 3, none⟩ = some (.int .i64 e.f) ∧ w7.cell? ⟨eb, 4, none⟩ = some (.int .i64 e.r) ∧ w7.cell? ⟨eb, 5, none⟩ = some (.bool e.back)) ∧ ∀ p, w7.frozen? ⟨eb, p, none⟩ = false) := by
  obtain ⟨⟨v0, v1, v2, v3, v4, v5⟩, vf⟩ := h.ev
  have hel : eb < wr.heap.size := World.block_lt_of_cell? _ _ v0
  have hxl : w.heap.size < wr.heap.size := World.block_lt_of_cell? _ _ h.x1
  have hrl : w.heap.size + 1 < wr.heap.size := (Array.getElem?_eq_some_iff.1 h.rv).1
  have hebl := h.ebl
  have out : ∀ y, w.heap.size ≤ y → (y < w.heap.size + 2 ∨ y = eb) → ¬ F y := fun y h1 h2 hf => by
    rcases h.own y hf with h' | h'
    · have := h.lt0 y h'
      omega
    · omega
  have kb := hb.block eb hel (out eb (by omega) (.inr rfl))
  have c0 := (World.cell?_of_block (a := ⟨eb, 0, none⟩) kb).trans v0
  have c1 := (World.cell?_of_block (a := ⟨eb, 1, none⟩) kb).trans v1
  have c2 := (World.cell?_of_block (a := ⟨eb, 2, none⟩) kb).trans v2
  have c3 := (World.cell?_of_block (a := ⟨eb, 3, none⟩) kb).trans v3
  have c4 := (World.cell?_of_block (a := ⟨eb, 4, none⟩) kb).trans v4
  have c5 := (World.cell?_of_block (a := ⟨eb, 5, none⟩) kb).trans v5
  have cf : ∀ p, w7.frozen? ⟨eb, p, none⟩ = false := fun p => (World.frozen?_of_block (a := ⟨eb, p, none⟩) kb).trans (vf p)
  have hs7 := hb.size
  have hst := uset6 (But.refl (fun y => y = eb) w7) eb (.inr rfl) (.int .i64 E.c) (.bool E.ended) (.int .i64 E.a) (.int .i64 E.f) (.int .i64 E.r) (.bool E.back)
  have hown : ∀ y, F' y → F0 y ∨ (w.heap.size + 2 ≤ y ∧ y ≠ eb) := fun y hy => by
    rcases hF y hy with h' | h'
    · exact h.own y h'
    · exact .inr (by omega)
  refine ⟨⟨hc, H.keep h7 hst (fun y hy e' => ?_), ((h.but.trans hb (fun y hy hf => ?_)).trans hst (fun y hy e' => by omega)), hown, h.lt0, ?_, ⟨⟨?_, ?_, ?_, ?_, ?_, ?_⟩, fun p => ?_⟩, ?_, h.ebl⟩, ⟨c0, c1, c2, c3, c4, c5⟩, cf⟩
  · rcases hown y hy with h' | h'
    · have := h.lt0 y h'
      omega
    · omega
  · rcases h.own y hf with h' | h'
    · exact h'
    · omega
  · exact (hst.cell (a := ⟨w.heap.size, 1, none⟩) (show w.heap.size < _ by omega) (show ¬ w.heap.size = eb by omega)).trans ((hb.cell (a := ⟨w.heap.size, 1, none⟩) hxl (out w.heap.size (Nat.le_refl _) (.inl (by omega)))).trans h.x1)
  iterate 7 (· simp [go_sem, c0, c1, c2, c3, c4, c5, cf])
  · exact (hst.block _ (by omega) (by omega)).trans ((hb.block _ hrl (out (w.heap.size + 1) (by omega) (.inl (by omega)))).trans h.rv)
set_option maxHeartbeats 4000000 in
theorem whole_good (H : SpFace P) {b c : Nat} {X : Pg.Spc} {F : Nat → Prop} {L L0 : List Pg.Mp} (m : Pg.Mp) (q k : Int) (u : Bool) (hf : SxFits (.acc c m q k u)) (hl : c < X.C.length) (I : Pg.Inv X L L0) (hbz : X.busy = false) (hoff : Pg.AllOff X) (w : World) (h : P w b X F) :
    Calls Tryz.prog 9 #[.pointer (some ⟨b, 0, none⟩), (Pg.Sx.acc c m q k u).val] w fun e w' => ∃ E, e = .returned (Pg.Ev.val E) ∧ Pg.WEnd L X.C.length (.acc c m q k u) E ∧ Whd P w w' b X F L L0 := by
  obtain ⟨W, hW⟩ : ∃ W, W = chW w (.acc c m q k u) := ⟨_, rfl⟩
  have CW : Hid (ChW w W (.acc c m q k u)) := by rw [hW]; exact chW_is w _
  have HD := H.step (.acc c m q k u) W hf I (H.grow h CW.out.bel)
  have CS : Hid _ := Pg.cst_begin I hbz hl (hoff c) m q k u
  have LT : Hid (∀ y, F y → y < w.heap.size) := fun y hy => H.lt h hy
  have hWs : W.heap.size = w.heap.size + 2 := CW.out.size
  have WEN : Hid (∀ e, ((Pg.checkAccess q k = 0 ∧ e.c = 0 ∧ e.ended = true ∧ e.back = false ∧ Pg.Right L q k u e) ∨ (Pg.checkAccess q k ≠ 0 ∧ e = .code (Pg.checkAccess q k))) → Pg.WEnd L X.C.length (.acc c m q k u) e) := fun e he => .inr ⟨⟨by show (0 : Int) ≤ (c : Int); omega, by show (c : Int) < _; omega⟩, he⟩
  have HOF : Hid _ := hoff
  obtain ⟨x0, x1, x2, x3, x4, x5, x6, x7, x8⟩ := (⟨CW.out.x0, CW.out.x1, CW.out.x2, CW.out.x3, CW.out.x4, CW.out.x5, CW.out.x6, CW.out.x7, CW.out.x8⟩ : _ ∧ _ ∧ _ ∧ _ ∧ _ ∧ _ ∧ _ ∧ _ ∧ _)
  clear h hf I hbz hoff
  generalize hE : X.goE (.acc c m q k u) = E0 at *
  generalize hN : X.goN (.acc c m q k u) = X1 at *
  clear hE hN
  obtain ⟨p, s, f, r⟩ := m
  simp only [chW, Pg.Sx.acc, Pg.Sx.val] at hW HD x0 x1 x2 x3 x4 x5 x6 x7 x8 ⊢
  have HEV : Hid (E0.val = .agg #[.int .i64 E0.c, .bool E0.ended, .int .i64 E0.a, .int .i64 E0.f, .int .i64 E0.r, .bool E0.back]) := rfl
  rw [HEV.out] at HD
  go_enter Tryz.func9, Tryz.ntmps9
  go_upto_region 1 with fail
  rw [← hW]
  clear hW
  go_wp2_with fail
  refine HD.mono ?_
  rintro e w4 ⟨rfl, F4, h4, hb4, hF4⟩
  obtain ⟨W5, hW5⟩ : ∃ W5, W5 = w4.alloc (.cells #[.int .i64 E0.c, .bool E0.ended, .int .i64 E0.a, .int .i64 E0.f, .int .i64 E0.r, .bool E0.back] 39) := ⟨_, rfl⟩
  have hb5 : Below w4.heap.size w4 W5 := by rw [hW5]; exact balloc (brefl _) _
  have hs4 : w.heap.size + 2 ≤ w4.heap.size := by have := hb4.size; omega
  have N1 : ∀ y, w.heap.size ≤ y → ¬ F y := fun y hy e => by have := LT.out _ e; omega
  have H5 : Hid (Whs P w W5 b w4.heap.size X F L L0 c q k u 0 E0 X1 F4) := by
    refine ⟨CS.out, H.grow h4 hb5, ((But.of_below CW.out.bel).trans hb4 (fun _ _ h => h)).trans (But.of_below (F := fun _ => False) hb5) (fun _ _ h => h.elim), fun y hy => ?_, LT.out, ?_, row6a (show W5.heap[w4.heap.size]? = some (.cells #[.int .i64 E0.c, .bool E0.ended, .int .i64 E0.a, .int .i64 E0.f, .int .i64 E0.r, .bool E0.back] 39 (0, 0)) by rw [hW5]; exact heap_alloc_new _ _), ?_, hs4⟩
    · have hy4 := H.lt h4 hy
      exact (hF4 y hy).imp id (fun h => by omega)
    · exact (hb5.cell (p := ⟨w.heap.size, 1, none⟩) (show w.heap.size < _ by omega)).trans ((hb4.cell (a := ⟨w.heap.size, 1, none⟩) (show w.heap.size < _ by omega) (N1 _ (Nat.le_refl _))).trans x1)
    · exact (hb5.block _ (by omega)).trans ((hb4.block _ (by omega) (N1 _ (by omega))).trans CW.out.ev)
  clear h4 hb4 hF4 hb5 HD x0 x1 x2 x3 x4 x5 x6 x7 x8 CW N1 CS HEV
  go_upto_region 2 with fail
  rw [← hW5]
  clear hW5
  generalize w4.heap.size = eb at *
  go_wp2_with fail
  go_loopw [6] (fun i wr => ∃ t : Nat, t ≤ 6 ∧ i = .int .i64 t ∧ Hid (∃ e X' F', Whs P w wr b eb X F L L0 c q k u t e X' F')) (fun i _ => 6 - (intOf i).toNat)
  case atStart => exact ⟨0, by omega, rfl, ⟨_, _, _, H5.out⟩⟩
  case round =>
    obtain ⟨t, ht, rfl, HR⟩ := hrel
    clear H5
    obtain ⟨e, X', F', HS⟩ := HR.out
    have HS : Hid _ := HS
    clear HR
    obtain ⟨⟨v0, v1, v2, v3, v4, v5⟩, vf⟩ := HS.out.ev
    have hel : eb < wr.heap.size := World.block_lt_of_cell? _ _ v0
    by_cases hgo : t < 6 ∧ e.c = 0 ∧ e.ended = false
    · obtain ⟨ht6, hec, hee⟩ := hgo
      have t1 : (t : Int) < 6 := by omega
      have hlc : c < X'.C.length := by rw [HS.out.cst.len]; exact hl
      obtain ⟨_, hcn⟩ := Pg.cst_step HS.out.cst hlc hec hee
      have HD := H.step (.wlk c) wr ⟨zeroFits, zeroFits, zeroFits, zeroFits, zeroFits, zeroFits⟩ HS.out.cst.inv HS.out.at'
      have NX : Hid _ := fun w7 F7 (h7 : P w7 b (X'.goN (.wlk c)) F7) (hb : But F' wr w7) (hF : ∀ y, F7 y → F' y ∨ wr.heap.size ≤ y) => HS.out.next H hcn h7 hb hF
      have x1 := HS.out.x1
      generalize X'.goE (.wlk c) = E at *
      generalize X'.goN (.wlk c) = X7 at *
      rw [hec] at v0
      rw [hee] at v1
      rw [show Pg.Ev.val E = .agg #[.int .i64 E.c, .bool E.ended, .int .i64 E.a, .int .i64 E.f, .int .i64 E.r, .bool E.back] from rfl] at HD
      simp only [Pg.Sx.wlk, Pg.Sx.val, Pg.Mp.zz] at HD
      clear hec hee hcn hlc HS
      go_wp2_with fail
      refine HD.mono ?_
      rintro e' w7 ⟨rfl, F7, h7, hb7, hF7⟩
      obtain ⟨N7, ⟨c0, c1, c2, c3, c4, c5⟩, cf⟩ := NX.out w7 F7 h7 hb7 hF7
      have N7 : Hid _ := N7
      have hel7 : eb < w7.heap.size := Nat.lt_of_lt_of_le hel hb7.size
      clear h7 hb7 hF7 HD NX v0 v1 v2 v3 v4 v5 vf x1
      go_wp2_with fail
      go_roundw
      case rel => exact ⟨t + 1, by omega, by go_num, ⟨_, _, _, N7.out⟩⟩
      case measure => simp [intOf]; omega
    · have hd : t = 6 ∨ e.c ≠ 0 ∨ e.ended = true := by
        by_cases h6 : t = 6
        · exact .inl h6
        · by_cases h0 : e.c = 0
          · cases he : e.ended
            · exact absurd ⟨by omega, h0, he⟩ hgo
            · exact .inr (.inr rfl)
          · exact .inr (.inl h0)
      obtain ⟨a1, a2⟩ := Pg.cst_end HS.out.cst hd
      have HWE : Hid _ := WEN.out e a2
      have hrl : w.heap.size + 1 < wr.heap.size := (Array.getElem?_eq_some_iff.1 HS.out.rv).1
      obtain ⟨⟨r0, r1, r2, r3, r4, r5⟩, rf⟩ := row6a HS.out.rv
      have hebl := HS.out.ebl
      have FIN : Hid (∀ Wf, But (fun y => y = w.heap.size + 1) wr Wf → Whd P w Wf b X F L L0) := fun Wf hb => by
        refine ⟨X', F', H.keep HS.out.at' hb (fun y hy e' => ?_), HS.out.but.trans hb (fun y hy e' => by omega), fun y hy => (HS.out.own y hy).imp id (fun h => by omega), HS.out.cst.inv, HS.out.cst.calm, fun j => ?_, HS.out.cst.n, HS.out.cst.len⟩
        · rcases HS.out.own y hy with h' | h'
          · have := HS.out.lt0 y h'
            omega
          · omega
        · by_cases ej : j = c
          · rw [ej]; exact a1
          · rw [HS.out.cst.oth j ej]
            exact HOF.out j
      clear HS a1 a2 hgo WEN
      have hne1 : eb ≠ w.heap.size + 1 := by omega
      have hne2 : w.heap.size + 1 ≠ eb := by omega
      by_cases h6 : t = 6
      · have t1 : decide ((t : Int) < 6) = false := by simp; omega
        clear hd h6
        go_wp2_with fail
        refine bodyPost_ret (v := Pg.Ev.val e) ?_ rfl ⟨e, rfl, HWE.out, FIN.out _ ?_⟩
        · simp [results, Tryz.results9, go_sem, r0, r1, r2, r3, r4, r5, hrl, Pg.Ev.val]
        · exact uset6 (But.refl (fun y => y = w.heap.size + 1) wr) _ (.inr rfl) _ _ _ _ _ _
      · have t1 : decide ((t : Int) < 6) = true := by simp; omega
        by_cases h0 : e.c = 0
        · have he : e.ended = true := by
            rcases hd with h | h | h
            · exact absurd h h6
            · exact absurd h0 h
            · exact h
          have w0 : (e.c == 0) = true := by simpa using h0
          have HEE : Hid _ := he
          have v1' : wr.cell? ⟨eb, 1, none⟩ = some (.bool true) := by rw [v1, he]
          clear hd h0
          clear v1
          have v1 := v1'
          clear v1'
          go_wp2_with fail
          refine bodyPost_ret (v := Pg.Ev.val e) ?_ rfl ⟨e, rfl, HWE.out, FIN.out _ ?_⟩
          · simp [results, Tryz.results9, go_sem, r0, r1, r2, r3, r4, r5, hrl, Pg.Ev.val, HEE.out]
          · exact uset6 (But.refl (fun y => y = w.heap.size + 1) wr) _ (.inr rfl) _ _ _ _ _ _
        · have w0 : (e.c == 0) = false := by simpa using h0
          clear hd h0
          go_wp2_with fail
          refine bodyPost_ret (v := Pg.Ev.val e) ?_ rfl ⟨e, rfl, HWE.out, FIN.out _ ?_⟩
          · simp [results, Tryz.results9, go_sem, r0, r1, r2, r3, r4, r5, hrl, Pg.Ev.val]
          · exact uset6 (But.refl (fun y => y = w.heap.size + 1) wr) _ (.inr rfl) _ _ _ _ _ _
end
end Go.Proofs.YtiojflaehjbcbafGreat

namespace Go.Proofs.YtiojflaehjbcbafGreat
open Go.RowKit
set_option linter.unusedVariables false
set_option maxRecDepth 10000
namespace Pg
/-- A space of two cores, of so many frames, no walk on its way. -/
structure Lone (X : Spc) (L : List Mp) (n : Nat) : Prop where
  inv : ∃ L0, Inv X L L0
  off : AllOff X
  n : X.S.n = n
  two : X.C.length = 2
section
variable {X Y : Spc} {L L0 : List Mp} {n : Nat}
theorem getD_set_off {C : List Cr} (h : ∀ j, (C.getD j Cr.new).K.on = false) (i : Nat) {D : Cr} (hd : D.K.on = false) (j : Nat) : ((C.set i D).getD j Cr.new).K.on = false := by
  by_cases e : i = j
  · by_cases hj : j < C.length
    · simp [List.getD, e, hj, hd]
    · have := h j
      simp [List.getD, e, hj] at this ⊢
      exact this
  · have := h j
    simp [List.getD, e] at this ⊢
    exact this
theorem told_off {C : Cr} {r : Int} {T : Mp} (h : C.K.on = false) : (C.told r T).K.on = false := by
  unfold Cr.told
  simp [Wk.again, h]
/-- Changes leave the cores be. -/
theorem ch_C (X : Spc) (x : Sx) : (X.chN x).C = X.C := by
  unfold Spc.chN Spc.post
  repeat' split
  all_goals rfl
theorem off_change (h : AllOff X) {x : Sx} (hk : 1 ≤ x.kind ∧ x.kind ≤ 3) : AllOff (X.goN x) := by
  unfold AllOff Spc.goN
  rw [if_pos hk, ch_C]
  exact h
theorem off_ack (h : AllOff X) (k : Nat) : AllOff (X.goN (.ack k)) := by
  unfold AllOff Spc.goN
  rw [if_neg (show ¬ (1 ≤ (Sx.ack k).kind ∧ (Sx.ack k).kind ≤ 3) from fun e => by have : (6 : Int) ≤ 3 := e.2; omega), if_neg (show ¬ ((Sx.ack k).kind < 1 ∨ 7 < (Sx.ack k).kind) by show ¬ ((6 : Int) < 1 ∨ (7 : Int) < 6); omega)]
  split
  · exact h
  · rw [if_neg (show ¬ (Sx.ack k).kind = 4 by show ¬ (6 : Int) = 4; omega), if_neg (show ¬ (Sx.ack k).kind = 5 by show ¬ (6 : Int) = 5; omega), if_pos (show (Sx.ack k).kind = 6 from rfl)]
    unfold Spc.akN
    split
    · exact h
    · split
      · exact getD_set_off h _ (told_off (h _))
      · exact getD_set_off h _ (told_off (h _))
theorem off_evict (h : AllOff X) {x : Sx} (hk : x.kind = 7) : AllOff (X.goN x) := by
  unfold AllOff Spc.goN
  rw [if_neg (by omega), if_neg (by omega)]
  split
  · exact h
  · rw [if_neg (by omega), if_neg (by omega), if_neg (by omega)]
    exact getD_set_off h _ (h _)
theorem evict_W {x : Sx} (hk : x.kind = 7) : (X.goN x).W = X.W := by
  unfold Spc.goN
  rw [if_neg (by omega), if_neg (by omega)]
  split
  · rfl
  · rw [if_neg (by omega), if_neg (by omega), if_neg (by omega)]
theorem lone_new {nn : Nat} (h1 : 1 ≤ nn) (h2 : nn ≤ 128) : Lone (Spc.new 2 nn) [] nn := by
  refine ⟨⟨[], inv_new (by decide) h1 h2⟩, fun j => ?_, ?_, rfl⟩
  · rcases j with _ | _ | j
    · rfl
    · rfl
    · rfl
  · show (Fs.new nn).take.n = nn
    rw [takes_n]
    rfl
theorem new_calm (nn : Nat) : (Spc.new 2 nn).busy = false := rfl
theorem Lone.change (h : Lone X L n) {x : Sx} (hk : 1 ≤ x.kind ∧ x.kind ≤ 3) : Lone (X.goN x) (X.nxL L x) n := by
  obtain ⟨L0, I⟩ := h.inv
  exact ⟨⟨_, inv_step I x⟩, off_change h.off hk, (go_sizes I x).1.trans h.n, (go_sizes I x).2.trans h.two⟩
theorem Lone.ack (h : Lone X L n) (k : Nat) : Lone (X.goN (.ack k)) L n := by
  obtain ⟨L0, I⟩ := h.inv
  exact ⟨⟨_, inv_ack I k⟩, off_ack h.off k, (go_sizes I _).1.trans h.n, (go_sizes I _).2.trans h.two⟩
theorem Lone.acked (h : Lone X L n) {k : Nat} (hk : k < 2) (hw : ∀ j, j < k → X.W.getD j false = false) : ∀ j, j < k + 1 → (X.goN (.ack k)).W.getD j false = false := by
  obtain ⟨L0, I⟩ := h.inv
  intro j hj
  rw [ack_waits I (by rw [h.two]; exact hk)]
  split
  · rfl
  · exact hw j (by omega)
theorem Lone.calm (h : Lone X L n) (hw : ∀ j, j < 2 → X.W.getD j false = false) : X.busy = false := by
  obtain ⟨L0, I⟩ := h.inv
  exact I.idle (by rw [h.two]; exact hw)
theorem Lone.evict (h : Lone X L n) {x : Sx} (hk : x.kind = 7) : Lone (X.goN x) L n ∧ (X.goN x).busy = X.busy := by
  obtain ⟨L0, I⟩ := h.inv
  have I' := inv_step I x
  have e1 : X.nxL L x = L := by unfold Spc.nxL; rw [if_neg (by omega)]
  rw [e1] at I'
  refine ⟨⟨⟨_, I'⟩, off_evict h.off hk, (go_sizes I x).1.trans h.n, (go_sizes I x).2.trans h.two⟩, ?_⟩
  unfold Spc.busy
  rw [evict_W hk]
/-- Spaces with the same mappings have as many free frames. -/
theorem Lone.free (h : Lone X L n) (h' : Lone Y L n) (hb : X.busy = false) (hb' : Y.busy = false) : X.S.free = Y.S.free := by
  obtain ⟨L0, I⟩ := h.inv
  obtain ⟨L0', I'⟩ := h'.inv
  obtain ⟨_, _, _, a4, a5⟩ := inv_tables I
  obtain ⟨_, _, _, b4, b5⟩ := inv_tables I'
  rw [I.calm hb, h.n] at a4
  rw [I'.calm hb', h'.n] at b4
  simp only [List.length_nil] at a4 b4
  omega
theorem Lone.same (h : Lone X L n) (h' : Lone Y L n) (hb : X.busy = false) (hb' : Y.busy = false) {x : Sx} (hk : 1 ≤ x.kind ∧ x.kind ≤ 3) : X.goE x = Y.goE x ∧ X.nxL L x = Y.nxL L x := by
  obtain ⟨L0, I⟩ := h.inv
  obtain ⟨L0', I'⟩ := h'.inv
  exact change_same I I' hb hb' (h.n.trans h'.n.symm) x hk
end
end Pg
end Go.Proofs.YtiojflaehjbcbafGreat

namespace Go.Proofs.YtiojflaehjbcbafGreat
open Go.RowKit Go.Sort
set_option linter.unusedVariables false
set_option linter.unusedSimpArgs false
set_option maxRecDepth 100000

section
variable {P : World → Nat → Pg.Spc → (Nat → Prop) → Prop}
/-- Two spaces that were made behind W0 and lie apart. -/
structure Duo (P : World → Nat → Pg.Spc → (Nat → Prop) → Prop) (W0 w : World) (b b' : Nat) (X Y : Pg.Spc) (F F' : Nat → Prop) : Prop where
  one : Spd P W0 w b X F
  two : Spd P W0 w b' Y F'
  apart : ∀ k, F k → ¬ F' k
variable {W0 w w' : World} {b b' : Nat} {X Y X' : Pg.Spc} {F F' G : Nat → Prop}
theorem Duo.swap (h : Duo P W0 w b b' X Y F F') : Duo P W0 w b' b Y X F' F := ⟨h.two, h.one, fun k hk hf => h.apart k hf hk⟩
theorem Duo.grow (H : SpFace P) (h : Duo P W0 w b b' X Y F F') (hb : Below w.heap.size w w') : Duo P W0 w' b b' X Y F F' := ⟨h.one.grow H hb, h.two.grow H hb, h.apart⟩
theorem Duo.step (H : SpFace P) (h : Duo P W0 w b b' X Y F F') (h' : P w' b X' G) (hb : But F w w') (hG : ∀ k, G k → F k ∨ w.heap.size ≤ k) : Duo P W0 w' b b' X' Y G F' := by
  have s := h.one.step h' hb hG
  refine ⟨s, ⟨H.keep h.two.at' hb (fun k hk hf => h.apart k hf hk), s.bel, h.two.hi⟩, fun k hk hf => ?_⟩
  rcases hG k hk with h1 | h1
  · exact h.apart k h1 hf
  · have := H.lt h.two.at' hf
    omega
theorem Duo.step' (H : SpFace P) (h : Duo P W0 w b b' X Y F F') (h' : P w' b' X' G) (hb : But F' w w') (hG : ∀ k, G k → F' k ∨ w.heap.size ≤ k) : Duo P W0 w' b b' X X' F G := (h.swap.step H h' hb hG).swap
/-- No change is begun, no walk is on its way; the same is mapped. -/
structure Twn (P : World → Nat → Pg.Spc → (Nat → Prop) → Prop) (W0 w : World) (b b' n : Nat) : Prop where
  ex : ∃ X Y F F' L, Duo P W0 w b b' X Y F F' ∧ Pg.Lone X L n ∧ Pg.Lone Y L n ∧ X.busy = false ∧ Y.busy = false
/-- The cores ahead of k have looked after the change of both. -/
structure Twk (P : World → Nat → Pg.Spc → (Nat → Prop) → Prop) (W0 w : World) (b b' n k : Nat) : Prop where
  ex : ∃ X Y F F' L, Duo P W0 w b b' X Y F F' ∧ Pg.Lone X L n ∧ Pg.Lone Y L n ∧ (∀ j, j < k → X.W.getD j false = false) ∧ ∀ j, j < k → Y.W.getD j false = false
theorem Twk.end' {n : Nat} (h : Twk P W0 w b b' n 2) : Twn P W0 w b b' n := by
  obtain ⟨X, Y, F, F', L, D, l1, l2, h1, h2⟩ := h.ex
  exact ⟨X, Y, F, F', L, D, l1, l2, l1.calm h1, l2.calm h2⟩
theorem Twn.grow {n : Nat} (H : SpFace P) (h : Twn P W0 w b b' n) (hb : Below w.heap.size w w') : Twn P W0 w' b b' n := by
  obtain ⟨X, Y, F, F', L, D, r⟩ := h.ex
  exact ⟨X, Y, F, F', L, D.grow H hb, r⟩
/-- What 'whole' leaves of a space of two cores. -/
structure Whl (P : World → Nat → Pg.Spc → (Nat → Prop) → Prop) (w w' : World) (b n : Nat) (F : Nat → Prop) (L : List Pg.Mp) : Prop where
  ex : ∃ X' F', P w' b X' F' ∧ But F w w' ∧ (∀ k, F' k → F k ∨ w.heap.size ≤ k) ∧ Pg.Lone X' L n ∧ X'.busy = false
theorem whole_any (H : SpFace P) {L : List Pg.Mp} {n : Nat} (x : Pg.Sx) (hk : x.kind = 4) (hf : SxFits x) (l : Pg.Lone X L n) (hb : X.busy = false) (w : World) (h : P w b X F) :
    Calls Tryz.prog 9 #[.pointer (some ⟨b, 0, none⟩), x.val] w fun e w' => ∃ E, e = .returned (Pg.Ev.val E) ∧ Pg.WEnd L 2 x E ∧ Whl P w w' b n F L := by
  obtain ⟨L0, I⟩ := l.inv
  by_cases hc : x.core < 0 ∨ (2 : Int) ≤ x.core
  · refine (whole_bad H x hk hf (by rw [l.two]; exact hc) I w h).mono ?_
    rintro e w' ⟨rfl, F', h', hb', hF'⟩
    exact ⟨_, rfl, .inl ⟨hc, rfl⟩, ⟨_, _, h', hb', hF', l, hb⟩⟩
  · obtain ⟨kd, co, m, q, k, u⟩ := x
    have hc : ¬ (co < 0 ∨ (2 : Int) ≤ co) := hc
    obtain ⟨c, rfl⟩ := Int.eq_ofNat_of_zero_le (show 0 ≤ co by omega)
    have hk : kd = 4 := hk
    subst hk
    have := whole_good H m q k u hf (show c < X.C.length by rw [l.two]; omega) I hb l.off w h
    rw [l.two] at this
    refine this.mono ?_
    rintro e w' ⟨E, rfl, hE, hW⟩
    obtain ⟨X', F', a1, a2, a3, a4, a5, a6, a7, a8⟩ := hW.ex
    exact ⟨E, rfl, hE, ⟨X', F', a1, a2, a3, ⟨⟨_, a4⟩, a6, a7.trans l.n, a8.trans l.two⟩, a5⟩⟩
/-- A step lies in a block of its own. -/
structure Bx (w : World) (xb : Nat) (x : Pg.Sx) : Prop where
  x0 : w.cell? ⟨xb, 0, none⟩ = some (.int .i64 x.kind)
  x1 : w.cell? ⟨xb, 1, none⟩ = some (.int .i64 x.core)
  x2 : w.cell? ⟨xb, 2, none⟩ = some (.int .i64 x.m.p)
  x3 : w.cell? ⟨xb, 3, none⟩ = some (.int .i64 x.m.s)
  x4 : w.cell? ⟨xb, 4, none⟩ = some (.int .i64 x.m.f)
  x5 : w.cell? ⟨xb, 5, none⟩ = some (.int .i64 x.m.r)
  x6 : w.cell? ⟨xb, 6, none⟩ = some (.int .i64 x.q)
  x7 : w.cell? ⟨xb, 7, none⟩ = some (.int .i64 x.k)
  x8 : w.cell? ⟨xb, 8, none⟩ = some (.bool x.u)
theorem Bx.lt {x : Pg.Sx} {xb : Nat} (h : Bx w xb x) : xb < w.heap.size := World.block_lt_of_cell? _ _ h.x0
/-- It is not touched by what is done to a space that it is no part of. -/
theorem Bx.but {x : Pg.Sx} {xb : Nat} (h : Bx w xb x) (hb : But F w w') (hn : ¬ F xb) : Bx w' xb x := by
  have hl := h.lt
  exact ⟨(hb.cell (a := ⟨xb, 0, none⟩) hl hn).trans h.x0, (hb.cell (a := ⟨xb, 1, none⟩) hl hn).trans h.x1, (hb.cell (a := ⟨xb, 2, none⟩) hl hn).trans h.x2, (hb.cell (a := ⟨xb, 3, none⟩) hl hn).trans h.x3, (hb.cell (a := ⟨xb, 4, none⟩) hl hn).trans h.x4, (hb.cell (a := ⟨xb, 5, none⟩) hl hn).trans h.x5, (hb.cell (a := ⟨xb, 6, none⟩) hl hn).trans h.x6, (hb.cell (a := ⟨xb, 7, none⟩) hl hn).trans h.x7, (hb.cell (a := ⟨xb, 8, none⟩) hl hn).trans h.x8⟩
/-- Two spaces, and a step's box that is no part of them. -/
structure Dbx (P : World → Nat → Pg.Spc → (Nat → Prop) → Prop) (W0 w : World) (b b' : Nat) (X Y : Pg.Spc) (F F' : Nat → Prop) (xb : Nat) (x : Pg.Sx) : Prop where
  duo : Duo P W0 w b b' X Y F F'
  box : Bx w xb x
  n1 : ¬ F xb
  n2 : ¬ F' xb
theorem Dbx.step {x : Pg.Sx} {xb : Nat} (H : SpFace P) (h : Dbx P W0 w b b' X Y F F' xb x) (h' : P w' b X' G) (hb : But F w w') (hG : ∀ k, G k → F k ∨ w.heap.size ≤ k) : Dbx P W0 w' b b' X' Y G F' xb x := by
  have := h.box.lt
  exact ⟨h.duo.step H h' hb hG, h.box.but hb h.n1, fun hf => (hG _ hf).elim h.n1 (fun h => by omega), h.n2⟩
theorem Dbx.swap {x : Pg.Sx} {xb : Nat} (h : Dbx P W0 w b b' X Y F F' xb x) : Dbx P W0 w b' b Y X F' F xb x := ⟨h.duo.swap, h.box, h.n2, h.n1⟩
theorem Dbx.step' {x : Pg.Sx} {xb : Nat} (H : SpFace P) (h : Dbx P W0 w b b' X Y F F' xb x) (h' : P w' b' X' G) (hb : But F' w w') (hG : ∀ k, G k → F' k ∨ w.heap.size ≤ k) : Dbx P W0 w' b b' X X' F G xb x := (h.swap.step H h' hb hG).swap
theorem Dbx.grow {x : Pg.Sx} {xb : Nat} (H : SpFace P) (h : Dbx P W0 w b b' X Y F F' xb x) (hb : Below w.heap.size w w') : Dbx P W0 w' b b' X Y F F' xb x := ⟨h.duo.grow H hb, h.box.but (F := fun _ => False) (But.of_below hb) id, h.n1, h.n2⟩
end
end Go.Proofs.YtiojflaehjbcbafGreat
