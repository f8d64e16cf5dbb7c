
/-
  What is kept of a search: rows that grow, each in a variable of its own; the developers' Tables.
-/
import Derived.Test.YtbkpndgadgafiacWalkB
import Derived.Test.YtbkpndgadgafiacMapInfo
namespace Go.Proofs.Ytbkpndgadgafiac
open Go.RowKit Go.Sort
set_option linter.unusedVariables false
set_option maxRecDepth 100000

def ints (l : List Int) : List Value := l.map fun k : Int => Value.int .i64 k
theorem ints_len (l : List Int) : (ints l).length = l.length := by simp [ints]
theorem ints_one (l : List Int) : ∀ u, u ∈ ints l → u.oneCell' = true := by
  intro u hu
  simp [ints] at hu
  obtain ⟨k, _, rfl⟩ := hu
  rfl
theorem ints_at (l : List Int) (j : Nat) (hj : j < l.length) : (ints l)[j]? = some (.int .i64 (l.getD j 0)) := by
  simp [ints, List.getD, hj]
/-- The numbers L lie at ad. -/
def IntsAt (w : World) (ad : Option Addr) (L : List Int) : Prop := ∀ j, j < L.length → ∃ g, ad = some ⟨g, 0, none⟩ ∧ g < w.heap.size ∧ w.cell? ⟨g, j, none⟩ = some (.int .i64 (L.getD j 0))
theorem IntsAt.below {w w' : World} {ad : Option Addr} {L : List Int} (h : IntsAt w ad L) (hb : Below w.heap.size w w') : IntsAt w' ad L := by
  intro j hj
  obtain ⟨g, e, hg, hm⟩ := h j hj
  exact ⟨g, e, Nat.lt_of_lt_of_le hg hb.size, (hb.cell (p := ⟨g, j, none⟩) hg).trans hm⟩
theorem owns_intsAt {w : World} {base : Nat} {ad : Option Addr} {n cap : Nat} {L : List Int} (h : w.ownsRow base 3 1 (.slice ad n cap) L.length (ints L)) : IntsAt w ad L := by
  intro j hj
  obtain ⟨g, cap', e, _, hg⟩ := h.form (by omega)
  cases e
  refine ⟨g, rfl, hg, ?_⟩
  rw [h.cellAt _ (by omega)]
  exact ints_at L j hj

/-- A variable at the block c, the offset o, holds a row that lies behind B. -/
structure Var (B : Nat) (c o : Nat) (e : TypeId) (size : Nat) (vb : Value) (n : Nat) (xs : List Value) (w : World) : Prop where
  cell : w.cell? ⟨c, o, none⟩ = some vb
  own : w.ownsRow B e size vb n xs
  ne : vb.ownBlock ≠ some c
namespace Var
variable {B c o : Nat} {e : TypeId} {size : Nat} {vb : Value} {n : Nat} {xs : List Value} {w w' : World}
theorem grow (h : Var B c o e size vb n xs w) (hb : Below w.heap.size w w') : Var B c o e size vb n xs w' :=
  ⟨cell_later hb h.cell, ownsMaps_below h.own hb, h.ne⟩
theorem lt (h : Var B c o e size vb n xs w) {k : Nat} (hk : vb.ownBlock = some k) : k < w.heap.size := (h.own.lt k hk).2
theorem lb (h : Var B c o e size vb n xs w) : c < w.heap.size := World.block_lt_of_cell? _ _ h.cell
/-- A row that has grown, in the world w3, is stored. -/
theorem push {wA w3 : World} {g cap n' : Nat} {xs' : List Value} (h : Var B c o e size vb n xs w) (hA : Below w.heap.size w wA) (hg : wA.grownBy w3 vb.ownBlock)
    (hown : w3.ownsRow B e size (.slice (some ⟨g, 0, none⟩) n' cap) n' xs') (hat : vb.ownBlock = some g ∨ g = wA.heap.size) :
    w3.cell? ⟨c, o, none⟩ = some vb ∧ (∀ o, w3.frozen? ⟨c, o, none⟩ = w.frozen? ⟨c, o, none⟩) ∧ (∀ o, w3.cell? ⟨c, o, none⟩ = w.cell? ⟨c, o, none⟩) ∧ g ≠ c ∧ Var B c o e size (.slice (some ⟨g, 0, none⟩) n' cap) n' xs' (w3.setCell ⟨c, o, none⟩ (.slice (some ⟨g, 0, none⟩) n' cap)) ∧
      But (fun k => k = c ∨ vb.ownBlock = some k) w (w3.setCell ⟨c, o, none⟩ (.slice (some ⟨g, 0, none⟩) n' cap)) ∧ (vb.ownBlock = some g ∨ w.heap.size ≤ g) := by
  have hl := h.lb
  have hgc : g ≠ c := by
    rintro rfl
    rcases hat with e1 | e1
    · exact h.ne e1
    · have := hA.size; omega
  have hB : But (fun k => k = c ∨ vb.ownBlock = some k) w w3 := (But.of_below hA).grown hg fun k hk => .inr (.inr hk)
  have hB2 : But (fun k => vb.ownBlock = some k) w w3 := (But.of_below hA).grown hg fun k hk => .inr hk
  have hc : w3.cell? ⟨c, o, none⟩ = some vb := (hB2.cell (a := ⟨c, o, none⟩) hl (fun e => h.ne e)).trans h.cell
  refine ⟨hc, fun o => hB2.frozen (a := ⟨c, o, none⟩) hl (fun e => h.ne e), fun o => hB2.cell (a := ⟨c, o, none⟩) hl (fun e => h.ne e), hgc, ⟨World.cell?_setCell_same _ _ _ hc, ?_, ?_⟩, hB.setCell (.inr (.inl rfl)) _, ?_⟩
  · exact owns_of_block hown fun k hk => Below.heap_setCell _ _ _ _ (fun e => hgc ((show g = k by simpa [Value.ownBlock] using hk).trans e))
  · simpa [Value.ownBlock] using hgc
  · exact hat.imp id fun e => by have := hA.size; omega
end Var

/-- What a search that keeps one row keeps. -/
structure Keeps (w0 : World) (c : Nat) (e : TypeId) (size : Nat) (len : List Pg.Sp → Nat) (row : List Pg.Sp → List Value) (X : List Pg.Sp) (V : Nat → Prop) (w : World) : Prop where
  bel : Below w0.heap.size w0 w
  hi : w0.heap.size ≤ c
  fz : ∀ o, w.frozen? ⟨c, o, none⟩ = false
  var : ∃ vb, Var w0.heap.size c 0 e size vb (len X) (row X) w ∧ V = fun k => k = c ∨ vb.ownBlock = some k
namespace Keeps
variable {w0 : World} {c : Nat} {e : TypeId} {size : Nat} {len : List Pg.Sp → Nat} {row : List Pg.Sp → List Value} {X X' : List Pg.Sp} {V : Nat → Prop} {w w' : World}
theorem grow (h : Keeps w0 c e size len row X V w) (hb : Below w.heap.size w w') : Keeps w0 c e size len row X V w' := by
  obtain ⟨h1, h2, h3, vb, hv, rfl⟩ := h
  exact ⟨h1.trans (hb.mono h1.size), h2, fun o => (hb.frozen (p := ⟨c, o, none⟩) hv.lb).trans (h3 o), vb, hv.grow hb, rfl⟩
theorem lt (h : Keeps w0 c e size len row X V w) {k : Nat} (hk : V k) : k < w.heap.size := by
  obtain ⟨h1, h2, h3, vb, hv, rfl⟩ := h
  rcases hk with rfl | hk
  · exact hv.lb
  · exact hv.lt hk
theorem same (h : Keeps w0 c e size len row X V w) (h1 : len X' = len X) (h2 : row X' = row X) : Keeps w0 c e size len row X' V w :=
  ⟨h.bel, h.hi, h.fz, by rw [h1, h2]; exact h.var⟩
theorem stay (h : Keeps w0 c e size len row X V w) (hb : Below w.heap.size w w') (h1 : len X' = len X) (h2 : row X' = row X) : ∃ V', Keeps w0 c e size len row X' V' w' ∧ But V w w' ∧ ∀ k, V' k → V k ∨ w.heap.size ≤ k :=
  ⟨V, (h.grow hb).same h1 h2, But.of_below hb, fun k hk => .inl hk⟩
theorem fr {b : Nat} {S : Pg.Fs} {F : Nat → Prop} (hf : FrAt w0 b S F) (h : Keeps w0 c e size len row X V w) : FrAt w b S F :=
  hf.keep (G := fun k => w0.heap.size ≤ k) (w' := w) ⟨h.bel.os, h.bel.tape, h.bel.output, h.bel.size, fun k hk _ => h.bel.block k hk⟩ (fun k hk => by have := hf.lt hk; omega)
/-- What was there when the search began is there. -/
theorem push (h : Keeps w0 c e size len row X V w) {vb : Value} (hv : Var w0.heap.size c 0 e size vb (len X) (row X) w) (hV : V = fun k => k = c ∨ vb.ownBlock = some k) {wA w3 : World} {g cap n' : Nat} {xs' : List Value} (hA : Below w.heap.size w wA) (hg : wA.grownBy w3 vb.ownBlock)
    (hown : w3.ownsRow w0.heap.size e size (.slice (some ⟨g, 0, none⟩) n' cap) n' xs') (hat : vb.ownBlock = some g ∨ g = wA.heap.size) (h1 : len X' = n') (h2 : row X' = xs') :
    ∃ V', Keeps w0 c e size len row X' V' (w3.setCell ⟨c, 0, none⟩ (.slice (some ⟨g, 0, none⟩) n' cap)) ∧ But V w (w3.setCell ⟨c, 0, none⟩ (.slice (some ⟨g, 0, none⟩) n' cap)) ∧ ∀ k, V' k → V k ∨ w.heap.size ≤ k := by
  obtain ⟨p1, p2, p2', p3, p4, p5, p6⟩ := hv.push hA hg hown hat
  subst hV
  refine ⟨_, ⟨?_, h.hi, fun o => by rw [World.frozen?_setCell, p2]; exact h.fz o, _, by rw [h1, h2]; exact p4, rfl⟩, p5, fun k hk => ?_⟩
  · have hlo : ∀ k, (k = c ∨ vb.ownBlock = some k) → w0.heap.size ≤ k := fun k hk => by
      rcases hk with rfl | hk
      · exact h.hi
      · exact (hv.own.lt k hk).1
    exact h.bel.trans (p5.below h.bel.size hlo)
  · rcases hk with rfl | hk
    · exact .inl (.inl rfl)
    · have e1 : g = k := by simpa [Value.ownBlock] using hk
      subst e1
      exact p6.imp .inr id
end Keeps

theorem infoIntW : (Try.prog.info? 3).map (fun i => (i.zero, i.size, i.bytes)) = some (some (.int .i64 0), 1, 8) := by kernel_rfl

set_option maxHeartbeats 4000000 in
theorem tables1_any {w0 : World} {c : Nat} {t : Int} (s : Pg.Sp) (X : List Pg.Sp) (V : Nat → Prop) (w : World) (hlen : X.length < 4680)
    (hR : Keeps w0 c 3 1 (fun X => (t :: Pg.tabsOf X).length) (fun X => ints (t :: Pg.tabsOf X)) X V w) :
    Calls Try.prog 59 #[s.val, .pointer (some ⟨c, 0, none⟩)] w fun e w' => e = .returned (.tuple #[]) ∧ ∃ V', Keeps w0 c 3 1 (fun X => (t :: Pg.tabsOf X).length) (fun X => ints (t :: Pg.tabsOf X)) (X ++ [s]) V' w' ∧ But V w w' ∧ ∀ k, V' k → V k ∨ w.heap.size ≤ k := by
  have HT : Hid (Pg.tabsOf (X ++ [s]) = Pg.tabsOf X ++ if s.e.on = true then [s.e.f] else []) := by simp [Hid, Pg.tabsOf]
  have HR : Hid _ := hR
  have hl := Pg.tabsOf_len X
  obtain ⟨st, sp, sl, sa, ⟨et, el, er, eu, ed, ef⟩⟩ := s
  have HLe := leadsOn_any ⟨et, el, er, eu, ed, ef⟩
  simp only [Pg.Sp.val, Pg.En.val] at HLe ⊢
  simp only at HT
  cases hon : Pg.En.on ⟨et, el, er, eu, ed, ef⟩
  · rw [hon] at HLe HT
    clear hR hon
    go_enter Try.func59, Try.ntmps59
    go_wp2_with fail
    refine (HLe _).mono ?_
    rintro e w1 ⟨rfl, hb1⟩
    have fin : Hid _ := HR.out.stay (X' := X ++ [⟨st, sp, sl, sa, ⟨et, el, er, eu, ed, ef⟩⟩]) (bthen (balloc (brefl w) _) hb1) (by rw [HT.out]; simp) (by rw [HT.out]; simp)
    clear hb1
    go_wp2_with fail
    go_end0
    exact ⟨rfl, fin.out⟩
  · rw [hon] at HLe HT
    obtain ⟨vb, hv, hV⟩ := hR.var
    obtain ⟨q0, hq, hz0, hz1, hz2⟩ := info_parts infoIntW
    have HVr : Hid _ := hv
    have hfz := hR.fz
    have hw0 := hR.bel.size
    have hcl := hv.lb
    clear hR hon hv
    go_enter Try.func59, Try.ntmps59
    go_wp2_with fail
    refine (HLe _).mono ?_
    rintro e w1 ⟨rfl, hb1⟩
    have hB : Below w.heap.size w w1 := bthen (balloc (brefl w) _) hb1
    have x9 : w1.cell? ⟨w.heap.size, 9, none⟩ = some (.int .i64 ef) := (hb1.cell (p := ⟨w.heap.size, 9, none⟩) (by simp)).trans (by simp [go_sem])
    have v1 := HVr.out.grow hB
    have cc := v1.cell
    have hl1 : w.heap.size < w1.heap.size := by have := hb1.size; simp at this; omega
    have hown := v1.own
    have HB : Hid _ := hB
    clear hb1 hB v1 HLe
    go_wp2_with (first
      | (at_builtin; refine wpList_append_lies _ rfl _ _ 30 rfl w0.heap.size 3 q0 (.int .i64 0) 1 8 Try.underlying30 hq hz0 hz1 hz2 rfl (by decide) _ _ _ rfl (hown.alloc _) ⟨w1.heap.size, 0, none⟩ 1 1 [.int .i64 ef] rfl rfl ?c1 ?c2 (by decide) ?c3 ?c4 ?c5 (w1.heap.size + 1) (by simp) ?_))
    case c1 =>
      intro j u hj
      match j, hj with
      | 0, hj => simp at hj; subst hj; simp [Addr.add, go_sem]
    case c2 => intro u hu; simp at hu; subst hu; rfl
    case c3 => simp [maxLen]; omega
    case c4 => simp; omega
    case c5 => have := HB.out.size; simp; omega
    intro g cap w3 hown3 hgrow hat hlt3
    have hbA := balloc HB.out (.cells #[.int .i64 ef] 3)
    have hat' : vb.ownBlock = some g ∨ g = (w1.alloc (.cells #[.int .i64 ef] 3)).heap.size := by simpa using hat
    obtain ⟨p1, p2, p3, p4, _⟩ := HVr.out.push hbA hgrow hown3 hat'
    have kf : w3.frozen? ⟨c, 0, none⟩ = false := (p2 0).trans (hfz 0)
    have fin : Hid _ := HR.out.push (X' := X ++ [⟨st, sp, sl, sa, ⟨et, el, er, eu, ed, ef⟩⟩]) HVr.out hV hbA hgrow hown3 hat' (by rw [HT.out]; simp) (by rw [HT.out]; simp [ints])
    clear hbA hat' p2 p3 p4 hown3 hgrow hat hlt3 hown hfz HVr HR
    go_wp2_with fail
    go_end0
    exact ⟨rfl, fin.out⟩

theorem enters_tables1 : ∀ args w, (callFunc 59 args).run Try.prog w = .ok (.enter 59 args) w := fun args w => by simp [go_sem]
theorem enters_everywhere : ∀ args w, (callFunc 56 args).run Try.prog w = .ok (.enter 56 args) w := fun args w => by simp [go_sem]

theorem tables_tells {b : Nat} {S : Pg.Fs} {F : Nat → Prop} {w0 : World} {c : Nat} {t : Int} (h : FrAt w0 b S F) :
    Tells b S F 56 59 #[] #[.pointer (some ⟨c, 0, none⟩)] Pg.allW (Keeps w0 c 3 1 (fun X => (t :: Pg.tabsOf X).length) (fun X => ints (t :: Pg.tabsOf X))) :=
  ⟨enters_everywhere, enters_tables1, fun _ _ _ hR => hR.fr h, fun _ _ _ hR _ hk => hR.lt hk, fun _ _ _ _ hR hb => hR.grow hb,
    fun i lv _ _ w _ _ _ => below_of_same (everywhere_any (i : Int) (lv : Int) w), fun s X V w _ _ _ hl hR => tables1_any s X V w hl hR⟩

set_option maxHeartbeats 4000000 in
/-- The developers' Tables. -/
theorem wTables_any {b : Nat} {S : Pg.Fs} {F : Nat → Prop} (t : Int) (w : World) (h : FrAt w b S F) :
    Calls Try.prog 16 #[.pointer (some ⟨b, 0, none⟩), .int .i64 t] w fun e w' => ∃ ad cap L, e = .returned (.tuple #[.slice ad L.length cap, .int .i64 (Pg.thr S Pg.allW 3 t 0).2]) ∧ L = (if (Pg.thr S Pg.allW 3 t 0).2 = 0 then t :: Pg.tabsOf (Pg.thr S Pg.allW 3 t 0).1 else []) ∧ IntsAt w' ad L ∧ Below w.heap.size w w' := by
  obtain ⟨W, hW⟩ : ∃ W, W = (w.alloc (.cells #[.int .i64 t] 3)).alloc (.cells #[.slice (some ⟨w.heap.size, 0, none⟩) 1 1] 30) := ⟨_, rfl⟩
  have hB : Below w.heap.size w W := by rw [hW]; exact balloc (balloc (brefl w) _) _
  have hK : Keeps w (w.heap.size + 1) 3 1 (fun X => (t :: Pg.tabsOf X).length) (fun X => ints (t :: Pg.tabsOf X)) [] (fun k => k = w.heap.size + 1 ∨ (Value.slice (some ⟨w.heap.size, 0, none⟩) 1 1).ownBlock = some k) W := by
    refine ⟨hB, by omega, fun o => by rw [hW]; simp [go_sem], .slice (some ⟨w.heap.size, 0, none⟩) 1 1, ⟨by rw [hW]; simp [go_sem], ?_, by simp [Value.ownBlock]⟩, rfl⟩
    refine ⟨by simp [ints, Pg.tabsOf], .inr ⟨w.heap.size, 1, #[.int .i64 t], rfl, Nat.le_refl _, ?_, Nat.le_refl _, by decide, rfl, by simp [ints, Pg.tabsOf]⟩⟩
    rw [hW, Below.heap_alloc _ _ _ (by simp)]
    exact heap_alloc_new w _
  have HC : Hid _ := from_any (tables_tells (c := w.heap.size + 1) (t := t) h) t _ W hK
  clear h hK hB
  generalize Pg.thr S Pg.allW 3 t 0 = th at *
  go_enter Try.func16, Try.ntmps16
  go_wp2_with fail
  rw [← hW]
  refine Calls.mono HC.out ?_
  rintro e w1 ⟨rfl, V1, hK1, hb1, hn1⟩
  clear hb1 hn1
  have HB : Hid (Below w.heap.size w w1) := hK1.bel
  obtain ⟨vb, hv, _⟩ := hK1.var
  obtain ⟨ad, cap, rfl⟩ := ownsMaps_form hv.own
  by_cases hc : th.2 = 0
  · have hcb : (th.2 != 0) = false := by simp [hc]
    have cc := hv.cell
    have HI : Hid _ := owns_intsAt hv.own
    have HC0 : Hid _ := hc
    clear hv hK1 hc
    go_wp2_with fail
    go_ret2
    exact ⟨ad, cap, t :: Pg.tabsOf th.1, rfl, by first | rw [if_pos HC0.out] | rfl, HI.out, HB.out⟩
  · have hcb : (th.2 != 0) = true := by simp [hc]
    have HC0 : Hid _ := hc
    clear hv hK1 hc
    go_wp2_with fail
    go_ret2
    exact ⟨none, 0, [], rfl, by first | rw [if_neg HC0.out] | rfl, fun j hj => absurd hj (by simp), HB.out⟩
end Go.Proofs.Ytbkpndgadgafiac
