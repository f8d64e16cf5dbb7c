
/-
  How walks lie in memory: the developers', at any place of a block, and the document's: no program is named here.
-/
import Derived.Test.YtbkpndgadgafiaeHeap
import Derived.Test.YtbkpndgadgafiaePlainK
namespace Go.Proofs.Ytbkpndgadgafiae
open Go.RowKit Go.Sort
set_option linter.unusedVariables false

/-- The developers' walk K, from a root on, lies at the cells from o on of the block b. -/
structure WkAt (w : World) (b o : Nat) (root : Int) (K : Pg.Wk) : Prop where
  c0 : w.cell? ⟨b, o, none⟩ = some (.int .i64 root)
  c1 : w.cell? ⟨b, o + 1, none⟩ = some (.bool K.on)
  c2 : w.cell? ⟨b, o + 2, none⟩ = some (.int .i64 K.q)
  c3 : w.cell? ⟨b, o + 3, none⟩ = some (.int .i64 K.k)
  c4 : w.cell? ⟨b, o + 4, none⟩ = some (.bool K.u)
  c5 : w.cell? ⟨b, o + 5, none⟩ = some (.int .i64 K.t)
  c6 : w.cell? ⟨b, o + 6, none⟩ = some (.int .i64 (K.lv : Int))
  c7 : w.cell? ⟨b, o + 7, none⟩ = some (.int .u64 K.x)
  fb : ∀ p, w.frozen? ⟨b, p, none⟩ = false
theorem WkAt.lb {w : World} {b o : Nat} {root : Int} {K : Pg.Wk} (h : WkAt w b o root K) : b < w.heap.size := World.block_lt_of_cell? _ _ h.c0
theorem WkAt.of_block {w w' : World} {b o : Nat} {root : Int} {K : Pg.Wk} (h : WkAt w b o root K) (hk : w'.heap[b]? = w.heap[b]?) : WkAt w' b o root K :=
  ⟨(World.cell?_of_block hk).trans h.c0, (World.cell?_of_block hk).trans h.c1, (World.cell?_of_block hk).trans h.c2, (World.cell?_of_block hk).trans h.c3, (World.cell?_of_block hk).trans h.c4, (World.cell?_of_block hk).trans h.c5, (World.cell?_of_block hk).trans h.c6, (World.cell?_of_block hk).trans h.c7, fun p => (World.frozen?_of_block hk).trans (h.fb p)⟩
theorem WkAt.keep {w w' : World} {b o : Nat} {root : Int} {K : Pg.Wk} {F : Nat → Prop} (h : WkAt w b o root K) (hb : But F w w') (hF : ¬ F b) : WkAt w' b o root K := h.of_block (hb.block b h.lb hF)
theorem WkAt.grow {w w' : World} {b o : Nat} {root : Int} {K : Pg.Wk} (h : WkAt w b o root K) (hb : Below w.heap.size w w') : WkAt w' b o root K := h.of_block (hb.block b h.lb)

/-- Of the blocks that were there those outside F are as they were, and so is all of the block b but the eight cells from o on. -/
structure Ch8 (b o : Nat) (F : Nat → Prop) (w w' : World) : Prop where
  but : But F w w'
  oth : ∀ p, p < o ∨ o + 8 ≤ p → w'.cell? ⟨b, p, none⟩ = w.cell? ⟨b, p, none⟩
namespace Ch8
variable {b o : Nat} {F G : Nat → Prop} {w w1 w2 : World}
theorem refl (b o : Nat) (F : Nat → Prop) (w : World) : Ch8 b o F w w := ⟨But.refl _ _, fun _ _ => rfl⟩
theorem of_below (h : Below w.heap.size w w1) (hb : b < w.heap.size) : Ch8 b o F w w1 := ⟨But.of_below h, fun p _ => h.cell (p := ⟨b, p, none⟩) hb⟩
theorem trans (h : Ch8 b o F w w1) (k : Ch8 b o G w1 w2) (hG : ∀ i, i < w.heap.size → G i → F i) : Ch8 b o F w w2 :=
  ⟨h.but.trans k.but hG, fun p hp => (k.oth p hp).trans (h.oth p hp)⟩
theorem mono (h : Ch8 b o F w w1) (hG : ∀ i, i < w.heap.size → F i → G i) : Ch8 b o G w w1 := ⟨h.but.mono hG, h.oth⟩
theorem of_but (h : But F w w1) (hb : b < w.heap.size) (hF : ¬ F b) : Ch8 b o F w w1 := ⟨h, fun p _ => h.cell (a := ⟨b, p, none⟩) hb hF⟩
theorem set (h : Ch8 b o F w w1) (hF : F b) (j : Nat) (hj : j < 8) (v : Value) : Ch8 b o F w (w1.setCell ⟨b, o + j, none⟩ v) :=
  ⟨h.but.setCell (.inr hF) v, fun p hp => (World.cell?_setCell_other _ _ _ _ (fun e => by injection e with _ e; omega)).trans (h.oth p hp)⟩
theorem set0 (h : Ch8 b o F w w1) (hF : F b) (v : Value) : Ch8 b o F w (w1.setCell ⟨b, o, none⟩ v) := h.set hF 0 (by decide) v
theorem drew (h : Ch8 b o F w w1) : Ch8 b o F w w1.drew := ⟨h.but.drew, h.oth⟩
end Ch8

/-- The document's walk K lies at the cells 1 to 8 of the block b. -/
structure CkAt (w : World) (b : Nat) (K : Pg.Wk) (t lv x : Int) : Prop where
  c1 : w.cell? ⟨b, 1, none⟩ = some (.bool K.on)
  c2 : w.cell? ⟨b, 2, none⟩ = some (.int .i64 K.q)
  c3 : w.cell? ⟨b, 3, none⟩ = some (.int .i64 K.k)
  c4 : w.cell? ⟨b, 4, none⟩ = some (.bool K.u)
  c5 : w.cell? ⟨b, 5, none⟩ = some (.int .i64 t)
  c6 : w.cell? ⟨b, 6, none⟩ = some (.int .i64 lv)
  c7 : w.cell? ⟨b, 7, none⟩ = some (.bool (decide (K.x ≠ 0)))
  c8 : w.cell? ⟨b, 8, none⟩ = some (.int .u64 x)
  fb : ∀ p, w.frozen? ⟨b, p, none⟩ = false
  at' : K.on = true → t = K.t ∧ lv = (K.lv : Int)
  wd : K.x ≠ 0 → x = K.x
theorem CkAt.lb {w : World} {b : Nat} {K : Pg.Wk} {t lv x : Int} (h : CkAt w b K t lv x) : b < w.heap.size := World.block_lt_of_cell? _ _ h.c1
theorem CkAt.of_block {w w' : World} {b : Nat} {K : Pg.Wk} {t lv x : Int} (h : CkAt w b K t lv x) (hk : w'.heap[b]? = w.heap[b]?) : CkAt w' b K t lv x :=
  ⟨(World.cell?_of_block hk).trans h.c1, (World.cell?_of_block hk).trans h.c2, (World.cell?_of_block hk).trans h.c3, (World.cell?_of_block hk).trans h.c4, (World.cell?_of_block hk).trans h.c5, (World.cell?_of_block hk).trans h.c6, (World.cell?_of_block hk).trans h.c7, (World.cell?_of_block hk).trans h.c8, fun p => (World.frozen?_of_block hk).trans (h.fb p), h.at', h.wd⟩
theorem CkAt.keep {w w' : World} {b : Nat} {K : Pg.Wk} {t lv x : Int} {F : Nat → Prop} (h : CkAt w b K t lv x) (hb : But F w w') (hF : ¬ F b) : CkAt w' b K t lv x := h.of_block (hb.block b h.lb hF)
theorem CkAt.grow {w w' : World} {b : Nat} {K : Pg.Wk} {t lv x : Int} (h : CkAt w b K t lv x) (hb : Below w.heap.size w w') : CkAt w' b K t lv x := h.of_block (hb.block b h.lb)
/-- Where that is does not matter. -/
def CkEx (w : World) (b : Nat) (K : Pg.Wk) : Prop := ∃ t lv x, CkAt w b K t lv x
end Go.Proofs.Ytbkpndgadgafiae
