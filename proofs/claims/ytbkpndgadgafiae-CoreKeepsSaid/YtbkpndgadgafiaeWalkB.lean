/-
  The developers' search through tables, whatever it is handed where to look and whom to tell: it tells what there is to tell, in order, and its code.
-/
import Derived.Test.YtbkpndgadgafiaeWalkA
namespace Go.Proofs.Ytbkpndgadgafiae
open Go.RowKit Go.Sort
set_option linter.unusedVariables false
set_option maxRecDepth 100000

def Pg.Sp.val (s : Pg.Sp) : Value := .agg #[.int .i64 s.table, .int .i64 (s.place : Int), .int .i64 (s.level : Int), .int .i64 (s.ahead : Int), .bool s.e.t, .bool s.e.l, .int .i64 s.e.r, .bool s.e.u, .bool s.e.d, .int .i64 s.e.f]

/-- What the one who is told keeps of what it was told: R X V w: it was told X, and keeps it in the blocks V. -/
structure Tells (b : Nat) (S : Pg.Fs) (F : Nat → Prop) (g h : FuncId) (ca cb : Array Value) (L : Nat → Nat → Bool) (R : List Pg.Sp → (Nat → Prop) → World → Prop) : Prop where
  eg : ∀ args w, (callFunc g args).run Try.prog w = .ok (.enter g args) w
  eh : ∀ args w, (callFunc h args).run Try.prog w = .ok (.enter h args) w
  fr : ∀ X V w, R X V w → FrAt w b S F
  lt : ∀ X V w, R X V w → ∀ k, V k → k < w.heap.size
  grow : ∀ X V w w', R X V w → Below w.heap.size w w' → R X V w'
  looks : ∀ (i lv : Nat) X V w, i < 8 → lv < 4 → R X V w → Calls Try.prog g (#[.int .i64 (i : Int), .int .i64 (lv : Int)] ++ ca) w fun e w' => e = .returned (.bool (L i lv)) ∧ Below w.heap.size w w'
  meets : ∀ (s : Pg.Sp) X V w, s.place < 8 → s.level < 4 → s.ahead < 4096 → X.length < 4680 → R X V w → Calls Try.prog h (#[s.val] ++ cb) w fun e w' => e = .returned (.tuple #[]) ∧ ∃ V', R (X ++ [s]) V' w' ∧ But V w w' ∧ ∀ k, V' k → V k ∨ w.heap.size ≤ k

/-- On the way through a table: the world, what was told, and the box bx of what it was handed. -/
structure Going (R : List Pg.Sp → (Nat → Prop) → World → Prop) (V : Nat → Prop) (w : World) (v0 v1 v2 : Value) (X : List Pg.Sp) (V' : Nat → Prop) (wr : World) : Prop where
  r : R X V' wr
  but : But V w wr
  new : ∀ k, V' k → V k ∨ w.heap.size < k
  c : wr.cell? ⟨w.heap.size, 0, none⟩ = some v0 ∧ wr.cell? ⟨w.heap.size, 1, none⟩ = some v1 ∧ wr.cell? ⟨w.heap.size, 2, none⟩ = some v2
namespace Going
variable {b : Nat} {S : Pg.Fs} {F : Nat → Prop} {g h : FuncId} {ca cb : Array Value} {L : Nat → Nat → Bool} {R : List Pg.Sp → (Nat → Prop) → World → Prop} {V V' V'' : Nat → Prop} {w wr wr' : World} {v0 v1 v2 : Value} {X X' : List Pg.Sp}
theorem grow (T : Tells b S F g h ca cb L R) (G : Going R V w v0 v1 v2 X V' wr) (hb : Below wr.heap.size wr wr') : Going R V w v0 v1 v2 X V' wr' :=
  ⟨T.grow _ _ _ _ G.r hb, G.but.trans (But.of_below (F := fun _ => False) hb) (fun _ _ h => h.elim), G.new, later3 hb G.c⟩
theorem lb (G : Going R V w v0 v1 v2 X V' wr) : w.heap.size < wr.heap.size := World.block_lt_of_cell? _ _ G.c.1
theorem step (hV : ∀ k, V k → k < w.heap.size) (G : Going R V w v0 v1 v2 X V' wr) (hr : R X' V'' wr') (hb : But V' wr wr') (hn : ∀ k, V'' k → V' k ∨ wr.heap.size ≤ k) : Going R V w v0 v1 v2 X' V'' wr' := by
  have hl := G.lb
  have hbx : ¬ V' w.heap.size := fun hk => by
    rcases G.new _ hk with h1 | h1
    · have := hV _ h1; omega
    · omega
  refine ⟨hr, G.but.trans hb (fun i hi hk => ?_), fun k hk => ?_, ?_, ?_, ?_⟩
  · rcases G.new i hk with h1 | h1
    · exact h1
    · omega
  · rcases hn k hk with h1 | h1
    · exact G.new k h1
    · exact .inr (by omega)
  · exact (hb.cell (a := ⟨w.heap.size, 0, none⟩) hl hbx).trans G.c.1
  · exact (hb.cell (a := ⟨w.heap.size, 1, none⟩) hl hbx).trans G.c.2.1
  · exact (hb.cell (a := ⟨w.heap.size, 2, none⟩) hl hbx).trans G.c.2.2
/-- A box that was laid just ahead of telling is as it was. -/
theorem box6 (T : Tells b S F g h ca cb L R) (G : Going R V w v0 v1 v2 X V' wr) {u0 u1 u2 u3 u4 u5 : Value} {ty : TypeId} (hb : But V' (wr.alloc (.cells #[u0, u1, u2, u3, u4, u5] ty)) wr') :
    wr'.cell? ⟨wr.heap.size, 0, none⟩ = some u0 ∧ wr'.cell? ⟨wr.heap.size, 1, none⟩ = some u1 ∧ wr'.cell? ⟨wr.heap.size, 2, none⟩ = some u2 ∧ wr'.cell? ⟨wr.heap.size, 3, none⟩ = some u3 ∧ wr'.cell? ⟨wr.heap.size, 4, none⟩ = some u4 ∧ wr'.cell? ⟨wr.heap.size, 5, none⟩ = some u5 := by
  have hn : ¬ V' wr.heap.size := fun hk => by have := T.lt _ _ _ G.r _ hk; omega
  have hk : ∀ o, wr'.cell? ⟨wr.heap.size, o, none⟩ = (wr.alloc (.cells #[u0, u1, u2, u3, u4, u5] ty)).cell? ⟨wr.heap.size, o, none⟩ := fun o => hb.cell (a := ⟨wr.heap.size, o, none⟩) (by simp) hn
  refine ⟨?_, ?_, ?_, ?_, ?_, ?_⟩ <;> rw [hk] <;> simp [go_sem]
theorem done (G : Going R V w v0 v1 v2 X' V' wr) {A : List Pg.Sp} (e : X ++ A = X') : ∃ V', R (X ++ A) V' wr ∧ But V w wr ∧ ∀ k, V' k → V k ∨ w.heap.size ≤ k :=
  ⟨V', e ▸ G.r, G.but, fun k hk => (G.new k hk).imp id Nat.le_of_lt⟩
end Going
theorem len_step {X : List Pg.Sp} {s : Pg.Sp} {j c : Nat} (hj : j < 8) (h : X.length + (8 - j) * (1 + c) ≤ 4680) : X.length < 4680 ∧ (X ++ [s]).length + (8 - (j + 1)) * (1 + c) + c ≤ 4680 ∧ (X ++ [s]).length + c ≤ 4680 := by
  have e : (8 - j) * (1 + c) = (8 - (j + 1)) * (1 + c) + (1 + c) := by
    rw [show 8 - j = (8 - (j + 1)) + 1 by omega, Nat.add_mul, Nat.one_mul]
  rw [e] at h
  rw [List.length_append, List.length_singleton]
  generalize (8 - (j + 1)) * (1 + c) = x at *
  omega

theorem scan_step {S : Pg.Fs} {L : Nat → Nat → Bool} {lv : Nat} {rec : Int → Nat → List Pg.Sp × Int} {t : Int} {a j : Nat} (hj : j < 8) :
    Pg.scan S L lv rec t a (8 - j) j = if (Pg.out S L lv rec t a j).2 ≠ 0 then Pg.out S L lv rec t a j
      else ((Pg.out S L lv rec t a j).1 ++ (Pg.scan S L lv rec t a (8 - (j + 1)) (j + 1)).1, (Pg.scan S L lv rec t a (8 - (j + 1)) (j + 1)).2) := by
  have e : 8 - j = (8 - (j + 1)) + 1 := by omega
  rw [e]
  rfl

end Go.Proofs.Ytbkpndgadgafiae
