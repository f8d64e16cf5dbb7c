
/-
  A Shoot that a call has made for itself, with a list, a mapping and a step beside it.
-/
import Derived.Test.YtjaipgdjhdjlnaeShRow
namespace Go.Proofs.Ytjaipgdjhdjlnae
open Go.RowKit Go.Sort
set_option linter.unusedVariables false
set_option maxRecDepth 100000

/-- A Shoot at b, the mapping t at tb and the list l lie apart, in memory that was not there when the call began. -/
structure Sho (w0 w : World) (b tb : Nat) (m : Pg.Mp) (f : Nat → Bool) (t : Pg.Mp) (ad : Option Addr) (cap : Nat) (l : List Nat) : Prop where
  sh : ShAt w b m f
  tl : MpAt w tb 0 t
  tz : ∀ p, w.frozen? ⟨tb, p, none⟩ = false
  row : w.ownsRow 0 3 1 (.slice ad l.length cap) l.length (nats l)
  bel : Below w0.heap.size w0 w
  nb : w0.heap.size ≤ b
  nt : w0.heap.size ≤ tb
  nr : ∀ k, (Value.slice ad l.length cap).ownBlock = some k → w0.heap.size ≤ k
  a1 : tb ≠ b
  a2 : (Value.slice ad l.length cap).ownBlock ≠ some b
  a3 : (Value.slice ad l.length cap).ownBlock ≠ some tb
namespace Sho
variable {w0 w w' : World} {b tb : Nat} {m m' t t' : Pg.Mp} {f f' : Nat → Bool} {ad ad' : Option Addr} {cap cap' : Nat} {l l' : List Nat}
theorem tlt (h : Sho w0 w b tb m f t ad cap l) : tb < w.heap.size := World.block_lt_of_cell? _ _ h.tl.1
theorem grow (h : Sho w0 w b tb m f t ad cap l) (hb : Below w.heap.size w w') : Sho w0 w' b tb m f t ad cap l :=
  ⟨h.sh.grow hb, h.tl.below hb h.tlt, fun p => (hb.frozen (p := ⟨tb, p, none⟩) h.tlt).trans (h.tz p), ownsMaps_below h.row hb, bthen h.bel hb, h.nb, h.nt, h.nr, h.a1, h.a2, h.a3⟩
/-- The Shoot has taken a step. -/
theorem step (h : Sho w0 w b tb m f t ad cap l) (h1 : ShAt w' b m' f') (hb : But (fun j => j = b) w w') : Sho w0 w' b tb m' f' t ad cap l :=
  ⟨h1, by
    have e := fun o => hb.cell (a := ⟨tb, o, none⟩) h.tlt h.a1
    exact ⟨(e _).trans h.tl.1, (e _).trans h.tl.2.1, (e _).trans h.tl.2.2.1, (e _).trans h.tl.2.2.2⟩, fun p => (hb.frozen (a := ⟨tb, p, none⟩) h.tlt h.a1).trans (h.tz p),
    ownsMaps_but h.row hb (fun k hk e => h.a2 (by rw [hk, e])), h.bel.trans (hb.below h.bel.size (fun k e => e ▸ h.nb)), h.nb, h.nt, h.nr, h.a1, h.a2, h.a3⟩
/-- The list is one longer. -/
theorem push (h : Sho w0 w b tb m f t ad cap l) {g cap3 k : Nat} {o : Obj} {w3 : World}
    (h3 : w3.ownsRow 0 3 1 (.slice (some ⟨g, 0, none⟩) (l.length + 1) cap3) (l.length + 1) (nats l ++ [.int .i64 (k : Int)])) (hg : (w.alloc o).grownBy w3 (Value.slice ad l.length cap).ownBlock)
    (hat : (Value.slice ad l.length cap).ownBlock = some g ∨ g = w.heap.size + 1) : Sho w0 w3 b tb m f t (some ⟨g, 0, none⟩) cap3 (l ++ [k]) := by
  have hb : But (fun j => (Value.slice ad l.length cap).ownBlock = some j) w w3 := ((But.refl _ w).alloc o).grown hg fun j hj => .inr hj
  have hs := h.bel.size
  have e := fun o => hb.cell (a := ⟨tb, o, none⟩) h.tlt h.a3
  have hob : (Value.slice (some ⟨g, 0, none⟩) (l ++ [k]).length cap3).ownBlock = some g := rfl
  have hlb := h.sh.lb
  have hlt := h.tlt
  refine ⟨h.sh.keep hb h.a2, ⟨(e _).trans h.tl.1, (e _).trans h.tl.2.1, (e _).trans h.tl.2.2.1, (e _).trans h.tl.2.2.2⟩, fun p => (hb.frozen (a := ⟨tb, p, none⟩) h.tlt h.a3).trans (h.tz p), by simpa [nats] using h3, h.bel.trans (hb.below h.bel.size h.nr), h.nb, h.nt, ?_, h.a1, ?_, ?_⟩
  · intro j hj
    rw [hob] at hj
    cases hj
    rcases hat with h' | h'
    · exact h.nr _ h'
    · omega
  · rw [hob]
    rintro e
    cases e
    rcases hat with h' | h'
    · exact h.a2 h'
    · omega
  · rw [hob]
    rintro e
    cases e
    rcases hat with h' | h'
    · exact h.a3 h'
    · omega
/-- The mapping is another one. -/
theorem tell (h : Sho w0 w b tb m f t ad cap l) (t' : Pg.Mp) :
    Sho w0 ((((w.setCell ⟨tb, 0, none⟩ (.int .i64 t'.p)).setCell ⟨tb, 1, none⟩ (.int .i64 t'.s)).setCell ⟨tb, 2, none⟩ (.int .i64 t'.f)).setCell ⟨tb, 3, none⟩ (.int .i64 t'.r)) b tb m f t' ad cap l := by
  have hb := But.set4 (F := fun j => j = tb) (But.refl _ w) tb (.inr rfl) (.int .i64 t'.p) (.int .i64 t'.s) (.int .i64 t'.f) (.int .i64 t'.r)
  obtain ⟨c0, c1, c2, c3⟩ := h.tl
  simp only [Nat.zero_add] at c1 c2 c3
  refine ⟨h.sh.keep hb (fun e => h.a1 e.symm), ⟨?_, ?_, ?_, ?_⟩, fun p => by simpa using h.tz p, ownsMaps_but h.row hb (fun k hk e => h.a3 (by rw [hk, e])), h.bel.trans (hb.below h.bel.size (fun k e => e ▸ h.nt)), h.nb, h.nt, h.nr, h.a1, h.a2, h.a3⟩
  · simp [go_sem, c0]
  · simp [go_sem, c1]
  · simp [go_sem, c2]
  · simp [go_sem, c3]
/-- The list is another one, laid behind all that was there. -/
theorem other {wx : World} (h : Sho w0 wx b tb m f t ad cap l) (h1 : Sho w0 w b tb m' f' t ad cap l) (hr : w.ownsRow wx.heap.size 3 1 (.slice ad' l'.length cap') l'.length (nats l')) : Sho w0 w b tb m' f' t ad' cap' l' := by
  have hs := h.bel.size
  have hlb := h.sh.lb
  have hlt := h.tlt
  refine ⟨h1.sh, h1.tl, h1.tz, ownsMaps_zero hr, h1.bel, h1.nb, h1.nt, fun k hk => ?_, h1.a1, fun e => ?_, fun e => ?_⟩
  · have := (hr.lt k hk).1
    omega
  · have := (hr.lt _ e).1
    omega
  · have := (hr.lt _ e).1
    omega
end Sho

theorem SstAt.of {w w' : World} {X o : Nat} {x : Sst} (h : SstAt w X o x) (hc : ∀ p, w'.cell? ⟨X, p, none⟩ = w.cell? ⟨X, p, none⟩) : SstAt w' X o x :=
  ⟨(hc _).trans h.1, (hc _).trans h.2.1, (hc _).trans h.2.2.1, (hc _).trans h.2.2.2.1, (hc _).trans h.2.2.2.2.1, (hc _).trans h.2.2.2.2.2⟩
/-- A block is as it was, when others were written. -/
theorem but_at {F : Nat → Prop} {w w' : World} {X : Nat} (hb : But F w w') (hX : X < w.heap.size) (hF : ¬ F X) : ∀ p, w'.cell? ⟨X, p, none⟩ = w.cell? ⟨X, p, none⟩ := fun p => hb.cell (a := ⟨X, p, none⟩) hX hF
theorem SstAt.cells {w : World} {X : Nat} {x : Sst} (h : SstAt w X 0 x) : w.cell? ⟨X, 0, none⟩ = some (.int .i64 x.a) ∧ w.cell? ⟨X, 1, none⟩ = some (.int .i64 x.k) ∧ w.cell? ⟨X, 2, none⟩ = some (.int .i64 x.m.p) ∧ w.cell? ⟨X, 3, none⟩ = some (.int .i64 x.m.s) ∧ w.cell? ⟨X, 4, none⟩ = some (.int .i64 x.m.f) ∧ w.cell? ⟨X, 5, none⟩ = some (.int .i64 x.m.r) := by
  obtain ⟨h0, h1, h2, h3, h4, h5⟩ := h
  simp only [Nat.zero_add] at h1 h2 h3 h4 h5
  exact ⟨h0, h1, h2, h3, h4, h5⟩

theorem shootBegun_any (w : World) :
    Calls Try.prog 27 #[] w fun e w' => e = .returned (.bool true) ∧ Below w.heap.size w w' := by
  go_enter Try.func27, Try.ntmps27
  go_wp2_with fail
  refine (shNew_any _).mono ?_
  rintro e w1 ⟨b, rfl, h1, hb1, hn⟩
  have k1 : Hid (∀ o, ShAt (w1.alloc o) b .zz (fun _ => false) ∧ Below w.heap.size w (w1.alloc o)) := fun o => ⟨h1.grow (balloc (brefl _) o), balloc hb1 o⟩
  have hlb := h1.lb
  have hne : ¬ w1.heap.size = b := by omega
  clear h1 hb1
  go_wp2_with fail
  refine (shOver_any _ (k1.out _).1).mono ?_
  rintro e w2 ⟨rfl, rfl⟩
  rw [show Pg.shOver (fun _ => false) = true from rfl]
  go_wp2_with fail
  refine (shPost_yes ⟨7, 0, 0, 0⟩ 2 _ (k1.out _).1 rfl (by omega) (by omega)).mono ?_
  rintro e w2 ⟨rfl, h2, hb2⟩
  have x0 := (hb2.cell (a := ⟨w1.heap.size, 0, none⟩) (by simp) hne)
  have x1 := (hb2.cell (a := ⟨w1.heap.size, 1, none⟩) (by simp) hne)
  have x2 := (hb2.cell (a := ⟨w1.heap.size, 2, none⟩) (by simp) hne)
  have x3 := (hb2.cell (a := ⟨w1.heap.size, 3, none⟩) (by simp) hne)
  simp [go_sem] at x0 x1 x2 x3
  have K2 : Hid _ := h2
  have B2 : Hid (Below w.heap.size w w2) := (k1.out _).2.trans (hb2.below (k1.out _).2.size (fun k e => e ▸ hn))
  have hl2 : w1.heap.size < w2.heap.size := by have := hb2.size; simp at this; omega
  clear h2 hb2 k1
  go_wp2_with fail
  refine (shPost_no ⟨7, 0, 0, 0⟩ 1 _ K2.out (.inl rfl)).mono ?_
  rintro e w3 ⟨rfl, hb3⟩
  have K3 : Hid _ := K2.out.grow hb3
  have B3 : Hid _ := bthen B2.out hb3
  have y0 := cell_later hb3 x0
  have y1 := cell_later hb3 x1
  have y2 := cell_later hb3 x2
  have y3 := cell_later hb3 x3
  have hl3 : w1.heap.size < w3.heap.size := Nat.lt_of_lt_of_le hl2 hb3.size
  clear hb3 K2 B2 x0 x1 x2 x3
  go_wp2_with fail
  refine (shOver_any _ K3.out).mono ?_
  rintro e w4 ⟨rfl, rfl⟩
  rw [show Pg.shOver (Pg.shPost 2 fun _ => false) = false from rfl]
  go_wp2_with fail
  refine (shAck_yes 1 _ K3.out (by omega) rfl).mono ?_
  rintro e w5 ⟨rfl, h5, hb5⟩
  have z0 := (hb5.cell (a := ⟨w1.heap.size, 0, none⟩) hl3 hne).trans y0
  have z1 := (hb5.cell (a := ⟨w1.heap.size, 1, none⟩) hl3 hne).trans y1
  have z2 := (hb5.cell (a := ⟨w1.heap.size, 2, none⟩) hl3 hne).trans y2
  have z3 := (hb5.cell (a := ⟨w1.heap.size, 3, none⟩) hl3 hne).trans y3
  have hl5 : w1.heap.size < w5.heap.size := Nat.lt_of_lt_of_le hl3 hb5.size
  have B5 : Hid (Below w.heap.size w w5) := B3.out.trans (hb5.below B3.out.size (fun k e => e ▸ hn))
  have K5 : Hid (∀ o, ShAt (w5.alloc o) b ⟨7, 0, 0, 0⟩ (Pg.shAck 1 (Pg.shPost 2 fun _ => false))) := fun o => h5.grow (balloc (brefl _) o)
  clear h5 hb5 K3 B3 y0 y1 y2 y3
  simp only [Pg.Mp.val]
  go_wp2_with fail
  refine (shAck_no 1 _ (K5.out _) rfl).mono ?_
  rintro e w6 ⟨rfl, hb6⟩
  have p0 := cell_later hb6 (cell_later (balloc (brefl w5) _) z0)
  have p1 := cell_later hb6 (cell_later (balloc (brefl w5) _) z1)
  have p2 := cell_later hb6 (cell_later (balloc (brefl w5) _) z2)
  have p3 := cell_later hb6 (cell_later (balloc (brefl w5) _) z3)
  have hA := heap_alloc_new w5 (.cells #[.int .i64 7, .int .i64 0, .int .i64 0, .int .i64 0] 39)
  have q0 := cell_later hb6 (cell_of_row _ _ 0 _ _ _ hA)
  have q1 := cell_later hb6 (cell_of_row _ _ 1 _ _ _ hA)
  have q2 := cell_later hb6 (cell_of_row _ _ 2 _ _ _ hA)
  have q3 := cell_later hb6 (cell_of_row _ _ 3 _ _ _ hA)
  have l6 : w1.heap.size < w6.heap.size ∧ w5.heap.size < w6.heap.size := by have := hb6.size; simp at this; omega
  obtain ⟨l6a, l6b⟩ := l6
  have K6 : Hid (∀ o, ShAt (w6.alloc o) b ⟨7, 0, 0, 0⟩ (Pg.shAck 1 (Pg.shPost 2 fun _ => false))) := fun o => ((K5.out _).grow hb6).grow (balloc (brefl _) o)
  have B6 : Hid (∀ o, Below w.heap.size w (w6.alloc o)) := fun o => balloc (bthen (balloc B5.out _) hb6) o
  clear hA hb6 K5 B5 z0 z1 z2 z3
  simp only [Pg.Mp.val, Pg.Mp.zz]
  go_wp2_with fail
  refine (shWaits_any 0 _ (K6.out _)).mono ?_
  rintro e w7 ⟨rfl, rfl⟩
  rw [show Pg.shWaits (Pg.shAck 1 (Pg.shPost 2 fun _ => false)) 0 = true from rfl]
  go_wp2_with fail
  refine (shWaits_any 1 _ (K6.out _)).mono ?_
  rintro e w7 ⟨rfl, rfl⟩
  rw [show Pg.shWaits (Pg.shAck 1 (Pg.shPost 2 fun _ => false)) 1 = false from rfl]
  go_wp2_with fail
  go_ret
  exact ⟨rfl, B6.out _⟩
end Go.Proofs.Ytjaipgdjhdjlnae
