
/-
  The developers' book: what asking it answers: New, List, Copy, Find, Answer.
-/
import Derived.Test.YtkcmlmofcjdgoabBookFind
import Derived.Test.YtkcmlmofcjdgoabBookDel
namespace Go.Proofs.Ytkcmlmofcjdgoab
open Go.RowKit Go.Sort
set_option linter.unusedVariables false
set_option maxRecDepth 100000

/-- A book of the mappings L lies at b, in the blocks F. -/
structure DbAt (w : World) (b : Nat) (L : List Pg.Mp) (F : Nat → Prop) : Prop where
  ex : ∃ vb, Dbk w b vb L ∧ F = bkF b vb
section
variable {w w' : World} {b : Nat} {L : List Pg.Mp} {F G : Nat → Prop}
theorem DbAt.lt (h : DbAt w b L F) {k : Nat} (hk : F k) : k < w.heap.size := by
  obtain ⟨vb, h, rfl⟩ := h
  exact h.lt hk
theorem DbAt.good (h : DbAt w b L F) : Pg.Good L := by
  obtain ⟨vb, h, rfl⟩ := h
  exact h.good
theorem DbAt.keep (h : DbAt w b L F) (hb : But G w w') (hF : ∀ k, F k → ¬ G k) : DbAt w' b L F := by
  obtain ⟨vb, h, rfl⟩ := h
  exact ⟨vb, h.keep hb hF, rfl⟩
end

theorem dboxed {w : World} {vb : Value} {L : List Pg.Mp} {t : TypeId} (hr : w.ownsRow 0 62 4 vb L.length (mpCells L)) (hg : Pg.Good L) : Dbk (w.alloc (.cells #[vb] t)) w.heap.size vb L := by
  have hb := heap_alloc_new w (.cells #[vb] t)
  refine ⟨cell_of_row _ _ 0 _ _ _ hb, fun o => by unfold World.frozen?; simp only [hb]; simp, hr.alloc _, fun e => ?_, hg⟩
  have := (hr.lt _ e).2
  omega

theorem dbNew_any (w : World) :
    Calls Try.prog 27 #[] w fun e w' => ∃ b F, e = .returned (.pointer (some ⟨b, 0, none⟩)) ∧ DbAt w' b [] F ∧ Below w.heap.size w w' ∧ ∀ k, F k → w.heap.size ≤ k := by
  go_enter Try.func27, Try.ntmps27
  go_wp2_with fail
  go_ret
  refine ⟨_, _, rfl, ⟨.slice none 0 0, dboxed (World.ownsRow_nil _ _ _ _) Pg.Good.nil, rfl⟩, balloc (brefl _) _, fun k hk => ?_⟩
  rcases hk with rfl | hk
  · exact Nat.le_refl _
  · simp [Value.ownBlock] at hk

section
variable {b : Nat} {L : List Pg.Mp} {F : Nat → Prop}
theorem dbList_any (w : World) (h : DbAt w b L F) :
    Calls Try.prog 37 #[.pointer (some ⟨b, 0, none⟩)] w fun e w' => ∃ ad cap, e = .returned (.slice ad L.length cap) ∧ MapsAt w' ad L ∧ Below w.heap.size w w' ∧ ∀ k, (Value.slice ad L.length cap).ownBlock = some k → w.heap.size ≤ k := by
  obtain ⟨vb, h, rfl⟩ := h
  have hc0 := h.c0
  have HC : Hid _ := clone_any w h.row h.good.len
  clear h
  go_enter Try.func37, Try.ntmps37
  go_wp2_with fail
  refine Calls.mono HC.out ?_
  rintro e w1 ⟨v', rfl, hr, hb⟩
  obtain ⟨ad, cap, rfl⟩ := ownsMaps_form hr
  have HR : Hid _ := hr
  have HB : Hid _ := hb
  clear hr hb
  go_wp2_with fail
  go_ret
  exact ⟨ad, cap, rfl, owns_mapsAt HR.out, HB.out, fun k hk => (World.ownsRow.lt HR.out k hk).1⟩

theorem dbCopy_any (w : World) (h : DbAt w b L F) :
    Calls Try.prog 28 #[.pointer (some ⟨b, 0, none⟩)] w fun e w' => ∃ b' F', e = .returned (.pointer (some ⟨b', 0, none⟩)) ∧ DbAt w' b' L F' ∧ Below w.heap.size w w' ∧ ∀ k, F' k → w.heap.size ≤ k := by
  obtain ⟨vb, h, rfl⟩ := h
  have hc0 := h.c0
  have HG : Hid _ := h.good
  have HC : Hid _ := clone_any w h.row h.good.len
  clear h
  go_enter Try.func28, Try.ntmps28
  go_wp2_with fail
  refine Calls.mono HC.out ?_
  rintro e w1 ⟨v', rfl, hr, hb⟩
  obtain ⟨ad, cap, rfl⟩ := ownsMaps_form hr
  have HR : Hid _ := hr
  have HB : Hid _ := hb
  clear hr hb
  go_wp2_with fail
  go_ret
  refine ⟨_, _, rfl, ⟨_, dboxed (ownsMaps_zero HR.out) HG.out, rfl⟩, balloc HB.out _, fun k hk => ?_⟩
  rcases hk with rfl | hk
  · exact HB.out.size
  · exact (World.ownsRow.lt HR.out k hk).1

set_option maxHeartbeats 4000000 in
theorem dbFind_any (q : Int) (hq : Pg.fits q) (w : World) (h : DbAt w b L F) :
    Calls Try.prog 39 #[.pointer (some ⟨b, 0, none⟩), .int .i64 q] w fun e w' => e = .returned (.tuple #[(Pg.at' L q).val, .bool (Pg.fnd L q).isSome]) ∧ Below w.heap.size w w' := by
  obtain ⟨vb, h, rfl⟩ := h
  have hfh := Pg.fnd_hit h.good q
  have HH := fun o => having_any q hq (w.alloc o) (h.grow (balloc (brefl _) o))
  cases hh : Pg.hit L (Pg.lkP q)
  · have e0 : Pg.fnd L q = none := by rw [hfh, hh]; rfl
    have e1 : Pg.at' L q = .zz := by simp only [Pg.at', e0]
    rw [e0, e1]
    simp only [hh] at HH
    clear h e0 e1 hfh hh
    generalize Pg.cut L (Pg.lkP q) = c at *
    go_enter Try.func39, Try.ntmps39
    go_wp2_with fail
    refine (HH _).mono ?_
    rintro e w1 ⟨rfl, hb1⟩
    have hr : ∀ o, w1.cell? ⟨w.heap.size, o, none⟩ = _ := fun o => hb1.cell (p := ⟨w.heap.size, o, none⟩) (by simp)
    have hf : ∀ o, w1.frozen? ⟨w.heap.size, o, none⟩ = _ := fun o => hb1.frozen (p := ⟨w.heap.size, o, none⟩) (by simp)
    have hB : Hid (Below w.heap.size w w1) := bthen (balloc (brefl _) _) hb1
    clear hb1 HH
    go_wp2_with fail
    refine bodyPost_ret (v := .tuple #[.agg #[.int .i64 0, .int .i64 0, .int .i64 0, .int .i64 0], .bool false]) ?_ rfl ⟨rfl, ?_⟩
    · simp [results, Try.results39, go_sem, hr]
    · exact below_set4 hB.out _ (Nat.le_refl _) _ _ _ _
  · obtain ⟨hlt, _⟩ := Pg.hit_iff.1 hh
    have e0 : Pg.fnd L q = some (Pg.cut L (Pg.lkP q)) := by rw [hfh, hh]; rfl
    have e1 : Pg.at' L q = L.getD (Pg.cut L (Pg.lkP q)) .zz := by simp only [Pg.at', e0]
    rw [e0, e1]
    simp only [hh] at HH
    clear e0 e1 hfh hh
    generalize Pg.cut L (Pg.lkP q) = j at *
    obtain ⟨g, cap, rfl, hg, hm0, hm1, hm2, hm3⟩ := h.mp hlt
    have hc0 := h.c0
    have hlb := h.lb
    have hlen := h.good.len
    have i0 : (0 : Int) ≤ (j : Int) := by omega
    have i1 : (j : Int) < (L.length : Int) := by omega
    clear h
    generalize L.getD j .zz = m at *
    generalize L.length = n at *
    obtain ⟨mp, ms, mf, mr⟩ := m
    simp only at hm0 hm1 hm2 hm3
    go_enter Try.func39, Try.ntmps39
    go_wp2_with fail
    refine (HH _).mono ?_
    rintro e w1 ⟨rfl, hb1⟩
    have hr : ∀ o, w1.cell? ⟨w.heap.size, o, none⟩ = _ := fun o => hb1.cell (p := ⟨w.heap.size, o, none⟩) (by simp)
    have hf : ∀ o, w1.frozen? ⟨w.heap.size, o, none⟩ = _ := fun o => hb1.frozen (p := ⟨w.heap.size, o, none⟩) (by simp)
    have hB0 : Below w.heap.size w w1 := bthen (balloc (brefl _) _) hb1
    have hB : Hid _ := hB0
    have c0 := cell_later hB0 hc0
    have m0 := cell_later hB0 hm0
    have m1 := cell_later hB0 hm1
    have m2 := cell_later hB0 hm2
    have m3 := cell_later hB0 hm3
    clear hb1 HH hB0 hc0 hm0 hm1 hm2 hm3
    go_wp2_with fail
    refine bodyPost_ret (v := .tuple #[.agg #[.int .i64 mp, .int .i64 ms, .int .i64 mf, .int .i64 mr], .bool true]) ?_ rfl ⟨rfl, ?_⟩
    · simp [results, Try.results39, go_sem, hr]
    · exact below_set4 hB.out _ (Nat.le_refl _) _ _ _ _

set_option maxHeartbeats 4000000 in
theorem dbAnswer_any (q k : Int) (u : Bool) (hq : Pg.fits q) (w : World) (h : DbAt w b L F) :
    Calls Try.prog 40 #[.pointer (some ⟨b, 0, none⟩), .agg #[.int .i64 q, .int .i64 k, .bool u]] w fun e w' =>
      e = .returned (.agg #[.int .i64 (Pg.ansE L q k u), .int .i64 (Pg.ansF L q k u), .int .i64 (Pg.ansR L q k u)]) ∧ Below w.heap.size w w' := by
  have HF := fun o o' => dbFind_any q hq ((w.alloc o).alloc o') (h.keep (G := fun _ => False) (But.of_below (balloc (balloc (brefl _) o) o')) (fun _ _ => id))
  clear h
  cases hf : Pg.fnd L q with
  | none =>
    have e1 : Pg.at' L q = .zz := by simp only [Pg.at', hf]
    have e2 : Pg.ansE L q k u = 1 := by simp [Pg.ansE, hf]
    have e3 : Pg.ansF L q k u = 0 := by simp [Pg.ansF, hf]
    have e4 : Pg.ansR L q k u = 0 := by simp [Pg.ansR, hf]
    rw [e2, e3, e4]
    rw [e1, hf] at HF
    rw [show (.zz : Pg.Mp).val = .agg #[.int .i64 0, .int .i64 0, .int .i64 0, .int .i64 0] from rfl] at HF
    simp only [Option.isSome_none] at HF
    clear e1 e2 e3 e4 hf
    go_enter Try.func40, Try.ntmps40
    go_wp2_with fail
    refine (HF _ _).mono ?_
    rintro e w1 ⟨rfl, hb1⟩
    have hr : ∀ o, w1.cell? ⟨w.heap.size + 1, o, none⟩ = _ := fun o => hb1.cell (p := ⟨w.heap.size + 1, o, none⟩) (by simp)
    have hf : ∀ o, w1.frozen? ⟨w.heap.size + 1, o, none⟩ = _ := fun o => hb1.frozen (p := ⟨w.heap.size + 1, o, none⟩) (by simp)
    have hs : w.heap.size + 1 < w1.heap.size := by have := hb1.size; simp at this; omega
    have hB : Hid (Below w.heap.size w w1) := bthen (balloc (balloc (brefl _) _) _) hb1
    clear hb1 HF
    go_wp2_with fail
    refine bodyPost_ret (v := .agg #[.int .i64 1, .int .i64 0, .int .i64 0]) ?_ rfl ⟨rfl, ?_⟩
    · simp [results, Try.results40, go_sem, hr, hs]
    · exact balloc (((hB.out.setCell (by simp) _).setCell (by simp) _).setCell (by simp) _) _
  | some j =>
    have e1 : Pg.at' L q = L.getD j .zz := by simp only [Pg.at', hf]
    have e2 : Pg.ansE L q k u = Pg.aEnd (L.getD j .zz).r k u := by simp only [Pg.ansE, hf]
    have e3 : Pg.ansF L q k u = Pg.aFrame (L.getD j .zz).p (L.getD j .zz).f (L.getD j .zz).r q k u := by simp only [Pg.ansF, hf]
    have e4 : Pg.ansR L q k u = Pg.aRights (L.getD j .zz).r k u := by simp only [Pg.ansR, hf]
    rw [e2, e3, e4]
    rw [e1, hf] at HF
    simp only [Option.isSome_some] at HF
    have HA := answer_any (L.getD j .zz).p (L.getD j .zz).s (L.getD j .zz).f (L.getD j .zz).r q k u
    clear e1 e2 e3 e4 hf
    generalize L.getD j .zz = y at *
    obtain ⟨mp, ms, mf, mr⟩ := y
    simp only [Pg.Mp.val] at HF HA ⊢
    generalize Pg.aEnd mr k u = x0 at *
    generalize Pg.aFrame mp mf mr q k u = x1 at *
    generalize Pg.aRights mr k u = x2 at *
    go_enter Try.func40, Try.ntmps40
    go_wp2_with fail
    refine (HF _ _).mono ?_
    rintro e w1 ⟨rfl, hb1⟩
    have hs : w.heap.size + 1 < w1.heap.size := by have := hb1.size; simp at this; omega
    have a0 : w1.cell? ⟨w.heap.size, 0, none⟩ = some (.int .i64 q) := (hb1.cell (p := ⟨w.heap.size, 0, none⟩) (by simp; omega)).trans (by simp [go_sem])
    have a1 : w1.cell? ⟨w.heap.size, 1, none⟩ = some (.int .i64 k) := (hb1.cell (p := ⟨w.heap.size, 1, none⟩) (by simp; omega)).trans (by simp [go_sem])
    have a2 : w1.cell? ⟨w.heap.size, 2, none⟩ = some (.bool u) := (hb1.cell (p := ⟨w.heap.size, 2, none⟩) (by simp; omega)).trans (by simp [go_sem])
    have hr : ∀ o, w1.cell? ⟨w.heap.size + 1, o, none⟩ = _ := fun o => hb1.cell (p := ⟨w.heap.size + 1, o, none⟩) (by simp)
    have hf : ∀ o, w1.frozen? ⟨w.heap.size + 1, o, none⟩ = _ := fun o => hb1.frozen (p := ⟨w.heap.size + 1, o, none⟩) (by simp)
    have hs0 : w.heap.size < w1.heap.size := by omega
    have hB : Hid (Below w.heap.size w w1) := bthen (balloc (balloc (brefl _) _) _) hb1
    clear hb1 HF
    go_wp2_with fail
    refine (HA _).mono ?_
    rintro e w2 ⟨rfl, hb2⟩
    have hs2 : w.heap.size + 1 < w2.heap.size := by have := hb2.size; simp at this; omega
    have hr2 : ∀ o, w2.cell? ⟨w.heap.size + 1, o, none⟩ = _ := fun o => (hb2.cell (p := ⟨w.heap.size + 1, o, none⟩) (by simp; omega)).trans ((Below.cell (p := ⟨w.heap.size + 1, o, none⟩) (balloc (brefl w1) _) hs).trans (hr o))
    have hf2 : ∀ o, w2.frozen? ⟨w.heap.size + 1, o, none⟩ = _ := fun o => (hb2.frozen (p := ⟨w.heap.size + 1, o, none⟩) (by simp; omega)).trans ((Below.frozen (p := ⟨w.heap.size + 1, o, none⟩) (balloc (brefl w1) _) hs).trans (hf o))
    have hB2 : Hid (Below w.heap.size w w2) := bthen (balloc hB.out _) hb2
    clear hb2 hr hf hB a0 a1 a2 hs hs0 HA
    go_wp2_with fail
    refine bodyPost_ret (v := .agg #[.int .i64 x0, .int .i64 x1, .int .i64 x2]) ?_ rfl ⟨rfl, ?_⟩
    · simp [results, Try.results40, go_sem, hr2]
    · exact ((hB2.out.setCell (by simp) _).setCell (by simp) _).setCell (by simp) _
end
end Go.Proofs.Ytkcmlmofcjdgoab
