
/-
  What asking a Shoot answers and leaves: Over, Waits, Ack, Post.
-/
import Derived.Test.YtjaipgdjhdjlnaeShA
namespace Go.Proofs.Ytjaipgdjhdjlnae
open Go.RowKit Go.Sort
set_option linter.unusedVariables false
set_option maxRecDepth 100000
attribute [local go_sem] run_equal4

section
variable {b : Nat} {m : Pg.Mp} {f : Nat → Bool}
theorem shOver_any (w : World) (h : ShAt w b m f) :
    Calls Try.prog 33 #[.pointer (some ⟨b, 0, none⟩)] w fun e w' => e = .returned (.bool (Pg.shOver f)) ∧ w' = w := by
  have c0 := h.cw 0 (by omega)
  have c1 := h.cw 1 (by omega)
  have c2 := h.cw 2 (by omega)
  have c3 := h.cw 3 (by omega)
  simp only [Nat.add_zero, Nat.reduceAdd] at c0 c1 c2 c3
  unfold Pg.shOver
  generalize f 0 = x0 at *
  generalize f 1 = x1 at *
  generalize f 2 = x2 at *
  generalize f 3 = x3 at *
  clear h
  go_enter Try.func33, Try.ntmps33
  go_wp2_with fail
  go_ret
  exact ⟨rfl, rfl⟩

theorem shWaits_any (k : Int) (w : World) (h : ShAt w b m f) :
    Calls Try.prog 31 #[.pointer (some ⟨b, 0, none⟩), .int .i64 k] w fun e w' => e = .returned (.bool (Pg.shWaits f k)) ∧ w' = w := by
  by_cases h0 : 0 ≤ k
  · obtain ⟨n, rfl⟩ := Int.eq_ofNat_of_zero_le h0
    by_cases h4 : n < 4
    · have c := h.cw n h4
      have HH : Hid (Pg.shWaits f (n : Int) = f n) := by simp [Hid, Pg.shWaits]; omega
      have i0 : (0 : Int) ≤ (n : Int) := by omega
      have i1 : (n : Int) < 4 := by omega
      have i2 : ¬ (4 : Int) ≤ (n : Int) := by omega
      have i3 : ¬ (n : Int) < 0 := by omega
      rw [HH.out]
      generalize f n = x at *
      clear h HH
      go_enter Try.func31, Try.ntmps31
      go_wp2_with fail
      go_ret
      exact ⟨rfl, rfl⟩
    · have HH : Hid (Pg.shWaits f (n : Int) = false) := by simp [Hid, Pg.shWaits]; omega
      have i0 : (0 : Int) ≤ (n : Int) := by omega
      have i1 : ¬ (n : Int) < 4 := by omega
      rw [HH.out]
      clear h HH
      go_enter Try.func31, Try.ntmps31
      go_wp2_with fail
      go_ret
      exact ⟨rfl, rfl⟩
  · have HH : Hid (Pg.shWaits f k = false) := by simp [Hid, Pg.shWaits]; omega
    rw [HH.out]
    clear h HH
    go_enter Try.func31, Try.ntmps31
    go_wp2_with fail
    go_ret
    exact ⟨rfl, rfl⟩

theorem shAck_no (k : Int) (w : World) (h : ShAt w b m f) (hk : Pg.shWaits f k = false) :
    Calls Try.prog 30 #[.pointer (some ⟨b, 0, none⟩), .int .i64 k] w fun e w' => e = .returned (.tuple #[Pg.Mp.zz.val, .bool false]) ∧ Below w.heap.size w w' := by
  have HW := shWaits_any k _ (h.grow (balloc (brefl w) (.cells #[.int .i64 0, .int .i64 0, .int .i64 0, .int .i64 0] 39)))
  rw [hk] at HW
  clear h
  go_enter Try.func30, Try.ntmps30
  go_wp2_with (go_at_call 31; refine HW.mono ?_; rintro e w' ⟨rfl, hw⟩; subst w')
  refine bodyPost_ret (v := .tuple #[Pg.Mp.zz.val, .bool false]) ?_ rfl ⟨rfl, ?_⟩
  · simp [results, Try.results30, go_sem, Pg.Mp.val, Pg.Mp.zz]
  · exact balloc (brefl w) _

theorem shAck_yes (k : Nat) (w : World) (h : ShAt w b m f) (hk : k < 4) (hf : f k = true) :
    Calls Try.prog 30 #[.pointer (some ⟨b, 0, none⟩), .int .i64 (k : Int)] w fun e w' => e = .returned (.tuple #[m.val, .bool true]) ∧ ShAt w' b m (Pg.shAck k f) ∧ But (fun j => j = b) w w' := by
  obtain ⟨W, hW⟩ : ∃ W, W = w.alloc (.cells #[.int .i64 0, .int .i64 0, .int .i64 0, .int .i64 0] 39) := ⟨_, rfl⟩
  have hB : Below w.heap.size w W := by rw [hW]; exact balloc (brefl w) _
  have hh := h.grow hB
  have HW := shWaits_any (k : Int) _ hh
  have e1 : Pg.shWaits f (k : Int) = true := by simp [Pg.shWaits, hf]; omega
  rw [e1] at HW
  have hfz := hh.fz (4 + k)
  have hlb := hh.lb
  have hck := hh.cw k hk
  have HS : Hid _ := hh.set hk false
  have hx := HS.out.cm
  have i0 : (0 : Int) ≤ (k : Int) := by omega
  have i1 : (k : Int) < 4 := by omega
  have i2 : ¬ (4 : Int) ≤ (k : Int) := by omega
  have i3 : ¬ (k : Int) < 0 := by omega
  have hne : ¬ b = w.heap.size := by have := h.lb; omega
  obtain ⟨mp, ms, mf, mr⟩ := m
  obtain ⟨x0, x1, x2, x3⟩ := hx
  simp only [Nat.zero_add] at x0 x1 x2 x3
  have HB : Hid _ := hB
  have HL : Hid _ := h.lb
  clear h hh hB e1
  have y : ∀ o, (W.setCell ⟨b, 4 + k, none⟩ (.bool false)).frozen? ⟨w.heap.size, o, none⟩ = false := fun o => by simp [hW, go_sem]
  have y0 : (W.setCell ⟨b, 4 + k, none⟩ (.bool false)).cell? ⟨w.heap.size, 0, none⟩ = some (.int .i64 0) := by rw [World.cell?_setCell_other _ _ _ _ (fun e => hne (by injection e))]; simp [hW, go_sem]
  have y1 : (W.setCell ⟨b, 4 + k, none⟩ (.bool false)).cell? ⟨w.heap.size, 1, none⟩ = some (.int .i64 0) := by rw [World.cell?_setCell_other _ _ _ _ (fun e => hne (by injection e))]; simp [hW, go_sem]
  have y2 : (W.setCell ⟨b, 4 + k, none⟩ (.bool false)).cell? ⟨w.heap.size, 2, none⟩ = some (.int .i64 0) := by rw [World.cell?_setCell_other _ _ _ _ (fun e => hne (by injection e))]; simp [hW, go_sem]
  have y3 : (W.setCell ⟨b, 4 + k, none⟩ (.bool false)).cell? ⟨w.heap.size, 3, none⟩ = some (.int .i64 0) := by rw [World.cell?_setCell_other _ _ _ _ (fun e => hne (by injection e))]; simp [hW, go_sem]
  have fin : Hid (∀ v0 v1 v2 v3, ShAt (((((W.setCell ⟨b, 4 + k, none⟩ (.bool false)).setCell ⟨w.heap.size, 0, none⟩ v0).setCell ⟨w.heap.size, 1, none⟩ v1).setCell ⟨w.heap.size, 2, none⟩ v2).setCell ⟨w.heap.size, 3, none⟩ v3) b ⟨mp, ms, mf, mr⟩ (Pg.shAck k f) ∧ But (fun j => j = b) w (((((W.setCell ⟨b, 4 + k, none⟩ (.bool false)).setCell ⟨w.heap.size, 0, none⟩ v0).setCell ⟨w.heap.size, 1, none⟩ v1).setCell ⟨w.heap.size, 2, none⟩ v2).setCell ⟨w.heap.size, 3, none⟩ v3)) := by
    intro v0 v1 v2 v3
    refine ⟨HS.out.keep (G := fun j => j = w.heap.size) (But.set4 (F := fun j => j = w.heap.size) (But.refl _ _) w.heap.size (.inr rfl) v0 v1 v2 v3) hne, ?_⟩
    have h1 : But (fun j => j = b) w (W.setCell ⟨b, 4 + k, none⟩ (.bool false)) := But.setCell (F := fun j => j = b) (But.of_below HB.out) (a := ⟨b, 4 + k, none⟩) (.inr rfl) _
    exact h1.set4 w.heap.size (.inl (Nat.le_refl _)) v0 v1 v2 v3
  go_enter Try.func30, Try.ntmps30
  go_wp2_with fail
  rw [← hW]
  refine HW.mono ?_
  rintro e w' ⟨rfl, hw⟩
  subst w'
  clear hW HW
  go_wp2_with fail
  refine bodyPost_ret (v := .tuple #[.agg #[.int .i64 mp, .int .i64 ms, .int .i64 mf, .int .i64 mr], .bool true]) ?_ rfl ⟨rfl, fin.out _ _ _ _⟩
  simp [results, Try.results30, go_sem, y0, y1, y2, y3]

theorem shPost_no (x : Pg.Mp) (n : Int) (w : World) (h : ShAt w b m f) (hk : Pg.shOver f = false ∨ n < 1 ∨ 4 < n) :
    Calls Try.prog 29 #[.pointer (some ⟨b, 0, none⟩), x.val, .int .i64 n] w fun e w' => e = .returned (.bool false) ∧ Below w.heap.size w w' := by
  obtain ⟨xp, xs, xf, xr⟩ := x
  simp only [Pg.Mp.val]
  have HO := shOver_any _ (h.grow (balloc (brefl w) (.cells #[.int .i64 xp, .int .i64 xs, .int .i64 xf, .int .i64 xr] 39)))
  clear h
  cases ho : Pg.shOver f
  · rw [ho] at HO
    clear hk ho
    go_enter Try.func29, Try.ntmps29
    go_wp2_with (go_at_call 33; refine HO.mono ?_; rintro e w' ⟨rfl, hw⟩; subst w')
    go_ret
    exact ⟨rfl, balloc (brefl w) _⟩
  · rw [ho] at HO hk
    by_cases h1 : n < 1
    · clear hk ho
      go_enter Try.func29, Try.ntmps29
      go_wp2_with (go_at_call 33; refine HO.mono ?_; rintro e w' ⟨rfl, hw⟩; subst w')
      go_ret
      exact ⟨rfl, balloc (brefl w) _⟩
    · have h4 : 4 < n := by
        rcases hk with h | h | h
        · cases h
        · exact absurd h h1
        · exact h
      clear hk ho
      go_enter Try.func29, Try.ntmps29
      go_wp2_with (go_at_call 33; refine HO.mono ?_; rintro e w' ⟨rfl, hw⟩; subst w')
      go_ret
      exact ⟨rfl, balloc (brefl w) _⟩

theorem shPost_yes (x : Pg.Mp) (n : Nat) (w : World) (h : ShAt w b m f) (ho : Pg.shOver f = true) (h1 : 1 ≤ n) (h4 : n ≤ 4) :
    Calls Try.prog 29 #[.pointer (some ⟨b, 0, none⟩), x.val, .int .i64 (n : Int)] w fun e w' => e = .returned (.bool true) ∧ ShAt w' b x (Pg.shPost n f) ∧ But (fun j => j = b) w w' := by
  obtain ⟨W, hW⟩ : ∃ W, W = w.alloc (.cells #[.int .i64 x.p, .int .i64 x.s, .int .i64 x.f, .int .i64 x.r] 39) := ⟨_, rfl⟩
  have hB : Below w.heap.size w W := by rw [hW]; exact balloc (brefl w) _
  have hh := h.grow hB
  have HO := shOver_any _ hh
  rw [ho] at HO
  have HS : Hid _ := hh.told x
  have HB2 : Hid (But (fun j => j = b) w ((((W.setCell ⟨b, 0, none⟩ (.int .i64 x.p)).setCell ⟨b, 1, none⟩ (.int .i64 x.s)).setCell ⟨b, 2, none⟩ (.int .i64 x.f)).setCell ⟨b, 3, none⟩ (.int .i64 x.r))) := But.set4 (F := fun j => j = b) (But.of_below hB) b (.inr rfl) _ _ _ _
  obtain ⟨c0, c1, c2, c3⟩ := hh.cm
  have z0 := hh.fz 0
  have z1 := hh.fz 1
  have z2 := hh.fz 2
  have z3 := hh.fz 3
  simp only [Nat.zero_add] at c1 c2 c3
  have hlb := hh.lb
  have hne : ¬ b = w.heap.size := by have := h.lb; omega
  have y0 : W.cell? ⟨w.heap.size, 0, none⟩ = some (.int .i64 x.p) := by simp [hW, go_sem]
  have y1 : W.cell? ⟨w.heap.size, 1, none⟩ = some (.int .i64 x.s) := by simp [hW, go_sem]
  have y2 : W.cell? ⟨w.heap.size, 2, none⟩ = some (.int .i64 x.f) := by simp [hW, go_sem]
  have y3 : W.cell? ⟨w.heap.size, 3, none⟩ = some (.int .i64 x.r) := by simp [hW, go_sem]
  have i1 : ¬ (n : Int) < 1 := by omega
  have i4 : ¬ (4 : Int) < (n : Int) := by omega
  clear h hh hB ho
  obtain ⟨xp, xs, xf, xr⟩ := x
  simp only [Pg.Mp.val] at *
  go_enter Try.func29, Try.ntmps29
  go_wp2_with fail
  rw [← hW]
  refine HO.mono ?_
  rintro e w' ⟨rfl, hw⟩
  subst w'
  clear hW HO
  go_wp2_with fail
  go_loopw [7, 24] (fun _ i wr => ∃ j : Nat, j ≤ n ∧ i = .int .i64 j ∧ Hid (ShAt wr b ⟨xp, xs, xf, xr⟩ (Pg.shPost j f) ∧ But (fun j => j = b) w wr)) (fun _ i _ => n - (intOf i).toNat)
  case atStart => exact ⟨0, by omega, rfl, shAt_ext HS.out fun k _ => by simp [Pg.shPost], HB2.out⟩
  case round =>
    obtain ⟨j, hj, rfl, HR⟩ := hrel
    clear HS HB2 c0 c1 c2 c3 z0 z1 z2 z3 y0 y1 y2 y3
    by_cases hlt : j < n
    · have fz := HR.out.1.fz (4 + j)
      have hc := HR.out.1.cw j (by omega)
      have hlb2 := HR.out.1.lb
      have j0 : (0 : Int) ≤ (j : Int) := by omega
      have j1 : (j : Int) < (n : Int) := by omega
      have j4 : (j : Int) < 4 := by omega
      have j2 : ¬ (4 : Int) ≤ (j : Int) := by omega
      have j3 : ¬ (j : Int) < 0 := by omega
      have fin : Hid (ShAt (wr.setCell ⟨b, 4 + j, none⟩ (.bool true)) b ⟨xp, xs, xf, xr⟩ (Pg.shPost (j + 1) f) ∧ But (fun j => j = b) w (wr.setCell ⟨b, 4 + j, none⟩ (.bool true))) := by
        refine ⟨shAt_ext (HR.out.1.set (by omega) true) fun k _ => ?_, But.setCell (F := fun j => j = b) HR.out.2 (a := ⟨b, 4 + j, none⟩) (.inr rfl) _⟩
        by_cases e : k = j
        · simp [Pg.shPost, e]
        · simp only [Pg.shPost, e, if_false]
          congr 1
          rw [decide_eq_decide]
          omega
      go_wp2_with fail
      go_roundw
      case rel => exact ⟨j + 1, by omega, by go_num, fin.out⟩
      case measure => simp [intOf]; omega
    · have j1 : ¬ (j : Int) < (n : Int) := by omega
      have e : j = n := by omega
      go_wp2_with fail
      go_ret
      subst e
      exact ⟨rfl, HR.out⟩
end
end Go.Proofs.Ytjaipgdjhdjlnae
