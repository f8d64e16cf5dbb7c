
/-
  The document's own changes of tables: Insert.
-/
import Derived.Test.YtbkpndgadgafiacTabRefB
import Derived.Test.YtbkpndgadgafiacPageRef
import Derived.Test.YtbkpndgadgafiacMemRef
import Derived.Test.YtbkpndgadgafiacTabH
namespace Go.Proofs.Ytbkpndgadgafiac
open Go.RowKit Go.Sort
set_option linter.unusedVariables false
set_option linter.unusedSimpArgs false
set_option maxRecDepth 100000
attribute [local go_sem] Loose.gent

theorem MemAt.word {w : World} {b g0 g1 : Nat} {vm : Value} {S : Pg.Fs} (h : MemAt w b g0 g1 vm S) {tn i : Nat} (ht : S.has (tn : Int) = true) (hi : i < 8) {v : Int} (hv0 : 0 ≤ v) (hv1 : v < 18446744073709551616) : MemAt (w.setCell ⟨g0, tn * 8 + i, none⟩ (.int .u64 v)) b g0 g1 vm (S.store (tn : Int) (i : Int) v) := by
  have hat : S.at' (tn : Int) (i : Int) = true := by
    simp only [Pg.Fs.at', ht, Bool.true_and, Bool.and_eq_true, decide_eq_true_eq]
    omega
  have hS : S.store (tn : Int) (i : Int) v = { S with word := Pg.Fs.put S.word tn i v } := by simp [Pg.Fs.store, hat]
  have hn : tn < S.n := by have := h.ok.has_lt ht; omega
  exact ⟨by rw [hS]; exact h.raw.put hn hi v, h.ok.store _ _ hv0 hv1⟩

theorem insW_doneR (p : Int) (s : Nat) (S : Pg.Fs) (t : Int) : Pg.insW p s s S t = (S, t) := by
  cases s with
  | zero => rfl
  | succ s => simp [Pg.insW]
theorem insW_moreR (p : Int) (s m : Nat) (S : Pg.Fs) (t : Int) (h : s ≤ m) : Pg.insW p s (m + 1) S t = Pg.insW p s m (S.take.store t (Pg.index p ((m + 1 : Nat) : Int)) (Pg.enc true false 7 false false S.takeN ((m + 1 : Nat) : Int))) S.takeN := by
  rw [Pg.insW, if_neg (by omega)]

/-- What holds in each round of InsertTo. -/
structure InsInv (W5 wr : World) (b g0 g1 : Nat) (vm vi : Value) (S Si : Pg.Fs) (p : Int) (sn lv lvn : Nat) (tl : Int) (ti : Nat) : Prop where
  mem : MemAt wr b g0 g1 vi Si
  but : But (memF b g0 g1 vm) W5 wr
  own : vi.ownBlock = vm.ownBlock
  ins : Pg.insW p sn lvn Si (ti : Int) = Pg.insW p sn lv S tl
  has : Si.has (ti : Int) = true
  free : (lvn : Int) - (sn : Int) ≤ Si.free

set_option maxHeartbeats 4000000 in
theorem insertTo_any {b g0 g1 : Nat} {vm : Value} {S : Pg.Fs} (t : Int) (m : Pg.Mp) (w : World) (h : MemAt w b g0 g1 vm S) :
    Calls Try.prog 24 #[.pointer (some ⟨b, 0, none⟩), .int .i64 t, m.val] w fun en w' => en = .returned (.int .i64 (Pg.insC S t m)) ∧ ∃ vm', MemAt w' b g0 g1 vm' (Pg.insS S t m) ∧ But (memF b g0 g1 vm) w w' ∧ vm'.ownBlock = vm.ownBlock := by
  obtain ⟨p, s, f, r⟩ := m
  have HC := mapFault_any p s f r
  have eC : Pg.Mp.code ⟨p, s, f, r⟩ = Pg.check p s f r := rfl
  rw [← eC] at HC
  simp only [Pg.Mp.val]
  have H : Hid _ := h
  obtain ⟨W1, hW1⟩ : ∃ W1, W1 = w.alloc (.cells #[.int .i64 p, .int .i64 s, .int .i64 f, .int .i64 r] 53) := ⟨_, rfl⟩
  have hB1 : Below w.heap.size w W1 := by rw [hW1]; exact balloc (brefl w) _
  have r4 : W1.cell? ⟨w.heap.size, 0, none⟩ = some (.int .i64 p) ∧ W1.cell? ⟨w.heap.size, 1, none⟩ = some (.int .i64 s) ∧ W1.cell? ⟨w.heap.size, 2, none⟩ = some (.int .i64 f) ∧ W1.cell? ⟨w.heap.size, 3, none⟩ = some (.int .i64 r) := by rw [hW1]; simp [go_sem]
  have HB1 : Hid _ := hB1
  obtain ⟨x0, x1, x2, x3⟩ := r4
  have fin0 : Hid (∀ w', Below w.heap.size w w' → ∃ vm', MemAt w' b g0 g1 vm' S ∧ But (memF b g0 g1 vm) w w' ∧ vm'.ownBlock = vm.ownBlock) := fun w' hb => ⟨vm, H.out.grow hb, But.of_below hb, rfl⟩
  have HW := fun w2 (hb : Below w.heap.size w w2) => wayTo_any t p w2 (h.grow hb)
  clear hB1 eC
  by_cases hc : Pg.Mp.code ⟨p, s, f, r⟩ = 0
  · rw [hc] at HC
    by_cases hz : fndC S t p = 0
    · obtain ⟨Y, sp, lv, hY, W, hsl, hl3, hY3, hpl, hix⟩ := way_split hz
      have hs : 0 ≤ s ∧ s ≤ 2 := by
        have hc' : Pg.check p s f r = 0 := hc
        have hsp : Pg.span s ≠ 0 := by
          intro e
          rw [Pg.check, if_pos e] at hc'
          omega
        unfold Pg.span at hsp
        by_cases h0 : s = 0
        · omega
        · by_cases h1 : s = 1
          · omega
          · by_cases h2 : s = 2
            · omega
            · simp [h0, h1, h2] at hsp
      obtain ⟨sn, rfl⟩ := Int.eq_ofNat_of_zero_le hs.1
      have hs2 : sn ≤ 2 := by omega
      have eI : Pg.insC S t ⟨p, sn, f, r⟩ = if sp.e.t = true ∨ (lv : Int) < (sn : Int) then 4 else if S.free < (lv : Int) - (sn : Int) then 6 else 0 := by
        rw [Pg.insC, if_neg (by simp [hc]), if_neg (by simp [hz]), hY, W.lastE, W.lastL]
      have eS : Pg.insS S t ⟨p, sn, f, r⟩ = if Pg.insC S t ⟨p, sn, f, r⟩ = 0 then (Pg.insW p sn lv S sp.table).1.store (Pg.insW p sn lv S sp.table).2 (Pg.index p (sn : Int)) (Pg.enc true true r false false f (sn : Int)) else S := by
        rw [Pg.insS, hY, W.lastL, W.lastT]
        rfl
      have HW2 : ∀ W', Below w.heap.size w W' → Calls Try.prog 12 #[.pointer (some ⟨b, 0, none⟩), .int .i64 t, .int .i64 p] W' fun e w' => (∃ ad cap, e = .returned (.tuple #[.agg #[.slice ad (Y.length + 1) cap, .bool sp.e.t, .bool sp.e.l, .int .i64 sp.e.r, .bool sp.e.u, .bool sp.e.d, .int .i64 sp.e.f, .int .i64 (lv : Int)], .int .i64 0]) ∧ IntsAt w' ad (tabs (Y ++ [sp])) ∧ ∀ g, ad = some ⟨g, 0, none⟩ → W'.heap.size ≤ g) ∧ Below W'.heap.size W' w' := by
        intro W' hW'
        refine (HW W' hW').mono ?_
        rintro e w' ⟨⟨ad, cap, he, hi⟩, hb, hnew⟩
        rw [hY] at hi
        refine ⟨⟨ad, cap, ?_, hi, fun g hg => hnew g _ _ _ (by rw [he, hg])⟩, hb⟩
        rw [he, hz, hY]
        simp only [wayV, W.lastE, W.lastL, List.length_append, List.length_singleton]
      have hfree := h.ok.free_bd
      have hFr := fun w2 (hb : Below w.heap.size w w2) => memFree_any w2 (h.grow hb)
      have hasT := W.hasT
      have hlenX : lv + (Y.length + 1) = 4 := by have := W.len; rw [List.length_append, List.length_singleton] at this; exact this
      have htl : (tabs (Y ++ [sp])).getD Y.length 0 = sp.table := by simp [tabs]
      have hltl : (tabs (Y ++ [sp])).length = Y.length + 1 := by rw [tabs_len]; simp
      have hbel := W.below
      clear hc hz W hY hsl hpl hix h hs HW
      generalize tabs (Y ++ [sp]) = T at *
      generalize Y.length = N at *
      obtain ⟨st, _, _, _, ⟨et, el, er, eu, ed, ef⟩⟩ := sp
      simp only at eI eS HW2 hasT htl
      clear Y
      generalize Pg.insC S t ⟨p, sn, f, r⟩ = ic at *
      generalize Pg.insS S t ⟨p, sn, f, r⟩ = iS at *
      by_cases hE : et = true ∨ (lv : Int) < (sn : Int)
      · rw [if_pos hE] at eI
        rw [eI, if_neg (by decide)] at eS
        rw [eI, eS]
        clear eI eS
        cases et
        · have hlt' : (lv : Int) < (sn : Int) := by
            rcases hE with h | h
            · cases h
            · exact h
          clear hE
          go_enter Try.func24, Try.ntmps24
          go_wp2_with fail
          rw [← hW1]
          clear hW1
          refine (HC _).mono ?_
          rintro en w2 ⟨rfl, hb2⟩
          have y0 := cell_later hb2 x0
          have y1 := cell_later hb2 x1
          have y2 := cell_later hb2 x2
          have y3 := cell_later hb2 x3
          have HB2 : Hid (Below w.heap.size w w2) := bthen HB1.out hb2
          clear hb2 HC x0 x1 x2 x3
          go_wp2_with fail
          refine (HW2 _ HB2.out).mono ?_
          rintro en w3 ⟨⟨ad, cap, rfl, hi, hnew⟩, hb3⟩
          have z0 := cell_later hb3 y0
          have z1 := cell_later hb3 y1
          have z2 := cell_later hb3 y2
          have z3 := cell_later hb3 y3
          have hlx : w.heap.size < w3.heap.size := World.block_lt_of_cell? _ _ z0
          have HB3 : Hid (Below w.heap.size w w3) := bthen HB2.out hb3
          have hnx : ¬ w.heap.size = w3.heap.size := by omega
          clear hb3 HW2 y0 y1 y2 y3
          go_wp2_with fail
          go_ret
          exact ⟨rfl, fin0.out _ (balloc HB3.out _)⟩
        · clear hE
          go_enter Try.func24, Try.ntmps24
          go_wp2_with fail
          rw [← hW1]
          clear hW1
          refine (HC _).mono ?_
          rintro en w2 ⟨rfl, hb2⟩
          have y0 := cell_later hb2 x0
          have y1 := cell_later hb2 x1
          have y2 := cell_later hb2 x2
          have y3 := cell_later hb2 x3
          have HB2 : Hid (Below w.heap.size w w2) := bthen HB1.out hb2
          clear hb2 HC x0 x1 x2 x3
          go_wp2_with fail
          refine (HW2 _ HB2.out).mono ?_
          rintro en w3 ⟨⟨ad, cap, rfl, hi, hnew⟩, hb3⟩
          have z0 := cell_later hb3 y0
          have z1 := cell_later hb3 y1
          have z2 := cell_later hb3 y2
          have z3 := cell_later hb3 y3
          have hlx : w.heap.size < w3.heap.size := World.block_lt_of_cell? _ _ z0
          have HB3 : Hid (Below w.heap.size w w3) := bthen HB2.out hb3
          have hnx : ¬ w.heap.size = w3.heap.size := by omega
          clear hb3 HW2 y0 y1 y2 y3
          go_wp2_with fail
          go_ret
          exact ⟨rfl, fin0.out _ (balloc HB3.out _)⟩
      · rw [if_neg hE] at eI
        have hef : et = false := by
          cases et
          · rfl
          · exact absurd (.inl rfl) hE
        have hle : sn ≤ lv := by omega
        subst hef
        clear hE
        have dd0 : decide ((lv : Int) < (sn : Int)) = false := by simp; omega
        have dd0' : decide (lv < sn) = false := by simp; omega
        have hwr : IntKind.i64.wrap ((lv : Int) - (sn : Int)) = (lv : Int) - (sn : Int) := wrap_i64_in (by omega) (by omega)
        by_cases hfu : S.free < (lv : Int) - (sn : Int)
        · rw [if_pos hfu] at eI
          rw [eI, if_neg (by decide)] at eS
          rw [eI, eS]
          clear eI eS
          go_enter Try.func24, Try.ntmps24
          go_wp2_with fail
          rw [← hW1]
          clear hW1
          refine (HC _).mono ?_
          rintro en w2 ⟨rfl, hb2⟩
          have y0 := cell_later hb2 x0
          have y1 := cell_later hb2 x1
          have y2 := cell_later hb2 x2
          have y3 := cell_later hb2 x3
          have HB2 : Hid (Below w.heap.size w w2) := bthen HB1.out hb2
          clear hb2 HC x0 x1 x2 x3
          go_wp2_with fail
          refine (HW2 _ HB2.out).mono ?_
          rintro en w3 ⟨⟨ad, cap, rfl, hi, hnew⟩, hb3⟩
          have z0 := cell_later hb3 y0
          have z1 := cell_later hb3 y1
          have z2 := cell_later hb3 y2
          have z3 := cell_later hb3 y3
          have hlx : w.heap.size < w3.heap.size := World.block_lt_of_cell? _ _ z0
          have HB3 : Hid (Below w.heap.size w w3) := bthen HB2.out hb3
          have hnx : ¬ w.heap.size = w3.heap.size := by omega
          clear hb3 HW2 y0 y1 y2 y3
          go_wp2_with fail
          try simp only [dd0, dd0']
          obtain ⟨W4, hW4⟩ : ∃ W4, W4 = w3.alloc (.cells #[.slice ad (N + 1) cap, .bool false, .bool el, .int .i64 er, .bool eu, .bool ed, .int .i64 ef, .int .i64 (lv : Int)] 36) := ⟨_, rfl⟩
          have hb4 : Below w3.heap.size w3 W4 := by rw [hW4]; exact balloc (brefl _) _
          have c0 : W4.cell? ⟨w3.heap.size, 0, none⟩ = some (.slice ad (N + 1) cap) := by rw [hW4]; simp [go_sem]
          have c7 : W4.cell? ⟨w3.heap.size, 7, none⟩ = some (.int .i64 (lv : Int)) := by rw [hW4]; simp [go_sem]
          have q0 := cell_later hb4 z0
          have q1 := cell_later hb4 z1
          have q2 := cell_later hb4 z2
          have q3 := cell_later hb4 z3
          have hi4 := hi.below hb4
          have HB4 : Hid (Below w.heap.size w W4) := bthen HB3.out hb4
          have hl4 : w3.heap.size < W4.heap.size := World.block_lt_of_cell? _ _ c0
          have HFr := fun W' (hb : Below W4.heap.size W4 W') => hFr W' (bthen HB4.out hb)
          rw [← hW4]
          clear hW4 hb4 hi z0 z1 z2 z3 hFr
          go_region_held3 (fun w' => w'.cell? ⟨w3.heap.size, 7, none⟩ = some (.int .i64 (lv : Int)) ∧ w'.cell? ⟨w.heap.size, 1, none⟩ = some (.int .i64 (sn : Int))) (go_keep) (
            (go_at_call 32; refine (HFr _ (by first | exact (brefl W4).drew | exact brefl W4)).mono ?_; rintro en w5 ⟨rfl, hb5⟩
             have HB5 : Hid (Below W4.heap.size W4 w5) := bthen (brefl W4).drew hb5
             have u7 := cell_later HB5.out c7
             have u1 := cell_later HB5.out q1
             clear hb5))
          go_wp2_with fail
          go_ret
          exact ⟨rfl, fin0.out _ (bthen HB4.out HB5.out)⟩
        · rw [if_neg hfu] at eI
          rw [eI, if_pos rfl] at eS
          rw [eI, eS]
          clear eI eS
          have dd1 : decide (S.free < (lv : Int) - (sn : Int)) = false := by simp; omega
          go_enter Try.func24, Try.ntmps24
          go_wp2_with fail
          rw [← hW1]
          clear hW1
          refine (HC _).mono ?_
          rintro en w2 ⟨rfl, hb2⟩
          have y0 := cell_later hb2 x0
          have y1 := cell_later hb2 x1
          have y2 := cell_later hb2 x2
          have y3 := cell_later hb2 x3
          have HB2 : Hid (Below w.heap.size w w2) := bthen HB1.out hb2
          clear hb2 HC x0 x1 x2 x3
          go_wp2_with fail
          refine (HW2 _ HB2.out).mono ?_
          rintro en w3 ⟨⟨ad, cap, rfl, hi, hnew⟩, hb3⟩
          have z0 := cell_later hb3 y0
          have z1 := cell_later hb3 y1
          have z2 := cell_later hb3 y2
          have z3 := cell_later hb3 y3
          have hlx : w.heap.size < w3.heap.size := World.block_lt_of_cell? _ _ z0
          have HB3 : Hid (Below w.heap.size w w3) := bthen HB2.out hb3
          have hnx : ¬ w.heap.size = w3.heap.size := by omega
          clear hb3 HW2 y0 y1 y2 y3
          go_wp2_with fail
          try simp only [dd0, dd0']
          obtain ⟨W4, hW4⟩ : ∃ W4, W4 = w3.alloc (.cells #[.slice ad (N + 1) cap, .bool false, .bool el, .int .i64 er, .bool eu, .bool ed, .int .i64 ef, .int .i64 (lv : Int)] 36) := ⟨_, rfl⟩
          have hb4 : Below w3.heap.size w3 W4 := by rw [hW4]; exact balloc (brefl _) _
          have c0 : W4.cell? ⟨w3.heap.size, 0, none⟩ = some (.slice ad (N + 1) cap) := by rw [hW4]; simp [go_sem]
          have c7 : W4.cell? ⟨w3.heap.size, 7, none⟩ = some (.int .i64 (lv : Int)) := by rw [hW4]; simp [go_sem]
          have q0 := cell_later hb4 z0
          have q1 := cell_later hb4 z1
          have q2 := cell_later hb4 z2
          have q3 := cell_later hb4 z3
          have hi4 := hi.below hb4
          have HB4 : Hid (Below w.heap.size w W4) := bthen HB3.out hb4
          have hl4 : w3.heap.size < W4.heap.size := World.block_lt_of_cell? _ _ c0
          have HFr := fun W' (hb : Below W4.heap.size W4 W') => hFr W' (bthen HB4.out hb)
          rw [← hW4]
          clear hW4 hb4 hi z0 z1 z2 z3 hFr
          go_region_held3 (fun w' => w'.cell? ⟨w3.heap.size, 7, none⟩ = some (.int .i64 (lv : Int)) ∧ w'.cell? ⟨w.heap.size, 1, none⟩ = some (.int .i64 (sn : Int))) (go_keep) (
            (go_at_call 32; refine (HFr _ (by first | exact (brefl W4).drew | exact brefl W4)).mono ?_; rintro en w5 ⟨rfl, hb5⟩
             have HB5 : Hid (Below W4.heap.size W4 w5) := bthen (brefl W4).drew hb5
             have u7 := cell_later HB5.out c7
             have u1 := cell_later HB5.out q1
             clear hb5))
          have u0 := cell_later HB5.out c0
          obtain ⟨g, rfl, hg5, hgc⟩ := (hi4.below HB5.out) N (by omega)
          rw [htl] at hgc
          obtain ⟨t0, t1, _⟩ := H.out.ok.has_lt hasT
          obtain ⟨tn, rfl⟩ := Int.eq_ofNat_of_zero_le t0
          have i4 : (0 : Int) ≤ (N : Int) := by omega
          have i5 : (N : Int) < (N : Int) + 1 := by omega
          have B5 : Hid (Below w.heap.size w w5) := bthen HB4.out HB5.out
          have X5 : Hid (w5.cell? ⟨w.heap.size, 0, none⟩ = some (.int .i64 p) ∧ w5.cell? ⟨w.heap.size, 1, none⟩ = some (.int .i64 (sn : Int)) ∧ w5.cell? ⟨w.heap.size, 2, none⟩ = some (.int .i64 f) ∧ w5.cell? ⟨w.heap.size, 3, none⟩ = some (.int .i64 r)) := ⟨cell_later HB5.out q0, u1, cell_later HB5.out q2, cell_later HB5.out q3⟩
          have M5 : Hid _ := H.out.grow B5.out
          have hlx5 : w.heap.size < w5.heap.size := World.block_lt_of_cell? _ _ X5.out.1
          have hmF : Hid (∀ j, memF b g0 g1 vm j → j < w.heap.size) := fun j hj => H.out.raw.lt hj
          have HT : Hid _ := hasT
          clear hasT q0 q1 q2 q3 c0 c7 HFr HB5 HB4 hi4 hnew
          go_wp2_with fail
          try simp only [dd1]
          clear u7 u1 u0 hgc
          go_loopw [10, 11] (fun tv lvv wr => ∃ (lvn : Nat) (Si : Pg.Fs) (ti : Nat) (vi : Value), sn ≤ lvn ∧ lvn ≤ lv ∧ tv = .int .i64 (ti : Int) ∧ lvv = .int .i64 (lvn : Int) ∧ Hid (InsInv w5 wr b g0 g1 vm vi S Si p sn lv lvn (tn : Int) ti)) (fun _ lvv _ => (intOf lvv).toNat)
          case atStart => exact ⟨lv, S, tn, vm, hle, Nat.le_refl _, rfl, rfl, M5.out, But.refl _ _, rfl, rfl, HT.out, by omega⟩
          case round =>
            obtain ⟨lvn, Si, ti, vi, h1, h2, rfl, rfl, HI⟩ := hrel
            have hbx : wr.heap[w.heap.size]? = w5.heap[w.heap.size]? := HI.out.but.block _ hlx5 fun h => by have := hmF.out _ h; omega
            have b0 := (World.cell?_of_block hbx).trans X5.out.1
            have b1 := (World.cell?_of_block hbx).trans X5.out.2.1
            have b2 := (World.cell?_of_block hbx).trans X5.out.2.2.1
            have b3 := (World.cell?_of_block hbx).trans X5.out.2.2.2
            have hlxr : w.heap.size < wr.heap.size := World.block_lt_of_cell? _ _ b0
            have hmi : Hid (∀ j, memF b g0 g1 vi j → memF b g0 g1 vm j) := fun j hj => by unfold memF at hj ⊢; rw [HI.out.own] at hj; exact hj
            have hg0x : ¬ g0 = w.heap.size := by have := hmF.out g0 (.inr (.inl rfl)); omega
            have hbx0 : ¬ b = w.heap.size := by have := hmF.out b (.inl rfl); omega
            have hx0 : ¬ w.heap.size = g0 := fun e => hg0x e.symm
            have hxb : ¬ w.heap.size = b := fun e => hbx0 e.symm
            clear hbx
            by_cases hlt2 : sn < lvn
            · obtain ⟨lm, rfl⟩ : ∃ lm, lvn = lm + 1 := ⟨lvn - 1, by omega⟩
              have j1 : (sn : Int) < ((lm + 1 : Nat) : Int) := by omega
              obtain ⟨kn, hk1, hk2, hk3, hk4, hk5, hk6, hk7⟩ := Pg.take_some HI.out.mem.ok (by have := HI.out.free; omega)
              have HTk := memTake_any wr HI.out.mem
              have e10 : Hid (Pg.insW p sn lm (Si.take.store (ti : Int) (Pg.index p ((lm + 1 : Nat) : Int)) (Pg.enc true false 7 false false (kn : Int) ((lm + 1 : Nat) : Int))) (kn : Int) = Pg.insW p sn lv S (tn : Int)) := by rw [Hid, ← hk2, ← insW_moreR p sn lm Si ti (by omega)]; exact HI.out.ins
              rw [hk2] at HTk
              have hidx : Pg.index p ((lm + 1 : Nat) : Int) = (Pg.ix p (lm + 1) : Nat) := Pg.index_ix hbel (by omega)
              have hix8 : Pg.ix p (lm + 1) < 8 := Pg.ix_lt _ _
              have hti := hk5 _ HI.out.has
              have hfr := HI.out.free
              have HHas : Hid _ := hti
              have HK4 : Hid _ := hk4
              have HFr2 : Hid (((lm : Nat) : Int) - (sn : Int) ≤ Si.take.free) := by rw [Hid, hk6]; omega
              have HIx := indexOf_any p ((lm + 1 : Nat) : Int)
              have HWo := wordOf_any true false 7 false false (kn : Int) ((lm + 1 : Nat) : Int)
              have hv0 : Hid (0 ≤ Pg.enc true false 7 false false (kn : Int) ((lm + 1 : Nat) : Int) ∧ Pg.enc true false 7 false false (kn : Int) ((lm + 1 : Nat) : Int) < 18446744073709551616) := Pg.enc_bd _ _ _ _ _ _ _
              rw [hidx] at HIx e10
              generalize Pg.enc true false 7 false false (kn : Int) ((lm + 1 : Nat) : Int) = v at *
              generalize Pg.eFault true false 7 false false (kn : Int) ((lm + 1 : Nat) : Int) = fl at *
              generalize Pg.ix p (lm + 1) = i at *
              generalize Si.take = S2 at *
              clear hk1 hk2 hk3 hk4 hk5 hk6 hk7 hti hfr hidx
              go_wp2_with fail
              refine HTk.mono ?_
              rintro en w6 ⟨rfl, vi', hm6, hb6, ho6⟩
              have M6 : Hid _ := hm6
              have B6 : Hid (But (memF b g0 g1 vm) w5 w6) := HI.out.but.trans hb6 fun j _ hj => hmi.out j hj
              have O6 : Hid (vi'.ownBlock = vm.ownBlock) := ho6.trans HI.out.own
              have hbx6 : w6.heap[w.heap.size]? = wr.heap[w.heap.size]? := hb6.block _ hlxr fun h => by have := hmF.out _ (hmi.out _ h); omega
              have d0 := (World.cell?_of_block hbx6).trans b0
              have hc0 := hm6.raw.c0
              obtain ⟨_, htlt, _⟩ := hm6.ok.has_lt HHas.out
              have htn2 : ti < S2.n := by omega
              have hcw := hm6.raw.cw ti i htn2 hix8
              have hf0 := hm6.raw.f0
              have hsm := hm6.ok.small
              have i0 : (0 : Int) ≤ (ti : Int) := by omega
              have i1 : (ti : Int) < (S2.n : Int) := by omega
              have i2 : (0 : Int) ≤ (i : Int) := by omega
              have i3 : (i : Int) < 8 := by omega
              have n0 : ¬ g0 = b := hm6.raw.n0
              have n0' : ¬ b = g0 := fun e => n0 e.symm
              have lx6 : w.heap.size < w6.heap.size := World.block_lt_of_cell? _ _ d0
              have lb6 : b < w6.heap.size := hm6.raw.lb
              have lg6 : g0 < w6.heap.size := hm6.raw.l0
              clear hm6 hb6 ho6 hbx6 HTk b0 b1 b2 b3 HI
              generalize S2.word ti i = wo at *
              go_wp2_with fail
              go_region_held3 (fun w' => w'.cell? ⟨b, 0, none⟩ = some (.slice (some ⟨g0, 0, none⟩) S2.n S2.n) ∧ w'.cell? ⟨w.heap.size, 0, none⟩ = some (.int .i64 p)) (go_keep) (first
                | (go_at_call 14; refine (HIx _).mono ?_; rintro e w7 ⟨rfl, hb7⟩
                   have HB7 : Hid (Below w6.heap.size w6 w7) := bthen (brefl w6).drew hb7
                   have s0 := cell_later HB7.out hc0
                   have s1 := cell_later HB7.out d0
                   clear hb7)
                | (go_at_call 69; refine (HWo _).mono ?_; rintro e w8 ⟨rfl, hb8⟩
                   have HB8 : Hid (Below w6.heap.size w6 w8) := bthen HB7.out hb8
                   have v0 := cell_later HB8.out hc0
                   have v1 := cell_later HB8.out d0
                   have v2 := cell_later HB8.out hcw
                   have v3 : ∀ o, w8.frozen? ⟨g0, o, none⟩ = false := fun o => (HB8.out.frozen (p := ⟨g0, o, none⟩) lg6).trans (hf0 o)
                   clear hb8))
              have fin : Hid (InsInv w5 (w8.setCell ⟨g0, ti * 8 + i, none⟩ (.int .u64 v)) b g0 g1 vm vi' S (S2.store (ti : Int) (i : Int) v) p sn lv lm (tn : Int) kn) := by
                have M8 := (M6.out.grow HB8.out).word HHas.out hix8 hv0.out.1 hv0.out.2
                refine ⟨M8, ?_, O6.out, e10.out, by rw [Pg.store_has]; exact HK4.out, by rw [Pg.store_free]; exact HFr2.out⟩
                refine But.setCell ?_ (by exact .inr (.inr (.inl rfl))) _
                exact B6.out.trans (But.of_below (F := fun _ => False) HB8.out) fun _ _ h => h.elim
              have hlm1 : (1 : Int) ≤ ((lm + 1 : Nat) : Int) := by omega
              go_wp2_with fail
              exact ⟨⟨lm, _, kn, vi', by omega, by omega, rfl, by go_num, fin.out⟩, by simp [intOf]⟩
            · have hee : lvn = sn := by omega
              subst hee
              have j1 : ¬ (lvn : Int) < (lvn : Int) := by omega
              have hins := HI.out.ins
              rw [insW_doneR] at hins
              have HIN : Hid _ := hins
              have hidx : Pg.index p (lvn : Int) = (Pg.ix p lvn : Nat) := Pg.index_ix hbel (by omega)
              have hix8 : Pg.ix p lvn < 8 := Pg.ix_lt _ _
              have HIx := indexOf_any p (lvn : Int)
              have HWo := wordOf_any true true r false false f (lvn : Int)
              have hv0 : Hid (0 ≤ Pg.enc true true r false false f (lvn : Int) ∧ Pg.enc true true r false false f (lvn : Int) < 18446744073709551616) := Pg.enc_bd _ _ _ _ _ _ _
              have HPost : Hid ((Pg.insW p lvn lv S (tn : Int)).1.store (Pg.insW p lvn lv S (tn : Int)).2 (Pg.index p (lvn : Int)) (Pg.enc true true r false false f (lvn : Int)) = Si.store (ti : Int) (Pg.ix p lvn : Nat) (Pg.enc true true r false false f (lvn : Int))) := by rw [Hid, ← hins, hidx]
              rw [hidx] at HIx
              generalize hve : Pg.enc true true r false false f (lvn : Int) = v at *
              have HVE : Hid _ := hve
              clear hve
              generalize Pg.eFault true true r false false f (lvn : Int) = fl at *
              generalize Pg.ix p lvn = i at *
              have M6 : Hid _ := HI.out.mem
              have B6 : Hid _ := HI.out.but
              have O6 : Hid _ := HI.out.own
              have HHas : Hid _ := HI.out.has
              have hc0 := HI.out.mem.raw.c0
              obtain ⟨_, htlt, _⟩ := HI.out.mem.ok.has_lt HHas.out
              have htn2 : ti < Si.n := by omega
              have hcw := HI.out.mem.raw.cw ti i htn2 hix8
              have hf0 := HI.out.mem.raw.f0
              have hsm := HI.out.mem.ok.small
              have i0 : (0 : Int) ≤ (ti : Int) := by omega
              have i1 : (ti : Int) < (Si.n : Int) := by omega
              have i2 : (0 : Int) ≤ (i : Int) := by omega
              have i3 : (i : Int) < 8 := by omega
              have n0 : ¬ g0 = b := HI.out.mem.raw.n0
              have n0' : ¬ b = g0 := fun e => n0 e.symm
              have lb6 : b < wr.heap.size := HI.out.mem.raw.lb
              have lg6 : g0 < wr.heap.size := HI.out.mem.raw.l0
              clear hins HI hidx
              generalize Si.word ti i = wo at *
              go_wp2_with fail
              go_region_held3 (fun w' => w'.cell? ⟨b, 0, none⟩ = some (.slice (some ⟨g0, 0, none⟩) Si.n Si.n) ∧ w'.cell? ⟨w.heap.size, 0, none⟩ = some (.int .i64 p) ∧ w'.cell? ⟨w.heap.size, 1, none⟩ = some (.int .i64 (lvn : Int)) ∧ w'.cell? ⟨w.heap.size, 2, none⟩ = some (.int .i64 f) ∧ w'.cell? ⟨w.heap.size, 3, none⟩ = some (.int .i64 r)) (go_keep) (first
                | (go_at_call 14; refine (HIx _).mono ?_; rintro e w7 ⟨rfl, hb7⟩
                   have HB7 : Hid (Below wr.heap.size wr w7) := bthen (brefl wr).drew hb7
                   have s0 := cell_later HB7.out hc0
                   have s1 := cell_later HB7.out b0
                   have s2 := cell_later HB7.out b1
                   have s3 := cell_later HB7.out b2
                   have s4 := cell_later HB7.out b3
                   clear hb7)
                | (go_at_call 69; refine (HWo _).mono ?_; rintro e w8 ⟨rfl, hb8⟩
                   have HB8 : Hid (Below wr.heap.size wr w8) := bthen HB7.out hb8
                   have v0 := cell_later HB8.out hc0
                   have v1 := cell_later HB8.out b0
                   have v2 := cell_later HB8.out b1
                   have v3 := cell_later HB8.out b2
                   have v4 := cell_later HB8.out b3
                   have v5 := cell_later HB8.out hcw
                   have v6 : ∀ o, w8.frozen? ⟨g0, o, none⟩ = false := fun o => (HB8.out.frozen (p := ⟨g0, o, none⟩) lg6).trans (hf0 o)
                   clear hb8))
              have fin : Hid (MemAt (w8.setCell ⟨g0, ti * 8 + i, none⟩ (.int .u64 v)) b g0 g1 vi (Si.store (ti : Int) (i : Int) v) ∧ But (memF b g0 g1 vm) w (w8.setCell ⟨g0, ti * 8 + i, none⟩ (.int .u64 v)) ∧ vi.ownBlock = vm.ownBlock) := by
                refine ⟨(M6.out.grow HB8.out).word HHas.out hix8 hv0.out.1 hv0.out.2, ?_, O6.out⟩
                refine But.setCell ?_ (by exact .inr (.inr (.inl rfl))) _
                exact ((But.of_below B5.out).trans B6.out fun _ _ h => h).trans (But.of_below (F := fun _ => False) HB8.out) fun _ _ h => h.elim
              go_wp2_with fail
              go_ret
              refine ⟨rfl, vi, ?_, fin.out.2⟩
              rw [HVE.out, HPost.out]
              exact fin.out.1
    · have e1 : Pg.insC S t ⟨p, s, f, r⟩ = fndC S t p := by rw [Pg.insC, if_neg (by simp [hc]), if_pos hz]
      have e2 : Pg.insS S t ⟨p, s, f, r⟩ = S := by rw [Pg.insS, e1, if_neg hz]
      rw [e1, e2]
      clear e1 e2 h
      generalize fndC S t p = cc at *
      have hcb : (cc != 0) = true := by simp [hz]
      clear hz hc
      go_enter Try.func24, Try.ntmps24
      go_wp2_with fail
      rw [← hW1]
      clear hW1
      refine (HC _).mono ?_
      rintro en w2 ⟨rfl, hb2⟩
      have y0 := cell_later hb2 x0
      have HB2 : Hid (Below w.heap.size w w2) := bthen HB1.out hb2
      clear hb2
      go_wp2_with fail
      refine (HW _ HB2.out).mono ?_
      rintro en w3 ⟨⟨ad, cap, rfl, _⟩, hb3, _⟩
      have HB3 : Hid (Below w.heap.size w w3) := bthen HB2.out hb3
      clear hb3
      unfold wayV
      go_wp2_with fail
      go_ret
      exact ⟨rfl, fin0.out _ (balloc HB3.out _)⟩
  · have e1 : Pg.insC S t ⟨p, s, f, r⟩ = Pg.Mp.code ⟨p, s, f, r⟩ := by rw [Pg.insC, if_pos hc]
    have e2 : Pg.insS S t ⟨p, s, f, r⟩ = S := by rw [Pg.insS, e1, if_neg hc]
    rw [e1, e2]
    clear e1 e2 h HW
    generalize Pg.Mp.code ⟨p, s, f, r⟩ = cc at *
    have hcb : (cc != 0) = true := by simp [hc]
    clear hc
    go_enter Try.func24, Try.ntmps24
    go_wp2_with fail
    rw [← hW1]
    clear hW1
    refine (HC _).mono ?_
    rintro en w2 ⟨rfl, hb2⟩
    have HB2 : Hid (Below w.heap.size w w2) := bthen HB1.out hb2
    clear hb2
    go_wp2_with fail
    go_ret
    exact ⟨rfl, fin0.out _ HB2.out⟩
end Go.Proofs.Ytbkpndgadgafiac
