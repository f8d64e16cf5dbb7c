
/-
  FramesDoes is true for every argument: each function of package frames answers as the document's own frames do.
-/
import Derived.Test.YtkcmlmofcjdgoabFrameS
import Derived.Test.YtkcmlmofcjdgoabMemRef
import Derived.Test.YtkcmlmofcjdgoabFramesKept
import Derived.Deep.RegionHeld3
import Derived.Deep.DeepCutAuto
namespace Go.Proofs.Ytkcmlmofcjdgoab
open Go.ChangeShapes Go.WideShapes Go.ChangeAt Go.RowKit Go.Joins Go.Sort
set_option linter.unusedVariables false

/-- The developers' frames and the document's are the same, and lie apart, in memory that was not there when the call began. -/
structure Both (w0 w : World) (b m : Nat) (S : Pg.Fs) (F : Nat → Prop) (g0 g1 : Nat) (vb : Value) : Prop where
  fr : Kept w0 w b S F
  mem : MemAt w m g0 g1 vb S
  new : ∀ k, memF m g0 g1 vb k → w0.heap.size ≤ k
  apart : ∀ k, F k → ¬ memF m g0 g1 vb k

namespace Both
variable {w0 w w' : World} {b m : Nat} {S : Pg.Fs} {F : Nat → Prop} {g0 g1 : Nat} {vb : Value}
theorem grow (h : Both w0 w b m S F g0 g1 vb) (hb : Below w.heap.size w w') : Both w0 w' b m S F g0 g1 vb :=
  ⟨h.fr.grow hb, h.mem.keep (F := fun _ => False) (But.of_below hb) (fun _ _ => id), h.new, h.apart⟩
/-- The developers' frames have taken a step. -/
theorem left (h : Both w0 w b m S F g0 g1 vb) {S' : Pg.Fs} {F' : Nat → Prop} (h1 : FrAt w' b S' F') (hb : But F w w') (hF : ∀ k, F' k → F k ∨ w.heap.size ≤ k) :
    Kept w0 w' b S' F' ∧ MemAt w' m g0 g1 vb S ∧ (∀ k, F' k → ¬ memF m g0 g1 vb k) :=
  ⟨h.fr.step h1 hb hF, h.mem.keep hb (fun k hk hf => h.apart k hf hk), fun k hk hm => (hF k hk).elim (fun hf => h.apart k hf hm) (fun hs => by have := h.mem.raw.lt hm; omega)⟩
end Both

/-- The document's frames have taken that step too. -/
theorem Both.right {w0 w w' : World} {b m : Nat} {S S' : Pg.Fs} {F : Nat → Prop} {g0 g1 : Nat} {vb vb' : Value} (h : Kept w0 w b S' F) (hm : MemAt w m g0 g1 vb S) (hn : ∀ k, memF m g0 g1 vb k → w0.heap.size ≤ k) (ha : ∀ k, F k → ¬ memF m g0 g1 vb k)
    (h1 : MemAt w' m g0 g1 vb' S') (hb : But (memF m g0 g1 vb) w w') (hv : vb'.ownBlock = vb.ownBlock ∨ ∃ k, vb'.ownBlock = some k ∧ w.heap.size ≤ k) : Both w0 w' b m S' F g0 g1 vb' := by
  have hF : ∀ k, memF m g0 g1 vb' k → memF m g0 g1 vb k ∨ w.heap.size ≤ k := by
    intro k hk
    rcases hk with rfl | rfl | rfl | hk
    · exact .inl (.inl rfl)
    · exact .inl (.inr (.inl rfl))
    · exact .inl (.inr (.inr (.inl rfl)))
    · rcases hv with e | ⟨j, e, hj⟩
      · exact .inl (.inr (.inr (.inr (e ▸ hk))))
      · rw [hk] at e
        cases e
        exact .inr hj
  refine ⟨⟨h.at'.keep hb ha, h.bel.trans (hb.below h.bel.size hn), h.new⟩, h1, fun k hk => (hF k hk).elim (hn k) (fun hs => Nat.le_trans h.bel.size hs), fun k hk hm' => ?_⟩
  rcases hF k hm' with hf | hs
  · exact ha k hk hf
  · have := h.at'.lt hk
    omega

set_option maxRecDepth 100000 in
set_option maxHeartbeats 4000000 in
theorem framesDoes_walk (w : World) (n : Int) (hn : Pg.fits n) (ad : Option Addr) (len cap : Nat) (q : Nat → Stp)
    (hq : ∀ j, j < len → (∃ b o, ad = some ⟨b, o, none⟩ ∧ b < w.heap.size ∧ StpAt w b (o + j * 5) (q j)) ∧ Pg.fits (q j).k ∧ Pg.fits (q j).i ∧ (0 ≤ (q j).old ∧ (q j).old < 18446744073709551616) ∧ (0 ≤ (q j).w ∧ (q j).w < 18446744073709551616)) :
    Calls Try.prog 4 #[.int .i64 n, .slice ad len cap] w fun e w' => e = .returned (.bool true) ∧ Below w.heap.size w w' := by
  have HQ : Hid _ := hq
  clear hq
  by_cases hl : 400 < len
  · have hl' : (400 : Int) < (len : Int) := by omega
    go_enter Try.func4, Try.ntmps4
    go_wp2_with fail
    refine (framesBegun_any _).mono ?_
    rintro e w1 ⟨rfl, hb1⟩
    go_wp2_with fail
    go_ret
    exact ⟨rfl, hb1⟩
  · have hl' : decide ((400 : Int) < (len : Int)) = false := by simp; omega
    by_cases hbad : n < 0 ∨ 128 < n
    · have HB : Hid _ := hbad
      rcases hbad with h | h
      all_goals
        go_enter Try.func4, Try.ntmps4
        go_wp2_with fail
        refine (framesBegun_any _).mono ?_
        rintro e w1 ⟨rfl, hb1⟩
        go_wp2_with fail
        refine (frNew_bad _ HB.out _).mono ?_
        rintro e w2 ⟨rfl, hb2⟩
        go_wp2_with fail
        go_ret
        exact ⟨rfl, balloc (bthen hb1 hb2) _⟩
    · obtain ⟨m, rfl⟩ := Int.eq_ofNat_of_zero_le (by omega : 0 ≤ n)
      have hm : m ≤ 128 := by omega
      have d0 : decide ((m : Int) < 0) = false := by simp
      have d1 : decide ((128 : Int) < (m : Int)) = false := by simp; omega
      clear hbad
      go_enter Try.func4, Try.ntmps4
      go_wp2_with fail
      refine (framesBegun_any _).mono ?_
      rintro e w1 ⟨rfl, hb1⟩
      go_wp2_with fail
      refine (frNew_any m hm _).mono ?_
      rintro e w2 ⟨b, F, rfl, h2, hb2, hF2⟩
      have k2 : Hid (∀ o, Kept w (w2.alloc o) b (Pg.Fs.new m) F) := fun o => Kept.alloc ⟨h2, bthen hb1 hb2, fun k hk => Nat.le_trans hb1.size (hF2 k hk)⟩ o
      clear h2 hb1 hb2 hF2
      go_wp2_with fail
      refine (newMem_any m hm _).mono ?_
      rintro e w3 ⟨mb, g0, g1, rfl, h3, hb3, l0, l1, l2⟩
      have k3 : Hid (Both w w3 b mb (Pg.Fs.new m) F g0 g1 (.slice none 0 0)) := by
        have k := (k2.out _).grow hb3
        have hz := (k2.out (.cells #[.int .i64 0, .int .i64 0] 32)).bel.size
        refine ⟨k, h3, ?_, ?_⟩
        · intro j hj
          rcases hj with rfl | rfl | rfl | hj
          · omega
          · omega
          · omega
          · simp [Value.ownBlock] at hj
        · intro j hj hj'
          have := (k2.out (.cells #[.int .i64 0, .int .i64 0] 32)).at'.lt hj
          rcases hj' with rfl | rfl | rfl | hj'
          · omega
          · omega
          · omega
          · simp [Value.ownBlock] at hj'
      clear k2 h3 hb3 l0 l1 l2
      go_wp2_with fail
      go_loopw [8] (fun i wr => ∃ k : Nat, k ≤ len ∧ i = .int .i64 k ∧ Hid (∃ S F g0 g1 vb, Both w wr b mb S F g0 g1 vb)) (fun i _ => len - (intOf i).toNat)
      case atStart => exact ⟨0, by omega, rfl, ⟨_, _, _, _, _, k3.out⟩⟩
      case round =>
        obtain ⟨k, hk, rfl, HR⟩ := hrel
        obtain ⟨S, F, g0, g1, vb, HB⟩ := HR.out
        clear HR
        have HB : Hid _ := HB
        by_cases hlt : k < len
        · obtain ⟨⟨xb, xo, rfl, hxl, hx⟩, _, _, ho, hv⟩ := HQ.out k hlt
          have i0 : (0 : Int) ≤ (k : Int) := by omega
          have i1 : (k : Int) < (len : Int) := by omega
          generalize q k = x at *
          obtain ⟨op, kk, ii, old, vv⟩ := x
          obtain ⟨x0, x1, x2, x3, x4⟩ := hx
          have y0 := (HB.out.fr.bel.cell (p := ⟨xb, xo + k * 5, none⟩) hxl).trans x0
          have y1 := (HB.out.fr.bel.cell (p := ⟨xb, xo + k * 5 + 1, none⟩) hxl).trans x1
          have y2 := (HB.out.fr.bel.cell (p := ⟨xb, xo + k * 5 + 2, none⟩) hxl).trans x2
          have y3 := (HB.out.fr.bel.cell (p := ⟨xb, xo + k * 5 + 3, none⟩) hxl).trans x3
          have y4 := (HB.out.fr.bel.cell (p := ⟨xb, xo + k * 5 + 4, none⟩) hxl).trans x4
          simp only at y0 y1 y2 y3 y4 ho hv
          clear x0 x1 x2 x3 x4 HQ
          have HX : Hid (∀ o, Both w (wr.alloc o) b mb S F g0 g1 vb) := fun o => HB.out.grow (balloc (brefl wr) o)
          go_upto_region 15 with fail
          go_cut [10] from 38 to 206 (fun s10 wc => s10 = .bool (S.at' kk ii) ∧ wc = wr.alloc (.cells #[.int .i64 op, .int .i64 kk, .int .i64 ii, .int .u64 old, .int .u64 vv] 38))
          case first =>
            have HA : Hid (S.at' kk ii = (S.has kk && (decide (0 ≤ ii) && decide (ii < 8)))) := rfl
            have HT := memTaken_any kk _ (HX.out (.cells #[.int .i64 op, .int .i64 kk, .int .i64 ii, .int .u64 old, .int .u64 vv] 38)).mem
            cases e1 : S.has kk
            · rw [e1] at HT
              go_wp2_with (go_at_call 14; refine HT.mono ?_; rintro e w4 ⟨rfl, hw⟩; subst w4)
              go_meet
              case rel => exact ⟨by rw [HA.out, e1]; rfl, rfl⟩
            · rw [e1] at HT
              cases e2 : decide (0 ≤ ii)
              · go_wp2_with (go_at_call 14; refine HT.mono ?_; rintro e w4 ⟨rfl, hw⟩; subst w4)
                go_meet
                case rel => exact ⟨by rw [HA.out, e1, e2]; rfl, rfl⟩
              · go_wp2_with (go_at_call 14; refine HT.mono ?_; rintro e w4 ⟨rfl, hw⟩; subst w4)
                go_meet
                case rel => exact ⟨by rw [HA.out, e1, e2]; rfl, rfl⟩
          case rest =>
            obtain ⟨rfl, rfl⟩ := hcut
            rename_i hK
            refine hK _ _ ?_
            refine wp_seq_k ?_
            intro K3 hK3
            go_cut [10] from 38 to 206 (fun _ wc => wc.cell? ⟨wr.heap.size, 1, none⟩ = some (.int .i64 kk) ∧ Hid (∃ S F g0 g1 vb, Both w wc b mb S F g0 g1 vb))
            case first =>
              have hxn : ∀ j, F j → j ≠ wr.heap.size := fun j hj e => by have := HB.out.fr.at'.lt hj; omega
              have hxm : ∀ j, memF mb g0 g1 vb j → j ≠ wr.heap.size := fun j hj e => by have := HB.out.mem.raw.lt hj; omega
              by_cases h0 : op = 0
              · as_aux_lemma =>
                subst h0
                go_wp2_with fail
                refine (frTake_any _ (HX.out _).fr.at').mono ?_
                rintro e w5 ⟨rfl, F5, h5, hb5, hF5⟩
                obtain ⟨a1, a2, a3⟩ := (HX.out _).left h5 hb5 hF5
                have c5 : w5.cell? ⟨wr.heap.size, 1, none⟩ = some (.int .i64 kk) := (hb5.cell (a := ⟨wr.heap.size, 1, none⟩) (by simp) (fun hf => hxn _ hf rfl)).trans (by simp [go_sem])
                have l5 : wr.heap.size < w5.heap.size := by have := hb5.size; simp at this; omega
                have a1 : Hid _ := a1
                have a2 : Hid _ := a2
                have a3 : Hid _ := a3
                have c5 : Hid _ := c5
                clear h5 hb5 hF5
                go_wp2_with fail
                refine (memTake_any _ a2.out).mono ?_
                rintro e w6 ⟨rfl, vb6, m6, b6, v6⟩
                have fin : Hid (w6.cell? ⟨wr.heap.size, 1, none⟩ = some (.int .i64 kk) ∧ Hid (∃ S F g0 g1 vb, Both w w6 b mb S F g0 g1 vb)) :=
                  ⟨(b6.cell (a := ⟨wr.heap.size, 1, none⟩) l5 (fun hf => hxm _ hf rfl)).trans c5.out, ⟨_, _, _, _, _, Both.right a1.out a2.out HB.out.new a3.out m6 b6 (.inl v6)⟩⟩
                clear m6 b6 v6
                go_wp2_with fail
                go_meet
                case rel => exact fin.out
              · have n0 : (op == 0) = false := by simpa using h0
                clear h0
                by_cases h1 : op = 1
                · as_aux_lemma =>
                  subst h1
                  clear n0
                  have HY : Hid (∀ o, Both w (wr.alloc o).drew b mb S F g0 g1 vb) := fun o => (HX.out o).grow (brefl _).drew
                  go_wp2_with fail
                  go_region_held3 (fun w' => w'.cell? ⟨wr.heap.size, 1, none⟩ = some (.int .i64 kk)) (go_keep) (first
                    | (go_at_call 17; refine (frGive_any kk _ (HY.out _).fr.at').mono ?_; rintro e w5 ⟨rfl, F5, h5, hb5, hF5⟩; have c5 : w5.cell? ⟨wr.heap.size, 1, none⟩ = some (.int .i64 kk) := (hb5.cell (a := ⟨wr.heap.size, 1, none⟩) (by simp) (fun hf => hxn _ hf rfl)).trans (by simp [go_sem]); have l5 : wr.heap.size < w5.heap.size := (by have := hb5.size; simp at this; omega); have A5 : Hid _ := (HY.out _).left h5 hb5 hF5; clear h5 hb5 hF5)
                    | (go_at_call 18; refine (memGive_any kk _ A5.out.2.1).mono ?_; rintro e w6 ⟨rfl, vb6, m6, b6, v6⟩; have c6 : w6.cell? ⟨wr.heap.size, 1, none⟩ = some (.int .i64 kk) := (b6.cell (a := ⟨wr.heap.size, 1, none⟩) l5 (fun hf => hxm _ hf rfl)).trans c5; have A6 : Hid _ := Both.right A5.out.1 A5.out.2.1 HB.out.new A5.out.2.2 m6 b6 v6; clear m6 b6 v6))
                  all_goals
                    go_wp2_with fail
                    go_meet
                    case rel => exact ⟨by assumption, ⟨_, _, _, _, _, A6.out⟩⟩
                · have n1 : (op == 1) = false := by simpa using h1
                  clear h1
                  by_cases h2 : op = 2
                  · as_aux_lemma =>
                    subst h2
                    clear n0 n1
                    go_wp2_with fail
                    refine (frLoad_any kk ii _ (HX.out _).fr.at').mono ?_
                    rintro e w5 ⟨rfl, hb5⟩
                    have B5 : Hid _ := (HX.out _).grow hb5
                    have c51 : w5.cell? ⟨wr.heap.size, 1, none⟩ = some (.int .i64 kk) := (hb5.cell (p := ⟨wr.heap.size, 1, none⟩) (by simp)).trans (by simp [go_sem])
                    have c52 : w5.cell? ⟨wr.heap.size, 2, none⟩ = some (.int .i64 ii) := (hb5.cell (p := ⟨wr.heap.size, 2, none⟩) (by simp)).trans (by simp [go_sem])
                    have cm := B5.out.mem.raw.c0
                    clear hb5
                    cases e1 : S.at' kk ii
                    · have hL : S.load kk ii = 0 := by simp [Pg.Fs.load, e1]
                      rw [hL]
                      have e1 : Hid _ := e1
                      go_wp2_with fail
                      go_quiet (fail)
                      go_wp2_with fail
                      go_meet
                      case rel => exact ⟨by simpa using c51, ⟨_, _, _, _, _, B5.out.grow (below_drewN (brefl _) _)⟩⟩
                    · obtain ⟨hk0, hk1, hk2, hk3, hk4⟩ := Pg.Fs.Ok.at_lt B5.out.mem.ok e1
                      obtain ⟨a, rfl⟩ := Int.eq_ofNat_of_zero_le hk0
                      obtain ⟨c, rfl⟩ := Int.eq_ofNat_of_zero_le hk2
                      have ha : a < S.n := by omega
                      have hc : c < 8 := by omega
                      have cw := B5.out.mem.raw.cw a c ha hc
                      have hL : S.load (a : Int) (c : Int) = S.word a c := by simp [Pg.Fs.load, e1]
                      rw [hL]
                      have e1 : Hid _ := e1
                      go_wp2_with fail
                      go_quiet (fail)
                      go_wp2_with fail
                      go_meet
                      case rel => exact ⟨by simpa using c51, ⟨_, _, _, _, _, B5.out.grow (below_drewN (brefl _) _)⟩⟩
                  · have n2 : (op == 2) = false := by simpa using h2
                    clear h2
                    by_cases h3 : op = 3
                    · as_aux_lemma =>
                      subst h3
                      clear n0 n1 n2
                      go_wp2_with fail
                      refine (frStore_any kk ii vv hv.1 hv.2 _ (HX.out _).fr.at').mono ?_
                      rintro e w5 ⟨rfl, F5, h5, hb5, hF5⟩
                      have A5 : Hid _ := (HX.out _).left h5 hb5 hF5
                      have hlx : wr.heap.size < (wr.alloc (.cells #[.int .i64 3, .int .i64 kk, .int .i64 ii, .int .u64 old, .int .u64 vv] 38)).heap.size := by simp
                      have c51 : w5.cell? ⟨wr.heap.size, 1, none⟩ = some (.int .i64 kk) := (hb5.cell (a := ⟨wr.heap.size, 1, none⟩) hlx (fun hf => hxn _ hf rfl)).trans (by simp [go_sem])
                      have c52 : w5.cell? ⟨wr.heap.size, 2, none⟩ = some (.int .i64 ii) := (hb5.cell (a := ⟨wr.heap.size, 2, none⟩) hlx (fun hf => hxn _ hf rfl)).trans (by simp [go_sem])
                      have c54 : w5.cell? ⟨wr.heap.size, 4, none⟩ = some (.int .u64 vv) := (hb5.cell (a := ⟨wr.heap.size, 4, none⟩) hlx (fun hf => hxn _ hf rfl)).trans (by simp [go_sem])
                      have cm := A5.out.2.1.raw.c0
                      clear h5 hb5 hF5 hlx
                      cases e1 : S.at' kk ii
                      · have fin : Hid (∃ S F g0 g1 vb, Both w w5 b mb S F g0 g1 vb) := by
                          have hS : S.store kk ii vv = S := by simp [Pg.Fs.store, e1]
                          refine ⟨S, F5, g0, g1, vb, ⟨by rw [← hS]; exact A5.out.1, A5.out.2.1, HB.out.new, A5.out.2.2⟩⟩
                        have e1 : Hid _ := e1
                        go_wp2_with fail
                        go_meet
                        case rel => exact ⟨c51, fin⟩
                      · obtain ⟨hk0, hk1, hk2, hk3, hk4⟩ := Pg.Fs.Ok.at_lt A5.out.2.1.ok e1
                        obtain ⟨a, rfl⟩ := Int.eq_ofNat_of_zero_le hk0
                        obtain ⟨c, rfl⟩ := Int.eq_ofNat_of_zero_le hk2
                        have ha : a < S.n := by omega
                        have hc : c < 8 := by omega
                        have cw := A5.out.2.1.raw.cw a c ha hc
                        have cf := A5.out.2.1.raw.f0
                        have nx : g0 ≠ wr.heap.size := fun e => hxm _ (.inr (.inl rfl)) e
                        have ng : g0 ≠ mb := A5.out.2.1.raw.n0
                        have fin : Hid ((w5.setCell ⟨g0, a * 8 + c, none⟩ (.int .u64 vv)).drew.cell? ⟨wr.heap.size, 1, none⟩ = some (.int .i64 (a : Int)) ∧ Hid (∃ S F g0' g1 vb, Both w (w5.setCell ⟨g0, a * 8 + c, none⟩ (.int .u64 vv)).drew b mb S F g0' g1 vb)) := by
                          have hS : S.store (a : Int) (c : Int) vv = { S with word := Pg.Fs.put S.word a c vv } := by simp [Pg.Fs.store, e1]
                          have m5 := A5.out.2.1
                          have m6 : MemAt (w5.setCell ⟨g0, a * 8 + c, none⟩ (.int .u64 vv)) mb g0 g1 vb (S.store (a : Int) (c : Int) vv) := ⟨by rw [hS]; exact m5.raw.put ha hc vv, m5.ok.store _ _ hv.1 hv.2⟩
                          exact ⟨(World.cell?_setCell_other _ _ _ _ (fun e => nx (by injection e))).trans c51, ⟨_, _, _, _, _, (Both.right A5.out.1 m5 HB.out.new A5.out.2.2 m6 ((But.refl _ _).setCell (.inr (.inr (.inl rfl))) _) (.inl rfl)).grow (brefl _).drew⟩⟩
                        have e1 : Hid _ := e1
                        go_wp2_with fail
                        go_region_held3 (fun w' => w'.cell? ⟨wr.heap.size, 1, none⟩ = some (.int .i64 (a : Int)) ∧ w'.cell? ⟨wr.heap.size, 2, none⟩ = some (.int .i64 (c : Int)) ∧ w'.cell? ⟨wr.heap.size, 4, none⟩ = some (.int .u64 vv) ∧ w'.cell? ⟨mb, 0, none⟩ = some (.slice (some ⟨g0, 0, none⟩) S.n S.n)) (go_keep) (fail)
                        all_goals
                          go_wp2_with fail
                          go_meet
                          case rel => exact fin.out
                    · have n3 : (op == 3) = false := by simpa using h3
                      clear h3
                      by_cases h4 : op = 4
                      · as_aux_lemma =>
                        subst h4
                        clear n0 n1 n2 n3
                        have cm := (HX.out (.cells #[.int .i64 4, .int .i64 kk, .int .i64 ii, .int .u64 old, .int .u64 vv] 38)).mem.raw.c0
                        have HY : Hid (∀ n, Both w ((wr.alloc (.cells #[.int .i64 4, .int .i64 kk, .int .i64 ii, .int .u64 old, .int .u64 vv] 38)).drewN n) b mb S F g0 g1 vb) := fun n => (HX.out _).grow (below_drewN (brefl _) n)
                        cases e1 : S.at' kk ii
                        · have hS : S.swaps kk ii old = false := by simp [Pg.Fs.swaps, e1]
                          have hT : Hid (S.swap kk ii old vv = S) := by simp [Hid, Pg.Fs.swap, hS]
                          have HW := fun w h => frSwap_any kk ii old vv hv.1 hv.2 w (b := b) (S := S) (F := F) h
                          rw [hS, hT.out] at HW
                          have e1 : Hid _ := e1
                          have hS : Hid _ := hS
                          go_wp2_with fail
                          go_quiet (fail)
                          go_wp2_with fail
                          refine (HW _ (HY.out _).fr.at').mono ?_
                          rintro e w5 ⟨rfl, F5, h5, hb5, hF5⟩
                          have A5 : Hid _ := (HY.out _).left h5 hb5 hF5
                          have c51 : Hid (w5.cell? ⟨wr.heap.size, 1, none⟩ = some (.int .i64 kk)) := (hb5.cell (a := ⟨wr.heap.size, 1, none⟩) (by simp) (fun hf => hxn _ hf rfl)).trans (by simp [go_sem])
                          clear h5 hb5 hF5 HW
                          go_wp2_with fail
                          go_meet
                          case rel => exact ⟨c51.out, ⟨S, F5, g0, g1, vb, ⟨A5.out.1, A5.out.2.1, HB.out.new, A5.out.2.2⟩⟩⟩
                        · obtain ⟨hk0, hk1, hk2, hk3, hk4⟩ := Pg.Fs.Ok.at_lt HB.out.mem.ok e1
                          obtain ⟨a, rfl⟩ := Int.eq_ofNat_of_zero_le hk0
                          obtain ⟨c, rfl⟩ := Int.eq_ofNat_of_zero_le hk2
                          have ha : a < S.n := by omega
                          have hc : c < 8 := by omega
                          have cw := (HX.out (.cells #[.int .i64 4, .int .i64 (a : Int), .int .i64 (c : Int), .int .u64 old, .int .u64 vv] 38)).mem.raw.cw a c ha hc
                          have HW := fun w h => frSwap_any (a : Int) (c : Int) old vv hv.1 hv.2 w (b := b) (S := S) (F := F) h
                          by_cases hw : S.word a c = old
                          · have hS : S.swaps (a : Int) (c : Int) old = true := by simp [Pg.Fs.swaps, e1, hw]
                            have hT : Hid (S.swap (a : Int) (c : Int) old vv = { S with word := Pg.Fs.put S.word a c vv }) := by simp [Hid, Pg.Fs.swap, hS]
                            rw [hS] at HW
                            rw [hw] at cw
                            have e1 : Hid _ := e1
                            have hS : Hid _ := hS
                            have hw : Hid _ := hw
                            go_wp2_with fail
                            go_quiet (fail)
                            go_wp2_with fail
                            refine (HW _ (HY.out _).fr.at').mono ?_
                            rintro e w5 ⟨rfl, F5, h5, hb5, hF5⟩
                            have A5 : Hid _ := (HY.out _).left h5 hb5 hF5
                            have c51 : w5.cell? ⟨wr.heap.size, 1, none⟩ = some (.int .i64 (a : Int)) := (hb5.cell (a := ⟨wr.heap.size, 1, none⟩) (by simp) (fun hf => hxn _ hf rfl)).trans (by simp [go_sem])
                            have c52 : w5.cell? ⟨wr.heap.size, 2, none⟩ = some (.int .i64 (c : Int)) := (hb5.cell (a := ⟨wr.heap.size, 2, none⟩) (by simp) (fun hf => hxn _ hf rfl)).trans (by simp [go_sem])
                            have c54 : w5.cell? ⟨wr.heap.size, 4, none⟩ = some (.int .u64 vv) := (hb5.cell (a := ⟨wr.heap.size, 4, none⟩) (by simp) (fun hf => hxn _ hf rfl)).trans (by simp [go_sem])
                            have cm5 := A5.out.2.1.raw.c0
                            have cw5 := A5.out.2.1.raw.cw a c ha hc
                            have cf5 := A5.out.2.1.raw.f0
                            have nx : g0 ≠ wr.heap.size := fun e => hxm _ (.inr (.inl rfl)) e
                            have ng : g0 ≠ mb := A5.out.2.1.raw.n0
                            have fin : Hid ((w5.setCell ⟨g0, a * 8 + c, none⟩ (.int .u64 vv)).drew.cell? ⟨wr.heap.size, 1, none⟩ = some (.int .i64 (a : Int)) ∧ Hid (∃ S F g0' g1 vb, Both w (w5.setCell ⟨g0, a * 8 + c, none⟩ (.int .u64 vv)).drew b mb S F g0' g1 vb)) := by
                              have m5 := A5.out.2.1
                              have m6 : MemAt (w5.setCell ⟨g0, a * 8 + c, none⟩ (.int .u64 vv)) mb g0 g1 vb (S.swap (a : Int) (c : Int) old vv) := ⟨by rw [hT.out]; exact m5.raw.put ha hc vv, m5.ok.swap _ _ _ hv.1 hv.2⟩
                              exact ⟨(World.cell?_setCell_other _ _ _ _ (fun e => nx (by injection e))).trans c51, ⟨_, _, _, _, _, (Both.right A5.out.1 m5 HB.out.new A5.out.2.2 m6 ((But.refl _ _).setCell (.inr (.inr (.inl rfl))) _) (.inl rfl)).grow (brefl _).drew⟩⟩
                            clear h5 hb5 hF5 HW cw cm HY HX
                            go_wp2_with fail
                            go_region_held3 (fun w' => w'.cell? ⟨wr.heap.size, 1, none⟩ = some (.int .i64 (a : Int)) ∧ w'.cell? ⟨wr.heap.size, 2, none⟩ = some (.int .i64 (c : Int)) ∧ w'.cell? ⟨wr.heap.size, 4, none⟩ = some (.int .u64 vv) ∧ w'.cell? ⟨mb, 0, none⟩ = some (.slice (some ⟨g0, 0, none⟩) S.n S.n)) (go_keep) (fail)
                            all_goals
                              go_wp2_with fail
                              go_meet
                              case rel => exact fin.out
                          · have hS : S.swaps (a : Int) (c : Int) old = false := by simp [Pg.Fs.swaps, e1, hw]
                            have hT : S.swap (a : Int) (c : Int) old vv = S := by simp [Pg.Fs.swap, hS]
                            rw [hS, hT] at HW
                            have hne : (S.word a c == old) = false := by simpa using hw
                            have e1 : Hid _ := e1
                            have hS : Hid _ := hS
                            clear hw hT
                            go_wp2_with fail
                            go_quiet (fail)
                            go_wp2_with fail
                            refine (HW _ (HY.out _).fr.at').mono ?_
                            rintro e w5 ⟨rfl, F5, h5, hb5, hF5⟩
                            have A5 : Hid _ := (HY.out _).left h5 hb5 hF5
                            have c51 : Hid (w5.cell? ⟨wr.heap.size, 1, none⟩ = some (.int .i64 (a : Int))) := (hb5.cell (a := ⟨wr.heap.size, 1, none⟩) (by simp) (fun hf => hxn _ hf rfl)).trans (by simp [go_sem])
                            clear h5 hb5 hF5 HW cw
                            go_wp2_with fail
                            go_meet
                            case rel => exact ⟨c51.out, ⟨S, F5, g0, g1, vb, ⟨A5.out.1, A5.out.2.1, HB.out.new, A5.out.2.2⟩⟩⟩
                      · have n4 : (op == 4) = false := by simpa using h4
                        clear h4
                        go_wp2_with fail
                        go_meet
                        case rel => exact ⟨by simp [go_sem], ⟨_, _, _, _, _, HX.out _⟩⟩
            case rest =>
              obtain ⟨hk1, HR'⟩ := hcut
              obtain ⟨S', F', g0', g1', vb', HB'⟩ := HR'.out
              have HC : Hid _ := HB'
              clear HB' HR'
              refine hK3 _ _ ?_
              go_wp2_with fail
              have kc := cell_regrown hk1
              have HE : Hid (∀ d os, Both w (grow (redrawn wc d) os) b mb S' F' g0' g1' vb') := fun d os => HC.out.grow (below_regrown wc d os)
              refine wp_region_quiet_below (by kernel_rfl) (by kernel_rfl) ?_
              repeat (first
                | go_big_quiet_step ((first
                  | (go_at_call 22; exact Calls.regrown_of (frFree_any _ (HE.out _ _).fr.at'))
                  | (go_at_call 23; exact Calls.regrown_of (memFree_any _ (HE.out _ _).mem))
                  | (go_at_call 24; exact Calls.regrown_of (frTaken_any _ _ (HE.out _ _).fr.at'))
                  | (go_at_call 14; exact Calls.regrown_of (below_of_same (memTaken_any _ _ (HE.out _ _).mem))))))
              refine wpQuiet_nil ?_
              intro _ hw'
              obtain ⟨⟨dq, osq⟩, rfl⟩ := hw'
              have HF : Hid _ := HE.out dq osq
              clear HE kc
              go_wp2_with fail
              go_roundw
              case rel =>
                exact ⟨k + 1, by omega, by go_num, ⟨_, _, _, _, _, HF.out⟩⟩
              case measure => simp [intOf]; omega
        · have i1 : ¬ (k : Int) < (len : Int) := by omega
          have HF : Hid _ := HB.out.fr.bel
          clear HQ
          go_wp2_with fail
          go_ret
          exact ⟨rfl, HF.out⟩

set_option maxRecDepth 100000 in
theorem framesDoes_lifted (os : Os) (started : os.Started) (H : Type) (enc : TypeId × Value → H) :
    ReturnsInHanded {} Try.checked os 4 .any (Rows.framesDoesSpec.pre6 enc Try.prog Try.f4 Rows.framesDoesRow.domain false) (Rows.framesDoesSpec.post enc Try.prog Try.f4 false true false false) := by
  refine returnsInHanded_of_change (C := Try.checked) own started (by kernel_rfl) Try.func4
    (ChangeSpec.witness6 (enc := enc) (C := Try.checked) false ⟨#[], #[.int .i64 0, .slice none 0 0], []⟩ 8 (by kernel_rfl) (by kernel_rfl) (by kernel_rfl) (by kernel_rfl)) ?_
  intro W base args ds gs before hval0 hW hcnd _
  have hval : ∀ (j : Nat) t v, Try.f4.params[j]? = some t → args[j]? = some v → Value.okWide Try.prog W .any base t v := hval0
  have hW' := hW
  obtain ⟨p, q, hA0, hV, rfl, hfz, hnd⟩ := hW
  have hA : DataW.TrodAll enc Try.prog W 0 (fun _ => true) true Try.f4.params.toList args.toList ds p := hA0
  rw [Try.params4] at hA hval
  obtain ⟨v0, vs0, d0, ds0, p0, q0, hargs, rfl, rfl, h0, r0⟩ := trodAll_cons hA
  obtain ⟨v1, vs1, d1, ds1, p1, q1, rfl, rfl, rfl, h1, r1⟩ := trodAll_cons r0
  obtain ⟨rfl, rfl, rfl⟩ := trodAll_nil r1
  obtain rfl : args = #[v0, v1] := by cases args; simp_all
  obtain ⟨rfl, rfl⟩ := trodVars_none hV
  obtain ⟨a0a, rfl, f0a⟩ := openInt (hval 0 3 v0 rfl rfl) h0
  obtain ⟨a1a, a1b, a1c, a1d, rfl, f1a⟩ := openSteps (hval 1 29 v1 rfl rfl) h1
  clear hA0 hval0
  refine (framesDoes_walk W a0a f0a a1a a1b a1c a1d f1a).mono fun e W' ⟨he, bel⟩ => ?_
  subst he
  exact ⟨_, rfl, _, _, _, [], _, [], hW', trodAll_mk1 (shut_bool Try.underlying4 _), (trodAll_cons_mk (stays (by kernel_rfl) (of_decide_eq_true (by kernel_rfl)) h0 bel) (trodAll_cons_mk (stays (by kernel_rfl) (of_decide_eq_true (by kernel_rfl)) h1 bel) trodAll_mk0)), rfl, bel.frame _, fun h => by cases h⟩

theorem framesDoes_over : Rows.framesDoesRow.holds Try.pinned (OpenSpec.ofChange Rows.framesDoesSpec) :=
  OpenClaim.holds_of_wide 4 Try.f4 rfl rfl rfl rfl rfl rfl rfl ⟨rfl, rfl, rfl, rfl, rfl⟩ rfl rfl rfl rfl rfl (by kernel_rfl) Try.func4 (by kernel_rfl)
    (of_decide_eq_true (by kernel_rfl)) (by unfold Func.isWrapper; first | (rw [if_pos (by decide +kernel)]; kernel_rfl) | (rw [if_neg (by decide +kernel)]; exact ⟨rfl, rfl⟩))
    (fun os started H enc _ => framesDoes_lifted os started H enc)

theorem framesDoes_proved : Rows.FramesDoesSaid := framesDoes_over
#print axioms framesDoes_proved
end Go.Proofs.Ytkcmlmofcjdgoab
