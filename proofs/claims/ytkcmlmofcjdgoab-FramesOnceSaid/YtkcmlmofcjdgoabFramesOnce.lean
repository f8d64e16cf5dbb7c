
/-
  FramesOnce is true for every argument: of the frames that are in use none is taken again ahead of its being given back, and it comes as noughts; as many are free as are not in use; a word that is stored changes no other one.
-/
import Derived.Test.YtkcmlmofcjdgoabFrameS
import Derived.Test.YtkcmlmofcjdgoabFramesRow
import Derived.Deep.RegionHeld3
import Derived.Deep.DeepCutAuto
namespace Go.Proofs.Ytkcmlmofcjdgoab
open Go.ChangeShapes Go.WideShapes Go.ChangeAt Go.RowKit Go.Joins Go.Sort
set_option linter.unusedVariables false

theorem infoU64F : (Try.prog.info? 25).map (fun i => (i.zero, i.size, i.bytes)) = some (some (.int .u64 0), 1, 8) := by kernel_rfl

set_option maxRecDepth 100000 in
set_option maxHeartbeats 40000000 in
theorem framesOnce_walk (w : World) (n : Int) (hn : Pg.fits n) (ad : Option Addr) (len cap : Nat) (q : Nat → Stp)
    (hq : ∀ j, j < len → (∃ b o, ad = some ⟨b, o, none⟩ ∧ b < w.heap.size ∧ StpAt w b (o + j * 5) (q j)) ∧ Pg.fits (q j).k ∧ Pg.fits (q j).i ∧ (0 ≤ (q j).old ∧ (q j).old < 18446744073709551616) ∧ (0 ≤ (q j).w ∧ (q j).w < 18446744073709551616)) :
    Calls Try.prog 5 #[.int .i64 n, .slice ad len cap] w fun e w' => e = .returned (.bool true) ∧ Below w.heap.size w w' := by
  have HQ : Hid _ := hq
  clear hq
  by_cases hl : 300 < len
  · have hl' : (300 : Int) < (len : Int) := by omega
    go_enter Try.func5, Try.ntmps5
    go_wp2_with fail
    refine (framesBegun_any _).mono ?_
    rintro e w1 ⟨rfl, hb1⟩
    go_wp2_with fail
    go_ret
    exact ⟨rfl, hb1⟩
  · have hl' : decide ((300 : Int) < (len : Int)) = false := by simp; omega
    by_cases hbad : n < 0 ∨ 128 < n
    · have HB : Hid _ := hbad
      clear hbad
      go_enter Try.func5, Try.ntmps5
      go_wp2_with fail
      refine (framesBegun_any _).mono ?_
      rintro e w1 ⟨rfl, hb1⟩
      go_wp2_with fail
      refine (frNew_bad _ HB.out _).mono ?_
      rintro e w2 ⟨rfl, hb2⟩
      go_wp2_with fail
      go_ret
      exact ⟨rfl, balloc (bthen hb1 hb2) _⟩
    · obtain ⟨m, rfl⟩ := Int.eq_ofNat_of_zero_le (by omega : 0 ≤ n)
      have hm : m ≤ 128 := by omega
      clear hbad
      go_enter Try.func5, Try.ntmps5
      go_wp2_with fail
      refine (framesBegun_any _).mono ?_
      rintro e w1 ⟨rfl, hb1⟩
      go_wp2_with fail
      refine (frNew_any m hm _).mono ?_
      rintro e w2 ⟨b, F, rfl, h2, hb2, hF2⟩
      have k2 : Hid (∀ o, Lst w (w2.alloc o) b (Pg.Fs.new m) F none 0 []) := fun o => ⟨Kept.alloc ⟨h2, bthen hb1 hb2, fun k hk => Nat.le_trans hb1.size (hF2 k hk)⟩ o, World.ownsRow_nil _ _ _ _, by simp [Value.ownBlock], by simp [Value.ownBlock], by simp [Pg.Fs.new]⟩
      clear h2 hb1 hb2 hF2
      go_wp2_with fail
      go_loopw [7, 8] (fun v i wr => ∃ k : Nat, k ≤ len ∧ i = .int .i64 k ∧ ∃ ad cap, ∃ l : List Nat, v = .slice ad l.length cap ∧ Hid (∃ S F, Lst w wr b S F ad cap l ∧ S.n = m)) (fun _ i _ => len - (intOf i).toNat)
      case atStart => exact ⟨0, by omega, rfl, _, _, [], rfl, ⟨_, _, k2.out _, rfl⟩⟩
      case round =>
        obtain ⟨k, hk, rfl, ad7, cap7, l, rfl, HR⟩ := hrel
        obtain ⟨S, F, HB, hSn⟩ := HR.out
        clear HR k2
        have HB : Hid _ := HB
        by_cases hlt : k < len
        · obtain ⟨⟨xb, xo, rfl, hxl, hx⟩, _, _, ho, hv⟩ := HQ.out k hlt
          have i0 : (0 : Int) ≤ (k : Int) := by omega
          have i1 : (k : Int) < (len : Int) := by omega
          generalize q k = x at *
          obtain ⟨op, kk, ii, old, vv⟩ := x
          obtain ⟨x0, x1, x2, x3, x4⟩ := hx
          have y0 := (HB.out.fr.bel.cell (p := ⟨xb, xo + k * 5, none⟩) hxl).trans x0
          have y1 := (HB.out.fr.bel.cell (p := ⟨xb, xo + k * 5 + 1, none⟩) hxl).trans x1
          have y2 := (HB.out.fr.bel.cell (p := ⟨xb, xo + k * 5 + 2, none⟩) hxl).trans x2
          have y3 := (HB.out.fr.bel.cell (p := ⟨xb, xo + k * 5 + 3, none⟩) hxl).trans x3
          have y4 := (HB.out.fr.bel.cell (p := ⟨xb, xo + k * 5 + 4, none⟩) hxl).trans x4
          simp only at y0 y1 y2 y3 y4 ho hv
          clear x0 x1 x2 x3 x4 HQ
          have HX : Hid (∀ o, Lst w (wr.alloc o) b S F ad7 cap7 l) := fun o => HB.out.grow (balloc (brefl wr) o)
          go_upto_region 13 with fail
          go_cut [49] from 38 to 227 (fun s49 wc => s49 = .int .i64 op ∧ wc = wr.alloc (.cells #[.int .i64 op, .int .i64 kk, .int .i64 ii, .int .u64 old, .int .u64 vv] 38))
          case first =>
            go_wp2_with fail
            go_meet
            case rel => exact ⟨rfl, rfl⟩
          case rest =>
            obtain ⟨rfl, rfl⟩ := hcut
            rename_i hK1 K2 hK2
            refine hK2 _ _ ?_
            go_cut [7] from 38 to 227 (fun v wc => ∃ ad cap, ∃ l : List Nat, v = .slice ad l.length cap ∧ Hid (∃ S F, Lst w wc b S F ad cap l ∧ S.n = m))
            case first =>
              by_cases h0 : op = 0
              · as_aux_lemma =>
                subst h0
                obtain ⟨q0, hqi, hz0, hz1, hz2⟩ := info_parts infoIntF
                have hS := (HX.out (.cells #[.int .i64 0, .int .i64 kk, .int .i64 ii, .int .u64 old, .int .u64 vv] 38)).small
                have hok := HB.out.fr.at'.ok
                have hlen := HB.out.len
                cases hp : S.pick with
                | none =>
                  have HP := pick_none hok hp
                  have e1 : S.takeN = -1 := by simp [Pg.Fs.takeN, hp]
                  have hlm : l.length = m := by rw [hlen, HP.1, hSn]
                  have HT := frTake_any _ (HX.out (.cells #[.int .i64 0, .int .i64 kk, .int .i64 ii, .int .u64 old, .int .u64 vv] 38)).fr.at'
                  rw [e1, HP.2] at HT
                  clear HP hok hlen hS e1 hp
                  go_wp2_with fail
                  refine HT.mono ?_
                  rintro e w5 ⟨rfl, F5, h5, hb5, hF5⟩
                  have A5 : Hid _ := (HX.out _).step h5 hb5 hF5
                  clear h5 hb5 hF5 HT
                  go_wp2_with fail
                  go_roundw
                  case rel => exact ⟨k + 1, by omega, by go_num, _, _, l, by rw [hlm], ⟨_, _, ⟨A5.out.1, A5.out.2.1, HB.out.new, A5.out.2.2, HB.out.perm⟩, hSn⟩⟩
                  case measure => simp [intOf]; omega
                | some k0 =>
                  have hk0 := hok.pick_lt hp
                  obtain ⟨t1, t2, t3⟩ := pick_take hp
                  have e1 : S.takeN = (k0 : Int) := by simp [Pg.Fs.takeN, hp]
                  have HT := frTake_any _ (HX.out (.cells #[.int .i64 0, .int .i64 kk, .int .i64 ii, .int .u64 old, .int .u64 vv] 38)).fr.at'
                  rw [e1] at HT
                  have hperm : Hid ((l ++ [k0]).Perm S.take.used) := by
                    show (l ++ [k0]).Perm S.take.used
                    rw [t1]
                    exact (List.perm_append_comm (l₁ := l) (l₂ := [k0])).trans (HB.out.perm.cons k0)
                  have hni : Hid (∀ j : Nat, j ∈ l → (j : Int) ≠ (k0 : Int)) := fun j hj e => hk0.2 (HB.out.perm.mem_iff.1 ((Int.ofNat.inj e) ▸ hj))
                  have hld : Hid (∀ c : Nat, c < 8 → S.take.load (k0 : Int) (c : Int) = 0 ∧ S.take.at' (k0 : Int) (c : Int) = true) := by
                    intro c hc
                    have hA : S.take.at' (k0 : Int) (c : Int) = true := by
                      simp [Pg.Fs.at', Pg.Fs.has, Pg.Fs.inn, t1]
                      omega
                    exact ⟨by simp [Pg.Fs.load, hA, t2, Pg.Fs.clear], hA⟩
                  have hn' : Hid (S.take.n = m) := t3.trans hSn
                  have j0 : ¬ (k0 : Int) < 0 := by omega
                  have j1 : decide ((m : Int) ≤ (k0 : Int)) = false := by simp; omega
                  have j2 : decide (m ≤ k0) = false := by simp; omega
                  have hl128 : l.length ≤ 128 := by omega
                  clear hok hlen hS e1 hp t1 t2 t3 hk0
                  go_wp2_with fail
                  refine HT.mono ?_
                  rintro e w5 ⟨rfl, F5, h5, hb5, hF5⟩
                  have A5 : Hid _ := (HX.out _).step h5 hb5 hF5
                  have HI := in_no ad7 cap7 l (k0 : Int) w5 (owns_listAt A5.out.2.1) hl128 hni.out
                  clear h5 hb5 hF5 HT
                  go_wp2_with (go_at_call 25; refine HI.mono ?_; rintro e w' ⟨rfl, hw⟩; subst w')
                  try simp only [j2]
                  clear HI
                  go_loopw [11] (fun i wr' => ∃ c : Nat, c ≤ 8 ∧ i = .int .i64 c ∧ wr' = w5) (fun i _ => 8 - (intOf i).toNat)
                  case atStart => exact ⟨0, by omega, rfl, rfl⟩
                  case round =>
                    obtain ⟨c, hc, rfl, rfl⟩ := hrel
                    by_cases hlt8 : c < 8
                    · have HL := frLoad_same (k0 : Int) (c : Int) _ A5.out.1.at'
                      rw [(hld.out c hlt8).1, (hld.out c hlt8).2] at HL
                      have i2 : (c : Int) < 8 := by omega
                      go_wp2_with (go_at_call 19; refine HL.mono ?_; rintro e w' ⟨rfl, hw⟩; subst w')
                      go_roundw
                      case rel => exact ⟨c + 1, by omega, by go_num, by trivial⟩
                      case measure => simp [intOf]; omega
                    · have i2 : ¬ (c : Int) < 8 := by omega
                      have hown := A5.out.2.1
                      go_wp2_with (first
                        | (at_builtin; refine wpList_append_lies _ rfl _ _ 46 rfl 0 3 q0 (.int .i64 0) 1 8 Try.underlying46 hqi hz0 hz1 hz2 rfl (by decide) _ _ _ rfl (hown.alloc _) ⟨wr.heap.size, 0, none⟩ 1 1 [.int .i64 (k0 : Int)] rfl rfl ?c1 ?c2 (by decide) ?c3 ?c4 (Nat.zero_le _) (wr.heap.size + 1) (by simp) ?_))
                      case c2 => rfl
                      case c3 => unfold maxLen; omega
                      case c4 => omega
                      intro g cap3 w3 hown3 hgrow hat hlt3
                      have fin : Hid _ := Lst.push A5.out.1 A5.out.2.1 HB.out.new A5.out.2.2 hperm.out hown3 hgrow hat
                      clear hown3 hgrow hat hlt3 hown
                      go_wp2_with fail
                      go_meet
                      case rel => exact ⟨_, _, l ++ [k0], by simp, ⟨_, _, fin.out, hn'.out⟩⟩
              · have n0 : (op == 0) = false := by simpa using h0
                clear h0
                by_cases h1 : op = 1
                · as_aux_lemma =>
                  subst h1
                  clear n0
                  obtain ⟨q0, hqi, hz0, hz1, hz2⟩ := info_parts infoIntF
                  have hS := HB.out.small
                  have hl128 : l.length ≤ 128 := by omega
                  have HG : Hid _ := lft_give HB.out.fr.at'.ok HB.out.perm kk
                  have HLx : Hid _ := HX.out (.cells #[.int .i64 1, .int .i64 kk, .int .i64 ii, .int .u64 old, .int .u64 vv] 38)
                  have cx1 : Hid ((wr.alloc (.cells #[.int .i64 1, .int .i64 kk, .int .i64 ii, .int .u64 old, .int .u64 vv] 38)).cell? ⟨wr.heap.size, 1, none⟩ = some (.int .i64 kk)) := by simp [Hid, go_sem]
                  have hxw : wr.heap.size < (wr.alloc (.cells #[.int .i64 1, .int .i64 kk, .int .i64 ii, .int .u64 old, .int .u64 vv] 38)).heap.size := by simp
                  generalize wr.alloc (.cells #[.int .i64 1, .int .i64 kk, .int .i64 ii, .int .u64 old, .int .u64 vv] 38) = wx at *
                  generalize wr.heap.size = bx at *
                  clear HX hS
                  go_wp2_with fail
                  go_loopw [14, 15] (fun v i wr' => ∃ c : Nat, c ≤ l.length ∧ i = .int .i64 c ∧ ∃ ad cap, ∃ l2 : List Nat, v = .slice ad l2.length cap ∧ Hid (l2 = lft (l.take c) kk ∧ wr'.ownsRow wx.heap.size 3 1 (.slice ad l2.length cap) l2.length (nats l2) ∧ Below wx.heap.size wx wr')) (fun _ i _ => l.length - (intOf i).toNat)
                  case atStart => exact ⟨0, by omega, rfl, none, 0, [], rfl, ⟨by simp [lft], World.ownsRow_nil _ _ _ _, brefl _⟩⟩
                  case round =>
                    obtain ⟨c, hc, rfl, ad2, cap2, l2, rfl, HR⟩ := hrel
                    have c9 := (HR.out.2.2.cell (p := ⟨bx, 1, none⟩) hxw).trans cx1.out
                    have hl2 : l2.length ≤ 128 := by
                      have := lft_len (l.take c) kk
                      rw [← HR.out.1] at this
                      have := List.length_take_le c l
                      omega
                    have i0 : (0 : Int) ≤ (c : Int) := by omega
                    by_cases hcl : c < l.length
                    · obtain ⟨g7, rfl, hcell⟩ := owns_listAt HLx.out.row c hcl
                      have c7 := (HR.out.2.2.cell (p := ⟨g7, c, none⟩) (World.block_lt_of_cell? _ _ hcell)).trans hcell
                      have i1 : (c : Int) < (l.length : Int) := by omega
                      clear hcell
                      by_cases he : ((l.getD c 0 : Nat) : Int) = kk
                      · rw [he] at c7
                        have fin : Hid (∀ nq, l2 = lft (l.take (c + 1)) kk ∧ (wr.drewN nq).ownsRow wx.heap.size 3 1 (.slice ad2 l2.length cap2) l2.length (nats l2) ∧ Below wx.heap.size wx (wr.drewN nq)) := fun nq =>
                          ⟨by rw [lft_take_eq hcl he]; exact HR.out.1, owns_below HR.out.2.1 (below_drewN (brefl _) nq), bthen HR.out.2.2 (below_drewN (brefl _) nq)⟩
                        clear he HG HLx
                        go_wp2_with fail
                        go_quiet (fail)
                        go_wp2_with fail
                        go_roundw
                        case rel => exact ⟨c + 1, by omega, by go_num, ad2, cap2, l2, rfl, fin.out _⟩
                        case measure => simp [intOf]; omega
                      · have hne : (((l.getD c 0 : Nat) : Int) == kk) = false := by simpa using he
                        have hsucc : Hid _ := lft_take_ne hcl he
                        have hown := fun nq => owns_below HR.out.2.1 (below_drewN (brefl wr) nq)
                        have hbd : Hid (∀ nq, Below wx.heap.size wx (wr.drewN nq)) := fun nq => bthen HR.out.2.2 (below_drewN (brefl _) nq)
                        have hsz : wx.heap.size ≤ wr.heap.size := HR.out.2.2.size
                        clear he HG HLx
                        generalize l.getD c 0 = y at *
                        go_wp2_with fail
                        go_quiet (fail)
                        go_wp2_with (first
                          | (at_builtin; refine wpList_append_lies _ rfl _ _ 46 rfl wx.heap.size 3 q0 (.int .i64 0) 1 8 Try.underlying46 hqi hz0 hz1 hz2 rfl (by decide) _ _ _ rfl ((hown _).alloc _) ⟨wr.heap.size, 0, none⟩ 1 1 [.int .i64 (y : Int)] rfl rfl ?p1 ?p2 (by decide) ?p3 ?p4 ?p5 (wr.heap.size + 1) (by simp) ?_))
                        case p1 =>
                          intro j u hj
                          match j, hj with
                          | 0, hj => simp at hj; subst hj; exact cell_drewN _ _ _ _
                        case p2 => intro u hu; simp at hu; subst hu; rfl
                        case p3 => unfold maxLen; omega
                        case p4 => omega
                        case p5 => simp; omega
                        intro g cap3 w3 hown3 hgrow hat hlt3
                        have fin : Hid (l2 ++ [y] = lft (l.take (c + 1)) kk ∧ w3.ownsRow wx.heap.size 3 1 (.slice (some ⟨g, 0, none⟩) (l2 ++ [y]).length cap3) (l2 ++ [y]).length (nats (l2 ++ [y])) ∧ Below wx.heap.size wx w3) :=
                          ⟨by rw [hsucc.out, ← HR.out.1], by simpa [nats] using hown3, pushed (hbd.out _) (hown _) hgrow⟩
                        clear hown3 hgrow hat hlt3 hown
                        go_wp2_with fail
                        go_roundw
                        case rel => exact ⟨c + 1, by omega, by go_num, _, cap3, l2 ++ [y], by simp, fin.out⟩
                        case measure => simp [intOf]; omega
                    · have hce : c = l.length := by omega
                      have i1 : ¬ (c : Int) < (l.length : Int) := by omega
                      have hle : l2 = lft l kk := by
                        have := HR.out.1
                        rw [hce, List.take_length] at this
                        exact this
                      have HV := frGive_any kk wr (HLx.out.grow HR.out.2.2).fr.at'
                      have hgn : Hid ((S.give kk).n = m) := (give_n S kk).trans hSn
                      have hpm : Hid (l2.Perm (S.give kk).used) := by rw [hle]; exact HG.out.1
                      have hdc : decide (l2.length < l.length) = S.has kk := by rw [hle]; exact HG.out.2
                      clear hce hle HG
                      cases hh : S.has kk
                      · rw [hh] at HV hdc
                        have i3 : ¬ (l2.length : Int) < (l.length : Int) := by simp at hdc; omega
                        clear hdc hh
                        go_wp2_with (go_at_call 17; refine HV.mono ?_; rintro e w6 ⟨rfl, F6, h6, hb6, hF6⟩; have fin : Hid _ := Lst.gave HLx.out HR.out.2.2 HR.out.2.1 h6 hb6 hF6 hpm.out; clear h6 hb6 hF6)
                        go_meet
                        case rel => exact ⟨ad2, cap2, l2, rfl, ⟨_, _, fin.out, hgn.out⟩⟩
                      · rw [hh] at HV hdc
                        have i3 : (l2.length : Int) < (l.length : Int) := by simp at hdc; omega
                        clear hdc hh
                        go_wp2_with (go_at_call 17; refine HV.mono ?_; rintro e w6 ⟨rfl, F6, h6, hb6, hF6⟩; have fin : Hid _ := Lst.gave HLx.out HR.out.2.2 HR.out.2.1 h6 hb6 hF6 hpm.out; clear h6 hb6 hF6)
                        go_meet
                        case rel => exact ⟨ad2, cap2, l2, rfl, ⟨_, _, fin.out, hgn.out⟩⟩
                · have n1 : (op == 1) = false := by simpa using h1
                  clear h1
                  by_cases h3 : op = 3
                  · as_aux_lemma =>
                    subst h3
                    clear n0 n1
                    obtain ⟨q0, hqi, hz0, hz1, hz2⟩ := info_parts infoU64F
                    have hS := HB.out.small
                    have hl128 : l.length ≤ 128 := by omega
                    have hFb : Hid (∀ j, F j → j ≠ wr.heap.size) := fun j hj e => by have := HB.out.fr.at'.lt hj; omega
                    have HLx : Hid _ := HX.out (.cells #[.int .i64 3, .int .i64 kk, .int .i64 ii, .int .u64 old, .int .u64 vv] 38)
                    have cx1 : Hid ((wr.alloc (.cells #[.int .i64 3, .int .i64 kk, .int .i64 ii, .int .u64 old, .int .u64 vv] 38)).cell? ⟨wr.heap.size, 1, none⟩ = some (.int .i64 kk)) := by simp [Hid, go_sem]
                    have cx2 : Hid ((wr.alloc (.cells #[.int .i64 3, .int .i64 kk, .int .i64 ii, .int .u64 old, .int .u64 vv] 38)).cell? ⟨wr.heap.size, 2, none⟩ = some (.int .i64 ii)) := by simp [Hid, go_sem]
                    have cx4 : Hid ((wr.alloc (.cells #[.int .i64 3, .int .i64 kk, .int .i64 ii, .int .u64 old, .int .u64 vv] 38)).cell? ⟨wr.heap.size, 4, none⟩ = some (.int .u64 vv)) := by simp [Hid, go_sem]
                    have hxw : wr.heap.size < (wr.alloc (.cells #[.int .i64 3, .int .i64 kk, .int .i64 ii, .int .u64 old, .int .u64 vv] 38)).heap.size := by simp
                    generalize wr.alloc (.cells #[.int .i64 3, .int .i64 kk, .int .i64 ii, .int .u64 old, .int .u64 vv] 38) = wx at *
                    clear HX hS
                    generalize wr.heap.size = bx at *
                    go_wp2_with fail
                    go_loopw [16, 17] (fun v i wr' => ∃ c : Nat, c ≤ l.length ∧ i = .int .i64 c ∧ ∃ ad cap, v = .slice ad (c * 8) cap ∧ Hid (wr'.ownsRow wx.heap.size 25 1 (.slice ad (c * 8) cap) (c * 8) (wds S l (c * 8)) ∧ Below wx.heap.size wx wr')) (fun _ i _ => l.length - (intOf i).toNat)
                    case atStart => exact ⟨0, by omega, rfl, none, 0, rfl, ⟨World.ownsRow_nil _ _ _ _, brefl _⟩⟩
                    case round =>
                      obtain ⟨c, hc, rfl, adw, capw, rfl, HR⟩ := hrel
                      have i0 : (0 : Int) ≤ (c : Int) := by omega
                      by_cases hcl : c < l.length
                      · have i1 : (c : Int) < (l.length : Int) := by omega
                        go_wp2_with fail
                        go_loopw [16, 18] (fun v i wr' => ∃ d : Nat, d ≤ 8 ∧ i = .int .i64 d ∧ ∃ ad cap, v = .slice ad (c * 8 + d) cap ∧ Hid (wr'.ownsRow wx.heap.size 25 1 (.slice ad (c * 8 + d) cap) (c * 8 + d) (wds S l (c * 8 + d)) ∧ Below wx.heap.size wx wr')) (fun _ i _ => 8 - (intOf i).toNat)
                        case atStart => exact ⟨0, by omega, rfl, adw, capw, rfl, HR⟩
                        case round =>
                          clear HR
                          obtain ⟨d, hd, rfl, ad2, cap2, rfl, HR⟩ := hrel
                          by_cases hd8 : d < 8
                          · obtain ⟨g7, rfl, hcell⟩ := owns_listAt HLx.out.row c hcl
                            have c7 := (HR.out.2.cell (p := ⟨g7, c, none⟩) (World.block_lt_of_cell? _ _ hcell)).trans hcell
                            have i2 : (d : Int) < 8 := by omega
                            have hld := lst_load HLx.out hcl hd8
                            have HL := frLoad_same ((l.getD c 0 : Nat) : Int) (d : Int) wr (HLx.out.grow HR.out.2).fr.at'
                            rw [hld.1, hld.2] at HL
                            have hsucc : Hid _ := wds_succ S l c d hd8
                            have hown := HR.out.1
                            have hsz : wx.heap.size ≤ wr.heap.size := HR.out.2.size
                            clear hld hcell
                            generalize l.getD c 0 = y at *
                            generalize S.word y d = u at *
                            go_wp2_with (first
                              | (go_at_call 19; refine HL.mono ?_; rintro e w' ⟨rfl, hw⟩; subst w')
                              | (at_builtin; refine wpList_append_lies _ rfl _ _ 53 rfl wx.heap.size 25 q0 (.int .u64 0) 1 8 Try.underlying53 hqi hz0 hz1 hz2 rfl (by decide) _ _ _ rfl (hown.alloc _) ⟨wr.heap.size, 0, none⟩ 1 1 [.int .u64 u] rfl rfl ?r1 ?r2 (by decide) ?r3 ?r4 ?r5 (wr.heap.size + 1) (by simp) ?_))
                            case r1 =>
                              intro j u hj
                              match j, hj with
                              | 0, hj => simp at hj; subst hj; exact cell_drewN wr 0 _ _
                            case r2 => intro u hu; simp at hu; subst hu; rfl
                            case r3 => unfold maxLen; omega
                            case r4 => omega
                            case r5 => simp; omega
                            intro g cap3 w3 hown3 hgrow hat hlt3
                            have fin : Hid (w3.ownsRow wx.heap.size 25 1 (.slice (some ⟨g, 0, none⟩) (c * 8 + (d + 1)) cap3) (c * 8 + (d + 1)) (wds S l (c * 8 + (d + 1))) ∧ Below wx.heap.size wx w3) :=
                              ⟨by rw [← Nat.add_assoc, hsucc.out]; exact hown3, pushed HR.out.2 HR.out.1 hgrow⟩
                            clear hown3 hgrow hat hlt3 hown HL
                            go_wp2_with fail
                            go_roundw
                            case rel => exact ⟨d + 1, by omega, by go_num, _, cap3, rfl, fin.out⟩
                            case measure => simp [intOf]; omega
                          · have hd8' : d = 8 := by omega
                            have i2 : ¬ (d : Int) < 8 := by omega
                            have e8 : (c + 1) * 8 = c * 8 + d := by omega
                            clear hd8'
                            go_wp2_with fail
                            go_roundw
                            case rel => exact ⟨c + 1, by omega, by go_num, ad2, cap2, by rw [e8], by rw [e8]; exact HR.out⟩
                            case measure => simp [intOf]; omega
                      · have hce : c = l.length := by omega
                        subst hce
                        have i1 : ¬ (l.length : Int) < (l.length : Int) := by omega
                        have c91 := (HR.out.2.cell (p := ⟨bx, 1, none⟩) hxw).trans cx1.out
                        have c92 := (HR.out.2.cell (p := ⟨bx, 2, none⟩) hxw).trans cx2.out
                        have c94 := (HR.out.2.cell (p := ⟨bx, 4, none⟩) hxw).trans cx4.out
                        have hbw : bx < wr.heap.size := by have := HR.out.2.size; omega
                        have HV := frStore_any kk ii vv hv.1 hv.2 wr (HLx.out.grow HR.out.2).fr.at'
                        go_wp2_with (go_at_call 20; refine HV.mono ?_; rintro e w5 ⟨rfl, F5, h5, hb5, hF5⟩; have A5 : Hid _ := (HLx.out.grow HR.out.2).step h5 hb5 hF5; have d1 := (hb5.cell (a := ⟨bx, 1, none⟩) hbw (fun hf => hFb.out _ hf rfl)).trans c91; have d2 := (hb5.cell (a := ⟨bx, 2, none⟩) hbw (fun hf => hFb.out _ hf rfl)).trans c92; have d4 := (hb5.cell (a := ⟨bx, 4, none⟩) hbw (fun hf => hFb.out _ hf rfl)).trans c94; have hbw5 : bx < w5.heap.size := Nat.lt_of_lt_of_le hbw hb5.size; have hwas : Hid (w5.ownsRow wx.heap.size 25 1 (.slice adw (l.length * 8) capw) (l.length * 8) (wds S l (l.length * 8))) := owns_but HR.out.1 hb5 (fun k hk hf => (by have := (HR.out.1.lt k hk).1; have := HLx.out.fr.at'.lt hf; omega)); clear h5 hb5 hF5 HV)
                        as_aux_lemma =>
                        go_loopw [21] (fun i wr' => ∃ c : Nat, c ≤ l.length ∧ i = .int .i64 c ∧ Hid (Below w5.heap.size w5 wr')) (fun i _ => l.length - (intOf i).toNat)
                        case atStart => exact ⟨0, by omega, rfl, brefl _⟩
                        case round =>
                          obtain ⟨c, hc6, rfl, HR6⟩ := hrel
                          have i3 : (0 : Int) ≤ (c : Int) := by omega
                          by_cases hcl6 : c < l.length
                          · have i4 : (c : Int) < (l.length : Int) := by omega
                            go_wp2_with fail
                            go_loopw [22] (fun i wr' => ∃ d : Nat, d ≤ 8 ∧ i = .int .i64 d ∧ Hid (Below w5.heap.size w5 wr')) (fun i _ => 8 - (intOf i).toNat)
                            case atStart => exact ⟨0, by omega, rfl, HR6⟩
                            case round =>
                              clear HR6
                              obtain ⟨d, hd, rfl, HR6⟩ := hrel
                              by_cases hd8 : d < 8
                              · obtain ⟨g7, rfl, hcell⟩ := owns_listAt A5.out.2.1 c hcl6
                                have c7 := (HR6.out.cell (p := ⟨g7, c, none⟩) (World.block_lt_of_cell? _ _ hcell)).trans hcell
                                have i2 : (d : Int) < 8 := by omega
                                have e1 := (HR6.out.cell (p := ⟨bx, 1, none⟩) hbw5).trans d1
                                have e2 := (HR6.out.cell (p := ⟨bx, 2, none⟩) hbw5).trans d2
                                have e4 := (HR6.out.cell (p := ⟨bx, 4, none⟩) hbw5).trans d4
                                obtain ⟨gw, cap', ew, _, _⟩ := World.ownsRow.form hwas.out (by omega)
                                obtain ⟨rfl, rfl⟩ : adw = some ⟨gw, 0, none⟩ ∧ capw = cap' := by simpa using ew
                                have cw := World.ownsRow.cellAt hwas.out (c * 8 + d) (by omega)
                                rw [wds_at S l _ c d hd8 (by omega)] at cw
                                have cw6 := (HR6.out.cell (p := ⟨gw, c * 8 + d, none⟩) (World.block_lt_of_cell? _ _ cw)).trans cw
                                have hst := store_load kk ii vv (lst_mem HLx.out hcl6) hd8
                                have HL := frLoad_same ((l.getD c 0 : Nat) : Int) (d : Int) wr (A5.out.1.grow HR6.out).at'
                                rw [hst.1, hst.2] at HL
                                have fin : Hid (∀ nq, Below w5.heap.size w5 (wr.drewN nq)) := fun nq => bthen HR6.out (below_drewN (brefl _) nq)
                                clear hcell ew cw hst d1 d2 d4 c91 c92 c94
                                generalize S.word (l.getD c 0) d = u at *
                                generalize l.getD c 0 = y at *
                                have z1 : IntKind.i64.wrap ((c : Int) * 8) = (c : Int) * 8 := wrap_i64_in (by omega) (by omega)
                                have z2 : IntKind.i64.wrap ((c : Int) * 8 + (d : Int)) = (c : Int) * 8 + (d : Int) := wrap_i64_in (by omega) (by omega)
                                have z3 : ((c : Int) * 8 + (d : Int)).toNat = c * 8 + d := by omega
                                have z4 : (0 : Int) ≤ (c : Int) * 8 + (d : Int) := by omega
                                have z5 : (c : Int) * 8 + (d : Int) < (l.length : Int) * 8 := by omega
                                have z6 : (c : Int) * 8 + (d : Int) < ((l.length * 8 : Nat) : Int) := by omega
                                by_cases hy : (y : Int) = kk
                                · rw [← hy] at e1
                                  by_cases hi : (d : Int) = ii
                                  · rw [← hi] at e2
                                    rw [if_pos ⟨hy, hi⟩] at HL
                                    clear hy hi cw6
                                    go_wp2_with (go_at_call 19; refine HL.mono ?_; rintro e w' ⟨rfl, hw⟩; subst w')
                                    go_quiet (fail)
                                    go_wp2_with fail
                                    go_roundw
                                    case rel => exact ⟨d + 1, by omega, by go_num, fin.out _⟩
                                    case measure => simp [intOf]; omega
                                  · have hne : ((d : Int) == ii) = false := by simpa using hi
                                    have hnb : ((d : Int) != ii) = true := by simpa using hi
                                    rw [if_neg (fun h => hi h.2)] at HL
                                    clear hy hi
                                    go_wp2_with (go_at_call 19; refine HL.mono ?_; rintro e w' ⟨rfl, hw⟩; subst w')
                                    go_quiet (fail)
                                    go_wp2_with fail
                                    go_roundw
                                    case rel => exact ⟨d + 1, by omega, by go_num, fin.out _⟩
                                    case measure => simp [intOf]; omega
                                · have hne : ((y : Int) == kk) = false := by simpa using hy
                                  have hnb : ((y : Int) != kk) = true := by simpa using hy
                                  rw [if_neg (fun h => hy h.1)] at HL
                                  clear hy
                                  go_wp2_with (go_at_call 19; refine HL.mono ?_; rintro e w' ⟨rfl, hw⟩; subst w')
                                  go_quiet (fail)
                                  go_wp2_with fail
                                  go_roundw
                                  case rel => exact ⟨d + 1, by omega, by go_num, fin.out _⟩
                                  case measure => simp [intOf]; omega
                              · have i2 : ¬ (d : Int) < 8 := by omega
                                go_wp2_with fail
                                go_roundw
                                case rel => exact ⟨c + 1, by omega, by go_num, HR6.out⟩
                                case measure => simp [intOf]; omega
                          · have i4 : ¬ (c : Int) < (l.length : Int) := by omega
                            have hst := store_used S kk ii vv
                            have fin : Hid (∃ S F, Lst w wr b S F ad7 cap7 l ∧ S.n = m) :=
                              ⟨_, _, ⟨A5.out.1.grow HR6.out, owns_below A5.out.2.1 HR6.out, HB.out.new, A5.out.2.2, by rw [hst.1]; exact HB.out.perm⟩, hst.2.trans hSn⟩
                            clear hst
                            go_wp2_with fail
                            go_meet
                            case rel => exact ⟨ad7, cap7, l, rfl, fin⟩
                  · as_aux_lemma =>
                    have n3 : (op == 3) = false := by simpa using h3
                    clear h3
                    go_wp2_with fail
                    go_meet
                    case rel => exact ⟨_, _, l, rfl, ⟨_, _, HX.out _, hSn⟩⟩
            case rest =>
              obtain ⟨ad9, cap9, l9, rfl, HR9⟩ := hcut
              obtain ⟨S9, F9, HB9, hSn9⟩ := HR9.out
              clear HR9 HX HB
              have hz := HB9.small
              have hf : S9.free = (m : Int) - (l9.length : Int) := by rw [← hSn9]; exact HB9.free
              have HC : Hid _ := HB9
              have HE := frFree_any _ HB9.fr.at'
              rw [hf] at HE
              clear HB9 hf
              refine hK1 _ _ ?_
              go_wp2_with fail
              refine HE.mono ?_
              rintro e w9 ⟨rfl, hb9⟩
              have HD : Hid _ := HC.out.grow hb9
              clear hb9 HC HE
              generalize hln : l9.length = n9 at *
              go_wp2_with fail
              go_roundw
              case rel => exact ⟨k + 1, by omega, by go_num, _, _, l9, by rw [hln], ⟨_, _, HD.out, hSn9⟩⟩
              case measure => simp [intOf]; omega
        · have i1 : ¬ (k : Int) < (len : Int) := by omega
          have HF : Hid _ := HB.out.fr.bel
          clear HQ
          go_wp2_with fail
          go_ret
          exact ⟨rfl, HF.out⟩

set_option maxRecDepth 100000 in
theorem framesOnce_lifted (os : Os) (started : os.Started) (H : Type) (enc : TypeId × Value → H) :
    ReturnsInHanded {} Try.checked os 5 .any (Rows.framesOnceSpec.pre6 enc Try.prog Try.f5 Rows.framesOnceRow.domain false) (Rows.framesOnceSpec.post enc Try.prog Try.f5 false true false false) := by
  refine returnsInHanded_of_change (C := Try.checked) own started (by kernel_rfl) Try.func5
    (ChangeSpec.witness6 (enc := enc) (C := Try.checked) false ⟨#[], #[.int .i64 0, .slice none 0 0], []⟩ 8 (by kernel_rfl) (by kernel_rfl) (by kernel_rfl) (by kernel_rfl)) ?_
  intro W base args ds gs before hval0 hW hcnd _
  have hval : ∀ (j : Nat) t v, Try.f5.params[j]? = some t → args[j]? = some v → Value.okWide Try.prog W .any base t v := hval0
  have hW' := hW
  obtain ⟨p, q, hA0, hV, rfl, hfz, hnd⟩ := hW
  have hA : DataW.TrodAll enc Try.prog W 0 (fun _ => true) true Try.f5.params.toList args.toList ds p := hA0
  rw [Try.params5] at hA hval
  obtain ⟨v0, vs0, d0, ds0, p0, q0, hargs, rfl, rfl, h0, r0⟩ := trodAll_cons hA
  obtain ⟨v1, vs1, d1, ds1, p1, q1, rfl, rfl, rfl, h1, r1⟩ := trodAll_cons r0
  obtain ⟨rfl, rfl, rfl⟩ := trodAll_nil r1
  obtain rfl : args = #[v0, v1] := by cases args; simp_all
  obtain ⟨rfl, rfl⟩ := trodVars_none hV
  obtain ⟨a0a, rfl, f0a⟩ := openInt (hval 0 3 v0 rfl rfl) h0
  obtain ⟨a1a, a1b, a1c, a1d, rfl, f1a⟩ := openSteps (hval 1 29 v1 rfl rfl) h1
  clear hA0 hval0
  refine (framesOnce_walk W a0a f0a a1a a1b a1c a1d f1a).mono fun e W' ⟨he, bel⟩ => ?_
  subst he
  exact ⟨_, rfl, _, _, _, [], _, [], hW', trodAll_mk1 (shut_bool Try.underlying4 _), (trodAll_cons_mk (stays (by kernel_rfl) (of_decide_eq_true (by kernel_rfl)) h0 bel) (trodAll_cons_mk (stays (by kernel_rfl) (of_decide_eq_true (by kernel_rfl)) h1 bel) trodAll_mk0)), rfl, bel.frame _, fun h => by cases h⟩

theorem framesOnce_over : Rows.framesOnceRow.holds Try.pinned (OpenSpec.ofChange Rows.framesOnceSpec) :=
  OpenClaim.holds_of_wide 5 Try.f5 rfl rfl rfl rfl rfl rfl rfl ⟨rfl, rfl, rfl, rfl, rfl⟩ rfl rfl rfl rfl rfl (by kernel_rfl) Try.func5 (by kernel_rfl)
    (of_decide_eq_true (by kernel_rfl)) (by unfold Func.isWrapper; first | (rw [if_pos (by decide +kernel)]; kernel_rfl) | (rw [if_neg (by decide +kernel)]; exact ⟨rfl, rfl⟩))
    (fun os started H enc _ => framesOnce_lifted os started H enc)

theorem framesOnce_proved : Rows.FramesOnceSaid := framesOnce_over
#print axioms framesOnce_proved
end Go.Proofs.Ytkcmlmofcjdgoab
