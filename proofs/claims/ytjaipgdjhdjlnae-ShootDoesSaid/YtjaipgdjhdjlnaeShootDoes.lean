
/-
  ShootDoes is true for every argument: each Post, Waits, Ack and Over of package shoot is as the document says.
-/
import Derived.Test.YtjaipgdjhdjlnaeShKept
import Derived.Deep.RegionHeld3
import Derived.Deep.DeepCutAuto
import Derived.Deep.AppendLies
namespace Go.Proofs.Ytjaipgdjhdjlnae
open Go.ChangeShapes Go.WideShapes Go.ChangeAt Go.RowKit Go.Joins Go.Sort
set_option linter.unusedVariables false

set_option maxRecDepth 100000 in
set_option maxHeartbeats 40000000 in
theorem shootDoes_walk (w : World) (ad : Option Addr) (len cap : Nat) (q : Nat → Sst)
    (hq : ∀ j, j < len → (∃ b o, ad = some ⟨b, o, none⟩ ∧ b < w.heap.size ∧ SstAt w b (o + j * 6) (q j)) ∧ SstFits (q j)) :
    Calls Try.prog 5 #[.slice ad len cap] w fun e w' => e = .returned (.bool true) ∧ Below w.heap.size w w' := by
  have HQ : Hid _ := hq
  clear hq
  by_cases hl : 300 < len
  · have hl' : (300 : Int) < (len : Int) := by omega
    go_enter Try.func5, Try.ntmps5
    go_wp2_with fail
    refine (shootBegun_any _).mono ?_
    rintro e w1 ⟨rfl, hb1⟩
    go_wp2_with fail
    go_ret
    exact ⟨rfl, hb1⟩
  · have hl' : decide ((300 : Int) < (len : Int)) = false := by simp; omega
    go_enter Try.func5, Try.ntmps5
    go_wp2_with fail
    refine (shootBegun_any _).mono ?_
    rintro e w1 ⟨rfl, hb1⟩
    go_wp2_with fail
    refine (shNew_any _).mono ?_
    rintro e w2 ⟨b, rfl, h2, hb2, hn2⟩
    have k2 : Hid (Sho w (w2.alloc (.cells #[.int .i64 0, .int .i64 0, .int .i64 0, .int .i64 0] 39)) b w2.heap.size .zz (fun _ => false) .zz none 0 []) := by
      have hlb := h2.lb
      have hs := hb1.size
      have hs2 := hb2.size
      have hA := heap_alloc_new w2 (.cells #[.int .i64 0, .int .i64 0, .int .i64 0, .int .i64 0] 39)
      exact ⟨h2.grow (balloc (brefl _) _), ⟨cell_of_row _ _ 0 _ _ _ hA, cell_of_row _ _ 1 _ _ _ hA, cell_of_row _ _ 2 _ _ _ hA, cell_of_row _ _ 3 _ _ _ hA⟩, fun p => by unfold World.frozen?; simp only [hA]; simp, World.ownsRow_nil _ _ _ _, balloc (bthen hb1 hb2) _, by omega, by omega, by simp [Value.ownBlock], by omega, by simp [Value.ownBlock], by simp [Value.ownBlock]⟩
    clear h2 hb1 hb2 hn2
    generalize htb : w2.heap.size = tb at *
    go_wp2_with fail
    try simp only [htb]
    clear htb
    go_loopw [4, 6] (fun v i wr => ∃ k : Nat, k ≤ len ∧ i = .int .i64 k ∧ ∃ ad cap, ∃ l : List Nat, v = .slice ad l.length cap ∧ Hid (∃ m f t, Sho w wr b tb m f t ad cap l ∧ ShLk m f t l)) (fun _ i _ => len - (intOf i).toNat)
    case atStart => exact ⟨0, by omega, rfl, _, _, [], rfl, ⟨_, _, _, k2.out, List.nil_sublist _, fun k _ => by simp, fun h => absurd rfl h⟩⟩
    case round =>
      obtain ⟨k, hk, rfl, ad7, cap7, l, rfl, HR⟩ := hrel
      obtain ⟨m, f, t, HB0, HK0⟩ := HR.out
      clear HR k2
      have HB : Hid _ := HB0
      have HK : Hid _ := HK0
      clear HB0 HK0
      by_cases hlt : k < len
      · obtain ⟨⟨xb, xo, rfl, hxl, hx⟩, fk, fp⟩ := HQ.out k hlt
        have i0 : (0 : Int) ≤ (k : Int) := by omega
        have i1 : (k : Int) < (len : Int) := by omega
        generalize q k = x at *
        have hx' := hx.of (fun p => HB.out.bel.cell (p := ⟨xb, p, none⟩) hxl)
        obtain ⟨xa, kk, ⟨mp, ms, mf, mr⟩⟩ := x
        obtain ⟨y0, y1, y2, y3, y4, y5⟩ := hx'
        simp only at y0 y1 y2 y3 y4 y5 fk fp
        clear hx HQ
        have HX : Hid (Sho w (wr.alloc (.cells #[.int .i64 xa, .int .i64 kk, .int .i64 mp, .int .i64 ms, .int .i64 mf, .int .i64 mr] 83)) b tb m f t ad7 cap7 l) := HB.out.grow (balloc (brefl wr) _)
        have HC : Hid (SstAt (wr.alloc (.cells #[.int .i64 xa, .int .i64 kk, .int .i64 mp, .int .i64 ms, .int .i64 mf, .int .i64 mr] 83)) wr.heap.size 0 ⟨xa, kk, ⟨mp, ms, mf, mr⟩⟩) := by
          have hA := heap_alloc_new wr (.cells #[.int .i64 xa, .int .i64 kk, .int .i64 mp, .int .i64 ms, .int .i64 mf, .int .i64 mr] 83)
          exact ⟨cell_of_row _ _ 0 _ _ _ hA, cell_of_row _ _ 1 _ _ _ hA, cell_of_row _ _ 2 _ _ _ hA, cell_of_row _ _ 3 _ _ _ hA, cell_of_row _ _ 4 _ _ _ hA, cell_of_row _ _ 5 _ _ _ hA⟩
        have hXb : wr.heap.size ≠ b := fun e => by have := HB.out.sh.lb; omega
        have hXt : wr.heap.size ≠ tb := fun e => by have := HB.out.tlt; omega
        have hXr : Hid ((Value.slice ad7 l.length cap7).ownBlock ≠ some wr.heap.size) := fun e => by have := (HB.out.row.lt _ e).2; omega
        have hXw : Hid (w.heap.size ≤ wr.heap.size) := HB.out.bel.size
        go_upto_region 12 with fail
        go_cut [31] from 20 to 140 (fun s31 wc => s31 = .int .i64 xa ∧ wc = wr.alloc (.cells #[.int .i64 xa, .int .i64 kk, .int .i64 mp, .int .i64 ms, .int .i64 mf, .int .i64 mr] 83))
        case first =>
          go_wp2_with fail
          go_meet
          case rel => exact ⟨rfl, rfl⟩
        case rest =>
          obtain ⟨rfl, rfl⟩ := hcut
          generalize wr.alloc (.cells #[.int .i64 xa, .int .i64 kk, .int .i64 mp, .int .i64 ms, .int .i64 mf, .int .i64 mr] 83) = wx at *
          clear HB y0 y1 y2 y3 y4 y5
          generalize wr.heap.size = X at *
          rename_i hK1 K2 hK2
          refine hK2 _ _ ?_
          go_cut [4] from 20 to 140 (fun v wc => ∃ ad cap, ∃ l : List Nat, v = .slice ad l.length cap ∧ Hid (∃ m f t, Sho w wc b tb m f t ad cap l ∧ ShLk m f t l ∧ SstAt wc X 0 ⟨xa, kk, ⟨mp, ms, mf, mr⟩⟩))
          case first =>
            have hlen := HK.out.len
            obtain ⟨c0, c1, c2, c3, c4, c5⟩ := HC.out.cells
            simp only at c0 c1 c2 c3 c4 c5
            by_cases h0 : xa = 0
            · as_aux_lemma =>
              subst h0
              by_cases hok : l = [] ∧ 1 ≤ kk ∧ kk ≤ 4
              · obtain ⟨rfl, hk1, hk4⟩ := hok
                obtain ⟨n, rfl⟩ := Int.eq_ofNat_of_zero_le (by omega : 0 ≤ kk)
                obtain ⟨q0, hqi, hz0, hz1, hz2⟩ := info_parts infoIntS
                have HO := HK.out.over
                simp only [List.length_nil, beq_self_eq_true] at HO
                have HP := shPost_yes ⟨mp, ms, mf, mr⟩ n _ HX.out.sh HO (by omega) (by omega)
                simp only [Pg.Mp.val] at HP
                have hXl : X < wx.heap.size := World.block_lt_of_cell? _ _ c0
                have d1 : decide (1 ≤ (n : Int)) = true := by simp; omega
                have d4 : decide ((n : Int) ≤ 4) = true := by simp; omega
                simp only [List.length_nil] at *
                clear HO
                go_wp2_with fail
                refine HP.mono ?_
                rintro e w5 ⟨rfl, h5, hb5⟩
                have S5 : Hid _ := HX.out.step h5 hb5
                have C5 : Hid _ := HC.out.of (but_at hb5 hXl hXb)
                clear h5 hb5 HP c0 c1 c2 c3 c4 c5
                go_wp2_with fail
                go_loopw [4, 9] (fun v i wr' => ∃ j : Nat, j ≤ n ∧ i = .int .i64 j ∧ ∃ ad cap, ∃ l2 : List Nat, v = .slice ad l2.length cap ∧ Hid (∃ t', l2 = List.range j ∧ Sho w wr' b tb ⟨mp, ms, mf, mr⟩ (Pg.shPost n f) t' ad cap l2 ∧ SstAt wr' X 0 ⟨0, (n : Int), ⟨mp, ms, mf, mr⟩⟩ ∧ (j ≠ 0 → t' = ⟨mp, ms, mf, mr⟩) ∧ (Value.slice ad l2.length cap).ownBlock ≠ some X)) (fun _ i _ => n - (intOf i).toNat)
                case atStart => exact ⟨0, by omega, rfl, ad7, cap7, [], rfl, ⟨_, rfl, S5.out, C5.out, fun h => absurd rfl h, hXr.out⟩⟩
                case round =>
                  obtain ⟨j, hj, rfl, ad2, cap2, l2, rfl, HR⟩ := hrel
                  obtain ⟨t2, hl2, S2', C2', ht2, hX2'⟩ := HR.out
                  have HL2 : Hid _ := hl2
                  have S2 : Hid _ := S2'
                  have HT2 : Hid _ := ht2
                  have hX2 : Hid _ := hX2'
                  have HJ : Hid (l2.length = j) := by show _ = _; rw [hl2]; simp
                  have hl24 : l2.length ≤ 4 := by have := HJ.out; omega
                  obtain ⟨p0, p1, p2, p3, p4, p5⟩ := C2'.cells
                  have C2 : Hid (SstAt wr X 0 ⟨0, (n : Int), ⟨mp, ms, mf, mr⟩⟩) := C2'
                  simp only at p1 p2 p3 p4 p5
                  have hXl2 : X < wr.heap.size := World.block_lt_of_cell? _ _ p0
                  clear hl2 S2' C2' ht2 hX2' HR S5 C5 p0
                  have j0 : (0 : Int) ≤ (j : Int) := by omega
                  by_cases hjn : j < n
                  · have j1 : (j : Int) < (n : Int) := by omega
                    have hown := S2.out.row
                    go_wp2_with (first
                      | (at_builtin; refine wpList_append_lies _ rfl _ _ 60 rfl 0 3 q0 (.int .i64 0) 1 8 Try.underlying60 hqi hz0 hz1 hz2 rfl (by decide) _ _ _ rfl (hown.alloc _) ⟨wr.heap.size, 0, none⟩ 1 1 [.int .i64 (j : Int)] rfl rfl ?a1 ?a2 (by decide) ?a3 ?a4 (Nat.zero_le _) (wr.heap.size + 1) (by simp) ?_))
                    case a1 =>
                      intro j u hj
                      match j, hj with
                      | 0, hj => simp at hj; subst hj; exact sh_drewN _ 0 _ _
                    case a2 => intro u hu; simp at hu; subst hu; rfl
                    case a3 => unfold maxLen; omega
                    case a4 => omega
                    intro g cap3 w3 hown3 hgrow hat hlt3
                    have hb3 : But (fun j => (Value.slice ad2 l2.length cap2).ownBlock = some j) wr w3 := ((But.refl _ wr).alloc _).grown hgrow fun j hj => .inr hj
                    have S3 : Hid _ := S2.out.push (k := j) hown3 hgrow hat
                    have C3' := C2.out.of (but_at hb3 hXl2 hX2.out)
                    have hXg : Hid ((Value.slice (some ⟨g, 0, none⟩) (l2 ++ [j]).length cap3).ownBlock ≠ some X) := fun e => by
                      have e : g = X := by simpa [Value.ownBlock] using e
                      rcases hat with h' | h'
                      · exact hX2.out (e ▸ h')
                      · omega
                    have hl3 : X < w3.heap.size := Nat.lt_of_lt_of_le hXl2 hb3.size
                    obtain ⟨p0, p1, p2, p3, p4, p5⟩ := C3'.cells
                    have C3 : Hid (SstAt w3 X 0 ⟨0, (n : Int), ⟨mp, ms, mf, mr⟩⟩) := C3'
                    simp only at p0 p1 p2 p3 p4 p5
                    obtain ⟨v0, v1, v2, v3⟩ := S3.out.tl
                    simp only [Nat.zero_add] at v1 v2 v3
                    have vz := S3.out.tz
                    have vl := S3.out.tlt
                    have S4 : Hid _ := S3.out.tell ⟨mp, ms, mf, mr⟩
                    have C4 : Hid _ := C3.out.of (but_at (But.set4 (F := fun j => j = tb) (But.refl _ w3) tb (.inr rfl) (.int .i64 mp) (.int .i64 ms) (.int .i64 mf) (.int .i64 mr)) hl3 hXt)
                    have HL3 : Hid (l2 ++ [j] = List.range (j + 1)) := by show _ = _; rw [HL2.out, List.range_succ]
                    clear hown3 hgrow hat hlt3 hown hb3 C3' C2 S2 HL2 C3 S3
                    go_wp2_with fail
                    go_roundw
                    case rel => exact ⟨j + 1, by omega, by go_num, _, _, l2 ++ [j], by simp, ⟨_, HL3.out, S4.out, C4.out, fun _ => rfl, hXg.out⟩⟩
                    case measure => simp [intOf]; omega
                  · have j1 : ¬ (j : Int) < (n : Int) := by omega
                    have hjn' : j = n := by omega
                    have fin : Hid (∃ m f t, Sho w wr b tb m f t ad2 cap2 l2 ∧ ShLk m f t l2 ∧ SstAt wr X 0 ⟨0, (n : Int), ⟨mp, ms, mf, mr⟩⟩) := by
                      have e := HT2.out (by omega)
                      have hl := HL2.out
                      have s2 := S2.out
                      subst e
                      rw [hjn'] at hl
                      exact ⟨_, _, _, s2, hl ▸ HK.out.post (x := ⟨mp, ms, mf, mr⟩) (n := n) (by omega), C2.out⟩
                    clear HL2 S2 HT2 C2
                    go_wp2_with fail
                    go_meet
                    case rel => exact ⟨_, _, l2, rfl, fin.out⟩
              · have hno : Pg.shOver f = false ∨ kk < 1 ∨ 4 < kk := by
                  rw [HK.out.over]
                  by_cases hl0 : l = []
                  · right
                    by_cases h1 : kk < 1
                    · exact .inl h1
                    · refine .inr ?_
                      exact Int.not_le.1 fun h4 => hok ⟨hl0, by omega, h4⟩
                  · exact .inl (by simpa using hl0)
                have HP := shPost_no ⟨mp, ms, mf, mr⟩ kk _ HX.out.sh hno
                simp only [Pg.Mp.val] at HP
                have hokb : (((l.length : Int) == 0) && (decide (1 ≤ kk) && decide (kk ≤ 4))) = false := by
                  cases hb : (((l.length : Int) == 0) && (decide (1 ≤ kk) && decide (kk ≤ 4)))
                  · rfl
                  · simp at hb
                    exact absurd ⟨hb.1, hb.2.1, hb.2.2⟩ hok
                clear hok hno
                generalize hln : l.length = nl at *
                generalize hz : ((nl : Int) == 0) = z0 at *
                generalize hz1 : decide (1 ≤ kk) = z1 at *
                generalize hz4 : decide (kk ≤ 4) = z4 at *
                have hXl : X < wx.heap.size := World.block_lt_of_cell? _ _ c0
                have arms : (z0 = false) ∨ (z0 = true ∧ z1 = false) ∨ (z0 = true ∧ z1 = true ∧ z4 = false) := by
                  cases z0 <;> cases z1 <;> cases z4 <;> simp at hokb ⊢
                clear hokb
                rcases arms with rfl | ⟨rfl, rfl⟩ | ⟨rfl, rfl, rfl⟩
                case' inr.inl => (obtain rfl : nl = 0 := by simpa using hz)
                case' inr.inr => (obtain rfl : nl = 0 := by simpa using hz)
                all_goals
                  go_wp2_with fail
                  refine HP.mono ?_
                  rintro e w5 ⟨rfl, hb5⟩
                  have S5 : Hid _ := HX.out.grow hb5
                  have C5 : Hid _ := HC.out.of (fun p => hb5.cell (p := ⟨X, p, none⟩) hXl)
                  have p1 := cell_later hb5 c1
                  clear hb5 HP c0 c1 c2 c3 c4 c5
                  go_wp2_with fail
                  go_loopw [4, 9] (fun v i wr' => (v = .slice ad7 l.length cap7 ∧ i = .int .i64 0) ∧ wr' = w5) (fun _ _ _ => 0)
                  case atStart => exact ⟨⟨by rw [hln], rfl⟩, rfl⟩
                  case round =>
                    obtain ⟨⟨rfl, rfl⟩, rfl⟩ := hrel
                    by_cases hk0 : 0 < kk
                    · have d0 : decide (0 < kk) = true := by simpa using hk0
                      go_wp2_with fail
                      go_meet
                      case rel => exact ⟨_, _, l, (by first | rfl | rw [hln]), ⟨_, _, _, S5.out, HK.out, C5.out⟩⟩
                    · have d0 : decide (0 < kk) = false := by simpa using hk0
                      go_wp2_with fail
                      go_meet
                      case rel => exact ⟨_, _, l, (by first | rfl | rw [hln]), ⟨_, _, _, S5.out, HK.out, C5.out⟩⟩
            · have n0 : (xa == 0) = false := by simpa using h0
              clear h0
              by_cases h1 : xa = 1
              · as_aux_lemma =>
                subst h1
                clear n0 c0
                obtain ⟨q0, hqi, hz0, hz1, hz2⟩ := info_parts infoIntS
                have hXl : X < wx.heap.size := World.block_lt_of_cell? _ _ c1
                have cx1 : Hid _ := c1
                clear c1 c2 c3 c4 c5
                go_wp2_with fail
                go_loopw [10, 11] (fun v i wr' => ∃ c : Nat, c ≤ l.length ∧ i = .int .i64 c ∧ ∃ ad cap, ∃ l2 : List Nat, v = .slice ad l2.length cap ∧ Hid (l2 = shLft (l.take c) kk ∧ wr'.ownsRow wx.heap.size 3 1 (.slice ad l2.length cap) l2.length (nats l2) ∧ Below wx.heap.size wx wr')) (fun _ i _ => l.length - (intOf i).toNat)
                case atStart => exact ⟨0, by omega, rfl, none, 0, [], rfl, ⟨by simp [shLft], World.ownsRow_nil _ _ _ _, brefl _⟩⟩
                case round =>
                  obtain ⟨c, hc, rfl, ad2, cap2, l2, rfl, HR⟩ := hrel
                  have c9 := (HR.out.2.2.cell (p := ⟨X, 1, none⟩) hXl).trans cx1.out
                  have hl2 : l2.length ≤ 4 := by
                    have := shLft_len (l.take c) kk
                    rw [← HR.out.1] at this
                    have := List.length_take_le c l
                    omega
                  have j0 : (0 : Int) ≤ (c : Int) := by omega
                  by_cases hcl : c < l.length
                  · obtain ⟨g7, rfl, hcell⟩ := owns_shList HX.out.row c hcl
                    have c7 := (HR.out.2.2.cell (p := ⟨g7, c, none⟩) (World.block_lt_of_cell? _ _ hcell)).trans hcell
                    have j1 : (c : Int) < (l.length : Int) := by omega
                    clear hcell
                    by_cases he : ((l.getD c 0 : Nat) : Int) = kk
                    · rw [he] at c7
                      have fin : Hid (∀ nq, l2 = shLft (l.take (c + 1)) kk ∧ (wr.drewN nq).ownsRow wx.heap.size 3 1 (.slice ad2 l2.length cap2) l2.length (nats l2) ∧ Below wx.heap.size wx (wr.drewN nq)) := fun nq =>
                        ⟨by rw [shLft_eq hcl he]; exact HR.out.1, ownsMaps_below HR.out.2.1 (below_drewN (brefl _) nq), bthen HR.out.2.2 (below_drewN (brefl _) nq)⟩
                      clear he HX
                      go_wp2_with fail
                      go_quiet (fail)
                      go_wp2_with fail
                      go_roundw
                      case rel => exact ⟨c + 1, by omega, by go_num, ad2, cap2, l2, rfl, fin.out _⟩
                      case measure => simp [intOf]; omega
                    · have hne : (((l.getD c 0 : Nat) : Int) == kk) = false := by simpa using he
                      have hsucc : Hid _ := shLft_ne hcl he
                      have hown := fun nq => ownsMaps_below HR.out.2.1 (below_drewN (brefl wr) nq)
                      have hbd : Hid (∀ nq, Below wx.heap.size wx (wr.drewN nq)) := fun nq => bthen HR.out.2.2 (below_drewN (brefl _) nq)
                      have hsz : wx.heap.size ≤ wr.heap.size := HR.out.2.2.size
                      clear he HX
                      generalize l.getD c 0 = y at *
                      go_wp2_with fail
                      go_quiet (fail)
                      go_wp2_with (first
                        | (at_builtin; refine wpList_append_lies _ rfl _ _ 60 rfl wx.heap.size 3 q0 (.int .i64 0) 1 8 Try.underlying60 hqi hz0 hz1 hz2 rfl (by decide) _ _ _ rfl ((hown _).alloc _) ⟨wr.heap.size, 0, none⟩ 1 1 [.int .i64 (y : Int)] rfl rfl ?p1 ?p2 (by decide) ?p3 ?p4 ?p5 (wr.heap.size + 1) (by simp) ?_))
                      case p1 =>
                        intro j u hj
                        match j, hj with
                        | 0, hj => simp at hj; subst hj; exact sh_drewN _ _ _ _
                      case p2 => intro u hu; simp at hu; subst hu; rfl
                      case p3 => unfold maxLen; omega
                      case p4 => omega
                      case p5 => simp; omega
                      intro g cap3 w3 hown3 hgrow hat hlt3
                      have fin : Hid (l2 ++ [y] = shLft (l.take (c + 1)) kk ∧ w3.ownsRow wx.heap.size 3 1 (.slice (some ⟨g, 0, none⟩) (l2 ++ [y]).length cap3) (l2 ++ [y]).length (nats (l2 ++ [y])) ∧ Below wx.heap.size wx w3) :=
                        ⟨by rw [hsucc.out, ← HR.out.1], by simpa [nats] using hown3, pushedMaps (hbd.out _) (hown _) hgrow⟩
                      clear hown3 hgrow hat hlt3 hown
                      go_wp2_with fail
                      go_roundw
                      case rel => exact ⟨c + 1, by omega, by go_num, _, cap3, l2 ++ [y], by simp, fin.out⟩
                      case measure => simp [intOf]; omega
                  · have hce : c = l.length := by omega
                    have j1 : ¬ (c : Int) < (l.length : Int) := by omega
                    have hle : l2 = shLft l kk := by
                      have := HR.out.1
                      rw [hce, List.take_length] at this
                      exact this
                    have HX2 : Hid _ := HX.out.grow HR.out.2.2
                    have HC2 : Hid (SstAt wr X 0 ⟨1, kk, ⟨mp, ms, mf, mr⟩⟩) := HC.out.of (fun p => HR.out.2.2.cell (p := ⟨X, p, none⟩) hXl)
                    have HR2 : Hid _ := HR.out.2.1
                    have hsz : wx.heap.size ≤ wr.heap.size := HR.out.2.2.size
                    have hXl2 : X < wr.heap.size := by omega
                    have htl := HX2.out.tlt
                    clear hce HR
                    cases hw : Pg.shWaits f kk
                    · have HA := shAck_no kk _ HX2.out.sh hw
                      have e2 : l2 = l := hle.trans (HK.out.noack hw)
                      have j3 : ¬ (l2.length : Int) < (l.length : Int) := by rw [e2]; omega
                      simp only [Pg.Mp.val, Pg.Mp.zz] at HA
                      have HK2 : Hid (ShLk m f t l2) := by rw [e2]; exact HK.out
                      clear hw hle e2 HK
                      go_wp2_with fail
                      refine HA.mono ?_
                      rintro e w6 ⟨rfl, hb6⟩
                      have S6 : Hid (∀ o, Sho w (w6.alloc o) b tb m f t ad2 cap2 l2) := fun o => (Sho.other HX.out HX2.out HR2.out |>.grow hb6).grow (balloc (brefl _) o)
                      have C6 : Hid (∀ o, SstAt (w6.alloc o) X 0 ⟨1, kk, ⟨mp, ms, mf, mr⟩⟩) := fun o => HC2.out.of (fun p => (bthen hb6 (balloc (brefl w6) o)).cell (p := ⟨X, p, none⟩) hXl2)
                      clear hb6 HA HX HX2 HR2 HC HC2
                      go_wp2_with fail
                      go_meet
                      case rel => exact ⟨ad2, cap2, l2, rfl, ⟨_, _, _, S6.out _, HK2.out, C6.out _⟩⟩
                    · have hkk : 0 ≤ kk ∧ kk < 4 ∧ f kk.toNat = true := by simpa [Pg.shWaits, and_assoc] using hw
                      obtain ⟨n, rfl⟩ := Int.eq_ofNat_of_zero_le hkk.1
                      have hn4 : n < 4 := by omega
                      have hfn : f n = true := by simpa using hkk.2.2
                      have hmem : n ∈ l := by simpa [HK.out.at' n hn4] using hfn
                      obtain ⟨a1, a2, a3⟩ := HK.out.ack hmem
                      have HA := shAck_yes n _ HX2.out.sh hn4 hfn
                      subst a3
                      rw [← hle] at a1 a2
                      have HK2 : Hid _ := a1
                      have j3 : (l2.length : Int) < (l.length : Int) := by omega
                      obtain ⟨tp, ts, tf, tr⟩ := m
                      simp only [Pg.Mp.val] at HA
                      clear hw hle a1 a2 HK hmem hkk
                      go_wp2_with fail
                      refine HA.mono ?_
                      rintro e w6 ⟨rfl, h6, hb6⟩
                      have s6 := HX2.out.step h6 hb6
                      have r6 := ownsMaps_but HR2.out hb6 (fun k hk e => by have := (World.ownsRow.lt HR2.out k hk).1; have := HX.out.sh.lb; omega)
                      have S6 : Hid (∀ o, Sho w (w6.alloc o) b tb ⟨tp, ts, tf, tr⟩ (Pg.shAck n f) ⟨tp, ts, tf, tr⟩ ad2 cap2 l2) := fun o => (Sho.other HX.out s6 r6).grow (balloc (brefl _) o)
                      have C6 : Hid (∀ o, SstAt (w6.alloc o) X 0 ⟨1, (n : Int), ⟨mp, ms, mf, mr⟩⟩) := fun o => (HC2.out.of (but_at hb6 hXl2 hXb)).of (fun p => (balloc (brefl w6) o).cell (p := ⟨X, p, none⟩) (Nat.lt_of_lt_of_le hXl2 hb6.size))
                      obtain ⟨v0, v1, v2, v3⟩ := s6.tl
                      simp only [Nat.zero_add] at v0 v1 v2 v3
                      have vl := s6.tlt
                      clear hb6 h6 HA HX HX2 HR2 HC HC2 s6 r6
                      go_wp2_with fail
                      go_meet
                      case rel => exact ⟨ad2, cap2, l2, rfl, ⟨_, _, _, S6.out _, HK2.out, C6.out _⟩⟩
              · as_aux_lemma =>
                have n1 : (xa == 1) = false := by simpa using h1
                clear h1
                go_wp2_with fail
                go_meet
                case rel => exact ⟨_, _, l, rfl, ⟨_, _, _, HX.out, HK.out, HC.out⟩⟩
          case rest =>
            obtain ⟨ad9, cap9, l9, rfl, HR9⟩ := hcut
            obtain ⟨m9, f9, t9, HB9, HK9, HC9⟩ := HR9.out
            clear HR9 HX HK HC
            have HB9 : Hid _ := HB9
            have hlen := HK9.len
            obtain ⟨c0, c1, c2, c3, c4, c5⟩ := HC9.cells
            simp only at c1
            clear c0 c2 c3 c4 c5
            have HG : Hid (∀ d os, Sho w (grow (redrawn wc d) os) b tb m9 f9 t9 ad9 cap9 l9) := fun d os => HB9.out.grow (below_regrown wc d os)
            have HWt : ∀ d os, Calls Try.prog 31 #[.pointer (some ⟨b, 0, none⟩), .int .i64 kk] (grow (redrawn wc d) os) fun e w' => e = .returned (.bool (l9.any fun j => (j : Int) == kk)) ∧ Below (grow (redrawn wc d) os).heap.size (grow (redrawn wc d) os) w' := fun d os => HK9.waits kk ▸ below_of_same (shWaits_any kk _ (HG.out d os).sh)
            have HOv : ∀ d os, Calls Try.prog 33 #[.pointer (some ⟨b, 0, none⟩)] (grow (redrawn wc d) os) fun e w' => e = .returned (.bool (l9.length == 0)) ∧ Below (grow (redrawn wc d) os).heap.size (grow (redrawn wc d) os) w' := fun d os => HK9.over ▸ below_of_same (shOver_any _ (HG.out d os).sh)
            have HIn : ∀ d os, Calls Try.prog 32 #[.slice ad9 l9.length cap9, .int .i64 kk] (grow (redrawn wc d) os) fun e w' => e = .returned (.bool (l9.any fun j => (j : Int) == kk)) ∧ Below (grow (redrawn wc d) os).heap.size (grow (redrawn wc d) os) w' := fun d os => below_of_same (shIn_any ad9 cap9 l9 kk _ (owns_shList (HG.out d os).row) (by omega))
            have HK9 : Hid _ := HK9
            generalize hav : (l9.any fun j => (j : Int) == kk) = av at *
            have hz : ((l9.length : Int) == 0) = (l9.length == 0) := by
              rw [Bool.eq_iff_iff, beq_iff_eq, beq_iff_eq]
              omega
            have hs1 : (av != av) = false := by simp
            generalize hln : l9.length = n9 at *
            generalize hzz : (n9 == 0) = zz at *
            have hs2 : (zz != zz) = false := by simp
            have q1 := cell_regrown c1
            clear c1 HC9
            refine hK1 _ _ ?_
            go_wp2_with fail
            refine wp_region_quiet_below (by kernel_rfl) (by kernel_rfl) ?_
            repeat (first
              | go_big_quiet_step ((first
                | (go_at_call 31; exact Calls.regrown_of (HWt _ _))
                | (go_at_call 33; exact Calls.regrown_of (HOv _ _))
                | (go_at_call 32; exact Calls.regrown_of (HIn _ _)))))
            refine wpQuiet_nil ?_
            intro _ hw'
            obtain ⟨⟨dq, osq⟩, rfl⟩ := hw'
            have HY : Hid _ := HG.out dq osq
            generalize grow (redrawn wc dq) osq = w7 at *
            clear q1 HWt HOv HIn HG
            go_wp2_with fail
            go_roundw
            case rel => exact ⟨k + 1, by omega, by go_num, _, _, l9, by rw [hln], ⟨_, _, _, HY.out, HK9.out⟩⟩
            case measure => simp [intOf]; omega
      · have i1 : ¬ (k : Int) < (len : Int) := by omega
        have HF : Hid _ := HB.out.bel
        clear HQ
        go_wp2_with fail
        go_ret
        exact ⟨rfl, HF.out⟩

set_option maxRecDepth 100000 in
theorem shootDoes_lifted (os : Os) (started : os.Started) (H : Type) (enc : TypeId × Value → H) :
    ReturnsInHanded {} Try.checked os 5 .any (Rows.shootDoesSpec.pre6 enc Try.prog Try.f5 Rows.shootDoesRow.domain false) (Rows.shootDoesSpec.post enc Try.prog Try.f5 false true false false) := by
  refine returnsInHanded_of_change (C := Try.checked) own started (by kernel_rfl) Try.func5
    (ChangeSpec.witness6 (enc := enc) (C := Try.checked) false ⟨#[], #[.slice none 0 0], []⟩ 8 (by kernel_rfl) (by kernel_rfl) (by kernel_rfl) (by kernel_rfl)) ?_
  intro W base args ds gs before hval0 hW hcnd _
  have hval : ∀ (j : Nat) t v, Try.f5.params[j]? = some t → args[j]? = some v → Value.okWide Try.prog W .any base t v := hval0
  have hW' := hW
  obtain ⟨p, q, hA0, hV, rfl, hfz, hnd⟩ := hW
  have hA : DataW.TrodAll enc Try.prog W 0 (fun _ => true) true Try.f5.params.toList args.toList ds p := hA0
  rw [Try.params5] at hA hval
  obtain ⟨v0, vs0, d0, ds0, p0, q0, hargs, rfl, rfl, h0, r0⟩ := trodAll_cons hA
  obtain ⟨rfl, rfl, rfl⟩ := trodAll_nil r0
  obtain rfl : args = #[v0] := by cases args; simp_all
  obtain ⟨rfl, rfl⟩ := trodVars_none hV
  obtain ⟨a0a, a0b, a0c, a0d, rfl, f0a⟩ := openSsts (hval 0 79 v0 rfl rfl) h0
  clear hA0 hval0
  refine (shootDoes_walk W a0a a0b a0c a0d f0a).mono fun e W' ⟨he, bel⟩ => ?_
  subst he
  exact ⟨_, rfl, _, _, _, [], _, [], hW', trodAll_mk1 (shut_bool Try.underlying4 _), (trodAll_cons_mk (stays (by kernel_rfl) (of_decide_eq_true (by kernel_rfl)) h0 bel) trodAll_mk0), rfl, bel.frame _, fun h => by cases h⟩

theorem shootDoes_over : Rows.shootDoesRow.holds Try.pinned (OpenSpec.ofChange Rows.shootDoesSpec) :=
  OpenClaim.holds_of_wide 5 Try.f5 rfl rfl rfl rfl rfl rfl rfl ⟨rfl, rfl, rfl, rfl, rfl⟩ rfl rfl rfl rfl rfl (by kernel_rfl) Try.func5 (by kernel_rfl)
    (of_decide_eq_true (by kernel_rfl)) (by unfold Func.isWrapper; first | (rw [if_pos (by decide +kernel)]; kernel_rfl) | (rw [if_neg (by decide +kernel)]; exact ⟨rfl, rfl⟩))
    (fun os started H enc _ => shootDoes_lifted os started H enc)

theorem shootDoes_proved : Rows.ShootDoesSaid := shootDoes_over
#print axioms shootDoes_proved
end Go.Proofs.Ytjaipgdjhdjlnae
