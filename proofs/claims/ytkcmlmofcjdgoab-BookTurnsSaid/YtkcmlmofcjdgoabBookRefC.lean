
/-
  The document's own book: Add.
-/
import Derived.Test.YtkcmlmofcjdgoabBookRefB
namespace Go.Proofs.Ytkcmlmofcjdgoab
open Go.RowKit Go.Sort
set_option maxRecDepth 100000
set_option linter.unusedVariables false

/-- What Add's loop has laid lies in a row of its own, behind all that was there. -/
structure Laid (w1 wr : World) (ad : Option Addr) (cap : Nat) (M : List Pg.Mp) : Prop where
  row : wr.ownsRow w1.heap.size 62 4 (.slice ad M.length cap) M.length (mpCells M)
  bel : Below w1.heap.size w1 wr
  nil : M = [] → Value.slice ad M.length cap = .slice none 0 0
theorem Laid.push {w1 wr w3 : World} {ad : Option Addr} {cap g3 cap3 : Nat} {M : List Pg.Mp} {m : Pg.Mp} {o : Obj} (h : Laid w1 wr ad cap M)
    (h3 : w3.ownsRow w1.heap.size 62 4 (.slice (some ⟨g3, 0, none⟩) (M.length + 1) cap3) (M.length + 1) (mpCells M ++ [.int .i64 m.p, .int .i64 m.s, .int .i64 m.f, .int .i64 m.r]))
    (hg : (wr.alloc o).grownBy w3 (Value.slice ad M.length cap).ownBlock) : Laid w1 w3 (some ⟨g3, 0, none⟩) cap3 (M ++ [m]) :=
  ⟨by rw [mpCells_push]; simpa using h3, pushedMaps h.bel h.row hg, fun e => by simp at e⟩
theorem Laid.grow {w1 wr w' : World} {ad : Option Addr} {cap : Nat} {M : List Pg.Mp} (h : Laid w1 wr ad cap M) (hb : Below wr.heap.size wr w') : Laid w1 w' ad cap M :=
  ⟨ownsMaps_below h.row hb, bthen h.bel hb, h.nil⟩

theorem cells_drewN (w : World) (n : Nat) (cs : Array Value) (t : TypeId) (i : Nat) : ((w.drewN n).alloc (.cells cs t)).cell? ⟨w.heap.size, i, none⟩ = cs[i]? := by
  have h := heap_alloc_new (w.drewN n) (.cells cs t)
  have e : (w.drewN n).heap.size = w.heap.size := by simp
  rw [e] at h
  exact cell_of_row _ _ i _ _ _ h
theorem cells_new (w : World) (cs : Array Value) (t : TypeId) (i : Nat) : (w.alloc (.cells cs t)).cell? ⟨w.heap.size, i, none⟩ = cs[i]? := cells_drewN w 0 cs t i

set_option maxHeartbeats 4000000 in
theorem refAdd_any {b : Nat} {vb : Value} {L : List Pg.Mp} (m : Pg.Mp) (hm : Pg.fits m.p) (w : World) (h : BkAt w b vb L) :
    Calls Try.prog 31 #[.pointer (some ⟨b, 0, none⟩), m.val] w fun e w' => e = .returned (.int .i64 (Pg.addC L m)) ∧ ∃ vb', BkAt w' b vb' (Pg.addL L m) ∧ But (bkF b vb) w w' ∧ ∀ k, bkF b vb' k → bkF b vb k ∨ w.heap.size ≤ k := by
  have hlen := h.good.len
  have HX : Hid _ := h
  have HM := mapFault_any m.p m.s m.f m.r
  have stay : Hid (∀ w', Below w.heap.size w w' → ∃ vb', BkAt w' b vb' L ∧ But (bkF b vb) w w' ∧ ∀ k, bkF b vb' k → bkF b vb k ∨ w.heap.size ≤ k) := fun w' hb => ⟨vb, h.grow hb, But.of_below hb, fun k hk => .inl hk⟩
  by_cases hc : m.code = 0
  · rw [show Pg.check m.p m.s m.f m.r = 0 from hc] at HM
    obtain ⟨q0, hqi, hz0, hz1, hz2⟩ := info_parts infoMap
    obtain ⟨ad, cap, rfl⟩ := ownsMaps_form HX.out.row
    have hgood : Hid (∀ hn : (∀ x, x ∈ L → x.meets m = false), Pg.addC L m = 0 ∧ Pg.addL L m = Pg.ins m L) := by
      intro hn
      have e : Pg.addC L m = 0 := by
        have : (L.any fun x => x.meets m) = false := by
          rw [List.any_eq_false]
          intro x hx
          simp [hn x hx]
        simp [Pg.addC, hc, this]
      exact ⟨e, by simp [Pg.addL, e]⟩
    have hbad : Hid (∀ j, j < L.length → (L.getD j .zz).meets m = true → Pg.addC L m = 4 ∧ Pg.addL L m = L) := by
      intro j hj hx
      have : (L.any fun x => x.meets m) = true := List.any_eq_true.2 ⟨L.getD j .zz, by rw [Pg.mp_at hj]; exact List.getElem_mem _, hx⟩
      have e : Pg.addC L m = 4 := by simp [Pg.addC, hc, this]
      exact ⟨e, by simp [Pg.addL, e]⟩
    have hc : Hid _ := hc
    clear h
    obtain ⟨mp, ms, mf, mr⟩ := m
    simp only at HM hm
    unfold Pg.Mp.val
    simp only
    go_enter Try.func31, Try.ntmps31
    go_wp2_with fail
    refine (HM _).mono ?_
    rintro e w1 ⟨rfl, hb1⟩
    have hr : Hid (∀ o, w1.cell? ⟨w.heap.size, o, none⟩ = _) := fun o => hb1.cell (p := ⟨w.heap.size, o, none⟩) (by simp)
    have hB : Hid (Below w.heap.size w w1) := bthen (balloc (brefl _) _) hb1
    have hsz : w.heap.size < w1.heap.size := by have := hb1.size; simp at this; omega
    clear hb1 HM
    go_wp2_with fail
    go_loopw [6, 7, 8] (fun v t i wr => ∃ j : Nat, j ≤ L.length ∧ i = .int .i64 j ∧ ∃ ad cap, ∃ M : List Pg.Mp, ∃ pt : Bool, v = .slice ad M.length cap ∧ t = .bool pt ∧ Hid ((∀ t, t < j → (L.getD t .zz).meets ⟨mp, ms, mf, mr⟩ = false) ∧ pt = ((L.take j).any fun y => decide (mp < y.p)) ∧ M = Pg.hlf L ⟨mp, ms, mf, mr⟩ j ∧ Laid w1 wr ad cap M)) (fun _ _ i _ => L.length - (intOf i).toNat)
    case atStart => exact ⟨0, by omega, rfl, none, 0, [], false, rfl, rfl, ⟨fun t ht => by omega, by simp, by simp [Pg.hlf], World.ownsRow_nil _ _ _ _, brefl _, fun _ => rfl⟩⟩
    case round =>
      obtain ⟨j, hj, rfl, ad2, cap2, M, pt, rfl, rfl, HR⟩ := hrel
      have HW : Hid _ := (HX.out.grow hB.out).grow HR.out.2.2.2.bel
      have hc0 := HW.out.c0
      have i0 : (0 : Int) ≤ (j : Int) := by omega
      have hM : M.length ≤ 4097 := by
        have h1 := HR.out.2.2.1
        have h2 := Pg.hlf_len (L := L) (m := ⟨mp, ms, mf, mr⟩) (j := j)
        rw [← h1] at h2
        omega
      have hr' := fun o => (HR.out.2.2.2.bel.cell (p := ⟨w.heap.size, o, none⟩) hsz).trans (hr.out o)
      by_cases hlt : j < L.length
      · obtain ⟨g, rfl, hg, hmm⟩ := owns_mapsAt HW.out.row j hlt
        obtain ⟨k0, k1, k2, k3⟩ := hmm
        have i1 : (j : Int) < (L.length : Int) := by omega
        have hok := HX.out.good.ok (L.getD j .zz) (by rw [Pg.mp_at hlt]; exact List.getElem_mem _)
        have HC := both_any (L.getD j .zz).p (L.getD j .zz).s (L.getD j .zz).f (L.getD j .zz).r mp ms mf mr (Pg.ok_fits hok).2.2.1 hm
        have m0 : wr.cell? ⟨w.heap.size, 0, none⟩ = some (.int .i64 mp) := (hr' 0).trans (cells_new _ _ _ _)
        have m1 : wr.cell? ⟨w.heap.size, 1, none⟩ = some (.int .i64 ms) := (hr' 1).trans (cells_new _ _ _ _)
        have m2 : wr.cell? ⟨w.heap.size, 2, none⟩ = some (.int .i64 mf) := (hr' 2).trans (cells_new _ _ _ _)
        have m3 : wr.cell? ⟨w.heap.size, 3, none⟩ = some (.int .i64 mr) := (hr' 3).trans (cells_new _ _ _ _)
        have hwr : w.heap.size < wr.heap.size := by have := HR.out.2.2.2.bel.size; omega
        have hbr : b < wr.heap.size := HW.out.lb
        have hws : w1.heap.size ≤ wr.heap.size := HR.out.2.2.2.bel.size
        have hany : Hid _ := Pg.any_take_succ hlt fun y => decide (mp < y.p)
        have HP : Hid (((L.take j).any fun y => decide (mp < y.p)) = true → Pg.hlf L ⟨mp, ms, mf, mr⟩ (j + 1) = Pg.hlf L ⟨mp, ms, mf, mr⟩ j ++ [L.getD j .zz]) := fun h => Pg.hlf_put (m := ⟨mp, ms, mf, mr⟩) hlt h
        have HN : Hid (((L.take j).any fun y => decide (mp < y.p)) = false → mp < (L.getD j .zz).p → Pg.hlf L ⟨mp, ms, mf, mr⟩ (j + 1) = Pg.hlf L ⟨mp, ms, mf, mr⟩ j ++ [⟨mp, ms, mf, mr⟩] ++ [L.getD j .zz]) := fun h h' => Pg.hlf_now (m := ⟨mp, ms, mf, mr⟩) hlt h h'
        have HO : Hid (((L.take j).any fun y => decide (mp < y.p)) = false → ¬ mp < (L.getD j .zz).p → Pg.hlf L ⟨mp, ms, mf, mr⟩ (j + 1) = Pg.hlf L ⟨mp, ms, mf, mr⟩ j ++ [L.getD j .zz]) := fun h h' => Pg.hlf_not (m := ⟨mp, ms, mf, mr⟩) hlt h h'
        have HBd : Hid ((L.getD j .zz).meets ⟨mp, ms, mf, mr⟩ = true → Pg.addC L ⟨mp, ms, mf, mr⟩ = 4 ∧ Pg.addL L ⟨mp, ms, mf, mr⟩ = L) := fun h => hbad.out j hlt h
        have HNx : Hid ((L.getD j .zz).meets ⟨mp, ms, mf, mr⟩ = false → ∀ t, t < j + 1 → (L.getD t .zz).meets ⟨mp, ms, mf, mr⟩ = false) := fun h t ht => by
          by_cases e : t = j
          · rw [e]; exact h
          · exact HR.out.1 t (by omega)
        have HCM : Hid (Pg.meet (L.getD j .zz).p (L.getD j .zz).s mp ms = (L.getD j .zz).meets ⟨mp, ms, mf, mr⟩) := rfl
        clear hok hr'
        generalize hxe : L.getD j .zz = x at *
        have hxe' : Hid _ := hxe
        clear hxe
        obtain ⟨p, s, f, r⟩ := x
        simp only at k0 k1 k2 k3
        have r0 := cell_regrown k0
        have r1 := cell_regrown k1
        have r2 := cell_regrown k2
        have r3 := cell_regrown k3
        have r4 := cell_regrown hc0
        have r5 := cell_regrown m0
        have r6 := cell_regrown m1
        have r7 := cell_regrown m2
        have r8 := cell_regrown m3
        cases hx : (Pg.Mp.mk p s f r).meets ⟨mp, ms, mf, mr⟩
        · rw [HCM.out, hx] at HC
          have HNx : Hid _ := HNx.out hx
          clear HBd hx HCM
          go_wp2_with fail
          refine wp_region_quiet_below (by kernel_rfl) (by kernel_rfl) ?_
          repeat (first
            | go_big_quiet_step ((go_at_call 43; exact Calls.regrown_of (HC _))))
          refine wpQuiet_nil ?_
          intro _ hw'
          obtain ⟨⟨dq, osq⟩, rfl⟩ := hw'
          have hb2 := below_regrown wr dq osq
          have s0 := r0 dq osq
          have s1 := r1 dq osq
          have s2 := r2 dq osq
          have s3 := r3 dq osq
          have s4 := r4 dq osq
          have s5 := r5 dq osq
          have s6 := r6 dq osq
          have s7 := r7 dq osq
          have s8 := r8 dq osq
          have HL2 : Hid _ := HR.out.2.2.2.grow hb2
          have hz2w := hb2.size
          generalize grow (redrawn wr dq) osq = w2 at *
          clear r0 r1 r2 r3 r4 r5 r6 r7 r8 k0 k1 k2 k3 m0 m1 m2 m3 hc0 HC hb2
          have hown := fun nq => ownsMaps_below HL2.out.row (below_drewN (brefl w2) nq)
          have HLq : Hid (∀ nq, Laid w1 (w2.drewN nq) ad2 cap2 M) := fun nq => HL2.out.grow (below_drewN (brefl w2) nq)
          cases hpt : pt
          · have hp0 : ((L.take j).any fun y => decide (mp < y.p)) = false := by rw [← HR.out.2.1]; exact hpt
            by_cases hxp : mp < p
            · have hM' : Hid (Pg.hlf L ⟨mp, ms, mf, mr⟩ (j + 1) = M ++ [⟨mp, ms, mf, mr⟩] ++ [Pg.Mp.mk p s f r]) := by
                show Pg.hlf L ⟨mp, ms, mf, mr⟩ (j + 1) = M ++ [⟨mp, ms, mf, mr⟩] ++ [Pg.Mp.mk p s f r]
                rw [HN.out hp0 hxp, ← HR.out.2.2.1]
              have ha' : Hid (true = ((L.take (j + 1)).any fun y => decide (mp < y.p))) := by
                show true = _
                rw [hany.out, hp0]
                simp [hxp]
              clear hp0
              subst hpt
              go_wp2_with fail
              go_quiet (fail)
              go_wp2_with (first
                | (at_builtin; refine wpList_append_lies _ rfl _ _ 58 rfl w1.heap.size 62 q0 _ 4 32 Try.underlying58 hqi hz0 hz1 hz2 rfl (by decide) _ _ _ rfl ((hown _).alloc _) ⟨w2.heap.size, 0, none⟩ 1 1 [.int .i64 mp, .int .i64 ms, .int .i64 mf, .int .i64 mr] rfl rfl ?c1 ?c2 (by decide) ?c3 ?c4 ?c5 (w2.heap.size + 1) (by simp) ?_))
              case c1 =>
                intro j u hj
                match j, hj with
                | 0, hj => simp at hj; subst hj; exact cells_drewN w2 _ _ _ 0
                | 1, hj => simp at hj; subst hj; exact cells_drewN w2 _ _ _ 1
                | 2, hj => simp at hj; subst hj; exact cells_drewN w2 _ _ _ 2
                | 3, hj => simp at hj; subst hj; exact cells_drewN w2 _ _ _ 3
              case c2 => intro u hu; simp at hu; rcases hu with rfl | rfl | rfl | rfl <;> rfl
              case c3 => unfold maxLen; first | omega | (simp; omega)
              case c4 => first | omega | (simp; omega)
              case c5 => first | omega | (simp; omega)
              intro g3 cap3 w3 hown3 hgrow hat hlt3
              have HL3 : Hid (Laid w1 w3 (some ⟨g3, 0, none⟩) cap3 (M ++ [Pg.Mp.mk mp ms mf mr])) := (HLq.out _).push (m := Pg.Mp.mk mp ms mf mr) hown3 hgrow
              have HW3 : Hid _ := (HX.out.grow hB.out).grow HL3.out.bel
              have t0 := HW3.out.c0
              obtain ⟨g', e', _, tt⟩ := owns_mapsAt HW3.out.row j hlt
              cases e'
              rw [hxe'.out] at tt
              obtain ⟨t1, t2, t3, t4⟩ := tt
              simp only at t1 t2 t3 t4
              have hown4 : w3.ownsRow w1.heap.size 62 4 (.slice (some ⟨g3, 0, none⟩) (M.length + 1) cap3) (M.length + 1) (mpCells (M ++ [Pg.Mp.mk mp ms mf mr])) := by simpa using HL3.out.row
              have hws3 : w1.heap.size ≤ w3.heap.size := HL3.out.bel.size
              clear hown3 hgrow hat hlt3 hown
              go_wp2_with (first
                | (at_builtin; refine wpList_append_lies _ rfl _ _ 58 rfl w1.heap.size 62 q0 _ 4 32 Try.underlying58 hqi hz0 hz1 hz2 rfl (by decide) _ _ _ rfl ((hown4).alloc _) ⟨w3.heap.size, 0, none⟩ 1 1 [.int .i64 p, .int .i64 s, .int .i64 f, .int .i64 r] rfl rfl ?d1 ?d2 (by decide) ?d3 ?d4 ?d5 (w3.heap.size + 1) (by simp) ?_))
              case d1 =>
                intro j u hj
                match j, hj with
                | 0, hj => simp at hj; subst hj; exact cells_new w3 _ _ 0
                | 1, hj => simp at hj; subst hj; exact cells_new w3 _ _ 1
                | 2, hj => simp at hj; subst hj; exact cells_new w3 _ _ 2
                | 3, hj => simp at hj; subst hj; exact cells_new w3 _ _ 3
              case d2 => intro u hu; simp at hu; rcases hu with rfl | rfl | rfl | rfl <;> rfl
              case d3 => unfold maxLen; first | omega | (simp; omega)
              case d4 => first | omega | (simp; omega)
              case d5 => first | omega | (simp; omega)
              intro g4 cap4 w4 hown5 hgrow5 hat5 hlt5
              have fin : Hid (Laid w1 w4 (some ⟨g4, 0, none⟩) cap4 (M ++ [Pg.Mp.mk mp ms mf mr] ++ [Pg.Mp.mk p s f r])) := HL3.out.push (m := Pg.Mp.mk p s f r) (by simpa using hown5) hgrow5
              have hM' : Hid (M ++ [Pg.Mp.mk mp ms mf mr] ++ [Pg.Mp.mk p s f r] = Pg.hlf L ⟨mp, ms, mf, mr⟩ (j + 1)) := hM'.out.symm
              clear hown5 hgrow5 hat5 hlt5 hown4
              go_wp2_with fail
              go_roundw
              case rel => exact ⟨j + 1, by omega, by go_num, _, cap4, M ++ [Pg.Mp.mk mp ms mf mr] ++ [Pg.Mp.mk p s f r], true, by simp, rfl, ⟨HNx.out, ha'.out, hM'.out, fin.out⟩⟩
              case measure => simp [intOf]; omega
            · have hM' : Hid (M ++ [Pg.Mp.mk p s f r] = Pg.hlf L ⟨mp, ms, mf, mr⟩ (j + 1)) := by
                show M ++ [Pg.Mp.mk p s f r] = Pg.hlf L ⟨mp, ms, mf, mr⟩ (j + 1)
                rw [HO.out hp0 (by omega), ← HR.out.2.2.1]
              have ha' : Hid (false = ((L.take (j + 1)).any fun y => decide (mp < y.p))) := by
                show false = _
                rw [hany.out, hp0]
                simp [hxp]
              have hxd : decide (mp < p) = false := by simpa using hxp
              clear hp0
              subst hpt
              go_wp2_with fail
              go_quiet (fail)
              go_wp2_with (first
                | (at_builtin; refine wpList_append_lies _ rfl _ _ 58 rfl w1.heap.size 62 q0 _ 4 32 Try.underlying58 hqi hz0 hz1 hz2 rfl (by decide) _ _ _ rfl ((hown _).alloc _) ⟨w2.heap.size, 0, none⟩ 1 1 [.int .i64 p, .int .i64 s, .int .i64 f, .int .i64 r] rfl rfl ?c1 ?c2 (by decide) ?c3 ?c4 ?c5 (w2.heap.size + 1) (by simp) ?_))
              case c1 =>
                intro j u hj
                match j, hj with
                | 0, hj => simp at hj; subst hj; exact cells_drewN w2 _ _ _ 0
                | 1, hj => simp at hj; subst hj; exact cells_drewN w2 _ _ _ 1
                | 2, hj => simp at hj; subst hj; exact cells_drewN w2 _ _ _ 2
                | 3, hj => simp at hj; subst hj; exact cells_drewN w2 _ _ _ 3
              case c2 => intro u hu; simp at hu; rcases hu with rfl | rfl | rfl | rfl <;> rfl
              case c3 => unfold maxLen; first | omega | (simp; omega)
              case c4 => first | omega | (simp; omega)
              case c5 => first | omega | (simp; omega)
              intro g3 cap3 w3 hown3 hgrow hat hlt3
              have fin : Hid (Laid w1 w3 (some ⟨g3, 0, none⟩) cap3 (M ++ [Pg.Mp.mk p s f r])) := (HLq.out _).push (m := Pg.Mp.mk p s f r) hown3 hgrow
              clear hown3 hgrow hat hlt3 hown
              go_wp2_with fail
              go_roundw
              case rel => exact ⟨j + 1, by omega, by go_num, _, cap3, M ++ [Pg.Mp.mk p s f r], false, by simp, rfl, ⟨HNx.out, ha'.out, hM'.out, fin.out⟩⟩
              case measure => simp [intOf]; omega
          · have hp1 : ((L.take j).any fun y => decide (mp < y.p)) = true := by rw [← HR.out.2.1]; exact hpt
            have hM' : Hid (M ++ [Pg.Mp.mk p s f r] = Pg.hlf L ⟨mp, ms, mf, mr⟩ (j + 1)) := by
              show M ++ [Pg.Mp.mk p s f r] = Pg.hlf L ⟨mp, ms, mf, mr⟩ (j + 1)
              rw [HP.out hp1, ← HR.out.2.2.1]
            have ha' : Hid (true = ((L.take (j + 1)).any fun y => decide (mp < y.p))) := by
              show true = _
              rw [hany.out, hp1]
              rfl
            clear hp1
            subst hpt
            go_wp2_with fail
            go_quiet (fail)
            go_wp2_with (first
              | (at_builtin; refine wpList_append_lies _ rfl _ _ 58 rfl w1.heap.size 62 q0 _ 4 32 Try.underlying58 hqi hz0 hz1 hz2 rfl (by decide) _ _ _ rfl ((hown _).alloc _) ⟨w2.heap.size, 0, none⟩ 1 1 [.int .i64 p, .int .i64 s, .int .i64 f, .int .i64 r] rfl rfl ?c1 ?c2 (by decide) ?c3 ?c4 ?c5 (w2.heap.size + 1) (by simp) ?_))
            case c1 =>
              intro j u hj
              match j, hj with
              | 0, hj => simp at hj; subst hj; exact cells_drewN w2 _ _ _ 0
              | 1, hj => simp at hj; subst hj; exact cells_drewN w2 _ _ _ 1
              | 2, hj => simp at hj; subst hj; exact cells_drewN w2 _ _ _ 2
              | 3, hj => simp at hj; subst hj; exact cells_drewN w2 _ _ _ 3
            case c2 => intro u hu; simp at hu; rcases hu with rfl | rfl | rfl | rfl <;> rfl
            case c3 => unfold maxLen; first | omega | (simp; omega)
            case c4 => first | omega | (simp; omega)
            case c5 => first | omega | (simp; omega)
            intro g3 cap3 w3 hown3 hgrow hat hlt3
            have fin : Hid (Laid w1 w3 (some ⟨g3, 0, none⟩) cap3 (M ++ [Pg.Mp.mk p s f r])) := (HLq.out _).push (m := Pg.Mp.mk p s f r) hown3 hgrow
            clear hown3 hgrow hat hlt3 hown
            go_wp2_with fail
            go_roundw
            case rel => exact ⟨j + 1, by omega, by go_num, _, cap3, M ++ [Pg.Mp.mk p s f r], true, by simp, rfl, ⟨HNx.out, ha'.out, hM'.out, fin.out⟩⟩
            case measure => simp [intOf]; omega
        · rw [HCM.out, hx] at HC
          have HBd : Hid _ := HBd.out hx
          clear hx HCM
          go_wp2_with fail
          refine wp_region_quiet_below (by kernel_rfl) (by kernel_rfl) ?_
          repeat (first
            | go_big_quiet_step ((go_at_call 43; exact Calls.regrown_of (HC _))))
          refine wpQuiet_nil ?_
          intro _ hw'
          obtain ⟨⟨dq, osq⟩, rfl⟩ := hw'
          have fin : Hid _ := stay.out _ (bthen (bthen hB.out HR.out.2.2.2.bel) (below_regrown wr dq osq))
          go_wp2_with fail
          go_ret
          rw [HBd.out.1, HBd.out.2]
          exact ⟨rfl, fin.out⟩
      · have i1 : ¬ (j : Int) < (L.length : Int) := by omega
        have hj' : j = L.length := by omega
        subst hj'
        have hn : ∀ x, x ∈ L → x.meets ⟨mp, ms, mf, mr⟩ = false := by
          intro x hx
          obtain ⟨t, ht, rfl⟩ := List.mem_iff_getElem.1 hx
          have := HR.out.1 t ht
          rw [Pg.mp_at ht] at this
          exact this
        have HG0 := hgood.out hn
        have hgi : Pg.Good (Pg.ins ⟨mp, ms, mf, mr⟩ L) := by
          have := HX.out.good.add ⟨mp, ms, mf, mr⟩
          rw [HG0.2] at this
          exact this
        have hall := Pg.hlf_all (L := L) (m := ⟨mp, ms, mf, mr⟩)
        have hpe := HR.out.2.1
        rw [List.take_length] at hpe
        have HG : Hid _ := HG0
        clear HG0
        have hbl : Below w.heap.size w wr := bthen hB.out HR.out.2.2.2.bel
        have n3 : b < wr.heap.size := by have := HX.out.lb; have := hbl.size; omega
        have hfb := HW.out.fb
        cases hpt : pt
        · have hMe : M ++ [Pg.Mp.mk mp ms mf mr] = Pg.ins ⟨mp, ms, mf, mr⟩ L := by
            rw [hall, ← hpe, hpt, HR.out.2.2.1]
            rfl
          have hown := HR.out.2.2.2.row
          have hws : w1.heap.size ≤ wr.heap.size := HR.out.2.2.2.bel.size
          have n4 : w.heap.size < wr.heap.size := by omega
          have m0 : wr.cell? ⟨w.heap.size, 0, none⟩ = some (.int .i64 mp) := (hr' 0).trans (cells_new _ _ _ _)
          have m1 : wr.cell? ⟨w.heap.size, 1, none⟩ = some (.int .i64 ms) := (hr' 1).trans (cells_new _ _ _ _)
          have m2 : wr.cell? ⟨w.heap.size, 2, none⟩ = some (.int .i64 mf) := (hr' 2).trans (cells_new _ _ _ _)
          have m3 : wr.cell? ⟨w.heap.size, 3, none⟩ = some (.int .i64 mr) := (hr' 3).trans (cells_new _ _ _ _)
          subst hpt
          clear hr' hall hpe hn
          go_wp2_with (first
            | (at_builtin; refine wpList_append_lies _ rfl _ _ 58 rfl w1.heap.size 62 q0 _ 4 32 Try.underlying58 hqi hz0 hz1 hz2 rfl (by decide) _ _ _ rfl ((hown).alloc _) ⟨wr.heap.size, 0, none⟩ 1 1 [.int .i64 mp, .int .i64 ms, .int .i64 mf, .int .i64 mr] rfl rfl ?c1 ?c2 (by decide) ?c3 ?c4 ?c5 (wr.heap.size + 1) (by simp) ?_))
          case c2 => exact ⟨rfl, rfl, rfl, rfl⟩
          case c3 => unfold maxLen; first | omega | (simp; omega)
          case c4 => first | omega | (simp; omega)
          case c5 => first | omega | (simp; omega)
          intro g3 cap3 w3 hown3 hgrow hat hlt3
          have HL3 : Hid (Laid w1 w3 (some ⟨g3, 0, none⟩) cap3 (M ++ [Pg.Mp.mk mp ms mf mr])) := HR.out.2.2.2.push (m := Pg.Mp.mk mp ms mf mr) hown3 hgrow
          have HW3 : Hid _ := (HX.out.grow hB.out).grow HL3.out.bel
          have t0 := HW3.out.c0
          have t1 := HW3.out.fb
          have fin : Hid _ := HX.out.put (vb' := .slice (some ⟨g3, 0, none⟩) (M.length + 1) cap3) (L' := Pg.ins ⟨mp, ms, mf, mr⟩ L) (bthen hB.out HL3.out.bel) (by rw [← hMe]; have := ownsMaps_mono HL3.out.row (Nat.le_of_lt hsz); simpa using this) hgi (fun e => by rw [← hMe] at e; simp at e)
          clear hown3 hgrow hat hlt3 hown hgi hMe hbl
          go_wp2_with fail
          go_ret
          rw [HG.out.1, HG.out.2]
          exact ⟨rfl, _, fin.out⟩
        · have hMe : M = Pg.ins ⟨mp, ms, mf, mr⟩ L := by
            rw [hall, ← hpe, hpt, HR.out.2.2.1]
            rfl
          have fin : Hid _ := HX.out.put (vb' := .slice ad2 M.length cap2) (L' := Pg.ins ⟨mp, ms, mf, mr⟩ L) hbl (by rw [← hMe]; exact ownsMaps_mono HR.out.2.2.2.row (Nat.le_of_lt hsz)) hgi (fun e => by rw [← hMe] at e; exact HR.out.2.2.2.nil e)
          clear hgi hall hpe hMe hbl hn
          subst hpt
          go_wp2_with fail
          go_ret
          rw [HG.out.1, HG.out.2]
          exact ⟨rfl, _, fin.out⟩
  · have e1 : Pg.addC L m = m.code := by simp [Pg.addC, hc]
    have e2 : Pg.addL L m = L := by simp [Pg.addL, e1, hc]
    rw [e1, e2]
    have hn : (Pg.check m.p m.s m.f m.r != 0) = true := by
      have h0 : ¬ Pg.check m.p m.s m.f m.r = 0 := hc
      simpa using h0
    have hcd : Hid (Pg.check m.p m.s m.f m.r = m.code) := rfl
    clear h hc e1 e2
    obtain ⟨p, s, f, r⟩ := m
    unfold Pg.Mp.val
    simp only at HM hn hcd ⊢
    generalize Pg.check p s f r = c at *
    go_enter Try.func31, Try.ntmps31
    go_wp2_with fail
    refine (HM _).mono ?_
    rintro e w1 ⟨rfl, hb1⟩
    have hB : Hid (Below w.heap.size w w1) := bthen (balloc (brefl _) _) hb1
    clear hb1 HM
    go_wp2_with fail
    go_ret
    exact ⟨ret_int hcd.out, stay.out _ hB.out⟩
end Go.Proofs.Ytkcmlmofcjdgoab
