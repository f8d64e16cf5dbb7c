
/-
  BookTurns is true for every argument: mappings of a book, added to another one in another order, are the same book.
-/
import Derived.Test.YtkcmlmofcjdgoabBookTwo
import Derived.Test.YtkcmlmofcjdgoabPlainBT
namespace Go.Proofs.Ytkcmlmofcjdgoab
open Go.ChangeShapes Go.WideShapes Go.ChangeAt Go.RowKit Go.Joins Go.Sort
set_option maxRecDepth 100000
set_option linter.unusedVariables false

theorem MapsAt.but {G : Nat → Prop} {w w' : World} {ad : Option Addr} {L : List Pg.Mp} (h : MapsAt w ad L) (hb : But G w w') (hG : ∀ g, ad = some ⟨g, 0, none⟩ → ¬ G g) : MapsAt w' ad L := by
  intro j hj
  obtain ⟨g, e, hg, h0, h1, h2, h3⟩ := h j hj
  have hn := hG g e
  exact ⟨g, e, Nat.lt_of_lt_of_le hg hb.size, (hb.cell (a := ⟨g, _, none⟩) hg hn).trans h0, (hb.cell (a := ⟨g, _, none⟩) hg hn).trans h1, (hb.cell (a := ⟨g, _, none⟩) hg hn).trans h2, (hb.cell (a := ⟨g, _, none⟩) hg hn).trans h3⟩

/-- Two books of the developers' lie apart, in memory that was not there when the call began. -/
structure Duo (w0 w : World) (b c : Nat) (L C : List Pg.Mp) (F G : Nat → Prop) : Prop where
  one : Bkd w0 w b L F
  two : Bkd w0 w c C G
  apart : ∀ k, F k → ¬ G k
namespace Duo
variable {w0 w w' : World} {b c : Nat} {L C L' : List Pg.Mp} {F G F' : Nat → Prop}
theorem left (h : Duo w0 w b c L C F G) (h1 : DbAt w' b L' F') (hb : But F w w') (hF : ∀ k, F' k → F k ∨ w.heap.size ≤ k) : Duo w0 w' b c L' C F' G :=
  ⟨h.one.step h1 hb hF, h.two.keep hb (fun k hk hf => h.apart k hf hk) h.one.new, fun k hk hg => (hF k hk).elim (fun hf => h.apart k hf hg) (fun hs => by have := h.two.at'.lt hg; omega)⟩
end Duo

theorem wrap64_in {n : Int} (h0 : -9223372036854775808 ≤ n) (h1 : n ≤ 9223372036854775807) : wrap64 n = n := by
  unfold wrap64
  omega
theorem turn_eq (by' : Int) (n j : Nat) (hn : 0 < n) (hn' : n ≤ 4096) (hj : j < n) :
    (wrap64 ((j : Int) + wrap64 ((IntKind.u64.wrap by').tmod (n : Int)))).tmod (n : Int) = ((Pg.turn n ((IntKind.u64.wrap by').toNat % n) j : Nat) : Int) := by
  have h0 : 0 ≤ IntKind.u64.wrap by' := by
    simp only [IntKind.wrap, IntKind.bits, IntKind.signed, Bool.false_and, Bool.false_eq_true, if_false]
    omega
  obtain ⟨B, hB⟩ := Int.eq_ofNat_of_zero_le h0
  rw [hB, Int.toNat_natCast]
  have e1 : (B : Int).tmod (n : Int) = ((B % n : Nat) : Int) := by rw [Int.tmod_eq_emod_of_nonneg (by omega)]; simp
  have hlt : B % n < n := Nat.mod_lt _ hn
  rw [e1, wrap64_in (n := ((B % n : Nat) : Int)) (by omega) (by omega), wrap64_in (n := (j : Int) + ((B % n : Nat) : Int)) (by omega) (by omega)]
  have e2 : (j : Int) + ((B % n : Nat) : Int) = ((j + B % n : Nat) : Int) := by omega
  rw [e2, Int.tmod_eq_emod_of_nonneg (by omega)]
  unfold Pg.turn
  exact (Int.natCast_emod _ _).symm

set_option maxRecDepth 100000 in
set_option maxHeartbeats 40000000 in
theorem bookTurns_walk (w : World) (ad : Option Addr) (len cap : Nat) (q : Nat → Bst)
    (hq : ∀ j, j < len → (∃ b o, ad = some ⟨b, o, none⟩ ∧ b < w.heap.size ∧ BstAt w b (o + j * 9) (q j)) ∧ BstFits (q j)) (by' : Int) (hby : Pg.fits by') :
    Calls Try.prog 8 #[.slice ad len cap, .int .i64 by'] w fun e w' => e = .returned (.bool true) ∧ Below w.heap.size w w' := by
  have HQ : Hid _ := hq
  clear hq
  by_cases hl : 200 < len
  · have hl' : (200 : Int) < (len : Int) := by omega
    go_enter Try.func8, Try.ntmps8
    go_wp2_with fail
    refine (bookBegun_any _).mono ?_
    rintro e w1 ⟨rfl, hb1⟩
    go_wp2_with fail
    go_ret
    exact ⟨rfl, hb1⟩
  · have hl' : decide ((200 : Int) < (len : Int)) = false := by simp; omega
    go_enter Try.func8, Try.ntmps8
    go_wp2_with fail
    refine (bookBegun_any _).mono ?_
    rintro e w1 ⟨rfl, hb1⟩
    go_wp2_with fail
    refine (dbNew_any _).mono ?_
    rintro e w2 ⟨b, F, rfl, h2, hb2, hF2⟩
    have K2 : Hid (Bkd w w2 b [] F) := ⟨h2, bthen hb1 hb2, fun k hk => Nat.le_trans hb1.size (hF2 k hk)⟩
    clear h2 hb2 hF2 hb1
    go_wp2_with fail
    refine (dbNew_any _).mono ?_
    rintro e w3 ⟨c, G, rfl, h3, hb3, hF3⟩
    have K3 : Hid (Duo w w3 b c [] [] F G) := ⟨K2.out.grow hb3, ⟨h3, bthen K2.out.bel hb3, fun k hk => Nat.le_trans K2.out.bel.size (hF3 k hk)⟩, fun k hk hg => by have := K2.out.at'.lt hk; have := hF3 k hg; omega⟩
    clear h3 hb3 hF3 K2
    go_wp2_with fail
    go_loopw [7] (fun i wr => ∃ k : Nat, k ≤ len ∧ i = .int .i64 k ∧ Hid (∃ L F, Duo w wr b c L [] F G)) (fun i _ => len - (intOf i).toNat)
    case atStart => exact ⟨0, by omega, rfl, ⟨_, _, K3.out⟩⟩
    case round =>
      obtain ⟨k, hk, rfl, HR⟩ := hrel
      obtain ⟨L, F, HB⟩ := HR.out
      clear HR K3
      have HB : Hid _ := HB
      by_cases hlt : k < len
      · obtain ⟨⟨xb, xo, rfl, hxl, hx⟩, hfit⟩ := HQ.out k hlt
        have i0 : (0 : Int) ≤ (k : Int) := by omega
        have i1 : (k : Int) < (len : Int) := by omega
        generalize q k = x at *
        obtain ⟨kind, core, ⟨mp, ms, mf, mr⟩, aq, ak, au⟩ := x
        obtain ⟨x0, x1, x2, x3, x4, x5, x6, x7, x8⟩ := hx
        have y0 := (HB.out.one.bel.cell (p := ⟨xb, xo + k * 9, none⟩) hxl).trans x0
        have y2 := (HB.out.one.bel.cell (p := ⟨xb, xo + k * 9 + 2, none⟩) hxl).trans x2
        have y3 := (HB.out.one.bel.cell (p := ⟨xb, xo + k * 9 + 3, none⟩) hxl).trans x3
        have y4 := (HB.out.one.bel.cell (p := ⟨xb, xo + k * 9 + 4, none⟩) hxl).trans x4
        have y5 := (HB.out.one.bel.cell (p := ⟨xb, xo + k * 9 + 5, none⟩) hxl).trans x5
        simp only at y0 y2 y3 y4 y5
        obtain ⟨f0, f1, f2, f3, f4, f5⟩ := hfit
        simp only at f0
        clear x0 x1 x2 x3 x4 x5 x6 x7 x8 HQ f1 f2 f3 f4 f5
        by_cases h2 : kind = 2
        · subst h2
          go_wp2_with fail
          refine (dbDrop_any mp f0 _ HB.out.one.at').mono ?_
          rintro e w5 ⟨rfl, F5, h5, hb5, hF5⟩
          have D5 : Hid _ := HB.out.left h5 hb5 hF5
          clear h5 hb5 hF5 y0 y2 y3 y4 y5
          go_wp2_with fail
          go_roundw
          case rel => exact ⟨k + 1, by omega, by go_num, ⟨_, _, D5.out⟩⟩
          case measure => simp [intOf]; omega
        · have n2 : (kind == 2) = false := by simpa using h2
          clear h2
          go_wp2_with fail
          refine (dbAdd_any (Pg.Mp.mk mp ms mf mr) f0 _ HB.out.one.at').mono ?_
          rintro e w5 ⟨rfl, F5, h5, hb5, hF5⟩
          have D5 : Hid _ := HB.out.left h5 hb5 hF5
          clear h5 hb5 hF5 y0 y2 y3 y4 y5
          go_wp2_with fail
          go_roundw
          case rel => exact ⟨k + 1, by omega, by go_num, ⟨_, _, D5.out⟩⟩
          case measure => simp [intOf]; omega
      · have i1 : ¬ (k : Int) < (len : Int) := by omega
        have hg := HB.out.one.at'.good
        have hlen := hg.len
        have HG : Hid _ := hg
        clear HQ hg
        go_wp2_with fail
        refine (dbList_any _ HB.out.one.at').mono ?_
        rintro e w6 ⟨ad6, cap6, rfl, m6, hb6, hn6⟩
        have K6 : Hid (Bkd w w6 c [] G) := HB.out.two.grow hb6
        have A6 : Hid (∀ g, ad6 = some ⟨g, 0, none⟩ → ¬ G g) := fun g e hg => by
          have h1 := hn6 g (by rw [e]; rfl)
          have := HB.out.two.at'.lt hg
          omega
        have M6 : Hid _ := m6
        clear m6 hb6 hn6 HB
        go_wp2_with fail
        go_loopw [9] (fun i wr => ∃ k : Nat, k ≤ L.length ∧ i = .int .i64 k ∧ Hid (∃ C G, Bkd w wr c C G ∧ Pg.Turned L C ((IntKind.u64.wrap by').toNat % L.length) k ∧ MapsAt wr ad6 L ∧ ∀ g, ad6 = some ⟨g, 0, none⟩ → ¬ G g)) (fun i _ => L.length - (intOf i).toNat)
        case atStart => exact ⟨0, by omega, rfl, ⟨_, _, K6.out, Pg.Turned.nil _ _, M6.out, A6.out⟩⟩
        case round =>
          clear K6 M6 A6
          obtain ⟨j, hj, rfl, HR⟩ := hrel
          obtain ⟨C, G, KC, TC, MC, AC⟩ := HR.out
          clear HR
          by_cases hlt : j < L.length
          · have j0 : (0 : Int) ≤ (j : Int) := by omega
            have j1 : (j : Int) < (L.length : Int) := by omega
            have KC : Hid _ := KC
            have TC : Hid _ := TC
            have MC : Hid _ := MC
            have AC : Hid _ := AC
            have hpos : 0 < L.length := by omega
            have hE := turn_eq by' L.length j hpos hlen hlt
            obtain ⟨hadd, hT⟩ := TC.out.step HG.out (Nat.mod_lt _ hpos) hlt
            have htl := Pg.turn_lt (s := (IntKind.u64.wrap by').toNat % L.length) (i := j) hpos
            obtain ⟨g, rfl, hgl, hmm⟩ := MC.out (Pg.turn L.length ((IntKind.u64.wrap by').toNat % L.length) j) htl
            obtain ⟨k0, k1, k2, k3⟩ := hmm
            have hft : Pg.fits (L.getD (Pg.turn L.length ((IntKind.u64.wrap by').toNat % L.length) j) .zz).p := (Pg.ok_fits (HG.out.code htl)).2.2.1
            generalize hx : L.getD (Pg.turn L.length ((IntKind.u64.wrap by').toNat % L.length) j) .zz = x at *
            have HT : Hid _ := hT
            clear hT hx
            generalize Pg.turn L.length ((IntKind.u64.wrap by').toNat % L.length) j = t at *
            obtain ⟨mp, ms, mf, mr⟩ := x
            simp only at k0 k1 k2 k3 hft
            have t0 : (0 : Int) ≤ (t : Int) := by omega
            have t1 : (t : Int) < (L.length : Int) := by omega
            have HD := fun w h => dbAdd_any (b := c) (L := C) (F := G) (Pg.Mp.mk mp ms mf mr) hft w h
            rw [hadd] at HD
            clear hadd
            go_wp2_with fail
            refine (HD _ KC.out.at').mono ?_
            rintro e w7 ⟨rfl, G7, h7, hb7, hF7⟩
            have K7 : Hid _ := KC.out.step h7 hb7 hF7
            have M7 : Hid _ := MapsAt.but MC.out hb7 AC.out
            have A7 : Hid (∀ g', some (⟨g, 0, none⟩ : Addr) = some ⟨g', 0, none⟩ → ¬ G7 g') := fun g' e hg' => by
              cases e
              rcases hF7 _ hg' with h | h
              · exact AC.out g rfl h
              · omega
            clear h7 hb7 hF7 HD KC MC AC
            go_wp2_with fail
            go_roundw
            case rel => exact ⟨j + 1, by omega, by go_num, ⟨_, _, K7.out, HT.out, M7.out, A7.out⟩⟩
            case measure => simp [intOf]; omega
          · have j1 : ¬ (j : Int) < (L.length : Int) := by omega
            have hje : j = L.length := by omega
            subst hje
            have hCL : C = L := by
              by_cases h0 : 0 < L.length
              · exact TC.all HG.out (Nat.mod_lt _ h0)
              · have hL0 : L = [] := List.length_eq_zero_iff.1 (by omega)
                subst hL0
                refine List.eq_nil_iff_forall_not_mem.2 fun x hx => ?_
                obtain ⟨t, ht, _⟩ := (TC.mem x).1 hx
                simp at ht
            subst hCL
            have KC : Hid _ := KC
            have MC : Hid _ := MC
            clear TC AC hj
            go_wp2_with fail
            refine (dbList_any _ KC.out.at').mono ?_
            rintro e w7 ⟨ad7, cap7, rfl, m7, hb7, hn7⟩
            have HS := sameMaps_yes (cap := cap7) (cap' := cap6) w7 m7 (MapsAt.below MC.out hb7) hlen
            have B7 : Hid _ := (KC.out.grow hb7).bel
            clear m7 hb7 hn7
            go_wp2_with (go_at_call 36; refine HS.mono ?_; rintro e w8 ⟨rfl, hb8⟩; have B8 : Hid _ := bthen B7.out hb8; clear hb8)
            go_ret
            exact ⟨rfl, B8.out⟩

set_option maxRecDepth 100000 in
theorem bookTurns_lifted (os : Os) (started : os.Started) (H : Type) (enc : TypeId × Value → H) :
    ReturnsInHanded {} Try.checked os 8 .any (Rows.bookTurnsSpec.pre6 enc Try.prog Try.f8 Rows.bookTurnsRow.domain false) (Rows.bookTurnsSpec.post enc Try.prog Try.f8 false true false false) := by
  refine returnsInHanded_of_change (C := Try.checked) own started (by kernel_rfl) Try.func8
    (ChangeSpec.witness6 (enc := enc) (C := Try.checked) false ⟨#[], #[.slice none 0 0, .int .i64 0], []⟩ 8 (by kernel_rfl) (by kernel_rfl) (by kernel_rfl) (by kernel_rfl)) ?_
  intro W base args ds gs before hval0 hW hcnd _
  have hval : ∀ (j : Nat) t v, Try.f8.params[j]? = some t → args[j]? = some v → Value.okWide Try.prog W .any base t v := hval0
  have hW' := hW
  obtain ⟨p, q, hA0, hV, rfl, hfz, hnd⟩ := hW
  have hA : DataW.TrodAll enc Try.prog W 0 (fun _ => true) true Try.f8.params.toList args.toList ds p := hA0
  rw [Try.params8] at hA hval
  obtain ⟨v0, vs0, d0, ds0, p0, q0, hargs, rfl, rfl, h0, r0⟩ := trodAll_cons hA
  obtain ⟨v1, vs1, d1, ds1, p1, q1, rfl, rfl, rfl, h1, r1⟩ := trodAll_cons r0
  obtain ⟨rfl, rfl, rfl⟩ := trodAll_nil r1
  obtain rfl : args = #[v0, v1] := by cases args; simp_all
  obtain ⟨rfl, rfl⟩ := trodVars_none hV
  obtain ⟨a0a, a0b, a0c, a0d, rfl, f0a⟩ := openBsts (hval 0 54 v0 rfl rfl) h0
  obtain ⟨a1a, rfl, f1a⟩ := openInt (hval 1 3 v1 rfl rfl) h1
  clear hA0 hval0
  refine (bookTurns_walk W a0a a0b a0c a0d f0a a1a f1a).mono fun e W' ⟨he, bel⟩ => ?_
  subst he
  exact ⟨_, rfl, _, _, _, [], _, [], hW', trodAll_mk1 (shut_bool Try.underlying4 _), (trodAll_cons_mk (stays (by kernel_rfl) (of_decide_eq_true (by kernel_rfl)) h0 bel) (trodAll_cons_mk (stays (by kernel_rfl) (of_decide_eq_true (by kernel_rfl)) h1 bel) trodAll_mk0)), rfl, bel.frame _, fun h => by cases h⟩

theorem bookTurns_over : Rows.bookTurnsRow.holds Try.pinned (OpenSpec.ofChange Rows.bookTurnsSpec) :=
  OpenClaim.holds_of_wide 8 Try.f8 rfl rfl rfl rfl rfl rfl rfl ⟨rfl, rfl, rfl, rfl, rfl⟩ rfl rfl rfl rfl rfl (by kernel_rfl) Try.func8 (by kernel_rfl)
    (of_decide_eq_true (by kernel_rfl)) (by unfold Func.isWrapper; first | (rw [if_pos (by decide +kernel)]; kernel_rfl) | (rw [if_neg (by decide +kernel)]; exact ⟨rfl, rfl⟩))
    (fun os started H enc _ => bookTurns_lifted os started H enc)

theorem bookTurns_proved : Rows.BookTurnsSaid := bookTurns_over
#print axioms bookTurns_proved
end Go.Proofs.Ytkcmlmofcjdgoab
