
/-
  The statements' own memory: frames of the developers' and of the document's, with the same words in them.
-/
import Derived.Test.YtbkpndgadgafiacFrames
import Derived.Test.YtbkpndgadgafiacMemRef
namespace Go.Proofs.Ytbkpndgadgafiac
open Go.RowKit Go.Sort
set_option linter.unusedVariables false
set_option maxRecDepth 100000

namespace Pg.Fs
def takes : Nat → Fs → Fs
  | 0, S => S
  | k + 1, S => (takes k S).take
def stores (q : Nat → Int) : Nat → Fs → Fs
  | 0, S => S
  | j + 1, S => (stores q j S).store ((j : Int) / 8) ((j : Int) % 8) (q j)
/-- The frames that 'memory' makes. -/
def memory (n : Nat) (taken : Int) (q : Nat → Int) (len : Nat) : Fs := stores q len (takes (min taken.toNat n) (new n))
end Pg.Fs

/-- Words that were handed in. -/
def WordsAt (W : World) (ad : Option Addr) (len : Nat) (q : Nat → Int) : Prop := ∀ j, j < len → (∃ b o, ad = some ⟨b, o, none⟩ ∧ b < W.heap.size ∧ W.cell? ⟨b, o + j, none⟩ = some (.int .u64 (q j))) ∧ 0 ≤ q j ∧ q j < 18446744073709551616
theorem WordsAt.below {W W' : World} {ad : Option Addr} {len : Nat} {q : Nat → Int} (h : WordsAt W ad len q) {B : Nat} (hB : W.heap.size ≤ B) (hb : Below B W W') : WordsAt W' ad len q := by
  intro j hj
  obtain ⟨⟨b, o, e, hl, hc⟩, h0, h1⟩ := h j hj
  exact ⟨⟨b, o, e, Nat.lt_of_lt_of_le hl hb.size, (hb.cell (p := ⟨b, o + j, none⟩) (Nat.lt_of_lt_of_le hl hB)).trans hc⟩, h0, h1⟩

/-- The two kinds of frames, side by side, behind all that was there. -/
structure Side (w0 : World) (bf bm g0 g1 : Nat) (vb : Value) (F : Nat → Prop) (Sf Sm : Pg.Fs) (w : World) : Prop where
  bel : Below w0.heap.size w0 w
  fr : FrAt w bf Sf F
  mem : MemAt w bm g0 g1 vb Sm
  fhi : ∀ k, F k → w0.heap.size ≤ k
  mhi : ∀ k, memF bm g0 g1 vb k → w0.heap.size ≤ k
  ne : ∀ k, F k → ¬ memF bm g0 g1 vb k
namespace Side
variable {w0 w w' : World} {bf bm g0 g1 : Nat} {vb vb' : Value} {F F' : Nat → Prop} {Sf Sm S' : Pg.Fs}
theorem grow (h : Side w0 bf bm g0 g1 vb F Sf Sm w) (hb : Below w.heap.size w w') : Side w0 bf bm g0 g1 vb F Sf Sm w' :=
  ⟨bthen h.bel hb, h.fr.keep (G := fun _ => False) (But.of_below hb) (fun _ _ => id), h.mem.keep (F := fun _ => False) (But.of_below hb) (fun _ _ => id), h.fhi, h.mhi, h.ne⟩
/-- A step of the developers'. -/
theorem stepF (h : Side w0 bf bm g0 g1 vb F Sf Sm w) (h1 : FrAt w' bf S' F') (hb : But F w w') (hF : ∀ k, F' k → F k ∨ w.heap.size ≤ k) : Side w0 bf bm g0 g1 vb F' S' Sm w' := by
  refine ⟨h.bel.trans (hb.below h.bel.size h.fhi), h1, h.mem.keep hb fun k hk hf => h.ne k hf hk, fun k hk => ?_, h.mhi, fun k hk hm => ?_⟩
  · rcases hF k hk with h2 | h2
    · exact h.fhi k h2
    · have := h.bel.size; omega
  · rcases hF k hk with h2 | h2
    · exact h.ne k h2 hm
    · have := h.mem.raw.lt hm; omega
/-- A step of the document's. -/
theorem stepM (h : Side w0 bf bm g0 g1 vb F Sf Sm w) (h1 : MemAt w' bm g0 g1 vb' S') (hb : But (memF bm g0 g1 vb) w w') (hv : vb'.ownBlock = vb.ownBlock) : Side w0 bf bm g0 g1 vb' F Sf S' w' := by
  have e : ∀ k, memF bm g0 g1 vb' k ↔ memF bm g0 g1 vb k := fun k => by unfold memF; rw [hv]
  exact ⟨h.bel.trans (hb.below h.bel.size h.mhi), h.fr.keep hb fun k hk hm => h.ne k hk hm, h1, h.fhi, fun k hk => h.mhi k ((e k).1 hk), fun k hk hm => h.ne k hk ((e k).1 hm)⟩
end Side

/-- What 'memory' leaves. -/
structure MemDone (w : World) (S : Pg.Fs) (e : Ending) (w' : World) : Prop where
  end' : ∃ bf bm g0 g1 vb F, e = .returned (.tuple #[.pointer (some ⟨bf, 0, none⟩), .pointer (some ⟨bm, 0, none⟩)]) ∧ Side w bf bm g0 g1 vb F S S w'

theorem fr_n {w : World} {b : Nat} {S : Pg.Fs} {F : Nat → Prop} (h : FrAt w b S F) : S.n ≤ 128 := h.ok.small

set_option maxHeartbeats 4000000 in
theorem memory_any (n : Nat) (hn : n ≤ 128) (taken : Int) (ad : Option Addr) (len cap : Nat) (hlen : len ≤ 2000) (q : Nat → Int) (w : World) (hq : WordsAt w ad len q) :
    Calls Try.prog 10 #[.int .i64 (n : Int), .int .i64 taken, .slice ad len cap] w fun e w' => MemDone w (Pg.Fs.memory n taken q len) e w' := by
  have HQ : Hid (WordsAt w ad len q) := hq
  obtain ⟨K, hK⟩ : ∃ K, K = min taken.toNat n := ⟨_, rfl⟩
  have HS : Hid (Pg.Fs.memory n taken q len = Pg.Fs.stores q len (Pg.Fs.takes K (Pg.Fs.new n))) := by rw [Hid, hK]; rfl
  have HK : Hid ((∀ j : Nat, j < K → (j : Int) < taken ∧ (j : Int) < (n : Int)) ∧ (decide ((K : Int) < taken) = false ∨ (decide ((K : Int) < taken) = true ∧ decide ((K : Int) < (n : Int)) = false ∧ decide (K < n) = false))) := by
    refine ⟨fun j hj => by omega, ?_⟩
    by_cases h : (K : Int) < taken
    · exact .inr ⟨by simpa using h, by simp; omega, by simp; omega⟩
    · exact .inl (by simpa using h)
  rw [HS.out]
  clear hq hK HS
  go_enter Try.func10, Try.ntmps10
  go_wp2_with fail
  refine (frNew_any n hn _).mono ?_
  rintro e w1 ⟨bf, F, rfl, hf1, hb1, hF1⟩
  have HF1 : Hid (FrAt w1 bf (Pg.Fs.new n) F) := hf1
  have HB1 : Hid _ := hb1
  have HFh : Hid _ := hF1
  clear hf1 hb1 hF1
  go_wp2_with fail
  refine (newMem_any n hn _).mono ?_
  rintro e w2 ⟨bm, g0, g1, rfl, hm2, hb2, q1, q2, q3⟩
  have hA : Below w.heap.size w (w1.alloc (.cells #[.int .i64 0, .int .i64 0] 91)) := balloc HB1.out _
  have G2 : Hid (Side w bf bm g0 g1 (.slice none 0 0) F (Pg.Fs.new n) (Pg.Fs.new n) w2) := by
    have hsz : (w1.alloc (.cells #[.int .i64 0, .int .i64 0] 91)).heap.size = w1.heap.size + 1 := by simp
    have hm : ∀ k, memF bm g0 g1 (.slice none 0 0) k → w1.heap.size + 1 ≤ k := fun k hk => by
      rcases hk with rfl | rfl | rfl | hk
      · omega
      · omega
      · omega
      · simp [Value.ownBlock] at hk
    have hs1 := HB1.out.size
    refine ⟨bthen hA hb2, HF1.out.keep (G := fun _ => False) (But.of_below (bthen (balloc (brefl w1) _) hb2)) (fun _ _ => id), hm2, HFh.out, fun k hk => by have := hm k hk; omega, fun k hk hk' => ?_⟩
    have := HF1.out.lt hk
    have := hm k hk'
    omega
  clear hm2 hb2 q1 q2 q3 hA
  go_wp2_with fail
  go_loopw [11] (fun i wr => ∃ (j : Nat) (vb : Value) (F : Nat → Prop), j ≤ K ∧ i = .int .i64 j ∧ Hid (Side w bf bm g0 g1 vb F (Pg.Fs.takes j (Pg.Fs.new n)) (Pg.Fs.takes j (Pg.Fs.new n)) wr)) (fun i _ => K - (intOf i).toNat)
  case atStart => exact ⟨0, .slice none 0 0, F, by omega, rfl, G2.out⟩
  case round =>
    obtain ⟨j, vb, F2, hj, rfl, HR⟩ := hrel
    clear G2 HF1 HFh
    by_cases hlt : j < K
    · have i1 : (j : Int) < taken := (HK.out.1 j hlt).1
      have i2 : (j : Int) < (n : Int) := (HK.out.1 j hlt).2
      go_wp2_with fail
      refine (frTake_any _ HR.out.fr).mono ?_
      rintro e w3 ⟨rfl, F3, h1, h2, h3⟩
      have G3 : Hid _ := HR.out.stepF h1 h2 h3
      clear h1 h2 h3
      go_wp2_with fail
      refine (memTake_any _ G3.out.mem).mono ?_
      rintro e w4 ⟨rfl, vb4, h1, h2, h3⟩
      have G4 : Hid _ := G3.out.stepM h1 h2 h3
      clear h1 h2 h3
      go_wp2_with fail
      exact ⟨⟨j + 1, vb4, F3, by omega, by go_num, G4.out⟩, by simp [intOf]; omega⟩
    · have hjK : j = K := by omega
      subst hjK
      have hstop := HK.out.2
      clear HK hlt hj
      have HS0 : Hid _ := HR.out
      rcases hstop with hs1 | ⟨hs1, hs2, hs3⟩
      all_goals
        go_wp2_with fail
        go_loopw [12] (fun i wr2 => ∃ (i' : Nat) (vb : Value) (F : Nat → Prop), i' ≤ len ∧ i = .int .i64 i' ∧ Hid (Side w bf bm g0 g1 vb F (Pg.Fs.stores q i' (Pg.Fs.takes j (Pg.Fs.new n))) (Pg.Fs.stores q i' (Pg.Fs.takes j (Pg.Fs.new n))) wr2)) (fun i _ => len - (intOf i).toNat)
        case atStart => exact ⟨0, vb, F2, by omega, rfl, HS0.out⟩
        case round =>
          obtain ⟨i, vb3, F3, hi, rfl, HR3⟩ := hrel
          by_cases hil : i < len
          · obtain ⟨⟨xb, xo, e, hxl, hxc⟩, x0, x1⟩ := WordsAt.below HQ.out (Nat.le_refl _) HR3.out.bel i hil
            subst e
            obtain ⟨kn, hkn⟩ : ∃ kn : Nat, (i : Int) / 8 = (kn : Int) := ⟨i / 8, by omega⟩
            obtain ⟨rn, hrn⟩ : ∃ rn : Nat, (i : Int) % 8 = (rn : Int) := ⟨i % 8, by omega⟩
            have hr8 : rn < 8 := by omega
            have e1 : Hid (Pg.Fs.stores q (i + 1) (Pg.Fs.takes j (Pg.Fs.new n)) = (Pg.Fs.stores q i (Pg.Fs.takes j (Pg.Fs.new n))).store (kn : Int) (rn : Int) (q i)) := by rw [Hid, ← hkn, ← hrn]; rfl
            generalize Pg.Fs.stores q i (Pg.Fs.takes j (Pg.Fs.new n)) = S at *
            generalize hqx : q i = x at *
            have HQX : Hid _ := hqx
            clear hqx
            have j0 : (0 : Int) ≤ (i : Int) := by omega
            have j1 : (i : Int) < (len : Int) := by omega
            have hkb : (kn : Int) ≤ 250 := by omega
            have HT := memTaken_any (kn : Int) wr HR3.out.mem
            cases hh : S.has (kn : Int)
            · rw [hh] at HT
              have e2 : Hid (S.store (kn : Int) (rn : Int) x = S) := by simp [Hid, Pg.Fs.store, Pg.Fs.at', hh]
              clear hh
              go_wp2_with (go_at_call 49; refine HT.mono ?_; rintro e w' ⟨rfl, hw⟩; subst w')
              exact ⟨⟨i + 1, vb3, F3, by omega, by go_num, by rw [e1.out, e2.out]; exact HR3.out⟩, by simp [intOf]; omega⟩
            · rw [hh] at HT
              have hat : S.at' (kn : Int) (rn : Int) = true := by simp [Pg.Fs.at', hh]; omega
              have hkl : kn < S.n := by have := HR3.out.mem.ok.has_lt hh; omega
              have hsm := HR3.out.mem.ok.small
              clear hh
              go_wp2_with (go_at_call 49; refine HT.mono ?_; rintro e w' ⟨rfl, hw⟩; subst w')
              refine (frStore_any _ _ _ x0 x1 _ HR3.out.fr).mono ?_
              rintro e w5 ⟨rfl, F5, h1, h2, h3⟩
              have G5 : Hid _ := HR3.out.stepF h1 h2 h3
              clear h1 h2 h3
              have m0 := G5.out.mem.raw.c0
              have mw := G5.out.mem.raw.cw kn rn hkl hr8
              have mf := G5.out.mem.raw.f0
              have hgl := G5.out.mem.raw.l0
              have hxc5 : w5.cell? ⟨xb, xo + i, none⟩ = some (.int .u64 x) := by
                obtain ⟨⟨xb', xo', e', _, hc'⟩, _, _⟩ := WordsAt.below HQ.out (Nat.le_refl _) G5.out.bel i hil
                cases e'
                rw [HQX.out] at hc'
                exact hc'
              have G6 : Hid (Side w bf bm g0 g1 vb3 F5 (S.store (kn : Int) (rn : Int) x) (S.store (kn : Int) (rn : Int) x) (w5.setCell ⟨g0, kn * 8 + rn, none⟩ (.int .u64 x)).drew) := by
                have e3 : S.store (kn : Int) (rn : Int) x = { S with word := Pg.Fs.put S.word kn rn x } := by simp [Pg.Fs.store, hat]
                have ok' := G5.out.mem.ok.store (kn : Int) (rn : Int) x0 x1
                have hp := G5.out.mem.raw.put hkl hr8 x
                have hB : But (memF bm g0 g1 vb3) w5 (w5.setCell ⟨g0, kn * 8 + rn, none⟩ (.int .u64 x)).drew := ((But.refl _ w5).setCell (.inr (.inr (.inl rfl))) _).drew
                refine G5.out.stepM ⟨?_, ok'⟩ hB rfl
                rw [e3]
                exact hp.keep (F := fun _ => False) ((But.refl _ _).drew) (fun _ _ => id)
              clear G5 hat
              go_wp2_with fail
              go_region
              go_wp2_with fail
              exact ⟨⟨i + 1, vb3, F5, by omega, by go_num, by rw [e1.out]; exact G6.out⟩, by simp [intOf]; omega⟩
          · have hil' : i = len := by omega
            subst hil'
            have hiI : ¬ (i : Int) < (i : Int) := by omega
            go_wp2_with fail
            go_ret2
            exact ⟨⟨bf, bm, g0, g1, vb3, F3, rfl, HR3.out⟩⟩
end Go.Proofs.Ytbkpndgadgafiac
