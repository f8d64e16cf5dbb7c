/-
  Lists of numbers held against each other; how the statements on ways begin.
-/
import Derived.Test.YtiojflaehjbcbafGreatChecked
import Derived.Test.YtiojflaehjbcbafGreatMemLay
import Derived.Deep.AppendLies
import Derived.Test.YtiojflaehjbcbafGreatFrames
import Derived.Test.YtiojflaehjbcbafGreatWalkE
namespace Go.Proofs.YtiojflaehjbcbafGreat
open Go.RowKit Go.Sort
set_option linter.unusedVariables false

def zeros8 : List Value := [.int .u64 0, .int .u64 0, .int .u64 0, .int .u64 0, .int .u64 0, .int .u64 0, .int .u64 0, .int .u64 0]
theorem zeros8_len : zeros8.length = 8 := rfl
theorem zeros8_at : ∀ (j : Nat) (hj : j < zeros8.length), zeros8[j] = .int .u64 0
  | 0, _ | 1, _ | 2, _ | 3, _ | 4, _ | 5, _ | 6, _ | 7, _ => rfl
  | j + 8, hj => absurd hj (by rw [zeros8_len]; omega)

theorem infoInt : (Tryz.prog.info? 3).map (fun i => (i.zero, i.size, i.bytes)) = some (some (.int .i64 0), 1, 8) := by kernel_rfl

theorem infoWords : (Tryz.prog.info? 69).map (fun i => (i.zero, i.size, i.bytes)) = some (some (.agg #[.int .u64 0, .int .u64 0, .int .u64 0, .int .u64 0, .int .u64 0, .int .u64 0, .int .u64 0, .int .u64 0]), 8, 64) := by kernel_rfl
theorem infoBool : (Tryz.prog.info? 4).map (fun i => (i.zero, i.size, i.bytes)) = some (some (.bool false), 1, 1) := by kernel_rfl

end Go.Proofs.YtiojflaehjbcbafGreat

namespace Go.Proofs.YtiojflaehjbcbafGreat
open Go.RowKit Go.Sort
set_option linter.unusedVariables false
set_option maxRecDepth 100000

namespace Pg.Fs
def takes : Nat → Fs → Fs
  | 0, S => S
  | k + 1, S => (takes k S).take
def stores (q : Nat → Int) : Nat → Fs → Fs
  | 0, S => S
  | j + 1, S => (stores q j S).store ((j : Int) / 8) ((j : Int) % 8) (q j)
/-- The frames that 'memory' makes. -/
def memory (n : Nat) (taken : Int) (q : Nat → Int) (len : Nat) : Fs := stores q len (takes (min taken.toNat n) (new n))
end Pg.Fs

/-- Words that were handed in. -/
def WordsAt (W : World) (ad : Option Addr) (len : Nat) (q : Nat → Int) : Prop := ∀ j, j < len → (∃ b o, ad = some ⟨b, o, none⟩ ∧ b < W.heap.size ∧ W.cell? ⟨b, o + j, none⟩ = some (.int .u64 (q j))) ∧ 0 ≤ q j ∧ q j < 18446744073709551616
theorem WordsAt.below {W W' : World} {ad : Option Addr} {len : Nat} {q : Nat → Int} (h : WordsAt W ad len q) {B : Nat} (hB : W.heap.size ≤ B) (hb : Below B W W') : WordsAt W' ad len q := by
  intro j hj
  obtain ⟨⟨b, o, e, hl, hc⟩, h0, h1⟩ := h j hj
  exact ⟨⟨b, o, e, Nat.lt_of_lt_of_le hl hb.size, (hb.cell (p := ⟨b, o + j, none⟩) (Nat.lt_of_lt_of_le hl hB)).trans hc⟩, h0, h1⟩

/-- The two kinds of frames, side by side, behind all that was there. -/
structure Side (w0 : World) (bf bm g0 g1 : Nat) (vb : Value) (F : Nat → Prop) (Sf Sm : Pg.Fs) (w : World) : Prop where
  bel : Below w0.heap.size w0 w
  fr : FrAt w bf Sf F
  mem : MemAt w bm g0 g1 vb Sm
  fhi : ∀ k, F k → w0.heap.size ≤ k
  mhi : ∀ k, memF bm g0 g1 vb k → w0.heap.size ≤ k
  ne : ∀ k, F k → ¬ memF bm g0 g1 vb k
namespace Side
variable {w0 w w' : World} {bf bm g0 g1 : Nat} {vb vb' : Value} {F F' : Nat → Prop} {Sf Sm S' : Pg.Fs}
theorem grow (h : Side w0 bf bm g0 g1 vb F Sf Sm w) (hb : Below w.heap.size w w') : Side w0 bf bm g0 g1 vb F Sf Sm w' :=
  ⟨bthen h.bel hb, h.fr.keep (G := fun _ => False) (But.of_below hb) (fun _ _ => id), h.mem.keep (F := fun _ => False) (But.of_below hb) (fun _ _ => id), h.fhi, h.mhi, h.ne⟩
/-- A step of the developers'. -/
theorem stepF (h : Side w0 bf bm g0 g1 vb F Sf Sm w) (h1 : FrAt w' bf S' F') (hb : But F w w') (hF : ∀ k, F' k → F k ∨ w.heap.size ≤ k) : Side w0 bf bm g0 g1 vb F' S' Sm w' := by
  refine ⟨h.bel.trans (hb.below h.bel.size h.fhi), h1, h.mem.keep hb fun k hk hf => h.ne k hf hk, fun k hk => ?_, h.mhi, fun k hk hm => ?_⟩
  · rcases hF k hk with h2 | h2
    · exact h.fhi k h2
    · have := h.bel.size; omega
  · rcases hF k hk with h2 | h2
    · exact h.ne k h2 hm
    · have := h.mem.raw.lt hm; omega
/-- A step of the document's. -/
theorem stepM (h : Side w0 bf bm g0 g1 vb F Sf Sm w) (h1 : MemAt w' bm g0 g1 vb' S') (hb : But (memF bm g0 g1 vb) w w') (hv : vb'.ownBlock = vb.ownBlock) : Side w0 bf bm g0 g1 vb' F Sf S' w' := by
  have e : ∀ k, memF bm g0 g1 vb' k ↔ memF bm g0 g1 vb k := fun k => by unfold memF; rw [hv]
  exact ⟨h.bel.trans (hb.below h.bel.size h.mhi), h.fr.keep hb fun k hk hm => h.ne k hk hm, h1, h.fhi, fun k hk => h.mhi k ((e k).1 hk), fun k hk hm => h.ne k hk ((e k).1 hm)⟩
end Side

/-- What 'memory' leaves. -/
structure MemDone (w : World) (S : Pg.Fs) (e : Ending) (w' : World) : Prop where
  end' : ∃ bf bm g0 g1 vb F, e = .returned (.tuple #[.pointer (some ⟨bf, 0, none⟩), .pointer (some ⟨bm, 0, none⟩)]) ∧ Side w bf bm g0 g1 vb F S S w'

theorem fr_n {w : World} {b : Nat} {S : Pg.Fs} {F : Nat → Prop} (h : FrAt w b S F) : S.n ≤ 128 := h.ok.small

end Go.Proofs.YtiojflaehjbcbafGreat

namespace Go.Proofs.YtiojflaehjbcbafGreat
open Go.RowKit Go.Sort
set_option linter.unusedVariables false
set_option maxRecDepth 100000

theorem begun_facts : fndC (Pg.Fs.memory 2 1 (fun _ => 1) 1) 0 0 = 7 ∧ fndC (Pg.Fs.memory 2 1 (fun _ => 1) 1) 0 512 = 0 ∧ lastL (fndX (Pg.Fs.memory 2 1 (fun _ => 1) 1) 0 512) = 3 ∧ (fndX (Pg.Fs.memory 2 1 (fun _ => 1) 1) 0 512).length = 1 ∧ plcs (fndX (Pg.Fs.memory 2 1 (fun _ => 1) 1) 0 512) = [1] := by
  refine ⟨?_, ?_, ?_, ?_, ?_⟩ <;> decide +kernel

/-- Two rows of the same mappings are the same. -/
theorem sameMapsW {ad ad' : Option Addr} {cap cap' : Nat} {L : List Pg.Mp} (w : World) (h : MapsAt w ad L) (h' : MapsAt w ad' L) (hl : L.length ≤ 5000) :
    Calls Tryz.prog 10 #[.slice ad L.length cap, .slice ad' L.length cap'] w fun e w' => e = .returned (.bool true) ∧ Below w.heap.size w w' := by
  have HA : Hid (MapsAt w ad L) := h
  have HB : Hid (MapsAt w ad' L) := h'
  clear h h'
  go_enter Tryz.func10, Tryz.ntmps10
  go_wp2_with fail
  go_loopw [5] (fun i wr => ∃ j : Nat, j ≤ L.length ∧ i = .int .i64 j ∧ Hid (Below w.heap.size w wr)) (fun i _ => L.length - (intOf i).toNat)
  case atStart => exact ⟨0, by omega, rfl, brefl _⟩
  case round =>
    obtain ⟨j, hj, rfl, HR⟩ := hrel
    have i0 : (0 : Int) ≤ (j : Int) := by omega
    by_cases hlt : j < L.length
    · obtain ⟨g, rfl, hg, hm⟩ := MapsAt.below HA.out HR.out j hlt
      obtain ⟨g', rfl, hg', hm'⟩ := MapsAt.below HB.out HR.out j hlt
      obtain ⟨k0, k1, k2, k3⟩ := hm
      obtain ⟨m0, m1, m2, m3⟩ := hm'
      have i1 : (j : Int) < (L.length : Int) := by omega
      have fin : Hid (∀ nq, Below w.heap.size w (wr.drewN nq)) := fun nq => bthen HR.out (below_drewN (brefl _) nq)
      generalize L.getD j .zz = x at *
      obtain ⟨p, s, f, r⟩ := x
      simp only at k0 k1 k2 k3 m0 m1 m2 m3
      go_wp2_with fail
      go_quiet (fail)
      go_wp2_with fail
      exact ⟨⟨j + 1, by omega, by go_num, fin.out _⟩, by simp [intOf]; omega⟩
    · have i1 : ¬ (j : Int) < (L.length : Int) := by omega
      go_wp2_with fail
      go_ret
      exact ⟨rfl, HR.out⟩

/-- The places on a way. -/
theorem way_place (S : Pg.Fs) (p : Int) : ∀ (lv : Nat) (t : Int) (a i : Nat), i < (Pg.thr S (Pg.onW p) lv t a).1.length → i ≤ lv ∧ (plcs (Pg.thr S (Pg.onW p) lv t a).1).getD i 0 = (Pg.ix p (lv - i) : Nat) := by
  intro lv
  induction lv with
  | zero =>
    intro t a i hi
    rw [Pg.thr_way] at hi ⊢
    split at hi
    · simp at hi
    · rename_i h1
      rw [if_neg h1]
      split at hi
      · rename_i h2
        rw [if_pos h2]
        simp at hi
        subst hi
        exact ⟨by omega, by simp [plcs, Pg.spt]⟩
      · rename_i h2
        obtain ⟨m, hm⟩ := Pg.rEn_on (S := S) (t := t) (i := Pg.ix p 0) (lv := 0) (by simpa using h2)
        omega
  | succ lv ih =>
    intro t a i hi
    rw [Pg.thr_way] at hi ⊢
    split at hi
    · simp at hi
    · rename_i h1
      rw [if_neg h1]
      split at hi
      · rename_i h2
        rw [if_pos h2]
        simp at hi
        subst hi
        exact ⟨by omega, by simp [plcs, Pg.spt]⟩
      · rename_i h2
        rw [if_neg h2]
        simp only at hi ⊢
        cases i with
        | zero => exact ⟨by omega, by simp [plcs, Pg.spt]⟩
        | succ i =>
          have h3 := ih (Pg.rEn S t (Pg.ix p (lv + 1)) (lv + 1)).f ((a + Pg.ix p (lv + 1)) * 8) i (by simpa [Pg.sub] using hi)
          refine ⟨by omega, ?_⟩
          rw [show lv + 1 - (i + 1) = lv - i by omega]
          simpa [plcs, Pg.sub] using h3.2
theorem find_place (S : Pg.Fs) (t p : Int) {i : Nat} (hi : i < (fndX S t p).length) : Pg.below p 4096 = true ∧ i ≤ 3 ∧ (plcs (fndX S t p)).getD i 0 = Pg.index p (3 - (i : Int)) := by
  unfold fndX at hi ⊢
  split at hi
  · rename_i h
    rw [if_pos h]
    obtain ⟨h1, h2⟩ := way_place S p 3 t 0 i hi
    refine ⟨h.1, h1, ?_⟩
    rw [h2, show (3 - (i : Int)) = ((3 - i : Nat) : Int) by omega, Pg.index_ix h.1 (by omega)]
  · simp at hi
theorem fndX_len (S : Pg.Fs) (t p : Int) : (fndX S t p).length ≤ 4680 := by
  unfold fndX
  split
  · exact Pg.thr_len S (Pg.onW p) 3 t 0
  · simp
end Go.Proofs.YtiojflaehjbcbafGreat
