
/-
  The developers' frames: what asking them answers, and what it leaves in memory.
-/
import Derived.Test.YtbkpndgadgafiacChecked
import Derived.Test.YtbkpndgadgafiacFrLay
import Derived.Deep.AppendLies
namespace Go.Proofs.Ytbkpndgadgafiac
open Go.RowKit Go.Sort
set_option linter.unusedVariables false

theorem taken_raw {b g : Nat} {vb : Value} {S : Pg.Fs} (k : Int) (w : World) (h : FrRaw w b g vb S) (ok : S.Ok) :
    Calls Try.prog 42 #[.pointer (some ⟨b, 0, none⟩), .int .i64 k] w fun e w' => e = .returned (.bool (S.has k)) ∧ w' = w := by
  have hc0 := h.c0
  have hn := ok.small
  by_cases h0 : 0 ≤ k
  · obtain ⟨m, rfl⟩ := Int.eq_ofNat_of_zero_le h0
    by_cases h1 : m < S.n
    · have hm := h.ci m h1
      have HH : Hid (S.has (m : Int) = S.inn m) := by simp [Hid, Pg.Fs.has]
      have i0 : (0 : Int) ≤ (m : Int) := by omega
      have i1 : (m : Int) < (S.n : Int) := by omega
      go_enter Try.func42, Try.ntmps42
      go_wp2_with fail
      go_ret
      exact ⟨ret_bool HH.out.symm, rfl⟩
    · have HH : Hid (S.has (m : Int) = false) := by
        cases hh : S.has (m : Int)
        · rfl
        · have := ok.has_lt hh
          omega
      have i1 : ¬ (m : Int) < (S.n : Int) := by omega
      go_enter Try.func42, Try.ntmps42
      go_wp2_with fail
      go_ret
      exact ⟨ret_bool HH.out.symm, rfl⟩
  · have HH : Hid (S.has k = false) := by simp [Hid, Pg.Fs.has, h0]
    have d0 : decide (0 ≤ k) = false := by simpa using h0
    go_enter Try.func42, Try.ntmps42
    go_wp2_with fail
    go_ret
    exact ⟨ret_bool HH.out.symm, rfl⟩

theorem free_raw {b g : Nat} {vb : Value} {S : Pg.Fs} (w : World) (h : FrRaw w b g vb S) (ok : S.Ok) :
    Calls Try.prog 31 #[.pointer (some ⟨b, 0, none⟩)] w fun e w' => e = .returned (.int .i64 S.free) ∧ Below w.heap.size w w' := by
  have hc0 := h.c0
  have hc1 := h.c1
  have hc2 := h.c2
  have hl := ok.len
  have ht := ok.top
  have hs := ok.small
  have HF : Hid (S.free = S.back.length + S.n - S.next) := rfl
  have hb : S.back.length ≤ 128 := by omega
  have hx : S.next ≤ 128 := by omega
  rcases h.own.2 with ⟨rfl, hlen⟩ | ⟨g, cap, cur, rfl, hg⟩
  · rw [hlen] at HF
    clear hl ht hlen hb
    go_enter Try.func31, Try.ntmps31
    go_wp2_with fail
    go_quiet (fail)
    go_wp2_with fail
    go_ret
    refine ⟨?_, below_drewN (brefl _) _⟩
    rw [HF.out]
    first | rfl | simp
  · clear hl ht hg
    generalize S.back.length = m at *
    go_enter Try.func31, Try.ntmps31
    go_wp2_with fail
    go_quiet (fail)
    go_wp2_with fail
    go_ret
    exact ⟨ret_int (by rw [HF.out]), below_drewN (brefl _) _⟩

/-- Frames of which the next one is counted as free no more, and is not in use yet. -/
def Pg.Fs.picked (S : Pg.Fs) : Pg.Fs := match S.back.getLast? with
  | some k => { S with back := S.back.dropLast }
  | none => if S.next < S.n then { S with next := S.next + 1 } else S

theorem next_raw {b g : Nat} {vb : Value} {S : Pg.Fs} (w : World) (h : FrRaw w b g vb S) (ok : S.Ok) :
    Calls Try.prog 80 #[.pointer (some ⟨b, 0, none⟩)] w fun e w' => e = .returned (.int .i64 S.takeN) ∧ ∃ vb', FrRaw w' b g vb' S.picked ∧ But (frF b g vb) w w' ∧ vb'.ownBlock = vb.ownBlock := by
  have hc0 := h.c0
  have hc1 := h.c1
  have hc2 := h.c2
  have hfb := h.fb
  have hs := ok.small
  have ht := ok.top
  by_cases hb : S.back = []
  · have ho := h.own
    rw [hb] at ho
    by_cases hn : S.next < S.n
    · have e1 : S.takeN = (S.next : Int) := by simp [Pg.Fs.takeN, Pg.Fs.pick, hb, hn]
      have e2 : S.picked = { S with next := S.next + 1 } := by simp [Pg.Fs.picked, hb, hn]
      have fin : ∀ nq, Hid (∃ vb', FrRaw ((w.drewN nq).setCell ⟨b, 2, none⟩ (.int .i64 (S.next + 1))) b g vb' S.picked ∧ But (frF b g vb) w ((w.drewN nq).setCell ⟨b, 2, none⟩ (.int .i64 (S.next + 1))) ∧ vb'.ownBlock = vb.ownBlock) := by
        intro nq
        rw [e2]
        exact ⟨vb, (h.drewN nq).setNext (S.next + 1), (But.of_below (below_drewN (brefl w) nq)).setCell (.inr (.inl rfl)) _, rfl⟩
      rw [e1]
      have i1 : ((S.next : Int) == (S.n : Int)) = false := by simp; omega
      clear e1 e2
      rcases ho.2 with ⟨rfl, hlen⟩ | ⟨g', cap, cur, rfl, hg⟩
      all_goals
        clear ho h
        go_enter Try.func80, Try.ntmps80
        go_wp2_with fail
        go_quiet (fail)
        go_wp2_with fail
        go_ret
        exact ⟨rfl, (fin _).out⟩
    · have hnn : S.next = S.n := by omega
      have e1 : S.takeN = -1 := by simp [Pg.Fs.takeN, Pg.Fs.pick, hb, hn]
      have e2 : S.picked = S := by simp [Pg.Fs.picked, hb, hn]
      have fin : ∀ nq, Hid (∃ vb', FrRaw (w.drewN nq) b g vb' S.picked ∧ But (frF b g vb) w (w.drewN nq) ∧ vb'.ownBlock = vb.ownBlock) := by
        intro nq
        rw [e2]
        exact ⟨vb, h.drewN nq, But.of_below (below_drewN (brefl w) nq), rfl⟩
      rw [e1]
      have i1 : ((S.next : Int) == (S.n : Int)) = true := by simp; omega
      clear e1 e2
      rcases ho.2 with ⟨rfl, hlen⟩ | ⟨g', cap, cur, rfl, hg⟩
      all_goals
        clear ho h
        go_enter Try.func80, Try.ntmps80
        go_wp2_with fail
        go_quiet (fail)
        go_wp2_with fail
        go_ret
        exact ⟨rfl, (fin _).out⟩
  · obtain ⟨l, k, hl⟩ : ∃ l k, S.back = l ++ [k] := ⟨_, _, (List.dropLast_concat_getLast hb).symm⟩
    have hk : k < S.n := by
      have := ok.backLt (k := k) (by rw [hl]; simp)
      omega
    have ho := h.own
    have hlen : S.back.length = l.length + 1 := by rw [hl]; simp
    rw [hlen] at ho
    obtain ⟨g', cap, rfl, _, hgl⟩ := ho.form (by omega)
    have hcap : l.length + 1 ≤ cap := by
      rcases ho.2 with ⟨h', _⟩ | ⟨g', cap', cur, h', _, _, hle, _⟩
      · cases h'
      · cases h'; exact hle
    have hbd : S.back.length ≤ 128 := by have := ok.len; omega
    have hl128 : l.length < 128 := by omega
    have hck : w.cell? ⟨g', l.length, none⟩ = some (.int .i64 k) := by
      rw [ho.cellAt l.length (by omega), nats, hl]
      simp
    have hpop : w.ownsRow 0 3 1 (.slice (some ⟨g', 0, none⟩) l.length cap) l.length (nats l) := by
      have e : nats S.back = nats l ++ [.int .i64 (k : Int)] := by simp [nats, hl]
      rw [e] at ho
      exact ownsRow_pop (by simp [nats]) ho
    have e1 : S.takeN = (k : Int) := by simp [Pg.Fs.takeN, Pg.Fs.pick, hl]
    have e2 : S.picked = { S with back := l } := by simp [Pg.Fs.picked, hl]
    have fin : Hid (∃ vb', FrRaw (w.setCell ⟨b, 1, none⟩ (.slice (some ⟨g', 0, none⟩) l.length cap)) b g vb' S.picked ∧ But (frF b g (.slice (some ⟨g', 0, none⟩) (l.length + 1) cap)) w (w.setCell ⟨b, 1, none⟩ (.slice (some ⟨g', 0, none⟩) l.length cap)) ∧ vb'.ownBlock = (Value.slice (some ⟨g', 0, none⟩) (l.length + 1) cap).ownBlock) := by
      rw [e2]
      exact ⟨_, h.setBack hpop h.vb0 h.vbb, (But.refl _ w).setCell (.inr (.inl rfl)) _, rfl⟩
    rw [e1]
    have j1 : (l.length : Int) ≤ (cap : Int) := by omega
    have j0 : (0 : Int) ≤ (l.length : Int) := by omega
    clear ho h hpop hlen hl hb e1 e2
    generalize l.length = m at *
    go_enter Try.func80, Try.ntmps80
    go_wp2_with fail
    go_ret
    exact ⟨rfl, fin.out⟩

theorem word_raw {b g : Nat} {vb : Value} {S : Pg.Fs} (k i : Int) (w : World) (h : FrRaw w b g vb S) (ok : S.Ok) :
    Calls Try.prog 81 #[.pointer (some ⟨b, 0, none⟩), .int .i64 k, .int .i64 i] w fun e w' => e = .returned (.pointer (bif S.at' k i then some ⟨g, k.toNat * 9 + 1 + i.toNat, none⟩ else none)) ∧ w' = w := by
  have HT := taken_raw k w h ok
  have hc0 := h.c0
  have hs := ok.small
  cases e1 : S.has k
  · have HA : Hid (S.at' k i = false) := by simp [Hid, Pg.Fs.at', e1]
    rw [HA.out]
    rw [e1] at HT
    clear e1 h
    go_enter Try.func81, Try.ntmps81
    go_wp2_with (go_at_call 42; refine HT.mono ?_; rintro e w' ⟨rfl, hw⟩; subst w')
    go_ret
    exact ⟨rfl, rfl⟩
  · rw [e1] at HT
    by_cases h0 : 0 ≤ i
    · by_cases h8 : i < 8
      · have HA : Hid (S.at' k i = true) := by simp [Hid, Pg.Fs.at', e1, h0, h8]
        rw [HA.out]
        obtain ⟨k0, k1, _⟩ := ok.has_lt e1
        obtain ⟨a, rfl⟩ := Int.eq_ofNat_of_zero_le k0
        obtain ⟨c, rfl⟩ := Int.eq_ofNat_of_zero_le h0
        have i0 : (0 : Int) ≤ (a : Int) := by omega
        have i1 : (a : Int) < (S.n : Int) := by omega
        have hl : ¬ (c : Int) < 0 := by omega
        have hl8 : ¬ (8 : Int) ≤ (c : Int) := by omega
        clear e1 h
        go_enter Try.func81, Try.ntmps81
        go_wp2_with (go_at_call 42; refine HT.mono ?_; rintro e w' ⟨rfl, hw⟩; subst w')
        go_ret
        exact ⟨rfl, rfl⟩
      · have HA : Hid (S.at' k i = false) := by simp [Hid, Pg.Fs.at', h8]
        rw [HA.out]
        have hl : ¬ i < 0 := by omega
        have hl8 : (8 : Int) ≤ i := by omega
        clear e1 h
        go_enter Try.func81, Try.ntmps81
        go_wp2_with (go_at_call 42; refine HT.mono ?_; rintro e w' ⟨rfl, hw⟩; subst w')
        go_ret
        exact ⟨rfl, rfl⟩
    · have HA : Hid (S.at' k i = false) := by simp [Hid, Pg.Fs.at', h0]
      rw [HA.out]
      have hl : i < 0 := by omega
      clear e1 h
      go_enter Try.func81, Try.ntmps81
      go_wp2_with (go_at_call 42; refine HT.mono ?_; rintro e w' ⟨rfl, hw⟩; subst w')
      go_ret
      exact ⟨rfl, rfl⟩
end Go.Proofs.Ytbkpndgadgafiac
