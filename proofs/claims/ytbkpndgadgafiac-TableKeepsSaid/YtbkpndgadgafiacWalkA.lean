
/-
  The developers' search through tables: what reading a place comes to, and what a search tells, whatever it is handed where to look and whom to tell.
-/
import Derived.Test.YtbkpndgadgafiacFrames
import Derived.Test.YtbkpndgadgafiacPageB
import Derived.Test.YtbkpndgadgafiacEntry
import Derived.Test.YtbkpndgadgafiacEntryB
import Derived.Test.YtbkpndgadgafiacPlainW
namespace Go.Proofs.Ytbkpndgadgafiac
open Go.RowKit Go.Sort
set_option linter.unusedVariables false
set_option maxRecDepth 100000

theorem leadsOn_any (e : Pg.En) (w : World) :
    Calls Try.prog 60 #[e.val] w fun x w' => x = .returned (.bool e.on) ∧ Below w.heap.size w w' := by
  obtain ⟨t, l, r, u, d, f⟩ := e
  simp only [Pg.En.val, Pg.En.on]
  cases t
  · go_enter Try.func60, Try.ntmps60
    go_wp2_with fail
    go_ret
    exact ⟨rfl, balloc (brefl w) _⟩
  · go_enter Try.func60, Try.ntmps60
    go_wp2_with fail
    go_ret
    exact ⟨rfl, balloc (brefl w) _⟩

theorem everywhere_any (i lv : Int) (w : World) :
    Calls Try.prog 56 #[.int .i64 i, .int .i64 lv] w fun x w' => x = .returned (.bool true) ∧ w' = w := by
  go_enter Try.func56, Try.ntmps56
  go_wp2_with fail
  go_ret
  exact ⟨rfl, rfl⟩

theorem wRead_any {b : Nat} {S : Pg.Fs} {F : Nat → Prop} (t : Int) (i lv : Nat) (hi : i < 8) (w : World) (h : FrAt w b S F) :
    Calls Try.prog 98 #[.pointer (some ⟨b, 0, none⟩), .int .i64 t, .int .i64 (i : Int), .int .i64 (lv : Int)] w fun x w' => x = .returned (.tuple #[(Pg.rEn S t i lv).val, .int .i64 (Pg.rCode S t i lv)]) ∧ Below w.heap.size w w' := by
  have hA : FrAt (w.alloc (.cells #[.bool false, .bool false, .int .i64 0, .bool false, .bool false, .int .i64 0] 29)) b S F := h.keep (F := F) (G := fun _ => False) (But.of_below (balloc (brefl w) _)) (fun _ _ => id)
  have HL := frLoad_same t (i : Int) _ hA
  have h0 := h.ok.low t.toNat i
  have h1 := h.ok.high t.toNat i
  cases hh : S.has t
  · have ha : S.at' t (i : Int) = false := by simp [Pg.Fs.at', hh]
    have e1 : Pg.rEn S t i lv = Pg.En.zero := by simp [Pg.rEn, hh]
    have e2 : Pg.rCode S t i lv = 12 := by simp [Pg.rCode, hh]
    rw [e1, e2]
    have e3 : S.load t (i : Int) = 0 := by simp [Pg.Fs.load, ha]
    rw [ha, e3] at HL
    clear h hA
    go_enter Try.func98, Try.ntmps98
    go_wp2_with fail
    refine HL.mono ?_
    rintro e w' ⟨rfl, hw⟩
    subst w'
    go_wp2_with fail
    refine bodyPost_ret (v := .tuple #[Pg.En.zero.val, .int .i64 12]) ?_ rfl ⟨rfl, ?_⟩
    · simp [results, Try.results98, go_sem, Pg.En.zero, Pg.En.val]
    · exact balloc (brefl w) _
  · have ha : S.at' t (i : Int) = true := by simp [Pg.Fs.at', hh]; omega
    have e1 : Pg.rEn S t i lv = Pg.En.of (S.word t.toNat i) lv := by simp [Pg.rEn, hh]
    have e2 : Pg.rCode S t i lv = Pg.dCode (S.word t.toNat i) lv := by simp [Pg.rCode, hh]
    have e3 : S.load t (i : Int) = S.word t.toNat i := by simp [Pg.Fs.load, ha]
    rw [e1, e2]
    rw [ha, e3] at HL
    clear h hA e1 e2 e3
    generalize S.word t.toNat i = W at *
    have HD := decode_any W (lv : Int) h0 h1
    rw [Pg.decV_of] at HD
    generalize Pg.En.of W (lv : Int) = e at *
    obtain ⟨t', l, r, u, d, f⟩ := e
    simp only [Pg.En.val] at HD ⊢
    generalize Pg.dCode W (lv : Int) = c at *
    go_enter Try.func98, Try.ntmps98
    go_wp2_with fail
    refine HL.mono ?_
    rintro e w' ⟨rfl, hw⟩
    subst w'
    go_wp2_with fail
    refine (HD _).mono ?_
    rintro e w1 ⟨rfl, hb1⟩
    have hB : Below w.heap.size w w1 := bthen (balloc (brefl w) _) hb1
    obtain ⟨hc1, hf1⟩ := bcell hb1
    go_wp2_with fail
    refine bodyPost_ret (v := .tuple #[.agg #[.bool t', .bool l, .int .i64 r, .bool u, .bool d, .int .i64 f], .int .i64 c]) ?_ rfl ⟨rfl, ?_⟩
    · simp [results, Try.results98, go_sem, hc1]
    · exact (((((hB.setCell (by simp) _).setCell (by simp) _).setCell (by simp) _).setCell (by simp) _).setCell (by simp) _).setCell (by simp) _
end Go.Proofs.Ytbkpndgadgafiac
