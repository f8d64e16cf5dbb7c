
/-
  What the library's search comes to, and the developers' searches that are handed how to look.
-/
import Derived.Test.YtkcmlmofcjdgoabBookLib
import Derived.Test.YtkcmlmofcjdgoabPageB
import Derived.Deep.LoopGhost
namespace Go.Proofs.Ytkcmlmofcjdgoab
open Go.RowKit Go.Sort
set_option linter.unusedVariables false
set_option maxRecDepth 100000

set_option maxHeartbeats 4000000 in
/-- The library's search: k places are ahead of what is sought, and what is behind them is not. -/
theorem find_any (g : FuncId) (cb : Array Value) (n k : Nat) (c : Nat → Int) (w : World) (eg : ∀ args w, (callFunc g args).run Try.prog w = .ok (.enter g args) w) (hn : n ≤ 4096) (hk : k ≤ n)
    (h1 : ∀ t, t < k → 0 < c t) (h2 : ∀ t, k ≤ t → t < n → c t ≤ 0)
    (hf : ∀ (i : Nat) (w' : World), i < n → Below w.heap.size w w' → Calls Try.prog g (#[.int .i64 i] ++ cb) w' fun e w'' => e = .returned (.int .i64 (c i)) ∧ Below w'.heap.size w' w'') :
    Calls Try.prog 84 #[.int .i64 n, .func (.func g) #[] cb] w fun e w' => e = .returned (.tuple #[.int .i64 k, .bool (decide (k < n) && (c k == 0))]) ∧ Below w.heap.size w w' := by
  have HF : Hid _ := hf
  have H1 : Hid _ := h1
  have H2 : Hid _ := h2
  clear hf h1 h2
  go_enter Try.func84, Try.ntmps84
  go_wp2_with fail
  go_loopg [4, 6] n (fun kx s4 s6 wr => ∃ lo hi : Nat, s4 = .int .i64 lo ∧ s6 = .int .i64 hi ∧ lo ≤ k ∧ k ≤ hi ∧ hi ≤ n ∧ hi - lo ≤ kx ∧ Hid (Below w.heap.size w wr))
  case atStart => exact ⟨0, n, rfl, rfl, Nat.zero_le _, hk, Nat.le_refl _, by omega, brefl w⟩
  case round =>
    obtain ⟨lo, hi, rfl, rfl, hlk, hkh, hhn, hm, HB⟩ := hrel
    by_cases hlt : lo < hi
    · have hc := HF.out ((lo + hi) / 2) wr (by omega) HB.out
      rw [show (((lo + hi) / 2 : Nat) : Int) = ((lo : Int) + (hi : Int)) / 2 by omega] at hc
      have h3 := H1.out ((lo + hi) / 2)
      have h4 := H2.out ((lo + hi) / 2)
      generalize c ((lo + hi) / 2) = x at *
      by_cases hx : 0 < x
      · have hlt2 : (lo + hi) / 2 < k := by omega
        clear h3 h4
        go_wp2_with (go_at_fn g; refine hc.mono ?_; rintro e w' ⟨rfl, hb⟩)
        go_roundg (hi - ((lo + hi) / 2 + 1))
        case measure => omega
        case rel => exact ⟨(lo + hi) / 2 + 1, hi, by rw [show ((lo : Int) + (hi : Int)) / 2 + 1 = (((lo + hi) / 2 + 1 : Nat) : Int) by omega], rfl, by omega, hkh, hhn, Nat.le_refl _, bthen HB.out hb⟩
      · have hle : k ≤ (lo + hi) / 2 := by omega
        clear h3 h4
        go_wp2_with (go_at_fn g; refine hc.mono ?_; rintro e w' ⟨rfl, hb⟩)
        go_roundg ((lo + hi) / 2 - lo)
        case measure => omega
        case rel => exact ⟨lo, (lo + hi) / 2, rfl, by rw [show ((lo : Int) + (hi : Int)) / 2 = (((lo + hi) / 2 : Nat) : Int) by omega], hlk, hle, by omega, Nat.le_refl _, bthen HB.out hb⟩
    · have e1 : lo = k := by omega
      have e2 : hi = k := by omega
      subst e1 e2
      by_cases hkn : hi < n
      · have hc := HF.out hi wr hkn HB.out
        have HE : Hid (decide (hi < n) = true) := by simp [Hid, hkn]
        go_wp2_with (go_at_fn g; refine hc.mono ?_; rintro e w' ⟨rfl, hb⟩)
        go_ret2
        exact ⟨by rw [HE.out]; rfl, bthen HB.out hb⟩
      · have HE : Hid (decide (hi < n) = false) := by simp [Hid, hkn]
        go_wp2_with fail
        go_ret2
        exact ⟨by rw [HE.out]; rfl, HB.out⟩

theorem enters_search1 : ∀ args w, (callFunc 85 args).run Try.prog w = .ok (.enter 85 args) w := fun args w => by simp [go_sem]

/-- A book of the mappings L lies at b: its row is vb. -/
structure Dbk (w : World) (b : Nat) (vb : Value) (L : List Pg.Mp) : Prop where
  c0 : w.cell? ⟨b, 0, none⟩ = some vb
  fb : ∀ o, w.frozen? ⟨b, o, none⟩ = false
  row : w.ownsRow 0 62 4 vb L.length (mpCells L)
  nb : vb.ownBlock ≠ some b
  good : Pg.Good L
namespace Dbk
variable {w w' : World} {b : Nat} {vb vb' : Value} {L L' : List Pg.Mp}
theorem lb (h : Dbk w b vb L) : b < w.heap.size := World.block_lt_of_cell? _ _ h.c0
theorem lt (h : Dbk w b vb L) {k : Nat} (hk : bkF b vb k) : k < w.heap.size := by
  rcases hk with rfl | hk
  · exact h.lb
  · exact (h.row.lt k hk).2
theorem keep (h : Dbk w b vb L) {F : Nat → Prop} (hb : But F w w') (hF : ∀ k, bkF b vb k → ¬ F k) : Dbk w' b vb L := by
  have kb := hb.block b h.lb (hF b (.inl rfl))
  exact ⟨(World.cell?_of_block kb).trans h.c0, fun o => (World.frozen?_of_block kb).trans (h.fb o), ownsMaps_but h.row hb fun k hk => hF k (.inr hk), h.nb, h.good⟩
theorem grow (h : Dbk w b vb L) (hb : Below w.heap.size w w') : Dbk w' b vb L := h.keep (F := fun _ => False) (But.of_below hb) (fun _ _ => id)
/-- The mapping at a place. -/
theorem mp (h : Dbk w b vb L) {j : Nat} (hj : j < L.length) : ∃ g cap, vb = .slice (some ⟨g, 0, none⟩) L.length cap ∧ g < w.heap.size ∧ MpAt w g (j * 4) (L.getD j .zz) := by
  obtain ⟨g, cap, rfl, _, hg⟩ := h.row.form (by omega)
  obtain ⟨g', e, _, hm⟩ := owns_mapsAt h.row j hj
  cases e
  exact ⟨g, cap, rfl, hg, hm⟩
end Dbk

set_option maxHeartbeats 4000000 in
/-- One look of a search: the mapping at the place is looked at as it was handed in. -/
theorem search1_any {b bl bb : Nat} {vb : Value} {L : List Pg.Mp} (f : FuncId) (cb : Array Value) (lk : Pg.Mp → Int) (j : Nat) (w : World) (hD : Dbk w b vb L) (hj : j < L.length)
    (hl : w.cell? ⟨bl, 0, none⟩ = some (.func (.func f) #[] cb)) (hb : w.cell? ⟨bb, 0, none⟩ = some (.pointer (some ⟨b, 0, none⟩))) (ef : ∀ args w, (callFunc f args).run Try.prog w = .ok (.enter f args) w)
    (hf : ∀ (m : Pg.Mp) (w' : World), Pg.fits m.p → Below w.heap.size w w' → Calls Try.prog f (#[m.val] ++ cb) w' fun e w'' => e = .returned (.int .i64 (lk m)) ∧ Below w'.heap.size w' w'') :
    Calls Try.prog 85 #[.int .i64 j, .pointer (some ⟨bl, 0, none⟩), .pointer (some ⟨bb, 0, none⟩)] w fun e w' => e = .returned (.int .i64 (lk (L.getD j .zz))) ∧ Below w.heap.size w w' := by
  obtain ⟨g, cap, rfl, hg, hm0, hm1, hm2, hm3⟩ := hD.mp hj
  have hc0 := hD.c0
  have hlen := hD.good.len
  have hfit := (Pg.ok_fits (hD.good.at hj)).2.2.1
  have i0 : (0 : Int) ≤ (j : Int) := by omega
  have i1 : (j : Int) < (L.length : Int) := by omega
  have HF : Hid _ := fun w' hb => hf (L.getD j .zz) w' hfit hb
  clear hf hD
  generalize L.getD j .zz = m at *
  generalize L.length = n at *
  have hcall : ∀ d os, Calls Try.prog f (#[m.val] ++ cb) (grow (redrawn w d) os) fun e w'' => e = .returned (.int .i64 (lk m)) ∧ Below (grow (redrawn w d) os).heap.size (grow (redrawn w d) os) w'' := fun d os => HF.out _ (below_regrown w d os)
  obtain ⟨mp, ms, mf, mr⟩ := m
  simp only [Pg.Mp.val] at hcall
  simp only at hm0 hm1 hm2 hm3
  generalize lk ⟨mp, ms, mf, mr⟩ = x at *
  have C0 := cell_regrown hc0
  have C1 := cell_regrown hl
  have C2 := cell_regrown hb
  have M0 := cell_regrown hm0
  have M1 := cell_regrown hm1
  have M2 := cell_regrown hm2
  have M3 := cell_regrown hm3
  clear hc0 hl hb hm0 hm1 hm2 hm3
  go_enter Try.func85, Try.ntmps85
  go_wp2_with fail
  refine wp_region_quiet_below (by kernel_rfl) (by kernel_rfl) ?_
  repeat' (first
    | go_big_quiet_step ((go_at_fn f; exact Calls.regrown_of (hcall _ _))))
  refine wpQuiet_nil ?_
  intro _ hw'
  obtain ⟨⟨dq, osq⟩, rfl⟩ := hw'
  go_wp2_with fail
  go_ret
  exact ⟨rfl, below_regrown w dq osq⟩

set_option maxHeartbeats 4000000 in
/-- A search of a book, by a look that is handed in: k mappings are ahead of what is sought, and those behind them are not. -/
theorem search_any {b : Nat} {vb : Value} {L : List Pg.Mp} (f : FuncId) (cb : Array Value) (lk : Pg.Mp → Int) (w : World) (hD : Dbk w b vb L) (hfall : Pg.Falls L lk) (ef : ∀ args w, (callFunc f args).run Try.prog w = .ok (.enter f args) w)
    (hf : ∀ (m : Pg.Mp) (w' : World), Pg.fits m.p → Below w.heap.size w w' → Calls Try.prog f (#[m.val] ++ cb) w' fun e w'' => e = .returned (.int .i64 (lk m)) ∧ Below w'.heap.size w' w'') :
    Calls Try.prog 74 #[.pointer (some ⟨b, 0, none⟩), .func (.func f) #[] cb] w fun e w' => e = .returned (.tuple #[.int .i64 (Pg.cut L lk), .bool (Pg.hit L lk)]) ∧ Below w.heap.size w w' := by
  have hc0 := hD.c0
  have hlb := hD.lb
  have hlen := hD.good.len
  obtain ⟨ad, cap, rfl⟩ := ownsMaps_form hD.row
  obtain ⟨W, hW⟩ : ∃ W, W = (w.alloc (.cells #[.pointer (some ⟨b, 0, none⟩)] 55)).alloc (.cells #[.func (.func f) #[] cb] 68) := ⟨_, rfl⟩
  have hB : Below w.heap.size w W := by rw [hW]; exact balloc (balloc (brefl _) _) _
  have k0 : W.cell? ⟨b, 0, none⟩ = some (.slice ad L.length cap) := (hB.cell (p := ⟨b, 0, none⟩) hlb).trans hc0
  have k1 : W.cell? ⟨w.heap.size, 0, none⟩ = some (.pointer (some ⟨b, 0, none⟩)) := by rw [hW]; simp [go_sem]
  have k2 : W.cell? ⟨w.heap.size + 1, 0, none⟩ = some (.func (.func f) #[] cb) := by rw [hW]; simp [go_sem]
  have hDW := hD.grow hB
  have HS : Hid _ := find_any 85 #[.pointer (some ⟨w.heap.size + 1, 0, none⟩), .pointer (some ⟨w.heap.size, 0, none⟩)] L.length (Pg.cut L lk) (fun j => lk (L.getD j .zz)) W enters_search1 hlen (Pg.cut_le _ _) (fun t ht => Pg.cut_ahead ht) (fun t h1 h2 => Pg.cut_behind hfall h1 h2)
    (fun i w' hi hb => search1_any f cb lk i w' (hDW.grow hb) hi (cell_later hb k2) (cell_later hb k1) ef (fun m w'' hm hb' => hf m w'' hm (bthen (bthen hB hb) hb')))
  have HB : Hid _ := hB
  clear hf hfall hD hDW hB k0 k1 k2
  go_enter Try.func74, Try.ntmps74
  go_wp2_with fail
  rw [← hW]
  refine Calls.mono HS.out ?_
  rintro e w1 ⟨rfl, hb1⟩
  go_wp2_with fail
  go_ret2
  exact ⟨rfl, bthen HB.out hb1⟩

theorem having1_any {bq : Nat} (q : Int) (hq : Pg.fits q) (m : Pg.Mp) (hm : Pg.fits m.p) (w : World) (hc : w.cell? ⟨bq, 0, none⟩ = some (.int .i64 q)) :
    Calls Try.prog 80 #[m.val, .pointer (some ⟨bq, 0, none⟩)] w fun e w' => e = .returned (.int .i64 (Pg.lkP q m)) ∧ Below w.heap.size w w' := by
  obtain ⟨p, s, f, r⟩ := m
  have hbq := World.block_lt_of_cell? _ _ hc
  have HL : Hid (Pg.lkP q ⟨p, s, f, r⟩ = if Pg.over p s q = true then 0 else Pg.cmpI q p) := rfl
  simp only [Pg.Mp.val]
  cases h : Pg.over p s q
  · go_enter Try.func80, Try.ntmps80
    go_wp2_with fail
    refine (over_any _ _ _ _ _ hm hq _).mono ?_
    rintro e w1 ⟨rfl, hb1⟩
    rw [h]
    have hbx : Below w.heap.size w w1 := bthen (balloc (brefl _) _) hb1
    have c1 := cell_later hbx hc
    have c2 : w1.cell? ⟨w.heap.size, 0, none⟩ = some (.int .i64 p) := (hb1.cell (p := ⟨w.heap.size, 0, none⟩) (by simp)).trans (by simp [go_sem])
    have HB : Hid _ := hbx
    clear hb1 hbx
    go_wp2_with (go_at_call 77; refine (compare_any _ _ _).mono ?_; rintro e w' ⟨rfl, rfl⟩)
    go_ret
    exact ⟨ret_int (by rw [HL.out, h]; rfl), HB.out⟩
  · go_enter Try.func80, Try.ntmps80
    go_wp2_with fail
    refine (over_any _ _ _ _ _ hm hq _).mono ?_
    rintro e w1 ⟨rfl, hb1⟩
    rw [h]
    have HB : Hid (Below w.heap.size w w1) := bthen (balloc (brefl _) _) hb1
    clear hb1
    go_wp2_with fail
    go_ret
    exact ⟨ret_int (by rw [HL.out, h]; rfl), HB.out⟩

theorem meeting1_any {bm : Nat} (m x : Pg.Mp) (hm : Pg.fits m.p) (hx : Pg.fits x.p) (w : World) (hc : MpAt w bm 0 m) :
    Calls Try.prog 75 #[x.val, .pointer (some ⟨bm, 0, none⟩)] w fun e w' => e = .returned (.int .i64 (Pg.lkM m x)) ∧ Below w.heap.size w w' := by
  obtain ⟨p, s, f, r⟩ := x
  obtain ⟨p', s', f', r'⟩ := m
  obtain ⟨c0, c1, c2, c3⟩ := hc
  simp only [Nat.zero_add] at c0 c1 c2 c3
  have hbq := World.block_lt_of_cell? _ _ c0
  have HL : Hid (Pg.lkM ⟨p', s', f', r'⟩ ⟨p, s, f, r⟩ = if Pg.meet p s p' s' = true then 0 else Pg.cmpI p' p) := rfl
  simp only [Pg.Mp.val]
  cases h : Pg.meet p s p' s'
  · go_enter Try.func75, Try.ntmps75
    go_wp2_with fail
    refine (meet_any _ _ _ _ _ _ _ _ hx hm _).mono ?_
    rintro e w1 ⟨rfl, hb1⟩
    rw [h]
    have hbx : Below w.heap.size w w1 := bthen (balloc (brefl _) _) hb1
    have c1 := cell_later hbx c0
    have c2 : w1.cell? ⟨w.heap.size, 0, none⟩ = some (.int .i64 p) := (hb1.cell (p := ⟨w.heap.size, 0, none⟩) (by simp)).trans (by simp [go_sem])
    have HB : Hid _ := hbx
    clear hb1 hbx
    go_wp2_with (go_at_call 77; refine (compare_any _ _ _).mono ?_; rintro e w' ⟨rfl, rfl⟩)
    go_ret
    exact ⟨ret_int (by rw [HL.out, h]; rfl), HB.out⟩
  · go_enter Try.func75, Try.ntmps75
    go_wp2_with fail
    refine (meet_any _ _ _ _ _ _ _ _ hx hm _).mono ?_
    rintro e w1 ⟨rfl, hb1⟩
    rw [h]
    have HB : Hid (Below w.heap.size w w1) := bthen (balloc (brefl _) _) hb1
    clear hb1
    go_wp2_with fail
    go_ret
    exact ⟨ret_int (by rw [HL.out, h]; rfl), HB.out⟩

theorem having_any {b : Nat} {vb : Value} {L : List Pg.Mp} (q : Int) (hq : Pg.fits q) (w : World) (hD : Dbk w b vb L) :
    Calls Try.prog 57 #[.pointer (some ⟨b, 0, none⟩), .int .i64 q] w fun e w' => e = .returned (.tuple #[.int .i64 (Pg.cut L (Pg.lkP q)), .bool (Pg.hit L (Pg.lkP q))]) ∧ Below w.heap.size w w' := by
  obtain ⟨W, hW⟩ : ∃ W, W = w.alloc (.cells #[.int .i64 q] 3) := ⟨_, rfl⟩
  have hB : Below w.heap.size w W := by rw [hW]; exact balloc (brefl _) _
  have k1 : W.cell? ⟨w.heap.size, 0, none⟩ = some (.int .i64 q) := by rw [hW]; simp [go_sem]
  have HS : Hid _ := search_any 80 #[.pointer (some ⟨w.heap.size, 0, none⟩)] (Pg.lkP q) W (hD.grow hB) (hD.good.fallsP q) (fun args w => by simp [go_sem]) (fun m w' hm hb => having1_any q hq m hm w' (cell_later hb k1))
  have HB : Hid _ := hB
  clear hD hB k1
  go_enter Try.func57, Try.ntmps57
  go_wp2_with fail
  rw [← hW]
  refine Calls.mono HS.out ?_
  rintro e w1 ⟨rfl, hb1⟩
  go_wp2_with fail
  go_ret2
  exact ⟨rfl, bthen HB.out hb1⟩

theorem meeting_any {b : Nat} {vb : Value} {L : List Pg.Mp} (m : Pg.Mp) (hm : Pg.fits m.p) (w : World) (hD : Dbk w b vb L) :
    Calls Try.prog 54 #[.pointer (some ⟨b, 0, none⟩), m.val] w fun e w' => e = .returned (.tuple #[.int .i64 (Pg.cut L (Pg.lkM m)), .bool (Pg.hit L (Pg.lkM m))]) ∧ Below w.heap.size w w' := by
  obtain ⟨W, hW⟩ : ∃ W, W = w.alloc (.cells #[.int .i64 m.p, .int .i64 m.s, .int .i64 m.f, .int .i64 m.r] 62) := ⟨_, rfl⟩
  have hB : Below w.heap.size w W := by rw [hW]; exact balloc (brefl _) _
  have k1 : MpAt W w.heap.size 0 m := by rw [hW]; exact ⟨by simp [go_sem], by simp [go_sem], by simp [go_sem], by simp [go_sem]⟩
  have hlt : w.heap.size < W.heap.size := by rw [hW]; simp
  have HS : Hid _ := search_any 75 #[.pointer (some ⟨w.heap.size, 0, none⟩)] (Pg.lkM m) W (hD.grow hB) (hD.good.fallsM m) (fun args w => by simp [go_sem]) (fun x w' hx hb => meeting1_any m x hm hx w' (k1.below hb hlt))
  have HB : Hid _ := hB
  clear hD hB k1
  obtain ⟨mp, ms, mf, mr⟩ := m
  simp only [Pg.Mp.val]
  simp only at hW
  go_enter Try.func54, Try.ntmps54
  go_wp2_with fail
  rw [← hW]
  refine Calls.mono HS.out ?_
  rintro e w1 ⟨rfl, hb1⟩
  go_wp2_with fail
  go_ret2
  exact ⟨rfl, bthen HB.out hb1⟩
end Go.Proofs.Ytkcmlmofcjdgoab
