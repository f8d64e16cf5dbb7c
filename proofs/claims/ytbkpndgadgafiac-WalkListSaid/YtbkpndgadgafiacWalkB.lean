
/-
  The developers' search through tables, whatever it is handed where to look and whom to tell: it tells what there is to tell, in order, and its code.
-/
import Derived.Test.YtbkpndgadgafiacWalkA
namespace Go.Proofs.Ytbkpndgadgafiac
open Go.RowKit Go.Sort
set_option linter.unusedVariables false
set_option maxRecDepth 100000

def Pg.Sp.val (s : Pg.Sp) : Value := .agg #[.int .i64 s.table, .int .i64 (s.place : Int), .int .i64 (s.level : Int), .int .i64 (s.ahead : Int), .bool s.e.t, .bool s.e.l, .int .i64 s.e.r, .bool s.e.u, .bool s.e.d, .int .i64 s.e.f]

/-- What the one who is told keeps of what it was told: R X V w: it was told X, and keeps it in the blocks V. -/
structure Tells (b : Nat) (S : Pg.Fs) (F : Nat → Prop) (g h : FuncId) (ca cb : Array Value) (L : Nat → Nat → Bool) (R : List Pg.Sp → (Nat → Prop) → World → Prop) : Prop where
  eg : ∀ args w, (callFunc g args).run Try.prog w = .ok (.enter g args) w
  eh : ∀ args w, (callFunc h args).run Try.prog w = .ok (.enter h args) w
  fr : ∀ X V w, R X V w → FrAt w b S F
  lt : ∀ X V w, R X V w → ∀ k, V k → k < w.heap.size
  grow : ∀ X V w w', R X V w → Below w.heap.size w w' → R X V w'
  looks : ∀ (i lv : Nat) X V w, i < 8 → lv < 4 → R X V w → Calls Try.prog g (#[.int .i64 (i : Int), .int .i64 (lv : Int)] ++ ca) w fun e w' => e = .returned (.bool (L i lv)) ∧ Below w.heap.size w w'
  meets : ∀ (s : Pg.Sp) X V w, s.place < 8 → s.level < 4 → s.ahead < 4096 → X.length < 4680 → R X V w → Calls Try.prog h (#[s.val] ++ cb) w fun e w' => e = .returned (.tuple #[]) ∧ ∃ V', R (X ++ [s]) V' w' ∧ But V w w' ∧ ∀ k, V' k → V k ∨ w.heap.size ≤ k

/-- On the way through a table: the world, what was told, and the box bx of what it was handed. -/
structure Going (R : List Pg.Sp → (Nat → Prop) → World → Prop) (V : Nat → Prop) (w : World) (v0 v1 v2 : Value) (X : List Pg.Sp) (V' : Nat → Prop) (wr : World) : Prop where
  r : R X V' wr
  but : But V w wr
  new : ∀ k, V' k → V k ∨ w.heap.size < k
  c : wr.cell? ⟨w.heap.size, 0, none⟩ = some v0 ∧ wr.cell? ⟨w.heap.size, 1, none⟩ = some v1 ∧ wr.cell? ⟨w.heap.size, 2, none⟩ = some v2
namespace Going
variable {b : Nat} {S : Pg.Fs} {F : Nat → Prop} {g h : FuncId} {ca cb : Array Value} {L : Nat → Nat → Bool} {R : List Pg.Sp → (Nat → Prop) → World → Prop} {V V' V'' : Nat → Prop} {w wr wr' : World} {v0 v1 v2 : Value} {X X' : List Pg.Sp}
theorem grow (T : Tells b S F g h ca cb L R) (G : Going R V w v0 v1 v2 X V' wr) (hb : Below wr.heap.size wr wr') : Going R V w v0 v1 v2 X V' wr' :=
  ⟨T.grow _ _ _ _ G.r hb, G.but.trans (But.of_below (F := fun _ => False) hb) (fun _ _ h => h.elim), G.new, later3 hb G.c⟩
theorem lb (G : Going R V w v0 v1 v2 X V' wr) : w.heap.size < wr.heap.size := World.block_lt_of_cell? _ _ G.c.1
theorem step (hV : ∀ k, V k → k < w.heap.size) (G : Going R V w v0 v1 v2 X V' wr) (hr : R X' V'' wr') (hb : But V' wr wr') (hn : ∀ k, V'' k → V' k ∨ wr.heap.size ≤ k) : Going R V w v0 v1 v2 X' V'' wr' := by
  have hl := G.lb
  have hbx : ¬ V' w.heap.size := fun hk => by
    rcases G.new _ hk with h1 | h1
    · have := hV _ h1; omega
    · omega
  refine ⟨hr, G.but.trans hb (fun i hi hk => ?_), fun k hk => ?_, ?_, ?_, ?_⟩
  · rcases G.new i hk with h1 | h1
    · exact h1
    · omega
  · rcases hn k hk with h1 | h1
    · exact G.new k h1
    · exact .inr (by omega)
  · exact (hb.cell (a := ⟨w.heap.size, 0, none⟩) hl hbx).trans G.c.1
  · exact (hb.cell (a := ⟨w.heap.size, 1, none⟩) hl hbx).trans G.c.2.1
  · exact (hb.cell (a := ⟨w.heap.size, 2, none⟩) hl hbx).trans G.c.2.2
/-- A box that was laid just ahead of telling is as it was. -/
theorem box6 (T : Tells b S F g h ca cb L R) (G : Going R V w v0 v1 v2 X V' wr) {u0 u1 u2 u3 u4 u5 : Value} {ty : TypeId} (hb : But V' (wr.alloc (.cells #[u0, u1, u2, u3, u4, u5] ty)) wr') :
    wr'.cell? ⟨wr.heap.size, 0, none⟩ = some u0 ∧ wr'.cell? ⟨wr.heap.size, 1, none⟩ = some u1 ∧ wr'.cell? ⟨wr.heap.size, 2, none⟩ = some u2 ∧ wr'.cell? ⟨wr.heap.size, 3, none⟩ = some u3 ∧ wr'.cell? ⟨wr.heap.size, 4, none⟩ = some u4 ∧ wr'.cell? ⟨wr.heap.size, 5, none⟩ = some u5 := by
  have hn : ¬ V' wr.heap.size := fun hk => by have := T.lt _ _ _ G.r _ hk; omega
  have hk : ∀ o, wr'.cell? ⟨wr.heap.size, o, none⟩ = (wr.alloc (.cells #[u0, u1, u2, u3, u4, u5] ty)).cell? ⟨wr.heap.size, o, none⟩ := fun o => hb.cell (a := ⟨wr.heap.size, o, none⟩) (by simp) hn
  refine ⟨?_, ?_, ?_, ?_, ?_, ?_⟩ <;> rw [hk] <;> simp [go_sem]
theorem done (G : Going R V w v0 v1 v2 X' V' wr) {A : List Pg.Sp} (e : X ++ A = X') : ∃ V', R (X ++ A) V' wr ∧ But V w wr ∧ ∀ k, V' k → V k ∨ w.heap.size ≤ k :=
  ⟨V', e ▸ G.r, G.but, fun k hk => (G.new k hk).imp id Nat.le_of_lt⟩
end Going
theorem len_step {X : List Pg.Sp} {s : Pg.Sp} {j c : Nat} (hj : j < 8) (h : X.length + (8 - j) * (1 + c) ≤ 4680) : X.length < 4680 ∧ (X ++ [s]).length + (8 - (j + 1)) * (1 + c) + c ≤ 4680 ∧ (X ++ [s]).length + c ≤ 4680 := by
  have e : (8 - j) * (1 + c) = (8 - (j + 1)) * (1 + c) + (1 + c) := by
    rw [show 8 - j = (8 - (j + 1)) + 1 by omega, Nat.add_mul, Nat.one_mul]
  rw [e] at h
  rw [List.length_append, List.length_singleton]
  generalize (8 - (j + 1)) * (1 + c) = x at *
  omega

theorem scan_step {S : Pg.Fs} {L : Nat → Nat → Bool} {lv : Nat} {rec : Int → Nat → List Pg.Sp × Int} {t : Int} {a j : Nat} (hj : j < 8) :
    Pg.scan S L lv rec t a (8 - j) j = if (Pg.out S L lv rec t a j).2 ≠ 0 then Pg.out S L lv rec t a j
      else ((Pg.out S L lv rec t a j).1 ++ (Pg.scan S L lv rec t a (8 - (j + 1)) (j + 1)).1, (Pg.scan S L lv rec t a (8 - (j + 1)) (j + 1)).2) := by
  have e : 8 - j = (8 - (j + 1)) + 1 := by omega
  rw [e]
  rfl

set_option maxHeartbeats 4000000 in
theorem through_any {b : Nat} {S : Pg.Fs} {F : Nat → Prop} {g h : FuncId} {ca cb : Array Value} {L : Nat → Nat → Bool} {R : List Pg.Sp → (Nat → Prop) → World → Prop} (T : Tells b S F g h ca cb L R) :
    ∀ (lv : Nat), lv < 4 → ∀ (t : Int) (a : Nat) (X : List Pg.Sp) (V : Nat → Prop) (w : World), a + 8 ≤ 8 ^ (4 - lv) → X.length + Pg.cnt' (lv + 1) ≤ 4680 → R X V w →
      Calls Try.prog 83 #[.agg #[.pointer (some ⟨b, 0, none⟩), .func (.func g) #[] ca, .func (.func h) #[] cb], .int .i64 t, .int .i64 (lv : Int), .int .i64 (a : Int)] w fun e w' =>
        e = .returned (.int .i64 (Pg.thr S L lv t a).2) ∧ ∃ V', R (X ++ (Pg.thr S L lv t a).1) V' w' ∧ But V w w' ∧ ∀ k, V' k → V k ∨ w.heap.size ≤ k := by
  intro lv
  induction lv using Nat.strongRecOn with
  | _ lv IH =>
  intro hlv t a X V w ha hX hR
  have hV := T.lt _ _ _ hR
  rw [Pg.thr_eq]
  have ha' : a + 8 ≤ 4096 := Nat.le_trans ha (by have := Nat.pow_le_pow_right (n := 8) (by decide) (show 4 - lv ≤ 4 by omega); simpa using this)
  have HI : Hid _ := IH
  have HT : Hid _ := T
  have HV : Hid _ := hV
  have HX : Hid _ := hX
  have HA : Hid _ := ha
  have HG : Hid (Going R V w (.pointer (some ⟨b, 0, none⟩)) (.func (.func g) #[] ca) (.func (.func h) #[] cb) X V (w.alloc (.cells #[.pointer (some ⟨b, 0, none⟩), .func (.func g) #[] ca, .func (.func h) #[] cb] 105))) :=
    ⟨T.grow _ _ _ _ hR (balloc (brefl w) _), But.of_below (balloc (brefl w) _), fun k hk => .inl hk, by simp [go_sem], by simp [go_sem], by simp [go_sem]⟩
  clear IH T hV hX ha hR
  go_enter Try.func83, Try.ntmps83
  go_wp2_with fail
  go_loopw [13] (fun i wr => ∃ (j : Nat) (X' : List Pg.Sp) (V' : Nat → Prop), j ≤ 8 ∧ i = .int .i64 j ∧ Hid (Going R V w (.pointer (some ⟨b, 0, none⟩)) (.func (.func g) #[] ca) (.func (.func h) #[] cb) X' V' wr ∧ X ++ (Pg.scan S L lv (Pg.sub S L lv) t a 8 0).1 = X' ++ (Pg.scan S L lv (Pg.sub S L lv) t a (8 - j) j).1 ∧ (Pg.scan S L lv (Pg.sub S L lv) t a 8 0).2 = (Pg.scan S L lv (Pg.sub S L lv) t a (8 - j) j).2 ∧ X'.length + (8 - j) * (1 + Pg.cnt' lv) ≤ 4680)) (fun i _ => 8 - (intOf i).toNat)
  case atStart => exact ⟨0, X, V, by omega, rfl, HG.out, rfl, rfl, HX.out⟩
  case round =>
    obtain ⟨j, X', V', hj, rfl, HR⟩ := hrel
    clear HG
    have hc := HR.out.1.c
    obtain ⟨c0, c1, c2⟩ := hc
    by_cases hlt : j < 8
    · have hst := scan_step (S := S) (L := L) (lv := lv) (rec := Pg.sub S L lv) (t := t) (a := a) hlt
      have eg := HT.out.eg
      have eh := HT.out.eh
      have hlI : (j : Int) < 8 := by omega
      cases hL : L j lv
      · have HL := HT.out.looks j lv X' V' wr hlt hlv HR.out.1.r
        rw [hL] at HL
        have ho : Pg.out S L lv (Pg.sub S L lv) t a j = ([], 0) := by simp [Pg.out, hL]
        have HS : Hid (Pg.scan S L lv (Pg.sub S L lv) t a (8 - j) j = Pg.scan S L lv (Pg.sub S L lv) t a (8 - (j + 1)) (j + 1)) := by
          rw [Hid, hst, ho]
          simp
        clear hst ho hL
        go_wp2_with fail
        refine HL.mono ?_
        rintro e w1 ⟨rfl, hb1⟩
        have G1 : Hid _ := HR.out.1.grow HT.out hb1
        clear hb1
        go_wp2_with fail
        obtain ⟨_, h1, h2, h3⟩ := HR.out
        rw [HS.out] at h1 h2
        refine ⟨⟨j + 1, X', V', by omega, by go_num, G1.out, h1, h2, ?_⟩, ?_⟩
        · have : (8 - (j + 1)) * (1 + Pg.cnt' lv) ≤ (8 - j) * (1 + Pg.cnt' lv) := Nat.mul_le_mul_right _ (by omega)
          omega
        · simp [intOf]; omega
      · have HL := HT.out.looks j lv X' V' wr hlt hlv HR.out.1.r
        rw [hL] at HL
        have HD := fun w => wRead_any (b := b) (S := S) (F := F) t j lv hlt w
        have HE : Hid (Pg.spt S t j lv a = ⟨t, j, lv, a + j, Pg.rEn S t j lv⟩) := rfl
        have HO : Hid _ := @Pg.rEn_on S t j lv
        by_cases hcd : Pg.rCode S t j lv = 0
        · cases hon : (Pg.rEn S t j lv).on
          · have ho : Pg.out S L lv (Pg.sub S L lv) t a j = ([Pg.spt S t j lv a], 0) := by simp [Pg.out, hL, hcd, hon]
            have HS : Hid (Pg.scan S L lv (Pg.sub S L lv) t a (8 - j) j = (Pg.spt S t j lv a :: (Pg.scan S L lv (Pg.sub S L lv) t a (8 - (j + 1)) (j + 1)).1, (Pg.scan S L lv (Pg.sub S L lv) t a (8 - (j + 1)) (j + 1)).2)) := by
              rw [Hid, hst, ho]
              simp
            rw [hcd] at HD
            clear hst ho hL hcd HO
            generalize Pg.rEn S t j lv = E at *
            generalize Pg.spt S t j lv a = sp at *
            have HLe := leadsOn_any E
            rw [hon] at HLe
            have HM := HT.out.meets sp
            rw [HE.out] at HM
            obtain ⟨et, el, er, eu, ed, ef⟩ := E
            simp only [Pg.Sp.val, Pg.En.val, Int.natCast_add] at HM HLe HD
            clear hon
            go_wp2_with fail
            refine HL.mono ?_
            rintro e w1 ⟨rfl, hb1⟩
            have G1 : Hid _ := HR.out.1.grow HT.out hb1
            clear hb1 HL c0 c1 c2
            obtain ⟨c0, c1, c2⟩ := G1.out.c
            go_wp2_with fail
            refine (HD _ (HT.out.fr _ _ _ G1.out.r)).mono ?_
            rintro e w2 ⟨rfl, hb2⟩
            have G2 : Hid _ := G1.out.grow HT.out hb2
            clear hb2 HD c0 c1 c2 G1
            obtain ⟨c0, c1, c2⟩ := G2.out.c
            have hl2 := G2.out.lb
            go_wp2_with fail
            refine (HM X' V' _ hlt hlv (show a + j < 4096 by omega) ?_ (G2.out.grow HT.out (balloc (brefl w2) _)).r).mono ?_
            · exact (len_step (s := sp) hlt HR.out.2.2.2).1
            rintro e w4 ⟨rfl, V4, hr4, hb4, hn4⟩
            have G4 : Hid _ := (G2.out.grow HT.out (balloc (brefl w2) _)).step HV.out hr4 hb4 hn4
            obtain ⟨x0, x1, x2, x3, x4, x5⟩ := G2.out.box6 HT.out hb4
            clear c0 c1 c2 hr4 hb4 hn4 HM
            go_wp2_with fail
            refine (HLe _).mono ?_
            rintro e w5 ⟨rfl, hb5⟩
            have G5 : Hid _ := G4.out.grow HT.out hb5
            clear hb5 x0 x1 x2 x3 x4 x5 HLe
            go_wp2_with fail
            obtain ⟨_, h1, h2, h3⟩ := HR.out
            rw [HS.out] at h1 h2
            refine ⟨⟨j + 1, X' ++ [sp], V4, by omega, by go_num, by rw [HE.out]; exact G5.out, by simpa using h1, h2, ?_⟩, ?_⟩
            · have := (len_step (s := sp) hlt HR.out.2.2.2).2.1
              omega
            · simp [intOf]; omega
          · obtain ⟨m, hm⟩ := HO.out hon
            have hsub : Pg.sub S L lv = Pg.thr S L m := by rw [hm]; rfl
            have ho : Pg.out S L lv (Pg.sub S L lv) t a j = (Pg.spt S t j lv a :: (Pg.thr S L m (Pg.rEn S t j lv).f ((a + j) * 8)).1, (Pg.thr S L m (Pg.rEn S t j lv).f ((a + j) * 8)).2) := by simp [Pg.out, hL, hcd, hon, hsub]
            rw [ho] at hst
            rw [hcd] at HD
            have HM1 : Hid (lv = m + 1) := hm
            have hlm : (lv : Int) - 1 = (m : Int) := by omega
            have hlm1 : (1 : Int) ≤ (lv : Int) := by omega
            clear ho hL hcd HO hm hsub
            generalize Pg.rEn S t j lv = E at *
            generalize Pg.spt S t j lv a = sp at *
            have HLe := leadsOn_any E
            rw [hon] at HLe
            have HM := HT.out.meets sp
            rw [HE.out] at HM
            obtain ⟨et, el, er, eu, ed, ef⟩ := E
            simp only [Pg.Sp.val, Pg.En.val, Int.natCast_add] at HM HLe HD
            simp only at hst
            clear hon
            have HI2 := HI.out m (by have := HM1.out; omega) (by have := HM1.out; omega) ef ((a + j) * 8) (X' ++ [sp])
            have HTL := Pg.thr_len S L m ef ((a + j) * 8)
            generalize hth : Pg.thr S L m ef ((a + j) * 8) = th at *
            have HST : Hid _ := hst
            have HLN : Hid (th.1.length ≤ Pg.cnt' lv) := by
              have := HM1.out
              rw [Hid, this]; exact HTL
            clear hst HTL hth
            simp only [Int.natCast_mul, Int.natCast_add] at HI2
            go_wp2_with fail
            refine HL.mono ?_
            rintro e w1 ⟨rfl, hb1⟩
            have G1 : Hid _ := HR.out.1.grow HT.out hb1
            clear hb1 HL c0 c1 c2
            obtain ⟨c0, c1, c2⟩ := G1.out.c
            go_wp2_with fail
            refine (HD _ (HT.out.fr _ _ _ G1.out.r)).mono ?_
            rintro e w2 ⟨rfl, hb2⟩
            have G2 : Hid _ := G1.out.grow HT.out hb2
            clear hb2 HD c0 c1 c2 G1
            obtain ⟨c0, c1, c2⟩ := G2.out.c
            have hl2 := G2.out.lb
            go_wp2_with fail
            refine (HM X' V' _ hlt hlv (show a + j < 4096 by omega) ?_ (G2.out.grow HT.out (balloc (brefl w2) _)).r).mono ?_
            · exact (len_step (s := sp) hlt HR.out.2.2.2).1
            rintro e w4 ⟨rfl, V4, hr4, hb4, hn4⟩
            have G4 : Hid _ := (G2.out.grow HT.out (balloc (brefl w2) _)).step HV.out hr4 hb4 hn4
            have X4 : Hid _ := G2.out.box6 HT.out hb4
            obtain ⟨x0, x1, x2, x3, x4, x5⟩ := X4.out
            clear c0 c1 c2 hr4 hb4 hn4 HM
            go_wp2_with fail
            refine (HLe _).mono ?_
            rintro e w5 ⟨rfl, hb5⟩
            have G5 : Hid _ := G4.out.grow HT.out hb5
            have y5 := (later6 hb5 X4.out).2.2.2.2.2
            clear hb5 x0 x1 x2 x3 x4 x5 HLe X4
            obtain ⟨c0, c1, c2⟩ := G5.out.c
            go_wp2_with fail
            refine (HI2 V4 w5 ?_ ?_ (by rw [HE.out]; exact G5.out.r)).mono ?_
            · have := HA.out
              have := HM1.out
              rw [show 4 - m = (4 - lv) + 1 by omega, Nat.pow_succ]
              omega
            · have := (len_step (s := sp) hlt HR.out.2.2.2).2.2
              rw [← HM1.out]
              exact this
            rintro e w6 ⟨rfl, V6, hr6, hb6, hn6⟩
            have G6 : Hid _ := G5.out.step HV.out hr6 hb6 hn6
            clear hr6 hb6 hn6 HI2 c0 c1 c2
            by_cases hc : th.2 = 0
            · have hcb : (th.2 != 0) = false := by simp [hc]
              go_wp2_with fail
              obtain ⟨_, h1, h2, h3⟩ := HR.out
              rw [HST.out, if_neg (by simpa using hc)] at h1 h2
              refine ⟨⟨j + 1, X' ++ [sp] ++ th.1, V6, by omega, by go_num, G6.out, by simpa using h1, h2, ?_⟩, ?_⟩
              · have := (len_step (s := sp) hlt HR.out.2.2.2).2.1
                have := HLN.out
                rw [List.length_append]
                omega
              · simp [intOf]; omega
            · have hcb : (th.2 != 0) = true := by simp [hc]
              go_wp2_with fail
              go_ret
              obtain ⟨_, h1, h2, h3⟩ := HR.out
              rw [HST.out, if_pos (by simpa using hc)] at h1 h2
              exact ⟨ret_int h2.symm, G6.out.done (by simpa using h1)⟩
        · have ho : Pg.out S L lv (Pg.sub S L lv) t a j = ([], Pg.rCode S t j lv) := by simp [Pg.out, hL, hcd]
          rw [ho] at hst
          have HST : Hid _ := hst
          have hcb : (Pg.rCode S t j lv != 0) = true := by simp [hcd]
          have HC : Hid _ := hcd
          clear hst ho hL HO HE hcd
          generalize Pg.rEn S t j lv = E at *
          generalize Pg.rCode S t j lv = c at *
          obtain ⟨et, el, er, eu, ed, ef⟩ := E
          simp only [Pg.En.val] at HD
          go_wp2_with fail
          refine HL.mono ?_
          rintro e w1 ⟨rfl, hb1⟩
          have G1 : Hid _ := HR.out.1.grow HT.out hb1
          clear hb1 HL c0 c1 c2
          obtain ⟨c0, c1, c2⟩ := G1.out.c
          go_wp2_with fail
          refine (HD _ (HT.out.fr _ _ _ G1.out.r)).mono ?_
          rintro e w2 ⟨rfl, hb2⟩
          have G2 : Hid _ := G1.out.grow HT.out hb2
          clear hb2 HD c0 c1 c2 G1
          go_wp2_with fail
          go_ret
          obtain ⟨_, h1, h2, h3⟩ := HR.out
          rw [HST.out, if_pos (by simpa using HC.out)] at h1 h2
          exact ⟨ret_int h2.symm, (G2.out.grow HT.out (balloc (brefl w2) _)).done (by simpa using h1)⟩
    · have hj8 : j = 8 := by omega
      subst hj8
      have hlI : ¬ ((8 : Nat) : Int) < 8 := by omega
      go_wp2_with fail
      go_ret
      obtain ⟨G, h1, h2, h3⟩ := HR.out
      exact ⟨ret_int h2.symm, G.done (by simpa [Pg.scan] using h1)⟩

theorem from_any {b : Nat} {S : Pg.Fs} {F : Nat → Prop} {g h : FuncId} {ca cb : Array Value} {L : Nat → Nat → Bool} {R : List Pg.Sp → (Nat → Prop) → World → Prop} (T : Tells b S F g h ca cb L R) (t : Int) (V : Nat → Prop) (w : World) (hR : R [] V w) :
    Calls Try.prog 54 #[.agg #[.pointer (some ⟨b, 0, none⟩), .func (.func g) #[] ca, .func (.func h) #[] cb], .int .i64 t] w fun e w' =>
      e = .returned (.int .i64 (Pg.thr S L 3 t 0).2) ∧ ∃ V', R (Pg.thr S L 3 t 0).1 V' w' ∧ But V w w' ∧ ∀ k, V' k → V k ∨ w.heap.size ≤ k := by
  have HT : Hid _ := through_any T 3 (by omega) t 0 [] V _ (by decide) (by decide) (T.grow _ _ _ _ hR (balloc (brefl w) (.cells #[.pointer (some ⟨b, 0, none⟩), .func (.func g) #[] ca, .func (.func h) #[] cb] 105)))
  clear hR T
  go_enter Try.func54, Try.ntmps54
  go_wp2_with fail
  refine Calls.mono HT.out ?_
  rintro e w1 ⟨rfl, V', hr, hb, hn⟩
  have fin : Hid (∃ V', R (Pg.thr S L 3 t 0).1 V' w1 ∧ But V w w1 ∧ ∀ k, V' k → V k ∨ w.heap.size ≤ k) :=
    ⟨V', hr, ((But.refl V w).alloc _).trans hb (fun _ _ h => h), fun k hk => (hn k hk).imp id (fun h => by simp at h; omega)⟩
  clear hr hb hn
  go_wp2_with fail
  go_ret
  exact ⟨rfl, fin.out⟩
end Go.Proofs.Ytbkpndgadgafiac
