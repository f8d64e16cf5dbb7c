
/-
  The document's own mappings and tables from a table on.
-/
import Derived.Test.YtbkpndgadgafiacWalkC
import Derived.Test.YtbkpndgadgafiacMemRef
import Derived.Test.YtbkpndgadgafiacEntryRefC
namespace Go.Proofs.Ytbkpndgadgafiac
open Go.RowKit Go.Sort
set_option linter.unusedVariables false
set_option maxRecDepth 100000

theorem run_append_none {P : Program} (w : World) (t ty e : TypeId) (i : TypeInfo) (ht : P.underlying t = some (.slice e)) (hi : P.info? e = some i) (g n cap : Nat) (hn : n ≤ cap) :
    (Builtin.append_ #[t, t] ty #[.slice (some ⟨g, 0, none⟩) n cap, .slice none 0 0]).run P w = .ok (.slice (some ⟨g, 0, none⟩) n cap) w := by
  simp [Builtin.append_, run_underlying ht, sizeOf, typeInfo, hi, Builtin.lenOf, hn, run_firstCells_none, storeCells]
/-- Nothing is appended. -/
theorem wpList_append_none {P : Program} (w : World) {ops : Array Oper} {rest : List Oper} {o : Oper} {a : Act} {Q : Exit → Act → World → Prop} (hgd : o.guard = none) (d s : Operand) (t : TypeId)
    (ho : o.op = .call { callee := .builtin .append, args := #[d, s], argTypes := #[t, t] }) (e : TypeId) (i : TypeInfo) (ht : P.underlying t = some (.slice e)) (hi : P.info? e = some i) (g n cap : Nat) (hd : a.eval d = .slice (some ⟨g, 0, none⟩) n cap) (hs : a.eval s = .slice none 0 0) (hn : n ≤ cap)
    (h : wpList P ops Q rest (a.put o.dst (.slice (some ⟨g, 0, none⟩) n cap)) w) : wpList P ops Q (o :: rest) a w :=
  wpList_plain hgd fun _ hK => by
    unfold Oper.wp execOp
    simp only [ho, resolve, invoke, builtin, Sem.run_bind, Sem.run_pure, Result.andThen_ok, List.map_toArray, List.map_cons, List.map_nil, hd, hs, run_append_none w t o.type e i ht hi g n cap hn]
    exact hK _ _ h

namespace Pg
/-- The mappings and tables that are told: none where there is a code. -/
def mapsR (th : List Sp × Int) : List Mp := if th.2 = 0 then mapsOf th.1 else []
def tabsR (t : Int) (th : List Sp × Int) : List Int := if th.2 = 0 then t :: tabsOf th.1 else []
theorem leaf_map {S : Fs} (h : S.Ok) {t : Int} {i lv a : Nat} (hl : (rEn S t i lv).l = true) : (spt S t i lv a).mp = (rEn S t i lv).map lv (((a + i) * 8 ^ lv : Nat) : Int) := by
  obtain ⟨_, _, h2⟩ := rEn_leaf h hl
  have e : (((a + i) * 8 ^ lv : Nat) : Int) = ((a + i : Nat) : Int) * span (lv : Int) := by
    have : lv = 0 ∨ lv = 1 ∨ lv = 2 := by omega
    rcases this with rfl | rfl | rfl
    · simp [span]
    · simp [span]
    · simp [span]
  rw [e]
  rfl
theorem out_maps {S : Fs} {lv : Nat} {rec : Int → Nat → List Sp × Int} {t : Int} {a i : Nat} (hc : rCode S t i lv = 0) :
    ((rEn S t i lv).on = false → out S allW lv rec t a i = ([spt S t i lv a], 0)) ∧ ((rEn S t i lv).on = true → out S allW lv rec t a i = (spt S t i lv a :: (rec (rEn S t i lv).f ((a + i) * 8)).1, (rec (rEn S t i lv).f ((a + i) * 8)).2)) := by
  constructor <;> intro ho <;> simp [out, allW, hc, ho]
theorem out_bad {S : Fs} {lv : Nat} {rec : Int → Nat → List Sp × Int} {t : Int} {a i : Nat} (hc : rCode S t i lv ≠ 0) : out S allW lv rec t a i = ([], rCode S t i lv) := by simp [out, allW, hc]
theorem mapsOf_cons (s : Sp) (X : List Sp) : mapsOf (s :: X) = (if s.e.l = true then [s.mp] else []) ++ mapsOf X := by simp [mapsOf]
theorem tabsOf_cons (s : Sp) (X : List Sp) : tabsOf (s :: X) = (if s.e.on = true then [s.e.f] else []) ++ tabsOf X := by simp [tabsOf]
end Pg

/-- Rows of mappings and of tables, both behind B. -/
structure Rows2 (B : Nat) (M : List Pg.Mp) (T : List Int) (ad : Option Addr) (cap : Nat) (ad2 : Option Addr) (cap2 : Nat) (w : World) : Prop where
  m : w.ownsRow B 53 4 (.slice ad M.length cap) M.length (mpCells M)
  t : w.ownsRow B 3 1 (.slice ad2 T.length cap2) T.length (ints T)
  ne : ∀ k, (Value.slice ad M.length cap).ownBlock = some k → (Value.slice ad2 T.length cap2).ownBlock ≠ some k
  nil : M = [] → ad = none ∧ cap = 0
theorem Rows2.grow {B : Nat} {M : List Pg.Mp} {T : List Int} {ad ad2 : Option Addr} {cap cap2 : Nat} {w w' : World} (h : Rows2 B M T ad cap ad2 cap2 w) (hb : Below w.heap.size w w') : Rows2 B M T ad cap ad2 cap2 w' :=
  ⟨ownsMaps_below h.m hb, ownsMaps_below h.t hb, h.ne, h.nil⟩
theorem Rows2.mono {B B' : Nat} {M : List Pg.Mp} {T : List Int} {ad ad2 : Option Addr} {cap cap2 : Nat} {w : World} (h : Rows2 B M T ad cap ad2 cap2 w) (hB : B' ≤ B) : Rows2 B' M T ad cap ad2 cap2 w :=
  ⟨ownsMaps_mono h.m hB, ownsMaps_mono h.t hB, h.ne, h.nil⟩

/-- What 'below' leaves. -/
structure BelDone (w : World) (t : Int) (th : List Pg.Sp × Int) (e : Ending) (w' : World) : Prop where
  end' : ∃ ad cap ad2 cap2, e = .returned (.tuple #[.slice ad (Pg.mapsR th).length cap, .slice ad2 (Pg.tabsR t th).length cap2, .int .i64 th.2]) ∧ Rows2 w.heap.size (Pg.mapsR th) (Pg.tabsR t th) ad cap ad2 cap2 w'
  bel : Below w.heap.size w w'

theorem done_code {w w' : World} {t c : Int} {th : List Pg.Sp × Int} (h : th.2 = c) (hc : c ≠ 0) (hb : Below w.heap.size w w') : BelDone w t th (.returned (.tuple #[.slice none 0 0, .slice none 0 0, .int .i64 c])) w' := by
  have e1 : Pg.mapsR th = [] := by rw [Pg.mapsR, if_neg (by omega)]
  have e2 : Pg.tabsR t th = [] := by rw [Pg.tabsR, if_neg (by omega)]
  refine ⟨⟨none, 0, none, 0, ?_, ?_⟩, hb⟩
  · rw [e1, e2, h]; rfl
  · rw [e1, e2]
    exact ⟨World.ownsRow_nil _ _ _ _, World.ownsRow_nil _ _ _ _, fun k hk => by simp [Value.ownBlock] at hk, fun _ => ⟨rfl, rfl⟩⟩

/-- On the way through the places. -/
structure Going2 (w : World) (S : Pg.Fs) (lv : Nat) (t : Int) (a j : Nat) (M : List Pg.Mp) (T : List Int) (ad : Option Addr) (cap : Nat) (ad2 : Option Addr) (cap2 : Nat) (wr : World) : Prop where
  bel : Below w.heap.size w wr
  rows : Rows2 w.heap.size M T ad cap ad2 cap2 wr
  code : (Pg.thr S Pg.allW lv t a).2 = (Pg.scan S Pg.allW lv (Pg.sub S Pg.allW lv) t a (8 - j) j).2
  maps : (Pg.thr S Pg.allW lv t a).2 = 0 → Pg.mapsOf (Pg.thr S Pg.allW lv t a).1 = M ++ Pg.mapsOf (Pg.scan S Pg.allW lv (Pg.sub S Pg.allW lv) t a (8 - j) j).1
  tabs : (Pg.thr S Pg.allW lv t a).2 = 0 → t :: Pg.tabsOf (Pg.thr S Pg.allW lv t a).1 = T ++ Pg.tabsOf (Pg.scan S Pg.allW lv (Pg.sub S Pg.allW lv) t a (8 - j) j).1
  len : M.length + (8 - j) * (1 + Pg.cnt' lv) ≤ 4680
  len2 : T.length + (8 - j) * (1 + Pg.cnt' lv) ≤ 4681
theorem Going2.code_end {w : World} {S : Pg.Fs} {lv : Nat} {t : Int} {a j : Nat} {M : List Pg.Mp} {T : List Int} {ad ad2 : Option Addr} {cap cap2 : Nat} {wr w' : World} (h : Going2 w S lv t a j M T ad cap ad2 cap2 wr) (hj : j < 8) {X : List Pg.Sp} {c : Int} (ho : Pg.out S Pg.allW lv (Pg.sub S Pg.allW lv) t a j = (X, c)) (hc : c ≠ 0) (hb : Below wr.heap.size wr w') :
    BelDone w t (Pg.thr S Pg.allW lv t a) (.returned (.tuple #[.slice none 0 0, .slice none 0 0, .int .i64 c])) w' := by
  have hst := scan_step (S := S) (L := Pg.allW) (lv := lv) (rec := Pg.sub S Pg.allW lv) (t := t) (a := a) hj
  rw [ho, if_pos (by simpa using hc)] at hst
  refine done_code ?_ hc (bthen h.bel hb)
  rw [h.code, hst]
theorem Going2.next {w : World} {S : Pg.Fs} {lv : Nat} {t : Int} {a j : Nat} {M M' : List Pg.Mp} {T T' : List Int} {ad ad2 ad' ad2' : Option Addr} {cap cap2 cap' cap2' : Nat} {wr w' : World} (h : Going2 w S lv t a j M T ad cap ad2 cap2 wr) (hj : j < 8) {X : List Pg.Sp} (ho : Pg.out S Pg.allW lv (Pg.sub S Pg.allW lv) t a j = (X, 0))
    (hM : M' = M ++ Pg.mapsOf X) (hT : T' = T ++ Pg.tabsOf X) (hl : X.length ≤ 1 + Pg.cnt' lv) (hb : Below w.heap.size w w') (hr : Rows2 w.heap.size M' T' ad' cap' ad2' cap2' w') : Going2 w S lv t a (j + 1) M' T' ad' cap' ad2' cap2' w' := by
  have hst := scan_step (S := S) (L := Pg.allW) (lv := lv) (rec := Pg.sub S Pg.allW lv) (t := t) (a := a) hj
  rw [ho, if_neg (by simp)] at hst
  have e : (8 - j) * (1 + Pg.cnt' lv) = (8 - (j + 1)) * (1 + Pg.cnt' lv) + (1 + Pg.cnt' lv) := by
    rw [show 8 - j = (8 - (j + 1)) + 1 by omega, Nat.add_mul, Nat.one_mul]
  have h1 := h.len
  have h2 := h.len2
  rw [e] at h1 h2
  have l1 := Pg.mapsOf_len X
  have l2 := Pg.tabsOf_len X
  refine ⟨hb, hr, by rw [h.code, hst], fun hz => ?_, fun hz => ?_, ?_, ?_⟩
  · rw [h.maps hz, hst, hM]
    simp [Pg.mapsOf_append]
  · rw [h.tabs hz, hst, hT]
    simp [Pg.tabsOf_append]
  · rw [hM, List.length_append]
    generalize (8 - (j + 1)) * (1 + Pg.cnt' lv) = x at *
    omega
  · rw [hT, List.length_append]
    generalize (8 - (j + 1)) * (1 + Pg.cnt' lv) = x at *
    omega
theorem Going2.end' {w : World} {S : Pg.Fs} {lv : Nat} {t : Int} {a : Nat} {M : List Pg.Mp} {T : List Int} {ad ad2 : Option Addr} {cap cap2 : Nat} {wr : World} (h : Going2 w S lv t a 8 M T ad cap ad2 cap2 wr) :
    BelDone w t (Pg.thr S Pg.allW lv t a) (.returned (.tuple #[.slice ad M.length cap, .slice ad2 T.length cap2, .int .i64 0])) wr := by
  have hz : (Pg.thr S Pg.allW lv t a).2 = 0 := by rw [h.code]; rfl
  have e1 : Pg.mapsR (Pg.thr S Pg.allW lv t a) = M := by
    rw [Pg.mapsR, if_pos hz, h.maps hz]
    simp [Pg.scan, Pg.mapsOf]
  have e2 : Pg.tabsR t (Pg.thr S Pg.allW lv t a) = T := by
    rw [Pg.tabsR, if_pos hz, h.tabs hz]
    simp [Pg.scan, Pg.tabsOf]
  refine ⟨⟨ad, cap, ad2, cap2, by rw [e1, e2, hz], by rw [e1, e2]; exact h.rows⟩, h.bel⟩
/-- The row of mappings has grown. -/
theorem Rows2.pushM {B : Nat} {M : List Pg.Mp} {T : List Int} {ad ad2 : Option Addr} {cap cap2 : Nat} {w wA w3 : World} {M' : List Pg.Mp} {g cap3 : Nat} (h : Rows2 B M T ad cap ad2 cap2 w) (hA : Below w.heap.size w wA) (hg : wA.grownBy w3 (Value.slice ad M.length cap).ownBlock)
    (ho : w3.ownsRow B 53 4 (.slice (some ⟨g, 0, none⟩) M'.length cap3) M'.length (mpCells M')) (hat : (Value.slice ad M.length cap).ownBlock = some g ∨ wA.heap.size ≤ g) (hne : M' ≠ []) :
    Rows2 B M' T (some ⟨g, 0, none⟩) cap3 ad2 cap2 w3 ∧ But (fun k => (Value.slice ad M.length cap).ownBlock = some k) w w3 := by
  have hB : But (fun k => (Value.slice ad M.length cap).ownBlock = some k) w w3 := (But.of_below hA).grown hg fun k hk => .inr hk
  refine ⟨⟨ho, ownsMaps_but h.t hB fun k hk e => h.ne k e hk, fun k hk hk' => ?_, fun e => absurd e hne⟩, hB⟩
  have e1 : g = k := by simpa [Value.ownBlock] using hk
  subst e1
  rcases hat with e | e
  · exact h.ne g e hk'
  · have := (h.t.lt g hk').2
    have := hA.size
    omega
theorem Rows2.pushT {B : Nat} {M : List Pg.Mp} {T : List Int} {ad ad2 : Option Addr} {cap cap2 : Nat} {w wA w3 : World} {T' : List Int} {g cap3 : Nat} (h : Rows2 B M T ad cap ad2 cap2 w) (hA : Below w.heap.size w wA) (hg : wA.grownBy w3 (Value.slice ad2 T.length cap2).ownBlock)
    (ho : w3.ownsRow B 3 1 (.slice (some ⟨g, 0, none⟩) T'.length cap3) T'.length (ints T')) (hat : (Value.slice ad2 T.length cap2).ownBlock = some g ∨ wA.heap.size ≤ g) :
    Rows2 B M T' ad cap (some ⟨g, 0, none⟩) cap3 w3 ∧ But (fun k => (Value.slice ad2 T.length cap2).ownBlock = some k) w w3 := by
  have hB : But (fun k => (Value.slice ad2 T.length cap2).ownBlock = some k) w w3 := (But.of_below hA).grown hg fun k hk => .inr hk
  refine ⟨⟨ownsMaps_but h.m hB fun k hk e => h.ne k hk e, ho, fun k hk hk' => ?_, h.nil⟩, hB⟩
  have e1 : g = k := by simpa [Value.ownBlock] using hk'
  subst e1
  rcases hat with e | e
  · exact h.ne g hk e
  · have := (h.m.lt g hk).2
    have := hA.size
    omega

set_option maxHeartbeats 4000000 in
theorem below_any {b g0 g1 : Nat} {vm : Value} {S : Pg.Fs} :
    ∀ (lv : Nat), lv < 4 → ∀ (t : Int) (a : Nat) (w : World), a + 8 ≤ 8 ^ (4 - lv) → MemAt w b g0 g1 vm S →
      Calls Try.prog 61 #[.pointer (some ⟨b, 0, none⟩), .int .i64 t, .int .i64 (lv : Int), .int .i64 ((a * 8 ^ lv : Nat) : Int)] w fun e w' => BelDone w t (Pg.thr S Pg.allW lv t a) e w' := by
  intro lv
  induction lv using Nat.strongRecOn with
  | _ lv IH =>
  intro hlv t a w ha h
  have HT := memTaken_any t w h
  have HI : Hid _ := IH
  have HM : Hid _ := h
  have HA : Hid _ := ha
  cases hh : S.has t
  · have HC : Hid ((Pg.thr S Pg.allW lv t a).2 = 12) := by
      have hrc : Pg.rCode S t 0 lv = 12 := by simp [Pg.rCode, hh]
      have hst := scan_step (S := S) (L := Pg.allW) (lv := lv) (rec := Pg.sub S Pg.allW lv) (t := t) (a := a) (j := 0) (by omega)
      rw [Pg.out_bad (by rw [hrc]; decide), hrc] at hst
      rw [Hid, Pg.thr_eq]
      rw [show (8 : Nat) = 8 - 0 from rfl, hst]
      simp
    rw [hh] at HT
    clear h IH hh ha
    generalize Pg.thr S Pg.allW lv t a = th at *
    go_enter Try.func61, Try.ntmps61
    go_wp2_with (go_at_call 49; refine HT.mono ?_; rintro e w1 ⟨rfl, hw⟩; subst w1)
    go_ret3
    exact done_code HC.out (by decide) (brefl w)
  · obtain ⟨t0, t1, _⟩ := h.ok.has_lt hh
    obtain ⟨tn, rfl⟩ := Int.eq_ofNat_of_zero_le t0
    have hsm := h.ok.small
    rw [hh] at HT
    have HH : Hid _ := hh
    have i0 : (0 : Int) ≤ (tn : Int) := by omega
    have i1 : (tn : Int) < (S.n : Int) := by omega
    have h8 : Hid (∀ i, i < 8 → (a + i) * 8 ^ lv < 4096 ∧ (a + i) * 8 ^ lv + 8 ^ lv ≤ 4096) := by
      intro i hi
      have h1 : (a + i + 1) * 8 ^ lv ≤ 8 ^ (4 - lv) * 8 ^ lv := Nat.mul_le_mul_right _ (by omega)
      rw [← Nat.pow_add, show 4 - lv + lv = 4 by omega, Nat.add_mul, Nat.one_mul] at h1
      have : 0 < 8 ^ lv := Nat.pow_pos (by decide)
      have e : (8 : Nat) ^ 4 = 4096 := by decide
      omega
    have HG : Hid (Going2 w S lv (tn : Int) a 0 [] [(tn : Int)] none 0 (some ⟨w.heap.size, 0, none⟩) 1 (w.alloc (.cells #[.int .i64 (tn : Int)] 3))) := by
      refine ⟨balloc (brefl w) _, ⟨World.ownsRow_nil _ _ _ _, ?_, fun k hk => by simp [Value.ownBlock] at hk, fun _ => ⟨rfl, rfl⟩⟩, by rw [Pg.thr_eq], fun _ => by rw [Pg.thr_eq]; rfl, fun _ => by rw [Pg.thr_eq]; rfl, ?_, ?_⟩
      · refine ⟨by simp [ints], .inr ⟨w.heap.size, 1, #[.int .i64 (tn : Int)], rfl, Nat.le_refl _, heap_alloc_new w _, Nat.le_refl _, by decide, rfl, by simp [ints]⟩⟩
      · have : lv = 0 ∨ lv = 1 ∨ lv = 2 ∨ lv = 3 := by omega
        rcases this with rfl | rfl | rfl | rfl <;> decide
      · have : lv = 0 ∨ lv = 1 ∨ lv = 2 ∨ lv = 3 := by omega
        rcases this with rfl | rfl | rfl | rfl <;> simp [Pg.cnt']
    have hat0 : (a * 8 ^ lv : Nat) ≤ 4096 := by have := h8.out 0 (by omega); simp at this; omega
    obtain ⟨A, hA⟩ : ∃ A : Nat, A = a * 8 ^ lv := ⟨_, rfl⟩
    rw [← hA] at hat0 ⊢
    have HAA : Hid _ := hA
    clear h IH hh ha hA t0
    go_enter Try.func61, Try.ntmps61
    go_wp2_with (go_at_call 49; refine HT.mono ?_; rintro e w1 ⟨rfl, hw⟩; subst w1)
    go_loopw [11, 12, 13] (fun v1 v2 i wr => ∃ (j : Nat) (M : List Pg.Mp) (T : List Int) (ad : Option Addr) (cap : Nat) (ad2 : Option Addr) (cap2 : Nat), j ≤ 8 ∧ v1 = .slice ad M.length cap ∧ v2 = .slice ad2 T.length cap2 ∧ i = .int .i64 j ∧ Hid (Going2 w S lv (tn : Int) a j M T ad cap ad2 cap2 wr)) (fun _ _ i _ => 8 - (intOf i).toNat)
    case atStart => exact ⟨0, [], [(tn : Int)], none, 0, some ⟨w.heap.size, 0, none⟩, 1, by omega, rfl, rfl, rfl, HG.out⟩
    case round =>
      obtain ⟨j, M, T, ad, cap, ad2, cap2, hj, rfl, rfl, rfl, HR⟩ := hrel
      clear HG HT
      by_cases hlt : j < 8
      · have HM2 : Hid _ := HM.out.keep (F := fun k => w.heap.size ≤ k) (w' := wr) ⟨HR.out.bel.os, HR.out.bel.tape, HR.out.bel.output, HR.out.bel.size, fun k hk _ => HR.out.bel.block k hk⟩ (fun k hk => by have := HM.out.raw.lt hk; omega)
        have m0 := HM2.out.raw.c0
        have mw := HM2.out.raw.cw tn j (by omega) hlt
        have u0 := HM2.out.ok.low tn j
        have u1 := HM2.out.ok.high tn j
        have hrc : Pg.rCode S (tn : Int) j lv = Pg.dCode (S.word tn j) lv := by simp [Pg.rCode, HH.out]
        have hre : Pg.rEn S (tn : Int) j lv = Pg.En.of (S.word tn j) lv := by simp [Pg.rEn, HH.out]
        have HEO := entryOf_any (S.word tn j) (lv : Int) u0 u1
        rw [Pg.decV_of, ← hre, ← hrc] at HEO
        have hob : Hid _ := @Pg.out_bad S lv (Pg.sub S Pg.allW lv) (tn : Int) a j
        have hom : Hid _ := @Pg.out_maps S lv (Pg.sub S Pg.allW lv) (tn : Int) a j
        have HON : Hid _ := @Pg.rEn_on S (tn : Int) j lv
        have HLF : Hid _ := @Pg.leaf_map S HM2.out.ok (tn : Int) j lv a
        have HSP : Hid (Pg.spt S (tn : Int) j lv a = ⟨(tn : Int), j, lv, a + j, Pg.rEn S (tn : Int) j lv⟩) := rfl
        generalize S.word tn j = W at *
        clear hre hrc u0 u1
        generalize Pg.rCode S (tn : Int) j lv = rc at *
        generalize Pg.rEn S (tn : Int) j lv = E at *
        generalize Pg.spt S (tn : Int) j lv a = sp at *
        have j0 : (0 : Int) ≤ (j : Int) := by omega
        have j1 : (j : Int) < 8 := by omega
        obtain ⟨et, el, er, eu, ed, ef⟩ := E
        simp only [Pg.En.val] at HEO
        have hbl := HM2.out.raw.lb
        have HL2 : Hid _ := h8.out j hlt
        have hp8 : Hid (∀ i, i ≤ lv → j * 8 ^ i ≤ 4096) := fun i hi => by
          have h1 : 8 ^ i ≤ 8 ^ lv := Nat.pow_le_pow_right (by decide) hi
          have h2 : j * 8 ^ i ≤ (a + j) * 8 ^ lv := Nat.mul_le_mul (by omega) h1
          have := HL2.out
          omega
        by_cases hrc : rc = 0
        · have homr : Hid _ := hom.out hrc
          subst hrc
          go_wp2_with fail
          refine (HEO _).mono ?_
          rintro e w1 ⟨rfl, hb1⟩
          obtain ⟨W5, hW5⟩ : ∃ W5, W5 = w1.alloc (.cells #[.bool et, .bool el, .int .i64 er, .bool eu, .bool ed, .int .i64 ef] 29) := ⟨_, rfl⟩
          have HB5 : Hid (Below wr.heap.size wr W5) := by rw [hW5]; exact balloc hb1 _
          have R5 : Hid _ := HR.out.rows.grow HB5.out
          have hsz1 := hb1.size
          have hlE : w1.heap.size < W5.heap.size := by rw [hW5]; simp
          have x0 : W5.cell? ⟨w1.heap.size, 0, none⟩ = some (.bool et) := by rw [hW5]; simp [go_sem]
          have x1 : W5.cell? ⟨w1.heap.size, 1, none⟩ = some (.bool el) := by rw [hW5]; simp [go_sem]
          have x2 : W5.cell? ⟨w1.heap.size, 2, none⟩ = some (.int .i64 er) := by rw [hW5]; simp [go_sem]
          have x3 : W5.cell? ⟨w1.heap.size, 3, none⟩ = some (.bool eu) := by rw [hW5]; simp [go_sem]
          have x4 : W5.cell? ⟨w1.heap.size, 4, none⟩ = some (.bool ed) := by rw [hW5]; simp [go_sem]
          have x5 : W5.cell? ⟨w1.heap.size, 5, none⟩ = some (.int .i64 ef) := by rw [hW5]; simp [go_sem]
          clear hb1 m0 mw HEO
          go_wp2_with fail
          rw [← hW5]
          clear hW5
          generalize w1.heap.size = Eb at *
          go_loop [17, 18] (fun n k => ∃ (i N : Nat), i ≤ lv ∧ N ≤ 4096 ∧ n = .int .i64 (N : Int) ∧ k = .int .i64 (i : Int) ∧ Hid (N = j * 8 ^ i)) (fun _ k => lv - (intOf k).toNat)
          case atStart => exact ⟨0, j, by omega, by omega, rfl, rfl, by simp [Hid]⟩
          case round =>
            obtain ⟨i, N, hi, hN, rfl, rfl, HN⟩ := hrel
            by_cases hil : i < lv
            · have hN8 : N * 8 ≤ 4096 := by
                have := hp8.out (i + 1) hil
                rw [Nat.pow_succ, ← Nat.mul_assoc, ← HN.out] at this
                exact this
              have hiI : (i : Int) < (lv : Int) := by omega
              go_wp2_with fail
              go_round
              case rel => exact ⟨i + 1, N * 8, by omega, hN8, by go_num, by go_num, by rw [Hid, HN.out, Nat.pow_succ, Nat.mul_assoc]⟩
              case measure => simp [intOf]; omega
            · have hil' : i = lv := by omega
              subst hil'
              have hiI : ¬ (i : Int) < (i : Int) := by omega
              have HP : Hid ((A : Int) + (N : Int) = (((a + j) * 8 ^ i : Nat) : Int)) := by
                rw [Hid, HAA.out, HN.out, Nat.add_mul]
                simp
              cases el
              · cases et
                · have ho := homr.out.1 rfl
                  go_wp2_with fail
                  refine ⟨⟨j + 1, M, T, ad, cap, ad2, cap2, by omega, rfl, rfl, by go_num, HR.out.next hlt ho ?_ ?_ (by simp) (bthen HR.out.bel HB5.out) R5.out⟩, by simp [intOf]; omega⟩
                  · simp [Pg.mapsOf, HSP.out]
                  · simp [Pg.tabsOf, HSP.out, Pg.En.on]
                · obtain ⟨m, hm⟩ := HON.out rfl
                  have ho := homr.out.2 rfl
                  have hsub : Pg.sub S Pg.allW i = Pg.thr S Pg.allW m := by rw [hm]; rfl
                  rw [hsub] at ho
                  have HM5 : Hid _ := HM2.out.keep (F := fun k => wr.heap.size ≤ k) (w' := W5) ⟨HB5.out.os, HB5.out.tape, HB5.out.output, HB5.out.size, fun k hk _ => HB5.out.block k hk⟩ (fun k hk => by have := HM2.out.raw.lt hk; omega)
                  have HC := HI.out m (by omega) (by omega) ef ((a + j) * 8) W5 (by
                    have := HA.out
                    rw [show 4 - m = (4 - i) + 1 by omega, Nat.pow_succ]
                    omega) HM5.out
                  have HPm : Hid ((((a + j) * 8 * 8 ^ m : Nat) : Int) = (A : Int) + (N : Int)) := by
                    rw [Hid, HP.out, hm, Nat.pow_succ, Nat.mul_assoc, Nat.mul_comm 8 (8 ^ m)]
                  rw [HPm.out] at HC
                  have hlm : (i : Int) - 1 = (m : Int) := by omega
                  have hlm1 : (1 : Int) ≤ (i : Int) := by omega
                  have hln := Pg.thr_len S Pg.allW m ef ((a + j) * 8)
                  rw [← hm] at hln
                  try simp only at ho
                  generalize Pg.thr S Pg.allW m ef ((a + j) * 8) = th at *
                  have HLN : Hid _ := hln
                  have HO : Hid (Pg.out S Pg.allW i (Pg.thr S Pg.allW m) (tn : Int) a j = (sp :: th.1, th.2)) := ho
                  have HSB : Hid _ := hsub
                  clear ho hsub hm hln
                  go_wp2_with fail
                  refine HC.mono ?_
                  rintro e w7 ⟨⟨ad3, cap3, ad4, cap4, rfl, R7⟩, hb7⟩
                  have HB7 : Hid (Below w.heap.size w w7) := bthen (bthen HR.out.bel HB5.out) hb7
                  have hb57 : Hid (Below wr.heap.size wr w7) := bthen HB5.out hb7
                  have R8 : Hid _ := R5.out.grow hb7
                  have H7 : Hid _ := R7
                  by_cases hc : th.2 = 0
                  · have hcb : (th.2 != 0) = false := by simp [hc]
                    have eM : Pg.mapsR th = Pg.mapsOf th.1 := by rw [Pg.mapsR, if_pos hc]
                    have eT : Pg.tabsR ef th = ef :: Pg.tabsOf th.1 := by rw [Pg.tabsR, if_pos hc]
                    have HOO : Hid (Pg.out S Pg.allW i (Pg.sub S Pg.allW i) (tn : Int) a j = (sp :: th.1, 0)) := by rw [Hid, HSB.out, HO.out, hc]
                    have HMX : Hid (Pg.mapsOf (sp :: th.1) = Pg.mapsOf th.1 ∧ Pg.tabsOf (sp :: th.1) = ef :: Pg.tabsOf th.1) := by
                      rw [Hid, Pg.mapsOf_cons, Pg.tabsOf_cons, HSP.out]
                      simp [Pg.En.on]
                    have l1 := Pg.mapsOf_len th.1
                    have l2 := Pg.tabsOf_len th.1
                    have l3 : Hid ((sp :: th.1).length ≤ 1 + Pg.cnt' i) := by rw [Hid, List.length_cons]; have := HLN.out; omega
                    rw [eM, eT] at H7 ⊢
                    have hl1 := HR.out.len
                    have hl2 := HR.out.len2
                    have hcnt : Pg.cnt' i ≤ 584 := by
                      have : i = 0 ∨ i = 1 ∨ i = 2 ∨ i = 3 := by omega
                      rcases this with rfl | rfl | rfl | rfl <;> decide
                    have hll := HLN.out
                    generalize Pg.mapsOf th.1 = M2 at *
                    generalize hT2 : ef :: Pg.tabsOf th.1 = T2 at *
                    have hT20 : 0 < T2.length := by rw [← hT2]; simp
                    have hT21 : T2.length ≤ 585 := by rw [← hT2, List.length_cons]; omega
                    have hM21 : M2.length ≤ 584 := by omega
                    have hMl : M.length ≤ 4680 := by omega
                    have hTl : T.length ≤ 4681 := by omega
                    clear hT2 R7 hb7 eM eT hc l1 l2 hl1 hl2 hll hcnt
                    obtain ⟨q0, hq, hz0, hz1, hz2⟩ := info_parts infoMap
                    obtain ⟨p0, hp, hy0, hy1, hy2⟩ := info_parts infoIntW
                    have hw7 := HB7.out.size
                    obtain ⟨g4, cap4', e4, _, hg4⟩ := World.ownsRow.form H7.out.t hT20
                    have e4a : ad4 = some ⟨g4, 0, none⟩ := by injection e4
                    subst e4a
                    clear e4
                    have hW57 : Hid (∀ k, (Value.slice ad M.length cap).ownBlock = some k → k < W5.heap.size) := fun k hk => (World.ownsRow.lt R5.out.m k hk).2
                    have hg45 : W5.heap.size ≤ g4 := (World.ownsRow.lt H7.out.t g4 rfl).1
                    have hcT : Hid _ := World.ownsRow.cells H7.out.t (g := g4) rfl
                    by_cases hM2 : M2 = []
                    · obtain ⟨rfl, rfl⟩ := H7.out.nil hM2
                      subst hM2
                      have hownT : w7.ownsRow w.heap.size 3 1 (.slice ad2 T.length cap2) T.length (ints T) := R8.out.t
                      have hdst : (ad = none ∧ M.length = 0 ∧ cap = 0) ∨ ∃ g, ad = some ⟨g, 0, none⟩ ∧ M.length ≤ cap := by
                        rcases R8.out.m.2 with ⟨h1, h2⟩ | ⟨g, cap', cur, h1, _, _, h9, _⟩
                        · injection h1 with h3 h4 h5
                          exact .inl ⟨h3, h4, h5⟩
                        · injection h1 with h3 h4 h5
                          exact .inr ⟨g, h3, by omega⟩
                      have HFin : Hid (∀ g5 cap5 w9, w9.ownsRow w.heap.size 3 1 (.slice (some ⟨g5, 0, none⟩) (T.length + T2.length) cap5) (T.length + T2.length) (ints T ++ ints T2) → w7.grownBy w9 (Value.slice ad2 T.length cap2).ownBlock → ((Value.slice ad2 T.length cap2).ownBlock = some g5 ∨ g5 = w7.heap.size) → Going2 w S i (tn : Int) a (j + 1) M (T ++ T2) ad cap (some ⟨g5, 0, none⟩) cap5 w9) := by
                        intro g5 cap5 w9 h1 h2 h3
                        have hpt := Rows2.pushT R8.out (T' := T ++ T2) (g := g5) (cap3 := cap5) (brefl w7) h2 (by rw [List.length_append, show ints (T ++ T2) = ints T ++ ints T2 by simp [ints]]; exact h1) (h3.imp id fun h => by omega)
                        refine HR.out.next hlt HOO.out ?_ ?_ l3.out (HB7.out.trans (hpt.2.below HB7.out.size fun k hk => (World.ownsRow.lt R8.out.t k hk).1)) hpt.1
                        · rw [HMX.out.1, List.append_nil]
                        · rw [HMX.out.2]
                      rcases hdst with ⟨rfl, hml, rfl⟩ | ⟨gd, rfl, hmc⟩
                      all_goals
                        go_wp2_with (first
                          | (at_builtin; refine wpList_append_none _ rfl _ _ 41 rfl 53 q0 Try.underlying41 hq gd M.length cap rfl rfl hmc ?_)
                          | (at_builtin; refine wpList_append_lies _ rfl _ _ 30 rfl w.heap.size 3 p0 (.int .i64 0) 1 8 Try.underlying30 hp hy0 hy1 hy2 rfl (by decide) _ _ _ rfl hownT ⟨g4, 0, none⟩ T2.length cap4 (ints T2) rfl (by rw [ints_len, Nat.mul_one]) ?t1 (ints_one T2) hT20 ?t3 ?t4 ?t5 (w7.heap.size) rfl ?_))
                        case t1 => exact hcT.out
                        case t3 => unfold maxLen; omega
                        case t4 => omega
                        case t5 => omega
                        intro g5 cap5 w9 hown9 hgrow9 hat9 hlt9
                        have fin : Hid _ := HFin.out g5 cap5 w9 hown9 hgrow9 hat9
                        clear hown9 hgrow9 hat9 hlt9 hownT
                        go_wp2_with fail
                        refine ⟨⟨j + 1, M, T ++ T2, _, _, some ⟨g5, 0, none⟩, cap5, by omega, ?_, by rw [List.length_append], by go_num, fin.out⟩, by simp [intOf]; omega⟩
                        first | rfl | rw [hml]
                    · have hM20 : 0 < M2.length := List.length_pos_iff.2 hM2
                      obtain ⟨g3, cap3', e3, _, hg3⟩ := World.ownsRow.form H7.out.m hM20
                      have e3a : ad3 = some ⟨g3, 0, none⟩ := by injection e3
                      subst e3a
                      clear e3
                      have hcM : Hid _ := World.ownsRow.cells H7.out.m (g := g3) rfl
                      have hown : w7.ownsRow w.heap.size 53 4 (.slice ad M.length cap) M.length (mpCells M) := R8.out.m
                      go_wp2_with (first
                        | (at_builtin; refine wpList_append_lies _ rfl _ _ 41 rfl w.heap.size 53 q0 _ 4 32 Try.underlying41 hq hz0 hz1 hz2 rfl (by decide) _ _ _ rfl hown ⟨g3, 0, none⟩ M2.length cap3 (mpCells M2) rfl (mpCells_len M2) ?m1 (mpCells_one' M2) hM20 ?m3 ?m4 ?m5 (w7.heap.size) rfl ?_))
                      case m1 => exact hcM.out
                      case m3 => unfold maxLen; omega
                      case m4 => omega
                      case m5 => omega
                      intro g8 cap8 w8 hown8 hgrow8 hat8 hlt8
                      have hpm := Rows2.pushM R8.out (M' := M ++ M2) (g := g8) (cap3 := cap8) (brefl w7) hgrow8 (by rw [List.length_append, mpCells_append]; exact hown8) (hat8.imp id fun h => by omega) (by simp [hM2])
                      have HPM : Hid _ := hpm
                      have HB8 : Hid (Below w.heap.size w w8) := HB7.out.trans (hpm.2.below HB7.out.size fun k hk => (World.ownsRow.lt hown k hk).1)
                      have hsz8 := hpm.2.size
                      have hblk4 : w8.heap[g4]? = w7.heap[g4]? := hpm.2.block g4 hg4 fun e => by have := hW57.out g4 e; omega
                      have hcT8 : Hid _ := World.ownsRow.cells (owns_of_block H7.out.t (w' := w8) fun k hk => by have e1 : g4 = k := (by simpa [Value.ownBlock] using hk); rw [← e1]; exact hblk4) (g := g4) rfl
                      have hownT : w8.ownsRow w.heap.size 3 1 (.slice ad2 T.length cap2) T.length (ints T) := hpm.1.t
                      clear hown hown8 hgrow8 hat8 hlt8 hpm hblk4 hcT
                      go_wp2_with (first
                        | (at_builtin; refine wpList_append_lies _ rfl _ _ 30 rfl w.heap.size 3 p0 (.int .i64 0) 1 8 Try.underlying30 hp hy0 hy1 hy2 rfl (by decide) _ _ _ rfl hownT ⟨g4, 0, none⟩ T2.length cap4 (ints T2) rfl (by rw [ints_len, Nat.mul_one]) ?t1 (ints_one T2) hT20 ?t3 ?t4 ?t5 (w8.heap.size) rfl ?_))
                      case t1 => exact hcT8.out
                      case t3 => unfold maxLen; omega
                      case t4 => omega
                      case t5 => omega
                      intro g5 cap5 w9 hown9 hgrow9 hat9 hlt9
                      have hpt := Rows2.pushT HPM.out.1 (T' := T ++ T2) (g := g5) (cap3 := cap5) (brefl w8) hgrow9 (by rw [List.length_append, show ints (T ++ T2) = ints T ++ ints T2 by simp [ints]]; exact hown9) (hat9.imp id fun h => by omega)
                      have fin : Hid (Going2 w S i (tn : Int) a (j + 1) (M ++ M2) (T ++ T2) (some ⟨g8, 0, none⟩) cap8 (some ⟨g5, 0, none⟩) cap5 w9) := by
                        refine HR.out.next hlt HOO.out ?_ ?_ l3.out (HB8.out.trans (hpt.2.below HB8.out.size fun k hk => (World.ownsRow.lt hownT k hk).1)) hpt.1
                        · rw [HMX.out.1]
                        · rw [HMX.out.2]
                      clear hown9 hgrow9 hat9 hlt9 hpt hownT
                      go_wp2_with fail
                      exact ⟨⟨j + 1, M ++ M2, T ++ T2, some ⟨g8, 0, none⟩, cap8, some ⟨g5, 0, none⟩, cap5, by omega, by rw [List.length_append], by rw [List.length_append], by go_num, fin.out⟩, by simp [intOf]; omega⟩
                  · have hcb : (th.2 != 0) = true := by simp [hc]
                    have fin : Hid _ := HR.out.code_end hlt (X := sp :: th.1) (c := th.2) (by rw [HSB.out]; exact HO.out) hc hb57.out
                    clear R7 hb7 hc
                    go_wp2_with fail
                    go_ret3
                    exact fin.out
              · have ho := homr.out.1 (by simp [Pg.En.on])
                have HLM := leafMap_any et true er eu ed ef (i : Int) ((A : Int) + (N : Int))
                rw [Pg.mapV_of ⟨et, true, er, eu, ed, ef⟩, HP.out, ← HLF.out rfl] at HLM
                have HSM : Hid (Pg.mapsOf [sp] = [sp.mp] ∧ Pg.tabsOf [sp] = []) := by simp [Hid, Pg.mapsOf, Pg.tabsOf, HSP.out, Pg.En.on]
                have HO : Hid _ := ho
                rw [← HP.out] at HLM
                generalize sp.mp = m at *
                obtain ⟨mp, ms, mf, mr⟩ := m
                simp only [Pg.Mp.val] at HLM
                clear ho HLF
                obtain ⟨q0, hq, hz0, hz1, hz2⟩ := info_parts infoMap
                have hlen := HR.out.len
                have hM : M.length ≤ 4680 := by omega
                go_wp2_with fail
                refine (HLM _).mono ?_
                rintro e w6 ⟨rfl, hb6⟩
                have R6 : Hid _ := R5.out.grow hb6
                have HB6 : Hid (Below w.heap.size w w6) := bthen (bthen HR.out.bel HB5.out) hb6
                have hown : w6.ownsRow w.heap.size 53 4 (.slice ad M.length cap) M.length (mpCells M) := R6.out.m
                have hsz6 := HB6.out.size
                clear hb6 HLM x0 x1 x2 x3 x4 x5 hlen
                go_wp2_with (first
                  | (at_builtin; refine wpList_append_lies _ rfl _ _ 41 rfl w.heap.size 53 q0 _ 4 32 Try.underlying41 hq hz0 hz1 hz2 rfl (by decide) _ _ _ rfl (hown.alloc _) ⟨w6.heap.size, 0, none⟩ 1 1 [.int .i64 mp, .int .i64 ms, .int .i64 mf, .int .i64 mr] rfl rfl ?c1 ?c2 (by decide) ?c3 ?c4 ?c5 (w6.heap.size + 1) (by simp) ?_))
                case c1 => exact World.news_of_block (heap_alloc_new w6 _)
                case c2 => intro u hu; simp at hu; rcases hu with rfl | rfl | rfl | rfl <;> rfl
                case c3 => unfold maxLen; omega
                case c4 => omega
                case c5 => simp; omega
                intro g cap9 w9 hown9 hgrow9 hat9 hlt9
                have e1 : M.length + 1 = (M ++ [(⟨mp, ms, mf, mr⟩ : Pg.Mp)]).length := by simp
                have e2 : mpCells M ++ [.int .i64 mp, .int .i64 ms, .int .i64 mf, .int .i64 mr] = mpCells (M ++ [(⟨mp, ms, mf, mr⟩ : Pg.Mp)]) := (mpCells_push M ⟨mp, ms, mf, mr⟩).symm
                have hp := Rows2.pushM R6.out (M' := M ++ [(⟨mp, ms, mf, mr⟩ : Pg.Mp)]) (g := g) (cap3 := cap9) (balloc (brefl w6) (.cells #[.int .i64 mp, .int .i64 ms, .int .i64 mf, .int .i64 mr] 53)) hgrow9 (by rw [← e1, ← e2]; exact hown9) (hat9.imp id fun h => by simp; omega) (by simp)
                have HP9 : Hid _ := hp
                have hbel9 : Hid (Below w.heap.size w w9) := HB6.out.trans (hp.2.below HB6.out.size fun k hk => (World.ownsRow.lt hown k hk).1)
                clear hp hown hown9 hgrow9 hat9 hlt9 e1 e2
                go_wp2_with fail
                refine ⟨⟨j + 1, M ++ [(⟨mp, ms, mf, mr⟩ : Pg.Mp)], T, some ⟨g, 0, none⟩, cap9, ad2, cap2, by omega, by simp, rfl, by go_num, HR.out.next hlt HO.out ?_ ?_ (by simp) hbel9.out HP9.out.1⟩, by simp [intOf]; omega⟩
                · rw [HSM.out.1]
                · rw [HSM.out.2, List.append_nil]
        · have hcb : (rc != 0) = true := by simp [hrc]
          have ho := hob.out hrc
          go_wp2_with fail
          refine (HEO _).mono ?_
          rintro e w1 ⟨rfl, hb1⟩
          have fin : Hid _ := HR.out.code_end hlt ho hrc (balloc hb1 (.cells #[.bool et, .bool el, .int .i64 er, .bool eu, .bool ed, .int .i64 ef] 29))
          clear hb1 ho hrc
          go_wp2_with fail
          go_ret3
          exact fin.out
      · have hj8 : j = 8 := by omega
        subst hj8
        have hlI : ¬ ((8 : Nat) : Int) < 8 := by omega
        go_wp2_with fail
        go_ret3
        exact HR.out.end'

theorem allOf_any {b g0 g1 : Nat} {vm : Value} {S : Pg.Fs} (t : Int) (w : World) (h : MemAt w b g0 g1 vm S) :
    Calls Try.prog 17 #[.pointer (some ⟨b, 0, none⟩), .int .i64 t] w fun e w' => BelDone w t (Pg.thr S Pg.allW 3 t 0) e w' := by
  have HC : Calls Try.prog 61 #[.pointer (some ⟨b, 0, none⟩), .int .i64 t, .int .i64 3, .int .i64 0] w fun e w' => BelDone w t (Pg.thr S Pg.allW 3 t 0) e w' := below_any 3 (by omega) t 0 w (by decide) h
  clear h
  generalize Pg.thr S Pg.allW 3 t 0 = th at *
  go_enter Try.func17, Try.ntmps17
  go_wp2_with fail
  refine HC.mono ?_
  rintro e w1 ⟨⟨ad, cap, ad2, cap2, rfl, hr⟩, hb⟩
  have fin : Hid (BelDone w t th (.returned (.tuple #[.slice ad (Pg.mapsR th).length cap, .slice ad2 (Pg.tabsR t th).length cap2, .int .i64 th.2])) w1) := ⟨⟨ad, cap, ad2, cap2, rfl, hr⟩, hb⟩
  clear hr hb HC
  go_wp2_with fail
  go_ret3
  exact fin.out
end Go.Proofs.Ytbkpndgadgafiac
