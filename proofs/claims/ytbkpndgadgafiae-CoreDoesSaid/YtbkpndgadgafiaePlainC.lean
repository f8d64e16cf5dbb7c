
/-
  Plain functions that say what a core is: what it keeps, where its walk is, and what asking it comes to.
-/
import Derived.Test.YtbkpndgadgafiaePlainK
import Derived.Test.YtbkpndgadgafiaePlainL
namespace Go.Proofs.Ytbkpndgadgafiae
open Go.RowKit
namespace Pg
/-- What Begin and Step tell: an answer, whether it ended, a code. -/
structure Tl where
  a : Int
  f : Int
  r : Int
  ended : Bool
  c : Int
def Tl.val (T : Tl) : Value := .tuple #[.agg #[.int .i64 T.a, .int .i64 T.f, .int .i64 T.r], .bool T.ended, .int .i64 T.c]
def Tl.code (c : Int) : Tl := ⟨0, 0, 0, false, c⟩
/-- What a line answers an access. -/
def Ln.ans (l : Ln) (q k : Int) (u : Bool) : Tl := ⟨aEnd l.m.r k u, aFrame l.m.p l.m.f l.m.r q k u, aRights l.m.r k u, true, 0⟩
/-- The access would leave a mark that the line may lack. -/
def Ln.wants (l : Ln) (k : Int) (u : Bool) : Bool := k == 1 && (!l.d && may l.m.r k u)

/-- A core: the lines that it keeps, and its walk. -/
structure Cr where
  L : List Ln
  K : Wk
namespace Cr
def new : Cr := ⟨[], Wk.off⟩
structure Ok (C : Cr) : Prop where
  kept : Kept C.L
  walk : C.K.Ok
/-- A line ends the access at once. -/
def hit (C : Cr) (q k : Int) (u : Bool) : Bool := (kFnd C.L q).isSome && !(kAt C.L q).wants k u
def bgT (C : Cr) (q k : Int) (u : Bool) : Tl := if checkAccess q k ≠ 0 then .code (checkAccess q k) else if C.K.on = true then .code 8 else if C.hit q k u = true then (kAt C.L q).ans q k u else .code 0
def bgN (root : Int) (C : Cr) (q k : Int) (u : Bool) : Cr := if checkAccess q k = 0 ∧ C.K.on = false ∧ C.hit q k u = false then ⟨C.L, Wk.start root q k u⟩ else C
end Cr
def Wo.tl (K : Wk) (o : Wo) : Tl := ⟨(o.res K).a, (o.res K).f, (o.res K).r, (o.res K).ended, o.cd⟩
/-- The lines behind a step. -/
def rPut (L : List Ln) (R : Rs) : List Ln := if (R.ended && R.a == 0) = true then kPut L ⟨R.m, R.d⟩ else L
namespace Cr
def stT (S : Fs) (root : Int) (C : Cr) : Tl := Wo.tl C.K (kOut S root C.K)
def stN (S : Fs) (root : Int) (C : Cr) : Cr := ⟨rPut C.L ((kOut S root C.K).res C.K), (kOut S root C.K).next C.K⟩
def stS (S : Fs) (root : Int) (C : Cr) : Fs := (kOut S root C.K).fs S C.K
def told (root : Int) (C : Cr) (m : Mp) : Cr := ⟨kDrop C.L m, C.K.again root⟩
def evict (C : Cr) : Cr := ⟨C.L.drop 1, C.K⟩
end Cr

theorem access_page {q k : Int} (h : checkAccess q k = 0) : below q 4096 = true := by
  unfold checkAccess at h
  split at h
  · split at h
    · assumption
    · omega
  · omega
theorem access_fits {q k : Int} (h : checkAccess q k = 0) : fits q := by
  have := below_iff.1 (access_page h)
  unfold fits
  omega
theorem map_fits (e : En) (lv q : Int) : fits (e.map lv q).p := by
  show fits (lPage e.t e.l e.r e.u e.d e.f lv q)
  unfold lPage
  split
  · rename_i h
    have hq : below q 4096 = true := by
      unfold lOk at h
      simp only [Bool.and_eq_true] at h
      exact h.2
    have hq := below_iff.1 hq
    unfold span fits
    split
    · omega
    · split
      · omega
      · split <;> omega
  · unfold fits; omega
theorem res_fits (K : Wk) (o : Wo) : fits (o.res K).m.p := by
  rcases o with c | K' | r | ⟨e, m⟩
  · show fits 0; unfold fits; omega
  · show fits 0; unfold fits; omega
  · show fits 0; unfold fits; omega
  · exact map_fits e K.lv K.q

namespace Cr.Ok
variable {C : Cr} {S : Fs}
theorem new : Cr.new.Ok := ⟨Kept.nil, Wk.off_ok⟩
theorem begin (h : C.Ok) (root q k : Int) (u : Bool) : (C.bgN root q k u).Ok := by
  unfold Cr.bgN
  split
  · rename_i hc
    exact ⟨h.kept, Wk.start_ok (access_page hc.1)⟩
  · exact h
theorem step (h : C.Ok) (hS : S.Ok) (root : Int) : (C.stN S root).Ok := by
  refine ⟨?_, kOut_ok hS h.walk root⟩
  show Kept (rPut _ _)
  unfold rPut
  split
  · exact h.kept.put _
  · exact h.kept
theorem told (h : C.Ok) (root : Int) (m : Mp) : (C.told root m).Ok := ⟨h.kept.drop m, h.walk.again root⟩
theorem evict (h : C.Ok) : C.evict.Ok := ⟨h.kept.tail, h.walk⟩
end Cr.Ok
end Pg
end Go.Proofs.Ytbkpndgadgafiae
