import Derived.Test.YtkhnelgommaioaaGreatPlainT
import Derived.Test.YtkhnelgommaioaaGreatFrameB
import Derived.Test.YtkhnelgommaioaaGreatMapInfo
import Derived.Test.YtkhnelgommaioaaGreatWalkI
import Derived.Test.YtkhnelgommaioaaGreatPlainSD
namespace Go.Proofs.YtkhnelgommaioaaGreat
open Go.RowKit Go.Sort
set_option linter.unusedVariables false
set_option maxRecDepth 100000
theorem IntsAt.but {w w':World} {ad:Option Addr} {L:List Int} {G:Nat->Prop} (h:IntsAt w ad L) (hb:But G w w') (hn:∀g,ad=some ⟨g,0,none⟩->¬G g):IntsAt w' ad L:=fun j hj=>by
 obtain⟨g,e,hl,hc⟩:=h j hj
 exact⟨g,e,Nat.lt_of_lt_of_le hl hb.size,(hb.cell (a:=⟨g,j,none⟩) hl (hn g e)).trans hc⟩
theorem rmW_len (p:Int) (ts:List Int):∀(k:Nat) (S:Pg.Fs) (G:List Int),(Pg.rmW p ts k S G).2.length<=G.length+k
 | 0,S,G=>by simp[Pg.rmW]
 | k+1,S,G=>by
   rw[Pg.rmW]
   split
   ·exact Nat.le_add_right _ _
   ·have:=rmW_len p ts k (S.store (ts.getD k 0) (Pg.index p (3-(k:Int))) 0) (G++[ts.getD k 0])
    simp at this ⊢
    omega
theorem rmR_len (S:Pg.Fs) (t p:Int):(Pg.rmR S t p).2.length<=4680:=by
 unfold Pg.rmR
 split
 ·have h1:=rmW_len p (tabs (fndX S t p)) (fndX S t p).length S []
  have h2:=fndX_len S t p
  rw[List.length_nil]at h1
  omega
 ·simp
set_option linter.unusedSimpArgs false
def Pg.Ev.val (e:Pg.Ev):Value:= .agg #[.int .i64 e.c,.bool e.ended,.int .i64 e.a,.int .i64 e.f,.int .i64 e.r,.bool e.back]
def Pg.Sx.val (x:Pg.Sx):Value:= .agg #[.int .i64 x.kind,.int .i64 x.core,.int .i64 x.m.p,.int .i64 x.m.s,.int .i64 x.m.f,.int .i64 x.m.r,.int .i64 x.q,.int .i64 x.k,.bool x.u]
theorem row6a {w:World} {r:Nat} {v0 v1 v2 v3 v4 v5:Value} {t:TypeId} (h:w.heap[r]?=some (.cells #[v0,v1,v2,v3,v4,v5] t (0,0))):
 (w.cell? ⟨r,0,none⟩=some v0/\w.cell? ⟨r,1,none⟩=some v1/\w.cell? ⟨r,2,none⟩=some v2/\w.cell? ⟨r,3,none⟩=some v3/\w.cell? ⟨r,4,none⟩=some v4/\w.cell? ⟨r,5,none⟩=some v5)/\∀i,w.frozen? ⟨r,i,none⟩=false:=
 ⟨by simp[World.cell?,h],fun i=>by simp[World.frozen?,h]⟩
theorem bset6 {w w1:World} (h:Below w.heap.size w w1) (r:Nat) (hr:w.heap.size<=r) (x0 x1 x2 x3 x4 x5:Value):Below w.heap.size w ((((((w1.setCell ⟨r,0,none⟩ x0).setCell ⟨r,1,none⟩ x1).setCell ⟨r,2,none⟩ x2).setCell ⟨r,3,none⟩ x3).setCell ⟨r,4,none⟩ x4).setCell ⟨r,5,none⟩ x5):=
 (((((h.setCell (p:=⟨r,0,none⟩) hr x0).setCell (p:=⟨r,1,none⟩) hr x1).setCell (p:=⟨r,2,none⟩) hr x2).setCell (p:=⟨r,3,none⟩) hr x3).setCell (p:=⟨r,4,none⟩) hr x4).setCell (p:=⟨r,5,none⟩) hr x5
theorem uset6 {F:Nat->Prop} {w w1:World} (h:But F w w1) (r:Nat) (hr:w.heap.size<=r\/F r) (x0 x1 x2 x3 x4 x5:Value):But F w ((((((w1.setCell ⟨r,0,none⟩ x0).setCell ⟨r,1,none⟩ x1).setCell ⟨r,2,none⟩ x2).setCell ⟨r,3,none⟩ x3).setCell ⟨r,4,none⟩ x4).setCell ⟨r,5,none⟩ x5):=
 (((((h.setCell (a:=⟨r,0,none⟩) hr x0).setCell (a:=⟨r,1,none⟩) hr x1).setCell (a:=⟨r,2,none⟩) hr x2).setCell (a:=⟨r,3,none⟩) hr x3).setCell (a:=⟨r,4,none⟩) hr x4).setCell (a:=⟨r,5,none⟩) hr x5
theorem Pg.fm_fits (S:Pg.Fs) (p:Int):Pg.fits (Pg.tFM S 0 p).p:=by
 unfold Pg.tFM
 split
 ·exact Pg.map_fits _ _ _
 ·unfold Pg.fits Pg.Mp.zz;simp
theorem Pg.pm_fits (S:Pg.Fs) (p r:Int):Pg.fits (Pg.prM S 0 p r).p:=by
 unfold Pg.prM
 split
 ·exact Pg.fm_fits S p
 ·unfold Pg.fits Pg.Mp.zz;simp
def chW (w:World) (x:Pg.Sx):World:=(w.alloc (.cells #[.int .i64 x.kind,.int .i64 x.core,.int .i64 x.m.p,.int .i64 x.m.s,.int .i64 x.m.f,.int .i64 x.m.r,.int .i64 x.q,.int .i64 x.k,.bool x.u] 43)).alloc (.cells #[.int .i64 0,.bool false,.int .i64 0,.int .i64 0,.int .i64 0,.bool false] 36)
structure ChW (w W:World) (x:Pg.Sx):Prop where
 bel:Below w.heap.size w W
 size:W.heap.size=w.heap.size+2
 x0:W.cell? ⟨w.heap.size,0,none⟩=some (.int .i64 x.kind)
 x1:W.cell? ⟨w.heap.size,1,none⟩=some (.int .i64 x.core)
 x2:W.cell? ⟨w.heap.size,2,none⟩=some (.int .i64 x.m.p)
 x3:W.cell? ⟨w.heap.size,3,none⟩=some (.int .i64 x.m.s)
 x4:W.cell? ⟨w.heap.size,4,none⟩=some (.int .i64 x.m.f)
 x5:W.cell? ⟨w.heap.size,5,none⟩=some (.int .i64 x.m.r)
 x6:W.cell? ⟨w.heap.size,6,none⟩=some (.int .i64 x.q)
 x7:W.cell? ⟨w.heap.size,7,none⟩=some (.int .i64 x.k)
 x8:W.cell? ⟨w.heap.size,8,none⟩=some (.bool x.u)
 ev:W.heap[w.heap.size+1]?=some (.cells #[.int .i64 0,.bool false,.int .i64 0,.int .i64 0,.int .i64 0,.bool false] 36 (0,0))
theorem chW_is (w:World) (x:Pg.Sx):ChW w (chW w x) x:=by
 refine⟨zA (zA (zR w) _) _,by simp[chW],?_,?_,?_,?_,?_,?_,?_,?_,?_,?_⟩
 iterate 9 (unfold chW;simp[go_sem])
 unfold chW
 exact(by simp:(w.alloc (.cells #[.int .i64 x.kind,.int .i64 x.core,.int .i64 x.m.p,.int .i64 x.m.s,.int .i64 x.m.f,.int .i64 x.m.r,.int .i64 x.q,.int .i64 x.k,.bool x.u] 43)).heap.size=w.heap.size+1)▸heap_alloc_new _ _
def SxFits (x:Pg.Sx):Prop:=Pg.fits x.m.p/\Pg.fits x.m.s/\Pg.fits x.m.f/\Pg.fits x.m.r/\Pg.fits x.q/\Pg.fits x.k
def Pg.Spc.walkOf (X:Pg.Spc) (k:Int):Pg.Wk:=if 0<=k then(X.C.getD k.toNat Pg.Cr.new).K else Pg.Wk.off
def Pg.Spc.linesOf (X:Pg.Spc) (k:Int):List Pg.Ln:=if 0<=k then(X.C.getD k.toNat Pg.Cr.new).L else []
end Go.Proofs.YtkhnelgommaioaaGreat
