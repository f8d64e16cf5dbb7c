import Derived.Test.YtkhnelgommaioaaGreatRows
import Derived.Test.YtkhnelgommaioaaGreatHeap
import Derived.ProofKit
import Derived.OpenShut
import Derived.Lib.SmallJoins
import Derived.Test.YtkhnelgommaioaaGreatPlainB
import Derived.Deep.Slices
import Derived.Laws.LoneSync
namespace Go.Proofs.YtkhnelgommaioaaGreat
open Go.ChangeShapes Go.WideShapes Go.ChangeAt Go.RowKit Go.Joins
set_option maxRecDepth 100000
theorem own:ownKnob Tryz.prog.godebug=none:=by kernel_rfl
theorem laidOut:laidOutB Tryz.prog=true:=by kernel_rfl
section
variable {H:Type} {enc:TypeId×Value->H} {W:World} {r:Reach} {b0 base:Nat} {spare:Nat->Bool} {held:Bool} {v:Value} {d:DataW H} {p:List MemPlace}
theorem openInt (hv:Value.okWide Tryz.prog W r b0 3 v) (h:DataW.Trod enc Tryz.prog W base spare held 3 v d p):
 ∃x:Int,v= .int .i64 x/\Pg.fits x:=by
 obtain⟨a,rfl,_,_,w⟩:=open_int Tryz.underlying3 hv h
 exact⟨a,rfl,Pg.fits_wf w⟩
theorem stays {W':World} {t:TypeId} (hr:Tryz.prog.readableRec t=true) (ht:t<Tryz.prog.types.size)
 (h:DataW.Trod enc Tryz.prog W 0 (fun _=>true) true t v d p) (hb:Below W.heap.size W W'):
 DataW.Trod enc Tryz.prog W' 0 (fun b=>decide (b<W.heap.size)) true t v d p:=
 Below.trod laidOut hr ht h hb (by obtain⟨m,hm⟩:=h;exact DataW.trod_lt m _ _ _ hm)
end
open Go.ChangeShapes Go.WideShapes Go.ChangeAt Go.RowKit Go.Joins Go.Deep
set_option linter.unusedVariables false
structure Bst where
 kind:Int
 core:Int
 m:Pg.Mp
 q:Int
 k:Int
 u:Bool
def Bst.zz:Bst:=⟨0,0,.zz,0,0,false⟩
def BstAt (W:World) (b o:Nat) (x:Bst):Prop:=
 W.cell? ⟨b,o,none⟩=some (.int .i64 x.kind)/\W.cell? ⟨b,o+1,none⟩=some (.int .i64 x.core)/\W.cell? ⟨b,o+2,none⟩=some (.int .i64 x.m.p)/\W.cell? ⟨b,o+3,none⟩=some (.int .i64 x.m.s)/\W.cell? ⟨b,o+4,none⟩=some (.int .i64 x.m.f)/\W.cell? ⟨b,o+5,none⟩=some (.int .i64 x.m.r)/\W.cell? ⟨b,o+6,none⟩=some (.int .i64 x.q)/\W.cell? ⟨b,o+7,none⟩=some (.int .i64 x.k)/\W.cell? ⟨b,o+8,none⟩=some (.bool x.u)
def BstFits (x:Bst):Prop:=Pg.fits x.m.p/\Pg.fits x.m.s/\Pg.fits x.m.f/\Pg.fits x.m.r/\Pg.fits x.q/\Pg.fits x.k
section
variable {H:Type} {enc:TypeId×Value->H} {W:World} {r:Reach} {b0 base:Nat} {spare:Nat->Bool} {held:Bool} {v:Value} {d:DataW H} {p:List MemPlace}
theorem openBsts (hv:Value.okWide Tryz.prog W r b0 22 v) (h:DataW.Trod enc Tryz.prog W base spare held 22 v d p):
 ∃(ad:Option Addr) (len cap:Nat) (q:Nat->Bst),v= .slice ad len cap/\
  ∀j,j<len->(∃b o,ad=some ⟨b,o,none⟩/\b<W.heap.size/\BstAt W b (o+j*9) (q j))/\BstFits (q j):=by
 obtain⟨a0,len,cap,rfl⟩:=okWide_slice Tryz.underlying22 hv
 obtain⟨fuel,hf⟩:=h
 have k9:Tryz.prog.cellsOf 43=9:=by kernel_rfl
 have k1:Tryz.prog.cellsOf 3=1:=by kernel_rfl
 have kb:Tryz.prog.cellsOf 4=1:=by kernel_rfl
 have km:Tryz.prog.cellsOf 39=4:=by kernel_rfl
 have ka:Tryz.prog.cellsOf 41=3:=by kernel_rfl
 rcases open_slice Tryz.underlying22 hf with ⟨e,_⟩|⟨a,len',cap',m,n,D,Pl,e,_,hl,hm,hmm,_,hx⟩
 ·simp[Value.cells]at e
  obtain⟨_,rfl,_⟩:=e
  exact⟨a0,0,cap,fun _=> .zz,rfl,fun j hj=>absurd hj (by omega)⟩
 ·simp[Value.cells]at e
  obtain⟨rfl,rfl,rfl⟩:=e
  have hlm:len<=m:=by rw[hmm];split<;>omega
  have each:∀i,i<len->∃x:Bst,(∃b o,some a=some ⟨b,o,none⟩/\b<W.heap.size/\BstAt W b (o+i*9) x)/\BstFits x:=by
   intro i hi
   obtain⟨cs0,g1,_⟩:=hx 0 (by omega)
   rw[k9]at g1
   obtain⟨_,glen,gcell⟩:=World.cells?_some g1
   obtain⟨u,c0⟩:∃u,W.cell? a=some u:=by
    have c0:=gcell 0 (by omega)
    rw[List.getElem?_eq_getElem (by omega)]at c0
    exact⟨_,by simpa[Addr.add]using c0⟩
   obtain⟨cs',h1,h2⟩:=hx i (by omega)
   rw[k9]at h1
   obtain⟨_,hlen,hcell⟩:=World.cells?_some h1
   obtain⟨xs,k,hk,hxy,_,hxl,hq⟩:=DataW.trod_struct Tryz.underlying43 h2
   match xs,hxl,cs',hlen with
   | [y0,y1,y2,y3],_,[v0,v1,v2,v3,v4,v5,v6,v7,v8],_=>
     have q0:=hq 0 _ rfl
     have q1:=hq 1 _ rfl
     have q2:=hq 2 _ rfl
     have q3:=hq 3 _ rfl
     simp[k1,km,ka]at q0 q1 q2 q3
     obtain⟨xm,kM,_,_,_,hml,hmq⟩:=DataW.trod_struct Tryz.underlying39 q2
     obtain⟨xa,kA,_,_,_,hal,haq⟩:=DataW.trod_struct Tryz.underlying41 q3
     match xm,hml,xa,hal with
     | [m0,m1,m2,m3],_,[n0,n1,n2],_=>
       have r0:=hmq 0 _ rfl
       have r1:=hmq 1 _ rfl
       have r2:=hmq 2 _ rfl
       have r3:=hmq 3 _ rfl
       have s0:=haq 0 _ rfl
       have s1:=haq 1 _ rfl
       have s2:=haq 2 _ rfl
       simp[k1]at r0 r1 r2 r3
       simp[k1,kb]at s0 s1 s2
       obtain⟨a0,e0,_,_⟩:=DataW.trod_int Tryz.underlying3 q0
       obtain⟨a1,e1,_,_⟩:=DataW.trod_int Tryz.underlying3 q1
       obtain⟨a2,e2,_,w2⟩:=DataW.trod_int Tryz.underlying3 r0
       obtain⟨a3,e3,_,w3⟩:=DataW.trod_int Tryz.underlying3 r1
       obtain⟨a4,e4,_,w4⟩:=DataW.trod_int Tryz.underlying3 r2
       obtain⟨a5,e5,_,w5⟩:=DataW.trod_int Tryz.underlying3 r3
       obtain⟨a6,e6,_,w6⟩:=DataW.trod_int Tryz.underlying3 s0
       obtain⟨a7,e7,_,w7⟩:=DataW.trod_int Tryz.underlying3 s1
       obtain⟨a8,e8,_⟩:=DataW.trod_bool Tryz.underlying4 s2
       simp at e0 e1 e2 e3 e4 e5 e6 e7 e8
       subst e0 e1 e2 e3 e4 e5 e6 e7 e8
       have d0:=hcell 0 (by omega)
       have d1:=hcell 1 (by omega)
       have d2:=hcell 2 (by omega)
       have d3:=hcell 3 (by omega)
       have d4:=hcell 4 (by omega)
       have d5:=hcell 5 (by omega)
       have d6:=hcell 6 (by omega)
       have d7:=hcell 7 (by omega)
       have d8:=hcell 8 (by omega)
       have hsp:a.spot=none:=by
        obtain⟨_,_,_,_,hs⟩:=World.shape?_of_cell? c0
        exact hs
       obtain⟨b,o,sp⟩:=a
       cases hsp
       have hlt:b<W.heap.size:=World.block_lt_of_cell? _ _ c0
       have ha:∀x y:Nat,((⟨b,o,none⟩:Addr).add x).add y=⟨b,o+x+y,none⟩:=by
        intro x y
        unfold Addr.add
        split<;>split<;>simp_all<;>omega
       rw[ha]at d0 d1 d2 d3 d4 d5 d6 d7 d8
       exact⟨⟨a0,a1,⟨a2,a3,a4,a5⟩,a6,a7,a8⟩,⟨b,o,rfl,hlt,by simpa using d0,by simpa using d1,by simpa using d2,by simpa using d3,by simpa using d4,by simpa using d5,by simpa using d6,by simpa using d7,by simpa using d8⟩,Pg.fits_wf w2,Pg.fits_wf w3,Pg.fits_wf w4,Pg.fits_wf w5,Pg.fits_wf w6,Pg.fits_wf w7⟩
  have _:Inhabited Bst:=⟨.zz⟩
  obtain⟨q,hq⟩:=choose_lt each
  exact⟨some a,len,cap,q,rfl,hq⟩
end
end Go.Proofs.YtkhnelgommaioaaGreat
