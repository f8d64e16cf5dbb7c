import Derived.Test.YtdphiompijbelaaGreatLineRow
import Derived.Lib.Overlaps
import Derived.Lib.SliceRun
import Derived.Shelf.RegionOpenPlain
import Derived.Deep.LoopGhost
import Derived.ChangeKeysEq
set_option linter.all false
set_option maxRecDepth 100000
open Nat renaming le_refl->kO,zero_le->kK,zero_add->kH,add_zero->ki
open Go.Obj renaming cells->kI
open Go.RowKit renaming Hid->q
open Go renaming World->D,Value->kS,Calls->kY,bodyPost_ret->kz
open Go.Ending renaming returned->X
open List renaming length_take->O,length_drop->K,length_append->M,drop_drop->kJ,toList_toArray->kP,size_toArray->kC,take_append_of_le_length->kR,length_eq_zero_iff->kF,take_of_length_le->kU,filter_eq_self->kX,getElem?_drop->kE,getElem?_take->kD,drop_take->kW
open Array renaming length_toList->Z,getElem?_eq_some_iff->E
open Bool renaming false->V,true->kZ
open Go.Proofs.Tryz renaming prog->Y
open Go.World renaming cell?_setCell_other->C,cell?_of_block->H,block_lt_of_cell?->kV,frozen?->ky
open Option renaming none->S,some->Q
open Go.Value renaming int->J,bool->N,slice->U,int->kN,agg->kT,pointer->kQ,tuple->kL,slice->kG,agg->kp
open Go.IntKind renaming i64->I
set_option maxHeartbeats 4000000
namespace Go.Proofs.YtdphiompijbelaaGreat
open Go.RowKit Go.Sort
section
theorem jl:(Tryz.prog.info? 139).map (fun i=>(i.zero,i.size,i.bytes))=Q (Q (kp #[J I 0,J I 0,J I 0,J I 0,N V]),5,40):=by kernel_rfl
theorem yca {vb:kS} {L:List Pg.Ln} (w:D) (hr:w.ownsRow 0 139 5 vb L.length (zL L)) (hlen:L.length<=6):
 kY Y 119 #[vb] w fun e w'=>∃v',e=X v'/\w'.ownsRow w.heap.size 139 5 v' L.length (zL L)/\Below w.heap.size w w':=by
 have q58:∀(w:D) (a:Option Addr) (n c n' c':Nat),(binOp .eql 61 (U a n c) (U S n' c')).run Y w= .ok (N a.isNone) w:=fun w a n c n' c'=>Lib.run_eql_slice_nil w _ _ a n c n' c' Tryz.underlying61;rcases hr.2 with ⟨rfl,h0⟩|⟨g,cap,cur,rfl,_,hg,hrest⟩
 ·have hL:L=[]:=kF.1 h0
  subst hL;clear hr
  go_enter Tryz.func119,Tryz.ntmps119
  go_wp2_with fail
  go_ret
  exact⟨_,rfl,World.ownsRow_nil _ _ _ _,zR _⟩
 ·obtain⟨q0,hqi,hz0,hz1,hz2⟩:=info_parts jl
  have hcells:q _:=hr.cells (g:=g) rfl;have hgl:g<w.heap.size:=(E.1 hg).1;clear hr hg hrest
  go_enter Tryz.func119,Tryz.ntmps119
  go_wp2_with (at_builtin;refine wpList_append_own _ rfl _ _ 61 rfl w.heap.size 139 q0 _ 5 40 Tryz.underlying61 hqi hz0 hz1 hz2 rfl (by decide) _ _ _ rfl (World.ownsRow_made w #[] 0 (kO _) (kK _) (by simp)) ⟨g,0,S⟩ L.length cap (zL L) rfl (qa L) ?c1 (jR L) ?c3 ?c4 ?c5 ?_)
  case c1=>
   intro j u hj;have:=hcells.out j u hj;exact(Below.cell (p:=(⟨g,0,S⟩:Addr).add j) (zA (zR w) _) (kV _ _ this)).trans this
  case c3=>unfold maxLen;omega
  case c4=>omega
  case c5=>simp
  intro v' w1 hown hgrow hnil
  have hown':q (w1.ownsRow w.heap.size 139 5 v' L.length (zL L)):=by simpa[q]using hown
  have hb:q (Below w.heap.size w w1):=((But.refl (fun _=>False) w).alloc _).grown hgrow (fun k hk=> .inl (by simp[Value.ownBlock]at hk;omega))|>.below (kO _) (fun _ h=>h.elim);clear hown hgrow hnil
  go_wp2_with fail
  go_ret
  exact⟨v',rfl,hown'.out,hb.out⟩
theorem vp {ad:Option Addr} {cap:Nat} {L:List Pg.Ln} (P:Pg.Ln->Bool) (f:FuncId) (cb:Array kS) (w:D) (hr:xh w ad L) (hlen:L.length<=6) (ef:∀args w,(callFunc f args).run Y w= .ok (.enter f args) w)
 (hf:∀(j:Nat) (w':D),j<L.length->Below w.heap.size w w'->kY Y f (#[(L.getD j .zz).val]++cb) w' fun e w''=>e=X (N (P (L.getD j .zz)))/\Below w'.heap.size w' w''):
 kY Y 176 #[U ad L.length cap,.func (.func f) #[] cb] w fun e w'=>e=X (J I (Pg.idxN L P))/\Below w.heap.size w w':=by
 have HR:q _:=hr;have HF:q _:=hf;clear hr hf
 go_enter Tryz.func176,Tryz.ntmps176
 go_wp2_with fail
 go_loopg [5,8] L.length (fun gg _ s8 wr=>∃k:Nat,k<=L.length/\L.length-k<=gg/\s8=J I k/\q (Below w.heap.size w wr/\∀j,j<k->P (L.getD j .zz)=V))
 case atStart=>exact⟨0,kK _,by omega,rfl,zR _,fun j hj=>absurd hj (Nat.not_lt_zero _)⟩
 case round=>
  obtain⟨k,hk,hg,rfl,HB⟩:=hrel
  by_cases hlt:k<L.length
  ·obtain⟨g,o,rfl,hgl,hm⟩:=xh.below HR.out HB.out.1 k hlt
   obtain⟨m0,m1,m2,m3,m4⟩:=hm
   have i0:(0:Int)<=(k:Int):=by omega
   have i1:(k:Int)<(L.length:Int):=by omega
   have hc:=HF.out k wr hlt HB.out.1;cases hp:P (L.getD k .zz)
   ·have fin:q (∀j,j<k+1->P (L.getD j .zz)=V):=fun j hj=>by
     by_cases e:j=k
     ·rw[e];exact hp
     ·exact HB.out.2 j (by omega)
    rw[hp]at hc;clear hp HF HR;generalize L.getD k .zz=x at*;obtain⟨⟨p,s,fr,r⟩,d⟩:=x;simp only[Pg.Ln.val]at hc;simp only at m0 m1 m2 m3 m4
    go_wp2_with (go_at_fn f;refine hc.mono ?_;rintro e w' ⟨rfl,hb⟩)
    go_roundg (L.length-(k+1))
    case measure=>omega
    case rel=>exact⟨k+1,by omega,by omega,by go_num,zT HB.out.1 hb,fin.out⟩
   ·have fin:q (Pg.idxN L P=(k:Int)):=by
     show Pg.idxN L P=(k:Int)
     unfold Pg.idxN;rw[Pg.yic hlt hp HB.out.2]
    rw[hp]at hc;clear hp HF HR;generalize L.getD k .zz=x at*;obtain⟨⟨p,s,fr,r⟩,d⟩:=x;simp only[Pg.Ln.val]at hc;simp only at m0 m1 m2 m3 m4
    go_wp2_with (go_at_fn f;refine hc.mono ?_;rintro e w' ⟨rfl,hb⟩)
    go_ret
    exact⟨xJ fin.out.symm,zT HB.out.1 hb⟩
  ·have i1:¬(k:Int)<(L.length:Int):=by omega
   have fin:q (Pg.idxN L P= -1):=by
    show Pg.idxN L P= -1
    unfold Pg.idxN;rw[Pg.yib fun j hj=>HB.out.2 j (by omega)]
   go_wp2_with fail
   go_ret
   exact⟨xJ fin.out.symm,HB.out.1⟩
theorem yfQ {l:List kS} {o:Nat} (h:o+5<=l.length) (x0 x1 x2 x3 x4:kS):
 ((((l.set o x0).set (o+1) x1).set (o+2) x2).set (o+3) x3).set (o+4) x4=l.take o++[x0,x1,x2,x3,x4]++l.drop (o+5):=by
 have e:l=l.take o++l.drop o:=(List.take_append_drop o l).symm
 have hl:(l.take o).length=o:=by rw[O];omega
 have hd:5<=(l.drop o).length:=by rw[K];omega
 have e5:l.drop (o+5)=(l.drop o).drop 5:=by rw[kJ]
 rw[e5];generalize l.take o=A at*;generalize l.drop o=B at*;subst e
 match B,hd with
 | a0::a1::a2::a3::a4::R,_=>simp[List.set_append_right,hl]
theorem ycJ {w:D} {g o:Nat} {cu:Array kS} {T:TypeId} (hg:w.heap[g]?=Q (kI cu T (0,0))) (h:o+5<=cu.size) (x0 x1 x2 x3 x4:kS):
 (((((w.setCell ⟨g,o,S⟩ x0).setCell ⟨g,o+1,S⟩ x1).setCell ⟨g,o+2,S⟩ x2).setCell ⟨g,o+3,S⟩ x3).setCell ⟨g,o+4,S⟩ x4).heap[g]?=Q (kI (cu.toList.take o++[x0,x1,x2,x3,x4]++cu.toList.drop (o+5)).toArray T (0,0))/\
 ∀(F:Nat->Prop) (w0:D),But F w0 w->(w0.heap.size<=g\/F g)->But F w0 (((((w.setCell ⟨g,o,S⟩ x0).setCell ⟨g,o+1,S⟩ x1).setCell ⟨g,o+2,S⟩ x2).setCell ⟨g,o+3,S⟩ x3).setCell ⟨g,o+4,S⟩ x4):=by
 refine⟨?_,fun F w0 hb hF=>((((hb.setCell (a:=⟨g,o,S⟩) hF x0).setCell (a:=⟨g,o+1,S⟩) hF x1).setCell (a:=⟨g,o+2,S⟩) hF x2).setCell (a:=⟨g,o+3,S⟩) hF x3).setCell (a:=⟨g,o+4,S⟩) hF x4⟩;rw[setCell_eq_setRow w g o cu T (0,0) x0 hg];rw[setCell_eq_setRow _ g (o+1) _ T (0,0) x1 (setRow_heap w g cu _ T _ hg),setRow_setRow];rw[setCell_eq_setRow _ g (o+2) _ T (0,0) x2 (setRow_heap w g cu _ T _ hg),setRow_setRow];rw[setCell_eq_setRow _ g (o+3) _ T (0,0) x3 (setRow_heap w g cu _ T _ hg),setRow_setRow];rw[setCell_eq_setRow _ g (o+4) _ T (0,0) x4 (setRow_heap w g cu _ T _ hg),setRow_setRow]
 have e:((((cu.setIfInBounds o x0).setIfInBounds (o+1) x1).setIfInBounds (o+2) x2).setIfInBounds (o+3) x3).setIfInBounds (o+4) x4=(cu.toList.take o++[x0,x1,x2,x3,x4]++cu.toList.drop (o+5)).toArray:=by
  apply Array.toList_inj.1
  simp only[Array.toList_setIfInBounds];exact yfQ (by rw[Z];exact h) x0 x1 x2 x3 x4
 rw[e];exact setRow_heap w g cu _ T _ hg
theorem yfi {c news:List kS} {i j n:Nat} (hn:news.length=5) (hi:i<=j) (hj:j<n) (hc:n*5<=c.length):
 (c.take (i*5)++news++c.drop (i*5+5)).length=c.length/\(c.take (i*5)++news++c.drop (i*5+5)).take ((i+1)*5)=c.take (i*5)++news/\
 ((c.take (i*5)++news++c.drop (i*5+5)).take (n*5)).drop ((j+1)*5)=(c.take (n*5)).drop ((j+1)*5):=by
 have h1:(c.take (i*5)).length=i*5:=by rw[O];omega
 have h2:(c.take (i*5)++news).length=i*5+5:=by rw[M,h1,hn]
 refine⟨by rw[M,h2,K];omega,?_,?_⟩
 ·rw[kR (by omega),kU (by omega)]
 ·rw[kW,kW,List.drop_append,h2,List.drop_eq_nil_of_le (by omega),List.nil_append,kJ]
  congr 2
  omega
theorem yeg (m:Nat):∀v,v ∈ (Builtin.zeroCells (kT #[J I 0,J I 0,J I 0,J I 0,N V]).cells m).toList->v.oneCell'=kZ:=by
 intro v hv
 have e:(kT #[J I 0,J I 0,J I 0,J I 0,N V]).cells=#[J I 0,J I 0,J I 0,J I 0,N V]:=by kernel_rfl
 rw[e]at hv;simp only[Builtin.zeroCells,Array.toList_map,List.mem_map]at hv;obtain⟨t,_,rfl⟩:=hv
 have ht:t%5=0\/t%5=1\/t%5=2\/t%5=3\/t%5=4:=by omega
 show(#[kN I 0,J I 0,J I 0,J I 0,N V]:Array kS)[t%5]!.oneCell'=kZ
 rcases ht with h|h|h|h|h<;>rw[h]<;>rfl
theorem yeM {w:D} {g cap n j:Nat} {cur:Array kS} {T:TypeId} {L:List Pg.Ln} (hg:w.heap[g]?=Q (kI cur T (0,0))) (hn:n=L.length) (hd:(cur.toList.take (n*5)).drop (j*5)=zL (L.drop j)) (hj:j<n):qi w g (j*5) (L.getD j .zz):=by
 have hc:∀i,i<5->w.cell? ⟨g,j*5+i,S⟩=(xC (L.getD j .zz))[i]?:=by
  intro i hi
  have h0:(L.drop j).getD 0 .zz=L.getD j .zz:=by simp[List.getD]
  have:=jK (L.drop j) 0 i (by rw[K];omega) hi;rw[h0,<-hd,kE,kD,if_pos (by omega)]at this;rw[cell_of_row w g (j*5+i) cur _ _ hg,<-this];simp
 have h0:=hc 0 (by omega);have h1:=hc 1 (by omega);have h2:=hc 2 (by omega);have h3:=hc 3 (by omega);have h4:=hc 4 (by omega);exact⟨by simpa[xC]using h0,by simpa[xC]using h1,by simpa[xC]using h2,by simpa[xC]using h3,by simpa[xC]using h4⟩
theorem ybV {ad:Option Addr} {cap:Nat} {L:List Pg.Ln} (P:Pg.Ln->Bool) (f:FuncId) (cb:Array kS) (w:D) (hr:w.ownsRow 0 139 5 (U ad L.length cap) L.length (zL L)) (hlen:L.length<=6) (ef:∀args w,(callFunc f args).run Y w= .ok (.enter f args) w)
 (hf:∀(j:Nat) (w':D),j<L.length->But (fun k=>(kG ad L.length cap).ownBlock=Q k) w w'->kY Y f (#[(L.getD j .zz).val]++cb) w' fun e w''=>e=X (N (P (L.getD j .zz)))/\Below w'.heap.size w' w''):
 kY Y 210 #[U ad L.length cap,.func (.func f) #[] cb] w fun e w'=>e=X (U ad (L.filter fun l=> !P l).length cap)/\w'.ownsRow 0 139 5 (U ad (L.filter fun l=> !P l).length cap) (L.filter fun l=> !P l).length (zL (L.filter fun l=> !P l))/\But (fun k=>(kG ad L.length cap).ownBlock=Q k) w w':=by
 have HF:q _:=hf;have HR:q (w.ownsRow 0 139 5 (U ad L.length cap) L.length (zL L)):=hr;have hI:=vp (cap:=cap) P f cb w (zl (zk.yhw hr)) hlen ef (fun j w' hj hb=>hf j w' hj (But.ygr hb))
 cases hx:L.findIdx? P with
 | none=>
   have e1:Pg.idxN L P= -1:=by simp only[Pg.idxN,hx]
   have e2:(L.filter fun l=> !P l)=L:=kX.2 fun l hl=>by simp[Pg.idx_of_none hx l hl]
   rw[e1]at hI;rw[e2];clear e1 e2 hx hf hr HF
   go_enter Tryz.func210,Tryz.ntmps210
   go_wp2_with (go_at_call 176;refine hI.mono ?_;rintro e w1 ⟨rfl,hb1⟩)
   go_ret
   exact⟨rfl,zj HR.out hb1,But.ygr hb1⟩
 | some k=>
   obtain⟨hkl,hk1,hk2⟩:=Pg.idx_of_some hx
   have e1:Pg.idxN L P=(k:Int):=by simp only[Pg.idxN,hx]
   rw[e1]at hI
   obtain⟨g,cap0,cur,hv,_,hg,hc1,hc2,hc3,hc4⟩:∃g cap0 cur,kG ad L.length cap=U (Q ⟨g,0,S⟩) L.length cap0/\0<=g/\w.heap[g]?=Q (kI cur 139 (0,0))/\L.length<=cap0/\cap0<=maxLen/\cur.size=cap0*5/\cur.toList.take (L.length*5)=zL L:=by
    rcases hr.2 with ⟨_,e0⟩|h
    ·omega
    ·exact h
   cases hv
   have hcm:cap<=9223372036854775807:=by unfold maxLen at hc2;omega
   have hgl:g<w.heap.size:=(E.1 hg).1
   have hft:(L.take k).filter (fun l=> !P l)=L.take k:=kX.2 fun l hl=>by
    obtain⟨t,ht,rfl⟩:=List.mem_iff_getElem.1 hl
    have h2:t<k:=by rw[O]at ht;omega
    have:=hk2 t h2;rw[Pg.yhG (by omega)]at this;rw[List.getElem_take];simp[this]
   have hS:q ((L.take (k+1)).filter (fun l=> !P l)=L.take k):=by
    show(L.take (k+1)).filter (fun l=> !P l)=L.take k
    rw[Pg.ygT hkl (by rw[hk1];rfl),hft]
   have hS2:q (k=(L.take k).length):=by show k=(L.take k).length;rw[O];omega
   have hS3:q (cur.toList.take (k*5)=zL (L.take k)):=by
    show cur.toList.take (k*5)=zL (L.take k)
    rw[<-(xH L k).1,<-hc4,List.take_take];congr 1;omega
   have hS4:q ((cur.toList.take (L.length*5)).drop ((k+1)*5)=zL (L.drop (k+1))):=by
    show(cur.toList.take (L.length*5)).drop ((k+1)*5)=zL (L.drop (k+1))
    rw[hc4,(xH L (k+1)).2]
   have HG:q (w.heap[g]?=Q (kI cur 139 (0,0))/\cur.size=cap*5):=⟨hg,hc3⟩
   have i0:(0:Int)<=(k:Int):=by omega
   have i1:((k:Int)== -1)=V:=by simp
   clear e1 hx hf hr HR hk1 hk2 hft hc4 hg hc3
   go_enter Tryz.func210,Tryz.ntmps210
   go_wp2_with (go_at_call 176;refine hI.mono ?_;rintro e w1 ⟨rfl,hb1⟩)
   have HB1:q (But (fun k=>k=g) w w1):=But.ygr hb1;have HG1:q (w1.heap[g]?=Q (kI cur 139 (0,0))/\cur.size=cap*5):=⟨(hb1.block g hgl).trans HG.out.1,HG.out.2⟩;clear hb1 hI HG
   go_loopg [5,6,7] L.length (fun gg s5 s6 _ wr=>∃i j:Nat,∃cu:Array kS,i<j/\j<=L.length/\L.length-j<=gg/\s5=J I i/\s6=J I j/\
    q (i=((L.take j).filter (fun l=> !P l)).length/\cu.toList.take (i*5)=zL ((L.take j).filter (fun l=> !P l))/\(cu.toList.take (L.length*5)).drop (j*5)=zL (L.drop j)/\wr.heap[g]?=Q (kI cu 139 (0,0))/\cu.size=cap*5/\But (fun k=>k=g) w wr))
   case atStart=>exact⟨k,k+1,cur,by omega,by omega,by omega,rfl,by go_num,by rw[hS.out];exact hS2.out,by rw[hS.out];exact hS3.out,hS4.out,HG1.out.1,HG1.out.2,HB1.out⟩
   case round=>
    obtain⟨i,j,cu,hij,hjl,hgg,rfl,rfl,HI⟩:=hrel;clear hS hS2 hS3 hS4 HG1 HB1
    by_cases hlt:j<L.length
    ·obtain⟨m0,m1,m2,m3,m4⟩:=yeM (cap:=cap) HI.out.2.2.2.1 rfl HI.out.2.2.1 hlt
     have j0:(0:Int)<=(j:Int):=by omega
     have j1:(j:Int)<(L.length:Int):=by omega
     have n0:(0:Int)<=(i:Int):=by omega
     have n1:(i:Int)<(L.length:Int):=by omega
     have hc:=fun w' hb=>HF.out j w' hlt hb;cases hp:P (L.getD j .zz)
     ·rw[hp]at hc
      have HS:q _:=Pg.yg3 (P:=fun l=> !P l) hlt (by simp only[hp];rfl);clear hp;generalize L.getD j .zz=x at*;obtain⟨⟨p,s,fr,r⟩,d⟩:=x;simp only[Pg.Ln.val]at hc;simp only at m0 m1 m2 m3 m4
      go_wp2_with fail
      refine(hc _ ?hb).mono ?_
      case hb=>exact((HI.out.2.2.2.2.2).alloc _).mono (fun i _ hi=>by rw[hi];rfl)
      rintro e w2 ⟨rfl,hb2⟩;have y:∀o,w2.cell? ⟨wr.heap.size,o,S⟩=_:=fun o=>hb2.cell (p:=⟨wr.heap.size,o,S⟩) (by simp);have z0:w2.cell? ⟨wr.heap.size,0,S⟩=Q (J I p):=(y 0).trans (by simp[go_sem]);have z1:w2.cell? ⟨wr.heap.size,1,S⟩=Q (J I s):=(y 1).trans (by simp[go_sem]);have z2:w2.cell? ⟨wr.heap.size,2,S⟩=Q (J I fr):=(y 2).trans (by simp[go_sem]);have z3:w2.cell? ⟨wr.heap.size,3,S⟩=Q (J I r):=(y 3).trans (by simp[go_sem]);have z4:w2.cell? ⟨wr.heap.size,4,S⟩=Q (N d):=(y 4).trans (by simp[go_sem]);have hbb:Below wr.heap.size wr w2:=zT (zA (zR _) _) hb2;have hgr:g<wr.heap.size:=(E.1 HI.out.2.2.2.1).1;have hg2:w2.heap[g]?=Q (kI cu 139 (0,0)):=(hbb.block g hgr).trans HI.out.2.2.2.1;have HG2:q (w2.heap[g]?=Q (kI cu 139 (0,0))):=hg2;have hB2:q (But (fun k=>k=g) w w2):=(HI.out.2.2.2.2.2).trans (But.ygr (F:=fun k=>k=g) hbb) (fun _ _ h=>h)
      have hfr:∀o,w2.frozen? ⟨g,o,S⟩=V:=fun o=>by unfold ky;simp only[hg2];simp
      have hsz:i*5+4<cu.size:=by rw[HI.out.2.2.2.2.1];omega
      have u:∀t,t<5->w2.cell? ⟨g,i*5+t,S⟩=Q (cu.getD (i*5+t) undef):=fun t ht=>by
       rw[cell_of_row w2 g (i*5+t) cu _ _ hg2];simp[show i*5+t<cu.size by omega]
      have u0:=u 0 (by omega);have u1:=u 1 (by omega);have u2:=u 2 (by omega);have u3:=u 3 (by omega);have u4:=u 4 (by omega);simp only[ki]at u0;clear y hb2 hbb u hg2 hc m0 m1 m2 m3 m4;have fin:q _:=ycJ HG2.out (show i*5+5<=cu.size by omega) (J I p) (J I s) (J I fr) (J I r) (N d);obtain⟨r1,r2,r3⟩:=yfi (c:=cu.toList) (news:=[J I p,J I s,J I fr,J I r,N d]) (i:=i) (j:=j) (n:=L.length) rfl (by omega) hlt (by have h5:=HI.out.2.2.2.2.1;have h6:cu.toList.length=cu.size:=Z;omega)
      have FIN:q (i+1=((L.take (j+1)).filter (fun l=> !P l)).length/\(cu.toList.take (i*5)++[kN I p,J I s,J I fr,J I r,N d]++cu.toList.drop (i*5+5)).toArray.toList.take ((i+1)*5)=zL ((L.take (j+1)).filter (fun l=> !P l))/\((cu.toList.take (i*5)++[kN I p,J I s,J I fr,J I r,N d]++cu.toList.drop (i*5+5)).toArray.toList.take (L.length*5)).drop ((j+1)*5)=zL (L.drop (j+1))/\(cu.toList.take (i*5)++[kN I p,J I s,J I fr,J I r,N d]++cu.toList.drop (i*5+5)).toArray.size=cap*5):=by
       have hi:=HI.out.1;refine⟨?_,?_,?_,?_⟩
       ·rw[HS.out,M];simp;omega
       ·rw[HS.out,xv,kP,r2,HI.out.2.1];rfl
       ·rw[kP,r3,show(j+1)*5=j*5+5 by omega,<-kJ,HI.out.2.2.1]
        have:=(xH (L.drop j) 1).2;rw[kJ]at this;exact this
       ·rw[kC,r1,Z,HI.out.2.2.2.2.1]
      clear r1 r2 r3 HG2 hsz
      go_wp2_with fail
      go_roundg (L.length-(j+1))
      case measure=>omega
      case rel=>exact⟨i+1,j+1,_,by omega,by omega,by omega,by go_num,by go_num,FIN.out.1,FIN.out.2.1,FIN.out.2.2.1,fin.out.1,FIN.out.2.2.2,fin.out.2 _ _ hB2.out (.inr rfl)⟩
     ·rw[hp]at hc
      have HS:q _:=Pg.ygT (P:=fun l=> !P l) hlt (by simp only[hp];rfl)
      have HD:q ((cu.toList.take (L.length*5)).drop ((j+1)*5)=zL (L.drop (j+1))):=by
       show(cu.toList.take (L.length*5)).drop ((j+1)*5)=zL (L.drop (j+1))
       rw[show(j+1)*5=j*5+5 by omega,<-kJ,HI.out.2.2.1];have:=(xH (L.drop j) 1).2;rw[kJ]at this;exact this
      clear hp;generalize L.getD j .zz=x at*;obtain⟨⟨p,s,fr,r⟩,d⟩:=x;simp only[Pg.Ln.val]at hc;simp only at m0 m1 m2 m3 m4
      go_wp2_with fail
      refine(hc _ ?hb').mono ?_
      case hb'=>exact((HI.out.2.2.2.2.2).alloc _).mono (fun i _ hi=>by rw[hi];rfl)
      rintro e w2 ⟨rfl,hb2⟩;have hbb:Below wr.heap.size wr w2:=zT (zA (zR _) _) hb2;have hgr:g<wr.heap.size:=(E.1 HI.out.2.2.2.1).1;have HG2:q (w2.heap[g]?=Q (kI cu 139 (0,0))):=(hbb.block g hgr).trans HI.out.2.2.2.1;have hB2:q (But (fun k=>k=g) w w2):=(HI.out.2.2.2.2.2).trans (But.ygr (F:=fun k=>k=g) hbb) (fun _ _ h=>h);clear hb2 hbb hc m0 m1 m2 m3 m4
      go_wp2_with fail
      go_roundg (L.length-(j+1))
      case measure=>omega
      case rel=>exact⟨i,j+1,cu,by omega,by omega,by omega,rfl,by go_num,by rw[HS.out];exact HI.out.1,by rw[HS.out];exact HI.out.2.1,HD.out,HG2.out,HI.out.2.2.2.2.1,hB2.out⟩
    ·have j1:¬(j:Int)<(L.length:Int):=by omega
     have hjj:j=L.length:=by omega
     obtain⟨q0,hqi,hz0,hzz1,hzz2⟩:=info_parts jl;have hI1:=HI.out.1;have hI2:=HI.out.2.1;rw[hjj,List.take_length]at hI1 hI2
     have hclr:∀ty l c,l=L.length-i->(Builtin.clear_ #[61] ty #[U (Q ⟨g,i*5,S⟩) l c]).run Y wr= .ok (kL #[]) (wr.setRow g (cu.toList.take (i*5)++(Builtin.zeroCells (kT #[J I 0,J I 0,J I 0,J I 0,N V]).cells (L.length-i)).toList++cu.toList.drop (i*5+(L.length-i)*5)).toArray):=by
      intro ty l c hl;subst hl
      have hv:∀w,(zeroValue 139).run Y w= .ok (kp #[J I 0,J I 0,J I 0,J I 0,N V]) w:=fun w=>by simp[zeroValue,typeInfo,hqi,hz0]
      exact qX (P:=Y) wr 61 139 ty 139 _ Tryz.underlying61 hv g (i*5) (L.length-i) c (by omega) cu HI.out.2.2.2.1 (by
       show i*5+(L.length-i)*5<=cu.size
       rw[HI.out.2.2.2.2.1];omega) (yeg _)
     obtain⟨W2,hW2⟩:∃W2,W2=wr.setRow g (cu.toList.take (i*5)++(Builtin.zeroCells (kT #[J I 0,J I 0,J I 0,J I 0,N V]).cells (L.length-i)).toList++cu.toList.drop (i*5+(L.length-i)*5)).toArray:=⟨_,rfl⟩;rw[<-hW2]at hclr
     have FIN:q (W2.ownsRow 0 139 5 (U (Q ⟨g,0,S⟩) (L.filter fun l=> !P l).length cap) (L.filter fun l=> !P l).length (zL (L.filter fun l=> !P l))/\But (fun k=>k=g) w W2/\i=(L.filter fun l=> !P l).length):=by
      have hzl:(Builtin.zeroCells (kT #[J I 0,J I 0,J I 0,J I 0,N V]).cells (L.length-i)).toList.length=(L.length-i)*5:=by rw[Z,size_zeroCells];rfl
      have htl:(cu.toList.take (i*5)).length=i*5:=by rw[O,Z,HI.out.2.2.2.2.1];omega
      refine⟨⟨qa _,.inr ⟨g,cap,_,rfl,kK _,by rw[hW2];exact setRow_heap wr g cu _ _ _ HI.out.2.2.2.1,by omega,hc2,?_,?_⟩⟩,by rw[hW2];exact(HI.out.2.2.2.2.2).setRow (.inr rfl) _,hI1⟩
      ·rw[kC,M,M,htl,hzl,K]
       have h5:=HI.out.2.2.2.2.1;have h6:cu.toList.length=cu.size:=Z;omega
      ·rw[<-hI1,kP,List.append_assoc,kR (by omega),kU (by omega),hI2]
     have n0:(0:Int)<=(i:Int):=by omega
     have n1:(i:Int)<=(L.length:Int):=by omega
     have n2:¬(cap=i):=by omega
     have n3:(i:Int)<=(cap:Int):=by omega
     clear hW2 hI1 hI2 hqi hz0 hzz1 hzz2 HI HF
     go_wp2_with (at_builtin;refine xB _ rfl _ 61 rfl _ rfl (hclr _ _ _ rfl) ?_)
     go_ret
     refine⟨?_,FIN.out.1,FIN.out.2.1.mono fun i _ hi=>by rw[hi];rfl⟩;rw[<-FIN.out.2.2];rfl
theorem ya4 {g cap n:Nat} {cur:Array kS} {xs:List kS} (w:D) (hg:w.heap[g]?=Q (kI cur 139 (0,0))) (hn:n<=6) (hk:0<n) (hcap0:n<=cap) (hcap:cap<=9223372036854775807)
 (hcs:cur.size=cap*5) (hx:cur.toList.take (n*5)=xs) (h1x:∀u,u ∈ xs->u.oneCell'=kZ):
 kY Y 185 #[U (Q ⟨g,0,S⟩) n cap,J I 0,J I 1] w fun e w'=>e=X (U (Q ⟨g,0,S⟩) (n-1) cap)/\
  w'.ownsRow 0 139 5 (U (Q ⟨g,0,S⟩) (n-1) cap) (n-1) (xs.drop 5)/\But (fun j=>j=g) w w':=by
 obtain⟨q0,hqi,hz0,hzz1,hzz2⟩:=info_parts jl
 have hxl:xs.length=n*5:=by rw[<-hx,O,Z,hcs];omega
 have hdl:(xs.drop 5).length=(n-1)*5:=by rw[K,hxl];omega
 have hcx:∀j u,xs[j]?=Q u->w.drew.cell? ⟨g,j,S⟩=Q u:=fun j u hu=>by
  rw[cell_of_row w.drew g j cur _ _ hg];rw[<-hx,kD]at hu;split at hu
  ·simpa using hu
  ·cases hu
 obtain⟨C1,hC1⟩:∃C1:List kS,C1=cur.toList.take (0*5)++xs.drop 5++cur.toList.drop (0*5+(xs.drop 5).length):=⟨_,rfl⟩
 have hC1l:C1.length=cap*5:=by rw[hC1];simp only[M,O,K,Z,hcs,hxl];omega
 obtain⟨W1,hW1⟩:∃W1,W1=w.drew.setRow g C1.toArray:=⟨_,rfl⟩
 have hap:∀ty o l c,l=n-1->(o=5\/n=1)->(Builtin.append_ #[61,61] ty #[U (Q ⟨g,0,S⟩) 0 cap,U (Q ⟨g,o,S⟩) l c]).run Y w.drew= .ok (U (Q ⟨g,0,S⟩) (n-1) cap) W1:=by
  intro ty o l c hl ho;subst hl
  have:=run_append_room (P:=Y) w.drew 61 ty 139 q0 Tryz.underlying61 hqi g 0 cap cur hg ⟨g,o,S⟩ (n-1) c (xs.drop 5) (by rw[hdl,hzz1])
   (fun j u hj=>by
     rcases ho with rfl|ho
     ·rw[Addr.add_lit];exact hcx (5+j) u (by rwa [kE]at hj)
     ·have h0:(xs.drop 5).length=0:=by rw[hdl];omega
      rw[kF.1 h0]at hj
      simp at hj) (fun u hu=>h1x u (List.mem_of_mem_drop hu)) (by omega) (by rw[hdl,hzz1,hcs];omega)
  rw[hzz1,<-hC1,<-hW1,show 0+(n-1)=n-1 by omega]at this;exact this
 have hg1:W1.heap[g]?=Q (kI C1.toArray 139 (0,0)):=by rw[hW1];exact setRow_heap w.drew g cur _ _ _ hg
 have hB1:But (fun j=>j=g) w W1:=by rw[hW1];exact(But.refl (fun j=>j=g) w).drew.setRow (.inr rfl) _
 obtain⟨W2,hW2⟩:∃W2,W2=W1.setRow g (C1.take ((n-1)*5)++[kN I 0,J I 0,J I 0,J I 0,N V]++C1.drop ((n-1)*5+5)).toArray:=⟨_,rfl⟩
 have hclr:∀ty o l c,o=(n-1)*5->l=1->(Builtin.clear_ #[61] ty #[U (Q ⟨g,o,S⟩) l c]).run Y W1= .ok (kL #[]) W2:=by
  intro ty o l c ho hl;subst ho hl
  have hzl:(Builtin.zeroCells (kT #[J I 0,J I 0,J I 0,J I 0,N V]).cells 1).toList=[J I 0,J I 0,J I 0,J I 0,N V]:=by kernel_rfl
  have hv:∀w,(zeroValue 139).run Y w= .ok (kp #[J I 0,J I 0,J I 0,J I 0,N V]) w:=fun w=>by simp[zeroValue,typeInfo,hqi,hz0]
  have:=qX (P:=Y) W1 61 139 ty 139 _ Tryz.underlying61 hv g ((n-1)*5) 1 c (by decide) C1.toArray hg1 (by
   show(n-1)*5+1*5<=C1.toArray.size
   simp only[kC,hC1l]
   omega) (by rw[hzl];decide)
  rw[hzl]at this;rw[this,hW2];rfl
 have hg2:W2.heap[g]?=Q (kI (C1.take ((n-1)*5)++[kN I 0,J I 0,J I 0,J I 0,N V]++C1.drop ((n-1)*5+5)).toArray 139 (0,0)):=by rw[hW2];exact setRow_heap W1 g _ _ _ _ hg1
 have HB:q (But (fun j=>j=g) w W2):=by rw[hW2];exact hB1.setRow (.inr rfl) _
 have HO:q (W2.ownsRow 0 139 5 (U (Q ⟨g,0,S⟩) (n-1) cap) (n-1) (xs.drop 5)):=by
  have e:=yeN (c:=cur.toList) (xs:=xs) (zs:=[kN I 0,J I 0,J I 0,J I 0,N V]) (z:=5) (n:=n) (k:=0) hk (by rw[Z,hcs];omega) hx;simp only[kH,Nat.one_mul]at e hC1;simp only[<-hC1]at e;refine⟨hdl,.inr ⟨g,cap,_,rfl,kK _,hg2,by omega,by unfold maxLen;omega,?_,?_⟩⟩
  ·simp only[kC,O,M,K,hC1l,List.length_cons,List.length_nil];omega
  ·rw[kP,e];simp
 have hb1:(1:Int)<=(n:Int):=by omega
 have hb4:(0:Int)<=(cap:Int):=by omega
 have hb6:n-1<=n:=by omega
 have hb7:n-(n-1)=1:=by omega
 have hb8:¬(cap=n-1):=by omega
 clear hg hx h1x hcx hC1 hC1l hW1 hg1 hB1 hW2 hg2 hcs hxl hdl hqi hz0 hzz1 hzz2
 by_cases hck:cap=1
 ·obtain rfl:n=1:=by omega
  subst hck;have HO':q (W2.ownsRow 0 139 5 (U (Q ⟨g,0,S⟩) 0 1) 0 (xs.drop 5)):=HO.out;simp only[Nat.sub_self]at hap hclr ⊢;clear HO hb1 hb4 hb6 hb7 hb8
  go_enter Tryz.func185,Tryz.ntmps185
  go_wp2_with fail
  go_region_law (refine zZ rfl (.tmp 22) (.tmp 25) 61 61 rfl (U (Q ⟨g,0,S⟩) 0 1) (U (Q ⟨g,0,S⟩) 0 0) (by simp[Act.eval,Act.put]) (by simp[Act.eval,Act.put]) (hap _ _ _ _ rfl (.inr trivial)) ?_)
  go_wp2_with (at_builtin;refine xB _ rfl _ 61 rfl _ rfl (hclr _ _ _ _ (by omega) (by omega)) ?_)
  go_ret
  exact⟨rfl,HO'.out,HB.out⟩
 ·go_enter Tryz.func185,Tryz.ntmps185
  go_wp2_with fail
  go_region_law (refine zZ rfl (.tmp 22) (.tmp 25) 61 61 rfl (U (Q ⟨g,0,S⟩) 0 cap) (U (Q ⟨g,5,S⟩) (n-1) (cap-1)) (by simp[Act.eval,Act.put]) (by simp[Act.eval,Act.put]) (hap _ _ _ _ rfl (.inl rfl)) ?_)
  go_wp2_with (at_builtin;refine xB _ rfl _ 61 rfl _ rfl (hclr _ _ _ _ (by omega) (by omega)) ?_)
  go_ret
  exact⟨rfl,HO.out,HB.out⟩
theorem ya3 {vb:kS} {L:List Pg.Ln} (w:D) (hr:w.ownsRow 0 139 5 vb L.length (zL L)) (hn:L.length<=6) (hk:0<L.length):
 kY Y 185 #[vb,J I 0,J I 1] w fun e w'=>∃g cap,vb=U (Q ⟨g,0,S⟩) L.length cap/\e=X (U (Q ⟨g,0,S⟩) (L.length-1) cap)/\w'.ownsRow 0 139 5 (U (Q ⟨g,0,S⟩) (L.length-1) cap) (L.drop 1).length (zL (L.drop 1))/\But (fun j=>vb.ownBlock=Q j) w w':=by
 obtain⟨_,hrr⟩:=hr;rcases hrr with ⟨_,e0⟩|⟨g,cap,cur,rfl,_,hg,hc1,hc2,hc3,hc4⟩
 ·omega
 ·refine(ya4 w hg hn hk hc1 (by unfold maxLen at hc2;omega) hc3 hc4 (jR L)).mono ?_
  rintro e w' ⟨rfl,h1,h2⟩;refine⟨g,cap,rfl,rfl,?_,h2.mono fun i _ hi=>by rw[hi];rfl⟩;rw[<-(xH L 1).2,K];exact h1
namespace Pg
def yhP (f:Nat->Bool):Bool:= !f 0&&(!f 1&&(!f 2&& !f 3))
def ygO (f:Nat->Bool) (k:Int):Bool:=decide (0<=k)&&(decide (k<4)&&f k.toNat)
def yho (n:Nat) (f:Nat->Bool):Nat->Bool:=fun j=>decide (j<n)||f j
def yiB (k:Nat) (f:Nat->Bool):Nat->Bool:=fun j=>if j=k then V else f j
theorem shOver_iff {f:Nat->Bool}:yhP f=kZ ↔ ∀k,k<4->f k=V:=by
 simp only[yhP,Bool.and_eq_true,Bool.not_eq_true'];constructor
 ·rintro ⟨h0,h1,h2,h3⟩ k hk
  have:k=0\/k=1\/k=2\/k=3:=by omega
  rcases this with rfl|rfl|rfl|rfl<;>assumption
 ·intro h
  exact⟨h 0 (by omega),h 1 (by omega),h 2 (by omega),h 3 (by omega)⟩
end Pg
theorem But.set4 {F:Nat->Prop} {w w1:D} (h:But F w w1) (r:Nat) (hr:w.heap.size<=r\/F r) (v0 v1 v2 v3:kS):
 But F w ((((w1.setCell ⟨r,0,S⟩ v0).setCell ⟨r,1,S⟩ v1).setCell ⟨r,2,S⟩ v2).setCell ⟨r,3,S⟩ v3):=
 (((h.setCell (a:=⟨r,0,S⟩) hr v0).setCell (a:=⟨r,1,S⟩) hr v1).setCell (a:=⟨r,2,S⟩) hr v2).setCell (a:=⟨r,3,S⟩) hr v3
structure jh (w:D) (b:Nat) (m:Pg.Mp) (f:Nat->Bool):Prop where
 cm:yel w b 0 m
 cw:∀k,k<4->w.cell? ⟨b,4+k,S⟩=Q (N (f k))
 fz:∀p,w.frozen? ⟨b,p,S⟩=V
namespace jh
variable {w w':D} {b:Nat} {m m':Pg.Mp} {f f':Nat->Bool}
theorem lb (h:jh w b m f):b<w.heap.size:=kV _ _ h.cm.1
theorem keep (h:jh w b m f) {G:Nat->Prop} (hb:But G w w') (hF:¬G b):jh w' b m f:=by
 have kb:=hb.block b h.lb hF;exact⟨⟨(H kb).trans h.cm.1,(H kb).trans h.cm.2.1,(H kb).trans h.cm.2.2.1,(H kb).trans h.cm.2.2.2⟩,fun k hk=>(H kb).trans (h.cw k hk),fun p=>(World.frozen?_of_block kb).trans (h.fz p)⟩
theorem grow (h:jh w b m f) (hb:Below w.heap.size w w'):jh w' b m f:=h.keep (G:=fun _=>False) (But.ygr hb) id
theorem set (h:jh w b m f) {k:Nat} (hk:k<4) (v:Bool):jh (w.setCell ⟨b,4+k,S⟩ (N v)) b m (fun j=>if j=k then v else f j):=by
 have hne:∀o,o<4->(⟨b,4+k,S⟩:Addr)≠⟨b,o,S⟩:=fun o ho e=>by injection e with _ e;omega
 obtain⟨c0,c1,c2,c3⟩:=h.cm;refine⟨⟨?_,?_,?_,?_⟩,fun j hj=> ?_,fun p=>by simpa using h.fz p⟩
 ·rw[C _ _ _ _ (hne _ (by omega))];exact c0
 ·rw[C _ _ _ _ (hne _ (by omega))];exact c1
 ·rw[C _ _ _ _ (hne _ (by omega))];exact c2
 ·rw[C _ _ _ _ (hne _ (by omega))];exact c3
 ·by_cases e:j=k
  ·subst e
   rw[World.cell?_setCell_same _ _ _ (h.cw j hj)];simp
  ·rw[C _ _ _ _ (fun x=>e (by injection x with _ x;omega)),if_neg e]
   exact h.cw j hj
theorem told (h:jh w b m f) (m':Pg.Mp):jh ((((w.setCell ⟨b,0,S⟩ (J I m'.p)).setCell ⟨b,1,S⟩ (J I m'.s)).setCell ⟨b,2,S⟩ (J I m'.f)).setCell ⟨b,3,S⟩ (J I m'.r)) b m' f:=by
 obtain⟨c0,c1,c2,c3⟩:=h.cm;refine⟨⟨?_,?_,?_,?_⟩,fun j hj=> ?_,fun p=>by simpa using h.fz p⟩
 ·simp[go_sem,c0]
 ·simp at c1;simp[go_sem,c1]
 ·simp at c2;simp[go_sem,c2]
 ·simp at c3;simp[go_sem,c3]
 ·rw[C _ _ _ _ (fun x=>by injection x with _ x;omega),C _ _ _ _ (fun x=>by injection x with _ x;omega),C _ _ _ _ (fun x=>by injection x with _ x;omega),C _ _ _ _ (fun x=>by injection x with _ x;omega)]
  exact h.cw j hj
end jh
theorem ycB {w:D} {b:Nat} {m:Pg.Mp} {f g:Nat->Bool} (h:jh w b m f) (e:∀k,k<4->f k=g k):jh w b m g:=⟨h.cm,fun k hk=>(e k hk)▸h.cw k hk,h.fz⟩
theorem yd5 (w:D):
 kY Y 47 #[] w fun e w'=>∃b,e=X (kQ (Q ⟨b,0,S⟩))/\jh w' b .zz (fun _=>V)/\Below w.heap.size w w'/\w.heap.size<=b:=by
 go_enter Tryz.func47,Tryz.ntmps47
 go_wp2_with fail
 go_ret
 have hb:=heap_alloc_new w (kI #[J I 0,J I 0,J I 0,J I 0,N V,N V,N V,N V] 170);refine⟨_,rfl,⟨⟨?_,?_,?_,?_⟩,fun k hk=> ?_,fun o=> ?_⟩,zA (zR _) _,kO _⟩
 ·exact cell_of_row _ _ 0 _ _ _ hb
 ·exact cell_of_row _ _ 1 _ _ _ hb
 ·exact cell_of_row _ _ 2 _ _ _ hb
 ·exact cell_of_row _ _ 3 _ _ _ hb
 ·rw[cell_of_row _ _ (4+k) _ _ _ hb]
  have:k=0\/k=1\/k=2\/k=3:=by omega
  rcases this with rfl|rfl|rfl|rfl<;>rfl
 ·unfold ky;simp only[hb];simp
theorem ydG:(Tryz.prog.info? 4).map (fun i=>(i.zero,i.size,i.bytes))=Q (Q (N V),1,1):=by kernel_rfl
theorem yda (x0 x1 x2 x3:Bool) (w:D):Sem.run Y (Op.equalIn 10000 168 (kp #[N x0,N x1,N x2,N x3]) (kp #[N V,N V,N V,N V])) w= .ok (!x0&&(!x1&&(!x2&& !x3))) w:=by
 obtain⟨q0,hq,hz0,hz1,hz2⟩:=info_parts ydG
 have hu:Tryz.prog.underlying 168=Q (.array 4 4):=by kernel_rfl
 have hu2:Tryz.prog.underlying 4=Q .bool:=by kernel_rfl
 have hp:Tryz.prog.plainKey 4=kZ:=by kernel_rfl
 have hc:Tryz.prog.cellsOf 4=1:=by kernel_rfl
 have hi:∀(a b:Bool) (w:D),(Op.equalIn 9999 4 (N a) (N b)).run Y w= .ok (a==b) w:=fun a b w=>run_equalIn_bool w 9998 _ _ _ hu2
 have step:∀(xs ys:Array kS) (i:Nat) (a b:Bool) (is:List Nat) (w:D),xs[i*1]?=Q (N a)->ys[i*1]?=Q (N b)->
  (Op.eqItems 9999 4 1 xs ys (i::is)).run Y w=bif a==b then(Op.eqItems 9999 4 1 xs ys is).run Y w else .ok V w:=by
  intro xs ys i a b is w h1 h2;simp only[Op.eqItems,Sem.run_bind,run_part_plain w hp h1,run_part_plain w hp h2,hi,Result.andThen_ok]
  cases a==b<;>rfl
 rw[show(10000:Nat)=9999+1 from rfl,run_equalIn_array w 9999 _ _ hu hq,hc];have hr:List.range 4=[0,1,2,3]:=rfl;rw[hr,step _ _ 0 x0 V _ _ rfl rfl,step _ _ 1 x1 V _ _ rfl rfl,step _ _ 2 x2 V _ _ rfl rfl,step _ _ 3 x3 V _ _ rfl rfl]
 cases x0<;>cases x1<;>cases x2<;>cases x3<;>rfl
attribute [local go_sem] yda
section
variable {b:Nat} {m:Pg.Mp} {f:Nat->Bool}
theorem yax (w:D) (h:jh w b m f):
 kY Y 66 #[kQ (Q ⟨b,0,S⟩)] w fun e w'=>e=X (N (Pg.yhP f))/\w'=w:=by
 have c0:=h.cw 0 (by omega);have c1:=h.cw 1 (by omega);have c2:=h.cw 2 (by omega);have c3:=h.cw 3 (by omega);simp only[ki,Nat.reduceAdd]at c0 c1 c2 c3;unfold Pg.yhP;generalize f 0=x0 at*;generalize f 1=x1 at*;generalize f 2=x2 at*;generalize f 3=x3 at*;clear h
 go_enter Tryz.func66,Tryz.ntmps66
 go_wp2_with fail
 go_ret
 exact⟨rfl,rfl⟩
theorem jf (k:Int) (w:D) (h:jh w b m f):
 kY Y 68 #[kQ (Q ⟨b,0,S⟩),J I k] w fun e w'=>e=X (N (Pg.ygO f k))/\w'=w:=by
 by_cases h0:0<=k
 ·obtain⟨n,rfl⟩:=Int.eq_ofNat_of_zero_le h0
  by_cases h4:n<4
  ·have c:=h.cw n h4
   have HH:q (Pg.ygO f (n:Int)=f n):=by simp[q,Pg.ygO];omega
   have i0:(0:Int)<=(n:Int):=by omega
   have i1:(n:Int)<4:=by omega
   have i2:¬(4:Int)<=(n:Int):=by omega
   have i3:¬(n:Int)<0:=by omega
   rw[HH.out];generalize f n=x at*;clear h HH
   go_enter Tryz.func68,Tryz.ntmps68
   go_wp2_with fail
   go_ret
   exact⟨rfl,rfl⟩
  ·have HH:q (Pg.ygO f (n:Int)=V):=by simp[q,Pg.ygO];omega
   have i0:(0:Int)<=(n:Int):=by omega
   have i1:¬(n:Int)<4:=by omega
   rw[HH.out];clear h HH
   go_enter Tryz.func68,Tryz.ntmps68
   go_wp2_with fail
   go_ret
   exact⟨rfl,rfl⟩
 ·have HH:q (Pg.ygO f k=V):=by simp[q,Pg.ygO];omega
  rw[HH.out];clear h HH
  go_enter Tryz.func68,Tryz.ntmps68
  go_wp2_with fail
  go_ret
  exact⟨rfl,rfl⟩
theorem yeS (k:Int) (w:D) (h:jh w b m f) (hk:Pg.ygO f k=V):
 kY Y 147 #[kQ (Q ⟨b,0,S⟩),J I k] w fun e w'=>e=X (kL #[Pg.Mp.zz.val,N V])/\Below w.heap.size w w':=by
 have HW:=jf k _ (h.grow (zA (zR w) (kI #[J I 0,J I 0,J I 0,J I 0] 39)));rw[hk]at HW;clear h
 go_enter Tryz.func147,Tryz.ntmps147
 go_wp2_with (go_at_call 68;refine HW.mono ?_;rintro e w' ⟨rfl,hw⟩;subst w')
 refine kz (v:=kL #[Pg.Mp.zz.val,N V]) ?_ rfl ⟨rfl,?_⟩
 ·simp[results,Tryz.results147,go_sem,Pg.Mp.val,Pg.Mp.zz]
 ·exact zA (zR w) _
theorem yd4 (k:Nat) (w:D) (h:jh w b m f) (hk:k<4) (hf:f k=kZ):
 kY Y 147 #[kQ (Q ⟨b,0,S⟩),J I (k:Int)] w fun e w'=>e=X (kL #[m.val,N kZ])/\jh w' b m (Pg.yiB k f)/\But (fun j=>j=b) w w':=by
 obtain⟨W,hW⟩:∃W,W=w.alloc (kI #[J I 0,J I 0,J I 0,J I 0] 39):=⟨_,rfl⟩
 have hB:Below w.heap.size w W:=by rw[hW];exact zA (zR w) _
 have hh:=h.grow hB;have HW:=jf (k:Int) _ hh
 have e1:Pg.ygO f (k:Int)=kZ:=by simp[Pg.ygO,hf];omega
 rw[e1]at HW;have hfz:=hh.fz (4+k);have hlb:=hh.lb;have hck:=hh.cw k hk;have HS:q _:=hh.set hk V;have hx:=HS.out.cm
 have i0:(0:Int)<=(k:Int):=by omega
 have i1:(k:Int)<4:=by omega
 have i2:¬(4:Int)<=(k:Int):=by omega
 have i3:¬(k:Int)<0:=by omega
 have hne:¬b=w.heap.size:=by have:=h.lb;omega
 obtain⟨mp,ms,mf,mr⟩:=m;obtain⟨x0,x1,x2,x3⟩:=hx;simp only[kH]at x0 x1 x2 x3;have HB:q _:=hB;have HL:q _:=h.lb;clear h hh hB e1
 have y:∀o,(W.setCell ⟨b,4+k,S⟩ (N V)).frozen? ⟨w.heap.size,o,S⟩=V:=fun o=>by simp[hW,go_sem]
 have y0:(W.setCell ⟨b,4+k,S⟩ (N V)).cell? ⟨w.heap.size,0,S⟩=Q (J I 0):=by rw[C _ _ _ _ (fun e=>hne (by injection e))];simp[hW,go_sem]
 have y1:(W.setCell ⟨b,4+k,S⟩ (N V)).cell? ⟨w.heap.size,1,S⟩=Q (J I 0):=by rw[C _ _ _ _ (fun e=>hne (by injection e))];simp[hW,go_sem]
 have y2:(W.setCell ⟨b,4+k,S⟩ (N V)).cell? ⟨w.heap.size,2,S⟩=Q (J I 0):=by rw[C _ _ _ _ (fun e=>hne (by injection e))];simp[hW,go_sem]
 have y3:(W.setCell ⟨b,4+k,S⟩ (N V)).cell? ⟨w.heap.size,3,S⟩=Q (J I 0):=by rw[C _ _ _ _ (fun e=>hne (by injection e))];simp[hW,go_sem]
 have fin:q (∀v0 v1 v2 v3,jh (((((W.setCell ⟨b,4+k,S⟩ (N V)).setCell ⟨w.heap.size,0,S⟩ v0).setCell ⟨w.heap.size,1,S⟩ v1).setCell ⟨w.heap.size,2,S⟩ v2).setCell ⟨w.heap.size,3,S⟩ v3) b ⟨mp,ms,mf,mr⟩ (Pg.yiB k f)/\But (fun j=>j=b) w (((((W.setCell ⟨b,4+k,S⟩ (N V)).setCell ⟨w.heap.size,0,S⟩ v0).setCell ⟨w.heap.size,1,S⟩ v1).setCell ⟨w.heap.size,2,S⟩ v2).setCell ⟨w.heap.size,3,S⟩ v3)):=by
  intro v0 v1 v2 v3;refine⟨HS.out.keep (G:=fun j=>j=w.heap.size) (But.set4 (F:=fun j=>j=w.heap.size) (But.refl _ _) w.heap.size (.inr rfl) v0 v1 v2 v3) hne,?_⟩;have h1:But (fun j=>j=b) w (W.setCell ⟨b,4+k,S⟩ (N V)):=But.setCell (F:=fun j=>j=b) (But.ygr HB.out) (a:=⟨b,4+k,S⟩) (.inr rfl) _;exact h1.set4 w.heap.size (.inl (kO _)) v0 v1 v2 v3
 go_enter Tryz.func147,Tryz.ntmps147
 go_wp2_with fail
 rw[<-hW];refine HW.mono ?_;rintro e w' ⟨rfl,hw⟩;subst w';clear hW HW
 go_wp2_with fail
 refine kz (v:=kL #[kp #[J I mp,J I ms,J I mf,J I mr],N kZ]) ?_ rfl ⟨rfl,fin.out _ _ _ _⟩;simp[results,Tryz.results147,go_sem,y0,y1,y2,y3]
theorem ydc (x:Pg.Mp) (n:Nat) (w:D) (h:jh w b m f) (ho:Pg.yhP f=kZ) (h1:1<=n) (h4:n<=4):
 kY Y 138 #[kQ (Q ⟨b,0,S⟩),x.val,J I (n:Int)] w fun e w'=>e=X (N kZ)/\jh w' b x (Pg.yho n f)/\But (fun j=>j=b) w w':=by
 obtain⟨W,hW⟩:∃W,W=w.alloc (kI #[J I x.p,J I x.s,J I x.f,J I x.r] 39):=⟨_,rfl⟩
 have hB:Below w.heap.size w W:=by rw[hW];exact zA (zR w) _
 have hh:=h.grow hB;have HO:=yax _ hh;rw[ho]at HO;have HS:q _:=hh.told x;have HB2:q (But (fun j=>j=b) w ((((W.setCell ⟨b,0,S⟩ (J I x.p)).setCell ⟨b,1,S⟩ (J I x.s)).setCell ⟨b,2,S⟩ (J I x.f)).setCell ⟨b,3,S⟩ (J I x.r))):=But.set4 (F:=fun j=>j=b) (But.ygr hB) b (.inr rfl) _ _ _ _;obtain⟨c0,c1,c2,c3⟩:=hh.cm;have z0:=hh.fz 0;have z1:=hh.fz 1;have z2:=hh.fz 2;have z3:=hh.fz 3;simp only[kH]at c1 c2 c3;have hlb:=hh.lb
 have hne:¬b=w.heap.size:=by have:=h.lb;omega
 have y0:W.cell? ⟨w.heap.size,0,S⟩=Q (J I x.p):=by simp[hW,go_sem]
 have y1:W.cell? ⟨w.heap.size,1,S⟩=Q (J I x.s):=by simp[hW,go_sem]
 have y2:W.cell? ⟨w.heap.size,2,S⟩=Q (J I x.f):=by simp[hW,go_sem]
 have y3:W.cell? ⟨w.heap.size,3,S⟩=Q (J I x.r):=by simp[hW,go_sem]
 have i1:¬(n:Int)<1:=by omega
 have i4:¬(4:Int)<(n:Int):=by omega
 clear h hh hB ho;obtain⟨xp,xs,xf,xr⟩:=x;simp only[Pg.Mp.val]at*
 go_enter Tryz.func138,Tryz.ntmps138
 go_wp2_with fail
 rw[<-hW];refine HO.mono ?_;rintro e w' ⟨rfl,hw⟩;subst w';clear hW HO
 go_wp2_with fail
 go_loopw [7,24] (fun _ i wr=>∃j:Nat,j<=n/\i=J I j/\q (jh wr b ⟨xp,xs,xf,xr⟩ (Pg.yho j f)/\But (fun j=>j=b) w wr)) (fun _ i _=>n-(intOf i).toNat)
 case atStart=>exact⟨0,by omega,rfl,ycB HS.out fun k _=>by simp[Pg.yho],HB2.out⟩
 case round=>
  obtain⟨j,hj,rfl,HR⟩:=hrel;clear HS HB2 c0 c1 c2 c3 z0 z1 z2 z3 y0 y1 y2 y3
  by_cases hlt:j<n
  ·have fz:=HR.out.1.fz (4+j)
   have hc:=HR.out.1.cw j (by omega);have hlb2:=HR.out.1.lb
   have j0:(0:Int)<=(j:Int):=by omega
   have j1:(j:Int)<(n:Int):=by omega
   have j4:(j:Int)<4:=by omega
   have j2:¬(4:Int)<=(j:Int):=by omega
   have j3:¬(j:Int)<0:=by omega
   have fin:q (jh (wr.setCell ⟨b,4+j,S⟩ (N kZ)) b ⟨xp,xs,xf,xr⟩ (Pg.yho (j+1) f)/\But (fun j=>j=b) w (wr.setCell ⟨b,4+j,S⟩ (N kZ))):=by
    refine⟨ycB (HR.out.1.set (by omega) kZ) fun k _=> ?_,But.setCell (F:=fun j=>j=b) HR.out.2 (a:=⟨b,4+j,S⟩) (.inr rfl) _⟩
    by_cases e:k=j
    ·simp[Pg.yho,e]
    ·simp only[Pg.yho,e,if_false]
     congr 1
     rw[decide_eq_decide];omega
   go_wp2_with fail
   go_roundw
   case rel=>exact⟨j+1,by omega,by go_num,fin.out⟩
   case measure=>simp[intOf];omega
  ·have j1:¬(j:Int)<(n:Int):=by omega
   have e:j=n:=by omega
   go_wp2_with fail
   go_ret
   subst e;exact⟨rfl,HR.out⟩
end
end
end Go.Proofs.YtdphiompijbelaaGreat
