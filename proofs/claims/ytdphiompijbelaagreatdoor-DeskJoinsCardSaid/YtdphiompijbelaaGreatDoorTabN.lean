import Derived.Lib.Overlaps
import Derived.Lib.SliceRun
import Derived.Shelf.RegionOpenPlain
import Derived.Deep.LoopGhost
import Derived.Test.YtdphiompijbelaaGreatDoorPlainTI
set_option linter.all false
set_option maxRecDepth 100000
open Nat renaming zero_le->kK,le_refl->kW
open Go.Obj renaming cells->kB
open Go.RowKit renaming Hid->kI
open List renaming length_take->E,length_drop->D,length_append->H,drop_drop->kS,toList_toArray->kC,size_toArray->kR,take_append_of_le_length->kT,length_eq_zero_iff->kZ,take_of_length_le->kO,filter_eq_self->kM,take_succ_cons->kE,drop_succ_cons->kD,getElem?_drop->kA,getElem?_take->kH,drop_take->ki,take_zero->kj,drop_zero->kn
open Bool renaming false->X,true->kG
open Go.Ending renaming returned->M
open Go renaming World->U,cell_regrown->O,Value->kP,Calls->kN,bodyPost_ret->kV
open Go.World renaming cell?_of_block->Q,block_lt_of_cell?->kU,frozen?->kX,cell?->kr
open Array renaming length_toList->V,getElem?_eq_some_iff->kJ
open Go.Proofs.Tryz renaming prog->Y
open Go.Value renaming int->S,bool->N,slice->Z,pointer->kY,int->kF,agg->kQ,agg->kL,slice->ky,tuple->kv
open Option renaming none->J,some->C
open Go.IntKind renaming i64->I,u64->kp
set_option maxHeartbeats 4000000
namespace Go.Proofs.YtdphiompijbelaaGreatDoor
open Go.RowKit Go.Sort
section
theorem jr:(Tryz.prog.info? 159).map (fun i=>(i.zero,i.size,i.bytes))=C (C (kL #[S I 0,S I 0,S I 0,S I 0,N X]),5,40):=by kernel_rfl
theorem ycj {vb:kP} {L:List Pg.Ln} (w:U) (hr:w.ownsRow 0 159 5 vb L.length (zL L)) (hlen:L.length<=6):
 kN Y 141 #[vb] w fun e w'=>∃v',e=M v'/\w'.ownsRow w.heap.size 159 5 v' L.length (zL L)/\Below w.heap.size w w':=by
 have q58:∀(w:U) (a:Option Addr) (n c n' c':Nat),(binOp .eql 157 (Z a n c) (Z J n' c')).run Y w= .ok (N a.isNone) w:=fun w a n c n' c'=>Lib.run_eql_slice_nil w _ _ a n c n' c' Tryz.underlying157;rcases hr.2 with ⟨rfl,h0⟩|⟨g,cap,cur,rfl,_,hg,hrest⟩
 ·have hL:L=[]:=kZ.1 h0
  subst hL;clear hr
  go_enter Tryz.func141,Tryz.ntmps141
  go_wp2_with fail
  go_ret
  exact⟨_,rfl,World.ownsRow_nil _ _ _ _,zR _⟩
 ·obtain⟨q0,hqi,hz0,hz1,hz2⟩:=info_parts jr
  have hcells:kI _:=hr.cells (g:=g) rfl;have hgl:g<w.heap.size:=(kJ.1 hg).1;clear hr hg hrest
  go_enter Tryz.func141,Tryz.ntmps141
  go_wp2_with (at_builtin;refine wpList_append_own _ rfl _ _ 157 rfl w.heap.size 159 q0 _ 5 40 Tryz.underlying157 hqi hz0 hz1 hz2 rfl (by decide) _ _ _ rfl (World.ownsRow_made w #[] 0 (kW _) (kK _) (by simp)) ⟨g,0,J⟩ L.length cap (zL L) rfl (xQ L) ?c1 (jQ L) ?c3 ?c4 ?c5 ?_)
  case c1=>
   intro j u hj;have:=hcells.out j u hj;exact(Below.cell (p:=(⟨g,0,J⟩:Addr).add j) (zA (zR w) _) (kU _ _ this)).trans this
  case c3=>unfold maxLen;omega
  case c4=>omega
  case c5=>simp
  intro v' w1 hown hgrow hnil
  have hown':kI (w1.ownsRow w.heap.size 159 5 v' L.length (zL L)):=by simpa[kI]using hown
  have hb:kI (Below w.heap.size w w1):=((But.refl (fun _=>False) w).alloc _).grown hgrow (fun k hk=> .inl (by simp[Value.ownBlock]at hk;omega))|>.below (kW _) (fun _ h=>h.elim);clear hown hgrow hnil
  go_wp2_with fail
  go_ret
  exact⟨v',rfl,hown'.out,hb.out⟩
theorem vn {ad:Option Addr} {cap:Nat} {L:List Pg.Ln} (P:Pg.Ln->Bool) (f:FuncId) (cb:Array kP) (w:U) (hr:xC w ad L) (hlen:L.length<=6) (ef:∀args w,(callFunc f args).run Y w= .ok (.enter f args) w)
 (hf:∀(j:Nat) (w':U),j<L.length->Below w.heap.size w w'->kN Y f (#[(L.getD j .zz).val]++cb) w' fun e w''=>e=M (N (P (L.getD j .zz)))/\Below w'.heap.size w' w''):
 kN Y 256 #[Z ad L.length cap,.func (.func f) #[] cb] w fun e w'=>e=M (S I (Pg.idxN L P))/\Below w.heap.size w w':=by
 have HR:kI _:=hr;have HF:kI _:=hf;clear hr hf
 go_enter Tryz.func256,Tryz.ntmps256
 go_wp2_with fail
 go_loopg [5,8] L.length (fun gg _ s8 wr=>∃k:Nat,k<=L.length/\L.length-k<=gg/\s8=S I k/\kI (Below w.heap.size w wr/\∀j,j<k->P (L.getD j .zz)=X))
 case atStart=>exact⟨0,kK _,by omega,rfl,zR _,fun j hj=>absurd hj (Nat.not_lt_zero _)⟩
 case round=>
  obtain⟨k,hk,hg,rfl,HB⟩:=hrel
  by_cases hlt:k<L.length
  ·obtain⟨g,o,rfl,hgl,hm⟩:=xC.below HR.out HB.out.1 k hlt
   obtain⟨m0,m1,m2,m3,m4⟩:=hm
   have i0:(0:Int)<=(k:Int):=by omega
   have i1:(k:Int)<(L.length:Int):=by omega
   have hc:=HF.out k wr hlt HB.out.1;cases hp:P (L.getD k .zz)
   ·have fin:kI (∀j,j<k+1->P (L.getD j .zz)=X):=fun j hj=>by
     by_cases e:j=k
     ·rw[e];exact hp
     ·exact HB.out.2 j (by omega)
    rw[hp]at hc;clear hp HF HR;generalize L.getD k .zz=x at*;obtain⟨⟨p,s,fr,r⟩,d⟩:=x;simp only[Pg.Ln.val]at hc;simp only at m0 m1 m2 m3 m4
    go_wp2_with (go_at_fn f;refine hc.mono ?_;rintro e w' ⟨rfl,hb⟩)
    go_roundg (L.length-(k+1))
    case measure=>omega
    case rel=>exact⟨k+1,by omega,by omega,by go_num,zT HB.out.1 hb,fin.out⟩
   ·have fin:kI (Pg.idxN L P=(k:Int)):=by
     show Pg.idxN L P=(k:Int)
     unfold Pg.idxN;rw[Pg.idx_some hlt hp HB.out.2]
    rw[hp]at hc;clear hp HF HR;generalize L.getD k .zz=x at*;obtain⟨⟨p,s,fr,r⟩,d⟩:=x;simp only[Pg.Ln.val]at hc;simp only at m0 m1 m2 m3 m4
    go_wp2_with (go_at_fn f;refine hc.mono ?_;rintro e w' ⟨rfl,hb⟩)
    go_ret
    exact⟨xm fin.out.symm,zT HB.out.1 hb⟩
  ·have i1:¬(k:Int)<(L.length:Int):=by omega
   have fin:kI (Pg.idxN L P= -1):=by
    show Pg.idxN L P= -1
    unfold Pg.idxN;rw[Pg.idx_none fun j hj=>HB.out.2 j (by omega)]
   go_wp2_with fail
   go_ret
   exact⟨xm fin.out.symm,HB.out.1⟩
theorem ygL {l:List kP} {o:Nat} (h:o+5<=l.length) (x0 x1 x2 x3 x4:kP):
 ((((l.set o x0).set (o+1) x1).set (o+2) x2).set (o+3) x3).set (o+4) x4=l.take o++[x0,x1,x2,x3,x4]++l.drop (o+5):=by
 have e:l=l.take o++l.drop o:=(List.take_append_drop o l).symm
 have hl:(l.take o).length=o:=by rw[E];omega
 have hd:5<=(l.drop o).length:=by rw[D];omega
 have e5:l.drop (o+5)=(l.drop o).drop 5:=by rw[kS]
 rw[e5];generalize l.take o=A at*;generalize l.drop o=B at*;subst e
 match B,hd with
 | a0::a1::a2::a3::a4::R,_=>simp[List.set_append_right,hl]
theorem ycU {w:U} {g o:Nat} {cu:Array kP} {T:TypeId} (hg:w.heap[g]?=C (kB cu T (0,0))) (h:o+5<=cu.size) (x0 x1 x2 x3 x4:kP):
 (((((w.setCell ⟨g,o,J⟩ x0).setCell ⟨g,o+1,J⟩ x1).setCell ⟨g,o+2,J⟩ x2).setCell ⟨g,o+3,J⟩ x3).setCell ⟨g,o+4,J⟩ x4).heap[g]?=C (kB (cu.toList.take o++[x0,x1,x2,x3,x4]++cu.toList.drop (o+5)).toArray T (0,0))/\
 ∀(F:Nat->Prop) (w0:U),But F w0 w->(w0.heap.size<=g\/F g)->But F w0 (((((w.setCell ⟨g,o,J⟩ x0).setCell ⟨g,o+1,J⟩ x1).setCell ⟨g,o+2,J⟩ x2).setCell ⟨g,o+3,J⟩ x3).setCell ⟨g,o+4,J⟩ x4):=by
 refine⟨?_,fun F w0 hb hF=>((((hb.setCell (a:=⟨g,o,J⟩) hF x0).setCell (a:=⟨g,o+1,J⟩) hF x1).setCell (a:=⟨g,o+2,J⟩) hF x2).setCell (a:=⟨g,o+3,J⟩) hF x3).setCell (a:=⟨g,o+4,J⟩) hF x4⟩;rw[setCell_eq_setRow w g o cu T (0,0) x0 hg];rw[setCell_eq_setRow _ g (o+1) _ T (0,0) x1 (setRow_heap w g cu _ T _ hg),setRow_setRow];rw[setCell_eq_setRow _ g (o+2) _ T (0,0) x2 (setRow_heap w g cu _ T _ hg),setRow_setRow];rw[setCell_eq_setRow _ g (o+3) _ T (0,0) x3 (setRow_heap w g cu _ T _ hg),setRow_setRow];rw[setCell_eq_setRow _ g (o+4) _ T (0,0) x4 (setRow_heap w g cu _ T _ hg),setRow_setRow]
 have e:((((cu.setIfInBounds o x0).setIfInBounds (o+1) x1).setIfInBounds (o+2) x2).setIfInBounds (o+3) x3).setIfInBounds (o+4) x4=(cu.toList.take o++[x0,x1,x2,x3,x4]++cu.toList.drop (o+5)).toArray:=by
  apply Array.toList_inj.1
  simp only[Array.toList_setIfInBounds];exact ygL (by rw[V];exact h) x0 x1 x2 x3 x4
 rw[e];exact setRow_heap w g cu _ T _ hg
theorem yfI {c news:List kP} {i j n:Nat} (hn:news.length=5) (hi:i<=j) (hj:j<n) (hc:n*5<=c.length):
 (c.take (i*5)++news++c.drop (i*5+5)).length=c.length/\(c.take (i*5)++news++c.drop (i*5+5)).take ((i+1)*5)=c.take (i*5)++news/\
 ((c.take (i*5)++news++c.drop (i*5+5)).take (n*5)).drop ((j+1)*5)=(c.take (n*5)).drop ((j+1)*5):=by
 have h1:(c.take (i*5)).length=i*5:=by rw[E];omega
 have h2:(c.take (i*5)++news).length=i*5+5:=by rw[H,h1,hn]
 refine⟨by rw[H,h2,D];omega,?_,?_⟩
 ·rw[kT (by omega),kO (by omega)]
 ·rw[ki,ki,List.drop_append,h2,List.drop_eq_nil_of_le (by omega),List.nil_append,kS]
  congr 2
  omega
theorem yeB (m:Nat):∀v,v ∈ (Builtin.zeroCells (kQ #[S I 0,S I 0,S I 0,S I 0,N X]).cells m).toList->v.oneCell'=kG:=by
 intro v hv
 have e:(kQ #[S I 0,S I 0,S I 0,S I 0,N X]).cells=#[S I 0,S I 0,S I 0,S I 0,N X]:=by kernel_rfl
 rw[e]at hv;simp only[Builtin.zeroCells,Array.toList_map,List.mem_map]at hv;obtain⟨t,_,rfl⟩:=hv
 have ht:t%5=0\/t%5=1\/t%5=2\/t%5=3\/t%5=4:=by omega
 show(#[kF I 0,S I 0,S I 0,S I 0,N X]:Array kP)[t%5]!.oneCell'=kG
 rcases ht with h|h|h|h|h<;>rw[h]<;>rfl
theorem ye6 {w:U} {g cap n j:Nat} {cur:Array kP} {T:TypeId} {L:List Pg.Ln} (hg:w.heap[g]?=C (kB cur T (0,0))) (hn:n=L.length) (hd:(cur.toList.take (n*5)).drop (j*5)=zL (L.drop j)) (hj:j<n):ydz w g (j*5) (L.getD j .zz):=by
 have hc:∀i,i<5->w.cell? ⟨g,j*5+i,J⟩=(xv (L.getD j .zz))[i]?:=by
  intro i hi
  have h0:(L.drop j).getD 0 .zz=L.getD j .zz:=by simp[List.getD]
  have:=jK (L.drop j) 0 i (by rw[D];omega) hi;rw[h0,<-hd,kA,kH,if_pos (by omega)]at this;rw[cell_of_row w g (j*5+i) cur _ _ hg,<-this];simp
 have h0:=hc 0 (by omega);have h1:=hc 1 (by omega);have h2:=hc 2 (by omega);have h3:=hc 3 (by omega);have h4:=hc 4 (by omega);exact⟨by simpa[xv]using h0,by simpa[xv]using h1,by simpa[xv]using h2,by simpa[xv]using h3,by simpa[xv]using h4⟩
theorem yb4 {ad:Option Addr} {cap:Nat} {L:List Pg.Ln} (P:Pg.Ln->Bool) (f:FuncId) (cb:Array kP) (w:U) (hr:w.ownsRow 0 159 5 (Z ad L.length cap) L.length (zL L)) (hlen:L.length<=6) (ef:∀args w,(callFunc f args).run Y w= .ok (.enter f args) w)
 (hf:∀(j:Nat) (w':U),j<L.length->But (fun k=>(ky ad L.length cap).ownBlock=C k) w w'->kN Y f (#[(L.getD j .zz).val]++cb) w' fun e w''=>e=M (N (P (L.getD j .zz)))/\Below w'.heap.size w' w''):
 kN Y 291 #[Z ad L.length cap,.func (.func f) #[] cb] w fun e w'=>e=M (Z ad (L.filter fun l=> !P l).length cap)/\w'.ownsRow 0 159 5 (Z ad (L.filter fun l=> !P l).length cap) (L.filter fun l=> !P l).length (zL (L.filter fun l=> !P l))/\But (fun k=>(ky ad L.length cap).ownBlock=C k) w w':=by
 have HF:kI _:=hf;have HR:kI (w.ownsRow 0 159 5 (Z ad L.length cap) L.length (zL L)):=hr;have hI:=vn (cap:=cap) P f cb w (xW (qC.yk7 hr)) hlen ef (fun j w' hj hb=>hf j w' hj (But.yhl hb))
 cases hx:L.findIdx? P with
 | none=>
   have e1:Pg.idxN L P= -1:=by simp only[Pg.idxN,hx]
   have e2:(L.filter fun l=> !P l)=L:=kM.2 fun l hl=>by simp[Pg.idx_of_none hx l hl]
   rw[e1]at hI;rw[e2];clear e1 e2 hx hf hr HF
   go_enter Tryz.func291,Tryz.ntmps291
   go_wp2_with (go_at_call 256;refine hI.mono ?_;rintro e w1 ⟨rfl,hb1⟩)
   go_ret
   exact⟨rfl,zr HR.out hb1,But.yhl hb1⟩
 | some k=>
   obtain⟨hkl,hk1,hk2⟩:=Pg.idx_of_some hx
   have e1:Pg.idxN L P=(k:Int):=by simp only[Pg.idxN,hx]
   rw[e1]at hI
   obtain⟨g,cap0,cur,hv,_,hg,hc1,hc2,hc3,hc4⟩:∃g cap0 cur,ky ad L.length cap=Z (C ⟨g,0,J⟩) L.length cap0/\0<=g/\w.heap[g]?=C (kB cur 159 (0,0))/\L.length<=cap0/\cap0<=maxLen/\cur.size=cap0*5/\cur.toList.take (L.length*5)=zL L:=by
    rcases hr.2 with ⟨_,e0⟩|h
    ·omega
    ·exact h
   cases hv
   have hcm:cap<=9223372036854775807:=by unfold maxLen at hc2;omega
   have hgl:g<w.heap.size:=(kJ.1 hg).1
   have hft:(L.take k).filter (fun l=> !P l)=L.take k:=kM.2 fun l hl=>by
    obtain⟨t,ht,rfl⟩:=List.mem_iff_getElem.1 hl
    have h2:t<k:=by rw[E]at ht;omega
    have:=hk2 t h2;rw[Pg.yjR (by omega)]at this;rw[List.getElem_take];simp[this]
   have hS:kI ((L.take (k+1)).filter (fun l=> !P l)=L.take k):=by
    show(L.take (k+1)).filter (fun l=> !P l)=L.take k
    rw[Pg.yiW hkl (by rw[hk1];rfl),hft]
   have hS2:kI (k=(L.take k).length):=by show k=(L.take k).length;rw[E];omega
   have hS3:kI (cur.toList.take (k*5)=zL (L.take k)):=by
    show cur.toList.take (k*5)=zL (L.take k)
    rw[<-(xP L k).1,<-hc4,List.take_take];congr 1;omega
   have hS4:kI ((cur.toList.take (L.length*5)).drop ((k+1)*5)=zL (L.drop (k+1))):=by
    show(cur.toList.take (L.length*5)).drop ((k+1)*5)=zL (L.drop (k+1))
    rw[hc4,(xP L (k+1)).2]
   have HG:kI (w.heap[g]?=C (kB cur 159 (0,0))/\cur.size=cap*5):=⟨hg,hc3⟩
   have i0:(0:Int)<=(k:Int):=by omega
   have i1:((k:Int)== -1)=X:=by simp
   clear e1 hx hf hr HR hk1 hk2 hft hc4 hg hc3
   go_enter Tryz.func291,Tryz.ntmps291
   go_wp2_with (go_at_call 256;refine hI.mono ?_;rintro e w1 ⟨rfl,hb1⟩)
   have HB1:kI (But (fun k=>k=g) w w1):=But.yhl hb1;have HG1:kI (w1.heap[g]?=C (kB cur 159 (0,0))/\cur.size=cap*5):=⟨(hb1.block g hgl).trans HG.out.1,HG.out.2⟩;clear hb1 hI HG
   go_loopg [5,6,7] L.length (fun gg s5 s6 _ wr=>∃i j:Nat,∃cu:Array kP,i<j/\j<=L.length/\L.length-j<=gg/\s5=S I i/\s6=S I j/\
    kI (i=((L.take j).filter (fun l=> !P l)).length/\cu.toList.take (i*5)=zL ((L.take j).filter (fun l=> !P l))/\(cu.toList.take (L.length*5)).drop (j*5)=zL (L.drop j)/\wr.heap[g]?=C (kB cu 159 (0,0))/\cu.size=cap*5/\But (fun k=>k=g) w wr))
   case atStart=>exact⟨k,k+1,cur,by omega,by omega,by omega,rfl,by go_num,by rw[hS.out];exact hS2.out,by rw[hS.out];exact hS3.out,hS4.out,HG1.out.1,HG1.out.2,HB1.out⟩
   case round=>
    obtain⟨i,j,cu,hij,hjl,hgg,rfl,rfl,HI⟩:=hrel;clear hS hS2 hS3 hS4 HG1 HB1
    by_cases hlt:j<L.length
    ·obtain⟨m0,m1,m2,m3,m4⟩:=ye6 (cap:=cap) HI.out.2.2.2.1 rfl HI.out.2.2.1 hlt
     have j0:(0:Int)<=(j:Int):=by omega
     have j1:(j:Int)<(L.length:Int):=by omega
     have n0:(0:Int)<=(i:Int):=by omega
     have n1:(i:Int)<(L.length:Int):=by omega
     have hc:=fun w' hb=>HF.out j w' hlt hb;cases hp:P (L.getD j .zz)
     ·rw[hp]at hc
      have HS:kI _:=Pg.filter_take_yes (P:=fun l=> !P l) hlt (by simp only[hp];rfl);clear hp;generalize L.getD j .zz=x at*;obtain⟨⟨p,s,fr,r⟩,d⟩:=x;simp only[Pg.Ln.val]at hc;simp only at m0 m1 m2 m3 m4
      go_wp2_with fail
      refine(hc _ ?hb).mono ?_
      case hb=>exact((HI.out.2.2.2.2.2).alloc _).mono (fun i _ hi=>by rw[hi];rfl)
      rintro e w2 ⟨rfl,hb2⟩;have y:∀o,w2.cell? ⟨wr.heap.size,o,J⟩=_:=fun o=>hb2.cell (p:=⟨wr.heap.size,o,J⟩) (by simp);have z0:w2.cell? ⟨wr.heap.size,0,J⟩=C (S I p):=(y 0).trans (by simp[go_sem]);have z1:w2.cell? ⟨wr.heap.size,1,J⟩=C (S I s):=(y 1).trans (by simp[go_sem]);have z2:w2.cell? ⟨wr.heap.size,2,J⟩=C (S I fr):=(y 2).trans (by simp[go_sem]);have z3:w2.cell? ⟨wr.heap.size,3,J⟩=C (S I r):=(y 3).trans (by simp[go_sem]);have z4:w2.cell? ⟨wr.heap.size,4,J⟩=C (N d):=(y 4).trans (by simp[go_sem]);have hbb:Below wr.heap.size wr w2:=zT (zA (zR _) _) hb2;have hgr:g<wr.heap.size:=(kJ.1 HI.out.2.2.2.1).1;have hg2:w2.heap[g]?=C (kB cu 159 (0,0)):=(hbb.block g hgr).trans HI.out.2.2.2.1;have HG2:kI (w2.heap[g]?=C (kB cu 159 (0,0))):=hg2;have hB2:kI (But (fun k=>k=g) w w2):=(HI.out.2.2.2.2.2).trans (But.yhl (F:=fun k=>k=g) hbb) (fun _ _ h=>h)
      have hfr:∀o,w2.frozen? ⟨g,o,J⟩=X:=fun o=>by unfold kX;simp only[hg2];simp
      have hsz:i*5+4<cu.size:=by rw[HI.out.2.2.2.2.1];omega
      have u:∀t,t<5->w2.cell? ⟨g,i*5+t,J⟩=C (cu.getD (i*5+t) undef):=fun t ht=>by
       rw[cell_of_row w2 g (i*5+t) cu _ _ hg2];simp[show i*5+t<cu.size by omega]
      have u0:=u 0 (by omega);have u1:=u 1 (by omega);have u2:=u 2 (by omega);have u3:=u 3 (by omega);have u4:=u 4 (by omega);simp only[Nat.add_zero]at u0;clear y hb2 hbb u hg2 hc m0 m1 m2 m3 m4;have fin:kI _:=ycU HG2.out (show i*5+5<=cu.size by omega) (S I p) (S I s) (S I fr) (S I r) (N d);obtain⟨r1,r2,r3⟩:=yfI (c:=cu.toList) (news:=[S I p,S I s,S I fr,S I r,N d]) (i:=i) (j:=j) (n:=L.length) rfl (by omega) hlt (by have h5:=HI.out.2.2.2.2.1;have h6:cu.toList.length=cu.size:=V;omega)
      have FIN:kI (i+1=((L.take (j+1)).filter (fun l=> !P l)).length/\(cu.toList.take (i*5)++[kF I p,S I s,S I fr,S I r,N d]++cu.toList.drop (i*5+5)).toArray.toList.take ((i+1)*5)=zL ((L.take (j+1)).filter (fun l=> !P l))/\((cu.toList.take (i*5)++[kF I p,S I s,S I fr,S I r,N d]++cu.toList.drop (i*5+5)).toArray.toList.take (L.length*5)).drop ((j+1)*5)=zL (L.drop (j+1))/\(cu.toList.take (i*5)++[kF I p,S I s,S I fr,S I r,N d]++cu.toList.drop (i*5+5)).toArray.size=cap*5):=by
       have hi:=HI.out.1;refine⟨?_,?_,?_,?_⟩
       ·rw[HS.out,H];simp;omega
       ·rw[HS.out,qI,kC,r2,HI.out.2.1];rfl
       ·rw[kC,r3,show(j+1)*5=j*5+5 by omega,<-kS,HI.out.2.2.1]
        have:=(xP (L.drop j) 1).2;rw[kS]at this;exact this
       ·rw[kR,r1,V,HI.out.2.2.2.2.1]
      clear r1 r2 r3 HG2 hsz
      go_wp2_with fail
      go_roundg (L.length-(j+1))
      case measure=>omega
      case rel=>exact⟨i+1,j+1,_,by omega,by omega,by omega,by go_num,by go_num,FIN.out.1,FIN.out.2.1,FIN.out.2.2.1,fin.out.1,FIN.out.2.2.2,fin.out.2 _ _ hB2.out (.inr rfl)⟩
     ·rw[hp]at hc
      have HS:kI _:=Pg.yiW (P:=fun l=> !P l) hlt (by simp only[hp];rfl)
      have HD:kI ((cu.toList.take (L.length*5)).drop ((j+1)*5)=zL (L.drop (j+1))):=by
       show(cu.toList.take (L.length*5)).drop ((j+1)*5)=zL (L.drop (j+1))
       rw[show(j+1)*5=j*5+5 by omega,<-kS,HI.out.2.2.1];have:=(xP (L.drop j) 1).2;rw[kS]at this;exact this
      clear hp;generalize L.getD j .zz=x at*;obtain⟨⟨p,s,fr,r⟩,d⟩:=x;simp only[Pg.Ln.val]at hc;simp only at m0 m1 m2 m3 m4
      go_wp2_with fail
      refine(hc _ ?hb').mono ?_
      case hb'=>exact((HI.out.2.2.2.2.2).alloc _).mono (fun i _ hi=>by rw[hi];rfl)
      rintro e w2 ⟨rfl,hb2⟩;have hbb:Below wr.heap.size wr w2:=zT (zA (zR _) _) hb2;have hgr:g<wr.heap.size:=(kJ.1 HI.out.2.2.2.1).1;have HG2:kI (w2.heap[g]?=C (kB cu 159 (0,0))):=(hbb.block g hgr).trans HI.out.2.2.2.1;have hB2:kI (But (fun k=>k=g) w w2):=(HI.out.2.2.2.2.2).trans (But.yhl (F:=fun k=>k=g) hbb) (fun _ _ h=>h);clear hb2 hbb hc m0 m1 m2 m3 m4
      go_wp2_with fail
      go_roundg (L.length-(j+1))
      case measure=>omega
      case rel=>exact⟨i,j+1,cu,by omega,by omega,by omega,rfl,by go_num,by rw[HS.out];exact HI.out.1,by rw[HS.out];exact HI.out.2.1,HD.out,HG2.out,HI.out.2.2.2.2.1,hB2.out⟩
    ·have j1:¬(j:Int)<(L.length:Int):=by omega
     have hjj:j=L.length:=by omega
     obtain⟨q0,hqi,hz0,hzz1,hzz2⟩:=info_parts jr;have hI1:=HI.out.1;have hI2:=HI.out.2.1;rw[hjj,List.take_length]at hI1 hI2
     have hclr:∀ty l c,l=L.length-i->(Builtin.clear_ #[157] ty #[Z (C ⟨g,i*5,J⟩) l c]).run Y wr= .ok (kv #[]) (wr.setRow g (cu.toList.take (i*5)++(Builtin.zeroCells (kQ #[S I 0,S I 0,S I 0,S I 0,N X]).cells (L.length-i)).toList++cu.toList.drop (i*5+(L.length-i)*5)).toArray):=by
      intro ty l c hl;subst hl
      have hv:∀w,(zeroValue 159).run Y w= .ok (kL #[S I 0,S I 0,S I 0,S I 0,N X]) w:=fun w=>by simp[zeroValue,typeInfo,hqi,hz0]
      exact xX (P:=Y) wr 157 159 ty 159 _ Tryz.underlying157 hv g (i*5) (L.length-i) c (by omega) cu HI.out.2.2.2.1 (by
       show i*5+(L.length-i)*5<=cu.size
       rw[HI.out.2.2.2.2.1];omega) (yeB _)
     obtain⟨W2,hW2⟩:∃W2,W2=wr.setRow g (cu.toList.take (i*5)++(Builtin.zeroCells (kQ #[S I 0,S I 0,S I 0,S I 0,N X]).cells (L.length-i)).toList++cu.toList.drop (i*5+(L.length-i)*5)).toArray:=⟨_,rfl⟩;rw[<-hW2]at hclr
     have FIN:kI (W2.ownsRow 0 159 5 (Z (C ⟨g,0,J⟩) (L.filter fun l=> !P l).length cap) (L.filter fun l=> !P l).length (zL (L.filter fun l=> !P l))/\But (fun k=>k=g) w W2/\i=(L.filter fun l=> !P l).length):=by
      have hzl:(Builtin.zeroCells (kQ #[S I 0,S I 0,S I 0,S I 0,N X]).cells (L.length-i)).toList.length=(L.length-i)*5:=by rw[V,size_zeroCells];rfl
      have htl:(cu.toList.take (i*5)).length=i*5:=by rw[E,V,HI.out.2.2.2.2.1];omega
      refine⟨⟨xQ _,.inr ⟨g,cap,_,rfl,kK _,by rw[hW2];exact setRow_heap wr g cu _ _ _ HI.out.2.2.2.1,by omega,hc2,?_,?_⟩⟩,by rw[hW2];exact(HI.out.2.2.2.2.2).setRow (.inr rfl) _,hI1⟩
      ·rw[kR,H,H,htl,hzl,D]
       have h5:=HI.out.2.2.2.2.1;have h6:cu.toList.length=cu.size:=V;omega
      ·rw[<-hI1,kC,List.append_assoc,kT (by omega),kO (by omega),hI2]
     have n0:(0:Int)<=(i:Int):=by omega
     have n1:(i:Int)<=(L.length:Int):=by omega
     have n2:¬(cap=i):=by omega
     have n3:(i:Int)<=(cap:Int):=by omega
     clear hW2 hI1 hI2 hqi hz0 hzz1 hzz2 HI HF
     go_wp2_with (at_builtin;refine zp _ rfl _ 157 rfl _ rfl (hclr _ _ _ rfl) ?_)
     go_ret
     refine⟨?_,FIN.out.1,FIN.out.2.1.mono fun i _ hi=>by rw[hi];rfl⟩;rw[<-FIN.out.2.2];rfl
theorem yba {g cap n:Nat} {cur:Array kP} {xs:List kP} (w:U) (hg:w.heap[g]?=C (kB cur 159 (0,0))) (hn:n<=6) (hk:0<n) (hcap0:n<=cap) (hcap:cap<=9223372036854775807)
 (hcs:cur.size=cap*5) (hx:cur.toList.take (n*5)=xs) (h1x:∀u,u ∈ xs->u.oneCell'=kG):
 kN Y 265 #[Z (C ⟨g,0,J⟩) n cap,S I 0,S I 1] w fun e w'=>e=M (Z (C ⟨g,0,J⟩) (n-1) cap)/\
  w'.ownsRow 0 159 5 (Z (C ⟨g,0,J⟩) (n-1) cap) (n-1) (xs.drop 5)/\But (fun j=>j=g) w w':=by
 obtain⟨q0,hqi,hz0,hzz1,hzz2⟩:=info_parts jr
 have hxl:xs.length=n*5:=by rw[<-hx,E,V,hcs];omega
 have hdl:(xs.drop 5).length=(n-1)*5:=by rw[D,hxl];omega
 have hcx:∀j u,xs[j]?=C u->w.drew.cell? ⟨g,j,J⟩=C u:=fun j u hu=>by
  rw[cell_of_row w.drew g j cur _ _ hg];rw[<-hx,kH]at hu;split at hu
  ·simpa using hu
  ·cases hu
 obtain⟨C1,hC1⟩:∃C1:List kP,C1=cur.toList.take (0*5)++xs.drop 5++cur.toList.drop (0*5+(xs.drop 5).length):=⟨_,rfl⟩
 have hC1l:C1.length=cap*5:=by rw[hC1];simp only[H,E,D,V,hcs,hxl];omega
 obtain⟨W1,hW1⟩:∃W1,W1=w.drew.setRow g C1.toArray:=⟨_,rfl⟩
 have hap:∀ty o l c,l=n-1->(o=5\/n=1)->(Builtin.append_ #[157,157] ty #[Z (C ⟨g,0,J⟩) 0 cap,Z (C ⟨g,o,J⟩) l c]).run Y w.drew= .ok (Z (C ⟨g,0,J⟩) (n-1) cap) W1:=by
  intro ty o l c hl ho;subst hl
  have:=run_append_room (P:=Y) w.drew 157 ty 159 q0 Tryz.underlying157 hqi g 0 cap cur hg ⟨g,o,J⟩ (n-1) c (xs.drop 5) (by rw[hdl,hzz1])
   (fun j u hj=>by
     rcases ho with rfl|ho
     ·rw[Addr.add_lit];exact hcx (5+j) u (by rwa [kA]at hj)
     ·have h0:(xs.drop 5).length=0:=by rw[hdl];omega
      rw[kZ.1 h0]at hj
      simp at hj) (fun u hu=>h1x u (List.mem_of_mem_drop hu)) (by omega) (by rw[hdl,hzz1,hcs];omega)
  rw[hzz1,<-hC1,<-hW1,show 0+(n-1)=n-1 by omega]at this;exact this
 have hg1:W1.heap[g]?=C (kB C1.toArray 159 (0,0)):=by rw[hW1];exact setRow_heap w.drew g cur _ _ _ hg
 have hB1:But (fun j=>j=g) w W1:=by rw[hW1];exact(But.refl (fun j=>j=g) w).drew.setRow (.inr rfl) _
 obtain⟨W2,hW2⟩:∃W2,W2=W1.setRow g (C1.take ((n-1)*5)++[kF I 0,S I 0,S I 0,S I 0,N X]++C1.drop ((n-1)*5+5)).toArray:=⟨_,rfl⟩
 have hclr:∀ty o l c,o=(n-1)*5->l=1->(Builtin.clear_ #[157] ty #[Z (C ⟨g,o,J⟩) l c]).run Y W1= .ok (kv #[]) W2:=by
  intro ty o l c ho hl;subst ho hl
  have hzl:(Builtin.zeroCells (kQ #[S I 0,S I 0,S I 0,S I 0,N X]).cells 1).toList=[S I 0,S I 0,S I 0,S I 0,N X]:=by kernel_rfl
  have hv:∀w,(zeroValue 159).run Y w= .ok (kL #[S I 0,S I 0,S I 0,S I 0,N X]) w:=fun w=>by simp[zeroValue,typeInfo,hqi,hz0]
  have:=xX (P:=Y) W1 157 159 ty 159 _ Tryz.underlying157 hv g ((n-1)*5) 1 c (by decide) C1.toArray hg1 (by
   show(n-1)*5+1*5<=C1.toArray.size
   simp only[kR,hC1l]
   omega) (by rw[hzl];decide)
  rw[hzl]at this;rw[this,hW2];rfl
 have hg2:W2.heap[g]?=C (kB (C1.take ((n-1)*5)++[kF I 0,S I 0,S I 0,S I 0,N X]++C1.drop ((n-1)*5+5)).toArray 159 (0,0)):=by rw[hW2];exact setRow_heap W1 g _ _ _ _ hg1
 have HB:kI (But (fun j=>j=g) w W2):=by rw[hW2];exact hB1.setRow (.inr rfl) _
 have HO:kI (W2.ownsRow 0 159 5 (Z (C ⟨g,0,J⟩) (n-1) cap) (n-1) (xs.drop 5)):=by
  have e:=ycI (c:=cur.toList) (xs:=xs) (zs:=[kF I 0,S I 0,S I 0,S I 0,N X]) (z:=5) (n:=n) (k:=0) hk (by rw[V,hcs];omega) hx;simp only[Nat.zero_add,Nat.one_mul]at e hC1;simp only[<-hC1]at e;refine⟨hdl,.inr ⟨g,cap,_,rfl,kK _,hg2,by omega,by unfold maxLen;omega,?_,?_⟩⟩
  ·simp only[kR,E,H,D,hC1l,List.length_cons,List.length_nil];omega
  ·rw[kC,e];simp
 have hb1:(1:Int)<=(n:Int):=by omega
 have hb4:(0:Int)<=(cap:Int):=by omega
 have hb6:n-1<=n:=by omega
 have hb7:n-(n-1)=1:=by omega
 have hb8:¬(cap=n-1):=by omega
 clear hg hx h1x hcx hC1 hC1l hW1 hg1 hB1 hW2 hg2 hcs hxl hdl hqi hz0 hzz1 hzz2
 by_cases hck:cap=1
 ·obtain rfl:n=1:=by omega
  subst hck;have HO':kI (W2.ownsRow 0 159 5 (Z (C ⟨g,0,J⟩) 0 1) 0 (xs.drop 5)):=HO.out;simp only[Nat.sub_self]at hap hclr ⊢;clear HO hb1 hb4 hb6 hb7 hb8
  go_enter Tryz.func265,Tryz.ntmps265
  go_wp2_with fail
  go_region_law (refine zY rfl (.tmp 22) (.tmp 25) 157 157 rfl (Z (C ⟨g,0,J⟩) 0 1) (Z (C ⟨g,0,J⟩) 0 0) (by simp[Act.eval,Act.put]) (by simp[Act.eval,Act.put]) (hap _ _ _ _ rfl (.inr trivial)) ?_)
  go_wp2_with (at_builtin;refine zp _ rfl _ 157 rfl _ rfl (hclr _ _ _ _ (by omega) (by omega)) ?_)
  go_ret
  exact⟨rfl,HO'.out,HB.out⟩
 ·go_enter Tryz.func265,Tryz.ntmps265
  go_wp2_with fail
  go_region_law (refine zY rfl (.tmp 22) (.tmp 25) 157 157 rfl (Z (C ⟨g,0,J⟩) 0 cap) (Z (C ⟨g,5,J⟩) (n-1) (cap-1)) (by simp[Act.eval,Act.put]) (by simp[Act.eval,Act.put]) (hap _ _ _ _ rfl (.inl rfl)) ?_)
  go_wp2_with (at_builtin;refine zp _ rfl _ 157 rfl _ rfl (hclr _ _ _ _ (by omega) (by omega)) ?_)
  go_ret
  exact⟨rfl,HO.out,HB.out⟩
theorem ya9 {vb:kP} {L:List Pg.Ln} (w:U) (hr:w.ownsRow 0 159 5 vb L.length (zL L)) (hn:L.length<=6) (hk:0<L.length):
 kN Y 265 #[vb,S I 0,S I 1] w fun e w'=>∃g cap,vb=Z (C ⟨g,0,J⟩) L.length cap/\e=M (Z (C ⟨g,0,J⟩) (L.length-1) cap)/\w'.ownsRow 0 159 5 (Z (C ⟨g,0,J⟩) (L.length-1) cap) (L.drop 1).length (zL (L.drop 1))/\But (fun j=>vb.ownBlock=C j) w w':=by
 obtain⟨_,hrr⟩:=hr;rcases hrr with ⟨_,e0⟩|⟨g,cap,cur,rfl,_,hg,hc1,hc2,hc3,hc4⟩
 ·omega
 ·refine(yba w hg hn hk hc1 (by unfold maxLen at hc2;omega) hc3 hc4 (jQ L)).mono ?_
  rintro e w' ⟨rfl,h1,h2⟩;refine⟨g,cap,rfl,rfl,?_,h2.mono fun i _ hi=>by rw[hi];rfl⟩;rw[<-(xP L 1).2,D];exact h1
structure zI (w:U) (b o:Nat) (root:Int) (K:Pg.Wk):Prop where
 c0:w.cell? ⟨b,o,J⟩=C (S I root)
 c1:w.cell? ⟨b,o+1,J⟩=C (N K.on)
 c2:w.cell? ⟨b,o+2,J⟩=C (S I K.q)
 c3:w.cell? ⟨b,o+3,J⟩=C (S I K.k)
 c4:w.cell? ⟨b,o+4,J⟩=C (N K.u)
 c5:w.cell? ⟨b,o+5,J⟩=C (S I K.t)
 c6:w.cell? ⟨b,o+6,J⟩=C (S I (K.lv:Int))
 c7:w.cell? ⟨b,o+7,J⟩=C (S kp K.x)
 fb:∀p,w.frozen? ⟨b,p,J⟩=X
theorem zI.lb {w:U} {b o:Nat} {root:Int} {K:Pg.Wk} (h:zI w b o root K):b<w.heap.size:=kU _ _ h.c0
theorem zI.of_block {w w':U} {b o:Nat} {root:Int} {K:Pg.Wk} (h:zI w b o root K) (hk:w'.heap[b]?=w.heap[b]?):zI w' b o root K:=
 ⟨(Q hk).trans h.c0,(Q hk).trans h.c1,(Q hk).trans h.c2,(Q hk).trans h.c3,(Q hk).trans h.c4,(Q hk).trans h.c5,(Q hk).trans h.c6,(Q hk).trans h.c7,fun p=>(World.frozen?_of_block hk).trans (h.fb p)⟩
theorem zI.keep {w w':U} {b o:Nat} {root:Int} {K:Pg.Wk} {F:Nat->Prop} (h:zI w b o root K) (hb:But F w w') (hF:¬F b):zI w' b o root K:=h.of_block (hb.block b h.lb hF)
theorem zI.grow {w w':U} {b o:Nat} {root:Int} {K:Pg.Wk} (h:zI w b o root K) (hb:Below w.heap.size w w'):zI w' b o root K:=h.of_block (hb.block b h.lb)
structure Ch8 (b o:Nat) (F:Nat->Prop) (w w':U):Prop where
 but:But F w w'
 oth:∀p,p<o\/o+8<=p->w'.cell? ⟨b,p,J⟩=w.cell? ⟨b,p,J⟩
namespace Ch8
variable {b o:Nat} {F G:Nat->Prop} {w w1 w2:U}
theorem refl (b o:Nat) (F:Nat->Prop) (w:U):Ch8 b o F w w:=⟨But.refl _ _,fun _ _=>rfl⟩
theorem yhl (h:Below w.heap.size w w1) (hb:b<w.heap.size):Ch8 b o F w w1:=⟨But.yhl h,fun p _=>h.cell (p:=⟨b,p,J⟩) hb⟩
theorem trans (h:Ch8 b o F w w1) (k:Ch8 b o G w1 w2) (hG:∀i,i<w.heap.size->G i->F i):Ch8 b o F w w2:=
 ⟨h.but.trans k.but hG,fun p hp=>(k.oth p hp).trans (h.oth p hp)⟩
theorem mono (h:Ch8 b o F w w1) (hG:∀i,i<w.heap.size->F i->G i):Ch8 b o G w w1:=⟨h.but.mono hG,h.oth⟩
theorem of_but (h:But F w w1) (hb:b<w.heap.size) (hF:¬F b):Ch8 b o F w w1:=⟨h,fun p _=>h.cell (a:=⟨b,p,J⟩) hb hF⟩
theorem set (h:Ch8 b o F w w1) (hF:F b) (j:Nat) (hj:j<8) (v:kP):Ch8 b o F w (w1.setCell ⟨b,o+j,J⟩ v):=
 ⟨h.but.setCell (.inr hF) v,fun p hp=>(World.cell?_setCell_other _ _ _ _ (fun e=>by injection e with _ e;omega)).trans (h.oth p hp)⟩
theorem set0 (h:Ch8 b o F w w1) (hF:F b) (v:kP):Ch8 b o F w (w1.setCell ⟨b,o,J⟩ v):=h.set hF 0 (by decide) v
theorem drew (h:Ch8 b o F w w1):Ch8 b o F w w1.drew:=⟨h.but.drew,h.oth⟩
end Ch8
set_option maxRecDepth 100000
attribute [local go_sem] Loose.gent
theorem xA {F:Nat->Prop} {w w1:U} (h:But F w w1) (r:Nat) (hr:w.heap.size<=r\/F r) (x0 x1 x2 x3 x4 x5 x6 x7 x8:kP):
 But F w (((((((((w1.setCell ⟨r,0,J⟩ x0).setCell ⟨r,1,J⟩ x1).setCell ⟨r,2,J⟩ x2).setCell ⟨r,3,J⟩ x3).setCell ⟨r,4,J⟩ x4).setCell ⟨r,5,J⟩ x5).setCell ⟨r,6,J⟩ x6).setCell ⟨r,7,J⟩ x7).setCell ⟨r,8,J⟩ x8):=
 ((((((((h.setCell (a:=⟨r,0,J⟩) hr x0).setCell (a:=⟨r,1,J⟩) hr x1).setCell (a:=⟨r,2,J⟩) hr x2).setCell (a:=⟨r,3,J⟩) hr x3).setCell (a:=⟨r,4,J⟩) hr x4).setCell (a:=⟨r,5,J⟩) hr x5).setCell (a:=⟨r,6,J⟩) hr x6).setCell (a:=⟨r,7,J⟩) hr x7).setCell (a:=⟨r,8,J⟩) hr x8
theorem ybx {w:U} {r:Nat} {v0 v1 v2 v3 v4 v5 v6 v7 v8:kP} {t:TypeId} (h:w.heap[r]?=C (kB #[v0,v1,v2,v3,v4,v5,v6,v7,v8] t (0,0))):
 (w.cell? ⟨r,0,J⟩=C v0/\w.cell? ⟨r,1,J⟩=C v1/\w.cell? ⟨r,2,J⟩=C v2/\w.cell? ⟨r,3,J⟩=C v3/\w.cell? ⟨r,4,J⟩=C v4/\w.cell? ⟨r,5,J⟩=C v5/\w.cell? ⟨r,6,J⟩=C v6/\w.cell? ⟨r,7,J⟩=C v7/\w.cell? ⟨r,8,J⟩=C v8)/\∀i,w.frozen? ⟨r,i,J⟩=X:=
 ⟨by simp[kr,h],fun i=>by simp[kX,h]⟩
theorem yeW (root:Int) (w:U):
 kN Y 171 #[S I root] w fun e w'=>∃b,e=M (kY (C ⟨b,0,J⟩))/\zI w' b 0 root Pg.Wk.off/\Below w.heap.size w w'/\w.heap.size<=b:=by
 go_enter Tryz.func171,Tryz.ntmps171
 go_wp2_with fail
 go_ret
 refine⟨_,rfl,⟨?_,?_,?_,?_,?_,?_,?_,?_,fun p=> ?_⟩,zA (zR _) _,kW _⟩<;>simp[go_sem,Pg.Wk.off]
section
variable {b o:Nat} {root:Int} {K:Pg.Wk}
theorem yfz (w:U) (h:zI w b o root K):
 kN Y 249 #[kY (C ⟨b,o,J⟩)] w fun e w'=>e=M (N K.on)/\w'=w:=by
 have c1:=h.c1;clear h
 go_enter Tryz.func249,Tryz.ntmps249
 go_wp2_with fail
 go_ret
 exact⟨rfl,rfl⟩
theorem yce (w:U) (h:zI w b o root K):
 kN Y 211 #[kY (C ⟨b,o,J⟩)] w fun e w'=>e=M (kL #[S I K.q,S I K.k,N K.u])/\Below w.heap.size w w':=by
 have c2:=h.c2;have c3:=h.c3;have c4:=h.c4;have hl:=h.lb;clear h
 go_enter Tryz.func211,Tryz.ntmps211
 go_wp2_with fail
 refine kV (v:=kL #[S I K.q,S I K.k,N K.u]) ?_ rfl ⟨rfl,?_⟩
 ·simp[results,Tryz.results211,go_sem]
 ·exact zA (zR w) _
theorem zI.again {W:U} (h:zI W b o root K) (ho:K.on=kG):
 zI (((W.setCell ⟨b,o+5,J⟩ (S I root)).setCell ⟨b,o+6,J⟩ (S I 3)).setCell ⟨b,o+7,J⟩ (S kp 0)) b o root (K.again root)/\Ch8 b o (fun j=>j=b) W (((W.setCell ⟨b,o+5,J⟩ (S I root)).setCell ⟨b,o+6,J⟩ (S I 3)).setCell ⟨b,o+7,J⟩ (S kp 0)):=by
 have e:K.again root={K with t:=root,lv:=3,x:=0}:=by simp[Pg.Wk.again,ho]
 obtain⟨c0,c1,c2,c3,c4,c5,c6,c7,fb⟩:=h;rw[e]
 refine⟨⟨?_,?_,?_,?_,?_,?_,?_,?_,fun p=> ?_⟩,(((Ch8.refl b o (fun j=>j=b) W).set rfl 5 (by decide) _).set rfl 6 (by decide) _).set rfl 7 (by decide) _⟩<;>simp[go_sem,c0,c1,c2,c3,c4,c5,c6,c7,fb]
theorem jG (w:U) (h:zI w b o root K):
 kN Y 260 #[kY (C ⟨b,o,J⟩)] w fun e w'=>e=M (kv #[])/\zI w' b o root (K.again root)/\Ch8 b o (fun j=>j=b) w w':=by
 cases ho:K.on
 ·have e:K.again root=K:=by simp[Pg.Wk.again,ho]
  rw[e];have c1:=h.c1;rw[ho]at c1;have HF:kI (zI w b o root K/\Ch8 b o (fun j=>j=b) w w):=⟨h,Ch8.refl _ _ _ _⟩;clear h ho e
  go_enter Tryz.func260,Tryz.ntmps260
  go_wp2_with fail
  go_end0
  exact⟨rfl,HF.out⟩
 ·have HF:kI _:=h.again ho
  have c0:=h.c0;have c1:=h.c1;have c5:=h.c5;have c6:=h.c6;have c7:=h.c7;have fb:=h.fb;rw[ho]at c1;clear h ho
  go_enter Tryz.func260,Tryz.ntmps260
  go_wp2_with fail
  go_end0
  exact⟨rfl,HF.out⟩
theorem jH (w:U) (h:zI w b o root K):
 kN Y 288 #[kY (C ⟨b,o,J⟩)] w fun e w'=>e=M (S I (Pg.index K.q K.lv))/\Below w.heap.size w w':=by
 have c2:=O h.c2;have c6:=O h.c6;have HI:=fun w=>zV (vo K.q K.lv w);clear h
 go_enter Tryz.func288,Tryz.ntmps288
 go_wp2_with fail
 refine wp_region_quiet_below (by kernel_rfl) (by kernel_rfl) ?_
 repeat (first
  | go_big_quiet_step ((go_at_call 241;exact Calls.regrown_of (HI _))))
 refine wpQuiet_nil ?_;intro _ hw';obtain⟨⟨dq,osq⟩,rfl⟩:=hw'
 go_wp2_with fail
 go_ret
 exact⟨rfl,below_regrown w dq osq⟩
theorem vt (e:Pg.En) (w:U) (h:zI w b o root K):
 kN Y 286 #[kY (C ⟨b,o,J⟩),e.val] w fun x w'=>x=M (K.mark e).val/\Below w.heap.size w w':=by
 have c3:=h.c3;have hl:=h.lb
 have hne:b≠w.heap.size:=by omega
 clear h;obtain⟨t,l,r,u,d,f⟩:=e;cases d
 ·cases hk:(K.k==1)
  all_goals
   have HV:kI _:=hk;simp only[Pg.En.val,Pg.Wk.mark,hk,Bool.or_false,Bool.or_true]
   go_enter Tryz.func286,Tryz.ntmps286
   go_wp2_with fail
   refine kV (v:=kL #[N t,N l,S I r,N kG,N _,S I f]) ?_ rfl ⟨rfl,?_⟩
   ·simp[results,Tryz.results286,go_sem]
   ·exact zA (zA (zR w) _) _
 ·simp only[Pg.En.val,Pg.Wk.mark,Bool.true_or]
  go_enter Tryz.func286,Tryz.ntmps286
  go_wp2_with fail
  refine kV (v:=kL #[N t,N l,S I r,N kG,N kG,S I f]) ?_ rfl ⟨rfl,?_⟩
  ·simp[results,Tryz.results286,go_sem]
  ·exact zA (zA (zR w) _) _
theorem zI.ended {W:U} (h:zI W b o root K):
 zI ((((((((W.setCell ⟨b,o,J⟩ (S I root)).setCell ⟨b,o+1,J⟩ (N X)).setCell ⟨b,o+2,J⟩ (S I 0)).setCell ⟨b,o+3,J⟩ (S I 0)).setCell ⟨b,o+4,J⟩ (N X)).setCell ⟨b,o+5,J⟩ (S I 0)).setCell ⟨b,o+6,J⟩ (S I 0)).setCell ⟨b,o+7,J⟩ (S kp 0)) b o root Pg.Wk.off/\
 Ch8 b o (fun j=>j=b) W ((((((((W.setCell ⟨b,o,J⟩ (S I root)).setCell ⟨b,o+1,J⟩ (N X)).setCell ⟨b,o+2,J⟩ (S I 0)).setCell ⟨b,o+3,J⟩ (S I 0)).setCell ⟨b,o+4,J⟩ (N X)).setCell ⟨b,o+5,J⟩ (S I 0)).setCell ⟨b,o+6,J⟩ (S I 0)).setCell ⟨b,o+7,J⟩ (S kp 0)):=by
 obtain⟨c0,c1,c2,c3,c4,c5,c6,c7,fb⟩:=h
 refine⟨⟨?_,?_,?_,?_,?_,?_,?_,?_,fun p=> ?_⟩,((((((((Ch8.refl b o (fun j=>j=b) W).set0 rfl _).set rfl 1 (by decide) _).set rfl 2 (by decide) _).set rfl 3 (by decide) _).set rfl 4 (by decide) _).set rfl 5 (by decide) _).set rfl 6 (by decide) _).set rfl 7 (by decide) _⟩<;>simp[go_sem,c0,c1,c2,c3,c4,c5,c6,c7,fb,Pg.Wk.off]
theorem ygm {F:Nat->Prop} {w W W':U} (h:zI W b o root K/\Ch8 b o F w W) (hb:Below W.heap.size W W'):zI W' b o root K/\Ch8 b o F w W':=
 ⟨h.1.grow hb,h.2.trans (Ch8.yhl (F:=F) hb h.1.lb) fun _ _ hi=>hi⟩
theorem yeC {w W:U} {r:Nat} (hr:¬r=b) (hw:w.heap.size<=r) (h:zI W b o root K/\Ch8 b o (fun j=>j=b) w W) (v0 v1 v2 v3 v4 v5 v6 v7 v8:kP):
 zI (((((((((W.setCell ⟨r,0,J⟩ v0).setCell ⟨r,1,J⟩ v1).setCell ⟨r,2,J⟩ v2).setCell ⟨r,3,J⟩ v3).setCell ⟨r,4,J⟩ v4).setCell ⟨r,5,J⟩ v5).setCell ⟨r,6,J⟩ v6).setCell ⟨r,7,J⟩ v7).setCell ⟨r,8,J⟩ v8) b o root K/\
 Ch8 b o (fun j=>j=b) w (((((((((W.setCell ⟨r,0,J⟩ v0).setCell ⟨r,1,J⟩ v1).setCell ⟨r,2,J⟩ v2).setCell ⟨r,3,J⟩ v3).setCell ⟨r,4,J⟩ v4).setCell ⟨r,5,J⟩ v5).setCell ⟨r,6,J⟩ v6).setCell ⟨r,7,J⟩ v7).setCell ⟨r,8,J⟩ v8):=by
 have hb:=xA (F:=fun j=>j=r) (But.refl _ W) r (.inr rfl) v0 v1 v2 v3 v4 v5 v6 v7 v8;have hne:¬b=r:=fun e=>hr e.symm;refine⟨h.1.keep hb hne,?_,fun p hp=> ?_⟩
 ·exact xA h.2.but r (.inl hw) v0 v1 v2 v3 v4 v5 v6 v7 v8
 ·exact(hb.cell (a:=⟨b,p,J⟩) h.1.lb hne).trans (h.2.oth p hp)
theorem yaU (a f r:Int) (m:Pg.Mp) (d:Bool) (w:U) (h:zI w b o root K):
 kN Y 290 #[kY (C ⟨b,o,J⟩),kL #[S I a,S I f,S I r],kL #[S I m.p,S I m.s,S I m.f,S I m.r,N d]] w fun e w'=>e=M (Pg.Rs.val ⟨kG,a,f,r,m,d⟩)/\zI w' b o root Pg.Wk.off/\Ch8 b o (fun j=>j=b) w w':=by
 have c0:=h.c0;have c1:=h.c1;have c2:=h.c2;have c3:=h.c3;have c4:=h.c4;have c5:=h.c5;have c6:=h.c6;have c7:=h.c7;have fb:=h.fb;have hl:=h.lb
 have hl1:b<w.heap.size+1:=by omega
 have hl2:b<w.heap.size+1+1:=by omega
 have n0:b≠w.heap.size:=by omega
 have n1:b≠w.heap.size+1:=by omega
 have n2:b≠w.heap.size+1+1:=by omega
 have m0:w.heap.size≠b:=by omega
 have m1:w.heap.size+1≠b:=by omega
 have m2:w.heap.size+1+1≠b:=by omega
 have HK:kI _:=h;clear h;obtain⟨mp,ms,mf,mr⟩:=m;have HF:=HK.out.ended
 go_enter Tryz.func290,Tryz.ntmps290
 go_wp2_with fail
 refine kV (v:=kL #[N kG,S I a,S I f,S I r,S I mp,S I ms,S I mf,S I mr,N d]) ?_ rfl ⟨rfl,ygm HF (zA (zA (zA (zR _) _) _) _)⟩;simp[results,Tryz.results290,go_sem]
theorem ybp (e:Pg.En) (w:U) (h:zI w b o root K) (m:Bool):
 kN Y 289 #[kY (C ⟨b,o,J⟩),e.val] w fun x w'=>x=M ((Pg.Wo.done e m).res K).val/\zI w' b o root Pg.Wk.off/\Ch8 b o (fun j=>j=b) w w':=by
 obtain⟨W,hW⟩:∃W,W=(w.alloc (kB #[N e.t,N e.l,S I e.r,N e.u,N e.d,S I e.f] 82)).alloc (kB #[N X,S I 0,S I 0,S I 0,S I 0,S I 0,S I 0,S I 0,N X] 330):=⟨_,rfl⟩
 have hBW:Below w.heap.size w W:=by rw[hW];exact zA (zA (zR w) _) _
 have HBW:kI _:=hBW;have hl:=h.lb
 have hWs:W.heap.size=w.heap.size+1+1:=by rw[hW];simp
 have HKW:kI _:=h.grow hBW
 have e6:W.cell? ⟨w.heap.size,0,J⟩=C (N e.t)/\W.cell? ⟨w.heap.size,1,J⟩=C (N e.l)/\W.cell? ⟨w.heap.size,2,J⟩=C (S I e.r)/\W.cell? ⟨w.heap.size,3,J⟩=C (N e.u)/\W.cell? ⟨w.heap.size,4,J⟩=C (N e.d)/\W.cell? ⟨w.heap.size,5,J⟩=C (S I e.f):=by rw[hW];simp[go_sem]
 have E6:kI _:=e6
 have r9:W.heap[w.heap.size+1]?=C (kB #[N X,S I 0,S I 0,S I 0,S I 0,S I 0,S I 0,S I 0,N X] 330 (0,0)):=by rw[hW];exact(by simp:(w.alloc (kB #[N e.t,N e.l,S I e.r,N e.u,N e.d,S I e.f] 82)).heap.size=w.heap.size+1)▸heap_alloc_new _ _
 have R9:kI _:=r9;have HM:=fun w=>yaO e.t e.l e.r e.u e.d e.f K.lv K.q w;have HV:kI (Pg.mapV e.t e.l e.r e.u e.d e.f K.lv K.q=(e.map K.lv K.q).val):=rfl;rw[HV.out]at HM;have HR:kI ((Pg.Wo.done e m).res K=⟨kG,Pg.aEnd (e.map K.lv K.q).r K.k K.u,Pg.yij (e.map K.lv K.q).p (e.map K.lv K.q).f (e.map K.lv K.q).r K.q K.k K.u,Pg.yhV (e.map K.lv K.q).r K.k K.u,e.map K.lv K.q,e.d⟩):=rfl;rw[HR.out];generalize e.map K.lv K.q=mm at*;obtain⟨mp,ms,mf,mr⟩:=mm;have HA:=fun W'=>jB mp ms mf mr K.q K.k K.u W';simp only;generalize Pg.aEnd mr K.k K.u=aa at*;generalize Pg.yij mp mf mr K.q K.k K.u=af at*;generalize Pg.yhV mr K.k K.u=ar at*;have k2:=fun d os=>O HKW.out.c2 d os;have k6:=fun d os=>O HKW.out.c6 d os;have y:=fun d os=>qy (below_regrown W d os) e6;clear h hBW e6 r9 HV HR;obtain⟨et,el,er,eu,ed,ef⟩:=e;simp only at hW y HM;simp only[Pg.En.val,Pg.Mp.val]at HM ⊢
 go_enter Tryz.func289,Tryz.ntmps289
 go_wp2_with fail
 rw[<-hW];clear hW;refine Loose.wp_region_alloc 11 5 (kB #[S I 0,S I 0,S I 0,S I 0] 76) _ (by kernel_rfl) (by kernel_rfl) rfl rfl rfl (by intro a w;simp[go_sem]) ?_;simp only[kE,kj,kD,kn]
 repeat (
  refine Loose.zS (fun k hk=> ?_)
  go_simp
  first
   | (refine hk _ ?_;clear hk k)
   | (apply Exists.intro
      refine⟨fun _=> ?_,hk _ ?_⟩
      (go_at_call 173;exact Loose.calls (HM _))
      clear hk k))
 refine Loose.yho ?_;intro bm w1 hb1 hbl hX
 have cb:w1.cell? ⟨bm,0,J⟩=C (S I 0)/\w1.cell? ⟨bm,1,J⟩=C (S I 0)/\w1.cell? ⟨bm,2,J⟩=C (S I 0)/\w1.cell? ⟨bm,3,J⟩=C (S I 0):=by
  simp[kr,hX]
 obtain⟨cb0,cb1,cb2,cb3⟩:=cb
 have fb:∀i,w1.frozen? ⟨bm,i,J⟩=X:=fun i=>by simp[kX,hX]
 obtain⟨W2,hW2⟩:∃W2,W2=(((w1.setCell ⟨bm,0,J⟩ (S I mp)).setCell ⟨bm,1,J⟩ (S I ms)).setCell ⟨bm,2,J⟩ (S I mf)).setCell ⟨bm,3,J⟩ (S I mr):=⟨_,rfl⟩
 have hB2:Below W.heap.size W W2:=by rw[hW2];exact zo hb1 _ hbl _ _ _ _
 have m4:W2.cell? ⟨bm,0,J⟩=C (S I mp)/\W2.cell? ⟨bm,1,J⟩=C (S I ms)/\W2.cell? ⟨bm,2,J⟩=C (S I mf)/\W2.cell? ⟨bm,3,J⟩=C (S I mr):=by
  rw[hW2];simp[go_sem,cb0,cb1,cb2,cb3]
 obtain⟨m0,m1,m2,m3⟩:=m4;have HK2:kI _:=HKW.out.grow hB2;have HC2:kI (Ch8 b o (fun j=>j=b) w W2):=Ch8.yhl (zT HBW.out hB2) hl;have d4:=cell_later hB2 E6.out.2.2.2.2.1;have c2:=HK2.out.c2;have c3:=HK2.out.c3;have c4:=HK2.out.c4;have R2:kI (W2.heap[w.heap.size+1]?=_):=(hB2.block _ (by omega)).trans R9.out;have hl2:b<W2.heap.size:=HK2.out.lb
 have hr2:w.heap.size+1<W2.heap.size:=by have:=hB2.size;omega
 have hrb:¬w.heap.size+1=b:=by omega
 clear hX hbl hb1 hB2 k2 k6 y HM R9 E6
 go_wp2_with fail
 rw[<-hW2];clear hW2 cb0 cb1 cb2 cb3 fb;have HE:=fun W' (hb:Below W2.heap.size W2 W')=>yaU aa af ar ⟨mp,ms,mf,mr⟩ ed W' (HK2.out.grow hb);simp only[Pg.Rs.val]at HE;have g0:=O m0;have g1:=O m1;have g2:=O m2;have g3:=O m3;have g4:=O d4;have g5:=O c2;have g6:=O c3;have g7:=O c4;clear m0 m1 m2 m3 d4 c2 c3 c4;refine Loose.yhn 11 (by kernel_rfl) (by kernel_rfl) ?_;simp only[kE,kj,kD,kn]
 repeat (
  refine Loose.zS (fun k hk=> ?_)
  go_simp
  first
   | (refine hk _ ?_;clear hk k)
   | (apply Exists.intro
      refine⟨fun _=> ?_,hk _ ?_⟩
      (go_at_call 224;exact Loose.calls (HA _))
      clear hk k))
 refine Loose.yho ?_;intro w3 hb3;have HB3:kI (Below W2.heap.size W2 w3):=hb3;clear hb3 g0 g1 g2 g3 g4 g5 g6 g7 HA
 go_wp2_with fail
 refine(HE _ HB3.out).mono ?_;rintro en w4 ⟨rfl,hk4,hc4⟩;have HK4:kI _:=hk4;have HC4:kI (Ch8 b o (fun j=>j=b) W2 w4):=(Ch8.yhl HB3.out hl2).trans hc4 (fun _ _ h=>h);obtain⟨⟨x0,x1,x2,x3,x4,x5,x6,x7,x8⟩,xf⟩:=ybx ((HC4.out.but.block _ hr2 hrb).trans R2.out);clear hk4 hc4;have hr4:w.heap.size+1<w4.heap.size:=Nat.lt_of_lt_of_le hr2 HC4.out.but.size
 have HF:kI (∀v0 v1 v2 v3 v4 v5 v6 v7 v8,zI (((((((((w4.setCell ⟨w.heap.size+1,0,J⟩ v0).setCell ⟨w.heap.size+1,1,J⟩ v1).setCell ⟨w.heap.size+1,2,J⟩ v2).setCell ⟨w.heap.size+1,3,J⟩ v3).setCell ⟨w.heap.size+1,4,J⟩ v4).setCell ⟨w.heap.size+1,5,J⟩ v5).setCell ⟨w.heap.size+1,6,J⟩ v6).setCell ⟨w.heap.size+1,7,J⟩ v7).setCell ⟨w.heap.size+1,8,J⟩ v8) b o root Pg.Wk.off/\Ch8 b o (fun j=>j=b) w (((((((((w4.setCell ⟨w.heap.size+1,0,J⟩ v0).setCell ⟨w.heap.size+1,1,J⟩ v1).setCell ⟨w.heap.size+1,2,J⟩ v2).setCell ⟨w.heap.size+1,3,J⟩ v3).setCell ⟨w.heap.size+1,4,J⟩ v4).setCell ⟨w.heap.size+1,5,J⟩ v5).setCell ⟨w.heap.size+1,6,J⟩ v6).setCell ⟨w.heap.size+1,7,J⟩ v7).setCell ⟨w.heap.size+1,8,J⟩ v8)):=by
  intro v0 v1 v2 v3 v4 v5 v6 v7 v8;exact yeC hrb (by omega) ⟨HK4.out,HC2.out.trans HC4.out fun _ _ h=>h⟩ _ _ _ _ _ _ _ _ _
 go_wp2_with fail
 refine kV (v:=kL #[N kG,S I aa,S I af,S I ar,S I mp,S I ms,S I mf,S I mr,N ed]) ?_ rfl ⟨rfl,HF.out _ _ _ _ _ _ _ _ _⟩;simp[results,Tryz.results289,go_sem,x0,x1,x2,x3,x4,x5,x6,x7,x8]
end
end
end Go.Proofs.YtdphiompijbelaaGreatDoor
