import Derived.Test.YtdphiompijbelaaGreatFrameB
import Derived.Lib.Overlaps
import Derived.Lib.SliceRun
import Derived.Shelf.RegionOpenPlain
import Derived.Deep.LoopGhost
import Derived.Deep.RegionLaw
import Derived.ChangeKeysEq
set_option linter.all false
set_option maxRecDepth 100000
open Go.RowKit.Below renaming heap_alloc->yG,cell->ym
open Nat renaming le_refl->yJ,zero_le->yB,lt_of_lt_of_le->yD,zero_add->yW,le_of_not_lt->yu,min_eq_left->yv,min->yg,add_zero->yd,sub_self->yc,le_succ->yb
open Go.Obj renaming cells->kp
open Go renaming World->kO,Value->uv,Calls->uc,cell_regrown->yU,heap_alloc_new->yA,cell_later->yH,bodyPost_ret->yj
open Go.RowKit renaming Hid->H
open Bool renaming false->D,true->yI
open Array renaming length_toList->M,getElem?_eq_some_iff->un
open Go.Ending renaming returned->K
open Go.World renaming cell?_setCell_other->O,cell?_of_block->ki,block_lt_of_cell?->ur,frozen?_of_block->ud,news_of_block->yY,frozen?->yL,ownsRow_nil->yy,cell?_setCell_same->yi,ownsRow_made->yr,shape?->ya
open List renaming length_take->Z,length_append->X,length_drop->E,size_toArray->ua,take_of_length_le->yS,length_eq_zero_iff->yC,getElem?_take->yN,getElem?_drop->yT,take_append_of_le_length->yF,drop_eq_nil_of_le->yV,drop_drop->yZ,mem_of_mem_drop->yO,length_cons->yK,toList_toArray->yM,length_nil->yE,append_assoc->yz,take_append_drop->yk,mem_iff_getElem->yn,filter_eq_self->yq,getElem_mem->yt,drop_take->yp
open Go.Proofs.Tryz renaming prog->Y
open Option renaming none->S,some->C
open Go.Value renaming int->J,slice->Q,bool->U,pointer->kh,slice->ue,int->yP,ownBlock->yR,agg->yQ,tuple->yX,agg->yo
open Go.IntKind renaming i64->I
set_option maxHeartbeats 4000000
namespace Go.Proofs.YtdphiompijbelaaGreat
open Go.RowKit
section
open Go.Sort
theorem jC:(Tryz.prog.info? 139).map (fun i=>(i.zero,i.size,i.bytes))=C (C (yo #[J I 0,J I 0,J I 0,J I 0,U D]),5,40):=by kernel_rfl
theorem ycZ {vb:uv} {L:List Pg.Ln} (w:kO) (hr:w.ownsRow 0 139 5 vb L.length (zL L)) (Hg:L.length<=6):
 uc Y 119 #[vb] w fun e w'=>∃v',e=K v'/\w'.ownsRow w.heap.size 139 5 v' L.length (zL L)/\Lw w w':=by
 have q58:∀(w:kO) (a:Option Addr) (n c n' c':Nat),(binOp .eql 61 (Q a n c) (Q S n' c')).run Y w= .ok (U a.isNone) w:=fun w a n c n' c'=>Lib.run_eql_slice_nil w _ _ a n c n' c' Tryz.underlying61;rcases hr.2 with ⟨rfl,h0⟩|⟨g,cap,cur,rfl,_,hg,dH⟩
 ·have hL:L=[]:=yC.1 h0
  subst hL;clear hr
  go_enter Tryz.func119,Tryz.ntmps119
  go_wp2
  go_ret
  exact⟨_,rfl,yy _ _ _ _,zR _⟩
 ·obtain⟨q0,dG,rW,tJ,rX⟩:=info_parts jC
  have kF:H _:=hr.cells (g:=g) rfl;have hgl:g<w.heap.size:=(un.1 hg).1;clear hr hg dH
  go_enter Tryz.func119,Tryz.ntmps119
  go_wp2_with (at_builtin;refine wpList_append_own _ rfl _ _ 61 rfl w.heap.size 139 q0 _ 5 40 Tryz.underlying61 dG rW tJ rX rfl (by decide) _ _ _ rfl (yr w #[] 0 (yJ _) (yB _) (by simp)) ⟨g,0,S⟩ L.length cap (zL L) rfl (qj L) ?c1 (vf L) ?c3 ?c4 ?c5 ?_)
  case c1=>
   intro j u hj;have:=kF.out j u hj;exact(ym (p:=(⟨g,0,S⟩:Addr).add j) (zA (zR w) _) (ur _ _ this)).trans this
  case c3=>unfold maxLen;omega
  case c4=>omega
  case c5=>simp
  intro v' w1 Hq Hr Sj
  have fF:H (w1.ownsRow w.heap.size 139 5 v' L.length (zL L)):=by simpa[H]using Hq
  have hb:H (Lw w w1):=((But.refl (fun _=>False) w).alloc _).grown Hr (fun k hk=> .inl (by simp[yR]at hk;omega))|>.below (yJ _) (fun _ h=>h.elim);clear Hq Hr Sj
  go_wp2
  go_ret
  exact⟨v',rfl,fF.out,hb.out⟩
theorem vN {ad:Option Addr} {cap:Nat} {L:List Pg.Ln} (P:Pg.Ln->Bool) (f:FuncId) (cb:Array uv) (w:kO) (hr:qC w ad L) (Hg:L.length<=6) (ef:∀args w,(callFunc f args).run Y w= .ok (.enter f args) w)
 (hf:∀(j:Nat) (w':kO),j<L.length->Lw w w'->uc Y f (#[(L.getD j .zz).val]++cb) w' fun e w''=>e=K (U (P (L.getD j .zz)))/\Lw w' w''):
 uc Y 176 #[Q ad L.length cap,.func (.func f) #[] cb] w fun e w'=>e=K (J I (Pg.idxN L P))/\Lw w w':=by
 have HR:H _:=hr;have HF:H _:=hf;clear hr hf
 go_enter Tryz.func176,Tryz.ntmps176
 go_wp2_with fail
 go_loopg [5,8] L.length (fun gg _ s8 wr=>∃k:Nat,k<=L.length/\L.length-k<=gg/\s8=J I k/\H (Lw w wr/\∀j,j<k->P (L.getD j .zz)=D))
 case atStart=>exact⟨0,yB _,by omega,rfl,zR _,fun j hj=>absurd hj (Nat.not_lt_zero _)⟩
 case round=>
  obtain⟨k,hk,hg,rfl,HB⟩:=hrel
  by_cases Hf:k<L.length
  ·obtain⟨g,o,rfl,hgl,hm⟩:=qC.below HR.out HB.out.1 k Hf
   obtain⟨m0,m1,m2,m3,m4⟩:=hm
   have i0:(0:Int)<=(k:Int):=by omega
   have i1:(k:Int)<(L.length:Int):=by omega
   have hc:=HF.out k wr Hf HB.out.1;cases hp:P (L.getD k .zz)
   ·have fin:H (∀j,j<k+1->P (L.getD j .zz)=D):=fun j hj=>by
     by_cases e:j=k
     ·rw[e];exact hp
     ·exact HB.out.2 j (by omega)
    rw[hp]at hc;clear hp HF HR;generalize L.getD k .zz=x at*;obtain⟨⟨p,s,fr,r⟩,d⟩:=x;simp only[Pg.Ln.val]at hc;simp only at m0 m1 m2 m3 m4
    go_wp2_with (go_at_fn f;refine hc.mono ?_;rintro e w' ⟨rfl,hb⟩)
    go_roundg (L.length-(k+1))
    case measure=>omega
    case rel=>exact⟨k+1,by omega,by omega,by go_num,zT HB.out.1 hb,fin.out⟩
   ·have fin:H (Pg.idxN L P=(k:Int)):=by
     show Pg.idxN L P=(k:Int)
     unfold Pg.idxN;rw[Pg.yld Hf hp HB.out.2]
    rw[hp]at hc;clear hp HF HR;generalize L.getD k .zz=x at*;obtain⟨⟨p,s,fr,r⟩,d⟩:=x;simp only[Pg.Ln.val]at hc;simp only at m0 m1 m2 m3 m4
    go_wp2_with (go_at_fn f;refine hc.mono ?_;rintro e w' ⟨rfl,hb⟩)
    go_ret
    exact⟨zy fin.out.symm,zT HB.out.1 hb⟩
  ·have i1:¬(k:Int)<(L.length:Int):=by omega
   have fin:H (Pg.idxN L P= -1):=by
    show Pg.idxN L P= -1
    unfold Pg.idxN;rw[Pg.ylc fun j hj=>HB.out.2 j (by omega)]
   go_wp2
   go_ret
   exact⟨zy fin.out.symm,HB.out.1⟩
theorem yg2 {l:List uv} {o:Nat} (h:o+5<=l.length) (x0 x1 x2 x3 x4:uv):
 ((((l.set o x0).set (o+1) x1).set (o+2) x2).set (o+3) x3).set (o+4) x4=l.take o++[x0,x1,x2,x3,x4]++l.drop (o+5):=by
 have e:l=l.take o++l.drop o:=(yk o l).symm
 have hl:(l.take o).length=o:=by rw[Z];omega
 have hd:5<=(l.drop o).length:=by rw[E];omega
 have e5:l.drop (o+5)=(l.drop o).drop 5:=by rw[yZ]
 rw[e5];generalize l.take o=A at*;generalize l.drop o=B at*;subst e
 match B,hd with
 | a0::a1::a2::a3::a4::R,_=>simp[List.set_append_right,hl]
theorem ydw {w:kO} {g o:Nat} {cu:Array uv} {T:TypeId} (hg:w.heap[g]?=C (kp cu T (0,0))) (h:o+5<=cu.size) (x0 x1 x2 x3 x4:uv):
 (((((w.setCell ⟨g,o,S⟩ x0).setCell ⟨g,o+1,S⟩ x1).setCell ⟨g,o+2,S⟩ x2).setCell ⟨g,o+3,S⟩ x3).setCell ⟨g,o+4,S⟩ x4).heap[g]?=C (kp (cu.toList.take o++[x0,x1,x2,x3,x4]++cu.toList.drop (o+5)).toArray T (0,0))/\
 ∀(F:Nat->Prop) (w0:kO),But F w0 w->(w0.heap.size<=g\/F g)->But F w0 (((((w.setCell ⟨g,o,S⟩ x0).setCell ⟨g,o+1,S⟩ x1).setCell ⟨g,o+2,S⟩ x2).setCell ⟨g,o+3,S⟩ x3).setCell ⟨g,o+4,S⟩ x4):=by
 refine⟨?_,fun F w0 hb hF=>((((hb.setCell (a:=⟨g,o,S⟩) hF x0).setCell (a:=⟨g,o+1,S⟩) hF x1).setCell (a:=⟨g,o+2,S⟩) hF x2).setCell (a:=⟨g,o+3,S⟩) hF x3).setCell (a:=⟨g,o+4,S⟩) hF x4⟩;rw[setCell_eq_setRow w g o cu T (0,0) x0 hg];rw[setCell_eq_setRow _ g (o+1) _ T (0,0) x1 (setRow_heap w g cu _ T _ hg),setRow_setRow];rw[setCell_eq_setRow _ g (o+2) _ T (0,0) x2 (setRow_heap w g cu _ T _ hg),setRow_setRow];rw[setCell_eq_setRow _ g (o+3) _ T (0,0) x3 (setRow_heap w g cu _ T _ hg),setRow_setRow];rw[setCell_eq_setRow _ g (o+4) _ T (0,0) x4 (setRow_heap w g cu _ T _ hg),setRow_setRow]
 have e:((((cu.setIfInBounds o x0).setIfInBounds (o+1) x1).setIfInBounds (o+2) x2).setIfInBounds (o+3) x3).setIfInBounds (o+4) x4=(cu.toList.take o++[x0,x1,x2,x3,x4]++cu.toList.drop (o+5)).toArray:=by
  apply Array.toList_inj.1
  simp only[Array.toList_setIfInBounds];exact yg2 (by rw[M];exact h) x0 x1 x2 x3 x4
 rw[e];exact setRow_heap w g cu _ T _ hg
theorem ygz {c news:List uv} {i j n:Nat} (hn:news.length=5) (hi:i<=j) (hj:j<n) (hc:n*5<=c.length):
 (c.take (i*5)++news++c.drop (i*5+5)).length=c.length/\(c.take (i*5)++news++c.drop (i*5+5)).take ((i+1)*5)=c.take (i*5)++news/\
 ((c.take (i*5)++news++c.drop (i*5+5)).take (n*5)).drop ((j+1)*5)=(c.take (n*5)).drop ((j+1)*5):=by
 have h1:(c.take (i*5)).length=i*5:=by rw[Z];omega
 have h2:(c.take (i*5)++news).length=i*5+5:=by rw[X,h1,hn]
 refine⟨by rw[X,h2,E];omega,?_,?_⟩
 ·rw[yF (by omega),yS (by omega)]
 ·rw[yp,yp,List.drop_append,h2,yV (by omega),List.nil_append,yZ]
  congr 2
  omega
theorem yft (m:Nat):∀v,v ∈ (Builtin.zeroCells (yQ #[J I 0,J I 0,J I 0,J I 0,U D]).cells m).toList->v.oneCell'=yI:=by
 intro v hv
 have e:(yQ #[J I 0,J I 0,J I 0,J I 0,U D]).cells=#[J I 0,J I 0,J I 0,J I 0,U D]:=by kernel_rfl
 rw[e]at hv;simp only[Builtin.zeroCells,Array.toList_map,List.mem_map]at hv;obtain⟨t,_,rfl⟩:=hv
 have ht:t%5=0\/t%5=1\/t%5=2\/t%5=3\/t%5=4:=by omega
 show(#[yP I 0,J I 0,J I 0,J I 0,U D]:Array uv)[t%5]!.oneCell'=yI
 rcases ht with h|h|h|h|h<;>rw[h]<;>rfl
theorem yfY {w:kO} {g cap n j:Nat} {cur:Array uv} {T:TypeId} {L:List Pg.Ln} (hg:w.heap[g]?=C (kp cur T (0,0))) (hn:n=L.length) (hd:(cur.toList.take (n*5)).drop (j*5)=zL (L.drop j)) (hj:j<n):qs w g (j*5) (L.getD j .zz):=by
 have hc:∀i,i<5->w.cell? ⟨g,j*5+i,S⟩=(xS (L.getD j .zz))[i]?:=by
  intro i hi
  have h0:(L.drop j).getD 0 .zz=L.getD j .zz:=by simp[List.getD]
  have:=jY (L.drop j) 0 i (by rw[E];omega) hi;rw[h0,<-hd,yT,yN,iP (by omega)]at this;rw[cell_of_row w g (j*5+i) cur _ _ hg,<-this];simp
 have h0:=hc 0 (by omega);have h1:=hc 1 (by omega);have h2:=hc 2 (by omega);have h3:=hc 3 (by omega);have h4:=hc 4 (by omega);exact⟨by simpa[xS]using h0,by simpa[xS]using h1,by simpa[xS]using h2,by simpa[xS]using h3,by simpa[xS]using h4⟩
theorem ycL {ad:Option Addr} {cap:Nat} {L:List Pg.Ln} (P:Pg.Ln->Bool) (f:FuncId) (cb:Array uv) (w:kO) (hr:w.ownsRow 0 139 5 (Q ad L.length cap) L.length (zL L)) (Hg:L.length<=6) (ef:∀args w,(callFunc f args).run Y w= .ok (.enter f args) w)
 (hf:∀(j:Nat) (w':kO),j<L.length->But (fun k=>(ue ad L.length cap).ownBlock=C k) w w'->uc Y f (#[(L.getD j .zz).val]++cb) w' fun e w''=>e=K (U (P (L.getD j .zz)))/\Lw w' w''):
 uc Y 210 #[Q ad L.length cap,.func (.func f) #[] cb] w fun e w'=>e=K (Q ad (L.filter fun l=> !P l).length cap)/\w'.ownsRow 0 139 5 (Q ad (L.filter fun l=> !P l).length cap) (L.filter fun l=> !P l).length (zL (L.filter fun l=> !P l))/\But (fun k=>(ue ad L.length cap).ownBlock=C k) w w':=by
 have HF:H _:=hf;have HR:H (w.ownsRow 0 139 5 (Q ad L.length cap) L.length (zL L)):=hr;have hI:=vN (cap:=cap) P f cb w (zt (zl.yjV hr)) Hg ef (fun j w' hj hb=>hf j w' hj (But.yhJ hb))
 cases hx:L.findIdx? P with
 | none=>
   have e1:Pg.idxN L P= -1:=by simp only[Pg.idxN,hx]
   have e2:(L.filter fun l=> !P l)=L:=yq.2 fun l hl=>by simp[Pg.idx_of_none hx l hl]
   rw[e1]at hI;rw[e2];clear e1 e2 hx hf hr HF
   go_enter Tryz.func210,Tryz.ntmps210
   go_wp2_with (go_at_call 176;refine hI.mono ?_;rintro e w1 ⟨rfl,Ha⟩)
   go_ret
   exact⟨rfl,zn HR.out Ha,But.yhJ Ha⟩
 | some k=>
   obtain⟨gp,dL,tK⟩:=Pg.idx_of_some hx
   have e1:Pg.idxN L P=(k:Int):=by simp only[Pg.idxN,hx]
   rw[e1]at hI
   obtain⟨g,cap0,cur,hv,_,hg,rO,tY,fU,dB⟩:∃g cap0 cur,ue ad L.length cap=Q (C ⟨g,0,S⟩) L.length cap0/\0<=g/\w.heap[g]?=C (kp cur 139 (0,0))/\L.length<=cap0/\cap0<=maxLen/\cur.size=cap0*5/\cur.toList.take (L.length*5)=zL L:=by
    rcases hr.2 with ⟨_,e0⟩|h
    ·omega
    ·exact h
   cases hv
   have Ip:cap<=9223372036854775807:=by unfold maxLen at tY;omega
   have hgl:g<w.heap.size:=(un.1 hg).1
   have Iz:(L.take k).filter (fun l=> !P l)=L.take k:=yq.2 fun l hl=>by
    obtain⟨t,ht,rfl⟩:=yn.1 hl
    have h2:t<k:=by rw[Z]at ht;omega
    have:=tK t h2;rw[Pg.yj6 (by omega)]at this;rw[List.getElem_take];simp[this]
   have hS:H ((L.take (k+1)).filter (fun l=> !P l)=L.take k):=by
    show(L.take (k+1)).filter (fun l=> !P l)=L.take k
    rw[Pg.yiM gp (by rw[dL];rfl),Iz]
   have iD:H (k=(L.take k).length):=by show k=(L.take k).length;rw[Z];omega
   have Px:H (cur.toList.take (k*5)=zL (L.take k)):=by
    show cur.toList.take (k*5)=zL (L.take k)
    rw[<-(xX L k).1,<-dB,List.take_take];congr 1;omega
   have Ie:H ((cur.toList.take (L.length*5)).drop ((k+1)*5)=zL (L.drop (k+1))):=by
    show(cur.toList.take (L.length*5)).drop ((k+1)*5)=zL (L.drop (k+1))
    rw[dB,(xX L (k+1)).2]
   have HG:H (w.heap[g]?=C (kp cur 139 (0,0))/\cur.size=cap*5):=⟨hg,fU⟩
   have i0:(0:Int)<=(k:Int):=by omega
   have i1:((k:Int)== -1)=D:=by simp
   clear e1 hx hf hr HR dL tK Iz dB hg fU
   go_enter Tryz.func210,Tryz.ntmps210
   go_wp2_with (go_at_call 176;refine hI.mono ?_;rintro e w1 ⟨rfl,Ha⟩)
   have ry:H (But (fun k=>k=g) w w1):=But.yhJ Ha;have NJ:H (w1.heap[g]?=C (kp cur 139 (0,0))/\cur.size=cap*5):=⟨(Ha.block g hgl).trans HG.out.1,HG.out.2⟩;clear Ha hI HG
   go_loopg [5,6,7] L.length (fun gg s5 s6 _ wr=>∃i j:Nat,∃cu:Array uv,i<j/\j<=L.length/\L.length-j<=gg/\s5=J I i/\s6=J I j/\
    H (i=((L.take j).filter (fun l=> !P l)).length/\cu.toList.take (i*5)=zL ((L.take j).filter (fun l=> !P l))/\(cu.toList.take (L.length*5)).drop (j*5)=zL (L.drop j)/\wr.heap[g]?=C (kp cu 139 (0,0))/\cu.size=cap*5/\But (fun k=>k=g) w wr))
   case atStart=>exact⟨k,k+1,cur,by omega,by omega,by omega,rfl,by go_num,by rw[hS.out];exact iD.out,by rw[hS.out];exact Px.out,Ie.out,NJ.out.1,NJ.out.2,ry.out⟩
   case round=>
    obtain⟨i,j,cu,bC,KP,PX,rfl,rfl,HI⟩:=hrel;clear hS iD Px Ie NJ ry
    by_cases Hf:j<L.length
    ·obtain⟨m0,m1,m2,m3,m4⟩:=yfY (cap:=cap) HI.out.2.2.2.1 rfl HI.out.2.2.1 Hf
     have j0:(0:Int)<=(j:Int):=by omega
     have j1:(j:Int)<(L.length:Int):=by omega
     have n0:(0:Int)<=(i:Int):=by omega
     have n1:(i:Int)<(L.length:Int):=by omega
     have hc:=fun w' hb=>HF.out j w' Hf hb;cases hp:P (L.getD j .zz)
     ·rw[hp]at hc
      have HS:H _:=Pg.yiZ (P:=fun l=> !P l) Hf (by simp only[hp];rfl);clear hp;generalize L.getD j .zz=x at*;obtain⟨⟨p,s,fr,r⟩,d⟩:=x;simp only[Pg.Ln.val]at hc;simp only at m0 m1 m2 m3 m4
      go_wp2_with fail
      refine(hc _ ?hb).mono ?_
      case hb=>exact((HI.out.2.2.2.2.2).alloc _).mono (fun i _ hi=>by rw[hi];rfl)
      rintro e w2 ⟨rfl,Hd⟩;have y:∀o,w2.cell? ⟨wr.heap.size,o,S⟩=_:=fun o=>Hd.cell (p:=⟨wr.heap.size,o,S⟩) (by simp);have z0:w2.cell? ⟨wr.heap.size,0,S⟩=C (J I p):=(y 0).trans (by simp[go_sem]);have z1:w2.cell? ⟨wr.heap.size,1,S⟩=C (J I s):=(y 1).trans (by simp[go_sem]);have z2:w2.cell? ⟨wr.heap.size,2,S⟩=C (J I fr):=(y 2).trans (by simp[go_sem]);have z3:w2.cell? ⟨wr.heap.size,3,S⟩=C (J I r):=(y 3).trans (by simp[go_sem]);have z4:w2.cell? ⟨wr.heap.size,4,S⟩=C (U d):=(y 4).trans (by simp[go_sem]);have bS:Lw wr w2:=zT (zA (zR _) _) Hd;have KL:g<wr.heap.size:=(un.1 HI.out.2.2.2.1).1;have fV:w2.heap[g]?=C (kp cu 139 (0,0)):=(bS.block g KL).trans HI.out.2.2.2.1;have CL:H (w2.heap[g]?=C (kp cu 139 (0,0))):=fV;have tL:H (But (fun k=>k=g) w w2):=(HI.out.2.2.2.2.2).trans (But.yhJ (F:=fun k=>k=g) bS) (fun _ _ h=>h)
      have Dh:∀o,w2.frozen? ⟨g,o,S⟩=D:=fun o=>by unfold yL;simp only[fV];simp
      have sN:i*5+4<cu.size:=by rw[HI.out.2.2.2.2.1];omega
      have u:∀t,t<5->w2.cell? ⟨g,i*5+t,S⟩=C (cu.getD (i*5+t) undef):=fun t ht=>by
       rw[cell_of_row w2 g (i*5+t) cu _ _ fV];simp[show i*5+t<cu.size by omega]
      have u0:=u 0 (by omega);have u1:=u 1 (by omega);have u2:=u 2 (by omega);have u3:=u 3 (by omega);have u4:=u 4 (by omega);simp only[yd]at u0;clear y Hd bS u fV hc m0 m1 m2 m3 m4;have fin:H _:=ydw CL.out (show i*5+5<=cu.size by omega) (J I p) (J I s) (J I fr) (J I r) (U d);obtain⟨r1,r2,r3⟩:=ygz (c:=cu.toList) (news:=[J I p,J I s,J I fr,J I r,U d]) (i:=i) (j:=j) (n:=L.length) rfl (by omega) Hf (by have h5:=HI.out.2.2.2.2.1;have h6:cu.toList.length=cu.size:=M;omega)
      have FIN:H (i+1=((L.take (j+1)).filter (fun l=> !P l)).length/\(cu.toList.take (i*5)++[yP I p,J I s,J I fr,J I r,U d]++cu.toList.drop (i*5+5)).toArray.toList.take ((i+1)*5)=zL ((L.take (j+1)).filter (fun l=> !P l))/\((cu.toList.take (i*5)++[yP I p,J I s,J I fr,J I r,U d]++cu.toList.drop (i*5+5)).toArray.toList.take (L.length*5)).drop ((j+1)*5)=zL (L.drop (j+1))/\(cu.toList.take (i*5)++[yP I p,J I s,J I fr,J I r,U d]++cu.toList.drop (i*5+5)).toArray.size=cap*5):=by
       have hi:=HI.out.1;refine⟨?_,?_,?_,?_⟩
       ·rw[HS.out,X];simp;omega
       ·rw[HS.out,xN,yM,r2,HI.out.2.1];rfl
       ·rw[yM,r3,show(j+1)*5=j*5+5 by omega,<-yZ,HI.out.2.2.1]
        have:=(xX (L.drop j) 1).2;rw[yZ]at this;exact this
       ·rw[ua,r1,M,HI.out.2.2.2.2.1]
      clear r1 r2 r3 CL sN
      go_wp2_with fail
      go_roundg (L.length-(j+1))
      case measure=>omega
      case rel=>exact⟨i+1,j+1,_,by omega,by omega,by omega,by go_num,by go_num,FIN.out.1,FIN.out.2.1,FIN.out.2.2.1,fin.out.1,FIN.out.2.2.2,fin.out.2 _ _ tL.out (.inr rfl)⟩
     ·rw[hp]at hc
      have HS:H _:=Pg.yiM (P:=fun l=> !P l) Hf (by simp only[hp];rfl)
      have HD:H ((cu.toList.take (L.length*5)).drop ((j+1)*5)=zL (L.drop (j+1))):=by
       show(cu.toList.take (L.length*5)).drop ((j+1)*5)=zL (L.drop (j+1))
       rw[show(j+1)*5=j*5+5 by omega,<-yZ,HI.out.2.2.1];have:=(xX (L.drop j) 1).2;rw[yZ]at this;exact this
      clear hp;generalize L.getD j .zz=x at*;obtain⟨⟨p,s,fr,r⟩,d⟩:=x;simp only[Pg.Ln.val]at hc;simp only at m0 m1 m2 m3 m4
      go_wp2_with fail
      refine(hc _ ?hb').mono ?_
      case hb'=>exact((HI.out.2.2.2.2.2).alloc _).mono (fun i _ hi=>by rw[hi];rfl)
      rintro e w2 ⟨rfl,Hd⟩;have bS:Lw wr w2:=zT (zA (zR _) _) Hd;have KL:g<wr.heap.size:=(un.1 HI.out.2.2.2.1).1;have CL:H (w2.heap[g]?=C (kp cu 139 (0,0))):=(bS.block g KL).trans HI.out.2.2.2.1;have tL:H (But (fun k=>k=g) w w2):=(HI.out.2.2.2.2.2).trans (But.yhJ (F:=fun k=>k=g) bS) (fun _ _ h=>h);clear Hd bS hc m0 m1 m2 m3 m4
      go_wp2_with fail
      go_roundg (L.length-(j+1))
      case measure=>omega
      case rel=>exact⟨i,j+1,cu,by omega,by omega,by omega,rfl,by go_num,by rw[HS.out];exact HI.out.1,by rw[HS.out];exact HI.out.2.1,HD.out,CL.out,HI.out.2.2.2.2.1,tL.out⟩
    ·have j1:¬(j:Int)<(L.length:Int):=by omega
     have hjj:j=L.length:=by omega
     obtain⟨q0,dG,rW,dU,nH⟩:=info_parts jC;have SS:=HI.out.1;have Ka:=HI.out.2.1;rw[hjj,List.take_length]at SS Ka
     have bY:∀ty l c,l=L.length-i->(Builtin.clear_ #[61] ty #[Q (C ⟨g,i*5,S⟩) l c]).run Y wr= .ok (yX #[]) (wr.setRow g (cu.toList.take (i*5)++(Builtin.zeroCells (yQ #[J I 0,J I 0,J I 0,J I 0,U D]).cells (L.length-i)).toList++cu.toList.drop (i*5+(L.length-i)*5)).toArray):=by
      intro ty l c hl;subst hl
      have hv:∀w,(zeroValue 139).run Y w= .ok (yo #[J I 0,J I 0,J I 0,J I 0,U D]) w:=fun w=>by simp[zeroValue,typeInfo,dG,rW]
      exact qp (P:=Y) wr 61 139 ty 139 _ Tryz.underlying61 hv g (i*5) (L.length-i) c (by omega) cu HI.out.2.2.2.1 (by
       show i*5+(L.length-i)*5<=cu.size
       rw[HI.out.2.2.2.2.1];omega) (yft _)
     obtain⟨W2,Hy⟩:=eY (wr.setRow g (cu.toList.take (i*5)++(Builtin.zeroCells (yQ #[J I 0,J I 0,J I 0,J I 0,U D]).cells (L.length-i)).toList++cu.toList.drop (i*5+(L.length-i)*5)).toArray);rw[<-Hy]at bY
     have FIN:H (W2.ownsRow 0 139 5 (Q (C ⟨g,0,S⟩) (L.filter fun l=> !P l).length cap) (L.filter fun l=> !P l).length (zL (L.filter fun l=> !P l))/\But (fun k=>k=g) w W2/\i=(L.filter fun l=> !P l).length):=by
      have SA:(Builtin.zeroCells (yQ #[J I 0,J I 0,J I 0,J I 0,U D]).cells (L.length-i)).toList.length=(L.length-i)*5:=by rw[M,size_zeroCells];rfl
      have mU:(cu.toList.take (i*5)).length=i*5:=by rw[Z,M,HI.out.2.2.2.2.1];omega
      refine⟨⟨qj _,.inr ⟨g,cap,_,rfl,yB _,by rw[Hy];exact setRow_heap wr g cu _ _ _ HI.out.2.2.2.1,by omega,tY,?_,?_⟩⟩,by rw[Hy];exact(HI.out.2.2.2.2.2).setRow (.inr rfl) _,SS⟩
      ·rw[ua,X,X,mU,SA,E]
       have h5:=HI.out.2.2.2.2.1;have h6:cu.toList.length=cu.size:=M;omega
      ·rw[<-SS,yM,yz,yF (by omega),yS (by omega),Ka]
     have n0:(0:Int)<=(i:Int):=by omega
     have n1:(i:Int)<=(L.length:Int):=by omega
     have n2:¬(cap=i):=by omega
     have n3:(i:Int)<=(cap:Int):=by omega
     clear Hy SS Ka dG rW dU nH HI HF
     go_wp2_with (at_builtin;refine zG _ rfl _ 61 rfl _ rfl (bY _ _ _ rfl) ?_)
     go_ret
     refine⟨?_,FIN.out.1,FIN.out.2.1.mono fun i _ hi=>by rw[hi];rfl⟩;rw[<-FIN.out.2.2];rfl
theorem ybT {g cap n:Nat} {cur:Array uv} {xs:List uv} (w:kO) (hg:w.heap[g]?=C (kp cur 139 (0,0))) (hn:n<=6) (hk:0<n) (GA:n<=cap) (kD:cap<=9223372036854775807)
 (bZ:cur.size=cap*5) (hx:cur.toList.take (n*5)=xs) (iB:∀u,u ∈ xs->u.oneCell'=yI):
 uc Y 185 #[Q (C ⟨g,0,S⟩) n cap,J I 0,J I 1] w fun e w'=>e=K (Q (C ⟨g,0,S⟩) (n-1) cap)/\
  w'.ownsRow 0 139 5 (Q (C ⟨g,0,S⟩) (n-1) cap) (n-1) (xs.drop 5)/\But (fun j=>j=g) w w':=by
 obtain⟨q0,dG,rW,dU,nH⟩:=info_parts jC
 have pM:xs.length=n*5:=by rw[<-hx,Z,M,bZ];omega
 have cB:(xs.drop 5).length=(n-1)*5:=by rw[E,pM];omega
 have oV:∀j u,xs[j]?=C u->w.drew.cell? ⟨g,j,S⟩=C u:=fun j u hu=>by
  rw[cell_of_row w.drew g j cur _ _ hg];rw[<-hx,yN]at hu;split at hu
  ·simpa using hu
  ·cases hu
 obtain⟨C1,mG⟩:∃C1:List uv,C1=cur.toList.take (0*5)++xs.drop 5++cur.toList.drop (0*5+(xs.drop 5).length):=⟨_,rfl⟩
 have dz:C1.length=cap*5:=by rw[mG];simp only[X,Z,E,M,bZ,pM];omega
 obtain⟨W1,rC⟩:=eY (w.drew.setRow g C1.toArray)
 have uh:∀ty o l c,l=n-1->(o=5\/n=1)->(Builtin.append_ #[61,61] ty #[Q (C ⟨g,0,S⟩) 0 cap,Q (C ⟨g,o,S⟩) l c]).run Y w.drew= .ok (Q (C ⟨g,0,S⟩) (n-1) cap) W1:=by
  intro ty o l c hl ho;subst hl
  have:=run_append_room (P:=Y) w.drew 61 ty 139 q0 Tryz.underlying61 dG g 0 cap cur hg ⟨g,o,S⟩ (n-1) c (xs.drop 5) (by rw[cB,dU])
   (fun j u hj=>by
     rcases ho with rfl|ho
     ·rw[Addr.add_lit];exact oV (5+j) u (by rwa [yT]at hj)
     ·have h0:(xs.drop 5).length=0:=by rw[cB];omega
      rw[yC.1 h0]at hj
      simp at hj) (fun u hu=>iB u (yO hu)) (by omega) (by rw[cB,dU,bZ];omega)
  rw[dU,<-mG,<-rC,show 0+(n-1)=n-1 by omega]at this;exact this
 have kI:W1.heap[g]?=C (kp C1.toArray 139 (0,0)):=by rw[rC];exact setRow_heap w.drew g cur _ _ _ hg
 have sG:But (fun j=>j=g) w W1:=by rw[rC];exact(But.refl (fun j=>j=g) w).drew.setRow (.inr rfl) _
 obtain⟨W2,Hy⟩:=eY (W1.setRow g (C1.take ((n-1)*5)++[yP I 0,J I 0,J I 0,J I 0,U D]++C1.drop ((n-1)*5+5)).toArray)
 have bY:∀ty o l c,o=(n-1)*5->l=1->(Builtin.clear_ #[61] ty #[Q (C ⟨g,o,S⟩) l c]).run Y W1= .ok (yX #[]) W2:=by
  intro ty o l c ho hl;subst ho hl
  have SA:(Builtin.zeroCells (yQ #[J I 0,J I 0,J I 0,J I 0,U D]).cells 1).toList=[J I 0,J I 0,J I 0,J I 0,U D]:=by kernel_rfl
  have hv:∀w,(zeroValue 139).run Y w= .ok (yo #[J I 0,J I 0,J I 0,J I 0,U D]) w:=fun w=>by simp[zeroValue,typeInfo,dG,rW]
  have:=qp (P:=Y) W1 61 139 ty 139 _ Tryz.underlying61 hv g ((n-1)*5) 1 c (by decide) C1.toArray kI (by
   show(n-1)*5+1*5<=C1.toArray.size
   simp only[ua,dz]
   omega) (by rw[SA];decide)
  rw[SA]at this;rw[this,Hy];rfl
 have fV:W2.heap[g]?=C (kp (C1.take ((n-1)*5)++[yP I 0,J I 0,J I 0,J I 0,U D]++C1.drop ((n-1)*5+5)).toArray 139 (0,0)):=by rw[Hy];exact setRow_heap W1 g _ _ _ _ kI
 have HB:H (But (fun j=>j=g) w W2):=by rw[Hy];exact sG.setRow (.inr rfl) _
 have HO:H (W2.ownsRow 0 139 5 (Q (C ⟨g,0,S⟩) (n-1) cap) (n-1) (xs.drop 5)):=by
  have e:=ydo (c:=cur.toList) (xs:=xs) (zs:=[yP I 0,J I 0,J I 0,J I 0,U D]) (z:=5) (n:=n) (k:=0) hk (by rw[M,bZ];omega) hx;simp only[yW,Nat.one_mul]at e mG;simp only[<-mG]at e;refine⟨cB,.inr ⟨g,cap,_,rfl,yB _,fV,by omega,by unfold maxLen;omega,?_,?_⟩⟩
  ·simp only[ua,Z,X,E,dz,yK,yE];omega
  ·rw[yM,e];simp
 have Ha:(1:Int)<=(n:Int):=by omega
 have Hl:(0:Int)<=(cap:Int):=by omega
 have ru:n-1<=n:=by omega
 have rZ:n-(n-1)=1:=by omega
 have sH:¬(cap=n-1):=by omega
 clear hg hx iB oV mG dz rC kI sG Hy fV bZ pM cB dG rW dU nH
 by_cases pR:cap=1
 ·obtain rfl:n=1:=by omega
  subst pR;have FE:H (W2.ownsRow 0 139 5 (Q (C ⟨g,0,S⟩) 0 1) 0 (xs.drop 5)):=HO.out;simp only[yc]at uh bY ⊢;clear HO Ha Hl ru rZ sH
  go_enter Tryz.func185,Tryz.ntmps185
  go_wp2
  go_region_law (refine zw rfl (.tmp 22) (.tmp 25) 61 61 rfl (Q (C ⟨g,0,S⟩) 0 1) (Q (C ⟨g,0,S⟩) 0 0) (by simp[Act.eval,Act.put]) (by simp[Act.eval,Act.put]) (uh _ _ _ _ rfl (.inr trivial)) ?_)
  go_wp2_with (at_builtin;refine zG _ rfl _ 61 rfl _ rfl (bY _ _ _ _ (by omega) (by omega)) ?_)
  go_ret
  exact⟨rfl,FE.out,HB.out⟩
 ·go_enter Tryz.func185,Tryz.ntmps185
  go_wp2
  go_region_law (refine zw rfl (.tmp 22) (.tmp 25) 61 61 rfl (Q (C ⟨g,0,S⟩) 0 cap) (Q (C ⟨g,5,S⟩) (n-1) (cap-1)) (by simp[Act.eval,Act.put]) (by simp[Act.eval,Act.put]) (uh _ _ _ _ rfl (.inl rfl)) ?_)
  go_wp2_with (at_builtin;refine zG _ rfl _ 61 rfl _ rfl (bY _ _ _ _ (by omega) (by omega)) ?_)
  go_ret
  exact⟨rfl,HO.out,HB.out⟩
theorem ybS {vb:uv} {L:List Pg.Ln} (w:kO) (hr:w.ownsRow 0 139 5 vb L.length (zL L)) (hn:L.length<=6) (hk:0<L.length):
 uc Y 185 #[vb,J I 0,J I 1] w fun e w'=>∃g cap,vb=Q (C ⟨g,0,S⟩) L.length cap/\e=K (Q (C ⟨g,0,S⟩) (L.length-1) cap)/\w'.ownsRow 0 139 5 (Q (C ⟨g,0,S⟩) (L.length-1) cap) (L.drop 1).length (zL (L.drop 1))/\But (fun j=>vb.ownBlock=C j) w w':=by
 obtain⟨_,RF⟩:=hr;rcases RF with ⟨_,e0⟩|⟨g,cap,cur,rfl,_,hg,rO,tY,fU,dB⟩
 ·omega
 ·refine(ybT w hg hn hk rO (by unfold maxLen at tY;omega) fU dB (vf L)).mono ?_
  rintro e w' ⟨rfl,h1,h2⟩;refine⟨g,cap,rfl,rfl,?_,h2.mono fun i _ hi=>by rw[hi];rfl⟩;rw[<-(xX L 1).2,E];exact h1
structure Chg (b o:Nat) (F:Nat->Prop) (w w':kO):Prop where
 but:But F w w'
 oth:∀p,p≠o->w'.cell? ⟨b,p,S⟩=w.cell? ⟨b,p,S⟩
theorem Chg.yhJ {b o:Nat} {F:Nat->Prop} {w w':kO} (h:Lw w w') (hb:b<w.heap.size):Chg b o F w w':=⟨But.yhJ h,fun p _=>h.cell (p:=⟨b,p,S⟩) hb⟩
theorem Chg.trans {b o:Nat} {F G:Nat->Prop} {w w1 w2:kO} (h:Chg b o F w w1) (k:Chg b o G w1 w2) (hG:∀i,i<w.heap.size->G i->F i):Chg b o F w w2:=
 ⟨h.but.trans k.but hG,fun p hp=>(k.oth p hp).trans (h.oth p hp)⟩
structure Tbk (w:kO) (b o:Nat) (vb:uv) (L:List Pg.Ln):Prop where
 c0:w.cell? ⟨b,o,S⟩=C vb
 fb:∀p,w.frozen? ⟨b,p,S⟩=D
 row:w.ownsRow 0 139 5 vb L.length (zL L)
 nb:vb.ownBlock≠C b
 kept:Pg.Kept L
namespace Tbk
variable {w w' W:kO} {b o:Nat} {vb v':uv} {L L':List Pg.Ln}
theorem lb (h:Tbk w b o vb L):b<w.heap.size:=ur _ _ h.c0
theorem lt (h:Tbk w b o vb L) {k:Nat} (hk:bkF b vb k):k<w.heap.size:=by
 rcases hk with rfl|hk
 ·exact h.lb
 ·exact(h.row.lt k hk).2
theorem keep (h:Tbk w b o vb L) {F:Nat->Prop} (hb:But F w w') (hF:∀k,bkF b vb k->¬F k):Tbk w' b o vb L:=by
 have kb:=hb.block b h.lb (hF b (.inl rfl));exact⟨(ki kb).trans h.c0,fun p=>(ud kb).trans (h.fb p),zc h.row hb fun k hk=>hF k (.inr hk),h.nb,h.kept⟩
theorem grow (h:Tbk w b o vb L) (hb:Lw w w'):Tbk w' b o vb L:=h.keep (F:=fun _=>False) (But.yhJ hb) (fun _ _=>id)
theorem put (h:Tbk w b o vb L) (hb:But (fun j=>vb.ownBlock=C j) w W) (hr:W.ownsRow 0 139 5 v' L'.length (zL L')) (hv:∀j,v'.ownBlock=C j->vb.ownBlock=C j\/w.heap.size<=j) (hg:Pg.Kept L'):
 Tbk (W.setCell ⟨b,o,S⟩ v') b o v' L'/\Chg b o (bkF b vb) w (W.setCell ⟨b,o,S⟩ v')/\(∀k,bkF b v' k->bkF b vb k\/w.heap.size<=k):=by
 have hl:=h.lb;have kb:W.heap[b]?=w.heap[b]?:=hb.block b hl h.nb;have hc:W.cell? ⟨b,o,S⟩=C vb:=(ki (a:=⟨b,o,S⟩) kb).trans h.c0;have Ho:v'.ownBlock≠C b:=fun e=>(hv b e).elim h.nb (fun h=>by omega);refine⟨⟨yi _ _ _ hc,fun p=> ?_,?_,Ho,hg⟩,⟨?_,fun p hp=> ?_⟩,fun k hk=> ?_⟩
 ·have:=(ud (a:=⟨b,p,S⟩) kb).trans (h.fb p)
  simpa using this
 ·exact zb hr fun k hk=>Below.heap_setCell _ _ _ _ (fun e=>Ho (by rw[hk];exact congrArg C e))
 ·exact(hb.mono (G:=bkF b vb) fun i _ hi=> .inr hi).setCell (a:=⟨b,o,S⟩) (.inr (.inl rfl)) _
 ·rw[O _ _ _ _ (fun e=>hp (by injection e with _ e;exact e.symm))]
  exact ki (a:=⟨b,p,S⟩) kb
 ·rcases hk with rfl|hk
  ·exact .inl (.inl rfl)
  ·exact(hv k hk).imp .inr id
end Tbk
structure jM (w:kO) (b o:Nat) (L:List Pg.Ln) (F:Nat->Prop):Prop where
 ex:∃vb,Tbk w b o vb L/\F=bkF b vb
section
variable {w w':kO} {b o:Nat} {L:List Pg.Ln} {F G:Nat->Prop}
theorem jM.lt (h:jM w b o L F) {k:Nat} (hk:F k):k<w.heap.size:=by
 obtain⟨vb,h,rfl⟩:=h;exact h.lt hk
theorem jM.kept (h:jM w b o L F):Pg.Kept L:=by
 obtain⟨vb,h,rfl⟩:=h;exact h.kept
theorem jM.keep (h:jM w b o L F) (hb:But G w w') (hF:∀k,F k->¬G k):jM w' b o L F:=by
 obtain⟨vb,h,rfl⟩:=h;exact⟨vb,h.keep hb hF,rfl⟩
theorem jM.grow (h:jM w b o L F) (hb:Lw w w'):jM w' b o L F:=h.keep (G:=fun _=>False) (But.yhJ hb) (fun _ _=>id)
end
theorem ygT {w:kO} {vb:uv} {L:List Pg.Ln} {t:TypeId} (hr:w.ownsRow 0 139 5 vb L.length (zL L)) (hg:Pg.Kept L):Tbk (w.alloc (kp #[vb] t)) w.heap.size 0 vb L:=by
 have hb:=yA w (kp #[vb] t);refine⟨cell_of_row _ _ 0 _ _ _ hb,fun o=>by unfold yL;simp only[hb];simp,hr.alloc _,fun e=> ?_,hg⟩;have:=(hr.lt _ e).2;omega
theorem yfk (w:kO):
 uc Y 86 #[] w fun e w'=>∃b F,e=K (kh (C ⟨b,0,S⟩))/\jM w' b 0 [] F/\Lw w w'/\∀k,F k->w.heap.size<=k:=by
 go_enter Tryz.func86,Tryz.ntmps86
 go_wp2
 go_ret
 refine⟨_,_,rfl,⟨Q S 0 0,ygT (yy _ _ _ _) Pg.Kept.nil,rfl⟩,zA (zR _) _,fun k hk=> ?_⟩;rcases hk with rfl|hk
 ·exact yJ _
 ·simp[yR]at hk
section
variable {b o:Nat} {L:List Pg.Ln} {F:Nat->Prop}
theorem yek (w:kO) (h:jM w b o L F):
 uc Y 69 #[kh (C ⟨b,o,S⟩)] w fun e w'=>∃ad cap,e=K (Q ad L.length cap)/\qC w' ad L/\Lw w w'/\∀k,(ue ad L.length cap).ownBlock=C k->w.heap.size<=k:=by
 obtain⟨vb,h,rfl⟩:=h;have rT:=h.c0;have HC:H _:=ycZ w h.row h.kept.le;clear h
 go_enter Tryz.func69,Tryz.ntmps69
 go_wp2_with fail
 refine Calls.mono HC.out ?_;rintro e w1 ⟨v',rfl,hr,hb⟩;obtain⟨ad,cap,rfl⟩:=zF hr;have HR:H _:=hr;have HB:H _:=hb;clear hr hb
 go_wp2
 go_ret
 exact⟨ad,cap,rfl,zt (zl.yjV HR.out),HB.out,fun k hk=>(World.ownsRow.lt HR.out k hk).1⟩
theorem yeM {bq oq:Nat} (q:Int) (hq:Pg.fits q) (l:Pg.Ln) (hl:Pg.fits l.m.p) (w:kO) (hc:w.cell? ⟨bq,oq,S⟩=C (J I q)):
 uc Y 177 #[l.val,kh (C ⟨bq,oq,S⟩)] w fun e w'=>e=K (U (l.has q))/\Lw w w':=by
 obtain⟨⟨p,s,f,r⟩,d⟩:=l;have PI:=ur _ _ hc;have HO:=je p s f r q hl hq;simp only[Pg.Ln.val,Pg.Ln.has,Pg.Mp.has];generalize Pg.over p s q=x at*
 go_enter Tryz.func177,Tryz.ntmps177
 go_wp2_with fail
 refine(HO _).mono ?_;rintro e w1 ⟨rfl,Ha⟩
 go_wp2
 go_ret
 exact⟨rfl,zT (zA (zR _) _) Ha⟩
theorem yeD {bm om:Nat} (m:Pg.Mp) (hm:Pg.fits m.p) (l:Pg.Ln) (hl:Pg.fits l.m.p) (w:kO) (hc:ybJ w bm om m):
 uc Y 211 #[l.val,kh (C ⟨bm,om,S⟩)] w fun e w'=>e=K (U (l.meets m))/\Lw w w':=by
 obtain⟨⟨p,s,f,r⟩,d⟩:=l;obtain⟨p',s',f',r'⟩:=m;obtain⟨c0,c1,c2,c3⟩:=hc;have PI:=ur _ _ c0;have HO:=ybu p s f r p' s' f' r' hl hm;simp only at c0 c1 c2 c3;simp only[Pg.Ln.val,Pg.Ln.meets,Pg.Mp.meets];generalize Pg.meet p s p' s'=x at*
 go_enter Tryz.func211,Tryz.ntmps211
 go_wp2_with fail
 refine(HO _).mono ?_;rintro e w1 ⟨rfl,Ha⟩
 go_wp2
 go_ret
 exact⟨rfl,zT (zA (zR _) _) Ha⟩
theorem qw {w w1:kO} (h:Lw w w1) (r:Nat) (hr:w.heap.size<=r) (x0 x1 x2 x3 x4:uv):
 Lw w (((((w1.setCell ⟨r,0,S⟩ x0).setCell ⟨r,1,S⟩ x1).setCell ⟨r,2,S⟩ x2).setCell ⟨r,3,S⟩ x3).setCell ⟨r,4,S⟩ x4):=
 ((((h.setCell hr _).setCell hr _).setCell hr _).setCell hr _).setCell hr _
theorem j6 (q:Int) (hq:Pg.fits q) (w:kO) (h:jM w b o L F):
 uc Y 141 #[kh (C ⟨b,o,S⟩),J I q] w fun e w'=>e=K (yX #[(Pg.kAt L q).val,U (Pg.kFnd L q).isSome])/\Lw w w':=by
 obtain⟨vb,h,rfl⟩:=h;obtain⟨ad,cap,rfl⟩:=zF h.row;obtain⟨W,hW⟩:=eY ((w.alloc (kp #[J I q] 3)).alloc (kp #[J I 0,J I 0,J I 0,J I 0,U D] 139))
 have hB:Lw w W:=by rw[hW];exact zA (zA (zR _) _) _
 have hT:=h.grow hB
 have k1:W.cell? ⟨w.heap.size,0,S⟩=C (J I q):=by rw[hW];simp[go_sem]
 have HI:=vN (cap:=cap) (fun l=>l.has q) 177 #[kh (C ⟨w.heap.size,0,S⟩)] W (zt (zl.yjV hT.row)) h.kept.le (fun args w=>by simp[go_sem]) (fun j w' hj hb=>yeM q hq _ (h.kept.fits hj) w' (yH hb k1));have rY:=h.lb;have rT:=hT.c0;have Gz:=h.c0;have Hg:=h.kept.le
 have sN:W.heap.size=w.heap.size+2:=by rw[hW];simp
 cases hf:Pg.kFnd L q with
 | none=>
   have e1:Pg.kAt L q= .zz:=by simp only[Pg.kAt,hf]
   have e2:Pg.idxN L (fun l=>l.has q)= -1:=by
    unfold Pg.kFnd at hf;simp only[Pg.idxN,hf]
   rw[e2]at HI;have HB:H _:=hB;rw[e1];clear e1 e2 hf h hT hB k1
   go_enter Tryz.func141,Tryz.ntmps141
   go_wp2_with fail
   rw[<-hW];refine HI.mono ?_;rintro e w1 ⟨rfl,Ha⟩;have hr:∀p,w1.cell? ⟨w.heap.size+1,p,S⟩=_:=fun p=>Ha.cell (p:=⟨w.heap.size+1,p,S⟩) (by simp;omega);have hf:∀p,w1.frozen? ⟨w.heap.size+1,p,S⟩=_:=fun p=>Ha.frozen (p:=⟨w.heap.size+1,p,S⟩) (by simp;omega);rw[hW]at hr hf;have ry:H _:=zT HB.out Ha;clear Ha HI HB rT Gz hW
   go_wp2
   refine yj (v:=yX #[yo #[J I 0,J I 0,J I 0,J I 0,U D],U D]) ?_ rfl ⟨rfl,?_⟩
   ·simp[results,Tryz.results141,go_sem,hr]
   ·exact qw ry.out _ (yb _) _ _ _ _ _
 | some k=>
   obtain⟨hk,_,_⟩:=Pg.yjq hf
   have e1:Pg.kAt L q=L.getD k .zz:=by simp only[Pg.kAt,hf]
   have e2:Pg.idxN L (fun l=>l.has q)=(k:Int):=by
    unfold Pg.kFnd at hf;simp only[Pg.idxN,hf]
   rw[e2]at HI;obtain⟨g,og,e3,hg,hm⟩:=zt (zl.yjV hT.row) k hk;subst e3;have HB:H _:=hB;rw[e1]
   have i0:(0:Int)<=(k:Int):=by omega
   have i1:(k:Int)<(L.length:Int):=by omega
   have i2:¬(k:Int)<0:=by omega
   have ky:b<W.heap.size:=yD rY hB.size;clear e1 e2 hf h hT hB k1;generalize L.getD k .zz=x at*;obtain⟨⟨xp,xs,xf,xr⟩,xd⟩:=x;simp only[Pg.Ln.val]
   go_enter Tryz.func141,Tryz.ntmps141
   go_wp2_with fail
   rw[<-hW];refine HI.mono ?_;rintro e w1 ⟨rfl,Ha⟩;have hr:∀p,w1.cell? ⟨w.heap.size+1,p,S⟩=_:=fun p=>Ha.cell (p:=⟨w.heap.size+1,p,S⟩) (by simp;omega);have hf:∀p,w1.frozen? ⟨w.heap.size+1,p,S⟩=_:=fun p=>Ha.frozen (p:=⟨w.heap.size+1,p,S⟩) (by simp;omega);rw[hW]at hr hf;have ry:H _:=zT HB.out Ha;have c0:=yH Ha rT;obtain⟨m0,m1,m2,m3,m4⟩:=hm.below Ha hg;simp only at m0 m1 m2 m3 m4;have dA:b<w1.heap.size:=yD ky Ha.size;clear Ha HI HB rT Gz hW hm
   go_wp2
   refine yj (v:=yX #[yo #[J I xp,J I xs,J I xf,J I xr,U xd],U yI]) ?_ rfl ⟨rfl,?_⟩
   ·simp[results,Tryz.results141,go_sem,hr]
   ·exact qw ry.out _ (yb _) _ _ _ _ _
end
section
variable {b o:Nat} {L:List Pg.Ln} {F:Nat->Prop}
theorem yba (m:Pg.Mp) (hm:Pg.fits m.p) (w:kO) (h:jM w b o L F):
 uc Y 183 #[kh (C ⟨b,o,S⟩),m.val] w fun e w'=>e=K (J I ((L.length:Int)-((Pg.yiI L m).length:Int)))/\∃F',jM w' b o (Pg.yiI L m) F'/\Chg b o F w w'/\∀k,F' k->F k\/w.heap.size<=k:=by
 obtain⟨vb,h,rfl⟩:=h;obtain⟨ad,cap,rfl⟩:=zF h.row;obtain⟨W,hW⟩:=eY (w.alloc (kp #[J I m.p,J I m.s,J I m.f,J I m.r] 39))
 have hB:Lw w W:=by rw[hW];exact zA (zR _) _
 have hT:=h.grow hB
 have k1:ybJ W w.heap.size 0 m:=by rw[hW];exact⟨by simp[go_sem],by simp[go_sem],by simp[go_sem],by simp[go_sem]⟩
 have sN:W.heap.size=w.heap.size+1:=by rw[hW];simp
 have nJ:¬(ue ad L.length cap).ownBlock=C w.heap.size:=fun e=>by have:=(h.row.lt _ e).2;omega
 have HD:=ycL (cap:=cap) (fun l=>l.meets m) 211 #[kh (C ⟨w.heap.size,0,S⟩)] W hT.row h.kept.le (fun args w=>by simp[go_sem]) (fun j w' hj hb=>yeD m hm _ (h.kept.fits hj) w' ⟨(hb.cell (a:=⟨w.heap.size,0,S⟩) (by simp;omega) nJ).trans k1.1,(hb.cell (a:=⟨w.heap.size,0+1,S⟩) (by simp;omega) nJ).trans k1.2.1,(hb.cell (a:=⟨w.heap.size,0+2,S⟩) (by simp;omega) nJ).trans k1.2.2.1,(hb.cell (a:=⟨w.heap.size,0+3,S⟩) (by simp;omega) nJ).trans k1.2.2.2⟩);have e1:(L.filter fun l=> !l.meets m)=Pg.yiI L m:=rfl;rw[e1]at HD;have rY:=h.lb;have rT:=h.c0;have Hg:=h.kept.le;have iO:=(h.kept.drop m).le;have HT:H _:=hT;have HX:H _:=h;have HB:H _:=hB;have HK:H _:=h.kept.drop m;clear h hT hB k1 e1 nJ;generalize Pg.yiI L m=L' at*;obtain⟨mp,ms,mf,mr⟩:=m;simp only[Pg.Mp.val];simp only at hW
 go_enter Tryz.func183,Tryz.ntmps183
 go_wp2_with fail
 rw[<-hW];refine HD.mono ?_;rintro e w1 ⟨rfl,hr,Ha⟩;have kb:w1.heap[b]?=W.heap[b]?:=Ha.block b (by omega) HT.out.nb;have c0:w1.cell? ⟨b,o,S⟩=C (Q ad L.length cap):=(ki (a:=⟨b,o,S⟩) kb).trans HT.out.c0;have cf:w1.frozen? ⟨b,o,S⟩=D:=(ud (a:=⟨b,o,S⟩) kb).trans (HT.out.fb o);have HF:H _:=HT.out.put Ha hr (fun j hj=> .inl (by cases ad with|none=>exact absurd hj (by simp[yR])|some a=>exact hj)) HK.out;clear Ha hr kb HD rT hW
 go_wp2
 go_ret
 obtain⟨f1,f2,f3⟩:=HF.out;refine⟨rfl,_,⟨_,f1,rfl⟩,(Chg.yhJ (o:=o) HB.out rY).trans f2 (fun i _ hi=>hi),fun k hk=>(f3 k hk).imp id (fun h=>by omega)⟩
theorem yad (w:kO) (h:jM w b o L F):
 uc Y 150 #[kh (C ⟨b,o,S⟩)] w fun e w'=>e=K (U (decide (0<L.length)))/\∃F',jM w' b o (L.drop 1) F'/\Chg b o F w w'/\∀k,F' k->F k\/w.heap.size<=k:=by
 obtain⟨vb,h,rfl⟩:=h;obtain⟨ad,cap,rfl⟩:=zF h.row;have rY:=h.lb;have rT:=h.c0;have Hg:=h.kept.le
 by_cases h0:0<L.length
 ·have HD:H _:=ybS w h.row Hg h0
  have HX:H _:=h
  have e0:H (decide (0<L.length)=yI):=by simp[H,h0]
  have n0:((L.length:Int)==0)=D:=by
   have:¬(L.length:Int)=0:=by omega
   simpa using this
  clear h
  go_enter Tryz.func150,Tryz.ntmps150
  go_wp2_with fail
  refine Calls.mono HD.out ?_;rintro e w1 ⟨g,cap',he,rfl,hr,Ha⟩;cases he;have kb:w1.heap[b]?=w.heap[b]?:=Ha.block b (by omega) HX.out.nb;have c0:w1.cell? ⟨b,o,S⟩=C (Q (C ⟨g,0,S⟩) L.length cap):=(ki (a:=⟨b,o,S⟩) kb).trans HX.out.c0;have cf:w1.frozen? ⟨b,o,S⟩=D:=(ud (a:=⟨b,o,S⟩) kb).trans (HX.out.fb o);have HF:H _:=HX.out.put Ha hr (fun j hj=> .inl hj) HX.out.kept.tail;clear Ha hr kb HD rT
  go_wp2
  go_ret
  obtain⟨f1,f2,f3⟩:=HF.out;refine⟨zV e0.out.symm,_,⟨_,f1,rfl⟩,f2,f3⟩
 ·have hL:L=[]:=yC.1 (by omega)
  subst hL;have HX:H _:=h;clear h
  go_enter Tryz.func150,Tryz.ntmps150
  go_wp2
  go_ret
  exact⟨rfl,_,⟨_,HX.out,rfl⟩,Chg.yhJ (zR _) rY,fun k hk=> .inl hk⟩
theorem yfl (l:Pg.Ln) (hm:Pg.fits l.m.p) (w:kO) (h:jM w b o L F):
 uc Y 146 #[kh (C ⟨b,o,S⟩),l.val] w fun e w'=>e=K (U (l.m.code==0))/\∃F',jM w' b o (Pg.kPut L l) F'/\Chg b o F w w'/\∀k,F' k->F k\/w.heap.size<=k:=by
 have HX:H _:=h;have KW:∀k,F k->k<w.heap.size:=fun k hk=>h.lt hk;have sP:=zY l.m.p l.m.s l.m.f l.m.r
 have rY:b<w.heap.size:=by obtain⟨vb,h,_⟩:=h;exact h.lb
 by_cases Hz:l.m.code=0
 ·have kE:Pg.check l.m.p l.m.s l.m.f l.m.r=0:=Hz
  rw[kE]at sP
  have hr:(l.m.code==0)=yI:=by simp[Hz]
  have wH:H (Pg.Kept (Pg.kPut L l)):=h.kept.put l;have Pf:H ((Pg.yiI L l.m).length<=6):=(h.kept.drop l.m).le;have HD:=fun w' (hb:Lw w w')=>yba l.m hm w' (h.grow hb);rw[hr];rw[Pg.ylg Hz]at wH ⊢;clear h Hz kE hr;generalize Pg.yiI L l.m=L1 at*;obtain⟨L2,Rb⟩:=eY (Pg.yjr L1);rw[<-Rb]at wH
  have FC:H (L2.length<=5):=by rw[Rb];exact Pg.yjP Pf.out
  have gW:H (L2=Pg.yjr L1):=Rb;clear Rb;obtain⟨⟨mp,ms,mf,mr⟩,d⟩:=l;simp only[Pg.Ln.val,Pg.Mp.val]at*;have E2:=fun w' F' (h:jM w' b o L1 F')=>yad w' h
  go_enter Tryz.func146,Tryz.ntmps146
  go_wp2_with fail
  refine(sP _).mono ?_;rintro e w1 ⟨rfl,Ha⟩;have aC:∀p,w1.cell? ⟨w.heap.size,p,S⟩=_:=fun p=>Ha.cell (p:=⟨w.heap.size,p,S⟩) (by simp);have bS:Lw w w1:=zT (zA (zR _) _) Ha
  have rG:w.heap.size<w1.heap.size:=by have:=Ha.size;simp at this;omega
  have ry:H _:=bS;clear Ha bS sP
  go_wp2_with fail
  refine(HD _ ry.out).mono ?_;rintro e w2 ⟨rfl,F2,h2,tY,sW⟩
  have tO:¬F w.heap.size:=fun hf=>by have:=KW _ hf;omega
  have nG:∀p,w2.cell? ⟨w.heap.size,p,S⟩=_:=fun p=>(tY.but.cell (a:=⟨w.heap.size,p,S⟩) rG tO).trans (aC p);have pJ:w.heap.size<w2.heap.size:=yD rG tY.but.size;have lX:H (Chg b o F w w2):=(Chg.yhJ (o:=o) ry.out rY).trans tY (fun i _ hi=>hi);have sW:H (∀k,F2 k->F k\/w.heap.size<k):=fun k hk=>(sW k hk).imp id (fun h=>by omega);obtain⟨AV,t2,UN⟩:=h2.ex;obtain⟨Pk,cap2,rfl⟩:=zF t2.row;have c20:=t2.c0;have UZ:=t2.lb;clear t2 UN tY HD aC HX
  by_cases h6:L1.length=6
  ·have i6:((L1.length:Int)==6)=yI:=by simp[h6]
   have eR:L1.drop 1=L2:=by rw[gW.out];simp[Pg.yjr,h6]
   rw[eR]at E2;clear eR
   go_wp2_with fail
   refine(E2 _ _ h2).mono ?_;rintro e w3 ⟨rfl,F3,h3,fU,gT⟩;have Sk:¬F2 w.heap.size:=fun hf=>(sW.out _ hf).elim tO (fun h=>by omega);have lG:∀p,w3.cell? ⟨w.heap.size,p,S⟩=_:=fun p=>(fU.but.cell (a:=⟨w.heap.size,p,S⟩) pJ Sk).trans (nG p);have aF:w.heap.size<w3.heap.size:=yD pJ fU.but.size;have wC:H (Chg b o F w w3):=lX.out.trans fU (fun i hi hg=>(sW.out i hg).elim id (fun h=>by omega));have mW:H (∀k,F3 k->F k\/w.heap.size<=k):=fun k hk=>(gT k hk).elim (fun h=>(sW.out k h).imp id (fun h=>by omega)) (fun h=> .inr (by omega));have H3:H _:=h3;have x0:w3.cell? ⟨w.heap.size,0,S⟩=C (J I mp):=(lG 0).trans (by simp[go_sem]);have x1:w3.cell? ⟨w.heap.size,1,S⟩=C (J I ms):=(lG 1).trans (by simp[go_sem]);have x2:w3.cell? ⟨w.heap.size,2,S⟩=C (J I mf):=(lG 2).trans (by simp[go_sem]);have x3:w3.cell? ⟨w.heap.size,3,S⟩=C (J I mr):=(lG 3).trans (by simp[go_sem]);have x4:w3.cell? ⟨w.heap.size,4,S⟩=C (U d):=(lG 4).trans (by simp[go_sem]);clear fU lG nG h3 h2 c20 gT E2;obtain⟨vb3,t3,rfl⟩:=H3.out.ex;obtain⟨gX,tX,rfl⟩:=zF t3.row;have Hq:=t3.row;have r0:=t3.c0;have rf:=t3.fb o;have bH:=t3.lb;have lS:=t3.nb;have iQ:L2.length<=5:=FC.out;have Ph:H _:=t3;have mX:H (Pg.Kept (L2++[⟨⟨mp,ms,mf,mr⟩,d⟩])):=wH.out;obtain⟨q0,dG,rW,tJ,rX⟩:=info_parts jC
   have tu:∀(W:kO) (j:Nat) (u:uv),[yP I mp,J I ms,J I mf,J I mr,U d][j]?=C u->(W.alloc (kp #[J I mp,J I ms,J I mf,J I mr,U d] 139)).cell? ((⟨W.heap.size,0,S⟩:Addr).add j)=C u:=fun W j u hu=>
    yY (yA W _) j u hu
   have dm:∀u,u ∈ [yP I mp,J I ms,J I mf,J I mr,U d]->u.oneCell'=yI:=by
    intro u hu;simp at hu;rcases hu with rfl|rfl|rfl|rfl|rfl<;>rfl
   have dX:L2.length+1<=maxLen:=by unfold maxLen;omega
   have sD:(L2.length+1)*40<=140737488355328:=by omega
   have oo:w.heap.size<w3.heap.size:=aF;clear t3 aF
   go_wp2
   go_region_law (refine step_append_lies _ rfl (.tmp 25) (.tmp 27) 61 rfl 0 139 q0 _ 5 40 Tryz.underlying61 dG rW tJ rX rfl (by decide) (Q gX L2.length tX) _ _ (by simp[Act.eval]) (Hq.alloc _) ⟨w3.heap.size,0,S⟩ 1 1 [J I mp,J I ms,J I mf,J I mr,U d] (by simp[Act.eval]) rfl (tu w3) dm (by decide) dX sD (yB _) (w3.heap.size+1) (by simp) ?_;intro g6 cap6 w6 tF rP sj fD;have aN:H ((w3.alloc (kp #[J I mp,J I ms,J I mf,J I mr,U d] 139)).drew.grownBy w6 (ue gX L2.length tX).ownBlock):=rP;have sS:w6.heap[b]?=w3.heap[b]?:=(aN.out.block b (by simp;omega) (fun e=>lS e.symm)).trans (yG _ _ _ bH);have e9:w6.cell? ⟨b,o,S⟩=C (Q gX L2.length tX):=(ki sS).trans r0;have Mh:w6.frozen? ⟨b,o,S⟩=D:=(ud sS).trans rf;have Pw:H (w6.ownsRow 0 139 5 (Q (C ⟨g6,0,S⟩) (L2.length+1) cap6) (L2.length+1) (zL L2++[J I mp,J I ms,J I mf,J I mr,U d])):=tF;have Pp:H ((ue gX L2.length tX).ownBlock=C g6\/g6=w3.heap.size+1):=sj;clear tF rP sj sS)
   all_goals
    have l8:But (fun j=>(ue gX L2.length tX).ownBlock=C j) w3 w6:=((But.refl _ w3).alloc _).drew.grown aN.out (fun k hk=> .inr hk)
    have uB:w6.ownsRow 0 139 5 (Q (C ⟨g6,0,S⟩) (L2.length+1) cap6) (L2++[Pg.Ln.mk ⟨mp,ms,mf,mr⟩ d]).length (zL (L2++[Pg.Ln.mk ⟨mp,ms,mf,mr⟩ d])):=by
     rw[xN,X];exact Pw.out
    have HF:H _:=Ph.out.put l8 uB (fun j hj=>by
     rcases Pp.out with h|h
     ·exact .inl (h.trans hj)
     ·exact .inr (by simp[yR]at hj;omega)) mX.out
    clear l8 uB aN Pw Pp
    go_wp2
    go_ret
    obtain⟨f1,f2,f3⟩:=HF.out;refine⟨rfl,_,by rw[<-gW.out];exact⟨_,f1,rfl⟩,wC.out.trans f2 (fun i hi hg=>(mW.out i hg).elim id (fun h=>by omega)),fun k hk=>(f3 k hk).elim (mW.out k) (fun h=> .inr (by omega))⟩
  ·have i6:((L1.length:Int)==6)=D:=by
    have:¬((L1.length:Int)=6):=by omega
    simpa using this
   have eR:L1=L2:=by rw[gW.out];simp[Pg.yjr,h6]
   rw[eR]at h2 c20 i6;clear eR;have wC:H _:=lX.out;have mW:H (∀k,F2 k->F k\/w.heap.size<=k):=fun k hk=>(sW.out k hk).imp id (fun h=>by omega);have H3:H _:=h2;have x0:w2.cell? ⟨w.heap.size,0,S⟩=C (J I mp):=(nG 0).trans (by simp[go_sem]);have x1:w2.cell? ⟨w.heap.size,1,S⟩=C (J I ms):=(nG 1).trans (by simp[go_sem]);have x2:w2.cell? ⟨w.heap.size,2,S⟩=C (J I mf):=(nG 2).trans (by simp[go_sem]);have x3:w2.cell? ⟨w.heap.size,3,S⟩=C (J I mr):=(nG 3).trans (by simp[go_sem]);have x4:w2.cell? ⟨w.heap.size,4,S⟩=C (U d):=(nG 4).trans (by simp[go_sem]);have aF:w.heap.size<w2.heap.size:=pJ;clear nG h2 E2 UZ
   go_wp2_with fail
   clear c20;generalize w2=w3 at*;obtain⟨vb3,t3,rfl⟩:=H3.out.ex;obtain⟨gX,tX,rfl⟩:=zF t3.row;have Hq:=t3.row;have r0:=t3.c0;have rf:=t3.fb o;have bH:=t3.lb;have lS:=t3.nb;have iQ:L2.length<=5:=FC.out;have Ph:H _:=t3;have mX:H (Pg.Kept (L2++[⟨⟨mp,ms,mf,mr⟩,d⟩])):=wH.out;obtain⟨q0,dG,rW,tJ,rX⟩:=info_parts jC
   have tu:∀(W:kO) (j:Nat) (u:uv),[yP I mp,J I ms,J I mf,J I mr,U d][j]?=C u->(W.alloc (kp #[J I mp,J I ms,J I mf,J I mr,U d] 139)).cell? ((⟨W.heap.size,0,S⟩:Addr).add j)=C u:=fun W j u hu=>
    yY (yA W _) j u hu
   have dm:∀u,u ∈ [yP I mp,J I ms,J I mf,J I mr,U d]->u.oneCell'=yI:=by
    intro u hu;simp at hu;rcases hu with rfl|rfl|rfl|rfl|rfl<;>rfl
   have dX:L2.length+1<=maxLen:=by unfold maxLen;omega
   have sD:(L2.length+1)*40<=140737488355328:=by omega
   have oo:w.heap.size<w3.heap.size:=aF;clear t3 aF
   go_wp2
   go_region_law (refine step_append_lies _ rfl (.tmp 25) (.tmp 27) 61 rfl 0 139 q0 _ 5 40 Tryz.underlying61 dG rW tJ rX rfl (by decide) (Q gX L2.length tX) _ _ (by simp[Act.eval]) (Hq.alloc _) ⟨w3.heap.size,0,S⟩ 1 1 [J I mp,J I ms,J I mf,J I mr,U d] (by simp[Act.eval]) rfl (tu w3) dm (by decide) dX sD (yB _) (w3.heap.size+1) (by simp) ?_;intro g6 cap6 w6 tF rP sj fD;have aN:H ((w3.alloc (kp #[J I mp,J I ms,J I mf,J I mr,U d] 139)).drew.grownBy w6 (ue gX L2.length tX).ownBlock):=rP;have sS:w6.heap[b]?=w3.heap[b]?:=(aN.out.block b (by simp;omega) (fun e=>lS e.symm)).trans (yG _ _ _ bH);have e9:w6.cell? ⟨b,o,S⟩=C (Q gX L2.length tX):=(ki sS).trans r0;have Mh:w6.frozen? ⟨b,o,S⟩=D:=(ud sS).trans rf;have Pw:H (w6.ownsRow 0 139 5 (Q (C ⟨g6,0,S⟩) (L2.length+1) cap6) (L2.length+1) (zL L2++[J I mp,J I ms,J I mf,J I mr,U d])):=tF;have Pp:H ((ue gX L2.length tX).ownBlock=C g6\/g6=w3.heap.size+1):=sj;clear tF rP sj sS)
   all_goals
    have l8:But (fun j=>(ue gX L2.length tX).ownBlock=C j) w3 w6:=((But.refl _ w3).alloc _).drew.grown aN.out (fun k hk=> .inr hk)
    have uB:w6.ownsRow 0 139 5 (Q (C ⟨g6,0,S⟩) (L2.length+1) cap6) (L2++[Pg.Ln.mk ⟨mp,ms,mf,mr⟩ d]).length (zL (L2++[Pg.Ln.mk ⟨mp,ms,mf,mr⟩ d])):=by
     rw[xN,X];exact Pw.out
    have HF:H _:=Ph.out.put l8 uB (fun j hj=>by
     rcases Pp.out with h|h
     ·exact .inl (h.trans hj)
     ·exact .inr (by simp[yR]at hj;omega)) mX.out
    clear l8 uB aN Pw Pp
    go_wp2
    go_ret
    obtain⟨f1,f2,f3⟩:=HF.out;refine⟨rfl,_,by rw[<-gW.out];exact⟨_,f1,rfl⟩,wC.out.trans f2 (fun i hi hg=>(mW.out i hg).elim id (fun h=>by omega)),fun k hk=>(f3 k hk).elim (mW.out k) (fun h=> .inr (by omega))⟩
 ·have hr:(l.m.code==0)=D:=by simp[Hz]
  have Ho:(Pg.check l.m.p l.m.s l.m.f l.m.r !=0)=yI:=by
   have:Pg.check l.m.p l.m.s l.m.f l.m.r≠0:=Hz
   simpa using this
  rw[hr,Pg.ylI Hz];clear Hz hr h;obtain⟨⟨mp,ms,mf,mr⟩,d⟩:=l;simp only at sP Ho;simp only[Pg.Ln.val];generalize Pg.check mp ms mf mr=x at*
  go_enter Tryz.func146,Tryz.ntmps146
  go_wp2_with fail
  refine(sP _).mono ?_;rintro e w1 ⟨rfl,Ha⟩;have HB:H (Lw w w1):=zT (zA (zR _) _) Ha;clear Ha
  go_wp2
  go_ret
  exact⟨rfl,_,HX.out.grow HB.out,Chg.yhJ HB.out rY,fun k hk=> .inl hk⟩
end
namespace Pg
def ykj (f:Nat->Bool):Bool:= !f 0&&(!f 1&&(!f 2&& !f 3))
def yip (f:Nat->Bool) (k:Int):Bool:=decide (0<=k)&&(decide (k<4)&&f k.toNat)
def yjF (n:Nat) (f:Nat->Bool):Nat->Bool:=fun j=>decide (j<n)||f j
def ylY (k:Nat) (f:Nat->Bool):Nat->Bool:=fun j=>if j=k then D else f j
theorem shOver_iff {f:Nat->Bool}:ykj f=yI ↔ ∀k,k<4->f k=D:=by
 simp only[ykj,Bool.and_eq_true,Bool.not_eq_true'];constructor
 ·rintro ⟨h0,h1,h2,h3⟩ k hk
  have:k=0\/k=1\/k=2\/k=3:=by omega
  rcases this with rfl|rfl|rfl|rfl<;>assumption
 ·intro h
  exact⟨h 0 (by omega),h 1 (by omega),h 2 (by omega),h 3 (by omega)⟩
end Pg
theorem But.set4 {F:Nat->Prop} {w w1:kO} (h:But F w w1) (r:Nat) (hr:w.heap.size<=r\/F r) (v0 v1 v2 v3:uv):
 But F w ((((w1.setCell ⟨r,0,S⟩ v0).setCell ⟨r,1,S⟩ v1).setCell ⟨r,2,S⟩ v2).setCell ⟨r,3,S⟩ v3):=
 (((h.setCell (a:=⟨r,0,S⟩) hr v0).setCell (a:=⟨r,1,S⟩) hr v1).setCell (a:=⟨r,2,S⟩) hr v2).setCell (a:=⟨r,3,S⟩) hr v3
structure jz (w:kO) (b:Nat) (m:Pg.Mp) (f:Nat->Bool):Prop where
 cm:ybJ w b 0 m
 cw:∀k,k<4->w.cell? ⟨b,4+k,S⟩=C (U (f k))
 fz:∀p,w.frozen? ⟨b,p,S⟩=D
namespace jz
variable {w w':kO} {b:Nat} {m m':Pg.Mp} {f f':Nat->Bool}
theorem lb (h:jz w b m f):b<w.heap.size:=ur _ _ h.cm.1
theorem keep (h:jz w b m f) {G:Nat->Prop} (hb:But G w w') (hF:¬G b):jz w' b m f:=by
 have kb:=hb.block b h.lb hF;exact⟨⟨(ki kb).trans h.cm.1,(ki kb).trans h.cm.2.1,(ki kb).trans h.cm.2.2.1,(ki kb).trans h.cm.2.2.2⟩,fun k hk=>(ki kb).trans (h.cw k hk),fun p=>(ud kb).trans (h.fz p)⟩
theorem grow (h:jz w b m f) (hb:Lw w w'):jz w' b m f:=h.keep (G:=fun _=>False) (But.yhJ hb) id
theorem set (h:jz w b m f) {k:Nat} (hk:k<4) (v:Bool):jz (w.setCell ⟨b,4+k,S⟩ (U v)) b m (fun j=>if j=k then v else f j):=by
 have Ho:∀o,o<4->(⟨b,4+k,S⟩:Addr)≠⟨b,o,S⟩:=fun o ho e=>by injection e with _ e;omega
 obtain⟨c0,c1,c2,c3⟩:=h.cm;refine⟨⟨?_,?_,?_,?_⟩,fun j hj=> ?_,fun p=>by simpa using h.fz p⟩
 ·rw[O _ _ _ _ (Ho _ (by omega))];exact c0
 ·rw[O _ _ _ _ (Ho _ (by omega))];exact c1
 ·rw[O _ _ _ _ (Ho _ (by omega))];exact c2
 ·rw[O _ _ _ _ (Ho _ (by omega))];exact c3
 ·by_cases e:j=k
  ·subst e
   rw[yi _ _ _ (h.cw j hj)];simp
  ·rw[O _ _ _ _ (fun x=>e (by injection x with _ x;omega)),iN e]
   exact h.cw j hj
theorem told (h:jz w b m f) (m':Pg.Mp):jz ((((w.setCell ⟨b,0,S⟩ (J I m'.p)).setCell ⟨b,1,S⟩ (J I m'.s)).setCell ⟨b,2,S⟩ (J I m'.f)).setCell ⟨b,3,S⟩ (J I m'.r)) b m' f:=by
 obtain⟨c0,c1,c2,c3⟩:=h.cm;refine⟨⟨?_,?_,?_,?_⟩,fun j hj=> ?_,fun p=>by simpa using h.fz p⟩
 ·simp[go_sem,c0]
 ·simp at c1;simp[go_sem,c1]
 ·simp at c2;simp[go_sem,c2]
 ·simp at c3;simp[go_sem,c3]
 ·rw[O _ _ _ _ (fun x=>by injection x with _ x;omega),O _ _ _ _ (fun x=>by injection x with _ x;omega),O _ _ _ _ (fun x=>by injection x with _ x;omega),O _ _ _ _ (fun x=>by injection x with _ x;omega)]
  exact h.cw j hj
end jz
theorem ydp {w:kO} {b:Nat} {m:Pg.Mp} {f g:Nat->Bool} (h:jz w b m f) (e:∀k,k<4->f k=g k):jz w b m g:=⟨h.cm,fun k hk=>(e k hk)▸h.cw k hk,h.fz⟩
theorem yfg (w:kO):
 uc Y 47 #[] w fun e w'=>∃b,e=K (kh (C ⟨b,0,S⟩))/\jz w' b .zz (fun _=>D)/\Lw w w'/\w.heap.size<=b:=by
 go_enter Tryz.func47,Tryz.ntmps47
 go_wp2
 go_ret
 have hb:=yA w (kp #[J I 0,J I 0,J I 0,J I 0,U D,U D,U D,U D] 170);refine⟨_,rfl,⟨⟨?_,?_,?_,?_⟩,fun k hk=> ?_,fun o=> ?_⟩,zA (zR _) _,yJ _⟩
 ·exact cell_of_row _ _ 0 _ _ _ hb
 ·exact cell_of_row _ _ 1 _ _ _ hb
 ·exact cell_of_row _ _ 2 _ _ _ hb
 ·exact cell_of_row _ _ 3 _ _ _ hb
 ·rw[cell_of_row _ _ (4+k) _ _ _ hb]
  have:k=0\/k=1\/k=2\/k=3:=by omega
  rcases this with rfl|rfl|rfl|rfl<;>rfl
 ·unfold yL;simp only[hb];simp
theorem yeS:(Tryz.prog.info? 4).map (fun i=>(i.zero,i.size,i.bytes))=C (C (U D),1,1):=by kernel_rfl
theorem yee (x0 x1 x2 x3:Bool) (w:kO):Sem.run Y (Op.equalIn 10000 168 (yo #[U x0,U x1,U x2,U x3]) (yo #[U D,U D,U D,U D])) w= .ok (!x0&&(!x1&&(!x2&& !x3))) w:=by
 obtain⟨q0,hq,rW,tJ,rX⟩:=info_parts yeS
 have hu:Tryz.prog.underlying 168=C (.array 4 4):=by kernel_rfl
 have aZ:Tryz.prog.underlying 4=C .bool:=by kernel_rfl
 have hp:Tryz.prog.plainKey 4=yI:=by kernel_rfl
 have hc:Tryz.prog.cellsOf 4=1:=by kernel_rfl
 have hi:∀(a b:Bool) (w:kO),(Op.equalIn 9999 4 (U a) (U b)).run Y w= .ok (a==b) w:=fun a b w=>run_equalIn_bool w 9998 _ _ _ aZ
 have step:∀(xs ys:Array uv) (i:Nat) (a b:Bool) (is:List Nat) (w:kO),xs[i*1]?=C (U a)->ys[i*1]?=C (U b)->
  (Op.eqItems 9999 4 1 xs ys (i::is)).run Y w=bif a==b then(Op.eqItems 9999 4 1 xs ys is).run Y w else .ok D w:=by
  intro xs ys i a b is w h1 h2;simp only[Op.eqItems,Sem.run_bind,run_part_plain w hp h1,run_part_plain w hp h2,hi,Result.andThen_ok]
  cases a==b<;>rfl
 rw[show(10000:Nat)=9999+1 from rfl,run_equalIn_array w 9999 _ _ hu hq,hc];have hr:List.range 4=[0,1,2,3]:=rfl;rw[hr,step _ _ 0 x0 D _ _ rfl rfl,step _ _ 1 x1 D _ _ rfl rfl,step _ _ 2 x2 D _ _ rfl rfl,step _ _ 3 x3 D _ _ rfl rfl]
 cases x0<;>cases x1<;>cases x2<;>cases x3<;>rfl
attribute [local go_sem] yee
section
variable {b:Nat} {m:Pg.Mp} {f:Nat->Bool}
theorem ya7 (w:kO) (h:jz w b m f):
 uc Y 66 #[kh (C ⟨b,0,S⟩)] w fun e w'=>e=K (U (Pg.ykj f))/\w'=w:=by
 have c0:=h.cw 0 (by omega);have c1:=h.cw 1 (by omega);have c2:=h.cw 2 (by omega);have c3:=h.cw 3 (by omega);simp only[yd,Nat.reduceAdd]at c0 c1 c2 c3;unfold Pg.ykj;generalize f 0=x0 at*;generalize f 1=x1 at*;generalize f 2=x2 at*;generalize f 3=x3 at*;clear h
 go_enter Tryz.func66,Tryz.ntmps66
 go_wp2
 go_ret
 exact⟨rfl,rfl⟩
theorem jy (k:Int) (w:kO) (h:jz w b m f):
 uc Y 68 #[kh (C ⟨b,0,S⟩),J I k] w fun e w'=>e=K (U (Pg.yip f k))/\w'=w:=by
 by_cases h0:0<=k
 ·obtain⟨n,rfl⟩:=Int.eq_ofNat_of_zero_le h0
  by_cases h4:n<4
  ·have c:=h.cw n h4
   have HH:H (Pg.yip f (n:Int)=f n):=by simp[H,Pg.yip];omega
   have i0:(0:Int)<=(n:Int):=by omega
   have i1:(n:Int)<4:=by omega
   have i2:¬(4:Int)<=(n:Int):=by omega
   have i3:¬(n:Int)<0:=by omega
   rw[HH.out];generalize f n=x at*;clear h HH
   go_enter Tryz.func68,Tryz.ntmps68
   go_wp2
   go_ret
   exact⟨rfl,rfl⟩
  ·have HH:H (Pg.yip f (n:Int)=D):=by simp[H,Pg.yip];omega
   have i0:(0:Int)<=(n:Int):=by omega
   have i1:¬(n:Int)<4:=by omega
   rw[HH.out];clear h HH
   go_enter Tryz.func68,Tryz.ntmps68
   go_wp2
   go_ret
   exact⟨rfl,rfl⟩
 ·have HH:H (Pg.yip f k=D):=by simp[H,Pg.yip];omega
  rw[HH.out];clear h HH
  go_enter Tryz.func68,Tryz.ntmps68
  go_wp2
  go_ret
  exact⟨rfl,rfl⟩
theorem yf3 (k:Int) (w:kO) (h:jz w b m f) (hk:Pg.yip f k=D):
 uc Y 147 #[kh (C ⟨b,0,S⟩),J I k] w fun e w'=>e=K (yX #[Pg.Mp.zz.val,U D])/\Lw w w':=by
 have HW:=jy k _ (h.grow (zA (zR w) (kp #[J I 0,J I 0,J I 0,J I 0] 39)));rw[hk]at HW;clear h
 go_enter Tryz.func147,Tryz.ntmps147
 go_wp2_with (go_at_call 68;refine HW.mono ?_;rintro e w' ⟨rfl,hw⟩;subst w')
 refine yj (v:=yX #[Pg.Mp.zz.val,U D]) ?_ rfl ⟨rfl,?_⟩
 ·simp[results,Tryz.results147,go_sem,Pg.Mp.val,Pg.Mp.zz]
 ·exact zA (zR w) _
theorem yff (k:Nat) (w:kO) (h:jz w b m f) (hk:k<4) (hf:f k=yI):
 uc Y 147 #[kh (C ⟨b,0,S⟩),J I (k:Int)] w fun e w'=>e=K (yX #[m.val,U yI])/\jz w' b m (Pg.ylY k f)/\But (fun j=>j=b) w w':=by
 obtain⟨W,hW⟩:=eY (w.alloc (kp #[J I 0,J I 0,J I 0,J I 0] 39))
 have hB:Lw w W:=by rw[hW];exact zA (zR w) _
 have hh:=h.grow hB;have HW:=jy (k:Int) _ hh
 have e1:Pg.yip f (k:Int)=yI:=by simp[Pg.yip,hf];omega
 rw[e1]at HW;have Ro:=hh.fz (4+k);have rY:=hh.lb;have pR:=hh.cw k hk;have HS:H _:=hh.set hk D;have hx:=HS.out.cm
 have i0:(0:Int)<=(k:Int):=by omega
 have i1:(k:Int)<4:=by omega
 have i2:¬(4:Int)<=(k:Int):=by omega
 have i3:¬(k:Int)<0:=by omega
 have Ho:¬b=w.heap.size:=by have:=h.lb;omega
 obtain⟨mp,ms,mf,mr⟩:=m;obtain⟨x0,x1,x2,x3⟩:=hx;simp only[yW]at x0 x1 x2 x3;have HB:H _:=hB;have HL:H _:=h.lb;clear h hh hB e1
 have y:∀o,(W.setCell ⟨b,4+k,S⟩ (U D)).frozen? ⟨w.heap.size,o,S⟩=D:=fun o=>by simp[hW,go_sem]
 have y0:(W.setCell ⟨b,4+k,S⟩ (U D)).cell? ⟨w.heap.size,0,S⟩=C (J I 0):=by rw[O _ _ _ _ (fun e=>Ho (by injection e))];simp[hW,go_sem]
 have y1:(W.setCell ⟨b,4+k,S⟩ (U D)).cell? ⟨w.heap.size,1,S⟩=C (J I 0):=by rw[O _ _ _ _ (fun e=>Ho (by injection e))];simp[hW,go_sem]
 have y2:(W.setCell ⟨b,4+k,S⟩ (U D)).cell? ⟨w.heap.size,2,S⟩=C (J I 0):=by rw[O _ _ _ _ (fun e=>Ho (by injection e))];simp[hW,go_sem]
 have y3:(W.setCell ⟨b,4+k,S⟩ (U D)).cell? ⟨w.heap.size,3,S⟩=C (J I 0):=by rw[O _ _ _ _ (fun e=>Ho (by injection e))];simp[hW,go_sem]
 have fin:H (∀v0 v1 v2 v3,jz (((((W.setCell ⟨b,4+k,S⟩ (U D)).setCell ⟨w.heap.size,0,S⟩ v0).setCell ⟨w.heap.size,1,S⟩ v1).setCell ⟨w.heap.size,2,S⟩ v2).setCell ⟨w.heap.size,3,S⟩ v3) b ⟨mp,ms,mf,mr⟩ (Pg.ylY k f)/\But (fun j=>j=b) w (((((W.setCell ⟨b,4+k,S⟩ (U D)).setCell ⟨w.heap.size,0,S⟩ v0).setCell ⟨w.heap.size,1,S⟩ v1).setCell ⟨w.heap.size,2,S⟩ v2).setCell ⟨w.heap.size,3,S⟩ v3)):=by
  intro v0 v1 v2 v3;refine⟨HS.out.keep (G:=fun j=>j=w.heap.size) (But.set4 (F:=fun j=>j=w.heap.size) (But.refl _ _) w.heap.size (.inr rfl) v0 v1 v2 v3) Ho,?_⟩;have h1:But (fun j=>j=b) w (W.setCell ⟨b,4+k,S⟩ (U D)):=But.setCell (F:=fun j=>j=b) (But.yhJ HB.out) (a:=⟨b,4+k,S⟩) (.inr rfl) _;exact h1.set4 w.heap.size (.inl (yJ _)) v0 v1 v2 v3
 go_enter Tryz.func147,Tryz.ntmps147
 go_wp2_with fail
 rw[<-hW];refine HW.mono ?_;rintro e w' ⟨rfl,hw⟩;subst w';clear hW HW
 go_wp2
 refine yj (v:=yX #[yo #[J I mp,J I ms,J I mf,J I mr],U yI]) ?_ rfl ⟨rfl,fin.out _ _ _ _⟩;simp[results,Tryz.results147,go_sem,y0,y1,y2,y3]
theorem yeg (x:Pg.Mp) (n:Nat) (w:kO) (h:jz w b m f) (ho:Pg.ykj f=yI) (h1:1<=n) (h4:n<=4):
 uc Y 138 #[kh (C ⟨b,0,S⟩),x.val,J I (n:Int)] w fun e w'=>e=K (U yI)/\jz w' b x (Pg.yjF n f)/\But (fun j=>j=b) w w':=by
 obtain⟨W,hW⟩:=eY (w.alloc (kp #[J I x.p,J I x.s,J I x.f,J I x.r] 39))
 have hB:Lw w W:=by rw[hW];exact zA (zR w) _
 have hh:=h.grow hB;have HO:=ya7 _ hh;rw[ho]at HO;have HS:H _:=hh.told x;have Ht:H (But (fun j=>j=b) w ((((W.setCell ⟨b,0,S⟩ (J I x.p)).setCell ⟨b,1,S⟩ (J I x.s)).setCell ⟨b,2,S⟩ (J I x.f)).setCell ⟨b,3,S⟩ (J I x.r))):=But.set4 (F:=fun j=>j=b) (But.yhJ hB) b (.inr rfl) _ _ _ _;obtain⟨c0,c1,c2,c3⟩:=hh.cm;have z0:=hh.fz 0;have z1:=hh.fz 1;have z2:=hh.fz 2;have z3:=hh.fz 3;simp only[yW]at c1 c2 c3;have rY:=hh.lb
 have Ho:¬b=w.heap.size:=by have:=h.lb;omega
 have y0:W.cell? ⟨w.heap.size,0,S⟩=C (J I x.p):=by simp[hW,go_sem]
 have y1:W.cell? ⟨w.heap.size,1,S⟩=C (J I x.s):=by simp[hW,go_sem]
 have y2:W.cell? ⟨w.heap.size,2,S⟩=C (J I x.f):=by simp[hW,go_sem]
 have y3:W.cell? ⟨w.heap.size,3,S⟩=C (J I x.r):=by simp[hW,go_sem]
 have i1:¬(n:Int)<1:=by omega
 have i4:¬(4:Int)<(n:Int):=by omega
 clear h hh hB ho;obtain⟨xp,xs,xf,xr⟩:=x;simp only[Pg.Mp.val]at*
 go_enter Tryz.func138,Tryz.ntmps138
 go_wp2_with fail
 rw[<-hW];refine HO.mono ?_;rintro e w' ⟨rfl,hw⟩;subst w';clear hW HO
 go_wp2
 go_loopw [7,24] (fun _ i wr=>∃j:Nat,j<=n/\i=J I j/\H (jz wr b ⟨xp,xs,xf,xr⟩ (Pg.yjF j f)/\But (fun j=>j=b) w wr)) (fun _ i _=>n-(intOf i).toNat)
 case atStart=>exact⟨0,by omega,rfl,ydp HS.out fun k _=>by simp[Pg.yjF],Ht.out⟩
 case round=>
  obtain⟨j,hj,rfl,HR⟩:=hrel;clear HS Ht c0 c1 c2 c3 z0 z1 z2 z3 y0 y1 y2 y3
  by_cases Hf:j<n
  ·have fz:=HR.out.1.fz (4+j)
   have hc:=HR.out.1.cw j (by omega);have KY:=HR.out.1.lb
   have j0:(0:Int)<=(j:Int):=by omega
   have j1:(j:Int)<(n:Int):=by omega
   have j4:(j:Int)<4:=by omega
   have j2:¬(4:Int)<=(j:Int):=by omega
   have j3:¬(j:Int)<0:=by omega
   have fin:H (jz (wr.setCell ⟨b,4+j,S⟩ (U yI)) b ⟨xp,xs,xf,xr⟩ (Pg.yjF (j+1) f)/\But (fun j=>j=b) w (wr.setCell ⟨b,4+j,S⟩ (U yI))):=by
    refine⟨ydp (HR.out.1.set (by omega) yI) fun k _=> ?_,But.setCell (F:=fun j=>j=b) HR.out.2 (a:=⟨b,4+j,S⟩) (.inr rfl) _⟩
    by_cases e:k=j
    ·simp[Pg.yjF,e]
    ·simp only[Pg.yjF,e,if_false]
     congr 1
     rw[decide_eq_decide];omega
   go_wp2
   go_roundw
   case rel=>exact⟨j+1,by omega,by go_num,fin.out⟩
   case measure=>simp[intOf];omega
  ·have j1:¬(j:Int)<(n:Int):=by omega
   have e:j=n:=by omega
   go_wp2
   go_ret
   subst e;exact⟨rfl,HR.out⟩
end
end
section
namespace Pg
def cmpI (x y:Int):Int:=if x<y then-1 else if y<x then 1 else 0
def lkP (q:Int) (x:Mp):Int:=if x.has q=yI then 0 else cmpI q x.p
def lkM (m x:Mp):Int:=if x.meets m=yI then 0 else cmpI m.p x.p
theorem yk6 {x y:Int}:0<cmpI x y ↔ y<x:=by unfold cmpI;split<;>(try split)<;>omega
theorem ykz {x y:Int}:cmpI x y=0 ↔ y=x:=by unfold cmpI;split<;>(try split)<;>omega
theorem yiS {x:Mp} {q:Int}:x.has q=yI ↔ x.p<=q/\q-x.p<span x.s:=by simp[Mp.has,over]
theorem yiG {a b:Mp}:a.meets b=yI ↔ (a.p<=b.p/\b.p-a.p<span a.s)\/(b.p<=a.p/\a.p-b.p<span b.s):=by
 unfold Mp.meets;rw[ykr];simp
theorem ykp {q:Int} {x:Mp}:0<lkP q x ↔ x.p+span x.s<=q/\x.p<q:=by
 unfold lkP
 by_cases h:x.has q=yI
 ·rw[iP h]
  have:=yiS.1 h;omega
 ·rw[iN h,yk6]
  have:¬(x.p<=q/\q-x.p<span x.s):=fun a=>h (yiS.2 a);have:=(yh2 x.s).1;omega
theorem yjT {m x:Mp}:0<lkM m x ↔ x.p+span x.s<=m.p/\x.p<m.p:=by
 unfold lkM
 by_cases h:x.meets m=yI
 ·rw[iP h]
  have:=yiG.1 h;omega
 ·rw[iN h,yk6]
  have:¬((x.p<=m.p/\m.p-x.p<span x.s)\/(m.p<=x.p/\x.p-m.p<span m.s)):=fun a=>h (yiG.2 a);have:=(yh2 x.s).1;omega
theorem yjD {x:Mp} (h:x.code=0):1<=span x.s:=by
 have:=(yhT h).1;have:=(yh2 x.s).1;omega
theorem ylh {q:Int} {x:Mp} (h:x.code=0):lkP q x=0 ↔ x.has q=yI:=by
 have hs:=yjD h;unfold lkP
 by_cases e:x.has q=yI
 ·simp[e]
 ·rw[iN e,ykz]
  constructor
  ·intro h;exact absurd (yiS.2 ⟨by omega,by omega⟩) e
  ·intro h;exact absurd h e
theorem yko {m x:Mp} (h:x.code=0):lkM m x=0 ↔ x.meets m=yI:=by
 have hs:=yjD h;unfold lkM
 by_cases e:x.meets m=yI
 ·simp[e]
 ·rw[iN e,ykz]
  constructor
  ·intro h;exact absurd (yiG.2 (.inl ⟨by omega,by omega⟩)) e
  ·intro h;exact absurd h e
theorem Good.two {L:List Mp} (h:Good L) {i j:Nat} (bC:i<j) (hj:j<L.length):(L.getD i .zz).p+span (L.getD i .zz).s<=(L.getD j .zz).p/\(L.getD i .zz).p<(L.getD j .zz).p:=by
 have hp:=List.pairwise_iff_getElem.1 h.up i j (by omega) hj bC;rw[yjg (by omega),yjg hj];obtain⟨h1,h2⟩:=hp
 have h3:¬((L[i].p<=L[j].p/\L[j].p-L[i].p<span L[i].s)\/(L[j].p<=L[i].p/\L[i].p-L[j].p<span L[j].s)):=fun a=>by
  rw[yiG.2 a]at h2;cases h2
 omega
theorem Good.at {L:List Mp} (h:Good L) {i:Nat} (hi:i<L.length):(L.getD i .zz).code=0:=by
 rw[yjg hi];exact h.ok _ (yt _)
def cut (L:List Mp) (lk:Mp->Int):Nat:=L.findIdx fun m=>decide (lk m<=0)
theorem ykB (L:List Mp) (lk:Mp->Int):cut L lk<=L.length:=List.findIdx_le_length
theorem yiX {L:List Mp} {lk:Mp->Int} {t:Nat} (h:t<cut L lk):0<lk (L.getD t .zz):=by
 have hl:=ykB L lk;have:=List.not_of_lt_findIdx h;rw[yjg (by omega)];simp at this;exact this
theorem yk7 {L:List Mp} {lk:Mp->Int} (h:cut L lk<L.length):lk (L.getD (cut L lk) .zz)<=0:=by
 have h1:L.findIdx (fun m=>decide (lk m<=0))<L.length:=h;have h2:=List.findIdx_getElem (w:=h1);rw[yjg h];exact of_decide_eq_true h2
def ylX (L:List Mp) (lk:Mp->Int):Prop:=∀i j,i<j->j<L.length->0<lk (L.getD j .zz)->0<lk (L.getD i .zz)
theorem cut_behind {L:List Mp} {lk:Mp->Int} (hf:ylX L lk) {t:Nat} (h:cut L lk<=t) (ht:t<L.length):lk (L.getD t .zz)<=0:=by
 have h0:=yk7 (L:=L) (lk:=lk) (by omega)
 by_cases e:cut L lk=t
 ·rw[<-e];exact h0
 ·have:=hf (cut L lk) t (by omega) ht
  omega
theorem Good.fallsP {L:List Mp} (h:Good L) (q:Int):ylX L (lkP q):=by
 intro i j bC hj hp;have:=h.two bC hj;rw[ykp]at hp ⊢;have:=(yh2 (L.getD j .zz).s).1;omega
theorem Good.fallsM {L:List Mp} (h:Good L) (m:Mp):ylX L (lkM m):=by
 intro i j bC hj hp;have:=h.two bC hj;rw[yjT]at hp ⊢;have:=(yh2 (L.getD j .zz).s).1;omega
def hit (L:List Mp) (lk:Mp->Int):Bool:=decide (cut L lk<L.length)&&(lk (L.getD (cut L lk) .zz)==0)
theorem yi0 {L:List Mp} {lk:Mp->Int}:hit L lk=yI ↔ cut L lk<L.length/\lk (L.getD (cut L lk) .zz)=0:=by simp[hit]
theorem ykT {L:List Mp} (h:Good L) (q:Int):fnd L q=if hit L (lkP q)=yI then C (cut L (lkP q))else S:=by
 split
 ·rename_i hh
  obtain⟨h1,h2⟩:=yi0.1 hh;refine yl4 h1 ((ylh (h.at h1)).1 h2) fun j hj=> ?_;have h3:=ykp.1 (yiX hj);cases e:(L.getD j .zz).has q
  ·rfl
  ·have:=yiS.1 e;omega
 ·rename_i hh
  refine yl3 fun j hj=> ?_;cases e:(L.getD j .zz).has q
  ·rfl
  ·exfalso
   have he:=yiS.1 e
   have hc:cut L (lkP q)<=j:=by
    refine yu fun Hf=> ?_;have:=ykp.1 (yiX Hf);omega
   refine hh (yi0.2 ⟨by omega,?_⟩);have h0:=yk7 (L:=L) (lk:=lkP q) (by omega);rw[ylh (h.at (by omega))]
   by_cases e2:cut L (lkP q)=j
   ·rw[e2];exact e
   ·have:=h.two (i:=cut L (lkP q)) (j:=j) (by omega) hj
    have hn:¬0<lkP q (L.getD (cut L (lkP q)) .zz):=by omega
    rw[ykp]at hn;rw[yiS];omega
theorem any_hit {L:List Mp} (h:Good L) {m:Mp} (hm:m.code=0):(L.any fun x=>x.meets m)=hit L (lkM m):=by
 have hs:=yjD hm;cases hh:hit L (lkM m)
 ·rw[List.any_eq_false]
  intro x hx e;obtain⟨j,hj,rfl⟩:=yn.1 hx;rw[<-yjg hj]at e;have he:=yiG.1 e
  have hc:cut L (lkM m)<=j:=by
   refine yu fun Hf=> ?_;have:=yjT.1 (yiX Hf);omega
  have h0:=yk7 (L:=L) (lk:=lkM m) (by omega)
  have:hit L (lkM m)=yI:=by
   refine yi0.2 ⟨by omega,?_⟩;rw[yko (h.at (by omega))]
   by_cases e2:cut L (lkM m)=j
   ·rw[e2];exact e
   ·have:=h.two (i:=cut L (lkM m)) (j:=j) (by omega) hj
    have hn:¬0<lkM m (L.getD (cut L (lkM m)) .zz):=by omega
    rw[yjT]at hn;have s1:=yjD (h.at (i:=cut L (lkM m)) (by omega));have s2:=yjD (h.at hj);rw[yiG];omega
  rw[hh]at this;cases this
 ·obtain⟨h1,h2⟩:=yi0.1 hh
  rw[List.any_eq_true];refine⟨L.getD (cut L (lkM m)) .zz,by rw[yjg h1];exact yt _,(yko (h.at h1)).1 h2⟩
theorem yl6 {m:Mp}:∀{L:List Mp} {k:Nat},k<=L.length->(∀t,t<k->¬m.p<(L.getD t .zz).p)->(k<L.length->m.p<(L.getD k .zz).p)->ins m L=L.take k++m::L.drop k
 | [],k,hk,_,_=>by
   have:k=0:=by simpa using hk
   subst this;rfl
 | x::r,0,_,_,h2=>by
   have:m.p<x.p:=by simpa using h2 (by simp)
   simp[ins,this]
 | x::r,k+1,hk,h1,h2=>by
   have h0:¬m.p<x.p:=by simpa using h1 0 (by omega)
   have:=yl6 (m:=m) (L:=r) (k:=k) (by simpa using hk) (fun t ht=>by simpa using h1 (t+1) (by omega)) (fun h=>by simpa using h2 (by simpa using h));simp[ins,h0,this]
theorem ins_cut {L:List Mp} (h:Good L) {m:Mp} (hh:hit L (lkM m)=D):ins m L=L.take (cut L (lkM m))++m::L.drop (cut L (lkM m)):=by
 refine yl6 (ykB _ _) (fun t ht=> ?_) (fun hl=> ?_)
 ·have:=yjT.1 (yiX ht)
  omega
 ·have h0:=yk7 (L:=L) (lk:=lkM m) hl
  have h1:¬lkM m (L.getD (cut L (lkM m)) .zz)=0:=fun e=>by
   rw[yi0.2 ⟨hl,e⟩]at hh;cases hh
  have h2:¬0<lkM m (L.getD (cut L (lkM m)) .zz):=by omega
  rw[yko (h.at hl),yiG]at h1;rw[yjT]at h2;have:=yjD (h.at hl);omega
end Pg
open Go.RowKit Go.Sort
set_option linter.unusedVariables false
set_option maxRecDepth 100000
theorem ybO {vb:uv} {L:List Pg.Mp} (w:kO) (hr:w.ownsRow 0 39 4 vb L.length (zC L)) (Hg:L.length<=4096):
 uc Y 194 #[vb] w fun e w'=>∃v',e=K v'/\w'.ownsRow w.heap.size 39 4 v' L.length (zC L)/\Lw w w':=by
 have q58:∀(w:kO) (a:Option Addr) (n c n' c':Nat),(binOp .eql 44 (Q a n c) (Q S n' c')).run Y w= .ok (U a.isNone) w:=fun w a n c n' c'=>Lib.run_eql_slice_nil w _ _ a n c n' c' Tryz.underlying44;rcases hr.2 with ⟨rfl,h0⟩|⟨g,cap,cur,rfl,_,hg,dH⟩
 ·have hL:L=[]:=yC.1 h0
  subst hL;clear hr
  go_enter Tryz.func194,Tryz.ntmps194
  go_wp2
  go_ret
  exact⟨_,rfl,yy _ _ _ _,zR _⟩
 ·obtain⟨q0,dG,rW,tJ,rX⟩:=info_parts ju
  have kF:H _:=hr.cells (g:=g) rfl;have hgl:g<w.heap.size:=(un.1 hg).1;clear hr hg dH
  go_enter Tryz.func194,Tryz.ntmps194
  go_wp2_with (at_builtin;refine wpList_append_own _ rfl _ _ 44 rfl w.heap.size 39 q0 _ 4 32 Tryz.underlying44 dG rW tJ rX rfl (by decide) _ _ _ rfl (yr w #[] 0 (yJ _) (yB _) (by simp)) ⟨g,0,S⟩ L.length cap (zC L) rfl (xZ L) ?c1 (qS L) ?c3 ?c4 ?c5 ?_)
  case c1=>
   intro j u hj;have:=kF.out j u hj;exact(ym (p:=(⟨g,0,S⟩:Addr).add j) (zA (zR w) _) (ur _ _ this)).trans this
  case c3=>unfold maxLen;omega
  case c4=>omega
  case c5=>simp
  intro v' w1 Hq Hr Sj
  have fF:H (w1.ownsRow w.heap.size 39 4 v' L.length (zC L)):=by simpa[H]using Hq
  have hb:H (Lw w w1):=((But.refl (fun _=>False) w).alloc _).grown Hr (fun k hk=> .inl (by simp[yR]at hk;omega))|>.below (yJ _) (fun _ h=>h.elim);clear Hq Hr Sj
  go_wp2
  go_ret
  exact⟨v',rfl,fF.out,hb.out⟩
theorem vR (x:Int) (w:kO):uc Y 232 #[J I x] w fun e w'=>e=K (U D)/\w'=w:=by
 go_enter Tryz.func232,Tryz.ntmps232
 go_wp2
 go_ret
 exact⟨zV (by simp),rfl⟩
theorem vG (x y:Int) (w:kO):uc Y 218 #[J I x,J I y] w fun e w'=>e=K (J I (Pg.cmpI x y))/\w'=w:=by
 by_cases h1:x<y
 ·have HC:H (Pg.cmpI x y= -1):=by simp[H,Pg.cmpI,h1]
  go_enter Tryz.func218,Tryz.ntmps218
  go_wp2_with (go_at_call 232;refine(vR _ _).mono ?_;rintro e w' ⟨rfl,rfl⟩)
  go_ret
  exact⟨zy HC.out.symm,rfl⟩
 ·by_cases h2:y<x
  ·have HC:H (Pg.cmpI x y=1):=by simp[H,Pg.cmpI,h1,h2]
   go_enter Tryz.func218,Tryz.ntmps218
   go_wp2_with (go_at_call 232;refine(vR _ _).mono ?_;rintro e w' ⟨rfl,rfl⟩)
   go_ret
   exact⟨zy HC.out.symm,rfl⟩
  ·have HC:H (Pg.cmpI x y=0):=by simp[H,Pg.cmpI,h1,h2]
   go_enter Tryz.func218,Tryz.ntmps218
   go_wp2_with (go_at_call 232;refine(vR _ _).mono ?_;rintro e w' ⟨rfl,rfl⟩)
   go_ret
   exact⟨zy HC.out.symm,rfl⟩
theorem yfH (g:FuncId) (cb:Array uv) (n k:Nat) (c:Nat->Int) (w:kO) (eg:∀args w,(callFunc g args).run Y w= .ok (.enter g args) w) (hn:n<=4096) (hk:k<=n)
 (h1:∀t,t<k->0<c t) (h2:∀t,k<=t->t<n->c t<=0)
 (hf:∀(i:Nat) (w':kO),i<n->Lw w w'->uc Y g (#[J I i]++cb) w' fun e w''=>e=K (J I (c i))/\Lw w' w''):
 uc Y 230 #[J I n,.func (.func g) #[] cb] w fun e w'=>e=K (yX #[J I k,U (decide (k<n)&&(c k==0))])/\Lw w w':=by
 have HF:H _:=hf;have H1:H _:=h1;have H2:H _:=h2;clear hf h1 h2
 go_enter Tryz.func230,Tryz.ntmps230
 go_wp2_with fail
 go_loopg [4,6] n (fun kx s4 s6 wr=>∃lo hi:Nat,s4=J I lo/\s6=J I hi/\lo<=k/\k<=hi/\hi<=n/\hi-lo<=kx/\H (Lw w wr))
 case atStart=>exact⟨0,n,rfl,rfl,yB _,hk,yJ _,by omega,zR w⟩
 case round=>
  obtain⟨lo,hi,rfl,rfl,bH,KU,hhn,hm,HB⟩:=hrel
  by_cases Hf:lo<hi
  ·have hc:=HF.out ((lo+hi)/2) wr (by omega) HB.out
   rw[show(((lo+hi)/2:Nat):Int)=((lo:Int)+(hi:Int))/2 by omega]at hc;have h3:=H1.out ((lo+hi)/2);have h4:=H2.out ((lo+hi)/2);generalize c ((lo+hi)/2)=x at*
   by_cases hx:0<x
   ·have Bf:(lo+hi)/2<k:=by omega
    clear h3 h4
    go_wp2_with (go_at_fn g;refine hc.mono ?_;rintro e w' ⟨rfl,hb⟩)
    go_roundg (hi-((lo+hi)/2+1))
    case measure=>omega
    case rel=>exact⟨(lo+hi)/2+1,hi,by rw[show((lo:Int)+(hi:Int))/2+1=(((lo+hi)/2+1:Nat):Int) by omega],rfl,by omega,KU,hhn,yJ _,zT HB.out hb⟩
   ·have fK:k<=(lo+hi)/2:=by omega
    clear h3 h4
    go_wp2_with (go_at_fn g;refine hc.mono ?_;rintro e w' ⟨rfl,hb⟩)
    go_roundg ((lo+hi)/2-lo)
    case measure=>omega
    case rel=>exact⟨lo,(lo+hi)/2,rfl,by rw[show((lo:Int)+(hi:Int))/2=(((lo+hi)/2:Nat):Int) by omega],bH,fK,by omega,yJ _,zT HB.out hb⟩
  ·have e1:lo=k:=by omega
   have e2:hi=k:=by omega
   subst e1 e2
   by_cases mg:hi<n
   ·have hc:=HF.out hi wr mg HB.out
    have HE:H (decide (hi<n)=yI):=by simp[H,mg]
    go_wp2_with (go_at_fn g;refine hc.mono ?_;rintro e w' ⟨rfl,hb⟩)
    go_ret2
    exact⟨by rw[HE.out];rfl,zT HB.out hb⟩
   ·have HE:H (decide (hi<n)=D):=by simp[H,mg]
    go_wp2
    go_ret2
    exact⟨by rw[HE.out];rfl,HB.out⟩
theorem yat:∀args w,(callFunc 231 args).run Y w= .ok (.enter 231 args) w:=fun args w=>by simp[go_sem]
structure Dbk (w:kO) (b:Nat) (vb:uv) (L:List Pg.Mp):Prop where
 c0:w.cell? ⟨b,0,S⟩=C vb
 fb:∀o,w.frozen? ⟨b,o,S⟩=D
 row:w.ownsRow 0 39 4 vb L.length (zC L)
 nb:vb.ownBlock≠C b
 good:Pg.Good L
namespace Dbk
variable {w w':kO} {b:Nat} {vb vb':uv} {L L':List Pg.Mp}
theorem lb (h:Dbk w b vb L):b<w.heap.size:=ur _ _ h.c0
theorem lt (h:Dbk w b vb L) {k:Nat} (hk:bkF b vb k):k<w.heap.size:=by
 rcases hk with rfl|hk
 ·exact h.lb
 ·exact(h.row.lt k hk).2
theorem keep (h:Dbk w b vb L) {F:Nat->Prop} (hb:But F w w') (hF:∀k,bkF b vb k->¬F k):Dbk w' b vb L:=by
 have kb:=hb.block b h.lb (hF b (.inl rfl));exact⟨(ki kb).trans h.c0,fun o=>(ud kb).trans (h.fb o),zc h.row hb fun k hk=>hF k (.inr hk),h.nb,h.good⟩
theorem grow (h:Dbk w b vb L) (hb:Lw w w'):Dbk w' b vb L:=h.keep (F:=fun _=>False) (But.yhJ hb) (fun _ _=>id)
theorem mp (h:Dbk w b vb L) {j:Nat} (hj:j<L.length):∃g cap,vb=Q (C ⟨g,0,S⟩) L.length cap/\g<w.heap.size/\ybJ w g (j*4) (L.getD j .zz):=by
 obtain⟨g,cap,rfl,_,hg⟩:=h.row.form (by omega);obtain⟨g',e,_,hm⟩:=jx h.row j hj;cases e;exact⟨g,cap,rfl,hg,hm⟩
end Dbk
theorem yc8 {b bl bb:Nat} {vb:uv} {L:List Pg.Mp} (f:FuncId) (cb:Array uv) (lk:Pg.Mp->Int) (j:Nat) (w:kO) (hD:Dbk w b vb L) (hj:j<L.length)
 (hl:w.cell? ⟨bl,0,S⟩=C (.func (.func f) #[] cb)) (hb:w.cell? ⟨bb,0,S⟩=C (kh (C ⟨b,0,S⟩))) (ef:∀args w,(callFunc f args).run Y w= .ok (.enter f args) w)
 (hf:∀(m:Pg.Mp) (w':kO),Pg.fits m.p->Lw w w'->uc Y f (#[m.val]++cb) w' fun e w''=>e=K (J I (lk m))/\Lw w' w''):
 uc Y 231 #[J I j,kh (C ⟨bl,0,S⟩),kh (C ⟨bb,0,S⟩)] w fun e w'=>e=K (J I (lk (L.getD j .zz)))/\Lw w w':=by
 obtain⟨g,cap,rfl,hg,mh,dX,sD,lQ⟩:=hD.mp hj;have rT:=hD.c0;have Hg:=hD.good.len;have cK:=(Pg.yjW (hD.good.at hj)).2.2.1
 have i0:(0:Int)<=(j:Int):=by omega
 have i1:(j:Int)<(L.length:Int):=by omega
 have HF:H _:=fun w' hb=>hf (L.getD j .zz) w' cK hb;clear hf hD;generalize L.getD j .zz=m at*;generalize L.length=n at*;have uj:∀d os,uc Y f (#[m.val]++cb) (grow (redrawn w d) os) fun e w''=>e=K (J I (lk m))/\Below (grow (redrawn w d) os).heap.size (grow (redrawn w d) os) w'':=fun d os=>HF.out _ (below_regrown w d os);obtain⟨mp,ms,mf,mr⟩:=m;simp only[Pg.Mp.val]at uj;simp only at mh dX sD lQ;generalize lk ⟨mp,ms,mf,mr⟩=x at*;have C0:=yU rT;have C1:=yU hl;have C2:=yU hb;have M0:=yU mh;have M1:=yU dX;have M2:=yU sD;have M3:=yU lQ;clear rT hl hb mh dX sD lQ
 go_enter Tryz.func231,Tryz.ntmps231
 go_wp2_with fail
 refine wp_region_quiet_below (by kernel_rfl) (by kernel_rfl) ?_
 repeat' (first
  | go_big_quiet_step ((go_at_fn f;exact Calls.regrown_of (uj _ _))))
 refine wpQuiet_nil ?_;intro _ sF;obtain⟨⟨dq,osq⟩,rfl⟩:=sF
 go_wp2
 go_ret
 exact⟨rfl,below_regrown w dq osq⟩
theorem ya6 {b:Nat} {vb:uv} {L:List Pg.Mp} (f:FuncId) (cb:Array uv) (lk:Pg.Mp->Int) (w:kO) (hD:Dbk w b vb L) (Tw:Pg.ylX L lk) (ef:∀args w,(callFunc f args).run Y w= .ok (.enter f args) w)
 (hf:∀(m:Pg.Mp) (w':kO),Pg.fits m.p->Lw w w'->uc Y f (#[m.val]++cb) w' fun e w''=>e=K (J I (lk m))/\Lw w' w''):
 uc Y 216 #[kh (C ⟨b,0,S⟩),.func (.func f) #[] cb] w fun e w'=>e=K (yX #[J I (Pg.cut L lk),U (Pg.hit L lk)])/\Lw w w':=by
 have rT:=hD.c0;have rY:=hD.lb;have Hg:=hD.good.len;obtain⟨ad,cap,rfl⟩:=zF hD.row;obtain⟨W,hW⟩:=eY ((w.alloc (kp #[kh (C ⟨b,0,S⟩)] 86)).alloc (kp #[.func (.func f) #[] cb] 149))
 have hB:Lw w W:=by rw[hW];exact zA (zA (zR _) _) _
 have k0:W.cell? ⟨b,0,S⟩=C (Q ad L.length cap):=(hB.cell (p:=⟨b,0,S⟩) rY).trans rT
 have k1:W.cell? ⟨w.heap.size,0,S⟩=C (kh (C ⟨b,0,S⟩)):=by rw[hW];simp[go_sem]
 have k2:W.cell? ⟨w.heap.size+1,0,S⟩=C (.func (.func f) #[] cb):=by rw[hW];simp[go_sem]
 have EP:=hD.grow hB
 have HS:H _:=yfH 231 #[kh (C ⟨w.heap.size+1,0,S⟩),kh (C ⟨w.heap.size,0,S⟩)] L.length (Pg.cut L lk) (fun j=>lk (L.getD j .zz)) W yat Hg (Pg.ykB _ _) (fun t ht=>Pg.yiX ht) (fun t h1 h2=>Pg.cut_behind Tw h1 h2)
  (fun i w' hi hb=>yc8 f cb lk i w' (EP.grow hb) hi (yH hb k2) (yH hb k1) ef (fun m w'' hm hb'=>hf m w'' hm (zT (zT hB hb) hb')))
 have HB:H _:=hB;clear hf Tw hD EP hB k0 k1 k2
 go_enter Tryz.func216,Tryz.ntmps216
 go_wp2_with fail
 rw[<-hW];refine Calls.mono HS.out ?_;rintro e w1 ⟨rfl,Ha⟩
 go_wp2
 go_ret2
 exact⟨rfl,zT HB.out Ha⟩
theorem ycU {bq:Nat} (q:Int) (hq:Pg.fits q) (m:Pg.Mp) (hm:Pg.fits m.p) (w:kO) (hc:w.cell? ⟨bq,0,S⟩=C (J I q)):
 uc Y 221 #[m.val,kh (C ⟨bq,0,S⟩)] w fun e w'=>e=K (J I (Pg.lkP q m))/\Lw w w':=by
 obtain⟨p,s,f,r⟩:=m;have PI:=ur _ _ hc;have HL:H (Pg.lkP q ⟨p,s,f,r⟩=if Pg.over p s q=yI then 0 else Pg.cmpI q p):=rfl;simp only[Pg.Mp.val];cases h:Pg.over p s q
 ·go_enter Tryz.func221,Tryz.ntmps221
  go_wp2_with fail
  refine(je _ _ _ _ _ hm hq _).mono ?_;rintro e w1 ⟨rfl,Ha⟩;rw[h];have bX:Lw w w1:=zT (zA (zR _) _) Ha;have c1:=yH bX hc;have c2:w1.cell? ⟨w.heap.size,0,S⟩=C (J I p):=(Ha.cell (p:=⟨w.heap.size,0,S⟩) (by simp)).trans (by simp[go_sem]);have HB:H _:=bX;clear Ha bX
  go_wp2_with (go_at_call 218;refine(vG _ _ _).mono ?_;rintro e w' ⟨rfl,rfl⟩)
  go_ret
  exact⟨zy (by rw[HL.out,h];rfl),HB.out⟩
 ·go_enter Tryz.func221,Tryz.ntmps221
  go_wp2_with fail
  refine(je _ _ _ _ _ hm hq _).mono ?_;rintro e w1 ⟨rfl,Ha⟩;rw[h];have HB:H (Lw w w1):=zT (zA (zR _) _) Ha;clear Ha
  go_wp2
  go_ret
  exact⟨zy (by rw[HL.out,h];rfl),HB.out⟩
theorem yb8 {bm:Nat} (m x:Pg.Mp) (hm:Pg.fits m.p) (hx:Pg.fits x.p) (w:kO) (hc:ybJ w bm 0 m):
 uc Y 217 #[x.val,kh (C ⟨bm,0,S⟩)] w fun e w'=>e=K (J I (Pg.lkM m x))/\Lw w w':=by
 obtain⟨p,s,f,r⟩:=x;obtain⟨p',s',f',r'⟩:=m;obtain⟨c0,c1,c2,c3⟩:=hc;simp only[yW]at c0 c1 c2 c3;have PI:=ur _ _ c0;have HL:H (Pg.lkM ⟨p',s',f',r'⟩ ⟨p,s,f,r⟩=if Pg.meet p s p' s'=yI then 0 else Pg.cmpI p' p):=rfl;simp only[Pg.Mp.val];cases h:Pg.meet p s p' s'
 ·go_enter Tryz.func217,Tryz.ntmps217
  go_wp2_with fail
  refine(ybu _ _ _ _ _ _ _ _ hx hm _).mono ?_;rintro e w1 ⟨rfl,Ha⟩;rw[h];have bX:Lw w w1:=zT (zA (zR _) _) Ha;have c1:=yH bX c0;have c2:w1.cell? ⟨w.heap.size,0,S⟩=C (J I p):=(Ha.cell (p:=⟨w.heap.size,0,S⟩) (by simp)).trans (by simp[go_sem]);have HB:H _:=bX;clear Ha bX
  go_wp2_with (go_at_call 218;refine(vG _ _ _).mono ?_;rintro e w' ⟨rfl,rfl⟩)
  go_ret
  exact⟨zy (by rw[HL.out,h];rfl),HB.out⟩
 ·go_enter Tryz.func217,Tryz.ntmps217
  go_wp2_with fail
  refine(ybu _ _ _ _ _ _ _ _ hx hm _).mono ?_;rintro e w1 ⟨rfl,Ha⟩;rw[h];have HB:H (Lw w w1):=zT (zA (zR _) _) Ha;clear Ha
  go_wp2
  go_ret
  exact⟨zy (by rw[HL.out,h];rfl),HB.out⟩
theorem jU {b:Nat} {vb:uv} {L:List Pg.Mp} (q:Int) (hq:Pg.fits q) (w:kO) (hD:Dbk w b vb L):
 uc Y 192 #[kh (C ⟨b,0,S⟩),J I q] w fun e w'=>e=K (yX #[J I (Pg.cut L (Pg.lkP q)),U (Pg.hit L (Pg.lkP q))])/\Lw w w':=by
 obtain⟨W,hW⟩:=eY (w.alloc (kp #[J I q] 3))
 have hB:Lw w W:=by rw[hW];exact zA (zR _) _
 have k1:W.cell? ⟨w.heap.size,0,S⟩=C (J I q):=by rw[hW];simp[go_sem]
 have HS:H _:=ya6 221 #[kh (C ⟨w.heap.size,0,S⟩)] (Pg.lkP q) W (hD.grow hB) (hD.good.fallsP q) (fun args w=>by simp[go_sem]) (fun m w' hm hb=>ycU q hq m hm w' (yH hb k1));have HB:H _:=hB;clear hD hB k1
 go_enter Tryz.func192,Tryz.ntmps192
 go_wp2_with fail
 rw[<-hW];refine Calls.mono HS.out ?_;rintro e w1 ⟨rfl,Ha⟩
 go_wp2
 go_ret2
 exact⟨rfl,zT HB.out Ha⟩
theorem yc0 {b:Nat} {vb:uv} {L:List Pg.Mp} (m:Pg.Mp) (hm:Pg.fits m.p) (w:kO) (hD:Dbk w b vb L):
 uc Y 190 #[kh (C ⟨b,0,S⟩),m.val] w fun e w'=>e=K (yX #[J I (Pg.cut L (Pg.lkM m)),U (Pg.hit L (Pg.lkM m))])/\Lw w w':=by
 obtain⟨W,hW⟩:=eY (w.alloc (kp #[J I m.p,J I m.s,J I m.f,J I m.r] 39))
 have hB:Lw w W:=by rw[hW];exact zA (zR _) _
 have k1:ybJ W w.heap.size 0 m:=by rw[hW];exact⟨by simp[go_sem],by simp[go_sem],by simp[go_sem],by simp[go_sem]⟩
 have Hf:w.heap.size<W.heap.size:=by rw[hW];simp
 have HS:H _:=ya6 217 #[kh (C ⟨w.heap.size,0,S⟩)] (Pg.lkM m) W (hD.grow hB) (hD.good.fallsM m) (fun args w=>by simp[go_sem]) (fun x w' hx hb=>yb8 m x hm hx w' (k1.below hb Hf));have HB:H _:=hB;clear hD hB k1;obtain⟨mp,ms,mf,mr⟩:=m;simp only[Pg.Mp.val];simp only at hW
 go_enter Tryz.func190,Tryz.ntmps190
 go_wp2_with fail
 rw[<-hW];refine Calls.mono HS.out ?_;rintro e w1 ⟨rfl,Ha⟩
 go_wp2
 go_ret2
 exact⟨rfl,zT HB.out Ha⟩
end
section
open Go.Sort
theorem ygB:∀w,(Go.sizeOf 39).run Y w= .ok 4 w:=fun w=>by
 obtain⟨q0,dG,rW,tJ,rX⟩:=info_parts ju;simp[sizeOf,typeInfo,dG,tJ]
theorem ybr {vb:uv} {n V:Nat} {xs:List uv} {a0 a1 a2 a3:uv} {tV:TypeId} (w:kO) (hr:w.ownsRow 0 39 4 vb n xs) (hn:n<=4096)
 (hV:w.heap[V]?=C (kp #[a0,a1,a2,a3] tV)) (h1:∀u,u ∈ [a0,a1,a2,a3]->u.oneCell'=yI):
 uc Y 191 #[vb,J I n,Q (C ⟨V,0,S⟩) 1 1] w fun e w'=>∃v',e=K v'/\w'.ownsRow 0 39 4 v' (n+1) (xs++[a0,a1,a2,a3])/\But (fun j=>vb.ownBlock=C j) w w'/\∀j,v'.ownBlock=C j->vb.ownBlock=C j\/w.heap.size<=j:=by
 obtain⟨q0,dG,rW,tJ,rX⟩:=info_parts ju;have tu:=yY hV;have HN:H _:=tu;obtain⟨ad,cap,hv⟩:=zF hr
 have kD:n<=cap/\cap<=9223372036854775807:=by
  rcases hr.2 with ⟨e,e0⟩|⟨g,cap',cur,e,_,_,rO,tY,_⟩
  ·rw[hv]at e;cases e;exact⟨yJ _,by omega⟩
  ·rw[hv]at e;cases e;unfold maxLen at tY;exact⟨rO,by omega⟩
 obtain⟨Tp,Tq⟩:=kD;have HR:H _:=hr;clear hr hV tu;subst hv
 have Fin:∀{g cap':Nat} {w1:kO},w1.ownsRow 0 39 4 (Q (C ⟨g,0,S⟩) (n+1) cap') (n+1) (xs++[a0,a1,a2,a3])->w.grownBy w1 (ue ad n cap).ownBlock->((ue ad n cap).ownBlock=C g\/g=w.heap.size)->
  ∃v',Ending.returned (Q (C ⟨g,0,S⟩) (n+1) cap')=K v'/\w1.ownsRow 0 39 4 v' (n+1) (xs++[a0,a1,a2,a3])/\But (fun j=>(ue ad n cap).ownBlock=C j) w w1/\∀j,v'.ownBlock=C j->(ue ad n cap).ownBlock=C j\/w.heap.size<=j:=by
  intro g cap' w1 h1 h2 hat;refine⟨_,rfl,h1,(But.refl _ w).grown h2 (fun j hj=> .inr hj),fun j hj=> ?_⟩;simp only[yR,Option.some.injEq]at hj;subst hj;rcases hat with h|h
  ·exact .inl h
  ·exact .inr (by omega)
 have FIN:H _:= @Fin;clear Fin
 by_cases Tt:cap=n
 ·subst Tt
  go_enter Tryz.func191,Tryz.ntmps191
  go_wp2_with (at_builtin;refine wpList_append_lies _ rfl _ _ 44 rfl 0 39 q0 _ 4 32 Tryz.underlying44 dG rW tJ rX rfl (by decide) _ _ _ rfl HR.out ⟨V,0,S⟩ 1 1 [a0,a1,a2,a3] rfl rfl HN.out h1 (by decide) ?c3 ?c4 (yB _) w.heap.size rfl ?_)
  case c3=>unfold maxLen;omega
  case c4=>omega
  intro g cap' w1 Hq Hr hat Hf;have H1:H _:=FIN.out Hq Hr hat;clear Hq Hr hat Hf
  go_wp2
  go_ret
  exact H1.out
 ·have hcn':¬(n=cap):=fun e=>Tt e.symm
  go_enter Tryz.func191,Tryz.ntmps191
  go_wp2_with (at_builtin;refine wpList_append_lies _ rfl _ _ 44 rfl 0 39 q0 _ 4 32 Tryz.underlying44 dG rW tJ rX rfl (by decide) _ _ _ rfl HR.out ⟨V,0,S⟩ 1 1 [a0,a1,a2,a3] rfl rfl HN.out h1 (by decide) ?d3 ?d4 (yB _) w.heap.size rfl ?_)
  case d3=>unfold maxLen;omega
  case d4=>omega
  intro g cap' w1 Hq Hr hat Hf;have H1:H _:=FIN.out Hq Hr hat;clear Hq Hr hat Hf
  go_wp2
  go_ret
  exact H1.out
theorem yax {g cap n k V:Nat} {cur:Array uv} {xs:List uv} {a0 a1 a2 a3:uv} {tV:TypeId} (w:kO) (hg:w.heap[g]?=C (kp cur 39 (0,0))) (hn:n<=4096) (hk:k<n) (dI:n+1<=cap) (kD:cap<=9223372036854775807)
 (bZ:cur.size=cap*4) (hx:cur.toList.take (n*4)=xs) (iB:∀u,u ∈ xs->u.oneCell'=yI)
 (hV:w.heap[V]?=C (kp #[a0,a1,a2,a3] tV)) (MB:V≠g) (h1:∀u,u ∈ [a0,a1,a2,a3]->u.oneCell'=yI):
 uc Y 191 #[Q (C ⟨g,0,S⟩) n cap,J I k,Q (C ⟨V,0,S⟩) 1 1] w fun e w'=>e=K (Q (C ⟨g,0,S⟩) (n+1) cap)/\
  w'.ownsRow 0 39 4 (Q (C ⟨g,0,S⟩) (n+1) cap) (n+1) (xs.take (k*4)++[a0,a1,a2,a3]++xs.drop (k*4))/\But (fun j=>j=g) w w':=by
 have sN:(Tryz.prog.info? 39).map (·.size)=C 4:=by
  obtain⟨q0,dG,rW,tJ,rX⟩:=info_parts ju;rw[dG];simp[tJ]
 have pM:xs.length=n*4:=by rw[<-hx,Z,M,bZ];omega
 have hov:∀lb cb o,(callFunc 219 #[Q (C ⟨V,0,S⟩) 1 1,Q (C ⟨g,o,S⟩) lb cb]).run Y w= .ok (.value (U D)) w:=fun lb cb o=>by
  have rG:w.shape? V=C (tV,4):=by simp[ya,hV]
  have pJ:w.shape? g=C (39,cur.size):=by simp[ya,hg]
  have si:w.frozen? ⟨V,0,S⟩=D:=by simp[yL,hV]
  have iI:w.frozen? ⟨V,4,S⟩=D:=by simp[yL,hV]
  rw[run_callFunc_extern Tryz.func219 (by kernel_rfl) (by kernel_rfl) (by kernel_rfl) (e:=Extern.SlicesOverlaps.overlaps #[44,44] #[4]) (by kernel_rfl),
   Lib.run_overlaps_apart w 44 4 39 Tryz.underlying44 4 ygB ⟨V,0,S⟩ ⟨g,o,S⟩ 1 1 lb cb MB tV 39 4 cur.size rG pJ (by omega) si iI]
  rfl
 have rX:¬((k:Int)=(n:Int)):=by omega
 have mo:IntKind.i64.wrap ((k:Int)+1)=(k:Int)+1:=by rw[IntKind.wrap_i64];omega
 have nL:((k:Int)+1).toNat=k+1:=by omega
 have Ha:(0:Int)<=(k:Int)+1:=by omega
 have Hd:¬(cap=k+1):=by omega
 have Hl:¬(cap=k):=by omega
 have mg:k<=n:=by omega
 have He:(k:Int)<=(n:Int)+1:=by omega
 have cB:(xs.drop (k*4)).length=(n-k)*4:=by rw[E,pM];omega
 have oV:∀j u,xs[j]?=C u->w.cell? ⟨g,j,S⟩=C u:=fun j u hu=>by
  rw[cell_of_row w g j cur _ _ hg];rw[<-hx,yN]at hu;split at hu
  ·simpa using hu
  ·cases hu
 obtain⟨C1,mG⟩:∃C1:List uv,C1=cur.toList.take ((k+1)*4)++xs.drop (k*4)++cur.toList.drop ((k+1)*4+(xs.drop (k*4)).length):=⟨_,rfl⟩
 have dz:C1.length=cap*4:=by rw[mG];simp only[X,Z,E,M,bZ,pM];omega
 obtain⟨W1,rC⟩:=eY (w.drew.setRow g C1.toArray)
 have PM:∀ty o o' dl dc sl sc,o=(k+1)*4->o'=k*4->dl=n-k->sl=n+1-k->(Builtin.copy_ #[44,44] ty #[Q (C ⟨g,o,S⟩) dl dc,Q (C ⟨g,o',S⟩) sl sc]).run Y w.drew= .ok (goInt (n-k:Nat)) W1:=by
  intro ty o o' dl dc sl sc e1 e2 e3 e4;subst e1 e2 e3 e4;have hm:yg (n+1-k) (n-k)=n-k:=Nat.min_eq_right (by omega)
  have:=qe (P:=Y) w.drew 44 44 ty 39 4 g ((k+1)*4) (n-k) dc ⟨g,k*4,S⟩ (n+1-k) sc cur 39 (xs.drop (k*4)) Tryz.underlying44 sN hg (by rw[hm,cB])
   (fun j u hj=>by rw[Addr.add_lit];exact oV (k*4+j) u (by rwa [yT]at hj)) (by rw[cB,bZ];omega) (fun u hu=>iB u (yO hu))
  rw[hm,<-mG,<-rC]at this;exact this
 have kI:W1.heap[g]?=C (kp C1.toArray 39 (0,0)):=by rw[rC];exact setRow_heap w.drew g cur _ _ _ hg
 have Gl:W1.heap[V]?=C (kp #[a0,a1,a2,a3] tV):=by rw[rC,setRow_other _ _ _ _ MB];exact hV
 have sG:But (fun j=>j=g) w W1:=by rw[rC];exact(But.refl (fun j=>j=g) w).drew.setRow (.inr rfl) _
 obtain⟨W2,Hy⟩:=eY (W1.setRow g (C1.take (k*4)++[a0,a1,a2,a3]++C1.drop (k*4+4)).toArray)
 have PN:∀ty o dl dc,o=k*4->dl=n+1-k->(Builtin.copy_ #[44,44] ty #[Q (C ⟨g,o,S⟩) dl dc,Q (C ⟨V,0,S⟩) 1 1]).run Y W1= .ok (goInt 1) W2:=by
  intro ty o dl dc e1 e2;subst e1 e2;have hm:yg 1 (n+1-k)=1:=yv (by omega)
  have:=qe (P:=Y) W1 44 44 ty 39 4 g (k*4) (n+1-k) dc ⟨V,0,S⟩ 1 1 C1.toArray 39 [a0,a1,a2,a3] Tryz.underlying44 sN kI (by rw[hm];rfl)
   (yY Gl) (by simp[dz];omega) h1
  rw[hm]at this;rw[this,Hy];rfl
 have fV:W2.heap[g]?=C (kp (C1.take (k*4)++[a0,a1,a2,a3]++C1.drop (k*4+4)).toArray 39 (0,0)):=by rw[Hy];exact setRow_heap W1 g _ _ _ _ kI
 have HB:H (But (fun j=>j=g) w W2):=by rw[Hy];exact sG.setRow (.inr rfl) _
 have HO:H (W2.ownsRow 0 39 4 (Q (C ⟨g,0,S⟩) (n+1) cap) (n+1) (xs.take (k*4)++[a0,a1,a2,a3]++xs.drop (k*4))):=by
  have e:=yd8 (c:=cur.toList) (xs:=xs) (news:=[a0,a1,a2,a3]) (z:=4) (n:=n) (k:=k) mg (by rw[M,bZ];omega) hx rfl;simp only[<-mG]at e;refine⟨by rw[<-e];simp only[Z,X,E,dz,yK,yE];omega,.inr ⟨g,cap,_,rfl,yB _,fV,dI,by unfold maxLen;omega,?_,?_⟩⟩
  ·simp only[ua,Z,X,E,dz,yK,yE];omega
  ·exact e
 clear hg hx iB hV h1 oV mG dz rC kI Gl sG Hy fV bZ pM cB
 go_enter Tryz.func191,Tryz.ntmps191
 go_wp2_with (simp only[hov])
 go_region_law (refine qW rfl _ _ 44 44 rfl _ _ (by simp[Act.eval,Act.put]) (by simp[Act.eval,Act.put]) (PM _ _ _ _ _ _ _ (by omega) (by omega) (by omega) (by omega)) ?_)
 go_wp2_with (at_builtin;refine qB _ rfl _ _ 44 44 rfl _ _ rfl rfl (PN _ _ _ _ (by omega) (by omega)) ?_)
 go_ret
 exact⟨rfl,HO.out,HB.out⟩
theorem yaw {g cap n k V:Nat} {cur:Array uv} {xs:List uv} {a0 a1 a2 a3:uv} {tV:TypeId} (w:kO) (hg:w.heap[g]?=C (kp cur 39 (0,0))) (hn:n<=4096) (hk:k<n) (dI:cap<n+1) (kD:n<=cap)
 (bZ:cur.size=cap*4) (hx:cur.toList.take (n*4)=xs) (iB:∀u,u ∈ xs->u.oneCell'=yI)
 (hV:w.heap[V]?=C (kp #[a0,a1,a2,a3] tV)) (h1:∀u,u ∈ [a0,a1,a2,a3]->u.oneCell'=yI):
 uc Y 191 #[Q (C ⟨g,0,S⟩) n cap,J I k,Q (C ⟨V,0,S⟩) 1 1] w fun e w'=>∃G,e=K (Q (C ⟨w.heap.size,0,S⟩) (n+1) G)/\
  w'.ownsRow 0 39 4 (Q (C ⟨w.heap.size,0,S⟩) (n+1) G) (n+1) (xs.take (k*4)++[a0,a1,a2,a3]++xs.drop (k*4))/\But (fun j=>j=g) w w':=by
 obtain⟨q0,dG,rW,dU,nH⟩:=info_parts ju
 have sN:(Tryz.prog.info? 39).map (·.size)=C 4:=by rw[dG];simp[dU]
 have Tt:cap=n:=by omega
 subst Tt
 have pM:xs.length=cap*4:=by rw[<-hx,Z,M,bZ];omega
 have ol:g<w.heap.size:=(un.1 hg).1;have hVw:V<w.heap.size:=(un.1 hV).1
 have rX:¬((k:Int)=(cap:Int)):=by omega
 have mo:IntKind.i64.wrap ((k:Int)+1)=(k:Int)+1:=by rw[IntKind.wrap_i64];omega
 have nL:((k:Int)+1).toNat=k+1:=by omega
 have Ha:(0:Int)<=(k:Int)+1:=by omega
 have Hl:¬(cap=k):=by omega
 have mg:k<=cap:=by omega
 have He:(k:Int)<=(cap:Int)+1:=by omega
 have rD:(k:Int)<=(cap:Int):=by omega
 have cB:(xs.drop (k*4)).length=(cap-k)*4:=by rw[E,pM];omega
 have oV:∀j u,xs[j]?=C u->w.cell? ⟨g,j,S⟩=C u:=fun j u hu=>by
  rw[cell_of_row w g j cur _ _ hg];rw[<-hx,yN]at hu;split at hu
  ·simpa using hu
  ·cases hu
 obtain⟨G,hG⟩:=eY (grownCap w (cap+1) cap 39)
 have hG1:cap+1<=G:=by rw[hG];exact grownCap_ge w _ _ _
 have hG2:G<=9223372036854775807:=by
  have:=grownCap_le_maxLen w (cap+1) cap 39 (by unfold maxLen;omega);rw[<-hG]at this;unfold maxLen at this;omega
 obtain⟨ROW,Re⟩:∃ROW:Array uv,ROW=(xs.take (k*4)).toArray++Builtin.zeroCells (yQ #[J I 0,J I 0,J I 0,J I 0]).cells (cap+1-k)++Builtin.zeroCells (yQ #[J I 0,J I 0,J I 0,J I 0]).cells (G-(cap+1)):=⟨_,rfl⟩;have Av:(yQ #[J I 0,J I 0,J I 0,J I 0]).cells.size=4:=rfl
 have Mo:ROW.size=G*4:=by
  rw[Re];simp only[Array.size_append,size_zeroCells,Av,ua,Z,pM];omega
 have Ic:ROW.toList.take (k*4)=xs.take (k*4):=by
  rw[Re];simp only[Array.toList_append,yz];rw[yF (by simp only[Z,pM];omega),yS (by simp only[Z];omega)]
 obtain⟨W1,rC⟩:=eY (w.drew.alloc (kp ROW 39))
 have hold:(Builtin.firstCells q0.size k (Q (C ⟨g,0,S⟩) k cap)).run Y w.drew= .ok (xs.take (k*4)).toArray w.drew:=by
  rw[dU]
  exact run_firstCells_some w.drew 4 k ⟨g,0,S⟩ k cap (xs.take (k*4)) (by rw[Z];omega) (fun j v hj=>by
   rw[Addr.add_lit,yW];rw[yN]at hj;split at hj
   ·exact oV j v hj
   ·cases hj)
 have MF:k+(cap+1-k)=cap+1:=by omega
 have hrz:∀ty N,N=((cap+1-k:Nat):Int)->(Builtin.append_ #[44,3] ty #[Q (C ⟨g,0,S⟩) k cap,J I N]).run Y w= .ok (Q (C ⟨w.heap.size,0,S⟩) (cap+1) G) W1:=by
  intro ty N hN;have h:=Lib.run_append_grow_zeros w 44 3 ty 39 q0 _ I I Tryz.underlying44 Tryz.underlying3 dG rW (C ⟨g,0,S⟩) k cap (xs.take (k*4)) hold (cap+1-k) (by omega) (by omega) (by omega) (by omega) (by rw[nH];omega) (by rw[nH,MF];exact growslice_fits dI (by omega));rw[MF,<-hG,<-Re,<-rC]at h;rw[hN];exact h
 have kI:W1.heap[w.heap.size]?=C (kp ROW 39 (0,0)):=by rw[rC];exact yA w.drew _
 have Gl:W1.heap[V]?=C (kp #[a0,a1,a2,a3] tV):=by rw[rC,yG w.drew _ _ hVw];exact hV
 have I8:W1.heap[g]?=C (kp cur 39 (0,0)):=by rw[rC,yG w.drew _ _ ol];exact hg
 have sG:But (fun j=>j=g) w W1:=by rw[rC];exact(But.refl (fun j=>j=g) w).drew.alloc _
 obtain⟨C1,mG⟩:∃C1:List uv,C1=ROW.toList.take (k*4)++[a0,a1,a2,a3]++ROW.toList.drop (k*4+4):=⟨_,rfl⟩
 have dz:C1.length=G*4:=by rw[mG];simp only[X,Z,E,M,Mo,yK,yE];omega
 obtain⟨W2,Hy⟩:=eY (W1.setRow w.heap.size C1.toArray)
 have PM:∀ty o dl dc,o=k*4->dl=cap+1-k->(Builtin.copy_ #[44,44] ty #[Q (C ⟨w.heap.size,o,S⟩) dl dc,Q (C ⟨V,0,S⟩) 1 1]).run Y W1= .ok (goInt 1) W2:=by
  intro ty o dl dc e1 e2;subst e1 e2;have hm:yg 1 (cap+1-k)=1:=yv (by omega)
  have:=qe (P:=Y) W1 44 44 ty 39 4 w.heap.size (k*4) (cap+1-k) dc ⟨V,0,S⟩ 1 1 ROW 39 [a0,a1,a2,a3] Tryz.underlying44 sN kI (by rw[hm];rfl)
   (yY Gl) (by simp[Mo];omega) h1
  rw[hm]at this;rw[this,Hy,mG];rfl
 have fV:W2.heap[w.heap.size]?=C (kp C1.toArray 39 (0,0)):=by rw[Hy];exact setRow_heap W1 w.heap.size _ _ _ _ kI
 have uA:W2.heap[g]?=C (kp cur 39 (0,0)):=by rw[Hy,setRow_other _ _ _ _ (by omega)];exact I8
 have tL:But (fun j=>j=g) w W2:=by rw[Hy];exact sG.setRow (.inl (yJ _)) _
 have GG:∀j u,xs[j]?=C u->W2.drew.cell? ⟨g,j,S⟩=C u:=fun j u hu=>by
  rw[cell_of_row W2.drew g j cur _ _ uA,<-cell_of_row w g j cur _ _ hg];exact oV j u hu
 obtain⟨W3,gL⟩:=eY (W2.drew.setRow w.heap.size (C1.take ((k+1)*4)++xs.drop (k*4)++C1.drop ((k+1)*4+(xs.drop (k*4)).length)).toArray)
 have PN:∀ty o o' dl dc sl sc,o=(k+1)*4->o'=k*4->dl=cap-k->sl=cap-k->(Builtin.copy_ #[44,44] ty #[Q (C ⟨w.heap.size,o,S⟩) dl dc,Q (C ⟨g,o',S⟩) sl sc]).run Y W2.drew= .ok (goInt (cap-k:Nat)) W3:=by
  intro ty o o' dl dc sl sc e1 e2 e3 e4;subst e1 e2 e3 e4;have hm:yg (cap-k) (cap-k)=cap-k:=Nat.min_self _
  have:=qe (P:=Y) W2.drew 44 44 ty 39 4 w.heap.size ((k+1)*4) (cap-k) dc ⟨g,k*4,S⟩ (cap-k) sc C1.toArray 39 (xs.drop (k*4)) Tryz.underlying44 sN fV (by rw[hm,cB])
   (fun j u hj=>by rw[Addr.add_lit];exact GG (k*4+j) u (by rwa [yT]at hj)) (by simp only[ua,cB,dz];omega) (fun u hu=>iB u (yO hu))
  rw[hm]at this;rw[this,gL]
 have IB:W3.heap[w.heap.size]?=C (kp (C1.take ((k+1)*4)++xs.drop (k*4)++C1.drop ((k+1)*4+(xs.drop (k*4)).length)).toArray 39 (0,0)):=by rw[gL];exact setRow_heap W2.drew w.heap.size _ _ _ _ fV
 have HB:H (But (fun j=>j=g) w W3):=by rw[gL];exact tL.drew.setRow (.inl (yJ _)) _
 have HO:H (W3.ownsRow 0 39 4 (Q (C ⟨w.heap.size,0,S⟩) (cap+1) G) (cap+1) (xs.take (k*4)++[a0,a1,a2,a3]++xs.drop (k*4))):=by
  have e:=yd7 (c:=ROW.toList) (xs:=xs) (news:=[a0,a1,a2,a3]) (z:=4) (n:=cap) (k:=k) mg (by rw[M,Mo];omega) Ic pM rfl;rw[show k*4+[a0,a1,a2,a3].length=k*4+4 from rfl]at e;simp only[<-mG]at e;refine⟨by rw[<-e];simp only[Z,X,E,dz,pM];omega,.inr ⟨w.heap.size,G,_,rfl,yB _,IB,hG1,by unfold maxLen;omega,?_,?_⟩⟩
  ·simp only[ua,Z,X,E,dz,pM];omega
  ·exact e
 have hbG:¬(G=k):=by omega
 have hbG1:¬(G=k+1):=by omega
 have hN:IntKind.i64.wrap ((cap:Int)+1-(k:Int))=(cap:Int)+1-(k:Int):=by rw[IntKind.wrap_i64];omega
 clear hg hx iB hV h1 oV mG dz rC kI Gl sG Hy fV bZ pM cB Re Mo Ic hold dG rW dU nH hG I8 uA GG tL gL IB Av
 go_enter Tryz.func191,Tryz.ntmps191
 go_wp2_with (first
  | (at_builtin;refine Lib.wpList_append_run _ rfl _ _ 44 3 rfl _ _ rfl rfl _ _ (hrz _ _ (by omega)) ?_)
  | (at_builtin;refine qB _ rfl _ _ 44 44 rfl _ _ rfl rfl (PM _ _ _ _ (by omega) (by omega)) ?_))
 go_region_law (refine qW rfl _ _ 44 44 rfl _ _ (by simp[Act.eval,Act.put]) (by simp[Act.eval,Act.put]) (PN _ _ _ _ _ _ _ (by omega) (by omega) (by omega) (by omega)) ?_)
 go_wp2
 go_ret
 exact⟨G,rfl,HO.out,HB.out⟩
theorem ydU {vb:uv} {k V:Nat} {L:List Pg.Mp} {m:Pg.Mp} {tV:TypeId} (w:kO) (hr:w.ownsRow 0 39 4 vb L.length (zC L)) (hn:L.length<=4096) (hk:k<=L.length)
 (hV:w.heap[V]?=C (kp #[J I m.p,J I m.s,J I m.f,J I m.r] tV)) (hvV:vb.ownBlock≠C V):
 uc Y 191 #[vb,J I k,Q (C ⟨V,0,S⟩) 1 1] w fun e w'=>∃v',e=K v'/\w'.ownsRow 0 39 4 v' (L.length+1) (zC (L.take k++m::L.drop k))/\But (fun j=>vb.ownBlock=C j) w w'/\∀j,v'.ownBlock=C j->vb.ownBlock=C j\/w.heap.size<=j:=by
 have h1:∀u,u ∈ [yP I m.p,J I m.s,J I m.f,J I m.r]->u.oneCell'=yI:=by
  intro u hu;simp at hu
  rcases hu with rfl|rfl|rfl|rfl<;>rfl
 have hcut:∀j,(zC L).take (j*4)=zC (L.take j)/\(zC L).drop (j*4)=zC (L.drop j):=by
  intro j
  by_cases hj:j<=L.length
  ·have e:zC L=zC (L.take j)++zC (L.drop j):=by rw[<-xh,yk]
   have hl:(zC (L.take j)).length=j*4:=by rw[xZ,Z];congr 1;omega
   exact⟨by rw[e,List.take_left' hl],by rw[e,List.drop_left' hl]⟩
  ·have hl:=xZ L
   rw[yS (by omega),yS (l:=L) (by omega),yV (by omega),yV (show L.length<=j by omega)];exact⟨rfl,rfl⟩
 have hm:zC (L.take k++m::L.drop k)=(zC L).take (k*4)++[yP I m.p,J I m.s,J I m.f,J I m.r]++(zC L).drop (k*4):=by
  rw[(hcut k).1,(hcut k).2,<-vV m,<-xh,<-xh,yz];rfl
 rw[hm]
 by_cases mg:k=L.length
 ·subst mg
  have hl:=xZ L;rw[yS (by omega),yV (by omega),List.append_nil];exact ybr w hr hn hV h1
 ·obtain⟨_,RF⟩:=hr
  rcases RF with ⟨_,e0⟩|⟨g,cap,cur,rfl,_,hg,rO,tY,fU,dB⟩
  ·omega
  ·have MB:V≠g:=fun e=>hvV (by rw[e];rfl)
   have aC:=qS L;have Hf:g<w.heap.size:=(un.1 hg).1
   by_cases dI:L.length+1<=cap
   ·refine(yax w hg hn (by omega) dI (by unfold maxLen at tY;omega) fU dB aC hV MB h1).mono ?_
    rintro e w' ⟨rfl,h2,h3⟩;refine⟨_,rfl,h2,h3.mono fun i _ hi=>by rw[hi];rfl,fun j hj=> .inl hj⟩
   ·refine(yaw w hg hn (by omega) (by omega) rO fU dB aC hV h1).mono ?_
    rintro e w' ⟨G,rfl,h2,h3⟩;refine⟨_,rfl,h2,h3.mono fun i _ hi=>by rw[hi];rfl,fun j hj=> .inr ?_⟩;simp only[yR,Option.some.injEq]at hj;omega
theorem ydF {g cap n k:Nat} {cur:Array uv} {xs:List uv} (w:kO) (hg:w.heap[g]?=C (kp cur 39 (0,0))) (hn:n<=4096) (hk:k<n) (GA:n<=cap) (kD:cap<=9223372036854775807)
 (bZ:cur.size=cap*4) (hx:cur.toList.take (n*4)=xs) (iB:∀u,u ∈ xs->u.oneCell'=yI):
 uc Y 193 #[Q (C ⟨g,0,S⟩) n cap,J I k,J I (k+1)] w fun e w'=>e=K (Q (C ⟨g,0,S⟩) (n-1) cap)/\
  w'.ownsRow 0 39 4 (Q (C ⟨g,0,S⟩) (n-1) cap) (n-1) (xs.take (k*4)++xs.drop ((k+1)*4))/\But (fun j=>j=g) w w':=by
 obtain⟨q0,dG,rW,dU,nH⟩:=info_parts ju
 have pM:xs.length=n*4:=by rw[<-hx,Z,M,bZ];omega
 have cB:(xs.drop ((k+1)*4)).length=(n-(k+1))*4:=by rw[E,pM];omega
 have oV:∀j u,xs[j]?=C u->w.drew.cell? ⟨g,j,S⟩=C u:=fun j u hu=>by
  rw[cell_of_row w.drew g j cur _ _ hg];rw[<-hx,yN]at hu;split at hu
  ·simpa using hu
  ·cases hu
 obtain⟨C1,mG⟩:∃C1:List uv,C1=cur.toList.take (k*4)++xs.drop ((k+1)*4)++cur.toList.drop (k*4+(xs.drop ((k+1)*4)).length):=⟨_,rfl⟩
 have dz:C1.length=cap*4:=by rw[mG];simp only[X,Z,E,M,bZ,pM];omega
 obtain⟨W1,rC⟩:=eY (w.drew.setRow g C1.toArray)
 have uh:∀ty o l c,l=n-(k+1)->(o=(k+1)*4\/n=k+1)->(Builtin.append_ #[44,44] ty #[Q (C ⟨g,0,S⟩) k cap,Q (C ⟨g,o,S⟩) l c]).run Y w.drew= .ok (Q (C ⟨g,0,S⟩) (n-1) cap) W1:=by
  intro ty o l c hl ho;subst hl
  have:=run_append_room (P:=Y) w.drew 44 ty 39 q0 Tryz.underlying44 dG g k cap cur hg ⟨g,o,S⟩ (n-(k+1)) c (xs.drop ((k+1)*4)) (by rw[cB,dU])
   (fun j u hj=>by
     rcases ho with rfl|ho
     ·rw[Addr.add_lit];exact oV ((k+1)*4+j) u (by rwa [yT]at hj)
     ·have h0:(xs.drop ((k+1)*4)).length=0:=by rw[cB];omega
      rw[yC.1 h0]at hj
      simp at hj) (fun u hu=>iB u (yO hu)) (by omega) (by rw[cB,dU,bZ];omega)
  rw[dU,<-mG,<-rC,show k+(n-(k+1))=n-1 by omega]at this;exact this
 have kI:W1.heap[g]?=C (kp C1.toArray 39 (0,0)):=by rw[rC];exact setRow_heap w.drew g cur _ _ _ hg
 have sG:But (fun j=>j=g) w W1:=by rw[rC];exact(But.refl (fun j=>j=g) w).drew.setRow (.inr rfl) _
 obtain⟨W2,Hy⟩:=eY (W1.setRow g (C1.take ((n-1)*4)++[yP I 0,J I 0,J I 0,J I 0]++C1.drop ((n-1)*4+4)).toArray)
 have bY:∀ty o l c,o=(n-1)*4->l=1->(Builtin.clear_ #[44] ty #[Q (C ⟨g,o,S⟩) l c]).run Y W1= .ok (yX #[]) W2:=by
  intro ty o l c ho hl;subst ho hl
  have SA:(Builtin.zeroCells (yQ #[J I 0,J I 0,J I 0,J I 0]).cells 1).toList=[J I 0,J I 0,J I 0,J I 0]:=by kernel_rfl
  have hv:∀w,(zeroValue 39).run Y w= .ok (yo #[J I 0,J I 0,J I 0,J I 0]) w:=fun w=>by simp[zeroValue,typeInfo,dG,rW]
  have:=qp (P:=Y) W1 44 39 ty 39 _ Tryz.underlying44 hv g ((n-1)*4) 1 c (by decide) C1.toArray kI (by
   show(n-1)*4+1*4<=C1.toArray.size
   simp only[ua,dz]
   omega) (by rw[SA];decide)
  rw[SA]at this;rw[this,Hy];rfl
 have fV:W2.heap[g]?=C (kp (C1.take ((n-1)*4)++[yP I 0,J I 0,J I 0,J I 0]++C1.drop ((n-1)*4+4)).toArray 39 (0,0)):=by rw[Hy];exact setRow_heap W1 g _ _ _ _ kI
 have HB:H (But (fun j=>j=g) w W2):=by rw[Hy];exact sG.setRow (.inr rfl) _
 have HO:H (W2.ownsRow 0 39 4 (Q (C ⟨g,0,S⟩) (n-1) cap) (n-1) (xs.take (k*4)++xs.drop ((k+1)*4))):=by
  have e:=ydo (c:=cur.toList) (xs:=xs) (zs:=[yP I 0,J I 0,J I 0,J I 0]) (z:=4) (n:=n) (k:=k) hk (by rw[M,bZ];omega) hx;simp only[<-mG]at e;refine⟨by rw[X,cB,Z,pM];omega,.inr ⟨g,cap,_,rfl,yB _,fV,by omega,by unfold maxLen;omega,?_,?_⟩⟩
  ·simp only[ua,Z,X,E,dz,yK,yE];omega
  ·exact e
 have Ha:(k:Int)+1<=(n:Int):=by omega
 have nL:((k:Int)+1).toNat=k+1:=by omega
 have De:(0:Int)<=(k:Int)+1:=by omega
 have Hd:(k:Int)<=(k:Int)+1:=by omega
 have He:¬((k:Int)=(k:Int)+1):=by omega
 have Hl:(k:Int)<=(cap:Int):=by omega
 have rD:k<=cap:=by omega
 have ru:n-1<=n:=by omega
 have rZ:n-(n-1)=1:=by omega
 have sH:¬(cap=n-1):=by omega
 clear hg hx iB oV mG dz rC kI sG Hy fV bZ pM cB dG rW dU nH
 by_cases pR:cap=k+1
 ·obtain rfl:n=k+1:=by omega
  subst pR;have FE:=HO.out;simp only[Nat.add_sub_cancel,yc]at uh bY FE ⊢;have Ld:H _:=FE;clear HO FE Ha Hd He Hl rD ru rZ sH
  have Hd:(k:Int)<=(k:Int)+1:=by omega
  have He:¬((k:Int)=(k:Int)+1):=by omega
  have Hl:¬(k+1=k):=by omega
  have rD:k+1-k=1:=by omega
  go_enter Tryz.func193,Tryz.ntmps193
  go_wp2
  go_region_law (refine zw rfl (.tmp 22) (.tmp 25) 44 44 rfl (Q (C ⟨g,0,S⟩) k (k+1)) (Q (C ⟨g,0,S⟩) 0 0) (by simp[Act.eval,Act.put]) (by simp[Act.eval,Act.put]) (uh _ _ _ _ rfl (.inr trivial)) ?_)
  go_wp2_with (at_builtin;refine zG _ rfl _ 44 rfl _ rfl (bY _ _ _ _ (by omega) (by omega)) ?_)
  go_ret
  exact⟨rfl,Ld.out,HB.out⟩
 ·go_enter Tryz.func193,Tryz.ntmps193
  go_wp2
  go_region_law (refine zw rfl (.tmp 22) (.tmp 25) 44 44 rfl (Q (C ⟨g,0,S⟩) k cap) (Q (C ⟨g,(k+1)*4,S⟩) (n-(k+1)) (cap-(k+1))) (by simp[Act.eval,Act.put]) (by simp[Act.eval,Act.put]) (uh _ _ _ _ rfl (.inl rfl)) ?_)
  go_wp2_with (at_builtin;refine zG _ rfl _ 44 rfl _ rfl (bY _ _ _ _ (by omega) (by omega)) ?_)
  go_ret
  exact⟨rfl,HO.out,HB.out⟩
end
end Go.Proofs.YtdphiompijbelaaGreat
