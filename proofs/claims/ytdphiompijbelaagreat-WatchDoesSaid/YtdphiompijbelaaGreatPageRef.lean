import Derived.Test.YtdphiompijbelaaGreatFrameB
import Derived.Lib.Overlaps
import Derived.Lib.SliceRun
import Derived.Shelf.RegionOpenPlain
import Derived.Deep.LoopGhost
import Derived.Deep.RegionLaw
import Derived.ChangeKeysEq
set_option linter.all false
set_option maxRecDepth 100000
open Nat renaming lt_of_lt_of_le->ue,zero_le->yP,le_refl->yC,zero_add->yO,add_zero->yX,le_succ->yE
open Go.Obj renaming cells->kO
open List renaming length_append->X,length_take->ki,length_drop->kp,drop_drop->ud,toList_toArray->uc,length_eq_zero_iff->yI,size_toArray->yB,take_append_of_le_length->yS,take_of_length_le->yT,filter_eq_self->yF,getElem?_drop->yZ,getElem?_take->yU,drop_take->yM
open Array renaming length_toList->M,getElem?_eq_some_iff->ur
open Go renaming World->O
open Go.Ending renaming returned->Z
open Bool renaming false->Q,true->E
open Go.World renaming cell?_setCell_other->V,cell?_of_block->U,frozen?_of_block->D,block_lt_of_cell?->kh,cell?_setCell_same->yN,frozen?->yV,news_of_block->yQ,ownsRow_nil->yK
open Go.Proofs.Tryz renaming prog->N
open Option renaming none->S,some->Y
open Go.Value renaming int->J,bool->C,slice->K,pointer->ks,slice->un,int->uv,agg->ua,ownBlock->yJ,agg->yR,tuple->yY
open Go.IntKind renaming i64->I
set_option maxHeartbeats 4000000
namespace Go.Proofs.YtdphiompijbelaaGreat
open Go.RowKit Go.Sort
theorem jG:(Tryz.prog.info? 139).map (fun i=>(i.zero,i.size,i.bytes))=Y (Y (ua #[J I 0,J I 0,J I 0,J I 0,C Q]),5,40):=by kernel_rfl
theorem ycU {vb:Value} {L:List Pg.Ln} (w:O) (hr:w.ownsRow 0 139 5 vb L.length (zL L)) (Hg:L.length<=6):
 Calls N 119 #[vb] w fun e w'=>∃v',e=Z v'/\w'.ownsRow w.heap.size 139 5 v' L.length (zL L)/\Below w.heap.size w w':=by
 have q58:∀(w:O) (a:Option Addr) (n c n' c':Nat),(binOp .eql 61 (K a n c) (K S n' c')).run N w= .ok (C a.isNone) w:=fun w a n c n' c'=>Lib.run_eql_slice_nil w _ _ a n c n' c' Tryz.underlying61;rcases hr.2 with ⟨rfl,h0⟩|⟨g,cap,cur,rfl,_,hg,bA⟩
 ·have hL:L=[]:=yI.1 h0
  subst hL;clear hr
  go_enter Tryz.func119,Tryz.ntmps119
  go_wp2_with fail
  go_ret
  exact⟨_,rfl,yK _ _ _ _,zR _⟩
 ·obtain⟨q0,sF,rW,rZ,rX⟩:=info_parts jG
  have dP:Hid _:=hr.cells (g:=g) rfl;have hgl:g<w.heap.size:=(ur.1 hg).1;clear hr hg bA
  go_enter Tryz.func119,Tryz.ntmps119
  go_wp2_with (at_builtin;refine wpList_append_own _ rfl _ _ 61 rfl w.heap.size 139 q0 _ 5 40 Tryz.underlying61 sF rW rZ rX rfl (by decide) _ _ _ rfl (World.ownsRow_made w #[] 0 (yC _) (yP _) (by simp)) ⟨g,0,S⟩ L.length cap (zL L) rfl (qk L) ?c1 (vj L) ?c3 ?c4 ?c5 ?_)
  case c1=>
   intro j u hj;have:=dP.out j u hj;exact(Below.cell (p:=(⟨g,0,S⟩:Addr).add j) (zA (zR w) _) (kh _ _ this)).trans this
  case c3=>unfold maxLen;omega
  case c4=>omega
  case c5=>simp
  intro v' w1 Hr Hq Pi
  have fq:Hid (w1.ownsRow w.heap.size 139 5 v' L.length (zL L)):=by simpa[Hid]using Hr
  have hb:Hid (Below w.heap.size w w1):=((But.refl (fun _=>False) w).alloc _).grown Hq (fun k hk=> .inl (by simp[yJ]at hk;omega))|>.below (yC _) (fun _ h=>h.elim);clear Hr Hq Pi
  go_wp2_with fail
  go_ret
  exact⟨v',rfl,fq.out,hb.out⟩
theorem vJ {ad:Option Addr} {cap:Nat} {L:List Pg.Ln} (P:Pg.Ln->Bool) (f:FuncId) (cb:Array Value) (w:O) (hr:qC w ad L) (Hg:L.length<=6) (ef:∀args w,(callFunc f args).run N w= .ok (.enter f args) w)
 (hf:∀(j:Nat) (w':O),j<L.length->Below w.heap.size w w'->Calls N f (#[(L.getD j .zz).val]++cb) w' fun e w''=>e=Z (C (P (L.getD j .zz)))/\Below w'.heap.size w' w''):
 Calls N 176 #[K ad L.length cap,.func (.func f) #[] cb] w fun e w'=>e=Z (J I (Pg.idxN L P))/\Below w.heap.size w w':=by
 have HR:Hid _:=hr;have HF:Hid _:=hf;clear hr hf
 go_enter Tryz.func176,Tryz.ntmps176
 go_wp2_with fail
 go_loopg [5,8] L.length (fun gg _ s8 wr=>∃k:Nat,k<=L.length/\L.length-k<=gg/\s8=J I k/\Hid (Below w.heap.size w wr/\∀j,j<k->P (L.getD j .zz)=Q))
 case atStart=>exact⟨0,yP _,by omega,rfl,zR _,fun j hj=>absurd hj (Nat.not_lt_zero _)⟩
 case round=>
  obtain⟨k,hk,hg,rfl,HB⟩:=hrel
  by_cases Hf:k<L.length
  ·obtain⟨g,o,rfl,hgl,hm⟩:=qC.below HR.out HB.out.1 k Hf
   obtain⟨m0,m1,m2,m3,m4⟩:=hm
   have i0:(0:Int)<=(k:Int):=by omega
   have i1:(k:Int)<(L.length:Int):=by omega
   have hc:=HF.out k wr Hf HB.out.1;cases hp:P (L.getD k .zz)
   ·have fin:Hid (∀j,j<k+1->P (L.getD j .zz)=Q):=fun j hj=>by
     by_cases e:j=k
     ·rw[e];exact hp
     ·exact HB.out.2 j (by omega)
    rw[hp]at hc;clear hp HF HR;generalize L.getD k .zz=x at*;obtain⟨⟨p,s,fr,r⟩,d⟩:=x;simp only[Pg.Ln.val]at hc;simp only at m0 m1 m2 m3 m4
    go_wp2_with (go_at_fn f;refine hc.mono ?_;rintro e w' ⟨rfl,hb⟩)
    go_roundg (L.length-(k+1))
    case measure=>omega
    case rel=>exact⟨k+1,by omega,by omega,by go_num,zT HB.out.1 hb,fin.out⟩
   ·have fin:Hid (Pg.idxN L P=(k:Int)):=by
     show Pg.idxN L P=(k:Int)
     unfold Pg.idxN;rw[Pg.ykN Hf hp HB.out.2]
    rw[hp]at hc;clear hp HF HR;generalize L.getD k .zz=x at*;obtain⟨⟨p,s,fr,r⟩,d⟩:=x;simp only[Pg.Ln.val]at hc;simp only at m0 m1 m2 m3 m4
    go_wp2_with (go_at_fn f;refine hc.mono ?_;rintro e w' ⟨rfl,hb⟩)
    go_ret
    exact⟨zE fin.out.symm,zT HB.out.1 hb⟩
  ·have i1:¬(k:Int)<(L.length:Int):=by omega
   have fin:Hid (Pg.idxN L P= -1):=by
    show Pg.idxN L P= -1
    unfold Pg.idxN;rw[Pg.ykM fun j hj=>HB.out.2 j (by omega)]
   go_wp2_with fail
   go_ret
   exact⟨zE fin.out.symm,HB.out.1⟩
theorem ygL {l:List Value} {o:Nat} (h:o+5<=l.length) (x0 x1 x2 x3 x4:Value):
 ((((l.set o x0).set (o+1) x1).set (o+2) x2).set (o+3) x3).set (o+4) x4=l.take o++[x0,x1,x2,x3,x4]++l.drop (o+5):=by
 have e:l=l.take o++l.drop o:=(List.take_append_drop o l).symm
 have hl:(l.take o).length=o:=by rw[ki];omega
 have hd:5<=(l.drop o).length:=by rw[kp];omega
 have e5:l.drop (o+5)=(l.drop o).drop 5:=by rw[ud]
 rw[e5];generalize l.take o=A at*;generalize l.drop o=B at*;subst e
 match B,hd with
 | a0::a1::a2::a3::a4::R,_=>simp[List.set_append_right,hl]
theorem ydy {w:O} {g o:Nat} {cu:Array Value} {T:TypeId} (hg:w.heap[g]?=Y (kO cu T (0,0))) (h:o+5<=cu.size) (x0 x1 x2 x3 x4:Value):
 (((((w.setCell ⟨g,o,S⟩ x0).setCell ⟨g,o+1,S⟩ x1).setCell ⟨g,o+2,S⟩ x2).setCell ⟨g,o+3,S⟩ x3).setCell ⟨g,o+4,S⟩ x4).heap[g]?=Y (kO (cu.toList.take o++[x0,x1,x2,x3,x4]++cu.toList.drop (o+5)).toArray T (0,0))/\
 ∀(F:Nat->Prop) (w0:O),But F w0 w->(w0.heap.size<=g\/F g)->But F w0 (((((w.setCell ⟨g,o,S⟩ x0).setCell ⟨g,o+1,S⟩ x1).setCell ⟨g,o+2,S⟩ x2).setCell ⟨g,o+3,S⟩ x3).setCell ⟨g,o+4,S⟩ x4):=by
 refine⟨?_,fun F w0 hb hF=>((((hb.setCell (a:=⟨g,o,S⟩) hF x0).setCell (a:=⟨g,o+1,S⟩) hF x1).setCell (a:=⟨g,o+2,S⟩) hF x2).setCell (a:=⟨g,o+3,S⟩) hF x3).setCell (a:=⟨g,o+4,S⟩) hF x4⟩;rw[setCell_eq_setRow w g o cu T (0,0) x0 hg];rw[setCell_eq_setRow _ g (o+1) _ T (0,0) x1 (setRow_heap w g cu _ T _ hg),setRow_setRow];rw[setCell_eq_setRow _ g (o+2) _ T (0,0) x2 (setRow_heap w g cu _ T _ hg),setRow_setRow];rw[setCell_eq_setRow _ g (o+3) _ T (0,0) x3 (setRow_heap w g cu _ T _ hg),setRow_setRow];rw[setCell_eq_setRow _ g (o+4) _ T (0,0) x4 (setRow_heap w g cu _ T _ hg),setRow_setRow]
 have e:((((cu.setIfInBounds o x0).setIfInBounds (o+1) x1).setIfInBounds (o+2) x2).setIfInBounds (o+3) x3).setIfInBounds (o+4) x4=(cu.toList.take o++[x0,x1,x2,x3,x4]++cu.toList.drop (o+5)).toArray:=by
  apply Array.toList_inj.1
  simp only[Array.toList_setIfInBounds];exact ygL (by rw[M];exact h) x0 x1 x2 x3 x4
 rw[e];exact setRow_heap w g cu _ T _ hg
theorem ygi {c news:List Value} {i j n:Nat} (hn:news.length=5) (hi:i<=j) (hj:j<n) (hc:n*5<=c.length):
 (c.take (i*5)++news++c.drop (i*5+5)).length=c.length/\(c.take (i*5)++news++c.drop (i*5+5)).take ((i+1)*5)=c.take (i*5)++news/\
 ((c.take (i*5)++news++c.drop (i*5+5)).take (n*5)).drop ((j+1)*5)=(c.take (n*5)).drop ((j+1)*5):=by
 have h1:(c.take (i*5)).length=i*5:=by rw[ki];omega
 have h2:(c.take (i*5)++news).length=i*5+5:=by rw[X,h1,hn]
 refine⟨by rw[X,h2,kp];omega,?_,?_⟩
 ·rw[yS (by omega),yT (by omega)]
 ·rw[yM,yM,List.drop_append,h2,List.drop_eq_nil_of_le (by omega),List.nil_append,ud]
  congr 2
  omega
theorem yfh (m:Nat):∀v,v ∈ (Builtin.zeroCells (yR #[J I 0,J I 0,J I 0,J I 0,C Q]).cells m).toList->v.oneCell'=E:=by
 intro v hv
 have e:(yR #[J I 0,J I 0,J I 0,J I 0,C Q]).cells=#[J I 0,J I 0,J I 0,J I 0,C Q]:=by kernel_rfl
 rw[e]at hv;simp only[Builtin.zeroCells,Array.toList_map,List.mem_map]at hv;obtain⟨t,_,rfl⟩:=hv
 have ht:t%5=0\/t%5=1\/t%5=2\/t%5=3\/t%5=4:=by omega
 show(#[uv I 0,J I 0,J I 0,J I 0,C Q]:Array Value)[t%5]!.oneCell'=E
 rcases ht with h|h|h|h|h<;>rw[h]<;>rfl
theorem yfK {w:O} {g cap n j:Nat} {cur:Array Value} {T:TypeId} {L:List Pg.Ln} (hg:w.heap[g]?=Y (kO cur T (0,0))) (hn:n=L.length) (hd:(cur.toList.take (n*5)).drop (j*5)=zL (L.drop j)) (hj:j<n):qt w g (j*5) (L.getD j .zz):=by
 have hc:∀i,i<5->w.cell? ⟨g,j*5+i,S⟩=(xT (L.getD j .zz))[i]?:=by
  intro i hi
  have h0:(L.drop j).getD 0 .zz=L.getD j .zz:=by simp[List.getD]
  have:=j6 (L.drop j) 0 i (by rw[kp];omega) hi;rw[h0,<-hd,yZ,yU,if_pos (by omega)]at this;rw[cell_of_row w g (j*5+i) cur _ _ hg,<-this];simp
 have h0:=hc 0 (by omega);have h1:=hc 1 (by omega);have h2:=hc 2 (by omega);have h3:=hc 3 (by omega);have h4:=hc 4 (by omega);exact⟨by simpa[xT]using h0,by simpa[xT]using h1,by simpa[xT]using h2,by simpa[xT]using h3,by simpa[xT]using h4⟩
theorem ycH {ad:Option Addr} {cap:Nat} {L:List Pg.Ln} (P:Pg.Ln->Bool) (f:FuncId) (cb:Array Value) (w:O) (hr:w.ownsRow 0 139 5 (K ad L.length cap) L.length (zL L)) (Hg:L.length<=6) (ef:∀args w,(callFunc f args).run N w= .ok (.enter f args) w)
 (hf:∀(j:Nat) (w':O),j<L.length->But (fun k=>(un ad L.length cap).ownBlock=Y k) w w'->Calls N f (#[(L.getD j .zz).val]++cb) w' fun e w''=>e=Z (C (P (L.getD j .zz)))/\Below w'.heap.size w' w''):
 Calls N 210 #[K ad L.length cap,.func (.func f) #[] cb] w fun e w'=>e=Z (K ad (L.filter fun l=> !P l).length cap)/\w'.ownsRow 0 139 5 (K ad (L.filter fun l=> !P l).length cap) (L.filter fun l=> !P l).length (zL (L.filter fun l=> !P l))/\But (fun k=>(un ad L.length cap).ownBlock=Y k) w w':=by
 have HF:Hid _:=hf;have HR:Hid (w.ownsRow 0 139 5 (K ad L.length cap) L.length (zL L)):=hr;have hI:=vJ (cap:=cap) P f cb w (zt (zm.yjA hr)) Hg ef (fun j w' hj hb=>hf j w' hj (But.yhp hb))
 cases hx:L.findIdx? P with
 | none=>
   have e1:Pg.idxN L P= -1:=by simp only[Pg.idxN,hx]
   have e2:(L.filter fun l=> !P l)=L:=yF.2 fun l hl=>by simp[Pg.idx_of_none hx l hl]
   rw[e1]at hI;rw[e2];clear e1 e2 hx hf hr HF
   go_enter Tryz.func210,Tryz.ntmps210
   go_wp2_with (go_at_call 176;refine hI.mono ?_;rintro e w1 ⟨rfl,Ha⟩)
   go_ret
   exact⟨rfl,zl HR.out Ha,But.yhp Ha⟩
 | some k=>
   obtain⟨dU,sW,tC⟩:=Pg.idx_of_some hx
   have e1:Pg.idxN L P=(k:Int):=by simp only[Pg.idxN,hx]
   rw[e1]at hI
   obtain⟨g,cap0,cur,hv,_,hg,rO,tY,fT,dD⟩:∃g cap0 cur,un ad L.length cap=K (Y ⟨g,0,S⟩) L.length cap0/\0<=g/\w.heap[g]?=Y (kO cur 139 (0,0))/\L.length<=cap0/\cap0<=maxLen/\cur.size=cap0*5/\cur.toList.take (L.length*5)=zL L:=by
    rcases hr.2 with ⟨_,e0⟩|h
    ·omega
    ·exact h
   cases hv
   have Oe:cap<=9223372036854775807:=by unfold maxLen at tY;omega
   have hgl:g<w.heap.size:=(ur.1 hg).1
   have Fx:(L.take k).filter (fun l=> !P l)=L.take k:=yF.2 fun l hl=>by
    obtain⟨t,ht,rfl⟩:=List.mem_iff_getElem.1 hl
    have h2:t<k:=by rw[ki]at ht;omega
    have:=tC t h2;rw[Pg.yjJ (by omega)]at this;rw[List.getElem_take];simp[this]
   have hS:Hid ((L.take (k+1)).filter (fun l=> !P l)=L.take k):=by
    show(L.take (k+1)).filter (fun l=> !P l)=L.take k
    rw[Pg.yiu dU (by rw[sW];rfl),Fx]
   have oV:Hid (k=(L.take k).length):=by show k=(L.take k).length;rw[ki];omega
   have TD:Hid (cur.toList.take (k*5)=zL (L.take k)):=by
    show cur.toList.take (k*5)=zL (L.take k)
    rw[<-(xY L k).1,<-dD,List.take_take];congr 1;omega
   have U6:Hid ((cur.toList.take (L.length*5)).drop ((k+1)*5)=zL (L.drop (k+1))):=by
    show(cur.toList.take (L.length*5)).drop ((k+1)*5)=zL (L.drop (k+1))
    rw[dD,(xY L (k+1)).2]
   have HG:Hid (w.heap[g]?=Y (kO cur 139 (0,0))/\cur.size=cap*5):=⟨hg,fT⟩
   have i0:(0:Int)<=(k:Int):=by omega
   have i1:((k:Int)== -1)=Q:=by simp
   clear e1 hx hf hr HR sW tC Fx dD hg fT
   go_enter Tryz.func210,Tryz.ntmps210
   go_wp2_with (go_at_call 176;refine hI.mono ?_;rintro e w1 ⟨rfl,Ha⟩)
   have H9:Hid (But (fun k=>k=g) w w1):=But.yhp Ha;have CV:Hid (w1.heap[g]?=Y (kO cur 139 (0,0))/\cur.size=cap*5):=⟨(Ha.block g hgl).trans HG.out.1,HG.out.2⟩;clear Ha hI HG
   go_loopg [5,6,7] L.length (fun gg s5 s6 _ wr=>∃i j:Nat,∃cu:Array Value,i<j/\j<=L.length/\L.length-j<=gg/\s5=J I i/\s6=J I j/\
    Hid (i=((L.take j).filter (fun l=> !P l)).length/\cu.toList.take (i*5)=zL ((L.take j).filter (fun l=> !P l))/\(cu.toList.take (L.length*5)).drop (j*5)=zL (L.drop j)/\wr.heap[g]?=Y (kO cu 139 (0,0))/\cu.size=cap*5/\But (fun k=>k=g) w wr))
   case atStart=>exact⟨k,k+1,cur,by omega,by omega,by omega,rfl,by go_num,by rw[hS.out];exact oV.out,by rw[hS.out];exact TD.out,U6.out,CV.out.1,CV.out.2,H9.out⟩
   case round=>
    obtain⟨i,j,cu,bi,Wj,TV,rfl,rfl,HI⟩:=hrel;clear hS oV TD U6 CV H9
    by_cases Hf:j<L.length
    ·obtain⟨m0,m1,m2,m3,m4⟩:=yfK (cap:=cap) HI.out.2.2.2.1 rfl HI.out.2.2.1 Hf
     have j0:(0:Int)<=(j:Int):=by omega
     have j1:(j:Int)<(L.length:Int):=by omega
     have n0:(0:Int)<=(i:Int):=by omega
     have n1:(i:Int)<(L.length:Int):=by omega
     have hc:=fun w' hb=>HF.out j w' Hf hb;cases hp:P (L.getD j .zz)
     ·rw[hp]at hc
      have HS:Hid _:=Pg.yiE (P:=fun l=> !P l) Hf (by simp only[hp];rfl);clear hp;generalize L.getD j .zz=x at*;obtain⟨⟨p,s,fr,r⟩,d⟩:=x;simp only[Pg.Ln.val]at hc;simp only at m0 m1 m2 m3 m4
      go_wp2_with fail
      refine(hc _ ?hb).mono ?_
      case hb=>exact((HI.out.2.2.2.2.2).alloc _).mono (fun i _ hi=>by rw[hi];rfl)
      rintro e w2 ⟨rfl,Hd⟩;have y:∀o,w2.cell? ⟨wr.heap.size,o,S⟩=_:=fun o=>Hd.cell (p:=⟨wr.heap.size,o,S⟩) (by simp);have z0:w2.cell? ⟨wr.heap.size,0,S⟩=Y (J I p):=(y 0).trans (by simp[go_sem]);have z1:w2.cell? ⟨wr.heap.size,1,S⟩=Y (J I s):=(y 1).trans (by simp[go_sem]);have z2:w2.cell? ⟨wr.heap.size,2,S⟩=Y (J I fr):=(y 2).trans (by simp[go_sem]);have z3:w2.cell? ⟨wr.heap.size,3,S⟩=Y (J I r):=(y 3).trans (by simp[go_sem]);have z4:w2.cell? ⟨wr.heap.size,4,S⟩=Y (C d):=(y 4).trans (by simp[go_sem]);have bJ:Below wr.heap.size wr w2:=zT (zA (zR _) _) Hd;have N8:g<wr.heap.size:=(ur.1 HI.out.2.2.2.1).1;have fH:w2.heap[g]?=Y (kO cu 139 (0,0)):=(bJ.block g N8).trans HI.out.2.2.2.1;have Be:Hid (w2.heap[g]?=Y (kO cu 139 (0,0))):=fH;have tH:Hid (But (fun k=>k=g) w w2):=(HI.out.2.2.2.2.2).trans (But.yhp (F:=fun k=>k=g) bJ) (fun _ _ h=>h)
      have PS:∀o,w2.frozen? ⟨g,o,S⟩=Q:=fun o=>by unfold yV;simp only[fH];simp
      have pU:i*5+4<cu.size:=by rw[HI.out.2.2.2.2.1];omega
      have u:∀t,t<5->w2.cell? ⟨g,i*5+t,S⟩=Y (cu.getD (i*5+t) undef):=fun t ht=>by
       rw[cell_of_row w2 g (i*5+t) cu _ _ fH];simp[show i*5+t<cu.size by omega]
      have u0:=u 0 (by omega);have u1:=u 1 (by omega);have u2:=u 2 (by omega);have u3:=u 3 (by omega);have u4:=u 4 (by omega);simp only[yX]at u0;clear y Hd bJ u fH hc m0 m1 m2 m3 m4;have fin:Hid _:=ydy Be.out (show i*5+5<=cu.size by omega) (J I p) (J I s) (J I fr) (J I r) (C d);obtain⟨r1,r2,r3⟩:=ygi (c:=cu.toList) (news:=[J I p,J I s,J I fr,J I r,C d]) (i:=i) (j:=j) (n:=L.length) rfl (by omega) Hf (by have h5:=HI.out.2.2.2.2.1;have h6:cu.toList.length=cu.size:=M;omega)
      have FIN:Hid (i+1=((L.take (j+1)).filter (fun l=> !P l)).length/\(cu.toList.take (i*5)++[uv I p,J I s,J I fr,J I r,C d]++cu.toList.drop (i*5+5)).toArray.toList.take ((i+1)*5)=zL ((L.take (j+1)).filter (fun l=> !P l))/\((cu.toList.take (i*5)++[uv I p,J I s,J I fr,J I r,C d]++cu.toList.drop (i*5+5)).toArray.toList.take (L.length*5)).drop ((j+1)*5)=zL (L.drop (j+1))/\(cu.toList.take (i*5)++[uv I p,J I s,J I fr,J I r,C d]++cu.toList.drop (i*5+5)).toArray.size=cap*5):=by
       have hi:=HI.out.1;refine⟨?_,?_,?_,?_⟩
       ·rw[HS.out,X];simp;omega
       ·rw[HS.out,xN,uc,r2,HI.out.2.1];rfl
       ·rw[uc,r3,show(j+1)*5=j*5+5 by omega,<-ud,HI.out.2.2.1]
        have:=(xY (L.drop j) 1).2;rw[ud]at this;exact this
       ·rw[yB,r1,M,HI.out.2.2.2.2.1]
      clear r1 r2 r3 Be pU
      go_wp2_with fail
      go_roundg (L.length-(j+1))
      case measure=>omega
      case rel=>exact⟨i+1,j+1,_,by omega,by omega,by omega,by go_num,by go_num,FIN.out.1,FIN.out.2.1,FIN.out.2.2.1,fin.out.1,FIN.out.2.2.2,fin.out.2 _ _ tH.out (.inr rfl)⟩
     ·rw[hp]at hc
      have HS:Hid _:=Pg.yiu (P:=fun l=> !P l) Hf (by simp only[hp];rfl)
      have HD:Hid ((cu.toList.take (L.length*5)).drop ((j+1)*5)=zL (L.drop (j+1))):=by
       show(cu.toList.take (L.length*5)).drop ((j+1)*5)=zL (L.drop (j+1))
       rw[show(j+1)*5=j*5+5 by omega,<-ud,HI.out.2.2.1];have:=(xY (L.drop j) 1).2;rw[ud]at this;exact this
      clear hp;generalize L.getD j .zz=x at*;obtain⟨⟨p,s,fr,r⟩,d⟩:=x;simp only[Pg.Ln.val]at hc;simp only at m0 m1 m2 m3 m4
      go_wp2_with fail
      refine(hc _ ?hb').mono ?_
      case hb'=>exact((HI.out.2.2.2.2.2).alloc _).mono (fun i _ hi=>by rw[hi];rfl)
      rintro e w2 ⟨rfl,Hd⟩;have bJ:Below wr.heap.size wr w2:=zT (zA (zR _) _) Hd;have N8:g<wr.heap.size:=(ur.1 HI.out.2.2.2.1).1;have Be:Hid (w2.heap[g]?=Y (kO cu 139 (0,0))):=(bJ.block g N8).trans HI.out.2.2.2.1;have tH:Hid (But (fun k=>k=g) w w2):=(HI.out.2.2.2.2.2).trans (But.yhp (F:=fun k=>k=g) bJ) (fun _ _ h=>h);clear Hd bJ hc m0 m1 m2 m3 m4
      go_wp2_with fail
      go_roundg (L.length-(j+1))
      case measure=>omega
      case rel=>exact⟨i,j+1,cu,by omega,by omega,by omega,rfl,by go_num,by rw[HS.out];exact HI.out.1,by rw[HS.out];exact HI.out.2.1,HD.out,Be.out,HI.out.2.2.2.2.1,tH.out⟩
    ·have j1:¬(j:Int)<(L.length:Int):=by omega
     have Wi:j=L.length:=by omega
     obtain⟨q0,sF,rW,dR,mM⟩:=info_parts jG;have BG:=HI.out.1;have Nf:=HI.out.2.1;rw[Wi,List.take_length]at BG Nf
     have bN:∀ty l c,l=L.length-i->(Builtin.clear_ #[61] ty #[K (Y ⟨g,i*5,S⟩) l c]).run N wr= .ok (yY #[]) (wr.setRow g (cu.toList.take (i*5)++(Builtin.zeroCells (yR #[J I 0,J I 0,J I 0,J I 0,C Q]).cells (L.length-i)).toList++cu.toList.drop (i*5+(L.length-i)*5)).toArray):=by
      intro ty l c hl;subst hl
      have hv:∀w,(zeroValue 139).run N w= .ok (ua #[J I 0,J I 0,J I 0,J I 0,C Q]) w:=fun w=>by simp[zeroValue,typeInfo,sF,rW]
      exact qq (P:=N) wr 61 139 ty 139 _ Tryz.underlying61 hv g (i*5) (L.length-i) c (by omega) cu HI.out.2.2.2.1 (by
       show i*5+(L.length-i)*5<=cu.size
       rw[HI.out.2.2.2.2.1];omega) (yfh _)
     obtain⟨W2,Hz⟩:∃W2,W2=wr.setRow g (cu.toList.take (i*5)++(Builtin.zeroCells (yR #[J I 0,J I 0,J I 0,J I 0,C Q]).cells (L.length-i)).toList++cu.toList.drop (i*5+(L.length-i)*5)).toArray:=⟨_,rfl⟩;rw[<-Hz]at bN
     have FIN:Hid (W2.ownsRow 0 139 5 (K (Y ⟨g,0,S⟩) (L.filter fun l=> !P l).length cap) (L.filter fun l=> !P l).length (zL (L.filter fun l=> !P l))/\But (fun k=>k=g) w W2/\i=(L.filter fun l=> !P l).length):=by
      have Py:(Builtin.zeroCells (yR #[J I 0,J I 0,J I 0,J I 0,C Q]).cells (L.length-i)).toList.length=(L.length-i)*5:=by rw[M,size_zeroCells];rfl
      have mg:(cu.toList.take (i*5)).length=i*5:=by rw[ki,M,HI.out.2.2.2.2.1];omega
      refine⟨⟨qk _,.inr ⟨g,cap,_,rfl,yP _,by rw[Hz];exact setRow_heap wr g cu _ _ _ HI.out.2.2.2.1,by omega,tY,?_,?_⟩⟩,by rw[Hz];exact(HI.out.2.2.2.2.2).setRow (.inr rfl) _,BG⟩
      ·rw[yB,X,X,mg,Py,kp]
       have h5:=HI.out.2.2.2.2.1;have h6:cu.toList.length=cu.size:=M;omega
      ·rw[<-BG,uc,List.append_assoc,yS (by omega),yT (by omega),Nf]
     have n0:(0:Int)<=(i:Int):=by omega
     have n1:(i:Int)<=(L.length:Int):=by omega
     have n2:¬(cap=i):=by omega
     have n3:(i:Int)<=(cap:Int):=by omega
     clear Hz BG Nf sF rW dR mM HI HF
     go_wp2_with (at_builtin;refine zH _ rfl _ 61 rfl _ rfl (bN _ _ _ rfl) ?_)
     go_ret
     refine⟨?_,FIN.out.1,FIN.out.2.1.mono fun i _ hi=>by rw[hi];rfl⟩;rw[<-FIN.out.2.2];rfl
theorem ybP {g cap n:Nat} {cur:Array Value} {xs:List Value} (w:O) (hg:w.heap[g]?=Y (kO cur 139 (0,0))) (hn:n<=6) (hk:0<n) (Fe:n<=cap) (nE:cap<=9223372036854775807)
 (gJ:cur.size=cap*5) (hx:cur.toList.take (n*5)=xs) (oQ:∀u,u ∈ xs->u.oneCell'=E):
 Calls N 185 #[K (Y ⟨g,0,S⟩) n cap,J I 0,J I 1] w fun e w'=>e=Z (K (Y ⟨g,0,S⟩) (n-1) cap)/\
  w'.ownsRow 0 139 5 (K (Y ⟨g,0,S⟩) (n-1) cap) (n-1) (xs.drop 5)/\But (fun j=>j=g) w w':=by
 obtain⟨q0,sF,rW,dR,mM⟩:=info_parts jG
 have sG:xs.length=n*5:=by rw[<-hx,ki,M,gJ];omega
 have bO:(xs.drop 5).length=(n-1)*5:=by rw[kp,sG];omega
 have uZ:∀j u,xs[j]?=Y u->w.drew.cell? ⟨g,j,S⟩=Y u:=fun j u hu=>by
  rw[cell_of_row w.drew g j cur _ _ hg];rw[<-hx,yU]at hu;split at hu
  ·simpa using hu
  ·cases hu
 obtain⟨C1,bY⟩:∃C1:List Value,C1=cur.toList.take (0*5)++xs.drop 5++cur.toList.drop (0*5+(xs.drop 5).length):=⟨_,rfl⟩
 have df:C1.length=cap*5:=by rw[bY];simp only[X,ki,kp,M,gJ,sG];omega
 obtain⟨W1,rG⟩:∃W1,W1=w.drew.setRow g C1.toArray:=⟨_,rfl⟩
 have kJ:∀ty o l c,l=n-1->(o=5\/n=1)->(Builtin.append_ #[61,61] ty #[K (Y ⟨g,0,S⟩) 0 cap,K (Y ⟨g,o,S⟩) l c]).run N w.drew= .ok (K (Y ⟨g,0,S⟩) (n-1) cap) W1:=by
  intro ty o l c hl ho;subst hl
  have:=run_append_room (P:=N) w.drew 61 ty 139 q0 Tryz.underlying61 sF g 0 cap cur hg ⟨g,o,S⟩ (n-1) c (xs.drop 5) (by rw[bO,dR])
   (fun j u hj=>by
     rcases ho with rfl|ho
     ·rw[Addr.add_lit];exact uZ (5+j) u (by rwa [yZ]at hj)
     ·have h0:(xs.drop 5).length=0:=by rw[bO];omega
      rw[yI.1 h0]at hj
      simp at hj) (fun u hu=>oQ u (List.mem_of_mem_drop hu)) (by omega) (by rw[bO,dR,gJ];omega)
  rw[dR,<-bY,<-rG,show 0+(n-1)=n-1 by omega]at this;exact this
 have lQ:W1.heap[g]?=Y (kO C1.toArray 139 (0,0)):=by rw[rG];exact setRow_heap w.drew g cur _ _ _ hg
 have pJ:But (fun j=>j=g) w W1:=by rw[rG];exact(But.refl (fun j=>j=g) w).drew.setRow (.inr rfl) _
 obtain⟨W2,Hz⟩:∃W2,W2=W1.setRow g (C1.take ((n-1)*5)++[uv I 0,J I 0,J I 0,J I 0,C Q]++C1.drop ((n-1)*5+5)).toArray:=⟨_,rfl⟩
 have bN:∀ty o l c,o=(n-1)*5->l=1->(Builtin.clear_ #[61] ty #[K (Y ⟨g,o,S⟩) l c]).run N W1= .ok (yY #[]) W2:=by
  intro ty o l c ho hl;subst ho hl
  have Py:(Builtin.zeroCells (yR #[J I 0,J I 0,J I 0,J I 0,C Q]).cells 1).toList=[J I 0,J I 0,J I 0,J I 0,C Q]:=by kernel_rfl
  have hv:∀w,(zeroValue 139).run N w= .ok (ua #[J I 0,J I 0,J I 0,J I 0,C Q]) w:=fun w=>by simp[zeroValue,typeInfo,sF,rW]
  have:=qq (P:=N) W1 61 139 ty 139 _ Tryz.underlying61 hv g ((n-1)*5) 1 c (by decide) C1.toArray lQ (by
   show(n-1)*5+1*5<=C1.toArray.size
   simp only[yB,df]
   omega) (by rw[Py];decide)
  rw[Py]at this;rw[this,Hz];rfl
 have fH:W2.heap[g]?=Y (kO (C1.take ((n-1)*5)++[uv I 0,J I 0,J I 0,J I 0,C Q]++C1.drop ((n-1)*5+5)).toArray 139 (0,0)):=by rw[Hz];exact setRow_heap W1 g _ _ _ _ lQ
 have HB:Hid (But (fun j=>j=g) w W2):=by rw[Hz];exact pJ.setRow (.inr rfl) _
 have HO:Hid (W2.ownsRow 0 139 5 (K (Y ⟨g,0,S⟩) (n-1) cap) (n-1) (xs.drop 5)):=by
  have e:=ydo (c:=cur.toList) (xs:=xs) (zs:=[uv I 0,J I 0,J I 0,J I 0,C Q]) (z:=5) (n:=n) (k:=0) hk (by rw[M,gJ];omega) hx;simp only[yO,Nat.one_mul]at e bY;simp only[<-bY]at e;refine⟨bO,.inr ⟨g,cap,_,rfl,yP _,fH,by omega,by unfold maxLen;omega,?_,?_⟩⟩
  ·simp only[yB,ki,X,kp,df,List.length_cons,List.length_nil];omega
  ·rw[uc,e];simp
 have Ha:(1:Int)<=(n:Int):=by omega
 have Hl:(0:Int)<=(cap:Int):=by omega
 have H7:n-1<=n:=by omega
 have tq:n-(n-1)=1:=by omega
 have su:¬(cap=n-1):=by omega
 clear hg hx oQ uZ bY df rG lQ pJ Hz fH gJ sG bO sF rW dR mM
 by_cases sH:cap=1
 ·obtain rfl:n=1:=by omega
  subst sH;have SV:Hid (W2.ownsRow 0 139 5 (K (Y ⟨g,0,S⟩) 0 1) 0 (xs.drop 5)):=HO.out;simp only[Nat.sub_self]at kJ bN ⊢;clear HO Ha Hl H7 tq su
  go_enter Tryz.func185,Tryz.ntmps185
  go_wp2_with fail
  go_region_law (refine zw rfl (.tmp 22) (.tmp 25) 61 61 rfl (K (Y ⟨g,0,S⟩) 0 1) (K (Y ⟨g,0,S⟩) 0 0) (by simp[Act.eval,Act.put]) (by simp[Act.eval,Act.put]) (kJ _ _ _ _ rfl (.inr trivial)) ?_)
  go_wp2_with (at_builtin;refine zH _ rfl _ 61 rfl _ rfl (bN _ _ _ _ (by omega) (by omega)) ?_)
  go_ret
  exact⟨rfl,SV.out,HB.out⟩
 ·go_enter Tryz.func185,Tryz.ntmps185
  go_wp2_with fail
  go_region_law (refine zw rfl (.tmp 22) (.tmp 25) 61 61 rfl (K (Y ⟨g,0,S⟩) 0 cap) (K (Y ⟨g,5,S⟩) (n-1) (cap-1)) (by simp[Act.eval,Act.put]) (by simp[Act.eval,Act.put]) (kJ _ _ _ _ rfl (.inl rfl)) ?_)
  go_wp2_with (at_builtin;refine zH _ rfl _ 61 rfl _ rfl (bN _ _ _ _ (by omega) (by omega)) ?_)
  go_ret
  exact⟨rfl,HO.out,HB.out⟩
theorem ybO {vb:Value} {L:List Pg.Ln} (w:O) (hr:w.ownsRow 0 139 5 vb L.length (zL L)) (hn:L.length<=6) (hk:0<L.length):
 Calls N 185 #[vb,J I 0,J I 1] w fun e w'=>∃g cap,vb=K (Y ⟨g,0,S⟩) L.length cap/\e=Z (K (Y ⟨g,0,S⟩) (L.length-1) cap)/\w'.ownsRow 0 139 5 (K (Y ⟨g,0,S⟩) (L.length-1) cap) (L.drop 1).length (zL (L.drop 1))/\But (fun j=>vb.ownBlock=Y j) w w':=by
 obtain⟨_,wQ⟩:=hr;rcases wQ with ⟨_,e0⟩|⟨g,cap,cur,rfl,_,hg,rO,tY,fT,dD⟩
 ·omega
 ·refine(ybP w hg hn hk rO (by unfold maxLen at tY;omega) fT dD (vj L)).mono ?_
  rintro e w' ⟨rfl,h1,h2⟩;refine⟨g,cap,rfl,rfl,?_,h2.mono fun i _ hi=>by rw[hi];rfl⟩;rw[<-(xY L 1).2,kp];exact h1
structure Chg (b o:Nat) (F:Nat->Prop) (w w':O):Prop where
 but:But F w w'
 oth:∀p,p≠o->w'.cell? ⟨b,p,S⟩=w.cell? ⟨b,p,S⟩
theorem Chg.yhp {b o:Nat} {F:Nat->Prop} {w w':O} (h:Below w.heap.size w w') (hb:b<w.heap.size):Chg b o F w w':=⟨But.yhp h,fun p _=>h.cell (p:=⟨b,p,S⟩) hb⟩
theorem Chg.trans {b o:Nat} {F G:Nat->Prop} {w w1 w2:O} (h:Chg b o F w w1) (k:Chg b o G w1 w2) (hG:∀i,i<w.heap.size->G i->F i):Chg b o F w w2:=
 ⟨h.but.trans k.but hG,fun p hp=>(k.oth p hp).trans (h.oth p hp)⟩
structure Tbk (w:O) (b o:Nat) (vb:Value) (L:List Pg.Ln):Prop where
 c0:w.cell? ⟨b,o,S⟩=Y vb
 fb:∀p,w.frozen? ⟨b,p,S⟩=Q
 row:w.ownsRow 0 139 5 vb L.length (zL L)
 nb:vb.ownBlock≠Y b
 kept:Pg.Kept L
namespace Tbk
variable {w w' W:O} {b o:Nat} {vb v':Value} {L L':List Pg.Ln}
theorem lb (h:Tbk w b o vb L):b<w.heap.size:=kh _ _ h.c0
theorem lt (h:Tbk w b o vb L) {k:Nat} (hk:bkF b vb k):k<w.heap.size:=by
 rcases hk with rfl|hk
 ·exact h.lb
 ·exact(h.row.lt k hk).2
theorem keep (h:Tbk w b o vb L) {F:Nat->Prop} (hb:But F w w') (hF:∀k,bkF b vb k->¬F k):Tbk w' b o vb L:=by
 have kb:=hb.block b h.lb (hF b (.inl rfl));exact⟨(U kb).trans h.c0,fun p=>(D kb).trans (h.fb p),zc h.row hb fun k hk=>hF k (.inr hk),h.nb,h.kept⟩
theorem grow (h:Tbk w b o vb L) (hb:Below w.heap.size w w'):Tbk w' b o vb L:=h.keep (F:=fun _=>False) (But.yhp hb) (fun _ _=>id)
theorem put (h:Tbk w b o vb L) (hb:But (fun j=>vb.ownBlock=Y j) w W) (hr:W.ownsRow 0 139 5 v' L'.length (zL L')) (hv:∀j,v'.ownBlock=Y j->vb.ownBlock=Y j\/w.heap.size<=j) (hg:Pg.Kept L'):
 Tbk (W.setCell ⟨b,o,S⟩ v') b o v' L'/\Chg b o (bkF b vb) w (W.setCell ⟨b,o,S⟩ v')/\(∀k,bkF b v' k->bkF b vb k\/w.heap.size<=k):=by
 have hl:=h.lb;have kb:W.heap[b]?=w.heap[b]?:=hb.block b hl h.nb;have hc:W.cell? ⟨b,o,S⟩=Y vb:=(U (a:=⟨b,o,S⟩) kb).trans h.c0;have Ho:v'.ownBlock≠Y b:=fun e=>(hv b e).elim h.nb (fun h=>by omega);refine⟨⟨yN _ _ _ hc,fun p=> ?_,?_,Ho,hg⟩,⟨?_,fun p hp=> ?_⟩,fun k hk=> ?_⟩
 ·have:=(D (a:=⟨b,p,S⟩) kb).trans (h.fb p)
  simpa using this
 ·exact zb hr fun k hk=>Below.heap_setCell _ _ _ _ (fun e=>Ho (by rw[hk];exact congrArg Y e))
 ·exact(hb.mono (G:=bkF b vb) fun i _ hi=> .inr hi).setCell (a:=⟨b,o,S⟩) (.inr (.inl rfl)) _
 ·rw[V _ _ _ _ (fun e=>hp (by injection e with _ e;exact e.symm))]
  exact U (a:=⟨b,p,S⟩) kb
 ·rcases hk with rfl|hk
  ·exact .inl (.inl rfl)
  ·exact(hv k hk).imp .inr id
end Tbk
structure jQ (w:O) (b o:Nat) (L:List Pg.Ln) (F:Nat->Prop):Prop where
 ex:∃vb,Tbk w b o vb L/\F=bkF b vb
section
variable {w w':O} {b o:Nat} {L:List Pg.Ln} {F G:Nat->Prop}
theorem jQ.lt (h:jQ w b o L F) {k:Nat} (hk:F k):k<w.heap.size:=by
 obtain⟨vb,h,rfl⟩:=h;exact h.lt hk
theorem jQ.kept (h:jQ w b o L F):Pg.Kept L:=by
 obtain⟨vb,h,rfl⟩:=h;exact h.kept
theorem jQ.keep (h:jQ w b o L F) (hb:But G w w') (hF:∀k,F k->¬G k):jQ w' b o L F:=by
 obtain⟨vb,h,rfl⟩:=h;exact⟨vb,h.keep hb hF,rfl⟩
theorem jQ.grow (h:jQ w b o L F) (hb:Below w.heap.size w w'):jQ w' b o L F:=h.keep (G:=fun _=>False) (But.yhp hb) (fun _ _=>id)
end
theorem ygD {w:O} {vb:Value} {L:List Pg.Ln} {t:TypeId} (hr:w.ownsRow 0 139 5 vb L.length (zL L)) (hg:Pg.Kept L):Tbk (w.alloc (kO #[vb] t)) w.heap.size 0 vb L:=by
 have hb:=heap_alloc_new w (kO #[vb] t);refine⟨cell_of_row _ _ 0 _ _ _ hb,fun o=>by unfold yV;simp only[hb];simp,hr.alloc _,fun e=> ?_,hg⟩;have:=(hr.lt _ e).2;omega
theorem ye9 (w:O):
 Calls N 86 #[] w fun e w'=>∃b F,e=Z (ks (Y ⟨b,0,S⟩))/\jQ w' b 0 [] F/\Below w.heap.size w w'/\∀k,F k->w.heap.size<=k:=by
 go_enter Tryz.func86,Tryz.ntmps86
 go_wp2_with fail
 go_ret
 refine⟨_,_,rfl,⟨K S 0 0,ygD (yK _ _ _ _) Pg.Kept.nil,rfl⟩,zA (zR _) _,fun k hk=> ?_⟩;rcases hk with rfl|hk
 ·exact yC _
 ·simp[yJ]at hk
section
variable {b o:Nat} {L:List Pg.Ln} {F:Nat->Prop}
theorem yeg (w:O) (h:jQ w b o L F):
 Calls N 69 #[ks (Y ⟨b,o,S⟩)] w fun e w'=>∃ad cap,e=Z (K ad L.length cap)/\qC w' ad L/\Below w.heap.size w w'/\∀k,(un ad L.length cap).ownBlock=Y k->w.heap.size<=k:=by
 obtain⟨vb,h,rfl⟩:=h;have rT:=h.c0;have HC:Hid _:=ycU w h.row h.kept.le;clear h
 go_enter Tryz.func69,Tryz.ntmps69
 go_wp2_with fail
 refine Calls.mono HC.out ?_;rintro e w1 ⟨v',rfl,hr,hb⟩;obtain⟨ad,cap,rfl⟩:=zF hr;have HR:Hid _:=hr;have HB:Hid _:=hb;clear hr hb
 go_wp2_with fail
 go_ret
 exact⟨ad,cap,rfl,zt (zm.yjA HR.out),HB.out,fun k hk=>(World.ownsRow.lt HR.out k hk).1⟩
theorem yeC {bq oq:Nat} (q:Int) (hq:Pg.fits q) (l:Pg.Ln) (hl:Pg.fits l.m.p) (w:O) (hc:w.cell? ⟨bq,oq,S⟩=Y (J I q)):
 Calls N 177 #[l.val,ks (Y ⟨bq,oq,S⟩)] w fun e w'=>e=Z (C (l.has q))/\Below w.heap.size w w':=by
 obtain⟨⟨p,s,f,r⟩,d⟩:=l;have gB:=kh _ _ hc;have HO:=jl p s f r q hl hq;simp only[Pg.Ln.val,Pg.Ln.has,Pg.Mp.has];generalize Pg.over p s q=x at*
 go_enter Tryz.func177,Tryz.ntmps177
 go_wp2_with fail
 refine(HO _).mono ?_;rintro e w1 ⟨rfl,Ha⟩
 go_wp2_with fail
 go_ret
 exact⟨rfl,zT (zA (zR _) _) Ha⟩
theorem yev {bm om:Nat} (m:Pg.Mp) (hm:Pg.fits m.p) (l:Pg.Ln) (hl:Pg.fits l.m.p) (w:O) (hc:ybG w bm om m):
 Calls N 211 #[l.val,ks (Y ⟨bm,om,S⟩)] w fun e w'=>e=Z (C (l.meets m))/\Below w.heap.size w w':=by
 obtain⟨⟨p,s,f,r⟩,d⟩:=l;obtain⟨p',s',f',r'⟩:=m;obtain⟨c0,c1,c2,c3⟩:=hc;have gB:=kh _ _ c0;have HO:=ybu p s f r p' s' f' r' hl hm;simp only at c0 c1 c2 c3;simp only[Pg.Ln.val,Pg.Ln.meets,Pg.Mp.meets];generalize Pg.meet p s p' s'=x at*
 go_enter Tryz.func211,Tryz.ntmps211
 go_wp2_with fail
 refine(HO _).mono ?_;rintro e w1 ⟨rfl,Ha⟩
 go_wp2_with fail
 go_ret
 exact⟨rfl,zT (zA (zR _) _) Ha⟩
theorem qw {w w1:O} (h:Below w.heap.size w w1) (r:Nat) (hr:w.heap.size<=r) (x0 x1 x2 x3 x4:Value):
 Below w.heap.size w (((((w1.setCell ⟨r,0,S⟩ x0).setCell ⟨r,1,S⟩ x1).setCell ⟨r,2,S⟩ x2).setCell ⟨r,3,S⟩ x3).setCell ⟨r,4,S⟩ x4):=
 ((((h.setCell hr _).setCell hr _).setCell hr _).setCell hr _).setCell hr _
theorem va (q:Int) (hq:Pg.fits q) (w:O) (h:jQ w b o L F):
 Calls N 141 #[ks (Y ⟨b,o,S⟩),J I q] w fun e w'=>e=Z (yY #[(Pg.kAt L q).val,C (Pg.kFnd L q).isSome])/\Below w.heap.size w w':=by
 obtain⟨vb,h,rfl⟩:=h;obtain⟨ad,cap,rfl⟩:=zF h.row;obtain⟨W,hW⟩:∃W,W=(w.alloc (kO #[J I q] 3)).alloc (kO #[J I 0,J I 0,J I 0,J I 0,C Q] 139):=⟨_,rfl⟩
 have hB:Below w.heap.size w W:=by rw[hW];exact zA (zA (zR _) _) _
 have hT:=h.grow hB
 have k1:W.cell? ⟨w.heap.size,0,S⟩=Y (J I q):=by rw[hW];simp[go_sem]
 have HI:=vJ (cap:=cap) (fun l=>l.has q) 177 #[ks (Y ⟨w.heap.size,0,S⟩)] W (zt (zm.yjA hT.row)) h.kept.le (fun args w=>by simp[go_sem]) (fun j w' hj hb=>yeC q hq _ (h.kept.fits hj) w' (cell_later hb k1));have rY:=h.lb;have rT:=hT.c0;have Fa:=h.c0;have Hg:=h.kept.le
 have pU:W.heap.size=w.heap.size+2:=by rw[hW];simp
 cases hf:Pg.kFnd L q with
 | none=>
   have e1:Pg.kAt L q= .zz:=by simp only[Pg.kAt,hf]
   have e2:Pg.idxN L (fun l=>l.has q)= -1:=by
    unfold Pg.kFnd at hf;simp only[Pg.idxN,hf]
   rw[e2]at HI;have HB:Hid _:=hB;rw[e1];clear e1 e2 hf h hT hB k1
   go_enter Tryz.func141,Tryz.ntmps141
   go_wp2_with fail
   rw[<-hW];refine HI.mono ?_;rintro e w1 ⟨rfl,Ha⟩;have hr:∀p,w1.cell? ⟨w.heap.size+1,p,S⟩=_:=fun p=>Ha.cell (p:=⟨w.heap.size+1,p,S⟩) (by simp;omega);have hf:∀p,w1.frozen? ⟨w.heap.size+1,p,S⟩=_:=fun p=>Ha.frozen (p:=⟨w.heap.size+1,p,S⟩) (by simp;omega);rw[hW]at hr hf;have H9:Hid _:=zT HB.out Ha;clear Ha HI HB rT Fa hW
   go_wp2_with fail
   refine bodyPost_ret (v:=yY #[ua #[J I 0,J I 0,J I 0,J I 0,C Q],C Q]) ?_ rfl ⟨rfl,?_⟩
   ·simp[results,Tryz.results141,go_sem,hr]
   ·exact qw H9.out _ (yE _) _ _ _ _ _
 | some k=>
   obtain⟨hk,_,_⟩:=Pg.yi3 hf
   have e1:Pg.kAt L q=L.getD k .zz:=by simp only[Pg.kAt,hf]
   have e2:Pg.idxN L (fun l=>l.has q)=(k:Int):=by
    unfold Pg.kFnd at hf;simp only[Pg.idxN,hf]
   rw[e2]at HI;obtain⟨g,og,e3,hg,hm⟩:=zt (zm.yjA hT.row) k hk;subst e3;have HB:Hid _:=hB;rw[e1]
   have i0:(0:Int)<=(k:Int):=by omega
   have i1:(k:Int)<(L.length:Int):=by omega
   have i2:¬(k:Int)<0:=by omega
   have lL:b<W.heap.size:=ue rY hB.size;clear e1 e2 hf h hT hB k1;generalize L.getD k .zz=x at*;obtain⟨⟨xp,xs,xf,xr⟩,xd⟩:=x;simp only[Pg.Ln.val]
   go_enter Tryz.func141,Tryz.ntmps141
   go_wp2_with fail
   rw[<-hW];refine HI.mono ?_;rintro e w1 ⟨rfl,Ha⟩;have hr:∀p,w1.cell? ⟨w.heap.size+1,p,S⟩=_:=fun p=>Ha.cell (p:=⟨w.heap.size+1,p,S⟩) (by simp;omega);have hf:∀p,w1.frozen? ⟨w.heap.size+1,p,S⟩=_:=fun p=>Ha.frozen (p:=⟨w.heap.size+1,p,S⟩) (by simp;omega);rw[hW]at hr hf;have H9:Hid _:=zT HB.out Ha;have c0:=cell_later Ha rT;obtain⟨m0,m1,m2,m3,m4⟩:=hm.below Ha hg;simp only at m0 m1 m2 m3 m4;have dC:b<w1.heap.size:=ue lL Ha.size;clear Ha HI HB rT Fa hW hm
   go_wp2_with fail
   refine bodyPost_ret (v:=yY #[ua #[J I xp,J I xs,J I xf,J I xr,C xd],C E]) ?_ rfl ⟨rfl,?_⟩
   ·simp[results,Tryz.results141,go_sem,hr]
   ·exact qw H9.out _ (yE _) _ _ _ _ _
end
section
variable {b o:Nat} {L:List Pg.Ln} {F:Nat->Prop}
theorem yba (m:Pg.Mp) (hm:Pg.fits m.p) (w:O) (h:jQ w b o L F):
 Calls N 183 #[ks (Y ⟨b,o,S⟩),m.val] w fun e w'=>e=Z (J I ((L.length:Int)-((Pg.yiq L m).length:Int)))/\∃F',jQ w' b o (Pg.yiq L m) F'/\Chg b o F w w'/\∀k,F' k->F k\/w.heap.size<=k:=by
 obtain⟨vb,h,rfl⟩:=h;obtain⟨ad,cap,rfl⟩:=zF h.row;obtain⟨W,hW⟩:∃W,W=w.alloc (kO #[J I m.p,J I m.s,J I m.f,J I m.r] 39):=⟨_,rfl⟩
 have hB:Below w.heap.size w W:=by rw[hW];exact zA (zR _) _
 have hT:=h.grow hB
 have k1:ybG W w.heap.size 0 m:=by rw[hW];exact⟨by simp[go_sem],by simp[go_sem],by simp[go_sem],by simp[go_sem]⟩
 have pU:W.heap.size=w.heap.size+1:=by rw[hW];simp
 have mW:¬(un ad L.length cap).ownBlock=Y w.heap.size:=fun e=>by have:=(h.row.lt _ e).2;omega
 have HD:=ycH (cap:=cap) (fun l=>l.meets m) 211 #[ks (Y ⟨w.heap.size,0,S⟩)] W hT.row h.kept.le (fun args w=>by simp[go_sem]) (fun j w' hj hb=>yev m hm _ (h.kept.fits hj) w' ⟨(hb.cell (a:=⟨w.heap.size,0,S⟩) (by simp;omega) mW).trans k1.1,(hb.cell (a:=⟨w.heap.size,0+1,S⟩) (by simp;omega) mW).trans k1.2.1,(hb.cell (a:=⟨w.heap.size,0+2,S⟩) (by simp;omega) mW).trans k1.2.2.1,(hb.cell (a:=⟨w.heap.size,0+3,S⟩) (by simp;omega) mW).trans k1.2.2.2⟩);have e1:(L.filter fun l=> !l.meets m)=Pg.yiq L m:=rfl;rw[e1]at HD;have rY:=h.lb;have rT:=h.c0;have Hg:=h.kept.le;have ig:=(h.kept.drop m).le;have HT:Hid _:=hT;have HX:Hid _:=h;have HB:Hid _:=hB;have HK:Hid _:=h.kept.drop m;clear h hT hB k1 e1 mW;generalize Pg.yiq L m=L' at*;obtain⟨mp,ms,mf,mr⟩:=m;simp only[Pg.Mp.val];simp only at hW
 go_enter Tryz.func183,Tryz.ntmps183
 go_wp2_with fail
 rw[<-hW];refine HD.mono ?_;rintro e w1 ⟨rfl,hr,Ha⟩;have kb:w1.heap[b]?=W.heap[b]?:=Ha.block b (by omega) HT.out.nb;have c0:w1.cell? ⟨b,o,S⟩=Y (K ad L.length cap):=(U (a:=⟨b,o,S⟩) kb).trans HT.out.c0;have cf:w1.frozen? ⟨b,o,S⟩=Q:=(D (a:=⟨b,o,S⟩) kb).trans (HT.out.fb o);have HF:Hid _:=HT.out.put Ha hr (fun j hj=> .inl (by cases ad with|none=>exact absurd hj (by simp[yJ])|some a=>exact hj)) HK.out;clear Ha hr kb HD rT hW
 go_wp2_with fail
 go_ret
 obtain⟨f1,f2,f3⟩:=HF.out;refine⟨rfl,_,⟨_,f1,rfl⟩,(Chg.yhp (o:=o) HB.out rY).trans f2 (fun i _ hi=>hi),fun k hk=>(f3 k hk).imp id (fun h=>by omega)⟩
theorem yae (w:O) (h:jQ w b o L F):
 Calls N 150 #[ks (Y ⟨b,o,S⟩)] w fun e w'=>e=Z (C (decide (0<L.length)))/\∃F',jQ w' b o (L.drop 1) F'/\Chg b o F w w'/\∀k,F' k->F k\/w.heap.size<=k:=by
 obtain⟨vb,h,rfl⟩:=h;obtain⟨ad,cap,rfl⟩:=zF h.row;have rY:=h.lb;have rT:=h.c0;have Hg:=h.kept.le
 by_cases h0:0<L.length
 ·have HD:Hid _:=ybO w h.row Hg h0
  have HX:Hid _:=h
  have e0:Hid (decide (0<L.length)=E):=by simp[Hid,h0]
  have n0:((L.length:Int)==0)=Q:=by
   have:¬(L.length:Int)=0:=by omega
   simpa using this
  clear h
  go_enter Tryz.func150,Tryz.ntmps150
  go_wp2_with fail
  refine Calls.mono HD.out ?_;rintro e w1 ⟨g,cap',he,rfl,hr,Ha⟩;cases he;have kb:w1.heap[b]?=w.heap[b]?:=Ha.block b (by omega) HX.out.nb;have c0:w1.cell? ⟨b,o,S⟩=Y (K (Y ⟨g,0,S⟩) L.length cap):=(U (a:=⟨b,o,S⟩) kb).trans HX.out.c0;have cf:w1.frozen? ⟨b,o,S⟩=Q:=(D (a:=⟨b,o,S⟩) kb).trans (HX.out.fb o);have HF:Hid _:=HX.out.put Ha hr (fun j hj=> .inl hj) HX.out.kept.tail;clear Ha hr kb HD rT
  go_wp2_with fail
  go_ret
  obtain⟨f1,f2,f3⟩:=HF.out;refine⟨xB e0.out.symm,_,⟨_,f1,rfl⟩,f2,f3⟩
 ·have hL:L=[]:=yI.1 (by omega)
  subst hL;have HX:Hid _:=h;clear h
  go_enter Tryz.func150,Tryz.ntmps150
  go_wp2_with fail
  go_ret
  exact⟨rfl,_,⟨_,HX.out,rfl⟩,Chg.yhp (zR _) rY,fun k hk=> .inl hk⟩
theorem yfa (l:Pg.Ln) (hm:Pg.fits l.m.p) (w:O) (h:jQ w b o L F):
 Calls N 146 #[ks (Y ⟨b,o,S⟩),l.val] w fun e w'=>e=Z (C (l.m.code==0))/\∃F',jQ w' b o (Pg.kPut L l) F'/\Chg b o F w w'/\∀k,F' k->F k\/w.heap.size<=k:=by
 have HX:Hid _:=h;have Li:∀k,F k->k<w.heap.size:=fun k hk=>h.lt hk;have sN:=zX l.m.p l.m.s l.m.f l.m.r
 have rY:b<w.heap.size:=by obtain⟨vb,h,_⟩:=h;exact h.lb
 by_cases H6:l.m.code=0
 ·have eF:Pg.check l.m.p l.m.s l.m.f l.m.r=0:=H6
  rw[eF]at sN
  have hr:(l.m.code==0)=E:=by simp[H6]
  have aL:Hid (Pg.Kept (Pg.kPut L l)):=h.kept.put l;have Tj:Hid ((Pg.yiq L l.m).length<=6):=(h.kept.drop l.m).le;have HD:=fun w' (hb:Below w.heap.size w w')=>yba l.m hm w' (h.grow hb);rw[hr];rw[Pg.ykP H6]at aL ⊢;clear h H6 eF hr;generalize Pg.yiq L l.m=L1 at*;obtain⟨L2,aY⟩:∃L2,L2=Pg.yi4 L1:=⟨_,rfl⟩;rw[<-aY]at aL
  have SN:Hid (L2.length<=5):=by rw[aY];exact Pg.yju Tj.out
  have fO:Hid (L2=Pg.yi4 L1):=aY;clear aY;obtain⟨⟨mp,ms,mf,mr⟩,d⟩:=l;simp only[Pg.Ln.val,Pg.Mp.val]at*;have E2:=fun w' F' (h:jQ w' b o L1 F')=>yae w' h
  go_enter Tryz.func146,Tryz.ntmps146
  go_wp2_with fail
  refine(sN _).mono ?_;rintro e w1 ⟨rfl,Ha⟩;have iN:∀p,w1.cell? ⟨w.heap.size,p,S⟩=_:=fun p=>Ha.cell (p:=⟨w.heap.size,p,S⟩) (by simp);have bJ:Below w.heap.size w w1:=zT (zA (zR _) _) Ha
  have rQ:w.heap.size<w1.heap.size:=by have:=Ha.size;simp at this;omega
  have H9:Hid _:=bJ;clear Ha bJ sN
  go_wp2_with fail
  refine(HD _ H9.out).mono ?_;rintro e w2 ⟨rfl,F2,h2,tY,dA⟩
  have tL:¬F w.heap.size:=fun hf=>by have:=Li _ hf;omega
  have nX:∀p,w2.cell? ⟨w.heap.size,p,S⟩=_:=fun p=>(tY.but.cell (a:=⟨w.heap.size,p,S⟩) rQ tL).trans (iN p);have pR:w.heap.size<w2.heap.size:=ue rQ tY.but.size;have lD:Hid (Chg b o F w w2):=(Chg.yhp (o:=o) H9.out rY).trans tY (fun i _ hi=>hi);have dA:Hid (∀k,F2 k->F k\/w.heap.size<k):=fun k hk=>(dA k hk).imp id (fun h=>by omega);obtain⟨GU,t2,Kw⟩:=h2.ex;obtain⟨lH,cap2,rfl⟩:=zF t2.row;have c20:=t2.c0;have KH:=t2.lb;clear t2 Kw tY HD iN HX
  by_cases h6:L1.length=6
  ·have i6:((L1.length:Int)==6)=E:=by simp[h6]
   have eR:L1.drop 1=L2:=by rw[fO.out];simp[Pg.yi4,h6]
   rw[eR]at E2;clear eR
   go_wp2_with fail
   refine(E2 _ _ h2).mono ?_;rintro e w3 ⟨rfl,F3,h3,fT,bZ⟩;have Pj:¬F2 w.heap.size:=fun hf=>(dA.out _ hf).elim tL (fun h=>by omega);have nY:∀p,w3.cell? ⟨w.heap.size,p,S⟩=_:=fun p=>(fT.but.cell (a:=⟨w.heap.size,p,S⟩) pR Pj).trans (nX p);have iP:w.heap.size<w3.heap.size:=ue pR fT.but.size;have aG:Hid (Chg b o F w w3):=lD.out.trans fT (fun i hi hg=>(dA.out i hg).elim id (fun h=>by omega));have mi:Hid (∀k,F3 k->F k\/w.heap.size<=k):=fun k hk=>(bZ k hk).elim (fun h=>(dA.out k h).imp id (fun h=>by omega)) (fun h=> .inr (by omega));have H3:Hid _:=h3;have x0:w3.cell? ⟨w.heap.size,0,S⟩=Y (J I mp):=(nY 0).trans (by simp[go_sem]);have x1:w3.cell? ⟨w.heap.size,1,S⟩=Y (J I ms):=(nY 1).trans (by simp[go_sem]);have x2:w3.cell? ⟨w.heap.size,2,S⟩=Y (J I mf):=(nY 2).trans (by simp[go_sem]);have x3:w3.cell? ⟨w.heap.size,3,S⟩=Y (J I mr):=(nY 3).trans (by simp[go_sem]);have x4:w3.cell? ⟨w.heap.size,4,S⟩=Y (C d):=(nY 4).trans (by simp[go_sem]);clear fT nY nX h3 h2 c20 bZ E2;obtain⟨vb3,t3,rfl⟩:=H3.out.ex;obtain⟨gN,rC,rfl⟩:=zF t3.row;have Hr:=t3.row;have r0:=t3.c0;have rf:=t3.fb o;have bv:=t3.lb;have lX:=t3.nb;have ik:L2.length<=5:=SN.out;have Tp:Hid _:=t3;have mo:Hid (Pg.Kept (L2++[⟨⟨mp,ms,mf,mr⟩,d⟩])):=aL.out;obtain⟨q0,sF,rW,rZ,rX⟩:=info_parts jG
   have tJ:∀(W:O) (j:Nat) (u:Value),[uv I mp,J I ms,J I mf,J I mr,C d][j]?=Y u->(W.alloc (kO #[J I mp,J I ms,J I mf,J I mr,C d] 139)).cell? ((⟨W.heap.size,0,S⟩:Addr).add j)=Y u:=fun W j u hu=>
    yQ (heap_alloc_new W _) j u hu
   have sZ:∀u,u ∈ [uv I mp,J I ms,J I mf,J I mr,C d]->u.oneCell'=E:=by
    intro u hu;simp at hu;rcases hu with rfl|rfl|rfl|rfl|rfl<;>rfl
   have dV:L2.length+1<=maxLen:=by unfold maxLen;omega
   have si:(L2.length+1)*40<=140737488355328:=by omega
   have uI:w.heap.size<w3.heap.size:=iP;clear t3 iP
   go_wp2_with fail
   go_region_law (refine step_append_lies _ rfl (.tmp 25) (.tmp 27) 61 rfl 0 139 q0 _ 5 40 Tryz.underlying61 sF rW rZ rX rfl (by decide) (K gN L2.length rC) _ _ (by simp[Act.eval]) (Hr.alloc _) ⟨w3.heap.size,0,S⟩ 1 1 [J I mp,J I ms,J I mf,J I mr,C d] (by simp[Act.eval]) rfl (tJ w3) sZ (by decide) dV si (yP _) (w3.heap.size+1) (by simp) ?_;intro g6 cap6 w6 rV ry pq dh;have iV:Hid ((w3.alloc (kO #[J I mp,J I ms,J I mf,J I mr,C d] 139)).drew.grownBy w6 (un gN L2.length rC).ownBlock):=ry;have sP:w6.heap[b]?=w3.heap[b]?:=(iV.out.block b (by simp;omega) (fun e=>lX e.symm)).trans (Below.heap_alloc _ _ _ bv);have e9:w6.cell? ⟨b,o,S⟩=Y (K gN L2.length rC):=(U sP).trans r0;have Bz:w6.frozen? ⟨b,o,S⟩=Q:=(D sP).trans rf;have TC:Hid (w6.ownsRow 0 139 5 (K (Y ⟨g6,0,S⟩) (L2.length+1) cap6) (L2.length+1) (zL L2++[J I mp,J I ms,J I mf,J I mr,C d])):=rV;have Ty:Hid ((un gN L2.length rC).ownBlock=Y g6\/g6=w3.heap.size+1):=pq;clear rV ry pq sP)
   all_goals
    have lJ:But (fun j=>(un gN L2.length rC).ownBlock=Y j) w3 w6:=((But.refl _ w3).alloc _).drew.grown iV.out (fun k hk=> .inr hk)
    have kY:w6.ownsRow 0 139 5 (K (Y ⟨g6,0,S⟩) (L2.length+1) cap6) (L2++[Pg.Ln.mk ⟨mp,ms,mf,mr⟩ d]).length (zL (L2++[Pg.Ln.mk ⟨mp,ms,mf,mr⟩ d])):=by
     rw[xN,X];exact TC.out
    have HF:Hid _:=Tp.out.put lJ kY (fun j hj=>by
     rcases Ty.out with h|h
     ·exact .inl (h.trans hj)
     ·exact .inr (by simp[yJ]at hj;omega)) mo.out
    clear lJ kY iV TC Ty
    go_wp2_with fail
    go_ret
    obtain⟨f1,f2,f3⟩:=HF.out;refine⟨rfl,_,by rw[<-fO.out];exact⟨_,f1,rfl⟩,aG.out.trans f2 (fun i hi hg=>(mi.out i hg).elim id (fun h=>by omega)),fun k hk=>(f3 k hk).elim (mi.out k) (fun h=> .inr (by omega))⟩
  ·have i6:((L1.length:Int)==6)=Q:=by
    have:¬((L1.length:Int)=6):=by omega
    simpa using this
   have eR:L1=L2:=by rw[fO.out];simp[Pg.yi4,h6]
   rw[eR]at h2 c20 i6;clear eR;have aG:Hid _:=lD.out;have mi:Hid (∀k,F2 k->F k\/w.heap.size<=k):=fun k hk=>(dA.out k hk).imp id (fun h=>by omega);have H3:Hid _:=h2;have x0:w2.cell? ⟨w.heap.size,0,S⟩=Y (J I mp):=(nX 0).trans (by simp[go_sem]);have x1:w2.cell? ⟨w.heap.size,1,S⟩=Y (J I ms):=(nX 1).trans (by simp[go_sem]);have x2:w2.cell? ⟨w.heap.size,2,S⟩=Y (J I mf):=(nX 2).trans (by simp[go_sem]);have x3:w2.cell? ⟨w.heap.size,3,S⟩=Y (J I mr):=(nX 3).trans (by simp[go_sem]);have x4:w2.cell? ⟨w.heap.size,4,S⟩=Y (C d):=(nX 4).trans (by simp[go_sem]);have iP:w.heap.size<w2.heap.size:=pR;clear nX h2 E2 KH
   go_wp2_with fail
   clear c20;generalize w2=w3 at*;obtain⟨vb3,t3,rfl⟩:=H3.out.ex;obtain⟨gN,rC,rfl⟩:=zF t3.row;have Hr:=t3.row;have r0:=t3.c0;have rf:=t3.fb o;have bv:=t3.lb;have lX:=t3.nb;have ik:L2.length<=5:=SN.out;have Tp:Hid _:=t3;have mo:Hid (Pg.Kept (L2++[⟨⟨mp,ms,mf,mr⟩,d⟩])):=aL.out;obtain⟨q0,sF,rW,rZ,rX⟩:=info_parts jG
   have tJ:∀(W:O) (j:Nat) (u:Value),[uv I mp,J I ms,J I mf,J I mr,C d][j]?=Y u->(W.alloc (kO #[J I mp,J I ms,J I mf,J I mr,C d] 139)).cell? ((⟨W.heap.size,0,S⟩:Addr).add j)=Y u:=fun W j u hu=>
    yQ (heap_alloc_new W _) j u hu
   have sZ:∀u,u ∈ [uv I mp,J I ms,J I mf,J I mr,C d]->u.oneCell'=E:=by
    intro u hu;simp at hu;rcases hu with rfl|rfl|rfl|rfl|rfl<;>rfl
   have dV:L2.length+1<=maxLen:=by unfold maxLen;omega
   have si:(L2.length+1)*40<=140737488355328:=by omega
   have uI:w.heap.size<w3.heap.size:=iP;clear t3 iP
   go_wp2_with fail
   go_region_law (refine step_append_lies _ rfl (.tmp 25) (.tmp 27) 61 rfl 0 139 q0 _ 5 40 Tryz.underlying61 sF rW rZ rX rfl (by decide) (K gN L2.length rC) _ _ (by simp[Act.eval]) (Hr.alloc _) ⟨w3.heap.size,0,S⟩ 1 1 [J I mp,J I ms,J I mf,J I mr,C d] (by simp[Act.eval]) rfl (tJ w3) sZ (by decide) dV si (yP _) (w3.heap.size+1) (by simp) ?_;intro g6 cap6 w6 rV ry pq dh;have iV:Hid ((w3.alloc (kO #[J I mp,J I ms,J I mf,J I mr,C d] 139)).drew.grownBy w6 (un gN L2.length rC).ownBlock):=ry;have sP:w6.heap[b]?=w3.heap[b]?:=(iV.out.block b (by simp;omega) (fun e=>lX e.symm)).trans (Below.heap_alloc _ _ _ bv);have e9:w6.cell? ⟨b,o,S⟩=Y (K gN L2.length rC):=(U sP).trans r0;have Bz:w6.frozen? ⟨b,o,S⟩=Q:=(D sP).trans rf;have TC:Hid (w6.ownsRow 0 139 5 (K (Y ⟨g6,0,S⟩) (L2.length+1) cap6) (L2.length+1) (zL L2++[J I mp,J I ms,J I mf,J I mr,C d])):=rV;have Ty:Hid ((un gN L2.length rC).ownBlock=Y g6\/g6=w3.heap.size+1):=pq;clear rV ry pq sP)
   all_goals
    have lJ:But (fun j=>(un gN L2.length rC).ownBlock=Y j) w3 w6:=((But.refl _ w3).alloc _).drew.grown iV.out (fun k hk=> .inr hk)
    have kY:w6.ownsRow 0 139 5 (K (Y ⟨g6,0,S⟩) (L2.length+1) cap6) (L2++[Pg.Ln.mk ⟨mp,ms,mf,mr⟩ d]).length (zL (L2++[Pg.Ln.mk ⟨mp,ms,mf,mr⟩ d])):=by
     rw[xN,X];exact TC.out
    have HF:Hid _:=Tp.out.put lJ kY (fun j hj=>by
     rcases Ty.out with h|h
     ·exact .inl (h.trans hj)
     ·exact .inr (by simp[yJ]at hj;omega)) mo.out
    clear lJ kY iV TC Ty
    go_wp2_with fail
    go_ret
    obtain⟨f1,f2,f3⟩:=HF.out;refine⟨rfl,_,by rw[<-fO.out];exact⟨_,f1,rfl⟩,aG.out.trans f2 (fun i hi hg=>(mi.out i hg).elim id (fun h=>by omega)),fun k hk=>(f3 k hk).elim (mi.out k) (fun h=> .inr (by omega))⟩
 ·have hr:(l.m.code==0)=Q:=by simp[H6]
  have Ho:(Pg.check l.m.p l.m.s l.m.f l.m.r !=0)=E:=by
   have:Pg.check l.m.p l.m.s l.m.f l.m.r≠0:=H6
   simpa using this
  rw[hr,Pg.ylm H6];clear H6 hr h;obtain⟨⟨mp,ms,mf,mr⟩,d⟩:=l;simp only at sN Ho;simp only[Pg.Ln.val];generalize Pg.check mp ms mf mr=x at*
  go_enter Tryz.func146,Tryz.ntmps146
  go_wp2_with fail
  refine(sN _).mono ?_;rintro e w1 ⟨rfl,Ha⟩;have HB:Hid (Below w.heap.size w w1):=zT (zA (zR _) _) Ha;clear Ha
  go_wp2_with fail
  go_ret
  exact⟨rfl,_,HX.out.grow HB.out,Chg.yhp HB.out rY,fun k hk=> .inl hk⟩
end
namespace Pg
def yjW (f:Nat->Bool):Bool:= !f 0&&(!f 1&&(!f 2&& !f 3))
def yio (f:Nat->Bool) (k:Int):Bool:=decide (0<=k)&&(decide (k<4)&&f k.toNat)
def yji (n:Nat) (f:Nat->Bool):Nat->Bool:=fun j=>decide (j<n)||f j
def yly (k:Nat) (f:Nat->Bool):Nat->Bool:=fun j=>if j=k then Q else f j
theorem shOver_iff {f:Nat->Bool}:yjW f=E ↔ ∀k,k<4->f k=Q:=by
 simp only[yjW,Bool.and_eq_true,Bool.not_eq_true'];constructor
 ·rintro ⟨h0,h1,h2,h3⟩ k hk
  have:k=0\/k=1\/k=2\/k=3:=by omega
  rcases this with rfl|rfl|rfl|rfl<;>assumption
 ·intro h
  exact⟨h 0 (by omega),h 1 (by omega),h 2 (by omega),h 3 (by omega)⟩
end Pg
theorem But.set4 {F:Nat->Prop} {w w1:O} (h:But F w w1) (r:Nat) (hr:w.heap.size<=r\/F r) (v0 v1 v2 v3:Value):
 But F w ((((w1.setCell ⟨r,0,S⟩ v0).setCell ⟨r,1,S⟩ v1).setCell ⟨r,2,S⟩ v2).setCell ⟨r,3,S⟩ v3):=
 (((h.setCell (a:=⟨r,0,S⟩) hr v0).setCell (a:=⟨r,1,S⟩) hr v1).setCell (a:=⟨r,2,S⟩) hr v2).setCell (a:=⟨r,3,S⟩) hr v3
structure jD (w:O) (b:Nat) (m:Pg.Mp) (f:Nat->Bool):Prop where
 cm:ybG w b 0 m
 cw:∀k,k<4->w.cell? ⟨b,4+k,S⟩=Y (C (f k))
 fz:∀p,w.frozen? ⟨b,p,S⟩=Q
namespace jD
variable {w w':O} {b:Nat} {m m':Pg.Mp} {f f':Nat->Bool}
theorem lb (h:jD w b m f):b<w.heap.size:=kh _ _ h.cm.1
theorem keep (h:jD w b m f) {G:Nat->Prop} (hb:But G w w') (hF:¬G b):jD w' b m f:=by
 have kb:=hb.block b h.lb hF;exact⟨⟨(U kb).trans h.cm.1,(U kb).trans h.cm.2.1,(U kb).trans h.cm.2.2.1,(U kb).trans h.cm.2.2.2⟩,fun k hk=>(U kb).trans (h.cw k hk),fun p=>(D kb).trans (h.fz p)⟩
theorem grow (h:jD w b m f) (hb:Below w.heap.size w w'):jD w' b m f:=h.keep (G:=fun _=>False) (But.yhp hb) id
theorem set (h:jD w b m f) {k:Nat} (hk:k<4) (v:Bool):jD (w.setCell ⟨b,4+k,S⟩ (C v)) b m (fun j=>if j=k then v else f j):=by
 have Ho:∀o,o<4->(⟨b,4+k,S⟩:Addr)≠⟨b,o,S⟩:=fun o ho e=>by injection e with _ e;omega
 obtain⟨c0,c1,c2,c3⟩:=h.cm;refine⟨⟨?_,?_,?_,?_⟩,fun j hj=> ?_,fun p=>by simpa using h.fz p⟩
 ·rw[V _ _ _ _ (Ho _ (by omega))];exact c0
 ·rw[V _ _ _ _ (Ho _ (by omega))];exact c1
 ·rw[V _ _ _ _ (Ho _ (by omega))];exact c2
 ·rw[V _ _ _ _ (Ho _ (by omega))];exact c3
 ·by_cases e:j=k
  ·subst e
   rw[yN _ _ _ (h.cw j hj)];simp
  ·rw[V _ _ _ _ (fun x=>e (by injection x with _ x;omega)),if_neg e]
   exact h.cw j hj
theorem told (h:jD w b m f) (m':Pg.Mp):jD ((((w.setCell ⟨b,0,S⟩ (J I m'.p)).setCell ⟨b,1,S⟩ (J I m'.s)).setCell ⟨b,2,S⟩ (J I m'.f)).setCell ⟨b,3,S⟩ (J I m'.r)) b m' f:=by
 obtain⟨c0,c1,c2,c3⟩:=h.cm;refine⟨⟨?_,?_,?_,?_⟩,fun j hj=> ?_,fun p=>by simpa using h.fz p⟩
 ·simp[go_sem,c0]
 ·simp at c1;simp[go_sem,c1]
 ·simp at c2;simp[go_sem,c2]
 ·simp at c3;simp[go_sem,c3]
 ·rw[V _ _ _ _ (fun x=>by injection x with _ x;omega),V _ _ _ _ (fun x=>by injection x with _ x;omega),V _ _ _ _ (fun x=>by injection x with _ x;omega),V _ _ _ _ (fun x=>by injection x with _ x;omega)]
  exact h.cw j hj
end jD
theorem ydp {w:O} {b:Nat} {m:Pg.Mp} {f g:Nat->Bool} (h:jD w b m f) (e:∀k,k<4->f k=g k):jD w b m g:=⟨h.cm,fun k hk=>(e k hk)▸h.cw k hk,h.fz⟩
theorem ye5 (w:O):
 Calls N 47 #[] w fun e w'=>∃b,e=Z (ks (Y ⟨b,0,S⟩))/\jD w' b .zz (fun _=>Q)/\Below w.heap.size w w'/\w.heap.size<=b:=by
 go_enter Tryz.func47,Tryz.ntmps47
 go_wp2_with fail
 go_ret
 have hb:=heap_alloc_new w (kO #[J I 0,J I 0,J I 0,J I 0,C Q,C Q,C Q,C Q] 170);refine⟨_,rfl,⟨⟨?_,?_,?_,?_⟩,fun k hk=> ?_,fun o=> ?_⟩,zA (zR _) _,yC _⟩
 ·exact cell_of_row _ _ 0 _ _ _ hb
 ·exact cell_of_row _ _ 1 _ _ _ hb
 ·exact cell_of_row _ _ 2 _ _ _ hb
 ·exact cell_of_row _ _ 3 _ _ _ hb
 ·rw[cell_of_row _ _ (4+k) _ _ _ hb]
  have:k=0\/k=1\/k=2\/k=3:=by omega
  rcases this with rfl|rfl|rfl|rfl<;>rfl
 ·unfold yV;simp only[hb];simp
theorem yeI:(Tryz.prog.info? 4).map (fun i=>(i.zero,i.size,i.bytes))=Y (Y (C Q),1,1):=by kernel_rfl
theorem yea (x0 x1 x2 x3:Bool) (w:O):Sem.run N (Op.equalIn 10000 168 (ua #[C x0,C x1,C x2,C x3]) (ua #[C Q,C Q,C Q,C Q])) w= .ok (!x0&&(!x1&&(!x2&& !x3))) w:=by
 obtain⟨q0,hq,rW,rZ,rX⟩:=info_parts yeI
 have hu:Tryz.prog.underlying 168=Y (.array 4 4):=by kernel_rfl
 have ak:Tryz.prog.underlying 4=Y .bool:=by kernel_rfl
 have hp:Tryz.prog.plainKey 4=E:=by kernel_rfl
 have hc:Tryz.prog.cellsOf 4=1:=by kernel_rfl
 have hi:∀(a b:Bool) (w:O),(Op.equalIn 9999 4 (C a) (C b)).run N w= .ok (a==b) w:=fun a b w=>run_equalIn_bool w 9998 _ _ _ ak
 have step:∀(xs ys:Array Value) (i:Nat) (a b:Bool) (is:List Nat) (w:O),xs[i*1]?=Y (C a)->ys[i*1]?=Y (C b)->
  (Op.eqItems 9999 4 1 xs ys (i::is)).run N w=bif a==b then(Op.eqItems 9999 4 1 xs ys is).run N w else .ok Q w:=by
  intro xs ys i a b is w h1 h2;simp only[Op.eqItems,Sem.run_bind,run_part_plain w hp h1,run_part_plain w hp h2,hi,Result.andThen_ok]
  cases a==b<;>rfl
 rw[show(10000:Nat)=9999+1 from rfl,run_equalIn_array w 9999 _ _ hu hq,hc];have hr:List.range 4=[0,1,2,3]:=rfl;rw[hr,step _ _ 0 x0 Q _ _ rfl rfl,step _ _ 1 x1 Q _ _ rfl rfl,step _ _ 2 x2 Q _ _ rfl rfl,step _ _ 3 x3 Q _ _ rfl rfl]
 cases x0<;>cases x1<;>cases x2<;>cases x3<;>rfl
attribute [local go_sem] yea
section
variable {b:Nat} {m:Pg.Mp} {f:Nat->Bool}
theorem ya8 (w:O) (h:jD w b m f):
 Calls N 66 #[ks (Y ⟨b,0,S⟩)] w fun e w'=>e=Z (C (Pg.yjW f))/\w'=w:=by
 have c0:=h.cw 0 (by omega);have c1:=h.cw 1 (by omega);have c2:=h.cw 2 (by omega);have c3:=h.cw 3 (by omega);simp only[yX,Nat.reduceAdd]at c0 c1 c2 c3;unfold Pg.yjW;generalize f 0=x0 at*;generalize f 1=x1 at*;generalize f 2=x2 at*;generalize f 3=x3 at*;clear h
 go_enter Tryz.func66,Tryz.ntmps66
 go_wp2_with fail
 go_ret
 exact⟨rfl,rfl⟩
theorem yab (k:Int) (w:O) (h:jD w b m f):
 Calls N 68 #[ks (Y ⟨b,0,S⟩),J I k] w fun e w'=>e=Z (C (Pg.yio f k))/\w'=w:=by
 by_cases h0:0<=k
 ·obtain⟨n,rfl⟩:=Int.eq_ofNat_of_zero_le h0
  by_cases h4:n<4
  ·have c:=h.cw n h4
   have HH:Hid (Pg.yio f (n:Int)=f n):=by simp[Hid,Pg.yio];omega
   have i0:(0:Int)<=(n:Int):=by omega
   have i1:(n:Int)<4:=by omega
   have i2:¬(4:Int)<=(n:Int):=by omega
   have i3:¬(n:Int)<0:=by omega
   rw[HH.out];generalize f n=x at*;clear h HH
   go_enter Tryz.func68,Tryz.ntmps68
   go_wp2_with fail
   go_ret
   exact⟨rfl,rfl⟩
  ·have HH:Hid (Pg.yio f (n:Int)=Q):=by simp[Hid,Pg.yio];omega
   have i0:(0:Int)<=(n:Int):=by omega
   have i1:¬(n:Int)<4:=by omega
   rw[HH.out];clear h HH
   go_enter Tryz.func68,Tryz.ntmps68
   go_wp2_with fail
   go_ret
   exact⟨rfl,rfl⟩
 ·have HH:Hid (Pg.yio f k=Q):=by simp[Hid,Pg.yio];omega
  rw[HH.out];clear h HH
  go_enter Tryz.func68,Tryz.ntmps68
  go_wp2_with fail
  go_ret
  exact⟨rfl,rfl⟩
theorem yfP (k:Int) (w:O) (h:jD w b m f) (hk:Pg.yio f k=Q):
 Calls N 147 #[ks (Y ⟨b,0,S⟩),J I k] w fun e w'=>e=Z (yY #[Pg.Mp.zz.val,C Q])/\Below w.heap.size w w':=by
 have HW:=yab k _ (h.grow (zA (zR w) (kO #[J I 0,J I 0,J I 0,J I 0] 39)));rw[hk]at HW;clear h
 go_enter Tryz.func147,Tryz.ntmps147
 go_wp2_with (go_at_call 68;refine HW.mono ?_;rintro e w' ⟨rfl,hw⟩;subst w')
 refine bodyPost_ret (v:=yY #[Pg.Mp.zz.val,C Q]) ?_ rfl ⟨rfl,?_⟩
 ·simp[results,Tryz.results147,go_sem,Pg.Mp.val,Pg.Mp.zz]
 ·exact zA (zR w) _
theorem ye4 (k:Nat) (w:O) (h:jD w b m f) (hk:k<4) (hf:f k=E):
 Calls N 147 #[ks (Y ⟨b,0,S⟩),J I (k:Int)] w fun e w'=>e=Z (yY #[m.val,C E])/\jD w' b m (Pg.yly k f)/\But (fun j=>j=b) w w':=by
 obtain⟨W,hW⟩:∃W,W=w.alloc (kO #[J I 0,J I 0,J I 0,J I 0] 39):=⟨_,rfl⟩
 have hB:Below w.heap.size w W:=by rw[hW];exact zA (zR w) _
 have hh:=h.grow hB;have HW:=yab (k:Int) _ hh
 have e1:Pg.yio f (k:Int)=E:=by simp[Pg.yio,hf];omega
 rw[e1]at HW;have wC:=hh.fz (4+k);have rY:=hh.lb;have sH:=hh.cw k hk;have HS:Hid _:=hh.set hk Q;have hx:=HS.out.cm
 have i0:(0:Int)<=(k:Int):=by omega
 have i1:(k:Int)<4:=by omega
 have i2:¬(4:Int)<=(k:Int):=by omega
 have i3:¬(k:Int)<0:=by omega
 have Ho:¬b=w.heap.size:=by have:=h.lb;omega
 obtain⟨mp,ms,mf,mr⟩:=m;obtain⟨x0,x1,x2,x3⟩:=hx;simp only[yO]at x0 x1 x2 x3;have HB:Hid _:=hB;have HL:Hid _:=h.lb;clear h hh hB e1
 have y:∀o,(W.setCell ⟨b,4+k,S⟩ (C Q)).frozen? ⟨w.heap.size,o,S⟩=Q:=fun o=>by simp[hW,go_sem]
 have y0:(W.setCell ⟨b,4+k,S⟩ (C Q)).cell? ⟨w.heap.size,0,S⟩=Y (J I 0):=by rw[V _ _ _ _ (fun e=>Ho (by injection e))];simp[hW,go_sem]
 have y1:(W.setCell ⟨b,4+k,S⟩ (C Q)).cell? ⟨w.heap.size,1,S⟩=Y (J I 0):=by rw[V _ _ _ _ (fun e=>Ho (by injection e))];simp[hW,go_sem]
 have y2:(W.setCell ⟨b,4+k,S⟩ (C Q)).cell? ⟨w.heap.size,2,S⟩=Y (J I 0):=by rw[V _ _ _ _ (fun e=>Ho (by injection e))];simp[hW,go_sem]
 have y3:(W.setCell ⟨b,4+k,S⟩ (C Q)).cell? ⟨w.heap.size,3,S⟩=Y (J I 0):=by rw[V _ _ _ _ (fun e=>Ho (by injection e))];simp[hW,go_sem]
 have fin:Hid (∀v0 v1 v2 v3,jD (((((W.setCell ⟨b,4+k,S⟩ (C Q)).setCell ⟨w.heap.size,0,S⟩ v0).setCell ⟨w.heap.size,1,S⟩ v1).setCell ⟨w.heap.size,2,S⟩ v2).setCell ⟨w.heap.size,3,S⟩ v3) b ⟨mp,ms,mf,mr⟩ (Pg.yly k f)/\But (fun j=>j=b) w (((((W.setCell ⟨b,4+k,S⟩ (C Q)).setCell ⟨w.heap.size,0,S⟩ v0).setCell ⟨w.heap.size,1,S⟩ v1).setCell ⟨w.heap.size,2,S⟩ v2).setCell ⟨w.heap.size,3,S⟩ v3)):=by
  intro v0 v1 v2 v3;refine⟨HS.out.keep (G:=fun j=>j=w.heap.size) (But.set4 (F:=fun j=>j=w.heap.size) (But.refl _ _) w.heap.size (.inr rfl) v0 v1 v2 v3) Ho,?_⟩;have h1:But (fun j=>j=b) w (W.setCell ⟨b,4+k,S⟩ (C Q)):=But.setCell (F:=fun j=>j=b) (But.yhp HB.out) (a:=⟨b,4+k,S⟩) (.inr rfl) _;exact h1.set4 w.heap.size (.inl (yC _)) v0 v1 v2 v3
 go_enter Tryz.func147,Tryz.ntmps147
 go_wp2_with fail
 rw[<-hW];refine HW.mono ?_;rintro e w' ⟨rfl,hw⟩;subst w';clear hW HW
 go_wp2_with fail
 refine bodyPost_ret (v:=yY #[ua #[J I mp,J I ms,J I mf,J I mr],C E]) ?_ rfl ⟨rfl,fin.out _ _ _ _⟩;simp[results,Tryz.results147,go_sem,y0,y1,y2,y3]
theorem yec (x:Pg.Mp) (n:Nat) (w:O) (h:jD w b m f) (ho:Pg.yjW f=E) (h1:1<=n) (h4:n<=4):
 Calls N 138 #[ks (Y ⟨b,0,S⟩),x.val,J I (n:Int)] w fun e w'=>e=Z (C E)/\jD w' b x (Pg.yji n f)/\But (fun j=>j=b) w w':=by
 obtain⟨W,hW⟩:∃W,W=w.alloc (kO #[J I x.p,J I x.s,J I x.f,J I x.r] 39):=⟨_,rfl⟩
 have hB:Below w.heap.size w W:=by rw[hW];exact zA (zR w) _
 have hh:=h.grow hB;have HO:=ya8 _ hh;rw[ho]at HO;have HS:Hid _:=hh.told x;have Ht:Hid (But (fun j=>j=b) w ((((W.setCell ⟨b,0,S⟩ (J I x.p)).setCell ⟨b,1,S⟩ (J I x.s)).setCell ⟨b,2,S⟩ (J I x.f)).setCell ⟨b,3,S⟩ (J I x.r))):=But.set4 (F:=fun j=>j=b) (But.yhp hB) b (.inr rfl) _ _ _ _;obtain⟨c0,c1,c2,c3⟩:=hh.cm;have z0:=hh.fz 0;have z1:=hh.fz 1;have z2:=hh.fz 2;have z3:=hh.fz 3;simp only[yO]at c1 c2 c3;have rY:=hh.lb
 have Ho:¬b=w.heap.size:=by have:=h.lb;omega
 have y0:W.cell? ⟨w.heap.size,0,S⟩=Y (J I x.p):=by simp[hW,go_sem]
 have y1:W.cell? ⟨w.heap.size,1,S⟩=Y (J I x.s):=by simp[hW,go_sem]
 have y2:W.cell? ⟨w.heap.size,2,S⟩=Y (J I x.f):=by simp[hW,go_sem]
 have y3:W.cell? ⟨w.heap.size,3,S⟩=Y (J I x.r):=by simp[hW,go_sem]
 have i1:¬(n:Int)<1:=by omega
 have i4:¬(4:Int)<(n:Int):=by omega
 clear h hh hB ho;obtain⟨xp,xs,xf,xr⟩:=x;simp only[Pg.Mp.val]at*
 go_enter Tryz.func138,Tryz.ntmps138
 go_wp2_with fail
 rw[<-hW];refine HO.mono ?_;rintro e w' ⟨rfl,hw⟩;subst w';clear hW HO
 go_wp2_with fail
 go_loopw [7,24] (fun _ i wr=>∃j:Nat,j<=n/\i=J I j/\Hid (jD wr b ⟨xp,xs,xf,xr⟩ (Pg.yji j f)/\But (fun j=>j=b) w wr)) (fun _ i _=>n-(intOf i).toNat)
 case atStart=>exact⟨0,by omega,rfl,ydp HS.out fun k _=>by simp[Pg.yji],Ht.out⟩
 case round=>
  obtain⟨j,hj,rfl,HR⟩:=hrel;clear HS Ht c0 c1 c2 c3 z0 z1 z2 z3 y0 y1 y2 y3
  by_cases Hf:j<n
  ·have fz:=HR.out.1.fz (4+j)
   have hc:=HR.out.1.cw j (by omega);have Ll:=HR.out.1.lb
   have j0:(0:Int)<=(j:Int):=by omega
   have j1:(j:Int)<(n:Int):=by omega
   have j4:(j:Int)<4:=by omega
   have j2:¬(4:Int)<=(j:Int):=by omega
   have j3:¬(j:Int)<0:=by omega
   have fin:Hid (jD (wr.setCell ⟨b,4+j,S⟩ (C E)) b ⟨xp,xs,xf,xr⟩ (Pg.yji (j+1) f)/\But (fun j=>j=b) w (wr.setCell ⟨b,4+j,S⟩ (C E))):=by
    refine⟨ydp (HR.out.1.set (by omega) E) fun k _=> ?_,But.setCell (F:=fun j=>j=b) HR.out.2 (a:=⟨b,4+j,S⟩) (.inr rfl) _⟩
    by_cases e:k=j
    ·simp[Pg.yji,e]
    ·simp only[Pg.yji,e,if_false]
     congr 1
     rw[decide_eq_decide];omega
   go_wp2_with fail
   go_roundw
   case rel=>exact⟨j+1,by omega,by go_num,fin.out⟩
   case measure=>simp[intOf];omega
  ·have j1:¬(j:Int)<(n:Int):=by omega
   have e:j=n:=by omega
   go_wp2_with fail
   go_ret
   subst e;exact⟨rfl,HR.out⟩
end
end Go.Proofs.YtdphiompijbelaaGreat
namespace Go.Proofs.YtdphiompijbelaaGreat
open Go.RowKit
theorem zu (s:Int) (w:O):
 Calls N 123 #[J I s] w fun r w'=>r=Z (J I (Pg.span s))/\w'=w:=by
 by_cases hs:0<=s/\s<=2
 ·obtain⟨s0,s2⟩:=hs
  go_enter Tryz.func123,Tryz.ntmps123
  go_wp2
  go_loop [3,4] (fun n i=>∃(k m:Int),0<=k/\k<=s/\i=J I k/\n=J I m/\0<=m/\m<=64/\Hid (m=Pg.span k)) (fun _ i=>(s-intOf i).toNat)
  case atStart=>exact⟨0,1,by omega,by omega,rfl,rfl,by omega,by omega,rfl⟩
  case round=>
   obtain⟨k,m,k0,k1,rfl,rfl,m0,m1,HM⟩:=hrel
   by_cases Hf:k<s
   ·have H1:Hid (m*8=Pg.span (k+1)):=by
     have:k=0\/k=1:=by omega
     have e:=HM.out
     rcases this with rfl|rfl<;>simp[Hid,Pg.span]at* <;>omega
    go_wp2
    go_round
    case rel=>exact⟨k+1,m*8,by omega,by omega,rfl,rfl,by omega,by have:=Pg.yhH (k+1);have:=H1.out;omega,H1⟩
    case measure=>simp[intOf];omega
   ·go_wp2
    go_ret
    have:k=s:=by omega
    exact⟨by rw[<-this,<-HM.out];rfl,rfl⟩
 ·have H:Hid (Pg.span s=0):=by rcases Pg.yhD s with h|h|h|h<;>simp only[Hid]<;>omega
  by_cases hn:s<0
  ·have hd:decide (s<0)=E:=by simpa using hn
   clear hs
   go_enter Tryz.func123,Tryz.ntmps123
   go_wp2
   go_ret
   exact⟨by rw[H.out];rfl,rfl⟩
  ·have hd:decide (s<0)=Q:=by simpa using hn
   have h3:2<s:=by omega
   have hd2:decide (2<s)=E:=by simpa using h3
   clear hs
   go_enter Tryz.func123,Tryz.ntmps123
   go_wp2
   go_ret
   exact⟨by rw[H.out];rfl,rfl⟩
theorem qW (p s f r:Int) (w:O):
 Calls N 109 #[ua #[J I p,J I s,J I f,J I r]] w fun e w'=>e=Z (J I (Pg.check p s f r))/\Below w.heap.size w w':=by
 have hs:=Pg.yhH s
 by_cases h0:Pg.span s=0
 ·have hb:(Pg.span s==0)=E:=by simpa using h0
  have H:Hid (Pg.span s=0):=h0;clear h0
  go_enter Tryz.func109,Tryz.ntmps109
  go_wp2_with (go_at_call 123;refine(zu _ _).mono ?_;rintro e w' ⟨rfl,rfl⟩)
  go_ret
  exact⟨by rw[Pg.yjL H.out];rfl,zA (zR _) _⟩
 ·have hb:(Pg.span s==0)=Q:=by simpa using h0
  have H:Hid (Pg.span s≠0):=h0
  have h1:1<=Pg.span s:=by omega
  clear h0
  by_cases hr:(!Pg.below p 4096|| !Pg.below f 1048576|| !Pg.below r 8)=E
  ·have HR:Hid (Pg.check p s f r=1):=Pg.yil H.out hr
   have hc:(p<0)\/(0<=p/\4096<=p)\/(0<=p/\p<4096/\f<0)\/(0<=p/\p<4096/\0<=f/\1048576<=f)\/(0<=p/\p<4096/\0<=f/\f<1048576/\r<0)\/(0<=p/\p<4096/\0<=f/\f<1048576/\0<=r/\8<=r):=by
    simp[Pg.below]at hr;omega
   clear hr;rcases hc with a|⟨a,b⟩|⟨a,b,c⟩|⟨a,b,c,d⟩|⟨a,b,c,d,e⟩|⟨a,b,c,d,e,g⟩
   all_goals
    go_enter Tryz.func109,Tryz.ntmps109
    go_wp2_with (go_at_call 123;refine(zu _ _).mono ?_;rintro e w' ⟨rfl,rfl⟩)
    go_ret
    exact⟨by rw[HR.out];rfl,zA (zR _) _⟩
  ·have b1:Pg.below p 4096=E:=by cases h:Pg.below p 4096<;>simp_all
   have b2:Pg.below f 1048576=E:=by cases h:Pg.below f 1048576<;>simp_all
   have b3:Pg.below r 8=E:=by cases h:Pg.below r 8<;>simp_all
   have HA:Hid (Pg.check p s f r=if p%Pg.span s=0/\f%Pg.span s=0 then 0 else 3):=Pg.yh1 H.out b1 b2 b3;obtain⟨p0,p1⟩:=Pg.zB.1 b1;obtain⟨f0,f1⟩:=Pg.zB.1 b2;obtain⟨r0,r1⟩:=Pg.zB.1 b3;clear hr b1 b2 b3;rcases Pg.yhD s with ⟨rfl,hv⟩|⟨rfl,hv⟩|⟨rfl,hv⟩|⟨_,_,_,hv⟩
   ·have HA:Hid (Pg.check p 0 f r=0):=by have:=HA.out;simp only[hv,Int.emod_one,and_self,if_true]at this;exact this
    go_enter Tryz.func109,Tryz.ntmps109
    go_wp2_with (go_at_call 123;refine(zu _ _).mono ?_;rintro e w' ⟨rfl,rfl⟩)
    go_quiet (fail)
    go_wp2
    go_ret
    exact⟨by rw[HA.out];rfl,below_drewN (zA (zR _) _) _⟩
   ·by_cases d1:p%8=0
    ·have e1:(p/8*8 !=p)=Q:=by rw[bne_eq_false_iff_eq];omega
     by_cases d2:f%8=0
     ·have HA:Hid (Pg.check p 1 f r=0):=by have:=HA.out;simp only[hv,d1,d2,and_self,if_true]at this;exact this
      have e2:(f/8*8 !=f)=Q:=by rw[bne_eq_false_iff_eq];omega
      clear d1 d2
      go_enter Tryz.func109,Tryz.ntmps109
      go_wp2_with (go_at_call 123;refine(zu _ _).mono ?_;rintro e w' ⟨rfl,rfl⟩)
      go_quiet (fail)
      go_wp2
      go_ret
      exact⟨by rw[HA.out];rfl,below_drewN (zA (zR _) _) _⟩
     ·have HA:Hid (Pg.check p 1 f r=3):=by have:=HA.out;simp only[hv,d1,d2,and_false,if_false]at this;exact this
      have e2:(f/8*8 !=f)=E:=by rw[bne_iff_ne];omega
      clear d1 d2
      go_enter Tryz.func109,Tryz.ntmps109
      go_wp2_with (go_at_call 123;refine(zu _ _).mono ?_;rintro e w' ⟨rfl,rfl⟩)
      go_quiet (fail)
      go_wp2
      go_ret
      exact⟨by rw[HA.out];rfl,below_drewN (zA (zR _) _) _⟩
    ·have HA:Hid (Pg.check p 1 f r=3):=by have:=HA.out;simp only[hv,d1,false_and,if_false]at this;exact this
     have e1:(p/8*8 !=p)=E:=by rw[bne_iff_ne];omega
     clear d1
     go_enter Tryz.func109,Tryz.ntmps109
     go_wp2_with (go_at_call 123;refine(zu _ _).mono ?_;rintro e w' ⟨rfl,rfl⟩)
     go_quiet (fail)
     go_wp2
     go_ret
     exact⟨by rw[HA.out];rfl,below_drewN (zA (zR _) _) _⟩
   ·by_cases d1:p%64=0
    ·have e1:(p/64*64 !=p)=Q:=by rw[bne_eq_false_iff_eq];omega
     by_cases d2:f%64=0
     ·have HA:Hid (Pg.check p 2 f r=0):=by have:=HA.out;simp only[hv,d1,d2,and_self,if_true]at this;exact this
      have e2:(f/64*64 !=f)=Q:=by rw[bne_eq_false_iff_eq];omega
      clear d1 d2
      go_enter Tryz.func109,Tryz.ntmps109
      go_wp2_with (go_at_call 123;refine(zu _ _).mono ?_;rintro e w' ⟨rfl,rfl⟩)
      go_quiet (fail)
      go_wp2
      go_ret
      exact⟨by rw[HA.out];rfl,below_drewN (zA (zR _) _) _⟩
     ·have HA:Hid (Pg.check p 2 f r=3):=by have:=HA.out;simp only[hv,d1,d2,and_false,if_false]at this;exact this
      have e2:(f/64*64 !=f)=E:=by rw[bne_iff_ne];omega
      clear d1 d2
      go_enter Tryz.func109,Tryz.ntmps109
      go_wp2_with (go_at_call 123;refine(zu _ _).mono ?_;rintro e w' ⟨rfl,rfl⟩)
      go_quiet (fail)
      go_wp2
      go_ret
      exact⟨by rw[HA.out];rfl,below_drewN (zA (zR _) _) _⟩
    ·have HA:Hid (Pg.check p 2 f r=3):=by have:=HA.out;simp only[hv,d1,false_and,if_false]at this;exact this
     have e1:(p/64*64 !=p)=E:=by rw[bne_iff_ne];omega
     clear d1
     go_enter Tryz.func109,Tryz.ntmps109
     go_wp2_with (go_at_call 123;refine(zu _ _).mono ?_;rintro e w' ⟨rfl,rfl⟩)
     go_quiet (fail)
     go_wp2
     go_ret
     exact⟨by rw[HA.out];rfl,below_drewN (zA (zR _) _) _⟩
   ·exact absurd hv H.out
theorem qA (p s f r q:Int) (hp:Pg.fits p) (hq:Pg.fits q) (w:O):
 Calls N 132 #[ua #[J I p,J I s,J I f,J I r],J I q] w fun e w'=>e=Z (C (Pg.over p s q))/\Below w.heap.size w w':=by
 have hs:=Pg.yhH s;unfold Pg.fits at hp hq
 by_cases h:q<p
 ·have HM:Hid (Pg.over p s q=Q):=by simp[Hid,Pg.over];omega
  go_enter Tryz.func132,Tryz.ntmps132
  go_wp2_with (go_at_call 123;refine(zu _ _).mono ?_;rintro e w' ⟨rfl,rfl⟩)
  go_ret
  exact⟨by rw[HM.out];rfl,zA (zR _) _⟩
 ·go_enter Tryz.func132,Tryz.ntmps132
  go_wp2_with (go_at_call 123;refine(zu _ _).mono ?_;rintro e w' ⟨rfl,rfl⟩)
  go_loop [1,6] (fun a i=>∃k:Int,0<=k/\k<=Pg.span s/\k<=q-p/\i=J I k/\a=J I (q-k)) (fun _ i=>(Pg.span s-intOf i).toNat)
  case atStart=>exact⟨0,by omega,by omega,by omega,rfl,by simp⟩
  case round=>
   obtain⟨k,k0,k1,k2,rfl,rfl⟩:=hrel
   by_cases Hf:k<Pg.span s
   ·by_cases he:q-k=p
    ·have hb:(q-k==p)=E:=by simpa using he
     have HM:Hid (Pg.over p s q=E):=by simp[Hid,Pg.over];omega
     clear he
     go_wp2
     go_ret
     exact⟨by rw[HM.out];rfl,zA (zR _) _⟩
    ·have hb:(q-k==p)=Q:=by simpa using he
     have hm:(q-k== -9223372036854775808)=Q:=by simp;omega
     go_wp2
     go_round
     case rel=>exact⟨k+1,by omega,by omega,by omega,rfl,by congr 1;omega⟩
     case measure=>simp[intOf];omega
   ·have HM:Hid (Pg.over p s q=Q):=by simp[Hid,Pg.over];omega
    go_wp2
    go_ret
    exact⟨by rw[HM.out];rfl,zA (zR _) _⟩
theorem ydj (p s f r p' s' f' r':Int) (hp:Pg.fits p) (hq:Pg.fits p') (w:O):
 Calls N 128 #[ua #[J I p,J I s,J I f,J I r],ua #[J I p',J I s',J I f',J I r']] w fun e w'=>e=Z (C (Pg.meet p s p' s'))/\Below w.heap.size w w':=by
 cases h:Pg.over p s p'
 ·have HM:Hid (Pg.meet p s p' s'=Pg.over p' s' p):=by simp[Hid,Pg.meet,h]
  go_enter Tryz.func128,Tryz.ntmps128
  go_wp2_with fail
  refine(qA _ _ _ _ _ hp hq _).mono ?_;rintro e w1 ⟨rfl,Ha⟩;obtain⟨rO,pY⟩:=xW Ha
  go_wp2_with fail
  refine(qA _ _ _ _ _ hq hp _).mono ?_;rintro e w2 ⟨rfl,Hd⟩
  go_wp2_with fail
  go_ret
  exact⟨by rw[HM.out];rfl,zT (zT (zA (zA (zR _) _) _) Ha) Hd⟩
 ·have HM:Hid (Pg.meet p s p' s'=E):=by simp[Hid,Pg.meet,h]
  go_enter Tryz.func128,Tryz.ntmps128
  go_wp2_with fail
  refine(qA _ _ _ _ _ hp hq _).mono ?_;rintro e w1 ⟨rfl,Ha⟩;obtain⟨rO,pY⟩:=xW Ha
  go_wp2_with fail
  go_ret
  exact⟨by rw[HM.out];rfl,zT (zA (zA (zR _) _) _) Ha⟩
theorem vw (r p k:Int) (u:Bool) (w:O):
 Calls N 107 #[J I r,ua #[J I p,J I k,C u]] w fun e w'=>e=Z (C (Pg.may r k u))/\Below w.heap.size w w':=by
 have t1:bits .and I r 1=((Pg.r8 r&&&1:Nat):Int):=Pg.yiN r 1 (by decide);have t2:bits .and I r 2=((Pg.r8 r&&&2:Nat):Int):=Pg.yiN r 2 (by decide);have t4:bits .and I r 4=((Pg.r8 r&&&4:Nat):Int):=Pg.yiN r 4 (by decide);have hl:=Pg.r8_lt r;have hm:Pg.may r k u=((Pg.r8 r&&&Pg.asks k u)==Pg.asks k u):=rfl;generalize Pg.r8 r=x at*;have HM:Hid _:=hm;clear hm
 by_cases k1:k=1
 ·have q1:(k==1)=E:=by simpa using k1
  have q2:(k==2)=Q:=by simp;omega
  have ha:Hid (Pg.asks k u=if u=E then 3 else 1):=by subst k1;cases u<;>rfl
  clear k1
  have hx:x=0\/x=1\/x=2\/x=3\/x=4\/x=5\/x=6\/x=7:=by omega
  rcases hx with rfl|rfl|rfl|rfl|rfl|rfl|rfl|rfl<;>cases u
  all_goals
   go_enter Tryz.func107,Tryz.ntmps107
   go_wp2
   go_ret
   exact⟨by rw[HM.out,ha.out];rfl,zA (zR _) _⟩
 ·have q1:(k==1)=Q:=by simpa using k1
  have hx:x=0\/x=1\/x=2\/x=3\/x=4\/x=5\/x=6\/x=7:=by omega
  by_cases k2:k=2
  ·have q2:(k==2)=E:=by simpa using k2
   have ha:Hid (Pg.asks k u=if u=E then 6 else 4):=by subst k2;cases u<;>rfl
   clear k1 k2
   rcases hx with rfl|rfl|rfl|rfl|rfl|rfl|rfl|rfl<;>cases u
   all_goals
    go_enter Tryz.func107,Tryz.ntmps107
    go_wp2
    go_ret
    exact⟨by rw[HM.out,ha.out];rfl,zA (zR _) _⟩
  ·have q2:(k==2)=Q:=by simpa using k2
   have ha:Hid (Pg.asks k u=if u=E then 2 else 0):=by cases u<;>simp[Hid,Pg.asks,k1,k2]
   clear k1 k2
   rcases hx with rfl|rfl|rfl|rfl|rfl|rfl|rfl|rfl<;>cases u
   all_goals
    go_enter Tryz.func107,Tryz.ntmps107
    go_wp2
    go_ret
    exact⟨by rw[HM.out,ha.out];rfl,zA (zR _) _⟩
theorem xj (p k:Int) (u:Bool) (w:O):
 Calls N 43 #[ua #[J I p,J I k,C u]] w fun e w'=>e=Z (J I (Pg.zK p k))/\Below w.heap.size w w':=by
 by_cases h2:0<=p/\p<4096
 ·have HB:Hid (Pg.below p 4096=E):=Pg.zB.2 h2
  obtain⟨p0,p1⟩:=h2
  by_cases hk:k=0\/k=1\/k=2
  ·have HK:Hid (Pg.isKind k=E):=by simp[Hid,Pg.isKind];omega
   rcases hk with rfl|rfl|rfl
   all_goals
    go_enter Tryz.func43,Tryz.ntmps43
    go_wp2
    go_ret
    exact⟨by simp[Pg.zK,HK.out,HB.out],zA (zR _) _⟩
  ·have HK:Hid (Pg.isKind k=Q):=by simp[Hid,Pg.isKind];omega
   have e0:(k !=0)=E:=by rw[bne_iff_ne];omega
   have e1:(k !=1)=E:=by rw[bne_iff_ne];omega
   have e2:(k !=2)=E:=by rw[bne_iff_ne];omega
   clear hk
   go_enter Tryz.func43,Tryz.ntmps43
   go_wp2
   go_ret
   exact⟨by simp[Pg.zK,HK.out],zA (zR _) _⟩
 ·have HB:Hid (Pg.below p 4096=Q):=by simp[Hid,Pg.below];omega
  by_cases hk:k=0\/k=1\/k=2
  ·have HK:Hid (Pg.isKind k=E):=by simp[Hid,Pg.isKind];omega
   have hp:p<0\/(0<=p/\4096<=p):=by omega
   clear h2
   rcases hk with rfl|rfl|rfl<;>rcases hp with a|⟨a,b⟩
   all_goals
    go_enter Tryz.func43,Tryz.ntmps43
    go_wp2
    go_ret
    exact⟨by simp[Pg.zK,HK.out,HB.out],zA (zR _) _⟩
  ·have HK:Hid (Pg.isKind k=Q):=by simp[Hid,Pg.isKind];omega
   have e0:(k !=0)=E:=by rw[bne_iff_ne];omega
   have e1:(k !=1)=E:=by rw[bne_iff_ne];omega
   have e2:(k !=2)=E:=by rw[bne_iff_ne];omega
   clear hk h2
   go_enter Tryz.func43,Tryz.ntmps43
   go_wp2
   go_ret
   exact⟨by simp[Pg.zK,HK.out],zA (zR _) _⟩
theorem ybe (p s f r q k:Int) (u:Bool) (w:O):
 Calls N 84 #[ua #[J I p,J I s,J I f,J I r],ua #[J I q,J I k,C u]] w fun e w'=>
  e=Z (if Pg.may r k u=E then ua #[J I 0,J I (wrap64 (f+wrap64 (q-p))),J I r]else ua #[J I 2,J I 0,J I 0])/\Below w.heap.size w w':=by
 cases h:Pg.may r k u
 ·go_enter Tryz.func84,Tryz.ntmps84
  go_wp2_with fail
  refine(vw _ _ _ _ _).mono ?_;rintro e w1 ⟨rfl,Ha⟩;obtain⟨rO,pY⟩:=xW Ha
  have hz:w.heap.size+2<w1.heap.size:=by have:=Ha.size;simp at this;omega
  go_wp2_with fail
  refine bodyPost_ret (v:=ua #[J I 2,J I 0,J I 0]) ?_ rfl ⟨by simp,?_⟩
  ·simp[results,Tryz.results84,go_sem,rO]
  ·exact(((zT (zA (zA (zA (zR _) _) _) _) Ha).setCell (by simp;omega) _).setCell (by simp;omega) _).setCell (by simp;omega) _
 ·go_enter Tryz.func84,Tryz.ntmps84
  go_wp2_with fail
  refine(vw _ _ _ _ _).mono ?_;rintro e w1 ⟨rfl,Ha⟩;obtain⟨rO,pY⟩:=xW Ha
  have hz:w.heap.size+2<w1.heap.size:=by have:=Ha.size;simp at this;omega
  go_wp2_with fail
  refine bodyPost_ret (v:=ua #[J I 0,J I (wrap64 (f+wrap64 (q-p))),J I r]) ?_ rfl ⟨by simp,?_⟩
  ·simp[results,Tryz.results84,go_sem,rO]
  ·exact(((zT (zA (zA (zA (zR _) _) _) _) Ha).setCell (by simp;omega) _).setCell (by simp;omega) _).setCell (by simp;omega) _
theorem qR (p s f r q k:Int) (u:Bool) (w:O):
 Calls N 84 #[ua #[J I p,J I s,J I f,J I r],ua #[J I q,J I k,C u]] w fun e w'=>
  e=Z (ua #[J I (Pg.aEnd r k u),J I (Pg.yhY p f r q k u),J I (Pg.yhL r k u)])/\Below w.heap.size w w':=by
 refine(ybe p s f r q k u w).mono ?_;rintro e w' ⟨rfl,hb⟩;refine⟨?_,hb⟩;unfold Pg.aEnd Pg.yhY Pg.yhL
 split<;>rfl
theorem zP (p l:Int) (w:O):
 Calls N 104 #[J I p,J I l] w fun e w'=>e=Z (J I (Pg.index p l))/\Below w.heap.size w w':=by
 by_cases h:(0<=p/\p<4096)/\0<=l/\l<4
 ·obtain⟨⟨p0,p1⟩,l0,l1⟩:=h
  have hl:l=0\/l=1\/l=2\/l=3:=by omega
  obtain⟨i0,i1,i2,i3⟩:=Pg.index_at p0 p1;have I0:Hid _:=i0;have I1:Hid _:=i1;have I2:Hid _:=i2;have I3:Hid _:=i3;clear i0 i1 i2 i3;rcases hl with rfl|rfl|rfl|rfl
  ·go_enter Tryz.func104,Tryz.ntmps104
   go_wp2
   go_ret
   exact⟨by rw[I0.out];rfl,zA (zR _) _⟩
  ·go_enter Tryz.func104,Tryz.ntmps104
   go_wp2
   go_ret
   exact⟨by rw[I1.out];rfl,zA (zR _) _⟩
  ·go_enter Tryz.func104,Tryz.ntmps104
   go_wp2
   go_ret
   exact⟨by rw[I2.out];rfl,zA (zR _) _⟩
  ·go_enter Tryz.func104,Tryz.ntmps104
   go_wp2
   go_ret
   exact⟨by rw[I3.out];rfl,zA (zR _) _⟩
 ·have HI:Hid (Pg.index p l= -1):=by
   have:(Pg.below p 4096&&Pg.below l 4)=Q:=by
    cases h1:Pg.below p 4096
    ·rfl
    ·cases h2:Pg.below l 4
     ·rfl
     ·exact absurd ⟨Pg.zB.1 h1,Pg.zB.1 h2⟩ h
   simp[Hid,Pg.index,this]
  have hc:p<0\/(0<=p/\4096<=p)\/(0<=p/\p<4096/\l<0)\/(0<=p/\p<4096/\0<=l/\4<=l):=by omega
  clear h;rcases hc with a|⟨a,b⟩|⟨a,b,c⟩|⟨a,b,c,d⟩
  all_goals
   go_enter Tryz.func104,Tryz.ntmps104
   go_wp2
   go_ret
   exact⟨by rw[HI.out];rfl,zR _⟩
end Go.Proofs.YtdphiompijbelaaGreat
