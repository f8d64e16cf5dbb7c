import Derived.Deep.Quiet
import Derived.StillTail
import Derived.Below
import Derived.Lib.QuietBelow
import Derived.KernelRfl
open Nat renaming lt_or_ge->A,min_eq_left->kh,le_refl->ur,zero_add->yR
open Array renaming getElem?_eq_some_iff->E,replicate->L,getElem_append->q,getElem?_eq_none->ua,all_eq_true'->yI,ext->yQ
open List renaming mem_range->T,all_eq_true->V,pairwise_cons->U,length_take->O,range'->H,exists_cons_of_ne_nil->W,range_eq_range'->kO,getElem?_take->kp,mem_cons->uv,length_erase_of_mem->ud,length_eq_zero_iff->uc,filter_eq_self->ue,append_nil->yB,getElem?_eq_none->yP,erase_cons_tail->yS,getElem?_drop->yC,length_cons->yN,length_drop->yY,range_succ->yT,drop_zero->yF
open Option renaming some->S,none->yV
open Go renaming World->B,Value->un,Calls->yZ
open Bool renaming true->J,false->Z,and_eq_true->z,or_eq_true->ki,false_ne_true->yJ
namespace Go.Proofs.YtdphiompijbelaaGreat.Loose
open Go.RowKit Go.Sort
def G (w w':B):Prop:=Below w.heap.size w w'
theorem G.rfl {w:B}:G w w:=Below.refl _ _
theorem G.trans {a b c:B} (h:G a b) (k:G b c):G a c:=Below.trans h (Below.mono k h.size)
section
variable {P:Program} {ops:Array Oper} {w0:B} {n N:Nat} {R:Nat->un->B->Prop} {Fin:Act->B->Prop}
def Yl (P:Program) (ops:Array Oper) (w0:B) (o:Oper) (a:Act) (v:un):Prop:=
 (Region.wanted o (yielded ops a.tmps)=J/\∀w,G w0 w->o.quietAt P a (G w) w v)\/
 (Region.wanted o (yielded ops a.tmps)=Z/\v=undef)
theorem Yl.put {o x:Oper} {a:Act} {v:un} (hs:∀cs b,o.op≠ .select cs b) (h:∀d,x.dst=S d->d ∉ o.looksAt ops) (u:un):
 Yl P ops w0 o (a.put x.dst u) v ↔ Yl P ops w0 o a v:=by
 unfold Yl Oper.quietAt;rw[execOp_put o hs a x.dst u h,wanted_put o a x.dst u h]
def yaI (P:Program) (ops:Array Oper) (w0:B) (n:Nat) (R:Nat->un->B->Prop) (Fin:Act->B->Prop):List Nat->Act->(B->Prop)->Prop
 | [],a,I=>∀w,G w0 w->I w->Fin a w
 | i::r,a,I=>∃o,ops[i]?=S o/\
    ((i<n/\∃v,Yl P ops w0 o a v/\yaI P ops w0 n R Fin r (a.put o.dst v) I)\/
     (n<=i/\∀v,yaI P ops w0 n R Fin r (a.put o.dst v) (fun w=>I w/\R i v w)))
theorem yaI.mono:∀{l:List Nat} {a:Act} {I I':B->Prop},(∀w,I' w->I w)->yaI P ops w0 n R Fin l a I->yaI P ops w0 n R Fin l a I'
 | [],_,_,_,hi,h=>fun w hw hI=>h w hw (hi w hI)
 | _::_,_,_,_,hi,⟨o,ho,h⟩=>⟨o,ho,h.imp
    (fun⟨hn,v,hy,hk⟩=>⟨hn,v,hy,yaI.mono hi hk⟩)
    (fun⟨hn,hk⟩=>⟨hn,fun v=>yaI.mono (fun w hw=>⟨hi w hw.1,hw.2⟩) (hk v)⟩)⟩
theorem jg (gq:∀(j:Nat) (o:Oper) cs b,ops[j]?=S o->o.op≠ .select cs b) {j:Nat} {oj:Oper} (hj:ops[j]?=S oj) (MH:j<n):
 ∀{l:List Nat} {a:Act} {I:B->Prop},l.Pairwise (· < ·)->j ∈ l->(∀i oi,i ∈ l->i<j->ops[i]?=S oi->oi.apart ops oj=J)->
  yaI P ops w0 n R Fin l a I->∃v,Yl P ops w0 oj a v/\yaI P ops w0 n R Fin (l.erase j) (a.put oj.dst v) I
 | [],_,_,_,hm,_,_=>by cases hm
 | i::r,a,I,hp,hm,uh,⟨o,ho,h⟩=>by
   by_cases bC:i=j
   ·subst bC
    rw[hj]at ho;cases ho;rcases h with ⟨_,v,hy,hk⟩|⟨hn,_⟩
    ·exact⟨v,hy,by simpa using hk⟩
    ·omega
   ·have Tz:j ∈ r:=by
     rcases uv.1 hm with e|e
     ·exact absurd e.symm bC
     ·exact e
    have Hf:i<j:=(U.1 hp).1 j Tz;have hA:=uh i o (by simp) Hf ho;obtain⟨h1,h2,h3⟩:=Oper.apart_spec hA;rcases h with ⟨dD,v,hy,hk⟩|⟨hn,_⟩
    ·obtain⟨u,hu,bE⟩:=jg gq hj MH (U.1 hp).2 Tz (fun k ok uw=>uh k ok (by simp[uw])) hk
     refine⟨u,(Yl.put (gq j oj · · hj) h1 v).1 hu,?_⟩;rw[yS (by simpa using bC)];refine⟨o,ho,.inl ⟨dD,v,(Yl.put (gq i o · · ho) h3 u).2 hy,?_⟩⟩;rw[<-Act.put_comm a v u h2];exact bE
    ·omega
theorem jf (gq:∀(j:Nat) (o:Oper) cs b,ops[j]?=S o->o.op≠ .select cs b) {j:Nat} {oj:Oper} (hj:ops[j]?=S oj) (MH:n<=j) (u:un):
 ∀{l:List Nat} {a:Act} {I:B->Prop},l.Pairwise (· < ·)->j ∈ l->(∀i oi,i ∈ l->i<j->ops[i]?=S oi->oi.apart ops oj=J)->
  yaI P ops w0 n R Fin l a I->yaI P ops w0 n R Fin (l.erase j) (a.put oj.dst u) (fun w=>I w/\R j u w)
 | [],_,_,_,hm,_,_=>by cases hm
 | i::r,a,I,hp,hm,uh,⟨o,ho,h⟩=>by
   by_cases bC:i=j
   ·subst bC
    rw[hj]at ho;cases ho;rcases h with ⟨hn,_⟩|⟨_,hk⟩
    ·omega
    ·simpa using hk u
   ·have Tz:j ∈ r:=by
     rcases uv.1 hm with e|e
     ·exact absurd e.symm bC
     ·exact e
    have Hf:i<j:=(U.1 hp).1 j Tz;have hA:=uh i o (by simp) Hf ho;obtain⟨h1,h2,h3⟩:=Oper.apart_spec hA;rw[yS (by simpa using bC)];rcases h with ⟨dD,v,hy,hk⟩|⟨hn,hk⟩
    ·refine⟨o,ho,.inl ⟨dD,v,(Yl.put (gq i o · · ho) h3 u).2 hy,?_⟩⟩
     rw[<-Act.put_comm a v u h2];exact jf gq hj MH u (U.1 hp).2 Tz (fun k ok uw=>uh k ok (by simp[uw])) hk
    ·refine⟨o,ho,.inr ⟨hn,fun v=> ?_⟩⟩
     rw[<-Act.put_comm a v u h2];exact yaI.mono (fun w hw=>⟨⟨hw.1.1,hw.2⟩,hw.1.2⟩) (jf gq hj MH u (U.1 hp).2 Tz (fun k ok uw=>uh k ok (by simp[uw])) (hk v))
theorem qI {o:Oper} {a:Act} {C:B->Prop} {w:B} {v:un} {K:Act->B->Prop} {Q:Exit->Act->B->Prop}
 (h:o.quietAt P a C w v) (hw:C w) (hK:∀w',C w'->K (a.put o.dst v) w'):o.wp P a w K Q:=by
 unfold Oper.quietAt at h;unfold Oper.wp;generalize (execOp a.eval o).run P w=r at*
 match r,h with
 | .ok (.value u) w',h=>obtain⟨e,e'⟩:=h;subst e e';exact hK _ hw
 | .ok .skip w',h=>obtain⟨e,e'⟩:=h;subst e e';exact hK _ hw
 | .ok (.enter f args) w',h=>obtain⟨e,hc⟩:=h;subst e;exact hc.mono fun _ _ ⟨he,h'⟩=>by subst he;exact hK _ h'
def yfV (ops:Array Oper) (N:Nat):Bool:=(List.range N).all fun j=>(List.range j).all fun i=>
 Region.waitsFor .any ops j i||(match ops[i]?,ops[j]? with|some oi,S oj=>oi.apart ops oj|_,_=>Z)
def ydt (ops:Array Oper) (N:Nat):Bool:=(List.range N).all fun j=>
 match ops[j]? with|some o=>o.after.all fun e=> !Region.binds .any e||decide (e.on<j)|none=>Z
def ygQ (ops:Array Oper) (N:Nat):Bool:=(List.range ops.size).all fun t=>decide (t<N)||(List.range N).all fun i=>Region.waitsFor .any ops t i
def zD (N m:Nat):Array Bool:=L N J++L m Z
def yb7 (ops:Array Oper) (N:Nat):Bool:=
 decide (N<=ops.size)&&Region.noSelect ops&&yfV ops N&&ydt ops N&&ygQ ops N&&Region.seqB .any ops (ops.size-N) N (zD N (ops.size-N))
def rst (N:Nat) (listed:Array Bool):List Nat:=(List.range N).filter fun i=> !listed.getD i J
theorem zH {N:Nat} {listed:Array Bool} {i:Nat}:i ∈ rst N listed ↔ i<N/\listed.getD i J=Z:=by
 simp[rst]
theorem qa (N:Nat) (listed:Array Bool):(rst N listed).Pairwise (· < ·):=List.Pairwise.filter _ List.pairwise_lt_range
theorem qF {N:Nat} {listed:Array Bool} {i:Nat} (hi:i ∈ rst N listed):rst N (listed.setIfInBounds i J)=(rst N listed).erase i:=by
 have hd:(rst N listed).Nodup:=(qa N listed).imp (fun h=>Nat.ne_of_lt h);rw[hd.erase_eq_filter];unfold rst;rw[List.filter_filter]
 apply List.filter_congr
 intro x hx
 have hs:i<listed.size:=by
  have:=(zH.1 hi).2;rcases A i listed.size with h|h
  ·exact h
  ·simp[Array.getD,Nat.not_lt.2 h]at this
 by_cases wh:x=i
 ·subst wh
  simp[Array.getD,hs]
 ·have:(listed.setIfInBounds i J).getD x J=listed.getD x J:=getD_set_ne J (fun e=>wh e.symm)
  simp[this,wh]
structure Ok (P:Program) (ops:Array Oper) (w0:B) (n N:Nat) (R:Nat->un->B->Prop):Prop where
 size:N<=ops.size
 sel:∀(j:Nat) (o:Oper) cs b,ops[j]?=S o->o.op≠ .select cs b
 pair:∀i j oi oj,i<j->j<N->ops[i]?=S oi->ops[j]?=S oj->(∀e ∈ oj.after,Region.binds .any e=J->e.on≠i)->oi.apart ops oj=J
 back:∀j o,j<N->ops[j]?=S o->∀e ∈ o.after,Region.binds .any e=J->e.on<j
 tail:∀t o,N<=t->ops[t]?=S o->∀i,i<N->∃e ∈ o.after,Region.binds .any e=J/\e.on=i
 seq:Region.seqB .any ops (ops.size-N) N (zD N (ops.size-N))=J
 loose:∀i o,n<=i->i<N->ops[i]?=S o->(∀a:Act,Region.wanted o (yielded ops a.tmps)=J)/\∀(a:Act) w,G w0 w->∃v w',(execOp a.eval o).run P w= .ok (.value v) w'/\G w w'/\R i v w'
 stable:∀i v w w',R i v w->G w w'->R i v w'
theorem ygO (hB:yb7 ops N=J)
 (loose:∀i o,n<=i->i<N->ops[i]?=S o->(∀a:Act,Region.wanted o (yielded ops a.tmps)=J)/\∀(a:Act) w,G w0 w->∃v w',(execOp a.eval o).run P w= .ok (.value v) w'/\G w w'/\R i v w')
 (stable:∀i v w w',R i v w->G w w'->R i v w'):Ok P ops w0 n N R:=by
 simp only[yb7,z,decide_eq_true_eq]at hB;obtain⟨⟨⟨⟨⟨hN,gq⟩,gG⟩,gy⟩,lC⟩,av⟩:=hB;refine⟨hN,fun j o cs b hj=>Region.noSelect_spec gq j o cs b hj,?_,?_,?_,av,loose,stable⟩
 ·intro i j oi oj bC hj hi ut nJ
  simp only[yfV,V,T]at gG;have:=gG j hj i bC;simp only[hi,ut,ki]at this;rcases this with h|h
  ·obtain⟨oj',ho,e,he,hb,Hu⟩:=Region.waitsFor_spec h
   rw[ut]at ho;cases ho;exact absurd Hu (nJ e he hb)
  ·exact h
 ·intro j o hj ho e he hb
  simp only[ydt,V,T]at gy;have:=gy j hj;simp only[ho,yI]at this;have:=this e he
  simpa[hb]using this
 ·intro t o ht ho i hi
  simp only[ygQ,V,T]at lC
  have kU:t<ops.size:=by
   rcases A t ops.size with h|h
   ·exact h
   ·rw[ua h]at ho;cases ho
  have:=lC t kU;simp only[ki,decide_eq_true_eq,V,T]at this;rcases this with h|h
  ·omega
  ·obtain⟨o',pu,e,he,hb,Hu⟩:=Region.waitsFor_spec (h i hi)
   rw[ho]at pu;cases pu;exact⟨e,he,hb,Hu⟩
theorem ycR {Q:Exit->Act->B->Prop} (K:Ok P ops w0 n N R):
 ∀(k:Nat) (listed:Array Bool) (a:Act) (w:B) (I:B->Prop),(rst N listed).length=k->listed.size=ops.size->
  (∀t,N<=t->t<ops.size->listed.getD t J=Z)->(∀w w',I w->G w w'->I w')->G w0 w->I w->
  yaI P ops w0 n R (fun a w=>wpList P ops Q (ops.toList.drop N) a w) (rst N listed) a I->
  wpAny P .any ops Q (k+(ops.size-N)) listed a w:=by
 intro k
 induction k with
 | zero=>
   intro listed a w I hk hs ht hI hw oN h;have hr:rst N listed=[]:=uc.1 hk;rw[hr]at h
   have hl:listed=zD N (ops.size-N):=by
    apply yQ
    ·simp[zD,hs];have:=K.size;omega
    ·intro i h1 h2
     by_cases hi:i<N
     ·have:i ∉ rst N listed:=by rw[hr];simp
      have:listed.getD i J=J:=by
       cases hg:listed.getD i J
       ·exact absurd (zH.2 ⟨hi,hg⟩) this
       ·rfl
      simp only[Array.getD,h1,dite_true]at this;rw[show(zD N (ops.size-N))[i]=J from by simp[zD,hi]];exact this
     ·have:=ht i (by omega) (by omega)
      simp only[Array.getD,h1,dite_true]at this;rw[show(zD N (ops.size-N))[i]=Z from by simp[zD,q,hi]];exact this
   have hf:=h w hw oN
   have Hg:(ops.toList.drop N).length=ops.size-N:=by simp
   have:=wpAny_of_seq (P:=P) (md:= .any) (Q':=Q) (ops.toList.drop N) N listed a w (by intro j;simp) (by rw[Hg,hl];exact K.seq) hf;rw[Hg]at this
   simpa using this
 | succ k ih=>
   intro listed a w I hk hs ht hI hw oN h
   have Ho:rst N listed≠[]:=by intro e;rw[e]at hk;cases hk
   have e:k+1+(ops.size-N)=(k+(ops.size-N))+1:=by omega
   rw[e];refine⟨fun hr=> ?_,fun i hi=> ?_⟩
   ·exfalso
    obtain⟨i0,r,nA⟩:=W Ho
    have hm:i0 ∈ rst N listed:=by rw[nA];simp
    obtain⟨iL,uH⟩:=zH.1 hm
    have Hf:i0<ops.size:=by have:=K.size;omega
    have:i0 ∈ Region.ready .any ops listed:=by
     refine mem_ready.2 ⟨uH,ops[i0],by simp[Hf],fun e he hb=> ?_⟩;have Hu:=K.back i0 ops[i0] iL (by simp[Hf]) e he hb
     have:e.on ∉ rst N listed:=by
      rw[nA];intro iW;rcases uv.1 iW with h|h
      ·omega
      ·have hp:=qa N listed
       rw[nA]at hp;have:=(U.1 hp).1 _ h;omega
     have h1:listed.getD e.on J=J:=by
      cases hg:listed.getD e.on J
      ·exact absurd (zH.2 ⟨by omega,hg⟩) this
      ·rfl
     have fJ:e.on<listed.size:=by omega
     simp only[Array.getD,fJ,dite_true]at h1 ⊢;exact h1
    rw[hr]at this;cases this
   ·obtain⟨hu,o,ho,rF⟩:=mem_ready.1 hi
    have uq:i<N:=by
     rcases A i N with h'|h'
     ·exact h'
     ·exfalso
      obtain⟨i0,r,nA⟩:=W Ho
      have hm:i0 ∈ rst N listed:=by rw[nA];simp
      obtain⟨iL,uH⟩:=zH.1 hm;obtain⟨e,he,hb,Hu⟩:=K.tail i o h' ho i0 iL;have h1:=rF e he hb;rw[Hu]at h1
      have fJ:i0<listed.size:=by have:=K.size;omega
      simp only[Array.getD,fJ,dite_true]at h1 uH;rw[uH]at h1;cases h1
    have ny:i ∈ rst N listed:=zH.2 ⟨uq,hu⟩
    have dR:∀i' oi',i' ∈ rst N listed->i'<i->ops[i']?=S oi'->oi'.apart ops o=J:=by
     intro i' oi' kQ Hf pu;refine K.pair i' i oi' o Hf uq pu ho (fun e he hb Hu=> ?_);have h1:=rF e he hb;have h2:=(zH.1 kQ).2;rw[Hu]at h1
     have fJ:i'<listed.size:=by have:=K.size;omega
     simp only[Array.getD,fJ,dite_true]at h1 h2;rw[h2]at h1;cases h1
    have Hg:(rst N (listed.setIfInBounds i J)).length=k:=by
     rw[qF ny,ud ny,hk];rfl
    have sN:(listed.setIfInBounds i J).size=ops.size:=by simpa using hs
    have mU:∀t,N<=t->t<ops.size->(listed.setIfInBounds i J).getD t J=Z:=by
     intro t h1 h2;rw[getD_set_ne J (by omega:¬i=t)];exact ht t h1 h2
    unfold wpOp;simp only[ho]
    by_cases dD:i<n
    ·obtain⟨v,hy,hL⟩:=jg K.sel ho dD (qa N listed) ny dR h
     rw[<-qF ny]at hL;rcases hy with ⟨pX,hq⟩|⟨pX,rfl⟩
     ·rw[if_pos pX]
      left;exact qI (hq w hw) G.rfl (fun w' hg=>ih _ _ w' I Hg sN mU hI (hw.trans hg) (hI _ _ oN hg) hL)
     ·rw[if_neg (by rw[pX];exact yJ)]
      exact ih _ _ w I Hg sN mU hI hw oN hL
    ·obtain⟨pX,bJ⟩:=K.loose i o (by omega) uq ho
     rw[if_pos (pX a)];left;obtain⟨v,w',he,hg,hR⟩:=bJ a w hw;unfold Oper.wp;rw[he];have hL:=jf K.sel ho (by omega) v (qa N listed) ny dR h;rw[<-qF ny]at hL;exact ih _ _ w' _ Hg sN mU (fun x y hx hg=>⟨hI _ _ hx.1 hg,K.stable _ _ _ _ hx.2 hg⟩) (hw.trans hg) ⟨hI _ _ oN hg,hR⟩ hL
theorem qY {id:Nat} {Q:Exit->Act->B->Prop} {a:Act} {w:B} (hm:P.follows .mixedOrders=J) (K:Ok P ops w n N R)
 (h:yaI P ops w n R (fun a w=>wpList P ops Q (ops.toList.drop N) a w) (List.range N) a (fun _=>True)):(Code.region id ops J).wp P Q a w:=by
 refine wp_region_any hm ?_
 have hr:rst N (L ops.size Z)=List.range N:=by
  unfold rst;rw[ue];intro i hi
  have:i<ops.size:=by have:=K.size;have:=T.1 hi;omega
  simp[Array.getD,this]
 have:=ycR (Q:=Q) K N (L ops.size Z) a {w with drawn:=w.drawn+1} (fun _=>True) (by rw[hr];simp) (by simp)
  (fun t _ ht=>by simp[Array.getD,ht]) (fun _ _ _ _=>trivial) (show Below _ _ _ from⟨rfl,rfl,rfl,ur _,fun _ _=>rfl⟩) trivial (by rw[hr];exact h)
 have hN:=K.size
 rwa [show N+(ops.size-N)=ops.size from by omega]at this
def gent (P:Program) (o:Oper) (a:Act) (w0:B) (K:Act->Prop):Prop:=
 ∃v,(∀p:Regrown,Oper.quietUpon P (fun w''=>G (grow (redrawn w0 p.d) p.os) w'') (grow (redrawn w0 p.d) p.os) v ((execOp a.eval o).run P (grow (redrawn w0 p.d) p.os)))/\K (a.put o.dst v)
def xT (P:Program) (ops:Array Oper) (w0:B) (K:Act->Prop):List Oper->Act->Prop
 | [],a=>K a
 | o::rest,a=>if Region.wanted o (yielded ops a.tmps)then gent P o a w0 (xT P ops w0 K rest)else xT P ops w0 K rest (a.put o.dst undef)
theorem calls {f:FuncId} {args:Array un} {w:B} {v:un} (h:yZ P f args w fun e w'=>e= .returned v/\Below w.heap.size w w'):
 yZ P f args w fun e w'=>e= .returned v/\G w w':=h
theorem yiB {f:FuncId} {args:Array un} {w:B} {v:un} (h:yZ P f args w fun e w'=>e= .returned v/\w'=w):
 yZ P f args w fun e w'=>e= .returned v/\G w w':=h.mono fun _ _ ⟨he,hw⟩=>⟨he,hw▸G.rfl⟩
theorem yhM {K:Act->Prop} {a:Act} (h:K a):xT P ops w0 K [] a:=h
theorem zS {K:Act->Prop} {a:Act} {o:Oper} {rest:List Oper}
 (h:∀k:Act->Prop,(∀a,xT P ops w0 K rest a->k a)->if Region.wanted o (yielded ops a.tmps)then gent P o a w0 k else k (a.put o.dst undef)):xT P ops w0 K (o::rest) a:=
 h _ (fun _ h=>h)
theorem xt {K:Act->Prop} {I:B->Prop} {late:List Nat} (hK:∀a,K a->yaI P ops w0 n R Fin late a I):
 ∀(l:List Oper) (k:Nat) (a:Act),(∀j o,l[j]?=S o->ops[k+j]?=S o)->k+l.length<=n->xT P ops w0 K l a->yaI P ops w0 n R Fin (H k l.length++late) a I
 | [],_,a,_,_,h=>by simpa using hK a h
 | o::l,k,a,hl,hn,h=>by
   have h0:ops[k]?=S o:=by simpa using hl 0 o rfl
   simp only[yN]at hn
   have hr:H k (o::l).length++late=k::(H (k+1) l.length++late):=by simp[List.range'_succ]
   rw[hr]
   have hl':∀j o',l[j]?=S o'->ops[k+1+j]?=S o':=fun j o' hj=>by
    have:=hl (j+1) o' (by simpa using hj)
    rwa [show k+(j+1)=k+1+j from by omega]at this
   refine⟨o,h0,.inl ⟨by omega,?_⟩⟩;unfold xT at h
   by_cases hw:Region.wanted o (yielded ops a.tmps)=J
   ·rw[if_pos hw]at h
    obtain⟨v,hv,hk⟩:=h;refine⟨v,.inl ⟨hw,fun w hg=> ?_⟩,xt hK l (k+1) _ hl' (by omega) hk⟩;obtain⟨p,rfl⟩:=regrown_of_below hg;exact hv p
   ·rw[if_neg hw]at h
    exact⟨undef,.inr ⟨by simpa using hw,rfl⟩,xt hK l (k+1) _ hl' (by omega) h⟩
theorem yiH {id:Nat} {Q:Exit->Act->B->Prop} {a:Act} {w:B} {l:List Oper} (n:Nat) (d:Tmp) (X:Obj) (o:Oper)
 (hm:P.follows .mixedOrders=J) (hB:yb7 l.toArray (n+1)=J) (ho:l[n]?=S o) (hd:o.dst=S d) (hg:o.guard=yV)
 (bJ:∀(a:Act) w,(execOp a.eval o).run P w= .ok (.value (.pointer (S ⟨w.heap.size,0,yV⟩))) (w.alloc X))
 (h:xT P l.toArray w (fun a'=>∀b w',Below w.heap.size w w'->w.heap.size<=b->w'.heap[b]?=S X->
   wpList P l.toArray Q (l.drop (n+1)) (a'.put (S d) (.pointer (S ⟨b,0,yV⟩))) w') (l.take n) a):(Code.region id l.toArray J).wp P Q a w:=by
 have Hg:n<l.length:=by
  rcases A n l.length with h'|h'
  ·exact h'
  ·rw[yP h']at ho;cases ho
 refine qY (n:=n) (N:=n+1) (R:=fun _ v w'=>∃b,v= .pointer (S ⟨b,0,yV⟩)/\w.heap.size<=b/\w'.heap[b]?=S X) hm (ygO hB ?_ ?_) ?_
 ·intro i o' h1 h2 pu
  have hi:i=n:=by omega
  subst hi
  have he:o'=o:=by
   have h3:l[i]?=S o':=by simpa using pu
   rw[ho]at h3;cases h3;rfl
  subst he;refine⟨fun a=>by simp[Region.wanted,hg],fun a w1 mo=>⟨_,_,bJ a w1,?_,w1.heap.size,rfl,mo.size,by show(w1.heap.push X)[w1.heap.size]?=S X;simp⟩⟩;exact(Below.refl _ _).alloc (ur _) _
 ·rintro i v w1 w2 ⟨b,e,hb,hx⟩ fV
  refine⟨b,e,hb,?_⟩
  have Hf:b<w1.heap.size:=by
   rcases A b w1.heap.size with h'|h'
   ·exact h'
   ·rw[ua h']at hx;cases hx
  rw[Below.block fV b Hf];exact hx
 ·have hr:List.range (n+1)=H 0 (l.take n).length++[n]:=by
   rw[O,kh (by omega),yT,kO]
  rw[hr];refine xt (late:=[n]) ?_ (l.take n) 0 a ?_ (by rw[O];omega) h
  ·intro a' hk
   refine⟨o,by simpa using ho,.inr ⟨ur _,fun v w' sF hI=> ?_⟩⟩;obtain⟨_,b,e,hb,hx⟩:=hI;subst e;rw[hd];exact hk b w' sF hb hx
  ·intro j o' hj
   have:l[j]?=S o':=by
    rw[kp]at hj;split at hj
    ·exact hj
    ·cases hj
   simpa using this
theorem yi6 {id:Nat} {Q:Exit->Act->B->Prop} {a:Act} {w:B} {l:List Oper} (n:Nat)
 (hm:P.follows .mixedOrders=J) (hB:yb7 l.toArray n=J)
 (h:xT P l.toArray w (fun a'=>∀w',Below w.heap.size w w'->wpList P l.toArray Q (l.drop n) a' w') (l.take n) a):(Code.region id l.toArray J).wp P Q a w:=by
 have Hg:n<=l.length:=by
  simp only[yb7,z,decide_eq_true_eq]at hB
  simpa using hB.1.1.1.1.1
 refine qY (n:=n) (N:=n) (R:=fun _ _ _=>True) hm (ygO hB (fun i o h1 h2 _=>by omega) (fun _ _ _ _ _ _=>trivial)) ?_
 have hr:List.range n=H 0 (l.take n).length++[]:=by
  rw[O,kh Hg,kO,yB]
 rw[hr];refine xt (late:=[]) ?_ (l.take n) 0 a ?_ (by rw[O];omega) h
 ·intro a' hk w' sF _
  exact hk w' sF
 ·intro j o' hj
  have:l[j]?=S o':=by
   rw[kp]at hj;split at hj
   ·exact hj
   ·cases hj
  simpa using this
end
def vZ (ops:Array Oper):Nat->Nat->Nat->Bool
 | 0,t,i=>Region.waitsFor .any ops t i
 | f+1,t,i=>Region.waitsFor .any ops t i||(List.range ops.size).any fun m=>Region.waitsFor .any ops t m&&vZ ops f m i
def ygP (ops:Array Oper) (s N:Nat):Bool:=(List.range N).all fun j=>(List.range j).all fun i=>
 decide (i<s)||(Region.waitsFor .any ops j i||(match ops[i]?,ops[j]? with|some oi,S oj=>oi.apart ops oj|_,_=>Z))
def ygR (ops:Array Oper) (s N:Nat):Bool:=(List.range ops.size).all fun t=>decide (t<N)||(List.range N).all fun i=>decide (i<s)||vZ ops N t i
def ya9 (ops:Array Oper) (s N:Nat):Bool:=decide (s<=N)&&decide (N<=ops.size)&&Region.noSelect ops&&ygP ops s N&&ydt ops N&&ygR ops s N
def yaH (ops:Array Oper) (listed:Array Bool):Prop:=∀j o,ops[j]?=S o->listed.getD j Z=J->∀e ∈ o.after,Region.binds .any e=J->listed.getD e.on Z=J
theorem qU {ops:Array Oper} {listed:Array Bool} (hc:yaH ops listed):∀(f t i:Nat) (o:Oper),ops[t]?=S o->(∀e ∈ o.after,Region.binds .any e=J->listed.getD e.on Z=J)->vZ ops f t i=J->listed.getD i Z=J
 | 0,t,i,o,ho,h,hr=>by
   obtain⟨o',pu,e,he,hb,Hu⟩:=Region.waitsFor_spec hr;rw[ho]at pu;cases pu;rw[<-Hu];exact h e he hb
 | f+1,t,i,o,ho,h,hr=>by
   simp only[vZ,ki,List.any_eq_true,T,z]at hr;rcases hr with hr|⟨m,hm,h1,h2⟩
   ·obtain⟨o',pu,e,he,hb,Hu⟩:=Region.waitsFor_spec hr
    rw[ho]at pu;cases pu;rw[<-Hu];exact h e he hb
   ·obtain⟨o',pu,e,he,hb,Hu⟩:=Region.waitsFor_spec h1
    rw[ho]at pu;cases pu
    have hl:listed.getD m Z=J:=by rw[<-Hu];exact h e he hb
    have Aa:ops[m]?=S ops[m]:=by simp[hm]
    exact qU hc f m i _ Aa (hc m _ Aa hl) h2
section
variable {P:Program} {ops:Array Oper} {w0:B} {s N:Nat} {Q:Exit->Act->B->Prop}
structure OkS (ops:Array Oper) (s N:Nat):Prop where
 le:s<=N
 size:N<=ops.size
 sel:∀(j:Nat) (o:Oper) cs b,ops[j]?=S o->o.op≠ .select cs b
 pair:∀i j oi oj,s<=i->i<j->j<N->ops[i]?=S oi->ops[j]?=S oj->(∀e ∈ oj.after,Region.binds .any e=J->e.on≠i)->oi.apart ops oj=J
 back:∀j o,j<N->ops[j]?=S o->∀e ∈ o.after,Region.binds .any e=J->e.on<j
 tail:∀t,N<=t->t<ops.size->∀i,s<=i->i<N->vZ ops N t i=J
theorem ygN (hB:ya9 ops s N=J):OkS ops s N:=by
 simp only[ya9,z,decide_eq_true_eq]at hB;obtain⟨⟨⟨⟨⟨hs,hN⟩,gq⟩,gG⟩,gy⟩,lC⟩:=hB;refine⟨hs,hN,fun j o cs b hj=>Region.noSelect_spec gq j o cs b hj,?_,?_,?_⟩
 ·intro i j oi oj BG bC hj hi ut nJ
  simp only[ygP,V,T]at gG;have:=gG j hj i bC;simp only[hi,ut,ki,decide_eq_true_eq]at this;rcases this with h|h|h
  ·omega
  ·obtain⟨oj',ho,e,he,hb,Hu⟩:=Region.waitsFor_spec h
   rw[ut]at ho;cases ho;exact absurd Hu (nJ e he hb)
  ·exact h
 ·intro j o hj ho e he hb
  simp only[ydt,V,T]at gy;have:=gy j hj;simp only[ho,yI]at this;have:=this e he
  simpa[hb]using this
 ·intro t ht kU i BG hi
  simp only[ygR,V,T]at lC;have:=lC t kU;simp only[ki,decide_eq_true_eq,V,T]at this;rcases this with h|h
  ·omega
  ·rcases h i hi with h|h
   ·omega
   ·exact h
theorem ycS (K:OkS ops s N):
 ∀(k:Nat) (listed:Array Bool) (a:Act) (w:B),(rst N listed).length=k->listed.size=ops.size->
  (∀t,N<=t->t<ops.size->listed.getD t J=Z)->(∀t,t<s->listed.getD t J=J)->yaH ops listed->G w0 w->
  yaI P ops w0 N (fun _ _ _=>True) (fun a w=>wpAny P .any ops Q (ops.size-N) (zD N (ops.size-N)) a w) (rst N listed) a (fun _=>True)->
  wpAny P .any ops Q (k+(ops.size-N)) listed a w:=by
 intro k
 induction k with
 | zero=>
   intro listed a w hk hs ht sM hc hw h;have hr:rst N listed=[]:=uc.1 hk;rw[hr]at h
   have hl:listed=zD N (ops.size-N):=by
    apply yQ
    ·simp[zD,hs];have:=K.size;omega
    ·intro i h1 h2
     by_cases hi:i<N
     ·have:i ∉ rst N listed:=by rw[hr];simp
      have:listed.getD i J=J:=by
       cases hg:listed.getD i J
       ·exact absurd (zH.2 ⟨hi,hg⟩) this
       ·rfl
      simp only[Array.getD,h1,dite_true]at this;rw[show(zD N (ops.size-N))[i]=J from by simp[zD,hi]];exact this
     ·have:=ht i (by omega) (by omega)
      simp only[Array.getD,h1,dite_true]at this;rw[show(zD N (ops.size-N))[i]=Z from by simp[zD,q,hi]];exact this
   rw[yR,hl];exact h w hw trivial
 | succ k ih=>
   intro listed a w hk hs ht sM hc hw h
   have Ho:rst N listed≠[]:=by intro e;rw[e]at hk;cases hk
   have e:k+1+(ops.size-N)=(k+(ops.size-N))+1:=by omega
   rw[e];refine⟨fun hr=> ?_,fun i hi=> ?_⟩
   ·exfalso
    obtain⟨i0,r,nA⟩:=W Ho
    have hm:i0 ∈ rst N listed:=by rw[nA];simp
    obtain⟨iL,uH⟩:=zH.1 hm
    have Hf:i0<ops.size:=by have:=K.size;omega
    have:i0 ∈ Region.ready .any ops listed:=by
     refine mem_ready.2 ⟨uH,ops[i0],by simp[Hf],fun e he hb=> ?_⟩;have Hu:=K.back i0 ops[i0] iL (by simp[Hf]) e he hb
     have:e.on ∉ rst N listed:=by
      rw[nA];intro iW;rcases uv.1 iW with h|h
      ·omega
      ·have hp:=qa N listed
       rw[nA]at hp;have:=(U.1 hp).1 _ h;omega
     have h1:listed.getD e.on J=J:=by
      cases hg:listed.getD e.on J
      ·exact absurd (zH.2 ⟨by omega,hg⟩) this
      ·rfl
     have fJ:e.on<listed.size:=by omega
     simp only[Array.getD,fJ,dite_true]at h1 ⊢;exact h1
    rw[hr]at this;cases this
   ·obtain⟨hu,o,ho,rF⟩:=mem_ready.1 hi
    have MG:i<ops.size:=(E.1 ho).1
    have uq:i<N:=by
     rcases A i N with h'|h'
     ·exact h'
     ·exfalso
      obtain⟨i0,r,nA⟩:=W Ho
      have hm:i0 ∈ rst N listed:=by rw[nA];simp
      obtain⟨iL,uH⟩:=zH.1 hm
      have BG:s<=i0:=by
       rcases A i0 s with h''|h''
       ·rw[sM i0 h'']at uH;cases uH
       ·exact h''
      have h1:=qU hc N i i0 o ho rF (K.tail i h' MG i0 BG iL)
      have fJ:i0<listed.size:=by have:=K.size;omega
      simp only[Array.getD,fJ,dite_true]at h1 uH;rw[uH]at h1;cases h1
    have ny:i ∈ rst N listed:=zH.2 ⟨uq,hu⟩
    have dR:∀i' oi',i' ∈ rst N listed->i'<i->ops[i']?=S oi'->oi'.apart ops o=J:=by
     intro i' oi' kQ Hf pu;have h2:=(zH.1 kQ).2
     have BG:s<=i':=by
      rcases A i' s with h''|h''
      ·rw[sM i' h'']at h2;cases h2
      ·exact h''
     refine K.pair i' i oi' o BG Hf uq pu ho (fun e he hb Hu=> ?_);have h1:=rF e he hb;rw[Hu]at h1
     have fJ:i'<listed.size:=by have:=K.size;omega
     simp only[Array.getD,fJ,dite_true]at h1 h2;rw[h2]at h1;cases h1
    have Hg:(rst N (listed.setIfInBounds i J)).length=k:=by
     rw[qF ny,ud ny,hk];rfl
    have sN:(listed.setIfInBounds i J).size=ops.size:=by simpa using hs
    have mU:∀t,N<=t->t<ops.size->(listed.setIfInBounds i J).getD t J=Z:=by
     intro t h1 h2;rw[getD_set_ne J (by omega:¬i=t)];exact ht t h1 h2
    have BJ:∀t,t<s->(listed.setIfInBounds i J).getD t J=J:=by
     intro t h1
     by_cases e:i=t
     ·subst e
      simp[Array.getD]
     ·rw[getD_set_ne J e]
      exact sM t h1
    have lc:∀x,listed.getD x Z=J->(listed.setIfInBounds i J).getD x Z=J:=by
     intro x hx
     by_cases e:i=x
     ·subst e
      have:i<listed.size:=by omega
      simp[Array.getD,this]
     ·rw[getD_set_ne Z e]
      exact hx
    have lM:yaH ops (listed.setIfInBounds i J):=by
     intro j oj hj hl e he hb
     by_cases e':i=j
     ·subst e'
      rw[ho]at hj;cases hj;exact lc _ (rF e he hb)
     ·rw[getD_set_ne Z e']at hl
      exact lc _ (hc j oj hj hl e he hb)
    unfold wpOp;simp only[ho];obtain⟨v,hy,hL⟩:=jg K.sel ho uq (qa N listed) ny dR h;rw[<-qF ny]at hL;rcases hy with ⟨pX,hq⟩|⟨pX,rfl⟩
    ·rw[if_pos pX]
     left;exact qI (hq w hw) G.rfl (fun w' hg=>ih _ _ w' Hg sN mU BJ lM (hw.trans hg) hL)
    ·rw[if_neg (by rw[pX];exact yJ)]
     exact ih _ _ w Hg sN mU BJ lM hw hL
theorem ybE {a:Act} {w:B} {l:List Oper} (s N:Nat) (hB:ya9 l.toArray s N=J) (hG:G w0 w)
 (h:xT P l.toArray w0 (fun a'=>∀w',Below w0.heap.size w0 w'->wpAny P .any l.toArray Q (l.toArray.size-N) (zD N (l.toArray.size-N)) a' w') ((l.take N).drop s) a):
 wpAny P .any l.toArray Q (l.toArray.size-s) (zD s (l.toArray.size-s)) a w:=by
 have K:=ygN hB;have sN:=K.size;have fK:=K.le
 have Hg:l.toArray.size=l.length:=by simp
 have hr:rst N (zD s (l.toArray.size-s))=H s (N-s):=by
  have Uy:List.range N=List.range s++H s (N-s):=by
   have h:=List.range'_append_1 (s:=0) (m:=s) (n:=N-s);rw[yR,show s+(N-s)=N by omega]at h;rw[kO,kO,h]
  unfold rst;rw[Uy,List.filter_append]
  have h1:(List.range s).filter (fun i=> !(zD s (l.toArray.size-s)).getD i J)=[]:=by
   rw[List.filter_eq_nil_iff];intro i hi;have hi:=T.1 hi
   have:i<(zD s (l.toArray.size-s)).size:=by simp[zD];omega
   simp only[Array.getD,this,dite_true];rw[show(zD s (l.toArray.size-s)).getInternal i this=J from by simp[zD,hi]];decide
  have h2:(H s (N-s)).filter (fun i=> !(zD s (l.toArray.size-s)).getD i J)=H s (N-s):=by
   rw[ue];intro i hi;have hi:=List.mem_range'_1.1 hi
   have:i<(zD s (l.toArray.size-s)).size:=by simp[zD];omega
   simp only[Array.getD,this,dite_true];rw[show(zD s (l.toArray.size-s)).getInternal i this=Z from by simp[zD,q];omega];decide
  rw[h1,h2,List.nil_append]
 have hk:(rst N (zD s (l.toArray.size-s))).length=N-s:=by rw[hr];simp
 have:=ycS (P:=P) (w0:=w0) (Q:=Q) K (N-s) (zD s (l.toArray.size-s)) a w hk (by simp[zD];omega) ?_ ?_ ?_ hG ?_
 ·rwa [show N-s+(l.toArray.size-N)=l.toArray.size-s by omega]at this
 ·intro t h1 h2
  have:t<(zD s (l.toArray.size-s)).size:=by simp[zD];omega
  simp only[Array.getD,this,dite_true];simp[zD,q];omega
 ·intro t h1
  have:t<(zD s (l.toArray.size-s)).size:=by simp[zD];omega
  simp only[Array.getD,this,dite_true];simp[zD,h1]
 ·intro j o ho hl e he hb
  have hj:j<s:=by
   rcases A j s with h'|h'
   ·exact h'
   ·exfalso
    by_cases KQ:j<(zD s (l.toArray.size-s)).size
    ·simp only[Array.getD,KQ,dite_true]at hl
     simp[zD,q]at hl;omega
    ·rw[Array.getD,dif_neg KQ]at hl
     cases hl
  have Hu:=K.back j o (by omega) ho e he hb
  have:e.on<(zD s (l.toArray.size-s)).size:=by simp[zD];omega
  simp only[Array.getD,this,dite_true];simp[zD,show e.on<s by omega]
 ·rw[hr]
  have su:((l.take N).drop s).length=N-s:=by rw[yY,O,kh (by omega)]
  have RF:H s (N-s)=H s ((l.take N).drop s).length++[]:=by rw[su,yB]
  rw[RF];refine xt (late:=[]) ?_ ((l.take N).drop s) s a ?_ (by rw[su];omega) h
  ·intro a' hk w' sF _
   exact hk w' sF
  ·intro j o' hj
   rw[yC,kp]at hj;split at hj
   ·simpa using hj
   ·cases hj
theorem ygE {o:Oper} {a:Act} {w:B} {K:Act->B->Prop} {X:Act->B->Prop} (h:o.wp P a w K (Exit.then X Q)):o.wp P a w K Q:=by
 unfold Oper.wp at*;generalize (execOp a.eval o).run P w=r at*
 cases r with
 | ok n w'=>
   cases n<;>simp only[Oper.upon]at h ⊢ <;>
    first
     | exact h
     | exact Calls.mono h (fun e w'' he=>by cases e<;>exact he)
 | halt x w'=>cases x<;>simp only[Oper.upon]at h ⊢ <;>exact h
theorem ygD {o:Oper} {a:Act} {w:B} {K:Act->B->Prop} {X Y:Act->B->Prop} (h:o.wp P a w K (Exit.then X Q)):o.wp P a w K (Exit.then Y Q):=by
 unfold Oper.wp at*;generalize (execOp a.eval o).run P w=r at*
 cases r with
 | ok n w'=>
   cases n<;>simp only[Oper.upon]at h ⊢ <;>
    first
     | exact h
     | exact Calls.mono h (fun e w'' he=>by cases e<;>exact he)
 | halt x w'=>cases x<;>simp only[Oper.upon]at h ⊢ <;>exact h
def yf2 (ops:Array Oper):Nat->Nat->Array Bool->Bool
 | 0,_,_=>J
 | g+1,k,listed=>decide (Region.ready .any ops listed=[k])&&yf2 ops g (k+1) (listed.setIfInBounds k J)
def ygA:Nat->Nat->Array Bool->Array Bool
 | 0,_,listed=>listed
 | g+1,k,listed=>ygA g (k+1) (listed.setIfInBounds k J)
theorem yds {F:Nat}:∀(l:List Oper) (k:Nat) (listed:Array Bool) (a:Act) (w:B),(∀j,j<l.length->l[j]?=ops[k+j]?)->yf2 ops l.length k listed=J->
 wpList P ops (Exit.then (fun a w=>wpAny P .any ops Q F (ygA l.length k listed) a w) Q) l a w->wpAny P .any ops Q (l.length+F) listed a w
 | [],_,_,_,_,_,_,h=>by rw[List.length_nil,yR];exact h
 | o::l,k,listed,a,w,hl,hB,h=>by
   have h0:ops[k]?=S o:=by simpa using (hl 0 (by simp)).symm
   simp only[yN,yf2,z,decide_eq_true_eq]at hB;rw[show(o::l).length+F=(l.length+F)+1 by simp;omega];refine⟨fun h1=>(by rw[hB.1]at h1;cases h1),fun i hi=> ?_⟩;rw[hB.1]at hi
   have MF:i=k:=by simpa using hi
   subst MF;have ih:=fun a' w' h'=>yds (F:=F) l (i+1) (listed.setIfInBounds i J) a' w' (fun j hj=>by have:=hl (j+1) (by simpa using hj);simpa[Nat.add_assoc,Nat.add_comm 1 j]using this) hB.2 h';unfold wpOp;simp only[h0];simp only[wpList]at h;split
   ·rename_i hw
    rw[if_pos hw]at h;rcases h with h|⟨h1,h2⟩
    ·exact .inl (Oper.wp_mono ih (ygE h))
    ·exact .inr ⟨h1,h2⟩
   ·rename_i hw
    rw[if_neg hw]at h;exact ih _ _ h
theorem qR {K K':Act->Prop} (hK:∀a,K a->K' a):∀(l:List Oper) (a:Act),xT P ops w0 K l a->xT P ops w0 K' l a
 | [],a,h=>hK a h
 | o::l,a,h=>by
   unfold xT at h ⊢;split
   ·rename_i hw
    rw[if_pos hw]at h;obtain⟨v,hv,hk⟩:=h;exact⟨v,hv,qR hK l _ hk⟩
   ·rename_i hw
    rw[if_neg hw]at h;exact qR hK l _ h
theorem vU {X Y:Act->B->Prop} (hX:∀a w,X a w->Y a w):∀(l:List Oper) (a:Act) (w:B),wpList P ops (Exit.then X Q) l a w->wpList P ops (Exit.then Y Q) l a w
 | [],a,w,h=>hX a w h
 | o::l,a,w,h=>by
   unfold wpList at h ⊢;split
   ·rename_i hw
    rw[if_pos hw]at h;rcases h with h|⟨h1,h2⟩
    ·exact .inl (ygD (Oper.wp_mono (fun a w h=>vU hX l a w h) h))
    ·exact .inr ⟨h1,h2⟩
   ·rename_i hw
    rw[if_neg hw]at h;exact vU hX l _ w h
theorem yhL {id:Nat} {a:Act} {w:B} {l:List Oper} (N:Nat) (hm:P.follows .mixedOrders=J) (hB:(ya9 l.toArray 0 N&&Region.seqB .any l.toArray (l.toArray.size-N) N (zD N (l.toArray.size-N)))=J)
 (h:xT P l.toArray w (fun a'=>∀w',Below w.heap.size w w'->wpList P l.toArray Q (l.drop N) a' w') (l.take N) a):(Code.region id l.toArray J).wp P Q a w:=by
 rw[z]at hB;refine wp_region_any hm ?_
 have hs:(L l.toArray.size Z)=zD 0 (l.toArray.size-0):=by simp[zD]
 have hd:(l.drop N).length=l.toArray.size-N:=by simp
 rw[hs];refine ybE (w0:=w) 0 N hB.1 (show Below _ _ _ from⟨rfl,rfl,rfl,ur _,fun _ _=>rfl⟩) ?_;rw[yF];refine qR (fun a' h1 w' sF=> ?_) _ _ h;have:=wpAny_of_seq (P:=P) (md:= .any) (Q':=Q) (ops:=l.toArray) (l.drop N) N (zD N (l.toArray.size-N)) a' w' (by intro j;simp) (by rw[hd];exact hB.2) (h1 w' sF)
 rwa [hd]at this
theorem wp_region_late2 {id:Nat} {a:Act} {w:B} {l:List Oper} (N M N':Nat) (hm:P.follows .mixedOrders=J)
 (hB:(ya9 l.toArray 0 N&&yf2 l.toArray (M-N) N (zD N (l.toArray.size-N))&&decide (ygA (M-N) N (zD N (l.toArray.size-N))=zD M (l.toArray.size-M))&&decide (N<=M)&&decide (M<=l.toArray.size)&&ya9 l.toArray M N'&&Region.seqB .any l.toArray (l.toArray.size-N') N' (zD N' (l.toArray.size-N')))=J)
 (h:xT P l.toArray w (fun a'=>∀w',Below w.heap.size w w'->wpList P l.toArray (Exit.then (fun a2 w2=>xT P l.toArray w2 (fun a3=>∀w3,Below w2.heap.size w2 w3->wpList P l.toArray Q (l.drop N') a3 w3) ((l.take N').drop M) a2) Q) ((l.take M).drop N) a' w') (l.take N) a):(Code.region id l.toArray J).wp P Q a w:=by
 simp only[z,decide_eq_true_eq]at hB;obtain⟨⟨⟨⟨⟨⟨sG,tL⟩,pE⟩,hNM⟩,hMs⟩,pI⟩,wX⟩:=hB;refine wp_region_any hm ?_
 have hs:(L l.toArray.size Z)=zD 0 (l.toArray.size-0):=by simp[zD]
 have hd:(l.drop N').length=l.toArray.size-N':=by simp
 have Hg:l.toArray.size=l.length:=by simp
 rw[hs];refine ybE (w0:=w) 0 N sG (show Below _ _ _ from⟨rfl,rfl,rfl,ur _,fun _ _=>rfl⟩) ?_;rw[yF];refine qR (fun a' h1 w' sF=> ?_) _ _ h;have h2:=h1 w' sF
 have su:((l.take M).drop N).length=M-N:=by rw[yY,O,kh (by omega)]
 have:=yds (P:=P) (Q:=Q) (ops:=l.toArray) (F:=l.toArray.size-M) ((l.take M).drop N) N (zD N (l.toArray.size-N)) a' w' ?_ (by rw[su];exact tL) ?_
 ·rwa [su,show M-N+(l.toArray.size-M)=l.toArray.size-N by omega]at this
 ·intro j hj
  rw[su]at hj;rw[yC,kp,if_pos (by omega)];simp
 ·rw[su,pE]
  refine vU (fun a2 w2 h3=> ?_) _ _ _ h2;refine ybE (w0:=w2) M N' pI G.rfl ?_;refine qR (fun a3 h4 w3 kV=> ?_) _ _ h3;have:=wpAny_of_seq (P:=P) (md:= .any) (Q':=Q) (ops:=l.toArray) (l.drop N') N' (zD N' (l.toArray.size-N')) a3 w3 (by intro j;simp) (by rw[hd];exact wX) (h4 w3 kV)
  rwa [hd]at this
end
def ygi (P:Program) (o:Oper):Prop:=∀(e:Operand->un) (w:B),(∃v,∀w',(execOp e o).run P w'= .ok (.value v) w')\/(∃h w'',(execOp e o).run P w= .halt h w'')
theorem yiW {P:Program} {o:Oper} {x:Operand} {k:Nat} (h:o.op= .extract x k):ygi P o:=by
 intro e w;simp only[execOp,h,Instr.extract];split
 ·split
  ·exact .inl ⟨_,fun w'=>rfl⟩
  ·exact .inr ⟨_,_,rfl⟩
 ·exact .inr ⟨_,_,rfl⟩
def ygg (ops:Array Oper) (N:Nat) (D:List Nat):Bool:=(List.range ops.size).all fun t=>decide (t<N)||(List.range N).all fun i=>
 if D.contains i then(Region.waitsFor .any ops t i||(match ops[i]?,ops[t]? with|some oi,S ot=>oi.apart ops ot|_,_=>Z))else vZ ops N t i
def ydq (ops:Array Oper) (n N:Nat) (D:List Nat):Bool:=decide (n<=N)&&decide (N<=ops.size)&&Region.noSelect ops&&yfV ops N&&ydt ops N&&ygg ops N D&&D.all (fun i=>decide (i<n))&&Region.seqB .any ops (ops.size-N) N (zD N (ops.size-N))
section
variable {P:Program} {ops:Array Oper} {w0:B} {n N:Nat} {D:List Nat} {R:Nat->un->B->Prop} {Q:Exit->Act->B->Prop}
structure OkD (P:Program) (ops:Array Oper) (w0:B) (n N:Nat) (D:List Nat) (R:Nat->un->B->Prop):Prop where
 le:n<=N
 size:N<=ops.size
 sel:∀(j:Nat) (o:Oper) cs b,ops[j]?=S o->o.op≠ .select cs b
 pair:∀i j oi oj,i<j->j<N->ops[i]?=S oi->ops[j]?=S oj->(∀e ∈ oj.after,Region.binds .any e=J->e.on≠i)->oi.apart ops oj=J
 back:∀j o,j<N->ops[j]?=S o->∀e ∈ o.after,Region.binds .any e=J->e.on<j
 tail:∀t,N<=t->t<ops.size->∀i,i<N->i ∉ D->vZ ops N t i=J
 late:∀t ot,N<=t->ops[t]?=S ot->∀i oi,i<N->i ∈ D->ops[i]?=S oi->(∀e ∈ ot.after,Region.binds .any e=J->e.on≠i)->oi.apart ops ot=J
 low:∀i,i ∈ D->i<n
 seq:Region.seqB .any ops (ops.size-N) N (zD N (ops.size-N))=J
 calm:∀i o,i ∈ D->ops[i]?=S o->ygi P o
 loose:∀i o,n<=i->i<N->ops[i]?=S o->(∀a:Act,Region.wanted o (yielded ops a.tmps)=J)/\∀(a:Act) w,G w0 w->∃v w',(execOp a.eval o).run P w= .ok (.value v) w'/\G w w'/\R i v w'
 stable:∀i v w w',R i v w->G w w'->R i v w'
theorem ygh (hB:ydq ops n N D=J) (calm:∀i o,i ∈ D->ops[i]?=S o->ygi P o)
 (loose:∀i o,n<=i->i<N->ops[i]?=S o->(∀a:Act,Region.wanted o (yielded ops a.tmps)=J)/\∀(a:Act) w,G w0 w->∃v w',(execOp a.eval o).run P w= .ok (.value v) w'/\G w w'/\R i v w')
 (stable:∀i v w w',R i v w->G w w'->R i v w'):OkD P ops w0 n N D R:=by
 simp only[ydq,z,decide_eq_true_eq]at hB;obtain⟨⟨⟨⟨⟨⟨⟨hn,hN⟩,gq⟩,gG⟩,gy⟩,KC⟩,kP⟩,av⟩:=hB;simp only[ygg,V,T,ki,decide_eq_true_eq]at KC;refine⟨hn,hN,fun j o cs b hj=>Region.noSelect_spec gq j o cs b hj,?_,?_,?_,?_,?_,av,calm,loose,stable⟩
 ·intro i j oi oj bC hj hi ut nJ
  simp only[yfV,V,T]at gG;have:=gG j hj i bC;simp only[hi,ut,ki]at this;rcases this with h|h
  ·obtain⟨oj',ho,e,he,hb,Hu⟩:=Region.waitsFor_spec h
   rw[ut]at ho;cases ho;exact absurd Hu (nJ e he hb)
  ·exact h
 ·intro j o hj ho e he hb
  simp only[ydt,V,T]at gy;have:=gy j hj;simp only[ho,yI]at this;have:=this e he
  simpa[hb]using this
 ·intro t ht kU i hi hD
  rcases KC t kU with h|h
  ·omega
  ·have:=h i hi
   rw[if_neg (by simpa using hD)]at this;exact this
 ·intro t ot ht ho i oi hi hD hoi nJ
  have kU:t<ops.size:=(E.1 ho).1;rcases KC t kU with h|h
  ·omega
  ·have:=h i hi
   rw[if_pos (by simpa using hD),hoi,ho]at this;simp only[ki]at this;rcases this with h|h
   ·obtain⟨o',pu,e,he,hb,Hu⟩:=Region.waitsFor_spec h
    rw[ho]at pu;cases pu;exact absurd Hu (nJ e he hb)
   ·exact h
 ·intro i hi
  simpa using V.1 kP i hi
theorem yfs {o:Oper} {a:Act} {v:un} {w:B} (hc:ygi P o) (hg:G w0 w) (h:Yl P ops w0 o a v):Yields P ops o v a:=by
 rcases h with ⟨h1,h2⟩|h
 ·refine .inl ⟨h1,?_⟩
  have h3:=h2 w hg;unfold Oper.quietAt at h3;rcases hc a.eval w with ⟨u,hu⟩|⟨x,w'',hx⟩
  ·rw[hu w]at h3
   obtain⟨_,e⟩:=h3;subst e;exact hu
  ·rw[hx]at h3
   exact h3.elim
 ·exact .inr h
theorem ycQ (K:OkD P ops w0 n N D R) (hQ:∀(d:Option Tmp) (v:un) c a w,Q (.panic c) (a.put d v) w->Q (.panic c) a w):
 ∀(k:Nat) (listed:Array Bool) (a:Act) (w:B) (I:B->Prop),(rst N listed).length=k->listed.size=ops.size->
  (∀t,N<=t->t<ops.size->listed.getD t J=Z)->yaH ops listed->(∀w w',I w->G w w'->I w')->G w0 w->I w->
  yaI P ops w0 n R (fun a w=>wpList P ops Q (ops.toList.drop N) a w) (rst N listed) a I->
  wpAny P .any ops Q (k+(ops.size-N)) listed a w:=by
 intro k
 induction k with
 | zero=>
   intro listed a w I hk hs ht hc hI hw oN h;have hr:rst N listed=[]:=uc.1 hk;rw[hr]at h
   have hl:listed=zD N (ops.size-N):=by
    apply yQ
    ·simp[zD,hs];have:=K.size;omega
    ·intro i h1 h2
     by_cases hi:i<N
     ·have:i ∉ rst N listed:=by rw[hr];simp
      have:listed.getD i J=J:=by
       cases hg:listed.getD i J
       ·exact absurd (zH.2 ⟨hi,hg⟩) this
       ·rfl
      simp only[Array.getD,h1,dite_true]at this;rw[show(zD N (ops.size-N))[i]=J from by simp[zD,hi]];exact this
     ·have:=ht i (by omega) (by omega)
      simp only[Array.getD,h1,dite_true]at this;rw[show(zD N (ops.size-N))[i]=Z from by simp[zD,q,hi]];exact this
   have hf:=h w hw oN
   have Hg:(ops.toList.drop N).length=ops.size-N:=by simp
   have:=wpAny_of_seq (P:=P) (md:= .any) (Q':=Q) (ops.toList.drop N) N listed a w (by intro j;simp) (by rw[Hg,hl];exact K.seq) hf;rw[Hg]at this
   simpa using this
 | succ k ih=>
   intro listed a w I hk hs ht hc hI hw oN h
   have Ho:rst N listed≠[]:=by intro e;rw[e]at hk;cases hk
   have e:k+1+(ops.size-N)=(k+(ops.size-N))+1:=by omega
   rw[e];obtain⟨i0,r,nA⟩:=W Ho
   have mh:i0 ∈ rst N listed:=by rw[nA];simp
   obtain⟨iL,uH⟩:=zH.1 mh
   have Ua:i0<ops.size:=by have:=K.size;omega
   have RB:ops[i0]?=S ops[i0]:=by simp[Ua]
   have gU:i0 ∈ Region.ready .any ops listed:=by
    refine mem_ready.2 ⟨uH,ops[i0],RB,fun e he hb=> ?_⟩;have Hu:=K.back i0 ops[i0] iL RB e he hb
    have:e.on ∉ rst N listed:=by
     rw[nA];intro iW;rcases uv.1 iW with h|h
     ·omega
     ·have hp:=qa N listed
      rw[nA]at hp;have:=(U.1 hp).1 _ h;omega
    have h1:listed.getD e.on J=J:=by
     cases hg:listed.getD e.on J
     ·exact absurd (zH.2 ⟨by omega,hg⟩) this
     ·rfl
    have fJ:e.on<listed.size:=by omega
    simp only[Array.getD,fJ,dite_true]at h1 ⊢;exact h1
   have TB:∀i o,i<N->ops[i]?=S o->listed.getD i J=Z->(∀e ∈ o.after,Region.binds .any e=J->listed.getD e.on Z=J)->
    (rst N (listed.setIfInBounds i J)).length=k/\(listed.setIfInBounds i J).size=ops.size/\(∀t,N<=t->t<ops.size->(listed.setIfInBounds i J).getD t J=Z)/\yaH ops (listed.setIfInBounds i J):=by
    intro i o uq ho hu rF;have ny:i ∈ rst N listed:=zH.2 ⟨uq,hu⟩;have MG:i<ops.size:=(E.1 ho).1;refine⟨by rw[qF ny,ud ny,hk];rfl,by simpa using hs,?_,?_⟩
    ·intro t h1 h2
     rw[getD_set_ne J (by omega:¬i=t)];exact ht t h1 h2
    ·have lc:∀x,listed.getD x Z=J->(listed.setIfInBounds i J).getD x Z=J:=by
      intro x hx
      by_cases e:i=x
      ·subst e
       have:i<listed.size:=by omega
       simp[Array.getD,this]
      ·rw[getD_set_ne Z e]
       exact hx
     intro j oj hj hl e he hb
     by_cases e':i=j
     ·subst e'
      rw[ho]at hj;cases hj;exact lc _ (rF e he hb)
     ·rw[getD_set_ne Z e']at hl
      exact lc _ (hc j oj hj hl e he hb)
   by_cases rF:∀i,i ∈ rst N listed->i ∈ D
   ·--nothing but such as look at no memory:the first one comes now
    have LW:=rF i0 mh;have dD:=K.low i0 LW;rw[nA]at h;obtain⟨o,ho,h⟩:=h;rw[RB]at ho;cases ho;rcases h with ⟨_,v,hy,hL⟩|⟨h',_⟩
    ·obtain⟨q1,q2,q3,q4⟩:=TB i0 ops[i0] iL RB uH (fun e he hb=>by
      obtain⟨_,o',pu,nT⟩:=mem_ready.1 gU;rw[RB]at pu;cases pu
      exact nT e he hb)
     have hL':yaI P ops w0 n R (fun a w=>wpList P ops Q (ops.toList.drop N) a w) (rst N (listed.setIfInBounds i0 J)) (a.put ops[i0].dst v) I:=by
      rw[qF mh,nA,List.erase_cons_head];exact hL
     refine wpAny_first RB K.sel (hQ _ _) _ listed a w ?_ gU (yfs (K.calm i0 _ LW RB) hw hy) (ih _ _ w I q1 q2 q3 q4 hI hw oN hL');intro j oj hj RA hun nJ;have KQ:j<ops.size:=(E.1 hj).1;rcases A j N with hjN|hjN
     ·have II:j ∈ rst N listed:=zH.2 ⟨hjN,hun⟩
      rw[nA]at II
      have Tz:j ∈ r:=by
       rcases uv.1 II with e|e
       ·exact absurd e RA
       ·exact e
      have hp:=qa N listed;rw[nA]at hp;exact K.pair i0 j _ oj ((U.1 hp).1 j Tz) hjN RB hj nJ
     ·exact K.late j oj hjN hj i0 _ iL LW RB nJ
    ·omega
   ·have hex:∃j,j ∈ rst N listed/\j ∉ D:=by
     by_cases hx:∃j,j ∈ rst N listed/\j ∉ D
     ·exact hx
     ·exact absurd (fun i hi=>by
       by_cases hd:i ∈ D
       ·exact hd
       ·exact absurd ⟨i,hi,hd⟩ hx) rF
    obtain⟨j0,hj0,hjD⟩:=hex;obtain⟨KO,GY⟩:=zH.1 hj0;refine⟨fun hr=>(by rw[hr]at gU;cases gU),fun i hi=> ?_⟩;obtain⟨hu,o,ho,nT⟩:=mem_ready.1 hi;have MG:i<ops.size:=(E.1 ho).1
    have uq:i<N:=by
     rcases A i N with h'|h'
     ·exact h'
     ·exfalso
      have h1:=qU hc N i j0 o ho nT (K.tail i h' MG j0 KO hjD)
      have fJ:j0<listed.size:=by have:=K.size;omega
      simp only[Array.getD,fJ,dite_true]at h1 GY;rw[GY]at h1;cases h1
    have ny:i ∈ rst N listed:=zH.2 ⟨uq,hu⟩
    have dR:∀i' oi',i' ∈ rst N listed->i'<i->ops[i']?=S oi'->oi'.apart ops o=J:=by
     intro i' oi' kQ Hf pu;refine K.pair i' i oi' o Hf uq pu ho (fun e he hb Hu=> ?_);have h1:=nT e he hb;have h2:=(zH.1 kQ).2;rw[Hu]at h1
     have fJ:i'<listed.size:=by have:=K.size;omega
     simp only[Array.getD,fJ,dite_true]at h1 h2;rw[h2]at h1;cases h1
    obtain⟨q1,q2,q3,q4⟩:=TB i o uq ho hu nT;unfold wpOp;simp only[ho]
    by_cases dD:i<n
    ·obtain⟨v,hy,hL⟩:=jg K.sel ho dD (qa N listed) ny dR h
     rw[<-qF ny]at hL;rcases hy with ⟨pX,hq⟩|⟨pX,rfl⟩
     ·rw[if_pos pX]
      left;exact qI (hq w hw) G.rfl (fun w' hg=>ih _ _ w' I q1 q2 q3 q4 hI (hw.trans hg) (hI _ _ oN hg) hL)
     ·rw[if_neg (by rw[pX];exact yJ)]
      exact ih _ _ w I q1 q2 q3 q4 hI hw oN hL
    ·obtain⟨pX,bJ⟩:=K.loose i o (by omega) uq ho
     rw[if_pos (pX a)];left;obtain⟨v,w',he,hg,hR⟩:=bJ a w hw;unfold Oper.wp;rw[he];have hL:=jf K.sel ho (by omega) v (qa N listed) ny dR h;rw[<-qF ny]at hL;exact ih _ _ w' _ q1 q2 q3 q4 (fun x y hx hg=>⟨hI _ _ hx.1 hg,K.stable _ _ _ _ hx.2 hg⟩) (hw.trans hg) ⟨hI _ _ oN hg,hR⟩ hL
theorem ycH (ops:Array Oper):yaH ops (L ops.size Z):=by
 intro j o ho hl;have hj:j<ops.size:=(E.1 ho).1;simp[Array.getD,hj]at hl
theorem qM {id:Nat} {a:Act} {w:B} (hm:P.follows .mixedOrders=J) (K:OkD P ops w n N D R) (hQ:∀(d:Option Tmp) (v:un) c a w,Q (.panic c) (a.put d v) w->Q (.panic c) a w)
 (h:yaI P ops w n R (fun a w=>wpList P ops Q (ops.toList.drop N) a w) (List.range N) a (fun _=>True)):(Code.region id ops J).wp P Q a w:=by
 refine wp_region_any hm ?_
 have hr:rst N (L ops.size Z)=List.range N:=by
  unfold rst;rw[ue];intro i hi
  have:i<ops.size:=by have:=K.size;have:=T.1 hi;omega
  simp[Array.getD,this]
 have:=ycQ K hQ N (L ops.size Z) a {w with drawn:=w.drawn+1} (fun _=>True) (by rw[hr];simp) (by simp)
  (fun t _ ht=>by simp[Array.getD,ht]) (ycH ops) (fun _ _ _ _=>trivial) (show Below _ _ _ from⟨rfl,rfl,rfl,ur _,fun _ _=>rfl⟩) trivial (by rw[hr];exact h)
 have hN:=K.size
 rwa [show N+(ops.size-N)=ops.size from by omega]at this
theorem yi5 {id:Nat} {a:Act} {w:B} {l:List Oper} (N:Nat) (D:List Nat) (hm:P.follows .mixedOrders=J) (hB:ydq l.toArray N N D=J) (hc:∀i o,i ∈ D->l[i]?=S o->ygi P o)
 (hQ:∀(d:Option Tmp) (v:un) c a w,Q (.panic c) (a.put d v) w->Q (.panic c) a w)
 (h:xT P l.toArray w (fun a'=>∀w',Below w.heap.size w w'->wpList P l.toArray Q (l.drop N) a' w') (l.take N) a):(Code.region id l.toArray J).wp P Q a w:=by
 have K:OkD P l.toArray w N N D (fun _ _ _=>True):=ygh hB (fun i o hi ho=>hc i o hi (by simpa using ho)) (fun i o h1 h2 _=>by omega) (fun _ _ _ _ _ _=>trivial)
 have Hg:N<=l.length:=by simpa using K.size
 refine qM hm K hQ ?_
 have hr:List.range N=H 0 (l.take N).length++[]:=by
  rw[O,kh Hg,kO,yB]
 rw[hr];refine xt (late:=[]) ?_ (l.take N) 0 a ?_ (by rw[O];omega) h
 ·intro a' hk w' sF _
  exact hk w' sF
 ·intro j o' hj
  have:l[j]?=S o':=by
   rw[kp]at hj;split at hj
   ·exact hj
   ·cases hj
  simpa using this
theorem yhW {id:Nat} {a:Act} {w:B} {l:List Oper} (n:Nat) (D:List Nat) (d:Tmp) (X:Obj) (o:Oper)
 (hm:P.follows .mixedOrders=J) (hB:ydq l.toArray n (n+1) D=J) (hc:∀i o,i ∈ D->l[i]?=S o->ygi P o) (ho:l[n]?=S o) (hd:o.dst=S d) (hg:o.guard=yV)
 (bJ:∀(a:Act) w,(execOp a.eval o).run P w= .ok (.value (.pointer (S ⟨w.heap.size,0,yV⟩))) (w.alloc X))
 (hQ:∀(d:Option Tmp) (v:un) c a w,Q (.panic c) (a.put d v) w->Q (.panic c) a w)
 (h:xT P l.toArray w (fun a'=>∀b w',Below w.heap.size w w'->w.heap.size<=b->w'.heap[b]?=S X->
   wpList P l.toArray Q (l.drop (n+1)) (a'.put (S d) (.pointer (S ⟨b,0,yV⟩))) w') (l.take n) a):(Code.region id l.toArray J).wp P Q a w:=by
 have Hg:n<l.length:=by
  rcases A n l.length with h'|h'
  ·exact h'
  ·rw[yP h']at ho;cases ho
 have K:OkD P l.toArray w n (n+1) D (fun _ v w'=>∃b,v= .pointer (S ⟨b,0,yV⟩)/\w.heap.size<=b/\w'.heap[b]?=S X):=by
  refine ygh hB (fun i o hi ho=>hc i o hi (by simpa using ho)) ?_ ?_
  ·intro i o' h1 h2 pu
   have hi:i=n:=by omega
   subst hi
   have he:o'=o:=by
    have h3:l[i]?=S o':=by simpa using pu
    rw[ho]at h3;cases h3;rfl
   subst he;refine⟨fun a=>by simp[Region.wanted,hg],fun a w1 mo=>⟨_,_,bJ a w1,?_,w1.heap.size,rfl,mo.size,by show(w1.heap.push X)[w1.heap.size]?=S X;simp⟩⟩;exact(Below.refl _ _).alloc (ur _) _
  ·rintro i v w1 w2 ⟨b,e,hb,hx⟩ fV
   refine⟨b,e,hb,?_⟩
   have Hf:b<w1.heap.size:=by
    rcases A b w1.heap.size with h'|h'
    ·exact h'
    ·rw[ua h']at hx;cases hx
   rw[Below.block fV b Hf];exact hx
 refine qM hm K hQ ?_
 have hr:List.range (n+1)=H 0 (l.take n).length++[n]:=by
  rw[O,kh (by omega),yT,kO]
 rw[hr];refine xt (late:=[n]) ?_ (l.take n) 0 a ?_ (by rw[O];omega) h
 ·intro a' hk
  refine⟨o,by simpa using ho,.inr ⟨ur _,fun v w' sF hI=> ?_⟩⟩;obtain⟨_,b,e,hb,hx⟩:=hI;subst e;rw[hd];exact hk b w' sF hb hx
 ·intro j o' hj
  have:l[j]?=S o':=by
   rw[kp]at hj;split at hj
   ·exact hj
   ·cases hj
  simpa using this
end
end Go.Proofs.YtdphiompijbelaaGreat.Loose
