import Derived.Deep.Quiet
import Derived.StillTail
import Derived.Below
import Derived.Lib.QuietBelow
import Derived.KernelRfl
open Array renaming getElem_append->H,replicate->W,getElem?_eq_none->kY,all_eq_true'->kV,ext->kH
open Nat renaming lt_or_ge->A,min_eq_left->kJ,le_refl->kP,zero_add->kU
open Option renaming some->T
open List renaming mem_range->S,all_eq_true->V,pairwise_cons->Z,range'->U,exists_cons_of_ne_nil->D,length_take->L,range_eq_range'->z,getElem?_take->kI,mem_cons->kC,length_erase_of_mem->kR,length_eq_zero_iff->kN,erase_cons_tail->kT,filter_eq_self->kF,getElem?_drop->kZ,length_cons->kO,length_drop->kK,append_nil->kX,drop_zero->kE
open Go renaming World->B,Value->kS,Calls->kD
open Bool renaming true->J,and_eq_true->O,false->E,or_eq_true->q,false_ne_true->kQ
namespace Go.Proofs.YtdphiompijbelaaGreat.Loose
open Go.RowKit Go.Sort
def G (w w':B):Prop:=Below w.heap.size w w'
theorem G.rfl {w:B}:G w w:=Below.refl _ _
theorem G.trans {a b c:B} (h:G a b) (k:G b c):G a c:=Below.trans h (Below.mono k h.size)
section
variable {P:Program} {ops:Array Oper} {w0:B} {n N:Nat} {R:Nat->kS->B->Prop} {Fin:Act->B->Prop}
def Yl (P:Program) (ops:Array Oper) (w0:B) (o:Oper) (a:Act) (v:kS):Prop:=
 (Region.wanted o (yielded ops a.tmps)=J/\∀w,G w0 w->o.quietAt P a (G w) w v)\/
 (Region.wanted o (yielded ops a.tmps)=E/\v=undef)
theorem Yl.put {o x:Oper} {a:Act} {v:kS} (hs:∀cs b,o.op≠ .select cs b) (h:∀d,x.dst=T d->d ∉ o.looksAt ops) (u:kS):
 Yl P ops w0 o (a.put x.dst u) v ↔ Yl P ops w0 o a v:=by
 unfold Yl Oper.quietAt;rw[execOp_put o hs a x.dst u h,wanted_put o a x.dst u h]
def vX (P:Program) (ops:Array Oper) (w0:B) (n:Nat) (R:Nat->kS->B->Prop) (Fin:Act->B->Prop):List Nat->Act->(B->Prop)->Prop
 | [],a,I=>∀w,G w0 w->I w->Fin a w
 | i::r,a,I=>∃o,ops[i]?=T o/\
    ((i<n/\∃v,Yl P ops w0 o a v/\vX P ops w0 n R Fin r (a.put o.dst v) I)\/
     (n<=i/\∀v,vX P ops w0 n R Fin r (a.put o.dst v) (fun w=>I w/\R i v w)))
theorem vX.mono:∀{l:List Nat} {a:Act} {I I':B->Prop},(∀w,I' w->I w)->vX P ops w0 n R Fin l a I->vX P ops w0 n R Fin l a I'
 | [],_,_,_,hi,h=>fun w hw hI=>h w hw (hi w hI)
 | _::_,_,_,_,hi,⟨o,ho,h⟩=>⟨o,ho,h.imp
    (fun⟨hn,v,hy,hk⟩=>⟨hn,v,hy,vX.mono hi hk⟩)
    (fun⟨hn,hk⟩=>⟨hn,fun v=>vX.mono (fun w hw=>⟨hi w hw.1,hw.2⟩) (hk v)⟩)⟩
theorem qQ (hsel:∀(j:Nat) (o:Oper) cs b,ops[j]?=T o->o.op≠ .select cs b) {j:Nat} {oj:Oper} (hj:ops[j]?=T oj) (hjn:j<n):
 ∀{l:List Nat} {a:Act} {I:B->Prop},l.Pairwise (· < ·)->j ∈ l->(∀i oi,i ∈ l->i<j->ops[i]?=T oi->oi.apart ops oj=J)->
  vX P ops w0 n R Fin l a I->∃v,Yl P ops w0 oj a v/\vX P ops w0 n R Fin (l.erase j) (a.put oj.dst v) I
 | [],_,_,_,hm,_,_=>by cases hm
 | i::r,a,I,hp,hm,hap,⟨o,ho,h⟩=>by
   by_cases hij:i=j
   ·subst hij
    rw[hj]at ho;cases ho;rcases h with ⟨_,v,hy,hk⟩|⟨hn,_⟩
    ·exact⟨v,hy,by simpa using hk⟩
    ·omega
   ·have hjr:j ∈ r:=by
     rcases kC.1 hm with e|e
     ·exact absurd e.symm hij
     ·exact e
    have hlt:i<j:=(Z.1 hp).1 j hjr;have hA:=hap i o (by simp) hlt ho;obtain⟨h1,h2,h3⟩:=Oper.apart_spec hA;rcases h with ⟨hin,v,hy,hk⟩|⟨hn,_⟩
    ·obtain⟨u,hu,hk'⟩:=qQ hsel hj hjn (Z.1 hp).2 hjr (fun k ok hkm=>hap k ok (by simp[hkm])) hk
     refine⟨u,(Yl.put (hsel j oj · · hj) h1 v).1 hu,?_⟩;rw[kT (by simpa using hij)];refine⟨o,ho,.inl ⟨hin,v,(Yl.put (hsel i o · · ho) h3 u).2 hy,?_⟩⟩;rw[<-Act.put_comm a v u h2];exact hk'
    ·omega
theorem qP (hsel:∀(j:Nat) (o:Oper) cs b,ops[j]?=T o->o.op≠ .select cs b) {j:Nat} {oj:Oper} (hj:ops[j]?=T oj) (hjn:n<=j) (u:kS):
 ∀{l:List Nat} {a:Act} {I:B->Prop},l.Pairwise (· < ·)->j ∈ l->(∀i oi,i ∈ l->i<j->ops[i]?=T oi->oi.apart ops oj=J)->
  vX P ops w0 n R Fin l a I->vX P ops w0 n R Fin (l.erase j) (a.put oj.dst u) (fun w=>I w/\R j u w)
 | [],_,_,_,hm,_,_=>by cases hm
 | i::r,a,I,hp,hm,hap,⟨o,ho,h⟩=>by
   by_cases hij:i=j
   ·subst hij
    rw[hj]at ho;cases ho;rcases h with ⟨hn,_⟩|⟨_,hk⟩
    ·omega
    ·simpa using hk u
   ·have hjr:j ∈ r:=by
     rcases kC.1 hm with e|e
     ·exact absurd e.symm hij
     ·exact e
    have hlt:i<j:=(Z.1 hp).1 j hjr;have hA:=hap i o (by simp) hlt ho;obtain⟨h1,h2,h3⟩:=Oper.apart_spec hA;rw[kT (by simpa using hij)];rcases h with ⟨hin,v,hy,hk⟩|⟨hn,hk⟩
    ·refine⟨o,ho,.inl ⟨hin,v,(Yl.put (hsel i o · · ho) h3 u).2 hy,?_⟩⟩
     rw[<-Act.put_comm a v u h2];exact qP hsel hj hjn u (Z.1 hp).2 hjr (fun k ok hkm=>hap k ok (by simp[hkm])) hk
    ·refine⟨o,ho,.inr ⟨hn,fun v=> ?_⟩⟩
     rw[<-Act.put_comm a v u h2];exact vX.mono (fun w hw=>⟨⟨hw.1.1,hw.2⟩,hw.1.2⟩) (qP hsel hj hjn u (Z.1 hp).2 hjr (fun k ok hkm=>hap k ok (by simp[hkm])) (hk v))
theorem xV {o:Oper} {a:Act} {C:B->Prop} {w:B} {v:kS} {K:Act->B->Prop} {Q:Exit->Act->B->Prop}
 (h:o.quietAt P a C w v) (hw:C w) (hK:∀w',C w'->K (a.put o.dst v) w'):o.wp P a w K Q:=by
 unfold Oper.quietAt at h;unfold Oper.wp;generalize (execOp a.eval o).run P w=r at*
 match r,h with
 | .ok (.value u) w',h=>obtain⟨e,e'⟩:=h;subst e e';exact hK _ hw
 | .ok .skip w',h=>obtain⟨e,e'⟩:=h;subst e e';exact hK _ hw
 | .ok (.enter f args) w',h=>obtain⟨e,hc⟩:=h;subst e;exact hc.mono fun _ _ ⟨he,h'⟩=>by subst he;exact hK _ h'
def yeI (ops:Array Oper) (N:Nat):Bool:=(List.range N).all fun j=>(List.range j).all fun i=>
 Region.waitsFor .any ops j i||(match ops[i]?,ops[j]? with|some oi,T oj=>oi.apart ops oj|_,_=>E)
def ycG (ops:Array Oper) (N:Nat):Bool:=(List.range N).all fun j=>
 match ops[j]? with|some o=>o.after.all fun e=> !Region.binds .any e||decide (e.on<j)|none=>E
def yfx (ops:Array Oper) (N:Nat):Bool:=(List.range ops.size).all fun t=>decide (t<N)||(List.range N).all fun i=>Region.waitsFor .any ops t i
def zD (N m:Nat):Array Bool:=W N J++W m E
def ybk (ops:Array Oper) (N:Nat):Bool:=
 decide (N<=ops.size)&&Region.noSelect ops&&yeI ops N&&ycG ops N&&yfx ops N&&Region.seqB .any ops (ops.size-N) N (zD N (ops.size-N))
def rst (N:Nat) (listed:Array Bool):List Nat:=(List.range N).filter fun i=> !listed.getD i J
theorem zu {N:Nat} {listed:Array Bool} {i:Nat}:i ∈ rst N listed ↔ i<N/\listed.getD i J=E:=by
 simp[rst]
theorem xK (N:Nat) (listed:Array Bool):(rst N listed).Pairwise (· < ·):=List.Pairwise.filter _ List.pairwise_lt_range
theorem qw {N:Nat} {listed:Array Bool} {i:Nat} (hi:i ∈ rst N listed):rst N (listed.setIfInBounds i J)=(rst N listed).erase i:=by
 have hd:(rst N listed).Nodup:=(xK N listed).imp (fun h=>Nat.ne_of_lt h);rw[hd.erase_eq_filter];unfold rst;rw[List.filter_filter]
 apply List.filter_congr
 intro x hx
 have hs:i<listed.size:=by
  have:=(zu.1 hi).2;rcases A i listed.size with h|h
  ·exact h
  ·simp[Array.getD,Nat.not_lt.2 h]at this
 by_cases hxi:x=i
 ·subst hxi
  simp[Array.getD,hs]
 ·have:(listed.setIfInBounds i J).getD x J=listed.getD x J:=getD_set_ne J (fun e=>hxi e.symm)
  simp[this,hxi]
structure Ok (P:Program) (ops:Array Oper) (w0:B) (n N:Nat) (R:Nat->kS->B->Prop):Prop where
 size:N<=ops.size
 sel:∀(j:Nat) (o:Oper) cs b,ops[j]?=T o->o.op≠ .select cs b
 pair:∀i j oi oj,i<j->j<N->ops[i]?=T oi->ops[j]?=T oj->(∀e ∈ oj.after,Region.binds .any e=J->e.on≠i)->oi.apart ops oj=J
 back:∀j o,j<N->ops[j]?=T o->∀e ∈ o.after,Region.binds .any e=J->e.on<j
 tail:∀t o,N<=t->ops[t]?=T o->∀i,i<N->∃e ∈ o.after,Region.binds .any e=J/\e.on=i
 seq:Region.seqB .any ops (ops.size-N) N (zD N (ops.size-N))=J
 loose:∀i o,n<=i->i<N->ops[i]?=T o->(∀a:Act,Region.wanted o (yielded ops a.tmps)=J)/\∀(a:Act) w,G w0 w->∃v w',(execOp a.eval o).run P w= .ok (.value v) w'/\G w w'/\R i v w'
 stable:∀i v w w',R i v w->G w w'->R i v w'
theorem yfv (hB:ybk ops N=J)
 (loose:∀i o,n<=i->i<N->ops[i]?=T o->(∀a:Act,Region.wanted o (yielded ops a.tmps)=J)/\∀(a:Act) w,G w0 w->∃v w',(execOp a.eval o).run P w= .ok (.value v) w'/\G w w'/\R i v w')
 (stable:∀i v w w',R i v w->G w w'->R i v w'):Ok P ops w0 n N R:=by
 simp only[ybk,O,decide_eq_true_eq]at hB;obtain⟨⟨⟨⟨⟨hN,hsel⟩,hpair⟩,hback⟩,htail⟩,hseq⟩:=hB;refine⟨hN,fun j o cs b hj=>Region.noSelect_spec hsel j o cs b hj,?_,?_,?_,hseq,loose,stable⟩
 ·intro i j oi oj hij hj hi hj' hno
  simp only[yeI,V,S]at hpair;have:=hpair j hj i hij;simp only[hi,hj',q]at this;rcases this with h|h
  ·obtain⟨oj',ho,e,he,hb,hon⟩:=Region.waitsFor_spec h
   rw[hj']at ho;cases ho;exact absurd hon (hno e he hb)
  ·exact h
 ·intro j o hj ho e he hb
  simp only[ycG,V,S]at hback;have:=hback j hj;simp only[ho,kV]at this;have:=this e he
  simpa[hb]using this
 ·intro t o ht ho i hi
  simp only[yfx,V,S]at htail
  have hts:t<ops.size:=by
   rcases A t ops.size with h|h
   ·exact h
   ·rw[kY h]at ho;cases ho
  have:=htail t hts;simp only[q,decide_eq_true_eq,V,S]at this;rcases this with h|h
  ·omega
  ·obtain⟨o',ho',e,he,hb,hon⟩:=Region.waitsFor_spec (h i hi)
   rw[ho]at ho';cases ho';exact⟨e,he,hb,hon⟩
theorem yb1 {Q:Exit->Act->B->Prop} (K:Ok P ops w0 n N R):
 ∀(k:Nat) (listed:Array Bool) (a:Act) (w:B) (I:B->Prop),(rst N listed).length=k->listed.size=ops.size->
  (∀t,N<=t->t<ops.size->listed.getD t J=E)->(∀w w',I w->G w w'->I w')->G w0 w->I w->
  vX P ops w0 n R (fun a w=>wpList P ops Q (ops.toList.drop N) a w) (rst N listed) a I->
  wpAny P .any ops Q (k+(ops.size-N)) listed a w:=by
 intro k
 induction k with
 | zero=>
   intro listed a w I hk hs ht hI hw hIw h;have hr:rst N listed=[]:=kN.1 hk;rw[hr]at h
   have hl:listed=zD N (ops.size-N):=by
    apply kH
    ·simp[zD,hs];have:=K.size;omega
    ·intro i h1 h2
     by_cases hi:i<N
     ·have:i ∉ rst N listed:=by rw[hr];simp
      have:listed.getD i J=J:=by
       cases hg:listed.getD i J
       ·exact absurd (zu.2 ⟨hi,hg⟩) this
       ·rfl
      simp only[Array.getD,h1,dite_true]at this;rw[show(zD N (ops.size-N))[i]=J from by simp[zD,hi]];exact this
     ·have:=ht i (by omega) (by omega)
      simp only[Array.getD,h1,dite_true]at this;rw[show(zD N (ops.size-N))[i]=E from by simp[zD,H,hi]];exact this
   have hf:=h w hw hIw
   have hlen:(ops.toList.drop N).length=ops.size-N:=by simp
   have:=wpAny_of_seq (P:=P) (md:= .any) (Q':=Q) (ops.toList.drop N) N listed a w (by intro j;simp) (by rw[hlen,hl];exact K.seq) hf;rw[hlen]at this
   simpa using this
 | succ k ih=>
   intro listed a w I hk hs ht hI hw hIw h
   have hne:rst N listed≠[]:=by intro e;rw[e]at hk;cases hk
   have e:k+1+(ops.size-N)=(k+(ops.size-N))+1:=by omega
   rw[e];refine⟨fun hr=> ?_,fun i hi=> ?_⟩
   ·exfalso
    obtain⟨i0,r,hr0⟩:=D hne
    have hm:i0 ∈ rst N listed:=by rw[hr0];simp
    obtain⟨hi0,hu0⟩:=zu.1 hm
    have hlt:i0<ops.size:=by have:=K.size;omega
    have:i0 ∈ Region.ready .any ops listed:=by
     refine mem_ready.2 ⟨hu0,ops[i0],by simp[hlt],fun e he hb=> ?_⟩;have hon:=K.back i0 ops[i0] hi0 (by simp[hlt]) e he hb
     have:e.on ∉ rst N listed:=by
      rw[hr0];intro hmem;rcases kC.1 hmem with h|h
      ·omega
      ·have hp:=xK N listed
       rw[hr0]at hp;have:=(Z.1 hp).1 _ h;omega
     have h1:listed.getD e.on J=J:=by
      cases hg:listed.getD e.on J
      ·exact absurd (zu.2 ⟨by omega,hg⟩) this
      ·rfl
     have hes:e.on<listed.size:=by omega
     simp only[Array.getD,hes,dite_true]at h1 ⊢;exact h1
    rw[hr]at this;cases this
   ·obtain⟨hu,o,ho,hall⟩:=mem_ready.1 hi
    have hiN:i<N:=by
     rcases A i N with h'|h'
     ·exact h'
     ·exfalso
      obtain⟨i0,r,hr0⟩:=D hne
      have hm:i0 ∈ rst N listed:=by rw[hr0];simp
      obtain⟨hi0,hu0⟩:=zu.1 hm;obtain⟨e,he,hb,hon⟩:=K.tail i o h' ho i0 hi0;have h1:=hall e he hb;rw[hon]at h1
      have hes:i0<listed.size:=by have:=K.size;omega
      simp only[Array.getD,hes,dite_true]at h1 hu0;rw[hu0]at h1;cases h1
    have him:i ∈ rst N listed:=zu.2 ⟨hiN,hu⟩
    have hapart:∀i' oi',i' ∈ rst N listed->i'<i->ops[i']?=T oi'->oi'.apart ops o=J:=by
     intro i' oi' hm' hlt ho';refine K.pair i' i oi' o hlt hiN ho' ho (fun e he hb hon=> ?_);have h1:=hall e he hb;have h2:=(zu.1 hm').2;rw[hon]at h1
     have hes:i'<listed.size:=by have:=K.size;omega
     simp only[Array.getD,hes,dite_true]at h1 h2;rw[h2]at h1;cases h1
    have hlen:(rst N (listed.setIfInBounds i J)).length=k:=by
     rw[qw him,kR him,hk];rfl
    have hsz:(listed.setIfInBounds i J).size=ops.size:=by simpa using hs
    have htl:∀t,N<=t->t<ops.size->(listed.setIfInBounds i J).getD t J=E:=by
     intro t h1 h2;rw[getD_set_ne J (by omega:¬i=t)];exact ht t h1 h2
    unfold wpOp;simp only[ho]
    by_cases hin:i<n
    ·obtain⟨v,hy,hL⟩:=qQ K.sel ho hin (xK N listed) him hapart h
     rw[<-qw him]at hL;rcases hy with ⟨hwant,hq⟩|⟨hwant,rfl⟩
     ·rw[if_pos hwant]
      left;exact xV (hq w hw) G.rfl (fun w' hg=>ih _ _ w' I hlen hsz htl hI (hw.trans hg) (hI _ _ hIw hg) hL)
     ·rw[if_neg (by rw[hwant];exact kQ)]
      exact ih _ _ w I hlen hsz htl hI hw hIw hL
    ·obtain⟨hwant,hrun⟩:=K.loose i o (by omega) hiN ho
     rw[if_pos (hwant a)];left;obtain⟨v,w',he,hg,hR⟩:=hrun a w hw;unfold Oper.wp;rw[he];have hL:=qP K.sel ho (by omega) v (xK N listed) him hapart h;rw[<-qw him]at hL;exact ih _ _ w' _ hlen hsz htl (fun x y hx hg=>⟨hI _ _ hx.1 hg,K.stable _ _ _ _ hx.2 hg⟩) (hw.trans hg) ⟨hI _ _ hIw hg,hR⟩ hL
theorem qL {id:Nat} {Q:Exit->Act->B->Prop} {a:Act} {w:B} (hm:P.follows .mixedOrders=J) (K:Ok P ops w n N R)
 (h:vX P ops w n R (fun a w=>wpList P ops Q (ops.toList.drop N) a w) (List.range N) a (fun _=>True)):(Code.region id ops J).wp P Q a w:=by
 refine wp_region_any hm ?_
 have hr:rst N (W ops.size E)=List.range N:=by
  unfold rst;rw[kF];intro i hi
  have:i<ops.size:=by have:=K.size;have:=S.1 hi;omega
  simp[Array.getD,this]
 have:=yb1 (Q:=Q) K N (W ops.size E) a {w with drawn:=w.drawn+1} (fun _=>True) (by rw[hr];simp) (by simp)
  (fun t _ ht=>by simp[Array.getD,ht]) (fun _ _ _ _=>trivial) (show Below _ _ _ from⟨rfl,rfl,rfl,kP _,fun _ _=>rfl⟩) trivial (by rw[hr];exact h)
 have hN:=K.size
 rwa [show N+(ops.size-N)=ops.size from by omega]at this
def gent (P:Program) (o:Oper) (a:Act) (w0:B) (K:Act->Prop):Prop:=
 ∃v,(∀p:Regrown,Oper.quietUpon P (fun w''=>G (grow (redrawn w0 p.d) p.os) w'') (grow (redrawn w0 p.d) p.os) v ((execOp a.eval o).run P (grow (redrawn w0 p.d) p.os)))/\K (a.put o.dst v)
def xg (P:Program) (ops:Array Oper) (w0:B) (K:Act->Prop):List Oper->Act->Prop
 | [],a=>K a
 | o::rest,a=>if Region.wanted o (yielded ops a.tmps)then gent P o a w0 (xg P ops w0 K rest)else xg P ops w0 K rest (a.put o.dst undef)
theorem calls {f:FuncId} {args:Array kS} {w:B} {v:kS} (h:kD P f args w fun e w'=>e= .returned v/\Below w.heap.size w w'):
 kD P f args w fun e w'=>e= .returned v/\G w w':=h
theorem ygB {f:FuncId} {args:Array kS} {w:B} {v:kS} (h:kD P f args w fun e w'=>e= .returned v/\w'=w):
 kD P f args w fun e w'=>e= .returned v/\G w w':=h.mono fun _ _ ⟨he,hw⟩=>⟨he,hw▸G.rfl⟩
theorem ygs {K:Act->Prop} {a:Act} (h:K a):xg P ops w0 K [] a:=h
theorem zS {K:Act->Prop} {a:Act} {o:Oper} {rest:List Oper}
 (h:∀k:Act->Prop,(∀a,xg P ops w0 K rest a->k a)->if Region.wanted o (yielded ops a.tmps)then gent P o a w0 k else k (a.put o.dst undef)):xg P ops w0 K (o::rest) a:=
 h _ (fun _ h=>h)
theorem zx {K:Act->Prop} {I:B->Prop} {late:List Nat} (hK:∀a,K a->vX P ops w0 n R Fin late a I):
 ∀(l:List Oper) (k:Nat) (a:Act),(∀j o,l[j]?=T o->ops[k+j]?=T o)->k+l.length<=n->xg P ops w0 K l a->vX P ops w0 n R Fin (U k l.length++late) a I
 | [],_,a,_,_,h=>by simpa using hK a h
 | o::l,k,a,hl,hn,h=>by
   have h0:ops[k]?=T o:=by simpa using hl 0 o rfl
   simp only[kO]at hn
   have hr:U k (o::l).length++late=k::(U (k+1) l.length++late):=by simp[List.range'_succ]
   rw[hr]
   have hl':∀j o',l[j]?=T o'->ops[k+1+j]?=T o':=fun j o' hj=>by
    have:=hl (j+1) o' (by simpa using hj)
    rwa [show k+(j+1)=k+1+j from by omega]at this
   refine⟨o,h0,.inl ⟨by omega,?_⟩⟩;unfold xg at h
   by_cases hw:Region.wanted o (yielded ops a.tmps)=J
   ·rw[if_pos hw]at h
    obtain⟨v,hv,hk⟩:=h;refine⟨v,.inl ⟨hw,fun w hg=> ?_⟩,zx hK l (k+1) _ hl' (by omega) hk⟩;obtain⟨p,rfl⟩:=regrown_of_below hg;exact hv p
   ·rw[if_neg hw]at h
    exact⟨undef,.inr ⟨by simpa using hw,rfl⟩,zx hK l (k+1) _ hl' (by omega) h⟩
theorem ygR {id:Nat} {Q:Exit->Act->B->Prop} {a:Act} {w:B} {l:List Oper} (n:Nat) (d:Tmp) (X:Obj) (o:Oper)
 (hm:P.follows .mixedOrders=J) (hB:ybk l.toArray (n+1)=J) (ho:l[n]?=T o) (hd:o.dst=T d) (hg:o.guard=none)
 (hrun:∀(a:Act) w,(execOp a.eval o).run P w= .ok (.value (.pointer (T ⟨w.heap.size,0,none⟩))) (w.alloc X))
 (h:xg P l.toArray w (fun a'=>∀b w',Below w.heap.size w w'->w.heap.size<=b->w'.heap[b]?=T X->
   wpList P l.toArray Q (l.drop (n+1)) (a'.put (T d) (.pointer (T ⟨b,0,none⟩))) w') (l.take n) a):(Code.region id l.toArray J).wp P Q a w:=by
 have hlen:n<l.length:=by
  rcases A n l.length with h'|h'
  ·exact h'
  ·rw[List.getElem?_eq_none h']at ho;cases ho
 refine qL (n:=n) (N:=n+1) (R:=fun _ v w'=>∃b,v= .pointer (T ⟨b,0,none⟩)/\w.heap.size<=b/\w'.heap[b]?=T X) hm (yfv hB ?_ ?_) ?_
 ·intro i o' h1 h2 ho'
  have hi:i=n:=by omega
  subst hi
  have he:o'=o:=by
   have h3:l[i]?=T o':=by simpa using ho'
   rw[ho]at h3;cases h3;rfl
  subst he;refine⟨fun a=>by simp[Region.wanted,hg],fun a w1 hw1=>⟨_,_,hrun a w1,?_,w1.heap.size,rfl,hw1.size,by show(w1.heap.push X)[w1.heap.size]?=T X;simp⟩⟩;exact(Below.refl _ _).alloc (kP _) _
 ·rintro i v w1 w2 ⟨b,e,hb,hx⟩ hg2
  refine⟨b,e,hb,?_⟩
  have hlt:b<w1.heap.size:=by
   rcases A b w1.heap.size with h'|h'
   ·exact h'
   ·rw[kY h']at hx;cases hx
  rw[Below.block hg2 b hlt];exact hx
 ·have hr:List.range (n+1)=U 0 (l.take n).length++[n]:=by
   rw[L,kJ (by omega),List.range_succ,z]
  rw[hr];refine zx (late:=[n]) ?_ (l.take n) 0 a ?_ (by rw[L];omega) h
  ·intro a' hk
   refine⟨o,by simpa using ho,.inr ⟨kP _,fun v w' hw' hI=> ?_⟩⟩;obtain⟨_,b,e,hb,hx⟩:=hI;subst e;rw[hd];exact hk b w' hw' hb hx
  ·intro j o' hj
   have:l[j]?=T o':=by
    rw[kI]at hj;split at hj
    ·exact hj
    ·cases hj
   simpa using this
theorem yg5 {id:Nat} {Q:Exit->Act->B->Prop} {a:Act} {w:B} {l:List Oper} (n:Nat)
 (hm:P.follows .mixedOrders=J) (hB:ybk l.toArray n=J)
 (h:xg P l.toArray w (fun a'=>∀w',Below w.heap.size w w'->wpList P l.toArray Q (l.drop n) a' w') (l.take n) a):(Code.region id l.toArray J).wp P Q a w:=by
 have hlen:n<=l.length:=by
  simp only[ybk,O,decide_eq_true_eq]at hB
  simpa using hB.1.1.1.1.1
 refine qL (n:=n) (N:=n) (R:=fun _ _ _=>True) hm (yfv hB (fun i o h1 h2 _=>by omega) (fun _ _ _ _ _ _=>trivial)) ?_
 have hr:List.range n=U 0 (l.take n).length++[]:=by
  rw[L,kJ hlen,z,kX]
 rw[hr];refine zx (late:=[]) ?_ (l.take n) 0 a ?_ (by rw[L];omega) h
 ·intro a' hk w' hw' _
  exact hk w' hw'
 ·intro j o' hj
  have:l[j]?=T o':=by
   rw[kI]at hj;split at hj
   ·exact hj
   ·cases hj
  simpa using this
end
def vG (ops:Array Oper):Nat->Nat->Nat->Bool
 | 0,t,i=>Region.waitsFor .any ops t i
 | f+1,t,i=>Region.waitsFor .any ops t i||(List.range ops.size).any fun m=>Region.waitsFor .any ops t m&&vG ops f m i
def yfw (ops:Array Oper) (s N:Nat):Bool:=(List.range N).all fun j=>(List.range j).all fun i=>
 decide (i<s)||(Region.waitsFor .any ops j i||(match ops[i]?,ops[j]? with|some oi,T oj=>oi.apart ops oj|_,_=>E))
def yfy (ops:Array Oper) (s N:Nat):Bool:=(List.range ops.size).all fun t=>decide (t<N)||(List.range N).all fun i=>decide (i<s)||vG ops N t i
def yay (ops:Array Oper) (s N:Nat):Bool:=decide (s<=N)&&decide (N<=ops.size)&&Region.noSelect ops&&yfw ops s N&&ycG ops N&&yfy ops s N
def jg (ops:Array Oper) (listed:Array Bool):Prop:=∀j o,ops[j]?=T o->listed.getD j E=J->∀e ∈ o.after,Region.binds .any e=J->listed.getD e.on E=J
theorem qI {ops:Array Oper} {listed:Array Bool} (hc:jg ops listed):∀(f t i:Nat) (o:Oper),ops[t]?=T o->(∀e ∈ o.after,Region.binds .any e=J->listed.getD e.on E=J)->vG ops f t i=J->listed.getD i E=J
 | 0,t,i,o,ho,h,hr=>by
   obtain⟨o',ho',e,he,hb,hon⟩:=Region.waitsFor_spec hr;rw[ho]at ho';cases ho';rw[<-hon];exact h e he hb
 | f+1,t,i,o,ho,h,hr=>by
   simp only[vG,q,List.any_eq_true,S,O]at hr;rcases hr with hr|⟨m,hm,h1,h2⟩
   ·obtain⟨o',ho',e,he,hb,hon⟩:=Region.waitsFor_spec hr
    rw[ho]at ho';cases ho';rw[<-hon];exact h e he hb
   ·obtain⟨o',ho',e,he,hb,hon⟩:=Region.waitsFor_spec h1
    rw[ho]at ho';cases ho'
    have hl:listed.getD m E=J:=by rw[<-hon];exact h e he hb
    have hom:ops[m]?=T ops[m]:=by simp[hm]
    exact qI hc f m i _ hom (hc m _ hom hl) h2
section
variable {P:Program} {ops:Array Oper} {w0:B} {s N:Nat} {Q:Exit->Act->B->Prop}
structure OkS (ops:Array Oper) (s N:Nat):Prop where
 le:s<=N
 size:N<=ops.size
 sel:∀(j:Nat) (o:Oper) cs b,ops[j]?=T o->o.op≠ .select cs b
 pair:∀i j oi oj,s<=i->i<j->j<N->ops[i]?=T oi->ops[j]?=T oj->(∀e ∈ oj.after,Region.binds .any e=J->e.on≠i)->oi.apart ops oj=J
 back:∀j o,j<N->ops[j]?=T o->∀e ∈ o.after,Region.binds .any e=J->e.on<j
 tail:∀t,N<=t->t<ops.size->∀i,s<=i->i<N->vG ops N t i=J
theorem yfu (hB:yay ops s N=J):OkS ops s N:=by
 simp only[yay,O,decide_eq_true_eq]at hB;obtain⟨⟨⟨⟨⟨hs,hN⟩,hsel⟩,hpair⟩,hback⟩,htail⟩:=hB;refine⟨hs,hN,fun j o cs b hj=>Region.noSelect_spec hsel j o cs b hj,?_,?_,?_⟩
 ·intro i j oi oj hsi hij hj hi hj' hno
  simp only[yfw,V,S]at hpair;have:=hpair j hj i hij;simp only[hi,hj',q,decide_eq_true_eq]at this;rcases this with h|h|h
  ·omega
  ·obtain⟨oj',ho,e,he,hb,hon⟩:=Region.waitsFor_spec h
   rw[hj']at ho;cases ho;exact absurd hon (hno e he hb)
  ·exact h
 ·intro j o hj ho e he hb
  simp only[ycG,V,S]at hback;have:=hback j hj;simp only[ho,kV]at this;have:=this e he
  simpa[hb]using this
 ·intro t ht hts i hsi hi
  simp only[yfy,V,S]at htail;have:=htail t hts;simp only[q,decide_eq_true_eq,V,S]at this;rcases this with h|h
  ·omega
  ·rcases h i hi with h|h
   ·omega
   ·exact h
theorem yb2 (K:OkS ops s N):
 ∀(k:Nat) (listed:Array Bool) (a:Act) (w:B),(rst N listed).length=k->listed.size=ops.size->
  (∀t,N<=t->t<ops.size->listed.getD t J=E)->(∀t,t<s->listed.getD t J=J)->jg ops listed->G w0 w->
  vX P ops w0 N (fun _ _ _=>True) (fun a w=>wpAny P .any ops Q (ops.size-N) (zD N (ops.size-N)) a w) (rst N listed) a (fun _=>True)->
  wpAny P .any ops Q (k+(ops.size-N)) listed a w:=by
 intro k
 induction k with
 | zero=>
   intro listed a w hk hs ht hst hc hw h;have hr:rst N listed=[]:=kN.1 hk;rw[hr]at h
   have hl:listed=zD N (ops.size-N):=by
    apply kH
    ·simp[zD,hs];have:=K.size;omega
    ·intro i h1 h2
     by_cases hi:i<N
     ·have:i ∉ rst N listed:=by rw[hr];simp
      have:listed.getD i J=J:=by
       cases hg:listed.getD i J
       ·exact absurd (zu.2 ⟨hi,hg⟩) this
       ·rfl
      simp only[Array.getD,h1,dite_true]at this;rw[show(zD N (ops.size-N))[i]=J from by simp[zD,hi]];exact this
     ·have:=ht i (by omega) (by omega)
      simp only[Array.getD,h1,dite_true]at this;rw[show(zD N (ops.size-N))[i]=E from by simp[zD,H,hi]];exact this
   rw[kU,hl];exact h w hw trivial
 | succ k ih=>
   intro listed a w hk hs ht hst hc hw h
   have hne:rst N listed≠[]:=by intro e;rw[e]at hk;cases hk
   have e:k+1+(ops.size-N)=(k+(ops.size-N))+1:=by omega
   rw[e];refine⟨fun hr=> ?_,fun i hi=> ?_⟩
   ·exfalso
    obtain⟨i0,r,hr0⟩:=D hne
    have hm:i0 ∈ rst N listed:=by rw[hr0];simp
    obtain⟨hi0,hu0⟩:=zu.1 hm
    have hlt:i0<ops.size:=by have:=K.size;omega
    have:i0 ∈ Region.ready .any ops listed:=by
     refine mem_ready.2 ⟨hu0,ops[i0],by simp[hlt],fun e he hb=> ?_⟩;have hon:=K.back i0 ops[i0] hi0 (by simp[hlt]) e he hb
     have:e.on ∉ rst N listed:=by
      rw[hr0];intro hmem;rcases kC.1 hmem with h|h
      ·omega
      ·have hp:=xK N listed
       rw[hr0]at hp;have:=(Z.1 hp).1 _ h;omega
     have h1:listed.getD e.on J=J:=by
      cases hg:listed.getD e.on J
      ·exact absurd (zu.2 ⟨by omega,hg⟩) this
      ·rfl
     have hes:e.on<listed.size:=by omega
     simp only[Array.getD,hes,dite_true]at h1 ⊢;exact h1
    rw[hr]at this;cases this
   ·obtain⟨hu,o,ho,hall⟩:=mem_ready.1 hi
    have his:i<ops.size:=(Array.getElem?_eq_some_iff.1 ho).1
    have hiN:i<N:=by
     rcases A i N with h'|h'
     ·exact h'
     ·exfalso
      obtain⟨i0,r,hr0⟩:=D hne
      have hm:i0 ∈ rst N listed:=by rw[hr0];simp
      obtain⟨hi0,hu0⟩:=zu.1 hm
      have hsi:s<=i0:=by
       rcases A i0 s with h''|h''
       ·rw[hst i0 h'']at hu0;cases hu0
       ·exact h''
      have h1:=qI hc N i i0 o ho hall (K.tail i h' his i0 hsi hi0)
      have hes:i0<listed.size:=by have:=K.size;omega
      simp only[Array.getD,hes,dite_true]at h1 hu0;rw[hu0]at h1;cases h1
    have him:i ∈ rst N listed:=zu.2 ⟨hiN,hu⟩
    have hapart:∀i' oi',i' ∈ rst N listed->i'<i->ops[i']?=T oi'->oi'.apart ops o=J:=by
     intro i' oi' hm' hlt ho';have h2:=(zu.1 hm').2
     have hsi:s<=i':=by
      rcases A i' s with h''|h''
      ·rw[hst i' h'']at h2;cases h2
      ·exact h''
     refine K.pair i' i oi' o hsi hlt hiN ho' ho (fun e he hb hon=> ?_);have h1:=hall e he hb;rw[hon]at h1
     have hes:i'<listed.size:=by have:=K.size;omega
     simp only[Array.getD,hes,dite_true]at h1 h2;rw[h2]at h1;cases h1
    have hlen:(rst N (listed.setIfInBounds i J)).length=k:=by
     rw[qw him,kR him,hk];rfl
    have hsz:(listed.setIfInBounds i J).size=ops.size:=by simpa using hs
    have htl:∀t,N<=t->t<ops.size->(listed.setIfInBounds i J).getD t J=E:=by
     intro t h1 h2;rw[getD_set_ne J (by omega:¬i=t)];exact ht t h1 h2
    have hst':∀t,t<s->(listed.setIfInBounds i J).getD t J=J:=by
     intro t h1
     by_cases e:i=t
     ·subst e
      simp[Array.getD]
     ·rw[getD_set_ne J e]
      exact hst t h1
    have hmono:∀x,listed.getD x E=J->(listed.setIfInBounds i J).getD x E=J:=by
     intro x hx
     by_cases e:i=x
     ·subst e
      have:i<listed.size:=by omega
      simp[Array.getD,this]
     ·rw[getD_set_ne E e]
      exact hx
    have hc':jg ops (listed.setIfInBounds i J):=by
     intro j oj hj hl e he hb
     by_cases e':i=j
     ·subst e'
      rw[ho]at hj;cases hj;exact hmono _ (hall e he hb)
     ·rw[getD_set_ne E e']at hl
      exact hmono _ (hc j oj hj hl e he hb)
    unfold wpOp;simp only[ho];obtain⟨v,hy,hL⟩:=qQ K.sel ho hiN (xK N listed) him hapart h;rw[<-qw him]at hL;rcases hy with ⟨hwant,hq⟩|⟨hwant,rfl⟩
    ·rw[if_pos hwant]
     left;exact xV (hq w hw) G.rfl (fun w' hg=>ih _ _ w' hlen hsz htl hst' hc' (hw.trans hg) hL)
    ·rw[if_neg (by rw[hwant];exact kQ)]
     exact ih _ _ w hlen hsz htl hst' hc' hw hL
theorem yaW {a:Act} {w:B} {l:List Oper} (s N:Nat) (hB:yay l.toArray s N=J) (hG:G w0 w)
 (h:xg P l.toArray w0 (fun a'=>∀w',Below w0.heap.size w0 w'->wpAny P .any l.toArray Q (l.toArray.size-N) (zD N (l.toArray.size-N)) a' w') ((l.take N).drop s) a):
 wpAny P .any l.toArray Q (l.toArray.size-s) (zD s (l.toArray.size-s)) a w:=by
 have K:=yfu hB;have hsz:=K.size;have hle:=K.le
 have hlen:l.toArray.size=l.length:=by simp
 have hr:rst N (zD s (l.toArray.size-s))=U s (N-s):=by
  have hrng:List.range N=List.range s++U s (N-s):=by
   have h:=List.range'_append_1 (s:=0) (m:=s) (n:=N-s);rw[kU,show s+(N-s)=N by omega]at h;rw[z,z,h]
  unfold rst;rw[hrng,List.filter_append]
  have h1:(List.range s).filter (fun i=> !(zD s (l.toArray.size-s)).getD i J)=[]:=by
   rw[List.filter_eq_nil_iff];intro i hi;have hi:=S.1 hi
   have:i<(zD s (l.toArray.size-s)).size:=by simp[zD];omega
   simp only[Array.getD,this,dite_true];rw[show(zD s (l.toArray.size-s)).getInternal i this=J from by simp[zD,hi]];decide
  have h2:(U s (N-s)).filter (fun i=> !(zD s (l.toArray.size-s)).getD i J)=U s (N-s):=by
   rw[kF];intro i hi;have hi:=List.mem_range'_1.1 hi
   have:i<(zD s (l.toArray.size-s)).size:=by simp[zD];omega
   simp only[Array.getD,this,dite_true];rw[show(zD s (l.toArray.size-s)).getInternal i this=E from by simp[zD,H];omega];decide
  rw[h1,h2,List.nil_append]
 have hk:(rst N (zD s (l.toArray.size-s))).length=N-s:=by rw[hr];simp
 have:=yb2 (P:=P) (w0:=w0) (Q:=Q) K (N-s) (zD s (l.toArray.size-s)) a w hk (by simp[zD];omega) ?_ ?_ ?_ hG ?_
 ·rwa [show N-s+(l.toArray.size-N)=l.toArray.size-s by omega]at this
 ·intro t h1 h2
  have:t<(zD s (l.toArray.size-s)).size:=by simp[zD];omega
  simp only[Array.getD,this,dite_true];simp[zD,H];omega
 ·intro t h1
  have:t<(zD s (l.toArray.size-s)).size:=by simp[zD];omega
  simp only[Array.getD,this,dite_true];simp[zD,h1]
 ·intro j o ho hl e he hb
  have hj:j<s:=by
   rcases A j s with h'|h'
   ·exact h'
   ·exfalso
    by_cases hjs:j<(zD s (l.toArray.size-s)).size
    ·simp only[Array.getD,hjs,dite_true]at hl
     simp[zD,H]at hl;omega
    ·rw[Array.getD,dif_neg hjs]at hl
     cases hl
  have hon:=K.back j o (by omega) ho e he hb
  have:e.on<(zD s (l.toArray.size-s)).size:=by simp[zD];omega
  simp only[Array.getD,this,dite_true];simp[zD,show e.on<s by omega]
 ·rw[hr]
  have hl2:((l.take N).drop s).length=N-s:=by rw[kK,L,kJ (by omega)]
  have hrr:U s (N-s)=U s ((l.take N).drop s).length++[]:=by rw[hl2,kX]
  rw[hrr];refine zx (late:=[]) ?_ ((l.take N).drop s) s a ?_ (by rw[hl2];omega) h
  ·intro a' hk w' hw' _
   exact hk w' hw'
  ·intro j o' hj
   rw[kZ,kI]at hj;split at hj
   ·simpa using hj
   ·cases hj
theorem yfm {o:Oper} {a:Act} {w:B} {K:Act->B->Prop} {X:Act->B->Prop} (h:o.wp P a w K (Exit.then X Q)):o.wp P a w K Q:=by
 unfold Oper.wp at*;generalize (execOp a.eval o).run P w=r at*
 cases r with
 | ok n w'=>
   cases n<;>simp only[Oper.upon]at h ⊢ <;>
    first
     | exact h
     | exact Calls.mono h (fun e w'' he=>by cases e<;>exact he)
 | halt x w'=>cases x<;>simp only[Oper.upon]at h ⊢ <;>exact h
theorem yfl {o:Oper} {a:Act} {w:B} {K:Act->B->Prop} {X Y:Act->B->Prop} (h:o.wp P a w K (Exit.then X Q)):o.wp P a w K (Exit.then Y Q):=by
 unfold Oper.wp at*;generalize (execOp a.eval o).run P w=r at*
 cases r with
 | ok n w'=>
   cases n<;>simp only[Oper.upon]at h ⊢ <;>
    first
     | exact h
     | exact Calls.mono h (fun e w'' he=>by cases e<;>exact he)
 | halt x w'=>cases x<;>simp only[Oper.upon]at h ⊢ <;>exact h
def yeR (ops:Array Oper):Nat->Nat->Array Bool->Bool
 | 0,_,_=>J
 | g+1,k,listed=>decide (Region.ready .any ops listed=[k])&&yeR ops g (k+1) (listed.setIfInBounds k J)
def yfj:Nat->Nat->Array Bool->Array Bool
 | 0,_,listed=>listed
 | g+1,k,listed=>yfj g (k+1) (listed.setIfInBounds k J)
theorem ycE {F:Nat}:∀(l:List Oper) (k:Nat) (listed:Array Bool) (a:Act) (w:B),(∀j,j<l.length->l[j]?=ops[k+j]?)->yeR ops l.length k listed=J->
 wpList P ops (Exit.then (fun a w=>wpAny P .any ops Q F (yfj l.length k listed) a w) Q) l a w->wpAny P .any ops Q (l.length+F) listed a w
 | [],_,_,_,_,_,_,h=>by rw[List.length_nil,kU];exact h
 | o::l,k,listed,a,w,hl,hB,h=>by
   have h0:ops[k]?=T o:=by simpa using (hl 0 (by simp)).symm
   simp only[kO,yeR,O,decide_eq_true_eq]at hB;rw[show(o::l).length+F=(l.length+F)+1 by simp;omega];refine⟨fun h1=>(by rw[hB.1]at h1;cases h1),fun i hi=> ?_⟩;rw[hB.1]at hi
   have hik:i=k:=by simpa using hi
   subst hik;have ih:=fun a' w' h'=>ycE (F:=F) l (i+1) (listed.setIfInBounds i J) a' w' (fun j hj=>by have:=hl (j+1) (by simpa using hj);simpa[Nat.add_assoc,Nat.add_comm 1 j]using this) hB.2 h';unfold wpOp;simp only[h0];simp only[wpList]at h;split
   ·rename_i hw
    rw[if_pos hw]at h;rcases h with h|⟨h1,h2⟩
    ·exact .inl (Oper.wp_mono ih (yfm h))
    ·exact .inr ⟨h1,h2⟩
   ·rename_i hw
    rw[if_neg hw]at h;exact ih _ _ h
theorem qG {K K':Act->Prop} (hK:∀a,K a->K' a):∀(l:List Oper) (a:Act),xg P ops w0 K l a->xg P ops w0 K' l a
 | [],a,h=>hK a h
 | o::l,a,h=>by
   unfold xg at h ⊢;split
   ·rename_i hw
    rw[if_pos hw]at h;obtain⟨v,hv,hk⟩:=h;exact⟨v,hv,qG hK l _ hk⟩
   ·rename_i hw
    rw[if_neg hw]at h;exact qG hK l _ h
theorem vx {X Y:Act->B->Prop} (hX:∀a w,X a w->Y a w):∀(l:List Oper) (a:Act) (w:B),wpList P ops (Exit.then X Q) l a w->wpList P ops (Exit.then Y Q) l a w
 | [],a,w,h=>hX a w h
 | o::l,a,w,h=>by
   unfold wpList at h ⊢;split
   ·rename_i hw
    rw[if_pos hw]at h;rcases h with h|⟨h1,h2⟩
    ·exact .inl (yfl (Oper.wp_mono (fun a w h=>vx hX l a w h) h))
    ·exact .inr ⟨h1,h2⟩
   ·rename_i hw
    rw[if_neg hw]at h;exact vx hX l _ w h
theorem ygt {id:Nat} {a:Act} {w:B} {l:List Oper} (N:Nat) (hm:P.follows .mixedOrders=J) (hB:(yay l.toArray 0 N&&Region.seqB .any l.toArray (l.toArray.size-N) N (zD N (l.toArray.size-N)))=J)
 (h:xg P l.toArray w (fun a'=>∀w',Below w.heap.size w w'->wpList P l.toArray Q (l.drop N) a' w') (l.take N) a):(Code.region id l.toArray J).wp P Q a w:=by
 rw[O]at hB;refine wp_region_any hm ?_
 have hs:(W l.toArray.size E)=zD 0 (l.toArray.size-0):=by simp[zD]
 have hd:(l.drop N).length=l.toArray.size-N:=by simp
 rw[hs];refine yaW (w0:=w) 0 N hB.1 (show Below _ _ _ from⟨rfl,rfl,rfl,kP _,fun _ _=>rfl⟩) ?_;rw[kE];refine qG (fun a' h1 w' hw'=> ?_) _ _ h;have:=wpAny_of_seq (P:=P) (md:= .any) (Q':=Q) (ops:=l.toArray) (l.drop N) N (zD N (l.toArray.size-N)) a' w' (by intro j;simp) (by rw[hd];exact hB.2) (h1 w' hw')
 rwa [hd]at this
theorem wp_region_late2 {id:Nat} {a:Act} {w:B} {l:List Oper} (N M N':Nat) (hm:P.follows .mixedOrders=J)
 (hB:(yay l.toArray 0 N&&yeR l.toArray (M-N) N (zD N (l.toArray.size-N))&&decide (yfj (M-N) N (zD N (l.toArray.size-N))=zD M (l.toArray.size-M))&&decide (N<=M)&&decide (M<=l.toArray.size)&&yay l.toArray M N'&&Region.seqB .any l.toArray (l.toArray.size-N') N' (zD N' (l.toArray.size-N')))=J)
 (h:xg P l.toArray w (fun a'=>∀w',Below w.heap.size w w'->wpList P l.toArray (Exit.then (fun a2 w2=>xg P l.toArray w2 (fun a3=>∀w3,Below w2.heap.size w2 w3->wpList P l.toArray Q (l.drop N') a3 w3) ((l.take N').drop M) a2) Q) ((l.take M).drop N) a' w') (l.take N) a):(Code.region id l.toArray J).wp P Q a w:=by
 simp only[O,decide_eq_true_eq]at hB;obtain⟨⟨⟨⟨⟨⟨hB1,hB2⟩,hB3⟩,hNM⟩,hMs⟩,hB4⟩,hB5⟩:=hB;refine wp_region_any hm ?_
 have hs:(W l.toArray.size E)=zD 0 (l.toArray.size-0):=by simp[zD]
 have hd:(l.drop N').length=l.toArray.size-N':=by simp
 have hlen:l.toArray.size=l.length:=by simp
 rw[hs];refine yaW (w0:=w) 0 N hB1 (show Below _ _ _ from⟨rfl,rfl,rfl,kP _,fun _ _=>rfl⟩) ?_;rw[kE];refine qG (fun a' h1 w' hw'=> ?_) _ _ h;have h2:=h1 w' hw'
 have hl2:((l.take M).drop N).length=M-N:=by rw[kK,L,kJ (by omega)]
 have:=ycE (P:=P) (Q:=Q) (ops:=l.toArray) (F:=l.toArray.size-M) ((l.take M).drop N) N (zD N (l.toArray.size-N)) a' w' ?_ (by rw[hl2];exact hB2) ?_
 ·rwa [hl2,show M-N+(l.toArray.size-M)=l.toArray.size-N by omega]at this
 ·intro j hj
  rw[hl2]at hj;rw[kZ,kI,if_pos (by omega)];simp
 ·rw[hl2,hB3]
  refine vx (fun a2 w2 h3=> ?_) _ _ _ h2;refine yaW (w0:=w2) M N' hB4 G.rfl ?_;refine qG (fun a3 h4 w3 hw3=> ?_) _ _ h3;have:=wpAny_of_seq (P:=P) (md:= .any) (Q':=Q) (ops:=l.toArray) (l.drop N') N' (zD N' (l.toArray.size-N')) a3 w3 (by intro j;simp) (by rw[hd];exact hB5) (h4 w3 hw3)
  rwa [hd]at this
end
end Go.Proofs.YtdphiompijbelaaGreat.Loose
