import Derived.Deep.Quiet
import Derived.StillTail
import Derived.Below
import Derived.Lib.QuietBelow
import Derived.KernelRfl
import Derived.Lib.AtoiAllCases
import Derived.Lib.ItoaNum
import Derived.Lib.IndexMore
import Derived.Lib.TrimByte
set_option linter.all false
open Nat renaming lt_or_ge->U,le_refl->kJ,min_eq_left->kB,zero_add->kO
open Array renaming getElem?_eq_some_iff->Z,getElem_append->A,replicate->L,getElem?_eq_none->kC,all_eq_true'->kN,ext->kU
open List renaming mem_range->Y,all_eq_true->T,pairwise_cons->F,length_take->O,range'->M,exists_cons_of_ne_nil->E,range_eq_range'->H,getElem?_take->q,mem_cons->kI,length_erase_of_mem->kP,length_eq_zero_iff->kS,filter_eq_self->kR,append_nil->kT,getElem?_eq_none->kF,erase_cons_tail->kV,range_succ->kZ
open Go renaming World->S,Value->g,Calls->kK
open Option renaming some->B,none->kQ
open Bool renaming true->J,false->V,or_eq_true->W,and_eq_true->z,false_ne_true->kY
namespace Go.Proofs.YtdphiompijbelaaGreatDoor.Loose
open Go.RowKit Go.Sort
def G (w w':S):Prop:=Below w.heap.size w w'
theorem G.rfl {w:S}:G w w:=Below.refl _ _
theorem G.trans {a b c:S} (h:G a b) (k:G b c):G a c:=Below.trans h (Below.mono k h.size)
section
variable {P:Program} {ops:Array Oper} {w0:S} {n N:Nat} {R:Nat->g->S->Prop} {Fin:Act->S->Prop}
def Yl (P:Program) (ops:Array Oper) (w0:S) (o:Oper) (a:Act) (v:g):Prop:=
 (Region.wanted o (yielded ops a.tmps)=J/\∀w,G w0 w->o.quietAt P a (G w) w v)\/
 (Region.wanted o (yielded ops a.tmps)=V/\v=undef)
theorem Yl.put {o x:Oper} {a:Act} {v:g} (hs:∀cs b,o.op≠ .select cs b) (h:∀d,x.dst=B d->d ∉ o.looksAt ops) (u:g):
 Yl P ops w0 o (a.put x.dst u) v ↔ Yl P ops w0 o a v:=by
 unfold Yl Oper.quietAt;rw[execOp_put o hs a x.dst u h,wanted_put o a x.dst u h]
def yah (P:Program) (ops:Array Oper) (w0:S) (n:Nat) (R:Nat->g->S->Prop) (Fin:Act->S->Prop):List Nat->Act->(S->Prop)->Prop
 | [],a,I=>∀w,G w0 w->I w->Fin a w
 | i::r,a,I=>∃o,ops[i]?=B o/\
    ((i<n/\∃v,Yl P ops w0 o a v/\yah P ops w0 n R Fin r (a.put o.dst v) I)\/
     (n<=i/\∀v,yah P ops w0 n R Fin r (a.put o.dst v) (fun w=>I w/\R i v w)))
theorem yah.mono:∀{l:List Nat} {a:Act} {I I':S->Prop},(∀w,I' w->I w)->yah P ops w0 n R Fin l a I->yah P ops w0 n R Fin l a I'
 | [],_,_,_,hi,h=>fun w hw hI=>h w hw (hi w hI)
 | _::_,_,_,_,hi,⟨o,ho,h⟩=>⟨o,ho,h.imp
    (fun⟨hn,v,hy,hk⟩=>⟨hn,v,hy,yah.mono hi hk⟩)
    (fun⟨hn,hk⟩=>⟨hn,fun v=>yah.mono (fun w hw=>⟨hi w hw.1,hw.2⟩) (hk v)⟩)⟩
theorem qV (hsel:∀(j:Nat) (o:Oper) cs b,ops[j]?=B o->o.op≠ .select cs b) {j:Nat} {oj:Oper} (hj:ops[j]?=B oj) (hjn:j<n):
 ∀{l:List Nat} {a:Act} {I:S->Prop},l.Pairwise (· < ·)->j ∈ l->(∀i oi,i ∈ l->i<j->ops[i]?=B oi->oi.apart ops oj=J)->
  yah P ops w0 n R Fin l a I->∃v,Yl P ops w0 oj a v/\yah P ops w0 n R Fin (l.erase j) (a.put oj.dst v) I
 | [],_,_,_,hm,_,_=>by cases hm
 | i::r,a,I,hp,hm,hap,⟨o,ho,h⟩=>by
   by_cases hij:i=j
   ·subst hij
    rw[hj]at ho;cases ho;rcases h with ⟨_,v,hy,hk⟩|⟨hn,_⟩
    ·exact⟨v,hy,by simpa using hk⟩
    ·omega
   ·have hjr:j ∈ r:=by
     rcases kI.1 hm with e|e
     ·exact absurd e.symm hij
     ·exact e
    have hlt:i<j:=(F.1 hp).1 j hjr;have hA:=hap i o (by simp) hlt ho;obtain⟨h1,h2,h3⟩:=Oper.apart_spec hA;rcases h with ⟨hin,v,hy,hk⟩|⟨hn,_⟩
    ·obtain⟨u,hu,hk'⟩:=qV hsel hj hjn (F.1 hp).2 hjr (fun k ok hkm=>hap k ok (by simp[hkm])) hk
     refine⟨u,(Yl.put (hsel j oj · · hj) h1 v).1 hu,?_⟩;rw[kV (by simpa using hij)];refine⟨o,ho,.inl ⟨hin,v,(Yl.put (hsel i o · · ho) h3 u).2 hy,?_⟩⟩;rw[<-Act.put_comm a v u h2];exact hk'
    ·omega
theorem qU (hsel:∀(j:Nat) (o:Oper) cs b,ops[j]?=B o->o.op≠ .select cs b) {j:Nat} {oj:Oper} (hj:ops[j]?=B oj) (hjn:n<=j) (u:g):
 ∀{l:List Nat} {a:Act} {I:S->Prop},l.Pairwise (· < ·)->j ∈ l->(∀i oi,i ∈ l->i<j->ops[i]?=B oi->oi.apart ops oj=J)->
  yah P ops w0 n R Fin l a I->yah P ops w0 n R Fin (l.erase j) (a.put oj.dst u) (fun w=>I w/\R j u w)
 | [],_,_,_,hm,_,_=>by cases hm
 | i::r,a,I,hp,hm,hap,⟨o,ho,h⟩=>by
   by_cases hij:i=j
   ·subst hij
    rw[hj]at ho;cases ho;rcases h with ⟨hn,_⟩|⟨_,hk⟩
    ·omega
    ·simpa using hk u
   ·have hjr:j ∈ r:=by
     rcases kI.1 hm with e|e
     ·exact absurd e.symm hij
     ·exact e
    have hlt:i<j:=(F.1 hp).1 j hjr;have hA:=hap i o (by simp) hlt ho;obtain⟨h1,h2,h3⟩:=Oper.apart_spec hA;rw[kV (by simpa using hij)];rcases h with ⟨hin,v,hy,hk⟩|⟨hn,hk⟩
    ·refine⟨o,ho,.inl ⟨hin,v,(Yl.put (hsel i o · · ho) h3 u).2 hy,?_⟩⟩
     rw[<-Act.put_comm a v u h2];exact qU hsel hj hjn u (F.1 hp).2 hjr (fun k ok hkm=>hap k ok (by simp[hkm])) hk
    ·refine⟨o,ho,.inr ⟨hn,fun v=> ?_⟩⟩
     rw[<-Act.put_comm a v u h2];exact yah.mono (fun w hw=>⟨⟨hw.1.1,hw.2⟩,hw.1.2⟩) (qU hsel hj hjn u (F.1 hp).2 hjr (fun k ok hkm=>hap k ok (by simp[hkm])) (hk v))
theorem qu {o:Oper} {a:Act} {C:S->Prop} {w:S} {v:g} {K:Act->S->Prop} {Q:Exit->Act->S->Prop}
 (h:o.quietAt P a C w v) (hw:C w) (hK:∀w',C w'->K (a.put o.dst v) w'):o.wp P a w K Q:=by
 unfold Oper.quietAt at h;unfold Oper.wp;generalize (execOp a.eval o).run P w=r at*
 match r,h with
 | .ok (.value u) w',h=>obtain⟨e,e'⟩:=h;subst e e';exact hK _ hw
 | .ok .skip w',h=>obtain⟨e,e'⟩:=h;subst e e';exact hK _ hw
 | .ok (.enter f args) w',h=>obtain⟨e,hc⟩:=h;subst e;exact hc.mono fun _ _ ⟨he,h'⟩=>by subst he;exact hK _ h'
def ye3 (ops:Array Oper) (N:Nat):Bool:=(List.range N).all fun j=>(List.range j).all fun i=>
 Region.waitsFor .any ops j i||(match ops[i]?,ops[j]? with|some oi,B oj=>oi.apart ops oj|_,_=>V)
def ycQ (ops:Array Oper) (N:Nat):Bool:=(List.range N).all fun j=>
 match ops[j]? with|some o=>o.after.all fun e=> !Region.binds .any e||decide (e.on<j)|none=>V
def ygb (ops:Array Oper) (N:Nat):Bool:=(List.range ops.size).all fun t=>decide (t<N)||(List.range N).all fun i=>Region.waitsFor .any ops t i
def zD (N m:Nat):Array Bool:=L N J++L m V
def ybq (ops:Array Oper) (N:Nat):Bool:=
 decide (N<=ops.size)&&Region.noSelect ops&&ye3 ops N&&ycQ ops N&&ygb ops N&&Region.seqB .any ops (ops.size-N) N (zD N (ops.size-N))
def rst (N:Nat) (listed:Array Bool):List Nat:=(List.range N).filter fun i=> !listed.getD i J
theorem zq {N:Nat} {listed:Array Bool} {i:Nat}:i ∈ rst N listed ↔ i<N/\listed.getD i J=V:=by
 simp[rst]
theorem xz (N:Nat) (listed:Array Bool):(rst N listed).Pairwise (· < ·):=List.Pairwise.filter _ List.pairwise_lt_range
theorem qt {N:Nat} {listed:Array Bool} {i:Nat} (hi:i ∈ rst N listed):rst N (listed.setIfInBounds i J)=(rst N listed).erase i:=by
 have hd:(rst N listed).Nodup:=(xz N listed).imp (fun h=>Nat.ne_of_lt h);rw[hd.erase_eq_filter];unfold rst;rw[List.filter_filter]
 apply List.filter_congr
 intro x hx
 have hs:i<listed.size:=by
  have:=(zq.1 hi).2;rcases U i listed.size with h|h
  ·exact h
  ·simp[Array.getD,Nat.not_lt.2 h]at this
 by_cases hxi:x=i
 ·subst hxi
  simp[Array.getD,hs]
 ·have:(listed.setIfInBounds i J).getD x J=listed.getD x J:=getD_set_ne J (fun e=>hxi e.symm)
  simp[this,hxi]
structure Ok (P:Program) (ops:Array Oper) (w0:S) (n N:Nat) (R:Nat->g->S->Prop):Prop where
 size:N<=ops.size
 sel:∀(j:Nat) (o:Oper) cs b,ops[j]?=B o->o.op≠ .select cs b
 pair:∀i j oi oj,i<j->j<N->ops[i]?=B oi->ops[j]?=B oj->(∀e ∈ oj.after,Region.binds .any e=J->e.on≠i)->oi.apart ops oj=J
 back:∀j o,j<N->ops[j]?=B o->∀e ∈ o.after,Region.binds .any e=J->e.on<j
 tail:∀t o,N<=t->ops[t]?=B o->∀i,i<N->∃e ∈ o.after,Region.binds .any e=J/\e.on=i
 seq:Region.seqB .any ops (ops.size-N) N (zD N (ops.size-N))=J
 loose:∀i o,n<=i->i<N->ops[i]?=B o->(∀a:Act,Region.wanted o (yielded ops a.tmps)=J)/\∀(a:Act) w,G w0 w->∃v w',(execOp a.eval o).run P w= .ok (.value v) w'/\G w w'/\R i v w'
 stable:∀i v w w',R i v w->G w w'->R i v w'
theorem yf3 (hB:ybq ops N=J)
 (loose:∀i o,n<=i->i<N->ops[i]?=B o->(∀a:Act,Region.wanted o (yielded ops a.tmps)=J)/\∀(a:Act) w,G w0 w->∃v w',(execOp a.eval o).run P w= .ok (.value v) w'/\G w w'/\R i v w')
 (stable:∀i v w w',R i v w->G w w'->R i v w'):Ok P ops w0 n N R:=by
 simp only[ybq,z,decide_eq_true_eq]at hB;obtain⟨⟨⟨⟨⟨hN,hsel⟩,hpair⟩,hback⟩,htail⟩,hseq⟩:=hB;refine⟨hN,fun j o cs b hj=>Region.noSelect_spec hsel j o cs b hj,?_,?_,?_,hseq,loose,stable⟩
 ·intro i j oi oj hij hj hi hj' hno
  simp only[ye3,T,Y]at hpair;have:=hpair j hj i hij;simp only[hi,hj',W]at this;rcases this with h|h
  ·obtain⟨oj',ho,e,he,hb,hon⟩:=Region.waitsFor_spec h
   rw[hj']at ho;cases ho;exact absurd hon (hno e he hb)
  ·exact h
 ·intro j o hj ho e he hb
  simp only[ycQ,T,Y]at hback;have:=hback j hj;simp only[ho,kN]at this;have:=this e he
  simpa[hb]using this
 ·intro t o ht ho i hi
  simp only[ygb,T,Y]at htail
  have hts:t<ops.size:=by
   rcases U t ops.size with h|h
   ·exact h
   ·rw[kC h]at ho;cases ho
  have:=htail t hts;simp only[W,decide_eq_true_eq,T,Y]at this;rcases this with h|h
  ·omega
  ·obtain⟨o',ho',e,he,hb,hon⟩:=Region.waitsFor_spec (h i hi)
   rw[ho]at ho';cases ho';exact⟨e,he,hb,hon⟩
theorem yca {Q:Exit->Act->S->Prop} (K:Ok P ops w0 n N R):
 ∀(k:Nat) (listed:Array Bool) (a:Act) (w:S) (I:S->Prop),(rst N listed).length=k->listed.size=ops.size->
  (∀t,N<=t->t<ops.size->listed.getD t J=V)->(∀w w',I w->G w w'->I w')->G w0 w->I w->
  yah P ops w0 n R (fun a w=>wpList P ops Q (ops.toList.drop N) a w) (rst N listed) a I->
  wpAny P .any ops Q (k+(ops.size-N)) listed a w:=by
 intro k
 induction k with
 | zero=>
   intro listed a w I hk hs ht hI hw hIw h;have hr:rst N listed=[]:=kS.1 hk;rw[hr]at h
   have hl:listed=zD N (ops.size-N):=by
    apply kU
    ·simp[zD,hs];have:=K.size;omega
    ·intro i h1 h2
     by_cases hi:i<N
     ·have:i ∉ rst N listed:=by rw[hr];simp
      have:listed.getD i J=J:=by
       cases hg:listed.getD i J
       ·exact absurd (zq.2 ⟨hi,hg⟩) this
       ·rfl
      simp only[Array.getD,h1,dite_true]at this;rw[show(zD N (ops.size-N))[i]=J from by simp[zD,hi]];exact this
     ·have:=ht i (by omega) (by omega)
      simp only[Array.getD,h1,dite_true]at this;rw[show(zD N (ops.size-N))[i]=V from by simp[zD,A,hi]];exact this
   have hf:=h w hw hIw
   have hlen:(ops.toList.drop N).length=ops.size-N:=by simp
   have:=wpAny_of_seq (P:=P) (md:= .any) (Q':=Q) (ops.toList.drop N) N listed a w (by intro j;simp) (by rw[hlen,hl];exact K.seq) hf;rw[hlen]at this
   simpa using this
 | succ k ih=>
   intro listed a w I hk hs ht hI hw hIw h
   have hne:rst N listed≠[]:=by intro e;rw[e]at hk;cases hk
   have e:k+1+(ops.size-N)=(k+(ops.size-N))+1:=by omega
   rw[e];refine⟨fun hr=> ?_,fun i hi=> ?_⟩
   ·exfalso
    obtain⟨i0,r,hr0⟩:=E hne
    have hm:i0 ∈ rst N listed:=by rw[hr0];simp
    obtain⟨hi0,hu0⟩:=zq.1 hm
    have hlt:i0<ops.size:=by have:=K.size;omega
    have:i0 ∈ Region.ready .any ops listed:=by
     refine mem_ready.2 ⟨hu0,ops[i0],by simp[hlt],fun e he hb=> ?_⟩;have hon:=K.back i0 ops[i0] hi0 (by simp[hlt]) e he hb
     have:e.on ∉ rst N listed:=by
      rw[hr0];intro hmem;rcases kI.1 hmem with h|h
      ·omega
      ·have hp:=xz N listed
       rw[hr0]at hp;have:=(F.1 hp).1 _ h;omega
     have h1:listed.getD e.on J=J:=by
      cases hg:listed.getD e.on J
      ·exact absurd (zq.2 ⟨by omega,hg⟩) this
      ·rfl
     have hes:e.on<listed.size:=by omega
     simp only[Array.getD,hes,dite_true]at h1 ⊢;exact h1
    rw[hr]at this;cases this
   ·obtain⟨hu,o,ho,hall⟩:=mem_ready.1 hi
    have hiN:i<N:=by
     rcases U i N with h'|h'
     ·exact h'
     ·exfalso
      obtain⟨i0,r,hr0⟩:=E hne
      have hm:i0 ∈ rst N listed:=by rw[hr0];simp
      obtain⟨hi0,hu0⟩:=zq.1 hm;obtain⟨e,he,hb,hon⟩:=K.tail i o h' ho i0 hi0;have h1:=hall e he hb;rw[hon]at h1
      have hes:i0<listed.size:=by have:=K.size;omega
      simp only[Array.getD,hes,dite_true]at h1 hu0;rw[hu0]at h1;cases h1
    have him:i ∈ rst N listed:=zq.2 ⟨hiN,hu⟩
    have hapart:∀i' oi',i' ∈ rst N listed->i'<i->ops[i']?=B oi'->oi'.apart ops o=J:=by
     intro i' oi' hm' hlt ho';refine K.pair i' i oi' o hlt hiN ho' ho (fun e he hb hon=> ?_);have h1:=hall e he hb;have h2:=(zq.1 hm').2;rw[hon]at h1
     have hes:i'<listed.size:=by have:=K.size;omega
     simp only[Array.getD,hes,dite_true]at h1 h2;rw[h2]at h1;cases h1
    have hlen:(rst N (listed.setIfInBounds i J)).length=k:=by
     rw[qt him,kP him,hk];rfl
    have hsz:(listed.setIfInBounds i J).size=ops.size:=by simpa using hs
    have htl:∀t,N<=t->t<ops.size->(listed.setIfInBounds i J).getD t J=V:=by
     intro t h1 h2;rw[getD_set_ne J (by omega:¬i=t)];exact ht t h1 h2
    unfold wpOp;simp only[ho]
    by_cases hin:i<n
    ·obtain⟨v,hy,hL⟩:=qV K.sel ho hin (xz N listed) him hapart h
     rw[<-qt him]at hL;rcases hy with ⟨hwant,hq⟩|⟨hwant,rfl⟩
     ·rw[if_pos hwant]
      left;exact qu (hq w hw) G.rfl (fun w' hg=>ih _ _ w' I hlen hsz htl hI (hw.trans hg) (hI _ _ hIw hg) hL)
     ·rw[if_neg (by rw[hwant];exact kY)]
      exact ih _ _ w I hlen hsz htl hI hw hIw hL
    ·obtain⟨hwant,hrun⟩:=K.loose i o (by omega) hiN ho
     rw[if_pos (hwant a)];left;obtain⟨v,w',he,hg,hR⟩:=hrun a w hw;unfold Oper.wp;rw[he];have hL:=qU K.sel ho (by omega) v (xz N listed) him hapart h;rw[<-qt him]at hL;exact ih _ _ w' _ hlen hsz htl (fun x y hx hg=>⟨hI _ _ hx.1 hg,K.stable _ _ _ _ hx.2 hg⟩) (hw.trans hg) ⟨hI _ _ hIw hg,hR⟩ hL
theorem qO {id:Nat} {Q:Exit->Act->S->Prop} {a:Act} {w:S} (hm:P.follows .mixedOrders=J) (K:Ok P ops w n N R)
 (h:yah P ops w n R (fun a w=>wpList P ops Q (ops.toList.drop N) a w) (List.range N) a (fun _=>True)):(Code.region id ops J).wp P Q a w:=by
 refine wp_region_any hm ?_
 have hr:rst N (L ops.size V)=List.range N:=by
  unfold rst;rw[kR];intro i hi
  have:i<ops.size:=by have:=K.size;have:=Y.1 hi;omega
  simp[Array.getD,this]
 have:=yca (Q:=Q) K N (L ops.size V) a {w with drawn:=w.drawn+1} (fun _=>True) (by rw[hr];simp) (by simp)
  (fun t _ ht=>by simp[Array.getD,ht]) (fun _ _ _ _=>trivial) (show Below _ _ _ from⟨rfl,rfl,rfl,kJ _,fun _ _=>rfl⟩) trivial (by rw[hr];exact h)
 have hN:=K.size
 rwa [show N+(ops.size-N)=ops.size from by omega]at this
def gent (P:Program) (o:Oper) (a:Act) (w0:S) (K:Act->Prop):Prop:=
 ∃v,(∀p:Regrown,Oper.quietUpon P (fun w''=>G (grow (redrawn w0 p.d) p.os) w'') (grow (redrawn w0 p.d) p.os) v ((execOp a.eval o).run P (grow (redrawn w0 p.d) p.os)))/\K (a.put o.dst v)
def xH (P:Program) (ops:Array Oper) (w0:S) (K:Act->Prop):List Oper->Act->Prop
 | [],a=>K a
 | o::rest,a=>if Region.wanted o (yielded ops a.tmps)then gent P o a w0 (xH P ops w0 K rest)else xH P ops w0 K rest (a.put o.dst undef)
theorem calls {f:FuncId} {args:Array g} {w:S} {v:g} (h:kK P f args w fun e w'=>e= .returned v/\Below w.heap.size w w'):
 kK P f args w fun e w'=>e= .returned v/\G w w':=h
theorem yjW {f:FuncId} {args:Array g} {w:S} {v:g} (h:kK P f args w fun e w'=>e= .returned v/\w'=w):
 kK P f args w fun e w'=>e= .returned v/\G w w':=h.mono fun _ _ ⟨he,hw⟩=>⟨he,hw▸G.rfl⟩
theorem yho {K:Act->Prop} {a:Act} (h:K a):xH P ops w0 K [] a:=h
theorem zS {K:Act->Prop} {a:Act} {o:Oper} {rest:List Oper}
 (h:∀k:Act->Prop,(∀a,xH P ops w0 K rest a->k a)->if Region.wanted o (yielded ops a.tmps)then gent P o a w0 k else k (a.put o.dst undef)):xH P ops w0 K (o::rest) a:=
 h _ (fun _ h=>h)
theorem zO {K:Act->Prop} {I:S->Prop} {late:List Nat} (hK:∀a,K a->yah P ops w0 n R Fin late a I):
 ∀(l:List Oper) (k:Nat) (a:Act),(∀j o,l[j]?=B o->ops[k+j]?=B o)->k+l.length<=n->xH P ops w0 K l a->yah P ops w0 n R Fin (M k l.length++late) a I
 | [],_,a,_,_,h=>by simpa using hK a h
 | o::l,k,a,hl,hn,h=>by
   have h0:ops[k]?=B o:=by simpa using hl 0 o rfl
   simp only[List.length_cons]at hn
   have hr:M k (o::l).length++late=k::(M (k+1) l.length++late):=by simp[List.range'_succ]
   rw[hr]
   have hl':∀j o',l[j]?=B o'->ops[k+1+j]?=B o':=fun j o' hj=>by
    have:=hl (j+1) o' (by simpa using hj)
    rwa [show k+(j+1)=k+1+j from by omega]at this
   refine⟨o,h0,.inl ⟨by omega,?_⟩⟩;unfold xH at h
   by_cases hw:Region.wanted o (yielded ops a.tmps)=J
   ·rw[if_pos hw]at h
    obtain⟨v,hv,hk⟩:=h;refine⟨v,.inl ⟨hw,fun w hg=> ?_⟩,zO hK l (k+1) _ hl' (by omega) hk⟩;obtain⟨p,rfl⟩:=regrown_of_below hg;exact hv p
   ·rw[if_neg hw]at h
    exact⟨undef,.inr ⟨by simpa using hw,rfl⟩,zO hK l (k+1) _ hl' (by omega) h⟩
theorem wp_region_alloc {id:Nat} {Q:Exit->Act->S->Prop} {a:Act} {w:S} {l:List Oper} (n:Nat) (d:Tmp) (X:Obj) (o:Oper)
 (hm:P.follows .mixedOrders=J) (hB:ybq l.toArray (n+1)=J) (ho:l[n]?=B o) (hd:o.dst=B d) (hg:o.guard=kQ)
 (hrun:∀(a:Act) w,(execOp a.eval o).run P w= .ok (.value (.pointer (B ⟨w.heap.size,0,kQ⟩))) (w.alloc X))
 (h:xH P l.toArray w (fun a'=>∀b w',Below w.heap.size w w'->w.heap.size<=b->w'.heap[b]?=B X->
   wpList P l.toArray Q (l.drop (n+1)) (a'.put (B d) (.pointer (B ⟨b,0,kQ⟩))) w') (l.take n) a):(Code.region id l.toArray J).wp P Q a w:=by
 have hlen:n<l.length:=by
  rcases U n l.length with h'|h'
  ·exact h'
  ·rw[kF h']at ho;cases ho
 refine qO (n:=n) (N:=n+1) (R:=fun _ v w'=>∃b,v= .pointer (B ⟨b,0,kQ⟩)/\w.heap.size<=b/\w'.heap[b]?=B X) hm (yf3 hB ?_ ?_) ?_
 ·intro i o' h1 h2 ho'
  have hi:i=n:=by omega
  subst hi
  have he:o'=o:=by
   have h3:l[i]?=B o':=by simpa using ho'
   rw[ho]at h3;cases h3;rfl
  subst he;refine⟨fun a=>by simp[Region.wanted,hg],fun a w1 hw1=>⟨_,_,hrun a w1,?_,w1.heap.size,rfl,hw1.size,by show(w1.heap.push X)[w1.heap.size]?=B X;simp⟩⟩;exact(Below.refl _ _).alloc (kJ _) _
 ·rintro i v w1 w2 ⟨b,e,hb,hx⟩ hg2
  refine⟨b,e,hb,?_⟩
  have hlt:b<w1.heap.size:=by
   rcases U b w1.heap.size with h'|h'
   ·exact h'
   ·rw[kC h']at hx;cases hx
  rw[Below.block hg2 b hlt];exact hx
 ·have hr:List.range (n+1)=M 0 (l.take n).length++[n]:=by
   rw[O,kB (by omega),kZ,H]
  rw[hr];refine zO (late:=[n]) ?_ (l.take n) 0 a ?_ (by rw[O];omega) h
  ·intro a' hk
   refine⟨o,by simpa using ho,.inr ⟨kJ _,fun v w' hw' hI=> ?_⟩⟩;obtain⟨_,b,e,hb,hx⟩:=hI;subst e;rw[hd];exact hk b w' hw' hb hx
  ·intro j o' hj
   have:l[j]?=B o':=by
    rw[q]at hj;split at hj
    ·exact hj
    ·cases hj
   simpa using this
theorem wp_region_store {id:Nat} {Q:Exit->Act->S->Prop} {a:Act} {w:S} {l:List Oper} (n:Nat)
 (hm:P.follows .mixedOrders=J) (hB:ybq l.toArray n=J)
 (h:xH P l.toArray w (fun a'=>∀w',Below w.heap.size w w'->wpList P l.toArray Q (l.drop n) a' w') (l.take n) a):(Code.region id l.toArray J).wp P Q a w:=by
 have hlen:n<=l.length:=by
  simp only[ybq,z,decide_eq_true_eq]at hB
  simpa using hB.1.1.1.1.1
 refine qO (n:=n) (N:=n) (R:=fun _ _ _=>True) hm (yf3 hB (fun i o h1 h2 _=>by omega) (fun _ _ _ _ _ _=>trivial)) ?_
 have hr:List.range n=M 0 (l.take n).length++[]:=by
  rw[O,kB hlen,H,kT]
 rw[hr];refine zO (late:=[]) ?_ (l.take n) 0 a ?_ (by rw[O];omega) h
 ·intro a' hk w' hw' _
  exact hk w' hw'
 ·intro j o' hj
  have:l[j]?=B o':=by
   rw[q]at hj;split at hj
   ·exact hj
   ·cases hj
  simpa using this
end
def vB (ops:Array Oper):Nat->Nat->Nat->Bool
 | 0,t,i=>Region.waitsFor .any ops t i
 | f+1,t,i=>Region.waitsFor .any ops t i||(List.range ops.size).any fun m=>Region.waitsFor .any ops t m&&vB ops f m i
def yf4 (ops:Array Oper) (s N:Nat):Bool:=(List.range N).all fun j=>(List.range j).all fun i=>
 decide (i<s)||(Region.waitsFor .any ops j i||(match ops[i]?,ops[j]? with|some oi,B oj=>oi.apart ops oj|_,_=>V))
def ygc (ops:Array Oper) (s N:Nat):Bool:=(List.range ops.size).all fun t=>decide (t<N)||(List.range N).all fun i=>decide (i<s)||vB ops N t i
def ycK (ops:Array Oper) (s N:Nat):Bool:=decide (s<=N)&&decide (N<=ops.size)&&Region.noSelect ops&&yf4 ops s N&&ycQ ops N&&ygc ops s N
def yag (ops:Array Oper) (listed:Array Bool):Prop:=∀j o,ops[j]?=B o->listed.getD j V=J->∀e ∈ o.after,Region.binds .any e=J->listed.getD e.on V=J
theorem qL {ops:Array Oper} {listed:Array Bool} (hc:yag ops listed):∀(f t i:Nat) (o:Oper),ops[t]?=B o->(∀e ∈ o.after,Region.binds .any e=J->listed.getD e.on V=J)->vB ops f t i=J->listed.getD i V=J
 | 0,t,i,o,ho,h,hr=>by
   obtain⟨o',ho',e,he,hb,hon⟩:=Region.waitsFor_spec hr;rw[ho]at ho';cases ho';rw[<-hon];exact h e he hb
 | f+1,t,i,o,ho,h,hr=>by
   simp only[vB,W,List.any_eq_true,Y,z]at hr;rcases hr with hr|⟨m,hm,h1,h2⟩
   ·obtain⟨o',ho',e,he,hb,hon⟩:=Region.waitsFor_spec hr
    rw[ho]at ho';cases ho';rw[<-hon];exact h e he hb
   ·obtain⟨o',ho',e,he,hb,hon⟩:=Region.waitsFor_spec h1
    rw[ho]at ho';cases ho'
    have hl:listed.getD m V=J:=by rw[<-hon];exact h e he hb
    have hom:ops[m]?=B ops[m]:=by simp[hm]
    exact qL hc f m i _ hom (hc m _ hom hl) h2
section
variable {P:Program} {ops:Array Oper} {w0:S} {s N:Nat} {Q:Exit->Act->S->Prop}
structure OkS (ops:Array Oper) (s N:Nat):Prop where
 le:s<=N
 size:N<=ops.size
 sel:∀(j:Nat) (o:Oper) cs b,ops[j]?=B o->o.op≠ .select cs b
 pair:∀i j oi oj,s<=i->i<j->j<N->ops[i]?=B oi->ops[j]?=B oj->(∀e ∈ oj.after,Region.binds .any e=J->e.on≠i)->oi.apart ops oj=J
 back:∀j o,j<N->ops[j]?=B o->∀e ∈ o.after,Region.binds .any e=J->e.on<j
 tail:∀t,N<=t->t<ops.size->∀i,s<=i->i<N->vB ops N t i=J
theorem yf2 (hB:ycK ops s N=J):OkS ops s N:=by
 simp only[ycK,z,decide_eq_true_eq]at hB;obtain⟨⟨⟨⟨⟨hs,hN⟩,hsel⟩,hpair⟩,hback⟩,htail⟩:=hB;refine⟨hs,hN,fun j o cs b hj=>Region.noSelect_spec hsel j o cs b hj,?_,?_,?_⟩
 ·intro i j oi oj hsi hij hj hi hj' hno
  simp only[yf4,T,Y]at hpair;have:=hpair j hj i hij;simp only[hi,hj',W,decide_eq_true_eq]at this;rcases this with h|h|h
  ·omega
  ·obtain⟨oj',ho,e,he,hb,hon⟩:=Region.waitsFor_spec h
   rw[hj']at ho;cases ho;exact absurd hon (hno e he hb)
  ·exact h
 ·intro j o hj ho e he hb
  simp only[ycQ,T,Y]at hback;have:=hback j hj;simp only[ho,kN]at this;have:=this e he
  simpa[hb]using this
 ·intro t ht hts i hsi hi
  simp only[ygc,T,Y]at htail;have:=htail t hts;simp only[W,decide_eq_true_eq,T,Y]at this;rcases this with h|h
  ·omega
  ·rcases h i hi with h|h
   ·omega
   ·exact h
theorem ycb (K:OkS ops s N):
 ∀(k:Nat) (listed:Array Bool) (a:Act) (w:S),(rst N listed).length=k->listed.size=ops.size->
  (∀t,N<=t->t<ops.size->listed.getD t J=V)->(∀t,t<s->listed.getD t J=J)->yag ops listed->G w0 w->
  yah P ops w0 N (fun _ _ _=>True) (fun a w=>wpAny P .any ops Q (ops.size-N) (zD N (ops.size-N)) a w) (rst N listed) a (fun _=>True)->
  wpAny P .any ops Q (k+(ops.size-N)) listed a w:=by
 intro k
 induction k with
 | zero=>
   intro listed a w hk hs ht hst hc hw h;have hr:rst N listed=[]:=kS.1 hk;rw[hr]at h
   have hl:listed=zD N (ops.size-N):=by
    apply kU
    ·simp[zD,hs];have:=K.size;omega
    ·intro i h1 h2
     by_cases hi:i<N
     ·have:i ∉ rst N listed:=by rw[hr];simp
      have:listed.getD i J=J:=by
       cases hg:listed.getD i J
       ·exact absurd (zq.2 ⟨hi,hg⟩) this
       ·rfl
      simp only[Array.getD,h1,dite_true]at this;rw[show(zD N (ops.size-N))[i]=J from by simp[zD,hi]];exact this
     ·have:=ht i (by omega) (by omega)
      simp only[Array.getD,h1,dite_true]at this;rw[show(zD N (ops.size-N))[i]=V from by simp[zD,A,hi]];exact this
   rw[kO,hl];exact h w hw trivial
 | succ k ih=>
   intro listed a w hk hs ht hst hc hw h
   have hne:rst N listed≠[]:=by intro e;rw[e]at hk;cases hk
   have e:k+1+(ops.size-N)=(k+(ops.size-N))+1:=by omega
   rw[e];refine⟨fun hr=> ?_,fun i hi=> ?_⟩
   ·exfalso
    obtain⟨i0,r,hr0⟩:=E hne
    have hm:i0 ∈ rst N listed:=by rw[hr0];simp
    obtain⟨hi0,hu0⟩:=zq.1 hm
    have hlt:i0<ops.size:=by have:=K.size;omega
    have:i0 ∈ Region.ready .any ops listed:=by
     refine mem_ready.2 ⟨hu0,ops[i0],by simp[hlt],fun e he hb=> ?_⟩;have hon:=K.back i0 ops[i0] hi0 (by simp[hlt]) e he hb
     have:e.on ∉ rst N listed:=by
      rw[hr0];intro hmem;rcases kI.1 hmem with h|h
      ·omega
      ·have hp:=xz N listed
       rw[hr0]at hp;have:=(F.1 hp).1 _ h;omega
     have h1:listed.getD e.on J=J:=by
      cases hg:listed.getD e.on J
      ·exact absurd (zq.2 ⟨by omega,hg⟩) this
      ·rfl
     have hes:e.on<listed.size:=by omega
     simp only[Array.getD,hes,dite_true]at h1 ⊢;exact h1
    rw[hr]at this;cases this
   ·obtain⟨hu,o,ho,hall⟩:=mem_ready.1 hi
    have his:i<ops.size:=(Z.1 ho).1
    have hiN:i<N:=by
     rcases U i N with h'|h'
     ·exact h'
     ·exfalso
      obtain⟨i0,r,hr0⟩:=E hne
      have hm:i0 ∈ rst N listed:=by rw[hr0];simp
      obtain⟨hi0,hu0⟩:=zq.1 hm
      have hsi:s<=i0:=by
       rcases U i0 s with h''|h''
       ·rw[hst i0 h'']at hu0;cases hu0
       ·exact h''
      have h1:=qL hc N i i0 o ho hall (K.tail i h' his i0 hsi hi0)
      have hes:i0<listed.size:=by have:=K.size;omega
      simp only[Array.getD,hes,dite_true]at h1 hu0;rw[hu0]at h1;cases h1
    have him:i ∈ rst N listed:=zq.2 ⟨hiN,hu⟩
    have hapart:∀i' oi',i' ∈ rst N listed->i'<i->ops[i']?=B oi'->oi'.apart ops o=J:=by
     intro i' oi' hm' hlt ho';have h2:=(zq.1 hm').2
     have hsi:s<=i':=by
      rcases U i' s with h''|h''
      ·rw[hst i' h'']at h2;cases h2
      ·exact h''
     refine K.pair i' i oi' o hsi hlt hiN ho' ho (fun e he hb hon=> ?_);have h1:=hall e he hb;rw[hon]at h1
     have hes:i'<listed.size:=by have:=K.size;omega
     simp only[Array.getD,hes,dite_true]at h1 h2;rw[h2]at h1;cases h1
    have hlen:(rst N (listed.setIfInBounds i J)).length=k:=by
     rw[qt him,kP him,hk];rfl
    have hsz:(listed.setIfInBounds i J).size=ops.size:=by simpa using hs
    have htl:∀t,N<=t->t<ops.size->(listed.setIfInBounds i J).getD t J=V:=by
     intro t h1 h2;rw[getD_set_ne J (by omega:¬i=t)];exact ht t h1 h2
    have hst':∀t,t<s->(listed.setIfInBounds i J).getD t J=J:=by
     intro t h1
     by_cases e:i=t
     ·subst e
      simp[Array.getD]
     ·rw[getD_set_ne J e]
      exact hst t h1
    have hmono:∀x,listed.getD x V=J->(listed.setIfInBounds i J).getD x V=J:=by
     intro x hx
     by_cases e:i=x
     ·subst e
      have:i<listed.size:=by omega
      simp[Array.getD,this]
     ·rw[getD_set_ne V e]
      exact hx
    have hc':yag ops (listed.setIfInBounds i J):=by
     intro j oj hj hl e he hb
     by_cases e':i=j
     ·subst e'
      rw[ho]at hj;cases hj;exact hmono _ (hall e he hb)
     ·rw[getD_set_ne V e']at hl
      exact hmono _ (hc j oj hj hl e he hb)
    unfold wpOp;simp only[ho];obtain⟨v,hy,hL⟩:=qV K.sel ho hiN (xz N listed) him hapart h;rw[<-qt him]at hL;rcases hy with ⟨hwant,hq⟩|⟨hwant,rfl⟩
    ·rw[if_pos hwant]
     left;exact qu (hq w hw) G.rfl (fun w' hg=>ih _ _ w' hlen hsz htl hst' hc' (hw.trans hg) hL)
    ·rw[if_neg (by rw[hwant];exact kY)]
     exact ih _ _ w hlen hsz htl hst' hc' hw hL
theorem yfl {a:Act} {w:S} {l:List Oper} (s N:Nat) (hB:ycK l.toArray s N=J) (hG:G w0 w)
 (h:xH P l.toArray w0 (fun a'=>∀w',Below w0.heap.size w0 w'->wpAny P .any l.toArray Q (l.toArray.size-N) (zD N (l.toArray.size-N)) a' w') ((l.take N).drop s) a):
 wpAny P .any l.toArray Q (l.toArray.size-s) (zD s (l.toArray.size-s)) a w:=by
 have K:=yf2 hB;have hsz:=K.size;have hle:=K.le
 have hlen:l.toArray.size=l.length:=by simp
 have hr:rst N (zD s (l.toArray.size-s))=M s (N-s):=by
  have hrng:List.range N=List.range s++M s (N-s):=by
   have h:=List.range'_append_1 (s:=0) (m:=s) (n:=N-s);rw[kO,show s+(N-s)=N by omega]at h;rw[H,H,h]
  unfold rst;rw[hrng,List.filter_append]
  have h1:(List.range s).filter (fun i=> !(zD s (l.toArray.size-s)).getD i J)=[]:=by
   rw[List.filter_eq_nil_iff];intro i hi;have hi:=Y.1 hi
   have:i<(zD s (l.toArray.size-s)).size:=by simp[zD];omega
   simp only[Array.getD,this,dite_true];rw[show(zD s (l.toArray.size-s)).getInternal i this=J from by simp[zD,hi]];decide
  have h2:(M s (N-s)).filter (fun i=> !(zD s (l.toArray.size-s)).getD i J)=M s (N-s):=by
   rw[kR];intro i hi;have hi:=List.mem_range'_1.1 hi
   have:i<(zD s (l.toArray.size-s)).size:=by simp[zD];omega
   simp only[Array.getD,this,dite_true];rw[show(zD s (l.toArray.size-s)).getInternal i this=V from by simp[zD,A];omega];decide
  rw[h1,h2,List.nil_append]
 have hk:(rst N (zD s (l.toArray.size-s))).length=N-s:=by rw[hr];simp
 have:=ycb (P:=P) (w0:=w0) (Q:=Q) K (N-s) (zD s (l.toArray.size-s)) a w hk (by simp[zD];omega) ?_ ?_ ?_ hG ?_
 ·rwa [show N-s+(l.toArray.size-N)=l.toArray.size-s by omega]at this
 ·intro t h1 h2
  have:t<(zD s (l.toArray.size-s)).size:=by simp[zD];omega
  simp only[Array.getD,this,dite_true];simp[zD,A];omega
 ·intro t h1
  have:t<(zD s (l.toArray.size-s)).size:=by simp[zD];omega
  simp only[Array.getD,this,dite_true];simp[zD,h1]
 ·intro j o ho hl e he hb
  have hj:j<s:=by
   rcases U j s with h'|h'
   ·exact h'
   ·exfalso
    by_cases hjs:j<(zD s (l.toArray.size-s)).size
    ·simp only[Array.getD,hjs,dite_true]at hl
     simp[zD,A]at hl;omega
    ·rw[Array.getD,dif_neg hjs]at hl
     cases hl
  have hon:=K.back j o (by omega) ho e he hb
  have:e.on<(zD s (l.toArray.size-s)).size:=by simp[zD];omega
  simp only[Array.getD,this,dite_true];simp[zD,show e.on<s by omega]
 ·rw[hr]
  have hl2:((l.take N).drop s).length=N-s:=by rw[List.length_drop,O,kB (by omega)]
  have hrr:M s (N-s)=M s ((l.take N).drop s).length++[]:=by rw[hl2,kT]
  rw[hrr];refine zO (late:=[]) ?_ ((l.take N).drop s) s a ?_ (by rw[hl2];omega) h
  ·intro a' hk w' hw' _
   exact hk w' hw'
  ·intro j o' hj
   rw[List.getElem?_drop,q]at hj;split at hj
   ·simpa using hj
   ·cases hj
theorem vl {K K':Act->Prop} (hK:∀a,K a->K' a):∀(l:List Oper) (a:Act),xH P ops w0 K l a->xH P ops w0 K' l a
 | [],a,h=>hK a h
 | o::l,a,h=>by
   unfold xH at h ⊢;split
   ·rename_i hw
    rw[if_pos hw]at h;obtain⟨v,hv,hk⟩:=h;exact⟨v,hv,vl hK l _ hk⟩
   ·rename_i hw
    rw[if_neg hw]at h;exact vl hK l _ h
theorem yhn {id:Nat} {a:Act} {w:S} {l:List Oper} (N:Nat) (hm:P.follows .mixedOrders=J) (hB:(ycK l.toArray 0 N&&Region.seqB .any l.toArray (l.toArray.size-N) N (zD N (l.toArray.size-N)))=J)
 (h:xH P l.toArray w (fun a'=>∀w',Below w.heap.size w w'->wpList P l.toArray Q (l.drop N) a' w') (l.take N) a):(Code.region id l.toArray J).wp P Q a w:=by
 rw[z]at hB;refine wp_region_any hm ?_
 have hs:(L l.toArray.size V)=zD 0 (l.toArray.size-0):=by simp[zD]
 have hd:(l.drop N).length=l.toArray.size-N:=by simp
 rw[hs];refine yfl (w0:=w) 0 N hB.1 (show Below _ _ _ from⟨rfl,rfl,rfl,kJ _,fun _ _=>rfl⟩) ?_;rw[List.drop_zero];refine vl (fun a' h1 w' hw'=> ?_) _ _ h;have:=wpAny_of_seq (P:=P) (md:= .any) (Q':=Q) (ops:=l.toArray) (l.drop N) N (zD N (l.toArray.size-N)) a' w' (by intro j;simp) (by rw[hd];exact hB.2) (h1 w' hw')
 rwa [hd]at this
end
def yfO (P:Program) (o:Oper):Prop:=∀(e:Operand->g) (w:S),(∃v,∀w',(execOp e o).run P w'= .ok (.value v) w')\/(∃h w'',(execOp e o).run P w= .halt h w'')
theorem yiF {P:Program} {o:Oper} {x:Operand} {k:Nat} (h:o.op= .extract x k):yfO P o:=by
 intro e w;simp only[execOp,h,Instr.extract];split
 ·split
  ·exact .inl ⟨_,fun w'=>rfl⟩
  ·exact .inr ⟨_,_,rfl⟩
 ·exact .inr ⟨_,_,rfl⟩
def yfo (ops:Array Oper) (N:Nat) (D:List Nat):Bool:=(List.range ops.size).all fun t=>decide (t<N)||(List.range N).all fun i=>
 if D.contains i then(Region.waitsFor .any ops t i||(match ops[i]?,ops[t]? with|some oi,B ot=>oi.apart ops ot|_,_=>V))else vB ops N t i
def ycL (ops:Array Oper) (n N:Nat) (D:List Nat):Bool:=decide (n<=N)&&decide (N<=ops.size)&&Region.noSelect ops&&ye3 ops N&&ycQ ops N&&yfo ops N D&&D.all (fun i=>decide (i<n))&&Region.seqB .any ops (ops.size-N) N (zD N (ops.size-N))
section
variable {P:Program} {ops:Array Oper} {w0:S} {n N:Nat} {D:List Nat} {R:Nat->g->S->Prop} {Q:Exit->Act->S->Prop}
structure OkD (P:Program) (ops:Array Oper) (w0:S) (n N:Nat) (D:List Nat) (R:Nat->g->S->Prop):Prop where
 le:n<=N
 size:N<=ops.size
 sel:∀(j:Nat) (o:Oper) cs b,ops[j]?=B o->o.op≠ .select cs b
 pair:∀i j oi oj,i<j->j<N->ops[i]?=B oi->ops[j]?=B oj->(∀e ∈ oj.after,Region.binds .any e=J->e.on≠i)->oi.apart ops oj=J
 back:∀j o,j<N->ops[j]?=B o->∀e ∈ o.after,Region.binds .any e=J->e.on<j
 tail:∀t,N<=t->t<ops.size->∀i,i<N->i ∉ D->vB ops N t i=J
 late:∀t ot,N<=t->ops[t]?=B ot->∀i oi,i<N->i ∈ D->ops[i]?=B oi->(∀e ∈ ot.after,Region.binds .any e=J->e.on≠i)->oi.apart ops ot=J
 low:∀i,i ∈ D->i<n
 seq:Region.seqB .any ops (ops.size-N) N (zD N (ops.size-N))=J
 calm:∀i o,i ∈ D->ops[i]?=B o->yfO P o
 loose:∀i o,n<=i->i<N->ops[i]?=B o->(∀a:Act,Region.wanted o (yielded ops a.tmps)=J)/\∀(a:Act) w,G w0 w->∃v w',(execOp a.eval o).run P w= .ok (.value v) w'/\G w w'/\R i v w'
 stable:∀i v w w',R i v w->G w w'->R i v w'
theorem yfp (hB:ycL ops n N D=J) (calm:∀i o,i ∈ D->ops[i]?=B o->yfO P o)
 (loose:∀i o,n<=i->i<N->ops[i]?=B o->(∀a:Act,Region.wanted o (yielded ops a.tmps)=J)/\∀(a:Act) w,G w0 w->∃v w',(execOp a.eval o).run P w= .ok (.value v) w'/\G w w'/\R i v w')
 (stable:∀i v w w',R i v w->G w w'->R i v w'):OkD P ops w0 n N D R:=by
 simp only[ycL,z,decide_eq_true_eq]at hB;obtain⟨⟨⟨⟨⟨⟨⟨hn,hN⟩,hsel⟩,hpair⟩,hback⟩,hdr⟩,hlow⟩,hseq⟩:=hB;simp only[yfo,T,Y,W,decide_eq_true_eq]at hdr;refine⟨hn,hN,fun j o cs b hj=>Region.noSelect_spec hsel j o cs b hj,?_,?_,?_,?_,?_,hseq,calm,loose,stable⟩
 ·intro i j oi oj hij hj hi hj' hno
  simp only[ye3,T,Y]at hpair;have:=hpair j hj i hij;simp only[hi,hj',W]at this;rcases this with h|h
  ·obtain⟨oj',ho,e,he,hb,hon⟩:=Region.waitsFor_spec h
   rw[hj']at ho;cases ho;exact absurd hon (hno e he hb)
  ·exact h
 ·intro j o hj ho e he hb
  simp only[ycQ,T,Y]at hback;have:=hback j hj;simp only[ho,kN]at this;have:=this e he
  simpa[hb]using this
 ·intro t ht hts i hi hD
  rcases hdr t hts with h|h
  ·omega
  ·have:=h i hi
   rw[if_neg (by simpa using hD)]at this;exact this
 ·intro t ot ht ho i oi hi hD hoi hno
  have hts:t<ops.size:=(Z.1 ho).1;rcases hdr t hts with h|h
  ·omega
  ·have:=h i hi
   rw[if_pos (by simpa using hD),hoi,ho]at this;simp only[W]at this;rcases this with h|h
   ·obtain⟨o',ho',e,he,hb,hon⟩:=Region.waitsFor_spec h
    rw[ho]at ho';cases ho';exact absurd hon (hno e he hb)
   ·exact h
 ·intro i hi
  simpa using T.1 hlow i hi
theorem yeA {o:Oper} {a:Act} {v:g} {w:S} (hc:yfO P o) (hg:G w0 w) (h:Yl P ops w0 o a v):Yields P ops o v a:=by
 rcases h with ⟨h1,h2⟩|h
 ·refine .inl ⟨h1,?_⟩
  have h3:=h2 w hg;unfold Oper.quietAt at h3;rcases hc a.eval w with ⟨u,hu⟩|⟨x,w'',hx⟩
  ·rw[hu w]at h3
   obtain⟨_,e⟩:=h3;subst e;exact hu
  ·rw[hx]at h3
   exact h3.elim
 ·exact .inr h
theorem yb9 (K:OkD P ops w0 n N D R) (hQ:∀(d:Option Tmp) (v:g) c a w,Q (.panic c) (a.put d v) w->Q (.panic c) a w):
 ∀(k:Nat) (listed:Array Bool) (a:Act) (w:S) (I:S->Prop),(rst N listed).length=k->listed.size=ops.size->
  (∀t,N<=t->t<ops.size->listed.getD t J=V)->yag ops listed->(∀w w',I w->G w w'->I w')->G w0 w->I w->
  yah P ops w0 n R (fun a w=>wpList P ops Q (ops.toList.drop N) a w) (rst N listed) a I->
  wpAny P .any ops Q (k+(ops.size-N)) listed a w:=by
 intro k
 induction k with
 | zero=>
   intro listed a w I hk hs ht hc hI hw hIw h;have hr:rst N listed=[]:=kS.1 hk;rw[hr]at h
   have hl:listed=zD N (ops.size-N):=by
    apply kU
    ·simp[zD,hs];have:=K.size;omega
    ·intro i h1 h2
     by_cases hi:i<N
     ·have:i ∉ rst N listed:=by rw[hr];simp
      have:listed.getD i J=J:=by
       cases hg:listed.getD i J
       ·exact absurd (zq.2 ⟨hi,hg⟩) this
       ·rfl
      simp only[Array.getD,h1,dite_true]at this;rw[show(zD N (ops.size-N))[i]=J from by simp[zD,hi]];exact this
     ·have:=ht i (by omega) (by omega)
      simp only[Array.getD,h1,dite_true]at this;rw[show(zD N (ops.size-N))[i]=V from by simp[zD,A,hi]];exact this
   have hf:=h w hw hIw
   have hlen:(ops.toList.drop N).length=ops.size-N:=by simp
   have:=wpAny_of_seq (P:=P) (md:= .any) (Q':=Q) (ops.toList.drop N) N listed a w (by intro j;simp) (by rw[hlen,hl];exact K.seq) hf;rw[hlen]at this
   simpa using this
 | succ k ih=>
   intro listed a w I hk hs ht hc hI hw hIw h
   have hne:rst N listed≠[]:=by intro e;rw[e]at hk;cases hk
   have e:k+1+(ops.size-N)=(k+(ops.size-N))+1:=by omega
   rw[e];obtain⟨i0,r,hr0⟩:=E hne
   have hm0:i0 ∈ rst N listed:=by rw[hr0];simp
   obtain⟨hi0,hu0⟩:=zq.1 hm0
   have hlt0:i0<ops.size:=by have:=K.size;omega
   have ho0:ops[i0]?=B ops[i0]:=by simp[hlt0]
   have hready0:i0 ∈ Region.ready .any ops listed:=by
    refine mem_ready.2 ⟨hu0,ops[i0],ho0,fun e he hb=> ?_⟩;have hon:=K.back i0 ops[i0] hi0 ho0 e he hb
    have:e.on ∉ rst N listed:=by
     rw[hr0];intro hmem;rcases kI.1 hmem with h|h
     ·omega
     ·have hp:=xz N listed
      rw[hr0]at hp;have:=(F.1 hp).1 _ h;omega
    have h1:listed.getD e.on J=J:=by
     cases hg:listed.getD e.on J
     ·exact absurd (zq.2 ⟨by omega,hg⟩) this
     ·rfl
    have hes:e.on<listed.size:=by omega
    simp only[Array.getD,hes,dite_true]at h1 ⊢;exact h1
   have hnext:∀i o,i<N->ops[i]?=B o->listed.getD i J=V->(∀e ∈ o.after,Region.binds .any e=J->listed.getD e.on V=J)->
    (rst N (listed.setIfInBounds i J)).length=k/\(listed.setIfInBounds i J).size=ops.size/\(∀t,N<=t->t<ops.size->(listed.setIfInBounds i J).getD t J=V)/\yag ops (listed.setIfInBounds i J):=by
    intro i o hiN ho hu hall;have him:i ∈ rst N listed:=zq.2 ⟨hiN,hu⟩;have his:i<ops.size:=(Z.1 ho).1;refine⟨by rw[qt him,kP him,hk];rfl,by simpa using hs,?_,?_⟩
    ·intro t h1 h2
     rw[getD_set_ne J (by omega:¬i=t)];exact ht t h1 h2
    ·have hmono:∀x,listed.getD x V=J->(listed.setIfInBounds i J).getD x V=J:=by
      intro x hx
      by_cases e:i=x
      ·subst e
       have:i<listed.size:=by omega
       simp[Array.getD,this]
      ·rw[getD_set_ne V e]
       exact hx
     intro j oj hj hl e he hb
     by_cases e':i=j
     ·subst e'
      rw[ho]at hj;cases hj;exact hmono _ (hall e he hb)
     ·rw[getD_set_ne V e']at hl
      exact hmono _ (hc j oj hj hl e he hb)
   by_cases hall:∀i,i ∈ rst N listed->i ∈ D
   ·--nothing but such as look at no memory:the first one comes now
    have hD0:=hall i0 hm0;have hin:=K.low i0 hD0;rw[hr0]at h;obtain⟨o,ho,h⟩:=h;rw[ho0]at ho;cases ho;rcases h with ⟨_,v,hy,hL⟩|⟨h',_⟩
    ·obtain⟨q1,q2,q3,q4⟩:=hnext i0 ops[i0] hi0 ho0 hu0 (fun e he hb=>by
      obtain⟨_,o',ho',hall'⟩:=mem_ready.1 hready0;rw[ho0]at ho';cases ho'
      exact hall' e he hb)
     have hL':yah P ops w0 n R (fun a w=>wpList P ops Q (ops.toList.drop N) a w) (rst N (listed.setIfInBounds i0 J)) (a.put ops[i0].dst v) I:=by
      rw[qt hm0,hr0,List.erase_cons_head];exact hL
     refine wpAny_first ho0 K.sel (hQ _ _) _ listed a w ?_ hready0 (yeA (K.calm i0 _ hD0 ho0) hw hy) (ih _ _ w I q1 q2 q3 q4 hI hw hIw hL');intro j oj hj hne' hun hno;have hjs:j<ops.size:=(Z.1 hj).1;rcases U j N with hjN|hjN
     ·have hjm:j ∈ rst N listed:=zq.2 ⟨hjN,hun⟩
      rw[hr0]at hjm
      have hjr:j ∈ r:=by
       rcases kI.1 hjm with e|e
       ·exact absurd e hne'
       ·exact e
      have hp:=xz N listed;rw[hr0]at hp;exact K.pair i0 j _ oj ((F.1 hp).1 j hjr) hjN ho0 hj hno
     ·exact K.late j oj hjN hj i0 _ hi0 hD0 ho0 hno
    ·omega
   ·have hex:∃j,j ∈ rst N listed/\j ∉ D:=by
     by_cases hx:∃j,j ∈ rst N listed/\j ∉ D
     ·exact hx
     ·exact absurd (fun i hi=>by
       by_cases hd:i ∈ D
       ·exact hd
       ·exact absurd ⟨i,hi,hd⟩ hx) hall
    obtain⟨j0,hj0,hjD⟩:=hex;obtain⟨hj0N,hj0u⟩:=zq.1 hj0;refine⟨fun hr=>(by rw[hr]at hready0;cases hready0),fun i hi=> ?_⟩;obtain⟨hu,o,ho,hall'⟩:=mem_ready.1 hi;have his:i<ops.size:=(Z.1 ho).1
    have hiN:i<N:=by
     rcases U i N with h'|h'
     ·exact h'
     ·exfalso
      have h1:=qL hc N i j0 o ho hall' (K.tail i h' his j0 hj0N hjD)
      have hes:j0<listed.size:=by have:=K.size;omega
      simp only[Array.getD,hes,dite_true]at h1 hj0u;rw[hj0u]at h1;cases h1
    have him:i ∈ rst N listed:=zq.2 ⟨hiN,hu⟩
    have hapart:∀i' oi',i' ∈ rst N listed->i'<i->ops[i']?=B oi'->oi'.apart ops o=J:=by
     intro i' oi' hm' hlt ho';refine K.pair i' i oi' o hlt hiN ho' ho (fun e he hb hon=> ?_);have h1:=hall' e he hb;have h2:=(zq.1 hm').2;rw[hon]at h1
     have hes:i'<listed.size:=by have:=K.size;omega
     simp only[Array.getD,hes,dite_true]at h1 h2;rw[h2]at h1;cases h1
    obtain⟨q1,q2,q3,q4⟩:=hnext i o hiN ho hu hall';unfold wpOp;simp only[ho]
    by_cases hin:i<n
    ·obtain⟨v,hy,hL⟩:=qV K.sel ho hin (xz N listed) him hapart h
     rw[<-qt him]at hL;rcases hy with ⟨hwant,hq⟩|⟨hwant,rfl⟩
     ·rw[if_pos hwant]
      left;exact qu (hq w hw) G.rfl (fun w' hg=>ih _ _ w' I q1 q2 q3 q4 hI (hw.trans hg) (hI _ _ hIw hg) hL)
     ·rw[if_neg (by rw[hwant];exact kY)]
      exact ih _ _ w I q1 q2 q3 q4 hI hw hIw hL
    ·obtain⟨hwant,hrun⟩:=K.loose i o (by omega) hiN ho
     rw[if_pos (hwant a)];left;obtain⟨v,w',he,hg,hR⟩:=hrun a w hw;unfold Oper.wp;rw[he];have hL:=qU K.sel ho (by omega) v (xz N listed) him hapart h;rw[<-qt him]at hL;exact ih _ _ w' _ q1 q2 q3 q4 (fun x y hx hg=>⟨hI _ _ hx.1 hg,K.stable _ _ _ _ hx.2 hg⟩) (hw.trans hg) ⟨hI _ _ hIw hg,hR⟩ hL
theorem yb0 (ops:Array Oper):yag ops (L ops.size V):=by
 intro j o ho hl;have hj:j<ops.size:=(Z.1 ho).1;simp[Array.getD,hj]at hl
theorem qA {id:Nat} {a:Act} {w:S} (hm:P.follows .mixedOrders=J) (K:OkD P ops w n N D R) (hQ:∀(d:Option Tmp) (v:g) c a w,Q (.panic c) (a.put d v) w->Q (.panic c) a w)
 (h:yah P ops w n R (fun a w=>wpList P ops Q (ops.toList.drop N) a w) (List.range N) a (fun _=>True)):(Code.region id ops J).wp P Q a w:=by
 refine wp_region_any hm ?_
 have hr:rst N (L ops.size V)=List.range N:=by
  unfold rst;rw[kR];intro i hi
  have:i<ops.size:=by have:=K.size;have:=Y.1 hi;omega
  simp[Array.getD,this]
 have:=yb9 K hQ N (L ops.size V) a {w with drawn:=w.drawn+1} (fun _=>True) (by rw[hr];simp) (by simp)
  (fun t _ ht=>by simp[Array.getD,ht]) (yb0 ops) (fun _ _ _ _=>trivial) (show Below _ _ _ from⟨rfl,rfl,rfl,kJ _,fun _ _=>rfl⟩) trivial (by rw[hr];exact h)
 have hN:=K.size
 rwa [show N+(ops.size-N)=ops.size from by omega]at this
theorem yiM {id:Nat} {a:Act} {w:S} {l:List Oper} (N:Nat) (D:List Nat) (hm:P.follows .mixedOrders=J) (hB:ycL l.toArray N N D=J) (hc:∀i o,i ∈ D->l[i]?=B o->yfO P o)
 (hQ:∀(d:Option Tmp) (v:g) c a w,Q (.panic c) (a.put d v) w->Q (.panic c) a w)
 (h:xH P l.toArray w (fun a'=>∀w',Below w.heap.size w w'->wpList P l.toArray Q (l.drop N) a' w') (l.take N) a):(Code.region id l.toArray J).wp P Q a w:=by
 have K:OkD P l.toArray w N N D (fun _ _ _=>True):=yfp hB (fun i o hi ho=>hc i o hi (by simpa using ho)) (fun i o h1 h2 _=>by omega) (fun _ _ _ _ _ _=>trivial)
 have hlen:N<=l.length:=by simpa using K.size
 refine qA hm K hQ ?_
 have hr:List.range N=M 0 (l.take N).length++[]:=by
  rw[O,kB hlen,H,kT]
 rw[hr];refine zO (late:=[]) ?_ (l.take N) 0 a ?_ (by rw[O];omega) h
 ·intro a' hk w' hw' _
  exact hk w' hw'
 ·intro j o' hj
  have:l[j]?=B o':=by
   rw[q]at hj;split at hj
   ·exact hj
   ·cases hj
  simpa using this
theorem yhL {id:Nat} {a:Act} {w:S} {l:List Oper} (n:Nat) (D:List Nat) (d:Tmp) (X:Obj) (o:Oper)
 (hm:P.follows .mixedOrders=J) (hB:ycL l.toArray n (n+1) D=J) (hc:∀i o,i ∈ D->l[i]?=B o->yfO P o) (ho:l[n]?=B o) (hd:o.dst=B d) (hg:o.guard=kQ)
 (hrun:∀(a:Act) w,(execOp a.eval o).run P w= .ok (.value (.pointer (B ⟨w.heap.size,0,kQ⟩))) (w.alloc X))
 (hQ:∀(d:Option Tmp) (v:g) c a w,Q (.panic c) (a.put d v) w->Q (.panic c) a w)
 (h:xH P l.toArray w (fun a'=>∀b w',Below w.heap.size w w'->w.heap.size<=b->w'.heap[b]?=B X->
   wpList P l.toArray Q (l.drop (n+1)) (a'.put (B d) (.pointer (B ⟨b,0,kQ⟩))) w') (l.take n) a):(Code.region id l.toArray J).wp P Q a w:=by
 have hlen:n<l.length:=by
  rcases U n l.length with h'|h'
  ·exact h'
  ·rw[kF h']at ho;cases ho
 have K:OkD P l.toArray w n (n+1) D (fun _ v w'=>∃b,v= .pointer (B ⟨b,0,kQ⟩)/\w.heap.size<=b/\w'.heap[b]?=B X):=by
  refine yfp hB (fun i o hi ho=>hc i o hi (by simpa using ho)) ?_ ?_
  ·intro i o' h1 h2 ho'
   have hi:i=n:=by omega
   subst hi
   have he:o'=o:=by
    have h3:l[i]?=B o':=by simpa using ho'
    rw[ho]at h3;cases h3;rfl
   subst he;refine⟨fun a=>by simp[Region.wanted,hg],fun a w1 hw1=>⟨_,_,hrun a w1,?_,w1.heap.size,rfl,hw1.size,by show(w1.heap.push X)[w1.heap.size]?=B X;simp⟩⟩;exact(Below.refl _ _).alloc (kJ _) _
  ·rintro i v w1 w2 ⟨b,e,hb,hx⟩ hg2
   refine⟨b,e,hb,?_⟩
   have hlt:b<w1.heap.size:=by
    rcases U b w1.heap.size with h'|h'
    ·exact h'
    ·rw[kC h']at hx;cases hx
   rw[Below.block hg2 b hlt];exact hx
 refine qA hm K hQ ?_
 have hr:List.range (n+1)=M 0 (l.take n).length++[n]:=by
  rw[O,kB (by omega),kZ,H]
 rw[hr];refine zO (late:=[n]) ?_ (l.take n) 0 a ?_ (by rw[O];omega) h
 ·intro a' hk
  refine⟨o,by simpa using ho,.inr ⟨kJ _,fun v w' hw' hI=> ?_⟩⟩;obtain⟨_,b,e,hb,hx⟩:=hI;subst e;rw[hd];exact hk b w' hw' hb hx
 ·intro j o' hj
  have:l[j]?=B o':=by
   rw[q]at hj;split at hj
   ·exact hj
   ·cases hj
  simpa using this
end
end Go.Proofs.YtdphiompijbelaaGreatDoor.Loose
namespace Go.Proofs.YtdphiompijbelaaGreatDoor
namespace Pg
def numD (l:List UInt8):Option Int:=match Go.Lib.atoiAll l with
 | .ok v=>if 0<=v/\v<=100000000/\Go.Lib.itoa v=l then B v else kQ
 | _=>kQ
end Pg
namespace Pg
def yih:List (List UInt8)->Option (List Int)
 | []=>B []
 | l::r=>match numD l with
   | none=>kQ
   | some v=>match yih r with
     | none=>kQ
     | some vs=>B (v::vs)
end Pg
namespace Pg
def yiC:Nat->List UInt8->List (List UInt8)
 | 0,_=>[]
 | n+1,l=>if l=[]then []else(Go.Lib.cut l [32]).1::yiC n (Go.Lib.trimLeftB (Go.Lib.cut l [32]).2.1 32)
def yim (l:List UInt8):List (List UInt8):=yiC 6 (Go.Lib.trimLeftB l 32)
end Pg
end Go.Proofs.YtdphiompijbelaaGreatDoor
