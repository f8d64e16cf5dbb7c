import Derived.Deep.Quiet
import Derived.StillTail
import Derived.Below
import Derived.Lib.QuietBelow
import Derived.KernelRfl
namespace Go.Proofs.YtkhnelgommaioaaGreat.Loose
open Go.RowKit Go.Sort
def G (w w':World):Prop:=Below w.heap.size w w'
theorem G.rfl {w:World}:G w w:=Below.refl _ _
theorem G.trans {a b c:World} (h:G a b) (k:G b c):G a c:=Below.trans h (Below.mono k h.size)
section
variable {P:Program} {ops:Array Oper} {w0:World} {n N:Nat} {R:Nat->Value->World->Prop} {Fin:Act->World->Prop}
def Yl (P:Program) (ops:Array Oper) (w0:World) (o:Oper) (a:Act) (v:Value):Prop:=
 (Region.wanted o (yielded ops a.tmps)=true/\∀w,G w0 w->o.quietAt P a (G w) w v)\/
 (Region.wanted o (yielded ops a.tmps)=false/\v=undef)
theorem Yl.put {o x:Oper} {a:Act} {v:Value} (hs:∀cs b,o.op≠ .select cs b) (h:∀d,x.dst=some d->d ∉ o.looksAt ops) (u:Value):
 Yl P ops w0 o (a.put x.dst u) v ↔ Yl P ops w0 o a v:=by
 unfold Yl Oper.quietAt
 rw[execOp_put o hs a x.dst u h,wanted_put o a x.dst u h]
def LexL (P:Program) (ops:Array Oper) (w0:World) (n:Nat) (R:Nat->Value->World->Prop) (Fin:Act->World->Prop):List Nat->Act->(World->Prop)->Prop
 | [],a,I=>∀w,G w0 w->I w->Fin a w
 | i::r,a,I=>∃o,ops[i]?=some o/\
    ((i<n/\∃v,Yl P ops w0 o a v/\LexL P ops w0 n R Fin r (a.put o.dst v) I)\/
     (n<=i/\∀v,LexL P ops w0 n R Fin r (a.put o.dst v) (fun w=>I w/\R i v w)))
theorem LexL.mono:∀{l:List Nat} {a:Act} {I I':World->Prop},(∀w,I' w->I w)->LexL P ops w0 n R Fin l a I->LexL P ops w0 n R Fin l a I'
 | [],_,_,_,hi,h=>fun w hw hI=>h w hw (hi w hI)
 | _::_,_,_,_,hi,⟨o,ho,h⟩=>⟨o,ho,h.imp
    (fun⟨hn,v,hy,hk⟩=>⟨hn,v,hy,LexL.mono hi hk⟩)
    (fun⟨hn,hk⟩=>⟨hn,fun v=>LexL.mono (fun w hw=>⟨hi w hw.1,hw.2⟩) (hk v)⟩)⟩
theorem step_quiet (hsel:∀(j:Nat) (o:Oper) cs b,ops[j]?=some o->o.op≠ .select cs b) {j:Nat} {oj:Oper} (hj:ops[j]?=some oj) (hjn:j<n):
 ∀{l:List Nat} {a:Act} {I:World->Prop},l.Pairwise (· < ·)->j ∈ l->(∀i oi,i ∈ l->i<j->ops[i]?=some oi->oi.apart ops oj=true)->
  LexL P ops w0 n R Fin l a I->∃v,Yl P ops w0 oj a v/\LexL P ops w0 n R Fin (l.erase j) (a.put oj.dst v) I
 | [],_,_,_,hm,_,_=>by cases hm
 | i::r,a,I,hp,hm,hap,⟨o,ho,h⟩=>by
   by_cases hij:i=j
   ·subst hij
    rw[hj]at ho
    cases ho
    rcases h with ⟨_,v,hy,hk⟩|⟨hn,_⟩
    ·exact⟨v,hy,by simpa using hk⟩
    ·omega
   ·have hjr:j ∈ r:=by
     rcases List.mem_cons.1 hm with e|e
     ·exact absurd e.symm hij
     ·exact e
    have hlt:i<j:=(List.pairwise_cons.1 hp).1 j hjr
    have hA:=hap i o (by simp) hlt ho
    obtain⟨h1,h2,h3⟩:=Oper.apart_spec hA
    rcases h with ⟨hin,v,hy,hk⟩|⟨hn,_⟩
    ·obtain⟨u,hu,hk'⟩:=step_quiet hsel hj hjn (List.pairwise_cons.1 hp).2 hjr (fun k ok hkm=>hap k ok (by simp[hkm])) hk
     refine⟨u,(Yl.put (hsel j oj · · hj) h1 v).1 hu,?_⟩
     rw[List.erase_cons_tail (by simpa using hij)]
     refine⟨o,ho,.inl ⟨hin,v,(Yl.put (hsel i o · · ho) h3 u).2 hy,?_⟩⟩
     rw[<-Act.put_comm a v u h2]
     exact hk'
    ·omega
theorem step_loose (hsel:∀(j:Nat) (o:Oper) cs b,ops[j]?=some o->o.op≠ .select cs b) {j:Nat} {oj:Oper} (hj:ops[j]?=some oj) (hjn:n<=j) (u:Value):
 ∀{l:List Nat} {a:Act} {I:World->Prop},l.Pairwise (· < ·)->j ∈ l->(∀i oi,i ∈ l->i<j->ops[i]?=some oi->oi.apart ops oj=true)->
  LexL P ops w0 n R Fin l a I->LexL P ops w0 n R Fin (l.erase j) (a.put oj.dst u) (fun w=>I w/\R j u w)
 | [],_,_,_,hm,_,_=>by cases hm
 | i::r,a,I,hp,hm,hap,⟨o,ho,h⟩=>by
   by_cases hij:i=j
   ·subst hij
    rw[hj]at ho
    cases ho
    rcases h with ⟨hn,_⟩|⟨_,hk⟩
    ·omega
    ·simpa using hk u
   ·have hjr:j ∈ r:=by
     rcases List.mem_cons.1 hm with e|e
     ·exact absurd e.symm hij
     ·exact e
    have hlt:i<j:=(List.pairwise_cons.1 hp).1 j hjr
    have hA:=hap i o (by simp) hlt ho
    obtain⟨h1,h2,h3⟩:=Oper.apart_spec hA
    rw[List.erase_cons_tail (by simpa using hij)]
    rcases h with ⟨hin,v,hy,hk⟩|⟨hn,hk⟩
    ·refine⟨o,ho,.inl ⟨hin,v,(Yl.put (hsel i o · · ho) h3 u).2 hy,?_⟩⟩
     rw[<-Act.put_comm a v u h2]
     exact step_loose hsel hj hjn u (List.pairwise_cons.1 hp).2 hjr (fun k ok hkm=>hap k ok (by simp[hkm])) hk
    ·refine⟨o,ho,.inr ⟨hn,fun v=> ?_⟩⟩
     rw[<-Act.put_comm a v u h2]
     exact LexL.mono (fun w hw=>⟨⟨hw.1.1,hw.2⟩,hw.1.2⟩) (step_loose hsel hj hjn u (List.pairwise_cons.1 hp).2 hjr (fun k ok hkm=>hap k ok (by simp[hkm])) (hk v))
theorem wp_of_quietAt {o:Oper} {a:Act} {C:World->Prop} {w:World} {v:Value} {K:Act->World->Prop} {Q:Exit->Act->World->Prop}
 (h:o.quietAt P a C w v) (hw:C w) (hK:∀w',C w'->K (a.put o.dst v) w'):o.wp P a w K Q:=by
 unfold Oper.quietAt at h
 unfold Oper.wp
 generalize (execOp a.eval o).run P w=r at*
 match r,h with
 | .ok (.value u) w',h=>obtain⟨e,e'⟩:=h;subst e e';exact hK _ hw
 | .ok .skip w',h=>obtain⟨e,e'⟩:=h;subst e e';exact hK _ hw
 | .ok (.enter f args) w',h=>obtain⟨e,hc⟩:=h;subst e;exact hc.mono fun _ _ ⟨he,h'⟩=>by subst he;exact hK _ h'
def pairB (ops:Array Oper) (N:Nat):Bool:=(List.range N).all fun j=>(List.range j).all fun i=>
 Region.waitsFor .any ops j i||(match ops[i]?,ops[j]? with|some oi,some oj=>oi.apart ops oj|_,_=>false)
def backB (ops:Array Oper) (N:Nat):Bool:=(List.range N).all fun j=>
 match ops[j]? with|some o=>o.after.all fun e=> !Region.binds .any e||decide (e.on<j)|none=>false
def tailB (ops:Array Oper) (N:Nat):Bool:=(List.range ops.size).all fun t=>decide (t<N)||(List.range N).all fun i=>Region.waitsFor .any ops t i
def zD (N m:Nat):Array Bool:=Array.replicate N true++Array.replicate m false
def looseB (ops:Array Oper) (N:Nat):Bool:=
 decide (N<=ops.size)&&Region.noSelect ops&&pairB ops N&&backB ops N&&tailB ops N&&Region.seqB .any ops (ops.size-N) N (zD N (ops.size-N))
def rst (N:Nat) (listed:Array Bool):List Nat:=(List.range N).filter fun i=> !listed.getD i true
theorem mem_rst {N:Nat} {listed:Array Bool} {i:Nat}:i ∈ rst N listed ↔ i<N/\listed.getD i true=false:=by
 simp[rst]
theorem rst_pair (N:Nat) (listed:Array Bool):(rst N listed).Pairwise (· < ·):=List.Pairwise.filter _ List.pairwise_lt_range
theorem rst_set {N:Nat} {listed:Array Bool} {i:Nat} (hi:i ∈ rst N listed):rst N (listed.setIfInBounds i true)=(rst N listed).erase i:=by
 have hd:(rst N listed).Nodup:=(rst_pair N listed).imp (fun h=>Nat.ne_of_lt h)
 rw[hd.erase_eq_filter]
 unfold rst
 rw[List.filter_filter]
 apply List.filter_congr
 intro x hx
 have hs:i<listed.size:=by
  have:=(mem_rst.1 hi).2
  rcases Nat.lt_or_ge i listed.size with h|h
  ·exact h
  ·simp[Array.getD,Nat.not_lt.2 h]at this
 by_cases hxi:x=i
 ·subst hxi
  simp[Array.getD,hs]
 ·have:(listed.setIfInBounds i true).getD x true=listed.getD x true:=getD_set_ne true (fun e=>hxi e.symm)
  simp[this,hxi]
structure Ok (P:Program) (ops:Array Oper) (w0:World) (n N:Nat) (R:Nat->Value->World->Prop):Prop where
 size:N<=ops.size
 sel:∀(j:Nat) (o:Oper) cs b,ops[j]?=some o->o.op≠ .select cs b
 pair:∀i j oi oj,i<j->j<N->ops[i]?=some oi->ops[j]?=some oj->(∀e ∈ oj.after,Region.binds .any e=true->e.on≠i)->oi.apart ops oj=true
 back:∀j o,j<N->ops[j]?=some o->∀e ∈ o.after,Region.binds .any e=true->e.on<j
 tail:∀t o,N<=t->ops[t]?=some o->∀i,i<N->∃e ∈ o.after,Region.binds .any e=true/\e.on=i
 seq:Region.seqB .any ops (ops.size-N) N (zD N (ops.size-N))=true
 loose:∀i o,n<=i->i<N->ops[i]?=some o->(∀a:Act,Region.wanted o (yielded ops a.tmps)=true)/\∀(a:Act) w,G w0 w->∃v w',(execOp a.eval o).run P w= .ok (.value v) w'/\G w w'/\R i v w'
 stable:∀i v w w',R i v w->G w w'->R i v w'
theorem ok_of (hB:looseB ops N=true)
 (loose:∀i o,n<=i->i<N->ops[i]?=some o->(∀a:Act,Region.wanted o (yielded ops a.tmps)=true)/\∀(a:Act) w,G w0 w->∃v w',(execOp a.eval o).run P w= .ok (.value v) w'/\G w w'/\R i v w')
 (stable:∀i v w w',R i v w->G w w'->R i v w'):Ok P ops w0 n N R:=by
 simp only[looseB,Bool.and_eq_true,decide_eq_true_eq]at hB
 obtain⟨⟨⟨⟨⟨hN,hsel⟩,hpair⟩,hback⟩,htail⟩,hseq⟩:=hB
 refine⟨hN,fun j o cs b hj=>Region.noSelect_spec hsel j o cs b hj,?_,?_,?_,hseq,loose,stable⟩
 ·intro i j oi oj hij hj hi hj' hno
  simp only[pairB,List.all_eq_true,List.mem_range]at hpair
  have:=hpair j hj i hij
  simp only[hi,hj',Bool.or_eq_true]at this
  rcases this with h|h
  ·obtain⟨oj',ho,e,he,hb,hon⟩:=Region.waitsFor_spec h
   rw[hj']at ho
   cases ho
   exact absurd hon (hno e he hb)
  ·exact h
 ·intro j o hj ho e he hb
  simp only[backB,List.all_eq_true,List.mem_range]at hback
  have:=hback j hj
  simp only[ho,Array.all_eq_true']at this
  have:=this e he
  simpa[hb]using this
 ·intro t o ht ho i hi
  simp only[tailB,List.all_eq_true,List.mem_range]at htail
  have hts:t<ops.size:=by
   rcases Nat.lt_or_ge t ops.size with h|h
   ·exact h
   ·rw[Array.getElem?_eq_none h]at ho;cases ho
  have:=htail t hts
  simp only[Bool.or_eq_true,decide_eq_true_eq,List.all_eq_true,List.mem_range]at this
  rcases this with h|h
  ·omega
  ·obtain⟨o',ho',e,he,hb,hon⟩:=Region.waitsFor_spec (h i hi)
   rw[ho]at ho'
   cases ho'
   exact⟨e,he,hb,hon⟩
theorem every_order {Q:Exit->Act->World->Prop} (K:Ok P ops w0 n N R):
 ∀(k:Nat) (listed:Array Bool) (a:Act) (w:World) (I:World->Prop),(rst N listed).length=k->listed.size=ops.size->
  (∀t,N<=t->t<ops.size->listed.getD t true=false)->(∀w w',I w->G w w'->I w')->G w0 w->I w->
  LexL P ops w0 n R (fun a w=>wpList P ops Q (ops.toList.drop N) a w) (rst N listed) a I->
  wpAny P .any ops Q (k+(ops.size-N)) listed a w:=by
 intro k
 induction k with
 | zero=>
   intro listed a w I hk hs ht hI hw hIw h
   have hr:rst N listed=[]:=List.length_eq_zero_iff.1 hk
   rw[hr]at h
   have hl:listed=zD N (ops.size-N):=by
    apply Array.ext
    ·simp[zD,hs];have:=K.size;omega
    ·intro i h1 h2
     by_cases hi:i<N
     ·have:i ∉ rst N listed:=by rw[hr];simp
      have:listed.getD i true=true:=by
       cases hg:listed.getD i true
       ·exact absurd (mem_rst.2 ⟨hi,hg⟩) this
       ·rfl
      simp only[Array.getD,h1,dite_true]at this
      rw[show(zD N (ops.size-N))[i]=true from by simp[zD,hi]]
      exact this
     ·have:=ht i (by omega) (by omega)
      simp only[Array.getD,h1,dite_true]at this
      rw[show(zD N (ops.size-N))[i]=false from by simp[zD,Array.getElem_append,hi]]
      exact this
   have hf:=h w hw hIw
   have hlen:(ops.toList.drop N).length=ops.size-N:=by simp
   have:=wpAny_of_seq (P:=P) (md:= .any) (Q':=Q) (ops.toList.drop N) N listed a w (by intro j;simp) (by rw[hlen,hl];exact K.seq) hf
   rw[hlen]at this
   simpa using this
 | succ k ih=>
   intro listed a w I hk hs ht hI hw hIw h
   have hne:rst N listed≠[]:=by intro e;rw[e]at hk;cases hk
   have e:k+1+(ops.size-N)=(k+(ops.size-N))+1:=by omega
   rw[e]
   refine⟨fun hr=> ?_,fun i hi=> ?_⟩
   ·exfalso
    obtain⟨i0,r,hr0⟩:=List.exists_cons_of_ne_nil hne
    have hm:i0 ∈ rst N listed:=by rw[hr0];simp
    obtain⟨hi0,hu0⟩:=mem_rst.1 hm
    have hlt:i0<ops.size:=by have:=K.size;omega
    have:i0 ∈ Region.ready .any ops listed:=by
     refine mem_ready.2 ⟨hu0,ops[i0],by simp[hlt],fun e he hb=> ?_⟩
     have hon:=K.back i0 ops[i0] hi0 (by simp[hlt]) e he hb
     have:e.on ∉ rst N listed:=by
      rw[hr0]
      intro hmem
      rcases List.mem_cons.1 hmem with h|h
      ·omega
      ·have hp:=rst_pair N listed
       rw[hr0]at hp
       have:=(List.pairwise_cons.1 hp).1 _ h
       omega
     have h1:listed.getD e.on true=true:=by
      cases hg:listed.getD e.on true
      ·exact absurd (mem_rst.2 ⟨by omega,hg⟩) this
      ·rfl
     have hes:e.on<listed.size:=by omega
     simp only[Array.getD,hes,dite_true]at h1 ⊢
     exact h1
    rw[hr]at this
    cases this
   ·obtain⟨hu,o,ho,hall⟩:=mem_ready.1 hi
    have hiN:i<N:=by
     rcases Nat.lt_or_ge i N with h'|h'
     ·exact h'
     ·exfalso
      obtain⟨i0,r,hr0⟩:=List.exists_cons_of_ne_nil hne
      have hm:i0 ∈ rst N listed:=by rw[hr0];simp
      obtain⟨hi0,hu0⟩:=mem_rst.1 hm
      obtain⟨e,he,hb,hon⟩:=K.tail i o h' ho i0 hi0
      have h1:=hall e he hb
      rw[hon]at h1
      have hes:i0<listed.size:=by have:=K.size;omega
      simp only[Array.getD,hes,dite_true]at h1 hu0
      rw[hu0]at h1
      cases h1
    have him:i ∈ rst N listed:=mem_rst.2 ⟨hiN,hu⟩
    have hapart:∀i' oi',i' ∈ rst N listed->i'<i->ops[i']?=some oi'->oi'.apart ops o=true:=by
     intro i' oi' hm' hlt ho'
     refine K.pair i' i oi' o hlt hiN ho' ho (fun e he hb hon=> ?_)
     have h1:=hall e he hb
     have h2:=(mem_rst.1 hm').2
     rw[hon]at h1
     have hes:i'<listed.size:=by have:=K.size;omega
     simp only[Array.getD,hes,dite_true]at h1 h2
     rw[h2]at h1
     cases h1
    have hlen:(rst N (listed.setIfInBounds i true)).length=k:=by
     rw[rst_set him,List.length_erase_of_mem him,hk];rfl
    have hsz:(listed.setIfInBounds i true).size=ops.size:=by simpa using hs
    have htl:∀t,N<=t->t<ops.size->(listed.setIfInBounds i true).getD t true=false:=by
     intro t h1 h2
     rw[getD_set_ne true (by omega:¬i=t)]
     exact ht t h1 h2
    unfold wpOp
    simp only[ho]
    by_cases hin:i<n
    ·obtain⟨v,hy,hL⟩:=step_quiet K.sel ho hin (rst_pair N listed) him hapart h
     rw[<-rst_set him]at hL
     rcases hy with ⟨hwant,hq⟩|⟨hwant,rfl⟩
     ·rw[if_pos hwant]
      left
      exact wp_of_quietAt (hq w hw) G.rfl (fun w' hg=>ih _ _ w' I hlen hsz htl hI (hw.trans hg) (hI _ _ hIw hg) hL)
     ·rw[if_neg (by rw[hwant];exact Bool.false_ne_true)]
      exact ih _ _ w I hlen hsz htl hI hw hIw hL
    ·obtain⟨hwant,hrun⟩:=K.loose i o (by omega) hiN ho
     rw[if_pos (hwant a)]
     left
     obtain⟨v,w',he,hg,hR⟩:=hrun a w hw
     unfold Oper.wp
     rw[he]
     have hL:=step_loose K.sel ho (by omega) v (rst_pair N listed) him hapart h
     rw[<-rst_set him]at hL
     exact ih _ _ w' _ hlen hsz htl (fun x y hx hg=>⟨hI _ _ hx.1 hg,K.stable _ _ _ _ hx.2 hg⟩) (hw.trans hg) ⟨hI _ _ hIw hg,hR⟩ hL
theorem wp_region_loose {id:Nat} {Q:Exit->Act->World->Prop} {a:Act} {w:World} (hm:P.follows .mixedOrders=true) (K:Ok P ops w n N R)
 (h:LexL P ops w n R (fun a w=>wpList P ops Q (ops.toList.drop N) a w) (List.range N) a (fun _=>True)):(Code.region id ops true).wp P Q a w:=by
 refine wp_region_any hm ?_
 have hr:rst N (Array.replicate ops.size false)=List.range N:=by
  unfold rst
  rw[List.filter_eq_self]
  intro i hi
  have:i<ops.size:=by have:=K.size;have:=List.mem_range.1 hi;omega
  simp[Array.getD,this]
 have:=every_order (Q:=Q) K N (Array.replicate ops.size false) a {w with drawn:=w.drawn+1} (fun _=>True) (by rw[hr];simp) (by simp)
  (fun t _ ht=>by simp[Array.getD,ht]) (fun _ _ _ _=>trivial) (show Below _ _ _ from⟨rfl,rfl,rfl,Nat.le_refl _,fun _ _=>rfl⟩) trivial (by rw[hr];exact h)
 have hN:=K.size
 rwa [show N+(ops.size-N)=ops.size from by omega]at this
def gent (P:Program) (o:Oper) (a:Act) (w0:World) (K:Act->Prop):Prop:=
 ∃v,(∀p:Regrown,Oper.quietUpon P (fun w''=>G (grow (redrawn w0 p.d) p.os) w'') (grow (redrawn w0 p.d) p.os) v ((execOp a.eval o).run P (grow (redrawn w0 p.d) p.os)))/\K (a.put o.dst v)
def wpGent (P:Program) (ops:Array Oper) (w0:World) (K:Act->Prop):List Oper->Act->Prop
 | [],a=>K a
 | o::rest,a=>if Region.wanted o (yielded ops a.tmps)then gent P o a w0 (wpGent P ops w0 K rest)else wpGent P ops w0 K rest (a.put o.dst undef)
theorem calls {f:FuncId} {args:Array Value} {w:World} {v:Value} (h:Calls P f args w fun e w'=>e= .returned v/\Below w.heap.size w w'):
 Calls P f args w fun e w'=>e= .returned v/\G w w':=h
theorem calls_same {f:FuncId} {args:Array Value} {w:World} {v:Value} (h:Calls P f args w fun e w'=>e= .returned v/\w'=w):
 Calls P f args w fun e w'=>e= .returned v/\G w w':=h.mono fun _ _ ⟨he,hw⟩=>⟨he,hw▸G.rfl⟩
theorem wpGent_nil {K:Act->Prop} {a:Act} (h:K a):wpGent P ops w0 K [] a:=h
theorem zS {K:Act->Prop} {a:Act} {o:Oper} {rest:List Oper}
 (h:∀k:Act->Prop,(∀a,wpGent P ops w0 K rest a->k a)->if Region.wanted o (yielded ops a.tmps)then gent P o a w0 k else k (a.put o.dst undef)):wpGent P ops w0 K (o::rest) a:=
 h _ (fun _ h=>h)
theorem lexL_of_gent {K:Act->Prop} {I:World->Prop} {late:List Nat} (hK:∀a,K a->LexL P ops w0 n R Fin late a I):
 ∀(l:List Oper) (k:Nat) (a:Act),(∀j o,l[j]?=some o->ops[k+j]?=some o)->k+l.length<=n->wpGent P ops w0 K l a->LexL P ops w0 n R Fin (List.range' k l.length++late) a I
 | [],_,a,_,_,h=>by simpa using hK a h
 | o::l,k,a,hl,hn,h=>by
   have h0:ops[k]?=some o:=by simpa using hl 0 o rfl
   simp only[List.length_cons]at hn
   have hr:List.range' k (o::l).length++late=k::(List.range' (k+1) l.length++late):=by simp[List.range'_succ]
   rw[hr]
   have hl':∀j o',l[j]?=some o'->ops[k+1+j]?=some o':=fun j o' hj=>by
    have:=hl (j+1) o' (by simpa using hj)
    rwa [show k+(j+1)=k+1+j from by omega]at this
   refine⟨o,h0,.inl ⟨by omega,?_⟩⟩
   unfold wpGent at h
   by_cases hw:Region.wanted o (yielded ops a.tmps)=true
   ·rw[if_pos hw]at h
    obtain⟨v,hv,hk⟩:=h
    refine⟨v,.inl ⟨hw,fun w hg=> ?_⟩,lexL_of_gent hK l (k+1) _ hl' (by omega) hk⟩
    obtain⟨p,rfl⟩:=regrown_of_below hg
    exact hv p
   ·rw[if_neg hw]at h
    exact⟨undef,.inr ⟨by simpa using hw,rfl⟩,lexL_of_gent hK l (k+1) _ hl' (by omega) h⟩
theorem wp_region_alloc {id:Nat} {Q:Exit->Act->World->Prop} {a:Act} {w:World} {l:List Oper} (n:Nat) (d:Tmp) (X:Obj) (o:Oper)
 (hm:P.follows .mixedOrders=true) (hB:looseB l.toArray (n+1)=true) (ho:l[n]?=some o) (hd:o.dst=some d) (hg:o.guard=none)
 (hrun:∀(a:Act) w,(execOp a.eval o).run P w= .ok (.value (.pointer (some ⟨w.heap.size,0,none⟩))) (w.alloc X))
 (h:wpGent P l.toArray w (fun a'=>∀b w',Below w.heap.size w w'->w.heap.size<=b->w'.heap[b]?=some X->
   wpList P l.toArray Q (l.drop (n+1)) (a'.put (some d) (.pointer (some ⟨b,0,none⟩))) w') (l.take n) a):(Code.region id l.toArray true).wp P Q a w:=by
 have hlen:n<l.length:=by
  rcases Nat.lt_or_ge n l.length with h'|h'
  ·exact h'
  ·rw[List.getElem?_eq_none h']at ho;cases ho
 refine wp_region_loose (n:=n) (N:=n+1) (R:=fun _ v w'=>∃b,v= .pointer (some ⟨b,0,none⟩)/\w.heap.size<=b/\w'.heap[b]?=some X) hm (ok_of hB ?_ ?_) ?_
 ·intro i o' h1 h2 ho'
  have hi:i=n:=by omega
  subst hi
  have he:o'=o:=by
   have h3:l[i]?=some o':=by simpa using ho'
   rw[ho]at h3
   cases h3
   rfl
  subst he
  refine⟨fun a=>by simp[Region.wanted,hg],fun a w1 hw1=>⟨_,_,hrun a w1,?_,w1.heap.size,rfl,hw1.size,by show(w1.heap.push X)[w1.heap.size]?=some X;simp⟩⟩
  exact(Below.refl _ _).alloc (Nat.le_refl _) _
 ·rintro i v w1 w2 ⟨b,e,hb,hx⟩ hg2
  refine⟨b,e,hb,?_⟩
  have hlt:b<w1.heap.size:=by
   rcases Nat.lt_or_ge b w1.heap.size with h'|h'
   ·exact h'
   ·rw[Array.getElem?_eq_none h']at hx;cases hx
  rw[Below.block hg2 b hlt]
  exact hx
 ·have hr:List.range (n+1)=List.range' 0 (l.take n).length++[n]:=by
   rw[List.length_take,Nat.min_eq_left (by omega),List.range_succ,List.range_eq_range']
  rw[hr]
  refine lexL_of_gent (late:=[n]) ?_ (l.take n) 0 a ?_ (by rw[List.length_take];omega) h
  ·intro a' hk
   refine⟨o,by simpa using ho,.inr ⟨Nat.le_refl _,fun v w' hw' hI=> ?_⟩⟩
   obtain⟨_,b,e,hb,hx⟩:=hI
   subst e
   rw[hd]
   exact hk b w' hw' hb hx
  ·intro j o' hj
   have:l[j]?=some o':=by
    rw[List.getElem?_take]at hj
    split at hj
    ·exact hj
    ·cases hj
   simpa using this
theorem wp_region_store {id:Nat} {Q:Exit->Act->World->Prop} {a:Act} {w:World} {l:List Oper} (n:Nat)
 (hm:P.follows .mixedOrders=true) (hB:looseB l.toArray n=true)
 (h:wpGent P l.toArray w (fun a'=>∀w',Below w.heap.size w w'->wpList P l.toArray Q (l.drop n) a' w') (l.take n) a):(Code.region id l.toArray true).wp P Q a w:=by
 have hlen:n<=l.length:=by
  simp only[looseB,Bool.and_eq_true,decide_eq_true_eq]at hB
  simpa using hB.1.1.1.1.1
 refine wp_region_loose (n:=n) (N:=n) (R:=fun _ _ _=>True) hm (ok_of hB (fun i o h1 h2 _=>by omega) (fun _ _ _ _ _ _=>trivial)) ?_
 have hr:List.range n=List.range' 0 (l.take n).length++[]:=by
  rw[List.length_take,Nat.min_eq_left hlen,List.range_eq_range',List.append_nil]
 rw[hr]
 refine lexL_of_gent (late:=[]) ?_ (l.take n) 0 a ?_ (by rw[List.length_take];omega) h
 ·intro a' hk w' hw' _
  exact hk w' hw'
 ·intro j o' hj
  have:l[j]?=some o':=by
   rw[List.getElem?_take]at hj
   split at hj
   ·exact hj
   ·cases hj
  simpa using this
end
end Go.Proofs.YtkhnelgommaioaaGreat.Loose
namespace Go.Proofs.YtkhnelgommaioaaGreat.Loose
open Go.RowKit Go.Sort
def reachB (ops:Array Oper):Nat->Nat->Nat->Bool
 | 0,t,i=>Region.waitsFor .any ops t i
 | f+1,t,i=>Region.waitsFor .any ops t i||(List.range ops.size).any fun m=>Region.waitsFor .any ops t m&&reachB ops f m i
def pairS (ops:Array Oper) (s N:Nat):Bool:=(List.range N).all fun j=>(List.range j).all fun i=>
 decide (i<s)||(Region.waitsFor .any ops j i||(match ops[i]?,ops[j]? with|some oi,some oj=>oi.apart ops oj|_,_=>false))
def tailS (ops:Array Oper) (s N:Nat):Bool:=(List.range ops.size).all fun t=>decide (t<N)||(List.range N).all fun i=>decide (i<s)||reachB ops N t i
def stageB (ops:Array Oper) (s N:Nat):Bool:=decide (s<=N)&&decide (N<=ops.size)&&Region.noSelect ops&&pairS ops s N&&backB ops N&&tailS ops s N
def Closed (ops:Array Oper) (listed:Array Bool):Prop:=∀j o,ops[j]?=some o->listed.getD j false=true->∀e ∈ o.after,Region.binds .any e=true->listed.getD e.on false=true
theorem reach_listed {ops:Array Oper} {listed:Array Bool} (hc:Closed ops listed):∀(f t i:Nat) (o:Oper),ops[t]?=some o->(∀e ∈ o.after,Region.binds .any e=true->listed.getD e.on false=true)->reachB ops f t i=true->listed.getD i false=true
 | 0,t,i,o,ho,h,hr=>by
   obtain⟨o',ho',e,he,hb,hon⟩:=Region.waitsFor_spec hr
   rw[ho]at ho'
   cases ho'
   rw[<-hon]
   exact h e he hb
 | f+1,t,i,o,ho,h,hr=>by
   simp only[reachB,Bool.or_eq_true,List.any_eq_true,List.mem_range,Bool.and_eq_true]at hr
   rcases hr with hr|⟨m,hm,h1,h2⟩
   ·obtain⟨o',ho',e,he,hb,hon⟩:=Region.waitsFor_spec hr
    rw[ho]at ho'
    cases ho'
    rw[<-hon]
    exact h e he hb
   ·obtain⟨o',ho',e,he,hb,hon⟩:=Region.waitsFor_spec h1
    rw[ho]at ho'
    cases ho'
    have hl:listed.getD m false=true:=by rw[<-hon];exact h e he hb
    have hom:ops[m]?=some ops[m]:=by simp[hm]
    exact reach_listed hc f m i _ hom (hc m _ hom hl) h2
section
variable {P:Program} {ops:Array Oper} {w0:World} {s N:Nat} {Q:Exit->Act->World->Prop}
structure OkS (ops:Array Oper) (s N:Nat):Prop where
 le:s<=N
 size:N<=ops.size
 sel:∀(j:Nat) (o:Oper) cs b,ops[j]?=some o->o.op≠ .select cs b
 pair:∀i j oi oj,s<=i->i<j->j<N->ops[i]?=some oi->ops[j]?=some oj->(∀e ∈ oj.after,Region.binds .any e=true->e.on≠i)->oi.apart ops oj=true
 back:∀j o,j<N->ops[j]?=some o->∀e ∈ o.after,Region.binds .any e=true->e.on<j
 tail:∀t,N<=t->t<ops.size->∀i,s<=i->i<N->reachB ops N t i=true
theorem okS_of (hB:stageB ops s N=true):OkS ops s N:=by
 simp only[stageB,Bool.and_eq_true,decide_eq_true_eq]at hB
 obtain⟨⟨⟨⟨⟨hs,hN⟩,hsel⟩,hpair⟩,hback⟩,htail⟩:=hB
 refine⟨hs,hN,fun j o cs b hj=>Region.noSelect_spec hsel j o cs b hj,?_,?_,?_⟩
 ·intro i j oi oj hsi hij hj hi hj' hno
  simp only[pairS,List.all_eq_true,List.mem_range]at hpair
  have:=hpair j hj i hij
  simp only[hi,hj',Bool.or_eq_true,decide_eq_true_eq]at this
  rcases this with h|h|h
  ·omega
  ·obtain⟨oj',ho,e,he,hb,hon⟩:=Region.waitsFor_spec h
   rw[hj']at ho
   cases ho
   exact absurd hon (hno e he hb)
  ·exact h
 ·intro j o hj ho e he hb
  simp only[backB,List.all_eq_true,List.mem_range]at hback
  have:=hback j hj
  simp only[ho,Array.all_eq_true']at this
  have:=this e he
  simpa[hb]using this
 ·intro t ht hts i hsi hi
  simp only[tailS,List.all_eq_true,List.mem_range]at htail
  have:=htail t hts
  simp only[Bool.or_eq_true,decide_eq_true_eq,List.all_eq_true,List.mem_range]at this
  rcases this with h|h
  ·omega
  ·rcases h i hi with h|h
   ·omega
   ·exact h
theorem every_stage (K:OkS ops s N):
 ∀(k:Nat) (listed:Array Bool) (a:Act) (w:World),(rst N listed).length=k->listed.size=ops.size->
  (∀t,N<=t->t<ops.size->listed.getD t true=false)->(∀t,t<s->listed.getD t true=true)->Closed ops listed->G w0 w->
  LexL P ops w0 N (fun _ _ _=>True) (fun a w=>wpAny P .any ops Q (ops.size-N) (zD N (ops.size-N)) a w) (rst N listed) a (fun _=>True)->
  wpAny P .any ops Q (k+(ops.size-N)) listed a w:=by
 intro k
 induction k with
 | zero=>
   intro listed a w hk hs ht hst hc hw h
   have hr:rst N listed=[]:=List.length_eq_zero_iff.1 hk
   rw[hr]at h
   have hl:listed=zD N (ops.size-N):=by
    apply Array.ext
    ·simp[zD,hs];have:=K.size;omega
    ·intro i h1 h2
     by_cases hi:i<N
     ·have:i ∉ rst N listed:=by rw[hr];simp
      have:listed.getD i true=true:=by
       cases hg:listed.getD i true
       ·exact absurd (mem_rst.2 ⟨hi,hg⟩) this
       ·rfl
      simp only[Array.getD,h1,dite_true]at this
      rw[show(zD N (ops.size-N))[i]=true from by simp[zD,hi]]
      exact this
     ·have:=ht i (by omega) (by omega)
      simp only[Array.getD,h1,dite_true]at this
      rw[show(zD N (ops.size-N))[i]=false from by simp[zD,Array.getElem_append,hi]]
      exact this
   rw[Nat.zero_add,hl]
   exact h w hw trivial
 | succ k ih=>
   intro listed a w hk hs ht hst hc hw h
   have hne:rst N listed≠[]:=by intro e;rw[e]at hk;cases hk
   have e:k+1+(ops.size-N)=(k+(ops.size-N))+1:=by omega
   rw[e]
   refine⟨fun hr=> ?_,fun i hi=> ?_⟩
   ·exfalso
    obtain⟨i0,r,hr0⟩:=List.exists_cons_of_ne_nil hne
    have hm:i0 ∈ rst N listed:=by rw[hr0];simp
    obtain⟨hi0,hu0⟩:=mem_rst.1 hm
    have hlt:i0<ops.size:=by have:=K.size;omega
    have:i0 ∈ Region.ready .any ops listed:=by
     refine mem_ready.2 ⟨hu0,ops[i0],by simp[hlt],fun e he hb=> ?_⟩
     have hon:=K.back i0 ops[i0] hi0 (by simp[hlt]) e he hb
     have:e.on ∉ rst N listed:=by
      rw[hr0]
      intro hmem
      rcases List.mem_cons.1 hmem with h|h
      ·omega
      ·have hp:=rst_pair N listed
       rw[hr0]at hp
       have:=(List.pairwise_cons.1 hp).1 _ h
       omega
     have h1:listed.getD e.on true=true:=by
      cases hg:listed.getD e.on true
      ·exact absurd (mem_rst.2 ⟨by omega,hg⟩) this
      ·rfl
     have hes:e.on<listed.size:=by omega
     simp only[Array.getD,hes,dite_true]at h1 ⊢
     exact h1
    rw[hr]at this
    cases this
   ·obtain⟨hu,o,ho,hall⟩:=mem_ready.1 hi
    have his:i<ops.size:=(Array.getElem?_eq_some_iff.1 ho).1
    have hiN:i<N:=by
     rcases Nat.lt_or_ge i N with h'|h'
     ·exact h'
     ·exfalso
      obtain⟨i0,r,hr0⟩:=List.exists_cons_of_ne_nil hne
      have hm:i0 ∈ rst N listed:=by rw[hr0];simp
      obtain⟨hi0,hu0⟩:=mem_rst.1 hm
      have hsi:s<=i0:=by
       rcases Nat.lt_or_ge i0 s with h''|h''
       ·rw[hst i0 h'']at hu0;cases hu0
       ·exact h''
      have h1:=reach_listed hc N i i0 o ho hall (K.tail i h' his i0 hsi hi0)
      have hes:i0<listed.size:=by have:=K.size;omega
      simp only[Array.getD,hes,dite_true]at h1 hu0
      rw[hu0]at h1
      cases h1
    have him:i ∈ rst N listed:=mem_rst.2 ⟨hiN,hu⟩
    have hapart:∀i' oi',i' ∈ rst N listed->i'<i->ops[i']?=some oi'->oi'.apart ops o=true:=by
     intro i' oi' hm' hlt ho'
     have h2:=(mem_rst.1 hm').2
     have hsi:s<=i':=by
      rcases Nat.lt_or_ge i' s with h''|h''
      ·rw[hst i' h'']at h2;cases h2
      ·exact h''
     refine K.pair i' i oi' o hsi hlt hiN ho' ho (fun e he hb hon=> ?_)
     have h1:=hall e he hb
     rw[hon]at h1
     have hes:i'<listed.size:=by have:=K.size;omega
     simp only[Array.getD,hes,dite_true]at h1 h2
     rw[h2]at h1
     cases h1
    have hlen:(rst N (listed.setIfInBounds i true)).length=k:=by
     rw[rst_set him,List.length_erase_of_mem him,hk];rfl
    have hsz:(listed.setIfInBounds i true).size=ops.size:=by simpa using hs
    have htl:∀t,N<=t->t<ops.size->(listed.setIfInBounds i true).getD t true=false:=by
     intro t h1 h2
     rw[getD_set_ne true (by omega:¬i=t)]
     exact ht t h1 h2
    have hst':∀t,t<s->(listed.setIfInBounds i true).getD t true=true:=by
     intro t h1
     by_cases e:i=t
     ·subst e
      simp[Array.getD]
     ·rw[getD_set_ne true e]
      exact hst t h1
    have hmono:∀x,listed.getD x false=true->(listed.setIfInBounds i true).getD x false=true:=by
     intro x hx
     by_cases e:i=x
     ·subst e
      have:i<listed.size:=by omega
      simp[Array.getD,this]
     ·rw[getD_set_ne false e]
      exact hx
    have hc':Closed ops (listed.setIfInBounds i true):=by
     intro j oj hj hl e he hb
     by_cases e':i=j
     ·subst e'
      rw[ho]at hj
      cases hj
      exact hmono _ (hall e he hb)
     ·rw[getD_set_ne false e']at hl
      exact hmono _ (hc j oj hj hl e he hb)
    unfold wpOp
    simp only[ho]
    obtain⟨v,hy,hL⟩:=step_quiet K.sel ho hiN (rst_pair N listed) him hapart h
    rw[<-rst_set him]at hL
    rcases hy with ⟨hwant,hq⟩|⟨hwant,rfl⟩
    ·rw[if_pos hwant]
     left
     exact wp_of_quietAt (hq w hw) G.rfl (fun w' hg=>ih _ _ w' hlen hsz htl hst' hc' (hw.trans hg) hL)
    ·rw[if_neg (by rw[hwant];exact Bool.false_ne_true)]
     exact ih _ _ w hlen hsz htl hst' hc' hw hL
theorem wp_stage {a:Act} {w:World} {l:List Oper} (s N:Nat) (hB:stageB l.toArray s N=true) (hG:G w0 w)
 (h:wpGent P l.toArray w0 (fun a'=>∀w',Below w0.heap.size w0 w'->wpAny P .any l.toArray Q (l.toArray.size-N) (zD N (l.toArray.size-N)) a' w') ((l.take N).drop s) a):
 wpAny P .any l.toArray Q (l.toArray.size-s) (zD s (l.toArray.size-s)) a w:=by
 have K:=okS_of hB
 have hsz:=K.size
 have hle:=K.le
 have hlen:l.toArray.size=l.length:=by simp
 have hr:rst N (zD s (l.toArray.size-s))=List.range' s (N-s):=by
  have hrng:List.range N=List.range s++List.range' s (N-s):=by
   have h:=List.range'_append_1 (s:=0) (m:=s) (n:=N-s)
   rw[Nat.zero_add,show s+(N-s)=N by omega]at h
   rw[List.range_eq_range',List.range_eq_range',h]
  unfold rst
  rw[hrng,List.filter_append]
  have h1:(List.range s).filter (fun i=> !(zD s (l.toArray.size-s)).getD i true)=[]:=by
   rw[List.filter_eq_nil_iff]
   intro i hi
   have hi:=List.mem_range.1 hi
   have:i<(zD s (l.toArray.size-s)).size:=by simp[zD];omega
   simp only[Array.getD,this,dite_true]
   rw[show(zD s (l.toArray.size-s)).getInternal i this=true from by simp[zD,hi]]
   decide
  have h2:(List.range' s (N-s)).filter (fun i=> !(zD s (l.toArray.size-s)).getD i true)=List.range' s (N-s):=by
   rw[List.filter_eq_self]
   intro i hi
   have hi:=List.mem_range'_1.1 hi
   have:i<(zD s (l.toArray.size-s)).size:=by simp[zD];omega
   simp only[Array.getD,this,dite_true]
   rw[show(zD s (l.toArray.size-s)).getInternal i this=false from by simp[zD,Array.getElem_append];omega]
   decide
  rw[h1,h2,List.nil_append]
 have hk:(rst N (zD s (l.toArray.size-s))).length=N-s:=by rw[hr];simp
 have:=every_stage (P:=P) (w0:=w0) (Q:=Q) K (N-s) (zD s (l.toArray.size-s)) a w hk (by simp[zD];omega) ?_ ?_ ?_ hG ?_
 ·rwa [show N-s+(l.toArray.size-N)=l.toArray.size-s by omega]at this
 ·intro t h1 h2
  have:t<(zD s (l.toArray.size-s)).size:=by simp[zD];omega
  simp only[Array.getD,this,dite_true]
  simp[zD,Array.getElem_append]
  omega
 ·intro t h1
  have:t<(zD s (l.toArray.size-s)).size:=by simp[zD];omega
  simp only[Array.getD,this,dite_true]
  simp[zD,h1]
 ·intro j o ho hl e he hb
  have hj:j<s:=by
   rcases Nat.lt_or_ge j s with h'|h'
   ·exact h'
   ·exfalso
    by_cases hjs:j<(zD s (l.toArray.size-s)).size
    ·simp only[Array.getD,hjs,dite_true]at hl
     simp[zD,Array.getElem_append]at hl
     omega
    ·rw[Array.getD,dif_neg hjs]at hl
     cases hl
  have hon:=K.back j o (by omega) ho e he hb
  have:e.on<(zD s (l.toArray.size-s)).size:=by simp[zD];omega
  simp only[Array.getD,this,dite_true]
  simp[zD,show e.on<s by omega]
 ·rw[hr]
  have hl2:((l.take N).drop s).length=N-s:=by rw[List.length_drop,List.length_take,Nat.min_eq_left (by omega)]
  have hrr:List.range' s (N-s)=List.range' s ((l.take N).drop s).length++[]:=by rw[hl2,List.append_nil]
  rw[hrr]
  refine lexL_of_gent (late:=[]) ?_ ((l.take N).drop s) s a ?_ (by rw[hl2];omega) h
  ·intro a' hk w' hw' _
   exact hk w' hw'
  ·intro j o' hj
   rw[List.getElem?_drop,List.getElem?_take]at hj
   split at hj
   ·simpa using hj
   ·cases hj
theorem gent_mono {K K':Act->Prop} (hK:∀a,K a->K' a):∀(l:List Oper) (a:Act),wpGent P ops w0 K l a->wpGent P ops w0 K' l a
 | [],a,h=>hK a h
 | o::l,a,h=>by
   unfold wpGent at h ⊢
   split
   ·rename_i hw
    rw[if_pos hw]at h
    obtain⟨v,hv,hk⟩:=h
    exact⟨v,hv,gent_mono hK l _ hk⟩
   ·rename_i hw
    rw[if_neg hw]at h
    exact gent_mono hK l _ h
theorem wp_region_late {id:Nat} {a:Act} {w:World} {l:List Oper} (N:Nat) (hm:P.follows .mixedOrders=true) (hB:(stageB l.toArray 0 N&&Region.seqB .any l.toArray (l.toArray.size-N) N (zD N (l.toArray.size-N)))=true)
 (h:wpGent P l.toArray w (fun a'=>∀w',Below w.heap.size w w'->wpList P l.toArray Q (l.drop N) a' w') (l.take N) a):(Code.region id l.toArray true).wp P Q a w:=by
 rw[Bool.and_eq_true]at hB
 refine wp_region_any hm ?_
 have hs:(Array.replicate l.toArray.size false)=zD 0 (l.toArray.size-0):=by simp[zD]
 have hd:(l.drop N).length=l.toArray.size-N:=by simp
 rw[hs]
 refine wp_stage (w0:=w) 0 N hB.1 (show Below _ _ _ from⟨rfl,rfl,rfl,Nat.le_refl _,fun _ _=>rfl⟩) ?_
 rw[List.drop_zero]
 refine gent_mono (fun a' h1 w' hw'=> ?_) _ _ h
 have:=wpAny_of_seq (P:=P) (md:= .any) (Q':=Q) (ops:=l.toArray) (l.drop N) N (zD N (l.toArray.size-N)) a' w' (by intro j;simp) (by rw[hd];exact hB.2) (h1 w' hw')
 rwa [hd]at this
end
end Go.Proofs.YtkhnelgommaioaaGreat.Loose
