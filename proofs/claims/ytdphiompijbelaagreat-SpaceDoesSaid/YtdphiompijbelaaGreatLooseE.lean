import Derived.Test.YtdphiompijbelaaGreatMix
import Derived.BigQuiet
open Option renaming some->C,none->A
open Bool renaming and_eq_true->S,true->Y
open List renaming take_succ_cons->B,drop_succ_cons->R,drop_zero->N,all_cons->T,length_cons->V,length_take->Z,range_succ->U,take_zero->O,take_nil->M,drop_nil->E
open Go renaming World->J,Value->F
namespace Go.Proofs.YtdphiompijbelaaGreat.Loose
open Go.RowKit Go.Sort
section
def vE:Op->Bool
 | .move _| .assign _| .pick .. | .load .. | .nilCheck _| .binOp .. | .unOp .. | .fieldAddr .. | .indexAddr .. | .extract .. | .field .. | .index .. | .build .. | .slice .. | .convert .. =>Y
 | _=>false
section
variable {P:Program} {ops:Array Oper} {w0:J}
theorem yfP {s:Sem F} {w:J} {f:FuncId} {args:Array F} {w':J}:(do let x<-s;pure (Next.value x):Sem Next).run P w≠ .ok (.enter f args) w':=by
 rw[Sem.run_bind]
 cases s.run P w with
 | ok v w1=>rw[Result.andThen_ok,Sem.run_pure];intro h;cases h
 | halt h w1=>rw[Result.andThen_halt];intro h;cases h
theorem yaP {β:Type} {s:Sem β} {k:β->Sem Next} {w:J} {f:FuncId} {args:Array F} {w':J} (h:∀x w1,(k x).run P w1≠ .ok (.enter f args) w'):(do let x<-s;k x:Sem Next).run P w≠ .ok (.enter f args) w':=by
 rw[Sem.run_bind]
 cases s.run P w with
 | ok v w1=>rw[Result.andThen_ok];exact h v w1
 | halt h w1=>rw[Result.andThen_halt];intro h;cases h
theorem jp {v:F} {w:J} {f:FuncId} {args:Array F} {w':J}:(pure (Next.value v):Sem Next).run P w≠ .ok (.enter f args) w':=by
 rw[Sem.run_pure];intro h;cases h
theorem yeE {o:Oper} (h:vE o.op=Y) (e:Operand->F) (w:J) (f:FuncId) (args:Array F) (w':J):(execOp e o).run P w≠ .ok (.enter f args) w':=by
 unfold execOp
 cases ho:o.op<;>rw[ho]at h<;>first|(cases h;done)|skip
 all_goals simp only
 all_goals first
  | exact yfP
  | (intro h';cases h';done)
  | skip
 ·exact yaP fun x w1=>jp
 ·split
  any_goals exact jp
  any_goals (intro h';cases h';done)
  split
  any_goals exact jp
  any_goals (intro h';cases h';done)
  refine yaP fun x w1=>yaP fun y w2=> ?_;split
  ·exact yaP fun _ _=>jp
  ·exact jp
theorem qs {o:Oper} (hp:vE o.op=Y) {a:Act} {K:Act->Prop} (h:o.quiet P a (fun w'=>∃p:Regrown,w'=grow (redrawn w0 p.d) p.os) K):gent P o a w0 K:=by
 obtain⟨v,hv,hk⟩:=h;refine⟨v,fun p=> ?_,hk⟩;have h1:=hv _ ⟨p,rfl⟩;unfold Oper.quietAt at h1;have h2:=yeE (P:=P) hp a.eval (grow (redrawn w0 p.d) p.os);generalize (execOp a.eval o).run P (grow (redrawn w0 p.d) p.os)=r at*
 cases r with
 | halt x w'=>exact h1
 | ok nx w'=>
   cases nx with
   | enter f args=>exact absurd rfl (h2 f args w')
   | _=>exact h1
theorem ygE {K:Act->(J->Prop)->Prop} {I:J->Prop} (n:Nat):∀{cs:List Nat} {os:List Oper} {a:Act},((cs.take n).all (fun c=>c==0)&&decide (n<=cs.length)&&(os.take n).all (fun o=>vE o.op))=Y->
 wpQuiet P ops (fun w'=>∃p:Regrown,w'=grow (redrawn w0 p.d) p.os) (fun a'=>qe P ops w0 K (cs.drop n) (os.drop n) a' I) (os.take n) a->qe P ops w0 K cs os a I:=by
 induction n with
 | zero=>
   intro cs os a _ h;rw[O,N,N]at h;exact h
 | succ n ih=>
   intro cs os a hb h
   cases os with
   | nil=>
     rw[M,E]at h;have h':qe P ops w0 K (cs.drop (n+1)) [] a I:=h;refine yhD ?_
     cases hd:cs.drop (n+1)with
     | nil=>rw[hd]at h';exact h'
     | cons x y=>rw[hd]at h';exact h'
   | cons o os=>
   cases cs with
   | nil=>simp at hb
   | cons c cs=>
   simp only[B,T,S,beq_iff_eq,V,decide_eq_true_eq]at hb;obtain⟨⟨⟨hc,hcs⟩,hn⟩,ho,hos⟩:=hb;subst hc;have ih:=fun a'=>ih (cs:=cs) (os:=os) (a:=a') (by simp only[S,decide_eq_true_eq];exact⟨⟨hcs,by omega⟩,hos⟩);simp only[B,R,wpQuiet]at h;refine yhm fun k hk=> ?_
   by_cases hw:Region.wanted o (yielded ops a.tmps)=Y
   ·rw[if_pos hw]at h ⊢
    refine qs ho ?_;obtain⟨v,hv,hq⟩:=h;exact⟨v,hv,hk _ (ih _ hq)⟩
   ·rw[if_neg hw]at h ⊢
    exact hk _ (ih _ h)
end
variable {P:Program} {ops:Array Oper} {w0:J}
structure WpX (P:Program) (ops:Array Oper) (w0:J) (K:Act->(J->Prop)->Prop) (cs:List Nat) (os:List Oper) (a:Act) (I:J->Prop):Prop where
 ex:qe P ops w0 K cs os a I
theorem yh6 {K:Act->(J->Prop)->Prop} {cs:List Nat} {a:Act} {I:J->Prop} (h:K a I):WpX P ops w0 K cs [] a I:=⟨yhD h⟩
theorem yeV {K:Act->(J->Prop)->Prop} {cs ds:List Nat} {a:Act} {I:J->Prop} (h:WpX P ops w0 K cs [] a I):WpX P ops w0 K ds [] a I:=by
 refine yh6 ?_;have h:=h.ex
 cases cs<;>exact h
theorem yhj {K:Act->(J->Prop)->Prop} {cs:List Nat} {os:List Oper} {a:Act} {I:J->Prop} {o:Oper}
 (h:∀k:Act->Prop,(∀a,WpX P ops w0 K cs os a I->k a)->if Region.wanted o (yielded ops a.tmps)then gent P o a w0 k else k (a.put o.dst undef)):WpX P ops w0 K (0::cs) (o::os) a I:=
 ⟨yhm fun k hk=>h k fun a ha=>hk a ha.ex⟩
theorem yhF {K:Act->(J->Prop)->Prop} {cs:List Nat} {os:List Oper} {a:Act} {I:J->Prop} {o:Oper}
 (h:∀k:Act->Prop,(∀a,WpX P ops w0 K cs os a I->k a)->if Region.wanted o (yielded ops a.tmps)then yiz P o a w0 I k else k (a.put o.dst undef)):WpX P ops w0 K (1::cs) (o::os) a I:=
 ⟨ygH fun k hk=>h k fun a ha=>hk a ha.ex⟩
theorem yiy {K:Act->(J->Prop)->Prop} {cs:List Nat} {os:List Oper} {a:Act} {I:J->Prop} {o:Oper}
 (h:∀k:Act->(J->Prop)->Prop,(∀a I',WpX P ops w0 K cs os a I'->k a I')->if Region.wanted o (yielded ops a.tmps)then yiA P o a w0 I k else k (a.put o.dst undef) I):WpX P ops w0 K (2::cs) (o::os) a I:=
 ⟨yhE fun k hk=>h k fun a I' ha=>hk a I' ha.ex⟩
theorem ygY {K:Act->(J->Prop)->Prop} {I:J->Prop} (n:Nat):∀{cs:List Nat} {os:List Oper} {a:Act},((cs.take n).all (fun c=>c==0)&&decide (n<=cs.length)&&(os.take n).all (fun o=>vE o.op))=Y->
 wpQuiet P ops (fun w'=>∃p:Regrown,w'=grow (redrawn w0 p.d) p.os) (fun a'=>WpX P ops w0 K (cs.drop n) (os.drop n) a' I) (os.take n) a->WpX P ops w0 K cs os a I:=by
 induction n with
 | zero=>
   intro cs os a _ h;rw[O,N,N]at h;exact h
 | succ n ih=>
   intro cs os a hb h
   cases os with
   | nil=>
     rw[M,E]at h;exact yeV h
   | cons o os=>
   cases cs with
   | nil=>simp at hb
   | cons c cs=>
   simp only[B,T,S,beq_iff_eq,V,decide_eq_true_eq]at hb;obtain⟨⟨⟨hc,hcs⟩,hn⟩,ho,hos⟩:=hb;subst hc;have ih:=fun a'=>ih (cs:=cs) (os:=os) (a:=a') (by simp only[S,decide_eq_true_eq];exact⟨⟨hcs,by omega⟩,hos⟩);simp only[B,R,wpQuiet]at h;refine yhj fun k hk=> ?_
   by_cases hw:Region.wanted o (yielded ops a.tmps)=Y
   ·rw[if_pos hw]at h ⊢
    refine qs ho ?_;obtain⟨v,hv,hq⟩:=h;exact⟨v,hv,hk _ (ih _ hq)⟩
   ·rw[if_neg hw]at h ⊢
    exact hk _ (ih _ h)
end
section
variable {P:Program} {Q:Exit->Act->J->Prop}
theorem wp_region_drift_alloc2 {id:Nat} {a:Act} {w:J} {l:List Oper} (n:Nat) (D:List Nat) (d d':Tmp) (X X':Obj) (o o':Oper)
 (hm:P.follows .mixedOrders=Y) (hB:ybC l.toArray n (n+2) D=Y) (hc:∀i o,i ∈ D->l[i]?=C o->yeh P o) (ho:l[n]?=C o) (ho':l[n+1]?=C o') (hd:o.dst=C d) (hd':o'.dst=C d') (hg:o.guard=A) (hg':o'.guard=A)
 (hrun:∀(a:Act) w,(execOp a.eval o).run P w= .ok (.value (.pointer (C ⟨w.heap.size,0,A⟩))) (w.alloc X))
 (hrun':∀(a:Act) w,(execOp a.eval o').run P w= .ok (.value (.pointer (C ⟨w.heap.size,0,A⟩))) (w.alloc X'))
 (hQ:∀(d:Option Tmp) (v:F) c a w,Q (.panic c) (a.put d v) w->Q (.panic c) a w)
 (h:xg P l.toArray w (fun a'=>∀b b' w',Below w.heap.size w w'->w.heap.size<=b->w'.heap[b]?=C X->w.heap.size<=b'->w'.heap[b']?=C X'->
   wpList P l.toArray Q (l.drop (n+2)) ((a'.put (C d) (.pointer (C ⟨b,0,A⟩))).put (C d') (.pointer (C ⟨b',0,A⟩))) w') (l.take n) a):(Code.region id l.toArray Y).wp P Q a w:=by
 have hlen:n+1<l.length:=by
  rcases Nat.lt_or_ge (n+1) l.length with h'|h'
  ·exact h'
  ·rw[List.getElem?_eq_none h']at ho';cases ho'
 have K:OkD P l.toArray w n (n+2) D (fun i v w'=>∃b,v= .pointer (C ⟨b,0,A⟩)/\w.heap.size<=b/\w'.heap[b]?=C (if i=n then X else X')):=by
  refine ydR hB (fun i o hi ho=>hc i o hi (by simpa using ho)) ?_ ?_
  ·intro i o1 h1 h2 ho1
   have h3:l[i]?=C o1:=by simpa using ho1
   by_cases hi:i=n
   ·subst hi
    rw[ho]at h3;cases h3;refine⟨fun a=>by simp[Region.wanted,hg],fun a w1 hw1=>⟨_,_,hrun a w1,?_,w1.heap.size,rfl,hw1.size,by rw[if_pos rfl];show(w1.heap.push X)[w1.heap.size]?=C X;simp⟩⟩;exact(Below.refl _ _).alloc (Nat.le_refl _) _
   ·obtain rfl:i=n+1:=by omega
    rw[ho']at h3;cases h3;refine⟨fun a=>by simp[Region.wanted,hg'],fun a w1 hw1=>⟨_,_,hrun' a w1,?_,w1.heap.size,rfl,hw1.size,by rw[if_neg hi];show(w1.heap.push X')[w1.heap.size]?=C X';simp⟩⟩;exact(Below.refl _ _).alloc (Nat.le_refl _) _
  ·rintro i v w1 w2 ⟨b,e,hb,hx⟩ hg2
   refine⟨b,e,hb,?_⟩
   have hlt:b<w1.heap.size:=by
    rcases Nat.lt_or_ge b w1.heap.size with h'|h'
    ·exact h'
    ·rw[Array.getElem?_eq_none h']at hx;cases hx
   rw[Below.block hg2 b hlt];exact hx
 refine xS hm K hQ ?_
 have hr:List.range (n+2)=List.range' 0 (l.take n).length++[n,n+1]:=by
  rw[Z,Nat.min_eq_left (by omega),U,U,List.range_eq_range'];simp
 rw[hr];refine zx (late:=[n,n+1]) ?_ (l.take n) 0 a ?_ (by rw[Z];omega) h
 ·intro a' hk
  refine⟨o,by simpa using ho,.inr ⟨Nat.le_refl _,fun v=> ?_⟩⟩;refine⟨o',by simpa using ho',.inr ⟨by omega,fun v' w' hw' hI=> ?_⟩⟩;obtain⟨⟨_,b,e,hb,hx⟩,b',e',hb',hx'⟩:=hI;subst e e';rw[if_pos rfl]at hx;rw[if_neg (by omega)]at hx';rw[hd,hd'];exact hk b b' w' hw' hb hx hb' hx'
 ·intro j o1 hj
  have:l[j]?=C o1:=by
   rw[List.getElem?_take]at hj;split at hj
   ·exact hj
   ·cases hj
  simpa using this
theorem yhp {ops:Array Oper} {w0:J} {K:Act->Prop} (n:Nat):∀{os:List Oper} {a:Act},((os.take n).all fun o=>vE o.op)=Y->
 wpQuiet P ops (fun w'=>∃p:Regrown,w'=grow (redrawn w0 p.d) p.os) (fun a'=>xg P ops w0 K (os.drop n) a') (os.take n) a->xg P ops w0 K os a:=by
 induction n with
 | zero=>intro os a _ h;exact h
 | succ n ih=>
   intro os a hb h
   cases os with
   | nil=>exact h
   | cons o os=>
     simp only[B,T,S]at hb;simp only[B,R,wpQuiet]at h;unfold xg
     by_cases hw:Region.wanted o (yielded ops a.tmps)=Y
     ·rw[if_pos hw]at h ⊢
      refine qs hb.1 ?_;obtain⟨v,hv,hq⟩:=h;exact⟨v,hv,ih hb.2 hq⟩
     ·rw[if_neg hw]at h ⊢
      exact ih hb.2 h
end
end Go.Proofs.YtdphiompijbelaaGreat.Loose
