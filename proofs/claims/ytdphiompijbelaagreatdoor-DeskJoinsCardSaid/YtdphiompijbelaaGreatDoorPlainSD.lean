import Derived.Test.YtdphiompijbelaaGreatDoorPlainTI
open Nat renaming div_eq_of_lt->o,strongRecOn->g
open Int renaming eq_ofNat_of_zero_le->O,toNat_of_nonneg->H,toNat_natCast->kI
open List renaming mem_append_left->J,mem_cons_self->Y,mem_append->V,mem_append_right->Q,mem_flatMap->Z,mem_cons_of_mem->U,append_assoc->D,singleton_append->w,all_eq_true->kJ,any_eq_true->kB,mem_filter->kP,replicate->kS,mem_cons->kC
open Bool renaming true->I,false->N,and_eq_true->E
namespace Go.Proofs.YtdphiompijbelaaGreatDoor
open Go.RowKit
section
namespace Pg
def KRun (S:Fs) (q k:Int) (u:Bool) (i:Nat) (K:Wk):Prop:=
 (∃(t:Int) (lv a:Nat) (P:List Sp),i+lv=3/\thr S (onW q) 3 0 0=(P++(thr S (onW q) lv t a).1,(thr S (onW q) lv t a).2)/\K=Wk.at' q k u t lv 0)\/
 (∃(t:Int) (lv a:Nat) (P:List Sp),i+lv=4/\thr S (onW q) 3 0 0=(P++[spt S t (ix q lv) lv a],0)/\yhu S t (ix q lv) lv=0/\(rEn S t (ix q lv) lv).l=I/\may (rEn S t (ix q lv) lv).r k u=I/\S.word t.toNat (ix q lv)≠0/\K=Wk.at' q k u t lv (S.word t.toNat (ix q lv)))
theorem KRun.read {S:Fs} {q k:Int} {u:Bool} {i:Nat} (t:Int) (lv a:Nat) (P:List Sp) (hi:i+lv=3) (hP:thr S (onW q) 3 0 0=(P++(thr S (onW q) lv t a).1,(thr S (onW q) lv t a).2)):KRun S q k u i (Wk.at' q k u t lv 0):= .inl ⟨t,lv,a,P,hi,hP,rfl⟩
theorem KRun.mark {S:Fs} {q k:Int} {u:Bool} {i:Nat} (t:Int) (lv a:Nat) (P:List Sp) (hi:i+lv=4) (hP:thr S (onW q) 3 0 0=(P++[spt S t (ix q lv) lv a],0)) (hc:yhu S t (ix q lv) lv=0) (hl:(rEn S t (ix q lv) lv).l=I) (hm:may (rEn S t (ix q lv) lv).r k u=I) (hx:S.word t.toNat (ix q lv)≠0):KRun S q k u i (Wk.at' q k u t lv (S.word t.toNat (ix q lv))):= .inr ⟨t,lv,a,P,hi,hP,hc,hl,hm,hx,rfl⟩
def KEnd (S:Fs) (q k:Int) (u:Bool) (R:Rs) (S':Fs):Prop:=
 (tFC S 0 q=5/\R.a=1/\R.f=0/\R.r=0/\S'=S)\/
 (tFC S 0 q=0/\R.a=aEnd (tFM S 0 q).r k u/\R.f=yij (tFM S 0 q).p (tFM S 0 q).f (tFM S 0 q).r q k u/\R.r=yhV (tFM S 0 q).r k u/\
   (R.a≠0->S'=S)/\(R.a=0->xG S 0 q=0/\S'=S.store (lastT (zj S 0 q)) (index q (yht (zj S 0 q))) (enc (tFE S 0 q).t (tFE S 0 q).l (tFE S 0 q).r I ((tFE S 0 q).d||k==1) (tFE S 0 q).f (yht (zj S 0 q)))))
theorem store_self {S:Fs} (t:Int) (i:Nat):S.store t (i:Int) (S.word t.toNat i)=S:=by
 unfold Fs.store;split
 ·have e:Fs.put S.word t.toNat (i:Int).toNat (S.word t.toNat i)=S.word:=by
   funext a b
   unfold Fs.put;split
   ·rename_i h
    rw[h.1,h.2];rfl
   ·rfl
  rw[e]
 ·rfl
theorem ykZ {S:Fs} {q:Int} (hq:below q 4096=I) {P:List Sp} {t:Int} {lv a:Nat} (hP:thr S (onW q) 3 0 0=(P++[spt S t (ix q lv) lv a],0)):
 xG S 0 q=0/\lastT (zj S 0 q)=t/\yht (zj S 0 q)=(lv:Int)/\yhr (zj S 0 q)=rEn S t (ix q lv) lv:=by
 have e1:zj S 0 q=P++[spt S t (ix q lv) lv a]:=by simp[zj,hq,hP]
 refine⟨by simp[xG,hq,hP],?_,?_,?_⟩
 ·rw[e1];simp[lastT,spt]
 ·rw[e1,jJ];rfl
 ·rw[e1,jI];rfl
theorem yi3 {e:En} {lv q:Int} (hq:below q 4096=I) (hl:e.l=I) (hf:e.fault lv=0):(e.map lv q).r=e.r:=by
 have h0:yhp e.t e.l e.r e.u e.d e.f lv=0:=hf
 have h1:lOk e.t e.l e.r e.u e.d e.f lv q=I:=by
  unfold lOk;rw[h0,hl,hq];rfl
 show yiy e.t e.l e.r e.u e.d e.f lv q=e.r
 unfold yiy;rw[if_pos h1]
theorem yl4 {S:Fs} (hS:S.Ok) {q k:Int} {u:Bool} (hq:below q 4096=I) {i:Nat} {K:Wk} (h:KRun S q k u i K):
 i<=4/\match kOut S 0 K with
  | .inl c=>c≠0/\xG S 0 q=c
  | .inr (.inl K')=>KRun S q k u (i+1) K'
  | .inr (.inr (.inl r))=>KEnd S q k u ((Wo.stop r).res K) S
  | .inr (.inr (.inr (e,m)))=>KEnd S q k u ((Wo.done e m).res K) ((Wo.done e m).fs S K):=by
 rcases h with ⟨t,lv,a,P,hi,hP,rfl⟩|⟨t,lv,a,P,hi,hP,hc,hl,hm,hx,rfl⟩
 ·refine⟨by omega,?_⟩
  rw[yhK S q lv t a]at hP;have hr:=yly S 0 q k u t lv
  by_cases hc:yhu S t (ix q lv) lv=0
  ·rw[if_neg (by simpa using hc)]at hP hr
   have hfl:=yhR hS hc;cases ho:(rEn S t (ix q lv) lv).on
   ·rw[if_pos ho]at hP
    obtain⟨c1,c2,c3,c4⟩:=ykZ hq hP
    by_cases h1:(rEn S t (ix q lv) lv).t=N
    ·rw[if_pos h1]at hr
     rw[hr];refine .inl ⟨?_,rfl,rfl,rfl,rfl⟩;unfold tFC;rw[c1,c4,if_neg (by simp),if_neg (by simp[h1])]
    ·rw[if_neg h1]at hr
     have h1:(rEn S t (ix q lv) lv).t=I:=by simpa using h1
     have hl:(rEn S t (ix q lv) lv).l=I:=by
      simp only[En.on,h1,Bool.true_and]at ho
      simpa using ho
     rw[if_neg (by simp[hl])]at hr
     have z0:tFC S 0 q=0:=by
      unfold tFC;rw[c1,c4,if_neg (by simp),if_pos h1]
     have z1:tFM S 0 q=(rEn S t (ix q lv) lv).map lv q:=by
      unfold tFM;rw[if_pos z0,c3,c4]
     have z2:tFE S 0 q=rEn S t (ix q lv) lv:=by
      unfold tFE;rw[if_pos z0,c4]
     have z3:=yi3 hq hl hfl
     by_cases h2:may (rEn S t (ix q lv) lv).r k u=N
     ·rw[if_pos h2]at hr
      rw[hr];refine .inr ⟨z0,?_,?_,?_,fun _=>rfl,fun h=>by cases h⟩
      ·rw[z1,z3,aEnd,if_neg (by simp[h2])];rfl
      ·rw[z1,z3,yij,if_neg (by simp[h2])];rfl
      ·rw[z1,z3,yhV,if_neg (by simp[h2])];rfl
     ·rw[if_neg h2]at hr
      have h2:may (rEn S t (ix q lv) lv).r k u=I:=by simpa using h2
      have hh:S.has t=I:=yhw hc;obtain⟨e1,e2⟩:=yiz (i:=ix q lv) (lv:=lv) hh
      by_cases h3:(Wk.at' q k u t lv 0).ready (rEn S t (ix q lv) lv)=N
      ·rw[if_pos h3]at hr
       rw[hr];refine .mark t lv a P (by omega) hP hc hl h2 fun e=> ?_;rw[e2,e]at h1;simp[En.of,yhB]at h1
      ·rw[if_neg h3]at hr
       rw[hr];refine .inr ⟨z0,by rw[z1];rfl,by rw[z1];rfl,by rw[z1];rfl,fun _=>rfl,fun _=>⟨c1,?_⟩⟩
       have h3:(Wk.at' q k u t lv 0).ready (rEn S t (ix q lv) lv)=I:=by simpa using h3
       have hm:=mark_same h3
       have hlv:lv<4:=by omega
       rw[c2,c3,z2,yh7 hq hlv]
       have ew:enc (rEn S t (ix q lv) lv).t (rEn S t (ix q lv) lv).l (rEn S t (ix q lv) lv).r I ((rEn S t (ix q lv) lv).d||k==1) (rEn S t (ix q lv) lv).f lv=S.word t.toNat (ix q lv):=by
        have h5:enc ((Wk.at' q k u t lv 0).mark (rEn S t (ix q lv) lv)).t ((Wk.at' q k u t lv 0).mark (rEn S t (ix q lv) lv)).l ((Wk.at' q k u t lv 0).mark (rEn S t (ix q lv) lv)).r ((Wk.at' q k u t lv 0).mark (rEn S t (ix q lv) lv)).u ((Wk.at' q k u t lv 0).mark (rEn S t (ix q lv) lv)).d ((Wk.at' q k u t lv 0).mark (rEn S t (ix q lv) lv)).f lv=S.word t.toNat (ix q lv):=by
         rw[hm,e2];exact(ykI (hS.low _ _) (by rw[<-e1];exact hc)).2
        exact h5
       rw[ew,store_self];rfl
   ·rw[if_neg (by simp[ho])]at hP
    obtain⟨m,rfl⟩:=yhM ho;simp only[En.on,E,Bool.not_eq_true']at ho;rw[if_neg (by simp[ho.1]),if_pos ho.2]at hr;rw[hr];refine .read _ m ((a+ix q (m+1))*8) (P++[spt S t (ix q (m+1)) (m+1) a]) (by omega) ?_;rw[hP];simp only[D,w];rfl
  ·rw[if_pos hc]at hP hr
   rw[hr];exact⟨hc,by simp[xG,hq,hP]⟩
 ·refine⟨by omega,?_⟩
  have hh:S.has t=I:=yhw hc;obtain⟨e1,e2⟩:=yiz (i:=ix q lv) (lv:=lv) hh;have hr:=ylP (root:=0) (k:=k) (u:=u) hx hh rfl;rw[hr,<-e2];have hfl:=yhR hS hc;obtain⟨c1,c2,c3,c4⟩:=ykZ hq hP;have ht:=(yhH hS hl).2.1
  have z0:tFC S 0 q=0:=by
   unfold tFC;rw[c1,c4,if_neg (by simp),if_pos ht]
  have z1:tFM S 0 q=(rEn S t (ix q lv) lv).map lv q:=by
   unfold tFM;rw[if_pos z0,c3,c4]
  have z2:tFE S 0 q=rEn S t (ix q lv) lv:=by
   unfold tFE;rw[if_pos z0,c4]
  have z3:=yi3 hq hl hfl;have z4:=(yjE (K:=Wk.at' q k u t lv (S.word t.toNat (ix q lv))) hl hfl).2 q;have za:(Wo.res (Wk.at' q k u t lv (S.word t.toNat (ix q lv))) (Wo.done ((Wk.at' q k u t lv (S.word t.toNat (ix q lv))).mark (rEn S t (ix q lv) lv)) I)).a=aEnd (((Wk.at' q k u t lv (S.word t.toNat (ix q lv))).mark (rEn S t (ix q lv) lv)).map lv q).r k u:=rfl;refine .inr ⟨z0,?_,?_,?_,fun h=> ?_,fun _=>⟨c1,?_⟩⟩
  ·rw[z1,<-z4];rfl
  ·rw[z1,<-z4];rfl
  ·rw[z1,<-z4];rfl
  ·rw[za,z4,z3,aEnd,if_pos hm]at h
   exact absurd rfl h
  ·rw[c2,c3,z2]
   rfl
end Pg
namespace Pg
theorem kStop {S:Fs} {root:Int} {K:Wk} {r:Int} (h:kOut S root K= .stop r):r≠0:=by
 unfold kOut at h;split at h
 ·cases h
 ·split at h
  ·cases h
  ·split at h
   ·split at h<;>cases h
   ·split at h
    ·cases h
    ·split at h
     ·cases h;decide
     ·split at h
      ·cases h
      ·split at h
       ·cases h;decide
       ·split at h<;>cases h
end Pg
set_option maxRecDepth 10000
namespace Pg
theorem yiL {S:Fs}:∀(lv:Nat) (t:Int) (a:Nat),(thr S zW lv t a).2=0->∀s,s ∈ (thr S zW lv t a).1->
 s.place<8/\s.level<=lv/\s.e=rEn S s.table s.place s.level/\yhu S s.table s.place s.level=0/\
 ((s.table=t/\s.level=lv/\s.ahead=a+s.place)\/∃s',s' ∈ (thr S zW lv t a).1/\s'.e.on=I/\s'.e.f=s.table/\s'.level=s.level+1/\s.ahead=s'.ahead*8+s.place):=by
 intro lv
 induction lv using g with
 | _ lv IH=>
 intro t a hz s hs;obtain⟨c1,c2⟩:=yhF hz;have hs0:=hs;rw[c2]at hs0;simp only[Z]at hs0;obtain⟨j,hj,hs0⟩:=hs0
 have hj:j<8:=by simpa using hj
 have up:∀x,x ∈ (out S zW lv (sub S zW lv) t a j).1->x ∈ (thr S zW lv t a).1:=fun x hx=>by
  rw[c2];simp only[Z];exact⟨j,by simpa using hj,hx⟩
 obtain⟨hc,ho⟩:=yhI (c1 j hj)
 have first:spt S t j lv a=s->s.place<8/\s.level<=lv/\s.e=rEn S s.table s.place s.level/\yhu S s.table s.place s.level=0/\s.table=t/\s.level=lv/\s.ahead=a+s.place:=fun e=>by
  subst e;exact⟨hj,Nat.le_refl _,rfl,hc,rfl,rfl,rfl⟩
 rcases ho with ⟨hon,ho⟩|⟨hon,hr,ho⟩
 ·rw[ho]at hs0
  simp at hs0;obtain⟨f1,f2,f3,f4,f5⟩:=first hs0.symm;exact⟨f1,f2,f3,f4,.inl f5⟩
 ·rw[ho]at hs0
  rcases kC.1 hs0 with hs0|hs0
  ·obtain⟨f1,f2,f3,f4,f5⟩:=first hs0.symm
   exact⟨f1,f2,f3,f4,.inl f5⟩
  ·obtain⟨b,rfl⟩:=yhM hon
   have hr2:(thr S zW b (rEn S t j (b+1)).f ((a+j)*8)).2=0:=hr;obtain⟨i1,i2,i3,i4,i5⟩:=IH b (by omega) _ _ hr2 s hs0;refine⟨i1,by omega,i3,i4,.inr ?_⟩;rcases i5 with ⟨k1,k2,k3⟩|⟨s',k1,k2⟩
   ·refine⟨spt S t j (b+1) a,up _ (by rw[ho];exact Y),hon,k1.symm,?_,k3⟩
    show b+1=_
    omega
   ·exact⟨s',up _ (by rw[ho];exact U _ k1),k2⟩
theorem yld {S:Fs} {lv:Nat} {t:Int} {a:Nat} (hz:(thr S zW lv t a).2=0) {j:Nat} (hj:j<8):spt S t j lv a ∈ (thr S zW lv t a).1/\yhu S t j lv=0:=by
 obtain⟨c1,c2⟩:=yhF hz;obtain⟨hc,ho⟩:=yhI (c1 j hj);refine⟨?_,hc⟩;rw[c2];simp only[Z];refine⟨j,by simpa using hj,?_⟩
 rcases ho with ⟨_,ho⟩|⟨_,_,ho⟩<;>rw[ho]<;>exact Y
theorem spot_down {S:Fs}:∀(lv:Nat) (t:Int) (a:Nat),(thr S zW lv t a).2=0->∀s,s ∈ (thr S zW lv t a).1->s.e.on=I->
 ∃b,s.level=b+1/\(thr S zW b s.e.f (s.ahead*8)).2=0/\∀x,x ∈ (thr S zW b s.e.f (s.ahead*8)).1->x ∈ (thr S zW lv t a).1:=by
 intro lv
 induction lv using g with
 | _ lv IH=>
 intro t a hz s hs hso;obtain⟨c1,c2⟩:=yhF hz;have hs0:=hs;rw[c2]at hs0;simp only[Z]at hs0;obtain⟨j,hj,hs0⟩:=hs0
 have hj:j<8:=by simpa using hj
 have up:∀x,x ∈ (out S zW lv (sub S zW lv) t a j).1->x ∈ (thr S zW lv t a).1:=fun x hx=>by
  rw[c2];simp only[Z];exact⟨j,by simpa using hj,hx⟩
 obtain⟨hc,ho⟩:=yhI (c1 j hj);rcases ho with ⟨hon,ho⟩|⟨hon,hr,ho⟩
 ·rw[ho]at hs0
  simp at hs0;subst hs0;have hso:(rEn S t j lv).on=I:=hso;rw[hon]at hso;cases hso
 ·rw[ho]at hs0
  obtain⟨b,rfl⟩:=yhM hon;have hr2:(thr S zW b (rEn S t j (b+1)).f ((a+j)*8)).2=0:=hr;rcases kC.1 hs0 with hs0|hs0
  ·subst hs0
   exact⟨b,rfl,hr2,fun x hx=>up x (by rw[ho];exact U _ hx)⟩
  ·obtain⟨b',i1,i2,i3⟩:=IH b (by omega) _ _ hr2 s hs0 hso
   exact⟨b',i1,i2,fun x hx=>up x (by rw[ho];exact U _ (i3 x hx))⟩
def Tab (S:Fs) (t:Int) (lv a:Nat):Prop:=(t=0/\lv=3/\a=0)\/∃s,s ∈ (thr S zW 3 0 0).1/\s.e.on=I/\s.e.f=t/\s.level=lv+1/\s.ahead=a
theorem Tab.root (S:Fs):Tab S 0 3 0:= .inl ⟨rfl,rfl,rfl⟩
theorem Tab.place {S:Fs} {t:Int} {lv a:Nat} (h:Tab S t lv a) (hz:(thr S zW 3 0 0).2=0) {j:Nat} (hj:j<8):spt S t j lv (a*8) ∈ (thr S zW 3 0 0).1/\yhu S t j lv=0:=by
 rcases h with ⟨rfl,rfl,rfl⟩|⟨s,hs,ho,rfl,hl,rfl⟩
 ·exact yld hz hj
 ·obtain⟨b,e,hz2,up⟩:=spot_down 3 0 0 hz s hs ho
  have:b=lv:=by omega
  subst this;obtain⟨h1,h2⟩:=yld hz2 hj;exact⟨up _ h1,h2⟩
theorem Tab.has {S:Fs} {t:Int} {lv a:Nat} (h:Tab S t lv a) (hz:(thr S zW 3 0 0).2=0):S.has t=I:=yhw (h.place hz (j:=0) (by omega)).2
theorem Tab.mem {S:Fs} {t:Int} {lv a:Nat} (h:Tab S t lv a):t ∈ (0:Int)::zU (thr S zW 3 0 0).1:=by
 rcases h with ⟨rfl,_⟩|⟨s,hs,ho,rfl,_⟩
 ·exact Y
 ·refine U _ ?_
  simp only[zU,Z];exact⟨s,hs,by rw[if_pos ho];exact Y⟩
theorem ylw (q lv:Nat):ix (q:Int) lv=q/8^lv%8:=by
 unfold ix
 have e:(q:Int)/8^lv%8=((q/8^lv%8:Nat):Int):=by simp
 rw[e,kI]
theorem ykY (q lv:Nat):q/8^(lv+1)=q/8^lv/8:=by rw[Nat.pow_succ,Nat.div_div_eq_div_mul]
theorem ykm (S:Fs) (t:Int) (q lv:Nat):spt S t (ix (q:Int) lv) lv (q/8^(lv+1)*8)=⟨t,ix (q:Int) lv,lv,q/8^lv,rEn S t (ix (q:Int) lv) lv⟩:=by
 unfold spt
 have:q/8^(lv+1)*8+ix (q:Int) lv=q/8^lv:=by
  rw[ylw,ykY];omega
 rw[this]
theorem yjM {S:Fs} (hz:(thr S zW 3 0 0).2=0) {q:Nat} (hq:q<4096):∀(d lv:Nat),lv+d=3->∀t,Tab S t lv (q/8^(lv+1))->
 ∃P a,thr S (onW (q:Int)) 3 0 0=(P++(thr S (onW (q:Int)) lv t a).1,(thr S (onW (q:Int)) lv t a).2)
 | 0,lv,hd,t,h=>by
   have:lv=3:=by omega
   subst this;rcases h with ⟨rfl,_,_⟩|⟨s,hs,ho,_,hl,_⟩
   ·exact⟨[],0,rfl⟩
   ·have:=(yiL 3 0 0 hz s hs).2.1
    omega
 | d+1,lv,hd,t,h=>by
   rcases h with ⟨_,h,_⟩|⟨s,hs,ho,rfl,hl,ha⟩
   ·omega
   ·obtain⟨i1,i2,i3,i4,i5⟩:=yiL 3 0 0 hz s hs
    rw[hl]at i3 i4
    have hpar:Tab S s.table (lv+1) (q/8^(lv+1+1))/\s.place=ix (q:Int) (lv+1):=by
     rw[ylw,ykY q (lv+1),<-ha];rcases i5 with ⟨k1,k2,k3⟩|⟨s',k1,k2,k3,k4,k5⟩
     ·exact⟨.inl ⟨k1,by omega,by omega⟩,by omega⟩
     ·exact⟨.inr ⟨s',k1,k2,k3,by omega,by omega⟩,by omega⟩
    obtain⟨hT,hpl⟩:=hpar;obtain⟨P,a,hw⟩:=yjM hz hq d (lv+1) (by omega) s.table hT;rw[hpl]at i3 i4;rw[yhK S (q:Int) (lv+1) s.table a,if_neg (by simpa using i4),<-i3,if_neg (by simp[ho])]at hw;refine⟨P++[spt S s.table (ix (q:Int) (lv+1)) (lv+1) a],(a+ix (q:Int) (lv+1))*8,?_⟩;rw[hw];simp only[D,w];rfl
theorem tab_run {S:Fs} (hz:(thr S zW 3 0 0).2=0) {q:Nat} (hq:q<4096) {lv:Nat} (hl:lv<=3) {t:Int} (h:Tab S t lv (q/8^(lv+1))) (k:Int) (u:Bool):KRun S q k u (3-lv) (Wk.at' q k u t lv 0):=by
 obtain⟨P,a,hw⟩:=yjM hz hq (3-lv) lv (by omega) t h;exact .read t lv a P (by omega) hw
theorem tab_mark {S:Fs} (hz:(thr S zW 3 0 0).2=0) {q:Nat} (hq:q<4096) {lv:Nat} (hl:lv<=3) {t:Int} (h:Tab S t lv (q/8^(lv+1))) {k:Int} {u:Bool} {x:Int} (hx:x≠0) (hlf:(En.of x lv).l=I) (hm:may (En.of x lv).r k u=I) (hw:S.word t.toNat (ix (q:Int) lv)=x):KRun S q k u (4-lv) (Wk.at' q k u t lv x):=by
 obtain⟨P,a,hway⟩:=yjM hz hq (3-lv) lv (by omega) t h;have hc:=(h.place hz (yiD (q:Int) lv)).2;obtain⟨e1,e2⟩:=yiz (i:=ix (q:Int) lv) (lv:=lv) (yhw hc);rw[hw]at e2
 have hon:(rEn S t (ix (q:Int) lv) lv).on=N:=by rw[e2];simp[En.on,hlf]
 rw[yhK S (q:Int) lv t a,if_neg (by simpa using hc),if_pos hon]at hway;subst hw;exact .mark t lv a P (by omega) hway hc (by rw[e2];exact hlf) (by rw[e2];exact hm) hx
def Wk.On (S:Fs) (K:Wk):Prop:=Tab S K.t K.lv (K.q.toNat/8^(K.lv+1))
theorem Wk.On.again {S:Fs} {K:Wk} (ho:K.on=I) (hq:below K.q 4096=I):(K.again 0).On S:=by
 unfold Wk.again;rw[if_pos ho]
 show Tab S 0 3 (K.q.toNat/8^4)
 have hq:=zB.1 hq;have:K.q.toNat/8^4=0:=o (by show K.q.toNat<4096;omega);rw[this];exact Tab.root S
theorem Wk.On.start {S:Fs} {q k:Int} {u:Bool} (hq:below q 4096=I):(Wk.start 0 q k u).On S:=by
 show Tab S 0 3 (q.toNat/8^4)
 have hq:=zB.1 hq;have:q.toNat/8^4=0:=o (by show q.toNat<4096;omega);rw[this];exact Tab.root S
theorem kOut_off {S:Fs} {root:Int} {K:Wk} (h:K.on=N):kOut S root K= .code 9:=by unfold kOut;rw[if_pos h]
theorem ylC {S:Fs} {L:List Mp} (h:Rep S L) {K:Wk} (hK:K.Ok) (ho:K.on=I) (hon:K.On S):
 match kOut S 0 K with
  | .inl _=>False
  | .inr (.inl K')=>K'.on=I/\K'.On S/\K'.q=K.q/\K'.k=K.k/\K'.u=K.u
  | .inr (.inr (.inl r))=>KEnd S K.q K.k K.u ((Wo.stop r).res K) S
  | .inr (.inr (.inr (e,m)))=>KEnd S K.q K.k K.u ((Wo.done e m).res K) ((Wo.done e m).fs S K):=by
 obtain⟨on,q,k,u,t,lv,x⟩:=K;simp only at ho;subst ho;have hp:below q 4096=I:=hK.page rfl;have hq:=zB.1 hp;obtain⟨n,rfl⟩:=O hq.1
 have hn:n<4096:=by omega
 have hlv:lv<=3:=by have:=hK.lv;simp only at this;omega
 have hon:Tab S t lv (n/8^(lv+1)):=hon;have hc0:=(yh8 h hn).1;have hz:=h.code;obtain⟨hpl,hc⟩:=hon.place hz (yiD (n:Int) lv);obtain⟨e1,e2⟩:=yiz (i:=ix (n:Int) lv) (lv:=lv) (yhw hc)
 by_cases hx:x=0
 ·subst hx
  have hr:=tab_run hz hn hlv hon k u;obtain⟨_,he⟩:=yl4 h.ok hp hr
  show match kOut S 0 (Wk.at' n k u t lv 0)with
   | .inl _=>False
   | .inr (.inl K')=>K'.on=I/\K'.On S/\K'.q=n/\K'.k=k/\K'.u=u
   | .inr (.inr (.inl r))=>KEnd S n k u ((Wo.stop r).res (Wk.at' n k u t lv 0)) S
   | .inr (.inr (.inr (e,m)))=>KEnd S n k u ((Wo.done e m).res (Wk.at' n k u t lv 0)) ((Wo.done e m).fs S (Wk.at' n k u t lv 0))
  have hk:=yly S 0 n k u t lv;rcases hout:kOut S 0 (Wk.at' n k u t lv 0)with c|K'|r|⟨e,m⟩
  ·rw[hout]at he
   exact absurd (he.2.symm.trans hc0) he.1
  ·rw[hout,if_neg (by simpa using hc)]at hk
   split at hk
   ·cases hk
   ·rename_i ht
    split at hk
    ·rename_i hl
     cases hk
     have hon':(rEn S t (ix (n:Int) lv) lv).on=I:=by
      have ht:(rEn S t (ix (n:Int) lv) lv).t=I:=by simpa using ht
      simp[En.on,ht,hl]
     obtain⟨b,rfl⟩:=yhM hon';refine⟨rfl,.inr ⟨_,hpl,hon',rfl,rfl,?_⟩,rfl,rfl,rfl⟩;rw[ykm];rfl
    ·split at hk
     ·cases hk
     ·split at hk
      ·cases hk
       exact⟨rfl,hon,rfl,rfl,rfl⟩
      ·cases hk
  ·rw[hout]at he
   exact he
  ·rw[hout]at he
   exact he
 ·obtain⟨x0,x1,x2,x3,x4,x5⟩:=hK.leaf hx
  by_cases hw:S.word t.toNat (ix (n:Int) lv)=x
  ·have hr:=tab_mark hz hn hlv hon hx x3 x4 hw
   obtain⟨_,he⟩:=yl4 h.ok hp hr;have hout:=ylP (root:=0) (k:=k) (u:=u) hx (yhw hc) hw
   show match kOut S 0 (Wk.at' n k u t lv x)with
    | .inl _=>False
    | .inr (.inl K')=>K'.on=I/\K'.On S/\K'.q=n/\K'.k=k/\K'.u=u
    | .inr (.inr (.inl r))=>KEnd S n k u ((Wo.stop r).res (Wk.at' n k u t lv x)) S
    | .inr (.inr (.inr (e,m)))=>KEnd S n k u ((Wo.done e m).res (Wk.at' n k u t lv x)) ((Wo.done e m).fs S (Wk.at' n k u t lv x))
   rw[hout]at he ⊢;exact he
  ·have hout:kOut S 0 ⟨I,n,k,u,t,lv,x⟩= .go (Wk.again 0 ⟨I,n,k,u,t,lv,x⟩):=by
    unfold kOut;rw[if_neg (by simp),if_neg (by simp[yhw hc]),if_pos hx,if_neg (by exact hw)]
   rw[hout];refine⟨by simp[Wk.again],Wk.On.again rfl hp,by simp[Wk.again],by simp[Wk.again],by simp[Wk.again]⟩
end Pg
namespace Pg
def Stay (S S':Fs):Prop:=∀s,s ∈ (thr S zW 3 0 0).1->s.e.on=I->s ∈ (thr S' zW 3 0 0).1
theorem Stay.refl (S:Fs):Stay S S:=fun _ h _=>h
theorem Tab.stay {S S':Fs} {t:Int} {lv a:Nat} (h:Tab S t lv a) (hs:Stay S S'):Tab S' t lv a:=by
 rcases h with h|⟨s,h1,h2,h3⟩
 ·exact .inl h
 ·exact .inr ⟨s,hs s h1 h2,h2,h3⟩
def Leaf (S:Fs) (m:Mp) (d:Bool):Prop:=∃s,s ∈ (thr S zW 3 0 0).1/\s.e.l=I/\s.mp=m/\s.e.u=I/\(d=I->s.e.d=I)
theorem Leaf.mem {S:Fs} {L:List Mp} (h:Rep S L) {m:Mp} {d:Bool} (hl:Leaf S m d):m ∈ L:=by
 obtain⟨s,h1,h2,h3,_⟩:=hl;rw[<-h.maps];simp only[zM,Z];exact⟨s,h1,by rw[if_pos h2,h3];exact Y⟩
theorem Leaf.marked {S:Fs} {m:Mp} (h:Leaf S m I) {q:Int} (hq:m.has q=I):ykn S q:=by
 obtain⟨s,h1,h2,h3,h4,h5⟩:=h;exact⟨s,h1,h2,by rw[h3];exact hq,h4,h5 rfl⟩
theorem insert_stay {S:Fs} {L:List Mp} (h:Rep S L) (m:Mp):Stay S (insS S 0 m)/\∀x d,Leaf S x d->Leaf (insS S 0 m) x d:=by
 rcases yj5 h m with ⟨_,_,e⟩|⟨_,_,_,e⟩
 ·rw[e]
  exact⟨Stay.refl S,fun _ _ h=>h⟩
 ·exact⟨fun s hs ho=>e s hs (.inr ho),fun x d ⟨s,h1,h2,h3⟩=>⟨s,e s h1 (.inl h2),h2,h3⟩⟩
theorem yjc {S:Fs} {p:Int} (h:tFC S 0 p=0):∃q:Nat,p=(q:Int)/\q<4096:=by
 have hp:below p 4096=I:=by
  cases hp:below p 4096
  ·have:xG S 0 p=1:=by simp[xG,hp]
   rw[tFC,this,if_pos (by decide)]at h;cases h
  ·rfl
 obtain⟨p0,p1⟩:=zB.1 hp;obtain⟨x,rfl⟩:=O p0;exact⟨x,rfl,by omega⟩
theorem yi2 {S:Fs} {L:List Mp} {q lv:Nat} {e:En} {tl:Int} {A B:List Sp} (hz:xG S 0 (q:Int)=0) (F:Found S L q lv e tl A B) (hc:tFC S 0 (q:Int)=0):e.t=I:=by
 rw[tFC,hz,if_neg (by decide),F.way.yhr]at hc;cases he:e.t
 ·rw[he,if_neg (by decide)]at hc;omega
 ·rfl
structure Turned (S S':Fs) (m m':Mp) (e:En) (r:Int) (u d:Bool) (A B:List Sp) (s s':Sp):Prop where
 old:thr S zW 3 0 0=(A++[s]++B,0)
 new:thr S' zW 3 0 0=(A++[s']++B,0)
 en:s.e=e
 leaf:e.l=I
 mp:s.mp=m
 mp':s'.mp=m'
 en':s'.e=⟨I,I,r,u,d,e.f⟩
theorem Turned.stay {S S':Fs} {m m':Mp} {e:En} {r:Int} {u d:Bool} {A B:List Sp} {s s':Sp} (T:Turned S S' m m' e r u d A B s s'):Stay S S':=by
 intro x hx ho;rw[T.old]at hx;rw[T.new];rcases V.1 hx with hx|hx
 ·rcases V.1 hx with hx|hx
  ·exact J _ (J _ hx)
  ·have:x=s:=by simpa using hx
   subst this;rw[T.en]at ho;simp[En.on,T.leaf]at ho
 ·exact Q _ hx
theorem Turned.leaf_ne {S S':Fs} {m m':Mp} {e:En} {r:Int} {u d:Bool} {A B:List Sp} {s s':Sp} (T:Turned S S' m m' e r u d A B s s') {x:Mp} {b:Bool} (hx:Leaf S x b) (hne:x≠m):Leaf S' x b:=by
 obtain⟨y,h1,h2,h3,h4⟩:=hx;refine⟨y,?_,h2,h3,h4⟩;rw[T.old]at h1;rw[T.new];rcases V.1 h1 with h1|h1
 ·rcases V.1 h1 with h1|h1
  ·exact J _ (J _ h1)
  ·have:y=s:=by simpa using h1
   subst this;exact absurd (h3.symm.trans T.mp) hne
 ·exact Q _ h1
theorem Turned.yjC {S S':Fs} {m:Mp} {e:En} {r:Int} {u d:Bool} {A B:List Sp} {s s':Sp} (T:Turned S S' m m e r u d A B s s') (hu:e.u=I->u=I) (hd:e.d=I->d=I) {x:Mp} {b:Bool} (hx:Leaf S x b):Leaf S' x b:=by
 obtain⟨y,h1,h2,h3,h4,h5⟩:=hx;rw[T.old]at h1;unfold Leaf;rw[T.new];rcases V.1 h1 with h1|h1
 ·rcases V.1 h1 with h1|h1
  ·exact⟨y,J _ (J _ h1),h2,h3,h4,h5⟩
  ·have:y=s:=by simpa using h1
   subst this;rw[T.en]at h4 h5;refine⟨s',J _ (Q _ Y),by rw[T.en'],by rw[T.mp',<-h3,T.mp],by rw[T.en'];exact hu h4,fun hb=>by rw[T.en'];exact hd (h5 hb)⟩
 ·exact⟨y,Q _ h1,h2,h3,h4,h5⟩
theorem Turned.leaf_new {S S':Fs} {m m':Mp} {e:En} {r:Int} {d:Bool} {A B:List Sp} {s s':Sp} (T:Turned S S' m m' e r I d A B s s'):Leaf S' m' d:=by
 unfold Leaf;rw[T.new];exact⟨s',J _ (Q _ Y),by rw[T.en'],T.mp',by rw[T.en'],fun hb=>by rw[T.en'];exact hb⟩
theorem yjg {S:Fs} {L:List Mp} (h:Rep S L) {q:Nat} (hq:q<4096) (hc:tFC S 0 (q:Int)=0) {r:Int} (hr:0<=r/\r<=7) (u d:Bool):
 ∃A B s s',Turned S (S.store (lastT (zj S 0 (q:Int))) (index q (yht (zj S 0 (q:Int)))) (enc (tFE S 0 (q:Int)).t (tFE S 0 (q:Int)).l r u d (tFE S 0 (q:Int)).f (yht (zj S 0 (q:Int))))) (tFM S 0 (q:Int)) ((tFM S 0 (q:Int)).rts r) (tFE S 0 (q:Int)) r u d A B s s'/\
  Tab S (lastT (zj S 0 (q:Int))) (yht (zj S 0 (q:Int))).toNat (q/8^((yht (zj S 0 (q:Int))).toNat+1))/\
  (0<=(tFE S 0 (q:Int)).r/\(tFE S 0 (q:Int)).r<=7/\(tFM S 0 (q:Int)).rts (tFE S 0 (q:Int)).r=tFM S 0 (q:Int))/\
  ((tFM S 0 (q:Int)).rts r=tFM S 0 (q:Int)->Rep (S.store (lastT (zj S 0 (q:Int))) (index q (yht (zj S 0 (q:Int)))) (enc (tFE S 0 (q:Int)).t (tFE S 0 (q:Int)).l r u d (tFE S 0 (q:Int)).f (yht (zj S 0 (q:Int))))) L):=by
 obtain⟨hz,lv,e,tl,A,B,F⟩:=yh8 h hq;have ht:=yi2 hz F hc;obtain⟨hl,h2,hmap,hhas⟩:=yh1 h.ok hq F ht
 have eE:tFE S 0 (q:Int)=e:=by rw[tFE,if_pos hc,F.way.yhr]
 have eM:tFM S 0 (q:Int)=e.map lv (q:Int):=by rw[tFM,if_pos hc,F.way.yhr,F.way.yht]
 rw[eE,eM,F.way.lastT,F.way.yht,yif hq (by omega),ht,hl];obtain⟨g1,g2,g3⟩:=yk9 h hq F ht hr u d;have hall:=F.spot.all;simp only at hall;rw[F.one]at hall;have hpl:=F.spot.le;simp only at hpl;have hsm:=yjJ h.ok hq hpl F.way.en hl
 have hfl:e.fault lv=0:=by rw[F.way.en];exact yhR h.ok F.way.code
 have hre:0<=e.r/\e.r<=7:=by
  obtain⟨_,hx⟩:=yhA (show yhp e.t e.l e.r e.u e.d e.f (lv:Int)=0 from hfl);rcases hx with ⟨hx,_⟩|⟨_,r0,r1,_⟩
  ·rw[ht]at hx;cases hx
  ·exact⟨r0,r1⟩
 refine⟨A,B,_,_,⟨?_,g2,rfl,hl,hsm,g3,rfl⟩,?_,⟨hre.1,hre.2,by rw[hmap];rfl⟩,fun hsame=> ?_⟩
 ·exact Prod.ext hall h.code
 ·rw[kI]
  have hs:(⟨tl,ix (q:Int) lv,lv,q/8^lv,e⟩:Sp) ∈ (thr S zW 3 0 0).1:=by
   rw[hall];exact J _ (Q _ Y)
  obtain⟨i1,i2,i3,i4,i5⟩:=yiL 3 0 0 h.code _ hs;simp only at i1 i2 i5;rw[ykY];rcases i5 with ⟨k1,k2,k3⟩|⟨s',k1,k2,k3,k4,k5⟩
  ·exact .inl ⟨k1,k2,by omega⟩
  ·exact .inr ⟨s',k1,k2,k3,k4,by omega⟩
 ·have hL:=F.list
  rw[if_pos ht]at hL
  have hget:L.getD (zM A).length .zz=e.map lv (q:Int):=by
   rw[hL,D];simp[List.getD]
  have hset:L.set (zM A).length (e.map lv (q:Int))=L:=by
   rw[hL,D];simp
  rw[hget,hsame,hset]at g1;exact g1
theorem yi5 {S:Fs} {L:List Mp} (h:Rep S L) {p:Int} (hc:tFC S 0 p=0):∃A B z T,Removed S L (tFM S 0 p) (rmR S 0 p) A B z T:=by
 obtain⟨q,rfl,hq⟩:=yjc hc;have hp:below (q:Int) 4096=I:=zB.2 ⟨by omega,by omega⟩;obtain⟨hz,lv,e,tl,A,B,F⟩:=yh8 h (q:=q) hq;have ht:=yi2 hz F hc;obtain⟨hl,hlv2,hmap,hhas⟩:=yh1 h.ok hq F ht;have hlen:=F.way.len
 have e1:(zj S 0 (q:Int)).length=(zj S 0 (q:Int)).length-1+1:=by omega
 have hdrop:(tabs (zj S 0 (q:Int))).drop ((zj S 0 (q:Int)).length-1+1)=[]:=by
  rw[<-e1];exact List.drop_eq_nil_of_le (by rw[xM];omega)
 have hR:rmR S 0 (q:Int)=rmW (q:Int) (tabs (zj S 0 (q:Int))) ((zj S 0 (q:Int)).length-1+1) S []:=by
  rw[rmR,if_pos hc,<-e1]
 have eM:tFM S 0 (q:Int)=e.map lv (q:Int):=by rw[tFM,if_pos hc,F.way.yhr,F.way.yht]
 rw[hR,eM];refine yl5 h hq hz (e.map lv (q:Int)) ((zj S 0 (q:Int)).length-1) (by omega) S [] (ylL h.ok q _ _) (fun s hs=> ?_) (by rw[hdrop];rfl);rw[hdrop]
 have hgl:(zj S 0 (q:Int)).getLast?=some s:=by rw[List.getLast?_eq_getElem?];exact hs
 have hsl:(s.level:Int)=lv:=by
  have:=F.way.yht;unfold Go.Proofs.YtdphiompijbelaaGreatDoor.yht at this;rw[hgl]at this;exact this
 have hst:s.table=tl:=by
  have:=F.way.lastT;unfold Go.Proofs.YtdphiompijbelaaGreatDoor.lastT at this;rw[hgl]at this;exact this
 have hsl:s.level=lv:=by omega
 have hwz:(thr S (onW (q:Int)) 3 0 0).2=0:=by
  unfold xG at hz;rw[if_pos hp]at hz;exact hz
 have eX:zj S 0 (q:Int)=(thr S (onW (q:Int)) 3 0 0).1:=by unfold zj;rw[if_pos ⟨hp,hwz⟩]
 rw[eX]at hgl
 have hd3:q/8^3<8:=by
  rw[show(8:Nat)^3=512 by decide];omega
 obtain⟨A1,B1,sp⟩:=yli h.ok q 3 (by omega) 0 0 (by omega) (by decide) (by omega) (by omega) h.code h.nodup s (List.mem_of_getLast? hgl);rw[sp.ahead,sp.place,hst,hsl,F.one];have hsm:=yjJ h.ok hq (ykK q lv).1 F.way.en hl;have hon:=F.way.on;refine⟨?_,?_⟩
 ·rw[<-hsm]
  simp[zM,hl]
 ·simp[zU,hon]
theorem yjx {S:Fs} {t i x:Int} (h:yhx S x=I):yhx (S.store t i 0) x=I:=by
 unfold yhx at h ⊢;rw[kJ]at h ⊢;intro j hj;have:=h j hj;unfold Fs.store;split
 ·simp only[Fs.put]
  split
  ·rfl
  ·exact this
 ·exact this
theorem ykA (p:Int) (ts:List Int):∀(k:Nat) (S:Fs) (G:List Int),(∀y,y ∈ G->yhx S y=I)->∀y,y ∈ (rmW p ts k S G).2->yhx (rmW p ts k S G).1 y=I
 | 0,S,G,h=>h
 | k+1,S,G,h=>by
   rw[rmW];split
   ·exact fun y hy=>yjx (h y hy)
   ·rename_i hn
    refine ykA p ts k _ _ fun y hy=> ?_;rcases V.1 hy with hy|hy
    ·exact yjx (h y hy)
    ·have:y=ts.getD k 0:=by simpa using hy
     subst this;cases he:yhx (S.store (ts.getD k 0) (index p (3-(k:Int))) 0) (ts.getD k 0)
     ·exact absurd (.inr he) hn
     ·rfl
theorem rm_empty (S:Fs) (p:Int):∀y,y ∈ (rmR S 0 p).2->yhx (rmR S 0 p).1 y=I:=by
 unfold rmR;split
 ·exact ykA p _ _ _ _ fun y hy=>by simp at hy
 ·intro y hy
  simp at hy
theorem remove_stay {S:Fs} {L:List Mp} (h:Rep S L) {p:Int} (hc:tFC S 0 p=0):
 (∀t lv a,Tab S t lv a->Tab (gives (rmR S 0 p).2 (rmR S 0 p).1) t lv a\/t ∈ (rmR S 0 p).2)/\(∀x d,Leaf S x d->x≠tFM S 0 p->Leaf (gives (rmR S 0 p).2 (rmR S 0 p).1) x d):=by
 obtain⟨A,B,z,T,r⟩:=yi5 h hc;obtain⟨_,_,_,_,hnew⟩:=yjH h r;obtain⟨M,hM,hM2⟩:=r.all
 have hT:zU M=T:=by
  have:=r.tabs;rw[hM,yhm,yhm]at this;exact List.append_cancel_left (List.append_cancel_right this)
 refine⟨fun t lv a ht=> ?_,fun x d ⟨s,h1,h2,h3⟩ hne=>⟨s,?_,h2,h3⟩⟩
 ·rcases ht with ht|⟨s,hs,ho,rfl,h4⟩
  ·exact .inl (.inl ht)
  ·rw[hM]at hs
   rcases V.1 hs with hs|hs
   ·rcases V.1 hs with hs|hs
    ·exact .inl (.inr ⟨s,by rw[hnew];exact J _ (J _ hs),ho,rfl,h4⟩)
    ·refine .inr ?_
     rw[r.gone,List.mem_reverse,<-hT];simp only[zU,Z];exact⟨s,hs,by rw[if_pos ho];exact Y⟩
   ·exact .inl (.inr ⟨s,by rw[hnew];exact Q _ hs,ho,rfl,h4⟩)
 ·rw[hM]at h1
  rw[hnew];rcases V.1 h1 with h1|h1
  ·rcases V.1 h1 with h1|h1
   ·exact J _ (J _ h1)
   ·have:s.mp ∈ zM M:=by
     simp only[zM,Z];exact⟨s,h1,by rw[if_pos h2];exact Y⟩
    rw[hM2,List.mem_singleton,h3.1]at this;exact absurd this hne
  ·exact Q _ h1
theorem ylo {S:Fs} {L:List Mp} (h:Rep S L) {q k:Int} {u:Bool} (hq:below q 4096=I) {R:Rs} {S':Fs} (he:KEnd S q k u R S'):R.a=ansE L q k u/\R.f=ansF L q k u/\R.r=ansR L q k u:=by
 obtain⟨c1,c2⟩:=yhW h q;rcases he with ⟨h1,h2,h3,h4,_⟩|⟨h1,h2,h3,h4,_⟩
 ·rw[c1,yhN,if_pos hq]at h1
  have hn:fnd L q=none:=by
   cases hf:fnd L q with
   | none=>rfl
   | some j=>rw[hf,if_neg (by simp)]at h1;omega
  rw[ansE,ansF,ansR,hn];exact⟨h2,h3,h4⟩
 ·rw[c2]at h2 h3 h4
  rw[c1]at h1
  have hm:yi0 L q=at' L q:=by rw[yi0,if_pos h1]
  rw[yhN,if_pos hq]at h1;rw[hm]at h2 h3 h4;unfold at' at h2 h3 h4
  cases hf:fnd L q with
  | none=>rw[hf,if_pos rfl]at h1;omega
  | some j=>
    rw[hf]at h2 h3 h4;rw[ansE,ansF,ansR,hf];exact⟨h2,h3,h4⟩
theorem good_ans {L:List Mp} (h:Good L) {m:Mp} (hm:m ∈ L) {q:Int} (hq:m.has q=I) (k:Int) (u:Bool):ansE L q k u=aEnd m.r k u/\ansF L q k u=yij m.p m.f m.r q k u/\ansR L q k u=yhV m.r k u:=by
 obtain⟨A,B,rfl⟩:=List.append_of_mem hm
 have e:A++m::B=A++[m]++B:=by simp
 have hf:=ylq (e▸h) hq;rw[<-e]at hf
 have hg:(A++m::B).getD A.length .zz=m:=by simp[List.getD]
 rw[ansE,ansF,ansR,hf];simp only[hg];exact⟨trivial,trivial,trivial⟩
theorem on_line {S:Fs} {L:List Mp} (h:Rep S L) {K:Wk} (hK:K.Ok) (ho:K.on=I) (hon:K.On S) {e:En} {m:Bool} (hd:kOut S 0 K= .done e m):
 tFC S 0 K.q=0/\e.map K.lv K.q=tFM S 0 K.q/\e.d=((tFE S 0 K.q).d||K.k==1):=by
 obtain⟨on,q,k,u,t,lv,x⟩:=K;simp only at ho;subst ho;have hp:below q 4096=I:=hK.page rfl;have hq:=zB.1 hp;obtain⟨n,rfl⟩:=O hq.1
 have hn:n<4096:=by omega
 have hlv:lv<=3:=by have:=hK.lv;simp only at this;omega
 have hon:Tab S t lv (n/8^(lv+1)):=hon;have hz:=h.code;obtain⟨hpl,hc⟩:=hon.place hz (yiD (n:Int) lv);obtain⟨e1,e2⟩:=yiz (i:=ix (n:Int) lv) (lv:=lv) (yhw hc);obtain⟨P,a,hw⟩:=yjM hz hn (3-lv) lv (by omega) t hon;rw[yhK S (n:Int) lv t a,if_neg (by simpa using hc)]at hw
 have fin:(rEn S t (ix (n:Int) lv) lv).l=I->tFC S 0 (n:Int)=0/\tFM S 0 (n:Int)=(rEn S t (ix (n:Int) lv) lv).map lv (n:Int)/\tFE S 0 (n:Int)=rEn S t (ix (n:Int) lv) lv:=fun hl=>by
  rw[if_pos (by simp[En.on,hl])]at hw;obtain⟨c1,c2,c3,c4⟩:=ykZ hp hw;have ht:=(yhH h.ok hl).2.1
  have z0:tFC S 0 (n:Int)=0:=by
   unfold tFC;rw[c1,c4,if_neg (by simp),if_pos ht]
  refine⟨z0,?_,?_⟩
  ·unfold tFM
   rw[if_pos z0,c3,c4]
  ·unfold tFE
   rw[if_pos z0,c4]
 by_cases hx:x=0
 ·subst hx
  have hk:=yly S 0 n k u t lv;have hd:kOut S 0 (Wk.at' n k u t lv 0)= .done e m:=hd;rw[hd,if_neg (by simpa using hc)]at hk;split at hk
  ·cases hk
  ·split at hk
   ·cases hk
   ·rename_i hl
    have hl:(rEn S t (ix (n:Int) lv) lv).l=I:=by simpa using hl
    split at hk
    ·cases hk
    ·split at hk
     ·cases hk
     ·rename_i hr
      cases hk;obtain⟨f1,f2,f3⟩:=fin hl;refine⟨f1,f2.symm,?_⟩
      show(rEn S t (ix (n:Int) lv) lv).d=((tFE S 0 (n:Int)).d||k==1)
      rw[f3]
      have hr:(Wk.at' n k u t lv 0).ready (rEn S t (ix (n:Int) lv) lv)=I:=by simpa using hr
      unfold Wk.ready at hr;simp only[Wk.at',E,Bool.or_eq_true]at hr;rcases hr.2 with hr|hr
      ·rw[hr];rfl
      ·have:(k==1)=N:=by simpa using hr
       rw[this,Bool.or_false]
 ·obtain⟨x0,x1,x2,x3,x4,x5⟩:=hK.leaf hx
  by_cases hw:S.word t.toNat (ix (n:Int) lv)=x
  ·have hout:=ylP (root:=0) (k:=k) (u:=u) hx (yhw hc) hw
   have hd:kOut S 0 (Wk.at' n k u t lv x)= .done e m:=hd;rw[hd]at hout;cases hout;rw[hw]at e2;obtain⟨f1,f2,f3⟩:=fin (by rw[e2];exact x3);refine⟨f1,?_,?_⟩
   ·show((Wk.mark _ _).map (lv:Int) (n:Int))=_
    rw[<-e2,f2];exact(yjE (by rw[e2];exact x3) (yhR h.ok hc)).2 _
   ·show((En.of x lv).d||k==1)=_
    rw[f3,e2]
  ·have hout:kOut S 0 ⟨I,n,k,u,t,lv,x⟩= .go (Wk.again 0 ⟨I,n,k,u,t,lv,x⟩):=by
    unfold kOut;rw[if_neg (by simp),if_neg (by simp[yhw hc]),if_pos hx,if_neg (by exact hw)]
   rw[hout]at hd;cases hd
end Pg
namespace Pg
structure Sx where
 kind:Int
 core:Int
 m:Mp
 q:Int
 k:Int
 u:Bool
structure Ev where
 c:Int
 ended:Bool
 a:Int
 f:Int
 r:Int
 back:Bool
def Ev.code (c:Int):Ev:=⟨c,N,0,0,0,N⟩
def Tl.ev (T:Tl):Ev:=⟨T.c,T.ended,T.a,T.f,T.r,N⟩
structure Spc where
 S:Fs
 C:List Cr
 G:List Int
 T:Mp
 W:List Bool
namespace Spc
def busy (X:Spc):Bool:=X.W.any id
def new (cores n:Nat):Spc:=⟨(Fs.new n).take,kS cores Cr.new,[],.zz,kS cores N⟩
def post (X:Spc) (S:Fs) (T:Mp) (G:List Int):Spc:=⟨S,X.C,G,T,X.W.map fun _=>I⟩
def at' (X:Spc) (k:Int):Cr:=X.C.getD k.toNat Cr.new
def chE (X:Spc) (x:Sx):Ev:=
 if X.busy=I then .code 8
 else if x.kind=1 then⟨insC X.S 0 x.m,N,0,0,0,decide (insC X.S 0 x.m=0)⟩
 else if x.kind=2 then .code (tFC X.S 0 x.m.p)
 else .code (prC X.S 0 x.m.p x.m.r)
def chN (X:Spc) (x:Sx):Spc:=
 if X.busy=I then X
 else if x.kind=1 then{X with S:=insS X.S 0 x.m}
 else if x.kind=2 then(if tFC X.S 0 x.m.p=0 then X.post (rmR X.S 0 x.m.p).1 (tFM X.S 0 x.m.p) (rmR X.S 0 x.m.p).2 else X)
 else if prC X.S 0 x.m.p x.m.r=0 then X.post (prS X.S 0 x.m.p x.m.r) (prM X.S 0 x.m.p x.m.r) []else X
def akE (X:Spc) (k:Int):Ev:=
 if X.W.getD k.toNat N=N then .code 9
 else if (X.W.set k.toNat N).any id=I then .code 0 else⟨0,N,0,0,0,I⟩
def akN (X:Spc) (k:Int):Spc:=
 if X.W.getD k.toNat N=N then X
 else if (X.W.set k.toNat N).any id=I then⟨X.S,X.C.set k.toNat ((X.at' k).told 0 X.T),X.G,X.T,X.W.set k.toNat N⟩
 else⟨gives X.G X.S,X.C.set k.toNat ((X.at' k).told 0 X.T),[],X.T,X.W.set k.toNat N⟩
def goE (X:Spc) (x:Sx):Ev:=
 if 1<=x.kind/\x.kind<=3 then X.chE x
 else if x.kind<1\/7<x.kind then .code 2
 else if x.core<0\/(X.C.length:Int)<=x.core then .code 1
 else if x.kind=4 then((X.at' x.core).bgT x.q x.k x.u).ev
 else if x.kind=5 then((X.at' x.core).stT X.S 0).ev
 else if x.kind=6 then X.akE x.core
 else if (X.at' x.core).L=[]then .code 9 else .code 0
def goN (X:Spc) (x:Sx):Spc:=
 if 1<=x.kind/\x.kind<=3 then X.chN x
 else if x.kind<1\/7<x.kind then X
 else if x.core<0\/(X.C.length:Int)<=x.core then X
 else if x.kind=4 then{X with C:=X.C.set x.core.toNat ((X.at' x.core).bgN 0 x.q x.k x.u)}
 else if x.kind=5 then{X with S:=(X.at' x.core).stS X.S 0,C:=X.C.set x.core.toNat ((X.at' x.core).stN X.S 0)}
 else if x.kind=6 then X.akN x.core
 else{X with C:=X.C.set x.core.toNat (X.at' x.core).yja}
end Spc
structure Bas (S:Fs) (G:List Int) (L:List Mp):Prop where
 ok:S.Ok
 rep:Rep (gives G S) L
 nd:G.Nodup
 hs:∀y,y ∈ G->S.has y=I
 em:∀y,y ∈ G->yhx S y=I
section
variable {S:Fs} {G:List Int} {L:List Mp}
theorem Bas.word (h:Bas S G L):(gives G S).word=S.word:=(yib G S h.ok h.nd h.hs).2.1
theorem Bas.yix (h:Bas S G L) (x:Int):(gives G S).has x=I ↔ S.has x=I/\x ∉ G:=by
 have hu:=(yib G S h.ok h.nd h.hs).2.2.2.1;simp only[Fs.has,Fs.inn,E,decide_eq_true_eq,hu];constructor
 ·rintro ⟨h1,h2,h3⟩
  exact⟨⟨h1,h2⟩,fun hx=>h3 (by rw[H h1];exact hx)⟩
 ·rintro ⟨⟨h1,h2⟩,h3⟩
  exact⟨h1,h2,fun hx=>h3 (by rw[H h1]at hx;exact hx)⟩
theorem Bas.agree (h:Bas S G L) {x:Int} (hx:(gives G S).has x=I):Agree (gives G S) S x:=
 ⟨by rw[hx,((h.yix x).1 hx).1],fun i _=>by rw[h.word]⟩
theorem Bas.thr (h:Bas S G L):thr S zW 3 0 0=thr (gives G S) zW 3 0 0:=
 yjO 3 0 0 h.rep.code fun x hx=>h.agree (yiA 3 0 0 h.rep.code x hx)
theorem Bas.yk6 (h:Rep S L):Bas S [] L:=⟨h.ok,h,List.nodup_nil,fun y hy=>by simp at hy,fun y hy=>by simp at hy⟩
theorem Bas.over (h:Bas S G L):Bas (gives G S) [] L:= .yk6 h.rep
end
theorem way_agree {S S':Fs} {q:Nat} (hz:(thr S zW 3 0 0).2=0) (ha:∀x,x ∈ (0:Int)::zU (thr S zW 3 0 0).1->Agree S S' x):∀(lv:Nat),lv<=3->∀t,Tab S t lv (q/8^(lv+1))->∀a,thr S' (onW (q:Int)) lv t a=thr S (onW (q:Int)) lv t a:=by
 intro lv
 induction lv using g with
 | _ lv IH=>
 intro hl t ht a;obtain⟨hpl,hc⟩:=ht.place hz (yiD (q:Int) lv);obtain⟨e1,e2⟩:=(ha t ht.mem).code (yiD (q:Int) lv) lv
 have e3:spt S' t (ix (q:Int) lv) lv a=spt S t (ix (q:Int) lv) lv a:=by unfold spt;rw[e2]
 rw[yhK,yhK,e1,e2,e3];cases hon:(rEn S t (ix (q:Int) lv) lv).on
 ·rfl
 ·obtain⟨b,rfl⟩:=yhM hon
  have hT:Tab S (rEn S t (ix (q:Int) (b+1)) (b+1)).f b (q/8^(b+1)):= .inr ⟨_,hpl,hon,rfl,rfl,by rw[ykm]⟩;have:=IH b (by omega) (by omega) _ hT ((a+ix (q:Int) (b+1))*8);simp only[sub];rw[this]
theorem Bas.fnd {S:Fs} {G:List Int} {L:List Mp} (h:Bas S G L) (p:Int):xG S 0 p=xG (gives G S) 0 p/\zj S 0 p=zj (gives G S) 0 p:=by
 unfold xG zj;cases hp:below p 4096
 ·simp
 ·obtain⟨p0,p1⟩:=zB.1 hp
  obtain⟨q,rfl⟩:=O p0
  have hq:q<4096:=by omega
  have hT:Tab (gives G S) 0 3 (q/8^4):=by
   rw[o (show q<8^4 from hq)];exact Tab.root _
  rw[way_agree h.rep.code (fun x hx=>h.agree (yiA 3 0 0 h.rep.code x hx)) 3 (by omega) 0 hT 0];exact⟨rfl,rfl⟩
theorem Bas.find {S:Fs} {G:List Int} {L:List Mp} (h:Bas S G L) (p:Int):tFC S 0 p=tFC (gives G S) 0 p/\tFM S 0 p=tFM (gives G S) 0 p/\tFE S 0 p=tFE (gives G S) 0 p:=by
 obtain⟨h1,h2⟩:=h.fnd p
 have hc:tFC S 0 p=tFC (gives G S) 0 p:=by unfold tFC;rw[h1,h2]
 exact⟨hc,by unfold tFM;rw[hc,h2],by unfold tFE;rw[hc,h2]⟩
theorem give_store {S:Fs} {x t:Int} (hne:t≠x) (ht:S.has t=I) (i v:Int):(S.store t i v).give x=(S.give x).store t i v/\(S.give x).has t=I:=by
 have hh:(S.give x).has t=I:=by
  unfold Fs.give;split
  ·rename_i hx
   simp only[Fs.has,Fs.inn,E,decide_eq_true_eq]at ht hx ⊢;refine⟨ht.1,(List.mem_erase_of_ne ?_).2 ht.2⟩;omega
  ·exact ht
 refine⟨?_,hh⟩;unfold Fs.store Fs.at';rw[hh,ht]
 by_cases hi:(decide (0<=i)&&decide (i<8))=I
 ·rw[if_pos (by rw[hi];rfl),if_pos (by rw[hi];rfl)]
  unfold Fs.give;have:({S with word:=Fs.put S.word t.toNat i.toNat v}:Fs).has x=S.has x:=rfl;rw[this]
  split<;>rfl
 ·rw[if_neg (by simpa using hi),if_neg (by simpa using hi)]
theorem yjz:∀(G:List Int) {S:Fs} {t:Int},t ∉ G->S.has t=I->∀i v,gives G (S.store t i v)=(gives G S).store t i v
 | [],S,t,_,_,i,v=>rfl
 | x::r,S,t,hG,ht,i,v=>by
   have hne:t≠x:=fun e=>hG (e▸Y);obtain⟨h1,h2⟩:=give_store (S:=S) hne ht i v
   show gives r ((S.store t i v).give x)=(gives r (S.give x)).store t i v
   rw[h1];exact yjz r (fun h=>hG (U _ h)) h2 i v
theorem store_empty {S:Fs} {t x:Int} (hne:t.toNat≠x.toNat) (i v:Int):yhx (S.store t i v) x=yhx S x:=by
 unfold yhx;have:∀j,(S.store t i v).word x.toNat j=S.word x.toNat j:=fun j=>kst_word x.toNat j (fun e=>hne e.symm);simp only[this]
structure Kor (S:Fs) (G:List Int) (L L0:List Mp) (T:Mp) (wt:Bool) (C:Cr):Prop where
 ok:C.Ok
 lines:∀l,l ∈ C.L->Leaf S l.m l.d\/(wt=I/\l.m ∈ L0/\l.m.meets T=I)
 walk:C.K.on=I->C.K.On S\/(wt=I/\C.K.t ∈ G/\fnd L C.K.q=none)
theorem Kor.mono {S S':Fs} {G:List Int} {L L0:List Mp} {T:Mp} {wt:Bool} {C:Cr} (h:Kor S G L L0 T wt C) (hs:Stay S S') (hl:∀x d,Leaf S x d->Leaf S' x d):Kor S' G L L0 T wt C:=
 ⟨h.ok,fun l hc=>(h.lines l hc).imp (hl _ _) id,fun ho=>(h.walk ho).imp (fun h=>h.stay hs) id⟩
theorem Kor.free {S:Fs} {G G':List Int} {L L0 L' L0':List Mp} {T T':Mp} {wt:Bool} {C:Cr} (h:Kor S G L L0 T N C):Kor S G' L' L0' T' wt C:=
 ⟨h.ok,fun l hc=>(h.lines l hc).imp id (fun h=>by simp at h),fun ho=>(h.walk ho).imp id (fun h=>by simp at h)⟩
theorem kOut_same {S S':Fs} {K:Wk} {root:Int} (h1:S'.has K.t=S.has K.t) (h2:S'.word=S.word):kOut S' root K=kOut S root K:=by
 unfold kOut Wk.word;rw[h1,h2]
theorem yjs {L:List Ln} {R:Rs} {l:Ln} (h:l ∈ rPut L R):l ∈ L\/(R.ended=I/\R.a=0/\l=⟨R.m,R.d⟩):=by
 unfold rPut at h;split at h
 ·rename_i hc
  simp only[E,beq_iff_eq]at hc;unfold kPut at h;split at h
  ·rcases V.1 h with h|h
   ·exact .inl (kP.1 ((yjA _).subset h)).1
   ·exact .inr ⟨hc.1,hc.2,by simpa using h⟩
  ·exact .inl h
 ·exact .inl h
structure Stepped (S:Fs) (G:List Int) (L L0:List Mp) (T:Mp) (wt:Bool) (C:Cr):Prop where
 bas:Bas (C.stS S 0) G L
 stay:Stay (gives G S) (gives G (C.stS S 0))
 leafs:∀x d,Leaf (gives G S) x d->Leaf (gives G (C.stS S 0)) x d
 kor:Kor (gives G (C.stS S 0)) G L L0 T wt (C.stN S 0)
 code:(C.stT S 0).c=0
 ans:(C.stT S 0).ended=I->(C.stT S 0).a=ansE L C.K.q C.K.k C.K.u/\(C.stT S 0).f=ansF L C.K.q C.K.k C.K.u/\(C.stT S 0).r=ansR L C.K.q C.K.k C.K.u
 done:(C.stT S 0).ended=I->(C.stT S 0).a=0->∃m,m.has C.K.q=I/\Leaf (gives G (C.stS S 0)) m (C.K.k==1)
 marks:∀q,ykn (gives G S) q->ykn (gives G (C.stS S 0)) q
 n:(C.stS S 0).n=S.n
theorem leaf_marks {S S':Fs} {m:Mp} {e:En} {r:Int} {u d:Bool} {A B:List Sp} {s s':Sp} (T:Turned S S' m m e r u d A B s s') (hu:e.u=I->u=I) (hd:e.d=I->d=I) {q:Int} (h:ykn S q):ykn S' q:=by
 obtain⟨y,h1,h2,h3,h4,h5⟩:=h;exact(T.yjC hu hd (x:=y.mp) (b:=I) ⟨y,h1,h2,rfl,h4,fun _=>h5⟩).marked h3
theorem yh2 {S:Fs} {G:List Int} {L L0:List Mp} {T:Mp} {wt:Bool} {C:Cr} (h:Bas S G L) (hS:C.stS S 0=S) (hk:Kor (gives G S) G L L0 T wt (C.stN S 0)) (hc:(C.stT S 0).c=0)
 (ha:(C.stT S 0).ended=I->((C.stT S 0).a=ansE L C.K.q C.K.k C.K.u/\(C.stT S 0).f=ansF L C.K.q C.K.k C.K.u/\(C.stT S 0).r=ansR L C.K.q C.K.k C.K.u)/\(C.stT S 0).a≠0):Stepped S G L L0 T wt C:=by
 refine⟨?_,?_,?_,?_,hc,fun he=>(ha he).1,fun he h0=>absurd h0 (ha he).2,?_,?_⟩<;>rw[hS]
 ·exact h
 ·exact Stay.refl _
 ·exact fun _ _ h=>h
 ·exact hk
 ·exact fun _ h=>h
theorem bas_walk {S:Fs} {G:List Int} {L L0:List Mp} {T:Mp} {wt:Bool} {C:Cr} (h:Bas S G L) (hC:Kor (gives G S) G L L0 T wt C) (ho:C.K.on=I):Stepped S G L L0 T wt C:=by
 have hp:below C.K.q 4096=I:=hC.ok.walk.page ho;have hok:(C.stN S 0).Ok:=hC.ok.step h.ok 0;rcases hC.walk ho with hon|⟨hw,hg,hf⟩
 ·--on its way
  have hhas:(gives G S).has C.K.t=I:=Tab.has hon h.rep.code;obtain⟨hhS,hnG⟩:=(h.yix _).1 hhas;have hk:kOut S 0 C.K=kOut (gives G S) 0 C.K:=(kOut_same (by rw[hhS,hhas]) h.word).symm;have hs:=ylC h.rep hC.ok.walk ho hon;rcases hout:kOut (gives G S) 0 C.K with c|K'|r|⟨e,m⟩
  ·rw[hout]at hs
   exact hs.elim
  ·rw[hout]at hs hk
   refine yh2 h (by unfold Cr.stS;rw[hk];rfl) ⟨hok,fun l hl=>hC.lines l ?_,fun _=> .inl ?_⟩ (by unfold Cr.stT;rw[hk];rfl) (fun he=>by unfold Cr.stT at he;rw[hk]at he;cases he)
   ·unfold Cr.stN at hl
    rw[hk]at hl;exact hl
   ·unfold Cr.stN
    rw[hk];exact hs.2.1
  ·have hr:=kStop hout
   rw[hout]at hs hk;have ha:=ylo h.rep hp hs;refine yh2 h (by unfold Cr.stS;rw[hk];rfl) ⟨hok,fun l hl=>hC.lines l ?_,fun h0=> ?_⟩ (by unfold Cr.stT;rw[hk];rfl) (fun _=> ?_)
   ·unfold Cr.stN at hl
    rw[hk]at hl;rcases yjs hl with hl|⟨_,h0,_⟩
    ·exact hl
    ·exact absurd h0 hr
   ·unfold Cr.stN at h0
    rw[hk]at h0;cases h0
   ·unfold Cr.stT
    rw[hk];exact⟨ha,hr⟩
  ·obtain⟨f1,f2,f3⟩:=on_line h.rep hC.ok.walk ho hon hout
   rw[hout]at hs hk;have ha:=ylo h.rep hp hs;obtain⟨q,hq0,hq⟩:=yjc f1;have hfr:∃x,kOut (gives G S) 0 C.K=x:=⟨_,rfl⟩
   have he0:(C.stT S 0).a=((Wo.done e m).res C.K).a:=by unfold Cr.stT;rw[hk];rfl
   have hlk:(e.map C.K.lv C.K.q).code=0/\(e.map C.K.lv C.K.q).has C.K.q=I:=by
    rw[f2,hq0];obtain⟨hz,lv,e',tl,A,B,F⟩:=yh8 h.rep hq;rw[hq0]at f1;have ht:=yi2 hz F f1;obtain⟨hl,_,_,hhas⟩:=yh1 h.rep.ok hq F ht;rw[tFM,if_pos f1,F.way.yhr,F.way.yht];exact⟨(yhS h.rep).ok _ (by rw[F.list,if_pos ht];simp),hhas⟩
   rcases hs with ⟨g1,_⟩|⟨_,_,_,_,g5,g6⟩
   ·rw[f1]at g1
    cases g1
   by_cases h0:((Wo.done e m).res C.K).a=0
   ·obtain⟨_,hS'⟩:=g6 h0
    rw[hq0]at f1 f2 f3
    obtain⟨A,B,s,s',Tn,hTab,⟨r0,r1,r2⟩,hR⟩:=yjg h.rep hq f1 (r:=(tFE (gives G S) 0 (q:Int)).r) (by
     obtain⟨_,_,_,_,_,_,⟨r0,r1,_⟩,_⟩:=yjg h.rep hq f1 (r:=0) ⟨by omega,by omega⟩ I I
     exact⟨r0,r1⟩) I ((tFE (gives G S) 0 (q:Int)).d||C.K.k==1)
    rw[r2]at Tn;have hR:=hR r2;rw[hq0]at hS';rw[<-hS']at Tn hR
    have hgv:gives G (C.stS S 0)=(Wo.done e m).fs (gives G S) C.K:=by
     unfold Cr.stS;rw[hk];cases m
     ·rfl
     ·exact yjz G hnG hhS _ _
    have hu:(tFE (gives G S) 0 (q:Int)).u=I->I=I:=fun _=>rfl
    have hd:(tFE (gives G S) 0 (q:Int)).d=I->((tFE (gives G S) 0 (q:Int)).d||C.K.k==1)=I:=fun h=>by rw[h];rfl
    have hnew:=Tn.leaf_new;have hSok:(C.stS S 0).Ok:=kOut_fs h.ok 0
    have hn:(C.stS S 0).n=S.n/\(∀y,y ∈ G->(C.stS S 0).has y=I)/\∀y,y ∈ G->yhx (C.stS S 0) y=I:=by
     unfold Cr.stS;rw[hk];cases m
     ·exact⟨rfl,h.hs,h.em⟩
     ·refine⟨(yiq _ _ _ _).1,fun y hy=> ?_,fun y hy=> ?_⟩
      ·show(S.store _ _ _).has y=I
       rw[yit];exact h.hs y hy
      ·show yhx (S.store _ _ _) y=I
       rw[store_empty]
       ·exact h.em y hy
       ·have h1:=yh4 hhS
        have h2:=yh4 (h.hs y hy);intro e1
        have:C.K.t=y:=by omega
        exact hnG (this▸hy)
    refine⟨⟨hSok,by rw[hgv];exact hR,h.nd,hn.2.1,hn.2.2⟩,by rw[hgv];exact Tn.stay,fun x d hx=>by rw[hgv];exact Tn.yjC hu hd hx,?_,by unfold Cr.stT;rw[hk];rfl,fun _=>by unfold Cr.stT;rw[hk];exact ha,fun _ _=> ?_,fun x hx=>by rw[hgv];exact leaf_marks Tn hu hd hx,hn.1⟩
    ·rw[hgv]
     refine⟨hok,fun l hl=> ?_,fun h0=> ?_⟩
     ·unfold Cr.stN at hl
      rw[hk]at hl;rcases yjs hl with hl|⟨_,_,rfl⟩
      ·exact(hC.lines l hl).imp (fun hx=>Tn.yjC hu hd hx) id
      ·refine .inl ?_
       show Leaf _ (e.map C.K.lv C.K.q) e.d
       rw[hq0,f2,f3];exact hnew
     ·unfold Cr.stN at h0
      rw[hk]at h0;cases h0
    ·rw[hgv]
     refine⟨tFM (gives G S) 0 (q:Int),?_,?_⟩
     ·rw[<-f2,<-hq0]
      exact hlk.2
     ·obtain⟨y,y1,y2,y3,y4,y5⟩:=hnew
      exact⟨y,y1,y2,y3,y4,fun hk1=>y5 (by rw[hk1,Bool.or_true])⟩
   ·have hS':=g5 h0
    have hm:C.stS S 0=S:=by
     cases m
     ·unfold Cr.stS
      rw[hk];rfl
     ·exfalso
      apply h0
      show aEnd (e.map C.K.lv C.K.q).r C.K.k C.K.u=0
      have hx:C.K.x≠0:=by
       intro hx;unfold kOut at hout;rw[if_neg (by simp[ho]),if_neg (by simp[hhas]),if_neg (by simp[hx])]at hout;split at hout
       ·cases hout
       ·split at hout
        ·cases hout
        ·split at hout
         ·cases hout
         ·split at hout
          ·cases hout
          ·split at hout<;>cases hout
      obtain⟨_,_,x2,x3,x4,_⟩:=hC.ok.walk.leaf hx;unfold kOut at hout;rw[if_neg (by simp[ho]),if_neg (by simp[hhas]),if_pos hx]at hout;split at hout
      ·cases hout
       have hfl:(En.of C.K.x C.K.lv).fault C.K.lv=0:=(ykI (hC.ok.walk.leaf hx).1 x2).1;rw[(yjE x3 hfl).2,yi3 hp x3 hfl,aEnd,if_pos x4]
      ·cases hout
    refine yh2 h hm ⟨hok,fun l hl=>hC.lines l ?_,fun h0=> ?_⟩ (by unfold Cr.stT;rw[hk];rfl) (fun _=> ?_)
    ·unfold Cr.stN at hl
     rw[hk]at hl;rcases yjs hl with hl|⟨_,h1,_⟩
     ·exact hl
     ·exact absurd h1 h0
    ·unfold Cr.stN at h0
     rw[hk]at h0;cases h0
    ·unfold Cr.stT
     rw[hk];exact⟨ha,h0⟩
 ·--at a table that goes
  have hhS:=h.hs _ hg;have hem:=h.em _ hg;have hlv:=hC.ok.walk.lv
  have hz:C.K.word S=0:=by
   unfold yhx at hem;rw[kJ]at hem
   simpa[Wk.word]using hem (ix C.K.q C.K.lv) (by simpa using yiD C.K.q C.K.lv)
  by_cases hx:C.K.x=0
  ·have hk:kOut S 0 C.K= .stop 1:=by
    unfold kOut
    have e0:yhz 0 (C.K.lv:Int)=0:=by
     have:¬((C.K.lv:Int)<0\/3<(C.K.lv:Int)):=by omega
     simp[yhz,this,wBad]
    have e1:(En.of 0 (C.K.lv:Int)).t=N:=by simp[En.of,yhB]
    rw[if_neg (by simp[ho]),if_neg (by simp[hhS]),if_neg (by simp[hx]),hz,if_neg (by simp[e0]),if_pos e1]
   refine yh2 h (by unfold Cr.stS;rw[hk];rfl) ⟨hok,fun l hl=>hC.lines l ?_,fun h0=> ?_⟩ (by unfold Cr.stT;rw[hk];rfl) (fun _=> ?_)
   ·unfold Cr.stN at hl
    rw[hk]at hl;have hl:l ∈ rPut C.L (Wo.res C.K (Wo.stop 1)):=hl;rcases yjs hl with hl|⟨_,h0,_⟩
    ·exact hl
    ·cases h0
   ·unfold Cr.stN at h0
    rw[hk]at h0;cases h0
   ·unfold Cr.stT
    rw[hk,ansE,ansF,ansR,hf];exact⟨⟨rfl,rfl,rfl⟩,show(1:Int)≠0 by decide⟩
  ·have hk:kOut S 0 C.K= .go (C.K.again 0):=by
    unfold kOut;rw[if_neg (by simp[ho]),if_neg (by simp[hhS]),if_pos hx,if_neg (by rw[hz];exact fun e=>hx e.symm)]
   refine yh2 h (by unfold Cr.stS;rw[hk];rfl) ⟨hok,fun l hl=>hC.lines l ?_,fun _=> .inl ?_⟩ (by unfold Cr.stT;rw[hk];rfl) (fun he=>by unfold Cr.stT at he;rw[hk]at he;cases he)
   ·unfold Cr.stN at hl
    rw[hk]at hl;exact hl
   ·unfold Cr.stN
    rw[hk];exact Wk.On.again ho hp
end Pg
namespace Pg
structure Inv (X:Spc) (L L0:List Mp):Prop where
 bas:Bas X.S X.G L
 calm:X.busy=N->X.G=[]
 len:X.W.length=X.C.length
 some:1<=X.C.length
 cores:∀k,k<X.C.length->Kor (gives X.G X.S) X.G L L0 X.T (X.W.getD k N) (X.C.getD k Cr.new)
 past:X.busy=I->Good L0
theorem yjr {α:Type} {l:List α} {k:Nat} (h:k<l.length) (d:α):l.getD k d ∈ l:=by
 simp[List.getD,h]
theorem yjw {W:List Bool} (h:W.any id=N) (k:Nat):W.getD k N=N:=by
 by_cases hk:k<W.length
 ·cases hw:W.getD k N
  ·rfl
  ·have:W.any id=I:=kB.2 ⟨I,by rw[<-hw];exact yjr hk _,rfl⟩
   rw[h]at this;cases this
 ·simp[List.getD,Nat.le_of_not_lt hk]
theorem yh9 {α:Type} {l:List α} {k:Nat} (hk:k<l.length) (x d:α) (j:Nat):(l.set k x).getD j d=if j=k then x else l.getD j d:=by
 by_cases e:j=k
 ·subst e
  simp[List.getD,hk]
 ·rw[if_neg e]
  simp[List.getD,List.getElem?_set_ne (fun h=>e h.symm)]
section
variable {X:Spc} {L L0:List Mp}
theorem Inv.still (_h:Inv X L L0) (hb:X.busy=N) (k:Nat):X.W.getD k N=N:=yjw hb k
theorem Inv.rep (h:Inv X L L0) (hb:X.busy=N):Rep X.S L:=by
 have:=h.bas.rep;rw[h.calm hb]at this;exact this
theorem inv_new {cores n:Nat} (h1:1<=cores) (h2:1<=n) (h3:n<=128):Inv (Spc.new cores n) [] []:=by
 refine⟨.yk6 (rep_start h2 h3),fun _=>rfl,by simp[Spc.new],by simpa[Spc.new]using h1,fun k hk=> ?_,fun hb=> ?_⟩
 ·have e:(Spc.new cores n).C.getD k Cr.new=Cr.new:=by
   have hk:k<cores:=by simpa[Spc.new]using hk
   simp[Spc.new,List.getD,hk]
  rw[e];exact⟨Cr.Ok.new,fun l hl=>by simp[Cr.new]at hl,fun ho=>by simp[Cr.new,Wk.off]at ho⟩
 ·exfalso
  simp[Spc.busy,Spc.new]at hb
theorem Inv.core (h:Inv X L L0) {k:Nat} (hk:k<X.C.length) {C':Cr} (hC:Kor (gives X.G X.S) X.G L L0 X.T (X.W.getD k N) C'):Inv {X with C:=X.C.set k C'} L L0:=by
 refine⟨h.bas,h.calm,by simpa using h.len,by simpa using h.some,fun j hj=> ?_,h.past⟩
 have hj:j<X.C.length:=by simpa using hj
 show Kor (gives X.G X.S) X.G L L0 X.T (X.W.getD j N) ((X.C.set k C').getD j Cr.new)
 rw[yh9 hk];split
 ·rename_i e
  subst e;exact hC
 ·exact h.cores j hj
theorem Inv.walk (h:Inv X L L0) {k:Nat} (hk:k<X.C.length) (hs:Stepped X.S X.G L L0 X.T (X.W.getD k N) (X.C.getD k Cr.new)):Inv {X with S:=(X.C.getD k Cr.new).stS X.S 0,C:=X.C.set k ((X.C.getD k Cr.new).stN X.S 0)} L L0:=by
 refine⟨hs.bas,h.calm,by simpa using h.len,by simpa using h.some,fun j hj=> ?_,h.past⟩
 have hj:j<X.C.length:=by simpa using hj
 show Kor (gives X.G ((X.C.getD k Cr.new).stS X.S 0)) X.G L L0 X.T (X.W.getD j N) ((X.C.set k ((X.C.getD k Cr.new).stN X.S 0)).getD j Cr.new)
 rw[yh9 hk];split
 ·rename_i e
  subst e;exact hs.kor
 ·exact(h.cores j hj).mono hs.stay hs.leafs
theorem Inv.insert (h:Inv X L L0) (hb:X.busy=N) (m:Mp):Inv {X with S:=insS X.S 0 m} (if insC X.S 0 m=0 then addL L m else L) L0:=by
 have hr:=h.rep hb;have hG:=h.calm hb;have hw:=h.still hb;obtain⟨h1,h2⟩:=insert_stay hr m
 have hR:Rep (insS X.S 0 m) (if insC X.S 0 m=0 then addL L m else L):=by
  rcases yj5 hr m with ⟨e1,_,e⟩|⟨_,e1,e2,_⟩
  ·rw[e1,e,if_neg (by decide)]
   exact hr
  ·by_cases hc:insC X.S 0 m=0
   ·rw[if_pos hc]
    exact e2
   ·rw[if_neg hc]
    have:insS X.S 0 m=X.S:=by rw[insS,if_neg hc]
    rw[this];exact hr
 refine⟨?_,fun _=>hG,h.len,h.some,fun k hk=> ?_,h.past⟩
 ·show Bas (insS X.S 0 m) X.G _
  rw[hG];exact .yk6 hR
 ·have:=h.cores k hk
  show Kor (gives X.G (insS X.S 0 m)) X.G _ L0 X.T (X.W.getD k N) _
  rw[hw k]at this ⊢;rw[hG]at this ⊢;exact(this.mono h1 h2).free
theorem ykh (W:List Bool) (k:Nat) (hk:k<W.length):(W.map fun _=>I).getD k N=I:=by simp[List.getD,hk]
theorem yik {W:List Bool} (h:1<=W.length):(W.map fun _=>I).any id=I:=by
 cases W with
 | nil=>simp at h
 | cons a r=>simp
theorem yj2 {m:Mp} (h:m.code=0):m.meets m=I:=by
 cases hm:m.meets m
 ·exact absurd rfl (yk4 h hm)
 ·rfl
theorem meets_rts {m:Mp} (h:m.code=0) (r:Int):m.meets (m.rts r)=I:=by
 have:=yj2 h;unfold Mp.meets at this ⊢;exact this
theorem yjG {S:Fs} (h:Rep S L) {q:Nat} (hq:q<4096) {lv:Nat} (hl:lv<=3) {t:Int} (ht:Tab S t lv (q/8^(lv+1))) (hw:S.word t.toNat (ix (q:Int) lv)=0):fnd L (q:Int)=none:=by
 have hp:below (q:Int) 4096=I:=zB.2 ⟨by omega,by omega⟩;obtain⟨hpl,hc⟩:=ht.place h.code (yiD (q:Int) lv);obtain⟨z1,z2⟩:=yiK (lv:=lv) (yhw hc) (by omega) hw;obtain⟨P,a,hway⟩:=yjM h.code hq (3-lv) lv (by omega) t ht;rw[yhK S (q:Int) lv t a,if_neg (by simpa using hc),if_pos (by rw[z2];rfl)]at hway;obtain⟨c1,c2,c3,c4⟩:=ykZ hp hway
 have h5:tFC S 0 (q:Int)=5:=by
  unfold tFC;rw[c1,c4,z2,if_neg (by simp),if_neg (by simp[En.zero])]
 rw[(yhW h q).1,yhN,if_pos hp]at h5
 cases hf:fnd L (q:Int)with
 | none=>rfl
 | some j=>rw[hf,if_neg (by simp)]at h5;omega
theorem ykB (p:Int) (ts:List Int):∀(k:Nat) (S:Fs) (G:List Int) (x j:Nat),(rmW p ts k S G).1.word x j=S.word x j\/(rmW p ts k S G).1.word x j=0
 | 0,S,G,x,j=> .inl rfl
 | k+1,S,G,x,j=>by
   have one:∀t i:Int,(S.store t i 0).word x j=S.word x j\/(S.store t i 0).word x j=0:=fun t i=>by
    unfold Fs.store;split
    ·simp only[Fs.put]
     split
     ·exact .inr rfl
     ·exact .inl rfl
    ·exact .inl rfl
   rw[rmW];split
   ·exact one _ _
   ·rcases ykB p ts k (S.store (ts.getD k 0) (index p (3-(k:Int))) 0) (G++[ts.getD k 0]) x j with e|e
    ·rw[e]
     exact one _ _
    ·exact .inr e
theorem rm_words (S:Fs) (p:Int) (x j:Nat):(rmR S 0 p).1.word x j=S.word x j\/(rmR S 0 p).1.word x j=0:=by
 unfold rmR;split
 ·exact ykB p _ _ _ _ x j
 ·exact .inl rfl
theorem yj4 {S:Fs} (h:Rep S L) {p:Int} (hB:Bas (rmR S 0 p).1 (rmR S 0 p).2 (yio L p)) {q:Nat} (hq:q<4096):∀(d lv:Nat),lv+d=3->∀t,Tab S t lv (q/8^(lv+1))->
 Tab (gives (rmR S 0 p).2 (rmR S 0 p).1) t lv (q/8^(lv+1))\/fnd (yio L p) (q:Int)=none
 | 0,lv,hd,t,ht=>by
   have:lv=3:=by omega
   subst this;rcases ht with ht|⟨s,hs,ho,_,hl,_⟩
   ·exact .inl (.inl ht)
   ·have:=(yiL 3 0 0 h.code s hs).2.1
    omega
 | d+1,lv,hd,t,ht=>by
   rcases ht with ⟨_,e,_⟩|⟨s,hs,ho,rfl,hl,ha⟩
   ·omega
   ·obtain⟨i1,i2,i3,i4,i5⟩:=yiL 3 0 0 h.code s hs
    rw[hl]at i3 i4
    have hpar:Tab S s.table (lv+1) (q/8^(lv+1+1))/\s.place=ix (q:Int) (lv+1):=by
     rw[ylw,ykY q (lv+1),<-ha];rcases i5 with ⟨k1,k2,k3⟩|⟨s',k1,k2,k3,k4,k5⟩
     ·exact⟨.inl ⟨k1,by omega,by omega⟩,by omega⟩
     ·exact⟨.inr ⟨s',k1,k2,k3,by omega,by omega⟩,by omega⟩
    obtain⟨hT,hpl⟩:=hpar;rcases yj4 h hB hq d (lv+1) (by omega) s.table hT with hT'|hn
    ·have hw:=hB.word
     obtain⟨hpl',hc'⟩:=hT'.place hB.rep.code (yiD (q:Int) (lv+1));rcases rm_words S p s.table.toNat (ix (q:Int) (lv+1))with e|e
     ·refine .inl (.inr ⟨_,hpl',?_⟩)
      have hsame:rEn (gives (rmR S 0 p).2 (rmR S 0 p).1) s.table (ix (q:Int) (lv+1)) (lv+1)=s.e:=by
       rw[i3,hpl];unfold rEn;rw[if_pos (yhw hc'),if_pos (yhw i4),hw,e]
      rw[ykm];refine⟨?_,?_,rfl,rfl⟩
      ·show(rEn (gives (rmR S 0 p).2 (rmR S 0 p).1) s.table (ix (q:Int) (lv+1)) (lv+1)).on=I
       rw[hsame];exact ho
      ·show(rEn (gives (rmR S 0 p).2 (rmR S 0 p).1) s.table (ix (q:Int) (lv+1)) (lv+1)).f=s.e.f
       rw[hsame]
     ·exact .inr (yjG hB.rep hq (by omega) hT' (by rw[hw];exact e))
    ·exact .inr hn
theorem Inv.remove (h:Inv X L L0) (hb:X.busy=N) {p:Int} (hc:tFC X.S 0 p=0):Inv (X.post (rmR X.S 0 p).1 (tFM X.S 0 p) (rmR X.S 0 p).2) (yio L p) L:=by
 have hr:=h.rep hb;have hG:=h.calm hb;have hw:=h.still hb;obtain⟨r1,r2,r3,r4,r5,r6,r7,_⟩:=yj6 hr p;have hB:Bas (rmR X.S 0 p).1 (rmR X.S 0 p).2 (yio L p):=⟨r1,r6,r4,r5,rm_empty X.S p⟩;obtain⟨s1,s2⟩:=remove_stay hr hc
 have hm:tFM X.S 0 p ∈ L:=by
  obtain⟨A,B,z,T,r⟩:=yi5 hr hc;rw[r.list];simp
 have hbusy:(X.post (rmR X.S 0 p).1 (tFM X.S 0 p) (rmR X.S 0 p).2).busy=I:=by
  have h1:=h.some;rw[<-h.len]at h1
  show(X.W.map fun _=>I).any id=I
  exact yik h1
 refine⟨hB,fun e=>(by rw[hbusy]at e;cases e),by simpa[Spc.post]using h.len,h.some,fun k hk=> ?_,fun _=>yhS hr⟩;have hk':k<X.C.length:=hk
 show Kor (gives (rmR X.S 0 p).2 (rmR X.S 0 p).1) (rmR X.S 0 p).2 (yio L p) L (tFM X.S 0 p) ((X.W.map fun _=>I).getD k N) (X.C.getD k Cr.new)
 rw[ykh _ _ (by rw[h.len];exact hk')];have hK:=h.cores k hk';rw[hw k,hG]at hK;refine⟨hK.ok,fun l hl=> ?_,fun ho=> ?_⟩
 ·rcases hK.lines l hl with hx|hx
  ·by_cases e:l.m=tFM X.S 0 p
   ·refine .inr ⟨rfl,by rw[e];exact hm,?_⟩
    rw[e];exact yj2 ((yhS hr).ok _ hm)
   ·exact .inl (s2 _ _ hx e)
  ·simp at hx
 ·rcases hK.walk ho with hx|hx
  ·have hp:=hK.ok.walk.page ho
   have hlv:=hK.ok.walk.lv;obtain⟨q0,q1⟩:=zB.1 hp;rcases s1 _ _ _ hx with hx'|hx'
   ·exact .inl hx'
   ·rcases yj4 hr hB (q:=(X.C.getD k Cr.new).K.q.toNat) (by omega) (3-(X.C.getD k Cr.new).K.lv) _ (by omega) _ hx with hy|hy
    ·exact .inl hy
    ·refine .inr ⟨rfl,hx',?_⟩
     rw[H q0]at hy;exact hy
  ·simp at hx
theorem Inv.protect (h:Inv X L L0) (hb:X.busy=N) {p r:Int} (hc:prC X.S 0 p r=0):Inv (X.post (prS X.S 0 p r) (prM X.S 0 p r) []) (yi4 L p r) L:=by
 have hr:=h.rep hb;have hG:=h.calm hb;have hw:=h.still hb;obtain⟨e1,e2,e3⟩:=rep_protect hr p r
 have hr07:0<=r/\r<=7/\tFC X.S 0 p=0:=by
  unfold prC at hc;split at hc
  ·omega
  ·exact⟨by omega,by omega,hc⟩
 obtain⟨r0,r1,ht0⟩:=hr07;obtain⟨q,rfl,hq⟩:=yjc ht0;obtain⟨A,B,s,s',Tn,_,_,_⟩:=yjg hr hq ht0 ⟨r0,r1⟩ (tFE X.S 0 (q:Int)).u (tFE X.S 0 (q:Int)).d
 have eE:tFE X.S 0 (q:Int)=yhr (zj X.S 0 (q:Int)):=by rw[tFE,if_pos ht0]
 have hS:prS X.S 0 (q:Int) r=X.S.store (lastT (zj X.S 0 (q:Int))) (index q (yht (zj X.S 0 (q:Int)))) (enc (tFE X.S 0 (q:Int)).t (tFE X.S 0 (q:Int)).l r (tFE X.S 0 (q:Int)).u (tFE X.S 0 (q:Int)).d (tFE X.S 0 (q:Int)).f (yht (zj X.S 0 (q:Int)))):=by
  rw[prS,if_pos hc,eE]
 rw[<-hS]at Tn
 have hM:prM X.S 0 (q:Int) r=(tFM X.S 0 (q:Int)).rts r:=by rw[prM,if_pos hc]
 have hm:tFM X.S 0 (q:Int) ∈ L:=by
  obtain⟨A,B,z,T,r⟩:=yi5 hr ht0;rw[r.list];simp
 have hbusy:(X.post (prS X.S 0 (q:Int) r) (prM X.S 0 (q:Int) r) []).busy=I:=by
  have h1:=h.some;rw[<-h.len]at h1
  show(X.W.map fun _=>I).any id=I
  exact yik h1
 refine⟨.yk6 e3,fun e=>(by rw[hbusy]at e;cases e),by simpa[Spc.post]using h.len,h.some,fun k hk=> ?_,fun _=>yhS hr⟩;have hk':k<X.C.length:=hk
 show Kor (prS X.S 0 (q:Int) r) [] (yi4 L (q:Int) r) L (prM X.S 0 (q:Int) r) ((X.W.map fun _=>I).getD k N) (X.C.getD k Cr.new)
 rw[ykh _ _ (by rw[h.len];exact hk')];have hK:=h.cores k hk';rw[hw k,hG]at hK;refine⟨hK.ok,fun l hl=> ?_,fun ho=> ?_⟩
 ·rcases hK.lines l hl with hx|hx
  ·by_cases e:l.m=tFM X.S 0 (q:Int)
   ·refine .inr ⟨rfl,by rw[e];exact hm,?_⟩
    rw[e,hM];exact meets_rts ((yhS hr).ok _ hm) r
   ·exact .inl (Tn.leaf_ne hx e)
  ·simp at hx
 ·rcases hK.walk ho with hx|hx
  ·exact .inl (Tab.stay hx Tn.stay)
  ·simp at hx
theorem Kor.told {S:Fs} {G:List Int} {T:Mp} {wt:Bool} {C:Cr} (h:Kor S G L L0 T wt C):Kor S G L L0 T N (C.told 0 T):=by
 refine⟨h.ok.told 0 T,fun l hl=> ?_,fun ho=> .inl ?_⟩
 ·have hl:l ∈ yjd C.L T:=hl
  rcases h.lines l (kP.1 hl).1 with hx|⟨_,_,hx⟩
  ·exact .inl hx
  ·rw[yku hl]at hx
   cases hx
 ·have ho:(C.K.again 0).on=I:=ho
  have ho':C.K.on=I:=by
   unfold Wk.again at ho;split at ho
   ·assumption
   ·exact ho
  exact Wk.On.again ho' (h.ok.walk.page ho')
theorem Inv.ack (h:Inv X L L0) {k:Int} (hk:k.toNat<X.C.length):Inv (X.akN k) L L0:=by
 unfold Spc.akN;split
 ·exact h
 ·rename_i hw
  have hkW:k.toNat<X.W.length:=by rw[h.len];exact hk
  have hC:∀j,j<X.C.length->Kor (gives X.G X.S) X.G L L0 X.T ((X.W.set k.toNat N).getD j N) ((X.C.set k.toNat ((X.at' k).told 0 X.T)).getD j Cr.new):=fun j hj=>by
   rw[yh9 hk,yh9 hkW];split
   ·rename_i e
    subst e;exact(h.cores _ hk).told
   ·exact h.cores j hj
  split
  ·rename_i hb
   refine⟨h.bas,fun e=> ?_,by simpa using h.len,by simpa using h.some,fun j hj=>hC j (by simpa using hj),fun _=>h.past ?_⟩
   ·have:(X.W.set k.toNat N).any id=N:=e
    rw[hb]at this;cases this
   ·have hw:X.W.getD k.toNat N=I:=by simpa using hw
    exact kB.2 ⟨I,by rw[<-hw];exact yjr hkW _,rfl⟩
  ·rename_i hb
   have hb:(X.W.set k.toNat N).any id=N:=by simpa using hb
   refine⟨h.bas.over,fun _=>rfl,by simpa using h.len,by simpa using h.some,fun j hj=> ?_,fun e=> ?_⟩
   ·have:=hC j (by simpa using hj)
    rw[yjw hb j]at this
    show Kor (gives X.G X.S) [] L L0 X.T ((X.W.set k.toNat N).getD j N) _
    rw[yjw hb j];exact this.free
   ·have:(X.W.set k.toNat N).any id=I:=e
    rw[hb]at this;cases this
theorem Kor.begin {S:Fs} {G:List Int} {T:Mp} {wt:Bool} {C:Cr} (h:Kor S G L L0 T wt C) (q k:Int) (u:Bool):Kor S G L L0 T wt (C.bgN 0 q k u):=by
 refine⟨h.ok.begin 0 q k u,?_,?_⟩<;>unfold Cr.bgN<;>split
 ·exact h.lines
 ·exact h.lines
 ·rename_i hc
  exact fun _=> .inl (Wk.On.start (yid hc.1))
 ·exact h.walk
theorem Kor.yja {S:Fs} {G:List Int} {T:Mp} {wt:Bool} {C:Cr} (h:Kor S G L L0 T wt C):Kor S G L L0 T wt C.yja:=
 ⟨h.ok.yja,fun l hl=>h.lines l (List.mem_of_mem_drop hl),h.walk⟩
end
def Spc.nxL (X:Spc) (L:List Mp) (x:Sx):List Mp:=
 if 1<=x.kind/\x.kind<=3/\(X.goE x).c=0 then(if x.kind=1 then addL L x.m else if x.kind=2 then yio L x.m.p else yi4 L x.m.p x.m.r)else L
def Spc.nxP (X:Spc) (L L0:List Mp) (x:Sx):List Mp:=if 2<=x.kind/\x.kind<=3/\(X.goE x).c=0 then L else L0
section
variable {X:Spc} {L L0:List Mp}
theorem inv_change (h:Inv X L L0) (x:Sx) (hk:1<=x.kind/\x.kind<=3):Inv (X.chN x) (X.nxL L x) (X.nxP L L0 x):=by
 have hg:X.goE x=X.chE x:=by unfold Spc.goE;rw[if_pos hk]
 unfold Spc.nxL Spc.nxP;rw[hg];unfold Spc.chN Spc.chE
 by_cases hb:X.busy=I
 ·rw[if_pos hb,if_pos hb,if_neg (by simp[Ev.code]),if_neg (by simp[Ev.code])]
  exact h
 ·rw[if_neg hb,if_neg hb]
  have hb:X.busy=N:=by simpa using hb
  by_cases h1:x.kind=1
  ·rw[if_pos h1,if_pos h1,if_pos h1]
   have:=h.insert hb x.m
   have e2:¬(2<=x.kind/\x.kind<=3/\insC X.S 0 x.m=0):=by omega
   rw[if_neg e2]
   by_cases hc:insC X.S 0 x.m=0
   ·rw[if_pos ⟨hk.1,hk.2,hc⟩]
    rw[if_pos hc]at this;exact this
   ·rw[if_neg (fun e=>hc e.2.2)]
    rw[if_neg hc]at this;exact this
  ·rw[if_neg h1,if_neg h1,if_neg h1]
   by_cases h2:x.kind=2
   ·rw[if_pos h2,if_pos h2,if_pos h2]
    by_cases hc:tFC X.S 0 x.m.p=0
    ·rw[if_pos hc,if_pos ⟨hk.1,hk.2,hc⟩,if_pos ⟨by omega,hk.2,hc⟩]
     exact h.remove hb hc
    ·rw[if_neg hc,if_neg (fun e=>hc e.2.2),if_neg (fun e=>hc e.2.2)]
     exact h
   ·rw[if_neg h2,if_neg h2,if_neg h2]
    by_cases hc:prC X.S 0 x.m.p x.m.r=0
    ·rw[if_pos hc,if_pos ⟨hk.1,hk.2,hc⟩,if_pos ⟨by omega,hk.2,hc⟩]
     exact h.protect hb hc
    ·rw[if_neg hc,if_neg (fun e=>hc e.2.2),if_neg (fun e=>hc e.2.2)]
     exact h
theorem yiG {x:Sx} (h:¬(x.core<0\/(X.C.length:Int)<=x.core)):x.core.toNat<X.C.length:=by omega
theorem yi7 {C:Cr} {S:Fs} (ho:C.K.on=N):C.stT S 0= .code 9/\C.stN S 0=C/\C.stS S 0=S:=by
 have hk:kOut S 0 C.K= .code 9:=kOut_off ho;refine⟨?_,?_,?_⟩
 ·unfold Cr.stT;rw[hk];rfl
 ·unfold Cr.stN;rw[hk];rfl
 ·unfold Cr.stS;rw[hk];rfl
theorem yjt {α:Type} {l:List α} {k:Nat} (hk:k<l.length) (d:α):l.set k (l.getD k d)=l:=by
 have:l.getD k d=l[k]:=by simp[List.getD,hk]
 rw[this];exact List.set_getElem_self hk
theorem yiQ (h:Inv X L L0) (x:Sx):Inv (X.goN x) (X.nxL L x) (X.nxP L L0 x):=by
 by_cases hk:1<=x.kind/\x.kind<=3
 ·have:X.goN x=X.chN x:=by unfold Spc.goN;rw[if_pos hk]
  rw[this];exact inv_change h x hk
 ·have e1:X.nxL L x=L:=by unfold Spc.nxL;rw[if_neg (fun e=>hk ⟨e.1,e.2.1⟩)]
  have e2:X.nxP L L0 x=L0:=by unfold Spc.nxP;rw[if_neg (by omega)]
  rw[e1,e2];unfold Spc.goN;rw[if_neg hk];split
  ·exact h
  ·split
   ·exact h
   ·rename_i _ hc
    have hlt:=yiG hc;split
    ·exact h.core hlt ((h.cores _ hlt).begin _ _ _)
    ·split
     ·show Inv {X with S:=(X.C.getD x.core.toNat Cr.new).stS X.S 0,C:=X.C.set x.core.toNat ((X.C.getD x.core.toNat Cr.new).stN X.S 0)} L L0
      cases ho:(X.C.getD x.core.toNat Cr.new).K.on
      ·obtain⟨_,o2,o3⟩:=yi7 (S:=X.S) ho
       rw[o2,o3,yjt hlt];exact h
      ·exact h.walk hlt (bas_walk h.bas (h.cores _ hlt) ho)
     ·split
      ·exact h.ack hlt
      ·exact h.core hlt (h.cores _ hlt).yja
end
end Pg
end
end Go.Proofs.YtdphiompijbelaaGreatDoor
