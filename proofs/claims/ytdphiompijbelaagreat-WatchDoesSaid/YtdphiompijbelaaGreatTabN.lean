import Derived.Test.YtdphiompijbelaaGreatPlainTI
set_option linter.all false
set_option maxRecDepth 100000
open Int renaming eq_ofNat_of_zero_le->o,toNat_of_nonneg->ks,toNat_natCast->uv
open Go.IntKind renaming i64->O
open Go.Value renaming int->U,bool->kh
open Option renaming none->Z,some->kp
open List renaming mem_append_left->N,mem_append->Y,mem_append_right->V,mem_cons_self->Q,mem_flatMap->E,mem_cons_of_mem->H,append_assoc->kO,any_eq_true->ki,singleton_append->un,all_eq_true->ud,length_cons->uc,mem_filter->ua,replicate->ue,mem_cons->yI
open Bool renaming true->I,false->J,and_eq_true->D,not_eq_true'->ur
namespace Go.Proofs.YtdphiompijbelaaGreat
open Go.RowKit
namespace Pg
def KRun (S:Fs) (q k:Int) (u:Bool) (i:Nat) (K:Wk):Prop:=
 (∃(t:Int) (lv a:Nat) (P:List Sp),i+lv=3/\thr S (onW q) 3 0 0=(P++(thr S (onW q) lv t a).1,(thr S (onW q) lv t a).2)/\K=Wk.at' q k u t lv 0)\/
 (∃(t:Int) (lv a:Nat) (P:List Sp),i+lv=4/\thr S (onW q) 3 0 0=(P++[spt S t (ix q lv) lv a],0)/\yhx S t (ix q lv) lv=0/\(rEn S t (ix q lv) lv).l=I/\may (rEn S t (ix q lv) lv).r k u=I/\S.word t.toNat (ix q lv)≠0/\K=Wk.at' q k u t lv (S.word t.toNat (ix q lv)))
theorem KRun.read {S:Fs} {q k:Int} {u:Bool} {i:Nat} (t:Int) (lv a:Nat) (P:List Sp) (hi:i+lv=3) (hP:thr S (onW q) 3 0 0=(P++(thr S (onW q) lv t a).1,(thr S (onW q) lv t a).2)):KRun S q k u i (Wk.at' q k u t lv 0):= .inl ⟨t,lv,a,P,hi,hP,rfl⟩
theorem KRun.mark {S:Fs} {q k:Int} {u:Bool} {i:Nat} (t:Int) (lv a:Nat) (P:List Sp) (hi:i+lv=4) (hP:thr S (onW q) 3 0 0=(P++[spt S t (ix q lv) lv a],0)) (hc:yhx S t (ix q lv) lv=0) (hl:(rEn S t (ix q lv) lv).l=I) (hm:may (rEn S t (ix q lv) lv).r k u=I) (hx:S.word t.toNat (ix q lv)≠0):KRun S q k u i (Wk.at' q k u t lv (S.word t.toNat (ix q lv))):= .inr ⟨t,lv,a,P,hi,hP,hc,hl,hm,hx,rfl⟩
def KEnd (S:Fs) (q k:Int) (u:Bool) (R:Rs) (S':Fs):Prop:=
 (tFC S 0 q=5/\R.a=1/\R.f=0/\R.r=0/\S'=S)\/
 (tFC S 0 q=0/\R.a=aEnd (tFM S 0 q).r k u/\R.f=yhY (tFM S 0 q).p (tFM S 0 q).f (tFM S 0 q).r q k u/\R.r=yhL (tFM S 0 q).r k u/\
   (R.a≠0->S'=S)/\(R.a=0->xQ S 0 q=0/\S'=S.store (lastT (zg S 0 q)) (index q (yhw (zg S 0 q))) (enc (tFE S 0 q).t (tFE S 0 q).l (tFE S 0 q).r I ((tFE S 0 q).d||k==1) (tFE S 0 q).f (yhw (zg S 0 q)))))
theorem store_self {S:Fs} (t:Int) (i:Nat):S.store t (i:Int) (S.word t.toNat i)=S:=by
 unfold Fs.store;split
 ·have e:Fs.put S.word t.toNat (i:Int).toNat (S.word t.toNat i)=S.word:=by
   funext a b
   unfold Fs.put;split
   ·rename_i h
    rw[h.1,h.2];rfl
   ·rfl
  rw[e]
 ·rfl
theorem ykI {S:Fs} {q:Int} (hq:below q 4096=I) {P:List Sp} {t:Int} {lv a:Nat} (hP:thr S (onW q) 3 0 0=(P++[spt S t (ix q lv) lv a],0)):
 xQ S 0 q=0/\lastT (zg S 0 q)=t/\yhw (zg S 0 q)=(lv:Int)/\yhu (zg S 0 q)=rEn S t (ix q lv) lv:=by
 have e1:zg S 0 q=P++[spt S t (ix q lv) lv a]:=by simp[zg,hq,hP]
 refine⟨by simp[xQ,hq,hP],?_,?_,?_⟩
 ·rw[e1];simp[lastT,spt]
 ·rw[e1,jk];rfl
 ·rw[e1,jj];rfl
theorem yi0 {e:En} {lv q:Int} (hq:below q 4096=I) (hl:e.l=I) (hf:e.fault lv=0):(e.map lv q).r=e.r:=by
 have h0:yht e.t e.l e.r e.u e.d e.f lv=0:=hf
 have h1:lOk e.t e.l e.r e.u e.d e.f lv q=I:=by
  unfold lOk;rw[h0,hl,hq];rfl
 show yiA e.t e.l e.r e.u e.d e.f lv q=e.r
 unfold yiA;rw[if_pos h1]
theorem ylK {S:Fs} (hS:S.Ok) {q k:Int} {u:Bool} (hq:below q 4096=I) {i:Nat} {K:Wk} (h:KRun S q k u i K):
 i<=4/\match kOut S 0 K with
  | .inl c=>c≠0/\xQ S 0 q=c
  | .inr (.inl K')=>KRun S q k u (i+1) K'
  | .inr (.inr (.inl r))=>KEnd S q k u ((Wo.stop r).res K) S
  | .inr (.inr (.inr (e,m)))=>KEnd S q k u ((Wo.done e m).res K) ((Wo.done e m).fs S K):=by
 rcases h with ⟨t,lv,a,P,hi,hP,rfl⟩|⟨t,lv,a,P,hi,hP,hc,hl,hm,hx,rfl⟩
 ·refine⟨by omega,?_⟩
  rw[yhS S q lv t a]at hP;have hr:=yk7 S 0 q k u t lv
  by_cases hc:yhx S t (ix q lv) lv=0
  ·rw[if_neg (by simpa using hc)]at hP hr
   have ol:=yhW hS hc;cases ho:(rEn S t (ix q lv) lv).on
   ·rw[if_pos ho]at hP
    obtain⟨c1,c2,c3,c4⟩:=ykI hq hP
    by_cases h1:(rEn S t (ix q lv) lv).t=J
    ·rw[if_pos h1]at hr
     rw[hr];refine .inl ⟨?_,rfl,rfl,rfl,rfl⟩;unfold tFC;rw[c1,c4,if_neg (by simp),if_neg (by simp[h1])]
    ·rw[if_neg h1]at hr
     have h1:(rEn S t (ix q lv) lv).t=I:=by simpa using h1
     have hl:(rEn S t (ix q lv) lv).l=I:=by
      simp only[En.on,h1,Bool.true_and]at ho
      simpa using ho
     rw[if_neg (by simp[hl])]at hr
     have z0:tFC S 0 q=0:=by
      unfold tFC;rw[c1,c4,if_neg (by simp),if_pos h1]
     have z1:tFM S 0 q=(rEn S t (ix q lv) lv).map lv q:=by
      unfold tFM;rw[if_pos z0,c3,c4]
     have z2:tFE S 0 q=rEn S t (ix q lv) lv:=by
      unfold tFE;rw[if_pos z0,c4]
     have z3:=yi0 hq hl ol
     by_cases h2:may (rEn S t (ix q lv) lv).r k u=J
     ·rw[if_pos h2]at hr
      rw[hr];refine .inr ⟨z0,?_,?_,?_,fun _=>rfl,fun h=>by cases h⟩
      ·rw[z1,z3,aEnd,if_neg (by simp[h2])];rfl
      ·rw[z1,z3,yhY,if_neg (by simp[h2])];rfl
      ·rw[z1,z3,yhL,if_neg (by simp[h2])];rfl
     ·rw[if_neg h2]at hr
      have h2:may (rEn S t (ix q lv) lv).r k u=I:=by simpa using h2
      have hh:S.has t=I:=yhz hc;obtain⟨e1,e2⟩:=yhZ (i:=ix q lv) (lv:=lv) hh
      by_cases h3:(Wk.at' q k u t lv 0).ready (rEn S t (ix q lv) lv)=J
      ·rw[if_pos h3]at hr
       rw[hr];refine .mark t lv a P (by omega) hP hc hl h2 fun e=> ?_;rw[e2,e]at h1;simp[En.of,yhF]at h1
      ·rw[if_neg h3]at hr
       rw[hr];refine .inr ⟨z0,by rw[z1];rfl,by rw[z1];rfl,by rw[z1];rfl,fun _=>rfl,fun _=>⟨c1,?_⟩⟩
       have h3:(Wk.at' q k u t lv 0).ready (rEn S t (ix q lv) lv)=I:=by simpa using h3
       have hm:=mark_same h3
       have rP:lv<4:=by omega
       rw[c2,c3,z2,yhE hq rP]
       have ew:enc (rEn S t (ix q lv) lv).t (rEn S t (ix q lv) lv).l (rEn S t (ix q lv) lv).r I ((rEn S t (ix q lv) lv).d||k==1) (rEn S t (ix q lv) lv).f lv=S.word t.toNat (ix q lv):=by
        have h5:enc ((Wk.at' q k u t lv 0).mark (rEn S t (ix q lv) lv)).t ((Wk.at' q k u t lv 0).mark (rEn S t (ix q lv) lv)).l ((Wk.at' q k u t lv 0).mark (rEn S t (ix q lv) lv)).r ((Wk.at' q k u t lv 0).mark (rEn S t (ix q lv) lv)).u ((Wk.at' q k u t lv 0).mark (rEn S t (ix q lv) lv)).d ((Wk.at' q k u t lv 0).mark (rEn S t (ix q lv) lv)).f lv=S.word t.toNat (ix q lv):=by
         rw[hm,e2];exact(ykq (hS.low _ _) (by rw[<-e1];exact hc)).2
        exact h5
       rw[ew,store_self];rfl
   ·rw[if_neg (by simp[ho])]at hP
    obtain⟨m,rfl⟩:=yhR ho;simp only[En.on,D,ur]at ho;rw[if_neg (by simp[ho.1]),if_pos ho.2]at hr;rw[hr];refine .read _ m ((a+ix q (m+1))*8) (P++[spt S t (ix q (m+1)) (m+1) a]) (by omega) ?_;rw[hP];simp only[kO,un];rfl
  ·rw[if_pos hc]at hP hr
   rw[hr];exact⟨hc,by simp[xQ,hq,hP]⟩
 ·refine⟨by omega,?_⟩
  have hh:S.has t=I:=yhz hc;obtain⟨e1,e2⟩:=yhZ (i:=ix q lv) (lv:=lv) hh;have hr:=yll (root:=0) (k:=k) (u:=u) hx hh rfl;rw[hr,<-e2];have ol:=yhW hS hc;obtain⟨c1,c2,c3,c4⟩:=ykI hq hP;have ht:=(yhN hS hl).2.1
  have z0:tFC S 0 q=0:=by
   unfold tFC;rw[c1,c4,if_neg (by simp),if_pos ht]
  have z1:tFM S 0 q=(rEn S t (ix q lv) lv).map lv q:=by
   unfold tFM;rw[if_pos z0,c3,c4]
  have z2:tFE S 0 q=rEn S t (ix q lv) lv:=by
   unfold tFE;rw[if_pos z0,c4]
  have z3:=yi0 hq hl ol;have z4:=(yjz (K:=Wk.at' q k u t lv (S.word t.toNat (ix q lv))) hl ol).2 q;have za:(Wo.res (Wk.at' q k u t lv (S.word t.toNat (ix q lv))) (Wo.done ((Wk.at' q k u t lv (S.word t.toNat (ix q lv))).mark (rEn S t (ix q lv) lv)) I)).a=aEnd (((Wk.at' q k u t lv (S.word t.toNat (ix q lv))).mark (rEn S t (ix q lv) lv)).map lv q).r k u:=rfl;refine .inr ⟨z0,?_,?_,?_,fun h=> ?_,fun _=>⟨c1,?_⟩⟩
  ·rw[z1,<-z4];rfl
  ·rw[z1,<-z4];rfl
  ·rw[z1,<-z4];rfl
  ·rw[za,z4,z3,aEnd,if_pos hm]at h
   exact absurd rfl h
  ·rw[c2,c3,z2]
   rfl
end Pg
namespace Pg
theorem kStop {S:Fs} {root:Int} {K:Wk} {r:Int} (h:kOut S root K= .stop r):r≠0:=by
 unfold kOut at h;split at h
 ·cases h
 ·split at h
  ·cases h
  ·split at h
   ·split at h<;>cases h
   ·split at h
    ·cases h
    ·split at h
     ·cases h;decide
     ·split at h
      ·cases h
      ·split at h
       ·cases h;decide
       ·split at h<;>cases h
end Pg
set_option maxRecDepth 10000
namespace Pg
theorem yiJ {S:Fs}:∀(lv:Nat) (t:Int) (a:Nat),(thr S zW lv t a).2=0->∀s,s ∈ (thr S zW lv t a).1->
 s.place<8/\s.level<=lv/\s.e=rEn S s.table s.place s.level/\yhx S s.table s.place s.level=0/\
 ((s.table=t/\s.level=lv/\s.ahead=a+s.place)\/∃s',s' ∈ (thr S zW lv t a).1/\s'.e.on=I/\s'.e.f=s.table/\s'.level=s.level+1/\s.ahead=s'.ahead*8+s.place):=by
 intro lv
 induction lv using Nat.strongRecOn with
 | _ lv IH=>
 intro t a hz s hs;obtain⟨c1,c2⟩:=yhO hz;have hs0:=hs;rw[c2]at hs0;simp only[E]at hs0;obtain⟨j,hj,hs0⟩:=hs0
 have hj:j<8:=by simpa using hj
 have up:∀x,x ∈ (out S zW lv (sub S zW lv) t a j).1->x ∈ (thr S zW lv t a).1:=fun x hx=>by
  rw[c2];simp only[E];exact⟨j,by simpa using hj,hx⟩
 obtain⟨hc,ho⟩:=yhQ (c1 j hj)
 have first:spt S t j lv a=s->s.place<8/\s.level<=lv/\s.e=rEn S s.table s.place s.level/\yhx S s.table s.place s.level=0/\s.table=t/\s.level=lv/\s.ahead=a+s.place:=fun e=>by
  subst e;exact⟨hj,Nat.le_refl _,rfl,hc,rfl,rfl,rfl⟩
 rcases ho with ⟨Hw,ho⟩|⟨Hw,hr,ho⟩
 ·rw[ho]at hs0
  simp at hs0;obtain⟨f1,f2,f3,f4,f5⟩:=first hs0.symm;exact⟨f1,f2,f3,f4,.inl f5⟩
 ·rw[ho]at hs0
  rcases yI.1 hs0 with hs0|hs0
  ·obtain⟨f1,f2,f3,f4,f5⟩:=first hs0.symm
   exact⟨f1,f2,f3,f4,.inl f5⟩
  ·obtain⟨b,rfl⟩:=yhR Hw
   have tF:(thr S zW b (rEn S t j (b+1)).f ((a+j)*8)).2=0:=hr;obtain⟨i1,i2,i3,i4,i5⟩:=IH b (by omega) _ _ tF s hs0;refine⟨i1,by omega,i3,i4,.inr ?_⟩;rcases i5 with ⟨k1,k2,k3⟩|⟨s',k1,k2⟩
   ·refine⟨spt S t j (b+1) a,up _ (by rw[ho];exact Q),Hw,k1.symm,?_,k3⟩
    show b+1=_
    omega
   ·exact⟨s',up _ (by rw[ho];exact H _ k1),k2⟩
theorem yk3 {S:Fs} {lv:Nat} {t:Int} {a:Nat} (hz:(thr S zW lv t a).2=0) {j:Nat} (hj:j<8):spt S t j lv a ∈ (thr S zW lv t a).1/\yhx S t j lv=0:=by
 obtain⟨c1,c2⟩:=yhO hz;obtain⟨hc,ho⟩:=yhQ (c1 j hj);refine⟨?_,hc⟩;rw[c2];simp only[E];refine⟨j,by simpa using hj,?_⟩
 rcases ho with ⟨_,ho⟩|⟨_,_,ho⟩<;>rw[ho]<;>exact Q
theorem spot_down {S:Fs}:∀(lv:Nat) (t:Int) (a:Nat),(thr S zW lv t a).2=0->∀s,s ∈ (thr S zW lv t a).1->s.e.on=I->
 ∃b,s.level=b+1/\(thr S zW b s.e.f (s.ahead*8)).2=0/\∀x,x ∈ (thr S zW b s.e.f (s.ahead*8)).1->x ∈ (thr S zW lv t a).1:=by
 intro lv
 induction lv using Nat.strongRecOn with
 | _ lv IH=>
 intro t a hz s hs Ps;obtain⟨c1,c2⟩:=yhO hz;have hs0:=hs;rw[c2]at hs0;simp only[E]at hs0;obtain⟨j,hj,hs0⟩:=hs0
 have hj:j<8:=by simpa using hj
 have up:∀x,x ∈ (out S zW lv (sub S zW lv) t a j).1->x ∈ (thr S zW lv t a).1:=fun x hx=>by
  rw[c2];simp only[E];exact⟨j,by simpa using hj,hx⟩
 obtain⟨hc,ho⟩:=yhQ (c1 j hj);rcases ho with ⟨Hw,ho⟩|⟨Hw,hr,ho⟩
 ·rw[ho]at hs0
  simp at hs0;subst hs0;have Ps:(rEn S t j lv).on=I:=Ps;rw[Hw]at Ps;cases Ps
 ·rw[ho]at hs0
  obtain⟨b,rfl⟩:=yhR Hw;have tF:(thr S zW b (rEn S t j (b+1)).f ((a+j)*8)).2=0:=hr;rcases yI.1 hs0 with hs0|hs0
  ·subst hs0
   exact⟨b,rfl,tF,fun x hx=>up x (by rw[ho];exact H _ hx)⟩
  ·obtain⟨b',i1,i2,i3⟩:=IH b (by omega) _ _ tF s hs0 Ps
   exact⟨b',i1,i2,fun x hx=>up x (by rw[ho];exact H _ (i3 x hx))⟩
def Tab (S:Fs) (t:Int) (lv a:Nat):Prop:=(t=0/\lv=3/\a=0)\/∃s,s ∈ (thr S zW 3 0 0).1/\s.e.on=I/\s.e.f=t/\s.level=lv+1/\s.ahead=a
theorem Tab.root (S:Fs):Tab S 0 3 0:= .inl ⟨rfl,rfl,rfl⟩
theorem Tab.place {S:Fs} {t:Int} {lv a:Nat} (h:Tab S t lv a) (hz:(thr S zW 3 0 0).2=0) {j:Nat} (hj:j<8):spt S t j lv (a*8) ∈ (thr S zW 3 0 0).1/\yhx S t j lv=0:=by
 rcases h with ⟨rfl,rfl,rfl⟩|⟨s,hs,ho,rfl,hl,rfl⟩
 ·exact yk3 hz hj
 ·obtain⟨b,e,rX,up⟩:=spot_down 3 0 0 hz s hs ho
  have:b=lv:=by omega
  subst this;obtain⟨h1,h2⟩:=yk3 rX hj;exact⟨up _ h1,h2⟩
theorem Tab.has {S:Fs} {t:Int} {lv a:Nat} (h:Tab S t lv a) (hz:(thr S zW 3 0 0).2=0):S.has t=I:=yhz (h.place hz (j:=0) (by omega)).2
theorem ylk (q lv:Nat):ix (q:Int) lv=q/8^lv%8:=by
 unfold ix
 have e:(q:Int)/8^lv%8=((q/8^lv%8:Nat):Int):=by simp
 rw[e,uv]
theorem ykG (q lv:Nat):q/8^(lv+1)=q/8^lv/8:=by rw[Nat.pow_succ,Nat.div_div_eq_div_mul]
theorem yk4 (S:Fs) (t:Int) (q lv:Nat):spt S t (ix (q:Int) lv) lv (q/8^(lv+1)*8)=⟨t,ix (q:Int) lv,lv,q/8^lv,rEn S t (ix (q:Int) lv) lv⟩:=by
 unfold spt
 have:q/8^(lv+1)*8+ix (q:Int) lv=q/8^lv:=by
  rw[ylk,ykG];omega
 rw[this]
theorem yjG {S:Fs} (hz:(thr S zW 3 0 0).2=0) {q:Nat} (hq:q<4096):∀(d lv:Nat),lv+d=3->∀t,Tab S t lv (q/8^(lv+1))->
 ∃P a,thr S (onW (q:Int)) 3 0 0=(P++(thr S (onW (q:Int)) lv t a).1,(thr S (onW (q:Int)) lv t a).2)
 | 0,lv,hd,t,h=>by
   have:lv=3:=by omega
   subst this;rcases h with ⟨rfl,_,_⟩|⟨s,hs,ho,_,hl,_⟩
   ·exact⟨[],0,rfl⟩
   ·have:=(yiJ 3 0 0 hz s hs).2.1
    omega
 | d+1,lv,hd,t,h=>by
   rcases h with ⟨_,h,_⟩|⟨s,hs,ho,rfl,hl,ha⟩
   ·omega
   ·obtain⟨i1,i2,i3,i4,i5⟩:=yiJ 3 0 0 hz s hs
    rw[hl]at i3 i4
    have Pk:Tab S s.table (lv+1) (q/8^(lv+1+1))/\s.place=ix (q:Int) (lv+1):=by
     rw[ylk,ykG q (lv+1),<-ha];rcases i5 with ⟨k1,k2,k3⟩|⟨s',k1,k2,k3,k4,k5⟩
     ·exact⟨.inl ⟨k1,by omega,by omega⟩,by omega⟩
     ·exact⟨.inr ⟨s',k1,k2,k3,by omega,by omega⟩,by omega⟩
    obtain⟨hT,dm⟩:=Pk;obtain⟨P,a,hw⟩:=yjG hz hq d (lv+1) (by omega) s.table hT;rw[dm]at i3 i4;rw[yhS S (q:Int) (lv+1) s.table a,if_neg (by simpa using i4),<-i3,if_neg (by simp[ho])]at hw;refine⟨P++[spt S s.table (ix (q:Int) (lv+1)) (lv+1) a],(a+ix (q:Int) (lv+1))*8,?_⟩;rw[hw];simp only[kO,un];rfl
theorem tab_run {S:Fs} (hz:(thr S zW 3 0 0).2=0) {q:Nat} (hq:q<4096) {lv:Nat} (hl:lv<=3) {t:Int} (h:Tab S t lv (q/8^(lv+1))) (k:Int) (u:Bool):KRun S q k u (3-lv) (Wk.at' q k u t lv 0):=by
 obtain⟨P,a,hw⟩:=yjG hz hq (3-lv) lv (by omega) t h;exact .read t lv a P (by omega) hw
theorem tab_mark {S:Fs} (hz:(thr S zW 3 0 0).2=0) {q:Nat} (hq:q<4096) {lv:Nat} (hl:lv<=3) {t:Int} (h:Tab S t lv (q/8^(lv+1))) {k:Int} {u:Bool} {x:Int} (hx:x≠0) (hlf:(En.of x lv).l=I) (hm:may (En.of x lv).r k u=I) (hw:S.word t.toNat (ix (q:Int) lv)=x):KRun S q k u (4-lv) (Wk.at' q k u t lv x):=by
 obtain⟨P,a,l9⟩:=yjG hz hq (3-lv) lv (by omega) t h;have hc:=(h.place hz (yid (q:Int) lv)).2;obtain⟨e1,e2⟩:=yhZ (i:=ix (q:Int) lv) (lv:=lv) (yhz hc);rw[hw]at e2
 have Hw:(rEn S t (ix (q:Int) lv) lv).on=J:=by rw[e2];simp[En.on,hlf]
 rw[yhS S (q:Int) lv t a,if_neg (by simpa using hc),if_pos Hw]at l9;subst hw;exact .mark t lv a P (by omega) l9 hc (by rw[e2];exact hlf) (by rw[e2];exact hm) hx
def Wk.On (S:Fs) (K:Wk):Prop:=Tab S K.t K.lv (K.q.toNat/8^(K.lv+1))
theorem Wk.On.again {S:Fs} {K:Wk} (ho:K.on=I) (hq:below K.q 4096=I):(K.again 0).On S:=by
 unfold Wk.again;rw[if_pos ho]
 show Tab S 0 3 (K.q.toNat/8^4)
 have hq:=zB.1 hq;have:K.q.toNat/8^4=0:=Nat.div_eq_of_lt (by show K.q.toNat<4096;omega);rw[this];exact Tab.root S
theorem Wk.On.start {S:Fs} {q k:Int} {u:Bool} (hq:below q 4096=I):(Wk.start 0 q k u).On S:=by
 show Tab S 0 3 (q.toNat/8^4)
 have hq:=zB.1 hq;have:q.toNat/8^4=0:=Nat.div_eq_of_lt (by show q.toNat<4096;omega);rw[this];exact Tab.root S
theorem kOut_off {S:Fs} {root:Int} {K:Wk} (h:K.on=J):kOut S root K= .code 9:=by unfold kOut;rw[if_pos h]
theorem on_step {S:Fs} {L:List Mp} (h:Rep S L) {K:Wk} (hK:K.Ok) (ho:K.on=I) (Hw:K.On S):
 match kOut S 0 K with
  | .inl _=>False
  | .inr (.inl K')=>K'.on=I/\K'.On S/\K'.q=K.q/\K'.k=K.k/\K'.u=K.u
  | .inr (.inr (.inl r))=>KEnd S K.q K.k K.u ((Wo.stop r).res K) S
  | .inr (.inr (.inr (e,m)))=>KEnd S K.q K.k K.u ((Wo.done e m).res K) ((Wo.done e m).fs S K):=by
 obtain⟨on,q,k,u,t,lv,x⟩:=K;simp only at ho;subst ho;have hp:below q 4096=I:=hK.page rfl;have hq:=zB.1 hp;obtain⟨n,rfl⟩:=o hq.1
 have hn:n<4096:=by omega
 have rP:lv<=3:=by have:=hK.lv;simp only at this;omega
 have Hw:Tab S t lv (n/8^(lv+1)):=Hw;have rT:=(yit h hn).1;have hz:=h.code;obtain⟨dm,hc⟩:=Hw.place hz (yid (n:Int) lv);obtain⟨e1,e2⟩:=yhZ (i:=ix (n:Int) lv) (lv:=lv) (yhz hc)
 by_cases hx:x=0
 ·subst hx
  have hr:=tab_run hz hn rP Hw k u;obtain⟨_,he⟩:=ylK h.ok hp hr
  show match kOut S 0 (Wk.at' n k u t lv 0)with
   | .inl _=>False
   | .inr (.inl K')=>K'.on=I/\K'.On S/\K'.q=n/\K'.k=k/\K'.u=u
   | .inr (.inr (.inl r))=>KEnd S n k u ((Wo.stop r).res (Wk.at' n k u t lv 0)) S
   | .inr (.inr (.inr (e,m)))=>KEnd S n k u ((Wo.done e m).res (Wk.at' n k u t lv 0)) ((Wo.done e m).fs S (Wk.at' n k u t lv 0))
  have hk:=yk7 S 0 n k u t lv;rcases rD:kOut S 0 (Wk.at' n k u t lv 0)with c|K'|r|⟨e,m⟩
  ·rw[rD]at he
   exact absurd (he.2.symm.trans rT) he.1
  ·rw[rD,if_neg (by simpa using hc)]at hk
   split at hk
   ·cases hk
   ·rename_i ht
    split at hk
    ·rename_i hl
     cases hk
     have pQ:(rEn S t (ix (n:Int) lv) lv).on=I:=by
      have ht:(rEn S t (ix (n:Int) lv) lv).t=I:=by simpa using ht
      simp[En.on,ht,hl]
     obtain⟨b,rfl⟩:=yhR pQ;refine⟨rfl,.inr ⟨_,dm,pQ,rfl,rfl,?_⟩,rfl,rfl,rfl⟩;rw[yk4];rfl
    ·split at hk
     ·cases hk
     ·split at hk
      ·cases hk
       exact⟨rfl,Hw,rfl,rfl,rfl⟩
      ·cases hk
  ·rw[rD]at he
   exact he
  ·rw[rD]at he
   exact he
 ·obtain⟨x0,x1,x2,x3,x4,x5⟩:=hK.leaf hx
  by_cases hw:S.word t.toNat (ix (n:Int) lv)=x
  ·have hr:=tab_mark hz hn rP Hw hx x3 x4 hw
   obtain⟨_,he⟩:=ylK h.ok hp hr;have rD:=yll (root:=0) (k:=k) (u:=u) hx (yhz hc) hw
   show match kOut S 0 (Wk.at' n k u t lv x)with
    | .inl _=>False
    | .inr (.inl K')=>K'.on=I/\K'.On S/\K'.q=n/\K'.k=k/\K'.u=u
    | .inr (.inr (.inl r))=>KEnd S n k u ((Wo.stop r).res (Wk.at' n k u t lv x)) S
    | .inr (.inr (.inr (e,m)))=>KEnd S n k u ((Wo.done e m).res (Wk.at' n k u t lv x)) ((Wo.done e m).fs S (Wk.at' n k u t lv x))
   rw[rD]at he ⊢;exact he
  ·have rD:kOut S 0 ⟨I,n,k,u,t,lv,x⟩= .go (Wk.again 0 ⟨I,n,k,u,t,lv,x⟩):=by
    unfold kOut;rw[if_neg (by simp),if_neg (by simp[yhz hc]),if_pos hx,if_neg (by exact hw)]
   rw[rD];refine⟨by simp[Wk.again],Wk.On.again rfl hp,by simp[Wk.again],by simp[Wk.again],by simp[Wk.again]⟩
end Pg
namespace Pg
def Stay (S S':Fs):Prop:=∀s,s ∈ (thr S zW 3 0 0).1->s.e.on=I->s ∈ (thr S' zW 3 0 0).1
theorem Stay.refl (S:Fs):Stay S S:=fun _ h _=>h
theorem Tab.stay {S S':Fs} {t:Int} {lv a:Nat} (h:Tab S t lv a) (hs:Stay S S'):Tab S' t lv a:=by
 rcases h with h|⟨s,h1,h2,h3⟩
 ·exact .inl h
 ·exact .inr ⟨s,hs s h1 h2,h2,h3⟩
def Leaf (S:Fs) (m:Mp) (d:Bool):Prop:=∃s,s ∈ (thr S zW 3 0 0).1/\s.e.l=I/\s.mp=m/\s.e.u=I/\(d=I->s.e.d=I)
theorem Leaf.mem {S:Fs} {L:List Mp} (h:Rep S L) {m:Mp} {d:Bool} (hl:Leaf S m d):m ∈ L:=by
 obtain⟨s,h1,h2,h3,_⟩:=hl;rw[<-h.maps];simp only[zM,E];exact⟨s,h1,by rw[if_pos h2,h3];exact Q⟩
theorem Leaf.marked {S:Fs} {m:Mp} (h:Leaf S m I) {q:Int} (hq:m.has q=I):yj7 S q:=by
 obtain⟨s,h1,h2,h3,h4,h5⟩:=h;exact⟨s,h1,h2,by rw[h3];exact hq,h4,h5 rfl⟩
theorem insert_stay {S:Fs} {L:List Mp} (h:Rep S L) (m:Mp):Stay S (insS S 0 m)/\∀x d,Leaf S x d->Leaf (insS S 0 m) x d:=by
 rcases yjU h m with ⟨_,_,e⟩|⟨_,_,_,e⟩
 ·rw[e]
  exact⟨Stay.refl S,fun _ _ h=>h⟩
 ·exact⟨fun s hs ho=>e s hs (.inr ho),fun x d ⟨s,h1,h2,h3⟩=>⟨s,e s h1 (.inl h2),h2,h3⟩⟩
theorem yjb {S:Fs} {p:Int} (h:tFC S 0 p=0):∃q:Nat,p=(q:Int)/\q<4096:=by
 have hp:below p 4096=I:=by
  cases hp:below p 4096
  ·have:xQ S 0 p=1:=by simp[xQ,hp]
   rw[tFC,this,if_pos (by decide)]at h;cases h
  ·rfl
 obtain⟨p0,p1⟩:=zB.1 hp;obtain⟨x,rfl⟩:=o p0;exact⟨x,rfl,by omega⟩
theorem yiZ {S:Fs} {L:List Mp} {q lv:Nat} {e:En} {tl:Int} {A B:List Sp} (hz:xQ S 0 (q:Int)=0) (F:Found S L q lv e tl A B) (hc:tFC S 0 (q:Int)=0):e.t=I:=by
 rw[tFC,hz,if_neg (by decide),F.way.yhu]at hc;cases he:e.t
 ·rw[he,if_neg (by decide)]at hc;omega
 ·rfl
structure Turned (S S':Fs) (m m':Mp) (e:En) (r:Int) (u d:Bool) (A B:List Sp) (s s':Sp):Prop where
 old:thr S zW 3 0 0=(A++[s]++B,0)
 new:thr S' zW 3 0 0=(A++[s']++B,0)
 en:s.e=e
 leaf:e.l=I
 mp:s.mp=m
 mp':s'.mp=m'
 en':s'.e=⟨I,I,r,u,d,e.f⟩
theorem Turned.stay {S S':Fs} {m m':Mp} {e:En} {r:Int} {u d:Bool} {A B:List Sp} {s s':Sp} (T:Turned S S' m m' e r u d A B s s'):Stay S S':=by
 intro x hx ho;rw[T.old]at hx;rw[T.new];rcases Y.1 hx with hx|hx
 ·rcases Y.1 hx with hx|hx
  ·exact N _ (N _ hx)
  ·have:x=s:=by simpa using hx
   subst this;rw[T.en]at ho;simp[En.on,T.leaf]at ho
 ·exact V _ hx
theorem Turned.leaf_ne {S S':Fs} {m m':Mp} {e:En} {r:Int} {u d:Bool} {A B:List Sp} {s s':Sp} (T:Turned S S' m m' e r u d A B s s') {x:Mp} {b:Bool} (hx:Leaf S x b) (Ho:x≠m):Leaf S' x b:=by
 obtain⟨y,h1,h2,h3,h4⟩:=hx;refine⟨y,?_,h2,h3,h4⟩;rw[T.old]at h1;rw[T.new];rcases Y.1 h1 with h1|h1
 ·rcases Y.1 h1 with h1|h1
  ·exact N _ (N _ h1)
  ·have:y=s:=by simpa using h1
   subst this;exact absurd (h3.symm.trans T.mp) Ho
 ·exact V _ h1
theorem Turned.yjx {S S':Fs} {m:Mp} {e:En} {r:Int} {u d:Bool} {A B:List Sp} {s s':Sp} (T:Turned S S' m m e r u d A B s s') (hu:e.u=I->u=I) (hd:e.d=I->d=I) {x:Mp} {b:Bool} (hx:Leaf S x b):Leaf S' x b:=by
 obtain⟨y,h1,h2,h3,h4,h5⟩:=hx;rw[T.old]at h1;unfold Leaf;rw[T.new];rcases Y.1 h1 with h1|h1
 ·rcases Y.1 h1 with h1|h1
  ·exact⟨y,N _ (N _ h1),h2,h3,h4,h5⟩
  ·have:y=s:=by simpa using h1
   subst this;rw[T.en]at h4 h5;refine⟨s',N _ (V _ Q),by rw[T.en'],by rw[T.mp',<-h3,T.mp],by rw[T.en'];exact hu h4,fun hb=>by rw[T.en'];exact hd (h5 hb)⟩
 ·exact⟨y,V _ h1,h2,h3,h4,h5⟩
theorem Turned.leaf_new {S S':Fs} {m m':Mp} {e:En} {r:Int} {d:Bool} {A B:List Sp} {s s':Sp} (T:Turned S S' m m' e r I d A B s s'):Leaf S' m' d:=by
 unfold Leaf;rw[T.new];exact⟨s',N _ (V _ Q),by rw[T.en'],T.mp',by rw[T.en'],fun hb=>by rw[T.en'];exact hb⟩
theorem yje {S:Fs} {L:List Mp} (h:Rep S L) {q:Nat} (hq:q<4096) (hc:tFC S 0 (q:Int)=0) {r:Int} (hr:0<=r/\r<=7) (u d:Bool):
 ∃A B s s',Turned S (S.store (lastT (zg S 0 (q:Int))) (index q (yhw (zg S 0 (q:Int)))) (enc (tFE S 0 (q:Int)).t (tFE S 0 (q:Int)).l r u d (tFE S 0 (q:Int)).f (yhw (zg S 0 (q:Int))))) (tFM S 0 (q:Int)) ((tFM S 0 (q:Int)).rts r) (tFE S 0 (q:Int)) r u d A B s s'/\
  Tab S (lastT (zg S 0 (q:Int))) (yhw (zg S 0 (q:Int))).toNat (q/8^((yhw (zg S 0 (q:Int))).toNat+1))/\
  (0<=(tFE S 0 (q:Int)).r/\(tFE S 0 (q:Int)).r<=7/\(tFM S 0 (q:Int)).rts (tFE S 0 (q:Int)).r=tFM S 0 (q:Int))/\
  ((tFM S 0 (q:Int)).rts r=tFM S 0 (q:Int)->Rep (S.store (lastT (zg S 0 (q:Int))) (index q (yhw (zg S 0 (q:Int)))) (enc (tFE S 0 (q:Int)).t (tFE S 0 (q:Int)).l r u d (tFE S 0 (q:Int)).f (yhw (zg S 0 (q:Int))))) L):=by
 obtain⟨hz,lv,e,tl,A,B,F⟩:=yit h hq;have ht:=yiZ hz F hc;obtain⟨hl,h2,uL,pu⟩:=yh6 h.ok hq F ht
 have eE:tFE S 0 (q:Int)=e:=by rw[tFE,if_pos hc,F.way.yhu]
 have eM:tFM S 0 (q:Int)=e.map lv (q:Int):=by rw[tFM,if_pos hc,F.way.yhu,F.way.yhw]
 rw[eE,eM,F.way.lastT,F.way.yhw,yim hq (by omega),ht,hl];obtain⟨g1,g2,g3⟩:=ykY h hq F ht hr u d;have ru:=F.spot.all;simp only at ru;rw[F.one]at ru;have dm:=F.spot.le;simp only at dm;have gL:=yjF h.ok hq dm F.way.en hl
 have ol:e.fault lv=0:=by rw[F.way.en];exact yhW h.ok F.way.code
 have Gj:0<=e.r/\e.r<=7:=by
  obtain⟨_,hx⟩:=yhG (show yht e.t e.l e.r e.u e.d e.f (lv:Int)=0 from ol);rcases hx with ⟨hx,_⟩|⟨_,r0,r1,_⟩
  ·rw[ht]at hx;cases hx
  ·exact⟨r0,r1⟩
 refine⟨A,B,_,_,⟨?_,g2,rfl,hl,gL,g3,rfl⟩,?_,⟨Gj.1,Gj.2,by rw[uL];rfl⟩,fun ug=> ?_⟩
 ·exact Prod.ext ru h.code
 ·rw[uv]
  have hs:(⟨tl,ix (q:Int) lv,lv,q/8^lv,e⟩:Sp) ∈ (thr S zW 3 0 0).1:=by
   rw[ru];exact N _ (V _ Q)
  obtain⟨i1,i2,i3,i4,i5⟩:=yiJ 3 0 0 h.code _ hs;simp only at i1 i2 i5;rw[ykG];rcases i5 with ⟨k1,k2,k3⟩|⟨s',k1,k2,k3,k4,k5⟩
  ·exact .inl ⟨k1,k2,by omega⟩
  ·exact .inr ⟨s',k1,k2,k3,k4,by omega⟩
 ·have hL:=F.list
  rw[if_pos ht]at hL
  have N7:L.getD (zM A).length .zz=e.map lv (q:Int):=by
   rw[hL,kO];simp[List.getD]
  have bT:L.set (zM A).length (e.map lv (q:Int))=L:=by
   rw[hL,kO];simp
  rw[N7,ug,bT]at g1;exact g1
theorem yi2 {S:Fs} {L:List Mp} (h:Rep S L) {p:Int} (hc:tFC S 0 p=0):∃A B z T,Removed S L (tFM S 0 p) (rmR S 0 p) A B z T:=by
 obtain⟨q,rfl,hq⟩:=yjb hc;have hp:below (q:Int) 4096=I:=zB.2 ⟨by omega,by omega⟩;obtain⟨hz,lv,e,tl,A,B,F⟩:=yit h (q:=q) hq;have ht:=yiZ hz F hc;obtain⟨hl,Lu,uL,pu⟩:=yh6 h.ok hq F ht;have Hg:=F.way.len
 have e1:(zg S 0 (q:Int)).length=(zg S 0 (q:Int)).length-1+1:=by omega
 have nH:(tabs (zg S 0 (q:Int))).drop ((zg S 0 (q:Int)).length-1+1)=[]:=by
  rw[<-e1];exact List.drop_eq_nil_of_le (by rw[xC];omega)
 have hR:rmR S 0 (q:Int)=rmW (q:Int) (tabs (zg S 0 (q:Int))) ((zg S 0 (q:Int)).length-1+1) S []:=by
  rw[rmR,if_pos hc,<-e1]
 have eM:tFM S 0 (q:Int)=e.map lv (q:Int):=by rw[tFM,if_pos hc,F.way.yhu,F.way.yhw]
 rw[hR,eM];refine ylL h hq hz (e.map lv (q:Int)) ((zg S 0 (q:Int)).length-1) (by omega) S [] (ylw h.ok q _ _) (fun s hs=> ?_) (by rw[nH];rfl);rw[nH]
 have hgl:(zg S 0 (q:Int)).getLast?=kp s:=by rw[List.getLast?_eq_getElem?];exact hs
 have lu:(s.level:Int)=lv:=by
  have:=F.way.yhw;unfold Go.Proofs.YtdphiompijbelaaGreat.yhw at this;rw[hgl]at this;exact this
 have sM:s.table=tl:=by
  have:=F.way.lastT;unfold Go.Proofs.YtdphiompijbelaaGreat.lastT at this;rw[hgl]at this;exact this
 have lu:s.level=lv:=by omega
 have GD:(thr S (onW (q:Int)) 3 0 0).2=0:=by
  unfold xQ at hz;rw[if_pos hp]at hz;exact hz
 have eX:zg S 0 (q:Int)=(thr S (onW (q:Int)) 3 0 0).1:=by unfold zg;rw[if_pos ⟨hp,GD⟩]
 rw[eX]at hgl
 have BM:q/8^3<8:=by
  rw[show(8:Nat)^3=512 by decide];omega
 obtain⟨A1,B1,sp⟩:=yk8 h.ok q 3 (by omega) 0 0 (by omega) (by decide) (by omega) (by omega) h.code h.nodup s (List.mem_of_getLast? hgl);rw[sp.ahead,sp.place,sM,lu,F.one];have gL:=yjF h.ok hq (ykt q lv).1 F.way.en hl;have Hw:=F.way.on;refine⟨?_,?_⟩
 ·rw[<-gL]
  simp[zM,hl]
 ·simp[zU,Hw]
theorem yjr {S:Fs} {t i x:Int} (h:yhy S x=I):yhy (S.store t i 0) x=I:=by
 unfold yhy at h ⊢;rw[ud]at h ⊢;intro j hj;have:=h j hj;unfold Fs.store;split
 ·simp only[Fs.put]
  split
  ·rfl
  ·exact this
 ·exact this
theorem ykj (p:Int) (ts:List Int):∀(k:Nat) (S:Fs) (G:List Int),(∀y,y ∈ G->yhy S y=I)->∀y,y ∈ (rmW p ts k S G).2->yhy (rmW p ts k S G).1 y=I
 | 0,S,G,h=>h
 | k+1,S,G,h=>by
   rw[rmW];split
   ·exact fun y hy=>yjr (h y hy)
   ·rename_i hn
    refine ykj p ts k _ _ fun y hy=> ?_;rcases Y.1 hy with hy|hy
    ·exact yjr (h y hy)
    ·have:y=ts.getD k 0:=by simpa using hy
     subst this;cases he:yhy (S.store (ts.getD k 0) (index p (3-(k:Int))) 0) (ts.getD k 0)
     ·exact absurd (.inr he) hn
     ·rfl
theorem rm_empty (S:Fs) (p:Int):∀y,y ∈ (rmR S 0 p).2->yhy (rmR S 0 p).1 y=I:=by
 unfold rmR;split
 ·exact ykj p _ _ _ _ fun y hy=>by simp at hy
 ·intro y hy
  simp at hy
theorem remove_stay {S:Fs} {L:List Mp} (h:Rep S L) {p:Int} (hc:tFC S 0 p=0):
 (∀t lv a,Tab S t lv a->Tab (gives (rmR S 0 p).2 (rmR S 0 p).1) t lv a\/t ∈ (rmR S 0 p).2)/\(∀x d,Leaf S x d->x≠tFM S 0 p->Leaf (gives (rmR S 0 p).2 (rmR S 0 p).1) x d):=by
 obtain⟨A,B,z,T,r⟩:=yi2 h hc;obtain⟨_,_,_,_,pO⟩:=yjD h r;obtain⟨M,hM,iW⟩:=r.all
 have hT:zU M=T:=by
  have:=r.tabs;rw[hM,yhq,yhq]at this;exact List.append_cancel_left (List.append_cancel_right this)
 refine⟨fun t lv a ht=> ?_,fun x d ⟨s,h1,h2,h3⟩ Ho=>⟨s,?_,h2,h3⟩⟩
 ·rcases ht with ht|⟨s,hs,ho,rfl,h4⟩
  ·exact .inl (.inl ht)
  ·rw[hM]at hs
   rcases Y.1 hs with hs|hs
   ·rcases Y.1 hs with hs|hs
    ·exact .inl (.inr ⟨s,by rw[pO];exact N _ (N _ hs),ho,rfl,h4⟩)
    ·refine .inr ?_
     rw[r.gone,List.mem_reverse,<-hT];simp only[zU,E];exact⟨s,hs,by rw[if_pos ho];exact Q⟩
   ·exact .inl (.inr ⟨s,by rw[pO];exact V _ hs,ho,rfl,h4⟩)
 ·rw[hM]at h1
  rw[pO];rcases Y.1 h1 with h1|h1
  ·rcases Y.1 h1 with h1|h1
   ·exact N _ (N _ h1)
   ·have:s.mp ∈ zM M:=by
     simp only[zM,E];exact⟨s,h1,by rw[if_pos h2];exact Q⟩
    rw[iW,List.mem_singleton,h3.1]at this;exact absurd this Ho
  ·exact V _ h1
theorem ylb {S:Fs} {L:List Mp} (h:Rep S L) {q k:Int} {u:Bool} (hq:below q 4096=I) {R:Rs} {S':Fs} (he:KEnd S q k u R S'):R.a=ansE L q k u/\R.f=ansF L q k u/\R.r=ansR L q k u:=by
 obtain⟨c1,c2⟩:=yiI h q;rcases he with ⟨h1,h2,h3,h4,_⟩|⟨h1,h2,h3,h4,_⟩
 ·rw[c1,yhI,if_pos hq]at h1
  have hn:fnd L q=Z:=by
   cases hf:fnd L q with
   | none=>rfl
   | some j=>rw[hf,if_neg (by simp)]at h1;omega
  rw[ansE,ansF,ansR,hn];exact⟨h2,h3,h4⟩
 ·rw[c2]at h2 h3 h4
  rw[c1]at h1
  have hm:yib L q=at' L q:=by rw[yib,if_pos h1]
  rw[yhI,if_pos hq]at h1;rw[hm]at h2 h3 h4;unfold at' at h2 h3 h4
  cases hf:fnd L q with
  | none=>rw[hf,if_pos rfl]at h1;omega
  | some j=>
    rw[hf]at h2 h3 h4;rw[ansE,ansF,ansR,hf];exact⟨h2,h3,h4⟩
theorem good_ans {L:List Mp} (h:Good L) {m:Mp} (hm:m ∈ L) {q:Int} (hq:m.has q=I) (k:Int) (u:Bool):ansE L q k u=aEnd m.r k u/\ansF L q k u=yhY m.p m.f m.r q k u/\ansR L q k u=yhL m.r k u:=by
 obtain⟨A,B,rfl⟩:=List.append_of_mem hm
 have e:A++m::B=A++[m]++B:=by simp
 have hf:=yld (e▸h) hq;rw[<-e]at hf
 have hg:(A++m::B).getD A.length .zz=m:=by simp[List.getD]
 rw[ansE,ansF,ansR,hf];simp only[hg];exact⟨trivial,trivial,trivial⟩
theorem on_line {S:Fs} {L:List Mp} (h:Rep S L) {K:Wk} (hK:K.Ok) (ho:K.on=I) (Hw:K.On S) {e:En} {m:Bool} (hd:kOut S 0 K= .done e m):
 tFC S 0 K.q=0/\e.map K.lv K.q=tFM S 0 K.q/\e.d=((tFE S 0 K.q).d||K.k==1):=by
 obtain⟨on,q,k,u,t,lv,x⟩:=K;simp only at ho;subst ho;have hp:below q 4096=I:=hK.page rfl;have hq:=zB.1 hp;obtain⟨n,rfl⟩:=o hq.1
 have hn:n<4096:=by omega
 have rP:lv<=3:=by have:=hK.lv;simp only at this;omega
 have Hw:Tab S t lv (n/8^(lv+1)):=Hw;have hz:=h.code;obtain⟨dm,hc⟩:=Hw.place hz (yid (n:Int) lv);obtain⟨e1,e2⟩:=yhZ (i:=ix (n:Int) lv) (lv:=lv) (yhz hc);obtain⟨P,a,hw⟩:=yjG hz hn (3-lv) lv (by omega) t Hw;rw[yhS S (n:Int) lv t a,if_neg (by simpa using hc)]at hw
 have fin:(rEn S t (ix (n:Int) lv) lv).l=I->tFC S 0 (n:Int)=0/\tFM S 0 (n:Int)=(rEn S t (ix (n:Int) lv) lv).map lv (n:Int)/\tFE S 0 (n:Int)=rEn S t (ix (n:Int) lv) lv:=fun hl=>by
  rw[if_pos (by simp[En.on,hl])]at hw;obtain⟨c1,c2,c3,c4⟩:=ykI hp hw;have ht:=(yhN h.ok hl).2.1
  have z0:tFC S 0 (n:Int)=0:=by
   unfold tFC;rw[c1,c4,if_neg (by simp),if_pos ht]
  refine⟨z0,?_,?_⟩
  ·unfold tFM
   rw[if_pos z0,c3,c4]
  ·unfold tFE
   rw[if_pos z0,c4]
 by_cases hx:x=0
 ·subst hx
  have hk:=yk7 S 0 n k u t lv;have hd:kOut S 0 (Wk.at' n k u t lv 0)= .done e m:=hd;rw[hd,if_neg (by simpa using hc)]at hk;split at hk
  ·cases hk
  ·split at hk
   ·cases hk
   ·rename_i hl
    have hl:(rEn S t (ix (n:Int) lv) lv).l=I:=by simpa using hl
    split at hk
    ·cases hk
    ·split at hk
     ·cases hk
     ·rename_i hr
      cases hk;obtain⟨f1,f2,f3⟩:=fin hl;refine⟨f1,f2.symm,?_⟩
      show(rEn S t (ix (n:Int) lv) lv).d=((tFE S 0 (n:Int)).d||k==1)
      rw[f3]
      have hr:(Wk.at' n k u t lv 0).ready (rEn S t (ix (n:Int) lv) lv)=I:=by simpa using hr
      unfold Wk.ready at hr;simp only[Wk.at',D,Bool.or_eq_true]at hr;rcases hr.2 with hr|hr
      ·rw[hr];rfl
      ·have:(k==1)=J:=by simpa using hr
       rw[this,Bool.or_false]
 ·obtain⟨x0,x1,x2,x3,x4,x5⟩:=hK.leaf hx
  by_cases hw:S.word t.toNat (ix (n:Int) lv)=x
  ·have rD:=yll (root:=0) (k:=k) (u:=u) hx (yhz hc) hw
   have hd:kOut S 0 (Wk.at' n k u t lv x)= .done e m:=hd;rw[hd]at rD;cases rD;rw[hw]at e2;obtain⟨f1,f2,f3⟩:=fin (by rw[e2];exact x3);refine⟨f1,?_,?_⟩
   ·show((Wk.mark _ _).map (lv:Int) (n:Int))=_
    rw[<-e2,f2];exact(yjz (by rw[e2];exact x3) (yhW h.ok hc)).2 _
   ·show((En.of x lv).d||k==1)=_
    rw[f3,e2]
  ·have rD:kOut S 0 ⟨I,n,k,u,t,lv,x⟩= .go (Wk.again 0 ⟨I,n,k,u,t,lv,x⟩):=by
    unfold kOut;rw[if_neg (by simp),if_neg (by simp[yhz hc]),if_pos hx,if_neg (by exact hw)]
   rw[rD]at hd;cases hd
end Pg
namespace Pg
structure Sx where
 kind:Int
 core:Int
 m:Mp
 q:Int
 k:Int
 u:Bool
structure Ev where
 c:Int
 ended:Bool
 a:Int
 f:Int
 r:Int
 back:Bool
def Ev.code (c:Int):Ev:=⟨c,J,0,0,0,J⟩
def Tl.ev (T:Tl):Ev:=⟨T.c,T.ended,T.a,T.f,T.r,J⟩
structure Spc where
 S:Fs
 C:List Cr
 G:List Int
 T:Mp
 W:List Bool
namespace Spc
def busy (X:Spc):Bool:=X.W.any id
def new (cores n:Nat):Spc:=⟨(Fs.new n).take,ue cores Cr.new,[],.zz,ue cores J⟩
def post (X:Spc) (S:Fs) (T:Mp) (G:List Int):Spc:=⟨S,X.C,G,T,X.W.map fun _=>I⟩
def at' (X:Spc) (k:Int):Cr:=X.C.getD k.toNat Cr.new
def chE (X:Spc) (x:Sx):Ev:=
 if X.busy=I then .code 8
 else if x.kind=1 then⟨insC X.S 0 x.m,J,0,0,0,decide (insC X.S 0 x.m=0)⟩
 else if x.kind=2 then .code (tFC X.S 0 x.m.p)
 else .code (prC X.S 0 x.m.p x.m.r)
def chN (X:Spc) (x:Sx):Spc:=
 if X.busy=I then X
 else if x.kind=1 then{X with S:=insS X.S 0 x.m}
 else if x.kind=2 then(if tFC X.S 0 x.m.p=0 then X.post (rmR X.S 0 x.m.p).1 (tFM X.S 0 x.m.p) (rmR X.S 0 x.m.p).2 else X)
 else if prC X.S 0 x.m.p x.m.r=0 then X.post (prS X.S 0 x.m.p x.m.r) (prM X.S 0 x.m.p x.m.r) []else X
def akE (X:Spc) (k:Int):Ev:=
 if X.W.getD k.toNat J=J then .code 9
 else if (X.W.set k.toNat J).any id=I then .code 0 else⟨0,J,0,0,0,I⟩
def akN (X:Spc) (k:Int):Spc:=
 if X.W.getD k.toNat J=J then X
 else if (X.W.set k.toNat J).any id=I then⟨X.S,X.C.set k.toNat ((X.at' k).told 0 X.T),X.G,X.T,X.W.set k.toNat J⟩
 else⟨gives X.G X.S,X.C.set k.toNat ((X.at' k).told 0 X.T),[],X.T,X.W.set k.toNat J⟩
def goE (X:Spc) (x:Sx):Ev:=
 if 1<=x.kind/\x.kind<=3 then X.chE x
 else if x.kind<1\/7<x.kind then .code 2
 else if x.core<0\/(X.C.length:Int)<=x.core then .code 1
 else if x.kind=4 then((X.at' x.core).bgT x.q x.k x.u).ev
 else if x.kind=5 then((X.at' x.core).stT X.S 0).ev
 else if x.kind=6 then X.akE x.core
 else if (X.at' x.core).L=[]then .code 9 else .code 0
def goN (X:Spc) (x:Sx):Spc:=
 if 1<=x.kind/\x.kind<=3 then X.chN x
 else if x.kind<1\/7<x.kind then X
 else if x.core<0\/(X.C.length:Int)<=x.core then X
 else if x.kind=4 then{X with C:=X.C.set x.core.toNat ((X.at' x.core).bgN 0 x.q x.k x.u)}
 else if x.kind=5 then{X with S:=(X.at' x.core).stS X.S 0,C:=X.C.set x.core.toNat ((X.at' x.core).stN X.S 0)}
 else if x.kind=6 then X.akN x.core
 else{X with C:=X.C.set x.core.toNat (X.at' x.core).yig}
end Spc
structure Bas (S:Fs) (G:List Int) (L:List Mp):Prop where
 ok:S.Ok
 rep:Rep (gives G S) L
 nd:G.Nodup
 hs:∀y,y ∈ G->S.has y=I
 em:∀y,y ∈ G->yhy S y=I
section
variable {S:Fs} {G:List Int} {L:List Mp}
theorem Bas.word (h:Bas S G L):(gives G S).word=S.word:=(yij G S h.ok h.nd h.hs).2.1
theorem Bas.yiz (h:Bas S G L) (x:Int):(gives G S).has x=I ↔ S.has x=I/\x ∉ G:=by
 have hu:=(yij G S h.ok h.nd h.hs).2.2.2.1;simp only[Fs.has,Fs.inn,D,decide_eq_true_eq,hu];constructor
 ·rintro ⟨h1,h2,h3⟩
  exact⟨⟨h1,h2⟩,fun hx=>h3 (by rw[ks h1];exact hx)⟩
 ·rintro ⟨⟨h1,h2⟩,h3⟩
  exact⟨h1,h2,fun hx=>h3 (by rw[ks h1]at hx;exact hx)⟩
theorem Bas.agree (h:Bas S G L) {x:Int} (hx:(gives G S).has x=I):Agree (gives G S) S x:=
 ⟨by rw[hx,((h.yiz x).1 hx).1],fun i _=>by rw[h.word]⟩
theorem Bas.thr (h:Bas S G L):thr S zW 3 0 0=thr (gives G S) zW 3 0 0:=
 yjH 3 0 0 h.rep.code fun x hx=>h.agree (yiT 3 0 0 h.rep.code x hx)
theorem Bas.ykV (h:Rep S L):Bas S [] L:=⟨h.ok,h,List.nodup_nil,fun y hy=>by simp at hy,fun y hy=>by simp at hy⟩
theorem Bas.over (h:Bas S G L):Bas (gives G S) [] L:= .ykV h.rep
end
theorem give_store {S:Fs} {x t:Int} (Ho:t≠x) (ht:S.has t=I) (i v:Int):(S.store t i v).give x=(S.give x).store t i v/\(S.give x).has t=I:=by
 have hh:(S.give x).has t=I:=by
  unfold Fs.give;split
  ·rename_i hx
   simp only[Fs.has,Fs.inn,D,decide_eq_true_eq]at ht hx ⊢;refine⟨ht.1,(List.mem_erase_of_ne ?_).2 ht.2⟩;omega
  ·exact ht
 refine⟨?_,hh⟩;unfold Fs.store Fs.at';rw[hh,ht]
 by_cases hi:(decide (0<=i)&&decide (i<8))=I
 ·rw[if_pos (by rw[hi];rfl),if_pos (by rw[hi];rfl)]
  unfold Fs.give;have:({S with word:=Fs.put S.word t.toNat i.toNat v}:Fs).has x=S.has x:=rfl;rw[this]
  split<;>rfl
 ·rw[if_neg (by simpa using hi),if_neg (by simpa using hi)]
theorem yjt:∀(G:List Int) {S:Fs} {t:Int},t ∉ G->S.has t=I->∀i v,gives G (S.store t i v)=(gives G S).store t i v
 | [],S,t,_,_,i,v=>rfl
 | x::r,S,t,hG,ht,i,v=>by
   have Ho:t≠x:=fun e=>hG (e▸Q);obtain⟨h1,h2⟩:=give_store (S:=S) Ho ht i v
   show gives r ((S.store t i v).give x)=(gives r (S.give x)).store t i v
   rw[h1];exact yjt r (fun h=>hG (H _ h)) h2 i v
theorem store_empty {S:Fs} {t x:Int} (Ho:t.toNat≠x.toNat) (i v:Int):yhy (S.store t i v) x=yhy S x:=by
 unfold yhy;have:∀j,(S.store t i v).word x.toNat j=S.word x.toNat j:=fun j=>kst_word x.toNat j (fun e=>Ho e.symm);simp only[this]
structure Kor (S:Fs) (G:List Int) (L L0:List Mp) (T:Mp) (wt:Bool) (C:Cr):Prop where
 ok:C.Ok
 lines:∀l,l ∈ C.L->Leaf S l.m l.d\/(wt=I/\l.m ∈ L0/\l.m.meets T=I)
 walk:C.K.on=I->C.K.On S\/(wt=I/\C.K.t ∈ G/\fnd L C.K.q=Z)
theorem Kor.mono {S S':Fs} {G:List Int} {L L0:List Mp} {T:Mp} {wt:Bool} {C:Cr} (h:Kor S G L L0 T wt C) (hs:Stay S S') (hl:∀x d,Leaf S x d->Leaf S' x d):Kor S' G L L0 T wt C:=
 ⟨h.ok,fun l hc=>(h.lines l hc).imp (hl _ _) id,fun ho=>(h.walk ho).imp (fun h=>h.stay hs) id⟩
theorem Kor.free {S:Fs} {G G':List Int} {L L0 L' L0':List Mp} {T T':Mp} {wt:Bool} {C:Cr} (h:Kor S G L L0 T J C):Kor S G' L' L0' T' wt C:=
 ⟨h.ok,fun l hc=>(h.lines l hc).imp id (fun h=>by simp at h),fun ho=>(h.walk ho).imp id (fun h=>by simp at h)⟩
theorem kOut_same {S S':Fs} {K:Wk} {root:Int} (h1:S'.has K.t=S.has K.t) (h2:S'.word=S.word):kOut S' root K=kOut S root K:=by
 unfold kOut Wk.word;rw[h1,h2]
theorem yjn {L:List Ln} {R:Rs} {l:Ln} (h:l ∈ rPut L R):l ∈ L\/(R.ended=I/\R.a=0/\l=⟨R.m,R.d⟩):=by
 unfold rPut at h;split at h
 ·rename_i hc
  simp only[D,beq_iff_eq]at hc;unfold kPut at h;split at h
  ·rcases Y.1 h with h|h
   ·exact .inl (ua.1 ((yjv _).subset h)).1
   ·exact .inr ⟨hc.1,hc.2,by simpa using h⟩
  ·exact .inl h
 ·exact .inl h
structure Stepped (S:Fs) (G:List Int) (L L0:List Mp) (T:Mp) (wt:Bool) (C:Cr):Prop where
 bas:Bas (C.stS S 0) G L
 stay:Stay (gives G S) (gives G (C.stS S 0))
 leafs:∀x d,Leaf (gives G S) x d->Leaf (gives G (C.stS S 0)) x d
 kor:Kor (gives G (C.stS S 0)) G L L0 T wt (C.stN S 0)
 code:(C.stT S 0).c=0
 ans:(C.stT S 0).ended=I->(C.stT S 0).a=ansE L C.K.q C.K.k C.K.u/\(C.stT S 0).f=ansF L C.K.q C.K.k C.K.u/\(C.stT S 0).r=ansR L C.K.q C.K.k C.K.u
 done:(C.stT S 0).ended=I->(C.stT S 0).a=0->∃m,m.has C.K.q=I/\Leaf (gives G (C.stS S 0)) m (C.K.k==1)
 marks:∀q,yj7 (gives G S) q->yj7 (gives G (C.stS S 0)) q
 n:(C.stS S 0).n=S.n
theorem leaf_marks {S S':Fs} {m:Mp} {e:En} {r:Int} {u d:Bool} {A B:List Sp} {s s':Sp} (T:Turned S S' m m e r u d A B s s') (hu:e.u=I->u=I) (hd:e.d=I->d=I) {q:Int} (h:yj7 S q):yj7 S' q:=by
 obtain⟨y,h1,h2,h3,h4,h5⟩:=h;exact(T.yjx hu hd (x:=y.mp) (b:=I) ⟨y,h1,h2,rfl,h4,fun _=>h5⟩).marked h3
theorem yh8 {S:Fs} {G:List Int} {L L0:List Mp} {T:Mp} {wt:Bool} {C:Cr} (h:Bas S G L) (hS:C.stS S 0=S) (hk:Kor (gives G S) G L L0 T wt (C.stN S 0)) (hc:(C.stT S 0).c=0)
 (ha:(C.stT S 0).ended=I->((C.stT S 0).a=ansE L C.K.q C.K.k C.K.u/\(C.stT S 0).f=ansF L C.K.q C.K.k C.K.u/\(C.stT S 0).r=ansR L C.K.q C.K.k C.K.u)/\(C.stT S 0).a≠0):Stepped S G L L0 T wt C:=by
 refine⟨?_,?_,?_,?_,hc,fun he=>(ha he).1,fun he h0=>absurd h0 (ha he).2,?_,?_⟩<;>rw[hS]
 ·exact h
 ·exact Stay.refl _
 ·exact fun _ _ h=>h
 ·exact hk
 ·exact fun _ h=>h
theorem bas_walk {S:Fs} {G:List Int} {L L0:List Mp} {T:Mp} {wt:Bool} {C:Cr} (h:Bas S G L) (hC:Kor (gives G S) G L L0 T wt C) (ho:C.K.on=I):Stepped S G L L0 T wt C:=by
 have hp:below C.K.q 4096=I:=hC.ok.walk.page ho;have dF:(C.stN S 0).Ok:=hC.ok.step h.ok 0;rcases hC.walk ho with Hw|⟨hw,hg,hf⟩
 ·--on its way
  have pu:(gives G S).has C.K.t=I:=Tab.has Hw h.rep.code;obtain⟨PY,OL⟩:=(h.yiz _).1 pu;have hk:kOut S 0 C.K=kOut (gives G S) 0 C.K:=(kOut_same (by rw[PY,pu]) h.word).symm;have hs:=on_step h.rep hC.ok.walk ho Hw;rcases rD:kOut (gives G S) 0 C.K with c|K'|r|⟨e,m⟩
  ·rw[rD]at hs
   exact hs.elim
  ·rw[rD]at hs hk
   refine yh8 h (by unfold Cr.stS;rw[hk];rfl) ⟨dF,fun l hl=>hC.lines l ?_,fun _=> .inl ?_⟩ (by unfold Cr.stT;rw[hk];rfl) (fun he=>by unfold Cr.stT at he;rw[hk]at he;cases he)
   ·unfold Cr.stN at hl
    rw[hk]at hl;exact hl
   ·unfold Cr.stN
    rw[hk];exact hs.2.1
  ·have hr:=kStop rD
   rw[rD]at hs hk;have ha:=ylb h.rep hp hs;refine yh8 h (by unfold Cr.stS;rw[hk];rfl) ⟨dF,fun l hl=>hC.lines l ?_,fun h0=> ?_⟩ (by unfold Cr.stT;rw[hk];rfl) (fun _=> ?_)
   ·unfold Cr.stN at hl
    rw[hk]at hl;rcases yjn hl with hl|⟨_,h0,_⟩
    ·exact hl
    ·exact absurd h0 hr
   ·unfold Cr.stN at h0
    rw[hk]at h0;cases h0
   ·unfold Cr.stT
    rw[hk];exact⟨ha,hr⟩
  ·obtain⟨f1,f2,f3⟩:=on_line h.rep hC.ok.walk ho Hw rD
   rw[rD]at hs hk;have ha:=ylb h.rep hp hs;obtain⟨q,Sc,hq⟩:=yjb f1;have PS:∃x,kOut (gives G S) 0 C.K=x:=⟨_,rfl⟩
   have Oi:(C.stT S 0).a=((Wo.done e m).res C.K).a:=by unfold Cr.stT;rw[hk];rfl
   have bv:(e.map C.K.lv C.K.q).code=0/\(e.map C.K.lv C.K.q).has C.K.q=I:=by
    rw[f2,Sc];obtain⟨hz,lv,e',tl,A,B,F⟩:=yit h.rep hq;rw[Sc]at f1;have ht:=yiZ hz F f1;obtain⟨hl,_,_,pu⟩:=yh6 h.rep.ok hq F ht;rw[tFM,if_pos f1,F.way.yhu,F.way.yhw];exact⟨(yh5 h.rep).ok _ (by rw[F.list,if_pos ht];simp),pu⟩
   rcases hs with ⟨g1,_⟩|⟨_,_,_,_,g5,g6⟩
   ·rw[f1]at g1
    cases g1
   by_cases h0:((Wo.done e m).res C.K).a=0
   ·obtain⟨_,wu⟩:=g6 h0
    rw[Sc]at f1 f2 f3
    obtain⟨A,B,s,s',Tn,Am,⟨r0,r1,r2⟩,hR⟩:=yje h.rep hq f1 (r:=(tFE (gives G S) 0 (q:Int)).r) (by
     obtain⟨_,_,_,_,_,_,⟨r0,r1,_⟩,_⟩:=yje h.rep hq f1 (r:=0) ⟨by omega,by omega⟩ I I
     exact⟨r0,r1⟩) I ((tFE (gives G S) 0 (q:Int)).d||C.K.k==1)
    rw[r2]at Tn;have hR:=hR r2;rw[Sc]at wu;rw[<-wu]at Tn hR
    have PX:gives G (C.stS S 0)=(Wo.done e m).fs (gives G S) C.K:=by
     unfold Cr.stS;rw[hk];cases m
     ·rfl
     ·exact yjt G OL PY _ _
    have hu:(tFE (gives G S) 0 (q:Int)).u=I->I=I:=fun _=>rfl
    have hd:(tFE (gives G S) 0 (q:Int)).d=I->((tFE (gives G S) 0 (q:Int)).d||C.K.k==1)=I:=fun h=>by rw[h];rfl
    have pO:=Tn.leaf_new;have Nn:(C.stS S 0).Ok:=kOut_fs h.ok 0
    have hn:(C.stS S 0).n=S.n/\(∀y,y ∈ G->(C.stS S 0).has y=I)/\∀y,y ∈ G->yhy (C.stS S 0) y=I:=by
     unfold Cr.stS;rw[hk];cases m
     ·exact⟨rfl,h.hs,h.em⟩
     ·refine⟨(yif _ _ _ _).1,fun y hy=> ?_,fun y hy=> ?_⟩
      ·show(S.store _ _ _).has y=I
       rw[yh9];exact h.hs y hy
      ·show yhy (S.store _ _ _) y=I
       rw[store_empty]
       ·exact h.em y hy
       ·have h1:=yic PY
        have h2:=yic (h.hs y hy);intro e1
        have:C.K.t=y:=by omega
        exact OL (this▸hy)
    refine⟨⟨Nn,by rw[PX];exact hR,h.nd,hn.2.1,hn.2.2⟩,by rw[PX];exact Tn.stay,fun x d hx=>by rw[PX];exact Tn.yjx hu hd hx,?_,by unfold Cr.stT;rw[hk];rfl,fun _=>by unfold Cr.stT;rw[hk];exact ha,fun _ _=> ?_,fun x hx=>by rw[PX];exact leaf_marks Tn hu hd hx,hn.1⟩
    ·rw[PX]
     refine⟨dF,fun l hl=> ?_,fun h0=> ?_⟩
     ·unfold Cr.stN at hl
      rw[hk]at hl;rcases yjn hl with hl|⟨_,_,rfl⟩
      ·exact(hC.lines l hl).imp (fun hx=>Tn.yjx hu hd hx) id
      ·refine .inl ?_
       show Leaf _ (e.map C.K.lv C.K.q) e.d
       rw[Sc,f2,f3];exact pO
     ·unfold Cr.stN at h0
      rw[hk]at h0;cases h0
    ·rw[PX]
     refine⟨tFM (gives G S) 0 (q:Int),?_,?_⟩
     ·rw[<-f2,<-Sc]
      exact bv.2
     ·obtain⟨y,y1,y2,y3,y4,y5⟩:=pO
      exact⟨y,y1,y2,y3,y4,fun sW=>y5 (by rw[sW,Bool.or_true])⟩
   ·have wu:=g5 h0
    have hm:C.stS S 0=S:=by
     cases m
     ·unfold Cr.stS
      rw[hk];rfl
     ·exfalso
      apply h0
      show aEnd (e.map C.K.lv C.K.q).r C.K.k C.K.u=0
      have hx:C.K.x≠0:=by
       intro hx;unfold kOut at rD;rw[if_neg (by simp[ho]),if_neg (by simp[pu]),if_neg (by simp[hx])]at rD;split at rD
       ·cases rD
       ·split at rD
        ·cases rD
        ·split at rD
         ·cases rD
         ·split at rD
          ·cases rD
          ·split at rD<;>cases rD
      obtain⟨_,_,x2,x3,x4,_⟩:=hC.ok.walk.leaf hx;unfold kOut at rD;rw[if_neg (by simp[ho]),if_neg (by simp[pu]),if_pos hx]at rD;split at rD
      ·cases rD
       have ol:(En.of C.K.x C.K.lv).fault C.K.lv=0:=(ykq (hC.ok.walk.leaf hx).1 x2).1;rw[(yjz x3 ol).2,yi0 hp x3 ol,aEnd,if_pos x4]
      ·cases rD
    refine yh8 h hm ⟨dF,fun l hl=>hC.lines l ?_,fun h0=> ?_⟩ (by unfold Cr.stT;rw[hk];rfl) (fun _=> ?_)
    ·unfold Cr.stN at hl
     rw[hk]at hl;rcases yjn hl with hl|⟨_,h1,_⟩
     ·exact hl
     ·exact absurd h1 h0
    ·unfold Cr.stN at h0
     rw[hk]at h0;cases h0
    ·unfold Cr.stT
     rw[hk];exact⟨ha,h0⟩
 ·--at a table that goes
  have PY:=h.hs _ hg;have uG:=h.em _ hg;have rP:=hC.ok.walk.lv
  have hz:C.K.word S=0:=by
   unfold yhy at uG;rw[ud]at uG
   simpa[Wk.word]using uG (ix C.K.q C.K.lv) (by simpa using yid C.K.q C.K.lv)
  by_cases hx:C.K.x=0
  ·have hk:kOut S 0 C.K= .stop 1:=by
    unfold kOut
    have e0:yhA 0 (C.K.lv:Int)=0:=by
     have:¬((C.K.lv:Int)<0\/3<(C.K.lv:Int)):=by omega
     simp[yhA,this,wBad]
    have e1:(En.of 0 (C.K.lv:Int)).t=J:=by simp[En.of,yhF]
    rw[if_neg (by simp[ho]),if_neg (by simp[PY]),if_neg (by simp[hx]),hz,if_neg (by simp[e0]),if_pos e1]
   refine yh8 h (by unfold Cr.stS;rw[hk];rfl) ⟨dF,fun l hl=>hC.lines l ?_,fun h0=> ?_⟩ (by unfold Cr.stT;rw[hk];rfl) (fun _=> ?_)
   ·unfold Cr.stN at hl
    rw[hk]at hl;have hl:l ∈ rPut C.L (Wo.res C.K (Wo.stop 1)):=hl;rcases yjn hl with hl|⟨_,h0,_⟩
    ·exact hl
    ·cases h0
   ·unfold Cr.stN at h0
    rw[hk]at h0;cases h0
   ·unfold Cr.stT
    rw[hk,ansE,ansF,ansR,hf];exact⟨⟨rfl,rfl,rfl⟩,show(1:Int)≠0 by decide⟩
  ·have hk:kOut S 0 C.K= .go (C.K.again 0):=by
    unfold kOut;rw[if_neg (by simp[ho]),if_neg (by simp[PY]),if_pos hx,if_neg (by rw[hz];exact fun e=>hx e.symm)]
   refine yh8 h (by unfold Cr.stS;rw[hk];rfl) ⟨dF,fun l hl=>hC.lines l ?_,fun _=> .inl ?_⟩ (by unfold Cr.stT;rw[hk];rfl) (fun he=>by unfold Cr.stT at he;rw[hk]at he;cases he)
   ·unfold Cr.stN at hl
    rw[hk]at hl;exact hl
   ·unfold Cr.stN
    rw[hk];exact Wk.On.again ho hp
end Pg
namespace Pg
structure Inv (X:Spc) (L L0:List Mp):Prop where
 bas:Bas X.S X.G L
 calm:X.busy=J->X.G=[]
 len:X.W.length=X.C.length
 some:1<=X.C.length
 cores:∀k,k<X.C.length->Kor (gives X.G X.S) X.G L L0 X.T (X.W.getD k J) (X.C.getD k Cr.new)
 past:X.busy=I->Good L0
theorem yiP {α:Type} {l:List α} {k:Nat} (h:k<l.length) (d:α):l.getD k d ∈ l:=by
 simp[List.getD,h]
theorem yjp {W:List Bool} (h:W.any id=J) (k:Nat):W.getD k J=J:=by
 by_cases hk:k<W.length
 ·cases hw:W.getD k J
  ·rfl
  ·have:W.any id=I:=ki.2 ⟨I,by rw[<-hw];exact yiP hk _,rfl⟩
   rw[h]at this;cases this
 ·simp[List.getD,Nat.le_of_not_lt hk]
theorem yiQ {α:Type} {l:List α} {k:Nat} (hk:k<l.length) (x d:α) (j:Nat):(l.set k x).getD j d=if j=k then x else l.getD j d:=by
 by_cases e:j=k
 ·subst e
  simp[List.getD,hk]
 ·rw[if_neg e]
  simp[List.getD,List.getElem?_set_ne (fun h=>e h.symm)]
section
variable {X:Spc} {L L0:List Mp}
theorem Inv.still (_h:Inv X L L0) (hb:X.busy=J) (k:Nat):X.W.getD k J=J:=yjp hb k
theorem Inv.rep (h:Inv X L L0) (hb:X.busy=J):Rep X.S L:=by
 have:=h.bas.rep;rw[h.calm hb]at this;exact this
theorem inv_new {cores n:Nat} (h1:1<=cores) (h2:1<=n) (h3:n<=128):Inv (Spc.new cores n) [] []:=by
 refine⟨.ykV (rep_start h2 h3),fun _=>rfl,by simp[Spc.new],by simpa[Spc.new]using h1,fun k hk=> ?_,fun hb=> ?_⟩
 ·have e:(Spc.new cores n).C.getD k Cr.new=Cr.new:=by
   have hk:k<cores:=by simpa[Spc.new]using hk
   simp[Spc.new,List.getD,hk]
  rw[e];exact⟨Cr.Ok.new,fun l hl=>by simp[Cr.new]at hl,fun ho=>by simp[Cr.new,Wk.off]at ho⟩
 ·exfalso
  simp[Spc.busy,Spc.new]at hb
theorem Inv.core (h:Inv X L L0) {k:Nat} (hk:k<X.C.length) {C':Cr} (hC:Kor (gives X.G X.S) X.G L L0 X.T (X.W.getD k J) C'):Inv {X with C:=X.C.set k C'} L L0:=by
 refine⟨h.bas,h.calm,by simpa using h.len,by simpa using h.some,fun j hj=> ?_,h.past⟩
 have hj:j<X.C.length:=by simpa using hj
 show Kor (gives X.G X.S) X.G L L0 X.T (X.W.getD j J) ((X.C.set k C').getD j Cr.new)
 rw[yiQ hk];split
 ·rename_i e
  subst e;exact hC
 ·exact h.cores j hj
theorem Inv.walk (h:Inv X L L0) {k:Nat} (hk:k<X.C.length) (hs:Stepped X.S X.G L L0 X.T (X.W.getD k J) (X.C.getD k Cr.new)):Inv {X with S:=(X.C.getD k Cr.new).stS X.S 0,C:=X.C.set k ((X.C.getD k Cr.new).stN X.S 0)} L L0:=by
 refine⟨hs.bas,h.calm,by simpa using h.len,by simpa using h.some,fun j hj=> ?_,h.past⟩
 have hj:j<X.C.length:=by simpa using hj
 show Kor (gives X.G ((X.C.getD k Cr.new).stS X.S 0)) X.G L L0 X.T (X.W.getD j J) ((X.C.set k ((X.C.getD k Cr.new).stN X.S 0)).getD j Cr.new)
 rw[yiQ hk];split
 ·rename_i e
  subst e;exact hs.kor
 ·exact(h.cores j hj).mono hs.stay hs.leafs
theorem Inv.insert (h:Inv X L L0) (hb:X.busy=J) (m:Mp):Inv {X with S:=insS X.S 0 m} (if insC X.S 0 m=0 then addL L m else L) L0:=by
 have hr:=h.rep hb;have hG:=h.calm hb;have hw:=h.still hb;obtain⟨h1,h2⟩:=insert_stay hr m
 have hR:Rep (insS X.S 0 m) (if insC X.S 0 m=0 then addL L m else L):=by
  rcases yjU hr m with ⟨e1,_,e⟩|⟨_,e1,e2,_⟩
  ·rw[e1,e,if_neg (by decide)]
   exact hr
  ·by_cases hc:insC X.S 0 m=0
   ·rw[if_pos hc]
    exact e2
   ·rw[if_neg hc]
    have:insS X.S 0 m=X.S:=by rw[insS,if_neg hc]
    rw[this];exact hr
 refine⟨?_,fun _=>hG,h.len,h.some,fun k hk=> ?_,h.past⟩
 ·show Bas (insS X.S 0 m) X.G _
  rw[hG];exact .ykV hR
 ·have:=h.cores k hk
  show Kor (gives X.G (insS X.S 0 m)) X.G _ L0 X.T (X.W.getD k J) _
  rw[hw k]at this ⊢;rw[hG]at this ⊢;exact(this.mono h1 h2).free
theorem yjl (W:List Bool) (k:Nat) (hk:k<W.length):(W.map fun _=>I).getD k J=I:=by simp[List.getD,hk]
theorem yhX {W:List Bool} (h:1<=W.length):(W.map fun _=>I).any id=I:=by
 cases W with
 | nil=>simp at h
 | cons a r=>simp
theorem yjR {m:Mp} (h:m.code=0):m.meets m=I:=by
 cases hm:m.meets m
 ·exact absurd rfl (ykT h hm)
 ·rfl
theorem meets_rts {m:Mp} (h:m.code=0) (r:Int):m.meets (m.rts r)=I:=by
 have:=yjR h;unfold Mp.meets at this ⊢;exact this
theorem yjC {S:Fs} (h:Rep S L) {q:Nat} (hq:q<4096) {lv:Nat} (hl:lv<=3) {t:Int} (ht:Tab S t lv (q/8^(lv+1))) (hw:S.word t.toNat (ix (q:Int) lv)=0):fnd L (q:Int)=Z:=by
 have hp:below (q:Int) 4096=I:=zB.2 ⟨by omega,by omega⟩;obtain⟨dm,hc⟩:=ht.place h.code (yid (q:Int) lv);obtain⟨z1,z2⟩:=yiH (lv:=lv) (yhz hc) (by omega) hw;obtain⟨P,a,l9⟩:=yjG h.code hq (3-lv) lv (by omega) t ht;rw[yhS S (q:Int) lv t a,if_neg (by simpa using hc),if_pos (by rw[z2];rfl)]at l9;obtain⟨c1,c2,c3,c4⟩:=ykI hp l9
 have h5:tFC S 0 (q:Int)=5:=by
  unfold tFC;rw[c1,c4,z2,if_neg (by simp),if_neg (by simp[En.zero])]
 rw[(yiI h q).1,yhI,if_pos hp]at h5
 cases hf:fnd L (q:Int)with
 | none=>rfl
 | some j=>rw[hf,if_neg (by simp)]at h5;omega
theorem ykk (p:Int) (ts:List Int):∀(k:Nat) (S:Fs) (G:List Int) (x j:Nat),(rmW p ts k S G).1.word x j=S.word x j\/(rmW p ts k S G).1.word x j=0
 | 0,S,G,x,j=> .inl rfl
 | k+1,S,G,x,j=>by
   have one:∀t i:Int,(S.store t i 0).word x j=S.word x j\/(S.store t i 0).word x j=0:=fun t i=>by
    unfold Fs.store;split
    ·simp only[Fs.put]
     split
     ·exact .inr rfl
     ·exact .inl rfl
    ·exact .inl rfl
   rw[rmW];split
   ·exact one _ _
   ·rcases ykk p ts k (S.store (ts.getD k 0) (index p (3-(k:Int))) 0) (G++[ts.getD k 0]) x j with e|e
    ·rw[e]
     exact one _ _
    ·exact .inr e
theorem rm_words (S:Fs) (p:Int) (x j:Nat):(rmR S 0 p).1.word x j=S.word x j\/(rmR S 0 p).1.word x j=0:=by
 unfold rmR;split
 ·exact ykk p _ _ _ _ x j
 ·exact .inl rfl
theorem yjT {S:Fs} (h:Rep S L) {p:Int} (hB:Bas (rmR S 0 p).1 (rmR S 0 p).2 (yhU L p)) {q:Nat} (hq:q<4096):∀(d lv:Nat),lv+d=3->∀t,Tab S t lv (q/8^(lv+1))->
 Tab (gives (rmR S 0 p).2 (rmR S 0 p).1) t lv (q/8^(lv+1))\/fnd (yhU L p) (q:Int)=Z
 | 0,lv,hd,t,ht=>by
   have:lv=3:=by omega
   subst this;rcases ht with ht|⟨s,hs,ho,_,hl,_⟩
   ·exact .inl (.inl ht)
   ·have:=(yiJ 3 0 0 h.code s hs).2.1
    omega
 | d+1,lv,hd,t,ht=>by
   rcases ht with ⟨_,e,_⟩|⟨s,hs,ho,rfl,hl,ha⟩
   ·omega
   ·obtain⟨i1,i2,i3,i4,i5⟩:=yiJ 3 0 0 h.code s hs
    rw[hl]at i3 i4
    have Pk:Tab S s.table (lv+1) (q/8^(lv+1+1))/\s.place=ix (q:Int) (lv+1):=by
     rw[ylk,ykG q (lv+1),<-ha];rcases i5 with ⟨k1,k2,k3⟩|⟨s',k1,k2,k3,k4,k5⟩
     ·exact⟨.inl ⟨k1,by omega,by omega⟩,by omega⟩
     ·exact⟨.inr ⟨s',k1,k2,k3,by omega,by omega⟩,by omega⟩
    obtain⟨hT,dm⟩:=Pk;rcases yjT h hB hq d (lv+1) (by omega) s.table hT with U9|hn
    ·have hw:=hB.word
     obtain⟨LY,kK⟩:=U9.place hB.rep.code (yid (q:Int) (lv+1));rcases rm_words S p s.table.toNat (ix (q:Int) (lv+1))with e|e
     ·refine .inl (.inr ⟨_,LY,?_⟩)
      have ug:rEn (gives (rmR S 0 p).2 (rmR S 0 p).1) s.table (ix (q:Int) (lv+1)) (lv+1)=s.e:=by
       rw[i3,dm];unfold rEn;rw[if_pos (yhz kK),if_pos (yhz i4),hw,e]
      rw[yk4];refine⟨?_,?_,rfl,rfl⟩
      ·show(rEn (gives (rmR S 0 p).2 (rmR S 0 p).1) s.table (ix (q:Int) (lv+1)) (lv+1)).on=I
       rw[ug];exact ho
      ·show(rEn (gives (rmR S 0 p).2 (rmR S 0 p).1) s.table (ix (q:Int) (lv+1)) (lv+1)).f=s.e.f
       rw[ug]
     ·exact .inr (yjC hB.rep hq (by omega) U9 (by rw[hw];exact e))
    ·exact .inr hn
theorem Inv.remove (h:Inv X L L0) (hb:X.busy=J) {p:Int} (hc:tFC X.S 0 p=0):Inv (X.post (rmR X.S 0 p).1 (tFM X.S 0 p) (rmR X.S 0 p).2) (yhU L p) L:=by
 have hr:=h.rep hb;have hG:=h.calm hb;have hw:=h.still hb;obtain⟨r1,r2,r3,r4,r5,r6,r7,_⟩:=yjV hr p;have hB:Bas (rmR X.S 0 p).1 (rmR X.S 0 p).2 (yhU L p):=⟨r1,r6,r4,r5,rm_empty X.S p⟩;obtain⟨s1,s2⟩:=remove_stay hr hc
 have hm:tFM X.S 0 p ∈ L:=by
  obtain⟨A,B,z,T,r⟩:=yi2 hr hc;rw[r.list];simp
 have oZ:(X.post (rmR X.S 0 p).1 (tFM X.S 0 p) (rmR X.S 0 p).2).busy=I:=by
  have h1:=h.some;rw[<-h.len]at h1
  show(X.W.map fun _=>I).any id=I
  exact yhX h1
 refine⟨hB,fun e=>(by rw[oZ]at e;cases e),by simpa[Spc.post]using h.len,h.some,fun k hk=> ?_,fun _=>yh5 hr⟩;have uH:k<X.C.length:=hk
 show Kor (gives (rmR X.S 0 p).2 (rmR X.S 0 p).1) (rmR X.S 0 p).2 (yhU L p) L (tFM X.S 0 p) ((X.W.map fun _=>I).getD k J) (X.C.getD k Cr.new)
 rw[yjl _ _ (by rw[h.len];exact uH)];have hK:=h.cores k uH;rw[hw k,hG]at hK;refine⟨hK.ok,fun l hl=> ?_,fun ho=> ?_⟩
 ·rcases hK.lines l hl with hx|hx
  ·by_cases e:l.m=tFM X.S 0 p
   ·refine .inr ⟨rfl,by rw[e];exact hm,?_⟩
    rw[e];exact yjR ((yh5 hr).ok _ hm)
   ·exact .inl (s2 _ _ hx e)
  ·simp at hx
 ·rcases hK.walk ho with hx|hx
  ·have hp:=hK.ok.walk.page ho
   have rP:=hK.ok.walk.lv;obtain⟨q0,q1⟩:=zB.1 hp;rcases s1 _ _ _ hx with hx'|hx'
   ·exact .inl hx'
   ·rcases yjT hr hB (q:=(X.C.getD k Cr.new).K.q.toNat) (by omega) (3-(X.C.getD k Cr.new).K.lv) _ (by omega) _ hx with hy|hy
    ·exact .inl hy
    ·refine .inr ⟨rfl,hx',?_⟩
     rw[ks q0]at hy;exact hy
  ·simp at hx
theorem Inv.protect (h:Inv X L L0) (hb:X.busy=J) {p r:Int} (hc:prC X.S 0 p r=0):Inv (X.post (prS X.S 0 p r) (prM X.S 0 p r) []) (yir L p r) L:=by
 have hr:=h.rep hb;have hG:=h.calm hb;have hw:=h.still hb;obtain⟨e1,e2,e3⟩:=rep_protect hr p r
 have Kb:0<=r/\r<=7/\tFC X.S 0 p=0:=by
  unfold prC at hc;split at hc
  ·omega
  ·exact⟨by omega,by omega,hc⟩
 obtain⟨r0,r1,Pv⟩:=Kb;obtain⟨q,rfl,hq⟩:=yjb Pv;obtain⟨A,B,s,s',Tn,_,_,_⟩:=yje hr hq Pv ⟨r0,r1⟩ (tFE X.S 0 (q:Int)).u (tFE X.S 0 (q:Int)).d
 have eE:tFE X.S 0 (q:Int)=yhu (zg X.S 0 (q:Int)):=by rw[tFE,if_pos Pv]
 have hS:prS X.S 0 (q:Int) r=X.S.store (lastT (zg X.S 0 (q:Int))) (index q (yhw (zg X.S 0 (q:Int)))) (enc (tFE X.S 0 (q:Int)).t (tFE X.S 0 (q:Int)).l r (tFE X.S 0 (q:Int)).u (tFE X.S 0 (q:Int)).d (tFE X.S 0 (q:Int)).f (yhw (zg X.S 0 (q:Int)))):=by
  rw[prS,if_pos hc,eE]
 rw[<-hS]at Tn
 have hM:prM X.S 0 (q:Int) r=(tFM X.S 0 (q:Int)).rts r:=by rw[prM,if_pos hc]
 have hm:tFM X.S 0 (q:Int) ∈ L:=by
  obtain⟨A,B,z,T,r⟩:=yi2 hr Pv;rw[r.list];simp
 have oZ:(X.post (prS X.S 0 (q:Int) r) (prM X.S 0 (q:Int) r) []).busy=I:=by
  have h1:=h.some;rw[<-h.len]at h1
  show(X.W.map fun _=>I).any id=I
  exact yhX h1
 refine⟨.ykV e3,fun e=>(by rw[oZ]at e;cases e),by simpa[Spc.post]using h.len,h.some,fun k hk=> ?_,fun _=>yh5 hr⟩;have uH:k<X.C.length:=hk
 show Kor (prS X.S 0 (q:Int) r) [] (yir L (q:Int) r) L (prM X.S 0 (q:Int) r) ((X.W.map fun _=>I).getD k J) (X.C.getD k Cr.new)
 rw[yjl _ _ (by rw[h.len];exact uH)];have hK:=h.cores k uH;rw[hw k,hG]at hK;refine⟨hK.ok,fun l hl=> ?_,fun ho=> ?_⟩
 ·rcases hK.lines l hl with hx|hx
  ·by_cases e:l.m=tFM X.S 0 (q:Int)
   ·refine .inr ⟨rfl,by rw[e];exact hm,?_⟩
    rw[e,hM];exact meets_rts ((yh5 hr).ok _ hm) r
   ·exact .inl (Tn.leaf_ne hx e)
  ·simp at hx
 ·rcases hK.walk ho with hx|hx
  ·exact .inl (Tab.stay hx Tn.stay)
  ·simp at hx
theorem Kor.told {S:Fs} {G:List Int} {T:Mp} {wt:Bool} {C:Cr} (h:Kor S G L L0 T wt C):Kor S G L L0 T J (C.told 0 T):=by
 refine⟨h.ok.told 0 T,fun l hl=> ?_,fun ho=> .inl ?_⟩
 ·have hl:l ∈ yiq C.L T:=hl
  rcases h.lines l (ua.1 hl).1 with hx|⟨_,_,hx⟩
  ·exact .inl hx
  ·rw[ykf hl]at hx
   cases hx
 ·have ho:(C.K.again 0).on=I:=ho
  have tZ:C.K.on=I:=by
   unfold Wk.again at ho;split at ho
   ·assumption
   ·exact ho
  exact Wk.On.again tZ (h.ok.walk.page tZ)
theorem Inv.ack (h:Inv X L L0) {k:Int} (hk:k.toNat<X.C.length):Inv (X.akN k) L L0:=by
 unfold Spc.akN;split
 ·exact h
 ·rename_i hw
  have Cc:k.toNat<X.W.length:=by rw[h.len];exact hk
  have hC:∀j,j<X.C.length->Kor (gives X.G X.S) X.G L L0 X.T ((X.W.set k.toNat J).getD j J) ((X.C.set k.toNat ((X.at' k).told 0 X.T)).getD j Cr.new):=fun j hj=>by
   rw[yiQ hk,yiQ Cc];split
   ·rename_i e
    subst e;exact(h.cores _ hk).told
   ·exact h.cores j hj
  split
  ·rename_i hb
   refine⟨h.bas,fun e=> ?_,by simpa using h.len,by simpa using h.some,fun j hj=>hC j (by simpa using hj),fun _=>h.past ?_⟩
   ·have:(X.W.set k.toNat J).any id=J:=e
    rw[hb]at this;cases this
   ·have hw:X.W.getD k.toNat J=I:=by simpa using hw
    exact ki.2 ⟨I,by rw[<-hw];exact yiP Cc _,rfl⟩
  ·rename_i hb
   have hb:(X.W.set k.toNat J).any id=J:=by simpa using hb
   refine⟨h.bas.over,fun _=>rfl,by simpa using h.len,by simpa using h.some,fun j hj=> ?_,fun e=> ?_⟩
   ·have:=hC j (by simpa using hj)
    rw[yjp hb j]at this
    show Kor (gives X.G X.S) [] L L0 X.T ((X.W.set k.toNat J).getD j J) _
    rw[yjp hb j];exact this.free
   ·have:(X.W.set k.toNat J).any id=I:=e
    rw[hb]at this;cases this
theorem Kor.begin {S:Fs} {G:List Int} {T:Mp} {wt:Bool} {C:Cr} (h:Kor S G L L0 T wt C) (q k:Int) (u:Bool):Kor S G L L0 T wt (C.bgN 0 q k u):=by
 refine⟨h.ok.begin 0 q k u,?_,?_⟩<;>unfold Cr.bgN<;>split
 ·exact h.lines
 ·exact h.lines
 ·rename_i hc
  exact fun _=> .inl (Wk.On.start (yhP hc.1))
 ·exact h.walk
theorem Kor.yig {S:Fs} {G:List Int} {T:Mp} {wt:Bool} {C:Cr} (h:Kor S G L L0 T wt C):Kor S G L L0 T wt C.yig:=
 ⟨h.ok.yig,fun l hl=>h.lines l (List.mem_of_mem_drop hl),h.walk⟩
end
def Spc.nxL (X:Spc) (L:List Mp) (x:Sx):List Mp:=
 if 1<=x.kind/\x.kind<=3/\(X.goE x).c=0 then(if x.kind=1 then addL L x.m else if x.kind=2 then yhU L x.m.p else yir L x.m.p x.m.r)else L
def Spc.nxP (X:Spc) (L L0:List Mp) (x:Sx):List Mp:=if 2<=x.kind/\x.kind<=3/\(X.goE x).c=0 then L else L0
section
variable {X:Spc} {L L0:List Mp}
theorem inv_change (h:Inv X L L0) (x:Sx) (hk:1<=x.kind/\x.kind<=3):Inv (X.chN x) (X.nxL L x) (X.nxP L L0 x):=by
 have hg:X.goE x=X.chE x:=by unfold Spc.goE;rw[if_pos hk]
 unfold Spc.nxL Spc.nxP;rw[hg];unfold Spc.chN Spc.chE
 by_cases hb:X.busy=I
 ·rw[if_pos hb,if_pos hb,if_neg (by simp[Ev.code]),if_neg (by simp[Ev.code])]
  exact h
 ·rw[if_neg hb,if_neg hb]
  have hb:X.busy=J:=by simpa using hb
  by_cases h1:x.kind=1
  ·rw[if_pos h1,if_pos h1,if_pos h1]
   have:=h.insert hb x.m
   have e2:¬(2<=x.kind/\x.kind<=3/\insC X.S 0 x.m=0):=by omega
   rw[if_neg e2]
   by_cases hc:insC X.S 0 x.m=0
   ·rw[if_pos ⟨hk.1,hk.2,hc⟩]
    rw[if_pos hc]at this;exact this
   ·rw[if_neg (fun e=>hc e.2.2)]
    rw[if_neg hc]at this;exact this
  ·rw[if_neg h1,if_neg h1,if_neg h1]
   by_cases h2:x.kind=2
   ·rw[if_pos h2,if_pos h2,if_pos h2]
    by_cases hc:tFC X.S 0 x.m.p=0
    ·rw[if_pos hc,if_pos ⟨hk.1,hk.2,hc⟩,if_pos ⟨by omega,hk.2,hc⟩]
     exact h.remove hb hc
    ·rw[if_neg hc,if_neg (fun e=>hc e.2.2),if_neg (fun e=>hc e.2.2)]
     exact h
   ·rw[if_neg h2,if_neg h2,if_neg h2]
    by_cases hc:prC X.S 0 x.m.p x.m.r=0
    ·rw[if_pos hc,if_pos ⟨hk.1,hk.2,hc⟩,if_pos ⟨by omega,hk.2,hc⟩]
     exact h.protect hb hc
    ·rw[if_neg hc,if_neg (fun e=>hc e.2.2),if_neg (fun e=>hc e.2.2)]
     exact h
theorem yiW {x:Sx} (h:¬(x.core<0\/(X.C.length:Int)<=x.core)):x.core.toNat<X.C.length:=by omega
theorem yjm {C:Cr} {S:Fs} (ho:C.K.on=J):C.stT S 0= .code 9/\C.stN S 0=C/\C.stS S 0=S:=by
 have hk:kOut S 0 C.K= .code 9:=kOut_off ho;refine⟨?_,?_,?_⟩
 ·unfold Cr.stT;rw[hk];rfl
 ·unfold Cr.stN;rw[hk];rfl
 ·unfold Cr.stS;rw[hk];rfl
theorem yi8 {α:Type} {l:List α} {k:Nat} (hk:k<l.length) (d:α):l.set k (l.getD k d)=l:=by
 have:l.getD k d=l[k]:=by simp[List.getD,hk]
 rw[this];exact List.set_getElem_self hk
theorem yj0 (h:Inv X L L0) (x:Sx):Inv (X.goN x) (X.nxL L x) (X.nxP L L0 x):=by
 by_cases hk:1<=x.kind/\x.kind<=3
 ·have:X.goN x=X.chN x:=by unfold Spc.goN;rw[if_pos hk]
  rw[this];exact inv_change h x hk
 ·have e1:X.nxL L x=L:=by unfold Spc.nxL;rw[if_neg (fun e=>hk ⟨e.1,e.2.1⟩)]
  have e2:X.nxP L L0 x=L0:=by unfold Spc.nxP;rw[if_neg (by omega)]
  rw[e1,e2];unfold Spc.goN;rw[if_neg hk];split
  ·exact h
  ·split
   ·exact h
   ·rename_i _ hc
    have Hf:=yiW hc;split
    ·exact h.core Hf ((h.cores _ Hf).begin _ _ _)
    ·split
     ·show Inv {X with S:=(X.C.getD x.core.toNat Cr.new).stS X.S 0,C:=X.C.set x.core.toNat ((X.C.getD x.core.toNat Cr.new).stN X.S 0)} L L0
      cases ho:(X.C.getD x.core.toNat Cr.new).K.on
      ·obtain⟨_,o2,o3⟩:=yjm (S:=X.S) ho
       rw[o2,o3,yi8 Hf];exact h
      ·exact h.walk Hf (bas_walk h.bas (h.cores _ Hf) ho)
     ·split
      ·exact h.ack Hf
      ·exact h.core Hf (h.cores _ Hf).yig
end
end Pg
end Go.Proofs.YtdphiompijbelaaGreat
namespace Go.Proofs.YtdphiompijbelaaGreat
open Go.RowKit Go.Sort
theorem zx.but {w w':World} {ad:Option Addr} {L:List Int} {G:Nat->Prop} (h:zx w ad L) (hb:But G w w') (hn:∀g,ad=kp ⟨g,0,Z⟩->¬G g):zx w' ad L:=fun j hj=>by
 obtain⟨g,e,hl,hc⟩:=h j hj;exact⟨g,e,Nat.lt_of_lt_of_le hl hb.size,(hb.cell (a:=⟨g,j,Z⟩) hl (hn g e)).trans hc⟩
theorem yeW (p:Int) (ts:List Int):∀(k:Nat) (S:Pg.Fs) (G:List Int),(Pg.rmW p ts k S G).2.length<=G.length+k
 | 0,S,G=>by simp[Pg.rmW]
 | k+1,S,G=>by
   rw[Pg.rmW];split
   ·exact Nat.le_add_right _ _
   ·have:=yeW p ts k (S.store (ts.getD k 0) (Pg.index p (3-(k:Int))) 0) (G++[ts.getD k 0])
    simp at this ⊢;omega
theorem yeV (S:Pg.Fs) (t p:Int):(Pg.rmR S t p).2.length<=4680:=by
 unfold Pg.rmR;split
 ·have h1:=yeW p (tabs (zg S t p)) (zg S t p).length S []
  have h2:=yfw S t p;rw[List.length_nil]at h1;omega
 ·simp
set_option linter.unusedSimpArgs false
def Pg.Ev.val (e:Pg.Ev):Value:= .agg #[U O e.c,kh e.ended,U O e.a,U O e.f,U O e.r,kh e.back]
def Pg.Sx.val (x:Pg.Sx):Value:= .agg #[U O x.kind,U O x.core,U O x.m.p,U O x.m.s,U O x.m.f,U O x.m.r,U O x.q,U O x.k,kh x.u]
theorem zG {w:World} {r:Nat} {v0 v1 v2 v3 v4 v5:Value} {t:TypeId} (h:w.heap[r]?=kp (.cells #[v0,v1,v2,v3,v4,v5] t (0,0))):
 (w.cell? ⟨r,0,Z⟩=kp v0/\w.cell? ⟨r,1,Z⟩=kp v1/\w.cell? ⟨r,2,Z⟩=kp v2/\w.cell? ⟨r,3,Z⟩=kp v3/\w.cell? ⟨r,4,Z⟩=kp v4/\w.cell? ⟨r,5,Z⟩=kp v5)/\∀i,w.frozen? ⟨r,i,Z⟩=J:=
 ⟨by simp[World.cell?,h],fun i=>by simp[World.frozen?,h]⟩
theorem vo {w w1:World} (h:Below w.heap.size w w1) (r:Nat) (hr:w.heap.size<=r) (x0 x1 x2 x3 x4 x5:Value):Below w.heap.size w ((((((w1.setCell ⟨r,0,Z⟩ x0).setCell ⟨r,1,Z⟩ x1).setCell ⟨r,2,Z⟩ x2).setCell ⟨r,3,Z⟩ x3).setCell ⟨r,4,Z⟩ x4).setCell ⟨r,5,Z⟩ x5):=
 (((((h.setCell (p:=⟨r,0,Z⟩) hr x0).setCell (p:=⟨r,1,Z⟩) hr x1).setCell (p:=⟨r,2,Z⟩) hr x2).setCell (p:=⟨r,3,Z⟩) hr x3).setCell (p:=⟨r,4,Z⟩) hr x4).setCell (p:=⟨r,5,Z⟩) hr x5
theorem qJ {F:Nat->Prop} {w w1:World} (h:But F w w1) (r:Nat) (hr:w.heap.size<=r\/F r) (x0 x1 x2 x3 x4 x5:Value):But F w ((((((w1.setCell ⟨r,0,Z⟩ x0).setCell ⟨r,1,Z⟩ x1).setCell ⟨r,2,Z⟩ x2).setCell ⟨r,3,Z⟩ x3).setCell ⟨r,4,Z⟩ x4).setCell ⟨r,5,Z⟩ x5):=
 (((((h.setCell (a:=⟨r,0,Z⟩) hr x0).setCell (a:=⟨r,1,Z⟩) hr x1).setCell (a:=⟨r,2,Z⟩) hr x2).setCell (a:=⟨r,3,Z⟩) hr x3).setCell (a:=⟨r,4,Z⟩) hr x4).setCell (a:=⟨r,5,Z⟩) hr x5
theorem Pg.ykr (S:Pg.Fs) (p:Int):Pg.fits (Pg.tFM S 0 p).p:=by
 unfold Pg.tFM;split
 ·exact Pg.ykS _ _ _
 ·unfold Pg.fits Pg.Mp.zz;simp
theorem Pg.ylr (S:Pg.Fs) (p r:Int):Pg.fits (Pg.prM S 0 p r).p:=by
 unfold Pg.prM;split
 ·exact Pg.ykr S p
 ·unfold Pg.fits Pg.Mp.zz;simp
def chW (w:World) (x:Pg.Sx):World:=(w.alloc (.cells #[U O x.kind,U O x.core,U O x.m.p,U O x.m.s,U O x.m.f,U O x.m.r,U O x.q,U O x.k,kh x.u] 43)).alloc (.cells #[U O 0,kh J,U O 0,U O 0,U O 0,kh J] 36)
structure ChW (w W:World) (x:Pg.Sx):Prop where
 bel:Below w.heap.size w W
 size:W.heap.size=w.heap.size+2
 x0:W.cell? ⟨w.heap.size,0,Z⟩=kp (U O x.kind)
 x1:W.cell? ⟨w.heap.size,1,Z⟩=kp (U O x.core)
 x2:W.cell? ⟨w.heap.size,2,Z⟩=kp (U O x.m.p)
 x3:W.cell? ⟨w.heap.size,3,Z⟩=kp (U O x.m.s)
 x4:W.cell? ⟨w.heap.size,4,Z⟩=kp (U O x.m.f)
 x5:W.cell? ⟨w.heap.size,5,Z⟩=kp (U O x.m.r)
 x6:W.cell? ⟨w.heap.size,6,Z⟩=kp (U O x.q)
 x7:W.cell? ⟨w.heap.size,7,Z⟩=kp (U O x.k)
 x8:W.cell? ⟨w.heap.size,8,Z⟩=kp (kh x.u)
 ev:W.heap[w.heap.size+1]?=kp (.cells #[U O 0,kh J,U O 0,U O 0,U O 0,kh J] 36 (0,0))
theorem xM (w:World) (x:Pg.Sx):ChW w (chW w x) x:=by
 refine⟨zA (zA (zR w) _) _,by simp[chW],?_,?_,?_,?_,?_,?_,?_,?_,?_,?_⟩
 iterate 9 (unfold chW;simp[go_sem])
 unfold chW;exact(by simp:(w.alloc (.cells #[U O x.kind,U O x.core,U O x.m.p,U O x.m.s,U O x.m.f,U O x.m.r,U O x.q,U O x.k,kh x.u] 43)).heap.size=w.heap.size+1)▸heap_alloc_new _ _
def yek (x:Pg.Sx):Prop:=Pg.fits x.m.p/\Pg.fits x.m.s/\Pg.fits x.m.f/\Pg.fits x.m.r/\Pg.fits x.q/\Pg.fits x.k
def Pg.Spc.walkOf (X:Pg.Spc) (k:Int):Pg.Wk:=if 0<=k then(X.C.getD k.toNat Pg.Cr.new).K else Pg.Wk.off
def Pg.Spc.linesOf (X:Pg.Spc) (k:Int):List Pg.Ln:=if 0<=k then(X.C.getD k.toNat Pg.Cr.new).L else []
end Go.Proofs.YtdphiompijbelaaGreat
namespace Go.Proofs.YtdphiompijbelaaGreat
open Go.RowKit
namespace Pg
def Right (L:List Mp) (q k:Int) (u:Bool) (e:Ev):Prop:=e.a=ansE L q k u/\e.f=ansF L q k u/\e.r=ansR L q k u
theorem takes_n (S:Fs):S.take.n=S.n:=by
 unfold Fs.take;split
 ·rfl
 ·split<;>rfl
theorem ykO (p s:Int):∀(lv:Nat) (S:Fs) (t:Int),(insW p s lv S t).1.n=S.n
 | 0,_,_=>rfl
 | lv+1,S,t=>by
   rw[insW];split
   ·rfl
   ·rw[ykO p s lv,(yif _ _ _ _).1,takes_n]
theorem ins_n (S:Fs) (t:Int) (m:Mp):(insS S t m).n=S.n:=by
 unfold insS;split
 ·rw[(yif _ _ _ _).1,ykO]
 ·rfl
theorem prs_n (S:Fs) (t p r:Int):(prS S t p r).n=S.n:=by
 unfold prS;split
 ·exact(yif _ _ _ _).1
 ·rfl
section
variable {X:Spc} {L L0:List Mp}
theorem Inv.stT (h:Inv X L L0) {k:Nat} (hk:k<X.C.length) (ho:(X.C.getD k Cr.new).K.on=I):Stepped X.S X.G L L0 X.T (X.W.getD k J) (X.C.getD k Cr.new):=bas_walk h.bas (h.cores k hk) ho
theorem ykL (h:Inv X L L0) (x:Sx):(X.goN x).S.n=X.S.n/\(X.goN x).C.length=X.C.length:=by
 unfold Spc.goN;split
 ·unfold Spc.chN
  split
  ·exact⟨rfl,rfl⟩
  ·rename_i hb
   have hb:X.busy=J:=by simpa using hb
   split
   ·exact⟨ins_n _ _ _,rfl⟩
   ·split
    ·split
     ·exact⟨(yjV (h.rep hb) _).2.1,rfl⟩
     ·exact⟨rfl,rfl⟩
    ·split
     ·exact⟨prs_n _ _ _ _,rfl⟩
     ·exact⟨rfl,rfl⟩
 ·split
  ·exact⟨rfl,rfl⟩
  ·split
   ·exact⟨rfl,rfl⟩
   ·rename_i _ hc
    have Hf:=yiW hc;split
    ·exact⟨rfl,by simp⟩
    ·split
     ·refine⟨?_,by simp⟩
      show((X.C.getD x.core.toNat Cr.new).stS X.S 0).n=X.S.n
      cases ho:(X.C.getD x.core.toNat Cr.new).K.on
      ·rw[(yjm (S:=X.S) ho).2.2]
      ·exact(h.stT Hf ho).n
     ·split
      ·unfold Spc.akN
       split
       ·exact⟨rfl,rfl⟩
       ·split
        ·exact⟨rfl,by simp⟩
        ·exact⟨(yij X.G X.S h.bas.ok h.bas.nd h.bas.hs).2.2.1,by simp⟩
      ·exact⟨rfl,by simp⟩
theorem inv_tables (h:Inv X L L0):(thr X.S zW 3 0 0).2=0/\zM (thr X.S zW 3 0 0).1=L/\((0:Int)::zU (thr X.S zW 3 0 0).1).Nodup/\(((0:Int)::zU (thr X.S zW 3 0 0).1).length:Int)+X.G.length+X.S.free=X.S.n/\needed L=(((0:Int)::zU (thr X.S zW 3 0 0).1).length:Int):=by
 rw[h.bas.thr];have g:=yij X.G X.S h.bas.ok h.bas.nd h.bas.hs;have hf:=rep_free h.bas.rep;have hn:=rep_needed h.bas.rep;rw[g.2.2.2.2,g.2.2.1]at hf;refine⟨h.bas.rep.code,h.bas.rep.maps,h.bas.rep.nodup,?_,?_⟩
 ·rw[uc]
  omega
 ·rw[hn,uc]
  omega
theorem ykD (C:Cr) (q k:Int) (u:Bool):(C.bgT q k u).c=if zK q k≠0 then zK q k else if C.K.on=I then 8 else 0:=by
 unfold Cr.bgT;split
 ·rfl
 ·split
  ·rfl
  ·split
   ·rfl
   ·rfl
theorem yka (h:Inv X L L0) (x:Sx) (hc:(X.goE x).c≠0):X.goN x=X/\X.goE x= .code (X.goE x).c:=by
 unfold Spc.goE at hc ⊢;unfold Spc.goN
 by_cases hk:1<=x.kind/\x.kind<=3
 ·rw[if_pos hk]at hc
  rw[if_pos hk,if_pos hk];unfold Spc.chE at hc ⊢;unfold Spc.chN
  by_cases hb:X.busy=I
  ·rw[if_pos hb,if_pos hb]
   exact⟨rfl,rfl⟩
  ·rw[if_neg hb]at hc
   rw[if_neg hb,if_neg hb]
   by_cases h1:x.kind=1
   ·rw[if_pos h1]at hc
    rw[if_pos h1,if_pos h1];have hc:insC X.S 0 x.m≠0:=hc
    have:insS X.S 0 x.m=X.S:=by rw[insS,if_neg hc]
    rw[this];refine⟨rfl,?_⟩;simp[Ev.code,hc]
   ·rw[if_neg h1]at hc
    rw[if_neg h1,if_neg h1]
    by_cases h2:x.kind=2
    ·rw[if_pos h2]at hc
     rw[if_pos h2,if_pos h2,if_neg (show ¬tFC X.S 0 x.m.p=0 from hc)];exact⟨rfl,rfl⟩
    ·rw[if_neg h2]at hc
     rw[if_neg h2,if_neg h2,if_neg (show ¬prC X.S 0 x.m.p x.m.r=0 from hc)];exact⟨rfl,rfl⟩
 ·rw[if_neg hk]at hc
  rw[if_neg hk,if_neg hk]
  by_cases tC:x.kind<1\/7<x.kind
  ·rw[if_pos tC,if_pos tC]
   exact⟨rfl,rfl⟩
  ·rw[if_neg tC]at hc
   rw[if_neg tC,if_neg tC]
   by_cases hr:x.core<0\/(X.C.length:Int)<=x.core
   ·rw[if_pos hr,if_pos hr]
    exact⟨rfl,rfl⟩
   ·rw[if_neg hr]at hc
    rw[if_neg hr,if_neg hr];have Hf:=yiW hr
    by_cases h4:x.kind=4
    ·rw[if_pos h4]at hc
     rw[if_pos h4,if_pos h4];have hc:((X.at' x.core).bgT x.q x.k x.u).c≠0:=hc;rw[ykD]at hc
     have e1:(X.at' x.core).bgN 0 x.q x.k x.u=X.at' x.core:=by
      unfold Cr.bgN;rw[if_neg];rintro ⟨a1,a2,_⟩;rw[a1,a2]at hc;exact hc rfl
     have e2:(X.at' x.core).bgT x.q x.k x.u= .code ((X.at' x.core).bgT x.q x.k x.u).c:=by
      unfold Cr.bgT;split
      ·rfl
      ·rename_i b1
       split
       ·rfl
       ·rename_i b2
        rw[if_neg b1,if_neg b2]at hc;exact absurd rfl hc
     rw[e1];refine⟨?_,?_⟩
     ·unfold Spc.at'
      rw[yi8 Hf]
     ·rw[e2]
      rfl
    ·rw[if_neg h4]at hc
     rw[if_neg h4,if_neg h4]
     by_cases h5:x.kind=5
     ·rw[if_pos h5]at hc
      rw[if_pos h5,if_pos h5];have hc:((X.C.getD x.core.toNat Cr.new).stT X.S 0).c≠0:=hc;cases ho:(X.C.getD x.core.toNat Cr.new).K.on
      ·obtain⟨o1,o2,o3⟩:=yjm (S:=X.S) ho
       unfold Spc.at';rw[o1,o2,o3,yi8 Hf];exact⟨rfl,rfl⟩
      ·exact absurd (h.stT Hf ho).code hc
     ·rw[if_neg h5]at hc
      rw[if_neg h5,if_neg h5]
      by_cases h6:x.kind=6
      ·rw[if_pos h6]at hc
       rw[if_pos h6,if_pos h6];unfold Spc.akE at hc ⊢;unfold Spc.akN
       by_cases hw:X.W.getD x.core.toNat J=J
       ·rw[if_pos hw,if_pos hw]
        exact⟨rfl,rfl⟩
       ·rw[if_neg hw]at hc
        exfalso
        split at hc
        ·exact hc rfl
        ·exact hc rfl
      ·rw[if_neg h6]at hc
       rw[if_neg h6,if_neg h6]
       by_cases hL:(X.at' x.core).L=[]
       ·rw[if_pos hL]
        refine⟨?_,rfl⟩
        have:(X.at' x.core).yig=X.at' x.core:=by
         unfold Cr.yig;rw[hL]
         show(⟨[],(X.at' x.core).K⟩:Cr)=_
         rw[<-hL]
        rw[this];unfold Spc.at';rw[yi8 Hf]
       ·rw[if_neg hL]at hc
        exact absurd rfl hc
theorem yjP {L:List Mp} (hg:Good L) {l:Ln} (hm:l.m ∈ L) {q:Int} (hq:l.m.has q=I) (k:Int) (u:Bool):Right L q k u (l.ans q k u).ev:=by
 obtain⟨h1,h2,h3⟩:=good_ans hg hm hq k u;exact⟨h1.symm,h2.symm,h3.symm⟩
theorem hit_line {C:Cr} {q k:Int} {u:Bool} (h:C.hit q k u=I):kAt C.L q ∈ C.L/\(kAt C.L q).m.has q=I/\(kAt C.L q).wants k u=J:=by
 unfold Cr.hit at h;simp only[D,Option.isSome_iff_exists,ur]at h;obtain⟨⟨j,hj⟩,hw⟩:=h;obtain⟨k1,k2,_⟩:=yi3 hj;refine⟨?_,?_,hw⟩
 ·unfold kAt
  rw[hj];exact ylD k1
 ·unfold kAt
  rw[hj];exact k2
theorem bgT_ended {C:Cr} {q k:Int} {u:Bool} (h:(C.bgT q k u).ended=I):zK q k=0/\C.K.on=J/\C.hit q k u=I/\C.bgT q k u=(kAt C.L q).ans q k u:=by
 unfold Cr.bgT at h ⊢;split at h
 ·cases h
 ·rename_i h1
  split at h
  ·cases h
  ·rename_i h2
   split at h
   ·rename_i h3
    refine⟨by simpa using h1,by simpa using h2,h3,?_⟩;rw[if_neg h1,if_neg h2,if_pos h3]
   ·cases h
theorem yh3 (h:Inv X L L0) (x:Sx) (he:(X.goE x).ended=I):(X.goE x).c=0/\(X.goE x).back=J/\0<=x.core/\x.core<X.C.length/\
 ((x.kind=4/\zK x.q x.k=0/\(X.at' x.core).K.on=J/\(Right L x.q x.k x.u (X.goE x)\/(X.busy=I/\Right L0 x.q x.k x.u (X.goE x))))\/
  (x.kind=5/\(X.at' x.core).K.on=I/\Right L (X.at' x.core).K.q (X.at' x.core).K.k (X.at' x.core).K.u (X.goE x))):=by
 unfold Spc.goE at he ⊢;split at he
 ·exfalso
  unfold Spc.chE at he;split at he
  ·cases he
  ·split at he
   ·cases he
   ·split at he<;>cases he
 ·rename_i hk
  split at he
  ·cases he
  ·rename_i tC
   split at he
   ·cases he
   ·rename_i hc
    have Hf:=yiW hc;rw[if_neg hk,if_neg tC,if_neg hc];split at he
    ·rename_i h4
     rw[if_pos h4];have he:((X.at' x.core).bgT x.q x.k x.u).ended=I:=he;obtain⟨b1,b2,b3,b4⟩:=bgT_ended he;obtain⟨l1,l2,l3⟩:=hit_line b3;rw[b4];refine⟨rfl,rfl,by omega,by omega,.inl ⟨h4,b1,b2,?_⟩⟩;rcases (h.cores _ Hf).lines _ l1 with hx|⟨hw,hx,_⟩
     ·exact .inl (yjP (yh5 h.bas.rep) (hx.mem h.bas.rep) l2 _ _)
     ·have hb:X.busy=I:=ki.2 ⟨I,by rw[<-hw];exact yiP (by rw[h.len];exact Hf) _,rfl⟩
      exact .inr ⟨hb,yjP (h.past hb) hx l2 _ _⟩
    ·rename_i h4
     rw[if_neg h4];split at he
     ·rename_i h5
      rw[if_pos h5];have he:((X.C.getD x.core.toNat Cr.new).stT X.S 0).ended=I:=he;cases ho:(X.C.getD x.core.toNat Cr.new).K.on
      ·rw[(yjm (S:=X.S) ho).1]at he
       cases he
      ·have hs:=h.stT Hf ho
       exact⟨hs.code,rfl,by omega,by omega,.inr ⟨h5,ho,hs.ans he⟩⟩
     ·split at he
      ·unfold Spc.akE at he
       split at he
       ·cases he
       ·split at he<;>cases he
      ·split at he<;>cases he
end
end Pg
namespace Pg
section
variable {X X0:Spc} {L L0:List Mp}
theorem busy_iff (X:Spc):X.busy=I ↔ ∃j,j<X.W.length/\X.W.getD j J=I:=by
 unfold Spc.busy;rw[ki];constructor
 ·rintro ⟨b,hb,Hd⟩
  obtain⟨j,hj,rfl⟩:=List.mem_iff_getElem.1 hb;exact⟨j,hj,by simp[List.getD,hj];exact Hd⟩
 ·rintro ⟨j,hj,e⟩
  exact⟨I,by rw[<-e];exact yiP hj _,rfl⟩
end
end Pg
namespace Pg
structure Tms where
 L:List (List Mp)
 fl:Nat
def opL (L:List Mp) (x:Sx):List Mp:=if x.kind=1 then addL L x.m else if x.kind=2 then yhU L x.m.p else yir L x.m.p x.m.r
namespace Tms
def new:Tms:=⟨[[]],0⟩
def now (T:Tms):List Mp:=T.L.getD (T.L.length-1) []
def more (T:Tms) (x:Sx) (e:Ev):List (List Mp):=if e.c=0/\1<=x.kind/\x.kind<=3 then T.L++[opL T.now x]else T.L
def next (T:Tms) (x:Sx) (e:Ev):Tms:=⟨T.more x e,if e.back=I then(T.more x e).length-1 else T.fl⟩
end Tms
section
variable {X:Spc} {L L0:List Mp} {T:Tms}
theorem yjY (h:Inv X L L0) (x:Sx):
 ((2<=x.kind/\x.kind<=3/\(X.goE x).c=0)/\X.busy=J/\(X.goN x).busy=I/\(X.goE x).back=J)\/
 ((x.kind=1/\(X.goE x).c=0)/\X.busy=J/\(X.goN x).busy=J/\(X.goE x).back=I)\/
 (¬(1<=x.kind/\x.kind<=3/\(X.goE x).c=0)/\(((X.goE x).back=J/\(X.goN x).busy=X.busy)\/((X.goE x).back=I/\X.busy=I/\(X.goN x).busy=J/\(X.goE x).c=0))):=by
 by_cases hk:1<=x.kind/\x.kind<=3
 ·by_cases hc:(X.goE x).c=0
  ·have hg:X.goE x=X.chE x:=by unfold Spc.goE;rw[if_pos hk]
   have hN:X.goN x=X.chN x:=by unfold Spc.goN;rw[if_pos hk]
   rw[hg]at hc ⊢;rw[hN];unfold Spc.chE at hc ⊢;unfold Spc.chN
   by_cases hb:X.busy=I
   ·rw[if_pos hb]at hc
    cases hc
   ·rw[if_neg hb]at hc
    rw[if_neg hb,if_neg hb]
    have hb':X.busy=J:=by simpa using hb
    by_cases h1:x.kind=1
    ·rw[if_pos h1]at hc
     rw[if_pos h1,if_pos h1];have hc:insC X.S 0 x.m=0:=hc;exact .inr (.inl ⟨⟨h1,hc⟩,hb',hb',by simp[hc]⟩)
    ·rw[if_neg h1]at hc
     rw[if_neg h1,if_neg h1]
     have cZ:1<=X.W.length:=by rw[h.len];exact h.some
     by_cases h2:x.kind=2
     ·rw[if_pos h2]at hc
      rw[if_pos h2,if_pos h2,if_pos (show tFC X.S 0 x.m.p=0 from hc)];exact .inl ⟨⟨by omega,hk.2,hc⟩,hb',yhX cZ,rfl⟩
     ·rw[if_neg h2]at hc
      rw[if_neg h2,if_neg h2,if_pos (show prC X.S 0 x.m.p x.m.r=0 from hc)];exact .inl ⟨⟨by omega,hk.2,hc⟩,hb',yhX cZ,rfl⟩
  ·obtain⟨e1,e2⟩:=yka h x hc
   refine .inr (.inr ⟨fun e=>hc e.2.2,.inl ⟨by rw[e2];rfl,by rw[e1]⟩⟩)
 ·refine .inr (.inr ⟨fun e=>hk ⟨e.1,e.2.1⟩,?_⟩)
  unfold Spc.goE Spc.goN;rw[if_neg hk,if_neg hk]
  by_cases tC:x.kind<1\/7<x.kind
  ·rw[if_pos tC,if_pos tC]
   exact .inl ⟨rfl,rfl⟩
  ·rw[if_neg tC,if_neg tC]
   by_cases hr:x.core<0\/(X.C.length:Int)<=x.core
   ·rw[if_pos hr,if_pos hr]
    exact .inl ⟨rfl,rfl⟩
   ·rw[if_neg hr,if_neg hr]
    by_cases h4:x.kind=4
    ·rw[if_pos h4,if_pos h4]
     exact .inl ⟨rfl,rfl⟩
    ·rw[if_neg h4,if_neg h4]
     by_cases h5:x.kind=5
     ·rw[if_pos h5,if_pos h5]
      exact .inl ⟨rfl,rfl⟩
     ·rw[if_neg h5,if_neg h5]
      by_cases h6:x.kind=6
      ·rw[if_pos h6,if_pos h6]
       have Hf:=yiW hr;unfold Spc.akE Spc.akN
       by_cases hw:X.W.getD x.core.toNat J=J
       ·rw[if_pos hw,if_pos hw]
        exact .inl ⟨rfl,rfl⟩
       ·rw[if_neg hw,if_neg hw]
        have hw:X.W.getD x.core.toNat J=I:=by simpa using hw
        have hb:X.busy=I:=(busy_iff X).2 ⟨_,by rw[h.len];exact Hf,hw⟩
        by_cases ha:(X.W.set x.core.toNat J).any id=I
        ·rw[if_pos ha,if_pos ha]
         exact .inl ⟨rfl,ha.trans hb.symm⟩
        ·rw[if_neg ha,if_neg ha]
         have ha:(X.W.set x.core.toNat J).any id=J:=by simpa using ha
         exact .inr ⟨rfl,hb,ha,rfl⟩
      ·rw[if_neg h6,if_neg h6]
       split
       ·exact .inl ⟨rfl,rfl⟩
       ·exact .inl ⟨rfl,rfl⟩
end
end Pg
set_option maxRecDepth 100000
namespace Pg
def Spc.maps (X:Spc):List Mp:=if (thr X.S zW 3 0 0).2=0 then zM (thr X.S zW 3 0 0).1 else []
def Spc.tabs (X:Spc):List Int:=if (thr X.S zW 3 0 0).2=0 then 0::zU (thr X.S zW 3 0 0).1 else []
end Pg
end Go.Proofs.YtdphiompijbelaaGreat
namespace Go.Proofs.YtdphiompijbelaaGreat
open Go.RowKit Go.Sort
end Go.Proofs.YtdphiompijbelaaGreat
