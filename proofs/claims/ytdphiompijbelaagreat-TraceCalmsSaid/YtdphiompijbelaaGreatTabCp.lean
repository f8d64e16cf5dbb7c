import Derived.Test.YtdphiompijbelaaGreatPlainTI
set_option linter.all false
set_option maxRecDepth 100000
open Nat renaming le_refl->yT,lt_of_lt_of_le->yX,div_eq_of_lt->yE,strongRecOn->yH,le_trans->yy
open Go.Obj renaming cells->yS
open Go.RowKit renaming Hid->yI
open Go.World renaming block_lt_of_cell?->ue,frozen?_of_block->yV,cell?_of_block->yM
open Go.Ending renaming returned->uc
open Int renaming eq_ofNat_of_zero_le->ud,toNat_of_nonneg->yR,toNat_natCast->yF,le_refl->yz
open Go.Proofs.Tryz renaming prog->kp
open Go renaming World->ki,cell_regrown->ua,Value->yP,Calls->yN,heap_alloc_new->yU
open List renaming mem_append_left->O,mem_append->E,mem_append_right->H,mem_cons_self->kO,mem_flatMap->kh,mem_cons_of_mem->yJ,append_assoc->yC,singleton_append->yQ,getElem?_set_ne->yK,all_eq_true->yD,any_eq_true->yA,mem_filter->yL,replicate->yG,mem_cons->yW
open Go.IntKind renaming i64->Q,u64->yY
open Go.Value renaming int->Y,pointer->un,bool->ur,slice->uv,slice->yZ,ownBlock->yO,int->yi,tuple->yj
open Option renaming none->J,some->U
open Bool renaming true->I,false->Z,and_eq_true->yB
set_option maxHeartbeats 1000000
namespace Go.Proofs.YtdphiompijbelaaGreat
open Go.RowKit
section
namespace Pg
def KRun (S:Fs) (q k:Int) (u:Bool) (i:Nat) (K:Wk):Prop:=
 (∃(t:Int) (lv a:Nat) (P:List Sp),i+lv=3/\thr S (onW q) 3 0 0=(P++(thr S (onW q) lv t a).1,(thr S (onW q) lv t a).2)/\K=Wk.at' q k u t lv 0)\/
 (∃(t:Int) (lv a:Nat) (P:List Sp),i+lv=4/\thr S (onW q) 3 0 0=(P++[spt S t (ix q lv) lv a],0)/\yhR S t (ix q lv) lv=0/\(rEn S t (ix q lv) lv).l=I/\may (rEn S t (ix q lv) lv).r k u=I/\S.word t.toNat (ix q lv)≠0/\K=Wk.at' q k u t lv (S.word t.toNat (ix q lv)))
theorem KRun.read {S:Fs} {q k:Int} {u:Bool} {i:Nat} (t:Int) (lv a:Nat) (P:List Sp) (hi:i+lv=3) (hP:thr S (onW q) 3 0 0=(P++(thr S (onW q) lv t a).1,(thr S (onW q) lv t a).2)):KRun S q k u i (Wk.at' q k u t lv 0):= .inl ⟨t,lv,a,P,hi,hP,rfl⟩
theorem KRun.mark {S:Fs} {q k:Int} {u:Bool} {i:Nat} (t:Int) (lv a:Nat) (P:List Sp) (hi:i+lv=4) (hP:thr S (onW q) 3 0 0=(P++[spt S t (ix q lv) lv a],0)) (hc:yhR S t (ix q lv) lv=0) (hl:(rEn S t (ix q lv) lv).l=I) (hm:may (rEn S t (ix q lv) lv).r k u=I) (hx:S.word t.toNat (ix q lv)≠0):KRun S q k u i (Wk.at' q k u t lv (S.word t.toNat (ix q lv))):= .inr ⟨t,lv,a,P,hi,hP,hc,hl,hm,hx,rfl⟩
def KEnd (S:Fs) (q k:Int) (u:Bool) (R:Rs) (S':Fs):Prop:=
 (tFC S 0 q=5/\R.a=1/\R.f=0/\R.r=0/\S'=S)\/
 (tFC S 0 q=0/\R.a=aEnd (tFM S 0 q).r k u/\R.f=yie (tFM S 0 q).p (tFM S 0 q).f (tFM S 0 q).r q k u/\R.r=yh1 (tFM S 0 q).r k u/\
   (R.a≠0->S'=S)/\(R.a=0->xQ S 0 q=0/\S'=S.store (lastT (zg S 0 q)) (index q (yhQ (zg S 0 q))) (enc (tFE S 0 q).t (tFE S 0 q).l (tFE S 0 q).r I ((tFE S 0 q).d||k==1) (tFE S 0 q).f (yhQ (zg S 0 q)))))
theorem store_self {S:Fs} (t:Int) (i:Nat):S.store t (i:Int) (S.word t.toNat i)=S:=by
 unfold Fs.store;split
 ·have e:Fs.put S.word t.toNat (i:Int).toNat (S.word t.toNat i)=S.word:=by
   funext a b
   unfold Fs.put;split
   ·rename_i h
    rw[h.1,h.2];rfl
   ·rfl
  rw[e]
 ·rfl
theorem yla {S:Fs} {q:Int} (hq:below q 4096=I) {P:List Sp} {t:Int} {lv a:Nat} (hP:thr S (onW q) 3 0 0=(P++[spt S t (ix q lv) lv a],0)):
 xQ S 0 q=0/\lastT (zg S 0 q)=t/\yhQ (zg S 0 q)=(lv:Int)/\yhO (zg S 0 q)=rEn S t (ix q lv) lv:=by
 have e1:zg S 0 q=P++[spt S t (ix q lv) lv a]:=by simp[zg,hq,hP]
 refine⟨by simp[xQ,hq,hP],?_,?_,?_⟩
 ·rw[e1];simp[lastT,spt]
 ·rw[e1,jd];rfl
 ·rw[e1,jc];rfl
theorem yjl {e:En} {lv q:Int} (hq:below q 4096=I) (hl:e.l=I) (hf:e.fault lv=0):(e.map lv q).r=e.r:=by
 have h0:yhN e.t e.l e.r e.u e.d e.f lv=0:=hf
 have h1:lOk e.t e.l e.r e.u e.d e.f lv q=I:=by
  unfold lOk;rw[h0,hl,hq];rfl
 show yiU e.t e.l e.r e.u e.d e.f lv q=e.r
 unfold yiU;rw[iP h1]
theorem ymh {S:Fs} (hS:S.Ok) {q k:Int} {u:Bool} (hq:below q 4096=I) {i:Nat} {K:Wk} (h:KRun S q k u i K):
 i<=4/\match kOut S 0 K with
  | .inl c=>c≠0/\xQ S 0 q=c
  | .inr (.inl K')=>KRun S q k u (i+1) K'
  | .inr (.inr (.inl r))=>KEnd S q k u ((Wo.stop r).res K) S
  | .inr (.inr (.inr (e,m)))=>KEnd S q k u ((Wo.done e m).res K) ((Wo.done e m).fs S K):=by
 rcases h with ⟨t,lv,a,P,hi,hP,rfl⟩|⟨t,lv,a,P,hi,hP,hc,hl,hm,hx,rfl⟩
 ·refine⟨by omega,?_⟩
  rw[yid S q lv t a]at hP;have hr:=yly S 0 q k u t lv
  by_cases hc:yhR S t (ix q lv) lv=0
  ·rw[iN (by simpa using hc)]at hP hr
   have Rn:=yih hS hc;cases ho:(rEn S t (ix q lv) lv).on
   ·rw[iP ho]at hP
    obtain⟨c1,c2,c3,c4⟩:=yla hq hP
    by_cases h1:(rEn S t (ix q lv) lv).t=Z
    ·rw[iP h1]at hr
     rw[hr];refine .inl ⟨?_,rfl,rfl,rfl,rfl⟩;unfold tFC;rw[c1,c4,iN (by simp),iN (by simp[h1])]
    ·rw[iN h1]at hr
     have h1:(rEn S t (ix q lv) lv).t=I:=by simpa using h1
     have hl:(rEn S t (ix q lv) lv).l=I:=by
      simp only[En.on,h1,Bool.true_and]at ho
      simpa using ho
     rw[iN (by simp[hl])]at hr
     have z0:tFC S 0 q=0:=by
      unfold tFC;rw[c1,c4,iN (by simp),iP h1]
     have z1:tFM S 0 q=(rEn S t (ix q lv) lv).map lv q:=by
      unfold tFM;rw[iP z0,c3,c4]
     have z2:tFE S 0 q=rEn S t (ix q lv) lv:=by
      unfold tFE;rw[iP z0,c4]
     have z3:=yjl hq hl Rn
     by_cases h2:may (rEn S t (ix q lv) lv).r k u=Z
     ·rw[iP h2]at hr
      rw[hr];refine .inr ⟨z0,?_,?_,?_,fun _=>rfl,fun h=>by cases h⟩
      ·rw[z1,z3,aEnd,iN (by simp[h2])];rfl
      ·rw[z1,z3,yie,iN (by simp[h2])];rfl
      ·rw[z1,z3,yh1,iN (by simp[h2])];rfl
     ·rw[iN h2]at hr
      have h2:may (rEn S t (ix q lv) lv).r k u=I:=by simpa using h2
      have hh:S.has t=I:=yhU hc;obtain⟨e1,e2⟩:=yik (i:=ix q lv) (lv:=lv) hh
      by_cases h3:(Wk.at' q k u t lv 0).ready (rEn S t (ix q lv) lv)=Z
      ·rw[iP h3]at hr
       rw[hr];refine .mark t lv a P (by omega) hP hc hl h2 fun e=> ?_;rw[e2,e]at h1;simp[En.of,yhZ]at h1
      ·rw[iN h3]at hr
       rw[hr];refine .inr ⟨z0,by rw[z1];rfl,by rw[z1];rfl,by rw[z1];rfl,fun _=>rfl,fun _=>⟨c1,?_⟩⟩
       have h3:(Wk.at' q k u t lv 0).ready (rEn S t (ix q lv) lv)=I:=by simpa using h3
       have hm:=mark_same h3
       have rQ:lv<4:=by omega
       rw[c2,c3,z2,yhY hq rQ]
       have ew:enc (rEn S t (ix q lv) lv).t (rEn S t (ix q lv) lv).l (rEn S t (ix q lv) lv).r I ((rEn S t (ix q lv) lv).d||k==1) (rEn S t (ix q lv) lv).f lv=S.word t.toNat (ix q lv):=by
        have h5:enc ((Wk.at' q k u t lv 0).mark (rEn S t (ix q lv) lv)).t ((Wk.at' q k u t lv 0).mark (rEn S t (ix q lv) lv)).l ((Wk.at' q k u t lv 0).mark (rEn S t (ix q lv) lv)).r ((Wk.at' q k u t lv 0).mark (rEn S t (ix q lv) lv)).u ((Wk.at' q k u t lv 0).mark (rEn S t (ix q lv) lv)).d ((Wk.at' q k u t lv 0).mark (rEn S t (ix q lv) lv)).f lv=S.word t.toNat (ix q lv):=by
         rw[hm,e2];exact(ykR (hS.low _ _) (by rw[<-e1];exact hc)).2
        exact h5
       rw[ew,store_self];rfl
   ·rw[iN (by simp[ho])]at hP
    obtain⟨m,rfl⟩:=yib ho;simp only[En.on,yB,Bool.not_eq_true']at ho;rw[iN (by simp[ho.1]),iP ho.2]at hr;rw[hr];refine .read _ m ((a+ix q (m+1))*8) (P++[spt S t (ix q (m+1)) (m+1) a]) (by omega) ?_;rw[hP];simp only[yC,yQ];rfl
  ·rw[iP hc]at hP hr
   rw[hr];exact⟨hc,by simp[xQ,hq,hP]⟩
 ·refine⟨by omega,?_⟩
  have hh:S.has t=I:=yhU hc;obtain⟨e1,e2⟩:=yik (i:=ix q lv) (lv:=lv) hh;have hr:=ylH (root:=0) (k:=k) (u:=u) hx hh rfl;rw[hr,<-e2];have Rn:=yih hS hc;obtain⟨c1,c2,c3,c4⟩:=yla hq hP;have ht:=(yh6 hS hl).2.1
  have z0:tFC S 0 q=0:=by
   unfold tFC;rw[c1,c4,iN (by simp),iP ht]
  have z1:tFM S 0 q=(rEn S t (ix q lv) lv).map lv q:=by
   unfold tFM;rw[iP z0,c3,c4]
  have z2:tFE S 0 q=rEn S t (ix q lv) lv:=by
   unfold tFE;rw[iP z0,c4]
  have z3:=yjl hq hl Rn;have z4:=(yjU (K:=Wk.at' q k u t lv (S.word t.toNat (ix q lv))) hl Rn).2 q;have za:(Wo.res (Wk.at' q k u t lv (S.word t.toNat (ix q lv))) (Wo.done ((Wk.at' q k u t lv (S.word t.toNat (ix q lv))).mark (rEn S t (ix q lv) lv)) I)).a=aEnd (((Wk.at' q k u t lv (S.word t.toNat (ix q lv))).mark (rEn S t (ix q lv) lv)).map lv q).r k u:=rfl;refine .inr ⟨z0,?_,?_,?_,fun h=> ?_,fun _=>⟨c1,?_⟩⟩
  ·rw[z1,<-z4];rfl
  ·rw[z1,<-z4];rfl
  ·rw[z1,<-z4];rfl
  ·rw[za,z4,z3,aEnd,iP hm]at h
   exact absurd rfl h
  ·rw[c2,c3,z2]
   rfl
end Pg
namespace Pg
theorem kStop {S:Fs} {root:Int} {K:Wk} {r:Int} (h:kOut S root K= .stop r):r≠0:=by
 unfold kOut at h;split at h
 ·cases h
 ·split at h
  ·cases h
  ·split at h
   ·split at h<;>cases h
   ·split at h
    ·cases h
    ·split at h
     ·cases h;decide
     ·split at h
      ·cases h
      ·split at h
       ·cases h;decide
       ·split at h<;>cases h
end Pg
set_option maxRecDepth 10000
namespace Pg
theorem yi4 {S:Fs}:∀(lv:Nat) (t:Int) (a:Nat),(thr S zW lv t a).2=0->∀s,s ∈ (thr S zW lv t a).1->
 s.place<8/\s.level<=lv/\s.e=rEn S s.table s.place s.level/\yhR S s.table s.place s.level=0/\
 ((s.table=t/\s.level=lv/\s.ahead=a+s.place)\/∃s',s' ∈ (thr S zW lv t a).1/\s'.e.on=I/\s'.e.f=s.table/\s'.level=s.level+1/\s.ahead=s'.ahead*8+s.place):=by
 intro lv
 induction lv using yH with
 | _ lv IH=>
 intro t a hz s hs;obtain⟨c1,c2⟩:=yh7 hz;have hs0:=hs;rw[c2]at hs0;simp only[kh]at hs0;obtain⟨j,hj,hs0⟩:=hs0
 have hj:j<8:=by simpa using hj
 have up:∀x,x ∈ (out S zW lv (sub S zW lv) t a j).1->x ∈ (thr S zW lv t a).1:=fun x hx=>by
  rw[c2];simp only[kh];exact⟨j,by simpa using hj,hx⟩
 obtain⟨hc,ho⟩:=yia (c1 j hj)
 have first:spt S t j lv a=s->s.place<8/\s.level<=lv/\s.e=rEn S s.table s.place s.level/\yhR S s.table s.place s.level=0/\s.table=t/\s.level=lv/\s.ahead=a+s.place:=fun e=>by
  subst e;exact⟨hj,yT _,rfl,hc,rfl,rfl,rfl⟩
 rcases ho with ⟨Hu,ho⟩|⟨Hu,hr,ho⟩
 ·rw[ho]at hs0
  simp at hs0;obtain⟨f1,f2,f3,f4,f5⟩:=first hs0.symm;exact⟨f1,f2,f3,f4,.inl f5⟩
 ·rw[ho]at hs0
  rcases yW.1 hs0 with hs0|hs0
  ·obtain⟨f1,f2,f3,f4,f5⟩:=first hs0.symm
   exact⟨f1,f2,f3,f4,.inl f5⟩
  ·obtain⟨b,rfl⟩:=yib Hu
   have tq:(thr S zW b (rEn S t j (b+1)).f ((a+j)*8)).2=0:=hr;obtain⟨i1,i2,i3,i4,i5⟩:=IH b (by omega) _ _ tq s hs0;refine⟨i1,by omega,i3,i4,.inr ?_⟩;rcases i5 with ⟨k1,k2,k3⟩|⟨s',k1,k2⟩
   ·refine⟨spt S t j (b+1) a,up _ (by rw[ho];exact kO),Hu,k1.symm,?_,k3⟩
    show b+1=_
    omega
   ·exact⟨s',up _ (by rw[ho];exact yJ _ k1),k2⟩
theorem ylu {S:Fs} {lv:Nat} {t:Int} {a:Nat} (hz:(thr S zW lv t a).2=0) {j:Nat} (hj:j<8):spt S t j lv a ∈ (thr S zW lv t a).1/\yhR S t j lv=0:=by
 obtain⟨c1,c2⟩:=yh7 hz;obtain⟨hc,ho⟩:=yia (c1 j hj);refine⟨?_,hc⟩;rw[c2];simp only[kh];refine⟨j,by simpa using hj,?_⟩
 rcases ho with ⟨_,ho⟩|⟨_,_,ho⟩<;>rw[ho]<;>exact kO
theorem spot_down {S:Fs}:∀(lv:Nat) (t:Int) (a:Nat),(thr S zW lv t a).2=0->∀s,s ∈ (thr S zW lv t a).1->s.e.on=I->
 ∃b,s.level=b+1/\(thr S zW b s.e.f (s.ahead*8)).2=0/\∀x,x ∈ (thr S zW b s.e.f (s.ahead*8)).1->x ∈ (thr S zW lv t a).1:=by
 intro lv
 induction lv using yH with
 | _ lv IH=>
 intro t a hz s hs Su;obtain⟨c1,c2⟩:=yh7 hz;have hs0:=hs;rw[c2]at hs0;simp only[kh]at hs0;obtain⟨j,hj,hs0⟩:=hs0
 have hj:j<8:=by simpa using hj
 have up:∀x,x ∈ (out S zW lv (sub S zW lv) t a j).1->x ∈ (thr S zW lv t a).1:=fun x hx=>by
  rw[c2];simp only[kh];exact⟨j,by simpa using hj,hx⟩
 obtain⟨hc,ho⟩:=yia (c1 j hj);rcases ho with ⟨Hu,ho⟩|⟨Hu,hr,ho⟩
 ·rw[ho]at hs0
  simp at hs0;subst hs0;have Su:(rEn S t j lv).on=I:=Su;rw[Hu]at Su;cases Su
 ·rw[ho]at hs0
  obtain⟨b,rfl⟩:=yib Hu;have tq:(thr S zW b (rEn S t j (b+1)).f ((a+j)*8)).2=0:=hr;rcases yW.1 hs0 with hs0|hs0
  ·subst hs0
   exact⟨b,rfl,tq,fun x hx=>up x (by rw[ho];exact yJ _ hx)⟩
  ·obtain⟨b',i1,i2,i3⟩:=IH b (by omega) _ _ tq s hs0 Su
   exact⟨b',i1,i2,fun x hx=>up x (by rw[ho];exact yJ _ (i3 x hx))⟩
def Tab (S:Fs) (t:Int) (lv a:Nat):Prop:=(t=0/\lv=3/\a=0)\/∃s,s ∈ (thr S zW 3 0 0).1/\s.e.on=I/\s.e.f=t/\s.level=lv+1/\s.ahead=a
theorem Tab.root (S:Fs):Tab S 0 3 0:= .inl ⟨rfl,rfl,rfl⟩
theorem Tab.place {S:Fs} {t:Int} {lv a:Nat} (h:Tab S t lv a) (hz:(thr S zW 3 0 0).2=0) {j:Nat} (hj:j<8):spt S t j lv (a*8) ∈ (thr S zW 3 0 0).1/\yhR S t j lv=0:=by
 rcases h with ⟨rfl,rfl,rfl⟩|⟨s,hs,ho,rfl,hl,rfl⟩
 ·exact ylu hz hj
 ·obtain⟨b,e,rX,up⟩:=spot_down 3 0 0 hz s hs ho
  have:b=lv:=by omega
  subst this;obtain⟨h1,h2⟩:=ylu rX hj;exact⟨up _ h1,h2⟩
theorem Tab.has {S:Fs} {t:Int} {lv a:Nat} (h:Tab S t lv a) (hz:(thr S zW 3 0 0).2=0):S.has t=I:=yhU (h.place hz (j:=0) (by omega)).2
theorem ylG (q lv:Nat):ix (q:Int) lv=q/8^lv%8:=by
 unfold ix
 have e:(q:Int)/8^lv%8=((q/8^lv%8:Nat):Int):=by simp
 rw[e,yF]
theorem yk8 (q lv:Nat):q/8^(lv+1)=q/8^lv/8:=by rw[Nat.pow_succ,Nat.div_div_eq_div_mul]
theorem ylv (S:Fs) (t:Int) (q lv:Nat):spt S t (ix (q:Int) lv) lv (q/8^(lv+1)*8)=⟨t,ix (q:Int) lv,lv,q/8^lv,rEn S t (ix (q:Int) lv) lv⟩:=by
 unfold spt
 have:q/8^(lv+1)*8+ix (q:Int) lv=q/8^lv:=by
  rw[ylG,yk8];omega
 rw[this]
theorem yj2 {S:Fs} (hz:(thr S zW 3 0 0).2=0) {q:Nat} (hq:q<4096):∀(d lv:Nat),lv+d=3->∀t,Tab S t lv (q/8^(lv+1))->
 ∃P a,thr S (onW (q:Int)) 3 0 0=(P++(thr S (onW (q:Int)) lv t a).1,(thr S (onW (q:Int)) lv t a).2)
 | 0,lv,hd,t,h=>by
   have:lv=3:=by omega
   subst this;rcases h with ⟨rfl,_,_⟩|⟨s,hs,ho,_,hl,_⟩
   ·exact⟨[],0,rfl⟩
   ·have:=(yi4 3 0 0 hz s hs).2.1
    omega
 | d+1,lv,hd,t,h=>by
   rcases h with ⟨_,h,_⟩|⟨s,hs,ho,rfl,hl,ha⟩
   ·omega
   ·obtain⟨i1,i2,i3,i4,i5⟩:=yi4 3 0 0 hz s hs
    rw[hl]at i3 i4
    have Sl:Tab S s.table (lv+1) (q/8^(lv+1+1))/\s.place=ix (q:Int) (lv+1):=by
     rw[ylG,yk8 q (lv+1),<-ha];rcases i5 with ⟨k1,k2,k3⟩|⟨s',k1,k2,k3,k4,k5⟩
     ·exact⟨.inl ⟨k1,by omega,by omega⟩,by omega⟩
     ·exact⟨.inr ⟨s',k1,k2,k3,by omega,by omega⟩,by omega⟩
    obtain⟨hT,dF⟩:=Sl;obtain⟨P,a,hw⟩:=yj2 hz hq d (lv+1) (by omega) s.table hT;rw[dF]at i3 i4;rw[yid S (q:Int) (lv+1) s.table a,iN (by simpa using i4),<-i3,iN (by simp[ho])]at hw;refine⟨P++[spt S s.table (ix (q:Int) (lv+1)) (lv+1) a],(a+ix (q:Int) (lv+1))*8,?_⟩;rw[hw];simp only[yC,yQ];rfl
theorem tab_run {S:Fs} (hz:(thr S zW 3 0 0).2=0) {q:Nat} (hq:q<4096) {lv:Nat} (hl:lv<=3) {t:Int} (h:Tab S t lv (q/8^(lv+1))) (k:Int) (u:Bool):KRun S q k u (3-lv) (Wk.at' q k u t lv 0):=by
 obtain⟨P,a,hw⟩:=yj2 hz hq (3-lv) lv (by omega) t h;exact .read t lv a P (by omega) hw
theorem tab_mark {S:Fs} (hz:(thr S zW 3 0 0).2=0) {q:Nat} (hq:q<4096) {lv:Nat} (hl:lv<=3) {t:Int} (h:Tab S t lv (q/8^(lv+1))) {k:Int} {u:Bool} {x:Int} (hx:x≠0) (hlf:(En.of x lv).l=I) (hm:may (En.of x lv).r k u=I) (hw:S.word t.toNat (ix (q:Int) lv)=x):KRun S q k u (4-lv) (Wk.at' q k u t lv x):=by
 obtain⟨P,a,kW⟩:=yj2 hz hq (3-lv) lv (by omega) t h;have hc:=(h.place hz (yiw (q:Int) lv)).2;obtain⟨e1,e2⟩:=yik (i:=ix (q:Int) lv) (lv:=lv) (yhU hc);rw[hw]at e2
 have Hu:(rEn S t (ix (q:Int) lv) lv).on=Z:=by rw[e2];simp[En.on,hlf]
 rw[yid S (q:Int) lv t a,iN (by simpa using hc),iP Hu]at kW;subst hw;exact .mark t lv a P (by omega) kW hc (by rw[e2];exact hlf) (by rw[e2];exact hm) hx
def Wk.On (S:Fs) (K:Wk):Prop:=Tab S K.t K.lv (K.q.toNat/8^(K.lv+1))
theorem Wk.On.again {S:Fs} {K:Wk} (ho:K.on=I) (hq:below K.q 4096=I):(K.again 0).On S:=by
 unfold Wk.again;rw[iP ho]
 show Tab S 0 3 (K.q.toNat/8^4)
 have hq:=zB.1 hq;have:K.q.toNat/8^4=0:=yE (by show K.q.toNat<4096;omega);rw[this];exact Tab.root S
theorem Wk.On.start {S:Fs} {q k:Int} {u:Bool} (hq:below q 4096=I):(Wk.start 0 q k u).On S:=by
 show Tab S 0 3 (q.toNat/8^4)
 have hq:=zB.1 hq;have:q.toNat/8^4=0:=yE (by show q.toNat<4096;omega);rw[this];exact Tab.root S
theorem kOut_off {S:Fs} {root:Int} {K:Wk} (h:K.on=Z):kOut S root K= .code 9:=by unfold kOut;rw[iP h]
theorem ylM {S:Fs} {L:List Mp} (h:Rep S L) {K:Wk} (hK:K.Ok) (ho:K.on=I) (Hu:K.On S):
 match kOut S 0 K with
  | .inl _=>False
  | .inr (.inl K')=>K'.on=I/\K'.On S/\K'.q=K.q/\K'.k=K.k/\K'.u=K.u
  | .inr (.inr (.inl r))=>KEnd S K.q K.k K.u ((Wo.stop r).res K) S
  | .inr (.inr (.inr (e,m)))=>KEnd S K.q K.k K.u ((Wo.done e m).res K) ((Wo.done e m).fs S K):=by
 obtain⟨on,q,k,u,t,lv,x⟩:=K;simp only at ho;subst ho;have hp:below q 4096=I:=hK.page rfl;have hq:=zB.1 hp;obtain⟨n,rfl⟩:=ud hq.1
 have hn:n<4096:=by omega
 have rQ:lv<=3:=by have:=hK.lv;simp only at this;omega
 have Hu:Tab S t lv (n/8^(lv+1)):=Hu;have rT:=(yiK h hn).1;have hz:=h.code;obtain⟨dF,hc⟩:=Hu.place hz (yiw (n:Int) lv);obtain⟨e1,e2⟩:=yik (i:=ix (n:Int) lv) (lv:=lv) (yhU hc)
 by_cases hx:x=0
 ·subst hx
  have hr:=tab_run hz hn rQ Hu k u;obtain⟨_,he⟩:=ymh h.ok hp hr
  show match kOut S 0 (Wk.at' n k u t lv 0)with
   | .inl _=>False
   | .inr (.inl K')=>K'.on=I/\K'.On S/\K'.q=n/\K'.k=k/\K'.u=u
   | .inr (.inr (.inl r))=>KEnd S n k u ((Wo.stop r).res (Wk.at' n k u t lv 0)) S
   | .inr (.inr (.inr (e,m)))=>KEnd S n k u ((Wo.done e m).res (Wk.at' n k u t lv 0)) ((Wo.done e m).fs S (Wk.at' n k u t lv 0))
  have hk:=yly S 0 n k u t lv;rcases rA:kOut S 0 (Wk.at' n k u t lv 0)with c|K'|r|⟨e,m⟩
  ·rw[rA]at he
   exact absurd (he.2.symm.trans rT) he.1
  ·rw[rA,iN (by simpa using hc)]at hk
   split at hk
   ·cases hk
   ·rename_i ht
    split at hk
    ·rename_i hl
     cases hk
     have pW:(rEn S t (ix (n:Int) lv) lv).on=I:=by
      have ht:(rEn S t (ix (n:Int) lv) lv).t=I:=by simpa using ht
      simp[En.on,ht,hl]
     obtain⟨b,rfl⟩:=yib pW;refine⟨rfl,.inr ⟨_,dF,pW,rfl,rfl,?_⟩,rfl,rfl,rfl⟩;rw[ylv];rfl
    ·split at hk
     ·cases hk
     ·split at hk
      ·cases hk
       exact⟨rfl,Hu,rfl,rfl,rfl⟩
      ·cases hk
  ·rw[rA]at he
   exact he
  ·rw[rA]at he
   exact he
 ·obtain⟨x0,x1,x2,x3,x4,x5⟩:=hK.leaf hx
  by_cases hw:S.word t.toNat (ix (n:Int) lv)=x
  ·have hr:=tab_mark hz hn rQ Hu hx x3 x4 hw
   obtain⟨_,he⟩:=ymh h.ok hp hr;have rA:=ylH (root:=0) (k:=k) (u:=u) hx (yhU hc) hw
   show match kOut S 0 (Wk.at' n k u t lv x)with
    | .inl _=>False
    | .inr (.inl K')=>K'.on=I/\K'.On S/\K'.q=n/\K'.k=k/\K'.u=u
    | .inr (.inr (.inl r))=>KEnd S n k u ((Wo.stop r).res (Wk.at' n k u t lv x)) S
    | .inr (.inr (.inr (e,m)))=>KEnd S n k u ((Wo.done e m).res (Wk.at' n k u t lv x)) ((Wo.done e m).fs S (Wk.at' n k u t lv x))
   rw[rA]at he ⊢;exact he
  ·have rA:kOut S 0 ⟨I,n,k,u,t,lv,x⟩= .go (Wk.again 0 ⟨I,n,k,u,t,lv,x⟩):=by
    unfold kOut;rw[iN (by simp),iN (by simp[yhU hc]),iP hx,iN (by exact hw)]
   rw[rA];refine⟨by simp[Wk.again],Wk.On.again rfl hp,by simp[Wk.again],by simp[Wk.again],by simp[Wk.again]⟩
end Pg
namespace Pg
def Stay (S S':Fs):Prop:=∀s,s ∈ (thr S zW 3 0 0).1->s.e.on=I->s ∈ (thr S' zW 3 0 0).1
theorem Stay.refl (S:Fs):Stay S S:=fun _ h _=>h
theorem Tab.stay {S S':Fs} {t:Int} {lv a:Nat} (h:Tab S t lv a) (hs:Stay S S'):Tab S' t lv a:=by
 rcases h with h|⟨s,h1,h2,h3⟩
 ·exact .inl h
 ·exact .inr ⟨s,hs s h1 h2,h2,h3⟩
def Leaf (S:Fs) (m:Mp) (d:Bool):Prop:=∃s,s ∈ (thr S zW 3 0 0).1/\s.e.l=I/\s.mp=m/\s.e.u=I/\(d=I->s.e.d=I)
theorem Leaf.mem {S:Fs} {L:List Mp} (h:Rep S L) {m:Mp} {d:Bool} (hl:Leaf S m d):m ∈ L:=by
 obtain⟨s,h1,h2,h3,_⟩:=hl;rw[<-h.maps];simp only[zM,kh];exact⟨s,h1,by rw[iP h2,h3];exact kO⟩
theorem Leaf.marked {S:Fs} {m:Mp} (h:Leaf S m I) {q:Int} (hq:m.has q=I):ykw S q:=by
 obtain⟨s,h1,h2,h3,h4,h5⟩:=h;exact⟨s,h1,h2,by rw[h3];exact hq,h4,h5 rfl⟩
theorem insert_stay {S:Fs} {L:List Mp} (h:Rep S L) (m:Mp):Stay S (insS S 0 m)/\∀x d,Leaf S x d->Leaf (insS S 0 m) x d:=by
 rcases ykh h m with ⟨_,_,e⟩|⟨_,_,_,e⟩
 ·rw[e]
  exact⟨Stay.refl S,fun _ _ h=>h⟩
 ·exact⟨fun s hs ho=>e s hs (.inr ho),fun x d ⟨s,h1,h2,h3⟩=>⟨s,e s h1 (.inl h2),h2,h3⟩⟩
theorem yjy {S:Fs} {p:Int} (h:tFC S 0 p=0):∃q:Nat,p=(q:Int)/\q<4096:=by
 have hp:below p 4096=I:=by
  cases hp:below p 4096
  ·have:xQ S 0 p=1:=by simp[xQ,hp]
   rw[tFC,this,iP (by decide)]at h;cases h
  ·rfl
 obtain⟨p0,p1⟩:=zB.1 hp;obtain⟨x,rfl⟩:=ud p0;exact⟨x,rfl,by omega⟩
theorem yjj {S:Fs} {L:List Mp} {q lv:Nat} {e:En} {tl:Int} {A B:List Sp} (hz:xQ S 0 (q:Int)=0) (F:Found S L q lv e tl A B) (hc:tFC S 0 (q:Int)=0):e.t=I:=by
 rw[tFC,hz,iN (by decide),F.way.yhO]at hc;cases he:e.t
 ·rw[he,iN (by decide)]at hc;omega
 ·rfl
structure Turned (S S':Fs) (m m':Mp) (e:En) (r:Int) (u d:Bool) (A B:List Sp) (s s':Sp):Prop where
 old:thr S zW 3 0 0=(A++[s]++B,0)
 new:thr S' zW 3 0 0=(A++[s']++B,0)
 en:s.e=e
 leaf:e.l=I
 mp:s.mp=m
 mp':s'.mp=m'
 en':s'.e=⟨I,I,r,u,d,e.f⟩
theorem Turned.stay {S S':Fs} {m m':Mp} {e:En} {r:Int} {u d:Bool} {A B:List Sp} {s s':Sp} (T:Turned S S' m m' e r u d A B s s'):Stay S S':=by
 intro x hx ho;rw[T.old]at hx;rw[T.new];rcases E.1 hx with hx|hx
 ·rcases E.1 hx with hx|hx
  ·exact O _ (O _ hx)
  ·have:x=s:=by simpa using hx
   subst this;rw[T.en]at ho;simp[En.on,T.leaf]at ho
 ·exact H _ hx
theorem Turned.leaf_ne {S S':Fs} {m m':Mp} {e:En} {r:Int} {u d:Bool} {A B:List Sp} {s s':Sp} (T:Turned S S' m m' e r u d A B s s') {x:Mp} {b:Bool} (hx:Leaf S x b) (Ho:x≠m):Leaf S' x b:=by
 obtain⟨y,h1,h2,h3,h4⟩:=hx;refine⟨y,?_,h2,h3,h4⟩;rw[T.old]at h1;rw[T.new];rcases E.1 h1 with h1|h1
 ·rcases E.1 h1 with h1|h1
  ·exact O _ (O _ h1)
  ·have:y=s:=by simpa using h1
   subst this;exact absurd (h3.symm.trans T.mp) Ho
 ·exact H _ h1
theorem Turned.yjS {S S':Fs} {m:Mp} {e:En} {r:Int} {u d:Bool} {A B:List Sp} {s s':Sp} (T:Turned S S' m m e r u d A B s s') (hu:e.u=I->u=I) (hd:e.d=I->d=I) {x:Mp} {b:Bool} (hx:Leaf S x b):Leaf S' x b:=by
 obtain⟨y,h1,h2,h3,h4,h5⟩:=hx;rw[T.old]at h1;unfold Leaf;rw[T.new];rcases E.1 h1 with h1|h1
 ·rcases E.1 h1 with h1|h1
  ·exact⟨y,O _ (O _ h1),h2,h3,h4,h5⟩
  ·have:y=s:=by simpa using h1
   subst this;rw[T.en]at h4 h5;refine⟨s',O _ (H _ kO),by rw[T.en'],by rw[T.mp',<-h3,T.mp],by rw[T.en'];exact hu h4,fun hb=>by rw[T.en'];exact hd (h5 hb)⟩
 ·exact⟨y,H _ h1,h2,h3,h4,h5⟩
theorem Turned.leaf_new {S S':Fs} {m m':Mp} {e:En} {r:Int} {d:Bool} {A B:List Sp} {s s':Sp} (T:Turned S S' m m' e r I d A B s s'):Leaf S' m' d:=by
 unfold Leaf;rw[T.new];exact⟨s',O _ (H _ kO),by rw[T.en'],T.mp',by rw[T.en'],fun hb=>by rw[T.en'];exact hb⟩
theorem yjB {S:Fs} {L:List Mp} (h:Rep S L) {q:Nat} (hq:q<4096) (hc:tFC S 0 (q:Int)=0) {r:Int} (hr:0<=r/\r<=7) (u d:Bool):
 ∃A B s s',Turned S (S.store (lastT (zg S 0 (q:Int))) (index q (yhQ (zg S 0 (q:Int)))) (enc (tFE S 0 (q:Int)).t (tFE S 0 (q:Int)).l r u d (tFE S 0 (q:Int)).f (yhQ (zg S 0 (q:Int))))) (tFM S 0 (q:Int)) ((tFM S 0 (q:Int)).rts r) (tFE S 0 (q:Int)) r u d A B s s'/\
  Tab S (lastT (zg S 0 (q:Int))) (yhQ (zg S 0 (q:Int))).toNat (q/8^((yhQ (zg S 0 (q:Int))).toNat+1))/\
  (0<=(tFE S 0 (q:Int)).r/\(tFE S 0 (q:Int)).r<=7/\(tFM S 0 (q:Int)).rts (tFE S 0 (q:Int)).r=tFM S 0 (q:Int))/\
  ((tFM S 0 (q:Int)).rts r=tFM S 0 (q:Int)->Rep (S.store (lastT (zg S 0 (q:Int))) (index q (yhQ (zg S 0 (q:Int)))) (enc (tFE S 0 (q:Int)).t (tFE S 0 (q:Int)).l r u d (tFE S 0 (q:Int)).f (yhQ (zg S 0 (q:Int))))) L):=by
 obtain⟨hz,lv,e,tl,A,B,F⟩:=yiK h hq;have ht:=yjj hz F hc;obtain⟨hl,h2,oz,pF⟩:=yis h.ok hq F ht
 have eE:tFE S 0 (q:Int)=e:=by rw[tFE,iP hc,F.way.yhO]
 have eM:tFM S 0 (q:Int)=e.map lv (q:Int):=by rw[tFM,iP hc,F.way.yhO,F.way.yhQ]
 rw[eE,eM,F.way.lastT,F.way.yhQ,yiF hq (by omega),ht,hl];obtain⟨g1,g2,g3⟩:=ylp h hq F ht hr u d;have rF:=F.spot.all;simp only at rF;rw[F.one]at rF;have dF:=F.spot.le;simp only at dF;have gI:=yj1 h.ok hq dF F.way.en hl
 have Rn:e.fault lv=0:=by rw[F.way.en];exact yih h.ok F.way.code
 have BC:0<=e.r/\e.r<=7:=by
  obtain⟨_,hx⟩:=yh0 (show yhN e.t e.l e.r e.u e.d e.f (lv:Int)=0 from Rn);rcases hx with ⟨hx,_⟩|⟨_,r0,r1,_⟩
  ·rw[ht]at hx;cases hx
  ·exact⟨r0,r1⟩
 refine⟨A,B,_,_,⟨?_,g2,rfl,hl,gI,g3,rfl⟩,?_,⟨BC.1,BC.2,by rw[oz];rfl⟩,fun uE=> ?_⟩
 ·exact Prod.ext rF h.code
 ·rw[yF]
  have hs:(⟨tl,ix (q:Int) lv,lv,q/8^lv,e⟩:Sp) ∈ (thr S zW 3 0 0).1:=by
   rw[rF];exact O _ (H _ kO)
  obtain⟨i1,i2,i3,i4,i5⟩:=yi4 3 0 0 h.code _ hs;simp only at i1 i2 i5;rw[yk8];rcases i5 with ⟨k1,k2,k3⟩|⟨s',k1,k2,k3,k4,k5⟩
  ·exact .inl ⟨k1,k2,by omega⟩
  ·exact .inr ⟨s',k1,k2,k3,k4,by omega⟩
 ·have hL:=F.list
  rw[iP ht]at hL
  have KJ:L.getD (zM A).length .zz=e.map lv (q:Int):=by
   rw[hL,yC];simp[List.getD]
  have mi:L.set (zM A).length (e.map lv (q:Int))=L:=by
   rw[hL,yC];simp
  rw[KJ,uE,mi]at g1;exact g1
theorem yjn {S:Fs} {L:List Mp} (h:Rep S L) {p:Int} (hc:tFC S 0 p=0):∃A B z T,Removed S L (tFM S 0 p) (rmR S 0 p) A B z T:=by
 obtain⟨q,rfl,hq⟩:=yjy hc;have hp:below (q:Int) 4096=I:=zB.2 ⟨by omega,by omega⟩;obtain⟨hz,lv,e,tl,A,B,F⟩:=yiK h (q:=q) hq;have ht:=yjj hz F hc;obtain⟨hl,Ub,oz,pF⟩:=yis h.ok hq F ht;have Hg:=F.way.len
 have e1:(zg S 0 (q:Int)).length=(zg S 0 (q:Int)).length-1+1:=by omega
 have gz:(tabs (zg S 0 (q:Int))).drop ((zg S 0 (q:Int)).length-1+1)=[]:=by
  rw[<-e1];exact List.drop_eq_nil_of_le (by rw[xA];omega)
 have hR:rmR S 0 (q:Int)=rmW (q:Int) (tabs (zg S 0 (q:Int))) ((zg S 0 (q:Int)).length-1+1) S []:=by
  rw[rmR,iP hc,<-e1]
 have eM:tFM S 0 (q:Int)=e.map lv (q:Int):=by rw[tFM,iP hc,F.way.yhO,F.way.yhQ]
 rw[hR,eM];refine ymi h hq hz (e.map lv (q:Int)) ((zg S 0 (q:Int)).length-1) (by omega) S [] (ylU h.ok q _ _) (fun s hs=> ?_) (by rw[gz];rfl);rw[gz]
 have hgl:(zg S 0 (q:Int)).getLast?=U s:=by rw[List.getLast?_eq_getElem?];exact hs
 have lw:(s.level:Int)=lv:=by
  have:=F.way.yhQ;unfold Go.Proofs.YtdphiompijbelaaGreat.yhQ at this;rw[hgl]at this;exact this
 have sM:s.table=tl:=by
  have:=F.way.lastT;unfold Go.Proofs.YtdphiompijbelaaGreat.lastT at this;rw[hgl]at this;exact this
 have lw:s.level=lv:=by omega
 have Ce:(thr S (onW (q:Int)) 3 0 0).2=0:=by
  unfold xQ at hz;rw[iP hp]at hz;exact hz
 have eX:zg S 0 (q:Int)=(thr S (onW (q:Int)) 3 0 0).1:=by unfold zg;rw[iP ⟨hp,Ce⟩]
 rw[eX]at hgl
 have Mx:q/8^3<8:=by
  rw[show(8:Nat)^3=512 by decide];omega
 obtain⟨A1,B1,sp⟩:=ylz h.ok q 3 (by omega) 0 0 (by omega) (by decide) (by omega) (by omega) h.code h.nodup s (List.mem_of_getLast? hgl);rw[sp.ahead,sp.place,sM,lw,F.one];have gI:=yj1 h.ok hq (ykV q lv).1 F.way.en hl;have Hu:=F.way.on;refine⟨?_,?_⟩
 ·rw[<-gI]
  simp[zM,hl]
 ·simp[zU,Hu]
theorem yjM {S:Fs} {t i x:Int} (h:yhS S x=I):yhS (S.store t i 0) x=I:=by
 unfold yhS at h ⊢;rw[yD]at h ⊢;intro j hj;have:=h j hj;unfold Fs.store;split
 ·simp only[Fs.put]
  split
  ·rfl
  ·exact this
 ·exact this
theorem ykJ (p:Int) (ts:List Int):∀(k:Nat) (S:Fs) (G:List Int),(∀y,y ∈ G->yhS S y=I)->∀y,y ∈ (rmW p ts k S G).2->yhS (rmW p ts k S G).1 y=I
 | 0,S,G,h=>h
 | k+1,S,G,h=>by
   rw[rmW];split
   ·exact fun y hy=>yjM (h y hy)
   ·rename_i hn
    refine ykJ p ts k _ _ fun y hy=> ?_;rcases E.1 hy with hy|hy
    ·exact yjM (h y hy)
    ·have:y=ts.getD k 0:=by simpa using hy
     subst this;cases he:yhS (S.store (ts.getD k 0) (index p (3-(k:Int))) 0) (ts.getD k 0)
     ·exact absurd (.inr he) hn
     ·rfl
theorem rm_empty (S:Fs) (p:Int):∀y,y ∈ (rmR S 0 p).2->yhS (rmR S 0 p).1 y=I:=by
 unfold rmR;split
 ·exact ykJ p _ _ _ _ fun y hy=>by simp at hy
 ·intro y hy
  simp at hy
theorem remove_stay {S:Fs} {L:List Mp} (h:Rep S L) {p:Int} (hc:tFC S 0 p=0):
 (∀t lv a,Tab S t lv a->Tab (gives (rmR S 0 p).2 (rmR S 0 p).1) t lv a\/t ∈ (rmR S 0 p).2)/\(∀x d,Leaf S x d->x≠tFM S 0 p->Leaf (gives (rmR S 0 p).2 (rmR S 0 p).1) x d):=by
 obtain⟨A,B,z,T,r⟩:=yjn h hc;obtain⟨_,_,_,_,pV⟩:=yjZ h r;obtain⟨M,hM,aP⟩:=r.all
 have hT:zU M=T:=by
  have:=r.tabs;rw[hM,yhK,yhK]at this;exact List.append_cancel_left (List.append_cancel_right this)
 refine⟨fun t lv a ht=> ?_,fun x d ⟨s,h1,h2,h3⟩ Ho=>⟨s,?_,h2,h3⟩⟩
 ·rcases ht with ht|⟨s,hs,ho,rfl,h4⟩
  ·exact .inl (.inl ht)
  ·rw[hM]at hs
   rcases E.1 hs with hs|hs
   ·rcases E.1 hs with hs|hs
    ·exact .inl (.inr ⟨s,by rw[pV];exact O _ (O _ hs),ho,rfl,h4⟩)
    ·refine .inr ?_
     rw[r.gone,List.mem_reverse,<-hT];simp only[zU,kh];exact⟨s,hs,by rw[iP ho];exact kO⟩
   ·exact .inl (.inr ⟨s,by rw[pV];exact H _ hs,ho,rfl,h4⟩)
 ·rw[hM]at h1
  rw[pV];rcases E.1 h1 with h1|h1
  ·rcases E.1 h1 with h1|h1
   ·exact O _ (O _ h1)
   ·have:s.mp ∈ zM M:=by
     simp only[zM,kh];exact⟨s,h1,by rw[iP h2];exact kO⟩
    rw[aP,List.mem_singleton,h3.1]at this;exact absurd this Ho
  ·exact H _ h1
theorem ylC {S:Fs} {L:List Mp} (h:Rep S L) {q k:Int} {u:Bool} (hq:below q 4096=I) {R:Rs} {S':Fs} (he:KEnd S q k u R S'):R.a=ansE L q k u/\R.f=ansF L q k u/\R.r=ansR L q k u:=by
 obtain⟨c1,c2⟩:=yi3 h q;rcases he with ⟨h1,h2,h3,h4,_⟩|⟨h1,h2,h3,h4,_⟩
 ·rw[c1,yij,iP hq]at h1
  have hn:fnd L q=J:=by
   cases hf:fnd L q with
   | none=>rfl
   | some j=>rw[hf,iN (by simp)]at h1;omega
  rw[ansE,ansF,ansR,hn];exact⟨h2,h3,h4⟩
 ·rw[c2]at h2 h3 h4
  rw[c1]at h1
  have hm:yjp L q=at' L q:=by rw[yjp,iP h1]
  rw[yij,iP hq]at h1;rw[hm]at h2 h3 h4;unfold at' at h2 h3 h4
  cases hf:fnd L q with
  | none=>rw[hf,iP rfl]at h1;omega
  | some j=>
    rw[hf]at h2 h3 h4;rw[ansE,ansF,ansR,hf];exact⟨h2,h3,h4⟩
theorem good_ans {L:List Mp} (h:Good L) {m:Mp} (hm:m ∈ L) {q:Int} (hq:m.has q=I) (k:Int) (u:Bool):ansE L q k u=aEnd m.r k u/\ansF L q k u=yie m.p m.f m.r q k u/\ansR L q k u=yh1 m.r k u:=by
 obtain⟨A,B,rfl⟩:=List.append_of_mem hm
 have e:A++m::B=A++[m]++B:=by simp
 have hf:=ylD (e▸h) hq;rw[<-e]at hf
 have hg:(A++m::B).getD A.length .zz=m:=by simp[List.getD]
 rw[ansE,ansF,ansR,hf];simp only[hg];exact⟨trivial,trivial,trivial⟩
theorem on_line {S:Fs} {L:List Mp} (h:Rep S L) {K:Wk} (hK:K.Ok) (ho:K.on=I) (Hu:K.On S) {e:En} {m:Bool} (hd:kOut S 0 K= .done e m):
 tFC S 0 K.q=0/\e.map K.lv K.q=tFM S 0 K.q/\e.d=((tFE S 0 K.q).d||K.k==1):=by
 obtain⟨on,q,k,u,t,lv,x⟩:=K;simp only at ho;subst ho;have hp:below q 4096=I:=hK.page rfl;have hq:=zB.1 hp;obtain⟨n,rfl⟩:=ud hq.1
 have hn:n<4096:=by omega
 have rQ:lv<=3:=by have:=hK.lv;simp only at this;omega
 have Hu:Tab S t lv (n/8^(lv+1)):=Hu;have hz:=h.code;obtain⟨dF,hc⟩:=Hu.place hz (yiw (n:Int) lv);obtain⟨e1,e2⟩:=yik (i:=ix (n:Int) lv) (lv:=lv) (yhU hc);obtain⟨P,a,hw⟩:=yj2 hz hn (3-lv) lv (by omega) t Hu;rw[yid S (n:Int) lv t a,iN (by simpa using hc)]at hw
 have fin:(rEn S t (ix (n:Int) lv) lv).l=I->tFC S 0 (n:Int)=0/\tFM S 0 (n:Int)=(rEn S t (ix (n:Int) lv) lv).map lv (n:Int)/\tFE S 0 (n:Int)=rEn S t (ix (n:Int) lv) lv:=fun hl=>by
  rw[iP (by simp[En.on,hl])]at hw;obtain⟨c1,c2,c3,c4⟩:=yla hp hw;have ht:=(yh6 h.ok hl).2.1
  have z0:tFC S 0 (n:Int)=0:=by
   unfold tFC;rw[c1,c4,iN (by simp),iP ht]
  refine⟨z0,?_,?_⟩
  ·unfold tFM
   rw[iP z0,c3,c4]
  ·unfold tFE
   rw[iP z0,c4]
 by_cases hx:x=0
 ·subst hx
  have hk:=yly S 0 n k u t lv;have hd:kOut S 0 (Wk.at' n k u t lv 0)= .done e m:=hd;rw[hd,iN (by simpa using hc)]at hk;split at hk
  ·cases hk
  ·split at hk
   ·cases hk
   ·rename_i hl
    have hl:(rEn S t (ix (n:Int) lv) lv).l=I:=by simpa using hl
    split at hk
    ·cases hk
    ·split at hk
     ·cases hk
     ·rename_i hr
      cases hk;obtain⟨f1,f2,f3⟩:=fin hl;refine⟨f1,f2.symm,?_⟩
      show(rEn S t (ix (n:Int) lv) lv).d=((tFE S 0 (n:Int)).d||k==1)
      rw[f3]
      have hr:(Wk.at' n k u t lv 0).ready (rEn S t (ix (n:Int) lv) lv)=I:=by simpa using hr
      unfold Wk.ready at hr;simp only[Wk.at',yB,Bool.or_eq_true]at hr;rcases hr.2 with hr|hr
      ·rw[hr];rfl
      ·have:(k==1)=Z:=by simpa using hr
       rw[this,Bool.or_false]
 ·obtain⟨x0,x1,x2,x3,x4,x5⟩:=hK.leaf hx
  by_cases hw:S.word t.toNat (ix (n:Int) lv)=x
  ·have rA:=ylH (root:=0) (k:=k) (u:=u) hx (yhU hc) hw
   have hd:kOut S 0 (Wk.at' n k u t lv x)= .done e m:=hd;rw[hd]at rA;cases rA;rw[hw]at e2;obtain⟨f1,f2,f3⟩:=fin (by rw[e2];exact x3);refine⟨f1,?_,?_⟩
   ·show((Wk.mark _ _).map (lv:Int) (n:Int))=_
    rw[<-e2,f2];exact(yjU (by rw[e2];exact x3) (yih h.ok hc)).2 _
   ·show((En.of x lv).d||k==1)=_
    rw[f3,e2]
  ·have rA:kOut S 0 ⟨I,n,k,u,t,lv,x⟩= .go (Wk.again 0 ⟨I,n,k,u,t,lv,x⟩):=by
    unfold kOut;rw[iN (by simp),iN (by simp[yhU hc]),iP hx,iN (by exact hw)]
   rw[rA]at hd;cases hd
end Pg
namespace Pg
structure Sx where
 kind:Int
 core:Int
 m:Mp
 q:Int
 k:Int
 u:Bool
structure Ev where
 c:Int
 ended:Bool
 a:Int
 f:Int
 r:Int
 back:Bool
def Ev.code (c:Int):Ev:=⟨c,Z,0,0,0,Z⟩
def Tl.ev (T:Tl):Ev:=⟨T.c,T.ended,T.a,T.f,T.r,Z⟩
structure Spc where
 S:Fs
 C:List Cr
 G:List Int
 T:Mp
 W:List Bool
namespace Spc
def busy (X:Spc):Bool:=X.W.any id
def new (cores n:Nat):Spc:=⟨(Fs.new n).take,yG cores Cr.new,[],.zz,yG cores Z⟩
def post (X:Spc) (S:Fs) (T:Mp) (G:List Int):Spc:=⟨S,X.C,G,T,X.W.map fun _=>I⟩
def at' (X:Spc) (k:Int):Cr:=X.C.getD k.toNat Cr.new
def chE (X:Spc) (x:Sx):Ev:=
 if X.busy=I then .code 8
 else if x.kind=1 then⟨insC X.S 0 x.m,Z,0,0,0,decide (insC X.S 0 x.m=0)⟩
 else if x.kind=2 then .code (tFC X.S 0 x.m.p)
 else .code (prC X.S 0 x.m.p x.m.r)
def chN (X:Spc) (x:Sx):Spc:=
 if X.busy=I then X
 else if x.kind=1 then{X with S:=insS X.S 0 x.m}
 else if x.kind=2 then(if tFC X.S 0 x.m.p=0 then X.post (rmR X.S 0 x.m.p).1 (tFM X.S 0 x.m.p) (rmR X.S 0 x.m.p).2 else X)
 else if prC X.S 0 x.m.p x.m.r=0 then X.post (prS X.S 0 x.m.p x.m.r) (prM X.S 0 x.m.p x.m.r) []else X
def akE (X:Spc) (k:Int):Ev:=
 if X.W.getD k.toNat Z=Z then .code 9
 else if (X.W.set k.toNat Z).any id=I then .code 0 else⟨0,Z,0,0,0,I⟩
def akN (X:Spc) (k:Int):Spc:=
 if X.W.getD k.toNat Z=Z then X
 else if (X.W.set k.toNat Z).any id=I then⟨X.S,X.C.set k.toNat ((X.at' k).told 0 X.T),X.G,X.T,X.W.set k.toNat Z⟩
 else⟨gives X.G X.S,X.C.set k.toNat ((X.at' k).told 0 X.T),[],X.T,X.W.set k.toNat Z⟩
def goE (X:Spc) (x:Sx):Ev:=
 if 1<=x.kind/\x.kind<=3 then X.chE x
 else if x.kind<1\/7<x.kind then .code 2
 else if x.core<0\/(X.C.length:Int)<=x.core then .code 1
 else if x.kind=4 then((X.at' x.core).bgT x.q x.k x.u).ev
 else if x.kind=5 then((X.at' x.core).stT X.S 0).ev
 else if x.kind=6 then X.akE x.core
 else if (X.at' x.core).L=[]then .code 9 else .code 0
def goN (X:Spc) (x:Sx):Spc:=
 if 1<=x.kind/\x.kind<=3 then X.chN x
 else if x.kind<1\/7<x.kind then X
 else if x.core<0\/(X.C.length:Int)<=x.core then X
 else if x.kind=4 then{X with C:=X.C.set x.core.toNat ((X.at' x.core).bgN 0 x.q x.k x.u)}
 else if x.kind=5 then{X with S:=(X.at' x.core).stS X.S 0,C:=X.C.set x.core.toNat ((X.at' x.core).stN X.S 0)}
 else if x.kind=6 then X.akN x.core
 else{X with C:=X.C.set x.core.toNat (X.at' x.core).yiy}
end Spc
structure Bas (S:Fs) (G:List Int) (L:List Mp):Prop where
 ok:S.Ok
 rep:Rep (gives G S) L
 nd:G.Nodup
 hs:∀y,y ∈ G->S.has y=I
 em:∀y,y ∈ G->yhS S y=I
section
variable {S:Fs} {G:List Int} {L:List Mp}
theorem Bas.word (h:Bas S G L):(gives G S).word=S.word:=(yiC G S h.ok h.nd h.hs).2.1
theorem Bas.yiS (h:Bas S G L) (x:Int):(gives G S).has x=I ↔ S.has x=I/\x ∉ G:=by
 have hu:=(yiC G S h.ok h.nd h.hs).2.2.2.1;simp only[Fs.has,Fs.inn,yB,decide_eq_true_eq,hu];constructor
 ·rintro ⟨h1,h2,h3⟩
  exact⟨⟨h1,h2⟩,fun hx=>h3 (by rw[yR h1];exact hx)⟩
 ·rintro ⟨⟨h1,h2⟩,h3⟩
  exact⟨h1,h2,fun hx=>h3 (by rw[yR h1]at hx;exact hx)⟩
theorem Bas.agree (h:Bas S G L) {x:Int} (hx:(gives G S).has x=I):Agree (gives G S) S x:=
 ⟨by rw[hx,((h.yiS x).1 hx).1],fun i _=>by rw[h.word]⟩
theorem Bas.thr (h:Bas S G L):thr S zW 3 0 0=thr (gives G S) zW 3 0 0:=
 yj3 3 0 0 h.rep.code fun x hx=>h.agree (yje 3 0 0 h.rep.code x hx)
theorem Bas.yln (h:Rep S L):Bas S [] L:=⟨h.ok,h,List.nodup_nil,fun y hy=>by simp at hy,fun y hy=>by simp at hy⟩
theorem Bas.over (h:Bas S G L):Bas (gives G S) [] L:= .yln h.rep
end
theorem give_store {S:Fs} {x t:Int} (Ho:t≠x) (ht:S.has t=I) (i v:Int):(S.store t i v).give x=(S.give x).store t i v/\(S.give x).has t=I:=by
 have hh:(S.give x).has t=I:=by
  unfold Fs.give;split
  ·rename_i hx
   simp only[Fs.has,Fs.inn,yB,decide_eq_true_eq]at ht hx ⊢;refine⟨ht.1,(List.mem_erase_of_ne ?_).2 ht.2⟩;omega
  ·exact ht
 refine⟨?_,hh⟩;unfold Fs.store Fs.at';rw[hh,ht]
 by_cases hi:(decide (0<=i)&&decide (i<8))=I
 ·rw[iP (by rw[hi];rfl),iP (by rw[hi];rfl)]
  unfold Fs.give;have:({S with word:=Fs.put S.word t.toNat i.toNat v}:Fs).has x=S.has x:=rfl;rw[this]
  split<;>rfl
 ·rw[iN (by simpa using hi),iN (by simpa using hi)]
theorem yjO:∀(G:List Int) {S:Fs} {t:Int},t ∉ G->S.has t=I->∀i v,gives G (S.store t i v)=(gives G S).store t i v
 | [],S,t,_,_,i,v=>rfl
 | x::r,S,t,hG,ht,i,v=>by
   have Ho:t≠x:=fun e=>hG (e▸kO);obtain⟨h1,h2⟩:=give_store (S:=S) Ho ht i v
   show gives r ((S.store t i v).give x)=(gives r (S.give x)).store t i v
   rw[h1];exact yjO r (fun h=>hG (yJ _ h)) h2 i v
theorem store_empty {S:Fs} {t x:Int} (Ho:t.toNat≠x.toNat) (i v:Int):yhS (S.store t i v) x=yhS S x:=by
 unfold yhS;have:∀j,(S.store t i v).word x.toNat j=S.word x.toNat j:=fun j=>kst_word x.toNat j (fun e=>Ho e.symm);simp only[this]
structure Kor (S:Fs) (G:List Int) (L L0:List Mp) (T:Mp) (wt:Bool) (C:Cr):Prop where
 ok:C.Ok
 lines:∀l,l ∈ C.L->Leaf S l.m l.d\/(wt=I/\l.m ∈ L0/\l.m.meets T=I)
 walk:C.K.on=I->C.K.On S\/(wt=I/\C.K.t ∈ G/\fnd L C.K.q=J)
theorem Kor.mono {S S':Fs} {G:List Int} {L L0:List Mp} {T:Mp} {wt:Bool} {C:Cr} (h:Kor S G L L0 T wt C) (hs:Stay S S') (hl:∀x d,Leaf S x d->Leaf S' x d):Kor S' G L L0 T wt C:=
 ⟨h.ok,fun l hc=>(h.lines l hc).imp (hl _ _) id,fun ho=>(h.walk ho).imp (fun h=>h.stay hs) id⟩
theorem Kor.free {S:Fs} {G G':List Int} {L L0 L' L0':List Mp} {T T':Mp} {wt:Bool} {C:Cr} (h:Kor S G L L0 T Z C):Kor S G' L' L0' T' wt C:=
 ⟨h.ok,fun l hc=>(h.lines l hc).imp id (fun h=>by simp at h),fun ho=>(h.walk ho).imp id (fun h=>by simp at h)⟩
theorem kOut_same {S S':Fs} {K:Wk} {root:Int} (h1:S'.has K.t=S.has K.t) (h2:S'.word=S.word):kOut S' root K=kOut S root K:=by
 unfold kOut Wk.word;rw[h1,h2]
theorem yjK {L:List Ln} {R:Rs} {l:Ln} (h:l ∈ rPut L R):l ∈ L\/(R.ended=I/\R.a=0/\l=⟨R.m,R.d⟩):=by
 unfold rPut at h;split at h
 ·rename_i hc
  simp only[yB,beq_iff_eq]at hc;unfold kPut at h;split at h
  ·rcases E.1 h with h|h
   ·exact .inl (yL.1 ((yjQ _).subset h)).1
   ·exact .inr ⟨hc.1,hc.2,by simpa using h⟩
  ·exact .inl h
 ·exact .inl h
structure Stepped (S:Fs) (G:List Int) (L L0:List Mp) (T:Mp) (wt:Bool) (C:Cr):Prop where
 bas:Bas (C.stS S 0) G L
 stay:Stay (gives G S) (gives G (C.stS S 0))
 leafs:∀x d,Leaf (gives G S) x d->Leaf (gives G (C.stS S 0)) x d
 kor:Kor (gives G (C.stS S 0)) G L L0 T wt (C.stN S 0)
 code:(C.stT S 0).c=0
 ans:(C.stT S 0).ended=I->(C.stT S 0).a=ansE L C.K.q C.K.k C.K.u/\(C.stT S 0).f=ansF L C.K.q C.K.k C.K.u/\(C.stT S 0).r=ansR L C.K.q C.K.k C.K.u
 done:(C.stT S 0).ended=I->(C.stT S 0).a=0->∃m,m.has C.K.q=I/\Leaf (gives G (C.stS S 0)) m (C.K.k==1)
 marks:∀q,ykw (gives G S) q->ykw (gives G (C.stS S 0)) q
 n:(C.stS S 0).n=S.n
theorem leaf_marks {S S':Fs} {m:Mp} {e:En} {r:Int} {u d:Bool} {A B:List Sp} {s s':Sp} (T:Turned S S' m m e r u d A B s s') (hu:e.u=I->u=I) (hd:e.d=I->d=I) {q:Int} (h:ykw S q):ykw S' q:=by
 obtain⟨y,h1,h2,h3,h4,h5⟩:=h;exact(T.yjS hu hd (x:=y.mp) (b:=I) ⟨y,h1,h2,rfl,h4,fun _=>h5⟩).marked h3
theorem yit {S:Fs} {G:List Int} {L L0:List Mp} {T:Mp} {wt:Bool} {C:Cr} (h:Bas S G L) (hS:C.stS S 0=S) (hk:Kor (gives G S) G L L0 T wt (C.stN S 0)) (hc:(C.stT S 0).c=0)
 (ha:(C.stT S 0).ended=I->((C.stT S 0).a=ansE L C.K.q C.K.k C.K.u/\(C.stT S 0).f=ansF L C.K.q C.K.k C.K.u/\(C.stT S 0).r=ansR L C.K.q C.K.k C.K.u)/\(C.stT S 0).a≠0):Stepped S G L L0 T wt C:=by
 refine⟨?_,?_,?_,?_,hc,fun he=>(ha he).1,fun he h0=>absurd h0 (ha he).2,?_,?_⟩<;>rw[hS]
 ·exact h
 ·exact Stay.refl _
 ·exact fun _ _ h=>h
 ·exact hk
 ·exact fun _ h=>h
theorem bas_walk {S:Fs} {G:List Int} {L L0:List Mp} {T:Mp} {wt:Bool} {C:Cr} (h:Bas S G L) (hC:Kor (gives G S) G L L0 T wt C) (ho:C.K.on=I):Stepped S G L L0 T wt C:=by
 have hp:below C.K.q 4096=I:=hC.ok.walk.page ho;have d9:(C.stN S 0).Ok:=hC.ok.step h.ok 0;rcases hC.walk ho with Hu|⟨hw,hg,hf⟩
 ·--on its way
  have pF:(gives G S).has C.K.t=I:=Tab.has Hu h.rep.code;obtain⟨Dk,I5⟩:=(h.yiS _).1 pF;have hk:kOut S 0 C.K=kOut (gives G S) 0 C.K:=(kOut_same (by rw[Dk,pF]) h.word).symm;have hs:=ylM h.rep hC.ok.walk ho Hu;rcases rA:kOut (gives G S) 0 C.K with c|K'|r|⟨e,m⟩
  ·rw[rA]at hs
   exact hs.elim
  ·rw[rA]at hs hk
   refine yit h (by unfold Cr.stS;rw[hk];rfl) ⟨d9,fun l hl=>hC.lines l ?_,fun _=> .inl ?_⟩ (by unfold Cr.stT;rw[hk];rfl) (fun he=>by unfold Cr.stT at he;rw[hk]at he;cases he)
   ·unfold Cr.stN at hl
    rw[hk]at hl;exact hl
   ·unfold Cr.stN
    rw[hk];exact hs.2.1
  ·have hr:=kStop rA
   rw[rA]at hs hk;have ha:=ylC h.rep hp hs;refine yit h (by unfold Cr.stS;rw[hk];rfl) ⟨d9,fun l hl=>hC.lines l ?_,fun h0=> ?_⟩ (by unfold Cr.stT;rw[hk];rfl) (fun _=> ?_)
   ·unfold Cr.stN at hl
    rw[hk]at hl;rcases yjK hl with hl|⟨_,h0,_⟩
    ·exact hl
    ·exact absurd h0 hr
   ·unfold Cr.stN at h0
    rw[hk]at h0;cases h0
   ·unfold Cr.stT
    rw[hk];exact⟨ha,hr⟩
  ·obtain⟨f1,f2,f3⟩:=on_line h.rep hC.ok.walk ho Hu rA
   rw[rA]at hs hk;have ha:=ylC h.rep hp hs;obtain⟨q,Dr,hq⟩:=yjy f1;have Dh:∃x,kOut (gives G S) 0 C.K=x:=⟨_,rfl⟩
   have Iu:(C.stT S 0).a=((Wo.done e m).res C.K).a:=by unfold Cr.stT;rw[hk];rfl
   have bH:(e.map C.K.lv C.K.q).code=0/\(e.map C.K.lv C.K.q).has C.K.q=I:=by
    rw[f2,Dr];obtain⟨hz,lv,e',tl,A,B,F⟩:=yiK h.rep hq;rw[Dr]at f1;have ht:=yjj hz F f1;obtain⟨hl,_,_,pF⟩:=yis h.rep.ok hq F ht;rw[tFM,iP f1,F.way.yhO,F.way.yhQ];exact⟨(yil h.rep).ok _ (by rw[F.list,iP ht];simp),pF⟩
   rcases hs with ⟨g1,_⟩|⟨_,_,_,_,g5,g6⟩
   ·rw[f1]at g1
    cases g1
   by_cases h0:((Wo.done e m).res C.K).a=0
   ·obtain⟨_,Rf⟩:=g6 h0
    rw[Dr]at f1 f2 f3
    obtain⟨A,B,s,s',Tn,hTab,⟨r0,r1,r2⟩,hR⟩:=yjB h.rep hq f1 (r:=(tFE (gives G S) 0 (q:Int)).r) (by
     obtain⟨_,_,_,_,_,_,⟨r0,r1,_⟩,_⟩:=yjB h.rep hq f1 (r:=0) ⟨by omega,by omega⟩ I I
     exact⟨r0,r1⟩) I ((tFE (gives G S) 0 (q:Int)).d||C.K.k==1)
    rw[r2]at Tn;have hR:=hR r2;rw[Dr]at Rf;rw[<-Rf]at Tn hR
    have Dj:gives G (C.stS S 0)=(Wo.done e m).fs (gives G S) C.K:=by
     unfold Cr.stS;rw[hk];cases m
     ·rfl
     ·exact yjO G I5 Dk _ _
    have hu:(tFE (gives G S) 0 (q:Int)).u=I->I=I:=fun _=>rfl
    have hd:(tFE (gives G S) 0 (q:Int)).d=I->((tFE (gives G S) 0 (q:Int)).d||C.K.k==1)=I:=fun h=>by rw[h];rfl
    have pV:=Tn.leaf_new;have Kk:(C.stS S 0).Ok:=kOut_fs h.ok 0
    have hn:(C.stS S 0).n=S.n/\(∀y,y ∈ G->(C.stS S 0).has y=I)/\∀y,y ∈ G->yhS (C.stS S 0) y=I:=by
     unfold Cr.stS;rw[hk];cases m
     ·exact⟨rfl,h.hs,h.em⟩
     ·refine⟨(yix _ _ _ _).1,fun y hy=> ?_,fun y hy=> ?_⟩
      ·show(S.store _ _ _).has y=I
       rw[yiu];exact h.hs y hy
      ·show yhS (S.store _ _ _) y=I
       rw[store_empty]
       ·exact h.em y hy
       ·have h1:=yiv Dk
        have h2:=yiv (h.hs y hy);intro e1
        have:C.K.t=y:=by omega
        exact I5 (this▸hy)
    refine⟨⟨Kk,by rw[Dj];exact hR,h.nd,hn.2.1,hn.2.2⟩,by rw[Dj];exact Tn.stay,fun x d hx=>by rw[Dj];exact Tn.yjS hu hd hx,?_,by unfold Cr.stT;rw[hk];rfl,fun _=>by unfold Cr.stT;rw[hk];exact ha,fun _ _=> ?_,fun x hx=>by rw[Dj];exact leaf_marks Tn hu hd hx,hn.1⟩
    ·rw[Dj]
     refine⟨d9,fun l hl=> ?_,fun h0=> ?_⟩
     ·unfold Cr.stN at hl
      rw[hk]at hl;rcases yjK hl with hl|⟨_,_,rfl⟩
      ·exact(hC.lines l hl).imp (fun hx=>Tn.yjS hu hd hx) id
      ·refine .inl ?_
       show Leaf _ (e.map C.K.lv C.K.q) e.d
       rw[Dr,f2,f3];exact pV
     ·unfold Cr.stN at h0
      rw[hk]at h0;cases h0
    ·rw[Dj]
     refine⟨tFM (gives G S) 0 (q:Int),?_,?_⟩
     ·rw[<-f2,<-Dr]
      exact bH.2
     ·obtain⟨y,y1,y2,y3,y4,y5⟩:=pV
      exact⟨y,y1,y2,y3,y4,fun dL=>y5 (by rw[dL,Bool.or_true])⟩
   ·have Rf:=g5 h0
    have hm:C.stS S 0=S:=by
     cases m
     ·unfold Cr.stS
      rw[hk];rfl
     ·exfalso
      apply h0
      show aEnd (e.map C.K.lv C.K.q).r C.K.k C.K.u=0
      have hx:C.K.x≠0:=by
       intro hx;unfold kOut at rA;rw[iN (by simp[ho]),iN (by simp[pF]),iN (by simp[hx])]at rA;split at rA
       ·cases rA
       ·split at rA
        ·cases rA
        ·split at rA
         ·cases rA
         ·split at rA
          ·cases rA
          ·split at rA<;>cases rA
      obtain⟨_,_,x2,x3,x4,_⟩:=hC.ok.walk.leaf hx;unfold kOut at rA;rw[iN (by simp[ho]),iN (by simp[pF]),iP hx]at rA;split at rA
      ·cases rA
       have Rn:(En.of C.K.x C.K.lv).fault C.K.lv=0:=(ykR (hC.ok.walk.leaf hx).1 x2).1;rw[(yjU x3 Rn).2,yjl hp x3 Rn,aEnd,iP x4]
      ·cases rA
    refine yit h hm ⟨d9,fun l hl=>hC.lines l ?_,fun h0=> ?_⟩ (by unfold Cr.stT;rw[hk];rfl) (fun _=> ?_)
    ·unfold Cr.stN at hl
     rw[hk]at hl;rcases yjK hl with hl|⟨_,h1,_⟩
     ·exact hl
     ·exact absurd h1 h0
    ·unfold Cr.stN at h0
     rw[hk]at h0;cases h0
    ·unfold Cr.stT
     rw[hk];exact⟨ha,h0⟩
 ·--at a table that goes
  have Dk:=h.hs _ hg;have oh:=h.em _ hg;have rQ:=hC.ok.walk.lv
  have hz:C.K.word S=0:=by
   unfold yhS at oh;rw[yD]at oh
   simpa[Wk.word]using oh (ix C.K.q C.K.lv) (by simpa using yiw C.K.q C.K.lv)
  by_cases hx:C.K.x=0
  ·have hk:kOut S 0 C.K= .stop 1:=by
    unfold kOut
    have e0:yhV 0 (C.K.lv:Int)=0:=by
     have:¬((C.K.lv:Int)<0\/3<(C.K.lv:Int)):=by omega
     simp[yhV,this,wBad]
    have e1:(En.of 0 (C.K.lv:Int)).t=Z:=by simp[En.of,yhZ]
    rw[iN (by simp[ho]),iN (by simp[Dk]),iN (by simp[hx]),hz,iN (by simp[e0]),iP e1]
   refine yit h (by unfold Cr.stS;rw[hk];rfl) ⟨d9,fun l hl=>hC.lines l ?_,fun h0=> ?_⟩ (by unfold Cr.stT;rw[hk];rfl) (fun _=> ?_)
   ·unfold Cr.stN at hl
    rw[hk]at hl;have hl:l ∈ rPut C.L (Wo.res C.K (Wo.stop 1)):=hl;rcases yjK hl with hl|⟨_,h0,_⟩
    ·exact hl
    ·cases h0
   ·unfold Cr.stN at h0
    rw[hk]at h0;cases h0
   ·unfold Cr.stT
    rw[hk,ansE,ansF,ansR,hf];exact⟨⟨rfl,rfl,rfl⟩,show(1:Int)≠0 by decide⟩
  ·have hk:kOut S 0 C.K= .go (C.K.again 0):=by
    unfold kOut;rw[iN (by simp[ho]),iN (by simp[Dk]),iP hx,iN (by rw[hz];exact fun e=>hx e.symm)]
   refine yit h (by unfold Cr.stS;rw[hk];rfl) ⟨d9,fun l hl=>hC.lines l ?_,fun _=> .inl ?_⟩ (by unfold Cr.stT;rw[hk];rfl) (fun he=>by unfold Cr.stT at he;rw[hk]at he;cases he)
   ·unfold Cr.stN at hl
    rw[hk]at hl;exact hl
   ·unfold Cr.stN
    rw[hk];exact Wk.On.again ho hp
end Pg
namespace Pg
structure Inv (X:Spc) (L L0:List Mp):Prop where
 bas:Bas X.S X.G L
 calm:X.busy=Z->X.G=[]
 len:X.W.length=X.C.length
 some:1<=X.C.length
 cores:∀k,k<X.C.length->Kor (gives X.G X.S) X.G L L0 X.T (X.W.getD k Z) (X.C.getD k Cr.new)
 past:X.busy=I->Good L0
theorem yja {α:Type} {l:List α} {k:Nat} (h:k<l.length) (d:α):l.getD k d ∈ l:=by
 simp[List.getD,h]
theorem yjo {W:List Bool} (h:W.any id=Z) (k:Nat):W.getD k Z=Z:=by
 by_cases hk:k<W.length
 ·cases hw:W.getD k Z
  ·rfl
  ·have:W.any id=I:=yA.2 ⟨I,by rw[<-hw];exact yja hk _,rfl⟩
   rw[h]at this;cases this
 ·simp[List.getD,Nat.le_of_not_lt hk]
theorem yic {α:Type} {l:List α} {k:Nat} (hk:k<l.length) (x d:α) (j:Nat):(l.set k x).getD j d=if j=k then x else l.getD j d:=by
 by_cases e:j=k
 ·subst e
  simp[List.getD,hk]
 ·rw[iN e]
  simp[List.getD,yK (fun h=>e h.symm)]
section
variable {X:Spc} {L L0:List Mp}
theorem Inv.still (_h:Inv X L L0) (hb:X.busy=Z) (k:Nat):X.W.getD k Z=Z:=yjo hb k
theorem Inv.rep (h:Inv X L L0) (hb:X.busy=Z):Rep X.S L:=by
 have:=h.bas.rep;rw[h.calm hb]at this;exact this
theorem inv_new {cores n:Nat} (h1:1<=cores) (h2:1<=n) (h3:n<=128):Inv (Spc.new cores n) [] []:=by
 refine⟨.yln (rep_start h2 h3),fun _=>rfl,by simp[Spc.new],by simpa[Spc.new]using h1,fun k hk=> ?_,fun hb=> ?_⟩
 ·have e:(Spc.new cores n).C.getD k Cr.new=Cr.new:=by
   have hk:k<cores:=by simpa[Spc.new]using hk
   simp[Spc.new,List.getD,hk]
  rw[e];exact⟨Cr.Ok.new,fun l hl=>by simp[Cr.new]at hl,fun ho=>by simp[Cr.new,Wk.off]at ho⟩
 ·exfalso
  simp[Spc.busy,Spc.new]at hb
theorem Inv.core (h:Inv X L L0) {k:Nat} (hk:k<X.C.length) {C':Cr} (hC:Kor (gives X.G X.S) X.G L L0 X.T (X.W.getD k Z) C'):Inv {X with C:=X.C.set k C'} L L0:=by
 refine⟨h.bas,h.calm,by simpa using h.len,by simpa using h.some,fun j hj=> ?_,h.past⟩
 have hj:j<X.C.length:=by simpa using hj
 show Kor (gives X.G X.S) X.G L L0 X.T (X.W.getD j Z) ((X.C.set k C').getD j Cr.new)
 rw[yic hk];split
 ·rename_i e
  subst e;exact hC
 ·exact h.cores j hj
theorem Inv.walk (h:Inv X L L0) {k:Nat} (hk:k<X.C.length) (hs:Stepped X.S X.G L L0 X.T (X.W.getD k Z) (X.C.getD k Cr.new)):Inv {X with S:=(X.C.getD k Cr.new).stS X.S 0,C:=X.C.set k ((X.C.getD k Cr.new).stN X.S 0)} L L0:=by
 refine⟨hs.bas,h.calm,by simpa using h.len,by simpa using h.some,fun j hj=> ?_,h.past⟩
 have hj:j<X.C.length:=by simpa using hj
 show Kor (gives X.G ((X.C.getD k Cr.new).stS X.S 0)) X.G L L0 X.T (X.W.getD j Z) ((X.C.set k ((X.C.getD k Cr.new).stN X.S 0)).getD j Cr.new)
 rw[yic hk];split
 ·rename_i e
  subst e;exact hs.kor
 ·exact(h.cores j hj).mono hs.stay hs.leafs
theorem Inv.insert (h:Inv X L L0) (hb:X.busy=Z) (m:Mp):Inv {X with S:=insS X.S 0 m} (if insC X.S 0 m=0 then addL L m else L) L0:=by
 have hr:=h.rep hb;have hG:=h.calm hb;have hw:=h.still hb;obtain⟨h1,h2⟩:=insert_stay hr m
 have hR:Rep (insS X.S 0 m) (if insC X.S 0 m=0 then addL L m else L):=by
  rcases ykh hr m with ⟨e1,_,e⟩|⟨_,e1,e2,_⟩
  ·rw[e1,e,iN (by decide)]
   exact hr
  ·by_cases hc:insC X.S 0 m=0
   ·rw[iP hc]
    exact e2
   ·rw[iN hc]
    have:insS X.S 0 m=X.S:=by rw[insS,iN hc]
    rw[this];exact hr
 refine⟨?_,fun _=>hG,h.len,h.some,fun k hk=> ?_,h.past⟩
 ·show Bas (insS X.S 0 m) X.G _
  rw[hG];exact .yln hR
 ·have:=h.cores k hk
  show Kor (gives X.G (insS X.S 0 m)) X.G _ L0 X.T (X.W.getD k Z) _
  rw[hw k]at this ⊢;rw[hG]at this ⊢;exact(this.mono h1 h2).free
theorem yjI (W:List Bool) (k:Nat) (hk:k<W.length):(W.map fun _=>I).getD k Z=I:=by simp[List.getD,hk]
theorem yii {W:List Bool} (h:1<=W.length):(W.map fun _=>I).any id=I:=by
 cases W with
 | nil=>simp at h
 | cons a r=>simp
theorem yke {m:Mp} (h:m.code=0):m.meets m=I:=by
 cases hm:m.meets m
 ·exact absurd rfl (ylk h hm)
 ·rfl
theorem meets_rts {m:Mp} (h:m.code=0) (r:Int):m.meets (m.rts r)=I:=by
 have:=yke h;unfold Mp.meets at this ⊢;exact this
theorem yjY {S:Fs} (h:Rep S L) {q:Nat} (hq:q<4096) {lv:Nat} (hl:lv<=3) {t:Int} (ht:Tab S t lv (q/8^(lv+1))) (hw:S.word t.toNat (ix (q:Int) lv)=0):fnd L (q:Int)=J:=by
 have hp:below (q:Int) 4096=I:=zB.2 ⟨by omega,by omega⟩;obtain⟨dF,hc⟩:=ht.place h.code (yiw (q:Int) lv);obtain⟨z1,z2⟩:=yi2 (lv:=lv) (yhU hc) (by omega) hw;obtain⟨P,a,kW⟩:=yj2 h.code hq (3-lv) lv (by omega) t ht;rw[yid S (q:Int) lv t a,iN (by simpa using hc),iP (by rw[z2];rfl)]at kW;obtain⟨c1,c2,c3,c4⟩:=yla hp kW
 have h5:tFC S 0 (q:Int)=5:=by
  unfold tFC;rw[c1,c4,z2,iN (by simp),iN (by simp[En.zero])]
 rw[(yi3 h q).1,yij,iP hp]at h5
 cases hf:fnd L (q:Int)with
 | none=>rfl
 | some j=>rw[hf,iN (by simp)]at h5;omega
theorem ykK (p:Int) (ts:List Int):∀(k:Nat) (S:Fs) (G:List Int) (x j:Nat),(rmW p ts k S G).1.word x j=S.word x j\/(rmW p ts k S G).1.word x j=0
 | 0,S,G,x,j=> .inl rfl
 | k+1,S,G,x,j=>by
   have one:∀t i:Int,(S.store t i 0).word x j=S.word x j\/(S.store t i 0).word x j=0:=fun t i=>by
    unfold Fs.store;split
    ·simp only[Fs.put]
     split
     ·exact .inr rfl
     ·exact .inl rfl
    ·exact .inl rfl
   rw[rmW];split
   ·exact one _ _
   ·rcases ykK p ts k (S.store (ts.getD k 0) (index p (3-(k:Int))) 0) (G++[ts.getD k 0]) x j with e|e
    ·rw[e]
     exact one _ _
    ·exact .inr e
theorem rm_words (S:Fs) (p:Int) (x j:Nat):(rmR S 0 p).1.word x j=S.word x j\/(rmR S 0 p).1.word x j=0:=by
 unfold rmR;split
 ·exact ykK p _ _ _ _ x j
 ·exact .inl rfl
theorem ykg {S:Fs} (h:Rep S L) {p:Int} (hB:Bas (rmR S 0 p).1 (rmR S 0 p).2 (yiL L p)) {q:Nat} (hq:q<4096):∀(d lv:Nat),lv+d=3->∀t,Tab S t lv (q/8^(lv+1))->
 Tab (gives (rmR S 0 p).2 (rmR S 0 p).1) t lv (q/8^(lv+1))\/fnd (yiL L p) (q:Int)=J
 | 0,lv,hd,t,ht=>by
   have:lv=3:=by omega
   subst this;rcases ht with ht|⟨s,hs,ho,_,hl,_⟩
   ·exact .inl (.inl ht)
   ·have:=(yi4 3 0 0 h.code s hs).2.1
    omega
 | d+1,lv,hd,t,ht=>by
   rcases ht with ⟨_,e,_⟩|⟨s,hs,ho,rfl,hl,ha⟩
   ·omega
   ·obtain⟨i1,i2,i3,i4,i5⟩:=yi4 3 0 0 h.code s hs
    rw[hl]at i3 i4
    have Sl:Tab S s.table (lv+1) (q/8^(lv+1+1))/\s.place=ix (q:Int) (lv+1):=by
     rw[ylG,yk8 q (lv+1),<-ha];rcases i5 with ⟨k1,k2,k3⟩|⟨s',k1,k2,k3,k4,k5⟩
     ·exact⟨.inl ⟨k1,by omega,by omega⟩,by omega⟩
     ·exact⟨.inr ⟨s',k1,k2,k3,by omega,by omega⟩,by omega⟩
    obtain⟨hT,dF⟩:=Sl;rcases ykg h hB hq d (lv+1) (by omega) s.table hT with Ii|hn
    ·have hw:=hB.word
     obtain⟨Us,lM⟩:=Ii.place hB.rep.code (yiw (q:Int) (lv+1));rcases rm_words S p s.table.toNat (ix (q:Int) (lv+1))with e|e
     ·refine .inl (.inr ⟨_,Us,?_⟩)
      have uE:rEn (gives (rmR S 0 p).2 (rmR S 0 p).1) s.table (ix (q:Int) (lv+1)) (lv+1)=s.e:=by
       rw[i3,dF];unfold rEn;rw[iP (yhU lM),iP (yhU i4),hw,e]
      rw[ylv];refine⟨?_,?_,rfl,rfl⟩
      ·show(rEn (gives (rmR S 0 p).2 (rmR S 0 p).1) s.table (ix (q:Int) (lv+1)) (lv+1)).on=I
       rw[uE];exact ho
      ·show(rEn (gives (rmR S 0 p).2 (rmR S 0 p).1) s.table (ix (q:Int) (lv+1)) (lv+1)).f=s.e.f
       rw[uE]
     ·exact .inr (yjY hB.rep hq (by omega) Ii (by rw[hw];exact e))
    ·exact .inr hn
theorem Inv.remove (h:Inv X L L0) (hb:X.busy=Z) {p:Int} (hc:tFC X.S 0 p=0):Inv (X.post (rmR X.S 0 p).1 (tFM X.S 0 p) (rmR X.S 0 p).2) (yiL L p) L:=by
 have hr:=h.rep hb;have hG:=h.calm hb;have hw:=h.still hb;obtain⟨r1,r2,r3,r4,r5,r6,r7,_⟩:=yki hr p;have hB:Bas (rmR X.S 0 p).1 (rmR X.S 0 p).2 (yiL L p):=⟨r1,r6,r4,r5,rm_empty X.S p⟩;obtain⟨s1,s2⟩:=remove_stay hr hc
 have hm:tFM X.S 0 p ∈ L:=by
  obtain⟨A,B,z,T,r⟩:=yjn hr hc;rw[r.list];simp
 have iF:(X.post (rmR X.S 0 p).1 (tFM X.S 0 p) (rmR X.S 0 p).2).busy=I:=by
  have h1:=h.some;rw[<-h.len]at h1
  show(X.W.map fun _=>I).any id=I
  exact yii h1
 refine⟨hB,fun e=>(by rw[iF]at e;cases e),by simpa[Spc.post]using h.len,h.some,fun k hk=> ?_,fun _=>yil hr⟩;have bE:k<X.C.length:=hk
 show Kor (gives (rmR X.S 0 p).2 (rmR X.S 0 p).1) (rmR X.S 0 p).2 (yiL L p) L (tFM X.S 0 p) ((X.W.map fun _=>I).getD k Z) (X.C.getD k Cr.new)
 rw[yjI _ _ (by rw[h.len];exact bE)];have hK:=h.cores k bE;rw[hw k,hG]at hK;refine⟨hK.ok,fun l hl=> ?_,fun ho=> ?_⟩
 ·rcases hK.lines l hl with hx|hx
  ·by_cases e:l.m=tFM X.S 0 p
   ·refine .inr ⟨rfl,by rw[e];exact hm,?_⟩
    rw[e];exact yke ((yil hr).ok _ hm)
   ·exact .inl (s2 _ _ hx e)
  ·simp at hx
 ·rcases hK.walk ho with hx|hx
  ·have hp:=hK.ok.walk.page ho
   have rQ:=hK.ok.walk.lv;obtain⟨q0,q1⟩:=zB.1 hp;rcases s1 _ _ _ hx with hx'|hx'
   ·exact .inl hx'
   ·rcases ykg hr hB (q:=(X.C.getD k Cr.new).K.q.toNat) (by omega) (3-(X.C.getD k Cr.new).K.lv) _ (by omega) _ hx with hy|hy
    ·exact .inl hy
    ·refine .inr ⟨rfl,hx',?_⟩
     rw[yR q0]at hy;exact hy
  ·simp at hx
theorem Inv.protect (h:Inv X L L0) (hb:X.busy=Z) {p r:Int} (hc:prC X.S 0 p r=0):Inv (X.post (prS X.S 0 p r) (prM X.S 0 p r) []) (yjm L p r) L:=by
 have hr:=h.rep hb;have hG:=h.calm hb;have hw:=h.still hb;obtain⟨e1,e2,e3⟩:=rep_protect hr p r
 have Uw:0<=r/\r<=7/\tFC X.S 0 p=0:=by
  unfold prC at hc;split at hc
  ·omega
  ·exact⟨by omega,by omega,hc⟩
 obtain⟨r0,r1,Sw⟩:=Uw;obtain⟨q,rfl,hq⟩:=yjy Sw;obtain⟨A,B,s,s',Tn,_,_,_⟩:=yjB hr hq Sw ⟨r0,r1⟩ (tFE X.S 0 (q:Int)).u (tFE X.S 0 (q:Int)).d
 have eE:tFE X.S 0 (q:Int)=yhO (zg X.S 0 (q:Int)):=by rw[tFE,iP Sw]
 have hS:prS X.S 0 (q:Int) r=X.S.store (lastT (zg X.S 0 (q:Int))) (index q (yhQ (zg X.S 0 (q:Int)))) (enc (tFE X.S 0 (q:Int)).t (tFE X.S 0 (q:Int)).l r (tFE X.S 0 (q:Int)).u (tFE X.S 0 (q:Int)).d (tFE X.S 0 (q:Int)).f (yhQ (zg X.S 0 (q:Int)))):=by
  rw[prS,iP hc,eE]
 rw[<-hS]at Tn
 have hM:prM X.S 0 (q:Int) r=(tFM X.S 0 (q:Int)).rts r:=by rw[prM,iP hc]
 have hm:tFM X.S 0 (q:Int) ∈ L:=by
  obtain⟨A,B,z,T,r⟩:=yjn hr Sw;rw[r.list];simp
 have iF:(X.post (prS X.S 0 (q:Int) r) (prM X.S 0 (q:Int) r) []).busy=I:=by
  have h1:=h.some;rw[<-h.len]at h1
  show(X.W.map fun _=>I).any id=I
  exact yii h1
 refine⟨.yln e3,fun e=>(by rw[iF]at e;cases e),by simpa[Spc.post]using h.len,h.some,fun k hk=> ?_,fun _=>yil hr⟩;have bE:k<X.C.length:=hk
 show Kor (prS X.S 0 (q:Int) r) [] (yjm L (q:Int) r) L (prM X.S 0 (q:Int) r) ((X.W.map fun _=>I).getD k Z) (X.C.getD k Cr.new)
 rw[yjI _ _ (by rw[h.len];exact bE)];have hK:=h.cores k bE;rw[hw k,hG]at hK;refine⟨hK.ok,fun l hl=> ?_,fun ho=> ?_⟩
 ·rcases hK.lines l hl with hx|hx
  ·by_cases e:l.m=tFM X.S 0 (q:Int)
   ·refine .inr ⟨rfl,by rw[e];exact hm,?_⟩
    rw[e,hM];exact meets_rts ((yil hr).ok _ hm) r
   ·exact .inl (Tn.leaf_ne hx e)
  ·simp at hx
 ·rcases hK.walk ho with hx|hx
  ·exact .inl (Tab.stay hx Tn.stay)
  ·simp at hx
theorem Kor.told {S:Fs} {G:List Int} {T:Mp} {wt:Bool} {C:Cr} (h:Kor S G L L0 T wt C):Kor S G L L0 T Z (C.told 0 T):=by
 refine⟨h.ok.told 0 T,fun l hl=> ?_,fun ho=> .inl ?_⟩
 ·have hl:l ∈ yiI C.L T:=hl
  rcases h.lines l (yL.1 hl).1 with hx|⟨_,_,hx⟩
  ·exact .inl hx
  ·rw[ykF hl]at hx
   cases hx
 ·have ho:(C.K.again 0).on=I:=ho
  have pu:C.K.on=I:=by
   unfold Wk.again at ho;split at ho
   ·assumption
   ·exact ho
  exact Wk.On.again pu (h.ok.walk.page pu)
theorem Inv.ack (h:Inv X L L0) {k:Int} (hk:k.toNat<X.C.length):Inv (X.akN k) L L0:=by
 unfold Spc.akN;split
 ·exact h
 ·rename_i hw
  have Dm:k.toNat<X.W.length:=by rw[h.len];exact hk
  have hC:∀j,j<X.C.length->Kor (gives X.G X.S) X.G L L0 X.T ((X.W.set k.toNat Z).getD j Z) ((X.C.set k.toNat ((X.at' k).told 0 X.T)).getD j Cr.new):=fun j hj=>by
   rw[yic hk,yic Dm];split
   ·rename_i e
    subst e;exact(h.cores _ hk).told
   ·exact h.cores j hj
  split
  ·rename_i hb
   refine⟨h.bas,fun e=> ?_,by simpa using h.len,by simpa using h.some,fun j hj=>hC j (by simpa using hj),fun _=>h.past ?_⟩
   ·have:(X.W.set k.toNat Z).any id=Z:=e
    rw[hb]at this;cases this
   ·have hw:X.W.getD k.toNat Z=I:=by simpa using hw
    exact yA.2 ⟨I,by rw[<-hw];exact yja Dm _,rfl⟩
  ·rename_i hb
   have hb:(X.W.set k.toNat Z).any id=Z:=by simpa using hb
   refine⟨h.bas.over,fun _=>rfl,by simpa using h.len,by simpa using h.some,fun j hj=> ?_,fun e=> ?_⟩
   ·have:=hC j (by simpa using hj)
    rw[yjo hb j]at this
    show Kor (gives X.G X.S) [] L L0 X.T ((X.W.set k.toNat Z).getD j Z) _
    rw[yjo hb j];exact this.free
   ·have:(X.W.set k.toNat Z).any id=I:=e
    rw[hb]at this;cases this
theorem Kor.begin {S:Fs} {G:List Int} {T:Mp} {wt:Bool} {C:Cr} (h:Kor S G L L0 T wt C) (q k:Int) (u:Bool):Kor S G L L0 T wt (C.bgN 0 q k u):=by
 refine⟨h.ok.begin 0 q k u,?_,?_⟩<;>unfold Cr.bgN<;>split
 ·exact h.lines
 ·exact h.lines
 ·rename_i hc
  exact fun _=> .inl (Wk.On.start (yh8 hc.1))
 ·exact h.walk
theorem Kor.yiy {S:Fs} {G:List Int} {T:Mp} {wt:Bool} {C:Cr} (h:Kor S G L L0 T wt C):Kor S G L L0 T wt C.yiy:=
 ⟨h.ok.yiy,fun l hl=>h.lines l (List.mem_of_mem_drop hl),h.walk⟩
end
def Spc.nxL (X:Spc) (L:List Mp) (x:Sx):List Mp:=
 if 1<=x.kind/\x.kind<=3/\(X.goE x).c=0 then(if x.kind=1 then addL L x.m else if x.kind=2 then yiL L x.m.p else yjm L x.m.p x.m.r)else L
def Spc.nxP (X:Spc) (L L0:List Mp) (x:Sx):List Mp:=if 2<=x.kind/\x.kind<=3/\(X.goE x).c=0 then L else L0
section
variable {X:Spc} {L L0:List Mp}
theorem inv_change (h:Inv X L L0) (x:Sx) (hk:1<=x.kind/\x.kind<=3):Inv (X.chN x) (X.nxL L x) (X.nxP L L0 x):=by
 have hg:X.goE x=X.chE x:=by unfold Spc.goE;rw[iP hk]
 unfold Spc.nxL Spc.nxP;rw[hg];unfold Spc.chN Spc.chE
 by_cases hb:X.busy=I
 ·rw[iP hb,iP hb,iN (by simp[Ev.code]),iN (by simp[Ev.code])]
  exact h
 ·rw[iN hb,iN hb]
  have hb:X.busy=Z:=by simpa using hb
  by_cases h1:x.kind=1
  ·rw[iP h1,iP h1,iP h1]
   have:=h.insert hb x.m
   have e2:¬(2<=x.kind/\x.kind<=3/\insC X.S 0 x.m=0):=by omega
   rw[iN e2]
   by_cases hc:insC X.S 0 x.m=0
   ·rw[iP ⟨hk.1,hk.2,hc⟩]
    rw[iP hc]at this;exact this
   ·rw[iN (fun e=>hc e.2.2)]
    rw[iN hc]at this;exact this
  ·rw[iN h1,iN h1,iN h1]
   by_cases h2:x.kind=2
   ·rw[iP h2,iP h2,iP h2]
    by_cases hc:tFC X.S 0 x.m.p=0
    ·rw[iP hc,iP ⟨hk.1,hk.2,hc⟩,iP ⟨by omega,hk.2,hc⟩]
     exact h.remove hb hc
    ·rw[iN hc,iN (fun e=>hc e.2.2),iN (fun e=>hc e.2.2)]
     exact h
   ·rw[iN h2,iN h2,iN h2]
    by_cases hc:prC X.S 0 x.m.p x.m.r=0
    ·rw[iP hc,iP ⟨hk.1,hk.2,hc⟩,iP ⟨by omega,hk.2,hc⟩]
     exact h.protect hb hc
    ·rw[iN hc,iN (fun e=>hc e.2.2),iN (fun e=>hc e.2.2)]
     exact h
theorem yjh {x:Sx} (h:¬(x.core<0\/(X.C.length:Int)<=x.core)):x.core.toNat<X.C.length:=by omega
theorem yjJ {C:Cr} {S:Fs} (ho:C.K.on=Z):C.stT S 0= .code 9/\C.stN S 0=C/\C.stS S 0=S:=by
 have hk:kOut S 0 C.K= .code 9:=kOut_off ho;refine⟨?_,?_,?_⟩
 ·unfold Cr.stT;rw[hk];rfl
 ·unfold Cr.stN;rw[hk];rfl
 ·unfold Cr.stS;rw[hk];rfl
theorem yjv {α:Type} {l:List α} {k:Nat} (hk:k<l.length) (d:α):l.set k (l.getD k d)=l:=by
 have:l.getD k d=l[k]:=by simp[List.getD,hk]
 rw[this];exact List.set_getElem_self hk
theorem yiT (h:Inv X L L0) (x:Sx):Inv (X.goN x) (X.nxL L x) (X.nxP L L0 x):=by
 by_cases hk:1<=x.kind/\x.kind<=3
 ·have:X.goN x=X.chN x:=by unfold Spc.goN;rw[iP hk]
  rw[this];exact inv_change h x hk
 ·have e1:X.nxL L x=L:=by unfold Spc.nxL;rw[iN (fun e=>hk ⟨e.1,e.2.1⟩)]
  have e2:X.nxP L L0 x=L0:=by unfold Spc.nxP;rw[iN (by omega)]
  rw[e1,e2];unfold Spc.goN;rw[iN hk];split
  ·exact h
  ·split
   ·exact h
   ·rename_i _ hc
    have Hf:=yjh hc;split
    ·exact h.core Hf ((h.cores _ Hf).begin _ _ _)
    ·split
     ·show Inv {X with S:=(X.C.getD x.core.toNat Cr.new).stS X.S 0,C:=X.C.set x.core.toNat ((X.C.getD x.core.toNat Cr.new).stN X.S 0)} L L0
      cases ho:(X.C.getD x.core.toNat Cr.new).K.on
      ·obtain⟨_,o2,o3⟩:=yjJ (S:=X.S) ho
       rw[o2,o3,yjv Hf];exact h
      ·exact h.walk Hf (bas_walk h.bas (h.cores _ Hf) ho)
     ·split
      ·exact h.ack Hf
      ·exact h.core Hf (h.cores _ Hf).yiy
end
end Pg
end
section
open Go.Sort
theorem xv {b g0 g1:Nat} {vb:yP} {S:Pg.Fs} (k:Int) (w:ki) (h:zj w b g0 g1 vb S):
 yN kp 103 #[un (U ⟨b,0,J⟩),Y Q k] w fun e w'=>e=uc (ur (S.has k))/\w'=w:=by
 have rO:=h.raw.c1;have hn:=h.ok.small
 by_cases h0:0<=k
 ·obtain⟨m,rfl⟩:=ud h0
  by_cases h1:m<S.n
  ·have hm:=h.raw.ci m h1
   have HH:yI (S.has (m:Int)=S.inn m):=by simp[yI,Pg.Fs.has]
   have i0:(0:Int)<=(m:Int):=by omega
   have i1:(m:Int)<(S.n:Int):=by omega
   go_enter Tryz.func103,Tryz.ntmps103
   go_wp2
   go_ret
   exact⟨zV HH.out.symm,rfl⟩
  ·have HH:yI (S.has (m:Int)=Z):=by
    cases hh:S.has (m:Int)
    ·rfl
    ·have:=h.ok.yh4 hh
     omega
   have i1:¬(m:Int)<(S.n:Int):=by omega
   go_enter Tryz.func103,Tryz.ntmps103
   go_wp2
   go_ret
   exact⟨zV HH.out.symm,rfl⟩
 ·have HH:yI (S.has k=Z):=by simp[yI,Pg.Fs.has,h0]
  have d0:decide (0<=k)=Z:=by simpa using h0
  go_enter Tryz.func103,Tryz.ntmps103
  go_wp2
  go_ret
  exact⟨zV HH.out.symm,rfl⟩
theorem yc1 {b g0 g1:Nat} {vb:yP} {S:Pg.Fs} (w:ki) (h:zj w b g0 g1 vb S):
 yN kp 22 #[un (U ⟨b,0,J⟩)] w fun e w'=>e=uc (Y Q S.free)/\Lw w w':=by
 have rO:=h.raw.c1;have tY:=h.raw.c2;have fU:=h.raw.c3;have hl:=h.ok.len;have ht:=h.ok.top;have hs:=h.ok.small;have HF:yI (S.free=S.back.length+S.n-S.next):=rfl
 have hb:S.back.length<=128:=by omega
 have hx:S.next<=128:=by omega
 rcases h.raw.own.2 with ⟨rfl,Hg⟩|⟨g,cap,cur,rfl,hg⟩
 ·rw[Hg]at HF
  clear hl ht Hg hb
  go_enter Tryz.func22,Tryz.ntmps22
  go_wp2
  go_quiet (fail)
  go_wp2
  go_ret
  refine⟨?_,below_drewN (zR _) _⟩;rw[HF.out]
  first|rfl|simp
 ·clear hl ht hg
  generalize S.back.length=m at*
  go_enter Tryz.func22,Tryz.ntmps22
  go_wp2
  go_quiet (fail)
  go_wp2
  go_ret
  exact⟨zy (by rw[HF.out]),below_drewN (zR _) _⟩
theorem ycb {b g0 g1:Nat} {vb:yP} {S:Pg.Fs} (w:ki) (h:zj w b g0 g1 vb S) (hb:S.back=[]) (hn:¬S.next<S.n):
 yN kp 51 #[un (U ⟨b,0,J⟩)] w fun e w'=>e=uc (Y Q (-1))/\Lw w w':=by
 have rO:=h.raw.c1;have tY:=h.raw.c2;have fU:=h.raw.c3;have hs:=h.ok.small
 have i1:¬(S.next:Int)<(S.n:Int):=by omega
 have ho:=h.raw.own;rw[hb]at ho;rcases ho.2 with ⟨rfl,Hg⟩|⟨g,cap,cur,rfl,hg⟩
 all_goals
  clear ho h
  go_enter Tryz.func51,Tryz.ntmps51
  go_wp2
  go_quiet (fail)
  go_wp2
  go_ret
  exact⟨rfl,below_drewN (zR _) _⟩
def jL:List yP:=[Y yY 0,Y yY 0,Y yY 0,Y yY 0,Y yY 0,Y yY 0,Y yY 0,Y yY 0]
theorem j7:jL.length=8:=rfl
theorem ycw:∀(j:Nat) (hj:j<jL.length),jL[j]=Y yY 0
 | 0,_|1,_|2,_|3,_|4,_|5,_|6,_|7,_=>rfl
 | j+8,hj=>absurd hj (by rw[j7];omega)
theorem yca {b g0 g1:Nat} {vb:yP} {S:Pg.Fs} (w:ki) (h:zj w b g0 g1 vb S) (hb:S.back=[]) (hn:S.next<S.n):
 yN kp 51 #[un (U ⟨b,0,J⟩)] w fun e w'=>e=uc (Y Q S.next)/\zj w' b g0 g1 vb S.take/\But (xg b g0 g1 vb) w w':=by
 have rT:=h.raw.c0;have rO:=h.raw.c1;have tY:=h.raw.c2;have fU:=h.raw.c3;have GL:=h.raw.fb;have nX:=h.raw.f0;have si:=h.raw.f1;have hs:=h.ok.small;have n0:=h.raw.n0;have n1:=h.raw.n1;have n01:=h.raw.n01;have hi:=h.raw.ci S.next hn;have w0:w.cell? ⟨g0,S.next*8,J⟩=_:=h.raw.cw S.next 0 hn (by omega);have w1:=h.raw.cw S.next 1 hn (by omega);have w2:=h.raw.cw S.next 2 hn (by omega);have w3:=h.raw.cw S.next 3 hn (by omega);have w4:=h.raw.cw S.next 4 hn (by omega);have w5:=h.raw.cw S.next 5 hn (by omega);have w6:=h.raw.cw S.next 6 hn (by omega);have w7:=h.raw.cw S.next 7 hn (by omega)
 have i0:(0:Int)<=(S.next:Int):=by omega
 have i1:(S.next:Int)<(S.n:Int):=by omega
 have ho:=h.raw.own;rw[hb]at ho;have HM:yI _:=h
 have fin:∀nq,yI (zj (((((w.drewN nq).setCell ⟨b,3,J⟩ (Y Q (S.next+1))).setCell ⟨g1,S.next,J⟩ (ur I)).setCells g0 (S.next*8) jL)) b g0 g1 vb S.take/\But (xg b g0 g1 vb) w (((((w.drewN nq).setCell ⟨b,3,J⟩ (Y Q (S.next+1))).setCell ⟨g1,S.next,J⟩ (ur I)).setCells g0 (S.next*8) jL))):=by
  intro nq
  have hl:∀j,decide (j ∈ S.next::S.used)=if j=S.next then I else S.inn j:=by
   intro j
   by_cases e:j=S.next<;>simp[Pg.Fs.inn,e]
  have e:S.take={{{S with next:=S.next+1}with used:=S.next::S.used}with word:=Pg.Fs.clear S.word S.next}:=by
   simp[Pg.Fs.take,hb,hn]
  have h1:=(h.raw.drewN nq).yk1 (S.next+1);have h2:=h1.mark (k:=S.next) hn I (S.next::S.used) hl;have h3:=h2.clear (k:=S.next) hn jL j7 ycw;refine⟨⟨by rw[e];exact h3,h.ok.take⟩,?_⟩;refine But.setCells g0 (.inr (.inr (.inl rfl))) _ _ _ ?_;exact(((But.yhJ (below_drewN (zR w) nq)).setCell (.inr (.inl rfl)) _).setCell (.inr (.inr (.inr (.inl rfl)))) _)
 rcases ho.2 with ⟨rfl,Hg⟩|⟨g,cap,cur,rfl,hg⟩
 all_goals
  clear ho h
  go_enter Tryz.func51,Tryz.ntmps51
  go_wp2
  go_quiet (fail)
  go_wp2
  go_ret
  exact⟨rfl,(fin _).out⟩
theorem yb9 {b g0 g1:Nat} {vb:yP} {S:Pg.Fs} (w:ki) (h:zj w b g0 g1 vb S) (l:List Nat) (k:Nat) (hb:S.back=l++[k]) (hn:k<S.n):
 yN kp 51 #[un (U ⟨b,0,J⟩)] w fun e w'=>e=uc (Y Q k)/\∃vb',zj w' b g0 g1 vb' S.take/\But (xg b g0 g1 vb) w w'/\vb'.ownBlock=vb.ownBlock:=by
 have rT:=h.raw.c0;have rO:=h.raw.c1;have tY:=h.raw.c2;have fU:=h.raw.c3;have GL:=h.raw.fb;have nX:=h.raw.f0;have si:=h.raw.f1;have hs:=h.ok.small;have n0:=h.raw.n0;have n1:=h.raw.n1;have n01:=h.raw.n01;have hi:=h.raw.ci k hn;have w0:w.cell? ⟨g0,k*8,J⟩=_:=h.raw.cw k 0 hn (by omega);have w1:=h.raw.cw k 1 hn (by omega);have w2:=h.raw.cw k 2 hn (by omega);have w3:=h.raw.cw k 3 hn (by omega);have w4:=h.raw.cw k 4 hn (by omega);have w5:=h.raw.cw k 5 hn (by omega);have w6:=h.raw.cw k 6 hn (by omega);have w7:=h.raw.cw k 7 hn (by omega)
 have i0:(0:Int)<=(k:Int):=by omega
 have i1:(k:Int)<(S.n:Int):=by omega
 have ho:=h.raw.own
 have Hg:S.back.length=l.length+1:=by rw[hb];simp
 rw[Hg]at ho;obtain⟨g,cap,rfl,_,hgl⟩:=ho.form (by omega)
 have kD:l.length+1<=cap:=by
  rcases ho.2 with ⟨h',_⟩|⟨g',cap',cur,h',_,_,fK,_⟩
  ·cases h'
  ·cases h';exact fK
 have aR:S.back.length<=128:=by have:=h.ok.len;have:=h.ok.top;omega
 have GZ:l.length<128:=by omega
 have pR:w.cell? ⟨g,l.length,J⟩=U (Y Q k):=by
  rw[ho.cellAt l.length (by omega),ya3,hb];simp
 have ai:w.ownsRow 0 3 1 (uv (U ⟨g,0,J⟩) l.length cap) l.length (ya3 l):=by
  have e:ya3 S.back=ya3 l++[Y Q (k:Int)]:=by simp[ya3,hb]
  rw[e]at ho;exact ownsRow_pop (by simp[ya3]) ho
 have fin:yI (∃vb',zj ((((w.setCell ⟨b,2,J⟩ (uv (U ⟨g,0,J⟩) l.length cap)).setCell ⟨g1,k,J⟩ (ur I)).setCells g0 (k*8) jL)) b g0 g1 vb' S.take/\But (xg b g0 g1 (uv (U ⟨g,0,J⟩) (l.length+1) cap)) w ((((w.setCell ⟨b,2,J⟩ (uv (U ⟨g,0,J⟩) l.length cap)).setCell ⟨g1,k,J⟩ (ur I)).setCells g0 (k*8) jL))/\vb'.ownBlock=(yZ (U ⟨g,0,J⟩) (l.length+1) cap).ownBlock):=by
  have hl:∀j,decide (j ∈ k::S.used)=if j=k then I else S.inn j:=by
   intro j
   by_cases e:j=k<;>simp[Pg.Fs.inn,e]
  have e:S.take={{{S with back:=l}with used:=k::S.used}with word:=Pg.Fs.clear S.word k}:=by
   simp[Pg.Fs.take,hb]
  have h1:=h.raw.yk0 ai h.raw.vb0 h.raw.vb1 h.raw.vbb;have h2:=h1.mark (k:=k) hn I (k::S.used) hl;have h3:=h2.clear (k:=k) hn jL j7 ycw;refine⟨uv (U ⟨g,0,J⟩) l.length cap,⟨by rw[e];exact h3,h.ok.take⟩,?_,rfl⟩;refine But.setCells g0 (.inr (.inr (.inl rfl))) _ _ _ ?_;exact(((But.refl _ w).setCell (.inr (.inl rfl)) _).setCell (.inr (.inr (.inr (.inl rfl)))) _)
 have j1:(l.length:Int)<=(cap:Int):=by omega
 clear ho h ai Hg hb;generalize l.length=m at*
 go_enter Tryz.func51,Tryz.ntmps51
 go_wp2
 go_ret
 exact⟨rfl,fin.out⟩
theorem jw {b g0 g1:Nat} {vb:yP} {S:Pg.Fs} (w:ki) (h:zj w b g0 g1 vb S):
 yN kp 51 #[un (U ⟨b,0,J⟩)] w fun e w'=>e=uc (Y Q S.takeN)/\∃vb',zj w' b g0 g1 vb' S.take/\But (xg b g0 g1 vb) w w'/\vb'.ownBlock=vb.ownBlock:=by
 by_cases hb:S.back=[]
 ·by_cases hn:S.next<S.n
  ·refine(yca w h hb hn).mono ?_
   rintro e w' ⟨rfl,h1,h2⟩;exact⟨by simp[Pg.Fs.takeN,Pg.Fs.pick,hb,hn],vb,h1,h2,rfl⟩
  ·refine(ycb w h hb hn).mono ?_
   rintro e w' ⟨rfl,h1⟩
   have e1:S.take=S:=by simp[Pg.Fs.take,hb,hn]
   refine⟨by simp[Pg.Fs.takeN,Pg.Fs.pick,hb,hn],vb,?_,But.yhJ h1,rfl⟩;rw[e1];exact h.keep (F:=fun _=>False) (But.yhJ h1) (fun _ _=>id)
 ·obtain⟨l,k,hl⟩:∃l k,S.back=l++[k]:=⟨_,_,(List.dropLast_concat_getLast hb).symm⟩
  have hk:k<S.n:=by
   have:=h.ok.yk3 (k:=k) (by rw[hl];simp);have:=h.ok.top;omega
  refine(yb9 w h l k hl hk).mono ?_;rintro e w' ⟨rfl,h1⟩;exact⟨by simp[Pg.Fs.takeN,Pg.Fs.pick,hl],h1⟩
theorem ygr:(Tryz.prog.info? 3).map (fun i=>(i.zero,i.size,i.bytes))=U (U (Y Q 0),1,8):=by kernel_rfl
theorem yc3 {b g0 g1:Nat} {vb:yP} {S:Pg.Fs} (m:Nat) (w:ki) (h:zj w b g0 g1 vb S) (hh:S.has (m:Int)=I):
 yN kp 111 #[un (U ⟨b,0,J⟩),Y Q (m:Int)] w fun e w'=>e=uc (ur I)/\∃vb',zj w' b g0 g1 vb' (S.give (m:Int))/\But (xg b g0 g1 vb) w w'/\(vb'.ownBlock=vb.ownBlock\/∃k,vb'.ownBlock=U k/\w.heap.size<=k):=by
 have rO:=h.raw.c1;have GL:=h.raw.fb;have si:=h.raw.f1;have hs:=h.ok.small;have n1:=h.raw.n1
 have hn:m<S.n:=by have:=h.ok.yh4 hh;omega
 have hi:=h.raw.ci m hn
 have i0:(0:Int)<=(m:Int):=by omega
 have i1:(m:Int)<(S.n:Int):=by omega
 have hu:m ∈ S.used:=by simpa using (h.ok.yh4 hh).2.2
 have hT:=xv (m:Int) w h;rw[hh]at hT
 have hl:∀j,decide (j ∈ S.used.erase m)=if j=m then Z else S.inn j:=by
  intro j;have dZ:S.used.Nodup:=(List.nodup_append.1 h.ok.nodup).1
  by_cases e:j=m
  ·simp[e,dZ.mem_erase_iff]
  ·simp[e,dZ.mem_erase_iff,Pg.Fs.inn]
 have hM:=h.raw.mark hn Z (S.used.erase m) hl
 have aR:S.back.length<=128:=by have:=h.ok.len;have:=h.ok.top;omega
 have Hq:=hM.own;have tY:=hM.c2;have rY:=hM.lb;obtain⟨q0,hq,rW,tJ,rX⟩:=info_parts ygr;have HM:yI _:=hM;have HH:yI _:=h;have HX:yI _:=hh;clear hM h hl hu hh
 go_enter Tryz.func111,Tryz.ntmps111
 go_wp2_with (first
  | (go_at_call 103;refine hT.mono ?_;rintro e w' ⟨rfl,hw⟩;subst w')
  | (at_builtin;refine wpList_append_lies _ rfl _ _ 45 rfl 0 3 q0 (Y Q 0) 1 8 Tryz.underlying45 hq rW tJ rX rfl (by decide) _ _ _ rfl (Hq.alloc _) ⟨w.heap.size,0,J⟩ 1 1 [Y Q (m:Int)] rfl rfl ?c1 ?c2 (by decide) ?c3 ?c4 (Nat.zero_le _) (w.heap.size+1) (by simp) ?_))
 case c1=>
  intro j u hj
  match j,hj with
  | 0,hj=>simp at hj;subst hj;simp[Addr.add,go_sem]
 case c2=>intro u hu;simp at hu;subst hu;rfl
 case c3=>unfold maxLen;omega
 case c4=>omega
 intro g cap w3 tC Hr hat Hf;have h1:=HM.out
 have hk:∀k,k=b\/k=g0\/k=g1->w3.heap[k]?=(w.setCell ⟨g1,m,J⟩ (ur Z)).heap[k]?:=by
  intro k hk
  have gp:k<(w.setCell ⟨g1,m,J⟩ (ur Z)).heap.size:=by
   rcases hk with rfl|rfl|rfl
   ·exact h1.lb
   ·exact h1.l0
   ·exact h1.l1
  have kL:U k≠vb.ownBlock:=by
   rcases hk with rfl|rfl|rfl
   ·exact fun e=>h1.vbb e.symm
   ·exact fun e=>h1.vb0 e.symm
   ·exact fun e=>h1.vb1 e.symm
  rw[Hr.block k (by simp at gp ⊢;omega) kL];exact Below.heap_alloc _ _ _ gp
 have sN:(w.setCell ⟨g1,m,J⟩ (ur Z)).heap.size=w.heap.size:=by simp
 have Ho:∀k,k=b\/k=g0\/k=g1->(yZ (U ⟨g,0,J⟩) (S.back.length+1) cap).ownBlock≠U k:=by
  intro k hk e
  have e:g=k:=by simpa[yO]using e
  subst e;rcases hat with hat|hat
  ·rcases hk with rfl|rfl|rfl
   ·exact h1.vbb hat
   ·exact h1.vb0 hat
   ·exact h1.vb1 hat
  ·have:=h1.lb;have:=h1.l0;have:=h1.l1
   omega
 have hG:=h1.grow (w':=w3) (l:=S.back++[m]) (by have:=Hr.size;simp at this ⊢;omega) hk (by simpa[ya3]using tC) (Ho g0 (.inr (.inl rfl))) (Ho g1 (.inr (.inr rfl))) (Ho b (.inl rfl));have kc:w3.cell? ⟨b,2,J⟩=U vb:=(yM (hk b (.inl rfl))).trans h1.c2;have kf:w3.frozen? ⟨b,2,J⟩=Z:=(yV (hk b (.inl rfl))).trans (h1.fb 2)
 have fin:yI (∃vb',zj (w3.setCell ⟨b,2,J⟩ (uv (U ⟨g,0,J⟩) (S.back.length+1) cap)) b g0 g1 vb' (S.give (m:Int))/\But (xg b g0 g1 vb) w (w3.setCell ⟨b,2,J⟩ (uv (U ⟨g,0,J⟩) (S.back.length+1) cap))/\(vb'.ownBlock=vb.ownBlock\/∃k,vb'.ownBlock=U k/\w.heap.size<=k)):=by
  have e:S.give (m:Int)={{S with used:=S.used.erase m}with back:=S.back++[m]}:=by
   simp[Pg.Fs.give,HX.out]
  refine⟨uv (U ⟨g,0,J⟩) (S.back.length+1) cap,⟨by rw[e];exact hG,HH.out.ok.give _⟩,?_,?_⟩
  ·refine(((((But.refl _ w).setCell (.inr (.inr (.inr (.inl rfl)))) _).alloc _).grown Hr fun k hk=> .inr (.inr (.inr (.inr hk))))).setCell (.inr (.inl rfl)) _
  ·rcases hat with hat|hat
   ·exact .inl hat.symm
   ·exact .inr ⟨g,rfl,by omega⟩
 clear hk Ho hG h1 tC Hr Hq tY hat Hf
 go_wp2
 go_ret
 exact⟨rfl,fin.out⟩
theorem yc2 {b g0 g1:Nat} {vb:yP} {S:Pg.Fs} (k:Int) (w:ki) (h:zj w b g0 g1 vb S):
 yN kp 111 #[un (U ⟨b,0,J⟩),Y Q k] w fun e w'=>e=uc (ur (S.has k))/\∃vb',zj w' b g0 g1 vb' (S.give k)/\But (xg b g0 g1 vb) w w'/\(vb'.ownBlock=vb.ownBlock\/∃j,vb'.ownBlock=U j/\w.heap.size<=j):=by
 cases hh:S.has k
 ·have hT:=xv k w h
  rw[hh]at hT
  have fin:yI (∃vb',zj w b g0 g1 vb' (S.give k)/\But (xg b g0 g1 vb) w w/\(vb'.ownBlock=vb.ownBlock\/∃j,vb'.ownBlock=U j/\w.heap.size<=j)):=by
   have e:S.give k=S:=by simp[Pg.Fs.give,hh]
   exact⟨vb,by rw[e];exact h,But.refl _ _,.inl rfl⟩
  clear h
  go_enter Tryz.func111,Tryz.ntmps111
  go_wp2_with (go_at_call 103;refine hT.mono ?_;rintro e w' ⟨rfl,hw⟩;subst w')
  go_ret
  exact⟨rfl,fin.out⟩
 ·obtain⟨m,rfl⟩:=ud (h.ok.yh4 hh).1
  exact yc3 m w h hh
theorem yeW:(Tryz.prog.info? 164).map (fun i=>(i.zero,i.size,i.bytes))=U (U (.agg #[Y yY 0,Y yY 0,Y yY 0,Y yY 0,Y yY 0,Y yY 0,Y yY 0,Y yY 0]),8,64):=by kernel_rfl
theorem ydm:(Tryz.prog.info? 4).map (fun i=>(i.zero,i.size,i.bytes))=U (U (ur Z),1,1):=by kernel_rfl
theorem yd2 (n:Nat) (hn:n<=128) (w:ki):
 yN kp 50 #[Y Q (n:Int)] w fun e w'=>∃b g0 g1,e=uc (un (U ⟨b,0,J⟩))/\zj w' b g0 g1 (uv J 0 0) (Pg.Fs.new n)/\Lw w w'/\w.heap.size<=b/\w.heap.size<=g0/\w.heap.size<=g1:=by
 obtain⟨q0,hq,rW,tJ,rX⟩:=info_parts yeW;obtain⟨q1,MV,Ci,UY,Dw⟩:=info_parts ydm
 have m0:∀w:ki,(Instr.makeSlice 135 (Y Q (n:Int)) (Y Q (n:Int))).run kp w=_:=fun w=>
  run_make w 135 164 q0 _ Tryz.underlying135 hq rW Q Q n n (by omega) (yz _) (by rw[rX];omega) (by omega)
 have m1:∀w:ki,(Instr.makeSlice 50 (Y Q (n:Int)) (Y Q (n:Int))).run kp w=_:=fun w=>
  run_make w 50 4 q1 _ Tryz.underlying50 MV Ci Q Q n n (by omega) (yz _) (by rw[Dw];omega) (by omega)
 rw[tJ]at m0;rw[UY]at m1;simp only[yF]at m0 m1
 go_enter Tryz.func50,Tryz.ntmps50
 go_wp2_with fail
 go_region
 all_goals
  go_wp2
  go_ret
 ·refine⟨w.heap.size+1+1,w.heap.size,w.heap.size+1,rfl,⟨?_,Pg.Fs.yll n hn⟩,(zA (zA (zA (zR w) _) _) _).drew,by omega,by omega,by omega⟩
  refine zX.made (t0:=164) (t1:=4) (t2:=137) ?_ ?_ ?_ (by omega) (by omega) (by omega)
  ·exact(jl w _ _ _).2.2
  ·exact(jl w _ _ _).1
  ·exact(jl w _ _ _).2.1
 ·refine⟨w.heap.size+1+1,w.heap.size+1,w.heap.size,rfl,⟨?_,Pg.Fs.yll n hn⟩,(zA (zA (zA (zR w) _) _) _).drew,by omega,by omega,by omega⟩
  refine zX.made (t0:=164) (t1:=4) (t2:=137) ?_ ?_ ?_ (by omega) (by omega) (by omega)
  ·exact(jl w _ _ _).2.2
  ·exact(jl w _ _ _).2.1
  ·exact(jl w _ _ _).1
set_option maxRecDepth 100000
namespace Pg.Fs
end Pg.Fs
namespace Side
variable {w0 w w':ki} {bf bm g0 g1:Nat} {vb vb':yP} {F F':Nat->Prop} {Sf Sm S':Pg.Fs}
end Side
theorem yfq (S:Pg.Fs) (p:Int):∀(lv:Nat) (t:Int) (a i:Nat),i<(Pg.thr S (Pg.onW p) lv t a).1.length->i<=lv/\(qL (Pg.thr S (Pg.onW p) lv t a).1).getD i 0=(Pg.ix p (lv-i):Nat):=by
 intro lv
 induction lv with
 | zero=>
   intro t a i hi;rw[Pg.yid]at hi ⊢;split at hi
   ·simp at hi
   ·rename_i h1
    rw[iN h1];split at hi
    ·rename_i h2
     rw[iP h2];simp at hi;subst hi;exact⟨by omega,by simp[qL,Pg.spt]⟩
    ·rename_i h2
     obtain⟨m,hm⟩:=Pg.yib (S:=S) (t:=t) (i:=Pg.ix p 0) (lv:=0) (by simpa using h2);omega
 | succ lv ih=>
   intro t a i hi;rw[Pg.yid]at hi ⊢;split at hi
   ·simp at hi
   ·rename_i h1
    rw[iN h1];split at hi
    ·rename_i h2
     rw[iP h2];simp at hi;subst hi;exact⟨by omega,by simp[qL,Pg.spt]⟩
    ·rename_i h2
     rw[iN h2];simp only at hi ⊢
     cases i with
     | zero=>exact⟨by omega,by simp[qL,Pg.spt]⟩
     | succ i=>
       have h3:=ih (Pg.rEn S t (Pg.ix p (lv+1)) (lv+1)).f ((a+Pg.ix p (lv+1))*8) i (by simpa[Pg.sub]using hi);refine⟨by omega,?_⟩;rw[show lv+1-(i+1)=lv-i by omega]
       simpa[qL,Pg.sub]using h3.2
theorem yaV (S:Pg.Fs) (t p:Int) {i:Nat} (hi:i<(zg S t p).length):Pg.below p 4096=I/\i<=3/\(qL (zg S t p)).getD i 0=Pg.index p (3-(i:Int)):=by
 unfold zg at hi ⊢;split at hi
 ·rename_i h
  rw[iP h];obtain⟨h1,h2⟩:=yfq S p 3 t 0 i hi;refine⟨h.1,h1,?_⟩;rw[h2,show(3-(i:Int))=((3-i:Nat):Int) by omega,Pg.yhY h.1 (by omega)]
 ·simp at hi
theorem yfI (S:Pg.Fs) (t p:Int):(zg S t p).length<=4680:=by
 unfold zg;split
 ·exact Pg.ylT S (Pg.onW p) 3 t 0
 ·simp
end
section
open Go.Sort
theorem zq.but {w w':ki} {ad:Option Addr} {L:List Int} {G:Nat->Prop} (h:zq w ad L) (hb:But G w w') (hn:∀g,ad=U ⟨g,0,J⟩->¬G g):zq w' ad L:=fun j hj=>by
 obtain⟨g,e,hl,hc⟩:=h j hj;exact⟨g,e,yX hl hb.size,(hb.cell (a:=⟨g,j,J⟩) hl (hn g e)).trans hc⟩
theorem ye8 (p:Int) (ts:List Int):∀(k:Nat) (S:Pg.Fs) (G:List Int),(Pg.rmW p ts k S G).2.length<=G.length+k
 | 0,S,G=>by simp[Pg.rmW]
 | k+1,S,G=>by
   rw[Pg.rmW];split
   ·exact Nat.le_add_right _ _
   ·have:=ye8 p ts k (S.store (ts.getD k 0) (Pg.index p (3-(k:Int))) 0) (G++[ts.getD k 0])
    simp at this ⊢;omega
theorem ye7 (S:Pg.Fs) (t p:Int):(Pg.rmR S t p).2.length<=4680:=by
 unfold Pg.rmR;split
 ·have h1:=ye8 p (tabs (zg S t p)) (zg S t p).length S []
  have h2:=yfI S t p;rw[List.length_nil]at h1;omega
 ·simp
set_option linter.unusedSimpArgs false
def Pg.Ev.val (e:Pg.Ev):yP:= .agg #[Y Q e.c,ur e.ended,Y Q e.a,Y Q e.f,Y Q e.r,ur e.back]
def Pg.Sx.val (x:Pg.Sx):yP:= .agg #[Y Q x.kind,Y Q x.core,Y Q x.m.p,Y Q x.m.s,Y Q x.m.f,Y Q x.m.r,Y Q x.q,Y Q x.k,ur x.u]
theorem zE {w:ki} {r:Nat} {v0 v1 v2 v3 v4 v5:yP} {t:TypeId} (h:w.heap[r]?=U (yS #[v0,v1,v2,v3,v4,v5] t (0,0))):
 (w.cell? ⟨r,0,J⟩=U v0/\w.cell? ⟨r,1,J⟩=U v1/\w.cell? ⟨r,2,J⟩=U v2/\w.cell? ⟨r,3,J⟩=U v3/\w.cell? ⟨r,4,J⟩=U v4/\w.cell? ⟨r,5,J⟩=U v5)/\∀i,w.frozen? ⟨r,i,J⟩=Z:=
 ⟨by simp[World.cell?,h],fun i=>by simp[World.frozen?,h]⟩
theorem vn {w w1:ki} (h:Lw w w1) (r:Nat) (hr:w.heap.size<=r) (x0 x1 x2 x3 x4 x5:yP):Lw w ((((((w1.setCell ⟨r,0,J⟩ x0).setCell ⟨r,1,J⟩ x1).setCell ⟨r,2,J⟩ x2).setCell ⟨r,3,J⟩ x3).setCell ⟨r,4,J⟩ x4).setCell ⟨r,5,J⟩ x5):=
 (((((h.setCell (p:=⟨r,0,J⟩) hr x0).setCell (p:=⟨r,1,J⟩) hr x1).setCell (p:=⟨r,2,J⟩) hr x2).setCell (p:=⟨r,3,J⟩) hr x3).setCell (p:=⟨r,4,J⟩) hr x4).setCell (p:=⟨r,5,J⟩) hr x5
theorem qH {F:Nat->Prop} {w w1:ki} (h:But F w w1) (r:Nat) (hr:w.heap.size<=r\/F r) (x0 x1 x2 x3 x4 x5:yP):But F w ((((((w1.setCell ⟨r,0,J⟩ x0).setCell ⟨r,1,J⟩ x1).setCell ⟨r,2,J⟩ x2).setCell ⟨r,3,J⟩ x3).setCell ⟨r,4,J⟩ x4).setCell ⟨r,5,J⟩ x5):=
 (((((h.setCell (a:=⟨r,0,J⟩) hr x0).setCell (a:=⟨r,1,J⟩) hr x1).setCell (a:=⟨r,2,J⟩) hr x2).setCell (a:=⟨r,3,J⟩) hr x3).setCell (a:=⟨r,4,J⟩) hr x4).setCell (a:=⟨r,5,J⟩) hr x5
theorem Pg.ykS (S:Pg.Fs) (p:Int):Pg.fits (Pg.tFM S 0 p).p:=by
 unfold Pg.tFM;split
 ·exact Pg.ylj _ _ _
 ·unfold Pg.fits Pg.Mp.zz;simp
theorem Pg.ylO (S:Pg.Fs) (p r:Int):Pg.fits (Pg.prM S 0 p r).p:=by
 unfold Pg.prM;split
 ·exact Pg.ykS S p
 ·unfold Pg.fits Pg.Mp.zz;simp
def chW (w:ki) (x:Pg.Sx):ki:=(w.alloc (yS #[Y Q x.kind,Y Q x.core,Y Q x.m.p,Y Q x.m.s,Y Q x.m.f,Y Q x.m.r,Y Q x.q,Y Q x.k,ur x.u] 43)).alloc (yS #[Y Q 0,ur Z,Y Q 0,Y Q 0,Y Q 0,ur Z] 36)
structure ChW (w W:ki) (x:Pg.Sx):Prop where
 bel:Lw w W
 size:W.heap.size=w.heap.size+2
 x0:W.cell? ⟨w.heap.size,0,J⟩=U (Y Q x.kind)
 x1:W.cell? ⟨w.heap.size,1,J⟩=U (Y Q x.core)
 x2:W.cell? ⟨w.heap.size,2,J⟩=U (Y Q x.m.p)
 x3:W.cell? ⟨w.heap.size,3,J⟩=U (Y Q x.m.s)
 x4:W.cell? ⟨w.heap.size,4,J⟩=U (Y Q x.m.f)
 x5:W.cell? ⟨w.heap.size,5,J⟩=U (Y Q x.m.r)
 x6:W.cell? ⟨w.heap.size,6,J⟩=U (Y Q x.q)
 x7:W.cell? ⟨w.heap.size,7,J⟩=U (Y Q x.k)
 x8:W.cell? ⟨w.heap.size,8,J⟩=U (ur x.u)
 ev:W.heap[w.heap.size+1]?=U (yS #[Y Q 0,ur Z,Y Q 0,Y Q 0,Y Q 0,ur Z] 36 (0,0))
theorem xK (w:ki) (x:Pg.Sx):ChW w (chW w x) x:=by
 refine⟨zA (zA (zR w) _) _,by simp[chW],?_,?_,?_,?_,?_,?_,?_,?_,?_,?_⟩
 iterate 9 (unfold chW;simp[go_sem])
 unfold chW;exact(by simp:(w.alloc (yS #[Y Q x.kind,Y Q x.core,Y Q x.m.p,Y Q x.m.s,Y Q x.m.f,Y Q x.m.r,Y Q x.q,Y Q x.k,ur x.u] 43)).heap.size=w.heap.size+1)▸yU _ _
def qu (x:Pg.Sx):Prop:=Pg.fits x.m.p/\Pg.fits x.m.s/\Pg.fits x.m.f/\Pg.fits x.m.r/\Pg.fits x.q/\Pg.fits x.k
def Pg.Spc.walkOf (X:Pg.Spc) (k:Int):Pg.Wk:=if 0<=k then(X.C.getD k.toNat Pg.Cr.new).K else Pg.Wk.off
def Pg.Spc.linesOf (X:Pg.Spc) (k:Int):List Pg.Ln:=if 0<=k then(X.C.getD k.toNat Pg.Cr.new).L else []
def Pg.Spc.waitsOf (X:Pg.Spc) (k:Int):Bool:=decide (0<=k)&&X.W.getD k.toNat Z
end
section
open Go.Sort
structure Dsd where
 bm:Nat
 FM:Nat->Prop
 gc:Nat
 cc:Nat
 cb:Nat->Nat
 cF:Nat->Nat->Prop
 bs:Nat
 ag:Option Addr
 cg:Nat
def Dsd.own (D:Dsd) (b n:Nat) (G:List Int):Nat->Nat->Prop
 | 0,x=>x=b
 | 1,x=>D.FM x
 | 2,x=>x=D.gc
 | 3,x=>x=D.bs
 | 4,x=>G≠[]/\D.ag=U ⟨x,0,J⟩
 | k+5,x=>k<n/\D.cF k x
structure Dsk (w:ki) (b:Nat) (D:Dsd) (X:Pg.Spc):Prop where
 c0:w.cell? ⟨b,0,J⟩=U (un (U ⟨D.bm,0,J⟩))
 c1:w.cell? ⟨b,1,J⟩=U (Y Q 0)
 c2:w.cell? ⟨b,2,J⟩=U (uv (U ⟨D.gc,0,J⟩) X.C.length D.cc)
 c3:w.cell? ⟨b,3,J⟩=U (un (U ⟨D.bs,0,J⟩))
 c4:w.cell? ⟨b,4,J⟩=U (uv D.ag X.G.length D.cg)
 fb:∀p,w.frozen? ⟨b,p,J⟩=Z
 mem:zh w D.bm X.S D.FM
 row:∀k,k<X.C.length->w.cell? ⟨D.gc,k,J⟩=U (un (U ⟨D.cb k,0,J⟩))
 core:∀k,k<X.C.length->qq w (D.cb k) 0 (X.C.getD k Pg.Cr.new) (D.cF k)
 tl:jz w D.bs X.T (fun k=>X.W.getD k Z)
 gone:zq w D.ag X.G
 part:∀i j x,D.own b X.C.length X.G i x->D.own b X.C.length X.G j x->i=j
 len:X.W.length=X.C.length
 pos:1<=X.C.length
 le:X.C.length<=4
 told:Pg.fits X.T.p
 few:X.G.length<=4680
def dsF (D:Dsd) (b n:Nat) (G:List Int):Nat->Prop:=fun x=>∃i,D.own b n G i x
namespace Dsk
variable {w w':ki} {b:Nat} {D D':Dsd} {X:Pg.Spc}
theorem lb (h:Dsk w b D X):b<w.heap.size:=ue _ _ h.c0
theorem lt (h:Dsk w b D X) {i x:Nat} (hx:D.own b X.C.length X.G i x):x<w.heap.size:=by
 match i with
 | 0=>have hx:x=b:=hx;rw[hx];exact h.lb
 | 1=>exact h.mem.lt hx
 | 2=>have hx:x=D.gc:=hx;rw[hx];exact ue _ _ (h.row 0 h.pos)
 | 3=>have hx:x=D.bs:=hx;rw[hx];exact h.tl.lb
 | 4=>
   obtain⟨hG,ha⟩:=hx;have:0<X.G.length:=List.length_pos_iff.2 hG;obtain⟨g,e,hl,_⟩:=h.gone 0 this;rw[ha]at e;injection e with e;injection e with e;rw[e];exact hl
 | k+5=>exact(h.core k hx.1).lt hx.2
theorem others (h:Dsk w b D X) {F:Nat->Prop} (hb:But F w w'):
 ((∀x,D.own b X.C.length X.G 0 x->¬F x)->(∀p,w'.cell? ⟨b,p,J⟩=w.cell? ⟨b,p,J⟩)/\∀p,w'.frozen? ⟨b,p,J⟩=Z)/\
 ((∀x,D.own b X.C.length X.G 1 x->¬F x)->zh w' D.bm X.S D.FM)/\
 ((∀x,D.own b X.C.length X.G 2 x->¬F x)->∀k,k<X.C.length->w'.cell? ⟨D.gc,k,J⟩=U (un (U ⟨D.cb k,0,J⟩)))/\
 ((∀x,D.own b X.C.length X.G 3 x->¬F x)->jz w' D.bs X.T (fun k=>X.W.getD k Z))/\
 ((∀x,D.own b X.C.length X.G 4 x->¬F x)->zq w' D.ag X.G)/\
 (∀k,k<X.C.length->(∀x,D.own b X.C.length X.G (k+5) x->¬F x)->qq w' (D.cb k) 0 (X.C.getD k Pg.Cr.new) (D.cF k)):=by
 refine⟨fun hF=> ?_,fun hF=>h.mem.keep hb hF,fun hF k hk=> ?_,fun hF=>h.tl.keep hb (hF _ rfl),fun hF=> ?_,fun k hk hF=> ?_⟩
 ·have kb:=hb.block b h.lb (hF b rfl)
  exact⟨fun p=>yM (a:=⟨b,p,J⟩) kb,fun p=>(yV (a:=⟨b,p,J⟩) kb).trans (h.fb p)⟩
 ·exact(hb.cell (a:=⟨D.gc,k,J⟩) (ue _ _ (h.row k hk)) (hF _ rfl)).trans (h.row k hk)
 ·intro j hj
  obtain⟨g,e,hl,hc⟩:=h.gone j hj;refine⟨g,e,yX hl hb.size,(hb.cell (a:=⟨g,j,J⟩) hl (hF g ⟨?_,e⟩)).trans hc⟩;intro e0;rw[e0]at hj;simp at hj
 ·exact(h.core k hk).keep hb fun x hx=>hF x ⟨hk,hx⟩
theorem keep (h:Dsk w b D X) {F:Nat->Prop} (hb:But F w w') (hF:∀x,dsF D b X.C.length X.G x->¬F x):Dsk w' b D X:=by
 obtain⟨o0,o1,o2,o3,o4,o5⟩:=h.others hb;have hF:∀i x,D.own b X.C.length X.G i x->¬F x:=fun i x hx=>hF x ⟨i,hx⟩;obtain⟨e0,f0⟩:=o0 (hF 0);exact⟨(e0 0).trans h.c0,(e0 1).trans h.c1,(e0 2).trans h.c2,(e0 3).trans h.c3,(e0 4).trans h.c4,f0,o1 (hF 1),o2 (hF 2),fun k hk=>o5 k hk (hF _),o3 (hF 3),o4 (hF 4),h.part,h.len,h.pos,h.le,h.told,h.few⟩
theorem grow (h:Dsk w b D X) (hb:Lw w w'):Dsk w' b D X:=h.keep (F:=fun _=>False) (But.yhJ hb) (fun _ _=>id)
theorem ylo (h:Dsk w b D X) {G':List Int} (ho:∀i x,D'.own b X.C.length G' i x->D.own b X.C.length X.G i x\/w.heap.size<=x) (hn:∀i j x,w.heap.size<=x->D'.own b X.C.length G' i x->D'.own b X.C.length G' j x->i=j):∀i j x,D'.own b X.C.length G' i x->D'.own b X.C.length G' j x->i=j:=by
 intro i j x hi hj;rcases ho i x hi with h1|h1
 ·rcases ho j x hj with h2|h2
  ·exact h.part i j x h1 h2
  ·have:=h.lt h1
   omega
 ·exact hn i j x h1 hi hj
theorem yjt (h:Dsk w b D X) {l:Nat} {G':List Int} (ho:∀i,i≠l->∀x,D'.own b X.C.length G' i x->D.own b X.C.length X.G i x) (hl:∀x,D'.own b X.C.length G' l x->D.own b X.C.length X.G l x\/w.heap.size<=x):∀i j x,D'.own b X.C.length G' i x->D'.own b X.C.length G' j x->i=j:=by
 refine h.ylo (fun i x hx=> ?_) (fun i j x hx hi hj=> ?_)
 ·by_cases e:i=l
  ·subst e
   exact hl x hx
  ·exact .inl (ho i e x hx)
 ·have key:∀i,D'.own b X.C.length G' i x->i=l:=fun i hi=>by
   by_cases e:i=l
   ·exact e
   ·have:=h.lt (ho i e x hi)
    omega
  rw[key i hi,key j hj]
theorem frames {S':Pg.Fs} {FM':Nat->Prop} (h:Dsk w b D X) (hm:zh w' D.bm S' FM') (hb:But D.FM w w') (hF:∀x,FM' x->D.FM x\/w.heap.size<=x):Dsk w' b {D with FM:=FM'} {X with S:=S'}:=by
 obtain⟨o0,o1,o2,o3,o4,o5⟩:=h.others hb;have pq:∀i,i≠1->∀x,D.own b X.C.length X.G i x->¬D.FM x:=fun i hi x hx hm=>hi (h.part i 1 x hx hm);obtain⟨e0,f0⟩:=o0 (pq 0 (by decide));refine⟨(e0 0).trans h.c0,(e0 1).trans h.c1,(e0 2).trans h.c2,(e0 3).trans h.c3,(e0 4).trans h.c4,f0,hm,o2 (pq 2 (by decide)),fun k hk=>o5 k hk (pq _ (by omega)),o3 (pq 3 (by decide)),o4 (pq 4 (by decide)),h.yjt (l:=1) (fun i hi x hx=> ?_) (fun x hx=>hF x hx),h.len,h.pos,h.le,h.told,h.few⟩
 match i with
 | 0=>exact hx
 | 1=>exact absurd rfl hi
 | 2=>exact hx
 | 3=>exact hx
 | 4=>exact hx
 | k+5=>exact hx
theorem walked {k:Nat} {C':Pg.Cr} {S':Pg.Fs} {Fc FM':Nat->Prop} (h:Dsk w b D X) (hk:k<X.C.length) (hC:qq w' (D.cb k) 0 C' Fc) (hm:zh w' D.bm S' FM') (hb:But (fun j=>D.cF k j\/D.FM j) w w') (hF:∀x,Fc x->D.cF k x\/w.heap.size<=x) (sW:∀x,FM' x->D.FM x\/w.heap.size<=x) (Ho:∀x,Fc x->¬FM' x):
 Dsk w' b {D with cF:=fun j=>if j=k then Fc else D.cF j,FM:=FM'} {X with S:=S',C:=X.C.set k C'}:=by
 obtain⟨o0,o1,o2,o3,o4,o5⟩:=h.others hb;have pq:∀i,i≠k+5->i≠1->∀x,D.own b X.C.length X.G i x->¬(D.cF k x\/D.FM x):=fun i hi h1 x hx hm=>hm.elim (fun hm=>hi (h.part i (k+5) x hx ⟨hk,hm⟩)) (fun hm=>h1 (h.part i 1 x hx hm));obtain⟨e0,f0⟩:=o0 (pq 0 (by omega) (by omega));have hl:(X.C.set k C').length=X.C.length:=List.length_set
 have old:∀i,i≠k+5->i≠1->∀x,({D with cF:=fun j=>if j=k then Fc else D.cF j,FM:=FM'}:Dsd).own b X.C.length X.G i x->D.own b X.C.length X.G i x:=fun i hi h1 x hx=>by
  match i with
  | 0=>exact hx
  | 1=>exact absurd rfl h1
  | 2=>exact hx
  | 3=>exact hx
  | 4=>exact hx
  | j+5=>
    obtain⟨a1,a2⟩:=hx;simp only at a2;rw[iN (by omega)]at a2;exact⟨a1,a2⟩
 have new:∀x,({D with cF:=fun j=>if j=k then Fc else D.cF j,FM:=FM'}:Dsd).own b X.C.length X.G (k+5) x->Fc x:=fun x hx=>by
  obtain⟨a1,a2⟩:=hx
  simpa only[if_true]using a2
 have lq:∀i j x,({D with cF:=fun j=>if j=k then Fc else D.cF j,FM:=FM'}:Dsd).own b X.C.length X.G i x->({D with cF:=fun j=>if j=k then Fc else D.cF j,FM:=FM'}:Dsd).own b X.C.length X.G j x->i=j:=by
  refine h.ylo (fun i x hx=> ?_) (fun i j x hx hi hj=> ?_)
  ·by_cases e:i=k+5
   ·subst e
    exact(hF x (new x hx)).imp (fun h=>⟨hk,h⟩) id
   ·by_cases e1:i=1
    ·subst e1
     exact sW x hx
    ·exact .inl (old i e e1 x hx)
  ·have key:∀i,({D with cF:=fun j=>if j=k then Fc else D.cF j,FM:=FM'}:Dsd).own b X.C.length X.G i x->i=k+5\/i=1:=fun i hi=>by
    by_cases e:i=k+5
    ·exact .inl e
    ·by_cases e1:i=1
     ·exact .inr e1
     ·have:=h.lt (old i e e1 x hi)
      omega
   rcases key i hi with rfl|rfl
   ·rcases key j hj with rfl|rfl
    ·rfl
    ·exact absurd hj (Ho x (new x hi))
   ·rcases key j hj with rfl|rfl
    ·exact absurd hi (Ho x (new x hj))
    ·rfl
 refine⟨(e0 0).trans h.c0,(e0 1).trans h.c1,?_,(e0 3).trans h.c3,(e0 4).trans h.c4,f0,hm,?_,?_,o3 (pq 3 (by omega) (by omega)),o4 (pq 4 (by omega) (by omega)),?_,?_,?_,?_,h.told,h.few⟩
 ·simp only[hl]
  exact(e0 2).trans h.c2
 ·simp only[hl]
  exact o2 (pq 2 (by omega) (by omega))
 ·simp only[hl]
  intro j hj
  show qq w' (D.cb j) 0 ((X.C.set k C').getD j Pg.Cr.new) (if j=k then Fc else D.cF j)
  by_cases e:j=k
  ·subst e
   rw[iP rfl,show(X.C.set j C').getD j Pg.Cr.new=C' by simp[List.getD,hk]];exact hC
  ·rw[iN e,show(X.C.set k C').getD j Pg.Cr.new=X.C.getD j Pg.Cr.new by simp[List.getD,yK (fun h=>e h.symm)]]
   exact o5 j hj (pq _ (by omega) (by omega))
 ·simp only[hl]
  exact lq
 ·simp only[hl]
  exact h.len
 ·simp only[hl]
  exact h.pos
 ·simp only[hl]
  exact h.le
theorem asked {k:Nat} {C':Pg.Cr} {Fc:Nat->Prop} (h:Dsk w b D X) (hk:k<X.C.length) (hC:qq w' (D.cb k) 0 C' Fc) (hb:But (D.cF k) w w') (hF:∀x,Fc x->D.cF k x\/w.heap.size<=x):
 Dsk w' b {D with cF:=fun j=>if j=k then Fc else D.cF j} {X with C:=X.C.set k C'}:=by
 have hm:zh w' D.bm X.S D.FM:=(h.others hb).2.1 (fun x hx hm=>by have:=h.part 1 (k+5) x hx ⟨hk,hm⟩;omega);refine h.walked hk hC hm (hb.mono (fun _ _ h=> .inl h)) hF (fun x hx=> .inl hx) (fun x hx hm=> ?_);rcases hF x hx with h1|h1
 ·have:=h.part 1 (k+5) x hm ⟨hk,h1⟩
  omega
 ·have:=h.lt (i:=1) hm
  omega
theorem shot {T':Pg.Mp} {W':List Bool} (h:Dsk w b D X) (hs:jz w' D.bs T' (fun k=>W'.getD k Z)) (hb:But (fun j=>j=D.bs) w w') (hl:W'.length=X.C.length) (hf:Pg.fits T'.p):
 Dsk w' b D {X with T:=T',W:=W'}:=by
 obtain⟨o0,o1,o2,o3,o4,o5⟩:=h.others hb;have pq:∀i,i≠3->∀x,D.own b X.C.length X.G i x->¬x=D.bs:=fun i hi x hx hm=>hi (h.part i 3 x hx hm);obtain⟨e0,f0⟩:=o0 (pq 0 (by decide));exact⟨(e0 0).trans h.c0,(e0 1).trans h.c1,(e0 2).trans h.c2,(e0 3).trans h.c3,(e0 4).trans h.c4,f0,o1 (pq 1 (by decide)),o2 (pq 2 (by decide)),fun j hj=>o5 j hj (pq _ (by omega)),hs,o4 (pq 4 (by decide)),h.part,hl,h.pos,h.le,hf,h.few⟩
theorem goes {G:List Int} {ag:Option Addr} {cg:Nat} (h:Dsk w b D X) (hG:zq w ag G) (hn:∀g,ag=U ⟨g,0,J⟩->¬dsF D b X.C.length [] g) (hg:G.length<=4680):
 Dsk (w.setCell ⟨b,4,J⟩ (uv ag G.length cg)) b {D with ag:=ag,cg:=cg} {X with G:=G}/\But (fun x=>x=b) w (w.setCell ⟨b,4,J⟩ (uv ag G.length cg)):=by
 have hb:But (fun x=>x=b) w (w.setCell ⟨b,4,J⟩ (uv ag G.length cg)):=(But.refl (fun x=>x=b) w).setCell (a:=⟨b,4,J⟩) (.inr rfl) _;obtain⟨o0,o1,o2,o3,o4,o5⟩:=h.others hb;have pq:∀i,i≠0->∀x,D.own b X.C.length X.G i x->¬x=b:=fun i hi x hx hm=>hi (h.part i 0 x hx hm);have k0:=h.c0;have k1:=h.c1;have k2:=h.c2;have k3:=h.c3;have k4:=h.c4;have kf:=h.fb;refine⟨⟨by simp[go_sem,k0],by simp[go_sem,k1],by simp[go_sem,k2],by simp[go_sem,k3],by simp[go_sem,k4],fun q=>by simp[go_sem,kf],o1 (pq 1 (by decide)),o2 (pq 2 (by decide)),fun j hj=>o5 j hj (pq _ (by omega)),o3 (pq 3 (by decide)),?_,?_,h.len,h.pos,h.le,h.told,hg⟩,hb⟩
 ·intro j hj
  obtain⟨g,e,hl,hc⟩:=hG j hj;exact⟨g,e,by simpa using hl,(hb.cell (a:=⟨g,j,J⟩) hl (fun e'=>hn g e ⟨0,e'⟩)).trans hc⟩
 ·have oth:∀i,i≠4->∀x,({D with ag:=ag,cg:=cg}:Dsd).own b X.C.length G i x->D.own b X.C.length X.G i x/\D.own b X.C.length [] i x:=fun i hi x hx=>by
   match i with
   | 0=>exact⟨hx,hx⟩
   | 1=>exact⟨hx,hx⟩
   | 2=>exact⟨hx,hx⟩
   | 3=>exact⟨hx,hx⟩
   | 4=>exact absurd rfl hi
   | k+5=>exact⟨hx,hx⟩
  intro i j x hi hj
  by_cases ei:i=4
  ·by_cases ej:j=4
   ·rw[ei,ej]
   ·subst ei
    exact absurd ⟨j,(oth j ej x hj).2⟩ (hn x hi.2)
  ·by_cases ej:j=4
   ·subst ej
    exact absurd ⟨i,(oth i ei x hi).2⟩ (hn x hj.2)
   ·exact h.part i j x (oth i ei x hi).1 (oth j ej x hj).1
end Dsk
theorem ycM {D D':Dsd} {b n N:Nat} {G G':List Int} (ho:∀i x,D'.own b n G' i x->D.own b n G i x\/N<=x):∀x,dsF D' b n G' x->dsF D b n G x\/N<=x:=by
 rintro x ⟨i,hx⟩;exact(ho i x hx).imp (fun h=>⟨_,h⟩) id
theorem qy {D:Dsd} {b n N:Nat} {G:List Int} {FM':Nat->Prop} (hF:∀x,FM' x->D.FM x\/N<=x):∀x,dsF {D with FM:=FM'} b n G x->dsF D b n G x\/N<=x:=by
 refine ycM fun i x hx=> ?_
 match i with
 | 0=>exact .inl hx
 | 1=>exact hF x hx
 | 2=>exact .inl hx
 | 3=>exact .inl hx
 | 4=>exact .inl hx
 | k+5=>exact .inl hx
theorem yaQ {D:Dsd} {b n N k:Nat} {G:List Int} {Fc FM':Nat->Prop} (hk:k<n) (hF:∀x,Fc x->D.cF k x\/N<=x) (sW:∀x,FM' x->D.FM x\/N<=x):∀x,dsF {D with cF:=fun j=>if j=k then Fc else D.cF j,FM:=FM'} b n G x->dsF D b n G x\/N<=x:=by
 refine ycM fun i x hx=> ?_
 match i with
 | 0=>exact .inl hx
 | 1=>exact sW x hx
 | 2=>exact .inl hx
 | 3=>exact .inl hx
 | 4=>exact .inl hx
 | j+5=>
   obtain⟨a1,a2⟩:=hx;simp only at a2
   by_cases e:j=k
   ·subst e
    rw[iP rfl]at a2;exact(hF x a2).imp (fun h=>⟨hk,h⟩) id
   ·rw[iN e]at a2
    exact .inl ⟨a1,a2⟩
theorem ybU {D:Dsd} {b n N k:Nat} {G:List Int} {Fc:Nat->Prop} (hk:k<n) (hF:∀x,Fc x->D.cF k x\/N<=x):∀x,dsF {D with cF:=fun j=>if j=k then Fc else D.cF j} b n G x->dsF D b n G x\/N<=x:=yaQ (FM':=D.FM) hk hF (fun x hx=> .inl hx)
theorem yfD {D:Dsd} {b n N:Nat} {G G':List Int} {ag:Option Addr} {cg:Nat} (hF:∀x,ag=U ⟨x,0,J⟩->G'≠[]->N<=x):∀x,dsF {D with ag:=ag,cg:=cg} b n G' x->dsF D b n G x\/N<=x:=by
 refine ycM fun i x hx=> ?_
 match i with
 | 0=>exact .inl hx
 | 1=>exact .inl hx
 | 2=>exact .inl hx
 | 3=>exact .inl hx
 | 4=>exact .inr (hF x hx.2 hx.1)
 | k+5=>exact .inl hx
structure vv (w:ki) (b:Nat) (X:Pg.Spc) (F:Nat->Prop):Prop where
 ex:∃D,Dsk w b D X/\F=dsF D b X.C.length X.G
section
variable {w w':ki} {b:Nat} {X:Pg.Spc} {F G:Nat->Prop}
theorem vv.lt (h:vv w b X F) {k:Nat} (hk:F k):k<w.heap.size:=by
 obtain⟨D,h,rfl⟩:=h;obtain⟨i,hi⟩:=hk;exact h.lt hi
theorem vv.keep (h:vv w b X F) (hb:But G w w') (hF:∀k,F k->¬G k):vv w' b X F:=by
 obtain⟨D,h,rfl⟩:=h;exact⟨D,h.keep hb hF,rfl⟩
end
theorem Pg.ykI {W:List Bool} (h:W.length<=4):Pg.ykj (fun k=>W.getD k Z)= !(W.any id):=by
 match W,h with
 | [],_=>rfl
 | [a],_=>cases a<;>rfl
 | [a,b],_=>cases a<;>cases b<;>rfl
 | [a,b,c],_=>cases a<;>cases b<;>cases c<;>rfl
 | [a,b,c,d],_=>cases a<;>cases b<;>cases c<;>cases d<;>rfl
 | a::b::c::d::e::l,h=>simp at h
theorem Pg.ack_waits' {W:List Bool} {k:Nat} (hk:k<W.length):Pg.ylY k (fun j=>W.getD j Z)=fun j=>(W.set k Z).getD j Z:=by
 funext j
 unfold Pg.ylY;rw[Pg.yic hk]
theorem Pg.post_waits {W:List Bool}:Pg.yjF W.length (fun j=>W.getD j Z)=fun j=>(W.map fun _=>I).getD j Z:=by
 funext j
 unfold Pg.yjF
 by_cases h:j<W.length
 ·rw[Pg.yjI W j h]
  simp[h]
 ·simp[List.getD,h]
end
section
open Go.Sort
attribute [local go_sem] Loose.gent
theorem yab (s:Pg.Sp) (hl:s.level<4) (ha:s.ahead<4096) (w:ki):
 yN kp 115 #[s.val] w fun e w'=>e=uc s.mp.val/\Lw w w':=by
 obtain⟨st,sp,sl,sa,⟨et,el,er,eu,ed,ef⟩⟩:=s;have hs:=Pg.yh2 (sl:Int);simp only at hl ha;have HM:=ybn et el er eu ed ef (sl:Int) ((sa:Int)*Pg.span (sl:Int));rw[Pg.ylJ ⟨et,el,er,eu,ed,ef⟩]at HM;have HE:yI ((⟨st,sp,sl,sa,⟨et,el,er,eu,ed,ef⟩⟩:Pg.Sp).mp=Pg.En.map ⟨et,el,er,eu,ed,ef⟩ (sl:Int) ((sa:Int)*Pg.span (sl:Int))):=rfl;rw[HE.out]
 have hmul:IntKind.i64.wrap ((sa:Int)*Pg.span (sl:Int))=(sa:Int)*Pg.span (sl:Int):=by
  have h1:(sa:Int)*Pg.span (sl:Int)<=4096*64:=Int.mul_le_mul (by omega) (by omega) (by omega) (by omega);have h2:0<=(sa:Int)*Pg.span (sl:Int):=Int.mul_nonneg (by omega) (by omega);exact xJ (by omega) (by omega)
 generalize Pg.En.map ⟨et,el,er,eu,ed,ef⟩ (sl:Int) ((sa:Int)*Pg.span (sl:Int))=m at*;obtain⟨mp,ms,mf,mr⟩:=m;simp only[Pg.Sp.val,Pg.Mp.val]at HM ⊢;clear HE;obtain⟨W,hW⟩:=eY ((w.alloc (yS #[Y Q st,Y Q (sp:Int),Y Q (sl:Int),Y Q (sa:Int),ur et,ur el,Y Q er,ur eu,ur ed,Y Q ef] 198)).alloc (yS #[Y Q 0,Y Q 0,Y Q 0,Y Q 0] 39))
 have hB:Lw w W:=by rw[hW];exact zA (zA (zR w) _) _
 have y2:=ua (show W.cell? ⟨w.heap.size,2,J⟩=U (Y Q (sl:Int)) by rw[hW];simp[go_sem]);have y3:=ua (show W.cell? ⟨w.heap.size,3,J⟩=U (Y Q (sa:Int)) by rw[hW];simp[go_sem]);have y4:=ua (show W.cell? ⟨w.heap.size,4,J⟩=U (ur et) by rw[hW];simp[go_sem]);have y5:=ua (show W.cell? ⟨w.heap.size,5,J⟩=U (ur el) by rw[hW];simp[go_sem]);have y6:=ua (show W.cell? ⟨w.heap.size,6,J⟩=U (Y Q er) by rw[hW];simp[go_sem]);have y7:=ua (show W.cell? ⟨w.heap.size,7,J⟩=U (ur eu) by rw[hW];simp[go_sem]);have y8:=ua (show W.cell? ⟨w.heap.size,8,J⟩=U (ur ed) by rw[hW];simp[go_sem]);have y9:=ua (show W.cell? ⟨w.heap.size,9,J⟩=U (Y Q ef) by rw[hW];simp[go_sem])
 have cr:W.cell? ⟨w.heap.size+1,0,J⟩=U (Y Q 0)/\W.cell? ⟨w.heap.size+1,1,J⟩=U (Y Q 0)/\W.cell? ⟨w.heap.size+1,2,J⟩=U (Y Q 0)/\W.cell? ⟨w.heap.size+1,3,J⟩=U (Y Q 0):=by rw[hW];simp[go_sem]
 have fr:∀i,W.frozen? ⟨w.heap.size+1,i,J⟩=Z:=fun i=>by rw[hW];simp[go_sem]
 go_enter Tryz.func115,Tryz.ntmps115
 go_wp2_with fail
 rw[<-hW];clear hW;refine Loose.yi6 11 (by kernel_rfl) (by kernel_rfl) ?_;simp only[List.take_succ_cons,List.take_zero,List.drop_succ_cons,List.drop_zero]
 repeat (
  refine Loose.zS (fun k hk=> ?_)
  go_simp
  first
   | (refine hk _ ?_;clear hk k)
   | (apply Exists.intro
      refine⟨fun _=> ?_,hk _ ?_⟩
      (first
        | (go_at_call 153;exact Loose.yiB (xO _ _))
        | (go_at_call 152;exact Loose.calls (HM _)))
      clear hk k))
 refine Loose.yhM ?_;intro w' hb';have Hf:=ue _ _ cr.1
 replace cr:=xG hb' cr
 have fr':∀i,w'.frozen? ⟨w.heap.size+1,i,J⟩=Z:=fun i=>by
  rw[hb'.frozen (p:=⟨w.heap.size+1,i,J⟩) Hf];exact fr i
 replace hB:=zT hB hb'
 clear hb' fr y2 y3 y4 y5 y6 y7 y8 y9
 go_wp2
 refine bodyPost_ret (v:= .agg #[Y Q mp,Y Q ms,Y Q mf,Y Q mr]) ?_ rfl ⟨rfl,?_⟩
 ·simp[results,Tryz.results115,go_sem,cr]
 ·exact(((hB.setCell (by simp) _).setCell (by simp) _).setCell (by simp) _).setCell (by simp) _
theorem ye1 {w0:ki} {c:Nat} (s:Pg.Sp) (X:List Pg.Sp) (V:Nat->Prop) (w:ki) (hl:s.level<4) (ha:s.ahead<4096) (Hg:X.length<4680)
 (hR:qr w0 c 39 4 (fun X=>(Pg.zM X).length) (fun X=>zC (Pg.zM X)) X V w):
 yN kp 114 #[s.val,un (U ⟨c,0,J⟩)] w fun e w'=>e=uc (yj #[])/\∃V',qr w0 c 39 4 (fun X=>(Pg.zM X).length) (fun X=>zC (Pg.zM X)) (X++[s]) V' w'/\But V w w'/\∀k,V' k->V k\/w.heap.size<=k:=by
 have HT:yI (Pg.zM (X++[s])=Pg.zM X++if s.e.l=I then [s.mp]else []):=by simp[yI,Pg.zM]
 have HR:yI _:=hR;have Uf:=Pg.mapsOf_len X;have HM:=yab s hl ha;have HS:yI (s=s):=rfl;generalize hs:s.mp=m at*;clear hs HS;obtain⟨st,sp,sl,sa,⟨et,el,er,eu,ed,ef⟩⟩:=s;obtain⟨mp,ms,mf,mr⟩:=m;simp only[Pg.Sp.val,Pg.Mp.val]at HM ⊢;simp only at HT;cases el
 ·clear hR HM
  go_enter Tryz.func114,Tryz.ntmps114
  go_wp2
  go_end0
  exact⟨rfl,HR.out.stay (zA (zR w) _) (by rw[HT.out];simp) (by rw[HT.out];simp)⟩
 ·obtain⟨vb,hv,hV⟩:=hR.var
  obtain⟨q0,hq,rW,tJ,rX⟩:=info_parts ju;have wQ:yI _:=hv;have Ro:=hR.fz;have Dt:=hR.bel.size;have nV:=hv.lb;have cc:=hv.cell;have Hq:=hv.own;clear hR hv
  have iG:c≠w.heap.size:=by omega
  go_enter Tryz.func114,Tryz.ntmps114
  go_wp2_with fail
  have tu:∀(W:ki) (j:Nat) (u:yP),[yi Q mp,Y Q ms,Y Q mf,Y Q mr][j]?=U u->(W.alloc (yS #[Y Q mp,Y Q ms,Y Q mf,Y Q mr] 39)).cell? ((⟨W.heap.size,0,J⟩:Addr).add j)=U u:=fun W j u hu=>
   World.news_of_block (yU W _) j u hu
  have dm:∀u,u ∈ [yi Q mp,Y Q ms,Y Q mf,Y Q mr]->u.oneCell'=I:=by
   intro u hu;simp at hu;rcases hu with rfl|rfl|rfl|rfl<;>rfl
  have dX:(Pg.zM X).length+1<=maxLen:=by unfold maxLen;omega
  have sD:((Pg.zM X).length+1)*32<=140737488355328:=by omega
  go_region_law (first
   | (go_simp;go_at_call 115;refine(HM _).mono ?_;rintro e w2 ⟨rfl,Hd⟩;have Ht:yI (Lw w w2):=zT ((zA (zR w) _).drew) Hd;have V2:yI _:=wQ.out.grow Ht.out;have FU:=V2.out.cell;have cl2:=V2.out.lb;clear Hd)
   | (refine step_append_lies _ rfl (.tmp 6) (.tmp 9) 44 rfl w0.heap.size 39 q0 _ 4 32 Tryz.underlying44 hq rW tJ rX rfl (by decide) vb _ _ (by simp[Act.eval]) (V2.out.own.alloc _) ⟨w2.heap.size,0,J⟩ 1 1 [Y Q mp,Y Q ms,Y Q mf,Y Q mr] (by simp[Act.eval]) rfl (tu w2) dm (by decide) dX sD (yy Dt (yy Ht.out.size (by simp))) (w2.heap.size+1) (by simp) ?_;intro g cap w3 tC Hr hat fC;have PG:yI _:=zA Ht.out (yS #[Y Q mp,Y Q ms,Y Q mf,Y Q mr] 39);have HA:yI (vb.ownBlock=U g\/g=(w2.alloc (yS #[Y Q mp,Y Q ms,Y Q mf,Y Q mr] 39)).heap.size):=(by simpa[yI]using hat);have p1:=(wQ.out.push PG.out Hr tC HA.out).1;have kf:w3.frozen? ⟨c,0,J⟩=Z:=((wQ.out.push PG.out Hr tC HA.out).2.1 0).trans (Ro 0);have WQ:yI _:=tC;have Wz:yI _:=Hr;clear tC Hr hat fC))
  all_goals
   have fin:yI _:=HR.out.push (X':=X++[⟨st,sp,sl,sa,⟨et,I,er,eu,ed,ef⟩⟩]) wQ.out hV PG.out Wz.out WQ.out HA.out (by rw[HT.out];simp) (by rw[HT.out,if_true,ycc])
   go_wp2
   go_end0
   exact⟨rfl,fin.out⟩
theorem yb3:∀args w,(callFunc 114 args).run kp w= .ok (.enter 114 args) w:=fun args w=>by simp[go_sem]
theorem yd0 {b:Nat} {S:Pg.Fs} {F:Nat->Prop} {w0:ki} {c:Nat} (h:zh w0 b S F):
 ycx b S F 113 114 #[] #[un (U ⟨c,0,J⟩)] Pg.zW (qr w0 c 39 4 (fun X=>(Pg.zM X).length) (fun X=>zC (Pg.zM X))):=
 ⟨qz,yb3,fun _ _ _ hR=>hR.fr h,fun _ _ _ hR _ hk=>hR.lt hk,fun _ _ _ _ hR hb=>hR.grow hb,
  fun i lv _ _ w _ _ _=>xy (jm (i:Int) (lv:Int) w),fun s X V w _ h1 h2 hl hR=>ye1 s X V w h1 h2 hl hR⟩
theorem yfT {w:ki} {base:Nat} {e:TypeId} {size n cap:Nat} {ad:Option Addr} {xs:List yP} (h:w.ownsRow base e size (uv ad n cap) n xs):n<=cap:=by
 rcases h.2 with ⟨e,_⟩|⟨g,c,cur,e,_,_,fK,_⟩
 ·cases e;exact yT _
 ·cases e;exact fK
theorem ydf {b:Nat} {S:Pg.Fs} {F:Nat->Prop} (t:Int) (w:ki) (h:zh w b S F):
 yN kp 65 #[un (U ⟨b,0,J⟩),Y Q t] w fun e w'=>∃ad cap L,e=uc (yj #[uv ad L.length cap,Y Q (Pg.thr S Pg.zW 3 t 0).2])/\L=(if (Pg.thr S Pg.zW 3 t 0).2=0 then t::Pg.zU (Pg.thr S Pg.zW 3 t 0).1 else [])/\zq w' ad L/\L.length<=cap/\Lw w w':=by
 obtain⟨W,hW⟩:=eY ((w.alloc (yS #[Y Q t] 3)).alloc (yS #[uv (U ⟨w.heap.size,0,J⟩) 1 1] 45))
 have hB:Lw w W:=by rw[hW];exact zA (zA (zR w) _) _
 have hK:qr w (w.heap.size+1) 3 1 (fun X=>(t::Pg.zU X).length) (fun X=>xn (t::Pg.zU X)) [] (fun k=>k=w.heap.size+1\/(yZ (U ⟨w.heap.size,0,J⟩) 1 1).ownBlock=U k) W:=by
  refine⟨hB,by omega,fun o=>by rw[hW];simp[go_sem],uv (U ⟨w.heap.size,0,J⟩) 1 1,⟨by rw[hW];simp[go_sem],?_,by simp[yO]⟩,rfl⟩;refine⟨by simp[xn,Pg.zU],.inr ⟨w.heap.size,1,#[Y Q t],rfl,yT _,?_,yT _,by decide,rfl,by simp[xn,Pg.zU]⟩⟩;rw[hW,Below.heap_alloc _ _ _ (by simp)];exact yU w _
 have HC:yI _:=ybq (ycp (c:=w.heap.size+1) (t:=t) h) t _ W hK;clear h hK hB;generalize Pg.thr S Pg.zW 3 t 0=th at*
 go_enter Tryz.func65,Tryz.ntmps65
 go_wp2_with fail
 rw[<-hW];refine Calls.mono HC.out ?_;rintro e w1 ⟨rfl,V1,lL,Ha,dY⟩;clear Ha dY;have HB:yI (Lw w w1):=lL.bel;obtain⟨vb,hv,_⟩:=lL.var;obtain⟨ad,cap,rfl⟩:=zF hv.own
 by_cases hc:th.2=0
 ·have bB:(th.2 !=0)=Z:=by simp[hc]
  have cc:=hv.cell;have HI:yI _:=qk hv.own;have Nz:yI _:=yfT hv.own;have oJ:yI _:=hc;clear hv lL hc
  go_wp2
  go_ret2
  exact⟨ad,cap,t::Pg.zU th.1,rfl,by first|rw[iP oJ.out]|rfl,HI.out,Nz.out,HB.out⟩
 ·have bB:(th.2 !=0)=I:=by simp[hc]
  have oJ:yI _:=hc;clear hv lL hc
  go_wp2
  go_ret2
  exact⟨J,0,[],rfl,by first|rw[iN oJ.out]|rfl,fun j hj=>absurd hj (by simp),by simp,HB.out⟩
theorem yfU {w:ki} {base:Nat} {e:TypeId} {size n cap:Nat} {ad:Option Addr} {xs:List yP} (h:w.ownsRow base e size (uv ad n cap) n xs):∀g,ad=U ⟨g,0,J⟩->base<=g:=by
 intro g hg;rcases h.2 with ⟨e,_⟩|⟨g',c,cur,e,hb,_⟩
 ·cases e;cases hg
 ·cases e;cases hg;exact hb
theorem yfo {b:Nat} {S:Pg.Fs} {F:Nat->Prop} (t:Int) (w:ki) (h:zh w b S F):
 yN kp 64 #[un (U ⟨b,0,J⟩),Y Q t] w fun e w'=>∃ad cap L,e=uc (yj #[uv ad L.length cap,Y Q (Pg.thr S Pg.zW 3 t 0).2])/\L=(if (Pg.thr S Pg.zW 3 t 0).2=0 then Pg.zM (Pg.thr S Pg.zW 3 t 0).1 else [])/\zm w' ad L/\(∀g,ad=U ⟨g,0,J⟩->w.heap.size<=g)/\Lw w w':=by
 obtain⟨W,hW⟩:=eY (w.alloc (yS #[uv J 0 0] 44))
 have hB:Lw w W:=by rw[hW];exact zA (zR w) _
 have hK:qr w w.heap.size 39 4 (fun X=>(Pg.zM X).length) (fun X=>zC (Pg.zM X)) [] (fun k=>k=w.heap.size\/(yZ J 0 0).ownBlock=U k) W:=
  ⟨hB,yT _,fun o=>by rw[hW];simp[go_sem],uv J 0 0,⟨by rw[hW];simp[go_sem],World.ownsRow_nil _ _ _ _,by simp[yO]⟩,rfl⟩
 have HC:yI _:=ybq (yd0 (c:=w.heap.size) h) t _ W hK;clear h hK hB;generalize Pg.thr S Pg.zW 3 t 0=th at*
 go_enter Tryz.func64,Tryz.ntmps64
 go_wp2_with fail
 rw[<-hW];refine Calls.mono HC.out ?_;rintro e w1 ⟨rfl,V1,lL,Ha,dY⟩;clear Ha dY;have HB:yI (Lw w w1):=lL.bel;obtain⟨vb,hv,_⟩:=lL.var;obtain⟨ad,cap,rfl⟩:=zF hv.own
 by_cases hc:th.2=0
 ·have bB:(th.2 !=0)=Z:=by simp[hc]
  have cc:=hv.cell;have HI:yI (zm w1 ad (Pg.zM th.1)):=jx hv.own;have WN:yI _:=yfU hv.own;have oJ:yI _:=hc;clear hv lL hc
  go_wp2
  go_ret2
  exact⟨ad,cap,Pg.zM th.1,rfl,by first|rw[iP oJ.out]|rfl,HI.out,WN.out,HB.out⟩
 ·have bB:(th.2 !=0)=I:=by simp[hc]
  have oJ:yI _:=hc;clear hv lL hc
  go_wp2
  go_ret2
  exact⟨J,0,[],rfl,by first|rw[iN oJ.out]|rfl,fun j hj=>absurd hj (by simp),fun g hg=>(by cases hg),HB.out⟩
end
end Go.Proofs.YtdphiompijbelaaGreat
