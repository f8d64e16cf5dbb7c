import Derived.Test.YtdphiompijbelaaGreatDoorWalkI
open Int renaming eq_ofNat_of_zero_le->kA,toNat_natCast->kL,ofNat_inj->kj
open Nat renaming mul_le_mul_right->Q,sub_add_cancel->D,pow_succ->W,pow_pos->kB,mul_comm->kS,div_mul_le_self->kC,div_div_eq_div_mul->kR,add_mul->kN,one_mul->kY,mul_div_cancel->kT,mul_assoc->kQ,strongRecOn->kK,pow_add->kD,lt_div_mul_add->kH,lt_or_gt_of_ne->ks,div_add_mod->kh,le_refl->ke,div_lt_iff_lt_mul->uJ,lt_of_le_of_lt->uC
open Bool renaming true->Y,false->O,and_eq_true->kZ,eq_false_iff->ki
open List renaming mem_append_left->I,mem_cons_of_mem->J,mem_append_right->N,mem_cons_self->V,mem_append->Z,mem_flatMap->E,mem_cons->H,flatMap_cons->o,nodup_append->w,append_assoc->kI,flatMap_assoc->kJ,append_nil->kP,nodup_cons->kF,range'->kV,nodup_iff_pairwise_ne->kU,mem_map->kO,mem_range'_1->kM,range_eq_range'->kX,getElem?_eq_getElem->kE,flatMap_nil->kG,findIdx?_eq_none_iff->kW,getElem?_cons_succ->ky,mem_reverse->kn,mem_of_getElem?->kr,flatMap_append->kv,nodup_nil->kp,length_append->kg,pairwise_map->ka,length_cons->km,flatMap_eq_nil_iff->kw,pairwise_flatMap->uI,mem_of_getLast?->uB,findIdx?_append->uP,getLast?_cons->uS,findIdx?_cons->uR,mem_singleton->uN,any_eq_true->uY,mem_filter->uT,length_map->uF
namespace Go.Proofs.YtdphiompijbelaaGreatDoor
open Go.RowKit
section
namespace Pg
theorem yiJ {S:Fs} {t:Int} {i lv a:Nat} (h2:lv<=2):(spt S t i lv a).mp=(rEn S t i lv).map lv (((a+i)*8^lv:Nat):Int):=by
 have e:(((a+i)*8^lv:Nat):Int)=((a+i:Nat):Int)*span (lv:Int):=by
  have:lv=0\/lv=1\/lv=2:=by omega
  rcases this with rfl|rfl|rfl<;>simp[span]
 rw[e];rfl
theorem yia {lv:Nat} (h:lv<=2):span (lv:Int)=((8^lv:Nat):Int):=by
 have:lv=0\/lv=1\/lv=2:=by omega
 rcases this with rfl|rfl|rfl<;>simp[span]
theorem yhD {S:Fs} (h:S.Ok) {t:Int} {i lv:Nat} (hl:(rEn S t i lv).l=Y) {q:Nat} (hq:q<4096):
 (rEn S t i lv).map lv (q:Int)=⟨((q/8^lv*8^lv:Nat):Int),(lv:Int),(rEn S t i lv).f,(rEn S t i lv).r⟩:=by
 obtain⟨hc,_,h2⟩:=yhH h hl;have hf:yhp (rEn S t i lv).t (rEn S t i lv).l (rEn S t i lv).r (rEn S t i lv).u (rEn S t i lv).d (rEn S t i lv).f (lv:Int)=0:=yhR h hc
 have hok:lOk (rEn S t i lv).t (rEn S t i lv).l (rEn S t i lv).r (rEn S t i lv).u (rEn S t i lv).d (rEn S t i lv).f (lv:Int) (q:Int)=Y:=by
  have hb:below (q:Int) 4096=Y:=zB.2 ⟨by omega,by omega⟩;unfold lOk;rw[hf,hb,hl];rfl
 have e:(q:Int)-(q:Int)%span (lv:Int)=((q/8^lv*8^lv:Nat):Int):=by
  rw[yia h2];have h1:=kh q (8^lv);rw[kS]at h1;omega
 unfold En.map yke ykL yjB yiy;rw[hok];simp only[if_true];rw[e]
theorem yhI {S:Fs} {lv:Nat} {rec:Int->Nat->List Sp×Int} {t:Int} {a i:Nat} (hz:(out S zW lv rec t a i).2=0):
 yhu S t i lv=0/\(((rEn S t i lv).on=O/\out S zW lv rec t a i=([spt S t i lv a],0))\/((rEn S t i lv).on=Y/\(rec (rEn S t i lv).f ((a+i)*8)).2=0/\(out S zW lv rec t a i).1=spt S t i lv a::(rec (rEn S t i lv).f ((a+i)*8)).1)):=by
 unfold out at hz ⊢;rw[if_neg (by simp[zW])]at hz ⊢;split at hz
 ·rename_i h1
  exact absurd hz h1
 ·rename_i h1
  have h1:yhu S t i lv=0:=by simpa using h1
  refine⟨h1,?_⟩;rw[if_neg (by simpa using h1)];split at hz
  ·rename_i h2
   exact .inl ⟨h2,by rw[if_pos h2]⟩
  ·rename_i h2
   exact .inr ⟨by simpa using h2,hz,by rw[if_neg h2]⟩
section
variable {S:Fs}
theorem yj1 (h:S.Ok):∀(lv:Nat),lv<4->∀(t:Int) (a:Nat),a+8<=8^(4-lv)->(thr S zW lv t a).2=0->∀m,m ∈ zM (thr S zW lv t a).1->((a*8^lv:Nat):Int)<=m.p/\m.p+span m.s<=(((a+8)*8^lv:Nat):Int):=by
 intro lv
 induction lv using kK with
 | _ lv IH=>
 intro hlv t a ha hz m hm;rw[yiv]at hz hm;obtain⟨h1,h2⟩:=yi8 8 0 hz;rw[h2]at hm;simp only[zM,E]at hm;obtain⟨s,⟨i,hi,hs⟩,hsm⟩:=hm
 have hi8:i<8:=by have:=(kM.1 hi).2;omega
 have hpow:0<8^lv:=kB (by decide);have hle:(a+i+1)*8^lv<=(a+8)*8^lv:=Q _ (by omega);have hge:a*8^lv<=(a+i)*8^lv:=Q _ (by omega)
 have hall:(a+8)*8^lv<=4096:=by
  have h3:(a+8)*8^lv<=8^(4-lv)*8^lv:=Q _ ha;rw[<-kD,show 4-lv+lv=4 by omega]at h3
  have e:(8:Nat)^4=4096:=by decide
  omega
 have hex:(a+i+1)*8^lv=(a+i)*8^lv+8^lv:=by rw[kN,kY]
 obtain⟨hc,ho⟩:=yhI (h1 i (by omega) (by omega))
 have leaf:s=spt S t i lv a->((a*8^lv:Nat):Int)<=m.p/\m.p+span m.s<=(((a+8)*8^lv:Nat):Int):=by
  intro e;subst e
  by_cases hl:(rEn S t i lv).l=Y
  ·have hl':(spt S t i lv a).e.l=Y:=hl
   rw[if_pos hl']at hsm;simp at hsm;subst hsm;have h2:=(yhH h hl).2.2;rw[yiJ h2,yhD h hl (by omega),kT _ hpow];simp only;rw[yia h2];omega
  ·have hl':¬(spt S t i lv a).e.l=Y:=hl
   rw[if_neg hl']at hsm;simp at hsm
 rcases ho with ⟨_,ho⟩|⟨hon,hr,ho⟩
 ·rw[ho]at hs
  simp at hs;exact leaf hs
 ·rw[ho]at hs
  simp at hs;rcases hs with hs|hs
  ·exact leaf hs
  ·obtain⟨k,rfl⟩:=yhM hon
   have hr2:(thr S zW k (rEn S t i (k+1)).f ((a+i)*8)).2=0:=hr;have hs2:s ∈ (thr S zW k (rEn S t i (k+1)).f ((a+i)*8)).1:=hs
   have:=IH k (by omega) (by omega) (rEn S t i (k+1)).f ((a+i)*8) (by
    rw[show 4-k=(4-(k+1))+1 by omega,W]
    omega) hr2 m (by simp only[zM,E];exact⟨s,hs2,hsm⟩)
   have e1:(a+i)*8*8^k=(a+i)*8^(k+1):=by rw[W,kQ,kS 8]
   have e2:((a+i)*8+8)*8^k=(a+i+1)*8^(k+1):=by rw[show(a+i)*8+8=(a+i+1)*8 by omega,W,kQ,kS 8]
   rw[e1,e2]at this;omega
end
theorem flatMap_one {α:Type} (f:Nat->List α) (k:Nat):∀(n s:Nat),(∀j,s<=j->j<s+n->j≠k->f j=[])->(kV s n).flatMap f=if s<=k/\k<s+n then f k else []
 | 0,s,_=>by rw[if_neg (by omega)];rfl
 | n+1,s,hf=>by
   rw[List.range'_succ,o,flatMap_one f k n (s+1) (fun j h1 h2 h3=>hf j (by omega) (by omega) h3)]
   by_cases e:s=k
   ·subst e
    have e1:¬(s+1<=s/\s<s+1+n):=by omega
    have e2:s<=s/\s<s+(n+1):=by omega
    rw[if_neg e1,if_pos e2,kP]
   ·rw[hf s (by omega) (by omega) e,List.nil_append]
    by_cases hk:s+1<=k/\k<s+1+n
    ·rw[if_pos hk,if_pos (by omega)]
    ·rw[if_neg hk,if_neg (by omega)]
section
variable {S:Fs}
theorem ykS (h:S.Ok) (q:Nat):∀(lv:Nat),lv<4->∀(t:Int) (a:Nat),a%8=0->a+8<=8^(4-lv)->a<=q/8^lv->q/8^lv<a+8->(thr S zW lv t a).2=0->
 (thr S (onW (q:Int)) lv t a).2=0/\(∀s,s ∈ (thr S (onW (q:Int)) lv t a).1->s.table ∈ t::zU (thr S zW lv t a).1)/\
   ∃s,(thr S (onW (q:Int)) lv t a).1.getLast?=some s/\(zM (thr S zW lv t a).1).filter (fun m=>m.has (q:Int))=if s.e.t=Y then [s.e.map s.level (q:Int)]else []:=by
 intro lv
 induction lv using kK with
 | _ lv IH=>
 intro hlv t a ha8 ha h1 h2 hz;have hzz:=hz;rw[yiv]at hz;obtain⟨c1,c2⟩:=yi8 8 0 hz;have hpow:0<8^lv:=kB (by decide)
 have hix:ix (q:Int) lv=q/8^lv%8:=by
  unfold ix
  have e:(q:Int)/8^lv%8=((q/8^lv%8:Nat):Int):=by simp
  rw[e];exact kL _
 obtain⟨k,hk⟩:∃k,q/8^lv=a+k:=⟨q/8^lv-a,by omega⟩
 have hk8:k<8:=by omega
 have hixk:ix (q:Int) lv=k:=by rw[hix];omega
 have hq1:(a+k)*8^lv<=q:=by rw[<-hk];exact kC q _
 have hq2:q<(a+k+1)*8^lv:=by
  rw[<-hk,kN,kY];have:=kH (a:=q) hpow;omega
 have hall:(a+8)*8^lv<=4096:=by
  have h3:(a+8)*8^lv<=8^(4-lv)*8^lv:=Q _ ha;rw[<-kD,show 4-lv+lv=4 by omega]at h3
  have e:(8:Nat)^4=4096:=by decide
  omega
 have hq4:q<4096:=by
  have:(a+k+1)*8^lv<=(a+8)*8^lv:=Q _ (by omega);omega
 have other:∀j,j<8->j≠k->(zM (out S zW lv (sub S zW lv) t a j).1).filter (fun m=>m.has (q:Int))=[]:=by
  intro j hj hne;rw[List.filter_eq_nil_iff];intro m hm;simp only[Mp.has,over,kZ,decide_eq_true_eq,not_and];intro hle
  have rng:(((a+j)*8^lv:Nat):Int)<=m.p/\m.p+span m.s<=(((a+j+1)*8^lv:Nat):Int):=by
   obtain⟨hc,ho⟩:=yhI (c1 j (by omega) (by omega));have hbj:(a+j+1)*8^lv<=(a+8)*8^lv:=Q _ (by omega)
   have hex:(a+j+1)*8^lv=(a+j)*8^lv+8^lv:=by rw[kN,kY]
   have leaf:∀hl:(rEn S t j lv).l=Y,m=(spt S t j lv a).mp->(((a+j)*8^lv:Nat):Int)<=m.p/\m.p+span m.s<=(((a+j+1)*8^lv:Nat):Int):=by
    intro hl e;subst e;have h2:=(yhH h hl).2.2;rw[yiJ h2,yhD h hl (by omega),kT _ hpow];simp only;rw[yia h2];omega
   rcases ho with ⟨hon,ho⟩|⟨hon,hr,ho⟩
   ·rw[ho]at hm
    by_cases hl:(rEn S t j lv).l=Y
    ·have hl':(spt S t j lv a).e.l=Y:=hl
     simp[zM,hl']at hm;exact leaf hl hm
    ·have hl':(spt S t j lv a).e.l=O:=ki.2 hl
     simp[zM,hl']at hm
   ·rw[ho]at hm
    have hl':(spt S t j lv a).e.l=O:=by
     have:(rEn S t j lv).on=Y:=hon;simp[En.on]at this;exact this.2
    obtain⟨b,rfl⟩:=yhM hon;have hr2:(thr S zW b (rEn S t j (b+1)).f ((a+j)*8)).2=0:=hr
    have hm2:m ∈ zM (thr S zW b (rEn S t j (b+1)).f ((a+j)*8)).1:=by simpa[zM,hl',sub]using hm
    have:=yj1 h b (by omega) (rEn S t j (b+1)).f ((a+j)*8) (by
     rw[show 4-b=(4-(b+1))+1 by omega,W]
     omega) hr2 m hm2
    have e1:(a+j)*8*8^b=(a+j)*8^(b+1):=by rw[W,kQ,kS 8]
    have e2:((a+j)*8+8)*8^b=(a+j+1)*8^(b+1):=by rw[show(a+j)*8+8=(a+j+1)*8 by omega,W,kQ,kS 8]
    rw[e1,e2]at this;exact this
  rcases ks hne with hlt|hgt
  ·have:(a+j+1)*8^lv<=(a+k)*8^lv:=Q _ (by omega)
   omega
  ·have:(a+k+1)*8^lv<=(a+j)*8^lv:=Q _ (by omega)
   omega
 have hflt:(zM (thr S zW lv t a).1).filter (fun m=>m.has (q:Int))=(zM (out S zW lv (sub S zW lv) t a k).1).filter (fun m=>m.has (q:Int)):=by
  rw[yiv,c2]
  have e:(zM ((kV 0 8).flatMap fun j=>(out S zW lv (sub S zW lv) t a j).1)).filter (fun m=>m.has (q:Int))=(kV 0 8).flatMap fun j=>(zM (out S zW lv (sub S zW lv) t a j).1).filter (fun m=>m.has (q:Int)):=by
   simp only[zM,kJ,List.filter_flatMap]
  rw[e,flatMap_one _ k 8 0 (fun j _ h2 h3=>other j (by omega) h3),if_pos (by omega)]
 have htab:∀x,x ∈ zU (out S zW lv (sub S zW lv) t a k).1->x ∈ zU (thr S zW lv t a).1:=by
  intro x hx;rw[yiv,c2];simp only[zU,E]at hx ⊢;obtain⟨s,hs,hx⟩:=hx;exact⟨s,⟨k,by rw[kM];omega,hs⟩,hx⟩
 obtain⟨hc,ho⟩:=yhI (c1 k (by omega) (by omega));have hw:=yhK S (q:Int) lv t a;rw[hixk,if_neg (by simpa using hc)]at hw;rcases ho with ⟨hon,ho⟩|⟨hon,hr,ho⟩
 ·rw[if_pos hon]at hw
  rw[hw];refine⟨rfl,fun s hs=> ?_,spt S t k lv a,rfl,?_⟩
  ·simp at hs
   subst hs;exact V
  ·rw[hflt,ho]
   have hE:(spt S t k lv a).e=rEn S t k lv:=rfl
   by_cases hl:(rEn S t k lv).l=Y
   ·obtain⟨_,ht,h2⟩:=yhH h hl
    have hm:(spt S t k lv a).mp=(rEn S t k lv).map lv (q:Int):=by
     rw[yiJ h2,yhD h hl (by omega),yhD h hl hq4,kT _ hpow,hk]
    have hmaps:zM [spt S t k lv a]=[(rEn S t k lv).map lv (q:Int)]:=by
     simp[zM,hE,hl,hm]
    rw[hmaps,hE,if_pos ht]
    have hhas:((rEn S t k lv).map lv (q:Int)).has (q:Int)=Y:=by
     rw[yhD h hl hq4,hk];simp only[Mp.has,over,kZ,decide_eq_true_eq];rw[yia h2];rw[kN,kY]at hq2;omega
    rw[List.filter_cons_of_pos (p:=fun m:Mp=>m.has (q:Int)) hhas];rfl
   ·have hl':(rEn S t k lv).l=O:=by simpa using hl
    have ht:(rEn S t k lv).t=O:=by
     simp[En.on,hl']at hon;exact hon
    simp[zM,hE,hl',ht]
 ·rw[if_neg (by simp[hon])]at hw
  have hl':(spt S t k lv a).e.l=O:=by
   have:(rEn S t k lv).on=Y:=hon;simp[En.on]at this;exact this.2
  obtain⟨b,rfl⟩:=yhM hon;have hr2:(thr S zW b (rEn S t k (b+1)).f ((a+k)*8)).2=0:=hr
  have hdiv:q/8^b/8=a+k:=by rw[kR,<-W];exact hk
  obtain⟨i1,i2,s,i3,i4⟩:=IH b (by omega) (by omega) (rEn S t k (b+1)).f ((a+k)*8) (by omega) (by
   rw[show 4-b=(4-(b+1))+1 by omega,W]
   omega) (by omega) (by omega) hr2
  have hsubw:sub S (onW (q:Int)) (b+1)=thr S (onW (q:Int)) b:=rfl;rw[hsubw]at hw
  have hmo:zM (out S zW (b+1) (sub S zW (b+1)) t a k).1=zM (thr S zW b (rEn S t k (b+1)).f ((a+k)*8)).1:=by
   rw[ho];simp[zM,hl',sub]
  have hon':(spt S t k (b+1) a).e.on=Y:=hon
  have hto:zU (out S zW (b+1) (sub S zW (b+1)) t a k).1=(rEn S t k (b+1)).f::zU (thr S zW b (rEn S t k (b+1)).f ((a+k)*8)).1:=by
   rw[ho];simp[zU,hon',sub];rfl
  rw[hw];refine⟨i1,fun s' hs=> ?_,s,?_,?_⟩
  ·simp at hs
   rcases hs with rfl|hs
   ·exact V
   ·have:=i2 s' hs
    rw[<-hto]at this;exact J _ (htab _ this)
  ·rw[uS,i3]
   rfl
  ·rw[hflt,hmo,i4]
end
end Pg
namespace Pg
def Agree (S S':Fs) (x:Int):Prop:=S'.has x=S.has x/\∀i,i<8->S'.word x.toNat i=S.word x.toNat i
theorem Agree.code {S S':Fs} {x:Int} (h:Agree S S' x) {i:Nat} (hi:i<8) (lv:Nat):yhu S' x i lv=yhu S x i lv/\rEn S' x i lv=rEn S x i lv:=by
 unfold yhu rEn;rw[h.1,h.2 i hi];exact⟨rfl,rfl⟩
theorem yjF {S S':Fs} {lv:Nat} {rec rec':Int->Nat->List Sp×Int} {t:Int} {a i:Nat} (h1:yhu S' t i lv=yhu S t i lv) (h2:rEn S' t i lv=rEn S t i lv) (h3:(rEn S t i lv).on=Y->rec' (rEn S t i lv).f ((a+i)*8)=rec (rEn S t i lv).f ((a+i)*8)):out S' zW lv rec' t a i=out S zW lv rec t a i:=by
 unfold out spt;rw[h1,h2]
 by_cases ho:(rEn S t i lv).on=O
 ·simp[ho]
 ·have ho:(rEn S t i lv).on=Y:=by simpa using ho
  rw[h3 ho]
theorem yjh {S S':Fs} {lv:Nat} {rec rec':Int->Nat->List Sp×Int} {t:Int} {a:Nat}:∀(n i:Nat),(∀j,i<=j->j<i+n->out S' zW lv rec' t a j=out S zW lv rec t a j)->scan S' zW lv rec' t a n i=scan S zW lv rec t a n i
 | 0,_,_=>rfl
 | n+1,i,h=>by
   have h0:=h i (by omega) (by omega);have h1:=yjh (S:=S) (S':=S') (lv:=lv) (rec:=rec) (rec':=rec') (t:=t) (a:=a) n (i+1) (fun j h1 h2=>h j (by omega) (by omega));unfold scan;rw[h0,h1]
theorem yhF {S:Fs} {lv:Nat} {t:Int} {a:Nat} (hz:(thr S zW lv t a).2=0):
 (∀j,j<8->(out S zW lv (sub S zW lv) t a j).2=0)/\(thr S zW lv t a).1=(List.range 8).flatMap fun j=>(out S zW lv (sub S zW lv) t a j).1:=by
 rw[yiv]at hz ⊢;obtain⟨h1,h2⟩:=yi8 8 0 hz;exact⟨fun j hj=>h1 j (by omega) (by omega),by rw[h2,kX]⟩
theorem yjv {S:Fs} {lv:Nat} {t:Int} {a:Nat} (h:∀j,j<8->(out S zW lv (sub S zW lv) t a j).2=0):thr S zW lv t a=((List.range 8).flatMap (fun j=>(out S zW lv (sub S zW lv) t a j).1),0):=by
 have hz:∀n i,i+n=8->(scan S zW lv (sub S zW lv) t a n i).2=0:=by
  intro n
  induction n with
  | zero=>intro i _;rfl
  | succ n ih=>
    intro i hi;unfold scan;rw[if_neg (by simpa using h i (by omega))];exact ih (i+1) (by omega)
 have h0:(thr S zW lv t a).2=0:=by rw[yiv];exact hz 8 0 rfl
 have:=(yhF h0).2;rw[<-this,<-h0]
theorem yiT {S:Fs} {lv:Nat} {t:Int} {a j:Nat} (hj:j<8) (hz:(thr S zW lv t a).2=0) {x:Int} (hx:x ∈ zU (out S zW lv (sub S zW lv) t a j).1):x ∈ zU (thr S zW lv t a).1:=by
 rw[(yhF hz).2];simp only[zU,E]at hx ⊢;obtain⟨s,hs,hx⟩:=hx;exact⟨s,⟨j,by simpa using hj,hs⟩,hx⟩
theorem yjO {S S':Fs}:∀(lv:Nat) (t:Int) (a:Nat),(thr S zW lv t a).2=0->(∀x,x ∈ t::zU (thr S zW lv t a).1->Agree S S' x)->thr S' zW lv t a=thr S zW lv t a:=by
 intro lv
 induction lv with
 | zero=>
   intro t a hz h;have h0:=h t V;rw[yiv,yiv];refine yjh 8 0 fun j _ hj=> ?_;obtain⟨c1,c2⟩:=h0.code (i:=j) (by omega) 0;refine yjF c1 c2 fun ho=> ?_;obtain⟨m,hm⟩:=yhM ho;omega
 | succ lv ih=>
   intro t a hz h;have h0:=h t V;rw[yiv,yiv];refine yjh 8 0 fun j _ hj=> ?_
   have hj8:j<8:=by omega
   obtain⟨c1,c2⟩:=h0.code hj8 (lv+1);refine yjF c1 c2 fun ho=> ?_;have hzj:=(yhF hz).1 j hj8;obtain⟨hc,hor⟩:=yhI hzj;rcases hor with ⟨hn,_⟩|⟨_,hr,hl⟩
   ·rw[hn]at ho;cases ho
   ·refine ih _ _ hr fun x hx=> ?_
    refine h x (J _ (yiT hj8 hz ?_));rw[hl];have hon:(spt S t j (lv+1) a).e.on=Y:=ho
    have:zU (spt S t j (lv+1) a::(sub S zW (lv+1) (rEn S t j (lv+1)).f ((a+j)*8)).1)=(rEn S t j (lv+1)).f::zU (thr S zW lv (rEn S t j (lv+1)).f ((a+j)*8)).1:=by
     simp[zU,hon,sub];rfl
    rw[this];exact hx
theorem yil {α:Type} {l:List Nat} {f g:Nat->List α} (h:∀j,j ∈ l->f j=g j):l.flatMap f=l.flatMap g:=by
 induction l with
 | nil=>rfl
 | cons x l ih=>rw[o,o,h x V,ih fun j hj=>h j (J _ hj)]
theorem yhZ {s:Sp} {X:List Sp} (h:s.e.on=Y):zU (s::X)=s.e.f::zU X:=by
 simp[zU,h]
theorem ylE {k:Nat} (hk:k<8):List.range 8=List.range k++k::kV (k+1) (7-k):=by
 have:k=0\/k=1\/k=2\/k=3\/k=4\/k=5\/k=6\/k=7:=by omega
 rcases this with rfl|rfl|rfl|rfl|rfl|rfl|rfl|rfl<;>rfl
theorem pow_up (a i b:Nat):(a+i)*8*8^b=(a+i)*8^(b+1)/\((a+i)*8+8)*8^b=(a+i+1)*8^(b+1):=by
 constructor
 ·rw[W,kQ,kS 8]
 ·rw[show(a+i)*8+8=(a+i+1)*8 by omega,W,kQ,kS 8]
section
variable {S:Fs}
theorem yis (h:S.Ok) {lv:Nat} (hlv:lv<4) {t:Int} {a j:Nat} (hj:j<8) (ha:a+8<=8^(4-lv)) (hz:(out S zW lv (sub S zW lv) t a j).2=0) {m:Mp} (hm:m ∈ zM (out S zW lv (sub S zW lv) t a j).1):
 (((a+j)*8^lv:Nat):Int)<=m.p/\m.p+span m.s<=(((a+j+1)*8^lv:Nat):Int):=by
 have hpow:0<8^lv:=kB (by decide)
 have hall:(a+8)*8^lv<=4096:=by
  have h3:(a+8)*8^lv<=8^(4-lv)*8^lv:=Q _ ha;rw[<-kD,show 4-lv+lv=4 by omega]at h3
  have e:(8:Nat)^4=4096:=by decide
  omega
 have hbj:(a+j+1)*8^lv<=(a+8)*8^lv:=Q _ (by omega)
 have hex:(a+j+1)*8^lv=(a+j)*8^lv+8^lv:=by rw[kN,kY]
 obtain⟨hc,ho⟩:=yhI hz;rcases ho with ⟨hon,ho⟩|⟨hon,hr,ho⟩
 ·rw[ho]at hm
  by_cases hl:(rEn S t j lv).l=Y
  ·have hl':(spt S t j lv a).e.l=Y:=hl
   simp[zM,hl']at hm;subst hm;have h2:=(yhH h hl).2.2;rw[yiJ h2,yhD h hl (by omega),kT _ hpow];simp only;rw[yia h2];omega
  ·have hl':(spt S t j lv a).e.l=O:=ki.2 hl
   simp[zM,hl']at hm
 ·rw[ho]at hm
  have hl':(spt S t j lv a).e.l=O:=by
   have:(rEn S t j lv).on=Y:=hon;simp[En.on]at this;exact this.2
  obtain⟨b,rfl⟩:=yhM hon;have hr2:(thr S zW b (rEn S t j (b+1)).f ((a+j)*8)).2=0:=hr
  have hm2:m ∈ zM (thr S zW b (rEn S t j (b+1)).f ((a+j)*8)).1:=by simpa[zM,hl',sub]using hm
  have:=yj1 h b (by omega) (rEn S t j (b+1)).f ((a+j)*8) (by
   rw[show 4-b=(4-(b+1))+1 by omega,W]
   omega) hr2 m hm2
  obtain⟨e1,e2⟩:=pow_up a j b;rw[e1,e2]at this;exact this
def But1 (S S':Fs) (T:List Int) (t0:Int) (i0:Nat):Prop:=∀x,x ∈ T->S'.has x=S.has x/\∀i,i<8->(x≠t0\/i≠i0)->S'.word x.toNat i=S.word x.toNat i
structure Spot1 (S:Fs) (q lv:Nat) (t:Int) (a:Nat) (s:Sp) (A B:List Sp):Prop where
 all:(thr S zW lv t a).1=A++(out S zW s.level (sub S zW s.level) s.table (s.ahead-s.place) s.place).1++B
 place:s.place=ix (q:Int) s.level
 ahead:s.ahead=q/8^s.level
 le:s.place<=s.ahead
 lvl:s.level<=lv
 ma:∀m,m ∈ zM A->m.p+span m.s<=((s.ahead*8^s.level:Nat):Int)
 mb:∀m,m ∈ zM B->(((s.ahead+1)*8^s.level:Nat):Int)<=m.p
 mem:s.table ∈ t::zU (thr S zW lv t a).1
 code:(out S zW s.level (sub S zW s.level) s.table (s.ahead-s.place) s.place).2=0
 en:s.e=rEn S s.table s.place s.level
 memA:s.table ∈ t::zU A
 turn:∀S',But1 S S' (t::(zU A++zU B)) s.table s.place->(out S' zW s.level (sub S' zW s.level) s.table (s.ahead-s.place) s.place).2=0->
  thr S' zW lv t a=(A++(out S' zW s.level (sub S' zW s.level) s.table (s.ahead-s.place) s.place).1++B,0)
theorem yli (h:S.Ok) (q:Nat):∀(lv:Nat),lv<4->∀(t:Int) (a:Nat),a%8=0->a+8<=8^(4-lv)->a<=q/8^lv->q/8^lv<a+8->(thr S zW lv t a).2=0->(t::zU (thr S zW lv t a).1).Nodup->
 ∀s,s ∈ (thr S (onW (q:Int)) lv t a).1->∃A B,Spot1 S q lv t a s A B:=by
 intro lv
 induction lv using kK with
 | _ lv IH=>
 intro hlv t a ha8 ha h1 h2 hz hnd s hs;have hpow:0<8^lv:=kB (by decide);obtain⟨k,hk⟩:∃k,q/8^lv=a+k:=⟨q/8^lv-a,by omega⟩
 have hk8:k<8:=by omega
 have hixk:ix (q:Int) lv=k:=by
  unfold ix
  have e:(q:Int)/8^lv%8=((q/8^lv%8:Nat):Int):=by simp
  rw[e,kL];omega
 obtain⟨c1,c2⟩:=yhF hz;rw[ylE hk8,kv,o]at c2;generalize hP:(List.range k).flatMap (fun j=>(out S zW lv (sub S zW lv) t a j).1)=P at c2;generalize hR:(kV (k+1) (7-k)).flatMap (fun j=>(out S zW lv (sub S zW lv) t a j).1)=R at c2
 have inP:∀j,j<k->∀x,x ∈ zU (out S zW lv (sub S zW lv) t a j).1->x ∈ zU P:=by
  intro j hj x hx;rw[<-hP];simp only[zU,E]at hx ⊢;obtain⟨s,hs,hx⟩:=hx;exact⟨s,⟨j,by simpa using hj,hs⟩,hx⟩
 have inR:∀j,k<j->j<8->∀x,x ∈ zU (out S zW lv (sub S zW lv) t a j).1->x ∈ zU R:=by
  intro j hj hj8 x hx;rw[<-hR];simp only[zU,E]at hx ⊢;obtain⟨s,hs,hx⟩:=hx;exact⟨s,⟨j,by rw[kM];omega,hs⟩,hx⟩
 have mP:∀m,m ∈ zM P->m.p+span m.s<=(((a+k)*8^lv:Nat):Int):=by
  intro m hm;rw[<-hP]at hm;simp only[zM,E]at hm;obtain⟨s,⟨j,hj,hs⟩,hm⟩:=hm
  have hj:j<k:=by simpa using hj
  have:=(yis h hlv (by omega) ha (c1 j (by omega)) (m:=m) (by simp only[zM,E];exact⟨s,hs,hm⟩)).2;have:(a+j+1)*8^lv<=(a+k)*8^lv:=Q _ (by omega);omega
 have mR:∀m,m ∈ zM R->(((a+k+1)*8^lv:Nat):Int)<=m.p:=by
  intro m hm;rw[<-hR]at hm;simp only[zM,E]at hm;obtain⟨s,⟨j,hj,hs⟩,hm⟩:=hm
  have hj:k+1<=j/\j<8:=by rw[kM]at hj;omega
  have:=(yis h hlv (by omega) ha (c1 j (by omega)) (m:=m) (by simp only[zM,E];exact⟨s,hs,hm⟩)).1;have:(a+k+1)*8^lv<=(a+j)*8^lv:=Q _ (by omega);omega
 have hsub:∀j,j<8->∀x,x ∈ zU (out S zW lv (sub S zW lv) t a j).1->x ∈ zU (thr S zW lv t a).1:=fun j hj x hx=>yiT hj hz hx;obtain⟨hnt,hnx⟩:=kF.1 hnd
 have other:∀S',∀t0 i0,But1 S S' (t::(zU P++zU R)) t0 i0->(t≠t0\/i0=k)->(t0=t\/t0 ∈ zU (out S zW lv (sub S zW lv) t a k).1)->∀j,j<8->j≠k->out S' zW lv (sub S' zW lv) t a j=out S zW lv (sub S zW lv) t a j:=by
  intro S' t0 i0 hb ht0 hin j hj hjk;obtain⟨b1,b2⟩:=hb t V;have hwt:S'.word t.toNat j=S.word t.toNat j:=b2 j hj (by rcases ht0 with h'|h';exact .inl h';exact .inr (by omega))
  have cc:yhu S' t j lv=yhu S t j lv/\rEn S' t j lv=rEn S t j lv:=by
   unfold yhu rEn;rw[b1,hwt];exact⟨rfl,rfl⟩
  refine yjF cc.1 cc.2 fun ho=> ?_;obtain⟨hc,hor⟩:=yhI (c1 j hj);rcases hor with ⟨hn,_⟩|⟨_,hr,hl⟩
  ·rw[hn]at ho;cases ho
  ·obtain⟨b,rfl⟩:=yhM ho
   refine yjO b _ _ hr fun x hx=> ?_;have hon:(spt S t j (b+1) a).e.on=Y:=ho
   have hxt:x ∈ zU (out S zW (b+1) (sub S zW (b+1)) t a j).1:=by
    rw[hl]
    have:zU (spt S t j (b+1) a::(sub S zW (b+1) (rEn S t j (b+1)).f ((a+j)*8)).1)=(rEn S t j (b+1)).f::zU (thr S zW b (rEn S t j (b+1)).f ((a+j)*8)).1:=by
     simp[zU,hon,sub];rfl
    rw[this];exact hx
   have hxm:=hsub j hj x hxt
   have hxPR:x ∈ zU P++zU R:=by
    rcases ks hjk with hlt|hgt
    ·exact I _ (inP j hlt x hxt)
    ·exact N _ (inR j hgt hj x hxt)
   obtain⟨b3,b4⟩:=hb x (J _ hxPR)
   have hne:x≠t0:=by
    rintro rfl;rcases hin with e|e
    ·rw[e]at hxm;exact hnt hxm
    ·rw[c2,yhm,yhm]at hnx
     rw[w]at hnx;obtain⟨_,n2,n3⟩:=hnx;rw[w]at n2;rcases ks hjk with hlt|hgt
     ·exact n3 x (inP j hlt x hxt) x (I _ e) rfl
     ·exact n2.2.2 x e x (inR j hgt hj x hxt) rfl
   exact⟨b3,fun i hi=>b4 i hi (.inl hne)⟩
 obtain⟨hc,ho⟩:=yhI (c1 k hk8);have hw:=yhK S (q:Int) lv t a;rw[hixk,if_neg (by simpa using hc)]at hw
 have here:s=spt S t k lv a->∃A B,Spot1 S q lv t a s A B:=by
  intro e;subst e
  have e1:(spt S t k lv a).ahead-(spt S t k lv a).place=a:=by show a+k-k=a;omega
  refine⟨P,R,⟨?_,hixk.symm,hk.symm,by show k<=a+k;omega,ke _,mP,mR,V,by rw[e1];exact c1 k hk8,rfl,V,?_⟩⟩
  ·rw[e1]
   rw[c2,<-kI];rfl
  ·intro S' hb hz'
   rw[e1]at hz' ⊢;have ho':=other S' t k hb (.inr rfl) (.inl rfl)
   have hzz:∀j,j<8->(out S' zW lv (sub S' zW lv) t a j).2=0:=by
    intro j hj
    by_cases e:j=k
    ·rw[e];exact hz'
    ·rw[ho' j hj e];exact c1 j hj
   rw[yjv hzz,ylE hk8,kv,o]
   have eP:(List.range k).flatMap (fun j=>(out S' zW lv (sub S' zW lv) t a j).1)=P:=by
    rw[<-hP];refine yil fun j hj=> ?_
    have hj:j<k:=by simpa using hj
    rw[ho' j (by omega) (by omega)]
   have eR:(kV (k+1) (7-k)).flatMap (fun j=>(out S' zW lv (sub S' zW lv) t a j).1)=R:=by
    rw[<-hR];refine yil fun j hj=> ?_
    have hj:k+1<=j/\j<8:=by rw[kM]at hj;omega
    rw[ho' j (by omega) (by omega)]
   rw[eP,eR,<-kI];rfl
 rcases ho with ⟨hon,ho⟩|⟨hon,hr,ho⟩
 ·rw[if_pos hon]at hw
  rw[hw]at hs;simp at hs;exact here hs
 ·rw[if_neg (by simp[hon])]at hw
  rw[hw]at hs;simp at hs;rcases hs with hs|hs
  ·exact here hs
  ·obtain⟨b,rfl⟩:=yhM hon
   have hr2:(thr S zW b (rEn S t k (b+1)).f ((a+k)*8)).2=0:=hr
   have hdiv:q/8^b/8=a+k:=by rw[kR,<-W];exact hk
   have hon':(spt S t k (b+1) a).e.on=Y:=hon
   have hto:zU (out S zW (b+1) (sub S zW (b+1)) t a k).1=(rEn S t k (b+1)).f::zU (thr S zW b (rEn S t k (b+1)).f ((a+k)*8)).1:=by
    rw[ho];simp[zU,hon',sub];rfl
   have hl':(spt S t k (b+1) a).e.l=O:=by
    have:(rEn S t k (b+1)).on=Y:=hon;simp[En.on]at this;exact this.2
   have hnd2:((rEn S t k (b+1)).f::zU (thr S zW b (rEn S t k (b+1)).f ((a+k)*8)).1).Nodup:=by
    rw[<-hto];rw[c2,yhm,yhm,w]at hnx;have:=hnx.2.1;rw[w]at this;exact this.1
   obtain⟨A,B,sp⟩:=IH b (by omega) (by omega) (rEn S t k (b+1)).f ((a+k)*8) (by omega) (by
    rw[show 4-b=(4-(b+1))+1 by omega,W]
    omega) (by omega) (by omega) hr2 hnd2 s hs
   have hle1:(a+k)*8^(b+1)<=s.ahead*8^s.level:=by
    have hb:=sp.lvl;rw[sp.ahead,<-hk]
    have e1:8^(b+1)=8^s.level*8^(b+1-s.level):=by rw[<-kD];congr 1;omega
    rw[e1,<-kR,kS (8^s.level),<-kQ];exact Q _ (kC _ _)
   have hle2:(s.ahead+1)*8^s.level<=(a+k+1)*8^(b+1):=by
    have hb:=sp.lvl;rw[sp.ahead,<-hk]
    have e1:8^(b+1)=8^(b+1-s.level)*8^s.level:=by rw[<-kD];congr 1;omega
    have hp1:0<8^(b+1-s.level):=kB (by decide);rw[e1,kS (8^(b+1-s.level)),<-kR,kS (8^s.level),<-kQ];refine Q _ ?_;have:=kH (a:=q/8^s.level) hp1;rw[kN,kY];omega
   have hmemk:s.table ∈ zU (out S zW (b+1) (sub S zW (b+1)) t a k).1:=by rw[hto];exact sp.mem
   have hts:t≠s.table:=fun e=>hnt (e.symm▸hsub k hk8 _ hmemk);refine⟨P++spt S t k (b+1) a::A,B++R,⟨?_,sp.place,sp.ahead,sp.le,by have:=sp.lvl;omega,?_,?_,J _ (hsub k hk8 _ hmemk),sp.code,sp.en,by rw[yhm,yhZ hon'];exact J _ (N _ sp.memA),?_⟩⟩
   ·rw[c2,ho]
    have e:=sp.all
    show P++(spt S t k (b+1) a::(thr S zW b (rEn S t k (b+1)).f ((a+k)*8)).1++R)=_
    rw[e];simp[kI]
   ·intro m hm
    rw[yhq]at hm;rcases Z.1 hm with hm|hm
    ·have:=mP m hm;omega
    ·have hm':m ∈ zM A:=by simpa[zM,hl']using hm
     exact sp.ma m hm'
   ·intro m hm
    rw[yhq]at hm;rcases Z.1 hm with hm|hm
    ·exact sp.mb m hm
    ·have:=mR m hm;omega
   ·intro S' hb hz'
    have hbs:But1 S S' ((rEn S t k (b+1)).f::(zU A++zU B)) s.table s.place:=by
     intro x hx;refine hb x (J _ ?_);rw[yhm,yhm,yhZ hon'];rcases H.1 hx with rfl|hx
     ·exact I _ (N _ V)
     ·rcases Z.1 hx with hx|hx
      ·exact I _ (N _ (J _ hx))
      ·exact N _ (I _ hx)
    have hthr:=sp.turn S' hbs hz'
    have hbo:But1 S S' (t::(zU P++zU R)) s.table s.place:=by
     intro x hx;refine hb x ?_;rw[yhm,yhm];rcases H.1 hx with rfl|hx
     ·exact V
     ·refine J _ ?_
      rcases Z.1 hx with hx|hx
      ·exact I _ (I _ hx)
      ·exact N _ (N _ hx)
    have ho':=other S' s.table s.place hbo (.inl hts) (.inr hmemk);obtain⟨b1,b2⟩:=hb t V
    have cc:yhu S' t k (b+1)=yhu S t k (b+1)/\rEn S' t k (b+1)=rEn S t k (b+1):=by
     unfold yhu rEn;rw[b1,b2 k hk8 (.inl hts)];exact⟨rfl,rfl⟩
    have hok:out S' zW (b+1) (sub S' zW (b+1)) t a k=(spt S t k (b+1) a::(thr S' zW b (rEn S t k (b+1)).f ((a+k)*8)).1,(thr S' zW b (rEn S t k (b+1)).f ((a+k)*8)).2):=by
     unfold out spt;rw[cc.1,cc.2,if_neg (by simp[zW]),if_neg (by simpa using hc),if_neg (by simp[hon])];rfl
    rw[hthr]at hok
    have hzz:∀j,j<8->(out S' zW (b+1) (sub S' zW (b+1)) t a j).2=0:=by
     intro j hj
     by_cases e:j=k
     ·rw[e,hok]
     ·rw[ho' j hj e];exact c1 j hj
    rw[yjv hzz,ylE hk8,kv,o]
    have eP:(List.range k).flatMap (fun j=>(out S' zW (b+1) (sub S' zW (b+1)) t a j).1)=P:=by
     rw[<-hP];refine yil fun j hj=> ?_
     have hj:j<k:=by simpa using hj
     rw[ho' j (by omega) (by omega)]
    have eR:(kV (k+1) (7-k)).flatMap (fun j=>(out S' zW (b+1) (sub S' zW (b+1)) t a j).1)=R:=by
     rw[<-hR];refine yil fun j hj=> ?_
     have hj:k+1<=j/\j<8:=by rw[kM]at hj;omega
     rw[ho' j (by omega) (by omega)]
    rw[eP,eR,hok];simp[kI]
end
end Pg
set_option maxRecDepth 10000
namespace Pg
theorem yiA {S:Fs}:∀(lv:Nat) (t:Int) (a:Nat),(thr S zW lv t a).2=0->∀x,x ∈ t::zU (thr S zW lv t a).1->S.has x=Y:=by
 intro lv
 induction lv using kK with
 | _ lv IH=>
 intro t a hz x hx;obtain⟨c1,c2⟩:=yhF hz;rcases H.1 hx with rfl|hx
 ·exact yhw (yhI (c1 0 (by omega))).1
 ·rw[c2]at hx
  simp only[zU,E]at hx;obtain⟨s,⟨j,hj,hs⟩,hy⟩:=hx
  have hj:j<8:=by simpa using hj
  obtain⟨hc,ho⟩:=yhI (c1 j hj);rcases ho with ⟨hon,ho⟩|⟨hon,hr,ho⟩
  ·rw[ho]at hs
   simp at hs;subst hs;have hon':(spt S t j lv a).e.on=O:=hon;simp[hon']at hy
  ·obtain⟨b,rfl⟩:=yhM hon
   have hon':(spt S t j (b+1) a).e.on=Y:=hon;have hr2:(thr S zW b (rEn S t j (b+1)).f ((a+j)*8)).2=0:=hr;refine IH b (by omega) _ _ hr2 x ?_;rw[ho]at hs;simp at hs;rcases hs with rfl|hs
   ·simp[hon']at hy
    subst hy;exact V
   ·refine J _ ?_
    simp only[zU,E];exact⟨s,hs,hy⟩
structure Rep (S:Fs) (L:List Mp):Prop where
 ok:S.Ok
 code:(thr S zW 3 0 0).2=0
 maps:zM (thr S zW 3 0 0).1=L
 nodup:((0:Int)::zU (thr S zW 3 0 0).1).Nodup
 used:∀k:Nat,k ∈ S.used ↔ (k:Int) ∈ (0:Int)::zU (thr S zW 3 0 0).1
 full:∀x,x ∈ zU (thr S zW 3 0 0).1->yhx S x=O
theorem yh4 {S:Fs} {x:Int} (h:S.has x=Y):0<=x:=by
 simp[Fs.has]at h;exact h.1
theorem yiS {S:Fs} {t:Int} (ht:S.has t=Y) {i:Nat} (hi:i<8) (v:Int):S.store t (i:Int) v={S with word:=Fs.put S.word t.toNat i v}:=by
 have:S.at' t (i:Int)=Y:=by simp[Fs.at',ht];omega
 simp[Fs.store,this]
theorem store_but {S:Fs} {t:Int} (ht:S.has t=Y) {i:Nat} (hi:i<8) (v:Int) {T:List Int} (hT:∀x,x ∈ T->S.has x=Y):But1 S (S.store t (i:Int) v) T t i:=by
 intro x hx;refine⟨yit _ _ _ _ _,fun j hj hne=> ?_⟩;rw[yiS ht hi]
 show Fs.put S.word t.toNat i v x.toNat j=_
 unfold Fs.put;rw[if_neg];rintro ⟨e1,e2⟩;have h1:=yh4 ht;have h2:=yh4 (hT x hx);rcases hne with h|h
 ·exact h (by omega)
 ·exact h e2
theorem yiu {S:Fs} {t:Int} (ht:S.has t=Y) {i:Nat} (hi:i<8) (v:Int):(S.store t (i:Int) v).word t.toNat i=v:=by
 rw[yiS ht hi]
 show Fs.put S.word t.toNat i v t.toNat i=v
 simp[Fs.put]
theorem yj3 {S:Fs} {t:Int} (ht:S.has t=Y) {i:Nat} (hi:i<8) (v:Int) (lv:Nat):yhu (S.store t (i:Int) v) t i lv=yhz v lv/\rEn (S.store t (i:Int) v) t i lv=En.of v lv:=by
 unfold yhu rEn;rw[yit,if_pos ht,if_pos ht,yiu ht hi];exact⟨rfl,rfl⟩
structure Found (S:Fs) (L:List Mp) (q lv:Nat) (e:En) (tl:Int) (A B:List Sp):Prop where
 way:Way S 0 (q:Int) (zj S 0 (q:Int)) lv e tl
 spot:Spot1 S q 3 0 0 ⟨tl,ix (q:Int) lv,lv,q/8^lv,e⟩ A B
 le:lv<=3
 list:L=zM A++(if e.t=Y then [e.map lv (q:Int)]else [])++zM B
 tabs:zU (thr S zW 3 0 0).1=zU A++zU B
 one:out S zW lv (sub S zW lv) tl (q/8^lv-ix (q:Int) lv) (ix (q:Int) lv)=([⟨tl,ix (q:Int) lv,lv,q/8^lv,e⟩],0)
theorem yh8 {S:Fs} {L:List Mp} (h:Rep S L) {q:Nat} (hq:q<4096):xG S 0 (q:Int)=0/\∃lv e tl A B,Found S L q lv e tl A B:=by
 have hp:below (q:Int) 4096=Y:=zB.2 ⟨by omega,by omega⟩
 have hd:q/8^3<8:=by
  rw[show(8:Nat)^3=512 by decide];omega
 obtain⟨a1,a2,s,a3,a4⟩:=ykS h.ok q 3 (by omega) 0 0 (by omega) (by decide) (by omega) (by omega) h.code
 have eC:xG S 0 (q:Int)=0:=by unfold xG;rw[if_pos hp,a1]
 have eX:zj S 0 (q:Int)=(thr S (onW (q:Int)) 3 0 0).1:=by unfold zj;rw[if_pos ⟨hp,a1⟩]
 obtain⟨lv,e,tl,hw⟩:=ylh eC;obtain⟨A,B,sp⟩:=yli h.ok q 3 (by omega) 0 0 (by omega) (by decide) (by omega) (by omega) h.code h.nodup s (uB a3)
 have e1:s.level=lv:=by
  have:=hw.yht;rw[eX]at this;unfold Go.Proofs.YtdphiompijbelaaGreatDoor.yht at this;rw[a3]at this;exact kj.1 this
 have e2:s.e=e:=by
  have:=hw.yhr;rw[eX]at this;unfold Go.Proofs.YtdphiompijbelaaGreatDoor.yhr at this;rw[a3]at this
  simpa using this
 have e3:s.table=tl:=by
  have:=hw.lastT;rw[eX]at this;unfold Go.Proofs.YtdphiompijbelaaGreatDoor.lastT at this;rw[a3]at this
  simpa using this
 have hs:s=⟨tl,ix (q:Int) lv,lv,q/8^lv,e⟩:=by
  have h1:=sp.place;have h2:=sp.ahead;rw[e1]at h1 h2;obtain⟨st,spl,sl,sa,se⟩:=s;simp only at e1 e2 e3 h1 h2;subst e1 e2 e3 h1 h2;rfl
 subst hs;have hle:=sp.lvl;have hple:=sp.le;simp only at hle hple;have hix:ix (q:Int) lv<8:=yiD _ _
 have hone:out S zW lv (sub S zW lv) tl (q/8^lv-ix (q:Int) lv) (ix (q:Int) lv)=([⟨tl,ix (q:Int) lv,lv,q/8^lv,e⟩],0):=by
  have hon:=hw.on;rw[hw.en]at hon;unfold out;rw[if_neg (by simp[zW]),if_neg (by simpa using hw.code),if_pos hon];unfold spt;rw[<-hw.en,D hple]
 have hall:=sp.all;simp only at hall;rw[hone]at hall
 have hlm:e.l=Y->e.t=Y:=by
  intro hl;rw[hw.en]at hl ⊢;exact(yhH h.ok hl).2.1
 have htl:e.t=Y->e.l=Y:=by
  intro ht;have:=hw.on;simp[En.on,ht]at this;exact this
 have hmid:zM [(⟨tl,ix (q:Int) lv,lv,q/8^lv,e⟩:Sp)]=if e.t=Y then [e.map lv (q:Int)]else []:=by
  by_cases ht:e.t=Y
  ·have hl:=htl ht
   have hl':(rEn S tl (ix (q:Int) lv) lv).l=Y:=by rw[<-hw.en];exact hl
   have h2:=(yhH h.ok hl').2.2;rw[if_pos ht]
   have hmp:(⟨tl,ix (q:Int) lv,lv,q/8^lv,e⟩:Sp).mp=e.map lv (q:Int):=by
    have e4:(⟨tl,ix (q:Int) lv,lv,q/8^lv,e⟩:Sp)=spt S tl (ix (q:Int) lv) lv (q/8^lv-ix (q:Int) lv):=by
     unfold spt;rw[<-hw.en,D hple]
    have hpow:0<8^lv:=kB (by decide);have hql:q/8^lv*8^lv<4096:=uC (kC _ _) hq;rw[e4,yiJ h2,D hple,yhD h.ok hl' hql,kT _ hpow,hw.en,yhD h.ok hl' hq]
   rw[zM,o,kG,kP,if_pos hl,hmp]
  ·rw[if_neg ht]
   have hl:¬e.l=Y:=fun hl=>ht (hlm hl);rw[zM,o,kG,kP,if_neg hl]
 have htab:zU [(⟨tl,ix (q:Int) lv,lv,q/8^lv,e⟩:Sp)]=[]:=by
  rw[zU,o,kG,kP,if_neg (by rw[hw.on];decide)]
 refine⟨eC,lv,e,tl,A,B,⟨hw,sp,hle,?_,?_,hone⟩⟩
 ·rw[<-h.maps,hall,yhq,yhq,hmid]
 ·rw[hall,yhm,yhm,htab,kP]
theorem yks {S:Fs} {L:List Mp} {q lv:Nat} {e:En} {tl:Int} {A B:List Sp} (h:Found S L q lv e tl A B):
 (e.t=Y->(e.map lv (q:Int)).has (q:Int)=Y)->(e.t=Y->fnd L (q:Int)=some (zM A).length/\at' L (q:Int)=e.map lv (q:Int))/\(e.t=O->fnd L (q:Int)=none):=by
 intro hhas;have hpow:0<8^lv:=kB (by decide);have hlo:q/8^lv*8^lv<=q:=kC _ _
 have hhi:q<(q/8^lv+1)*8^lv:=by
  rw[kN,kY];have:=kH (a:=q) hpow;omega
 have hA:∀m,m ∈ zM A->m.has (q:Int)=O:=by
  intro m hm;have:=h.spot.ma m hm;simp only at this;cases hh:m.has (q:Int)
  ·rfl
  ·simp[Mp.has,over]at hh
   omega
 have hB:∀m,m ∈ zM B->m.has (q:Int)=O:=by
  intro m hm;have:=h.spot.mb m hm;simp only at this;cases hh:m.has (q:Int)
  ·rfl
  ·simp[Mp.has,over]at hh
   omega
 refine⟨fun ht=> ?_,fun ht=> ?_⟩
 ·have hl:=h.list
  rw[if_pos ht]at hl
  have e1:fnd L (q:Int)=some (zM A).length:=by
   unfold fnd;rw[hl,kI,uP]
   have:(zM A).findIdx? (fun m=>m.has (q:Int))=none:=by
    rw[kW];exact hA
   rw[this];simp[hhas ht,uR]
  refine⟨e1,?_⟩;unfold at';rw[e1];simp[hl,List.getD]
 ·have hl:=h.list
  rw[if_neg (by simp[ht])]at hl;unfold fnd;rw[kW,hl];intro m hm;simp at hm;rcases hm with hm|hm
  ·exact hA m hm
  ·exact hB m hm
theorem yh1 {S:Fs} {L:List Mp} {q lv:Nat} {e:En} {tl:Int} {A B:List Sp} (h:S.Ok) (hq:q<4096) (F:Found S L q lv e tl A B) (ht:e.t=Y):e.l=Y/\lv<=2/\e.map lv (q:Int)=⟨((q/8^lv*8^lv:Nat):Int),(lv:Int),e.f,e.r⟩/\(e.map lv (q:Int)).has (q:Int)=Y:=by
 have hl:e.l=Y:=by
  have:=F.way.on;simp[En.on,ht]at this;exact this
 have hl':(rEn S tl (ix (q:Int) lv) lv).l=Y:=by rw[<-F.way.en];exact hl
 have h2:=(yhH h hl').2.2
 have e1:e.map lv (q:Int)=⟨((q/8^lv*8^lv:Nat):Int),(lv:Int),e.f,e.r⟩:=by rw[F.way.en];exact yhD h hl' hq
 refine⟨hl,h2,e1,?_⟩;rw[e1];have hpow:0<8^lv:=kB (by decide);have hlo:q/8^lv*8^lv<=q:=kC _ _;have:=kH (a:=q) hpow;simp only[Mp.has,over,kZ,decide_eq_true_eq];rw[yia h2];omega
theorem yhW {S:Fs} {L:List Mp} (h:Rep S L) (p:Int):tFC S 0 p=yhN L p/\tFM S 0 p=yi0 L p:=by
 cases hp:below p 4096
 ·have e1:tFC S 0 p=1:=by
   have:xG S 0 p=1:=by simp[xG,hp]
   rw[tFC,this,if_pos (by decide)]
  have e2:yhN L p=1:=by rw[yhN,hp,if_neg (by decide)]
  exact⟨by rw[e1,e2],by rw[tFM,yi0,e1,e2,if_neg (by decide),if_neg (by decide)]⟩
 ·obtain⟨p0,p1⟩:=zB.1 hp
  obtain⟨q,rfl⟩:=kA p0;obtain⟨hz,lv,e,tl,A,B,F⟩:=yh8 h (q:=q) (by omega);obtain⟨f1,f2⟩:=yks F (fun ht=>(yh1 h.ok (by omega) F ht).2.2.2)
  have e0:tFC S 0 (q:Int)=if e.t=Y then 0 else 5:=by rw[tFC,hz,if_neg (by decide),F.way.yhr]
  have em:tFM S 0 (q:Int)=if tFC S 0 (q:Int)=0 then e.map lv (q:Int)else .zz:=by rw[tFM,F.way.yhr,F.way.yht]
  cases ht:e.t
  ·have e3:yhN L (q:Int)=5:=by rw[yhN,hp,if_pos rfl,f2 ht,if_pos rfl]
   rw[ht,if_neg (by decide)]at e0;exact⟨by rw[e0,e3],by rw[em,yi0,e0,e3,if_neg (by decide),if_neg (by decide)]⟩
  ·obtain⟨f3,f4⟩:=f1 ht
   have e3:yhN L (q:Int)=0:=by rw[yhN,hp,if_pos rfl,f3,if_neg (by simp)]
   rw[ht,if_pos rfl]at e0;exact⟨by rw[e0,e3],by rw[em,yi0,e0,e3,if_pos rfl,if_pos rfl,f4]⟩
theorem yhQ {S:Fs} {x:Int}:yhx S x=O ↔ ∃i,i<8/\S.word x.toNat i≠0:=by
 unfold yhx;rw[List.all_eq_false];constructor
 ·rintro ⟨i,hi,h⟩
  exact⟨i,by simpa using hi,by simpa using h⟩
 ·rintro ⟨i,hi,h⟩
  exact⟨i,by simpa using hi,by simpa using h⟩
theorem yjJ {S:Fs} (h:S.Ok) {q lv:Nat} (hq:q<4096) {tl:Int} (hple:ix (q:Int) lv<=q/8^lv) {e:En} (he:e=rEn S tl (ix (q:Int) lv) lv) (hl:e.l=Y):(⟨tl,ix (q:Int) lv,lv,q/8^lv,e⟩:Sp).mp=e.map lv (q:Int):=by
 subst he;have h2:=(yhH h hl).2.2
 have e4:(⟨tl,ix (q:Int) lv,lv,q/8^lv,rEn S tl (ix (q:Int) lv) lv⟩:Sp)=spt S tl (ix (q:Int) lv) lv (q/8^lv-ix (q:Int) lv):=by
  unfold spt;rw[D hple]
 have hpow:0<8^lv:=kB (by decide);have hql:q/8^lv*8^lv<4096:=uC (kC _ _) hq;rw[e4,yiJ h2,D hple,yhD h hl hql,kT _ hpow,yhD h hl hq]
theorem ykP {S:Fs} {q lv:Nat} {tl:Int} (hple:ix (q:Int) lv<=q/8^lv) {e:En} (he:e=rEn S tl (ix (q:Int) lv) lv) (hc:yhu S tl (ix (q:Int) lv) lv=0) (hon:e.on=O):
 out S zW lv (sub S zW lv) tl (q/8^lv-ix (q:Int) lv) (ix (q:Int) lv)=([⟨tl,ix (q:Int) lv,lv,q/8^lv,e⟩],0):=by
 subst he;unfold out;rw[if_neg (by simp[zW]),if_neg (by simpa using hc),if_pos hon];unfold spt;rw[D hple]
theorem yif {q lv:Nat} (hq:q<4096) (hl:lv<4):index (q:Int) (lv:Int)=(ix (q:Int) lv:Nat):=yh7 (zB.2 ⟨by omega,by omega⟩) hl
theorem yk9 {S:Fs} {L:List Mp} (h:Rep S L) {q lv:Nat} {e:En} {tl:Int} {A B:List Sp} (hq:q<4096) (F:Found S L q lv e tl A B) (ht:e.t=Y) {r:Int} (hr:0<=r/\r<=7) (u d:Bool):
 Rep (S.store tl ((ix (q:Int) lv:Nat):Int) (enc Y Y r u d e.f (lv:Int))) (L.set (zM A).length ((L.getD (zM A).length .zz).rts r))/\
 thr (S.store tl ((ix (q:Int) lv:Nat):Int) (enc Y Y r u d e.f (lv:Int))) zW 3 0 0=(A++[⟨tl,ix (q:Int) lv,lv,q/8^lv,⟨Y,Y,r,u,d,e.f⟩⟩]++B,0)/\
 (⟨tl,ix (q:Int) lv,lv,q/8^lv,⟨Y,Y,r,u,d,e.f⟩⟩:Sp).mp=(e.map lv (q:Int)).rts r:=by
 obtain⟨hl,h2,hmap,hhas⟩:=yh1 h.ok hq F ht;have hple:=F.spot.le;simp only at hple;have hix:ix (q:Int) lv<8:=yiD _ _;have hlt:=F.way.hasT
 have hf:yhp Y Y r u d e.f (lv:Int)=0:=by
  have h0:yhp e.t e.l e.r e.u e.d e.f (lv:Int)=0:=by
   have:=yhR h.ok F.way.code;rw[<-F.way.en]at this;exact this
  rw[ht,hl]at h0;obtain⟨_,hx⟩:=yhA h0;rcases hx with ⟨hx,_⟩|⟨_,_,_,f0,f1,⟨_,_,fs⟩|⟨hx,_⟩⟩
  ·cases hx
  ·exact yjb (by omega) (by omega) hr.1 hr.2 f0 f1 fs
  ·cases hx
 obtain⟨v0,v1,vc,vz,d1,d2,d3,d4,d5,d6⟩:=yiZ hf
 have hvne:enc Y Y r u d e.f (lv:Int)≠0:=fun hh=>by
  have:=vz.1 hh;cases this
 have hEn:En.of (enc Y Y r u d e.f (lv:Int)) (lv:Int)=⟨Y,Y,r,u,d,e.f⟩:=by
  unfold En.of;rw[d1,d2,d3,d4,d5,d6]
 generalize enc Y Y r u d e.f (lv:Int)=v at*;obtain⟨rs1,rs2⟩:=yj3 hlt hix v lv;have ok':=h.ok.store tl ((ix (q:Int) lv:Nat):Int) v0 v1;have hTh:=yiA 3 0 0 h.code;have hsubT:∀x,x ∈ (0:Int)::(zU A++zU B)->S.has x=Y:=fun x hx=>hTh x (by rw[F.tabs];exact hx);have hb:=store_but hlt hix v hsubT
 have ho':out (S.store tl ((ix (q:Int) lv:Nat):Int) v) zW lv (sub (S.store tl ((ix (q:Int) lv:Nat):Int) v) zW lv) tl (q/8^lv-ix (q:Int) lv) (ix (q:Int) lv)=([⟨tl,ix (q:Int) lv,lv,q/8^lv,⟨Y,Y,r,u,d,e.f⟩⟩],0):=
  ykP hple (by rw[rs2,hEn]) (by rw[rs1];exact vc) rfl
 have hthr:=F.spot.turn (S.store tl ((ix (q:Int) lv:Nat):Int) v) hb (by simp only;rw[ho']);simp only at hthr;rw[ho']at hthr
 have hmp:(⟨tl,ix (q:Int) lv,lv,q/8^lv,⟨Y,Y,r,u,d,e.f⟩⟩:Sp).mp=(e.map lv (q:Int)).rts r:=by
  rw[yjJ ok' hq hple (by rw[rs2,hEn]) rfl,hmap]
  have hl2:(rEn (S.store tl ((ix (q:Int) lv:Nat):Int) v) tl (ix (q:Int) lv) lv).l=Y:=by rw[rs2,hEn]
  have:=yhD ok' hl2 hq;rw[rs2,hEn]at this;rw[this];rfl
 have htab:zU (A++[(⟨tl,ix (q:Int) lv,lv,q/8^lv,⟨Y,Y,r,u,d,e.f⟩⟩:Sp)]++B)=zU (thr S zW 3 0 0).1:=by
  rw[F.tabs,yhm,yhm];simp[zU,En.on]
 obtain⟨n1,n2,n3,n4⟩:=yiq S tl ((ix (q:Int) lv:Nat):Int) v;refine⟨⟨ok',by rw[hthr],?_,?_,?_,?_⟩,hthr,hmp⟩
 ·rw[hthr]
  simp only;rw[yhq,yhq]
  have hone:zM [(⟨tl,ix (q:Int) lv,lv,q/8^lv,⟨Y,Y,r,u,d,e.f⟩⟩:Sp)]=[(e.map lv (q:Int)).rts r]:=by
   rw[zM,o,kG,kP,if_pos rfl,hmp]
  rw[hone];have hL:=F.list;rw[if_pos ht]at hL;rw[hL,kI,kI];simp[List.getD]
 ·rw[hthr];simp only;rw[htab];exact h.nodup
 ·intro k
  rw[hthr];simp only;rw[htab,n2];exact h.used k
 ·intro x hx
  rw[hthr]at hx;simp only at hx;rw[htab]at hx;rw[yhQ];obtain⟨i,hi,hne⟩:=yhQ.1 (h.full x hx)
  by_cases e1:x=tl/\i=ix (q:Int) lv
  ·obtain⟨rfl,rfl⟩:=e1
   exact⟨_,hix,by rw[yiu hlt hix];exact hvne⟩
  ·refine⟨i,hi,?_⟩
   have:=(hb x (by rw[<-F.tabs];exact J _ hx)).2 i hi (by
    by_cases e2:x=tl
    ·exact .inr fun e3=>e1 ⟨e2,e3⟩
    ·exact .inl e2)
   rw[this];exact hne
theorem rep_protect {S:Fs} {L:List Mp} (h:Rep S L) (p r:Int):prC S 0 p r=yiE L p r/\prM S 0 p r=ykj L p r/\Rep (prS S 0 p r) (yi4 L p r):=by
 obtain⟨hc,hm⟩:=yhW h p
 have ec:prC S 0 p r=yiE L p r:=by
  unfold prC yiE
  by_cases hr:r<0\/7<r
  ·have hb:below r 8=O:=below_not.2 (by omega)
   rw[if_pos hr,hb,if_neg (by decide)]
  ·have hb:below r 8=Y:=zB.2 (by omega)
   rw[if_neg hr,hb,if_pos rfl,hc]
 refine⟨ec,?_,?_⟩
 ·unfold prM ykj
  rw[ec]
  by_cases hz:yiE L p r=0
  ·rw[if_pos hz,if_pos hz,hm]
   have:yhN L p=0:=by
    unfold yiE at hz;split at hz
    ·exact hz
    ·omega
   rw[yi0,if_pos this]
  ·rw[if_neg hz,if_neg hz]
 ·unfold prS yi4
  rw[ec]
  by_cases hz:yiE L p r=0
  ·rw[if_pos hz,if_pos hz]
   have hr:0<=r/\r<=7:=by
    unfold yiE at hz;split at hz
    ·rename_i hb
     have:=zB.1 hb;omega
    ·omega
   have hd:yhN L p=0:=by
    unfold yiE at hz;split at hz
    ·exact hz
    ·omega
   have hp:below p 4096=Y:=by
    unfold yhN at hd;split at hd
    ·assumption
    ·omega
   obtain⟨p0,p1⟩:=zB.1 hp;obtain⟨q,rfl⟩:=kA p0
   have hq:q<4096:=by omega
   obtain⟨hz2,lv,e,tl,A,B,F⟩:=yh8 h hq
   have ht:e.t=Y:=by
    have:tFC S 0 (q:Int)=0:=by rw[hc];exact hd
    rw[tFC,hz2,if_neg (by decide),F.way.yhr]at this;cases he:e.t
    ·rw[he,if_neg (by decide)]at this;omega
    ·rfl
   obtain⟨hl,h2,hmap,hhas⟩:=yh1 h.ok hq F ht;obtain⟨f3,f4⟩:=(yks F (fun _=>hhas)).1 ht;rw[F.way.lastT,F.way.yht,F.way.yhr,yif hq (by omega),ht,hl,f3];exact(yk9 h hq F ht hr e.u e.d).1
  ·rw[if_neg hz,if_neg hz]
   exact h
end Pg
namespace Pg
theorem ykK (q lv:Nat):ix (q:Int) lv<=q/8^lv/\q/8^lv-ix (q:Int) lv=q/8^(lv+1)*8:=by
 have e:ix (q:Int) lv=q/8^lv%8:=by
  unfold ix
  have e:(q:Int)/8^lv%8=((q/8^lv%8:Nat):Int):=by simp
  rw[e,kL]
 rw[e,W,<-kR];generalize q/8^lv=x;omega
theorem yiK {S:Fs} {t:Int} (ht:S.has t=Y) {i lv:Nat} (hlv:lv<4) (h:S.word t.toNat i=0):yhu S t i lv=0/\rEn S t i lv=En.zero:=by
 unfold yhu rEn;rw[if_pos ht,if_pos ht,h]
 have hd:yhz 0 (lv:Int)=0:=by
  have:¬((lv:Int)<0\/3<(lv:Int)):=by omega
  simp[yhz,this,wBad]
 have hg:yhB 0 (lv:Int)=O:=by simp[yhB]
 refine⟨hd,?_⟩;unfold En.of En.zero xL xR xU xD xF;rw[hg];rfl
theorem ykD {S:Fs} {k:Nat} (hp:S.pick=some k) (x i:Nat):S.take.word x i=if x=k then 0 else S.word x i:=by
 unfold Fs.pick at hp;unfold Fs.take
 cases hb:S.back.getLast? with
 | some j=>
   rw[hb]at hp;cases hp;rfl
 | none=>
   rw[hb]at hp;simp only at hp ⊢;split at hp
   ·rename_i hlt
    cases hp;rw[if_pos hlt];rfl
   ·cases hp
theorem take_used {S:Fs} {k:Nat} (hp:S.pick=some k):S.take.used=k::S.used:=by
 unfold Fs.pick at hp;unfold Fs.take
 cases hb:S.back.getLast? with
 | some j=>
   rw[hb]at hp;cases hp;rfl
 | none=>
   rw[hb]at hp;simp only at hp ⊢;split at hp
   ·rename_i hlt
    cases hp;rw[if_pos hlt]
   ·cases hp
structure Chain (S S':Fs) (q l:Nat) (t:Int) (m:Mp) (K:List Nat):Prop where
 ok:S'.Ok
 code:(out S' zW l (sub S' zW l) t (q/8^l-ix (q:Int) l) (ix (q:Int) l)).2=0
 maps:zM (out S' zW l (sub S' zW l) t (q/8^l-ix (q:Int) l) (ix (q:Int) l)).1=[m]
 tabs:zU (out S' zW l (sub S' zW l) t (q/8^l-ix (q:Int) l) (ix (q:Int) l)).1=K.map fun k:Nat=>(k:Int)
 used:S'.used=K.reverse++S.used
 nd:K.Nodup/\∀k,k ∈ K->k ∉ S.used
 full:∀k,k ∈ K->yhx S' (k:Int)=O
 word:S'.word t.toNat (ix (q:Int) l)≠0
 same:∀x,x ∈ S.used->∀i,(x≠t.toNat\/i≠ix (q:Int) l)->S'.word x i=S.word x i
theorem chain {q:Nat} (hq:q<4096) {m:Mp} (hm:m.code=0) (hmp:m.p=(q:Int)) {sz:Nat} (hms:m.s=(sz:Int)):∀(d l:Nat),l=sz+d->l<4->∀(S:Fs) (t:Int),S.Ok->S.has t=Y->(d:Int)<=S.free->
 ∃K,Chain S ((insW m.p m.s l S t).1.store (insW m.p m.s l S t).2 (index m.p m.s) (enc Y Y m.r O O m.f m.s)) q l t m K:=by
 obtain⟨z0,z1,z2,z3,z4,z5,z6,z7,z8⟩:=yhy hm
 have hsz2:sz<=2:=by
  rw[hms]at z0
  rcases yhG (sz:Int)with h|h|h|h<;>omega
 intro d
 induction d with
 | zero=>
   intro l hl hl4 S t ok ht hf
   have hl:l=sz:=by omega
   subst hl
   have e0:insW m.p m.s l S t=(S,t):=by
    cases l with
    | zero=>rfl
    | succ l=>
      show(if ((l+1:Nat):Int)<=m.s then(S,t)else _)=_
      rw[if_pos (by omega)]
   rw[e0];simp only;rw[hmp,hms,yif hq hl4];have hix:ix (q:Int) l<8:=yiD _ _;obtain⟨hple,_⟩:=ykK q l;have hf0:yhp Y Y m.r O O m.f (l:Int)=0:=yjb (by omega) (by omega) z5 (by omega) z3 z4 (by rw[<-hms];exact z8);obtain⟨v0,v1,vc,vz,d1,d2,d3,d4,d5,d6⟩:=yiZ hf0
   have hvne:enc Y Y m.r O O m.f (l:Int)≠0:=fun hh=>by
    have:=vz.1 hh;cases this
   have hEn:En.of (enc Y Y m.r O O m.f (l:Int)) (l:Int)=⟨Y,Y,m.r,O,O,m.f⟩:=by
    unfold En.of;rw[d1,d2,d3,d4,d5,d6]
   generalize enc Y Y m.r O O m.f (l:Int)=v at*;obtain⟨rs1,rs2⟩:=yj3 ht hix v l;have ok':=ok.store t ((ix (q:Int) l:Nat):Int) v0 v1
   have ho:out (S.store t ((ix (q:Int) l:Nat):Int) v) zW l (sub (S.store t ((ix (q:Int) l:Nat):Int) v) zW l) t (q/8^l-ix (q:Int) l) (ix (q:Int) l)=([⟨t,ix (q:Int) l,l,q/8^l,⟨Y,Y,m.r,O,O,m.f⟩⟩],0):=
    ykP hple (by rw[rs2,hEn]) (by rw[rs1];exact vc) rfl
   have hmpp:(⟨t,ix (q:Int) l,l,q/8^l,⟨Y,Y,m.r,O,O,m.f⟩⟩:Sp).mp=m:=by
    rw[yjJ ok' hq hple (by rw[rs2,hEn]) rfl]
    have hl2:(rEn (S.store t ((ix (q:Int) l:Nat):Int) v) t (ix (q:Int) l) l).l=Y:=by rw[rs2,hEn]
    have:=yhD ok' hl2 hq;rw[rs2,hEn]at this;rw[this]
    have hal:q/8^l*8^l=q:=by
     rw[hmp,hms,yia hsz2]at z7
     have:q%8^l=0:=by omega
     have:=kh q (8^l);rw[kS]at this;omega
    rw[hal,<-hmp,<-hms]
   obtain⟨n1,n2,n3,n4⟩:=yiq S t ((ix (q:Int) l:Nat):Int) v;refine⟨[],ok',by rw[ho],?_,?_,by rw[n2];rfl,⟨kp,fun k hk=>by simp at hk⟩,fun k hk=>by simp at hk,by rw[yiu ht hix];exact hvne,?_⟩
   ·rw[ho]
    simp only;rw[zM,o,kG,kP,if_pos rfl,hmpp]
   ·rw[ho]
    simp[zU,En.on]
   ·intro x hx i hne
    rw[yiS ht hix]
    show Fs.put S.word t.toNat (ix (q:Int) l) v x i=_
    unfold Fs.put;rw[if_neg];rintro ⟨e1,e2⟩;rcases hne with h|h
    ·exact h e1
    ·exact h e2
 | succ d ih=>
   intro l hl hl4 S t ok ht hf;obtain⟨l',rfl⟩:∃l',l=l'+1:=⟨sz+d,by omega⟩;obtain⟨k,hpk,hkN,hkn,hkh,hkk,hkf,hknn⟩:=take_some ok (by omega)
   have e0:insW m.p m.s (l'+1) S t=insW m.p m.s l' (S.take.store t (index m.p ((l'+1:Nat):Int)) (enc Y O 7 O O (k:Int) ((l'+1:Nat):Int))) (k:Int):=by
    show(if ((l'+1:Nat):Int)<=m.s then(S,t)else _)=_
    rw[if_neg (by omega),hkN]
   rw[e0];have hix1:ix (q:Int) (l'+1)<8:=yiD _ _;have hix0:ix (q:Int) l'<8:=yiD _ _;obtain⟨hple1,_⟩:=ykK q (l'+1);obtain⟨hple0,hsub0⟩:=ykK q l'
   have e1:index m.p ((l'+1:Nat):Int)=(ix (q:Int) (l'+1):Nat):=by rw[hmp];exact yif hq hl4
   rw[e1];have ht1:=hkk t ht;have okt:=ok.take;have hsm:=ok.small;have hf0:yhp Y O 7 O O (k:Int) ((l'+1:Nat):Int)=0:=fault_table (by omega) (by omega) (by omega) (by omega);obtain⟨v0,v1,vc,vz,d1,d2,d3,d4,d5,d6⟩:=yiZ hf0
   have hvne:enc Y O 7 O O (k:Int) ((l'+1:Nat):Int)≠0:=fun hh=>by
    have:=vz.1 hh;cases this
   have hEn:En.of (enc Y O 7 O O (k:Int) ((l'+1:Nat):Int)) ((l'+1:Nat):Int)=⟨Y,O,7,O,O,(k:Int)⟩:=by
    unfold En.of;rw[d1,d2,d3,d4,d5,d6]
   generalize enc Y O 7 O O (k:Int) ((l'+1:Nat):Int)=v at*;have okS2:=okt.store t ((ix (q:Int) (l'+1):Nat):Int) v0 v1
   have hS2k:(S.take.store t ((ix (q:Int) (l'+1):Nat):Int) v).has (k:Int)=Y:=by rw[yit];exact hkh
   obtain⟨K,C⟩:=ih l' (by omega) (by omega) (S.take.store t ((ix (q:Int) (l'+1):Nat):Int) v) (k:Int) okS2 hS2k (by rw[yj8,hkf];omega);generalize hS3:(insW m.p m.s l' (S.take.store t ((ix (q:Int) (l'+1):Nat):Int) v) (k:Int)).1.store (insW m.p m.s l' (S.take.store t ((ix (q:Int) (l'+1):Nat):Int) v) (k:Int)).2 (index m.p m.s) (enc Y Y m.r O O m.f m.s)=S3 at*;obtain⟨n1,n2,n3,n4⟩:=yiq S.take t ((ix (q:Int) (l'+1):Nat):Int) v
   have hu2:(S.take.store t ((ix (q:Int) (l'+1):Nat):Int) v).used=k::S.used:=by rw[n2,take_used hpk]
   have hknu:k ∉ S.used:=(ok.ylD hpk).2;have htu:t.toNat ∈ S.used:=(ok.yiX ht).2.2;have htk:t.toNat≠k:=fun e=>hknu (e▸htu);have t0:=yh4 ht
   have w1:S3.word t.toNat (ix (q:Int) (l'+1))=v:=by
    rw[C.same t.toNat (by rw[hu2];exact J _ htu) _ (.inl (by simpa using htk)),yiu ht1 hix1]
   have has3:∀x:Int,0<=x->x.toNat ∈ S3.used->S3.has x=Y:=fun x h0 hx=>by simp[Fs.has,Fs.inn,h0,hx]
   have hu3:S3.used=K.reverse++(k::S.used):=by rw[C.used,hu2]
   have ht3:S3.has t=Y:=has3 t t0 (by rw[hu3];exact N _ (J _ htu));have hk3:S3.has (k:Int)=Y:=has3 _ (by omega) (by rw[hu3];exact N _ (by simp))
   have hr3:yhu S3 t (ix (q:Int) (l'+1)) (l'+1)=0/\rEn S3 t (ix (q:Int) (l'+1)) (l'+1)=⟨Y,O,7,O,O,(k:Int)⟩:=by
    unfold yhu rEn;rw[if_pos ht3,if_pos ht3,w1];exact⟨vc,hEn⟩
   have wk:∀j,j<8->j≠ix (q:Int) l'->S3.word k j=0:=by
    intro j hj hne;rw[C.same k (by rw[hu2];simp) j (.inr hne)];rw[yiS ht1 hix1]
    show Fs.put S.take.word t.toNat (ix (q:Int) (l'+1)) v k j=0
    unfold Fs.put;rw[if_neg (by rintro ⟨e,_⟩;exact htk e.symm),ykD hpk,if_pos rfl]
   have hoj:∀j,j<8->j≠ix (q:Int) l'->out S3 zW l' (sub S3 zW l') (k:Int) (q/8^l'-ix (q:Int) l') j=([spt S3 (k:Int) j l' (q/8^l'-ix (q:Int) l')],0)/\(spt S3 (k:Int) j l' (q/8^l'-ix (q:Int) l')).e=En.zero:=by
    intro j hj hne;obtain⟨r1,r2⟩:=yiK (lv:=l') hk3 (by omega) (show S3.word (k:Int).toNat j=0 by rw[kL];exact wk j hj hne);refine⟨?_,r2⟩;unfold out;rw[if_neg (by simp[zW]),if_neg (by simpa using r1),if_pos (by rw[r2];rfl)]
   have hzz:∀j,j<8->(out S3 zW l' (sub S3 zW l') (k:Int) (q/8^l'-ix (q:Int) l') j).2=0:=by
    intro j hj
    by_cases e:j=ix (q:Int) l'
    ·rw[e];exact C.code
    ·rw[(hoj j hj e).1]
   have hthr:=yjv hzz
   have hmaps:zM (thr S3 zW l' (k:Int) (q/8^l'-ix (q:Int) l')).1=[m]:=by
    rw[hthr]
    have e:zM ((List.range 8).flatMap fun j=>(out S3 zW l' (sub S3 zW l') (k:Int) (q/8^l'-ix (q:Int) l') j).1)=(kV 0 8).flatMap fun j=>zM (out S3 zW l' (sub S3 zW l') (k:Int) (q/8^l'-ix (q:Int) l') j).1:=by
     simp only[zM,kJ,kX]
    rw[e,flatMap_one _ (ix (q:Int) l') 8 0 (fun j _ h2 h3=>by rw[(hoj j (by omega) h3).1];simp[zM,(hoj j (by omega) h3).2,En.zero]),if_pos (by omega),C.maps]
   have htabs:zU (thr S3 zW l' (k:Int) (q/8^l'-ix (q:Int) l')).1=K.map fun k:Nat=>(k:Int):=by
    rw[hthr]
    have e:zU ((List.range 8).flatMap fun j=>(out S3 zW l' (sub S3 zW l') (k:Int) (q/8^l'-ix (q:Int) l') j).1)=(kV 0 8).flatMap fun j=>zU (out S3 zW l' (sub S3 zW l') (k:Int) (q/8^l'-ix (q:Int) l') j).1:=by
     simp only[zU,kJ,kX]
    rw[e,flatMap_one _ (ix (q:Int) l') 8 0 (fun j _ h2 h3=>by rw[(hoj j (by omega) h3).1];simp[zU,(hoj j (by omega) h3).2,En.zero,En.on]),if_pos (by omega),C.tabs]
   have hcz:(thr S3 zW l' (k:Int) (q/8^l'-ix (q:Int) l')).2=0:=by rw[hthr]
   have ho:out S3 zW (l'+1) (sub S3 zW (l'+1)) t (q/8^(l'+1)-ix (q:Int) (l'+1)) (ix (q:Int) (l'+1))=(spt S3 t (ix (q:Int) (l'+1)) (l'+1) (q/8^(l'+1)-ix (q:Int) (l'+1))::(thr S3 zW l' (k:Int) (q/8^l'-ix (q:Int) l')).1,0):=by
    unfold out;rw[if_neg (by simp[zW]),if_neg (by simpa using hr3.1),if_neg (by rw[hr3.2];simp[En.on]),hr3.2,D hple1,<-hsub0]
    show(_,(thr S3 zW l' (k:Int) (q/8^l'-ix (q:Int) l')).2)=_
    rw[hcz];rfl
   have hse:(spt S3 t (ix (q:Int) (l'+1)) (l'+1) (q/8^(l'+1)-ix (q:Int) (l'+1))).e=⟨Y,O,7,O,O,(k:Int)⟩:=hr3.2;refine⟨k::K,C.ok,by rw[ho],?_,?_,?_,?_,?_,by rw[w1];exact hvne,?_⟩
   ·rw[ho]
    simp only
    have:zM (spt S3 t (ix (q:Int) (l'+1)) (l'+1) (q/8^(l'+1)-ix (q:Int) (l'+1))::(thr S3 zW l' (k:Int) (q/8^l'-ix (q:Int) l')).1)=zM (thr S3 zW l' (k:Int) (q/8^l'-ix (q:Int) l')).1:=by
     simp[zM,hse]
    rw[this,hmaps]
   ·rw[ho]
    simp only;rw[yhZ (by rw[hse];rfl),hse,htabs];rfl
   ·rw[hu3]
    simp
   ·refine⟨kF.2 ⟨fun hk=> ?_,C.nd.1⟩,fun x hx=> ?_⟩
    ·exact C.nd.2 k hk (by rw[hu2];simp)
    ·rcases H.1 hx with rfl|hx
     ·exact hknu
     ·exact fun hu=>C.nd.2 x hx (by rw[hu2];exact J _ hu)
   ·intro x hx
    rcases H.1 hx with rfl|hx
    ·rw[yhQ]
     exact⟨ix (q:Int) l',hix0,by have:=C.word;exact this⟩
    ·exact C.full x hx
   ·intro x hx i hne
    have hxk:x≠k:=fun e=>hknu (e▸hx);rw[C.same x (by rw[hu2];exact J _ hx) i (.inl (by simpa using hxk)),yiS ht1 hix1]
    show Fs.put S.take.word t.toNat (ix (q:Int) (l'+1)) v x i=_
    unfold Fs.put;rw[if_neg (by rintro ⟨e1,e2⟩;rcases hne with h|h;exact h e1;exact h e2),ykD hpk,if_neg hxk]
end Pg
namespace Pg
theorem way_step (S:Fs) (p:Int):∀(lv:Nat) (t:Int) (a:Nat),(thr S (onW p) lv t a).2=0->∀s,(thr S (onW p) lv t a).1.getLast?=some s->∀l,s.level<l->l<=lv->∃s',s' ∈ (thr S (onW p) lv t a).1/\s'.level=l/\s'.e.on=Y:=by
 intro lv
 induction lv with
 | zero=>
   intro t a _ s _ l h1 h2;omega
 | succ lv ih=>
   intro t a hz s hs l h1 h2;rw[yhK]at hz hs ⊢;split at hz
   ·rename_i h3
    exact absurd hz h3
   ·rename_i h3
    rw[if_neg h3]at hs ⊢;split at hz
    ·rename_i h4
     rw[if_pos h4]at hs;simp at hs;subst hs;have:(spt S t (ix p (lv+1)) (lv+1) a).level=lv+1:=rfl;omega
    ·rename_i h4
     rw[if_neg h4]at hs ⊢;simp only[sub]at hz hs ⊢
     have h4:(rEn S t (ix p (lv+1)) (lv+1)).on=Y:=by simpa using h4
     by_cases e:l=lv+1
     ·exact⟨_,V,e.symm,h4⟩
     ·obtain⟨s2,j1,_⟩:=(ylg S p lv (rEn S t (ix p (lv+1)) (lv+1)).f ((a+ix p (lv+1))*8)).2 hz
      have hs2:s2=s:=by
       rw[uS,j1]at hs
       simpa using hs
      subst hs2;obtain⟨s',m1,m2⟩:=ih _ _ hz s2 j1 l h1 (by omega);exact⟨s',J _ m1,m2⟩
theorem ylA {S:Fs}:∀(lv:Nat) (t:Int) (a:Nat),(thr S zW lv t a).2=0->yhx S t=O->(∀x,x ∈ zU (thr S zW lv t a).1->yhx S x=O)->∃m,m ∈ zM (thr S zW lv t a).1:=by
 intro lv
 induction lv using kK with
 | _ lv IH=>
 intro t a hz he hall;obtain⟨i,hi,hne⟩:=yhQ.1 he;obtain⟨c1,c2⟩:=yhF hz;obtain⟨hc,ho⟩:=yhI (c1 i hi);have hh:=yhw hc
 have ht:(rEn S t i lv).t=Y:=by
  unfold yhu at hc;rw[if_pos hh]at hc;unfold rEn;rw[if_pos hh]
  show yhB (S.word t.toNat i) lv=Y
  simp[yhB,hc,hne]
 have inn:∀m,m ∈ zM (out S zW lv (sub S zW lv) t a i).1->m ∈ zM (thr S zW lv t a).1:=by
  intro m hm;rw[c2];simp only[zM,E]at hm ⊢;obtain⟨s,hs,hm⟩:=hm;exact⟨s,⟨i,by simpa using hi,hs⟩,hm⟩
 rcases ho with ⟨hon,ho⟩|⟨hon,hr,ho⟩
 ·have hl:(spt S t i lv a).e.l=Y:=by
   have:(rEn S t i lv).on=O:=hon;simp[En.on,ht]at this;exact this
  exact⟨(spt S t i lv a).mp,inn _ (by rw[ho];simp[zM,hl])⟩
 ·obtain⟨b,rfl⟩:=yhM hon
  have hr2:(thr S zW b (rEn S t i (b+1)).f ((a+i)*8)).2=0:=hr;have hon':(spt S t i (b+1) a).e.on=Y:=hon
  have hsub:∀x,x ∈ (rEn S t i (b+1)).f::zU (thr S zW b (rEn S t i (b+1)).f ((a+i)*8)).1->x ∈ zU (thr S zW (b+1) t a).1:=by
   intro x hx;refine yiT hi hz ?_;rw[ho,yhZ hon'];exact hx
  obtain⟨m,hm⟩:=IH b (by omega) _ _ hr2 (hall _ (hsub _ V)) (fun x hx=>hall x (hsub x (J _ hx)));refine⟨m,inn m ?_⟩;rw[ho];simp only[zM,o,Z];exact .inr hm
section
variable {S:Fs}
theorem yky (h:S.Ok):∀(lv:Nat),lv<4->∀(t:Int) (a:Nat),a+8<=8^(4-lv)->(thr S zW lv t a).2=0->(∀m,m ∈ zM (thr S zW lv t a).1->m.code=0)/\(zM (thr S zW lv t a).1).Pairwise fun x y=>x.p+span x.s<=y.p:=by
 intro lv
 induction lv using kK with
 | _ lv IH=>
 intro hlv t a ha hz;obtain⟨c1,c2⟩:=yhF hz;have hpow:0<8^lv:=kB (by decide)
 have hall:(a+8)*8^lv<=4096:=by
  have h3:(a+8)*8^lv<=8^(4-lv)*8^lv:=Q _ ha;rw[<-kD,show 4-lv+lv=4 by omega]at h3
  have e:(8:Nat)^4=4096:=by decide
  omega
 have one:∀j,j<8->(∀m,m ∈ zM (out S zW lv (sub S zW lv) t a j).1->m.code=0)/\(zM (out S zW lv (sub S zW lv) t a j).1).Pairwise fun x y=>x.p+span x.s<=y.p:=by
  intro j hj;have hbj:(a+j+1)*8^lv<=(a+8)*8^lv:=Q _ (by omega)
  have hex:(a+j+1)*8^lv=(a+j)*8^lv+8^lv:=by rw[kN,kY]
  obtain⟨hc,ho⟩:=yhI (c1 j hj);rcases ho with ⟨hon,ho⟩|⟨hon,hr,ho⟩
  ·rw[ho]
   by_cases hl:(rEn S t j lv).l=Y
   ·have hl':(spt S t j lv a).e.l=Y:=hl
    have e:zM [spt S t j lv a]=[(spt S t j lv a).mp]:=by simp[zM,hl']
    rw[e];refine⟨fun m hm=> ?_,List.pairwise_singleton _ _⟩;simp at hm;subst hm;have h2:=(yhH h hl).2.2;have hf:=yhR h hc;obtain⟨_,hx⟩:=yhA hf;rcases hx with ⟨_,hx,_⟩|⟨_,r0,r1,f0,f1,⟨_,_,fs⟩|⟨hx,_⟩⟩
    ·rw[hx]at hl;cases hl
    ·rw[yiJ h2,yhD h hl (by omega),kT _ hpow]
     unfold Mp.code;simp only;have hsp:=yia h2
     have hs0:span (lv:Int)≠0:=by rw[hsp];omega
     rw[yie hs0 (zB.2 ⟨by omega,by omega⟩) (zB.2 ⟨f0,f1⟩) (zB.2 ⟨r0,by omega⟩),if_pos];refine⟨?_,fs⟩;rw[hsp];rw[<-Int.natCast_emod,Nat.mul_mod_left];rfl
    ·rw[hx]at hl;cases hl
   ·have hl':(spt S t j lv a).e.l=O:=ki.2 hl
    have e:zM [spt S t j lv a]=[]:=by simp[zM,hl']
    rw[e];exact⟨fun m hm=>by simp at hm,List.Pairwise.nil⟩
  ·obtain⟨b,rfl⟩:=yhM hon
   have hl':(spt S t j (b+1) a).e.l=O:=by
    have:(rEn S t j (b+1)).on=Y:=hon;simp[En.on]at this;exact this.2
   have e:zM (out S zW (b+1) (sub S zW (b+1)) t a j).1=zM (thr S zW b (rEn S t j (b+1)).f ((a+j)*8)).1:=by
    rw[ho];simp[zM,hl',sub]
   rw[e]
   exact IH b (by omega) (by omega) _ _ (by
    rw[show 4-b=(4-(b+1))+1 by omega,W]
    omega) hr
 have e:zM (thr S zW lv t a).1=(List.range 8).flatMap fun j=>zM (out S zW lv (sub S zW lv) t a j).1:=by
  rw[c2];simp only[zM,kJ]
 rw[e];refine⟨fun m hm=> ?_,?_⟩
 ·rw[E]at hm
  obtain⟨j,hj,hm⟩:=hm;exact(one j (by simpa using hj)).1 m hm
 ·rw[uI]
  refine⟨fun j hj=>(one j (by simpa using hj)).2,?_⟩;refine List.Pairwise.imp_of_mem ?_ (List.pairwise_lt_range (n:=8));intro i j hi hj hij x hx y hy
  have hi:i<8:=by simpa using hi
  have hj:j<8:=by simpa using hj
  have h1:=(yis h hlv hi ha (c1 i hi) hx).2;have h2:=(yis h hlv hj ha (c1 j hj) hy).1;have:(a+i+1)*8^lv<=(a+j)*8^lv:=Q _ (by omega);omega
end
theorem yhS {S:Fs} {L:List Mp} (h:Rep S L):Good L:=by
 obtain⟨h1,h2⟩:=yky h.ok 3 (by omega) 0 0 (by decide) h.code;rw[h.maps]at h1 h2;refine⟨h1,List.Pairwise.imp_of_mem ?_ h2⟩;intro x y hx hy hxy;have s1:=(yhy (h1 x hx)).1;have s2:=(yhy (h1 y hy)).1;have b1:=(yhP x.s).1;have b2:=(yhP y.s).1;refine⟨by omega,?_⟩;cases hm:x.meets y
 ·rfl
 ·simp[Mp.meets,meet,over]at hm
  omega
theorem ylv {m:Mp}:∀{A B:List Mp},(∀x,x ∈ A->x.p<m.p)->(∀x,x ∈ B->m.p<x.p)->ins m (A++B)=A++m::B
 | [],[],_,_=>rfl
 | [],y::B,_,hB=>by
   show ins m (y::B)=m::y::B
   unfold ins;rw[if_pos (hB y V)]
 | x::A,B,hA,hB=>by
   show ins m (x::(A++B))=x::(A++m::B)
   unfold ins;rw[if_neg (by have:=hA x V;omega),ylv (fun y hy=>hA y (J _ hy)) hB]
theorem yj5 {S:Fs} {L:List Mp} (h:Rep S L) (m:Mp):(insC S 0 m=6/\S.free<3/\insS S 0 m=S)\/(insC S 0 m≠6/\insC S 0 m=addC L m/\Rep (insS S 0 m) (addL L m)/\∀s,s ∈ (thr S zW 3 0 0).1->s.e.l=Y\/s.e.on=Y->s ∈ (thr (insS S 0 m) zW 3 0 0).1):=by
 by_cases hm:m.code=0
 ·obtain⟨z0,z1,z2,z3,z4,z5,z6,z7,z8⟩:=yhy hm
  obtain⟨q,hmp⟩:=kA z1
  have hq:q<4096:=by omega
  obtain⟨sz,hms⟩:∃sz:Nat,m.s=(sz:Int):=by
   rcases yhG m.s with ⟨e,_⟩|⟨e,_⟩|⟨e,_⟩|⟨_,_,_,e⟩
   ·exact⟨0,e⟩
   ·exact⟨1,e⟩
   ·exact⟨2,e⟩
   ·exact absurd e z0
  have hsz2:sz<=2:=by
   rw[hms]at z0
   rcases yhG (sz:Int)with h|h|h|h<;>omega
  have hsp:span m.s=((8^sz:Nat):Int):=by rw[hms];exact yia hsz2
  have hal:q/8^sz*8^sz=q:=by
   rw[hmp,hsp]at z7
   have:q%8^sz=0:=by omega
   have:=kh q (8^sz);rw[kS]at this;omega
  have hpsz:0<8^sz:=kB (by decide);obtain⟨hz,lv,e,tl,A,B,F⟩:=yh8 h hq;have hgood:=yhS h
  have eC:insC S 0 m=if e.t=Y\/(lv:Int)<m.s then 4 else if S.free<(lv:Int)-m.s then 6 else 0:=by
   rw[insC,if_neg (by simpa using hm),hmp,hz,if_neg (by decide),F.way.yhr,F.way.yht]
  have hpow:0<8^lv:=kB (by decide);have hlo:q/8^lv*8^lv<=q:=kC _ _
  have hhi:q<(q/8^lv+1)*8^lv:=by
   rw[kN,kY];have:=kH (a:=q) hpow;omega
  by_cases hthere:e.t=Y\/(lv:Int)<m.s
  ·--something is there
   rw[if_pos hthere]at eC
   have hmeet:∃x,x ∈ L/\x.meets m=Y:=by
    by_cases ht:e.t=Y
    ·obtain⟨_,_,_,hhas⟩:=yh1 h.ok hq F ht
     refine⟨e.map lv (q:Int),?_,?_⟩
     ·rw[F.list,if_pos ht]
      simp
     ·have:over (e.map lv (q:Int)).p (e.map lv (q:Int)).s m.p=Y:=by rw[hmp];exact hhas
      simp[Mp.meets,meet,this]
    ·have hlt:lv<sz:=by
      rcases hthere with h'|h'
      ·exact absurd h' ht
      ·omega
     have hd:q/8^3<8:=by
      rw[show(8:Nat)^3=512 by decide];omega
     obtain⟨a1,a2,s,a3,a4⟩:=ykS h.ok q 3 (by omega) 0 0 (by omega) (by decide) (by omega) (by omega) h.code;have hp:below (q:Int) 4096=Y:=zB.2 ⟨by omega,by omega⟩
     have eX:zj S 0 (q:Int)=(thr S (onW (q:Int)) 3 0 0).1:=by unfold zj;rw[if_pos ⟨hp,a1⟩]
     have e1:s.level=lv:=by
      have:=F.way.yht;rw[eX]at this;unfold Go.Proofs.YtdphiompijbelaaGreatDoor.yht at this;rw[a3]at this;exact kj.1 this
     obtain⟨s',m1,m2,m3⟩:=way_step S (q:Int) 3 0 0 a1 s a3 sz (by omega) (by omega);obtain⟨A',B',sp⟩:=yli h.ok q 3 (by omega) 0 0 (by omega) (by decide) (by omega) (by omega) h.code h.nodup s' m1;have hall:=sp.all;have hen:=sp.en;have hpl:=sp.place;have hah:=sp.ahead;have hle:=sp.le;have hcode:=sp.code;obtain⟨st,spl,sl,sa,se⟩:=s';simp only at m2 m3 hall hen hpl hah hle hcode;subst m2;obtain⟨hc0,ho⟩:=yhI hcode;rw[<-hen]at ho;rcases ho with ⟨hon,_⟩|⟨_,hr,ho⟩
     ·rw[hon]at m3;cases m3
     ·obtain⟨b,rfl⟩:=yhM (by rw[<-hen];exact m3)
      have hr2:(thr S zW b se.f ((sa-spl+spl)*8)).2=0:=hr
      have hs':spt S st spl (b+1) (sa-spl)=⟨st,spl,b+1,sa,se⟩:=by
       unfold spt;rw[<-hen,D hle]
      rw[hs']at ho
      have hsubt:∀x,x ∈ se.f::zU (thr S zW b se.f ((sa-spl+spl)*8)).1->x ∈ zU (thr S zW 3 0 0).1:=by
       intro x hx;rw[hall,yhm,yhm,ho,yhZ m3];exact I _ (N _ hx)
      obtain⟨x,hx⟩:=ylA b se.f ((sa-spl+spl)*8) hr2 (h.full _ (hsubt _ V)) (fun x hx=>h.full x (hsubt x (J _ hx)))
      have hxo:x ∈ zM (out S zW (b+1) (sub S zW (b+1)) st (sa-spl) spl).1:=by
       rw[ho];simp only[zM,o,Z];exact .inr hx
      refine⟨x,?_,?_⟩
      ·rw[<-h.maps,hall,yhq,yhq]
       exact I _ (N _ hxo)
      ·have hix8:spl<8:=by rw[hpl];exact yiD _ _
       have hsa:sa-spl+8<=8^(4-(b+1)):=by
        have h5:=(ykK q (b+1)).2;rw[<-hpl,<-hah]at h5;rw[h5]
        have h6:q/8^(b+1+1)<8^(4-(b+1+1)):=by
         rw[uJ (kB (by decide)),<-kD,show 4-(b+1+1)+(b+1+1)=4 by omega];exact hq
        have h7:(8:Nat)^(4-(b+1))=8^(4-(b+1+1))*8:=by rw[<-W,show(4-(b+1+1)).succ=4-(b+1) by omega]
        rw[h7];have h8:=Q 8 (Nat.succ_le_of_lt h6);rw[Nat.succ_mul]at h8;exact h8
       obtain⟨r1,r2⟩:=yis h.ok (by omega) hix8 hsa hcode hxo;rw[D hle,hah,hal]at r1;rw[D hle,hah,kN,kY,hal]at r2;have hxs:=(yhy (hgood.ok x (by rw[<-h.maps,hall,yhq,yhq];exact I _ (N _ hxo)))).1;have hxb:=(yhP x.s).1
       have:over m.p m.s x.p=Y:=by
        simp only[over,kZ,decide_eq_true_eq];rw[hsp,hmp];omega
       simp[Mp.meets,meet,this]
   obtain⟨x,hx,hxm⟩:=hmeet
   have ea:addC L m=4:=by rw[addC,if_neg (by simpa using hm),if_pos (uY.2 ⟨x,hx,hxm⟩)]
   refine .inr ⟨by omega,by rw[eC,ea],?_⟩;rw[insS,addL,eC,ea,if_neg (by decide),if_neg (by decide)];exact⟨h,fun s hs _=>hs⟩
  ·rw[if_neg hthere]at eC
   by_cases hfree:S.free<(lv:Int)-m.s
   ·rw[if_pos hfree]at eC
    exact .inl ⟨eC,by have:=F.le;omega,by rw[insS,eC,if_neg (by decide)]⟩
   ·rw[if_neg hfree]at eC
    have ht:e.t=O:=by
     cases he:e.t
     ·rfl
     ·exact absurd (.inl he) hthere
    have hszl:sz<=lv:=by omega
    have hL:=F.list;rw[if_neg (by simp[ht]),kP]at hL
    have hup:q+8^sz<=(q/8^lv+1)*8^lv:=by
     have e1:8^lv=8^(lv-sz)*8^sz:=by rw[<-kD,D hszl]
     rw[e1,<-kQ]at hhi ⊢;rw[<-hal]at hhi ⊢
     have h5:q/8^sz<(q/(8^(lv-sz)*8^sz)+1)*8^(lv-sz):=by
      rw[hal]at hhi;exact(uJ hpsz).2 hhi
     have h6:(q/8^sz+1)*8^sz<=(q/(8^(lv-sz)*8^sz)+1)*8^(lv-sz)*8^sz:=Q _ h5;rw[kN,kY]at h6;rw[hal]at h6 ⊢;exact h6
    have pA:∀x,x ∈ zM A->x.p<m.p/\x.meets m=O:=by
     intro x hx
     have hxL:x ∈ L:=by rw[hL];exact I _ hx
     have s1:=(yhy (hgood.ok x hxL)).1;have b1:=(yhP x.s).1;have:=F.spot.ma x hx;simp only at this;refine⟨by omega,?_⟩;cases hh:x.meets m
     ·rfl
     ·simp[Mp.meets,meet,over]at hh
      omega
    have pB:∀x,x ∈ zM B->m.p<x.p/\x.meets m=O:=by
     intro x hx;have:=F.spot.mb x hx;simp only at this;refine⟨by omega,?_⟩;cases hh:x.meets m
     ·rfl
     ·simp[Mp.meets,meet,over]at hh
      rw[hsp]at hh;omega
    have hadd:addC L m=0:=by
     rw[addC,if_neg (by simpa using hm),if_neg];rw[uY];rintro ⟨x,hx,hxm⟩;rw[hL]at hx;rcases Z.1 hx with hx|hx
     ·rw[(pA x hx).2]at hxm;cases hxm
     ·rw[(pB x hx).2]at hxm;cases hxm
    refine .inr ⟨by omega,by rw[eC,hadd],?_⟩;rw[insS,addL,eC,hadd,if_pos rfl,if_pos rfl,hmp,F.way.yht,F.way.lastT,<-hmp];obtain⟨K,C⟩:=chain hq hm hmp hms (lv-sz) lv (by omega) (by have:=F.le;omega) S tl h.ok F.way.hasT (by omega);rw[kL];generalize (insW m.p m.s lv S tl).1.store (insW m.p m.s lv S tl).2 (index m.p m.s) (enc Y Y m.r O O m.f m.s)=S' at*;have hTh:=yiA 3 0 0 h.code
    have hbut:But1 S S' ((0:Int)::(zU A++zU B)) tl (ix (q:Int) lv):=by
     intro x hx;have hxh:=hTh x (by rw[F.tabs];exact hx);have hx0:=yh4 hxh;have hxu:x.toNat ∈ S.used:=(h.ok.yiX hxh).2.2;have ht0:=yh4 F.way.hasT;refine⟨?_,fun i hi hne=>C.same x.toNat hxu i ?_⟩
     ·rw[hxh]
      simp only[Fs.has,Fs.inn,kZ,decide_eq_true_eq];exact⟨hx0,by rw[C.used];exact N _ hxu⟩
     ·rcases hne with h'|h'
      ·exact .inl fun e=>h' (by omega)
      ·exact .inr h'
    have hthr:=F.spot.turn S' hbut (by simp only;exact C.code);simp only at hthr
    have htab:zU (thr S' zW 3 0 0).1=zU A++K.map (fun k:Nat=>(k:Int))++zU B:=by
     rw[hthr];simp only;rw[yhm,yhm,C.tabs]
    have hKin:∀x:Int,x ∈ K.map (fun k:Nat=>(k:Int))->∀y,y ∈ (0:Int)::(zU A++zU B)->x≠y:=by
     intro x hx y hy e;rw[kO]at hx;obtain⟨k,hk,rfl⟩:=hx;have:=(h.used k).2 (by rw[F.tabs,e];exact hy);exact C.nd.2 k hk this
    refine⟨⟨C.ok,by rw[hthr],?_,?_,?_,?_⟩,?_⟩
    ·rw[hthr]
     simp only;rw[yhq,yhq,C.maps,hL,ylv (fun x hx=>(pA x hx).1) (fun x hx=>(pB x hx).1),kI];rfl
    ·rw[htab]
     have hnd:=h.nodup;rw[F.tabs]at hnd
     have hKnd:(K.map fun k:Nat=>(k:Int)).Nodup:=by
      rw[kU,ka];exact(kU.1 C.nd.1).imp fun hne e=>hne (kj.1 e)
     have hperm:((0:Int)::(zU A++K.map (fun k:Nat=>(k:Int))++zU B)).Perm (K.map (fun k:Nat=>(k:Int))++((0:Int)::(zU A++zU B))):=by
      refine List.Perm.trans ?_ List.perm_middle.symm;refine List.Perm.cons _ ?_;rw[<-kI];exact List.Perm.append_right _ List.perm_append_comm
     rw[hperm.nodup_iff,w];exact⟨hKnd,hnd,hKin⟩
    ·intro k
     rw[htab,C.used,Z,kn,h.used k,F.tabs];simp only[H,Z,kO];constructor
     ·rintro (hk|hk|hk|hk)
      ·exact .inr (.inl (.inr ⟨k,hk,rfl⟩))
      ·exact .inl hk
      ·exact .inr (.inl (.inl hk))
      ·exact .inr (.inr hk)
     ·rintro (hk|(hk|⟨j,hj,e⟩)|hk)
      ·exact .inr (.inl hk)
      ·exact .inr (.inr (.inl hk))
      ·exact .inl (kj.1 e▸hj)
      ·exact .inr (.inr (.inr hk))
    ·intro x hx
     rw[htab]at hx
     have old:x ∈ zU A++zU B->yhx S' x=O:=by
      intro hx;obtain⟨i,hi,hne⟩:=yhQ.1 (h.full x (by rw[F.tabs];exact hx));rw[yhQ]
      by_cases e1:x=tl/\i=ix (q:Int) lv
      ·obtain⟨rfl,rfl⟩:=e1
       exact⟨_,yiD _ _,C.word⟩
      ·refine⟨i,hi,?_⟩
       have:=(hbut x (J _ hx)).2 i hi (by
        by_cases e2:x=tl
        ·exact .inr fun e3=>e1 ⟨e2,e3⟩
        ·exact .inl e2)
       rw[this];exact hne
     rcases Z.1 hx with hx|hx
     ·rcases Z.1 hx with hx|hx
      ·exact old (I _ hx)
      ·rw[kO]at hx
       obtain⟨k,hk,rfl⟩:=hx;exact C.full k hk
     ·exact old (N _ hx)
    ·intro s hs hl
     have hall:=F.spot.all;simp only at hall;rw[F.one]at hall;rw[hall]at hs;rw[hthr];rcases Z.1 hs with hs|hs
     ·rcases Z.1 hs with hs|hs
      ·exact I _ (I _ hs)
      ·simp at hs
       subst hs;rcases hl with hl|hl
       ·have hl':(rEn S tl (ix (q:Int) lv) lv).l=Y:=by rw[<-F.way.en];exact hl
        have:=(yhH h.ok hl').2.1;rw[<-F.way.en,ht]at this;cases this
       ·simp[En.on,ht]at hl
     ·exact N _ hs
 ·have e1:insC S 0 m=m.code:=by rw[insC,if_pos hm]
  have e2:addC L m=m.code:=by rw[addC,if_pos hm]
  have hne6:m.code≠6:=by
   unfold Mp.code check;split
   ·decide
   ·split
    ·decide
    ·split<;>decide
  have hne0:m.code≠0:=hm;refine .inr ⟨by rw[e1];exact hne6,by rw[e1,e2],?_⟩;rw[insS,addL,e1,e2,if_neg hne0,if_neg hne0];exact⟨h,fun s hs _=>hs⟩
end Pg
namespace Pg
theorem ylf (S:Fs) (p:Int) (lv:Nat) (t:Int) (a:Nat) {s:Sp} (h:(thr S (onW p) lv t a).1[0]?=some s):s.table=t:=by
 rw[yhK]at h;split at h
 ·simp at h
 ·split at h
  ·simp at h
   subst h;rfl
  ·simp at h
   subst h;rfl
theorem ylZ (S:Fs) (p:Int):∀(lv:Nat) (t:Int) (a i:Nat) (s:Sp),(thr S (onW p) lv t a).1[i]?=some s->s.level+i=lv/\(∀s',(thr S (onW p) lv t a).1[i+1]?=some s'->s.e.on=Y/\s.e.f=s'.table):=by
 intro lv
 induction lv with
 | zero=>
   intro t a i s hs;rw[yhK]at hs ⊢;split at hs
   ·simp at hs
   ·rename_i h1
    rw[if_neg h1];split at hs
    ·rename_i h2
     rw[if_pos h2]
     cases i with
     | zero=>
       simp at hs;subst hs;exact⟨rfl,fun s' h'=>by simp at h'⟩
     | succ i=>simp at hs
    ·rename_i h2
     obtain⟨m,hm⟩:=yhM (S:=S) (t:=t) (i:=ix p 0) (lv:=0) (by simpa using h2);omega
 | succ lv ih=>
   intro t a i s hs;rw[yhK]at hs ⊢;split at hs
   ·simp at hs
   ·rename_i h1
    rw[if_neg h1];split at hs
    ·rename_i h2
     rw[if_pos h2]
     cases i with
     | zero=>
       simp at hs;subst hs;exact⟨rfl,fun s' h'=>by simp at h'⟩
     | succ i=>simp at hs
    ·rename_i h2
     rw[if_neg h2]
     have h2:(rEn S t (ix p (lv+1)) (lv+1)).on=Y:=by simpa using h2
     simp only[sub]at hs ⊢
     cases i with
     | zero=>
       simp at hs;subst hs;refine⟨rfl,fun s' h'=>⟨h2,?_⟩⟩;rw[ky]at h';exact(ylf S p lv _ _ h').symm
     | succ i=>
       rw[ky]at hs;obtain⟨j1,j2⟩:=ih _ _ i s hs;refine⟨by omega,fun s' h'=> ?_⟩;rw[ky]at h';exact j2 s' h'
def gives:List Int->Fs->Fs
 | [],S=>S
 | x::r,S=>gives r (S.give x)
theorem give_like {S:Fs} {x:Int} (h:S.Ok) (hx:S.has x=Y):(S.give x).word=S.word/\(S.give x).n=S.n/\(∀k,k ∈ (S.give x).used ↔ k ∈ S.used/\k≠x.toNat)/\(S.give x).free=S.free+1:=by
 have hnd:S.used.Nodup:=(w.1 h.nodup).1;unfold Fs.give;rw[if_pos hx];refine⟨rfl,rfl,fun k=> ?_,?_⟩
 ·show k ∈ S.used.erase x.toNat ↔ _
  rw[hnd.mem_erase_iff];exact And.comm
 ·unfold Fs.free
  simp only[kg,List.length_singleton];omega
theorem yib:∀(G:List Int) (S:Fs),S.Ok->G.Nodup->(∀x,x ∈ G->S.has x=Y)->(gives G S).Ok/\(gives G S).word=S.word/\(gives G S).n=S.n/\(∀k:Nat,k ∈ (gives G S).used ↔ k ∈ S.used/\(k:Int) ∉ G)/\(gives G S).free=S.free+G.length
 | [],S,h,_,_=>⟨h,rfl,rfl,fun k=>by simp[gives],by simp[gives]⟩
 | x::r,S,h,hnd,hh=>by
   have hx:=hh x V;have hx0:=yh4 hx;obtain⟨g1,g2,g3,g4⟩:=give_like h hx;obtain⟨hxr,hr⟩:=kF.1 hnd
   have hstill:∀y,y ∈ r->(S.give x).has y=Y:=by
    intro y hy;have hy':=hh y (J _ hy);have hy0:=yh4 hy';simp only[Fs.has,Fs.inn,kZ,decide_eq_true_eq];refine⟨hy0,(g3 _).2 ⟨(h.yiX hy').2.2,fun e=> ?_⟩⟩
    have:y=x:=by omega
    exact hxr (this▸hy)
   obtain⟨i1,i2,i3,i4,i5⟩:=yib r (S.give x) (h.give x) hr hstill;refine⟨i1,by show(gives r (S.give x)).word=_;rw[i2,g1],by show(gives r (S.give x)).n=_;rw[i3,g2],fun k=> ?_,?_⟩
   ·show k ∈ (gives r (S.give x)).used ↔ _
    rw[i4 k,g3 k,H];constructor
    ·rintro ⟨⟨a1,a2⟩,a3⟩
     exact⟨a1,fun e=>by rcases e with e|e;exact a2 (by omega);exact a3 e⟩
    ·rintro ⟨a1,a2⟩
     exact⟨⟨a1,fun e=>a2 (.inl (by omega))⟩,fun e=>a2 (.inr e)⟩
   ·show(gives r (S.give x)).free=_
    rw[i5,g4,km];omega
structure Up (S S':Fs) (q:Nat) (ts:List Int) (k:Nat):Prop where
 ok:S'.Ok
 used:S'.used=S.used
 n:S'.n=S.n
 same:∀x:Int,S.has x=Y->∀i,(∀j,k<j->j<ts.length->¬(x=ts.getD j 0/\i=ix (q:Int) (3-j)))->S'.word x.toNat i=S.word x.toNat i
 free:S'.free=S.free
theorem Up.has {S S':Fs} {q:Nat} {ts:List Int} {k:Nat} (h:Up S S' q ts k) (x:Int):S'.has x=S.has x:=by
 unfold Fs.has Fs.inn;rw[h.used]
structure Removed (S:Fs) (L:List Mp) (x:Mp) (R:Fs×List Int) (A B:List Sp) (z:Sp) (T:List Int):Prop where
 list:L=zM A++[x]++zM B
 all:∃M,(Pg.thr S zW 3 0 0).1=A++M++B/\zM M=[x]
 tabs:zU (thr S zW 3 0 0).1=zU A++T++zU B
 gone:R.2=T.reverse
 ok:R.1.Ok
 used:R.1.used=S.used
 free:R.1.free=S.free
 n:R.1.n=S.n
 thr:thr R.1 zW 3 0 0=(A++[z]++B,0)
 zero:z.e=En.zero
 full:∀y,y ∈ zU A++zU B->yhx R.1 y=O
theorem getD_drop (l:List Int) (j k:Nat) (h:k<j) (h2:j<l.length):l.getD j 0 ∈ l.drop (k+1):=by
 have e:l.getD j 0=l[j]'h2:=by simp[List.getD,kE h2]
 rw[e];refine List.mem_iff_getElem?.2 ⟨j-(k+1),?_⟩;rw[List.getElem?_drop,show k+1+(j-(k+1))=j by omega,kE h2]
theorem ykr (l:List Int) (j:Nat) (h:j<l.length):l.drop j=l.getD j 0::l.drop (j+1):=by
 have e:l.getD j 0=l[j]'h:=by simp[List.getD,kE h]
 rw[e];exact List.drop_eq_getElem_cons h
theorem yl5 {S:Fs} {L:List Mp} (h:Rep S L) {q:Nat} (hq:q<4096) (hz:xG S 0 (q:Int)=0) (x:Mp):∀(k:Nat),k<(zj S 0 (q:Int)).length->∀(S':Fs) (G:List Int),Up S S' q (tabs (zj S 0 (q:Int))) k->
 (∀s,(zj S 0 (q:Int))[k]?=some s->zM (out S zW s.level (sub S zW s.level) s.table (s.ahead-s.place) s.place).1=[x]/\zU (out S zW s.level (sub S zW s.level) s.table (s.ahead-s.place) s.place).1=(tabs (zj S 0 (q:Int))).drop (k+1))->
 G=((tabs (zj S 0 (q:Int))).drop (k+1)).reverse->∃A B z T,Removed S L x (rmW (q:Int) (tabs (zj S 0 (q:Int))) (k+1) S' G) A B z T:=by
 have hp:below (q:Int) 4096=Y:=zB.2 ⟨by omega,by omega⟩
 have hd:q/8^3<8:=by
  rw[show(8:Nat)^3=512 by decide];omega
 have hwz:(thr S (onW (q:Int)) 3 0 0).2=0:=by
  unfold xG at hz;rw[if_pos hp]at hz;exact hz
 have eX:zj S 0 (q:Int)=(thr S (onW (q:Int)) 3 0 0).1:=by unfold zj;rw[if_pos ⟨hp,hwz⟩]
 obtain⟨lv0,e0,tl0,hway⟩:=ylh hz;have hTh:=yiA 3 0 0 h.code
 have step:∀(k:Nat),k<(zj S 0 (q:Int)).length->∀(S':Fs) (G:List Int),Up S S' q (tabs (zj S 0 (q:Int))) k->
  (∀s,(zj S 0 (q:Int))[k]?=some s->zM (out S zW s.level (sub S zW s.level) s.table (s.ahead-s.place) s.place).1=[x]/\zU (out S zW s.level (sub S zW s.level) s.table (s.ahead-s.place) s.place).1=(tabs (zj S 0 (q:Int))).drop (k+1))->
  G=((tabs (zj S 0 (q:Int))).drop (k+1)).reverse->
  (∀k',k=k'+1->∀(S1:Fs) (G1:List Int),Up S S1 q (tabs (zj S 0 (q:Int))) k'->
    (∀s,(zj S 0 (q:Int))[k']?=some s->zM (out S zW s.level (sub S zW s.level) s.table (s.ahead-s.place) s.place).1=[x]/\zU (out S zW s.level (sub S zW s.level) s.table (s.ahead-s.place) s.place).1=(tabs (zj S 0 (q:Int))).drop (k'+1))->
    G1=((tabs (zj S 0 (q:Int))).drop (k'+1)).reverse->∃A B z T,Removed S L x (rmW (q:Int) (tabs (zj S 0 (q:Int))) (k'+1) S1 G1) A B z T)->
  ∃A B z T,Removed S L x (rmW (q:Int) (tabs (zj S 0 (q:Int))) (k+1) S' G) A B z T:=by
  intro k hk S' G U hs hG next;obtain⟨s,hsk⟩:∃s,(zj S 0 (q:Int))[k]?=some s:=⟨_,kE hk⟩;obtain⟨hm,ht⟩:=hs s hsk;have hsk':=hsk;rw[eX]at hsk';obtain⟨hlev,_⟩:=ylZ S (q:Int) 3 0 0 k s hsk';obtain⟨A,B,sp⟩:=yli h.ok q 3 (by omega) 0 0 (by omega) (by decide) (by omega) (by omega) h.code h.nodup s (kr hsk')
  have hts:(tabs (zj S 0 (q:Int))).getD k 0=s.table:=by
   unfold Go.Proofs.YtdphiompijbelaaGreatDoor.tabs;rw[List.getD,List.getElem?_map,hsk];rfl
  have hlen:(tabs (zj S 0 (q:Int))).length=(zj S 0 (q:Int)).length:=xM _
  have hth:S.has s.table=Y:=hway.has _ (by
   unfold Go.Proofs.YtdphiompijbelaaGreatDoor.tabs
   exact kO.2 ⟨s,kr hsk,rfl⟩)
  have hix:ix (q:Int) s.level<8:=yiD _ _
  have hind:index (q:Int) (3-(k:Int))=(ix (q:Int) s.level:Nat):=by
   rw[show(3-(k:Int))=(s.level:Int) by omega];exact yif hq (by omega)
  have hth':S'.has s.table=Y:=by rw[U.has];exact hth
  have hpl:=sp.place;have hall:=sp.all;have hnd:=h.nodup;rw[hall,yhm,yhm,ht]at hnd;obtain⟨hn0,hnd1⟩:=kF.1 hnd;rw[w]at hnd1;obtain⟨hndAT,hndB,hdisj⟩:=hnd1;rw[w]at hndAT
  have inT:∀j,k<j->j<(zj S 0 (q:Int)).length->(tabs (zj S 0 (q:Int))).getD j 0 ∈ (tabs (zj S 0 (q:Int))).drop (k+1):=by
   intro j h1 h2
   have h3:j<(tabs (zj S 0 (q:Int))).length:=by omega
   exact getD_drop _ _ _ h1 h3
  have notT:∀y,y ∈ (0:Int)::(zU A++zU B)->y ∉ (tabs (zj S 0 (q:Int))).drop (k+1):=by
   intro y hy hyT;rcases H.1 hy with rfl|hy
   ·exact hn0 (I _ (N _ hyT))
   ·rcases Z.1 hy with hy|hy
    ·exact hndAT.2.2 y hy y hyT rfl
    ·exact hdisj y (N _ hyT) y hy rfl
  have hst:s.table ∉ (tabs (zj S 0 (q:Int))).drop (k+1):=notT _ (by
   rcases H.1 sp.memA with e|e
   ·rw[e];exact V
   ·exact J _ (I _ e))
  have sub0:∀y,y ∈ (0:Int)::(zU A++zU B)->S.has y=Y:=by
   intro y hy;refine hTh y ?_;rw[hall,yhm,yhm];rcases H.1 hy with rfl|hy
   ·exact V
   ·refine J _ ?_
    rcases Z.1 hy with hy|hy
    ·exact I _ (I _ hy)
    ·exact N _ hy
  generalize hS1:S'.store s.table ((ix (q:Int) s.level:Nat):Int) 0=S1
  have ok1:S1.Ok:=by rw[<-hS1];exact U.ok.store _ _ (by decide) (by decide)
  obtain⟨n1,n2,n3,n4⟩:=yiq S' s.table ((ix (q:Int) s.level:Nat):Int) 0;rw[hS1]at n1 n2 n3 n4
  have hf1:S1.free=S'.free:=by rw[<-hS1];exact yj8 _ _ _ _
  have w0:S1.word s.table.toNat (ix (q:Int) s.level)=0:=by rw[<-hS1];exact yiu hth' hix 0
  have h0s:=yh4 hth
  have wo:∀y:Int,0<=y->∀i,(y≠s.table\/i≠ix (q:Int) s.level)->S1.word y.toNat i=S'.word y.toNat i:=by
   intro y hy i hne;rw[<-hS1,yiS hth' hix]
   show Fs.put S'.word s.table.toNat (ix (q:Int) s.level) 0 y.toNat i=_
   unfold Fs.put;rw[if_neg];rintro ⟨e1,e2⟩;rcases hne with h'|h'
   ·exact h' (by omega)
   ·exact h' e2
  have has1:∀y,S1.has y=S.has y:=by
   intro y;unfold Fs.has Fs.inn;rw[n2,U.used]
  have wS:∀y,S.has y=Y->y ∉ (tabs (zj S 0 (q:Int))).drop (k+1)->∀i,(y≠s.table\/i≠ix (q:Int) s.level)->S1.word y.toNat i=S.word y.toNat i:=by
   intro y hy hyT i hne;rw[wo y (yh4 hy) i hne];refine U.same y hy i fun j h1 h2=> ?_;rintro ⟨e1,_⟩;exact hyT (e1▸inT j h1 (by omega))
  have hbut:But1 S S1 ((0:Int)::(zU A++zU B)) s.table s.place:=by
   intro y hy;refine⟨has1 y,fun i _ hne=>wS y (sub0 y hy) (notT y hy) i (by rw[<-hpl];exact hne)⟩
  have hr1:=yiK (S:=S1) (lv:=s.level) (by rw[has1];exact hth) (by omega) w0;have hple:=sp.le;have hah:=sp.ahead
  have hoz:out S1 zW s.level (sub S1 zW s.level) s.table (s.ahead-s.place) s.place=([⟨s.table,ix (q:Int) s.level,s.level,q/8^s.level,En.zero⟩],0):=by
   rw[hah,hpl];rw[hah,hpl]at hple;exact ykP hple hr1.2.symm hr1.1 rfl
  have hthr:=sp.turn S1 hbut (by rw[hoz]);rw[hoz]at hthr
  have hlist:L=zM A++[x]++zM B:=by rw[<-h.maps,hall,yhq,yhq,hm]
  have htabs:zU (thr S zW 3 0 0).1=zU A++(tabs (zj S 0 (q:Int))).drop (k+1)++zU B:=by rw[hall,yhm,yhm,ht]
  have hrm:rmW (q:Int) (tabs (zj S 0 (q:Int))) (k+1) S' G=if k=0\/yhx S1 s.table=O then(S1,G)else rmW (q:Int) (tabs (zj S 0 (q:Int))) k S1 (G++[s.table]):=by
   show(if k=0\/yhx (S'.store ((tabs (zj S 0 (q:Int))).getD k 0) (index (q:Int) (3-(k:Int))) 0) ((tabs (zj S 0 (q:Int))).getD k 0)=O then _ else _)=_
   rw[hts,hind,hS1]
  rw[hrm]
  by_cases hstop:k=0\/yhx S1 s.table=O
  ·rw[if_pos hstop]
   refine⟨A,B,⟨s.table,ix (q:Int) s.level,s.level,q/8^s.level,En.zero⟩,(tabs (zj S 0 (q:Int))).drop (k+1),⟨hlist,⟨_,hall,hm⟩,htabs,hG,ok1,by rw[n2,U.used],by rw[hf1,U.free],by rw[n1,U.n],hthr,rfl,fun y hy=> ?_⟩⟩
   by_cases e:y=s.table
   ·rcases hstop with h0|h0
    ·exfalso
     subst h0;have:s.table=0:=ylf S (q:Int) 3 0 0 hsk';rw[e,this]at hy;refine hn0 ?_;rcases Z.1 hy with hy|hy
     ·exact I _ (I _ hy)
     ·exact N _ hy
    ·rw[e];exact h0
   ·have hyin:y ∈ (0:Int)::(zU A++zU B):=J _ hy
    obtain⟨i,hi,hne⟩:=yhQ.1 (h.full y (by
     rw[htabs];rcases Z.1 hy with hy|hy
     ·exact I _ (I _ hy)
     ·exact N _ hy))
    rw[yhQ];exact⟨i,hi,by rw[wS y (sub0 y hyin) (notT y hyin) i (.inl e)];exact hne⟩
  ·rw[if_neg hstop]
   obtain⟨k',rfl⟩:∃k',k=k'+1:=⟨k-1,by omega⟩
   have hemp:∀i,i<8->S1.word s.table.toNat i=0:=by
    intro i hi;cases hw:S1.word s.table.toNat i==0
    ·exact absurd (.inr (yhQ.2 ⟨i,hi,by simpa using hw⟩)) hstop
    ·simpa using hw
   refine next k' rfl S1 (G++[s.table]) ⟨ok1,by rw[n2,U.used],by rw[n1,U.n],?_,by rw[hf1,U.free]⟩ ?_ ?_
   ·intro y hy i hne
    have h1:=hne (k'+1) (by omega) (by omega);rw[hts,show 3-(k'+1)=s.level by omega]at h1
    rw[wo y (yh4 hy) i (by
     by_cases e:y=s.table
     ·exact .inr fun e2=>h1 ⟨e,e2⟩
     ·exact .inl e)]
    exact U.same y hy i fun j h2 h3=>hne j (by omega) h3
   ·intro s' hs'
    have hs'':=hs';rw[eX]at hs'';obtain⟨hlev',hnx⟩:=ylZ S (q:Int) 3 0 0 k' s' hs'';obtain⟨hon',hf'⟩:=hnx s hsk';obtain⟨A',B',sp'⟩:=yli h.ok q 3 (by omega) 0 0 (by omega) (by decide) (by omega) (by omega) h.code h.nodup s' (kr hs'');obtain⟨hc',ho'⟩:=yhI sp'.code;rw[<-sp'.en]at ho'
    have hlv':s'.level=s.level+1:=by omega
    rcases ho' with ⟨hn',_⟩|⟨_,hr',ho'⟩
    ·rw[hn']at hon';cases hon'
    ·have hl':s'.e.l=O:=by
      have:=hon';simp[En.on]at this;exact this.2
     have hsp':spt S s'.table s'.place s'.level (s'.ahead-s'.place)=s':=by
      have h1:=sp'.en;have h2:=sp'.le;obtain⟨a1,a2,a3,a4,a5⟩:=s';simp only at h1 h2 ⊢;unfold spt;rw[<-h1,D h2]
     rw[hsp']at ho'
     have hsub':sub S zW s'.level=thr S zW s.level:=by rw[hlv'];rfl
     rw[hsub',D sp'.le,hf',sp'.ahead,hlv',<-(ykK q s.level).2]at ho' hr'
     have ho2:(out S zW s'.level (sub S zW s'.level) s'.table (s'.ahead-s'.place) s'.place).1=s'::(thr S zW s.level s.table (q/8^s.level-ix (q:Int) s.level)).1:=by
      have e1:s'.ahead-s'.place=q/8^(s.level+1)-s'.place:=by rw[sp'.ahead,hlv']
      rw[hsub',e1,hlv'];exact ho'
     have hparts:=yhF hr'
     have hzero:∀j,j<8->j≠ix (q:Int) s.level->out S zW s.level (sub S zW s.level) s.table (q/8^s.level-ix (q:Int) s.level) j=([spt S s.table j s.level (q/8^s.level-ix (q:Int) s.level)],0)/\(spt S s.table j s.level (q/8^s.level-ix (q:Int) s.level)).e=En.zero:=by
      intro j hj hne
      have hw:S.word s.table.toNat j=0:=by rw[<-wS s.table hth hst j (.inr hne)];exact hemp j hj
      obtain⟨r1,r2⟩:=yiK (lv:=s.level) hth (by omega) hw;refine⟨?_,r2⟩;unfold out;rw[if_neg (by simp[zW]),if_neg (by simpa using r1),if_pos (by rw[r2];rfl)]
     have hout:out S zW s.level (sub S zW s.level) s.table (s.ahead-s.place) s.place=out S zW s.level (sub S zW s.level) s.table (q/8^s.level-ix (q:Int) s.level) (ix (q:Int) s.level):=by rw[hah,hpl]
     rw[hout]at hm ht;constructor
     ·rw[ho2]
      have e1:zM (s'::(thr S zW s.level s.table (q/8^s.level-ix (q:Int) s.level)).1)=zM (thr S zW s.level s.table (q/8^s.level-ix (q:Int) s.level)).1:=by simp[zM,hl']
      rw[e1,hparts.2]
      have e2:zM ((List.range 8).flatMap fun j=>(out S zW s.level (sub S zW s.level) s.table (q/8^s.level-ix (q:Int) s.level) j).1)=(kV 0 8).flatMap fun j=>zM (out S zW s.level (sub S zW s.level) s.table (q/8^s.level-ix (q:Int) s.level) j).1:=by
       simp only[zM,kJ,kX]
      rw[e2,flatMap_one _ (ix (q:Int) s.level) 8 0 (fun j _ h2 h3=>by rw[(hzero j (by omega) h3).1];simp[zM,(hzero j (by omega) h3).2,En.zero]),if_pos (by omega),hm]
     ·rw[ho2,yhZ hon',hf',hparts.2]
      have e2:zU ((List.range 8).flatMap fun j=>(out S zW s.level (sub S zW s.level) s.table (q/8^s.level-ix (q:Int) s.level) j).1)=(kV 0 8).flatMap fun j=>zU (out S zW s.level (sub S zW s.level) s.table (q/8^s.level-ix (q:Int) s.level) j).1:=by
       simp only[zU,kJ,kX]
      rw[e2,flatMap_one _ (ix (q:Int) s.level) 8 0 (fun j _ h2 h3=>by rw[(hzero j (by omega) h3).1];simp[zU,(hzero j (by omega) h3).2,En.zero,En.on]),if_pos (by omega),ht]
      have h3:k'+1<(tabs (zj S 0 (q:Int))).length:=by omega
      rw[ykr _ _ h3,hts]
   ·have h3:k'+1<(tabs (zj S 0 (q:Int))).length:=by omega
    rw[ykr _ _ h3,List.reverse_cons,<-hG,hts]
 intro k
 induction k with
 | zero=>exact fun hk S' G U hs hG=>step 0 hk S' G U hs hG (fun k' e=>by omega)
 | succ k ih=>
   intro hk S' G U hs hG;refine step (k+1) hk S' G U hs hG fun k' e=> ?_
   have:k'=k:=by omega
   subst this;exact ih (by omega)
end Pg
namespace Pg
theorem ylL {S:Fs} (h:S.Ok) (q:Nat) (ts:List Int) (k:Nat):Up S S q ts k:=⟨h,rfl,rfl,fun _ _ _ _=>rfl,rfl⟩
theorem ylq {A B:List Mp} {x:Mp} {q:Int} (hL:Good (A++[x]++B)) (hx:x.has q=Y):fnd (A++[x]++B) q=some A.length:=by
 have hp:=hL.up;rw[kI,List.pairwise_append]at hp
 have hA:∀m,m ∈ A->m.has q=O:=by
  intro m hm;have h1:=hp.2.2 m hm x (by simp);cases hh:m.has q
  ·rfl
  ·obtain⟨h1,h2⟩:=h1
   simp[Mp.meets,meet,over]at h2;simp[Mp.has,over]at hh hx;omega
 unfold fnd;rw[kI,uP]
 have:A.findIdx? (fun m=>m.has q)=none:=by
  rw[kW];exact hA
 rw[this];simp[hx,uR]
theorem erase_mid (A B:List Mp) (x:Mp):(A++[x]++B).eraseIdx A.length=A++B:=by
 rw[kI,List.eraseIdx_append_of_length_le (ke _)];simp
theorem yjH {S:Fs} {L:List Mp} (h:Rep S L) {x:Mp} {R:Fs×List Int} {A B:List Sp} {z:Sp} {T:List Int} (r:Removed S L x R A B z T):
 R.2.Nodup/\(∀y,y ∈ R.2->R.1.has y=Y)/\Rep (gives R.2 R.1) (zM A++zM B)/\(gives R.2 R.1).free=S.free+R.2.length/\thr (gives R.2 R.1) zW 3 0 0=(A++[z]++B,0):=by
 have hTh:=yiA 3 0 0 h.code;have hnd:=h.nodup;rw[r.tabs]at hnd hTh;obtain⟨hn0,hnd1⟩:=kF.1 hnd;rw[w]at hnd1;obtain⟨hndAT,hndB,hdisj⟩:=hnd1;rw[w]at hndAT;obtain⟨hndA,hndT,hdisA⟩:=hndAT
 have hasR:∀y,R.1.has y=S.has y:=by
  intro y;unfold Fs.has Fs.inn;rw[r.used]
 have hnR:R.2.Nodup:=by rw[r.gone];exact List.pairwise_reverse.2 (hndT.imp fun h=>h.symm)
 have hhR:∀y,y ∈ R.2->R.1.has y=Y:=by
  intro y hy;rw[r.gone,kn]at hy;rw[hasR];exact hTh y (J _ (I _ (N _ hy)))
 have notT:∀y,y ∈ (0:Int)::(zU A++zU B)->y ∉ T:=by
  intro y hy hyT;rcases H.1 hy with rfl|hy
  ·exact hn0 (I _ (N _ hyT))
  ·rcases Z.1 hy with hy|hy
   ·exact hdisA y hy y hyT rfl
   ·exact hdisj y (N _ hyT) y hy rfl
 obtain⟨g1,g2,g3,g4,g5⟩:=yib R.2 R.1 r.ok hnR hhR
 have hz1:zU [z]=[]:=by simp[zU,r.zero,En.zero,En.on]
 have hz2:zM [z]=[]:=by simp[zM,r.zero,En.zero]
 have htab:zU (thr R.1 zW 3 0 0).1=zU A++zU B:=by rw[r.thr,yhm,yhm,hz1,kP]
 have hag:thr (gives R.2 R.1) zW 3 0 0=thr R.1 zW 3 0 0:=by
  refine yjO 3 0 0 (by rw[r.thr]) fun y hy=> ?_;rw[htab]at hy;have hyT:=notT y hy;refine⟨?_,fun i _=>by rw[g2]⟩;rw[Bool.eq_iff_iff];simp only[Fs.has,Fs.inn,kZ,decide_eq_true_eq];constructor
  ·rintro ⟨a1,a2⟩
   exact⟨a1,((g4 _).1 a2).1⟩
  ·rintro ⟨a1,a2⟩
   refine⟨a1,(g4 _).2 ⟨a2,?_⟩⟩;rw[r.gone,kn,Int.toNat_of_nonneg a1];exact hyT
 refine⟨hnR,hhR,⟨g1,by rw[hag,r.thr],?_,?_,?_,?_⟩,by rw[g5,r.free],by rw[hag,r.thr]⟩
 ·rw[hag,r.thr,yhq,yhq,hz2,kP]
 ·rw[hag,htab]
  refine kF.2 ⟨fun h0=>hn0 ?_,w.2 ⟨hndA,hndB,fun a ha b hb=>hdisj a (I _ ha) b hb⟩⟩;rcases Z.1 h0 with h0|h0
  ·exact I _ (I _ h0)
  ·exact N _ h0
 ·intro k
  rw[hag,htab,g4 k,r.used,h.used k,r.tabs,r.gone,kn];constructor
  ·rintro ⟨a1,a2⟩
   rcases H.1 a1 with a1|a1
   ·rw[a1];exact V
   ·refine J _ ?_
    rcases Z.1 a1 with a1|a1
    ·rcases Z.1 a1 with a1|a1
     ·exact I _ a1
     ·exact absurd a1 a2
    ·exact N _ a1
  ·intro a1
   refine⟨?_,notT _ a1⟩;rcases H.1 a1 with a1|a1
   ·rw[a1];exact V
   ·refine J _ ?_
    rcases Z.1 a1 with a1|a1
    ·exact I _ (I _ a1)
    ·exact N _ a1
 ·intro y hy
  rw[hag,htab]at hy;have:=r.full y hy;rw[yhQ]at this ⊢;rw[g2];exact this
theorem yj6 {S:Fs} {L:List Mp} (h:Rep S L) (p:Int):(rmR S 0 p).1.Ok/\(rmR S 0 p).1.n=S.n/\(rmR S 0 p).1.used=S.used/\(rmR S 0 p).2.Nodup/\(∀y,y ∈ (rmR S 0 p).2->(rmR S 0 p).1.has y=Y)/\Rep (gives (rmR S 0 p).2 (rmR S 0 p).1) (yio L p)/\(gives (rmR S 0 p).2 (rmR S 0 p).1).free=S.free+(rmR S 0 p).2.length/\
 ∀s,s ∈ (thr S zW 3 0 0).1->s.e.l=Y->(tFC S 0 p=0->s.mp≠tFM S 0 p)->s ∈ (thr (gives (rmR S 0 p).2 (rmR S 0 p).1) zW 3 0 0).1:=by
 by_cases hc:tFC S 0 p=0
 ·have hd:yhN L p=0:=by rw[<-(yhW h p).1];exact hc
  have hp:below p 4096=Y:=by
   cases hp:below p 4096
   ·simp[yhN,hp]at hd
   ·rfl
  obtain⟨p0,p1⟩:=zB.1 hp;obtain⟨q,rfl⟩:=kA p0
  have hq:q<4096:=by omega
  obtain⟨hz,lv,e,tl,A,B,F⟩:=yh8 h (q:=q) hq
  have ht:e.t=Y:=by
   cases ht:e.t
   ·rw[tFC,hz,if_neg (by decide),F.way.yhr,ht]at hc
    simp at hc
   ·rfl
  obtain⟨hl,hlv2,hmap,hhas⟩:=yh1 h.ok hq F ht;have hlen:=F.way.len
  have e1:(zj S 0 (q:Int)).length=(zj S 0 (q:Int)).length-1+1:=by omega
  have hdrop:(tabs (zj S 0 (q:Int))).drop ((zj S 0 (q:Int)).length-1+1)=[]:=by
   rw[<-e1];exact List.drop_eq_nil_of_le (by rw[xM];omega)
  have hR:rmR S 0 (q:Int)=rmW (q:Int) (tabs (zj S 0 (q:Int))) ((zj S 0 (q:Int)).length-1+1) S []:=by
   rw[rmR,if_pos hc,<-e1]
  obtain⟨A',B',z,T,r⟩:=yl5 h hq hz (e.map lv (q:Int)) ((zj S 0 (q:Int)).length-1) (by omega) S [] (ylL h.ok q _ _) (by
   intro s hs;rw[hdrop]
   have hgl:(zj S 0 (q:Int)).getLast?=some s:=by rw[List.getLast?_eq_getElem?];exact hs
   have hsl:(s.level:Int)=lv:=by
    have:=F.way.yht;unfold Go.Proofs.YtdphiompijbelaaGreatDoor.yht at this;rw[hgl]at this;exact this
   have hst:s.table=tl:=by
    have:=F.way.lastT;unfold Go.Proofs.YtdphiompijbelaaGreatDoor.lastT at this;rw[hgl]at this;exact this
   have hsl:s.level=lv:=by omega
   have hwz:(thr S (onW (q:Int)) 3 0 0).2=0:=by
    unfold xG at hz;rw[if_pos hp]at hz;exact hz
   have eX:zj S 0 (q:Int)=(thr S (onW (q:Int)) 3 0 0).1:=by unfold zj;rw[if_pos ⟨hp,hwz⟩]
   rw[eX]at hgl
   have hd3:q/8^3<8:=by
    rw[show(8:Nat)^3=512 by decide];omega
   obtain⟨A1,B1,sp⟩:=yli h.ok q 3 (by omega) 0 0 (by omega) (by decide) (by omega) (by omega) h.code h.nodup s (uB hgl);rw[sp.ahead,sp.place,hst,hsl,F.one];have hsm:=yjJ h.ok hq (ykK q lv).1 F.way.en hl;have hon:=F.way.on;refine⟨?_,?_⟩
   ·rw[<-hsm]
    simp[zM,hl]
   ·simp[zU,hon]) (by rw[hdrop];rfl)
  rw[hR];obtain⟨r1,r2,r3,r4,r5⟩:=yjH h r;refine⟨r.ok,r.n,r.used,r1,r2,?_,r4,?_⟩
  rotate_left
  ·intro s hs hsl hne
   have hne:=hne hc;rw[tFM,if_pos hc,F.way.yhr,F.way.yht]at hne;obtain⟨M,hM,hM2⟩:=r.all;rw[hM]at hs;rw[r5];rcases Z.1 hs with hs|hs
   ·rcases Z.1 hs with hs|hs
    ·exact I _ (I _ hs)
    ·have:s.mp ∈ zM M:=by
      simp only[zM,E];exact⟨s,hs,by rw[if_pos hsl];exact V⟩
     rw[hM2,uN]at this;exact absurd this hne
   ·exact N _ hs
  have hg:=yhS h;rw[r.list]at hg;have hf:=ylq hg hhas
  have:yio L (q:Int)=zM A'++zM B':=by
   unfold yio;rw[if_pos hd];rw[r.list,hf];exact erase_mid _ _ _
  rw[this];exact r3
 ·have hd:yhN L p≠0:=by rw[<-(yhW h p).1];exact hc
  have e:rmR S 0 p=(S,[]):=by rw[rmR,if_neg hc]
  have e2:yio L p=L:=by rw[yio,if_neg hd]
  rw[e,e2];exact⟨h.ok,rfl,rfl,kp,fun y hy=>by simp at hy,h,by simp[gives],fun s hs _ _=>hs⟩
end Pg
namespace Pg
def kOf (X:List Sp):List (Nat×Nat):=X.flatMap fun s=>if s.e.on=Y then [(s.level,s.ahead)]else []
theorem kOf_len (X:List Sp):(kOf X).length=(zU X).length:=by
 induction X with
 | nil=>rfl
 | cons s X ih=>
   have e1:kOf (s::X)=(if s.e.on=Y then [(s.level,s.ahead)]else [])++kOf X:=by simp[kOf]
   have e2:zU (s::X)=(if s.e.on=Y then [s.e.f]else [])++zU X:=by simp[zU]
   rw[e1,e2,kg,kg,ih]
   split<;>rfl
def Wants (L:List Mp) (lv:Nat) (k:Nat×Nat):Prop:=∃m,m ∈ L/\m.s<(k.1:Int)/\k.1<=lv/\k.2=m.p.toNat/8^k.1
structure Kpt (lv a n:Nat) (K:List (Nat×Nat)) (L:List Mp):Prop where
 nodup:K.Nodup
 mem:∀k,k ∈ K ↔ Wants L lv k
 low:∀k,k ∈ K->k.1<=lv/\a<=k.2/8^(lv-k.1)/\k.2/8^(lv-k.1)<a+n
 size:∀m,m ∈ L->m.s<=(lv:Int)
theorem ok_size {m:Mp} (h:m.code=0):m.s=0\/m.s=1\/m.s=2:=by
 obtain⟨h0,_⟩:=yhy h;rcases yhG m.s with ⟨e,_⟩|⟨e,_⟩|⟨e,_⟩|⟨_,_,_,e⟩
 ·exact .inl e
 ·exact .inr (.inl e)
 ·exact .inr (.inr e)
 ·exact absurd e h0
theorem div_pow (x c b:Nat) (h:b<=c):x/8^(c+1-b)=x/8^(c-b)/8:=by
 rw[show c+1-b=c-b+1 by omega,W,kR]
section
variable {S:Fs}
theorem kpt (h:S.Ok):∀(lv:Nat),lv<4->∀(t:Int) (a:Nat),a+8<=8^(4-lv)->(thr S zW lv t a).2=0->(∀x,x ∈ zU (thr S zW lv t a).1->yhx S x=O)->
 Kpt lv a 8 (kOf (thr S zW lv t a).1) (zM (thr S zW lv t a).1):=by
 intro lv
 induction lv using kK with
 | _ lv IH=>
 intro hlv t a ha hz hfull;obtain⟨c1,c2⟩:=yhF hz;have hpow:0<8^lv:=kB (by decide)
 have hall:(a+8)*8^lv<=4096:=by
  have h3:(a+8)*8^lv<=8^(4-lv)*8^lv:=Q _ ha;rw[<-kD,show 4-lv+lv=4 by omega]at h3
  have e:(8:Nat)^4=4096:=by decide
  omega
 have one:∀j,j<8->Kpt lv (a+j) 1 (kOf (out S zW lv (sub S zW lv) t a j).1) (zM (out S zW lv (sub S zW lv) t a j).1):=by
  intro j hj;obtain⟨hc,ho⟩:=yhI (c1 j hj);have hrg:=fun m hm=>yis h hlv hj ha (c1 j hj) (m:=m) hm;have hbj:(a+j+1)*8^lv<=(a+8)*8^lv:=Q _ (by omega)
  have hex:(a+j+1)*8^lv=(a+j)*8^lv+8^lv:=by rw[kN,kY]
  rcases ho with ⟨hon,ho⟩|⟨hon,hr,ho⟩
  ·rw[ho]
   have ek:kOf [spt S t j lv a]=[]:=by
    have:(spt S t j lv a).e.on=O:=hon;simp[kOf,this]
   rw[ek]
   have hsz:∀m,m ∈ zM [spt S t j lv a]->m.s=(lv:Int):=by
    intro m hm
    by_cases hl:(rEn S t j lv).l=Y
    ·have hl':(spt S t j lv a).e.l=Y:=hl
     simp[zM,hl']at hm;subst hm;have h2:=(yhH h hl).2.2;rw[yiJ h2,yhD h hl (by omega)]
    ·have hl':(spt S t j lv a).e.l=O:=ki.2 hl
     simp[zM,hl']at hm
   refine⟨kp,fun k=>⟨fun hk=>by simp at hk,?_⟩,fun k hk=>by simp at hk,fun m hm=>by rw[hsz m hm];omega⟩;rintro ⟨m,hm,h1,h2,_⟩;have:=hsz m hm;omega
  ·obtain⟨b,rfl⟩:=yhM hon
   rw[ho]at hrg ⊢;have hon':(spt S t j (b+1) a).e.on=Y:=hon
   have hl':(spt S t j (b+1) a).e.l=O:=by
    simp[En.on]at hon';exact hon'.2
   have hr2:(thr S zW b (rEn S t j (b+1)).f ((a+j)*8)).2=0:=hr
   have hsub:∀x,x ∈ (rEn S t j (b+1)).f::zU (thr S zW b (rEn S t j (b+1)).f ((a+j)*8)).1->yhx S x=O:=by
    intro x hx;refine hfull x (yiT hj hz ?_);rw[ho,yhZ hon'];exact hx
   have IH':=IH b (by omega) (by omega) (rEn S t j (b+1)).f ((a+j)*8) (by
    rw[show 4-b=(4-(b+1))+1 by omega,W]
    omega) hr2 (fun x hx=>hsub x (J _ hx))
   obtain⟨m0,hm0⟩:=ylA b (rEn S t j (b+1)).f ((a+j)*8) hr2 (hsub _ V) (fun x hx=>hsub x (J _ hx))
   have ek:kOf (spt S t j (b+1) a::(sub S zW (b+1) (rEn S t j (b+1)).f ((a+j)*8)).1)=(b+1,a+j)::kOf (thr S zW b (rEn S t j (b+1)).f ((a+j)*8)).1:=by
    simp[kOf,hon,sub,spt]
   have em:zM (spt S t j (b+1) a::(sub S zW (b+1) (rEn S t j (b+1)).f ((a+j)*8)).1)=zM (thr S zW b (rEn S t j (b+1)).f ((a+j)*8)).1:=by
    simp[zM,hl',sub]
   rw[em]at hrg;rw[ek,em]
   have hpg:∀m,m ∈ zM (thr S zW b (rEn S t j (b+1)).f ((a+j)*8)).1->m.p.toNat/8^(b+1)=a+j:=by
    intro m hm;obtain⟨g1,g2⟩:=hrg m hm;have hsb:=IH'.size m hm
    have hgood:=(yky h b (by omega) (rEn S t j (b+1)).f ((a+j)*8) (by
     rw[show 4-b=(4-(b+1))+1 by omega,W]
     omega) hr2).1 m hm
    have hs1:=(yhy hgood).1;have hs2:=(yhP m.s).1;refine Nat.div_eq_of_lt_le ?_ ?_
    ·omega
    ·omega
   refine⟨kF.2 ⟨fun hk=> ?_,IH'.nodup⟩,fun k=>⟨fun hk=> ?_,fun hk=> ?_⟩,fun k hk=> ?_,fun m hm=> ?_⟩
   ·have:=(IH'.low _ hk).1
    simp only at this;omega
   ·rcases H.1 hk with rfl|hk
    ·have:=IH'.size m0 hm0
     exact⟨m0,hm0,by simp only;omega,ke _,(hpg m0 hm0).symm⟩
    ·obtain⟨m,k1,k2,k3,k4⟩:=(IH'.mem k).1 hk
     exact⟨m,k1,k2,by omega,k4⟩
   ·obtain⟨m,k1,k2,k3,k4⟩:=hk
    by_cases e:k.1=b+1
    ·refine H.2 (.inl ?_)
     obtain⟨kl,kx⟩:=k;simp only at e k4;subst e;rw[k4,hpg m k1]
    ·exact J _ ((IH'.mem k).2 ⟨m,k1,k2,by omega,k4⟩)
   ·rcases H.1 hk with rfl|hk
    ·refine⟨ke _,?_⟩
     simp only[Nat.sub_self,Nat.pow_zero,Nat.div_one];omega
    ·obtain⟨l1,l2,l3⟩:=IH'.low k hk
     refine⟨by omega,?_⟩;rw[div_pow _ _ _ l1];omega
   ·have:=IH'.size m hm
    omega
 rw[c2]
 have ekk:kOf ((List.range 8).flatMap fun j=>(out S zW lv (sub S zW lv) t a j).1)=(List.range 8).flatMap fun j=>kOf (out S zW lv (sub S zW lv) t a j).1:=by simp only[kOf,kJ]
 have emm:zM ((List.range 8).flatMap fun j=>(out S zW lv (sub S zW lv) t a j).1)=(List.range 8).flatMap fun j=>zM (out S zW lv (sub S zW lv) t a j).1:=by simp only[zM,kJ]
 rw[ekk,emm];refine⟨?_,fun k=>⟨fun hk=> ?_,fun hk=> ?_⟩,fun k hk=> ?_,fun m hm=> ?_⟩
 ·unfold List.Nodup
  rw[uI];refine⟨fun j hj=>(one j (by simpa using hj)).nodup,?_⟩;refine List.Pairwise.imp_of_mem ?_ (List.nodup_range (n:=8));intro i j hi hj hne x hx y hy e;subst e;have h1:=(one i (by simpa using hi)).low x hx;have h2:=(one j (by simpa using hj)).low x hy;omega
 ·obtain⟨j,hj,hk⟩:=E.1 hk
  obtain⟨m,k1,k2⟩:=((one j (by simpa using hj)).mem k).1 hk;exact⟨m,E.2 ⟨j,hj,k1⟩,k2⟩
 ·obtain⟨m,k1,k2⟩:=hk
  obtain⟨j,hj,k1⟩:=E.1 k1;exact E.2 ⟨j,hj,((one j (by simpa using hj)).mem k).2 ⟨m,k1,k2⟩⟩
 ·obtain⟨j,hj,hk⟩:=E.1 hk
  have hj':j<8:=by simpa using hj
  have:=(one j hj').low k hk;omega
 ·obtain⟨j,hj,hm⟩:=E.1 hm
  exact(one j (by simpa using hj)).size m hm
end
def ylz (m:Mp):List Int:=(List.filter (fun l:Nat=>decide (m.s<(l:Int))) [3,2,1]).map fun l:Nat=>((m.p.toNat/8^l*4+l:Nat):Int)
def see:List Int->List Int->List Int
 | [],A=>A
 | k::r,A=>see r (if k ∈ A then A else A++[k])
def seen (L:List Mp):List Int:=see (L.flatMap ylz) []
def needed (L:List Mp):Int:=((seen L).length:Int)+1
theorem ykk:∀(l A:List Int),A.Nodup->(see l A).Nodup/\∀k,k ∈ see l A ↔ k ∈ A\/k ∈ l
 | [],A,h=>⟨h,fun k=>by simp[see]⟩
 | x::r,A,h=>by
   by_cases hx:x ∈ A
   ·obtain⟨i1,i2⟩:=ykk r A h
    have e:see (x::r) A=see r A:=by simp[see,hx]
    rw[e];refine⟨i1,fun k=> ?_⟩;rw[i2 k,H];constructor
    ·rintro (h'|h')
     ·exact .inl h'
     ·exact .inr (.inr h')
    ·rintro (h'|h'|h')
     ·exact .inl h'
     ·exact .inl (h'▸hx)
     ·exact .inr h'
   ·obtain⟨i1,i2⟩:=ykk r (A++[x]) (w.2 ⟨h,by simp,fun a ha b hb e=>by simp at hb;subst hb;exact hx (e▸ha)⟩)
    have e:see (x::r) A=see r (A++[x]):=by simp[see,hx]
    rw[e];refine⟨i1,fun k=> ?_⟩;rw[i2 k,H,Z,uN,or_assoc]
theorem ykx:∀(A B:List Int),A.Nodup->(∀x,x ∈ A->x ∈ B)->A.length<=B.length
 | [],_,_,_=>Nat.zero_le _
 | x::r,B,h,hs=>by
   obtain⟨h1,h2⟩:=kF.1 h;have hx:=hs x V;have:=ykx r (B.erase x) h2 fun y hy=>(List.mem_erase_of_ne (fun(e:y=x)=>h1 (e▸hy))).2 (hs y (J _ hy));rw[List.length_erase_of_mem hx]at this;have:0<B.length:=List.length_pos_of_mem hx;rw[km];omega
theorem rep_needed {S:Fs} {L:List Mp} (h:Rep S L):needed L=((zU (thr S zW 3 0 0).1).length:Int)+1:=by
 have K:=kpt h.ok 3 (by omega) 0 0 (by decide) h.code h.full;rw[h.maps]at K;have hgood:=(yhS h).ok
 have hM:∀k:Int,k ∈ L.flatMap ylz ↔ k ∈ (kOf (thr S zW 3 0 0).1).map fun k=>((k.2*4+k.1:Nat):Int):=by
  intro k;rw[E,kO];constructor
  ·rintro ⟨m,hm,hk⟩
   unfold ylz at hk;obtain⟨l,hl,rfl⟩:=kO.1 hk;obtain⟨hl1,hl2⟩:=uT.1 hl;refine⟨(l,m.p.toNat/8^l),(K.mem _).2 ⟨m,hm,by simpa using hl2,?_,rfl⟩,rfl⟩;simp at hl1;simp only;omega
  ·rintro ⟨⟨l,x⟩,hx,rfl⟩
   obtain⟨m,hm,k1,k2,k3⟩:=(K.mem _).1 hx;simp only at k1 k2 k3;have hs:=ok_size (hgood m hm);refine⟨m,hm,?_⟩;unfold ylz;refine kO.2 ⟨l,uT.2 ⟨?_,by simpa using k1⟩,by simp only;rw[k3]⟩
   have:l=1\/l=2\/l=3:=by omega
   rcases this with rfl|rfl|rfl<;>simp
 have hnd:((kOf (thr S zW 3 0 0).1).map fun k=>((k.2*4+k.1:Nat):Int)).Nodup:=by
  unfold List.Nodup;rw[ka];refine List.Pairwise.imp_of_mem ?_ K.nodup;rintro ⟨l1,x1⟩ ⟨l2,x2⟩ h1 h2 hne e;have b1:=(K.low _ h1).1;have b2:=(K.low _ h2).1;simp only at e b1 b2;refine hne ?_
  have e1:l1=l2:=by omega
  have e2:x1=x2:=by omega
  rw[e1,e2]
 obtain⟨s1,s2⟩:=ykk (L.flatMap ylz) [] kp;have a1:=ykx _ _ s1 fun x hx=>(hM x).1 (by simpa using (s2 x).1 hx);have a2:=ykx _ _ hnd fun x hx=>(s2 x).2 (.inr ((hM x).2 hx));rw[uF,kOf_len]at a1 a2;unfold needed seen;omega
end Pg
namespace Pg
theorem rep_free {S:Fs} {L:List Mp} (h:Rep S L):S.free=S.n-(((zU (thr S zW 3 0 0).1).length:Int)+1):=by
 have hnd:S.used.Nodup:=(w.1 h.ok.nodup).1
 have hnd':(S.used.map fun k:Nat=>(k:Int)).Nodup:=by
  rw[kU,ka];exact(kU.1 hnd).imp fun hne e=>hne (kj.1 e)
 have hTh:=yiA 3 0 0 h.code
 have a1:=ykx _ _ hnd' (fun x hx=>by
  obtain⟨k,hk,rfl⟩:=kO.1 hx
  exact(h.used k).1 hk)
 have a2:=ykx _ (S.used.map fun k:Nat=>(k:Int)) h.nodup (fun x hx=>by
  have hx':=h.ok.yiX (hTh x hx)
  exact kO.2 ⟨x.toNat,hx'.2.2,by omega⟩)
 rw[uF,km]at a1 a2;have hl:=h.ok.len;have ht:=h.ok.top;unfold Fs.free;omega
theorem rep_start {n:Nat} (h1:1<=n) (h2:n<=128):Rep (Fs.new n).take []:=by
 have ok:=(Fs.ylW n h2).take
 have e:(Fs.new n).take=⟨n,1,[0],[],Fs.clear (fun _ _=>0) 0⟩:=by
  unfold Fs.take Fs.new;simp only[List.getLast?_nil];rw[if_pos (show 0<n by omega)]
 rw[e]at ok ⊢
 have hh:(⟨n,1,[0],[],Fs.clear (fun _ _=>0) 0⟩:Fs).has 0=Y:=by simp[Fs.has,Fs.inn]
 have hw:∀i,(⟨n,1,[0],[],Fs.clear (fun _ _=>0) 0⟩:Fs).word (0:Int).toNat i=0:=fun i=>by simp[Fs.clear]
 generalize hS:(⟨n,1,[0],[],Fs.clear (fun _ _=>0) 0⟩:Fs)=S at*
 have hout:∀j,out S zW 3 (sub S zW 3) 0 0 j=([spt S 0 j 3 0],0)/\(spt S 0 j 3 0).e=En.zero:=by
  intro j;obtain⟨r1,r2⟩:=yiK (lv:=3) hh (by omega) (hw j);refine⟨?_,r2⟩;unfold out;rw[if_neg (by simp[zW]),if_neg (by simpa using r1),if_pos (by rw[r2];rfl)]
 have hthr:=yjv (S:=S) (lv:=3) (t:=0) (a:=0) (fun j _=>by rw[(hout j).1])
 have ht:zU (thr S zW 3 0 0).1=[]:=by
  rw[hthr];simp only[zU,kJ];refine kw.2 fun j _=> ?_;rw[(hout j).1];simp[(hout j).2,En.zero,En.on]
 have hm:zM (thr S zW 3 0 0).1=[]:=by
  rw[hthr];simp only[zM,kJ];refine kw.2 fun j _=> ?_;rw[(hout j).1];simp[(hout j).2,En.zero]
 refine⟨ok,by rw[hthr],hm,by rw[ht];simp,fun k=> ?_,fun x hx=>by rw[ht]at hx;simp at hx⟩;rw[ht,<-hS];simp
def ykn (S:Fs) (q:Int):Prop:=∃s,s ∈ (thr S zW 3 0 0).1/\s.e.l=Y/\s.mp.has q=Y/\s.e.u=Y/\s.e.d=Y
end Pg
end
end Go.Proofs.YtdphiompijbelaaGreatDoor
