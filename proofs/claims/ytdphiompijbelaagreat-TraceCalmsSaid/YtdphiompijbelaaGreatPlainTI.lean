import Derived.Test.YtdphiompijbelaaGreatCrA
open Int renaming eq_ofNat_of_zero_le->yF,toNat_natCast->yQ,ofNat_inj->yM
open Nat renaming mul_le_mul_right->Q,sub_add_cancel->D,pow_succ->W,pow_pos->kp,mul_comm->un,div_mul_le_self->ur,div_div_eq_div_mul->uv,add_mul->ud,one_mul->uc,mul_div_cancel->ua,mul_assoc->yJ,strongRecOn->yC,pow_add->yT,lt_div_mul_add->yV,lt_or_gt_of_ne->yH,div_add_mod->yz,le_refl->yi,div_lt_iff_lt_mul->yk,lt_of_le_of_lt->yt
open Bool renaming true->Y,false->O,and_eq_true->yB,eq_false_iff->yK
open List renaming mem_append_left->I,mem_cons_of_mem->J,mem_append_right->N,mem_cons_self->V,mem_append->Z,mem_flatMap->E,mem_cons->H,flatMap_cons->o,nodup_append->w,append_assoc->kO,flatMap_assoc->ki,append_nil->kh,nodup_cons->ue,range'->yI,nodup_iff_pairwise_ne->yP,mem_map->yS,mem_range'_1->yR,range_eq_range'->yN,getElem?_eq_getElem->yY,flatMap_nil->yZ,findIdx?_eq_none_iff->yU,getElem?_cons_succ->yO,mem_reverse->yX,mem_of_getElem?->yE,flatMap_append->yD,nodup_nil->yA,length_append->yL,pairwise_map->yG,length_cons->yW,flatMap_eq_nil_iff->yy,pairwise_flatMap->yj,mem_of_getLast?->yn,findIdx?_append->yq,getLast?_cons->yr,findIdx?_cons->yu,mem_singleton->yv,any_eq_true->yo,mem_filter->yp,length_map->yg
namespace Go.Proofs.YtdphiompijbelaaGreat
open Go.RowKit
section
namespace Pg
theorem yi1 {S:Fs} {t:Int} {i lv a:Nat} (h2:lv<=2):(spt S t i lv a).mp=(rEn S t i lv).map lv (((a+i)*8^lv:Nat):Int):=by
 have e:(((a+i)*8^lv:Nat):Int)=((a+i:Nat):Int)*span (lv:Int):=by
  have:lv=0\/lv=1\/lv=2:=by omega
  rcases this with rfl|rfl|rfl<;>simp[span]
 rw[e];rfl
theorem yiA {lv:Nat} (h:lv<=2):span (lv:Int)=((8^lv:Nat):Int):=by
 have:lv=0\/lv=1\/lv=2:=by omega
 rcases this with rfl|rfl|rfl<;>simp[span]
theorem yh5 {S:Fs} (h:S.Ok) {t:Int} {i lv:Nat} (hl:(rEn S t i lv).l=Y) {q:Nat} (hq:q<4096):
 (rEn S t i lv).map lv (q:Int)=⟨((q/8^lv*8^lv:Nat):Int),(lv:Int),(rEn S t i lv).f,(rEn S t i lv).r⟩:=by
 obtain⟨hc,_,h2⟩:=yh6 h hl;have hf:yhN (rEn S t i lv).t (rEn S t i lv).l (rEn S t i lv).r (rEn S t i lv).u (rEn S t i lv).d (rEn S t i lv).f (lv:Int)=0:=yih h hc
 have d9:lOk (rEn S t i lv).t (rEn S t i lv).l (rEn S t i lv).r (rEn S t i lv).u (rEn S t i lv).d (rEn S t i lv).f (lv:Int) (q:Int)=Y:=by
  have hb:below (q:Int) 4096=Y:=zB.2 ⟨by omega,by omega⟩;unfold lOk;rw[hf,hb,hl];rfl
 have e:(q:Int)-(q:Int)%span (lv:Int)=((q/8^lv*8^lv:Nat):Int):=by
  rw[yiA h2];have h1:=yz q (8^lv);rw[un]at h1;omega
 unfold En.map ykn ykX yjR yiU;rw[d9];simp only[if_true];rw[e]
theorem yia {S:Fs} {lv:Nat} {rec:Int->Nat->List Sp×Int} {t:Int} {a i:Nat} (hz:(out S zW lv rec t a i).2=0):
 yhR S t i lv=0/\(((rEn S t i lv).on=O/\out S zW lv rec t a i=([spt S t i lv a],0))\/((rEn S t i lv).on=Y/\(rec (rEn S t i lv).f ((a+i)*8)).2=0/\(out S zW lv rec t a i).1=spt S t i lv a::(rec (rEn S t i lv).f ((a+i)*8)).1)):=by
 unfold out at hz ⊢;rw[iN (by simp[zW])]at hz ⊢;split at hz
 ·rename_i h1
  exact absurd hz h1
 ·rename_i h1
  have h1:yhR S t i lv=0:=by simpa using h1
  refine⟨h1,?_⟩;rw[iN (by simpa using h1)];split at hz
  ·rename_i h2
   exact .inl ⟨h2,by rw[iP h2]⟩
  ·rename_i h2
   exact .inr ⟨by simpa using h2,hz,by rw[iN h2]⟩
section
variable {S:Fs}
theorem ykd (h:S.Ok):∀(lv:Nat),lv<4->∀(t:Int) (a:Nat),a+8<=8^(4-lv)->(thr S zW lv t a).2=0->∀m,m ∈ zM (thr S zW lv t a).1->((a*8^lv:Nat):Int)<=m.p/\m.p+span m.s<=(((a+8)*8^lv:Nat):Int):=by
 intro lv
 induction lv using yC with
 | _ lv IH=>
 intro rQ t a ha hz m hm;rw[yiQ]at hz hm;obtain⟨h1,h2⟩:=yju 8 0 hz;rw[h2]at hm;simp only[zM,E]at hm;obtain⟨s,⟨i,hi,hs⟩,gI⟩:=hm
 have hi8:i<8:=by have:=(yR.1 hi).2;omega
 have sK:0<8^lv:=kp (by decide);have fK:(a+i+1)*8^lv<=(a+8)*8^lv:=Q _ (by omega);have hge:a*8^lv<=(a+i)*8^lv:=Q _ (by omega)
 have rF:(a+8)*8^lv<=4096:=by
  have h3:(a+8)*8^lv<=8^(4-lv)*8^lv:=Q _ ha;rw[<-yT,show 4-lv+lv=4 by omega]at h3
  have e:(8:Nat)^4=4096:=by decide
  omega
 have hex:(a+i+1)*8^lv=(a+i)*8^lv+8^lv:=by rw[ud,uc]
 obtain⟨hc,ho⟩:=yia (h1 i (by omega) (by omega))
 have leaf:s=spt S t i lv a->((a*8^lv:Nat):Int)<=m.p/\m.p+span m.s<=(((a+8)*8^lv:Nat):Int):=by
  intro e;subst e
  by_cases hl:(rEn S t i lv).l=Y
  ·have hl':(spt S t i lv a).e.l=Y:=hl
   rw[iP hl']at gI;simp at gI;subst gI;have h2:=(yh6 h hl).2.2;rw[yi1 h2,yh5 h hl (by omega),ua _ sK];simp only;rw[yiA h2];omega
  ·have hl':¬(spt S t i lv a).e.l=Y:=hl
   rw[iN hl']at gI;simp at gI
 rcases ho with ⟨_,ho⟩|⟨Hu,hr,ho⟩
 ·rw[ho]at hs
  simp at hs;exact leaf hs
 ·rw[ho]at hs
  simp at hs;rcases hs with hs|hs
  ·exact leaf hs
  ·obtain⟨k,rfl⟩:=yib Hu
   have tq:(thr S zW k (rEn S t i (k+1)).f ((a+i)*8)).2=0:=hr;have pJ:s ∈ (thr S zW k (rEn S t i (k+1)).f ((a+i)*8)).1:=hs
   have:=IH k (by omega) (by omega) (rEn S t i (k+1)).f ((a+i)*8) (by
    rw[show 4-k=(4-(k+1))+1 by omega,W]
    omega) tq m (by simp only[zM,E];exact⟨s,pJ,gI⟩)
   have e1:(a+i)*8*8^k=(a+i)*8^(k+1):=by rw[W,yJ,un 8]
   have e2:((a+i)*8+8)*8^k=(a+i+1)*8^(k+1):=by rw[show(a+i)*8+8=(a+i+1)*8 by omega,W,yJ,un 8]
   rw[e1,e2]at this;omega
end
theorem flatMap_one {α:Type} (f:Nat->List α) (k:Nat):∀(n s:Nat),(∀j,s<=j->j<s+n->j≠k->f j=[])->(yI s n).flatMap f=if s<=k/\k<s+n then f k else []
 | 0,s,_=>by rw[iN (by omega)];rfl
 | n+1,s,hf=>by
   rw[List.range'_succ,o,flatMap_one f k n (s+1) (fun j h1 h2 h3=>hf j (by omega) (by omega) h3)]
   by_cases e:s=k
   ·subst e
    have e1:¬(s+1<=s/\s<s+1+n):=by omega
    have e2:s<=s/\s<s+(n+1):=by omega
    rw[iN e1,iP e2,kh]
   ·rw[hf s (by omega) (by omega) e,List.nil_append]
    by_cases hk:s+1<=k/\k<s+1+n
    ·rw[iP hk,iP (by omega)]
    ·rw[iN hk,iN (by omega)]
section
variable {S:Fs}
theorem yk2 (h:S.Ok) (q:Nat):∀(lv:Nat),lv<4->∀(t:Int) (a:Nat),a%8=0->a+8<=8^(4-lv)->a<=q/8^lv->q/8^lv<a+8->(thr S zW lv t a).2=0->
 (thr S (onW (q:Int)) lv t a).2=0/\(∀s,s ∈ (thr S (onW (q:Int)) lv t a).1->s.table ∈ t::zU (thr S zW lv t a).1)/\
   ∃s,(thr S (onW (q:Int)) lv t a).1.getLast?=some s/\(zM (thr S zW lv t a).1).filter (fun m=>m.has (q:Int))=if s.e.t=Y then [s.e.map s.level (q:Int)]else []:=by
 intro lv
 induction lv using yC with
 | _ lv IH=>
 intro rQ t a ha8 ha h1 h2 hz;have Dz:=hz;rw[yiQ]at hz;obtain⟨c1,c2⟩:=yju 8 0 hz;have sK:0<8^lv:=kp (by decide)
 have dN:ix (q:Int) lv=q/8^lv%8:=by
  unfold ix
  have e:(q:Int)/8^lv%8=((q/8^lv%8:Nat):Int):=by simp
  rw[e];exact yQ _
 obtain⟨k,hk⟩:∃k,q/8^lv=a+k:=⟨q/8^lv-a,by omega⟩
 have uu:k<8:=by omega
 have Rt:ix (q:Int) lv=k:=by rw[dN];omega
 have MV:(a+k)*8^lv<=q:=by rw[<-hk];exact ur q _
 have Ae:q<(a+k+1)*8^lv:=by
  rw[<-hk,ud,uc];have:=yV (a:=q) sK;omega
 have rF:(a+8)*8^lv<=4096:=by
  have h3:(a+8)*8^lv<=8^(4-lv)*8^lv:=Q _ ha;rw[<-yT,show 4-lv+lv=4 by omega]at h3
  have e:(8:Nat)^4=4096:=by decide
  omega
 have Af:q<4096:=by
  have:(a+k+1)*8^lv<=(a+8)*8^lv:=Q _ (by omega);omega
 have other:∀j,j<8->j≠k->(zM (out S zW lv (sub S zW lv) t a j).1).filter (fun m=>m.has (q:Int))=[]:=by
  intro j hj Ho;rw[List.filter_eq_nil_iff];intro m hm;simp only[Mp.has,over,yB,decide_eq_true_eq,not_and];intro fK
  have rng:(((a+j)*8^lv:Nat):Int)<=m.p/\m.p+span m.s<=(((a+j+1)*8^lv:Nat):Int):=by
   obtain⟨hc,ho⟩:=yia (c1 j (by omega) (by omega));have Ku:(a+j+1)*8^lv<=(a+8)*8^lv:=Q _ (by omega)
   have hex:(a+j+1)*8^lv=(a+j)*8^lv+8^lv:=by rw[ud,uc]
   have leaf:∀hl:(rEn S t j lv).l=Y,m=(spt S t j lv a).mp->(((a+j)*8^lv:Nat):Int)<=m.p/\m.p+span m.s<=(((a+j+1)*8^lv:Nat):Int):=by
    intro hl e;subst e;have h2:=(yh6 h hl).2.2;rw[yi1 h2,yh5 h hl (by omega),ua _ sK];simp only;rw[yiA h2];omega
   rcases ho with ⟨Hu,ho⟩|⟨Hu,hr,ho⟩
   ·rw[ho]at hm
    by_cases hl:(rEn S t j lv).l=Y
    ·have hl':(spt S t j lv a).e.l=Y:=hl
     simp[zM,hl']at hm;exact leaf hl hm
    ·have hl':(spt S t j lv a).e.l=O:=yK.2 hl
     simp[zM,hl']at hm
   ·rw[ho]at hm
    have hl':(spt S t j lv a).e.l=O:=by
     have:(rEn S t j lv).on=Y:=Hu;simp[En.on]at this;exact this.2
    obtain⟨b,rfl⟩:=yib Hu;have tq:(thr S zW b (rEn S t j (b+1)).f ((a+j)*8)).2=0:=hr
    have sD:m ∈ zM (thr S zW b (rEn S t j (b+1)).f ((a+j)*8)).1:=by simpa[zM,hl',sub]using hm
    have:=ykd h b (by omega) (rEn S t j (b+1)).f ((a+j)*8) (by
     rw[show 4-b=(4-(b+1))+1 by omega,W]
     omega) tq m sD
    have e1:(a+j)*8*8^b=(a+j)*8^(b+1):=by rw[W,yJ,un 8]
    have e2:((a+j)*8+8)*8^b=(a+j+1)*8^(b+1):=by rw[show(a+j)*8+8=(a+j+1)*8 by omega,W,yJ,un 8]
    rw[e1,e2]at this;exact this
  rcases yH Ho with Hf|hgt
  ·have:(a+j+1)*8^lv<=(a+k)*8^lv:=Q _ (by omega)
   omega
  ·have:(a+k+1)*8^lv<=(a+j)*8^lv:=Q _ (by omega)
   omega
 have GM:(zM (thr S zW lv t a).1).filter (fun m=>m.has (q:Int))=(zM (out S zW lv (sub S zW lv) t a k).1).filter (fun m=>m.has (q:Int)):=by
  rw[yiQ,c2]
  have e:(zM ((yI 0 8).flatMap fun j=>(out S zW lv (sub S zW lv) t a j).1)).filter (fun m=>m.has (q:Int))=(yI 0 8).flatMap fun j=>(zM (out S zW lv (sub S zW lv) t a j).1).filter (fun m=>m.has (q:Int)):=by
   simp only[zM,ki,List.filter_flatMap]
  rw[e,flatMap_one _ k 8 0 (fun j _ h2 h3=>other j (by omega) h3),iP (by omega)]
 have dM:∀x,x ∈ zU (out S zW lv (sub S zW lv) t a k).1->x ∈ zU (thr S zW lv t a).1:=by
  intro x hx;rw[yiQ,c2];simp only[zU,E]at hx ⊢;obtain⟨s,hs,hx⟩:=hx;exact⟨s,⟨k,by rw[yR];omega,hs⟩,hx⟩
 obtain⟨hc,ho⟩:=yia (c1 k (by omega) (by omega));have hw:=yid S (q:Int) lv t a;rw[Rt,iN (by simpa using hc)]at hw;rcases ho with ⟨Hu,ho⟩|⟨Hu,hr,ho⟩
 ·rw[iP Hu]at hw
  rw[hw];refine⟨rfl,fun s hs=> ?_,spt S t k lv a,rfl,?_⟩
  ·simp at hs
   subst hs;exact V
  ·rw[GM,ho]
   have hE:(spt S t k lv a).e=rEn S t k lv:=rfl
   by_cases hl:(rEn S t k lv).l=Y
   ·obtain⟨_,ht,h2⟩:=yh6 h hl
    have hm:(spt S t k lv a).mp=(rEn S t k lv).map lv (q:Int):=by
     rw[yi1 h2,yh5 h hl (by omega),yh5 h hl Af,ua _ sK,hk]
    have dP:zM [spt S t k lv a]=[(rEn S t k lv).map lv (q:Int)]:=by
     simp[zM,hE,hl,hm]
    rw[dP,hE,iP ht]
    have pF:((rEn S t k lv).map lv (q:Int)).has (q:Int)=Y:=by
     rw[yh5 h hl Af,hk];simp only[Mp.has,over,yB,decide_eq_true_eq];rw[yiA h2];rw[ud,uc]at Ae;omega
    rw[List.filter_cons_of_pos (p:=fun m:Mp=>m.has (q:Int)) pF];rfl
   ·have hl':(rEn S t k lv).l=O:=by simpa using hl
    have ht:(rEn S t k lv).t=O:=by
     simp[En.on,hl']at Hu;exact Hu
    simp[zM,hE,hl',ht]
 ·rw[iN (by simp[Hu])]at hw
  have hl':(spt S t k lv a).e.l=O:=by
   have:(rEn S t k lv).on=Y:=Hu;simp[En.on]at this;exact this.2
  obtain⟨b,rfl⟩:=yib Hu;have tq:(thr S zW b (rEn S t k (b+1)).f ((a+k)*8)).2=0:=hr
  have KA:q/8^b/8=a+k:=by rw[uv,<-W];exact hk
  obtain⟨i1,i2,s,i3,i4⟩:=IH b (by omega) (by omega) (rEn S t k (b+1)).f ((a+k)*8) (by omega) (by
   rw[show 4-b=(4-(b+1))+1 by omega,W]
   omega) (by omega) (by omega) tq
  have BM:sub S (onW (q:Int)) (b+1)=thr S (onW (q:Int)) b:=rfl;rw[BM]at hw
  have hmo:zM (out S zW (b+1) (sub S zW (b+1)) t a k).1=zM (thr S zW b (rEn S t k (b+1)).f ((a+k)*8)).1:=by
   rw[ho];simp[zM,hl',sub]
  have pW:(spt S t k (b+1) a).e.on=Y:=Hu
  have Nf:zU (out S zW (b+1) (sub S zW (b+1)) t a k).1=(rEn S t k (b+1)).f::zU (thr S zW b (rEn S t k (b+1)).f ((a+k)*8)).1:=by
   rw[ho];simp[zU,pW,sub];rfl
  rw[hw];refine⟨i1,fun s' hs=> ?_,s,?_,?_⟩
  ·simp at hs
   rcases hs with rfl|hs
   ·exact V
   ·have:=i2 s' hs
    rw[<-Nf]at this;exact J _ (dM _ this)
  ·rw[yr,i3]
   rfl
  ·rw[GM,hmo,i4]
end
end Pg
namespace Pg
def Agree (S S':Fs) (x:Int):Prop:=S'.has x=S.has x/\∀i,i<8->S'.word x.toNat i=S.word x.toNat i
theorem Agree.code {S S':Fs} {x:Int} (h:Agree S S' x) {i:Nat} (hi:i<8) (lv:Nat):yhR S' x i lv=yhR S x i lv/\rEn S' x i lv=rEn S x i lv:=by
 unfold yhR rEn;rw[h.1,h.2 i hi];exact⟨rfl,rfl⟩
theorem yjX {S S':Fs} {lv:Nat} {rec rec':Int->Nat->List Sp×Int} {t:Int} {a i:Nat} (h1:yhR S' t i lv=yhR S t i lv) (h2:rEn S' t i lv=rEn S t i lv) (h3:(rEn S t i lv).on=Y->rec' (rEn S t i lv).f ((a+i)*8)=rec (rEn S t i lv).f ((a+i)*8)):out S' zW lv rec' t a i=out S zW lv rec t a i:=by
 unfold out spt;rw[h1,h2]
 by_cases ho:(rEn S t i lv).on=O
 ·simp[ho]
 ·have ho:(rEn S t i lv).on=Y:=by simpa using ho
  rw[h3 ho]
theorem yjC {S S':Fs} {lv:Nat} {rec rec':Int->Nat->List Sp×Int} {t:Int} {a:Nat}:∀(n i:Nat),(∀j,i<=j->j<i+n->out S' zW lv rec' t a j=out S zW lv rec t a j)->scan S' zW lv rec' t a n i=scan S zW lv rec t a n i
 | 0,_,_=>rfl
 | n+1,i,h=>by
   have h0:=h i (by omega) (by omega);have h1:=yjC (S:=S) (S':=S') (lv:=lv) (rec:=rec) (rec':=rec') (t:=t) (a:=a) n (i+1) (fun j h1 h2=>h j (by omega) (by omega));unfold scan;rw[h0,h1]
theorem yh7 {S:Fs} {lv:Nat} {t:Int} {a:Nat} (hz:(thr S zW lv t a).2=0):
 (∀j,j<8->(out S zW lv (sub S zW lv) t a j).2=0)/\(thr S zW lv t a).1=(List.range 8).flatMap fun j=>(out S zW lv (sub S zW lv) t a j).1:=by
 rw[yiQ]at hz ⊢;obtain⟨h1,h2⟩:=yju 8 0 hz;exact⟨fun j hj=>h1 j (by omega) (by omega),by rw[h2,yN]⟩
theorem yjL {S:Fs} {lv:Nat} {t:Int} {a:Nat} (h:∀j,j<8->(out S zW lv (sub S zW lv) t a j).2=0):thr S zW lv t a=((List.range 8).flatMap (fun j=>(out S zW lv (sub S zW lv) t a j).1),0):=by
 have hz:∀n i,i+n=8->(scan S zW lv (sub S zW lv) t a n i).2=0:=by
  intro n
  induction n with
  | zero=>intro i _;rfl
  | succ n ih=>
    intro i hi;unfold scan;rw[iN (by simpa using h i (by omega))];exact ih (i+1) (by omega)
 have h0:(thr S zW lv t a).2=0:=by rw[yiQ];exact hz 8 0 rfl
 have:=(yh7 h0).2;rw[<-this,<-h0]
theorem yjf {S:Fs} {lv:Nat} {t:Int} {a j:Nat} (hj:j<8) (hz:(thr S zW lv t a).2=0) {x:Int} (hx:x ∈ zU (out S zW lv (sub S zW lv) t a j).1):x ∈ zU (thr S zW lv t a).1:=by
 rw[(yh7 hz).2];simp only[zU,E]at hx ⊢;obtain⟨s,hs,hx⟩:=hx;exact⟨s,⟨j,by simpa using hj,hs⟩,hx⟩
theorem yj3 {S S':Fs}:∀(lv:Nat) (t:Int) (a:Nat),(thr S zW lv t a).2=0->(∀x,x ∈ t::zU (thr S zW lv t a).1->Agree S S' x)->thr S' zW lv t a=thr S zW lv t a:=by
 intro lv
 induction lv with
 | zero=>
   intro t a hz h;have h0:=h t V;rw[yiQ,yiQ];refine yjC 8 0 fun j _ hj=> ?_;obtain⟨c1,c2⟩:=h0.code (i:=j) (by omega) 0;refine yjX c1 c2 fun ho=> ?_;obtain⟨m,hm⟩:=yib ho;omega
 | succ lv ih=>
   intro t a hz h;have h0:=h t V;rw[yiQ,yiQ];refine yjC 8 0 fun j _ hj=> ?_
   have Dl:j<8:=by omega
   obtain⟨c1,c2⟩:=h0.code Dl (lv+1);refine yjX c1 c2 fun ho=> ?_;have hzj:=(yh7 hz).1 j Dl;obtain⟨hc,Ur⟩:=yia hzj;rcases Ur with ⟨hn,_⟩|⟨_,hr,hl⟩
   ·rw[hn]at ho;cases ho
   ·refine ih _ _ hr fun x hx=> ?_
    refine h x (J _ (yjf Dl hz ?_));rw[hl];have Hu:(spt S t j (lv+1) a).e.on=Y:=ho
    have:zU (spt S t j (lv+1) a::(sub S zW (lv+1) (rEn S t j (lv+1)).f ((a+j)*8)).1)=(rEn S t j (lv+1)).f::zU (thr S zW lv (rEn S t j (lv+1)).f ((a+j)*8)).1:=by
     simp[zU,Hu,sub];rfl
    rw[this];exact hx
theorem yiJ {α:Type} {l:List Nat} {f g:Nat->List α} (h:∀j,j ∈ l->f j=g j):l.flatMap f=l.flatMap g:=by
 induction l with
 | nil=>rfl
 | cons x l ih=>rw[o,o,h x V,ih fun j hj=>h j (J _ hj)]
theorem yiq {s:Sp} {X:List Sp} (h:s.e.on=Y):zU (s::X)=s.e.f::zU X:=by
 simp[zU,h]
theorem ylP {k:Nat} (hk:k<8):List.range 8=List.range k++k::yI (k+1) (7-k):=by
 have:k=0\/k=1\/k=2\/k=3\/k=4\/k=5\/k=6\/k=7:=by omega
 rcases this with rfl|rfl|rfl|rfl|rfl|rfl|rfl|rfl<;>rfl
theorem pow_up (a i b:Nat):(a+i)*8*8^b=(a+i)*8^(b+1)/\((a+i)*8+8)*8^b=(a+i+1)*8^(b+1):=by
 constructor
 ·rw[W,yJ,un 8]
 ·rw[show(a+i)*8+8=(a+i+1)*8 by omega,W,yJ,un 8]
section
variable {S:Fs}
theorem yiO (h:S.Ok) {lv:Nat} (rQ:lv<4) {t:Int} {a j:Nat} (hj:j<8) (ha:a+8<=8^(4-lv)) (hz:(out S zW lv (sub S zW lv) t a j).2=0) {m:Mp} (hm:m ∈ zM (out S zW lv (sub S zW lv) t a j).1):
 (((a+j)*8^lv:Nat):Int)<=m.p/\m.p+span m.s<=(((a+j+1)*8^lv:Nat):Int):=by
 have sK:0<8^lv:=kp (by decide)
 have rF:(a+8)*8^lv<=4096:=by
  have h3:(a+8)*8^lv<=8^(4-lv)*8^lv:=Q _ ha;rw[<-yT,show 4-lv+lv=4 by omega]at h3
  have e:(8:Nat)^4=4096:=by decide
  omega
 have Ku:(a+j+1)*8^lv<=(a+8)*8^lv:=Q _ (by omega)
 have hex:(a+j+1)*8^lv=(a+j)*8^lv+8^lv:=by rw[ud,uc]
 obtain⟨hc,ho⟩:=yia hz;rcases ho with ⟨Hu,ho⟩|⟨Hu,hr,ho⟩
 ·rw[ho]at hm
  by_cases hl:(rEn S t j lv).l=Y
  ·have hl':(spt S t j lv a).e.l=Y:=hl
   simp[zM,hl']at hm;subst hm;have h2:=(yh6 h hl).2.2;rw[yi1 h2,yh5 h hl (by omega),ua _ sK];simp only;rw[yiA h2];omega
  ·have hl':(spt S t j lv a).e.l=O:=yK.2 hl
   simp[zM,hl']at hm
 ·rw[ho]at hm
  have hl':(spt S t j lv a).e.l=O:=by
   have:(rEn S t j lv).on=Y:=Hu;simp[En.on]at this;exact this.2
  obtain⟨b,rfl⟩:=yib Hu;have tq:(thr S zW b (rEn S t j (b+1)).f ((a+j)*8)).2=0:=hr
  have sD:m ∈ zM (thr S zW b (rEn S t j (b+1)).f ((a+j)*8)).1:=by simpa[zM,hl',sub]using hm
  have:=ykd h b (by omega) (rEn S t j (b+1)).f ((a+j)*8) (by
   rw[show 4-b=(4-(b+1))+1 by omega,W]
   omega) tq m sD
  obtain⟨e1,e2⟩:=pow_up a j b;rw[e1,e2]at this;exact this
def But1 (S S':Fs) (T:List Int) (t0:Int) (i0:Nat):Prop:=∀x,x ∈ T->S'.has x=S.has x/\∀i,i<8->(x≠t0\/i≠i0)->S'.word x.toNat i=S.word x.toNat i
structure Spot1 (S:Fs) (q lv:Nat) (t:Int) (a:Nat) (s:Sp) (A B:List Sp):Prop where
 all:(thr S zW lv t a).1=A++(out S zW s.level (sub S zW s.level) s.table (s.ahead-s.place) s.place).1++B
 place:s.place=ix (q:Int) s.level
 ahead:s.ahead=q/8^s.level
 le:s.place<=s.ahead
 lvl:s.level<=lv
 ma:∀m,m ∈ zM A->m.p+span m.s<=((s.ahead*8^s.level:Nat):Int)
 mb:∀m,m ∈ zM B->(((s.ahead+1)*8^s.level:Nat):Int)<=m.p
 mem:s.table ∈ t::zU (thr S zW lv t a).1
 code:(out S zW s.level (sub S zW s.level) s.table (s.ahead-s.place) s.place).2=0
 en:s.e=rEn S s.table s.place s.level
 memA:s.table ∈ t::zU A
 turn:∀S',But1 S S' (t::(zU A++zU B)) s.table s.place->(out S' zW s.level (sub S' zW s.level) s.table (s.ahead-s.place) s.place).2=0->
  thr S' zW lv t a=(A++(out S' zW s.level (sub S' zW s.level) s.table (s.ahead-s.place) s.place).1++B,0)
theorem ylz (h:S.Ok) (q:Nat):∀(lv:Nat),lv<4->∀(t:Int) (a:Nat),a%8=0->a+8<=8^(4-lv)->a<=q/8^lv->q/8^lv<a+8->(thr S zW lv t a).2=0->(t::zU (thr S zW lv t a).1).Nodup->
 ∀s,s ∈ (thr S (onW (q:Int)) lv t a).1->∃A B,Spot1 S q lv t a s A B:=by
 intro lv
 induction lv using yC with
 | _ lv IH=>
 intro rQ t a ha8 ha h1 h2 hz dZ s hs;have sK:0<8^lv:=kp (by decide);obtain⟨k,hk⟩:∃k,q/8^lv=a+k:=⟨q/8^lv-a,by omega⟩
 have uu:k<8:=by omega
 have Rt:ix (q:Int) lv=k:=by
  unfold ix
  have e:(q:Int)/8^lv%8=((q/8^lv%8:Nat):Int):=by simp
  rw[e,yQ];omega
 obtain⟨c1,c2⟩:=yh7 hz;rw[ylP uu,yD,o]at c2;generalize hP:(List.range k).flatMap (fun j=>(out S zW lv (sub S zW lv) t a j).1)=P at c2;generalize hR:(yI (k+1) (7-k)).flatMap (fun j=>(out S zW lv (sub S zW lv) t a j).1)=R at c2
 have Ay:∀j,j<k->∀x,x ∈ zU (out S zW lv (sub S zW lv) t a j).1->x ∈ zU P:=by
  intro j hj x hx;rw[<-hP];simp only[zU,E]at hx ⊢;obtain⟨s,hs,hx⟩:=hx;exact⟨s,⟨j,by simpa using hj,hs⟩,hx⟩
 have Az:∀j,k<j->j<8->∀x,x ∈ zU (out S zW lv (sub S zW lv) t a j).1->x ∈ zU R:=by
  intro j hj Dl x hx;rw[<-hR];simp only[zU,E]at hx ⊢;obtain⟨s,hs,hx⟩:=hx;exact⟨s,⟨j,by rw[yR];omega,hs⟩,hx⟩
 have mP:∀m,m ∈ zM P->m.p+span m.s<=(((a+k)*8^lv:Nat):Int):=by
  intro m hm;rw[<-hP]at hm;simp only[zM,E]at hm;obtain⟨s,⟨j,hj,hs⟩,hm⟩:=hm
  have hj:j<k:=by simpa using hj
  have:=(yiO h rQ (by omega) ha (c1 j (by omega)) (m:=m) (by simp only[zM,E];exact⟨s,hs,hm⟩)).2;have:(a+j+1)*8^lv<=(a+k)*8^lv:=Q _ (by omega);omega
 have mR:∀m,m ∈ zM R->(((a+k+1)*8^lv:Nat):Int)<=m.p:=by
  intro m hm;rw[<-hR]at hm;simp only[zM,E]at hm;obtain⟨s,⟨j,hj,hs⟩,hm⟩:=hm
  have hj:k+1<=j/\j<8:=by rw[yR]at hj;omega
  have:=(yiO h rQ (by omega) ha (c1 j (by omega)) (m:=m) (by simp only[zM,E];exact⟨s,hs,hm⟩)).1;have:(a+k+1)*8^lv<=(a+j)*8^lv:=Q _ (by omega);omega
 have pG:∀j,j<8->∀x,x ∈ zU (out S zW lv (sub S zW lv) t a j).1->x ∈ zU (thr S zW lv t a).1:=fun j hj x hx=>yjf hj hz hx;obtain⟨I7,tO⟩:=ue.1 dZ
 have other:∀S',∀t0 i0,But1 S S' (t::(zU P++zU R)) t0 i0->(t≠t0\/i0=k)->(t0=t\/t0 ∈ zU (out S zW lv (sub S zW lv) t a k).1)->∀j,j<8->j≠k->out S' zW lv (sub S' zW lv) t a j=out S zW lv (sub S zW lv) t a j:=by
  intro S' t0 i0 hb Sw dD j hj IG;obtain⟨b1,b2⟩:=hb t V;have bK:S'.word t.toNat j=S.word t.toNat j:=b2 j hj (by rcases Sw with h'|h';exact .inl h';exact .inr (by omega))
  have cc:yhR S' t j lv=yhR S t j lv/\rEn S' t j lv=rEn S t j lv:=by
   unfold yhR rEn;rw[b1,bK];exact⟨rfl,rfl⟩
  refine yjX cc.1 cc.2 fun ho=> ?_;obtain⟨hc,Ur⟩:=yia (c1 j hj);rcases Ur with ⟨hn,_⟩|⟨_,hr,hl⟩
  ·rw[hn]at ho;cases ho
  ·obtain⟨b,rfl⟩:=yib ho
   refine yj3 b _ _ hr fun x hx=> ?_;have Hu:(spt S t j (b+1) a).e.on=Y:=ho
   have Cg:x ∈ zU (out S zW (b+1) (sub S zW (b+1)) t a j).1:=by
    rw[hl]
    have:zU (spt S t j (b+1) a::(sub S zW (b+1) (rEn S t j (b+1)).f ((a+j)*8)).1)=(rEn S t j (b+1)).f::zU (thr S zW b (rEn S t j (b+1)).f ((a+j)*8)).1:=by
     simp[zU,Hu,sub];rfl
    rw[this];exact hx
   have RH:=pG j hj x Cg
   have UU:x ∈ zU P++zU R:=by
    rcases yH IG with Hf|hgt
    ·exact I _ (Ay j Hf x Cg)
    ·exact N _ (Az j hgt hj x Cg)
   obtain⟨b3,b4⟩:=hb x (J _ UU)
   have Ho:x≠t0:=by
    rintro rfl;rcases dD with e|e
    ·rw[e]at RH;exact I7 RH
    ·rw[c2,yhK,yhK]at tO
     rw[w]at tO;obtain⟨_,n2,n3⟩:=tO;rw[w]at n2;rcases yH IG with Hf|hgt
     ·exact n3 x (Ay j Hf x Cg) x (I _ e) rfl
     ·exact n2.2.2 x e x (Az j hgt hj x Cg) rfl
   exact⟨b3,fun i hi=>b4 i hi (.inl Ho)⟩
 obtain⟨hc,ho⟩:=yia (c1 k uu);have hw:=yid S (q:Int) lv t a;rw[Rt,iN (by simpa using hc)]at hw
 have here:s=spt S t k lv a->∃A B,Spot1 S q lv t a s A B:=by
  intro e;subst e
  have e1:(spt S t k lv a).ahead-(spt S t k lv a).place=a:=by show a+k-k=a;omega
  refine⟨P,R,⟨?_,Rt.symm,hk.symm,by show k<=a+k;omega,yi _,mP,mR,V,by rw[e1];exact c1 k uu,rfl,V,?_⟩⟩
  ·rw[e1]
   rw[c2,<-kO];rfl
  ·intro S' hb Dx
   rw[e1]at Dx ⊢;have pu:=other S' t k hb (.inr rfl) (.inl rfl)
   have Dz:∀j,j<8->(out S' zW lv (sub S' zW lv) t a j).2=0:=by
    intro j hj
    by_cases e:j=k
    ·rw[e];exact Dx
    ·rw[pu j hj e];exact c1 j hj
   rw[yjL Dz,ylP uu,yD,o]
   have eP:(List.range k).flatMap (fun j=>(out S' zW lv (sub S' zW lv) t a j).1)=P:=by
    rw[<-hP];refine yiJ fun j hj=> ?_
    have hj:j<k:=by simpa using hj
    rw[pu j (by omega) (by omega)]
   have eR:(yI (k+1) (7-k)).flatMap (fun j=>(out S' zW lv (sub S' zW lv) t a j).1)=R:=by
    rw[<-hR];refine yiJ fun j hj=> ?_
    have hj:k+1<=j/\j<8:=by rw[yR]at hj;omega
    rw[pu j (by omega) (by omega)]
   rw[eP,eR,<-kO];rfl
 rcases ho with ⟨Hu,ho⟩|⟨Hu,hr,ho⟩
 ·rw[iP Hu]at hw
  rw[hw]at hs;simp at hs;exact here hs
 ·rw[iN (by simp[Hu])]at hw
  rw[hw]at hs;simp at hs;rcases hs with hs|hs
  ·exact here hs
  ·obtain⟨b,rfl⟩:=yib Hu
   have tq:(thr S zW b (rEn S t k (b+1)).f ((a+k)*8)).2=0:=hr
   have KA:q/8^b/8=a+k:=by rw[uv,<-W];exact hk
   have pW:(spt S t k (b+1) a).e.on=Y:=Hu
   have Nf:zU (out S zW (b+1) (sub S zW (b+1)) t a k).1=(rEn S t k (b+1)).f::zU (thr S zW b (rEn S t k (b+1)).f ((a+k)*8)).1:=by
    rw[ho];simp[zU,pW,sub];rfl
   have hl':(spt S t k (b+1) a).e.l=O:=by
    have:(rEn S t k (b+1)).on=Y:=Hu;simp[En.on]at this;exact this.2
   have Uj:((rEn S t k (b+1)).f::zU (thr S zW b (rEn S t k (b+1)).f ((a+k)*8)).1).Nodup:=by
    rw[<-Nf];rw[c2,yhK,yhK,w]at tO;have:=tO.2.1;rw[w]at this;exact this.1
   obtain⟨A,B,sp⟩:=IH b (by omega) (by omega) (rEn S t k (b+1)).f ((a+k)*8) (by omega) (by
    rw[show 4-b=(4-(b+1))+1 by omega,W]
    omega) (by omega) (by omega) tq Uj s hs
   have hle1:(a+k)*8^(b+1)<=s.ahead*8^s.level:=by
    have hb:=sp.lvl;rw[sp.ahead,<-hk]
    have e1:8^(b+1)=8^s.level*8^(b+1-s.level):=by rw[<-yT];congr 1;omega
    rw[e1,<-uv,un (8^s.level),<-yJ];exact Q _ (ur _ _)
   have hle2:(s.ahead+1)*8^s.level<=(a+k+1)*8^(b+1):=by
    have hb:=sp.lvl;rw[sp.ahead,<-hk]
    have e1:8^(b+1)=8^(b+1-s.level)*8^s.level:=by rw[<-yT];congr 1;omega
    have Dq:0<8^(b+1-s.level):=kp (by decide);rw[e1,un (8^(b+1-s.level)),<-uv,un (8^s.level),<-yJ];refine Q _ ?_;have:=yV (a:=q/8^s.level) Dq;rw[ud,uc];omega
   have iX:s.table ∈ zU (out S zW (b+1) (sub S zW (b+1)) t a k).1:=by rw[Nf];exact sp.mem
   have kU:t≠s.table:=fun e=>I7 (e.symm▸pG k uu _ iX);refine⟨P++spt S t k (b+1) a::A,B++R,⟨?_,sp.place,sp.ahead,sp.le,by have:=sp.lvl;omega,?_,?_,J _ (pG k uu _ iX),sp.code,sp.en,by rw[yhK,yiq pW];exact J _ (N _ sp.memA),?_⟩⟩
   ·rw[c2,ho]
    have e:=sp.all
    show P++(spt S t k (b+1) a::(thr S zW b (rEn S t k (b+1)).f ((a+k)*8)).1++R)=_
    rw[e];simp[kO]
   ·intro m hm
    rw[yhP]at hm;rcases Z.1 hm with hm|hm
    ·have:=mP m hm;omega
    ·have kQ:m ∈ zM A:=by simpa[zM,hl']using hm
     exact sp.ma m kQ
   ·intro m hm
    rw[yhP]at hm;rcases Z.1 hm with hm|hm
    ·exact sp.mb m hm
    ·have:=mR m hm;omega
   ·intro S' hb Dx
    have oQ:But1 S S' ((rEn S t k (b+1)).f::(zU A++zU B)) s.table s.place:=by
     intro x hx;refine hb x (J _ ?_);rw[yhK,yhK,yiq pW];rcases H.1 hx with rfl|hx
     ·exact I _ (N _ V)
     ·rcases Z.1 hx with hx|hx
      ·exact I _ (N _ (J _ hx))
      ·exact N _ (I _ hx)
    have tQ:=sp.turn S' oQ Dx
    have hbo:But1 S S' (t::(zU P++zU R)) s.table s.place:=by
     intro x hx;refine hb x ?_;rw[yhK,yhK];rcases H.1 hx with rfl|hx
     ·exact V
     ·refine J _ ?_
      rcases Z.1 hx with hx|hx
      ·exact I _ (I _ hx)
      ·exact N _ (N _ hx)
    have pu:=other S' s.table s.place hbo (.inl kU) (.inr iX);obtain⟨b1,b2⟩:=hb t V
    have cc:yhR S' t k (b+1)=yhR S t k (b+1)/\rEn S' t k (b+1)=rEn S t k (b+1):=by
     unfold yhR rEn;rw[b1,b2 k uu (.inl kU)];exact⟨rfl,rfl⟩
    have d9:out S' zW (b+1) (sub S' zW (b+1)) t a k=(spt S t k (b+1) a::(thr S' zW b (rEn S t k (b+1)).f ((a+k)*8)).1,(thr S' zW b (rEn S t k (b+1)).f ((a+k)*8)).2):=by
     unfold out spt;rw[cc.1,cc.2,iN (by simp[zW]),iN (by simpa using hc),iN (by simp[Hu])];rfl
    rw[tQ]at d9
    have Dz:∀j,j<8->(out S' zW (b+1) (sub S' zW (b+1)) t a j).2=0:=by
     intro j hj
     by_cases e:j=k
     ·rw[e,d9]
     ·rw[pu j hj e];exact c1 j hj
    rw[yjL Dz,ylP uu,yD,o]
    have eP:(List.range k).flatMap (fun j=>(out S' zW (b+1) (sub S' zW (b+1)) t a j).1)=P:=by
     rw[<-hP];refine yiJ fun j hj=> ?_
     have hj:j<k:=by simpa using hj
     rw[pu j (by omega) (by omega)]
    have eR:(yI (k+1) (7-k)).flatMap (fun j=>(out S' zW (b+1) (sub S' zW (b+1)) t a j).1)=R:=by
     rw[<-hR];refine yiJ fun j hj=> ?_
     have hj:k+1<=j/\j<8:=by rw[yR]at hj;omega
     rw[pu j (by omega) (by omega)]
    rw[eP,eR,d9];simp[kO]
end
end Pg
set_option maxRecDepth 10000
namespace Pg
theorem yje {S:Fs}:∀(lv:Nat) (t:Int) (a:Nat),(thr S zW lv t a).2=0->∀x,x ∈ t::zU (thr S zW lv t a).1->S.has x=Y:=by
 intro lv
 induction lv using yC with
 | _ lv IH=>
 intro t a hz x hx;obtain⟨c1,c2⟩:=yh7 hz;rcases H.1 hx with rfl|hx
 ·exact yhU (yia (c1 0 (by omega))).1
 ·rw[c2]at hx
  simp only[zU,E]at hx;obtain⟨s,⟨j,hj,hs⟩,hy⟩:=hx
  have hj:j<8:=by simpa using hj
  obtain⟨hc,ho⟩:=yia (c1 j hj);rcases ho with ⟨Hu,ho⟩|⟨Hu,hr,ho⟩
  ·rw[ho]at hs
   simp at hs;subst hs;have pW:(spt S t j lv a).e.on=O:=Hu;simp[pW]at hy
  ·obtain⟨b,rfl⟩:=yib Hu
   have pW:(spt S t j (b+1) a).e.on=Y:=Hu;have tq:(thr S zW b (rEn S t j (b+1)).f ((a+j)*8)).2=0:=hr;refine IH b (by omega) _ _ tq x ?_;rw[ho]at hs;simp at hs;rcases hs with rfl|hs
   ·simp[pW]at hy
    subst hy;exact V
   ·refine J _ ?_
    simp only[zU,E];exact⟨s,hs,hy⟩
structure Rep (S:Fs) (L:List Mp):Prop where
 ok:S.Ok
 code:(thr S zW 3 0 0).2=0
 maps:zM (thr S zW 3 0 0).1=L
 nodup:((0:Int)::zU (thr S zW 3 0 0).1).Nodup
 used:∀k:Nat,k ∈ S.used ↔ (k:Int) ∈ (0:Int)::zU (thr S zW 3 0 0).1
 full:∀x,x ∈ zU (thr S zW 3 0 0).1->yhS S x=O
theorem yiv {S:Fs} {x:Int} (h:S.has x=Y):0<=x:=by
 simp[Fs.has]at h;exact h.1
theorem yjd {S:Fs} {t:Int} (ht:S.has t=Y) {i:Nat} (hi:i<8) (v:Int):S.store t (i:Int) v={S with word:=Fs.put S.word t.toNat i v}:=by
 have:S.at' t (i:Int)=Y:=by simp[Fs.at',ht];omega
 simp[Fs.store,this]
theorem store_but {S:Fs} {t:Int} (ht:S.has t=Y) {i:Nat} (hi:i<8) (v:Int) {T:List Int} (hT:∀x,x ∈ T->S.has x=Y):But1 S (S.store t (i:Int) v) T t i:=by
 intro x hx;refine⟨yiu _ _ _ _ _,fun j hj Ho=> ?_⟩;rw[yjd ht hi]
 show Fs.put S.word t.toNat i v x.toNat j=_
 unfold Fs.put;rw[iN];rintro ⟨e1,e2⟩;have h1:=yiv ht;have h2:=yiv (hT x hx);rcases Ho with h|h
 ·exact h (by omega)
 ·exact h e2
theorem yiP {S:Fs} {t:Int} (ht:S.has t=Y) {i:Nat} (hi:i<8) (v:Int):(S.store t (i:Int) v).word t.toNat i=v:=by
 rw[yjd ht hi]
 show Fs.put S.word t.toNat i v t.toNat i=v
 simp[Fs.put]
theorem ykf {S:Fs} {t:Int} (ht:S.has t=Y) {i:Nat} (hi:i<8) (v:Int) (lv:Nat):yhR (S.store t (i:Int) v) t i lv=yhV v lv/\rEn (S.store t (i:Int) v) t i lv=En.of v lv:=by
 unfold yhR rEn;rw[yiu,iP ht,iP ht,yiP ht hi];exact⟨rfl,rfl⟩
structure Found (S:Fs) (L:List Mp) (q lv:Nat) (e:En) (tl:Int) (A B:List Sp):Prop where
 way:Way S 0 (q:Int) (zg S 0 (q:Int)) lv e tl
 spot:Spot1 S q 3 0 0 ⟨tl,ix (q:Int) lv,lv,q/8^lv,e⟩ A B
 le:lv<=3
 list:L=zM A++(if e.t=Y then [e.map lv (q:Int)]else [])++zM B
 tabs:zU (thr S zW 3 0 0).1=zU A++zU B
 one:out S zW lv (sub S zW lv) tl (q/8^lv-ix (q:Int) lv) (ix (q:Int) lv)=([⟨tl,ix (q:Int) lv,lv,q/8^lv,e⟩],0)
theorem yiK {S:Fs} {L:List Mp} (h:Rep S L) {q:Nat} (hq:q<4096):xQ S 0 (q:Int)=0/\∃lv e tl A B,Found S L q lv e tl A B:=by
 have hp:below (q:Int) 4096=Y:=zB.2 ⟨by omega,by omega⟩
 have hd:q/8^3<8:=by
  rw[show(8:Nat)^3=512 by decide];omega
 obtain⟨a1,a2,s,a3,a4⟩:=yk2 h.ok q 3 (by omega) 0 0 (by omega) (by decide) (by omega) (by omega) h.code
 have eC:xQ S 0 (q:Int)=0:=by unfold xQ;rw[iP hp,a1]
 have eX:zg S 0 (q:Int)=(thr S (onW (q:Int)) 3 0 0).1:=by unfold zg;rw[iP ⟨hp,a1⟩]
 obtain⟨lv,e,tl,hw⟩:=ykQ eC;obtain⟨A,B,sp⟩:=ylz h.ok q 3 (by omega) 0 0 (by omega) (by decide) (by omega) (by omega) h.code h.nodup s (yn a3)
 have e1:s.level=lv:=by
  have:=hw.yhQ;rw[eX]at this;unfold Go.Proofs.YtdphiompijbelaaGreat.yhQ at this;rw[a3]at this;exact yM.1 this
 have e2:s.e=e:=by
  have:=hw.yhO;rw[eX]at this;unfold Go.Proofs.YtdphiompijbelaaGreat.yhO at this;rw[a3]at this
  simpa using this
 have e3:s.table=tl:=by
  have:=hw.lastT;rw[eX]at this;unfold Go.Proofs.YtdphiompijbelaaGreat.lastT at this;rw[a3]at this
  simpa using this
 have hs:s=⟨tl,ix (q:Int) lv,lv,q/8^lv,e⟩:=by
  have h1:=sp.place;have h2:=sp.ahead;rw[e1]at h1 h2;obtain⟨st,uO,sl,sa,se⟩:=s;simp only at e1 e2 e3 h1 h2;subst e1 e2 e3 h1 h2;rfl
 subst hs;have fK:=sp.lvl;have sQ:=sp.le;simp only at fK sQ;have dN:ix (q:Int) lv<8:=yiw _ _
 have dm:out S zW lv (sub S zW lv) tl (q/8^lv-ix (q:Int) lv) (ix (q:Int) lv)=([⟨tl,ix (q:Int) lv,lv,q/8^lv,e⟩],0):=by
  have Hu:=hw.on;rw[hw.en]at Hu;unfold out;rw[iN (by simp[zW]),iN (by simpa using hw.code),iP Hu];unfold spt;rw[<-hw.en,D sQ]
 have rF:=sp.all;simp only at rF;rw[dm]at rF
 have uy:e.l=Y->e.t=Y:=by
  intro hl;rw[hw.en]at hl ⊢;exact(yh6 h.ok hl).2.1
 have mU:e.t=Y->e.l=Y:=by
  intro ht;have:=hw.on;simp[En.on,ht]at this;exact this
 have Ue:zM [(⟨tl,ix (q:Int) lv,lv,q/8^lv,e⟩:Sp)]=if e.t=Y then [e.map lv (q:Int)]else []:=by
  by_cases ht:e.t=Y
  ·have hl:=mU ht
   have hl':(rEn S tl (ix (q:Int) lv) lv).l=Y:=by rw[<-hw.en];exact hl
   have h2:=(yh6 h.ok hl').2.2;rw[iP ht]
   have lg:(⟨tl,ix (q:Int) lv,lv,q/8^lv,e⟩:Sp).mp=e.map lv (q:Int):=by
    have e4:(⟨tl,ix (q:Int) lv,lv,q/8^lv,e⟩:Sp)=spt S tl (ix (q:Int) lv) lv (q/8^lv-ix (q:Int) lv):=by
     unfold spt;rw[<-hw.en,D sQ]
    have sK:0<8^lv:=kp (by decide);have Uv:q/8^lv*8^lv<4096:=yt (ur _ _) hq;rw[e4,yi1 h2,D sQ,yh5 h.ok hl' Uv,ua _ sK,hw.en,yh5 h.ok hl' hq]
   rw[zM,o,yZ,kh,iP hl,lg]
  ·rw[iN ht]
   have hl:¬e.l=Y:=fun hl=>ht (uy hl);rw[zM,o,yZ,kh,iN hl]
 have dM:zU [(⟨tl,ix (q:Int) lv,lv,q/8^lv,e⟩:Sp)]=[]:=by
  rw[zU,o,yZ,kh,iN (by rw[hw.on];decide)]
 refine⟨eC,lv,e,tl,A,B,⟨hw,sp,fK,?_,?_,dm⟩⟩
 ·rw[<-h.maps,rF,yhP,yhP,Ue]
 ·rw[rF,yhK,yhK,dM,kh]
theorem ykD {S:Fs} {L:List Mp} {q lv:Nat} {e:En} {tl:Int} {A B:List Sp} (h:Found S L q lv e tl A B):
 (e.t=Y->(e.map lv (q:Int)).has (q:Int)=Y)->(e.t=Y->fnd L (q:Int)=some (zM A).length/\at' L (q:Int)=e.map lv (q:Int))/\(e.t=O->fnd L (q:Int)=none):=by
 intro pF;have sK:0<8^lv:=kp (by decide);have MM:q/8^lv*8^lv<=q:=ur _ _
 have Rq:q<(q/8^lv+1)*8^lv:=by
  rw[ud,uc];have:=yV (a:=q) sK;omega
 have hA:∀m,m ∈ zM A->m.has (q:Int)=O:=by
  intro m hm;have:=h.spot.ma m hm;simp only at this;cases hh:m.has (q:Int)
  ·rfl
  ·simp[Mp.has,over]at hh
   omega
 have hB:∀m,m ∈ zM B->m.has (q:Int)=O:=by
  intro m hm;have:=h.spot.mb m hm;simp only at this;cases hh:m.has (q:Int)
  ·rfl
  ·simp[Mp.has,over]at hh
   omega
 refine⟨fun ht=> ?_,fun ht=> ?_⟩
 ·have hl:=h.list
  rw[iP ht]at hl
  have e1:fnd L (q:Int)=some (zM A).length:=by
   unfold fnd;rw[hl,kO,yq]
   have:(zM A).findIdx? (fun m=>m.has (q:Int))=none:=by
    rw[yU];exact hA
   rw[this];simp[pF ht,yu]
  refine⟨e1,?_⟩;unfold at';rw[e1];simp[hl,List.getD]
 ·have hl:=h.list
  rw[iN (by simp[ht])]at hl;unfold fnd;rw[yU,hl];intro m hm;simp at hm;rcases hm with hm|hm
  ·exact hA m hm
  ·exact hB m hm
theorem yis {S:Fs} {L:List Mp} {q lv:Nat} {e:En} {tl:Int} {A B:List Sp} (h:S.Ok) (hq:q<4096) (F:Found S L q lv e tl A B) (ht:e.t=Y):e.l=Y/\lv<=2/\e.map lv (q:Int)=⟨((q/8^lv*8^lv:Nat):Int),(lv:Int),e.f,e.r⟩/\(e.map lv (q:Int)).has (q:Int)=Y:=by
 have hl:e.l=Y:=by
  have:=F.way.on;simp[En.on,ht]at this;exact this
 have hl':(rEn S tl (ix (q:Int) lv) lv).l=Y:=by rw[<-F.way.en];exact hl
 have h2:=(yh6 h hl').2.2
 have e1:e.map lv (q:Int)=⟨((q/8^lv*8^lv:Nat):Int),(lv:Int),e.f,e.r⟩:=by rw[F.way.en];exact yh5 h hl' hq
 refine⟨hl,h2,e1,?_⟩;rw[e1];have sK:0<8^lv:=kp (by decide);have MM:q/8^lv*8^lv<=q:=ur _ _;have:=yV (a:=q) sK;simp only[Mp.has,over,yB,decide_eq_true_eq];rw[yiA h2];omega
theorem yi3 {S:Fs} {L:List Mp} (h:Rep S L) (p:Int):tFC S 0 p=yij L p/\tFM S 0 p=yjp L p:=by
 cases hp:below p 4096
 ·have e1:tFC S 0 p=1:=by
   have:xQ S 0 p=1:=by simp[xQ,hp]
   rw[tFC,this,iP (by decide)]
  have e2:yij L p=1:=by rw[yij,hp,iN (by decide)]
  exact⟨by rw[e1,e2],by rw[tFM,yjp,e1,e2,iN (by decide),iN (by decide)]⟩
 ·obtain⟨p0,p1⟩:=zB.1 hp
  obtain⟨q,rfl⟩:=yF p0;obtain⟨hz,lv,e,tl,A,B,F⟩:=yiK h (q:=q) (by omega);obtain⟨f1,f2⟩:=ykD F (fun ht=>(yis h.ok (by omega) F ht).2.2.2)
  have e0:tFC S 0 (q:Int)=if e.t=Y then 0 else 5:=by rw[tFC,hz,iN (by decide),F.way.yhO]
  have em:tFM S 0 (q:Int)=if tFC S 0 (q:Int)=0 then e.map lv (q:Int)else .zz:=by rw[tFM,F.way.yhO,F.way.yhQ]
  cases ht:e.t
  ·have e3:yij L (q:Int)=5:=by rw[yij,hp,iP rfl,f2 ht,iP rfl]
   rw[ht,iN (by decide)]at e0;exact⟨by rw[e0,e3],by rw[em,yjp,e0,e3,iN (by decide),iN (by decide)]⟩
  ·obtain⟨f3,f4⟩:=f1 ht
   have e3:yij L (q:Int)=0:=by rw[yij,hp,iP rfl,f3,iN (by simp)]
   rw[ht,iP rfl]at e0;exact⟨by rw[e0,e3],by rw[em,yjp,e0,e3,iP rfl,iP rfl,f4]⟩
theorem yig {S:Fs} {x:Int}:yhS S x=O ↔ ∃i,i<8/\S.word x.toNat i≠0:=by
 unfold yhS;rw[List.all_eq_false];constructor
 ·rintro ⟨i,hi,h⟩
  exact⟨i,by simpa using hi,by simpa using h⟩
 ·rintro ⟨i,hi,h⟩
  exact⟨i,by simpa using hi,by simpa using h⟩
theorem yj1 {S:Fs} (h:S.Ok) {q lv:Nat} (hq:q<4096) {tl:Int} (sQ:ix (q:Int) lv<=q/8^lv) {e:En} (he:e=rEn S tl (ix (q:Int) lv) lv) (hl:e.l=Y):(⟨tl,ix (q:Int) lv,lv,q/8^lv,e⟩:Sp).mp=e.map lv (q:Int):=by
 subst he;have h2:=(yh6 h hl).2.2
 have e4:(⟨tl,ix (q:Int) lv,lv,q/8^lv,rEn S tl (ix (q:Int) lv) lv⟩:Sp)=spt S tl (ix (q:Int) lv) lv (q/8^lv-ix (q:Int) lv):=by
  unfold spt;rw[D sQ]
 have sK:0<8^lv:=kp (by decide);have Uv:q/8^lv*8^lv<4096:=yt (ur _ _) hq;rw[e4,yi1 h2,D sQ,yh5 h hl Uv,ua _ sK,yh5 h hl hq]
theorem ykZ {S:Fs} {q lv:Nat} {tl:Int} (sQ:ix (q:Int) lv<=q/8^lv) {e:En} (he:e=rEn S tl (ix (q:Int) lv) lv) (hc:yhR S tl (ix (q:Int) lv) lv=0) (Hu:e.on=O):
 out S zW lv (sub S zW lv) tl (q/8^lv-ix (q:Int) lv) (ix (q:Int) lv)=([⟨tl,ix (q:Int) lv,lv,q/8^lv,e⟩],0):=by
 subst he;unfold out;rw[iN (by simp[zW]),iN (by simpa using hc),iP Hu];unfold spt;rw[D sQ]
theorem yiF {q lv:Nat} (hq:q<4096) (hl:lv<4):index (q:Int) (lv:Int)=(ix (q:Int) lv:Nat):=yhY (zB.2 ⟨by omega,by omega⟩) hl
theorem ylp {S:Fs} {L:List Mp} (h:Rep S L) {q lv:Nat} {e:En} {tl:Int} {A B:List Sp} (hq:q<4096) (F:Found S L q lv e tl A B) (ht:e.t=Y) {r:Int} (hr:0<=r/\r<=7) (u d:Bool):
 Rep (S.store tl ((ix (q:Int) lv:Nat):Int) (enc Y Y r u d e.f (lv:Int))) (L.set (zM A).length ((L.getD (zM A).length .zz).rts r))/\
 thr (S.store tl ((ix (q:Int) lv:Nat):Int) (enc Y Y r u d e.f (lv:Int))) zW 3 0 0=(A++[⟨tl,ix (q:Int) lv,lv,q/8^lv,⟨Y,Y,r,u,d,e.f⟩⟩]++B,0)/\
 (⟨tl,ix (q:Int) lv,lv,q/8^lv,⟨Y,Y,r,u,d,e.f⟩⟩:Sp).mp=(e.map lv (q:Int)).rts r:=by
 obtain⟨hl,h2,oz,pF⟩:=yis h.ok hq F ht;have sQ:=F.spot.le;simp only at sQ;have dN:ix (q:Int) lv<8:=yiw _ _;have Hf:=F.way.hasT
 have hf:yhN Y Y r u d e.f (lv:Int)=0:=by
  have h0:yhN e.t e.l e.r e.u e.d e.f (lv:Int)=0:=by
   have:=yih h.ok F.way.code;rw[<-F.way.en]at this;exact this
  rw[ht,hl]at h0;obtain⟨_,hx⟩:=yh0 h0;rcases hx with ⟨hx,_⟩|⟨_,_,_,f0,f1,⟨_,_,fs⟩|⟨hx,_⟩⟩
  ·cases hx
  ·exact yjx (by omega) (by omega) hr.1 hr.2 f0 f1 fs
  ·cases hx
 obtain⟨v0,v1,vc,vz,d1,d2,d3,d4,d5,d6⟩:=yji hf
 have aA:enc Y Y r u d e.f (lv:Int)≠0:=fun hh=>by
  have:=vz.1 hh;cases this
 have iC:En.of (enc Y Y r u d e.f (lv:Int)) (lv:Int)=⟨Y,Y,r,u,d,e.f⟩:=by
  unfold En.of;rw[d1,d2,d3,d4,d5,d6]
 generalize enc Y Y r u d e.f (lv:Int)=v at*;obtain⟨Oc,RL⟩:=ykf Hf dN v lv;have ok':=h.ok.store tl ((ix (q:Int) lv:Nat):Int) v0 v1;have aQ:=yje 3 0 0 h.code;have BL:∀x,x ∈ (0:Int)::(zU A++zU B)->S.has x=Y:=fun x hx=>aQ x (by rw[F.tabs];exact hx);have hb:=store_but Hf dN v BL
 have pu:out (S.store tl ((ix (q:Int) lv:Nat):Int) v) zW lv (sub (S.store tl ((ix (q:Int) lv:Nat):Int) v) zW lv) tl (q/8^lv-ix (q:Int) lv) (ix (q:Int) lv)=([⟨tl,ix (q:Int) lv,lv,q/8^lv,⟨Y,Y,r,u,d,e.f⟩⟩],0):=
  ykZ sQ (by rw[RL,iC]) (by rw[Oc];exact vc) rfl
 have tQ:=F.spot.turn (S.store tl ((ix (q:Int) lv:Nat):Int) v) hb (by simp only;rw[pu]);simp only at tQ;rw[pu]at tQ
 have lg:(⟨tl,ix (q:Int) lv,lv,q/8^lv,⟨Y,Y,r,u,d,e.f⟩⟩:Sp).mp=(e.map lv (q:Int)).rts r:=by
  rw[yj1 ok' hq sQ (by rw[RL,iC]) rfl,oz]
  have su:(rEn (S.store tl ((ix (q:Int) lv:Nat):Int) v) tl (ix (q:Int) lv) lv).l=Y:=by rw[RL,iC]
  have:=yh5 ok' su hq;rw[RL,iC]at this;rw[this];rfl
 have dM:zU (A++[(⟨tl,ix (q:Int) lv,lv,q/8^lv,⟨Y,Y,r,u,d,e.f⟩⟩:Sp)]++B)=zU (thr S zW 3 0 0).1:=by
  rw[F.tabs,yhK,yhK];simp[zU,En.on]
 obtain⟨n1,n2,n3,n4⟩:=yix S tl ((ix (q:Int) lv:Nat):Int) v;refine⟨⟨ok',by rw[tQ],?_,?_,?_,?_⟩,tQ,lg⟩
 ·rw[tQ]
  simp only;rw[yhP,yhP]
  have dm:zM [(⟨tl,ix (q:Int) lv,lv,q/8^lv,⟨Y,Y,r,u,d,e.f⟩⟩:Sp)]=[(e.map lv (q:Int)).rts r]:=by
   rw[zM,o,yZ,kh,iP rfl,lg]
  rw[dm];have hL:=F.list;rw[iP ht]at hL;rw[hL,kO,kO];simp[List.getD]
 ·rw[tQ];simp only;rw[dM];exact h.nodup
 ·intro k
  rw[tQ];simp only;rw[dM,n2];exact h.used k
 ·intro x hx
  rw[tQ]at hx;simp only at hx;rw[dM]at hx;rw[yig];obtain⟨i,hi,Ho⟩:=yig.1 (h.full x hx)
  by_cases e1:x=tl/\i=ix (q:Int) lv
  ·obtain⟨rfl,rfl⟩:=e1
   exact⟨_,dN,by rw[yiP Hf dN];exact aA⟩
  ·refine⟨i,hi,?_⟩
   have:=(hb x (by rw[<-F.tabs];exact J _ hx)).2 i hi (by
    by_cases e2:x=tl
    ·exact .inr fun e3=>e1 ⟨e2,e3⟩
    ·exact .inl e2)
   rw[this];exact Ho
theorem rep_protect {S:Fs} {L:List Mp} (h:Rep S L) (p r:Int):prC S 0 p r=yiV L p r/\prM S 0 p r=ykt L p r/\Rep (prS S 0 p r) (yjm L p r):=by
 obtain⟨hc,hm⟩:=yi3 h p
 have ec:prC S 0 p r=yiV L p r:=by
  unfold prC yiV
  by_cases hr:r<0\/7<r
  ·have hb:below r 8=O:=ykx.2 (by omega)
   rw[iP hr,hb,iN (by decide)]
  ·have hb:below r 8=Y:=zB.2 (by omega)
   rw[iN hr,hb,iP rfl,hc]
 refine⟨ec,?_,?_⟩
 ·unfold prM ykt
  rw[ec]
  by_cases hz:yiV L p r=0
  ·rw[iP hz,iP hz,hm]
   have:yij L p=0:=by
    unfold yiV at hz;split at hz
    ·exact hz
    ·omega
   rw[yjp,iP this]
  ·rw[iN hz,iN hz]
 ·unfold prS yjm
  rw[ec]
  by_cases hz:yiV L p r=0
  ·rw[iP hz,iP hz]
   have hr:0<=r/\r<=7:=by
    unfold yiV at hz;split at hz
    ·rename_i hb
     have:=zB.1 hb;omega
    ·omega
   have hd:yij L p=0:=by
    unfold yiV at hz;split at hz
    ·exact hz
    ·omega
   have hp:below p 4096=Y:=by
    unfold yij at hd;split at hd
    ·assumption
    ·omega
   obtain⟨p0,p1⟩:=zB.1 hp;obtain⟨q,rfl⟩:=yF p0
   have hq:q<4096:=by omega
   obtain⟨rX,lv,e,tl,A,B,F⟩:=yiK h hq
   have ht:e.t=Y:=by
    have:tFC S 0 (q:Int)=0:=by rw[hc];exact hd
    rw[tFC,rX,iN (by decide),F.way.yhO]at this;cases he:e.t
    ·rw[he,iN (by decide)]at this;omega
    ·rfl
   obtain⟨hl,h2,oz,pF⟩:=yis h.ok hq F ht;obtain⟨f3,f4⟩:=(ykD F (fun _=>pF)).1 ht;rw[F.way.lastT,F.way.yhQ,F.way.yhO,yiF hq (by omega),ht,hl,f3];exact(ylp h hq F ht hr e.u e.d).1
  ·rw[iN hz,iN hz]
   exact h
end Pg
namespace Pg
theorem ykV (q lv:Nat):ix (q:Int) lv<=q/8^lv/\q/8^lv-ix (q:Int) lv=q/8^(lv+1)*8:=by
 have e:ix (q:Int) lv=q/8^lv%8:=by
  unfold ix
  have e:(q:Int)/8^lv%8=((q/8^lv%8:Nat):Int):=by simp
  rw[e,yQ]
 rw[e,W,<-uv];generalize q/8^lv=x;omega
theorem yi2 {S:Fs} {t:Int} (ht:S.has t=Y) {i lv:Nat} (rQ:lv<4) (h:S.word t.toNat i=0):yhR S t i lv=0/\rEn S t i lv=En.zero:=by
 unfold yhR rEn;rw[iP ht,iP ht,h]
 have hd:yhV 0 (lv:Int)=0:=by
  have:¬((lv:Int)<0\/3<(lv:Int)):=by omega
  simp[yhV,this,wBad]
 have hg:yhZ 0 (lv:Int)=O:=by simp[yhZ]
 refine⟨hd,?_⟩;unfold En.of En.zero xL xR xU xD xF;rw[hg];rfl
theorem ykO {S:Fs} {k:Nat} (hp:S.pick=some k) (x i:Nat):S.take.word x i=if x=k then 0 else S.word x i:=by
 unfold Fs.pick at hp;unfold Fs.take
 cases hb:S.back.getLast? with
 | some j=>
   rw[hb]at hp;cases hp;rfl
 | none=>
   rw[hb]at hp;simp only at hp ⊢;split at hp
   ·rename_i Hf
    cases hp;rw[iP Hf];rfl
   ·cases hp
theorem take_used {S:Fs} {k:Nat} (hp:S.pick=some k):S.take.used=k::S.used:=by
 unfold Fs.pick at hp;unfold Fs.take
 cases hb:S.back.getLast? with
 | some j=>
   rw[hb]at hp;cases hp;rfl
 | none=>
   rw[hb]at hp;simp only at hp ⊢;split at hp
   ·rename_i Hf
    cases hp;rw[iP Hf]
   ·cases hp
structure Chain (S S':Fs) (q l:Nat) (t:Int) (m:Mp) (K:List Nat):Prop where
 ok:S'.Ok
 code:(out S' zW l (sub S' zW l) t (q/8^l-ix (q:Int) l) (ix (q:Int) l)).2=0
 maps:zM (out S' zW l (sub S' zW l) t (q/8^l-ix (q:Int) l) (ix (q:Int) l)).1=[m]
 tabs:zU (out S' zW l (sub S' zW l) t (q/8^l-ix (q:Int) l) (ix (q:Int) l)).1=K.map fun k:Nat=>(k:Int)
 used:S'.used=K.reverse++S.used
 nd:K.Nodup/\∀k,k ∈ K->k ∉ S.used
 full:∀k,k ∈ K->yhS S' (k:Int)=O
 word:S'.word t.toNat (ix (q:Int) l)≠0
 same:∀x,x ∈ S.used->∀i,(x≠t.toNat\/i≠ix (q:Int) l)->S'.word x i=S.word x i
theorem chain {q:Nat} (hq:q<4096) {m:Mp} (hm:m.code=0) (lg:m.p=(q:Int)) {sz:Nat} (Rz:m.s=(sz:Int)):∀(d l:Nat),l=sz+d->l<4->∀(S:Fs) (t:Int),S.Ok->S.has t=Y->(d:Int)<=S.free->
 ∃K,Chain S ((insW m.p m.s l S t).1.store (insW m.p m.s l S t).2 (index m.p m.s) (enc Y Y m.r O O m.f m.s)) q l t m K:=by
 obtain⟨z0,z1,z2,z3,z4,z5,z6,z7,z8⟩:=yhT hm
 have oD:sz<=2:=by
  rw[Rz]at z0
  rcases yhX (sz:Int)with h|h|h|h<;>omega
 intro d
 induction d with
 | zero=>
   intro l hl nI S t ok ht hf
   have hl:l=sz:=by omega
   subst hl
   have e0:insW m.p m.s l S t=(S,t):=by
    cases l with
    | zero=>rfl
    | succ l=>
      show(if ((l+1:Nat):Int)<=m.s then(S,t)else _)=_
      rw[iP (by omega)]
   rw[e0];simp only;rw[lg,Rz,yiF hq nI];have dN:ix (q:Int) l<8:=yiw _ _;obtain⟨sQ,_⟩:=ykV q l;have nX:yhN Y Y m.r O O m.f (l:Int)=0:=yjx (by omega) (by omega) z5 (by omega) z3 z4 (by rw[<-Rz];exact z8);obtain⟨v0,v1,vc,vz,d1,d2,d3,d4,d5,d6⟩:=yji nX
   have aA:enc Y Y m.r O O m.f (l:Int)≠0:=fun hh=>by
    have:=vz.1 hh;cases this
   have iC:En.of (enc Y Y m.r O O m.f (l:Int)) (l:Int)=⟨Y,Y,m.r,O,O,m.f⟩:=by
    unfold En.of;rw[d1,d2,d3,d4,d5,d6]
   generalize enc Y Y m.r O O m.f (l:Int)=v at*;obtain⟨Oc,RL⟩:=ykf ht dN v l;have ok':=ok.store t ((ix (q:Int) l:Nat):Int) v0 v1
   have ho:out (S.store t ((ix (q:Int) l:Nat):Int) v) zW l (sub (S.store t ((ix (q:Int) l:Nat):Int) v) zW l) t (q/8^l-ix (q:Int) l) (ix (q:Int) l)=([⟨t,ix (q:Int) l,l,q/8^l,⟨Y,Y,m.r,O,O,m.f⟩⟩],0):=
    ykZ sQ (by rw[RL,iC]) (by rw[Oc];exact vc) rfl
   have Ug:(⟨t,ix (q:Int) l,l,q/8^l,⟨Y,Y,m.r,O,O,m.f⟩⟩:Sp).mp=m:=by
    rw[yj1 ok' hq sQ (by rw[RL,iC]) rfl]
    have su:(rEn (S.store t ((ix (q:Int) l:Nat):Int) v) t (ix (q:Int) l) l).l=Y:=by rw[RL,iC]
    have:=yh5 ok' su hq;rw[RL,iC]at this;rw[this]
    have kg:q/8^l*8^l=q:=by
     rw[lg,Rz,yiA oD]at z7
     have:q%8^l=0:=by omega
     have:=yz q (8^l);rw[un]at this;omega
    rw[kg,<-lg,<-Rz]
   obtain⟨n1,n2,n3,n4⟩:=yix S t ((ix (q:Int) l:Nat):Int) v;refine⟨[],ok',by rw[ho],?_,?_,by rw[n2];rfl,⟨yA,fun k hk=>by simp at hk⟩,fun k hk=>by simp at hk,by rw[yiP ht dN];exact aA,?_⟩
   ·rw[ho]
    simp only;rw[zM,o,yZ,kh,iP rfl,Ug]
   ·rw[ho]
    simp[zU,En.on]
   ·intro x hx i Ho
    rw[yjd ht dN]
    show Fs.put S.word t.toNat (ix (q:Int) l) v x i=_
    unfold Fs.put;rw[iN];rintro ⟨e1,e2⟩;rcases Ho with h|h
    ·exact h e1
    ·exact h e2
 | succ d ih=>
   intro l hl nI S t ok ht hf;obtain⟨l',rfl⟩:∃l',l=l'+1:=⟨sz+d,by omega⟩;obtain⟨k,MU,hkN,mg,KU,KV,hkf,hknn⟩:=ykM ok (by omega)
   have e0:insW m.p m.s (l'+1) S t=insW m.p m.s l' (S.take.store t (index m.p ((l'+1:Nat):Int)) (enc Y O 7 O O (k:Int) ((l'+1:Nat):Int))) (k:Int):=by
    show(if ((l'+1:Nat):Int)<=m.s then(S,t)else _)=_
    rw[iN (by omega),hkN]
   rw[e0];have PZ:ix (q:Int) (l'+1)<8:=yiw _ _;have KN:ix (q:Int) l'<8:=yiw _ _;obtain⟨Bw,_⟩:=ykV q (l'+1);obtain⟨Ad,BK⟩:=ykV q l'
   have e1:index m.p ((l'+1:Nat):Int)=(ix (q:Int) (l'+1):Nat):=by rw[lg];exact yiF hq nI
   rw[e1];have UI:=KV t ht;have okt:=ok.take;have gI:=ok.small;have nX:yhN Y O 7 O O (k:Int) ((l'+1:Nat):Int)=0:=fault_table (by omega) (by omega) (by omega) (by omega);obtain⟨v0,v1,vc,vz,d1,d2,d3,d4,d5,d6⟩:=yji nX
   have aA:enc Y O 7 O O (k:Int) ((l'+1:Nat):Int)≠0:=fun hh=>by
    have:=vz.1 hh;cases this
   have iC:En.of (enc Y O 7 O O (k:Int) ((l'+1:Nat):Int)) ((l'+1:Nat):Int)=⟨Y,O,7,O,O,(k:Int)⟩:=by
    unfold En.of;rw[d1,d2,d3,d4,d5,d6]
   generalize enc Y O 7 O O (k:Int) ((l'+1:Nat):Int)=v at*;have Ob:=okt.store t ((ix (q:Int) (l'+1):Nat):Int) v0 v1
   have Ki:(S.take.store t ((ix (q:Int) (l'+1):Nat):Int) v).has (k:Int)=Y:=by rw[yiu];exact KU
   obtain⟨K,C⟩:=ih l' (by omega) (by omega) (S.take.store t ((ix (q:Int) (l'+1):Nat):Int) v) (k:Int) Ob Ki (by rw[yjE,hkf];omega);generalize Px:(insW m.p m.s l' (S.take.store t ((ix (q:Int) (l'+1):Nat):Int) v) (k:Int)).1.store (insW m.p m.s l' (S.take.store t ((ix (q:Int) (l'+1):Nat):Int) v) (k:Int)).2 (index m.p m.s) (enc Y Y m.r O O m.f m.s)=S3 at*;obtain⟨n1,n2,n3,n4⟩:=yix S.take t ((ix (q:Int) (l'+1):Nat):Int) v
   have aZ:(S.take.store t ((ix (q:Int) (l'+1):Nat):Int) v).used=k::S.used:=by rw[n2,take_used MU]
   have Sb:k ∉ S.used:=(ok.ylN MU).2;have UK:t.toNat ∈ S.used:=(ok.yh4 ht).2.2;have Ak:t.toNat≠k:=fun e=>Sb (e▸UK);have t0:=yiv ht
   have w1:S3.word t.toNat (ix (q:Int) (l'+1))=v:=by
    rw[C.same t.toNat (by rw[aZ];exact J _ UK) _ (.inl (by simpa using Ak)),yiP UI PZ]
   have Gt:∀x:Int,0<=x->x.toNat ∈ S3.used->S3.has x=Y:=fun x h0 hx=>by simp[Fs.has,Fs.inn,h0,hx]
   have UL:S3.used=K.reverse++(k::S.used):=by rw[C.used,aZ]
   have Ai:S3.has t=Y:=Gt t t0 (by rw[UL];exact N _ (J _ UK));have bG:S3.has (k:Int)=Y:=Gt _ (by omega) (by rw[UL];exact N _ (by simp))
   have mO:yhR S3 t (ix (q:Int) (l'+1)) (l'+1)=0/\rEn S3 t (ix (q:Int) (l'+1)) (l'+1)=⟨Y,O,7,O,O,(k:Int)⟩:=by
    unfold yhR rEn;rw[iP Ai,iP Ai,w1];exact⟨vc,iC⟩
   have wk:∀j,j<8->j≠ix (q:Int) l'->S3.word k j=0:=by
    intro j hj Ho;rw[C.same k (by rw[aZ];simp) j (.inr Ho)];rw[yjd UI PZ]
    show Fs.put S.take.word t.toNat (ix (q:Int) (l'+1)) v k j=0
    unfold Fs.put;rw[iN (by rintro ⟨e,_⟩;exact Ak e.symm),ykO MU,iP rfl]
   have Bt:∀j,j<8->j≠ix (q:Int) l'->out S3 zW l' (sub S3 zW l') (k:Int) (q/8^l'-ix (q:Int) l') j=([spt S3 (k:Int) j l' (q/8^l'-ix (q:Int) l')],0)/\(spt S3 (k:Int) j l' (q/8^l'-ix (q:Int) l')).e=En.zero:=by
    intro j hj Ho;obtain⟨r1,r2⟩:=yi2 (lv:=l') bG (by omega) (show S3.word (k:Int).toNat j=0 by rw[yQ];exact wk j hj Ho);refine⟨?_,r2⟩;unfold out;rw[iN (by simp[zW]),iN (by simpa using r1),iP (by rw[r2];rfl)]
   have Dz:∀j,j<8->(out S3 zW l' (sub S3 zW l') (k:Int) (q/8^l'-ix (q:Int) l') j).2=0:=by
    intro j hj
    by_cases e:j=ix (q:Int) l'
    ·rw[e];exact C.code
    ·rw[(Bt j hj e).1]
   have tQ:=yjL Dz
   have dP:zM (thr S3 zW l' (k:Int) (q/8^l'-ix (q:Int) l')).1=[m]:=by
    rw[tQ]
    have e:zM ((List.range 8).flatMap fun j=>(out S3 zW l' (sub S3 zW l') (k:Int) (q/8^l'-ix (q:Int) l') j).1)=(yI 0 8).flatMap fun j=>zM (out S3 zW l' (sub S3 zW l') (k:Int) (q/8^l'-ix (q:Int) l') j).1:=by
     simp only[zM,ki,yN]
    rw[e,flatMap_one _ (ix (q:Int) l') 8 0 (fun j _ h2 h3=>by rw[(Bt j (by omega) h3).1];simp[zM,(Bt j (by omega) h3).2,En.zero]),iP (by omega),C.maps]
   have uG:zU (thr S3 zW l' (k:Int) (q/8^l'-ix (q:Int) l')).1=K.map fun k:Nat=>(k:Int):=by
    rw[tQ]
    have e:zU ((List.range 8).flatMap fun j=>(out S3 zW l' (sub S3 zW l') (k:Int) (q/8^l'-ix (q:Int) l') j).1)=(yI 0 8).flatMap fun j=>zU (out S3 zW l' (sub S3 zW l') (k:Int) (q/8^l'-ix (q:Int) l') j).1:=by
     simp only[zU,ki,yN]
    rw[e,flatMap_one _ (ix (q:Int) l') 8 0 (fun j _ h2 h3=>by rw[(Bt j (by omega) h3).1];simp[zU,(Bt j (by omega) h3).2,En.zero,En.on]),iP (by omega),C.tabs]
   have hcz:(thr S3 zW l' (k:Int) (q/8^l'-ix (q:Int) l')).2=0:=by rw[tQ]
   have ho:out S3 zW (l'+1) (sub S3 zW (l'+1)) t (q/8^(l'+1)-ix (q:Int) (l'+1)) (ix (q:Int) (l'+1))=(spt S3 t (ix (q:Int) (l'+1)) (l'+1) (q/8^(l'+1)-ix (q:Int) (l'+1))::(thr S3 zW l' (k:Int) (q/8^l'-ix (q:Int) l')).1,0):=by
    unfold out;rw[iN (by simp[zW]),iN (by simpa using mO.1),iN (by rw[mO.2];simp[En.on]),mO.2,D Bw,<-BK]
    show(_,(thr S3 zW l' (k:Int) (q/8^l'-ix (q:Int) l')).2)=_
    rw[hcz];rfl
   have UA:(spt S3 t (ix (q:Int) (l'+1)) (l'+1) (q/8^(l'+1)-ix (q:Int) (l'+1))).e=⟨Y,O,7,O,O,(k:Int)⟩:=mO.2;refine⟨k::K,C.ok,by rw[ho],?_,?_,?_,?_,?_,by rw[w1];exact aA,?_⟩
   ·rw[ho]
    simp only
    have:zM (spt S3 t (ix (q:Int) (l'+1)) (l'+1) (q/8^(l'+1)-ix (q:Int) (l'+1))::(thr S3 zW l' (k:Int) (q/8^l'-ix (q:Int) l')).1)=zM (thr S3 zW l' (k:Int) (q/8^l'-ix (q:Int) l')).1:=by
     simp[zM,UA]
    rw[this,dP]
   ·rw[ho]
    simp only;rw[yiq (by rw[UA];rfl),UA,uG];rfl
   ·rw[UL]
    simp
   ·refine⟨ue.2 ⟨fun hk=> ?_,C.nd.1⟩,fun x hx=> ?_⟩
    ·exact C.nd.2 k hk (by rw[aZ];simp)
    ·rcases H.1 hx with rfl|hx
     ·exact Sb
     ·exact fun hu=>C.nd.2 x hx (by rw[aZ];exact J _ hu)
   ·intro x hx
    rcases H.1 hx with rfl|hx
    ·rw[yig]
     exact⟨ix (q:Int) l',KN,by have:=C.word;exact this⟩
    ·exact C.full x hx
   ·intro x hx i Ho
    have Ap:x≠k:=fun e=>Sb (e▸hx);rw[C.same x (by rw[aZ];exact J _ hx) i (.inl (by simpa using Ap)),yjd UI PZ]
    show Fs.put S.take.word t.toNat (ix (q:Int) (l'+1)) v x i=_
    unfold Fs.put;rw[iN (by rintro ⟨e1,e2⟩;rcases Ho with h|h;exact h e1;exact h e2),ykO MU,iN Ap]
end Pg
namespace Pg
theorem way_step (S:Fs) (p:Int):∀(lv:Nat) (t:Int) (a:Nat),(thr S (onW p) lv t a).2=0->∀s,(thr S (onW p) lv t a).1.getLast?=some s->∀l,s.level<l->l<=lv->∃s',s' ∈ (thr S (onW p) lv t a).1/\s'.level=l/\s'.e.on=Y:=by
 intro lv
 induction lv with
 | zero=>
   intro t a _ s _ l h1 h2;omega
 | succ lv ih=>
   intro t a hz s hs l h1 h2;rw[yid]at hz hs ⊢;split at hz
   ·rename_i h3
    exact absurd hz h3
   ·rename_i h3
    rw[iN h3]at hs ⊢;split at hz
    ·rename_i h4
     rw[iP h4]at hs;simp at hs;subst hs;have:(spt S t (ix p (lv+1)) (lv+1) a).level=lv+1:=rfl;omega
    ·rename_i h4
     rw[iN h4]at hs ⊢;simp only[sub]at hz hs ⊢
     have h4:(rEn S t (ix p (lv+1)) (lv+1)).on=Y:=by simpa using h4
     by_cases e:l=lv+1
     ·exact⟨_,V,e.symm,h4⟩
     ·obtain⟨s2,j1,_⟩:=(ylx S p lv (rEn S t (ix p (lv+1)) (lv+1)).f ((a+ix p (lv+1))*8)).2 hz
      have pJ:s2=s:=by
       rw[yr,j1]at hs
       simpa using hs
      subst pJ;obtain⟨s',m1,m2⟩:=ih _ _ hz s2 j1 l h1 (by omega);exact⟨s',J _ m1,m2⟩
theorem ylK {S:Fs}:∀(lv:Nat) (t:Int) (a:Nat),(thr S zW lv t a).2=0->yhS S t=O->(∀x,x ∈ zU (thr S zW lv t a).1->yhS S x=O)->∃m,m ∈ zM (thr S zW lv t a).1:=by
 intro lv
 induction lv using yC with
 | _ lv IH=>
 intro t a hz he rF;obtain⟨i,hi,Ho⟩:=yig.1 he;obtain⟨c1,c2⟩:=yh7 hz;obtain⟨hc,ho⟩:=yia (c1 i hi);have hh:=yhU hc
 have ht:(rEn S t i lv).t=Y:=by
  unfold yhR at hc;rw[iP hh]at hc;unfold rEn;rw[iP hh]
  show yhZ (S.word t.toNat i) lv=Y
  simp[yhZ,hc,Ho]
 have inn:∀m,m ∈ zM (out S zW lv (sub S zW lv) t a i).1->m ∈ zM (thr S zW lv t a).1:=by
  intro m hm;rw[c2];simp only[zM,E]at hm ⊢;obtain⟨s,hs,hm⟩:=hm;exact⟨s,⟨i,by simpa using hi,hs⟩,hm⟩
 rcases ho with ⟨Hu,ho⟩|⟨Hu,hr,ho⟩
 ·have hl:(spt S t i lv a).e.l=Y:=by
   have:(rEn S t i lv).on=O:=Hu;simp[En.on,ht]at this;exact this
  exact⟨(spt S t i lv a).mp,inn _ (by rw[ho];simp[zM,hl])⟩
 ·obtain⟨b,rfl⟩:=yib Hu
  have tq:(thr S zW b (rEn S t i (b+1)).f ((a+i)*8)).2=0:=hr;have pW:(spt S t i (b+1) a).e.on=Y:=Hu
  have pG:∀x,x ∈ (rEn S t i (b+1)).f::zU (thr S zW b (rEn S t i (b+1)).f ((a+i)*8)).1->x ∈ zU (thr S zW (b+1) t a).1:=by
   intro x hx;refine yjf hi hz ?_;rw[ho,yiq pW];exact hx
  obtain⟨m,hm⟩:=IH b (by omega) _ _ tq (rF _ (pG _ V)) (fun x hx=>rF x (pG x (J _ hx)));refine⟨m,inn m ?_⟩;rw[ho];simp only[zM,o,Z];exact .inr hm
section
variable {S:Fs}
theorem ykH (h:S.Ok):∀(lv:Nat),lv<4->∀(t:Int) (a:Nat),a+8<=8^(4-lv)->(thr S zW lv t a).2=0->(∀m,m ∈ zM (thr S zW lv t a).1->m.code=0)/\(zM (thr S zW lv t a).1).Pairwise fun x y=>x.p+span x.s<=y.p:=by
 intro lv
 induction lv using yC with
 | _ lv IH=>
 intro rQ t a ha hz;obtain⟨c1,c2⟩:=yh7 hz;have sK:0<8^lv:=kp (by decide)
 have rF:(a+8)*8^lv<=4096:=by
  have h3:(a+8)*8^lv<=8^(4-lv)*8^lv:=Q _ ha;rw[<-yT,show 4-lv+lv=4 by omega]at h3
  have e:(8:Nat)^4=4096:=by decide
  omega
 have one:∀j,j<8->(∀m,m ∈ zM (out S zW lv (sub S zW lv) t a j).1->m.code=0)/\(zM (out S zW lv (sub S zW lv) t a j).1).Pairwise fun x y=>x.p+span x.s<=y.p:=by
  intro j hj;have Ku:(a+j+1)*8^lv<=(a+8)*8^lv:=Q _ (by omega)
  have hex:(a+j+1)*8^lv=(a+j)*8^lv+8^lv:=by rw[ud,uc]
  obtain⟨hc,ho⟩:=yia (c1 j hj);rcases ho with ⟨Hu,ho⟩|⟨Hu,hr,ho⟩
  ·rw[ho]
   by_cases hl:(rEn S t j lv).l=Y
   ·have hl':(spt S t j lv a).e.l=Y:=hl
    have e:zM [spt S t j lv a]=[(spt S t j lv a).mp]:=by simp[zM,hl']
    rw[e];refine⟨fun m hm=> ?_,List.pairwise_singleton _ _⟩;simp at hm;subst hm;have h2:=(yh6 h hl).2.2;have hf:=yih h hc;obtain⟨_,hx⟩:=yh0 hf;rcases hx with ⟨_,hx,_⟩|⟨_,r0,r1,f0,f1,⟨_,_,fs⟩|⟨hx,_⟩⟩
    ·rw[hx]at hl;cases hl
    ·rw[yi1 h2,yh5 h hl (by omega),ua _ sK]
     unfold Mp.code;simp only;have gM:=yiA h2
     have hs0:span (lv:Int)≠0:=by rw[gM];omega
     rw[yin hs0 (zB.2 ⟨by omega,by omega⟩) (zB.2 ⟨f0,f1⟩) (zB.2 ⟨r0,by omega⟩),iP];refine⟨?_,fs⟩;rw[gM];rw[<-Int.natCast_emod,Nat.mul_mod_left];rfl
    ·rw[hx]at hl;cases hl
   ·have hl':(spt S t j lv a).e.l=O:=yK.2 hl
    have e:zM [spt S t j lv a]=[]:=by simp[zM,hl']
    rw[e];exact⟨fun m hm=>by simp at hm,List.Pairwise.nil⟩
  ·obtain⟨b,rfl⟩:=yib Hu
   have hl':(spt S t j (b+1) a).e.l=O:=by
    have:(rEn S t j (b+1)).on=Y:=Hu;simp[En.on]at this;exact this.2
   have e:zM (out S zW (b+1) (sub S zW (b+1)) t a j).1=zM (thr S zW b (rEn S t j (b+1)).f ((a+j)*8)).1:=by
    rw[ho];simp[zM,hl',sub]
   rw[e]
   exact IH b (by omega) (by omega) _ _ (by
    rw[show 4-b=(4-(b+1))+1 by omega,W]
    omega) hr
 have e:zM (thr S zW lv t a).1=(List.range 8).flatMap fun j=>zM (out S zW lv (sub S zW lv) t a j).1:=by
  rw[c2];simp only[zM,ki]
 rw[e];refine⟨fun m hm=> ?_,?_⟩
 ·rw[E]at hm
  obtain⟨j,hj,hm⟩:=hm;exact(one j (by simpa using hj)).1 m hm
 ·rw[yj]
  refine⟨fun j hj=>(one j (by simpa using hj)).2,?_⟩;refine List.Pairwise.imp_of_mem ?_ (List.pairwise_lt_range (n:=8));intro i j hi hj bC x hx y hy
  have hi:i<8:=by simpa using hi
  have hj:j<8:=by simpa using hj
  have h1:=(yiO h rQ hi ha (c1 i hi) hx).2;have h2:=(yiO h rQ hj ha (c1 j hj) hy).1;have:(a+i+1)*8^lv<=(a+j)*8^lv:=Q _ (by omega);omega
end
theorem yil {S:Fs} {L:List Mp} (h:Rep S L):Good L:=by
 obtain⟨h1,h2⟩:=ykH h.ok 3 (by omega) 0 0 (by decide) h.code;rw[h.maps]at h1 h2;refine⟨h1,List.Pairwise.imp_of_mem ?_ h2⟩;intro x y hx hy Ch;have s1:=(yhT (h1 x hx)).1;have s2:=(yhT (h1 y hy)).1;have b1:=(yh2 x.s).1;have b2:=(yh2 y.s).1;refine⟨by omega,?_⟩;cases hm:x.meets y
 ·rfl
 ·simp[Mp.meets,meet,over]at hm
  omega
theorem ylF {m:Mp}:∀{A B:List Mp},(∀x,x ∈ A->x.p<m.p)->(∀x,x ∈ B->m.p<x.p)->ins m (A++B)=A++m::B
 | [],[],_,_=>rfl
 | [],y::B,_,hB=>by
   show ins m (y::B)=m::y::B
   unfold ins;rw[iP (hB y V)]
 | x::A,B,hA,hB=>by
   show ins m (x::(A++B))=x::(A++m::B)
   unfold ins;rw[iN (by have:=hA x V;omega),ylF (fun y hy=>hA y (J _ hy)) hB]
theorem ykh {S:Fs} {L:List Mp} (h:Rep S L) (m:Mp):(insC S 0 m=6/\S.free<3/\insS S 0 m=S)\/(insC S 0 m≠6/\insC S 0 m=addC L m/\Rep (insS S 0 m) (addL L m)/\∀s,s ∈ (thr S zW 3 0 0).1->s.e.l=Y\/s.e.on=Y->s ∈ (thr (insS S 0 m) zW 3 0 0).1):=by
 by_cases hm:m.code=0
 ·obtain⟨z0,z1,z2,z3,z4,z5,z6,z7,z8⟩:=yhT hm
  obtain⟨q,lg⟩:=yF z1
  have hq:q<4096:=by omega
  obtain⟨sz,Rz⟩:∃sz:Nat,m.s=(sz:Int):=by
   rcases yhX m.s with ⟨e,_⟩|⟨e,_⟩|⟨e,_⟩|⟨_,_,_,e⟩
   ·exact⟨0,e⟩
   ·exact⟨1,e⟩
   ·exact⟨2,e⟩
   ·exact absurd e z0
  have oD:sz<=2:=by
   rw[Rz]at z0
   rcases yhX (sz:Int)with h|h|h|h<;>omega
  have gM:span m.s=((8^sz:Nat):Int):=by rw[Rz];exact yiA oD
  have kg:q/8^sz*8^sz=q:=by
   rw[lg,gM]at z7
   have:q%8^sz=0:=by omega
   have:=yz q (8^sz);rw[un]at this;omega
  have Uu:0<8^sz:=kp (by decide);obtain⟨hz,lv,e,tl,A,B,F⟩:=yiK h hq;have mH:=yil h
  have eC:insC S 0 m=if e.t=Y\/(lv:Int)<m.s then 4 else if S.free<(lv:Int)-m.s then 6 else 0:=by
   rw[insC,iN (by simpa using hm),lg,hz,iN (by decide),F.way.yhO,F.way.yhQ]
  have sK:0<8^lv:=kp (by decide);have MM:q/8^lv*8^lv<=q:=ur _ _
  have Rq:q<(q/8^lv+1)*8^lv:=by
   rw[ud,uc];have:=yV (a:=q) sK;omega
  by_cases nC:e.t=Y\/(lv:Int)<m.s
  ·--something is there
   rw[iP nC]at eC
   have Bl:∃x,x ∈ L/\x.meets m=Y:=by
    by_cases ht:e.t=Y
    ·obtain⟨_,_,_,pF⟩:=yis h.ok hq F ht
     refine⟨e.map lv (q:Int),?_,?_⟩
     ·rw[F.list,iP ht]
      simp
     ·have:over (e.map lv (q:Int)).p (e.map lv (q:Int)).s m.p=Y:=by rw[lg];exact pF
      simp[Mp.meets,meet,this]
    ·have Hf:lv<sz:=by
      rcases nC with h'|h'
      ·exact absurd h' ht
      ·omega
     have hd:q/8^3<8:=by
      rw[show(8:Nat)^3=512 by decide];omega
     obtain⟨a1,a2,s,a3,a4⟩:=yk2 h.ok q 3 (by omega) 0 0 (by omega) (by decide) (by omega) (by omega) h.code;have hp:below (q:Int) 4096=Y:=zB.2 ⟨by omega,by omega⟩
     have eX:zg S 0 (q:Int)=(thr S (onW (q:Int)) 3 0 0).1:=by unfold zg;rw[iP ⟨hp,a1⟩]
     have e1:s.level=lv:=by
      have:=F.way.yhQ;rw[eX]at this;unfold Go.Proofs.YtdphiompijbelaaGreat.yhQ at this;rw[a3]at this;exact yM.1 this
     obtain⟨s',m1,m2,m3⟩:=way_step S (q:Int) 3 0 0 a1 s a3 sz (by omega) (by omega);obtain⟨A',B',sp⟩:=ylz h.ok q 3 (by omega) 0 0 (by omega) (by decide) (by omega) (by omega) h.code h.nodup s' m1;have rF:=sp.all;have Df:=sp.en;have dF:=sp.place;have uX:=sp.ahead;have fK:=sp.le;have Hz:=sp.code;obtain⟨st,uO,sl,sa,se⟩:=s';simp only at m2 m3 rF Df dF uX fK Hz;subst m2;obtain⟨rT,ho⟩:=yia Hz;rw[<-Df]at ho;rcases ho with ⟨Hu,_⟩|⟨_,hr,ho⟩
     ·rw[Hu]at m3;cases m3
     ·obtain⟨b,rfl⟩:=yib (by rw[<-Df];exact m3)
      have tq:(thr S zW b se.f ((sa-uO+uO)*8)).2=0:=hr
      have nK:spt S st uO (b+1) (sa-uO)=⟨st,uO,b+1,sa,se⟩:=by
       unfold spt;rw[<-Df,D fK]
      rw[nK]at ho
      have TJ:∀x,x ∈ se.f::zU (thr S zW b se.f ((sa-uO+uO)*8)).1->x ∈ zU (thr S zW 3 0 0).1:=by
       intro x hx;rw[rF,yhK,yhK,ho,yiq m3];exact I _ (N _ hx)
      obtain⟨x,hx⟩:=ylK b se.f ((sa-uO+uO)*8) tq (h.full _ (TJ _ V)) (fun x hx=>h.full x (TJ x (J _ hx)))
      have UX:x ∈ zM (out S zW (b+1) (sub S zW (b+1)) st (sa-uO) uO).1:=by
       rw[ho];simp only[zM,o,Z];exact .inr hx
      refine⟨x,?_,?_⟩
      ·rw[<-h.maps,rF,yhP,yhP]
       exact I _ (N _ UX)
      ·have gm:uO<8:=by rw[dF];exact yiw _ _
       have TG:sa-uO+8<=8^(4-(b+1)):=by
        have h5:=(ykV q (b+1)).2;rw[<-dF,<-uX]at h5;rw[h5]
        have h6:q/8^(b+1+1)<8^(4-(b+1+1)):=by
         rw[yk (kp (by decide)),<-yT,show 4-(b+1+1)+(b+1+1)=4 by omega];exact hq
        have h7:(8:Nat)^(4-(b+1))=8^(4-(b+1+1))*8:=by rw[<-W,show(4-(b+1+1)).succ=4-(b+1) by omega]
        rw[h7];have h8:=Q 8 (Nat.succ_le_of_lt h6);rw[Nat.succ_mul]at h8;exact h8
       obtain⟨r1,r2⟩:=yiO h.ok (by omega) gm TG Hz UX;rw[D fK,uX,kg]at r1;rw[D fK,uX,ud,uc,kg]at r2;have hxs:=(yhT (mH.ok x (by rw[<-h.maps,rF,yhP,yhP];exact I _ (N _ UX)))).1;have UV:=(yh2 x.s).1
       have:over m.p m.s x.p=Y:=by
        simp only[over,yB,decide_eq_true_eq];rw[gM,lg];omega
       simp[Mp.meets,meet,this]
   obtain⟨x,hx,RH⟩:=Bl
   have ea:addC L m=4:=by rw[addC,iN (by simpa using hm),iP (yo.2 ⟨x,hx,RH⟩)]
   refine .inr ⟨by omega,by rw[eC,ea],?_⟩;rw[insS,addL,eC,ea,iN (by decide),iN (by decide)];exact⟨h,fun s hs _=>hs⟩
  ·rw[iN nC]at eC
   by_cases uo:S.free<(lv:Int)-m.s
   ·rw[iP uo]at eC
    exact .inl ⟨eC,by have:=F.le;omega,by rw[insS,eC,iN (by decide)]⟩
   ·rw[iN uo]at eC
    have ht:e.t=O:=by
     cases he:e.t
     ·rfl
     ·exact absurd (.inl he) nC
    have UH:sz<=lv:=by omega
    have hL:=F.list;rw[iN (by simp[ht]),kh]at hL
    have hup:q+8^sz<=(q/8^lv+1)*8^lv:=by
     have e1:8^lv=8^(lv-sz)*8^sz:=by rw[<-yT,D UH]
     rw[e1,<-yJ]at Rq ⊢;rw[<-kg]at Rq ⊢
     have h5:q/8^sz<(q/(8^(lv-sz)*8^sz)+1)*8^(lv-sz):=by
      rw[kg]at Rq;exact(yk Uu).2 Rq
     have h6:(q/8^sz+1)*8^sz<=(q/(8^(lv-sz)*8^sz)+1)*8^(lv-sz)*8^sz:=Q _ h5;rw[ud,uc]at h6;rw[kg]at h6 ⊢;exact h6
    have pA:∀x,x ∈ zM A->x.p<m.p/\x.meets m=O:=by
     intro x hx
     have hxL:x ∈ L:=by rw[hL];exact I _ hx
     have s1:=(yhT (mH.ok x hxL)).1;have b1:=(yh2 x.s).1;have:=F.spot.ma x hx;simp only at this;refine⟨by omega,?_⟩;cases hh:x.meets m
     ·rfl
     ·simp[Mp.meets,meet,over]at hh
      omega
    have pB:∀x,x ∈ zM B->m.p<x.p/\x.meets m=O:=by
     intro x hx;have:=F.spot.mb x hx;simp only at this;refine⟨by omega,?_⟩;cases hh:x.meets m
     ·rfl
     ·simp[Mp.meets,meet,over]at hh
      rw[gM]at hh;omega
    have Gr:addC L m=0:=by
     rw[addC,iN (by simpa using hm),iN];rw[yo];rintro ⟨x,hx,RH⟩;rw[hL]at hx;rcases Z.1 hx with hx|hx
     ·rw[(pA x hx).2]at RH;cases RH
     ·rw[(pB x hx).2]at RH;cases RH
    refine .inr ⟨by omega,by rw[eC,Gr],?_⟩;rw[insS,addL,eC,Gr,iP rfl,iP rfl,lg,F.way.yhQ,F.way.lastT,<-lg];obtain⟨K,C⟩:=chain hq hm lg Rz (lv-sz) lv (by omega) (by have:=F.le;omega) S tl h.ok F.way.hasT (by omega);rw[yQ];generalize (insW m.p m.s lv S tl).1.store (insW m.p m.s lv S tl).2 (index m.p m.s) (enc Y Y m.r O O m.f m.s)=S' at*;have aQ:=yje 3 0 0 h.code
    have kC:But1 S S' ((0:Int)::(zU A++zU B)) tl (ix (q:Int) lv):=by
     intro x hx;have UW:=aQ x (by rw[F.tabs];exact hx);have mV:=yiv UW;have Aq:x.toNat ∈ S.used:=(h.ok.yh4 UW).2.2;have Sw:=yiv F.way.hasT;refine⟨?_,fun i hi Ho=>C.same x.toNat Aq i ?_⟩
     ·rw[UW]
      simp only[Fs.has,Fs.inn,yB,decide_eq_true_eq];exact⟨mV,by rw[C.used];exact N _ Aq⟩
     ·rcases Ho with h'|h'
      ·exact .inl fun e=>h' (by omega)
      ·exact .inr h'
    have tQ:=F.spot.turn S' kC (by simp only;exact C.code);simp only at tQ
    have dM:zU (thr S' zW 3 0 0).1=zU A++K.map (fun k:Nat=>(k:Int))++zU B:=by
     rw[tQ];simp only;rw[yhK,yhK,C.tabs]
    have Kb:∀x:Int,x ∈ K.map (fun k:Nat=>(k:Int))->∀y,y ∈ (0:Int)::(zU A++zU B)->x≠y:=by
     intro x hx y hy e;rw[yS]at hx;obtain⟨k,hk,rfl⟩:=hx;have:=(h.used k).2 (by rw[F.tabs,e];exact hy);exact C.nd.2 k hk this
    refine⟨⟨C.ok,by rw[tQ],?_,?_,?_,?_⟩,?_⟩
    ·rw[tQ]
     simp only;rw[yhP,yhP,C.maps,hL,ylF (fun x hx=>(pA x hx).1) (fun x hx=>(pB x hx).1),kO];rfl
    ·rw[dM]
     have dZ:=h.nodup;rw[F.tabs]at dZ
     have Kc:(K.map fun k:Nat=>(k:Int)).Nodup:=by
      rw[yP,yG];exact(yP.1 C.nd.1).imp fun Ho e=>Ho (yM.1 e)
     have Bv:((0:Int)::(zU A++K.map (fun k:Nat=>(k:Int))++zU B)).Perm (K.map (fun k:Nat=>(k:Int))++((0:Int)::(zU A++zU B))):=by
      refine List.Perm.trans ?_ List.perm_middle.symm;refine List.Perm.cons _ ?_;rw[<-kO];exact List.Perm.append_right _ List.perm_append_comm
     rw[Bv.nodup_iff,w];exact⟨Kc,dZ,Kb⟩
    ·intro k
     rw[dM,C.used,Z,yX,h.used k,F.tabs];simp only[H,Z,yS];constructor
     ·rintro (hk|hk|hk|hk)
      ·exact .inr (.inl (.inr ⟨k,hk,rfl⟩))
      ·exact .inl hk
      ·exact .inr (.inl (.inl hk))
      ·exact .inr (.inr hk)
     ·rintro (hk|(hk|⟨j,hj,e⟩)|hk)
      ·exact .inr (.inl hk)
      ·exact .inr (.inr (.inl hk))
      ·exact .inl (yM.1 e▸hj)
      ·exact .inr (.inr (.inr hk))
    ·intro x hx
     rw[dM]at hx
     have old:x ∈ zU A++zU B->yhS S' x=O:=by
      intro hx;obtain⟨i,hi,Ho⟩:=yig.1 (h.full x (by rw[F.tabs];exact hx));rw[yig]
      by_cases e1:x=tl/\i=ix (q:Int) lv
      ·obtain⟨rfl,rfl⟩:=e1
       exact⟨_,yiw _ _,C.word⟩
      ·refine⟨i,hi,?_⟩
       have:=(kC x (J _ hx)).2 i hi (by
        by_cases e2:x=tl
        ·exact .inr fun e3=>e1 ⟨e2,e3⟩
        ·exact .inl e2)
       rw[this];exact Ho
     rcases Z.1 hx with hx|hx
     ·rcases Z.1 hx with hx|hx
      ·exact old (I _ hx)
      ·rw[yS]at hx
       obtain⟨k,hk,rfl⟩:=hx;exact C.full k hk
     ·exact old (N _ hx)
    ·intro s hs hl
     have rF:=F.spot.all;simp only at rF;rw[F.one]at rF;rw[rF]at hs;rw[tQ];rcases Z.1 hs with hs|hs
     ·rcases Z.1 hs with hs|hs
      ·exact I _ (I _ hs)
      ·simp at hs
       subst hs;rcases hl with hl|hl
       ·have hl':(rEn S tl (ix (q:Int) lv) lv).l=Y:=by rw[<-F.way.en];exact hl
        have:=(yh6 h.ok hl').2.1;rw[<-F.way.en,ht]at this;cases this
       ·simp[En.on,ht]at hl
     ·exact N _ hs
 ·have e1:insC S 0 m=m.code:=by rw[insC,iP hm]
  have e2:addC L m=m.code:=by rw[addC,iP hm]
  have Un:m.code≠6:=by
   unfold Mp.code check;split
   ·decide
   ·split
    ·decide
    ·split<;>decide
  have Br:m.code≠0:=hm;refine .inr ⟨by rw[e1];exact Un,by rw[e1,e2],?_⟩;rw[insS,addL,e1,e2,iN Br,iN Br];exact⟨h,fun s hs _=>hs⟩
end Pg
namespace Pg
theorem ylw (S:Fs) (p:Int) (lv:Nat) (t:Int) (a:Nat) {s:Sp} (h:(thr S (onW p) lv t a).1[0]?=some s):s.table=t:=by
 rw[yid]at h;split at h
 ·simp at h
 ·split at h
  ·simp at h
   subst h;rfl
  ·simp at h
   subst h;rfl
theorem ymc (S:Fs) (p:Int):∀(lv:Nat) (t:Int) (a i:Nat) (s:Sp),(thr S (onW p) lv t a).1[i]?=some s->s.level+i=lv/\(∀s',(thr S (onW p) lv t a).1[i+1]?=some s'->s.e.on=Y/\s.e.f=s'.table):=by
 intro lv
 induction lv with
 | zero=>
   intro t a i s hs;rw[yid]at hs ⊢;split at hs
   ·simp at hs
   ·rename_i h1
    rw[iN h1];split at hs
    ·rename_i h2
     rw[iP h2]
     cases i with
     | zero=>
       simp at hs;subst hs;exact⟨rfl,fun s' h'=>by simp at h'⟩
     | succ i=>simp at hs
    ·rename_i h2
     obtain⟨m,hm⟩:=yib (S:=S) (t:=t) (i:=ix p 0) (lv:=0) (by simpa using h2);omega
 | succ lv ih=>
   intro t a i s hs;rw[yid]at hs ⊢;split at hs
   ·simp at hs
   ·rename_i h1
    rw[iN h1];split at hs
    ·rename_i h2
     rw[iP h2]
     cases i with
     | zero=>
       simp at hs;subst hs;exact⟨rfl,fun s' h'=>by simp at h'⟩
     | succ i=>simp at hs
    ·rename_i h2
     rw[iN h2]
     have h2:(rEn S t (ix p (lv+1)) (lv+1)).on=Y:=by simpa using h2
     simp only[sub]at hs ⊢
     cases i with
     | zero=>
       simp at hs;subst hs;refine⟨rfl,fun s' h'=>⟨h2,?_⟩⟩;rw[yO]at h';exact(ylw S p lv _ _ h').symm
     | succ i=>
       rw[yO]at hs;obtain⟨j1,j2⟩:=ih _ _ i s hs;refine⟨by omega,fun s' h'=> ?_⟩;rw[yO]at h';exact j2 s' h'
def gives:List Int->Fs->Fs
 | [],S=>S
 | x::r,S=>gives r (S.give x)
theorem give_like {S:Fs} {x:Int} (h:S.Ok) (hx:S.has x=Y):(S.give x).word=S.word/\(S.give x).n=S.n/\(∀k,k ∈ (S.give x).used ↔ k ∈ S.used/\k≠x.toNat)/\(S.give x).free=S.free+1:=by
 have dZ:S.used.Nodup:=(w.1 h.nodup).1;unfold Fs.give;rw[iP hx];refine⟨rfl,rfl,fun k=> ?_,?_⟩
 ·show k ∈ S.used.erase x.toNat ↔ _
  rw[dZ.mem_erase_iff];exact And.comm
 ·unfold Fs.free
  simp only[yL,List.length_singleton];omega
theorem yiC:∀(G:List Int) (S:Fs),S.Ok->G.Nodup->(∀x,x ∈ G->S.has x=Y)->(gives G S).Ok/\(gives G S).word=S.word/\(gives G S).n=S.n/\(∀k:Nat,k ∈ (gives G S).used ↔ k ∈ S.used/\(k:Int) ∉ G)/\(gives G S).free=S.free+G.length
 | [],S,h,_,_=>⟨h,rfl,rfl,fun k=>by simp[gives],by simp[gives]⟩
 | x::r,S,h,dZ,hh=>by
   have hx:=hh x V;have mV:=yiv hx;obtain⟨g1,g2,g3,g4⟩:=give_like h hx;obtain⟨hxr,hr⟩:=ue.1 dZ
   have Sv:∀y,y ∈ r->(S.give x).has y=Y:=by
    intro y hy;have Dv:=hh y (J _ hy);have Ci:=yiv Dv;simp only[Fs.has,Fs.inn,yB,decide_eq_true_eq];refine⟨Ci,(g3 _).2 ⟨(h.yh4 Dv).2.2,fun e=> ?_⟩⟩
    have:y=x:=by omega
    exact hxr (this▸hy)
   obtain⟨i1,i2,i3,i4,i5⟩:=yiC r (S.give x) (h.give x) hr Sv;refine⟨i1,by show(gives r (S.give x)).word=_;rw[i2,g1],by show(gives r (S.give x)).n=_;rw[i3,g2],fun k=> ?_,?_⟩
   ·show k ∈ (gives r (S.give x)).used ↔ _
    rw[i4 k,g3 k,H];constructor
    ·rintro ⟨⟨a1,a2⟩,a3⟩
     exact⟨a1,fun e=>by rcases e with e|e;exact a2 (by omega);exact a3 e⟩
    ·rintro ⟨a1,a2⟩
     exact⟨⟨a1,fun e=>a2 (.inl (by omega))⟩,fun e=>a2 (.inr e)⟩
   ·show(gives r (S.give x)).free=_
    rw[i5,g4,yW];omega
structure Up (S S':Fs) (q:Nat) (ts:List Int) (k:Nat):Prop where
 ok:S'.Ok
 used:S'.used=S.used
 n:S'.n=S.n
 same:∀x:Int,S.has x=Y->∀i,(∀j,k<j->j<ts.length->¬(x=ts.getD j 0/\i=ix (q:Int) (3-j)))->S'.word x.toNat i=S.word x.toNat i
 free:S'.free=S.free
theorem Up.has {S S':Fs} {q:Nat} {ts:List Int} {k:Nat} (h:Up S S' q ts k) (x:Int):S'.has x=S.has x:=by
 unfold Fs.has Fs.inn;rw[h.used]
structure Removed (S:Fs) (L:List Mp) (x:Mp) (R:Fs×List Int) (A B:List Sp) (z:Sp) (T:List Int):Prop where
 list:L=zM A++[x]++zM B
 all:∃M,(Pg.thr S zW 3 0 0).1=A++M++B/\zM M=[x]
 tabs:zU (thr S zW 3 0 0).1=zU A++T++zU B
 gone:R.2=T.reverse
 ok:R.1.Ok
 used:R.1.used=S.used
 free:R.1.free=S.free
 n:R.1.n=S.n
 thr:thr R.1 zW 3 0 0=(A++[z]++B,0)
 zero:z.e=En.zero
 full:∀y,y ∈ zU A++zU B->yhS R.1 y=O
theorem getD_drop (l:List Int) (j k:Nat) (h:k<j) (h2:j<l.length):l.getD j 0 ∈ l.drop (k+1):=by
 have e:l.getD j 0=l[j]'h2:=by simp[List.getD,yY h2]
 rw[e];refine List.mem_iff_getElem?.2 ⟨j-(k+1),?_⟩;rw[List.getElem?_drop,show k+1+(j-(k+1))=j by omega,yY h2]
theorem ykC (l:List Int) (j:Nat) (h:j<l.length):l.drop j=l.getD j 0::l.drop (j+1):=by
 have e:l.getD j 0=l[j]'h:=by simp[List.getD,yY h]
 rw[e];exact List.drop_eq_getElem_cons h
theorem ymi {S:Fs} {L:List Mp} (h:Rep S L) {q:Nat} (hq:q<4096) (hz:xQ S 0 (q:Int)=0) (x:Mp):∀(k:Nat),k<(zg S 0 (q:Int)).length->∀(S':Fs) (G:List Int),Up S S' q (tabs (zg S 0 (q:Int))) k->
 (∀s,(zg S 0 (q:Int))[k]?=some s->zM (out S zW s.level (sub S zW s.level) s.table (s.ahead-s.place) s.place).1=[x]/\zU (out S zW s.level (sub S zW s.level) s.table (s.ahead-s.place) s.place).1=(tabs (zg S 0 (q:Int))).drop (k+1))->
 G=((tabs (zg S 0 (q:Int))).drop (k+1)).reverse->∃A B z T,Removed S L x (rmW (q:Int) (tabs (zg S 0 (q:Int))) (k+1) S' G) A B z T:=by
 have hp:below (q:Int) 4096=Y:=zB.2 ⟨by omega,by omega⟩
 have hd:q/8^3<8:=by
  rw[show(8:Nat)^3=512 by decide];omega
 have Ce:(thr S (onW (q:Int)) 3 0 0).2=0:=by
  unfold xQ at hz;rw[iP hp]at hz;exact hz
 have eX:zg S 0 (q:Int)=(thr S (onW (q:Int)) 3 0 0).1:=by unfold zg;rw[iP ⟨hp,Ce⟩]
 obtain⟨lv0,e0,tl0,kW⟩:=ykQ hz;have aQ:=yje 3 0 0 h.code
 have step:∀(k:Nat),k<(zg S 0 (q:Int)).length->∀(S':Fs) (G:List Int),Up S S' q (tabs (zg S 0 (q:Int))) k->
  (∀s,(zg S 0 (q:Int))[k]?=some s->zM (out S zW s.level (sub S zW s.level) s.table (s.ahead-s.place) s.place).1=[x]/\zU (out S zW s.level (sub S zW s.level) s.table (s.ahead-s.place) s.place).1=(tabs (zg S 0 (q:Int))).drop (k+1))->
  G=((tabs (zg S 0 (q:Int))).drop (k+1)).reverse->
  (∀k',k=k'+1->∀(S1:Fs) (G1:List Int),Up S S1 q (tabs (zg S 0 (q:Int))) k'->
    (∀s,(zg S 0 (q:Int))[k']?=some s->zM (out S zW s.level (sub S zW s.level) s.table (s.ahead-s.place) s.place).1=[x]/\zU (out S zW s.level (sub S zW s.level) s.table (s.ahead-s.place) s.place).1=(tabs (zg S 0 (q:Int))).drop (k'+1))->
    G1=((tabs (zg S 0 (q:Int))).drop (k'+1)).reverse->∃A B z T,Removed S L x (rmW (q:Int) (tabs (zg S 0 (q:Int))) (k'+1) S1 G1) A B z T)->
  ∃A B z T,Removed S L x (rmW (q:Int) (tabs (zg S 0 (q:Int))) (k+1) S' G) A B z T:=by
  intro k hk S' G U hs hG next;obtain⟨s,hsk⟩:∃s,(zg S 0 (q:Int))[k]?=some s:=⟨_,yY hk⟩;obtain⟨hm,ht⟩:=hs s hsk;have hsk':=hsk;rw[eX]at hsk';obtain⟨hlev,_⟩:=ymc S (q:Int) 3 0 0 k s hsk';obtain⟨A,B,sp⟩:=ylz h.ok q 3 (by omega) 0 0 (by omega) (by decide) (by omega) (by omega) h.code h.nodup s (yE hsk')
  have kU:(tabs (zg S 0 (q:Int))).getD k 0=s.table:=by
   unfold Go.Proofs.YtdphiompijbelaaGreat.tabs;rw[List.getD,List.getElem?_map,hsk];rfl
  have Hg:(tabs (zg S 0 (q:Int))).length=(zg S 0 (q:Int)).length:=xA _
  have aY:S.has s.table=Y:=kW.has _ (by
   unfold Go.Proofs.YtdphiompijbelaaGreat.tabs
   exact yS.2 ⟨s,yE hsk,rfl⟩)
  have dN:ix (q:Int) s.level<8:=yiw _ _
  have KM:index (q:Int) (3-(k:Int))=(ix (q:Int) s.level:Nat):=by
   rw[show(3-(k:Int))=(s.level:Int) by omega];exact yiF hq (by omega)
  have BV:S'.has s.table=Y:=by rw[U.has];exact aY
  have dF:=sp.place;have rF:=sp.all;have dZ:=h.nodup;rw[rF,yhK,yhK,ht]at dZ;obtain⟨bI,iY⟩:=ue.1 dZ;rw[w]at iY;obtain⟨lh,Bq,ul⟩:=iY;rw[w]at lh
  have inT:∀j,k<j->j<(zg S 0 (q:Int)).length->(tabs (zg S 0 (q:Int))).getD j 0 ∈ (tabs (zg S 0 (q:Int))).drop (k+1):=by
   intro j h1 h2
   have h3:j<(tabs (zg S 0 (q:Int))).length:=by omega
   exact getD_drop _ _ _ h1 h3
  have oF:∀y,y ∈ (0:Int)::(zU A++zU B)->y ∉ (tabs (zg S 0 (q:Int))).drop (k+1):=by
   intro y hy aD;rcases H.1 hy with rfl|hy
   ·exact bI (I _ (N _ aD))
   ·rcases Z.1 hy with hy|hy
    ·exact lh.2.2 y hy y aD rfl
    ·exact ul y (N _ aD) y hy rfl
  have sM:s.table ∉ (tabs (zg S 0 (q:Int))).drop (k+1):=oF _ (by
   rcases H.1 sp.memA with e|e
   ·rw[e];exact V
   ·exact J _ (I _ e))
  have Cq:∀y,y ∈ (0:Int)::(zU A++zU B)->S.has y=Y:=by
   intro y hy;refine aQ y ?_;rw[rF,yhK,yhK];rcases H.1 hy with rfl|hy
   ·exact V
   ·refine J _ ?_
    rcases Z.1 hy with hy|hy
    ·exact I _ (I _ hy)
    ·exact N _ hy
  generalize Rh:S'.store s.table ((ix (q:Int) s.level:Nat):Int) 0=S1
  have ok1:S1.Ok:=by rw[<-Rh];exact U.ok.store _ _ (by decide) (by decide)
  obtain⟨n1,n2,n3,n4⟩:=yix S' s.table ((ix (q:Int) s.level:Nat):Int) 0;rw[Rh]at n1 n2 n3 n4
  have si:S1.free=S'.free:=by rw[<-Rh];exact yjE _ _ _ _
  have w0:S1.word s.table.toNat (ix (q:Int) s.level)=0:=by rw[<-Rh];exact yiP BV dN 0
  have h0s:=yiv aY
  have wo:∀y:Int,0<=y->∀i,(y≠s.table\/i≠ix (q:Int) s.level)->S1.word y.toNat i=S'.word y.toNat i:=by
   intro y hy i Ho;rw[<-Rh,yjd BV dN]
   show Fs.put S'.word s.table.toNat (ix (q:Int) s.level) 0 y.toNat i=_
   unfold Fs.put;rw[iN];rintro ⟨e1,e2⟩;rcases Ho with h'|h'
   ·exact h' (by omega)
   ·exact h' e2
  have Gs:∀y,S1.has y=S.has y:=by
   intro y;unfold Fs.has Fs.inn;rw[n2,U.used]
  have wS:∀y,S.has y=Y->y ∉ (tabs (zg S 0 (q:Int))).drop (k+1)->∀i,(y≠s.table\/i≠ix (q:Int) s.level)->S1.word y.toNat i=S.word y.toNat i:=by
   intro y hy aD i Ho;rw[wo y (yiv hy) i Ho];refine U.same y hy i fun j h1 h2=> ?_;rintro ⟨e1,_⟩;exact aD (e1▸inT j h1 (by omega))
  have kC:But1 S S1 ((0:Int)::(zU A++zU B)) s.table s.place:=by
   intro y hy;refine⟨Gs y,fun i _ Ho=>wS y (Cq y hy) (oF y hy) i (by rw[<-dF];exact Ho)⟩
  have sO:=yi2 (S:=S1) (lv:=s.level) (by rw[Gs];exact aY) (by omega) w0;have sQ:=sp.le;have uX:=sp.ahead
  have Ab:out S1 zW s.level (sub S1 zW s.level) s.table (s.ahead-s.place) s.place=([⟨s.table,ix (q:Int) s.level,s.level,q/8^s.level,En.zero⟩],0):=by
   rw[uX,dF];rw[uX,dF]at sQ;exact ykZ sQ sO.2.symm sO.1 rfl
  have tQ:=sp.turn S1 kC (by rw[Ab]);rw[Ab]at tQ
  have Bb:L=zM A++[x]++zM B:=by rw[<-h.maps,rF,yhP,yhP,hm]
  have uG:zU (thr S zW 3 0 0).1=zU A++(tabs (zg S 0 (q:Int))).drop (k+1)++zU B:=by rw[rF,yhK,yhK,ht]
  have Na:rmW (q:Int) (tabs (zg S 0 (q:Int))) (k+1) S' G=if k=0\/yhS S1 s.table=O then(S1,G)else rmW (q:Int) (tabs (zg S 0 (q:Int))) k S1 (G++[s.table]):=by
   show(if k=0\/yhS (S'.store ((tabs (zg S 0 (q:Int))).getD k 0) (index (q:Int) (3-(k:Int))) 0) ((tabs (zg S 0 (q:Int))).getD k 0)=O then _ else _)=_
   rw[kU,KM,Rh]
  rw[Na]
  by_cases uF:k=0\/yhS S1 s.table=O
  ·rw[iP uF]
   refine⟨A,B,⟨s.table,ix (q:Int) s.level,s.level,q/8^s.level,En.zero⟩,(tabs (zg S 0 (q:Int))).drop (k+1),⟨Bb,⟨_,rF,hm⟩,uG,hG,ok1,by rw[n2,U.used],by rw[si,U.free],by rw[n1,U.n],tQ,rfl,fun y hy=> ?_⟩⟩
   by_cases e:y=s.table
   ·rcases uF with h0|h0
    ·exfalso
     subst h0;have:s.table=0:=ylw S (q:Int) 3 0 0 hsk';rw[e,this]at hy;refine bI ?_;rcases Z.1 hy with hy|hy
     ·exact I _ (I _ hy)
     ·exact N _ hy
    ·rw[e];exact h0
   ·have Cj:y ∈ (0:Int)::(zU A++zU B):=J _ hy
    obtain⟨i,hi,Ho⟩:=yig.1 (h.full y (by
     rw[uG];rcases Z.1 hy with hy|hy
     ·exact I _ (I _ hy)
     ·exact N _ hy))
    rw[yig];exact⟨i,hi,by rw[wS y (Cq y Cj) (oF y Cj) i (.inl e)];exact Ho⟩
  ·rw[iN uF]
   obtain⟨k',rfl⟩:∃k',k=k'+1:=⟨k-1,by omega⟩
   have KF:∀i,i<8->S1.word s.table.toNat i=0:=by
    intro i hi;cases hw:S1.word s.table.toNat i==0
    ·exact absurd (.inr (yig.2 ⟨i,hi,by simpa using hw⟩)) uF
    ·simpa using hw
   refine next k' rfl S1 (G++[s.table]) ⟨ok1,by rw[n2,U.used],by rw[n1,U.n],?_,by rw[si,U.free]⟩ ?_ ?_
   ·intro y hy i Ho
    have h1:=Ho (k'+1) (by omega) (by omega);rw[kU,show 3-(k'+1)=s.level by omega]at h1
    rw[wo y (yiv hy) i (by
     by_cases e:y=s.table
     ·exact .inr fun e2=>h1 ⟨e,e2⟩
     ·exact .inl e)]
    exact U.same y hy i fun j h2 h3=>Ho j (by omega) h3
   ·intro s' nK
    have hs'':=nK;rw[eX]at hs'';obtain⟨IR,tO⟩:=ymc S (q:Int) 3 0 0 k' s' hs'';obtain⟨pW,PT⟩:=tO s hsk';obtain⟨A',B',sp'⟩:=ylz h.ok q 3 (by omega) 0 0 (by omega) (by decide) (by omega) (by omega) h.code h.nodup s' (yE hs'');obtain⟨lM,pu⟩:=yia sp'.code;rw[<-sp'.en]at pu
    have Rx:s'.level=s.level+1:=by omega
    rcases pu with ⟨Bn,_⟩|⟨_,MX,pu⟩
    ·rw[Bn]at pW;cases pW
    ·have hl':s'.e.l=O:=by
      have:=pW;simp[En.on]at this;exact this.2
     have UD:spt S s'.table s'.place s'.level (s'.ahead-s'.place)=s':=by
      have h1:=sp'.en;have h2:=sp'.le;obtain⟨a1,a2,a3,a4,a5⟩:=s';simp only at h1 h2 ⊢;unfold spt;rw[<-h1,D h2]
     rw[UD]at pu
     have TH:sub S zW s'.level=thr S zW s.level:=by rw[Rx];rfl
     rw[TH,D sp'.le,PT,sp'.ahead,Rx,<-(ykV q s.level).2]at pu MX
     have uA:(out S zW s'.level (sub S zW s'.level) s'.table (s'.ahead-s'.place) s'.place).1=s'::(thr S zW s.level s.table (q/8^s.level-ix (q:Int) s.level)).1:=by
      have e1:s'.ahead-s'.place=q/8^(s.level+1)-s'.place:=by rw[sp'.ahead,Rx]
      rw[TH,e1,Rx];exact pu
     have ah:=yh7 MX
     have uJ:∀j,j<8->j≠ix (q:Int) s.level->out S zW s.level (sub S zW s.level) s.table (q/8^s.level-ix (q:Int) s.level) j=([spt S s.table j s.level (q/8^s.level-ix (q:Int) s.level)],0)/\(spt S s.table j s.level (q/8^s.level-ix (q:Int) s.level)).e=En.zero:=by
      intro j hj Ho
      have hw:S.word s.table.toNat j=0:=by rw[<-wS s.table aY sM j (.inr Ho)];exact KF j hj
      obtain⟨r1,r2⟩:=yi2 (lv:=s.level) aY (by omega) hw;refine⟨?_,r2⟩;unfold out;rw[iN (by simp[zW]),iN (by simpa using r1),iP (by rw[r2];rfl)]
     have rA:out S zW s.level (sub S zW s.level) s.table (s.ahead-s.place) s.place=out S zW s.level (sub S zW s.level) s.table (q/8^s.level-ix (q:Int) s.level) (ix (q:Int) s.level):=by rw[uX,dF]
     rw[rA]at hm ht;constructor
     ·rw[uA]
      have e1:zM (s'::(thr S zW s.level s.table (q/8^s.level-ix (q:Int) s.level)).1)=zM (thr S zW s.level s.table (q/8^s.level-ix (q:Int) s.level)).1:=by simp[zM,hl']
      rw[e1,ah.2]
      have e2:zM ((List.range 8).flatMap fun j=>(out S zW s.level (sub S zW s.level) s.table (q/8^s.level-ix (q:Int) s.level) j).1)=(yI 0 8).flatMap fun j=>zM (out S zW s.level (sub S zW s.level) s.table (q/8^s.level-ix (q:Int) s.level) j).1:=by
       simp only[zM,ki,yN]
      rw[e2,flatMap_one _ (ix (q:Int) s.level) 8 0 (fun j _ h2 h3=>by rw[(uJ j (by omega) h3).1];simp[zM,(uJ j (by omega) h3).2,En.zero]),iP (by omega),hm]
     ·rw[uA,yiq pW,PT,ah.2]
      have e2:zU ((List.range 8).flatMap fun j=>(out S zW s.level (sub S zW s.level) s.table (q/8^s.level-ix (q:Int) s.level) j).1)=(yI 0 8).flatMap fun j=>zU (out S zW s.level (sub S zW s.level) s.table (q/8^s.level-ix (q:Int) s.level) j).1:=by
       simp only[zU,ki,yN]
      rw[e2,flatMap_one _ (ix (q:Int) s.level) 8 0 (fun j _ h2 h3=>by rw[(uJ j (by omega) h3).1];simp[zU,(uJ j (by omega) h3).2,En.zero,En.on]),iP (by omega),ht]
      have h3:k'+1<(tabs (zg S 0 (q:Int))).length:=by omega
      rw[ykC _ _ h3,kU]
   ·have h3:k'+1<(tabs (zg S 0 (q:Int))).length:=by omega
    rw[ykC _ _ h3,List.reverse_cons,<-hG,kU]
 intro k
 induction k with
 | zero=>exact fun hk S' G U hs hG=>step 0 hk S' G U hs hG (fun k' e=>by omega)
 | succ k ih=>
   intro hk S' G U hs hG;refine step (k+1) hk S' G U hs hG fun k' e=> ?_
   have:k'=k:=by omega
   subst this;exact ih (by omega)
end Pg
namespace Pg
theorem ylU {S:Fs} (h:S.Ok) (q:Nat) (ts:List Int) (k:Nat):Up S S q ts k:=⟨h,rfl,rfl,fun _ _ _ _=>rfl,rfl⟩
theorem ylD {A B:List Mp} {x:Mp} {q:Int} (hL:Good (A++[x]++B)) (hx:x.has q=Y):fnd (A++[x]++B) q=some A.length:=by
 have hp:=hL.up;rw[kO,List.pairwise_append]at hp
 have hA:∀m,m ∈ A->m.has q=O:=by
  intro m hm;have h1:=hp.2.2 m hm x (by simp);cases hh:m.has q
  ·rfl
  ·obtain⟨h1,h2⟩:=h1
   simp[Mp.meets,meet,over]at h2;simp[Mp.has,over]at hh hx;omega
 unfold fnd;rw[kO,yq]
 have:A.findIdx? (fun m=>m.has q)=none:=by
  rw[yU];exact hA
 rw[this];simp[hx,yu]
theorem erase_mid (A B:List Mp) (x:Mp):(A++[x]++B).eraseIdx A.length=A++B:=by
 rw[kO,List.eraseIdx_append_of_length_le (yi _)];simp
theorem yjZ {S:Fs} {L:List Mp} (h:Rep S L) {x:Mp} {R:Fs×List Int} {A B:List Sp} {z:Sp} {T:List Int} (r:Removed S L x R A B z T):
 R.2.Nodup/\(∀y,y ∈ R.2->R.1.has y=Y)/\Rep (gives R.2 R.1) (zM A++zM B)/\(gives R.2 R.1).free=S.free+R.2.length/\thr (gives R.2 R.1) zW 3 0 0=(A++[z]++B,0):=by
 have aQ:=yje 3 0 0 h.code;have dZ:=h.nodup;rw[r.tabs]at dZ aQ;obtain⟨bI,iY⟩:=ue.1 dZ;rw[w]at iY;obtain⟨lh,Bq,ul⟩:=iY;rw[w]at lh;obtain⟨Uk,Ul,GH⟩:=lh
 have Kr:∀y,R.1.has y=S.has y:=by
  intro y;unfold Fs.has Fs.inn;rw[r.used]
 have I6:R.2.Nodup:=by rw[r.gone];exact List.pairwise_reverse.2 (Ul.imp fun h=>h.symm)
 have IE:∀y,y ∈ R.2->R.1.has y=Y:=by
  intro y hy;rw[r.gone,yX]at hy;rw[Kr];exact aQ y (J _ (I _ (N _ hy)))
 have oF:∀y,y ∈ (0:Int)::(zU A++zU B)->y ∉ T:=by
  intro y hy aD;rcases H.1 hy with rfl|hy
  ·exact bI (I _ (N _ aD))
  ·rcases Z.1 hy with hy|hy
   ·exact GH y hy y aD rfl
   ·exact ul y (N _ aD) y hy rfl
 obtain⟨g1,g2,g3,g4,g5⟩:=yiC R.2 R.1 r.ok I6 IE
 have tJ:zU [z]=[]:=by simp[zU,r.zero,En.zero,En.on]
 have rX:zM [z]=[]:=by simp[zM,r.zero,En.zero]
 have dM:zU (thr R.1 zW 3 0 0).1=zU A++zU B:=by rw[r.thr,yhK,yhK,tJ,kh]
 have Db:thr (gives R.2 R.1) zW 3 0 0=thr R.1 zW 3 0 0:=by
  refine yj3 3 0 0 (by rw[r.thr]) fun y hy=> ?_;rw[dM]at hy;have aD:=oF y hy;refine⟨?_,fun i _=>by rw[g2]⟩;rw[Bool.eq_iff_iff];simp only[Fs.has,Fs.inn,yB,decide_eq_true_eq];constructor
  ·rintro ⟨a1,a2⟩
   exact⟨a1,((g4 _).1 a2).1⟩
  ·rintro ⟨a1,a2⟩
   refine⟨a1,(g4 _).2 ⟨a2,?_⟩⟩;rw[r.gone,yX,Int.toNat_of_nonneg a1];exact aD
 refine⟨I6,IE,⟨g1,by rw[Db,r.thr],?_,?_,?_,?_⟩,by rw[g5,r.free],by rw[Db,r.thr]⟩
 ·rw[Db,r.thr,yhP,yhP,rX,kh]
 ·rw[Db,dM]
  refine ue.2 ⟨fun h0=>bI ?_,w.2 ⟨Uk,Bq,fun a ha b hb=>ul a (I _ ha) b hb⟩⟩;rcases Z.1 h0 with h0|h0
  ·exact I _ (I _ h0)
  ·exact N _ h0
 ·intro k
  rw[Db,dM,g4 k,r.used,h.used k,r.tabs,r.gone,yX];constructor
  ·rintro ⟨a1,a2⟩
   rcases H.1 a1 with a1|a1
   ·rw[a1];exact V
   ·refine J _ ?_
    rcases Z.1 a1 with a1|a1
    ·rcases Z.1 a1 with a1|a1
     ·exact I _ a1
     ·exact absurd a1 a2
    ·exact N _ a1
  ·intro a1
   refine⟨?_,oF _ a1⟩;rcases H.1 a1 with a1|a1
   ·rw[a1];exact V
   ·refine J _ ?_
    rcases Z.1 a1 with a1|a1
    ·exact I _ (I _ a1)
    ·exact N _ a1
 ·intro y hy
  rw[Db,dM]at hy;have:=r.full y hy;rw[yig]at this ⊢;rw[g2];exact this
theorem yki {S:Fs} {L:List Mp} (h:Rep S L) (p:Int):(rmR S 0 p).1.Ok/\(rmR S 0 p).1.n=S.n/\(rmR S 0 p).1.used=S.used/\(rmR S 0 p).2.Nodup/\(∀y,y ∈ (rmR S 0 p).2->(rmR S 0 p).1.has y=Y)/\Rep (gives (rmR S 0 p).2 (rmR S 0 p).1) (yiL L p)/\(gives (rmR S 0 p).2 (rmR S 0 p).1).free=S.free+(rmR S 0 p).2.length/\
 ∀s,s ∈ (thr S zW 3 0 0).1->s.e.l=Y->(tFC S 0 p=0->s.mp≠tFM S 0 p)->s ∈ (thr (gives (rmR S 0 p).2 (rmR S 0 p).1) zW 3 0 0).1:=by
 by_cases hc:tFC S 0 p=0
 ·have hd:yij L p=0:=by rw[<-(yi3 h p).1];exact hc
  have hp:below p 4096=Y:=by
   cases hp:below p 4096
   ·simp[yij,hp]at hd
   ·rfl
  obtain⟨p0,p1⟩:=zB.1 hp;obtain⟨q,rfl⟩:=yF p0
  have hq:q<4096:=by omega
  obtain⟨hz,lv,e,tl,A,B,F⟩:=yiK h (q:=q) hq
  have ht:e.t=Y:=by
   cases ht:e.t
   ·rw[tFC,hz,iN (by decide),F.way.yhO,ht]at hc
    simp at hc
   ·rfl
  obtain⟨hl,Ub,oz,pF⟩:=yis h.ok hq F ht;have Hg:=F.way.len
  have e1:(zg S 0 (q:Int)).length=(zg S 0 (q:Int)).length-1+1:=by omega
  have gz:(tabs (zg S 0 (q:Int))).drop ((zg S 0 (q:Int)).length-1+1)=[]:=by
   rw[<-e1];exact List.drop_eq_nil_of_le (by rw[xA];omega)
  have hR:rmR S 0 (q:Int)=rmW (q:Int) (tabs (zg S 0 (q:Int))) ((zg S 0 (q:Int)).length-1+1) S []:=by
   rw[rmR,iP hc,<-e1]
  obtain⟨A',B',z,T,r⟩:=ymi h hq hz (e.map lv (q:Int)) ((zg S 0 (q:Int)).length-1) (by omega) S [] (ylU h.ok q _ _) (by
   intro s hs;rw[gz]
   have hgl:(zg S 0 (q:Int)).getLast?=some s:=by rw[List.getLast?_eq_getElem?];exact hs
   have lw:(s.level:Int)=lv:=by
    have:=F.way.yhQ;unfold Go.Proofs.YtdphiompijbelaaGreat.yhQ at this;rw[hgl]at this;exact this
   have sM:s.table=tl:=by
    have:=F.way.lastT;unfold Go.Proofs.YtdphiompijbelaaGreat.lastT at this;rw[hgl]at this;exact this
   have lw:s.level=lv:=by omega
   have Ce:(thr S (onW (q:Int)) 3 0 0).2=0:=by
    unfold xQ at hz;rw[iP hp]at hz;exact hz
   have eX:zg S 0 (q:Int)=(thr S (onW (q:Int)) 3 0 0).1:=by unfold zg;rw[iP ⟨hp,Ce⟩]
   rw[eX]at hgl
   have Mx:q/8^3<8:=by
    rw[show(8:Nat)^3=512 by decide];omega
   obtain⟨A1,B1,sp⟩:=ylz h.ok q 3 (by omega) 0 0 (by omega) (by decide) (by omega) (by omega) h.code h.nodup s (yn hgl);rw[sp.ahead,sp.place,sM,lw,F.one];have gI:=yj1 h.ok hq (ykV q lv).1 F.way.en hl;have Hu:=F.way.on;refine⟨?_,?_⟩
   ·rw[<-gI]
    simp[zM,hl]
   ·simp[zU,Hu]) (by rw[gz];rfl)
  rw[hR];obtain⟨r1,r2,r3,r4,r5⟩:=yjZ h r;refine⟨r.ok,r.n,r.used,r1,r2,?_,r4,?_⟩
  rotate_left
  ·intro s hs lw Ho
   have Ho:=Ho hc;rw[tFM,iP hc,F.way.yhO,F.way.yhQ]at Ho;obtain⟨M,hM,aP⟩:=r.all;rw[hM]at hs;rw[r5];rcases Z.1 hs with hs|hs
   ·rcases Z.1 hs with hs|hs
    ·exact I _ (I _ hs)
    ·have:s.mp ∈ zM M:=by
      simp only[zM,E];exact⟨s,hs,by rw[iP lw];exact V⟩
     rw[aP,yv]at this;exact absurd this Ho
   ·exact N _ hs
  have hg:=yil h;rw[r.list]at hg;have hf:=ylD hg pF
  have:yiL L (q:Int)=zM A'++zM B':=by
   unfold yiL;rw[iP hd];rw[r.list,hf];exact erase_mid _ _ _
  rw[this];exact r3
 ·have hd:yij L p≠0:=by rw[<-(yi3 h p).1];exact hc
  have e:rmR S 0 p=(S,[]):=by rw[rmR,iN hc]
  have e2:yiL L p=L:=by rw[yiL,iN hd]
  rw[e,e2];exact⟨h.ok,rfl,rfl,yA,fun y hy=>by simp at hy,h,by simp[gives],fun s hs _ _=>hs⟩
end Pg
namespace Pg
def kOf (X:List Sp):List (Nat×Nat):=X.flatMap fun s=>if s.e.on=Y then [(s.level,s.ahead)]else []
theorem kOf_len (X:List Sp):(kOf X).length=(zU X).length:=by
 induction X with
 | nil=>rfl
 | cons s X ih=>
   have e1:kOf (s::X)=(if s.e.on=Y then [(s.level,s.ahead)]else [])++kOf X:=by simp[kOf]
   have e2:zU (s::X)=(if s.e.on=Y then [s.e.f]else [])++zU X:=by simp[zU]
   rw[e1,e2,yL,yL,ih]
   split<;>rfl
def Wants (L:List Mp) (lv:Nat) (k:Nat×Nat):Prop:=∃m,m ∈ L/\m.s<(k.1:Int)/\k.1<=lv/\k.2=m.p.toNat/8^k.1
structure Kpt (lv a n:Nat) (K:List (Nat×Nat)) (L:List Mp):Prop where
 nodup:K.Nodup
 mem:∀k,k ∈ K ↔ Wants L lv k
 low:∀k,k ∈ K->k.1<=lv/\a<=k.2/8^(lv-k.1)/\k.2/8^(lv-k.1)<a+n
 size:∀m,m ∈ L->m.s<=(lv:Int)
theorem ok_size {m:Mp} (h:m.code=0):m.s=0\/m.s=1\/m.s=2:=by
 obtain⟨h0,_⟩:=yhT h;rcases yhX m.s with ⟨e,_⟩|⟨e,_⟩|⟨e,_⟩|⟨_,_,_,e⟩
 ·exact .inl e
 ·exact .inr (.inl e)
 ·exact .inr (.inr e)
 ·exact absurd e h0
theorem div_pow (x c b:Nat) (h:b<=c):x/8^(c+1-b)=x/8^(c-b)/8:=by
 rw[show c+1-b=c-b+1 by omega,W,uv]
section
variable {S:Fs}
theorem kpt (h:S.Ok):∀(lv:Nat),lv<4->∀(t:Int) (a:Nat),a+8<=8^(4-lv)->(thr S zW lv t a).2=0->(∀x,x ∈ zU (thr S zW lv t a).1->yhS S x=O)->
 Kpt lv a 8 (kOf (thr S zW lv t a).1) (zM (thr S zW lv t a).1):=by
 intro lv
 induction lv using yC with
 | _ lv IH=>
 intro rQ t a ha hz GN;obtain⟨c1,c2⟩:=yh7 hz;have sK:0<8^lv:=kp (by decide)
 have rF:(a+8)*8^lv<=4096:=by
  have h3:(a+8)*8^lv<=8^(4-lv)*8^lv:=Q _ ha;rw[<-yT,show 4-lv+lv=4 by omega]at h3
  have e:(8:Nat)^4=4096:=by decide
  omega
 have one:∀j,j<8->Kpt lv (a+j) 1 (kOf (out S zW lv (sub S zW lv) t a j).1) (zM (out S zW lv (sub S zW lv) t a j).1):=by
  intro j hj;obtain⟨hc,ho⟩:=yia (c1 j hj);have Ux:=fun m hm=>yiO h rQ hj ha (c1 j hj) (m:=m) hm;have Ku:(a+j+1)*8^lv<=(a+8)*8^lv:=Q _ (by omega)
  have hex:(a+j+1)*8^lv=(a+j)*8^lv+8^lv:=by rw[ud,uc]
  rcases ho with ⟨Hu,ho⟩|⟨Hu,hr,ho⟩
  ·rw[ho]
   have ek:kOf [spt S t j lv a]=[]:=by
    have:(spt S t j lv a).e.on=O:=Hu;simp[kOf,this]
   rw[ek]
   have sN:∀m,m ∈ zM [spt S t j lv a]->m.s=(lv:Int):=by
    intro m hm
    by_cases hl:(rEn S t j lv).l=Y
    ·have hl':(spt S t j lv a).e.l=Y:=hl
     simp[zM,hl']at hm;subst hm;have h2:=(yh6 h hl).2.2;rw[yi1 h2,yh5 h hl (by omega)]
    ·have hl':(spt S t j lv a).e.l=O:=yK.2 hl
     simp[zM,hl']at hm
   refine⟨yA,fun k=>⟨fun hk=>by simp at hk,?_⟩,fun k hk=>by simp at hk,fun m hm=>by rw[sN m hm];omega⟩;rintro ⟨m,hm,h1,h2,_⟩;have:=sN m hm;omega
  ·obtain⟨b,rfl⟩:=yib Hu
   rw[ho]at Ux ⊢;have pW:(spt S t j (b+1) a).e.on=Y:=Hu
   have hl':(spt S t j (b+1) a).e.l=O:=by
    simp[En.on]at pW;exact pW.2
   have tq:(thr S zW b (rEn S t j (b+1)).f ((a+j)*8)).2=0:=hr
   have pG:∀x,x ∈ (rEn S t j (b+1)).f::zU (thr S zW b (rEn S t j (b+1)).f ((a+j)*8)).1->yhS S x=O:=by
    intro x hx;refine GN x (yjf hj hz ?_);rw[ho,yiq pW];exact hx
   have Td:=IH b (by omega) (by omega) (rEn S t j (b+1)).f ((a+j)*8) (by
    rw[show 4-b=(4-(b+1))+1 by omega,W]
    omega) tq (fun x hx=>pG x (J _ hx))
   obtain⟨m0,mh⟩:=ylK b (rEn S t j (b+1)).f ((a+j)*8) tq (pG _ V) (fun x hx=>pG x (J _ hx))
   have ek:kOf (spt S t j (b+1) a::(sub S zW (b+1) (rEn S t j (b+1)).f ((a+j)*8)).1)=(b+1,a+j)::kOf (thr S zW b (rEn S t j (b+1)).f ((a+j)*8)).1:=by
    simp[kOf,Hu,sub,spt]
   have em:zM (spt S t j (b+1) a::(sub S zW (b+1) (rEn S t j (b+1)).f ((a+j)*8)).1)=zM (thr S zW b (rEn S t j (b+1)).f ((a+j)*8)).1:=by
    simp[zM,hl',sub]
   rw[em]at Ux;rw[ek,em]
   have Ac:∀m,m ∈ zM (thr S zW b (rEn S t j (b+1)).f ((a+j)*8)).1->m.p.toNat/8^(b+1)=a+j:=by
    intro m hm;obtain⟨g1,g2⟩:=Ux m hm;have hsb:=Td.size m hm
    have mH:=(ykH h b (by omega) (rEn S t j (b+1)).f ((a+j)*8) (by
     rw[show 4-b=(4-(b+1))+1 by omega,W]
     omega) tq).1 m hm
    have rG:=(yhT mH).1;have pJ:=(yh2 m.s).1;refine Nat.div_eq_of_lt_le ?_ ?_
    ·omega
    ·omega
   refine⟨ue.2 ⟨fun hk=> ?_,Td.nodup⟩,fun k=>⟨fun hk=> ?_,fun hk=> ?_⟩,fun k hk=> ?_,fun m hm=> ?_⟩
   ·have:=(Td.low _ hk).1
    simp only at this;omega
   ·rcases H.1 hk with rfl|hk
    ·have:=Td.size m0 mh
     exact⟨m0,mh,by simp only;omega,yi _,(Ac m0 mh).symm⟩
    ·obtain⟨m,k1,k2,k3,k4⟩:=(Td.mem k).1 hk
     exact⟨m,k1,k2,by omega,k4⟩
   ·obtain⟨m,k1,k2,k3,k4⟩:=hk
    by_cases e:k.1=b+1
    ·refine H.2 (.inl ?_)
     obtain⟨kl,kx⟩:=k;simp only at e k4;subst e;rw[k4,Ac m k1]
    ·exact J _ ((Td.mem k).2 ⟨m,k1,k2,by omega,k4⟩)
   ·rcases H.1 hk with rfl|hk
    ·refine⟨yi _,?_⟩
     simp only[Nat.sub_self,Nat.pow_zero,Nat.div_one];omega
    ·obtain⟨l1,l2,l3⟩:=Td.low k hk
     refine⟨by omega,?_⟩;rw[div_pow _ _ _ l1];omega
   ·have:=Td.size m hm
    omega
 rw[c2]
 have ekk:kOf ((List.range 8).flatMap fun j=>(out S zW lv (sub S zW lv) t a j).1)=(List.range 8).flatMap fun j=>kOf (out S zW lv (sub S zW lv) t a j).1:=by simp only[kOf,ki]
 have emm:zM ((List.range 8).flatMap fun j=>(out S zW lv (sub S zW lv) t a j).1)=(List.range 8).flatMap fun j=>zM (out S zW lv (sub S zW lv) t a j).1:=by simp only[zM,ki]
 rw[ekk,emm];refine⟨?_,fun k=>⟨fun hk=> ?_,fun hk=> ?_⟩,fun k hk=> ?_,fun m hm=> ?_⟩
 ·unfold List.Nodup
  rw[yj];refine⟨fun j hj=>(one j (by simpa using hj)).nodup,?_⟩;refine List.Pairwise.imp_of_mem ?_ (List.nodup_range (n:=8));intro i j hi hj Ho x hx y hy e;subst e;have h1:=(one i (by simpa using hi)).low x hx;have h2:=(one j (by simpa using hj)).low x hy;omega
 ·obtain⟨j,hj,hk⟩:=E.1 hk
  obtain⟨m,k1,k2⟩:=((one j (by simpa using hj)).mem k).1 hk;exact⟨m,E.2 ⟨j,hj,k1⟩,k2⟩
 ·obtain⟨m,k1,k2⟩:=hk
  obtain⟨j,hj,k1⟩:=E.1 k1;exact E.2 ⟨j,hj,((one j (by simpa using hj)).mem k).2 ⟨m,k1,k2⟩⟩
 ·obtain⟨j,hj,hk⟩:=E.1 hk
  have ut:j<8:=by simpa using hj
  have:=(one j ut).low k hk;omega
 ·obtain⟨j,hj,hm⟩:=E.1 hm
  exact(one j (by simpa using hj)).size m hm
end
def yjk (m:Mp):List Int:=(List.filter (fun l:Nat=>decide (m.s<(l:Int))) [3,2,1]).map fun l:Nat=>((m.p.toNat/8^l*4+l:Nat):Int)
def see:List Int->List Int->List Int
 | [],A=>A
 | k::r,A=>see r (if k ∈ A then A else A++[k])
def seen (L:List Mp):List Int:=see (L.flatMap yjk) []
def needed (L:List Mp):Int:=((seen L).length:Int)+1
theorem yku:∀(l A:List Int),A.Nodup->(see l A).Nodup/\∀k,k ∈ see l A ↔ k ∈ A\/k ∈ l
 | [],A,h=>⟨h,fun k=>by simp[see]⟩
 | x::r,A,h=>by
   by_cases hx:x ∈ A
   ·obtain⟨i1,i2⟩:=yku r A h
    have e:see (x::r) A=see r A:=by simp[see,hx]
    rw[e];refine⟨i1,fun k=> ?_⟩;rw[i2 k,H];constructor
    ·rintro (h'|h')
     ·exact .inl h'
     ·exact .inr (.inr h')
    ·rintro (h'|h'|h')
     ·exact .inl h'
     ·exact .inl (h'▸hx)
     ·exact .inr h'
   ·obtain⟨i1,i2⟩:=yku r (A++[x]) (w.2 ⟨h,by simp,fun a ha b hb e=>by simp at hb;subst hb;exact hx (e▸ha)⟩)
    have e:see (x::r) A=see r (A++[x]):=by simp[see,hx]
    rw[e];refine⟨i1,fun k=> ?_⟩;rw[i2 k,H,Z,yv,or_assoc]
theorem ykG:∀(A B:List Int),A.Nodup->(∀x,x ∈ A->x ∈ B)->A.length<=B.length
 | [],_,_,_=>Nat.zero_le _
 | x::r,B,h,hs=>by
   obtain⟨h1,h2⟩:=ue.1 h;have hx:=hs x V;have:=ykG r (B.erase x) h2 fun y hy=>(List.mem_erase_of_ne (fun(e:y=x)=>h1 (e▸hy))).2 (hs y (J _ hy));rw[List.length_erase_of_mem hx]at this;have:0<B.length:=List.length_pos_of_mem hx;rw[yW];omega
theorem rep_needed {S:Fs} {L:List Mp} (h:Rep S L):needed L=((zU (thr S zW 3 0 0).1).length:Int)+1:=by
 have K:=kpt h.ok 3 (by omega) 0 0 (by decide) h.code h.full;rw[h.maps]at K;have mH:=(yil h).ok
 have hM:∀k:Int,k ∈ L.flatMap yjk ↔ k ∈ (kOf (thr S zW 3 0 0).1).map fun k=>((k.2*4+k.1:Nat):Int):=by
  intro k;rw[E,yS];constructor
  ·rintro ⟨m,hm,hk⟩
   unfold yjk at hk;obtain⟨l,hl,rfl⟩:=yS.1 hk;obtain⟨dE,su⟩:=yp.1 hl;refine⟨(l,m.p.toNat/8^l),(K.mem _).2 ⟨m,hm,by simpa using su,?_,rfl⟩,rfl⟩;simp at dE;simp only;omega
  ·rintro ⟨⟨l,x⟩,hx,rfl⟩
   obtain⟨m,hm,k1,k2,k3⟩:=(K.mem _).1 hx;simp only at k1 k2 k3;have hs:=ok_size (mH m hm);refine⟨m,hm,?_⟩;unfold yjk;refine yS.2 ⟨l,yp.2 ⟨?_,by simpa using k1⟩,by simp only;rw[k3]⟩
   have:l=1\/l=2\/l=3:=by omega
   rcases this with rfl|rfl|rfl<;>simp
 have dZ:((kOf (thr S zW 3 0 0).1).map fun k=>((k.2*4+k.1:Nat):Int)).Nodup:=by
  unfold List.Nodup;rw[yG];refine List.Pairwise.imp_of_mem ?_ K.nodup;rintro ⟨l1,x1⟩ ⟨l2,x2⟩ h1 h2 Ho e;have b1:=(K.low _ h1).1;have b2:=(K.low _ h2).1;simp only at e b1 b2;refine Ho ?_
  have e1:l1=l2:=by omega
  have e2:x1=x2:=by omega
  rw[e1,e2]
 obtain⟨s1,s2⟩:=yku (L.flatMap yjk) [] yA;have a1:=ykG _ _ s1 fun x hx=>(hM x).1 (by simpa using (s2 x).1 hx);have a2:=ykG _ _ dZ fun x hx=>(s2 x).2 (.inr ((hM x).2 hx));rw[yg,kOf_len]at a1 a2;unfold needed seen;omega
end Pg
namespace Pg
theorem rep_free {S:Fs} {L:List Mp} (h:Rep S L):S.free=S.n-(((zU (thr S zW 3 0 0).1).length:Int)+1):=by
 have dZ:S.used.Nodup:=(w.1 h.ok.nodup).1
 have Ui:(S.used.map fun k:Nat=>(k:Int)).Nodup:=by
  rw[yP,yG];exact(yP.1 dZ).imp fun Ho e=>Ho (yM.1 e)
 have aQ:=yje 3 0 0 h.code
 have a1:=ykG _ _ Ui (fun x hx=>by
  obtain⟨k,hk,rfl⟩:=yS.1 hx
  exact(h.used k).1 hk)
 have a2:=ykG _ (S.used.map fun k:Nat=>(k:Int)) h.nodup (fun x hx=>by
  have hx':=h.ok.yh4 (aQ x hx)
  exact yS.2 ⟨x.toNat,hx'.2.2,by omega⟩)
 rw[yg,yW]at a1 a2;have hl:=h.ok.len;have ht:=h.ok.top;unfold Fs.free;omega
theorem rep_start {n:Nat} (h1:1<=n) (h2:n<=128):Rep (Fs.new n).take []:=by
 have ok:=(Fs.yll n h2).take
 have e:(Fs.new n).take=⟨n,1,[0],[],Fs.clear (fun _ _=>0) 0⟩:=by
  unfold Fs.take Fs.new;simp only[List.getLast?_nil];rw[iP (show 0<n by omega)]
 rw[e]at ok ⊢
 have hh:(⟨n,1,[0],[],Fs.clear (fun _ _=>0) 0⟩:Fs).has 0=Y:=by simp[Fs.has,Fs.inn]
 have hw:∀i,(⟨n,1,[0],[],Fs.clear (fun _ _=>0) 0⟩:Fs).word (0:Int).toNat i=0:=fun i=>by simp[Fs.clear]
 generalize hS:(⟨n,1,[0],[],Fs.clear (fun _ _=>0) 0⟩:Fs)=S at*
 have rA:∀j,out S zW 3 (sub S zW 3) 0 0 j=([spt S 0 j 3 0],0)/\(spt S 0 j 3 0).e=En.zero:=by
  intro j;obtain⟨r1,r2⟩:=yi2 (lv:=3) hh (by omega) (hw j);refine⟨?_,r2⟩;unfold out;rw[iN (by simp[zW]),iN (by simpa using r1),iP (by rw[r2];rfl)]
 have tQ:=yjL (S:=S) (lv:=3) (t:=0) (a:=0) (fun j _=>by rw[(rA j).1])
 have ht:zU (thr S zW 3 0 0).1=[]:=by
  rw[tQ];simp only[zU,ki];refine yy.2 fun j _=> ?_;rw[(rA j).1];simp[(rA j).2,En.zero,En.on]
 have hm:zM (thr S zW 3 0 0).1=[]:=by
  rw[tQ];simp only[zM,ki];refine yy.2 fun j _=> ?_;rw[(rA j).1];simp[(rA j).2,En.zero]
 refine⟨ok,by rw[tQ],hm,by rw[ht];simp,fun k=> ?_,fun x hx=>by rw[ht]at hx;simp at hx⟩;rw[ht,<-hS];simp
def ykw (S:Fs) (q:Int):Prop:=∃s,s ∈ (thr S zW 3 0 0).1/\s.e.l=Y/\s.mp.has q=Y/\s.e.u=Y/\s.e.d=Y
end Pg
end
end Go.Proofs.YtdphiompijbelaaGreat
