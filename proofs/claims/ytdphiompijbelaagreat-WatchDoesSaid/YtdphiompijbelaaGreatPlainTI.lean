import Derived.Test.YtdphiompijbelaaGreatTabCp
open Int renaming eq_ofNat_of_zero_le->yT,toNat_natCast->yV,ofNat_inj->yK
open Nat renaming mul_le_mul_right->Q,sub_add_cancel->D,pow_succ->W,pow_pos->kp,mul_comm->kh,div_mul_le_self->un,div_div_eq_div_mul->ur,add_mul->uv,one_mul->ud,mul_div_cancel->uc,mul_assoc->yI,strongRecOn->yS,pow_add->yY,lt_div_mul_add->yF,lt_or_gt_of_ne->yA,div_add_mod->yx,le_refl->yy,div_lt_iff_lt_mul->yi,lt_of_le_of_lt->yq
open Bool renaming true->Y,false->O,and_eq_true->yJ,eq_false_iff->yO
open List renaming mem_append_left->I,mem_cons_of_mem->J,mem_append_right->N,mem_cons_self->V,mem_append->Z,mem_flatMap->E,mem_cons->H,flatMap_cons->o,nodup_append->w,append_assoc->kO,flatMap_assoc->ki,append_nil->ks,nodup_cons->ua,range'->ue,nodup_iff_pairwise_ne->yB,mem_map->yP,mem_range'_1->yC,range_eq_range'->yR,getElem?_eq_getElem->yN,flatMap_nil->yQ,findIdx?_eq_none_iff->yZ,getElem?_cons_succ->yU,mem_reverse->yM,mem_of_getElem?->yX,flatMap_append->yE,nodup_nil->yD,length_append->yH,pairwise_map->yL,length_cons->yG,flatMap_eq_nil_iff->yW,pairwise_flatMap->yz,mem_of_getLast?->yj,findIdx?_append->yk,getLast?_cons->yn,findIdx?_cons->yr,mem_singleton->yt,any_eq_true->yu,mem_filter->yv,length_map->yo
namespace Go.Proofs.YtdphiompijbelaaGreat
open Go.RowKit
namespace Pg
theorem yiG {S:Fs} {t:Int} {i lv a:Nat} (h2:lv<=2):(spt S t i lv a).mp=(rEn S t i lv).map lv (((a+i)*8^lv:Nat):Int):=by
 have e:(((a+i)*8^lv:Nat):Int)=((a+i:Nat):Int)*span (lv:Int):=by
  have:lv=0\/lv=1\/lv=2:=by omega
  rcases this with rfl|rfl|rfl<;>simp[span]
 rw[e];rfl
theorem yih {lv:Nat} (h:lv<=2):span (lv:Int)=((8^lv:Nat):Int):=by
 have:lv=0\/lv=1\/lv=2:=by omega
 rcases this with rfl|rfl|rfl<;>simp[span]
theorem yhM {S:Fs} (h:S.Ok) {t:Int} {i lv:Nat} (hl:(rEn S t i lv).l=Y) {q:Nat} (hq:q<4096):
 (rEn S t i lv).map lv (q:Int)=⟨((q/8^lv*8^lv:Nat):Int),(lv:Int),(rEn S t i lv).f,(rEn S t i lv).r⟩:=by
 obtain⟨hc,_,h2⟩:=yhN h hl;have hf:yht (rEn S t i lv).t (rEn S t i lv).l (rEn S t i lv).r (rEn S t i lv).u (rEn S t i lv).d (rEn S t i lv).f (lv:Int)=0:=yhW h hc
 have dF:lOk (rEn S t i lv).t (rEn S t i lv).l (rEn S t i lv).r (rEn S t i lv).u (rEn S t i lv).d (rEn S t i lv).f (lv:Int) (q:Int)=Y:=by
  have hb:below (q:Int) 4096=Y:=zB.2 ⟨by omega,by omega⟩;unfold lOk;rw[hf,hb,hl];rfl
 have e:(q:Int)-(q:Int)%span (lv:Int)=((q/8^lv*8^lv:Nat):Int):=by
  rw[yih h2];have h1:=yx q (8^lv);rw[kh]at h1;omega
 unfold En.map yj1 ykv yjw yiA;rw[dF];simp only[if_true];rw[e]
theorem yhQ {S:Fs} {lv:Nat} {rec:Int->Nat->List Sp×Int} {t:Int} {a i:Nat} (hz:(out S zW lv rec t a i).2=0):
 yhx S t i lv=0/\(((rEn S t i lv).on=O/\out S zW lv rec t a i=([spt S t i lv a],0))\/((rEn S t i lv).on=Y/\(rec (rEn S t i lv).f ((a+i)*8)).2=0/\(out S zW lv rec t a i).1=spt S t i lv a::(rec (rEn S t i lv).f ((a+i)*8)).1)):=by
 unfold out at hz ⊢;rw[if_neg (by simp[zW])]at hz ⊢;split at hz
 ·rename_i h1
  exact absurd hz h1
 ·rename_i h1
  have h1:yhx S t i lv=0:=by simpa using h1
  refine⟨h1,?_⟩;rw[if_neg (by simpa using h1)];split at hz
  ·rename_i h2
   exact .inl ⟨h2,by rw[if_pos h2]⟩
  ·rename_i h2
   exact .inr ⟨by simpa using h2,hz,by rw[if_neg h2]⟩
section
variable {S:Fs}
theorem yjQ (h:S.Ok):∀(lv:Nat),lv<4->∀(t:Int) (a:Nat),a+8<=8^(4-lv)->(thr S zW lv t a).2=0->∀m,m ∈ zM (thr S zW lv t a).1->((a*8^lv:Nat):Int)<=m.p/\m.p+span m.s<=(((a+8)*8^lv:Nat):Int):=by
 intro lv
 induction lv using yS with
 | _ lv IH=>
 intro rP t a ha hz m hm;rw[yiy]at hz hm;obtain⟨h1,h2⟩:=yi7 8 0 hz;rw[h2]at hm;simp only[zM,E]at hm;obtain⟨s,⟨i,hi,hs⟩,gL⟩:=hm
 have hi8:i<8:=by have:=(yC.1 hi).2;omega
 have sK:0<8^lv:=kp (by decide);have fe:(a+i+1)*8^lv<=(a+8)*8^lv:=Q _ (by omega);have hge:a*8^lv<=(a+i)*8^lv:=Q _ (by omega)
 have ru:(a+8)*8^lv<=4096:=by
  have h3:(a+8)*8^lv<=8^(4-lv)*8^lv:=Q _ ha;rw[<-yY,show 4-lv+lv=4 by omega]at h3
  have e:(8:Nat)^4=4096:=by decide
  omega
 have hex:(a+i+1)*8^lv=(a+i)*8^lv+8^lv:=by rw[uv,ud]
 obtain⟨hc,ho⟩:=yhQ (h1 i (by omega) (by omega))
 have leaf:s=spt S t i lv a->((a*8^lv:Nat):Int)<=m.p/\m.p+span m.s<=(((a+8)*8^lv:Nat):Int):=by
  intro e;subst e
  by_cases hl:(rEn S t i lv).l=Y
  ·have hl':(spt S t i lv a).e.l=Y:=hl
   rw[if_pos hl']at gL;simp at gL;subst gL;have h2:=(yhN h hl).2.2;rw[yiG h2,yhM h hl (by omega),uc _ sK];simp only;rw[yih h2];omega
  ·have hl':¬(spt S t i lv a).e.l=Y:=hl
   rw[if_neg hl']at gL;simp at gL
 rcases ho with ⟨_,ho⟩|⟨Hw,hr,ho⟩
 ·rw[ho]at hs
  simp at hs;exact leaf hs
 ·rw[ho]at hs
  simp at hs;rcases hs with hs|hs
  ·exact leaf hs
  ·obtain⟨k,rfl⟩:=yhR Hw
   have tF:(thr S zW k (rEn S t i (k+1)).f ((a+i)*8)).2=0:=hr;have pR:s ∈ (thr S zW k (rEn S t i (k+1)).f ((a+i)*8)).1:=hs
   have:=IH k (by omega) (by omega) (rEn S t i (k+1)).f ((a+i)*8) (by
    rw[show 4-k=(4-(k+1))+1 by omega,W]
    omega) tF m (by simp only[zM,E];exact⟨s,pR,gL⟩)
   have e1:(a+i)*8*8^k=(a+i)*8^(k+1):=by rw[W,yI,kh 8]
   have e2:((a+i)*8+8)*8^k=(a+i+1)*8^(k+1):=by rw[show(a+i)*8+8=(a+i+1)*8 by omega,W,yI,kh 8]
   rw[e1,e2]at this;omega
end
theorem flatMap_one {α:Type} (f:Nat->List α) (k:Nat):∀(n s:Nat),(∀j,s<=j->j<s+n->j≠k->f j=[])->(ue s n).flatMap f=if s<=k/\k<s+n then f k else []
 | 0,s,_=>by rw[if_neg (by omega)];rfl
 | n+1,s,hf=>by
   rw[List.range'_succ,o,flatMap_one f k n (s+1) (fun j h1 h2 h3=>hf j (by omega) (by omega) h3)]
   by_cases e:s=k
   ·subst e
    have e1:¬(s+1<=s/\s<s+1+n):=by omega
    have e2:s<=s/\s<s+(n+1):=by omega
    rw[if_neg e1,if_pos e2,ks]
   ·rw[hf s (by omega) (by omega) e,List.nil_append]
    by_cases hk:s+1<=k/\k<s+1+n
    ·rw[if_pos hk,if_pos (by omega)]
    ·rw[if_neg hk,if_neg (by omega)]
section
variable {S:Fs}
theorem ykB (h:S.Ok) (q:Nat):∀(lv:Nat),lv<4->∀(t:Int) (a:Nat),a%8=0->a+8<=8^(4-lv)->a<=q/8^lv->q/8^lv<a+8->(thr S zW lv t a).2=0->
 (thr S (onW (q:Int)) lv t a).2=0/\(∀s,s ∈ (thr S (onW (q:Int)) lv t a).1->s.table ∈ t::zU (thr S zW lv t a).1)/\
   ∃s,(thr S (onW (q:Int)) lv t a).1.getLast?=some s/\(zM (thr S zW lv t a).1).filter (fun m=>m.has (q:Int))=if s.e.t=Y then [s.e.map s.level (q:Int)]else []:=by
 intro lv
 induction lv using yS with
 | _ lv IH=>
 intro rP t a Ar ha h1 h2 hz;have Sn:=hz;rw[yiy]at hz;obtain⟨c1,c2⟩:=yi7 8 0 hz;have sK:0<8^lv:=kp (by decide)
 have dI:ix (q:Int) lv=q/8^lv%8:=by
  unfold ix
  have e:(q:Int)/8^lv%8=((q/8^lv%8:Nat):Int):=by simp
  rw[e];exact yV _
 obtain⟨k,hk⟩:∃k,q/8^lv=a+k:=⟨q/8^lv-a,by omega⟩
 have kT:k<8:=by omega
 have wF:ix (q:Int) lv=k:=by rw[dI];omega
 have Ci:(a+k)*8^lv<=q:=by rw[<-hk];exact un q _
 have OZ:q<(a+k+1)*8^lv:=by
  rw[<-hk,uv,ud];have:=yF (a:=q) sK;omega
 have ru:(a+8)*8^lv<=4096:=by
  have h3:(a+8)*8^lv<=8^(4-lv)*8^lv:=Q _ ha;rw[<-yY,show 4-lv+lv=4 by omega]at h3
  have e:(8:Nat)^4=4096:=by decide
  omega
 have O0:q<4096:=by
  have:(a+k+1)*8^lv<=(a+8)*8^lv:=Q _ (by omega);omega
 have other:∀j,j<8->j≠k->(zM (out S zW lv (sub S zW lv) t a j).1).filter (fun m=>m.has (q:Int))=[]:=by
  intro j hj Ho;rw[List.filter_eq_nil_iff];intro m hm;simp only[Mp.has,over,yJ,decide_eq_true_eq,not_and];intro fe
  have rng:(((a+j)*8^lv:Nat):Int)<=m.p/\m.p+span m.s<=(((a+j+1)*8^lv:Nat):Int):=by
   obtain⟨hc,ho⟩:=yhQ (c1 j (by omega) (by omega));have Nz:(a+j+1)*8^lv<=(a+8)*8^lv:=Q _ (by omega)
   have hex:(a+j+1)*8^lv=(a+j)*8^lv+8^lv:=by rw[uv,ud]
   have leaf:∀hl:(rEn S t j lv).l=Y,m=(spt S t j lv a).mp->(((a+j)*8^lv:Nat):Int)<=m.p/\m.p+span m.s<=(((a+j+1)*8^lv:Nat):Int):=by
    intro hl e;subst e;have h2:=(yhN h hl).2.2;rw[yiG h2,yhM h hl (by omega),uc _ sK];simp only;rw[yih h2];omega
   rcases ho with ⟨Hw,ho⟩|⟨Hw,hr,ho⟩
   ·rw[ho]at hm
    by_cases hl:(rEn S t j lv).l=Y
    ·have hl':(spt S t j lv a).e.l=Y:=hl
     simp[zM,hl']at hm;exact leaf hl hm
    ·have hl':(spt S t j lv a).e.l=O:=yO.2 hl
     simp[zM,hl']at hm
   ·rw[ho]at hm
    have hl':(spt S t j lv a).e.l=O:=by
     have:(rEn S t j lv).on=Y:=Hw;simp[En.on]at this;exact this.2
    obtain⟨b,rfl⟩:=yhR Hw;have tF:(thr S zW b (rEn S t j (b+1)).f ((a+j)*8)).2=0:=hr
    have si:m ∈ zM (thr S zW b (rEn S t j (b+1)).f ((a+j)*8)).1:=by simpa[zM,hl',sub]using hm
    have:=yjQ h b (by omega) (rEn S t j (b+1)).f ((a+j)*8) (by
     rw[show 4-b=(4-(b+1))+1 by omega,W]
     omega) tF m si
    have e1:(a+j)*8*8^b=(a+j)*8^(b+1):=by rw[W,yI,kh 8]
    have e2:((a+j)*8+8)*8^b=(a+j+1)*8^(b+1):=by rw[show(a+j)*8+8=(a+j+1)*8 by omega,W,yI,kh 8]
    rw[e1,e2]at this;exact this
  rcases yA Ho with Hf|hgt
  ·have:(a+j+1)*8^lv<=(a+k)*8^lv:=Q _ (by omega)
   omega
  ·have:(a+k+1)*8^lv<=(a+j)*8^lv:=Q _ (by omega)
   omega
 have Fw:(zM (thr S zW lv t a).1).filter (fun m=>m.has (q:Int))=(zM (out S zW lv (sub S zW lv) t a k).1).filter (fun m=>m.has (q:Int)):=by
  rw[yiy,c2]
  have e:(zM ((ue 0 8).flatMap fun j=>(out S zW lv (sub S zW lv) t a j).1)).filter (fun m=>m.has (q:Int))=(ue 0 8).flatMap fun j=>(zM (out S zW lv (sub S zW lv) t a j).1).filter (fun m=>m.has (q:Int)):=by
   simp only[zM,ki,List.filter_flatMap]
  rw[e,flatMap_one _ k 8 0 (fun j _ h2 h3=>other j (by omega) h3),if_pos (by omega)]
 have dG:∀x,x ∈ zU (out S zW lv (sub S zW lv) t a k).1->x ∈ zU (thr S zW lv t a).1:=by
  intro x hx;rw[yiy,c2];simp only[zU,E]at hx ⊢;obtain⟨s,hs,hx⟩:=hx;exact⟨s,⟨k,by rw[yC];omega,hs⟩,hx⟩
 obtain⟨hc,ho⟩:=yhQ (c1 k (by omega) (by omega));have hw:=yhS S (q:Int) lv t a;rw[wF,if_neg (by simpa using hc)]at hw;rcases ho with ⟨Hw,ho⟩|⟨Hw,hr,ho⟩
 ·rw[if_pos Hw]at hw
  rw[hw];refine⟨rfl,fun s hs=> ?_,spt S t k lv a,rfl,?_⟩
  ·simp at hs
   subst hs;exact V
  ·rw[Fw,ho]
   have hE:(spt S t k lv a).e=rEn S t k lv:=rfl
   by_cases hl:(rEn S t k lv).l=Y
   ·obtain⟨_,ht,h2⟩:=yhN h hl
    have hm:(spt S t k lv a).mp=(rEn S t k lv).map lv (q:Int):=by
     rw[yiG h2,yhM h hl (by omega),yhM h hl O0,uc _ sK,hk]
    have dK:zM [spt S t k lv a]=[(rEn S t k lv).map lv (q:Int)]:=by
     simp[zM,hE,hl,hm]
    rw[dK,hE,if_pos ht]
    have pu:((rEn S t k lv).map lv (q:Int)).has (q:Int)=Y:=by
     rw[yhM h hl O0,hk];simp only[Mp.has,over,yJ,decide_eq_true_eq];rw[yih h2];rw[uv,ud]at OZ;omega
    rw[List.filter_cons_of_pos (p:=fun m:Mp=>m.has (q:Int)) pu];rfl
   ·have hl':(rEn S t k lv).l=O:=by simpa using hl
    have ht:(rEn S t k lv).t=O:=by
     simp[En.on,hl']at Hw;exact Hw
    simp[zM,hE,hl',ht]
 ·rw[if_neg (by simp[Hw])]at hw
  have hl':(spt S t k lv a).e.l=O:=by
   have:(rEn S t k lv).on=Y:=Hw;simp[En.on]at this;exact this.2
  obtain⟨b,rfl⟩:=yhR Hw;have tF:(thr S zW b (rEn S t k (b+1)).f ((a+k)*8)).2=0:=hr
  have NN:q/8^b/8=a+k:=by rw[ur,<-W];exact hk
  obtain⟨i1,i2,s,i3,i4⟩:=IH b (by omega) (by omega) (rEn S t k (b+1)).f ((a+k)*8) (by omega) (by
   rw[show 4-b=(4-(b+1))+1 by omega,W]
   omega) (by omega) (by omega) tF
  have Gr:sub S (onW (q:Int)) (b+1)=thr S (onW (q:Int)) b:=rfl;rw[Gr]at hw
  have WM:zM (out S zW (b+1) (sub S zW (b+1)) t a k).1=zM (thr S zW b (rEn S t k (b+1)).f ((a+k)*8)).1:=by
   rw[ho];simp[zM,hl',sub]
  have pQ:(spt S t k (b+1) a).e.on=Y:=Hw
  have Co:zU (out S zW (b+1) (sub S zW (b+1)) t a k).1=(rEn S t k (b+1)).f::zU (thr S zW b (rEn S t k (b+1)).f ((a+k)*8)).1:=by
   rw[ho];simp[zU,pQ,sub];rfl
  rw[hw];refine⟨i1,fun s' hs=> ?_,s,?_,?_⟩
  ·simp at hs
   rcases hs with rfl|hs
   ·exact V
   ·have:=i2 s' hs
    rw[<-Co]at this;exact J _ (dG _ this)
  ·rw[yn,i3]
   rfl
  ·rw[Fw,WM,i4]
end
end Pg
namespace Pg
def Agree (S S':Fs) (x:Int):Prop:=S'.has x=S.has x/\∀i,i<8->S'.word x.toNat i=S.word x.toNat i
theorem Agree.code {S S':Fs} {x:Int} (h:Agree S S' x) {i:Nat} (hi:i<8) (lv:Nat):yhx S' x i lv=yhx S x i lv/\rEn S' x i lv=rEn S x i lv:=by
 unfold yhx rEn;rw[h.1,h.2 i hi];exact⟨rfl,rfl⟩
theorem yjB {S S':Fs} {lv:Nat} {rec rec':Int->Nat->List Sp×Int} {t:Int} {a i:Nat} (h1:yhx S' t i lv=yhx S t i lv) (h2:rEn S' t i lv=rEn S t i lv) (h3:(rEn S t i lv).on=Y->rec' (rEn S t i lv).f ((a+i)*8)=rec (rEn S t i lv).f ((a+i)*8)):out S' zW lv rec' t a i=out S zW lv rec t a i:=by
 unfold out spt;rw[h1,h2]
 by_cases ho:(rEn S t i lv).on=O
 ·simp[ho]
 ·have ho:(rEn S t i lv).on=Y:=by simpa using ho
  rw[h3 ho]
theorem yjf {S S':Fs} {lv:Nat} {rec rec':Int->Nat->List Sp×Int} {t:Int} {a:Nat}:∀(n i:Nat),(∀j,i<=j->j<i+n->out S' zW lv rec' t a j=out S zW lv rec t a j)->scan S' zW lv rec' t a n i=scan S zW lv rec t a n i
 | 0,_,_=>rfl
 | n+1,i,h=>by
   have h0:=h i (by omega) (by omega);have h1:=yjf (S:=S) (S':=S') (lv:=lv) (rec:=rec) (rec':=rec') (t:=t) (a:=a) n (i+1) (fun j h1 h2=>h j (by omega) (by omega));unfold scan;rw[h0,h1]
theorem yhO {S:Fs} {lv:Nat} {t:Int} {a:Nat} (hz:(thr S zW lv t a).2=0):
 (∀j,j<8->(out S zW lv (sub S zW lv) t a j).2=0)/\(thr S zW lv t a).1=(List.range 8).flatMap fun j=>(out S zW lv (sub S zW lv) t a j).1:=by
 rw[yiy]at hz ⊢;obtain⟨h1,h2⟩:=yi7 8 0 hz;exact⟨fun j hj=>h1 j (by omega) (by omega),by rw[h2,yR]⟩
theorem yjo {S:Fs} {lv:Nat} {t:Int} {a:Nat} (h:∀j,j<8->(out S zW lv (sub S zW lv) t a j).2=0):thr S zW lv t a=((List.range 8).flatMap (fun j=>(out S zW lv (sub S zW lv) t a j).1),0):=by
 have hz:∀n i,i+n=8->(scan S zW lv (sub S zW lv) t a n i).2=0:=by
  intro n
  induction n with
  | zero=>intro i _;rfl
  | succ n ih=>
    intro i hi;unfold scan;rw[if_neg (by simpa using h i (by omega))];exact ih (i+1) (by omega)
 have h0:(thr S zW lv t a).2=0:=by rw[yiy];exact hz 8 0 rfl
 have:=(yhO h0).2;rw[<-this,<-h0]
theorem yiU {S:Fs} {lv:Nat} {t:Int} {a j:Nat} (hj:j<8) (hz:(thr S zW lv t a).2=0) {x:Int} (hx:x ∈ zU (out S zW lv (sub S zW lv) t a j).1):x ∈ zU (thr S zW lv t a).1:=by
 rw[(yhO hz).2];simp only[zU,E]at hx ⊢;obtain⟨s,hs,hx⟩:=hx;exact⟨s,⟨j,by simpa using hj,hs⟩,hx⟩
theorem yjH {S S':Fs}:∀(lv:Nat) (t:Int) (a:Nat),(thr S zW lv t a).2=0->(∀x,x ∈ t::zU (thr S zW lv t a).1->Agree S S' x)->thr S' zW lv t a=thr S zW lv t a:=by
 intro lv
 induction lv with
 | zero=>
   intro t a hz h;have h0:=h t V;rw[yiy,yiy];refine yjf 8 0 fun j _ hj=> ?_;obtain⟨c1,c2⟩:=h0.code (i:=j) (by omega) 0;refine yjB c1 c2 fun ho=> ?_;obtain⟨m,hm⟩:=yhR ho;omega
 | succ lv ih=>
   intro t a hz h;have h0:=h t V;rw[yiy,yiy];refine yjf 8 0 fun j _ hj=> ?_
   have PZ:j<8:=by omega
   obtain⟨c1,c2⟩:=h0.code PZ (lv+1);refine yjB c1 c2 fun ho=> ?_;have hzj:=(yhO hz).1 j PZ;obtain⟨hc,LX⟩:=yhQ hzj;rcases LX with ⟨hn,_⟩|⟨_,hr,hl⟩
   ·rw[hn]at ho;cases ho
   ·refine ih _ _ hr fun x hx=> ?_
    refine h x (J _ (yiU PZ hz ?_));rw[hl];have Hw:(spt S t j (lv+1) a).e.on=Y:=ho
    have:zU (spt S t j (lv+1) a::(sub S zW (lv+1) (rEn S t j (lv+1)).f ((a+j)*8)).1)=(rEn S t j (lv+1)).f::zU (thr S zW lv (rEn S t j (lv+1)).f ((a+j)*8)).1:=by
     simp[zU,Hw,sub];rfl
    rw[this];exact hx
theorem yis {α:Type} {l:List Nat} {f g:Nat->List α} (h:∀j,j ∈ l->f j=g j):l.flatMap f=l.flatMap g:=by
 induction l with
 | nil=>rfl
 | cons x l ih=>rw[o,o,h x V,ih fun j hj=>h j (J _ hj)]
theorem yh4 {s:Sp} {X:List Sp} (h:s.e.on=Y):zU (s::X)=s.e.f::zU X:=by
 simp[zU,h]
theorem yls {k:Nat} (hk:k<8):List.range 8=List.range k++k::ue (k+1) (7-k):=by
 have:k=0\/k=1\/k=2\/k=3\/k=4\/k=5\/k=6\/k=7:=by omega
 rcases this with rfl|rfl|rfl|rfl|rfl|rfl|rfl|rfl<;>rfl
theorem pow_up (a i b:Nat):(a+i)*8*8^b=(a+i)*8^(b+1)/\((a+i)*8+8)*8^b=(a+i+1)*8^(b+1):=by
 constructor
 ·rw[W,yI,kh 8]
 ·rw[show(a+i)*8+8=(a+i+1)*8 by omega,W,yI,kh 8]
section
variable {S:Fs}
theorem yiw (h:S.Ok) {lv:Nat} (rP:lv<4) {t:Int} {a j:Nat} (hj:j<8) (ha:a+8<=8^(4-lv)) (hz:(out S zW lv (sub S zW lv) t a j).2=0) {m:Mp} (hm:m ∈ zM (out S zW lv (sub S zW lv) t a j).1):
 (((a+j)*8^lv:Nat):Int)<=m.p/\m.p+span m.s<=(((a+j+1)*8^lv:Nat):Int):=by
 have sK:0<8^lv:=kp (by decide)
 have ru:(a+8)*8^lv<=4096:=by
  have h3:(a+8)*8^lv<=8^(4-lv)*8^lv:=Q _ ha;rw[<-yY,show 4-lv+lv=4 by omega]at h3
  have e:(8:Nat)^4=4096:=by decide
  omega
 have Nz:(a+j+1)*8^lv<=(a+8)*8^lv:=Q _ (by omega)
 have hex:(a+j+1)*8^lv=(a+j)*8^lv+8^lv:=by rw[uv,ud]
 obtain⟨hc,ho⟩:=yhQ hz;rcases ho with ⟨Hw,ho⟩|⟨Hw,hr,ho⟩
 ·rw[ho]at hm
  by_cases hl:(rEn S t j lv).l=Y
  ·have hl':(spt S t j lv a).e.l=Y:=hl
   simp[zM,hl']at hm;subst hm;have h2:=(yhN h hl).2.2;rw[yiG h2,yhM h hl (by omega),uc _ sK];simp only;rw[yih h2];omega
  ·have hl':(spt S t j lv a).e.l=O:=yO.2 hl
   simp[zM,hl']at hm
 ·rw[ho]at hm
  have hl':(spt S t j lv a).e.l=O:=by
   have:(rEn S t j lv).on=Y:=Hw;simp[En.on]at this;exact this.2
  obtain⟨b,rfl⟩:=yhR Hw;have tF:(thr S zW b (rEn S t j (b+1)).f ((a+j)*8)).2=0:=hr
  have si:m ∈ zM (thr S zW b (rEn S t j (b+1)).f ((a+j)*8)).1:=by simpa[zM,hl',sub]using hm
  have:=yjQ h b (by omega) (rEn S t j (b+1)).f ((a+j)*8) (by
   rw[show 4-b=(4-(b+1))+1 by omega,W]
   omega) tF m si
  obtain⟨e1,e2⟩:=pow_up a j b;rw[e1,e2]at this;exact this
def But1 (S S':Fs) (T:List Int) (t0:Int) (i0:Nat):Prop:=∀x,x ∈ T->S'.has x=S.has x/\∀i,i<8->(x≠t0\/i≠i0)->S'.word x.toNat i=S.word x.toNat i
structure Spot1 (S:Fs) (q lv:Nat) (t:Int) (a:Nat) (s:Sp) (A B:List Sp):Prop where
 all:(thr S zW lv t a).1=A++(out S zW s.level (sub S zW s.level) s.table (s.ahead-s.place) s.place).1++B
 place:s.place=ix (q:Int) s.level
 ahead:s.ahead=q/8^s.level
 le:s.place<=s.ahead
 lvl:s.level<=lv
 ma:∀m,m ∈ zM A->m.p+span m.s<=((s.ahead*8^s.level:Nat):Int)
 mb:∀m,m ∈ zM B->(((s.ahead+1)*8^s.level:Nat):Int)<=m.p
 mem:s.table ∈ t::zU (thr S zW lv t a).1
 code:(out S zW s.level (sub S zW s.level) s.table (s.ahead-s.place) s.place).2=0
 en:s.e=rEn S s.table s.place s.level
 memA:s.table ∈ t::zU A
 turn:∀S',But1 S S' (t::(zU A++zU B)) s.table s.place->(out S' zW s.level (sub S' zW s.level) s.table (s.ahead-s.place) s.place).2=0->
  thr S' zW lv t a=(A++(out S' zW s.level (sub S' zW s.level) s.table (s.ahead-s.place) s.place).1++B,0)
theorem yk8 (h:S.Ok) (q:Nat):∀(lv:Nat),lv<4->∀(t:Int) (a:Nat),a%8=0->a+8<=8^(4-lv)->a<=q/8^lv->q/8^lv<a+8->(thr S zW lv t a).2=0->(t::zU (thr S zW lv t a).1).Nodup->
 ∀s,s ∈ (thr S (onW (q:Int)) lv t a).1->∃A B,Spot1 S q lv t a s A B:=by
 intro lv
 induction lv using yS with
 | _ lv IH=>
 intro rP t a Ar ha h1 h2 hz fD s hs;have sK:0<8^lv:=kp (by decide);obtain⟨k,hk⟩:∃k,q/8^lv=a+k:=⟨q/8^lv-a,by omega⟩
 have kT:k<8:=by omega
 have wF:ix (q:Int) lv=k:=by
  unfold ix
  have e:(q:Int)/8^lv%8=((q/8^lv%8:Nat):Int):=by simp
  rw[e,yV];omega
 obtain⟨c1,c2⟩:=yhO hz;rw[yls kT,yE,o]at c2;generalize hP:(List.range k).flatMap (fun j=>(out S zW lv (sub S zW lv) t a j).1)=P at c2;generalize hR:(ue (k+1) (7-k)).flatMap (fun j=>(out S zW lv (sub S zW lv) t a j).1)=R at c2
 have El:∀j,j<k->∀x,x ∈ zU (out S zW lv (sub S zW lv) t a j).1->x ∈ zU P:=by
  intro j hj x hx;rw[<-hP];simp only[zU,E]at hx ⊢;obtain⟨s,hs,hx⟩:=hx;exact⟨s,⟨j,by simpa using hj,hs⟩,hx⟩
 have Em:∀j,k<j->j<8->∀x,x ∈ zU (out S zW lv (sub S zW lv) t a j).1->x ∈ zU R:=by
  intro j hj PZ x hx;rw[<-hR];simp only[zU,E]at hx ⊢;obtain⟨s,hs,hx⟩:=hx;exact⟨s,⟨j,by rw[yC];omega,hs⟩,hx⟩
 have mP:∀m,m ∈ zM P->m.p+span m.s<=(((a+k)*8^lv:Nat):Int):=by
  intro m hm;rw[<-hP]at hm;simp only[zM,E]at hm;obtain⟨s,⟨j,hj,hs⟩,hm⟩:=hm
  have hj:j<k:=by simpa using hj
  have:=(yiw h rP (by omega) ha (c1 j (by omega)) (m:=m) (by simp only[zM,E];exact⟨s,hs,hm⟩)).2;have:(a+j+1)*8^lv<=(a+k)*8^lv:=Q _ (by omega);omega
 have mR:∀m,m ∈ zM R->(((a+k+1)*8^lv:Nat):Int)<=m.p:=by
  intro m hm;rw[<-hR]at hm;simp only[zM,E]at hm;obtain⟨s,⟨j,hj,hs⟩,hm⟩:=hm
  have hj:k+1<=j/\j<8:=by rw[yC]at hj;omega
  have:=(yiw h rP (by omega) ha (c1 j (by omega)) (m:=m) (by simp only[zM,E];exact⟨s,hs,hm⟩)).1;have:(a+k+1)*8^lv<=(a+j)*8^lv:=Q _ (by omega);omega
 have pz:∀j,j<8->∀x,x ∈ zU (out S zW lv (sub S zW lv) t a j).1->x ∈ zU (thr S zW lv t a).1:=fun j hj x hx=>yiU hj hz hx;obtain⟨OO,tL⟩:=ua.1 fD
 have other:∀S',∀t0 i0,But1 S S' (t::(zU P++zU R)) t0 i0->(t≠t0\/i0=k)->(t0=t\/t0 ∈ zU (out S zW lv (sub S zW lv) t a k).1)->∀j,j<8->j≠k->out S' zW lv (sub S' zW lv) t a j=out S zW lv (sub S zW lv) t a j:=by
  intro S' t0 i0 hb Pv sU j hj eZ;obtain⟨b1,b2⟩:=hb t V;have bC:S'.word t.toNat j=S.word t.toNat j:=b2 j hj (by rcases Pv with h'|h';exact .inl h';exact .inr (by omega))
  have cc:yhx S' t j lv=yhx S t j lv/\rEn S' t j lv=rEn S t j lv:=by
   unfold yhx rEn;rw[b1,bC];exact⟨rfl,rfl⟩
  refine yjB cc.1 cc.2 fun ho=> ?_;obtain⟨hc,LX⟩:=yhQ (c1 j hj);rcases LX with ⟨hn,_⟩|⟨_,hr,hl⟩
  ·rw[hn]at ho;cases ho
  ·obtain⟨b,rfl⟩:=yhR ho
   refine yjH b _ _ hr fun x hx=> ?_;have Hw:(spt S t j (b+1) a).e.on=Y:=ho
   have GH:x ∈ zU (out S zW (b+1) (sub S zW (b+1)) t a j).1:=by
    rw[hl]
    have:zU (spt S t j (b+1) a::(sub S zW (b+1) (rEn S t j (b+1)).f ((a+j)*8)).1)=(rEn S t j (b+1)).f::zU (thr S zW b (rEn S t j (b+1)).f ((a+j)*8)).1:=by
     simp[zU,Hw,sub];rfl
    rw[this];exact hx
   have wT:=pz j hj x GH
   have Kz:x ∈ zU P++zU R:=by
    rcases yA eZ with Hf|hgt
    ·exact I _ (El j Hf x GH)
    ·exact N _ (Em j hgt hj x GH)
   obtain⟨b3,b4⟩:=hb x (J _ Kz)
   have Ho:x≠t0:=by
    rintro rfl;rcases sU with e|e
    ·rw[e]at wT;exact OO wT
    ·rw[c2,yhq,yhq]at tL
     rw[w]at tL;obtain⟨_,n2,n3⟩:=tL;rw[w]at n2;rcases yA eZ with Hf|hgt
     ·exact n3 x (El j Hf x GH) x (I _ e) rfl
     ·exact n2.2.2 x e x (Em j hgt hj x GH) rfl
   exact⟨b3,fun i hi=>b4 i hi (.inl Ho)⟩
 obtain⟨hc,ho⟩:=yhQ (c1 k kT);have hw:=yhS S (q:Int) lv t a;rw[wF,if_neg (by simpa using hc)]at hw
 have here:s=spt S t k lv a->∃A B,Spot1 S q lv t a s A B:=by
  intro e;subst e
  have e1:(spt S t k lv a).ahead-(spt S t k lv a).place=a:=by show a+k-k=a;omega
  refine⟨P,R,⟨?_,wF.symm,hk.symm,by show k<=a+k;omega,yy _,mP,mR,V,by rw[e1];exact c1 k kT,rfl,V,?_⟩⟩
  ·rw[e1]
   rw[c2,<-kO];rfl
  ·intro S' hb Sk
   rw[e1]at Sk ⊢;have tZ:=other S' t k hb (.inr rfl) (.inl rfl)
   have Sn:∀j,j<8->(out S' zW lv (sub S' zW lv) t a j).2=0:=by
    intro j hj
    by_cases e:j=k
    ·rw[e];exact Sk
    ·rw[tZ j hj e];exact c1 j hj
   rw[yjo Sn,yls kT,yE,o]
   have eP:(List.range k).flatMap (fun j=>(out S' zW lv (sub S' zW lv) t a j).1)=P:=by
    rw[<-hP];refine yis fun j hj=> ?_
    have hj:j<k:=by simpa using hj
    rw[tZ j (by omega) (by omega)]
   have eR:(ue (k+1) (7-k)).flatMap (fun j=>(out S' zW lv (sub S' zW lv) t a j).1)=R:=by
    rw[<-hR];refine yis fun j hj=> ?_
    have hj:k+1<=j/\j<8:=by rw[yC]at hj;omega
    rw[tZ j (by omega) (by omega)]
   rw[eP,eR,<-kO];rfl
 rcases ho with ⟨Hw,ho⟩|⟨Hw,hr,ho⟩
 ·rw[if_pos Hw]at hw
  rw[hw]at hs;simp at hs;exact here hs
 ·rw[if_neg (by simp[Hw])]at hw
  rw[hw]at hs;simp at hs;rcases hs with hs|hs
  ·exact here hs
  ·obtain⟨b,rfl⟩:=yhR Hw
   have tF:(thr S zW b (rEn S t k (b+1)).f ((a+k)*8)).2=0:=hr
   have NN:q/8^b/8=a+k:=by rw[ur,<-W];exact hk
   have pQ:(spt S t k (b+1) a).e.on=Y:=Hw
   have Co:zU (out S zW (b+1) (sub S zW (b+1)) t a k).1=(rEn S t k (b+1)).f::zU (thr S zW b (rEn S t k (b+1)).f ((a+k)*8)).1:=by
    rw[ho];simp[zU,pQ,sub];rfl
   have hl':(spt S t k (b+1) a).e.l=O:=by
    have:(rEn S t k (b+1)).on=Y:=Hw;simp[En.on]at this;exact this.2
   have LK:((rEn S t k (b+1)).f::zU (thr S zW b (rEn S t k (b+1)).f ((a+k)*8)).1).Nodup:=by
    rw[<-Co];rw[c2,yhq,yhq,w]at tL;have:=tL.2.1;rw[w]at this;exact this.1
   obtain⟨A,B,sp⟩:=IH b (by omega) (by omega) (rEn S t k (b+1)).f ((a+k)*8) (by omega) (by
    rw[show 4-b=(4-(b+1))+1 by omega,W]
    omega) (by omega) (by omega) tF LK s hs
   have WE:(a+k)*8^(b+1)<=s.ahead*8^s.level:=by
    have hb:=sp.lvl;rw[sp.ahead,<-hk]
    have e1:8^(b+1)=8^s.level*8^(b+1-s.level):=by rw[<-yY];congr 1;omega
    rw[e1,<-ur,kh (8^s.level),<-yI];exact Q _ (un _ _)
   have WF:(s.ahead+1)*8^s.level<=(a+k+1)*8^(b+1):=by
    have hb:=sp.lvl;rw[sp.ahead,<-hk]
    have e1:8^(b+1)=8^(b+1-s.level)*8^s.level:=by rw[<-yY];congr 1;omega
    have ow:0<8^(b+1-s.level):=kp (by decide);rw[e1,kh (8^(b+1-s.level)),<-ur,kh (8^s.level),<-yI];refine Q _ ?_;have:=yF (a:=q/8^s.level) ow;rw[uv,ud];omega
   have iA:s.table ∈ zU (out S zW (b+1) (sub S zW (b+1)) t a k).1:=by rw[Co];exact sp.mem
   have l6:t≠s.table:=fun e=>OO (e.symm▸pz k kT _ iA);refine⟨P++spt S t k (b+1) a::A,B++R,⟨?_,sp.place,sp.ahead,sp.le,by have:=sp.lvl;omega,?_,?_,J _ (pz k kT _ iA),sp.code,sp.en,by rw[yhq,yh4 pQ];exact J _ (N _ sp.memA),?_⟩⟩
   ·rw[c2,ho]
    have e:=sp.all
    show P++(spt S t k (b+1) a::(thr S zW b (rEn S t k (b+1)).f ((a+k)*8)).1++R)=_
    rw[e];simp[kO]
   ·intro m hm
    rw[yhv]at hm;rcases Z.1 hm with hm|hm
    ·have:=mP m hm;omega
    ·have uJ:m ∈ zM A:=by simpa[zM,hl']using hm
     exact sp.ma m uJ
   ·intro m hm
    rw[yhv]at hm;rcases Z.1 hm with hm|hm
    ·exact sp.mb m hm
    ·have:=mR m hm;omega
   ·intro S' hb Sk
    have iY:But1 S S' ((rEn S t k (b+1)).f::(zU A++zU B)) s.table s.place:=by
     intro x hx;refine hb x (J _ ?_);rw[yhq,yhq,yh4 pQ];rcases H.1 hx with rfl|hx
     ·exact I _ (N _ V)
     ·rcases Z.1 hx with hx|hx
      ·exact I _ (N _ (J _ hx))
      ·exact N _ (I _ hx)
    have tN:=sp.turn S' iY Sk
    have AA:But1 S S' (t::(zU P++zU R)) s.table s.place:=by
     intro x hx;refine hb x ?_;rw[yhq,yhq];rcases H.1 hx with rfl|hx
     ·exact V
     ·refine J _ ?_
      rcases Z.1 hx with hx|hx
      ·exact I _ (I _ hx)
      ·exact N _ (N _ hx)
    have tZ:=other S' s.table s.place AA (.inl l6) (.inr iA);obtain⟨b1,b2⟩:=hb t V
    have cc:yhx S' t k (b+1)=yhx S t k (b+1)/\rEn S' t k (b+1)=rEn S t k (b+1):=by
     unfold yhx rEn;rw[b1,b2 k kT (.inl l6)];exact⟨rfl,rfl⟩
    have dF:out S' zW (b+1) (sub S' zW (b+1)) t a k=(spt S t k (b+1) a::(thr S' zW b (rEn S t k (b+1)).f ((a+k)*8)).1,(thr S' zW b (rEn S t k (b+1)).f ((a+k)*8)).2):=by
     unfold out spt;rw[cc.1,cc.2,if_neg (by simp[zW]),if_neg (by simpa using hc),if_neg (by simp[Hw])];rfl
    rw[tN]at dF
    have Sn:∀j,j<8->(out S' zW (b+1) (sub S' zW (b+1)) t a j).2=0:=by
     intro j hj
     by_cases e:j=k
     ·rw[e,dF]
     ·rw[tZ j hj e];exact c1 j hj
    rw[yjo Sn,yls kT,yE,o]
    have eP:(List.range k).flatMap (fun j=>(out S' zW (b+1) (sub S' zW (b+1)) t a j).1)=P:=by
     rw[<-hP];refine yis fun j hj=> ?_
     have hj:j<k:=by simpa using hj
     rw[tZ j (by omega) (by omega)]
    have eR:(ue (k+1) (7-k)).flatMap (fun j=>(out S' zW (b+1) (sub S' zW (b+1)) t a j).1)=R:=by
     rw[<-hR];refine yis fun j hj=> ?_
     have hj:k+1<=j/\j<8:=by rw[yC]at hj;omega
     rw[tZ j (by omega) (by omega)]
    rw[eP,eR,dF];simp[kO]
end
end Pg
set_option maxRecDepth 10000
namespace Pg
theorem yiT {S:Fs}:∀(lv:Nat) (t:Int) (a:Nat),(thr S zW lv t a).2=0->∀x,x ∈ t::zU (thr S zW lv t a).1->S.has x=Y:=by
 intro lv
 induction lv using yS with
 | _ lv IH=>
 intro t a hz x hx;obtain⟨c1,c2⟩:=yhO hz;rcases H.1 hx with rfl|hx
 ·exact yhz (yhQ (c1 0 (by omega))).1
 ·rw[c2]at hx
  simp only[zU,E]at hx;obtain⟨s,⟨j,hj,hs⟩,hy⟩:=hx
  have hj:j<8:=by simpa using hj
  obtain⟨hc,ho⟩:=yhQ (c1 j hj);rcases ho with ⟨Hw,ho⟩|⟨Hw,hr,ho⟩
  ·rw[ho]at hs
   simp at hs;subst hs;have pQ:(spt S t j lv a).e.on=O:=Hw;simp[pQ]at hy
  ·obtain⟨b,rfl⟩:=yhR Hw
   have pQ:(spt S t j (b+1) a).e.on=Y:=Hw;have tF:(thr S zW b (rEn S t j (b+1)).f ((a+j)*8)).2=0:=hr;refine IH b (by omega) _ _ tF x ?_;rw[ho]at hs;simp at hs;rcases hs with rfl|hs
   ·simp[pQ]at hy
    subst hy;exact V
   ·refine J _ ?_
    simp only[zU,E];exact⟨s,hs,hy⟩
structure Rep (S:Fs) (L:List Mp):Prop where
 ok:S.Ok
 code:(thr S zW 3 0 0).2=0
 maps:zM (thr S zW 3 0 0).1=L
 nodup:((0:Int)::zU (thr S zW 3 0 0).1).Nodup
 used:∀k:Nat,k ∈ S.used ↔ (k:Int) ∈ (0:Int)::zU (thr S zW 3 0 0).1
 full:∀x,x ∈ zU (thr S zW 3 0 0).1->yhy S x=O
theorem yic {S:Fs} {x:Int} (h:S.has x=Y):0<=x:=by
 simp[Fs.has]at h;exact h.1
theorem yiS {S:Fs} {t:Int} (ht:S.has t=Y) {i:Nat} (hi:i<8) (v:Int):S.store t (i:Int) v={S with word:=Fs.put S.word t.toNat i v}:=by
 have:S.at' t (i:Int)=Y:=by simp[Fs.at',ht];omega
 simp[Fs.store,this]
theorem store_but {S:Fs} {t:Int} (ht:S.has t=Y) {i:Nat} (hi:i<8) (v:Int) {T:List Int} (hT:∀x,x ∈ T->S.has x=Y):But1 S (S.store t (i:Int) v) T t i:=by
 intro x hx;refine⟨yh9 _ _ _ _ _,fun j hj Ho=> ?_⟩;rw[yiS ht hi]
 show Fs.put S.word t.toNat i v x.toNat j=_
 unfold Fs.put;rw[if_neg];rintro ⟨e1,e2⟩;have h1:=yic ht;have h2:=yic (hT x hx);rcases Ho with h|h
 ·exact h (by omega)
 ·exact h e2
theorem yix {S:Fs} {t:Int} (ht:S.has t=Y) {i:Nat} (hi:i<8) (v:Int):(S.store t (i:Int) v).word t.toNat i=v:=by
 rw[yiS ht hi]
 show Fs.put S.word t.toNat i v t.toNat i=v
 simp[Fs.put]
theorem yjS {S:Fs} {t:Int} (ht:S.has t=Y) {i:Nat} (hi:i<8) (v:Int) (lv:Nat):yhx (S.store t (i:Int) v) t i lv=yhA v lv/\rEn (S.store t (i:Int) v) t i lv=En.of v lv:=by
 unfold yhx rEn;rw[yh9,if_pos ht,if_pos ht,yix ht hi];exact⟨rfl,rfl⟩
structure Found (S:Fs) (L:List Mp) (q lv:Nat) (e:En) (tl:Int) (A B:List Sp):Prop where
 way:Way S 0 (q:Int) (zg S 0 (q:Int)) lv e tl
 spot:Spot1 S q 3 0 0 ⟨tl,ix (q:Int) lv,lv,q/8^lv,e⟩ A B
 le:lv<=3
 list:L=zM A++(if e.t=Y then [e.map lv (q:Int)]else [])++zM B
 tabs:zU (thr S zW 3 0 0).1=zU A++zU B
 one:out S zW lv (sub S zW lv) tl (q/8^lv-ix (q:Int) lv) (ix (q:Int) lv)=([⟨tl,ix (q:Int) lv,lv,q/8^lv,e⟩],0)
theorem yit {S:Fs} {L:List Mp} (h:Rep S L) {q:Nat} (hq:q<4096):xQ S 0 (q:Int)=0/\∃lv e tl A B,Found S L q lv e tl A B:=by
 have hp:below (q:Int) 4096=Y:=zB.2 ⟨by omega,by omega⟩
 have hd:q/8^3<8:=by
  rw[show(8:Nat)^3=512 by decide];omega
 obtain⟨a1,a2,s,a3,a4⟩:=ykB h.ok q 3 (by omega) 0 0 (by omega) (by decide) (by omega) (by omega) h.code
 have eC:xQ S 0 (q:Int)=0:=by unfold xQ;rw[if_pos hp,a1]
 have eX:zg S 0 (q:Int)=(thr S (onW (q:Int)) 3 0 0).1:=by unfold zg;rw[if_pos ⟨hp,a1⟩]
 obtain⟨lv,e,tl,hw⟩:=ykp eC;obtain⟨A,B,sp⟩:=yk8 h.ok q 3 (by omega) 0 0 (by omega) (by decide) (by omega) (by omega) h.code h.nodup s (yj a3)
 have e1:s.level=lv:=by
  have:=hw.yhw;rw[eX]at this;unfold Go.Proofs.YtdphiompijbelaaGreat.yhw at this;rw[a3]at this;exact yK.1 this
 have e2:s.e=e:=by
  have:=hw.yhu;rw[eX]at this;unfold Go.Proofs.YtdphiompijbelaaGreat.yhu at this;rw[a3]at this
  simpa using this
 have e3:s.table=tl:=by
  have:=hw.lastT;rw[eX]at this;unfold Go.Proofs.YtdphiompijbelaaGreat.lastT at this;rw[a3]at this
  simpa using this
 have hs:s=⟨tl,ix (q:Int) lv,lv,q/8^lv,e⟩:=by
  have h1:=sp.place;have h2:=sp.ahead;rw[e1]at h1 h2;obtain⟨st,uu,sl,sa,se⟩:=s;simp only at e1 e2 e3 h1 h2;subst e1 e2 e3 h1 h2;rfl
 subst hs;have fe:=sp.lvl;have sO:=sp.le;simp only at fe sO;have dI:ix (q:Int) lv<8:=yid _ _
 have sZ:out S zW lv (sub S zW lv) tl (q/8^lv-ix (q:Int) lv) (ix (q:Int) lv)=([⟨tl,ix (q:Int) lv,lv,q/8^lv,e⟩],0):=by
  have Hw:=hw.on;rw[hw.en]at Hw;unfold out;rw[if_neg (by simp[zW]),if_neg (by simpa using hw.code),if_pos Hw];unfold spt;rw[<-hw.en,D sO]
 have ru:=sp.all;simp only at ru;rw[sZ]at ru
 have kV:e.l=Y->e.t=Y:=by
  intro hl;rw[hw.en]at hl ⊢;exact(yhN h.ok hl).2.1
 have mg:e.t=Y->e.l=Y:=by
  intro ht;have:=hw.on;simp[En.on,ht]at this;exact this
 have LA:zM [(⟨tl,ix (q:Int) lv,lv,q/8^lv,e⟩:Sp)]=if e.t=Y then [e.map lv (q:Int)]else []:=by
  by_cases ht:e.t=Y
  ·have hl:=mg ht
   have hl':(rEn S tl (ix (q:Int) lv) lv).l=Y:=by rw[<-hw.en];exact hl
   have h2:=(yhN h.ok hl').2.2;rw[if_pos ht]
   have nN:(⟨tl,ix (q:Int) lv,lv,q/8^lv,e⟩:Sp).mp=e.map lv (q:Int):=by
    have e4:(⟨tl,ix (q:Int) lv,lv,q/8^lv,e⟩:Sp)=spt S tl (ix (q:Int) lv) lv (q/8^lv-ix (q:Int) lv):=by
     unfold spt;rw[<-hw.en,D sO]
    have sK:0<8^lv:=kp (by decide);have Ka:q/8^lv*8^lv<4096:=yq (un _ _) hq;rw[e4,yiG h2,D sO,yhM h.ok hl' Ka,uc _ sK,hw.en,yhM h.ok hl' hq]
   rw[zM,o,yQ,ks,if_pos hl,nN]
  ·rw[if_neg ht]
   have hl:¬e.l=Y:=fun hl=>ht (kV hl);rw[zM,o,yQ,ks,if_neg hl]
 have dG:zU [(⟨tl,ix (q:Int) lv,lv,q/8^lv,e⟩:Sp)]=[]:=by
  rw[zU,o,yQ,ks,if_neg (by rw[hw.on];decide)]
 refine⟨eC,lv,e,tl,A,B,⟨hw,sp,fe,?_,?_,sZ⟩⟩
 ·rw[<-h.maps,ru,yhv,yhv,LA]
 ·rw[ru,yhq,yhq,dG,ks]
theorem ykd {S:Fs} {L:List Mp} {q lv:Nat} {e:En} {tl:Int} {A B:List Sp} (h:Found S L q lv e tl A B):
 (e.t=Y->(e.map lv (q:Int)).has (q:Int)=Y)->(e.t=Y->fnd L (q:Int)=some (zM A).length/\at' L (q:Int)=e.map lv (q:Int))/\(e.t=O->fnd L (q:Int)=none):=by
 intro pu;have sK:0<8^lv:=kp (by decide);have Cf:q/8^lv*8^lv<=q:=un _ _
 have wE:q<(q/8^lv+1)*8^lv:=by
  rw[uv,ud];have:=yF (a:=q) sK;omega
 have hA:∀m,m ∈ zM A->m.has (q:Int)=O:=by
  intro m hm;have:=h.spot.ma m hm;simp only at this;cases hh:m.has (q:Int)
  ·rfl
  ·simp[Mp.has,over]at hh
   omega
 have hB:∀m,m ∈ zM B->m.has (q:Int)=O:=by
  intro m hm;have:=h.spot.mb m hm;simp only at this;cases hh:m.has (q:Int)
  ·rfl
  ·simp[Mp.has,over]at hh
   omega
 refine⟨fun ht=> ?_,fun ht=> ?_⟩
 ·have hl:=h.list
  rw[if_pos ht]at hl
  have e1:fnd L (q:Int)=some (zM A).length:=by
   unfold fnd;rw[hl,kO,yk]
   have:(zM A).findIdx? (fun m=>m.has (q:Int))=none:=by
    rw[yZ];exact hA
   rw[this];simp[pu ht,yr]
  refine⟨e1,?_⟩;unfold at';rw[e1];simp[hl,List.getD]
 ·have hl:=h.list
  rw[if_neg (by simp[ht])]at hl;unfold fnd;rw[yZ,hl];intro m hm;simp at hm;rcases hm with hm|hm
  ·exact hA m hm
  ·exact hB m hm
theorem yh6 {S:Fs} {L:List Mp} {q lv:Nat} {e:En} {tl:Int} {A B:List Sp} (h:S.Ok) (hq:q<4096) (F:Found S L q lv e tl A B) (ht:e.t=Y):e.l=Y/\lv<=2/\e.map lv (q:Int)=⟨((q/8^lv*8^lv:Nat):Int),(lv:Int),e.f,e.r⟩/\(e.map lv (q:Int)).has (q:Int)=Y:=by
 have hl:e.l=Y:=by
  have:=F.way.on;simp[En.on,ht]at this;exact this
 have hl':(rEn S tl (ix (q:Int) lv) lv).l=Y:=by rw[<-F.way.en];exact hl
 have h2:=(yhN h hl').2.2
 have e1:e.map lv (q:Int)=⟨((q/8^lv*8^lv:Nat):Int),(lv:Int),e.f,e.r⟩:=by rw[F.way.en];exact yhM h hl' hq
 refine⟨hl,h2,e1,?_⟩;rw[e1];have sK:0<8^lv:=kp (by decide);have Cf:q/8^lv*8^lv<=q:=un _ _;have:=yF (a:=q) sK;simp only[Mp.has,over,yJ,decide_eq_true_eq];rw[yih h2];omega
theorem yiI {S:Fs} {L:List Mp} (h:Rep S L) (p:Int):tFC S 0 p=yhI L p/\tFM S 0 p=yib L p:=by
 cases hp:below p 4096
 ·have e1:tFC S 0 p=1:=by
   have:xQ S 0 p=1:=by simp[xQ,hp]
   rw[tFC,this,if_pos (by decide)]
  have e2:yhI L p=1:=by rw[yhI,hp,if_neg (by decide)]
  exact⟨by rw[e1,e2],by rw[tFM,yib,e1,e2,if_neg (by decide),if_neg (by decide)]⟩
 ·obtain⟨p0,p1⟩:=zB.1 hp
  obtain⟨q,rfl⟩:=yT p0;obtain⟨hz,lv,e,tl,A,B,F⟩:=yit h (q:=q) (by omega);obtain⟨f1,f2⟩:=ykd F (fun ht=>(yh6 h.ok (by omega) F ht).2.2.2)
  have e0:tFC S 0 (q:Int)=if e.t=Y then 0 else 5:=by rw[tFC,hz,if_neg (by decide),F.way.yhu]
  have em:tFM S 0 (q:Int)=if tFC S 0 (q:Int)=0 then e.map lv (q:Int)else .zz:=by rw[tFM,F.way.yhu,F.way.yhw]
  cases ht:e.t
  ·have e3:yhI L (q:Int)=5:=by rw[yhI,hp,if_pos rfl,f2 ht,if_pos rfl]
   rw[ht,if_neg (by decide)]at e0;exact⟨by rw[e0,e3],by rw[em,yib,e0,e3,if_neg (by decide),if_neg (by decide)]⟩
  ·obtain⟨f3,f4⟩:=f1 ht
   have e3:yhI L (q:Int)=0:=by rw[yhI,hp,if_pos rfl,f3,if_neg (by simp)]
   rw[ht,if_pos rfl]at e0;exact⟨by rw[e0,e3],by rw[em,yib,e0,e3,if_pos rfl,if_pos rfl,f4]⟩
theorem yhV {S:Fs} {x:Int}:yhy S x=O ↔ ∃i,i<8/\S.word x.toNat i≠0:=by
 unfold yhy;rw[List.all_eq_false];constructor
 ·rintro ⟨i,hi,h⟩
  exact⟨i,by simpa using hi,by simpa using h⟩
 ·rintro ⟨i,hi,h⟩
  exact⟨i,by simpa using hi,by simpa using h⟩
theorem yjF {S:Fs} (h:S.Ok) {q lv:Nat} (hq:q<4096) {tl:Int} (sO:ix (q:Int) lv<=q/8^lv) {e:En} (he:e=rEn S tl (ix (q:Int) lv) lv) (hl:e.l=Y):(⟨tl,ix (q:Int) lv,lv,q/8^lv,e⟩:Sp).mp=e.map lv (q:Int):=by
 subst he;have h2:=(yhN h hl).2.2
 have e4:(⟨tl,ix (q:Int) lv,lv,q/8^lv,rEn S tl (ix (q:Int) lv) lv⟩:Sp)=spt S tl (ix (q:Int) lv) lv (q/8^lv-ix (q:Int) lv):=by
  unfold spt;rw[D sO]
 have sK:0<8^lv:=kp (by decide);have Ka:q/8^lv*8^lv<4096:=yq (un _ _) hq;rw[e4,yiG h2,D sO,yhM h hl Ka,uc _ sK,yhM h hl hq]
theorem yky {S:Fs} {q lv:Nat} {tl:Int} (sO:ix (q:Int) lv<=q/8^lv) {e:En} (he:e=rEn S tl (ix (q:Int) lv) lv) (hc:yhx S tl (ix (q:Int) lv) lv=0) (Hw:e.on=O):
 out S zW lv (sub S zW lv) tl (q/8^lv-ix (q:Int) lv) (ix (q:Int) lv)=([⟨tl,ix (q:Int) lv,lv,q/8^lv,e⟩],0):=by
 subst he;unfold out;rw[if_neg (by simp[zW]),if_neg (by simpa using hc),if_pos Hw];unfold spt;rw[D sO]
theorem yim {q lv:Nat} (hq:q<4096) (hl:lv<4):index (q:Int) (lv:Int)=(ix (q:Int) lv:Nat):=yhE (zB.2 ⟨by omega,by omega⟩) hl
theorem ykY {S:Fs} {L:List Mp} (h:Rep S L) {q lv:Nat} {e:En} {tl:Int} {A B:List Sp} (hq:q<4096) (F:Found S L q lv e tl A B) (ht:e.t=Y) {r:Int} (hr:0<=r/\r<=7) (u d:Bool):
 Rep (S.store tl ((ix (q:Int) lv:Nat):Int) (enc Y Y r u d e.f (lv:Int))) (L.set (zM A).length ((L.getD (zM A).length .zz).rts r))/\
 thr (S.store tl ((ix (q:Int) lv:Nat):Int) (enc Y Y r u d e.f (lv:Int))) zW 3 0 0=(A++[⟨tl,ix (q:Int) lv,lv,q/8^lv,⟨Y,Y,r,u,d,e.f⟩⟩]++B,0)/\
 (⟨tl,ix (q:Int) lv,lv,q/8^lv,⟨Y,Y,r,u,d,e.f⟩⟩:Sp).mp=(e.map lv (q:Int)).rts r:=by
 obtain⟨hl,h2,uL,pu⟩:=yh6 h.ok hq F ht;have sO:=F.spot.le;simp only at sO;have dI:ix (q:Int) lv<8:=yid _ _;have Hf:=F.way.hasT
 have hf:yht Y Y r u d e.f (lv:Int)=0:=by
  have h0:yht e.t e.l e.r e.u e.d e.f (lv:Int)=0:=by
   have:=yhW h.ok F.way.code;rw[<-F.way.en]at this;exact this
  rw[ht,hl]at h0;obtain⟨_,hx⟩:=yhG h0;rcases hx with ⟨hx,_⟩|⟨_,_,_,f0,f1,⟨_,_,fs⟩|⟨hx,_⟩⟩
  ·cases hx
  ·exact yja (by omega) (by omega) hr.1 hr.2 f0 f1 fs
  ·cases hx
 obtain⟨v0,v1,vc,vz,d1,d2,d3,d4,d5,d6⟩:=yiX hf
 have iL:enc Y Y r u d e.f (lv:Int)≠0:=fun hh=>by
  have:=vz.1 hh;cases this
 have oU:En.of (enc Y Y r u d e.f (lv:Int)) (lv:Int)=⟨Y,Y,r,u,d,e.f⟩:=by
  unfold En.of;rw[d1,d2,d3,d4,d5,d6]
 generalize enc Y Y r u d e.f (lv:Int)=v at*;obtain⟨KU,wY⟩:=yjS Hf dI v lv;have ok':=h.ok.store tl ((ix (q:Int) lv:Nat):Int) v0 v1;have iX:=yiT 3 0 0 h.code;have Gq:∀x,x ∈ (0:Int)::(zU A++zU B)->S.has x=Y:=fun x hx=>iX x (by rw[F.tabs];exact hx);have hb:=store_but Hf dI v Gq
 have tZ:out (S.store tl ((ix (q:Int) lv:Nat):Int) v) zW lv (sub (S.store tl ((ix (q:Int) lv:Nat):Int) v) zW lv) tl (q/8^lv-ix (q:Int) lv) (ix (q:Int) lv)=([⟨tl,ix (q:Int) lv,lv,q/8^lv,⟨Y,Y,r,u,d,e.f⟩⟩],0):=
  yky sO (by rw[wY,oU]) (by rw[KU];exact vc) rfl
 have tN:=F.spot.turn (S.store tl ((ix (q:Int) lv:Nat):Int) v) hb (by simp only;rw[tZ]);simp only at tN;rw[tZ]at tN
 have nN:(⟨tl,ix (q:Int) lv,lv,q/8^lv,⟨Y,Y,r,u,d,e.f⟩⟩:Sp).mp=(e.map lv (q:Int)).rts r:=by
  rw[yjF ok' hq sO (by rw[wY,oU]) rfl,uL]
  have sJ:(rEn (S.store tl ((ix (q:Int) lv:Nat):Int) v) tl (ix (q:Int) lv) lv).l=Y:=by rw[wY,oU]
  have:=yhM ok' sJ hq;rw[wY,oU]at this;rw[this];rfl
 have dG:zU (A++[(⟨tl,ix (q:Int) lv,lv,q/8^lv,⟨Y,Y,r,u,d,e.f⟩⟩:Sp)]++B)=zU (thr S zW 3 0 0).1:=by
  rw[F.tabs,yhq,yhq];simp[zU,En.on]
 obtain⟨n1,n2,n3,n4⟩:=yif S tl ((ix (q:Int) lv:Nat):Int) v;refine⟨⟨ok',by rw[tN],?_,?_,?_,?_⟩,tN,nN⟩
 ·rw[tN]
  simp only;rw[yhv,yhv]
  have sZ:zM [(⟨tl,ix (q:Int) lv,lv,q/8^lv,⟨Y,Y,r,u,d,e.f⟩⟩:Sp)]=[(e.map lv (q:Int)).rts r]:=by
   rw[zM,o,yQ,ks,if_pos rfl,nN]
  rw[sZ];have hL:=F.list;rw[if_pos ht]at hL;rw[hL,kO,kO];simp[List.getD]
 ·rw[tN];simp only;rw[dG];exact h.nodup
 ·intro k
  rw[tN];simp only;rw[dG,n2];exact h.used k
 ·intro x hx
  rw[tN]at hx;simp only at hx;rw[dG]at hx;rw[yhV];obtain⟨i,hi,Ho⟩:=yhV.1 (h.full x hx)
  by_cases e1:x=tl/\i=ix (q:Int) lv
  ·obtain⟨rfl,rfl⟩:=e1
   exact⟨_,dI,by rw[yix Hf dI];exact iL⟩
  ·refine⟨i,hi,?_⟩
   have:=(hb x (by rw[<-F.tabs];exact J _ hx)).2 i hi (by
    by_cases e2:x=tl
    ·exact .inr fun e3=>e1 ⟨e2,e3⟩
    ·exact .inl e2)
   rw[this];exact Ho
theorem rep_protect {S:Fs} {L:List Mp} (h:Rep S L) (p r:Int):prC S 0 p r=yie L p r/\prM S 0 p r=yiV L p r/\Rep (prS S 0 p r) (yir L p r):=by
 obtain⟨hc,hm⟩:=yiI h p
 have ec:prC S 0 p r=yie L p r:=by
  unfold prC yie
  by_cases hr:r<0\/7<r
  ·have hb:below r 8=O:=yjq.2 (by omega)
   rw[if_pos hr,hb,if_neg (by decide)]
  ·have hb:below r 8=Y:=zB.2 (by omega)
   rw[if_neg hr,hb,if_pos rfl,hc]
 refine⟨ec,?_,?_⟩
 ·unfold prM yiV
  rw[ec]
  by_cases hz:yie L p r=0
  ·rw[if_pos hz,if_pos hz,hm]
   have:yhI L p=0:=by
    unfold yie at hz;split at hz
    ·exact hz
    ·omega
   rw[yib,if_pos this]
  ·rw[if_neg hz,if_neg hz]
 ·unfold prS yir
  rw[ec]
  by_cases hz:yie L p r=0
  ·rw[if_pos hz,if_pos hz]
   have hr:0<=r/\r<=7:=by
    unfold yie at hz;split at hz
    ·rename_i hb
     have:=zB.1 hb;omega
    ·omega
   have hd:yhI L p=0:=by
    unfold yie at hz;split at hz
    ·exact hz
    ·omega
   have hp:below p 4096=Y:=by
    unfold yhI at hd;split at hd
    ·assumption
    ·omega
   obtain⟨p0,p1⟩:=zB.1 hp;obtain⟨q,rfl⟩:=yT p0
   have hq:q<4096:=by omega
   obtain⟨rX,lv,e,tl,A,B,F⟩:=yit h hq
   have ht:e.t=Y:=by
    have:tFC S 0 (q:Int)=0:=by rw[hc];exact hd
    rw[tFC,rX,if_neg (by decide),F.way.yhu]at this;cases he:e.t
    ·rw[he,if_neg (by decide)]at this;omega
    ·rfl
   obtain⟨hl,h2,uL,pu⟩:=yh6 h.ok hq F ht;obtain⟨f3,f4⟩:=(ykd F (fun _=>pu)).1 ht;rw[F.way.lastT,F.way.yhw,F.way.yhu,yim hq (by omega),ht,hl,f3];exact(ykY h hq F ht hr e.u e.d).1
  ·rw[if_neg hz,if_neg hz]
   exact h
end Pg
namespace Pg
theorem ykt (q lv:Nat):ix (q:Int) lv<=q/8^lv/\q/8^lv-ix (q:Int) lv=q/8^(lv+1)*8:=by
 have e:ix (q:Int) lv=q/8^lv%8:=by
  unfold ix
  have e:(q:Int)/8^lv%8=((q/8^lv%8:Nat):Int):=by simp
  rw[e,yV]
 rw[e,W,<-ur];generalize q/8^lv=x;omega
theorem yiH {S:Fs} {t:Int} (ht:S.has t=Y) {i lv:Nat} (rP:lv<4) (h:S.word t.toNat i=0):yhx S t i lv=0/\rEn S t i lv=En.zero:=by
 unfold yhx rEn;rw[if_pos ht,if_pos ht,h]
 have hd:yhA 0 (lv:Int)=0:=by
  have:¬((lv:Int)<0\/3<(lv:Int)):=by omega
  simp[yhA,this,wBad]
 have hg:yhF 0 (lv:Int)=O:=by simp[yhF]
 refine⟨hd,?_⟩;unfold En.of En.zero xL xR xU xD xF;rw[hg];rfl
theorem yko {S:Fs} {k:Nat} (hp:S.pick=some k) (x i:Nat):S.take.word x i=if x=k then 0 else S.word x i:=by
 unfold Fs.pick at hp;unfold Fs.take
 cases hb:S.back.getLast? with
 | some j=>
   rw[hb]at hp;cases hp;rfl
 | none=>
   rw[hb]at hp;simp only at hp ⊢;split at hp
   ·rename_i Hf
    cases hp;rw[if_pos Hf];rfl
   ·cases hp
theorem take_used {S:Fs} {k:Nat} (hp:S.pick=some k):S.take.used=k::S.used:=by
 unfold Fs.pick at hp;unfold Fs.take
 cases hb:S.back.getLast? with
 | some j=>
   rw[hb]at hp;cases hp;rfl
 | none=>
   rw[hb]at hp;simp only at hp ⊢;split at hp
   ·rename_i Hf
    cases hp;rw[if_pos Hf]
   ·cases hp
structure Chain (S S':Fs) (q l:Nat) (t:Int) (m:Mp) (K:List Nat):Prop where
 ok:S'.Ok
 code:(out S' zW l (sub S' zW l) t (q/8^l-ix (q:Int) l) (ix (q:Int) l)).2=0
 maps:zM (out S' zW l (sub S' zW l) t (q/8^l-ix (q:Int) l) (ix (q:Int) l)).1=[m]
 tabs:zU (out S' zW l (sub S' zW l) t (q/8^l-ix (q:Int) l) (ix (q:Int) l)).1=K.map fun k:Nat=>(k:Int)
 used:S'.used=K.reverse++S.used
 nd:K.Nodup/\∀k,k ∈ K->k ∉ S.used
 full:∀k,k ∈ K->yhy S' (k:Int)=O
 word:S'.word t.toNat (ix (q:Int) l)≠0
 same:∀x,x ∈ S.used->∀i,(x≠t.toNat\/i≠ix (q:Int) l)->S'.word x i=S.word x i
theorem chain {q:Nat} (hq:q<4096) {m:Mp} (hm:m.code=0) (nN:m.p=(q:Int)) {sz:Nat} (wL:m.s=(sz:Int)):∀(d l:Nat),l=sz+d->l<4->∀(S:Fs) (t:Int),S.Ok->S.has t=Y->(d:Int)<=S.free->
 ∃K,Chain S ((insW m.p m.s l S t).1.store (insW m.p m.s l S t).2 (index m.p m.s) (enc Y Y m.r O O m.f m.s)) q l t m K:=by
 obtain⟨z0,z1,z2,z3,z4,z5,z6,z7,z8⟩:=yhC hm
 have iJ:sz<=2:=by
  rw[wL]at z0
  rcases yhD (sz:Int)with h|h|h|h<;>omega
 intro d
 induction d with
 | zero=>
   intro l hl mV S t ok ht hf
   have hl:l=sz:=by omega
   subst hl
   have e0:insW m.p m.s l S t=(S,t):=by
    cases l with
    | zero=>rfl
    | succ l=>
      show(if ((l+1:Nat):Int)<=m.s then(S,t)else _)=_
      rw[if_pos (by omega)]
   rw[e0];simp only;rw[nN,wL,yim hq mV];have dI:ix (q:Int) l<8:=yid _ _;obtain⟨sO,_⟩:=ykt q l;have nI:yht Y Y m.r O O m.f (l:Int)=0:=yja (by omega) (by omega) z5 (by omega) z3 z4 (by rw[<-wL];exact z8);obtain⟨v0,v1,vc,vz,d1,d2,d3,d4,d5,d6⟩:=yiX nI
   have iL:enc Y Y m.r O O m.f (l:Int)≠0:=fun hh=>by
    have:=vz.1 hh;cases this
   have oU:En.of (enc Y Y m.r O O m.f (l:Int)) (l:Int)=⟨Y,Y,m.r,O,O,m.f⟩:=by
    unfold En.of;rw[d1,d2,d3,d4,d5,d6]
   generalize enc Y Y m.r O O m.f (l:Int)=v at*;obtain⟨KU,wY⟩:=yjS ht dI v l;have ok':=ok.store t ((ix (q:Int) l:Nat):Int) v0 v1
   have ho:out (S.store t ((ix (q:Int) l:Nat):Int) v) zW l (sub (S.store t ((ix (q:Int) l:Nat):Int) v) zW l) t (q/8^l-ix (q:Int) l) (ix (q:Int) l)=([⟨t,ix (q:Int) l,l,q/8^l,⟨Y,Y,m.r,O,O,m.f⟩⟩],0):=
    yky sO (by rw[wY,oU]) (by rw[KU];exact vc) rfl
   have LG:(⟨t,ix (q:Int) l,l,q/8^l,⟨Y,Y,m.r,O,O,m.f⟩⟩:Sp).mp=m:=by
    rw[yjF ok' hq sO (by rw[wY,oU]) rfl]
    have sJ:(rEn (S.store t ((ix (q:Int) l:Nat):Int) v) t (ix (q:Int) l) l).l=Y:=by rw[wY,oU]
    have:=yhM ok' sJ hq;rw[wY,oU]at this;rw[this]
    have kI:q/8^l*8^l=q:=by
     rw[nN,wL,yih iJ]at z7
     have:q%8^l=0:=by omega
     have:=yx q (8^l);rw[kh]at this;omega
    rw[kI,<-nN,<-wL]
   obtain⟨n1,n2,n3,n4⟩:=yif S t ((ix (q:Int) l:Nat):Int) v;refine⟨[],ok',by rw[ho],?_,?_,by rw[n2];rfl,⟨yD,fun k hk=>by simp at hk⟩,fun k hk=>by simp at hk,by rw[yix ht dI];exact iL,?_⟩
   ·rw[ho]
    simp only;rw[zM,o,yQ,ks,if_pos rfl,LG]
   ·rw[ho]
    simp[zU,En.on]
   ·intro x hx i Ho
    rw[yiS ht dI]
    show Fs.put S.word t.toNat (ix (q:Int) l) v x i=_
    unfold Fs.put;rw[if_neg];rintro ⟨e1,e2⟩;rcases Ho with h|h
    ·exact h e1
    ·exact h e2
 | succ d ih=>
   intro l hl mV S t ok ht hf;obtain⟨l',rfl⟩:∃l',l=l'+1:=⟨sz+d,by omega⟩;obtain⟨k,Ch,Wm,bR,Lh,Wt,Ws,Wu⟩:=ykm ok (by omega)
   have e0:insW m.p m.s (l'+1) S t=insW m.p m.s l' (S.take.store t (index m.p ((l'+1:Nat):Int)) (enc Y O 7 O O (k:Int) ((l'+1:Nat):Int))) (k:Int):=by
    show(if ((l'+1:Nat):Int)<=m.s then(S,t)else _)=_
    rw[if_neg (by omega),Wm]
   rw[e0];have TY:ix (q:Int) (l'+1)<8:=yid _ _;have Lc:ix (q:Int) l'<8:=yid _ _;obtain⟨Gd,_⟩:=ykt q (l'+1);obtain⟨OY,Gp⟩:=ykt q l'
   have e1:index m.p ((l'+1:Nat):Int)=(ix (q:Int) (l'+1):Nat):=by rw[nN];exact yim hq mV
   rw[e1];have Kq:=Wt t ht;have okt:=ok.take;have gL:=ok.small;have nI:yht Y O 7 O O (k:Int) ((l'+1:Nat):Int)=0:=fault_table (by omega) (by omega) (by omega) (by omega);obtain⟨v0,v1,vc,vz,d1,d2,d3,d4,d5,d6⟩:=yiX nI
   have iL:enc Y O 7 O O (k:Int) ((l'+1:Nat):Int)≠0:=fun hh=>by
    have:=vz.1 hh;cases this
   have oU:En.of (enc Y O 7 O O (k:Int) ((l'+1:Nat):Int)) ((l'+1:Nat):Int)=⟨Y,O,7,O,O,(k:Int)⟩:=by
    unfold En.of;rw[d1,d2,d3,d4,d5,d6]
   generalize enc Y O 7 O O (k:Int) ((l'+1:Nat):Int)=v at*;have KT:=okt.store t ((ix (q:Int) (l'+1):Nat):Int) v0 v1
   have Nk:(S.take.store t ((ix (q:Int) (l'+1):Nat):Int) v).has (k:Int)=Y:=by rw[yh9];exact Lh
   obtain⟨K,C⟩:=ih l' (by omega) (by omega) (S.take.store t ((ix (q:Int) (l'+1):Nat):Int) v) (k:Int) KT Nk (by rw[yjh,Ws];omega);generalize TD:(insW m.p m.s l' (S.take.store t ((ix (q:Int) (l'+1):Nat):Int) v) (k:Int)).1.store (insW m.p m.s l' (S.take.store t ((ix (q:Int) (l'+1):Nat):Int) v) (k:Int)).2 (index m.p m.s) (enc Y Y m.r O O m.f m.s)=S3 at*;obtain⟨n1,n2,n3,n4⟩:=yif S.take t ((ix (q:Int) (l'+1):Nat):Int) v
   have ak:(S.take.store t ((ix (q:Int) (l'+1):Nat):Int) v).used=k::S.used:=by rw[n2,take_used Ch]
   have TZ:k ∉ S.used:=(ok.ylq Ch).2;have Kt:t.toNat ∈ S.used:=(ok.yhK ht).2.2;have O9:t.toNat≠k:=fun e=>TZ (e▸Kt);have t0:=yic ht
   have w1:S3.word t.toNat (ix (q:Int) (l'+1))=v:=by
    rw[C.same t.toNat (by rw[ak];exact J _ Kt) _ (.inl (by simpa using O9)),yix Kq TY]
   have DU:∀x:Int,0<=x->x.toNat ∈ S3.used->S3.has x=Y:=fun x h0 hx=>by simp[Fs.has,Fs.inn,h0,hx]
   have Ku:S3.used=K.reverse++(k::S.used):=by rw[C.used,ak]
   have O5:S3.has t=Y:=DU t t0 (by rw[Ku];exact N _ (J _ Kt));have bP:S3.has (k:Int)=Y:=DU _ (by omega) (by rw[Ku];exact N _ (by simp))
   have mJ:yhx S3 t (ix (q:Int) (l'+1)) (l'+1)=0/\rEn S3 t (ix (q:Int) (l'+1)) (l'+1)=⟨Y,O,7,O,O,(k:Int)⟩:=by
    unfold yhx rEn;rw[if_pos O5,if_pos O5,w1];exact⟨vc,oU⟩
   have wk:∀j,j<8->j≠ix (q:Int) l'->S3.word k j=0:=by
    intro j hj Ho;rw[C.same k (by rw[ak];simp) j (.inr Ho)];rw[yiS Kq TY]
    show Fs.put S.take.word t.toNat (ix (q:Int) (l'+1)) v k j=0
    unfold Fs.put;rw[if_neg (by rintro ⟨e,_⟩;exact O9 e.symm),yko Ch,if_pos rfl]
   have F8:∀j,j<8->j≠ix (q:Int) l'->out S3 zW l' (sub S3 zW l') (k:Int) (q/8^l'-ix (q:Int) l') j=([spt S3 (k:Int) j l' (q/8^l'-ix (q:Int) l')],0)/\(spt S3 (k:Int) j l' (q/8^l'-ix (q:Int) l')).e=En.zero:=by
    intro j hj Ho;obtain⟨r1,r2⟩:=yiH (lv:=l') bP (by omega) (show S3.word (k:Int).toNat j=0 by rw[yV];exact wk j hj Ho);refine⟨?_,r2⟩;unfold out;rw[if_neg (by simp[zW]),if_neg (by simpa using r1),if_pos (by rw[r2];rfl)]
   have Sn:∀j,j<8->(out S3 zW l' (sub S3 zW l') (k:Int) (q/8^l'-ix (q:Int) l') j).2=0:=by
    intro j hj
    by_cases e:j=ix (q:Int) l'
    ·rw[e];exact C.code
    ·rw[(F8 j hj e).1]
   have tN:=yjo Sn
   have dK:zM (thr S3 zW l' (k:Int) (q/8^l'-ix (q:Int) l')).1=[m]:=by
    rw[tN]
    have e:zM ((List.range 8).flatMap fun j=>(out S3 zW l' (sub S3 zW l') (k:Int) (q/8^l'-ix (q:Int) l') j).1)=(ue 0 8).flatMap fun j=>zM (out S3 zW l' (sub S3 zW l') (k:Int) (q/8^l'-ix (q:Int) l') j).1:=by
     simp only[zM,ki,yR]
    rw[e,flatMap_one _ (ix (q:Int) l') 8 0 (fun j _ h2 h3=>by rw[(F8 j (by omega) h3).1];simp[zM,(F8 j (by omega) h3).2,En.zero]),if_pos (by omega),C.maps]
   have ui:zU (thr S3 zW l' (k:Int) (q/8^l'-ix (q:Int) l')).1=K.map fun k:Nat=>(k:Int):=by
    rw[tN]
    have e:zU ((List.range 8).flatMap fun j=>(out S3 zW l' (sub S3 zW l') (k:Int) (q/8^l'-ix (q:Int) l') j).1)=(ue 0 8).flatMap fun j=>zU (out S3 zW l' (sub S3 zW l') (k:Int) (q/8^l'-ix (q:Int) l') j).1:=by
     simp only[zU,ki,yR]
    rw[e,flatMap_one _ (ix (q:Int) l') 8 0 (fun j _ h2 h3=>by rw[(F8 j (by omega) h3).1];simp[zU,(F8 j (by omega) h3).2,En.zero,En.on]),if_pos (by omega),C.tabs]
   have AO:(thr S3 zW l' (k:Int) (q/8^l'-ix (q:Int) l')).2=0:=by rw[tN]
   have ho:out S3 zW (l'+1) (sub S3 zW (l'+1)) t (q/8^(l'+1)-ix (q:Int) (l'+1)) (ix (q:Int) (l'+1))=(spt S3 t (ix (q:Int) (l'+1)) (l'+1) (q/8^(l'+1)-ix (q:Int) (l'+1))::(thr S3 zW l' (k:Int) (q/8^l'-ix (q:Int) l')).1,0):=by
    unfold out;rw[if_neg (by simp[zW]),if_neg (by simpa using mJ.1),if_neg (by rw[mJ.2];simp[En.on]),mJ.2,D Gd,<-Gp]
    show(_,(thr S3 zW l' (k:Int) (q/8^l'-ix (q:Int) l')).2)=_
    rw[AO];rfl
   have Ki:(spt S3 t (ix (q:Int) (l'+1)) (l'+1) (q/8^(l'+1)-ix (q:Int) (l'+1))).e=⟨Y,O,7,O,O,(k:Int)⟩:=mJ.2;refine⟨k::K,C.ok,by rw[ho],?_,?_,?_,?_,?_,by rw[w1];exact iL,?_⟩
   ·rw[ho]
    simp only
    have:zM (spt S3 t (ix (q:Int) (l'+1)) (l'+1) (q/8^(l'+1)-ix (q:Int) (l'+1))::(thr S3 zW l' (k:Int) (q/8^l'-ix (q:Int) l')).1)=zM (thr S3 zW l' (k:Int) (q/8^l'-ix (q:Int) l')).1:=by
     simp[zM,Ki]
    rw[this,dK]
   ·rw[ho]
    simp only;rw[yh4 (by rw[Ki];rfl),Ki,ui];rfl
   ·rw[Ku]
    simp
   ·refine⟨ua.2 ⟨fun hk=> ?_,C.nd.1⟩,fun x hx=> ?_⟩
    ·exact C.nd.2 k hk (by rw[ak];simp)
    ·rcases H.1 hx with rfl|hx
     ·exact TZ
     ·exact fun hu=>C.nd.2 x hx (by rw[ak];exact J _ hu)
   ·intro x hx
    rcases H.1 hx with rfl|hx
    ·rw[yhV]
     exact⟨ix (q:Int) l',Lc,by have:=C.word;exact this⟩
    ·exact C.full x hx
   ·intro x hx i Ho
    have Ec:x≠k:=fun e=>TZ (e▸hx);rw[C.same x (by rw[ak];exact J _ hx) i (.inl (by simpa using Ec)),yiS Kq TY]
    show Fs.put S.take.word t.toNat (ix (q:Int) (l'+1)) v x i=_
    unfold Fs.put;rw[if_neg (by rintro ⟨e1,e2⟩;rcases Ho with h|h;exact h e1;exact h e2),yko Ch,if_neg Ec]
end Pg
namespace Pg
theorem way_step (S:Fs) (p:Int):∀(lv:Nat) (t:Int) (a:Nat),(thr S (onW p) lv t a).2=0->∀s,(thr S (onW p) lv t a).1.getLast?=some s->∀l,s.level<l->l<=lv->∃s',s' ∈ (thr S (onW p) lv t a).1/\s'.level=l/\s'.e.on=Y:=by
 intro lv
 induction lv with
 | zero=>
   intro t a _ s _ l h1 h2;omega
 | succ lv ih=>
   intro t a hz s hs l h1 h2;rw[yhS]at hz hs ⊢;split at hz
   ·rename_i h3
    exact absurd hz h3
   ·rename_i h3
    rw[if_neg h3]at hs ⊢;split at hz
    ·rename_i h4
     rw[if_pos h4]at hs;simp at hs;subst hs;have:(spt S t (ix p (lv+1)) (lv+1) a).level=lv+1:=rfl;omega
    ·rename_i h4
     rw[if_neg h4]at hs ⊢;simp only[sub]at hz hs ⊢
     have h4:(rEn S t (ix p (lv+1)) (lv+1)).on=Y:=by simpa using h4
     by_cases e:l=lv+1
     ·exact⟨_,V,e.symm,h4⟩
     ·obtain⟨s2,j1,_⟩:=(yk6 S p lv (rEn S t (ix p (lv+1)) (lv+1)).f ((a+ix p (lv+1))*8)).2 hz
      have pR:s2=s:=by
       rw[yn,j1]at hs
       simpa using hs
      subst pR;obtain⟨s',m1,m2⟩:=ih _ _ hz s2 j1 l h1 (by omega);exact⟨s',J _ m1,m2⟩
theorem ylp {S:Fs}:∀(lv:Nat) (t:Int) (a:Nat),(thr S zW lv t a).2=0->yhy S t=O->(∀x,x ∈ zU (thr S zW lv t a).1->yhy S x=O)->∃m,m ∈ zM (thr S zW lv t a).1:=by
 intro lv
 induction lv using yS with
 | _ lv IH=>
 intro t a hz he ru;obtain⟨i,hi,Ho⟩:=yhV.1 he;obtain⟨c1,c2⟩:=yhO hz;obtain⟨hc,ho⟩:=yhQ (c1 i hi);have hh:=yhz hc
 have ht:(rEn S t i lv).t=Y:=by
  unfold yhx at hc;rw[if_pos hh]at hc;unfold rEn;rw[if_pos hh]
  show yhF (S.word t.toNat i) lv=Y
  simp[yhF,hc,Ho]
 have inn:∀m,m ∈ zM (out S zW lv (sub S zW lv) t a i).1->m ∈ zM (thr S zW lv t a).1:=by
  intro m hm;rw[c2];simp only[zM,E]at hm ⊢;obtain⟨s,hs,hm⟩:=hm;exact⟨s,⟨i,by simpa using hi,hs⟩,hm⟩
 rcases ho with ⟨Hw,ho⟩|⟨Hw,hr,ho⟩
 ·have hl:(spt S t i lv a).e.l=Y:=by
   have:(rEn S t i lv).on=O:=Hw;simp[En.on,ht]at this;exact this
  exact⟨(spt S t i lv a).mp,inn _ (by rw[ho];simp[zM,hl])⟩
 ·obtain⟨b,rfl⟩:=yhR Hw
  have tF:(thr S zW b (rEn S t i (b+1)).f ((a+i)*8)).2=0:=hr;have pQ:(spt S t i (b+1) a).e.on=Y:=Hw
  have pz:∀x,x ∈ (rEn S t i (b+1)).f::zU (thr S zW b (rEn S t i (b+1)).f ((a+i)*8)).1->x ∈ zU (thr S zW (b+1) t a).1:=by
   intro x hx;refine yiU hi hz ?_;rw[ho,yh4 pQ];exact hx
  obtain⟨m,hm⟩:=IH b (by omega) _ _ tF (ru _ (pz _ V)) (fun x hx=>ru x (pz x (J _ hx)));refine⟨m,inn m ?_⟩;rw[ho];simp only[zM,o,Z];exact .inr hm
section
variable {S:Fs}
theorem ykh (h:S.Ok):∀(lv:Nat),lv<4->∀(t:Int) (a:Nat),a+8<=8^(4-lv)->(thr S zW lv t a).2=0->(∀m,m ∈ zM (thr S zW lv t a).1->m.code=0)/\(zM (thr S zW lv t a).1).Pairwise fun x y=>x.p+span x.s<=y.p:=by
 intro lv
 induction lv using yS with
 | _ lv IH=>
 intro rP t a ha hz;obtain⟨c1,c2⟩:=yhO hz;have sK:0<8^lv:=kp (by decide)
 have ru:(a+8)*8^lv<=4096:=by
  have h3:(a+8)*8^lv<=8^(4-lv)*8^lv:=Q _ ha;rw[<-yY,show 4-lv+lv=4 by omega]at h3
  have e:(8:Nat)^4=4096:=by decide
  omega
 have one:∀j,j<8->(∀m,m ∈ zM (out S zW lv (sub S zW lv) t a j).1->m.code=0)/\(zM (out S zW lv (sub S zW lv) t a j).1).Pairwise fun x y=>x.p+span x.s<=y.p:=by
  intro j hj;have Nz:(a+j+1)*8^lv<=(a+8)*8^lv:=Q _ (by omega)
  have hex:(a+j+1)*8^lv=(a+j)*8^lv+8^lv:=by rw[uv,ud]
  obtain⟨hc,ho⟩:=yhQ (c1 j hj);rcases ho with ⟨Hw,ho⟩|⟨Hw,hr,ho⟩
  ·rw[ho]
   by_cases hl:(rEn S t j lv).l=Y
   ·have hl':(spt S t j lv a).e.l=Y:=hl
    have e:zM [spt S t j lv a]=[(spt S t j lv a).mp]:=by simp[zM,hl']
    rw[e];refine⟨fun m hm=> ?_,List.pairwise_singleton _ _⟩;simp at hm;subst hm;have h2:=(yhN h hl).2.2;have hf:=yhW h hc;obtain⟨_,hx⟩:=yhG hf;rcases hx with ⟨_,hx,_⟩|⟨_,r0,r1,f0,f1,⟨_,_,fs⟩|⟨hx,_⟩⟩
    ·rw[hx]at hl;cases hl
    ·rw[yiG h2,yhM h hl (by omega),uc _ sK]
     unfold Mp.code;simp only;have gF:=yih h2
     have hs0:span (lv:Int)≠0:=by rw[gF];omega
     rw[yh1 hs0 (zB.2 ⟨by omega,by omega⟩) (zB.2 ⟨f0,f1⟩) (zB.2 ⟨r0,by omega⟩),if_pos];refine⟨?_,fs⟩;rw[gF];rw[<-Int.natCast_emod,Nat.mul_mod_left];rfl
    ·rw[hx]at hl;cases hl
   ·have hl':(spt S t j lv a).e.l=O:=yO.2 hl
    have e:zM [spt S t j lv a]=[]:=by simp[zM,hl']
    rw[e];exact⟨fun m hm=>by simp at hm,List.Pairwise.nil⟩
  ·obtain⟨b,rfl⟩:=yhR Hw
   have hl':(spt S t j (b+1) a).e.l=O:=by
    have:(rEn S t j (b+1)).on=Y:=Hw;simp[En.on]at this;exact this.2
   have e:zM (out S zW (b+1) (sub S zW (b+1)) t a j).1=zM (thr S zW b (rEn S t j (b+1)).f ((a+j)*8)).1:=by
    rw[ho];simp[zM,hl',sub]
   rw[e]
   exact IH b (by omega) (by omega) _ _ (by
    rw[show 4-b=(4-(b+1))+1 by omega,W]
    omega) hr
 have e:zM (thr S zW lv t a).1=(List.range 8).flatMap fun j=>zM (out S zW lv (sub S zW lv) t a j).1:=by
  rw[c2];simp only[zM,ki]
 rw[e];refine⟨fun m hm=> ?_,?_⟩
 ·rw[E]at hm
  obtain⟨j,hj,hm⟩:=hm;exact(one j (by simpa using hj)).1 m hm
 ·rw[yz]
  refine⟨fun j hj=>(one j (by simpa using hj)).2,?_⟩;refine List.Pairwise.imp_of_mem ?_ (List.pairwise_lt_range (n:=8));intro i j hi hj bi x hx y hy
  have hi:i<8:=by simpa using hi
  have hj:j<8:=by simpa using hj
  have h1:=(yiw h rP hi ha (c1 i hi) hx).2;have h2:=(yiw h rP hj ha (c1 j hj) hy).1;have:(a+i+1)*8^lv<=(a+j)*8^lv:=Q _ (by omega);omega
end
theorem yh5 {S:Fs} {L:List Mp} (h:Rep S L):Good L:=by
 obtain⟨h1,h2⟩:=ykh h.ok 3 (by omega) 0 0 (by decide) h.code;rw[h.maps]at h1 h2;refine⟨h1,List.Pairwise.imp_of_mem ?_ h2⟩;intro x y hx hy hxy;have s1:=(yhC (h1 x hx)).1;have s2:=(yhC (h1 y hy)).1;have b1:=(yhH x.s).1;have b2:=(yhH y.s).1;refine⟨by omega,?_⟩;cases hm:x.meets y
 ·rfl
 ·simp[Mp.meets,meet,over]at hm
  omega
theorem ylh {m:Mp}:∀{A B:List Mp},(∀x,x ∈ A->x.p<m.p)->(∀x,x ∈ B->m.p<x.p)->ins m (A++B)=A++m::B
 | [],[],_,_=>rfl
 | [],y::B,_,hB=>by
   show ins m (y::B)=m::y::B
   unfold ins;rw[if_pos (hB y V)]
 | x::A,B,hA,hB=>by
   show ins m (x::(A++B))=x::(A++m::B)
   unfold ins;rw[if_neg (by have:=hA x V;omega),ylh (fun y hy=>hA y (J _ hy)) hB]
theorem yjU {S:Fs} {L:List Mp} (h:Rep S L) (m:Mp):(insC S 0 m=6/\S.free<3/\insS S 0 m=S)\/(insC S 0 m≠6/\insC S 0 m=addC L m/\Rep (insS S 0 m) (addL L m)/\∀s,s ∈ (thr S zW 3 0 0).1->s.e.l=Y\/s.e.on=Y->s ∈ (thr (insS S 0 m) zW 3 0 0).1):=by
 by_cases hm:m.code=0
 ·obtain⟨z0,z1,z2,z3,z4,z5,z6,z7,z8⟩:=yhC hm
  obtain⟨q,nN⟩:=yT z1
  have hq:q<4096:=by omega
  obtain⟨sz,wL⟩:∃sz:Nat,m.s=(sz:Int):=by
   rcases yhD m.s with ⟨e,_⟩|⟨e,_⟩|⟨e,_⟩|⟨_,_,_,e⟩
   ·exact⟨0,e⟩
   ·exact⟨1,e⟩
   ·exact⟨2,e⟩
   ·exact absurd e z0
  have iJ:sz<=2:=by
   rw[wL]at z0
   rcases yhD (sz:Int)with h|h|h|h<;>omega
  have gF:span m.s=((8^sz:Nat):Int):=by rw[wL];exact yih iJ
  have kI:q/8^sz*8^sz=q:=by
   rw[nN,gF]at z7
   have:q%8^sz=0:=by omega
   have:=yx q (8^sz);rw[kh]at this;omega
  have L9:0<8^sz:=kp (by decide);obtain⟨hz,lv,e,tl,A,B,F⟩:=yit h hq;have fV:=yh5 h
  have eC:insC S 0 m=if e.t=Y\/(lv:Int)<m.s then 4 else if S.free<(lv:Int)-m.s then 6 else 0:=by
   rw[insC,if_neg (by simpa using hm),nN,hz,if_neg (by decide),F.way.yhu,F.way.yhw]
  have sK:0<8^lv:=kp (by decide);have Cf:q/8^lv*8^lv<=q:=un _ _
  have wE:q<(q/8^lv+1)*8^lv:=by
   rw[uv,ud];have:=yF (a:=q) sK;omega
  by_cases mK:e.t=Y\/(lv:Int)<m.s
  ·--something is there
   rw[if_pos mK]at eC
   have FU:∃x,x ∈ L/\x.meets m=Y:=by
    by_cases ht:e.t=Y
    ·obtain⟨_,_,_,pu⟩:=yh6 h.ok hq F ht
     refine⟨e.map lv (q:Int),?_,?_⟩
     ·rw[F.list,if_pos ht]
      simp
     ·have:over (e.map lv (q:Int)).p (e.map lv (q:Int)).s m.p=Y:=by rw[nN];exact pu
      simp[Mp.meets,meet,this]
    ·have Hf:lv<sz:=by
      rcases mK with h'|h'
      ·exact absurd h' ht
      ·omega
     have hd:q/8^3<8:=by
      rw[show(8:Nat)^3=512 by decide];omega
     obtain⟨a1,a2,s,a3,a4⟩:=ykB h.ok q 3 (by omega) 0 0 (by omega) (by decide) (by omega) (by omega) h.code;have hp:below (q:Int) 4096=Y:=zB.2 ⟨by omega,by omega⟩
     have eX:zg S 0 (q:Int)=(thr S (onW (q:Int)) 3 0 0).1:=by unfold zg;rw[if_pos ⟨hp,a1⟩]
     have e1:s.level=lv:=by
      have:=F.way.yhw;rw[eX]at this;unfold Go.Proofs.YtdphiompijbelaaGreat.yhw at this;rw[a3]at this;exact yK.1 this
     obtain⟨s',m1,m2,m3⟩:=way_step S (q:Int) 3 0 0 a1 s a3 sz (by omega) (by omega);obtain⟨A',B',sp⟩:=yk8 h.ok q 3 (by omega) 0 0 (by omega) (by decide) (by omega) (by omega) h.code h.nodup s' m1;have ru:=sp.all;have PN:=sp.en;have dm:=sp.place;have uD:=sp.ahead;have fe:=sp.le;have H6:=sp.code;obtain⟨st,uu,sl,sa,se⟩:=s';simp only at m2 m3 ru PN dm uD fe H6;subst m2;obtain⟨rT,ho⟩:=yhQ H6;rw[<-PN]at ho;rcases ho with ⟨Hw,_⟩|⟨_,hr,ho⟩
     ·rw[Hw]at m3;cases m3
     ·obtain⟨b,rfl⟩:=yhR (by rw[<-PN];exact m3)
      have tF:(thr S zW b se.f ((sa-uu+uu)*8)).2=0:=hr
      have ai:spt S st uu (b+1) (sa-uu)=⟨st,uu,b+1,sa,se⟩:=by
       unfold spt;rw[<-PN,D fe]
      rw[ai]at ho
      have RI:∀x,x ∈ se.f::zU (thr S zW b se.f ((sa-uu+uu)*8)).1->x ∈ zU (thr S zW 3 0 0).1:=by
       intro x hx;rw[ru,yhq,yhq,ho,yh4 m3];exact I _ (N _ hx)
      obtain⟨x,hx⟩:=ylp b se.f ((sa-uu+uu)*8) tF (h.full _ (RI _ V)) (fun x hx=>h.full x (RI x (J _ hx)))
      have KE:x ∈ zM (out S zW (b+1) (sub S zW (b+1)) st (sa-uu) uu).1:=by
       rw[ho];simp only[zM,o,Z];exact .inr hx
      refine⟨x,?_,?_⟩
      ·rw[<-h.maps,ru,yhv,yhv]
       exact I _ (N _ KE)
      ·have fJ:uu<8:=by rw[dm];exact yid _ _
       have RG:sa-uu+8<=8^(4-(b+1)):=by
        have h5:=(ykt q (b+1)).2;rw[<-dm,<-uD]at h5;rw[h5]
        have h6:q/8^(b+1+1)<8^(4-(b+1+1)):=by
         rw[yi (kp (by decide)),<-yY,show 4-(b+1+1)+(b+1+1)=4 by omega];exact hq
        have h7:(8:Nat)^(4-(b+1))=8^(4-(b+1+1))*8:=by rw[<-W,show(4-(b+1+1)).succ=4-(b+1) by omega]
        rw[h7];have h8:=Q 8 (Nat.succ_le_of_lt h6);rw[Nat.succ_mul]at h8;exact h8
       obtain⟨r1,r2⟩:=yiw h.ok (by omega) fJ RG H6 KE;rw[D fe,uD,kI]at r1;rw[D fe,uD,uv,ud,kI]at r2;have hxs:=(yhC (fV.ok x (by rw[<-h.maps,ru,yhv,yhv];exact I _ (N _ KE)))).1;have hxb:=(yhH x.s).1
       have:over m.p m.s x.p=Y:=by
        simp only[over,yJ,decide_eq_true_eq];rw[gF,nN];omega
       simp[Mp.meets,meet,this]
   obtain⟨x,hx,wT⟩:=FU
   have ea:addC L m=4:=by rw[addC,if_neg (by simpa using hm),if_pos (yu.2 ⟨x,hx,wT⟩)]
   refine .inr ⟨by omega,by rw[eC,ea],?_⟩;rw[insS,addL,eC,ea,if_neg (by decide),if_neg (by decide)];exact⟨h,fun s hs _=>hs⟩
  ·rw[if_neg mK]at eC
   by_cases kR:S.free<(lv:Int)-m.s
   ·rw[if_pos kR]at eC
    exact .inl ⟨eC,by have:=F.le;omega,by rw[insS,eC,if_neg (by decide)]⟩
   ·rw[if_neg kR]at eC
    have ht:e.t=O:=by
     cases he:e.t
     ·rfl
     ·exact absurd (.inl he) mK
    have Ko:sz<=lv:=by omega
    have hL:=F.list;rw[if_neg (by simp[ht]),ks]at hL
    have hup:q+8^sz<=(q/8^lv+1)*8^lv:=by
     have e1:8^lv=8^(lv-sz)*8^sz:=by rw[<-yY,D Ko]
     rw[e1,<-yI]at wE ⊢;rw[<-kI]at wE ⊢
     have h5:q/8^sz<(q/(8^(lv-sz)*8^sz)+1)*8^(lv-sz):=by
      rw[kI]at wE;exact(yi L9).2 wE
     have h6:(q/8^sz+1)*8^sz<=(q/(8^(lv-sz)*8^sz)+1)*8^(lv-sz)*8^sz:=Q _ h5;rw[uv,ud]at h6;rw[kI]at h6 ⊢;exact h6
    have pA:∀x,x ∈ zM A->x.p<m.p/\x.meets m=O:=by
     intro x hx
     have hxL:x ∈ L:=by rw[hL];exact I _ hx
     have s1:=(yhC (fV.ok x hxL)).1;have b1:=(yhH x.s).1;have:=F.spot.ma x hx;simp only at this;refine⟨by omega,?_⟩;cases hh:x.meets m
     ·rfl
     ·simp[Mp.meets,meet,over]at hh
      omega
    have pB:∀x,x ∈ zM B->m.p<x.p/\x.meets m=O:=by
     intro x hx;have:=F.spot.mb x hx;simp only at this;refine⟨by omega,?_⟩;cases hh:x.meets m
     ·rfl
     ·simp[Mp.meets,meet,over]at hh
      rw[gF]at hh;omega
    have DR:addC L m=0:=by
     rw[addC,if_neg (by simpa using hm),if_neg];rw[yu];rintro ⟨x,hx,wT⟩;rw[hL]at hx;rcases Z.1 hx with hx|hx
     ·rw[(pA x hx).2]at wT;cases wT
     ·rw[(pB x hx).2]at wT;cases wT
    refine .inr ⟨by omega,by rw[eC,DR],?_⟩;rw[insS,addL,eC,DR,if_pos rfl,if_pos rfl,nN,F.way.yhw,F.way.lastT,<-nN];obtain⟨K,C⟩:=chain hq hm nN wL (lv-sz) lv (by omega) (by have:=F.le;omega) S tl h.ok F.way.hasT (by omega);rw[yV];generalize (insW m.p m.s lv S tl).1.store (insW m.p m.s lv S tl).2 (index m.p m.s) (enc Y Y m.r O O m.f m.s)=S' at*;have iX:=yiT 3 0 0 h.code
    have wB:But1 S S' ((0:Int)::(zU A++zU B)) tl (ix (q:Int) lv):=by
     intro x hx;have KD:=iX x (by rw[F.tabs];exact hx);have mh:=yic KD;have Ed:x.toNat ∈ S.used:=(h.ok.yhK KD).2.2;have Pv:=yic F.way.hasT;refine⟨?_,fun i hi Ho=>C.same x.toNat Ed i ?_⟩
     ·rw[KD]
      simp only[Fs.has,Fs.inn,yJ,decide_eq_true_eq];exact⟨mh,by rw[C.used];exact N _ Ed⟩
     ·rcases Ho with h'|h'
      ·exact .inl fun e=>h' (by omega)
      ·exact .inr h'
    have tN:=F.spot.turn S' wB (by simp only;exact C.code);simp only at tN
    have dG:zU (thr S' zW 3 0 0).1=zU A++K.map (fun k:Nat=>(k:Int))++zU B:=by
     rw[tN];simp only;rw[yhq,yhq,C.tabs]
    have Ng:∀x:Int,x ∈ K.map (fun k:Nat=>(k:Int))->∀y,y ∈ (0:Int)::(zU A++zU B)->x≠y:=by
     intro x hx y hy e;rw[yP]at hx;obtain⟨k,hk,rfl⟩:=hx;have:=(h.used k).2 (by rw[F.tabs,e];exact hy);exact C.nd.2 k hk this
    refine⟨⟨C.ok,by rw[tN],?_,?_,?_,?_⟩,?_⟩
    ·rw[tN]
     simp only;rw[yhv,yhv,C.maps,hL,ylh (fun x hx=>(pA x hx).1) (fun x hx=>(pB x hx).1),kO];rfl
    ·rw[dG]
     have fD:=h.nodup;rw[F.tabs]at fD
     have Nh:(K.map fun k:Nat=>(k:Int)).Nodup:=by
      rw[yB,yL];exact(yB.1 C.nd.1).imp fun Ho e=>Ho (yK.1 e)
     have Gc:((0:Int)::(zU A++K.map (fun k:Nat=>(k:Int))++zU B)).Perm (K.map (fun k:Nat=>(k:Int))++((0:Int)::(zU A++zU B))):=by
      refine List.Perm.trans ?_ List.perm_middle.symm;refine List.Perm.cons _ ?_;rw[<-kO];exact List.Perm.append_right _ List.perm_append_comm
     rw[Gc.nodup_iff,w];exact⟨Nh,fD,Ng⟩
    ·intro k
     rw[dG,C.used,Z,yM,h.used k,F.tabs];simp only[H,Z,yP];constructor
     ·rintro (hk|hk|hk|hk)
      ·exact .inr (.inl (.inr ⟨k,hk,rfl⟩))
      ·exact .inl hk
      ·exact .inr (.inl (.inl hk))
      ·exact .inr (.inr hk)
     ·rintro (hk|(hk|⟨j,hj,e⟩)|hk)
      ·exact .inr (.inl hk)
      ·exact .inr (.inr (.inl hk))
      ·exact .inl (yK.1 e▸hj)
      ·exact .inr (.inr (.inr hk))
    ·intro x hx
     rw[dG]at hx
     have old:x ∈ zU A++zU B->yhy S' x=O:=by
      intro hx;obtain⟨i,hi,Ho⟩:=yhV.1 (h.full x (by rw[F.tabs];exact hx));rw[yhV]
      by_cases e1:x=tl/\i=ix (q:Int) lv
      ·obtain⟨rfl,rfl⟩:=e1
       exact⟨_,yid _ _,C.word⟩
      ·refine⟨i,hi,?_⟩
       have:=(wB x (J _ hx)).2 i hi (by
        by_cases e2:x=tl
        ·exact .inr fun e3=>e1 ⟨e2,e3⟩
        ·exact .inl e2)
       rw[this];exact Ho
     rcases Z.1 hx with hx|hx
     ·rcases Z.1 hx with hx|hx
      ·exact old (I _ hx)
      ·rw[yP]at hx
       obtain⟨k,hk,rfl⟩:=hx;exact C.full k hk
     ·exact old (N _ hx)
    ·intro s hs hl
     have ru:=F.spot.all;simp only at ru;rw[F.one]at ru;rw[ru]at hs;rw[tN];rcases Z.1 hs with hs|hs
     ·rcases Z.1 hs with hs|hs
      ·exact I _ (I _ hs)
      ·simp at hs
       subst hs;rcases hl with hl|hl
       ·have hl':(rEn S tl (ix (q:Int) lv) lv).l=Y:=by rw[<-F.way.en];exact hl
        have:=(yhN h.ok hl').2.1;rw[<-F.way.en,ht]at this;cases this
       ·simp[En.on,ht]at hl
     ·exact N _ hs
 ·have e1:insC S 0 m=m.code:=by rw[insC,if_pos hm]
  have e2:addC L m=m.code:=by rw[addC,if_pos hm]
  have LU:m.code≠6:=by
   unfold Mp.code check;split
   ·decide
   ·split
    ·decide
    ·split<;>decide
  have FZ:m.code≠0:=hm;refine .inr ⟨by rw[e1];exact LU,by rw[e1,e2],?_⟩;rw[insS,addL,e1,e2,if_neg FZ,if_neg FZ];exact⟨h,fun s hs _=>hs⟩
end Pg
namespace Pg
theorem yk5 (S:Fs) (p:Int) (lv:Nat) (t:Int) (a:Nat) {s:Sp} (h:(thr S (onW p) lv t a).1[0]?=some s):s.table=t:=by
 rw[yhS]at h;split at h
 ·simp at h
 ·split at h
  ·simp at h
   subst h;rfl
  ·simp at h
   subst h;rfl
theorem ylG (S:Fs) (p:Int):∀(lv:Nat) (t:Int) (a i:Nat) (s:Sp),(thr S (onW p) lv t a).1[i]?=some s->s.level+i=lv/\(∀s',(thr S (onW p) lv t a).1[i+1]?=some s'->s.e.on=Y/\s.e.f=s'.table):=by
 intro lv
 induction lv with
 | zero=>
   intro t a i s hs;rw[yhS]at hs ⊢;split at hs
   ·simp at hs
   ·rename_i h1
    rw[if_neg h1];split at hs
    ·rename_i h2
     rw[if_pos h2]
     cases i with
     | zero=>
       simp at hs;subst hs;exact⟨rfl,fun s' h'=>by simp at h'⟩
     | succ i=>simp at hs
    ·rename_i h2
     obtain⟨m,hm⟩:=yhR (S:=S) (t:=t) (i:=ix p 0) (lv:=0) (by simpa using h2);omega
 | succ lv ih=>
   intro t a i s hs;rw[yhS]at hs ⊢;split at hs
   ·simp at hs
   ·rename_i h1
    rw[if_neg h1];split at hs
    ·rename_i h2
     rw[if_pos h2]
     cases i with
     | zero=>
       simp at hs;subst hs;exact⟨rfl,fun s' h'=>by simp at h'⟩
     | succ i=>simp at hs
    ·rename_i h2
     rw[if_neg h2]
     have h2:(rEn S t (ix p (lv+1)) (lv+1)).on=Y:=by simpa using h2
     simp only[sub]at hs ⊢
     cases i with
     | zero=>
       simp at hs;subst hs;refine⟨rfl,fun s' h'=>⟨h2,?_⟩⟩;rw[yU]at h';exact(yk5 S p lv _ _ h').symm
     | succ i=>
       rw[yU]at hs;obtain⟨j1,j2⟩:=ih _ _ i s hs;refine⟨by omega,fun s' h'=> ?_⟩;rw[yU]at h';exact j2 s' h'
def gives:List Int->Fs->Fs
 | [],S=>S
 | x::r,S=>gives r (S.give x)
theorem give_like {S:Fs} {x:Int} (h:S.Ok) (hx:S.has x=Y):(S.give x).word=S.word/\(S.give x).n=S.n/\(∀k,k ∈ (S.give x).used ↔ k ∈ S.used/\k≠x.toNat)/\(S.give x).free=S.free+1:=by
 have fD:S.used.Nodup:=(w.1 h.nodup).1;unfold Fs.give;rw[if_pos hx];refine⟨rfl,rfl,fun k=> ?_,?_⟩
 ·show k ∈ S.used.erase x.toNat ↔ _
  rw[fD.mem_erase_iff];exact And.comm
 ·unfold Fs.free
  simp only[yH,List.length_singleton];omega
theorem yij:∀(G:List Int) (S:Fs),S.Ok->G.Nodup->(∀x,x ∈ G->S.has x=Y)->(gives G S).Ok/\(gives G S).word=S.word/\(gives G S).n=S.n/\(∀k:Nat,k ∈ (gives G S).used ↔ k ∈ S.used/\(k:Int) ∉ G)/\(gives G S).free=S.free+G.length
 | [],S,h,_,_=>⟨h,rfl,rfl,fun k=>by simp[gives],by simp[gives]⟩
 | x::r,S,h,fD,hh=>by
   have hx:=hh x V;have mh:=yic hx;obtain⟨g1,g2,g3,g4⟩:=give_like h hx;obtain⟨hxr,hr⟩:=ua.1 fD
   have Pt:∀y,y ∈ r->(S.give x).has y=Y:=by
    intro y hy;have Ef:=hh y (J _ hy);have GI:=yic Ef;simp only[Fs.has,Fs.inn,yJ,decide_eq_true_eq];refine⟨GI,(g3 _).2 ⟨(h.yhK Ef).2.2,fun e=> ?_⟩⟩
    have:y=x:=by omega
    exact hxr (this▸hy)
   obtain⟨i1,i2,i3,i4,i5⟩:=yij r (S.give x) (h.give x) hr Pt;refine⟨i1,by show(gives r (S.give x)).word=_;rw[i2,g1],by show(gives r (S.give x)).n=_;rw[i3,g2],fun k=> ?_,?_⟩
   ·show k ∈ (gives r (S.give x)).used ↔ _
    rw[i4 k,g3 k,H];constructor
    ·rintro ⟨⟨a1,a2⟩,a3⟩
     exact⟨a1,fun e=>by rcases e with e|e;exact a2 (by omega);exact a3 e⟩
    ·rintro ⟨a1,a2⟩
     exact⟨⟨a1,fun e=>a2 (.inl (by omega))⟩,fun e=>a2 (.inr e)⟩
   ·show(gives r (S.give x)).free=_
    rw[i5,g4,yG];omega
structure Up (S S':Fs) (q:Nat) (ts:List Int) (k:Nat):Prop where
 ok:S'.Ok
 used:S'.used=S.used
 n:S'.n=S.n
 same:∀x:Int,S.has x=Y->∀i,(∀j,k<j->j<ts.length->¬(x=ts.getD j 0/\i=ix (q:Int) (3-j)))->S'.word x.toNat i=S.word x.toNat i
 free:S'.free=S.free
theorem Up.has {S S':Fs} {q:Nat} {ts:List Int} {k:Nat} (h:Up S S' q ts k) (x:Int):S'.has x=S.has x:=by
 unfold Fs.has Fs.inn;rw[h.used]
structure Removed (S:Fs) (L:List Mp) (x:Mp) (R:Fs×List Int) (A B:List Sp) (z:Sp) (T:List Int):Prop where
 list:L=zM A++[x]++zM B
 all:∃M,(Pg.thr S zW 3 0 0).1=A++M++B/\zM M=[x]
 tabs:zU (thr S zW 3 0 0).1=zU A++T++zU B
 gone:R.2=T.reverse
 ok:R.1.Ok
 used:R.1.used=S.used
 free:R.1.free=S.free
 n:R.1.n=S.n
 thr:thr R.1 zW 3 0 0=(A++[z]++B,0)
 zero:z.e=En.zero
 full:∀y,y ∈ zU A++zU B->yhy R.1 y=O
theorem getD_drop (l:List Int) (j k:Nat) (h:k<j) (h2:j<l.length):l.getD j 0 ∈ l.drop (k+1):=by
 have e:l.getD j 0=l[j]'h2:=by simp[List.getD,yN h2]
 rw[e];refine List.mem_iff_getElem?.2 ⟨j-(k+1),?_⟩;rw[List.getElem?_drop,show k+1+(j-(k+1))=j by omega,yN h2]
theorem ykc (l:List Int) (j:Nat) (h:j<l.length):l.drop j=l.getD j 0::l.drop (j+1):=by
 have e:l.getD j 0=l[j]'h:=by simp[List.getD,yN h]
 rw[e];exact List.drop_eq_getElem_cons h
theorem ylL {S:Fs} {L:List Mp} (h:Rep S L) {q:Nat} (hq:q<4096) (hz:xQ S 0 (q:Int)=0) (x:Mp):∀(k:Nat),k<(zg S 0 (q:Int)).length->∀(S':Fs) (G:List Int),Up S S' q (tabs (zg S 0 (q:Int))) k->
 (∀s,(zg S 0 (q:Int))[k]?=some s->zM (out S zW s.level (sub S zW s.level) s.table (s.ahead-s.place) s.place).1=[x]/\zU (out S zW s.level (sub S zW s.level) s.table (s.ahead-s.place) s.place).1=(tabs (zg S 0 (q:Int))).drop (k+1))->
 G=((tabs (zg S 0 (q:Int))).drop (k+1)).reverse->∃A B z T,Removed S L x (rmW (q:Int) (tabs (zg S 0 (q:Int))) (k+1) S' G) A B z T:=by
 have hp:below (q:Int) 4096=Y:=zB.2 ⟨by omega,by omega⟩
 have hd:q/8^3<8:=by
  rw[show(8:Nat)^3=512 by decide];omega
 have GD:(thr S (onW (q:Int)) 3 0 0).2=0:=by
  unfold xQ at hz;rw[if_pos hp]at hz;exact hz
 have eX:zg S 0 (q:Int)=(thr S (onW (q:Int)) 3 0 0).1:=by unfold zg;rw[if_pos ⟨hp,GD⟩]
 obtain⟨lv0,e0,tl0,l9⟩:=ykp hz;have iX:=yiT 3 0 0 h.code
 have step:∀(k:Nat),k<(zg S 0 (q:Int)).length->∀(S':Fs) (G:List Int),Up S S' q (tabs (zg S 0 (q:Int))) k->
  (∀s,(zg S 0 (q:Int))[k]?=some s->zM (out S zW s.level (sub S zW s.level) s.table (s.ahead-s.place) s.place).1=[x]/\zU (out S zW s.level (sub S zW s.level) s.table (s.ahead-s.place) s.place).1=(tabs (zg S 0 (q:Int))).drop (k+1))->
  G=((tabs (zg S 0 (q:Int))).drop (k+1)).reverse->
  (∀k',k=k'+1->∀(S1:Fs) (G1:List Int),Up S S1 q (tabs (zg S 0 (q:Int))) k'->
    (∀s,(zg S 0 (q:Int))[k']?=some s->zM (out S zW s.level (sub S zW s.level) s.table (s.ahead-s.place) s.place).1=[x]/\zU (out S zW s.level (sub S zW s.level) s.table (s.ahead-s.place) s.place).1=(tabs (zg S 0 (q:Int))).drop (k'+1))->
    G1=((tabs (zg S 0 (q:Int))).drop (k'+1)).reverse->∃A B z T,Removed S L x (rmW (q:Int) (tabs (zg S 0 (q:Int))) (k'+1) S1 G1) A B z T)->
  ∃A B z T,Removed S L x (rmW (q:Int) (tabs (zg S 0 (q:Int))) (k+1) S' G) A B z T:=by
  intro k hk S' G U hs hG next;obtain⟨s,hsk⟩:∃s,(zg S 0 (q:Int))[k]?=some s:=⟨_,yN hk⟩;obtain⟨hm,ht⟩:=hs s hsk;have hsk':=hsk;rw[eX]at hsk';obtain⟨WG,_⟩:=ylG S (q:Int) 3 0 0 k s hsk';obtain⟨A,B,sp⟩:=yk8 h.ok q 3 (by omega) 0 0 (by omega) (by decide) (by omega) (by omega) h.code h.nodup s (yX hsk')
  have l6:(tabs (zg S 0 (q:Int))).getD k 0=s.table:=by
   unfold Go.Proofs.YtdphiompijbelaaGreat.tabs;rw[List.getD,List.getElem?_map,hsk];rfl
  have Hg:(tabs (zg S 0 (q:Int))).length=(zg S 0 (q:Int)).length:=xC _
  have aj:S.has s.table=Y:=l9.has _ (by
   unfold Go.Proofs.YtdphiompijbelaaGreat.tabs
   exact yP.2 ⟨s,yX hsk,rfl⟩)
  have dI:ix (q:Int) s.level<8:=yid _ _
  have Lb:index (q:Int) (3-(k:Int))=(ix (q:Int) s.level:Nat):=by
   rw[show(3-(k:Int))=(s.level:Int) by omega];exact yim hq (by omega)
  have Gv:S'.has s.table=Y:=by rw[U.has];exact aj
  have dm:=sp.place;have ru:=sp.all;have fD:=h.nodup;rw[ru,yhq,yhq,ht]at fD;obtain⟨mH,iC⟩:=ua.1 fD;rw[w]at iC;obtain⟨nO,FY,kP⟩:=iC;rw[w]at nO
  have inT:∀j,k<j->j<(zg S 0 (q:Int)).length->(tabs (zg S 0 (q:Int))).getD j 0 ∈ (tabs (zg S 0 (q:Int))).drop (k+1):=by
   intro j h1 h2
   have h3:j<(tabs (zg S 0 (q:Int))).length:=by omega
   exact getD_drop _ _ _ h1 h3
  have uP:∀y,y ∈ (0:Int)::(zU A++zU B)->y ∉ (tabs (zg S 0 (q:Int))).drop (k+1):=by
   intro y hy iO;rcases H.1 hy with rfl|hy
   ·exact mH (I _ (N _ iO))
   ·rcases Z.1 hy with hy|hy
    ·exact nO.2.2 y hy y iO rfl
    ·exact kP y (N _ iO) y hy rfl
  have sM:s.table ∉ (tabs (zg S 0 (q:Int))).drop (k+1):=uP _ (by
   rcases H.1 sp.memA with e|e
   ·rw[e];exact V
   ·exact J _ (I _ e))
  have GR:∀y,y ∈ (0:Int)::(zU A++zU B)->S.has y=Y:=by
   intro y hy;refine iX y ?_;rw[ru,yhq,yhq];rcases H.1 hy with rfl|hy
   ·exact V
   ·refine J _ ?_
    rcases Z.1 hy with hy|hy
    ·exact I _ (I _ hy)
    ·exact N _ hy
  generalize ww:S'.store s.table ((ix (q:Int) s.level:Nat):Int) 0=S1
  have ok1:S1.Ok:=by rw[<-ww];exact U.ok.store _ _ (by decide) (by decide)
  obtain⟨n1,n2,n3,n4⟩:=yif S' s.table ((ix (q:Int) s.level:Nat):Int) 0;rw[ww]at n1 n2 n3 n4
  have pY:S1.free=S'.free:=by rw[<-ww];exact yjh _ _ _ _
  have w0:S1.word s.table.toNat (ix (q:Int) s.level)=0:=by rw[<-ww];exact yix Gv dI 0
  have h0s:=yic aj
  have wo:∀y:Int,0<=y->∀i,(y≠s.table\/i≠ix (q:Int) s.level)->S1.word y.toNat i=S'.word y.toNat i:=by
   intro y hy i Ho;rw[<-ww,yiS Gv dI]
   show Fs.put S'.word s.table.toNat (ix (q:Int) s.level) 0 y.toNat i=_
   unfold Fs.put;rw[if_neg];rintro ⟨e1,e2⟩;rcases Ho with h'|h'
   ·exact h' (by omega)
   ·exact h' e2
  have DT:∀y,S1.has y=S.has y:=by
   intro y;unfold Fs.has Fs.inn;rw[n2,U.used]
  have wS:∀y,S.has y=Y->y ∉ (tabs (zg S 0 (q:Int))).drop (k+1)->∀i,(y≠s.table\/i≠ix (q:Int) s.level)->S1.word y.toNat i=S.word y.toNat i:=by
   intro y hy iO i Ho;rw[wo y (yic hy) i Ho];refine U.same y hy i fun j h1 h2=> ?_;rintro ⟨e1,_⟩;exact iO (e1▸inT j h1 (by omega))
  have wB:But1 S S1 ((0:Int)::(zU A++zU B)) s.table s.place:=by
   intro y hy;refine⟨DT y,fun i _ Ho=>wS y (GR y hy) (uP y hy) i (by rw[<-dm];exact Ho)⟩
  have dn:=yiH (S:=S1) (lv:=s.level) (by rw[DT];exact aj) (by omega) w0;have sO:=sp.le;have uD:=sp.ahead
  have OW:out S1 zW s.level (sub S1 zW s.level) s.table (s.ahead-s.place) s.place=([⟨s.table,ix (q:Int) s.level,s.level,q/8^s.level,En.zero⟩],0):=by
   rw[uD,dm];rw[uD,dm]at sO;exact yky sO dn.2.symm dn.1 rfl
  have tN:=sp.turn S1 wB (by rw[OW]);rw[OW]at tN
  have FL:L=zM A++[x]++zM B:=by rw[<-h.maps,ru,yhv,yhv,hm]
  have ui:zU (thr S zW 3 0 0).1=zU A++(tabs (zg S 0 (q:Int))).drop (k+1)++zU B:=by rw[ru,yhq,yhq,ht]
  have Ck:rmW (q:Int) (tabs (zg S 0 (q:Int))) (k+1) S' G=if k=0\/yhy S1 s.table=O then(S1,G)else rmW (q:Int) (tabs (zg S 0 (q:Int))) k S1 (G++[s.table]):=by
   show(if k=0\/yhy (S'.store ((tabs (zg S 0 (q:Int))).getD k 0) (index (q:Int) (3-(k:Int))) 0) ((tabs (zg S 0 (q:Int))).getD k 0)=O then _ else _)=_
   rw[l6,Lb,ww]
  rw[Ck]
  by_cases uh:k=0\/yhy S1 s.table=O
  ·rw[if_pos uh]
   refine⟨A,B,⟨s.table,ix (q:Int) s.level,s.level,q/8^s.level,En.zero⟩,(tabs (zg S 0 (q:Int))).drop (k+1),⟨FL,⟨_,ru,hm⟩,ui,hG,ok1,by rw[n2,U.used],by rw[pY,U.free],by rw[n1,U.n],tN,rfl,fun y hy=> ?_⟩⟩
   by_cases e:y=s.table
   ·rcases uh with h0|h0
    ·exfalso
     subst h0;have:s.table=0:=yk5 S (q:Int) 3 0 0 hsk';rw[e,this]at hy;refine mH ?_;rcases Z.1 hy with hy|hy
     ·exact I _ (I _ hy)
     ·exact N _ hy
    ·rw[e];exact h0
   ·have GJ:y ∈ (0:Int)::(zU A++zU B):=J _ hy
    obtain⟨i,hi,Ho⟩:=yhV.1 (h.full y (by
     rw[ui];rcases Z.1 hy with hy|hy
     ·exact I _ (I _ hy)
     ·exact N _ hy))
    rw[yhV];exact⟨i,hi,by rw[wS y (GR y GJ) (uP y GJ) i (.inl e)];exact Ho⟩
  ·rw[if_neg uh]
   obtain⟨k',rfl⟩:∃k',k=k'+1:=⟨k-1,by omega⟩
   have NS:∀i,i<8->S1.word s.table.toNat i=0:=by
    intro i hi;cases hw:S1.word s.table.toNat i==0
    ·exact absurd (.inr (yhV.2 ⟨i,hi,by simpa using hw⟩)) uh
    ·simpa using hw
   refine next k' rfl S1 (G++[s.table]) ⟨ok1,by rw[n2,U.used],by rw[n1,U.n],?_,by rw[pY,U.free]⟩ ?_ ?_
   ·intro y hy i Ho
    have h1:=Ho (k'+1) (by omega) (by omega);rw[l6,show 3-(k'+1)=s.level by omega]at h1
    rw[wo y (yic hy) i (by
     by_cases e:y=s.table
     ·exact .inr fun e2=>h1 ⟨e,e2⟩
     ·exact .inl e)]
    exact U.same y hy i fun j h2 h3=>Ho j (by omega) h3
   ·intro s' ai
    have hs'':=ai;rw[eX]at hs'';obtain⟨OB,tL⟩:=ylG S (q:Int) 3 0 0 k' s' hs'';obtain⟨pQ,Fu⟩:=tL s hsk';obtain⟨A',B',sp'⟩:=yk8 h.ok q 3 (by omega) 0 0 (by omega) (by decide) (by omega) (by omega) h.code h.nodup s' (yX hs'');obtain⟨kK,tZ⟩:=yhQ sp'.code;rw[<-sp'.en]at tZ
    have wK:s'.level=s.level+1:=by omega
    rcases tZ with ⟨FV,_⟩|⟨_,nT,tZ⟩
    ·rw[FV]at pQ;cases pQ
    ·have hl':s'.e.l=O:=by
      have:=pQ;simp[En.on]at this;exact this.2
     have Kk:spt S s'.table s'.place s'.level (s'.ahead-s'.place)=s':=by
      have h1:=sp'.en;have h2:=sp'.le;obtain⟨a1,a2,a3,a4,a5⟩:=s';simp only at h1 h2 ⊢;unfold spt;rw[<-h1,D h2]
     rw[Kk]at tZ
     have RH:sub S zW s'.level=thr S zW s.level:=by rw[wK];rfl
     rw[RH,D sp'.le,Fu,sp'.ahead,wK,<-(ykt q s.level).2]at tZ nT
     have kX:(out S zW s'.level (sub S zW s'.level) s'.table (s'.ahead-s'.place) s'.place).1=s'::(thr S zW s.level s.table (q/8^s.level-ix (q:Int) s.level)).1:=by
      have e1:s'.ahead-s'.place=q/8^(s.level+1)-s'.place:=by rw[sp'.ahead,wK]
      rw[RH,e1,wK];exact tZ
     have iF:=yhO nT
     have ul:∀j,j<8->j≠ix (q:Int) s.level->out S zW s.level (sub S zW s.level) s.table (q/8^s.level-ix (q:Int) s.level) j=([spt S s.table j s.level (q/8^s.level-ix (q:Int) s.level)],0)/\(spt S s.table j s.level (q/8^s.level-ix (q:Int) s.level)).e=En.zero:=by
      intro j hj Ho
      have hw:S.word s.table.toNat j=0:=by rw[<-wS s.table aj sM j (.inr Ho)];exact NS j hj
      obtain⟨r1,r2⟩:=yiH (lv:=s.level) aj (by omega) hw;refine⟨?_,r2⟩;unfold out;rw[if_neg (by simp[zW]),if_neg (by simpa using r1),if_pos (by rw[r2];rfl)]
     have rD:out S zW s.level (sub S zW s.level) s.table (s.ahead-s.place) s.place=out S zW s.level (sub S zW s.level) s.table (q/8^s.level-ix (q:Int) s.level) (ix (q:Int) s.level):=by rw[uD,dm]
     rw[rD]at hm ht;constructor
     ·rw[kX]
      have e1:zM (s'::(thr S zW s.level s.table (q/8^s.level-ix (q:Int) s.level)).1)=zM (thr S zW s.level s.table (q/8^s.level-ix (q:Int) s.level)).1:=by simp[zM,hl']
      rw[e1,iF.2]
      have e2:zM ((List.range 8).flatMap fun j=>(out S zW s.level (sub S zW s.level) s.table (q/8^s.level-ix (q:Int) s.level) j).1)=(ue 0 8).flatMap fun j=>zM (out S zW s.level (sub S zW s.level) s.table (q/8^s.level-ix (q:Int) s.level) j).1:=by
       simp only[zM,ki,yR]
      rw[e2,flatMap_one _ (ix (q:Int) s.level) 8 0 (fun j _ h2 h3=>by rw[(ul j (by omega) h3).1];simp[zM,(ul j (by omega) h3).2,En.zero]),if_pos (by omega),hm]
     ·rw[kX,yh4 pQ,Fu,iF.2]
      have e2:zU ((List.range 8).flatMap fun j=>(out S zW s.level (sub S zW s.level) s.table (q/8^s.level-ix (q:Int) s.level) j).1)=(ue 0 8).flatMap fun j=>zU (out S zW s.level (sub S zW s.level) s.table (q/8^s.level-ix (q:Int) s.level) j).1:=by
       simp only[zU,ki,yR]
      rw[e2,flatMap_one _ (ix (q:Int) s.level) 8 0 (fun j _ h2 h3=>by rw[(ul j (by omega) h3).1];simp[zU,(ul j (by omega) h3).2,En.zero,En.on]),if_pos (by omega),ht]
      have h3:k'+1<(tabs (zg S 0 (q:Int))).length:=by omega
      rw[ykc _ _ h3,l6]
   ·have h3:k'+1<(tabs (zg S 0 (q:Int))).length:=by omega
    rw[ykc _ _ h3,List.reverse_cons,<-hG,l6]
 intro k
 induction k with
 | zero=>exact fun hk S' G U hs hG=>step 0 hk S' G U hs hG (fun k' e=>by omega)
 | succ k ih=>
   intro hk S' G U hs hG;refine step (k+1) hk S' G U hs hG fun k' e=> ?_
   have:k'=k:=by omega
   subst this;exact ih (by omega)
end Pg
namespace Pg
theorem ylw {S:Fs} (h:S.Ok) (q:Nat) (ts:List Int) (k:Nat):Up S S q ts k:=⟨h,rfl,rfl,fun _ _ _ _=>rfl,rfl⟩
theorem yld {A B:List Mp} {x:Mp} {q:Int} (hL:Good (A++[x]++B)) (hx:x.has q=Y):fnd (A++[x]++B) q=some A.length:=by
 have hp:=hL.up;rw[kO,List.pairwise_append]at hp
 have hA:∀m,m ∈ A->m.has q=O:=by
  intro m hm;have h1:=hp.2.2 m hm x (by simp);cases hh:m.has q
  ·rfl
  ·obtain⟨h1,h2⟩:=h1
   simp[Mp.meets,meet,over]at h2;simp[Mp.has,over]at hh hx;omega
 unfold fnd;rw[kO,yk]
 have:A.findIdx? (fun m=>m.has q)=none:=by
  rw[yZ];exact hA
 rw[this];simp[hx,yr]
theorem erase_mid (A B:List Mp) (x:Mp):(A++[x]++B).eraseIdx A.length=A++B:=by
 rw[kO,List.eraseIdx_append_of_length_le (yy _)];simp
theorem yjD {S:Fs} {L:List Mp} (h:Rep S L) {x:Mp} {R:Fs×List Int} {A B:List Sp} {z:Sp} {T:List Int} (r:Removed S L x R A B z T):
 R.2.Nodup/\(∀y,y ∈ R.2->R.1.has y=Y)/\Rep (gives R.2 R.1) (zM A++zM B)/\(gives R.2 R.1).free=S.free+R.2.length/\thr (gives R.2 R.1) zW 3 0 0=(A++[z]++B,0):=by
 have iX:=yiT 3 0 0 h.code;have fD:=h.nodup;rw[r.tabs]at fD iX;obtain⟨mH,iC⟩:=ua.1 fD;rw[w]at iC;obtain⟨nO,FY,kP⟩:=iC;rw[w]at nO;obtain⟨LM,LP,Fj⟩:=nO
 have Nv:∀y,R.1.has y=S.has y:=by
  intro y;unfold Fs.has Fs.inn;rw[r.used]
 have OM:R.2.Nodup:=by rw[r.gone];exact List.pairwise_reverse.2 (LP.imp fun h=>h.symm)
 have Ot:∀y,y ∈ R.2->R.1.has y=Y:=by
  intro y hy;rw[r.gone,yM]at hy;rw[Nv];exact iX y (J _ (I _ (N _ hy)))
 have uP:∀y,y ∈ (0:Int)::(zU A++zU B)->y ∉ T:=by
  intro y hy iO;rcases H.1 hy with rfl|hy
  ·exact mH (I _ (N _ iO))
  ·rcases Z.1 hy with hy|hy
   ·exact Fj y hy y iO rfl
   ·exact kP y (N _ iO) y hy rfl
 obtain⟨g1,g2,g3,g4,g5⟩:=yij R.2 R.1 r.ok OM Ot
 have rZ:zU [z]=[]:=by simp[zU,r.zero,En.zero,En.on]
 have rX:zM [z]=[]:=by simp[zM,r.zero,En.zero]
 have dG:zU (thr R.1 zW 3 0 0).1=zU A++zU B:=by rw[r.thr,yhq,yhq,rZ,ks]
 have PI:thr (gives R.2 R.1) zW 3 0 0=thr R.1 zW 3 0 0:=by
  refine yjH 3 0 0 (by rw[r.thr]) fun y hy=> ?_;rw[dG]at hy;have iO:=uP y hy;refine⟨?_,fun i _=>by rw[g2]⟩;rw[Bool.eq_iff_iff];simp only[Fs.has,Fs.inn,yJ,decide_eq_true_eq];constructor
  ·rintro ⟨a1,a2⟩
   exact⟨a1,((g4 _).1 a2).1⟩
  ·rintro ⟨a1,a2⟩
   refine⟨a1,(g4 _).2 ⟨a2,?_⟩⟩;rw[r.gone,yM,Int.toNat_of_nonneg a1];exact iO
 refine⟨OM,Ot,⟨g1,by rw[PI,r.thr],?_,?_,?_,?_⟩,by rw[g5,r.free],by rw[PI,r.thr]⟩
 ·rw[PI,r.thr,yhv,yhv,rX,ks]
 ·rw[PI,dG]
  refine ua.2 ⟨fun h0=>mH ?_,w.2 ⟨LM,FY,fun a ha b hb=>kP a (I _ ha) b hb⟩⟩;rcases Z.1 h0 with h0|h0
  ·exact I _ (I _ h0)
  ·exact N _ h0
 ·intro k
  rw[PI,dG,g4 k,r.used,h.used k,r.tabs,r.gone,yM];constructor
  ·rintro ⟨a1,a2⟩
   rcases H.1 a1 with a1|a1
   ·rw[a1];exact V
   ·refine J _ ?_
    rcases Z.1 a1 with a1|a1
    ·rcases Z.1 a1 with a1|a1
     ·exact I _ a1
     ·exact absurd a1 a2
    ·exact N _ a1
  ·intro a1
   refine⟨?_,uP _ a1⟩;rcases H.1 a1 with a1|a1
   ·rw[a1];exact V
   ·refine J _ ?_
    rcases Z.1 a1 with a1|a1
    ·exact I _ (I _ a1)
    ·exact N _ a1
 ·intro y hy
  rw[PI,dG]at hy;have:=r.full y hy;rw[yhV]at this ⊢;rw[g2];exact this
theorem yjV {S:Fs} {L:List Mp} (h:Rep S L) (p:Int):(rmR S 0 p).1.Ok/\(rmR S 0 p).1.n=S.n/\(rmR S 0 p).1.used=S.used/\(rmR S 0 p).2.Nodup/\(∀y,y ∈ (rmR S 0 p).2->(rmR S 0 p).1.has y=Y)/\Rep (gives (rmR S 0 p).2 (rmR S 0 p).1) (yhU L p)/\(gives (rmR S 0 p).2 (rmR S 0 p).1).free=S.free+(rmR S 0 p).2.length/\
 ∀s,s ∈ (thr S zW 3 0 0).1->s.e.l=Y->(tFC S 0 p=0->s.mp≠tFM S 0 p)->s ∈ (thr (gives (rmR S 0 p).2 (rmR S 0 p).1) zW 3 0 0).1:=by
 by_cases hc:tFC S 0 p=0
 ·have hd:yhI L p=0:=by rw[<-(yiI h p).1];exact hc
  have hp:below p 4096=Y:=by
   cases hp:below p 4096
   ·simp[yhI,hp]at hd
   ·rfl
  obtain⟨p0,p1⟩:=zB.1 hp;obtain⟨q,rfl⟩:=yT p0
  have hq:q<4096:=by omega
  obtain⟨hz,lv,e,tl,A,B,F⟩:=yit h (q:=q) hq
  have ht:e.t=Y:=by
   cases ht:e.t
   ·rw[tFC,hz,if_neg (by decide),F.way.yhu,ht]at hc
    simp at hc
   ·rfl
  obtain⟨hl,Lu,uL,pu⟩:=yh6 h.ok hq F ht;have Hg:=F.way.len
  have e1:(zg S 0 (q:Int)).length=(zg S 0 (q:Int)).length-1+1:=by omega
  have nH:(tabs (zg S 0 (q:Int))).drop ((zg S 0 (q:Int)).length-1+1)=[]:=by
   rw[<-e1];exact List.drop_eq_nil_of_le (by rw[xC];omega)
  have hR:rmR S 0 (q:Int)=rmW (q:Int) (tabs (zg S 0 (q:Int))) ((zg S 0 (q:Int)).length-1+1) S []:=by
   rw[rmR,if_pos hc,<-e1]
  obtain⟨A',B',z,T,r⟩:=ylL h hq hz (e.map lv (q:Int)) ((zg S 0 (q:Int)).length-1) (by omega) S [] (ylw h.ok q _ _) (by
   intro s hs;rw[nH]
   have hgl:(zg S 0 (q:Int)).getLast?=some s:=by rw[List.getLast?_eq_getElem?];exact hs
   have lu:(s.level:Int)=lv:=by
    have:=F.way.yhw;unfold Go.Proofs.YtdphiompijbelaaGreat.yhw at this;rw[hgl]at this;exact this
   have sM:s.table=tl:=by
    have:=F.way.lastT;unfold Go.Proofs.YtdphiompijbelaaGreat.lastT at this;rw[hgl]at this;exact this
   have lu:s.level=lv:=by omega
   have GD:(thr S (onW (q:Int)) 3 0 0).2=0:=by
    unfold xQ at hz;rw[if_pos hp]at hz;exact hz
   have eX:zg S 0 (q:Int)=(thr S (onW (q:Int)) 3 0 0).1:=by unfold zg;rw[if_pos ⟨hp,GD⟩]
   rw[eX]at hgl
   have BM:q/8^3<8:=by
    rw[show(8:Nat)^3=512 by decide];omega
   obtain⟨A1,B1,sp⟩:=yk8 h.ok q 3 (by omega) 0 0 (by omega) (by decide) (by omega) (by omega) h.code h.nodup s (yj hgl);rw[sp.ahead,sp.place,sM,lu,F.one];have gL:=yjF h.ok hq (ykt q lv).1 F.way.en hl;have Hw:=F.way.on;refine⟨?_,?_⟩
   ·rw[<-gL]
    simp[zM,hl]
   ·simp[zU,Hw]) (by rw[nH];rfl)
  rw[hR];obtain⟨r1,r2,r3,r4,r5⟩:=yjD h r;refine⟨r.ok,r.n,r.used,r1,r2,?_,r4,?_⟩
  rotate_left
  ·intro s hs lu Ho
   have Ho:=Ho hc;rw[tFM,if_pos hc,F.way.yhu,F.way.yhw]at Ho;obtain⟨M,hM,iW⟩:=r.all;rw[hM]at hs;rw[r5];rcases Z.1 hs with hs|hs
   ·rcases Z.1 hs with hs|hs
    ·exact I _ (I _ hs)
    ·have:s.mp ∈ zM M:=by
      simp only[zM,E];exact⟨s,hs,by rw[if_pos lu];exact V⟩
     rw[iW,yt]at this;exact absurd this Ho
   ·exact N _ hs
  have hg:=yh5 h;rw[r.list]at hg;have hf:=yld hg pu
  have:yhU L (q:Int)=zM A'++zM B':=by
   unfold yhU;rw[if_pos hd];rw[r.list,hf];exact erase_mid _ _ _
  rw[this];exact r3
 ·have hd:yhI L p≠0:=by rw[<-(yiI h p).1];exact hc
  have e:rmR S 0 p=(S,[]):=by rw[rmR,if_neg hc]
  have e2:yhU L p=L:=by rw[yhU,if_neg hd]
  rw[e,e2];exact⟨h.ok,rfl,rfl,yD,fun y hy=>by simp at hy,h,by simp[gives],fun s hs _ _=>hs⟩
end Pg
namespace Pg
def kOf (X:List Sp):List (Nat×Nat):=X.flatMap fun s=>if s.e.on=Y then [(s.level,s.ahead)]else []
theorem kOf_len (X:List Sp):(kOf X).length=(zU X).length:=by
 induction X with
 | nil=>rfl
 | cons s X ih=>
   have e1:kOf (s::X)=(if s.e.on=Y then [(s.level,s.ahead)]else [])++kOf X:=by simp[kOf]
   have e2:zU (s::X)=(if s.e.on=Y then [s.e.f]else [])++zU X:=by simp[zU]
   rw[e1,e2,yH,yH,ih]
   split<;>rfl
def Wants (L:List Mp) (lv:Nat) (k:Nat×Nat):Prop:=∃m,m ∈ L/\m.s<(k.1:Int)/\k.1<=lv/\k.2=m.p.toNat/8^k.1
structure Kpt (lv a n:Nat) (K:List (Nat×Nat)) (L:List Mp):Prop where
 nodup:K.Nodup
 mem:∀k,k ∈ K ↔ Wants L lv k
 low:∀k,k ∈ K->k.1<=lv/\a<=k.2/8^(lv-k.1)/\k.2/8^(lv-k.1)<a+n
 size:∀m,m ∈ L->m.s<=(lv:Int)
theorem ok_size {m:Mp} (h:m.code=0):m.s=0\/m.s=1\/m.s=2:=by
 obtain⟨h0,_⟩:=yhC h;rcases yhD m.s with ⟨e,_⟩|⟨e,_⟩|⟨e,_⟩|⟨_,_,_,e⟩
 ·exact .inl e
 ·exact .inr (.inl e)
 ·exact .inr (.inr e)
 ·exact absurd e h0
theorem div_pow (x c b:Nat) (h:b<=c):x/8^(c+1-b)=x/8^(c-b)/8:=by
 rw[show c+1-b=c-b+1 by omega,W,ur]
section
variable {S:Fs}
theorem kpt (h:S.Ok):∀(lv:Nat),lv<4->∀(t:Int) (a:Nat),a+8<=8^(4-lv)->(thr S zW lv t a).2=0->(∀x,x ∈ zU (thr S zW lv t a).1->yhy S x=O)->
 Kpt lv a 8 (kOf (thr S zW lv t a).1) (zM (thr S zW lv t a).1):=by
 intro lv
 induction lv using yS with
 | _ lv IH=>
 intro rP t a ha hz Fy;obtain⟨c1,c2⟩:=yhO hz;have sK:0<8^lv:=kp (by decide)
 have ru:(a+8)*8^lv<=4096:=by
  have h3:(a+8)*8^lv<=8^(4-lv)*8^lv:=Q _ ha;rw[<-yY,show 4-lv+lv=4 by omega]at h3
  have e:(8:Nat)^4=4096:=by decide
  omega
 have one:∀j,j<8->Kpt lv (a+j) 1 (kOf (out S zW lv (sub S zW lv) t a j).1) (zM (out S zW lv (sub S zW lv) t a j).1):=by
  intro j hj;obtain⟨hc,ho⟩:=yhQ (c1 j hj);have Kc:=fun m hm=>yiw h rP hj ha (c1 j hj) (m:=m) hm;have Nz:(a+j+1)*8^lv<=(a+8)*8^lv:=Q _ (by omega)
  have hex:(a+j+1)*8^lv=(a+j)*8^lv+8^lv:=by rw[uv,ud]
  rcases ho with ⟨Hw,ho⟩|⟨Hw,hr,ho⟩
  ·rw[ho]
   have ek:kOf [spt S t j lv a]=[]:=by
    have:(spt S t j lv a).e.on=O:=Hw;simp[kOf,this]
   rw[ek]
   have pU:∀m,m ∈ zM [spt S t j lv a]->m.s=(lv:Int):=by
    intro m hm
    by_cases hl:(rEn S t j lv).l=Y
    ·have hl':(spt S t j lv a).e.l=Y:=hl
     simp[zM,hl']at hm;subst hm;have h2:=(yhN h hl).2.2;rw[yiG h2,yhM h hl (by omega)]
    ·have hl':(spt S t j lv a).e.l=O:=yO.2 hl
     simp[zM,hl']at hm
   refine⟨yD,fun k=>⟨fun hk=>by simp at hk,?_⟩,fun k hk=>by simp at hk,fun m hm=>by rw[pU m hm];omega⟩;rintro ⟨m,hm,h1,h2,_⟩;have:=pU m hm;omega
  ·obtain⟨b,rfl⟩:=yhR Hw
   rw[ho]at Kc ⊢;have pQ:(spt S t j (b+1) a).e.on=Y:=Hw
   have hl':(spt S t j (b+1) a).e.l=O:=by
    simp[En.on]at pQ;exact pQ.2
   have tF:(thr S zW b (rEn S t j (b+1)).f ((a+j)*8)).2=0:=hr
   have pz:∀x,x ∈ (rEn S t j (b+1)).f::zU (thr S zW b (rEn S t j (b+1)).f ((a+j)*8)).1->yhy S x=O:=by
    intro x hx;refine Fy x (yiU hj hz ?_);rw[ho,yh4 pQ];exact hx
   have Rl:=IH b (by omega) (by omega) (rEn S t j (b+1)).f ((a+j)*8) (by
    rw[show 4-b=(4-(b+1))+1 by omega,W]
    omega) tF (fun x hx=>pz x (J _ hx))
   obtain⟨m0,bS⟩:=ylp b (rEn S t j (b+1)).f ((a+j)*8) tF (pz _ V) (fun x hx=>pz x (J _ hx))
   have ek:kOf (spt S t j (b+1) a::(sub S zW (b+1) (rEn S t j (b+1)).f ((a+j)*8)).1)=(b+1,a+j)::kOf (thr S zW b (rEn S t j (b+1)).f ((a+j)*8)).1:=by
    simp[kOf,Hw,sub,spt]
   have em:zM (spt S t j (b+1) a::(sub S zW (b+1) (rEn S t j (b+1)).f ((a+j)*8)).1)=zM (thr S zW b (rEn S t j (b+1)).f ((a+j)*8)).1:=by
    simp[zM,hl',sub]
   rw[em]at Kc;rw[ek,em]
   have OX:∀m,m ∈ zM (thr S zW b (rEn S t j (b+1)).f ((a+j)*8)).1->m.p.toNat/8^(b+1)=a+j:=by
    intro m hm;obtain⟨g1,g2⟩:=Kc m hm;have hsb:=Rl.size m hm
    have fV:=(ykh h b (by omega) (rEn S t j (b+1)).f ((a+j)*8) (by
     rw[show 4-b=(4-(b+1))+1 by omega,W]
     omega) tF).1 m hm
    have rQ:=(yhC fV).1;have pR:=(yhH m.s).1;refine Nat.div_eq_of_lt_le ?_ ?_
    ·omega
    ·omega
   refine⟨ua.2 ⟨fun hk=> ?_,Rl.nodup⟩,fun k=>⟨fun hk=> ?_,fun hk=> ?_⟩,fun k hk=> ?_,fun m hm=> ?_⟩
   ·have:=(Rl.low _ hk).1
    simp only at this;omega
   ·rcases H.1 hk with rfl|hk
    ·have:=Rl.size m0 bS
     exact⟨m0,bS,by simp only;omega,yy _,(OX m0 bS).symm⟩
    ·obtain⟨m,k1,k2,k3,k4⟩:=(Rl.mem k).1 hk
     exact⟨m,k1,k2,by omega,k4⟩
   ·obtain⟨m,k1,k2,k3,k4⟩:=hk
    by_cases e:k.1=b+1
    ·refine H.2 (.inl ?_)
     obtain⟨kl,kx⟩:=k;simp only at e k4;subst e;rw[k4,OX m k1]
    ·exact J _ ((Rl.mem k).2 ⟨m,k1,k2,by omega,k4⟩)
   ·rcases H.1 hk with rfl|hk
    ·refine⟨yy _,?_⟩
     simp only[Nat.sub_self,Nat.pow_zero,Nat.div_one];omega
    ·obtain⟨l1,l2,l3⟩:=Rl.low k hk
     refine⟨by omega,?_⟩;rw[div_pow _ _ _ l1];omega
   ·have:=Rl.size m hm
    omega
 rw[c2]
 have IZ:kOf ((List.range 8).flatMap fun j=>(out S zW lv (sub S zW lv) t a j).1)=(List.range 8).flatMap fun j=>kOf (out S zW lv (sub S zW lv) t a j).1:=by simp only[kOf,ki]
 have I4:zM ((List.range 8).flatMap fun j=>(out S zW lv (sub S zW lv) t a j).1)=(List.range 8).flatMap fun j=>zM (out S zW lv (sub S zW lv) t a j).1:=by simp only[zM,ki]
 rw[IZ,I4];refine⟨?_,fun k=>⟨fun hk=> ?_,fun hk=> ?_⟩,fun k hk=> ?_,fun m hm=> ?_⟩
 ·unfold List.Nodup
  rw[yz];refine⟨fun j hj=>(one j (by simpa using hj)).nodup,?_⟩;refine List.Pairwise.imp_of_mem ?_ (List.nodup_range (n:=8));intro i j hi hj Ho x hx y hy e;subst e;have h1:=(one i (by simpa using hi)).low x hx;have h2:=(one j (by simpa using hj)).low x hy;omega
 ·obtain⟨j,hj,hk⟩:=E.1 hk
  obtain⟨m,k1,k2⟩:=((one j (by simpa using hj)).mem k).1 hk;exact⟨m,E.2 ⟨j,hj,k1⟩,k2⟩
 ·obtain⟨m,k1,k2⟩:=hk
  obtain⟨j,hj,k1⟩:=E.1 k1;exact E.2 ⟨j,hj,((one j (by simpa using hj)).mem k).2 ⟨m,k1,k2⟩⟩
 ·obtain⟨j,hj,hk⟩:=E.1 hk
  have mU:j<8:=by simpa using hj
  have:=(one j mU).low k hk;omega
 ·obtain⟨j,hj,hm⟩:=E.1 hm
  exact(one j (by simpa using hj)).size m hm
end
def yln (m:Mp):List Int:=(List.filter (fun l:Nat=>decide (m.s<(l:Int))) [3,2,1]).map fun l:Nat=>((m.p.toNat/8^l*4+l:Nat):Int)
def see:List Int->List Int->List Int
 | [],A=>A
 | k::r,A=>see r (if k ∈ A then A else A++[k])
def seen (L:List Mp):List Int:=see (L.flatMap yln) []
def needed (L:List Mp):Int:=((seen L).length:Int)+1
theorem yj6:∀(l A:List Int),A.Nodup->(see l A).Nodup/\∀k,k ∈ see l A ↔ k ∈ A\/k ∈ l
 | [],A,h=>⟨h,fun k=>by simp[see]⟩
 | x::r,A,h=>by
   by_cases hx:x ∈ A
   ·obtain⟨i1,i2⟩:=yj6 r A h
    have e:see (x::r) A=see r A:=by simp[see,hx]
    rw[e];refine⟨i1,fun k=> ?_⟩;rw[i2 k,H];constructor
    ·rintro (h'|h')
     ·exact .inl h'
     ·exact .inr (.inr h')
    ·rintro (h'|h'|h')
     ·exact .inl h'
     ·exact .inl (h'▸hx)
     ·exact .inr h'
   ·obtain⟨i1,i2⟩:=yj6 r (A++[x]) (w.2 ⟨h,by simp,fun a ha b hb e=>by simp at hb;subst hb;exact hx (e▸ha)⟩)
    have e:see (x::r) A=see r (A++[x]):=by simp[see,hx]
    rw[e];refine⟨i1,fun k=> ?_⟩;rw[i2 k,H,Z,yt,or_assoc]
theorem ykg:∀(A B:List Int),A.Nodup->(∀x,x ∈ A->x ∈ B)->A.length<=B.length
 | [],_,_,_=>Nat.zero_le _
 | x::r,B,h,hs=>by
   obtain⟨h1,h2⟩:=ua.1 h;have hx:=hs x V;have:=ykg r (B.erase x) h2 fun y hy=>(List.mem_erase_of_ne (fun(e:y=x)=>h1 (e▸hy))).2 (hs y (J _ hy));rw[List.length_erase_of_mem hx]at this;have:0<B.length:=List.length_pos_of_mem hx;rw[yG];omega
theorem rep_needed {S:Fs} {L:List Mp} (h:Rep S L):needed L=((zU (thr S zW 3 0 0).1).length:Int)+1:=by
 have K:=kpt h.ok 3 (by omega) 0 0 (by decide) h.code h.full;rw[h.maps]at K;have fV:=(yh5 h).ok
 have hM:∀k:Int,k ∈ L.flatMap yln ↔ k ∈ (kOf (thr S zW 3 0 0).1).map fun k=>((k.2*4+k.1:Nat):Int):=by
  intro k;rw[E,yP];constructor
  ·rintro ⟨m,hm,hk⟩
   unfold yln at hk;obtain⟨l,hl,rfl⟩:=yP.1 hk;obtain⟨dE,sJ⟩:=yv.1 hl;refine⟨(l,m.p.toNat/8^l),(K.mem _).2 ⟨m,hm,by simpa using sJ,?_,rfl⟩,rfl⟩;simp at dE;simp only;omega
  ·rintro ⟨⟨l,x⟩,hx,rfl⟩
   obtain⟨m,hm,k1,k2,k3⟩:=(K.mem _).1 hx;simp only at k1 k2 k3;have hs:=ok_size (fV m hm);refine⟨m,hm,?_⟩;unfold yln;refine yP.2 ⟨l,yv.2 ⟨?_,by simpa using k1⟩,by simp only;rw[k3]⟩
   have:l=1\/l=2\/l=3:=by omega
   rcases this with rfl|rfl|rfl<;>simp
 have fD:((kOf (thr S zW 3 0 0).1).map fun k=>((k.2*4+k.1:Nat):Int)).Nodup:=by
  unfold List.Nodup;rw[yL];refine List.Pairwise.imp_of_mem ?_ K.nodup;rintro ⟨l1,x1⟩ ⟨l2,x2⟩ h1 h2 Ho e;have b1:=(K.low _ h1).1;have b2:=(K.low _ h2).1;simp only at e b1 b2;refine Ho ?_
  have e1:l1=l2:=by omega
  have e2:x1=x2:=by omega
  rw[e1,e2]
 obtain⟨s1,s2⟩:=yj6 (L.flatMap yln) [] yD;have a1:=ykg _ _ s1 fun x hx=>(hM x).1 (by simpa using (s2 x).1 hx);have a2:=ykg _ _ fD fun x hx=>(s2 x).2 (.inr ((hM x).2 hx));rw[yo,kOf_len]at a1 a2;unfold needed seen;omega
end Pg
namespace Pg
theorem rep_free {S:Fs} {L:List Mp} (h:Rep S L):S.free=S.n-(((zU (thr S zW 3 0 0).1).length:Int)+1):=by
 have fD:S.used.Nodup:=(w.1 h.ok.nodup).1
 have LJ:(S.used.map fun k:Nat=>(k:Int)).Nodup:=by
  rw[yB,yL];exact(yB.1 fD).imp fun Ho e=>Ho (yK.1 e)
 have iX:=yiT 3 0 0 h.code
 have a1:=ykg _ _ LJ (fun x hx=>by
  obtain⟨k,hk,rfl⟩:=yP.1 hx
  exact(h.used k).1 hk)
 have a2:=ykg _ (S.used.map fun k:Nat=>(k:Int)) h.nodup (fun x hx=>by
  have hx':=h.ok.yhK (iX x hx)
  exact yP.2 ⟨x.toNat,hx'.2.2,by omega⟩)
 rw[yo,yG]at a1 a2;have hl:=h.ok.len;have ht:=h.ok.top;unfold Fs.free;omega
theorem rep_start {n:Nat} (h1:1<=n) (h2:n<=128):Rep (Fs.new n).take []:=by
 have ok:=(Fs.ykU n h2).take
 have e:(Fs.new n).take=⟨n,1,[0],[],Fs.clear (fun _ _=>0) 0⟩:=by
  unfold Fs.take Fs.new;simp only[List.getLast?_nil];rw[if_pos (show 0<n by omega)]
 rw[e]at ok ⊢
 have hh:(⟨n,1,[0],[],Fs.clear (fun _ _=>0) 0⟩:Fs).has 0=Y:=by simp[Fs.has,Fs.inn]
 have hw:∀i,(⟨n,1,[0],[],Fs.clear (fun _ _=>0) 0⟩:Fs).word (0:Int).toNat i=0:=fun i=>by simp[Fs.clear]
 generalize hS:(⟨n,1,[0],[],Fs.clear (fun _ _=>0) 0⟩:Fs)=S at*
 have rD:∀j,out S zW 3 (sub S zW 3) 0 0 j=([spt S 0 j 3 0],0)/\(spt S 0 j 3 0).e=En.zero:=by
  intro j;obtain⟨r1,r2⟩:=yiH (lv:=3) hh (by omega) (hw j);refine⟨?_,r2⟩;unfold out;rw[if_neg (by simp[zW]),if_neg (by simpa using r1),if_pos (by rw[r2];rfl)]
 have tN:=yjo (S:=S) (lv:=3) (t:=0) (a:=0) (fun j _=>by rw[(rD j).1])
 have ht:zU (thr S zW 3 0 0).1=[]:=by
  rw[tN];simp only[zU,ki];refine yW.2 fun j _=> ?_;rw[(rD j).1];simp[(rD j).2,En.zero,En.on]
 have hm:zM (thr S zW 3 0 0).1=[]:=by
  rw[tN];simp only[zM,ki];refine yW.2 fun j _=> ?_;rw[(rD j).1];simp[(rD j).2,En.zero]
 refine⟨ok,by rw[tN],hm,by rw[ht];simp,fun k=> ?_,fun x hx=>by rw[ht]at hx;simp at hx⟩;rw[ht,<-hS];simp
def yj7 (S:Fs) (q:Int):Prop:=∃s,s ∈ (thr S zW 3 0 0).1/\s.e.l=Y/\s.mp.has q=Y/\s.e.u=Y/\s.e.d=Y
end Pg
end Go.Proofs.YtdphiompijbelaaGreat
