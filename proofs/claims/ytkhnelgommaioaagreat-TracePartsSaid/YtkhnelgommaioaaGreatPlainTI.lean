import Derived.Test.YtkhnelgommaioaaGreatPlainW
import Derived.Test.YtkhnelgommaioaaGreatPlainT
import Derived.Test.YtkhnelgommaioaaGreatPlainF
namespace Go.Proofs.YtkhnelgommaioaaGreat
open Go.RowKit
namespace Pg
theorem leaf_at {S:Fs} {t:Int} {i lv a:Nat} (h2:lv<=2):(spt S t i lv a).mp=(rEn S t i lv).map lv (((a+i)*8^lv:Nat):Int):=by
 have e:(((a+i)*8^lv:Nat):Int)=((a+i:Nat):Int)*span (lv:Int):=by
  have:lv=0\/lv=1\/lv=2:=by omega
  rcases this with rfl|rfl|rfl<;>simp[span]
 rw[e]
 rfl
theorem span_pow {lv:Nat} (h:lv<=2):span (lv:Int)=((8^lv:Nat):Int):=by
 have:lv=0\/lv=1\/lv=2:=by omega
 rcases this with rfl|rfl|rfl<;>simp[span]
theorem map_leaf {S:Fs} (h:S.Ok) {t:Int} {i lv:Nat} (hl:(rEn S t i lv).l=true) {q:Nat} (hq:q<4096):
 (rEn S t i lv).map lv (q:Int)=⟨((q/8^lv*8^lv:Nat):Int),(lv:Int),(rEn S t i lv).f,(rEn S t i lv).r⟩:=by
 obtain⟨hc,_,h2⟩:=rEn_leaf h hl
 have hf:eFault (rEn S t i lv).t (rEn S t i lv).l (rEn S t i lv).r (rEn S t i lv).u (rEn S t i lv).d (rEn S t i lv).f (lv:Int)=0:=rEn_fault h hc
 have hok:lOk (rEn S t i lv).t (rEn S t i lv).l (rEn S t i lv).r (rEn S t i lv).u (rEn S t i lv).d (rEn S t i lv).f (lv:Int) (q:Int)=true:=by
  have hb:below (q:Int) 4096=true:=zB.2 ⟨by omega,by omega⟩
  unfold lOk
  rw[hf,hb,hl]
  rfl
 have e:(q:Int)-(q:Int)%span (lv:Int)=((q/8^lv*8^lv:Nat):Int):=by
  rw[span_pow h2]
  have h1:=Nat.div_add_mod q (8^lv)
  rw[Nat.mul_comm]at h1
  omega
 unfold En.map lPage lSize lFrame lRights
 rw[hok]
 simp only[if_true]
 rw[e]
theorem out_all {S:Fs} {lv:Nat} {rec:Int->Nat->List Sp×Int} {t:Int} {a i:Nat} (hz:(out S zW lv rec t a i).2=0):
 rCode S t i lv=0/\(((rEn S t i lv).on=false/\out S zW lv rec t a i=([spt S t i lv a],0))\/((rEn S t i lv).on=true/\(rec (rEn S t i lv).f ((a+i)*8)).2=0/\(out S zW lv rec t a i).1=spt S t i lv a::(rec (rEn S t i lv).f ((a+i)*8)).1)):=by
 unfold out at hz ⊢
 rw[if_neg (by simp[zW])]at hz ⊢
 split at hz
 ·rename_i h1
  exact absurd hz h1
 ·rename_i h1
  have h1:rCode S t i lv=0:=by simpa using h1
  refine⟨h1,?_⟩
  rw[if_neg (by simpa using h1)]
  split at hz
  ·rename_i h2
   exact .inl ⟨h2,by rw[if_pos h2]⟩
  ·rename_i h2
   exact .inr ⟨by simpa using h2,hz,by rw[if_neg h2]⟩
section
variable {S:Fs}
theorem maps_range (h:S.Ok):∀(lv:Nat),lv<4->∀(t:Int) (a:Nat),a+8<=8^(4-lv)->(thr S zW lv t a).2=0->∀m,m ∈ zM (thr S zW lv t a).1->((a*8^lv:Nat):Int)<=m.p/\m.p+span m.s<=(((a+8)*8^lv:Nat):Int):=by
 intro lv
 induction lv using Nat.strongRecOn with
 | _ lv IH=>
 intro hlv t a ha hz m hm
 rw[thr_eq]at hz hm
 obtain⟨h1,h2⟩:=scan_zero 8 0 hz
 rw[h2]at hm
 simp only[zM,List.mem_flatMap]at hm
 obtain⟨s,⟨i,hi,hs⟩,hsm⟩:=hm
 have hi8:i<8:=by have:=(List.mem_range'_1.1 hi).2;omega
 have hpow:0<8^lv:=Nat.pow_pos (by decide)
 have hle:(a+i+1)*8^lv<=(a+8)*8^lv:=Nat.mul_le_mul_right _ (by omega)
 have hge:a*8^lv<=(a+i)*8^lv:=Nat.mul_le_mul_right _ (by omega)
 have hall:(a+8)*8^lv<=4096:=by
  have h3:(a+8)*8^lv<=8^(4-lv)*8^lv:=Nat.mul_le_mul_right _ ha
  rw[<-Nat.pow_add,show 4-lv+lv=4 by omega]at h3
  have e:(8:Nat)^4=4096:=by decide
  omega
 have hex:(a+i+1)*8^lv=(a+i)*8^lv+8^lv:=by rw[Nat.add_mul,Nat.one_mul]
 obtain⟨hc,ho⟩:=out_all (h1 i (by omega) (by omega))
 have leaf:s=spt S t i lv a->((a*8^lv:Nat):Int)<=m.p/\m.p+span m.s<=(((a+8)*8^lv:Nat):Int):=by
  intro e
  subst e
  by_cases hl:(rEn S t i lv).l=true
  ·have hl':(spt S t i lv a).e.l=true:=hl
   rw[if_pos hl']at hsm
   simp at hsm
   subst hsm
   have h2:=(rEn_leaf h hl).2.2
   rw[leaf_at h2,map_leaf h hl (by omega),Nat.mul_div_cancel _ hpow]
   simp only
   rw[span_pow h2]
   omega
  ·have hl':¬(spt S t i lv a).e.l=true:=hl
   rw[if_neg hl']at hsm
   simp at hsm
 rcases ho with ⟨_,ho⟩|⟨hon,hr,ho⟩
 ·rw[ho]at hs
  simp at hs
  exact leaf hs
 ·rw[ho]at hs
  simp at hs
  rcases hs with hs|hs
  ·exact leaf hs
  ·obtain⟨k,rfl⟩:=rEn_on hon
   have hr2:(thr S zW k (rEn S t i (k+1)).f ((a+i)*8)).2=0:=hr
   have hs2:s ∈ (thr S zW k (rEn S t i (k+1)).f ((a+i)*8)).1:=hs
   have:=IH k (by omega) (by omega) (rEn S t i (k+1)).f ((a+i)*8) (by
    rw[show 4-k=(4-(k+1))+1 by omega,Nat.pow_succ]
    omega) hr2 m (by simp only[zM,List.mem_flatMap];exact⟨s,hs2,hsm⟩)
   have e1:(a+i)*8*8^k=(a+i)*8^(k+1):=by rw[Nat.pow_succ,Nat.mul_assoc,Nat.mul_comm 8]
   have e2:((a+i)*8+8)*8^k=(a+i+1)*8^(k+1):=by rw[show(a+i)*8+8=(a+i+1)*8 by omega,Nat.pow_succ,Nat.mul_assoc,Nat.mul_comm 8]
   rw[e1,e2]at this
   omega
end
theorem flatMap_one {α:Type} (f:Nat->List α) (k:Nat):∀(n s:Nat),(∀j,s<=j->j<s+n->j≠k->f j=[])->(List.range' s n).flatMap f=if s<=k/\k<s+n then f k else []
 | 0,s,_=>by rw[if_neg (by omega)];rfl
 | n+1,s,hf=>by
   rw[List.range'_succ,List.flatMap_cons,flatMap_one f k n (s+1) (fun j h1 h2 h3=>hf j (by omega) (by omega) h3)]
   by_cases e:s=k
   ·subst e
    have e1:¬(s+1<=s/\s<s+1+n):=by omega
    have e2:s<=s/\s<s+(n+1):=by omega
    rw[if_neg e1,if_pos e2,List.append_nil]
   ·rw[hf s (by omega) (by omega) e,List.nil_append]
    by_cases hk:s+1<=k/\k<s+1+n
    ·rw[if_pos hk,if_pos (by omega)]
    ·rw[if_neg hk,if_neg (by omega)]
section
variable {S:Fs}
theorem all_ways (h:S.Ok) (q:Nat):∀(lv:Nat),lv<4->∀(t:Int) (a:Nat),a%8=0->a+8<=8^(4-lv)->a<=q/8^lv->q/8^lv<a+8->(thr S zW lv t a).2=0->
 (thr S (onW (q:Int)) lv t a).2=0/\(∀s,s ∈ (thr S (onW (q:Int)) lv t a).1->s.table ∈ t::zU (thr S zW lv t a).1)/\
   ∃s,(thr S (onW (q:Int)) lv t a).1.getLast?=some s/\(zM (thr S zW lv t a).1).filter (fun m=>m.has (q:Int))=if s.e.t=true then [s.e.map s.level (q:Int)]else []:=by
 intro lv
 induction lv using Nat.strongRecOn with
 | _ lv IH=>
 intro hlv t a ha8 ha h1 h2 hz
 have hzz:=hz
 rw[thr_eq]at hz
 obtain⟨c1,c2⟩:=scan_zero 8 0 hz
 have hpow:0<8^lv:=Nat.pow_pos (by decide)
 have hix:ix (q:Int) lv=q/8^lv%8:=by
  unfold ix
  have e:(q:Int)/8^lv%8=((q/8^lv%8:Nat):Int):=by simp
  rw[e]
  exact Int.toNat_natCast _
 obtain⟨k,hk⟩:∃k,q/8^lv=a+k:=⟨q/8^lv-a,by omega⟩
 have hk8:k<8:=by omega
 have hixk:ix (q:Int) lv=k:=by rw[hix];omega
 have hq1:(a+k)*8^lv<=q:=by rw[<-hk];exact Nat.div_mul_le_self q _
 have hq2:q<(a+k+1)*8^lv:=by
  rw[<-hk,Nat.add_mul,Nat.one_mul]
  have:=Nat.lt_div_mul_add (a:=q) hpow
  omega
 have hall:(a+8)*8^lv<=4096:=by
  have h3:(a+8)*8^lv<=8^(4-lv)*8^lv:=Nat.mul_le_mul_right _ ha
  rw[<-Nat.pow_add,show 4-lv+lv=4 by omega]at h3
  have e:(8:Nat)^4=4096:=by decide
  omega
 have hq4:q<4096:=by
  have:(a+k+1)*8^lv<=(a+8)*8^lv:=Nat.mul_le_mul_right _ (by omega)
  omega
 have other:∀j,j<8->j≠k->(zM (out S zW lv (sub S zW lv) t a j).1).filter (fun m=>m.has (q:Int))=[]:=by
  intro j hj hne
  rw[List.filter_eq_nil_iff]
  intro m hm
  simp only[Mp.has,over,Bool.and_eq_true,decide_eq_true_eq,not_and]
  intro hle
  have rng:(((a+j)*8^lv:Nat):Int)<=m.p/\m.p+span m.s<=(((a+j+1)*8^lv:Nat):Int):=by
   obtain⟨hc,ho⟩:=out_all (c1 j (by omega) (by omega))
   have hbj:(a+j+1)*8^lv<=(a+8)*8^lv:=Nat.mul_le_mul_right _ (by omega)
   have hex:(a+j+1)*8^lv=(a+j)*8^lv+8^lv:=by rw[Nat.add_mul,Nat.one_mul]
   have leaf:∀hl:(rEn S t j lv).l=true,m=(spt S t j lv a).mp->(((a+j)*8^lv:Nat):Int)<=m.p/\m.p+span m.s<=(((a+j+1)*8^lv:Nat):Int):=by
    intro hl e
    subst e
    have h2:=(rEn_leaf h hl).2.2
    rw[leaf_at h2,map_leaf h hl (by omega),Nat.mul_div_cancel _ hpow]
    simp only
    rw[span_pow h2]
    omega
   rcases ho with ⟨hon,ho⟩|⟨hon,hr,ho⟩
   ·rw[ho]at hm
    by_cases hl:(rEn S t j lv).l=true
    ·have hl':(spt S t j lv a).e.l=true:=hl
     simp[zM,hl']at hm
     exact leaf hl hm
    ·have hl':(spt S t j lv a).e.l=false:=Bool.eq_false_iff.2 hl
     simp[zM,hl']at hm
   ·rw[ho]at hm
    have hl':(spt S t j lv a).e.l=false:=by
     have:(rEn S t j lv).on=true:=hon
     simp[En.on]at this
     exact this.2
    obtain⟨b,rfl⟩:=rEn_on hon
    have hr2:(thr S zW b (rEn S t j (b+1)).f ((a+j)*8)).2=0:=hr
    have hm2:m ∈ zM (thr S zW b (rEn S t j (b+1)).f ((a+j)*8)).1:=by simpa[zM,hl',sub]using hm
    have:=maps_range h b (by omega) (rEn S t j (b+1)).f ((a+j)*8) (by
     rw[show 4-b=(4-(b+1))+1 by omega,Nat.pow_succ]
     omega) hr2 m hm2
    have e1:(a+j)*8*8^b=(a+j)*8^(b+1):=by rw[Nat.pow_succ,Nat.mul_assoc,Nat.mul_comm 8]
    have e2:((a+j)*8+8)*8^b=(a+j+1)*8^(b+1):=by rw[show(a+j)*8+8=(a+j+1)*8 by omega,Nat.pow_succ,Nat.mul_assoc,Nat.mul_comm 8]
    rw[e1,e2]at this
    exact this
  rcases Nat.lt_or_gt_of_ne hne with hlt|hgt
  ·have:(a+j+1)*8^lv<=(a+k)*8^lv:=Nat.mul_le_mul_right _ (by omega)
   omega
  ·have:(a+k+1)*8^lv<=(a+j)*8^lv:=Nat.mul_le_mul_right _ (by omega)
   omega
 have hflt:(zM (thr S zW lv t a).1).filter (fun m=>m.has (q:Int))=(zM (out S zW lv (sub S zW lv) t a k).1).filter (fun m=>m.has (q:Int)):=by
  rw[thr_eq,c2]
  have e:(zM ((List.range' 0 8).flatMap fun j=>(out S zW lv (sub S zW lv) t a j).1)).filter (fun m=>m.has (q:Int))=(List.range' 0 8).flatMap fun j=>(zM (out S zW lv (sub S zW lv) t a j).1).filter (fun m=>m.has (q:Int)):=by
   simp only[zM,List.flatMap_assoc,List.filter_flatMap]
  rw[e,flatMap_one _ k 8 0 (fun j _ h2 h3=>other j (by omega) h3),if_pos (by omega)]
 have htab:∀x,x ∈ zU (out S zW lv (sub S zW lv) t a k).1->x ∈ zU (thr S zW lv t a).1:=by
  intro x hx
  rw[thr_eq,c2]
  simp only[zU,List.mem_flatMap]at hx ⊢
  obtain⟨s,hs,hx⟩:=hx
  exact⟨s,⟨k,by rw[List.mem_range'_1];omega,hs⟩,hx⟩
 obtain⟨hc,ho⟩:=out_all (c1 k (by omega) (by omega))
 have hw:=thr_way S (q:Int) lv t a
 rw[hixk,if_neg (by simpa using hc)]at hw
 rcases ho with ⟨hon,ho⟩|⟨hon,hr,ho⟩
 ·rw[if_pos hon]at hw
  rw[hw]
  refine⟨rfl,fun s hs=> ?_,spt S t k lv a,rfl,?_⟩
  ·simp at hs
   subst hs
   exact List.mem_cons_self
  ·rw[hflt,ho]
   have hE:(spt S t k lv a).e=rEn S t k lv:=rfl
   by_cases hl:(rEn S t k lv).l=true
   ·obtain⟨_,ht,h2⟩:=rEn_leaf h hl
    have hm:(spt S t k lv a).mp=(rEn S t k lv).map lv (q:Int):=by
     rw[leaf_at h2,map_leaf h hl (by omega),map_leaf h hl hq4,Nat.mul_div_cancel _ hpow,hk]
    have hmaps:zM [spt S t k lv a]=[(rEn S t k lv).map lv (q:Int)]:=by
     simp[zM,hE,hl,hm]
    rw[hmaps,hE,if_pos ht]
    have hhas:((rEn S t k lv).map lv (q:Int)).has (q:Int)=true:=by
     rw[map_leaf h hl hq4,hk]
     simp only[Mp.has,over,Bool.and_eq_true,decide_eq_true_eq]
     rw[span_pow h2]
     rw[Nat.add_mul,Nat.one_mul]at hq2
     omega
    rw[List.filter_cons_of_pos (p:=fun m:Mp=>m.has (q:Int)) hhas]
    rfl
   ·have hl':(rEn S t k lv).l=false:=by simpa using hl
    have ht:(rEn S t k lv).t=false:=by
     simp[En.on,hl']at hon
     exact hon
    simp[zM,hE,hl',ht]
 ·rw[if_neg (by simp[hon])]at hw
  have hl':(spt S t k lv a).e.l=false:=by
   have:(rEn S t k lv).on=true:=hon
   simp[En.on]at this
   exact this.2
  obtain⟨b,rfl⟩:=rEn_on hon
  have hr2:(thr S zW b (rEn S t k (b+1)).f ((a+k)*8)).2=0:=hr
  have hdiv:q/8^b/8=a+k:=by rw[Nat.div_div_eq_div_mul,<-Nat.pow_succ];exact hk
  obtain⟨i1,i2,s,i3,i4⟩:=IH b (by omega) (by omega) (rEn S t k (b+1)).f ((a+k)*8) (by omega) (by
   rw[show 4-b=(4-(b+1))+1 by omega,Nat.pow_succ]
   omega) (by omega) (by omega) hr2
  have hsubw:sub S (onW (q:Int)) (b+1)=thr S (onW (q:Int)) b:=rfl
  rw[hsubw]at hw
  have hmo:zM (out S zW (b+1) (sub S zW (b+1)) t a k).1=zM (thr S zW b (rEn S t k (b+1)).f ((a+k)*8)).1:=by
   rw[ho];simp[zM,hl',sub]
  have hon':(spt S t k (b+1) a).e.on=true:=hon
  have hto:zU (out S zW (b+1) (sub S zW (b+1)) t a k).1=(rEn S t k (b+1)).f::zU (thr S zW b (rEn S t k (b+1)).f ((a+k)*8)).1:=by
   rw[ho];simp[zU,hon',sub];rfl
  rw[hw]
  refine⟨i1,fun s' hs=> ?_,s,?_,?_⟩
  ·simp at hs
   rcases hs with rfl|hs
   ·exact List.mem_cons_self
   ·have:=i2 s' hs
    rw[<-hto]at this
    exact List.mem_cons_of_mem _ (htab _ this)
  ·rw[List.getLast?_cons,i3]
   rfl
  ·rw[hflt,hmo,i4]
end
end Pg
namespace Pg
def Agree (S S':Fs) (x:Int):Prop:=S'.has x=S.has x/\∀i,i<8->S'.word x.toNat i=S.word x.toNat i
theorem Agree.code {S S':Fs} {x:Int} (h:Agree S S' x) {i:Nat} (hi:i<8) (lv:Nat):rCode S' x i lv=rCode S x i lv/\rEn S' x i lv=rEn S x i lv:=by
 unfold rCode rEn
 rw[h.1,h.2 i hi]
 exact⟨rfl,rfl⟩
theorem out_congr {S S':Fs} {lv:Nat} {rec rec':Int->Nat->List Sp×Int} {t:Int} {a i:Nat} (h1:rCode S' t i lv=rCode S t i lv) (h2:rEn S' t i lv=rEn S t i lv) (h3:(rEn S t i lv).on=true->rec' (rEn S t i lv).f ((a+i)*8)=rec (rEn S t i lv).f ((a+i)*8)):out S' zW lv rec' t a i=out S zW lv rec t a i:=by
 unfold out spt
 rw[h1,h2]
 by_cases ho:(rEn S t i lv).on=false
 ·simp[ho]
 ·have ho:(rEn S t i lv).on=true:=by simpa using ho
  rw[h3 ho]
theorem scan_congr {S S':Fs} {lv:Nat} {rec rec':Int->Nat->List Sp×Int} {t:Int} {a:Nat}:∀(n i:Nat),(∀j,i<=j->j<i+n->out S' zW lv rec' t a j=out S zW lv rec t a j)->scan S' zW lv rec' t a n i=scan S zW lv rec t a n i
 | 0,_,_=>rfl
 | n+1,i,h=>by
   have h0:=h i (by omega) (by omega)
   have h1:=scan_congr (S:=S) (S':=S') (lv:=lv) (rec:=rec) (rec':=rec') (t:=t) (a:=a) n (i+1) (fun j h1 h2=>h j (by omega) (by omega))
   unfold scan
   rw[h0,h1]
theorem thr_parts {S:Fs} {lv:Nat} {t:Int} {a:Nat} (hz:(thr S zW lv t a).2=0):
 (∀j,j<8->(out S zW lv (sub S zW lv) t a j).2=0)/\(thr S zW lv t a).1=(List.range 8).flatMap fun j=>(out S zW lv (sub S zW lv) t a j).1:=by
 rw[thr_eq]at hz ⊢
 obtain⟨h1,h2⟩:=scan_zero 8 0 hz
 exact⟨fun j hj=>h1 j (by omega) (by omega),by rw[h2,List.range_eq_range']⟩
theorem thr_join {S:Fs} {lv:Nat} {t:Int} {a:Nat} (h:∀j,j<8->(out S zW lv (sub S zW lv) t a j).2=0):thr S zW lv t a=((List.range 8).flatMap (fun j=>(out S zW lv (sub S zW lv) t a j).1),0):=by
 have hz:∀n i,i+n=8->(scan S zW lv (sub S zW lv) t a n i).2=0:=by
  intro n
  induction n with
  | zero=>intro i _;rfl
  | succ n ih=>
    intro i hi
    unfold scan
    rw[if_neg (by simpa using h i (by omega))]
    exact ih (i+1) (by omega)
 have h0:(thr S zW lv t a).2=0:=by rw[thr_eq];exact hz 8 0 rfl
 have:=(thr_parts h0).2
 rw[<-this,<-h0]
theorem tabs_place {S:Fs} {lv:Nat} {t:Int} {a j:Nat} (hj:j<8) (hz:(thr S zW lv t a).2=0) {x:Int} (hx:x ∈ zU (out S zW lv (sub S zW lv) t a j).1):x ∈ zU (thr S zW lv t a).1:=by
 rw[(thr_parts hz).2]
 simp only[zU,List.mem_flatMap]at hx ⊢
 obtain⟨s,hs,hx⟩:=hx
 exact⟨s,⟨j,by simpa using hj,hs⟩,hx⟩
theorem thr_agree {S S':Fs}:∀(lv:Nat) (t:Int) (a:Nat),(thr S zW lv t a).2=0->(∀x,x ∈ t::zU (thr S zW lv t a).1->Agree S S' x)->thr S' zW lv t a=thr S zW lv t a:=by
 intro lv
 induction lv with
 | zero=>
   intro t a hz h
   have h0:=h t List.mem_cons_self
   rw[thr_eq,thr_eq]
   refine scan_congr 8 0 fun j _ hj=> ?_
   obtain⟨c1,c2⟩:=h0.code (i:=j) (by omega) 0
   refine out_congr c1 c2 fun ho=> ?_
   obtain⟨m,hm⟩:=rEn_on ho
   omega
 | succ lv ih=>
   intro t a hz h
   have h0:=h t List.mem_cons_self
   rw[thr_eq,thr_eq]
   refine scan_congr 8 0 fun j _ hj=> ?_
   have hj8:j<8:=by omega
   obtain⟨c1,c2⟩:=h0.code hj8 (lv+1)
   refine out_congr c1 c2 fun ho=> ?_
   have hzj:=(thr_parts hz).1 j hj8
   obtain⟨hc,hor⟩:=out_all hzj
   rcases hor with ⟨hn,_⟩|⟨_,hr,hl⟩
   ·rw[hn]at ho;cases ho
   ·refine ih _ _ hr fun x hx=> ?_
    refine h x (List.mem_cons_of_mem _ (tabs_place hj8 hz ?_))
    rw[hl]
    have hon:(spt S t j (lv+1) a).e.on=true:=ho
    have:zU (spt S t j (lv+1) a::(sub S zW (lv+1) (rEn S t j (lv+1)).f ((a+j)*8)).1)=(rEn S t j (lv+1)).f::zU (thr S zW lv (rEn S t j (lv+1)).f ((a+j)*8)).1:=by
     simp[zU,hon,sub]
     rfl
    rw[this]
    exact hx
theorem flatMap_same {α:Type} {l:List Nat} {f g:Nat->List α} (h:∀j,j ∈ l->f j=g j):l.flatMap f=l.flatMap g:=by
 induction l with
 | nil=>rfl
 | cons x l ih=>rw[List.flatMap_cons,List.flatMap_cons,h x List.mem_cons_self,ih fun j hj=>h j (List.mem_cons_of_mem _ hj)]
theorem tabsOf_one {s:Sp} {X:List Sp} (h:s.e.on=true):zU (s::X)=s.e.f::zU X:=by
 simp[zU,h]
theorem range8 {k:Nat} (hk:k<8):List.range 8=List.range k++k::List.range' (k+1) (7-k):=by
 have:k=0\/k=1\/k=2\/k=3\/k=4\/k=5\/k=6\/k=7:=by omega
 rcases this with rfl|rfl|rfl|rfl|rfl|rfl|rfl|rfl<;>rfl
theorem pow_up (a i b:Nat):(a+i)*8*8^b=(a+i)*8^(b+1)/\((a+i)*8+8)*8^b=(a+i+1)*8^(b+1):=by
 constructor
 ·rw[Nat.pow_succ,Nat.mul_assoc,Nat.mul_comm 8]
 ·rw[show(a+i)*8+8=(a+i+1)*8 by omega,Nat.pow_succ,Nat.mul_assoc,Nat.mul_comm 8]
section
variable {S:Fs}
theorem out_range (h:S.Ok) {lv:Nat} (hlv:lv<4) {t:Int} {a j:Nat} (hj:j<8) (ha:a+8<=8^(4-lv)) (hz:(out S zW lv (sub S zW lv) t a j).2=0) {m:Mp} (hm:m ∈ zM (out S zW lv (sub S zW lv) t a j).1):
 (((a+j)*8^lv:Nat):Int)<=m.p/\m.p+span m.s<=(((a+j+1)*8^lv:Nat):Int):=by
 have hpow:0<8^lv:=Nat.pow_pos (by decide)
 have hall:(a+8)*8^lv<=4096:=by
  have h3:(a+8)*8^lv<=8^(4-lv)*8^lv:=Nat.mul_le_mul_right _ ha
  rw[<-Nat.pow_add,show 4-lv+lv=4 by omega]at h3
  have e:(8:Nat)^4=4096:=by decide
  omega
 have hbj:(a+j+1)*8^lv<=(a+8)*8^lv:=Nat.mul_le_mul_right _ (by omega)
 have hex:(a+j+1)*8^lv=(a+j)*8^lv+8^lv:=by rw[Nat.add_mul,Nat.one_mul]
 obtain⟨hc,ho⟩:=out_all hz
 rcases ho with ⟨hon,ho⟩|⟨hon,hr,ho⟩
 ·rw[ho]at hm
  by_cases hl:(rEn S t j lv).l=true
  ·have hl':(spt S t j lv a).e.l=true:=hl
   simp[zM,hl']at hm
   subst hm
   have h2:=(rEn_leaf h hl).2.2
   rw[leaf_at h2,map_leaf h hl (by omega),Nat.mul_div_cancel _ hpow]
   simp only
   rw[span_pow h2]
   omega
  ·have hl':(spt S t j lv a).e.l=false:=Bool.eq_false_iff.2 hl
   simp[zM,hl']at hm
 ·rw[ho]at hm
  have hl':(spt S t j lv a).e.l=false:=by
   have:(rEn S t j lv).on=true:=hon
   simp[En.on]at this
   exact this.2
  obtain⟨b,rfl⟩:=rEn_on hon
  have hr2:(thr S zW b (rEn S t j (b+1)).f ((a+j)*8)).2=0:=hr
  have hm2:m ∈ zM (thr S zW b (rEn S t j (b+1)).f ((a+j)*8)).1:=by simpa[zM,hl',sub]using hm
  have:=maps_range h b (by omega) (rEn S t j (b+1)).f ((a+j)*8) (by
   rw[show 4-b=(4-(b+1))+1 by omega,Nat.pow_succ]
   omega) hr2 m hm2
  obtain⟨e1,e2⟩:=pow_up a j b
  rw[e1,e2]at this
  exact this
def But1 (S S':Fs) (T:List Int) (t0:Int) (i0:Nat):Prop:=∀x,x ∈ T->S'.has x=S.has x/\∀i,i<8->(x≠t0\/i≠i0)->S'.word x.toNat i=S.word x.toNat i
structure Spot1 (S:Fs) (q lv:Nat) (t:Int) (a:Nat) (s:Sp) (A B:List Sp):Prop where
 all:(thr S zW lv t a).1=A++(out S zW s.level (sub S zW s.level) s.table (s.ahead-s.place) s.place).1++B
 place:s.place=ix (q:Int) s.level
 ahead:s.ahead=q/8^s.level
 le:s.place<=s.ahead
 lvl:s.level<=lv
 ma:∀m,m ∈ zM A->m.p+span m.s<=((s.ahead*8^s.level:Nat):Int)
 mb:∀m,m ∈ zM B->(((s.ahead+1)*8^s.level:Nat):Int)<=m.p
 mem:s.table ∈ t::zU (thr S zW lv t a).1
 code:(out S zW s.level (sub S zW s.level) s.table (s.ahead-s.place) s.place).2=0
 en:s.e=rEn S s.table s.place s.level
 memA:s.table ∈ t::zU A
 turn:∀S',But1 S S' (t::(zU A++zU B)) s.table s.place->(out S' zW s.level (sub S' zW s.level) s.table (s.ahead-s.place) s.place).2=0->
  thr S' zW lv t a=(A++(out S' zW s.level (sub S' zW s.level) s.table (s.ahead-s.place) s.place).1++B,0)
theorem spot1 (h:S.Ok) (q:Nat):∀(lv:Nat),lv<4->∀(t:Int) (a:Nat),a%8=0->a+8<=8^(4-lv)->a<=q/8^lv->q/8^lv<a+8->(thr S zW lv t a).2=0->(t::zU (thr S zW lv t a).1).Nodup->
 ∀s,s ∈ (thr S (onW (q:Int)) lv t a).1->∃A B,Spot1 S q lv t a s A B:=by
 intro lv
 induction lv using Nat.strongRecOn with
 | _ lv IH=>
 intro hlv t a ha8 ha h1 h2 hz hnd s hs
 have hpow:0<8^lv:=Nat.pow_pos (by decide)
 obtain⟨k,hk⟩:∃k,q/8^lv=a+k:=⟨q/8^lv-a,by omega⟩
 have hk8:k<8:=by omega
 have hixk:ix (q:Int) lv=k:=by
  unfold ix
  have e:(q:Int)/8^lv%8=((q/8^lv%8:Nat):Int):=by simp
  rw[e,Int.toNat_natCast]
  omega
 obtain⟨c1,c2⟩:=thr_parts hz
 rw[range8 hk8,List.flatMap_append,List.flatMap_cons]at c2
 generalize hP:(List.range k).flatMap (fun j=>(out S zW lv (sub S zW lv) t a j).1)=P at c2
 generalize hR:(List.range' (k+1) (7-k)).flatMap (fun j=>(out S zW lv (sub S zW lv) t a j).1)=R at c2
 have inP:∀j,j<k->∀x,x ∈ zU (out S zW lv (sub S zW lv) t a j).1->x ∈ zU P:=by
  intro j hj x hx
  rw[<-hP]
  simp only[zU,List.mem_flatMap]at hx ⊢
  obtain⟨s,hs,hx⟩:=hx
  exact⟨s,⟨j,by simpa using hj,hs⟩,hx⟩
 have inR:∀j,k<j->j<8->∀x,x ∈ zU (out S zW lv (sub S zW lv) t a j).1->x ∈ zU R:=by
  intro j hj hj8 x hx
  rw[<-hR]
  simp only[zU,List.mem_flatMap]at hx ⊢
  obtain⟨s,hs,hx⟩:=hx
  exact⟨s,⟨j,by rw[List.mem_range'_1];omega,hs⟩,hx⟩
 have mP:∀m,m ∈ zM P->m.p+span m.s<=(((a+k)*8^lv:Nat):Int):=by
  intro m hm
  rw[<-hP]at hm
  simp only[zM,List.mem_flatMap]at hm
  obtain⟨s,⟨j,hj,hs⟩,hm⟩:=hm
  have hj:j<k:=by simpa using hj
  have:=(out_range h hlv (by omega) ha (c1 j (by omega)) (m:=m) (by simp only[zM,List.mem_flatMap];exact⟨s,hs,hm⟩)).2
  have:(a+j+1)*8^lv<=(a+k)*8^lv:=Nat.mul_le_mul_right _ (by omega)
  omega
 have mR:∀m,m ∈ zM R->(((a+k+1)*8^lv:Nat):Int)<=m.p:=by
  intro m hm
  rw[<-hR]at hm
  simp only[zM,List.mem_flatMap]at hm
  obtain⟨s,⟨j,hj,hs⟩,hm⟩:=hm
  have hj:k+1<=j/\j<8:=by rw[List.mem_range'_1]at hj;omega
  have:=(out_range h hlv (by omega) ha (c1 j (by omega)) (m:=m) (by simp only[zM,List.mem_flatMap];exact⟨s,hs,hm⟩)).1
  have:(a+k+1)*8^lv<=(a+j)*8^lv:=Nat.mul_le_mul_right _ (by omega)
  omega
 have hsub:∀j,j<8->∀x,x ∈ zU (out S zW lv (sub S zW lv) t a j).1->x ∈ zU (thr S zW lv t a).1:=fun j hj x hx=>tabs_place hj hz hx
 obtain⟨hnt,hnx⟩:=List.nodup_cons.1 hnd
 have other:∀S',∀t0 i0,But1 S S' (t::(zU P++zU R)) t0 i0->(t≠t0\/i0=k)->(t0=t\/t0 ∈ zU (out S zW lv (sub S zW lv) t a k).1)->∀j,j<8->j≠k->out S' zW lv (sub S' zW lv) t a j=out S zW lv (sub S zW lv) t a j:=by
  intro S' t0 i0 hb ht0 hin j hj hjk
  obtain⟨b1,b2⟩:=hb t List.mem_cons_self
  have hwt:S'.word t.toNat j=S.word t.toNat j:=b2 j hj (by rcases ht0 with h'|h';exact .inl h';exact .inr (by omega))
  have cc:rCode S' t j lv=rCode S t j lv/\rEn S' t j lv=rEn S t j lv:=by
   unfold rCode rEn
   rw[b1,hwt]
   exact⟨rfl,rfl⟩
  refine out_congr cc.1 cc.2 fun ho=> ?_
  obtain⟨hc,hor⟩:=out_all (c1 j hj)
  rcases hor with ⟨hn,_⟩|⟨_,hr,hl⟩
  ·rw[hn]at ho;cases ho
  ·obtain⟨b,rfl⟩:=rEn_on ho
   refine thr_agree b _ _ hr fun x hx=> ?_
   have hon:(spt S t j (b+1) a).e.on=true:=ho
   have hxt:x ∈ zU (out S zW (b+1) (sub S zW (b+1)) t a j).1:=by
    rw[hl]
    have:zU (spt S t j (b+1) a::(sub S zW (b+1) (rEn S t j (b+1)).f ((a+j)*8)).1)=(rEn S t j (b+1)).f::zU (thr S zW b (rEn S t j (b+1)).f ((a+j)*8)).1:=by
     simp[zU,hon,sub]
     rfl
    rw[this]
    exact hx
   have hxm:=hsub j hj x hxt
   have hxPR:x ∈ zU P++zU R:=by
    rcases Nat.lt_or_gt_of_ne hjk with hlt|hgt
    ·exact List.mem_append_left _ (inP j hlt x hxt)
    ·exact List.mem_append_right _ (inR j hgt hj x hxt)
   obtain⟨b3,b4⟩:=hb x (List.mem_cons_of_mem _ hxPR)
   have hne:x≠t0:=by
    rintro rfl
    rcases hin with e|e
    ·rw[e]at hxm;exact hnt hxm
    ·rw[c2,tabsOf_append,tabsOf_append]at hnx
     rw[List.nodup_append]at hnx
     obtain⟨_,n2,n3⟩:=hnx
     rw[List.nodup_append]at n2
     rcases Nat.lt_or_gt_of_ne hjk with hlt|hgt
     ·exact n3 x (inP j hlt x hxt) x (List.mem_append_left _ e) rfl
     ·exact n2.2.2 x e x (inR j hgt hj x hxt) rfl
   exact⟨b3,fun i hi=>b4 i hi (.inl hne)⟩
 obtain⟨hc,ho⟩:=out_all (c1 k hk8)
 have hw:=thr_way S (q:Int) lv t a
 rw[hixk,if_neg (by simpa using hc)]at hw
 have here:s=spt S t k lv a->∃A B,Spot1 S q lv t a s A B:=by
  intro e
  subst e
  have e1:(spt S t k lv a).ahead-(spt S t k lv a).place=a:=by show a+k-k=a;omega
  refine⟨P,R,⟨?_,hixk.symm,hk.symm,by show k<=a+k;omega,Nat.le_refl _,mP,mR,List.mem_cons_self,by rw[e1];exact c1 k hk8,rfl,List.mem_cons_self,?_⟩⟩
  ·rw[e1]
   rw[c2,<-List.append_assoc]
   rfl
  ·intro S' hb hz'
   rw[e1]at hz' ⊢
   have ho':=other S' t k hb (.inr rfl) (.inl rfl)
   have hzz:∀j,j<8->(out S' zW lv (sub S' zW lv) t a j).2=0:=by
    intro j hj
    by_cases e:j=k
    ·rw[e];exact hz'
    ·rw[ho' j hj e];exact c1 j hj
   rw[thr_join hzz,range8 hk8,List.flatMap_append,List.flatMap_cons]
   have eP:(List.range k).flatMap (fun j=>(out S' zW lv (sub S' zW lv) t a j).1)=P:=by
    rw[<-hP]
    refine flatMap_same fun j hj=> ?_
    have hj:j<k:=by simpa using hj
    rw[ho' j (by omega) (by omega)]
   have eR:(List.range' (k+1) (7-k)).flatMap (fun j=>(out S' zW lv (sub S' zW lv) t a j).1)=R:=by
    rw[<-hR]
    refine flatMap_same fun j hj=> ?_
    have hj:k+1<=j/\j<8:=by rw[List.mem_range'_1]at hj;omega
    rw[ho' j (by omega) (by omega)]
   rw[eP,eR,<-List.append_assoc]
   rfl
 rcases ho with ⟨hon,ho⟩|⟨hon,hr,ho⟩
 ·rw[if_pos hon]at hw
  rw[hw]at hs
  simp at hs
  exact here hs
 ·rw[if_neg (by simp[hon])]at hw
  rw[hw]at hs
  simp at hs
  rcases hs with hs|hs
  ·exact here hs
  ·obtain⟨b,rfl⟩:=rEn_on hon
   have hr2:(thr S zW b (rEn S t k (b+1)).f ((a+k)*8)).2=0:=hr
   have hdiv:q/8^b/8=a+k:=by rw[Nat.div_div_eq_div_mul,<-Nat.pow_succ];exact hk
   have hon':(spt S t k (b+1) a).e.on=true:=hon
   have hto:zU (out S zW (b+1) (sub S zW (b+1)) t a k).1=(rEn S t k (b+1)).f::zU (thr S zW b (rEn S t k (b+1)).f ((a+k)*8)).1:=by
    rw[ho];simp[zU,hon',sub];rfl
   have hl':(spt S t k (b+1) a).e.l=false:=by
    have:(rEn S t k (b+1)).on=true:=hon
    simp[En.on]at this
    exact this.2
   have hnd2:((rEn S t k (b+1)).f::zU (thr S zW b (rEn S t k (b+1)).f ((a+k)*8)).1).Nodup:=by
    rw[<-hto]
    rw[c2,tabsOf_append,tabsOf_append,List.nodup_append]at hnx
    have:=hnx.2.1
    rw[List.nodup_append]at this
    exact this.1
   obtain⟨A,B,sp⟩:=IH b (by omega) (by omega) (rEn S t k (b+1)).f ((a+k)*8) (by omega) (by
    rw[show 4-b=(4-(b+1))+1 by omega,Nat.pow_succ]
    omega) (by omega) (by omega) hr2 hnd2 s hs
   have hle1:(a+k)*8^(b+1)<=s.ahead*8^s.level:=by
    have hb:=sp.lvl
    rw[sp.ahead,<-hk]
    have e1:8^(b+1)=8^s.level*8^(b+1-s.level):=by rw[<-Nat.pow_add];congr 1;omega
    rw[e1,<-Nat.div_div_eq_div_mul,Nat.mul_comm (8^s.level),<-Nat.mul_assoc]
    exact Nat.mul_le_mul_right _ (Nat.div_mul_le_self _ _)
   have hle2:(s.ahead+1)*8^s.level<=(a+k+1)*8^(b+1):=by
    have hb:=sp.lvl
    rw[sp.ahead,<-hk]
    have e1:8^(b+1)=8^(b+1-s.level)*8^s.level:=by rw[<-Nat.pow_add];congr 1;omega
    have hp1:0<8^(b+1-s.level):=Nat.pow_pos (by decide)
    rw[e1,Nat.mul_comm (8^(b+1-s.level)),<-Nat.div_div_eq_div_mul,Nat.mul_comm (8^s.level),<-Nat.mul_assoc]
    refine Nat.mul_le_mul_right _ ?_
    have:=Nat.lt_div_mul_add (a:=q/8^s.level) hp1
    rw[Nat.add_mul,Nat.one_mul]
    omega
   have hmemk:s.table ∈ zU (out S zW (b+1) (sub S zW (b+1)) t a k).1:=by rw[hto];exact sp.mem
   have hts:t≠s.table:=fun e=>hnt (e.symm▸hsub k hk8 _ hmemk)
   refine⟨P++spt S t k (b+1) a::A,B++R,⟨?_,sp.place,sp.ahead,sp.le,by have:=sp.lvl;omega,?_,?_,List.mem_cons_of_mem _ (hsub k hk8 _ hmemk),sp.code,sp.en,by rw[tabsOf_append,tabsOf_one hon'];exact List.mem_cons_of_mem _ (List.mem_append_right _ sp.memA),?_⟩⟩
   ·rw[c2,ho]
    have e:=sp.all
    show P++(spt S t k (b+1) a::(thr S zW b (rEn S t k (b+1)).f ((a+k)*8)).1++R)=_
    rw[e]
    simp[List.append_assoc]
   ·intro m hm
    rw[mapsOf_append]at hm
    rcases List.mem_append.1 hm with hm|hm
    ·have:=mP m hm;omega
    ·have hm':m ∈ zM A:=by simpa[zM,hl']using hm
     exact sp.ma m hm'
   ·intro m hm
    rw[mapsOf_append]at hm
    rcases List.mem_append.1 hm with hm|hm
    ·exact sp.mb m hm
    ·have:=mR m hm;omega
   ·intro S' hb hz'
    have hbs:But1 S S' ((rEn S t k (b+1)).f::(zU A++zU B)) s.table s.place:=by
     intro x hx
     refine hb x (List.mem_cons_of_mem _ ?_)
     rw[tabsOf_append,tabsOf_append,tabsOf_one hon']
     rcases List.mem_cons.1 hx with rfl|hx
     ·exact List.mem_append_left _ (List.mem_append_right _ List.mem_cons_self)
     ·rcases List.mem_append.1 hx with hx|hx
      ·exact List.mem_append_left _ (List.mem_append_right _ (List.mem_cons_of_mem _ hx))
      ·exact List.mem_append_right _ (List.mem_append_left _ hx)
    have hthr:=sp.turn S' hbs hz'
    have hbo:But1 S S' (t::(zU P++zU R)) s.table s.place:=by
     intro x hx
     refine hb x ?_
     rw[tabsOf_append,tabsOf_append]
     rcases List.mem_cons.1 hx with rfl|hx
     ·exact List.mem_cons_self
     ·refine List.mem_cons_of_mem _ ?_
      rcases List.mem_append.1 hx with hx|hx
      ·exact List.mem_append_left _ (List.mem_append_left _ hx)
      ·exact List.mem_append_right _ (List.mem_append_right _ hx)
    have ho':=other S' s.table s.place hbo (.inl hts) (.inr hmemk)
    obtain⟨b1,b2⟩:=hb t List.mem_cons_self
    have cc:rCode S' t k (b+1)=rCode S t k (b+1)/\rEn S' t k (b+1)=rEn S t k (b+1):=by
     unfold rCode rEn
     rw[b1,b2 k hk8 (.inl hts)]
     exact⟨rfl,rfl⟩
    have hok:out S' zW (b+1) (sub S' zW (b+1)) t a k=(spt S t k (b+1) a::(thr S' zW b (rEn S t k (b+1)).f ((a+k)*8)).1,(thr S' zW b (rEn S t k (b+1)).f ((a+k)*8)).2):=by
     unfold out spt
     rw[cc.1,cc.2,if_neg (by simp[zW]),if_neg (by simpa using hc),if_neg (by simp[hon])]
     rfl
    rw[hthr]at hok
    have hzz:∀j,j<8->(out S' zW (b+1) (sub S' zW (b+1)) t a j).2=0:=by
     intro j hj
     by_cases e:j=k
     ·rw[e,hok]
     ·rw[ho' j hj e];exact c1 j hj
    rw[thr_join hzz,range8 hk8,List.flatMap_append,List.flatMap_cons]
    have eP:(List.range k).flatMap (fun j=>(out S' zW (b+1) (sub S' zW (b+1)) t a j).1)=P:=by
     rw[<-hP]
     refine flatMap_same fun j hj=> ?_
     have hj:j<k:=by simpa using hj
     rw[ho' j (by omega) (by omega)]
    have eR:(List.range' (k+1) (7-k)).flatMap (fun j=>(out S' zW (b+1) (sub S' zW (b+1)) t a j).1)=R:=by
     rw[<-hR]
     refine flatMap_same fun j hj=> ?_
     have hj:k+1<=j/\j<8:=by rw[List.mem_range'_1]at hj;omega
     rw[ho' j (by omega) (by omega)]
    rw[eP,eR,hok]
    simp[List.append_assoc]
end
end Pg
set_option maxRecDepth 10000
namespace Pg
theorem tabs_has {S:Fs}:∀(lv:Nat) (t:Int) (a:Nat),(thr S zW lv t a).2=0->∀x,x ∈ t::zU (thr S zW lv t a).1->S.has x=true:=by
 intro lv
 induction lv using Nat.strongRecOn with
 | _ lv IH=>
 intro t a hz x hx
 obtain⟨c1,c2⟩:=thr_parts hz
 rcases List.mem_cons.1 hx with rfl|hx
 ·exact rCode_has (out_all (c1 0 (by omega))).1
 ·rw[c2]at hx
  simp only[zU,List.mem_flatMap]at hx
  obtain⟨s,⟨j,hj,hs⟩,hy⟩:=hx
  have hj:j<8:=by simpa using hj
  obtain⟨hc,ho⟩:=out_all (c1 j hj)
  rcases ho with ⟨hon,ho⟩|⟨hon,hr,ho⟩
  ·rw[ho]at hs
   simp at hs
   subst hs
   have hon':(spt S t j lv a).e.on=false:=hon
   simp[hon']at hy
  ·obtain⟨b,rfl⟩:=rEn_on hon
   have hon':(spt S t j (b+1) a).e.on=true:=hon
   have hr2:(thr S zW b (rEn S t j (b+1)).f ((a+j)*8)).2=0:=hr
   refine IH b (by omega) _ _ hr2 x ?_
   rw[ho]at hs
   simp at hs
   rcases hs with rfl|hs
   ·simp[hon']at hy
    subst hy
    exact List.mem_cons_self
   ·refine List.mem_cons_of_mem _ ?_
    simp only[zU,List.mem_flatMap]
    exact⟨s,hs,hy⟩
structure Rep (S:Fs) (L:List Mp):Prop where
 ok:S.Ok
 code:(thr S zW 3 0 0).2=0
 maps:zM (thr S zW 3 0 0).1=L
 nodup:((0:Int)::zU (thr S zW 3 0 0).1).Nodup
 used:∀k:Nat,k ∈ S.used ↔ (k:Int) ∈ (0:Int)::zU (thr S zW 3 0 0).1
 full:∀x,x ∈ zU (thr S zW 3 0 0).1->emptyT S x=false
theorem has_nat {S:Fs} {x:Int} (h:S.has x=true):0<=x:=by
 simp[Fs.has]at h
 exact h.1
theorem store_at {S:Fs} {t:Int} (ht:S.has t=true) {i:Nat} (hi:i<8) (v:Int):S.store t (i:Int) v={S with word:=Fs.put S.word t.toNat i v}:=by
 have:S.at' t (i:Int)=true:=by simp[Fs.at',ht];omega
 simp[Fs.store,this]
theorem store_but {S:Fs} {t:Int} (ht:S.has t=true) {i:Nat} (hi:i<8) (v:Int) {T:List Int} (hT:∀x,x ∈ T->S.has x=true):But1 S (S.store t (i:Int) v) T t i:=by
 intro x hx
 refine⟨store_has _ _ _ _ _,fun j hj hne=> ?_⟩
 rw[store_at ht hi]
 show Fs.put S.word t.toNat i v x.toNat j=_
 unfold Fs.put
 rw[if_neg]
 rintro ⟨e1,e2⟩
 have h1:=has_nat ht
 have h2:=has_nat (hT x hx)
 rcases hne with h|h
 ·exact h (by omega)
 ·exact h e2
theorem store_word {S:Fs} {t:Int} (ht:S.has t=true) {i:Nat} (hi:i<8) (v:Int):(S.store t (i:Int) v).word t.toNat i=v:=by
 rw[store_at ht hi]
 show Fs.put S.word t.toNat i v t.toNat i=v
 simp[Fs.put]
theorem read_store {S:Fs} {t:Int} (ht:S.has t=true) {i:Nat} (hi:i<8) (v:Int) (lv:Nat):rCode (S.store t (i:Int) v) t i lv=dCode v lv/\rEn (S.store t (i:Int) v) t i lv=En.of v lv:=by
 unfold rCode rEn
 rw[store_has,if_pos ht,if_pos ht,store_word ht hi]
 exact⟨rfl,rfl⟩
structure Found (S:Fs) (L:List Mp) (q lv:Nat) (e:En) (tl:Int) (A B:List Sp):Prop where
 way:Way S 0 (q:Int) (fndX S 0 (q:Int)) lv e tl
 spot:Spot1 S q 3 0 0 ⟨tl,ix (q:Int) lv,lv,q/8^lv,e⟩ A B
 le:lv<=3
 list:L=zM A++(if e.t=true then [e.map lv (q:Int)]else [])++zM B
 tabs:zU (thr S zW 3 0 0).1=zU A++zU B
 one:out S zW lv (sub S zW lv) tl (q/8^lv-ix (q:Int) lv) (ix (q:Int) lv)=([⟨tl,ix (q:Int) lv,lv,q/8^lv,e⟩],0)
theorem rep_find {S:Fs} {L:List Mp} (h:Rep S L) {q:Nat} (hq:q<4096):fndC S 0 (q:Int)=0/\∃lv e tl A B,Found S L q lv e tl A B:=by
 have hp:below (q:Int) 4096=true:=zB.2 ⟨by omega,by omega⟩
 have hd:q/8^3<8:=by
  rw[show(8:Nat)^3=512 by decide]
  omega
 obtain⟨a1,a2,s,a3,a4⟩:=all_ways h.ok q 3 (by omega) 0 0 (by omega) (by decide) (by omega) (by omega) h.code
 have eC:fndC S 0 (q:Int)=0:=by unfold fndC;rw[if_pos hp,a1]
 have eX:fndX S 0 (q:Int)=(thr S (onW (q:Int)) 3 0 0).1:=by unfold fndX;rw[if_pos ⟨hp,a1⟩]
 obtain⟨lv,e,tl,hw⟩:=way_of eC
 obtain⟨A,B,sp⟩:=spot1 h.ok q 3 (by omega) 0 0 (by omega) (by decide) (by omega) (by omega) h.code h.nodup s (List.mem_of_getLast? a3)
 have e1:s.level=lv:=by
  have:=hw.lastL
  rw[eX]at this
  unfold Go.Proofs.YtkhnelgommaioaaGreat.lastL at this
  rw[a3]at this
  exact Int.ofNat_inj.1 this
 have e2:s.e=e:=by
  have:=hw.lastE
  rw[eX]at this
  unfold Go.Proofs.YtkhnelgommaioaaGreat.lastE at this
  rw[a3]at this
  simpa using this
 have e3:s.table=tl:=by
  have:=hw.lastT
  rw[eX]at this
  unfold Go.Proofs.YtkhnelgommaioaaGreat.lastT at this
  rw[a3]at this
  simpa using this
 have hs:s=⟨tl,ix (q:Int) lv,lv,q/8^lv,e⟩:=by
  have h1:=sp.place
  have h2:=sp.ahead
  rw[e1]at h1 h2
  obtain⟨st,spl,sl,sa,se⟩:=s
  simp only at e1 e2 e3 h1 h2
  subst e1 e2 e3 h1 h2
  rfl
 subst hs
 have hle:=sp.lvl
 have hple:=sp.le
 simp only at hle hple
 have hix:ix (q:Int) lv<8:=ix_lt _ _
 have hone:out S zW lv (sub S zW lv) tl (q/8^lv-ix (q:Int) lv) (ix (q:Int) lv)=([⟨tl,ix (q:Int) lv,lv,q/8^lv,e⟩],0):=by
  have hon:=hw.on
  rw[hw.en]at hon
  unfold out
  rw[if_neg (by simp[zW]),if_neg (by simpa using hw.code),if_pos hon]
  unfold spt
  rw[<-hw.en,Nat.sub_add_cancel hple]
 have hall:=sp.all
 simp only at hall
 rw[hone]at hall
 have hlm:e.l=true->e.t=true:=by
  intro hl
  rw[hw.en]at hl ⊢
  exact(rEn_leaf h.ok hl).2.1
 have htl:e.t=true->e.l=true:=by
  intro ht
  have:=hw.on
  simp[En.on,ht]at this
  exact this
 have hmid:zM [(⟨tl,ix (q:Int) lv,lv,q/8^lv,e⟩:Sp)]=if e.t=true then [e.map lv (q:Int)]else []:=by
  by_cases ht:e.t=true
  ·have hl:=htl ht
   have hl':(rEn S tl (ix (q:Int) lv) lv).l=true:=by rw[<-hw.en];exact hl
   have h2:=(rEn_leaf h.ok hl').2.2
   rw[if_pos ht]
   have hmp:(⟨tl,ix (q:Int) lv,lv,q/8^lv,e⟩:Sp).mp=e.map lv (q:Int):=by
    have e4:(⟨tl,ix (q:Int) lv,lv,q/8^lv,e⟩:Sp)=spt S tl (ix (q:Int) lv) lv (q/8^lv-ix (q:Int) lv):=by
     unfold spt
     rw[<-hw.en,Nat.sub_add_cancel hple]
    have hpow:0<8^lv:=Nat.pow_pos (by decide)
    have hql:q/8^lv*8^lv<4096:=Nat.lt_of_le_of_lt (Nat.div_mul_le_self _ _) hq
    rw[e4,leaf_at h2,Nat.sub_add_cancel hple,map_leaf h.ok hl' hql,Nat.mul_div_cancel _ hpow,hw.en,map_leaf h.ok hl' hq]
   rw[zM,List.flatMap_cons,List.flatMap_nil,List.append_nil,if_pos hl,hmp]
  ·rw[if_neg ht]
   have hl:¬e.l=true:=fun hl=>ht (hlm hl)
   rw[zM,List.flatMap_cons,List.flatMap_nil,List.append_nil,if_neg hl]
 have htab:zU [(⟨tl,ix (q:Int) lv,lv,q/8^lv,e⟩:Sp)]=[]:=by
  rw[zU,List.flatMap_cons,List.flatMap_nil,List.append_nil,if_neg (by rw[hw.on];decide)]
 refine⟨eC,lv,e,tl,A,B,⟨hw,sp,hle,?_,?_,hone⟩⟩
 ·rw[<-h.maps,hall,mapsOf_append,mapsOf_append,hmid]
 ·rw[hall,tabsOf_append,tabsOf_append,htab,List.append_nil]
theorem found_fnd {S:Fs} {L:List Mp} {q lv:Nat} {e:En} {tl:Int} {A B:List Sp} (h:Found S L q lv e tl A B):
 (e.t=true->(e.map lv (q:Int)).has (q:Int)=true)->(e.t=true->fnd L (q:Int)=some (zM A).length/\at' L (q:Int)=e.map lv (q:Int))/\(e.t=false->fnd L (q:Int)=none):=by
 intro hhas
 have hpow:0<8^lv:=Nat.pow_pos (by decide)
 have hlo:q/8^lv*8^lv<=q:=Nat.div_mul_le_self _ _
 have hhi:q<(q/8^lv+1)*8^lv:=by
  rw[Nat.add_mul,Nat.one_mul]
  have:=Nat.lt_div_mul_add (a:=q) hpow
  omega
 have hA:∀m,m ∈ zM A->m.has (q:Int)=false:=by
  intro m hm
  have:=h.spot.ma m hm
  simp only at this
  cases hh:m.has (q:Int)
  ·rfl
  ·simp[Mp.has,over]at hh
   omega
 have hB:∀m,m ∈ zM B->m.has (q:Int)=false:=by
  intro m hm
  have:=h.spot.mb m hm
  simp only at this
  cases hh:m.has (q:Int)
  ·rfl
  ·simp[Mp.has,over]at hh
   omega
 refine⟨fun ht=> ?_,fun ht=> ?_⟩
 ·have hl:=h.list
  rw[if_pos ht]at hl
  have e1:fnd L (q:Int)=some (zM A).length:=by
   unfold fnd
   rw[hl,List.append_assoc,List.findIdx?_append]
   have:(zM A).findIdx? (fun m=>m.has (q:Int))=none:=by
    rw[List.findIdx?_eq_none_iff]
    exact hA
   rw[this]
   simp[hhas ht,List.findIdx?_cons]
  refine⟨e1,?_⟩
  unfold at'
  rw[e1]
  simp[hl,List.getD]
 ·have hl:=h.list
  rw[if_neg (by simp[ht])]at hl
  unfold fnd
  rw[List.findIdx?_eq_none_iff,hl]
  intro m hm
  simp at hm
  rcases hm with hm|hm
  ·exact hA m hm
  ·exact hB m hm
theorem found_has {S:Fs} {L:List Mp} {q lv:Nat} {e:En} {tl:Int} {A B:List Sp} (h:S.Ok) (hq:q<4096) (F:Found S L q lv e tl A B) (ht:e.t=true):e.l=true/\lv<=2/\e.map lv (q:Int)=⟨((q/8^lv*8^lv:Nat):Int),(lv:Int),e.f,e.r⟩/\(e.map lv (q:Int)).has (q:Int)=true:=by
 have hl:e.l=true:=by
  have:=F.way.on
  simp[En.on,ht]at this
  exact this
 have hl':(rEn S tl (ix (q:Int) lv) lv).l=true:=by rw[<-F.way.en];exact hl
 have h2:=(rEn_leaf h hl').2.2
 have e1:e.map lv (q:Int)=⟨((q/8^lv*8^lv:Nat):Int),(lv:Int),e.f,e.r⟩:=by rw[F.way.en];exact map_leaf h hl' hq
 refine⟨hl,h2,e1,?_⟩
 rw[e1]
 have hpow:0<8^lv:=Nat.pow_pos (by decide)
 have hlo:q/8^lv*8^lv<=q:=Nat.div_mul_le_self _ _
 have:=Nat.lt_div_mul_add (a:=q) hpow
 simp only[Mp.has,over,Bool.and_eq_true,decide_eq_true_eq]
 rw[span_pow h2]
 omega
theorem rep_codes {S:Fs} {L:List Mp} (h:Rep S L) (p:Int):tFC S 0 p=dropC L p/\tFM S 0 p=dropM L p:=by
 cases hp:below p 4096
 ·have e1:tFC S 0 p=1:=by
   have:fndC S 0 p=1:=by simp[fndC,hp]
   rw[tFC,this,if_pos (by decide)]
  have e2:dropC L p=1:=by rw[dropC,hp,if_neg (by decide)]
  exact⟨by rw[e1,e2],by rw[tFM,dropM,e1,e2,if_neg (by decide),if_neg (by decide)]⟩
 ·obtain⟨p0,p1⟩:=zB.1 hp
  obtain⟨q,rfl⟩:=Int.eq_ofNat_of_zero_le p0
  obtain⟨hz,lv,e,tl,A,B,F⟩:=rep_find h (q:=q) (by omega)
  obtain⟨f1,f2⟩:=found_fnd F (fun ht=>(found_has h.ok (by omega) F ht).2.2.2)
  have e0:tFC S 0 (q:Int)=if e.t=true then 0 else 5:=by rw[tFC,hz,if_neg (by decide),F.way.lastE]
  have em:tFM S 0 (q:Int)=if tFC S 0 (q:Int)=0 then e.map lv (q:Int)else .zz:=by rw[tFM,F.way.lastE,F.way.lastL]
  cases ht:e.t
  ·have e3:dropC L (q:Int)=5:=by rw[dropC,hp,if_pos rfl,f2 ht,if_pos rfl]
   rw[ht,if_neg (by decide)]at e0
   exact⟨by rw[e0,e3],by rw[em,dropM,e0,e3,if_neg (by decide),if_neg (by decide)]⟩
  ·obtain⟨f3,f4⟩:=f1 ht
   have e3:dropC L (q:Int)=0:=by rw[dropC,hp,if_pos rfl,f3,if_neg (by simp)]
   rw[ht,if_pos rfl]at e0
   exact⟨by rw[e0,e3],by rw[em,dropM,e0,e3,if_pos rfl,if_pos rfl,f4]⟩
theorem empty_iff {S:Fs} {x:Int}:emptyT S x=false ↔ ∃i,i<8/\S.word x.toNat i≠0:=by
 unfold emptyT
 rw[List.all_eq_false]
 constructor
 ·rintro ⟨i,hi,h⟩
  exact⟨i,by simpa using hi,by simpa using h⟩
 ·rintro ⟨i,hi,h⟩
  exact⟨i,by simpa using hi,by simpa using h⟩
theorem spot_mp {S:Fs} (h:S.Ok) {q lv:Nat} (hq:q<4096) {tl:Int} (hple:ix (q:Int) lv<=q/8^lv) {e:En} (he:e=rEn S tl (ix (q:Int) lv) lv) (hl:e.l=true):(⟨tl,ix (q:Int) lv,lv,q/8^lv,e⟩:Sp).mp=e.map lv (q:Int):=by
 subst he
 have h2:=(rEn_leaf h hl).2.2
 have e4:(⟨tl,ix (q:Int) lv,lv,q/8^lv,rEn S tl (ix (q:Int) lv) lv⟩:Sp)=spt S tl (ix (q:Int) lv) lv (q/8^lv-ix (q:Int) lv):=by
  unfold spt
  rw[Nat.sub_add_cancel hple]
 have hpow:0<8^lv:=Nat.pow_pos (by decide)
 have hql:q/8^lv*8^lv<4096:=Nat.lt_of_le_of_lt (Nat.div_mul_le_self _ _) hq
 rw[e4,leaf_at h2,Nat.sub_add_cancel hple,map_leaf h hl hql,Nat.mul_div_cancel _ hpow,map_leaf h hl hq]
theorem out_one {S:Fs} {q lv:Nat} {tl:Int} (hple:ix (q:Int) lv<=q/8^lv) {e:En} (he:e=rEn S tl (ix (q:Int) lv) lv) (hc:rCode S tl (ix (q:Int) lv) lv=0) (hon:e.on=false):
 out S zW lv (sub S zW lv) tl (q/8^lv-ix (q:Int) lv) (ix (q:Int) lv)=([⟨tl,ix (q:Int) lv,lv,q/8^lv,e⟩],0):=by
 subst he
 unfold out
 rw[if_neg (by simp[zW]),if_neg (by simpa using hc),if_pos hon]
 unfold spt
 rw[Nat.sub_add_cancel hple]
theorem index_place {q lv:Nat} (hq:q<4096) (hl:lv<4):index (q:Int) (lv:Int)=(ix (q:Int) lv:Nat):=index_ix (zB.2 ⟨by omega,by omega⟩) hl
theorem rep_leaf {S:Fs} {L:List Mp} (h:Rep S L) {q lv:Nat} {e:En} {tl:Int} {A B:List Sp} (hq:q<4096) (F:Found S L q lv e tl A B) (ht:e.t=true) {r:Int} (hr:0<=r/\r<=7) (u d:Bool):
 Rep (S.store tl ((ix (q:Int) lv:Nat):Int) (enc true true r u d e.f (lv:Int))) (L.set (zM A).length ((L.getD (zM A).length .zz).rts r))/\
 thr (S.store tl ((ix (q:Int) lv:Nat):Int) (enc true true r u d e.f (lv:Int))) zW 3 0 0=(A++[⟨tl,ix (q:Int) lv,lv,q/8^lv,⟨true,true,r,u,d,e.f⟩⟩]++B,0)/\
 (⟨tl,ix (q:Int) lv,lv,q/8^lv,⟨true,true,r,u,d,e.f⟩⟩:Sp).mp=(e.map lv (q:Int)).rts r:=by
 obtain⟨hl,h2,hmap,hhas⟩:=found_has h.ok hq F ht
 have hple:=F.spot.le
 simp only at hple
 have hix:ix (q:Int) lv<8:=ix_lt _ _
 have hlt:=F.way.hasT
 have hf:eFault true true r u d e.f (lv:Int)=0:=by
  have h0:eFault e.t e.l e.r e.u e.d e.f (lv:Int)=0:=by
   have:=rEn_fault h.ok F.way.code
   rw[<-F.way.en]at this
   exact this
  rw[ht,hl]at h0
  obtain⟨_,hx⟩:=fault_zero h0
  rcases hx with ⟨hx,_⟩|⟨_,_,_,f0,f1,⟨_,_,fs⟩|⟨hx,_⟩⟩
  ·cases hx
  ·exact fault_leaf (by omega) (by omega) hr.1 hr.2 f0 f1 fs
  ·cases hx
 obtain⟨v0,v1,vc,vz,d1,d2,d3,d4,d5,d6⟩:=dec_enc hf
 have hvne:enc true true r u d e.f (lv:Int)≠0:=fun hh=>by
  have:=vz.1 hh
  cases this
 have hEn:En.of (enc true true r u d e.f (lv:Int)) (lv:Int)=⟨true,true,r,u,d,e.f⟩:=by
  unfold En.of
  rw[d1,d2,d3,d4,d5,d6]
 generalize enc true true r u d e.f (lv:Int)=v at*
 obtain⟨rs1,rs2⟩:=read_store hlt hix v lv
 have ok':=h.ok.store tl ((ix (q:Int) lv:Nat):Int) v0 v1
 have hTh:=tabs_has 3 0 0 h.code
 have hsubT:∀x,x ∈ (0:Int)::(zU A++zU B)->S.has x=true:=fun x hx=>hTh x (by rw[F.tabs];exact hx)
 have hb:=store_but hlt hix v hsubT
 have ho':out (S.store tl ((ix (q:Int) lv:Nat):Int) v) zW lv (sub (S.store tl ((ix (q:Int) lv:Nat):Int) v) zW lv) tl (q/8^lv-ix (q:Int) lv) (ix (q:Int) lv)=([⟨tl,ix (q:Int) lv,lv,q/8^lv,⟨true,true,r,u,d,e.f⟩⟩],0):=
  out_one hple (by rw[rs2,hEn]) (by rw[rs1];exact vc) rfl
 have hthr:=F.spot.turn (S.store tl ((ix (q:Int) lv:Nat):Int) v) hb (by simp only;rw[ho'])
 simp only at hthr
 rw[ho']at hthr
 have hmp:(⟨tl,ix (q:Int) lv,lv,q/8^lv,⟨true,true,r,u,d,e.f⟩⟩:Sp).mp=(e.map lv (q:Int)).rts r:=by
  rw[spot_mp ok' hq hple (by rw[rs2,hEn]) rfl,hmap]
  have hl2:(rEn (S.store tl ((ix (q:Int) lv:Nat):Int) v) tl (ix (q:Int) lv) lv).l=true:=by rw[rs2,hEn]
  have:=map_leaf ok' hl2 hq
  rw[rs2,hEn]at this
  rw[this]
  rfl
 have htab:zU (A++[(⟨tl,ix (q:Int) lv,lv,q/8^lv,⟨true,true,r,u,d,e.f⟩⟩:Sp)]++B)=zU (thr S zW 3 0 0).1:=by
  rw[F.tabs,tabsOf_append,tabsOf_append]
  simp[zU,En.on]
 obtain⟨n1,n2,n3,n4⟩:=store_n S tl ((ix (q:Int) lv:Nat):Int) v
 refine⟨⟨ok',by rw[hthr],?_,?_,?_,?_⟩,hthr,hmp⟩
 ·rw[hthr]
  simp only
  rw[mapsOf_append,mapsOf_append]
  have hone:zM [(⟨tl,ix (q:Int) lv,lv,q/8^lv,⟨true,true,r,u,d,e.f⟩⟩:Sp)]=[(e.map lv (q:Int)).rts r]:=by
   rw[zM,List.flatMap_cons,List.flatMap_nil,List.append_nil,if_pos rfl,hmp]
  rw[hone]
  have hL:=F.list
  rw[if_pos ht]at hL
  rw[hL,List.append_assoc,List.append_assoc]
  simp[List.getD]
 ·rw[hthr];simp only;rw[htab];exact h.nodup
 ·intro k
  rw[hthr]
  simp only
  rw[htab,n2]
  exact h.used k
 ·intro x hx
  rw[hthr]at hx
  simp only at hx
  rw[htab]at hx
  rw[empty_iff]
  obtain⟨i,hi,hne⟩:=empty_iff.1 (h.full x hx)
  by_cases e1:x=tl/\i=ix (q:Int) lv
  ·obtain⟨rfl,rfl⟩:=e1
   exact⟨_,hix,by rw[store_word hlt hix];exact hvne⟩
  ·refine⟨i,hi,?_⟩
   have:=(hb x (by rw[<-F.tabs];exact List.mem_cons_of_mem _ hx)).2 i hi (by
    by_cases e2:x=tl
    ·exact .inr fun e3=>e1 ⟨e2,e3⟩
    ·exact .inl e2)
   rw[this]
   exact hne
theorem rep_protect {S:Fs} {L:List Mp} (h:Rep S L) (p r:Int):prC S 0 p r=protC L p r/\prM S 0 p r=protM L p r/\Rep (prS S 0 p r) (protL L p r):=by
 obtain⟨hc,hm⟩:=rep_codes h p
 have ec:prC S 0 p r=protC L p r:=by
  unfold prC protC
  by_cases hr:r<0\/7<r
  ·have hb:below r 8=false:=below_not.2 (by omega)
   rw[if_pos hr,hb,if_neg (by decide)]
  ·have hb:below r 8=true:=zB.2 (by omega)
   rw[if_neg hr,hb,if_pos rfl,hc]
 refine⟨ec,?_,?_⟩
 ·unfold prM protM
  rw[ec]
  by_cases hz:protC L p r=0
  ·rw[if_pos hz,if_pos hz,hm]
   have:dropC L p=0:=by
    unfold protC at hz
    split at hz
    ·exact hz
    ·omega
   rw[dropM,if_pos this]
  ·rw[if_neg hz,if_neg hz]
 ·unfold prS protL
  rw[ec]
  by_cases hz:protC L p r=0
  ·rw[if_pos hz,if_pos hz]
   have hr:0<=r/\r<=7:=by
    unfold protC at hz
    split at hz
    ·rename_i hb
     have:=zB.1 hb
     omega
    ·omega
   have hd:dropC L p=0:=by
    unfold protC at hz
    split at hz
    ·exact hz
    ·omega
   have hp:below p 4096=true:=by
    unfold dropC at hd
    split at hd
    ·assumption
    ·omega
   obtain⟨p0,p1⟩:=zB.1 hp
   obtain⟨q,rfl⟩:=Int.eq_ofNat_of_zero_le p0
   have hq:q<4096:=by omega
   obtain⟨hz2,lv,e,tl,A,B,F⟩:=rep_find h hq
   have ht:e.t=true:=by
    have:tFC S 0 (q:Int)=0:=by rw[hc];exact hd
    rw[tFC,hz2,if_neg (by decide),F.way.lastE]at this
    cases he:e.t
    ·rw[he,if_neg (by decide)]at this;omega
    ·rfl
   obtain⟨hl,h2,hmap,hhas⟩:=found_has h.ok hq F ht
   obtain⟨f3,f4⟩:=(found_fnd F (fun _=>hhas)).1 ht
   rw[F.way.lastT,F.way.lastL,F.way.lastE,index_place hq (by omega),ht,hl,f3]
   exact(rep_leaf h hq F ht hr e.u e.d).1
  ·rw[if_neg hz,if_neg hz]
   exact h
end Pg
namespace Pg
theorem ix_le (q lv:Nat):ix (q:Int) lv<=q/8^lv/\q/8^lv-ix (q:Int) lv=q/8^(lv+1)*8:=by
 have e:ix (q:Int) lv=q/8^lv%8:=by
  unfold ix
  have e:(q:Int)/8^lv%8=((q/8^lv%8:Nat):Int):=by simp
  rw[e,Int.toNat_natCast]
 rw[e,Nat.pow_succ,<-Nat.div_div_eq_div_mul]
 generalize q/8^lv=x
 omega
theorem read_zero {S:Fs} {t:Int} (ht:S.has t=true) {i lv:Nat} (hlv:lv<4) (h:S.word t.toNat i=0):rCode S t i lv=0/\rEn S t i lv=En.zero:=by
 unfold rCode rEn
 rw[if_pos ht,if_pos ht,h]
 have hd:dCode 0 (lv:Int)=0:=by
  have:¬((lv:Int)<0\/3<(lv:Int)):=by omega
  simp[dCode,this,wBad]
 have hg:dGood 0 (lv:Int)=false:=by simp[dGood]
 refine⟨hd,?_⟩
 unfold En.of En.zero xL xR xU xD xF
 rw[hg]
 rfl
theorem take_word {S:Fs} {k:Nat} (hp:S.pick=some k) (x i:Nat):S.take.word x i=if x=k then 0 else S.word x i:=by
 unfold Fs.pick at hp
 unfold Fs.take
 cases hb:S.back.getLast? with
 | some j=>
   rw[hb]at hp
   cases hp
   rfl
 | none=>
   rw[hb]at hp
   simp only at hp ⊢
   split at hp
   ·rename_i hlt
    cases hp
    rw[if_pos hlt]
    rfl
   ·cases hp
theorem take_used {S:Fs} {k:Nat} (hp:S.pick=some k):S.take.used=k::S.used:=by
 unfold Fs.pick at hp
 unfold Fs.take
 cases hb:S.back.getLast? with
 | some j=>
   rw[hb]at hp
   cases hp
   rfl
 | none=>
   rw[hb]at hp
   simp only at hp ⊢
   split at hp
   ·rename_i hlt
    cases hp
    rw[if_pos hlt]
   ·cases hp
structure Chain (S S':Fs) (q l:Nat) (t:Int) (m:Mp) (K:List Nat):Prop where
 ok:S'.Ok
 code:(out S' zW l (sub S' zW l) t (q/8^l-ix (q:Int) l) (ix (q:Int) l)).2=0
 maps:zM (out S' zW l (sub S' zW l) t (q/8^l-ix (q:Int) l) (ix (q:Int) l)).1=[m]
 tabs:zU (out S' zW l (sub S' zW l) t (q/8^l-ix (q:Int) l) (ix (q:Int) l)).1=K.map fun k:Nat=>(k:Int)
 used:S'.used=K.reverse++S.used
 nd:K.Nodup/\∀k,k ∈ K->k ∉ S.used
 full:∀k,k ∈ K->emptyT S' (k:Int)=false
 word:S'.word t.toNat (ix (q:Int) l)≠0
 same:∀x,x ∈ S.used->∀i,(x≠t.toNat\/i≠ix (q:Int) l)->S'.word x i=S.word x i
theorem chain {q:Nat} (hq:q<4096) {m:Mp} (hm:m.code=0) (hmp:m.p=(q:Int)) {sz:Nat} (hms:m.s=(sz:Int)):∀(d l:Nat),l=sz+d->l<4->∀(S:Fs) (t:Int),S.Ok->S.has t=true->(d:Int)<=S.free->
 ∃K,Chain S ((insW m.p m.s l S t).1.store (insW m.p m.s l S t).2 (index m.p m.s) (enc true true m.r false false m.f m.s)) q l t m K:=by
 obtain⟨z0,z1,z2,z3,z4,z5,z6,z7,z8⟩:=check_zero hm
 have hsz2:sz<=2:=by
  rw[hms]at z0
  rcases span_cases (sz:Int)with h|h|h|h<;>omega
 intro d
 induction d with
 | zero=>
   intro l hl hl4 S t ok ht hf
   have hl:l=sz:=by omega
   subst hl
   have e0:insW m.p m.s l S t=(S,t):=by
    cases l with
    | zero=>rfl
    | succ l=>
      show(if ((l+1:Nat):Int)<=m.s then(S,t)else _)=_
      rw[if_pos (by omega)]
   rw[e0]
   simp only
   rw[hmp,hms,index_place hq hl4]
   have hix:ix (q:Int) l<8:=ix_lt _ _
   obtain⟨hple,_⟩:=ix_le q l
   have hf0:eFault true true m.r false false m.f (l:Int)=0:=fault_leaf (by omega) (by omega) z5 (by omega) z3 z4 (by rw[<-hms];exact z8)
   obtain⟨v0,v1,vc,vz,d1,d2,d3,d4,d5,d6⟩:=dec_enc hf0
   have hvne:enc true true m.r false false m.f (l:Int)≠0:=fun hh=>by
    have:=vz.1 hh
    cases this
   have hEn:En.of (enc true true m.r false false m.f (l:Int)) (l:Int)=⟨true,true,m.r,false,false,m.f⟩:=by
    unfold En.of
    rw[d1,d2,d3,d4,d5,d6]
   generalize enc true true m.r false false m.f (l:Int)=v at*
   obtain⟨rs1,rs2⟩:=read_store ht hix v l
   have ok':=ok.store t ((ix (q:Int) l:Nat):Int) v0 v1
   have ho:out (S.store t ((ix (q:Int) l:Nat):Int) v) zW l (sub (S.store t ((ix (q:Int) l:Nat):Int) v) zW l) t (q/8^l-ix (q:Int) l) (ix (q:Int) l)=([⟨t,ix (q:Int) l,l,q/8^l,⟨true,true,m.r,false,false,m.f⟩⟩],0):=
    out_one hple (by rw[rs2,hEn]) (by rw[rs1];exact vc) rfl
   have hmpp:(⟨t,ix (q:Int) l,l,q/8^l,⟨true,true,m.r,false,false,m.f⟩⟩:Sp).mp=m:=by
    rw[spot_mp ok' hq hple (by rw[rs2,hEn]) rfl]
    have hl2:(rEn (S.store t ((ix (q:Int) l:Nat):Int) v) t (ix (q:Int) l) l).l=true:=by rw[rs2,hEn]
    have:=map_leaf ok' hl2 hq
    rw[rs2,hEn]at this
    rw[this]
    have hal:q/8^l*8^l=q:=by
     rw[hmp,hms,span_pow hsz2]at z7
     have:q%8^l=0:=by omega
     have:=Nat.div_add_mod q (8^l)
     rw[Nat.mul_comm]at this
     omega
    rw[hal,<-hmp,<-hms]
   obtain⟨n1,n2,n3,n4⟩:=store_n S t ((ix (q:Int) l:Nat):Int) v
   refine⟨[],ok',by rw[ho],?_,?_,by rw[n2];rfl,⟨List.nodup_nil,fun k hk=>by simp at hk⟩,fun k hk=>by simp at hk,by rw[store_word ht hix];exact hvne,?_⟩
   ·rw[ho]
    simp only
    rw[zM,List.flatMap_cons,List.flatMap_nil,List.append_nil,if_pos rfl,hmpp]
   ·rw[ho]
    simp[zU,En.on]
   ·intro x hx i hne
    rw[store_at ht hix]
    show Fs.put S.word t.toNat (ix (q:Int) l) v x i=_
    unfold Fs.put
    rw[if_neg]
    rintro ⟨e1,e2⟩
    rcases hne with h|h
    ·exact h e1
    ·exact h e2
 | succ d ih=>
   intro l hl hl4 S t ok ht hf
   obtain⟨l',rfl⟩:∃l',l=l'+1:=⟨sz+d,by omega⟩
   obtain⟨k,hpk,hkN,hkn,hkh,hkk,hkf,hknn⟩:=take_some ok (by omega)
   have e0:insW m.p m.s (l'+1) S t=insW m.p m.s l' (S.take.store t (index m.p ((l'+1:Nat):Int)) (enc true false 7 false false (k:Int) ((l'+1:Nat):Int))) (k:Int):=by
    show(if ((l'+1:Nat):Int)<=m.s then(S,t)else _)=_
    rw[if_neg (by omega),hkN]
   rw[e0]
   have hix1:ix (q:Int) (l'+1)<8:=ix_lt _ _
   have hix0:ix (q:Int) l'<8:=ix_lt _ _
   obtain⟨hple1,_⟩:=ix_le q (l'+1)
   obtain⟨hple0,hsub0⟩:=ix_le q l'
   have e1:index m.p ((l'+1:Nat):Int)=(ix (q:Int) (l'+1):Nat):=by rw[hmp];exact index_place hq hl4
   rw[e1]
   have ht1:=hkk t ht
   have okt:=ok.take
   have hsm:=ok.small
   have hf0:eFault true false 7 false false (k:Int) ((l'+1:Nat):Int)=0:=fault_table (by omega) (by omega) (by omega) (by omega)
   obtain⟨v0,v1,vc,vz,d1,d2,d3,d4,d5,d6⟩:=dec_enc hf0
   have hvne:enc true false 7 false false (k:Int) ((l'+1:Nat):Int)≠0:=fun hh=>by
    have:=vz.1 hh
    cases this
   have hEn:En.of (enc true false 7 false false (k:Int) ((l'+1:Nat):Int)) ((l'+1:Nat):Int)=⟨true,false,7,false,false,(k:Int)⟩:=by
    unfold En.of
    rw[d1,d2,d3,d4,d5,d6]
   generalize enc true false 7 false false (k:Int) ((l'+1:Nat):Int)=v at*
   have okS2:=okt.store t ((ix (q:Int) (l'+1):Nat):Int) v0 v1
   have hS2k:(S.take.store t ((ix (q:Int) (l'+1):Nat):Int) v).has (k:Int)=true:=by rw[store_has];exact hkh
   obtain⟨K,C⟩:=ih l' (by omega) (by omega) (S.take.store t ((ix (q:Int) (l'+1):Nat):Int) v) (k:Int) okS2 hS2k (by rw[store_free,hkf];omega)
   generalize hS3:(insW m.p m.s l' (S.take.store t ((ix (q:Int) (l'+1):Nat):Int) v) (k:Int)).1.store (insW m.p m.s l' (S.take.store t ((ix (q:Int) (l'+1):Nat):Int) v) (k:Int)).2 (index m.p m.s) (enc true true m.r false false m.f m.s)=S3 at*
   obtain⟨n1,n2,n3,n4⟩:=store_n S.take t ((ix (q:Int) (l'+1):Nat):Int) v
   have hu2:(S.take.store t ((ix (q:Int) (l'+1):Nat):Int) v).used=k::S.used:=by rw[n2,take_used hpk]
   have hknu:k ∉ S.used:=(ok.pick_lt hpk).2
   have htu:t.toNat ∈ S.used:=(ok.has_lt ht).2.2
   have htk:t.toNat≠k:=fun e=>hknu (e▸htu)
   have t0:=has_nat ht
   have w1:S3.word t.toNat (ix (q:Int) (l'+1))=v:=by
    rw[C.same t.toNat (by rw[hu2];exact List.mem_cons_of_mem _ htu) _ (.inl (by simpa using htk)),store_word ht1 hix1]
   have has3:∀x:Int,0<=x->x.toNat ∈ S3.used->S3.has x=true:=fun x h0 hx=>by simp[Fs.has,Fs.inn,h0,hx]
   have hu3:S3.used=K.reverse++(k::S.used):=by rw[C.used,hu2]
   have ht3:S3.has t=true:=has3 t t0 (by rw[hu3];exact List.mem_append_right _ (List.mem_cons_of_mem _ htu))
   have hk3:S3.has (k:Int)=true:=has3 _ (by omega) (by rw[hu3];exact List.mem_append_right _ (by simp))
   have hr3:rCode S3 t (ix (q:Int) (l'+1)) (l'+1)=0/\rEn S3 t (ix (q:Int) (l'+1)) (l'+1)=⟨true,false,7,false,false,(k:Int)⟩:=by
    unfold rCode rEn
    rw[if_pos ht3,if_pos ht3,w1]
    exact⟨vc,hEn⟩
   have wk:∀j,j<8->j≠ix (q:Int) l'->S3.word k j=0:=by
    intro j hj hne
    rw[C.same k (by rw[hu2];simp) j (.inr hne)]
    rw[store_at ht1 hix1]
    show Fs.put S.take.word t.toNat (ix (q:Int) (l'+1)) v k j=0
    unfold Fs.put
    rw[if_neg (by rintro ⟨e,_⟩;exact htk e.symm),take_word hpk,if_pos rfl]
   have hoj:∀j,j<8->j≠ix (q:Int) l'->out S3 zW l' (sub S3 zW l') (k:Int) (q/8^l'-ix (q:Int) l') j=([spt S3 (k:Int) j l' (q/8^l'-ix (q:Int) l')],0)/\(spt S3 (k:Int) j l' (q/8^l'-ix (q:Int) l')).e=En.zero:=by
    intro j hj hne
    obtain⟨r1,r2⟩:=read_zero (lv:=l') hk3 (by omega) (show S3.word (k:Int).toNat j=0 by rw[Int.toNat_natCast];exact wk j hj hne)
    refine⟨?_,r2⟩
    unfold out
    rw[if_neg (by simp[zW]),if_neg (by simpa using r1),if_pos (by rw[r2];rfl)]
   have hzz:∀j,j<8->(out S3 zW l' (sub S3 zW l') (k:Int) (q/8^l'-ix (q:Int) l') j).2=0:=by
    intro j hj
    by_cases e:j=ix (q:Int) l'
    ·rw[e];exact C.code
    ·rw[(hoj j hj e).1]
   have hthr:=thr_join hzz
   have hmaps:zM (thr S3 zW l' (k:Int) (q/8^l'-ix (q:Int) l')).1=[m]:=by
    rw[hthr]
    have e:zM ((List.range 8).flatMap fun j=>(out S3 zW l' (sub S3 zW l') (k:Int) (q/8^l'-ix (q:Int) l') j).1)=(List.range' 0 8).flatMap fun j=>zM (out S3 zW l' (sub S3 zW l') (k:Int) (q/8^l'-ix (q:Int) l') j).1:=by
     simp only[zM,List.flatMap_assoc,List.range_eq_range']
    rw[e,flatMap_one _ (ix (q:Int) l') 8 0 (fun j _ h2 h3=>by rw[(hoj j (by omega) h3).1];simp[zM,(hoj j (by omega) h3).2,En.zero]),if_pos (by omega),C.maps]
   have htabs:zU (thr S3 zW l' (k:Int) (q/8^l'-ix (q:Int) l')).1=K.map fun k:Nat=>(k:Int):=by
    rw[hthr]
    have e:zU ((List.range 8).flatMap fun j=>(out S3 zW l' (sub S3 zW l') (k:Int) (q/8^l'-ix (q:Int) l') j).1)=(List.range' 0 8).flatMap fun j=>zU (out S3 zW l' (sub S3 zW l') (k:Int) (q/8^l'-ix (q:Int) l') j).1:=by
     simp only[zU,List.flatMap_assoc,List.range_eq_range']
    rw[e,flatMap_one _ (ix (q:Int) l') 8 0 (fun j _ h2 h3=>by rw[(hoj j (by omega) h3).1];simp[zU,(hoj j (by omega) h3).2,En.zero,En.on]),if_pos (by omega),C.tabs]
   have hcz:(thr S3 zW l' (k:Int) (q/8^l'-ix (q:Int) l')).2=0:=by rw[hthr]
   have ho:out S3 zW (l'+1) (sub S3 zW (l'+1)) t (q/8^(l'+1)-ix (q:Int) (l'+1)) (ix (q:Int) (l'+1))=(spt S3 t (ix (q:Int) (l'+1)) (l'+1) (q/8^(l'+1)-ix (q:Int) (l'+1))::(thr S3 zW l' (k:Int) (q/8^l'-ix (q:Int) l')).1,0):=by
    unfold out
    rw[if_neg (by simp[zW]),if_neg (by simpa using hr3.1),if_neg (by rw[hr3.2];simp[En.on]),hr3.2,Nat.sub_add_cancel hple1,<-hsub0]
    show(_,(thr S3 zW l' (k:Int) (q/8^l'-ix (q:Int) l')).2)=_
    rw[hcz]
    rfl
   have hse:(spt S3 t (ix (q:Int) (l'+1)) (l'+1) (q/8^(l'+1)-ix (q:Int) (l'+1))).e=⟨true,false,7,false,false,(k:Int)⟩:=hr3.2
   refine⟨k::K,C.ok,by rw[ho],?_,?_,?_,?_,?_,by rw[w1];exact hvne,?_⟩
   ·rw[ho]
    simp only
    have:zM (spt S3 t (ix (q:Int) (l'+1)) (l'+1) (q/8^(l'+1)-ix (q:Int) (l'+1))::(thr S3 zW l' (k:Int) (q/8^l'-ix (q:Int) l')).1)=zM (thr S3 zW l' (k:Int) (q/8^l'-ix (q:Int) l')).1:=by
     simp[zM,hse]
    rw[this,hmaps]
   ·rw[ho]
    simp only
    rw[tabsOf_one (by rw[hse];rfl),hse,htabs]
    rfl
   ·rw[hu3]
    simp
   ·refine⟨List.nodup_cons.2 ⟨fun hk=> ?_,C.nd.1⟩,fun x hx=> ?_⟩
    ·exact C.nd.2 k hk (by rw[hu2];simp)
    ·rcases List.mem_cons.1 hx with rfl|hx
     ·exact hknu
     ·exact fun hu=>C.nd.2 x hx (by rw[hu2];exact List.mem_cons_of_mem _ hu)
   ·intro x hx
    rcases List.mem_cons.1 hx with rfl|hx
    ·rw[empty_iff]
     exact⟨ix (q:Int) l',hix0,by have:=C.word;exact this⟩
    ·exact C.full x hx
   ·intro x hx i hne
    have hxk:x≠k:=fun e=>hknu (e▸hx)
    rw[C.same x (by rw[hu2];exact List.mem_cons_of_mem _ hx) i (.inl (by simpa using hxk)),store_at ht1 hix1]
    show Fs.put S.take.word t.toNat (ix (q:Int) (l'+1)) v x i=_
    unfold Fs.put
    rw[if_neg (by rintro ⟨e1,e2⟩;rcases hne with h|h;exact h e1;exact h e2),take_word hpk,if_neg hxk]
end Pg
namespace Pg
theorem way_step (S:Fs) (p:Int):∀(lv:Nat) (t:Int) (a:Nat),(thr S (onW p) lv t a).2=0->∀s,(thr S (onW p) lv t a).1.getLast?=some s->∀l,s.level<l->l<=lv->∃s',s' ∈ (thr S (onW p) lv t a).1/\s'.level=l/\s'.e.on=true:=by
 intro lv
 induction lv with
 | zero=>
   intro t a _ s _ l h1 h2
   omega
 | succ lv ih=>
   intro t a hz s hs l h1 h2
   rw[thr_way]at hz hs ⊢
   split at hz
   ·rename_i h3
    exact absurd hz h3
   ·rename_i h3
    rw[if_neg h3]at hs ⊢
    split at hz
    ·rename_i h4
     rw[if_pos h4]at hs
     simp at hs
     subst hs
     have:(spt S t (ix p (lv+1)) (lv+1) a).level=lv+1:=rfl
     omega
    ·rename_i h4
     rw[if_neg h4]at hs ⊢
     simp only[sub]at hz hs ⊢
     have h4:(rEn S t (ix p (lv+1)) (lv+1)).on=true:=by simpa using h4
     by_cases e:l=lv+1
     ·exact⟨_,List.mem_cons_self,e.symm,h4⟩
     ·obtain⟨s2,j1,_⟩:=(way_like S p lv (rEn S t (ix p (lv+1)) (lv+1)).f ((a+ix p (lv+1))*8)).2 hz
      have hs2:s2=s:=by
       rw[List.getLast?_cons,j1]at hs
       simpa using hs
      subst hs2
      obtain⟨s',m1,m2⟩:=ih _ _ hz s2 j1 l h1 (by omega)
      exact⟨s',List.mem_cons_of_mem _ m1,m2⟩
theorem maps_ne {S:Fs}:∀(lv:Nat) (t:Int) (a:Nat),(thr S zW lv t a).2=0->emptyT S t=false->(∀x,x ∈ zU (thr S zW lv t a).1->emptyT S x=false)->∃m,m ∈ zM (thr S zW lv t a).1:=by
 intro lv
 induction lv using Nat.strongRecOn with
 | _ lv IH=>
 intro t a hz he hall
 obtain⟨i,hi,hne⟩:=empty_iff.1 he
 obtain⟨c1,c2⟩:=thr_parts hz
 obtain⟨hc,ho⟩:=out_all (c1 i hi)
 have hh:=rCode_has hc
 have ht:(rEn S t i lv).t=true:=by
  unfold rCode at hc
  rw[if_pos hh]at hc
  unfold rEn
  rw[if_pos hh]
  show dGood (S.word t.toNat i) lv=true
  simp[dGood,hc,hne]
 have inn:∀m,m ∈ zM (out S zW lv (sub S zW lv) t a i).1->m ∈ zM (thr S zW lv t a).1:=by
  intro m hm
  rw[c2]
  simp only[zM,List.mem_flatMap]at hm ⊢
  obtain⟨s,hs,hm⟩:=hm
  exact⟨s,⟨i,by simpa using hi,hs⟩,hm⟩
 rcases ho with ⟨hon,ho⟩|⟨hon,hr,ho⟩
 ·have hl:(spt S t i lv a).e.l=true:=by
   have:(rEn S t i lv).on=false:=hon
   simp[En.on,ht]at this
   exact this
  exact⟨(spt S t i lv a).mp,inn _ (by rw[ho];simp[zM,hl])⟩
 ·obtain⟨b,rfl⟩:=rEn_on hon
  have hr2:(thr S zW b (rEn S t i (b+1)).f ((a+i)*8)).2=0:=hr
  have hon':(spt S t i (b+1) a).e.on=true:=hon
  have hsub:∀x,x ∈ (rEn S t i (b+1)).f::zU (thr S zW b (rEn S t i (b+1)).f ((a+i)*8)).1->x ∈ zU (thr S zW (b+1) t a).1:=by
   intro x hx
   refine tabs_place hi hz ?_
   rw[ho,tabsOf_one hon']
   exact hx
  obtain⟨m,hm⟩:=IH b (by omega) _ _ hr2 (hall _ (hsub _ List.mem_cons_self)) (fun x hx=>hall x (hsub x (List.mem_cons_of_mem _ hx)))
  refine⟨m,inn m ?_⟩
  rw[ho]
  simp only[zM,List.flatMap_cons,List.mem_append]
  exact .inr hm
section
variable {S:Fs}
theorem maps_good (h:S.Ok):∀(lv:Nat),lv<4->∀(t:Int) (a:Nat),a+8<=8^(4-lv)->(thr S zW lv t a).2=0->(∀m,m ∈ zM (thr S zW lv t a).1->m.code=0)/\(zM (thr S zW lv t a).1).Pairwise fun x y=>x.p+span x.s<=y.p:=by
 intro lv
 induction lv using Nat.strongRecOn with
 | _ lv IH=>
 intro hlv t a ha hz
 obtain⟨c1,c2⟩:=thr_parts hz
 have hpow:0<8^lv:=Nat.pow_pos (by decide)
 have hall:(a+8)*8^lv<=4096:=by
  have h3:(a+8)*8^lv<=8^(4-lv)*8^lv:=Nat.mul_le_mul_right _ ha
  rw[<-Nat.pow_add,show 4-lv+lv=4 by omega]at h3
  have e:(8:Nat)^4=4096:=by decide
  omega
 have one:∀j,j<8->(∀m,m ∈ zM (out S zW lv (sub S zW lv) t a j).1->m.code=0)/\(zM (out S zW lv (sub S zW lv) t a j).1).Pairwise fun x y=>x.p+span x.s<=y.p:=by
  intro j hj
  have hbj:(a+j+1)*8^lv<=(a+8)*8^lv:=Nat.mul_le_mul_right _ (by omega)
  have hex:(a+j+1)*8^lv=(a+j)*8^lv+8^lv:=by rw[Nat.add_mul,Nat.one_mul]
  obtain⟨hc,ho⟩:=out_all (c1 j hj)
  rcases ho with ⟨hon,ho⟩|⟨hon,hr,ho⟩
  ·rw[ho]
   by_cases hl:(rEn S t j lv).l=true
   ·have hl':(spt S t j lv a).e.l=true:=hl
    have e:zM [spt S t j lv a]=[(spt S t j lv a).mp]:=by simp[zM,hl']
    rw[e]
    refine⟨fun m hm=> ?_,List.pairwise_singleton _ _⟩
    simp at hm
    subst hm
    have h2:=(rEn_leaf h hl).2.2
    have hf:=rEn_fault h hc
    obtain⟨_,hx⟩:=fault_zero hf
    rcases hx with ⟨_,hx,_⟩|⟨_,r0,r1,f0,f1,⟨_,_,fs⟩|⟨hx,_⟩⟩
    ·rw[hx]at hl;cases hl
    ·rw[leaf_at h2,map_leaf h hl (by omega),Nat.mul_div_cancel _ hpow]
     unfold Mp.code
     simp only
     have hsp:=span_pow h2
     have hs0:span (lv:Int)≠0:=by rw[hsp];omega
     rw[check_align hs0 (zB.2 ⟨by omega,by omega⟩) (zB.2 ⟨f0,f1⟩) (zB.2 ⟨r0,by omega⟩),if_pos]
     refine⟨?_,fs⟩
     rw[hsp]
     rw[<-Int.natCast_emod,Nat.mul_mod_left]
     rfl
    ·rw[hx]at hl;cases hl
   ·have hl':(spt S t j lv a).e.l=false:=Bool.eq_false_iff.2 hl
    have e:zM [spt S t j lv a]=[]:=by simp[zM,hl']
    rw[e]
    exact⟨fun m hm=>by simp at hm,List.Pairwise.nil⟩
  ·obtain⟨b,rfl⟩:=rEn_on hon
   have hl':(spt S t j (b+1) a).e.l=false:=by
    have:(rEn S t j (b+1)).on=true:=hon
    simp[En.on]at this
    exact this.2
   have e:zM (out S zW (b+1) (sub S zW (b+1)) t a j).1=zM (thr S zW b (rEn S t j (b+1)).f ((a+j)*8)).1:=by
    rw[ho];simp[zM,hl',sub]
   rw[e]
   exact IH b (by omega) (by omega) _ _ (by
    rw[show 4-b=(4-(b+1))+1 by omega,Nat.pow_succ]
    omega) hr
 have e:zM (thr S zW lv t a).1=(List.range 8).flatMap fun j=>zM (out S zW lv (sub S zW lv) t a j).1:=by
  rw[c2]
  simp only[zM,List.flatMap_assoc]
 rw[e]
 refine⟨fun m hm=> ?_,?_⟩
 ·rw[List.mem_flatMap]at hm
  obtain⟨j,hj,hm⟩:=hm
  exact(one j (by simpa using hj)).1 m hm
 ·rw[List.pairwise_flatMap]
  refine⟨fun j hj=>(one j (by simpa using hj)).2,?_⟩
  refine List.Pairwise.imp_of_mem ?_ (List.pairwise_lt_range (n:=8))
  intro i j hi hj hij x hx y hy
  have hi:i<8:=by simpa using hi
  have hj:j<8:=by simpa using hj
  have h1:=(out_range h hlv hi ha (c1 i hi) hx).2
  have h2:=(out_range h hlv hj ha (c1 j hj) hy).1
  have:(a+i+1)*8^lv<=(a+j)*8^lv:=Nat.mul_le_mul_right _ (by omega)
  omega
end
theorem rep_good {S:Fs} {L:List Mp} (h:Rep S L):Good L:=by
 obtain⟨h1,h2⟩:=maps_good h.ok 3 (by omega) 0 0 (by decide) h.code
 rw[h.maps]at h1 h2
 refine⟨h1,List.Pairwise.imp_of_mem ?_ h2⟩
 intro x y hx hy hxy
 have s1:=(check_zero (h1 x hx)).1
 have s2:=(check_zero (h1 y hy)).1
 have b1:=(span_bd x.s).1
 have b2:=(span_bd y.s).1
 refine⟨by omega,?_⟩
 cases hm:x.meets y
 ·rfl
 ·simp[Mp.meets,meet,over]at hm
  omega
theorem ins_mid {m:Mp}:∀{A B:List Mp},(∀x,x ∈ A->x.p<m.p)->(∀x,x ∈ B->m.p<x.p)->ins m (A++B)=A++m::B
 | [],[],_,_=>rfl
 | [],y::B,_,hB=>by
   show ins m (y::B)=m::y::B
   unfold ins
   rw[if_pos (hB y List.mem_cons_self)]
 | x::A,B,hA,hB=>by
   show ins m (x::(A++B))=x::(A++m::B)
   unfold ins
   rw[if_neg (by have:=hA x List.mem_cons_self;omega),ins_mid (fun y hy=>hA y (List.mem_cons_of_mem _ hy)) hB]
theorem rep_insert {S:Fs} {L:List Mp} (h:Rep S L) (m:Mp):(insC S 0 m=6/\S.free<3/\insS S 0 m=S)\/(insC S 0 m≠6/\insC S 0 m=addC L m/\Rep (insS S 0 m) (addL L m)/\∀s,s ∈ (thr S zW 3 0 0).1->s.e.l=true\/s.e.on=true->s ∈ (thr (insS S 0 m) zW 3 0 0).1):=by
 by_cases hm:m.code=0
 ·obtain⟨z0,z1,z2,z3,z4,z5,z6,z7,z8⟩:=check_zero hm
  obtain⟨q,hmp⟩:=Int.eq_ofNat_of_zero_le z1
  have hq:q<4096:=by omega
  obtain⟨sz,hms⟩:∃sz:Nat,m.s=(sz:Int):=by
   rcases span_cases m.s with ⟨e,_⟩|⟨e,_⟩|⟨e,_⟩|⟨_,_,_,e⟩
   ·exact⟨0,e⟩
   ·exact⟨1,e⟩
   ·exact⟨2,e⟩
   ·exact absurd e z0
  have hsz2:sz<=2:=by
   rw[hms]at z0
   rcases span_cases (sz:Int)with h|h|h|h<;>omega
  have hsp:span m.s=((8^sz:Nat):Int):=by rw[hms];exact span_pow hsz2
  have hal:q/8^sz*8^sz=q:=by
   rw[hmp,hsp]at z7
   have:q%8^sz=0:=by omega
   have:=Nat.div_add_mod q (8^sz)
   rw[Nat.mul_comm]at this
   omega
  have hpsz:0<8^sz:=Nat.pow_pos (by decide)
  obtain⟨hz,lv,e,tl,A,B,F⟩:=rep_find h hq
  have hgood:=rep_good h
  have eC:insC S 0 m=if e.t=true\/(lv:Int)<m.s then 4 else if S.free<(lv:Int)-m.s then 6 else 0:=by
   rw[insC,if_neg (by simpa using hm),hmp,hz,if_neg (by decide),F.way.lastE,F.way.lastL]
  have hpow:0<8^lv:=Nat.pow_pos (by decide)
  have hlo:q/8^lv*8^lv<=q:=Nat.div_mul_le_self _ _
  have hhi:q<(q/8^lv+1)*8^lv:=by
   rw[Nat.add_mul,Nat.one_mul]
   have:=Nat.lt_div_mul_add (a:=q) hpow
   omega
  by_cases hthere:e.t=true\/(lv:Int)<m.s
  ·--something is there
   rw[if_pos hthere]at eC
   have hmeet:∃x,x ∈ L/\x.meets m=true:=by
    by_cases ht:e.t=true
    ·obtain⟨_,_,_,hhas⟩:=found_has h.ok hq F ht
     refine⟨e.map lv (q:Int),?_,?_⟩
     ·rw[F.list,if_pos ht]
      simp
     ·have:over (e.map lv (q:Int)).p (e.map lv (q:Int)).s m.p=true:=by rw[hmp];exact hhas
      simp[Mp.meets,meet,this]
    ·have hlt:lv<sz:=by
      rcases hthere with h'|h'
      ·exact absurd h' ht
      ·omega
     have hd:q/8^3<8:=by
      rw[show(8:Nat)^3=512 by decide]
      omega
     obtain⟨a1,a2,s,a3,a4⟩:=all_ways h.ok q 3 (by omega) 0 0 (by omega) (by decide) (by omega) (by omega) h.code
     have hp:below (q:Int) 4096=true:=zB.2 ⟨by omega,by omega⟩
     have eX:fndX S 0 (q:Int)=(thr S (onW (q:Int)) 3 0 0).1:=by unfold fndX;rw[if_pos ⟨hp,a1⟩]
     have e1:s.level=lv:=by
      have:=F.way.lastL
      rw[eX]at this
      unfold Go.Proofs.YtkhnelgommaioaaGreat.lastL at this
      rw[a3]at this
      exact Int.ofNat_inj.1 this
     obtain⟨s',m1,m2,m3⟩:=way_step S (q:Int) 3 0 0 a1 s a3 sz (by omega) (by omega)
     obtain⟨A',B',sp⟩:=spot1 h.ok q 3 (by omega) 0 0 (by omega) (by decide) (by omega) (by omega) h.code h.nodup s' m1
     have hall:=sp.all
     have hen:=sp.en
     have hpl:=sp.place
     have hah:=sp.ahead
     have hle:=sp.le
     have hcode:=sp.code
     obtain⟨st,spl,sl,sa,se⟩:=s'
     simp only at m2 m3 hall hen hpl hah hle hcode
     subst m2
     obtain⟨hc0,ho⟩:=out_all hcode
     rw[<-hen]at ho
     rcases ho with ⟨hon,_⟩|⟨_,hr,ho⟩
     ·rw[hon]at m3;cases m3
     ·obtain⟨b,rfl⟩:=rEn_on (by rw[<-hen];exact m3)
      have hr2:(thr S zW b se.f ((sa-spl+spl)*8)).2=0:=hr
      have hs':spt S st spl (b+1) (sa-spl)=⟨st,spl,b+1,sa,se⟩:=by
       unfold spt
       rw[<-hen,Nat.sub_add_cancel hle]
      rw[hs']at ho
      have hsubt:∀x,x ∈ se.f::zU (thr S zW b se.f ((sa-spl+spl)*8)).1->x ∈ zU (thr S zW 3 0 0).1:=by
       intro x hx
       rw[hall,tabsOf_append,tabsOf_append,ho,tabsOf_one m3]
       exact List.mem_append_left _ (List.mem_append_right _ hx)
      obtain⟨x,hx⟩:=maps_ne b se.f ((sa-spl+spl)*8) hr2 (h.full _ (hsubt _ List.mem_cons_self)) (fun x hx=>h.full x (hsubt x (List.mem_cons_of_mem _ hx)))
      have hxo:x ∈ zM (out S zW (b+1) (sub S zW (b+1)) st (sa-spl) spl).1:=by
       rw[ho]
       simp only[zM,List.flatMap_cons,List.mem_append]
       exact .inr hx
      refine⟨x,?_,?_⟩
      ·rw[<-h.maps,hall,mapsOf_append,mapsOf_append]
       exact List.mem_append_left _ (List.mem_append_right _ hxo)
      ·have hix8:spl<8:=by rw[hpl];exact ix_lt _ _
       have hsa:sa-spl+8<=8^(4-(b+1)):=by
        have h5:=(ix_le q (b+1)).2
        rw[<-hpl,<-hah]at h5
        rw[h5]
        have h6:q/8^(b+1+1)<8^(4-(b+1+1)):=by
         rw[Nat.div_lt_iff_lt_mul (Nat.pow_pos (by decide)),<-Nat.pow_add,show 4-(b+1+1)+(b+1+1)=4 by omega]
         exact hq
        have h7:(8:Nat)^(4-(b+1))=8^(4-(b+1+1))*8:=by rw[<-Nat.pow_succ,show(4-(b+1+1)).succ=4-(b+1) by omega]
        rw[h7]
        have h8:=Nat.mul_le_mul_right 8 (Nat.succ_le_of_lt h6)
        rw[Nat.succ_mul]at h8
        exact h8
       obtain⟨r1,r2⟩:=out_range h.ok (by omega) hix8 hsa hcode hxo
       rw[Nat.sub_add_cancel hle,hah,hal]at r1
       rw[Nat.sub_add_cancel hle,hah,Nat.add_mul,Nat.one_mul,hal]at r2
       have hxs:=(check_zero (hgood.ok x (by rw[<-h.maps,hall,mapsOf_append,mapsOf_append];exact List.mem_append_left _ (List.mem_append_right _ hxo)))).1
       have hxb:=(span_bd x.s).1
       have:over m.p m.s x.p=true:=by
        simp only[over,Bool.and_eq_true,decide_eq_true_eq]
        rw[hsp,hmp]
        omega
       simp[Mp.meets,meet,this]
   obtain⟨x,hx,hxm⟩:=hmeet
   have ea:addC L m=4:=by rw[addC,if_neg (by simpa using hm),if_pos (List.any_eq_true.2 ⟨x,hx,hxm⟩)]
   refine .inr ⟨by omega,by rw[eC,ea],?_⟩
   rw[insS,addL,eC,ea,if_neg (by decide),if_neg (by decide)]
   exact⟨h,fun s hs _=>hs⟩
  ·rw[if_neg hthere]at eC
   by_cases hfree:S.free<(lv:Int)-m.s
   ·rw[if_pos hfree]at eC
    exact .inl ⟨eC,by have:=F.le;omega,by rw[insS,eC,if_neg (by decide)]⟩
   ·rw[if_neg hfree]at eC
    have ht:e.t=false:=by
     cases he:e.t
     ·rfl
     ·exact absurd (.inl he) hthere
    have hszl:sz<=lv:=by omega
    have hL:=F.list
    rw[if_neg (by simp[ht]),List.append_nil]at hL
    have hup:q+8^sz<=(q/8^lv+1)*8^lv:=by
     have e1:8^lv=8^(lv-sz)*8^sz:=by rw[<-Nat.pow_add,Nat.sub_add_cancel hszl]
     rw[e1,<-Nat.mul_assoc]at hhi ⊢
     rw[<-hal]at hhi ⊢
     have h5:q/8^sz<(q/(8^(lv-sz)*8^sz)+1)*8^(lv-sz):=by
      rw[hal]at hhi
      exact(Nat.div_lt_iff_lt_mul hpsz).2 hhi
     have h6:(q/8^sz+1)*8^sz<=(q/(8^(lv-sz)*8^sz)+1)*8^(lv-sz)*8^sz:=Nat.mul_le_mul_right _ h5
     rw[Nat.add_mul,Nat.one_mul]at h6
     rw[hal]at h6 ⊢
     exact h6
    have pA:∀x,x ∈ zM A->x.p<m.p/\x.meets m=false:=by
     intro x hx
     have hxL:x ∈ L:=by rw[hL];exact List.mem_append_left _ hx
     have s1:=(check_zero (hgood.ok x hxL)).1
     have b1:=(span_bd x.s).1
     have:=F.spot.ma x hx
     simp only at this
     refine⟨by omega,?_⟩
     cases hh:x.meets m
     ·rfl
     ·simp[Mp.meets,meet,over]at hh
      omega
    have pB:∀x,x ∈ zM B->m.p<x.p/\x.meets m=false:=by
     intro x hx
     have:=F.spot.mb x hx
     simp only at this
     refine⟨by omega,?_⟩
     cases hh:x.meets m
     ·rfl
     ·simp[Mp.meets,meet,over]at hh
      rw[hsp]at hh
      omega
    have hadd:addC L m=0:=by
     rw[addC,if_neg (by simpa using hm),if_neg]
     rw[List.any_eq_true]
     rintro ⟨x,hx,hxm⟩
     rw[hL]at hx
     rcases List.mem_append.1 hx with hx|hx
     ·rw[(pA x hx).2]at hxm;cases hxm
     ·rw[(pB x hx).2]at hxm;cases hxm
    refine .inr ⟨by omega,by rw[eC,hadd],?_⟩
    rw[insS,addL,eC,hadd,if_pos rfl,if_pos rfl,hmp,F.way.lastL,F.way.lastT,<-hmp]
    obtain⟨K,C⟩:=chain hq hm hmp hms (lv-sz) lv (by omega) (by have:=F.le;omega) S tl h.ok F.way.hasT (by omega)
    rw[Int.toNat_natCast]
    generalize (insW m.p m.s lv S tl).1.store (insW m.p m.s lv S tl).2 (index m.p m.s) (enc true true m.r false false m.f m.s)=S' at*
    have hTh:=tabs_has 3 0 0 h.code
    have hbut:But1 S S' ((0:Int)::(zU A++zU B)) tl (ix (q:Int) lv):=by
     intro x hx
     have hxh:=hTh x (by rw[F.tabs];exact hx)
     have hx0:=has_nat hxh
     have hxu:x.toNat ∈ S.used:=(h.ok.has_lt hxh).2.2
     have ht0:=has_nat F.way.hasT
     refine⟨?_,fun i hi hne=>C.same x.toNat hxu i ?_⟩
     ·rw[hxh]
      simp only[Fs.has,Fs.inn,Bool.and_eq_true,decide_eq_true_eq]
      exact⟨hx0,by rw[C.used];exact List.mem_append_right _ hxu⟩
     ·rcases hne with h'|h'
      ·exact .inl fun e=>h' (by omega)
      ·exact .inr h'
    have hthr:=F.spot.turn S' hbut (by simp only;exact C.code)
    simp only at hthr
    have htab:zU (thr S' zW 3 0 0).1=zU A++K.map (fun k:Nat=>(k:Int))++zU B:=by
     rw[hthr]
     simp only
     rw[tabsOf_append,tabsOf_append,C.tabs]
    have hKin:∀x:Int,x ∈ K.map (fun k:Nat=>(k:Int))->∀y,y ∈ (0:Int)::(zU A++zU B)->x≠y:=by
     intro x hx y hy e
     rw[List.mem_map]at hx
     obtain⟨k,hk,rfl⟩:=hx
     have:=(h.used k).2 (by rw[F.tabs,e];exact hy)
     exact C.nd.2 k hk this
    refine⟨⟨C.ok,by rw[hthr],?_,?_,?_,?_⟩,?_⟩
    ·rw[hthr]
     simp only
     rw[mapsOf_append,mapsOf_append,C.maps,hL,ins_mid (fun x hx=>(pA x hx).1) (fun x hx=>(pB x hx).1),List.append_assoc]
     rfl
    ·rw[htab]
     have hnd:=h.nodup
     rw[F.tabs]at hnd
     have hKnd:(K.map fun k:Nat=>(k:Int)).Nodup:=by
      rw[List.nodup_iff_pairwise_ne,List.pairwise_map]
      exact(List.nodup_iff_pairwise_ne.1 C.nd.1).imp fun hne e=>hne (Int.ofNat_inj.1 e)
     have hperm:((0:Int)::(zU A++K.map (fun k:Nat=>(k:Int))++zU B)).Perm (K.map (fun k:Nat=>(k:Int))++((0:Int)::(zU A++zU B))):=by
      refine List.Perm.trans ?_ List.perm_middle.symm
      refine List.Perm.cons _ ?_
      rw[<-List.append_assoc]
      exact List.Perm.append_right _ List.perm_append_comm
     rw[hperm.nodup_iff,List.nodup_append]
     exact⟨hKnd,hnd,hKin⟩
    ·intro k
     rw[htab,C.used,List.mem_append,List.mem_reverse,h.used k,F.tabs]
     simp only[List.mem_cons,List.mem_append,List.mem_map]
     constructor
     ·rintro (hk|hk|hk|hk)
      ·exact .inr (.inl (.inr ⟨k,hk,rfl⟩))
      ·exact .inl hk
      ·exact .inr (.inl (.inl hk))
      ·exact .inr (.inr hk)
     ·rintro (hk|(hk|⟨j,hj,e⟩)|hk)
      ·exact .inr (.inl hk)
      ·exact .inr (.inr (.inl hk))
      ·exact .inl (Int.ofNat_inj.1 e▸hj)
      ·exact .inr (.inr (.inr hk))
    ·intro x hx
     rw[htab]at hx
     have old:x ∈ zU A++zU B->emptyT S' x=false:=by
      intro hx
      obtain⟨i,hi,hne⟩:=empty_iff.1 (h.full x (by rw[F.tabs];exact hx))
      rw[empty_iff]
      by_cases e1:x=tl/\i=ix (q:Int) lv
      ·obtain⟨rfl,rfl⟩:=e1
       exact⟨_,ix_lt _ _,C.word⟩
      ·refine⟨i,hi,?_⟩
       have:=(hbut x (List.mem_cons_of_mem _ hx)).2 i hi (by
        by_cases e2:x=tl
        ·exact .inr fun e3=>e1 ⟨e2,e3⟩
        ·exact .inl e2)
       rw[this]
       exact hne
     rcases List.mem_append.1 hx with hx|hx
     ·rcases List.mem_append.1 hx with hx|hx
      ·exact old (List.mem_append_left _ hx)
      ·rw[List.mem_map]at hx
       obtain⟨k,hk,rfl⟩:=hx
       exact C.full k hk
     ·exact old (List.mem_append_right _ hx)
    ·intro s hs hl
     have hall:=F.spot.all
     simp only at hall
     rw[F.one]at hall
     rw[hall]at hs
     rw[hthr]
     rcases List.mem_append.1 hs with hs|hs
     ·rcases List.mem_append.1 hs with hs|hs
      ·exact List.mem_append_left _ (List.mem_append_left _ hs)
      ·simp at hs
       subst hs
       rcases hl with hl|hl
       ·have hl':(rEn S tl (ix (q:Int) lv) lv).l=true:=by rw[<-F.way.en];exact hl
        have:=(rEn_leaf h.ok hl').2.1
        rw[<-F.way.en,ht]at this
        cases this
       ·simp[En.on,ht]at hl
     ·exact List.mem_append_right _ hs
 ·have e1:insC S 0 m=m.code:=by rw[insC,if_pos hm]
  have e2:addC L m=m.code:=by rw[addC,if_pos hm]
  have hne6:m.code≠6:=by
   unfold Mp.code check
   split
   ·decide
   ·split
    ·decide
    ·split<;>decide
  have hne0:m.code≠0:=hm
  refine .inr ⟨by rw[e1];exact hne6,by rw[e1,e2],?_⟩
  rw[insS,addL,e1,e2,if_neg hne0,if_neg hne0]
  exact⟨h,fun s hs _=>hs⟩
end Pg
namespace Pg
theorem way_head (S:Fs) (p:Int) (lv:Nat) (t:Int) (a:Nat) {s:Sp} (h:(thr S (onW p) lv t a).1[0]?=some s):s.table=t:=by
 rw[thr_way]at h
 split at h
 ·simp at h
 ·split at h
  ·simp at h
   subst h
   rfl
  ·simp at h
   subst h
   rfl
theorem way_at (S:Fs) (p:Int):∀(lv:Nat) (t:Int) (a i:Nat) (s:Sp),(thr S (onW p) lv t a).1[i]?=some s->s.level+i=lv/\(∀s',(thr S (onW p) lv t a).1[i+1]?=some s'->s.e.on=true/\s.e.f=s'.table):=by
 intro lv
 induction lv with
 | zero=>
   intro t a i s hs
   rw[thr_way]at hs ⊢
   split at hs
   ·simp at hs
   ·rename_i h1
    rw[if_neg h1]
    split at hs
    ·rename_i h2
     rw[if_pos h2]
     cases i with
     | zero=>
       simp at hs
       subst hs
       exact⟨rfl,fun s' h'=>by simp at h'⟩
     | succ i=>simp at hs
    ·rename_i h2
     obtain⟨m,hm⟩:=rEn_on (S:=S) (t:=t) (i:=ix p 0) (lv:=0) (by simpa using h2)
     omega
 | succ lv ih=>
   intro t a i s hs
   rw[thr_way]at hs ⊢
   split at hs
   ·simp at hs
   ·rename_i h1
    rw[if_neg h1]
    split at hs
    ·rename_i h2
     rw[if_pos h2]
     cases i with
     | zero=>
       simp at hs
       subst hs
       exact⟨rfl,fun s' h'=>by simp at h'⟩
     | succ i=>simp at hs
    ·rename_i h2
     rw[if_neg h2]
     have h2:(rEn S t (ix p (lv+1)) (lv+1)).on=true:=by simpa using h2
     simp only[sub]at hs ⊢
     cases i with
     | zero=>
       simp at hs
       subst hs
       refine⟨rfl,fun s' h'=>⟨h2,?_⟩⟩
       rw[List.getElem?_cons_succ]at h'
       exact(way_head S p lv _ _ h').symm
     | succ i=>
       rw[List.getElem?_cons_succ]at hs
       obtain⟨j1,j2⟩:=ih _ _ i s hs
       refine⟨by omega,fun s' h'=> ?_⟩
       rw[List.getElem?_cons_succ]at h'
       exact j2 s' h'
def gives:List Int->Fs->Fs
 | [],S=>S
 | x::r,S=>gives r (S.give x)
theorem give_like {S:Fs} {x:Int} (h:S.Ok) (hx:S.has x=true):(S.give x).word=S.word/\(S.give x).n=S.n/\(∀k,k ∈ (S.give x).used ↔ k ∈ S.used/\k≠x.toNat)/\(S.give x).free=S.free+1:=by
 have hnd:S.used.Nodup:=(List.nodup_append.1 h.nodup).1
 unfold Fs.give
 rw[if_pos hx]
 refine⟨rfl,rfl,fun k=> ?_,?_⟩
 ·show k ∈ S.used.erase x.toNat ↔ _
  rw[hnd.mem_erase_iff]
  exact And.comm
 ·unfold Fs.free
  simp only[List.length_append,List.length_singleton]
  omega
theorem gives_like:∀(G:List Int) (S:Fs),S.Ok->G.Nodup->(∀x,x ∈ G->S.has x=true)->(gives G S).Ok/\(gives G S).word=S.word/\(gives G S).n=S.n/\(∀k:Nat,k ∈ (gives G S).used ↔ k ∈ S.used/\(k:Int) ∉ G)/\(gives G S).free=S.free+G.length
 | [],S,h,_,_=>⟨h,rfl,rfl,fun k=>by simp[gives],by simp[gives]⟩
 | x::r,S,h,hnd,hh=>by
   have hx:=hh x List.mem_cons_self
   have hx0:=has_nat hx
   obtain⟨g1,g2,g3,g4⟩:=give_like h hx
   obtain⟨hxr,hr⟩:=List.nodup_cons.1 hnd
   have hstill:∀y,y ∈ r->(S.give x).has y=true:=by
    intro y hy
    have hy':=hh y (List.mem_cons_of_mem _ hy)
    have hy0:=has_nat hy'
    simp only[Fs.has,Fs.inn,Bool.and_eq_true,decide_eq_true_eq]
    refine⟨hy0,(g3 _).2 ⟨(h.has_lt hy').2.2,fun e=> ?_⟩⟩
    have:y=x:=by omega
    exact hxr (this▸hy)
   obtain⟨i1,i2,i3,i4,i5⟩:=gives_like r (S.give x) (h.give x) hr hstill
   refine⟨i1,by show(gives r (S.give x)).word=_;rw[i2,g1],by show(gives r (S.give x)).n=_;rw[i3,g2],fun k=> ?_,?_⟩
   ·show k ∈ (gives r (S.give x)).used ↔ _
    rw[i4 k,g3 k,List.mem_cons]
    constructor
    ·rintro ⟨⟨a1,a2⟩,a3⟩
     exact⟨a1,fun e=>by rcases e with e|e;exact a2 (by omega);exact a3 e⟩
    ·rintro ⟨a1,a2⟩
     exact⟨⟨a1,fun e=>a2 (.inl (by omega))⟩,fun e=>a2 (.inr e)⟩
   ·show(gives r (S.give x)).free=_
    rw[i5,g4,List.length_cons]
    omega
structure Up (S S':Fs) (q:Nat) (ts:List Int) (k:Nat):Prop where
 ok:S'.Ok
 used:S'.used=S.used
 n:S'.n=S.n
 same:∀x:Int,S.has x=true->∀i,(∀j,k<j->j<ts.length->¬(x=ts.getD j 0/\i=ix (q:Int) (3-j)))->S'.word x.toNat i=S.word x.toNat i
 free:S'.free=S.free
theorem Up.has {S S':Fs} {q:Nat} {ts:List Int} {k:Nat} (h:Up S S' q ts k) (x:Int):S'.has x=S.has x:=by
 unfold Fs.has Fs.inn
 rw[h.used]
structure Removed (S:Fs) (L:List Mp) (x:Mp) (R:Fs×List Int) (A B:List Sp) (z:Sp) (T:List Int):Prop where
 list:L=zM A++[x]++zM B
 all:∃M,(Pg.thr S zW 3 0 0).1=A++M++B/\zM M=[x]
 tabs:zU (thr S zW 3 0 0).1=zU A++T++zU B
 gone:R.2=T.reverse
 ok:R.1.Ok
 used:R.1.used=S.used
 free:R.1.free=S.free
 n:R.1.n=S.n
 thr:thr R.1 zW 3 0 0=(A++[z]++B,0)
 zero:z.e=En.zero
 full:∀y,y ∈ zU A++zU B->emptyT R.1 y=false
theorem getD_drop (l:List Int) (j k:Nat) (h:k<j) (h2:j<l.length):l.getD j 0 ∈ l.drop (k+1):=by
 have e:l.getD j 0=l[j]'h2:=by simp[List.getD,List.getElem?_eq_getElem h2]
 rw[e]
 refine List.mem_iff_getElem?.2 ⟨j-(k+1),?_⟩
 rw[List.getElem?_drop,show k+1+(j-(k+1))=j by omega,List.getElem?_eq_getElem h2]
theorem drop_getD (l:List Int) (j:Nat) (h:j<l.length):l.drop j=l.getD j 0::l.drop (j+1):=by
 have e:l.getD j 0=l[j]'h:=by simp[List.getD,List.getElem?_eq_getElem h]
 rw[e]
 exact List.drop_eq_getElem_cons h
theorem rm_up {S:Fs} {L:List Mp} (h:Rep S L) {q:Nat} (hq:q<4096) (hz:fndC S 0 (q:Int)=0) (x:Mp):∀(k:Nat),k<(fndX S 0 (q:Int)).length->∀(S':Fs) (G:List Int),Up S S' q (tabs (fndX S 0 (q:Int))) k->
 (∀s,(fndX S 0 (q:Int))[k]?=some s->zM (out S zW s.level (sub S zW s.level) s.table (s.ahead-s.place) s.place).1=[x]/\zU (out S zW s.level (sub S zW s.level) s.table (s.ahead-s.place) s.place).1=(tabs (fndX S 0 (q:Int))).drop (k+1))->
 G=((tabs (fndX S 0 (q:Int))).drop (k+1)).reverse->∃A B z T,Removed S L x (rmW (q:Int) (tabs (fndX S 0 (q:Int))) (k+1) S' G) A B z T:=by
 have hp:below (q:Int) 4096=true:=zB.2 ⟨by omega,by omega⟩
 have hd:q/8^3<8:=by
  rw[show(8:Nat)^3=512 by decide]
  omega
 have hwz:(thr S (onW (q:Int)) 3 0 0).2=0:=by
  unfold fndC at hz
  rw[if_pos hp]at hz
  exact hz
 have eX:fndX S 0 (q:Int)=(thr S (onW (q:Int)) 3 0 0).1:=by unfold fndX;rw[if_pos ⟨hp,hwz⟩]
 obtain⟨lv0,e0,tl0,hway⟩:=way_of hz
 have hTh:=tabs_has 3 0 0 h.code
 have step:∀(k:Nat),k<(fndX S 0 (q:Int)).length->∀(S':Fs) (G:List Int),Up S S' q (tabs (fndX S 0 (q:Int))) k->
  (∀s,(fndX S 0 (q:Int))[k]?=some s->zM (out S zW s.level (sub S zW s.level) s.table (s.ahead-s.place) s.place).1=[x]/\zU (out S zW s.level (sub S zW s.level) s.table (s.ahead-s.place) s.place).1=(tabs (fndX S 0 (q:Int))).drop (k+1))->
  G=((tabs (fndX S 0 (q:Int))).drop (k+1)).reverse->
  (∀k',k=k'+1->∀(S1:Fs) (G1:List Int),Up S S1 q (tabs (fndX S 0 (q:Int))) k'->
    (∀s,(fndX S 0 (q:Int))[k']?=some s->zM (out S zW s.level (sub S zW s.level) s.table (s.ahead-s.place) s.place).1=[x]/\zU (out S zW s.level (sub S zW s.level) s.table (s.ahead-s.place) s.place).1=(tabs (fndX S 0 (q:Int))).drop (k'+1))->
    G1=((tabs (fndX S 0 (q:Int))).drop (k'+1)).reverse->∃A B z T,Removed S L x (rmW (q:Int) (tabs (fndX S 0 (q:Int))) (k'+1) S1 G1) A B z T)->
  ∃A B z T,Removed S L x (rmW (q:Int) (tabs (fndX S 0 (q:Int))) (k+1) S' G) A B z T:=by
  intro k hk S' G U hs hG next
  obtain⟨s,hsk⟩:∃s,(fndX S 0 (q:Int))[k]?=some s:=⟨_,List.getElem?_eq_getElem hk⟩
  obtain⟨hm,ht⟩:=hs s hsk
  have hsk':=hsk
  rw[eX]at hsk'
  obtain⟨hlev,_⟩:=way_at S (q:Int) 3 0 0 k s hsk'
  obtain⟨A,B,sp⟩:=spot1 h.ok q 3 (by omega) 0 0 (by omega) (by decide) (by omega) (by omega) h.code h.nodup s (List.mem_of_getElem? hsk')
  have hts:(tabs (fndX S 0 (q:Int))).getD k 0=s.table:=by
   unfold Go.Proofs.YtkhnelgommaioaaGreat.tabs
   rw[List.getD,List.getElem?_map,hsk]
   rfl
  have hlen:(tabs (fndX S 0 (q:Int))).length=(fndX S 0 (q:Int)).length:=tabs_len _
  have hth:S.has s.table=true:=hway.has _ (by
   unfold Go.Proofs.YtkhnelgommaioaaGreat.tabs
   exact List.mem_map.2 ⟨s,List.mem_of_getElem? hsk,rfl⟩)
  have hix:ix (q:Int) s.level<8:=ix_lt _ _
  have hind:index (q:Int) (3-(k:Int))=(ix (q:Int) s.level:Nat):=by
   rw[show(3-(k:Int))=(s.level:Int) by omega]
   exact index_place hq (by omega)
  have hth':S'.has s.table=true:=by rw[U.has];exact hth
  have hpl:=sp.place
  have hall:=sp.all
  have hnd:=h.nodup
  rw[hall,tabsOf_append,tabsOf_append,ht]at hnd
  obtain⟨hn0,hnd1⟩:=List.nodup_cons.1 hnd
  rw[List.nodup_append]at hnd1
  obtain⟨hndAT,hndB,hdisj⟩:=hnd1
  rw[List.nodup_append]at hndAT
  have inT:∀j,k<j->j<(fndX S 0 (q:Int)).length->(tabs (fndX S 0 (q:Int))).getD j 0 ∈ (tabs (fndX S 0 (q:Int))).drop (k+1):=by
   intro j h1 h2
   have h3:j<(tabs (fndX S 0 (q:Int))).length:=by omega
   exact getD_drop _ _ _ h1 h3
  have notT:∀y,y ∈ (0:Int)::(zU A++zU B)->y ∉ (tabs (fndX S 0 (q:Int))).drop (k+1):=by
   intro y hy hyT
   rcases List.mem_cons.1 hy with rfl|hy
   ·exact hn0 (List.mem_append_left _ (List.mem_append_right _ hyT))
   ·rcases List.mem_append.1 hy with hy|hy
    ·exact hndAT.2.2 y hy y hyT rfl
    ·exact hdisj y (List.mem_append_right _ hyT) y hy rfl
  have hst:s.table ∉ (tabs (fndX S 0 (q:Int))).drop (k+1):=notT _ (by
   rcases List.mem_cons.1 sp.memA with e|e
   ·rw[e];exact List.mem_cons_self
   ·exact List.mem_cons_of_mem _ (List.mem_append_left _ e))
  have sub0:∀y,y ∈ (0:Int)::(zU A++zU B)->S.has y=true:=by
   intro y hy
   refine hTh y ?_
   rw[hall,tabsOf_append,tabsOf_append]
   rcases List.mem_cons.1 hy with rfl|hy
   ·exact List.mem_cons_self
   ·refine List.mem_cons_of_mem _ ?_
    rcases List.mem_append.1 hy with hy|hy
    ·exact List.mem_append_left _ (List.mem_append_left _ hy)
    ·exact List.mem_append_right _ hy
  generalize hS1:S'.store s.table ((ix (q:Int) s.level:Nat):Int) 0=S1
  have ok1:S1.Ok:=by rw[<-hS1];exact U.ok.store _ _ (by decide) (by decide)
  obtain⟨n1,n2,n3,n4⟩:=store_n S' s.table ((ix (q:Int) s.level:Nat):Int) 0
  rw[hS1]at n1 n2 n3 n4
  have hf1:S1.free=S'.free:=by rw[<-hS1];exact store_free _ _ _ _
  have w0:S1.word s.table.toNat (ix (q:Int) s.level)=0:=by rw[<-hS1];exact store_word hth' hix 0
  have h0s:=has_nat hth
  have wo:∀y:Int,0<=y->∀i,(y≠s.table\/i≠ix (q:Int) s.level)->S1.word y.toNat i=S'.word y.toNat i:=by
   intro y hy i hne
   rw[<-hS1,store_at hth' hix]
   show Fs.put S'.word s.table.toNat (ix (q:Int) s.level) 0 y.toNat i=_
   unfold Fs.put
   rw[if_neg]
   rintro ⟨e1,e2⟩
   rcases hne with h'|h'
   ·exact h' (by omega)
   ·exact h' e2
  have has1:∀y,S1.has y=S.has y:=by
   intro y
   unfold Fs.has Fs.inn
   rw[n2,U.used]
  have wS:∀y,S.has y=true->y ∉ (tabs (fndX S 0 (q:Int))).drop (k+1)->∀i,(y≠s.table\/i≠ix (q:Int) s.level)->S1.word y.toNat i=S.word y.toNat i:=by
   intro y hy hyT i hne
   rw[wo y (has_nat hy) i hne]
   refine U.same y hy i fun j h1 h2=> ?_
   rintro ⟨e1,_⟩
   exact hyT (e1▸inT j h1 (by omega))
  have hbut:But1 S S1 ((0:Int)::(zU A++zU B)) s.table s.place:=by
   intro y hy
   refine⟨has1 y,fun i _ hne=>wS y (sub0 y hy) (notT y hy) i (by rw[<-hpl];exact hne)⟩
  have hr1:=read_zero (S:=S1) (lv:=s.level) (by rw[has1];exact hth) (by omega) w0
  have hple:=sp.le
  have hah:=sp.ahead
  have hoz:out S1 zW s.level (sub S1 zW s.level) s.table (s.ahead-s.place) s.place=([⟨s.table,ix (q:Int) s.level,s.level,q/8^s.level,En.zero⟩],0):=by
   rw[hah,hpl]
   rw[hah,hpl]at hple
   exact out_one hple hr1.2.symm hr1.1 rfl
  have hthr:=sp.turn S1 hbut (by rw[hoz])
  rw[hoz]at hthr
  have hlist:L=zM A++[x]++zM B:=by rw[<-h.maps,hall,mapsOf_append,mapsOf_append,hm]
  have htabs:zU (thr S zW 3 0 0).1=zU A++(tabs (fndX S 0 (q:Int))).drop (k+1)++zU B:=by rw[hall,tabsOf_append,tabsOf_append,ht]
  have hrm:rmW (q:Int) (tabs (fndX S 0 (q:Int))) (k+1) S' G=if k=0\/emptyT S1 s.table=false then(S1,G)else rmW (q:Int) (tabs (fndX S 0 (q:Int))) k S1 (G++[s.table]):=by
   show(if k=0\/emptyT (S'.store ((tabs (fndX S 0 (q:Int))).getD k 0) (index (q:Int) (3-(k:Int))) 0) ((tabs (fndX S 0 (q:Int))).getD k 0)=false then _ else _)=_
   rw[hts,hind,hS1]
  rw[hrm]
  by_cases hstop:k=0\/emptyT S1 s.table=false
  ·rw[if_pos hstop]
   refine⟨A,B,⟨s.table,ix (q:Int) s.level,s.level,q/8^s.level,En.zero⟩,(tabs (fndX S 0 (q:Int))).drop (k+1),⟨hlist,⟨_,hall,hm⟩,htabs,hG,ok1,by rw[n2,U.used],by rw[hf1,U.free],by rw[n1,U.n],hthr,rfl,fun y hy=> ?_⟩⟩
   by_cases e:y=s.table
   ·rcases hstop with h0|h0
    ·exfalso
     subst h0
     have:s.table=0:=way_head S (q:Int) 3 0 0 hsk'
     rw[e,this]at hy
     refine hn0 ?_
     rcases List.mem_append.1 hy with hy|hy
     ·exact List.mem_append_left _ (List.mem_append_left _ hy)
     ·exact List.mem_append_right _ hy
    ·rw[e];exact h0
   ·have hyin:y ∈ (0:Int)::(zU A++zU B):=List.mem_cons_of_mem _ hy
    obtain⟨i,hi,hne⟩:=empty_iff.1 (h.full y (by
     rw[htabs]
     rcases List.mem_append.1 hy with hy|hy
     ·exact List.mem_append_left _ (List.mem_append_left _ hy)
     ·exact List.mem_append_right _ hy))
    rw[empty_iff]
    exact⟨i,hi,by rw[wS y (sub0 y hyin) (notT y hyin) i (.inl e)];exact hne⟩
  ·rw[if_neg hstop]
   obtain⟨k',rfl⟩:∃k',k=k'+1:=⟨k-1,by omega⟩
   have hemp:∀i,i<8->S1.word s.table.toNat i=0:=by
    intro i hi
    cases hw:S1.word s.table.toNat i==0
    ·exact absurd (.inr (empty_iff.2 ⟨i,hi,by simpa using hw⟩)) hstop
    ·simpa using hw
   refine next k' rfl S1 (G++[s.table]) ⟨ok1,by rw[n2,U.used],by rw[n1,U.n],?_,by rw[hf1,U.free]⟩ ?_ ?_
   ·intro y hy i hne
    have h1:=hne (k'+1) (by omega) (by omega)
    rw[hts,show 3-(k'+1)=s.level by omega]at h1
    rw[wo y (has_nat hy) i (by
     by_cases e:y=s.table
     ·exact .inr fun e2=>h1 ⟨e,e2⟩
     ·exact .inl e)]
    exact U.same y hy i fun j h2 h3=>hne j (by omega) h3
   ·intro s' hs'
    have hs'':=hs'
    rw[eX]at hs''
    obtain⟨hlev',hnx⟩:=way_at S (q:Int) 3 0 0 k' s' hs''
    obtain⟨hon',hf'⟩:=hnx s hsk'
    obtain⟨A',B',sp'⟩:=spot1 h.ok q 3 (by omega) 0 0 (by omega) (by decide) (by omega) (by omega) h.code h.nodup s' (List.mem_of_getElem? hs'')
    obtain⟨hc',ho'⟩:=out_all sp'.code
    rw[<-sp'.en]at ho'
    have hlv':s'.level=s.level+1:=by omega
    rcases ho' with ⟨hn',_⟩|⟨_,hr',ho'⟩
    ·rw[hn']at hon';cases hon'
    ·have hl':s'.e.l=false:=by
      have:=hon'
      simp[En.on]at this
      exact this.2
     have hsp':spt S s'.table s'.place s'.level (s'.ahead-s'.place)=s':=by
      have h1:=sp'.en
      have h2:=sp'.le
      obtain⟨a1,a2,a3,a4,a5⟩:=s'
      simp only at h1 h2 ⊢
      unfold spt
      rw[<-h1,Nat.sub_add_cancel h2]
     rw[hsp']at ho'
     have hsub':sub S zW s'.level=thr S zW s.level:=by rw[hlv'];rfl
     rw[hsub',Nat.sub_add_cancel sp'.le,hf',sp'.ahead,hlv',<-(ix_le q s.level).2]at ho' hr'
     have ho2:(out S zW s'.level (sub S zW s'.level) s'.table (s'.ahead-s'.place) s'.place).1=s'::(thr S zW s.level s.table (q/8^s.level-ix (q:Int) s.level)).1:=by
      have e1:s'.ahead-s'.place=q/8^(s.level+1)-s'.place:=by rw[sp'.ahead,hlv']
      rw[hsub',e1,hlv']
      exact ho'
     have hparts:=thr_parts hr'
     have hzero:∀j,j<8->j≠ix (q:Int) s.level->out S zW s.level (sub S zW s.level) s.table (q/8^s.level-ix (q:Int) s.level) j=([spt S s.table j s.level (q/8^s.level-ix (q:Int) s.level)],0)/\(spt S s.table j s.level (q/8^s.level-ix (q:Int) s.level)).e=En.zero:=by
      intro j hj hne
      have hw:S.word s.table.toNat j=0:=by rw[<-wS s.table hth hst j (.inr hne)];exact hemp j hj
      obtain⟨r1,r2⟩:=read_zero (lv:=s.level) hth (by omega) hw
      refine⟨?_,r2⟩
      unfold out
      rw[if_neg (by simp[zW]),if_neg (by simpa using r1),if_pos (by rw[r2];rfl)]
     have hout:out S zW s.level (sub S zW s.level) s.table (s.ahead-s.place) s.place=out S zW s.level (sub S zW s.level) s.table (q/8^s.level-ix (q:Int) s.level) (ix (q:Int) s.level):=by rw[hah,hpl]
     rw[hout]at hm ht
     constructor
     ·rw[ho2]
      have e1:zM (s'::(thr S zW s.level s.table (q/8^s.level-ix (q:Int) s.level)).1)=zM (thr S zW s.level s.table (q/8^s.level-ix (q:Int) s.level)).1:=by simp[zM,hl']
      rw[e1,hparts.2]
      have e2:zM ((List.range 8).flatMap fun j=>(out S zW s.level (sub S zW s.level) s.table (q/8^s.level-ix (q:Int) s.level) j).1)=(List.range' 0 8).flatMap fun j=>zM (out S zW s.level (sub S zW s.level) s.table (q/8^s.level-ix (q:Int) s.level) j).1:=by
       simp only[zM,List.flatMap_assoc,List.range_eq_range']
      rw[e2,flatMap_one _ (ix (q:Int) s.level) 8 0 (fun j _ h2 h3=>by rw[(hzero j (by omega) h3).1];simp[zM,(hzero j (by omega) h3).2,En.zero]),if_pos (by omega),hm]
     ·rw[ho2,tabsOf_one hon',hf',hparts.2]
      have e2:zU ((List.range 8).flatMap fun j=>(out S zW s.level (sub S zW s.level) s.table (q/8^s.level-ix (q:Int) s.level) j).1)=(List.range' 0 8).flatMap fun j=>zU (out S zW s.level (sub S zW s.level) s.table (q/8^s.level-ix (q:Int) s.level) j).1:=by
       simp only[zU,List.flatMap_assoc,List.range_eq_range']
      rw[e2,flatMap_one _ (ix (q:Int) s.level) 8 0 (fun j _ h2 h3=>by rw[(hzero j (by omega) h3).1];simp[zU,(hzero j (by omega) h3).2,En.zero,En.on]),if_pos (by omega),ht]
      have h3:k'+1<(tabs (fndX S 0 (q:Int))).length:=by omega
      rw[drop_getD _ _ h3,hts]
   ·have h3:k'+1<(tabs (fndX S 0 (q:Int))).length:=by omega
    rw[drop_getD _ _ h3,List.reverse_cons,<-hG,hts]
 intro k
 induction k with
 | zero=>exact fun hk S' G U hs hG=>step 0 hk S' G U hs hG (fun k' e=>by omega)
 | succ k ih=>
   intro hk S' G U hs hG
   refine step (k+1) hk S' G U hs hG fun k' e=> ?_
   have:k'=k:=by omega
   subst this
   exact ih (by omega)
end Pg
namespace Pg
theorem up_refl {S:Fs} (h:S.Ok) (q:Nat) (ts:List Int) (k:Nat):Up S S q ts k:=⟨h,rfl,rfl,fun _ _ _ _=>rfl,rfl⟩
theorem fnd_mid {A B:List Mp} {x:Mp} {q:Int} (hL:Good (A++[x]++B)) (hx:x.has q=true):fnd (A++[x]++B) q=some A.length:=by
 have hp:=hL.up
 rw[List.append_assoc,List.pairwise_append]at hp
 have hA:∀m,m ∈ A->m.has q=false:=by
  intro m hm
  have h1:=hp.2.2 m hm x (by simp)
  cases hh:m.has q
  ·rfl
  ·obtain⟨h1,h2⟩:=h1
   simp[Mp.meets,meet,over]at h2
   simp[Mp.has,over]at hh hx
   omega
 unfold fnd
 rw[List.append_assoc,List.findIdx?_append]
 have:A.findIdx? (fun m=>m.has q)=none:=by
  rw[List.findIdx?_eq_none_iff]
  exact hA
 rw[this]
 simp[hx,List.findIdx?_cons]
theorem erase_mid (A B:List Mp) (x:Mp):(A++[x]++B).eraseIdx A.length=A++B:=by
 rw[List.append_assoc,List.eraseIdx_append_of_length_le (Nat.le_refl _)]
 simp
theorem removed_rep {S:Fs} {L:List Mp} (h:Rep S L) {x:Mp} {R:Fs×List Int} {A B:List Sp} {z:Sp} {T:List Int} (r:Removed S L x R A B z T):
 R.2.Nodup/\(∀y,y ∈ R.2->R.1.has y=true)/\Rep (gives R.2 R.1) (zM A++zM B)/\(gives R.2 R.1).free=S.free+R.2.length/\thr (gives R.2 R.1) zW 3 0 0=(A++[z]++B,0):=by
 have hTh:=tabs_has 3 0 0 h.code
 have hnd:=h.nodup
 rw[r.tabs]at hnd hTh
 obtain⟨hn0,hnd1⟩:=List.nodup_cons.1 hnd
 rw[List.nodup_append]at hnd1
 obtain⟨hndAT,hndB,hdisj⟩:=hnd1
 rw[List.nodup_append]at hndAT
 obtain⟨hndA,hndT,hdisA⟩:=hndAT
 have hasR:∀y,R.1.has y=S.has y:=by
  intro y
  unfold Fs.has Fs.inn
  rw[r.used]
 have hnR:R.2.Nodup:=by rw[r.gone];exact List.pairwise_reverse.2 (hndT.imp fun h=>h.symm)
 have hhR:∀y,y ∈ R.2->R.1.has y=true:=by
  intro y hy
  rw[r.gone,List.mem_reverse]at hy
  rw[hasR]
  exact hTh y (List.mem_cons_of_mem _ (List.mem_append_left _ (List.mem_append_right _ hy)))
 have notT:∀y,y ∈ (0:Int)::(zU A++zU B)->y ∉ T:=by
  intro y hy hyT
  rcases List.mem_cons.1 hy with rfl|hy
  ·exact hn0 (List.mem_append_left _ (List.mem_append_right _ hyT))
  ·rcases List.mem_append.1 hy with hy|hy
   ·exact hdisA y hy y hyT rfl
   ·exact hdisj y (List.mem_append_right _ hyT) y hy rfl
 obtain⟨g1,g2,g3,g4,g5⟩:=gives_like R.2 R.1 r.ok hnR hhR
 have hz1:zU [z]=[]:=by simp[zU,r.zero,En.zero,En.on]
 have hz2:zM [z]=[]:=by simp[zM,r.zero,En.zero]
 have htab:zU (thr R.1 zW 3 0 0).1=zU A++zU B:=by rw[r.thr,tabsOf_append,tabsOf_append,hz1,List.append_nil]
 have hag:thr (gives R.2 R.1) zW 3 0 0=thr R.1 zW 3 0 0:=by
  refine thr_agree 3 0 0 (by rw[r.thr]) fun y hy=> ?_
  rw[htab]at hy
  have hyT:=notT y hy
  refine⟨?_,fun i _=>by rw[g2]⟩
  rw[Bool.eq_iff_iff]
  simp only[Fs.has,Fs.inn,Bool.and_eq_true,decide_eq_true_eq]
  constructor
  ·rintro ⟨a1,a2⟩
   exact⟨a1,((g4 _).1 a2).1⟩
  ·rintro ⟨a1,a2⟩
   refine⟨a1,(g4 _).2 ⟨a2,?_⟩⟩
   rw[r.gone,List.mem_reverse,Int.toNat_of_nonneg a1]
   exact hyT
 refine⟨hnR,hhR,⟨g1,by rw[hag,r.thr],?_,?_,?_,?_⟩,by rw[g5,r.free],by rw[hag,r.thr]⟩
 ·rw[hag,r.thr,mapsOf_append,mapsOf_append,hz2,List.append_nil]
 ·rw[hag,htab]
  refine List.nodup_cons.2 ⟨fun h0=>hn0 ?_,List.nodup_append.2 ⟨hndA,hndB,fun a ha b hb=>hdisj a (List.mem_append_left _ ha) b hb⟩⟩
  rcases List.mem_append.1 h0 with h0|h0
  ·exact List.mem_append_left _ (List.mem_append_left _ h0)
  ·exact List.mem_append_right _ h0
 ·intro k
  rw[hag,htab,g4 k,r.used,h.used k,r.tabs,r.gone,List.mem_reverse]
  constructor
  ·rintro ⟨a1,a2⟩
   rcases List.mem_cons.1 a1 with a1|a1
   ·rw[a1];exact List.mem_cons_self
   ·refine List.mem_cons_of_mem _ ?_
    rcases List.mem_append.1 a1 with a1|a1
    ·rcases List.mem_append.1 a1 with a1|a1
     ·exact List.mem_append_left _ a1
     ·exact absurd a1 a2
    ·exact List.mem_append_right _ a1
  ·intro a1
   refine⟨?_,notT _ a1⟩
   rcases List.mem_cons.1 a1 with a1|a1
   ·rw[a1];exact List.mem_cons_self
   ·refine List.mem_cons_of_mem _ ?_
    rcases List.mem_append.1 a1 with a1|a1
    ·exact List.mem_append_left _ (List.mem_append_left _ a1)
    ·exact List.mem_append_right _ a1
 ·intro y hy
  rw[hag,htab]at hy
  have:=r.full y hy
  rw[empty_iff]at this ⊢
  rw[g2]
  exact this
theorem rep_remove {S:Fs} {L:List Mp} (h:Rep S L) (p:Int):(rmR S 0 p).1.Ok/\(rmR S 0 p).1.n=S.n/\(rmR S 0 p).1.used=S.used/\(rmR S 0 p).2.Nodup/\(∀y,y ∈ (rmR S 0 p).2->(rmR S 0 p).1.has y=true)/\Rep (gives (rmR S 0 p).2 (rmR S 0 p).1) (dropL L p)/\(gives (rmR S 0 p).2 (rmR S 0 p).1).free=S.free+(rmR S 0 p).2.length/\
 ∀s,s ∈ (thr S zW 3 0 0).1->s.e.l=true->(tFC S 0 p=0->s.mp≠tFM S 0 p)->s ∈ (thr (gives (rmR S 0 p).2 (rmR S 0 p).1) zW 3 0 0).1:=by
 by_cases hc:tFC S 0 p=0
 ·have hd:dropC L p=0:=by rw[<-(rep_codes h p).1];exact hc
  have hp:below p 4096=true:=by
   cases hp:below p 4096
   ·simp[dropC,hp]at hd
   ·rfl
  obtain⟨p0,p1⟩:=zB.1 hp
  obtain⟨q,rfl⟩:=Int.eq_ofNat_of_zero_le p0
  have hq:q<4096:=by omega
  obtain⟨hz,lv,e,tl,A,B,F⟩:=rep_find h (q:=q) hq
  have ht:e.t=true:=by
   cases ht:e.t
   ·rw[tFC,hz,if_neg (by decide),F.way.lastE,ht]at hc
    simp at hc
   ·rfl
  obtain⟨hl,hlv2,hmap,hhas⟩:=found_has h.ok hq F ht
  have hlen:=F.way.len
  have e1:(fndX S 0 (q:Int)).length=(fndX S 0 (q:Int)).length-1+1:=by omega
  have hdrop:(tabs (fndX S 0 (q:Int))).drop ((fndX S 0 (q:Int)).length-1+1)=[]:=by
   rw[<-e1]
   exact List.drop_eq_nil_of_le (by rw[tabs_len];omega)
  have hR:rmR S 0 (q:Int)=rmW (q:Int) (tabs (fndX S 0 (q:Int))) ((fndX S 0 (q:Int)).length-1+1) S []:=by
   rw[rmR,if_pos hc,<-e1]
  obtain⟨A',B',z,T,r⟩:=rm_up h hq hz (e.map lv (q:Int)) ((fndX S 0 (q:Int)).length-1) (by omega) S [] (up_refl h.ok q _ _) (by
   intro s hs
   rw[hdrop]
   have hgl:(fndX S 0 (q:Int)).getLast?=some s:=by rw[List.getLast?_eq_getElem?];exact hs
   have hsl:(s.level:Int)=lv:=by
    have:=F.way.lastL
    unfold Go.Proofs.YtkhnelgommaioaaGreat.lastL at this
    rw[hgl]at this
    exact this
   have hst:s.table=tl:=by
    have:=F.way.lastT
    unfold Go.Proofs.YtkhnelgommaioaaGreat.lastT at this
    rw[hgl]at this
    exact this
   have hsl:s.level=lv:=by omega
   have hwz:(thr S (onW (q:Int)) 3 0 0).2=0:=by
    unfold fndC at hz
    rw[if_pos hp]at hz
    exact hz
   have eX:fndX S 0 (q:Int)=(thr S (onW (q:Int)) 3 0 0).1:=by unfold fndX;rw[if_pos ⟨hp,hwz⟩]
   rw[eX]at hgl
   have hd3:q/8^3<8:=by
    rw[show(8:Nat)^3=512 by decide]
    omega
   obtain⟨A1,B1,sp⟩:=spot1 h.ok q 3 (by omega) 0 0 (by omega) (by decide) (by omega) (by omega) h.code h.nodup s (List.mem_of_getLast? hgl)
   rw[sp.ahead,sp.place,hst,hsl,F.one]
   have hsm:=spot_mp h.ok hq (ix_le q lv).1 F.way.en hl
   have hon:=F.way.on
   refine⟨?_,?_⟩
   ·rw[<-hsm]
    simp[zM,hl]
   ·simp[zU,hon]) (by rw[hdrop];rfl)
  rw[hR]
  obtain⟨r1,r2,r3,r4,r5⟩:=removed_rep h r
  refine⟨r.ok,r.n,r.used,r1,r2,?_,r4,?_⟩
  rotate_left
  ·intro s hs hsl hne
   have hne:=hne hc
   rw[tFM,if_pos hc,F.way.lastE,F.way.lastL]at hne
   obtain⟨M,hM,hM2⟩:=r.all
   rw[hM]at hs
   rw[r5]
   rcases List.mem_append.1 hs with hs|hs
   ·rcases List.mem_append.1 hs with hs|hs
    ·exact List.mem_append_left _ (List.mem_append_left _ hs)
    ·have:s.mp ∈ zM M:=by
      simp only[zM,List.mem_flatMap]
      exact⟨s,hs,by rw[if_pos hsl];exact List.mem_cons_self⟩
     rw[hM2,List.mem_singleton]at this
     exact absurd this hne
   ·exact List.mem_append_right _ hs
  have hg:=rep_good h
  rw[r.list]at hg
  have hf:=fnd_mid hg hhas
  have:dropL L (q:Int)=zM A'++zM B':=by
   unfold dropL
   rw[if_pos hd]
   rw[r.list,hf]
   exact erase_mid _ _ _
  rw[this]
  exact r3
 ·have hd:dropC L p≠0:=by rw[<-(rep_codes h p).1];exact hc
  have e:rmR S 0 p=(S,[]):=by rw[rmR,if_neg hc]
  have e2:dropL L p=L:=by rw[dropL,if_neg hd]
  rw[e,e2]
  exact⟨h.ok,rfl,rfl,List.nodup_nil,fun y hy=>by simp at hy,h,by simp[gives],fun s hs _ _=>hs⟩
end Pg
namespace Pg
def kOf (X:List Sp):List (Nat×Nat):=X.flatMap fun s=>if s.e.on=true then [(s.level,s.ahead)]else []
theorem kOf_len (X:List Sp):(kOf X).length=(zU X).length:=by
 induction X with
 | nil=>rfl
 | cons s X ih=>
   have e1:kOf (s::X)=(if s.e.on=true then [(s.level,s.ahead)]else [])++kOf X:=by simp[kOf]
   have e2:zU (s::X)=(if s.e.on=true then [s.e.f]else [])++zU X:=by simp[zU]
   rw[e1,e2,List.length_append,List.length_append,ih]
   split<;>rfl
def Wants (L:List Mp) (lv:Nat) (k:Nat×Nat):Prop:=∃m,m ∈ L/\m.s<(k.1:Int)/\k.1<=lv/\k.2=m.p.toNat/8^k.1
structure Kpt (lv a n:Nat) (K:List (Nat×Nat)) (L:List Mp):Prop where
 nodup:K.Nodup
 mem:∀k,k ∈ K ↔ Wants L lv k
 low:∀k,k ∈ K->k.1<=lv/\a<=k.2/8^(lv-k.1)/\k.2/8^(lv-k.1)<a+n
 size:∀m,m ∈ L->m.s<=(lv:Int)
theorem ok_size {m:Mp} (h:m.code=0):m.s=0\/m.s=1\/m.s=2:=by
 obtain⟨h0,_⟩:=check_zero h
 rcases span_cases m.s with ⟨e,_⟩|⟨e,_⟩|⟨e,_⟩|⟨_,_,_,e⟩
 ·exact .inl e
 ·exact .inr (.inl e)
 ·exact .inr (.inr e)
 ·exact absurd e h0
theorem div_pow (x c b:Nat) (h:b<=c):x/8^(c+1-b)=x/8^(c-b)/8:=by
 rw[show c+1-b=c-b+1 by omega,Nat.pow_succ,Nat.div_div_eq_div_mul]
section
variable {S:Fs}
theorem kpt (h:S.Ok):∀(lv:Nat),lv<4->∀(t:Int) (a:Nat),a+8<=8^(4-lv)->(thr S zW lv t a).2=0->(∀x,x ∈ zU (thr S zW lv t a).1->emptyT S x=false)->
 Kpt lv a 8 (kOf (thr S zW lv t a).1) (zM (thr S zW lv t a).1):=by
 intro lv
 induction lv using Nat.strongRecOn with
 | _ lv IH=>
 intro hlv t a ha hz hfull
 obtain⟨c1,c2⟩:=thr_parts hz
 have hpow:0<8^lv:=Nat.pow_pos (by decide)
 have hall:(a+8)*8^lv<=4096:=by
  have h3:(a+8)*8^lv<=8^(4-lv)*8^lv:=Nat.mul_le_mul_right _ ha
  rw[<-Nat.pow_add,show 4-lv+lv=4 by omega]at h3
  have e:(8:Nat)^4=4096:=by decide
  omega
 have one:∀j,j<8->Kpt lv (a+j) 1 (kOf (out S zW lv (sub S zW lv) t a j).1) (zM (out S zW lv (sub S zW lv) t a j).1):=by
  intro j hj
  obtain⟨hc,ho⟩:=out_all (c1 j hj)
  have hrg:=fun m hm=>out_range h hlv hj ha (c1 j hj) (m:=m) hm
  have hbj:(a+j+1)*8^lv<=(a+8)*8^lv:=Nat.mul_le_mul_right _ (by omega)
  have hex:(a+j+1)*8^lv=(a+j)*8^lv+8^lv:=by rw[Nat.add_mul,Nat.one_mul]
  rcases ho with ⟨hon,ho⟩|⟨hon,hr,ho⟩
  ·rw[ho]
   have ek:kOf [spt S t j lv a]=[]:=by
    have:(spt S t j lv a).e.on=false:=hon
    simp[kOf,this]
   rw[ek]
   have hsz:∀m,m ∈ zM [spt S t j lv a]->m.s=(lv:Int):=by
    intro m hm
    by_cases hl:(rEn S t j lv).l=true
    ·have hl':(spt S t j lv a).e.l=true:=hl
     simp[zM,hl']at hm
     subst hm
     have h2:=(rEn_leaf h hl).2.2
     rw[leaf_at h2,map_leaf h hl (by omega)]
    ·have hl':(spt S t j lv a).e.l=false:=Bool.eq_false_iff.2 hl
     simp[zM,hl']at hm
   refine⟨List.nodup_nil,fun k=>⟨fun hk=>by simp at hk,?_⟩,fun k hk=>by simp at hk,fun m hm=>by rw[hsz m hm];omega⟩
   rintro ⟨m,hm,h1,h2,_⟩
   have:=hsz m hm
   omega
  ·obtain⟨b,rfl⟩:=rEn_on hon
   rw[ho]at hrg ⊢
   have hon':(spt S t j (b+1) a).e.on=true:=hon
   have hl':(spt S t j (b+1) a).e.l=false:=by
    simp[En.on]at hon'
    exact hon'.2
   have hr2:(thr S zW b (rEn S t j (b+1)).f ((a+j)*8)).2=0:=hr
   have hsub:∀x,x ∈ (rEn S t j (b+1)).f::zU (thr S zW b (rEn S t j (b+1)).f ((a+j)*8)).1->emptyT S x=false:=by
    intro x hx
    refine hfull x (tabs_place hj hz ?_)
    rw[ho,tabsOf_one hon']
    exact hx
   have IH':=IH b (by omega) (by omega) (rEn S t j (b+1)).f ((a+j)*8) (by
    rw[show 4-b=(4-(b+1))+1 by omega,Nat.pow_succ]
    omega) hr2 (fun x hx=>hsub x (List.mem_cons_of_mem _ hx))
   obtain⟨m0,hm0⟩:=maps_ne b (rEn S t j (b+1)).f ((a+j)*8) hr2 (hsub _ List.mem_cons_self) (fun x hx=>hsub x (List.mem_cons_of_mem _ hx))
   have ek:kOf (spt S t j (b+1) a::(sub S zW (b+1) (rEn S t j (b+1)).f ((a+j)*8)).1)=(b+1,a+j)::kOf (thr S zW b (rEn S t j (b+1)).f ((a+j)*8)).1:=by
    simp[kOf,hon,sub,spt]
   have em:zM (spt S t j (b+1) a::(sub S zW (b+1) (rEn S t j (b+1)).f ((a+j)*8)).1)=zM (thr S zW b (rEn S t j (b+1)).f ((a+j)*8)).1:=by
    simp[zM,hl',sub]
   rw[em]at hrg
   rw[ek,em]
   have hpg:∀m,m ∈ zM (thr S zW b (rEn S t j (b+1)).f ((a+j)*8)).1->m.p.toNat/8^(b+1)=a+j:=by
    intro m hm
    obtain⟨g1,g2⟩:=hrg m hm
    have hsb:=IH'.size m hm
    have hgood:=(maps_good h b (by omega) (rEn S t j (b+1)).f ((a+j)*8) (by
     rw[show 4-b=(4-(b+1))+1 by omega,Nat.pow_succ]
     omega) hr2).1 m hm
    have hs1:=(check_zero hgood).1
    have hs2:=(span_bd m.s).1
    refine Nat.div_eq_of_lt_le ?_ ?_
    ·omega
    ·omega
   refine⟨List.nodup_cons.2 ⟨fun hk=> ?_,IH'.nodup⟩,fun k=>⟨fun hk=> ?_,fun hk=> ?_⟩,fun k hk=> ?_,fun m hm=> ?_⟩
   ·have:=(IH'.low _ hk).1
    simp only at this
    omega
   ·rcases List.mem_cons.1 hk with rfl|hk
    ·have:=IH'.size m0 hm0
     exact⟨m0,hm0,by simp only;omega,Nat.le_refl _,(hpg m0 hm0).symm⟩
    ·obtain⟨m,k1,k2,k3,k4⟩:=(IH'.mem k).1 hk
     exact⟨m,k1,k2,by omega,k4⟩
   ·obtain⟨m,k1,k2,k3,k4⟩:=hk
    by_cases e:k.1=b+1
    ·refine List.mem_cons.2 (.inl ?_)
     obtain⟨kl,kx⟩:=k
     simp only at e k4
     subst e
     rw[k4,hpg m k1]
    ·exact List.mem_cons_of_mem _ ((IH'.mem k).2 ⟨m,k1,k2,by omega,k4⟩)
   ·rcases List.mem_cons.1 hk with rfl|hk
    ·refine⟨Nat.le_refl _,?_⟩
     simp only[Nat.sub_self,Nat.pow_zero,Nat.div_one]
     omega
    ·obtain⟨l1,l2,l3⟩:=IH'.low k hk
     refine⟨by omega,?_⟩
     rw[div_pow _ _ _ l1]
     omega
   ·have:=IH'.size m hm
    omega
 rw[c2]
 have ekk:kOf ((List.range 8).flatMap fun j=>(out S zW lv (sub S zW lv) t a j).1)=(List.range 8).flatMap fun j=>kOf (out S zW lv (sub S zW lv) t a j).1:=by simp only[kOf,List.flatMap_assoc]
 have emm:zM ((List.range 8).flatMap fun j=>(out S zW lv (sub S zW lv) t a j).1)=(List.range 8).flatMap fun j=>zM (out S zW lv (sub S zW lv) t a j).1:=by simp only[zM,List.flatMap_assoc]
 rw[ekk,emm]
 refine⟨?_,fun k=>⟨fun hk=> ?_,fun hk=> ?_⟩,fun k hk=> ?_,fun m hm=> ?_⟩
 ·unfold List.Nodup
  rw[List.pairwise_flatMap]
  refine⟨fun j hj=>(one j (by simpa using hj)).nodup,?_⟩
  refine List.Pairwise.imp_of_mem ?_ (List.nodup_range (n:=8))
  intro i j hi hj hne x hx y hy e
  subst e
  have h1:=(one i (by simpa using hi)).low x hx
  have h2:=(one j (by simpa using hj)).low x hy
  omega
 ·obtain⟨j,hj,hk⟩:=List.mem_flatMap.1 hk
  obtain⟨m,k1,k2⟩:=((one j (by simpa using hj)).mem k).1 hk
  exact⟨m,List.mem_flatMap.2 ⟨j,hj,k1⟩,k2⟩
 ·obtain⟨m,k1,k2⟩:=hk
  obtain⟨j,hj,k1⟩:=List.mem_flatMap.1 k1
  exact List.mem_flatMap.2 ⟨j,hj,((one j (by simpa using hj)).mem k).2 ⟨m,k1,k2⟩⟩
 ·obtain⟨j,hj,hk⟩:=List.mem_flatMap.1 hk
  have hj':j<8:=by simpa using hj
  have:=(one j hj').low k hk
  omega
 ·obtain⟨j,hj,hm⟩:=List.mem_flatMap.1 hm
  exact(one j (by simpa using hj)).size m hm
end
def keysM (m:Mp):List Int:=(List.filter (fun l:Nat=>decide (m.s<(l:Int))) [3,2,1]).map fun l:Nat=>((m.p.toNat/8^l*4+l:Nat):Int)
def see:List Int->List Int->List Int
 | [],A=>A
 | k::r,A=>see r (if k ∈ A then A else A++[k])
def seen (L:List Mp):List Int:=see (L.flatMap keysM) []
def needed (L:List Mp):Int:=((seen L).length:Int)+1
theorem see_like:∀(l A:List Int),A.Nodup->(see l A).Nodup/\∀k,k ∈ see l A ↔ k ∈ A\/k ∈ l
 | [],A,h=>⟨h,fun k=>by simp[see]⟩
 | x::r,A,h=>by
   by_cases hx:x ∈ A
   ·obtain⟨i1,i2⟩:=see_like r A h
    have e:see (x::r) A=see r A:=by simp[see,hx]
    rw[e]
    refine⟨i1,fun k=> ?_⟩
    rw[i2 k,List.mem_cons]
    constructor
    ·rintro (h'|h')
     ·exact .inl h'
     ·exact .inr (.inr h')
    ·rintro (h'|h'|h')
     ·exact .inl h'
     ·exact .inl (h'▸hx)
     ·exact .inr h'
   ·obtain⟨i1,i2⟩:=see_like r (A++[x]) (List.nodup_append.2 ⟨h,by simp,fun a ha b hb e=>by simp at hb;subst hb;exact hx (e▸ha)⟩)
    have e:see (x::r) A=see r (A++[x]):=by simp[see,hx]
    rw[e]
    refine⟨i1,fun k=> ?_⟩
    rw[i2 k,List.mem_cons,List.mem_append,List.mem_singleton,or_assoc]
theorem len_le:∀(A B:List Int),A.Nodup->(∀x,x ∈ A->x ∈ B)->A.length<=B.length
 | [],_,_,_=>Nat.zero_le _
 | x::r,B,h,hs=>by
   obtain⟨h1,h2⟩:=List.nodup_cons.1 h
   have hx:=hs x List.mem_cons_self
   have:=len_le r (B.erase x) h2 fun y hy=>(List.mem_erase_of_ne (fun(e:y=x)=>h1 (e▸hy))).2 (hs y (List.mem_cons_of_mem _ hy))
   rw[List.length_erase_of_mem hx]at this
   have:0<B.length:=List.length_pos_of_mem hx
   rw[List.length_cons]
   omega
theorem rep_needed {S:Fs} {L:List Mp} (h:Rep S L):needed L=((zU (thr S zW 3 0 0).1).length:Int)+1:=by
 have K:=kpt h.ok 3 (by omega) 0 0 (by decide) h.code h.full
 rw[h.maps]at K
 have hgood:=(rep_good h).ok
 have hM:∀k:Int,k ∈ L.flatMap keysM ↔ k ∈ (kOf (thr S zW 3 0 0).1).map fun k=>((k.2*4+k.1:Nat):Int):=by
  intro k
  rw[List.mem_flatMap,List.mem_map]
  constructor
  ·rintro ⟨m,hm,hk⟩
   unfold keysM at hk
   obtain⟨l,hl,rfl⟩:=List.mem_map.1 hk
   obtain⟨hl1,hl2⟩:=List.mem_filter.1 hl
   refine⟨(l,m.p.toNat/8^l),(K.mem _).2 ⟨m,hm,by simpa using hl2,?_,rfl⟩,rfl⟩
   simp at hl1
   simp only
   omega
  ·rintro ⟨⟨l,x⟩,hx,rfl⟩
   obtain⟨m,hm,k1,k2,k3⟩:=(K.mem _).1 hx
   simp only at k1 k2 k3
   have hs:=ok_size (hgood m hm)
   refine⟨m,hm,?_⟩
   unfold keysM
   refine List.mem_map.2 ⟨l,List.mem_filter.2 ⟨?_,by simpa using k1⟩,by simp only;rw[k3]⟩
   have:l=1\/l=2\/l=3:=by omega
   rcases this with rfl|rfl|rfl<;>simp
 have hnd:((kOf (thr S zW 3 0 0).1).map fun k=>((k.2*4+k.1:Nat):Int)).Nodup:=by
  unfold List.Nodup
  rw[List.pairwise_map]
  refine List.Pairwise.imp_of_mem ?_ K.nodup
  rintro ⟨l1,x1⟩ ⟨l2,x2⟩ h1 h2 hne e
  have b1:=(K.low _ h1).1
  have b2:=(K.low _ h2).1
  simp only at e b1 b2
  refine hne ?_
  have e1:l1=l2:=by omega
  have e2:x1=x2:=by omega
  rw[e1,e2]
 obtain⟨s1,s2⟩:=see_like (L.flatMap keysM) [] List.nodup_nil
 have a1:=len_le _ _ s1 fun x hx=>(hM x).1 (by simpa using (s2 x).1 hx)
 have a2:=len_le _ _ hnd fun x hx=>(s2 x).2 (.inr ((hM x).2 hx))
 rw[List.length_map,kOf_len]at a1 a2
 unfold needed seen
 omega
end Pg
namespace Pg
theorem rep_free {S:Fs} {L:List Mp} (h:Rep S L):S.free=S.n-(((zU (thr S zW 3 0 0).1).length:Int)+1):=by
 have hnd:S.used.Nodup:=(List.nodup_append.1 h.ok.nodup).1
 have hnd':(S.used.map fun k:Nat=>(k:Int)).Nodup:=by
  rw[List.nodup_iff_pairwise_ne,List.pairwise_map]
  exact(List.nodup_iff_pairwise_ne.1 hnd).imp fun hne e=>hne (Int.ofNat_inj.1 e)
 have hTh:=tabs_has 3 0 0 h.code
 have a1:=len_le _ _ hnd' (fun x hx=>by
  obtain⟨k,hk,rfl⟩:=List.mem_map.1 hx
  exact(h.used k).1 hk)
 have a2:=len_le _ (S.used.map fun k:Nat=>(k:Int)) h.nodup (fun x hx=>by
  have hx':=h.ok.has_lt (hTh x hx)
  exact List.mem_map.2 ⟨x.toNat,hx'.2.2,by omega⟩)
 rw[List.length_map,List.length_cons]at a1 a2
 have hl:=h.ok.len
 have ht:=h.ok.top
 unfold Fs.free
 omega
theorem rep_start {n:Nat} (h1:1<=n) (h2:n<=128):Rep (Fs.new n).take []:=by
 have ok:=(Fs.new_ok n h2).take
 have e:(Fs.new n).take=⟨n,1,[0],[],Fs.clear (fun _ _=>0) 0⟩:=by
  unfold Fs.take Fs.new
  simp only[List.getLast?_nil]
  rw[if_pos (show 0<n by omega)]
 rw[e]at ok ⊢
 have hh:(⟨n,1,[0],[],Fs.clear (fun _ _=>0) 0⟩:Fs).has 0=true:=by simp[Fs.has,Fs.inn]
 have hw:∀i,(⟨n,1,[0],[],Fs.clear (fun _ _=>0) 0⟩:Fs).word (0:Int).toNat i=0:=fun i=>by simp[Fs.clear]
 generalize hS:(⟨n,1,[0],[],Fs.clear (fun _ _=>0) 0⟩:Fs)=S at*
 have hout:∀j,out S zW 3 (sub S zW 3) 0 0 j=([spt S 0 j 3 0],0)/\(spt S 0 j 3 0).e=En.zero:=by
  intro j
  obtain⟨r1,r2⟩:=read_zero (lv:=3) hh (by omega) (hw j)
  refine⟨?_,r2⟩
  unfold out
  rw[if_neg (by simp[zW]),if_neg (by simpa using r1),if_pos (by rw[r2];rfl)]
 have hthr:=thr_join (S:=S) (lv:=3) (t:=0) (a:=0) (fun j _=>by rw[(hout j).1])
 have ht:zU (thr S zW 3 0 0).1=[]:=by
  rw[hthr]
  simp only[zU,List.flatMap_assoc]
  refine List.flatMap_eq_nil_iff.2 fun j _=> ?_
  rw[(hout j).1]
  simp[(hout j).2,En.zero,En.on]
 have hm:zM (thr S zW 3 0 0).1=[]:=by
  rw[hthr]
  simp only[zM,List.flatMap_assoc]
  refine List.flatMap_eq_nil_iff.2 fun j _=> ?_
  rw[(hout j).1]
  simp[(hout j).2,En.zero]
 refine⟨ok,by rw[hthr],hm,by rw[ht];simp,fun k=> ?_,fun x hx=>by rw[ht]at hx;simp at hx⟩
 rw[ht,<-hS]
 simp
def Marked (S:Fs) (q:Int):Prop:=∃s,s ∈ (thr S zW 3 0 0).1/\s.e.l=true/\s.mp.has q=true/\s.e.u=true/\s.e.d=true
end Pg
end Go.Proofs.YtkhnelgommaioaaGreat
