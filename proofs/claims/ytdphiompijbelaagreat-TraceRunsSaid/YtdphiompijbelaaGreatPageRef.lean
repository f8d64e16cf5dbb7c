import Derived.Test.YtdphiompijbelaaGreatBookFind
set_option linter.all false
set_option maxRecDepth 100000
open Nat renaming zero_le->kS,le_refl->kV,min_eq_left->kQ,min->kO
open Go.World renaming news_of_block->kJ,frozen?->kU,shape?->kK
open Go renaming World->W
open Go.Obj renaming cells->K
open Bool renaming true->U,false->X
open Go.Ending renaming returned->Z
open Array renaming length_toList->F,getElem?_eq_some_iff->E
open Option renaming some->C,none->Y
open Go.Proofs.Tryz renaming prog->S
open List renaming length_take->B,length_drop->T,length_append->Q,size_toArray->O,take_of_length_le->M,getElem?_take->D,drop_eq_nil_of_le->A,length_cons->y,mem_of_mem_drop->t,length_nil->kI,getElem?_drop->kP,append_assoc->kF
open Go.Value renaming int->J,slice->R,agg->kC,slice->kR,int->kN,bool->kY,agg->kT,ownBlock->kZ
open Go.IntKind renaming i64->I
set_option maxHeartbeats 4000000
namespace Go.Proofs.YtdphiompijbelaaGreat
open Go.RowKit Go.Sort
theorem yga:∀w,(Go.sizeOf 39).run S w= .ok 4 w:=fun w=>by
 obtain⟨q0,hqi,hz0,hz1,hz2⟩:=info_parts js;simp[sizeOf,typeInfo,hqi,hz1]
theorem ybe {vb:Value} {n V:Nat} {xs:List Value} {a0 a1 a2 a3:Value} {tV:TypeId} (w:W) (hr:w.ownsRow 0 39 4 vb n xs) (hn:n<=4096)
 (hV:w.heap[V]?=C (K #[a0,a1,a2,a3] tV)) (h1:∀u,u ∈ [a0,a1,a2,a3]->u.oneCell'=U):
 Calls S 191 #[vb,J I n,R (C ⟨V,0,Y⟩) 1 1] w fun e w'=>∃v',e=Z v'/\w'.ownsRow 0 39 4 v' (n+1) (xs++[a0,a1,a2,a3])/\But (fun j=>vb.ownBlock=C j) w w'/\∀j,v'.ownBlock=C j->vb.ownBlock=C j\/w.heap.size<=j:=by
 obtain⟨q0,hqi,hz0,hz1,hz2⟩:=info_parts js;have hnews:=kJ hV;have HN:Hid _:=hnews;obtain⟨ad,cap,hv⟩:=zF hr
 have hcap:n<=cap/\cap<=9223372036854775807:=by
  rcases hr.2 with ⟨e,e0⟩|⟨g,cap',cur,e,_,_,hc1,hc2,_⟩
  ·rw[hv]at e;cases e;exact⟨kV _,by omega⟩
  ·rw[hv]at e;cases e;unfold maxLen at hc2;exact⟨hc1,by omega⟩
 obtain⟨hcap1,hcap2⟩:=hcap;have HR:Hid _:=hr;clear hr hV hnews;subst hv
 have Fin:∀{g cap':Nat} {w1:W},w1.ownsRow 0 39 4 (R (C ⟨g,0,Y⟩) (n+1) cap') (n+1) (xs++[a0,a1,a2,a3])->w.grownBy w1 (kR ad n cap).ownBlock->((kR ad n cap).ownBlock=C g\/g=w.heap.size)->
  ∃v',Ending.returned (R (C ⟨g,0,Y⟩) (n+1) cap')=Z v'/\w1.ownsRow 0 39 4 v' (n+1) (xs++[a0,a1,a2,a3])/\But (fun j=>(kR ad n cap).ownBlock=C j) w w1/\∀j,v'.ownBlock=C j->(kR ad n cap).ownBlock=C j\/w.heap.size<=j:=by
  intro g cap' w1 h1 h2 hat;refine⟨_,rfl,h1,(But.refl _ w).grown h2 (fun j hj=> .inr hj),fun j hj=> ?_⟩;simp only[kZ,Option.some.injEq]at hj;subst hj;rcases hat with h|h
  ·exact .inl h
  ·exact .inr (by omega)
 have FIN:Hid _:= @Fin;clear Fin
 by_cases hcn:cap=n
 ·subst hcn
  go_enter Tryz.func191,Tryz.ntmps191
  go_wp2_with (at_builtin;refine wpList_append_lies _ rfl _ _ 44 rfl 0 39 q0 _ 4 32 Tryz.underlying44 hqi hz0 hz1 hz2 rfl (by decide) _ _ _ rfl HR.out ⟨V,0,Y⟩ 1 1 [a0,a1,a2,a3] rfl rfl HN.out h1 (by decide) ?c3 ?c4 (kS _) w.heap.size rfl ?_)
  case c3=>unfold maxLen;omega
  case c4=>omega
  intro g cap' w1 hown hgrow hat hlt;have H1:Hid _:=FIN.out hown hgrow hat;clear hown hgrow hat hlt
  go_wp2_with fail
  go_ret
  exact H1.out
 ·have hcn':¬(n=cap):=fun e=>hcn e.symm
  go_enter Tryz.func191,Tryz.ntmps191
  go_wp2_with (at_builtin;refine wpList_append_lies _ rfl _ _ 44 rfl 0 39 q0 _ 4 32 Tryz.underlying44 hqi hz0 hz1 hz2 rfl (by decide) _ _ _ rfl HR.out ⟨V,0,Y⟩ 1 1 [a0,a1,a2,a3] rfl rfl HN.out h1 (by decide) ?d3 ?d4 (kS _) w.heap.size rfl ?_)
  case d3=>unfold maxLen;omega
  case d4=>omega
  intro g cap' w1 hown hgrow hat hlt;have H1:Hid _:=FIN.out hown hgrow hat;clear hown hgrow hat hlt
  go_wp2_with fail
  go_ret
  exact H1.out
theorem yaj {g cap n k V:Nat} {cur:Array Value} {xs:List Value} {a0 a1 a2 a3:Value} {tV:TypeId} (w:W) (hg:w.heap[g]?=C (K cur 39 (0,0))) (hn:n<=4096) (hk:k<n) (hroom:n+1<=cap) (hcap:cap<=9223372036854775807)
 (hcs:cur.size=cap*4) (hx:cur.toList.take (n*4)=xs) (h1x:∀u,u ∈ xs->u.oneCell'=U)
 (hV:w.heap[V]?=C (K #[a0,a1,a2,a3] tV)) (hgV:V≠g) (h1:∀u,u ∈ [a0,a1,a2,a3]->u.oneCell'=U):
 Calls S 191 #[R (C ⟨g,0,Y⟩) n cap,J I k,R (C ⟨V,0,Y⟩) 1 1] w fun e w'=>e=Z (R (C ⟨g,0,Y⟩) (n+1) cap)/\
  w'.ownsRow 0 39 4 (R (C ⟨g,0,Y⟩) (n+1) cap) (n+1) (xs.take (k*4)++[a0,a1,a2,a3]++xs.drop (k*4))/\But (fun j=>j=g) w w':=by
 have hsz:(Tryz.prog.info? 39).map (·.size)=C 4:=by
  obtain⟨q0,hqi,hz0,hz1,hz2⟩:=info_parts js;rw[hqi];simp[hz1]
 have hxl:xs.length=n*4:=by rw[<-hx,B,F,hcs];omega
 have hov:∀lb cb o,(callFunc 219 #[R (C ⟨V,0,Y⟩) 1 1,R (C ⟨g,o,Y⟩) lb cb]).run S w= .ok (.value (kY X)) w:=fun lb cb o=>by
  have hs1:w.shape? V=C (tV,4):=by simp[kK,hV]
  have hs2:w.shape? g=C (39,cur.size):=by simp[kK,hg]
  have hf1:w.frozen? ⟨V,0,Y⟩=X:=by simp[kU,hV]
  have hf2:w.frozen? ⟨V,4,Y⟩=X:=by simp[kU,hV]
  rw[run_callFunc_extern Tryz.func219 (by kernel_rfl) (by kernel_rfl) (by kernel_rfl) (e:=Extern.SlicesOverlaps.overlaps #[44,44] #[4]) (by kernel_rfl),
   Lib.run_overlaps_apart w 44 4 39 Tryz.underlying44 4 yga ⟨V,0,Y⟩ ⟨g,o,Y⟩ 1 1 lb cb hgV tV 39 4 cur.size hs1 hs2 (by omega) hf1 hf2]
  rfl
 have hz2:¬((k:Int)=(n:Int)):=by omega
 have hw1:IntKind.i64.wrap ((k:Int)+1)=(k:Int)+1:=by rw[IntKind.wrap_i64];omega
 have htn:((k:Int)+1).toNat=k+1:=by omega
 have hb1:(0:Int)<=(k:Int)+1:=by omega
 have hb2:¬(cap=k+1):=by omega
 have hb4:¬(cap=k):=by omega
 have hkn:k<=n:=by omega
 have hb3:(k:Int)<=(n:Int)+1:=by omega
 have hdl:(xs.drop (k*4)).length=(n-k)*4:=by rw[T,hxl];omega
 have hcx:∀j u,xs[j]?=C u->w.cell? ⟨g,j,Y⟩=C u:=fun j u hu=>by
  rw[cell_of_row w g j cur _ _ hg];rw[<-hx,D]at hu;split at hu
  ·simpa using hu
  ·cases hu
 obtain⟨C1,hC1⟩:∃C1:List Value,C1=cur.toList.take ((k+1)*4)++xs.drop (k*4)++cur.toList.drop ((k+1)*4+(xs.drop (k*4)).length):=⟨_,rfl⟩
 have hC1l:C1.length=cap*4:=by rw[hC1];simp only[Q,B,T,F,hcs,hxl];omega
 obtain⟨W1,hW1⟩:∃W1,W1=w.drew.setRow g C1.toArray:=⟨_,rfl⟩
 have hcp1:∀ty o o' dl dc sl sc,o=(k+1)*4->o'=k*4->dl=n-k->sl=n+1-k->(Builtin.copy_ #[44,44] ty #[R (C ⟨g,o,Y⟩) dl dc,R (C ⟨g,o',Y⟩) sl sc]).run S w.drew= .ok (goInt (n-k:Nat)) W1:=by
  intro ty o o' dl dc sl sc e1 e2 e3 e4;subst e1 e2 e3 e4;have hm:kO (n+1-k) (n-k)=n-k:=Nat.min_eq_right (by omega)
  have:=qe (P:=S) w.drew 44 44 ty 39 4 g ((k+1)*4) (n-k) dc ⟨g,k*4,Y⟩ (n+1-k) sc cur 39 (xs.drop (k*4)) Tryz.underlying44 hsz hg (by rw[hm,hdl])
   (fun j u hj=>by rw[Addr.add_lit];exact hcx (k*4+j) u (by rwa [kP]at hj)) (by rw[hdl,hcs];omega) (fun u hu=>h1x u (t hu))
  rw[hm,<-hC1,<-hW1]at this;exact this
 have hg1:W1.heap[g]?=C (K C1.toArray 39 (0,0)):=by rw[hW1];exact setRow_heap w.drew g cur _ _ _ hg
 have hV1:W1.heap[V]?=C (K #[a0,a1,a2,a3] tV):=by rw[hW1,setRow_other _ _ _ _ hgV];exact hV
 have hB1:But (fun j=>j=g) w W1:=by rw[hW1];exact(But.refl (fun j=>j=g) w).drew.setRow (.inr rfl) _
 obtain⟨W2,hW2⟩:∃W2,W2=W1.setRow g (C1.take (k*4)++[a0,a1,a2,a3]++C1.drop (k*4+4)).toArray:=⟨_,rfl⟩
 have hcp2:∀ty o dl dc,o=k*4->dl=n+1-k->(Builtin.copy_ #[44,44] ty #[R (C ⟨g,o,Y⟩) dl dc,R (C ⟨V,0,Y⟩) 1 1]).run S W1= .ok (goInt 1) W2:=by
  intro ty o dl dc e1 e2;subst e1 e2;have hm:kO 1 (n+1-k)=1:=kQ (by omega)
  have:=qe (P:=S) W1 44 44 ty 39 4 g (k*4) (n+1-k) dc ⟨V,0,Y⟩ 1 1 C1.toArray 39 [a0,a1,a2,a3] Tryz.underlying44 hsz hg1 (by rw[hm];rfl)
   (kJ hV1) (by simp[hC1l];omega) h1
  rw[hm]at this;rw[this,hW2];rfl
 have hg2:W2.heap[g]?=C (K (C1.take (k*4)++[a0,a1,a2,a3]++C1.drop (k*4+4)).toArray 39 (0,0)):=by rw[hW2];exact setRow_heap W1 g _ _ _ _ hg1
 have HB:Hid (But (fun j=>j=g) w W2):=by rw[hW2];exact hB1.setRow (.inr rfl) _
 have HO:Hid (W2.ownsRow 0 39 4 (R (C ⟨g,0,Y⟩) (n+1) cap) (n+1) (xs.take (k*4)++[a0,a1,a2,a3]++xs.drop (k*4))):=by
  have e:=ydR (c:=cur.toList) (xs:=xs) (news:=[a0,a1,a2,a3]) (z:=4) (n:=n) (k:=k) hkn (by rw[F,hcs];omega) hx rfl;simp only[<-hC1]at e;refine⟨by rw[<-e];simp only[B,Q,T,hC1l,y,kI];omega,.inr ⟨g,cap,_,rfl,kS _,hg2,hroom,by unfold maxLen;omega,?_,?_⟩⟩
  ·simp only[O,B,Q,T,hC1l,y,kI];omega
  ·exact e
 clear hg hx h1x hV h1 hcx hC1 hC1l hW1 hg1 hV1 hB1 hW2 hg2 hcs hxl hdl
 go_enter Tryz.func191,Tryz.ntmps191
 go_wp2_with (simp only[hov])
 go_region_law (refine qS rfl _ _ 44 44 rfl _ _ (by simp[Act.eval,Act.put]) (by simp[Act.eval,Act.put]) (hcp1 _ _ _ _ _ _ _ (by omega) (by omega) (by omega) (by omega)) ?_)
 go_wp2_with (at_builtin;refine qw _ rfl _ _ 44 44 rfl _ _ rfl rfl (hcp2 _ _ _ _ (by omega) (by omega)) ?_)
 go_ret
 exact⟨rfl,HO.out,HB.out⟩
theorem yai {g cap n k V:Nat} {cur:Array Value} {xs:List Value} {a0 a1 a2 a3:Value} {tV:TypeId} (w:W) (hg:w.heap[g]?=C (K cur 39 (0,0))) (hn:n<=4096) (hk:k<n) (hroom:cap<n+1) (hcap:n<=cap)
 (hcs:cur.size=cap*4) (hx:cur.toList.take (n*4)=xs) (h1x:∀u,u ∈ xs->u.oneCell'=U)
 (hV:w.heap[V]?=C (K #[a0,a1,a2,a3] tV)) (h1:∀u,u ∈ [a0,a1,a2,a3]->u.oneCell'=U):
 Calls S 191 #[R (C ⟨g,0,Y⟩) n cap,J I k,R (C ⟨V,0,Y⟩) 1 1] w fun e w'=>∃G,e=Z (R (C ⟨w.heap.size,0,Y⟩) (n+1) G)/\
  w'.ownsRow 0 39 4 (R (C ⟨w.heap.size,0,Y⟩) (n+1) G) (n+1) (xs.take (k*4)++[a0,a1,a2,a3]++xs.drop (k*4))/\But (fun j=>j=g) w w':=by
 obtain⟨q0,hqi,hz0,hzz1,hzz2⟩:=info_parts js
 have hsz:(Tryz.prog.info? 39).map (·.size)=C 4:=by rw[hqi];simp[hzz1]
 have hcn:cap=n:=by omega
 subst hcn
 have hxl:xs.length=cap*4:=by rw[<-hx,B,F,hcs];omega
 have hgw:g<w.heap.size:=(E.1 hg).1;have hVw:V<w.heap.size:=(E.1 hV).1
 have hz2:¬((k:Int)=(cap:Int)):=by omega
 have hw1:IntKind.i64.wrap ((k:Int)+1)=(k:Int)+1:=by rw[IntKind.wrap_i64];omega
 have htn:((k:Int)+1).toNat=k+1:=by omega
 have hb1:(0:Int)<=(k:Int)+1:=by omega
 have hb4:¬(cap=k):=by omega
 have hkn:k<=cap:=by omega
 have hb3:(k:Int)<=(cap:Int)+1:=by omega
 have hb5:(k:Int)<=(cap:Int):=by omega
 have hdl:(xs.drop (k*4)).length=(cap-k)*4:=by rw[T,hxl];omega
 have hcx:∀j u,xs[j]?=C u->w.cell? ⟨g,j,Y⟩=C u:=fun j u hu=>by
  rw[cell_of_row w g j cur _ _ hg];rw[<-hx,D]at hu;split at hu
  ·simpa using hu
  ·cases hu
 obtain⟨G,hG⟩:∃G,G=grownCap w (cap+1) cap 39:=⟨_,rfl⟩
 have hG1:cap+1<=G:=by rw[hG];exact grownCap_ge w _ _ _
 have hG2:G<=9223372036854775807:=by
  have:=grownCap_le_maxLen w (cap+1) cap 39 (by unfold maxLen;omega);rw[<-hG]at this;unfold maxLen at this;omega
 obtain⟨ROW,hROW⟩:∃ROW:Array Value,ROW=(xs.take (k*4)).toArray++Builtin.zeroCells (kT #[J I 0,J I 0,J I 0,J I 0]).cells (cap+1-k)++Builtin.zeroCells (kT #[J I 0,J I 0,J I 0,J I 0]).cells (G-(cap+1)):=⟨_,rfl⟩;have hzc:(kT #[J I 0,J I 0,J I 0,J I 0]).cells.size=4:=rfl
 have hRs:ROW.size=G*4:=by
  rw[hROW];simp only[Array.size_append,size_zeroCells,hzc,O,B,hxl];omega
 have hRt:ROW.toList.take (k*4)=xs.take (k*4):=by
  rw[hROW];simp only[Array.toList_append,kF];rw[List.take_append_of_le_length (by simp only[B,hxl];omega),M (by simp only[B];omega)]
 obtain⟨W1,hW1⟩:∃W1,W1=w.drew.alloc (K ROW 39):=⟨_,rfl⟩
 have hold:(Builtin.firstCells q0.size k (R (C ⟨g,0,Y⟩) k cap)).run S w.drew= .ok (xs.take (k*4)).toArray w.drew:=by
  rw[hzz1]
  exact run_firstCells_some w.drew 4 k ⟨g,0,Y⟩ k cap (xs.take (k*4)) (by rw[B];omega) (fun j v hj=>by
   rw[Addr.add_lit,Nat.zero_add];rw[D]at hj;split at hj
   ·exact hcx j v hj
   ·cases hj)
 have hik:k+(cap+1-k)=cap+1:=by omega
 have hrz:∀ty N,N=((cap+1-k:Nat):Int)->(Builtin.append_ #[44,3] ty #[R (C ⟨g,0,Y⟩) k cap,J I N]).run S w= .ok (R (C ⟨w.heap.size,0,Y⟩) (cap+1) G) W1:=by
  intro ty N hN;have h:=Lib.run_append_grow_zeros w 44 3 ty 39 q0 _ I I Tryz.underlying44 Tryz.underlying3 hqi hz0 (C ⟨g,0,Y⟩) k cap (xs.take (k*4)) hold (cap+1-k) (by omega) (by omega) (by omega) (by omega) (by rw[hzz2];omega) (by rw[hzz2,hik];exact growslice_fits hroom (by omega));rw[hik,<-hG,<-hROW,<-hW1]at h;rw[hN];exact h
 have hg1:W1.heap[w.heap.size]?=C (K ROW 39 (0,0)):=by rw[hW1];exact heap_alloc_new w.drew _
 have hV1:W1.heap[V]?=C (K #[a0,a1,a2,a3] tV):=by rw[hW1,Below.heap_alloc w.drew _ _ hVw];exact hV
 have ho1:W1.heap[g]?=C (K cur 39 (0,0)):=by rw[hW1,Below.heap_alloc w.drew _ _ hgw];exact hg
 have hB1:But (fun j=>j=g) w W1:=by rw[hW1];exact(But.refl (fun j=>j=g) w).drew.alloc _
 obtain⟨C1,hC1⟩:∃C1:List Value,C1=ROW.toList.take (k*4)++[a0,a1,a2,a3]++ROW.toList.drop (k*4+4):=⟨_,rfl⟩
 have hC1l:C1.length=G*4:=by rw[hC1];simp only[Q,B,T,F,hRs,y,kI];omega
 obtain⟨W2,hW2⟩:∃W2,W2=W1.setRow w.heap.size C1.toArray:=⟨_,rfl⟩
 have hcp1:∀ty o dl dc,o=k*4->dl=cap+1-k->(Builtin.copy_ #[44,44] ty #[R (C ⟨w.heap.size,o,Y⟩) dl dc,R (C ⟨V,0,Y⟩) 1 1]).run S W1= .ok (goInt 1) W2:=by
  intro ty o dl dc e1 e2;subst e1 e2;have hm:kO 1 (cap+1-k)=1:=kQ (by omega)
  have:=qe (P:=S) W1 44 44 ty 39 4 w.heap.size (k*4) (cap+1-k) dc ⟨V,0,Y⟩ 1 1 ROW 39 [a0,a1,a2,a3] Tryz.underlying44 hsz hg1 (by rw[hm];rfl)
   (kJ hV1) (by simp[hRs];omega) h1
  rw[hm]at this;rw[this,hW2,hC1];rfl
 have hg2:W2.heap[w.heap.size]?=C (K C1.toArray 39 (0,0)):=by rw[hW2];exact setRow_heap W1 w.heap.size _ _ _ _ hg1
 have ho2:W2.heap[g]?=C (K cur 39 (0,0)):=by rw[hW2,setRow_other _ _ _ _ (by omega)];exact ho1
 have hB2:But (fun j=>j=g) w W2:=by rw[hW2];exact hB1.setRow (.inl (kV _)) _
 have hcx2:∀j u,xs[j]?=C u->W2.drew.cell? ⟨g,j,Y⟩=C u:=fun j u hu=>by
  rw[cell_of_row W2.drew g j cur _ _ ho2,<-cell_of_row w g j cur _ _ hg];exact hcx j u hu
 obtain⟨W3,hW3⟩:∃W3,W3=W2.drew.setRow w.heap.size (C1.take ((k+1)*4)++xs.drop (k*4)++C1.drop ((k+1)*4+(xs.drop (k*4)).length)).toArray:=⟨_,rfl⟩
 have hcp2:∀ty o o' dl dc sl sc,o=(k+1)*4->o'=k*4->dl=cap-k->sl=cap-k->(Builtin.copy_ #[44,44] ty #[R (C ⟨w.heap.size,o,Y⟩) dl dc,R (C ⟨g,o',Y⟩) sl sc]).run S W2.drew= .ok (goInt (cap-k:Nat)) W3:=by
  intro ty o o' dl dc sl sc e1 e2 e3 e4;subst e1 e2 e3 e4;have hm:kO (cap-k) (cap-k)=cap-k:=Nat.min_self _
  have:=qe (P:=S) W2.drew 44 44 ty 39 4 w.heap.size ((k+1)*4) (cap-k) dc ⟨g,k*4,Y⟩ (cap-k) sc C1.toArray 39 (xs.drop (k*4)) Tryz.underlying44 hsz hg2 (by rw[hm,hdl])
   (fun j u hj=>by rw[Addr.add_lit];exact hcx2 (k*4+j) u (by rwa [kP]at hj)) (by simp only[O,hdl,hC1l];omega) (fun u hu=>h1x u (t hu))
  rw[hm]at this;rw[this,hW3]
 have hg3:W3.heap[w.heap.size]?=C (K (C1.take ((k+1)*4)++xs.drop (k*4)++C1.drop ((k+1)*4+(xs.drop (k*4)).length)).toArray 39 (0,0)):=by rw[hW3];exact setRow_heap W2.drew w.heap.size _ _ _ _ hg2
 have HB:Hid (But (fun j=>j=g) w W3):=by rw[hW3];exact hB2.drew.setRow (.inl (kV _)) _
 have HO:Hid (W3.ownsRow 0 39 4 (R (C ⟨w.heap.size,0,Y⟩) (cap+1) G) (cap+1) (xs.take (k*4)++[a0,a1,a2,a3]++xs.drop (k*4))):=by
  have e:=ydQ (c:=ROW.toList) (xs:=xs) (news:=[a0,a1,a2,a3]) (z:=4) (n:=cap) (k:=k) hkn (by rw[F,hRs];omega) hRt hxl rfl;rw[show k*4+[a0,a1,a2,a3].length=k*4+4 from rfl]at e;simp only[<-hC1]at e;refine⟨by rw[<-e];simp only[B,Q,T,hC1l,hxl];omega,.inr ⟨w.heap.size,G,_,rfl,kS _,hg3,hG1,by unfold maxLen;omega,?_,?_⟩⟩
  ·simp only[O,B,Q,T,hC1l,hxl];omega
  ·exact e
 have hbG:¬(G=k):=by omega
 have hbG1:¬(G=k+1):=by omega
 have hN:IntKind.i64.wrap ((cap:Int)+1-(k:Int))=(cap:Int)+1-(k:Int):=by rw[IntKind.wrap_i64];omega
 clear hg hx h1x hV h1 hcx hC1 hC1l hW1 hg1 hV1 hB1 hW2 hg2 hcs hxl hdl hROW hRs hRt hold hqi hz0 hzz1 hzz2 hG ho1 ho2 hcx2 hB2 hW3 hg3 hzc
 go_enter Tryz.func191,Tryz.ntmps191
 go_wp2_with (first
  | (at_builtin;refine Lib.wpList_append_run _ rfl _ _ 44 3 rfl _ _ rfl rfl _ _ (hrz _ _ (by omega)) ?_)
  | (at_builtin;refine qw _ rfl _ _ 44 44 rfl _ _ rfl rfl (hcp1 _ _ _ _ (by omega) (by omega)) ?_))
 go_region_law (refine qS rfl _ _ 44 44 rfl _ _ (by simp[Act.eval,Act.put]) (by simp[Act.eval,Act.put]) (hcp2 _ _ _ _ _ _ _ (by omega) (by omega) (by omega) (by omega)) ?_)
 go_wp2_with fail
 go_ret
 exact⟨G,rfl,HO.out,HB.out⟩
theorem ydH {vb:Value} {k V:Nat} {L:List Pg.Mp} {m:Pg.Mp} {tV:TypeId} (w:W) (hr:w.ownsRow 0 39 4 vb L.length (zC L)) (hn:L.length<=4096) (hk:k<=L.length)
 (hV:w.heap[V]?=C (K #[J I m.p,J I m.s,J I m.f,J I m.r] tV)) (hvV:vb.ownBlock≠C V):
 Calls S 191 #[vb,J I k,R (C ⟨V,0,Y⟩) 1 1] w fun e w'=>∃v',e=Z v'/\w'.ownsRow 0 39 4 v' (L.length+1) (zC (L.take k++m::L.drop k))/\But (fun j=>vb.ownBlock=C j) w w'/\∀j,v'.ownBlock=C j->vb.ownBlock=C j\/w.heap.size<=j:=by
 have h1:∀u,u ∈ [kN I m.p,J I m.s,J I m.f,J I m.r]->u.oneCell'=U:=by
  intro u hu;simp at hu
  rcases hu with rfl|rfl|rfl|rfl<;>rfl
 have hcut:∀j,(zC L).take (j*4)=zC (L.take j)/\(zC L).drop (j*4)=zC (L.drop j):=by
  intro j
  by_cases hj:j<=L.length
  ·have e:zC L=zC (L.take j)++zC (L.drop j):=by rw[<-zZ,List.take_append_drop]
   have hl:(zC (L.take j)).length=j*4:=by rw[xW,B];congr 1;omega
   exact⟨by rw[e,List.take_left' hl],by rw[e,List.drop_left' hl]⟩
  ·have hl:=xW L
   rw[M (by omega),M (l:=L) (by omega),A (by omega),A (show L.length<=j by omega)];exact⟨rfl,rfl⟩
 have hm:zC (L.take k++m::L.drop k)=(zC L).take (k*4)++[kN I m.p,J I m.s,J I m.f,J I m.r]++(zC L).drop (k*4):=by
  rw[(hcut k).1,(hcut k).2,<-vK m,<-zZ,<-zZ,kF];rfl
 rw[hm]
 by_cases hkn:k=L.length
 ·subst hkn
  have hl:=xW L;rw[M (by omega),A (by omega),List.append_nil];exact ybe w hr hn hV h1
 ·obtain⟨_,hrr⟩:=hr
  rcases hrr with ⟨_,e0⟩|⟨g,cap,cur,rfl,_,hg,hc1,hc2,hc3,hc4⟩
  ·omega
  ·have hgV:V≠g:=fun e=>hvV (by rw[e];rfl)
   have hx1:=qO L;have hlt:g<w.heap.size:=(E.1 hg).1
   by_cases hroom:L.length+1<=cap
   ·refine(yaj w hg hn (by omega) hroom (by unfold maxLen at hc2;omega) hc3 hc4 hx1 hV hgV h1).mono ?_
    rintro e w' ⟨rfl,h2,h3⟩;refine⟨_,rfl,h2,h3.mono fun i _ hi=>by rw[hi];rfl,fun j hj=> .inl hj⟩
   ·refine(yai w hg hn (by omega) (by omega) hc1 hc3 hc4 hx1 hV h1).mono ?_
    rintro e w' ⟨G,rfl,h2,h3⟩;refine⟨_,rfl,h2,h3.mono fun i _ hi=>by rw[hi];rfl,fun j hj=> .inr ?_⟩;simp only[kZ,Option.some.injEq]at hj;omega
theorem ydt {g cap n k:Nat} {cur:Array Value} {xs:List Value} (w:W) (hg:w.heap[g]?=C (K cur 39 (0,0))) (hn:n<=4096) (hk:k<n) (hcap0:n<=cap) (hcap:cap<=9223372036854775807)
 (hcs:cur.size=cap*4) (hx:cur.toList.take (n*4)=xs) (h1x:∀u,u ∈ xs->u.oneCell'=U):
 Calls S 193 #[R (C ⟨g,0,Y⟩) n cap,J I k,J I (k+1)] w fun e w'=>e=Z (R (C ⟨g,0,Y⟩) (n-1) cap)/\
  w'.ownsRow 0 39 4 (R (C ⟨g,0,Y⟩) (n-1) cap) (n-1) (xs.take (k*4)++xs.drop ((k+1)*4))/\But (fun j=>j=g) w w':=by
 obtain⟨q0,hqi,hz0,hzz1,hzz2⟩:=info_parts js
 have hxl:xs.length=n*4:=by rw[<-hx,B,F,hcs];omega
 have hdl:(xs.drop ((k+1)*4)).length=(n-(k+1))*4:=by rw[T,hxl];omega
 have hcx:∀j u,xs[j]?=C u->w.drew.cell? ⟨g,j,Y⟩=C u:=fun j u hu=>by
  rw[cell_of_row w.drew g j cur _ _ hg];rw[<-hx,D]at hu;split at hu
  ·simpa using hu
  ·cases hu
 obtain⟨C1,hC1⟩:∃C1:List Value,C1=cur.toList.take (k*4)++xs.drop ((k+1)*4)++cur.toList.drop (k*4+(xs.drop ((k+1)*4)).length):=⟨_,rfl⟩
 have hC1l:C1.length=cap*4:=by rw[hC1];simp only[Q,B,T,F,hcs,hxl];omega
 obtain⟨W1,hW1⟩:∃W1,W1=w.drew.setRow g C1.toArray:=⟨_,rfl⟩
 have hap:∀ty o l c,l=n-(k+1)->(o=(k+1)*4\/n=k+1)->(Builtin.append_ #[44,44] ty #[R (C ⟨g,0,Y⟩) k cap,R (C ⟨g,o,Y⟩) l c]).run S w.drew= .ok (R (C ⟨g,0,Y⟩) (n-1) cap) W1:=by
  intro ty o l c hl ho;subst hl
  have:=run_append_room (P:=S) w.drew 44 ty 39 q0 Tryz.underlying44 hqi g k cap cur hg ⟨g,o,Y⟩ (n-(k+1)) c (xs.drop ((k+1)*4)) (by rw[hdl,hzz1])
   (fun j u hj=>by
     rcases ho with rfl|ho
     ·rw[Addr.add_lit];exact hcx ((k+1)*4+j) u (by rwa [kP]at hj)
     ·have h0:(xs.drop ((k+1)*4)).length=0:=by rw[hdl];omega
      rw[List.length_eq_zero_iff.1 h0]at hj
      simp at hj) (fun u hu=>h1x u (t hu)) (by omega) (by rw[hdl,hzz1,hcs];omega)
  rw[hzz1,<-hC1,<-hW1,show k+(n-(k+1))=n-1 by omega]at this;exact this
 have hg1:W1.heap[g]?=C (K C1.toArray 39 (0,0)):=by rw[hW1];exact setRow_heap w.drew g cur _ _ _ hg
 have hB1:But (fun j=>j=g) w W1:=by rw[hW1];exact(But.refl (fun j=>j=g) w).drew.setRow (.inr rfl) _
 obtain⟨W2,hW2⟩:∃W2,W2=W1.setRow g (C1.take ((n-1)*4)++[kN I 0,J I 0,J I 0,J I 0]++C1.drop ((n-1)*4+4)).toArray:=⟨_,rfl⟩
 have hclr:∀ty o l c,o=(n-1)*4->l=1->(Builtin.clear_ #[44] ty #[R (C ⟨g,o,Y⟩) l c]).run S W1= .ok (.tuple #[]) W2:=by
  intro ty o l c ho hl;subst ho hl
  have hzl:(Builtin.zeroCells (kT #[J I 0,J I 0,J I 0,J I 0]).cells 1).toList=[J I 0,J I 0,J I 0,J I 0]:=by kernel_rfl
  have hv:∀w,(zeroValue 39).run S w= .ok (kC #[J I 0,J I 0,J I 0,J I 0]) w:=fun w=>by simp[zeroValue,typeInfo,hqi,hz0]
  have:=qk (P:=S) W1 44 39 ty 39 _ Tryz.underlying44 hv g ((n-1)*4) 1 c (by decide) C1.toArray hg1 (by
   show(n-1)*4+1*4<=C1.toArray.size
   simp only[O,hC1l]
   omega) (by rw[hzl];decide)
  rw[hzl]at this;rw[this,hW2];rfl
 have hg2:W2.heap[g]?=C (K (C1.take ((n-1)*4)++[kN I 0,J I 0,J I 0,J I 0]++C1.drop ((n-1)*4+4)).toArray 39 (0,0)):=by rw[hW2];exact setRow_heap W1 g _ _ _ _ hg1
 have HB:Hid (But (fun j=>j=g) w W2):=by rw[hW2];exact hB1.setRow (.inr rfl) _
 have HO:Hid (W2.ownsRow 0 39 4 (R (C ⟨g,0,Y⟩) (n-1) cap) (n-1) (xs.take (k*4)++xs.drop ((k+1)*4))):=by
  have e:=ydb (c:=cur.toList) (xs:=xs) (zs:=[kN I 0,J I 0,J I 0,J I 0]) (z:=4) (n:=n) (k:=k) hk (by rw[F,hcs];omega) hx;simp only[<-hC1]at e;refine⟨by rw[Q,hdl,B,hxl];omega,.inr ⟨g,cap,_,rfl,kS _,hg2,by omega,by unfold maxLen;omega,?_,?_⟩⟩
  ·simp only[O,B,Q,T,hC1l,y,kI];omega
  ·exact e
 have hb1:(k:Int)+1<=(n:Int):=by omega
 have htn:((k:Int)+1).toNat=k+1:=by omega
 have hb0:(0:Int)<=(k:Int)+1:=by omega
 have hb2:(k:Int)<=(k:Int)+1:=by omega
 have hb3:¬((k:Int)=(k:Int)+1):=by omega
 have hb4:(k:Int)<=(cap:Int):=by omega
 have hb5:k<=cap:=by omega
 have hb6:n-1<=n:=by omega
 have hb7:n-(n-1)=1:=by omega
 have hb8:¬(cap=n-1):=by omega
 clear hg hx h1x hcx hC1 hC1l hW1 hg1 hB1 hW2 hg2 hcs hxl hdl hqi hz0 hzz1 hzz2
 by_cases hck:cap=k+1
 ·obtain rfl:n=k+1:=by omega
  subst hck;have HO':=HO.out;simp only[Nat.add_sub_cancel,Nat.sub_self]at hap hclr HO' ⊢;have HO'':Hid _:=HO';clear HO HO' hb1 hb2 hb3 hb4 hb5 hb6 hb7 hb8
  have hb2:(k:Int)<=(k:Int)+1:=by omega
  have hb3:¬((k:Int)=(k:Int)+1):=by omega
  have hb4:¬(k+1=k):=by omega
  have hb5:k+1-k=1:=by omega
  go_enter Tryz.func193,Tryz.ntmps193
  go_wp2_with fail
  go_region_law (refine zt rfl (.tmp 22) (.tmp 25) 44 44 rfl (R (C ⟨g,0,Y⟩) k (k+1)) (R (C ⟨g,0,Y⟩) 0 0) (by simp[Act.eval,Act.put]) (by simp[Act.eval,Act.put]) (hap _ _ _ _ rfl (.inr trivial)) ?_)
  go_wp2_with (at_builtin;refine zy _ rfl _ 44 rfl _ rfl (hclr _ _ _ _ (by omega) (by omega)) ?_)
  go_ret
  exact⟨rfl,HO''.out,HB.out⟩
 ·go_enter Tryz.func193,Tryz.ntmps193
  go_wp2_with fail
  go_region_law (refine zt rfl (.tmp 22) (.tmp 25) 44 44 rfl (R (C ⟨g,0,Y⟩) k cap) (R (C ⟨g,(k+1)*4,Y⟩) (n-(k+1)) (cap-(k+1))) (by simp[Act.eval,Act.put]) (by simp[Act.eval,Act.put]) (hap _ _ _ _ rfl (.inl rfl)) ?_)
  go_wp2_with (at_builtin;refine zy _ rfl _ 44 rfl _ rfl (hclr _ _ _ _ (by omega) (by omega)) ?_)
  go_ret
  exact⟨rfl,HO.out,HB.out⟩
end Go.Proofs.YtdphiompijbelaaGreat
namespace Go.Proofs.YtdphiompijbelaaGreat
open Go.RowKit
theorem zr (s:Int) (w:W):
 Calls S 123 #[J I s] w fun r w'=>r=Z (J I (Pg.span s))/\w'=w:=by
 by_cases hs:0<=s/\s<=2
 ·obtain⟨s0,s2⟩:=hs
  go_enter Tryz.func123,Tryz.ntmps123
  go_wp2
  go_loop [3,4] (fun n i=>∃(k m:Int),0<=k/\k<=s/\i=J I k/\n=J I m/\0<=m/\m<=64/\Hid (m=Pg.span k)) (fun _ i=>(s-intOf i).toNat)
  case atStart=>exact⟨0,1,by omega,by omega,rfl,rfl,by omega,by omega,rfl⟩
  case round=>
   obtain⟨k,m,k0,k1,rfl,rfl,m0,m1,HM⟩:=hrel
   by_cases hlt:k<s
   ·have H1:Hid (m*8=Pg.span (k+1)):=by
     have:k=0\/k=1:=by omega
     have e:=HM.out
     rcases this with rfl|rfl<;>simp[Hid,Pg.span]at* <;>omega
    go_wp2
    go_round
    case rel=>exact⟨k+1,m*8,by omega,by omega,rfl,rfl,by omega,by have:=Pg.yhx (k+1);have:=H1.out;omega,H1⟩
    case measure=>simp[intOf];omega
   ·go_wp2
    go_ret
    have:k=s:=by omega
    exact⟨by rw[<-this,<-HM.out];rfl,rfl⟩
 ·have H:Hid (Pg.span s=0):=by rcases Pg.yht s with h|h|h|h<;>simp only[Hid]<;>omega
  by_cases hn:s<0
  ·have hd:decide (s<0)=U:=by simpa using hn
   clear hs
   go_enter Tryz.func123,Tryz.ntmps123
   go_wp2
   go_ret
   exact⟨by rw[H.out];rfl,rfl⟩
  ·have hd:decide (s<0)=X:=by simpa using hn
   have h3:2<s:=by omega
   have hd2:decide (2<s)=U:=by simpa using h3
   clear hs
   go_enter Tryz.func123,Tryz.ntmps123
   go_wp2
   go_ret
   exact⟨by rw[H.out];rfl,rfl⟩
theorem j7 (p s f r:Int) (w:W):
 Calls S 109 #[kC #[J I p,J I s,J I f,J I r]] w fun e w'=>e=Z (J I (Pg.check p s f r))/\Below w.heap.size w w':=by
 have hs:=Pg.yhx s
 by_cases h0:Pg.span s=0
 ·have hb:(Pg.span s==0)=U:=by simpa using h0
  have H:Hid (Pg.span s=0):=h0;clear h0
  go_enter Tryz.func109,Tryz.ntmps109
  go_wp2_with (go_at_call 123;refine(zr _ _).mono ?_;rintro e w' ⟨rfl,rfl⟩)
  go_ret
  exact⟨by rw[Pg.yjz H.out];rfl,zA (zR _) _⟩
 ·have hb:(Pg.span s==0)=X:=by simpa using h0
  have H:Hid (Pg.span s≠0):=h0
  have h1:1<=Pg.span s:=by omega
  clear h0
  by_cases hr:(!Pg.below p 4096|| !Pg.below f 1048576|| !Pg.below r 8)=U
  ·have HR:Hid (Pg.check p s f r=1):=Pg.yh7 H.out hr
   have hc:(p<0)\/(0<=p/\4096<=p)\/(0<=p/\p<4096/\f<0)\/(0<=p/\p<4096/\0<=f/\1048576<=f)\/(0<=p/\p<4096/\0<=f/\f<1048576/\r<0)\/(0<=p/\p<4096/\0<=f/\f<1048576/\0<=r/\8<=r):=by
    simp[Pg.below]at hr;omega
   clear hr;rcases hc with a|⟨a,b⟩|⟨a,b,c⟩|⟨a,b,c,d⟩|⟨a,b,c,d,e⟩|⟨a,b,c,d,e,g⟩
   all_goals
    go_enter Tryz.func109,Tryz.ntmps109
    go_wp2_with (go_at_call 123;refine(zr _ _).mono ?_;rintro e w' ⟨rfl,rfl⟩)
    go_ret
    exact⟨by rw[HR.out];rfl,zA (zR _) _⟩
  ·have b1:Pg.below p 4096=U:=by cases h:Pg.below p 4096<;>simp_all
   have b2:Pg.below f 1048576=U:=by cases h:Pg.below f 1048576<;>simp_all
   have b3:Pg.below r 8=U:=by cases h:Pg.below r 8<;>simp_all
   have HA:Hid (Pg.check p s f r=if p%Pg.span s=0/\f%Pg.span s=0 then 0 else 3):=Pg.yhQ H.out b1 b2 b3;obtain⟨p0,p1⟩:=Pg.zB.1 b1;obtain⟨f0,f1⟩:=Pg.zB.1 b2;obtain⟨r0,r1⟩:=Pg.zB.1 b3;clear hr b1 b2 b3;rcases Pg.yht s with ⟨rfl,hv⟩|⟨rfl,hv⟩|⟨rfl,hv⟩|⟨_,_,_,hv⟩
   ·have HA:Hid (Pg.check p 0 f r=0):=by have:=HA.out;simp only[hv,Int.emod_one,and_self,if_true]at this;exact this
    go_enter Tryz.func109,Tryz.ntmps109
    go_wp2_with (go_at_call 123;refine(zr _ _).mono ?_;rintro e w' ⟨rfl,rfl⟩)
    go_quiet (fail)
    go_wp2
    go_ret
    exact⟨by rw[HA.out];rfl,below_drewN (zA (zR _) _) _⟩
   ·by_cases d1:p%8=0
    ·have e1:(p/8*8 !=p)=X:=by rw[bne_eq_false_iff_eq];omega
     by_cases d2:f%8=0
     ·have HA:Hid (Pg.check p 1 f r=0):=by have:=HA.out;simp only[hv,d1,d2,and_self,if_true]at this;exact this
      have e2:(f/8*8 !=f)=X:=by rw[bne_eq_false_iff_eq];omega
      clear d1 d2
      go_enter Tryz.func109,Tryz.ntmps109
      go_wp2_with (go_at_call 123;refine(zr _ _).mono ?_;rintro e w' ⟨rfl,rfl⟩)
      go_quiet (fail)
      go_wp2
      go_ret
      exact⟨by rw[HA.out];rfl,below_drewN (zA (zR _) _) _⟩
     ·have HA:Hid (Pg.check p 1 f r=3):=by have:=HA.out;simp only[hv,d1,d2,and_false,if_false]at this;exact this
      have e2:(f/8*8 !=f)=U:=by rw[bne_iff_ne];omega
      clear d1 d2
      go_enter Tryz.func109,Tryz.ntmps109
      go_wp2_with (go_at_call 123;refine(zr _ _).mono ?_;rintro e w' ⟨rfl,rfl⟩)
      go_quiet (fail)
      go_wp2
      go_ret
      exact⟨by rw[HA.out];rfl,below_drewN (zA (zR _) _) _⟩
    ·have HA:Hid (Pg.check p 1 f r=3):=by have:=HA.out;simp only[hv,d1,false_and,if_false]at this;exact this
     have e1:(p/8*8 !=p)=U:=by rw[bne_iff_ne];omega
     clear d1
     go_enter Tryz.func109,Tryz.ntmps109
     go_wp2_with (go_at_call 123;refine(zr _ _).mono ?_;rintro e w' ⟨rfl,rfl⟩)
     go_quiet (fail)
     go_wp2
     go_ret
     exact⟨by rw[HA.out];rfl,below_drewN (zA (zR _) _) _⟩
   ·by_cases d1:p%64=0
    ·have e1:(p/64*64 !=p)=X:=by rw[bne_eq_false_iff_eq];omega
     by_cases d2:f%64=0
     ·have HA:Hid (Pg.check p 2 f r=0):=by have:=HA.out;simp only[hv,d1,d2,and_self,if_true]at this;exact this
      have e2:(f/64*64 !=f)=X:=by rw[bne_eq_false_iff_eq];omega
      clear d1 d2
      go_enter Tryz.func109,Tryz.ntmps109
      go_wp2_with (go_at_call 123;refine(zr _ _).mono ?_;rintro e w' ⟨rfl,rfl⟩)
      go_quiet (fail)
      go_wp2
      go_ret
      exact⟨by rw[HA.out];rfl,below_drewN (zA (zR _) _) _⟩
     ·have HA:Hid (Pg.check p 2 f r=3):=by have:=HA.out;simp only[hv,d1,d2,and_false,if_false]at this;exact this
      have e2:(f/64*64 !=f)=U:=by rw[bne_iff_ne];omega
      clear d1 d2
      go_enter Tryz.func109,Tryz.ntmps109
      go_wp2_with (go_at_call 123;refine(zr _ _).mono ?_;rintro e w' ⟨rfl,rfl⟩)
      go_quiet (fail)
      go_wp2
      go_ret
      exact⟨by rw[HA.out];rfl,below_drewN (zA (zR _) _) _⟩
    ·have HA:Hid (Pg.check p 2 f r=3):=by have:=HA.out;simp only[hv,d1,false_and,if_false]at this;exact this
     have e1:(p/64*64 !=p)=U:=by rw[bne_iff_ne];omega
     clear d1
     go_enter Tryz.func109,Tryz.ntmps109
     go_wp2_with (go_at_call 123;refine(zr _ _).mono ?_;rintro e w' ⟨rfl,rfl⟩)
     go_quiet (fail)
     go_wp2
     go_ret
     exact⟨by rw[HA.out];rfl,below_drewN (zA (zR _) _) _⟩
   ·exact absurd hv H.out
theorem jc (p s f r q:Int) (hp:Pg.fits p) (hq:Pg.fits q) (w:W):
 Calls S 132 #[kC #[J I p,J I s,J I f,J I r],J I q] w fun e w'=>e=Z (kY (Pg.over p s q))/\Below w.heap.size w w':=by
 have hs:=Pg.yhx s;unfold Pg.fits at hp hq
 by_cases h:q<p
 ·have HM:Hid (Pg.over p s q=X):=by simp[Hid,Pg.over];omega
  go_enter Tryz.func132,Tryz.ntmps132
  go_wp2_with (go_at_call 123;refine(zr _ _).mono ?_;rintro e w' ⟨rfl,rfl⟩)
  go_ret
  exact⟨by rw[HM.out];rfl,zA (zR _) _⟩
 ·go_enter Tryz.func132,Tryz.ntmps132
  go_wp2_with (go_at_call 123;refine(zr _ _).mono ?_;rintro e w' ⟨rfl,rfl⟩)
  go_loop [1,6] (fun a i=>∃k:Int,0<=k/\k<=Pg.span s/\k<=q-p/\i=J I k/\a=J I (q-k)) (fun _ i=>(Pg.span s-intOf i).toNat)
  case atStart=>exact⟨0,by omega,by omega,by omega,rfl,by simp⟩
  case round=>
   obtain⟨k,k0,k1,k2,rfl,rfl⟩:=hrel
   by_cases hlt:k<Pg.span s
   ·by_cases he:q-k=p
    ·have hb:(q-k==p)=U:=by simpa using he
     have HM:Hid (Pg.over p s q=U):=by simp[Hid,Pg.over];omega
     clear he
     go_wp2
     go_ret
     exact⟨by rw[HM.out];rfl,zA (zR _) _⟩
    ·have hb:(q-k==p)=X:=by simpa using he
     have hm:(q-k== -9223372036854775808)=X:=by simp;omega
     go_wp2
     go_round
     case rel=>exact⟨k+1,by omega,by omega,by omega,rfl,by congr 1;omega⟩
     case measure=>simp[intOf];omega
   ·have HM:Hid (Pg.over p s q=X):=by simp[Hid,Pg.over];omega
    go_wp2
    go_ret
    exact⟨by rw[HM.out];rfl,zA (zR _) _⟩
theorem yfe (p s f r p' s' f' r':Int) (hp:Pg.fits p) (hq:Pg.fits p') (w:W):
 Calls S 128 #[kC #[J I p,J I s,J I f,J I r],kC #[J I p',J I s',J I f',J I r']] w fun e w'=>e=Z (kY (Pg.meet p s p' s'))/\Below w.heap.size w w':=by
 cases h:Pg.over p s p'
 ·have HM:Hid (Pg.meet p s p' s'=Pg.over p' s' p):=by simp[Hid,Pg.meet,h]
  go_enter Tryz.func128,Tryz.ntmps128
  go_wp2_with fail
  refine(jc _ _ _ _ _ hp hq _).mono ?_;rintro e w1 ⟨rfl,hb1⟩;obtain⟨hc1,hf1⟩:=xQ hb1
  go_wp2_with fail
  refine(jc _ _ _ _ _ hq hp _).mono ?_;rintro e w2 ⟨rfl,hb2⟩
  go_wp2_with fail
  go_ret
  exact⟨by rw[HM.out];rfl,zT (zT (zA (zA (zR _) _) _) hb1) hb2⟩
 ·have HM:Hid (Pg.meet p s p' s'=U):=by simp[Hid,Pg.meet,h]
  go_enter Tryz.func128,Tryz.ntmps128
  go_wp2_with fail
  refine(jc _ _ _ _ _ hp hq _).mono ?_;rintro e w1 ⟨rfl,hb1⟩;obtain⟨hc1,hf1⟩:=xQ hb1
  go_wp2_with fail
  go_ret
  exact⟨by rw[HM.out];rfl,zT (zA (zA (zR _) _) _) hb1⟩
theorem vn (r p k:Int) (u:Bool) (w:W):
 Calls S 107 #[J I r,kC #[J I p,J I k,kY u]] w fun e w'=>e=Z (kY (Pg.may r k u))/\Below w.heap.size w w':=by
 have t1:bits .and I r 1=((Pg.r8 r&&&1:Nat):Int):=Pg.yiA r 1 (by decide);have t2:bits .and I r 2=((Pg.r8 r&&&2:Nat):Int):=Pg.yiA r 2 (by decide);have t4:bits .and I r 4=((Pg.r8 r&&&4:Nat):Int):=Pg.yiA r 4 (by decide);have hl:=Pg.r8_lt r;have hm:Pg.may r k u=((Pg.r8 r&&&Pg.asks k u)==Pg.asks k u):=rfl;generalize Pg.r8 r=x at*;have HM:Hid _:=hm;clear hm
 by_cases k1:k=1
 ·have q1:(k==1)=U:=by simpa using k1
  have q2:(k==2)=X:=by simp;omega
  have ha:Hid (Pg.asks k u=if u=U then 3 else 1):=by subst k1;cases u<;>rfl
  clear k1
  have hx:x=0\/x=1\/x=2\/x=3\/x=4\/x=5\/x=6\/x=7:=by omega
  rcases hx with rfl|rfl|rfl|rfl|rfl|rfl|rfl|rfl<;>cases u
  all_goals
   go_enter Tryz.func107,Tryz.ntmps107
   go_wp2
   go_ret
   exact⟨by rw[HM.out,ha.out];rfl,zA (zR _) _⟩
 ·have q1:(k==1)=X:=by simpa using k1
  have hx:x=0\/x=1\/x=2\/x=3\/x=4\/x=5\/x=6\/x=7:=by omega
  by_cases k2:k=2
  ·have q2:(k==2)=U:=by simpa using k2
   have ha:Hid (Pg.asks k u=if u=U then 6 else 4):=by subst k2;cases u<;>rfl
   clear k1 k2
   rcases hx with rfl|rfl|rfl|rfl|rfl|rfl|rfl|rfl<;>cases u
   all_goals
    go_enter Tryz.func107,Tryz.ntmps107
    go_wp2
    go_ret
    exact⟨by rw[HM.out,ha.out];rfl,zA (zR _) _⟩
  ·have q2:(k==2)=X:=by simpa using k2
   have ha:Hid (Pg.asks k u=if u=U then 2 else 0):=by cases u<;>simp[Hid,Pg.asks,k1,k2]
   clear k1 k2
   rcases hx with rfl|rfl|rfl|rfl|rfl|rfl|rfl|rfl<;>cases u
   all_goals
    go_enter Tryz.func107,Tryz.ntmps107
    go_wp2
    go_ret
    exact⟨by rw[HM.out,ha.out];rfl,zA (zR _) _⟩
theorem xg (p k:Int) (u:Bool) (w:W):
 Calls S 43 #[kC #[J I p,J I k,kY u]] w fun e w'=>e=Z (J I (Pg.zK p k))/\Below w.heap.size w w':=by
 by_cases h2:0<=p/\p<4096
 ·have HB:Hid (Pg.below p 4096=U):=Pg.zB.2 h2
  obtain⟨p0,p1⟩:=h2
  by_cases hk:k=0\/k=1\/k=2
  ·have HK:Hid (Pg.isKind k=U):=by simp[Hid,Pg.isKind];omega
   rcases hk with rfl|rfl|rfl
   all_goals
    go_enter Tryz.func43,Tryz.ntmps43
    go_wp2
    go_ret
    exact⟨by simp[Pg.zK,HK.out,HB.out],zA (zR _) _⟩
  ·have HK:Hid (Pg.isKind k=X):=by simp[Hid,Pg.isKind];omega
   have e0:(k !=0)=U:=by rw[bne_iff_ne];omega
   have e1:(k !=1)=U:=by rw[bne_iff_ne];omega
   have e2:(k !=2)=U:=by rw[bne_iff_ne];omega
   clear hk
   go_enter Tryz.func43,Tryz.ntmps43
   go_wp2
   go_ret
   exact⟨by simp[Pg.zK,HK.out],zA (zR _) _⟩
 ·have HB:Hid (Pg.below p 4096=X):=by simp[Hid,Pg.below];omega
  by_cases hk:k=0\/k=1\/k=2
  ·have HK:Hid (Pg.isKind k=U):=by simp[Hid,Pg.isKind];omega
   have hp:p<0\/(0<=p/\4096<=p):=by omega
   clear h2
   rcases hk with rfl|rfl|rfl<;>rcases hp with a|⟨a,b⟩
   all_goals
    go_enter Tryz.func43,Tryz.ntmps43
    go_wp2
    go_ret
    exact⟨by simp[Pg.zK,HK.out,HB.out],zA (zR _) _⟩
  ·have HK:Hid (Pg.isKind k=X):=by simp[Hid,Pg.isKind];omega
   have e0:(k !=0)=U:=by rw[bne_iff_ne];omega
   have e1:(k !=1)=U:=by rw[bne_iff_ne];omega
   have e2:(k !=2)=U:=by rw[bne_iff_ne];omega
   clear hk h2
   go_enter Tryz.func43,Tryz.ntmps43
   go_wp2
   go_ret
   exact⟨by simp[Pg.zK,HK.out],zA (zR _) _⟩
theorem ya0 (p s f r q k:Int) (u:Bool) (w:W):
 Calls S 84 #[kC #[J I p,J I s,J I f,J I r],kC #[J I q,J I k,kY u]] w fun e w'=>
  e=Z (if Pg.may r k u=U then kC #[J I 0,J I (wrap64 (f+wrap64 (q-p))),J I r]else kC #[J I 2,J I 0,J I 0])/\Below w.heap.size w w':=by
 cases h:Pg.may r k u
 ·go_enter Tryz.func84,Tryz.ntmps84
  go_wp2_with fail
  refine(vn _ _ _ _ _).mono ?_;rintro e w1 ⟨rfl,hb1⟩;obtain⟨hc1,hf1⟩:=xQ hb1
  have hz:w.heap.size+2<w1.heap.size:=by have:=hb1.size;simp at this;omega
  go_wp2_with fail
  refine bodyPost_ret (v:=kC #[J I 2,J I 0,J I 0]) ?_ rfl ⟨by simp,?_⟩
  ·simp[results,Tryz.results84,go_sem,hc1]
  ·exact(((zT (zA (zA (zA (zR _) _) _) _) hb1).setCell (by simp;omega) _).setCell (by simp;omega) _).setCell (by simp;omega) _
 ·go_enter Tryz.func84,Tryz.ntmps84
  go_wp2_with fail
  refine(vn _ _ _ _ _).mono ?_;rintro e w1 ⟨rfl,hb1⟩;obtain⟨hc1,hf1⟩:=xQ hb1
  have hz:w.heap.size+2<w1.heap.size:=by have:=hb1.size;simp at this;omega
  go_wp2_with fail
  refine bodyPost_ret (v:=kC #[J I 0,J I (wrap64 (f+wrap64 (q-p))),J I r]) ?_ rfl ⟨by simp,?_⟩
  ·simp[results,Tryz.results84,go_sem,hc1]
  ·exact(((zT (zA (zA (zA (zR _) _) _) _) hb1).setCell (by simp;omega) _).setCell (by simp;omega) _).setCell (by simp;omega) _
theorem qJ (p s f r q k:Int) (u:Bool) (w:W):
 Calls S 84 #[kC #[J I p,J I s,J I f,J I r],kC #[J I q,J I k,kY u]] w fun e w'=>
  e=Z (kC #[J I (Pg.aEnd r k u),J I (Pg.yhN p f r q k u),J I (Pg.yhA r k u)])/\Below w.heap.size w w':=by
 refine(ya0 p s f r q k u w).mono ?_;rintro e w' ⟨rfl,hb⟩;refine⟨?_,hb⟩;unfold Pg.aEnd Pg.yhN Pg.yhA
 split<;>rfl
theorem zO (p l:Int) (w:W):
 Calls S 104 #[J I p,J I l] w fun e w'=>e=Z (J I (Pg.index p l))/\Below w.heap.size w w':=by
 by_cases h:(0<=p/\p<4096)/\0<=l/\l<4
 ·obtain⟨⟨p0,p1⟩,l0,l1⟩:=h
  have hl:l=0\/l=1\/l=2\/l=3:=by omega
  obtain⟨i0,i1,i2,i3⟩:=Pg.index_at p0 p1;have I0:Hid _:=i0;have I1:Hid _:=i1;have I2:Hid _:=i2;have I3:Hid _:=i3;clear i0 i1 i2 i3;rcases hl with rfl|rfl|rfl|rfl
  ·go_enter Tryz.func104,Tryz.ntmps104
   go_wp2
   go_ret
   exact⟨by rw[I0.out];rfl,zA (zR _) _⟩
  ·go_enter Tryz.func104,Tryz.ntmps104
   go_wp2
   go_ret
   exact⟨by rw[I1.out];rfl,zA (zR _) _⟩
  ·go_enter Tryz.func104,Tryz.ntmps104
   go_wp2
   go_ret
   exact⟨by rw[I2.out];rfl,zA (zR _) _⟩
  ·go_enter Tryz.func104,Tryz.ntmps104
   go_wp2
   go_ret
   exact⟨by rw[I3.out];rfl,zA (zR _) _⟩
 ·have HI:Hid (Pg.index p l= -1):=by
   have:(Pg.below p 4096&&Pg.below l 4)=X:=by
    cases h1:Pg.below p 4096
    ·rfl
    ·cases h2:Pg.below l 4
     ·rfl
     ·exact absurd ⟨Pg.zB.1 h1,Pg.zB.1 h2⟩ h
   simp[Hid,Pg.index,this]
  have hc:p<0\/(0<=p/\4096<=p)\/(0<=p/\p<4096/\l<0)\/(0<=p/\p<4096/\0<=l/\4<=l):=by omega
  clear h;rcases hc with a|⟨a,b⟩|⟨a,b,c⟩|⟨a,b,c,d⟩
  all_goals
   go_enter Tryz.func104,Tryz.ntmps104
   go_wp2
   go_ret
   exact⟨by rw[HI.out];rfl,zR _⟩
end Go.Proofs.YtdphiompijbelaaGreat
