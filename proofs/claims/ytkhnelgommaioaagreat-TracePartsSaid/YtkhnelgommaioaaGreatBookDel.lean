import Derived.Test.YtkhnelgommaioaaGreatBookFind
import Derived.Deep.RegionLaw
namespace Go.Proofs.YtkhnelgommaioaaGreat
open Go.RowKit Go.Sort
set_option linter.unusedVariables false
set_option maxRecDepth 100000
theorem sizeMap:∀w,(Go.sizeOf 39).run Tryz.prog w= .ok 4 w:=fun w=>by
 obtain⟨q0,hqi,hz0,hz1,hz2⟩:=info_parts infoMap
 simp[sizeOf,typeInfo,hqi,hz1]
set_option maxHeartbeats 4000000 in
theorem insertEnd_any {vb:Value} {n V:Nat} {xs:List Value} {a0 a1 a2 a3:Value} {tV:TypeId} (w:World) (hr:w.ownsRow 0 39 4 vb n xs) (hn:n<=4096)
 (hV:w.heap[V]?=some (.cells #[a0,a1,a2,a3] tV)) (h1:∀u,u ∈ [a0,a1,a2,a3]->u.oneCell'=true):
 Calls Tryz.prog 192 #[vb,.int .i64 n,.slice (some ⟨V,0,none⟩) 1 1] w fun e w'=>∃v',e= .returned v'/\w'.ownsRow 0 39 4 v' (n+1) (xs++[a0,a1,a2,a3])/\But (fun j=>vb.ownBlock=some j) w w'/\∀j,v'.ownBlock=some j->vb.ownBlock=some j\/w.heap.size<=j:=by
 obtain⟨q0,hqi,hz0,hz1,hz2⟩:=info_parts infoMap
 have hnews:=World.news_of_block hV
 have HN:Hid _:=hnews
 obtain⟨ad,cap,hv⟩:=zF hr
 have hcap:n<=cap/\cap<=9223372036854775807:=by
  rcases hr.2 with ⟨e,e0⟩|⟨g,cap',cur,e,_,_,hc1,hc2,_⟩
  ·rw[hv]at e;cases e;exact⟨Nat.le_refl _,by omega⟩
  ·rw[hv]at e;cases e;unfold maxLen at hc2;exact⟨hc1,by omega⟩
 obtain⟨hcap1,hcap2⟩:=hcap
 have HR:Hid _:=hr
 clear hr hV hnews
 subst hv
 have Fin:∀{g cap':Nat} {w1:World},w1.ownsRow 0 39 4 (.slice (some ⟨g,0,none⟩) (n+1) cap') (n+1) (xs++[a0,a1,a2,a3])->w.grownBy w1 (Value.slice ad n cap).ownBlock->((Value.slice ad n cap).ownBlock=some g\/g=w.heap.size)->
  ∃v',Ending.returned (.slice (some ⟨g,0,none⟩) (n+1) cap')= .returned v'/\w1.ownsRow 0 39 4 v' (n+1) (xs++[a0,a1,a2,a3])/\But (fun j=>(Value.slice ad n cap).ownBlock=some j) w w1/\∀j,v'.ownBlock=some j->(Value.slice ad n cap).ownBlock=some j\/w.heap.size<=j:=by
  intro g cap' w1 h1 h2 hat
  refine⟨_,rfl,h1,(But.refl _ w).grown h2 (fun j hj=> .inr hj),fun j hj=> ?_⟩
  simp only[Value.ownBlock,Option.some.injEq]at hj
  subst hj
  rcases hat with h|h
  ·exact .inl h
  ·exact .inr (by omega)
 have FIN:Hid _:= @Fin
 clear Fin
 by_cases hcn:cap=n
 ·subst hcn
  go_enter Tryz.func192,Tryz.ntmps192
  go_wp2_with (at_builtin;refine wpList_append_lies _ rfl _ _ 44 rfl 0 39 q0 _ 4 32 Tryz.underlying44 hqi hz0 hz1 hz2 rfl (by decide) _ _ _ rfl HR.out ⟨V,0,none⟩ 1 1 [a0,a1,a2,a3] rfl rfl HN.out h1 (by decide) ?c3 ?c4 (Nat.zero_le _) w.heap.size rfl ?_)
  case c3=>unfold maxLen;omega
  case c4=>omega
  intro g cap' w1 hown hgrow hat hlt
  have H1:Hid _:=FIN.out hown hgrow hat
  clear hown hgrow hat hlt
  go_wp2_with fail
  go_ret
  exact H1.out
 ·have hcn':¬(n=cap):=fun e=>hcn e.symm
  go_enter Tryz.func192,Tryz.ntmps192
  go_wp2_with (at_builtin;refine wpList_append_lies _ rfl _ _ 44 rfl 0 39 q0 _ 4 32 Tryz.underlying44 hqi hz0 hz1 hz2 rfl (by decide) _ _ _ rfl HR.out ⟨V,0,none⟩ 1 1 [a0,a1,a2,a3] rfl rfl HN.out h1 (by decide) ?d3 ?d4 (Nat.zero_le _) w.heap.size rfl ?_)
  case d3=>unfold maxLen;omega
  case d4=>omega
  intro g cap' w1 hown hgrow hat hlt
  have H1:Hid _:=FIN.out hown hgrow hat
  clear hown hgrow hat hlt
  go_wp2_with fail
  go_ret
  exact H1.out
set_option maxHeartbeats 4000000 in
theorem insertRoom_any {g cap n k V:Nat} {cur:Array Value} {xs:List Value} {a0 a1 a2 a3:Value} {tV:TypeId} (w:World) (hg:w.heap[g]?=some (.cells cur 39 (0,0))) (hn:n<=4096) (hk:k<n) (hroom:n+1<=cap) (hcap:cap<=9223372036854775807)
 (hcs:cur.size=cap*4) (hx:cur.toList.take (n*4)=xs) (h1x:∀u,u ∈ xs->u.oneCell'=true)
 (hV:w.heap[V]?=some (.cells #[a0,a1,a2,a3] tV)) (hgV:V≠g) (h1:∀u,u ∈ [a0,a1,a2,a3]->u.oneCell'=true):
 Calls Tryz.prog 192 #[.slice (some ⟨g,0,none⟩) n cap,.int .i64 k,.slice (some ⟨V,0,none⟩) 1 1] w fun e w'=>e= .returned (.slice (some ⟨g,0,none⟩) (n+1) cap)/\
  w'.ownsRow 0 39 4 (.slice (some ⟨g,0,none⟩) (n+1) cap) (n+1) (xs.take (k*4)++[a0,a1,a2,a3]++xs.drop (k*4))/\But (fun j=>j=g) w w':=by
 have hsz:(Tryz.prog.info? 39).map (·.size)=some 4:=by
  obtain⟨q0,hqi,hz0,hz1,hz2⟩:=info_parts infoMap
  rw[hqi];simp[hz1]
 have hxl:xs.length=n*4:=by rw[<-hx,List.length_take,Array.length_toList,hcs];omega
 have hov:∀lb cb o,(callFunc 220 #[.slice (some ⟨V,0,none⟩) 1 1,.slice (some ⟨g,o,none⟩) lb cb]).run Tryz.prog w= .ok (.value (.bool false)) w:=fun lb cb o=>by
  have hs1:w.shape? V=some (tV,4):=by simp[World.shape?,hV]
  have hs2:w.shape? g=some (39,cur.size):=by simp[World.shape?,hg]
  have hf1:w.frozen? ⟨V,0,none⟩=false:=by simp[World.frozen?,hV]
  have hf2:w.frozen? ⟨V,4,none⟩=false:=by simp[World.frozen?,hV]
  rw[run_callFunc_extern Tryz.func220 (by kernel_rfl) (by kernel_rfl) (by kernel_rfl) (e:=Extern.SlicesOverlaps.overlaps #[44,44] #[4]) (by kernel_rfl),
   Lib.run_overlaps_apart w 44 4 39 Tryz.underlying44 4 sizeMap ⟨V,0,none⟩ ⟨g,o,none⟩ 1 1 lb cb hgV tV 39 4 cur.size hs1 hs2 (by omega) hf1 hf2]
  rfl
 have hz2:¬((k:Int)=(n:Int)):=by omega
 have hw1:IntKind.i64.wrap ((k:Int)+1)=(k:Int)+1:=by rw[IntKind.wrap_i64];omega
 have htn:((k:Int)+1).toNat=k+1:=by omega
 have hb1:(0:Int)<=(k:Int)+1:=by omega
 have hb2:¬(cap=k+1):=by omega
 have hb4:¬(cap=k):=by omega
 have hkn:k<=n:=by omega
 have hb3:(k:Int)<=(n:Int)+1:=by omega
 have hdl:(xs.drop (k*4)).length=(n-k)*4:=by rw[List.length_drop,hxl];omega
 have hcx:∀j u,xs[j]?=some u->w.cell? ⟨g,j,none⟩=some u:=fun j u hu=>by
  rw[cell_of_row w g j cur _ _ hg]
  rw[<-hx,List.getElem?_take]at hu
  split at hu
  ·simpa using hu
  ·cases hu
 obtain⟨C1,hC1⟩:∃C1:List Value,C1=cur.toList.take ((k+1)*4)++xs.drop (k*4)++cur.toList.drop ((k+1)*4+(xs.drop (k*4)).length):=⟨_,rfl⟩
 have hC1l:C1.length=cap*4:=by rw[hC1];simp only[List.length_append,List.length_take,List.length_drop,Array.length_toList,hcs,hxl];omega
 obtain⟨W1,hW1⟩:∃W1,W1=w.drew.setRow g C1.toArray:=⟨_,rfl⟩
 have hcp1:∀ty o o' dl dc sl sc,o=(k+1)*4->o'=k*4->dl=n-k->sl=n+1-k->(Builtin.copy_ #[44,44] ty #[.slice (some ⟨g,o,none⟩) dl dc,.slice (some ⟨g,o',none⟩) sl sc]).run Tryz.prog w.drew= .ok (goInt (n-k:Nat)) W1:=by
  intro ty o o' dl dc sl sc e1 e2 e3 e4
  subst e1 e2 e3 e4
  have hm:Nat.min (n+1-k) (n-k)=n-k:=Nat.min_eq_right (by omega)
  have:=run_copy_wide (P:=Tryz.prog) w.drew 44 44 ty 39 4 g ((k+1)*4) (n-k) dc ⟨g,k*4,none⟩ (n+1-k) sc cur 39 (xs.drop (k*4)) Tryz.underlying44 hsz hg (by rw[hm,hdl])
   (fun j u hj=>by rw[Addr.add_lit];exact hcx (k*4+j) u (by rwa [List.getElem?_drop]at hj)) (by rw[hdl,hcs];omega) (fun u hu=>h1x u (List.mem_of_mem_drop hu))
  rw[hm,<-hC1,<-hW1]at this
  exact this
 have hg1:W1.heap[g]?=some (.cells C1.toArray 39 (0,0)):=by rw[hW1];exact setRow_heap w.drew g cur _ _ _ hg
 have hV1:W1.heap[V]?=some (.cells #[a0,a1,a2,a3] tV):=by rw[hW1,setRow_other _ _ _ _ hgV];exact hV
 have hB1:But (fun j=>j=g) w W1:=by rw[hW1];exact(But.refl (fun j=>j=g) w).drew.setRow (.inr rfl) _
 obtain⟨W2,hW2⟩:∃W2,W2=W1.setRow g (C1.take (k*4)++[a0,a1,a2,a3]++C1.drop (k*4+4)).toArray:=⟨_,rfl⟩
 have hcp2:∀ty o dl dc,o=k*4->dl=n+1-k->(Builtin.copy_ #[44,44] ty #[.slice (some ⟨g,o,none⟩) dl dc,.slice (some ⟨V,0,none⟩) 1 1]).run Tryz.prog W1= .ok (goInt 1) W2:=by
  intro ty o dl dc e1 e2
  subst e1 e2
  have hm:Nat.min 1 (n+1-k)=1:=Nat.min_eq_left (by omega)
  have:=run_copy_wide (P:=Tryz.prog) W1 44 44 ty 39 4 g (k*4) (n+1-k) dc ⟨V,0,none⟩ 1 1 C1.toArray 39 [a0,a1,a2,a3] Tryz.underlying44 hsz hg1 (by rw[hm];rfl)
   (World.news_of_block hV1) (by simp[hC1l];omega) h1
  rw[hm]at this
  rw[this,hW2]
  rfl
 have hg2:W2.heap[g]?=some (.cells (C1.take (k*4)++[a0,a1,a2,a3]++C1.drop (k*4+4)).toArray 39 (0,0)):=by rw[hW2];exact setRow_heap W1 g _ _ _ _ hg1
 have HB:Hid (But (fun j=>j=g) w W2):=by rw[hW2];exact hB1.setRow (.inr rfl) _
 have HO:Hid (W2.ownsRow 0 39 4 (.slice (some ⟨g,0,none⟩) (n+1) cap) (n+1) (xs.take (k*4)++[a0,a1,a2,a3]++xs.drop (k*4))):=by
  have e:=row_opened (c:=cur.toList) (xs:=xs) (news:=[a0,a1,a2,a3]) (z:=4) (n:=n) (k:=k) hkn (by rw[Array.length_toList,hcs];omega) hx rfl
  simp only[<-hC1]at e
  refine⟨by rw[<-e];simp only[List.length_take,List.length_append,List.length_drop,hC1l,List.length_cons,List.length_nil];omega,.inr ⟨g,cap,_,rfl,Nat.zero_le _,hg2,hroom,by unfold maxLen;omega,?_,?_⟩⟩
  ·simp only[List.size_toArray,List.length_take,List.length_append,List.length_drop,hC1l,List.length_cons,List.length_nil];omega
  ·exact e
 clear hg hx h1x hV h1 hcx hC1 hC1l hW1 hg1 hV1 hB1 hW2 hg2 hcs hxl hdl
 go_enter Tryz.func192,Tryz.ntmps192
 go_wp2_with (simp only[hov])
 go_region_law (refine step_copy_known rfl _ _ 44 44 rfl _ _ (by simp[Act.eval,Act.put]) (by simp[Act.eval,Act.put]) (hcp1 _ _ _ _ _ _ _ (by omega) (by omega) (by omega) (by omega)) ?_)
 go_wp2_with (at_builtin;refine wpList_copy_known _ rfl _ _ 44 44 rfl _ _ rfl rfl (hcp2 _ _ _ _ (by omega) (by omega)) ?_)
 go_ret
 exact⟨rfl,HO.out,HB.out⟩
set_option maxHeartbeats 4000000 in
theorem insertGrow_any {g cap n k V:Nat} {cur:Array Value} {xs:List Value} {a0 a1 a2 a3:Value} {tV:TypeId} (w:World) (hg:w.heap[g]?=some (.cells cur 39 (0,0))) (hn:n<=4096) (hk:k<n) (hroom:cap<n+1) (hcap:n<=cap)
 (hcs:cur.size=cap*4) (hx:cur.toList.take (n*4)=xs) (h1x:∀u,u ∈ xs->u.oneCell'=true)
 (hV:w.heap[V]?=some (.cells #[a0,a1,a2,a3] tV)) (h1:∀u,u ∈ [a0,a1,a2,a3]->u.oneCell'=true):
 Calls Tryz.prog 192 #[.slice (some ⟨g,0,none⟩) n cap,.int .i64 k,.slice (some ⟨V,0,none⟩) 1 1] w fun e w'=>∃G,e= .returned (.slice (some ⟨w.heap.size,0,none⟩) (n+1) G)/\
  w'.ownsRow 0 39 4 (.slice (some ⟨w.heap.size,0,none⟩) (n+1) G) (n+1) (xs.take (k*4)++[a0,a1,a2,a3]++xs.drop (k*4))/\But (fun j=>j=g) w w':=by
 obtain⟨q0,hqi,hz0,hzz1,hzz2⟩:=info_parts infoMap
 have hsz:(Tryz.prog.info? 39).map (·.size)=some 4:=by rw[hqi];simp[hzz1]
 have hcn:cap=n:=by omega
 subst hcn
 have hxl:xs.length=cap*4:=by rw[<-hx,List.length_take,Array.length_toList,hcs];omega
 have hgw:g<w.heap.size:=(Array.getElem?_eq_some_iff.1 hg).1
 have hVw:V<w.heap.size:=(Array.getElem?_eq_some_iff.1 hV).1
 have hz2:¬((k:Int)=(cap:Int)):=by omega
 have hw1:IntKind.i64.wrap ((k:Int)+1)=(k:Int)+1:=by rw[IntKind.wrap_i64];omega
 have htn:((k:Int)+1).toNat=k+1:=by omega
 have hb1:(0:Int)<=(k:Int)+1:=by omega
 have hb4:¬(cap=k):=by omega
 have hkn:k<=cap:=by omega
 have hb3:(k:Int)<=(cap:Int)+1:=by omega
 have hb5:(k:Int)<=(cap:Int):=by omega
 have hdl:(xs.drop (k*4)).length=(cap-k)*4:=by rw[List.length_drop,hxl];omega
 have hcx:∀j u,xs[j]?=some u->w.cell? ⟨g,j,none⟩=some u:=fun j u hu=>by
  rw[cell_of_row w g j cur _ _ hg]
  rw[<-hx,List.getElem?_take]at hu
  split at hu
  ·simpa using hu
  ·cases hu
 obtain⟨G,hG⟩:∃G,G=grownCap w (cap+1) cap 39:=⟨_,rfl⟩
 have hG1:cap+1<=G:=by rw[hG];exact grownCap_ge w _ _ _
 have hG2:G<=9223372036854775807:=by
  have:=grownCap_le_maxLen w (cap+1) cap 39 (by unfold maxLen;omega)
  rw[<-hG]at this
  unfold maxLen at this
  omega
 obtain⟨ROW,hROW⟩:∃ROW:Array Value,ROW=(xs.take (k*4)).toArray++Builtin.zeroCells (Value.agg #[.int .i64 0,.int .i64 0,.int .i64 0,.int .i64 0]).cells (cap+1-k)++Builtin.zeroCells (Value.agg #[.int .i64 0,.int .i64 0,.int .i64 0,.int .i64 0]).cells (G-(cap+1)):=⟨_,rfl⟩
 have hzc:(Value.agg #[.int .i64 0,.int .i64 0,.int .i64 0,.int .i64 0]).cells.size=4:=rfl
 have hRs:ROW.size=G*4:=by
  rw[hROW]
  simp only[Array.size_append,size_zeroCells,hzc,List.size_toArray,List.length_take,hxl]
  omega
 have hRt:ROW.toList.take (k*4)=xs.take (k*4):=by
  rw[hROW]
  simp only[Array.toList_append,List.append_assoc]
  rw[List.take_append_of_le_length (by simp only[List.length_take,hxl];omega),List.take_of_length_le (by simp only[List.length_take];omega)]
 obtain⟨W1,hW1⟩:∃W1,W1=w.drew.alloc (.cells ROW 39):=⟨_,rfl⟩
 have hold:(Builtin.firstCells q0.size k (.slice (some ⟨g,0,none⟩) k cap)).run Tryz.prog w.drew= .ok (xs.take (k*4)).toArray w.drew:=by
  rw[hzz1]
  exact run_firstCells_some w.drew 4 k ⟨g,0,none⟩ k cap (xs.take (k*4)) (by rw[List.length_take];omega) (fun j v hj=>by
   rw[Addr.add_lit,Nat.zero_add]
   rw[List.getElem?_take]at hj
   split at hj
   ·exact hcx j v hj
   ·cases hj)
 have hik:k+(cap+1-k)=cap+1:=by omega
 have hrz:∀ty N,N=((cap+1-k:Nat):Int)->(Builtin.append_ #[44,3] ty #[.slice (some ⟨g,0,none⟩) k cap,.int .i64 N]).run Tryz.prog w= .ok (.slice (some ⟨w.heap.size,0,none⟩) (cap+1) G) W1:=by
  intro ty N hN
  have h:=Lib.run_append_grow_zeros w 44 3 ty 39 q0 _ .i64 .i64 Tryz.underlying44 Tryz.underlying3 hqi hz0 (some ⟨g,0,none⟩) k cap (xs.take (k*4)) hold (cap+1-k) (by omega) (by omega) (by omega) (by omega) (by rw[hzz2];omega) (by rw[hzz2,hik];exact growslice_fits hroom (by omega))
  rw[hik,<-hG,<-hROW,<-hW1]at h
  rw[hN]
  exact h
 have hg1:W1.heap[w.heap.size]?=some (.cells ROW 39 (0,0)):=by rw[hW1];exact heap_alloc_new w.drew _
 have hV1:W1.heap[V]?=some (.cells #[a0,a1,a2,a3] tV):=by rw[hW1,Below.heap_alloc w.drew _ _ hVw];exact hV
 have ho1:W1.heap[g]?=some (.cells cur 39 (0,0)):=by rw[hW1,Below.heap_alloc w.drew _ _ hgw];exact hg
 have hB1:But (fun j=>j=g) w W1:=by rw[hW1];exact(But.refl (fun j=>j=g) w).drew.alloc _
 obtain⟨C1,hC1⟩:∃C1:List Value,C1=ROW.toList.take (k*4)++[a0,a1,a2,a3]++ROW.toList.drop (k*4+4):=⟨_,rfl⟩
 have hC1l:C1.length=G*4:=by rw[hC1];simp only[List.length_append,List.length_take,List.length_drop,Array.length_toList,hRs,List.length_cons,List.length_nil];omega
 obtain⟨W2,hW2⟩:∃W2,W2=W1.setRow w.heap.size C1.toArray:=⟨_,rfl⟩
 have hcp1:∀ty o dl dc,o=k*4->dl=cap+1-k->(Builtin.copy_ #[44,44] ty #[.slice (some ⟨w.heap.size,o,none⟩) dl dc,.slice (some ⟨V,0,none⟩) 1 1]).run Tryz.prog W1= .ok (goInt 1) W2:=by
  intro ty o dl dc e1 e2
  subst e1 e2
  have hm:Nat.min 1 (cap+1-k)=1:=Nat.min_eq_left (by omega)
  have:=run_copy_wide (P:=Tryz.prog) W1 44 44 ty 39 4 w.heap.size (k*4) (cap+1-k) dc ⟨V,0,none⟩ 1 1 ROW 39 [a0,a1,a2,a3] Tryz.underlying44 hsz hg1 (by rw[hm];rfl)
   (World.news_of_block hV1) (by simp[hRs];omega) h1
  rw[hm]at this
  rw[this,hW2,hC1]
  rfl
 have hg2:W2.heap[w.heap.size]?=some (.cells C1.toArray 39 (0,0)):=by rw[hW2];exact setRow_heap W1 w.heap.size _ _ _ _ hg1
 have ho2:W2.heap[g]?=some (.cells cur 39 (0,0)):=by rw[hW2,setRow_other _ _ _ _ (by omega)];exact ho1
 have hB2:But (fun j=>j=g) w W2:=by rw[hW2];exact hB1.setRow (.inl (Nat.le_refl _)) _
 have hcx2:∀j u,xs[j]?=some u->W2.drew.cell? ⟨g,j,none⟩=some u:=fun j u hu=>by
  rw[cell_of_row W2.drew g j cur _ _ ho2,<-cell_of_row w g j cur _ _ hg]
  exact hcx j u hu
 obtain⟨W3,hW3⟩:∃W3,W3=W2.drew.setRow w.heap.size (C1.take ((k+1)*4)++xs.drop (k*4)++C1.drop ((k+1)*4+(xs.drop (k*4)).length)).toArray:=⟨_,rfl⟩
 have hcp2:∀ty o o' dl dc sl sc,o=(k+1)*4->o'=k*4->dl=cap-k->sl=cap-k->(Builtin.copy_ #[44,44] ty #[.slice (some ⟨w.heap.size,o,none⟩) dl dc,.slice (some ⟨g,o',none⟩) sl sc]).run Tryz.prog W2.drew= .ok (goInt (cap-k:Nat)) W3:=by
  intro ty o o' dl dc sl sc e1 e2 e3 e4
  subst e1 e2 e3 e4
  have hm:Nat.min (cap-k) (cap-k)=cap-k:=Nat.min_self _
  have:=run_copy_wide (P:=Tryz.prog) W2.drew 44 44 ty 39 4 w.heap.size ((k+1)*4) (cap-k) dc ⟨g,k*4,none⟩ (cap-k) sc C1.toArray 39 (xs.drop (k*4)) Tryz.underlying44 hsz hg2 (by rw[hm,hdl])
   (fun j u hj=>by rw[Addr.add_lit];exact hcx2 (k*4+j) u (by rwa [List.getElem?_drop]at hj)) (by simp only[List.size_toArray,hdl,hC1l];omega) (fun u hu=>h1x u (List.mem_of_mem_drop hu))
  rw[hm]at this
  rw[this,hW3]
 have hg3:W3.heap[w.heap.size]?=some (.cells (C1.take ((k+1)*4)++xs.drop (k*4)++C1.drop ((k+1)*4+(xs.drop (k*4)).length)).toArray 39 (0,0)):=by rw[hW3];exact setRow_heap W2.drew w.heap.size _ _ _ _ hg2
 have HB:Hid (But (fun j=>j=g) w W3):=by rw[hW3];exact hB2.drew.setRow (.inl (Nat.le_refl _)) _
 have HO:Hid (W3.ownsRow 0 39 4 (.slice (some ⟨w.heap.size,0,none⟩) (cap+1) G) (cap+1) (xs.take (k*4)++[a0,a1,a2,a3]++xs.drop (k*4))):=by
  have e:=row_filled (c:=ROW.toList) (xs:=xs) (news:=[a0,a1,a2,a3]) (z:=4) (n:=cap) (k:=k) hkn (by rw[Array.length_toList,hRs];omega) hRt hxl rfl
  rw[show k*4+[a0,a1,a2,a3].length=k*4+4 from rfl]at e
  simp only[<-hC1]at e
  refine⟨by rw[<-e];simp only[List.length_take,List.length_append,List.length_drop,hC1l,hxl];omega,.inr ⟨w.heap.size,G,_,rfl,Nat.zero_le _,hg3,hG1,by unfold maxLen;omega,?_,?_⟩⟩
  ·simp only[List.size_toArray,List.length_take,List.length_append,List.length_drop,hC1l,hxl];omega
  ·exact e
 have hbG:¬(G=k):=by omega
 have hbG1:¬(G=k+1):=by omega
 have hN:IntKind.i64.wrap ((cap:Int)+1-(k:Int))=(cap:Int)+1-(k:Int):=by rw[IntKind.wrap_i64];omega
 clear hg hx h1x hV h1 hcx hC1 hC1l hW1 hg1 hV1 hB1 hW2 hg2 hcs hxl hdl hROW hRs hRt hold hqi hz0 hzz1 hzz2 hG ho1 ho2 hcx2 hB2 hW3 hg3 hzc
 go_enter Tryz.func192,Tryz.ntmps192
 go_wp2_with (first
  | (at_builtin;refine Lib.wpList_append_run _ rfl _ _ 44 3 rfl _ _ rfl rfl _ _ (hrz _ _ (by omega)) ?_)
  | (at_builtin;refine wpList_copy_known _ rfl _ _ 44 44 rfl _ _ rfl rfl (hcp1 _ _ _ _ (by omega) (by omega)) ?_))
 go_region_law (refine step_copy_known rfl _ _ 44 44 rfl _ _ (by simp[Act.eval,Act.put]) (by simp[Act.eval,Act.put]) (hcp2 _ _ _ _ _ _ _ (by omega) (by omega) (by omega) (by omega)) ?_)
 go_wp2_with fail
 go_ret
 exact⟨G,rfl,HO.out,HB.out⟩
theorem insert_any {vb:Value} {k V:Nat} {L:List Pg.Mp} {m:Pg.Mp} {tV:TypeId} (w:World) (hr:w.ownsRow 0 39 4 vb L.length (zC L)) (hn:L.length<=4096) (hk:k<=L.length)
 (hV:w.heap[V]?=some (.cells #[.int .i64 m.p,.int .i64 m.s,.int .i64 m.f,.int .i64 m.r] tV)) (hvV:vb.ownBlock≠some V):
 Calls Tryz.prog 192 #[vb,.int .i64 k,.slice (some ⟨V,0,none⟩) 1 1] w fun e w'=>∃v',e= .returned v'/\w'.ownsRow 0 39 4 v' (L.length+1) (zC (L.take k++m::L.drop k))/\But (fun j=>vb.ownBlock=some j) w w'/\∀j,v'.ownBlock=some j->vb.ownBlock=some j\/w.heap.size<=j:=by
 have h1:∀u,u ∈ [Value.int .i64 m.p,.int .i64 m.s,.int .i64 m.f,.int .i64 m.r]->u.oneCell'=true:=by
  intro u hu
  simp at hu
  rcases hu with rfl|rfl|rfl|rfl<;>rfl
 have hcut:∀j,(zC L).take (j*4)=zC (L.take j)/\(zC L).drop (j*4)=zC (L.drop j):=by
  intro j
  by_cases hj:j<=L.length
  ·have e:zC L=zC (L.take j)++zC (L.drop j):=by rw[<-mpCells_append,List.take_append_drop]
   have hl:(zC (L.take j)).length=j*4:=by rw[mpCells_len,List.length_take];congr 1;omega
   exact⟨by rw[e,List.take_left' hl],by rw[e,List.drop_left' hl]⟩
  ·have hl:=mpCells_len L
   rw[List.take_of_length_le (by omega),List.take_of_length_le (l:=L) (by omega),List.drop_eq_nil_of_le (by omega),List.drop_eq_nil_of_le (show L.length<=j by omega)]
   exact⟨rfl,rfl⟩
 have hm:zC (L.take k++m::L.drop k)=(zC L).take (k*4)++[Value.int .i64 m.p,.int .i64 m.s,.int .i64 m.f,.int .i64 m.r]++(zC L).drop (k*4):=by
  rw[(hcut k).1,(hcut k).2,<-mpCells_one m,<-mpCells_append,<-mpCells_append,List.append_assoc]
  rfl
 rw[hm]
 by_cases hkn:k=L.length
 ·subst hkn
  have hl:=mpCells_len L
  rw[List.take_of_length_le (by omega),List.drop_eq_nil_of_le (by omega),List.append_nil]
  exact insertEnd_any w hr hn hV h1
 ·obtain⟨_,hrr⟩:=hr
  rcases hrr with ⟨_,e0⟩|⟨g,cap,cur,rfl,_,hg,hc1,hc2,hc3,hc4⟩
  ·omega
  ·have hgV:V≠g:=fun e=>hvV (by rw[e];rfl)
   have hx1:=mpCells_one' L
   have hlt:g<w.heap.size:=(Array.getElem?_eq_some_iff.1 hg).1
   by_cases hroom:L.length+1<=cap
   ·refine(insertRoom_any w hg hn (by omega) hroom (by unfold maxLen at hc2;omega) hc3 hc4 hx1 hV hgV h1).mono ?_
    rintro e w' ⟨rfl,h2,h3⟩
    refine⟨_,rfl,h2,h3.mono fun i _ hi=>by rw[hi];rfl,fun j hj=> .inl hj⟩
   ·refine(insertGrow_any w hg hn (by omega) (by omega) hc1 hc3 hc4 hx1 hV h1).mono ?_
    rintro e w' ⟨G,rfl,h2,h3⟩
    refine⟨_,rfl,h2,h3.mono fun i _ hi=>by rw[hi];rfl,fun j hj=> .inr ?_⟩
    simp only[Value.ownBlock,Option.some.injEq]at hj
    omega
set_option maxHeartbeats 4000000 in
theorem delete_raw {g cap n k:Nat} {cur:Array Value} {xs:List Value} (w:World) (hg:w.heap[g]?=some (.cells cur 39 (0,0))) (hn:n<=4096) (hk:k<n) (hcap0:n<=cap) (hcap:cap<=9223372036854775807)
 (hcs:cur.size=cap*4) (hx:cur.toList.take (n*4)=xs) (h1x:∀u,u ∈ xs->u.oneCell'=true):
 Calls Tryz.prog 194 #[.slice (some ⟨g,0,none⟩) n cap,.int .i64 k,.int .i64 (k+1)] w fun e w'=>e= .returned (.slice (some ⟨g,0,none⟩) (n-1) cap)/\
  w'.ownsRow 0 39 4 (.slice (some ⟨g,0,none⟩) (n-1) cap) (n-1) (xs.take (k*4)++xs.drop ((k+1)*4))/\But (fun j=>j=g) w w':=by
 obtain⟨q0,hqi,hz0,hzz1,hzz2⟩:=info_parts infoMap
 have hxl:xs.length=n*4:=by rw[<-hx,List.length_take,Array.length_toList,hcs];omega
 have hdl:(xs.drop ((k+1)*4)).length=(n-(k+1))*4:=by rw[List.length_drop,hxl];omega
 have hcx:∀j u,xs[j]?=some u->w.drew.cell? ⟨g,j,none⟩=some u:=fun j u hu=>by
  rw[cell_of_row w.drew g j cur _ _ hg]
  rw[<-hx,List.getElem?_take]at hu
  split at hu
  ·simpa using hu
  ·cases hu
 obtain⟨C1,hC1⟩:∃C1:List Value,C1=cur.toList.take (k*4)++xs.drop ((k+1)*4)++cur.toList.drop (k*4+(xs.drop ((k+1)*4)).length):=⟨_,rfl⟩
 have hC1l:C1.length=cap*4:=by rw[hC1];simp only[List.length_append,List.length_take,List.length_drop,Array.length_toList,hcs,hxl];omega
 obtain⟨W1,hW1⟩:∃W1,W1=w.drew.setRow g C1.toArray:=⟨_,rfl⟩
 have hap:∀ty o l c,l=n-(k+1)->(o=(k+1)*4\/n=k+1)->(Builtin.append_ #[44,44] ty #[.slice (some ⟨g,0,none⟩) k cap,.slice (some ⟨g,o,none⟩) l c]).run Tryz.prog w.drew= .ok (.slice (some ⟨g,0,none⟩) (n-1) cap) W1:=by
  intro ty o l c hl ho
  subst hl
  have:=run_append_room (P:=Tryz.prog) w.drew 44 ty 39 q0 Tryz.underlying44 hqi g k cap cur hg ⟨g,o,none⟩ (n-(k+1)) c (xs.drop ((k+1)*4)) (by rw[hdl,hzz1])
   (fun j u hj=>by
     rcases ho with rfl|ho
     ·rw[Addr.add_lit];exact hcx ((k+1)*4+j) u (by rwa [List.getElem?_drop]at hj)
     ·have h0:(xs.drop ((k+1)*4)).length=0:=by rw[hdl];omega
      rw[List.length_eq_zero_iff.1 h0]at hj
      simp at hj) (fun u hu=>h1x u (List.mem_of_mem_drop hu)) (by omega) (by rw[hdl,hzz1,hcs];omega)
  rw[hzz1,<-hC1,<-hW1,show k+(n-(k+1))=n-1 by omega]at this
  exact this
 have hg1:W1.heap[g]?=some (.cells C1.toArray 39 (0,0)):=by rw[hW1];exact setRow_heap w.drew g cur _ _ _ hg
 have hB1:But (fun j=>j=g) w W1:=by rw[hW1];exact(But.refl (fun j=>j=g) w).drew.setRow (.inr rfl) _
 obtain⟨W2,hW2⟩:∃W2,W2=W1.setRow g (C1.take ((n-1)*4)++[Value.int .i64 0,.int .i64 0,.int .i64 0,.int .i64 0]++C1.drop ((n-1)*4+4)).toArray:=⟨_,rfl⟩
 have hclr:∀ty o l c,o=(n-1)*4->l=1->(Builtin.clear_ #[44] ty #[.slice (some ⟨g,o,none⟩) l c]).run Tryz.prog W1= .ok (.tuple #[]) W2:=by
  intro ty o l c ho hl
  subst ho hl
  have hzl:(Builtin.zeroCells (Value.agg #[.int .i64 0,.int .i64 0,.int .i64 0,.int .i64 0]).cells 1).toList=[.int .i64 0,.int .i64 0,.int .i64 0,.int .i64 0]:=by kernel_rfl
  have hv:∀w,(zeroValue 39).run Tryz.prog w= .ok (.agg #[.int .i64 0,.int .i64 0,.int .i64 0,.int .i64 0]) w:=fun w=>by simp[zeroValue,typeInfo,hqi,hz0]
  have:=run_clear_wide (P:=Tryz.prog) W1 44 39 ty 39 _ Tryz.underlying44 hv g ((n-1)*4) 1 c (by decide) C1.toArray hg1 (by
   show(n-1)*4+1*4<=C1.toArray.size
   simp only[List.size_toArray,hC1l]
   omega) (by rw[hzl];decide)
  rw[hzl]at this
  rw[this,hW2]
  rfl
 have hg2:W2.heap[g]?=some (.cells (C1.take ((n-1)*4)++[Value.int .i64 0,.int .i64 0,.int .i64 0,.int .i64 0]++C1.drop ((n-1)*4+4)).toArray 39 (0,0)):=by rw[hW2];exact setRow_heap W1 g _ _ _ _ hg1
 have HB:Hid (But (fun j=>j=g) w W2):=by rw[hW2];exact hB1.setRow (.inr rfl) _
 have HO:Hid (W2.ownsRow 0 39 4 (.slice (some ⟨g,0,none⟩) (n-1) cap) (n-1) (xs.take (k*4)++xs.drop ((k+1)*4))):=by
  have e:=row_shut (c:=cur.toList) (xs:=xs) (zs:=[Value.int .i64 0,.int .i64 0,.int .i64 0,.int .i64 0]) (z:=4) (n:=n) (k:=k) hk (by rw[Array.length_toList,hcs];omega) hx
  simp only[<-hC1]at e
  refine⟨by rw[List.length_append,hdl,List.length_take,hxl];omega,.inr ⟨g,cap,_,rfl,Nat.zero_le _,hg2,by omega,by unfold maxLen;omega,?_,?_⟩⟩
  ·simp only[List.size_toArray,List.length_take,List.length_append,List.length_drop,hC1l,List.length_cons,List.length_nil];omega
  ·exact e
 have hb1:(k:Int)+1<=(n:Int):=by omega
 have htn:((k:Int)+1).toNat=k+1:=by omega
 have hb0:(0:Int)<=(k:Int)+1:=by omega
 have hb2:(k:Int)<=(k:Int)+1:=by omega
 have hb3:¬((k:Int)=(k:Int)+1):=by omega
 have hb4:(k:Int)<=(cap:Int):=by omega
 have hb5:k<=cap:=by omega
 have hb6:n-1<=n:=by omega
 have hb7:n-(n-1)=1:=by omega
 have hb8:¬(cap=n-1):=by omega
 clear hg hx h1x hcx hC1 hC1l hW1 hg1 hB1 hW2 hg2 hcs hxl hdl hqi hz0 hzz1 hzz2
 by_cases hck:cap=k+1
 ·obtain rfl:n=k+1:=by omega
  subst hck
  have HO':=HO.out
  simp only[Nat.add_sub_cancel,Nat.sub_self]at hap hclr HO' ⊢
  have HO'':Hid _:=HO'
  clear HO HO' hb1 hb2 hb3 hb4 hb5 hb6 hb7 hb8
  have hb2:(k:Int)<=(k:Int)+1:=by omega
  have hb3:¬((k:Int)=(k:Int)+1):=by omega
  have hb4:¬(k+1=k):=by omega
  have hb5:k+1-k=1:=by omega
  go_enter Tryz.func194,Tryz.ntmps194
  go_wp2_with fail
  go_region_law (refine step_append_known rfl (.tmp 22) (.tmp 25) 44 44 rfl (.slice (some ⟨g,0,none⟩) k (k+1)) (.slice (some ⟨g,0,none⟩) 0 0) (by simp[Act.eval,Act.put]) (by simp[Act.eval,Act.put]) (hap _ _ _ _ rfl (.inr trivial)) ?_)
  go_wp2_with (at_builtin;refine wpList_clear_known _ rfl _ 44 rfl _ rfl (hclr _ _ _ _ (by omega) (by omega)) ?_)
  go_ret
  exact⟨rfl,HO''.out,HB.out⟩
 ·go_enter Tryz.func194,Tryz.ntmps194
  go_wp2_with fail
  go_region_law (refine step_append_known rfl (.tmp 22) (.tmp 25) 44 44 rfl (.slice (some ⟨g,0,none⟩) k cap) (.slice (some ⟨g,(k+1)*4,none⟩) (n-(k+1)) (cap-(k+1))) (by simp[Act.eval,Act.put]) (by simp[Act.eval,Act.put]) (hap _ _ _ _ rfl (.inl rfl)) ?_)
  go_wp2_with (at_builtin;refine wpList_clear_known _ rfl _ 44 rfl _ rfl (hclr _ _ _ _ (by omega) (by omega)) ?_)
  go_ret
  exact⟨rfl,HO.out,HB.out⟩
end Go.Proofs.YtkhnelgommaioaaGreat
