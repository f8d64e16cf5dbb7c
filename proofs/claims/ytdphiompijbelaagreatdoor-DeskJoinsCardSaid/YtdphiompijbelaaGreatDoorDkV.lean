import Derived.Test.YtdphiompijbelaaGreatDoorDkY
set_option linter.all false
set_option maxRecDepth 100000
open Go.Ending renaming returned->kJ
open Bool renaming false->D,true->kR
open Array renaming getElem?_eq_some_iff->X
open List renaming take_succ_cons->O,drop_succ_cons->M,mem_singleton->H,take_zero->y,drop_zero->z
open Go.Proofs.Tryz renaming prog->U
open Go.Obj renaming cells->Z
open Nat renaming lt_of_lt_of_le->V,le_succ->kN
open Go.RowKit renaming Hid->T
open Go renaming cell_regrown->Y,bodyPost_ret->A,heap_alloc_new->kI,World->kS,Calls->kC
open Option renaming none->B,some->N
open Go.IntKind renaming i64->J
open Go.Value renaming int->I,bool->Q,pointer->E,slice->t,agg->kB,tuple->kP
set_option maxHeartbeats 2000000
namespace Go.Proofs.YtdphiompijbelaaGreatDoor
open Go.RowKit Go.Sort
section
attribute [local go_sem] Loose.gent
section
variable {b:Nat} {root:Int} {C:Pg.Cr} {F:Nat->Prop}
theorem ycW {bf:Nat} {S:Pg.Fs} {Ff:Nat->Prop} (w:kS) (h:xY w b root C F) (hf:zh w bf S Ff) (hne:∀j,F j->¬Ff j):
 kC U 185 #[E (N ⟨b,0,B⟩),E (N ⟨bf,0,B⟩)] w fun e w'=>e=kJ (C.stT S root).val/\∃F' Ff',xY w' b root (C.stN S root) F'/\zh w' bf (C.stS S root) Ff'/\But (fun j=>F j\/Ff j) w w'/\(∀j,F' j->F j\/w.heap.size<=j)/\(∀j,Ff' j->Ff j\/w.heap.size<=j)/\∀j,F' j->¬Ff' j:=by
 obtain⟨bt,bk,Ft,h,rfl⟩:=h;obtain⟨W,hW⟩:∃W,W=w.alloc (Z #[I J 0,I J 0,I J 0] 71):=⟨_,rfl⟩
 have hB:Below w.heap.size w W:=by rw[hW];exact zA (zR _) _
 have R3:T (W.heap[w.heap.size]?=N (Z #[I J 0,I J 0,I J 0] 71 (0,0))):=by rw[T,hW];exact kI _ _
 have hWs:w.heap.size<W.heap.size:=by rw[hW];simp
 have hl:=h.lb;have HW:T _:=h.grow hB;have HFW:T (zh W bf S Ff):=hf.keep (G:=fun _=>False) (But.yhl hB) (fun _ _=>id);have HB:T _:=hB;have HNE:T _:=hne;have HLT:T (∀j,crF b bk Ft j->j<w.heap.size):=fun j hj=>h.lt hj;have HLX:T (¬(w.heap.size=bk\/Ff w.heap.size)):=fun e=>e.elim (fun e=>by have:=h.wk.lb;omega) (fun e=>by have:=hf.lt e;omega);have HS:=yd9 h.ok W HW.out.wk HFW.out (hne bk (.inr (.inl rfl)));have HOK:T _:=Pg.ylx hf.ok h.ok root;have HFT:T _:=Pg.res_fits C.K (Pg.kOut S root C.K);have c1:=h.c1;clear h hf hB hne;simp only[Pg.Cr.stT,Pg.Cr.stN,Pg.Cr.stS,Pg.Wo.tl,Pg.Tl.val];generalize Pg.kOut S root C.K=o at*;generalize o.res C.K=R at*;generalize o.next C.K=K' at*;generalize o.fs S C.K=S' at*;generalize o.cd=cd at*;obtain⟨en,ra,rf,rr,⟨mp,ms,mf,mr⟩,rd⟩:=R;simp only[Pg.Rs.val]at HS HFT ⊢;have hnx:¬(w.heap.size=bk\/Ff w.heap.size):=fun e=>HLX.out e;cases hgo:(en&&ra==0)
 ·have eP:Pg.rPut C.L ⟨en,ra,rf,rr,⟨mp,ms,mf,mr⟩,rd⟩=C.L:=by unfold Pg.rPut;rw[if_neg (by simp only;rw[hgo];decide)]
  rw[eP];clear eP
  go_enter Tryz.func185,Tryz.ntmps185
  go_wp2_with fail
  rw[<-hW];clear hW;refine HS.mono ?_;rintro e w1 ⟨rfl,hk1,Ff1,hf1,hc1,hF1⟩;have P1:T _:=HW.out.yl7 hk1 HOK.out hc1.but HNE.out;have Q1:T (zh w1 bf S' Ff1):=hf1;have B1:T (But (fun j=>crF b bk Ft j\/Ff j) w w1):=(But.yhl HB.out).trans hc1.but (fun _ _ h=>h.elim (fun e=> .inl (.inr (.inl e))) .inr);have F1:T (∀j,Ff1 j->Ff j\/w.heap.size<j):=fun j hj=>(hF1 j hj).imp id (fun h=>by omega);have N1:T (∀j,crF b bk Ft j->¬Ff1 j):=fun j hj hf=>(hF1 j hf).elim (HNE.out j hj) (fun h=>by have:=HW.out.lt hj;omega);have R1:w1.heap[w.heap.size]?=N (Z #[I J 0,I J 0,I J 0] 71 (0,0)):=(hc1.but.block _ hWs hnx).trans R3.out;have hr1:w.heap.size<w1.heap.size:=V hWs hc1.but.size;obtain⟨⟨z0,z1,z2⟩,zf⟩:=ydn R1
  have fin:T (∀Wf,But (fun j=>j=w.heap.size) w1 Wf->∃F' Ff',xY Wf b root ⟨C.L,K'⟩ F'/\zh Wf bf S' Ff'/\But (fun j=>crF b bk Ft j\/Ff j) w Wf/\(∀j,F' j->crF b bk Ft j\/w.heap.size<=j)/\(∀j,Ff' j->Ff j\/w.heap.size<=j)/\∀j,F' j->¬Ff' j):=fun Wf hb=>
   ⟨_,Ff1,⟨_,_,_,P1.out.keep hb fun k hk e=>by have:=HLT.out k hk;omega,rfl⟩,Q1.out.keep hb fun k hk e=>(F1.out k hk).elim (fun h=>hnx (.inr (e▸h))) (fun h=>by omega),B1.out.trans hb (fun i hi e=>by omega),fun j hj=> .inl hj,fun j hj=>(F1.out j hj).imp id (fun h=>by omega),N1.out⟩
  clear hk1 hf1 hc1 hF1 HS HW HFW R1 R3 HB HNE c1 P1 Q1 B1 F1 N1
  have hne1:w.heap.size≠w1.heap.size:=by omega
  cases en
  ·go_wp2_with fail
   go_region
   go_wp2_with fail
   refine A (v:=kP #[kB #[I J ra,I J rf,I J rr],Q D,I J cd]) ?_ rfl ⟨rfl,fin.out _ (((qE (But.refl (fun j=>j=w.heap.size) w1) _ (.inr rfl) _ _ _).alloc _).drew)⟩;simp[results,Tryz.results185,go_sem,z0,z1,z2,hr1]
  ·simp only[Bool.true_and]at hgo
   go_wp2_with fail
   go_region
   go_wp2_with fail
   refine A (v:=kP #[kB #[I J ra,I J rf,I J rr],Q kR,I J cd]) ?_ rfl ⟨rfl,fin.out _ (((qE (But.refl (fun j=>j=w.heap.size) w1) _ (.inr rfl) _ _ _).alloc _).drew)⟩;simp[results,Tryz.results185,go_sem,z0,z1,z2,hr1]
 ·have eP:Pg.rPut C.L ⟨en,ra,rf,rr,⟨mp,ms,mf,mr⟩,rd⟩=Pg.kPut C.L ⟨⟨mp,ms,mf,mr⟩,rd⟩:=by unfold Pg.rPut;rw[if_pos hgo]
  rw[eP];simp only[Bool.and_eq_true,beq_iff_eq]at hgo;obtain⟨hen,hra⟩:=hgo;subst hen hra;have HP:=fun w' (ht:jy w' bt 0 C.L Ft)=>yet ⟨⟨mp,ms,mf,mr⟩,rd⟩ HFT.out w' ht;simp only[Pg.Ln.val]at HP;generalize Pg.kPut C.L ⟨⟨mp,ms,mf,mr⟩,rd⟩=L' at*;clear eP
  go_enter Tryz.func185,Tryz.ntmps185
  go_wp2_with fail
  rw[<-hW];clear hW;refine HS.mono ?_;rintro e w1 ⟨rfl,hk1,Ff1,hf1,hc1,hF1⟩;obtain⟨W2,hW2⟩:∃W2,W2=w1.alloc (Z #[Q kR,I J 0,I J rf,I J rr,I J mp,I J ms,I J mf,I J mr,Q rd] 330):=⟨_,rfl⟩
  have hb2:Below w1.heap.size w1 W2:=by rw[hW2];exact zA (zR _) _
  have hsz2:w1.heap.size<W2.heap.size:=by rw[hW2];simp
  have X2:T (W2.heap[w1.heap.size]?=N (Z #[Q kR,I J 0,I J rf,I J rr,I J mp,I J ms,I J mf,I J mr,Q rd] 330 (0,0))):=by rw[T,hW2];exact kI _ _
  have P1:T _:=(HW.out.yl7 hk1 HOK.out hc1.but HNE.out).grow hb2;have Q1:T (zh W2 bf S' Ff1):=hf1.keep (G:=fun _=>False) (But.yhl hb2) (fun _ _=>id);have B1:T (But (fun j=>crF b bk Ft j\/Ff j) w W2):=((But.yhl HB.out).trans hc1.but (fun _ _ h=>h.elim (fun e=> .inl (.inr (.inl e))) .inr)).trans (But.yhl (F:=fun _=>False) hb2) (fun _ _ h=>h.elim);have F1:T (∀j,Ff1 j->Ff j\/w.heap.size<j):=fun j hj=>(hF1 j hj).imp id (fun h=>by omega);have N1:T (∀j,crF b bk Ft j->¬Ff1 j):=fun j hj hf=>(hF1 j hf).elim (HNE.out j hj) (fun h=>by have:=HW.out.lt hj;omega);have hs1:W.heap.size<=w1.heap.size:=hc1.but.size;have L1:T (∀j,Ff1 j->j<w1.heap.size):=fun j hj=>hf1.lt hj;have R1:T (W2.heap[w.heap.size]?=N (Z #[I J 0,I J 0,I J 0] 71 (0,0))):=(hb2.block _ (by omega)).trans ((hc1.but.block _ hWs hnx).trans R3.out)
  have hr1:w.heap.size<w1.heap.size:=by omega
  clear hk1 hf1 hc1 hF1 HS HW HFW R3 HB HNE c1 hb2
  go_wp2_with fail
  rw[<-hW2];clear hW2;obtain⟨⟨x0,x1,x2,x3,x4,x5,x6,x7,x8⟩,xf⟩:=ybx X2.out;have g0:=Y P1.out.c0;have g4:=Y x4;have g5:=Y x5;have g6:=Y x6;have g7:=Y x7;have g8:=Y x8;clear x0 x1 x2 x3 x4 x5 x6 x7 x8 xf;refine Loose.yhn 6 (by kernel_rfl) (by kernel_rfl) ?_;simp only[O,y,M,z]
  repeat (
   refine Loose.zS (fun k hk=> ?_)
   go_simp
   (refine hk _ ?_;clear hk k))
  refine Loose.yho ?_;intro w3 hb3;have P3:T _:=P1.out.grow hb3;have Q3:T (zh w3 bf S' Ff1):=Q1.out.keep (G:=fun _=>False) (But.yhl hb3) (fun _ _=>id);have B3:T (But (fun j=>crF b bk Ft j\/Ff j) w w3):=B1.out.trans (But.yhl (F:=fun _=>False) hb3) (fun _ _ h=>h.elim);have X3:T (w3.heap[w1.heap.size]?=_):=(hb3.block _ hsz2).trans X2.out;have R3:T (w3.heap[w.heap.size]?=_):=(hb3.block _ (by omega)).trans R1.out;have hs3:=hb3.size;clear hb3 g0 g4 g5 g6 g7 g8 P1 Q1 B1 X2 R1
  go_wp2_with fail
  refine(HP _ P3.out.tb).mono ?_;rintro e w4 ⟨rfl,Ft',ht,hc,hF⟩;have P4:T _:=P3.out.stepT ht hc.but hF;have Q4:T (zh w4 bf S' Ff1):=Q3.out.keep hc.but (fun k hk hf=>N1.out k (.inr (.inr hf)) hk);have B4:T (But (fun j=>crF b bk Ft j\/Ff j) w w4):=B3.out.trans hc.but (fun _ _ h=> .inl (.inr (.inr h)))
  have F4:T (∀k,crF b bk Ft' k->crF b bk Ft k\/w1.heap.size<k):=fun k hk=>by
   rcases hk with hk|hk|hk
   ·exact .inl (.inl hk)
   ·exact .inl (.inr (.inl hk))
   ·exact(hF k hk).imp (fun h=> .inr (.inr h)) (fun h=>by omega)
  have n1:¬Ft w1.heap.size:=fun hf=>by have:=HLT.out _ (.inr (.inr hf));omega
  have n2:¬Ft w.heap.size:=fun hf=>by have:=HLT.out _ (.inr (.inr hf));omega
  obtain⟨⟨z0,z1,z2⟩,zf⟩:=ydn ((hc.but.block _ (by omega) n2).trans R3.out);obtain⟨⟨x0,x1,x2,x3,x4,x5,x6,x7,x8⟩,xf⟩:=ybx ((hc.but.block _ (by omega) n1).trans X3.out)
  have hr4:w.heap.size<w4.heap.size:=by have:=hc.but.size;omega
  have hx4:w1.heap.size<w4.heap.size:=by have:=hc.but.size;omega
  have fin:T (∀Wf,But (fun j=>j=w.heap.size) w4 Wf->∃F' Ff',xY Wf b root ⟨L',K'⟩ F'/\zh Wf bf S' Ff'/\But (fun j=>crF b bk Ft j\/Ff j) w Wf/\(∀j,F' j->crF b bk Ft j\/w.heap.size<=j)/\(∀j,Ff' j->Ff j\/w.heap.size<=j)/\∀j,F' j->¬Ff' j):=fun Wf hb=>
   ⟨_,Ff1,⟨_,_,_,P4.out.keep hb fun k hk e=>(F4.out k hk).elim (fun h=>by have:=HLT.out k h;omega) (fun h=>by omega),rfl⟩,Q4.out.keep hb fun k hk e=>(F1.out k hk).elim (fun h=>hnx (.inr (e▸h))) (fun h=>by omega),B4.out.trans hb (fun i hi e=>by omega),fun j hj=>(F4.out j hj).imp id (fun h=>by omega),fun j hj=>(F1.out j hj).imp id (fun h=>by omega),fun j hj hf=>(F4.out j hj).elim (fun h=>N1.out j h hf) (fun h=>by have:=L1.out j hf;omega)⟩
  clear ht hc hF P3 Q3 B3 X3 R3 P4 Q4 B4 F1 N1 L1 F4 HP n1 n2
  have hne1:w.heap.size≠w1.heap.size:=by omega
  go_wp2_with fail
  go_region
  go_wp2_with fail
  refine A (v:=kP #[kB #[I J 0,I J rf,I J rr],Q kR,I J cd]) ?_ rfl ⟨rfl,fin.out _ ((qE (But.refl (fun j=>j=w.heap.size) w4) _ (.inr rfl) _ _ _).drew)⟩;simp[results,Tryz.results185,go_sem,z0,z1,z2,hr4]
end
section
variable {b:Nat} {root:Int} {C:Pg.Cr} {F:Nat->Prop}
theorem yb2 (q k:Int) (u:Bool) (hc:Pg.zK q k≠0) (w:kS) (h:xY w b root C F):
 kC U 184 #[E (N ⟨b,0,B⟩),kB #[I J q,I J k,Q u]] w fun e w'=>e=kJ (Pg.Tl.code (Pg.zK q k)).val/\Below w.heap.size w w':=by
 have HC:=fun w=>zw q k u w
 have hcn:(Pg.zK q k !=0)=kR:=by simpa using hc
 clear hc h;generalize Pg.zK q k=c at*;simp only[Pg.Tl.code,Pg.Tl.val]
 go_enter Tryz.func184,Tryz.ntmps184
 go_wp2_with fail
 refine(HC _).mono ?_;rintro e w1 ⟨rfl,hb1⟩;have hr:∀p,w1.cell? ⟨w.heap.size+1,p,B⟩=_:=fun p=>hb1.cell (p:=⟨w.heap.size+1,p,B⟩) (by simp);have hf:∀p,w1.frozen? ⟨w.heap.size+1,p,B⟩=_:=fun p=>hb1.frozen (p:=⟨w.heap.size+1,p,B⟩) (by simp);have HB1:T (Below w.heap.size w w1):=zT (zA (zA (zR w) _) _) hb1;clear hb1 HC
 go_wp2_with fail
 refine A (v:=kP #[kB #[I J 0,I J 0,I J 0],Q D,I J c]) ?_ rfl ⟨rfl,xO HB1.out _ (kN _) _ _ _⟩;simp[results,Tryz.results184,go_sem,hr]
theorem ya7 (q k:Int) (u:Bool) (hc:Pg.zK q k=0) (w:kS) (h:xY w b root C F) (ho:C.K.on=kR):
 kC U 184 #[E (N ⟨b,0,B⟩),kB #[I J q,I J k,Q u]] w fun e w'=>e=kJ (Pg.Tl.code 8).val/\Below w.heap.size w w':=by
 have HC:=fun w=>zw q k u w;rw[hc]at HC;have HO:=fun w' (hb:Below w.heap.size w w')=>qe w' (h.grow hb);rw[ho]at HO;clear hc h ho;simp only[Pg.Tl.code,Pg.Tl.val]
 go_enter Tryz.func184,Tryz.ntmps184
 go_wp2_with fail
 refine(HC _).mono ?_;rintro e w1 ⟨rfl,hb1⟩;have hr:∀p,w1.cell? ⟨w.heap.size+1,p,B⟩=_:=fun p=>hb1.cell (p:=⟨w.heap.size+1,p,B⟩) (by simp);have hf:∀p,w1.frozen? ⟨w.heap.size+1,p,B⟩=_:=fun p=>hb1.frozen (p:=⟨w.heap.size+1,p,B⟩) (by simp);have HB1:T (Below w.heap.size w w1):=zT (zA (zA (zR w) _) _) hb1;clear hb1 HC
 go_wp2_with fail
 refine(HO _ HB1.out).mono ?_;rintro e w2 ⟨rfl,hw2⟩;subst w2;clear HO
 go_wp2_with fail
 refine A (v:=kP #[kB #[I J 0,I J 0,I J 0],Q D,I J 8]) ?_ rfl ⟨rfl,xO HB1.out _ (kN _) _ _ _⟩;simp[results,Tryz.results184,go_sem,hr]
theorem ya8 (q k:Int) (u:Bool) (hc:Pg.zK q k=0) (w:kS) (h:xY w b root C F) (ho:C.K.on=D) (hn:Pg.kFnd C.L q=B):
 kC U 184 #[E (N ⟨b,0,B⟩),kB #[I J q,I J k,Q u]] w fun e w'=>e=kJ (Pg.Tl.code 0).val/\xY w' b root ⟨C.L,Pg.Wk.start root q k u⟩ F/\But F w w':=by
 have HC:=fun w=>zw q k u w;rw[hc]at HC;have HO:=fun w' (hb:Below w.heap.size w w')=>qe w' (h.grow hb);rw[ho]at HO;obtain⟨bt,bk,Ft,h,rfl⟩:=h;have HFi:=fun w' (ht:jy w' bt 0 C.L Ft)=>jM q (Pg.yiY hc) w' ht
 have e1:Pg.kAt C.L q= .zz:=by simp only[Pg.kAt,hn]
 rw[e1,hn,show(.zz:Pg.Ln).val=kB #[I J 0,I J 0,I J 0,I J 0,Q D]from rfl,show(none:Option Nat).isSome=D from rfl]at HFi
 have e2:ydA C.K q k=0:=by simp[ydA,hc,ho]
 have e3:ydF root C.K q k u=Pg.Wk.start root q k u:=by simp[ydF,e2]
 have HBg:=fun w' (hk:zI w' bk 0 root C.K)=>yaw h.ok q k u w' hk;rw[e2,e3]at HBg;have HOK:T _:=Pg.Wk.ykl (root:=root) (k:=k) (u:=u) (Pg.yid hc);clear hc ho e1 e2 e3 hn;simp only[Pg.Tl.code,Pg.Tl.val];have hl:=h.lb;have HX:T _:=h;have HLT:T (∀j,crF b bk Ft j->j<w.heap.size):=fun j hj=>h.lt hj
 go_enter Tryz.func184,Tryz.ntmps184
 go_wp2_with fail
 refine(HC _).mono ?_;rintro e w1 ⟨rfl,hb1⟩;have ha:∀p,w1.cell? ⟨w.heap.size,p,B⟩=_:=fun p=>hb1.cell (p:=⟨w.heap.size,p,B⟩) (by simp;omega);have HR:T (w1.heap[w.heap.size+1]?=N (Z #[I J 0,I J 0,I J 0] 71 (0,0))):=(hb1.block _ (by simp)).trans ((by simp:(w.alloc (Z #[I J q,I J k,Q u] 78)).heap.size=w.heap.size+1)▸kI _ _);have HB1:T (Below w.heap.size w w1):=zT (zA (zA (zR w) _) _) hb1
 have hs1:w.heap.size+1<w1.heap.size:=by have:=hb1.size;simp at this;omega
 clear hb1 HC h
 go_wp2_with fail
 refine(HO _ HB1.out).mono ?_;rintro e w2 ⟨rfl,hw2⟩;subst w2;clear HO;have P1:T _:=HX.out.grow HB1.out;have A1:T (w1.cell? ⟨w.heap.size,0,B⟩=N (I J q)/\w1.cell? ⟨w.heap.size,1,B⟩=N (I J k)/\w1.cell? ⟨w.heap.size,2,B⟩=N (Q u)):=⟨(ha 0).trans (by simp[go_sem]),(ha 1).trans (by simp[go_sem]),(ha 2).trans (by simp[go_sem])⟩;have g0:=Y P1.out.c0;have g1:=Y A1.out.1;have HFj:=fun d os=>HFi _ (P1.out.grow (below_regrown w1 d os)).tb;clear HX ha HFi
 go_wp2_with fail
 refine Loose.yhL 10 [9] 8 (Z #[I J 0,I J 0,I J 0,I J 0,Q D] 159) _ (by kernel_rfl) (by kernel_rfl) (by intro i o hi ho;simp only[H]at hi;subst hi;cases ho;exact Loose.yiF rfl) rfl rfl rfl (by intro a w;simp[go_sem]) (by intro d v c a w h;cases d<;>exact h) ?_
 simp only[O,y,M,z]
 repeat (
  refine Loose.zS (fun k hk=> ?_)
  go_simp
  first
   | (refine hk _ ?_;clear hk k)
   | (apply Exists.intro
      refine⟨fun _=> ?_,hk _ ?_⟩
      (go_at_call 222;exact Loose.calls (HFj _ _))
      clear hk k))
 refine Loose.yho ?_;intro bl w3 hb3 hbl hX;have hxl:bl<w3.heap.size:=(X.1 hX).1
 have cb:w3.cell? ⟨bl,0,B⟩=N (I J 0)/\w3.cell? ⟨bl,1,B⟩=N (I J 0)/\w3.cell? ⟨bl,2,B⟩=N (I J 0)/\w3.cell? ⟨bl,3,B⟩=N (I J 0)/\w3.cell? ⟨bl,4,B⟩=N (Q D):=by
  simp[World.cell?,hX]
 obtain⟨cb0,cb1,cb2,cb3,cb4⟩:=cb
 have fb:∀i,w3.frozen? ⟨bl,i,B⟩=D:=fun i=>by simp[World.frozen?,hX]
 obtain⟨W4,hW4⟩:∃W4,W4=((((w3.setCell ⟨bl,0,B⟩ (I J 0)).setCell ⟨bl,1,B⟩ (I J 0)).setCell ⟨bl,2,B⟩ (I J 0)).setCell ⟨bl,3,B⟩ (I J 0)).setCell ⟨bl,4,B⟩ (Q D):=⟨_,rfl⟩
 have hB4:Below w1.heap.size w1 W4:=by rw[hW4];exact qd hb3 _ hbl _ _ _ _ _
 have L4:T (W4.cell? ⟨bl,0,B⟩=N (I J 0)/\W4.cell? ⟨bl,1,B⟩=N (I J 0)/\W4.cell? ⟨bl,2,B⟩=N (I J 0)/\W4.cell? ⟨bl,3,B⟩=N (I J 0)/\W4.cell? ⟨bl,4,B⟩=N (Q D)):=by
  rw[T,hW4];simp[go_sem,cb0,cb1,cb2,cb3,cb4]
 have P4:T _:=P1.out.grow hB4;have HB4:T (Below w.heap.size w W4):=zT HB1.out hB4;have A4:T _:=vu hB4 A1.out;have R4:T (W4.heap[w.heap.size+1]?=N (Z #[I J 0,I J 0,I J 0] 71 (0,0))):=(hB4.block _ hs1).trans HR.out;have hs4:w.heap.size+1<W4.heap.size:=V hs1 hB4.size;clear g0 g1 HFj P1 A1 HB1 HR hB4 hX hb3
 go_wp2_with fail
 rw[<-hW4];clear hW4 cb0 cb1 cb2 cb3 cb4 fb;have A5:T _:=A4.out;have g0:=Y P4.out.c1;have g1:=Y A4.out.1;have g2:=Y A4.out.2.1;have g3:=Y A4.out.2.2
 refine Loose.yiM 6 [0] (by kernel_rfl) (by kernel_rfl) (by intro i o hi ho;simp only[H]at hi;subst hi;cases ho;exact fun e w=> .inl ⟨kB #[I J 0,I J 0,I J 0],fun w'=>by simp[execOp,go_sem]⟩) (by intro d v c a w h;cases d<;>exact h) ?_
 simp only[O,y,M,z]
 repeat (
  refine Loose.zS (fun k hk=> ?_)
  go_simp
  (refine hk _ ?_;clear hk k))
 refine Loose.yho ?_;intro w5 hb5;have P5:T _:=P4.out.grow hb5;have HB5:T (Below w.heap.size w w5):=zT HB4.out hb5;have R5:T (w5.heap[w.heap.size+1]?=_):=(hb5.block _ hs4).trans R4.out;have hs5:w.heap.size+1<w5.heap.size:=V hs4 hb5.size;clear hb5 g0 g1 g2 g3 P4 HB4 R4 A4 A5
 go_wp2_with fail
 refine(HBg _ P5.out.wk).mono ?_;rintro e w6 ⟨rfl,hk6,hc6⟩
 have nbk:¬w.heap.size+1=bk:=fun e=>by have:=HLT.out bk (.inr (.inl rfl));omega
 have P6:T _:=P5.out.yl1 hk6 HOK.out hc6.but;have HB6:T (But (crF b bk Ft) w w6):=(But.yhl HB5.out).trans hc6.but (fun _ _ h=> .inr (.inl h));have R6:=(hc6.but.block _ hs5 nbk).trans R5.out;obtain⟨⟨z0,z1,z2⟩,zf⟩:=ydn R6;have hs6:w.heap.size+1<w6.heap.size:=V hs5 hc6.but.size
 have fin:T (∀Wf,But (fun j=>j=w.heap.size+1) w6 Wf->xY Wf b root ⟨C.L,Pg.Wk.start root q k u⟩ (crF b bk Ft)/\But (crF b bk Ft) w Wf):=fun Wf hb=>
  ⟨⟨_,_,_,P6.out.keep hb fun k hk e=>by have:=HLT.out k hk;omega,rfl⟩,HB6.out.trans hb (fun i hi e=>by omega)⟩
 clear hk6 hc6 R5 R6 P5 HB5 P6 HB6 HBg
 go_wp2_with fail
 refine A (v:=kP #[kB #[I J 0,I J 0,I J 0],Q D,I J 0]) ?_ rfl ⟨rfl,fin.out _ (qE (But.refl (fun j=>j=w.heap.size+1) w6) _ (.inr rfl) _ _ _)⟩;simp[results,Tryz.results184,go_sem,z0,z1,z2,hs6]
theorem yaI (q k:Int) (u:Bool) (hc:Pg.zK q k=0) (w:kS) (h:xY w b root C F) (ho:C.K.on=D) (hn:(Pg.kFnd C.L q).isSome=kR) (hwt:(Pg.kAt C.L q).wants k u=kR):
 kC U 184 #[E (N ⟨b,0,B⟩),kB #[I J q,I J k,Q u]] w fun e w'=>e=kJ (Pg.Tl.code 0).val/\xY w' b root ⟨C.L,Pg.Wk.start root q k u⟩ F/\But F w w':=by
 have HC:=fun w=>zw q k u w;rw[hc]at HC;have HO:=fun w' (hb:Below w.heap.size w w')=>qe w' (h.grow hb);rw[ho]at HO;obtain⟨bt,bk,Ft,h,rfl⟩:=h;have HFi:=fun w' (ht:jy w' bt 0 C.L Ft)=>jM q (Pg.yiY hc) w' ht;have HWm:=fun w=>jx (Pg.kAt C.L q) q k u w;rw[hwt]at HWm;rw[hn]at HFi
 have e2:ydA C.K q k=0:=by simp[ydA,hc,ho]
 have e3:ydF root C.K q k u=Pg.Wk.start root q k u:=by simp[ydF,e2]
 have HBg:=fun w' (hk:zI w' bk 0 root C.K)=>yaw h.ok q k u w' hk;rw[e2,e3]at HBg;have HOK:T _:=Pg.Wk.ykl (root:=root) (k:=k) (u:=u) (Pg.yid hc);clear hc ho e2 e3 hn hwt;generalize Pg.kAt C.L q=l at*;obtain⟨⟨mp,ms,mf,mr⟩,ld⟩:=l;simp only[Pg.Ln.val]at HFi HWm;simp only[Pg.Tl.code,Pg.Tl.val];have hl:=h.lb;have HX:T _:=h;have HLT:T (∀j,crF b bk Ft j->j<w.heap.size):=fun j hj=>h.lt hj
 go_enter Tryz.func184,Tryz.ntmps184
 go_wp2_with fail
 refine(HC _).mono ?_;rintro e w1 ⟨rfl,hb1⟩;have ha:∀p,w1.cell? ⟨w.heap.size,p,B⟩=_:=fun p=>hb1.cell (p:=⟨w.heap.size,p,B⟩) (by simp;omega);have HR:T (w1.heap[w.heap.size+1]?=N (Z #[I J 0,I J 0,I J 0] 71 (0,0))):=(hb1.block _ (by simp)).trans ((by simp:(w.alloc (Z #[I J q,I J k,Q u] 78)).heap.size=w.heap.size+1)▸kI _ _);have HB1:T (Below w.heap.size w w1):=zT (zA (zA (zR w) _) _) hb1
 have hs1:w.heap.size+1<w1.heap.size:=by have:=hb1.size;simp at this;omega
 clear hb1 HC h
 go_wp2_with fail
 refine(HO _ HB1.out).mono ?_;rintro e w2 ⟨rfl,hw2⟩;subst w2;clear HO;have P1:T _:=HX.out.grow HB1.out;have A1:T (w1.cell? ⟨w.heap.size,0,B⟩=N (I J q)/\w1.cell? ⟨w.heap.size,1,B⟩=N (I J k)/\w1.cell? ⟨w.heap.size,2,B⟩=N (Q u)):=⟨(ha 0).trans (by simp[go_sem]),(ha 1).trans (by simp[go_sem]),(ha 2).trans (by simp[go_sem])⟩;have g0:=Y P1.out.c0;have g1:=Y A1.out.1;have HFj:=fun d os=>HFi _ (P1.out.grow (below_regrown w1 d os)).tb;clear HX ha HFi
 go_wp2_with fail
 refine Loose.yhL 10 [9] 8 (Z #[I J 0,I J 0,I J 0,I J 0,Q D] 159) _ (by kernel_rfl) (by kernel_rfl) (by intro i o hi ho;simp only[H]at hi;subst hi;cases ho;exact Loose.yiF rfl) rfl rfl rfl (by intro a w;simp[go_sem]) (by intro d v c a w h;cases d<;>exact h) ?_
 simp only[O,y,M,z]
 repeat (
  refine Loose.zS (fun k hk=> ?_)
  go_simp
  first
   | (refine hk _ ?_;clear hk k)
   | (apply Exists.intro
      refine⟨fun _=> ?_,hk _ ?_⟩
      (go_at_call 222;exact Loose.calls (HFj _ _))
      clear hk k))
 refine Loose.yho ?_;intro bl w3 hb3 hbl hX;have hxl:bl<w3.heap.size:=(X.1 hX).1
 have cb:w3.cell? ⟨bl,0,B⟩=N (I J 0)/\w3.cell? ⟨bl,1,B⟩=N (I J 0)/\w3.cell? ⟨bl,2,B⟩=N (I J 0)/\w3.cell? ⟨bl,3,B⟩=N (I J 0)/\w3.cell? ⟨bl,4,B⟩=N (Q D):=by
  simp[World.cell?,hX]
 obtain⟨cb0,cb1,cb2,cb3,cb4⟩:=cb
 have fb:∀i,w3.frozen? ⟨bl,i,B⟩=D:=fun i=>by simp[World.frozen?,hX]
 obtain⟨W4,hW4⟩:∃W4,W4=((((w3.setCell ⟨bl,0,B⟩ (I J mp)).setCell ⟨bl,1,B⟩ (I J ms)).setCell ⟨bl,2,B⟩ (I J mf)).setCell ⟨bl,3,B⟩ (I J mr)).setCell ⟨bl,4,B⟩ (Q ld):=⟨_,rfl⟩
 have hB4:Below w1.heap.size w1 W4:=by rw[hW4];exact qd hb3 _ hbl _ _ _ _ _
 have L4:T (W4.cell? ⟨bl,0,B⟩=N (I J mp)/\W4.cell? ⟨bl,1,B⟩=N (I J ms)/\W4.cell? ⟨bl,2,B⟩=N (I J mf)/\W4.cell? ⟨bl,3,B⟩=N (I J mr)/\W4.cell? ⟨bl,4,B⟩=N (Q ld)):=by
  rw[T,hW4];simp[go_sem,cb0,cb1,cb2,cb3,cb4]
 have P4:T _:=P1.out.grow hB4;have HB4:T (Below w.heap.size w W4):=zT HB1.out hB4;have A4:T _:=vu hB4 A1.out;have R4:T (W4.heap[w.heap.size+1]?=N (Z #[I J 0,I J 0,I J 0] 71 (0,0))):=(hB4.block _ hs1).trans HR.out;have hs4:w.heap.size+1<W4.heap.size:=V hs1 hB4.size;clear g0 g1 HFj P1 A1 HB1 HR hB4 hX hb3
 go_upto_region 7 with fail
 rw[<-hW4];clear hW4 cb0 cb1 cb2 cb3 cb4 fb;obtain⟨a0,a1,a2⟩:=A4.out;obtain⟨l0,l1,l2,l3,l4⟩:=L4.out
 go_wp2_with fail
 refine(HWm _).mono ?_;rintro e W6 ⟨rfl,hb6⟩;have P7:T _:=P4.out.grow hb6;have HB7:T (Below w.heap.size w W6):=zT HB4.out hb6;have A7:T _:=vu hb6 A4.out;have R7:T (W6.heap[w.heap.size+1]?=_):=(hb6.block _ hs4).trans R4.out;have hs7:w.heap.size+1<W6.heap.size:=V hs4 hb6.size;have L7:T (ydz W6 bl 0 ⟨⟨mp,ms,mf,mr⟩,ld⟩):=ydz.below (w:=W4) ⟨l0,l1,l2,l3,l4⟩ hb6 (World.block_lt_of_cell? _ _ l0);clear P4 HB4 A4 R4 hs4 L4 hb6 a0 a1 a2 l0 l1 l2 l3 l4 HWm
 go_wp2_with fail
 have A5:T _:=A7.out;have g0:=Y P7.out.c1;have g1:=Y A7.out.1;have g2:=Y A7.out.2.1;have g3:=Y A7.out.2.2
 refine Loose.yiM 6 [0] (by kernel_rfl) (by kernel_rfl) (by intro i o hi ho;simp only[H]at hi;subst hi;cases ho;exact fun e w=> .inl ⟨kB #[I J 0,I J 0,I J 0],fun w'=>by simp[execOp,go_sem]⟩) (by intro d v c a w h;cases d<;>exact h) ?_
 simp only[O,y,M,z]
 repeat (
  refine Loose.zS (fun k hk=> ?_)
  go_simp
  (refine hk _ ?_;clear hk k))
 refine Loose.yho ?_;intro w5 hb5;have P5:T _:=P7.out.grow hb5;have HB5:T (Below w.heap.size w w5):=zT HB7.out hb5;have R5:T (w5.heap[w.heap.size+1]?=_):=(hb5.block _ hs7).trans R7.out;have hs5:w.heap.size+1<w5.heap.size:=V hs7 hb5.size;clear hb5 g0 g1 g2 g3 P7 HB7 R7 A7 A5
 go_wp2_with fail
 refine(HBg _ P5.out.wk).mono ?_;rintro e w6 ⟨rfl,hk6,hc6⟩
 have nbk:¬w.heap.size+1=bk:=fun e=>by have:=HLT.out bk (.inr (.inl rfl));omega
 have P6:T _:=P5.out.yl1 hk6 HOK.out hc6.but;have HB6:T (But (crF b bk Ft) w w6):=(But.yhl HB5.out).trans hc6.but (fun _ _ h=> .inr (.inl h));have R6:=(hc6.but.block _ hs5 nbk).trans R5.out;obtain⟨⟨z0,z1,z2⟩,zf⟩:=ydn R6;have hs6:w.heap.size+1<w6.heap.size:=V hs5 hc6.but.size
 have fin:T (∀Wf,But (fun j=>j=w.heap.size+1) w6 Wf->xY Wf b root ⟨C.L,Pg.Wk.start root q k u⟩ (crF b bk Ft)/\But (crF b bk Ft) w Wf):=fun Wf hb=>
  ⟨⟨_,_,_,P6.out.keep hb fun k hk e=>by have:=HLT.out k hk;omega,rfl⟩,HB6.out.trans hb (fun i hi e=>by omega)⟩
 clear hk6 hc6 R5 R6 P5 HB5 P6 HB6 HBg
 go_wp2_with fail
 refine A (v:=kP #[kB #[I J 0,I J 0,I J 0],Q D,I J 0]) ?_ rfl ⟨rfl,fin.out _ (qE (But.refl (fun j=>j=w.heap.size+1) w6) _ (.inr rfl) _ _ _)⟩;simp[results,Tryz.results184,go_sem,z0,z1,z2,hs6]
theorem yb3 (q k:Int) (u:Bool) (hc:Pg.zK q k=0) (w:kS) (h:xY w b root C F) (ho:C.K.on=D) (hn:(Pg.kFnd C.L q).isSome=kR) (hwt:(Pg.kAt C.L q).wants k u=D):
 kC U 184 #[E (N ⟨b,0,B⟩),kB #[I J q,I J k,Q u]] w fun e w'=>e=kJ ((Pg.kAt C.L q).ans q k u).val/\Below w.heap.size w w':=by
 have HC:=fun w=>zw q k u w;rw[hc]at HC;have HO:=fun w' (hb:Below w.heap.size w w')=>qe w' (h.grow hb);rw[ho]at HO;obtain⟨bt,bk,Ft,h,rfl⟩:=h;have HFi:=fun w' (ht:jy w' bt 0 C.L Ft)=>jM q (Pg.yiY hc) w' ht;have HWm:=fun w=>jx (Pg.kAt C.L q) q k u w;rw[hwt]at HWm;rw[hn]at HFi;have HAn:=fun w=>jB (Pg.kAt C.L q).m.p (Pg.kAt C.L q).m.s (Pg.kAt C.L q).m.f (Pg.kAt C.L q).m.r q k u w;clear hc ho hn hwt;generalize Pg.kAt C.L q=l at*;obtain⟨⟨mp,ms,mf,mr⟩,ld⟩:=l;simp only[Pg.Ln.val]at HFi HWm;simp only[Pg.Ln.ans,Pg.Tl.val];simp only at HAn;generalize Pg.aEnd mr k u=ra at*;generalize Pg.yij mp mf mr q k u=rf at*;generalize Pg.yhV mr k u=rr at*;have hl:=h.lb;have HX:T _:=h;have HLT:T (∀j,crF b bk Ft j->j<w.heap.size):=fun j hj=>h.lt hj
 go_enter Tryz.func184,Tryz.ntmps184
 go_wp2_with fail
 refine(HC _).mono ?_;rintro e w1 ⟨rfl,hb1⟩;have ha:∀p,w1.cell? ⟨w.heap.size,p,B⟩=_:=fun p=>hb1.cell (p:=⟨w.heap.size,p,B⟩) (by simp;omega);have HR:T (w1.heap[w.heap.size+1]?=N (Z #[I J 0,I J 0,I J 0] 71 (0,0))):=(hb1.block _ (by simp)).trans ((by simp:(w.alloc (Z #[I J q,I J k,Q u] 78)).heap.size=w.heap.size+1)▸kI _ _);have HB1:T (Below w.heap.size w w1):=zT (zA (zA (zR w) _) _) hb1
 have hs1:w.heap.size+1<w1.heap.size:=by have:=hb1.size;simp at this;omega
 clear hb1 HC h
 go_wp2_with fail
 refine(HO _ HB1.out).mono ?_;rintro e w2 ⟨rfl,hw2⟩;subst w2;clear HO;have P1:T _:=HX.out.grow HB1.out;have A1:T (w1.cell? ⟨w.heap.size,0,B⟩=N (I J q)/\w1.cell? ⟨w.heap.size,1,B⟩=N (I J k)/\w1.cell? ⟨w.heap.size,2,B⟩=N (Q u)):=⟨(ha 0).trans (by simp[go_sem]),(ha 1).trans (by simp[go_sem]),(ha 2).trans (by simp[go_sem])⟩;have g0:=Y P1.out.c0;have g1:=Y A1.out.1;have HFj:=fun d os=>HFi _ (P1.out.grow (below_regrown w1 d os)).tb;clear HX ha HFi
 go_wp2_with fail
 refine Loose.yhL 10 [9] 8 (Z #[I J 0,I J 0,I J 0,I J 0,Q D] 159) _ (by kernel_rfl) (by kernel_rfl) (by intro i o hi ho;simp only[H]at hi;subst hi;cases ho;exact Loose.yiF rfl) rfl rfl rfl (by intro a w;simp[go_sem]) (by intro d v c a w h;cases d<;>exact h) ?_
 simp only[O,y,M,z]
 repeat (
  refine Loose.zS (fun k hk=> ?_)
  go_simp
  first
   | (refine hk _ ?_;clear hk k)
   | (apply Exists.intro
      refine⟨fun _=> ?_,hk _ ?_⟩
      (go_at_call 222;exact Loose.calls (HFj _ _))
      clear hk k))
 refine Loose.yho ?_;intro bl w3 hb3 hbl hX;have hxl:bl<w3.heap.size:=(X.1 hX).1
 have cb:w3.cell? ⟨bl,0,B⟩=N (I J 0)/\w3.cell? ⟨bl,1,B⟩=N (I J 0)/\w3.cell? ⟨bl,2,B⟩=N (I J 0)/\w3.cell? ⟨bl,3,B⟩=N (I J 0)/\w3.cell? ⟨bl,4,B⟩=N (Q D):=by
  simp[World.cell?,hX]
 obtain⟨cb0,cb1,cb2,cb3,cb4⟩:=cb
 have fb:∀i,w3.frozen? ⟨bl,i,B⟩=D:=fun i=>by simp[World.frozen?,hX]
 obtain⟨W4,hW4⟩:∃W4,W4=((((w3.setCell ⟨bl,0,B⟩ (I J mp)).setCell ⟨bl,1,B⟩ (I J ms)).setCell ⟨bl,2,B⟩ (I J mf)).setCell ⟨bl,3,B⟩ (I J mr)).setCell ⟨bl,4,B⟩ (Q ld):=⟨_,rfl⟩
 have hB4:Below w1.heap.size w1 W4:=by rw[hW4];exact qd hb3 _ hbl _ _ _ _ _
 have L4:T (W4.cell? ⟨bl,0,B⟩=N (I J mp)/\W4.cell? ⟨bl,1,B⟩=N (I J ms)/\W4.cell? ⟨bl,2,B⟩=N (I J mf)/\W4.cell? ⟨bl,3,B⟩=N (I J mr)/\W4.cell? ⟨bl,4,B⟩=N (Q ld)):=by
  rw[T,hW4];simp[go_sem,cb0,cb1,cb2,cb3,cb4]
 have P4:T _:=P1.out.grow hB4;have HB4:T (Below w.heap.size w W4):=zT HB1.out hB4;have A4:T _:=vu hB4 A1.out;have R4:T (W4.heap[w.heap.size+1]?=N (Z #[I J 0,I J 0,I J 0] 71 (0,0))):=(hB4.block _ hs1).trans HR.out;have hs4:w.heap.size+1<W4.heap.size:=V hs1 hB4.size;clear g0 g1 HFj P1 A1 HB1 HR hB4 hX hb3
 go_upto_region 7 with fail
 rw[<-hW4];clear hW4 cb0 cb1 cb2 cb3 cb4 fb;obtain⟨a0,a1,a2⟩:=A4.out;obtain⟨l0,l1,l2,l3,l4⟩:=L4.out
 go_wp2_with fail
 refine(HWm _).mono ?_;rintro e W6 ⟨rfl,hb6⟩;have P7:T _:=P4.out.grow hb6;have HB7:T (Below w.heap.size w W6):=zT HB4.out hb6;have A7:T _:=vu hb6 A4.out;have R7:T (W6.heap[w.heap.size+1]?=_):=(hb6.block _ hs4).trans R4.out;have hs7:w.heap.size+1<W6.heap.size:=V hs4 hb6.size;have L7:T (ydz W6 bl 0 ⟨⟨mp,ms,mf,mr⟩,ld⟩):=ydz.below (w:=W4) ⟨l0,l1,l2,l3,l4⟩ hb6 (World.block_lt_of_cell? _ _ l0);clear P4 HB4 A4 R4 hs4 L4 hb6 a0 a1 a2 l0 l1 l2 l3 l4 HWm;obtain⟨a0,a1,a2⟩:=A7.out;obtain⟨l0,l1,l2,l3,l4⟩:=L7.out;simp only[Nat.zero_add]at l0 l1 l2 l3 l4
 go_wp2_with fail
 refine(HAn _).mono ?_;rintro e w8 ⟨rfl,hb8⟩;obtain⟨⟨z0,z1,z2⟩,zf⟩:=ydn ((hb8.block _ hs7).trans R7.out);have hs8:w.heap.size+1<w8.heap.size:=V hs7 hb8.size;have HB8:T (Below w.heap.size w w8):=zT HB7.out hb8;clear hb8 HAn P7 A7 R7 L7 a0 a1 a2 l0 l1 l2 l3 l4 HB7
 go_wp2_with fail
 refine A (v:=kP #[kB #[I J ra,I J rf,I J rr],Q kR,I J 0]) ?_ rfl ⟨rfl,xO HB8.out _ (kN _) _ _ _⟩;simp[results,Tryz.results184,go_sem,z0,z1,z2,hs8]
theorem yb1 (q k:Int) (u:Bool) (w:kS) (h:xY w b root C F):
 kC U 184 #[E (N ⟨b,0,B⟩),kB #[I J q,I J k,Q u]] w fun e w'=>e=kJ (C.bgT q k u).val/\xY w' b root (C.bgN root q k u) F/\But F w w':=by
 unfold Pg.Cr.bgT Pg.Cr.bgN
 by_cases hc:Pg.zK q k=0
 ·rw[if_neg (by simp[hc])]
  cases ho:C.K.on
  ·rw[if_neg (by simp)]
   unfold Pg.Cr.hit
   cases hn:Pg.kFnd C.L q with
   | none=>
     rw[if_neg (by simp),if_pos ⟨hc,rfl,by simp⟩];exact ya8 q k u hc w h ho hn
   | some j=>
     cases hwt:(Pg.kAt C.L q).wants k u
     ·rw[if_pos (by simp),if_neg (by simp)]
      exact(yb3 q k u hc w h ho (by simp[hn]) hwt).mono fun e w' ⟨he,hb⟩=>⟨he,h.grow hb,But.yhl hb⟩
     ·rw[if_neg (by simp),if_pos ⟨hc,rfl,by simp⟩]
      exact yaI q k u hc w h ho (by simp[hn]) hwt
  ·rw[if_pos rfl,if_neg (by simp)]
   exact(ya7 q k u hc w h ho).mono fun e w' ⟨he,hb⟩=>⟨he,h.grow hb,But.yhl hb⟩
 ·rw[if_pos (by simpa using hc),if_neg (by simp[hc])]
  exact(yb2 q k u hc w h).mono fun e w' ⟨he,hb⟩=>⟨he,h.grow hb,But.yhl hb⟩
end
end
theorem ycS (w:kS) (p:Addr) (n:Nat):But (fun k=>k=p.block) w (w.freeze p n):=by
 unfold World.freeze;split
 ·exact But.refl _ _
 ·exact⟨rfl,rfl,rfl,by simp,fun k _ hk=>by
   simp only[Array.getElem?_modify]
   rw[if_neg (fun e=>hk e.symm)]⟩
section
variable {w:kS} {b:Nat} {p0:Value} {bs:List UInt8} {F:Nat->Prop}
theorem ydH:Tryz.prog.cellsOf 5=1:=by kernel_rfl
theorem yfh (h:j9 w b p0 bs F):
 kC U 13 #[E (N ⟨b,1,B⟩)] w fun e w'=>e=kJ (.string ⟨bs.toArray⟩)/\But F w w':=by
 obtain⟨p,v,hb,hp,hr,hn,rfl⟩:=h;have hlt:=(X.1 hb).1
 by_cases h0:bs=[]
 ·subst h0
  have hUS:=fun(W:kS) (q:Option Addr)=>Lib.run_unsafeString_none (P:=U) W 63 3 9 q;rcases hr.2 with ⟨rfl,_⟩|⟨g,cap,cur,rfl,hbg,hg,hnc,hcm,hcs,htake⟩
  ·have c1:w.drew.cell? ⟨b,2,B⟩=N (t B 0 0):=by
    have:w.drew.heap[b]?=N (Z #[p0,p,t B 0 0] 52 (0,0)):=hb;rw[Lib.cell_of_heap this];rfl
   have hSD:(Builtin.unsafeSliceData_ #[46] 63 #[t B 0 0]).run U w.drew= .ok (E B) w.drew:=rfl;clear hb hr
   go_enter Tryz.func13,Tryz.ntmps13
   go_wp2
   go_region
   all_goals (go_wp2;go_ret;exact⟨rfl,(But.refl _ _).drew⟩)
  ·by_cases hc0:cap=0
   ·subst hc0
    have hSD:(Builtin.unsafeSliceData_ #[46] 63 #[t (N ⟨g,0,B⟩) 0 0]).run U w.drew= .ok (E (N ⟨w.drew.heap.size,0,B⟩)) (w.drew.alloc (.view ⟨g,0,B⟩ 5)):=
     Lib.run_unsafeSliceData_zero w.drew _ _ 5 Tryz.underlying63 ⟨g,0,B⟩ 0 (5,cur.size) (by have hg':w.drew.heap[g]?=N (Z cur 5 (0,0)):=hg;simp[World.shape?,hg'])
    have c0:w.cell? ⟨b,2,B⟩=N (t (N ⟨g,0,B⟩) 0 0):=by
     rw[Lib.cell_of_heap hb];rfl
    have c1:w.drew.cell? ⟨b,2,B⟩=N (t (N ⟨g,0,B⟩) 0 0):=c0
    have c2:(w.drew.alloc (.view ⟨g,0,B⟩ 5)).cell? ⟨b,2,B⟩=N (t (N ⟨g,0,B⟩) 0 0):=by
     have:(w.drew.alloc (.view ⟨g,0,B⟩ 5)).heap[b]?=_:=(Lib.alloc_old w.drew _ b hlt).trans hb;rw[Lib.cell_of_heap this];rfl
    have c3:(w.alloc (.view ⟨g,0,B⟩ 5)).drew.cell? ⟨b,2,B⟩=N (t (N ⟨g,0,B⟩) 0 0):=c2;clear hb hr
    go_enter Tryz.func13,Tryz.ntmps13
    go_wp2
    go_region
    all_goals (go_wp2;go_ret;exact⟨rfl,((But.refl _ _).drew).alloc _⟩)
   ·have c1:w.drew.cell? ⟨b,2,B⟩=N (t (N ⟨g,0,B⟩) 0 cap):=by
     have:w.drew.heap[b]?=N (Z #[p0,p,t (N ⟨g,0,B⟩) 0 cap] 52 (0,0)):=hb;rw[Lib.cell_of_heap this];rfl
    have hSD:(Builtin.unsafeSliceData_ #[46] 63 #[t (N ⟨g,0,B⟩) 0 cap]).run U w.drew= .ok (E (N ⟨g,0,B⟩)) w.drew:=Lib.run_unsafeSliceData_row _ _ _ _ _ _ hc0;clear hb hr
    go_enter Tryz.func13,Tryz.ntmps13
    go_wp2
    go_region
    all_goals (go_wp2;go_ret;exact⟨rfl,(But.refl _ _).drew⟩)
 ·have hl0:bs.length≠0:=by simpa using h0
  obtain⟨g,cap,cur,rfl,hbg,hg,hnc,hcm,hcs,htake⟩:∃g cap cur,v=t (N ⟨g,0,B⟩) bs.length cap/\0<=g/\w.heap[g]?=N (Z cur 5 (0,0))/\bs.length<=cap/\cap<=maxLen/\cur.size=cap*1/\cur.toList.take (bs.length*1)=Lib.byteCells bs:=by
   rcases hr.2 with ⟨_,hz⟩|⟨g,cap,cur,hv,r⟩
   ·exact absurd hz hl0
   ·exact⟨g,cap,cur,hv,r⟩
  have c1:w.drew.cell? ⟨b,2,B⟩=N (t (N ⟨g,0,B⟩) bs.length cap):=by
   have:w.drew.heap[b]?=N (Z #[p0,p,t (N ⟨g,0,B⟩) bs.length cap] 52 (0,0)):=hb;rw[Lib.cell_of_heap this];rfl
  have hSD:(Builtin.unsafeSliceData_ #[46] 63 #[t (N ⟨g,0,B⟩) bs.length cap]).run U w.drew= .ok (E (N ⟨g,0,B⟩)) w.drew:=
   Lib.run_unsafeSliceData_row _ _ _ _ _ _ (by omega)
  have hUS:(Builtin.unsafeString_ #[63,3] 9 #[E (N ⟨g,0,B⟩),I J bs.length]).run U w.drew= .ok (.string ⟨bs.toArray⟩) (w.drew.freeze ⟨g,0,B⟩ bs.length):=by
   refine Lib.run_unsafeString_row w.drew 63 3 9 5 Tryz.underlying63 ydH g cur.size (by have hg':w.drew.heap[g]?=N (Z cur 5 (0,0)):=hg;simp[World.shape?,hg']) bs h0 (by omega) (by unfold maxLen at hcm;omega) ?_;intro j x hx;have:=hr.cells (g:=g) rfl j (I .u8 x.toNat) (by simp[Lib.byteCells,hx]);exact this
  clear hb hr
  go_enter Tryz.func13,Tryz.ntmps13
  go_wp2
  go_region
  all_goals (go_wp2;go_ret;exact⟨rfl,((But.refl _ w).drew.trans (ycS w.drew ⟨g,0,B⟩ bs.length) fun i _ e=> .inr (by rw[e];rfl))⟩)
end
end Go.Proofs.YtdphiompijbelaaGreatDoor
