import Derived.Test.YtdphiompijbelaaGreatTabKp
set_option linter.all false
set_option maxRecDepth 100000
open Array renaming getElem?_eq_some_iff->ud
open Go.World renaming block_lt_of_cell?->kh,frozen?->ua,frozen?_of_block->ue,cell?->yI,cell?_of_block->yB
open Go renaming World->z
open Go.Obj renaming cells->A
open List renaming take_succ_cons->O,drop_succ_cons->M,take_zero->kO,drop_zero->ki,mem_singleton->ur,length_set->yS
open Bool renaming false->U,true->uc
open Go.Proofs.Tryz renaming prog->Z
open Go.Ending renaming returned->Q
open Nat renaming lt_of_lt_of_le->V,le_refl->kp,le_succ->yP
open Option renaming none->B,some->N
open Go.IntKind renaming i64->J
open Go.Value renaming int->I,pointer->Y,bool->y,agg->ks,slice->un,tuple->uv,ownBlock->yJ,pointer->yC
set_option maxHeartbeats 2000000
namespace Go.Proofs.YtdphiompijbelaaGreat
open Go.RowKit Go.Sort
attribute [local go_sem] Loose.gent
section
variable {b:Nat} {root:Int} {C:Pg.Cr} {F:Nat->Prop}
theorem ydA {bf:Nat} {S:Pg.Fs} {Ff:Nat->Prop} (w:z) (h:qr w b root C F) (hf:zh w bf S Ff) (Ho:∀j,F j->¬Ff j):
 Calls Z 94 #[Y (N ⟨b,0,B⟩),Y (N ⟨bf,0,B⟩)] w fun e w'=>e=Q (C.stT S root).val/\∃F' Ff',qr w' b root (C.stN S root) F'/\zh w' bf (C.stS S root) Ff'/\But (fun j=>F j\/Ff j) w w'/\(∀j,F' j->F j\/w.heap.size<=j)/\(∀j,Ff' j->Ff j\/w.heap.size<=j)/\∀j,F' j->¬Ff' j:=by
 obtain⟨bt,bk,Ft,h,rfl⟩:=h;obtain⟨W,hW⟩:∃W,W=w.alloc (A #[I J 0,I J 0,I J 0] 34):=⟨_,rfl⟩
 have hB:Below w.heap.size w W:=by rw[hW];exact zA (zR _) _
 have R3:Hid (W.heap[w.heap.size]?=N (A #[I J 0,I J 0,I J 0] 34 (0,0))):=by rw[Hid,hW];exact heap_alloc_new _ _
 have rU:w.heap.size<W.heap.size:=by rw[hW];simp
 have hl:=h.lb;have HW:Hid _:=h.grow hB;have mZ:Hid (zh W bf S Ff):=hf.keep (G:=fun _=>False) (But.yhp hB) (fun _ _=>id);have HB:Hid _:=hB;have Ri:Hid _:=Ho;have gy:Hid (∀j,crF b bk Ft j->j<w.heap.size):=fun j hj=>h.lt hj;have Ia:Hid (¬(w.heap.size=bk\/Ff w.heap.size)):=fun e=>e.elim (fun e=>by have:=h.wk.lb;omega) (fun e=>by have:=hf.lt e;omega);have HS:=yeQ h.ok W HW.out.wk mZ.out (Ho bk (.inr (.inl rfl)));have lh:Hid _:=Pg.yku hf.ok h.ok root;have oI:Hid _:=Pg.ykZ C.K (Pg.kOut S root C.K);have c1:=h.c1;clear h hf hB Ho;simp only[Pg.Cr.stT,Pg.Cr.stN,Pg.Cr.stS,Pg.Wo.tl,Pg.Tl.val];generalize Pg.kOut S root C.K=o at*;generalize o.res C.K=R at*;generalize o.next C.K=K' at*;generalize o.fs S C.K=S' at*;generalize o.cd=cd at*;obtain⟨en,ra,rf,rr,⟨mp,ms,mf,mr⟩,rd⟩:=R;simp only[Pg.Rs.val]at HS oI ⊢;have tL:¬(w.heap.size=bk\/Ff w.heap.size):=fun e=>Ia.out e;cases PU:(en&&ra==0)
 ·have eP:Pg.rPut C.L ⟨en,ra,rf,rr,⟨mp,ms,mf,mr⟩,rd⟩=C.L:=by unfold Pg.rPut;rw[if_neg (by simp only;rw[PU];decide)]
  rw[eP];clear eP
  go_enter Tryz.func94,Tryz.ntmps94
  go_wp2_with fail
  rw[<-hW];clear hW;refine HS.mono ?_;rintro e w1 ⟨rfl,sW,uS,pY,rO,tO⟩;have P1:Hid _:=HW.out.ylN sW lh.out rO.but Ri.out;have Q1:Hid (zh w1 bf S' uS):=pY;have B1:Hid (But (fun j=>crF b bk Ft j\/Ff j) w w1):=(But.yhp HB.out).trans rO.but (fun _ _ h=>h.elim (fun e=> .inl (.inr (.inl e))) .inr);have F1:Hid (∀j,uS j->Ff j\/w.heap.size<j):=fun j hj=>(tO j hj).imp id (fun h=>by omega);have N1:Hid (∀j,crF b bk Ft j->¬uS j):=fun j hj hf=>(tO j hf).elim (Ri.out j hj) (fun h=>by have:=HW.out.lt hj;omega);have R1:w1.heap[w.heap.size]?=N (A #[I J 0,I J 0,I J 0] 34 (0,0)):=(rO.but.block _ rU tL).trans R3.out;have dn:w.heap.size<w1.heap.size:=V rU rO.but.size;obtain⟨⟨z0,z1,z2⟩,zf⟩:=yd3 R1
  have fin:Hid (∀Wf,But (fun j=>j=w.heap.size) w1 Wf->∃F' Ff',qr Wf b root ⟨C.L,K'⟩ F'/\zh Wf bf S' Ff'/\But (fun j=>crF b bk Ft j\/Ff j) w Wf/\(∀j,F' j->crF b bk Ft j\/w.heap.size<=j)/\(∀j,Ff' j->Ff j\/w.heap.size<=j)/\∀j,F' j->¬Ff' j):=fun Wf hb=>
   ⟨_,uS,⟨_,_,_,P1.out.keep hb fun k hk e=>by have:=gy.out k hk;omega,rfl⟩,Q1.out.keep hb fun k hk e=>(F1.out k hk).elim (fun h=>tL (.inr (e▸h))) (fun h=>by omega),B1.out.trans hb (fun i hi e=>by omega),fun j hj=> .inl hj,fun j hj=>(F1.out j hj).imp id (fun h=>by omega),N1.out⟩
  clear sW pY rO tO HS HW mZ R1 R3 HB Ri c1 P1 Q1 B1 F1 N1
  have LQ:w.heap.size≠w1.heap.size:=by omega
  cases en
  ·go_wp2_with fail
   go_region
   go_wp2_with fail
   refine bodyPost_ret (v:=uv #[ks #[I J ra,I J rf,I J rr],y U,I J cd]) ?_ rfl ⟨rfl,fin.out _ (((qT (But.refl (fun j=>j=w.heap.size) w1) _ (.inr rfl) _ _ _).alloc _).drew)⟩;simp[results,Tryz.results94,go_sem,z0,z1,z2,dn]
  ·simp only[Bool.true_and]at PU
   go_wp2_with fail
   go_region
   go_wp2_with fail
   refine bodyPost_ret (v:=uv #[ks #[I J ra,I J rf,I J rr],y uc,I J cd]) ?_ rfl ⟨rfl,fin.out _ (((qT (But.refl (fun j=>j=w.heap.size) w1) _ (.inr rfl) _ _ _).alloc _).drew)⟩;simp[results,Tryz.results94,go_sem,z0,z1,z2,dn]
 ·have eP:Pg.rPut C.L ⟨en,ra,rf,rr,⟨mp,ms,mf,mr⟩,rd⟩=Pg.kPut C.L ⟨⟨mp,ms,mf,mr⟩,rd⟩:=by unfold Pg.rPut;rw[if_pos PU]
  rw[eP];simp only[Bool.and_eq_true,beq_iff_eq]at PU;obtain⟨PN,Gh⟩:=PU;subst PN Gh;have HP:=fun w' (ht:jQ w' bt 0 C.L Ft)=>yfa ⟨⟨mp,ms,mf,mr⟩,rd⟩ oI.out w' ht;simp only[Pg.Ln.val]at HP;generalize Pg.kPut C.L ⟨⟨mp,ms,mf,mr⟩,rd⟩=L' at*;clear eP
  go_enter Tryz.func94,Tryz.ntmps94
  go_wp2_with fail
  rw[<-hW];clear hW;refine HS.mono ?_;rintro e w1 ⟨rfl,sW,uS,pY,rO,tO⟩;obtain⟨W2,Hz⟩:∃W2,W2=w1.alloc (A #[y uc,I J 0,I J rf,I J rr,I J mp,I J ms,I J mf,I J mr,y rd] 232):=⟨_,rfl⟩
  have Hd:Below w1.heap.size w1 W2:=by rw[Hz];exact zA (zR _) _
  have iJ:w1.heap.size<W2.heap.size:=by rw[Hz];simp
  have X2:Hid (W2.heap[w1.heap.size]?=N (A #[y uc,I J 0,I J rf,I J rr,I J mp,I J ms,I J mf,I J mr,y rd] 232 (0,0))):=by rw[Hid,Hz];exact heap_alloc_new _ _
  have P1:Hid _:=(HW.out.ylN sW lh.out rO.but Ri.out).grow Hd;have Q1:Hid (zh W2 bf S' uS):=pY.keep (G:=fun _=>False) (But.yhp Hd) (fun _ _=>id);have B1:Hid (But (fun j=>crF b bk Ft j\/Ff j) w W2):=((But.yhp HB.out).trans rO.but (fun _ _ h=>h.elim (fun e=> .inl (.inr (.inl e))) .inr)).trans (But.yhp (F:=fun _=>False) Hd) (fun _ _ h=>h.elim);have F1:Hid (∀j,uS j->Ff j\/w.heap.size<j):=fun j hj=>(tO j hj).imp id (fun h=>by omega);have N1:Hid (∀j,crF b bk Ft j->¬uS j):=fun j hj hf=>(tO j hf).elim (Ri.out j hj) (fun h=>by have:=HW.out.lt hj;omega);have rQ:W.heap.size<=w1.heap.size:=rO.but.size;have L1:Hid (∀j,uS j->j<w1.heap.size):=fun j hj=>pY.lt hj;have R1:Hid (W2.heap[w.heap.size]?=N (A #[I J 0,I J 0,I J 0] 34 (0,0))):=(Hd.block _ (by omega)).trans ((rO.but.block _ rU tL).trans R3.out)
  have dn:w.heap.size<w1.heap.size:=by omega
  clear sW pY rO tO HS HW mZ R3 HB Ri c1 Hd
  go_wp2_with fail
  rw[<-Hz];clear Hz;obtain⟨⟨x0,x1,x2,x3,x4,x5,x6,x7,x8⟩,xf⟩:=yce X2.out;have g0:=cell_regrown P1.out.c0;have g4:=cell_regrown x4;have g5:=cell_regrown x5;have g6:=cell_regrown x6;have g7:=cell_regrown x7;have g8:=cell_regrown x8;clear x0 x1 x2 x3 x4 x5 x6 x7 x8 xf;refine Loose.yhr 6 (by kernel_rfl) (by kernel_rfl) ?_;simp only[O,kO,M,ki]
  repeat (
   refine Loose.zS (fun k hk=> ?_)
   go_simp
   (refine hk _ ?_;clear hk k))
  refine Loose.yhs ?_;intro w3 He;have P3:Hid _:=P1.out.grow He;have Q3:Hid (zh w3 bf S' uS):=Q1.out.keep (G:=fun _=>False) (But.yhp He) (fun _ _=>id);have B3:Hid (But (fun j=>crF b bk Ft j\/Ff j) w w3):=B1.out.trans (But.yhp (F:=fun _=>False) He) (fun _ _ h=>h.elim);have X3:Hid (w3.heap[w1.heap.size]?=_):=(He.block _ iJ).trans X2.out;have R3:Hid (w3.heap[w.heap.size]?=_):=(He.block _ (by omega)).trans R1.out;have dW:=He.size;clear He g0 g4 g5 g6 g7 g8 P1 Q1 B1 X2 R1
  go_wp2_with fail
  refine(HP _ P3.out.tb).mono ?_;rintro e w4 ⟨rfl,mY,ht,hc,hF⟩;have P4:Hid _:=P3.out.stepT ht hc.but hF;have Q4:Hid (zh w4 bf S' uS):=Q3.out.keep hc.but (fun k hk hf=>N1.out k (.inr (.inr hf)) hk);have B4:Hid (But (fun j=>crF b bk Ft j\/Ff j) w w4):=B3.out.trans hc.but (fun _ _ h=> .inl (.inr (.inr h)))
  have F4:Hid (∀k,crF b bk mY k->crF b bk Ft k\/w1.heap.size<k):=fun k hk=>by
   rcases hk with hk|hk|hk
   ·exact .inl (.inl hk)
   ·exact .inl (.inr (.inl hk))
   ·exact(hF k hk).imp (fun h=> .inr (.inr h)) (fun h=>by omega)
  have n1:¬Ft w1.heap.size:=fun hf=>by have:=gy.out _ (.inr (.inr hf));omega
  have n2:¬Ft w.heap.size:=fun hf=>by have:=gy.out _ (.inr (.inr hf));omega
  obtain⟨⟨z0,z1,z2⟩,zf⟩:=yd3 ((hc.but.block _ (by omega) n2).trans R3.out);obtain⟨⟨x0,x1,x2,x3,x4,x5,x6,x7,x8⟩,xf⟩:=yce ((hc.but.block _ (by omega) n1).trans X3.out)
  have gq:w.heap.size<w4.heap.size:=by have:=hc.but.size;omega
  have hx4:w1.heap.size<w4.heap.size:=by have:=hc.but.size;omega
  have fin:Hid (∀Wf,But (fun j=>j=w.heap.size) w4 Wf->∃F' Ff',qr Wf b root ⟨L',K'⟩ F'/\zh Wf bf S' Ff'/\But (fun j=>crF b bk Ft j\/Ff j) w Wf/\(∀j,F' j->crF b bk Ft j\/w.heap.size<=j)/\(∀j,Ff' j->Ff j\/w.heap.size<=j)/\∀j,F' j->¬Ff' j):=fun Wf hb=>
   ⟨_,uS,⟨_,_,_,P4.out.keep hb fun k hk e=>(F4.out k hk).elim (fun h=>by have:=gy.out k h;omega) (fun h=>by omega),rfl⟩,Q4.out.keep hb fun k hk e=>(F1.out k hk).elim (fun h=>tL (.inr (e▸h))) (fun h=>by omega),B4.out.trans hb (fun i hi e=>by omega),fun j hj=>(F4.out j hj).imp id (fun h=>by omega),fun j hj=>(F1.out j hj).imp id (fun h=>by omega),fun j hj hf=>(F4.out j hj).elim (fun h=>N1.out j h hf) (fun h=>by have:=L1.out j hf;omega)⟩
  clear ht hc hF P3 Q3 B3 X3 R3 P4 Q4 B4 F1 N1 L1 F4 HP n1 n2
  have LQ:w.heap.size≠w1.heap.size:=by omega
  go_wp2_with fail
  go_region
  go_wp2_with fail
  refine bodyPost_ret (v:=uv #[ks #[I J 0,I J rf,I J rr],y uc,I J cd]) ?_ rfl ⟨rfl,fin.out _ ((qT (But.refl (fun j=>j=w.heap.size) w4) _ (.inr rfl) _ _ _).drew)⟩;simp[results,Tryz.results94,go_sem,z0,z1,z2,gq]
end
section
variable {b:Nat} {root:Int} {C:Pg.Cr} {F:Nat->Prop}
theorem ycF (q k:Int) (u:Bool) (hc:Pg.zK q k≠0) (w:z) (h:qr w b root C F):
 Calls Z 93 #[Y (N ⟨b,0,B⟩),ks #[I J q,I J k,y u]] w fun e w'=>e=Q (Pg.Tl.code (Pg.zK q k)).val/\Below w.heap.size w w':=by
 have HC:=fun w=>zJ q k u w
 have TM:(Pg.zK q k !=0)=uc:=by simpa using hc
 clear hc h;generalize Pg.zK q k=c at*;simp only[Pg.Tl.code,Pg.Tl.val]
 go_enter Tryz.func93,Tryz.ntmps93
 go_wp2_with fail
 refine(HC _).mono ?_;rintro e w1 ⟨rfl,Ha⟩;have hr:∀p,w1.cell? ⟨w.heap.size+1,p,B⟩=_:=fun p=>Ha.cell (p:=⟨w.heap.size+1,p,B⟩) (by simp);have hf:∀p,w1.frozen? ⟨w.heap.size+1,p,B⟩=_:=fun p=>Ha.frozen (p:=⟨w.heap.size+1,p,B⟩) (by simp);have H9:Hid (Below w.heap.size w w1):=zT (zA (zA (zR w) _) _) Ha;clear Ha HC
 go_wp2_with fail
 refine bodyPost_ret (v:=uv #[ks #[I J 0,I J 0,I J 0],y U,I J c]) ?_ rfl ⟨rfl,qi H9.out _ (yP _) _ _ _⟩;simp[results,Tryz.results93,go_sem,hr]
theorem ybM (q k:Int) (u:Bool) (hc:Pg.zK q k=0) (w:z) (h:qr w b root C F) (ho:C.K.on=uc):
 Calls Z 93 #[Y (N ⟨b,0,B⟩),ks #[I J q,I J k,y u]] w fun e w'=>e=Q (Pg.Tl.code 8).val/\Below w.heap.size w w':=by
 have HC:=fun w=>zJ q k u w;rw[hc]at HC;have HO:=fun w' (hb:Below w.heap.size w w')=>qx w' (h.grow hb);rw[ho]at HO;clear hc h ho;simp only[Pg.Tl.code,Pg.Tl.val]
 go_enter Tryz.func93,Tryz.ntmps93
 go_wp2_with fail
 refine(HC _).mono ?_;rintro e w1 ⟨rfl,Ha⟩;have hr:∀p,w1.cell? ⟨w.heap.size+1,p,B⟩=_:=fun p=>Ha.cell (p:=⟨w.heap.size+1,p,B⟩) (by simp);have hf:∀p,w1.frozen? ⟨w.heap.size+1,p,B⟩=_:=fun p=>Ha.frozen (p:=⟨w.heap.size+1,p,B⟩) (by simp);have H9:Hid (Below w.heap.size w w1):=zT (zA (zA (zR w) _) _) Ha;clear Ha HC
 go_wp2_with fail
 refine(HO _ H9.out).mono ?_;rintro e w2 ⟨rfl,Gy⟩;subst w2;clear HO
 go_wp2_with fail
 refine bodyPost_ret (v:=uv #[ks #[I J 0,I J 0,I J 0],y U,I J 8]) ?_ rfl ⟨rfl,qi H9.out _ (yP _) _ _ _⟩;simp[results,Tryz.results93,go_sem,hr]
theorem ybN (q k:Int) (u:Bool) (hc:Pg.zK q k=0) (w:z) (h:qr w b root C F) (ho:C.K.on=U) (hn:Pg.kFnd C.L q=B):
 Calls Z 93 #[Y (N ⟨b,0,B⟩),ks #[I J q,I J k,y u]] w fun e w'=>e=Q (Pg.Tl.code 0).val/\qr w' b root ⟨C.L,Pg.Wk.start root q k u⟩ F/\But F w w':=by
 have HC:=fun w=>zJ q k u w;rw[hc]at HC;have HO:=fun w' (hb:Below w.heap.size w w')=>qx w' (h.grow hb);rw[ho]at HO;obtain⟨bt,bk,Ft,h,rfl⟩:=h;have bL:=fun w' (ht:jQ w' bt 0 C.L Ft)=>va q (Pg.yh0 hc) w' ht
 have e1:Pg.kAt C.L q= .zz:=by simp only[Pg.kAt,hn]
 rw[e1,hn,show(.zz:Pg.Ln).val=ks #[I J 0,I J 0,I J 0,I J 0,y U]from rfl,show(none:Option Nat).isSome=U from rfl]at bL
 have e2:yei C.K q k=0:=by simp[yei,hc,ho]
 have e3:yeo root C.K q k u=Pg.Wk.start root q k u:=by simp[yeo,e2]
 have RQ:=fun w' (hk:xi w' bk 0 root C.K)=>ya0 h.ok q k u w' hk;rw[e2,e3]at RQ;have lh:Hid _:=Pg.Wk.yiR (root:=root) (k:=k) (u:=u) (Pg.yhP hc);clear hc ho e1 e2 e3 hn;simp only[Pg.Tl.code,Pg.Tl.val];have hl:=h.lb;have HX:Hid _:=h;have gy:Hid (∀j,crF b bk Ft j->j<w.heap.size):=fun j hj=>h.lt hj
 go_enter Tryz.func93,Tryz.ntmps93
 go_wp2_with fail
 refine(HC _).mono ?_;rintro e w1 ⟨rfl,Ha⟩;have ha:∀p,w1.cell? ⟨w.heap.size,p,B⟩=_:=fun p=>Ha.cell (p:=⟨w.heap.size,p,B⟩) (by simp;omega);have HR:Hid (w1.heap[w.heap.size+1]?=N (A #[I J 0,I J 0,I J 0] 34 (0,0))):=(Ha.block _ (by simp)).trans ((by simp:(w.alloc (A #[I J q,I J k,y u] 41)).heap.size=w.heap.size+1)▸heap_alloc_new _ _);have H9:Hid (Below w.heap.size w w1):=zT (zA (zA (zR w) _) _) Ha
 have rQ:w.heap.size+1<w1.heap.size:=by have:=Ha.size;simp at this;omega
 clear Ha HC h
 go_wp2_with fail
 refine(HO _ H9.out).mono ?_;rintro e w2 ⟨rfl,Gy⟩;subst w2;clear HO;have P1:Hid _:=HX.out.grow H9.out;have A1:Hid (w1.cell? ⟨w.heap.size,0,B⟩=N (I J q)/\w1.cell? ⟨w.heap.size,1,B⟩=N (I J k)/\w1.cell? ⟨w.heap.size,2,B⟩=N (y u)):=⟨(ha 0).trans (by simp[go_sem]),(ha 1).trans (by simp[go_sem]),(ha 2).trans (by simp[go_sem])⟩;have g0:=cell_regrown P1.out.c0;have g1:=cell_regrown A1.out.1;have Re:=fun d os=>bL _ (P1.out.grow (below_regrown w1 d os)).tb;clear HX ha bL
 go_wp2_with fail
 refine Loose.yhB 10 [9] 8 (A #[I J 0,I J 0,I J 0,I J 0,y U] 139) _ (by kernel_rfl) (by kernel_rfl) (by intro i o hi ho;simp only[ur]at hi;subst hi;cases ho;exact Loose.yiB rfl) rfl rfl rfl (by intro a w;simp[go_sem]) (by intro d v c a w h;cases d<;>exact h) ?_
 simp only[O,kO,M,ki]
 repeat (
  refine Loose.zS (fun k hk=> ?_)
  go_simp
  first
   | (refine hk _ ?_;clear hk k)
   | (apply Exists.intro
      refine⟨fun _=> ?_,hk _ ?_⟩
      (go_at_call 141;exact Loose.calls (Re _ _))
      clear hk k))
 refine Loose.yhs ?_;intro bl w3 He rR hX;have sG:bl<w3.heap.size:=(ud.1 hX).1
 have cb:w3.cell? ⟨bl,0,B⟩=N (I J 0)/\w3.cell? ⟨bl,1,B⟩=N (I J 0)/\w3.cell? ⟨bl,2,B⟩=N (I J 0)/\w3.cell? ⟨bl,3,B⟩=N (I J 0)/\w3.cell? ⟨bl,4,B⟩=N (y U):=by
  simp[yI,hX]
 obtain⟨bW,bX,gQ,lI,Rm⟩:=cb
 have fb:∀i,w3.frozen? ⟨bl,i,B⟩=U:=fun i=>by simp[ua,hX]
 obtain⟨W4,rF⟩:∃W4,W4=((((w3.setCell ⟨bl,0,B⟩ (I J 0)).setCell ⟨bl,1,B⟩ (I J 0)).setCell ⟨bl,2,B⟩ (I J 0)).setCell ⟨bl,3,B⟩ (I J 0)).setCell ⟨bl,4,B⟩ (y U):=⟨_,rfl⟩
 have pE:Below w1.heap.size w1 W4:=by rw[rF];exact qw He _ rR _ _ _ _ _
 have L4:Hid (W4.cell? ⟨bl,0,B⟩=N (I J 0)/\W4.cell? ⟨bl,1,B⟩=N (I J 0)/\W4.cell? ⟨bl,2,B⟩=N (I J 0)/\W4.cell? ⟨bl,3,B⟩=N (I J 0)/\W4.cell? ⟨bl,4,B⟩=N (y U)):=by
  rw[Hid,rF];simp[go_sem,bW,bX,gQ,lI,Rm]
 have P4:Hid _:=P1.out.grow pE;have rM:Hid (Below w.heap.size w W4):=zT H9.out pE;have A4:Hid _:=qc pE A1.out;have R4:Hid (W4.heap[w.heap.size+1]?=N (A #[I J 0,I J 0,I J 0] 34 (0,0))):=(pE.block _ rQ).trans HR.out;have pF:w.heap.size+1<W4.heap.size:=V rQ pE.size;clear g0 g1 Re P1 A1 H9 HR pE hX He
 go_wp2_with fail
 rw[<-rF];clear rF bW bX gQ lI Rm fb;have A5:Hid _:=A4.out;have g0:=cell_regrown P4.out.c1;have g1:=cell_regrown A4.out.1;have g2:=cell_regrown A4.out.2.1;have g3:=cell_regrown A4.out.2.2
 refine Loose.yiK 6 [0] (by kernel_rfl) (by kernel_rfl) (by intro i o hi ho;simp only[ur]at hi;subst hi;cases ho;exact fun e w=> .inl ⟨ks #[I J 0,I J 0,I J 0],fun w'=>by simp[execOp,go_sem]⟩) (by intro d v c a w h;cases d<;>exact h) ?_
 simp only[O,kO,M,ki]
 repeat (
  refine Loose.zS (fun k hk=> ?_)
  go_simp
  (refine hk _ ?_;clear hk k))
 refine Loose.yhs ?_;intro w5 rA;have P5:Hid _:=P4.out.grow rA;have tu:Hid (Below w.heap.size w w5):=zT rM.out rA;have R5:Hid (w5.heap[w.heap.size+1]?=_):=(rA.block _ pF).trans R4.out;have uf:w.heap.size+1<w5.heap.size:=V pF rA.size;clear rA g0 g1 g2 g3 P4 rM R4 A4 A5
 go_wp2_with fail
 refine(RQ _ P5.out.wk).mono ?_;rintro e w6 ⟨rfl,sP,kL⟩
 have KN:¬w.heap.size+1=bk:=fun e=>by have:=gy.out bk (.inr (.inl rfl));omega
 have P6:Hid _:=P5.out.ykl sP lh.out kL.but;have fw:Hid (But (crF b bk Ft) w w6):=(But.yhp tu.out).trans kL.but (fun _ _ h=> .inr (.inl h));have R6:=(kL.but.block _ uf KN).trans R5.out;obtain⟨⟨z0,z1,z2⟩,zf⟩:=yd3 R6;have bK:w.heap.size+1<w6.heap.size:=V uf kL.but.size
 have fin:Hid (∀Wf,But (fun j=>j=w.heap.size+1) w6 Wf->qr Wf b root ⟨C.L,Pg.Wk.start root q k u⟩ (crF b bk Ft)/\But (crF b bk Ft) w Wf):=fun Wf hb=>
  ⟨⟨_,_,_,P6.out.keep hb fun k hk e=>by have:=gy.out k hk;omega,rfl⟩,fw.out.trans hb (fun i hi e=>by omega)⟩
 clear sP kL R5 R6 P5 tu P6 fw RQ
 go_wp2_with fail
 refine bodyPost_ret (v:=uv #[ks #[I J 0,I J 0,I J 0],y U,I J 0]) ?_ rfl ⟨rfl,fin.out _ (qT (But.refl (fun j=>j=w.heap.size+1) w6) _ (.inr rfl) _ _ _)⟩;simp[results,Tryz.results93,go_sem,z0,z1,z2,bK]
theorem ybj (q k:Int) (u:Bool) (hc:Pg.zK q k=0) (w:z) (h:qr w b root C F) (ho:C.K.on=U) (hn:(Pg.kFnd C.L q).isSome=uc) (bC:(Pg.kAt C.L q).wants k u=uc):
 Calls Z 93 #[Y (N ⟨b,0,B⟩),ks #[I J q,I J k,y u]] w fun e w'=>e=Q (Pg.Tl.code 0).val/\qr w' b root ⟨C.L,Pg.Wk.start root q k u⟩ F/\But F w w':=by
 have HC:=fun w=>zJ q k u w;rw[hc]at HC;have HO:=fun w' (hb:Below w.heap.size w w')=>qx w' (h.grow hb);rw[ho]at HO;obtain⟨bt,bk,Ft,h,rfl⟩:=h;have bL:=fun w' (ht:jQ w' bt 0 C.L Ft)=>va q (Pg.yh0 hc) w' ht;have aS:=fun w=>jN (Pg.kAt C.L q) q k u w;rw[bC]at aS;rw[hn]at bL
 have e2:yei C.K q k=0:=by simp[yei,hc,ho]
 have e3:yeo root C.K q k u=Pg.Wk.start root q k u:=by simp[yeo,e2]
 have RQ:=fun w' (hk:xi w' bk 0 root C.K)=>ya0 h.ok q k u w' hk;rw[e2,e3]at RQ;have lh:Hid _:=Pg.Wk.yiR (root:=root) (k:=k) (u:=u) (Pg.yhP hc);clear hc ho e2 e3 hn bC;generalize Pg.kAt C.L q=l at*;obtain⟨⟨mp,ms,mf,mr⟩,ld⟩:=l;simp only[Pg.Ln.val]at bL aS;simp only[Pg.Tl.code,Pg.Tl.val];have hl:=h.lb;have HX:Hid _:=h;have gy:Hid (∀j,crF b bk Ft j->j<w.heap.size):=fun j hj=>h.lt hj
 go_enter Tryz.func93,Tryz.ntmps93
 go_wp2_with fail
 refine(HC _).mono ?_;rintro e w1 ⟨rfl,Ha⟩;have ha:∀p,w1.cell? ⟨w.heap.size,p,B⟩=_:=fun p=>Ha.cell (p:=⟨w.heap.size,p,B⟩) (by simp;omega);have HR:Hid (w1.heap[w.heap.size+1]?=N (A #[I J 0,I J 0,I J 0] 34 (0,0))):=(Ha.block _ (by simp)).trans ((by simp:(w.alloc (A #[I J q,I J k,y u] 41)).heap.size=w.heap.size+1)▸heap_alloc_new _ _);have H9:Hid (Below w.heap.size w w1):=zT (zA (zA (zR w) _) _) Ha
 have rQ:w.heap.size+1<w1.heap.size:=by have:=Ha.size;simp at this;omega
 clear Ha HC h
 go_wp2_with fail
 refine(HO _ H9.out).mono ?_;rintro e w2 ⟨rfl,Gy⟩;subst w2;clear HO;have P1:Hid _:=HX.out.grow H9.out;have A1:Hid (w1.cell? ⟨w.heap.size,0,B⟩=N (I J q)/\w1.cell? ⟨w.heap.size,1,B⟩=N (I J k)/\w1.cell? ⟨w.heap.size,2,B⟩=N (y u)):=⟨(ha 0).trans (by simp[go_sem]),(ha 1).trans (by simp[go_sem]),(ha 2).trans (by simp[go_sem])⟩;have g0:=cell_regrown P1.out.c0;have g1:=cell_regrown A1.out.1;have Re:=fun d os=>bL _ (P1.out.grow (below_regrown w1 d os)).tb;clear HX ha bL
 go_wp2_with fail
 refine Loose.yhB 10 [9] 8 (A #[I J 0,I J 0,I J 0,I J 0,y U] 139) _ (by kernel_rfl) (by kernel_rfl) (by intro i o hi ho;simp only[ur]at hi;subst hi;cases ho;exact Loose.yiB rfl) rfl rfl rfl (by intro a w;simp[go_sem]) (by intro d v c a w h;cases d<;>exact h) ?_
 simp only[O,kO,M,ki]
 repeat (
  refine Loose.zS (fun k hk=> ?_)
  go_simp
  first
   | (refine hk _ ?_;clear hk k)
   | (apply Exists.intro
      refine⟨fun _=> ?_,hk _ ?_⟩
      (go_at_call 141;exact Loose.calls (Re _ _))
      clear hk k))
 refine Loose.yhs ?_;intro bl w3 He rR hX;have sG:bl<w3.heap.size:=(ud.1 hX).1
 have cb:w3.cell? ⟨bl,0,B⟩=N (I J 0)/\w3.cell? ⟨bl,1,B⟩=N (I J 0)/\w3.cell? ⟨bl,2,B⟩=N (I J 0)/\w3.cell? ⟨bl,3,B⟩=N (I J 0)/\w3.cell? ⟨bl,4,B⟩=N (y U):=by
  simp[yI,hX]
 obtain⟨bW,bX,gQ,lI,Rm⟩:=cb
 have fb:∀i,w3.frozen? ⟨bl,i,B⟩=U:=fun i=>by simp[ua,hX]
 obtain⟨W4,rF⟩:∃W4,W4=((((w3.setCell ⟨bl,0,B⟩ (I J mp)).setCell ⟨bl,1,B⟩ (I J ms)).setCell ⟨bl,2,B⟩ (I J mf)).setCell ⟨bl,3,B⟩ (I J mr)).setCell ⟨bl,4,B⟩ (y ld):=⟨_,rfl⟩
 have pE:Below w1.heap.size w1 W4:=by rw[rF];exact qw He _ rR _ _ _ _ _
 have L4:Hid (W4.cell? ⟨bl,0,B⟩=N (I J mp)/\W4.cell? ⟨bl,1,B⟩=N (I J ms)/\W4.cell? ⟨bl,2,B⟩=N (I J mf)/\W4.cell? ⟨bl,3,B⟩=N (I J mr)/\W4.cell? ⟨bl,4,B⟩=N (y ld)):=by
  rw[Hid,rF];simp[go_sem,bW,bX,gQ,lI,Rm]
 have P4:Hid _:=P1.out.grow pE;have rM:Hid (Below w.heap.size w W4):=zT H9.out pE;have A4:Hid _:=qc pE A1.out;have R4:Hid (W4.heap[w.heap.size+1]?=N (A #[I J 0,I J 0,I J 0] 34 (0,0))):=(pE.block _ rQ).trans HR.out;have pF:w.heap.size+1<W4.heap.size:=V rQ pE.size;clear g0 g1 Re P1 A1 H9 HR pE hX He
 go_upto_region 7 with fail
 rw[<-rF];clear rF bW bX gQ lI Rm fb;obtain⟨a0,a1,a2⟩:=A4.out;obtain⟨l0,l1,l2,l3,l4⟩:=L4.out
 go_wp2_with fail
 refine(aS _).mono ?_;rintro e W6 ⟨rfl,H7⟩;have P7:Hid _:=P4.out.grow H7;have pg:Hid (Below w.heap.size w W6):=zT rM.out H7;have A7:Hid _:=qc H7 A4.out;have R7:Hid (W6.heap[w.heap.size+1]?=_):=(H7.block _ pF).trans R4.out;have Pp:w.heap.size+1<W6.heap.size:=V pF H7.size;have L7:Hid (qt W6 bl 0 ⟨⟨mp,ms,mf,mr⟩,ld⟩):=qt.below (w:=W4) ⟨l0,l1,l2,l3,l4⟩ H7 (kh _ _ l0);clear P4 rM A4 R4 pF L4 H7 a0 a1 a2 l0 l1 l2 l3 l4 aS
 go_wp2_with fail
 have A5:Hid _:=A7.out;have g0:=cell_regrown P7.out.c1;have g1:=cell_regrown A7.out.1;have g2:=cell_regrown A7.out.2.1;have g3:=cell_regrown A7.out.2.2
 refine Loose.yiK 6 [0] (by kernel_rfl) (by kernel_rfl) (by intro i o hi ho;simp only[ur]at hi;subst hi;cases ho;exact fun e w=> .inl ⟨ks #[I J 0,I J 0,I J 0],fun w'=>by simp[execOp,go_sem]⟩) (by intro d v c a w h;cases d<;>exact h) ?_
 simp only[O,kO,M,ki]
 repeat (
  refine Loose.zS (fun k hk=> ?_)
  go_simp
  (refine hk _ ?_;clear hk k))
 refine Loose.yhs ?_;intro w5 rA;have P5:Hid _:=P7.out.grow rA;have tu:Hid (Below w.heap.size w w5):=zT pg.out rA;have R5:Hid (w5.heap[w.heap.size+1]?=_):=(rA.block _ Pp).trans R7.out;have uf:w.heap.size+1<w5.heap.size:=V Pp rA.size;clear rA g0 g1 g2 g3 P7 pg R7 A7 A5
 go_wp2_with fail
 refine(RQ _ P5.out.wk).mono ?_;rintro e w6 ⟨rfl,sP,kL⟩
 have KN:¬w.heap.size+1=bk:=fun e=>by have:=gy.out bk (.inr (.inl rfl));omega
 have P6:Hid _:=P5.out.ykl sP lh.out kL.but;have fw:Hid (But (crF b bk Ft) w w6):=(But.yhp tu.out).trans kL.but (fun _ _ h=> .inr (.inl h));have R6:=(kL.but.block _ uf KN).trans R5.out;obtain⟨⟨z0,z1,z2⟩,zf⟩:=yd3 R6;have bK:w.heap.size+1<w6.heap.size:=V uf kL.but.size
 have fin:Hid (∀Wf,But (fun j=>j=w.heap.size+1) w6 Wf->qr Wf b root ⟨C.L,Pg.Wk.start root q k u⟩ (crF b bk Ft)/\But (crF b bk Ft) w Wf):=fun Wf hb=>
  ⟨⟨_,_,_,P6.out.keep hb fun k hk e=>by have:=gy.out k hk;omega,rfl⟩,fw.out.trans hb (fun i hi e=>by omega)⟩
 clear sP kL R5 R6 P5 tu P6 fw RQ
 go_wp2_with fail
 refine bodyPost_ret (v:=uv #[ks #[I J 0,I J 0,I J 0],y U,I J 0]) ?_ rfl ⟨rfl,fin.out _ (qT (But.refl (fun j=>j=w.heap.size+1) w6) _ (.inr rfl) _ _ _)⟩;simp[results,Tryz.results93,go_sem,z0,z1,z2,bK]
theorem ycG (q k:Int) (u:Bool) (hc:Pg.zK q k=0) (w:z) (h:qr w b root C F) (ho:C.K.on=U) (hn:(Pg.kFnd C.L q).isSome=uc) (bC:(Pg.kAt C.L q).wants k u=U):
 Calls Z 93 #[Y (N ⟨b,0,B⟩),ks #[I J q,I J k,y u]] w fun e w'=>e=Q ((Pg.kAt C.L q).ans q k u).val/\Below w.heap.size w w':=by
 have HC:=fun w=>zJ q k u w;rw[hc]at HC;have HO:=fun w' (hb:Below w.heap.size w w')=>qx w' (h.grow hb);rw[ho]at HO;obtain⟨bt,bk,Ft,h,rfl⟩:=h;have bL:=fun w' (ht:jQ w' bt 0 C.L Ft)=>va q (Pg.yh0 hc) w' ht;have aS:=fun w=>jN (Pg.kAt C.L q) q k u w;rw[bC]at aS;rw[hn]at bL;have lc:=fun w=>jS (Pg.kAt C.L q).m.p (Pg.kAt C.L q).m.s (Pg.kAt C.L q).m.f (Pg.kAt C.L q).m.r q k u w;clear hc ho hn bC;generalize Pg.kAt C.L q=l at*;obtain⟨⟨mp,ms,mf,mr⟩,ld⟩:=l;simp only[Pg.Ln.val]at bL aS;simp only[Pg.Ln.ans,Pg.Tl.val];simp only at lc;generalize Pg.aEnd mr k u=ra at*;generalize Pg.yhY mp mf mr q k u=rf at*;generalize Pg.yhL mr k u=rr at*;have hl:=h.lb;have HX:Hid _:=h;have gy:Hid (∀j,crF b bk Ft j->j<w.heap.size):=fun j hj=>h.lt hj
 go_enter Tryz.func93,Tryz.ntmps93
 go_wp2_with fail
 refine(HC _).mono ?_;rintro e w1 ⟨rfl,Ha⟩;have ha:∀p,w1.cell? ⟨w.heap.size,p,B⟩=_:=fun p=>Ha.cell (p:=⟨w.heap.size,p,B⟩) (by simp;omega);have HR:Hid (w1.heap[w.heap.size+1]?=N (A #[I J 0,I J 0,I J 0] 34 (0,0))):=(Ha.block _ (by simp)).trans ((by simp:(w.alloc (A #[I J q,I J k,y u] 41)).heap.size=w.heap.size+1)▸heap_alloc_new _ _);have H9:Hid (Below w.heap.size w w1):=zT (zA (zA (zR w) _) _) Ha
 have rQ:w.heap.size+1<w1.heap.size:=by have:=Ha.size;simp at this;omega
 clear Ha HC h
 go_wp2_with fail
 refine(HO _ H9.out).mono ?_;rintro e w2 ⟨rfl,Gy⟩;subst w2;clear HO;have P1:Hid _:=HX.out.grow H9.out;have A1:Hid (w1.cell? ⟨w.heap.size,0,B⟩=N (I J q)/\w1.cell? ⟨w.heap.size,1,B⟩=N (I J k)/\w1.cell? ⟨w.heap.size,2,B⟩=N (y u)):=⟨(ha 0).trans (by simp[go_sem]),(ha 1).trans (by simp[go_sem]),(ha 2).trans (by simp[go_sem])⟩;have g0:=cell_regrown P1.out.c0;have g1:=cell_regrown A1.out.1;have Re:=fun d os=>bL _ (P1.out.grow (below_regrown w1 d os)).tb;clear HX ha bL
 go_wp2_with fail
 refine Loose.yhB 10 [9] 8 (A #[I J 0,I J 0,I J 0,I J 0,y U] 139) _ (by kernel_rfl) (by kernel_rfl) (by intro i o hi ho;simp only[ur]at hi;subst hi;cases ho;exact Loose.yiB rfl) rfl rfl rfl (by intro a w;simp[go_sem]) (by intro d v c a w h;cases d<;>exact h) ?_
 simp only[O,kO,M,ki]
 repeat (
  refine Loose.zS (fun k hk=> ?_)
  go_simp
  first
   | (refine hk _ ?_;clear hk k)
   | (apply Exists.intro
      refine⟨fun _=> ?_,hk _ ?_⟩
      (go_at_call 141;exact Loose.calls (Re _ _))
      clear hk k))
 refine Loose.yhs ?_;intro bl w3 He rR hX;have sG:bl<w3.heap.size:=(ud.1 hX).1
 have cb:w3.cell? ⟨bl,0,B⟩=N (I J 0)/\w3.cell? ⟨bl,1,B⟩=N (I J 0)/\w3.cell? ⟨bl,2,B⟩=N (I J 0)/\w3.cell? ⟨bl,3,B⟩=N (I J 0)/\w3.cell? ⟨bl,4,B⟩=N (y U):=by
  simp[yI,hX]
 obtain⟨bW,bX,gQ,lI,Rm⟩:=cb
 have fb:∀i,w3.frozen? ⟨bl,i,B⟩=U:=fun i=>by simp[ua,hX]
 obtain⟨W4,rF⟩:∃W4,W4=((((w3.setCell ⟨bl,0,B⟩ (I J mp)).setCell ⟨bl,1,B⟩ (I J ms)).setCell ⟨bl,2,B⟩ (I J mf)).setCell ⟨bl,3,B⟩ (I J mr)).setCell ⟨bl,4,B⟩ (y ld):=⟨_,rfl⟩
 have pE:Below w1.heap.size w1 W4:=by rw[rF];exact qw He _ rR _ _ _ _ _
 have L4:Hid (W4.cell? ⟨bl,0,B⟩=N (I J mp)/\W4.cell? ⟨bl,1,B⟩=N (I J ms)/\W4.cell? ⟨bl,2,B⟩=N (I J mf)/\W4.cell? ⟨bl,3,B⟩=N (I J mr)/\W4.cell? ⟨bl,4,B⟩=N (y ld)):=by
  rw[Hid,rF];simp[go_sem,bW,bX,gQ,lI,Rm]
 have P4:Hid _:=P1.out.grow pE;have rM:Hid (Below w.heap.size w W4):=zT H9.out pE;have A4:Hid _:=qc pE A1.out;have R4:Hid (W4.heap[w.heap.size+1]?=N (A #[I J 0,I J 0,I J 0] 34 (0,0))):=(pE.block _ rQ).trans HR.out;have pF:w.heap.size+1<W4.heap.size:=V rQ pE.size;clear g0 g1 Re P1 A1 H9 HR pE hX He
 go_upto_region 7 with fail
 rw[<-rF];clear rF bW bX gQ lI Rm fb;obtain⟨a0,a1,a2⟩:=A4.out;obtain⟨l0,l1,l2,l3,l4⟩:=L4.out
 go_wp2_with fail
 refine(aS _).mono ?_;rintro e W6 ⟨rfl,H7⟩;have P7:Hid _:=P4.out.grow H7;have pg:Hid (Below w.heap.size w W6):=zT rM.out H7;have A7:Hid _:=qc H7 A4.out;have R7:Hid (W6.heap[w.heap.size+1]?=_):=(H7.block _ pF).trans R4.out;have Pp:w.heap.size+1<W6.heap.size:=V pF H7.size;have L7:Hid (qt W6 bl 0 ⟨⟨mp,ms,mf,mr⟩,ld⟩):=qt.below (w:=W4) ⟨l0,l1,l2,l3,l4⟩ H7 (kh _ _ l0);clear P4 rM A4 R4 pF L4 H7 a0 a1 a2 l0 l1 l2 l3 l4 aS;obtain⟨a0,a1,a2⟩:=A7.out;obtain⟨l0,l1,l2,l3,l4⟩:=L7.out;simp only[Nat.zero_add]at l0 l1 l2 l3 l4
 go_wp2_with fail
 refine(lc _).mono ?_;rintro e w8 ⟨rfl,su⟩;obtain⟨⟨z0,z1,z2⟩,zf⟩:=yd3 ((su.block _ Pp).trans R7.out);have Cm:w.heap.size+1<w8.heap.size:=V Pp su.size;have dL:Hid (Below w.heap.size w w8):=zT pg.out su;clear su lc P7 A7 R7 L7 a0 a1 a2 l0 l1 l2 l3 l4 pg
 go_wp2_with fail
 refine bodyPost_ret (v:=uv #[ks #[I J ra,I J rf,I J rr],y uc,I J 0]) ?_ rfl ⟨rfl,qi dL.out _ (yP _) _ _ _⟩;simp[results,Tryz.results93,go_sem,z0,z1,z2,Cm]
theorem ycE (q k:Int) (u:Bool) (w:z) (h:qr w b root C F):
 Calls Z 93 #[Y (N ⟨b,0,B⟩),ks #[I J q,I J k,y u]] w fun e w'=>e=Q (C.bgT q k u).val/\qr w' b root (C.bgN root q k u) F/\But F w w':=by
 unfold Pg.Cr.bgT Pg.Cr.bgN
 by_cases hc:Pg.zK q k=0
 ·rw[if_neg (by simp[hc])]
  cases ho:C.K.on
  ·rw[if_neg (by simp)]
   unfold Pg.Cr.hit
   cases hn:Pg.kFnd C.L q with
   | none=>
     rw[if_neg (by simp),if_pos ⟨hc,rfl,by simp⟩];exact ybN q k u hc w h ho hn
   | some j=>
     cases bC:(Pg.kAt C.L q).wants k u
     ·rw[if_pos (by simp),if_neg (by simp)]
      exact(ycG q k u hc w h ho (by simp[hn]) bC).mono fun e w' ⟨he,hb⟩=>⟨he,h.grow hb,But.yhp hb⟩
     ·rw[if_neg (by simp),if_pos ⟨hc,rfl,by simp⟩]
      exact ybj q k u hc w h ho (by simp[hn]) bC
  ·rw[if_pos rfl,if_neg (by simp)]
   exact(ybM q k u hc w h ho).mono fun e w' ⟨he,hb⟩=>⟨he,h.grow hb,But.yhp hb⟩
 ·rw[if_pos (by simpa using hc),if_neg (by simp[hc])]
  exact(ycF q k u hc w h).mono fun e w' ⟨he,hb⟩=>⟨he,h.grow hb,But.yhp hb⟩
end
theorem zi.grow {w w' w'':z} {b:Nat} {D:Dsd} {X X':Pg.Spc} (h:zi w b D X X' w') (hb:Below w'.heap.size w' w''):zi w b D X X' w'':=by
 obtain⟨D',h1,h2,h3⟩:=h;exact⟨D',h1.grow hb,h2.trans (But.yhp (F:=fun _=>False) hb) (fun _ _ h=>h.elim),h3⟩
theorem Dsk.done {w w':z} {b k:Nat} {D:Dsd} {X:Pg.Spc} {C':Pg.Cr} {S':Pg.Fs} {Fc FM':Nat->Prop} (h:Dsk w b D X) (hk:k<X.C.length) (hC:qr w' (D.cb k) 0 C' Fc) (hm:zh w' D.bm S' FM') (hb:But (fun j=>D.cF k j\/D.FM j) w w') (hF:∀x,Fc x->D.cF k x\/w.heap.size<=x) (dA:∀x,FM' x->D.FM x\/w.heap.size<=x) (Ho:∀x,Fc x->¬FM' x):
 zi w b D X {X with S:=S',C:=X.C.set k C'} w':=by
 have hl:(X.C.set k C').length=X.C.length:=yS;refine⟨_,h.walked hk hC hm hb hF dA Ho,hb.mono (fun x _ e=>e.elim (fun e=>⟨k+5,hk,e⟩) (fun e=>⟨1,e⟩)),fun x hx=> ?_⟩;simp only[hl]at hx;exact yaQ hk hF dA x hx
theorem Dsk.ylJ {w w':z} {b k:Nat} {D:Dsd} {X:Pg.Spc} {C':Pg.Cr} {Fc:Nat->Prop} (h:Dsk w b D X) (hk:k<X.C.length) (hC:qr w' (D.cb k) 0 C' Fc) (hb:But (D.cF k) w w') (hF:∀x,Fc x->D.cF k x\/w.heap.size<=x):
 zi w b D X {X with C:=X.C.set k C'} w':=by
 have hl:(X.C.set k C').length=X.C.length:=yS;refine⟨_,h.asked hk hC hb hF,hb.mono (fun x _ e=>⟨k+5,hk,e⟩),fun x hx=> ?_⟩;simp only[hl]at hx;exact ybQ hk hF x hx
theorem Dsk.apart {w:z} {b k:Nat} {D:Dsd} {X:Pg.Spc} (h:Dsk w b D X) (hk:k<X.C.length):∀j,D.cF k j->¬D.FM j:=fun j hj hm=>by
 have:=h.part (k+5) 1 j ⟨hk,hj⟩ hm;omega
theorem ybU {b:Nat} {D:Dsd} {X:Pg.Spc} (x:Pg.Sx) (hc:x.core<0\/(X.C.length:Int)<=x.core) (w:z) (h:Dsk w b D X):
 Calls Z 53 #[Y (N ⟨b,0,B⟩),x.val] w fun e w'=>e=Q (Pg.Ev.code 1).val/\Below w.heap.size w w':=by
 obtain⟨W,hW⟩:∃W,W=chW w x:=⟨_,rfl⟩
 have CW:Hid (ChW w W x):=by rw[hW];exact xM w x
 have HH:=qj x.core W (h.grow CW.out.bel);rw[show(decide (0<=x.core)&&decide (x.core<(X.C.length:Int)))=U by simp;omega]at HH;have rU:W.heap.size=w.heap.size+2:=CW.out.size;have x1:=CW.out.x1;clear h hc;obtain⟨kd,co,⟨p,s,f,r⟩,q,k,u⟩:=x;simp only at x1 HH;simp only[chW,Pg.Sx.val]at hW ⊢
 go_enter Tryz.func53,Tryz.ntmps53
 go_upto_region 1 with fail
 rw[<-hW];clear hW
 go_wp2_with fail
 refine HH.mono ?_;rintro e w1 ⟨rfl,hw⟩;subst w1
 go_wp2_with fail
 refine(xA 1 _).mono ?_;rintro e w2 ⟨rfl,Hd⟩;obtain⟨⟨z0,z1,z2,z3,z4,z5⟩,zf⟩:=zG ((Hd.block _ (by omega)).trans CW.out.ev)
 have pR:w.heap.size+1<w2.heap.size:=by have:=Hd.size;omega
 have Ht:Hid (Below w.heap.size w w2):=zT CW.out.bel Hd;clear Hd;simp only[Pg.Ev.val,Pg.Ev.code]
 go_wp2_with fail
 refine bodyPost_ret (v:=(Pg.Ev.code 1).val) ?_ rfl ⟨rfl,?_⟩
 ·simp[results,Tryz.results53,go_sem,z0,z1,z2,z3,z4,z5,pR,Pg.Ev.val,Pg.Ev.code]
 ·exact vo Ht.out _ (by omega) _ _ _ _ _ _
theorem ybm {b:Nat} {D:Dsd} {X:Pg.Spc} {c:Nat} (x:Pg.Sx) (hx:x.kind=4) (hc:x.core=(c:Int)) (hl:c<X.C.length) (w:z) (h:Dsk w b D X):
 Calls Z 53 #[Y (N ⟨b,0,B⟩),x.val] w fun e w'=>e=Q ((X.C.getD c Pg.Cr.new).bgT x.q x.k x.u).ev.val/\zi w b D X {X with C:=X.C.set c ((X.C.getD c Pg.Cr.new).bgN 0 x.q x.k x.u)} w':=by
 obtain⟨W,hW⟩:∃W,W=chW w x:=⟨_,rfl⟩
 have CW:Hid (ChW w W x):=by rw[hW];exact xM w x
 have PW:Hid _:=h.grow CW.out.bel;have HH:=qj x.core W PW.out;rw[show(decide (0<=x.core)&&decide (x.core<(X.C.length:Int)))=uc by rw[hc];simp[hl]]at HH;have LT:Hid (∀x,dsF D b X.C.length X.G x->x<w.heap.size):=h.owns;have rU:W.heap.size=w.heap.size+2:=CW.out.size;have x1:=CW.out.x1;have g2:=cell_regrown PW.out.c2;have gc:=cell_regrown (PW.out.row c hl);have y1:=cell_regrown CW.out.x1;clear h;obtain⟨kd,co,⟨p,s,f,r⟩,q,k,u⟩:=x;simp only at hx hc x1 y1 HH;subst hx hc
 have i0:(0:Int)<=(c:Int):=by omega
 have i1:(c:Int)<(X.C.length:Int):=by omega
 have gG:=fun w' (h:qr w' (D.cb c) 0 (X.C.getD c Pg.Cr.new) (D.cF c))=>ycE q k u w' h;generalize hT:(X.C.getD c Pg.Cr.new).bgT q k u=T at*;generalize aW:(X.C.getD c Pg.Cr.new).bgN 0 q k u=C' at*;clear hT aW;obtain⟨ta,tf,tr,te,tc⟩:=T;simp only[Pg.Tl.val,Pg.Tl.ev]at gG ⊢;simp only[chW,Pg.Sx.val]at hW ⊢
 go_enter Tryz.func53,Tryz.ntmps53
 go_upto_region 1 with fail
 rw[<-hW];clear hW
 go_wp2_with fail
 refine HH.mono ?_;rintro e w1 ⟨rfl,hw⟩;subst w1
 go_upto_region 3 with fail
 clear HH x1;refine Loose.yhr 8 (by kernel_rfl) (by kernel_rfl) ?_;simp only[O,kO,M,ki]
 repeat (
  refine Loose.zS (fun k hk=> ?_)
  go_simp
  (refine hk _ ?_;clear hk k))
 refine Loose.yhs ?_;intro w3 He;have P3:Hid _:=PW.out.grow He;have B3:Hid (Below w.heap.size w w3):=zT CW.out.bel He;have E3:Hid (w3.heap[w.heap.size+1]?=_):=(He.block _ (by omega)).trans CW.out.ev
 have dW:w.heap.size+1<w3.heap.size:=by have:=He.size;omega
 have x0:=(He.cell (p:=⟨w.heap.size,0,B⟩) (show w.heap.size<_ by omega)).trans CW.out.x0;have x1:=(He.cell (p:=⟨w.heap.size,1,B⟩) (show w.heap.size<_ by omega)).trans CW.out.x1;have x6:=(He.cell (p:=⟨w.heap.size,6,B⟩) (show w.heap.size<_ by omega)).trans CW.out.x6;have x7:=(He.cell (p:=⟨w.heap.size,7,B⟩) (show w.heap.size<_ by omega)).trans CW.out.x7;have x8:=(He.cell (p:=⟨w.heap.size,8,B⟩) (show w.heap.size<_ by omega)).trans CW.out.x8;simp only at x0 x1 x6 x7 x8;clear He g2 gc y1 PW CW;have gG:=gG w3 (P3.out.core c hl)
 go_wp2_with fail
 refine gG.mono ?_;rintro e w4 ⟨rfl,dD,Hl⟩;have D4:Hid _:=P3.out.ylJ hl dD Hl (fun x hx=> .inl hx);clear dD Hl gG P3
 go_wp2_with fail
 refine(jF ta tf tr tc te _).mono ?_;rintro e w5 ⟨rfl,rA⟩;have D5:Hid _:=D4.out.grow rA;clear rA D4;have FIN:Hid (∀Wf,But (fun x=>x=w.heap.size+1) w5 Wf->zi w b D X {X with C:=X.C.set c C'} Wf):=fun Wf hb=>D5.out.behind B3.out LT.out (fun x e=>by omega) hb;obtain⟨e5,uk⟩:=D5.out.block (w:=w) (r:=w.heap.size+1) LT.out (by omega) (by omega);obtain⟨⟨z0,z1,z2,z3,z4,z5⟩,zf⟩:=zG (e5.trans E3.out);clear e5 D5 E3 B3 x0 x1 x6 x7 x8;simp only[Pg.Ev.val,Pg.Ev.code]
 go_wp2_with fail
 refine bodyPost_ret (v:=Pg.Ev.val ⟨tc,te,ta,tf,tr,U⟩) ?_ rfl ⟨rfl,FIN.out _ ?_⟩
 ·simp[results,Tryz.results53,go_sem,z0,z1,z2,z3,z4,z5,uk,Pg.Ev.val,Pg.Ev.code]
 ·exact ycr _ _ _ _ _ _ _ _
theorem dvCore_walk {b:Nat} {D:Dsd} {X:Pg.Spc} {c:Nat} (x:Pg.Sx) (hx:x.kind=5) (hc:x.core=(c:Int)) (hl:c<X.C.length) (w:z) (h:Dsk w b D X):
 Calls Z 53 #[Y (N ⟨b,0,B⟩),x.val] w fun e w'=>e=Q ((X.C.getD c Pg.Cr.new).stT X.S 0).ev.val/\zi w b D X {X with S:=(X.C.getD c Pg.Cr.new).stS X.S 0,C:=X.C.set c ((X.C.getD c Pg.Cr.new).stN X.S 0)} w':=by
 obtain⟨W,hW⟩:∃W,W=chW w x:=⟨_,rfl⟩
 have CW:Hid (ChW w W x):=by rw[hW];exact xM w x
 have PW:Hid _:=h.grow CW.out.bel;have HH:=qj x.core W PW.out;rw[show(decide (0<=x.core)&&decide (x.core<(X.C.length:Int)))=uc by rw[hc];simp[hl]]at HH;have LT:Hid (∀x,dsF D b X.C.length X.G x->x<w.heap.size):=h.owns;have rU:W.heap.size=w.heap.size+2:=CW.out.size;have x1:=CW.out.x1;have g2:=cell_regrown PW.out.c2;have gc:=cell_regrown (PW.out.row c hl);have y1:=cell_regrown CW.out.x1;clear h;obtain⟨kd,co,⟨p,s,f,r⟩,q,k,u⟩:=x;simp only at hx hc x1 y1 HH;subst hx hc
 have i0:(0:Int)<=(c:Int):=by omega
 have i1:(c:Int)<(X.C.length:Int):=by omega
 have gG:=fun w' (h:qr w' (D.cb c) 0 (X.C.getD c Pg.Cr.new) (D.cF c)) (hm:zh w' D.bm X.S D.FM) Ho=>ydA w' h hm Ho;generalize hT:(X.C.getD c Pg.Cr.new).stT X.S 0=T at*;generalize aW:(X.C.getD c Pg.Cr.new).stN X.S 0=C' at*;generalize wu:(X.C.getD c Pg.Cr.new).stS X.S 0=S' at*;clear hT aW wu;obtain⟨ta,tf,tr,te,tc⟩:=T;simp only[Pg.Tl.val,Pg.Tl.ev]at gG ⊢;simp only[chW,Pg.Sx.val]at hW ⊢
 go_enter Tryz.func53,Tryz.ntmps53
 go_upto_region 1 with fail
 rw[<-hW];clear hW
 go_wp2_with fail
 refine HH.mono ?_;rintro e w1 ⟨rfl,hw⟩;subst w1
 go_upto_region 3 with fail
 clear HH x1;refine Loose.yhr 8 (by kernel_rfl) (by kernel_rfl) ?_;simp only[O,kO,M,ki]
 repeat (
  refine Loose.zS (fun k hk=> ?_)
  go_simp
  (refine hk _ ?_;clear hk k))
 refine Loose.yhs ?_;intro w3 He;have P3:Hid _:=PW.out.grow He;have B3:Hid (Below w.heap.size w w3):=zT CW.out.bel He;have E3:Hid (w3.heap[w.heap.size+1]?=_):=(He.block _ (by omega)).trans CW.out.ev
 have dW:w.heap.size+1<w3.heap.size:=by have:=He.size;omega
 have x0:=(He.cell (p:=⟨w.heap.size,0,B⟩) (show w.heap.size<_ by omega)).trans CW.out.x0;have x1:=(He.cell (p:=⟨w.heap.size,1,B⟩) (show w.heap.size<_ by omega)).trans CW.out.x1;have x6:=(He.cell (p:=⟨w.heap.size,6,B⟩) (show w.heap.size<_ by omega)).trans CW.out.x6;have x7:=(He.cell (p:=⟨w.heap.size,7,B⟩) (show w.heap.size<_ by omega)).trans CW.out.x7;have x8:=(He.cell (p:=⟨w.heap.size,8,B⟩) (show w.heap.size<_ by omega)).trans CW.out.x8;simp only at x0 x1 x6 x7 x8;clear He g2 gc y1 PW CW;have gG:=gG w3 (P3.out.core c hl) P3.out.mem (P3.out.apart hl);have c0:=P3.out.c0
 go_wp2_with fail
 refine gG.mono ?_;rintro e w4 ⟨rfl,Fc,FM,dD,fZ,Hl,fF,UY,Ho⟩;have D4:Hid _:=P3.out.done hl dD fZ Hl fF UY Ho;clear dD Hl gG P3 fZ fF UY Ho c0
 go_wp2_with fail
 refine(jF ta tf tr tc te _).mono ?_;rintro e w5 ⟨rfl,rA⟩;have D5:Hid _:=D4.out.grow rA;clear rA D4;have FIN:Hid (∀Wf,But (fun x=>x=w.heap.size+1) w5 Wf->zi w b D X {X with S:=S',C:=X.C.set c C'} Wf):=fun Wf hb=>D5.out.behind B3.out LT.out (fun x e=>by omega) hb;obtain⟨e5,uk⟩:=D5.out.block (w:=w) (r:=w.heap.size+1) LT.out (by omega) (by omega);obtain⟨⟨z0,z1,z2,z3,z4,z5⟩,zf⟩:=zG (e5.trans E3.out);clear e5 D5 E3 B3 x0 x1 x6 x7 x8;simp only[Pg.Ev.val,Pg.Ev.code]
 go_wp2_with fail
 refine bodyPost_ret (v:=Pg.Ev.val ⟨tc,te,ta,tf,tr,U⟩) ?_ rfl ⟨rfl,FIN.out _ ?_⟩
 ·simp[results,Tryz.results53,go_sem,z0,z1,z2,z3,z4,z5,uk,Pg.Ev.val,Pg.Ev.code]
 ·exact ycr _ _ _ _ _ _ _ _
theorem ydK {b:Nat} {D:Dsd} {X:Pg.Spc} {c:Nat} (x:Pg.Sx) (hx:x.kind=6) (hc:x.core=(c:Int)) (hl:c<X.C.length) (w:z) (h:Dsk w b D X):
 Calls Z 53 #[Y (N ⟨b,0,B⟩),x.val] w fun e w'=>e=Q (X.akE c).val/\zi w b D X (X.akN c) w':=by
 obtain⟨W,hW⟩:∃W,W=chW w x:=⟨_,rfl⟩
 have CW:Hid (ChW w W x):=by rw[hW];exact xM w x
 have PW:Hid _:=h.grow CW.out.bel;have HH:=qj x.core W PW.out;rw[show(decide (0<=x.core)&&decide (x.core<(X.C.length:Int)))=uc by rw[hc];simp[hl]]at HH;have LT:Hid (∀x,dsF D b X.C.length X.G x->x<w.heap.size):=h.owns;have rU:W.heap.size=w.heap.size+2:=CW.out.size;have x1:=CW.out.x1;have g2:=cell_regrown PW.out.c2;have gc:=cell_regrown (PW.out.row c hl);have y1:=cell_regrown CW.out.x1;clear h;obtain⟨kd,co,⟨p,s,f,r⟩,q,k,u⟩:=x;simp only at hx hc x1 y1 HH;subst hx hc
 have i0:(0:Int)<=(c:Int):=by omega
 have i1:(c:Int)<(X.C.length:Int):=by omega
 have gG:=fun w' (h:Dsk w' b D X)=>yew hl w' h;generalize hT:X.akE c=T at*;generalize aW:X.akN c=X' at*;clear hT aW;obtain⟨tc,te,ta,tf,tr,tb⟩:=T;simp only[chW,Pg.Sx.val]at hW ⊢
 go_enter Tryz.func53,Tryz.ntmps53
 go_upto_region 1 with fail
 rw[<-hW];clear hW
 go_wp2_with fail
 refine HH.mono ?_;rintro e w1 ⟨rfl,hw⟩;subst w1
 go_upto_region 3 with fail
 clear HH x1;refine Loose.yhr 8 (by kernel_rfl) (by kernel_rfl) ?_;simp only[O,kO,M,ki]
 repeat (
  refine Loose.zS (fun k hk=> ?_)
  go_simp
  (refine hk _ ?_;clear hk k))
 refine Loose.yhs ?_;intro w3 He;have P3:Hid _:=PW.out.grow He;have B3:Hid (Below w.heap.size w w3):=zT CW.out.bel He;have E3:Hid (w3.heap[w.heap.size+1]?=_):=(He.block _ (by omega)).trans CW.out.ev
 have dW:w.heap.size+1<w3.heap.size:=by have:=He.size;omega
 have x0:=(He.cell (p:=⟨w.heap.size,0,B⟩) (show w.heap.size<_ by omega)).trans CW.out.x0;have x1:=(He.cell (p:=⟨w.heap.size,1,B⟩) (show w.heap.size<_ by omega)).trans CW.out.x1;have x6:=(He.cell (p:=⟨w.heap.size,6,B⟩) (show w.heap.size<_ by omega)).trans CW.out.x6;have x7:=(He.cell (p:=⟨w.heap.size,7,B⟩) (show w.heap.size<_ by omega)).trans CW.out.x7;have x8:=(He.cell (p:=⟨w.heap.size,8,B⟩) (show w.heap.size<_ by omega)).trans CW.out.x8;simp only at x0 x1 x6 x7 x8;clear He g2 gc y1 PW CW;have gG:=gG w3 P3.out
 go_wp2_with fail
 refine gG.mono ?_;rintro e w4 ⟨rfl,d4⟩;have D5:Hid _:=d4;clear d4 gG P3;have FIN:Hid (∀Wf,But (fun x=>x=w.heap.size+1) w4 Wf->zi w b D X X' Wf):=fun Wf hb=>D5.out.behind B3.out LT.out (fun x e=>by omega) hb;obtain⟨e5,uk⟩:=D5.out.block (w:=w) (r:=w.heap.size+1) LT.out (by omega) (by omega);obtain⟨⟨z0,z1,z2,z3,z4,z5⟩,zf⟩:=zG (e5.trans E3.out);clear e5 D5 E3 B3 x0 x1 x6 x7 x8;simp only[Pg.Ev.val,Pg.Ev.code]
 go_wp2_with fail
 refine bodyPost_ret (v:=Pg.Ev.val ⟨tc,te,ta,tf,tr,tb⟩) ?_ rfl ⟨rfl,FIN.out _ ?_⟩
 ·simp[results,Tryz.results53,go_sem,z0,z1,z2,z3,z4,z5,uk,Pg.Ev.val,Pg.Ev.code]
 ·exact ycr _ _ _ _ _ _ _ _
theorem ybT {b:Nat} {D:Dsd} {X:Pg.Spc} {c:Nat} (x:Pg.Sx) (hx:x.kind=7) (hc:x.core=(c:Int)) (hl:c<X.C.length) (w:z) (h:Dsk w b D X):
 Calls Z 53 #[Y (N ⟨b,0,B⟩),x.val] w fun e w'=>e=Q (if (X.C.getD c Pg.Cr.new).L=[]then Pg.Ev.code 9 else Pg.Ev.code 0).val/\zi w b D X {X with C:=X.C.set c (X.C.getD c Pg.Cr.new).yig} w':=by
 obtain⟨W,hW⟩:∃W,W=chW w x:=⟨_,rfl⟩
 have CW:Hid (ChW w W x):=by rw[hW];exact xM w x
 have PW:Hid _:=h.grow CW.out.bel;have HH:=qj x.core W PW.out;rw[show(decide (0<=x.core)&&decide (x.core<(X.C.length:Int)))=uc by rw[hc];simp[hl]]at HH;have LT:Hid (∀x,dsF D b X.C.length X.G x->x<w.heap.size):=h.owns;have rU:W.heap.size=w.heap.size+2:=CW.out.size;have x1:=CW.out.x1;have g2:=cell_regrown PW.out.c2;have gc:=cell_regrown (PW.out.row c hl);have y1:=cell_regrown CW.out.x1;clear h;obtain⟨kd,co,⟨p,s,f,r⟩,q,k,u⟩:=x;simp only at hx hc x1 y1 HH;subst hx hc
 have i0:(0:Int)<=(c:Int):=by omega
 have i1:(c:Int)<(X.C.length:Int):=by omega
 have gG:=fun w' (h:qr w' (D.cb c) 0 (X.C.getD c Pg.Cr.new) (D.cF c))=>ycK w' h;generalize hT:(if (X.C.getD c Pg.Cr.new).L=[]then Pg.Ev.code 9 else Pg.Ev.code 0)=T at*;generalize aW:(X.C.getD c Pg.Cr.new).yig=C' at*;clear hT aW;obtain⟨tc,te,ta,tf,tr,tb⟩:=T;simp only[chW,Pg.Sx.val]at hW ⊢
 go_enter Tryz.func53,Tryz.ntmps53
 go_upto_region 1 with fail
 rw[<-hW];clear hW
 go_wp2_with fail
 refine HH.mono ?_;rintro e w1 ⟨rfl,hw⟩;subst w1
 go_upto_region 3 with fail
 clear HH x1;refine Loose.yhr 8 (by kernel_rfl) (by kernel_rfl) ?_;simp only[O,kO,M,ki]
 repeat (
  refine Loose.zS (fun k hk=> ?_)
  go_simp
  (refine hk _ ?_;clear hk k))
 refine Loose.yhs ?_;intro w3 He;have P3:Hid _:=PW.out.grow He;have B3:Hid (Below w.heap.size w w3):=zT CW.out.bel He;have E3:Hid (w3.heap[w.heap.size+1]?=_):=(He.block _ (by omega)).trans CW.out.ev
 have dW:w.heap.size+1<w3.heap.size:=by have:=He.size;omega
 have x0:=(He.cell (p:=⟨w.heap.size,0,B⟩) (show w.heap.size<_ by omega)).trans CW.out.x0;have x1:=(He.cell (p:=⟨w.heap.size,1,B⟩) (show w.heap.size<_ by omega)).trans CW.out.x1;have x6:=(He.cell (p:=⟨w.heap.size,6,B⟩) (show w.heap.size<_ by omega)).trans CW.out.x6;have x7:=(He.cell (p:=⟨w.heap.size,7,B⟩) (show w.heap.size<_ by omega)).trans CW.out.x7;have x8:=(He.cell (p:=⟨w.heap.size,8,B⟩) (show w.heap.size<_ by omega)).trans CW.out.x8;simp only at x0 x1 x6 x7 x8;clear He g2 gc y1 PW CW;have gG:=gG w3 (P3.out.core c hl)
 go_wp2_with fail
 refine gG.mono ?_;rintro e w4 ⟨rfl,Fc,dD,Hl,fF⟩;have D5:Hid _:=P3.out.ylJ hl dD Hl fF;clear dD Hl fF gG P3;have FIN:Hid (∀Wf,But (fun x=>x=w.heap.size+1) w4 Wf->zi w b D X {X with C:=X.C.set c C'} Wf):=fun Wf hb=>D5.out.behind B3.out LT.out (fun x e=>by omega) hb;obtain⟨e5,uk⟩:=D5.out.block (w:=w) (r:=w.heap.size+1) LT.out (by omega) (by omega);obtain⟨⟨z0,z1,z2,z3,z4,z5⟩,zf⟩:=zG (e5.trans E3.out);clear e5 D5 E3 B3 x0 x1 x6 x7 x8;simp only[Pg.Ev.val,Pg.Ev.code]
 go_wp2_with fail
 refine bodyPost_ret (v:=Pg.Ev.val ⟨tc,te,ta,tf,tr,tb⟩) ?_ rfl ⟨rfl,FIN.out _ ?_⟩
 ·simp[results,Tryz.results53,go_sem,z0,z1,z2,z3,z4,z5,uk,Pg.Ev.val,Pg.Ev.code]
 ·exact ycr _ _ _ _ _ _ _ _
theorem ybR {b:Nat} {D:Dsd} {X:Pg.Spc} (x:Pg.Sx) (hx:1<=x.kind/\x.kind<=3) (w:z) (h:Dsk w b D X):
 Calls Z 52 #[Y (N ⟨b,0,B⟩),x.val] w fun e w'=>e=Q (X.chE x).val/\zi w b D X (X.chN x) w':=by
 unfold Pg.Spc.chE Pg.Spc.chN;cases hb:X.busy
 ·simp only[Bool.false_eq_true,if_false]
  by_cases h1:x.kind=1
  ·rw[if_pos h1,if_pos h1]
   exact ybS x h1 hb w h
  ·rw[if_neg h1,if_neg h1]
   by_cases h2:x.kind=2
   ·rw[if_pos h2,if_pos h2]
    exact yao x h2 hb w h (fun e=>if_pos e) (fun e=>if_neg e)
   ·rw[if_neg h2,if_neg h2]
    exact vp x (by omega) hb w h (fun e=>if_pos e) (fun e=>if_neg e)
 ·simp only[if_true]
  refine(ybl x hb w h).mono ?_;rintro e w' ⟨rfl,rR⟩;exact⟨rfl,.same h rR⟩
theorem ydL {b:Nat} {D:Dsd} {X:Pg.Spc} (x:Pg.Sx) (hx:4<=x.kind/\x.kind<=7) (w:z) (h:Dsk w b D X):
 Calls Z 53 #[Y (N ⟨b,0,B⟩),x.val] w fun e w'=>e=Q (X.goE x).val/\zi w b D X (X.goN x) w':=by
 unfold Pg.Spc.goE Pg.Spc.goN;rw[if_neg (show ¬(1<=x.kind/\x.kind<=3) by omega),if_neg (show ¬(1<=x.kind/\x.kind<=3) by omega),if_neg (show ¬(x.kind<1\/7<x.kind) by omega),if_neg (show ¬(x.kind<1\/7<x.kind) by omega)]
 by_cases hr:x.core<0\/(X.C.length:Int)<=x.core
 ·rw[if_pos hr,if_pos hr]
  refine(ybU x hr w h).mono ?_;rintro e w' ⟨rfl,rR⟩;exact⟨rfl,.same h rR⟩
 ·rw[if_neg hr,if_neg hr]
  obtain⟨c,hc⟩:=Int.eq_ofNat_of_zero_le (show 0<=x.core by omega)
  have hl:c<X.C.length:=by omega
  have ea:X.at' x.core=X.C.getD c Pg.Cr.new:=by unfold Pg.Spc.at';rw[hc,Int.toNat_natCast]
  have et:x.core.toNat=c:=by rw[hc,Int.toNat_natCast]
  rw[ea,et]
  by_cases h4:x.kind=4
  ·rw[if_pos h4,if_pos h4]
   exact ybm x h4 hc hl w h
  ·rw[if_neg h4,if_neg h4]
   by_cases h5:x.kind=5
   ·rw[if_pos h5,if_pos h5]
    exact dvCore_walk x h5 hc hl w h
   ·rw[if_neg h5,if_neg h5]
    by_cases h6:x.kind=6
    ·rw[if_pos h6,if_pos h6,hc]
     exact ydK x h6 hc hl w h
    ·rw[if_neg h6,if_neg h6]
     exact ybT x (by omega) hc hl w h
theorem ycJ {b:Nat} {D:Dsd} {X:Pg.Spc} (x:Pg.Sx) (hx:x.kind=1\/x.kind=2\/x.kind=3) (w:z) (h:Dsk w b D X):
 Calls Z 12 #[Y (N ⟨b,0,B⟩),x.val] w fun e w'=>e=Q (X.chE x).val/\zi w b D X (X.chN x) w':=by
 obtain⟨W,hW⟩:∃W,W=chW w x:=⟨_,rfl⟩
 have CW:Hid (ChW w W x):=by rw[hW];exact xM w x
 have LT:Hid (∀x,dsF D b X.C.length X.G x->x<w.heap.size):=h.owns;have HC:=ybR x (by omega) W (h.grow CW.out.bel);have rU:W.heap.size=w.heap.size+2:=CW.out.size;obtain⟨x0,x1,x2,x3,x4,x5,x6,x7,x8⟩:=(⟨CW.out.x0,CW.out.x1,CW.out.x2,CW.out.x3,CW.out.x4,CW.out.x5,CW.out.x6,CW.out.x7,CW.out.x8⟩:_/\_/\_/\_/\_/\_/\_/\_/\_);clear h;generalize hE:X.chE x=E at*;generalize hN:X.chN x=X' at*;clear hE hN;obtain⟨kd,co,⟨p,s,f,r⟩,q,k,u⟩:=x;simp only[chW,Pg.Sx.val]at hW HC hx x0 x1 x2 x3 x4 x5 x6 x7 x8 ⊢;obtain⟨ec,en,ea,ef,er,eb⟩:=E;simp only[Pg.Ev.val]at HC ⊢;rcases hx with rfl|rfl|rfl
 all_goals
  go_enter Tryz.func12,Tryz.ntmps12
  go_upto_region 1 with fail
  rw[<-hW];clear hW
  go_wp2_with fail
  refine HC.mono ?_;rintro e w1 ⟨rfl,d1⟩;have D1:Hid _:=d1;obtain⟨e1,rQ⟩:=d1.block (w:=w) (r:=w.heap.size+1) LT.out (by omega) (by omega);obtain⟨⟨z0,z1,z2,z3,z4,z5⟩,zf⟩:=zG (e1.trans CW.out.ev);have FIN:Hid (∀Wf,But (fun x=>x=w.heap.size+1) w1 Wf->zi w b D X X' Wf):=fun Wf hb=>D1.out.behind CW.out.bel LT.out (fun x e=>by omega) hb;clear d1 D1 e1 HC x0 x1 x2 x3 x4 x5 x6 x7 x8 CW
  go_wp2_with fail
  refine bodyPost_ret (v:=ks #[I J ec,y en,I J ea,I J ef,I J er,y eb]) ?_ rfl ⟨rfl,FIN.out _ ?_⟩
  ·simp[results,Tryz.results12,go_sem,z0,z1,z2,z3,z4,z5,rQ]
  ·exact ycr _ _ _ _ _ _ _ _
theorem yex {b:Nat} {D:Dsd} {X:Pg.Spc} (x:Pg.Sx) (hx:x.kind=4\/x.kind=5\/x.kind=6\/x.kind=7) (w:z) (h:Dsk w b D X):
 Calls Z 12 #[Y (N ⟨b,0,B⟩),x.val] w fun e w'=>e=Q (X.goE x).val/\zi w b D X (X.goN x) w':=by
 obtain⟨W,hW⟩:∃W,W=chW w x:=⟨_,rfl⟩
 have CW:Hid (ChW w W x):=by rw[hW];exact xM w x
 have LT:Hid (∀x,dsF D b X.C.length X.G x->x<w.heap.size):=h.owns;have HC:=ydL x (by omega) W (h.grow CW.out.bel);have rU:W.heap.size=w.heap.size+2:=CW.out.size;obtain⟨x0,x1,x2,x3,x4,x5,x6,x7,x8⟩:=(⟨CW.out.x0,CW.out.x1,CW.out.x2,CW.out.x3,CW.out.x4,CW.out.x5,CW.out.x6,CW.out.x7,CW.out.x8⟩:_/\_/\_/\_/\_/\_/\_/\_/\_);clear h;generalize hE:X.goE x=E at*;generalize hN:X.goN x=X' at*;clear hE hN;obtain⟨kd,co,⟨p,s,f,r⟩,q,k,u⟩:=x;simp only[chW,Pg.Sx.val]at hW HC hx x0 x1 x2 x3 x4 x5 x6 x7 x8 ⊢;obtain⟨ec,en,ea,ef,er,eb⟩:=E;simp only[Pg.Ev.val]at HC ⊢;rcases hx with rfl|rfl|rfl|rfl
 all_goals
  go_enter Tryz.func12,Tryz.ntmps12
  go_upto_region 1 with fail
  rw[<-hW];clear hW
  go_wp2_with fail
  refine HC.mono ?_;rintro e w1 ⟨rfl,d1⟩;have D1:Hid _:=d1;obtain⟨e1,rQ⟩:=d1.block (w:=w) (r:=w.heap.size+1) LT.out (by omega) (by omega);obtain⟨⟨z0,z1,z2,z3,z4,z5⟩,zf⟩:=zG (e1.trans CW.out.ev);have FIN:Hid (∀Wf,But (fun x=>x=w.heap.size+1) w1 Wf->zi w b D X X' Wf):=fun Wf hb=>D1.out.behind CW.out.bel LT.out (fun x e=>by omega) hb;clear d1 D1 e1 HC x0 x1 x2 x3 x4 x5 x6 x7 x8 CW
  go_wp2_with fail
  refine bodyPost_ret (v:=ks #[I J ec,y en,I J ea,I J ef,I J er,y eb]) ?_ rfl ⟨rfl,FIN.out _ ?_⟩
  ·simp[results,Tryz.results12,go_sem,z0,z1,z2,z3,z4,z5,rQ]
  ·exact ycr _ _ _ _ _ _ _ _
theorem yey {b:Nat} {D:Dsd} {X:Pg.Spc} (x:Pg.Sx) (hx:x.kind<1\/7<x.kind) (w:z) (h:Dsk w b D X):
 Calls Z 12 #[Y (N ⟨b,0,B⟩),x.val] w fun e w'=>e=Q (Pg.Ev.code 2).val/\Below w.heap.size w w':=by
 obtain⟨W,hW⟩:∃W,W=chW w x:=⟨_,rfl⟩
 have CW:Hid (ChW w W x):=by rw[hW];exact xM w x
 have rU:W.heap.size=w.heap.size+2:=CW.out.size;have x0:=CW.out.x0;clear h;obtain⟨kd,co,⟨p,s,f,r⟩,q,k,u⟩:=x;simp only[chW,Pg.Sx.val]at hW hx x0 ⊢
 have k1:(kd==1)=U:=by simp;omega
 have k2:(kd==2)=U:=by simp;omega
 have k3:(kd==3)=U:=by simp;omega
 have k4:(kd==4)=U:=by simp;omega
 have k5:(kd==5)=U:=by simp;omega
 have k6:(kd==6)=U:=by simp;omega
 have k7:(kd==7)=U:=by simp;omega
 clear hx
 go_enter Tryz.func12,Tryz.ntmps12
 go_upto_region 1 with fail
 rw[<-hW];clear hW
 go_wp2_with fail
 refine(xA 2 _).mono ?_;rintro e w2 ⟨rfl,Hd⟩;obtain⟨⟨z0,z1,z2,z3,z4,z5⟩,zf⟩:=zG ((Hd.block _ (by omega)).trans CW.out.ev)
 have pR:w.heap.size+1<w2.heap.size:=by have:=Hd.size;omega
 have Ht:Hid (Below w.heap.size w w2):=zT CW.out.bel Hd;clear Hd;simp only[Pg.Ev.val,Pg.Ev.code]
 go_wp2_with fail
 refine bodyPost_ret (v:=(Pg.Ev.code 2).val) ?_ rfl ⟨rfl,?_⟩
 ·simp[results,Tryz.results12,go_sem,z0,z1,z2,z3,z4,z5,pR,Pg.Ev.val,Pg.Ev.code]
 ·exact vo Ht.out _ (by omega) _ _ _ _ _ _
theorem yfs {b:Nat} {X:Pg.Spc} {F:Nat->Prop} (x:Pg.Sx) (w:z) (h:yam w b X F):
 Calls Z 12 #[Y (N ⟨b,0,B⟩),x.val] w fun e w'=>e=Q (X.goE x).val/\∃F',yam w' b (X.goN x) F'/\But F w w'/\∀k,F' k->F k\/w.heap.size<=k:=by
 obtain⟨D,h,rfl⟩:=h
 have key:Calls Z 12 #[Y (N ⟨b,0,B⟩),x.val] w fun e w'=>e=Q (X.goE x).val/\zi w b D X (X.goN x) w':=by
  by_cases hk:1<=x.kind/\x.kind<=3
  ·have e1:X.goE x=X.chE x:=by unfold Pg.Spc.goE;rw[if_pos hk]
   have e2:X.goN x=X.chN x:=by unfold Pg.Spc.goN;rw[if_pos hk]
   rw[e1,e2];exact ycJ x (by omega) w h
  ·by_cases tC:x.kind<1\/7<x.kind
   ·have e1:X.goE x= .code 2:=by unfold Pg.Spc.goE;rw[if_neg hk,if_pos tC]
    have e2:X.goN x=X:=by unfold Pg.Spc.goN;rw[if_neg hk,if_pos tC]
    rw[e1,e2];refine(yey x tC w h).mono ?_;rintro e w' ⟨rfl,rR⟩;exact⟨rfl,.same h rR⟩
   ·exact yex x (by omega) w h
 refine key.mono ?_;rintro e w' ⟨rfl,D',h1,h3,h4⟩;exact⟨rfl,_,⟨D',h1,rfl⟩,h3,h4⟩
end Go.Proofs.YtdphiompijbelaaGreat
namespace Go.Proofs.YtdphiompijbelaaGreat
open Go.RowKit Go.Sort
def j7 (cb:Nat->Nat) (k:Nat):List Value:=(List.range k).map fun j=>Y (N ⟨cb j,0,B⟩)
theorem ycZ (cb:Nat->Nat) {k j:Nat} (h:j<k):(j7 cb k)[j]?=N (Y (N ⟨cb j,0,B⟩)):=by simp[j7,h]
theorem vW (cb:Nat->Nat) (k:Nat):j7 cb (k+1)=j7 cb k++[Y (N ⟨cb k,0,B⟩)]:=by simp[j7,List.range_succ]
theorem vX {cb cb':Nat->Nat} {k:Nat} (h:∀j,j<k->cb j=cb' j):j7 cb k=j7 cb' k:=by
 unfold j7;refine List.map_congr_left fun j hj=> ?_;rw[h j (by simpa using hj)]
set_option linter.all false
set_option maxRecDepth 100000
theorem yeK:(Tryz.prog.info? 114).map (fun i=>(i.zero,i.size,i.bytes))=N (N (Y B),1,8):=by kernel_rfl
structure yfl (w wr:z) (b bm bs:Nat) (FM:Nat->Prop) (vC:Value) (S:Pg.Fs) (k:Nat) (cb:Nat->Nat) (cF:Nat->Nat->Prop):Prop where
 bel:Below w.heap.size w wr
 c0:wr.cell? ⟨b,0,B⟩=N (Y (N ⟨bm,0,B⟩))
 c1:wr.cell? ⟨b,1,B⟩=N (I J 0)
 c2:wr.cell? ⟨b,2,B⟩=N vC
 c3:wr.cell? ⟨b,3,B⟩=N (Y (N ⟨bs,0,B⟩))
 c4:wr.cell? ⟨b,4,B⟩=N (un B 0 0)
 fb:∀p,wr.frozen? ⟨b,p,B⟩=U
 mem:zh wr bm S FM
 tl:jD wr bs .zz (fun _=>U)
 mlo:∀x,FM x->w.heap.size<x/\x<b/\x≠bs
 blo:w.heap.size<bs/\bs<b
 own:wr.ownsRow (b+1) 114 1 vC k (j7 cb k)
 core:∀j,j<k->qr wr (cb j) 0 Pg.Cr.new (cF j)
 far:∀j x,j<k->cF j x->b<x/\vC.ownBlock≠N x
 inj:∀i j x,i<k->j<k->cF i x->cF j x->i=j
 rz:wr.heap[w.heap.size]?=N (A #[I J 0,I J 0] 27 (0,0))
section
variable {w wr w2 w6:z} {b bm bs g cap k:Nat} {FM:Nat->Prop} {vC:Value} {S:Pg.Fs} {cb:Nat->Nat} {cF:Nat->Nat->Prop}
theorem yfl.lb (h:yfl w wr b bm bs FM vC S k cb cF):b<wr.heap.size:=kh _ _ h.c0
theorem yfl.done {n co:Nat} (h:yfl w wr b bm bs FM vC (Pg.Fs.new n).take co cb cF) (h1:1<=co) (h4:co<=4):∃F,yam wr b (Pg.Spc.new co n) F/\∀k,F k->w.heap.size<k:=by
 obtain⟨gc,cc,rfl,fU,hgl⟩:=h.own.form (by omega);have rR:=h.blo;obtain⟨D,hD⟩:∃D:Dsd,D=⟨bm,FM,gc,cc,cb,cF,bs,B,0⟩:=⟨_,rfl⟩
 have dQ:∀i x,D.own b co [] i x->(i=0/\x=b)\/(i=1/\w.heap.size<x/\x<b/\x≠bs)\/(i=2/\x=gc)\/(i=3/\x=bs)\/(∃j,i=j+5/\j<co/\cF j x/\b<x/\x≠gc):=fun i x hx=>by
  rw[hD]at hx
  match i with
  | 0=>exact .inl ⟨rfl,hx⟩
  | 1=>exact .inr (.inl ⟨rfl,h.mlo x hx⟩)
  | 2=>exact .inr (.inr (.inl ⟨rfl,hx⟩))
  | 3=>exact .inr (.inr (.inr (.inl ⟨rfl,hx⟩)))
  | 4=>exact absurd rfl hx.1
  | j+5=>
    have hf:=h.far j x hx.1 hx.2;exact .inr (.inr (.inr (.inr ⟨j,rfl,hx.1,hx.2,hf.1,fun e=>hf.2 (by simp[yJ,e])⟩)))
 have hC:(Pg.Spc.new co n).C.length=co:=by simp[Pg.Spc.new]
 have hG:(Pg.Spc.new co n).G=[]:=rfl;refine⟨_,⟨D,?_,rfl⟩,fun x hx=> ?_⟩
 ·have Tv:∀j,j<co->(Pg.Spc.new co n).C.getD j Pg.Cr.new=Pg.Cr.new:=fun j hj=>by simp[Pg.Spc.new,List.getD,hj]
  have Tw:(fun j=>(Pg.Spc.new co n).W.getD j U)=fun _=>U:=by
   funext j
   by_cases hj:j<co<;>simp[Pg.Spc.new,List.getD,hj]
  refine⟨?_,h.c1,?_,?_,?_,h.fb,?_,fun j hj=> ?_,fun j hj=> ?_,?_,fun j hj=> ?_,fun i j x hi hj=> ?_,by simp[Pg.Spc.new],by rw[hC];exact h1,by rw[hC];exact h4,?_,by simp[Pg.Spc.new]⟩
  ·rw[hD];exact h.c0
  ·rw[hD,hC];exact h.c2
  ·rw[hD];exact h.c3
  ·rw[hD];exact h.c4
  ·rw[hD];exact h.mem
  ·rw[hC]at hj
   rw[hD]
   show wr.cell? ⟨gc,j,B⟩=_
   rw[h.own.cellAt j (by omega),ycZ cb hj]
  ·rw[hC]at hj
   rw[hD,Tv j hj];exact h.core j hj
  ·rw[hD,Tw]
   exact h.tl
  ·rw[hG]at hj
   simp at hj
  ·rw[hC,hG]at hi hj
   rcases dQ i x hi with ⟨ei,e1⟩|⟨ei,e1,e2,e3⟩|⟨ei,e1⟩|⟨ei,e1⟩|⟨p,ei,e1,e2,e3,e4⟩<;>rcases dQ j x hj with ⟨ej,f1⟩|⟨ej,f1,f2,f3⟩|⟨ej,f1⟩|⟨ej,f1⟩|⟨q,ej,f1,f2,f3,f4⟩
   all_goals first
    | (subst ei ej;rfl)
    | (exfalso;omega)
    | (have:=h.inj p q x e1 f1 e2 f2;omega)
  ·show Pg.fits 0
   unfold Pg.fits;omega
 ·rw[hC,hG]at hx
  obtain⟨i,hi⟩:=hx
  rcases dQ i x hi with ⟨ei,e1⟩|⟨ei,e1,e2,e3⟩|⟨ei,e1⟩|⟨ei,e1⟩|⟨p,ei,e1,e2,e3,e4⟩<;>omega
theorem yfl.push {cn:Nat} {Fc:Nat->Prop} (h:yfl w wr b bm bs FM vC S k cb cF) (hc:qr w2 cn 0 Pg.Cr.new Fc) (hb:Below wr.heap.size wr w2) (hF:∀x,Fc x->wr.heap.size<=x) (G:ygE b vC w2 w6 g) (hg:vC.ownBlock=N g\/w2.heap.size<=g)
 (ho:w6.ownsRow (b+1) 114 1 (un (N ⟨g,0,B⟩) (k+1) cap) (k+1) (j7 cb k++[Y (N ⟨cn,0,B⟩)])):
 yfl w (w6.setCell ⟨b,2,B⟩ (un (N ⟨g,0,B⟩) (k+1) cap)) b bm bs FM (un (N ⟨g,0,B⟩) (k+1) cap) S (k+1) (fun j=>if j=k then cn else cb j) (fun j=>if j=k then Fc else cF j):=by
 have rY:=h.lb
 have lV:w.heap.size<b:=by have:=h.blo;omega
 have H7:But (fun x=>vC.ownBlock=N x) wr w6:=(But.yhp hb).trans G.but (fun _ _ h=>h);have tq:But (fun x=>vC.ownBlock=N x\/x=b) wr (w6.setCell ⟨b,2,B⟩ (un (N ⟨g,0,B⟩) (k+1) cap)):=(H7.mono (fun _ _ h=> .inl h)).setCell (a:=⟨b,2,B⟩) (.inr (.inr rfl)) _;have Nw:But (fun x=>vC.ownBlock=N x\/x=b) w2 (w6.setCell ⟨b,2,B⟩ (un (N ⟨g,0,B⟩) (k+1) cap)):=(G.but.mono (fun _ _ h=> .inl h)).setCell (a:=⟨b,2,B⟩) (.inr (.inr rfl)) _;have lM:∀x,vC.ownBlock=N x->b<x:=G.far;have kb:=H7.block b rY (fun e=>by have:=lM b e;omega);have e0:∀p,w6.cell? ⟨b,p,B⟩=wr.cell? ⟨b,p,B⟩:=fun p=>yB (a:=⟨b,p,B⟩) kb;have f0:∀p,w6.frozen? ⟨b,p,B⟩=U:=fun p=>(ue (a:=⟨b,p,B⟩) kb).trans (h.fb p);have k0:=(e0 0).trans h.c0;have k1:=(e0 1).trans h.c1;have k2:=(e0 2).trans h.c2;have k3:=(e0 3).trans h.c3;have k4:=(e0 4).trans h.c4;have low:∀x,x<b->¬(vC.ownBlock=N x\/x=b):=fun x hx e=>e.elim (fun e=>by have:=lM x e;omega) (fun e=>by omega);have bJ:But (fun x=>x=b) w6 (w6.setCell ⟨b,2,B⟩ (un (N ⟨g,0,B⟩) (k+1) cap)):=(But.refl (fun x=>x=b) w6).setCell (a:=⟨b,2,B⟩) (.inr rfl) _;have Fz:b<g:=G.gc;have Px:∀x,vC.ownBlock=N x->x<wr.heap.size:=fun x hx=>(h.own.lt x hx).2;have pR:=hb.size
 have new:∀x,Fc x->b<x/\vC.ownBlock≠N x/\x≠g:=fun x hx=>by
  have a1:=hF x hx;have a2:=hc.lt hx;refine⟨by omega,fun e=>by have:=Px x e;omega,fun e=> ?_⟩;rcases hg with h'|h'
  ·have:=Px g h'
   omega
  ·omega
 have old:∀j x,j<k->cF j x->b<x/\vC.ownBlock≠N x/\x≠g/\x<wr.heap.size:=fun j x hj hx=>by
  have a1:=h.far j x hj hx;have a2:=(h.core j hj).lt hx;refine⟨a1.1,a1.2,fun e=> ?_,a2⟩;rcases hg with h'|h'
  ·exact a1.2 (e▸h')
  ·omega
 refine⟨?_,by simp[go_sem,k0],by simp[go_sem,k1],by simp[go_sem,k2],by simp[go_sem,k3],by simp[go_sem,k4],fun p=>by simp[go_sem,f0],h.mem.keep tq (fun x hx=>low x (h.mlo x hx).2.1),h.tl.keep tq (low bs h.blo.2),h.mlo,h.blo,?_,fun j hj=> ?_,fun j x hj hx=> ?_,fun i j x hi hj au Sg=> ?_,(tq.block _ (by have:=h.bel.size;omega) (low _ lV)).trans h.rz⟩
 ·exact h.bel.trans (tq.below h.bel.size (fun x hx=>hx.elim (fun e=>by have:=lM x e;omega) (fun e=>by omega)))
 ·have hp:j7 (fun j=>if j=k then cn else cb j) (k+1)=j7 cb k++[Y (N ⟨cn,0,B⟩)]:=by
   rw[vW,if_pos rfl,vX (cb':=cb) (fun j hj=>by rw[if_neg (by omega)])]
  rw[hp]
  exact zb ho (fun x hx=>by
   have:x=g:=by simpa[yJ]using hx.symm
   subst this
   exact bJ.block x G.gl (by omega))
 ·by_cases e:j=k
  ·subst e
   simp only[if_true];exact hc.keep Nw (fun x hx e=>e.elim (fun e=>(new x hx).2.1 e) (fun e=>by have:=(new x hx).1;omega))
  ·simp only[if_neg e]
   exact(h.core j (by omega)).keep tq (fun x hx e'=>e'.elim (fun e'=>(old j x (by omega) hx).2.1 e') (fun e'=>by have:=(old j x (by omega) hx).1;omega))
 ·have gx:x≠g->(Value.slice (N ⟨g,0,B⟩) (k+1) cap).ownBlock≠N x:=fun Ho e=>Ho (by simpa[yJ]using e.symm)
  by_cases e:j=k
  ·subst e
   simp only[if_true]at hx;exact⟨(new x hx).1,gx (new x hx).2.2⟩
  ·simp only[if_neg e]at hx
   have:=old j x (by omega) hx;exact⟨this.1,gx this.2.2.1⟩
 ·by_cases ei:i=k
  ·by_cases ej:j=k
   ·omega
   ·subst ei
    simp only[if_true]at au;simp only[if_neg ej]at Sg;have a1:=hF x au;have a2:=old j x (by omega) Sg;omega
  ·by_cases ej:j=k
   ·subst ej
    simp only[if_true]at Sg;simp only[if_neg ei]at au;have a1:=hF x Sg;have a2:=old i x (by omega) au;omega
   ·simp only[if_neg ei]at au
    simp only[if_neg ej]at Sg;exact h.inj i j x (by omega) (by omega) au Sg
end
theorem yc2 {w:z} {r:Nat} {v0 v1:Value} {t:TypeId} (h:w.heap[r]?=N (A #[v0,v1] t (0,0))):
 (w.cell? ⟨r,0,B⟩=N v0/\w.cell? ⟨r,1,B⟩=N v1)/\∀i,w.frozen? ⟨r,i,B⟩=U:=
 ⟨by simp[yI,h],fun i=>by simp[ua,h]⟩
theorem yeA (co n:Int) (w:z) (hb:co<1\/4<co\/n<1\/128<n):
 Calls Z 9 #[I J co,I J n] w fun e w'=>e=Q (uv #[Y B,ks #[I J 1,I J (-1)]])/\Below w.heap.size w w':=by
 obtain⟨W,hW⟩:∃W,W=w.alloc (A #[I J 0,I J 0] 27):=⟨_,rfl⟩
 have hB:Below w.heap.size w W:=by rw[hW];exact zA (zR _) _
 have RZ:Hid (W.heap[w.heap.size]?=N (A #[I J 0,I J 0] 27 (0,0))):=by rw[Hid,hW];exact heap_alloc_new _ _
 have rU:w.heap.size<W.heap.size:=by rw[hW];simp
 have HB:Hid _:=hB;clear hB
 have dH:(decide (co<1)=uc)\/(decide (co<1)=U/\decide (4<co)=uc)\/(decide (co<1)=U/\decide (4<co)=U/\decide (n<1)=uc)\/(decide (co<1)=U/\decide (4<co)=U/\decide (n<1)=U/\128<n):=by
  simp only[decide_eq_true_eq,decide_eq_false_iff_not];omega
 clear hb;rcases dH with h1|⟨h1,h2⟩|⟨h1,h2,h3⟩|⟨h1,h2,h3,h4⟩
 iterate 3
  ·obtain⟨⟨z0,z1⟩,zf⟩:=yc2 RZ.out
   go_enter Tryz.func9,Tryz.ntmps9
   go_upto_region 1 with fail
   rw[<-hW];clear hW
   go_wp2_with fail
   refine bodyPost_ret (v:=uv #[Y B,ks #[I J 1,I J (-1)]]) ?_ rfl ⟨rfl,?_⟩
   ·simp[results,Tryz.results9,go_sem,z0,z1,rU]
   ·exact(HB.out.setCell (p:=⟨w.heap.size,0,B⟩) (kp _) _).setCell (p:=⟨w.heap.size,1,B⟩) (kp _) _
 ·have HN:=yeF n (by omega) W
  go_enter Tryz.func9,Tryz.ntmps9
  go_upto_region 1 with fail
  rw[<-hW];clear hW
  go_wp2_with fail
  refine HN.mono ?_;rintro e w1 ⟨rfl,Ha⟩;obtain⟨W2,Hz⟩:∃W2,W2=w1.alloc (A #[I J 1,I J (-1)] 27):=⟨_,rfl⟩
  have Hd:Below w1.heap.size w1 W2:=by rw[Hz];exact zA (zR _) _
  have rQ:w.heap.size<w1.heap.size:=V rU Ha.size;obtain⟨⟨z0,z1⟩,zf⟩:=yc2 ((Hd.block _ rQ).trans ((Ha.block _ rU).trans RZ.out));obtain⟨⟨y0,y1⟩,yf⟩:=yc2 (show W2.heap[w1.heap.size]?=N (A #[I J 1,I J (-1)] 27 (0,0)) by rw[Hz];exact heap_alloc_new _ _);have pR:w.heap.size<W2.heap.size:=V rQ Hd.size;have Ht:Hid (Below w.heap.size w W2):=zT (zT HB.out Ha) Hd
  have Ho:w1.heap.size≠w.heap.size:=by omega
  have wM:w.heap.size≠w1.heap.size:=by omega
  clear Ha Hd HN
  go_upto_region 4 with fail
  rw[<-Hz];clear Hz
  go_upto_region 5 with fail
  go_region
  all_goals
   go_wp2_with fail
   refine bodyPost_ret (v:=uv #[Y B,ks #[I J 1,I J (-1)]]) ?_ rfl ⟨rfl,?_⟩
   ·simp[results,Tryz.results9,go_sem,z0,z1,pR]
   ·exact((Ht.out.setCell (p:=⟨w.heap.size,0,B⟩) (kp _) _).setCell (p:=⟨w.heap.size,1,B⟩) (kp _) _).drew
theorem yez (co n:Nat) (w:z) (h1:1<=co) (h4:co<=4) (hn:1<=n) (FV:n<=128):
 Calls Z 9 #[I J (co:Int),I J (n:Int)] w fun e w'=>∃b F,e=Q (uv #[Y (N ⟨b,0,B⟩),ks #[I J 0,I J 0]])/\yam w' b (Pg.Spc.new co n) F/\Below w.heap.size w w'/\∀k,F k->w.heap.size<=k:=by
 obtain⟨W,hW⟩:∃W,W=w.alloc (A #[I J 0,I J 0] 27):=⟨_,rfl⟩
 have hB:Below w.heap.size w W:=by rw[hW];exact zA (zR _) _
 have RZ:Hid (W.heap[w.heap.size]?=N (A #[I J 0,I J 0] 27 (0,0))):=by rw[Hid,hW];exact heap_alloc_new _ _
 have rU:W.heap.size=w.heap.size+1:=by rw[hW];simp
 have HB:Hid _:=hB
 have d1:decide ((co:Int)<1)=U:=by simp;omega
 have d2:decide ((4:Int)<(co:Int))=U:=by simp;omega
 have d3:decide ((n:Int)<1)=U:=by simp;omega
 have HN:=yeE n FV W;obtain⟨p0,uM,ow,Sa,Sb⟩:=info_parts yeK;clear hB
 go_enter Tryz.func9,Tryz.ntmps9
 go_upto_region 1 with fail
 rw[<-hW];clear hW
 go_wp2_with fail
 refine HN.mono ?_;rintro e w1 ⟨bm,F1,rfl,dV,Ha,tO⟩;obtain⟨W2,Hz⟩:∃W2,W2=w1.alloc (A #[I J 0,I J 0] 27):=⟨_,rfl⟩
 have Hd:Below w1.heap.size w1 W2:=by rw[Hz];exact zA (zR _) _
 have rQ:w.heap.size<w1.heap.size:=by have:=Ha.size;omega
 obtain⟨⟨y0,y1⟩,yf⟩:=yc2 (show W2.heap[w1.heap.size]?=N (A #[I J 0,I J 0] 27 (0,0)) by rw[Hz];exact heap_alloc_new _ _);have Z2:Hid (W2.heap[w.heap.size]?=_):=(Hd.block _ rQ).trans ((Ha.block _ (by omega)).trans RZ.out);have pR:w.heap.size<W2.heap.size:=V rQ Hd.size;have Ht:Hid (Below w.heap.size w W2):=zT (zT HB.out Ha) Hd;have bU:Hid (zh W2 bm (Pg.Fs.new n) F1):=zh.keep (G:=fun _=>False) dV (But.yhp Hd) (fun _ _=>id)
 have Tc:Hid (∀x,F1 x->w.heap.size<x):=fun x hx=>by have:=tO x hx;omega
 have HT:=yaY W2 bU.out;rw[show(Pg.Fs.new n).takeN=0 by unfold Pg.Fs.takeN Pg.Fs.pick Pg.Fs.new;simp only[List.getLast?_nil];rw[if_pos (by omega)];rfl]at HT;clear Ha Hd HN dV tO
 go_upto_region 4 with fail
 rw[<-Hz];clear Hz
 go_wp2_with fail
 refine HT.mono ?_;rintro e w3 ⟨rfl,FM,ll,He,bZ⟩;have rE:Hid (Below w.heap.size w w3):=Ht.out.trans (He.below Ht.out.size (fun x hx=>by have:=Tc.out x hx;omega));have uz:Hid (zh w3 bm (Pg.Fs.new n).take FM):=ll;have Z3:Hid (w3.heap[w.heap.size]?=_):=(He.block _ pR (fun e=>by have:=Tc.out _ e;omega)).trans Z2.out;have dW:w.heap.size<w3.heap.size:=V pR He.size
 have mi:Hid (∀x,FM x->w.heap.size<x):=fun x hx=>by
  rcases bZ x hx with h|h
  ·exact Tc.out x h
  ·omega
 clear ll He bZ HT bU Ht Z2 Tc y0 y1 yf
 go_wp2_with fail
 refine(ye5 _).mono ?_;rintro e w4 ⟨bs,rfl,pF,Hl,iY⟩;have mV:=pF.lb;have rA:=zA (zR w4) (A #[Y (N ⟨bm,0,B⟩),I J 0,un B 0 0,Y (N ⟨bs,0,B⟩),un B 0 0] 113)
 have N5:Hid (yfl w (w4.alloc (A #[Y (N ⟨bm,0,B⟩),I J 0,un B 0 0,Y (N ⟨bs,0,B⟩),un B 0 0] 113)) w4.heap.size bm bs FM (un B 0 0) (Pg.Fs.new n).take 0 (fun _=>0) (fun _ _=>False)):=by
  refine⟨zT (zT rE.out Hl) rA,by simp[go_sem],by simp[go_sem],by simp[go_sem],by simp[go_sem],by simp[go_sem],fun p=>by simp[go_sem],zh.keep (G:=fun _=>False) uz.out (But.yhp (zT Hl rA)) (fun _ _=>id),pF.grow rA,fun x hx=>⟨mi.out x hx,?_,?_⟩,⟨by omega,mV⟩,World.ownsRow_nil _ _ _ _,fun j hj=>by omega,fun j x hj=>by omega,fun i j x hi=>by omega,(rA.block _ (by have:=Hl.size;omega)).trans ((Hl.block _ dW).trans Z3.out)⟩
  ·have:=zh.lt uz.out hx
   have:=Hl.size;omega
  ·have:=zh.lt uz.out hx
   omega
 clear pF Hl iY mV rA uz rE Z3 mi
 go_upto_region 7 with fail
 generalize w4.alloc (A #[Y (N ⟨bm,0,B⟩),I J 0,un B 0 0,Y (N ⟨bs,0,B⟩),un B 0 0] 113)=W5 at*;generalize w4.heap.size=b at*
 go_wp2_with fail
 go_loopw [36] (fun i wr=>∃k:Nat,k<=co/\i=I J k/\Hid (∃vC cb cF,yfl w wr b bm bs FM vC (Pg.Fs.new n).take k cb cF)) (fun i _=>co-(intOf i).toNat)
 case atStart=>exact⟨0,by omega,rfl,⟨_,_,_,N5.out⟩⟩
 case round=>
  obtain⟨k,hk,rfl,HR⟩:=hrel;obtain⟨vC,cb,cF,HN⟩:=HR.out;have HN:Hid _:=HN;clear HR N5
  have j0:(0:Int)<=(k:Int):=by omega
  by_cases Hf:k<co
  ·have j1:(k:Int)<(co:Int):=by omega
   have k1:=HN.out.c1;have k2:=HN.out.c2;have kf:=HN.out.fb;have rY:=HN.out.lb
   have sZ:∀cn,∀u,u ∈ [yC (N ⟨cn,0,B⟩)]->u.oneCell'=uc:=by
    intro cn u hu;simp at hu;subst hu;rfl
   have tJ:∀(W:z) (cn:Nat) (j:Nat) (u:Value),[yC (N ⟨cn,0,B⟩)][j]?=N u->(W.alloc (A #[Y (N ⟨cn,0,B⟩)] 114)).cell? ((⟨W.heap.size,0,B⟩:Addr).add j)=N u:=fun W cn j u hu=>World.news_of_block (heap_alloc_new W _) j u hu
   have nvb:vC.ownBlock≠N b:=fun e=>by have:=(HN.out.own.lt b e).1;omega
   have dV:k+1<=maxLen:=by unfold maxLen;omega
   have si:(k+1)*8<=140737488355328:=by omega
   go_wp2_with fail
   go_region_law (first
    | (go_simp;go_at_call 48;refine(yes 0 _).mono ?_;rintro e w2 ⟨cn,Fc,rfl,tY,Hd,dA⟩;have Ht:Hid (Below wr.heap.size wr w2):=zT ((zR wr).drew) Hd;have lD:Hid _:=tY;have aJ:Hid _:=dA;have q2:=(Ht.out.cell (p:=⟨b,2,B⟩) rY).trans k2;have qf:w2.frozen? ⟨b,2,B⟩=U:=(Ht.out.frozen (p:=⟨b,2,B⟩) rY).trans (kf 2);have ql:b<w2.heap.size:=V rY Ht.out.size;have qo:Hid (w2.ownsRow (b+1) 114 1 vC k (j7 cb k)):=zb HN.out.own (fun x hx=>Ht.out.block x (HN.out.own.lt x hx).2);clear tY Hd dA)
    | (refine step_append_lies _ rfl (.tmp 42) (.tmp 48) 111 rfl (b+1) 114 p0 (Y B) 1 8 Tryz.underlying111 uM ow Sa Sb rfl (by decide) vC _ _ (by simp[Act.eval]) (qo.out.alloc _) ⟨w2.heap.size,0,B⟩ 1 1 [Y (N ⟨cn,0,B⟩)] (by simp[Act.eval]) rfl (tJ w2 cn) (sZ cn) (by decide) dV si (by simp;omega) (w2.heap.size+1) (by simp) ?_;intro g cap w6 rV ry pq dh;have O6:Hid (w6.ownsRow (b+1) 114 1 (un (N ⟨g,0,B⟩) (k+1) cap) (k+1) (j7 cb k++[Y (N ⟨cn,0,B⟩)])):=rV;have G6:Hid ((w2.alloc (A #[Y (N ⟨cn,0,B⟩)] 114)).grownBy w6 vC.ownBlock):=ry;have sP:w6.heap[b]?=w2.heap[b]?:=(G6.out.block b (by simp;omega) (fun e=>nvb e.symm)).trans (Below.heap_alloc _ _ _ ql);have e6:w6.cell? ⟨b,2,B⟩=N vC:=(yB sP).trans q2;have f6:w6.frozen? ⟨b,2,B⟩=U:=(ue sP).trans qf;have A6:Hid (vC.ownBlock=N g\/g=w2.heap.size+1):=pq;have L6:Hid (g<w6.heap.size):=dh;clear rV ry pq dh sP))
   all_goals
    have N6:Hid _:=HN.out.push lD.out Ht.out aJ.out (ygs qo.out G6.out A6.out ql L6.out) (A6.out.imp id (fun h=>by omega)) O6.out;clear HN lD Ht aJ qo G6 A6 L6 O6 q2 qf ql k1 k2 kf
    go_wp2_with fail
    go_roundw
    case rel=>exact⟨k+1,by omega,by go_num,⟨_,_,_,N6.out⟩⟩
    case measure=>simp[intOf];omega
  ·have j1:¬(k:Int)<(co:Int):=by omega
   have ek:k=co:=by omega
   subst ek;have FIN:Hid _:=HN.out.done h1 h4;have EK:Hid _:=HN.out.bel;obtain⟨⟨z0,z1⟩,zf⟩:=yc2 HN.out.rz;have Kj:w.heap.size<wr.heap.size:=kh _ _ z0;clear HN
   go_wp2_with fail
   refine bodyPost_ret (v:=uv #[Y (N ⟨b,0,B⟩),ks #[I J 0,I J 0]]) ?_ rfl ?_
   ·simp[results,Tryz.results9,go_sem,z0,z1,Kj]
   ·obtain⟨F,hR,hF⟩:=FIN.out
    have bT:But (fun x=>x=w.heap.size) wr ((wr.setCell ⟨w.heap.size,0,B⟩ (I J 0)).setCell ⟨w.heap.size,1,B⟩ (I J 0)):=((But.refl (fun x=>x=w.heap.size) wr).setCell (a:=⟨w.heap.size,0,B⟩) (.inr rfl) _).setCell (a:=⟨w.heap.size,1,B⟩) (.inr rfl) _;exact⟨b,rfl,F,hR.keep bT (fun x hx e=>by have:=hF x hx;omega),(EK.out.setCell (p:=⟨w.heap.size,0,B⟩) (kp _) _).setCell (p:=⟨w.heap.size,1,B⟩) (kp _) _,fun x hx=>by have:=hF x hx;omega⟩
end Go.Proofs.YtdphiompijbelaaGreat
namespace Go.Proofs.YtdphiompijbelaaGreat
open Go.RowKit Go.Sort
structure yej (P:z->Nat->Pg.Spc->(Nat->Prop)->Prop):Prop where
 lt:∀{w b X F k},P w b X F->F k->k<w.heap.size
 keep:∀{w w':z} {b X F} {G:Nat->Prop},P w b X F->But G w w'->(∀k,F k->¬G k)->P w' b X F
 bad:∀(co n:Int) (w:z),co<1\/4<co\/n<1\/128<n->
  Calls Z 9 #[I J co,I J n] w fun e w'=>e=Q (uv #[Y B,ks #[I J 1,I J (-1)]])/\Below w.heap.size w w'
 new:∀(co n:Nat) (w:z),1<=co->co<=4->1<=n->n<=128->
  Calls Z 9 #[I J (co:Int),I J (n:Int)] w fun e w'=>∃b F,e=Q (uv #[Y (N ⟨b,0,B⟩),ks #[I J 0,I J 0]])/\P w' b (Pg.Spc.new co n) F/\Below w.heap.size w w'/\∀k,F k->w.heap.size<=k
 step:∀(x:Pg.Sx) (w:z) {b X F L L0},yek x->Pg.Inv X L L0->P w b X F->
  Calls Z 12 #[Y (N ⟨b,0,B⟩),x.val] w fun e w'=>e=Q (X.goE x).val/\∃F',P w' b (X.goN x) F'/\But F w w'/\∀k,F' k->F k\/w.heap.size<=k
 list:∀(w:z) {b X F L L0},Pg.Inv X L L0->P w b X F->
  Calls Z 17 #[Y (N ⟨b,0,B⟩)] w fun e w'=>∃ad cap,e=Q (un ad X.maps.length cap)/\xS w' ad X.maps/\Below w.heap.size w w'/\∀g,ad=N ⟨g,0,B⟩->w.heap.size<=g
 tables:∀(w:z) {b X F L L0},Pg.Inv X L L0->P w b X F->
  Calls Z 19 #[Y (N ⟨b,0,B⟩)] w fun e w'=>∃ad cap,e=Q (un ad X.tabs.length cap)/\zx w' ad X.tabs/\X.tabs.length<=cap/\Below w.heap.size w w'
 free:∀(w:z) {b X F},P w b X F->Calls Z 21 #[Y (N ⟨b,0,B⟩)] w fun e w'=>e=Q (I J X.S.free)/\Below w.heap.size w w'
 busy:∀(w:z) {b X F},P w b X F->Calls Z 20 #[Y (N ⟨b,0,B⟩)] w fun e w'=>e=Q (y X.busy)/\Below w.heap.size w w'
 gone:∀(w:z) {b X F},P w b X F->Calls Z 23 #[Y (N ⟨b,0,B⟩)] w fun e w'=>e=Q (I J X.G.length)/\Below w.heap.size w w'
section
variable {P:z->Nat->Pg.Spc->(Nat->Prop)->Prop}
theorem yej.grow (H:yej P) {w w':z} {b X F} (h:P w b X F) (hb:Below w.heap.size w w'):P w' b X F:=H.keep (G:=fun _=>False) h (But.yhp hb) (fun _ _=>id)
end
theorem jx:yej yam where
 lt:=fun h hk=>h.lt hk
 keep:=fun h hb hF=>h.keep hb hF
 bad:=fun co n w hb=>yeA co n w hb
 new:=fun co n w h1 h2 h3 h4=>yez co n w h1 h2 h3 h4
 step:=fun x w _ _ _ _ _ _ _ h=>yfs x w h
 list:=fun w _ _ _ _ _ _ h=>by
  obtain⟨D,h,rfl⟩:=h;exact yaR w h
 tables:=fun w _ _ _ _ _ _ h=>by
  obtain⟨D,h,rfl⟩:=h;exact ybX w h
 free:=fun w _ _ _ h=>by
  obtain⟨D,h,rfl⟩:=h;exact ydM w h
 busy:=fun w _ _ _ h=>by
  obtain⟨D,h,rfl⟩:=h;refine(qh w h).mono ?_;rintro e w' ⟨rfl,rfl⟩;exact⟨rfl,zR _⟩
 gone:=fun w _ _ _ h=>by
  obtain⟨D,h,rfl⟩:=h;refine(ydO w h).mono ?_;rintro e w' ⟨rfl,rfl⟩;exact⟨rfl,zR _⟩
theorem jw (co n:Int) (w:z):Calls Z 10 #[I J co,I J n] w fun e w'=>e=Q (if co<1\/4<co\/n<1\/128<n then ks #[I J 1,I J (-1)]else ks #[I J 0,I J 0])/\Below w.heap.size w w':=by
 have hF:∀w:z,Calls Z 49 #[I J 1,I J (-1)] w fun e w'=>e=Q (ks #[I J 1,I J (-1)])/\Below w.heap.size w w':=fun w=>by
  go_enter Tryz.func49,Tryz.ntmps49
  go_wp2_with fail
  refine bodyPost_ret (v:=ks #[I J 1,I J (-1)]) ?_ rfl ⟨rfl,?_⟩
  ·simp[results,Tryz.results49,go_sem]
  ·exact zA (zR w) _
 obtain⟨W,hW⟩:∃W,W=w.alloc (A #[I J 0,I J 0] 27):=⟨_,rfl⟩
 have hB:Below w.heap.size w W:=by rw[hW];exact zA (zR _) _
 have RZ:Hid (W.heap[w.heap.size]?=N (A #[I J 0,I J 0] 27 (0,0))):=by rw[Hid,hW];exact heap_alloc_new _ _
 have rU:w.heap.size<W.heap.size:=by rw[hW];simp
 have HB:Hid _:=hB;clear hB
 by_cases sD:co<1\/4<co\/n<1\/128<n
 ·rw[if_pos sD]
  have dH:(decide (co<1)=uc)\/(decide (co<1)=U/\decide (4<co)=uc)\/(decide (co<1)=U/\decide (4<co)=U/\decide (n<1)=uc)\/(decide (co<1)=U/\decide (4<co)=U/\decide (n<1)=U/\decide (128<n)=uc):=by
   simp only[decide_eq_true_eq,decide_eq_false_iff_not];omega
  clear sD;rcases dH with h1|⟨h1,h2⟩|⟨h1,h2,h3⟩|⟨h1,h2,h3,h4⟩
  all_goals
   go_enter Tryz.func10,Tryz.ntmps10
   go_upto_region 1 with fail
   rw[<-hW];clear hW
   go_wp2_with fail
   refine(hF _).mono ?_;rintro e w1 ⟨rfl,Ha⟩;obtain⟨⟨z0,z1⟩,zf⟩:=yc2 ((Ha.block _ rU).trans RZ.out);have rQ:w.heap.size<w1.heap.size:=V rU Ha.size;have H9:Hid _:=zT HB.out Ha;clear Ha
   go_wp2_with fail
   refine bodyPost_ret (v:=ks #[I J 1,I J (-1)]) ?_ rfl ⟨rfl,?_⟩
   ·simp[results,Tryz.results10,go_sem,z0,z1,rQ]
   ·exact(H9.out.setCell (p:=⟨w.heap.size,0,B⟩) (kp _) _).setCell (p:=⟨w.heap.size,1,B⟩) (kp _) _
 ·rw[if_neg sD]
  have h1:decide (co<1)=U:=by simp;omega
  have h2:decide (4<co)=U:=by simp;omega
  have h3:decide (n<1)=U:=by simp;omega
  have h4:decide (128<n)=U:=by simp;omega
  clear sD;obtain⟨⟨z0,z1⟩,zf⟩:=yc2 RZ.out
  go_enter Tryz.func10,Tryz.ntmps10
  go_upto_region 1 with fail
  rw[<-hW];clear hW
  go_wp2_with fail
  refine bodyPost_ret (v:=ks #[I J 0,I J 0]) ?_ rfl ⟨rfl,?_⟩
  ·simp[results,Tryz.results10,go_sem,z0,z1,rU]
  ·exact(HB.out.setCell (p:=⟨w.heap.size,0,B⟩) (kp _) _).setCell (p:=⟨w.heap.size,1,B⟩) (kp _) _
end Go.Proofs.YtdphiompijbelaaGreat
