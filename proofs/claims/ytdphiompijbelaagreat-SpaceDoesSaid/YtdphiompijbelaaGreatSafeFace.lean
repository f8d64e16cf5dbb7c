import Derived.Deep.RegionHeld3
import Derived.Test.YtdphiompijbelaaGreatTabCp
import Derived.Deep.DeepCutAuto
set_option linter.all false
set_option maxRecDepth 100000
open Go.Obj renaming cells->kJ
open Go.RowKit renaming Hid->D
open Bool renaming false->O,true->z
open Go.Ending renaming returned->Q
open Go.Proofs.Tryz renaming prog->V
open Go renaming World->T,cell_regrown->Z,Value->M,Calls->E,bodyPost_ret->kP,heap_alloc_new->kY
open Go.World renaming cell?_of_block->R,frozen?_of_block->kI,block_lt_of_cell?->kS,frozen?->kC,cell?->kN
open Go.IntKind renaming i64->B,u64->H
open Go.Value renaming int->J,bool->Y,pointer->U,slice->A,agg->kR,slice->kT
open Option renaming none->I,some->N
namespace Go.Proofs.YtdphiompijbelaaGreat
open Go.RowKit Go.Sort
section
structure zO (w:T) (b o:Nat) (root:Int) (K:Pg.Wk):Prop where
 c0:w.cell? ⟨b,o,I⟩=N (J B root)
 c1:w.cell? ⟨b,o+1,I⟩=N (Y K.on)
 c2:w.cell? ⟨b,o+2,I⟩=N (J B K.q)
 c3:w.cell? ⟨b,o+3,I⟩=N (J B K.k)
 c4:w.cell? ⟨b,o+4,I⟩=N (Y K.u)
 c5:w.cell? ⟨b,o+5,I⟩=N (J B K.t)
 c6:w.cell? ⟨b,o+6,I⟩=N (J B (K.lv:Int))
 c7:w.cell? ⟨b,o+7,I⟩=N (J H K.x)
 fb:∀p,w.frozen? ⟨b,p,I⟩=O
theorem zO.lb {w:T} {b o:Nat} {root:Int} {K:Pg.Wk} (h:zO w b o root K):b<w.heap.size:=kS _ _ h.c0
theorem zO.of_block {w w':T} {b o:Nat} {root:Int} {K:Pg.Wk} (h:zO w b o root K) (hk:w'.heap[b]?=w.heap[b]?):zO w' b o root K:=
 ⟨(R hk).trans h.c0,(R hk).trans h.c1,(R hk).trans h.c2,(R hk).trans h.c3,(R hk).trans h.c4,(R hk).trans h.c5,(R hk).trans h.c6,(R hk).trans h.c7,fun p=>(kI hk).trans (h.fb p)⟩
theorem zO.keep {w w':T} {b o:Nat} {root:Int} {K:Pg.Wk} {F:Nat->Prop} (h:zO w b o root K) (hb:But F w w') (hF:¬F b):zO w' b o root K:=h.of_block (hb.block b h.lb hF)
theorem zO.grow {w w':T} {b o:Nat} {root:Int} {K:Pg.Wk} (h:zO w b o root K) (hb:Below w.heap.size w w'):zO w' b o root K:=h.of_block (hb.block b h.lb)
structure Ch8 (b o:Nat) (F:Nat->Prop) (w w':T):Prop where
 but:But F w w'
 oth:∀p,p<o\/o+8<=p->w'.cell? ⟨b,p,I⟩=w.cell? ⟨b,p,I⟩
namespace Ch8
variable {b o:Nat} {F G:Nat->Prop} {w w1 w2:T}
theorem refl (b o:Nat) (F:Nat->Prop) (w:T):Ch8 b o F w w:=⟨But.refl _ _,fun _ _=>rfl⟩
theorem ygr (h:Below w.heap.size w w1) (hb:b<w.heap.size):Ch8 b o F w w1:=⟨But.ygr h,fun p _=>h.cell (p:=⟨b,p,I⟩) hb⟩
theorem trans (h:Ch8 b o F w w1) (k:Ch8 b o G w1 w2) (hG:∀i,i<w.heap.size->G i->F i):Ch8 b o F w w2:=
 ⟨h.but.trans k.but hG,fun p hp=>(k.oth p hp).trans (h.oth p hp)⟩
theorem mono (h:Ch8 b o F w w1) (hG:∀i,i<w.heap.size->F i->G i):Ch8 b o G w w1:=⟨h.but.mono hG,h.oth⟩
theorem yiC (h:But F w w1) (hb:b<w.heap.size) (hF:¬F b):Ch8 b o F w w1:=⟨h,fun p _=>h.cell (a:=⟨b,p,I⟩) hb hF⟩
theorem set (h:Ch8 b o F w w1) (hF:F b) (j:Nat) (hj:j<8) (v:M):Ch8 b o F w (w1.setCell ⟨b,o+j,I⟩ v):=
 ⟨h.but.setCell (.inr hF) v,fun p hp=>(World.cell?_setCell_other _ _ _ _ (fun e=>by injection e with _ e;omega)).trans (h.oth p hp)⟩
theorem set0 (h:Ch8 b o F w w1) (hF:F b) (v:M):Ch8 b o F w (w1.setCell ⟨b,o,I⟩ v):=h.set hF 0 (by decide) v
theorem drew (h:Ch8 b o F w w1):Ch8 b o F w w1.drew:=⟨h.but.drew,h.oth⟩
end Ch8
structure jZ (w:T) (b:Nat) (K:Pg.Wk) (t lv x:Int):Prop where
 c1:w.cell? ⟨b,1,I⟩=N (Y K.on)
 c2:w.cell? ⟨b,2,I⟩=N (J B K.q)
 c3:w.cell? ⟨b,3,I⟩=N (J B K.k)
 c4:w.cell? ⟨b,4,I⟩=N (Y K.u)
 c5:w.cell? ⟨b,5,I⟩=N (J B t)
 c6:w.cell? ⟨b,6,I⟩=N (J B lv)
 c7:w.cell? ⟨b,7,I⟩=N (Y (decide (K.x≠0)))
 c8:w.cell? ⟨b,8,I⟩=N (J H x)
 fb:∀p,w.frozen? ⟨b,p,I⟩=O
 at':K.on=z->t=K.t/\lv=(K.lv:Int)
 wd:K.x≠0->x=K.x
theorem jZ.lb {w:T} {b:Nat} {K:Pg.Wk} {t lv x:Int} (h:jZ w b K t lv x):b<w.heap.size:=kS _ _ h.c1
theorem jZ.of_block {w w':T} {b:Nat} {K:Pg.Wk} {t lv x:Int} (h:jZ w b K t lv x) (hk:w'.heap[b]?=w.heap[b]?):jZ w' b K t lv x:=
 ⟨(R hk).trans h.c1,(R hk).trans h.c2,(R hk).trans h.c3,(R hk).trans h.c4,(R hk).trans h.c5,(R hk).trans h.c6,(R hk).trans h.c7,(R hk).trans h.c8,fun p=>(kI hk).trans (h.fb p),h.at',h.wd⟩
theorem jZ.keep {w w':T} {b:Nat} {K:Pg.Wk} {t lv x:Int} {F:Nat->Prop} (h:jZ w b K t lv x) (hb:But F w w') (hF:¬F b):jZ w' b K t lv x:=h.of_block (hb.block b h.lb hF)
theorem jZ.grow {w w':T} {b:Nat} {K:Pg.Wk} {t lv x:Int} (h:jZ w b K t lv x) (hb:Below w.heap.size w w'):jZ w' b K t lv x:=h.of_block (hb.block b h.lb)
def qA (w:T) (b:Nat) (K:Pg.Wk):Prop:=∃t lv x,jZ w b K t lv x
set_option maxRecDepth 100000
attribute [local go_sem] Loose.gent
theorem xN {F:Nat->Prop} {w w1:T} (h:But F w w1) (r:Nat) (hr:w.heap.size<=r\/F r) (x0 x1 x2 x3 x4 x5 x6 x7 x8:M):
 But F w (((((((((w1.setCell ⟨r,0,I⟩ x0).setCell ⟨r,1,I⟩ x1).setCell ⟨r,2,I⟩ x2).setCell ⟨r,3,I⟩ x3).setCell ⟨r,4,I⟩ x4).setCell ⟨r,5,I⟩ x5).setCell ⟨r,6,I⟩ x6).setCell ⟨r,7,I⟩ x7).setCell ⟨r,8,I⟩ x8):=
 ((((((((h.setCell (a:=⟨r,0,I⟩) hr x0).setCell (a:=⟨r,1,I⟩) hr x1).setCell (a:=⟨r,2,I⟩) hr x2).setCell (a:=⟨r,3,I⟩) hr x3).setCell (a:=⟨r,4,I⟩) hr x4).setCell (a:=⟨r,5,I⟩) hr x5).setCell (a:=⟨r,6,I⟩) hr x6).setCell (a:=⟨r,7,I⟩) hr x7).setCell (a:=⟨r,8,I⟩) hr x8
theorem ybI {w:T} {r:Nat} {v0 v1 v2 v3 v4 v5 v6 v7 v8:M} {t:TypeId} (h:w.heap[r]?=N (kJ #[v0,v1,v2,v3,v4,v5,v6,v7,v8] t (0,0))):
 (w.cell? ⟨r,0,I⟩=N v0/\w.cell? ⟨r,1,I⟩=N v1/\w.cell? ⟨r,2,I⟩=N v2/\w.cell? ⟨r,3,I⟩=N v3/\w.cell? ⟨r,4,I⟩=N v4/\w.cell? ⟨r,5,I⟩=N v5/\w.cell? ⟨r,6,I⟩=N v6/\w.cell? ⟨r,7,I⟩=N v7/\w.cell? ⟨r,8,I⟩=N v8)/\∀i,w.frozen? ⟨r,i,I⟩=O:=
 ⟨by simp[kN,h],fun i=>by simp[kC,h]⟩
theorem yez (root:Int) (w:T):
 E V 87 #[J B root] w fun e w'=>∃b,e=Q (U (N ⟨b,0,I⟩))/\zO w' b 0 root Pg.Wk.off/\Below w.heap.size w w'/\w.heap.size<=b:=by
 go_enter Tryz.func87,Tryz.ntmps87
 go_wp2_with fail
 go_ret
 refine⟨_,rfl,⟨?_,?_,?_,?_,?_,?_,?_,?_,fun p=> ?_⟩,zA (zR _) _,Nat.le_refl _⟩<;>simp[go_sem,Pg.Wk.off]
section
variable {b o:Nat} {root:Int} {K:Pg.Wk}
theorem yfc (w:T) (h:zO w b o root K):
 E V 112 #[U (N ⟨b,o,I⟩)] w fun e w'=>e=Q (Y K.on)/\w'=w:=by
 have c1:=h.c1;clear h
 go_enter Tryz.func112,Tryz.ntmps112
 go_wp2_with fail
 go_ret
 exact⟨rfl,rfl⟩
theorem yb5 (w:T) (h:zO w b o root K):
 E V 62 #[U (N ⟨b,o,I⟩)] w fun e w'=>e=Q (kR #[J B K.q,J B K.k,Y K.u])/\Below w.heap.size w w':=by
 have c2:=h.c2;have c3:=h.c3;have c4:=h.c4;have hl:=h.lb;clear h
 go_enter Tryz.func62,Tryz.ntmps62
 go_wp2_with fail
 refine kP (v:=kR #[J B K.q,J B K.k,Y K.u]) ?_ rfl ⟨rfl,?_⟩
 ·simp[results,Tryz.results62,go_sem]
 ·exact zA (zR w) _
theorem zO.again {W:T} (h:zO W b o root K) (ho:K.on=z):
 zO (((W.setCell ⟨b,o+5,I⟩ (J B root)).setCell ⟨b,o+6,I⟩ (J B 3)).setCell ⟨b,o+7,I⟩ (J H 0)) b o root (K.again root)/\Ch8 b o (fun j=>j=b) W (((W.setCell ⟨b,o+5,I⟩ (J B root)).setCell ⟨b,o+6,I⟩ (J B 3)).setCell ⟨b,o+7,I⟩ (J H 0)):=by
 have e:K.again root={K with t:=root,lv:=3,x:=0}:=by simp[Pg.Wk.again,ho]
 obtain⟨c0,c1,c2,c3,c4,c5,c6,c7,fb⟩:=h;rw[e]
 refine⟨⟨?_,?_,?_,?_,?_,?_,?_,?_,fun p=> ?_⟩,(((Ch8.refl b o (fun j=>j=b) W).set rfl 5 (by decide) _).set rfl 6 (by decide) _).set rfl 7 (by decide) _⟩<;>simp[go_sem,c0,c1,c2,c3,c4,c5,c6,c7,fb]
theorem jG (w:T) (h:zO w b o root K):
 E V 180 #[U (N ⟨b,o,I⟩)] w fun e w'=>e=Q (.tuple #[])/\zO w' b o root (K.again root)/\Ch8 b o (fun j=>j=b) w w':=by
 cases ho:K.on
 ·have e:K.again root=K:=by simp[Pg.Wk.again,ho]
  rw[e];have c1:=h.c1;rw[ho]at c1;have HF:D (zO w b o root K/\Ch8 b o (fun j=>j=b) w w):=⟨h,Ch8.refl _ _ _ _⟩;clear h ho e
  go_enter Tryz.func180,Tryz.ntmps180
  go_wp2_with fail
  go_end0
  exact⟨rfl,HF.out⟩
 ·have HF:D _:=h.again ho
  have c0:=h.c0;have c1:=h.c1;have c5:=h.c5;have c6:=h.c6;have c7:=h.c7;have fb:=h.fb;rw[ho]at c1;clear h ho
  go_enter Tryz.func180,Tryz.ntmps180
  go_wp2_with fail
  go_end0
  exact⟨rfl,HF.out⟩
theorem jH (w:T) (h:zO w b o root K):
 E V 207 #[U (N ⟨b,o,I⟩)] w fun e w'=>e=Q (J B (Pg.index K.q K.lv))/\Below w.heap.size w w':=by
 have c2:=Z h.c2;have c6:=Z h.c6;have HI:=fun w=>zX (vq K.q K.lv w);clear h
 go_enter Tryz.func207,Tryz.ntmps207
 go_wp2_with fail
 refine wp_region_quiet_below (by kernel_rfl) (by kernel_rfl) ?_
 repeat (first
  | go_big_quiet_step ((go_at_call 196;exact Calls.regrown_of (HI _))))
 refine wpQuiet_nil ?_;intro _ hw';obtain⟨⟨dq,osq⟩,rfl⟩:=hw'
 go_wp2_with fail
 go_ret
 exact⟨rfl,below_regrown w dq osq⟩
theorem vv (e:Pg.En) (w:T) (h:zO w b o root K):
 E V 205 #[U (N ⟨b,o,I⟩),e.val] w fun x w'=>x=Q (K.mark e).val/\Below w.heap.size w w':=by
 have c3:=h.c3;have hl:=h.lb
 have hne:b≠w.heap.size:=by omega
 clear h;obtain⟨t,l,r,u,d,f⟩:=e;cases d
 ·cases hk:(K.k==1)
  all_goals
   have HV:D _:=hk;simp only[Pg.En.val,Pg.Wk.mark,hk,Bool.or_false,Bool.or_true]
   go_enter Tryz.func205,Tryz.ntmps205
   go_wp2_with fail
   refine kP (v:=kR #[Y t,Y l,J B r,Y z,Y _,J B f]) ?_ rfl ⟨rfl,?_⟩
   ·simp[results,Tryz.results205,go_sem]
   ·exact zA (zA (zR w) _) _
 ·simp only[Pg.En.val,Pg.Wk.mark,Bool.true_or]
  go_enter Tryz.func205,Tryz.ntmps205
  go_wp2_with fail
  refine kP (v:=kR #[Y t,Y l,J B r,Y z,Y z,J B f]) ?_ rfl ⟨rfl,?_⟩
  ·simp[results,Tryz.results205,go_sem]
  ·exact zA (zA (zR w) _) _
theorem zO.ended {W:T} (h:zO W b o root K):
 zO ((((((((W.setCell ⟨b,o,I⟩ (J B root)).setCell ⟨b,o+1,I⟩ (Y O)).setCell ⟨b,o+2,I⟩ (J B 0)).setCell ⟨b,o+3,I⟩ (J B 0)).setCell ⟨b,o+4,I⟩ (Y O)).setCell ⟨b,o+5,I⟩ (J B 0)).setCell ⟨b,o+6,I⟩ (J B 0)).setCell ⟨b,o+7,I⟩ (J H 0)) b o root Pg.Wk.off/\
 Ch8 b o (fun j=>j=b) W ((((((((W.setCell ⟨b,o,I⟩ (J B root)).setCell ⟨b,o+1,I⟩ (Y O)).setCell ⟨b,o+2,I⟩ (J B 0)).setCell ⟨b,o+3,I⟩ (J B 0)).setCell ⟨b,o+4,I⟩ (Y O)).setCell ⟨b,o+5,I⟩ (J B 0)).setCell ⟨b,o+6,I⟩ (J B 0)).setCell ⟨b,o+7,I⟩ (J H 0)):=by
 obtain⟨c0,c1,c2,c3,c4,c5,c6,c7,fb⟩:=h
 refine⟨⟨?_,?_,?_,?_,?_,?_,?_,?_,fun p=> ?_⟩,((((((((Ch8.refl b o (fun j=>j=b) W).set0 rfl _).set rfl 1 (by decide) _).set rfl 2 (by decide) _).set rfl 3 (by decide) _).set rfl 4 (by decide) _).set rfl 5 (by decide) _).set rfl 6 (by decide) _).set rfl 7 (by decide) _⟩<;>simp[go_sem,c0,c1,c2,c3,c4,c5,c6,c7,fb,Pg.Wk.off]
theorem yfE {F:Nat->Prop} {w W W':T} (h:zO W b o root K/\Ch8 b o F w W) (hb:Below W.heap.size W W'):zO W' b o root K/\Ch8 b o F w W':=
 ⟨h.1.grow hb,h.2.trans (Ch8.ygr (F:=F) hb h.1.lb) fun _ _ hi=>hi⟩
theorem yek {w W:T} {r:Nat} (hr:¬r=b) (hw:w.heap.size<=r) (h:zO W b o root K/\Ch8 b o (fun j=>j=b) w W) (v0 v1 v2 v3 v4 v5 v6 v7 v8:M):
 zO (((((((((W.setCell ⟨r,0,I⟩ v0).setCell ⟨r,1,I⟩ v1).setCell ⟨r,2,I⟩ v2).setCell ⟨r,3,I⟩ v3).setCell ⟨r,4,I⟩ v4).setCell ⟨r,5,I⟩ v5).setCell ⟨r,6,I⟩ v6).setCell ⟨r,7,I⟩ v7).setCell ⟨r,8,I⟩ v8) b o root K/\
 Ch8 b o (fun j=>j=b) w (((((((((W.setCell ⟨r,0,I⟩ v0).setCell ⟨r,1,I⟩ v1).setCell ⟨r,2,I⟩ v2).setCell ⟨r,3,I⟩ v3).setCell ⟨r,4,I⟩ v4).setCell ⟨r,5,I⟩ v5).setCell ⟨r,6,I⟩ v6).setCell ⟨r,7,I⟩ v7).setCell ⟨r,8,I⟩ v8):=by
 have hb:=xN (F:=fun j=>j=r) (But.refl _ W) r (.inr rfl) v0 v1 v2 v3 v4 v5 v6 v7 v8;have hne:¬b=r:=fun e=>hr e.symm;refine⟨h.1.keep hb hne,?_,fun p hp=> ?_⟩
 ·exact xN h.2.but r (.inl hw) v0 v1 v2 v3 v4 v5 v6 v7 v8
 ·exact(hb.cell (a:=⟨b,p,I⟩) h.1.lb hne).trans (h.2.oth p hp)
theorem yaN (a f r:Int) (m:Pg.Mp) (d:Bool) (w:T) (h:zO w b o root K):
 E V 209 #[U (N ⟨b,o,I⟩),kR #[J B a,J B f,J B r],kR #[J B m.p,J B m.s,J B m.f,J B m.r,Y d]] w fun e w'=>e=Q (Pg.Rs.val ⟨z,a,f,r,m,d⟩)/\zO w' b o root Pg.Wk.off/\Ch8 b o (fun j=>j=b) w w':=by
 have c0:=h.c0;have c1:=h.c1;have c2:=h.c2;have c3:=h.c3;have c4:=h.c4;have c5:=h.c5;have c6:=h.c6;have c7:=h.c7;have fb:=h.fb;have hl:=h.lb
 have hl1:b<w.heap.size+1:=by omega
 have hl2:b<w.heap.size+1+1:=by omega
 have n0:b≠w.heap.size:=by omega
 have n1:b≠w.heap.size+1:=by omega
 have n2:b≠w.heap.size+1+1:=by omega
 have m0:w.heap.size≠b:=by omega
 have m1:w.heap.size+1≠b:=by omega
 have m2:w.heap.size+1+1≠b:=by omega
 have HK:D _:=h;clear h;obtain⟨mp,ms,mf,mr⟩:=m;have HF:=HK.out.ended
 go_enter Tryz.func209,Tryz.ntmps209
 go_wp2_with fail
 refine kP (v:=kR #[Y z,J B a,J B f,J B r,J B mp,J B ms,J B mf,J B mr,Y d]) ?_ rfl ⟨rfl,yfE HF (zA (zA (zA (zR _) _) _) _)⟩;simp[results,Tryz.results209,go_sem]
set_option maxHeartbeats 1000000 in
theorem ybj (e:Pg.En) (w:T) (h:zO w b o root K) (m:Bool):
 E V 208 #[U (N ⟨b,o,I⟩),e.val] w fun x w'=>x=Q ((Pg.Wo.done e m).res K).val/\zO w' b o root Pg.Wk.off/\Ch8 b o (fun j=>j=b) w w':=by
 obtain⟨W,hW⟩:∃W,W=(w.alloc (kJ #[Y e.t,Y e.l,J B e.r,Y e.u,Y e.d,J B e.f] 70)).alloc (kJ #[Y O,J B 0,J B 0,J B 0,J B 0,J B 0,J B 0,J B 0,Y O] 232):=⟨_,rfl⟩
 have hBW:Below w.heap.size w W:=by rw[hW];exact zA (zA (zR w) _) _
 have HBW:D _:=hBW;have hl:=h.lb
 have hWs:W.heap.size=w.heap.size+1+1:=by rw[hW];simp
 have HKW:D _:=h.grow hBW
 have e6:W.cell? ⟨w.heap.size,0,I⟩=N (Y e.t)/\W.cell? ⟨w.heap.size,1,I⟩=N (Y e.l)/\W.cell? ⟨w.heap.size,2,I⟩=N (J B e.r)/\W.cell? ⟨w.heap.size,3,I⟩=N (Y e.u)/\W.cell? ⟨w.heap.size,4,I⟩=N (Y e.d)/\W.cell? ⟨w.heap.size,5,I⟩=N (J B e.f):=by rw[hW];simp[go_sem]
 have E6:D _:=e6
 have r9:W.heap[w.heap.size+1]?=N (kJ #[Y O,J B 0,J B 0,J B 0,J B 0,J B 0,J B 0,J B 0,Y O] 232 (0,0)):=by rw[hW];exact(by simp:(w.alloc (kJ #[Y e.t,Y e.l,J B e.r,Y e.u,Y e.d,J B e.f] 70)).heap.size=w.heap.size+1)▸kY _ _
 have R9:D _:=r9;have HM:=fun w=>yaJ e.t e.l e.r e.u e.d e.f K.lv K.q w;have HV:D (Pg.mapV e.t e.l e.r e.u e.d e.f K.lv K.q=(e.map K.lv K.q).val):=rfl;rw[HV.out]at HM;have HR:D ((Pg.Wo.done e m).res K=⟨z,Pg.aEnd (e.map K.lv K.q).r K.k K.u,Pg.ygW (e.map K.lv K.q).p (e.map K.lv K.q).f (e.map K.lv K.q).r K.q K.k K.u,Pg.ygK (e.map K.lv K.q).r K.k K.u,e.map K.lv K.q,e.d⟩):=rfl;rw[HR.out];generalize e.map K.lv K.q=mm at*;obtain⟨mp,ms,mf,mr⟩:=mm;have HA:=fun W'=>vY mp ms mf mr K.q K.k K.u W';simp only;generalize Pg.aEnd mr K.k K.u=aa at*;generalize Pg.ygW mp mf mr K.q K.k K.u=af at*;generalize Pg.ygK mr K.k K.u=ar at*;have k2:=fun d os=>Z HKW.out.c2 d os;have k6:=fun d os=>Z HKW.out.c6 d os;have y:=fun d os=>zQ (below_regrown W d os) e6;clear h hBW e6 r9 HV HR;obtain⟨et,el,er,eu,ed,ef⟩:=e;simp only at hW y HM;simp only[Pg.En.val,Pg.Mp.val]at HM ⊢
 go_enter Tryz.func208,Tryz.ntmps208
 go_wp2_with fail
 rw[<-hW];clear hW;refine Loose.ygR 11 5 (kJ #[J B 0,J B 0,J B 0,J B 0] 39) _ (by kernel_rfl) (by kernel_rfl) rfl rfl rfl (by intro a w;simp[go_sem]) ?_;simp only[List.take_succ_cons,List.take_zero,List.drop_succ_cons,List.drop_zero]
 repeat (
  refine Loose.zS (fun k hk=> ?_)
  go_simp
  first
   | (refine hk _ ?_;clear hk k)
   | (apply Exists.intro
      refine⟨fun _=> ?_,hk _ ?_⟩
      (go_at_call 152;exact Loose.calls (HM _))
      clear hk k))
 refine Loose.ygs ?_;intro bm w1 hb1 hbl hX
 have cb:w1.cell? ⟨bm,0,I⟩=N (J B 0)/\w1.cell? ⟨bm,1,I⟩=N (J B 0)/\w1.cell? ⟨bm,2,I⟩=N (J B 0)/\w1.cell? ⟨bm,3,I⟩=N (J B 0):=by
  simp[kN,hX]
 obtain⟨cb0,cb1,cb2,cb3⟩:=cb
 have fb:∀i,w1.frozen? ⟨bm,i,I⟩=O:=fun i=>by simp[kC,hX]
 obtain⟨W2,hW2⟩:∃W2,W2=(((w1.setCell ⟨bm,0,I⟩ (J B mp)).setCell ⟨bm,1,I⟩ (J B ms)).setCell ⟨bm,2,I⟩ (J B mf)).setCell ⟨bm,3,I⟩ (J B mr):=⟨_,rfl⟩
 have hB2:Below W.heap.size W W2:=by rw[hW2];exact zq hb1 _ hbl _ _ _ _
 have m4:W2.cell? ⟨bm,0,I⟩=N (J B mp)/\W2.cell? ⟨bm,1,I⟩=N (J B ms)/\W2.cell? ⟨bm,2,I⟩=N (J B mf)/\W2.cell? ⟨bm,3,I⟩=N (J B mr):=by
  rw[hW2];simp[go_sem,cb0,cb1,cb2,cb3]
 obtain⟨m0,m1,m2,m3⟩:=m4;have HK2:D _:=HKW.out.grow hB2;have HC2:D (Ch8 b o (fun j=>j=b) w W2):=Ch8.ygr (zT HBW.out hB2) hl;have d4:=cell_later hB2 E6.out.2.2.2.2.1;have c2:=HK2.out.c2;have c3:=HK2.out.c3;have c4:=HK2.out.c4;have R2:D (W2.heap[w.heap.size+1]?=_):=(hB2.block _ (by omega)).trans R9.out;have hl2:b<W2.heap.size:=HK2.out.lb
 have hr2:w.heap.size+1<W2.heap.size:=by have:=hB2.size;omega
 have hrb:¬w.heap.size+1=b:=by omega
 clear hX hbl hb1 hB2 k2 k6 y HM R9 E6
 go_wp2_with fail
 rw[<-hW2];clear hW2 cb0 cb1 cb2 cb3 fb;have HE:=fun W' (hb:Below W2.heap.size W2 W')=>yaN aa af ar ⟨mp,ms,mf,mr⟩ ed W' (HK2.out.grow hb);simp only[Pg.Rs.val]at HE;have g0:=Z m0;have g1:=Z m1;have g2:=Z m2;have g3:=Z m3;have g4:=Z d4;have g5:=Z c2;have g6:=Z c3;have g7:=Z c4;clear m0 m1 m2 m3 d4 c2 c3 c4;refine Loose.ygt 11 (by kernel_rfl) (by kernel_rfl) ?_;simp only[List.take_succ_cons,List.take_zero,List.drop_succ_cons,List.drop_zero]
 repeat (
  refine Loose.zS (fun k hk=> ?_)
  go_simp
  first
   | (refine hk _ ?_;clear hk k)
   | (apply Exists.intro
      refine⟨fun _=> ?_,hk _ ?_⟩
      (go_at_call 143;exact Loose.calls (HA _))
      clear hk k))
 refine Loose.ygs ?_;intro w3 hb3;have HB3:D (Below W2.heap.size W2 w3):=hb3;clear hb3 g0 g1 g2 g3 g4 g5 g6 g7 HA
 go_wp2_with fail
 refine(HE _ HB3.out).mono ?_;rintro en w4 ⟨rfl,hk4,hc4⟩;have HK4:D _:=hk4;have HC4:D (Ch8 b o (fun j=>j=b) W2 w4):=(Ch8.ygr HB3.out hl2).trans hc4 (fun _ _ h=>h);obtain⟨⟨x0,x1,x2,x3,x4,x5,x6,x7,x8⟩,xf⟩:=ybI ((HC4.out.but.block _ hr2 hrb).trans R2.out);clear hk4 hc4;have hr4:w.heap.size+1<w4.heap.size:=Nat.lt_of_lt_of_le hr2 HC4.out.but.size
 have HF:D (∀v0 v1 v2 v3 v4 v5 v6 v7 v8,zO (((((((((w4.setCell ⟨w.heap.size+1,0,I⟩ v0).setCell ⟨w.heap.size+1,1,I⟩ v1).setCell ⟨w.heap.size+1,2,I⟩ v2).setCell ⟨w.heap.size+1,3,I⟩ v3).setCell ⟨w.heap.size+1,4,I⟩ v4).setCell ⟨w.heap.size+1,5,I⟩ v5).setCell ⟨w.heap.size+1,6,I⟩ v6).setCell ⟨w.heap.size+1,7,I⟩ v7).setCell ⟨w.heap.size+1,8,I⟩ v8) b o root Pg.Wk.off/\Ch8 b o (fun j=>j=b) w (((((((((w4.setCell ⟨w.heap.size+1,0,I⟩ v0).setCell ⟨w.heap.size+1,1,I⟩ v1).setCell ⟨w.heap.size+1,2,I⟩ v2).setCell ⟨w.heap.size+1,3,I⟩ v3).setCell ⟨w.heap.size+1,4,I⟩ v4).setCell ⟨w.heap.size+1,5,I⟩ v5).setCell ⟨w.heap.size+1,6,I⟩ v6).setCell ⟨w.heap.size+1,7,I⟩ v7).setCell ⟨w.heap.size+1,8,I⟩ v8)):=by
  intro v0 v1 v2 v3 v4 v5 v6 v7 v8;exact yek hrb (by omega) ⟨HK4.out,HC2.out.trans HC4.out fun _ _ h=>h⟩ _ _ _ _ _ _ _ _ _
 go_wp2_with fail
 refine kP (v:=kR #[Y z,J B aa,J B af,J B ar,J B mp,J B ms,J B mf,J B mr,Y ed]) ?_ rfl ⟨rfl,HF.out _ _ _ _ _ _ _ _ _⟩;simp[results,Tryz.results208,go_sem,x0,x1,x2,x3,x4,x5,x6,x7,x8]
end
end
section
theorem zy {b g0 g1:Nat} {vb:M} {S:Pg.Fs} (k:Int) (w:T) (h:zg w b g0 g1 vb S):
 E V 103 #[U (N ⟨b,0,I⟩),J B k] w fun e w'=>e=Q (Y (S.has k))/\w'=w:=by
 have hc1:=h.raw.c1;have hn:=h.ok.small
 by_cases h0:0<=k
 ·obtain⟨m,rfl⟩:=Int.eq_ofNat_of_zero_le h0
  by_cases h1:m<S.n
  ·have hm:=h.raw.ci m h1
   have HH:D (S.has (m:Int)=S.inn m):=by simp[D,Pg.Fs.has]
   have i0:(0:Int)<=(m:Int):=by omega
   have i1:(m:Int)<(S.n:Int):=by omega
   go_enter Tryz.func103,Tryz.ntmps103
   go_wp2_with fail
   go_ret
   exact⟨xi HH.out.symm,rfl⟩
  ·have HH:D (S.has (m:Int)=O):=by
    cases hh:S.has (m:Int)
    ·rfl
    ·have:=h.ok.ygG hh
     omega
   have i1:¬(m:Int)<(S.n:Int):=by omega
   go_enter Tryz.func103,Tryz.ntmps103
   go_wp2_with fail
   go_ret
   exact⟨xi HH.out.symm,rfl⟩
 ·have HH:D (S.has k=O):=by simp[D,Pg.Fs.has,h0]
  have d0:decide (0<=k)=O:=by simpa using h0
  go_enter Tryz.func103,Tryz.ntmps103
  go_wp2_with fail
  go_ret
  exact⟨xi HH.out.symm,rfl⟩
theorem vz {b g0 g1:Nat} {vb:M} {S:Pg.Fs} (w:T) (h:zg w b g0 g1 vb S):
 E V 22 #[U (N ⟨b,0,I⟩)] w fun e w'=>e=Q (J B S.free)/\Below w.heap.size w w':=by
 have hc1:=h.raw.c1;have hc2:=h.raw.c2;have hc3:=h.raw.c3;have hl:=h.ok.len;have ht:=h.ok.top;have hs:=h.ok.small;have HF:D (S.free=S.back.length+S.n-S.next):=rfl
 have hb:S.back.length<=128:=by omega
 have hx:S.next<=128:=by omega
 rcases h.raw.own.2 with ⟨rfl,hlen⟩|⟨g,cap,cur,rfl,hg⟩
 ·rw[hlen]at HF
  clear hl ht hlen hb
  go_enter Tryz.func22,Tryz.ntmps22
  go_wp2_with fail
  go_quiet (fail)
  go_wp2_with fail
  go_ret
  refine⟨?_,below_drewN (zR _) _⟩;rw[HF.out]
  first|rfl|simp
 ·clear hl ht hg
  generalize S.back.length=m at*
  go_enter Tryz.func22,Tryz.ntmps22
  go_wp2_with fail
  go_quiet (fail)
  go_wp2_with fail
  go_ret
  exact⟨xJ (by rw[HF.out]),below_drewN (zR _) _⟩
theorem ybo {b g0 g1:Nat} {vb:M} {S:Pg.Fs} (w:T) (h:zg w b g0 g1 vb S) (hb:S.back=[]) (hn:¬S.next<S.n):
 E V 51 #[U (N ⟨b,0,I⟩)] w fun e w'=>e=Q (J B (-1))/\Below w.heap.size w w':=by
 have hc1:=h.raw.c1;have hc2:=h.raw.c2;have hc3:=h.raw.c3;have hs:=h.ok.small
 have i1:¬(S.next:Int)<(S.n:Int):=by omega
 have ho:=h.raw.own;rw[hb]at ho;rcases ho.2 with ⟨rfl,hlen⟩|⟨g,cap,cur,rfl,hg⟩
 all_goals
  clear ho h
  go_enter Tryz.func51,Tryz.ntmps51
  go_wp2_with fail
  go_quiet (fail)
  go_wp2_with fail
  go_ret
  exact⟨rfl,below_drewN (zR _) _⟩
def jx:List M:=[J H 0,J H 0,J H 0,J H 0,J H 0,J H 0,J H 0,J H 0]
theorem jN:jx.length=8:=rfl
theorem ybG:∀(j:Nat) (hj:j<jx.length),jx[j]=J H 0
 | 0,_|1,_|2,_|3,_|4,_|5,_|6,_|7,_=>rfl
 | j+8,hj=>absurd hj (by rw[jN];omega)
theorem ybn {b g0 g1:Nat} {vb:M} {S:Pg.Fs} (w:T) (h:zg w b g0 g1 vb S) (hb:S.back=[]) (hn:S.next<S.n):
 E V 51 #[U (N ⟨b,0,I⟩)] w fun e w'=>e=Q (J B S.next)/\zg w' b g0 g1 vb S.take/\But (zN b g0 g1 vb) w w':=by
 have hc0:=h.raw.c0;have hc1:=h.raw.c1;have hc2:=h.raw.c2;have hc3:=h.raw.c3;have hfb:=h.raw.fb;have hf0:=h.raw.f0;have hf1:=h.raw.f1;have hs:=h.ok.small;have n0:=h.raw.n0;have n1:=h.raw.n1;have n01:=h.raw.n01;have hi:=h.raw.ci S.next hn;have w0:w.cell? ⟨g0,S.next*8,I⟩=_:=h.raw.cw S.next 0 hn (by omega);have w1:=h.raw.cw S.next 1 hn (by omega);have w2:=h.raw.cw S.next 2 hn (by omega);have w3:=h.raw.cw S.next 3 hn (by omega);have w4:=h.raw.cw S.next 4 hn (by omega);have w5:=h.raw.cw S.next 5 hn (by omega);have w6:=h.raw.cw S.next 6 hn (by omega);have w7:=h.raw.cw S.next 7 hn (by omega)
 have i0:(0:Int)<=(S.next:Int):=by omega
 have i1:(S.next:Int)<(S.n:Int):=by omega
 have ho:=h.raw.own;rw[hb]at ho;have HM:D _:=h
 have fin:∀nq,D (zg (((((w.drewN nq).setCell ⟨b,3,I⟩ (J B (S.next+1))).setCell ⟨g1,S.next,I⟩ (Y z)).setCells g0 (S.next*8) jx)) b g0 g1 vb S.take/\But (zN b g0 g1 vb) w (((((w.drewN nq).setCell ⟨b,3,I⟩ (J B (S.next+1))).setCell ⟨g1,S.next,I⟩ (Y z)).setCells g0 (S.next*8) jx))):=by
  intro nq
  have hl:∀j,decide (j ∈ S.next::S.used)=if j=S.next then z else S.inn j:=by
   intro j
   by_cases e:j=S.next<;>simp[Pg.Fs.inn,e]
  have e:S.take={{{S with next:=S.next+1}with used:=S.next::S.used}with word:=Pg.Fs.clear S.word S.next}:=by
   simp[Pg.Fs.take,hb,hn]
  have h1:=(h.raw.drewN nq).yh4 (S.next+1);have h2:=h1.mark (k:=S.next) hn z (S.next::S.used) hl;have h3:=h2.clear (k:=S.next) hn jx jN ybG;refine⟨⟨by rw[e];exact h3,h.ok.take⟩,?_⟩;refine But.setCells g0 (.inr (.inr (.inl rfl))) _ _ _ ?_;exact(((But.ygr (below_drewN (zR w) nq)).setCell (.inr (.inl rfl)) _).setCell (.inr (.inr (.inr (.inl rfl)))) _)
 rcases ho.2 with ⟨rfl,hlen⟩|⟨g,cap,cur,rfl,hg⟩
 all_goals
  clear ho h
  go_enter Tryz.func51,Tryz.ntmps51
  go_wp2_with fail
  go_quiet (fail)
  go_wp2_with fail
  go_ret
  exact⟨rfl,(fin _).out⟩
theorem ybm {b g0 g1:Nat} {vb:M} {S:Pg.Fs} (w:T) (h:zg w b g0 g1 vb S) (l:List Nat) (k:Nat) (hb:S.back=l++[k]) (hn:k<S.n):
 E V 51 #[U (N ⟨b,0,I⟩)] w fun e w'=>e=Q (J B k)/\∃vb',zg w' b g0 g1 vb' S.take/\But (zN b g0 g1 vb) w w'/\vb'.ownBlock=vb.ownBlock:=by
 have hc0:=h.raw.c0;have hc1:=h.raw.c1;have hc2:=h.raw.c2;have hc3:=h.raw.c3;have hfb:=h.raw.fb;have hf0:=h.raw.f0;have hf1:=h.raw.f1;have hs:=h.ok.small;have n0:=h.raw.n0;have n1:=h.raw.n1;have n01:=h.raw.n01;have hi:=h.raw.ci k hn;have w0:w.cell? ⟨g0,k*8,I⟩=_:=h.raw.cw k 0 hn (by omega);have w1:=h.raw.cw k 1 hn (by omega);have w2:=h.raw.cw k 2 hn (by omega);have w3:=h.raw.cw k 3 hn (by omega);have w4:=h.raw.cw k 4 hn (by omega);have w5:=h.raw.cw k 5 hn (by omega);have w6:=h.raw.cw k 6 hn (by omega);have w7:=h.raw.cw k 7 hn (by omega)
 have i0:(0:Int)<=(k:Int):=by omega
 have i1:(k:Int)<(S.n:Int):=by omega
 have ho:=h.raw.own
 have hlen:S.back.length=l.length+1:=by rw[hb];simp
 rw[hlen]at ho;obtain⟨g,cap,rfl,_,hgl⟩:=ho.form (by omega)
 have hcap:l.length+1<=cap:=by
  rcases ho.2 with ⟨h',_⟩|⟨g',cap',cur,h',_,_,hle,_⟩
  ·cases h'
  ·cases h';exact hle
 have hbd:S.back.length<=128:=by have:=h.ok.len;have:=h.ok.top;omega
 have hl128:l.length<128:=by omega
 have hck:w.cell? ⟨g,l.length,I⟩=N (J B k):=by
  rw[ho.cellAt l.length (by omega),yau,hb];simp
 have hpop:w.ownsRow 0 3 1 (A (N ⟨g,0,I⟩) l.length cap) l.length (yau l):=by
  have e:yau S.back=yau l++[J B (k:Int)]:=by simp[yau,hb]
  rw[e]at ho;exact ownsRow_pop (by simp[yau]) ho
 have fin:D (∃vb',zg ((((w.setCell ⟨b,2,I⟩ (A (N ⟨g,0,I⟩) l.length cap)).setCell ⟨g1,k,I⟩ (Y z)).setCells g0 (k*8) jx)) b g0 g1 vb' S.take/\But (zN b g0 g1 (A (N ⟨g,0,I⟩) (l.length+1) cap)) w ((((w.setCell ⟨b,2,I⟩ (A (N ⟨g,0,I⟩) l.length cap)).setCell ⟨g1,k,I⟩ (Y z)).setCells g0 (k*8) jx))/\vb'.ownBlock=(kT (N ⟨g,0,I⟩) (l.length+1) cap).ownBlock):=by
  have hl:∀j,decide (j ∈ k::S.used)=if j=k then z else S.inn j:=by
   intro j
   by_cases e:j=k<;>simp[Pg.Fs.inn,e]
  have e:S.take={{{S with back:=l}with used:=k::S.used}with word:=Pg.Fs.clear S.word k}:=by
   simp[Pg.Fs.take,hb]
  have h1:=h.raw.yh3 hpop h.raw.vb0 h.raw.vb1 h.raw.vbb;have h2:=h1.mark (k:=k) hn z (k::S.used) hl;have h3:=h2.clear (k:=k) hn jx jN ybG;refine⟨A (N ⟨g,0,I⟩) l.length cap,⟨by rw[e];exact h3,h.ok.take⟩,?_,rfl⟩;refine But.setCells g0 (.inr (.inr (.inl rfl))) _ _ _ ?_;exact(((But.refl _ w).setCell (.inr (.inl rfl)) _).setCell (.inr (.inr (.inr (.inl rfl)))) _)
 have j1:(l.length:Int)<=(cap:Int):=by omega
 clear ho h hpop hlen hb;generalize l.length=m at*
 go_enter Tryz.func51,Tryz.ntmps51
 go_wp2_with fail
 go_ret
 exact⟨rfl,fin.out⟩
theorem jd {b g0 g1:Nat} {vb:M} {S:Pg.Fs} (w:T) (h:zg w b g0 g1 vb S):
 E V 51 #[U (N ⟨b,0,I⟩)] w fun e w'=>e=Q (J B S.takeN)/\∃vb',zg w' b g0 g1 vb' S.take/\But (zN b g0 g1 vb) w w'/\vb'.ownBlock=vb.ownBlock:=by
 by_cases hb:S.back=[]
 ·by_cases hn:S.next<S.n
  ·refine(ybn w h hb hn).mono ?_
   rintro e w' ⟨rfl,h1,h2⟩;exact⟨by simp[Pg.Fs.takeN,Pg.Fs.pick,hb,hn],vb,h1,h2,rfl⟩
  ·refine(ybo w h hb hn).mono ?_
   rintro e w' ⟨rfl,h1⟩
   have e1:S.take=S:=by simp[Pg.Fs.take,hb,hn]
   refine⟨by simp[Pg.Fs.takeN,Pg.Fs.pick,hb,hn],vb,?_,But.ygr h1,rfl⟩;rw[e1];exact h.keep (F:=fun _=>False) (But.ygr h1) (fun _ _=>id)
 ·obtain⟨l,k,hl⟩:∃l k,S.back=l++[k]:=⟨_,_,(List.dropLast_concat_getLast hb).symm⟩
  have hk:k<S.n:=by
   have:=h.ok.yh7 (k:=k) (by rw[hl];simp);have:=h.ok.top;omega
  refine(ybm w h l k hl hk).mono ?_;rintro e w' ⟨rfl,h1⟩;exact⟨by simp[Pg.Fs.takeN,Pg.Fs.pick,hl],h1⟩
theorem ye8:(Tryz.prog.info? 3).map (fun i=>(i.zero,i.size,i.bytes))=N (N (J B 0),1,8):=by kernel_rfl
theorem ycc {b g0 g1:Nat} {vb:M} {S:Pg.Fs} (m:Nat) (w:T) (h:zg w b g0 g1 vb S) (hh:S.has (m:Int)=z):
 E V 111 #[U (N ⟨b,0,I⟩),J B (m:Int)] w fun e w'=>e=Q (Y z)/\∃vb',zg w' b g0 g1 vb' (S.give (m:Int))/\But (zN b g0 g1 vb) w w'/\(vb'.ownBlock=vb.ownBlock\/∃k,vb'.ownBlock=N k/\w.heap.size<=k):=by
 have hc1:=h.raw.c1;have hfb:=h.raw.fb;have hf1:=h.raw.f1;have hs:=h.ok.small;have n1:=h.raw.n1
 have hn:m<S.n:=by have:=h.ok.ygG hh;omega
 have hi:=h.raw.ci m hn
 have i0:(0:Int)<=(m:Int):=by omega
 have i1:(m:Int)<(S.n:Int):=by omega
 have hu:m ∈ S.used:=by simpa using (h.ok.ygG hh).2.2
 have hT:=zy (m:Int) w h;rw[hh]at hT
 have hl:∀j,decide (j ∈ S.used.erase m)=if j=m then O else S.inn j:=by
  intro j;have hnd:S.used.Nodup:=(List.nodup_append.1 h.ok.nodup).1
  by_cases e:j=m
  ·simp[e,hnd.mem_erase_iff]
  ·simp[e,hnd.mem_erase_iff,Pg.Fs.inn]
 have hM:=h.raw.mark hn O (S.used.erase m) hl
 have hbd:S.back.length<=128:=by have:=h.ok.len;have:=h.ok.top;omega
 have hown:=hM.own;have hc2:=hM.c2;have hlb:=hM.lb;obtain⟨q0,hq,hz0,hz1,hz2⟩:=info_parts ye8;have HM:D _:=hM;have HH:D _:=h;have HX:D _:=hh;clear hM h hl hu hh
 go_enter Tryz.func111,Tryz.ntmps111
 go_wp2_with (first
  | (go_at_call 103;refine hT.mono ?_;rintro e w' ⟨rfl,hw⟩;subst w')
  | (at_builtin;refine wpList_append_lies _ rfl _ _ 45 rfl 0 3 q0 (J B 0) 1 8 Tryz.underlying45 hq hz0 hz1 hz2 rfl (by decide) _ _ _ rfl (hown.alloc _) ⟨w.heap.size,0,I⟩ 1 1 [J B (m:Int)] rfl rfl ?c1 ?c2 (by decide) ?c3 ?c4 (Nat.zero_le _) (w.heap.size+1) (by simp) ?_))
 case c1=>
  intro j u hj
  match j,hj with
  | 0,hj=>simp at hj;subst hj;simp[Addr.add,go_sem]
 case c2=>intro u hu;simp at hu;subst hu;rfl
 case c3=>unfold maxLen;omega
 case c4=>omega
 intro g cap w3 hown3 hgrow hat hlt;have h1:=HM.out
 have hk:∀k,k=b\/k=g0\/k=g1->w3.heap[k]?=(w.setCell ⟨g1,m,I⟩ (Y O)).heap[k]?:=by
  intro k hk
  have hkl:k<(w.setCell ⟨g1,m,I⟩ (Y O)).heap.size:=by
   rcases hk with rfl|rfl|rfl
   ·exact h1.lb
   ·exact h1.l0
   ·exact h1.l1
  have hkv:N k≠vb.ownBlock:=by
   rcases hk with rfl|rfl|rfl
   ·exact fun e=>h1.vbb e.symm
   ·exact fun e=>h1.vb0 e.symm
   ·exact fun e=>h1.vb1 e.symm
  rw[hgrow.block k (by simp at hkl ⊢;omega) hkv];exact Below.heap_alloc _ _ _ hkl
 have hsz:(w.setCell ⟨g1,m,I⟩ (Y O)).heap.size=w.heap.size:=by simp
 have hne:∀k,k=b\/k=g0\/k=g1->(kT (N ⟨g,0,I⟩) (S.back.length+1) cap).ownBlock≠N k:=by
  intro k hk e
  have e:g=k:=by simpa[Value.ownBlock]using e
  subst e;rcases hat with hat|hat
  ·rcases hk with rfl|rfl|rfl
   ·exact h1.vbb hat
   ·exact h1.vb0 hat
   ·exact h1.vb1 hat
  ·have:=h1.lb;have:=h1.l0;have:=h1.l1
   omega
 have hG:=h1.grow (w':=w3) (l:=S.back++[m]) (by have:=hgrow.size;simp at this ⊢;omega) hk (by simpa[yau]using hown3) (hne g0 (.inr (.inl rfl))) (hne g1 (.inr (.inr rfl))) (hne b (.inl rfl));have kc:w3.cell? ⟨b,2,I⟩=N vb:=(R (hk b (.inl rfl))).trans h1.c2;have kf:w3.frozen? ⟨b,2,I⟩=O:=(kI (hk b (.inl rfl))).trans (h1.fb 2)
 have fin:D (∃vb',zg (w3.setCell ⟨b,2,I⟩ (A (N ⟨g,0,I⟩) (S.back.length+1) cap)) b g0 g1 vb' (S.give (m:Int))/\But (zN b g0 g1 vb) w (w3.setCell ⟨b,2,I⟩ (A (N ⟨g,0,I⟩) (S.back.length+1) cap))/\(vb'.ownBlock=vb.ownBlock\/∃k,vb'.ownBlock=N k/\w.heap.size<=k)):=by
  have e:S.give (m:Int)={{S with used:=S.used.erase m}with back:=S.back++[m]}:=by
   simp[Pg.Fs.give,HX.out]
  refine⟨A (N ⟨g,0,I⟩) (S.back.length+1) cap,⟨by rw[e];exact hG,HH.out.ok.give _⟩,?_,?_⟩
  ·refine(((((But.refl _ w).setCell (.inr (.inr (.inr (.inl rfl)))) _).alloc _).grown hgrow fun k hk=> .inr (.inr (.inr (.inr hk))))).setCell (.inr (.inl rfl)) _
  ·rcases hat with hat|hat
   ·exact .inl hat.symm
   ·exact .inr ⟨g,rfl,by omega⟩
 clear hk hne hG h1 hown3 hgrow hown hc2 hat hlt
 go_wp2_with fail
 go_ret
 exact⟨rfl,fin.out⟩
theorem ycb {b g0 g1:Nat} {vb:M} {S:Pg.Fs} (k:Int) (w:T) (h:zg w b g0 g1 vb S):
 E V 111 #[U (N ⟨b,0,I⟩),J B k] w fun e w'=>e=Q (Y (S.has k))/\∃vb',zg w' b g0 g1 vb' (S.give k)/\But (zN b g0 g1 vb) w w'/\(vb'.ownBlock=vb.ownBlock\/∃j,vb'.ownBlock=N j/\w.heap.size<=j):=by
 cases hh:S.has k
 ·have hT:=zy k w h
  rw[hh]at hT
  have fin:D (∃vb',zg w b g0 g1 vb' (S.give k)/\But (zN b g0 g1 vb) w w/\(vb'.ownBlock=vb.ownBlock\/∃j,vb'.ownBlock=N j/\w.heap.size<=j)):=by
   have e:S.give k=S:=by simp[Pg.Fs.give,hh]
   exact⟨vb,by rw[e];exact h,But.refl _ _,.inl rfl⟩
  clear h
  go_enter Tryz.func111,Tryz.ntmps111
  go_wp2_with (go_at_call 103;refine hT.mono ?_;rintro e w' ⟨rfl,hw⟩;subst w')
  go_ret
  exact⟨rfl,fin.out⟩
 ·obtain⟨m,rfl⟩:=Int.eq_ofNat_of_zero_le (h.ok.ygG hh).1
  exact ycc m w h hh
theorem ydK:(Tryz.prog.info? 164).map (fun i=>(i.zero,i.size,i.bytes))=N (N (kR #[J H 0,J H 0,J H 0,J H 0,J H 0,J H 0,J H 0,J H 0]),8,64):=by kernel_rfl
theorem ycw:(Tryz.prog.info? 4).map (fun i=>(i.zero,i.size,i.bytes))=N (N (Y O),1,1):=by kernel_rfl
theorem yc4 (n:Nat) (hn:n<=128) (w:T):
 E V 50 #[J B (n:Int)] w fun e w'=>∃b g0 g1,e=Q (U (N ⟨b,0,I⟩))/\zg w' b g0 g1 (A I 0 0) (Pg.Fs.new n)/\Below w.heap.size w w'/\w.heap.size<=b/\w.heap.size<=g0/\w.heap.size<=g1:=by
 obtain⟨q0,hq,hz0,hz1,hz2⟩:=info_parts ydK;obtain⟨q1,hq1,hy0,hy1,hy2⟩:=info_parts ycw
 have m0:∀w:T,(Instr.makeSlice 135 (J B (n:Int)) (J B (n:Int))).run V w=_:=fun w=>
  run_make w 135 164 q0 _ Tryz.underlying135 hq hz0 B B n n (by omega) (Int.le_refl _) (by rw[hz2];omega) (by omega)
 have m1:∀w:T,(Instr.makeSlice 50 (J B (n:Int)) (J B (n:Int))).run V w=_:=fun w=>
  run_make w 50 4 q1 _ Tryz.underlying50 hq1 hy0 B B n n (by omega) (Int.le_refl _) (by rw[hy2];omega) (by omega)
 rw[hz1]at m0;rw[hy1]at m1;simp only[Int.toNat_natCast]at m0 m1
 go_enter Tryz.func50,Tryz.ntmps50
 go_wp2_with fail
 go_region
 all_goals
  go_wp2_with fail
  go_ret
 ·refine⟨w.heap.size+1+1,w.heap.size,w.heap.size+1,rfl,⟨?_,Pg.Fs.yit n hn⟩,(zA (zA (zA (zR w) _) _) _).drew,by omega,by omega,by omega⟩
  refine zH.made (t0:=164) (t1:=4) (t2:=137) ?_ ?_ ?_ (by omega) (by omega) (by omega)
  ·exact(jO w _ _ _).2.2
  ·exact(jO w _ _ _).1
  ·exact(jO w _ _ _).2.1
 ·refine⟨w.heap.size+1+1,w.heap.size+1,w.heap.size,rfl,⟨?_,Pg.Fs.yit n hn⟩,(zA (zA (zA (zR w) _) _) _).drew,by omega,by omega,by omega⟩
  refine zH.made (t0:=164) (t1:=4) (t2:=137) ?_ ?_ ?_ (by omega) (by omega) (by omega)
  ·exact(jO w _ _ _).2.2
  ·exact(jO w _ _ _).2.1
  ·exact(jO w _ _ _).1
set_option maxRecDepth 100000
namespace Pg.Fs
end Pg.Fs
namespace Side
variable {w0 w w':T} {bf bm g0 g1:Nat} {vb vb':M} {F F':Nat->Prop} {Sf Sm S':Pg.Fs}
end Side
theorem ybA {ad ad':Option Addr} {cap cap':Nat} {L:List Int} (w:T) (h:zh w ad L) (h':zh w ad' L) (hl:L.length<=5000):
 E V 18 #[A ad L.length cap,A ad' L.length cap'] w fun e w'=>e=Q (Y z)/\Below w.heap.size w w':=by
 have HA:D (zh w ad L):=h;have HB:D (zh w ad' L):=h';clear h h'
 go_enter Tryz.func18,Tryz.ntmps18
 go_wp2_with fail
 go_loopw [5] (fun i wr=>∃j:Nat,j<=L.length/\i=J B j/\D (Below w.heap.size w wr)) (fun i _=>L.length-(intOf i).toNat)
 case atStart=>exact⟨0,by omega,rfl,zR _⟩
 case round=>
  obtain⟨j,hj,rfl,HR⟩:=hrel
  have i0:(0:Int)<=(j:Int):=by omega
  by_cases hlt:j<L.length
  ·obtain⟨g,rfl,hg,hm⟩:=zh.below HA.out HR.out j hlt
   obtain⟨g',rfl,hg',hm'⟩:=zh.below HB.out HR.out j hlt
   have i1:(j:Int)<(L.length:Int):=by omega
   have fin:D (∀nq,Below w.heap.size w (wr.drewN nq)):=fun nq=>zT HR.out (below_drewN (zR _) nq);generalize L.getD j 0=x at*
   go_wp2_with fail
   go_quiet (fail)
   go_wp2_with fail
   exact⟨⟨j+1,by omega,by go_num,fin.out _⟩,by simp[intOf];omega⟩
  ·have i1:¬(j:Int)<(L.length:Int):=by omega
   go_wp2_with fail
   go_ret
   exact⟨rfl,HR.out⟩
theorem yd3 {ad ad':Option Addr} {cap cap':Nat} {L:List Pg.Mp} (w:T) (h:xx w ad L) (h':xx w ad' L) (hl:L.length<=5000):
 E V 16 #[A ad L.length cap,A ad' L.length cap'] w fun e w'=>e=Q (Y z)/\Below w.heap.size w w':=by
 have HA:D (xx w ad L):=h;have HB:D (xx w ad' L):=h';clear h h'
 go_enter Tryz.func16,Tryz.ntmps16
 go_wp2_with fail
 go_loopw [5] (fun i wr=>∃j:Nat,j<=L.length/\i=J B j/\D (Below w.heap.size w wr)) (fun i _=>L.length-(intOf i).toNat)
 case atStart=>exact⟨0,by omega,rfl,zR _⟩
 case round=>
  obtain⟨j,hj,rfl,HR⟩:=hrel
  have i0:(0:Int)<=(j:Int):=by omega
  by_cases hlt:j<L.length
  ·obtain⟨g,rfl,hg,hm⟩:=xx.below HA.out HR.out j hlt
   obtain⟨g',rfl,hg',hm'⟩:=xx.below HB.out HR.out j hlt;obtain⟨k0,k1,k2,k3⟩:=hm;obtain⟨m0,m1,m2,m3⟩:=hm'
   have i1:(j:Int)<(L.length:Int):=by omega
   have fin:D (∀nq,Below w.heap.size w (wr.drewN nq)):=fun nq=>zT HR.out (below_drewN (zR _) nq);generalize L.getD j .zz=x at*;obtain⟨p,s,f,r⟩:=x;simp only at k0 k1 k2 k3 m0 m1 m2 m3
   go_wp2_with fail
   go_quiet (fail)
   go_wp2_with fail
   exact⟨⟨j+1,by omega,by go_num,fin.out _⟩,by simp[intOf];omega⟩
  ·have i1:¬(j:Int)<(L.length:Int):=by omega
   go_wp2_with fail
   go_ret
   exact⟨rfl,HR.out⟩
theorem yee (S:Pg.Fs) (p:Int):∀(lv:Nat) (t:Int) (a i:Nat),i<(Pg.thr S (Pg.onW p) lv t a).1.length->i<=lv/\(qz (Pg.thr S (Pg.onW p) lv t a).1).getD i 0=(Pg.ix p (lv-i):Nat):=by
 intro lv
 induction lv with
 | zero=>
   intro t a i hi;rw[Pg.yhC]at hi ⊢;split at hi
   ·simp at hi
   ·rename_i h1
    rw[if_neg h1];split at hi
    ·rename_i h2
     rw[if_pos h2];simp at hi;subst hi;exact⟨by omega,by simp[qz,Pg.spt]⟩
    ·rename_i h2
     obtain⟨m,hm⟩:=Pg.yhz (S:=S) (t:=t) (i:=Pg.ix p 0) (lv:=0) (by simpa using h2);omega
 | succ lv ih=>
   intro t a i hi;rw[Pg.yhC]at hi ⊢;split at hi
   ·simp at hi
   ·rename_i h1
    rw[if_neg h1];split at hi
    ·rename_i h2
     rw[if_pos h2];simp at hi;subst hi;exact⟨by omega,by simp[qz,Pg.spt]⟩
    ·rename_i h2
     rw[if_neg h2];simp only at hi ⊢
     cases i with
     | zero=>exact⟨by omega,by simp[qz,Pg.spt]⟩
     | succ i=>
       have h3:=ih (Pg.rEn S t (Pg.ix p (lv+1)) (lv+1)).f ((a+Pg.ix p (lv+1))*8) i (by simpa[Pg.sub]using hi);refine⟨by omega,?_⟩;rw[show lv+1-(i+1)=lv-i by omega]
       simpa[qz,Pg.sub]using h3.2
theorem yam (S:Pg.Fs) (t p:Int) {i:Nat} (hi:i<(zt S t p).length):Pg.below p 4096=z/\i<=3/\(qz (zt S t p)).getD i 0=Pg.index p (3-(i:Int)):=by
 unfold zt at hi ⊢;split at hi
 ·rename_i h
  rw[if_pos h];obtain⟨h1,h2⟩:=yee S p 3 t 0 i hi;refine⟨h.1,h1,?_⟩;rw[h2,show(3-(i:Int))=((3-i:Nat):Int) by omega,Pg.ygA h.1 (by omega)]
 ·simp at hi
theorem yev (S:Pg.Fs) (t p:Int):(zt S t p).length<=4680:=by
 unfold zt;split
 ·exact Pg.yhB S (Pg.onW p) 3 t 0
 ·simp
end
section
theorem zh.but {w w':T} {ad:Option Addr} {L:List Int} {G:Nat->Prop} (h:zh w ad L) (hb:But G w w') (hn:∀g,ad=N ⟨g,0,I⟩->¬G g):zh w' ad L:=fun j hj=>by
 obtain⟨g,e,hl,hc⟩:=h j hj;exact⟨g,e,Nat.lt_of_lt_of_le hl hb.size,(hb.cell (a:=⟨g,j,I⟩) hl (hn g e)).trans hc⟩
theorem ydY (p:Int) (ts:List Int):∀(k:Nat) (S:Pg.Fs) (G:List Int),(Pg.rmW p ts k S G).2.length<=G.length+k
 | 0,S,G=>by simp[Pg.rmW]
 | k+1,S,G=>by
   rw[Pg.rmW];split
   ·exact Nat.le_add_right _ _
   ·have:=ydY p ts k (S.store (ts.getD k 0) (Pg.index p (3-(k:Int))) 0) (G++[ts.getD k 0])
    simp at this ⊢;omega
theorem ydX (S:Pg.Fs) (t p:Int):(Pg.rmR S t p).2.length<=4680:=by
 unfold Pg.rmR;split
 ·have h1:=ydY p (tabs (zt S t p)) (zt S t p).length S []
  have h2:=yev S t p;rw[List.length_nil]at h1;omega
 ·simp
set_option linter.unusedSimpArgs false
def Pg.Ev.val (e:Pg.Ev):M:=kR #[J B e.c,Y e.ended,J B e.a,J B e.f,J B e.r,Y e.back]
def Pg.Sx.val (x:Pg.Sx):M:=kR #[J B x.kind,J B x.core,J B x.m.p,J B x.m.s,J B x.m.f,J B x.m.r,J B x.q,J B x.k,Y x.u]
theorem zp {w:T} {r:Nat} {v0 v1 v2 v3 v4 v5:M} {t:TypeId} (h:w.heap[r]?=N (kJ #[v0,v1,v2,v3,v4,v5] t (0,0))):
 (w.cell? ⟨r,0,I⟩=N v0/\w.cell? ⟨r,1,I⟩=N v1/\w.cell? ⟨r,2,I⟩=N v2/\w.cell? ⟨r,3,I⟩=N v3/\w.cell? ⟨r,4,I⟩=N v4/\w.cell? ⟨r,5,I⟩=N v5)/\∀i,w.frozen? ⟨r,i,I⟩=O:=
 ⟨by simp[kN,h],fun i=>by simp[kC,h]⟩
theorem jj {w w1:T} (h:Below w.heap.size w w1) (r:Nat) (hr:w.heap.size<=r) (x0 x1 x2 x3 x4 x5:M):Below w.heap.size w ((((((w1.setCell ⟨r,0,I⟩ x0).setCell ⟨r,1,I⟩ x1).setCell ⟨r,2,I⟩ x2).setCell ⟨r,3,I⟩ x3).setCell ⟨r,4,I⟩ x4).setCell ⟨r,5,I⟩ x5):=
 (((((h.setCell (p:=⟨r,0,I⟩) hr x0).setCell (p:=⟨r,1,I⟩) hr x1).setCell (p:=⟨r,2,I⟩) hr x2).setCell (p:=⟨r,3,I⟩) hr x3).setCell (p:=⟨r,4,I⟩) hr x4).setCell (p:=⟨r,5,I⟩) hr x5
theorem qB {F:Nat->Prop} {w w1:T} (h:But F w w1) (r:Nat) (hr:w.heap.size<=r\/F r) (x0 x1 x2 x3 x4 x5:M):But F w ((((((w1.setCell ⟨r,0,I⟩ x0).setCell ⟨r,1,I⟩ x1).setCell ⟨r,2,I⟩ x2).setCell ⟨r,3,I⟩ x3).setCell ⟨r,4,I⟩ x4).setCell ⟨r,5,I⟩ x5):=
 (((((h.setCell (a:=⟨r,0,I⟩) hr x0).setCell (a:=⟨r,1,I⟩) hr x1).setCell (a:=⟨r,2,I⟩) hr x2).setCell (a:=⟨r,3,I⟩) hr x3).setCell (a:=⟨r,4,I⟩) hr x4).setCell (a:=⟨r,5,I⟩) hr x5
theorem Pg.yh0 (S:Pg.Fs) (p:Int):Pg.fits (Pg.tFM S 0 p).p:=by
 unfold Pg.tFM;split
 ·exact Pg.yif _ _ _
 ·unfold Pg.fits Pg.Mp.zz;simp
theorem Pg.yiv (S:Pg.Fs) (p r:Int):Pg.fits (Pg.prM S 0 p r).p:=by
 unfold Pg.prM;split
 ·exact Pg.yh0 S p
 ·unfold Pg.fits Pg.Mp.zz;simp
def chW (w:T) (x:Pg.Sx):T:=(w.alloc (kJ #[J B x.kind,J B x.core,J B x.m.p,J B x.m.s,J B x.m.f,J B x.m.r,J B x.q,J B x.k,Y x.u] 43)).alloc (kJ #[J B 0,Y O,J B 0,J B 0,J B 0,Y O] 36)
structure ChW (w W:T) (x:Pg.Sx):Prop where
 bel:Below w.heap.size w W
 size:W.heap.size=w.heap.size+2
 x0:W.cell? ⟨w.heap.size,0,I⟩=N (J B x.kind)
 x1:W.cell? ⟨w.heap.size,1,I⟩=N (J B x.core)
 x2:W.cell? ⟨w.heap.size,2,I⟩=N (J B x.m.p)
 x3:W.cell? ⟨w.heap.size,3,I⟩=N (J B x.m.s)
 x4:W.cell? ⟨w.heap.size,4,I⟩=N (J B x.m.f)
 x5:W.cell? ⟨w.heap.size,5,I⟩=N (J B x.m.r)
 x6:W.cell? ⟨w.heap.size,6,I⟩=N (J B x.q)
 x7:W.cell? ⟨w.heap.size,7,I⟩=N (J B x.k)
 x8:W.cell? ⟨w.heap.size,8,I⟩=N (Y x.u)
 ev:W.heap[w.heap.size+1]?=N (kJ #[J B 0,Y O,J B 0,J B 0,J B 0,Y O] 36 (0,0))
theorem xt (w:T) (x:Pg.Sx):ChW w (chW w x) x:=by
 refine⟨zA (zA (zR w) _) _,by simp[chW],?_,?_,?_,?_,?_,?_,?_,?_,?_,?_⟩
 iterate 9 (unfold chW;simp[go_sem])
 unfold chW;exact(by simp:(w.alloc (kJ #[J B x.kind,J B x.core,J B x.m.p,J B x.m.s,J B x.m.f,J B x.m.r,J B x.q,J B x.k,Y x.u] 43)).heap.size=w.heap.size+1)▸kY _ _
def Pg.Spc.walkOf (X:Pg.Spc) (k:Int):Pg.Wk:=if 0<=k then(X.C.getD k.toNat Pg.Cr.new).K else Pg.Wk.off
def Pg.Spc.linesOf (X:Pg.Spc) (k:Int):List Pg.Ln:=if 0<=k then(X.C.getD k.toNat Pg.Cr.new).L else []
def Pg.Spc.waitsOf (X:Pg.Spc) (k:Int):Bool:=decide (0<=k)&&X.W.getD k.toNat O
end
section
variable {P:T->Nat->Pg.Spc->(Nat->Prop)->Prop}
end
section
attribute [local go_sem] Loose.gent
theorem qd (ad:Option Addr) (len cap:Nat) (k:Int) (w:T):E V 8 #[A ad len cap,J B k] w fun e w'=>e=Q (Y (decide (k<(len:Int))))/\w'=w:=by
 go_enter Tryz.func8,Tryz.ntmps8
 go_wp2_with fail
 go_ret
 exact⟨rfl,rfl⟩
def Bst.sx (x:Bst):Pg.Sx:=⟨x.kind,x.core,x.m,x.q,x.k,x.u⟩
section
variable {P:T->Nat->Pg.Spc->(Nat->Prop)->Prop}
end
end
end Go.Proofs.YtdphiompijbelaaGreat
