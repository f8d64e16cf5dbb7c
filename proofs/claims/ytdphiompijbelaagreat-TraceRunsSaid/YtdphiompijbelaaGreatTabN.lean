import Derived.Deep.RegionHeld3
import Derived.Test.YtdphiompijbelaaGreatPlainSD
set_option linter.all false
set_option maxRecDepth 100000
open Int renaming eq_ofNat_of_zero_le->H,le_refl->kS
open Go.Obj renaming cells->E
open Bool renaming false->Z,true->M
open Go.Ending renaming returned->V
open Go.Proofs.Tryz renaming prog->T
open Go renaming World->Y
open Go.World renaming cell?_of_block->P,frozen?_of_block->O,block_lt_of_cell?->A,frozen?->z,cell?->kJ
open Go.IntKind renaming i64->B,u64->U
open Go.Value renaming int->J,bool->N,pointer->Q,slice->D,agg->kI,slice->kP
open Option renaming none->I,some->R
namespace Go.Proofs.YtdphiompijbelaaGreat
open Go.RowKit Go.Sort
structure xc (w:Y) (b o:Nat) (root:Int) (K:Pg.Wk):Prop where
 c0:w.cell? ⟨b,o,I⟩=R (J B root)
 c1:w.cell? ⟨b,o+1,I⟩=R (N K.on)
 c2:w.cell? ⟨b,o+2,I⟩=R (J B K.q)
 c3:w.cell? ⟨b,o+3,I⟩=R (J B K.k)
 c4:w.cell? ⟨b,o+4,I⟩=R (N K.u)
 c5:w.cell? ⟨b,o+5,I⟩=R (J B K.t)
 c6:w.cell? ⟨b,o+6,I⟩=R (J B (K.lv:Int))
 c7:w.cell? ⟨b,o+7,I⟩=R (J U K.x)
 fb:∀p,w.frozen? ⟨b,p,I⟩=Z
theorem xc.lb {w:Y} {b o:Nat} {root:Int} {K:Pg.Wk} (h:xc w b o root K):b<w.heap.size:=A _ _ h.c0
theorem xc.of_block {w w':Y} {b o:Nat} {root:Int} {K:Pg.Wk} (h:xc w b o root K) (hk:w'.heap[b]?=w.heap[b]?):xc w' b o root K:=
 ⟨(P hk).trans h.c0,(P hk).trans h.c1,(P hk).trans h.c2,(P hk).trans h.c3,(P hk).trans h.c4,(P hk).trans h.c5,(P hk).trans h.c6,(P hk).trans h.c7,fun p=>(O hk).trans (h.fb p)⟩
theorem xc.keep {w w':Y} {b o:Nat} {root:Int} {K:Pg.Wk} {F:Nat->Prop} (h:xc w b o root K) (hb:But F w w') (hF:¬F b):xc w' b o root K:=h.of_block (hb.block b h.lb hF)
theorem xc.grow {w w':Y} {b o:Nat} {root:Int} {K:Pg.Wk} (h:xc w b o root K) (hb:Below w.heap.size w w'):xc w' b o root K:=h.of_block (hb.block b h.lb)
structure Ch8 (b o:Nat) (F:Nat->Prop) (w w':Y):Prop where
 but:But F w w'
 oth:∀p,p<o\/o+8<=p->w'.cell? ⟨b,p,I⟩=w.cell? ⟨b,p,I⟩
namespace Ch8
variable {b o:Nat} {F G:Nat->Prop} {w w1 w2:Y}
theorem refl (b o:Nat) (F:Nat->Prop) (w:Y):Ch8 b o F w w:=⟨But.refl _ _,fun _ _=>rfl⟩
theorem yhf (h:Below w.heap.size w w1) (hb:b<w.heap.size):Ch8 b o F w w1:=⟨But.yhf h,fun p _=>h.cell (p:=⟨b,p,I⟩) hb⟩
theorem trans (h:Ch8 b o F w w1) (k:Ch8 b o G w1 w2) (hG:∀i,i<w.heap.size->G i->F i):Ch8 b o F w w2:=
 ⟨h.but.trans k.but hG,fun p hp=>(k.oth p hp).trans (h.oth p hp)⟩
theorem mono (h:Ch8 b o F w w1) (hG:∀i,i<w.heap.size->F i->G i):Ch8 b o G w w1:=⟨h.but.mono hG,h.oth⟩
theorem ylo (h:But F w w1) (hb:b<w.heap.size) (hF:¬F b):Ch8 b o F w w1:=⟨h,fun p _=>h.cell (a:=⟨b,p,I⟩) hb hF⟩
theorem set (h:Ch8 b o F w w1) (hF:F b) (j:Nat) (hj:j<8) (v:Value):Ch8 b o F w (w1.setCell ⟨b,o+j,I⟩ v):=
 ⟨h.but.setCell (.inr hF) v,fun p hp=>(World.cell?_setCell_other _ _ _ _ (fun e=>by injection e with _ e;omega)).trans (h.oth p hp)⟩
theorem set0 (h:Ch8 b o F w w1) (hF:F b) (v:Value):Ch8 b o F w (w1.setCell ⟨b,o,I⟩ v):=h.set hF 0 (by decide) v
theorem drew (h:Ch8 b o F w w1):Ch8 b o F w w1.drew:=⟨h.but.drew,h.oth⟩
end Ch8
structure vk (w:Y) (b:Nat) (K:Pg.Wk) (t lv x:Int):Prop where
 c1:w.cell? ⟨b,1,I⟩=R (N K.on)
 c2:w.cell? ⟨b,2,I⟩=R (J B K.q)
 c3:w.cell? ⟨b,3,I⟩=R (J B K.k)
 c4:w.cell? ⟨b,4,I⟩=R (N K.u)
 c5:w.cell? ⟨b,5,I⟩=R (J B t)
 c6:w.cell? ⟨b,6,I⟩=R (J B lv)
 c7:w.cell? ⟨b,7,I⟩=R (N (decide (K.x≠0)))
 c8:w.cell? ⟨b,8,I⟩=R (J U x)
 fb:∀p,w.frozen? ⟨b,p,I⟩=Z
 at':K.on=M->t=K.t/\lv=(K.lv:Int)
 wd:K.x≠0->x=K.x
theorem vk.lb {w:Y} {b:Nat} {K:Pg.Wk} {t lv x:Int} (h:vk w b K t lv x):b<w.heap.size:=A _ _ h.c1
theorem vk.of_block {w w':Y} {b:Nat} {K:Pg.Wk} {t lv x:Int} (h:vk w b K t lv x) (hk:w'.heap[b]?=w.heap[b]?):vk w' b K t lv x:=
 ⟨(P hk).trans h.c1,(P hk).trans h.c2,(P hk).trans h.c3,(P hk).trans h.c4,(P hk).trans h.c5,(P hk).trans h.c6,(P hk).trans h.c7,(P hk).trans h.c8,fun p=>(O hk).trans (h.fb p),h.at',h.wd⟩
theorem vk.keep {w w':Y} {b:Nat} {K:Pg.Wk} {t lv x:Int} {F:Nat->Prop} (h:vk w b K t lv x) (hb:But F w w') (hF:¬F b):vk w' b K t lv x:=h.of_block (hb.block b h.lb hF)
theorem vk.grow {w w':Y} {b:Nat} {K:Pg.Wk} {t lv x:Int} (h:vk w b K t lv x) (hb:Below w.heap.size w w'):vk w' b K t lv x:=h.of_block (hb.block b h.lb)
def qI (w:Y) (b:Nat) (K:Pg.Wk):Prop:=∃t lv x,vk w b K t lv x
set_option maxRecDepth 100000
attribute [local go_sem] Loose.gent
theorem xZ {F:Nat->Prop} {w w1:Y} (h:But F w w1) (r:Nat) (hr:w.heap.size<=r\/F r) (x0 x1 x2 x3 x4 x5 x6 x7 x8:Value):
 But F w (((((((((w1.setCell ⟨r,0,I⟩ x0).setCell ⟨r,1,I⟩ x1).setCell ⟨r,2,I⟩ x2).setCell ⟨r,3,I⟩ x3).setCell ⟨r,4,I⟩ x4).setCell ⟨r,5,I⟩ x5).setCell ⟨r,6,I⟩ x6).setCell ⟨r,7,I⟩ x7).setCell ⟨r,8,I⟩ x8):=
 ((((((((h.setCell (a:=⟨r,0,I⟩) hr x0).setCell (a:=⟨r,1,I⟩) hr x1).setCell (a:=⟨r,2,I⟩) hr x2).setCell (a:=⟨r,3,I⟩) hr x3).setCell (a:=⟨r,4,I⟩) hr x4).setCell (a:=⟨r,5,I⟩) hr x5).setCell (a:=⟨r,6,I⟩) hr x6).setCell (a:=⟨r,7,I⟩) hr x7).setCell (a:=⟨r,8,I⟩) hr x8
theorem yb4 {w:Y} {r:Nat} {v0 v1 v2 v3 v4 v5 v6 v7 v8:Value} {t:TypeId} (h:w.heap[r]?=R (E #[v0,v1,v2,v3,v4,v5,v6,v7,v8] t (0,0))):
 (w.cell? ⟨r,0,I⟩=R v0/\w.cell? ⟨r,1,I⟩=R v1/\w.cell? ⟨r,2,I⟩=R v2/\w.cell? ⟨r,3,I⟩=R v3/\w.cell? ⟨r,4,I⟩=R v4/\w.cell? ⟨r,5,I⟩=R v5/\w.cell? ⟨r,6,I⟩=R v6/\w.cell? ⟨r,7,I⟩=R v7/\w.cell? ⟨r,8,I⟩=R v8)/\∀i,w.frozen? ⟨r,i,I⟩=Z:=
 ⟨by simp[kJ,h],fun i=>by simp[z,h]⟩
theorem yfr (root:Int) (w:Y):
 Calls T 87 #[J B root] w fun e w'=>∃b,e=V (Q (R ⟨b,0,I⟩))/\xc w' b 0 root Pg.Wk.off/\Below w.heap.size w w'/\w.heap.size<=b:=by
 go_enter Tryz.func87,Tryz.ntmps87
 go_wp2_with fail
 go_ret
 refine⟨_,rfl,⟨?_,?_,?_,?_,?_,?_,?_,?_,fun p=> ?_⟩,zA (zR _) _,Nat.le_refl _⟩<;>simp[go_sem,Pg.Wk.off]
section
variable {b o:Nat} {root:Int} {K:Pg.Wk}
theorem yf3 (w:Y) (h:xc w b o root K):
 Calls T 112 #[Q (R ⟨b,o,I⟩)] w fun e w'=>e=V (N K.on)/\w'=w:=by
 have c1:=h.c1;clear h
 go_enter Tryz.func112,Tryz.ntmps112
 go_wp2_with fail
 go_ret
 exact⟨rfl,rfl⟩
theorem ycH (w:Y) (h:xc w b o root K):
 Calls T 62 #[Q (R ⟨b,o,I⟩)] w fun e w'=>e=V (kI #[J B K.q,J B K.k,N K.u])/\Below w.heap.size w w':=by
 have c2:=h.c2;have c3:=h.c3;have c4:=h.c4;have hl:=h.lb;clear h
 go_enter Tryz.func62,Tryz.ntmps62
 go_wp2_with fail
 refine bodyPost_ret (v:=kI #[J B K.q,J B K.k,N K.u]) ?_ rfl ⟨rfl,?_⟩
 ·simp[results,Tryz.results62,go_sem]
 ·exact zA (zR w) _
theorem xc.again {W:Y} (h:xc W b o root K) (ho:K.on=M):
 xc (((W.setCell ⟨b,o+5,I⟩ (J B root)).setCell ⟨b,o+6,I⟩ (J B 3)).setCell ⟨b,o+7,I⟩ (J U 0)) b o root (K.again root)/\Ch8 b o (fun j=>j=b) W (((W.setCell ⟨b,o+5,I⟩ (J B root)).setCell ⟨b,o+6,I⟩ (J B 3)).setCell ⟨b,o+7,I⟩ (J U 0)):=by
 have e:K.again root={K with t:=root,lv:=3,x:=0}:=by simp[Pg.Wk.again,ho]
 obtain⟨c0,c1,c2,c3,c4,c5,c6,c7,fb⟩:=h;rw[e]
 refine⟨⟨?_,?_,?_,?_,?_,?_,?_,?_,fun p=> ?_⟩,(((Ch8.refl b o (fun j=>j=b) W).set rfl 5 (by decide) _).set rfl 6 (by decide) _).set rfl 7 (by decide) _⟩<;>simp[go_sem,c0,c1,c2,c3,c4,c5,c6,c7,fb]
theorem jR (w:Y) (h:xc w b o root K):
 Calls T 180 #[Q (R ⟨b,o,I⟩)] w fun e w'=>e=V (.tuple #[])/\xc w' b o root (K.again root)/\Ch8 b o (fun j=>j=b) w w':=by
 cases ho:K.on
 ·have e:K.again root=K:=by simp[Pg.Wk.again,ho]
  rw[e];have c1:=h.c1;rw[ho]at c1;have HF:Hid (xc w b o root K/\Ch8 b o (fun j=>j=b) w w):=⟨h,Ch8.refl _ _ _ _⟩;clear h ho e
  go_enter Tryz.func180,Tryz.ntmps180
  go_wp2_with fail
  go_end0
  exact⟨rfl,HF.out⟩
 ·have HF:Hid _:=h.again ho
  have c0:=h.c0;have c1:=h.c1;have c5:=h.c5;have c6:=h.c6;have c7:=h.c7;have fb:=h.fb;rw[ho]at c1;clear h ho
  go_enter Tryz.func180,Tryz.ntmps180
  go_wp2_with fail
  go_end0
  exact⟨rfl,HF.out⟩
theorem jS (w:Y) (h:xc w b o root K):
 Calls T 207 #[Q (R ⟨b,o,I⟩)] w fun e w'=>e=V (J B (Pg.index K.q K.lv))/\Below w.heap.size w w':=by
 have c2:=cell_regrown h.c2;have c6:=cell_regrown h.c6;have HI:=fun w=>xt (vD K.q K.lv w);clear h
 go_enter Tryz.func207,Tryz.ntmps207
 go_wp2_with fail
 refine wp_region_quiet_below (by kernel_rfl) (by kernel_rfl) ?_
 repeat (first
  | go_big_quiet_step ((go_at_call 196;exact Calls.regrown_of (HI _))))
 refine wpQuiet_nil ?_;intro _ hw';obtain⟨⟨dq,osq⟩,rfl⟩:=hw'
 go_wp2_with fail
 go_ret
 exact⟨rfl,below_regrown w dq osq⟩
theorem vH (e:Pg.En) (w:Y) (h:xc w b o root K):
 Calls T 205 #[Q (R ⟨b,o,I⟩),e.val] w fun x w'=>x=V (K.mark e).val/\Below w.heap.size w w':=by
 have c3:=h.c3;have hl:=h.lb
 have hne:b≠w.heap.size:=by omega
 clear h;obtain⟨t,l,r,u,d,f⟩:=e;cases d
 ·cases hk:(K.k==1)
  all_goals
   have HV:Hid _:=hk;simp only[Pg.En.val,Pg.Wk.mark,hk,Bool.or_false,Bool.or_true]
   go_enter Tryz.func205,Tryz.ntmps205
   go_wp2_with fail
   refine bodyPost_ret (v:=kI #[N t,N l,J B r,N M,N _,J B f]) ?_ rfl ⟨rfl,?_⟩
   ·simp[results,Tryz.results205,go_sem]
   ·exact zA (zA (zR w) _) _
 ·simp only[Pg.En.val,Pg.Wk.mark,Bool.true_or]
  go_enter Tryz.func205,Tryz.ntmps205
  go_wp2_with fail
  refine bodyPost_ret (v:=kI #[N t,N l,J B r,N M,N M,J B f]) ?_ rfl ⟨rfl,?_⟩
  ·simp[results,Tryz.results205,go_sem]
  ·exact zA (zA (zR w) _) _
theorem xc.ended {W:Y} (h:xc W b o root K):
 xc ((((((((W.setCell ⟨b,o,I⟩ (J B root)).setCell ⟨b,o+1,I⟩ (N Z)).setCell ⟨b,o+2,I⟩ (J B 0)).setCell ⟨b,o+3,I⟩ (J B 0)).setCell ⟨b,o+4,I⟩ (N Z)).setCell ⟨b,o+5,I⟩ (J B 0)).setCell ⟨b,o+6,I⟩ (J B 0)).setCell ⟨b,o+7,I⟩ (J U 0)) b o root Pg.Wk.off/\
 Ch8 b o (fun j=>j=b) W ((((((((W.setCell ⟨b,o,I⟩ (J B root)).setCell ⟨b,o+1,I⟩ (N Z)).setCell ⟨b,o+2,I⟩ (J B 0)).setCell ⟨b,o+3,I⟩ (J B 0)).setCell ⟨b,o+4,I⟩ (N Z)).setCell ⟨b,o+5,I⟩ (J B 0)).setCell ⟨b,o+6,I⟩ (J B 0)).setCell ⟨b,o+7,I⟩ (J U 0)):=by
 obtain⟨c0,c1,c2,c3,c4,c5,c6,c7,fb⟩:=h
 refine⟨⟨?_,?_,?_,?_,?_,?_,?_,?_,fun p=> ?_⟩,((((((((Ch8.refl b o (fun j=>j=b) W).set0 rfl _).set rfl 1 (by decide) _).set rfl 2 (by decide) _).set rfl 3 (by decide) _).set rfl 4 (by decide) _).set rfl 5 (by decide) _).set rfl 6 (by decide) _).set rfl 7 (by decide) _⟩<;>simp[go_sem,c0,c1,c2,c3,c4,c5,c6,c7,fb,Pg.Wk.off]
theorem ygx {F:Nat->Prop} {w W W':Y} (h:xc W b o root K/\Ch8 b o F w W) (hb:Below W.heap.size W W'):xc W' b o root K/\Ch8 b o F w W':=
 ⟨h.1.grow hb,h.2.trans (Ch8.yhf (F:=F) hb h.1.lb) fun _ _ hi=>hi⟩
theorem ye9 {w W:Y} {r:Nat} (hr:¬r=b) (hw:w.heap.size<=r) (h:xc W b o root K/\Ch8 b o (fun j=>j=b) w W) (v0 v1 v2 v3 v4 v5 v6 v7 v8:Value):
 xc (((((((((W.setCell ⟨r,0,I⟩ v0).setCell ⟨r,1,I⟩ v1).setCell ⟨r,2,I⟩ v2).setCell ⟨r,3,I⟩ v3).setCell ⟨r,4,I⟩ v4).setCell ⟨r,5,I⟩ v5).setCell ⟨r,6,I⟩ v6).setCell ⟨r,7,I⟩ v7).setCell ⟨r,8,I⟩ v8) b o root K/\
 Ch8 b o (fun j=>j=b) w (((((((((W.setCell ⟨r,0,I⟩ v0).setCell ⟨r,1,I⟩ v1).setCell ⟨r,2,I⟩ v2).setCell ⟨r,3,I⟩ v3).setCell ⟨r,4,I⟩ v4).setCell ⟨r,5,I⟩ v5).setCell ⟨r,6,I⟩ v6).setCell ⟨r,7,I⟩ v7).setCell ⟨r,8,I⟩ v8):=by
 have hb:=xZ (F:=fun j=>j=r) (But.refl _ W) r (.inr rfl) v0 v1 v2 v3 v4 v5 v6 v7 v8;have hne:¬b=r:=fun e=>hr e.symm;refine⟨h.1.keep hb hne,?_,fun p hp=> ?_⟩
 ·exact xZ h.2.but r (.inl hw) v0 v1 v2 v3 v4 v5 v6 v7 v8
 ·exact(hb.cell (a:=⟨b,p,I⟩) h.1.lb hne).trans (h.2.oth p hp)
theorem ybf (a f r:Int) (m:Pg.Mp) (d:Bool) (w:Y) (h:xc w b o root K):
 Calls T 209 #[Q (R ⟨b,o,I⟩),kI #[J B a,J B f,J B r],kI #[J B m.p,J B m.s,J B m.f,J B m.r,N d]] w fun e w'=>e=V (Pg.Rs.val ⟨M,a,f,r,m,d⟩)/\xc w' b o root Pg.Wk.off/\Ch8 b o (fun j=>j=b) w w':=by
 have c0:=h.c0;have c1:=h.c1;have c2:=h.c2;have c3:=h.c3;have c4:=h.c4;have c5:=h.c5;have c6:=h.c6;have c7:=h.c7;have fb:=h.fb;have hl:=h.lb
 have hl1:b<w.heap.size+1:=by omega
 have hl2:b<w.heap.size+1+1:=by omega
 have n0:b≠w.heap.size:=by omega
 have n1:b≠w.heap.size+1:=by omega
 have n2:b≠w.heap.size+1+1:=by omega
 have m0:w.heap.size≠b:=by omega
 have m1:w.heap.size+1≠b:=by omega
 have m2:w.heap.size+1+1≠b:=by omega
 have HK:Hid _:=h;clear h;obtain⟨mp,ms,mf,mr⟩:=m;have HF:=HK.out.ended
 go_enter Tryz.func209,Tryz.ntmps209
 go_wp2_with fail
 refine bodyPost_ret (v:=kI #[N M,J B a,J B f,J B r,J B mp,J B ms,J B mf,J B mr,N d]) ?_ rfl ⟨rfl,ygx HF (zA (zA (zA (zR _) _) _) _)⟩;simp[results,Tryz.results209,go_sem]
set_option maxHeartbeats 1000000 in
theorem ybR (e:Pg.En) (w:Y) (h:xc w b o root K) (m:Bool):
 Calls T 208 #[Q (R ⟨b,o,I⟩),e.val] w fun x w'=>x=V ((Pg.Wo.done e m).res K).val/\xc w' b o root Pg.Wk.off/\Ch8 b o (fun j=>j=b) w w':=by
 obtain⟨W,hW⟩:∃W,W=(w.alloc (E #[N e.t,N e.l,J B e.r,N e.u,N e.d,J B e.f] 70)).alloc (E #[N Z,J B 0,J B 0,J B 0,J B 0,J B 0,J B 0,J B 0,N Z] 232):=⟨_,rfl⟩
 have hBW:Below w.heap.size w W:=by rw[hW];exact zA (zA (zR w) _) _
 have HBW:Hid _:=hBW;have hl:=h.lb
 have hWs:W.heap.size=w.heap.size+1+1:=by rw[hW];simp
 have HKW:Hid _:=h.grow hBW
 have e6:W.cell? ⟨w.heap.size,0,I⟩=R (N e.t)/\W.cell? ⟨w.heap.size,1,I⟩=R (N e.l)/\W.cell? ⟨w.heap.size,2,I⟩=R (J B e.r)/\W.cell? ⟨w.heap.size,3,I⟩=R (N e.u)/\W.cell? ⟨w.heap.size,4,I⟩=R (N e.d)/\W.cell? ⟨w.heap.size,5,I⟩=R (J B e.f):=by rw[hW];simp[go_sem]
 have E6:Hid _:=e6
 have r9:W.heap[w.heap.size+1]?=R (E #[N Z,J B 0,J B 0,J B 0,J B 0,J B 0,J B 0,J B 0,N Z] 232 (0,0)):=by rw[hW];exact(by simp:(w.alloc (E #[N e.t,N e.l,J B e.r,N e.u,N e.d,J B e.f] 70)).heap.size=w.heap.size+1)▸heap_alloc_new _ _
 have R9:Hid _:=r9;have HM:=fun w=>yba e.t e.l e.r e.u e.d e.f K.lv K.q w;have HV:Hid (Pg.mapV e.t e.l e.r e.u e.d e.f K.lv K.q=(e.map K.lv K.q).val):=rfl;rw[HV.out]at HM;have HR:Hid ((Pg.Wo.done e m).res K=⟨M,Pg.aEnd (e.map K.lv K.q).r K.k K.u,Pg.yhN (e.map K.lv K.q).p (e.map K.lv K.q).f (e.map K.lv K.q).r K.q K.k K.u,Pg.yhA (e.map K.lv K.q).r K.k K.u,e.map K.lv K.q,e.d⟩):=rfl;rw[HR.out];generalize e.map K.lv K.q=mm at*;obtain⟨mp,ms,mf,mr⟩:=mm;have HA:=fun W'=>jL mp ms mf mr K.q K.k K.u W';simp only;generalize Pg.aEnd mr K.k K.u=aa at*;generalize Pg.yhN mp mf mr K.q K.k K.u=af at*;generalize Pg.yhA mr K.k K.u=ar at*;have k2:=fun d os=>cell_regrown HKW.out.c2 d os;have k6:=fun d os=>cell_regrown HKW.out.c6 d os;have y:=fun d os=>xz (below_regrown W d os) e6;clear h hBW e6 r9 HV HR;obtain⟨et,el,er,eu,ed,ef⟩:=e;simp only at hW y HM;simp only[Pg.En.val,Pg.Mp.val]at HM ⊢
 go_enter Tryz.func208,Tryz.ntmps208
 go_wp2_with fail
 rw[<-hW];clear hW;refine Loose.yib 11 5 (E #[J B 0,J B 0,J B 0,J B 0] 39) _ (by kernel_rfl) (by kernel_rfl) rfl rfl rfl (by intro a w;simp[go_sem]) ?_;simp only[List.take_succ_cons,List.take_zero,List.drop_succ_cons,List.drop_zero]
 repeat (
  refine Loose.zS (fun k hk=> ?_)
  go_simp
  first
   | (refine hk _ ?_;clear hk k)
   | (apply Exists.intro
      refine⟨fun _=> ?_,hk _ ?_⟩
      (go_at_call 152;exact Loose.calls (HM _))
      clear hk k))
 refine Loose.yhi ?_;intro bm w1 hb1 hbl hX
 have cb:w1.cell? ⟨bm,0,I⟩=R (J B 0)/\w1.cell? ⟨bm,1,I⟩=R (J B 0)/\w1.cell? ⟨bm,2,I⟩=R (J B 0)/\w1.cell? ⟨bm,3,I⟩=R (J B 0):=by
  simp[kJ,hX]
 obtain⟨cb0,cb1,cb2,cb3⟩:=cb
 have fb:∀i,w1.frozen? ⟨bm,i,I⟩=Z:=fun i=>by simp[z,hX]
 obtain⟨W2,hW2⟩:∃W2,W2=(((w1.setCell ⟨bm,0,I⟩ (J B mp)).setCell ⟨bm,1,I⟩ (J B ms)).setCell ⟨bm,2,I⟩ (J B mf)).setCell ⟨bm,3,I⟩ (J B mr):=⟨_,rfl⟩
 have hB2:Below W.heap.size W W2:=by rw[hW2];exact zq hb1 _ hbl _ _ _ _
 have m4:W2.cell? ⟨bm,0,I⟩=R (J B mp)/\W2.cell? ⟨bm,1,I⟩=R (J B ms)/\W2.cell? ⟨bm,2,I⟩=R (J B mf)/\W2.cell? ⟨bm,3,I⟩=R (J B mr):=by
  rw[hW2];simp[go_sem,cb0,cb1,cb2,cb3]
 obtain⟨m0,m1,m2,m3⟩:=m4;have HK2:Hid _:=HKW.out.grow hB2;have HC2:Hid (Ch8 b o (fun j=>j=b) w W2):=Ch8.yhf (zT HBW.out hB2) hl;have d4:=cell_later hB2 E6.out.2.2.2.2.1;have c2:=HK2.out.c2;have c3:=HK2.out.c3;have c4:=HK2.out.c4;have R2:Hid (W2.heap[w.heap.size+1]?=_):=(hB2.block _ (by omega)).trans R9.out;have hl2:b<W2.heap.size:=HK2.out.lb
 have hr2:w.heap.size+1<W2.heap.size:=by have:=hB2.size;omega
 have hrb:¬w.heap.size+1=b:=by omega
 clear hX hbl hb1 hB2 k2 k6 y HM R9 E6
 go_wp2_with fail
 rw[<-hW2];clear hW2 cb0 cb1 cb2 cb3 fb;have HE:=fun W' (hb:Below W2.heap.size W2 W')=>ybf aa af ar ⟨mp,ms,mf,mr⟩ ed W' (HK2.out.grow hb);simp only[Pg.Rs.val]at HE;have g0:=cell_regrown m0;have g1:=cell_regrown m1;have g2:=cell_regrown m2;have g3:=cell_regrown m3;have g4:=cell_regrown d4;have g5:=cell_regrown c2;have g6:=cell_regrown c3;have g7:=cell_regrown c4;clear m0 m1 m2 m3 d4 c2 c3 c4;refine Loose.yhh 11 (by kernel_rfl) (by kernel_rfl) ?_;simp only[List.take_succ_cons,List.take_zero,List.drop_succ_cons,List.drop_zero]
 repeat (
  refine Loose.zS (fun k hk=> ?_)
  go_simp
  first
   | (refine hk _ ?_;clear hk k)
   | (apply Exists.intro
      refine⟨fun _=> ?_,hk _ ?_⟩
      (go_at_call 143;exact Loose.calls (HA _))
      clear hk k))
 refine Loose.yhi ?_;intro w3 hb3;have HB3:Hid (Below W2.heap.size W2 w3):=hb3;clear hb3 g0 g1 g2 g3 g4 g5 g6 g7 HA
 go_wp2_with fail
 refine(HE _ HB3.out).mono ?_;rintro en w4 ⟨rfl,hk4,hc4⟩;have HK4:Hid _:=hk4;have HC4:Hid (Ch8 b o (fun j=>j=b) W2 w4):=(Ch8.yhf HB3.out hl2).trans hc4 (fun _ _ h=>h);obtain⟨⟨x0,x1,x2,x3,x4,x5,x6,x7,x8⟩,xf⟩:=yb4 ((HC4.out.but.block _ hr2 hrb).trans R2.out);clear hk4 hc4;have hr4:w.heap.size+1<w4.heap.size:=Nat.lt_of_lt_of_le hr2 HC4.out.but.size
 have HF:Hid (∀v0 v1 v2 v3 v4 v5 v6 v7 v8,xc (((((((((w4.setCell ⟨w.heap.size+1,0,I⟩ v0).setCell ⟨w.heap.size+1,1,I⟩ v1).setCell ⟨w.heap.size+1,2,I⟩ v2).setCell ⟨w.heap.size+1,3,I⟩ v3).setCell ⟨w.heap.size+1,4,I⟩ v4).setCell ⟨w.heap.size+1,5,I⟩ v5).setCell ⟨w.heap.size+1,6,I⟩ v6).setCell ⟨w.heap.size+1,7,I⟩ v7).setCell ⟨w.heap.size+1,8,I⟩ v8) b o root Pg.Wk.off/\Ch8 b o (fun j=>j=b) w (((((((((w4.setCell ⟨w.heap.size+1,0,I⟩ v0).setCell ⟨w.heap.size+1,1,I⟩ v1).setCell ⟨w.heap.size+1,2,I⟩ v2).setCell ⟨w.heap.size+1,3,I⟩ v3).setCell ⟨w.heap.size+1,4,I⟩ v4).setCell ⟨w.heap.size+1,5,I⟩ v5).setCell ⟨w.heap.size+1,6,I⟩ v6).setCell ⟨w.heap.size+1,7,I⟩ v7).setCell ⟨w.heap.size+1,8,I⟩ v8)):=by
  intro v0 v1 v2 v3 v4 v5 v6 v7 v8;exact ye9 hrb (by omega) ⟨HK4.out,HC2.out.trans HC4.out fun _ _ h=>h⟩ _ _ _ _ _ _ _ _ _
 go_wp2_with fail
 refine bodyPost_ret (v:=kI #[N M,J B aa,J B af,J B ar,J B mp,J B ms,J B mf,J B mr,N ed]) ?_ rfl ⟨rfl,HF.out _ _ _ _ _ _ _ _ _⟩;simp[results,Tryz.results208,go_sem,x0,x1,x2,x3,x4,x5,x6,x7,x8]
end
end Go.Proofs.YtdphiompijbelaaGreat
namespace Go.Proofs.YtdphiompijbelaaGreat
open Go.RowKit Go.Sort
theorem xj {b g0 g1:Nat} {vb:Value} {S:Pg.Fs} (k:Int) (w:Y) (h:zj w b g0 g1 vb S):
 Calls T 103 #[Q (R ⟨b,0,I⟩),J B k] w fun e w'=>e=V (N (S.has k))/\w'=w:=by
 have hc1:=h.raw.c1;have hn:=h.ok.small
 by_cases h0:0<=k
 ·obtain⟨m,rfl⟩:=H h0
  by_cases h1:m<S.n
  ·have hm:=h.raw.ci m h1
   have HH:Hid (S.has (m:Int)=S.inn m):=by simp[Hid,Pg.Fs.has]
   have i0:(0:Int)<=(m:Int):=by omega
   have i1:(m:Int)<(S.n:Int):=by omega
   go_enter Tryz.func103,Tryz.ntmps103
   go_wp2_with fail
   go_ret
   exact⟨xx HH.out.symm,rfl⟩
  ·have HH:Hid (S.has (m:Int)=Z):=by
    cases hh:S.has (m:Int)
    ·rfl
    ·have:=h.ok.yhz hh
     omega
   have i1:¬(m:Int)<(S.n:Int):=by omega
   go_enter Tryz.func103,Tryz.ntmps103
   go_wp2_with fail
   go_ret
   exact⟨xx HH.out.symm,rfl⟩
 ·have HH:Hid (S.has k=Z):=by simp[Hid,Pg.Fs.has,h0]
  have d0:decide (0<=k)=Z:=by simpa using h0
  go_enter Tryz.func103,Tryz.ntmps103
  go_wp2_with fail
  go_ret
  exact⟨xx HH.out.symm,rfl⟩
theorem ycN {b g0 g1:Nat} {vb:Value} {S:Pg.Fs} (w:Y) (h:zj w b g0 g1 vb S):
 Calls T 22 #[Q (R ⟨b,0,I⟩)] w fun e w'=>e=V (J B S.free)/\Below w.heap.size w w':=by
 have hc1:=h.raw.c1;have hc2:=h.raw.c2;have hc3:=h.raw.c3;have hl:=h.ok.len;have ht:=h.ok.top;have hs:=h.ok.small;have HF:Hid (S.free=S.back.length+S.n-S.next):=rfl
 have hb:S.back.length<=128:=by omega
 have hx:S.next<=128:=by omega
 rcases h.raw.own.2 with ⟨rfl,hlen⟩|⟨g,cap,cur,rfl,hg⟩
 ·rw[hlen]at HF
  clear hl ht hlen hb
  go_enter Tryz.func22,Tryz.ntmps22
  go_wp2_with fail
  go_quiet (fail)
  go_wp2_with fail
  go_ret
  refine⟨?_,below_drewN (zR _) _⟩;rw[HF.out]
  first|rfl|simp
 ·clear hl ht hg
  generalize S.back.length=m at*
  go_enter Tryz.func22,Tryz.ntmps22
  go_wp2_with fail
  go_quiet (fail)
  go_wp2_with fail
  go_ret
  exact⟨zJ (by rw[HF.out]),below_drewN (zR _) _⟩
theorem ybW {b g0 g1:Nat} {vb:Value} {S:Pg.Fs} (w:Y) (h:zj w b g0 g1 vb S) (hb:S.back=[]) (hn:¬S.next<S.n):
 Calls T 51 #[Q (R ⟨b,0,I⟩)] w fun e w'=>e=V (J B (-1))/\Below w.heap.size w w':=by
 have hc1:=h.raw.c1;have hc2:=h.raw.c2;have hc3:=h.raw.c3;have hs:=h.ok.small
 have i1:¬(S.next:Int)<(S.n:Int):=by omega
 have ho:=h.raw.own;rw[hb]at ho;rcases ho.2 with ⟨rfl,hlen⟩|⟨g,cap,cur,rfl,hg⟩
 all_goals
  clear ho h
  go_enter Tryz.func51,Tryz.ntmps51
  go_wp2_with fail
  go_quiet (fail)
  go_wp2_with fail
  go_ret
  exact⟨rfl,below_drewN (zR _) _⟩
def jI:List Value:=[J U 0,J U 0,J U 0,J U 0,J U 0,J U 0,J U 0,J U 0]
theorem jW:jI.length=8:=rfl
theorem yci:∀(j:Nat) (hj:j<jI.length),jI[j]=J U 0
 | 0,_|1,_|2,_|3,_|4,_|5,_|6,_|7,_=>rfl
 | j+8,hj=>absurd hj (by rw[jW];omega)
theorem ybV {b g0 g1:Nat} {vb:Value} {S:Pg.Fs} (w:Y) (h:zj w b g0 g1 vb S) (hb:S.back=[]) (hn:S.next<S.n):
 Calls T 51 #[Q (R ⟨b,0,I⟩)] w fun e w'=>e=V (J B S.next)/\zj w' b g0 g1 vb S.take/\But (zY b g0 g1 vb) w w':=by
 have hc0:=h.raw.c0;have hc1:=h.raw.c1;have hc2:=h.raw.c2;have hc3:=h.raw.c3;have hfb:=h.raw.fb;have hf0:=h.raw.f0;have hf1:=h.raw.f1;have hs:=h.ok.small;have n0:=h.raw.n0;have n1:=h.raw.n1;have n01:=h.raw.n01;have hi:=h.raw.ci S.next hn;have w0:w.cell? ⟨g0,S.next*8,I⟩=_:=h.raw.cw S.next 0 hn (by omega);have w1:=h.raw.cw S.next 1 hn (by omega);have w2:=h.raw.cw S.next 2 hn (by omega);have w3:=h.raw.cw S.next 3 hn (by omega);have w4:=h.raw.cw S.next 4 hn (by omega);have w5:=h.raw.cw S.next 5 hn (by omega);have w6:=h.raw.cw S.next 6 hn (by omega);have w7:=h.raw.cw S.next 7 hn (by omega)
 have i0:(0:Int)<=(S.next:Int):=by omega
 have i1:(S.next:Int)<(S.n:Int):=by omega
 have ho:=h.raw.own;rw[hb]at ho;have HM:Hid _:=h
 have fin:∀nq,Hid (zj (((((w.drewN nq).setCell ⟨b,3,I⟩ (J B (S.next+1))).setCell ⟨g1,S.next,I⟩ (N M)).setCells g0 (S.next*8) jI)) b g0 g1 vb S.take/\But (zY b g0 g1 vb) w (((((w.drewN nq).setCell ⟨b,3,I⟩ (J B (S.next+1))).setCell ⟨g1,S.next,I⟩ (N M)).setCells g0 (S.next*8) jI))):=by
  intro nq
  have hl:∀j,decide (j ∈ S.next::S.used)=if j=S.next then M else S.inn j:=by
   intro j
   by_cases e:j=S.next<;>simp[Pg.Fs.inn,e]
  have e:S.take={{{S with next:=S.next+1}with used:=S.next::S.used}with word:=Pg.Fs.clear S.word S.next}:=by
   simp[Pg.Fs.take,hb,hn]
  have h1:=(h.raw.drewN nq).ykq (S.next+1);have h2:=h1.mark (k:=S.next) hn M (S.next::S.used) hl;have h3:=h2.clear (k:=S.next) hn jI jW yci;refine⟨⟨by rw[e];exact h3,h.ok.take⟩,?_⟩;refine But.setCells g0 (.inr (.inr (.inl rfl))) _ _ _ ?_;exact(((But.yhf (below_drewN (zR w) nq)).setCell (.inr (.inl rfl)) _).setCell (.inr (.inr (.inr (.inl rfl)))) _)
 rcases ho.2 with ⟨rfl,hlen⟩|⟨g,cap,cur,rfl,hg⟩
 all_goals
  clear ho h
  go_enter Tryz.func51,Tryz.ntmps51
  go_wp2_with fail
  go_quiet (fail)
  go_wp2_with fail
  go_ret
  exact⟨rfl,(fin _).out⟩
theorem ybU {b g0 g1:Nat} {vb:Value} {S:Pg.Fs} (w:Y) (h:zj w b g0 g1 vb S) (l:List Nat) (k:Nat) (hb:S.back=l++[k]) (hn:k<S.n):
 Calls T 51 #[Q (R ⟨b,0,I⟩)] w fun e w'=>e=V (J B k)/\∃vb',zj w' b g0 g1 vb' S.take/\But (zY b g0 g1 vb) w w'/\vb'.ownBlock=vb.ownBlock:=by
 have hc0:=h.raw.c0;have hc1:=h.raw.c1;have hc2:=h.raw.c2;have hc3:=h.raw.c3;have hfb:=h.raw.fb;have hf0:=h.raw.f0;have hf1:=h.raw.f1;have hs:=h.ok.small;have n0:=h.raw.n0;have n1:=h.raw.n1;have n01:=h.raw.n01;have hi:=h.raw.ci k hn;have w0:w.cell? ⟨g0,k*8,I⟩=_:=h.raw.cw k 0 hn (by omega);have w1:=h.raw.cw k 1 hn (by omega);have w2:=h.raw.cw k 2 hn (by omega);have w3:=h.raw.cw k 3 hn (by omega);have w4:=h.raw.cw k 4 hn (by omega);have w5:=h.raw.cw k 5 hn (by omega);have w6:=h.raw.cw k 6 hn (by omega);have w7:=h.raw.cw k 7 hn (by omega)
 have i0:(0:Int)<=(k:Int):=by omega
 have i1:(k:Int)<(S.n:Int):=by omega
 have ho:=h.raw.own
 have hlen:S.back.length=l.length+1:=by rw[hb];simp
 rw[hlen]at ho;obtain⟨g,cap,rfl,_,hgl⟩:=ho.form (by omega)
 have hcap:l.length+1<=cap:=by
  rcases ho.2 with ⟨h',_⟩|⟨g',cap',cur,h',_,_,hle,_⟩
  ·cases h'
  ·cases h';exact hle
 have hbd:S.back.length<=128:=by have:=h.ok.len;have:=h.ok.top;omega
 have hl128:l.length<128:=by omega
 have hck:w.cell? ⟨g,l.length,I⟩=R (J B k):=by
  rw[ho.cellAt l.length (by omega),yaR,hb];simp
 have hpop:w.ownsRow 0 3 1 (D (R ⟨g,0,I⟩) l.length cap) l.length (yaR l):=by
  have e:yaR S.back=yaR l++[J B (k:Int)]:=by simp[yaR,hb]
  rw[e]at ho;exact ownsRow_pop (by simp[yaR]) ho
 have fin:Hid (∃vb',zj ((((w.setCell ⟨b,2,I⟩ (D (R ⟨g,0,I⟩) l.length cap)).setCell ⟨g1,k,I⟩ (N M)).setCells g0 (k*8) jI)) b g0 g1 vb' S.take/\But (zY b g0 g1 (D (R ⟨g,0,I⟩) (l.length+1) cap)) w ((((w.setCell ⟨b,2,I⟩ (D (R ⟨g,0,I⟩) l.length cap)).setCell ⟨g1,k,I⟩ (N M)).setCells g0 (k*8) jI))/\vb'.ownBlock=(kP (R ⟨g,0,I⟩) (l.length+1) cap).ownBlock):=by
  have hl:∀j,decide (j ∈ k::S.used)=if j=k then M else S.inn j:=by
   intro j
   by_cases e:j=k<;>simp[Pg.Fs.inn,e]
  have e:S.take={{{S with back:=l}with used:=k::S.used}with word:=Pg.Fs.clear S.word k}:=by
   simp[Pg.Fs.take,hb]
  have h1:=h.raw.ykp hpop h.raw.vb0 h.raw.vb1 h.raw.vbb;have h2:=h1.mark (k:=k) hn M (k::S.used) hl;have h3:=h2.clear (k:=k) hn jI jW yci;refine⟨D (R ⟨g,0,I⟩) l.length cap,⟨by rw[e];exact h3,h.ok.take⟩,?_,rfl⟩;refine But.setCells g0 (.inr (.inr (.inl rfl))) _ _ _ ?_;exact(((But.refl _ w).setCell (.inr (.inl rfl)) _).setCell (.inr (.inr (.inr (.inl rfl)))) _)
 have j1:(l.length:Int)<=(cap:Int):=by omega
 clear ho h hpop hlen hb;generalize l.length=m at*
 go_enter Tryz.func51,Tryz.ntmps51
 go_wp2_with fail
 go_ret
 exact⟨rfl,fin.out⟩
theorem ju {b g0 g1:Nat} {vb:Value} {S:Pg.Fs} (w:Y) (h:zj w b g0 g1 vb S):
 Calls T 51 #[Q (R ⟨b,0,I⟩)] w fun e w'=>e=V (J B S.takeN)/\∃vb',zj w' b g0 g1 vb' S.take/\But (zY b g0 g1 vb) w w'/\vb'.ownBlock=vb.ownBlock:=by
 by_cases hb:S.back=[]
 ·by_cases hn:S.next<S.n
  ·refine(ybV w h hb hn).mono ?_
   rintro e w' ⟨rfl,h1,h2⟩;exact⟨by simp[Pg.Fs.takeN,Pg.Fs.pick,hb,hn],vb,h1,h2,rfl⟩
  ·refine(ybW w h hb hn).mono ?_
   rintro e w' ⟨rfl,h1⟩
   have e1:S.take=S:=by simp[Pg.Fs.take,hb,hn]
   refine⟨by simp[Pg.Fs.takeN,Pg.Fs.pick,hb,hn],vb,?_,But.yhf h1,rfl⟩;rw[e1];exact h.keep (F:=fun _=>False) (But.yhf h1) (fun _ _=>id)
 ·obtain⟨l,k,hl⟩:∃l k,S.back=l++[k]:=⟨_,_,(List.dropLast_concat_getLast hb).symm⟩
  have hk:k<S.n:=by
   have:=h.ok.yks (k:=k) (by rw[hl];simp);have:=h.ok.top;omega
  refine(ybU w h l k hl hk).mono ?_;rintro e w' ⟨rfl,h1⟩;exact⟨by simp[Pg.Fs.takeN,Pg.Fs.pick,hl],h1⟩
theorem yf0:(Tryz.prog.info? 3).map (fun i=>(i.zero,i.size,i.bytes))=R (R (J B 0),1,8):=by kernel_rfl
theorem ycP {b g0 g1:Nat} {vb:Value} {S:Pg.Fs} (m:Nat) (w:Y) (h:zj w b g0 g1 vb S) (hh:S.has (m:Int)=M):
 Calls T 111 #[Q (R ⟨b,0,I⟩),J B (m:Int)] w fun e w'=>e=V (N M)/\∃vb',zj w' b g0 g1 vb' (S.give (m:Int))/\But (zY b g0 g1 vb) w w'/\(vb'.ownBlock=vb.ownBlock\/∃k,vb'.ownBlock=R k/\w.heap.size<=k):=by
 have hc1:=h.raw.c1;have hfb:=h.raw.fb;have hf1:=h.raw.f1;have hs:=h.ok.small;have n1:=h.raw.n1
 have hn:m<S.n:=by have:=h.ok.yhz hh;omega
 have hi:=h.raw.ci m hn
 have i0:(0:Int)<=(m:Int):=by omega
 have i1:(m:Int)<(S.n:Int):=by omega
 have hu:m ∈ S.used:=by simpa using (h.ok.yhz hh).2.2
 have hT:=xj (m:Int) w h;rw[hh]at hT
 have hl:∀j,decide (j ∈ S.used.erase m)=if j=m then Z else S.inn j:=by
  intro j;have hnd:S.used.Nodup:=(List.nodup_append.1 h.ok.nodup).1
  by_cases e:j=m
  ·simp[e,hnd.mem_erase_iff]
  ·simp[e,hnd.mem_erase_iff,Pg.Fs.inn]
 have hM:=h.raw.mark hn Z (S.used.erase m) hl
 have hbd:S.back.length<=128:=by have:=h.ok.len;have:=h.ok.top;omega
 have hown:=hM.own;have hc2:=hM.c2;have hlb:=hM.lb;obtain⟨q0,hq,hz0,hz1,hz2⟩:=info_parts yf0;have HM:Hid _:=hM;have HH:Hid _:=h;have HX:Hid _:=hh;clear hM h hl hu hh
 go_enter Tryz.func111,Tryz.ntmps111
 go_wp2_with (first
  | (go_at_call 103;refine hT.mono ?_;rintro e w' ⟨rfl,hw⟩;subst w')
  | (at_builtin;refine wpList_append_lies _ rfl _ _ 45 rfl 0 3 q0 (J B 0) 1 8 Tryz.underlying45 hq hz0 hz1 hz2 rfl (by decide) _ _ _ rfl (hown.alloc _) ⟨w.heap.size,0,I⟩ 1 1 [J B (m:Int)] rfl rfl ?c1 ?c2 (by decide) ?c3 ?c4 (Nat.zero_le _) (w.heap.size+1) (by simp) ?_))
 case c1=>
  intro j u hj
  match j,hj with
  | 0,hj=>simp at hj;subst hj;simp[Addr.add,go_sem]
 case c2=>intro u hu;simp at hu;subst hu;rfl
 case c3=>unfold maxLen;omega
 case c4=>omega
 intro g cap w3 hown3 hgrow hat hlt;have h1:=HM.out
 have hk:∀k,k=b\/k=g0\/k=g1->w3.heap[k]?=(w.setCell ⟨g1,m,I⟩ (N Z)).heap[k]?:=by
  intro k hk
  have hkl:k<(w.setCell ⟨g1,m,I⟩ (N Z)).heap.size:=by
   rcases hk with rfl|rfl|rfl
   ·exact h1.lb
   ·exact h1.l0
   ·exact h1.l1
  have hkv:R k≠vb.ownBlock:=by
   rcases hk with rfl|rfl|rfl
   ·exact fun e=>h1.vbb e.symm
   ·exact fun e=>h1.vb0 e.symm
   ·exact fun e=>h1.vb1 e.symm
  rw[hgrow.block k (by simp at hkl ⊢;omega) hkv];exact Below.heap_alloc _ _ _ hkl
 have hsz:(w.setCell ⟨g1,m,I⟩ (N Z)).heap.size=w.heap.size:=by simp
 have hne:∀k,k=b\/k=g0\/k=g1->(kP (R ⟨g,0,I⟩) (S.back.length+1) cap).ownBlock≠R k:=by
  intro k hk e
  have e:g=k:=by simpa[Value.ownBlock]using e
  subst e;rcases hat with hat|hat
  ·rcases hk with rfl|rfl|rfl
   ·exact h1.vbb hat
   ·exact h1.vb0 hat
   ·exact h1.vb1 hat
  ·have:=h1.lb;have:=h1.l0;have:=h1.l1
   omega
 have hG:=h1.grow (w':=w3) (l:=S.back++[m]) (by have:=hgrow.size;simp at this ⊢;omega) hk (by simpa[yaR]using hown3) (hne g0 (.inr (.inl rfl))) (hne g1 (.inr (.inr rfl))) (hne b (.inl rfl));have kc:w3.cell? ⟨b,2,I⟩=R vb:=(P (hk b (.inl rfl))).trans h1.c2;have kf:w3.frozen? ⟨b,2,I⟩=Z:=(O (hk b (.inl rfl))).trans (h1.fb 2)
 have fin:Hid (∃vb',zj (w3.setCell ⟨b,2,I⟩ (D (R ⟨g,0,I⟩) (S.back.length+1) cap)) b g0 g1 vb' (S.give (m:Int))/\But (zY b g0 g1 vb) w (w3.setCell ⟨b,2,I⟩ (D (R ⟨g,0,I⟩) (S.back.length+1) cap))/\(vb'.ownBlock=vb.ownBlock\/∃k,vb'.ownBlock=R k/\w.heap.size<=k)):=by
  have e:S.give (m:Int)={{S with used:=S.used.erase m}with back:=S.back++[m]}:=by
   simp[Pg.Fs.give,HX.out]
  refine⟨D (R ⟨g,0,I⟩) (S.back.length+1) cap,⟨by rw[e];exact hG,HH.out.ok.give _⟩,?_,?_⟩
  ·refine(((((But.refl _ w).setCell (.inr (.inr (.inr (.inl rfl)))) _).alloc _).grown hgrow fun k hk=> .inr (.inr (.inr (.inr hk))))).setCell (.inr (.inl rfl)) _
  ·rcases hat with hat|hat
   ·exact .inl hat.symm
   ·exact .inr ⟨g,rfl,by omega⟩
 clear hk hne hG h1 hown3 hgrow hown hc2 hat hlt
 go_wp2_with fail
 go_ret
 exact⟨rfl,fin.out⟩
theorem ycO {b g0 g1:Nat} {vb:Value} {S:Pg.Fs} (k:Int) (w:Y) (h:zj w b g0 g1 vb S):
 Calls T 111 #[Q (R ⟨b,0,I⟩),J B k] w fun e w'=>e=V (N (S.has k))/\∃vb',zj w' b g0 g1 vb' (S.give k)/\But (zY b g0 g1 vb) w w'/\(vb'.ownBlock=vb.ownBlock\/∃j,vb'.ownBlock=R j/\w.heap.size<=j):=by
 cases hh:S.has k
 ·have hT:=xj k w h
  rw[hh]at hT
  have fin:Hid (∃vb',zj w b g0 g1 vb' (S.give k)/\But (zY b g0 g1 vb) w w/\(vb'.ownBlock=vb.ownBlock\/∃j,vb'.ownBlock=R j/\w.heap.size<=j)):=by
   have e:S.give k=S:=by simp[Pg.Fs.give,hh]
   exact⟨vb,by rw[e];exact h,But.refl _ _,.inl rfl⟩
  clear h
  go_enter Tryz.func111,Tryz.ntmps111
  go_wp2_with (go_at_call 103;refine hT.mono ?_;rintro e w' ⟨rfl,hw⟩;subst w')
  go_ret
  exact⟨rfl,fin.out⟩
 ·obtain⟨m,rfl⟩:=H (h.ok.yhz hh).1
  exact ycP m w h hh
theorem yeA:(Tryz.prog.info? 164).map (fun i=>(i.zero,i.size,i.bytes))=R (R (kI #[J U 0,J U 0,J U 0,J U 0,J U 0,J U 0,J U 0,J U 0]),8,64):=by kernel_rfl
theorem yc9:(Tryz.prog.info? 4).map (fun i=>(i.zero,i.size,i.bytes))=R (R (N Z),1,1):=by kernel_rfl
theorem ydN (n:Nat) (hn:n<=128) (w:Y):
 Calls T 50 #[J B (n:Int)] w fun e w'=>∃b g0 g1,e=V (Q (R ⟨b,0,I⟩))/\zj w' b g0 g1 (D I 0 0) (Pg.Fs.new n)/\Below w.heap.size w w'/\w.heap.size<=b/\w.heap.size<=g0/\w.heap.size<=g1:=by
 obtain⟨q0,hq,hz0,hz1,hz2⟩:=info_parts yeA;obtain⟨q1,hq1,hy0,hy1,hy2⟩:=info_parts yc9
 have m0:∀w:Y,(Instr.makeSlice 135 (J B (n:Int)) (J B (n:Int))).run T w=_:=fun w=>
  run_make w 135 164 q0 _ Tryz.underlying135 hq hz0 B B n n (by omega) (kS _) (by rw[hz2];omega) (by omega)
 have m1:∀w:Y,(Instr.makeSlice 50 (J B (n:Int)) (J B (n:Int))).run T w=_:=fun w=>
  run_make w 50 4 q1 _ Tryz.underlying50 hq1 hy0 B B n n (by omega) (kS _) (by rw[hy2];omega) (by omega)
 rw[hz1]at m0;rw[hy1]at m1;simp only[Int.toNat_natCast]at m0 m1
 go_enter Tryz.func50,Tryz.ntmps50
 go_wp2_with fail
 go_region
 all_goals
  go_wp2_with fail
  go_ret
 ·refine⟨w.heap.size+1+1,w.heap.size,w.heap.size+1,rfl,⟨?_,Pg.Fs.ykK n hn⟩,(zA (zA (zA (zR w) _) _) _).drew,by omega,by omega,by omega⟩
  refine zP.made (t0:=164) (t1:=4) (t2:=137) ?_ ?_ ?_ (by omega) (by omega) (by omega)
  ·exact(jj w _ _ _).2.2
  ·exact(jj w _ _ _).1
  ·exact(jj w _ _ _).2.1
 ·refine⟨w.heap.size+1+1,w.heap.size+1,w.heap.size,rfl,⟨?_,Pg.Fs.ykK n hn⟩,(zA (zA (zA (zR w) _) _) _).drew,by omega,by omega,by omega⟩
  refine zP.made (t0:=164) (t1:=4) (t2:=137) ?_ ?_ ?_ (by omega) (by omega) (by omega)
  ·exact(jj w _ _ _).2.2
  ·exact(jj w _ _ _).2.1
  ·exact(jj w _ _ _).1
set_option maxRecDepth 100000
namespace Pg.Fs
end Pg.Fs
namespace Side
variable {w0 w w':Y} {bf bm g0 g1:Nat} {vb vb':Value} {F F':Nat->Prop} {Sf Sm S':Pg.Fs}
end Side
theorem ye4 (S:Pg.Fs) (p:Int):∀(lv:Nat) (t:Int) (a i:Nat),i<(Pg.thr S (Pg.onW p) lv t a).1.length->i<=lv/\(qG (Pg.thr S (Pg.onW p) lv t a).1).getD i 0=(Pg.ix p (lv-i):Nat):=by
 intro lv
 induction lv with
 | zero=>
   intro t a i hi;rw[Pg.yhH]at hi ⊢;split at hi
   ·simp at hi
   ·rename_i h1
    rw[if_neg h1];split at hi
    ·rename_i h2
     rw[if_pos h2];simp at hi;subst hi;exact⟨by omega,by simp[qG,Pg.spt]⟩
    ·rename_i h2
     obtain⟨m,hm⟩:=Pg.yhG (S:=S) (t:=t) (i:=Pg.ix p 0) (lv:=0) (by simpa using h2);omega
 | succ lv ih=>
   intro t a i hi;rw[Pg.yhH]at hi ⊢;split at hi
   ·simp at hi
   ·rename_i h1
    rw[if_neg h1];split at hi
    ·rename_i h2
     rw[if_pos h2];simp at hi;subst hi;exact⟨by omega,by simp[qG,Pg.spt]⟩
    ·rename_i h2
     rw[if_neg h2];simp only at hi ⊢
     cases i with
     | zero=>exact⟨by omega,by simp[qG,Pg.spt]⟩
     | succ i=>
       have h3:=ih (Pg.rEn S t (Pg.ix p (lv+1)) (lv+1)).f ((a+Pg.ix p (lv+1))*8) i (by simpa[Pg.sub]using hi);refine⟨by omega,?_⟩;rw[show lv+1-(i+1)=lv-i by omega]
       simpa[qG,Pg.sub]using h3.2
theorem yaJ (S:Pg.Fs) (t p:Int) {i:Nat} (hi:i<(zg S t p).length):Pg.below p 4096=M/\i<=3/\(qG (zg S t p)).getD i 0=Pg.index p (3-(i:Int)):=by
 unfold zg at hi ⊢;split at hi
 ·rename_i h
  rw[if_pos h];obtain⟨h1,h2⟩:=ye4 S p 3 t 0 i hi;refine⟨h.1,h1,?_⟩;rw[h2,show(3-(i:Int))=((3-i:Nat):Int) by omega,Pg.yhu h.1 (by omega)]
 ·simp at hi
theorem yfm (S:Pg.Fs) (t p:Int):(zg S t p).length<=4680:=by
 unfold zg;split
 ·exact Pg.ylg S (Pg.onW p) 3 t 0
 ·simp
end Go.Proofs.YtdphiompijbelaaGreat
namespace Go.Proofs.YtdphiompijbelaaGreat
open Go.RowKit Go.Sort
theorem zu.but {w w':Y} {ad:Option Addr} {L:List Int} {G:Nat->Prop} (h:zu w ad L) (hb:But G w w') (hn:∀g,ad=R ⟨g,0,I⟩->¬G g):zu w' ad L:=fun j hj=>by
 obtain⟨g,e,hl,hc⟩:=h j hj;exact⟨g,e,Nat.lt_of_lt_of_le hl hb.size,(hb.cell (a:=⟨g,j,I⟩) hl (hn g e)).trans hc⟩
theorem yeL (p:Int) (ts:List Int):∀(k:Nat) (S:Pg.Fs) (G:List Int),(Pg.rmW p ts k S G).2.length<=G.length+k
 | 0,S,G=>by simp[Pg.rmW]
 | k+1,S,G=>by
   rw[Pg.rmW];split
   ·exact Nat.le_add_right _ _
   ·have:=yeL p ts k (S.store (ts.getD k 0) (Pg.index p (3-(k:Int))) 0) (G++[ts.getD k 0])
    simp at this ⊢;omega
theorem yeK (S:Pg.Fs) (t p:Int):(Pg.rmR S t p).2.length<=4680:=by
 unfold Pg.rmR;split
 ·have h1:=yeL p (tabs (zg S t p)) (zg S t p).length S []
  have h2:=yfm S t p;rw[List.length_nil]at h1;omega
 ·simp
set_option linter.unusedSimpArgs false
def Pg.Ev.val (e:Pg.Ev):Value:=kI #[J B e.c,N e.ended,J B e.a,J B e.f,J B e.r,N e.back]
def Pg.Sx.val (x:Pg.Sx):Value:=kI #[J B x.kind,J B x.core,J B x.m.p,J B x.m.s,J B x.m.f,J B x.m.r,J B x.q,J B x.k,N x.u]
theorem zx {w:Y} {r:Nat} {v0 v1 v2 v3 v4 v5:Value} {t:TypeId} (h:w.heap[r]?=R (E #[v0,v1,v2,v3,v4,v5] t (0,0))):
 (w.cell? ⟨r,0,I⟩=R v0/\w.cell? ⟨r,1,I⟩=R v1/\w.cell? ⟨r,2,I⟩=R v2/\w.cell? ⟨r,3,I⟩=R v3/\w.cell? ⟨r,4,I⟩=R v4/\w.cell? ⟨r,5,I⟩=R v5)/\∀i,w.frozen? ⟨r,i,I⟩=Z:=
 ⟨by simp[kJ,h],fun i=>by simp[z,h]⟩
theorem vd {w w1:Y} (h:Below w.heap.size w w1) (r:Nat) (hr:w.heap.size<=r) (x0 x1 x2 x3 x4 x5:Value):Below w.heap.size w ((((((w1.setCell ⟨r,0,I⟩ x0).setCell ⟨r,1,I⟩ x1).setCell ⟨r,2,I⟩ x2).setCell ⟨r,3,I⟩ x3).setCell ⟨r,4,I⟩ x4).setCell ⟨r,5,I⟩ x5):=
 (((((h.setCell (p:=⟨r,0,I⟩) hr x0).setCell (p:=⟨r,1,I⟩) hr x1).setCell (p:=⟨r,2,I⟩) hr x2).setCell (p:=⟨r,3,I⟩) hr x3).setCell (p:=⟨r,4,I⟩) hr x4).setCell (p:=⟨r,5,I⟩) hr x5
theorem qC {F:Nat->Prop} {w w1:Y} (h:But F w w1) (r:Nat) (hr:w.heap.size<=r\/F r) (x0 x1 x2 x3 x4 x5:Value):But F w ((((((w1.setCell ⟨r,0,I⟩ x0).setCell ⟨r,1,I⟩ x1).setCell ⟨r,2,I⟩ x2).setCell ⟨r,3,I⟩ x3).setCell ⟨r,4,I⟩ x4).setCell ⟨r,5,I⟩ x5):=
 (((((h.setCell (a:=⟨r,0,I⟩) hr x0).setCell (a:=⟨r,1,I⟩) hr x1).setCell (a:=⟨r,2,I⟩) hr x2).setCell (a:=⟨r,3,I⟩) hr x3).setCell (a:=⟨r,4,I⟩) hr x4).setCell (a:=⟨r,5,I⟩) hr x5
theorem Pg.ykh (S:Pg.Fs) (p:Int):Pg.fits (Pg.tFM S 0 p).p:=by
 unfold Pg.tFM;split
 ·exact Pg.ykI _ _ _
 ·unfold Pg.fits Pg.Mp.zz;simp
theorem Pg.ylc (S:Pg.Fs) (p r:Int):Pg.fits (Pg.prM S 0 p r).p:=by
 unfold Pg.prM;split
 ·exact Pg.ykh S p
 ·unfold Pg.fits Pg.Mp.zz;simp
def chW (w:Y) (x:Pg.Sx):Y:=(w.alloc (E #[J B x.kind,J B x.core,J B x.m.p,J B x.m.s,J B x.m.f,J B x.m.r,J B x.q,J B x.k,N x.u] 43)).alloc (E #[J B 0,N Z,J B 0,J B 0,J B 0,N Z] 36)
structure ChW (w W:Y) (x:Pg.Sx):Prop where
 bel:Below w.heap.size w W
 size:W.heap.size=w.heap.size+2
 x0:W.cell? ⟨w.heap.size,0,I⟩=R (J B x.kind)
 x1:W.cell? ⟨w.heap.size,1,I⟩=R (J B x.core)
 x2:W.cell? ⟨w.heap.size,2,I⟩=R (J B x.m.p)
 x3:W.cell? ⟨w.heap.size,3,I⟩=R (J B x.m.s)
 x4:W.cell? ⟨w.heap.size,4,I⟩=R (J B x.m.f)
 x5:W.cell? ⟨w.heap.size,5,I⟩=R (J B x.m.r)
 x6:W.cell? ⟨w.heap.size,6,I⟩=R (J B x.q)
 x7:W.cell? ⟨w.heap.size,7,I⟩=R (J B x.k)
 x8:W.cell? ⟨w.heap.size,8,I⟩=R (N x.u)
 ev:W.heap[w.heap.size+1]?=R (E #[J B 0,N Z,J B 0,J B 0,J B 0,N Z] 36 (0,0))
theorem xG (w:Y) (x:Pg.Sx):ChW w (chW w x) x:=by
 refine⟨zA (zA (zR w) _) _,by simp[chW],?_,?_,?_,?_,?_,?_,?_,?_,?_,?_⟩
 iterate 9 (unfold chW;simp[go_sem])
 unfold chW;exact(by simp:(w.alloc (E #[J B x.kind,J B x.core,J B x.m.p,J B x.m.s,J B x.m.f,J B x.m.r,J B x.q,J B x.k,N x.u] 43)).heap.size=w.heap.size+1)▸heap_alloc_new _ _
def yav (x:Pg.Sx):Prop:=Pg.fits x.m.p/\Pg.fits x.m.s/\Pg.fits x.m.f/\Pg.fits x.m.r/\Pg.fits x.q/\Pg.fits x.k
def Pg.Spc.walkOf (X:Pg.Spc) (k:Int):Pg.Wk:=if 0<=k then(X.C.getD k.toNat Pg.Cr.new).K else Pg.Wk.off
def Pg.Spc.linesOf (X:Pg.Spc) (k:Int):List Pg.Ln:=if 0<=k then(X.C.getD k.toNat Pg.Cr.new).L else []
end Go.Proofs.YtdphiompijbelaaGreat
namespace Go.Proofs.YtdphiompijbelaaGreat
open Go.RowKit Go.Sort
end Go.Proofs.YtdphiompijbelaaGreat
