import Derived.Test.YtdphiompijbelaaGreatWalkF
import Derived.Test.YtdphiompijbelaaGreatCoRefB
import Derived.Deep.DeepCutAuto
set_option linter.all false
set_option maxRecDepth 100000
open List renaming take_succ_cons->kO,drop_succ_cons->ki,take_zero->kh,drop_zero->un
open Int renaming toNat_natCast->z,eq_ofNat_of_zero_le->ks
open Go.Proofs.Tryz renaming prog->A
open Go.Ending renaming returned->D
open Go renaming World->M
open Go.RowKit.Below renaming heap_setCell->U
open Go.Obj renaming cells->Z
open Go.World renaming cell?_of_block->V,block_lt_of_cell?->X,frozen?->uv,cell?->ud
open Array renaming getElem?_eq_some_iff->T
open Nat renaming lt_of_lt_of_le->Y,le_refl->y,le_succ->kp
open Bool renaming true->P,false->Q,and_eq_true->ur
open Option renaming none->B,some->R
open Go.IntKind renaming i64->J
open Go.Value renaming int->I,bool->N,pointer->O,tuple->E,agg->H
set_option maxHeartbeats 8000000
namespace Go.Proofs.YtdphiompijbelaaGreat
open Go.RowKit Go.Sort
attribute [local go_sem] Loose.gent
section
variable {b:Nat} {root:Int}
theorem qP.of_block {w w':M} {K:Pg.Wk} (h:qP w b K) (hk:w'.heap[b]?=w.heap[b]?):qP w' b K:=by
 obtain⟨t,lv,x,h⟩:=h;exact⟨t,lv,x,h.of_block hk⟩
theorem qP.lb {w:M} {K:Pg.Wk} (h:qP w b K):b<w.heap.size:=by
 obtain⟨t,lv,x,h⟩:=h;exact h.lb
theorem yc3 {w:M} {r:Nat} {v0 v1 v2:Value} {t:TypeId} (h:w.heap[r]?=R (Z #[v0,v1,v2] t (0,0))):
 (w.cell? ⟨r,0,B⟩=R v0/\w.cell? ⟨r,1,B⟩=R v1/\w.cell? ⟨r,2,B⟩=R v2)/\∀i,w.frozen? ⟨r,i,B⟩=Q:=
 ⟨by simp[ud,h],fun i=>by simp[uv,h]⟩
theorem ybf {F:Nat->Prop} {w w1:M} (h:But F w w1) (r:Nat) (hr:w.heap.size<=r\/F r) (x0 x1 x2:Value):But F w (((w1.setCell ⟨r,0,B⟩ x0).setCell ⟨r,1,B⟩ x1).setCell ⟨r,2,B⟩ x2):=
 ((h.setCell (a:=⟨r,0,B⟩) hr x0).setCell (a:=⟨r,1,B⟩) hr x1).setCell (a:=⟨r,2,B⟩) hr x2
theorem yfj {K:Pg.Wk} {G:Nat->Prop} {w W:M} {r:Nat} (hr:¬r=b) (hw:w.heap.size<=r) (h:qP W b K/\Ch8 b 1 G w W) (v0 v1 v2:Value):
 qP (((W.setCell ⟨r,0,B⟩ v0).setCell ⟨r,1,B⟩ v1).setCell ⟨r,2,B⟩ v2) b K/\Ch8 b 1 G w (((W.setCell ⟨r,0,B⟩ v0).setCell ⟨r,1,B⟩ v1).setCell ⟨r,2,B⟩ v2):=by
 have hb:=ybf (F:=fun j=>j=r) (But.refl _ W) r (.inr rfl) v0 v1 v2;have Ho:¬b=r:=fun e=>hr e.symm;have hl:=h.1.lb;refine⟨h.1.of_block (hb.block b hl Ho),ybf h.2.but r (.inl hw) v0 v1 v2,fun p hp=> ?_⟩;exact(hb.cell (a:=⟨b,p,B⟩) hl Ho).trans (h.2.oth p hp)
theorem ygI {K:Pg.Wk} {G:Nat->Prop} {w W W':M} (h:qP W b K/\Ch8 b 1 G w W) (hb:Below W.heap.size W W'):qP W' b K/\Ch8 b 1 G w W':=
 ⟨h.1.of_block (hb.block b h.1.lb),h.2.trans (Ch8.yhp (F:=G) hb h.1.lb) fun _ _ hi=>hi⟩
structure yf4 (w:M) (b:Nat) (q k:Int) (u:Bool) (t lv x:Int) (m:Bool):Prop where
 c1:w.cell? ⟨b,1,B⟩=R (N P)
 c2:w.cell? ⟨b,2,B⟩=R (I J q)
 c3:w.cell? ⟨b,3,B⟩=R (I J k)
 c4:w.cell? ⟨b,4,B⟩=R (N u)
 c5:w.cell? ⟨b,5,B⟩=R (I J t)
 c6:w.cell? ⟨b,6,B⟩=R (I J lv)
 c7:w.cell? ⟨b,7,B⟩=R (N m)
 c8:w.cell? ⟨b,8,B⟩=R (I .u64 x)
 fb:∀p,w.frozen? ⟨b,p,B⟩=Q
theorem yf4.drew {W:M} {q k:Int} {u:Bool} {t lv x:Int} {m:Bool} (h:yf4 W b q k u t lv x m):yf4 W.drew b q k u t lv x m:=⟨h.c1,h.c2,h.c3,h.c4,h.c5,h.c6,h.c7,h.c8,h.fb⟩
theorem yf4.again {W:M} {q k:Int} {u:Bool} {t lv x:Int} {m:Bool} (h:yf4 W b q k u t lv x m):
 qP (((W.setCell ⟨b,5,B⟩ (I J root)).setCell ⟨b,6,B⟩ (I J 3)).setCell ⟨b,7,B⟩ (N Q)) b (Pg.Wk.start root q k u)/\Ch8 b 1 (fun j=>j=b) W (((W.setCell ⟨b,5,B⟩ (I J root)).setCell ⟨b,6,B⟩ (I J 3)).setCell ⟨b,7,B⟩ (N Q)):=by
 obtain⟨c1,c2,c3,c4,c5,c6,c7,c8,fb⟩:=h
 refine⟨⟨root,3,x,?_,?_,?_,?_,?_,?_,?_,?_,fun p=> ?_,fun _=>⟨rfl,rfl⟩,fun h=>absurd rfl h⟩,(((Ch8.refl b 1 (fun j=>j=b) W).set rfl 4 (by decide) _).set rfl 5 (by decide) _).set rfl 6 (by decide) _⟩<;>simp[go_sem,c1,c2,c3,c4,c5,c6,c7,c8,fb,Pg.Wk.start]
theorem vD {q k:Int} {u:Bool} {t lv x:Int} {m:Bool} (w:M) (h:yf4 w b q k u t lv x m):
 Calls A 102 #[O (R ⟨b,0,B⟩),I J root] w fun e w'=>e=D (E #[])/\qP w' b (Pg.Wk.start root q k u)/\Ch8 b 1 (fun j=>j=b) w w':=by
 have HF:Hid _:=h.again (root:=root);have c1:=h.c1;have c5:=h.c5;have c6:=h.c6;have c7:=h.c7;have fb:=h.fb;clear h
 go_enter Tryz.func102,Tryz.ntmps102
 go_wp2_with fail
 go_end0
 exact⟨rfl,HF.out⟩
theorem yaL {K:Pg.Wk} (w:M) (h:qP w b K):
 Calls A 102 #[O (R ⟨b,0,B⟩),I J root] w fun e w'=>e=D (E #[])/\qP w' b (K.again root)/\Ch8 b 1 (fun j=>j=b) w w':=by
 obtain⟨t,lv,x,h⟩:=h;cases ho:K.on
 ·have e:K.again root=K:=by simp[Pg.Wk.again,ho]
  rw[e];have c1:=h.c1;rw[ho]at c1;have HF:Hid (qP w b K/\Ch8 b 1 (fun j=>j=b) w w):=⟨⟨_,_,_,h⟩,Ch8.refl _ _ _ _⟩;clear h ho e
  go_enter Tryz.func102,Tryz.ntmps102
  go_wp2_with fail
  go_end0
  exact⟨rfl,HF.out⟩
 ·have e:K.again root=Pg.Wk.start root K.q K.k K.u:=by simp[Pg.Wk.again,ho,Pg.Wk.start]
  rw[e];exact vD w ⟨by rw[h.c1,ho],h.c2,h.c3,h.c4,h.c5,h.c6,h.c7,h.c8,h.fb⟩
theorem vv.ended {W:M} {K:Pg.Wk} {t lv x:Int} (h:vv W b K t lv x):
 qP (((((W.setCell ⟨b,1,B⟩ (N Q)).setCell ⟨b,2,B⟩ (I J 0)).setCell ⟨b,3,B⟩ (I J 0)).setCell ⟨b,4,B⟩ (N Q)).setCell ⟨b,7,B⟩ (N Q)) b Pg.Wk.off/\Ch8 b 1 (fun j=>j=b) W (((((W.setCell ⟨b,1,B⟩ (N Q)).setCell ⟨b,2,B⟩ (I J 0)).setCell ⟨b,3,B⟩ (I J 0)).setCell ⟨b,4,B⟩ (N Q)).setCell ⟨b,7,B⟩ (N Q)):=by
 obtain⟨c1,c2,c3,c4,c5,c6,c7,c8,fb,_,_⟩:=h
 refine⟨⟨t,lv,x,?_,?_,?_,?_,?_,?_,?_,?_,fun p=> ?_,fun h=>(by cases h),fun h=>absurd rfl h⟩,(((((Ch8.refl b 1 (fun j=>j=b) W).set0 rfl _).set rfl 1 (by decide) _).set rfl 2 (by decide) _).set rfl 3 (by decide) _).set rfl 6 (by decide) _⟩<;>simp[go_sem,c1,c2,c3,c4,c5,c6,c7,c8,fb,Pg.Wk.off]
theorem ybg {K:Pg.Wk} (a f r:Int) (w:M) (h:qP w b K):
 Calls A 106 #[O (R ⟨b,0,B⟩),H #[I J a,I J f,I J r]] w fun e w'=>e=D (E #[H #[I J a,I J f,I J r],N P,I J 0])/\qP w' b Pg.Wk.off/\Ch8 b 1 (fun j=>j=b) w w':=by
 obtain⟨t,lv,x,h⟩:=h;have HF:=h.ended;have c1:=h.c1;have c2:=h.c2;have c3:=h.c3;have c4:=h.c4;have c7:=h.c7;have fb:=h.fb;have hl:=h.lb
 have dE:b<w.heap.size+1:=by omega
 have n0:b≠w.heap.size:=by omega
 have n1:b≠w.heap.size+1:=by omega
 have m0:w.heap.size≠b:=by omega
 have m1:w.heap.size+1≠b:=by omega
 have Ta:Hid _:=HF;clear h HF
 go_enter Tryz.func106,Tryz.ntmps106
 go_wp2_with fail
 refine bodyPost_ret (v:=E #[H #[I J a,I J f,I J r],N P,I J 0]) ?_ rfl ⟨rfl,ygI Ta.out (zA (zA (zR _) _) _)⟩;simp[results,Tryz.results106,go_sem]
theorem vv.begun {W:M} {t lv x:Int} (h:vv W b Pg.Wk.off t lv x) (q k:Int) (u:Bool):
 yf4 ((((W.setCell ⟨b,1,B⟩ (N P)).setCell ⟨b,2,B⟩ (I J q)).setCell ⟨b,3,B⟩ (I J k)).setCell ⟨b,4,B⟩ (N u)) b q k u t lv x Q/\Ch8 b 1 (fun j=>j=b) W ((((W.setCell ⟨b,1,B⟩ (N P)).setCell ⟨b,2,B⟩ (I J q)).setCell ⟨b,3,B⟩ (I J k)).setCell ⟨b,4,B⟩ (N u)):=by
 obtain⟨c1,c2,c3,c4,c5,c6,c7,c8,fb,_,_⟩:=h
 refine⟨⟨?_,?_,?_,?_,?_,?_,?_,?_,fun p=> ?_⟩,((((Ch8.refl b 1 (fun j=>j=b) W).set0 rfl _).set rfl 1 (by decide) _).set rfl 2 (by decide) _).set rfl 3 (by decide) _⟩<;>simp[go_sem,c1,c2,c3,c4,c5,c6,c7,c8,fb,Pg.Wk.off]
theorem yf7 (S:Pg.Fs) (t q:Int) (lv:Nat):S.at' t (Pg.ix q lv:Nat)=S.has t:=by
 have:=Pg.yid q lv;unfold Pg.Fs.at';cases S.has t
 ·rfl
 ·simp;omega
theorem yed {w w':M} {e:Nat} {v0 v1 v2 v3 v4 v5:Value} (hk:w'.heap[e]?=w.heap[e]?) (h:w.cell? ⟨e,0,B⟩=R v0/\w.cell? ⟨e,1,B⟩=R v1/\w.cell? ⟨e,2,B⟩=R v2/\w.cell? ⟨e,3,B⟩=R v3/\w.cell? ⟨e,4,B⟩=R v4/\w.cell? ⟨e,5,B⟩=R v5):
 w'.cell? ⟨e,0,B⟩=R v0/\w'.cell? ⟨e,1,B⟩=R v1/\w'.cell? ⟨e,2,B⟩=R v2/\w'.cell? ⟨e,3,B⟩=R v3/\w'.cell? ⟨e,4,B⟩=R v4/\w'.cell? ⟨e,5,B⟩=R v5:=
 ⟨(V hk).trans h.1,(V hk).trans h.2.1,(V hk).trans h.2.2.1,(V hk).trans h.2.2.2.1,(V hk).trans h.2.2.2.2.1,(V hk).trans h.2.2.2.2.2⟩
theorem qt.lb {w:M} {g o:Nat} {l:Pg.Ln} (h:qt w g o l):g<w.heap.size:=X _ _ h.1
theorem vv.low {W:M} {q k:Int} {u:Bool} {t:Int} {lv:Nat} {xw:Int} (h:vv W b ⟨P,q,k,u,t,lv,0⟩ t (lv:Int) xw) (t':Int) (m:Nat):
 qP ((W.setCell ⟨b,5,B⟩ (I J t')).setCell ⟨b,6,B⟩ (I J (m:Int))) b ⟨P,q,k,u,t',m,0⟩/\Ch8 b 1 (fun j=>j=b) W ((W.setCell ⟨b,5,B⟩ (I J t')).setCell ⟨b,6,B⟩ (I J (m:Int))):=by
 obtain⟨c1,c2,c3,c4,c5,c6,c7,c8,fb,_,_⟩:=h
 refine⟨⟨t',(m:Int),xw,?_,?_,?_,?_,?_,?_,?_,?_,fun p=> ?_,fun _=>⟨rfl,rfl⟩,fun h=>absurd rfl h⟩,((Ch8.refl b 1 (fun j=>j=b) W).set rfl 4 (by decide) _).set rfl 5 (by decide) _⟩<;>simp[go_sem,c1,c2,c3,c4,c5,c6,c7,c8,fb]
theorem vv.wait {W:M} {q k:Int} {u:Bool} {t:Int} {lv:Nat} {xw:Int} (h:vv W b ⟨P,q,k,u,t,lv,0⟩ t (lv:Int) xw) (x':Int) (hx:x'≠0):
 qP ((W.setCell ⟨b,7,B⟩ (N P)).setCell ⟨b,8,B⟩ (I .u64 x')) b ⟨P,q,k,u,t,lv,x'⟩/\Ch8 b 1 (fun j=>j=b) W ((W.setCell ⟨b,7,B⟩ (N P)).setCell ⟨b,8,B⟩ (I .u64 x')):=by
 obtain⟨c1,c2,c3,c4,c5,c6,c7,c8,fb,_,_⟩:=h
 refine⟨⟨t,(lv:Int),x',?_,?_,?_,?_,?_,?_,?_,?_,fun p=> ?_,fun _=>⟨rfl,rfl⟩,fun _=>rfl⟩,((Ch8.refl b 1 (fun j=>j=b) W).set rfl 6 (by decide) _).set rfl 7 (by decide) _⟩<;>simp[go_sem,c1,c2,c3,c4,c5,c6,c7,c8,fb,hx]
theorem yaN {bm g0 g1 bl:Nat} {vb:Value} {S:Pg.Fs} {q k:Int} {u:Bool} {t:Int} {lv:Nat} {xw:Int} {x:Int} (hq:Pg.below q 4096=P) (rP:lv<4) (w:M) (h:vv w b ⟨P,q,k,u,t,lv,x⟩ t (lv:Int) xw) (hm:zj w bm g0 g1 vb S) (hh:S.has t=Q):
 Calls A 57 #[O (R ⟨b,0,B⟩),O (R ⟨bm,0,B⟩),I J root,O (R ⟨bl,0,B⟩)] w fun e w'=>e=D (E #[H #[I J (Pg.Wo.res ⟨P,q,k,u,t,lv,x⟩ (.code 12)).a,I J (Pg.Wo.res ⟨P,q,k,u,t,lv,x⟩ (.code 12)).f,I J (Pg.Wo.res ⟨P,q,k,u,t,lv,x⟩ (.code 12)).r],N (Pg.Wo.res ⟨P,q,k,u,t,lv,x⟩ (.code 12)).ended,I J (Pg.Wo.cd (.code 12))])/\qP w' b (Pg.Wo.next ⟨P,q,k,u,t,lv,x⟩ (.code 12))/\Ch8 b 1 (fun j=>j=b) w w':=by
 obtain⟨W,hW⟩:∃W,W=w.alloc (Z #[I J 0,I J 0,I J 0] 34):=⟨_,rfl⟩
 have rH:Below w.heap.size w W:=by rw[hW];exact zA (zR w) _
 have hl:=h.lb;have dz:Hid _:=h;have iT:Hid _:=hm;have tT:Hid _:=rH;have sI:=h.grow rH;have nu:=hm.keep (F:=fun _=>False) (But.yhp rH) (fun _ _=>id)
 have R0:Hid (W.heap[w.heap.size]?=R (Z #[I J 0,I J 0,I J 0] 34 (0,0))):=by rw[hW];exact heap_alloc_new _ _
 have tQ:¬w.heap.size=b:=by omega
 have Ho:b≠w.heap.size:=by omega
 have lU:w.heap.size<W.heap.size:=(T.1 R0.out).1;have HT:=xv t W nu;rw[hh]at HT;have k1:=h.c1;have k5:=h.c5;simp only at k1 k5;simp only[Pg.Wo.res,Pg.Wo.cd,Pg.Wo.next,Pg.Rs.zero];clear h hm rH sI nu
 go_enter Tryz.func57,Tryz.ntmps57
 go_wp2_with fail
 rw[<-hW];refine HT.mono ?_;rintro e w1 ⟨rfl,hw⟩;subst w1;clear hW;obtain⟨⟨x0,x1,x2⟩,xf⟩:=yc3 R0.out;have HF:Hid _:=yfj tQ (y _) ⟨⟨_,_,_,dz.out.grow tT.out⟩,Ch8.yhp (F:=fun j=>j=b) tT.out hl⟩ (I J 0) (I J 0) (I J 0)
 go_wp2_with fail
 refine bodyPost_ret (v:=E #[H #[I J 0,I J 0,I J 0],N Q,I J 12]) ?_ rfl ⟨rfl,HF.out⟩;simp[results,Tryz.results57,go_sem,x0,x1,x2]
theorem ycy {bm g0 g1 bl:Nat} {vb:Value} {S:Pg.Fs} {q k:Int} {u:Bool} {t:Int} {lv:Nat} {xw:Int} {x:Int} (hq:Pg.below q 4096=P) (rP:lv<4) (w:M) (h:vv w b ⟨P,q,k,u,t,lv,x⟩ t (lv:Int) xw) (hm:zj w bm g0 g1 vb S) (hh:S.has t=P) (hx:x≠0) (iM:S.word t.toNat (Pg.ix q lv)≠x):
 Calls A 57 #[O (R ⟨b,0,B⟩),O (R ⟨bm,0,B⟩),I J root,O (R ⟨bl,0,B⟩)] w fun e w'=>e=D (E #[H #[I J (Pg.Wo.res ⟨P,q,k,u,t,lv,x⟩ (.go (Pg.Wk.again root ⟨P,q,k,u,t,lv,x⟩))).a,I J (Pg.Wo.res ⟨P,q,k,u,t,lv,x⟩ (.go (Pg.Wk.again root ⟨P,q,k,u,t,lv,x⟩))).f,I J (Pg.Wo.res ⟨P,q,k,u,t,lv,x⟩ (.go (Pg.Wk.again root ⟨P,q,k,u,t,lv,x⟩))).r],N (Pg.Wo.res ⟨P,q,k,u,t,lv,x⟩ (.go (Pg.Wk.again root ⟨P,q,k,u,t,lv,x⟩))).ended,I J (Pg.Wo.cd (.go (Pg.Wk.again root ⟨P,q,k,u,t,lv,x⟩)))])/\qP w' b (Pg.Wo.next ⟨P,q,k,u,t,lv,x⟩ (.go (Pg.Wk.again root ⟨P,q,k,u,t,lv,x⟩)))/\Ch8 b 1 (fun j=>j=b) w w':=by
 obtain⟨W,hW⟩:∃W,W=w.alloc (Z #[I J 0,I J 0,I J 0] 34):=⟨_,rfl⟩
 have rH:Below w.heap.size w W:=by rw[hW];exact zA (zR w) _
 have hl:=h.lb;have dz:Hid _:=h;have iT:Hid _:=hm;have tT:Hid _:=rH;have sI:=h.grow rH;have nu:=hm.keep (F:=fun _=>False) (But.yhp rH) (fun _ _=>id)
 have R0:Hid (W.heap[w.heap.size]?=R (Z #[I J 0,I J 0,I J 0] 34 (0,0))):=by rw[hW];exact heap_alloc_new _ _
 have tQ:¬w.heap.size=b:=by omega
 have Ho:b≠w.heap.size:=by omega
 have lU:w.heap.size<W.heap.size:=(T.1 R0.out).1;have HT:=xv t W nu;rw[hh]at HT;have k1:=h.c1;have k5:=h.c5;simp only at k1 k5;obtain⟨tn,rfl⟩:=ks (hm.ok.yhK hh).1
 have mX:tn<S.n:=by have:=(hm.ok.yhK hh).2.1;omega
 have lS:=Pg.yid q lv;have fA:=zP q (lv:Int);rw[Pg.yhE hq rP]at fA;have M0:=cell_regrown nu.raw.c0;have MW:=cell_regrown (nu.raw.cw tn (Pg.ix q lv) mX lS);have K2:=cell_regrown sI.c2;have K5:=cell_regrown sI.c5;have K6:=cell_regrown sI.c6;simp only at K2 K5 K6;simp only[z]at iM;generalize S.word tn (Pg.ix q lv)=wd at*;generalize bn:Pg.ix q lv=nZ at*;have uy:Hid _:=bn
 have i0:(0:Int)<=(tn:Int):=by omega
 have i1:(tn:Int)<(S.n:Int):=by omega
 have i2:(0:Int)<=(nZ:Int):=by omega
 have i3:(nZ:Int)<8:=by omega
 clear h hm rH sI nu bn;simp only[Pg.Wo.res,Pg.Wo.cd,Pg.Wo.next,Pg.Rs.zero,Pg.Wo.ended]
 go_enter Tryz.func57,Tryz.ntmps57
 go_wp2_with fail
 rw[<-hW];refine HT.mono ?_;rintro e w1 ⟨rfl,hw⟩;subst w1;clear hW;clear HT k1 k5
 go_wp2_with fail
 refine wp_region_quiet_below (by kernel_rfl) (by kernel_rfl) ?_
 repeat (first
  | go_big_quiet_step ((go_at_call 104;exact Calls.regrown_of (fA _))))
 refine wpQuiet_nil ?_;intro _ pG;obtain⟨⟨dq,osq⟩,rfl⟩:=pG;have Hd:=below_regrown W dq osq;have Ht:Hid (Below w.heap.size w (grow (redrawn W dq) osq)):=zT tT.out Hd;have R2:Hid ((grow (redrawn W dq) osq).heap[w.heap.size]?=_):=(Hd.block _ lU).trans R0.out;clear Hd fA M0 MW K2 K5 K6 R0 tT lU;generalize grow (redrawn W dq) osq=w2 at*;have tC:=dz.out.grow Ht.out;have y7:=tC.c7;have y8:=tC.c8;have y6:=tC.c6
 have KA:decide (x≠0)=P:=by simpa using hx
 simp only[KA]at y6 y7 y8;have Ee:=dz.out.wd hx;simp only at Ee;subst Ee
 have hwn:(wd !=xw)=P:=by simpa using iM
 clear iM KA hx;have tF:w.heap.size<w2.heap.size:=(T.1 R2.out).1;have sJ:b<w2.heap.size:=tC.lb;clear tC;have HA:=yaL (root:=root) w2 ⟨_,_,_,dz.out.grow Ht.out⟩
 go_wp2_with fail
 refine HA.mono ?_;rintro e w3 ⟨rfl,bP,fT⟩;have aG:Hid (Ch8 b 1 (fun j=>j=b) w w3):=(Ch8.yhp Ht.out hl).trans fT (fun _ _ h=>h);have R3:Hid (w3.heap[w.heap.size]?=_):=(fT.but.block _ tF tQ).trans R2.out;obtain⟨⟨x0,x1,x2⟩,xf⟩:=yc3 R3.out;have HF:Hid _:=yfj tQ (y _) ⟨bP,aG.out⟩ (I J 0) (I J 0) (I J 0);clear bP fT HA
 go_wp2_with fail
 refine bodyPost_ret (v:=E #[H #[I J 0,I J 0,I J 0],N Q,I J 0]) ?_ rfl ⟨rfl,HF.out⟩;simp[results,Tryz.results57,go_sem,x0,x1,x2]
end
section
variable {b:Nat} {root:Int}
structure yal (w:M) (b bm g0 g1 bl:Nat) (vb:Value) (S:Pg.Fs) (K:Pg.Wk) (out:Pg.Wo) (e:Ending) (w':M):Prop where
 end':e=D (E #[H #[I J (out.res K).a,I J (out.res K).f,I J (out.res K).r],N (out.res K).ended,I J out.cd])
 at':qP w' b (out.next K)
 mem:zj w' bm g0 g1 vb (out.fs S K)
 ln:qt w' bl 0 ⟨(out.res K).m,(out.res K).d⟩
 chg:Ch8 b 1 (fun j=>j=b\/j=bl\/xc bm g0 g1 vb j) w w'
theorem yal.plain {w w':M} {bm g0 g1 bl:Nat} {vb:Value} {S:Pg.Fs} {K:Pg.Wk} {out:Pg.Wo} {e:Ending} (hm:zj w bm g0 g1 vb S) (hL:qt w bl 0 ⟨⟨0,0,0,0⟩,Q⟩) (sS:¬xc bm g0 g1 vb b) (rR:b≠bl)
 (hf:out.fs S K=S) (h0:(out.res K).m=⟨0,0,0,0⟩/\(out.res K).d=Q)
 (h:e=D (E #[H #[I J (out.res K).a,I J (out.res K).f,I J (out.res K).r],N (out.res K).ended,I J out.cd])/\qP w' b (out.next K)/\Ch8 b 1 (fun j=>j=b) w w'):yal w b bm g0 g1 bl vb S K out e w':=by
 obtain⟨h1,h2,h3⟩:=h;refine⟨h1,h2,?_,?_,h3.mono (fun _ _ h=> .inl h)⟩
 ·rw[hf]
  exact hm.keep h3.but (fun j hj e=>sS (e▸hj))
 ·rw[h0.1,h0.2]
  exact hL.of fun p=>h3.but.cell (a:=⟨bl,p,B⟩) hL.lb (fun e=>rR e.symm)
theorem ycz {bm g0 g1 bl:Nat} {vb:Value} {S:Pg.Fs} {q k:Int} {u:Bool} {t:Int} {lv:Nat} {xw rc:Int} {et el:Bool} {er:Int} {eu ed:Bool} {ef:Int} {oc:Pg.Wo} (hq:Pg.below q 4096=P) (rP:lv<4) (w:M) (h:vv w b ⟨P,q,k,u,t,lv,0⟩ t (lv:Int) xw) (hm:zj w bm g0 g1 vb S) (hL:qt w bl 0 ⟨⟨0,0,0,0⟩,Q⟩) (sS:¬xc bm g0 g1 vb b) (rR:b≠bl) (hh:S.has t=P) (hc:Pg.yhx S t (Pg.ix q lv) lv=rc) (he:Pg.rEn S t (Pg.ix q lv) lv=⟨et,el,er,eu,ed,ef⟩)
 (hA:((rc !=0)=P/\oc= .code rc)\/(rc=0/\((et=Q/\oc= .stop 1)\/(et=P/\((el=Q/\∃m:Nat,(lv:Int)-1=(m:Int)/\(1:Int)<=(lv:Int)/\oc= .go ⟨P,q,k,u,ef,m,0⟩)\/(el=P/\((Pg.may er k u=Q/\oc= .stop 2)\/(Pg.may er k u=P/\S.word t.toNat (Pg.ix q lv)≠0/\(eu=Q\/(eu=P/\ed=Q/\(k !=1)=Q))/\oc= .go ⟨P,q,k,u,t,lv,S.word t.toNat (Pg.ix q lv)⟩)))))))):
 Calls A 57 #[O (R ⟨b,0,B⟩),O (R ⟨bm,0,B⟩),I J root,O (R ⟨bl,0,B⟩)] w fun e w'=>yal w b bm g0 g1 bl vb S ⟨P,q,k,u,t,lv,0⟩ oc e w':=by
 have mD:=fun W'=>vw er q k u W';generalize Pg.may er k u=mv at*;have PL:Hid (∀{out:Pg.Wo} {e:Ending} {w':M},out.fs S ⟨P,q,k,u,t,lv,0⟩=S->((out.res ⟨P,q,k,u,t,lv,0⟩).m=⟨0,0,0,0⟩/\(out.res ⟨P,q,k,u,t,lv,0⟩).d=Q)->(e=D (E #[H #[I J (out.res ⟨P,q,k,u,t,lv,0⟩).a,I J (out.res ⟨P,q,k,u,t,lv,0⟩).f,I J (out.res ⟨P,q,k,u,t,lv,0⟩).r],N (out.res ⟨P,q,k,u,t,lv,0⟩).ended,I J out.cd])/\qP w' b (out.next ⟨P,q,k,u,t,lv,0⟩)/\Ch8 b 1 (fun j=>j=b) w w')->yal w b bm g0 g1 bl vb S ⟨P,q,k,u,t,lv,0⟩ out e w'):=fun a1 a2 a3=>yal.plain hm hL sS rR a1 a2 a3;obtain⟨W,hW⟩:∃W,W=w.alloc (Z #[I J 0,I J 0,I J 0] 34):=⟨_,rfl⟩
 have rH:Below w.heap.size w W:=by rw[hW];exact zA (zR w) _
 have hl:=h.lb;have dz:Hid _:=h;have iT:Hid _:=hm;have tT:Hid _:=rH;have sI:=h.grow rH;have nu:=hm.keep (F:=fun _=>False) (But.yhp rH) (fun _ _=>id)
 have R0:Hid (W.heap[w.heap.size]?=R (Z #[I J 0,I J 0,I J 0] 34 (0,0))):=by rw[hW];exact heap_alloc_new _ _
 have tQ:¬w.heap.size=b:=by omega
 have Ho:b≠w.heap.size:=by omega
 have lU:w.heap.size<W.heap.size:=(T.1 R0.out).1;have HT:=xv t W nu;rw[hh]at HT;have k1:=h.c1;have k5:=h.c5;simp only at k1 k5;obtain⟨tn,rfl⟩:=ks (hm.ok.yhK hh).1
 have mX:tn<S.n:=by have:=(hm.ok.yhK hh).2.1;omega
 have lS:=Pg.yid q lv;have fA:=zP q (lv:Int);rw[Pg.yhE hq rP]at fA;have M0:=cell_regrown nu.raw.c0;have MW:=cell_regrown (nu.raw.cw tn (Pg.ix q lv) mX lS);have K2:=cell_regrown sI.c2;have K5:=cell_regrown sI.c5;have K6:=cell_regrown sI.c6;simp only at K2 K5 K6;have GA:=hm.ok.low tn (Pg.ix q lv);have Gz:=hm.ok.high tn (Pg.ix q lv);obtain⟨e1,e2⟩:=Pg.yhZ (i:=Pg.ix q lv) (lv:=lv) hh;simp only[z]at e1 e2;have kD:=fun W'=>jy (S.word tn (Pg.ix q lv)) (lv:Int) GA Gz W';rw[Pg.yi9,<-e1,<-e2,hc,he]at kD;simp only[Pg.En.val]at kD;clear GA Gz e1 e2 hc he;simp only[z]at hA;generalize S.word tn (Pg.ix q lv)=wd at*;generalize bn:Pg.ix q lv=nZ at*;have uy:Hid _:=bn
 have i0:(0:Int)<=(tn:Int):=by omega
 have i1:(tn:Int)<(S.n:Int):=by omega
 have i2:(0:Int)<=(nZ:Int):=by omega
 have i3:(nZ:Int)<8:=by omega
 have HA:Hid _:=hA;clear h hm rH sI nu bn hA
 go_enter Tryz.func57,Tryz.ntmps57
 go_wp2_with fail
 rw[<-hW];refine HT.mono ?_;rintro e w1 ⟨rfl,hw⟩;subst w1;clear hW;clear HT k1 k5
 go_wp2_with fail
 refine wp_region_quiet_below (by kernel_rfl) (by kernel_rfl) ?_
 repeat (first
  | go_big_quiet_step ((go_at_call 104;exact Calls.regrown_of (fA _))))
 refine wpQuiet_nil ?_;intro _ pG;obtain⟨⟨dq,osq⟩,rfl⟩:=pG;have Hd:=below_regrown W dq osq;have Ht:Hid (Below w.heap.size w (grow (redrawn W dq) osq)):=zT tT.out Hd;have R2:Hid ((grow (redrawn W dq) osq).heap[w.heap.size]?=_):=(Hd.block _ lU).trans R0.out;clear Hd fA M0 MW K2 K5 K6 R0 tT lU;generalize grow (redrawn W dq) osq=w2 at*;have tC:=dz.out.grow Ht.out;have y7:=tC.c7;have y8:=tC.c8;have y6:=tC.c6;simp only[ne_eq,not_true_eq_false,decide_false]at y6 y7 y8;have tF:w.heap.size<w2.heap.size:=(T.1 R2.out).1;have sJ:b<w2.heap.size:=tC.lb;clear tC
 go_wp2_with fail
 refine(kD _).mono ?_;rintro e w3 ⟨rfl,He⟩;have rE:Hid (Below w.heap.size w w3):=zT Ht.out He;have R3:Hid (w3.heap[w.heap.size]?=_):=(He.block _ tF).trans R2.out;have mJ:w.heap.size<w3.heap.size:=Y tF He.size;have kU:b<w3.heap.size:=Y sJ He.size
 have nb3:b≠w3.heap.size:=by omega
 have mb3:w3.heap.size≠b:=by omega
 have KR:w.heap.size≠w3.heap.size:=by omega
 have KL:w3.heap.size≠w.heap.size:=by omega
 clear He kD y6 y7 y8 Ht R2 tF sJ;rcases HA.out with ⟨hc,rfl⟩|⟨rfl,hA⟩
 ·clear HA
  obtain⟨⟨x0,x1,x2⟩,xf⟩:=yc3 R3.out;have HF:Hid _:=ygI (yfj tQ (y _) ⟨⟨_,_,_,dz.out.grow rE.out⟩,Ch8.yhp (F:=fun j=>j=b) rE.out hl⟩ (I J 0) (I J 0) (I J 0)) (zA (zR _) (Z #[N et,N el,I J er,N eu,N ed,I J ef] 70))
  go_wp2_with fail
  refine bodyPost_ret (v:=E #[H #[I J 0,I J 0,I J 0],N Q,I J rc]) ?_ rfl (PL.out rfl ⟨rfl,rfl⟩ ⟨rfl,HF.out⟩);simp[results,Tryz.results57,go_sem,x0,x1,x2,mJ,KR,KL]
 clear HA;have HA:Hid _:=hA;clear hA;obtain⟨W4,rF⟩:∃W4,W4=w3.alloc (Z #[N et,N el,I J er,N eu,N ed,I J ef] 70):=⟨_,rfl⟩
 have pE:Below w3.heap.size w3 W4:=by rw[rF];exact zA (zR _) _
 have rM:Hid (Below w.heap.size w W4):=zT rE.out pE;have R4:Hid (W4.heap[w.heap.size]?=_):=(pE.block _ mJ).trans R3.out
 have E4:Hid (W4.cell? ⟨w3.heap.size,0,B⟩=R (N et)/\W4.cell? ⟨w3.heap.size,1,B⟩=R (N el)/\W4.cell? ⟨w3.heap.size,2,B⟩=R (I J er)/\W4.cell? ⟨w3.heap.size,3,B⟩=R (N eu)/\W4.cell? ⟨w3.heap.size,4,B⟩=R (N ed)/\W4.cell? ⟨w3.heap.size,5,B⟩=R (I J ef)):=by rw[Hid,rF];simp[go_sem]
 have F4:Hid (∀i,W4.frozen? ⟨w3.heap.size,i,B⟩=Q):=fun i=>by rw[rF];simp[go_sem]
 have gq:w.heap.size<W4.heap.size:=by have:=pE.size;omega
 have mV:b<W4.heap.size:=by have:=pE.size;omega
 have TS:w3.heap.size<W4.heap.size:=by rw[rF];simp
 clear pE;rcases HA.out with ⟨rfl,rfl⟩|⟨rfl,hA⟩
 ·clear HA
  go_wp2_with fail
  rw[<-rF];clear rF;have HE:=ybg 1 0 0 _ ⟨_,_,_,dz.out.grow rM.out⟩;refine HE.mono ?_;rintro e w9 ⟨rfl,cB,dS⟩;have uw:Hid (Ch8 b 1 (fun j=>j=b) w w9):=(Ch8.yhp rM.out hl).trans dS (fun _ _ h=>h);have R9:Hid (w9.heap[w.heap.size]?=_):=(dS.but.block _ gq tQ).trans R4.out;obtain⟨⟨x0,x1,x2⟩,xf⟩:=yc3 R9.out;have HF:Hid _:=yfj tQ (y _) ⟨cB,uw.out⟩ (I J 1) (I J 0) (I J 0);clear cB dS HE
  go_wp2_with fail
  refine bodyPost_ret (v:=E #[H #[I J 1,I J 0,I J 0],N P,I J 0]) ?_ rfl (PL.out rfl ⟨rfl,rfl⟩ ⟨rfl,HF.out⟩);simp[results,Tryz.results57,go_sem,x0,x1,x2]
 clear HA;have HA:Hid _:=hA;clear hA;rcases HA.out with ⟨rfl,m,kV,iq,rfl⟩|⟨rfl,hA⟩
 ·clear HA
  have bP:=dz.out.grow rE.out;have z5:=bP.c5;have z6:=bP.c6;have zf:=bP.fb;obtain⟨⟨x0,x1,x2⟩,xf⟩:=yc3 R3.out;have HF:Hid _:=ygI (yfj tQ (y _) ⟨(bP.low ef m).1,(Ch8.yhp rE.out hl).trans (bP.low ef m).2 (fun _ _ h=>h)⟩ (I J 0) (I J 0) (I J 0)) (zA (zR _) (Z #[N P,N Q,I J er,N eu,N ed,I J ef] 70));clear bP
  go_wp2_with fail
  refine bodyPost_ret (v:=E #[H #[I J 0,I J 0,I J 0],N Q,I J 0]) ?_ rfl (PL.out rfl ⟨rfl,rfl⟩ ⟨rfl,HF.out⟩);simp[results,Tryz.results57,go_sem,x0,x1,x2,mJ,KR,KL]
 clear HA;have HA:Hid _:=hA;clear hA
 go_wp2_with fail
 rw[<-rF];clear rF;have z2:=cell_regrown E4.out.2.2.1;have y2:=cell_regrown (dz.out.grow rM.out).c2;have y3:=cell_regrown (dz.out.grow rM.out).c3;have y4:=cell_regrown (dz.out.grow rM.out).c4;simp only at y2 y3 y4;refine wp_region_quiet_below (by kernel_rfl) (by kernel_rfl) ?_
 repeat (first
  | go_big_quiet_step ((go_at_call 107;exact Calls.regrown_of (mD _))))
 refine wpQuiet_nil ?_;intro _ pG;obtain⟨⟨gH,pI⟩,rfl⟩:=pG;have rA:=below_regrown W4 gH pI;have tu:Hid (Below w.heap.size w (grow (redrawn W4 gH) pI)):=zT rM.out rA;have R5:Hid ((grow (redrawn W4 gH) pI).heap[w.heap.size]?=_):=(rA.block _ gq).trans R4.out;have E5:Hid _:=xE rA E4.out;have F5:Hid (∀i,(grow (redrawn W4 gH) pI).frozen? ⟨w3.heap.size,i,B⟩=Q):=fun i=>(rA.frozen (p:=⟨w3.heap.size,i,B⟩) TS).trans (F4.out i);have Pn:w.heap.size<(grow (redrawn W4 gH) pI).heap.size:=Y gq rA.size;have wI:b<(grow (redrawn W4 gH) pI).heap.size:=Y mV rA.size;have NQ:w3.heap.size<(grow (redrawn W4 gH) pI).heap.size:=Y TS rA.size;clear rA z2 y2 y3 y4 E4 F4 mD rM R4 gq mV TS rE R3 kU;generalize grow (redrawn W4 gH) pI=w5 at*;generalize w3.heap.size=Eb at*;rcases HA.out with ⟨rfl,rfl⟩|⟨rfl,nW,hA,rfl⟩
 ·clear HA
  go_wp2_with fail
  have HE:=ybg 2 0 0 _ ⟨_,_,_,dz.out.grow tu.out⟩;refine HE.mono ?_;rintro e w9 ⟨rfl,cB,dS⟩;have uw:Hid (Ch8 b 1 (fun j=>j=b) w w9):=(Ch8.yhp tu.out hl).trans dS (fun _ _ h=>h);have R9:Hid (w9.heap[w.heap.size]?=_):=(dS.but.block _ Pn tQ).trans R5.out;obtain⟨⟨x0,x1,x2⟩,xf⟩:=yc3 R9.out;have HF:Hid _:=yfj tQ (y _) ⟨cB,uw.out⟩ (I J 2) (I J 0) (I J 0);clear cB dS HE
  go_wp2_with fail
  refine bodyPost_ret (v:=E #[H #[I J 2,I J 0,I J 0],N P,I J 0]) ?_ rfl (PL.out rfl ⟨rfl,rfl⟩ ⟨rfl,HF.out⟩);simp[results,Tryz.results57,go_sem,x0,x1,x2]
 clear HA;obtain⟨z0,z1,z2,z3,z4,z5⟩:=E5.out;have bQ:=dz.out.grow tu.out;have y3:=bQ.c3;have y7:=bQ.c7;have y8:=bQ.c8;have yf:=bQ.fb;simp only[ne_eq,not_true_eq_false,decide_false]at y3 y7 y8;obtain⟨⟨x0,x1,x2⟩,xf⟩:=yc3 R5.out;have HF:Hid _:=yfj tQ (y _) ⟨(bQ.wait wd nW).1,(Ch8.yhp tu.out hl).trans (bQ.wait wd nW).2 (fun _ _ h=>h)⟩ (I J 0) (I J 0) (I J 0);clear bQ;rcases hA with rfl|⟨rfl,rfl,sW⟩
 all_goals
  go_wp2_with fail
  refine bodyPost_ret (v:=E #[H #[I J 0,I J 0,I J 0],N Q,I J 0]) ?_ rfl (PL.out rfl ⟨rfl,rfl⟩ ⟨rfl,HF.out⟩);simp[results,Tryz.results57,go_sem,x0,x1,x2]
end
section
variable {b:Nat} {root:Int}
theorem yaM {bm g0 g1 bl:Nat} {vb:Value} {S:Pg.Fs} {q k:Int} {u:Bool} {t:Int} {lv:Nat} {xw x er ef:Int} {eu ed d' mk:Bool} (hq:Pg.below q 4096=P) (rP:lv<4) (w:M) (h:vv w b ⟨P,q,k,u,t,lv,x⟩ t (lv:Int) xw) (hm:zj w bm g0 g1 vb S) (hL:qt w bl 0 ⟨⟨0,0,0,0⟩,Q⟩) (TB:∀p,w.frozen? ⟨bl,p,B⟩=Q) (sS:¬xc bm g0 g1 vb b) (kV:¬xc bm g0 g1 vb bl) (rR:b≠bl) (pM:Pg.may er k u=P) (hh:S.has t=P) (hc:Pg.yhx S t (Pg.ix q lv) lv=0) (he:Pg.rEn S t (Pg.ix q lv) lv=⟨P,P,er,eu,ed,ef⟩)
 (ou:decide (x≠0)=mk) (iM:mk=P->S.word t.toNat (Pg.ix q lv)=xw) (hB:(mk=Q/\eu=P/\(ed||k !=1)=P/\d'=ed)\/(mk=P/\(eu&&(ed||k !=1))=Q/\d'=(ed||k==1))):
 Calls A 57 #[O (R ⟨b,0,B⟩),O (R ⟨bm,0,B⟩),I J root,O (R ⟨bl,0,B⟩)] w fun e w'=>yal w b bm g0 g1 bl vb S ⟨P,q,k,u,t,lv,x⟩ (.done ⟨P,P,er,P,d',ef⟩ mk) e w':=by
 have mD:=fun W'=>vw er q k u W';rw[pM]at mD;clear pM;obtain⟨W,hW⟩:∃W,W=w.alloc (Z #[I J 0,I J 0,I J 0] 34):=⟨_,rfl⟩
 have rH:Below w.heap.size w W:=by rw[hW];exact zA (zR w) _
 have hl:=h.lb;have dz:Hid _:=h;have iT:Hid _:=hm;have tT:Hid _:=rH;have sI:=h.grow rH;have nu:=hm.keep (F:=fun _=>False) (But.yhp rH) (fun _ _=>id)
 have R0:Hid (W.heap[w.heap.size]?=R (Z #[I J 0,I J 0,I J 0] 34 (0,0))):=by rw[hW];exact heap_alloc_new _ _
 have tQ:¬w.heap.size=b:=by omega
 have Ho:b≠w.heap.size:=by omega
 have lU:w.heap.size<W.heap.size:=(T.1 R0.out).1;have HT:=xv t W nu;rw[hh]at HT;have k1:=h.c1;have k5:=h.c5;simp only at k1 k5;obtain⟨tn,rfl⟩:=ks (hm.ok.yhK hh).1
 have mX:tn<S.n:=by have:=(hm.ok.yhK hh).2.1;omega
 have lS:=Pg.yid q lv;have fA:=zP q (lv:Int);rw[Pg.yhE hq rP]at fA;have M0:=cell_regrown nu.raw.c0;have MW:=cell_regrown (nu.raw.cw tn (Pg.ix q lv) mX lS);have K2:=cell_regrown sI.c2;have K5:=cell_regrown sI.c5;have K6:=cell_regrown sI.c6;simp only at K2 K5 K6;have GA:=hm.ok.low tn (Pg.ix q lv);have Gz:=hm.ok.high tn (Pg.ix q lv);obtain⟨e1,e2⟩:=Pg.yhZ (i:=Pg.ix q lv) (lv:=lv) hh;simp only[z]at e1 e2;have kD:=fun W'=>jy (S.word tn (Pg.ix q lv)) (lv:Int) GA Gz W';rw[Pg.yi9,<-e1,<-e2,hc,he]at kD;simp only[Pg.En.val]at kD;clear GA Gz e1 e2 hc he;simp only[z]at iM;generalize S.word tn (Pg.ix q lv)=wd at*;generalize bn:Pg.ix q lv=nZ at*;have uy:Hid _:=bn
 have i0:(0:Int)<=(tn:Int):=by omega
 have i1:(tn:Int)<(S.n:Int):=by omega
 have i2:(0:Int)<=(nZ:Int):=by omega
 have i3:(nZ:Int)<8:=by omega
 clear h hm rH sI nu bn;have Md:=fun W'=>vQ P P er P d' ef (lv:Int) q W';rw[Pg.ylo ⟨P,P,er,P,d',ef⟩ (lv:Int) q]at Md;have iH:Pg.Wo.res ⟨P,q,k,u,(tn:Int),lv,x⟩ (.done ⟨P,P,er,P,d',ef⟩ mk)=⟨P,Pg.aEnd (Pg.En.map ⟨P,P,er,P,d',ef⟩ (lv:Int) q).r k u,Pg.yhY (Pg.En.map ⟨P,P,er,P,d',ef⟩ (lv:Int) q).p (Pg.En.map ⟨P,P,er,P,d',ef⟩ (lv:Int) q).f (Pg.En.map ⟨P,P,er,P,d',ef⟩ (lv:Int) q).r q k u,Pg.yhL (Pg.En.map ⟨P,P,er,P,d',ef⟩ (lv:Int) q).r k u,Pg.En.map ⟨P,P,er,P,d',ef⟩ (lv:Int) q,d'⟩:=rfl;generalize Pg.En.map ⟨P,P,er,P,d',ef⟩ (lv:Int) q=mm at*;obtain⟨mp,ms,mf,mr⟩:=mm;simp only[Pg.Mp.val]at Md;have lc:=fun W'=>qR mp ms mf mr q k u W';generalize Pg.aEnd mr k u=aa at*;generalize Pg.yhY mp mf mr q k u=af at*;generalize Pg.yhL mr k u=ar at*;have Db:Hid _:=iH;clear iH;have HL:Hid (qt w bl 0 ⟨⟨0,0,0,0⟩,Q⟩):=hL;have EZ:Hid _:=TB;clear hL TB;have oP:Hid (Pg.index q (lv:Int)=(Pg.ix q lv:Nat)):=Pg.yhE hq rP;have NV:Pg.Wo.fs S ⟨P,q,k,u,(tn:Int),lv,x⟩ (.done ⟨P,P,er,P,d',ef⟩ P)=S.store (tn:Int) (Pg.index q (lv:Int)) (Pg.enc P P er P d' ef (lv:Int)):=rfl;rw[oP.out,uy.out]at NV;have aT:=fun W'=>jo P P er P d' ef (lv:Int) W';have hv:=Pg.yjX P P er P d' ef (lv:Int);generalize Pg.enc P P er P d' ef (lv:Int)=v at*;have CR:Hid _:=NV;clear NV
 have Um:Hid (S.at' (tn:Int) (nZ:Int)=P):=by rw[Hid,<-uy.out,yf7 S (tn:Int) q lv,hh]
 clear hh
 go_enter Tryz.func57,Tryz.ntmps57
 go_wp2_with fail
 rw[<-hW];refine HT.mono ?_;rintro e w1 ⟨rfl,hw⟩;subst w1;clear hW;clear HT k1 k5
 go_wp2_with fail
 refine wp_region_quiet_below (by kernel_rfl) (by kernel_rfl) ?_
 repeat (first
  | go_big_quiet_step ((go_at_call 104;exact Calls.regrown_of (fA _))))
 refine wpQuiet_nil ?_;intro _ pG;obtain⟨⟨dq,osq⟩,rfl⟩:=pG;have Hd:=below_regrown W dq osq;have Ht:Hid (Below w.heap.size w (grow (redrawn W dq) osq)):=zT tT.out Hd;have R2:Hid ((grow (redrawn W dq) osq).heap[w.heap.size]?=_):=(Hd.block _ lU).trans R0.out;clear Hd fA M0 MW K2 K5 K6 R0 tT lU;generalize grow (redrawn W dq) osq=w2 at*;have tC:=dz.out.grow Ht.out;have y7:=tC.c7;have y8:=tC.c8;have y6:=tC.c6;simp only[ou]at y6 y7 y8;have tF:w.heap.size<w2.heap.size:=(T.1 R2.out).1;have sJ:b<w2.heap.size:=tC.lb;clear tC;have Us:Hid _:=ou;clear ou;rcases hB with ⟨rfl,hB⟩|⟨rfl,hB⟩
 rotate_left
 focus
  have hww:(wd !=xw)=Q:=by rw[iM rfl];simp
 rotate_left
 all_goals
  have aA:Hid _:=hB;clear hB iM
 all_goals
  go_wp2_with fail
  refine(kD _).mono ?_;rintro e w3 ⟨rfl,He⟩;have rE:Hid (Below w.heap.size w w3):=zT Ht.out He;have R3:Hid (w3.heap[w.heap.size]?=_):=(He.block _ tF).trans R2.out;have mJ:w.heap.size<w3.heap.size:=Y tF He.size;have kU:b<w3.heap.size:=Y sJ He.size
  have nb3:b≠w3.heap.size:=by omega
  have mb3:w3.heap.size≠b:=by omega
  have KR:w.heap.size≠w3.heap.size:=by omega
  have KL:w3.heap.size≠w.heap.size:=by omega
  clear He kD y6 y7 y8 Ht R2 tF sJ;obtain⟨W4,rF⟩:∃W4,W4=w3.alloc (Z #[N P,N P,I J er,N eu,N ed,I J ef] 70):=⟨_,rfl⟩
  have pE:Below w3.heap.size w3 W4:=by rw[rF];exact zA (zR _) _
  have rM:Hid (Below w.heap.size w W4):=zT rE.out pE;have R4:Hid (W4.heap[w.heap.size]?=_):=(pE.block _ mJ).trans R3.out
  have E4:Hid (W4.cell? ⟨w3.heap.size,0,B⟩=R (N P)/\W4.cell? ⟨w3.heap.size,1,B⟩=R (N P)/\W4.cell? ⟨w3.heap.size,2,B⟩=R (I J er)/\W4.cell? ⟨w3.heap.size,3,B⟩=R (N eu)/\W4.cell? ⟨w3.heap.size,4,B⟩=R (N ed)/\W4.cell? ⟨w3.heap.size,5,B⟩=R (I J ef)):=by rw[Hid,rF];simp[go_sem]
  have F4:Hid (∀i,W4.frozen? ⟨w3.heap.size,i,B⟩=Q):=fun i=>by rw[rF];simp[go_sem]
  have gq:w.heap.size<W4.heap.size:=by have:=pE.size;omega
  have mV:b<W4.heap.size:=by have:=pE.size;omega
  have TS:w3.heap.size<W4.heap.size:=by rw[rF];simp
  clear pE
  go_wp2_with fail
  rw[<-rF];clear rF;have z2:=cell_regrown E4.out.2.2.1;have y2:=cell_regrown (dz.out.grow rM.out).c2;have y3:=cell_regrown (dz.out.grow rM.out).c3;have y4:=cell_regrown (dz.out.grow rM.out).c4;simp only at y2 y3 y4;refine wp_region_quiet_below (by kernel_rfl) (by kernel_rfl) ?_
  repeat (first
   | go_big_quiet_step ((go_at_call 107;exact Calls.regrown_of (mD _))))
  refine wpQuiet_nil ?_;intro _ pG;obtain⟨⟨gH,pI⟩,rfl⟩:=pG;have rA:=below_regrown W4 gH pI;have tu:Hid (Below w.heap.size w (grow (redrawn W4 gH) pI)):=zT rM.out rA;have R5:Hid ((grow (redrawn W4 gH) pI).heap[w.heap.size]?=_):=(rA.block _ gq).trans R4.out;have E5:Hid _:=xE rA E4.out;have F5:Hid (∀i,(grow (redrawn W4 gH) pI).frozen? ⟨w3.heap.size,i,B⟩=Q):=fun i=>(rA.frozen (p:=⟨w3.heap.size,i,B⟩) TS).trans (F4.out i);have Pn:w.heap.size<(grow (redrawn W4 gH) pI).heap.size:=Y gq rA.size;have wI:b<(grow (redrawn W4 gH) pI).heap.size:=Y mV rA.size;have NQ:w3.heap.size<(grow (redrawn W4 gH) pI).heap.size:=Y TS rA.size;clear rA z2 y2 y3 y4 E4 F4 mD rM R4 gq mV TS rE R3 kU;generalize grow (redrawn W4 gH) pI=w5 at*;generalize w3.heap.size=Eb at*
 focus
  obtain⟨rfl,hE,hd⟩:=aA.out;have bQ:=dz.out.grow tu.out;have y3:=bQ.c3;have y7:=bQ.c7;simp only[Us.out]at y3 y7;obtain⟨z0,z1,z2,z3,z4,z5⟩:=E5.out;have EX:Hid (_/\_/\_/\_/\w5.cell? ⟨Eb,4,B⟩=R (N d')/\_):=⟨z0,z1,z2,z3,by rw[hd];exact z4,z5⟩;have iQ:Hid (But (fun _=>False) w w5):=But.yhp tu.out;have Bj:Hid (zj w5 bm g0 g1 vb (Pg.Wo.fs S ⟨P,q,k,u,(tn:Int),lv,x⟩ (.done ⟨P,P,er,P,d',ef⟩ Q))):=iT.out.keep (F:=fun _=>False) iQ.out (fun _ _=>id);have RX:Hid (w5.heap[w.heap.size]?=_):=R5.out
  have MZ:w.heap.size<Eb:=by omega
  obtain⟨DX,Tz⟩:∃DX:Nat->Prop,DX=fun _=>False:=⟨_,rfl⟩;rw[<-Tz]at iQ
  have G8:Hid (∀j,DX j->xc bm g0 g1 vb j):=fun j e=>by rw[Tz]at e;exact e.elim
  clear Tz bQ hd aA
  have hE:ed=P\/(ed=Q/\(k !=1)=P):=by revert hE;cases ed<;>simp
  rcases hE with rfl|⟨rfl,sW⟩
  all_goals
   go_wp2_with fail
   clear z0 z1 z2 z3 z4 z5 y3 y7 E5 F5 R5 tu Pn wI NQ aT hv Um oP CR;obtain⟨SX,Mv⟩:∃SX,Hid (Pg.Wo.fs S ⟨P,q,k,u,(tn:Int),lv,x⟩ (.done ⟨P,P,er,P,d',ef⟩ Q)=SX):=⟨_,rfl⟩;rw[Mv.out]at Bj;obtain⟨WX,rfl⟩:∃WX,WX=w5:=⟨_,rfl⟩
 rotate_left 2
 focus
  obtain⟨hE,hd⟩:=aA.out
  have hE:(eu=Q/\ed=P/\d'=P)\/(eu=Q/\ed=Q/\(k==1)=d')\/(eu=P/\ed=Q/\(k !=1)=Q/\(k==1)=P/\d'=P):=by
   revert hE hd
   cases eu <;> cases ed <;> simp (config := { maxSteps := 100000 }) [bne]
   all_goals intros;simp_all
  clear hd aA
  have hE:(eu=Q/\ed=P/\(k==1)=(k==1)/\Hid (d'=P))\/(eu=Q/\ed=Q/\(k==1)=d'/\Hid (d'=d'))\/(eu=P/\ed=Q/\((k !=1)=Q/\(k==1)=P)/\Hid (d'=P)):=by
   rcases hE with ⟨a,b,c⟩|⟨a,b,c⟩|⟨a,b,c,d,e⟩
   ·exact .inl ⟨a,b,rfl,c⟩
   ·exact .inr (.inl ⟨a,b,c,rfl⟩)
   ·exact .inr (.inr ⟨a,b,⟨c,d⟩,e⟩)
  rcases hE with ⟨rfl,rfl,sW,Bc⟩|⟨rfl,rfl,sW,Bc⟩|⟨rfl,rfl,sW,Bc⟩
  all_goals
   obtain⟨z0,z1,z2,z3,z4,z5⟩:=E5.out;have zf:=F5.out;have bQ:=dz.out.grow tu.out;have y3:=bQ.c3;have y7:=bQ.c7;simp only[Us.out]at y3 y7;clear bQ;obtain⟨W6,gU⟩:∃W6,W6=((w5.setCell ⟨Eb,3,B⟩ (N P)).setCell ⟨Eb,4,B⟩ (N d')):=⟨_,rfl⟩
   have MZ:w.heap.size<Eb:=by omega
   have Dr:Below w.heap.size w5 W6:=by
    have hE:w.heap.size<=Eb:=by omega
    rw[gU];exact((Below.refl _ w5).setCell hE _).setCell hE _
   have fw:Hid (Below w.heap.size w W6):=tu.out.trans Dr
   have E6:Hid (W6.cell? ⟨Eb,0,B⟩=R (N P)/\W6.cell? ⟨Eb,1,B⟩=R (N P)/\W6.cell? ⟨Eb,2,B⟩=R (I J er)/\W6.cell? ⟨Eb,3,B⟩=R (N P)/\W6.cell? ⟨Eb,4,B⟩=R (N d')/\W6.cell? ⟨Eb,5,B⟩=R (I J ef)):=by rw[Hid,gU];simp[go_sem,z0,z1,z2,z3,z4,z5]
   have R6:Hid (W6.heap[w.heap.size]?=R (Z #[I J 0,I J 0,I J 0] 34 (0,0))):=by
    have OJ:w.heap.size≠Eb:=by omega
    rw[gU,U _ _ _ _ OJ,U _ _ _ _ OJ];exact R5.out
   go_wp2_with fail
   first
    | rw[<-gU]
    | rw[Bc.out]at gU;rw[<-gU]
   clear sW Bc;clear gU z0 z1 z2 z3 z4 z5 zf y3 y7 Dr E5 F5 R5 tu Pn wI NQ;have sP:=dz.out.grow fw.out;have kW:=iT.out.keep (F:=fun _=>False) (But.yhp fw.out) (fun _ _=>id);have c0:=kW.raw.c0;have c1:=sP.c5;have c2:=sP.c2;have c3:=sP.c6;simp only at c2;have WC:=sP.lb;have WH:=kW.raw.lb;obtain⟨c4,c5,c6,c7,c8,c9⟩:=E6.out;have Tg:=zP q (lv:Int);rw[Pg.yhE hq rP,uy.out]at Tg;have hg0:=iT.out.raw.l0;have KP:g0≠bm:=iT.out.raw.n0;have ng2:bm≠g0:=fun e=>KP e.symm;have ng3:g0≠b:=fun e=>sS (.inr (.inl e.symm));have ng4:b≠g0:=fun e=>ng3 e.symm
   have ng5:g0≠Eb:=by omega
   have ng6:Eb≠g0:=by omega
   clear sP kW
   go_region_held3 (fun w'=>w'.cell? ⟨bm,0,B⟩=R (.slice (R ⟨g0,0,B⟩) S.n S.n)/\w'.cell? ⟨b,5,B⟩=R (I J (tn:Int))/\w'.cell? ⟨b,2,B⟩=R (I J q)/\w'.cell? ⟨b,6,B⟩=R (I J (lv:Int))/\w'.cell? ⟨Eb,0,B⟩=R (N P)/\w'.cell? ⟨Eb,1,B⟩=R (N P)/\w'.cell? ⟨Eb,2,B⟩=R (I J er)/\w'.cell? ⟨Eb,3,B⟩=R (N P)/\w'.cell? ⟨Eb,4,B⟩=R (N d')/\w'.cell? ⟨Eb,5,B⟩=R (I J ef)) (go_keep) (first
    | (go_at_call 108;refine(aT _).mono ?_;rintro en w8 ⟨rfl,su⟩;have dL:Hid (Below w.heap.size w w8):=zT (zT fw.out pg.out) su;have gu:Hid _:=su;have b0:=cell_later gu.out a0;have b1:=cell_later gu.out a1;have b2:=cell_later gu.out a2;have b3:=cell_later gu.out a3;have b4:=cell_later gu.out a4;have b5:=cell_later gu.out a5;have b6:=cell_later gu.out a6;have b7:=cell_later gu.out a7;have b8:=cell_later gu.out a8;have b9:=cell_later gu.out a9;have Pf:=iT.out.keep (F:=fun _=>False) (But.yhp dL.out) (fun _ _=>id);have gw:=Pf.raw.cw tn nZ mX lS;have gf:=Pf.raw.f0;have gl:=Pf.raw.l0;clear Pf su)
    | (go_at_call 104;refine(Tg _).mono ?_;rintro en w7 ⟨rfl,tq⟩;have pg:Hid (Below W6.heap.size W6 w7):=(by first|exact zT (zR W6).drew tq|exact tq);have a0:=cell_later pg.out c0;have a1:=cell_later pg.out c1;have a2:=cell_later pg.out c2;have a3:=cell_later pg.out c3;have a4:=cell_later pg.out c4;have a5:=cell_later pg.out c5;have a6:=cell_later pg.out c6;have a7:=cell_later pg.out c7;have a8:=cell_later pg.out c8;have a9:=cell_later pg.out c9;clear tq))
   go_wp2_with fail
   obtain⟨WX,PH⟩:∃WX,WX=w8.setCell ⟨g0,tn*8+nZ,B⟩ (I .u64 v):=⟨_,rfl⟩;rw[<-PH]
   have iQ:Hid (But (fun j=>j=g0) w WX):=by rw[Hid,PH];exact(But.yhp (F:=fun j=>j=g0) dL.out).setCell (a:=⟨g0,tn*8+nZ,B⟩) (.inr rfl) _
   have Bj:Hid (zj WX bm g0 g1 vb (S.store (tn:Int) (nZ:Int) v)):=by
    have Pf:=iT.out.keep (F:=fun _=>False) (But.yhp dL.out) (fun _ _=>id)
    have e3:S.store (tn:Int) (nZ:Int) v={S with word:=Pg.Fs.put S.word tn nZ v}:=by simp[Pg.Fs.store,Um.out]
    refine⟨?_,Pf.ok.store (tn:Int) (nZ:Int) hv.1 hv.2⟩;rw[e3,PH];exact Pf.raw.put mX lS v
   have Cb:WX.heap[Eb]?=w8.heap[Eb]?:=by rw[PH];exact U _ _ _ _ ng6
   have EX:Hid _:=yed Cb ⟨b4,b5,b6,b7,b8,b9⟩;have mQ:w8.heap[w.heap.size]?=W6.heap[w.heap.size]?:=(gu.out.block _ (Y (T.1 R6.out).1 pg.out.size)).trans (pg.out.block _ (T.1 R6.out).1)
   have RX:Hid (WX.heap[w.heap.size]?=R (Z #[I J 0,I J 0,I J 0] 34 (0,0))):=by
    rw[Hid,PH,U _ _ _ _ (show w.heap.size≠g0 by omega)];exact mQ.trans R6.out
   obtain⟨SX,Nl⟩:∃SX,SX=S.store (tn:Int) (nZ:Int) v:=⟨_,rfl⟩;have Mv:Hid (Pg.Wo.fs S ⟨P,q,k,u,(tn:Int),lv,x⟩ (.done ⟨P,P,er,P,d',ef⟩ P)=SX):=CR.out.trans Nl.symm;rw[<-Nl]at Bj;obtain⟨DX,Tz⟩:∃DX:Nat->Prop,DX=fun j=>j=g0:=⟨_,rfl⟩;rw[<-Tz]at iQ
   have G8:Hid (∀j,DX j->xc bm g0 g1 vb j):=fun j e=>by rw[Tz]at e;exact .inr (.inl e)
   clear Tz Nl CR;clear a0 a1 a2 a3 a4 a5 a6 a7 a8 a9 b0 b1 b2 b3 b4 b5 b6 b7 b8 b9 c0 c1 c2 c3 c4 c5 c6 c7 c8 c9 gw gf gl Cb mQ PH pg gu dL fw E6 R6 aT Tg hv
 all_goals
  have uX:bl<w.heap.size:=qt.lb HL.out;have UW:¬DX b:=fun e=>sS (G8.out _ e);have UX:¬DX bl:=fun e=>kV (G8.out _ e);have Lg:=dz.out.keep iQ.out UW;have g0':=cell_regrown EX.out.1;have g1':=cell_regrown EX.out.2.1;have g2':=cell_regrown EX.out.2.2.1;have g3':=cell_regrown EX.out.2.2.2.1;have g4':=cell_regrown EX.out.2.2.2.2.1;have I9:=cell_regrown EX.out.2.2.2.2.2;have k2':=cell_regrown Lg.c2;have Er:=cell_regrown Lg.c6;simp only at k2' Er;clear Lg;refine Loose.yip 11 15 (Z #[I J 0,I J 0,I J 0,I J 0] 39) _ (by kernel_rfl) (by kernel_rfl) rfl rfl rfl (by intro a w;simp[go_sem]) ?_;simp only[kO,kh,ki,un]
  repeat (
   refine Loose.zS (fun k hk=> ?_)
   go_simp
   first
    | (refine hk _ ?_;clear hk k)
    | (apply Exists.intro
       refine⟨fun _=> ?_,hk _ ?_⟩
       (go_at_call 72;exact Loose.calls (Md _))
       clear hk k))
  refine Loose.yhs ?_;intro bx w6 H7 Aw hX
  have cb:w6.cell? ⟨bx,0,B⟩=R (I J 0)/\w6.cell? ⟨bx,1,B⟩=R (I J 0)/\w6.cell? ⟨bx,2,B⟩=R (I J 0)/\w6.cell? ⟨bx,3,B⟩=R (I J 0):=by
   simp[ud,hX]
  obtain⟨bW,bX,gQ,lI⟩:=cb
  have I7:∀i,w6.frozen? ⟨bx,i,B⟩=Q:=fun i=>by simp[uv,hX]
  have MU:Below WX.heap.size WX ((((w6.setCell ⟨bx,0,B⟩ (I J mp)).setCell ⟨bx,1,B⟩ (I J ms)).setCell ⟨bx,2,B⟩ (I J mf)).setCell ⟨bx,3,B⟩ (I J mr)):=zp H7 _ Aw _ _ _ _
  have m4:((((w6.setCell ⟨bx,0,B⟩ (I J mp)).setCell ⟨bx,1,B⟩ (I J ms)).setCell ⟨bx,2,B⟩ (I J mf)).setCell ⟨bx,3,B⟩ (I J mr)).cell? ⟨bx,0,B⟩=R (I J mp)/\((((w6.setCell ⟨bx,0,B⟩ (I J mp)).setCell ⟨bx,1,B⟩ (I J ms)).setCell ⟨bx,2,B⟩ (I J mf)).setCell ⟨bx,3,B⟩ (I J mr)).cell? ⟨bx,1,B⟩=R (I J ms)/\((((w6.setCell ⟨bx,0,B⟩ (I J mp)).setCell ⟨bx,1,B⟩ (I J ms)).setCell ⟨bx,2,B⟩ (I J mf)).setCell ⟨bx,3,B⟩ (I J mr)).cell? ⟨bx,2,B⟩=R (I J mf)/\((((w6.setCell ⟨bx,0,B⟩ (I J mp)).setCell ⟨bx,1,B⟩ (I J ms)).setCell ⟨bx,2,B⟩ (I J mf)).setCell ⟨bx,3,B⟩ (I J mr)).cell? ⟨bx,3,B⟩=R (I J mr):=by simp[go_sem,bW,bX,gQ,lI]
  have O3:w.heap.size<=WX.heap.size:=iQ.out.size
  have nbx:bx≠bl:=by omega
  have Cu:bl≠bx:=by omega
  have d4:=H7.cell (p:=⟨Eb,4,B⟩) (X _ _ EX.out.2.2.2.2.1);have UJ:=d4.trans EX.out.2.2.2.2.1
  have GQ:Eb≠bx:=by have:=X _ _ EX.out.1;simp only at this;omega
  have mEx:bx≠Eb:=fun e=>GQ e.symm
  have nEl:Eb≠bl:=by omega
  have mEl:bl≠Eb:=by omega
  have U3:=HL.out.of (w':=WX) fun p=>iQ.out.cell (a:=⟨bl,p,B⟩) uX UX;have Aj:=U3.below H7 (Y uX O3);have lf6:∀i,w6.frozen? ⟨bl,i,B⟩=Q:=fun i=>(H7.frozen (p:=⟨bl,i,B⟩) (Y uX O3)).trans ((iQ.out.frozen (a:=⟨bl,i,B⟩) uX UX).trans (EZ.out i));obtain⟨l0,l1,l2,l3,l4⟩:=Aj;simp only[Nat.zero_add]at l1 l2 l3 l4;generalize nA:((((w6.setCell ⟨bx,0,B⟩ (I J mp)).setCell ⟨bx,1,B⟩ (I J ms)).setCell ⟨bx,2,B⟩ (I J mf)).setCell ⟨bx,3,B⟩ (I J mr))=W7 at*;have pg:Hid _:=MU;have M4:Hid _:=m4;obtain⟨W8,BJ⟩:∃W8,W8=(((((W7.setCell ⟨bl,0,B⟩ (I J mp)).setCell ⟨bl,1,B⟩ (I J ms)).setCell ⟨bl,2,B⟩ (I J mf)).setCell ⟨bl,3,B⟩ (I J mr)).setCell ⟨bl,4,B⟩ (N d')):=⟨_,rfl⟩
  have Rn:But (fun j=>j=bl) W7 W8:=by rw[BJ];exact(qm (F:=fun j=>j=bl) (But.refl _ W7) bl (.inr rfl) _ _ _ _).setCell (a:=⟨bl,4,B⟩) (.inr rfl) _
  have wG:W7.heap[bl]?=w6.heap[bl]?:=by rw[<-nA,U _ _ _ _ Cu,U _ _ _ _ Cu,U _ _ _ _ Cu,U _ _ _ _ Cu]
  have t0:=(V (a:=⟨bl,0,B⟩) wG).trans l0;have t1:=(V (a:=⟨bl,1,B⟩) wG).trans l1;have t2:=(V (a:=⟨bl,2,B⟩) wG).trans l2;have t3:=(V (a:=⟨bl,3,B⟩) wG).trans l3;have t4:=(V (a:=⟨bl,4,B⟩) wG).trans l4
  have L8:Hid (qt W8 bl 0 ⟨⟨mp,ms,mf,mr⟩,d'⟩):=by
   rw[Hid,BJ]
   refine⟨?_,?_,?_,?_,?_⟩<;>simp[go_sem,t0,t1,t2,t3,t4]
  have CF:Hid (But (fun j=>j=bl) WX W8):=(But.yhp (F:=fun j=>j=bl) MU).trans Rn (fun _ _ h=>h)
  have M8:Hid (W8.cell? ⟨bx,0,B⟩=R (I J mp)/\W8.cell? ⟨bx,1,B⟩=R (I J ms)/\W8.cell? ⟨bx,2,B⟩=R (I J mf)/\W8.cell? ⟨bx,3,B⟩=R (I J mr)):=by
   have hk:W8.heap[bx]?=W7.heap[bx]?:=Rn.block bx (X _ _ m4.1) nbx;exact⟨(V hk).trans m4.1,(V hk).trans m4.2.1,(V hk).trans m4.2.2.1,(V hk).trans m4.2.2.2⟩
  have tf:∀i,W7.frozen? ⟨bl,i,B⟩=Q:=fun i=>(World.frozen?_of_block (a:=⟨bl,i,B⟩) wG).trans (lf6 i)
  have d7:W7.cell? ⟨Eb,4,B⟩=R (N d'):=by
   have Cb:W7.heap[Eb]?=w6.heap[Eb]?:=by rw[<-nA,U _ _ _ _ GQ,U _ _ _ _ GQ,U _ _ _ _ GQ,U _ _ _ _ GQ]
   exact(V (a:=⟨Eb,4,B⟩) Cb).trans UJ
  obtain⟨p0,p1,p2,p3⟩:=m4;clear wG Rn MU d4 U3 g0' g1' g2' g3' g4' I9 k2' Er hX
  go_wp2_with fail
  rw[<-BJ];clear nA BJ t0 t1 t2 t3 t4 tf d7 p0 p1 p2 p3 bW bX gQ lI I7 UJ l0 l1 l2 l3 l4 lf6;have H8:Hid (But (fun j=>DX j\/j=bl) w W8):=(iQ.out.mono (fun _ _ h=> .inl h)).trans CF.out (fun _ _ h=> .inr h)
  have TH:¬(DX b\/b=bl):=by rintro (h|h);exact UW h;exact rR h
  have kT:=dz.out.keep H8.out TH;have q0':=cell_regrown M8.out.1;have q1':=cell_regrown M8.out.2.1;have q2':=cell_regrown M8.out.2.2.1;have q3':=cell_regrown M8.out.2.2.2;have k2':=cell_regrown kT.c2;have Eo:=cell_regrown kT.c3;have Ep:=cell_regrown kT.c4;simp only at k2' Eo Ep;clear kT;refine Loose.wp_region_late2 7 8 11 (by kernel_rfl) (by kernel_rfl) ?_;simp only[kO,kh,ki,un]
  repeat (
   refine Loose.zS (fun k hk=> ?_)
   go_simp
   first
    | (refine hk _ ?_;clear hk k)
    | (apply Exists.intro
       refine⟨fun _=> ?_,hk _ ?_⟩
       (go_at_call 84;exact Loose.calls (lc _))
       clear hk k))
  refine Loose.yhs ?_;intro ax fG;have CE:Hid (But (fun j=>j=bl) WX ax):=CF.out.trans (But.yhp (F:=fun j=>j=bl) fG) (fun _ _ h=>h);have MG:Hid (qt ax bl 0 ⟨⟨mp,ms,mf,mr⟩,d'⟩):=qt.below L8.out fG (qt.lb L8.out);clear q0' q1' q2' q3' k2' Eo Ep fG lc L8 M8 CF H8;have RP:Hid (But (fun j=>DX j\/j=bl) w ax):=(iQ.out.mono (fun _ _ h=> .inl h)).trans CE.out (fun _ _ h=> .inr h);have HE:=ybg aa af ar ax ⟨_,_,_,dz.out.keep RP.out TH⟩
  go_wp2_with fail
  refine HE.mono ?_;rintro e ky ⟨rfl,nK,dZ⟩;have Ti:Hid (qP ky b Pg.Wk.off):=nK;have Ul:Hid (But (fun j=>j=bl\/j=b) WX ky):=(CE.out.mono (fun _ _ h=> .inl h)).trans dZ.but (fun _ _ h=> .inr h);have oG:Hid (Ch8 b 1 (fun j=>j=b\/j=bl\/xc bm g0 g1 vb j) w ky):=((Ch8.ylE (o:=1) RP.out hl TH).mono (G:=fun j=>j=b\/j=bl\/xc bm g0 g1 vb j) (fun _ _ h=>h.elim (fun h=> .inr (.inr (G8.out _ h))) (fun h=> .inr (.inl h)))).trans dZ (fun _ _ h=> .inl h);have Uz:Hid (qt ky bl 0 ⟨⟨mp,ms,mf,mr⟩,d'⟩):=MG.out.of fun p=>dZ.but.cell (a:=⟨bl,p,B⟩) (qt.lb MG.out) (fun e=>rR e.symm);have PD:Hid (ky.heap[w.heap.size]?=_):=(Ul.out.block _ (T.1 RX.out).1 (by rintro (h|h);omega;exact tQ h)).trans RX.out;clear nK dZ HE MG CE RP
  go_wp2_with fail
  repeat (
   refine Loose.zS (fun k hk=> ?_)
   go_simp
   (refine hk _ ?_;clear hk k))
  refine Loose.yhs ?_;intro GV uE;have CZ:Hid _:=Ti.out.of_block (uE.block b Ti.out.lb);have EH:Hid (But (fun j=>j=bl\/j=b) WX GV):=Ul.out.trans (But.yhp (F:=fun j=>j=bl\/j=b) uE) (fun _ _ h=>h);have CJ:Hid (Ch8 b 1 (fun j=>j=b\/j=bl\/xc bm g0 g1 vb j) w GV):=oG.out.trans (Ch8.yhp (F:=fun j=>j=b\/j=bl\/xc bm g0 g1 vb j) uE Ti.out.lb) (fun _ _ h=>h);have UA:Hid (qt GV bl 0 ⟨⟨mp,ms,mf,mr⟩,d'⟩):=qt.below Uz.out uE (qt.lb Uz.out);have Iz:Hid (GV.heap[w.heap.size]?=_):=(uE.block _ (T.1 PD.out).1).trans PD.out;obtain⟨⟨x0,x1,x2⟩,xf⟩:=yc3 Iz.out;have HF:Hid _:=yfj tQ (y _) ⟨CZ.out,CJ.out⟩ (I J aa) (I J af) (I J ar);have TD:=ybf (F:=fun j=>j=w.heap.size) (But.refl _ GV) w.heap.size (.inr rfl) (I J aa) (I J af) (I J ar);have Ma:Hid _:=UA.out.of fun p=>TD.cell (a:=⟨bl,p,B⟩) (qt.lb UA.out) (show ¬bl=w.heap.size by omega)
  have Mg:Hid _:=Bj.out.keep (EH.out.mono (G:=fun j=>j=bl\/j=b\/j=w.heap.size) (fun _ _ h=>h.elim .inl (fun h=> .inr (.inl h)))|>.trans TD (fun _ _ h=> .inr (.inr h))) (by
   rintro j hj (h|h|h)
   ·exact kV (h▸hj)
   ·exact sS (h▸hj)
   ·have:=iT.out.raw.lt hj;omega)
  clear TD uE
  go_wp2_with fail
  refine bodyPost_ret (v:=E #[H #[I J aa,I J af,I J ar],N P,I J 0]) ?_ rfl ⟨by rw[Db.out];rfl,HF.out.1,by rw[Mv.out];exact Mg.out,by rw[Db.out];exact Ma.out,HF.out.2⟩;simp[results,Tryz.results57,go_sem,x0,x1,x2]
theorem ydw {bm bl:Nat} {K:Pg.Wk} (ho:K.on=Q) (w:M) (h:qP w b K):
 Calls A 57 #[O (R ⟨b,0,B⟩),O (R ⟨bm,0,B⟩),I J root,O (R ⟨bl,0,B⟩)] w fun e w'=>e=D (E #[H #[I J 0,I J 0,I J 0],N Q,I J 9])/\Below w.heap.size w w':=by
 obtain⟨t,lv,x,h⟩:=h;have c1:=h.c1;have hl:=h.lb
 have Ho:b≠w.heap.size:=by omega
 rw[ho]at c1;clear h ho
 go_enter Tryz.func57,Tryz.ntmps57
 go_wp2_with fail
 refine bodyPost_ret (v:=E #[H #[I J 0,I J 0,I J 0],N Q,I J 9]) ?_ rfl ⟨rfl,zA (zR _) _⟩;simp[results,Tryz.results57,go_sem]
theorem yep {bm g0 g1 bl:Nat} {vb:Value} {S:Pg.Fs} {K:Pg.Wk} (ok:K.Ok) (w:M) (h:qP w b K) (hm:zj w bm g0 g1 vb S) (hL:qt w bl 0 ⟨⟨0,0,0,0⟩,Q⟩) (TB:∀p,w.frozen? ⟨bl,p,B⟩=Q) (sS:¬xc bm g0 g1 vb b) (kV:¬xc bm g0 g1 vb bl) (rR:b≠bl):
 Calls A 57 #[O (R ⟨b,0,B⟩),O (R ⟨bm,0,B⟩),I J root,O (R ⟨bl,0,B⟩)] w fun e w'=>yal w b bm g0 g1 bl vb S K (Pg.kOut S root K) e w':=by
 cases ho:K.on
 ·have e:Pg.kOut S root K= .code 9:=by simp[Pg.kOut,ho]
  rw[e];refine(ydw ho w h).mono ?_;rintro e w' ⟨rfl,hb⟩;exact yal.plain hm hL sS rR rfl ⟨rfl,rfl⟩ ⟨rfl,h.of_block (hb.block b h.lb),Ch8.yhp hb h.lb⟩
 ·obtain⟨t0,lv0,xw,h⟩:=h
  obtain⟨on,q,k,u,t,lv,x⟩:=K;simp only at ho;subst ho;obtain⟨e1,e2⟩:=h.at' rfl;simp only at e1 e2;subst e1 e2;have hq:=ok.page rfl;have rP:=ok.lv;simp only at hq rP;have pl:∀(out:Pg.Wo) (e:Ending) (w':M),out.fs S ⟨P,q,k,u,t0,lv,x⟩=S->((out.res ⟨P,q,k,u,t0,lv,x⟩).m=⟨0,0,0,0⟩/\(out.res ⟨P,q,k,u,t0,lv,x⟩).d=Q)->_->yal w b bm g0 g1 bl vb S ⟨P,q,k,u,t0,lv,x⟩ out e w':=fun out e w' hf h0 h=>yal.plain hm hL sS rR hf h0 h
  by_cases hx:x=0
  ·subst hx
   have Hu:=Pg.yk7 S root q k u t0 lv;rw[show Pg.kOut S root (Pg.Wk.at' q k u t0 lv 0)=Pg.kOut S root ⟨P,q,k,u,t0,lv,0⟩from rfl]at Hu;cases hh:S.has t0
   ·have lZ:Pg.yhx S t0 (Pg.ix q lv) lv=12:=by simp[Pg.yhx,hh]
    rw[lZ,if_pos (by decide)]at Hu;rw[Hu];exact(yaN hq rP w h hm hh).mono fun e w' h=>pl _ _ _ rfl ⟨rfl,rfl⟩ h
   ·cases he:Pg.rEn S t0 (Pg.ix q lv) lv with
    | mk et el er eu ed ef=>
    have small:=fun oc (hA:_) (hk:Pg.kOut S root ⟨P,q,k,u,t0,lv,0⟩=oc)=>hk▸ycz (root:=root) (oc:=oc) hq rP w h hm hL sS rR hh rfl he hA
    by_cases hc:Pg.yhx S t0 (Pg.ix q lv) lv=0
    ·rw[if_neg (by simpa using hc)]at Hu
     have Hw:=fun h=>Pg.yhR (S:=S) (t:=t0) (i:=Pg.ix q lv) (lv:=lv) h
     have nW:(Pg.rEn S t0 (Pg.ix q lv) lv).t=P->S.word t0.toNat (Pg.ix q lv)≠0:=fun ht e=>by
      rw[(Pg.yhZ (i:=Pg.ix q lv) (lv:=lv) hh).2,e]at ht;simp[Pg.En.of,Pg.yhF]at ht
     rw[he]at Hu Hw nW;simp only[Pg.En.on]at Hu Hw nW;cases et
     ·rw[if_pos rfl]at Hu
      exact small _ (.inr ⟨hc,.inl ⟨rfl,rfl⟩⟩) Hu
     ·rw[if_neg (by decide)]at Hu
      have nW:=nW rfl;cases el
      ·rw[if_pos rfl]at Hu
       obtain⟨m,uJ⟩:=Hw rfl
       have Pd:lv-1=m:=by omega
       rw[Pd]at Hu;exact small _ (.inr ⟨hc,.inr ⟨rfl,.inl ⟨rfl,m,by omega,by omega,rfl⟩⟩⟩) Hu
      ·rw[if_neg (by decide)]at Hu
       cases pM:Pg.may er k u
       ·rw[if_pos pM]at Hu
        exact small _ (.inr ⟨hc,.inr ⟨rfl,.inr ⟨rfl,.inl ⟨pM,rfl⟩⟩⟩⟩) Hu
       ·rw[if_neg (by simp[pM])]at Hu
        cases hr:(Pg.Wk.at' q k u t0 lv 0).ready ⟨P,P,er,eu,ed,ef⟩
        ·rw[if_pos hr]at Hu
         simp only[Pg.Wk.ready,Pg.Wk.at']at hr
         exact small _ (.inr ⟨hc,.inr ⟨rfl,.inr ⟨rfl,.inr ⟨pM,nW,by revert hr;cases eu<;>cases ed<;>simp,rfl⟩⟩⟩⟩) Hu
        ·rw[if_neg (by simp[hr])]at Hu
         rw[Hu];simp only[Pg.Wk.ready,Pg.Wk.at',ur]at hr;obtain⟨rfl,h2⟩:=hr;exact yaM hq rP w h hm hL TB sS kV rR pM hh hc he (by simp) (fun e=>by cases e) (.inl ⟨rfl,rfl,h2,rfl⟩)
    ·rw[if_pos hc]at Hu
     exact small _ (.inl ⟨by simpa using hc,rfl⟩) Hu
  ·obtain⟨_,_,Oh,hlf,pM,Cj⟩:=ok.leaf hx
   simp only at Oh hlf pM Cj;cases hh:S.has t0
   ·have e:Pg.kOut S root ⟨P,q,k,u,t0,lv,x⟩= .code 12:=by simp[Pg.kOut,hh]
    rw[e];exact(yaN hq rP w h hm hh).mono fun e w' h=>pl _ _ _ rfl ⟨rfl,rfl⟩ h
   ·by_cases hw:S.word t0.toNat (Pg.ix q lv)=x
    ·have e:Pg.kOut S root ⟨P,q,k,u,t0,lv,x⟩= .done (Pg.Wk.mark ⟨P,q,k,u,t0,lv,x⟩ (Pg.En.of x lv)) P:=Pg.yll hx hh hw
     rw[e];obtain⟨r1,r2⟩:=Pg.yhZ (i:=Pg.ix q lv) (lv:=lv) hh;rw[hw]at r1 r2;rw[Oh]at r1
     have ht:(Pg.En.of x lv).t=P:=by
      have:=(Pg.yhN hm.ok (t:=t0) (i:=Pg.ix q lv) (lv:=lv) (by rw[r2];exact hlf)).2.1
      rwa [r2]at this
     cases he:Pg.En.of x lv with
     | mk et el er eu ed ef=>
     rw[he]at r2 hlf pM Cj ht;simp only at hlf pM ht;subst hlf ht;simp only[Pg.Wk.ready]at Cj;simp only[Pg.Wk.mark];exact yaM hq rP w h hm hL TB sS kV rR pM hh r1 r2 (by simpa using hx) (fun _=>hw.trans (h.wd hx).symm) (.inr ⟨rfl,Cj,rfl⟩)
    ·have e:Pg.kOut S root ⟨P,q,k,u,t0,lv,x⟩= .go (Pg.Wk.again root ⟨P,q,k,u,t0,lv,x⟩):=by
      unfold Pg.kOut;rw[if_neg (by simp),if_neg (by simp[hh]),if_pos hx,if_neg (show ¬Pg.Wk.word S ⟨P,q,k,u,t0,lv,x⟩=x from hw)]
     rw[e];exact(ycy hq rP w h hm hh hx hw).mono fun e w' h=>pl _ _ _ rfl ⟨rfl,rfl⟩ h
end
structure jp (w:M) (b:Nat) (vb:Value) (C:Pg.Cr):Prop where
 co:vl w b vb C.L
 ck:qP w b C.K
 ok:C.K.Ok
theorem qP.fb {w:M} {b:Nat} {K:Pg.Wk} (h:qP w b K):∀p,w.frozen? ⟨b,p,B⟩=Q:=by
 obtain⟨t,lv,x,h⟩:=h;exact h.fb
theorem vl.walked {w w':M} {b:Nat} {vb:Value} {L:List Pg.Ln} {K:Pg.Wk} {G:Nat->Prop} (h:vl w b vb L) (hk:qP w' b K) (hc:Ch8 b 1 G w w') (hG:∀k,vb.ownBlock=R k->¬G k):vl w' b vb L:=
 ⟨(hc.oth 0 (.inl (by decide))).trans h.c0,hk.fb,h.row.but hc.but hG,h.nb,h.kept⟩
theorem qP.kept {w w':M} {b:Nat} {vb:Value} {L:List Pg.Ln} {K:Pg.Wk} {G:Nat->Prop} (h:qP w b K) (hk:vl w' b vb L) (hc:Chg b 0 G w w'):qP w' b K:=by
 obtain⟨t,lv,x,h⟩:=h;exact⟨t,lv,x,(hc.oth 1 (by decide)).trans h.c1,(hc.oth 2 (by decide)).trans h.c2,(hc.oth 3 (by decide)).trans h.c3,(hc.oth 4 (by decide)).trans h.c4,(hc.oth 5 (by decide)).trans h.c5,(hc.oth 6 (by decide)).trans h.c6,(hc.oth 7 (by decide)).trans h.c7,(hc.oth 8 (by decide)).trans h.c8,hk.fb,h.at',h.wd⟩
namespace jp
variable {w w':M} {b:Nat} {vb vb':Value} {C:Pg.Cr} {G:Nat->Prop}
theorem lb (h:jp w b vb C):b<w.heap.size:=h.co.lb
theorem lt (h:jp w b vb C) {k:Nat} (hk:bkF b vb k):k<w.heap.size:=h.co.lt hk
theorem keep (h:jp w b vb C) (hb:But G w w') (hG:∀k,bkF b vb k->¬G k):jp w' b vb C:=⟨h.co.keep hb hG,h.ck.of_block (hb.block b h.lb (hG b (.inl rfl))),h.ok⟩
theorem grow (h:jp w b vb C) (hb:Below w.heap.size w w'):jp w' b vb C:=h.keep (G:=fun _=>False) (But.yhp hb) (fun _ _=>id)
theorem ykl {K':Pg.Wk} (h:jp w b vb C) (hk:qP w' b K') (ok:K'.Ok) (hc:Ch8 b 1 G w w') (hG:∀k,vb.ownBlock=R k->¬G k):jp w' b vb ⟨C.L,K'⟩:=⟨h.co.walked hk hc hG,hk,ok⟩
theorem ylI {L':List Pg.Ln} (h:jp w b vb C) (hk:vl w' b vb' L') (hc:Chg b 0 G w w'):jp w' b vb' ⟨L',C.K⟩:=⟨hk,h.ck.kept hk hc,h.ok⟩
end jp
theorem xJ {w w1:M} (h:Below w.heap.size w w1) (r:Nat) (hr:w.heap.size<=r) (x0 x1 x2:Value):Below w.heap.size w (((w1.setCell ⟨r,0,B⟩ x0).setCell ⟨r,1,B⟩ x1).setCell ⟨r,2,B⟩ x2):=
 ((h.setCell (p:=⟨r,0,B⟩) hr x0).setCell (p:=⟨r,1,B⟩) hr x1).setCell (p:=⟨r,2,B⟩) hr x2
section
variable {b:Nat} {root:Int} {C:Pg.Cr} {vb:Value}
theorem ycB (q k:Int) (u:Bool) (hc:Pg.zK q k≠0) (w:M) (h:jp w b vb C):
 Calls A 56 #[O (R ⟨b,0,B⟩),I J root,H #[I J q,I J k,N u]] w fun e w'=>e=D (Pg.Tl.code (Pg.zK q k)).val/\Below w.heap.size w w':=by
 obtain⟨W,hW⟩:∃W,W=(w.alloc (Z #[I J q,I J k,N u] 41)).alloc (Z #[I J 0,I J 0,I J 0] 34):=⟨_,rfl⟩
 have rH:Below w.heap.size w W:=by rw[hW];exact zA (zA (zR w) _) _
 have A3:Hid (W.cell? ⟨w.heap.size,0,B⟩=R (I J q)/\W.cell? ⟨w.heap.size,1,B⟩=R (I J k)/\W.cell? ⟨w.heap.size,2,B⟩=R (N u)):=by rw[Hid,hW];simp[go_sem]
 have R3:Hid (W.heap[w.heap.size+1]?=R (Z #[I J 0,I J 0,I J 0] 34 (0,0))):=by
  rw[Hid,hW];exact(by simp:(w.alloc (Z #[I J q,I J k,N u] 41)).heap.size=w.heap.size+1)▸heap_alloc_new _ _
 have hl:=h.lb;have HW:Hid _:=h.grow rH;have tT:Hid _:=rH;have fE:=xj q k u W
 have Ho:b≠w.heap.size:=by omega
 have GN:w.heap.size≠b:=by omega
 have tQ:¬w.heap.size+1=b:=by omega
 have kZ:w.heap.size+1<W.heap.size:=by rw[hW];simp
 have HX:Hid _:=h
 have TM:(Pg.zK q k !=0)=P:=by simpa using hc
 generalize Pg.zK q k=c at*;simp only[Pg.Tl.code,Pg.Tl.val];clear h rH
 go_enter Tryz.func56,Tryz.ntmps56
 go_wp2_with fail
 rw[<-hW];refine fE.mono ?_;rintro e w1 ⟨rfl,Ha⟩;have P1:Hid _:=HW.out.grow Ha;have H9:Hid (Below w.heap.size w w1):=zT tT.out Ha;have R1:Hid (w1.heap[w.heap.size+1]?=R (Z #[I J 0,I J 0,I J 0] 34 (0,0))):=(Ha.block _ kZ).trans R3.out;have dn:w.heap.size+1<w1.heap.size:=Y kZ Ha.size;have A1:Hid _:=qc Ha A3.out;clear Ha fE HW tT A3 hW R3;obtain⟨⟨x0,x1,x2⟩,xf⟩:=yc3 R1.out
 go_wp2_with fail
 refine bodyPost_ret (v:=E #[H #[I J 0,I J 0,I J 0],N Q,I J c]) ?_ rfl ⟨rfl,xJ H9.out _ (kp _) _ _ _⟩;simp[results,Tryz.results56,go_sem,x0,x1,x2]
theorem ybI (q k:Int) (u:Bool) (hc:Pg.zK q k=0) (ho:C.K.on=P) (w:M) (h:jp w b vb C):
 Calls A 56 #[O (R ⟨b,0,B⟩),I J root,H #[I J q,I J k,N u]] w fun e w'=>e=D (Pg.Tl.code 8).val/\Below w.heap.size w w':=by
 obtain⟨W,hW⟩:∃W,W=(w.alloc (Z #[I J q,I J k,N u] 41)).alloc (Z #[I J 0,I J 0,I J 0] 34):=⟨_,rfl⟩
 have rH:Below w.heap.size w W:=by rw[hW];exact zA (zA (zR w) _) _
 have A3:Hid (W.cell? ⟨w.heap.size,0,B⟩=R (I J q)/\W.cell? ⟨w.heap.size,1,B⟩=R (I J k)/\W.cell? ⟨w.heap.size,2,B⟩=R (N u)):=by rw[Hid,hW];simp[go_sem]
 have R3:Hid (W.heap[w.heap.size+1]?=R (Z #[I J 0,I J 0,I J 0] 34 (0,0))):=by
  rw[Hid,hW];exact(by simp:(w.alloc (Z #[I J q,I J k,N u] 41)).heap.size=w.heap.size+1)▸heap_alloc_new _ _
 have hl:=h.lb;have HW:Hid _:=h.grow rH;have tT:Hid _:=rH;have fE:=xj q k u W
 have Ho:b≠w.heap.size:=by omega
 have GN:w.heap.size≠b:=by omega
 have tQ:¬w.heap.size+1=b:=by omega
 have kZ:w.heap.size+1<W.heap.size:=by rw[hW];simp
 have HX:Hid _:=h;rw[hc]at fE;simp only[Pg.Tl.code,Pg.Tl.val];clear h rH
 go_enter Tryz.func56,Tryz.ntmps56
 go_wp2_with fail
 rw[<-hW];refine fE.mono ?_;rintro e w1 ⟨rfl,Ha⟩;have P1:Hid _:=HW.out.grow Ha;have H9:Hid (Below w.heap.size w w1):=zT tT.out Ha;have R1:Hid (w1.heap[w.heap.size+1]?=R (Z #[I J 0,I J 0,I J 0] 34 (0,0))):=(Ha.block _ kZ).trans R3.out;have dn:w.heap.size+1<w1.heap.size:=Y kZ Ha.size;have A1:Hid _:=qc Ha A3.out;clear Ha fE HW tT A3 hW R3;obtain⟨⟨x0,x1,x2⟩,xf⟩:=yc3 R1.out;obtain⟨t8,GL,x8,sH⟩:=P1.out.ck;have c1:=sH.c1;rw[ho]at c1;clear sH ho hc
 go_wp2_with fail
 refine bodyPost_ret (v:=E #[H #[I J 0,I J 0,I J 0],N Q,I J 8]) ?_ rfl ⟨rfl,xJ H9.out _ (kp _) _ _ _⟩;simp[results,Tryz.results56,go_sem,x0,x1,x2]
theorem ybJ (q k:Int) (u:Bool) (hc:Pg.zK q k=0) (ho:C.K.on=Q) (hn:Pg.kFnd C.L q=B) (w:M) (h:jp w b vb C):
 Calls A 56 #[O (R ⟨b,0,B⟩),I J root,H #[I J q,I J k,N u]] w fun e w'=>e=D (Pg.Tl.code 0).val/\jp w' b vb ⟨C.L,Pg.Wk.start root q k u⟩/\But (fun j=>j=b) w w':=by
 obtain⟨W,hW⟩:∃W,W=(w.alloc (Z #[I J q,I J k,N u] 41)).alloc (Z #[I J 0,I J 0,I J 0] 34):=⟨_,rfl⟩
 have rH:Below w.heap.size w W:=by rw[hW];exact zA (zA (zR w) _) _
 have A3:Hid (W.cell? ⟨w.heap.size,0,B⟩=R (I J q)/\W.cell? ⟨w.heap.size,1,B⟩=R (I J k)/\W.cell? ⟨w.heap.size,2,B⟩=R (N u)):=by rw[Hid,hW];simp[go_sem]
 have R3:Hid (W.heap[w.heap.size+1]?=R (Z #[I J 0,I J 0,I J 0] 34 (0,0))):=by
  rw[Hid,hW];exact(by simp:(w.alloc (Z #[I J q,I J k,N u] 41)).heap.size=w.heap.size+1)▸heap_alloc_new _ _
 have hl:=h.lb;have HW:Hid _:=h.grow rH;have tT:Hid _:=rH;have fE:=xj q k u W
 have Ho:b≠w.heap.size:=by omega
 have GN:w.heap.size≠b:=by omega
 have tQ:¬w.heap.size+1=b:=by omega
 have kZ:w.heap.size+1<W.heap.size:=by rw[hW];simp
 have HX:Hid _:=h;have Bn:Hid _:=h.ok.idle ho;have lh:Hid _:=Pg.Wk.yiR (root:=root) (k:=k) (u:=u) (Pg.yhP hc);have HQ:Hid _:=Pg.yh0 hc;rw[hc]at fE
 have bR:Pg.yjc C.L q= -1:=by simp only[Pg.yjc,hn]
 simp only[Pg.Tl.code,Pg.Tl.val];clear h rH
 go_enter Tryz.func56,Tryz.ntmps56
 go_wp2_with fail
 rw[<-hW];refine fE.mono ?_;rintro e w1 ⟨rfl,Ha⟩;have P1:Hid _:=HW.out.grow Ha;have H9:Hid (Below w.heap.size w w1):=zT tT.out Ha;have R1:Hid (w1.heap[w.heap.size+1]?=R (Z #[I J 0,I J 0,I J 0] 34 (0,0))):=(Ha.block _ kZ).trans R3.out;have dn:w.heap.size+1<w1.heap.size:=Y kZ Ha.size;have A1:Hid _:=qc Ha A3.out;clear Ha fE HW tT A3 hW R3;obtain⟨z0,z1,z2⟩:=A1.out;obtain⟨t8,GL,x8,sH⟩:=P1.out.ck;have c1:=sH.c1;rw[ho]at c1;have oL:=jU q HQ.out w1 P1.out.co;rw[bR]at oL;clear sH bR ho hc
 go_wp2_with fail
 refine oL.mono ?_;rintro e w2 ⟨rfl,Hd⟩;have P2:Hid _:=P1.out.grow Hd;have Ht:Hid (Below w.heap.size w w2):=zT H9.out Hd;have R2:Hid (w2.heap[w.heap.size+1]?=R (Z #[I J 0,I J 0,I J 0] 34 (0,0))):=(Hd.block _ dn).trans R1.out;have tF:w.heap.size+1<w2.heap.size:=Y dn Hd.size;have A2:Hid _:=qc Hd A1.out;clear Hd oL P1 H9 R1 A1 dn z0 z1 z2 c1;obtain⟨t8,GL,x8,sH⟩:=P2.out.ck;rw[Bn.out]at sH;have HF:Hid _:=sH.begun q k u;have d1:=sH.c1;have d2:=sH.c2;have d3:=sH.c3;have d4:=sH.c4;have fb:=sH.fb;simp only[Pg.Wk.off]at d1 d2 d3 d4;obtain⟨z0,z1,z2⟩:=A2.out;have FT:=X _ _ z0;simp only at FT;clear sH
 go_wp2_with fail
 go_region
 have HA:=vD (root:=root) _ HF.out.1.drew
 go_wp2_with fail
 refine HA.mono ?_;rintro e w9 ⟨rfl,cB,dS⟩;have uw:Hid (Ch8 b 1 (fun j=>j=b) w w9):=(Ch8.yhp Ht.out hl).trans (HF.out.2.drew.trans dS (fun _ _ h=>h)) (fun _ _ h=>h);have R9:=((HF.out.2.drew.trans dS (fun _ _ h=>h)).but.block _ tF tQ).trans R2.out;obtain⟨⟨x0,x1,x2⟩,xf⟩:=yc3 R9;have dM:Hid _:=yfj tQ (kp _) ⟨cB,uw.out⟩ (I J 0) (I J 0) (I J 0);clear cB dS HA z0 z1 z2 d1 d2 d3 d4 fb R9
 go_wp2_with fail
 refine bodyPost_ret (v:=E #[H #[I J 0,I J 0,I J 0],N Q,I J 0]) ?_ rfl ⟨rfl,HX.out.ykl dM.out.1 lh.out dM.out.2 (fun k hk e=>HX.out.co.nb (e▸hk)),dM.out.2.but⟩;simp[results,Tryz.results56,go_sem,x0,x1,x2]
theorem ybh (q k:Int) (u:Bool) (hc:Pg.zK q k=0) (ho:C.K.on=Q) {j:Nat} (hn:Pg.kFnd C.L q=R j) (bC:(Pg.kAt C.L q).wants k u=P) (w:M) (h:jp w b vb C):
 Calls A 56 #[O (R ⟨b,0,B⟩),I J root,H #[I J q,I J k,N u]] w fun e w'=>e=D (Pg.Tl.code 0).val/\jp w' b vb ⟨C.L,Pg.Wk.start root q k u⟩/\But (fun j=>j=b) w w':=by
 obtain⟨W,hW⟩:∃W,W=(w.alloc (Z #[I J q,I J k,N u] 41)).alloc (Z #[I J 0,I J 0,I J 0] 34):=⟨_,rfl⟩
 have rH:Below w.heap.size w W:=by rw[hW];exact zA (zA (zR w) _) _
 have A3:Hid (W.cell? ⟨w.heap.size,0,B⟩=R (I J q)/\W.cell? ⟨w.heap.size,1,B⟩=R (I J k)/\W.cell? ⟨w.heap.size,2,B⟩=R (N u)):=by rw[Hid,hW];simp[go_sem]
 have R3:Hid (W.heap[w.heap.size+1]?=R (Z #[I J 0,I J 0,I J 0] 34 (0,0))):=by
  rw[Hid,hW];exact(by simp:(w.alloc (Z #[I J q,I J k,N u] 41)).heap.size=w.heap.size+1)▸heap_alloc_new _ _
 have hl:=h.lb;have HW:Hid _:=h.grow rH;have tT:Hid _:=rH;have fE:=xj q k u W
 have Ho:b≠w.heap.size:=by omega
 have GN:w.heap.size≠b:=by omega
 have tQ:¬w.heap.size+1=b:=by omega
 have kZ:w.heap.size+1<W.heap.size:=by rw[hW];simp
 have HX:Hid _:=h;have Bn:Hid _:=h.ok.idle ho;have lh:Hid _:=Pg.Wk.yiR (root:=root) (k:=k) (u:=u) (Pg.yhP hc);have HQ:Hid _:=Pg.yh0 hc;rw[hc]at fE
 have bR:Pg.yjc C.L q=(j:Int):=by simp only[Pg.yjc,hn]
 have Tu:Pg.kAt C.L q=C.L.getD j .zz:=by simp only[Pg.kAt,hn]
 obtain⟨hj,_,_⟩:=Pg.yi3 hn;have Hg:=h.co.kept.le
 have i0:(0:Int)<=(j:Int):=by omega
 have i1:(j:Int)<(C.L.length:Int):=by omega
 have i2:¬(j:Int)<0:=by omega
 obtain⟨ad,cap,rfl⟩:=h.co.row.form;obtain⟨g,og,rfl,_,_⟩:=zt h.co.row j hj;obtain⟨l,uX⟩:∃l,l=C.L.getD j .zz:=⟨_,rfl⟩;rw[<-uX]at Tu;rw[Tu]at bC;have lc:=fun w=>qR l.m.p l.m.s l.m.f l.m.r q k u w;obtain⟨⟨mp,ms,mf,mr⟩,ld⟩:=l;simp only at lc;have Tj:Hid _:=uX;clear Tu uX;simp only[Pg.Ln.wants,ur,beq_iff_eq,Bool.not_eq_true']at bC;obtain⟨sW,Pb,pM⟩:=bC
 have e1:Pg.aEnd mr k u=0:=by simp[Pg.aEnd,pM]
 rw[e1]at lc;obtain⟨ra,Gh⟩:∃ra:Int,ra=0:=⟨_,rfl⟩;rw[<-Gh]at lc;generalize Pg.yhY mp mf mr q k u=rf at*;generalize Pg.yhL mr k u=rr at*;clear e1 pM
 have tC:(k !=1)=Q:=by simp[sW]
 have hra2:(ra !=0)=Q:=by simp[Gh]
 have fB:Hid _:=sW;clear sW Gh;simp only[Pg.Tl.code,Pg.Tl.val];clear h rH
 go_enter Tryz.func56,Tryz.ntmps56
 go_wp2_with fail
 rw[<-hW];refine fE.mono ?_;rintro e w1 ⟨rfl,Ha⟩;have P1:Hid _:=HW.out.grow Ha;have H9:Hid (Below w.heap.size w w1):=zT tT.out Ha;have R1:Hid (w1.heap[w.heap.size+1]?=R (Z #[I J 0,I J 0,I J 0] 34 (0,0))):=(Ha.block _ kZ).trans R3.out;have dn:w.heap.size+1<w1.heap.size:=Y kZ Ha.size;have A1:Hid _:=qc Ha A3.out;clear Ha fE HW tT A3 hW R3;obtain⟨z0,z1,z2⟩:=A1.out;obtain⟨t8,GL,x8,sH⟩:=P1.out.ck;have c1:=sH.c1;rw[ho]at c1;have oL:=jU q HQ.out w1 P1.out.co;rw[bR]at oL;clear sH bR ho hc
 go_wp2_with fail
 refine oL.mono ?_;rintro e w2 ⟨rfl,Hd⟩;have P2:Hid _:=P1.out.grow Hd;have Ht:Hid (Below w.heap.size w w2):=zT H9.out Hd;have R2:Hid (w2.heap[w.heap.size+1]?=R (Z #[I J 0,I J 0,I J 0] 34 (0,0))):=(Hd.block _ dn).trans R1.out;have tF:w.heap.size+1<w2.heap.size:=Y dn Hd.size;have A2:Hid _:=qc Hd A1.out;clear Hd oL P1 H9 R1 A1 dn z0 z1 z2 c1
 have fO:Hid (qt w2 g (og+j*5) ⟨⟨mp,ms,mf,mr⟩,ld⟩):=by
  obtain⟨g',o',e,_,hm⟩:=zt P2.out.co.row j hj;cases e;rw[Hid,Tj.out];exact hm
 obtain⟨l0,l1,l2,l3,l4⟩:=fO.out;simp only at l0 l1 l2 l3 l4;obtain⟨z0,z1,z2⟩:=A2.out;have g0:=cell_regrown P2.out.co.c0;have g1:=cell_regrown l0;have g2:=cell_regrown l1;have g3:=cell_regrown l2;have g4:=cell_regrown l3;have g5:=cell_regrown z0;have g6:=cell_regrown z1;have g7:=cell_regrown z2;clear l0 l1 l2 l3 l4 z0 z1 z2
 go_wp2_with fail
 refine Loose.yhB 10 [] 11 (Z #[I J 0,I J 0,I J 0] 34) _ (by kernel_rfl) (by kernel_rfl) (by intro i o hi;cases hi) rfl rfl rfl (by intro a w;simp[go_sem]) (by intro d v c a w h;cases d<;>exact h) ?_
 simp only[kO,kh,ki,un]
 repeat (
  refine Loose.zS (fun k hk=> ?_)
  go_simp
  first
   | (refine hk _ ?_;clear hk k)
   | (apply Exists.intro
      refine⟨fun _=> ?_,hk _ ?_⟩
      (go_at_call 84;exact Loose.calls (lc _))
      clear hk k))
 refine Loose.yhs ?_;intro bl w3 He rR hX;obtain⟨⟨bW,bX,gQ⟩,fb⟩:=yc3 hX;have sG:bl<w3.heap.size:=(T.1 hX).1;obtain⟨W4,rF⟩:∃W4,W4=((w3.setCell ⟨bl,0,B⟩ (I J ra)).setCell ⟨bl,1,B⟩ (I J rf)).setCell ⟨bl,2,B⟩ (I J rr):=⟨_,rfl⟩
 have pE:Below w2.heap.size w2 W4:=by rw[rF];exact xJ He _ rR _ _ _
 have B4:Hid (W4.cell? ⟨bl,0,B⟩=R (I J ra)/\W4.cell? ⟨bl,1,B⟩=R (I J rf)/\W4.cell? ⟨bl,2,B⟩=R (I J rr)):=by
  rw[Hid,rF];simp[go_sem,bW,bX,gQ]
 have P4:Hid _:=P2.out.grow pE;have rM:Hid (Below w.heap.size w W4):=zT Ht.out pE;have R4:Hid (W4.heap[w.heap.size+1]?=R (Z #[I J 0,I J 0,I J 0] 34 (0,0))):=(pE.block _ tF).trans R2.out;have gq:w.heap.size+1<W4.heap.size:=Y tF pE.size;have A4:Hid _:=qc pE A2.out;have L4:Hid (qt W4 g (og+j*5) ⟨⟨mp,ms,mf,mr⟩,ld⟩):=fO.out.below pE fO.out.lb;clear He rR hX pE P2 Ht R2 A2 fO tF lc g0 g1 g2 g3 g4 g5 g6 g7
 go_upto_region 9 with fail
 rw[<-rF];clear rF bW bX gQ fb sG;obtain⟨y0,y1,y2⟩:=B4.out;obtain⟨z0,z1,z2⟩:=A4.out;have c0:=P4.out.co.c0;have l4:=L4.out.2.2.2.2;simp only at l4;subst Pb
 go_upto_region 11 with fail
 clear y0 y1 y2 z0 z1 z2 c0 l4;obtain⟨t8,GL,x8,sH⟩:=P4.out.ck;rw[Bn.out]at sH;have HF:Hid _:=sH.begun q k u;have d1:=sH.c1;have d2:=sH.c2;have d3:=sH.c3;have d4:=sH.c4;have fb:=sH.fb;simp only[Pg.Wk.off]at d1 d2 d3 d4;obtain⟨z0,z1,z2⟩:=A4.out;have FT:=X _ _ z0;simp only at FT;clear sH
 go_wp2_with fail
 go_region
 have HA:=vD (root:=root) _ HF.out.1.drew
 go_wp2_with fail
 refine HA.mono ?_;rintro e w9 ⟨rfl,cB,dS⟩;have uw:Hid (Ch8 b 1 (fun j=>j=b) w w9):=(Ch8.yhp rM.out hl).trans (HF.out.2.drew.trans dS (fun _ _ h=>h)) (fun _ _ h=>h);have R9:=((HF.out.2.drew.trans dS (fun _ _ h=>h)).but.block _ gq tQ).trans R4.out;obtain⟨⟨x0,x1,x2⟩,xf⟩:=yc3 R9;have dM:Hid _:=yfj tQ (kp _) ⟨cB,uw.out⟩ (I J 0) (I J 0) (I J 0);clear cB dS HA z0 z1 z2 d1 d2 d3 d4 fb R9
 go_wp2_with fail
 refine bodyPost_ret (v:=E #[H #[I J 0,I J 0,I J 0],N Q,I J 0]) ?_ rfl ⟨rfl,HX.out.ykl dM.out.1 lh.out dM.out.2 (fun k hk e=>HX.out.co.nb (e▸hk)),dM.out.2.but⟩;simp[results,Tryz.results56,go_sem,x0,x1,x2]
theorem ycC (q k:Int) (u:Bool) (hc:Pg.zK q k=0) (ho:C.K.on=Q) {j:Nat} (hn:Pg.kFnd C.L q=R j) (bC:(Pg.kAt C.L q).wants k u=Q) (w:M) (h:jp w b vb C):
 Calls A 56 #[O (R ⟨b,0,B⟩),I J root,H #[I J q,I J k,N u]] w fun e w'=>e=D ((Pg.kAt C.L q).ans q k u).val/\Below w.heap.size w w':=by
 obtain⟨W,hW⟩:∃W,W=(w.alloc (Z #[I J q,I J k,N u] 41)).alloc (Z #[I J 0,I J 0,I J 0] 34):=⟨_,rfl⟩
 have rH:Below w.heap.size w W:=by rw[hW];exact zA (zA (zR w) _) _
 have A3:Hid (W.cell? ⟨w.heap.size,0,B⟩=R (I J q)/\W.cell? ⟨w.heap.size,1,B⟩=R (I J k)/\W.cell? ⟨w.heap.size,2,B⟩=R (N u)):=by rw[Hid,hW];simp[go_sem]
 have R3:Hid (W.heap[w.heap.size+1]?=R (Z #[I J 0,I J 0,I J 0] 34 (0,0))):=by
  rw[Hid,hW];exact(by simp:(w.alloc (Z #[I J q,I J k,N u] 41)).heap.size=w.heap.size+1)▸heap_alloc_new _ _
 have hl:=h.lb;have HW:Hid _:=h.grow rH;have tT:Hid _:=rH;have fE:=xj q k u W
 have Ho:b≠w.heap.size:=by omega
 have GN:w.heap.size≠b:=by omega
 have tQ:¬w.heap.size+1=b:=by omega
 have kZ:w.heap.size+1<W.heap.size:=by rw[hW];simp
 have HX:Hid _:=h;have Bn:Hid _:=h.ok.idle ho;have lh:Hid _:=Pg.Wk.yiR (root:=root) (k:=k) (u:=u) (Pg.yhP hc);have HQ:Hid _:=Pg.yh0 hc;rw[hc]at fE
 have bR:Pg.yjc C.L q=(j:Int):=by simp only[Pg.yjc,hn]
 have Tu:Pg.kAt C.L q=C.L.getD j .zz:=by simp only[Pg.kAt,hn]
 obtain⟨hj,_,_⟩:=Pg.yi3 hn;have Hg:=h.co.kept.le
 have i0:(0:Int)<=(j:Int):=by omega
 have i1:(j:Int)<(C.L.length:Int):=by omega
 have i2:¬(j:Int)<0:=by omega
 obtain⟨ad,cap,rfl⟩:=h.co.row.form;obtain⟨g,og,rfl,_,_⟩:=zt h.co.row j hj;obtain⟨l,uX⟩:∃l,l=C.L.getD j .zz:=⟨_,rfl⟩;rw[<-uX]at Tu;rw[Tu]at bC ⊢;have lc:=fun w=>qR l.m.p l.m.s l.m.f l.m.r q k u w;obtain⟨⟨mp,ms,mf,mr⟩,ld⟩:=l;simp only at lc;have Tj:Hid _:=uX;clear Tu uX;simp only[Pg.Ln.ans,Pg.Tl.val]
 have dH:(Pg.aEnd mr k u !=0)=P\/((Pg.aEnd mr k u !=0)=Q/\(k !=1)=P)\/((Pg.aEnd mr k u !=0)=Q/\(k !=1)=Q/\ld=P):=by
  simp only[Pg.Ln.wants]at bC;unfold Pg.aEnd;cases hm:Pg.may mr k u
  ·exact .inl (by simp)
  ·rw[hm]at bC
   by_cases hk:k=1
   ·subst hk
    cases ld
    ·simp at bC
    ·exact .inr (.inr ⟨by simp,by simp,rfl⟩)
   ·exact .inr (.inl ⟨by simp,by simp[hk]⟩)
 clear bC;generalize Pg.aEnd mr k u=ra at*;generalize Pg.yhY mp mf mr q k u=rf at*;generalize Pg.yhL mr k u=rr at*;clear h rH
 go_enter Tryz.func56,Tryz.ntmps56
 go_wp2_with fail
 rw[<-hW];refine fE.mono ?_;rintro e w1 ⟨rfl,Ha⟩;have P1:Hid _:=HW.out.grow Ha;have H9:Hid (Below w.heap.size w w1):=zT tT.out Ha;have R1:Hid (w1.heap[w.heap.size+1]?=R (Z #[I J 0,I J 0,I J 0] 34 (0,0))):=(Ha.block _ kZ).trans R3.out;have dn:w.heap.size+1<w1.heap.size:=Y kZ Ha.size;have A1:Hid _:=qc Ha A3.out;clear Ha fE HW tT A3 hW R3;obtain⟨z0,z1,z2⟩:=A1.out;obtain⟨t8,GL,x8,sH⟩:=P1.out.ck;have c1:=sH.c1;rw[ho]at c1;have oL:=jU q HQ.out w1 P1.out.co;rw[bR]at oL;clear sH bR ho hc
 go_wp2_with fail
 refine oL.mono ?_;rintro e w2 ⟨rfl,Hd⟩;have P2:Hid _:=P1.out.grow Hd;have Ht:Hid (Below w.heap.size w w2):=zT H9.out Hd;have R2:Hid (w2.heap[w.heap.size+1]?=R (Z #[I J 0,I J 0,I J 0] 34 (0,0))):=(Hd.block _ dn).trans R1.out;have tF:w.heap.size+1<w2.heap.size:=Y dn Hd.size;have A2:Hid _:=qc Hd A1.out;clear Hd oL P1 H9 R1 A1 dn z0 z1 z2 c1
 have fO:Hid (qt w2 g (og+j*5) ⟨⟨mp,ms,mf,mr⟩,ld⟩):=by
  obtain⟨g',o',e,_,hm⟩:=zt P2.out.co.row j hj;cases e;rw[Hid,Tj.out];exact hm
 obtain⟨l0,l1,l2,l3,l4⟩:=fO.out;simp only at l0 l1 l2 l3 l4;obtain⟨z0,z1,z2⟩:=A2.out;have g0:=cell_regrown P2.out.co.c0;have g1:=cell_regrown l0;have g2:=cell_regrown l1;have g3:=cell_regrown l2;have g4:=cell_regrown l3;have g5:=cell_regrown z0;have g6:=cell_regrown z1;have g7:=cell_regrown z2;clear l0 l1 l2 l3 l4 z0 z1 z2
 go_wp2_with fail
 refine Loose.yhB 10 [] 11 (Z #[I J 0,I J 0,I J 0] 34) _ (by kernel_rfl) (by kernel_rfl) (by intro i o hi;cases hi) rfl rfl rfl (by intro a w;simp[go_sem]) (by intro d v c a w h;cases d<;>exact h) ?_
 simp only[kO,kh,ki,un]
 repeat (
  refine Loose.zS (fun k hk=> ?_)
  go_simp
  first
   | (refine hk _ ?_;clear hk k)
   | (apply Exists.intro
      refine⟨fun _=> ?_,hk _ ?_⟩
      (go_at_call 84;exact Loose.calls (lc _))
      clear hk k))
 refine Loose.yhs ?_;intro bl w3 He rR hX;obtain⟨⟨bW,bX,gQ⟩,fb⟩:=yc3 hX;have sG:bl<w3.heap.size:=(T.1 hX).1;obtain⟨W4,rF⟩:∃W4,W4=((w3.setCell ⟨bl,0,B⟩ (I J ra)).setCell ⟨bl,1,B⟩ (I J rf)).setCell ⟨bl,2,B⟩ (I J rr):=⟨_,rfl⟩
 have pE:Below w2.heap.size w2 W4:=by rw[rF];exact xJ He _ rR _ _ _
 have B4:Hid (W4.cell? ⟨bl,0,B⟩=R (I J ra)/\W4.cell? ⟨bl,1,B⟩=R (I J rf)/\W4.cell? ⟨bl,2,B⟩=R (I J rr)):=by
  rw[Hid,rF];simp[go_sem,bW,bX,gQ]
 have P4:Hid _:=P2.out.grow pE;have rM:Hid (Below w.heap.size w W4):=zT Ht.out pE;have R4:Hid (W4.heap[w.heap.size+1]?=R (Z #[I J 0,I J 0,I J 0] 34 (0,0))):=(pE.block _ tF).trans R2.out;have gq:w.heap.size+1<W4.heap.size:=Y tF pE.size;have A4:Hid _:=qc pE A2.out;have L4:Hid (qt W4 g (og+j*5) ⟨⟨mp,ms,mf,mr⟩,ld⟩):=fO.out.below pE fO.out.lb;clear He rR hX pE P2 Ht R2 A2 fO tF lc g0 g1 g2 g3 g4 g5 g6 g7
 go_upto_region 9 with fail
 rw[<-rF];clear rF bW bX gQ fb sG;obtain⟨y0,y1,y2⟩:=B4.out;obtain⟨z0,z1,z2⟩:=A4.out;have c0:=P4.out.co.c0;have l4:=L4.out.2.2.2.2;simp only at l4;obtain⟨⟨x0,x1,x2⟩,xf⟩:=yc3 R4.out;rcases dH with h1|⟨h1,h2⟩|⟨h1,h2,h3⟩
 ·go_wp2_with fail
  refine bodyPost_ret (v:=E #[H #[I J ra,I J rf,I J rr],N P,I J 0]) ?_ rfl ⟨rfl,xJ rM.out _ (kp _) _ _ _⟩;simp[results,Tryz.results56,go_sem,x0,x1,x2]
 ·go_wp2_with fail
  refine bodyPost_ret (v:=E #[H #[I J ra,I J rf,I J rr],N P,I J 0]) ?_ rfl ⟨rfl,xJ rM.out _ (kp _) _ _ _⟩;simp[results,Tryz.results56,go_sem,x0,x1,x2]
 ·subst h3
  go_wp2_with fail
  refine bodyPost_ret (v:=E #[H #[I J ra,I J rf,I J rr],N P,I J 0]) ?_ rfl ⟨rfl,xJ rM.out _ (kp _) _ _ _⟩;simp[results,Tryz.results56,go_sem,x0,x1,x2]
theorem ycA (q k:Int) (u:Bool) (w:M) (h:jp w b vb C):
 Calls A 56 #[O (R ⟨b,0,B⟩),I J root,H #[I J q,I J k,N u]] w fun e w'=>e=D (C.bgT q k u).val/\jp w' b vb (C.bgN root q k u)/\But (fun j=>j=b) w w':=by
 unfold Pg.Cr.bgT Pg.Cr.bgN
 by_cases hc:Pg.zK q k=0
 ·rw[if_neg (by simp[hc])]
  cases ho:C.K.on
  ·rw[if_neg (by simp)]
   unfold Pg.Cr.hit
   cases hn:Pg.kFnd C.L q with
   | none=>
     rw[if_neg (by simp),if_pos ⟨hc,rfl,by simp⟩];exact ybJ q k u hc ho hn w h
   | some j=>
     cases bC:(Pg.kAt C.L q).wants k u
     ·rw[if_pos (by simp),if_neg (by simp)]
      exact(ycC q k u hc ho hn bC w h).mono fun e w' ⟨he,hb⟩=>⟨he,h.grow hb,But.yhp hb⟩
     ·rw[if_neg (by simp),if_pos ⟨hc,rfl,by simp⟩]
      exact ybh q k u hc ho hn bC w h
  ·rw[if_pos rfl,if_neg (by simp)]
   exact(ybI q k u hc ho w h).mono fun e w' ⟨he,hb⟩=>⟨he,h.grow hb,But.yhp hb⟩
 ·rw[if_pos (by simpa using hc),if_neg (by simp[hc])]
  exact(ycB q k u hc w h).mono fun e w' ⟨he,hb⟩=>⟨he,h.grow hb,But.yhp hb⟩
end
end Go.Proofs.YtdphiompijbelaaGreat
