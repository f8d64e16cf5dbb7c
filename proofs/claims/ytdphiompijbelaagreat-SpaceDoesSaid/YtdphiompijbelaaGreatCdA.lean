import Derived.Test.YtdphiompijbelaaGreatWalkF
import Derived.Test.YtdphiompijbelaaGreatTlbKept
import Derived.Test.YtdphiompijbelaaGreatLooseD
set_option linter.all false
set_option maxRecDepth 100000
open List renaming take_succ_cons->kR,drop_succ_cons->kN,take_zero->kQ,drop_zero->kZ
open Int renaming toNat_natCast->kC,eq_ofNat_of_zero_le->kF
open Go.Proofs.Tryz renaming prog->kI
open Go.Ending renaming returned->z
open Go.RowKit.Below renaming heap_setCell->M
open Go.Obj renaming cells->O
open Go.World renaming cell?_of_block->Z,block_lt_of_cell?->H,frozen?->kO,cell?->kK
open Array renaming getElem?_eq_some_iff->Q
open Nat renaming lt_of_lt_of_le->V,le_refl->kS,le_succ->kY
open Go.RowKit renaming Hid->N
open Bool renaming true->R,false->U,and_eq_true->kU
open Go renaming cell_regrown->P,bodyPost_ret->E,cell_later->D,World->A,heap_alloc_new->kJ,Value->kT,Calls->kV
open Option renaming none->B,some->Y
open Go.IntKind renaming i64->J
open Go.Value renaming int->I,bool->T,pointer->X,tuple->y,agg->kP
set_option maxHeartbeats 8000000
namespace Go.Proofs.YtdphiompijbelaaGreat
open Go.RowKit Go.Sort
section
attribute [local go_sem] Loose.gent
section
variable {b:Nat} {root:Int}
theorem qA.of_block {w w':A} {K:Pg.Wk} (h:qA w b K) (hk:w'.heap[b]?=w.heap[b]?):qA w' b K:=by
 obtain⟨t,lv,x,h⟩:=h;exact⟨t,lv,x,h.of_block hk⟩
theorem qA.lb {w:A} {K:Pg.Wk} (h:qA w b K):b<w.heap.size:=by
 obtain⟨t,lv,x,h⟩:=h;exact h.lb
theorem ycg {w:A} {r:Nat} {v0 v1 v2:kT} {t:TypeId} (h:w.heap[r]?=Y (O #[v0,v1,v2] t (0,0))):
 (w.cell? ⟨r,0,B⟩=Y v0/\w.cell? ⟨r,1,B⟩=Y v1/\w.cell? ⟨r,2,B⟩=Y v2)/\∀i,w.frozen? ⟨r,i,B⟩=U:=
 ⟨by simp[kK,h],fun i=>by simp[kO,h]⟩
theorem yaC {F:Nat->Prop} {w w1:A} (h:But F w w1) (r:Nat) (hr:w.heap.size<=r\/F r) (x0 x1 x2:kT):But F w (((w1.setCell ⟨r,0,B⟩ x0).setCell ⟨r,1,B⟩ x1).setCell ⟨r,2,B⟩ x2):=
 ((h.setCell (a:=⟨r,0,B⟩) hr x0).setCell (a:=⟨r,1,B⟩) hr x1).setCell (a:=⟨r,2,B⟩) hr x2
theorem yej {K:Pg.Wk} {G:Nat->Prop} {w W:A} {r:Nat} (hr:¬r=b) (hw:w.heap.size<=r) (h:qA W b K/\Ch8 b 1 G w W) (v0 v1 v2:kT):
 qA (((W.setCell ⟨r,0,B⟩ v0).setCell ⟨r,1,B⟩ v1).setCell ⟨r,2,B⟩ v2) b K/\Ch8 b 1 G w (((W.setCell ⟨r,0,B⟩ v0).setCell ⟨r,1,B⟩ v1).setCell ⟨r,2,B⟩ v2):=by
 have hb:=yaC (F:=fun j=>j=r) (But.refl _ W) r (.inr rfl) v0 v1 v2;have hne:¬b=r:=fun e=>hr e.symm;have hl:=h.1.lb;refine⟨h.1.of_block (hb.block b hl hne),yaC h.2.but r (.inl hw) v0 v1 v2,fun p hp=> ?_⟩;exact(hb.cell (a:=⟨b,p,B⟩) hl hne).trans (h.2.oth p hp)
theorem yfF {K:Pg.Wk} {G:Nat->Prop} {w W W':A} (h:qA W b K/\Ch8 b 1 G w W) (hb:Below W.heap.size W W'):qA W' b K/\Ch8 b 1 G w W':=
 ⟨h.1.of_block (hb.block b h.1.lb),h.2.trans (Ch8.ygr (F:=G) hb h.1.lb) fun _ _ hi=>hi⟩
structure ye3 (w:A) (b:Nat) (q k:Int) (u:Bool) (t lv x:Int) (m:Bool):Prop where
 c1:w.cell? ⟨b,1,B⟩=Y (T R)
 c2:w.cell? ⟨b,2,B⟩=Y (I J q)
 c3:w.cell? ⟨b,3,B⟩=Y (I J k)
 c4:w.cell? ⟨b,4,B⟩=Y (T u)
 c5:w.cell? ⟨b,5,B⟩=Y (I J t)
 c6:w.cell? ⟨b,6,B⟩=Y (I J lv)
 c7:w.cell? ⟨b,7,B⟩=Y (T m)
 c8:w.cell? ⟨b,8,B⟩=Y (I .u64 x)
 fb:∀p,w.frozen? ⟨b,p,B⟩=U
theorem ye3.drew {W:A} {q k:Int} {u:Bool} {t lv x:Int} {m:Bool} (h:ye3 W b q k u t lv x m):ye3 W.drew b q k u t lv x m:=⟨h.c1,h.c2,h.c3,h.c4,h.c5,h.c6,h.c7,h.c8,h.fb⟩
theorem ye3.again {W:A} {q k:Int} {u:Bool} {t lv x:Int} {m:Bool} (h:ye3 W b q k u t lv x m):
 qA (((W.setCell ⟨b,5,B⟩ (I J root)).setCell ⟨b,6,B⟩ (I J 3)).setCell ⟨b,7,B⟩ (T U)) b (Pg.Wk.start root q k u)/\Ch8 b 1 (fun j=>j=b) W (((W.setCell ⟨b,5,B⟩ (I J root)).setCell ⟨b,6,B⟩ (I J 3)).setCell ⟨b,7,B⟩ (T U)):=by
 obtain⟨c1,c2,c3,c4,c5,c6,c7,c8,fb⟩:=h
 refine⟨⟨root,3,x,?_,?_,?_,?_,?_,?_,?_,?_,fun p=> ?_,fun _=>⟨rfl,rfl⟩,fun h=>absurd rfl h⟩,(((Ch8.refl b 1 (fun j=>j=b) W).set rfl 4 (by decide) _).set rfl 5 (by decide) _).set rfl 6 (by decide) _⟩<;>simp[go_sem,c1,c2,c3,c4,c5,c6,c7,c8,fb,Pg.Wk.start]
theorem vd {q k:Int} {u:Bool} {t lv x:Int} {m:Bool} (w:A) (h:ye3 w b q k u t lv x m):
 kV kI 102 #[X (Y ⟨b,0,B⟩),I J root] w fun e w'=>e=z (y #[])/\qA w' b (Pg.Wk.start root q k u)/\Ch8 b 1 (fun j=>j=b) w w':=by
 have HF:N _:=h.again (root:=root);have c1:=h.c1;have c5:=h.c5;have c6:=h.c6;have c7:=h.c7;have fb:=h.fb;clear h
 go_enter Tryz.func102,Tryz.ntmps102
 go_wp2_with fail
 go_end0
 exact⟨rfl,HF.out⟩
theorem yab {K:Pg.Wk} (w:A) (h:qA w b K):
 kV kI 102 #[X (Y ⟨b,0,B⟩),I J root] w fun e w'=>e=z (y #[])/\qA w' b (K.again root)/\Ch8 b 1 (fun j=>j=b) w w':=by
 obtain⟨t,lv,x,h⟩:=h;cases ho:K.on
 ·have e:K.again root=K:=by simp[Pg.Wk.again,ho]
  rw[e];have c1:=h.c1;rw[ho]at c1;have HF:N (qA w b K/\Ch8 b 1 (fun j=>j=b) w w):=⟨⟨_,_,_,h⟩,Ch8.refl _ _ _ _⟩;clear h ho e
  go_enter Tryz.func102,Tryz.ntmps102
  go_wp2_with fail
  go_end0
  exact⟨rfl,HF.out⟩
 ·have e:K.again root=Pg.Wk.start root K.q K.k K.u:=by simp[Pg.Wk.again,ho,Pg.Wk.start]
  rw[e];exact vd w ⟨by rw[h.c1,ho],h.c2,h.c3,h.c4,h.c5,h.c6,h.c7,h.c8,h.fb⟩
theorem jZ.ended {W:A} {K:Pg.Wk} {t lv x:Int} (h:jZ W b K t lv x):
 qA (((((W.setCell ⟨b,1,B⟩ (T U)).setCell ⟨b,2,B⟩ (I J 0)).setCell ⟨b,3,B⟩ (I J 0)).setCell ⟨b,4,B⟩ (T U)).setCell ⟨b,7,B⟩ (T U)) b Pg.Wk.off/\Ch8 b 1 (fun j=>j=b) W (((((W.setCell ⟨b,1,B⟩ (T U)).setCell ⟨b,2,B⟩ (I J 0)).setCell ⟨b,3,B⟩ (I J 0)).setCell ⟨b,4,B⟩ (T U)).setCell ⟨b,7,B⟩ (T U)):=by
 obtain⟨c1,c2,c3,c4,c5,c6,c7,c8,fb,_,_⟩:=h
 refine⟨⟨t,lv,x,?_,?_,?_,?_,?_,?_,?_,?_,fun p=> ?_,fun h=>(by cases h),fun h=>absurd rfl h⟩,(((((Ch8.refl b 1 (fun j=>j=b) W).set0 rfl _).set rfl 1 (by decide) _).set rfl 2 (by decide) _).set rfl 3 (by decide) _).set rfl 6 (by decide) _⟩<;>simp[go_sem,c1,c2,c3,c4,c5,c6,c7,c8,fb,Pg.Wk.off]
theorem yaD {K:Pg.Wk} (a f r:Int) (w:A) (h:qA w b K):
 kV kI 106 #[X (Y ⟨b,0,B⟩),kP #[I J a,I J f,I J r]] w fun e w'=>e=z (y #[kP #[I J a,I J f,I J r],T R,I J 0])/\qA w' b Pg.Wk.off/\Ch8 b 1 (fun j=>j=b) w w':=by
 obtain⟨t,lv,x,h⟩:=h;have HF:=h.ended;have c1:=h.c1;have c2:=h.c2;have c3:=h.c3;have c4:=h.c4;have c7:=h.c7;have fb:=h.fb;have hl:=h.lb
 have hl1:b<w.heap.size+1:=by omega
 have n0:b≠w.heap.size:=by omega
 have n1:b≠w.heap.size+1:=by omega
 have m0:w.heap.size≠b:=by omega
 have m1:w.heap.size+1≠b:=by omega
 have HF':N _:=HF;clear h HF
 go_enter Tryz.func106,Tryz.ntmps106
 go_wp2_with fail
 refine E (v:=y #[kP #[I J a,I J f,I J r],T R,I J 0]) ?_ rfl ⟨rfl,yfF HF'.out (zA (zA (zR _) _) _)⟩;simp[results,Tryz.results106,go_sem]
theorem jZ.begun {W:A} {t lv x:Int} (h:jZ W b Pg.Wk.off t lv x) (q k:Int) (u:Bool):
 ye3 ((((W.setCell ⟨b,1,B⟩ (T R)).setCell ⟨b,2,B⟩ (I J q)).setCell ⟨b,3,B⟩ (I J k)).setCell ⟨b,4,B⟩ (T u)) b q k u t lv x U/\Ch8 b 1 (fun j=>j=b) W ((((W.setCell ⟨b,1,B⟩ (T R)).setCell ⟨b,2,B⟩ (I J q)).setCell ⟨b,3,B⟩ (I J k)).setCell ⟨b,4,B⟩ (T u)):=by
 obtain⟨c1,c2,c3,c4,c5,c6,c7,c8,fb,_,_⟩:=h
 refine⟨⟨?_,?_,?_,?_,?_,?_,?_,?_,fun p=> ?_⟩,((((Ch8.refl b 1 (fun j=>j=b) W).set0 rfl _).set rfl 1 (by decide) _).set rfl 2 (by decide) _).set rfl 3 (by decide) _⟩<;>simp[go_sem,c1,c2,c3,c4,c5,c6,c7,c8,fb,Pg.Wk.off]
theorem ye5 (S:Pg.Fs) (t q:Int) (lv:Nat):S.at' t (Pg.ix q lv:Nat)=S.has t:=by
 have:=Pg.yhs q lv;unfold Pg.Fs.at';cases S.has t
 ·rfl
 ·simp;omega
theorem ydd {w w':A} {e:Nat} {v0 v1 v2 v3 v4 v5:kT} (hk:w'.heap[e]?=w.heap[e]?) (h:w.cell? ⟨e,0,B⟩=Y v0/\w.cell? ⟨e,1,B⟩=Y v1/\w.cell? ⟨e,2,B⟩=Y v2/\w.cell? ⟨e,3,B⟩=Y v3/\w.cell? ⟨e,4,B⟩=Y v4/\w.cell? ⟨e,5,B⟩=Y v5):
 w'.cell? ⟨e,0,B⟩=Y v0/\w'.cell? ⟨e,1,B⟩=Y v1/\w'.cell? ⟨e,2,B⟩=Y v2/\w'.cell? ⟨e,3,B⟩=Y v3/\w'.cell? ⟨e,4,B⟩=Y v4/\w'.cell? ⟨e,5,B⟩=Y v5:=
 ⟨(Z hk).trans h.1,(Z hk).trans h.2.1,(Z hk).trans h.2.2.1,(Z hk).trans h.2.2.2.1,(Z hk).trans h.2.2.2.2.1,(Z hk).trans h.2.2.2.2.2⟩
theorem qi.lb {w:A} {g o:Nat} {l:Pg.Ln} (h:qi w g o l):g<w.heap.size:=H _ _ h.1
theorem jZ.low {W:A} {q k:Int} {u:Bool} {t:Int} {lv:Nat} {xw:Int} (h:jZ W b ⟨R,q,k,u,t,lv,0⟩ t (lv:Int) xw) (t':Int) (m:Nat):
 qA ((W.setCell ⟨b,5,B⟩ (I J t')).setCell ⟨b,6,B⟩ (I J (m:Int))) b ⟨R,q,k,u,t',m,0⟩/\Ch8 b 1 (fun j=>j=b) W ((W.setCell ⟨b,5,B⟩ (I J t')).setCell ⟨b,6,B⟩ (I J (m:Int))):=by
 obtain⟨c1,c2,c3,c4,c5,c6,c7,c8,fb,_,_⟩:=h
 refine⟨⟨t',(m:Int),xw,?_,?_,?_,?_,?_,?_,?_,?_,fun p=> ?_,fun _=>⟨rfl,rfl⟩,fun h=>absurd rfl h⟩,((Ch8.refl b 1 (fun j=>j=b) W).set rfl 4 (by decide) _).set rfl 5 (by decide) _⟩<;>simp[go_sem,c1,c2,c3,c4,c5,c6,c7,c8,fb]
theorem jZ.wait {W:A} {q k:Int} {u:Bool} {t:Int} {lv:Nat} {xw:Int} (h:jZ W b ⟨R,q,k,u,t,lv,0⟩ t (lv:Int) xw) (x':Int) (hx:x'≠0):
 qA ((W.setCell ⟨b,7,B⟩ (T R)).setCell ⟨b,8,B⟩ (I .u64 x')) b ⟨R,q,k,u,t,lv,x'⟩/\Ch8 b 1 (fun j=>j=b) W ((W.setCell ⟨b,7,B⟩ (T R)).setCell ⟨b,8,B⟩ (I .u64 x')):=by
 obtain⟨c1,c2,c3,c4,c5,c6,c7,c8,fb,_,_⟩:=h
 refine⟨⟨t,(lv:Int),x',?_,?_,?_,?_,?_,?_,?_,?_,fun p=> ?_,fun _=>⟨rfl,rfl⟩,fun _=>rfl⟩,((Ch8.refl b 1 (fun j=>j=b) W).set rfl 6 (by decide) _).set rfl 7 (by decide) _⟩<;>simp[go_sem,c1,c2,c3,c4,c5,c6,c7,c8,fb,hx]
theorem yad {bm g0 g1 bl:Nat} {vb:kT} {S:Pg.Fs} {q k:Int} {u:Bool} {t:Int} {lv:Nat} {xw:Int} {x:Int} (hq:Pg.below q 4096=R) (hlv:lv<4) (w:A) (h:jZ w b ⟨R,q,k,u,t,lv,x⟩ t (lv:Int) xw) (hm:zg w bm g0 g1 vb S) (hh:S.has t=U):
 kV kI 57 #[X (Y ⟨b,0,B⟩),X (Y ⟨bm,0,B⟩),I J root,X (Y ⟨bl,0,B⟩)] w fun e w'=>e=z (y #[kP #[I J (Pg.Wo.res ⟨R,q,k,u,t,lv,x⟩ (.code 12)).a,I J (Pg.Wo.res ⟨R,q,k,u,t,lv,x⟩ (.code 12)).f,I J (Pg.Wo.res ⟨R,q,k,u,t,lv,x⟩ (.code 12)).r],T (Pg.Wo.res ⟨R,q,k,u,t,lv,x⟩ (.code 12)).ended,I J (Pg.Wo.cd (.code 12))])/\qA w' b (Pg.Wo.next ⟨R,q,k,u,t,lv,x⟩ (.code 12))/\Ch8 b 1 (fun j=>j=b) w w':=by
 obtain⟨W,hW⟩:∃W,W=w.alloc (O #[I J 0,I J 0,I J 0] 34):=⟨_,rfl⟩
 have hBW:Below w.heap.size w W:=by rw[hW];exact zA (zR w) _
 have hl:=h.lb;have HKw:N _:=h;have HMw:N _:=hm;have HBW:N _:=hBW;have HKW:=h.grow hBW;have HMW:=hm.keep (F:=fun _=>False) (But.ygr hBW) (fun _ _=>id)
 have R0:N (W.heap[w.heap.size]?=Y (O #[I J 0,I J 0,I J 0] 34 (0,0))):=by rw[hW];exact kJ _ _
 have hrb:¬w.heap.size=b:=by omega
 have hne:b≠w.heap.size:=by omega
 have hlW:w.heap.size<W.heap.size:=(Q.1 R0.out).1;have HT:=zy t W HMW;rw[hh]at HT;have k1:=h.c1;have k5:=h.c5;simp only at k1 k5;simp only[Pg.Wo.res,Pg.Wo.cd,Pg.Wo.next,Pg.Rs.zero];clear h hm hBW HKW HMW
 go_enter Tryz.func57,Tryz.ntmps57
 go_wp2_with fail
 rw[<-hW];refine HT.mono ?_;rintro e w1 ⟨rfl,hw⟩;subst w1;clear hW;obtain⟨⟨x0,x1,x2⟩,xf⟩:=ycg R0.out;have HF:N _:=yej hrb (kS _) ⟨⟨_,_,_,HKw.out.grow HBW.out⟩,Ch8.ygr (F:=fun j=>j=b) HBW.out hl⟩ (I J 0) (I J 0) (I J 0)
 go_wp2_with fail
 refine E (v:=y #[kP #[I J 0,I J 0,I J 0],T U,I J 12]) ?_ rfl ⟨rfl,HF.out⟩;simp[results,Tryz.results57,go_sem,x0,x1,x2]
theorem ybN {bm g0 g1 bl:Nat} {vb:kT} {S:Pg.Fs} {q k:Int} {u:Bool} {t:Int} {lv:Nat} {xw:Int} {x:Int} (hq:Pg.below q 4096=R) (hlv:lv<4) (w:A) (h:jZ w b ⟨R,q,k,u,t,lv,x⟩ t (lv:Int) xw) (hm:zg w bm g0 g1 vb S) (hh:S.has t=R) (hx:x≠0) (hwd:S.word t.toNat (Pg.ix q lv)≠x):
 kV kI 57 #[X (Y ⟨b,0,B⟩),X (Y ⟨bm,0,B⟩),I J root,X (Y ⟨bl,0,B⟩)] w fun e w'=>e=z (y #[kP #[I J (Pg.Wo.res ⟨R,q,k,u,t,lv,x⟩ (.go (Pg.Wk.again root ⟨R,q,k,u,t,lv,x⟩))).a,I J (Pg.Wo.res ⟨R,q,k,u,t,lv,x⟩ (.go (Pg.Wk.again root ⟨R,q,k,u,t,lv,x⟩))).f,I J (Pg.Wo.res ⟨R,q,k,u,t,lv,x⟩ (.go (Pg.Wk.again root ⟨R,q,k,u,t,lv,x⟩))).r],T (Pg.Wo.res ⟨R,q,k,u,t,lv,x⟩ (.go (Pg.Wk.again root ⟨R,q,k,u,t,lv,x⟩))).ended,I J (Pg.Wo.cd (.go (Pg.Wk.again root ⟨R,q,k,u,t,lv,x⟩)))])/\qA w' b (Pg.Wo.next ⟨R,q,k,u,t,lv,x⟩ (.go (Pg.Wk.again root ⟨R,q,k,u,t,lv,x⟩)))/\Ch8 b 1 (fun j=>j=b) w w':=by
 obtain⟨W,hW⟩:∃W,W=w.alloc (O #[I J 0,I J 0,I J 0] 34):=⟨_,rfl⟩
 have hBW:Below w.heap.size w W:=by rw[hW];exact zA (zR w) _
 have hl:=h.lb;have HKw:N _:=h;have HMw:N _:=hm;have HBW:N _:=hBW;have HKW:=h.grow hBW;have HMW:=hm.keep (F:=fun _=>False) (But.ygr hBW) (fun _ _=>id)
 have R0:N (W.heap[w.heap.size]?=Y (O #[I J 0,I J 0,I J 0] 34 (0,0))):=by rw[hW];exact kJ _ _
 have hrb:¬w.heap.size=b:=by omega
 have hne:b≠w.heap.size:=by omega
 have hlW:w.heap.size<W.heap.size:=(Q.1 R0.out).1;have HT:=zy t W HMW;rw[hh]at HT;have k1:=h.c1;have k5:=h.c5;simp only at k1 k5;obtain⟨tn,rfl⟩:=kF (hm.ok.ygG hh).1
 have htn:tn<S.n:=by have:=(hm.ok.ygG hh).2.1;omega
 have hixl:=Pg.yhs q lv;have HIx:=zG q (lv:Int);rw[Pg.ygA hq hlv]at HIx;have M0:=P HMW.raw.c0;have MW:=P (HMW.raw.cw tn (Pg.ix q lv) htn hixl);have K2:=P HKW.c2;have K5:=P HKW.c5;have K6:=P HKW.c6;simp only at K2 K5 K6;simp only[kC]at hwd;generalize S.word tn (Pg.ix q lv)=wd at*;generalize hixx:Pg.ix q lv=ixn at*;have HIXX:N _:=hixx
 have i0:(0:Int)<=(tn:Int):=by omega
 have i1:(tn:Int)<(S.n:Int):=by omega
 have i2:(0:Int)<=(ixn:Int):=by omega
 have i3:(ixn:Int)<8:=by omega
 clear h hm hBW HKW HMW hixx;simp only[Pg.Wo.res,Pg.Wo.cd,Pg.Wo.next,Pg.Rs.zero,Pg.Wo.ended]
 go_enter Tryz.func57,Tryz.ntmps57
 go_wp2_with fail
 rw[<-hW];refine HT.mono ?_;rintro e w1 ⟨rfl,hw⟩;subst w1;clear hW;clear HT k1 k5
 go_wp2_with fail
 refine wp_region_quiet_below (by kernel_rfl) (by kernel_rfl) ?_
 repeat (first
  | go_big_quiet_step ((go_at_call 104;exact Calls.regrown_of (HIx _))))
 refine wpQuiet_nil ?_;intro _ hw';obtain⟨⟨dq,osq⟩,rfl⟩:=hw';have hb2:=below_regrown W dq osq;have HB2:N (Below w.heap.size w (grow (redrawn W dq) osq)):=zT HBW.out hb2;have R2:N ((grow (redrawn W dq) osq).heap[w.heap.size]?=_):=(hb2.block _ hlW).trans R0.out;clear hb2 HIx M0 MW K2 K5 K6 R0 HBW hlW;generalize grow (redrawn W dq) osq=w2 at*;have hk2:=HKw.out.grow HB2.out;have y7:=hk2.c7;have y8:=hk2.c8;have y6:=hk2.c6
 have hxd:decide (x≠0)=R:=by simpa using hx
 simp only[hxd]at y6 y7 y8;have hxw:=HKw.out.wd hx;simp only at hxw;subst hxw
 have hwn:(wd !=xw)=R:=by simpa using hwd
 clear hwd hxd hx;have hr2:w.heap.size<w2.heap.size:=(Q.1 R2.out).1;have hl2:b<w2.heap.size:=hk2.lb;clear hk2;have HA:=yab (root:=root) w2 ⟨_,_,_,HKw.out.grow HB2.out⟩
 go_wp2_with fail
 refine HA.mono ?_;rintro e w3 ⟨rfl,hk3,hc3⟩;have HC3:N (Ch8 b 1 (fun j=>j=b) w w3):=(Ch8.ygr HB2.out hl).trans hc3 (fun _ _ h=>h);have R3:N (w3.heap[w.heap.size]?=_):=(hc3.but.block _ hr2 hrb).trans R2.out;obtain⟨⟨x0,x1,x2⟩,xf⟩:=ycg R3.out;have HF:N _:=yej hrb (kS _) ⟨hk3,HC3.out⟩ (I J 0) (I J 0) (I J 0);clear hk3 hc3 HA
 go_wp2_with fail
 refine E (v:=y #[kP #[I J 0,I J 0,I J 0],T U,I J 0]) ?_ rfl ⟨rfl,HF.out⟩;simp[results,Tryz.results57,go_sem,x0,x1,x2]
end
section
variable {b:Nat} {root:Int}
structure vL (w:A) (b bm g0 g1 bl:Nat) (vb:kT) (S:Pg.Fs) (K:Pg.Wk) (out:Pg.Wo) (e:Ending) (w':A):Prop where
 end':e=z (y #[kP #[I J (out.res K).a,I J (out.res K).f,I J (out.res K).r],T (out.res K).ended,I J out.cd])
 at':qA w' b (out.next K)
 mem:zg w' bm g0 g1 vb (out.fs S K)
 ln:qi w' bl 0 ⟨(out.res K).m,(out.res K).d⟩
 chg:Ch8 b 1 (fun j=>j=b\/j=bl\/zN bm g0 g1 vb j) w w'
theorem vL.plain {w w':A} {bm g0 g1 bl:Nat} {vb:kT} {S:Pg.Fs} {K:Pg.Wk} {out:Pg.Wo} {e:Ending} (hm:zg w bm g0 g1 vb S) (hL:qi w bl 0 ⟨⟨0,0,0,0⟩,U⟩) (hbm:¬zN bm g0 g1 vb b) (hbl:b≠bl)
 (hf:out.fs S K=S) (h0:(out.res K).m=⟨0,0,0,0⟩/\(out.res K).d=U)
 (h:e=z (y #[kP #[I J (out.res K).a,I J (out.res K).f,I J (out.res K).r],T (out.res K).ended,I J out.cd])/\qA w' b (out.next K)/\Ch8 b 1 (fun j=>j=b) w w'):vL w b bm g0 g1 bl vb S K out e w':=by
 obtain⟨h1,h2,h3⟩:=h;refine⟨h1,h2,?_,?_,h3.mono (fun _ _ h=> .inl h)⟩
 ·rw[hf]
  exact hm.keep h3.but (fun j hj e=>hbm (e▸hj))
 ·rw[h0.1,h0.2]
  exact hL.of fun p=>h3.but.cell (a:=⟨bl,p,B⟩) hL.lb (fun e=>hbl e.symm)
theorem ybO {bm g0 g1 bl:Nat} {vb:kT} {S:Pg.Fs} {q k:Int} {u:Bool} {t:Int} {lv:Nat} {xw rc:Int} {et el:Bool} {er:Int} {eu ed:Bool} {ef:Int} {oc:Pg.Wo} (hq:Pg.below q 4096=R) (hlv:lv<4) (w:A) (h:jZ w b ⟨R,q,k,u,t,lv,0⟩ t (lv:Int) xw) (hm:zg w bm g0 g1 vb S) (hL:qi w bl 0 ⟨⟨0,0,0,0⟩,U⟩) (hbm:¬zN bm g0 g1 vb b) (hbl:b≠bl) (hh:S.has t=R) (hc:Pg.ygy S t (Pg.ix q lv) lv=rc) (he:Pg.rEn S t (Pg.ix q lv) lv=⟨et,el,er,eu,ed,ef⟩)
 (hA:((rc !=0)=R/\oc= .code rc)\/(rc=0/\((et=U/\oc= .stop 1)\/(et=R/\((el=U/\∃m:Nat,(lv:Int)-1=(m:Int)/\(1:Int)<=(lv:Int)/\oc= .go ⟨R,q,k,u,ef,m,0⟩)\/(el=R/\((Pg.may er k u=U/\oc= .stop 2)\/(Pg.may er k u=R/\S.word t.toNat (Pg.ix q lv)≠0/\(eu=U\/(eu=R/\ed=U/\(k !=1)=U))/\oc= .go ⟨R,q,k,u,t,lv,S.word t.toNat (Pg.ix q lv)⟩)))))))):
 kV kI 57 #[X (Y ⟨b,0,B⟩),X (Y ⟨bm,0,B⟩),I J root,X (Y ⟨bl,0,B⟩)] w fun e w'=>vL w b bm g0 g1 bl vb S ⟨R,q,k,u,t,lv,0⟩ oc e w':=by
 have HMay:=fun W'=>j7 er q k u W';generalize Pg.may er k u=mv at*;have PL:N (∀{out:Pg.Wo} {e:Ending} {w':A},out.fs S ⟨R,q,k,u,t,lv,0⟩=S->((out.res ⟨R,q,k,u,t,lv,0⟩).m=⟨0,0,0,0⟩/\(out.res ⟨R,q,k,u,t,lv,0⟩).d=U)->(e=z (y #[kP #[I J (out.res ⟨R,q,k,u,t,lv,0⟩).a,I J (out.res ⟨R,q,k,u,t,lv,0⟩).f,I J (out.res ⟨R,q,k,u,t,lv,0⟩).r],T (out.res ⟨R,q,k,u,t,lv,0⟩).ended,I J out.cd])/\qA w' b (out.next ⟨R,q,k,u,t,lv,0⟩)/\Ch8 b 1 (fun j=>j=b) w w')->vL w b bm g0 g1 bl vb S ⟨R,q,k,u,t,lv,0⟩ out e w'):=fun a1 a2 a3=>vL.plain hm hL hbm hbl a1 a2 a3;obtain⟨W,hW⟩:∃W,W=w.alloc (O #[I J 0,I J 0,I J 0] 34):=⟨_,rfl⟩
 have hBW:Below w.heap.size w W:=by rw[hW];exact zA (zR w) _
 have hl:=h.lb;have HKw:N _:=h;have HMw:N _:=hm;have HBW:N _:=hBW;have HKW:=h.grow hBW;have HMW:=hm.keep (F:=fun _=>False) (But.ygr hBW) (fun _ _=>id)
 have R0:N (W.heap[w.heap.size]?=Y (O #[I J 0,I J 0,I J 0] 34 (0,0))):=by rw[hW];exact kJ _ _
 have hrb:¬w.heap.size=b:=by omega
 have hne:b≠w.heap.size:=by omega
 have hlW:w.heap.size<W.heap.size:=(Q.1 R0.out).1;have HT:=zy t W HMW;rw[hh]at HT;have k1:=h.c1;have k5:=h.c5;simp only at k1 k5;obtain⟨tn,rfl⟩:=kF (hm.ok.ygG hh).1
 have htn:tn<S.n:=by have:=(hm.ok.ygG hh).2.1;omega
 have hixl:=Pg.yhs q lv;have HIx:=zG q (lv:Int);rw[Pg.ygA hq hlv]at HIx;have M0:=P HMW.raw.c0;have MW:=P (HMW.raw.cw tn (Pg.ix q lv) htn hixl);have K2:=P HKW.c2;have K5:=P HKW.c5;have K6:=P HKW.c6;simp only at K2 K5 K6;have hwl:=hm.ok.low tn (Pg.ix q lv);have hwh:=hm.ok.high tn (Pg.ix q lv);obtain⟨e1,e2⟩:=Pg.yha (i:=Pg.ix q lv) (lv:=lv) hh;simp only[kC]at e1 e2;have HEO:=fun W'=>qr (S.word tn (Pg.ix q lv)) (lv:Int) hwl hwh W';rw[Pg.yhd,<-e1,<-e2,hc,he]at HEO;simp only[Pg.En.val]at HEO;clear hwl hwh e1 e2 hc he;simp only[kC]at hA;generalize S.word tn (Pg.ix q lv)=wd at*;generalize hixx:Pg.ix q lv=ixn at*;have HIXX:N _:=hixx
 have i0:(0:Int)<=(tn:Int):=by omega
 have i1:(tn:Int)<(S.n:Int):=by omega
 have i2:(0:Int)<=(ixn:Int):=by omega
 have i3:(ixn:Int)<8:=by omega
 have HA:N _:=hA;clear h hm hBW HKW HMW hixx hA
 go_enter Tryz.func57,Tryz.ntmps57
 go_wp2_with fail
 rw[<-hW];refine HT.mono ?_;rintro e w1 ⟨rfl,hw⟩;subst w1;clear hW;clear HT k1 k5
 go_wp2_with fail
 refine wp_region_quiet_below (by kernel_rfl) (by kernel_rfl) ?_
 repeat (first
  | go_big_quiet_step ((go_at_call 104;exact Calls.regrown_of (HIx _))))
 refine wpQuiet_nil ?_;intro _ hw';obtain⟨⟨dq,osq⟩,rfl⟩:=hw';have hb2:=below_regrown W dq osq;have HB2:N (Below w.heap.size w (grow (redrawn W dq) osq)):=zT HBW.out hb2;have R2:N ((grow (redrawn W dq) osq).heap[w.heap.size]?=_):=(hb2.block _ hlW).trans R0.out;clear hb2 HIx M0 MW K2 K5 K6 R0 HBW hlW;generalize grow (redrawn W dq) osq=w2 at*;have hk2:=HKw.out.grow HB2.out;have y7:=hk2.c7;have y8:=hk2.c8;have y6:=hk2.c6;simp only[ne_eq,not_true_eq_false,decide_false]at y6 y7 y8;have hr2:w.heap.size<w2.heap.size:=(Q.1 R2.out).1;have hl2:b<w2.heap.size:=hk2.lb;clear hk2
 go_wp2_with fail
 refine(HEO _).mono ?_;rintro e w3 ⟨rfl,hb3⟩;have HB3:N (Below w.heap.size w w3):=zT HB2.out hb3;have R3:N (w3.heap[w.heap.size]?=_):=(hb3.block _ hr2).trans R2.out;have hr3:w.heap.size<w3.heap.size:=V hr2 hb3.size;have hl3:b<w3.heap.size:=V hl2 hb3.size
 have nb3:b≠w3.heap.size:=by omega
 have mb3:w3.heap.size≠b:=by omega
 have nr3:w.heap.size≠w3.heap.size:=by omega
 have mr3:w3.heap.size≠w.heap.size:=by omega
 clear hb3 HEO y6 y7 y8 HB2 R2 hr2 hl2;rcases HA.out with ⟨hc,rfl⟩|⟨rfl,hA⟩
 ·clear HA
  obtain⟨⟨x0,x1,x2⟩,xf⟩:=ycg R3.out;have HF:N _:=yfF (yej hrb (kS _) ⟨⟨_,_,_,HKw.out.grow HB3.out⟩,Ch8.ygr (F:=fun j=>j=b) HB3.out hl⟩ (I J 0) (I J 0) (I J 0)) (zA (zR _) (O #[T et,T el,I J er,T eu,T ed,I J ef] 70))
  go_wp2_with fail
  refine E (v:=y #[kP #[I J 0,I J 0,I J 0],T U,I J rc]) ?_ rfl (PL.out rfl ⟨rfl,rfl⟩ ⟨rfl,HF.out⟩);simp[results,Tryz.results57,go_sem,x0,x1,x2,hr3,nr3,mr3]
 clear HA;have HA:N _:=hA;clear hA;obtain⟨W4,hW4⟩:∃W4,W4=w3.alloc (O #[T et,T el,I J er,T eu,T ed,I J ef] 70):=⟨_,rfl⟩
 have hB4:Below w3.heap.size w3 W4:=by rw[hW4];exact zA (zR _) _
 have HB4:N (Below w.heap.size w W4):=zT HB3.out hB4;have R4:N (W4.heap[w.heap.size]?=_):=(hB4.block _ hr3).trans R3.out
 have E4:N (W4.cell? ⟨w3.heap.size,0,B⟩=Y (T et)/\W4.cell? ⟨w3.heap.size,1,B⟩=Y (T el)/\W4.cell? ⟨w3.heap.size,2,B⟩=Y (I J er)/\W4.cell? ⟨w3.heap.size,3,B⟩=Y (T eu)/\W4.cell? ⟨w3.heap.size,4,B⟩=Y (T ed)/\W4.cell? ⟨w3.heap.size,5,B⟩=Y (I J ef)):=by rw[N,hW4];simp[go_sem]
 have F4:N (∀i,W4.frozen? ⟨w3.heap.size,i,B⟩=U):=fun i=>by rw[hW4];simp[go_sem]
 have hr4:w.heap.size<W4.heap.size:=by have:=hB4.size;omega
 have hl4:b<W4.heap.size:=by have:=hB4.size;omega
 have he4:w3.heap.size<W4.heap.size:=by rw[hW4];simp
 clear hB4;rcases HA.out with ⟨rfl,rfl⟩|⟨rfl,hA⟩
 ·clear HA
  go_wp2_with fail
  rw[<-hW4];clear hW4;have HE:=yaD 1 0 0 _ ⟨_,_,_,HKw.out.grow HB4.out⟩;refine HE.mono ?_;rintro e w9 ⟨rfl,hk9,hc9⟩;have HC9:N (Ch8 b 1 (fun j=>j=b) w w9):=(Ch8.ygr HB4.out hl).trans hc9 (fun _ _ h=>h);have R9:N (w9.heap[w.heap.size]?=_):=(hc9.but.block _ hr4 hrb).trans R4.out;obtain⟨⟨x0,x1,x2⟩,xf⟩:=ycg R9.out;have HF:N _:=yej hrb (kS _) ⟨hk9,HC9.out⟩ (I J 1) (I J 0) (I J 0);clear hk9 hc9 HE
  go_wp2_with fail
  refine E (v:=y #[kP #[I J 1,I J 0,I J 0],T R,I J 0]) ?_ rfl (PL.out rfl ⟨rfl,rfl⟩ ⟨rfl,HF.out⟩);simp[results,Tryz.results57,go_sem,x0,x1,x2]
 clear HA;have HA:N _:=hA;clear hA;rcases HA.out with ⟨rfl,m,hlm,hlm1,rfl⟩|⟨rfl,hA⟩
 ·clear HA
  have hk3:=HKw.out.grow HB3.out;have z5:=hk3.c5;have z6:=hk3.c6;have zf:=hk3.fb;obtain⟨⟨x0,x1,x2⟩,xf⟩:=ycg R3.out;have HF:N _:=yfF (yej hrb (kS _) ⟨(hk3.low ef m).1,(Ch8.ygr HB3.out hl).trans (hk3.low ef m).2 (fun _ _ h=>h)⟩ (I J 0) (I J 0) (I J 0)) (zA (zR _) (O #[T R,T U,I J er,T eu,T ed,I J ef] 70));clear hk3
  go_wp2_with fail
  refine E (v:=y #[kP #[I J 0,I J 0,I J 0],T U,I J 0]) ?_ rfl (PL.out rfl ⟨rfl,rfl⟩ ⟨rfl,HF.out⟩);simp[results,Tryz.results57,go_sem,x0,x1,x2,hr3,nr3,mr3]
 clear HA;have HA:N _:=hA;clear hA
 go_wp2_with fail
 rw[<-hW4];clear hW4;have z2:=P E4.out.2.2.1;have y2:=P (HKw.out.grow HB4.out).c2;have y3:=P (HKw.out.grow HB4.out).c3;have y4:=P (HKw.out.grow HB4.out).c4;simp only at y2 y3 y4;refine wp_region_quiet_below (by kernel_rfl) (by kernel_rfl) ?_
 repeat (first
  | go_big_quiet_step ((go_at_call 107;exact Calls.regrown_of (HMay _))))
 refine wpQuiet_nil ?_;intro _ hw';obtain⟨⟨dq5,osq5⟩,rfl⟩:=hw';have hb5:=below_regrown W4 dq5 osq5;have HB5:N (Below w.heap.size w (grow (redrawn W4 dq5) osq5)):=zT HB4.out hb5;have R5:N ((grow (redrawn W4 dq5) osq5).heap[w.heap.size]?=_):=(hb5.block _ hr4).trans R4.out;have E5:N _:=zQ hb5 E4.out;have F5:N (∀i,(grow (redrawn W4 dq5) osq5).frozen? ⟨w3.heap.size,i,B⟩=U):=fun i=>(hb5.frozen (p:=⟨w3.heap.size,i,B⟩) he4).trans (F4.out i);have hr5:w.heap.size<(grow (redrawn W4 dq5) osq5).heap.size:=V hr4 hb5.size;have hl5:b<(grow (redrawn W4 dq5) osq5).heap.size:=V hl4 hb5.size;have he5:w3.heap.size<(grow (redrawn W4 dq5) osq5).heap.size:=V he4 hb5.size;clear hb5 z2 y2 y3 y4 E4 F4 HMay HB4 R4 hr4 hl4 he4 HB3 R3 hl3;generalize grow (redrawn W4 dq5) osq5=w5 at*;generalize w3.heap.size=Eb at*;rcases HA.out with ⟨rfl,rfl⟩|⟨rfl,hwd0,hA,rfl⟩
 ·clear HA
  go_wp2_with fail
  have HE:=yaD 2 0 0 _ ⟨_,_,_,HKw.out.grow HB5.out⟩;refine HE.mono ?_;rintro e w9 ⟨rfl,hk9,hc9⟩;have HC9:N (Ch8 b 1 (fun j=>j=b) w w9):=(Ch8.ygr HB5.out hl).trans hc9 (fun _ _ h=>h);have R9:N (w9.heap[w.heap.size]?=_):=(hc9.but.block _ hr5 hrb).trans R5.out;obtain⟨⟨x0,x1,x2⟩,xf⟩:=ycg R9.out;have HF:N _:=yej hrb (kS _) ⟨hk9,HC9.out⟩ (I J 2) (I J 0) (I J 0);clear hk9 hc9 HE
  go_wp2_with fail
  refine E (v:=y #[kP #[I J 2,I J 0,I J 0],T R,I J 0]) ?_ rfl (PL.out rfl ⟨rfl,rfl⟩ ⟨rfl,HF.out⟩);simp[results,Tryz.results57,go_sem,x0,x1,x2]
 clear HA;obtain⟨z0,z1,z2,z3,z4,z5⟩:=E5.out;have hk5:=HKw.out.grow HB5.out;have y3:=hk5.c3;have y7:=hk5.c7;have y8:=hk5.c8;have yf:=hk5.fb;simp only[ne_eq,not_true_eq_false,decide_false]at y3 y7 y8;obtain⟨⟨x0,x1,x2⟩,xf⟩:=ycg R5.out;have HF:N _:=yej hrb (kS _) ⟨(hk5.wait wd hwd0).1,(Ch8.ygr HB5.out hl).trans (hk5.wait wd hwd0).2 (fun _ _ h=>h)⟩ (I J 0) (I J 0) (I J 0);clear hk5;rcases hA with rfl|⟨rfl,rfl,hk1⟩
 all_goals
  go_wp2_with fail
  refine E (v:=y #[kP #[I J 0,I J 0,I J 0],T U,I J 0]) ?_ rfl (PL.out rfl ⟨rfl,rfl⟩ ⟨rfl,HF.out⟩);simp[results,Tryz.results57,go_sem,x0,x1,x2]
end
section
variable {b:Nat} {root:Int}
theorem yac {bm g0 g1 bl:Nat} {vb:kT} {S:Pg.Fs} {q k:Int} {u:Bool} {t:Int} {lv:Nat} {xw x er ef:Int} {eu ed d' mk:Bool} (hq:Pg.below q 4096=R) (hlv:lv<4) (w:A) (h:jZ w b ⟨R,q,k,u,t,lv,x⟩ t (lv:Int) xw) (hm:zg w bm g0 g1 vb S) (hL:qi w bl 0 ⟨⟨0,0,0,0⟩,U⟩) (hLf:∀p,w.frozen? ⟨bl,p,B⟩=U) (hbm:¬zN bm g0 g1 vb b) (hlm:¬zN bm g0 g1 vb bl) (hbl:b≠bl) (hmay:Pg.may er k u=R) (hh:S.has t=R) (hc:Pg.ygy S t (Pg.ix q lv) lv=0) (he:Pg.rEn S t (Pg.ix q lv) lv=⟨R,R,er,eu,ed,ef⟩)
 (hmk:decide (x≠0)=mk) (hwd:mk=R->S.word t.toNat (Pg.ix q lv)=xw) (hB:(mk=U/\eu=R/\(ed||k !=1)=R/\d'=ed)\/(mk=R/\(eu&&(ed||k !=1))=U/\d'=(ed||k==1))):
 kV kI 57 #[X (Y ⟨b,0,B⟩),X (Y ⟨bm,0,B⟩),I J root,X (Y ⟨bl,0,B⟩)] w fun e w'=>vL w b bm g0 g1 bl vb S ⟨R,q,k,u,t,lv,x⟩ (.done ⟨R,R,er,R,d',ef⟩ mk) e w':=by
 have HMay:=fun W'=>j7 er q k u W';rw[hmay]at HMay;clear hmay;obtain⟨W,hW⟩:∃W,W=w.alloc (O #[I J 0,I J 0,I J 0] 34):=⟨_,rfl⟩
 have hBW:Below w.heap.size w W:=by rw[hW];exact zA (zR w) _
 have hl:=h.lb;have HKw:N _:=h;have HMw:N _:=hm;have HBW:N _:=hBW;have HKW:=h.grow hBW;have HMW:=hm.keep (F:=fun _=>False) (But.ygr hBW) (fun _ _=>id)
 have R0:N (W.heap[w.heap.size]?=Y (O #[I J 0,I J 0,I J 0] 34 (0,0))):=by rw[hW];exact kJ _ _
 have hrb:¬w.heap.size=b:=by omega
 have hne:b≠w.heap.size:=by omega
 have hlW:w.heap.size<W.heap.size:=(Q.1 R0.out).1;have HT:=zy t W HMW;rw[hh]at HT;have k1:=h.c1;have k5:=h.c5;simp only at k1 k5;obtain⟨tn,rfl⟩:=kF (hm.ok.ygG hh).1
 have htn:tn<S.n:=by have:=(hm.ok.ygG hh).2.1;omega
 have hixl:=Pg.yhs q lv;have HIx:=zG q (lv:Int);rw[Pg.ygA hq hlv]at HIx;have M0:=P HMW.raw.c0;have MW:=P (HMW.raw.cw tn (Pg.ix q lv) htn hixl);have K2:=P HKW.c2;have K5:=P HKW.c5;have K6:=P HKW.c6;simp only at K2 K5 K6;have hwl:=hm.ok.low tn (Pg.ix q lv);have hwh:=hm.ok.high tn (Pg.ix q lv);obtain⟨e1,e2⟩:=Pg.yha (i:=Pg.ix q lv) (lv:=lv) hh;simp only[kC]at e1 e2;have HEO:=fun W'=>qr (S.word tn (Pg.ix q lv)) (lv:Int) hwl hwh W';rw[Pg.yhd,<-e1,<-e2,hc,he]at HEO;simp only[Pg.En.val]at HEO;clear hwl hwh e1 e2 hc he;simp only[kC]at hwd;generalize S.word tn (Pg.ix q lv)=wd at*;generalize hixx:Pg.ix q lv=ixn at*;have HIXX:N _:=hixx
 have i0:(0:Int)<=(tn:Int):=by omega
 have i1:(tn:Int)<(S.n:Int):=by omega
 have i2:(0:Int)<=(ixn:Int):=by omega
 have i3:(ixn:Int)<8:=by omega
 clear h hm hBW HKW HMW hixx;have HLf:=fun W'=>jc R R er R d' ef (lv:Int) q W';rw[Pg.yh2 ⟨R,R,er,R,d',ef⟩ (lv:Int) q]at HLf;have hres:Pg.Wo.res ⟨R,q,k,u,(tn:Int),lv,x⟩ (.done ⟨R,R,er,R,d',ef⟩ mk)=⟨R,Pg.aEnd (Pg.En.map ⟨R,R,er,R,d',ef⟩ (lv:Int) q).r k u,Pg.ygW (Pg.En.map ⟨R,R,er,R,d',ef⟩ (lv:Int) q).p (Pg.En.map ⟨R,R,er,R,d',ef⟩ (lv:Int) q).f (Pg.En.map ⟨R,R,er,R,d',ef⟩ (lv:Int) q).r q k u,Pg.ygK (Pg.En.map ⟨R,R,er,R,d',ef⟩ (lv:Int) q).r k u,Pg.En.map ⟨R,R,er,R,d',ef⟩ (lv:Int) q,d'⟩:=rfl;generalize Pg.En.map ⟨R,R,er,R,d',ef⟩ (lv:Int) q=mm at*;obtain⟨mp,ms,mf,mr⟩:=mm;simp only[Pg.Mp.val]at HLf;have HAn:=fun W'=>qD mp ms mf mr q k u W';generalize Pg.aEnd mr k u=aa at*;generalize Pg.ygW mp mf mr q k u=af at*;generalize Pg.ygK mr k u=ar at*;have HRES:N _:=hres;clear hres;have HL:N (qi w bl 0 ⟨⟨0,0,0,0⟩,U⟩):=hL;have HLF:N _:=hLf;clear hL hLf;have HST:N (Pg.index q (lv:Int)=(Pg.ix q lv:Nat)):=Pg.ygA hq hlv;have hfs:Pg.Wo.fs S ⟨R,q,k,u,(tn:Int),lv,x⟩ (.done ⟨R,R,er,R,d',ef⟩ R)=S.store (tn:Int) (Pg.index q (lv:Int)) (Pg.enc R R er R d' ef (lv:Int)):=rfl;rw[HST.out,HIXX.out]at hfs;have HWo:=fun W'=>qR R R er R d' ef (lv:Int) W';have hv:=Pg.yhZ R R er R d' ef (lv:Int);generalize Pg.enc R R er R d' ef (lv:Int)=v at*;have HFS:N _:=hfs;clear hfs
 have HAt:N (S.at' (tn:Int) (ixn:Int)=R):=by rw[N,<-HIXX.out,ye5 S (tn:Int) q lv,hh]
 clear hh
 go_enter Tryz.func57,Tryz.ntmps57
 go_wp2_with fail
 rw[<-hW];refine HT.mono ?_;rintro e w1 ⟨rfl,hw⟩;subst w1;clear hW;clear HT k1 k5
 go_wp2_with fail
 refine wp_region_quiet_below (by kernel_rfl) (by kernel_rfl) ?_
 repeat (first
  | go_big_quiet_step ((go_at_call 104;exact Calls.regrown_of (HIx _))))
 refine wpQuiet_nil ?_;intro _ hw';obtain⟨⟨dq,osq⟩,rfl⟩:=hw';have hb2:=below_regrown W dq osq;have HB2:N (Below w.heap.size w (grow (redrawn W dq) osq)):=zT HBW.out hb2;have R2:N ((grow (redrawn W dq) osq).heap[w.heap.size]?=_):=(hb2.block _ hlW).trans R0.out;clear hb2 HIx M0 MW K2 K5 K6 R0 HBW hlW;generalize grow (redrawn W dq) osq=w2 at*;have hk2:=HKw.out.grow HB2.out;have y7:=hk2.c7;have y8:=hk2.c8;have y6:=hk2.c6;simp only[hmk]at y6 y7 y8;have hr2:w.heap.size<w2.heap.size:=(Q.1 R2.out).1;have hl2:b<w2.heap.size:=hk2.lb;clear hk2;have HMK:N _:=hmk;clear hmk;rcases hB with ⟨rfl,hB⟩|⟨rfl,hB⟩
 rotate_left
 focus
  have hww:(wd !=xw)=U:=by rw[hwd rfl];simp
 rotate_left
 all_goals
  have HBB:N _:=hB;clear hB hwd
 all_goals
  go_wp2_with fail
  refine(HEO _).mono ?_;rintro e w3 ⟨rfl,hb3⟩;have HB3:N (Below w.heap.size w w3):=zT HB2.out hb3;have R3:N (w3.heap[w.heap.size]?=_):=(hb3.block _ hr2).trans R2.out;have hr3:w.heap.size<w3.heap.size:=V hr2 hb3.size;have hl3:b<w3.heap.size:=V hl2 hb3.size
  have nb3:b≠w3.heap.size:=by omega
  have mb3:w3.heap.size≠b:=by omega
  have nr3:w.heap.size≠w3.heap.size:=by omega
  have mr3:w3.heap.size≠w.heap.size:=by omega
  clear hb3 HEO y6 y7 y8 HB2 R2 hr2 hl2;obtain⟨W4,hW4⟩:∃W4,W4=w3.alloc (O #[T R,T R,I J er,T eu,T ed,I J ef] 70):=⟨_,rfl⟩
  have hB4:Below w3.heap.size w3 W4:=by rw[hW4];exact zA (zR _) _
  have HB4:N (Below w.heap.size w W4):=zT HB3.out hB4;have R4:N (W4.heap[w.heap.size]?=_):=(hB4.block _ hr3).trans R3.out
  have E4:N (W4.cell? ⟨w3.heap.size,0,B⟩=Y (T R)/\W4.cell? ⟨w3.heap.size,1,B⟩=Y (T R)/\W4.cell? ⟨w3.heap.size,2,B⟩=Y (I J er)/\W4.cell? ⟨w3.heap.size,3,B⟩=Y (T eu)/\W4.cell? ⟨w3.heap.size,4,B⟩=Y (T ed)/\W4.cell? ⟨w3.heap.size,5,B⟩=Y (I J ef)):=by rw[N,hW4];simp[go_sem]
  have F4:N (∀i,W4.frozen? ⟨w3.heap.size,i,B⟩=U):=fun i=>by rw[hW4];simp[go_sem]
  have hr4:w.heap.size<W4.heap.size:=by have:=hB4.size;omega
  have hl4:b<W4.heap.size:=by have:=hB4.size;omega
  have he4:w3.heap.size<W4.heap.size:=by rw[hW4];simp
  clear hB4
  go_wp2_with fail
  rw[<-hW4];clear hW4;have z2:=P E4.out.2.2.1;have y2:=P (HKw.out.grow HB4.out).c2;have y3:=P (HKw.out.grow HB4.out).c3;have y4:=P (HKw.out.grow HB4.out).c4;simp only at y2 y3 y4;refine wp_region_quiet_below (by kernel_rfl) (by kernel_rfl) ?_
  repeat (first
   | go_big_quiet_step ((go_at_call 107;exact Calls.regrown_of (HMay _))))
  refine wpQuiet_nil ?_;intro _ hw';obtain⟨⟨dq5,osq5⟩,rfl⟩:=hw';have hb5:=below_regrown W4 dq5 osq5;have HB5:N (Below w.heap.size w (grow (redrawn W4 dq5) osq5)):=zT HB4.out hb5;have R5:N ((grow (redrawn W4 dq5) osq5).heap[w.heap.size]?=_):=(hb5.block _ hr4).trans R4.out;have E5:N _:=zQ hb5 E4.out;have F5:N (∀i,(grow (redrawn W4 dq5) osq5).frozen? ⟨w3.heap.size,i,B⟩=U):=fun i=>(hb5.frozen (p:=⟨w3.heap.size,i,B⟩) he4).trans (F4.out i);have hr5:w.heap.size<(grow (redrawn W4 dq5) osq5).heap.size:=V hr4 hb5.size;have hl5:b<(grow (redrawn W4 dq5) osq5).heap.size:=V hl4 hb5.size;have he5:w3.heap.size<(grow (redrawn W4 dq5) osq5).heap.size:=V he4 hb5.size;clear hb5 z2 y2 y3 y4 E4 F4 HMay HB4 R4 hr4 hl4 he4 HB3 R3 hl3;generalize grow (redrawn W4 dq5) osq5=w5 at*;generalize w3.heap.size=Eb at*
 focus
  obtain⟨rfl,hE,hd⟩:=HBB.out;have hk5:=HKw.out.grow HB5.out;have y3:=hk5.c3;have y7:=hk5.c7;simp only[HMK.out]at y3 y7;obtain⟨z0,z1,z2,z3,z4,z5⟩:=E5.out;have EX:N (_/\_/\_/\_/\w5.cell? ⟨Eb,4,B⟩=Y (T d')/\_):=⟨z0,z1,z2,z3,by rw[hd];exact z4,z5⟩;have HDX:N (But (fun _=>False) w w5):=But.ygr HB5.out;have HMX:N (zg w5 bm g0 g1 vb (Pg.Wo.fs S ⟨R,q,k,u,(tn:Int),lv,x⟩ (.done ⟨R,R,er,R,d',ef⟩ U))):=HMw.out.keep (F:=fun _=>False) HDX.out (fun _ _=>id);have RX:N (w5.heap[w.heap.size]?=_):=R5.out
  have hEbw:w.heap.size<Eb:=by omega
  obtain⟨DX,hDX⟩:∃DX:Nat->Prop,DX=fun _=>False:=⟨_,rfl⟩;rw[<-hDX]at HDX
  have DXM:N (∀j,DX j->zN bm g0 g1 vb j):=fun j e=>by rw[hDX]at e;exact e.elim
  clear hDX hk5 hd HBB
  have hE:ed=R\/(ed=U/\(k !=1)=R):=by revert hE;cases ed<;>simp
  rcases hE with rfl|⟨rfl,hk1⟩
  all_goals
   go_wp2_with fail
   clear z0 z1 z2 z3 z4 z5 y3 y7 E5 F5 R5 HB5 hr5 hl5 he5 HWo hv HAt HST HFS;obtain⟨SX,HSX⟩:∃SX,N (Pg.Wo.fs S ⟨R,q,k,u,(tn:Int),lv,x⟩ (.done ⟨R,R,er,R,d',ef⟩ U)=SX):=⟨_,rfl⟩;rw[HSX.out]at HMX;obtain⟨WX,rfl⟩:∃WX,WX=w5:=⟨_,rfl⟩
 rotate_left 2
 focus
  obtain⟨hE,hd⟩:=HBB.out
  have hE:(eu=U/\ed=R/\d'=R)\/(eu=U/\ed=U/\(k==1)=d')\/(eu=R/\ed=U/\(k !=1)=U/\(k==1)=R/\d'=R):=by
   revert hE hd
   cases eu <;> cases ed <;> simp (config := { maxSteps := 100000 }) [bne]
   all_goals intros;simp_all
  clear hd HBB
  have hE:(eu=U/\ed=R/\(k==1)=(k==1)/\N (d'=R))\/(eu=U/\ed=U/\(k==1)=d'/\N (d'=d'))\/(eu=R/\ed=U/\((k !=1)=U/\(k==1)=R)/\N (d'=R)):=by
   rcases hE with ⟨a,b,c⟩|⟨a,b,c⟩|⟨a,b,c,d,e⟩
   ·exact .inl ⟨a,b,rfl,c⟩
   ·exact .inr (.inl ⟨a,b,c,rfl⟩)
   ·exact .inr (.inr ⟨a,b,⟨c,d⟩,e⟩)
  rcases hE with ⟨rfl,rfl,hk1,HD'⟩|⟨rfl,rfl,hk1,HD'⟩|⟨rfl,rfl,hk1,HD'⟩
  all_goals
   obtain⟨z0,z1,z2,z3,z4,z5⟩:=E5.out;have zf:=F5.out;have hk5:=HKw.out.grow HB5.out;have y3:=hk5.c3;have y7:=hk5.c7;simp only[HMK.out]at y3 y7;clear hk5;obtain⟨W6,hW6⟩:∃W6,W6=((w5.setCell ⟨Eb,3,B⟩ (T R)).setCell ⟨Eb,4,B⟩ (T d')):=⟨_,rfl⟩
   have hEbw:w.heap.size<Eb:=by omega
   have hB56:Below w.heap.size w5 W6:=by
    have hE:w.heap.size<=Eb:=by omega
    rw[hW6];exact((Below.refl _ w5).setCell hE _).setCell hE _
   have HB6:N (Below w.heap.size w W6):=HB5.out.trans hB56
   have E6:N (W6.cell? ⟨Eb,0,B⟩=Y (T R)/\W6.cell? ⟨Eb,1,B⟩=Y (T R)/\W6.cell? ⟨Eb,2,B⟩=Y (I J er)/\W6.cell? ⟨Eb,3,B⟩=Y (T R)/\W6.cell? ⟨Eb,4,B⟩=Y (T d')/\W6.cell? ⟨Eb,5,B⟩=Y (I J ef)):=by rw[N,hW6];simp[go_sem,z0,z1,z2,z3,z4,z5]
   have R6:N (W6.heap[w.heap.size]?=Y (O #[I J 0,I J 0,I J 0] 34 (0,0))):=by
    have hnE:w.heap.size≠Eb:=by omega
    rw[hW6,M _ _ _ _ hnE,M _ _ _ _ hnE];exact R5.out
   go_wp2_with fail
   first
    | rw[<-hW6]
    | rw[HD'.out]at hW6;rw[<-hW6]
   clear hk1 HD';clear hW6 z0 z1 z2 z3 z4 z5 zf y3 y7 hB56 E5 F5 R5 HB5 hr5 hl5 he5;have hk6:=HKw.out.grow HB6.out;have hm6:=HMw.out.keep (F:=fun _=>False) (But.ygr HB6.out) (fun _ _=>id);have c0:=hm6.raw.c0;have c1:=hk6.c5;have c2:=hk6.c2;have c3:=hk6.c6;simp only at c2;have hlb6:=hk6.lb;have hlm6:=hm6.raw.lb;obtain⟨c4,c5,c6,c7,c8,c9⟩:=E6.out;have HIx2:=zG q (lv:Int);rw[Pg.ygA hq hlv,HIXX.out]at HIx2;have hg0:=HMw.out.raw.l0;have ng1:g0≠bm:=HMw.out.raw.n0;have ng2:bm≠g0:=fun e=>ng1 e.symm;have ng3:g0≠b:=fun e=>hbm (.inr (.inl e.symm));have ng4:b≠g0:=fun e=>ng3 e.symm
   have ng5:g0≠Eb:=by omega
   have ng6:Eb≠g0:=by omega
   clear hk6 hm6
   go_region_held3 (fun w'=>w'.cell? ⟨bm,0,B⟩=Y (.slice (Y ⟨g0,0,B⟩) S.n S.n)/\w'.cell? ⟨b,5,B⟩=Y (I J (tn:Int))/\w'.cell? ⟨b,2,B⟩=Y (I J q)/\w'.cell? ⟨b,6,B⟩=Y (I J (lv:Int))/\w'.cell? ⟨Eb,0,B⟩=Y (T R)/\w'.cell? ⟨Eb,1,B⟩=Y (T R)/\w'.cell? ⟨Eb,2,B⟩=Y (I J er)/\w'.cell? ⟨Eb,3,B⟩=Y (T R)/\w'.cell? ⟨Eb,4,B⟩=Y (T d')/\w'.cell? ⟨Eb,5,B⟩=Y (I J ef)) (go_keep) (first
    | (go_at_call 108;refine(HWo _).mono ?_;rintro en w8 ⟨rfl,hb8⟩;have HB8:N (Below w.heap.size w w8):=zT (zT HB6.out HB7.out) hb8;have HB78:N _:=hb8;have b0:=D HB78.out a0;have b1:=D HB78.out a1;have b2:=D HB78.out a2;have b3:=D HB78.out a3;have b4:=D HB78.out a4;have b5:=D HB78.out a5;have b6:=D HB78.out a6;have b7:=D HB78.out a7;have b8:=D HB78.out a8;have b9:=D HB78.out a9;have hm8:=HMw.out.keep (F:=fun _=>False) (But.ygr HB8.out) (fun _ _=>id);have gw:=hm8.raw.cw tn ixn htn hixl;have gf:=hm8.raw.f0;have gl:=hm8.raw.l0;clear hm8 hb8)
    | (go_at_call 104;refine(HIx2 _).mono ?_;rintro en w7 ⟨rfl,hb7⟩;have HB7:N (Below W6.heap.size W6 w7):=(by first|exact zT (zR W6).drew hb7|exact hb7);have a0:=D HB7.out c0;have a1:=D HB7.out c1;have a2:=D HB7.out c2;have a3:=D HB7.out c3;have a4:=D HB7.out c4;have a5:=D HB7.out c5;have a6:=D HB7.out c6;have a7:=D HB7.out c7;have a8:=D HB7.out c8;have a9:=D HB7.out c9;clear hb7))
   go_wp2_with fail
   obtain⟨WX,hWX⟩:∃WX,WX=w8.setCell ⟨g0,tn*8+ixn,B⟩ (I .u64 v):=⟨_,rfl⟩;rw[<-hWX]
   have HDX:N (But (fun j=>j=g0) w WX):=by rw[N,hWX];exact(But.ygr (F:=fun j=>j=g0) HB8.out).setCell (a:=⟨g0,tn*8+ixn,B⟩) (.inr rfl) _
   have HMX:N (zg WX bm g0 g1 vb (S.store (tn:Int) (ixn:Int) v)):=by
    have hm8:=HMw.out.keep (F:=fun _=>False) (But.ygr HB8.out) (fun _ _=>id)
    have e3:S.store (tn:Int) (ixn:Int) v={S with word:=Pg.Fs.put S.word tn ixn v}:=by simp[Pg.Fs.store,HAt.out]
    refine⟨?_,hm8.ok.store (tn:Int) (ixn:Int) hv.1 hv.2⟩;rw[e3,hWX];exact hm8.raw.put htn hixl v
   have hkE:WX.heap[Eb]?=w8.heap[Eb]?:=by rw[hWX];exact M _ _ _ _ ng6
   have EX:N _:=ydd hkE ⟨b4,b5,b6,b7,b8,b9⟩;have hbr:w8.heap[w.heap.size]?=W6.heap[w.heap.size]?:=(HB78.out.block _ (V (Q.1 R6.out).1 HB7.out.size)).trans (HB7.out.block _ (Q.1 R6.out).1)
   have RX:N (WX.heap[w.heap.size]?=Y (O #[I J 0,I J 0,I J 0] 34 (0,0))):=by
    rw[N,hWX,M _ _ _ _ (show w.heap.size≠g0 by omega)];exact hbr.trans R6.out
   obtain⟨SX,hSX⟩:∃SX,SX=S.store (tn:Int) (ixn:Int) v:=⟨_,rfl⟩;have HSX:N (Pg.Wo.fs S ⟨R,q,k,u,(tn:Int),lv,x⟩ (.done ⟨R,R,er,R,d',ef⟩ R)=SX):=HFS.out.trans hSX.symm;rw[<-hSX]at HMX;obtain⟨DX,hDX⟩:∃DX:Nat->Prop,DX=fun j=>j=g0:=⟨_,rfl⟩;rw[<-hDX]at HDX
   have DXM:N (∀j,DX j->zN bm g0 g1 vb j):=fun j e=>by rw[hDX]at e;exact .inr (.inl e)
   clear hDX hSX HFS;clear a0 a1 a2 a3 a4 a5 a6 a7 a8 a9 b0 b1 b2 b3 b4 b5 b6 b7 b8 b9 c0 c1 c2 c3 c4 c5 c6 c7 c8 c9 gw gf gl hkE hbr hWX HB7 HB78 HB8 HB6 E6 R6 HWo HIx2 hv
 all_goals
  have hLl:bl<w.heap.size:=qi.lb HL.out;have hDb:¬DX b:=fun e=>hbm (DXM.out _ e);have hDl:¬DX bl:=fun e=>hlm (DXM.out _ e);have hkX:=HKw.out.keep HDX.out hDb;have g0':=P EX.out.1;have g1':=P EX.out.2.1;have g2':=P EX.out.2.2.1;have g3':=P EX.out.2.2.2.1;have g4':=P EX.out.2.2.2.2.1;have g5':=P EX.out.2.2.2.2.2;have k2':=P hkX.c2;have k6':=P hkX.c6;simp only at k2' k6';clear hkX;refine Loose.ygR 11 15 (O #[I J 0,I J 0,I J 0,I J 0] 39) _ (by kernel_rfl) (by kernel_rfl) rfl rfl rfl (by intro a w;simp[go_sem]) ?_;simp only[kR,kQ,kN,kZ]
  repeat (
   refine Loose.zS (fun k hk=> ?_)
   go_simp
   first
    | (refine hk _ ?_;clear hk k)
    | (apply Exists.intro
       refine⟨fun _=> ?_,hk _ ?_⟩
       (go_at_call 72;exact Loose.calls (HLf _))
       clear hk k))
  refine Loose.ygs ?_;intro bx w6 hb6 hbX hX
  have cb:w6.cell? ⟨bx,0,B⟩=Y (I J 0)/\w6.cell? ⟨bx,1,B⟩=Y (I J 0)/\w6.cell? ⟨bx,2,B⟩=Y (I J 0)/\w6.cell? ⟨bx,3,B⟩=Y (I J 0):=by
   simp[kK,hX]
  obtain⟨cb0,cb1,cb2,cb3⟩:=cb
  have fbx:∀i,w6.frozen? ⟨bx,i,B⟩=U:=fun i=>by simp[kO,hX]
  have hB7:Below WX.heap.size WX ((((w6.setCell ⟨bx,0,B⟩ (I J mp)).setCell ⟨bx,1,B⟩ (I J ms)).setCell ⟨bx,2,B⟩ (I J mf)).setCell ⟨bx,3,B⟩ (I J mr)):=zq hb6 _ hbX _ _ _ _
  have m4:((((w6.setCell ⟨bx,0,B⟩ (I J mp)).setCell ⟨bx,1,B⟩ (I J ms)).setCell ⟨bx,2,B⟩ (I J mf)).setCell ⟨bx,3,B⟩ (I J mr)).cell? ⟨bx,0,B⟩=Y (I J mp)/\((((w6.setCell ⟨bx,0,B⟩ (I J mp)).setCell ⟨bx,1,B⟩ (I J ms)).setCell ⟨bx,2,B⟩ (I J mf)).setCell ⟨bx,3,B⟩ (I J mr)).cell? ⟨bx,1,B⟩=Y (I J ms)/\((((w6.setCell ⟨bx,0,B⟩ (I J mp)).setCell ⟨bx,1,B⟩ (I J ms)).setCell ⟨bx,2,B⟩ (I J mf)).setCell ⟨bx,3,B⟩ (I J mr)).cell? ⟨bx,2,B⟩=Y (I J mf)/\((((w6.setCell ⟨bx,0,B⟩ (I J mp)).setCell ⟨bx,1,B⟩ (I J ms)).setCell ⟨bx,2,B⟩ (I J mf)).setCell ⟨bx,3,B⟩ (I J mr)).cell? ⟨bx,3,B⟩=Y (I J mr):=by simp[go_sem,cb0,cb1,cb2,cb3]
  have hsX:w.heap.size<=WX.heap.size:=HDX.out.size
  have nbx:bx≠bl:=by omega
  have mbx:bl≠bx:=by omega
  have d4:=hb6.cell (p:=⟨Eb,4,B⟩) (H _ _ EX.out.2.2.2.2.1);have d4':=d4.trans EX.out.2.2.2.2.1
  have nEx:Eb≠bx:=by have:=H _ _ EX.out.1;simp only at this;omega
  have mEx:bx≠Eb:=fun e=>nEx e.symm
  have nEl:Eb≠bl:=by omega
  have mEl:bl≠Eb:=by omega
  have hLX:=HL.out.of (w':=WX) fun p=>HDX.out.cell (a:=⟨bl,p,B⟩) hLl hDl;have hL6:=hLX.below hb6 (V hLl hsX);have lf6:∀i,w6.frozen? ⟨bl,i,B⟩=U:=fun i=>(hb6.frozen (p:=⟨bl,i,B⟩) (V hLl hsX)).trans ((HDX.out.frozen (a:=⟨bl,i,B⟩) hLl hDl).trans (HLF.out i));obtain⟨l0,l1,l2,l3,l4⟩:=hL6;simp only[Nat.zero_add]at l1 l2 l3 l4;generalize hW7:((((w6.setCell ⟨bx,0,B⟩ (I J mp)).setCell ⟨bx,1,B⟩ (I J ms)).setCell ⟨bx,2,B⟩ (I J mf)).setCell ⟨bx,3,B⟩ (I J mr))=W7 at*;have HB7:N _:=hB7;have M4:N _:=m4;obtain⟨W8,hW8⟩:∃W8,W8=(((((W7.setCell ⟨bl,0,B⟩ (I J mp)).setCell ⟨bl,1,B⟩ (I J ms)).setCell ⟨bl,2,B⟩ (I J mf)).setCell ⟨bl,3,B⟩ (I J mr)).setCell ⟨bl,4,B⟩ (T d')):=⟨_,rfl⟩
  have hB8:But (fun j=>j=bl) W7 W8:=by rw[hW8];exact(ycs (F:=fun j=>j=bl) (But.refl _ W7) bl (.inr rfl) _ _ _ _).setCell (a:=⟨bl,4,B⟩) (.inr rfl) _
  have hk7:W7.heap[bl]?=w6.heap[bl]?:=by rw[<-hW7,M _ _ _ _ mbx,M _ _ _ _ mbx,M _ _ _ _ mbx,M _ _ _ _ mbx]
  have t0:=(Z (a:=⟨bl,0,B⟩) hk7).trans l0;have t1:=(Z (a:=⟨bl,1,B⟩) hk7).trans l1;have t2:=(Z (a:=⟨bl,2,B⟩) hk7).trans l2;have t3:=(Z (a:=⟨bl,3,B⟩) hk7).trans l3;have t4:=(Z (a:=⟨bl,4,B⟩) hk7).trans l4
  have L8:N (qi W8 bl 0 ⟨⟨mp,ms,mf,mr⟩,d'⟩):=by
   rw[N,hW8]
   refine⟨?_,?_,?_,?_,?_⟩<;>simp[go_sem,t0,t1,t2,t3,t4]
  have H78:N (But (fun j=>j=bl) WX W8):=(But.ygr (F:=fun j=>j=bl) hB7).trans hB8 (fun _ _ h=>h)
  have M8:N (W8.cell? ⟨bx,0,B⟩=Y (I J mp)/\W8.cell? ⟨bx,1,B⟩=Y (I J ms)/\W8.cell? ⟨bx,2,B⟩=Y (I J mf)/\W8.cell? ⟨bx,3,B⟩=Y (I J mr)):=by
   have hk:W8.heap[bx]?=W7.heap[bx]?:=hB8.block bx (H _ _ m4.1) nbx;exact⟨(Z hk).trans m4.1,(Z hk).trans m4.2.1,(Z hk).trans m4.2.2.1,(Z hk).trans m4.2.2.2⟩
  have tf:∀i,W7.frozen? ⟨bl,i,B⟩=U:=fun i=>(World.frozen?_of_block (a:=⟨bl,i,B⟩) hk7).trans (lf6 i)
  have d7:W7.cell? ⟨Eb,4,B⟩=Y (T d'):=by
   have hkE:W7.heap[Eb]?=w6.heap[Eb]?:=by rw[<-hW7,M _ _ _ _ nEx,M _ _ _ _ nEx,M _ _ _ _ nEx,M _ _ _ _ nEx]
   exact(Z (a:=⟨Eb,4,B⟩) hkE).trans d4'
  obtain⟨p0,p1,p2,p3⟩:=m4;clear hk7 hB8 hB7 d4 hLX g0' g1' g2' g3' g4' g5' k2' k6' hX
  go_wp2_with fail
  rw[<-hW8];clear hW7 hW8 t0 t1 t2 t3 t4 tf d7 p0 p1 p2 p3 cb0 cb1 cb2 cb3 fbx d4' l0 l1 l2 l3 l4 lf6;have H8:N (But (fun j=>DX j\/j=bl) w W8):=(HDX.out.mono (fun _ _ h=> .inl h)).trans H78.out (fun _ _ h=> .inr h)
  have hb8D:¬(DX b\/b=bl):=by rintro (h|h);exact hDb h;exact hbl h
  have hk8:=HKw.out.keep H8.out hb8D;have q0':=P M8.out.1;have q1':=P M8.out.2.1;have q2':=P M8.out.2.2.1;have q3':=P M8.out.2.2.2;have k2':=P hk8.c2;have k3':=P hk8.c3;have k4':=P hk8.c4;simp only at k2' k3' k4';clear hk8;refine Loose.wp_region_late2 7 8 11 (by kernel_rfl) (by kernel_rfl) ?_;simp only[kR,kQ,kN,kZ]
  repeat (
   refine Loose.zS (fun k hk=> ?_)
   go_simp
   first
    | (refine hk _ ?_;clear hk k)
    | (apply Exists.intro
       refine⟨fun _=> ?_,hk _ ?_⟩
       (go_at_call 84;exact Loose.calls (HAn _))
       clear hk k))
  refine Loose.ygs ?_;intro w10 hb10;have H10:N (But (fun j=>j=bl) WX w10):=H78.out.trans (But.ygr (F:=fun j=>j=bl) hb10) (fun _ _ h=>h);have L10:N (qi w10 bl 0 ⟨⟨mp,ms,mf,mr⟩,d'⟩):=qi.below L8.out hb10 (qi.lb L8.out);clear q0' q1' q2' q3' k2' k3' k4' hb10 HAn L8 M8 H78 H8;have H10w:N (But (fun j=>DX j\/j=bl) w w10):=(HDX.out.mono (fun _ _ h=> .inl h)).trans H10.out (fun _ _ h=> .inr h);have HE:=yaD aa af ar w10 ⟨_,_,_,HKw.out.keep H10w.out hb8D⟩
  go_wp2_with fail
  refine HE.mono ?_;rintro e w11 ⟨rfl,hk11,hc11⟩;have HK11:N (qA w11 b Pg.Wk.off):=hk11;have H11:N (But (fun j=>j=bl\/j=b) WX w11):=(H10.out.mono (fun _ _ h=> .inl h)).trans hc11.but (fun _ _ h=> .inr h);have HC11:N (Ch8 b 1 (fun j=>j=b\/j=bl\/zN bm g0 g1 vb j) w w11):=((Ch8.yiC (o:=1) H10w.out hl hb8D).mono (G:=fun j=>j=b\/j=bl\/zN bm g0 g1 vb j) (fun _ _ h=>h.elim (fun h=> .inr (.inr (DXM.out _ h))) (fun h=> .inr (.inl h)))).trans hc11 (fun _ _ h=> .inl h);have L11:N (qi w11 bl 0 ⟨⟨mp,ms,mf,mr⟩,d'⟩):=L10.out.of fun p=>hc11.but.cell (a:=⟨bl,p,B⟩) (qi.lb L10.out) (fun e=>hbl e.symm);have R11:N (w11.heap[w.heap.size]?=_):=(H11.out.block _ (Q.1 RX.out).1 (by rintro (h|h);omega;exact hrb h)).trans RX.out;clear hk11 hc11 HE L10 H10 H10w
  go_wp2_with fail
  repeat (
   refine Loose.zS (fun k hk=> ?_)
   go_simp
   (refine hk _ ?_;clear hk k))
  refine Loose.ygs ?_;intro w12 hb12;have HK12:N _:=HK11.out.of_block (hb12.block b HK11.out.lb);have H12:N (But (fun j=>j=bl\/j=b) WX w12):=H11.out.trans (But.ygr (F:=fun j=>j=bl\/j=b) hb12) (fun _ _ h=>h);have HC12:N (Ch8 b 1 (fun j=>j=b\/j=bl\/zN bm g0 g1 vb j) w w12):=HC11.out.trans (Ch8.ygr (F:=fun j=>j=b\/j=bl\/zN bm g0 g1 vb j) hb12 HK11.out.lb) (fun _ _ h=>h);have L12:N (qi w12 bl 0 ⟨⟨mp,ms,mf,mr⟩,d'⟩):=qi.below L11.out hb12 (qi.lb L11.out);have R12:N (w12.heap[w.heap.size]?=_):=(hb12.block _ (Q.1 R11.out).1).trans R11.out;obtain⟨⟨x0,x1,x2⟩,xf⟩:=ycg R12.out;have HF:N _:=yej hrb (kS _) ⟨HK12.out,HC12.out⟩ (I J aa) (I J af) (I J ar);have hS3:=yaC (F:=fun j=>j=w.heap.size) (But.refl _ w12) w.heap.size (.inr rfl) (I J aa) (I J af) (I J ar);have HL13:N _:=L12.out.of fun p=>hS3.cell (a:=⟨bl,p,B⟩) (qi.lb L12.out) (show ¬bl=w.heap.size by omega)
  have HM13:N _:=HMX.out.keep (H12.out.mono (G:=fun j=>j=bl\/j=b\/j=w.heap.size) (fun _ _ h=>h.elim .inl (fun h=> .inr (.inl h)))|>.trans hS3 (fun _ _ h=> .inr (.inr h))) (by
   rintro j hj (h|h|h)
   ·exact hlm (h▸hj)
   ·exact hbm (h▸hj)
   ·have:=HMw.out.raw.lt hj;omega)
  clear hS3 hb12
  go_wp2_with fail
  refine E (v:=y #[kP #[I J aa,I J af,I J ar],T R,I J 0]) ?_ rfl ⟨by rw[HRES.out];rfl,HF.out.1,by rw[HSX.out];exact HM13.out,by rw[HRES.out];exact HL13.out,HF.out.2⟩;simp[results,Tryz.results57,go_sem,x0,x1,x2]
theorem ycH {bm bl:Nat} {K:Pg.Wk} (ho:K.on=U) (w:A) (h:qA w b K):
 kV kI 57 #[X (Y ⟨b,0,B⟩),X (Y ⟨bm,0,B⟩),I J root,X (Y ⟨bl,0,B⟩)] w fun e w'=>e=z (y #[kP #[I J 0,I J 0,I J 0],T U,I J 9])/\Below w.heap.size w w':=by
 obtain⟨t,lv,x,h⟩:=h;have c1:=h.c1;have hl:=h.lb
 have hne:b≠w.heap.size:=by omega
 rw[ho]at c1;clear h ho
 go_enter Tryz.func57,Tryz.ntmps57
 go_wp2_with fail
 refine E (v:=y #[kP #[I J 0,I J 0,I J 0],T U,I J 9]) ?_ rfl ⟨rfl,zA (zR _) _⟩;simp[results,Tryz.results57,go_sem]
theorem ydp {bm g0 g1 bl:Nat} {vb:kT} {S:Pg.Fs} {K:Pg.Wk} (ok:K.Ok) (w:A) (h:qA w b K) (hm:zg w bm g0 g1 vb S) (hL:qi w bl 0 ⟨⟨0,0,0,0⟩,U⟩) (hLf:∀p,w.frozen? ⟨bl,p,B⟩=U) (hbm:¬zN bm g0 g1 vb b) (hlm:¬zN bm g0 g1 vb bl) (hbl:b≠bl):
 kV kI 57 #[X (Y ⟨b,0,B⟩),X (Y ⟨bm,0,B⟩),I J root,X (Y ⟨bl,0,B⟩)] w fun e w'=>vL w b bm g0 g1 bl vb S K (Pg.kOut S root K) e w':=by
 cases ho:K.on
 ·have e:Pg.kOut S root K= .code 9:=by simp[Pg.kOut,ho]
  rw[e];refine(ycH ho w h).mono ?_;rintro e w' ⟨rfl,hb⟩;exact vL.plain hm hL hbm hbl rfl ⟨rfl,rfl⟩ ⟨rfl,h.of_block (hb.block b h.lb),Ch8.ygr hb h.lb⟩
 ·obtain⟨t0,lv0,xw,h⟩:=h
  obtain⟨on,q,k,u,t,lv,x⟩:=K;simp only at ho;subst ho;obtain⟨e1,e2⟩:=h.at' rfl;simp only at e1 e2;subst e1 e2;have hq:=ok.page rfl;have hlv:=ok.lv;simp only at hq hlv;have pl:∀(out:Pg.Wo) (e:Ending) (w':A),out.fs S ⟨R,q,k,u,t0,lv,x⟩=S->((out.res ⟨R,q,k,u,t0,lv,x⟩).m=⟨0,0,0,0⟩/\(out.res ⟨R,q,k,u,t0,lv,x⟩).d=U)->_->vL w b bm g0 g1 bl vb S ⟨R,q,k,u,t0,lv,x⟩ out e w':=fun out e w' hf h0 h=>vL.plain hm hL hbm hbl hf h0 h
  by_cases hx:x=0
  ·subst hx
   have hread:=Pg.yiF S root q k u t0 lv;rw[show Pg.kOut S root (Pg.Wk.at' q k u t0 lv 0)=Pg.kOut S root ⟨R,q,k,u,t0,lv,0⟩from rfl]at hread;cases hh:S.has t0
   ·have hrc:Pg.ygy S t0 (Pg.ix q lv) lv=12:=by simp[Pg.ygy,hh]
    rw[hrc,if_pos (by decide)]at hread;rw[hread];exact(yad hq hlv w h hm hh).mono fun e w' h=>pl _ _ _ rfl ⟨rfl,rfl⟩ h
   ·cases he:Pg.rEn S t0 (Pg.ix q lv) lv with
    | mk et el er eu ed ef=>
    have small:=fun oc (hA:_) (hk:Pg.kOut S root ⟨R,q,k,u,t0,lv,0⟩=oc)=>hk▸ybO (root:=root) (oc:=oc) hq hlv w h hm hL hbm hbl hh rfl he hA
    by_cases hc:Pg.ygy S t0 (Pg.ix q lv) lv=0
    ·rw[if_neg (by simpa using hc)]at hread
     have hon:=fun h=>Pg.yhz (S:=S) (t:=t0) (i:=Pg.ix q lv) (lv:=lv) h
     have hwd0:(Pg.rEn S t0 (Pg.ix q lv) lv).t=R->S.word t0.toNat (Pg.ix q lv)≠0:=fun ht e=>by
      rw[(Pg.yha (i:=Pg.ix q lv) (lv:=lv) hh).2,e]at ht;simp[Pg.En.of,Pg.ygD]at ht
     rw[he]at hread hon hwd0;simp only[Pg.En.on]at hread hon hwd0;cases et
     ·rw[if_pos rfl]at hread
      exact small _ (.inr ⟨hc,.inl ⟨rfl,rfl⟩⟩) hread
     ·rw[if_neg (by decide)]at hread
      have hwd0:=hwd0 rfl;cases el
      ·rw[if_pos rfl]at hread
       obtain⟨m,hm'⟩:=hon rfl
       have hlm2:lv-1=m:=by omega
       rw[hlm2]at hread;exact small _ (.inr ⟨hc,.inr ⟨rfl,.inl ⟨rfl,m,by omega,by omega,rfl⟩⟩⟩) hread
      ·rw[if_neg (by decide)]at hread
       cases hmay:Pg.may er k u
       ·rw[if_pos hmay]at hread
        exact small _ (.inr ⟨hc,.inr ⟨rfl,.inr ⟨rfl,.inl ⟨hmay,rfl⟩⟩⟩⟩) hread
       ·rw[if_neg (by simp[hmay])]at hread
        cases hr:(Pg.Wk.at' q k u t0 lv 0).ready ⟨R,R,er,eu,ed,ef⟩
        ·rw[if_pos hr]at hread
         simp only[Pg.Wk.ready,Pg.Wk.at']at hr
         exact small _ (.inr ⟨hc,.inr ⟨rfl,.inr ⟨rfl,.inr ⟨hmay,hwd0,by revert hr;cases eu<;>cases ed<;>simp,rfl⟩⟩⟩⟩) hread
        ·rw[if_neg (by simp[hr])]at hread
         rw[hread];simp only[Pg.Wk.ready,Pg.Wk.at',kU]at hr;obtain⟨rfl,h2⟩:=hr;exact yac hq hlv w h hm hL hLf hbm hlm hbl hmay hh hc he (by simp) (fun e=>by cases e) (.inl ⟨rfl,rfl,h2,rfl⟩)
    ·rw[if_pos hc]at hread
     exact small _ (.inl ⟨by simpa using hc,rfl⟩) hread
  ·obtain⟨_,_,hdc,hlf,hmay,hrd⟩:=ok.leaf hx
   simp only at hdc hlf hmay hrd;cases hh:S.has t0
   ·have e:Pg.kOut S root ⟨R,q,k,u,t0,lv,x⟩= .code 12:=by simp[Pg.kOut,hh]
    rw[e];exact(yad hq hlv w h hm hh).mono fun e w' h=>pl _ _ _ rfl ⟨rfl,rfl⟩ h
   ·by_cases hw:S.word t0.toNat (Pg.ix q lv)=x
    ·have e:Pg.kOut S root ⟨R,q,k,u,t0,lv,x⟩= .done (Pg.Wk.mark ⟨R,q,k,u,t0,lv,x⟩ (Pg.En.of x lv)) R:=Pg.yiI hx hh hw
     rw[e];obtain⟨r1,r2⟩:=Pg.yha (i:=Pg.ix q lv) (lv:=lv) hh;rw[hw]at r1 r2;rw[hdc]at r1
     have ht:(Pg.En.of x lv).t=R:=by
      have:=(Pg.yii hm.ok (t:=t0) (i:=Pg.ix q lv) (lv:=lv) (by rw[r2];exact hlf)).2.1
      rwa [r2]at this
     cases he:Pg.En.of x lv with
     | mk et el er eu ed ef=>
     rw[he]at r2 hlf hmay hrd ht;simp only at hlf hmay ht;subst hlf ht;simp only[Pg.Wk.ready]at hrd;simp only[Pg.Wk.mark];exact yac hq hlv w h hm hL hLf hbm hlm hbl hmay hh r1 r2 (by simpa using hx) (fun _=>hw.trans (h.wd hx).symm) (.inr ⟨rfl,hrd,rfl⟩)
    ·have e:Pg.kOut S root ⟨R,q,k,u,t0,lv,x⟩= .go (Pg.Wk.again root ⟨R,q,k,u,t0,lv,x⟩):=by
      unfold Pg.kOut;rw[if_neg (by simp),if_neg (by simp[hh]),if_pos hx,if_neg (show ¬Pg.Wk.word S ⟨R,q,k,u,t0,lv,x⟩=x from hw)]
     rw[e];exact(ybN hq hlv w h hm hh hx hw).mono fun e w' h=>pl _ _ _ rfl ⟨rfl,rfl⟩ h
end
structure qS (w:A) (b:Nat) (vb:kT) (C:Pg.Cr):Prop where
 co:jV w b vb C.L
 ck:qA w b C.K
 ok:C.K.Ok
theorem qA.fb {w:A} {b:Nat} {K:Pg.Wk} (h:qA w b K):∀p,w.frozen? ⟨b,p,B⟩=U:=by
 obtain⟨t,lv,x,h⟩:=h;exact h.fb
theorem jV.walked {w w':A} {b:Nat} {vb:kT} {L:List Pg.Ln} {K:Pg.Wk} {G:Nat->Prop} (h:jV w b vb L) (hk:qA w' b K) (hc:Ch8 b 1 G w w') (hG:∀k,vb.ownBlock=Y k->¬G k):jV w' b vb L:=
 ⟨(hc.oth 0 (.inl (by decide))).trans h.c0,hk.fb,h.row.but hc.but hG,h.nb,h.kept⟩
theorem qA.kept {w w':A} {b:Nat} {vb:kT} {L:List Pg.Ln} {K:Pg.Wk} {G:Nat->Prop} (h:qA w b K) (hk:jV w' b vb L) (hc:Chg b 0 G w w'):qA w' b K:=by
 obtain⟨t,lv,x,h⟩:=h;exact⟨t,lv,x,(hc.oth 1 (by decide)).trans h.c1,(hc.oth 2 (by decide)).trans h.c2,(hc.oth 3 (by decide)).trans h.c3,(hc.oth 4 (by decide)).trans h.c4,(hc.oth 5 (by decide)).trans h.c5,(hc.oth 6 (by decide)).trans h.c6,(hc.oth 7 (by decide)).trans h.c7,(hc.oth 8 (by decide)).trans h.c8,hk.fb,h.at',h.wd⟩
namespace qS
variable {w w':A} {b:Nat} {vb vb':kT} {C:Pg.Cr} {G:Nat->Prop}
theorem lb (h:qS w b vb C):b<w.heap.size:=h.co.lb
theorem lt (h:qS w b vb C) {k:Nat} (hk:bkF b vb k):k<w.heap.size:=h.co.lt hk
theorem keep (h:qS w b vb C) (hb:But G w w') (hG:∀k,bkF b vb k->¬G k):qS w' b vb C:=⟨h.co.keep hb hG,h.ck.of_block (hb.block b h.lb (hG b (.inl rfl))),h.ok⟩
theorem grow (h:qS w b vb C) (hb:Below w.heap.size w w'):qS w' b vb C:=h.keep (G:=fun _=>False) (But.ygr hb) (fun _ _=>id)
theorem yhX {K':Pg.Wk} (h:qS w b vb C) (hk:qA w' b K') (ok:K'.Ok) (hc:Ch8 b 1 G w w') (hG:∀k,vb.ownBlock=Y k->¬G k):qS w' b vb ⟨C.L,K'⟩:=⟨h.co.walked hk hc hG,hk,ok⟩
theorem yiG {L':List Pg.Ln} (h:qS w b vb C) (hk:jV w' b vb' L') (hc:Chg b 0 G w w'):qS w' b vb' ⟨L',C.K⟩:=⟨hk,h.ck.kept hk hc,h.ok⟩
end qS
theorem xn {w w1:A} (h:Below w.heap.size w w1) (r:Nat) (hr:w.heap.size<=r) (x0 x1 x2:kT):Below w.heap.size w (((w1.setCell ⟨r,0,B⟩ x0).setCell ⟨r,1,B⟩ x1).setCell ⟨r,2,B⟩ x2):=
 ((h.setCell (p:=⟨r,0,B⟩) hr x0).setCell (p:=⟨r,1,B⟩) hr x1).setCell (p:=⟨r,2,B⟩) hr x2
section
variable {b:Nat} {root:Int} {C:Pg.Cr} {vb:kT}
theorem ybQ (q k:Int) (u:Bool) (hc:Pg.zK q k≠0) (w:A) (h:qS w b vb C):
 kV kI 56 #[X (Y ⟨b,0,B⟩),I J root,kP #[I J q,I J k,T u]] w fun e w'=>e=z (Pg.Tl.code (Pg.zK q k)).val/\Below w.heap.size w w':=by
 obtain⟨W,hW⟩:∃W,W=(w.alloc (O #[I J q,I J k,T u] 41)).alloc (O #[I J 0,I J 0,I J 0] 34):=⟨_,rfl⟩
 have hBW:Below w.heap.size w W:=by rw[hW];exact zA (zA (zR w) _) _
 have A3:N (W.cell? ⟨w.heap.size,0,B⟩=Y (I J q)/\W.cell? ⟨w.heap.size,1,B⟩=Y (I J k)/\W.cell? ⟨w.heap.size,2,B⟩=Y (T u)):=by rw[N,hW];simp[go_sem]
 have R3:N (W.heap[w.heap.size+1]?=Y (O #[I J 0,I J 0,I J 0] 34 (0,0))):=by
  rw[N,hW];exact(by simp:(w.alloc (O #[I J q,I J k,T u] 41)).heap.size=w.heap.size+1)▸kJ _ _
 have hl:=h.lb;have HW:N _:=h.grow hBW;have HBW:N _:=hBW;have HCa:=zP q k u W
 have hne:b≠w.heap.size:=by omega
 have mne:w.heap.size≠b:=by omega
 have hrb:¬w.heap.size+1=b:=by omega
 have hrW:w.heap.size+1<W.heap.size:=by rw[hW];simp
 have HX:N _:=h
 have hcn:(Pg.zK q k !=0)=R:=by simpa using hc
 generalize Pg.zK q k=c at*;simp only[Pg.Tl.code,Pg.Tl.val];clear h hBW
 go_enter Tryz.func56,Tryz.ntmps56
 go_wp2_with fail
 rw[<-hW];refine HCa.mono ?_;rintro e w1 ⟨rfl,hb1⟩;have P1:N _:=HW.out.grow hb1;have HB1:N (Below w.heap.size w w1):=zT HBW.out hb1;have R1:N (w1.heap[w.heap.size+1]?=Y (O #[I J 0,I J 0,I J 0] 34 (0,0))):=(hb1.block _ hrW).trans R3.out;have hr1:w.heap.size+1<w1.heap.size:=V hrW hb1.size;have A1:N _:=xP hb1 A3.out;clear hb1 HCa HW HBW A3 hW R3;obtain⟨⟨x0,x1,x2⟩,xf⟩:=ycg R1.out
 go_wp2_with fail
 refine E (v:=y #[kP #[I J 0,I J 0,I J 0],T U,I J c]) ?_ rfl ⟨rfl,xn HB1.out _ (kY _) _ _ _⟩;simp[results,Tryz.results56,go_sem,x0,x1,x2]
theorem yaZ (q k:Int) (u:Bool) (hc:Pg.zK q k=0) (ho:C.K.on=R) (w:A) (h:qS w b vb C):
 kV kI 56 #[X (Y ⟨b,0,B⟩),I J root,kP #[I J q,I J k,T u]] w fun e w'=>e=z (Pg.Tl.code 8).val/\Below w.heap.size w w':=by
 obtain⟨W,hW⟩:∃W,W=(w.alloc (O #[I J q,I J k,T u] 41)).alloc (O #[I J 0,I J 0,I J 0] 34):=⟨_,rfl⟩
 have hBW:Below w.heap.size w W:=by rw[hW];exact zA (zA (zR w) _) _
 have A3:N (W.cell? ⟨w.heap.size,0,B⟩=Y (I J q)/\W.cell? ⟨w.heap.size,1,B⟩=Y (I J k)/\W.cell? ⟨w.heap.size,2,B⟩=Y (T u)):=by rw[N,hW];simp[go_sem]
 have R3:N (W.heap[w.heap.size+1]?=Y (O #[I J 0,I J 0,I J 0] 34 (0,0))):=by
  rw[N,hW];exact(by simp:(w.alloc (O #[I J q,I J k,T u] 41)).heap.size=w.heap.size+1)▸kJ _ _
 have hl:=h.lb;have HW:N _:=h.grow hBW;have HBW:N _:=hBW;have HCa:=zP q k u W
 have hne:b≠w.heap.size:=by omega
 have mne:w.heap.size≠b:=by omega
 have hrb:¬w.heap.size+1=b:=by omega
 have hrW:w.heap.size+1<W.heap.size:=by rw[hW];simp
 have HX:N _:=h;rw[hc]at HCa;simp only[Pg.Tl.code,Pg.Tl.val];clear h hBW
 go_enter Tryz.func56,Tryz.ntmps56
 go_wp2_with fail
 rw[<-hW];refine HCa.mono ?_;rintro e w1 ⟨rfl,hb1⟩;have P1:N _:=HW.out.grow hb1;have HB1:N (Below w.heap.size w w1):=zT HBW.out hb1;have R1:N (w1.heap[w.heap.size+1]?=Y (O #[I J 0,I J 0,I J 0] 34 (0,0))):=(hb1.block _ hrW).trans R3.out;have hr1:w.heap.size+1<w1.heap.size:=V hrW hb1.size;have A1:N _:=xP hb1 A3.out;clear hb1 HCa HW HBW A3 hW R3;obtain⟨⟨x0,x1,x2⟩,xf⟩:=ycg R1.out;obtain⟨t8,lv8,x8,hck⟩:=P1.out.ck;have c1:=hck.c1;rw[ho]at c1;clear hck ho hc
 go_wp2_with fail
 refine E (v:=y #[kP #[I J 0,I J 0,I J 0],T U,I J 8]) ?_ rfl ⟨rfl,xn HB1.out _ (kY _) _ _ _⟩;simp[results,Tryz.results56,go_sem,x0,x1,x2]
theorem ya0 (q k:Int) (u:Bool) (hc:Pg.zK q k=0) (ho:C.K.on=U) (hn:Pg.kFnd C.L q=B) (w:A) (h:qS w b vb C):
 kV kI 56 #[X (Y ⟨b,0,B⟩),I J root,kP #[I J q,I J k,T u]] w fun e w'=>e=z (Pg.Tl.code 0).val/\qS w' b vb ⟨C.L,Pg.Wk.start root q k u⟩/\But (fun j=>j=b) w w':=by
 obtain⟨W,hW⟩:∃W,W=(w.alloc (O #[I J q,I J k,T u] 41)).alloc (O #[I J 0,I J 0,I J 0] 34):=⟨_,rfl⟩
 have hBW:Below w.heap.size w W:=by rw[hW];exact zA (zA (zR w) _) _
 have A3:N (W.cell? ⟨w.heap.size,0,B⟩=Y (I J q)/\W.cell? ⟨w.heap.size,1,B⟩=Y (I J k)/\W.cell? ⟨w.heap.size,2,B⟩=Y (T u)):=by rw[N,hW];simp[go_sem]
 have R3:N (W.heap[w.heap.size+1]?=Y (O #[I J 0,I J 0,I J 0] 34 (0,0))):=by
  rw[N,hW];exact(by simp:(w.alloc (O #[I J q,I J k,T u] 41)).heap.size=w.heap.size+1)▸kJ _ _
 have hl:=h.lb;have HW:N _:=h.grow hBW;have HBW:N _:=hBW;have HCa:=zP q k u W
 have hne:b≠w.heap.size:=by omega
 have mne:w.heap.size≠b:=by omega
 have hrb:¬w.heap.size+1=b:=by omega
 have hrW:w.heap.size+1<W.heap.size:=by rw[hW];simp
 have HX:N _:=h;have HOF:N _:=h.ok.idle ho;have HOK:N _:=Pg.Wk.yhh (root:=root) (k:=k) (u:=u) (Pg.ygM hc);have HQ:N _:=Pg.ygL hc;rw[hc]at HCa
 have hkn:Pg.yhl C.L q= -1:=by simp only[Pg.yhl,hn]
 simp only[Pg.Tl.code,Pg.Tl.val];clear h hBW
 go_enter Tryz.func56,Tryz.ntmps56
 go_wp2_with fail
 rw[<-hW];refine HCa.mono ?_;rintro e w1 ⟨rfl,hb1⟩;have P1:N _:=HW.out.grow hb1;have HB1:N (Below w.heap.size w w1):=zT HBW.out hb1;have R1:N (w1.heap[w.heap.size+1]?=Y (O #[I J 0,I J 0,I J 0] 34 (0,0))):=(hb1.block _ hrW).trans R3.out;have hr1:w.heap.size+1<w1.heap.size:=V hrW hb1.size;have A1:N _:=xP hb1 A3.out;clear hb1 HCa HW HBW A3 hW R3;obtain⟨z0,z1,z2⟩:=A1.out;obtain⟨t8,lv8,x8,hck⟩:=P1.out.ck;have c1:=hck.c1;rw[ho]at c1;have HKt:=jC q HQ.out w1 P1.out.co;rw[hkn]at HKt;clear hck hkn ho hc
 go_wp2_with fail
 refine HKt.mono ?_;rintro e w2 ⟨rfl,hb2⟩;have P2:N _:=P1.out.grow hb2;have HB2:N (Below w.heap.size w w2):=zT HB1.out hb2;have R2:N (w2.heap[w.heap.size+1]?=Y (O #[I J 0,I J 0,I J 0] 34 (0,0))):=(hb2.block _ hr1).trans R1.out;have hr2:w.heap.size+1<w2.heap.size:=V hr1 hb2.size;have A2:N _:=xP hb2 A1.out;clear hb2 HKt P1 HB1 R1 A1 hr1 z0 z1 z2 c1;obtain⟨t8,lv8,x8,hck⟩:=P2.out.ck;rw[HOF.out]at hck;have HF:N _:=hck.begun q k u;have d1:=hck.c1;have d2:=hck.c2;have d3:=hck.c3;have d4:=hck.c4;have fb:=hck.fb;simp only[Pg.Wk.off]at d1 d2 d3 d4;obtain⟨z0,z1,z2⟩:=A2.out;have hlz:=H _ _ z0;simp only at hlz;clear hck
 go_wp2_with fail
 go_region
 have HA:=vd (root:=root) _ HF.out.1.drew
 go_wp2_with fail
 refine HA.mono ?_;rintro e w9 ⟨rfl,hk9,hc9⟩;have HC9:N (Ch8 b 1 (fun j=>j=b) w w9):=(Ch8.ygr HB2.out hl).trans (HF.out.2.drew.trans hc9 (fun _ _ h=>h)) (fun _ _ h=>h);have R9:=((HF.out.2.drew.trans hc9 (fun _ _ h=>h)).but.block _ hr2 hrb).trans R2.out;obtain⟨⟨x0,x1,x2⟩,xf⟩:=ycg R9;have HFin:N _:=yej hrb (kY _) ⟨hk9,HC9.out⟩ (I J 0) (I J 0) (I J 0);clear hk9 hc9 HA z0 z1 z2 d1 d2 d3 d4 fb R9
 go_wp2_with fail
 refine E (v:=y #[kP #[I J 0,I J 0,I J 0],T U,I J 0]) ?_ rfl ⟨rfl,HX.out.yhX HFin.out.1 HOK.out HFin.out.2 (fun k hk e=>HX.out.co.nb (e▸hk)),HFin.out.2.but⟩;simp[results,Tryz.results56,go_sem,x0,x1,x2]
theorem yaE (q k:Int) (u:Bool) (hc:Pg.zK q k=0) (ho:C.K.on=U) {j:Nat} (hn:Pg.kFnd C.L q=Y j) (hwt:(Pg.kAt C.L q).wants k u=R) (w:A) (h:qS w b vb C):
 kV kI 56 #[X (Y ⟨b,0,B⟩),I J root,kP #[I J q,I J k,T u]] w fun e w'=>e=z (Pg.Tl.code 0).val/\qS w' b vb ⟨C.L,Pg.Wk.start root q k u⟩/\But (fun j=>j=b) w w':=by
 obtain⟨W,hW⟩:∃W,W=(w.alloc (O #[I J q,I J k,T u] 41)).alloc (O #[I J 0,I J 0,I J 0] 34):=⟨_,rfl⟩
 have hBW:Below w.heap.size w W:=by rw[hW];exact zA (zA (zR w) _) _
 have A3:N (W.cell? ⟨w.heap.size,0,B⟩=Y (I J q)/\W.cell? ⟨w.heap.size,1,B⟩=Y (I J k)/\W.cell? ⟨w.heap.size,2,B⟩=Y (T u)):=by rw[N,hW];simp[go_sem]
 have R3:N (W.heap[w.heap.size+1]?=Y (O #[I J 0,I J 0,I J 0] 34 (0,0))):=by
  rw[N,hW];exact(by simp:(w.alloc (O #[I J q,I J k,T u] 41)).heap.size=w.heap.size+1)▸kJ _ _
 have hl:=h.lb;have HW:N _:=h.grow hBW;have HBW:N _:=hBW;have HCa:=zP q k u W
 have hne:b≠w.heap.size:=by omega
 have mne:w.heap.size≠b:=by omega
 have hrb:¬w.heap.size+1=b:=by omega
 have hrW:w.heap.size+1<W.heap.size:=by rw[hW];simp
 have HX:N _:=h;have HOF:N _:=h.ok.idle ho;have HOK:N _:=Pg.Wk.yhh (root:=root) (k:=k) (u:=u) (Pg.ygM hc);have HQ:N _:=Pg.ygL hc;rw[hc]at HCa
 have hkn:Pg.yhl C.L q=(j:Int):=by simp only[Pg.yhl,hn]
 have ekA:Pg.kAt C.L q=C.L.getD j .zz:=by simp only[Pg.kAt,hn]
 obtain⟨hj,_,_⟩:=Pg.yht hn;have hlen:=h.co.kept.le
 have i0:(0:Int)<=(j:Int):=by omega
 have i1:(j:Int)<(C.L.length:Int):=by omega
 have i2:¬(j:Int)<0:=by omega
 obtain⟨ad,cap,rfl⟩:=h.co.row.form;obtain⟨g,og,rfl,_,_⟩:=zl h.co.row j hj;obtain⟨l,hLl⟩:∃l,l=C.L.getD j .zz:=⟨_,rfl⟩;rw[<-hLl]at ekA;rw[ekA]at hwt;have HAn:=fun w=>qD l.m.p l.m.s l.m.f l.m.r q k u w;obtain⟨⟨mp,ms,mf,mr⟩,ld⟩:=l;simp only at HAn;have HLL:N _:=hLl;clear ekA hLl;simp only[Pg.Ln.wants,kU,beq_iff_eq,Bool.not_eq_true']at hwt;obtain⟨hk1,hld,hmay⟩:=hwt
 have e1:Pg.aEnd mr k u=0:=by simp[Pg.aEnd,hmay]
 rw[e1]at HAn;obtain⟨ra,hra⟩:∃ra:Int,ra=0:=⟨_,rfl⟩;rw[<-hra]at HAn;generalize Pg.ygW mp mf mr q k u=rf at*;generalize Pg.ygK mr k u=rr at*;clear e1 hmay
 have hk2:(k !=1)=U:=by simp[hk1]
 have hra2:(ra !=0)=U:=by simp[hra]
 have HK1:N _:=hk1;clear hk1 hra;simp only[Pg.Tl.code,Pg.Tl.val];clear h hBW
 go_enter Tryz.func56,Tryz.ntmps56
 go_wp2_with fail
 rw[<-hW];refine HCa.mono ?_;rintro e w1 ⟨rfl,hb1⟩;have P1:N _:=HW.out.grow hb1;have HB1:N (Below w.heap.size w w1):=zT HBW.out hb1;have R1:N (w1.heap[w.heap.size+1]?=Y (O #[I J 0,I J 0,I J 0] 34 (0,0))):=(hb1.block _ hrW).trans R3.out;have hr1:w.heap.size+1<w1.heap.size:=V hrW hb1.size;have A1:N _:=xP hb1 A3.out;clear hb1 HCa HW HBW A3 hW R3;obtain⟨z0,z1,z2⟩:=A1.out;obtain⟨t8,lv8,x8,hck⟩:=P1.out.ck;have c1:=hck.c1;rw[ho]at c1;have HKt:=jC q HQ.out w1 P1.out.co;rw[hkn]at HKt;clear hck hkn ho hc
 go_wp2_with fail
 refine HKt.mono ?_;rintro e w2 ⟨rfl,hb2⟩;have P2:N _:=P1.out.grow hb2;have HB2:N (Below w.heap.size w w2):=zT HB1.out hb2;have R2:N (w2.heap[w.heap.size+1]?=Y (O #[I J 0,I J 0,I J 0] 34 (0,0))):=(hb2.block _ hr1).trans R1.out;have hr2:w.heap.size+1<w2.heap.size:=V hr1 hb2.size;have A2:N _:=xP hb2 A1.out;clear hb2 HKt P1 HB1 R1 A1 hr1 z0 z1 z2 c1
 have HL2:N (qi w2 g (og+j*5) ⟨⟨mp,ms,mf,mr⟩,ld⟩):=by
  obtain⟨g',o',e,_,hm⟩:=zl P2.out.co.row j hj;cases e;rw[N,HLL.out];exact hm
 obtain⟨l0,l1,l2,l3,l4⟩:=HL2.out;simp only at l0 l1 l2 l3 l4;obtain⟨z0,z1,z2⟩:=A2.out;have g0:=P P2.out.co.c0;have g1:=P l0;have g2:=P l1;have g3:=P l2;have g4:=P l3;have g5:=P z0;have g6:=P z1;have g7:=P z2;clear l0 l1 l2 l3 l4 z0 z1 z2
 go_wp2_with fail
 refine Loose.ygx 10 [] 11 (O #[I J 0,I J 0,I J 0] 34) _ (by kernel_rfl) (by kernel_rfl) (by intro i o hi;cases hi) rfl rfl rfl (by intro a w;simp[go_sem]) (by intro d v c a w h;cases d<;>exact h) ?_
 simp only[kR,kQ,kN,kZ]
 repeat (
  refine Loose.zS (fun k hk=> ?_)
  go_simp
  first
   | (refine hk _ ?_;clear hk k)
   | (apply Exists.intro
      refine⟨fun _=> ?_,hk _ ?_⟩
      (go_at_call 84;exact Loose.calls (HAn _))
      clear hk k))
 refine Loose.ygs ?_;intro bl w3 hb3 hbl hX;obtain⟨⟨cb0,cb1,cb2⟩,fb⟩:=ycg hX;have hxl:bl<w3.heap.size:=(Q.1 hX).1;obtain⟨W4,hW4⟩:∃W4,W4=((w3.setCell ⟨bl,0,B⟩ (I J ra)).setCell ⟨bl,1,B⟩ (I J rf)).setCell ⟨bl,2,B⟩ (I J rr):=⟨_,rfl⟩
 have hB4:Below w2.heap.size w2 W4:=by rw[hW4];exact xn hb3 _ hbl _ _ _
 have B4:N (W4.cell? ⟨bl,0,B⟩=Y (I J ra)/\W4.cell? ⟨bl,1,B⟩=Y (I J rf)/\W4.cell? ⟨bl,2,B⟩=Y (I J rr)):=by
  rw[N,hW4];simp[go_sem,cb0,cb1,cb2]
 have P4:N _:=P2.out.grow hB4;have HB4:N (Below w.heap.size w W4):=zT HB2.out hB4;have R4:N (W4.heap[w.heap.size+1]?=Y (O #[I J 0,I J 0,I J 0] 34 (0,0))):=(hB4.block _ hr2).trans R2.out;have hr4:w.heap.size+1<W4.heap.size:=V hr2 hB4.size;have A4:N _:=xP hB4 A2.out;have L4:N (qi W4 g (og+j*5) ⟨⟨mp,ms,mf,mr⟩,ld⟩):=HL2.out.below hB4 HL2.out.lb;clear hb3 hbl hX hB4 P2 HB2 R2 A2 HL2 hr2 HAn g0 g1 g2 g3 g4 g5 g6 g7
 go_upto_region 9 with fail
 rw[<-hW4];clear hW4 cb0 cb1 cb2 fb hxl;obtain⟨y0,y1,y2⟩:=B4.out;obtain⟨z0,z1,z2⟩:=A4.out;have c0:=P4.out.co.c0;have l4:=L4.out.2.2.2.2;simp only at l4;subst hld
 go_upto_region 11 with fail
 clear y0 y1 y2 z0 z1 z2 c0 l4;obtain⟨t8,lv8,x8,hck⟩:=P4.out.ck;rw[HOF.out]at hck;have HF:N _:=hck.begun q k u;have d1:=hck.c1;have d2:=hck.c2;have d3:=hck.c3;have d4:=hck.c4;have fb:=hck.fb;simp only[Pg.Wk.off]at d1 d2 d3 d4;obtain⟨z0,z1,z2⟩:=A4.out;have hlz:=H _ _ z0;simp only at hlz;clear hck
 go_wp2_with fail
 go_region
 have HA:=vd (root:=root) _ HF.out.1.drew
 go_wp2_with fail
 refine HA.mono ?_;rintro e w9 ⟨rfl,hk9,hc9⟩;have HC9:N (Ch8 b 1 (fun j=>j=b) w w9):=(Ch8.ygr HB4.out hl).trans (HF.out.2.drew.trans hc9 (fun _ _ h=>h)) (fun _ _ h=>h);have R9:=((HF.out.2.drew.trans hc9 (fun _ _ h=>h)).but.block _ hr4 hrb).trans R4.out;obtain⟨⟨x0,x1,x2⟩,xf⟩:=ycg R9;have HFin:N _:=yej hrb (kY _) ⟨hk9,HC9.out⟩ (I J 0) (I J 0) (I J 0);clear hk9 hc9 HA z0 z1 z2 d1 d2 d3 d4 fb R9
 go_wp2_with fail
 refine E (v:=y #[kP #[I J 0,I J 0,I J 0],T U,I J 0]) ?_ rfl ⟨rfl,HX.out.yhX HFin.out.1 HOK.out HFin.out.2 (fun k hk e=>HX.out.co.nb (e▸hk)),HFin.out.2.but⟩;simp[results,Tryz.results56,go_sem,x0,x1,x2]
theorem ybR (q k:Int) (u:Bool) (hc:Pg.zK q k=0) (ho:C.K.on=U) {j:Nat} (hn:Pg.kFnd C.L q=Y j) (hwt:(Pg.kAt C.L q).wants k u=U) (w:A) (h:qS w b vb C):
 kV kI 56 #[X (Y ⟨b,0,B⟩),I J root,kP #[I J q,I J k,T u]] w fun e w'=>e=z ((Pg.kAt C.L q).ans q k u).val/\Below w.heap.size w w':=by
 obtain⟨W,hW⟩:∃W,W=(w.alloc (O #[I J q,I J k,T u] 41)).alloc (O #[I J 0,I J 0,I J 0] 34):=⟨_,rfl⟩
 have hBW:Below w.heap.size w W:=by rw[hW];exact zA (zA (zR w) _) _
 have A3:N (W.cell? ⟨w.heap.size,0,B⟩=Y (I J q)/\W.cell? ⟨w.heap.size,1,B⟩=Y (I J k)/\W.cell? ⟨w.heap.size,2,B⟩=Y (T u)):=by rw[N,hW];simp[go_sem]
 have R3:N (W.heap[w.heap.size+1]?=Y (O #[I J 0,I J 0,I J 0] 34 (0,0))):=by
  rw[N,hW];exact(by simp:(w.alloc (O #[I J q,I J k,T u] 41)).heap.size=w.heap.size+1)▸kJ _ _
 have hl:=h.lb;have HW:N _:=h.grow hBW;have HBW:N _:=hBW;have HCa:=zP q k u W
 have hne:b≠w.heap.size:=by omega
 have mne:w.heap.size≠b:=by omega
 have hrb:¬w.heap.size+1=b:=by omega
 have hrW:w.heap.size+1<W.heap.size:=by rw[hW];simp
 have HX:N _:=h;have HOF:N _:=h.ok.idle ho;have HOK:N _:=Pg.Wk.yhh (root:=root) (k:=k) (u:=u) (Pg.ygM hc);have HQ:N _:=Pg.ygL hc;rw[hc]at HCa
 have hkn:Pg.yhl C.L q=(j:Int):=by simp only[Pg.yhl,hn]
 have ekA:Pg.kAt C.L q=C.L.getD j .zz:=by simp only[Pg.kAt,hn]
 obtain⟨hj,_,_⟩:=Pg.yht hn;have hlen:=h.co.kept.le
 have i0:(0:Int)<=(j:Int):=by omega
 have i1:(j:Int)<(C.L.length:Int):=by omega
 have i2:¬(j:Int)<0:=by omega
 obtain⟨ad,cap,rfl⟩:=h.co.row.form;obtain⟨g,og,rfl,_,_⟩:=zl h.co.row j hj;obtain⟨l,hLl⟩:∃l,l=C.L.getD j .zz:=⟨_,rfl⟩;rw[<-hLl]at ekA;rw[ekA]at hwt ⊢;have HAn:=fun w=>qD l.m.p l.m.s l.m.f l.m.r q k u w;obtain⟨⟨mp,ms,mf,mr⟩,ld⟩:=l;simp only at HAn;have HLL:N _:=hLl;clear ekA hLl;simp only[Pg.Ln.ans,Pg.Tl.val]
 have hcase:(Pg.aEnd mr k u !=0)=R\/((Pg.aEnd mr k u !=0)=U/\(k !=1)=R)\/((Pg.aEnd mr k u !=0)=U/\(k !=1)=U/\ld=R):=by
  simp only[Pg.Ln.wants]at hwt;unfold Pg.aEnd;cases hm:Pg.may mr k u
  ·exact .inl (by simp)
  ·rw[hm]at hwt
   by_cases hk:k=1
   ·subst hk
    cases ld
    ·simp at hwt
    ·exact .inr (.inr ⟨by simp,by simp,rfl⟩)
   ·exact .inr (.inl ⟨by simp,by simp[hk]⟩)
 clear hwt;generalize Pg.aEnd mr k u=ra at*;generalize Pg.ygW mp mf mr q k u=rf at*;generalize Pg.ygK mr k u=rr at*;clear h hBW
 go_enter Tryz.func56,Tryz.ntmps56
 go_wp2_with fail
 rw[<-hW];refine HCa.mono ?_;rintro e w1 ⟨rfl,hb1⟩;have P1:N _:=HW.out.grow hb1;have HB1:N (Below w.heap.size w w1):=zT HBW.out hb1;have R1:N (w1.heap[w.heap.size+1]?=Y (O #[I J 0,I J 0,I J 0] 34 (0,0))):=(hb1.block _ hrW).trans R3.out;have hr1:w.heap.size+1<w1.heap.size:=V hrW hb1.size;have A1:N _:=xP hb1 A3.out;clear hb1 HCa HW HBW A3 hW R3;obtain⟨z0,z1,z2⟩:=A1.out;obtain⟨t8,lv8,x8,hck⟩:=P1.out.ck;have c1:=hck.c1;rw[ho]at c1;have HKt:=jC q HQ.out w1 P1.out.co;rw[hkn]at HKt;clear hck hkn ho hc
 go_wp2_with fail
 refine HKt.mono ?_;rintro e w2 ⟨rfl,hb2⟩;have P2:N _:=P1.out.grow hb2;have HB2:N (Below w.heap.size w w2):=zT HB1.out hb2;have R2:N (w2.heap[w.heap.size+1]?=Y (O #[I J 0,I J 0,I J 0] 34 (0,0))):=(hb2.block _ hr1).trans R1.out;have hr2:w.heap.size+1<w2.heap.size:=V hr1 hb2.size;have A2:N _:=xP hb2 A1.out;clear hb2 HKt P1 HB1 R1 A1 hr1 z0 z1 z2 c1
 have HL2:N (qi w2 g (og+j*5) ⟨⟨mp,ms,mf,mr⟩,ld⟩):=by
  obtain⟨g',o',e,_,hm⟩:=zl P2.out.co.row j hj;cases e;rw[N,HLL.out];exact hm
 obtain⟨l0,l1,l2,l3,l4⟩:=HL2.out;simp only at l0 l1 l2 l3 l4;obtain⟨z0,z1,z2⟩:=A2.out;have g0:=P P2.out.co.c0;have g1:=P l0;have g2:=P l1;have g3:=P l2;have g4:=P l3;have g5:=P z0;have g6:=P z1;have g7:=P z2;clear l0 l1 l2 l3 l4 z0 z1 z2
 go_wp2_with fail
 refine Loose.ygx 10 [] 11 (O #[I J 0,I J 0,I J 0] 34) _ (by kernel_rfl) (by kernel_rfl) (by intro i o hi;cases hi) rfl rfl rfl (by intro a w;simp[go_sem]) (by intro d v c a w h;cases d<;>exact h) ?_
 simp only[kR,kQ,kN,kZ]
 repeat (
  refine Loose.zS (fun k hk=> ?_)
  go_simp
  first
   | (refine hk _ ?_;clear hk k)
   | (apply Exists.intro
      refine⟨fun _=> ?_,hk _ ?_⟩
      (go_at_call 84;exact Loose.calls (HAn _))
      clear hk k))
 refine Loose.ygs ?_;intro bl w3 hb3 hbl hX;obtain⟨⟨cb0,cb1,cb2⟩,fb⟩:=ycg hX;have hxl:bl<w3.heap.size:=(Q.1 hX).1;obtain⟨W4,hW4⟩:∃W4,W4=((w3.setCell ⟨bl,0,B⟩ (I J ra)).setCell ⟨bl,1,B⟩ (I J rf)).setCell ⟨bl,2,B⟩ (I J rr):=⟨_,rfl⟩
 have hB4:Below w2.heap.size w2 W4:=by rw[hW4];exact xn hb3 _ hbl _ _ _
 have B4:N (W4.cell? ⟨bl,0,B⟩=Y (I J ra)/\W4.cell? ⟨bl,1,B⟩=Y (I J rf)/\W4.cell? ⟨bl,2,B⟩=Y (I J rr)):=by
  rw[N,hW4];simp[go_sem,cb0,cb1,cb2]
 have P4:N _:=P2.out.grow hB4;have HB4:N (Below w.heap.size w W4):=zT HB2.out hB4;have R4:N (W4.heap[w.heap.size+1]?=Y (O #[I J 0,I J 0,I J 0] 34 (0,0))):=(hB4.block _ hr2).trans R2.out;have hr4:w.heap.size+1<W4.heap.size:=V hr2 hB4.size;have A4:N _:=xP hB4 A2.out;have L4:N (qi W4 g (og+j*5) ⟨⟨mp,ms,mf,mr⟩,ld⟩):=HL2.out.below hB4 HL2.out.lb;clear hb3 hbl hX hB4 P2 HB2 R2 A2 HL2 hr2 HAn g0 g1 g2 g3 g4 g5 g6 g7
 go_upto_region 9 with fail
 rw[<-hW4];clear hW4 cb0 cb1 cb2 fb hxl;obtain⟨y0,y1,y2⟩:=B4.out;obtain⟨z0,z1,z2⟩:=A4.out;have c0:=P4.out.co.c0;have l4:=L4.out.2.2.2.2;simp only at l4;obtain⟨⟨x0,x1,x2⟩,xf⟩:=ycg R4.out;rcases hcase with h1|⟨h1,h2⟩|⟨h1,h2,h3⟩
 ·go_wp2_with fail
  refine E (v:=y #[kP #[I J ra,I J rf,I J rr],T R,I J 0]) ?_ rfl ⟨rfl,xn HB4.out _ (kY _) _ _ _⟩;simp[results,Tryz.results56,go_sem,x0,x1,x2]
 ·go_wp2_with fail
  refine E (v:=y #[kP #[I J ra,I J rf,I J rr],T R,I J 0]) ?_ rfl ⟨rfl,xn HB4.out _ (kY _) _ _ _⟩;simp[results,Tryz.results56,go_sem,x0,x1,x2]
 ·subst h3
  go_wp2_with fail
  refine E (v:=y #[kP #[I J ra,I J rf,I J rr],T R,I J 0]) ?_ rfl ⟨rfl,xn HB4.out _ (kY _) _ _ _⟩;simp[results,Tryz.results56,go_sem,x0,x1,x2]
theorem ybP (q k:Int) (u:Bool) (w:A) (h:qS w b vb C):
 kV kI 56 #[X (Y ⟨b,0,B⟩),I J root,kP #[I J q,I J k,T u]] w fun e w'=>e=z (C.bgT q k u).val/\qS w' b vb (C.bgN root q k u)/\But (fun j=>j=b) w w':=by
 unfold Pg.Cr.bgT Pg.Cr.bgN
 by_cases hc:Pg.zK q k=0
 ·rw[if_neg (by simp[hc])]
  cases ho:C.K.on
  ·rw[if_neg (by simp)]
   unfold Pg.Cr.hit
   cases hn:Pg.kFnd C.L q with
   | none=>
     rw[if_neg (by simp),if_pos ⟨hc,rfl,by simp⟩];exact ya0 q k u hc ho hn w h
   | some j=>
     cases hwt:(Pg.kAt C.L q).wants k u
     ·rw[if_pos (by simp),if_neg (by simp)]
      exact(ybR q k u hc ho hn hwt w h).mono fun e w' ⟨he,hb⟩=>⟨he,h.grow hb,But.ygr hb⟩
     ·rw[if_neg (by simp),if_pos ⟨hc,rfl,by simp⟩]
      exact yaE q k u hc ho hn hwt w h
  ·rw[if_pos rfl,if_neg (by simp)]
   exact(yaZ q k u hc ho w h).mono fun e w' ⟨he,hb⟩=>⟨he,h.grow hb,But.ygr hb⟩
 ·rw[if_pos (by simpa using hc),if_neg (by simp[hc])]
  exact(ybQ q k u hc w h).mono fun e w' ⟨he,hb⟩=>⟨he,h.grow hb,But.ygr hb⟩
end
end
end Go.Proofs.YtdphiompijbelaaGreat
