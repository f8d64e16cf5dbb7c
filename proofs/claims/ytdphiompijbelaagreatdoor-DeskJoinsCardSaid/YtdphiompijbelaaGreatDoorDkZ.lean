import Derived.Deep.RegionWith
import Derived.Test.YtdphiompijbelaaGreatDoorDkY
set_option linter.all false
set_option maxRecDepth 100000
open Nat renaming le_refl->kP,le_trans->kS
open Go.Proofs.Tryz renaming prog->E
open Go.Ending renaming returned->M
open Bool renaming false->Z,true->z
open Go.RowKit renaming Hid->Q
open Go renaming cell_later->T,bodyPost_ret->U,World->kB,Calls->kC,Value->kN
open Go.World renaming block_lt_of_cell?->R,cell?_of_block->K,ownsRow->kI,frozen?_of_block->kR
open Go.IntKind renaming i64->P
open Go.Value renaming int->J,bool->V,pointer->O,tuple->D,slice->kJ,agg->kY
open Option renaming none->I,some->C
set_option maxHeartbeats 4000000
namespace Go.Proofs.YtdphiompijbelaaGreatDoor
open Go.RowKit Go.Sort
structure Mk (w:kB) (B k b:Nat) (lv:Int) (e:Pg.En) (v1 v2:kN) (ts ps:List Int) (p:Int):Prop where
 c0:w.cell? ⟨k,0,I⟩=C (O (C ⟨b,0,I⟩))
 c1:w.cell? ⟨k,1,I⟩=C (J P lv)
 c2:w.cell? ⟨k,2,I⟩=C (V e.t)
 c3:w.cell? ⟨k,3,I⟩=C (V e.l)
 c4:w.cell? ⟨k,4,I⟩=C (J P e.r)
 c5:w.cell? ⟨k,5,I⟩=C (V e.u)
 c6:w.cell? ⟨k,6,I⟩=C (V e.d)
 c7:w.cell? ⟨k,7,I⟩=C (J P e.f)
 c8:w.cell? ⟨k,8,I⟩=C v1
 c9:w.cell? ⟨k,9,I⟩=C v2
 c10:w.cell? ⟨k,10,I⟩=C (J P p)
 fz:∀o,w.frozen? ⟨k,o,I⟩=Z
 o1:w.ownsRow B 3 1 v1 ts.length (zv ts)
 o2:w.ownsRow B 3 1 v2 ps.length (zv ps)
 ne:∀j,v1.ownBlock=C j->v2.ownBlock≠C j
 n1:v1.ownBlock≠C k
 n2:v2.ownBlock≠C k
 hi:B<=k
def mkF (k:Nat) (v1 v2:kN):Nat->Prop:=fun j=>j=k\/v1.ownBlock=C j\/v2.ownBlock=C j
namespace Mk
variable {w w':kB} {B k b:Nat} {lv:Int} {e:Pg.En} {v1 v2:kN} {ts ps:List Int} {p:Int}
theorem lb (h:Mk w B k b lv e v1 v2 ts ps p):k<w.heap.size:=R _ _ h.c0
theorem lt (h:Mk w B k b lv e v1 v2 ts ps p) {j:Nat} (hj:mkF k v1 v2 j):B<=j/\j<w.heap.size:=by
 rcases hj with rfl|hj|hj
 ·exact⟨h.hi,h.lb⟩
 ·exact h.o1.lt j hj
 ·exact h.o2.lt j hj
theorem keep (h:Mk w B k b lv e v1 v2 ts ps p) {G:Nat->Prop} (hb:But G w w') (hG:∀j,mkF k v1 v2 j->¬G j):Mk w' B k b lv e v1 v2 ts ps p:=by
 have hk:w'.heap[k]?=w.heap[k]?:=hb.block k h.lb (hG k (.inl rfl));have c:∀{o:Nat} {v:kN},w.cell? ⟨k,o,I⟩=C v->w'.cell? ⟨k,o,I⟩=C v:=fun e=>(K hk).trans e
 exact⟨c h.c0,c h.c1,c h.c2,c h.c3,c h.c4,c h.c5,c h.c6,c h.c7,c h.c8,c h.c9,c h.c10,fun o=>(kR hk).trans (h.fz o),
  zb h.o1 hb fun j hj=>hG j (.inr (.inl hj)),zb h.o2 hb fun j hj=>hG j (.inr (.inr hj)),h.ne,h.n1,h.n2,h.hi⟩
theorem grow (h:Mk w B k b lv e v1 v2 ts ps p) (hb:Below w.heap.size w w'):Mk w' B k b lv e v1 v2 ts ps p:=h.keep (G:=fun _=>False) (But.yhl hb) fun _ _=>id
theorem setCell (h:Mk w B k b lv e v1 v2 ts ps p) (o:Nat) (v:kN):
 (∀o',o'≠o->(w.setCell ⟨k,o,I⟩ v).cell? ⟨k,o',I⟩=w.cell? ⟨k,o',I⟩)/\(w.setCell ⟨k,o,I⟩ v).ownsRow B 3 1 v1 ts.length (zv ts)/\(w.setCell ⟨k,o,I⟩ v).ownsRow B 3 1 v2 ps.length (zv ps):=by
 refine⟨fun o' ho=>World.cell?_setCell_other _ _ _ _ (fun e=>ho (by injection e with _ e;exact e.symm)),?_,?_⟩
 ·exact zc h.o1 fun j hj=>Below.heap_setCell _ _ _ _ fun e=>h.n1 (by rw[hj,e])
 ·exact zc h.o2 fun j hj=>Below.heap_setCell _ _ _ _ fun e=>h.n2 (by rw[hj,e])
theorem yl6 (h:Mk w B k b lv e v1 v2 ts ps p) (lv':Int):Mk (w.setCell ⟨k,1,I⟩ (J P lv')) B k b lv' e v1 v2 ts ps p:=by
 obtain⟨hc,q1,q2⟩:=h.setCell 1 (J P lv')
 exact⟨(hc 0 (by decide)).trans h.c0,World.cell?_setCell_same _ _ _ h.c1,(hc 2 (by decide)).trans h.c2,(hc 3 (by decide)).trans h.c3,(hc 4 (by decide)).trans h.c4,(hc 5 (by decide)).trans h.c5,(hc 6 (by decide)).trans h.c6,(hc 7 (by decide)).trans h.c7,(hc 8 (by decide)).trans h.c8,(hc 9 (by decide)).trans h.c9,(hc 10 (by decide)).trans h.c10,
  fun o=>by rw[World.frozen?_setCell];exact h.fz o,q1,q2,h.ne,h.n1,h.n2,h.hi⟩
theorem setE (h:Mk w B k b lv e v1 v2 ts ps p) (e':Pg.En):Mk ((((((w.setCell ⟨k,2,I⟩ (V e'.t)).setCell ⟨k,3,I⟩ (V e'.l)).setCell ⟨k,4,I⟩ (J P e'.r)).setCell ⟨k,5,I⟩ (V e'.u)).setCell ⟨k,6,I⟩ (V e'.d)).setCell ⟨k,7,I⟩ (J P e'.f)) B k b lv e' v1 v2 ts ps p:=by
 have hb:But (fun j=>j=k) w ((((((w.setCell ⟨k,2,I⟩ (V e'.t)).setCell ⟨k,3,I⟩ (V e'.l)).setCell ⟨k,4,I⟩ (J P e'.r)).setCell ⟨k,5,I⟩ (V e'.u)).setCell ⟨k,6,I⟩ (V e'.d)).setCell ⟨k,7,I⟩ (J P e'.f)):=
  ((((((But.refl (fun j=>j=k) w).setCell (a:=⟨k,2,I⟩) (.inr rfl) _).setCell (a:=⟨k,3,I⟩) (.inr rfl) _).setCell (a:=⟨k,4,I⟩) (.inr rfl) _).setCell (a:=⟨k,5,I⟩) (.inr rfl) _).setCell (a:=⟨k,6,I⟩) (.inr rfl) _).setCell (a:=⟨k,7,I⟩) (.inr rfl) _
 refine⟨?_,?_,?_,?_,?_,?_,?_,?_,?_,?_,?_,fun o=> ?_,zb h.o1 hb fun j hj e=>h.n1 (by rw[hj,e]),zb h.o2 hb fun j hj e=>h.n2 (by rw[hj,e]),h.ne,h.n1,h.n2,h.hi⟩<;>
  simp[go_sem,h.c0,h.c1,h.c2,h.c3,h.c4,h.c5,h.c6,h.c7,h.c8,h.c9,h.c10,h.fz]
end Mk
structure St (w0 w:kB) (k b:Nat) (F0:Nat->Prop) (S:Pg.Fs) (lv:Int) (e:Pg.En) (ts ps:List Int) (p:Int):Prop where
 body:∃B v1 v2 F,Mk w B k b lv e v1 v2 ts ps p/\zh w b S F/\But F0 w0 w/\(∀j,F j->F0 j\/w0.heap.size<=j)/\(∀j,F j->¬mkF k v1 v2 j)/\B<=w.heap.size/\∀j,mkF k v1 v2 j->F0 j\/w0.heap.size<=j
namespace St
variable {w0 w w':kB} {k b:Nat} {F0:Nat->Prop} {S:Pg.Fs} {lv:Int} {e:Pg.En} {ts ps:List Int} {p:Int}
theorem grow (h:St w0 w k b F0 S lv e ts ps p) (hb:Below w.heap.size w w'):St w0 w' k b F0 S lv e ts ps p:=by
 obtain⟨B,v1,v2,F,hM,hF,hB,h1,h2,hBB,hm⟩:=h.body;exact⟨B,v1,v2,F,hM.grow hb,hF.keep (G:=fun _=>False) (But.yhl hb) fun _ _=>id,hB.trans (But.yhl (F:=fun _=>False) hb) fun _ _ h=>h.elim,h1,h2,kS hBB hb.size,hm⟩
theorem but (h:St w0 w k b F0 S lv e ts ps p):But F0 w0 w:=by
 obtain⟨B,v1,v2,F,hM,hF,hB,h1,h2,hBB,hm⟩:=h.body;exact hB
theorem lb (h:St w0 w k b F0 S lv e ts ps p):k<w.heap.size:=by
 obtain⟨B,v1,v2,F,hM,hF,hB,h1,h2,hBB,hm⟩:=h.body;exact hM.lb
theorem leaves (h:St w0 w k b F0 S lv e ts ps p):∃F,zh w b S F/\But F0 w0 w/\∀j,F j->F0 j\/w0.heap.size<=j:=by
 obtain⟨B,v1,v2,F,hM,hF,hB,h1,h2,hBB,hm⟩:=h.body;exact⟨F,hF,hB,h1⟩
end St
theorem jR {b:Nat} {S:Pg.Fs} {F:Nat->Prop} (t p:Int) (w:kB) (h:zh w b S F):
 kC E 172 #[O (C ⟨b,0,I⟩),J P t,J P p] w fun en w'=>∃k,en=M (D #[O (C ⟨k,0,I⟩),J P (xG S t p)])/\St w w' k b F S (yht (zj S t p)) (yhr (zj S t p)) (tabs (zj S t p)) (qz (zj S t p)) p/\Below w.heap.size w w':=by
 have HF:=yeu t p w h;have H:Q (zh w b S F):=h;clear h;have htl:=xM (zj S t p);have hpl:=jZ (zj S t p);generalize zj S t p=X at*;generalize xG S t p=c at*;unfold ybB at HF;generalize yht X=lv at*;generalize yhr X=e at*
 go_enter Tryz.func172,Tryz.ntmps172
 go_wp2_with fail
 refine HF.mono ?_;rintro en w1 ⟨v1,v2,rfl,o1,o2,hne,hb⟩;obtain⟨a1,c1,rfl⟩:=zF o1;obtain⟨a2,c2,rfl⟩:=zF o2
 have HO1:Q (w1.ownsRow w.heap.size 3 1 (kJ a1 X.length c1) (tabs X).length (zv (tabs X))):=by rw[htl];exact o1
 have HO2:Q (w1.ownsRow w.heap.size 3 1 (kJ a2 X.length c2) (qz X).length (zv (qz X))):=by rw[hpl];exact o2
 have HN:Q _:=hne;have HB:Q _:=hb;clear o1 o2 hne hb HF
 go_wp2_with fail
 go_ret2
 have hB1:Below w.heap.size w (w1.alloc (.cells #[J P lv,V e.t,V e.l,J P e.r,V e.u,V e.d,J P e.f,kJ a1 X.length c1,kJ a2 X.length c2] 244)):=zA HB.out _;have hB2:=zA hB1 (.cells #[O (C ⟨b,0,I⟩),J P lv,V e.t,V e.l,J P e.r,V e.u,V e.d,J P e.f,kJ a1 X.length c1,kJ a2 X.length c2,J P p] 246);have hsz:=HB.out.size;refine⟨w1.heap.size+1,rfl,⟨w.heap.size,kJ a1 X.length c1,kJ a2 X.length c2,F,⟨?_,?_,?_,?_,?_,?_,?_,?_,?_,?_,?_,fun o=> ?_,(HO1.out.alloc _).alloc _,(HO2.out.alloc _).alloc _,HN.out,fun e=> ?_,fun e=> ?_,by omega⟩,?_,?_,?_,?_,hB2.size,?_⟩,hB2⟩
 iterate 12 (focus (simp[go_sem]))
 ·have:=(kI.lt HO1.out _ e).2;omega
 ·have:=(kI.lt HO2.out _ e).2;omega
 ·exact zh.keep (G:=fun _=>False) H.out (But.yhl hB2) fun _ _=>id
 ·exact But.yhl hB2
 ·exact fun j hj=> .inl hj
 ·intro j hj hm
  have:=zh.lt H.out hj;rcases hm with rfl|hm|hm
  ·omega
  ·have:=(kI.lt HO1.out _ hm).1;omega
  ·have:=(kI.lt HO2.out _ hm).1;omega
 ·intro j hm
  right;rcases hm with rfl|hm|hm
  ·omega
  ·exact(kI.lt HO1.out _ hm).1
  ·exact(kI.lt HO2.out _ hm).1
theorem yaP {w0 w:kB} {k b:Nat} {F0:Nat->Prop} {S:Pg.Fs} {lv:Int} {e:Pg.En} {ts ps:List Int} {p:Int} (h:St w0 w k b F0 S lv e ts ps p) (hl:ts.length<=5000):
 kC E 253 #[O (C ⟨k,0,I⟩)] w fun en w'=>en=M (J P ((ts.length:Int)-1))/\w'=w:=by
 obtain⟨B,v1,v2,F,hM,hF,hB,h1,h2,hBB,hm⟩:=h.body;obtain⟨a1,c1,rfl⟩:=zF hM.o1;have c8:=hM.c8;clear hM hF hB h1 h2 h hBB hm;generalize ts.length=n at*
 go_enter Tryz.func253,Tryz.ntmps253
 go_wp2_with fail
 go_ret
 exact⟨rfl,rfl⟩
theorem vq {w0 w:kB} {k b:Nat} {F0:Nat->Prop} {S:Pg.Fs} {lv:Int} {e:Pg.En} {ts ps:List Int} {p:Int} (h:St w0 w k b F0 S lv e ts ps p) (hl:ts.length<=5000):
 kC E 216 #[O (C ⟨k,0,I⟩)] w fun en w'=>en=M (V (decide (1<ts.length)))/\w'=w:=by
 have HE:=yaP h hl
 have HD:Q (decide (1<(ts.length:Int))=decide (1<ts.length)):=by
  rw[Q,decide_eq_decide];omega
 clear h;generalize ts.length=n at*
 go_enter Tryz.func216,Tryz.ntmps216
 go_wp2_with fail
 refine HE.mono ?_;rintro en w1 ⟨rfl,rfl⟩
 go_wp2_with fail
 go_ret
 exact⟨xJ HD.out,rfl⟩
theorem xE {b:Nat} {S:Pg.Fs} {F:Nat->Prop} (t p:Int) (w:kB) (h:zh w b S F):
 kC E 139 #[O (C ⟨b,0,I⟩),J P t,J P p] w fun en w'=>∃k,en=M (D #[O (C ⟨k,0,I⟩),J P (Pg.tFC S t p)])/\St w w' k b F S (yht (zj S t p)) (yhr (zj S t p)) (tabs (zj S t p)) (qz (zj S t p)) p/\Below w.heap.size w w':=by
 have HF:=jR t p w h
 have hleaf:xG S t p=0->(yhr (zj S t p)).l=(yhr (zj S t p)).t:=by
  intro hz;obtain⟨lv,e,tl,W⟩:=Pg.ylh hz;have hf:=Pg.yhR h.ok W.code;rw[<-W.en]at hf;obtain⟨_,hx⟩:=Pg.yhA hf;have ho:=W.on;rw[W.yhr];unfold Pg.En.on at ho;rcases hx with ⟨h1,h2,_⟩|⟨h1,_⟩
  ·rw[h1,h2]
  ·rw[h1]at ho ⊢
   simpa using ho
 have e1:Pg.tFC S t p=if xG S t p≠0 then xG S t p else if (yhr (zj S t p)).t=z then 0 else 5:=rfl;clear h;generalize Pg.tFC S t p=cc at*;generalize zj S t p=X at*;generalize xG S t p=c at*
 go_enter Tryz.func139,Tryz.ntmps139
 go_wp2_with fail
 refine HF.mono ?_;rintro en w1 ⟨k,rfl,hS,hb⟩;have HS:Q _:=hS;have HB:Q _:=hb;obtain⟨B,v1,v2,F',hM,_,_,_,_,_,_⟩:=hS.body;have c3:=hM.c3;clear hM hS hb HF
 by_cases hc:c=0
 ·subst hc
  rw[if_neg (by decide)]at e1;rw[hleaf rfl]at c3;clear hleaf;cases ht:(yhr X).t
  ·rw[ht]at e1 c3
   have E1:Q _:=e1;clear e1 ht
   go_wp2_with fail
   go_ret2
   exact⟨k,by rw[E1.out];rfl,HS.out,HB.out⟩
  ·rw[ht]at e1 c3
   have E1:Q _:=e1;clear e1 ht
   go_wp2_with fail
   go_ret2
   exact⟨k,by rw[E1.out];rfl,HS.out,HB.out⟩
 ·have hcb:(c==0)=Z:=by simpa using hc
  have E1:Q (cc=c):=by rw[Q,e1,if_pos hc]
  clear e1 hleaf hc c3
  go_wp2_with fail
  go_ret2
  exact⟨k,by rw[E1.out];rfl,HS.out,HB.out⟩
theorem qr {w0 w:kB} {k b:Nat} {F0:Nat->Prop} {S:Pg.Fs} {lv:Int} {e:Pg.En} {ts ps:List Int} {p:Int} (h:St w0 w k b F0 S lv e ts ps p):
 kC E 140 #[O (C ⟨k,0,I⟩)] w fun en w'=>en=M (e.map lv p).val/\Below w.heap.size w w':=by
 obtain⟨B,v1,v2,F,hM,hF,hB,h1,h2,hBB,hm⟩:=h.body;obtain⟨et,el,er,eu,ed,ef⟩:=e;obtain⟨W,hW⟩:∃W,W=w.alloc (.cells #[J P 0,J P 0,J P 0,J P 0] 76):=⟨_,rfl⟩
 have hBW:Below w.heap.size w W:=by rw[hW];exact zA (zR w) _
 have hM1:=hM.grow hBW
 have hz:W.cell? ⟨w.heap.size,0,I⟩=C (J P 0)/\W.cell? ⟨w.heap.size,1,I⟩=C (J P 0)/\W.cell? ⟨w.heap.size,2,I⟩=C (J P 0)/\W.cell? ⟨w.heap.size,3,I⟩=C (J P 0):=by rw[hW];simp[go_sem]
 have hzf:∀o,W.frozen? ⟨w.heap.size,o,I⟩=Z:=fun o=>by rw[hW];simp[go_sem]
 have hlW:w.heap.size<W.heap.size:=R _ _ hz.1;have HE:=yaO et el er eu ed ef lv p;have e1:Pg.mapV et el er eu ed ef lv p=(Pg.En.map ⟨et,el,er,eu,ed,ef⟩ lv p).val:=rfl;rw[e1]at HE;generalize Pg.En.map ⟨et,el,er,eu,ed,ef⟩ lv p=m at*;obtain⟨mp,ms,mf,mr⟩:=m;simp only[Pg.Mp.val]at HE ⊢
 have nk:¬k=w.heap.size:=by have:=hM.lb;omega
 have nk':¬w.heap.size=k:=by have:=hM.lb;omega
 have HZ:Q _:=hz;have HZF:Q _:=hzf;have HBW:Q _:=hBW;have k1:=hM1.c1;have k2:=hM1.c2;have k3:=hM1.c3;have k4:=hM1.c4;have k5:=hM1.c5;have k6:=hM1.c6;have k7:=hM1.c7;have k10:=hM1.c10;simp only at k2 k3 k4 k5 k6 k7;clear h hM hF hB h1 h2 hM1 hz hzf hBW e1 hBB hm
 go_enter Tryz.func140,Tryz.ntmps140
 go_wp2_with fail
 rw[<-hW];clear hW
 go_region_held3 (fun w'=>w'.cell? ⟨k,1,I⟩=C (J P lv)/\w'.cell? ⟨k,2,I⟩=C (V et)/\w'.cell? ⟨k,3,I⟩=C (V el)/\w'.cell? ⟨k,4,I⟩=C (J P er)/\w'.cell? ⟨k,5,I⟩=C (V eu)/\w'.cell? ⟨k,6,I⟩=C (V ed)/\w'.cell? ⟨k,7,I⟩=C (J P ef)/\w'.cell? ⟨k,10,I⟩=C (J P p)) (go_keep) (
  (go_at_call 173;refine(HE _).mono ?_;rintro en w2 ⟨rfl,hb2⟩
   have HB2:Q (Below W.heap.size W w2):=zT (zR W).drew hb2;have q1:=T HB2.out k1;have q2:=T HB2.out k2;have q3:=T HB2.out k3;have q4:=T HB2.out k4;have q5:=T HB2.out k5;have q6:=T HB2.out k6;have q7:=T HB2.out k7;have q10:=T HB2.out k10;obtain⟨z0,z1,z2,z3⟩:=qH HB2.out HZ.out;have zf:∀o,w2.frozen? ⟨w.heap.size,o,I⟩=Z:=fun o=>(HB2.out.frozen (p:=⟨w.heap.size,o,I⟩) hlW).trans (HZF.out o)
   clear hb2))
 have fin:Q (Below w.heap.size w ((((w2.setCell ⟨w.heap.size,0,I⟩ (J P mp)).setCell ⟨w.heap.size,1,I⟩ (J P ms)).setCell ⟨w.heap.size,2,I⟩ (J P mf)).setCell ⟨w.heap.size,3,I⟩ (J P mr))):=zo (zT HBW.out HB2.out) _ (kP _) _ _ _ _
 go_wp2_with fail
 refine U (v:=kY #[J P mp,J P ms,J P mf,J P mr]) ?_ rfl ⟨rfl,fin.out⟩;simp[results,Tryz.results140,go_sem,z0,z1,z2,z3]
theorem jt {w:kB} {B:Nat} {v:kN} {ts:List Int} {t:Int} (h:w.ownsRow B 3 1 v (ts++[t]).length (zv (ts++[t]))):∃g cap,v=kJ (C ⟨g,0,I⟩) (ts.length+1) cap/\w.cell? ⟨g,ts.length,I⟩=C (J P t)/\ts.length+1<=cap:=by
 rw[List.length_append,List.length_singleton]at h;have h2:=h;obtain⟨g,cap,rfl,_,_⟩:=h.form (by omega);refine⟨g,cap,rfl,?_,?_⟩
 ·rw[h.cellAt ts.length (by omega)]
  simp[zv]
 ·rcases h2.2 with ⟨h',_⟩|⟨g',cap',cur,h',_,_,hle,_⟩
  ·cases h'
  ·cases h';exact hle
theorem vA {w0 w:kB} {k b:Nat} {F0:Nat->Prop} {S:Pg.Fs} {lv:Int} {e:Pg.En} {ts ps:List Int} {p t q:Int} (e':Pg.En) (h:St w0 w k b F0 S lv e (ts++[t]) (ps++[q]) p) (hlen:ts.length=ps.length) (hl:ts.length<5000):
 kC E 215 #[O (C ⟨k,0,I⟩),e'.val] w fun en w'=>en=M (D #[])/\St w0 w' k b F0 (S.store t q (Pg.enc e'.t e'.l e'.r e'.u e'.d e'.f lv)) lv e' (ts++[t]) (ps++[q]) p:=by
 obtain⟨et,el,er,eu,ed,ef⟩:=e';simp only[Pg.En.val];have HE:=yaq et el er eu ed ef lv;have hv:0<=Pg.enc et el er eu ed ef lv/\Pg.enc et el er eu ed ef lv<18446744073709551616:=Pg.enc_bd _ _ _ _ _ _ _;generalize Pg.enc et el er eu ed ef lv=v at*;generalize Pg.yhp et el er eu ed ef lv=fl at*;obtain⟨hv0,hv1⟩:=hv;obtain⟨W,hW⟩:∃W,W=w.alloc (.cells #[V et,V el,J P er,V eu,V ed,J P ef] 82):=⟨_,rfl⟩
 have hBW:Below w.heap.size w W:=by rw[hW];exact zA (zR w) _
 have hx:W.cell? ⟨w.heap.size,0,I⟩=C (V et)/\W.cell? ⟨w.heap.size,1,I⟩=C (V el)/\W.cell? ⟨w.heap.size,2,I⟩=C (J P er)/\W.cell? ⟨w.heap.size,3,I⟩=C (V eu)/\W.cell? ⟨w.heap.size,4,I⟩=C (V ed)/\W.cell? ⟨w.heap.size,5,I⟩=C (J P ef):=by rw[hW];simp[go_sem]
 have nk:¬k=w.heap.size:=by have:=h.lb;omega
 have nk':¬w.heap.size=k:=by have:=h.lb;omega
 have hlw:w.heap.size<W.heap.size:=R _ _ hx.1;obtain⟨B,v1,v2,F,hM,hF,hB,h1,h2,hBB,hm⟩:=h.body;obtain⟨g1,cap1,rfl,ht,_⟩:=jt hM.o1;obtain⟨g2,cap2,rfl,hq,_⟩:=jt hM.o2;have HFl:Q (∀j,F j->j<w.heap.size):=fun j hj=>hF.lt hj;have HM:Q _:=hM;have HF:Q (zh w b S F):=hF;have HBt:Q _:=hB;have H1:Q _:=h1;have H2:Q _:=h2;have HBB:Q _:=hBB;have Hm:Q _:=hm;have HBW:Q _:=hBW;have k1:=(hM.grow hBW).c1;obtain⟨x0,x1,x2,x3,x4,x5⟩:=hx;clear hM hF hB h1 h2 h hBW hBB hm
 go_enter Tryz.func215,Tryz.ntmps215
 go_wp2_with fail
 rw[<-hW];clear hW
 go_region_held3 (fun w'=>w'.cell? ⟨w.heap.size,0,I⟩=C (V et)/\w'.cell? ⟨w.heap.size,1,I⟩=C (V el)/\w'.cell? ⟨w.heap.size,2,I⟩=C (J P er)/\w'.cell? ⟨w.heap.size,3,I⟩=C (V eu)/\w'.cell? ⟨w.heap.size,4,I⟩=C (V ed)/\w'.cell? ⟨w.heap.size,5,I⟩=C (J P ef)/\w'.cell? ⟨k,1,I⟩=C (J P lv)) (go_keep) (
  (go_at_call 251;refine(HE _).mono ?_;rintro en w2 ⟨rfl,hb2⟩
   have HB2:Q (Below W.heap.size W w2):=zT (zR W).drew hb2;have q0:=T HB2.out x0;have q1:=T HB2.out x1;have q2:=T HB2.out x2;have q3:=T HB2.out x3;have q4:=T HB2.out x4;have q5:=T HB2.out x5;have q6:=T HB2.out k1
   clear hb2))
 have HB3:Q (Below w.heap.size w w2):=zT HBW.out HB2.out;have hl2:w.heap.size<w2.heap.size:=R _ _ q0;have HM2:Q _:=HM.out.grow HB3.out;have HF2:Q (zh w2 b S F):=zh.keep (G:=fun _=>False) HF.out (But.yhl HB3.out) fun _ _=>id;have HBt2:Q (But F0 w0 w2):=HBt.out.trans (But.yhl (F:=fun _=>False) HB3.out) fun _ _ h=>h.elim;have X2:Q (w2.cell? ⟨w.heap.size,0,I⟩=C (V et)/\w2.cell? ⟨w.heap.size,1,I⟩=C (V el)/\w2.cell? ⟨w.heap.size,2,I⟩=C (J P er)/\w2.cell? ⟨w.heap.size,3,I⟩=C (V eu)/\w2.cell? ⟨w.heap.size,4,I⟩=C (V ed)/\w2.cell? ⟨w.heap.size,5,I⟩=C (J P ef)):=⟨q0,q1,q2,q3,q4,q5⟩;have k0:=HM2.out.c0;have k8:=HM2.out.c8;have k9:=HM2.out.c9;have kt:=T HB3.out ht;have kq:=T HB3.out hq;clear x0 x1 x2 x3 x4 x5 k1 HE q0 q1 q2 q3 q4 q5 q6 ht hq HM HF HBt HB2 HBW
 have HEnd:∀W',Below w2.heap.size w2 W'->kC E 253 #[O (C ⟨k,0,I⟩)] W' fun en w'=>en=M (J P (ts.length:Int))/\w'=W':=fun W' hb=>by
  have hS:St w0 W' k b F0 S lv e (ts++[t]) (ps++[q]) p:=St.grow ⟨B,_,_,F,HM2.out,HF2.out,HBt2.out,H1.out,H2.out,kS HBB.out HB3.out.size,Hm.out⟩ hb;refine(yaP hS (by simp;omega)).mono ?_;rintro en w' ⟨rfl,rfl⟩;exact⟨by simp,rfl⟩
 have HSt:∀W',Below w2.heap.size w2 W'->kC E 252 #[O (C ⟨b,0,I⟩),J P t,J P q,J .u64 v] W' fun en w'=>en=M (V (S.at' t q))/\∃F4,zh w' b (S.store t q v) F4/\But F w2 w'/\∀k,F4 k->F k\/w2.heap.size<=k:=fun W' hb=>by
  refine(ycc t q v hv0 hv1 W' (zh.keep (G:=fun _=>False) HF2.out (But.yhl hb) fun _ _=>id)).mono ?_;rintro en w' ⟨rfl,F4,f1,f2,f3⟩;exact⟨rfl,F4,f1,(But.yhl hb).trans f2 fun _ _ h=>h,fun j hj=>(f3 j hj).imp id fun h=>by have:=hb.size;omega⟩
 have hlen':ps.length=ts.length:=hlen.symm;rw[hlen']at k9 kq
 have i0:(0:Int)<=(ts.length:Int):=by omega
 have i1:(ts.length:Int)<(ts.length:Int)+1:=by omega
 have HL:Q _:=hlen;clear hlen hlen';generalize hn:ts.length=n at*;have HN:Q _:=hn;clear hn
 go_wp2_with fail
 go_region_held3 (fun w'=>w'.cell? ⟨k,0,I⟩=C (O (C ⟨b,0,I⟩))/\w'.cell? ⟨k,8,I⟩=C (kJ (C ⟨g1,0,I⟩) (n+1) cap1)/\w'.cell? ⟨k,9,I⟩=C (kJ (C ⟨g2,0,I⟩) (n+1) cap2)/\w'.cell? ⟨g1,n,I⟩=C (J P t)/\w'.cell? ⟨g2,n,I⟩=C (J P q)) (go_keep) (first
  | (go_at_call 253;refine(HEnd _ (by first|exact(zR w2).drew|exact zR w2)).mono ?_;rintro en w3 ⟨rfl,hw3⟩;subst w3)
  | (go_at_call 252;refine(HSt _ (by first|exact(zR w2).drew|exact zR w2)).mono ?_;rintro en w4 ⟨rfl,hf4⟩
     obtain⟨F4,f1,f2,f3⟩:=hf4;have f2':But F w2 w4:=f2;have HM4:Q _:=HM2.out.keep f2' fun j hj hF=>H2.out j hF hj;have HF4:Q (zh w4 b (S.store t q v) F4):=f1;have HF42:Q (But F w2 w4):=f2';have HF43:Q (∀k,F4 k->F k\/w2.heap.size<=k):=f3;have r0:=HM4.out.c0;have r8:=HM4.out.c8;have r9:=HM4.out.c9;rw[<-HL.out]at r9;have rt:w4.cell? ⟨g1,n,I⟩=C (J P t):=(f2'.cell (a:=⟨g1,n,I⟩) (R _ _ kt) fun hF=>H2.out g1 hF (.inr (.inl rfl))).trans kt;have rq:w4.cell? ⟨g2,n,I⟩=C (J P q):=(f2'.cell (a:=⟨g2,n,I⟩) (R _ _ kq) fun hF=>H2.out g2 hF (.inr (.inr rfl))).trans kq
     clear f1 f2 f3 f2'))
 have y:∀(o:Nat) (u:kN),w2.cell? ⟨w.heap.size,o,I⟩=C u->w4.cell? ⟨w.heap.size,o,I⟩=C u:=fun o u hu=>(HF42.out.cell (a:=⟨w.heap.size,o,I⟩) hl2 fun hF=>by have:=HFl.out _ hF;simp at this).trans hu;have y0:=y _ _ X2.out.1;have y1:=y _ _ X2.out.2.1;have y2:=y _ _ X2.out.2.2.1;have y3:=y _ _ X2.out.2.2.2.1;have y4:=y _ _ X2.out.2.2.2.2.1;have y5:=y _ _ X2.out.2.2.2.2.2;have r2:=HM4.out.c2;have r3:=HM4.out.c3;have r4:=HM4.out.c4;have r5:=HM4.out.c5;have r6:=HM4.out.c6;have r7:=HM4.out.c7;have rf:=HM4.out.fz;have hlk:=HM4.out.lb;have fin:Q _:=HM4.out.setE ⟨et,el,er,eu,ed,ef⟩
 have fbt:Q (But (fun j=>j=k) w4 ((((((w4.setCell ⟨k,2,I⟩ (V et)).setCell ⟨k,3,I⟩ (V el)).setCell ⟨k,4,I⟩ (J P er)).setCell ⟨k,5,I⟩ (V eu)).setCell ⟨k,6,I⟩ (V ed)).setCell ⟨k,7,I⟩ (J P ef))):=
  ((((((But.refl (fun j=>j=k) w4).setCell (a:=⟨k,2,I⟩) (.inr rfl) _).setCell (a:=⟨k,3,I⟩) (.inr rfl) _).setCell (a:=⟨k,4,I⟩) (.inr rfl) _).setCell (a:=⟨k,5,I⟩) (.inr rfl) _).setCell (a:=⟨k,6,I⟩) (.inr rfl) _).setCell (a:=⟨k,7,I⟩) (.inr rfl) _
 have F4n:Q (∀j,F4 j->¬mkF k (kJ (C ⟨g1,0,I⟩) (n+1) cap1) (kJ (C ⟨g2,0,I⟩) (ps.length+1) cap2) j):=fun j hj hm=>by
  rcases HF43.out j hj with h|h
  ·exact H2.out j h hm
  ·have:=(HM2.out.lt hm).2;omega
 have hhi:=HM2.out.hi;clear y r0 r8 r9 rt rq k0 k8 k9 kt kq HSt HEnd
 go_wp2_with fail
 go_end0
 refine⟨rfl,B,_,_,F4,fin.out,zh.keep HF4.out fbt.out fun j hj e=>F4n.out j hj (.inl e),?_,fun j hj=> ?_,F4n.out,?_,Hm.out⟩
 ·refine(HBt2.out.trans HF42.out fun i hi hF=> ?_).trans fbt.out fun i hi e=> ?_
  ·rcases H1.out i hF with h|h
   ·exact h
   ·omega
  ·rcases Hm.out i (.inl e)with h|h
   ·exact h
   ·omega
 ·rcases HF43.out j hj with h|h
  ·exact H1.out j h
  ·have:=HBt2.out.size;exact .inr (by omega)
 ·exact kS (kS HBB.out HB3.out.size) (kS HF42.out.size fbt.out.size)
theorem yfB {e:Pg.En} {lv:Nat} {p r:Int} (hf:e.fault lv=0) (ht:e.t=z) (hl:e.l=z) (hp:Pg.below p 4096=z) (h0:0<=r) (h1:r<=7):Pg.En.map ⟨e.t,e.l,r,e.u,e.d,e.f⟩ lv p=(e.map lv p).rts r:=by
 obtain⟨et,el,er,eu,ed,ef⟩:=e;simp only at ht hl;subst ht hl;unfold Pg.En.fault at hf
 have hf':Pg.yhp z z r eu ed ef lv=0:=by
  unfold Pg.yhp at hf ⊢;simp only at hf;rw[if_neg (by omega)]
  rw[if_neg (by simp),if_neg (by rintro (h|h|h|h)<;>simp_all<;>omega)]
  split at hf
  ·omega
  ·rw[if_neg (by simp)]at hf
   split at hf
   ·omega
   ·simpa using hf
 have o1:Pg.lOk z z er eu ed ef lv p=z:=by
  simp only[Pg.lOk,hf,hp];simp
 have o2:Pg.lOk z z r eu ed ef lv p=z:=by
  simp only[Pg.lOk,hf',hp];simp
 simp[Pg.En.map,Pg.Mp.rts,Pg.yke,Pg.ykL,Pg.yjB,Pg.yiy,o1,o2]
theorem yak {w w1:kB} (h:Below w.heap.size w w1) (r:Nat) (hr:w.heap.size<=r) (x0 x1 x2 x3 x4 x5:kN):
 Below w.heap.size w ((((((w1.setCell ⟨r,0,I⟩ x0).setCell ⟨r,1,I⟩ x1).setCell ⟨r,2,I⟩ x2).setCell ⟨r,3,I⟩ x3).setCell ⟨r,4,I⟩ x4).setCell ⟨r,5,I⟩ x5):=
 (((((h.setCell (p:=⟨r,0,I⟩) hr x0).setCell (p:=⟨r,1,I⟩) hr x1).setCell (p:=⟨r,2,I⟩) hr x2).setCell (p:=⟨r,3,I⟩) hr x3).setCell (p:=⟨r,4,I⟩) hr x4).setCell (p:=⟨r,5,I⟩) hr x5
theorem yep {b:Nat} {S:Pg.Fs} {F:Nat->Prop} (t p:Int) (w:kB) (h:zh w b S F):
 kC E 110 #[O (C ⟨b,0,I⟩),J P t,J P p] w fun en w'=>en=M (D #[(Pg.tFM S t p).val,(Pg.tFE S t p).val,J P (Pg.tFC S t p)])/\Below w.heap.size w w':=by
 obtain⟨W2,hW2⟩:∃W2,W2=(w.alloc (.cells #[J P 0,J P 0,J P 0,J P 0] 76)).alloc (.cells #[V Z,V Z,J P 0,V Z,V Z,J P 0] 82):=⟨_,rfl⟩
 have hB2:Below w.heap.size w W2:=by rw[hW2];exact zA (zA (zR w) _) _
 have r4:W2.cell? ⟨w.heap.size,0,I⟩=C (J P 0)/\W2.cell? ⟨w.heap.size,1,I⟩=C (J P 0)/\W2.cell? ⟨w.heap.size,2,I⟩=C (J P 0)/\W2.cell? ⟨w.heap.size,3,I⟩=C (J P 0):=by rw[hW2];simp[go_sem]
 have r6:W2.cell? ⟨w.heap.size+1,0,I⟩=C (V Z)/\W2.cell? ⟨w.heap.size+1,1,I⟩=C (V Z)/\W2.cell? ⟨w.heap.size+1,2,I⟩=C (J P 0)/\W2.cell? ⟨w.heap.size+1,3,I⟩=C (V Z)/\W2.cell? ⟨w.heap.size+1,4,I⟩=C (V Z)/\W2.cell? ⟨w.heap.size+1,5,I⟩=C (J P 0):=by rw[hW2];simp[go_sem]
 have rf4:∀o,W2.frozen? ⟨w.heap.size,o,I⟩=Z:=fun o=>by rw[hW2];simp[go_sem]
 have rf6:∀o,W2.frozen? ⟨w.heap.size+1,o,I⟩=Z:=fun o=>by rw[hW2];simp[go_sem]
 have hsz:W2.heap.size=w.heap.size+2:=by rw[hW2];simp
 have HW:=xE t p W2 (h.keep (G:=fun _=>False) (But.yhl hB2) fun _ _=>id);have HR4:Q _:=r4;have HR6:Q _:=r6;have HF4:Q _:=rf4;have HF6:Q _:=rf6;have HB2:Q _:=hB2;have e2:Pg.tFM S t p=if Pg.tFC S t p=0 then(yhr (zj S t p)).map (yht (zj S t p)) p else .zz:=rfl;have e3:Pg.tFE S t p=if Pg.tFC S t p=0 then yhr (zj S t p)else Pg.En.zero:=rfl;generalize Pg.tFC S t p=cc at*;generalize Pg.tFM S t p=mm at*;generalize Pg.tFE S t p=ee at*;generalize zj S t p=X at*;generalize yht X=lv at*;generalize yhr X=e at*;have H0:Q (zh w b S F):=h;clear h r4 r6 rf4 rf6 hB2
 go_enter Tryz.func110,Tryz.ntmps110
 go_wp2_with fail
 rw[<-hW2];clear hW2;refine HW.mono ?_;rintro en w3 ⟨k,rfl,hS,hb3⟩;obtain⟨z0,z1,z2,z3⟩:=qH hb3 HR4.out;obtain⟨y0,y1,y2,y3,y4,y5⟩:=qy hb3 HR6.out;have zf:∀o,w3.frozen? ⟨w.heap.size,o,I⟩=Z:=fun o=>(hb3.frozen (p:=⟨w.heap.size,o,I⟩) (by show w.heap.size<_;omega)).trans (HF4.out o);have yf:∀o,w3.frozen? ⟨w.heap.size+1,o,I⟩=Z:=fun o=>(hb3.frozen (p:=⟨w.heap.size+1,o,I⟩) (by show w.heap.size+1<_;omega)).trans (HF6.out o);have HB3:Q (Below w.heap.size w w3):=zT HB2.out hb3;have hl3:w.heap.size<w3.heap.size:=R _ _ z0;have hl3':w.heap.size+1<w3.heap.size:=R _ _ y0;clear HW hb3 HR4 HR6 HF4 HF6 HB2
 by_cases hc:cc=0
 ·subst hc
  rw[if_pos rfl]at e2 e3;have E2:Q _:=e2;have E3:Q _:=e3;have HMap:=fun W' (hb:Below w3.heap.size w3 W')=>qr (hS.grow hb);obtain⟨B,v1,v2,F',hM,_,_,_,_,_,hmk⟩:=hS.body;have hki:k<w.heap.size\/W2.heap.size<=k:=(hmk k (.inl rfl)).imp (fun h=>zh.lt H0.out h) id;clear hmk;have k2:=hM.c2;have k3:=hM.c3;have k4:=hM.c4;have k5:=hM.c5;have k6:=hM.c6;have k7:=hM.c7;have hlk:=hM.lb;clear hM hS e2 e3;generalize e.map lv p=m at*;obtain⟨mp,ms,mf,mr⟩:=m;obtain⟨et,el,er,eu,ed,ef⟩:=e;simp only at k2 k3 k4 k5 k6 k7;simp only[Pg.Mp.val]at HMap
  have n1:¬k=w.heap.size:=by omega
  have n2:¬k=w.heap.size+1:=by omega
  have n1':¬w.heap.size=k:=by omega
  have n2':¬w.heap.size+1=k:=by omega
  go_wp2_with fail
  go_region_held3 (fun w'=>w'.cell? ⟨k,2,I⟩=C (V et)/\w'.cell? ⟨k,3,I⟩=C (V el)/\w'.cell? ⟨k,4,I⟩=C (J P er)/\w'.cell? ⟨k,5,I⟩=C (V eu)/\w'.cell? ⟨k,6,I⟩=C (V ed)/\w'.cell? ⟨k,7,I⟩=C (J P ef)) (go_keep) (
   (go_at_call 140;refine(HMap _ (by first|exact(zR w3).drew|exact zR w3)).mono ?_;rintro en w4 ⟨rfl,hb4⟩
    have HB4:Q (Below w3.heap.size w3 w4):=zT (zR w3).drew hb4;have q2:=T HB4.out k2;have q3:=T HB4.out k3;have q4:=T HB4.out k4;have q5:=T HB4.out k5;have q6:=T HB4.out k6;have q7:=T HB4.out k7;have x0:=T HB4.out z0;have x1:=T HB4.out z1;have x2:=T HB4.out z2;have x3:=T HB4.out z3;have u0:=T HB4.out y0;have u1:=T HB4.out y1;have u2:=T HB4.out y2;have u3:=T HB4.out y3;have u4:=T HB4.out y4;have u5:=T HB4.out y5;have xf:∀o,w4.frozen? ⟨w.heap.size,o,I⟩=Z:=fun o=>(HB4.out.frozen (p:=⟨w.heap.size,o,I⟩) hl3).trans (zf o);have uf:∀o,w4.frozen? ⟨w.heap.size+1,o,I⟩=Z:=fun o=>(HB4.out.frozen (p:=⟨w.heap.size+1,o,I⟩) hl3').trans (yf o)
    clear hb4))
  go_wp2_with fail
  refine U (v:=D #[kY #[J P mp,J P ms,J P mf,J P mr],kY #[V et,V el,J P er,V eu,V ed,J P ef],J P 0]) ?_ rfl ⟨by rw[E2.out,E3.out];rfl,?_⟩
  ·simp[results,Tryz.results110,go_sem,x0,x1,x2,x3,u0,u1,u2,u3,u4,u5]
  ·exact yak (zo (zT HB3.out HB4.out) w.heap.size (kP _) _ _ _ _) (w.heap.size+1) (by omega) _ _ _ _ _ _
 ·have hcb:(cc !=0)=z:=by simp[hc]
  rw[if_neg hc]at e2 e3;have E2:Q _:=e2;have E3:Q _:=e3;clear e2 e3 hc hS
  go_wp2_with fail
  refine U (v:=D #[kY #[J P 0,J P 0,J P 0,J P 0],kY #[V Z,V Z,J P 0,V Z,V Z,J P 0],J P cc]) ?_ rfl ⟨by rw[E2.out,E3.out];rfl,?_⟩
  ·simp[results,Tryz.results110,go_sem,z0,z1,z2,z3,y0,y1,y2,y3,y4,y5]
  ·exact yak (zo HB3.out w.heap.size (kP _) _ _ _ _) (w.heap.size+1) (by omega) _ _ _ _ _ _
theorem yeK (r:Int):Pg.check 0 0 0 r=if r<0\/7<r then 1 else 0:=by
 unfold Pg.check
 split<;>split<;>simp_all[Pg.below,Pg.span]<;>omega
theorem ydt {X:List Pg.Sp} (h:1<=X.length):∃Y s,X=Y++[s]:=by
 rcases List.eq_nil_or_concat X with rfl|⟨Y,s,rfl⟩
 ·simp at h
 ·exact⟨Y,s,by simp⟩
theorem vJ {S:Pg.Fs} {t p:Int} (hz:xG S t p=0):∃Y s lv,zj S t p=Y++[s]/\Pg.Way S t p (Y++[s]) lv s.e s.table/\s.level=lv/\lv<=3/\Y.length<=3/\(s.place:Int)=Pg.index p (lv:Int)/\s.place=Pg.ix p lv:=by
 obtain⟨lv,e,tl,W⟩:=Pg.ylh hz;have h4:=W.len
 have hX1:1<=(zj S t p).length:=by
  cases hX:zj S t p with
  | nil=>
    have h5:=W.yht;rw[hX]at h5 h4;simp[yht]at h5 h4;omega
  | cons a l=>simp
 obtain⟨Y,s,hY⟩:=ydt hX1;have e1:yht (Y++[s])=s.level:=jJ Y s;have e2:yhr (Y++[s])=s.e:=jI Y s
 have e3:lastT (Y++[s])=s.table:=by simp[lastT]
 have hi:=yas S t p (i:=Y.length) (by rw[hY];simp);rw[hY]at W h4 hi;rw[List.length_append,List.length_singleton]at h4;have hl:=W.yht;rw[e1]at hl
 have hl':s.level=lv:=by omega
 have he:=W.yhr;rw[e2]at he;have ht:=W.lastT;rw[e3]at ht;subst he ht
 have hpl:(qz (Y++[s])).getD Y.length 0=(s.place:Int):=by simp[qz]
 have hix:=Pg.yh7 hi.1 (lv:=lv) (by omega)
 have hpp:(s.place:Int)=Pg.index p (lv:Int):=by rw[<-hpl,hi.2.2,show(3-(Y.length:Int))=(lv:Int) by omega]
 exact⟨Y,s,lv,hY,W,hl',by omega,by omega,hpp,by omega⟩
theorem ybG {b:Nat} {S:Pg.Fs} {F:Nat->Prop} (t p r:Int) (w:kB) (h:zh w b S F):
 kC E 182 #[O (C ⟨b,0,I⟩),J P t,J P p,J P r] w fun en w'=>en=M (D #[(Pg.prM S t p r).val,J P (Pg.prC S t p r)])/\∃F',zh w' b (Pg.prS S t p r) F'/\But F w w'/\∀k,F' k->F k\/w.heap.size<=k:=by
 have HC:=zE 0 0 0 r;rw[yeK]at HC;have H:Q (zh w b S F):=h;obtain⟨W1,hW1⟩:∃W1,W1=w.alloc (.cells #[J P 0,J P 0,J P 0,J P 0] 76):=⟨_,rfl⟩
 have hB1:Below w.heap.size w W1:=by rw[hW1];exact zA (zR w) _
 have r4:W1.cell? ⟨w.heap.size,0,I⟩=C (J P 0)/\W1.cell? ⟨w.heap.size,1,I⟩=C (J P 0)/\W1.cell? ⟨w.heap.size,2,I⟩=C (J P 0)/\W1.cell? ⟨w.heap.size,3,I⟩=C (J P 0):=by rw[hW1];simp[go_sem]
 have rf4:∀o,W1.frozen? ⟨w.heap.size,o,I⟩=Z:=fun o=>by rw[hW1];simp[go_sem]
 have HR4:Q _:=r4;have HF4:Q _:=rf4;have HB1:Q _:=hB1;have fin0:Q (∀w',Below w.heap.size w w'->∃F',zh w' b S F'/\But F w w'/\∀k,F' k->F k\/w.heap.size<=k):=fun w' hb=>⟨F,zh.keep (G:=fun _=>False) H.out (But.yhl hb) fun _ _=>id,But.yhl hb,fun k hk=> .inl hk⟩
 by_cases hr:r<0\/7<r
 ·have e1:Pg.prC S t p r=1:=by rw[Pg.prC,if_pos hr]
  have e2:Pg.prM S t p r= .zz:=by rw[Pg.prM,e1,if_neg (by decide)]
  have e3:Pg.prS S t p r=S:=by rw[Pg.prS,e1,if_neg (by decide)]
  rw[e1,e2,e3];rw[if_pos hr]at HC;clear h e1 e2 e3 hr r4 rf4 hB1
  go_enter Tryz.func182,Tryz.ntmps182
  go_wp2_with fail
  rw[<-hW1];clear hW1;refine(HC _).mono ?_;rintro en w2 ⟨rfl,hb2⟩;obtain⟨z0,z1,z2,z3⟩:=qH hb2 HR4.out;have hlw:w.heap.size<W1.heap.size:=R _ _ HR4.out.1;have zf:∀o,w2.frozen? ⟨w.heap.size,o,I⟩=Z:=fun o=>(hb2.frozen (p:=⟨w.heap.size,o,I⟩) hlw).trans (HF4.out o);have HB2:Q (Below w.heap.size w w2):=zT HB1.out hb2;clear hb2
  go_wp2_with fail
  refine U (v:=D #[kY #[J P 0,J P 0,J P 0,J P 0],J P 1]) ?_ rfl ⟨rfl,fin0.out _ (zo HB2.out w.heap.size (kP _) _ _ _ _)⟩;simp[results,Tryz.results182,go_sem,z0,z1,z2,z3]
 ·have e1:Pg.prC S t p r=Pg.tFC S t p:=by rw[Pg.prC,if_neg hr]
  rw[if_neg hr]at HC;have HW:=fun w2 (hb:Below w.heap.size w w2)=>xE t p w2 (h.keep (G:=fun _=>False) (But.yhl hb) fun _ _=>id)
  by_cases hc:Pg.tFC S t p=0
  ·have hz:xG S t p=0:=by
    by_cases hz:xG S t p=0
    ·exact hz
    ·rw[Pg.tFC,if_pos hz]at hc
     exact absurd hc hz
   obtain⟨Y,s,lv,hY,W,hsl,hl3,hY3,hpl,hix⟩:=vJ hz;have hf:=Pg.yhR h.ok W.code;rw[<-W.en]at hf
   have ht:s.e.t=z:=by
    rw[Pg.tFC,hz,if_neg (by decide),hY,W.yhr]at hc;cases hst:s.e.t
    ·rw[hst]at hc;simp at hc
    ·rfl
   have hl:s.e.l=z:=by
    have:=W.on;unfold Pg.En.on at this;rw[ht]at this
    simpa using this
   have e5:Pg.tFM S t p=s.e.map (lv:Int) p:=by rw[Pg.tFM,if_pos hc,hY,W.yhr,W.yht]
   have e2:Pg.prM S t p r=Pg.En.map ⟨s.e.t,s.e.l,r,s.e.u,s.e.d,s.e.f⟩ (lv:Int) p:=by rw[Pg.prM,e1,if_pos hc,e5];exact(yfB hf ht hl W.below (by omega) (by omega)).symm
   have e3:Pg.prS S t p r=S.store s.table (s.place:Int) (Pg.enc s.e.t s.e.l r s.e.u s.e.d s.e.f (lv:Int)):=by
    rw[Pg.prS,e1,if_pos hc,hY,W.lastT,W.yht,W.yhr,hpl]
   have e6:tabs (Y++[s])=tabs Y++[s.table]:=by simp[tabs]
   have e7:qz (Y++[s])=qz Y++[(s.place:Int)]:=by simp[qz]
   rw[e1,e2,e3,hc];rw[hc,hY,W.yht,W.yhr,e6,e7]at HW
   have hlen:(tabs Y).length=(qz Y).length:=by rw[xM,jZ]
   have hlt:(tabs Y).length<4000:=by rw[xM];omega
   clear e1 e2 e3 e5 e6 e7 hf hY W hix hpl hc hz h r4 rf4 hB1 hr;obtain⟨st,sp,sl,sa,⟨et,el,er,eu,ed,ef⟩⟩:=s;simp only at ht hl HW ⊢;generalize (sp:Int)=pl at*;subst ht hl;generalize hmm:Pg.En.map ⟨z,z,r,eu,ed,ef⟩ (lv:Int) p=m at*;have HMM:Q _:=hmm;clear hmm;obtain⟨mp,ms,mf,mr⟩:=m;simp only[Pg.Mp.val]
   go_enter Tryz.func182,Tryz.ntmps182
   go_wp2_with fail
   rw[<-hW1];clear hW1;refine(HC _).mono ?_;rintro en w2 ⟨rfl,hb2⟩;obtain⟨z0,z1,z2,z3⟩:=qH hb2 HR4.out;have hlw:w.heap.size<W1.heap.size:=R _ _ HR4.out.1;have hlw2:w.heap.size<w2.heap.size:=R _ _ z0;have zf:∀o,w2.frozen? ⟨w.heap.size,o,I⟩=Z:=fun o=>(hb2.frozen (p:=⟨w.heap.size,o,I⟩) hlw).trans (HF4.out o);have HB2:Q (Below w.heap.size w w2):=zT HB1.out hb2;clear hb2 HC HR4 HF4 HB1
   go_wp2_with fail
   refine(HW _ HB2.out).mono ?_;rintro en w3 ⟨k,rfl,hS,hb3⟩;have HS:Q _:=hS;obtain⟨B,v1,v2,F',hM,_,_,_,_,_,_⟩:=hS.body;have hlk:=hM.lb;have k2:=hM.c2;have k3:=hM.c3;have k4:=hM.c4;have k5:=hM.c5;have k6:=hM.c6;have k7:=hM.c7;simp only at k2 k3 k4 k5 k6 k7;have HZ:Q _:=qH hb3 ⟨z0,z1,z2,z3⟩;have HZF:Q (∀o,w3.frozen? ⟨w.heap.size,o,I⟩=Z):=fun o=>(hb3.frozen (p:=⟨w.heap.size,o,I⟩) hlw2).trans (zf o);clear hM hS HW z0 z1 z2 z3 zf hb3;have HP:=fun w4 (h4:St w2 w4 k b F S (lv:Int) ⟨z,z,er,eu,ed,ef⟩ (tabs Y++[st]) (qz Y++[pl]) p)=>vA ⟨z,z,r,eu,ed,ef⟩ h4 hlen (by omega);simp only[Pg.En.val]at HP
   go_wp2_with fail
   refine(HP _ (HS.out.grow (zA (zR w3) _))).mono ?_;rintro en w5 ⟨rfl,h5⟩;have HMap:=qr h5;obtain⟨F5,f1,f2,f3⟩:=h5.leaves
   have hz5:w5.heap[w.heap.size]?=w3.heap[w.heap.size]?:=by
    have q1:=h5.but.block w.heap.size hlw2 fun hF=>by have:=zh.lt H.out hF;omega
    have q2:=HS.out.but.block w.heap.size hlw2 fun hF=>by have:=zh.lt H.out hF;omega
    exact q1.trans q2.symm
   have Z5:Q (w5.cell? ⟨w.heap.size,0,I⟩=C (J P 0)/\w5.cell? ⟨w.heap.size,1,I⟩=C (J P 0)/\w5.cell? ⟨w.heap.size,2,I⟩=C (J P 0)/\w5.cell? ⟨w.heap.size,3,I⟩=C (J P 0)):=⟨(K hz5).trans HZ.out.1,(K hz5).trans HZ.out.2.1,(K hz5).trans HZ.out.2.2.1,(K hz5).trans HZ.out.2.2.2⟩;have ZF5:Q (∀o,w5.frozen? ⟨w.heap.size,o,I⟩=Z):=fun o=>(kR hz5).trans (HZF.out o);have hl5:w.heap.size<w5.heap.size:=R _ _ Z5.out.1;rw[HMM.out]at HMap;simp only[Pg.Mp.val]at HMap;have F1:Q (zh w5 b (S.store st pl (Pg.enc z z r eu ed ef (lv:Int))) F5):=f1;have F2:Q (But F w w5):=(But.yhl HB2.out).trans f2 fun _ _ h=>h;have F3:Q (∀j,F5 j->F j\/w2.heap.size<=j):=f3;clear h5 f1 f2 f3 HP k2 k3 k4 k5 k6 k7 hz5 HS HZ HZF
   go_wp2_with fail
   refine HMap.mono ?_;rintro en w6 ⟨rfl,hb6⟩;obtain⟨z0,z1,z2,z3⟩:=qH hb6 Z5.out;have zf:∀o,w6.frozen? ⟨w.heap.size,o,I⟩=Z:=fun o=>(hb6.frozen (p:=⟨w.heap.size,o,I⟩) hl5).trans (ZF5.out o);have HB6:Q _:=hb6;clear hb6 HMap Z5 ZF5
   go_wp2_with fail
   refine U (v:=D #[kY #[J P mp,J P ms,J P mf,J P mr],J P 0]) ?_ rfl ⟨rfl,F5,?_,?_,fun j hj=> ?_⟩
   ·simp[results,Tryz.results182,go_sem,z0,z1,z2,z3]
   ·refine zh.keep (G:=fun j=>j=w.heap.size) F1.out ?_ fun j hj e=> ?_
    ·iterate 4 refine But.setCell ?_ (by exact .inr rfl) _
     exact But.yhl HB6.out
    ·rcases F3.out j hj with h|h
     ·have:=zh.lt H.out h;omega
     ·omega
   ·iterate 4 refine But.setCell ?_ (by exact .inl (kP _)) _
    exact F2.out.trans (But.yhl (F:=fun _=>False) HB6.out) fun _ _ h=>h.elim
   ·exact(F3.out j hj).imp id fun h=>by omega
  ·have e2:Pg.prM S t p r= .zz:=by rw[Pg.prM,e1,if_neg hc]
   have e3:Pg.prS S t p r=S:=by rw[Pg.prS,e1,if_neg hc]
   rw[e1,e2,e3];clear h e1 e2 e3 hr r4 rf4 hB1;generalize Pg.tFC S t p=cc at*
   have hcb:(cc !=0)=z:=by simp[hc]
   clear hc
   go_enter Tryz.func182,Tryz.ntmps182
   go_wp2_with fail
   rw[<-hW1];clear hW1;refine(HC _).mono ?_;rintro en w2 ⟨rfl,hb2⟩;obtain⟨z0,z1,z2,z3⟩:=qH hb2 HR4.out;have hlw:w.heap.size<W1.heap.size:=R _ _ HR4.out.1;have hlw2:w.heap.size<w2.heap.size:=R _ _ z0;have zf:∀o,w2.frozen? ⟨w.heap.size,o,I⟩=Z:=fun o=>(hb2.frozen (p:=⟨w.heap.size,o,I⟩) hlw).trans (HF4.out o);have HB2:Q (Below w.heap.size w w2):=zT HB1.out hb2;clear hb2 HC HR4 HF4 HB1
   go_wp2_with fail
   refine(HW _ HB2.out).mono ?_;rintro en w3 ⟨k,rfl,_,hb3⟩;obtain⟨y0,y1,y2,y3⟩:=qH hb3 ⟨z0,z1,z2,z3⟩;have yf:∀o,w3.frozen? ⟨w.heap.size,o,I⟩=Z:=fun o=>(hb3.frozen (p:=⟨w.heap.size,o,I⟩) hlw2).trans (zf o);have HB3:Q (Below w.heap.size w w3):=zT HB2.out hb3;clear hb3 z0 z1 z2 z3 zf HW
   go_wp2_with fail
   refine U (v:=D #[kY #[J P 0,J P 0,J P 0,J P 0],J P cc]) ?_ rfl ⟨rfl,fin0.out _ (zo HB3.out w.heap.size (kP _) _ _ _ _)⟩;simp[results,Tryz.results182,go_sem,y0,y1,y2,y3]
theorem ybu (s:ByteArray) (hs:s.size<=1000000) (w:kB) (hG:jz w):
 kC E 39 #[.string s] w fun e w'=>∃n,e=M (D #[J P n,V (Pg.numD s.data.toList).isSome])/\(∀v,Pg.numD s.data.toList=C v->n=v)/\Below w.heap.size w w':=by
 obtain⟨tabs,⟨tp1,a1,hv1⟩,⟨tp2,a2,hv2⟩⟩:=hG;rcases ha:Lib.atoiAll s.data.toList with v|_|_
 ·obtain⟨b0,b1⟩:=Lib.atoiAll_bounds ha
  obtain⟨hN,hE⟩:=ygr _ _ ha;have HA:=Tryz.strconv_Atoi_ok s (by omega) v ha w;have HI:=fun w' (hb:Below w.heap.size w w')=>Tryz.strconv_Itoa v (by omega) (by omega) w' (jw tabs hb);rw[hN];have HE:Q (∀x,Pg.numD s.data.toList=C x->v=x):=fun x e=>(hE x e).symm;clear ha hN hE tabs hv1 hv2
  by_cases h0:0<=v
  ·by_cases h1:v<=100000000
   ·have HF:Q (decide (0<=v/\v<=100000000/\Lib.itoa v=s.data.toList)=(Lib.itoa v==s.toList)):=by
     rw[Q,Bool.eq_iff_iff];simp[h0,h1,Lib.toList_data]
    generalize decide (0<=v/\v<=100000000/\Lib.itoa v=s.data.toList)=bb at*
    go_enter Tryz.func39,Tryz.ntmps39
    go_wp2_with fail
    refine HA.mono ?_;rintro e w1 ⟨rfl,hw1⟩
    have hb1:Below w.heap.size w w1:=by
     rcases hw1 with rfl|⟨t,rfl⟩
     ·exact Below.refl _ _
     ·exact Lib.bytesWorld_below _ _ _
    have HB1:Q _:=hb1;have HI1:=HI _ hb1;clear hb1 hw1 HA HI
    go_wp2_with fail
    refine HI1.mono ?_;rintro e w2 ⟨rfl,q,os,hw2⟩;have HB2:Q (Below w1.heap.size w1 w2):=(by rw[hw2];exact yaj _ _ _);clear hw2 HI1
    go_wp2_with fail
    rw[HF.out];refine U (v:=D #[J P v,V (Lib.itoa v==s.toList)]) ?_ rfl ⟨v,rfl,HE.out,zT HB1.out HB2.out⟩;simp[results,Tryz.results39,go_sem]
   ·have HF:Q (decide (0<=v/\v<=100000000/\Lib.itoa v=s.data.toList)=Z):=decide_eq_false fun e=>h1 e.2.1
    rw[HF.out];clear HI HF
    go_enter Tryz.func39,Tryz.ntmps39
    go_wp2_with fail
    refine HA.mono ?_;rintro e w1 ⟨rfl,hw1⟩
    have hb1:Below w.heap.size w w1:=by
     rcases hw1 with rfl|⟨t,rfl⟩
     ·exact Below.refl _ _
     ·exact Lib.bytesWorld_below _ _ _
    have HB1:Q _:=hb1;clear hb1 hw1 HA
    go_wp2_with fail
    refine U (v:=D #[J P v,V Z]) ?_ rfl ⟨v,rfl,HE.out,HB1.out⟩;simp[results,Tryz.results39,go_sem]
  ·have HF:Q (decide (0<=v/\v<=100000000/\Lib.itoa v=s.data.toList)=Z):=decide_eq_false fun e=>h0 e.1
   rw[HF.out];clear HI HF
   go_enter Tryz.func39,Tryz.ntmps39
   go_wp2_with fail
   refine HA.mono ?_;rintro e w1 ⟨rfl,hw1⟩
   have hb1:Below w.heap.size w w1:=by
    rcases hw1 with rfl|⟨t,rfl⟩
    ·exact Below.refl _ _
    ·exact Lib.bytesWorld_below _ _ _
   have HB1:Q _:=hb1;clear hb1 hw1 HA
   go_wp2_with fail
   refine U (v:=D #[J P v,V Z]) ?_ rfl ⟨v,rfl,HE.out,HB1.out⟩;simp[results,Tryz.results39,go_sem]
 ·have HN:Q (Pg.numD s.data.toList=I):=by unfold Q Pg.numD;rw[ha]
  have HA:=Tryz.strconv_Atoi_syntax_var s (by omega) ha tp1 _ w hv1;clear ha tabs hv1 hv2
  go_enter Tryz.func39,Tryz.ntmps39
  go_wp2_with fail
  refine HA.mono ?_;rintro e w1 ⟨N,rfl,_,_,hb1⟩;have HB1:Q _:=hb1;clear hb1 HA
  go_wp2_with fail
  rw[HN.out];refine U (v:=D #[J P 0,V Z]) ?_ rfl ⟨0,rfl,(fun _ e=>by cases e),HB1.out⟩;simp[results,Tryz.results39,go_sem]
 ·have HN:Q (Pg.numD s.data.toList=I):=by unfold Q Pg.numD;rw[ha]
  have HA:=Tryz.strconv_Atoi_range_var s (by omega) ha tp2 _ w hv2;generalize Lib.atoiSat s.data.toList=sat at*;clear ha tabs hv1 hv2
  go_enter Tryz.func39,Tryz.ntmps39
  go_wp2_with fail
  refine HA.mono ?_;rintro e w1 ⟨N,rfl,_,_,hb1⟩;have HB1:Q _:=hb1;clear hb1 HA
  go_wp2_with fail
  rw[HN.out];refine U (v:=D #[J P sat,V Z]) ?_ rfl ⟨sat,rfl,(fun _ e=>by cases e),HB1.out⟩;simp[results,Tryz.results39,go_sem]
theorem yaS:(Tryz.prog.info? 3).map (fun i=>(i.zero,i.size,i.bytes))=C (C (J P 0),1,8):=by kernel_rfl
theorem yd7 (L:List Int) (n:Int):zv L++[J P n]=zv (L++[n]):=by simp[zv]
theorem ybv {w:kB} {base:Nat} {ad:Option Addr} {n cap:Nat} {L:List Int} (h:w.ownsRow base 3 1 (kJ ad n cap) L.length (zv L)):zl w ad L:=by
 intro j hj;obtain⟨g,cap',e,_,hg⟩:=h.form (by omega);cases e;refine⟨g,rfl,hg,?_⟩;have:=h.cellAt j (by rw[Nat.mul_one];exact hj);rw[this];simp[zv,List.getD,hj]
theorem Pg.numsD_snoc (A:List (List UInt8)) (l:List UInt8):Pg.yih (A++[l])=match Pg.yih A,Pg.numD l with
 | some vs,C v=>C (vs++[v])
 | _,_=>I:=by
 induction A with
 | nil=>
   show(match Pg.numD l with|none=>I|some v=>match Pg.yih []with|none=>I|some vs=>C (v::vs))=_
   cases Pg.numD l<;>rfl
 | cons a r ih=>
   show(match Pg.numD a with|none=>I|some v=>match Pg.yih (r++[l])with|none=>I|some vs=>C (v::vs))=_
   rw[ih]
   show _=match (match Pg.numD a with|none=>I|some v=>match Pg.yih r with|none=>I|some vs=>C (v::vs)),Pg.numD l with
    | some vs,C v=>C (vs++[v])
    | _,_=>I
   cases Pg.numD a with
   | none=>rfl
   | some v=>
     cases Pg.yih r with
     | none=>rfl
     | some vs=>cases Pg.numD l<;>rfl
theorem Pg.numsD_none (A B:List (List UInt8)) (l:List UInt8) (h:Pg.numD l=I):Pg.yih (A++l::B)=I:=by
 induction A with
 | nil=>
   show(match Pg.numD l with|none=>I|some v=>match Pg.yih B with|none=>I|some vs=>C (v::vs))=_
   rw[h]
 | cons a r ih=>
   show(match Pg.numD a with|none=>I|some v=>match Pg.yih (r++l::B)with|none=>I|some vs=>C (v::vs))=_
   rw[ih]
   cases Pg.numD a<;>rfl
end Go.Proofs.YtdphiompijbelaaGreatDoor
