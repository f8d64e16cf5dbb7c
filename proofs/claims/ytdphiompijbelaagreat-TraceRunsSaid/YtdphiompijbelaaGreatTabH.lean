import Derived.Deep.RegionWith
import Derived.Test.YtdphiompijbelaaGreatTabN
set_option linter.all false
set_option maxRecDepth 100000
open Go renaming World->D
open Nat renaming le_trans->M,le_refl->L
open Bool renaming true->O,false->E
open Go.Proofs.Tryz renaming prog->Z
open Go.Ending renaming returned->Q
open Go.World renaming block_lt_of_cell?->C,cell?_of_block->V,ownsRow->U,frozen?_of_block->A,cell?_setCell_other->z
open Go.IntKind renaming i64->P
open Go.Value renaming int->J,bool->N,pointer->T,slice->K,tuple->x
open Option renaming none->I,some->R
set_option maxHeartbeats 2000000
namespace Go.Proofs.YtdphiompijbelaaGreat
open Go.RowKit Go.Sort
structure Mk (w:D) (B k b:Nat) (lv:Int) (e:Pg.En) (v1 v2:Value) (ts ps:List Int) (p:Int):Prop where
 c0:w.cell? ⟨k,0,I⟩=R (T (R ⟨b,0,I⟩))
 c1:w.cell? ⟨k,1,I⟩=R (J P lv)
 c2:w.cell? ⟨k,2,I⟩=R (N e.t)
 c3:w.cell? ⟨k,3,I⟩=R (N e.l)
 c4:w.cell? ⟨k,4,I⟩=R (J P e.r)
 c5:w.cell? ⟨k,5,I⟩=R (N e.u)
 c6:w.cell? ⟨k,6,I⟩=R (N e.d)
 c7:w.cell? ⟨k,7,I⟩=R (J P e.f)
 c8:w.cell? ⟨k,8,I⟩=R v1
 c9:w.cell? ⟨k,9,I⟩=R v2
 c10:w.cell? ⟨k,10,I⟩=R (J P p)
 fz:∀o,w.frozen? ⟨k,o,I⟩=E
 o1:w.ownsRow B 3 1 v1 ts.length (xA ts)
 o2:w.ownsRow B 3 1 v2 ps.length (xA ps)
 ne:∀j,v1.ownBlock=R j->v2.ownBlock≠R j
 n1:v1.ownBlock≠R k
 n2:v2.ownBlock≠R k
 hi:B<=k
def mkF (k:Nat) (v1 v2:Value):Nat->Prop:=fun j=>j=k\/v1.ownBlock=R j\/v2.ownBlock=R j
namespace Mk
variable {w w':D} {B k b:Nat} {lv:Int} {e:Pg.En} {v1 v2:Value} {ts ps:List Int} {p:Int}
theorem lb (h:Mk w B k b lv e v1 v2 ts ps p):k<w.heap.size:=C _ _ h.c0
theorem lt (h:Mk w B k b lv e v1 v2 ts ps p) {j:Nat} (hj:mkF k v1 v2 j):B<=j/\j<w.heap.size:=by
 rcases hj with rfl|hj|hj
 ·exact⟨h.hi,h.lb⟩
 ·exact h.o1.lt j hj
 ·exact h.o2.lt j hj
theorem keep (h:Mk w B k b lv e v1 v2 ts ps p) {G:Nat->Prop} (hb:But G w w') (hG:∀j,mkF k v1 v2 j->¬G j):Mk w' B k b lv e v1 v2 ts ps p:=by
 have hk:w'.heap[k]?=w.heap[k]?:=hb.block k h.lb (hG k (.inl rfl));have c:∀{o:Nat} {v:Value},w.cell? ⟨k,o,I⟩=R v->w'.cell? ⟨k,o,I⟩=R v:=fun e=>(V hk).trans e
 exact⟨c h.c0,c h.c1,c h.c2,c h.c3,c h.c4,c h.c5,c h.c6,c h.c7,c h.c8,c h.c9,c h.c10,fun o=>(A hk).trans (h.fz o),
  zc h.o1 hb fun j hj=>hG j (.inr (.inl hj)),zc h.o2 hb fun j hj=>hG j (.inr (.inr hj)),h.ne,h.n1,h.n2,h.hi⟩
theorem grow (h:Mk w B k b lv e v1 v2 ts ps p) (hb:Below w.heap.size w w'):Mk w' B k b lv e v1 v2 ts ps p:=h.keep (G:=fun _=>False) (But.yhf hb) fun _ _=>id
theorem setCell (h:Mk w B k b lv e v1 v2 ts ps p) (o:Nat) (v:Value):
 (∀o',o'≠o->(w.setCell ⟨k,o,I⟩ v).cell? ⟨k,o',I⟩=w.cell? ⟨k,o',I⟩)/\(w.setCell ⟨k,o,I⟩ v).ownsRow B 3 1 v1 ts.length (xA ts)/\(w.setCell ⟨k,o,I⟩ v).ownsRow B 3 1 v2 ps.length (xA ps):=by
 refine⟨fun o' ho=>z _ _ _ _ (fun e=>ho (by injection e with _ e;exact e.symm)),?_,?_⟩
 ·exact zb h.o1 fun j hj=>Below.heap_setCell _ _ _ _ fun e=>h.n1 (by rw[hj,e])
 ·exact zb h.o2 fun j hj=>Below.heap_setCell _ _ _ _ fun e=>h.n2 (by rw[hj,e])
theorem ylw (h:Mk w B k b lv e v1 v2 ts ps p) (lv':Int):Mk (w.setCell ⟨k,1,I⟩ (J P lv')) B k b lv' e v1 v2 ts ps p:=by
 obtain⟨hc,q1,q2⟩:=h.setCell 1 (J P lv')
 exact⟨(hc 0 (by decide)).trans h.c0,World.cell?_setCell_same _ _ _ h.c1,(hc 2 (by decide)).trans h.c2,(hc 3 (by decide)).trans h.c3,(hc 4 (by decide)).trans h.c4,(hc 5 (by decide)).trans h.c5,(hc 6 (by decide)).trans h.c6,(hc 7 (by decide)).trans h.c7,(hc 8 (by decide)).trans h.c8,(hc 9 (by decide)).trans h.c9,(hc 10 (by decide)).trans h.c10,
  fun o=>by rw[World.frozen?_setCell];exact h.fz o,q1,q2,h.ne,h.n1,h.n2,h.hi⟩
theorem setE (h:Mk w B k b lv e v1 v2 ts ps p) (e':Pg.En):Mk ((((((w.setCell ⟨k,2,I⟩ (N e'.t)).setCell ⟨k,3,I⟩ (N e'.l)).setCell ⟨k,4,I⟩ (J P e'.r)).setCell ⟨k,5,I⟩ (N e'.u)).setCell ⟨k,6,I⟩ (N e'.d)).setCell ⟨k,7,I⟩ (J P e'.f)) B k b lv e' v1 v2 ts ps p:=by
 have hb:But (fun j=>j=k) w ((((((w.setCell ⟨k,2,I⟩ (N e'.t)).setCell ⟨k,3,I⟩ (N e'.l)).setCell ⟨k,4,I⟩ (J P e'.r)).setCell ⟨k,5,I⟩ (N e'.u)).setCell ⟨k,6,I⟩ (N e'.d)).setCell ⟨k,7,I⟩ (J P e'.f)):=
  ((((((But.refl (fun j=>j=k) w).setCell (a:=⟨k,2,I⟩) (.inr rfl) _).setCell (a:=⟨k,3,I⟩) (.inr rfl) _).setCell (a:=⟨k,4,I⟩) (.inr rfl) _).setCell (a:=⟨k,5,I⟩) (.inr rfl) _).setCell (a:=⟨k,6,I⟩) (.inr rfl) _).setCell (a:=⟨k,7,I⟩) (.inr rfl) _
 refine⟨?_,?_,?_,?_,?_,?_,?_,?_,?_,?_,?_,fun o=> ?_,zc h.o1 hb fun j hj e=>h.n1 (by rw[hj,e]),zc h.o2 hb fun j hj e=>h.n2 (by rw[hj,e]),h.ne,h.n1,h.n2,h.hi⟩<;>
  simp[go_sem,h.c0,h.c1,h.c2,h.c3,h.c4,h.c5,h.c6,h.c7,h.c8,h.c9,h.c10,h.fz]
end Mk
structure St (w0 w:D) (k b:Nat) (F0:Nat->Prop) (S:Pg.Fs) (lv:Int) (e:Pg.En) (ts ps:List Int) (p:Int):Prop where
 body:∃B v1 v2 F,Mk w B k b lv e v1 v2 ts ps p/\zh w b S F/\But F0 w0 w/\(∀j,F j->F0 j\/w0.heap.size<=j)/\(∀j,F j->¬mkF k v1 v2 j)/\B<=w.heap.size/\∀j,mkF k v1 v2 j->F0 j\/w0.heap.size<=j
namespace St
variable {w0 w w':D} {k b:Nat} {F0:Nat->Prop} {S:Pg.Fs} {lv:Int} {e:Pg.En} {ts ps:List Int} {p:Int}
theorem grow (h:St w0 w k b F0 S lv e ts ps p) (hb:Below w.heap.size w w'):St w0 w' k b F0 S lv e ts ps p:=by
 obtain⟨B,v1,v2,F,hM,hF,hB,h1,h2,hBB,hm⟩:=h.body;exact⟨B,v1,v2,F,hM.grow hb,hF.keep (G:=fun _=>False) (But.yhf hb) fun _ _=>id,hB.trans (But.yhf (F:=fun _=>False) hb) fun _ _ h=>h.elim,h1,h2,M hBB hb.size,hm⟩
theorem but (h:St w0 w k b F0 S lv e ts ps p):But F0 w0 w:=by
 obtain⟨B,v1,v2,F,hM,hF,hB,h1,h2,hBB,hm⟩:=h.body;exact hB
theorem lb (h:St w0 w k b F0 S lv e ts ps p):k<w.heap.size:=by
 obtain⟨B,v1,v2,F,hM,hF,hB,h1,h2,hBB,hm⟩:=h.body;exact hM.lb
theorem leaves (h:St w0 w k b F0 S lv e ts ps p):∃F,zh w b S F/\But F0 w0 w/\∀j,F j->F0 j\/w0.heap.size<=j:=by
 obtain⟨B,v1,v2,F,hM,hF,hB,h1,h2,hBB,hm⟩:=h.body;exact⟨F,hF,hB,h1⟩
end St
theorem j8 {b:Nat} {S:Pg.Fs} {F:Nat->Prop} (t p:Int) (w:D) (h:zh w b S F):
 Calls Z 155 #[T (R ⟨b,0,I⟩),J P t,J P p] w fun en w'=>∃k,en=Q (x #[T (R ⟨k,0,I⟩),J P (xM S t p)])/\St w w' k b F S (yhm (zg S t p)) (yhk (zg S t p)) (tabs (zg S t p)) (qG (zg S t p)) p/\Below w.heap.size w w':=by
 have HF:=ye1 t p w h;have H:Hid (zh w b S F):=h;clear h;have htl:=xy (zg S t p);have hpl:=vo (zg S t p);generalize zg S t p=X at*;generalize xM S t p=c at*;unfold yb7 at HF;generalize yhm X=lv at*;generalize yhk X=e at*
 go_enter Tryz.func155,Tryz.ntmps155
 go_wp2_with fail
 refine HF.mono ?_;rintro en w1 ⟨v1,v2,rfl,o1,o2,hne,hb⟩;obtain⟨a1,c1,rfl⟩:=zF o1;obtain⟨a2,c2,rfl⟩:=zF o2
 have HO1:Hid (w1.ownsRow w.heap.size 3 1 (K a1 X.length c1) (tabs X).length (xA (tabs X))):=by rw[htl];exact o1
 have HO2:Hid (w1.ownsRow w.heap.size 3 1 (K a2 X.length c2) (qG X).length (xA (qG X))):=by rw[hpl];exact o2
 have HN:Hid _:=hne;have HB:Hid _:=hb;clear o1 o2 hne hb HF
 go_wp2_with fail
 go_ret2
 have hB1:Below w.heap.size w (w1.alloc (.cells #[J P lv,N e.t,N e.l,J P e.r,N e.u,N e.d,J P e.f,K a1 X.length c1,K a2 X.length c2] 211)):=zA HB.out _;have hB2:=zA hB1 (.cells #[T (R ⟨b,0,I⟩),J P lv,N e.t,N e.l,J P e.r,N e.u,N e.d,J P e.f,K a1 X.length c1,K a2 X.length c2,J P p] 213);have hsz:=HB.out.size;refine⟨w1.heap.size+1,rfl,⟨w.heap.size,K a1 X.length c1,K a2 X.length c2,F,⟨?_,?_,?_,?_,?_,?_,?_,?_,?_,?_,?_,fun o=> ?_,(HO1.out.alloc _).alloc _,(HO2.out.alloc _).alloc _,HN.out,fun e=> ?_,fun e=> ?_,by omega⟩,?_,?_,?_,?_,hB2.size,?_⟩,hB2⟩
 iterate 12 (focus (simp[go_sem]))
 ·have:=(U.lt HO1.out _ e).2;omega
 ·have:=(U.lt HO2.out _ e).2;omega
 ·exact zh.keep (G:=fun _=>False) H.out (But.yhf hB2) fun _ _=>id
 ·exact But.yhf hB2
 ·exact fun j hj=> .inl hj
 ·intro j hj hm
  have:=zh.lt H.out hj;rcases hm with rfl|hm|hm
  ·omega
  ·have:=(U.lt HO1.out _ hm).1;omega
  ·have:=(U.lt HO2.out _ hm).1;omega
 ·intro j hm
  right;rcases hm with rfl|hm|hm
  ·omega
  ·exact(U.lt HO1.out _ hm).1
  ·exact(U.lt HO2.out _ hm).1
theorem ybb {w0 w:D} {k b:Nat} {F0:Nat->Prop} {S:Pg.Fs} {lv:Int} {e:Pg.En} {ts ps:List Int} {p:Int} (h:St w0 w k b F0 S lv e ts ps p) (hl:ts.length<=5000):
 Calls Z 170 #[T (R ⟨k,0,I⟩)] w fun en w'=>en=Q (J P ((ts.length:Int)-1))/\w'=w:=by
 obtain⟨B,v1,v2,F,hM,hF,hB,h1,h2,hBB,hm⟩:=h.body;obtain⟨a1,c1,rfl⟩:=zF hM.o1;have c8:=hM.c8;clear hM hF hB h1 h2 h hBB hm;generalize ts.length=n at*
 go_enter Tryz.func170,Tryz.ntmps170
 go_wp2_with fail
 go_ret
 exact⟨rfl,rfl⟩
theorem vF {w0 w:D} {k b:Nat} {F0:Nat->Prop} {S:Pg.Fs} {lv:Int} {e:Pg.En} {ts ps:List Int} {p:Int} (h:St w0 w k b F0 S lv e ts ps p) (hl:ts.length<=5000):
 Calls Z 135 #[T (R ⟨k,0,I⟩)] w fun en w'=>en=Q (N (decide (1<ts.length)))/\w'=w:=by
 have HE:=ybb h hl
 have HD:Hid (decide (1<(ts.length:Int))=decide (1<ts.length)):=by
  rw[Hid,decide_eq_decide];omega
 clear h;generalize ts.length=n at*
 go_enter Tryz.func135,Tryz.ntmps135
 go_wp2_with fail
 refine HE.mono ?_;rintro en w1 ⟨rfl,rfl⟩
 go_wp2_with fail
 go_ret
 exact⟨xx HD.out,rfl⟩
theorem qF {b:Nat} {S:Pg.Fs} {F:Nat->Prop} (t p:Int) (w:D) (h:zh w b S F):
 Calls Z 120 #[T (R ⟨b,0,I⟩),J P t,J P p] w fun en w'=>∃k,en=Q (x #[T (R ⟨k,0,I⟩),J P (Pg.tFC S t p)])/\St w w' k b F S (yhm (zg S t p)) (yhk (zg S t p)) (tabs (zg S t p)) (qG (zg S t p)) p/\Below w.heap.size w w':=by
 have HF:=j8 t p w h
 have hleaf:xM S t p=0->(yhk (zg S t p)).l=(yhk (zg S t p)).t:=by
  intro hz;obtain⟨lv,e,tl,W⟩:=Pg.ykf hz;have hf:=Pg.yhK h.ok W.code;rw[<-W.en]at hf;obtain⟨_,hx⟩:=Pg.yhw hf;have ho:=W.on;rw[W.yhk];unfold Pg.En.on at ho;rcases hx with ⟨h1,h2,_⟩|⟨h1,_⟩
  ·rw[h1,h2]
  ·rw[h1]at ho ⊢
   simpa using ho
 have e1:Pg.tFC S t p=if xM S t p≠0 then xM S t p else if (yhk (zg S t p)).t=O then 0 else 5:=rfl;clear h;generalize Pg.tFC S t p=cc at*;generalize zg S t p=X at*;generalize xM S t p=c at*
 go_enter Tryz.func120,Tryz.ntmps120
 go_wp2_with fail
 refine HF.mono ?_;rintro en w1 ⟨k,rfl,hS,hb⟩;have HS:Hid _:=hS;have HB:Hid _:=hb;obtain⟨B,v1,v2,F',hM,_,_,_,_,_,_⟩:=hS.body;have c3:=hM.c3;clear hM hS hb HF
 by_cases hc:c=0
 ·subst hc
  rw[if_neg (by decide)]at e1;rw[hleaf rfl]at c3;clear hleaf;cases ht:(yhk X).t
  ·rw[ht]at e1 c3
   have E1:Hid _:=e1;clear e1 ht
   go_wp2_with fail
   go_ret2
   exact⟨k,by rw[E1.out];rfl,HS.out,HB.out⟩
  ·rw[ht]at e1 c3
   have E1:Hid _:=e1;clear e1 ht
   go_wp2_with fail
   go_ret2
   exact⟨k,by rw[E1.out];rfl,HS.out,HB.out⟩
 ·have hcb:(c==0)=E:=by simpa using hc
  have E1:Hid (cc=c):=by rw[Hid,e1,if_pos hc]
  clear e1 hleaf hc c3
  go_wp2_with fail
  go_ret2
  exact⟨k,by rw[E1.out];rfl,HS.out,HB.out⟩
theorem jC {w0 w:D} {k b:Nat} {F0:Nat->Prop} {S:Pg.Fs} {lv:Int} {e:Pg.En} {ts ps:List Int} {p:Int} (h:St w0 w k b F0 S lv e ts ps p):
 Calls Z 121 #[T (R ⟨k,0,I⟩)] w fun en w'=>en=Q (e.map lv p).val/\Below w.heap.size w w':=by
 obtain⟨B,v1,v2,F,hM,hF,hB,h1,h2,hBB,hm⟩:=h.body;obtain⟨et,el,er,eu,ed,ef⟩:=e;obtain⟨W,hW⟩:∃W,W=w.alloc (.cells #[J P 0,J P 0,J P 0,J P 0] 39):=⟨_,rfl⟩
 have hBW:Below w.heap.size w W:=by rw[hW];exact zA (zR w) _
 have hM1:=hM.grow hBW
 have hz:W.cell? ⟨w.heap.size,0,I⟩=R (J P 0)/\W.cell? ⟨w.heap.size,1,I⟩=R (J P 0)/\W.cell? ⟨w.heap.size,2,I⟩=R (J P 0)/\W.cell? ⟨w.heap.size,3,I⟩=R (J P 0):=by rw[hW];simp[go_sem]
 have hzf:∀o,W.frozen? ⟨w.heap.size,o,I⟩=E:=fun o=>by rw[hW];simp[go_sem]
 have hlW:w.heap.size<W.heap.size:=C _ _ hz.1;have HE:=yba et el er eu ed ef lv p;have e1:Pg.mapV et el er eu ed ef lv p=(Pg.En.map ⟨et,el,er,eu,ed,ef⟩ lv p).val:=rfl;rw[e1]at HE;generalize Pg.En.map ⟨et,el,er,eu,ed,ef⟩ lv p=m at*;obtain⟨mp,ms,mf,mr⟩:=m;simp only[Pg.Mp.val]at HE ⊢
 have nk:¬k=w.heap.size:=by have:=hM.lb;omega
 have nk':¬w.heap.size=k:=by have:=hM.lb;omega
 have HZ:Hid _:=hz;have HZF:Hid _:=hzf;have HBW:Hid _:=hBW;have k1:=hM1.c1;have k2:=hM1.c2;have k3:=hM1.c3;have k4:=hM1.c4;have k5:=hM1.c5;have k6:=hM1.c6;have k7:=hM1.c7;have k10:=hM1.c10;simp only at k2 k3 k4 k5 k6 k7;clear h hM hF hB h1 h2 hM1 hz hzf hBW e1 hBB hm
 go_enter Tryz.func121,Tryz.ntmps121
 go_wp2_with fail
 rw[<-hW];clear hW
 go_region_held3 (fun w'=>w'.cell? ⟨k,1,I⟩=R (J P lv)/\w'.cell? ⟨k,2,I⟩=R (N et)/\w'.cell? ⟨k,3,I⟩=R (N el)/\w'.cell? ⟨k,4,I⟩=R (J P er)/\w'.cell? ⟨k,5,I⟩=R (N eu)/\w'.cell? ⟨k,6,I⟩=R (N ed)/\w'.cell? ⟨k,7,I⟩=R (J P ef)/\w'.cell? ⟨k,10,I⟩=R (J P p)) (go_keep) (
  (go_at_call 152;refine(HE _).mono ?_;rintro en w2 ⟨rfl,hb2⟩
   have HB2:Hid (Below W.heap.size W w2):=zT (zR W).drew hb2;have q1:=cell_later HB2.out k1;have q2:=cell_later HB2.out k2;have q3:=cell_later HB2.out k3;have q4:=cell_later HB2.out k4;have q5:=cell_later HB2.out k5;have q6:=cell_later HB2.out k6;have q7:=cell_later HB2.out k7;have q10:=cell_later HB2.out k10;obtain⟨z0,z1,z2,z3⟩:=xB HB2.out HZ.out;have zf:∀o,w2.frozen? ⟨w.heap.size,o,I⟩=E:=fun o=>(HB2.out.frozen (p:=⟨w.heap.size,o,I⟩) hlW).trans (HZF.out o)
   clear hb2))
 have fin:Hid (Below w.heap.size w ((((w2.setCell ⟨w.heap.size,0,I⟩ (J P mp)).setCell ⟨w.heap.size,1,I⟩ (J P ms)).setCell ⟨w.heap.size,2,I⟩ (J P mf)).setCell ⟨w.heap.size,3,I⟩ (J P mr))):=zq (zT HBW.out HB2.out) _ (L _) _ _ _ _
 go_wp2_with fail
 refine bodyPost_ret (v:= .agg #[J P mp,J P ms,J P mf,J P mr]) ?_ rfl ⟨rfl,fin.out⟩;simp[results,Tryz.results121,go_sem,z0,z1,z2,z3]
theorem jD {w:D} {B:Nat} {v:Value} {ts:List Int} {t:Int} (h:w.ownsRow B 3 1 v (ts++[t]).length (xA (ts++[t]))):∃g cap,v=K (R ⟨g,0,I⟩) (ts.length+1) cap/\w.cell? ⟨g,ts.length,I⟩=R (J P t)/\ts.length+1<=cap:=by
 rw[List.length_append,List.length_singleton]at h;have h2:=h;obtain⟨g,cap,rfl,_,_⟩:=h.form (by omega);refine⟨g,cap,rfl,?_,?_⟩
 ·rw[h.cellAt ts.length (by omega)]
  simp[xA]
 ·rcases h2.2 with ⟨h',_⟩|⟨g',cap',cur,h',_,_,hle,_⟩
  ·cases h'
  ·cases h';exact hle
theorem vN {w0 w:D} {k b:Nat} {F0:Nat->Prop} {S:Pg.Fs} {lv:Int} {e:Pg.En} {ts ps:List Int} {p t q:Int} (e':Pg.En) (h:St w0 w k b F0 S lv e (ts++[t]) (ps++[q]) p) (hlen:ts.length=ps.length) (hl:ts.length<5000):
 Calls Z 134 #[T (R ⟨k,0,I⟩),e'.val] w fun en w'=>en=Q (x #[])/\St w0 w' k b F0 (S.store t q (Pg.enc e'.t e'.l e'.r e'.u e'.d e'.f lv)) lv e' (ts++[t]) (ps++[q]) p:=by
 obtain⟨et,el,er,eu,ed,ef⟩:=e';simp only[Pg.En.val];have HE:=yaG et el er eu ed ef lv;have hv:0<=Pg.enc et el er eu ed ef lv/\Pg.enc et el er eu ed ef lv<18446744073709551616:=Pg.ykx _ _ _ _ _ _ _;generalize Pg.enc et el er eu ed ef lv=v at*;generalize Pg.yhj et el er eu ed ef lv=fl at*;obtain⟨hv0,hv1⟩:=hv;obtain⟨W,hW⟩:∃W,W=w.alloc (.cells #[N et,N el,J P er,N eu,N ed,J P ef] 70):=⟨_,rfl⟩
 have hBW:Below w.heap.size w W:=by rw[hW];exact zA (zR w) _
 have hx:W.cell? ⟨w.heap.size,0,I⟩=R (N et)/\W.cell? ⟨w.heap.size,1,I⟩=R (N el)/\W.cell? ⟨w.heap.size,2,I⟩=R (J P er)/\W.cell? ⟨w.heap.size,3,I⟩=R (N eu)/\W.cell? ⟨w.heap.size,4,I⟩=R (N ed)/\W.cell? ⟨w.heap.size,5,I⟩=R (J P ef):=by rw[hW];simp[go_sem]
 have nk:¬k=w.heap.size:=by have:=h.lb;omega
 have nk':¬w.heap.size=k:=by have:=h.lb;omega
 have hlw:w.heap.size<W.heap.size:=C _ _ hx.1;obtain⟨B,v1,v2,F,hM,hF,hB,h1,h2,hBB,hm⟩:=h.body;obtain⟨g1,cap1,rfl,ht,_⟩:=jD hM.o1;obtain⟨g2,cap2,rfl,hq,_⟩:=jD hM.o2;have HFl:Hid (∀j,F j->j<w.heap.size):=fun j hj=>hF.lt hj;have HM:Hid _:=hM;have HF:Hid (zh w b S F):=hF;have HBt:Hid _:=hB;have H1:Hid _:=h1;have H2:Hid _:=h2;have HBB:Hid _:=hBB;have Hm:Hid _:=hm;have HBW:Hid _:=hBW;have k1:=(hM.grow hBW).c1;obtain⟨x0,x1,x2,x3,x4,x5⟩:=hx;clear hM hF hB h1 h2 h hBW hBB hm
 go_enter Tryz.func134,Tryz.ntmps134
 go_wp2_with fail
 rw[<-hW];clear hW
 go_region_held3 (fun w'=>w'.cell? ⟨w.heap.size,0,I⟩=R (N et)/\w'.cell? ⟨w.heap.size,1,I⟩=R (N el)/\w'.cell? ⟨w.heap.size,2,I⟩=R (J P er)/\w'.cell? ⟨w.heap.size,3,I⟩=R (N eu)/\w'.cell? ⟨w.heap.size,4,I⟩=R (N ed)/\w'.cell? ⟨w.heap.size,5,I⟩=R (J P ef)/\w'.cell? ⟨k,1,I⟩=R (J P lv)) (go_keep) (
  (go_at_call 168;refine(HE _).mono ?_;rintro en w2 ⟨rfl,hb2⟩
   have HB2:Hid (Below W.heap.size W w2):=zT (zR W).drew hb2;have q0:=cell_later HB2.out x0;have q1:=cell_later HB2.out x1;have q2:=cell_later HB2.out x2;have q3:=cell_later HB2.out x3;have q4:=cell_later HB2.out x4;have q5:=cell_later HB2.out x5;have q6:=cell_later HB2.out k1
   clear hb2))
 have HB3:Hid (Below w.heap.size w w2):=zT HBW.out HB2.out;have hl2:w.heap.size<w2.heap.size:=C _ _ q0;have HM2:Hid _:=HM.out.grow HB3.out;have HF2:Hid (zh w2 b S F):=zh.keep (G:=fun _=>False) HF.out (But.yhf HB3.out) fun _ _=>id;have HBt2:Hid (But F0 w0 w2):=HBt.out.trans (But.yhf (F:=fun _=>False) HB3.out) fun _ _ h=>h.elim;have X2:Hid (w2.cell? ⟨w.heap.size,0,I⟩=R (N et)/\w2.cell? ⟨w.heap.size,1,I⟩=R (N el)/\w2.cell? ⟨w.heap.size,2,I⟩=R (J P er)/\w2.cell? ⟨w.heap.size,3,I⟩=R (N eu)/\w2.cell? ⟨w.heap.size,4,I⟩=R (N ed)/\w2.cell? ⟨w.heap.size,5,I⟩=R (J P ef)):=⟨q0,q1,q2,q3,q4,q5⟩;have k0:=HM2.out.c0;have k8:=HM2.out.c8;have k9:=HM2.out.c9;have kt:=cell_later HB3.out ht;have kq:=cell_later HB3.out hq;clear x0 x1 x2 x3 x4 x5 k1 HE q0 q1 q2 q3 q4 q5 q6 ht hq HM HF HBt HB2 HBW
 have HEnd:∀W',Below w2.heap.size w2 W'->Calls Z 170 #[T (R ⟨k,0,I⟩)] W' fun en w'=>en=Q (J P (ts.length:Int))/\w'=W':=fun W' hb=>by
  have hS:St w0 W' k b F0 S lv e (ts++[t]) (ps++[q]) p:=St.grow ⟨B,_,_,F,HM2.out,HF2.out,HBt2.out,H1.out,H2.out,M HBB.out HB3.out.size,Hm.out⟩ hb;refine(ybb hS (by simp;omega)).mono ?_;rintro en w' ⟨rfl,rfl⟩;exact⟨by simp,rfl⟩
 have HSt:∀W',Below w2.heap.size w2 W'->Calls Z 169 #[T (R ⟨b,0,I⟩),J P t,J P q,J .u64 v] W' fun en w'=>en=Q (N (S.at' t q))/\∃F4,zh w' b (S.store t q v) F4/\But F w2 w'/\∀k,F4 k->F k\/w2.heap.size<=k:=fun W' hb=>by
  refine(ycF t q v hv0 hv1 W' (zh.keep (G:=fun _=>False) HF2.out (But.yhf hb) fun _ _=>id)).mono ?_;rintro en w' ⟨rfl,F4,f1,f2,f3⟩;exact⟨rfl,F4,f1,(But.yhf hb).trans f2 fun _ _ h=>h,fun j hj=>(f3 j hj).imp id fun h=>by have:=hb.size;omega⟩
 have hlen':ps.length=ts.length:=hlen.symm;rw[hlen']at k9 kq
 have i0:(0:Int)<=(ts.length:Int):=by omega
 have i1:(ts.length:Int)<(ts.length:Int)+1:=by omega
 have HL:Hid _:=hlen;clear hlen hlen';generalize hn:ts.length=n at*;have HN:Hid _:=hn;clear hn
 go_wp2_with fail
 go_region_held3 (fun w'=>w'.cell? ⟨k,0,I⟩=R (T (R ⟨b,0,I⟩))/\w'.cell? ⟨k,8,I⟩=R (K (R ⟨g1,0,I⟩) (n+1) cap1)/\w'.cell? ⟨k,9,I⟩=R (K (R ⟨g2,0,I⟩) (n+1) cap2)/\w'.cell? ⟨g1,n,I⟩=R (J P t)/\w'.cell? ⟨g2,n,I⟩=R (J P q)) (go_keep) (first
  | (go_at_call 170;refine(HEnd _ (by first|exact(zR w2).drew|exact zR w2)).mono ?_;rintro en w3 ⟨rfl,hw3⟩;subst w3)
  | (go_at_call 169;refine(HSt _ (by first|exact(zR w2).drew|exact zR w2)).mono ?_;rintro en w4 ⟨rfl,hf4⟩
     obtain⟨F4,f1,f2,f3⟩:=hf4;have f2':But F w2 w4:=f2;have HM4:Hid _:=HM2.out.keep f2' fun j hj hF=>H2.out j hF hj;have HF4:Hid (zh w4 b (S.store t q v) F4):=f1;have HF42:Hid (But F w2 w4):=f2';have HF43:Hid (∀k,F4 k->F k\/w2.heap.size<=k):=f3;have r0:=HM4.out.c0;have r8:=HM4.out.c8;have r9:=HM4.out.c9;rw[<-HL.out]at r9;have rt:w4.cell? ⟨g1,n,I⟩=R (J P t):=(f2'.cell (a:=⟨g1,n,I⟩) (C _ _ kt) fun hF=>H2.out g1 hF (.inr (.inl rfl))).trans kt;have rq:w4.cell? ⟨g2,n,I⟩=R (J P q):=(f2'.cell (a:=⟨g2,n,I⟩) (C _ _ kq) fun hF=>H2.out g2 hF (.inr (.inr rfl))).trans kq
     clear f1 f2 f3 f2'))
 have y:∀(o:Nat) (u:Value),w2.cell? ⟨w.heap.size,o,I⟩=R u->w4.cell? ⟨w.heap.size,o,I⟩=R u:=fun o u hu=>(HF42.out.cell (a:=⟨w.heap.size,o,I⟩) hl2 fun hF=>by have:=HFl.out _ hF;simp at this).trans hu;have y0:=y _ _ X2.out.1;have y1:=y _ _ X2.out.2.1;have y2:=y _ _ X2.out.2.2.1;have y3:=y _ _ X2.out.2.2.2.1;have y4:=y _ _ X2.out.2.2.2.2.1;have y5:=y _ _ X2.out.2.2.2.2.2;have r2:=HM4.out.c2;have r3:=HM4.out.c3;have r4:=HM4.out.c4;have r5:=HM4.out.c5;have r6:=HM4.out.c6;have r7:=HM4.out.c7;have rf:=HM4.out.fz;have hlk:=HM4.out.lb;have fin:Hid _:=HM4.out.setE ⟨et,el,er,eu,ed,ef⟩
 have fbt:Hid (But (fun j=>j=k) w4 ((((((w4.setCell ⟨k,2,I⟩ (N et)).setCell ⟨k,3,I⟩ (N el)).setCell ⟨k,4,I⟩ (J P er)).setCell ⟨k,5,I⟩ (N eu)).setCell ⟨k,6,I⟩ (N ed)).setCell ⟨k,7,I⟩ (J P ef))):=
  ((((((But.refl (fun j=>j=k) w4).setCell (a:=⟨k,2,I⟩) (.inr rfl) _).setCell (a:=⟨k,3,I⟩) (.inr rfl) _).setCell (a:=⟨k,4,I⟩) (.inr rfl) _).setCell (a:=⟨k,5,I⟩) (.inr rfl) _).setCell (a:=⟨k,6,I⟩) (.inr rfl) _).setCell (a:=⟨k,7,I⟩) (.inr rfl) _
 have F4n:Hid (∀j,F4 j->¬mkF k (K (R ⟨g1,0,I⟩) (n+1) cap1) (K (R ⟨g2,0,I⟩) (ps.length+1) cap2) j):=fun j hj hm=>by
  rcases HF43.out j hj with h|h
  ·exact H2.out j h hm
  ·have:=(HM2.out.lt hm).2;omega
 have hhi:=HM2.out.hi;clear y r0 r8 r9 rt rq k0 k8 k9 kt kq HSt HEnd
 go_wp2_with fail
 go_end0
 refine⟨rfl,B,_,_,F4,fin.out,zh.keep HF4.out fbt.out fun j hj e=>F4n.out j hj (.inl e),?_,fun j hj=> ?_,F4n.out,?_,Hm.out⟩
 ·refine(HBt2.out.trans HF42.out fun i hi hF=> ?_).trans fbt.out fun i hi e=> ?_
  ·rcases H1.out i hF with h|h
   ·exact h
   ·omega
  ·rcases Hm.out i (.inl e)with h|h
   ·exact h
   ·omega
 ·rcases HF43.out j hj with h|h
  ·exact H1.out j h
  ·have:=HBt2.out.size;exact .inr (by omega)
 ·exact M (M HBB.out HB3.out.size) (M HF42.out.size fbt.out.size)
theorem yf5 {e:Pg.En} {lv:Nat} {p r:Int} (hf:e.fault lv=0) (ht:e.t=O) (hl:e.l=O) (hp:Pg.below p 4096=O) (h0:0<=r) (h1:r<=7):Pg.En.map ⟨e.t,e.l,r,e.u,e.d,e.f⟩ lv p=(e.map lv p).rts r:=by
 obtain⟨et,el,er,eu,ed,ef⟩:=e;simp only at ht hl;subst ht hl;unfold Pg.En.fault at hf
 have hf':Pg.yhj O O r eu ed ef lv=0:=by
  unfold Pg.yhj at hf ⊢;simp only at hf;rw[if_neg (by omega)]
  rw[if_neg (by simp),if_neg (by rintro (h|h|h|h)<;>simp_all<;>omega)]
  split at hf
  ·omega
  ·rw[if_neg (by simp)]at hf
   split at hf
   ·omega
   ·simpa using hf
 have o1:Pg.lOk O O er eu ed ef lv p=O:=by
  simp only[Pg.lOk,hf,hp];simp
 have o2:Pg.lOk O O r eu ed ef lv p=O:=by
  simp only[Pg.lOk,hf',hp];simp
 simp[Pg.En.map,Pg.Mp.rts,Pg.yjO,Pg.ykl,Pg.yjk,Pg.yim,o1,o2]
theorem yfg (r:Int):Pg.check 0 0 0 r=if r<0\/7<r then 1 else 0:=by
 unfold Pg.check
 split<;>split<;>simp_all[Pg.below,Pg.span]<;>omega
theorem yd1 {X:List Pg.Sp} (h:1<=X.length):∃Y s,X=Y++[s]:=by
 rcases List.eq_nil_or_concat X with rfl|⟨Y,s,rfl⟩
 ·simp at h
 ·exact⟨Y,s,by simp⟩
theorem qT {S:Pg.Fs} {t p:Int} (hz:xM S t p=0):∃Y s lv,zg S t p=Y++[s]/\Pg.Way S t p (Y++[s]) lv s.e s.table/\s.level=lv/\lv<=3/\Y.length<=3/\(s.place:Int)=Pg.index p (lv:Int)/\s.place=Pg.ix p lv:=by
 obtain⟨lv,e,tl,W⟩:=Pg.ykf hz;have h4:=W.len
 have hX1:1<=(zg S t p).length:=by
  cases hX:zg S t p with
  | nil=>
    have h5:=W.yhm;rw[hX]at h5 h4;simp[yhm]at h5 h4;omega
  | cons a l=>simp
 obtain⟨Y,s,hY⟩:=yd1 hX1;have e1:yhm (Y++[s])=s.level:=ja Y s;have e2:yhk (Y++[s])=s.e:=qZ Y s
 have e3:lastT (Y++[s])=s.table:=by simp[lastT]
 have hi:=yaJ S t p (i:=Y.length) (by rw[hY];simp);rw[hY]at W h4 hi;rw[List.length_append,List.length_singleton]at h4;have hl:=W.yhm;rw[e1]at hl
 have hl':s.level=lv:=by omega
 have he:=W.yhk;rw[e2]at he;have ht:=W.lastT;rw[e3]at ht;subst he ht
 have hpl:(qG (Y++[s])).getD Y.length 0=(s.place:Int):=by simp[qG]
 have hix:=Pg.yhu hi.1 (lv:=lv) (by omega)
 have hpp:(s.place:Int)=Pg.index p (lv:Int):=by rw[<-hpl,hi.2.2,show(3-(Y.length:Int))=(lv:Int) by omega]
 exact⟨Y,s,lv,hY,W,hl',by omega,by omega,hpp,by omega⟩
theorem yb8 {b:Nat} {S:Pg.Fs} {F:Nat->Prop} (t p r:Int) (w:D) (h:zh w b S F):
 Calls Z 91 #[T (R ⟨b,0,I⟩),J P t,J P p,J P r] w fun en w'=>en=Q (x #[(Pg.prM S t p r).val,J P (Pg.prC S t p r)])/\∃F',zh w' b (Pg.prS S t p r) F'/\But F w w'/\∀k,F' k->F k\/w.heap.size<=k:=by
 have HC:=zQ 0 0 0 r;rw[yfg]at HC;have H:Hid (zh w b S F):=h;obtain⟨W1,hW1⟩:∃W1,W1=w.alloc (.cells #[J P 0,J P 0,J P 0,J P 0] 39):=⟨_,rfl⟩
 have hB1:Below w.heap.size w W1:=by rw[hW1];exact zA (zR w) _
 have r4:W1.cell? ⟨w.heap.size,0,I⟩=R (J P 0)/\W1.cell? ⟨w.heap.size,1,I⟩=R (J P 0)/\W1.cell? ⟨w.heap.size,2,I⟩=R (J P 0)/\W1.cell? ⟨w.heap.size,3,I⟩=R (J P 0):=by rw[hW1];simp[go_sem]
 have rf4:∀o,W1.frozen? ⟨w.heap.size,o,I⟩=E:=fun o=>by rw[hW1];simp[go_sem]
 have HR4:Hid _:=r4;have HF4:Hid _:=rf4;have HB1:Hid _:=hB1;have fin0:Hid (∀w',Below w.heap.size w w'->∃F',zh w' b S F'/\But F w w'/\∀k,F' k->F k\/w.heap.size<=k):=fun w' hb=>⟨F,zh.keep (G:=fun _=>False) H.out (But.yhf hb) fun _ _=>id,But.yhf hb,fun k hk=> .inl hk⟩
 by_cases hr:r<0\/7<r
 ·have e1:Pg.prC S t p r=1:=by rw[Pg.prC,if_pos hr]
  have e2:Pg.prM S t p r= .zz:=by rw[Pg.prM,e1,if_neg (by decide)]
  have e3:Pg.prS S t p r=S:=by rw[Pg.prS,e1,if_neg (by decide)]
  rw[e1,e2,e3];rw[if_pos hr]at HC;clear h e1 e2 e3 hr r4 rf4 hB1
  go_enter Tryz.func91,Tryz.ntmps91
  go_wp2_with fail
  rw[<-hW1];clear hW1;refine(HC _).mono ?_;rintro en w2 ⟨rfl,hb2⟩;obtain⟨z0,z1,z2,z3⟩:=xB hb2 HR4.out;have hlw:w.heap.size<W1.heap.size:=C _ _ HR4.out.1;have zf:∀o,w2.frozen? ⟨w.heap.size,o,I⟩=E:=fun o=>(hb2.frozen (p:=⟨w.heap.size,o,I⟩) hlw).trans (HF4.out o);have HB2:Hid (Below w.heap.size w w2):=zT HB1.out hb2;clear hb2
  go_wp2_with fail
  refine bodyPost_ret (v:=x #[.agg #[J P 0,J P 0,J P 0,J P 0],J P 1]) ?_ rfl ⟨rfl,fin0.out _ (zq HB2.out w.heap.size (L _) _ _ _ _)⟩;simp[results,Tryz.results91,go_sem,z0,z1,z2,z3]
 ·have e1:Pg.prC S t p r=Pg.tFC S t p:=by rw[Pg.prC,if_neg hr]
  rw[if_neg hr]at HC;have HW:=fun w2 (hb:Below w.heap.size w w2)=>qF t p w2 (h.keep (G:=fun _=>False) (But.yhf hb) fun _ _=>id)
  by_cases hc:Pg.tFC S t p=0
  ·have hz:xM S t p=0:=by
    by_cases hz:xM S t p=0
    ·exact hz
    ·rw[Pg.tFC,if_pos hz]at hc
     exact absurd hc hz
   obtain⟨Y,s,lv,hY,W,hsl,hl3,hY3,hpl,hix⟩:=qT hz;have hf:=Pg.yhK h.ok W.code;rw[<-W.en]at hf
   have ht:s.e.t=O:=by
    rw[Pg.tFC,hz,if_neg (by decide),hY,W.yhk]at hc;cases hst:s.e.t
    ·rw[hst]at hc;simp at hc
    ·rfl
   have hl:s.e.l=O:=by
    have:=W.on;unfold Pg.En.on at this;rw[ht]at this
    simpa using this
   have e5:Pg.tFM S t p=s.e.map (lv:Int) p:=by rw[Pg.tFM,if_pos hc,hY,W.yhk,W.yhm]
   have e2:Pg.prM S t p r=Pg.En.map ⟨s.e.t,s.e.l,r,s.e.u,s.e.d,s.e.f⟩ (lv:Int) p:=by rw[Pg.prM,e1,if_pos hc,e5];exact(yf5 hf ht hl W.below (by omega) (by omega)).symm
   have e3:Pg.prS S t p r=S.store s.table (s.place:Int) (Pg.enc s.e.t s.e.l r s.e.u s.e.d s.e.f (lv:Int)):=by
    rw[Pg.prS,e1,if_pos hc,hY,W.lastT,W.yhm,W.yhk,hpl]
   have e6:tabs (Y++[s])=tabs Y++[s.table]:=by simp[tabs]
   have e7:qG (Y++[s])=qG Y++[(s.place:Int)]:=by simp[qG]
   rw[e1,e2,e3,hc];rw[hc,hY,W.yhm,W.yhk,e6,e7]at HW
   have hlen:(tabs Y).length=(qG Y).length:=by rw[xy,vo]
   have hlt:(tabs Y).length<4000:=by rw[xy];omega
   clear e1 e2 e3 e5 e6 e7 hf hY W hix hpl hc hz h r4 rf4 hB1 hr;obtain⟨st,sp,sl,sa,⟨et,el,er,eu,ed,ef⟩⟩:=s;simp only at ht hl HW ⊢;generalize (sp:Int)=pl at*;subst ht hl;generalize hmm:Pg.En.map ⟨O,O,r,eu,ed,ef⟩ (lv:Int) p=m at*;have HMM:Hid _:=hmm;clear hmm;obtain⟨mp,ms,mf,mr⟩:=m;simp only[Pg.Mp.val]
   go_enter Tryz.func91,Tryz.ntmps91
   go_wp2_with fail
   rw[<-hW1];clear hW1;refine(HC _).mono ?_;rintro en w2 ⟨rfl,hb2⟩;obtain⟨z0,z1,z2,z3⟩:=xB hb2 HR4.out;have hlw:w.heap.size<W1.heap.size:=C _ _ HR4.out.1;have hlw2:w.heap.size<w2.heap.size:=C _ _ z0;have zf:∀o,w2.frozen? ⟨w.heap.size,o,I⟩=E:=fun o=>(hb2.frozen (p:=⟨w.heap.size,o,I⟩) hlw).trans (HF4.out o);have HB2:Hid (Below w.heap.size w w2):=zT HB1.out hb2;clear hb2 HC HR4 HF4 HB1
   go_wp2_with fail
   refine(HW _ HB2.out).mono ?_;rintro en w3 ⟨k,rfl,hS,hb3⟩;have HS:Hid _:=hS;obtain⟨B,v1,v2,F',hM,_,_,_,_,_,_⟩:=hS.body;have hlk:=hM.lb;have k2:=hM.c2;have k3:=hM.c3;have k4:=hM.c4;have k5:=hM.c5;have k6:=hM.c6;have k7:=hM.c7;simp only at k2 k3 k4 k5 k6 k7;have HZ:Hid _:=xB hb3 ⟨z0,z1,z2,z3⟩;have HZF:Hid (∀o,w3.frozen? ⟨w.heap.size,o,I⟩=E):=fun o=>(hb3.frozen (p:=⟨w.heap.size,o,I⟩) hlw2).trans (zf o);clear hM hS HW z0 z1 z2 z3 zf hb3;have HP:=fun w4 (h4:St w2 w4 k b F S (lv:Int) ⟨O,O,er,eu,ed,ef⟩ (tabs Y++[st]) (qG Y++[pl]) p)=>vN ⟨O,O,r,eu,ed,ef⟩ h4 hlen (by omega);simp only[Pg.En.val]at HP
   go_wp2_with fail
   refine(HP _ (HS.out.grow (zA (zR w3) _))).mono ?_;rintro en w5 ⟨rfl,h5⟩;have HMap:=jC h5;obtain⟨F5,f1,f2,f3⟩:=h5.leaves
   have hz5:w5.heap[w.heap.size]?=w3.heap[w.heap.size]?:=by
    have q1:=h5.but.block w.heap.size hlw2 fun hF=>by have:=zh.lt H.out hF;omega
    have q2:=HS.out.but.block w.heap.size hlw2 fun hF=>by have:=zh.lt H.out hF;omega
    exact q1.trans q2.symm
   have Z5:Hid (w5.cell? ⟨w.heap.size,0,I⟩=R (J P 0)/\w5.cell? ⟨w.heap.size,1,I⟩=R (J P 0)/\w5.cell? ⟨w.heap.size,2,I⟩=R (J P 0)/\w5.cell? ⟨w.heap.size,3,I⟩=R (J P 0)):=⟨(V hz5).trans HZ.out.1,(V hz5).trans HZ.out.2.1,(V hz5).trans HZ.out.2.2.1,(V hz5).trans HZ.out.2.2.2⟩;have ZF5:Hid (∀o,w5.frozen? ⟨w.heap.size,o,I⟩=E):=fun o=>(A hz5).trans (HZF.out o);have hl5:w.heap.size<w5.heap.size:=C _ _ Z5.out.1;rw[HMM.out]at HMap;simp only[Pg.Mp.val]at HMap;have F1:Hid (zh w5 b (S.store st pl (Pg.enc O O r eu ed ef (lv:Int))) F5):=f1;have F2:Hid (But F w w5):=(But.yhf HB2.out).trans f2 fun _ _ h=>h;have F3:Hid (∀j,F5 j->F j\/w2.heap.size<=j):=f3;clear h5 f1 f2 f3 HP k2 k3 k4 k5 k6 k7 hz5 HS HZ HZF
   go_wp2_with fail
   refine HMap.mono ?_;rintro en w6 ⟨rfl,hb6⟩;obtain⟨z0,z1,z2,z3⟩:=xB hb6 Z5.out;have zf:∀o,w6.frozen? ⟨w.heap.size,o,I⟩=E:=fun o=>(hb6.frozen (p:=⟨w.heap.size,o,I⟩) hl5).trans (ZF5.out o);have HB6:Hid _:=hb6;clear hb6 HMap Z5 ZF5
   go_wp2_with fail
   refine bodyPost_ret (v:=x #[.agg #[J P mp,J P ms,J P mf,J P mr],J P 0]) ?_ rfl ⟨rfl,F5,?_,?_,fun j hj=> ?_⟩
   ·simp[results,Tryz.results91,go_sem,z0,z1,z2,z3]
   ·refine zh.keep (G:=fun j=>j=w.heap.size) F1.out ?_ fun j hj e=> ?_
    ·iterate 4 refine But.setCell ?_ (by exact .inr rfl) _
     exact But.yhf HB6.out
    ·rcases F3.out j hj with h|h
     ·have:=zh.lt H.out h;omega
     ·omega
   ·iterate 4 refine But.setCell ?_ (by exact .inl (L _)) _
    exact F2.out.trans (But.yhf (F:=fun _=>False) HB6.out) fun _ _ h=>h.elim
   ·exact(F3.out j hj).imp id fun h=>by omega
  ·have e2:Pg.prM S t p r= .zz:=by rw[Pg.prM,e1,if_neg hc]
   have e3:Pg.prS S t p r=S:=by rw[Pg.prS,e1,if_neg hc]
   rw[e1,e2,e3];clear h e1 e2 e3 hr r4 rf4 hB1;generalize Pg.tFC S t p=cc at*
   have hcb:(cc !=0)=O:=by simp[hc]
   clear hc
   go_enter Tryz.func91,Tryz.ntmps91
   go_wp2_with fail
   rw[<-hW1];clear hW1;refine(HC _).mono ?_;rintro en w2 ⟨rfl,hb2⟩;obtain⟨z0,z1,z2,z3⟩:=xB hb2 HR4.out;have hlw:w.heap.size<W1.heap.size:=C _ _ HR4.out.1;have hlw2:w.heap.size<w2.heap.size:=C _ _ z0;have zf:∀o,w2.frozen? ⟨w.heap.size,o,I⟩=E:=fun o=>(hb2.frozen (p:=⟨w.heap.size,o,I⟩) hlw).trans (HF4.out o);have HB2:Hid (Below w.heap.size w w2):=zT HB1.out hb2;clear hb2 HC HR4 HF4 HB1
   go_wp2_with fail
   refine(HW _ HB2.out).mono ?_;rintro en w3 ⟨k,rfl,_,hb3⟩;obtain⟨y0,y1,y2,y3⟩:=xB hb3 ⟨z0,z1,z2,z3⟩;have yf:∀o,w3.frozen? ⟨w.heap.size,o,I⟩=E:=fun o=>(hb3.frozen (p:=⟨w.heap.size,o,I⟩) hlw2).trans (zf o);have HB3:Hid (Below w.heap.size w w3):=zT HB2.out hb3;clear hb3 z0 z1 z2 z3 zf HW
   go_wp2_with fail
   refine bodyPost_ret (v:=x #[.agg #[J P 0,J P 0,J P 0,J P 0],J P cc]) ?_ rfl ⟨rfl,fin0.out _ (zq HB3.out w.heap.size (L _) _ _ _ _)⟩;simp[results,Tryz.results91,go_sem,y0,y1,y2,y3]
end Go.Proofs.YtdphiompijbelaaGreat
