import Derived.Deep.RegionWith
import Derived.Test.YtdphiompijbelaaGreatDvA
import Derived.Deep.DeepCutAuto
import Derived.BigRegion
set_option linter.all false
set_option maxRecDepth 100000
open Go.RowKit.Below renaming heap_setCell->yC,heap_alloc->yQ
open Go.Obj renaming cells->uc
open Nat renaming lt_of_lt_of_le->un,le_trans->ue,le_refl->yI
open List renaming length_singleton->kh,length_append->ur,take_succ_cons->yT,drop_succ_cons->yF,length_nil->yZ,length_set->yU,take_zero->yO,drop_zero->yK
open Int renaming toNat_natCast->ks,eq_ofNat_of_zero_le->yY
open Go renaming World->kp
open Go.Proofs.Tryz renaming prog->kO
open Go.Ending renaming returned->A
open Go.World renaming block_lt_of_cell?->O,cell?_of_block->ki,frozen?_of_block->uv,cell?_setCell_other->yJ,ownsRow->yB,cell?_setCell_same->yS,frozen?_setCell->yR
open Bool renaming false->U,true->ud
open Go.Value renaming int->V,bool->Q,slice->Z,pointer->E,ownBlock->ua,tuple->yP,slice->yN,agg->yV,int->yM
open Go.IntKind renaming i64->R
open Option renaming none->I,some->J
set_option maxHeartbeats 2000000
namespace Go.Proofs.YtdphiompijbelaaGreat
open Go.RowKit Go.Sort
structure Mk (w:kp) (B k b:Nat) (lv:Int) (e:Pg.En) (v1 v2:Value) (ts ps:List Int) (p:Int):Prop where
 c0:w.cell? ⟨k,0,I⟩=J (E (J ⟨b,0,I⟩))
 c1:w.cell? ⟨k,1,I⟩=J (V R lv)
 c2:w.cell? ⟨k,2,I⟩=J (Q e.t)
 c3:w.cell? ⟨k,3,I⟩=J (Q e.l)
 c4:w.cell? ⟨k,4,I⟩=J (V R e.r)
 c5:w.cell? ⟨k,5,I⟩=J (Q e.u)
 c6:w.cell? ⟨k,6,I⟩=J (Q e.d)
 c7:w.cell? ⟨k,7,I⟩=J (V R e.f)
 c8:w.cell? ⟨k,8,I⟩=J v1
 c9:w.cell? ⟨k,9,I⟩=J v2
 c10:w.cell? ⟨k,10,I⟩=J (V R p)
 fz:∀o,w.frozen? ⟨k,o,I⟩=U
 o1:w.ownsRow B 3 1 v1 ts.length (xG ts)
 o2:w.ownsRow B 3 1 v2 ps.length (xG ps)
 ne:∀j,v1.ownBlock=J j->v2.ownBlock≠J j
 n1:v1.ownBlock≠J k
 n2:v2.ownBlock≠J k
 hi:B<=k
def mkF (k:Nat) (v1 v2:Value):Nat->Prop:=fun j=>j=k\/v1.ownBlock=J j\/v2.ownBlock=J j
namespace Mk
variable {w w':kp} {B k b:Nat} {lv:Int} {e:Pg.En} {v1 v2:Value} {ts ps:List Int} {p:Int}
theorem lb (h:Mk w B k b lv e v1 v2 ts ps p):k<w.heap.size:=O _ _ h.c0
theorem lt (h:Mk w B k b lv e v1 v2 ts ps p) {j:Nat} (hj:mkF k v1 v2 j):B<=j/\j<w.heap.size:=by
 rcases hj with rfl|hj|hj
 ·exact⟨h.hi,h.lb⟩
 ·exact h.o1.lt j hj
 ·exact h.o2.lt j hj
theorem keep (h:Mk w B k b lv e v1 v2 ts ps p) {G:Nat->Prop} (hb:But G w w') (hG:∀j,mkF k v1 v2 j->¬G j):Mk w' B k b lv e v1 v2 ts ps p:=by
 have hk:w'.heap[k]?=w.heap[k]?:=hb.block k h.lb (hG k (.inl rfl));have c:∀{o:Nat} {v:Value},w.cell? ⟨k,o,I⟩=J v->w'.cell? ⟨k,o,I⟩=J v:=fun e=>(ki hk).trans e
 exact⟨c h.c0,c h.c1,c h.c2,c h.c3,c h.c4,c h.c5,c h.c6,c h.c7,c h.c8,c h.c9,c h.c10,fun o=>(uv hk).trans (h.fz o),
  zc h.o1 hb fun j hj=>hG j (.inr (.inl hj)),zc h.o2 hb fun j hj=>hG j (.inr (.inr hj)),h.ne,h.n1,h.n2,h.hi⟩
theorem grow (h:Mk w B k b lv e v1 v2 ts ps p) (hb:Below w.heap.size w w'):Mk w' B k b lv e v1 v2 ts ps p:=h.keep (G:=fun _=>False) (But.yhp hb) fun _ _=>id
theorem setCell (h:Mk w B k b lv e v1 v2 ts ps p) (o:Nat) (v:Value):
 (∀o',o'≠o->(w.setCell ⟨k,o,I⟩ v).cell? ⟨k,o',I⟩=w.cell? ⟨k,o',I⟩)/\(w.setCell ⟨k,o,I⟩ v).ownsRow B 3 1 v1 ts.length (xG ts)/\(w.setCell ⟨k,o,I⟩ v).ownsRow B 3 1 v2 ps.length (xG ps):=by
 refine⟨fun o' ho=>yJ _ _ _ _ (fun e=>ho (by injection e with _ e;exact e.symm)),?_,?_⟩
 ·exact zb h.o1 fun j hj=>yC _ _ _ _ fun e=>h.n1 (by rw[hj,e])
 ·exact zb h.o2 fun j hj=>yC _ _ _ _ fun e=>h.n2 (by rw[hj,e])
theorem ylM (h:Mk w B k b lv e v1 v2 ts ps p) (Sr:Int):Mk (w.setCell ⟨k,1,I⟩ (V R Sr)) B k b Sr e v1 v2 ts ps p:=by
 obtain⟨hc,q1,q2⟩:=h.setCell 1 (V R Sr)
 exact⟨(hc 0 (by decide)).trans h.c0,yS _ _ _ h.c1,(hc 2 (by decide)).trans h.c2,(hc 3 (by decide)).trans h.c3,(hc 4 (by decide)).trans h.c4,(hc 5 (by decide)).trans h.c5,(hc 6 (by decide)).trans h.c6,(hc 7 (by decide)).trans h.c7,(hc 8 (by decide)).trans h.c8,(hc 9 (by decide)).trans h.c9,(hc 10 (by decide)).trans h.c10,
  fun o=>by rw[yR];exact h.fz o,q1,q2,h.ne,h.n1,h.n2,h.hi⟩
theorem setE (h:Mk w B k b lv e v1 v2 ts ps p) (e':Pg.En):Mk ((((((w.setCell ⟨k,2,I⟩ (Q e'.t)).setCell ⟨k,3,I⟩ (Q e'.l)).setCell ⟨k,4,I⟩ (V R e'.r)).setCell ⟨k,5,I⟩ (Q e'.u)).setCell ⟨k,6,I⟩ (Q e'.d)).setCell ⟨k,7,I⟩ (V R e'.f)) B k b lv e' v1 v2 ts ps p:=by
 have hb:But (fun j=>j=k) w ((((((w.setCell ⟨k,2,I⟩ (Q e'.t)).setCell ⟨k,3,I⟩ (Q e'.l)).setCell ⟨k,4,I⟩ (V R e'.r)).setCell ⟨k,5,I⟩ (Q e'.u)).setCell ⟨k,6,I⟩ (Q e'.d)).setCell ⟨k,7,I⟩ (V R e'.f)):=
  ((((((But.refl (fun j=>j=k) w).setCell (a:=⟨k,2,I⟩) (.inr rfl) _).setCell (a:=⟨k,3,I⟩) (.inr rfl) _).setCell (a:=⟨k,4,I⟩) (.inr rfl) _).setCell (a:=⟨k,5,I⟩) (.inr rfl) _).setCell (a:=⟨k,6,I⟩) (.inr rfl) _).setCell (a:=⟨k,7,I⟩) (.inr rfl) _
 refine⟨?_,?_,?_,?_,?_,?_,?_,?_,?_,?_,?_,fun o=> ?_,zc h.o1 hb fun j hj e=>h.n1 (by rw[hj,e]),zc h.o2 hb fun j hj e=>h.n2 (by rw[hj,e]),h.ne,h.n1,h.n2,h.hi⟩<;>
  simp[go_sem,h.c0,h.c1,h.c2,h.c3,h.c4,h.c5,h.c6,h.c7,h.c8,h.c9,h.c10,h.fz]
end Mk
structure St (w0 w:kp) (k b:Nat) (F0:Nat->Prop) (S:Pg.Fs) (lv:Int) (e:Pg.En) (ts ps:List Int) (p:Int):Prop where
 body:∃B v1 v2 F,Mk w B k b lv e v1 v2 ts ps p/\zh w b S F/\But F0 w0 w/\(∀j,F j->F0 j\/w0.heap.size<=j)/\(∀j,F j->¬mkF k v1 v2 j)/\B<=w.heap.size/\∀j,mkF k v1 v2 j->F0 j\/w0.heap.size<=j
namespace St
variable {w0 w w':kp} {k b:Nat} {F0:Nat->Prop} {S:Pg.Fs} {lv:Int} {e:Pg.En} {ts ps:List Int} {p:Int}
theorem grow (h:St w0 w k b F0 S lv e ts ps p) (hb:Below w.heap.size w w'):St w0 w' k b F0 S lv e ts ps p:=by
 obtain⟨B,v1,v2,F,hM,hF,hB,h1,h2,dY,hm⟩:=h.body;exact⟨B,v1,v2,F,hM.grow hb,hF.keep (G:=fun _=>False) (But.yhp hb) fun _ _=>id,hB.trans (But.yhp (F:=fun _=>False) hb) fun _ _ h=>h.elim,h1,h2,ue dY hb.size,hm⟩
theorem but (h:St w0 w k b F0 S lv e ts ps p):But F0 w0 w:=by
 obtain⟨B,v1,v2,F,hM,hF,hB,h1,h2,dY,hm⟩:=h.body;exact hB
theorem lb (h:St w0 w k b F0 S lv e ts ps p):k<w.heap.size:=by
 obtain⟨B,v1,v2,F,hM,hF,hB,h1,h2,dY,hm⟩:=h.body;exact hM.lb
theorem leaves (h:St w0 w k b F0 S lv e ts ps p):∃F,zh w b S F/\But F0 w0 w/\∀j,F j->F0 j\/w0.heap.size<=j:=by
 obtain⟨B,v1,v2,F,hM,hF,hB,h1,h2,dY,hm⟩:=h.body;exact⟨F,hF,hB,h1⟩
end St
theorem vk {b:Nat} {S:Pg.Fs} {F:Nat->Prop} (t p:Int) (w:kp) (h:zh w b S F):
 Calls kO 155 #[E (J ⟨b,0,I⟩),V R t,V R p] w fun en w'=>∃k,en=A (yP #[E (J ⟨k,0,I⟩),V R (xQ S t p)])/\St w w' k b F S (yhw (zg S t p)) (yhu (zg S t p)) (tabs (zg S t p)) (qN (zg S t p)) p/\Below w.heap.size w w':=by
 have HF:=yfb t p w h;have H:Hid (zh w b S F):=h;clear h;have mg:=xC (zg S t p);have dm:=vx (zg S t p);generalize zg S t p=X at*;generalize xQ S t p=c at*;unfold ych at HF;generalize yhw X=lv at*;generalize yhu X=e at*
 go_enter Tryz.func155,Tryz.ntmps155
 go_wp2_with fail
 refine HF.mono ?_;rintro en w1 ⟨v1,v2,rfl,o1,o2,Ho,hb⟩;obtain⟨a1,c1,rfl⟩:=zF o1;obtain⟨a2,c2,rfl⟩:=zF o2
 have aO:Hid (w1.ownsRow w.heap.size 3 1 (Z a1 X.length c1) (tabs X).length (xG (tabs X))):=by rw[mg];exact o1
 have Rj:Hid (w1.ownsRow w.heap.size 3 1 (Z a2 X.length c2) (qN X).length (xG (qN X))):=by rw[dm];exact o2
 have HN:Hid _:=Ho;have HB:Hid _:=hb;clear o1 o2 Ho hb HF
 go_wp2_with fail
 go_ret2
 have pJ:Below w.heap.size w (w1.alloc (uc #[V R lv,Q e.t,Q e.l,V R e.r,Q e.u,Q e.d,V R e.f,Z a1 X.length c1,Z a2 X.length c2] 211)):=zA HB.out _;have tH:=zA pJ (uc #[E (J ⟨b,0,I⟩),V R lv,Q e.t,Q e.l,V R e.r,Q e.u,Q e.d,V R e.f,Z a1 X.length c1,Z a2 X.length c2,V R p] 213);have pU:=HB.out.size;refine⟨w1.heap.size+1,rfl,⟨w.heap.size,Z a1 X.length c1,Z a2 X.length c2,F,⟨?_,?_,?_,?_,?_,?_,?_,?_,?_,?_,?_,fun o=> ?_,(aO.out.alloc _).alloc _,(Rj.out.alloc _).alloc _,HN.out,fun e=> ?_,fun e=> ?_,by omega⟩,?_,?_,?_,?_,tH.size,?_⟩,tH⟩
 iterate 12 (focus (simp[go_sem]))
 ·have:=(yB.lt aO.out _ e).2;omega
 ·have:=(yB.lt Rj.out _ e).2;omega
 ·exact zh.keep (G:=fun _=>False) H.out (But.yhp tH) fun _ _=>id
 ·exact But.yhp tH
 ·exact fun j hj=> .inl hj
 ·intro j hj hm
  have:=zh.lt H.out hj;rcases hm with rfl|hm|hm
  ·omega
  ·have:=(yB.lt aO.out _ hm).1;omega
  ·have:=(yB.lt Rj.out _ hm).1;omega
 ·intro j hm
  right;rcases hm with rfl|hm|hm
  ·omega
  ·exact(yB.lt aO.out _ hm).1
  ·exact(yB.lt Rj.out _ hm).1
theorem ybo {w0 w:kp} {k b:Nat} {F0:Nat->Prop} {S:Pg.Fs} {lv:Int} {e:Pg.En} {ts ps:List Int} {p:Int} (h:St w0 w k b F0 S lv e ts ps p) (hl:ts.length<=5000):
 Calls kO 170 #[E (J ⟨k,0,I⟩)] w fun en w'=>en=A (V R ((ts.length:Int)-1))/\w'=w:=by
 obtain⟨B,v1,v2,F,hM,hF,hB,h1,h2,dY,hm⟩:=h.body;obtain⟨a1,c1,rfl⟩:=zF hM.o1;have c8:=hM.c8;clear hM hF hB h1 h2 h dY hm;generalize ts.length=n at*
 go_enter Tryz.func170,Tryz.ntmps170
 go_wp2_with fail
 go_ret
 exact⟨rfl,rfl⟩
theorem vN {w0 w:kp} {k b:Nat} {F0:Nat->Prop} {S:Pg.Fs} {lv:Int} {e:Pg.En} {ts ps:List Int} {p:Int} (h:St w0 w k b F0 S lv e ts ps p) (hl:ts.length<=5000):
 Calls kO 135 #[E (J ⟨k,0,I⟩)] w fun en w'=>en=A (Q (decide (1<ts.length)))/\w'=w:=by
 have HE:=ybo h hl
 have HD:Hid (decide (1<(ts.length:Int))=decide (1<ts.length)):=by
  rw[Hid,decide_eq_decide];omega
 clear h;generalize ts.length=n at*
 go_enter Tryz.func135,Tryz.ntmps135
 go_wp2_with fail
 refine HE.mono ?_;rintro en w1 ⟨rfl,rfl⟩
 go_wp2_with fail
 go_ret
 exact⟨xB HD.out,rfl⟩
theorem qM {b:Nat} {S:Pg.Fs} {F:Nat->Prop} (t p:Int) (w:kp) (h:zh w b S F):
 Calls kO 120 #[E (J ⟨b,0,I⟩),V R t,V R p] w fun en w'=>∃k,en=A (yP #[E (J ⟨k,0,I⟩),V R (Pg.tFC S t p)])/\St w w' k b F S (yhw (zg S t p)) (yhu (zg S t p)) (tabs (zg S t p)) (qN (zg S t p)) p/\Below w.heap.size w w':=by
 have HF:=vk t p w h
 have ib:xQ S t p=0->(yhu (zg S t p)).l=(yhu (zg S t p)).t:=by
  intro hz;obtain⟨lv,e,tl,W⟩:=Pg.ykp hz;have hf:=Pg.yhW h.ok W.code;rw[<-W.en]at hf;obtain⟨_,hx⟩:=Pg.yhG hf;have ho:=W.on;rw[W.yhu];unfold Pg.En.on at ho;rcases hx with ⟨h1,h2,_⟩|⟨h1,_⟩
  ·rw[h1,h2]
  ·rw[h1]at ho ⊢
   simpa using ho
 have e1:Pg.tFC S t p=if xQ S t p≠0 then xQ S t p else if (yhu (zg S t p)).t=ud then 0 else 5:=rfl;clear h;generalize Pg.tFC S t p=cc at*;generalize zg S t p=X at*;generalize xQ S t p=c at*
 go_enter Tryz.func120,Tryz.ntmps120
 go_wp2_with fail
 refine HF.mono ?_;rintro en w1 ⟨k,rfl,hS,hb⟩;have HS:Hid _:=hS;have HB:Hid _:=hb;obtain⟨B,v1,v2,F',hM,_,_,_,_,_,_⟩:=hS.body;have c3:=hM.c3;clear hM hS hb HF
 by_cases hc:c=0
 ·subst hc
  rw[if_neg (by decide)]at e1;rw[ib rfl]at c3;clear ib;cases ht:(yhu X).t
  ·rw[ht]at e1 c3
   have E1:Hid _:=e1;clear e1 ht
   go_wp2_with fail
   go_ret2
   exact⟨k,by rw[E1.out];rfl,HS.out,HB.out⟩
  ·rw[ht]at e1 c3
   have E1:Hid _:=e1;clear e1 ht
   go_wp2_with fail
   go_ret2
   exact⟨k,by rw[E1.out];rfl,HS.out,HB.out⟩
 ·have gW:(c==0)=U:=by simpa using hc
  have E1:Hid (cc=c):=by rw[Hid,e1,if_pos hc]
  clear e1 ib hc c3
  go_wp2_with fail
  go_ret2
  exact⟨k,by rw[E1.out];rfl,HS.out,HB.out⟩
theorem jJ {w0 w:kp} {k b:Nat} {F0:Nat->Prop} {S:Pg.Fs} {lv:Int} {e:Pg.En} {ts ps:List Int} {p:Int} (h:St w0 w k b F0 S lv e ts ps p):
 Calls kO 121 #[E (J ⟨k,0,I⟩)] w fun en w'=>en=A (e.map lv p).val/\Below w.heap.size w w':=by
 obtain⟨B,v1,v2,F,hM,hF,hB,h1,h2,dY,hm⟩:=h.body;obtain⟨et,el,er,eu,ed,ef⟩:=e;obtain⟨W,hW⟩:∃W,W=w.alloc (uc #[V R 0,V R 0,V R 0,V R 0] 39):=⟨_,rfl⟩
 have rH:Below w.heap.size w W:=by rw[hW];exact zA (zR w) _
 have wh:=hM.grow rH
 have hz:W.cell? ⟨w.heap.size,0,I⟩=J (V R 0)/\W.cell? ⟨w.heap.size,1,I⟩=J (V R 0)/\W.cell? ⟨w.heap.size,2,I⟩=J (V R 0)/\W.cell? ⟨w.heap.size,3,I⟩=J (V R 0):=by rw[hW];simp[go_sem]
 have Ei:∀o,W.frozen? ⟨w.heap.size,o,I⟩=U:=fun o=>by rw[hW];simp[go_sem]
 have lU:w.heap.size<W.heap.size:=O _ _ hz.1;have HE:=ybn et el er eu ed ef lv p;have e1:Pg.mapV et el er eu ed ef lv p=(Pg.En.map ⟨et,el,er,eu,ed,ef⟩ lv p).val:=rfl;rw[e1]at HE;generalize Pg.En.map ⟨et,el,er,eu,ed,ef⟩ lv p=m at*;obtain⟨mp,ms,mf,mr⟩:=m;simp only[Pg.Mp.val]at HE ⊢
 have nk:¬k=w.heap.size:=by have:=hM.lb;omega
 have nk':¬w.heap.size=k:=by have:=hM.lb;omega
 have HZ:Hid _:=hz;have Bq:Hid _:=Ei;have tT:Hid _:=rH;have k1:=wh.c1;have k2:=wh.c2;have k3:=wh.c3;have k4:=wh.c4;have k5:=wh.c5;have k6:=wh.c6;have k7:=wh.c7;have k10:=wh.c10;simp only at k2 k3 k4 k5 k6 k7;clear h hM hF hB h1 h2 wh hz Ei rH e1 dY hm
 go_enter Tryz.func121,Tryz.ntmps121
 go_wp2_with fail
 rw[<-hW];clear hW
 go_region_held3 (fun w'=>w'.cell? ⟨k,1,I⟩=J (V R lv)/\w'.cell? ⟨k,2,I⟩=J (Q et)/\w'.cell? ⟨k,3,I⟩=J (Q el)/\w'.cell? ⟨k,4,I⟩=J (V R er)/\w'.cell? ⟨k,5,I⟩=J (Q eu)/\w'.cell? ⟨k,6,I⟩=J (Q ed)/\w'.cell? ⟨k,7,I⟩=J (V R ef)/\w'.cell? ⟨k,10,I⟩=J (V R p)) (go_keep) (
  (go_at_call 152;refine(HE _).mono ?_;rintro en w2 ⟨rfl,Hd⟩
   have Ht:Hid (Below W.heap.size W w2):=zT (zR W).drew Hd;have q1:=cell_later Ht.out k1;have q2:=cell_later Ht.out k2;have q3:=cell_later Ht.out k3;have q4:=cell_later Ht.out k4;have q5:=cell_later Ht.out k5;have q6:=cell_later Ht.out k6;have q7:=cell_later Ht.out k7;have q10:=cell_later Ht.out k10;obtain⟨z0,z1,z2,z3⟩:=xH Ht.out HZ.out;have zf:∀o,w2.frozen? ⟨w.heap.size,o,I⟩=U:=fun o=>(Ht.out.frozen (p:=⟨w.heap.size,o,I⟩) lU).trans (Bq.out o)
   clear Hd))
 have fin:Hid (Below w.heap.size w ((((w2.setCell ⟨w.heap.size,0,I⟩ (V R mp)).setCell ⟨w.heap.size,1,I⟩ (V R ms)).setCell ⟨w.heap.size,2,I⟩ (V R mf)).setCell ⟨w.heap.size,3,I⟩ (V R mr))):=zp (zT tT.out Ht.out) _ (yI _) _ _ _ _
 go_wp2_with fail
 refine bodyPost_ret (v:=yV #[V R mp,V R ms,V R mf,V R mr]) ?_ rfl ⟨rfl,fin.out⟩;simp[results,Tryz.results121,go_sem,z0,z1,z2,z3]
theorem jK {w:kp} {B:Nat} {v:Value} {ts:List Int} {t:Int} (h:w.ownsRow B 3 1 v (ts++[t]).length (xG (ts++[t]))):∃g cap,v=Z (J ⟨g,0,I⟩) (ts.length+1) cap/\w.cell? ⟨g,ts.length,I⟩=J (V R t)/\ts.length+1<=cap:=by
 rw[ur,kh]at h;have h2:=h;obtain⟨g,cap,rfl,_,_⟩:=h.form (by omega);refine⟨g,cap,rfl,?_,?_⟩
 ·rw[h.cellAt ts.length (by omega)]
  simp[xG]
 ·rcases h2.2 with ⟨h',_⟩|⟨g',cap',cur,h',_,_,fe,_⟩
  ·cases h'
  ·cases h';exact fe
theorem vY {w0 w:kp} {k b:Nat} {F0:Nat->Prop} {S:Pg.Fs} {lv:Int} {e:Pg.En} {ts ps:List Int} {p t q:Int} (e':Pg.En) (h:St w0 w k b F0 S lv e (ts++[t]) (ps++[q]) p) (Hg:ts.length=ps.length) (hl:ts.length<5000):
 Calls kO 134 #[E (J ⟨k,0,I⟩),e'.val] w fun en w'=>en=A (yP #[])/\St w0 w' k b F0 (S.store t q (Pg.enc e'.t e'.l e'.r e'.u e'.d e'.f lv)) lv e' (ts++[t]) (ps++[q]) p:=by
 obtain⟨et,el,er,eu,ed,ef⟩:=e';simp only[Pg.En.val];have HE:=yaT et el er eu ed ef lv;have hv:0<=Pg.enc et el er eu ed ef lv/\Pg.enc et el er eu ed ef lv<18446744073709551616:=Pg.ykH _ _ _ _ _ _ _;generalize Pg.enc et el er eu ed ef lv=v at*;generalize Pg.yht et el er eu ed ef lv=fl at*;obtain⟨lw,l8⟩:=hv;obtain⟨W,hW⟩:∃W,W=w.alloc (uc #[Q et,Q el,V R er,Q eu,Q ed,V R ef] 70):=⟨_,rfl⟩
 have rH:Below w.heap.size w W:=by rw[hW];exact zA (zR w) _
 have hx:W.cell? ⟨w.heap.size,0,I⟩=J (Q et)/\W.cell? ⟨w.heap.size,1,I⟩=J (Q el)/\W.cell? ⟨w.heap.size,2,I⟩=J (V R er)/\W.cell? ⟨w.heap.size,3,I⟩=J (Q eu)/\W.cell? ⟨w.heap.size,4,I⟩=J (Q ed)/\W.cell? ⟨w.heap.size,5,I⟩=J (V R ef):=by rw[hW];simp[go_sem]
 have nk:¬k=w.heap.size:=by have:=h.lb;omega
 have nk':¬w.heap.size=k:=by have:=h.lb;omega
 have cO:w.heap.size<W.heap.size:=O _ _ hx.1;obtain⟨B,v1,v2,F,hM,hF,hB,h1,h2,dY,hm⟩:=h.body;obtain⟨g1,gP,rfl,ht,_⟩:=jK hM.o1;obtain⟨g2,cap2,rfl,hq,_⟩:=jK hM.o2;have ER:Hid (∀j,F j->j<w.heap.size):=fun j hj=>hF.lt hj;have HM:Hid _:=hM;have HF:Hid (zh w b S F):=hF;have Ba:Hid _:=hB;have H1:Hid _:=h1;have H2:Hid _:=h2;have aA:Hid _:=dY;have Hm:Hid _:=hm;have tT:Hid _:=rH;have k1:=(hM.grow rH).c1;obtain⟨x0,x1,x2,x3,x4,x5⟩:=hx;clear hM hF hB h1 h2 h rH dY hm
 go_enter Tryz.func134,Tryz.ntmps134
 go_wp2_with fail
 rw[<-hW];clear hW
 go_region_held3 (fun w'=>w'.cell? ⟨w.heap.size,0,I⟩=J (Q et)/\w'.cell? ⟨w.heap.size,1,I⟩=J (Q el)/\w'.cell? ⟨w.heap.size,2,I⟩=J (V R er)/\w'.cell? ⟨w.heap.size,3,I⟩=J (Q eu)/\w'.cell? ⟨w.heap.size,4,I⟩=J (Q ed)/\w'.cell? ⟨w.heap.size,5,I⟩=J (V R ef)/\w'.cell? ⟨k,1,I⟩=J (V R lv)) (go_keep) (
  (go_at_call 168;refine(HE _).mono ?_;rintro en w2 ⟨rfl,Hd⟩
   have Ht:Hid (Below W.heap.size W w2):=zT (zR W).drew Hd;have q0:=cell_later Ht.out x0;have q1:=cell_later Ht.out x1;have q2:=cell_later Ht.out x2;have q3:=cell_later Ht.out x3;have q4:=cell_later Ht.out x4;have q5:=cell_later Ht.out x5;have q6:=cell_later Ht.out k1
   clear Hd))
 have rE:Hid (Below w.heap.size w w2):=zT tT.out Ht.out;have sJ:w.heap.size<w2.heap.size:=O _ _ q0;have bU:Hid _:=HM.out.grow rE.out;have aJ:Hid (zh w2 b S F):=zh.keep (G:=fun _=>False) HF.out (But.yhp rE.out) fun _ _=>id;have RS:Hid (But F0 w0 w2):=Ba.out.trans (But.yhp (F:=fun _=>False) rE.out) fun _ _ h=>h.elim;have X2:Hid (w2.cell? ⟨w.heap.size,0,I⟩=J (Q et)/\w2.cell? ⟨w.heap.size,1,I⟩=J (Q el)/\w2.cell? ⟨w.heap.size,2,I⟩=J (V R er)/\w2.cell? ⟨w.heap.size,3,I⟩=J (Q eu)/\w2.cell? ⟨w.heap.size,4,I⟩=J (Q ed)/\w2.cell? ⟨w.heap.size,5,I⟩=J (V R ef)):=⟨q0,q1,q2,q3,q4,q5⟩;have k0:=bU.out.c0;have k8:=bU.out.c8;have k9:=bU.out.c9;have kt:=cell_later rE.out ht;have kq:=cell_later rE.out hq;clear x0 x1 x2 x3 x4 x5 k1 HE q0 q1 q2 q3 q4 q5 q6 ht hq HM HF Ba Ht tT
 have gM:∀W',Below w2.heap.size w2 W'->Calls kO 170 #[E (J ⟨k,0,I⟩)] W' fun en w'=>en=A (V R (ts.length:Int))/\w'=W':=fun W' hb=>by
  have hS:St w0 W' k b F0 S lv e (ts++[t]) (ps++[q]) p:=St.grow ⟨B,_,_,F,bU.out,aJ.out,RS.out,H1.out,H2.out,ue aA.out rE.out.size,Hm.out⟩ hb;refine(ybo hS (by simp;omega)).mono ?_;rintro en w' ⟨rfl,rfl⟩;exact⟨by simp,rfl⟩
 have Uy:∀W',Below w2.heap.size w2 W'->Calls kO 169 #[E (J ⟨b,0,I⟩),V R t,V R q,V .u64 v] W' fun en w'=>en=A (Q (S.at' t q))/\∃F4,zh w' b (S.store t q v) F4/\But F w2 w'/\∀k,F4 k->F k\/w2.heap.size<=k:=fun W' hb=>by
  refine(ycO t q v lw l8 W' (zh.keep (G:=fun _=>False) aJ.out (But.yhp hb) fun _ _=>id)).mono ?_;rintro en w' ⟨rfl,F4,f1,f2,f3⟩;exact⟨rfl,F4,f1,(But.yhp hb).trans f2 fun _ _ h=>h,fun j hj=>(f3 j hj).imp id fun h=>by have:=hb.size;omega⟩
 have ig:ps.length=ts.length:=Hg.symm;rw[ig]at k9 kq
 have i0:(0:Int)<=(ts.length:Int):=by omega
 have i1:(ts.length:Int)<(ts.length:Int)+1:=by omega
 have HL:Hid _:=Hg;clear Hg ig;generalize hn:ts.length=n at*;have HN:Hid _:=hn;clear hn
 go_wp2_with fail
 go_region_held3 (fun w'=>w'.cell? ⟨k,0,I⟩=J (E (J ⟨b,0,I⟩))/\w'.cell? ⟨k,8,I⟩=J (Z (J ⟨g1,0,I⟩) (n+1) gP)/\w'.cell? ⟨k,9,I⟩=J (Z (J ⟨g2,0,I⟩) (n+1) cap2)/\w'.cell? ⟨g1,n,I⟩=J (V R t)/\w'.cell? ⟨g2,n,I⟩=J (V R q)) (go_keep) (first
  | (go_at_call 170;refine(gM _ (by first|exact(zR w2).drew|exact zR w2)).mono ?_;rintro en w3 ⟨rfl,uO⟩;subst w3)
  | (go_at_call 169;refine(Uy _ (by first|exact(zR w2).drew|exact zR w2)).mono ?_;rintro en w4 ⟨rfl,AV⟩
     obtain⟨F4,f1,f2,f3⟩:=AV;have f2':But F w2 w4:=f2;have bG:Hid _:=bU.out.keep f2' fun j hj hF=>H2.out j hF hj;have sQ:Hid (zh w4 b (S.store t q v) F4):=f1;have Te:Hid (But F w2 w4):=f2';have SF:Hid (∀k,F4 k->F k\/w2.heap.size<=k):=f3;have r0:=bG.out.c0;have r8:=bG.out.c8;have r9:=bG.out.c9;rw[<-HL.out]at r9;have rt:w4.cell? ⟨g1,n,I⟩=J (V R t):=(f2'.cell (a:=⟨g1,n,I⟩) (O _ _ kt) fun hF=>H2.out g1 hF (.inr (.inl rfl))).trans kt;have rq:w4.cell? ⟨g2,n,I⟩=J (V R q):=(f2'.cell (a:=⟨g2,n,I⟩) (O _ _ kq) fun hF=>H2.out g2 hF (.inr (.inr rfl))).trans kq
     clear f1 f2 f3 f2'))
 have y:∀(o:Nat) (u:Value),w2.cell? ⟨w.heap.size,o,I⟩=J u->w4.cell? ⟨w.heap.size,o,I⟩=J u:=fun o u hu=>(Te.out.cell (a:=⟨w.heap.size,o,I⟩) sJ fun hF=>by have:=ER.out _ hF;simp at this).trans hu;have y0:=y _ _ X2.out.1;have y1:=y _ _ X2.out.2.1;have y2:=y _ _ X2.out.2.2.1;have y3:=y _ _ X2.out.2.2.2.1;have y4:=y _ _ X2.out.2.2.2.2.1;have y5:=y _ _ X2.out.2.2.2.2.2;have r2:=bG.out.c2;have r3:=bG.out.c3;have r4:=bG.out.c4;have r5:=bG.out.c5;have r6:=bG.out.c6;have r7:=bG.out.c7;have rf:=bG.out.fz;have bv:=bG.out.lb;have fin:Hid _:=bG.out.setE ⟨et,el,er,eu,ed,ef⟩
 have MO:Hid (But (fun j=>j=k) w4 ((((((w4.setCell ⟨k,2,I⟩ (Q et)).setCell ⟨k,3,I⟩ (Q el)).setCell ⟨k,4,I⟩ (V R er)).setCell ⟨k,5,I⟩ (Q eu)).setCell ⟨k,6,I⟩ (Q ed)).setCell ⟨k,7,I⟩ (V R ef))):=
  ((((((But.refl (fun j=>j=k) w4).setCell (a:=⟨k,2,I⟩) (.inr rfl) _).setCell (a:=⟨k,3,I⟩) (.inr rfl) _).setCell (a:=⟨k,4,I⟩) (.inr rfl) _).setCell (a:=⟨k,5,I⟩) (.inr rfl) _).setCell (a:=⟨k,6,I⟩) (.inr rfl) _).setCell (a:=⟨k,7,I⟩) (.inr rfl) _
 have Uk:Hid (∀j,F4 j->¬mkF k (Z (J ⟨g1,0,I⟩) (n+1) gP) (Z (J ⟨g2,0,I⟩) (ps.length+1) cap2) j):=fun j hj hm=>by
  rcases SF.out j hj with h|h
  ·exact H2.out j h hm
  ·have:=(bU.out.lt hm).2;omega
 have wE:=bU.out.hi;clear y r0 r8 r9 rt rq k0 k8 k9 kt kq Uy gM
 go_wp2_with fail
 go_end0
 refine⟨rfl,B,_,_,F4,fin.out,zh.keep sQ.out MO.out fun j hj e=>Uk.out j hj (.inl e),?_,fun j hj=> ?_,Uk.out,?_,Hm.out⟩
 ·refine(RS.out.trans Te.out fun i hi hF=> ?_).trans MO.out fun i hi e=> ?_
  ·rcases H1.out i hF with h|h
   ·exact h
   ·omega
  ·rcases Hm.out i (.inl e)with h|h
   ·exact h
   ·omega
 ·rcases SF.out j hj with h|h
  ·exact H1.out j h
  ·have:=RS.out.size;exact .inr (by omega)
 ·exact ue (ue aA.out rE.out.size) (ue Te.out.size MO.out.size)
theorem ygf {e:Pg.En} {lv:Nat} {p r:Int} (hf:e.fault lv=0) (ht:e.t=ud) (hl:e.l=ud) (hp:Pg.below p 4096=ud) (h0:0<=r) (h1:r<=7):Pg.En.map ⟨e.t,e.l,r,e.u,e.d,e.f⟩ lv p=(e.map lv p).rts r:=by
 obtain⟨et,el,er,eu,ed,ef⟩:=e;simp only at ht hl;subst ht hl;unfold Pg.En.fault at hf
 have Fu:Pg.yht ud ud r eu ed ef lv=0:=by
  unfold Pg.yht at hf ⊢;simp only at hf;rw[if_neg (by omega)]
  rw[if_neg (by simp),if_neg (by rintro (h|h|h|h)<;>simp_all<;>omega)]
  split at hf
  ·omega
  ·rw[if_neg (by simp)]at hf
   split at hf
   ·omega
   ·simpa using hf
 have o1:Pg.lOk ud ud er eu ed ef lv p=ud:=by
  simp only[Pg.lOk,hf,hp];simp
 have o2:Pg.lOk ud ud r eu ed ef lv p=ud:=by
  simp only[Pg.lOk,Fu,hp];simp
 simp[Pg.En.map,Pg.Mp.rts,Pg.yj1,Pg.ykv,Pg.yjw,Pg.yiA,o1,o2]
theorem yfq (r:Int):Pg.check 0 0 0 r=if r<0\/7<r then 1 else 0:=by
 unfold Pg.check
 split<;>split<;>simp_all[Pg.below,Pg.span]<;>omega
theorem yef {X:List Pg.Sp} (h:1<=X.length):∃Y s,X=Y++[s]:=by
 rcases List.eq_nil_or_concat X with rfl|⟨Y,s,rfl⟩
 ·simp at h
 ·exact⟨Y,s,by simp⟩
theorem jc {S:Pg.Fs} {t p:Int} (hz:xQ S t p=0):∃Y s lv,zg S t p=Y++[s]/\Pg.Way S t p (Y++[s]) lv s.e s.table/\s.level=lv/\lv<=3/\Y.length<=3/\(s.place:Int)=Pg.index p (lv:Int)/\s.place=Pg.ix p lv:=by
 obtain⟨lv,e,tl,W⟩:=Pg.ykp hz;have h4:=W.len
 have Ns:1<=(zg S t p).length:=by
  cases hX:zg S t p with
  | nil=>
    have h5:=W.yhw;rw[hX]at h5 h4;simp[yhw]at h5 h4;omega
  | cons a l=>simp
 obtain⟨Y,s,hY⟩:=yef Ns;have e1:yhw (Y++[s])=s.level:=jk Y s;have e2:yhu (Y++[s])=s.e:=jj Y s
 have e3:lastT (Y++[s])=s.table:=by simp[lastT]
 have hi:=yaV S t p (i:=Y.length) (by rw[hY];simp);rw[hY]at W h4 hi;rw[ur,kh]at h4;have hl:=W.yhw;rw[e1]at hl
 have hl':s.level=lv:=by omega
 have he:=W.yhu;rw[e2]at he;have ht:=W.lastT;rw[e3]at ht;subst he ht
 have dm:(qN (Y++[s])).getD Y.length 0=(s.place:Int):=by simp[qN]
 have dI:=Pg.yhE hi.1 (lv:=lv) (by omega)
 have hpp:(s.place:Int)=Pg.index p (lv:Int):=by rw[<-dm,hi.2.2,show(3-(Y.length:Int))=(lv:Int) by omega]
 exact⟨Y,s,lv,hY,W,hl',by omega,by omega,hpp,by omega⟩
theorem yci {b:Nat} {S:Pg.Fs} {F:Nat->Prop} (t p r:Int) (w:kp) (h:zh w b S F):
 Calls kO 91 #[E (J ⟨b,0,I⟩),V R t,V R p,V R r] w fun en w'=>en=A (yP #[(Pg.prM S t p r).val,V R (Pg.prC S t p r)])/\∃F',zh w' b (Pg.prS S t p r) F'/\But F w w'/\∀k,F' k->F k\/w.heap.size<=k:=by
 have HC:=zX 0 0 0 r;rw[yfq]at HC;have H:Hid (zh w b S F):=h;obtain⟨W1,rG⟩:∃W1,W1=w.alloc (uc #[V R 0,V R 0,V R 0,V R 0] 39):=⟨_,rfl⟩
 have pJ:Below w.heap.size w W1:=by rw[rG];exact zA (zR w) _
 have r4:W1.cell? ⟨w.heap.size,0,I⟩=J (V R 0)/\W1.cell? ⟨w.heap.size,1,I⟩=J (V R 0)/\W1.cell? ⟨w.heap.size,2,I⟩=J (V R 0)/\W1.cell? ⟨w.heap.size,3,I⟩=J (V R 0):=by rw[rG];simp[go_sem]
 have kg:∀o,W1.frozen? ⟨w.heap.size,o,I⟩=U:=fun o=>by rw[rG];simp[go_sem]
 have mE:Hid _:=r4;have sQ:Hid _:=kg;have H9:Hid _:=pJ;have dX:Hid (∀w',Below w.heap.size w w'->∃F',zh w' b S F'/\But F w w'/\∀k,F' k->F k\/w.heap.size<=k):=fun w' hb=>⟨F,zh.keep (G:=fun _=>False) H.out (But.yhp hb) fun _ _=>id,But.yhp hb,fun k hk=> .inl hk⟩
 by_cases hr:r<0\/7<r
 ·have e1:Pg.prC S t p r=1:=by rw[Pg.prC,if_pos hr]
  have e2:Pg.prM S t p r= .zz:=by rw[Pg.prM,e1,if_neg (by decide)]
  have e3:Pg.prS S t p r=S:=by rw[Pg.prS,e1,if_neg (by decide)]
  rw[e1,e2,e3];rw[if_pos hr]at HC;clear h e1 e2 e3 hr r4 kg pJ
  go_enter Tryz.func91,Tryz.ntmps91
  go_wp2_with fail
  rw[<-rG];clear rG;refine(HC _).mono ?_;rintro en w2 ⟨rfl,Hd⟩;obtain⟨z0,z1,z2,z3⟩:=xH Hd mE.out;have cO:w.heap.size<W1.heap.size:=O _ _ mE.out.1;have zf:∀o,w2.frozen? ⟨w.heap.size,o,I⟩=U:=fun o=>(Hd.frozen (p:=⟨w.heap.size,o,I⟩) cO).trans (sQ.out o);have Ht:Hid (Below w.heap.size w w2):=zT H9.out Hd;clear Hd
  go_wp2_with fail
  refine bodyPost_ret (v:=yP #[yV #[V R 0,V R 0,V R 0,V R 0],V R 1]) ?_ rfl ⟨rfl,dX.out _ (zp Ht.out w.heap.size (yI _) _ _ _ _)⟩;simp[results,Tryz.results91,go_sem,z0,z1,z2,z3]
 ·have e1:Pg.prC S t p r=Pg.tFC S t p:=by rw[Pg.prC,if_neg hr]
  rw[if_neg hr]at HC;have HW:=fun w2 (hb:Below w.heap.size w w2)=>qM t p w2 (h.keep (G:=fun _=>False) (But.yhp hb) fun _ _=>id)
  by_cases hc:Pg.tFC S t p=0
  ·have hz:xQ S t p=0:=by
    by_cases hz:xQ S t p=0
    ·exact hz
    ·rw[Pg.tFC,if_pos hz]at hc
     exact absurd hc hz
   obtain⟨Y,s,lv,hY,W,lu,kU,DL,dm,dI⟩:=jc hz;have hf:=Pg.yhW h.ok W.code;rw[<-W.en]at hf
   have ht:s.e.t=ud:=by
    rw[Pg.tFC,hz,if_neg (by decide),hY,W.yhu]at hc;cases sM:s.e.t
    ·rw[sM]at hc;simp at hc
    ·rfl
   have hl:s.e.l=ud:=by
    have:=W.on;unfold Pg.En.on at this;rw[ht]at this
    simpa using this
   have e5:Pg.tFM S t p=s.e.map (lv:Int) p:=by rw[Pg.tFM,if_pos hc,hY,W.yhu,W.yhw]
   have e2:Pg.prM S t p r=Pg.En.map ⟨s.e.t,s.e.l,r,s.e.u,s.e.d,s.e.f⟩ (lv:Int) p:=by rw[Pg.prM,e1,if_pos hc,e5];exact(ygf hf ht hl W.below (by omega) (by omega)).symm
   have e3:Pg.prS S t p r=S.store s.table (s.place:Int) (Pg.enc s.e.t s.e.l r s.e.u s.e.d s.e.f (lv:Int)):=by
    rw[Pg.prS,e1,if_pos hc,hY,W.lastT,W.yhw,W.yhu,dm]
   have e6:tabs (Y++[s])=tabs Y++[s.table]:=by simp[tabs]
   have e7:qN (Y++[s])=qN Y++[(s.place:Int)]:=by simp[qN]
   rw[e1,e2,e3,hc];rw[hc,hY,W.yhw,W.yhu,e6,e7]at HW
   have Hg:(tabs Y).length=(qN Y).length:=by rw[xC,vx]
   have Hf:(tabs Y).length<4000:=by rw[xC];omega
   clear e1 e2 e3 e5 e6 e7 hf hY W dI dm hc hz h r4 kg pJ hr;obtain⟨st,sp,sl,sa,⟨et,el,er,eu,ed,ef⟩⟩:=s;simp only at ht hl HW ⊢;generalize (sp:Int)=pl at*;subst ht hl;generalize iB:Pg.En.map ⟨ud,ud,r,eu,ed,ef⟩ (lv:Int) p=m at*;have Mh:Hid _:=iB;clear iB;obtain⟨mp,ms,mf,mr⟩:=m;simp only[Pg.Mp.val]
   go_enter Tryz.func91,Tryz.ntmps91
   go_wp2_with fail
   rw[<-rG];clear rG;refine(HC _).mono ?_;rintro en w2 ⟨rfl,Hd⟩;obtain⟨z0,z1,z2,z3⟩:=xH Hd mE.out;have cO:w.heap.size<W1.heap.size:=O _ _ mE.out.1;have iw:w.heap.size<w2.heap.size:=O _ _ z0;have zf:∀o,w2.frozen? ⟨w.heap.size,o,I⟩=U:=fun o=>(Hd.frozen (p:=⟨w.heap.size,o,I⟩) cO).trans (sQ.out o);have Ht:Hid (Below w.heap.size w w2):=zT H9.out Hd;clear Hd HC mE sQ H9
   go_wp2_with fail
   refine(HW _ Ht.out).mono ?_;rintro en w3 ⟨k,rfl,hS,He⟩;have HS:Hid _:=hS;obtain⟨B,v1,v2,F',hM,_,_,_,_,_,_⟩:=hS.body;have bv:=hM.lb;have k2:=hM.c2;have k3:=hM.c3;have k4:=hM.c4;have k5:=hM.c5;have k6:=hM.c6;have k7:=hM.c7;simp only at k2 k3 k4 k5 k6 k7;have HZ:Hid _:=xH He ⟨z0,z1,z2,z3⟩;have Bq:Hid (∀o,w3.frozen? ⟨w.heap.size,o,I⟩=U):=fun o=>(He.frozen (p:=⟨w.heap.size,o,I⟩) iw).trans (zf o);clear hM hS HW z0 z1 z2 z3 zf He;have HP:=fun w4 (h4:St w2 w4 k b F S (lv:Int) ⟨ud,ud,er,eu,ed,ef⟩ (tabs Y++[st]) (qN Y++[pl]) p)=>vY ⟨ud,ud,r,eu,ed,ef⟩ h4 Hg (by omega);simp only[Pg.En.val]at HP
   go_wp2_with fail
   refine(HP _ (HS.out.grow (zA (zR w3) _))).mono ?_;rintro en w5 ⟨rfl,h5⟩;have mq:=jJ h5;obtain⟨F5,f1,f2,f3⟩:=h5.leaves
   have uk:w5.heap[w.heap.size]?=w3.heap[w.heap.size]?:=by
    have q1:=h5.but.block w.heap.size iw fun hF=>by have:=zh.lt H.out hF;omega
    have q2:=HS.out.but.block w.heap.size iw fun hF=>by have:=zh.lt H.out hF;omega
    exact q1.trans q2.symm
   have Z5:Hid (w5.cell? ⟨w.heap.size,0,I⟩=J (V R 0)/\w5.cell? ⟨w.heap.size,1,I⟩=J (V R 0)/\w5.cell? ⟨w.heap.size,2,I⟩=J (V R 0)/\w5.cell? ⟨w.heap.size,3,I⟩=J (V R 0)):=⟨(ki uk).trans HZ.out.1,(ki uk).trans HZ.out.2.1,(ki uk).trans HZ.out.2.2.1,(ki uk).trans HZ.out.2.2.2⟩;have Dh:Hid (∀o,w5.frozen? ⟨w.heap.size,o,I⟩=U):=fun o=>(uv uk).trans (Bq.out o);have wI:w.heap.size<w5.heap.size:=O _ _ Z5.out.1;rw[Mh.out]at mq;simp only[Pg.Mp.val]at mq;have F1:Hid (zh w5 b (S.store st pl (Pg.enc ud ud r eu ed ef (lv:Int))) F5):=f1;have F2:Hid (But F w w5):=(But.yhp Ht.out).trans f2 fun _ _ h=>h;have F3:Hid (∀j,F5 j->F j\/w2.heap.size<=j):=f3;clear h5 f1 f2 f3 HP k2 k3 k4 k5 k6 k7 uk HS HZ Bq
   go_wp2_with fail
   refine mq.mono ?_;rintro en w6 ⟨rfl,H7⟩;obtain⟨z0,z1,z2,z3⟩:=xH H7 Z5.out;have zf:∀o,w6.frozen? ⟨w.heap.size,o,I⟩=U:=fun o=>(H7.frozen (p:=⟨w.heap.size,o,I⟩) wI).trans (Dh.out o);have fw:Hid _:=H7;clear H7 mq Z5 Dh
   go_wp2_with fail
   refine bodyPost_ret (v:=yP #[yV #[V R mp,V R ms,V R mf,V R mr],V R 0]) ?_ rfl ⟨rfl,F5,?_,?_,fun j hj=> ?_⟩
   ·simp[results,Tryz.results91,go_sem,z0,z1,z2,z3]
   ·refine zh.keep (G:=fun j=>j=w.heap.size) F1.out ?_ fun j hj e=> ?_
    ·iterate 4 refine But.setCell ?_ (by exact .inr rfl) _
     exact But.yhp fw.out
    ·rcases F3.out j hj with h|h
     ·have:=zh.lt H.out h;omega
     ·omega
   ·iterate 4 refine But.setCell ?_ (by exact .inl (yI _)) _
    exact F2.out.trans (But.yhp (F:=fun _=>False) fw.out) fun _ _ h=>h.elim
   ·exact(F3.out j hj).imp id fun h=>by omega
  ·have e2:Pg.prM S t p r= .zz:=by rw[Pg.prM,e1,if_neg hc]
   have e3:Pg.prS S t p r=S:=by rw[Pg.prS,e1,if_neg hc]
   rw[e1,e2,e3];clear h e1 e2 e3 hr r4 kg pJ;generalize Pg.tFC S t p=cc at*
   have gW:(cc !=0)=ud:=by simp[hc]
   clear hc
   go_enter Tryz.func91,Tryz.ntmps91
   go_wp2_with fail
   rw[<-rG];clear rG;refine(HC _).mono ?_;rintro en w2 ⟨rfl,Hd⟩;obtain⟨z0,z1,z2,z3⟩:=xH Hd mE.out;have cO:w.heap.size<W1.heap.size:=O _ _ mE.out.1;have iw:w.heap.size<w2.heap.size:=O _ _ z0;have zf:∀o,w2.frozen? ⟨w.heap.size,o,I⟩=U:=fun o=>(Hd.frozen (p:=⟨w.heap.size,o,I⟩) cO).trans (sQ.out o);have Ht:Hid (Below w.heap.size w w2):=zT H9.out Hd;clear Hd HC mE sQ H9
   go_wp2_with fail
   refine(HW _ Ht.out).mono ?_;rintro en w3 ⟨k,rfl,_,He⟩;obtain⟨y0,y1,y2,y3⟩:=xH He ⟨z0,z1,z2,z3⟩;have yf:∀o,w3.frozen? ⟨w.heap.size,o,I⟩=U:=fun o=>(He.frozen (p:=⟨w.heap.size,o,I⟩) iw).trans (zf o);have rE:Hid (Below w.heap.size w w3):=zT Ht.out He;clear He z0 z1 z2 z3 zf HW
   go_wp2_with fail
   refine bodyPost_ret (v:=yP #[yV #[V R 0,V R 0,V R 0,V R 0],V R cc]) ?_ rfl ⟨rfl,dX.out _ (zp rE.out w.heap.size (yI _) _ _ _ _)⟩;simp[results,Tryz.results91,go_sem,y0,y1,y2,y3]
end Go.Proofs.YtdphiompijbelaaGreat
namespace Go.Proofs.YtdphiompijbelaaGreat
open Go.RowKit Go.Sort
attribute [local go_sem] Loose.gent
theorem xI (w:kp):Below w.heap.size w w.drew:=(zR w).drew
theorem xA (c:Int) (w:kp):Calls kO 54 #[V R c] w fun e w'=>e=A (Pg.Ev.code c).val/\Below w.heap.size w w':=by
 go_enter Tryz.func54,Tryz.ntmps54
 go_wp2_with fail
 refine bodyPost_ret (v:=(Pg.Ev.code c).val) ?_ rfl ⟨rfl,?_⟩
 ·simp[results,Tryz.results54,go_sem,Pg.Ev.val,Pg.Ev.code]
 ·exact zA (zR w) _
theorem jF (a f r c:Int) (en:Bool) (w:kp):Calls kO 92 #[yV #[V R a,V R f,V R r],Q en,V R c] w fun e w'=>e=A (Pg.Ev.val ⟨c,en,a,f,r,U⟩)/\Below w.heap.size w w':=by
 go_enter Tryz.func92,Tryz.ntmps92
 go_wp2_with fail
 refine bodyPost_ret (v:=(Pg.Ev.val ⟨c,en,a,f,r,U⟩)) ?_ rfl ⟨rfl,?_⟩
 ·simp[results,Tryz.results92,go_sem,Pg.Ev.val]
 ·exact zA (zA (zR w) _) _
section
variable {b:Nat} {D:Dsd} {X:Pg.Spc}
theorem qj (k:Int) (w:kp) (h:Dsk w b D X):Calls kO 61 #[E (J ⟨b,0,I⟩),V R k] w fun e w'=>e=A (Q (decide (0<=k)&&decide (k<(X.C.length:Int))))/\w'=w:=by
 have c2:=h.c2;clear h
 by_cases h0:0<=k
 ·have d0:decide (0<=k)=ud:=by simpa using h0
  go_enter Tryz.func61,Tryz.ntmps61
  go_wp2_with fail
  go_ret
  exact⟨by simp[h0],rfl⟩
 ·have d0:decide (0<=k)=U:=by simpa using h0
  go_enter Tryz.func61,Tryz.ntmps61
  go_wp2_with fail
  go_ret
  exact⟨by simp[h0],rfl⟩
theorem qh (w:kp) (h:Dsk w b D X):Calls kO 20 #[E (J ⟨b,0,I⟩)] w fun e w'=>e=A (Q X.busy)/\w'=w:=by
 have c3:=h.c3;have HO:=ya8 w h.tl;rw[Pg.yki (by rw[h.len];exact h.le)]at HO;unfold Pg.Spc.busy;generalize X.W.any id=z at*;clear h
 go_enter Tryz.func20,Tryz.ntmps20
 go_wp2_with fail
 refine HO.mono ?_;rintro e w1 ⟨rfl,hw⟩;subst w1
 go_wp2_with fail
 go_ret
 exact⟨by simp,rfl⟩
theorem ydM (w:kp) (h:Dsk w b D X):Calls kO 21 #[E (J ⟨b,0,I⟩)] w fun e w'=>e=A (V R X.S.free)/\Below w.heap.size w w':=by
 have c0:=h.c0;have HO:=yaW w h.mem;clear h
 go_enter Tryz.func21,Tryz.ntmps21
 go_wp2_with fail
 refine HO.mono ?_;rintro e w1 ⟨rfl,hb⟩;have HB:Hid _:=hb;clear hb
 go_wp2_with fail
 go_ret
 exact⟨rfl,HB.out⟩
theorem ydO (w:kp) (h:Dsk w b D X):Calls kO 23 #[E (J ⟨b,0,I⟩)] w fun e w'=>e=A (V R X.G.length)/\w'=w:=by
 have c4:=h.c4;clear h
 go_enter Tryz.func23,Tryz.ntmps23
 go_wp2_with fail
 go_ret
 exact⟨rfl,rfl⟩
theorem ygq (k:Int) (w:kp) (h:Dsk w b D X):Calls kO 26 #[E (J ⟨b,0,I⟩),V R k] w fun e w'=>∃ad cap,e=A (Z ad (X.linesOf k).length cap)/\qC w' ad (X.linesOf k)/\Below w.heap.size w w':=by
 have HH:=qj k w h
 by_cases sU:0<=k/\k<(X.C.length:Int)
 ·obtain⟨n,rfl⟩:=yY sU.1
  have hl:n<X.C.length:=by omega
  have e:X.linesOf (n:Int)=(X.C.getD n Pg.Cr.new).L:=by unfold Pg.Spc.linesOf;rw[if_pos sU.1,ks]
  rw[e];rw[show(decide (0<=(n:Int))&&decide ((n:Int)<(X.C.length:Int)))=ud by simp[hl]]at HH;obtain⟨bt,bk,Ft,hC,_⟩:=h.core n hl;have HO:=yeg w hC.tb;have c2:=h.c2;have cr:=h.row n hl;have k0:=hC.c0
  have i0:(0:Int)<=(n:Int):=by omega
  have i1:(n:Int)<(X.C.length:Int):=by omega
  generalize (X.C.getD n Pg.Cr.new).L=L at*;clear h hC sU e
  go_enter Tryz.func26,Tryz.ntmps26
  go_wp2_with fail
  refine HH.mono ?_;rintro e w1 ⟨rfl,hw⟩;subst w1
  go_wp2_with fail
  refine HO.mono ?_;rintro e w1 ⟨ad,cap,rfl,hA,hb,_⟩;have HF:Hid (qC w1 ad L/\Below w.heap.size w w1):=⟨hA,hb⟩;clear hA hb HO
  go_wp2_with fail
  go_ret
  exact⟨ad,cap,rfl,HF.out.1,HF.out.2⟩
 ·have e:X.linesOf k=[]:=by
   unfold Pg.Spc.linesOf;split
   ·have:X.C.length<=k.toNat:=by omega
    simp[List.getD,this,Pg.Cr.new]
   ·rfl
  rw[e];rw[show(decide (0<=k)&&decide (k<(X.C.length:Int)))=U by simp;omega]at HH;clear h sU e
  go_enter Tryz.func26,Tryz.ntmps26
  go_wp2_with fail
  refine HH.mono ?_;rintro e w1 ⟨rfl,hw⟩;subst w1
  go_wp2_with fail
  go_ret
  exact⟨I,0,rfl,fun j hj=>by simp at hj,zR w⟩
theorem yft (k:Int) (w:kp) (h:Dsk w b D X):Calls kO 15 #[E (J ⟨b,0,I⟩),V R k] w fun e w'=>e=A (yP #[yV #[V R (X.walkOf k).q,V R (X.walkOf k).k,Q (X.walkOf k).u],Q (X.walkOf k).on])/\Below w.heap.size w w':=by
 obtain⟨W,hW⟩:∃W,W=w.alloc (uc #[V R 0,V R 0,Q U] 41):=⟨_,rfl⟩
 have hB:Below w.heap.size w W:=by rw[hW];exact zA (zR _) _
 have HW:=h.grow hB;have HH:=qj k W HW;obtain⟨⟨z0,z1,z2⟩,zf⟩:=yd3 (show W.heap[w.heap.size]?=J (uc #[V R 0,V R 0,Q U] 41 (0,0)) by rw[hW];exact heap_alloc_new _ _)
 by_cases sU:0<=k/\k<(X.C.length:Int)
 ·obtain⟨n,rfl⟩:=yY sU.1
  have hl:n<X.C.length:=by omega
  have e:X.walkOf (n:Int)=(X.C.getD n Pg.Cr.new).K:=by unfold Pg.Spc.walkOf;rw[if_pos sU.1,ks]
  rw[e];rw[show(decide (0<=(n:Int))&&decide ((n:Int)<(X.C.length:Int)))=ud by simp[hl]]at HH;obtain⟨bt,bk,Ft,hC,hF⟩:=HW.core n hl;have UR:=HW.core n hl;have HA:=fun d os=>ycQ _ (hC.grow (below_regrown W d os)).wk;have HO:=fun d os=>qx _ (UR.grow (below_regrown W d os));have c2:=cell_regrown HW.c2;have cr:=cell_regrown (HW.row n hl);have k1:=cell_regrown hC.c1
  have i0:(0:Int)<=(n:Int):=by omega
  have i1:(n:Int)<(X.C.length:Int):=by omega
  have HB:Hid _:=hB;have hs:w.heap.size<W.heap.size:=O _ _ z0;generalize (X.C.getD n Pg.Cr.new).K=K at*;generalize X.C.length=cl at*;clear h hC UR hF sU e HW hB
  go_enter Tryz.func15,Tryz.ntmps15
  go_upto_region 1 with fail
  rw[<-hW];clear hW
  go_wp2_with fail
  refine HH.mono ?_;rintro e w1 ⟨rfl,hw⟩;subst w1
  go_upto_region 3 with fail
  refine Loose.yhr 19 (by kernel_rfl) (by kernel_rfl) ?_;simp only[yT,yO,yF,yK]
  repeat (
   refine Loose.zS (fun k hk=> ?_)
   go_simp
   first
    | (refine hk _ ?_;clear hk k)
    | (apply Exists.intro
       refine⟨fun _=> ?_,hk _ ?_⟩
       (first
         | (go_at_call 62;exact Loose.calls (HA _ _))
         | (go_at_call 63;exact Loose.yii (HO _ _)))
       clear hk k))
  refine Loose.yhs ?_;intro w3 He;have y0:=(He.cell (p:=⟨w.heap.size,0,I⟩) hs).trans z0;have y1:=(He.cell (p:=⟨w.heap.size,1,I⟩) hs).trans z1;have y2:=(He.cell (p:=⟨w.heap.size,2,I⟩) hs).trans z2;have yf:∀p,w3.frozen? ⟨w.heap.size,p,I⟩=U:=fun p=>(He.frozen (p:=⟨w.heap.size,p,I⟩) hs).trans (zf p);have dW:w.heap.size<w3.heap.size:=un hs He.size;have rE:Hid (Below w.heap.size w w3):=zT HB.out He;clear He z0 z1 z2 zf HA HO c2 cr k1 HH
  go_wp2_with fail
  refine bodyPost_ret (v:=yP #[yV #[V R K.q,V R K.k,Q K.u],Q K.on]) ?_ rfl ⟨rfl,?_⟩
  ·simp[results,Tryz.results15,go_sem,y0,y1,y2,dW]
  ·exact qi rE.out _ (yI _) _ _ _
 ·have e:X.walkOf k=Pg.Wk.off:=by
   unfold Pg.Spc.walkOf;split
   ·have:X.C.length<=k.toNat:=by omega
    simp[List.getD,this,Pg.Cr.new]
   ·rfl
  rw[e];rw[show(decide (0<=k)&&decide (k<(X.C.length:Int)))=U by simp;omega]at HH;have HB:Hid _:=hB;have hs:w.heap.size<W.heap.size:=O _ _ z0;clear h sU e HW hB
  go_enter Tryz.func15,Tryz.ntmps15
  go_upto_region 1 with fail
  rw[<-hW];clear hW
  go_wp2_with fail
  refine HH.mono ?_;rintro e w1 ⟨rfl,hw⟩;subst w1
  go_wp2_with fail
  refine bodyPost_ret (v:=yP #[yV #[V R Pg.Wk.off.q,V R Pg.Wk.off.k,Q Pg.Wk.off.u],Q Pg.Wk.off.on]) ?_ rfl ⟨rfl,?_⟩
  ·simp[results,Tryz.results15,go_sem,z0,z1,z2,hs,Pg.Wk.off]
  ·exact qi HB.out _ (yI _) _ _ _
theorem yaR (w:kp) (h:Dsk w b D X):Calls kO 17 #[E (J ⟨b,0,I⟩)] w fun e w'=>∃ad cap,e=A (Z ad X.maps.length cap)/\xS w' ad X.maps/\Below w.heap.size w w'/\∀g,ad=J ⟨g,0,I⟩->w.heap.size<=g:=by
 have c0:=h.c0;have c1:=h.c1;have HL:=yfc 0 w.drew (h.grow (xI w)).mem;have RY:Hid (Below w.heap.size w w.drew):=xI w;have rY:b<w.heap.size:=h.lb;have EM:Hid (X.maps=if (Pg.thr X.S Pg.zW 3 0 0).2=0 then Pg.zM (Pg.thr X.S Pg.zW 3 0 0).1 else []):=rfl;generalize X.maps=M at*;generalize Pg.thr X.S Pg.zW 3 0 0=th at*;clear h
 go_enter Tryz.func17,Tryz.ntmps17
 go_wp2_with fail
 go_region_held3 (fun w'=>w'.cell? ⟨b,0,I⟩=J (E (J ⟨D.bm,0,I⟩))/\w'.cell? ⟨b,1,I⟩=J (V R 0)) (go_keep) (
  (go_at_call 64;refine HL.mono ?_;rintro en w4 ⟨ad,cap,L,rfl,eL,hA,hN,PK⟩
   have hb:Below w.heap.size w w4:=zT RY.out PK;have u0:w4.cell? ⟨b,0,I⟩=J (E (J ⟨D.bm,0,I⟩)):=(hb.cell (p:=⟨b,0,I⟩) rY).trans c0;have u1:w4.cell? ⟨b,1,I⟩=J (V R 0):=(hb.cell (p:=⟨b,1,I⟩) rY).trans c1;have HF:Hid ((L=M)/\xS w4 ad L/\Below w.heap.size w w4/\∀g,ad=J ⟨g,0,I⟩->w.heap.size<=g):=⟨eL.trans EM.out.symm,hA,hb,hN⟩
   clear eL hA hN hb PK))
 all_goals
  go_wp2_with fail
  go_ret
  obtain⟨rfl,h1,h2,h3⟩:=HF.out;exact⟨ad,cap,rfl,by first|exact h1|exact h1.below (zR _).drew,by first|exact h2|exact h2.drew,h3⟩
theorem ybX (w:kp) (h:Dsk w b D X):Calls kO 19 #[E (J ⟨b,0,I⟩)] w fun e w'=>∃ad cap,e=A (Z ad X.tabs.length cap)/\zx w' ad X.tabs/\X.tabs.length<=cap/\Below w.heap.size w w':=by
 have c0:=h.c0;have c1:=h.c1;have HL:=yde 0 w.drew (h.grow (xI w)).mem;have RY:Hid (Below w.heap.size w w.drew):=xI w;have rY:b<w.heap.size:=h.lb;have EM:Hid (X.tabs=if (Pg.thr X.S Pg.zW 3 0 0).2=0 then 0::Pg.zU (Pg.thr X.S Pg.zW 3 0 0).1 else []):=rfl;generalize X.tabs=M at*;generalize Pg.thr X.S Pg.zW 3 0 0=th at*;clear h
 go_enter Tryz.func19,Tryz.ntmps19
 go_wp2_with fail
 go_region_held3 (fun w'=>w'.cell? ⟨b,0,I⟩=J (E (J ⟨D.bm,0,I⟩))/\w'.cell? ⟨b,1,I⟩=J (V R 0)) (go_keep) (
  (go_at_call 65;refine HL.mono ?_;rintro en w4 ⟨ad,cap,L,rfl,eL,hA,hN,PK⟩
   have hb:Below w.heap.size w w4:=zT RY.out PK;have u0:w4.cell? ⟨b,0,I⟩=J (E (J ⟨D.bm,0,I⟩)):=(hb.cell (p:=⟨b,0,I⟩) rY).trans c0;have u1:w4.cell? ⟨b,1,I⟩=J (V R 0):=(hb.cell (p:=⟨b,1,I⟩) rY).trans c1;have HF:Hid ((L=M)/\zx w4 ad L/\Below w.heap.size w w4/\L.length<=cap):=⟨eL.trans EM.out.symm,hA,hb,hN⟩
   clear eL hA hN hb PK))
 all_goals
  go_wp2_with fail
  go_ret
  obtain⟨rfl,h1,h2,h3⟩:=HF.out;exact⟨ad,cap,rfl,by first|exact h1|exact h1.below (zR _).drew,h3,by first|exact h2|exact h2.drew⟩
end
theorem Pg.yjN:∀(G:List Int) (x:Int) (S:Pg.Fs),Pg.gives (G++[x]) S=(Pg.gives G S).give x
 | [],x,S=>rfl
 | y::G,x,S=>Pg.yjN G x (S.give y)
theorem Pg.gives_upto (G:List Int) (S:Pg.Fs) {t:Nat} (ht:t<G.length):Pg.gives (G.take (t+1)) S=(Pg.gives (G.take t) S).give (G.getD t 0):=by
 rw[show G.take (t+1)=G.take t++[G.getD t 0]from by rw[List.take_succ_eq_append_getElem ht];simp[List.getD,ht],Pg.yjN]
theorem ycr (w:kp) (r:Nat) (x0 x1 x2 x3 x4 x5:Value):But (fun x=>x=r) w ((((((w.setCell ⟨r,0,I⟩ x0).setCell ⟨r,1,I⟩ x1).setCell ⟨r,2,I⟩ x2).setCell ⟨r,3,I⟩ x3).setCell ⟨r,4,I⟩ x4).setCell ⟨r,5,I⟩ x5):=qJ (But.refl (fun x=>x=r) w) r (.inr rfl) _ _ _ _ _ _
structure zi (w:kp) (b:Nat) (D:Dsd) (X X':Pg.Spc) (w':kp):Prop where
 ex:∃D',Dsk w' b D' X'/\But (dsF D b X.C.length X.G) w w'/\∀x,dsF D' b X'.C.length X'.G x->dsF D b X.C.length X.G x\/w.heap.size<=x
section
variable {w w' W W' Wf:kp} {b:Nat} {D D':Dsd} {X X' UG:Pg.Spc}
theorem zi.same (h:Dsk w b D X) (hb:Below w.heap.size w w'):zi w b D X X w':=⟨D,h.grow hb,But.yhp hb,fun x hx=> .inl hx⟩
theorem zi.behind {Y:Nat->Prop} (hB:Below w.heap.size w W) (h:zi W b D X X' W') (lt:∀x,dsF D b X.C.length X.G x->x<w.heap.size) (hY:∀x,Y x->w.heap.size<=x/\x<W.heap.size) (hb:But Y W' Wf):zi w b D X X' Wf:=by
 obtain⟨D',h1,h3,h4⟩:=h;refine⟨D',h1.keep hb (fun x hx hy=> ?_),((But.yhp hB).trans h3 (fun _ _ h=>h)).trans hb (fun x hx hy=>by have:=hY x hy;omega),fun x hx=>(h4 x hx).imp id (fun h=>by have:=hB.size;omega)⟩;have:=hY x hy;rcases h4 x hx with h|h
 ·have:=lt x h
  omega
 ·omega
theorem zi.block (h:zi W b D X X' W') (lt:∀x,dsF D b X.C.length X.G x->x<w.heap.size) {r:Nat} (h1:w.heap.size<=r) (h2:r<W.heap.size):W'.heap[r]?=W.heap[r]?/\r<W'.heap.size:=by
 obtain⟨D',_,h3,_⟩:=h;exact⟨h3.block r h2 (fun e=>by have:=lt r e;omega),un h2 h3.size⟩
theorem zi.next (h3:But (dsF D b X.C.length X.G) w W) (h4:∀x,dsF D' b X'.C.length X'.G x->dsF D b X.C.length X.G x\/w.heap.size<=x) (h':zi W b D' X' UG Wf):zi w b D X UG Wf:=by
 obtain⟨EC,k1,k3,k4⟩:=h';refine⟨EC,k1,h3.trans k3 (fun x hx e=> ?_),fun x hx=> ?_⟩
 ·rcases h4 x e with h|h
  ·exact h
  ·omega
 ·have:=h3.size
  rcases k4 x hx with h|h
  ·exact h4 x h
  ·exact .inr (by omega)
end
theorem Dsk.owns {w:kp} {b:Nat} {D:Dsd} {X:Pg.Spc} (h:Dsk w b D X):∀x,dsF D b X.C.length X.G x->x<w.heap.size:=fun x ⟨i,hx⟩=>h.lt hx
theorem ydN {b:Nat} {D:Dsd} {X:Pg.Spc} (w:kp) (h:Dsk w b D X):
 Calls kO 149 #[E (J ⟨b,0,I⟩)] w fun e w'=>e=A (yP #[])/\zi w b D X {X with S:=Pg.gives X.G X.S,G:=[]} w':=by
 have c4:=h.c4;have HX:Hid _:=h;have AX:=h.few;clear h
 go_enter Tryz.func149,Tryz.ntmps149
 go_wp2_with fail
 go_loopw [9,3] (fun i _ wq=>∃t:Nat,t<=X.G.length/\i=V R t/\Hid (∃FM,Dsk wq b {D with FM:=FM} {X with S:=Pg.gives (X.G.take t) X.S}/\But (dsF D b X.C.length X.G) w wq/\∀x,dsF {D with FM:=FM} b X.C.length X.G x->dsF D b X.C.length X.G x\/w.heap.size<=x)) (fun i _ _=>X.G.length-(intOf i).toNat)
 case atStart=>exact⟨0,by omega,rfl,⟨D.FM,HX.out,But.refl _ _,fun x hx=> .inl hx⟩⟩
 case round=>
  obtain⟨t,ht,rfl,HR⟩:=hrel;obtain⟨FM,hd,hb,hF⟩:=HR.out;have HD:Hid _:=hd;have HB:Hid _:=hb;have HF:Hid _:=hF;clear HR hd hb hF c4
  have i0:(0:Int)<=(t:Int):=by omega
  by_cases Hf:t<X.G.length
  ·have i1:(t:Int)<(X.G.length:Int):=by omega
   have k4:=HD.out.c4;have k0:=HD.out.c0;obtain⟨g,eg,hgl,fU⟩:=HD.out.gone t Hf;simp only at eg k4 k0 fU;rw[eg]at k4;have HG:=ydR (X.G.getD t 0) wr HD.out.mem;simp only at HG;rw[<-Pg.gives_upto X.G X.S Hf]at HG;generalize X.G.getD t 0=gv at*;generalize (Pg.gives (X.G.take t) X.S).has gv=hv at*;rw[eg]
   go_wp2_with fail
   refine HG.mono ?_;rintro e w2 ⟨rfl,EG,si,Hd,dA⟩;have D2:=HD.out.frames si Hd dA
   have HN:Hid (∃FM,Dsk w2 b {D with FM:=FM} {X with S:=Pg.gives (X.G.take (t+1)) X.S}/\But (dsF D b X.C.length X.G) w w2/\∀x,dsF {D with FM:=FM} b X.C.length X.G x->dsF D b X.C.length X.G x\/w.heap.size<=x):=by
    refine⟨EG,D2,HB.out.trans Hd (fun x hx e=> ?_),fun x hx=> ?_⟩
    ·rcases HF.out x ⟨1,e⟩with h|h
     ·exact h
     ·omega
    ·have hs:=HB.out.size
     rcases qy (D:={D with FM:=FM}) dA x hx with h|h
     ·exact HF.out x h
     ·exact .inr (by omega)
   clear si Hd dA D2 HG HD HB HF k4 k0 fU
   go_wp2_with fail
   go_roundw
   case rel=>exact⟨t+1,by omega,by go_num,by rw[<-eg];exact HN⟩
   case measure=>simp[intOf];omega
  ·have i1:¬(t:Int)<(X.G.length:Int):=by omega
   have et:t=X.G.length:=by omega
   subst et;have k4:=HD.out.c4;have kf:=HD.out.fb;have hl:=HD.out.lb;obtain⟨D5,B5⟩:=HD.out.goes (G:=[]) (ag:=I) (cg:=0) (fun j hj=>by simp at hj) (fun g e=>by cases e) (by simp);simp only[yZ,List.take_length]at D5 B5
   have FIN:Hid (zi w b D X {X with S:=Pg.gives X.G X.S,G:=[]} (wr.setCell ⟨b,4,I⟩ (Z I 0 0))):=by
    refine⟨_,D5,HB.out.trans B5 (fun x hx e=>⟨0,e⟩),fun x hx=> ?_⟩;rcases yfr (D:={D with FM:=FM}) (G:=X.G) (N:=w.heap.size) (fun x _ e=>absurd rfl e) x hx with h|h
    ·exact HF.out x h
    ·exact .inr h
   clear D5 B5 HD HB HF;simp only at k4
   go_wp2_with fail
   go_end0
   exact⟨rfl,FIN.out⟩
theorem ycK {b:Nat} {root:Int} {C:Pg.Cr} {F:Nat->Prop} (w:kp) (h:qr w b root C F):
 Calls kO 96 #[E (J ⟨b,0,I⟩)] w fun e w'=>e=A (if C.L=[]then Pg.Ev.code 9 else Pg.Ev.code 0).val/\∃F',qr w' b root C.yig F'/\But F w w'/\∀k,F' k->F k\/w.heap.size<=k:=by
 obtain⟨W,hW⟩:∃W,W=w.alloc (uc #[V R 0,Q U,V R 0,V R 0,V R 0,Q U] 36):=⟨_,rfl⟩
 have hB:Below w.heap.size w W:=by rw[hW];exact zA (zR _) _
 have rU:w.heap.size<W.heap.size:=by rw[hW];simp
 have RZ:Hid (W.heap[w.heap.size]?=J (uc #[V R 0,Q U,V R 0,V R 0,V R 0,Q U] 36 (0,0))):=by rw[Hid,hW];exact heap_alloc_new _ _
 have LT:Hid (∀x,F x->x<w.heap.size):=fun x hx=>h.lt hx;obtain⟨bt,bk,Ft,hk,rfl⟩:=h;have HK:Hid _:=hk.grow hB;have HE:=yae W HK.out.tb;have k0:=HK.out.c0;have HB:Hid _:=hB;clear hB hk;obtain⟨L,K⟩:=C;simp only[Pg.Cr.yig]at*
 have fin:Hid (∀w1 mY Wf,jQ w1 bt 0 (L.drop 1) mY->But Ft W w1->(∀k,mY k->Ft k\/W.heap.size<=k)->But (fun x=>x=w.heap.size\/w1.heap.size<=x) w1 Wf->∃F',qr Wf b root ⟨L.drop 1,K⟩ F'/\But (crF b bk Ft) w Wf/\∀k,F' k->crF b bk Ft k\/w.heap.size<=k):=fun w1 mY Wf ht hb hF hf=>by
  have h1:=HK.out.stepT ht hb hF
  have own:∀k,crF b bk mY k->crF b bk Ft k\/W.heap.size<=k:=fun k hk=>by
   rcases hk with hk|hk|hk
   ·exact .inl (.inl hk)
   ·exact .inl (.inr (.inl hk))
   ·exact(hF k hk).imp (fun h=> .inr (.inr h)) id
  refine⟨_,⟨bt,bk,mY,h1.keep hf (fun k hk e=> ?_),rfl⟩,((But.yhp HB.out).trans hb (fun _ _ h=> .inr (.inr h))).trans hf (fun x hx e=> ?_),fun k hk=>(own k hk).imp id (fun h=>by omega)⟩
  ·have:=h1.lt hk
   rcases own k hk with h|h
   ·have:=LT.out k h
    omega
   ·omega
  ·have:=hb.size
   omega
 cases L with
 | nil=>
   simp only[yZ,List.drop_nil,Nat.lt_irrefl,decide_false,if_true]at HE fin ⊢
   go_enter Tryz.func96,Tryz.ntmps96
   go_upto_region 1 with fail
   rw[<-hW];clear hW
   go_wp2_with fail
   refine HE.mono ?_;rintro e w1 ⟨rfl,mY,ht,hc,hF⟩;have Z1:Hid (w1.heap[w.heap.size]?=_):=(hc.but.block _ rU (fun e=>by have:=LT.out _ (.inr (.inr e));omega)).trans RZ.out;have rQ:w.heap.size<w1.heap.size:=un rU hc.but.size;have FIN:Hid _:=fun Wf=>fin.out w1 mY Wf ht hc.but hF;clear ht hc hF HE k0 fin
   go_wp2_with fail
   refine(xA 9 _).mono ?_;rintro e w2 ⟨rfl,Hd⟩;obtain⟨⟨z0,z1,z2,z3,z4,z5⟩,zf⟩:=zG ((Hd.block _ rQ).trans Z1.out);have pR:w.heap.size<w2.heap.size:=un rQ Hd.size;have Ht:Hid _:=Hd;clear Hd;simp only[Pg.Ev.val,Pg.Ev.code]
   go_wp2_with fail
   refine bodyPost_ret (v:=(Pg.Ev.code 9).val) ?_ rfl ⟨rfl,FIN.out _ ?_⟩
   ·simp[results,Tryz.results96,go_sem,z0,z1,z2,z3,z4,z5,pR,Pg.Ev.val,Pg.Ev.code]
   ·exact qJ ((But.yhp Ht.out).mono (fun _ _ h=>h)) _ (.inr (.inl rfl)) _ _ _ _ _ _
 | cons l L=>
   simp only[List.length_cons,Nat.zero_lt_succ,decide_true,reduceCtorEq,if_false]at HE fin ⊢
   go_enter Tryz.func96,Tryz.ntmps96
   go_upto_region 1 with fail
   rw[<-hW];clear hW
   go_wp2_with fail
   refine HE.mono ?_;rintro e w1 ⟨rfl,mY,ht,hc,hF⟩;have Z1:Hid (w1.heap[w.heap.size]?=_):=(hc.but.block _ rU (fun e=>by have:=LT.out _ (.inr (.inr e));omega)).trans RZ.out;have rQ:w.heap.size<w1.heap.size:=un rU hc.but.size;have FIN:Hid _:=fun Wf=>fin.out w1 mY Wf ht hc.but hF;clear ht hc hF HE k0 fin;obtain⟨⟨z0,z1,z2,z3,z4,z5⟩,zf⟩:=zG Z1.out
   go_wp2_with fail
   refine bodyPost_ret (v:=(Pg.Ev.code 0).val) ?_ rfl ⟨rfl,FIN.out _ ?_⟩
   ·simp[results,Tryz.results96,go_sem,z0,z1,z2,z3,z4,z5,rQ,Pg.Ev.val,Pg.Ev.code]
   ·exact qJ (But.refl _ _) _ (.inr (.inl rfl)) _ _ _ _ _ _
def Pg.Spc.tld (X:Pg.Spc) (k:Nat):Pg.Spc:={X with C:=X.C.set k ((X.C.getD k Pg.Cr.new).told 0 X.T),W:=X.W.set k U}
theorem ygh {w:kp} {r:Nat} {v0 v1 v2 v3:Value} {t:TypeId} (h:w.heap[r]?=J (uc #[v0,v1,v2,v3] t (0,0))):
 (w.cell? ⟨r,0,I⟩=J v0/\w.cell? ⟨r,1,I⟩=J v1/\w.cell? ⟨r,2,I⟩=J v2/\w.cell? ⟨r,3,I⟩=J v3)/\∀i,w.frozen? ⟨r,i,I⟩=U:=
 ⟨by simp[World.cell?,h],fun i=>by simp[World.frozen?,h]⟩
theorem ydI {b:Nat} {D:Dsd} {X:Pg.Spc} {k:Nat} (hk:k<X.C.length) (hw:X.W.getD k U=U) (w:kp) (h:Dsk w b D X):
 Calls kO 95 #[E (J ⟨b,0,I⟩),V R (k:Int)] w fun e w'=>e=A (Pg.Ev.code 9).val/\Below w.heap.size w w':=by
 obtain⟨W,hW⟩:∃W,W=w.alloc (uc #[V R 0,Q U,V R 0,V R 0,V R 0,Q U] 36):=⟨_,rfl⟩
 have hB:Below w.heap.size w W:=by rw[hW];exact zA (zR _) _
 have rU:w.heap.size<W.heap.size:=by rw[hW];simp
 have RZ:Hid (W.heap[w.heap.size]?=J (uc #[V R 0,Q U,V R 0,V R 0,V R 0,Q U] 36 (0,0))):=by rw[Hid,hW];exact heap_alloc_new _ _
 have HW:=h.grow hB;have c3:=HW.c3;have HA:=yfP (k:Int) W HW.tl (by unfold Pg.yio;simp only[ks];rw[hw];simp);simp only[Pg.Mp.val,Pg.Mp.zz]at HA;have HB:Hid _:=hB;clear h HW hw hB
 go_enter Tryz.func95,Tryz.ntmps95
 go_upto_region 1 with fail
 rw[<-hW];clear hW
 go_wp2_with fail
 refine HA.mono ?_;rintro e w1 ⟨rfl,Ha⟩;have H9:Hid (Below w.heap.size w w1):=zT HB.out Ha;have Z1:Hid (w1.heap[w.heap.size]?=_):=(Ha.block _ rU).trans RZ.out;have rQ:w.heap.size<w1.heap.size:=un rU Ha.size;clear Ha HA c3
 go_wp2_with fail
 refine(xA 9 _).mono ?_;rintro e w2 ⟨rfl,Hd⟩;have He:=zA (zR w1) (uc #[V R 0,V R 0,V R 0,V R 0] 39);obtain⟨⟨z0,z1,z2,z3,z4,z5⟩,zf⟩:=zG ((Hd.block _ (by simp;omega)).trans ((He.block _ rQ).trans Z1.out))
 have pR:w.heap.size<w2.heap.size:=by have:=Hd.size;simp at this;omega
 have Ht:Hid (Below w.heap.size w w2):=zT (zT H9.out He) Hd;clear Hd He;simp only[Pg.Ev.val,Pg.Ev.code]
 go_wp2_with fail
 refine bodyPost_ret (v:=(Pg.Ev.code 9).val) ?_ rfl ⟨rfl,?_⟩
 ·simp[results,Tryz.results95,go_sem,z0,z1,z2,z3,z4,z5,pR,Pg.Ev.val,Pg.Ev.code]
 ·exact vo Ht.out _ (yI _) _ _ _ _ _ _
theorem ydJ {b:Nat} {D:Dsd} {X:Pg.Spc} {k:Nat} (hk:k<X.C.length) (hw:X.W.getD k U=ud) (w:kp) (h:Dsk w b D X):
 Calls kO 95 #[E (J ⟨b,0,I⟩),V R (k:Int)] w fun e w'=>e=A (X.akE k).val/\zi w b D X (X.akN k) w':=by
 obtain⟨W,hW⟩:∃W,W=w.alloc (uc #[V R 0,Q U,V R 0,V R 0,V R 0,Q U] 36):=⟨_,rfl⟩
 have hB:Below w.heap.size w W:=by rw[hW];exact zA (zR _) _
 have rU:W.heap.size=w.heap.size+1:=by rw[hW];simp
 have RZ:Hid (W.heap[w.heap.size]?=J (uc #[V R 0,Q U,V R 0,V R 0,V R 0,Q U] 36 (0,0))):=by rw[Hid,hW];exact heap_alloc_new _ _
 have LT:Hid (∀x,dsF D b X.C.length X.G x->x<w.heap.size):=h.owns;have HW:Hid _:=h.grow hB;have c3:=HW.out.c3
 have mG:k<4:=by have:=h.le;omega
 have HA:=ye4 k W HW.out.tl mG hw;rw[Pg.ack_waits' (by rw[h.len];exact hk)]at HA;have aR:Hid (X.W.getD k U=ud):=hw;have Mc:Hid (X.W.length=X.C.length):=h.len;have oI:Hid (Pg.fits X.T.p):=h.told;have HB:Hid _:=hB;clear h hw hB;simp only[Pg.Mp.val]at HA
 go_enter Tryz.func95,Tryz.ntmps95
 go_upto_region 1 with fail
 rw[<-hW];clear hW
 go_wp2_with fail
 refine HA.mono ?_;rintro e w1 ⟨rfl,rQ,Ha⟩;have P1:Hid (Dsk w1 b D {X with W:=X.W.set k U}):=HW.out.shot rQ Ha (by rw[yU];exact Mc.out) oI.out;have Rx:D.bs<w.heap.size:=LT.out _ ⟨3,rfl⟩;have Z1:Hid (w1.heap[w.heap.size]?=_):=(Ha.block _ (by omega) (fun e=>by omega)).trans RZ.out;have B1:Hid (But (dsF D b X.C.length X.G) W w1):=Ha.mono (fun x _ e=>⟨3,e⟩)
 have rZ:w.heap.size<w1.heap.size:=by have:=Ha.size;omega
 clear rQ Ha HA c3 HW;obtain⟨W2,Hz⟩:∃W2,W2=w1.alloc (uc #[V R X.T.p,V R X.T.s,V R X.T.f,V R X.T.r] 39):=⟨_,rfl⟩
 have Hd:Below w1.heap.size w1 W2:=by rw[Hz];exact zA (zR _) _
 have P2:Hid _:=P1.out.grow Hd;have Z2:Hid (W2.heap[w.heap.size]?=_):=(Hd.block _ rZ).trans Z1.out;have B2:Hid (But (dsF D b X.C.length X.G) W W2):=B1.out.trans (But.yhp (F:=fun _=>False) Hd) (fun _ _ h=>h.elim);have rX:w.heap.size<W2.heap.size:=un rZ Hd.size;obtain⟨⟨m0,m1,m2,m3⟩,mf⟩:=ygh (show W2.heap[w1.heap.size]?=J (uc #[V R X.T.p,V R X.T.s,V R X.T.f,V R X.T.r] 39 (0,0)) by rw[Hz];exact heap_alloc_new _ _);have q0:=cell_regrown m0;have q1:=cell_regrown m1;have q2:=cell_regrown m2;have q3:=cell_regrown m3;have g2:=cell_regrown P2.out.c2;have gk:=cell_regrown (P2.out.row k hk);simp only at g2 gk
 have i0:(0:Int)<=(k:Int):=by omega
 have i1:(k:Int)<(X.C.length:Int):=by omega
 go_upto_region 4 with fail
 rw[<-Hz];clear Hz Hd P1 Z1 B1 rZ m0 m1 m2 m3 mf;generalize w1.heap.size=mb at*;refine Loose.yhr 8 (by kernel_rfl) (by kernel_rfl) ?_;simp only[yT,yO,yF,yK]
 repeat (
  refine Loose.zS (fun k hk=> ?_)
  go_simp
  (refine hk _ ?_;clear hk k))
 refine Loose.yhs ?_;intro w3 He;have P3:Hid _:=P2.out.grow He;have Z3:Hid (w3.heap[w.heap.size]?=_):=(He.block _ rX).trans Z2.out;have B3:Hid (But (dsF D b X.C.length X.G) W w3):=B2.out.trans (But.yhp (F:=fun _=>False) He) (fun _ _ h=>h.elim);have Sl:w.heap.size<w3.heap.size:=un rX He.size;have HT:=ydB X.T oI.out w3 (P3.out.core k hk);simp only[Pg.Mp.val]at HT;clear He q0 q1 q2 q3 g2 gk P2 Z2 B2 rX
 go_wp2_with fail
 refine HT.mono ?_;rintro e w4 ⟨rfl,Fc,dD,Hl,fF⟩;have TG:But (D.cF k) w3 w4:=Hl;have n4:(X.tld k).C.length=X.C.length:=yU
 have D4:Hid (zi W b D X (X.tld k) w4):=by
  refine⟨_,P3.out.asked hk dD Hl fF,B3.out.trans Hl (fun x _ e=>⟨k+5,hk,e⟩),fun x hx=> ?_⟩;rw[n4]at hx;exact(ybQ hk fF x hx).imp id (fun h=>by have:=B3.out.size;omega)
 have Z4:Hid (w4.heap[w.heap.size]?=_):=(Hl.block _ Sl (fun e=>by have:=LT.out _ ⟨k+5,hk,e⟩;omega)).trans Z3.out;have GK:w.heap.size<w4.heap.size:=un Sl Hl.size;obtain⟨D',P4,B4,F4⟩:=D4.out;have P4:Hid _:=P4;have B4:Hid _:=B4;have F4:Hid _:=F4;have bE:=qh w4 P4.out;have eb:(X.tld k).busy=(X.W.set k U).any id:=rfl;rw[eb]at bE;clear dD Hl fF HT P3 B3 Z3 Sl;cases sj:(X.W.set k U).any id
 ·rw[sj]at bE
  have eE:X.akE k=⟨0,U,0,0,0,ud⟩:=by
   unfold Pg.Spc.akE;rw[ks,if_neg (by rw[aR.out];decide),if_neg (by rw[sj];decide)]
  have eN:X.akN k={X.tld k with S:=Pg.gives X.G X.S,G:=[]}:=by
   unfold Pg.Spc.akN;rw[ks,if_neg (by rw[aR.out];decide),if_neg (by rw[sj];decide)];unfold Pg.Spc.tld Pg.Spc.at';rw[ks]
  have HE:Hid _:=eE;have HN:Hid _:=eN;have HG:=ydN w4 P4.out;clear eE eN sj
  go_wp2_with fail
  refine bE.mono ?_;rintro e w5 ⟨rfl,hw5⟩;subst w5
  go_wp2_with fail
  refine HG.mono ?_;rintro e w6 ⟨rfl,d6⟩;have D6:Hid (zi W b D X {X.tld k with S:=Pg.gives X.G X.S,G:=[]} w6):=zi.next B4.out F4.out d6;obtain⟨e6,wU⟩:=D6.out.block (w:=w) LT.out (yI _) (by omega);obtain⟨⟨z0,z1,z2,z3,z4,z5⟩,zf⟩:=zG (e6.trans RZ.out)
  have FIN:Hid (∀Wf,But (fun x=>x=w.heap.size) w6 Wf->zi w b D X (X.akN k) Wf):=fun Wf hb=>by
   rw[HN.out];exact D6.out.behind HB.out LT.out (fun x e=>by omega) hb
  clear d6 HG bE e6 D6 D4 Z4 P4 B4 F4
  go_wp2_with fail
  refine bodyPost_ret (v:=(X.akE k).val) ?_ rfl ⟨rfl,FIN.out _ ?_⟩
  ·simp[results,Tryz.results95,go_sem,z0,z1,z2,z3,z4,z5,wU,Pg.Ev.val,HE.out]
  ·exact ycr _ _ _ _ _ _ _ _
 ·rw[sj]at bE
  have eE:X.akE k= .code 0:=by
   unfold Pg.Spc.akE;rw[ks,if_neg (by rw[aR.out];decide),if_pos sj]
  have eN:X.akN k=X.tld k:=by
   unfold Pg.Spc.akN;rw[ks,if_neg (by rw[aR.out];decide),if_pos sj];unfold Pg.Spc.tld Pg.Spc.at';rw[ks]
  have HE:Hid _:=eE;have HN:Hid _:=eN;clear eE eN sj
  go_wp2_with fail
  refine bE.mono ?_;rintro e w5 ⟨rfl,hw5⟩;subst w5;obtain⟨⟨z0,z1,z2,z3,z4,z5⟩,zf⟩:=zG Z4.out
  have FIN:Hid (∀Wf,But (fun x=>x=w.heap.size) w4 Wf->zi w b D X (X.akN k) Wf):=fun Wf hb=>by
   rw[HN.out];exact D4.out.behind HB.out LT.out (fun x e=>by omega) hb
  clear bE D4 P4 B4 F4
  go_wp2_with fail
  refine bodyPost_ret (v:=(X.akE k).val) ?_ rfl ⟨rfl,FIN.out _ ?_⟩
  ·simp[results,Tryz.results95,go_sem,z0,z1,z2,z3,z4,z5,GK,Pg.Ev.val,Pg.Ev.code,HE.out]
  ·exact ycr _ _ _ _ _ _ _ _
theorem yew {b:Nat} {D:Dsd} {X:Pg.Spc} {k:Nat} (hk:k<X.C.length) (w:kp) (h:Dsk w b D X):
 Calls kO 95 #[E (J ⟨b,0,I⟩),V R (k:Int)] w fun e w'=>e=A (X.akE k).val/\zi w b D X (X.akN k) w':=by
 cases hw:X.W.getD k U
 ·have e1:X.akE k= .code 9:=by unfold Pg.Spc.akE;rw[ks,if_pos hw]
  have e2:X.akN k=X:=by unfold Pg.Spc.akN;rw[ks,if_pos hw]
  rw[e1,e2];refine(ydI hk hw w h).mono ?_;rintro e w' ⟨rfl,hb⟩;exact⟨rfl,.same h hb⟩
 ·exact ydJ hk hw w h
end Go.Proofs.YtdphiompijbelaaGreat
namespace Go.Proofs.YtdphiompijbelaaGreat
open Go.RowKit Go.Sort
namespace St
variable {w0 w w':kp} {k b:Nat} {F0:Nat->Prop} {S:Pg.Fs} {lv:Int} {e:Pg.En} {ts ps:List Int} {p:Int}
end St
theorem Mk.push1 {w w3 W:kp} {B k b:Nat} {lv:Int} {e:Pg.En} {v1 v2:Value} {ts ps:List Int} {p:Int} (h:Mk w B k b lv e v1 v2 ts ps p) (hB:B<=w.heap.size) (hW:Below w.heap.size w W) (hg:W.grownBy w3 v1.ownBlock) {g cap:Nat} (hat:v1.ownBlock=J g\/w.heap.size<=g) (x:Int)
 (ho:w3.ownsRow B 3 1 (Z (J ⟨g,0,I⟩) (ts.length+1) cap) (ts.length+1) (xG ts++[V R x])):
 Mk (w3.setCell ⟨k,8,I⟩ (Z (J ⟨g,0,I⟩) (ts.length+1) cap)) B k b lv e (Z (J ⟨g,0,I⟩) (ts.length+1) cap) v2 (ts++[x]) ps p/\But (fun j=>j=k\/v1.ownBlock=J j) w (w3.setCell ⟨k,8,I⟩ (Z (J ⟨g,0,I⟩) (ts.length+1) cap))/\∀j,mkF k (Z (J ⟨g,0,I⟩) (ts.length+1) cap) v2 j->mkF k v1 v2 j\/w.heap.size<=j:=by
 have bv:=h.lb;have b1:But (fun j=>v1.ownBlock=J j) w w3:=(But.yhp hW).grown hg fun k hk=> .inr hk
 have PT:g≠k:=by
  rcases hat with hat|hat
  ·exact fun e=>h.n1 (e▸hat)
  ·omega
 have fH:∀j,g=j->v2.ownBlock≠J j:=by
  rintro j rfl;rcases hat with hat|hat
  ·exact h.ne g hat
  ·exact fun e=>by have:=(h.o2.lt g e).2;omega
 have bP:w3.heap[k]?=w.heap[k]?:=b1.block k bv h.n1
 have c:∀{o:Nat} {v:Value},o≠8->w.cell? ⟨k,o,I⟩=J v->(w3.setCell ⟨k,8,I⟩ (Z (J ⟨g,0,I⟩) (ts.length+1) cap)).cell? ⟨k,o,I⟩=J v:=fun{o v} ho e=>
  (yJ _ _ _ _ (fun e=>ho (by injection e with _ e;exact e.symm))).trans ((ki bP).trans e)
 have b2:But (fun j=>j=k\/v1.ownBlock=J j) w (w3.setCell ⟨k,8,I⟩ (Z (J ⟨g,0,I⟩) (ts.length+1) cap)):=(b1.mono fun _ _ h=> .inr h).setCell (a:=⟨k,8,I⟩) (.inr (.inl rfl)) _;refine⟨⟨c (by decide) h.c0,c (by decide) h.c1,c (by decide) h.c2,c (by decide) h.c3,c (by decide) h.c4,c (by decide) h.c5,c (by decide) h.c6,c (by decide) h.c7,yS _ _ _ ((ki bP).trans h.c8),c (by decide) h.c9,c (by decide) h.c10,fun o=>by rw[yR];exact(uv bP).trans (h.fz o),?_,?_,fun j hj=>fH j (by simpa[ua]using hj),fun e=>PT (by simpa[ua]using e),h.n2,h.hi⟩,b2,fun j hj=> ?_⟩
 ·have e1:xG (ts++[x])=xG ts++[V R x]:=by simp[xG]
  rw[ur,kh,e1];exact zb ho fun j hj=>yC _ _ _ _ fun e=>PT ((by simpa[ua]using hj:g=j).trans e)
 ·exact zc h.o2 b2 fun j hj e=>by
   rcases e with e|e
   ·exact h.n2 (e▸hj)
   ·exact h.ne j e hj
 ·rcases hj with hj|hj|hj
  ·exact .inl (.inl hj)
  ·have:g=j:=by simpa[ua]using hj
   subst this;exact hat.imp (fun e=> .inr (.inl e)) id
  ·exact .inl (.inr (.inr hj))
theorem Mk.push2 {w w3 W:kp} {B k b:Nat} {lv:Int} {e:Pg.En} {v1 v2:Value} {ts ps:List Int} {p:Int} (h:Mk w B k b lv e v1 v2 ts ps p) (hB:B<=w.heap.size) (hW:Below w.heap.size w W) (hg:W.grownBy w3 v2.ownBlock) {g cap:Nat} (hat:v2.ownBlock=J g\/w.heap.size<=g) (x:Int)
 (ho:w3.ownsRow B 3 1 (Z (J ⟨g,0,I⟩) (ps.length+1) cap) (ps.length+1) (xG ps++[V R x])):
 Mk (w3.setCell ⟨k,9,I⟩ (Z (J ⟨g,0,I⟩) (ps.length+1) cap)) B k b lv e v1 (Z (J ⟨g,0,I⟩) (ps.length+1) cap) ts (ps++[x]) p/\But (fun j=>j=k\/v2.ownBlock=J j) w (w3.setCell ⟨k,9,I⟩ (Z (J ⟨g,0,I⟩) (ps.length+1) cap))/\∀j,mkF k v1 (Z (J ⟨g,0,I⟩) (ps.length+1) cap) j->mkF k v1 v2 j\/w.heap.size<=j:=by
 have bv:=h.lb;have b1:But (fun j=>v2.ownBlock=J j) w w3:=(But.yhp hW).grown hg fun k hk=> .inr hk
 have PT:g≠k:=by
  rcases hat with hat|hat
  ·exact fun e=>h.n2 (e▸hat)
  ·omega
 have fH:v1.ownBlock≠J g:=by
  rcases hat with hat|hat
  ·exact fun e=>h.ne g e hat
  ·exact fun e=>by have:=(h.o1.lt g e).2;omega
 have bP:w3.heap[k]?=w.heap[k]?:=b1.block k bv h.n2
 have c:∀{o:Nat} {v:Value},o≠9->w.cell? ⟨k,o,I⟩=J v->(w3.setCell ⟨k,9,I⟩ (Z (J ⟨g,0,I⟩) (ps.length+1) cap)).cell? ⟨k,o,I⟩=J v:=fun{o v} ho e=>
  (yJ _ _ _ _ (fun e=>ho (by injection e with _ e;exact e.symm))).trans ((ki bP).trans e)
 have b2:But (fun j=>j=k\/v2.ownBlock=J j) w (w3.setCell ⟨k,9,I⟩ (Z (J ⟨g,0,I⟩) (ps.length+1) cap)):=(b1.mono fun _ _ h=> .inr h).setCell (a:=⟨k,9,I⟩) (.inr (.inl rfl)) _;refine⟨⟨c (by decide) h.c0,c (by decide) h.c1,c (by decide) h.c2,c (by decide) h.c3,c (by decide) h.c4,c (by decide) h.c5,c (by decide) h.c6,c (by decide) h.c7,c (by decide) h.c8,yS _ _ _ ((ki bP).trans h.c9),c (by decide) h.c10,fun o=>by rw[yR];exact(uv bP).trans (h.fz o),?_,?_,fun j hj e=>fH (by have:g=j:=(by simpa[ua]using e);rw[this];exact hj),h.n1,fun e=>PT (by simpa[ua]using e),h.hi⟩,b2,fun j hj=> ?_⟩
 ·exact zc h.o1 b2 fun j hj e=>by
   rcases e with e|e
   ·exact h.n1 (e▸hj)
   ·exact h.ne j hj e
 ·have e1:xG (ps++[x])=xG ps++[V R x]:=by simp[xG]
  rw[ur,kh,e1];exact zb ho fun j hj=>yC _ _ _ _ fun e=>PT ((by simpa[ua]using hj:g=j).trans e)
 ·rcases hj with hj|hj|hj
  ·exact .inl (.inl hj)
  ·exact .inl (.inr (.inl hj))
  ·have:g=j:=by simpa[ua]using hj
   subst this;exact hat.imp (fun e=> .inr (.inr e)) id
theorem St.step {w0 w w':kp} {B k b:Nat} {F0 F:Nat->Prop} {S:Pg.Fs} {lv Sr:Int} {e e':Pg.En} {ts ts' ps ps':List Int} {p p':Int} {v1 v2 KW KX:Value} {G:Nat->Prop} (hM:Mk w B k b lv e v1 v2 ts ps p) (hF:zh w b S F) (hB:But F0 w0 w) (h1:∀j,F j->F0 j\/w0.heap.size<=j) (h2:∀j,F j->¬mkF k v1 v2 j) (dY:B<=w.heap.size) (hm:∀j,mkF k v1 v2 j->F0 j\/w0.heap.size<=j)
 (aZ:Mk w' B k b Sr e' KW KX ts' ps' p') (hb:But G w w') (hG:∀j,G j->mkF k v1 v2 j) (hn:∀j,mkF k KW KX j->mkF k v1 v2 j\/w.heap.size<=j):St w0 w' k b F0 S Sr e' ts' ps' p':=
 ⟨B,KW,KX,F,aZ,hF.keep hb fun j hj hg=>h2 j hj (hG j hg),hB.trans hb fun i hi hg=>(hm i (hG i hg)).elim id fun h=>by omega,h1,fun j hj hm=>by
  rcases hn j hm with h|h
  ·exact h2 j hj h
  ·have:=hF.lt hj;omega,ue dY hb.size,fun j hj=>by
  rcases hn j hj with h|h
  ·exact hm j h
  ·have:=hB.size;exact .inr (by omega)⟩
theorem yee {w0 w:kp} {k b:Nat} {F0:Nat->Prop} {S:Pg.Fs} {lv:Int} {e:Pg.En} {ts ps:List Int} {p:Int} (h:St w0 w k b F0 S lv e ts ps p):
 Calls kO 46 #[E (J ⟨b,0,I⟩)] w fun en w'=>en=A (V R S.takeN)/\St w0 w' k b F0 S.take lv e ts ps p:=by
 obtain⟨B,v1,v2,F,hM,hF,hB,h1,h2,dY,hm⟩:=h.body;refine(yaY w hF).mono ?_;rintro en w' ⟨rfl,F',f1,f2,f3⟩;refine⟨rfl,B,v1,v2,F',hM.keep f2 fun j hj hf=>h2 j hf hj,f1,hB.trans f2 fun i hi hf=> ?_,fun j hj=> ?_,fun j hj hm=> ?_,ue dY f2.size,hm⟩
 ·rcases h1 i hf with h|h
  ·exact h
  ·omega
 ·rcases f3 j hj with h|h
  ·exact h1 j h
  ·have:=hB.size;exact .inr (by omega)
 ·rcases f3 j hj with h|h
  ·exact h2 j h hm
  ·have:=(hM.lt hm).2;omega
theorem ydP {w0 w:kp} {k b:Nat} {F0:Nat->Prop} {S:Pg.Fs} {lv:Int} {e:Pg.En} {ts ps:List Int} {p t q:Int} (h:St w0 w k b F0 S lv e (ts++[t]) (ps++[q]) p) (Hg:ts.length=ps.length) (hl:ts.length<4000) (lw:0<=lv) (l8:lv<100):
 Calls kO 167 #[E (J ⟨k,0,I⟩)] w fun en w'=>en=A (yP #[])/\St w0 w' k b F0 (S.take.store t q (Pg.enc ud U 7 U U S.takeN lv)) (lv-1) Pg.En.zero (ts++[t]++[S.takeN]) (ps++[q]++[Pg.index p (lv-1)]) p:=by
 have HT:=yee h;have HP:∀w1,St w0 w1 k b F0 S.take lv e (ts++[t]) (ps++[q]) p->Calls kO 134 #[E (J ⟨k,0,I⟩),yV #[Q ud,Q U,V R 7,Q U,Q U,V R S.takeN]] w1 fun en w'=>en=A (yP #[])/\St w0 w' k b F0 (S.take.store t q (Pg.enc ud U 7 U U S.takeN lv)) lv ⟨ud,U,7,U,U,S.takeN⟩ (ts++[t]) (ps++[q]) p:=fun w1 h1=>vY ⟨ud,U,7,U,U,S.takeN⟩ h1 Hg (by omega);have HI:=vK p (lv-1);generalize Pg.enc ud U 7 U U S.takeN lv=v at*;generalize S.takeN=tk at*;generalize S.take=S1 at*;generalize S1.store t q v=S2 at*;generalize Pg.index p (lv-1)=ix at*
 have dJ:(ts++[t]).length=ts.length+1:=by simp
 have fo:(ps++[q]).length=ts.length+1:=by simp[Hg]
 generalize ts++[t]=T at*;generalize ps++[q]=P at*;clear Hg;generalize ts.length=n at*;obtain⟨B,v1,v2,F,hM,hF,hB,h1,h2,dY,hm⟩:=h.body;have k0:=hM.c0;clear hM hF hB h1 h2 h dY hm
 go_enter Tryz.func167,Tryz.ntmps167
 go_wp2_with fail
 refine HT.mono ?_;rintro en w1 ⟨rfl,ww⟩;have HP:=HP w1 ww;clear HT ww k0
 go_wp2_with fail
 refine HP.mono ?_;rintro en w2 ⟨rfl,oV⟩;obtain⟨B,v1,v2,F,hM,hF,hB,h1,h2,dY,hm⟩:=oV.body;have k1:=hM.c1;have k2:=hM.c2;have k3:=hM.c3;have k4:=hM.c4;have k5:=hM.c5;have k6:=hM.c6;have k7:=hM.c7;have k8:=hM.c8;have kf:=hM.fz;simp only at k2 k3 k4 k5 k6 k7;obtain⟨W3,fP⟩:∃W3,W3=((((((w2.setCell ⟨k,1,I⟩ (V R (lv-1))).setCell ⟨k,2,I⟩ (Q U)).setCell ⟨k,3,I⟩ (Q U)).setCell ⟨k,4,I⟩ (V R 0)).setCell ⟨k,5,I⟩ (Q U)).setCell ⟨k,6,I⟩ (Q U)).setCell ⟨k,7,I⟩ (V R 0):=⟨_,rfl⟩
 have M3:Mk W3 B k b (lv-1) Pg.En.zero v1 v2 T P p:=by rw[fP];exact(hM.ylM (lv-1)).setE Pg.En.zero
 have Bv:But (fun j=>j=k) w2 W3:=by
  rw[fP];exact((((((((But.refl (fun j=>j=k) w2).setCell (a:=⟨k,1,I⟩) (.inr rfl) _).setCell (a:=⟨k,2,I⟩) (.inr rfl) _).setCell (a:=⟨k,3,I⟩) (.inr rfl) _).setCell (a:=⟨k,4,I⟩) (.inr rfl) _).setCell (a:=⟨k,5,I⟩) (.inr rfl) _).setCell (a:=⟨k,6,I⟩) (.inr rfl) _).setCell (a:=⟨k,7,I⟩) (.inr rfl) _)
 have uz:Hid _:=M3;have mi:Hid (zh W3 b S2 F):=hF.keep Bv fun j hj e=>h2 j hj (.inl e)
 have RU:Hid (But F0 w0 W3):=hB.trans Bv fun i hi e=>(hm i (.inl e)).elim id fun h=>by omega
 have H1:Hid _:=h1;have H2:Hid _:=h2;have Hm:Hid _:=hm;have pU:B<=W3.heap.size:=ue dY Bv.size;clear hM hF hB h1 h2 HP oV Bv M3 dY hm;obtain⟨a1,c1,rfl⟩:=zF uz.out.o1;have Hr:=uz.out.o1;have r8:=uz.out.c8;have bv:=uz.out.lb;have Kn:=RU.out.size;obtain⟨q0,hq,rW,rZ,rX⟩:=info_parts ji;rw[dJ]at Hr r8 k8
 have hsW:W3.heap.size=w2.heap.size:=by rw[fP];simp
 have nP:(((((((w2.setCell ⟨k,1,I⟩ (V R (lv-1))).setCell ⟨k,2,I⟩ (Q U)).setCell ⟨k,3,I⟩ (Q U)).setCell ⟨k,4,I⟩ (V R 0)).setCell ⟨k,5,I⟩ (Q U)).setCell ⟨k,6,I⟩ (Q U)).setCell ⟨k,7,I⟩ (V R 0)).ownsRow B 3 1 (Z a1 (n+1) c1) (n+1) (xG T):=by rw[<-fP];exact Hr
 go_wp2_with (first
  | (at_builtin;refine wpList_append_lies _ rfl _ _ 45 rfl B 3 q0 (V R 0) 1 8 Tryz.underlying45 hq rW rZ rX rfl (by decide) _ _ _ rfl (nP.alloc _) ⟨w2.heap.size,0,I⟩ 1 1 [V R tk] rfl rfl ?c1 ?c2 (by decide) ?c3 ?c4 ?c5 (w2.heap.size+1) (by simp) ?_))
 case c1=>
  intro j u hj
  match j,hj with
  | 0,hj=>simp at hj;subst hj;simp[Addr.add,go_sem]
 case c2=>intro u hu;simp at hu;subst hu;rfl
 case c3=>unfold maxLen;omega
 case c4=>omega
 case c5=>simp;omega
 intro g cap w4 fu Hq hat FP;rw[<-fP]at Hq;clear fP k1 k2 k3 k4 k5 k6 k7 k8 kf nP;have hgl:g<w4.heap.size:=FP;obtain⟨M5,b5,n5⟩:=uz.out.push1 (W:=W3.alloc (uc #[V R tk] 3)) (g:=g) (cap:=cap) pU (zA (zR _) _) (by rw[dJ];exact Hq) (by rw[dJ];exact hat.imp id fun h=>by omega) tk (by rw[dJ];exact fu);rw[dJ]at M5 b5 n5;have mG:w4.heap[k]?=W3.heap[k]?:=Hq.block k (by simp;omega) (fun e=>uz.out.n1 (by rw[dJ];exact e.symm))|>.trans (yQ _ _ _ bv);have e8:w4.cell? ⟨k,8,I⟩=J (Z a1 (n+1) c1):=(ki mG).trans r8;have MN:w4.frozen? ⟨k,8,I⟩=U:=(uv mG).trans (uz.out.fz 8);have lG:Hid _:=M5;have tu:Hid _:=b5;have Mi:Hid _:=n5;clear M5 b5 n5 mG Hq hat fu FP Hr r8 HP
 go_wp2_with fail
 clear e8 MN;generalize nz:w4.setCell ⟨k,8,I⟩ (Z (J ⟨g,0,I⟩) (n+1+1) cap)=W5 at*;clear nz;obtain⟨a2,c2,rfl⟩:=zF lG.out.o2;have k9:=lG.out.c9;have k10:=lG.out.c10;have k1:=lG.out.c1;have kf:=lG.out.fz
 have Hr:W5.ownsRow B 3 1 (Z a2 (n+1) c2) (n+1) (xG P):=by have:=lG.out.o2;rw[fo]at this;exact this
 rw[fo]at k9;have Lm:=lG.out.lb;have uf:=tu.out.size;have EQ:Hid (zh W5 b S2 F):=zh.keep mi.out tu.out fun j hj hg=>H2.out j hj (by rw[dJ];exact hg.imp id fun h=> .inl h)
 have aC:Hid (But F0 w0 W5):=RU.out.trans tu.out fun i hi hg=>(Hm.out i (by rw[dJ];exact hg.imp id fun h=> .inl h)).elim id fun h=>by omega
 have Iw:Hid (∀j,mkF k (Z (J ⟨g,0,I⟩) (n+1+1) cap) (Z a2 P.length c2) j->F0 j\/w0.heap.size<=j):=fun j hj=>by
  rcases Mi.out j hj with h|h
  ·exact Hm.out j (by rw[dJ];exact h)
  ·exact .inr (by omega)
 have EI:Hid (∀j,F j->¬mkF k (Z (J ⟨g,0,I⟩) (n+1+1) cap) (Z a2 P.length c2) j):=fun j hj hm=>by
  rcases Mi.out j hm with h|h
  ·exact H2.out j hj (by rw[dJ];exact h)
  ·have:=zh.lt mi.out hj;omega
 have Po:B<=W5.heap.size:=by omega
 have hnk:¬k=W5.heap.size:=by omega
 clear tu Mi uz mi RU H2 bv pU Kn hgl uf hsW Hm
 have tJ:∀(W:kp) (j:Nat) (u:Value),[yM R ix][j]?=J u->(W.alloc (uc #[V R ix] 3)).cell? ((⟨W.heap.size,0,I⟩:Addr).add j)=J u:=fun W j u hu=>
  World.news_of_block (heap_alloc_new W _) j u hu
 have sZ:∀u,u ∈ [yM R ix]->u.oneCell'=ud:=by
  intro u hu;simp at hu;subst hu;rfl
 have dV:n+1+1<=maxLen:=by unfold maxLen;omega
 have si:(n+1+1)*8<=140737488355328:=by omega
 have RA:(yN a2 (n+1) c2).ownBlock≠J k:=by have:=lG.out.n2;rw[fo]at this;exact this
 go_region_law (first
  | (go_simp;go_at_call 196;refine(HI _).mono ?_;rintro e w6 ⟨rfl,rfl⟩)
  | (refine step_append_lies _ rfl (.tmp 43) (.tmp 54) 45 rfl B 3 q0 _ 1 8 Tryz.underlying45 hq rW rZ rX rfl (by decide) (Z a2 (n+1) c2) _ _ (by simp[Act.eval]) (Hr.alloc _) ⟨W5.heap.size,0,I⟩ 1 1 [V R ix] (by simp[Act.eval]) rfl (tJ W5) sZ (by decide) dV si (ue Po (by simp)) (W5.heap.size+1) (by simp) ?_;intro g6 cap6 w6 rV ry pq dh;have iV:Hid ((W5.alloc (uc #[V R ix] 3)).drew.grownBy w6 (yN a2 (n+1) c2).ownBlock):=ry;have sP:w6.heap[k]?=W5.heap[k]?:=(iV.out.block k (by simp;omega) (fun e=>RA e.symm)).trans (yQ _ _ _ Lm);have e9:w6.cell? ⟨k,9,I⟩=J (Z a2 (n+1) c2):=(ki sP).trans k9;have Bz:w6.frozen? ⟨k,9,I⟩=U:=(uv sP).trans (kf 9);have TC:Hid (w6.ownsRow B 3 1 (Z (J ⟨g6,0,I⟩) (n+1+1) cap6) (n+1+1) (xG P++[V R ix])):=rV;have Ty:Hid ((yN a2 (n+1) c2).ownBlock=J g6\/g6=W5.heap.size+1):=pq;clear rV ry pq sP))
 all_goals
  obtain⟨M7,b7,n7⟩:=lG.out.push2 (W:=(W5.alloc (uc #[V R ix] 3)).drew) (g:=g6) (cap:=cap6) Po (zA (zR _) _).drew (by rw[fo];exact iV.out) (by rw[fo];exact Ty.out.imp id fun h=>by omega) ix (by rw[fo];exact TC.out);rw[fo]at M7 b7 n7
  have fin:Hid (St w0 (w6.setCell ⟨k,9,I⟩ (Z (J ⟨g6,0,I⟩) (n+1+1) cap6)) k b F0 S2 (lv-1) Pg.En.zero (T++[tk]) (P++[ix]) p):=
   St.step lG.out EQ.out aC.out H1.out EI.out Po Iw.out M7 b7 (fun j hj=>hj.imp id fun h=> .inr (by rw[fo];exact h)) (fun j hj=>(n7 j hj).imp (fun h=>by rw[fo];exact h) id)
  go_wp2_with fail
  go_end0
  exact⟨rfl,fin.out⟩
theorem yeB {S:Pg.Fs} {t:Int} (ht:S.has t=ud):(Pg.yhy S t=ud ↔ ∀j:Nat,j<8->S.load t (j:Int)=0):=by
 unfold Pg.yhy;simp only[List.all_eq_true,List.mem_range,beq_iff_eq];refine forall_congr' fun j=>forall_congr' fun hj=> ?_
 have:S.at' t (j:Int)=ud:=by simp[Pg.Fs.at',ht];omega
 simp[Pg.Fs.load,this]
theorem vq {w0 w:kp} {k b:Nat} {F0:Nat->Prop} {S:Pg.Fs} {lv:Int} {e:Pg.En} {ts ps:List Int} {p t:Int} (h:St w0 w k b F0 S lv e (ts++[t]) ps p) (hl:ts.length<4000) (ht:S.has t=ud):
 Calls kO 136 #[E (J ⟨k,0,I⟩)] w fun en w'=>en=A (Q (Pg.yhy S t))/\Below w.heap.size w w':=by
 have HS:Hid _:=h;have HE:Hid _:=yeB ht
 have Hg:(ts++[t]).length=ts.length+1:=by simp
 clear h ht;generalize Pg.yhy S t=em at*
 go_enter Tryz.func136,Tryz.ntmps136
 go_wp2_with fail
 go_loopw [6] (fun i wr=>∃j:Nat,j<=8/\i=V R j/\Hid (Below w.heap.size w wr/\∀m:Nat,m<j->S.load t (m:Int)=0)) (fun i _=>8-(intOf i).toNat)
 case atStart=>exact⟨0,by omega,rfl,zR _,fun m hm=>by omega⟩
 case round=>
  obtain⟨j,hj,rfl,HR⟩:=hrel
  have i0:(0:Int)<=(j:Int):=by omega
  have hS:=HS.out.grow HR.out.1;obtain⟨B,v1,v2,F,hM,hF,hB,h1,h2,dY,hm⟩:=hS.body;obtain⟨g1,gP,rfl,hc,_⟩:=jK hM.o1;have k0:=hM.c0;have k8:=hM.c8;have gM:=fun m=>ybo (hS.grow (below_drewN (zR wr) m)) (by rw[Hg];omega)
  have e1:(((ts++[t]).length:Nat):Int)-1=(ts.length:Int):=by rw[Hg];omega
  rw[e1]at gM;have Me:=fun m=>jA t (j:Int) (wr.drewN m) (hF.keep (G:=fun _=>False) (But.yhp (below_drewN (zR wr) m)) fun _ _=>id);clear hM hB h1 h2 hS hF e1 dY hm
  have i2:(0:Int)<=(ts.length:Int):=by omega
  have i3:(ts.length:Int)<(ts.length:Int)+1:=by omega
  have HX:Hid (S.load t (j:Int)=0->∀m:Nat,m<j+1->S.load t (m:Int)=0):=fun hz m hm=>by
   by_cases e:m=j
   ·rw[e];exact hz
   ·exact HR.out.2 m (by omega)
  by_cases Hf:j<8
  ·have i1:(j:Int)<8:=by omega
   have HJ:Hid _:=Hf;have fin:Hid (∀nq,Below w.heap.size w (wr.drewN nq)):=fun nq=>zT HR.out.1 (below_drewN (zR _) nq);generalize hx:S.load t (j:Int)=x at*;have Iu:Hid _:=hx;clear hx;generalize S.at' t (j:Int)=at' at*;generalize ts.length=n at*
   by_cases hz:x=0
   ·have HZ:Hid _:=HX.out hz
    have hzb:(x !=0)=U:=by simp[hz]
    clear hz HX
    go_wp2_with fail
    go_quiet (first
     | (go_at_call 170;exact Calls.quiet_of_same (gM _))
     | (go_at_call 171;exact Calls.quiet_of_same (Me _)))
    go_wp2_with fail
    exact⟨⟨j+1,by omega,by go_num,fin.out _,HZ.out⟩,by simp[intOf];omega⟩
   ·have HZ:Hid _:=hz
    have hzb:(x !=0)=ud:=by simp[hz]
    clear hz HX
    go_wp2_with fail
    go_quiet (first
     | (go_at_call 170;exact Calls.quiet_of_same (gM _))
     | (go_at_call 171;exact Calls.quiet_of_same (Me _)))
    go_wp2_with fail
    go_ret
    refine⟨xB ?_,fin.out _⟩;cases em
    ·rfl
    ·exact absurd (Iu.out▸(HE.out.1 rfl j HJ.out)) HZ.out
  ·have i1:¬(j:Int)<8:=by omega
   have e8:j=8:=by omega
   subst e8;clear gM Me k0 k8
   go_wp2_with fail
   go_ret
   exact⟨xB (HE.out.2 fun m hm=>HR.out.2 m hm).symm,HR.out.1⟩
theorem jH (ts:List Int) (t:Int):xG (ts++[t])=xG ts++[V R t]:=by simp[xG]
theorem Mk.pop {w:kp} {B k b:Nat} {lv:Int} {e:Pg.En} {g1 g2 n c1 c2:Nat} {T P:List Int} {p t q:Int} (h:Mk w B k b lv e (Z (J ⟨g1,0,I⟩) (n+1) c1) (Z (J ⟨g2,0,I⟩) (n+1) c2) (T++[t]) (P++[q]) p) (hT:T.length=n) (hP:P.length=n):
 Mk ((w.setCell ⟨k,8,I⟩ (Z (J ⟨g1,0,I⟩) n c1)).setCell ⟨k,9,I⟩ (Z (J ⟨g2,0,I⟩) n c2)) B k b lv e (Z (J ⟨g1,0,I⟩) n c1) (Z (J ⟨g2,0,I⟩) n c2) T P p:=by
 have hb:But (fun j=>j=k) w ((w.setCell ⟨k,8,I⟩ (Z (J ⟨g1,0,I⟩) n c1)).setCell ⟨k,9,I⟩ (Z (J ⟨g2,0,I⟩) n c2)):=
  ((But.refl (fun j=>j=k) w).setCell (a:=⟨k,8,I⟩) (.inr rfl) _).setCell (a:=⟨k,9,I⟩) (.inr rfl) _
 have o1:=h.o1;have o2:=h.o2;rw[ur,kh,hT,jH]at o1;rw[ur,kh,hP,jH]at o2;have p1:w.ownsRow B 3 1 (Z (J ⟨g1,0,I⟩) n c1) n (xG T):=ownsRow_pop (by simp[xG,hT]) o1;have p2:w.ownsRow B 3 1 (Z (J ⟨g2,0,I⟩) n c2) n (xG P):=ownsRow_pop (by simp[xG,hP]) o2;have n1:(yN (J ⟨g1,0,I⟩) n c1).ownBlock≠J k:=h.n1;have n2:(yN (J ⟨g2,0,I⟩) n c2).ownBlock≠J k:=h.n2;refine⟨?_,?_,?_,?_,?_,?_,?_,?_,?_,?_,?_,fun o=> ?_,?_,?_,h.ne,n1,n2,h.hi⟩
 iterate 12 (focus (simp[go_sem,h.c0,h.c1,h.c2,h.c3,h.c4,h.c5,h.c6,h.c7,h.c8,h.c9,h.c10,h.fz]))
 ·rw[hT]
  exact zc p1 hb fun j hj e=>n1 (e▸hj)
 ·rw[hP]
  exact zc p2 hb fun j hj e=>n2 (e▸hj)
theorem ydm (lv:Int):Pg.enc U U 0 U U 0 lv=0:=by
 unfold Pg.enc;split
 ·simp[Pg.yiD]
 ·rfl
theorem yf8 {w0 w:kp} {k b:Nat} {F0:Nat->Prop} {S:Pg.Fs} {lv:Int} {e:Pg.En} {ts ps:List Int} {p t q t' q':Int} (h:St w0 w k b F0 S lv e (ts++[t']++[t]) (ps++[q']++[q]) p) (Hg:ts.length=ps.length) (hl:ts.length<4000) (lw:0<=lv) (l8:lv<100):
 Calls kO 137 #[E (J ⟨k,0,I⟩)] w fun en w'=>en=A (V R t)/\St w0 w' k b F0 (S.store t' q' 0) (lv+1) Pg.En.zero (ts++[t']) (ps++[q']) p:=by
 have hT:(ts++[t']).length=ts.length+1:=by simp
 have hP:(ps++[q']).length=ts.length+1:=by simp[Hg]
 have HP:∀w1 e1,St w0 w1 k b F0 S (lv+1) e1 (ts++[t']) (ps++[q']) p->Calls kO 134 #[E (J ⟨k,0,I⟩),yV #[Q U,Q U,V R 0,Q U,Q U,V R 0]] w1 fun en w'=>en=A (yP #[])/\St w0 w' k b F0 (S.store t' q' 0) (lv+1) Pg.En.zero (ts++[t']) (ps++[q']) p:=fun w1 e1 h1=>by
  have:=vY Pg.En.zero h1 Hg (by omega);simp only[Pg.En.zero,Pg.En.val,ydm]at this;exact this
 have gM:=ybo h (by rw[ur,kh,hT];omega)
 have e1:(((ts++[t']++[t]).length:Nat):Int)-1=((ts.length+1:Nat):Int):=by rw[ur,kh,hT];omega
 rw[e1]at gM;obtain⟨B,v1,v2,F,hM,hF,hB,h1,h2,dY,hm⟩:=h.body;obtain⟨g1,gP,rfl,rO,Rt⟩:=jK hM.o1;obtain⟨g2,cap2,rfl,tY,Ru⟩:=jK hM.o2;rw[hT]at rO Rt;rw[hP]at tY Ru
 have iW:Mk w B k b lv e (Z (J ⟨g1,0,I⟩) (ts.length+1+1) gP) (Z (J ⟨g2,0,I⟩) (ts.length+1+1) cap2) (ts++[t']++[t]) (ps++[q']++[q]) p:=by have:=hM;rw[hT,hP]at this;exact this
 have BA:∀j,F j->¬mkF k (Z (J ⟨g1,0,I⟩) (ts.length+1+1) gP) (Z (J ⟨g2,0,I⟩) (ts.length+1+1) cap2) j:=by have:=h2;rw[hT,hP]at this;exact this
 have k1:=iW.c1;have k8:=iW.c8;have k9:=iW.c9;have kf:=iW.fz;have HM:Hid _:=iW;have HF:Hid (zh w b S F):=hF;have Ba:Hid _:=hB;have H1:Hid _:=h1;have H2:Hid _:=BA
 have uJ:∀j,mkF k (Z (J ⟨g1,0,I⟩) (ts.length+1+1) gP) (Z (J ⟨g2,0,I⟩) (ts.length+1+1) cap2) j->F0 j\/w0.heap.size<=j:=by have:=hm;rw[hT,hP]at this;exact this
 have Hm:Hid _:=uJ;have aA:Hid _:=dY;clear hM hF hB h1 h2 h iW BA e1 Hg hm uJ dY;generalize ts++[t']=T at*;generalize ps++[q']=P at*;generalize S.store t' q' 0=S' at*;generalize ts.length=m at*
 have i0:(0:Int)<=((m+1:Nat):Int):=by omega
 have i1:((m+1:Nat):Int)<((m+1+1:Nat):Int):=by omega
 have i2:((m+1:Nat):Int)<=(gP:Int):=by omega
 have i3:((m+1:Nat):Int)<=(cap2:Int):=by omega
 generalize hn:m+1=n at*;have HN:Hid _:=hn;clear hn
 go_enter Tryz.func137,Tryz.ntmps137
 go_wp2_with fail
 refine gM.mono ?_;rintro en w1 ⟨rfl,rfl⟩
 go_wp2_with fail
 go_region
 have M2:Hid _:=(HM.out.ylM (lv+1)).pop hT hP
 have bt:Hid (But (fun j=>j=k) w1 (((w1.setCell ⟨k,1,I⟩ (V R (lv+1))).setCell ⟨k,8,I⟩ (Z (J ⟨g1,0,I⟩) n gP)).setCell ⟨k,9,I⟩ (Z (J ⟨g2,0,I⟩) n cap2))):=
  (((But.refl (fun j=>j=k) w1).setCell (a:=⟨k,1,I⟩) (.inr rfl) _).setCell (a:=⟨k,8,I⟩) (.inr rfl) _).setCell (a:=⟨k,9,I⟩) (.inr rfl) _
 have S2:Hid (St w0 (((w1.setCell ⟨k,1,I⟩ (V R (lv+1))).setCell ⟨k,8,I⟩ (Z (J ⟨g1,0,I⟩) n gP)).setCell ⟨k,9,I⟩ (Z (J ⟨g2,0,I⟩) n cap2)) k b F0 S (lv+1) e T P p):=
  St.step HM.out HF.out Ba.out H1.out H2.out aA.out Hm.out M2.out bt.out (fun j hj=> .inl hj) (fun j hj=> .inl hj)
 have S3:Hid (St w0 ((((w1.setCell ⟨k,1,I⟩ (V R (lv+1))).setCell ⟨k,8,I⟩ (Z (J ⟨g1,0,I⟩) n gP)).setCell ⟨k,9,I⟩ (Z (J ⟨g2,0,I⟩) n cap2)).drew) k b F0 S (lv+1) e T P p):=S2.out.grow (zR _).drew;have Ut:=HP _ e S3.out;have S9:=HP _ e S2.out;clear HP gM k1 k8 k9 kf rO tY
 go_wp2_with fail
 first
  | refine Ut.mono ?_
  | refine S9.mono ?_
 rintro en w2 ⟨rfl,hS⟩;have HS:Hid _:=hS;clear hS Ut S9
 go_wp2_with fail
 go_ret
 exact⟨rfl,HS.out⟩
end Go.Proofs.YtdphiompijbelaaGreat
