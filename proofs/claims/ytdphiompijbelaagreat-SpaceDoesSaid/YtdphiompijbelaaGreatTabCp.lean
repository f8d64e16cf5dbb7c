import Derived.Test.YtdphiompijbelaaGreatLineRow
import Derived.Test.YtdphiompijbelaaGreatLooseT
import Derived.Deep.RegionLaw
set_option linter.all false
set_option maxRecDepth 100000
open Nat renaming le_refl->kC,le_trans->kY
open Go.Ending renaming returned->kS
open Go.Obj renaming cells->kJ
open Go.Proofs.Tryz renaming prog->y
open Go renaming World->K,cell_regrown->A,Value->z,bodyPost_ret->kN,Calls->kQ,heap_alloc_new->kZ
open Go.RowKit renaming Hid->O
open Bool renaming false->Q,true->E
open Go.Value renaming int->N,slice->Y,bool->Z,ownBlock->U,pointer->kI,slice->kP,tuple->kF,int->kU
open Go.IntKind renaming i64->R
open Go.World renaming cell?_setCell_other->J,cell?_of_block->B,ownsRow_nil->M,ownsRow->D,block_lt_of_cell?->H,cell?_setCell_same->kR,frozen?_of_block->kT,frozen?_setCell->kV
open Option renaming none->I,some->P
set_option maxHeartbeats 1000000
namespace Go.Proofs.YtdphiompijbelaaGreat
open Go.RowKit
section
open Go.Sort
theorem ydT {w:K} {base base' size n:Nat} {e:TypeId} {v:z} {xs:List z} (h:w.ownsRow base e size v n xs) (hb:base'<=base):w.ownsRow base' e size v n xs:=
 ⟨h.1,h.2.imp id fun⟨g,cap,cur,e,k,r⟩=>⟨g,cap,cur,e,kY hb k,r⟩⟩
def ygw (X:List Pg.Sp):Int:=match X.getLast? with
 | some s=>(s.level:Int)
 | none=>0
def ygv (X:List Pg.Sp):Pg.En:=match X.getLast? with
 | some s=>s.e
 | none=>Pg.En.zero
def tabs (X:List Pg.Sp):List Int:=X.map fun s=>s.table
def qz (X:List Pg.Sp):List Int:=X.map fun s=>(s.place:Int)
theorem jJ (X:List Pg.Sp) (s:Pg.Sp):ygw (X++[s])=s.level:=by simp[ygw]
theorem jI (X:List Pg.Sp) (s:Pg.Sp):ygv (X++[s])=s.e:=by simp[ygv]
theorem ybF (X:List Pg.Sp) (s:Pg.Sp):zr (tabs (X++[s]))=zr (tabs X)++[N R s.table]:=by simp[tabs,zr]
theorem ydU (X:List Pg.Sp) (s:Pg.Sp):zr (qz (X++[s]))=zr (qz X)++[N R (s.place:Int)]:=by simp[qz,zr]
theorem xM (X:List Pg.Sp):(tabs X).length=X.length:=by simp[tabs]
theorem j9 (X:List Pg.Sp):(qz X).length=X.length:=by simp[qz]
structure qj (c:Nat) (lv:Int) (e:Pg.En) (v1 v2:z) (w:K):Prop where
 c0:w.cell? ⟨c,0,I⟩=P (N R lv)
 c1:w.cell? ⟨c,1,I⟩=P (Z e.t)
 c2:w.cell? ⟨c,2,I⟩=P (Z e.l)
 c3:w.cell? ⟨c,3,I⟩=P (N R e.r)
 c4:w.cell? ⟨c,4,I⟩=P (Z e.u)
 c5:w.cell? ⟨c,5,I⟩=P (Z e.d)
 c6:w.cell? ⟨c,6,I⟩=P (N R e.f)
 c7:w.cell? ⟨c,7,I⟩=P v1
 c8:w.cell? ⟨c,8,I⟩=P v2
 fz:∀o,w.frozen? ⟨c,o,I⟩=Q
theorem qj.lb {c:Nat} {lv:Int} {e:Pg.En} {v1 v2:z} {w:K} (h:qj c lv e v1 v2 w):c<w.heap.size:=H _ _ h.c0
theorem qj.of_block {c:Nat} {lv:Int} {e:Pg.En} {v1 v2:z} {w w':K} (h:qj c lv e v1 v2 w) (hk:w'.heap[c]?=w.heap[c]?):qj c lv e v1 v2 w':=
 ⟨(B hk).trans h.c0,(B hk).trans h.c1,(B hk).trans h.c2,(B hk).trans h.c3,(B hk).trans h.c4,(B hk).trans h.c5,(B hk).trans h.c6,(B hk).trans h.c7,(B hk).trans h.c8,fun o=>(kT hk).trans (h.fz o)⟩
structure vc (w0:K) (bp c:Nat) (p:Int) (X:List Pg.Sp) (V:Nat->Prop) (w:K):Prop where
 bel:Below w0.heap.size w0 w
 hi:w0.heap.size<=c
 pc:w.cell? ⟨bp,0,I⟩=P (N R p)
 pb:bp<c
 var:∃v1 v2,qj c (ygw X) (ygv X) v1 v2 w/\w.ownsRow (c+1) 3 1 v1 X.length (zr (tabs X))/\w.ownsRow (c+1) 3 1 v2 X.length (zr (qz X))/\(∀k,v1.ownBlock=P k->v2.ownBlock≠P k)/\V=fun k=>k=c\/v1.ownBlock=P k\/v2.ownBlock=P k
namespace vc
variable {w0:K} {bp c:Nat} {p:Int} {X X':List Pg.Sp} {V:Nat->Prop} {w w':K}
theorem grow (h:vc w0 bp c p X V w) (hb:Below w.heap.size w w'):vc w0 bp c p X V w':=by
 obtain⟨h1,h2,h3,h4,v1,v2,hs,o1,o2,hne,rfl⟩:=h;exact⟨h1.trans (hb.mono h1.size),h2,cell_later hb h3,h4,v1,v2,hs.of_block (hb.block c hs.lb),zj o1 hb,zj o2 hb,hne,rfl⟩
theorem lt (h:vc w0 bp c p X V w) {k:Nat} (hk:V k):k<w.heap.size:=by
 obtain⟨h1,h2,h3,h4,v1,v2,hs,o1,o2,hne,rfl⟩:=h;rcases hk with rfl|hk|hk
 ·exact hs.lb
 ·exact(o1.lt k hk).2
 ·exact(o2.lt k hk).2
theorem fr {b:Nat} {S:Pg.Fs} {F:Nat->Prop} (hf:zd w0 b S F) (h:vc w0 bp c p X V w):zd w b S F:=
 hf.keep (G:=fun k=>w0.heap.size<=k) (w':=w) ⟨h.bel.os,h.bel.tape,h.bel.output,h.bel.size,fun k hk _=>h.bel.block k hk⟩ (fun k hk=>by have:=hf.lt hk;omega)
end vc
theorem qj.set7 {c:Nat} {lv:Int} {e:Pg.En} {v1 v2:z} {w:K} (h:qj c lv e v1 v2 w) (v:z):qj c lv e v v2 (w.setCell ⟨c,7,I⟩ v):=
 ⟨(J _ _ _ _ (by simp)).trans h.c0,(J _ _ _ _ (by simp)).trans h.c1,(J _ _ _ _ (by simp)).trans h.c2,(J _ _ _ _ (by simp)).trans h.c3,(J _ _ _ _ (by simp)).trans h.c4,(J _ _ _ _ (by simp)).trans h.c5,(J _ _ _ _ (by simp)).trans h.c6,kR _ _ _ h.c7,(J _ _ _ _ (by simp)).trans h.c8,fun o=>by rw[kV];exact h.fz o⟩
theorem qj.set8 {c:Nat} {lv:Int} {e:Pg.En} {v1 v2:z} {w:K} (h:qj c lv e v1 v2 w) (v:z):qj c lv e v1 v (w.setCell ⟨c,8,I⟩ v):=
 ⟨(J _ _ _ _ (by simp)).trans h.c0,(J _ _ _ _ (by simp)).trans h.c1,(J _ _ _ _ (by simp)).trans h.c2,(J _ _ _ _ (by simp)).trans h.c3,(J _ _ _ _ (by simp)).trans h.c4,(J _ _ _ _ (by simp)).trans h.c5,(J _ _ _ _ (by simp)).trans h.c6,(J _ _ _ _ (by simp)).trans h.c7,kR _ _ _ h.c8,fun o=>by rw[kV];exact h.fz o⟩
structure yfA (c:Nat) (v:z) (W w3:K) (g:Nat):Prop where
 but:But (fun k=>v.ownBlock=P k) W w3
 far:∀k,v.ownBlock=P k->c<k
 gc:c<g
 gl:g<w3.heap.size
 at':v.ownBlock=P g\/W.heap.size<=g
theorem yfn {c:Nat} {e:TypeId} {size n g:Nat} {v:z} {xs:List z} {W w3:K} {o:Obj} (hl:W.ownsRow (c+1) e size v n xs) (hg:(W.alloc o).grownBy w3 v.ownBlock) (hat:v.ownBlock=P g\/g=W.heap.size+1) (hc:c<W.heap.size) (hlt:g<w3.heap.size):yfA c v W w3 g:=by
 refine⟨((But.refl _ W).alloc o).grown hg fun k hk=> .inr hk,fun k hk=>(hl.lt k hk).1,?_,hlt,hat.imp id fun h=>by omega⟩;rcases hat with h|h
 ·exact(hl.lt g h).1
 ·omega
theorem ydh {bp:Nat} (i lv:Nat) (p:Int) (hp:Pg.below p 4096=E) (hl:lv<4) (w:K) (hc:w.cell? ⟨bp,0,I⟩=P (N R p)):
 kQ y 214 #[N R (i:Int),N R (lv:Int),kI (P ⟨bp,0,I⟩)] w fun e w'=>e=kS (Z (Pg.onW p i lv))/\w'=w:=by
 have HI:=vq p (lv:Int);rw[Pg.ygA hp hl]at HI
 have HE:O (((i:Int)==((Pg.ix p lv:Nat):Int))=Pg.onW p i lv):=by
  rw[O,Bool.eq_iff_iff];simp only[Pg.onW,beq_iff_eq,decide_eq_true_eq];omega
 go_enter Tryz.func214,Tryz.ntmps214
 go_wp2_with fail
 refine(HI _).mono ?_;rintro e w1 ⟨rfl,rfl⟩
 go_wp2_with fail
 go_ret
 exact⟨xi HE.out,rfl⟩
theorem ydB {w0:K} {bp c:Nat} {p:Int} (s:Pg.Sp) (X:List Pg.Sp) (V:Nat->Prop) (w:K) (hlen:X.length<4680) (hR:vc w0 bp c p X V w):
 kQ y 215 #[s.val,kI (P ⟨c,0,I⟩)] w fun e w'=>e=kS (kF #[])/\∃V',vc w0 bp c p (X++[s]) V' w'/\But V w w'/\∀k,V' k->V k\/w.heap.size<=k:=by
 have HR:O _:=hR;obtain⟨hbel,hhi,hpc,hpb,v1,v2,hs,o1,o2,hne,hV⟩:=hR;have hcl:=hs.lb;obtain⟨c0,c1,c2,c3,c4,c5,c6,c7,c8,hfz⟩:=hs;obtain⟨q0,hq,hz0,hz1,hz2⟩:=info_parts qu;obtain⟨st,sp,sl,sa,⟨et,el,er,eu,ed,ef⟩⟩:=s;simp only[Pg.Sp.val]
 have hcw:c≠w.heap.size:=by omega
 have hwc:w.heap.size≠c:=by omega
 generalize ygw X=xl at*;generalize ygv X=xe at*;clear hpc;have HO1:O (w.ownsRow (c+1) 3 1 v1 X.length (zr (tabs X))):=o1;have HO2:O (w.ownsRow (c+1) 3 1 v2 X.length (zr (qz X))):=o2;have HN:O _:=hne;clear hne o1 o2 hbel;obtain⟨W2,hW2⟩:∃W2,W2=((((((((w.setCell ⟨c,0,I⟩ (N R (sl:Int))).setCell ⟨c,1,I⟩ (Z et)).setCell ⟨c,2,I⟩ (Z el)).setCell ⟨c,3,I⟩ (N R er)).setCell ⟨c,4,I⟩ (Z eu)).setCell ⟨c,5,I⟩ (Z ed)).setCell ⟨c,6,I⟩ (N R ef)).alloc (kJ #[N R st,N R (sp:Int),N R (sl:Int),N R (sa:Int),Z et,Z el,N R er,Z eu,Z ed,N R ef] 198)).drew:=⟨_,rfl⟩
 have hS2:qj c (sl:Int) ⟨et,el,er,eu,ed,ef⟩ v1 v2 W2:=by
  rw[hW2]
  refine⟨?_,?_,?_,?_,?_,?_,?_,?_,?_,fun o=> ?_⟩<;>simp[go_sem,c0,c1,c2,c3,c4,c5,c6,c7,c8,hfz,hcl]
 have hB2:But (fun k=>k=c) w W2:=by
  rw[hW2];exact(((((((((But.refl (fun k=>k=c) w).setCell (a:=⟨c,0,I⟩) (.inr rfl) _).setCell (a:=⟨c,1,I⟩) (.inr rfl) _).setCell (a:=⟨c,2,I⟩) (.inr rfl) _).setCell (a:=⟨c,3,I⟩) (.inr rfl) _).setCell (a:=⟨c,4,I⟩) (.inr rfl) _).setCell (a:=⟨c,5,I⟩) (.inr rfl) _).setCell (a:=⟨c,6,I⟩) (.inr rfl) _).alloc _).drew
 have x0:W2.cell? ⟨w.heap.size,0,I⟩=P (N R st):=by rw[hW2];simp[go_sem]
 have x1:W2.cell? ⟨w.heap.size,1,I⟩=P (N R (sp:Int)):=by rw[hW2];simp[go_sem]
 have HS2:O _:=hS2;have HB2:O _:=hB2;have HX1:O _:=x1
 have hown:W2.ownsRow (c+1) 3 1 v1 X.length (zr (tabs X)):=zb HO1.out hB2 fun k hk e=>by have:=(HO1.out.lt k hk).1;omega
 have hown2:W2.ownsRow (c+1) 3 1 v2 X.length (zr (qz X)):=zb HO2.out hB2 fun k hk e=>by have:=(HO2.out.lt k hk).1;omega
 have hl2:=hS2.lb;have hlw:w.heap.size<W2.heap.size:=H _ _ x0;have d7:=hS2.c7;have hf2:=hS2.fz;have HOW2:O (W2.ownsRow (c+1) 3 1 v2 X.length (zr (qz X))):=hown2;clear hS2 hB2 hown2
 go_enter Tryz.func215,Tryz.ntmps215
 go_wp2_with fail
 go_region
 rw[<-hW2];clear hW2 c0 c1 c2 c3 c4 c5 c6 c7 c8 hfz
 go_wp2_with (first
  | (at_builtin;refine wpList_append_lies _ rfl _ _ 45 rfl (c+1) 3 q0 (N R 0) 1 8 Tryz.underlying45 hq hz0 hz1 hz2 rfl (by decide) _ _ _ rfl (hown.alloc _) ⟨W2.heap.size,0,I⟩ 1 1 [N R st] rfl rfl ?c1 ?c2 (by decide) ?c3 ?c4 ?c5 (W2.heap.size+1) (by simp) ?_))
 case c1=>
  intro j u hj
  match j,hj with
  | 0,hj=>simp at hj;subst hj;simp[Addr.add,go_sem]
 case c2=>intro u hu;simp at hu;subst hu;rfl
 case c3=>unfold maxLen;omega
 case c4=>omega
 case c5=>simp;omega
 intro g cap w3 hown3 hgrow hat hlt3;have G3:O _:=yfn hown hgrow hat hl2 hlt3
 have hblk:w3.heap[c]?=W2.heap[c]?:=G3.out.but.block c hl2 fun e=>by have:=G3.out.far c e;omega
 have S3:O _:=HS2.out.of_block hblk;have S4:O _:=S3.out.set7 (Y (P ⟨g,0,I⟩) (X.length+1) cap);have e7:=S3.out.c7;have ef7:=S3.out.fz 7
 have B4:O (But (fun k=>k=c\/v1.ownBlock=P k) W2 (w3.setCell ⟨c,7,I⟩ (Y (P ⟨g,0,I⟩) (X.length+1) cap))):=
  (G3.out.but.mono fun _ _ h=> .inr h).setCell (.inr (.inl rfl)) _
 have O4:O ((w3.setCell ⟨c,7,I⟩ (Y (P ⟨g,0,I⟩) (X.length+1) cap)).ownsRow (c+1) 3 1 (Y (P ⟨g,0,I⟩) (X.length+1) cap) (X.length+1) (zr (tabs X)++[N R st])):=
  za hown3 fun k hk=>Below.heap_setCell _ _ _ _ (fun e=>by have e1:g=k:=(by simpa[U]using hk);have:=G3.out.gc;have e2:k=c:=e;omega)
 have hown4:(w3.setCell ⟨c,7,I⟩ (Y (P ⟨g,0,I⟩) (X.length+1) cap)).ownsRow (c+1) 3 1 v2 X.length (zr (qz X)):=
  zb HOW2.out B4.out fun k hk e=>by
   rcases e with e|e
   ·have:=(D.lt HOW2.out k hk).1;omega
   ·exact HN.out k e hk
 have hs3:=G3.out.but.size;have e8:=S3.out.c8;have ef8:=S3.out.fz 8
 have hv1:v1.ownBlock≠P w.heap.size:=fun e=>by have:=(D.lt HO1.out _ e).2;omega
 have y1:w3.cell? ⟨w.heap.size,1,I⟩=P (N R (sp:Int)):=(G3.out.but.cell (a:=⟨w.heap.size,1,I⟩) hlw hv1).trans HX1.out
 have hl3:c<w3.heap.size:=by omega
 have hl4:w.heap.size<w3.heap.size:=by omega
 have hsz4:(w3.setCell ⟨c,7,I⟩ (Y (P ⟨g,0,I⟩) (X.length+1) cap)).heap.size=w3.heap.size:=by simp
 clear hown hown3 hgrow hat hlt3 hblk x0 x1 d7 hf2
 go_wp2_with (first
  | (at_builtin;refine wpList_append_lies _ rfl _ _ 45 rfl (c+1) 3 q0 (N R 0) 1 8 Tryz.underlying45 hq hz0 hz1 hz2 rfl (by decide) _ _ _ rfl (hown4.alloc _) ⟨w3.heap.size,0,I⟩ 1 1 [N R (sp:Int)] rfl rfl ?d1 ?d2 (by decide) ?d3 ?d4 ?d5 (w3.heap.size+1) (by simp) ?_))
 case d1=>
  intro j u hj
  match j,hj with
  | 0,hj=>simp at hj;subst hj;simp[Addr.add,go_sem]
 case d2=>intro u hu;simp at hu;subst hu;rfl
 case d3=>unfold maxLen;omega
 case d4=>omega
 case d5=>simp;omega
 intro g5 cap5 w5 hown5 hgrow5 hat5 hlt5;have G5:O _:=yfn hown4 hgrow5 (by simpa using hat5) (by simp;omega) hlt5
 have hblk:w5.heap[c]?=_:=G5.out.but.block c (by simp;omega) fun e=>by have:=G5.out.far c e;omega
 have S5:O _:=S4.out.of_block hblk;have S6:O _:=S5.out.set8 (Y (P ⟨g5,0,I⟩) (X.length+1) cap5);have k8:=S5.out.c8;have kf8:=S5.out.fz 8
 have hgg:g≠g5:=by
  have h1:=G3.out.gl;rcases G5.out.at' with h5|h5
  ·rcases G3.out.at' with h3|h3
   ·intro e;exact HN.out g h3 (e▸h5)
   ·have:=(D.lt HOW2.out g5 h5).2;omega
  ·rw[hsz4]at h5;omega
 have O6:O ((w5.setCell ⟨c,8,I⟩ (Y (P ⟨g5,0,I⟩) (X.length+1) cap5)).ownsRow (c+1) 3 1 (Y (P ⟨g5,0,I⟩) (X.length+1) cap5) (X.length+1) (zr (qz X)++[N R (sp:Int)])):=
  za hown5 fun k hk=>Below.heap_setCell _ _ _ _ (fun e=>by have e1:g5=k:=(by simpa[U]using hk);have:=G5.out.gc;have e2:k=c:=e;omega)
 have B6:O (But (fun k=>k=c\/v2.ownBlock=P k) (w3.setCell ⟨c,7,I⟩ (Y (P ⟨g,0,I⟩) (X.length+1) cap)) (w5.setCell ⟨c,8,I⟩ (Y (P ⟨g5,0,I⟩) (X.length+1) cap5))):=
  (G5.out.but.mono fun _ _ h=> .inr h).setCell (.inr (.inl rfl)) _
 have O7:O ((w5.setCell ⟨c,8,I⟩ (Y (P ⟨g5,0,I⟩) (X.length+1) cap5)).ownsRow (c+1) 3 1 (Y (P ⟨g,0,I⟩) (X.length+1) cap) (X.length+1) (zr (tabs X)++[N R st])):=
  zb O4.out B6.out fun k hk e=>by
   have e1:g=k:=by simpa[U]using hk
   have:=G3.out.gc;rcases e with e|e
   ·omega
   ·rcases G3.out.at' with h3|h3
    ·exact HN.out g h3 (e1▸e)
    ·have:=(D.lt HOW2.out k e).2;omega
 have fin:O (∃V',vc w0 bp c p (X++[⟨st,sp,sl,sa,⟨et,el,er,eu,ed,ef⟩⟩]) V' (w5.setCell ⟨c,8,I⟩ (Y (P ⟨g5,0,I⟩) (X.length+1) cap5))/\But V w (w5.setCell ⟨c,8,I⟩ (Y (P ⟨g5,0,I⟩) (X.length+1) cap5))/\∀k,V' k->V k\/w.heap.size<=k):=by
  have hBV:But V w (w5.setCell ⟨c,8,I⟩ (Y (P ⟨g5,0,I⟩) (X.length+1) cap5)):=by
   rw[hV];refine((HB2.out.mono fun _ _ h=> .inl h).trans B4.out fun i _ h=> ?_).trans B6.out fun i _ h=> ?_
   ·exact h.imp id .inl
   ·exact h.imp id .inr
  have hVlo:∀k,V k->c<=k:=by
   rw[hV];rintro k (rfl|h|h)
   ·exact kC _
   ·have:=(D.lt HO1.out k h).1;omega
   ·have:=(D.lt HO2.out k h).1;omega
  have hbp:¬V bp:=fun h=>by have:=hVlo bp h;omega
  refine⟨_,⟨HR.out.bel.trans (hBV.below HR.out.bel.size fun k hk=>kY hhi (hVlo k hk)),hhi,?_,hpb,Y (P ⟨g,0,I⟩) (X.length+1) cap,Y (P ⟨g5,0,I⟩) (X.length+1) cap5,?_,?_,?_,?_,rfl⟩,hBV,fun k hk=> ?_⟩
  ·exact(hBV.cell (a:=⟨bp,0,I⟩) (by show bp<w.heap.size;omega) hbp).trans HR.out.pc
  ·rw[jJ,jI];exact S6.out
  ·rw[ybF,List.length_append,List.length_singleton];exact O7.out
  ·rw[ydU,List.length_append,List.length_singleton];exact O6.out
  ·intro k hk hk'
   have e1:g=k:=by simpa[U]using hk
   have e2:g5=k:=by simpa[U]using hk'
   exact hgg (e1.trans e2.symm)
  ·rw[hV]
   rcases hk with rfl|hk|hk
   ·exact .inl (.inl rfl)
   ·have e1:g=k:=by simpa[U]using hk
    subst e1;rcases G3.out.at' with h3|h3
    ·exact .inl (.inr (.inl h3))
    ·exact .inr (by omega)
   ·have e1:g5=k:=by simpa[U]using hk
    subst e1;rcases G5.out.at' with h3|h3
    ·exact .inl (.inr (.inr h3))
    ·rw[hsz4]at h3;exact .inr (by omega)
 clear hown4 hown5 hgrow5 hat5 hlt5 hblk hgg e7 ef7 e8 ef8 y1
 go_wp2_with fail
 go_end0
 exact⟨rfl,fin.out⟩
theorem ybe:∀args w,(callFunc 214 args).run y w= .ok (.enter 214 args) w:=fun args w=>by simp[go_sem]
theorem ybf:∀args w,(callFunc 215 args).run y w= .ok (.enter 215 args) w:=fun args w=>by simp[go_sem]
theorem ycU {b:Nat} {S:Pg.Fs} {F:Nat->Prop} {w0:K} {bp c:Nat} {p:Int} (hp:Pg.below p 4096=E) (h:zd w0 b S F):
 ybK b S F 214 215 #[kI (P ⟨bp,0,I⟩)] #[kI (P ⟨c,0,I⟩)] (Pg.onW p) (vc w0 bp c p):=
 ⟨ybe,ybf,fun _ _ _ hR=>hR.fr h,fun _ _ _ hR _ hk=>hR.lt hk,fun _ _ _ _ hR hb=>hR.grow hb,
  fun i lv _ _ w _ hl hR=>zX (ydh i lv p hp hl w hR.pc),fun s X V w _ _ _ hl hR=>ydB s X V w hl hR⟩
def zt (S:Pg.Fs) (t p:Int):List Pg.Sp:=if Pg.below p 4096=E/\(Pg.thr S (Pg.onW p) 3 t 0).2=0 then(Pg.thr S (Pg.onW p) 3 t 0).1 else []
def qq (S:Pg.Fs) (t p:Int):Int:=if Pg.below p 4096=E then(Pg.thr S (Pg.onW p) 3 t 0).2 else 1
def ybB (X:List Pg.Sp) (v1 v2:z):z:= .agg #[N R (ygw X),Z (ygv X).t,Z (ygv X).l,N R (ygv X).r,Z (ygv X).u,Z (ygv X).d,N R (ygv X).f,v1,v2]
theorem yfp {w w':K} {b:Nat} {v0 v1 v2 v3 v4 v5 v6 v7 v8:z} (hk:w'.heap[b]?=w.heap[b]?)
 (h:w.cell? ⟨b,0,I⟩=P v0/\w.cell? ⟨b,1,I⟩=P v1/\w.cell? ⟨b,2,I⟩=P v2/\w.cell? ⟨b,3,I⟩=P v3/\w.cell? ⟨b,4,I⟩=P v4/\w.cell? ⟨b,5,I⟩=P v5/\w.cell? ⟨b,6,I⟩=P v6/\w.cell? ⟨b,7,I⟩=P v7/\w.cell? ⟨b,8,I⟩=P v8):
 w'.cell? ⟨b,0,I⟩=P v0/\w'.cell? ⟨b,1,I⟩=P v1/\w'.cell? ⟨b,2,I⟩=P v2/\w'.cell? ⟨b,3,I⟩=P v3/\w'.cell? ⟨b,4,I⟩=P v4/\w'.cell? ⟨b,5,I⟩=P v5/\w'.cell? ⟨b,6,I⟩=P v6/\w'.cell? ⟨b,7,I⟩=P v7/\w'.cell? ⟨b,8,I⟩=P v8:=
 ⟨(B hk).trans h.1,(B hk).trans h.2.1,(B hk).trans h.2.2.1,(B hk).trans h.2.2.2.1,(B hk).trans h.2.2.2.2.1,(B hk).trans h.2.2.2.2.2.1,(B hk).trans h.2.2.2.2.2.2.1,(B hk).trans h.2.2.2.2.2.2.2.1,(B hk).trans h.2.2.2.2.2.2.2.2⟩
theorem ycu {F:Nat->Prop} {w w1:K} (h:But F w w1) (r:Nat) (hr:w.heap.size<=r\/F r) (x0 x1 x2 x3 x4 x5 x6 x7 x8:z):
 But F w (((((((((w1.setCell ⟨r,0,I⟩ x0).setCell ⟨r,1,I⟩ x1).setCell ⟨r,2,I⟩ x2).setCell ⟨r,3,I⟩ x3).setCell ⟨r,4,I⟩ x4).setCell ⟨r,5,I⟩ x5).setCell ⟨r,6,I⟩ x6).setCell ⟨r,7,I⟩ x7).setCell ⟨r,8,I⟩ x8):=
 ((((((((h.setCell (a:=⟨r,0,I⟩) hr x0).setCell (a:=⟨r,1,I⟩) hr x1).setCell (a:=⟨r,2,I⟩) hr x2).setCell (a:=⟨r,3,I⟩) hr x3).setCell (a:=⟨r,4,I⟩) hr x4).setCell (a:=⟨r,5,I⟩) hr x5).setCell (a:=⟨r,6,I⟩) hr x6).setCell (a:=⟨r,7,I⟩) hr x7).setCell (a:=⟨r,8,I⟩) hr x8
theorem yeb {b:Nat} {S:Pg.Fs} {F:Nat->Prop} (t p:Int) (w:K) (h:zd w b S F):
 kQ y 189 #[kI (P ⟨b,0,I⟩),N R t,N R p] w fun e w'=>∃v1 v2,e=kS (kF #[ybB (zt S t p) v1 v2,N R (qq S t p)])/\w'.ownsRow w.heap.size 3 1 v1 (zt S t p).length (zr (tabs (zt S t p)))/\w'.ownsRow w.heap.size 3 1 v2 (zt S t p).length (zr (qz (zt S t p)))/\(∀k,v1.ownBlock=P k->v2.ownBlock≠P k)/\Below w.heap.size w w':=by
 have HH:=xy p;cases hp:Pg.below p 4096
 ·have e1:zt S t p=[]:=by simp[zt,hp]
  have e2:qq S t p=1:=by simp[qq,hp]
  rw[e1,e2];rw[hp]at HH;clear h e1 e2
  go_enter Tryz.func189,Tryz.ntmps189
  go_wp2_with fail
  refine(HH _).mono ?_;rintro e w1 ⟨rfl,rfl⟩
  go_wp2_with fail
  refine kN (v:=kF #[ybB [] (Y I 0 0) (Y I 0 0),N R 1]) ?_ rfl ⟨Y I 0 0,Y I 0 0,rfl,M _ _ _ _,M _ _ _ _,fun k hk=>by simp[U]at hk,?_⟩
  ·simp[results,Tryz.results189,go_sem,ybB,ygw,ygv,Pg.En.zero]
  ·exact zA (zA (zR w) _) _
 ·have e2:qq S t p=(Pg.thr S (Pg.onW p) 3 t 0).2:=by simp[qq,hp]
  have e1:zt S t p=if (Pg.thr S (Pg.onW p) 3 t 0).2=0 then(Pg.thr S (Pg.onW p) 3 t 0).1 else []:=by simp[zt,hp]
  rw[e1,e2];rw[hp]at HH;obtain⟨W,hW⟩:∃W,W=((w.alloc (kJ #[N R p] 3)).alloc (kJ #[N R 0,Z Q,Z Q,N R 0,Z Q,Z Q,N R 0,Y I 0 0,Y I 0 0] 211)).alloc (kJ #[N R 0,Z Q,Z Q,N R 0,Z Q,Z Q,N R 0,Y I 0 0,Y I 0 0] 211):=⟨_,rfl⟩
  have hB:Below w.heap.size w W:=by rw[hW];exact zA (zA (zA (zR w) _) _) _
  have hK:vc w w.heap.size (w.heap.size+2) p [] (fun k=>k=w.heap.size+2\/(kP I 0 0).ownBlock=P k\/(kP I 0 0).ownBlock=P k) W:=by
   refine⟨hB,by omega,by rw[hW];simp[go_sem],by omega,Y I 0 0,Y I 0 0,?_,M _ _ _ _,M _ _ _ _,fun k hk=>by simp[U]at hk,rfl⟩;rw[hW]
   refine⟨?_,?_,?_,?_,?_,?_,?_,?_,?_,fun o=> ?_⟩<;>simp[go_sem,ygw,ygv,Pg.En.zero]
  have HC:O _:=yaL (ycU hp h) t _ W hK
  have hres:W.cell? ⟨w.heap.size+1,0,I⟩=P (N R 0)/\W.cell? ⟨w.heap.size+1,1,I⟩=P (Z Q)/\W.cell? ⟨w.heap.size+1,2,I⟩=P (Z Q)/\W.cell? ⟨w.heap.size+1,3,I⟩=P (N R 0)/\W.cell? ⟨w.heap.size+1,4,I⟩=P (Z Q)/\W.cell? ⟨w.heap.size+1,5,I⟩=P (Z Q)/\W.cell? ⟨w.heap.size+1,6,I⟩=P (N R 0)/\W.cell? ⟨w.heap.size+1,7,I⟩=P (Y I 0 0)/\W.cell? ⟨w.heap.size+1,8,I⟩=P (Y I 0 0):=by rw[hW];simp[go_sem]
  have hrf:∀o,W.frozen? ⟨w.heap.size+1,o,I⟩=Q:=fun o=>by rw[hW];simp[go_sem]
  have HRS:O _:=hres;have HRF:O _:=hrf
  have hWs:W.heap.size=w.heap.size+3:=by rw[hW];simp
  clear h hK hB e1 e2 hres hrf hp;generalize Pg.thr S (Pg.onW p) 3 t 0=th at*
  go_enter Tryz.func189,Tryz.ntmps189
  go_wp2_with fail
  refine(HH _).mono ?_;rintro e w1 ⟨rfl,rfl⟩
  go_wp2_with fail
  rw[<-hW];refine Calls.mono HC.out ?_;rintro e w1 ⟨rfl,V1,hK1,hb1,hn1⟩;have HB:O (Below w.heap.size w w1):=hK1.bel
  have hblk:w1.heap[w.heap.size+1]?=W.heap[w.heap.size+1]?:=hb1.block _ (by omega) fun e=>by
   rcases e with e|e|e
   ·omega
   ·simp[U]at e
   ·simp[U]at e
  have R1:O _:=yfp hblk HRS.out;have F1:∀o,w1.frozen? ⟨w.heap.size+1,o,I⟩=Q:=fun o=>(kT hblk).trans (HRF.out o);have hl1:w.heap.size+1<w1.heap.size:=H _ _ R1.out.1;obtain⟨r0,r1,r2,r3,r4,r5,r6,r7,r8⟩:=R1.out;clear hb1 hn1 hblk
  by_cases hc:th.2=0
  ·have hcb:(th.2 !=0)=Q:=by simp[hc]
   obtain⟨v1,v2,hs,o1,o2,hne,_⟩:=hK1.var;obtain⟨a1,c1,rfl⟩:=zF o1;obtain⟨a2,c2,rfl⟩:=zF o2;have HNE:O (∀k,(kP a1 th.1.length c1).ownBlock=P k->(kP a2 th.1.length c2).ownBlock≠P k):=hne;clear hne;have O1:O (w1.ownsRow (w.heap.size+2+1) 3 1 (Y a1 th.1.length c1) th.1.length (zr (tabs th.1))):=o1;have O2:O (w1.ownsRow (w.heap.size+2+1) 3 1 (Y a2 th.1.length c2) th.1.length (zr (qz th.1))):=o2;have HC0:O _:=hc;obtain⟨s0,s1,s2,s3,s4,s5,s6,s7,s8,_⟩:=hs;clear hK1 o1 o2 hc;have HV:O (ybB th.1 (Y a1 th.1.length c1) (Y a2 th.1.length c2)= .agg #[N R (ygw th.1),Z (ygv th.1).t,Z (ygv th.1).l,N R (ygv th.1).r,Z (ygv th.1).u,Z (ygv th.1).d,N R (ygv th.1).f,Y a1 th.1.length c1,Y a2 th.1.length c2]):=rfl
   go_wp2_with fail
   refine kN (v:=kF #[ybB th.1 (Y a1 th.1.length c1) (Y a2 th.1.length c2),N R 0]) ?_ rfl ?_
   ·rw[HV.out]
    simp[results,Tryz.results189,go_sem,r0,r1,r2,r3,r4,r5,r6,r7,r8]
   ·have hbt:=ycu (But.refl (fun k=>k=w.heap.size+1) w1) (w.heap.size+1) (.inr rfl) (N R (ygw th.1)) (Z (ygv th.1).t) (Z (ygv th.1).l) (N R (ygv th.1).r) (Z (ygv th.1).u) (Z (ygv th.1).d) (N R (ygv th.1).f) (Y a1 th.1.length c1) (Y a2 th.1.length c2)
    refine⟨Y a1 th.1.length c1,Y a2 th.1.length c2,rfl,?_,?_,HNE.out,?_⟩
    ·exact ydT (zb O1.out hbt fun k hk e=>by have:=(D.lt O1.out k hk).1;omega) (by omega)
    ·exact ydT (zb O2.out hbt fun k hk e=>by have:=(D.lt O2.out k hk).1;omega) (by omega)
    ·exact HB.out.trans (hbt.below HB.out.size fun k hk=>by omega)
  ·have hcb:(th.2 !=0)=E:=by simp[hc]
   have HC0:O _:=hc;clear hK1 hc
   go_wp2_with fail
   refine kN (v:=kF #[ybB [] (Y I 0 0) (Y I 0 0),N R th.2]) ?_ rfl ?_
   ·simp[results,Tryz.results189,go_sem,r0,r1,r2,r3,r4,r5,r6,r7,r8,ybB,ygw,ygv,Pg.En.zero]
   ·have hbt:=ycu (But.refl (fun k=>k=w.heap.size+1) w1) (w.heap.size+1) (.inr rfl) (N R 0) (Z Q) (Z Q) (N R 0) (Z Q) (Z Q) (N R 0) (Y I 0 0) (Y I 0 0)
    exact⟨Y I 0 0,Y I 0 0,rfl,M _ _ _ _,M _ _ _ _,fun k hk=>by simp[U]at hk,HB.out.trans (hbt.below HB.out.size fun k hk=>by omega)⟩
end
section
def lastT (X:List Pg.Sp):Int:=match X.getLast? with
 | some s=>s.table
 | none=>0
namespace Pg
def tFC (S:Fs) (t p:Int):Int:=if qq S t p≠0 then qq S t p else if (ygv (zt S t p)).t=E then 0 else 5
def tFM (S:Fs) (t p:Int):Mp:=if tFC S t p=0 then(ygv (zt S t p)).map (ygw (zt S t p)) p else .zz
def tFE (S:Fs) (t p:Int):En:=if tFC S t p=0 then ygv (zt S t p)else En.zero
def insC (S:Fs) (t:Int) (m:Mp):Int:=
 if m.code≠0 then m.code else if qq S t m.p≠0 then qq S t m.p
 else if (ygv (zt S t m.p)).t=E\/ygw (zt S t m.p)<m.s then 4 else if S.free<ygw (zt S t m.p)-m.s then 6 else 0
def insW (p s:Int):Nat->Fs->Int->Fs×Int
 | 0,S,t=>(S,t)
 | lv+1,S,t=>if ((lv+1:Nat):Int)<=s then(S,t)else insW p s lv (S.take.store t (index p ((lv+1:Nat):Int)) (enc E Q 7 Q Q S.takeN ((lv+1:Nat):Int))) S.takeN
def insS (S:Fs) (t:Int) (m:Mp):Fs:=if insC S t m=0 then
 (insW m.p m.s (ygw (zt S t m.p)).toNat S (lastT (zt S t m.p))).1.store (insW m.p m.s (ygw (zt S t m.p)).toNat S (lastT (zt S t m.p))).2 (index m.p m.s) (enc E E m.r Q Q m.f m.s)else S
def yg1 (S:Fs) (t:Int):Bool:=(List.range 8).all fun i=>S.word t.toNat i==0
def rmW (p:Int) (ts:List Int):Nat->Fs->List Int->Fs×List Int
 | 0,S,G=>(S,G)
 | k+1,S,G=>if k=0\/yg1 (S.store (ts.getD k 0) (index p (3-(k:Int))) 0) (ts.getD k 0)=Q then(S.store (ts.getD k 0) (index p (3-(k:Int))) 0,G)
   else rmW p ts k (S.store (ts.getD k 0) (index p (3-(k:Int))) 0) (G++[ts.getD k 0])
def rmR (S:Fs) (t p:Int):Fs×List Int:=if tFC S t p=0 then rmW p (tabs (zt S t p)) (zt S t p).length S []else(S,[])
def prC (S:Fs) (t p r:Int):Int:=if r<0\/7<r then 1 else tFC S t p
def prM (S:Fs) (t p r:Int):Mp:=if prC S t p r=0 then(tFM S t p).rts r else .zz
def prS (S:Fs) (t p r:Int):Fs:=if prC S t p r=0 then
 S.store (lastT (zt S t p)) (index p (ygw (zt S t p))) (enc (ygv (zt S t p)).t (ygv (zt S t p)).l r (ygv (zt S t p)).u (ygv (zt S t p)).d (ygv (zt S t p)).f (ygw (zt S t p)))else S
theorem way_like (S:Fs) (p:Int):∀(lv:Nat) (t:Int) (a:Nat),(∀s,s ∈ (thr S (onW p) lv t a).1->S.has s.table=E)/\
 ((thr S (onW p) lv t a).2=0->∃s,(thr S (onW p) lv t a).1.getLast?=P s/\s.level+(thr S (onW p) lv t a).1.length=lv+1/\s.e=rEn S s.table (ix p s.level) s.level/\ygy S s.table (ix p s.level) s.level=0/\s.e.on=Q):=by
 intro lv
 induction lv with
 | zero=>
   intro t a;rw[yhC];split
   ·rename_i h1
    exact⟨fun s hs=>by simp at hs,fun h=>absurd h h1⟩
   ·rename_i h1
    have h1:ygy S t (ix p 0) 0=0:=by simpa using h1
    split
    ·rename_i h2
     refine⟨fun s hs=> ?_,fun _=>⟨spt S t (ix p 0) 0 a,rfl,rfl,rfl,h1,h2⟩⟩;simp at hs;subst hs;exact yhx h1
    ·rename_i h2
     obtain⟨m,hm⟩:=yhz (S:=S) (t:=t) (i:=ix p 0) (lv:=0) (by simpa using h2);omega
 | succ lv ih=>
   intro t a;rw[yhC];split
   ·rename_i h1
    exact⟨fun s hs=>by simp at hs,fun h=>absurd h h1⟩
   ·rename_i h1
    have h1:ygy S t (ix p (lv+1)) (lv+1)=0:=by simpa using h1
    split
    ·rename_i h2
     refine⟨fun s hs=> ?_,fun _=>⟨spt S t (ix p (lv+1)) (lv+1) a,rfl,rfl,rfl,h1,h2⟩⟩;simp at hs;subst hs;exact yhx h1
    ·rename_i h2
     obtain⟨i1,i2⟩:=ih (rEn S t (ix p (lv+1)) (lv+1)).f ((a+ix p (lv+1))*8);refine⟨fun s hs=> ?_,fun hz=> ?_⟩
     ·simp at hs
      rcases hs with rfl|hs
      ·exact yhx h1
      ·exact i1 s hs
     ·obtain⟨s,j1,j2,j3⟩:=i2 hz
      refine⟨s,?_,?_,j3⟩
      ·simp only[sub]
       rw[List.getLast?_cons,j1];rfl
      ·simp only[sub,List.length_cons]
       omega
structure Way (S:Fs) (t p:Int) (X:List Sp) (lv:Nat) (e:En) (tl:Int):Prop where
 below:below p 4096=E
 has:∀x,x ∈ tabs X->S.has x=E
 len:lv+X.length=4
 ygw:ygw X=(lv:Int)
 ygv:ygv X=e
 lastT:lastT X=tl
 hasT:S.has tl=E
 en:e=rEn S tl (ix p lv) lv
 code:ygy S tl (ix p lv) lv=0
 on:e.on=Q
theorem yix {S:Fs} {t p:Int} (h:qq S t p=0):∃lv e tl,Way S t p (zt S t p) lv e tl:=by
 have hp:Pg.below p 4096=E:=by
  cases hp:Pg.below p 4096
  ·simp[qq,hp]at h
  ·rfl
 have hz:(thr S (onW p) 3 t 0).2=0:=by simpa[qq,hp]using h
 have eX:zt S t p=(thr S (onW p) 3 t 0).1:=by simp[zt,hp,hz]
 obtain⟨h1,h2⟩:=way_like S p 3 t 0;obtain⟨s,j1,j2,j3,j4,j5⟩:=h2 hz;have hs:s ∈ (thr S (onW p) 3 t 0).1:=List.mem_of_getLast? j1;refine⟨s.level,s.e,s.table,hp,fun x hx=> ?_,?_,?_,?_,?_,h1 s hs,?_,?_,j5⟩
 ·rw[eX]at hx
  simp only[tabs,List.mem_map]at hx;obtain⟨s',hs',rfl⟩:=hx;exact h1 s' hs'
 ·rw[eX];exact j2
 ·rw[eX];unfold Go.Proofs.YtdphiompijbelaaGreat.ygw;rw[j1]
 ·rw[eX];unfold Go.Proofs.YtdphiompijbelaaGreat.ygv;rw[j1]
 ·rw[eX];unfold Go.Proofs.YtdphiompijbelaaGreat.lastT;rw[j1]
 ·exact j3
 ·exact j4
theorem yh5 (S:Fs) (t i v:Int):(S.store t i v).n=S.n/\(S.store t i v).used=S.used/\(S.store t i v).back=S.back/\(S.store t i v).next=S.next:=by
 unfold Fs.store
 split<;>exact⟨rfl,rfl,rfl,rfl⟩
theorem yhi (S:Fs) (t i v x:Int):(S.store t i v).has x=S.has x:=by
 unfold Fs.has Fs.inn;rw[(yh5 S t i v).2.1]
theorem store_free (S:Fs) (t i v:Int):(S.store t i v).free=S.free:=by
 obtain⟨h1,_,h3,h4⟩:=yh5 S t i v;unfold Fs.free;rw[h1,h3,h4]
theorem take_some {S:Fs} (h:S.Ok) (hf:0<S.free):∃k:Nat,S.pick=P k/\S.takeN=(k:Int)/\k<S.n/\S.take.has (k:Int)=E/\(∀x,S.has x=E->S.take.has x=E)/\S.take.free=S.free-1/\S.take.n=S.n:=by
 unfold Fs.free at hf;have ht:=h.top;unfold Fs.takeN Fs.pick Fs.take Fs.has Fs.inn Fs.free
 cases hb:S.back.getLast? with
 | some k=>
   have hl:S.back=S.back.dropLast++[k]:=by
    obtain⟨l,hl⟩:=List.getLast?_eq_some_iff.1 hb;simp[hl]
   have hlen:S.back.length=S.back.dropLast.length+1:=by
    have:=congrArg List.length hl
    simpa using this
   have hk:k<S.n:=by
    have:=h.yh7 (List.mem_of_getLast? hb);omega
   refine⟨k,rfl,rfl,hk,by simp,fun x hx=> ?_,?_,rfl⟩
   ·simp at hx ⊢
    exact⟨hx.1,.inr hx.2⟩
   ·simp only
    omega
 | none=>
   have hbn:S.back=[]:=by simpa using hb
   rw[hbn]at hf;simp at hf
   have hlt:S.next<S.n:=by omega
   simp only[hlt,if_true];refine⟨S.next,rfl,rfl,hlt,by simp,fun x hx=> ?_,?_,trivial⟩
   ·simp at hx ⊢
    exact⟨hx.1,.inr hx.2⟩
   ·omega
theorem yh9 (t l:Bool) (r:Int) (u d:Bool) (f lv:Int):0<=enc t l r u d f lv/\enc t l r u d f lv<18446744073709551616:=by
 unfold enc;split
 ·rename_i h
  obtain⟨_,hc⟩:=ygI h;unfold yg2 b01;rcases hc with ⟨rfl,_⟩|⟨rfl,r0,r1,f0,f1,_⟩
  ·simp
  ·simp only[if_true]
   split<;>split<;>split<;>omega
 ·omega
end Pg
namespace Pg
section
variable {S:Fs}
end
section
variable {S:Fs}
end
end Pg
namespace Pg
section
variable {S:Fs}
end
end Pg
set_option maxRecDepth 10000
namespace Pg
end Pg
namespace Pg
end Pg
namespace Pg
section
variable {S:Fs}
end
end Pg
namespace Pg
def gives:List Int->Fs->Fs
 | [],S=>S
 | x::r,S=>gives r (S.give x)
end Pg
namespace Pg
end Pg
namespace Pg
section
variable {S:Fs}
end
end Pg
namespace Pg
end Pg
end
section
namespace Pg
end Pg
namespace Pg
end Pg
set_option maxRecDepth 10000
namespace Pg
end Pg
namespace Pg
end Pg
namespace Pg
structure Sx where
 kind:Int
 core:Int
 m:Mp
 q:Int
 k:Int
 u:Bool
structure Ev where
 c:Int
 ended:Bool
 a:Int
 f:Int
 r:Int
 back:Bool
def Ev.code (c:Int):Ev:=⟨c,Q,0,0,0,Q⟩
def Tl.ev (T:Tl):Ev:=⟨T.c,T.ended,T.a,T.f,T.r,Q⟩
structure Spc where
 S:Fs
 C:List Cr
 G:List Int
 T:Mp
 W:List Bool
namespace Spc
def busy (X:Spc):Bool:=X.W.any id
def new (cores n:Nat):Spc:=⟨(Fs.new n).take,List.replicate cores Cr.new,[],.zz,List.replicate cores Q⟩
def post (X:Spc) (S:Fs) (T:Mp) (G:List Int):Spc:=⟨S,X.C,G,T,X.W.map fun _=>E⟩
def at' (X:Spc) (k:Int):Cr:=X.C.getD k.toNat Cr.new
def chE (X:Spc) (x:Sx):Ev:=
 if X.busy=E then .code 8
 else if x.kind=1 then⟨insC X.S 0 x.m,Q,0,0,0,decide (insC X.S 0 x.m=0)⟩
 else if x.kind=2 then .code (tFC X.S 0 x.m.p)
 else .code (prC X.S 0 x.m.p x.m.r)
def chN (X:Spc) (x:Sx):Spc:=
 if X.busy=E then X
 else if x.kind=1 then{X with S:=insS X.S 0 x.m}
 else if x.kind=2 then(if tFC X.S 0 x.m.p=0 then X.post (rmR X.S 0 x.m.p).1 (tFM X.S 0 x.m.p) (rmR X.S 0 x.m.p).2 else X)
 else if prC X.S 0 x.m.p x.m.r=0 then X.post (prS X.S 0 x.m.p x.m.r) (prM X.S 0 x.m.p x.m.r) []else X
def akE (X:Spc) (k:Int):Ev:=
 if X.W.getD k.toNat Q=Q then .code 9
 else if (X.W.set k.toNat Q).any id=E then .code 0 else⟨0,Q,0,0,0,E⟩
def akN (X:Spc) (k:Int):Spc:=
 if X.W.getD k.toNat Q=Q then X
 else if (X.W.set k.toNat Q).any id=E then⟨X.S,X.C.set k.toNat ((X.at' k).told 0 X.T),X.G,X.T,X.W.set k.toNat Q⟩
 else⟨gives X.G X.S,X.C.set k.toNat ((X.at' k).told 0 X.T),[],X.T,X.W.set k.toNat Q⟩
def goE (X:Spc) (x:Sx):Ev:=
 if 1<=x.kind/\x.kind<=3 then X.chE x
 else if x.kind<1\/7<x.kind then .code 2
 else if x.core<0\/(X.C.length:Int)<=x.core then .code 1
 else if x.kind=4 then((X.at' x.core).bgT x.q x.k x.u).ev
 else if x.kind=5 then((X.at' x.core).stT X.S 0).ev
 else if x.kind=6 then X.akE x.core
 else if (X.at' x.core).L=[]then .code 9 else .code 0
def goN (X:Spc) (x:Sx):Spc:=
 if 1<=x.kind/\x.kind<=3 then X.chN x
 else if x.kind<1\/7<x.kind then X
 else if x.core<0\/(X.C.length:Int)<=x.core then X
 else if x.kind=4 then{X with C:=X.C.set x.core.toNat ((X.at' x.core).bgN 0 x.q x.k x.u)}
 else if x.kind=5 then{X with S:=(X.at' x.core).stS X.S 0,C:=X.C.set x.core.toNat ((X.at' x.core).stN X.S 0)}
 else if x.kind=6 then X.akN x.core
 else{X with C:=X.C.set x.core.toNat (X.at' x.core).yhc}
end Spc
section
variable {S:Fs} {G:List Int} {L:List Mp}
end
end Pg
namespace Pg
theorem yia {α:Type} {l:List α} {k:Nat} (h:k<l.length) (d:α):l.getD k d ∈ l:=by
 simp[List.getD,h]
theorem set_getD {α:Type} {l:List α} {k:Nat} (hk:k<l.length) (x d:α) (j:Nat):(l.set k x).getD j d=if j=k then x else l.getD j d:=by
 by_cases e:j=k
 ·subst e
  simp[List.getD,hk]
 ·rw[if_neg e]
  simp[List.getD,List.getElem?_set_ne (fun h=>e h.symm)]
section
variable {X:Spc} {L L0:List Mp}
theorem yig (W:List Bool) (k:Nat) (hk:k<W.length):(W.map fun _=>E).getD k Q=E:=by simp[List.getD,hk]
theorem yhn {W:List Bool} (h:1<=W.length):(W.map fun _=>E).any id=E:=by
 cases W with
 | nil=>simp at h
 | cons a r=>simp
end
section
variable {X:Spc} {L L0:List Mp}
theorem set_same {α:Type} {l:List α} {k:Nat} (hk:k<l.length) (d:α):l.set k (l.getD k d)=l:=by
 have:l.getD k d=l[k]:=by simp[List.getD,hk]
 rw[this];exact List.set_getElem_self hk
end
end Pg
end
section
namespace Pg
section
variable {X:Spc} {L L0:List Mp}
end
end Pg
namespace Pg
section
variable {X X0:Spc} {L L0:List Mp}
end
end Pg
namespace Pg
structure Tms where
 L:List (List Mp)
 fl:Nat
namespace Tms
end Tms
section
variable {X:Spc} {L L0:List Mp} {T:Tms}
end
end Pg
set_option maxRecDepth 100000
namespace Pg
def Spc.maps (X:Spc):List Mp:=if (thr X.S zW 3 0 0).2=0 then zM (thr X.S zW 3 0 0).1 else []
def Spc.tabs (X:Spc):List Int:=if (thr X.S zW 3 0 0).2=0 then 0::zU (thr X.S zW 3 0 0).1 else []
def bgX:Spc:=Spc.new 1 4
def bg1:Sx:=⟨1,0,⟨5,0,9,1⟩,0,0,Q⟩
def bg2:Sx:=⟨2,0,⟨5,0,0,0⟩,0,0,Q⟩
def bg3:Sx:=⟨6,0,⟨0,0,0,0⟩,0,0,Q⟩
theorem bg_free:bgX.S.free=3:=by decide
theorem bg_map:bgX.goE bg1=⟨0,Q,0,0,0,E⟩:=by kernel_rfl
theorem bg_none:(bgX.goN bg1).S.free=0:=by kernel_rfl
theorem bg_un:(bgX.goN bg1).goE bg2= .code 0:=by kernel_rfl
theorem bg_ack:((bgX.goN bg1).goN bg2).goE bg3=⟨0,Q,0,0,0,E⟩:=by kernel_rfl
theorem bg_back:(((bgX.goN bg1).goN bg2).goN bg3).S.free=3:=by kernel_rfl
theorem bg_maps:(((bgX.goN bg1).goN bg2).goN bg3).maps=[]:=by kernel_rfl
end Pg
end
section
open Go.Sort
attribute [local go_sem] Loose.gent
theorem vI (s:Pg.Sp) (hl:s.level<4) (ha:s.ahead<4096) (w:K):
 kQ y 115 #[s.val] w fun e w'=>e=kS s.mp.val/\Below w.heap.size w w':=by
 obtain⟨st,sp,sl,sa,⟨et,el,er,eu,ed,ef⟩⟩:=s;have hs:=Pg.ygV (sl:Int);simp only at hl ha;have HM:=yaJ et el er eu ed ef (sl:Int) ((sa:Int)*Pg.span (sl:Int));rw[Pg.yh2 ⟨et,el,er,eu,ed,ef⟩]at HM;have HE:O ((⟨st,sp,sl,sa,⟨et,el,er,eu,ed,ef⟩⟩:Pg.Sp).mp=Pg.En.map ⟨et,el,er,eu,ed,ef⟩ (sl:Int) ((sa:Int)*Pg.span (sl:Int))):=rfl;rw[HE.out]
 have hmul:IntKind.i64.wrap ((sa:Int)*Pg.span (sl:Int))=(sa:Int)*Pg.span (sl:Int):=by
  have h1:(sa:Int)*Pg.span (sl:Int)<=4096*64:=Int.mul_le_mul (by omega) (by omega) (by omega) (by omega);have h2:0<=(sa:Int)*Pg.span (sl:Int):=Int.mul_nonneg (by omega) (by omega);exact qc (by omega) (by omega)
 generalize Pg.En.map ⟨et,el,er,eu,ed,ef⟩ (sl:Int) ((sa:Int)*Pg.span (sl:Int))=m at*;obtain⟨mp,ms,mf,mr⟩:=m;simp only[Pg.Sp.val,Pg.Mp.val]at HM ⊢;clear HE;obtain⟨W,hW⟩:∃W,W=(w.alloc (kJ #[N R st,N R (sp:Int),N R (sl:Int),N R (sa:Int),Z et,Z el,N R er,Z eu,Z ed,N R ef] 198)).alloc (kJ #[N R 0,N R 0,N R 0,N R 0] 39):=⟨_,rfl⟩
 have hB:Below w.heap.size w W:=by rw[hW];exact zA (zA (zR w) _) _
 have y2:=A (show W.cell? ⟨w.heap.size,2,I⟩=P (N R (sl:Int)) by rw[hW];simp[go_sem]);have y3:=A (show W.cell? ⟨w.heap.size,3,I⟩=P (N R (sa:Int)) by rw[hW];simp[go_sem]);have y4:=A (show W.cell? ⟨w.heap.size,4,I⟩=P (Z et) by rw[hW];simp[go_sem]);have y5:=A (show W.cell? ⟨w.heap.size,5,I⟩=P (Z el) by rw[hW];simp[go_sem]);have y6:=A (show W.cell? ⟨w.heap.size,6,I⟩=P (N R er) by rw[hW];simp[go_sem]);have y7:=A (show W.cell? ⟨w.heap.size,7,I⟩=P (Z eu) by rw[hW];simp[go_sem]);have y8:=A (show W.cell? ⟨w.heap.size,8,I⟩=P (Z ed) by rw[hW];simp[go_sem]);have y9:=A (show W.cell? ⟨w.heap.size,9,I⟩=P (N R ef) by rw[hW];simp[go_sem])
 have cr:W.cell? ⟨w.heap.size+1,0,I⟩=P (N R 0)/\W.cell? ⟨w.heap.size+1,1,I⟩=P (N R 0)/\W.cell? ⟨w.heap.size+1,2,I⟩=P (N R 0)/\W.cell? ⟨w.heap.size+1,3,I⟩=P (N R 0):=by rw[hW];simp[go_sem]
 have fr:∀i,W.frozen? ⟨w.heap.size+1,i,I⟩=Q:=fun i=>by rw[hW];simp[go_sem]
 go_enter Tryz.func115,Tryz.ntmps115
 go_wp2_with fail
 rw[<-hW];clear hW;refine Loose.yg5 11 (by kernel_rfl) (by kernel_rfl) ?_;simp only[List.take_succ_cons,List.take_zero,List.drop_succ_cons,List.drop_zero]
 repeat (
  refine Loose.zS (fun k hk=> ?_)
  go_simp
  first
   | (refine hk _ ?_;clear hk k)
   | (apply Exists.intro
      refine⟨fun _=> ?_,hk _ ?_⟩
      (first
        | (go_at_call 153;exact Loose.ygB (xz _ _))
        | (go_at_call 152;exact Loose.calls (HM _)))
      clear hk k))
 refine Loose.ygs ?_;intro w' hb';have hlt:=H _ _ cr.1
 replace cr:=xc hb' cr
 have fr':∀i,w'.frozen? ⟨w.heap.size+1,i,I⟩=Q:=fun i=>by
  rw[hb'.frozen (p:=⟨w.heap.size+1,i,I⟩) hlt];exact fr i
 replace hB:=zT hB hb'
 clear hb' fr y2 y3 y4 y5 y6 y7 y8 y9
 go_wp2_with fail
 refine kN (v:= .agg #[N R mp,N R ms,N R mf,N R mr]) ?_ rfl ⟨rfl,?_⟩
 ·simp[results,Tryz.results115,go_sem,cr]
 ·exact(((hB.setCell (by simp) _).setCell (by simp) _).setCell (by simp) _).setCell (by simp) _
theorem ydQ {w0:K} {c:Nat} (s:Pg.Sp) (X:List Pg.Sp) (V:Nat->Prop) (w:K) (hl:s.level<4) (ha:s.ahead<4096) (hlen:X.length<4680)
 (hR:qh w0 c 39 4 (fun X=>(Pg.zM X).length) (fun X=>zC (Pg.zM X)) X V w):
 kQ y 114 #[s.val,kI (P ⟨c,0,I⟩)] w fun e w'=>e=kS (kF #[])/\∃V',qh w0 c 39 4 (fun X=>(Pg.zM X).length) (fun X=>zC (Pg.zM X)) (X++[s]) V' w'/\But V w w'/\∀k,V' k->V k\/w.heap.size<=k:=by
 have HT:O (Pg.zM (X++[s])=Pg.zM X++if s.e.l=E then [s.mp]else []):=by simp[O,Pg.zM]
 have HR:O _:=hR;have hml:=Pg.yg9 X;have HM:=vI s hl ha;have HS:O (s=s):=rfl;generalize hs:s.mp=m at*;clear hs HS;obtain⟨st,sp,sl,sa,⟨et,el,er,eu,ed,ef⟩⟩:=s;obtain⟨mp,ms,mf,mr⟩:=m;simp only[Pg.Sp.val,Pg.Mp.val]at HM ⊢;simp only at HT;cases el
 ·clear hR HM
  go_enter Tryz.func114,Tryz.ntmps114
  go_wp2_with fail
  go_end0
  exact⟨rfl,HR.out.stay (zA (zR w) _) (by rw[HT.out];simp) (by rw[HT.out];simp)⟩
 ·obtain⟨vb,hv,hV⟩:=hR.var
  obtain⟨q0,hq,hz0,hz1,hz2⟩:=info_parts yb4;have HVr:O _:=hv;have hfz:=hR.fz;have hw0:=hR.bel.size;have hcl:=hv.lb;have cc:=hv.cell;have hown:=hv.own;clear hR hv
  have hcw:c≠w.heap.size:=by omega
  go_enter Tryz.func114,Tryz.ntmps114
  go_wp2_with fail
  have hnews:∀(W:K) (j:Nat) (u:z),[kU R mp,N R ms,N R mf,N R mr][j]?=P u->(W.alloc (kJ #[N R mp,N R ms,N R mf,N R mr] 39)).cell? ((⟨W.heap.size,0,I⟩:Addr).add j)=P u:=fun W j u hu=>
   World.news_of_block (kZ W _) j u hu
  have hone:∀u,u ∈ [kU R mp,N R ms,N R mf,N R mr]->u.oneCell'=E:=by
   intro u hu;simp at hu;rcases hu with rfl|rfl|rfl|rfl<;>rfl
  have hm1:(Pg.zM X).length+1<=maxLen:=by unfold maxLen;omega
  have hm2:((Pg.zM X).length+1)*32<=140737488355328:=by omega
  go_region_law (first
   | (go_simp;go_at_call 115;refine(HM _).mono ?_;rintro e w2 ⟨rfl,hb2⟩;have HB2:O (Below w.heap.size w w2):=zT ((zA (zR w) _).drew) hb2;have V2:O _:=HVr.out.grow HB2.out;have cc2:=V2.out.cell;have cl2:=V2.out.lb;clear hb2)
   | (refine step_append_lies _ rfl (.tmp 6) (.tmp 9) 44 rfl w0.heap.size 39 q0 _ 4 32 Tryz.underlying44 hq hz0 hz1 hz2 rfl (by decide) vb _ _ (by simp[Act.eval]) (V2.out.own.alloc _) ⟨w2.heap.size,0,I⟩ 1 1 [N R mp,N R ms,N R mf,N R mr] (by simp[Act.eval]) rfl (hnews w2) hone (by decide) hm1 hm2 (kY hw0 (kY HB2.out.size (by simp))) (w2.heap.size+1) (by simp) ?_;intro g cap w3 hown3 hgrow hat hlt3;have hbA:O _:=zA HB2.out (kJ #[N R mp,N R ms,N R mf,N R mr] 39);have HA:O (vb.ownBlock=P g\/g=(w2.alloc (kJ #[N R mp,N R ms,N R mf,N R mr] 39)).heap.size):=(by simpa[O]using hat);have p1:=(HVr.out.push hbA.out hgrow hown3 HA.out).1;have kf:w3.frozen? ⟨c,0,I⟩=Q:=((HVr.out.push hbA.out hgrow hown3 HA.out).2.1 0).trans (hfz 0);have HO3:O _:=hown3;have HG3:O _:=hgrow;clear hown3 hgrow hat hlt3))
  all_goals
   have fin:O _:=HR.out.push (X':=X++[⟨st,sp,sl,sa,⟨et,E,er,eu,ed,ef⟩⟩]) HVr.out hV hbA.out HG3.out HO3.out HA.out (by rw[HT.out];simp) (by rw[HT.out,if_true,jT])
   go_wp2_with fail
   go_end0
   exact⟨rfl,fin.out⟩
theorem ybg:∀args w,(callFunc 114 args).run y w= .ok (.enter 114 args) w:=fun args w=>by simp[go_sem]
theorem yc3 {b:Nat} {S:Pg.Fs} {F:Nat->Prop} {w0:K} {c:Nat} (h:zd w0 b S F):
 ybK b S F 113 114 #[] #[kI (P ⟨c,0,I⟩)] Pg.zW (qh w0 c 39 4 (fun X=>(Pg.zM X).length) (fun X=>zC (Pg.zM X))):=
 ⟨qp,ybg,fun _ _ _ hR=>hR.fr h,fun _ _ _ hR _ hk=>hR.lt hk,fun _ _ _ _ hR hb=>hR.grow hb,
  fun i lv _ _ w _ _ _=>zX (qU (i:Int) (lv:Int) w),fun s X V w _ h1 h2 hl hR=>ydQ s X V w h1 h2 hl hR⟩
theorem yeG {w:K} {base:Nat} {e:TypeId} {size n cap:Nat} {ad:Option Addr} {xs:List z} (h:w.ownsRow base e size (Y ad n cap) n xs):n<=cap:=by
 rcases h.2 with ⟨e,_⟩|⟨g,c,cur,e,_,_,hle,_⟩
 ·cases e;exact kC _
 ·cases e;exact hle
theorem yco {b:Nat} {S:Pg.Fs} {F:Nat->Prop} (t:Int) (w:K) (h:zd w b S F):
 kQ y 65 #[kI (P ⟨b,0,I⟩),N R t] w fun e w'=>∃ad cap L,e=kS (kF #[Y ad L.length cap,N R (Pg.thr S Pg.zW 3 t 0).2])/\L=(if (Pg.thr S Pg.zW 3 t 0).2=0 then t::Pg.zU (Pg.thr S Pg.zW 3 t 0).1 else [])/\zh w' ad L/\L.length<=cap/\Below w.heap.size w w':=by
 obtain⟨W,hW⟩:∃W,W=(w.alloc (kJ #[N R t] 3)).alloc (kJ #[Y (P ⟨w.heap.size,0,I⟩) 1 1] 45):=⟨_,rfl⟩
 have hB:Below w.heap.size w W:=by rw[hW];exact zA (zA (zR w) _) _
 have hK:qh w (w.heap.size+1) 3 1 (fun X=>(t::Pg.zU X).length) (fun X=>zr (t::Pg.zU X)) [] (fun k=>k=w.heap.size+1\/(kP (P ⟨w.heap.size,0,I⟩) 1 1).ownBlock=P k) W:=by
  refine⟨hB,by omega,fun o=>by rw[hW];simp[go_sem],Y (P ⟨w.heap.size,0,I⟩) 1 1,⟨by rw[hW];simp[go_sem],?_,by simp[U]⟩,rfl⟩;refine⟨by simp[zr,Pg.zU],.inr ⟨w.heap.size,1,#[N R t],rfl,kC _,?_,kC _,by decide,rfl,by simp[zr,Pg.zU]⟩⟩;rw[hW,Below.heap_alloc _ _ _ (by simp)];exact kZ w _
 have HC:O _:=yaL (ybE (c:=w.heap.size+1) (t:=t) h) t _ W hK;clear h hK hB;generalize Pg.thr S Pg.zW 3 t 0=th at*
 go_enter Tryz.func65,Tryz.ntmps65
 go_wp2_with fail
 rw[<-hW];refine Calls.mono HC.out ?_;rintro e w1 ⟨rfl,V1,hK1,hb1,hn1⟩;clear hb1 hn1;have HB:O (Below w.heap.size w w1):=hK1.bel;obtain⟨vb,hv,_⟩:=hK1.var;obtain⟨ad,cap,rfl⟩:=zF hv.own
 by_cases hc:th.2=0
 ·have hcb:(th.2 !=0)=Q:=by simp[hc]
  have cc:=hv.cell;have HI:O _:=qb hv.own;have HCap:O _:=yeG hv.own;have HC0:O _:=hc;clear hv hK1 hc
  go_wp2_with fail
  go_ret2
  exact⟨ad,cap,t::Pg.zU th.1,rfl,by first|rw[if_pos HC0.out]|rfl,HI.out,HCap.out,HB.out⟩
 ·have hcb:(th.2 !=0)=E:=by simp[hc]
  have HC0:O _:=hc;clear hv hK1 hc
  go_wp2_with fail
  go_ret2
  exact⟨I,0,[],rfl,by first|rw[if_neg HC0.out]|rfl,fun j hj=>absurd hj (by simp),by simp,HB.out⟩
theorem yeH {w:K} {base:Nat} {e:TypeId} {size n cap:Nat} {ad:Option Addr} {xs:List z} (h:w.ownsRow base e size (Y ad n cap) n xs):∀g,ad=P ⟨g,0,I⟩->base<=g:=by
 intro g hg;rcases h.2 with ⟨e,_⟩|⟨g',c,cur,e,hb,_⟩
 ·cases e;cases hg
 ·cases e;cases hg;exact hb
theorem yec {b:Nat} {S:Pg.Fs} {F:Nat->Prop} (t:Int) (w:K) (h:zd w b S F):
 kQ y 64 #[kI (P ⟨b,0,I⟩),N R t] w fun e w'=>∃ad cap L,e=kS (kF #[Y ad L.length cap,N R (Pg.thr S Pg.zW 3 t 0).2])/\L=(if (Pg.thr S Pg.zW 3 t 0).2=0 then Pg.zM (Pg.thr S Pg.zW 3 t 0).1 else [])/\xx w' ad L/\(∀g,ad=P ⟨g,0,I⟩->w.heap.size<=g)/\Below w.heap.size w w':=by
 obtain⟨W,hW⟩:∃W,W=w.alloc (kJ #[Y I 0 0] 44):=⟨_,rfl⟩
 have hB:Below w.heap.size w W:=by rw[hW];exact zA (zR w) _
 have hK:qh w w.heap.size 39 4 (fun X=>(Pg.zM X).length) (fun X=>zC (Pg.zM X)) [] (fun k=>k=w.heap.size\/(kP I 0 0).ownBlock=P k) W:=
  ⟨hB,kC _,fun o=>by rw[hW];simp[go_sem],Y I 0 0,⟨by rw[hW];simp[go_sem],M _ _ _ _,by simp[U]⟩,rfl⟩
 have HC:O _:=yaL (yc3 (c:=w.heap.size) h) t _ W hK;clear h hK hB;generalize Pg.thr S Pg.zW 3 t 0=th at*
 go_enter Tryz.func64,Tryz.ntmps64
 go_wp2_with fail
 rw[<-hW];refine Calls.mono HC.out ?_;rintro e w1 ⟨rfl,V1,hK1,hb1,hn1⟩;clear hb1 hn1;have HB:O (Below w.heap.size w w1):=hK1.bel;obtain⟨vb,hv,_⟩:=hK1.var;obtain⟨ad,cap,rfl⟩:=zF hv.own
 by_cases hc:th.2=0
 ·have hcb:(th.2 !=0)=Q:=by simp[hc]
  have cc:=hv.cell;have HI:O (xx w1 ad (Pg.zM th.1)):=vD hv.own;have HNw:O _:=yeH hv.own;have HC0:O _:=hc;clear hv hK1 hc
  go_wp2_with fail
  go_ret2
  exact⟨ad,cap,Pg.zM th.1,rfl,by first|rw[if_pos HC0.out]|rfl,HI.out,HNw.out,HB.out⟩
 ·have hcb:(th.2 !=0)=E:=by simp[hc]
  have HC0:O _:=hc;clear hv hK1 hc
  go_wp2_with fail
  go_ret2
  exact⟨I,0,[],rfl,by first|rw[if_neg HC0.out]|rfl,fun j hj=>absurd hj (by simp),fun g hg=>(by cases hg),HB.out⟩
end
end Go.Proofs.YtdphiompijbelaaGreat
