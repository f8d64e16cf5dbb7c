import Derived.Test.YtdphiompijbelaaGreatLineRow
import Derived.Test.YtdphiompijbelaaGreatLooseT
import Derived.Deep.RegionLaw
set_option linter.all false
set_option maxRecDepth 100000
open Nat renaming le_refl->z,le_trans->kI
open Go.Ending renaming returned->y
open Go.Obj renaming cells->A
open Go.Proofs.Tryz renaming prog->M
open Go renaming World->Z
open Bool renaming false->Q,true->E
open Go.Value renaming int->R,slice->N,bool->Y,ownBlock->T,pointer->D,slice->H,tuple->kP,int->kC
open Go.IntKind renaming i64->C
open Go.World renaming cell?_setCell_other->J,cell?_of_block->B,ownsRow_nil->U,ownsRow->O,block_lt_of_cell?->K,cell?_setCell_same->q,frozen?_of_block->kJ,frozen?_setCell->kS
open Option renaming none->I,some->P
set_option maxHeartbeats 1000000
namespace Go.Proofs.YtdphiompijbelaaGreat
open Go.RowKit Go.Sort
theorem yeH {w:Z} {base base' size n:Nat} {e:TypeId} {v:Value} {xs:List Value} (h:w.ownsRow base e size v n xs) (hb:base'<=base):w.ownsRow base' e size v n xs:=
 ⟨h.1,h.2.imp id fun⟨g,cap,cur,e,k,r⟩=>⟨g,cap,cur,e,kI hb k,r⟩⟩
def yhm (X:List Pg.Sp):Int:=match X.getLast? with
 | some s=>(s.level:Int)
 | none=>0
def yhk (X:List Pg.Sp):Pg.En:=match X.getLast? with
 | some s=>s.e
 | none=>Pg.En.zero
def tabs (X:List Pg.Sp):List Int:=X.map fun s=>s.table
def qG (X:List Pg.Sp):List Int:=X.map fun s=>(s.place:Int)
theorem ja (X:List Pg.Sp) (s:Pg.Sp):yhm (X++[s])=s.level:=by simp[yhm]
theorem qZ (X:List Pg.Sp) (s:Pg.Sp):yhk (X++[s])=s.e:=by simp[yhk]
theorem yca (X:List Pg.Sp) (s:Pg.Sp):xA (tabs (X++[s]))=xA (tabs X)++[R C s.table]:=by simp[tabs,xA]
theorem yeI (X:List Pg.Sp) (s:Pg.Sp):xA (qG (X++[s]))=xA (qG X)++[R C (s.place:Int)]:=by simp[qG,xA]
theorem xy (X:List Pg.Sp):(tabs X).length=X.length:=by simp[tabs]
theorem vo (X:List Pg.Sp):(qG X).length=X.length:=by simp[qG]
structure qq (c:Nat) (lv:Int) (e:Pg.En) (v1 v2:Value) (w:Z):Prop where
 c0:w.cell? ⟨c,0,I⟩=P (R C lv)
 c1:w.cell? ⟨c,1,I⟩=P (Y e.t)
 c2:w.cell? ⟨c,2,I⟩=P (Y e.l)
 c3:w.cell? ⟨c,3,I⟩=P (R C e.r)
 c4:w.cell? ⟨c,4,I⟩=P (Y e.u)
 c5:w.cell? ⟨c,5,I⟩=P (Y e.d)
 c6:w.cell? ⟨c,6,I⟩=P (R C e.f)
 c7:w.cell? ⟨c,7,I⟩=P v1
 c8:w.cell? ⟨c,8,I⟩=P v2
 fz:∀o,w.frozen? ⟨c,o,I⟩=Q
theorem qq.lb {c:Nat} {lv:Int} {e:Pg.En} {v1 v2:Value} {w:Z} (h:qq c lv e v1 v2 w):c<w.heap.size:=K _ _ h.c0
theorem qq.of_block {c:Nat} {lv:Int} {e:Pg.En} {v1 v2:Value} {w w':Z} (h:qq c lv e v1 v2 w) (hk:w'.heap[c]?=w.heap[c]?):qq c lv e v1 v2 w':=
 ⟨(B hk).trans h.c0,(B hk).trans h.c1,(B hk).trans h.c2,(B hk).trans h.c3,(B hk).trans h.c4,(B hk).trans h.c5,(B hk).trans h.c6,(B hk).trans h.c7,(B hk).trans h.c8,fun o=>(kJ hk).trans (h.fz o)⟩
structure vq (w0:Z) (bp c:Nat) (p:Int) (X:List Pg.Sp) (V:Nat->Prop) (w:Z):Prop where
 bel:Below w0.heap.size w0 w
 hi:w0.heap.size<=c
 pc:w.cell? ⟨bp,0,I⟩=P (R C p)
 pb:bp<c
 var:∃v1 v2,qq c (yhm X) (yhk X) v1 v2 w/\w.ownsRow (c+1) 3 1 v1 X.length (xA (tabs X))/\w.ownsRow (c+1) 3 1 v2 X.length (xA (qG X))/\(∀k,v1.ownBlock=P k->v2.ownBlock≠P k)/\V=fun k=>k=c\/v1.ownBlock=P k\/v2.ownBlock=P k
namespace vq
variable {w0:Z} {bp c:Nat} {p:Int} {X X':List Pg.Sp} {V:Nat->Prop} {w w':Z}
theorem grow (h:vq w0 bp c p X V w) (hb:Below w.heap.size w w'):vq w0 bp c p X V w':=by
 obtain⟨h1,h2,h3,h4,v1,v2,hs,o1,o2,hne,rfl⟩:=h;exact⟨h1.trans (hb.mono h1.size),h2,cell_later hb h3,h4,v1,v2,hs.of_block (hb.block c hs.lb),zm o1 hb,zm o2 hb,hne,rfl⟩
theorem lt (h:vq w0 bp c p X V w) {k:Nat} (hk:V k):k<w.heap.size:=by
 obtain⟨h1,h2,h3,h4,v1,v2,hs,o1,o2,hne,rfl⟩:=h;rcases hk with rfl|hk|hk
 ·exact hs.lb
 ·exact(o1.lt k hk).2
 ·exact(o2.lt k hk).2
theorem fr {b:Nat} {S:Pg.Fs} {F:Nat->Prop} (hf:zh w0 b S F) (h:vq w0 bp c p X V w):zh w b S F:=
 hf.keep (G:=fun k=>w0.heap.size<=k) (w':=w) ⟨h.bel.os,h.bel.tape,h.bel.output,h.bel.size,fun k hk _=>h.bel.block k hk⟩ (fun k hk=>by have:=hf.lt hk;omega)
end vq
theorem qq.set7 {c:Nat} {lv:Int} {e:Pg.En} {v1 v2:Value} {w:Z} (h:qq c lv e v1 v2 w) (v:Value):qq c lv e v v2 (w.setCell ⟨c,7,I⟩ v):=
 ⟨(J _ _ _ _ (by simp)).trans h.c0,(J _ _ _ _ (by simp)).trans h.c1,(J _ _ _ _ (by simp)).trans h.c2,(J _ _ _ _ (by simp)).trans h.c3,(J _ _ _ _ (by simp)).trans h.c4,(J _ _ _ _ (by simp)).trans h.c5,(J _ _ _ _ (by simp)).trans h.c6,q _ _ _ h.c7,(J _ _ _ _ (by simp)).trans h.c8,fun o=>by rw[kS];exact h.fz o⟩
theorem qq.set8 {c:Nat} {lv:Int} {e:Pg.En} {v1 v2:Value} {w:Z} (h:qq c lv e v1 v2 w) (v:Value):qq c lv e v1 v (w.setCell ⟨c,8,I⟩ v):=
 ⟨(J _ _ _ _ (by simp)).trans h.c0,(J _ _ _ _ (by simp)).trans h.c1,(J _ _ _ _ (by simp)).trans h.c2,(J _ _ _ _ (by simp)).trans h.c3,(J _ _ _ _ (by simp)).trans h.c4,(J _ _ _ _ (by simp)).trans h.c5,(J _ _ _ _ (by simp)).trans h.c6,(J _ _ _ _ (by simp)).trans h.c7,q _ _ _ h.c8,fun o=>by rw[kS];exact h.fz o⟩
structure ygu (c:Nat) (v:Value) (W w3:Z) (g:Nat):Prop where
 but:But (fun k=>v.ownBlock=P k) W w3
 far:∀k,v.ownBlock=P k->c<k
 gc:c<g
 gl:g<w3.heap.size
 at':v.ownBlock=P g\/W.heap.size<=g
theorem ygh {c:Nat} {e:TypeId} {size n g:Nat} {v:Value} {xs:List Value} {W w3:Z} {o:Obj} (hl:W.ownsRow (c+1) e size v n xs) (hg:(W.alloc o).grownBy w3 v.ownBlock) (hat:v.ownBlock=P g\/g=W.heap.size+1) (hc:c<W.heap.size) (hlt:g<w3.heap.size):ygu c v W w3 g:=by
 refine⟨((But.refl _ W).alloc o).grown hg fun k hk=> .inr hk,fun k hk=>(hl.lt k hk).1,?_,hlt,hat.imp id fun h=>by omega⟩;rcases hat with h|h
 ·exact(hl.lt g h).1
 ·omega
theorem yd4 {bp:Nat} (i lv:Nat) (p:Int) (hp:Pg.below p 4096=E) (hl:lv<4) (w:Z) (hc:w.cell? ⟨bp,0,I⟩=P (R C p)):
 Calls M 214 #[R C (i:Int),R C (lv:Int),D (P ⟨bp,0,I⟩)] w fun e w'=>e=y (Y (Pg.onW p i lv))/\w'=w:=by
 have HI:=vD p (lv:Int);rw[Pg.yhu hp hl]at HI
 have HE:Hid (((i:Int)==((Pg.ix p lv:Nat):Int))=Pg.onW p i lv):=by
  rw[Hid,Bool.eq_iff_iff];simp only[Pg.onW,beq_iff_eq,decide_eq_true_eq];omega
 go_enter Tryz.func214,Tryz.ntmps214
 go_wp2_with fail
 refine(HI _).mono ?_;rintro e w1 ⟨rfl,rfl⟩
 go_wp2_with fail
 go_ret
 exact⟨xx HE.out,rfl⟩
theorem yer {w0:Z} {bp c:Nat} {p:Int} (s:Pg.Sp) (X:List Pg.Sp) (V:Nat->Prop) (w:Z) (hlen:X.length<4680) (hR:vq w0 bp c p X V w):
 Calls M 215 #[s.val,D (P ⟨c,0,I⟩)] w fun e w'=>e=y (kP #[])/\∃V',vq w0 bp c p (X++[s]) V' w'/\But V w w'/\∀k,V' k->V k\/w.heap.size<=k:=by
 have HR:Hid _:=hR;obtain⟨hbel,hhi,hpc,hpb,v1,v2,hs,o1,o2,hne,hV⟩:=hR;have hcl:=hs.lb;obtain⟨c0,c1,c2,c3,c4,c5,c6,c7,c8,hfz⟩:=hs;obtain⟨q0,hq,hz0,hz1,hz2⟩:=info_parts qY;obtain⟨st,sp,sl,sa,⟨et,el,er,eu,ed,ef⟩⟩:=s;simp only[Pg.Sp.val]
 have hcw:c≠w.heap.size:=by omega
 have hwc:w.heap.size≠c:=by omega
 generalize yhm X=xl at*;generalize yhk X=xe at*;clear hpc;have HO1:Hid (w.ownsRow (c+1) 3 1 v1 X.length (xA (tabs X))):=o1;have HO2:Hid (w.ownsRow (c+1) 3 1 v2 X.length (xA (qG X))):=o2;have HN:Hid _:=hne;clear hne o1 o2 hbel;obtain⟨W2,hW2⟩:∃W2,W2=((((((((w.setCell ⟨c,0,I⟩ (R C (sl:Int))).setCell ⟨c,1,I⟩ (Y et)).setCell ⟨c,2,I⟩ (Y el)).setCell ⟨c,3,I⟩ (R C er)).setCell ⟨c,4,I⟩ (Y eu)).setCell ⟨c,5,I⟩ (Y ed)).setCell ⟨c,6,I⟩ (R C ef)).alloc (A #[R C st,R C (sp:Int),R C (sl:Int),R C (sa:Int),Y et,Y el,R C er,Y eu,Y ed,R C ef] 198)).drew:=⟨_,rfl⟩
 have hS2:qq c (sl:Int) ⟨et,el,er,eu,ed,ef⟩ v1 v2 W2:=by
  rw[hW2]
  refine⟨?_,?_,?_,?_,?_,?_,?_,?_,?_,fun o=> ?_⟩<;>simp[go_sem,c0,c1,c2,c3,c4,c5,c6,c7,c8,hfz,hcl]
 have hB2:But (fun k=>k=c) w W2:=by
  rw[hW2];exact(((((((((But.refl (fun k=>k=c) w).setCell (a:=⟨c,0,I⟩) (.inr rfl) _).setCell (a:=⟨c,1,I⟩) (.inr rfl) _).setCell (a:=⟨c,2,I⟩) (.inr rfl) _).setCell (a:=⟨c,3,I⟩) (.inr rfl) _).setCell (a:=⟨c,4,I⟩) (.inr rfl) _).setCell (a:=⟨c,5,I⟩) (.inr rfl) _).setCell (a:=⟨c,6,I⟩) (.inr rfl) _).alloc _).drew
 have x0:W2.cell? ⟨w.heap.size,0,I⟩=P (R C st):=by rw[hW2];simp[go_sem]
 have x1:W2.cell? ⟨w.heap.size,1,I⟩=P (R C (sp:Int)):=by rw[hW2];simp[go_sem]
 have HS2:Hid _:=hS2;have HB2:Hid _:=hB2;have HX1:Hid _:=x1
 have hown:W2.ownsRow (c+1) 3 1 v1 X.length (xA (tabs X)):=zc HO1.out hB2 fun k hk e=>by have:=(HO1.out.lt k hk).1;omega
 have hown2:W2.ownsRow (c+1) 3 1 v2 X.length (xA (qG X)):=zc HO2.out hB2 fun k hk e=>by have:=(HO2.out.lt k hk).1;omega
 have hl2:=hS2.lb;have hlw:w.heap.size<W2.heap.size:=K _ _ x0;have d7:=hS2.c7;have hf2:=hS2.fz;have HOW2:Hid (W2.ownsRow (c+1) 3 1 v2 X.length (xA (qG X))):=hown2;clear hS2 hB2 hown2
 go_enter Tryz.func215,Tryz.ntmps215
 go_wp2_with fail
 go_region
 rw[<-hW2];clear hW2 c0 c1 c2 c3 c4 c5 c6 c7 c8 hfz
 go_wp2_with (first
  | (at_builtin;refine wpList_append_lies _ rfl _ _ 45 rfl (c+1) 3 q0 (R C 0) 1 8 Tryz.underlying45 hq hz0 hz1 hz2 rfl (by decide) _ _ _ rfl (hown.alloc _) ⟨W2.heap.size,0,I⟩ 1 1 [R C st] rfl rfl ?c1 ?c2 (by decide) ?c3 ?c4 ?c5 (W2.heap.size+1) (by simp) ?_))
 case c1=>
  intro j u hj
  match j,hj with
  | 0,hj=>simp at hj;subst hj;simp[Addr.add,go_sem]
 case c2=>intro u hu;simp at hu;subst hu;rfl
 case c3=>unfold maxLen;omega
 case c4=>omega
 case c5=>simp;omega
 intro g cap w3 hown3 hgrow hat hlt3;have G3:Hid _:=ygh hown hgrow hat hl2 hlt3
 have hblk:w3.heap[c]?=W2.heap[c]?:=G3.out.but.block c hl2 fun e=>by have:=G3.out.far c e;omega
 have S3:Hid _:=HS2.out.of_block hblk;have S4:Hid _:=S3.out.set7 (N (P ⟨g,0,I⟩) (X.length+1) cap);have e7:=S3.out.c7;have ef7:=S3.out.fz 7
 have B4:Hid (But (fun k=>k=c\/v1.ownBlock=P k) W2 (w3.setCell ⟨c,7,I⟩ (N (P ⟨g,0,I⟩) (X.length+1) cap))):=
  (G3.out.but.mono fun _ _ h=> .inr h).setCell (.inr (.inl rfl)) _
 have O4:Hid ((w3.setCell ⟨c,7,I⟩ (N (P ⟨g,0,I⟩) (X.length+1) cap)).ownsRow (c+1) 3 1 (N (P ⟨g,0,I⟩) (X.length+1) cap) (X.length+1) (xA (tabs X)++[R C st])):=
  zb hown3 fun k hk=>Below.heap_setCell _ _ _ _ (fun e=>by have e1:g=k:=(by simpa[T]using hk);have:=G3.out.gc;have e2:k=c:=e;omega)
 have hown4:(w3.setCell ⟨c,7,I⟩ (N (P ⟨g,0,I⟩) (X.length+1) cap)).ownsRow (c+1) 3 1 v2 X.length (xA (qG X)):=
  zc HOW2.out B4.out fun k hk e=>by
   rcases e with e|e
   ·have:=(O.lt HOW2.out k hk).1;omega
   ·exact HN.out k e hk
 have hs3:=G3.out.but.size;have e8:=S3.out.c8;have ef8:=S3.out.fz 8
 have hv1:v1.ownBlock≠P w.heap.size:=fun e=>by have:=(O.lt HO1.out _ e).2;omega
 have y1:w3.cell? ⟨w.heap.size,1,I⟩=P (R C (sp:Int)):=(G3.out.but.cell (a:=⟨w.heap.size,1,I⟩) hlw hv1).trans HX1.out
 have hl3:c<w3.heap.size:=by omega
 have hl4:w.heap.size<w3.heap.size:=by omega
 have hsz4:(w3.setCell ⟨c,7,I⟩ (N (P ⟨g,0,I⟩) (X.length+1) cap)).heap.size=w3.heap.size:=by simp
 clear hown hown3 hgrow hat hlt3 hblk x0 x1 d7 hf2
 go_wp2_with (first
  | (at_builtin;refine wpList_append_lies _ rfl _ _ 45 rfl (c+1) 3 q0 (R C 0) 1 8 Tryz.underlying45 hq hz0 hz1 hz2 rfl (by decide) _ _ _ rfl (hown4.alloc _) ⟨w3.heap.size,0,I⟩ 1 1 [R C (sp:Int)] rfl rfl ?d1 ?d2 (by decide) ?d3 ?d4 ?d5 (w3.heap.size+1) (by simp) ?_))
 case d1=>
  intro j u hj
  match j,hj with
  | 0,hj=>simp at hj;subst hj;simp[Addr.add,go_sem]
 case d2=>intro u hu;simp at hu;subst hu;rfl
 case d3=>unfold maxLen;omega
 case d4=>omega
 case d5=>simp;omega
 intro g5 cap5 w5 hown5 hgrow5 hat5 hlt5;have G5:Hid _:=ygh hown4 hgrow5 (by simpa using hat5) (by simp;omega) hlt5
 have hblk:w5.heap[c]?=_:=G5.out.but.block c (by simp;omega) fun e=>by have:=G5.out.far c e;omega
 have S5:Hid _:=S4.out.of_block hblk;have S6:Hid _:=S5.out.set8 (N (P ⟨g5,0,I⟩) (X.length+1) cap5);have k8:=S5.out.c8;have kf8:=S5.out.fz 8
 have hgg:g≠g5:=by
  have h1:=G3.out.gl;rcases G5.out.at' with h5|h5
  ·rcases G3.out.at' with h3|h3
   ·intro e;exact HN.out g h3 (e▸h5)
   ·have:=(O.lt HOW2.out g5 h5).2;omega
  ·rw[hsz4]at h5;omega
 have O6:Hid ((w5.setCell ⟨c,8,I⟩ (N (P ⟨g5,0,I⟩) (X.length+1) cap5)).ownsRow (c+1) 3 1 (N (P ⟨g5,0,I⟩) (X.length+1) cap5) (X.length+1) (xA (qG X)++[R C (sp:Int)])):=
  zb hown5 fun k hk=>Below.heap_setCell _ _ _ _ (fun e=>by have e1:g5=k:=(by simpa[T]using hk);have:=G5.out.gc;have e2:k=c:=e;omega)
 have B6:Hid (But (fun k=>k=c\/v2.ownBlock=P k) (w3.setCell ⟨c,7,I⟩ (N (P ⟨g,0,I⟩) (X.length+1) cap)) (w5.setCell ⟨c,8,I⟩ (N (P ⟨g5,0,I⟩) (X.length+1) cap5))):=
  (G5.out.but.mono fun _ _ h=> .inr h).setCell (.inr (.inl rfl)) _
 have O7:Hid ((w5.setCell ⟨c,8,I⟩ (N (P ⟨g5,0,I⟩) (X.length+1) cap5)).ownsRow (c+1) 3 1 (N (P ⟨g,0,I⟩) (X.length+1) cap) (X.length+1) (xA (tabs X)++[R C st])):=
  zc O4.out B6.out fun k hk e=>by
   have e1:g=k:=by simpa[T]using hk
   have:=G3.out.gc;rcases e with e|e
   ·omega
   ·rcases G3.out.at' with h3|h3
    ·exact HN.out g h3 (e1▸e)
    ·have:=(O.lt HOW2.out k e).2;omega
 have fin:Hid (∃V',vq w0 bp c p (X++[⟨st,sp,sl,sa,⟨et,el,er,eu,ed,ef⟩⟩]) V' (w5.setCell ⟨c,8,I⟩ (N (P ⟨g5,0,I⟩) (X.length+1) cap5))/\But V w (w5.setCell ⟨c,8,I⟩ (N (P ⟨g5,0,I⟩) (X.length+1) cap5))/\∀k,V' k->V k\/w.heap.size<=k):=by
  have hBV:But V w (w5.setCell ⟨c,8,I⟩ (N (P ⟨g5,0,I⟩) (X.length+1) cap5)):=by
   rw[hV];refine((HB2.out.mono fun _ _ h=> .inl h).trans B4.out fun i _ h=> ?_).trans B6.out fun i _ h=> ?_
   ·exact h.imp id .inl
   ·exact h.imp id .inr
  have hVlo:∀k,V k->c<=k:=by
   rw[hV];rintro k (rfl|h|h)
   ·exact z _
   ·have:=(O.lt HO1.out k h).1;omega
   ·have:=(O.lt HO2.out k h).1;omega
  have hbp:¬V bp:=fun h=>by have:=hVlo bp h;omega
  refine⟨_,⟨HR.out.bel.trans (hBV.below HR.out.bel.size fun k hk=>kI hhi (hVlo k hk)),hhi,?_,hpb,N (P ⟨g,0,I⟩) (X.length+1) cap,N (P ⟨g5,0,I⟩) (X.length+1) cap5,?_,?_,?_,?_,rfl⟩,hBV,fun k hk=> ?_⟩
  ·exact(hBV.cell (a:=⟨bp,0,I⟩) (by show bp<w.heap.size;omega) hbp).trans HR.out.pc
  ·rw[ja,qZ];exact S6.out
  ·rw[yca,List.length_append,List.length_singleton];exact O7.out
  ·rw[yeI,List.length_append,List.length_singleton];exact O6.out
  ·intro k hk hk'
   have e1:g=k:=by simpa[T]using hk
   have e2:g5=k:=by simpa[T]using hk'
   exact hgg (e1.trans e2.symm)
  ·rw[hV]
   rcases hk with rfl|hk|hk
   ·exact .inl (.inl rfl)
   ·have e1:g=k:=by simpa[T]using hk
    subst e1;rcases G3.out.at' with h3|h3
    ·exact .inl (.inr (.inl h3))
    ·exact .inr (by omega)
   ·have e1:g5=k:=by simpa[T]using hk
    subst e1;rcases G5.out.at' with h3|h3
    ·exact .inl (.inr (.inr h3))
    ·rw[hsz4]at h3;exact .inr (by omega)
 clear hown4 hown5 hgrow5 hat5 hlt5 hblk hgg e7 ef7 e8 ef8 y1
 go_wp2_with fail
 go_end0
 exact⟨rfl,fin.out⟩
theorem ybM:∀args w,(callFunc 214 args).run M w= .ok (.enter 214 args) w:=fun args w=>by simp[go_sem]
theorem ybN:∀args w,(callFunc 215 args).run M w= .ok (.enter 215 args) w:=fun args w=>by simp[go_sem]
theorem ydC {b:Nat} {S:Pg.Fs} {F:Nat->Prop} {w0:Z} {bp c:Nat} {p:Int} (hp:Pg.below p 4096=E) (h:zh w0 b S F):
 yck b S F 214 215 #[D (P ⟨bp,0,I⟩)] #[D (P ⟨c,0,I⟩)] (Pg.onW p) (vq w0 bp c p):=
 ⟨ybM,ybN,fun _ _ _ hR=>hR.fr h,fun _ _ _ hR _ hk=>hR.lt hk,fun _ _ _ _ hR hb=>hR.grow hb,
  fun i lv _ _ w _ hl hR=>xt (yd4 i lv p hp hl w hR.pc),fun s X V w _ _ _ hl hR=>yer s X V w hl hR⟩
def zg (S:Pg.Fs) (t p:Int):List Pg.Sp:=if Pg.below p 4096=E/\(Pg.thr S (Pg.onW p) 3 t 0).2=0 then(Pg.thr S (Pg.onW p) 3 t 0).1 else []
def xM (S:Pg.Fs) (t p:Int):Int:=if Pg.below p 4096=E then(Pg.thr S (Pg.onW p) 3 t 0).2 else 1
def yb7 (X:List Pg.Sp) (v1 v2:Value):Value:= .agg #[R C (yhm X),Y (yhk X).t,Y (yhk X).l,R C (yhk X).r,Y (yhk X).u,Y (yhk X).d,R C (yhk X).f,v1,v2]
theorem ygk {w w':Z} {b:Nat} {v0 v1 v2 v3 v4 v5 v6 v7 v8:Value} (hk:w'.heap[b]?=w.heap[b]?)
 (h:w.cell? ⟨b,0,I⟩=P v0/\w.cell? ⟨b,1,I⟩=P v1/\w.cell? ⟨b,2,I⟩=P v2/\w.cell? ⟨b,3,I⟩=P v3/\w.cell? ⟨b,4,I⟩=P v4/\w.cell? ⟨b,5,I⟩=P v5/\w.cell? ⟨b,6,I⟩=P v6/\w.cell? ⟨b,7,I⟩=P v7/\w.cell? ⟨b,8,I⟩=P v8):
 w'.cell? ⟨b,0,I⟩=P v0/\w'.cell? ⟨b,1,I⟩=P v1/\w'.cell? ⟨b,2,I⟩=P v2/\w'.cell? ⟨b,3,I⟩=P v3/\w'.cell? ⟨b,4,I⟩=P v4/\w'.cell? ⟨b,5,I⟩=P v5/\w'.cell? ⟨b,6,I⟩=P v6/\w'.cell? ⟨b,7,I⟩=P v7/\w'.cell? ⟨b,8,I⟩=P v8:=
 ⟨(B hk).trans h.1,(B hk).trans h.2.1,(B hk).trans h.2.2.1,(B hk).trans h.2.2.2.1,(B hk).trans h.2.2.2.2.1,(B hk).trans h.2.2.2.2.2.1,(B hk).trans h.2.2.2.2.2.2.1,(B hk).trans h.2.2.2.2.2.2.2.1,(B hk).trans h.2.2.2.2.2.2.2.2⟩
theorem yc7 {F:Nat->Prop} {w w1:Z} (h:But F w w1) (r:Nat) (hr:w.heap.size<=r\/F r) (x0 x1 x2 x3 x4 x5 x6 x7 x8:Value):
 But F w (((((((((w1.setCell ⟨r,0,I⟩ x0).setCell ⟨r,1,I⟩ x1).setCell ⟨r,2,I⟩ x2).setCell ⟨r,3,I⟩ x3).setCell ⟨r,4,I⟩ x4).setCell ⟨r,5,I⟩ x5).setCell ⟨r,6,I⟩ x6).setCell ⟨r,7,I⟩ x7).setCell ⟨r,8,I⟩ x8):=
 ((((((((h.setCell (a:=⟨r,0,I⟩) hr x0).setCell (a:=⟨r,1,I⟩) hr x1).setCell (a:=⟨r,2,I⟩) hr x2).setCell (a:=⟨r,3,I⟩) hr x3).setCell (a:=⟨r,4,I⟩) hr x4).setCell (a:=⟨r,5,I⟩) hr x5).setCell (a:=⟨r,6,I⟩) hr x6).setCell (a:=⟨r,7,I⟩) hr x7).setCell (a:=⟨r,8,I⟩) hr x8
theorem ye1 {b:Nat} {S:Pg.Fs} {F:Nat->Prop} (t p:Int) (w:Z) (h:zh w b S F):
 Calls M 189 #[D (P ⟨b,0,I⟩),R C t,R C p] w fun e w'=>∃v1 v2,e=y (kP #[yb7 (zg S t p) v1 v2,R C (xM S t p)])/\w'.ownsRow w.heap.size 3 1 v1 (zg S t p).length (xA (tabs (zg S t p)))/\w'.ownsRow w.heap.size 3 1 v2 (zg S t p).length (xA (qG (zg S t p)))/\(∀k,v1.ownBlock=P k->v2.ownBlock≠P k)/\Below w.heap.size w w':=by
 have HH:=xh p;cases hp:Pg.below p 4096
 ·have e1:zg S t p=[]:=by simp[zg,hp]
  have e2:xM S t p=1:=by simp[xM,hp]
  rw[e1,e2];rw[hp]at HH;clear h e1 e2
  go_enter Tryz.func189,Tryz.ntmps189
  go_wp2_with fail
  refine(HH _).mono ?_;rintro e w1 ⟨rfl,rfl⟩
  go_wp2_with fail
  refine bodyPost_ret (v:=kP #[yb7 [] (N I 0 0) (N I 0 0),R C 1]) ?_ rfl ⟨N I 0 0,N I 0 0,rfl,U _ _ _ _,U _ _ _ _,fun k hk=>by simp[T]at hk,?_⟩
  ·simp[results,Tryz.results189,go_sem,yb7,yhm,yhk,Pg.En.zero]
  ·exact zA (zA (zR w) _) _
 ·have e2:xM S t p=(Pg.thr S (Pg.onW p) 3 t 0).2:=by simp[xM,hp]
  have e1:zg S t p=if (Pg.thr S (Pg.onW p) 3 t 0).2=0 then(Pg.thr S (Pg.onW p) 3 t 0).1 else []:=by simp[zg,hp]
  rw[e1,e2];rw[hp]at HH;obtain⟨W,hW⟩:∃W,W=((w.alloc (A #[R C p] 3)).alloc (A #[R C 0,Y Q,Y Q,R C 0,Y Q,Y Q,R C 0,N I 0 0,N I 0 0] 211)).alloc (A #[R C 0,Y Q,Y Q,R C 0,Y Q,Y Q,R C 0,N I 0 0,N I 0 0] 211):=⟨_,rfl⟩
  have hB:Below w.heap.size w W:=by rw[hW];exact zA (zA (zA (zR w) _) _) _
  have hK:vq w w.heap.size (w.heap.size+2) p [] (fun k=>k=w.heap.size+2\/(H I 0 0).ownBlock=P k\/(H I 0 0).ownBlock=P k) W:=by
   refine⟨hB,by omega,by rw[hW];simp[go_sem],by omega,N I 0 0,N I 0 0,?_,U _ _ _ _,U _ _ _ _,fun k hk=>by simp[T]at hk,rfl⟩;rw[hW]
   refine⟨?_,?_,?_,?_,?_,?_,?_,?_,?_,fun o=> ?_⟩<;>simp[go_sem,yhm,yhk,Pg.En.zero]
  have HC:Hid _:=ybd (ydC hp h) t _ W hK
  have hres:W.cell? ⟨w.heap.size+1,0,I⟩=P (R C 0)/\W.cell? ⟨w.heap.size+1,1,I⟩=P (Y Q)/\W.cell? ⟨w.heap.size+1,2,I⟩=P (Y Q)/\W.cell? ⟨w.heap.size+1,3,I⟩=P (R C 0)/\W.cell? ⟨w.heap.size+1,4,I⟩=P (Y Q)/\W.cell? ⟨w.heap.size+1,5,I⟩=P (Y Q)/\W.cell? ⟨w.heap.size+1,6,I⟩=P (R C 0)/\W.cell? ⟨w.heap.size+1,7,I⟩=P (N I 0 0)/\W.cell? ⟨w.heap.size+1,8,I⟩=P (N I 0 0):=by rw[hW];simp[go_sem]
  have hrf:∀o,W.frozen? ⟨w.heap.size+1,o,I⟩=Q:=fun o=>by rw[hW];simp[go_sem]
  have HRS:Hid _:=hres;have HRF:Hid _:=hrf
  have hWs:W.heap.size=w.heap.size+3:=by rw[hW];simp
  clear h hK hB e1 e2 hres hrf hp;generalize Pg.thr S (Pg.onW p) 3 t 0=th at*
  go_enter Tryz.func189,Tryz.ntmps189
  go_wp2_with fail
  refine(HH _).mono ?_;rintro e w1 ⟨rfl,rfl⟩
  go_wp2_with fail
  rw[<-hW];refine Calls.mono HC.out ?_;rintro e w1 ⟨rfl,V1,hK1,hb1,hn1⟩;have HB:Hid (Below w.heap.size w w1):=hK1.bel
  have hblk:w1.heap[w.heap.size+1]?=W.heap[w.heap.size+1]?:=hb1.block _ (by omega) fun e=>by
   rcases e with e|e|e
   ·omega
   ·simp[T]at e
   ·simp[T]at e
  have R1:Hid _:=ygk hblk HRS.out;have F1:∀o,w1.frozen? ⟨w.heap.size+1,o,I⟩=Q:=fun o=>(kJ hblk).trans (HRF.out o);have hl1:w.heap.size+1<w1.heap.size:=K _ _ R1.out.1;obtain⟨r0,r1,r2,r3,r4,r5,r6,r7,r8⟩:=R1.out;clear hb1 hn1 hblk
  by_cases hc:th.2=0
  ·have hcb:(th.2 !=0)=Q:=by simp[hc]
   obtain⟨v1,v2,hs,o1,o2,hne,_⟩:=hK1.var;obtain⟨a1,c1,rfl⟩:=zF o1;obtain⟨a2,c2,rfl⟩:=zF o2;have HNE:Hid (∀k,(H a1 th.1.length c1).ownBlock=P k->(H a2 th.1.length c2).ownBlock≠P k):=hne;clear hne;have O1:Hid (w1.ownsRow (w.heap.size+2+1) 3 1 (N a1 th.1.length c1) th.1.length (xA (tabs th.1))):=o1;have O2:Hid (w1.ownsRow (w.heap.size+2+1) 3 1 (N a2 th.1.length c2) th.1.length (xA (qG th.1))):=o2;have HC0:Hid _:=hc;obtain⟨s0,s1,s2,s3,s4,s5,s6,s7,s8,_⟩:=hs;clear hK1 o1 o2 hc;have HV:Hid (yb7 th.1 (N a1 th.1.length c1) (N a2 th.1.length c2)= .agg #[R C (yhm th.1),Y (yhk th.1).t,Y (yhk th.1).l,R C (yhk th.1).r,Y (yhk th.1).u,Y (yhk th.1).d,R C (yhk th.1).f,N a1 th.1.length c1,N a2 th.1.length c2]):=rfl
   go_wp2_with fail
   refine bodyPost_ret (v:=kP #[yb7 th.1 (N a1 th.1.length c1) (N a2 th.1.length c2),R C 0]) ?_ rfl ?_
   ·rw[HV.out]
    simp[results,Tryz.results189,go_sem,r0,r1,r2,r3,r4,r5,r6,r7,r8]
   ·have hbt:=yc7 (But.refl (fun k=>k=w.heap.size+1) w1) (w.heap.size+1) (.inr rfl) (R C (yhm th.1)) (Y (yhk th.1).t) (Y (yhk th.1).l) (R C (yhk th.1).r) (Y (yhk th.1).u) (Y (yhk th.1).d) (R C (yhk th.1).f) (N a1 th.1.length c1) (N a2 th.1.length c2)
    refine⟨N a1 th.1.length c1,N a2 th.1.length c2,rfl,?_,?_,HNE.out,?_⟩
    ·exact yeH (zc O1.out hbt fun k hk e=>by have:=(O.lt O1.out k hk).1;omega) (by omega)
    ·exact yeH (zc O2.out hbt fun k hk e=>by have:=(O.lt O2.out k hk).1;omega) (by omega)
    ·exact HB.out.trans (hbt.below HB.out.size fun k hk=>by omega)
  ·have hcb:(th.2 !=0)=E:=by simp[hc]
   have HC0:Hid _:=hc;clear hK1 hc
   go_wp2_with fail
   refine bodyPost_ret (v:=kP #[yb7 [] (N I 0 0) (N I 0 0),R C th.2]) ?_ rfl ?_
   ·simp[results,Tryz.results189,go_sem,r0,r1,r2,r3,r4,r5,r6,r7,r8,yb7,yhm,yhk,Pg.En.zero]
   ·have hbt:=yc7 (But.refl (fun k=>k=w.heap.size+1) w1) (w.heap.size+1) (.inr rfl) (R C 0) (Y Q) (Y Q) (R C 0) (Y Q) (Y Q) (R C 0) (N I 0 0) (N I 0 0)
    exact⟨N I 0 0,N I 0 0,rfl,U _ _ _ _,U _ _ _ _,fun k hk=>by simp[T]at hk,HB.out.trans (hbt.below HB.out.size fun k hk=>by omega)⟩
end Go.Proofs.YtdphiompijbelaaGreat
namespace Go.Proofs.YtdphiompijbelaaGreat
open Go.RowKit
def lastT (X:List Pg.Sp):Int:=match X.getLast? with
 | some s=>s.table
 | none=>0
namespace Pg
def tFC (S:Fs) (t p:Int):Int:=if xM S t p≠0 then xM S t p else if (yhk (zg S t p)).t=E then 0 else 5
def tFM (S:Fs) (t p:Int):Mp:=if tFC S t p=0 then(yhk (zg S t p)).map (yhm (zg S t p)) p else .zz
def tFE (S:Fs) (t p:Int):En:=if tFC S t p=0 then yhk (zg S t p)else En.zero
def insC (S:Fs) (t:Int) (m:Mp):Int:=
 if m.code≠0 then m.code else if xM S t m.p≠0 then xM S t m.p
 else if (yhk (zg S t m.p)).t=E\/yhm (zg S t m.p)<m.s then 4 else if S.free<yhm (zg S t m.p)-m.s then 6 else 0
def insW (p s:Int):Nat->Fs->Int->Fs×Int
 | 0,S,t=>(S,t)
 | lv+1,S,t=>if ((lv+1:Nat):Int)<=s then(S,t)else insW p s lv (S.take.store t (index p ((lv+1:Nat):Int)) (enc E Q 7 Q Q S.takeN ((lv+1:Nat):Int))) S.takeN
def insS (S:Fs) (t:Int) (m:Mp):Fs:=if insC S t m=0 then
 (insW m.p m.s (yhm (zg S t m.p)).toNat S (lastT (zg S t m.p))).1.store (insW m.p m.s (yhm (zg S t m.p)).toNat S (lastT (zg S t m.p))).2 (index m.p m.s) (enc E E m.r Q Q m.f m.s)else S
def yho (S:Fs) (t:Int):Bool:=(List.range 8).all fun i=>S.word t.toNat i==0
def rmW (p:Int) (ts:List Int):Nat->Fs->List Int->Fs×List Int
 | 0,S,G=>(S,G)
 | k+1,S,G=>if k=0\/yho (S.store (ts.getD k 0) (index p (3-(k:Int))) 0) (ts.getD k 0)=Q then(S.store (ts.getD k 0) (index p (3-(k:Int))) 0,G)
   else rmW p ts k (S.store (ts.getD k 0) (index p (3-(k:Int))) 0) (G++[ts.getD k 0])
def rmR (S:Fs) (t p:Int):Fs×List Int:=if tFC S t p=0 then rmW p (tabs (zg S t p)) (zg S t p).length S []else(S,[])
def prC (S:Fs) (t p r:Int):Int:=if r<0\/7<r then 1 else tFC S t p
def prM (S:Fs) (t p r:Int):Mp:=if prC S t p r=0 then(tFM S t p).rts r else .zz
def prS (S:Fs) (t p r:Int):Fs:=if prC S t p r=0 then
 S.store (lastT (zg S t p)) (index p (yhm (zg S t p))) (enc (yhk (zg S t p)).t (yhk (zg S t p)).l r (yhk (zg S t p)).u (yhk (zg S t p)).d (yhk (zg S t p)).f (yhm (zg S t p)))else S
theorem ykV (S:Fs) (p:Int):∀(lv:Nat) (t:Int) (a:Nat),(∀s,s ∈ (thr S (onW p) lv t a).1->S.has s.table=E)/\
 ((thr S (onW p) lv t a).2=0->∃s,(thr S (onW p) lv t a).1.getLast?=P s/\s.level+(thr S (onW p) lv t a).1.length=lv+1/\s.e=rEn S s.table (ix p s.level) s.level/\yhn S s.table (ix p s.level) s.level=0/\s.e.on=Q):=by
 intro lv
 induction lv with
 | zero=>
   intro t a;rw[yhH];split
   ·rename_i h1
    exact⟨fun s hs=>by simp at hs,fun h=>absurd h h1⟩
   ·rename_i h1
    have h1:yhn S t (ix p 0) 0=0:=by simpa using h1
    split
    ·rename_i h2
     refine⟨fun s hs=> ?_,fun _=>⟨spt S t (ix p 0) 0 a,rfl,rfl,rfl,h1,h2⟩⟩;simp at hs;subst hs;exact yhp h1
    ·rename_i h2
     obtain⟨m,hm⟩:=yhG (S:=S) (t:=t) (i:=ix p 0) (lv:=0) (by simpa using h2);omega
 | succ lv ih=>
   intro t a;rw[yhH];split
   ·rename_i h1
    exact⟨fun s hs=>by simp at hs,fun h=>absurd h h1⟩
   ·rename_i h1
    have h1:yhn S t (ix p (lv+1)) (lv+1)=0:=by simpa using h1
    split
    ·rename_i h2
     refine⟨fun s hs=> ?_,fun _=>⟨spt S t (ix p (lv+1)) (lv+1) a,rfl,rfl,rfl,h1,h2⟩⟩;simp at hs;subst hs;exact yhp h1
    ·rename_i h2
     obtain⟨i1,i2⟩:=ih (rEn S t (ix p (lv+1)) (lv+1)).f ((a+ix p (lv+1))*8);refine⟨fun s hs=> ?_,fun hz=> ?_⟩
     ·simp at hs
      rcases hs with rfl|hs
      ·exact yhp h1
      ·exact i1 s hs
     ·obtain⟨s,j1,j2,j3⟩:=i2 hz
      refine⟨s,?_,?_,j3⟩
      ·simp only[sub]
       rw[List.getLast?_cons,j1];rfl
      ·simp only[sub,List.length_cons]
       omega
structure Way (S:Fs) (t p:Int) (X:List Sp) (lv:Nat) (e:En) (tl:Int):Prop where
 below:below p 4096=E
 has:∀x,x ∈ tabs X->S.has x=E
 len:lv+X.length=4
 yhm:yhm X=(lv:Int)
 yhk:yhk X=e
 lastT:lastT X=tl
 hasT:S.has tl=E
 en:e=rEn S tl (ix p lv) lv
 code:yhn S tl (ix p lv) lv=0
 on:e.on=Q
theorem ykf {S:Fs} {t p:Int} (h:xM S t p=0):∃lv e tl,Way S t p (zg S t p) lv e tl:=by
 have hp:Pg.below p 4096=E:=by
  cases hp:Pg.below p 4096
  ·simp[xM,hp]at h
  ·rfl
 have hz:(thr S (onW p) 3 t 0).2=0:=by simpa[xM,hp]using h
 have eX:zg S t p=(thr S (onW p) 3 t 0).1:=by simp[zg,hp,hz]
 obtain⟨h1,h2⟩:=ykV S p 3 t 0;obtain⟨s,j1,j2,j3,j4,j5⟩:=h2 hz;have hs:s ∈ (thr S (onW p) 3 t 0).1:=List.mem_of_getLast? j1;refine⟨s.level,s.e,s.table,hp,fun x hx=> ?_,?_,?_,?_,?_,h1 s hs,?_,?_,j5⟩
 ·rw[eX]at hx
  simp only[tabs,List.mem_map]at hx;obtain⟨s',hs',rfl⟩:=hx;exact h1 s' hs'
 ·rw[eX];exact j2
 ·rw[eX];unfold Go.Proofs.YtdphiompijbelaaGreat.yhm;rw[j1]
 ·rw[eX];unfold Go.Proofs.YtdphiompijbelaaGreat.yhk;rw[j1]
 ·rw[eX];unfold Go.Proofs.YtdphiompijbelaaGreat.lastT;rw[j1]
 ·exact j3
 ·exact j4
theorem yh1 (S:Fs) (t i v:Int):(S.store t i v).n=S.n/\(S.store t i v).used=S.used/\(S.store t i v).back=S.back/\(S.store t i v).next=S.next:=by
 unfold Fs.store
 split<;>exact⟨rfl,rfl,rfl,rfl⟩
theorem yhX (S:Fs) (t i v x:Int):(S.store t i v).has x=S.has x:=by
 unfold Fs.has Fs.inn;rw[(yh1 S t i v).2.1]
theorem yi6 (S:Fs) (t i v:Int):(S.store t i v).free=S.free:=by
 obtain⟨h1,_,h3,h4⟩:=yh1 S t i v;unfold Fs.free;rw[h1,h3,h4]
theorem ykc {S:Fs} (h:S.Ok) (hf:0<S.free):∃k:Nat,S.pick=P k/\S.takeN=(k:Int)/\k<S.n/\S.take.has (k:Int)=E/\(∀x,S.has x=E->S.take.has x=E)/\S.take.free=S.free-1/\S.take.n=S.n:=by
 unfold Fs.free at hf;have ht:=h.top;unfold Fs.takeN Fs.pick Fs.take Fs.has Fs.inn Fs.free
 cases hb:S.back.getLast? with
 | some k=>
   have hl:S.back=S.back.dropLast++[k]:=by
    obtain⟨l,hl⟩:=List.getLast?_eq_some_iff.1 hb;simp[hl]
   have hlen:S.back.length=S.back.dropLast.length+1:=by
    have:=congrArg List.length hl
    simpa using this
   have hk:k<S.n:=by
    have:=h.yks (List.mem_of_getLast? hb);omega
   refine⟨k,rfl,rfl,hk,by simp,fun x hx=> ?_,?_,rfl⟩
   ·simp at hx ⊢
    exact⟨hx.1,.inr hx.2⟩
   ·simp only
    omega
 | none=>
   have hbn:S.back=[]:=by simpa using hb
   rw[hbn]at hf;simp at hf
   have hlt:S.next<S.n:=by omega
   simp only[hlt,if_true];refine⟨S.next,rfl,rfl,hlt,by simp,fun x hx=> ?_,?_,trivial⟩
   ·simp at hx ⊢
    exact⟨hx.1,.inr hx.2⟩
   ·omega
theorem ykx (t l:Bool) (r:Int) (u d:Bool) (f lv:Int):0<=enc t l r u d f lv/\enc t l r u d f lv<18446744073709551616:=by
 unfold enc;split
 ·rename_i h
  obtain⟨_,hc⟩:=yhw h;unfold yiq b01;rcases hc with ⟨rfl,_⟩|⟨rfl,r0,r1,f0,f1,_⟩
  ·simp
  ·simp only[if_true]
   split<;>split<;>split<;>omega
 ·omega
end Pg
end Go.Proofs.YtdphiompijbelaaGreat
namespace Go.Proofs.YtdphiompijbelaaGreat
open Go.RowKit Go.Sort
attribute [local go_sem] Loose.gent
theorem vQ (s:Pg.Sp) (hl:s.level<4) (ha:s.ahead<4096) (w:Z):
 Calls M 115 #[s.val] w fun e w'=>e=y s.mp.val/\Below w.heap.size w w':=by
 obtain⟨st,sp,sl,sa,⟨et,el,er,eu,ed,ef⟩⟩:=s;have hs:=Pg.yhx (sl:Int);simp only at hl ha;have HM:=yba et el er eu ed ef (sl:Int) ((sa:Int)*Pg.span (sl:Int));rw[Pg.yk9 ⟨et,el,er,eu,ed,ef⟩]at HM;have HE:Hid ((⟨st,sp,sl,sa,⟨et,el,er,eu,ed,ef⟩⟩:Pg.Sp).mp=Pg.En.map ⟨et,el,er,eu,ed,ef⟩ (sl:Int) ((sa:Int)*Pg.span (sl:Int))):=rfl;rw[HE.out]
 have hmul:IntKind.i64.wrap ((sa:Int)*Pg.span (sl:Int))=(sa:Int)*Pg.span (sl:Int):=by
  have h1:(sa:Int)*Pg.span (sl:Int)<=4096*64:=Int.mul_le_mul (by omega) (by omega) (by omega) (by omega);have h2:0<=(sa:Int)*Pg.span (sl:Int):=Int.mul_nonneg (by omega) (by omega);exact xX (by omega) (by omega)
 generalize Pg.En.map ⟨et,el,er,eu,ed,ef⟩ (sl:Int) ((sa:Int)*Pg.span (sl:Int))=m at*;obtain⟨mp,ms,mf,mr⟩:=m;simp only[Pg.Sp.val,Pg.Mp.val]at HM ⊢;clear HE;obtain⟨W,hW⟩:∃W,W=(w.alloc (A #[R C st,R C (sp:Int),R C (sl:Int),R C (sa:Int),Y et,Y el,R C er,Y eu,Y ed,R C ef] 198)).alloc (A #[R C 0,R C 0,R C 0,R C 0] 39):=⟨_,rfl⟩
 have hB:Below w.heap.size w W:=by rw[hW];exact zA (zA (zR w) _) _
 have y2:=cell_regrown (show W.cell? ⟨w.heap.size,2,I⟩=P (R C (sl:Int)) by rw[hW];simp[go_sem]);have y3:=cell_regrown (show W.cell? ⟨w.heap.size,3,I⟩=P (R C (sa:Int)) by rw[hW];simp[go_sem]);have y4:=cell_regrown (show W.cell? ⟨w.heap.size,4,I⟩=P (Y et) by rw[hW];simp[go_sem]);have y5:=cell_regrown (show W.cell? ⟨w.heap.size,5,I⟩=P (Y el) by rw[hW];simp[go_sem]);have y6:=cell_regrown (show W.cell? ⟨w.heap.size,6,I⟩=P (R C er) by rw[hW];simp[go_sem]);have y7:=cell_regrown (show W.cell? ⟨w.heap.size,7,I⟩=P (Y eu) by rw[hW];simp[go_sem]);have y8:=cell_regrown (show W.cell? ⟨w.heap.size,8,I⟩=P (Y ed) by rw[hW];simp[go_sem]);have y9:=cell_regrown (show W.cell? ⟨w.heap.size,9,I⟩=P (R C ef) by rw[hW];simp[go_sem])
 have cr:W.cell? ⟨w.heap.size+1,0,I⟩=P (R C 0)/\W.cell? ⟨w.heap.size+1,1,I⟩=P (R C 0)/\W.cell? ⟨w.heap.size+1,2,I⟩=P (R C 0)/\W.cell? ⟨w.heap.size+1,3,I⟩=P (R C 0):=by rw[hW];simp[go_sem]
 have fr:∀i,W.frozen? ⟨w.heap.size+1,i,I⟩=Q:=fun i=>by rw[hW];simp[go_sem]
 go_enter Tryz.func115,Tryz.ntmps115
 go_wp2_with fail
 rw[<-hW];clear hW;refine Loose.yiy 11 (by kernel_rfl) (by kernel_rfl) ?_;simp only[List.take_succ_cons,List.take_zero,List.drop_succ_cons,List.drop_zero]
 repeat (
  refine Loose.zS (fun k hk=> ?_)
  go_simp
  first
   | (refine hk _ ?_;clear hk k)
   | (apply Exists.intro
      refine⟨fun _=> ?_,hk _ ?_⟩
      (first
        | (go_at_call 153;exact Loose.yh4 (xJ _ _))
        | (go_at_call 152;exact Loose.calls (HM _)))
      clear hk k))
 refine Loose.yhi ?_;intro w' hb';have hlt:=K _ _ cr.1
 replace cr:=xB hb' cr
 have fr':∀i,w'.frozen? ⟨w.heap.size+1,i,I⟩=Q:=fun i=>by
  rw[hb'.frozen (p:=⟨w.heap.size+1,i,I⟩) hlt];exact fr i
 replace hB:=zT hB hb'
 clear hb' fr y2 y3 y4 y5 y6 y7 y8 y9
 go_wp2_with fail
 refine bodyPost_ret (v:= .agg #[R C mp,R C ms,R C mf,R C mr]) ?_ rfl ⟨rfl,?_⟩
 ·simp[results,Tryz.results115,go_sem,cr]
 ·exact(((hB.setCell (by simp) _).setCell (by simp) _).setCell (by simp) _).setCell (by simp) _
theorem yeF {w0:Z} {c:Nat} (s:Pg.Sp) (X:List Pg.Sp) (V:Nat->Prop) (w:Z) (hl:s.level<4) (ha:s.ahead<4096) (hlen:X.length<4680)
 (hR:qn w0 c 39 4 (fun X=>(Pg.zM X).length) (fun X=>zC (Pg.zM X)) X V w):
 Calls M 114 #[s.val,D (P ⟨c,0,I⟩)] w fun e w'=>e=y (kP #[])/\∃V',qn w0 c 39 4 (fun X=>(Pg.zM X).length) (fun X=>zC (Pg.zM X)) (X++[s]) V' w'/\But V w w'/\∀k,V' k->V k\/w.heap.size<=k:=by
 have HT:Hid (Pg.zM (X++[s])=Pg.zM X++if s.e.l=E then [s.mp]else []):=by simp[Hid,Pg.zM]
 have HR:Hid _:=hR;have hml:=Pg.mapsOf_len X;have HM:=vQ s hl ha;have HS:Hid (s=s):=rfl;generalize hs:s.mp=m at*;clear hs HS;obtain⟨st,sp,sl,sa,⟨et,el,er,eu,ed,ef⟩⟩:=s;obtain⟨mp,ms,mf,mr⟩:=m;simp only[Pg.Sp.val,Pg.Mp.val]at HM ⊢;simp only at HT;cases el
 ·clear hR HM
  go_enter Tryz.func114,Tryz.ntmps114
  go_wp2_with fail
  go_end0
  exact⟨rfl,HR.out.stay (zA (zR w) _) (by rw[HT.out];simp) (by rw[HT.out];simp)⟩
 ·obtain⟨vb,hv,hV⟩:=hR.var
  obtain⟨q0,hq,hz0,hz1,hz2⟩:=info_parts js;have HVr:Hid _:=hv;have hfz:=hR.fz;have hw0:=hR.bel.size;have hcl:=hv.lb;have cc:=hv.cell;have hown:=hv.own;clear hR hv
  have hcw:c≠w.heap.size:=by omega
  go_enter Tryz.func114,Tryz.ntmps114
  go_wp2_with fail
  have hnews:∀(W:Z) (j:Nat) (u:Value),[kC C mp,R C ms,R C mf,R C mr][j]?=P u->(W.alloc (A #[R C mp,R C ms,R C mf,R C mr] 39)).cell? ((⟨W.heap.size,0,I⟩:Addr).add j)=P u:=fun W j u hu=>
   World.news_of_block (heap_alloc_new W _) j u hu
  have hone:∀u,u ∈ [kC C mp,R C ms,R C mf,R C mr]->u.oneCell'=E:=by
   intro u hu;simp at hu;rcases hu with rfl|rfl|rfl|rfl<;>rfl
  have hm1:(Pg.zM X).length+1<=maxLen:=by unfold maxLen;omega
  have hm2:((Pg.zM X).length+1)*32<=140737488355328:=by omega
  go_region_law (first
   | (go_simp;go_at_call 115;refine(HM _).mono ?_;rintro e w2 ⟨rfl,hb2⟩;have HB2:Hid (Below w.heap.size w w2):=zT ((zA (zR w) _).drew) hb2;have V2:Hid _:=HVr.out.grow HB2.out;have cc2:=V2.out.cell;have cl2:=V2.out.lb;clear hb2)
   | (refine step_append_lies _ rfl (.tmp 6) (.tmp 9) 44 rfl w0.heap.size 39 q0 _ 4 32 Tryz.underlying44 hq hz0 hz1 hz2 rfl (by decide) vb _ _ (by simp[Act.eval]) (V2.out.own.alloc _) ⟨w2.heap.size,0,I⟩ 1 1 [R C mp,R C ms,R C mf,R C mr] (by simp[Act.eval]) rfl (hnews w2) hone (by decide) hm1 hm2 (kI hw0 (kI HB2.out.size (by simp))) (w2.heap.size+1) (by simp) ?_;intro g cap w3 hown3 hgrow hat hlt3;have hbA:Hid _:=zA HB2.out (A #[R C mp,R C ms,R C mf,R C mr] 39);have HA:Hid (vb.ownBlock=P g\/g=(w2.alloc (A #[R C mp,R C ms,R C mf,R C mr] 39)).heap.size):=(by simpa[Hid]using hat);have p1:=(HVr.out.push hbA.out hgrow hown3 HA.out).1;have kf:w3.frozen? ⟨c,0,I⟩=Q:=((HVr.out.push hbA.out hgrow hown3 HA.out).2.1 0).trans (hfz 0);have HO3:Hid _:=hown3;have HG3:Hid _:=hgrow;clear hown3 hgrow hat hlt3))
  all_goals
   have fin:Hid _:=HR.out.push (X':=X++[⟨st,sp,sl,sa,⟨et,E,er,eu,ed,ef⟩⟩]) HVr.out hV hbA.out HG3.out HO3.out HA.out (by rw[HT.out];simp) (by rw[HT.out,if_true,ybX])
   go_wp2_with fail
   go_end0
   exact⟨rfl,fin.out⟩
theorem ybO:∀args w,(callFunc 114 args).run M w= .ok (.enter 114 args) w:=fun args w=>by simp[go_sem]
theorem ydM {b:Nat} {S:Pg.Fs} {F:Nat->Prop} {w0:Z} {c:Nat} (h:zh w0 b S F):
 yck b S F 113 114 #[] #[D (P ⟨c,0,I⟩)] Pg.zW (qn w0 c 39 4 (fun X=>(Pg.zM X).length) (fun X=>zC (Pg.zM X))):=
 ⟨qv,ybO,fun _ _ _ hR=>hR.fr h,fun _ _ _ hR _ hk=>hR.lt hk,fun _ _ _ _ hR hb=>hR.grow hb,
  fun i lv _ _ w _ _ _=>xt (jk (i:Int) (lv:Int) w),fun s X V w _ h1 h2 hl hR=>yeF s X V w h1 h2 hl hR⟩
theorem yfv {w:Z} {base:Nat} {e:TypeId} {size n cap:Nat} {ad:Option Addr} {xs:List Value} (h:w.ownsRow base e size (N ad n cap) n xs):n<=cap:=by
 rcases h.2 with ⟨e,_⟩|⟨g,c,cur,e,_,_,hle,_⟩
 ·cases e;exact z _
 ·cases e;exact hle
theorem yc2 {b:Nat} {S:Pg.Fs} {F:Nat->Prop} (t:Int) (w:Z) (h:zh w b S F):
 Calls M 65 #[D (P ⟨b,0,I⟩),R C t] w fun e w'=>∃ad cap L,e=y (kP #[N ad L.length cap,R C (Pg.thr S Pg.zW 3 t 0).2])/\L=(if (Pg.thr S Pg.zW 3 t 0).2=0 then t::Pg.zU (Pg.thr S Pg.zW 3 t 0).1 else [])/\zu w' ad L/\L.length<=cap/\Below w.heap.size w w':=by
 obtain⟨W,hW⟩:∃W,W=(w.alloc (A #[R C t] 3)).alloc (A #[N (P ⟨w.heap.size,0,I⟩) 1 1] 45):=⟨_,rfl⟩
 have hB:Below w.heap.size w W:=by rw[hW];exact zA (zA (zR w) _) _
 have hK:qn w (w.heap.size+1) 3 1 (fun X=>(t::Pg.zU X).length) (fun X=>xA (t::Pg.zU X)) [] (fun k=>k=w.heap.size+1\/(H (P ⟨w.heap.size,0,I⟩) 1 1).ownBlock=P k) W:=by
  refine⟨hB,by omega,fun o=>by rw[hW];simp[go_sem],N (P ⟨w.heap.size,0,I⟩) 1 1,⟨by rw[hW];simp[go_sem],?_,by simp[T]⟩,rfl⟩;refine⟨by simp[xA,Pg.zU],.inr ⟨w.heap.size,1,#[R C t],rfl,z _,?_,z _,by decide,rfl,by simp[xA,Pg.zU]⟩⟩;rw[hW,Below.heap_alloc _ _ _ (by simp)];exact heap_alloc_new w _
 have HC:Hid _:=ybd (yb9 (c:=w.heap.size+1) (t:=t) h) t _ W hK;clear h hK hB;generalize Pg.thr S Pg.zW 3 t 0=th at*
 go_enter Tryz.func65,Tryz.ntmps65
 go_wp2_with fail
 rw[<-hW];refine Calls.mono HC.out ?_;rintro e w1 ⟨rfl,V1,hK1,hb1,hn1⟩;clear hb1 hn1;have HB:Hid (Below w.heap.size w w1):=hK1.bel;obtain⟨vb,hv,_⟩:=hK1.var;obtain⟨ad,cap,rfl⟩:=zF hv.own
 by_cases hc:th.2=0
 ·have hcb:(th.2 !=0)=Q:=by simp[hc]
  have cc:=hv.cell;have HI:Hid _:=qz hv.own;have HCap:Hid _:=yfv hv.own;have HC0:Hid _:=hc;clear hv hK1 hc
  go_wp2_with fail
  go_ret2
  exact⟨ad,cap,t::Pg.zU th.1,rfl,by first|rw[if_pos HC0.out]|rfl,HI.out,HCap.out,HB.out⟩
 ·have hcb:(th.2 !=0)=E:=by simp[hc]
  have HC0:Hid _:=hc;clear hv hK1 hc
  go_wp2_with fail
  go_ret2
  exact⟨I,0,[],rfl,by first|rw[if_neg HC0.out]|rfl,fun j hj=>absurd hj (by simp),by simp,HB.out⟩
theorem yfw {w:Z} {base:Nat} {e:TypeId} {size n cap:Nat} {ad:Option Addr} {xs:List Value} (h:w.ownsRow base e size (N ad n cap) n xs):∀g,ad=P ⟨g,0,I⟩->base<=g:=by
 intro g hg;rcases h.2 with ⟨e,_⟩|⟨g',c,cur,e,hb,_⟩
 ·cases e;cases hg
 ·cases e;cases hg;exact hb
theorem ye2 {b:Nat} {S:Pg.Fs} {F:Nat->Prop} (t:Int) (w:Z) (h:zh w b S F):
 Calls M 64 #[D (P ⟨b,0,I⟩),R C t] w fun e w'=>∃ad cap L,e=y (kP #[N ad L.length cap,R C (Pg.thr S Pg.zW 3 t 0).2])/\L=(if (Pg.thr S Pg.zW 3 t 0).2=0 then Pg.zM (Pg.thr S Pg.zW 3 t 0).1 else [])/\xN w' ad L/\(∀g,ad=P ⟨g,0,I⟩->w.heap.size<=g)/\Below w.heap.size w w':=by
 obtain⟨W,hW⟩:∃W,W=w.alloc (A #[N I 0 0] 44):=⟨_,rfl⟩
 have hB:Below w.heap.size w W:=by rw[hW];exact zA (zR w) _
 have hK:qn w w.heap.size 39 4 (fun X=>(Pg.zM X).length) (fun X=>zC (Pg.zM X)) [] (fun k=>k=w.heap.size\/(H I 0 0).ownBlock=P k) W:=
  ⟨hB,z _,fun o=>by rw[hW];simp[go_sem],N I 0 0,⟨by rw[hW];simp[go_sem],U _ _ _ _,by simp[T]⟩,rfl⟩
 have HC:Hid _:=ybd (ydM (c:=w.heap.size) h) t _ W hK;clear h hK hB;generalize Pg.thr S Pg.zW 3 t 0=th at*
 go_enter Tryz.func64,Tryz.ntmps64
 go_wp2_with fail
 rw[<-hW];refine Calls.mono HC.out ?_;rintro e w1 ⟨rfl,V1,hK1,hb1,hn1⟩;clear hb1 hn1;have HB:Hid (Below w.heap.size w w1):=hK1.bel;obtain⟨vb,hv,_⟩:=hK1.var;obtain⟨ad,cap,rfl⟩:=zF hv.own
 by_cases hc:th.2=0
 ·have hcb:(th.2 !=0)=Q:=by simp[hc]
  have cc:=hv.cell;have HI:Hid (xN w1 ad (Pg.zM th.1)):=jv hv.own;have HNw:Hid _:=yfw hv.own;have HC0:Hid _:=hc;clear hv hK1 hc
  go_wp2_with fail
  go_ret2
  exact⟨ad,cap,Pg.zM th.1,rfl,by first|rw[if_pos HC0.out]|rfl,HI.out,HNw.out,HB.out⟩
 ·have hcb:(th.2 !=0)=E:=by simp[hc]
  have HC0:Hid _:=hc;clear hv hK1 hc
  go_wp2_with fail
  go_ret2
  exact⟨I,0,[],rfl,by first|rw[if_neg HC0.out]|rfl,fun j hj=>absurd hj (by simp),fun g hg=>(by cases hg),HB.out⟩
end Go.Proofs.YtdphiompijbelaaGreat
