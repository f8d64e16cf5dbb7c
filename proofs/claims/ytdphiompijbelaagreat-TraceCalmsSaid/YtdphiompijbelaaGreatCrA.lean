import Derived.Test.YtdphiompijbelaaGreatLooseD
import Derived.Deep.RegionHeld3
import Derived.Test.YtdphiompijbelaaGreatBookDel
set_option linter.all false
set_option maxRecDepth 100000
open List renaming take_succ_cons->yS,drop_succ_cons->yC,take_zero->yR,drop_zero->yN,length_singleton->yF,mem_of_getLast?->yQ,length_append->yU
open Go.RowKit.Below renaming heap_setCell->ud
open Go.Obj renaming cells->kh
open Nat renaming lt_of_lt_of_le->ki,le_refl->un,le_trans->yO
open Go.Ending renaming returned->kO
open Go.Proofs.Tryz renaming prog->z
open Array renaming getElem?_eq_some_iff->D
open Go.RowKit renaming Hid->O
open Go renaming cell_regrown->Q,World->E,bodyPost_ret->A,Calls->uc,Value->ua,heap_alloc_new->yJ,cell_later->yX
open Bool renaming false->T,true->Z
open Go.World renaming cell?_of_block->N,cell?_setCell_other->U,block_lt_of_cell?->kp,ownsRow->ue,ownsRow_nil->yI,frozen?_of_block->yB,cell?_setCell_same->yY,frozen?_setCell->yT,frozen?->yZ,cell?->yM
open Option renaming none->B,some->Y
open Go.IntKind renaming i64->J,u64->yK
open Go.Value renaming int->I,bool->P,pointer->M,slice->H,tuple->ur,ownBlock->uv,agg->yP,slice->yV
set_option maxHeartbeats 40000000
namespace Go.Proofs.YtdphiompijbelaaGreat
open Go.RowKit
section
open Go.Sort
theorem ye4 {w:E} {base base' size n:Nat} {e:TypeId} {v:ua} {xs:List ua} (h:w.ownsRow base e size v n xs) (hb:base'<=base):w.ownsRow base' e size v n xs:=
 ⟨h.1,h.2.imp id fun⟨g,cap,cur,e,k,r⟩=>⟨g,cap,cur,e,yO hb k,r⟩⟩
def yhQ (X:List Pg.Sp):Int:=match X.getLast? with
 | some s=>(s.level:Int)
 | none=>0
def yhO (X:List Pg.Sp):Pg.En:=match X.getLast? with
 | some s=>s.e
 | none=>Pg.En.zero
def tabs (X:List Pg.Sp):List Int:=X.map fun s=>s.table
def qL (X:List Pg.Sp):List Int:=X.map fun s=>(s.place:Int)
theorem jd (X:List Pg.Sp) (s:Pg.Sp):yhQ (X++[s])=s.level:=by simp[yhQ]
theorem jc (X:List Pg.Sp) (s:Pg.Sp):yhO (X++[s])=s.e:=by simp[yhO]
theorem ycq (X:List Pg.Sp) (s:Pg.Sp):xn (tabs (X++[s]))=xn (tabs X)++[I J s.table]:=by simp[tabs,xn]
theorem ye5 (X:List Pg.Sp) (s:Pg.Sp):xn (qL (X++[s]))=xn (qL X)++[I J (s.place:Int)]:=by simp[qL,xn]
theorem xA (X:List Pg.Sp):(tabs X).length=X.length:=by simp[tabs]
theorem vy (X:List Pg.Sp):(qL X).length=X.length:=by simp[qL]
structure qt (c:Nat) (lv:Int) (e:Pg.En) (v1 v2:ua) (w:E):Prop where
 c0:w.cell? ⟨c,0,B⟩=Y (I J lv)
 c1:w.cell? ⟨c,1,B⟩=Y (P e.t)
 c2:w.cell? ⟨c,2,B⟩=Y (P e.l)
 c3:w.cell? ⟨c,3,B⟩=Y (I J e.r)
 c4:w.cell? ⟨c,4,B⟩=Y (P e.u)
 c5:w.cell? ⟨c,5,B⟩=Y (P e.d)
 c6:w.cell? ⟨c,6,B⟩=Y (I J e.f)
 c7:w.cell? ⟨c,7,B⟩=Y v1
 c8:w.cell? ⟨c,8,B⟩=Y v2
 fz:∀o,w.frozen? ⟨c,o,B⟩=T
theorem qt.lb {c:Nat} {lv:Int} {e:Pg.En} {v1 v2:ua} {w:E} (h:qt c lv e v1 v2 w):c<w.heap.size:=kp _ _ h.c0
theorem qt.of_block {c:Nat} {lv:Int} {e:Pg.En} {v1 v2:ua} {w w':E} (h:qt c lv e v1 v2 w) (hk:w'.heap[c]?=w.heap[c]?):qt c lv e v1 v2 w':=
 ⟨(N hk).trans h.c0,(N hk).trans h.c1,(N hk).trans h.c2,(N hk).trans h.c3,(N hk).trans h.c4,(N hk).trans h.c5,(N hk).trans h.c6,(N hk).trans h.c7,(N hk).trans h.c8,fun o=>(yB hk).trans (h.fz o)⟩
structure vD (w0:E) (bp c:Nat) (p:Int) (X:List Pg.Sp) (V:Nat->Prop) (w:E):Prop where
 bel:Lw w0 w
 hi:w0.heap.size<=c
 pc:w.cell? ⟨bp,0,B⟩=Y (I J p)
 pb:bp<c
 var:∃v1 v2,qt c (yhQ X) (yhO X) v1 v2 w/\w.ownsRow (c+1) 3 1 v1 X.length (xn (tabs X))/\w.ownsRow (c+1) 3 1 v2 X.length (xn (qL X))/\(∀k,v1.ownBlock=Y k->v2.ownBlock≠Y k)/\V=fun k=>k=c\/v1.ownBlock=Y k\/v2.ownBlock=Y k
namespace vD
variable {w0:E} {bp c:Nat} {p:Int} {X X':List Pg.Sp} {V:Nat->Prop} {w w':E}
theorem grow (h:vD w0 bp c p X V w) (hb:Lw w w'):vD w0 bp c p X V w':=by
 obtain⟨h1,h2,h3,h4,v1,v2,hs,o1,o2,Ho,rfl⟩:=h;exact⟨h1.trans (hb.mono h1.size),h2,yX hb h3,h4,v1,v2,hs.of_block (hb.block c hs.lb),zn o1 hb,zn o2 hb,Ho,rfl⟩
theorem lt (h:vD w0 bp c p X V w) {k:Nat} (hk:V k):k<w.heap.size:=by
 obtain⟨h1,h2,h3,h4,v1,v2,hs,o1,o2,Ho,rfl⟩:=h;rcases hk with rfl|hk|hk
 ·exact hs.lb
 ·exact(o1.lt k hk).2
 ·exact(o2.lt k hk).2
theorem fr {b:Nat} {S:Pg.Fs} {F:Nat->Prop} (hf:zh w0 b S F) (h:vD w0 bp c p X V w):zh w b S F:=
 hf.keep (G:=fun k=>w0.heap.size<=k) (w':=w) ⟨h.bel.os,h.bel.tape,h.bel.output,h.bel.size,fun k hk _=>h.bel.block k hk⟩ (fun k hk=>by have:=hf.lt hk;omega)
end vD
theorem qt.set7 {c:Nat} {lv:Int} {e:Pg.En} {v1 v2:ua} {w:E} (h:qt c lv e v1 v2 w) (v:ua):qt c lv e v v2 (w.setCell ⟨c,7,B⟩ v):=
 ⟨(U _ _ _ _ (by simp)).trans h.c0,(U _ _ _ _ (by simp)).trans h.c1,(U _ _ _ _ (by simp)).trans h.c2,(U _ _ _ _ (by simp)).trans h.c3,(U _ _ _ _ (by simp)).trans h.c4,(U _ _ _ _ (by simp)).trans h.c5,(U _ _ _ _ (by simp)).trans h.c6,yY _ _ _ h.c7,(U _ _ _ _ (by simp)).trans h.c8,fun o=>by rw[yT];exact h.fz o⟩
theorem qt.set8 {c:Nat} {lv:Int} {e:Pg.En} {v1 v2:ua} {w:E} (h:qt c lv e v1 v2 w) (v:ua):qt c lv e v1 v (w.setCell ⟨c,8,B⟩ v):=
 ⟨(U _ _ _ _ (by simp)).trans h.c0,(U _ _ _ _ (by simp)).trans h.c1,(U _ _ _ _ (by simp)).trans h.c2,(U _ _ _ _ (by simp)).trans h.c3,(U _ _ _ _ (by simp)).trans h.c4,(U _ _ _ _ (by simp)).trans h.c5,(U _ _ _ _ (by simp)).trans h.c6,(U _ _ _ _ (by simp)).trans h.c7,yY _ _ _ h.c8,fun o=>by rw[yT];exact h.fz o⟩
structure ygV (c:Nat) (v:ua) (W w3:E) (g:Nat):Prop where
 but:But (fun k=>v.ownBlock=Y k) W w3
 far:∀k,v.ownBlock=Y k->c<k
 gc:c<g
 gl:g<w3.heap.size
 at':v.ownBlock=Y g\/W.heap.size<=g
theorem ygG {c:Nat} {e:TypeId} {size n g:Nat} {v:ua} {xs:List ua} {W w3:E} {o:Obj} (hl:W.ownsRow (c+1) e size v n xs) (hg:(W.alloc o).grownBy w3 v.ownBlock) (hat:v.ownBlock=Y g\/g=W.heap.size+1) (hc:c<W.heap.size) (Hf:g<w3.heap.size):ygV c v W w3 g:=by
 refine⟨((But.refl _ W).alloc o).grown hg fun k hk=> .inr hk,fun k hk=>(hl.lt k hk).1,?_,Hf,hat.imp id fun h=>by omega⟩;rcases hat with h|h
 ·exact(hl.lt g h).1
 ·omega
theorem yeo {bp:Nat} (i lv:Nat) (p:Int) (hp:Pg.below p 4096=Z) (hl:lv<4) (w:E) (hc:w.cell? ⟨bp,0,B⟩=Y (I J p)):
 uc z 214 #[I J (i:Int),I J (lv:Int),M (Y ⟨bp,0,B⟩)] w fun e w'=>e=kO (P (Pg.onW p i lv))/\w'=w:=by
 have HI:=vO p (lv:Int);rw[Pg.yhY hp hl]at HI
 have HE:O (((i:Int)==((Pg.ix p lv:Nat):Int))=Pg.onW p i lv):=by
  rw[O,Bool.eq_iff_iff];simp only[Pg.onW,beq_iff_eq,decide_eq_true_eq];omega
 go_enter Tryz.func214,Tryz.ntmps214
 go_wp2_with fail
 refine(HI _).mono ?_;rintro e w1 ⟨rfl,rfl⟩
 go_wp2
 go_ret
 exact⟨zV HE.out,rfl⟩
theorem yeN {w0:E} {bp c:Nat} {p:Int} (s:Pg.Sp) (X:List Pg.Sp) (V:Nat->Prop) (w:E) (Hg:X.length<4680) (hR:vD w0 bp c p X V w):
 uc z 215 #[s.val,M (Y ⟨c,0,B⟩)] w fun e w'=>e=kO (ur #[])/\∃V',vD w0 bp c p (X++[s]) V' w'/\But V w w'/\∀k,V' k->V k\/w.heap.size<=k:=by
 have HR:O _:=hR;obtain⟨uZ,Rq,hpc,hpb,v1,v2,hs,o1,o2,Ho,hV⟩:=hR;have nV:=hs.lb;obtain⟨c0,c1,c2,c3,c4,c5,c6,c7,c8,Ro⟩:=hs;obtain⟨q0,hq,rW,tJ,rX⟩:=info_parts qE;obtain⟨st,sp,sl,sa,⟨et,el,er,eu,ed,ef⟩⟩:=s;simp only[Pg.Sp.val]
 have iG:c≠w.heap.size:=by omega
 have Al:w.heap.size≠c:=by omega
 generalize yhQ X=xl at*;generalize yhO X=xe at*;clear hpc;have wK:O (w.ownsRow (c+1) 3 1 v1 X.length (xn (tabs X))):=o1;have Ta:O (w.ownsRow (c+1) 3 1 v2 X.length (xn (qL X))):=o2;have HN:O _:=Ho;clear Ho o1 o2 uZ;obtain⟨W2,Hy⟩:=eY (((((((((w.setCell ⟨c,0,B⟩ (I J (sl:Int))).setCell ⟨c,1,B⟩ (P et)).setCell ⟨c,2,B⟩ (P el)).setCell ⟨c,3,B⟩ (I J er)).setCell ⟨c,4,B⟩ (P eu)).setCell ⟨c,5,B⟩ (P ed)).setCell ⟨c,6,B⟩ (I J ef)).alloc (kh #[I J st,I J (sp:Int),I J (sl:Int),I J (sa:Int),P et,P el,I J er,P eu,P ed,I J ef] 198)).drew)
 have iD:qt c (sl:Int) ⟨et,el,er,eu,ed,ef⟩ v1 v2 W2:=by
  rw[Hy]
  refine⟨?_,?_,?_,?_,?_,?_,?_,?_,?_,fun o=> ?_⟩<;>simp[go_sem,c0,c1,c2,c3,c4,c5,c6,c7,c8,Ro,nV]
 have tL:But (fun k=>k=c) w W2:=by
  rw[Hy];exact(((((((((But.refl (fun k=>k=c) w).setCell (a:=⟨c,0,B⟩) (.inr rfl) _).setCell (a:=⟨c,1,B⟩) (.inr rfl) _).setCell (a:=⟨c,2,B⟩) (.inr rfl) _).setCell (a:=⟨c,3,B⟩) (.inr rfl) _).setCell (a:=⟨c,4,B⟩) (.inr rfl) _).setCell (a:=⟨c,5,B⟩) (.inr rfl) _).setCell (a:=⟨c,6,B⟩) (.inr rfl) _).alloc _).drew
 have x0:W2.cell? ⟨w.heap.size,0,B⟩=Y (I J st):=by rw[Hy];simp[go_sem]
 have x1:W2.cell? ⟨w.heap.size,1,B⟩=Y (I J (sp:Int)):=by rw[Hy];simp[go_sem]
 have wN:O _:=iD;have Ht:O _:=tL;have uV:O _:=x1
 have Hq:W2.ownsRow (c+1) 3 1 v1 X.length (xn (tabs X)):=zc wK.out tL fun k hk e=>by have:=(wK.out.lt k hk).1;omega
 have ll:W2.ownsRow (c+1) 3 1 v2 X.length (xn (qL X)):=zc Ta.out tL fun k hk e=>by have:=(Ta.out.lt k hk).1;omega
 have su:=iD.lb;have mK:w.heap.size<W2.heap.size:=kp _ _ x0;have d7:=iD.c7;have iI:=iD.fz;have wL:O (W2.ownsRow (c+1) 3 1 v2 X.length (xn (qL X))):=ll;clear iD tL ll
 go_enter Tryz.func215,Tryz.ntmps215
 go_wp2_with fail
 go_region
 rw[<-Hy];clear Hy c0 c1 c2 c3 c4 c5 c6 c7 c8 Ro
 go_wp2_with (first
  | (at_builtin;refine wpList_append_lies _ rfl _ _ 45 rfl (c+1) 3 q0 (I J 0) 1 8 Tryz.underlying45 hq rW tJ rX rfl (by decide) _ _ _ rfl (Hq.alloc _) ⟨W2.heap.size,0,B⟩ 1 1 [I J st] rfl rfl ?c1 ?c2 (by decide) ?c3 ?c4 ?c5 (W2.heap.size+1) (by simp) ?_))
 case c1=>
  intro j u hj
  match j,hj with
  | 0,hj=>simp at hj;subst hj;simp[Addr.add,go_sem]
 case c2=>intro u hu;simp at hu;subst hu;rfl
 case c3=>unfold maxLen;omega
 case c4=>omega
 case c5=>simp;omega
 intro g cap w3 tC Hr hat fC;have G3:O _:=ygG Hq Hr hat su fC
 have tN:w3.heap[c]?=W2.heap[c]?:=G3.out.but.block c su fun e=>by have:=G3.out.far c e;omega
 have S3:O _:=wN.out.of_block tN;have S4:O _:=S3.out.set7 (H (Y ⟨g,0,B⟩) (X.length+1) cap);have e7:=S3.out.c7;have ef7:=S3.out.fz 7
 have B4:O (But (fun k=>k=c\/v1.ownBlock=Y k) W2 (w3.setCell ⟨c,7,B⟩ (H (Y ⟨g,0,B⟩) (X.length+1) cap))):=
  (G3.out.but.mono fun _ _ h=> .inr h).setCell (.inr (.inl rfl)) _
 have O4:O ((w3.setCell ⟨c,7,B⟩ (H (Y ⟨g,0,B⟩) (X.length+1) cap)).ownsRow (c+1) 3 1 (H (Y ⟨g,0,B⟩) (X.length+1) cap) (X.length+1) (xn (tabs X)++[I J st])):=
  zb tC fun k hk=>ud _ _ _ _ (fun e=>by have e1:g=k:=(by simpa[uv]using hk);have:=G3.out.gc;have e2:k=c:=e;omega)
 have mM:(w3.setCell ⟨c,7,B⟩ (H (Y ⟨g,0,B⟩) (X.length+1) cap)).ownsRow (c+1) 3 1 v2 X.length (xn (qL X)):=
  zc wL.out B4.out fun k hk e=>by
   rcases e with e|e
   ·have:=(ue.lt wL.out k hk).1;omega
   ·exact HN.out k e hk
 have dn:=G3.out.but.size;have e8:=S3.out.c8;have LP:=S3.out.fz 8
 have nE:v1.ownBlock≠Y w.heap.size:=fun e=>by have:=(ue.lt wK.out _ e).2;omega
 have y1:w3.cell? ⟨w.heap.size,1,B⟩=Y (I J (sp:Int)):=(G3.out.but.cell (a:=⟨w.heap.size,1,B⟩) mK nE).trans uV.out
 have lN:c<w3.heap.size:=by omega
 have nI:w.heap.size<w3.heap.size:=by omega
 have BS:(w3.setCell ⟨c,7,B⟩ (H (Y ⟨g,0,B⟩) (X.length+1) cap)).heap.size=w3.heap.size:=by simp
 clear Hq tC Hr hat fC tN x0 x1 d7 iI
 go_wp2_with (first
  | (at_builtin;refine wpList_append_lies _ rfl _ _ 45 rfl (c+1) 3 q0 (I J 0) 1 8 Tryz.underlying45 hq rW tJ rX rfl (by decide) _ _ _ rfl (mM.alloc _) ⟨w3.heap.size,0,B⟩ 1 1 [I J (sp:Int)] rfl rfl ?d1 ?d2 (by decide) ?d3 ?d4 ?d5 (w3.heap.size+1) (by simp) ?_))
 case d1=>
  intro j u hj
  match j,hj with
  | 0,hj=>simp at hj;subst hj;simp[Addr.add,go_sem]
 case d2=>intro u hu;simp at hu;subst hu;rfl
 case d3=>unfold maxLen;omega
 case d4=>omega
 case d5=>simp;omega
 intro g5 cap5 w5 TD iK Gu Bh;have G5:O _:=ygG mM iK (by simpa using Gu) (by simp;omega) Bh
 have tN:w5.heap[c]?=_:=G5.out.but.block c (by simp;omega) fun e=>by have:=G5.out.far c e;omega
 have S5:O _:=S4.out.of_block tN;have S6:O _:=S5.out.set8 (H (Y ⟨g5,0,B⟩) (X.length+1) cap5);have k8:=S5.out.c8;have kf8:=S5.out.fz 8
 have PX:g≠g5:=by
  have h1:=G3.out.gl;rcases G5.out.at' with h5|h5
  ·rcases G3.out.at' with h3|h3
   ·intro e;exact HN.out g h3 (e▸h5)
   ·have:=(ue.lt wL.out g5 h5).2;omega
  ·rw[BS]at h5;omega
 have O6:O ((w5.setCell ⟨c,8,B⟩ (H (Y ⟨g5,0,B⟩) (X.length+1) cap5)).ownsRow (c+1) 3 1 (H (Y ⟨g5,0,B⟩) (X.length+1) cap5) (X.length+1) (xn (qL X)++[I J (sp:Int)])):=
  zb TD fun k hk=>ud _ _ _ _ (fun e=>by have e1:g5=k:=(by simpa[uv]using hk);have:=G5.out.gc;have e2:k=c:=e;omega)
 have B6:O (But (fun k=>k=c\/v2.ownBlock=Y k) (w3.setCell ⟨c,7,B⟩ (H (Y ⟨g,0,B⟩) (X.length+1) cap)) (w5.setCell ⟨c,8,B⟩ (H (Y ⟨g5,0,B⟩) (X.length+1) cap5))):=
  (G5.out.but.mono fun _ _ h=> .inr h).setCell (.inr (.inl rfl)) _
 have O7:O ((w5.setCell ⟨c,8,B⟩ (H (Y ⟨g5,0,B⟩) (X.length+1) cap5)).ownsRow (c+1) 3 1 (H (Y ⟨g,0,B⟩) (X.length+1) cap) (X.length+1) (xn (tabs X)++[I J st])):=
  zc O4.out B6.out fun k hk e=>by
   have e1:g=k:=by simpa[uv]using hk
   have:=G3.out.gc;rcases e with e|e
   ·omega
   ·rcases G3.out.at' with h3|h3
    ·exact HN.out g h3 (e1▸e)
    ·have:=(ue.lt wL.out k e).2;omega
 have fin:O (∃V',vD w0 bp c p (X++[⟨st,sp,sl,sa,⟨et,el,er,eu,ed,ef⟩⟩]) V' (w5.setCell ⟨c,8,B⟩ (H (Y ⟨g5,0,B⟩) (X.length+1) cap5))/\But V w (w5.setCell ⟨c,8,B⟩ (H (Y ⟨g5,0,B⟩) (X.length+1) cap5))/\∀k,V' k->V k\/w.heap.size<=k):=by
  have bn:But V w (w5.setCell ⟨c,8,B⟩ (H (Y ⟨g5,0,B⟩) (X.length+1) cap5)):=by
   rw[hV];refine((Ht.out.mono fun _ _ h=> .inl h).trans B4.out fun i _ h=> ?_).trans B6.out fun i _ h=> ?_
   ·exact h.imp id .inl
   ·exact h.imp id .inr
  have Gm:∀k,V k->c<=k:=by
   rw[hV];rintro k (rfl|h|h)
   ·exact un _
   ·have:=(ue.lt wK.out k h).1;omega
   ·have:=(ue.lt Ta.out k h).1;omega
  have hbp:¬V bp:=fun h=>by have:=Gm bp h;omega
  refine⟨_,⟨HR.out.bel.trans (bn.below HR.out.bel.size fun k hk=>yO Rq (Gm k hk)),Rq,?_,hpb,H (Y ⟨g,0,B⟩) (X.length+1) cap,H (Y ⟨g5,0,B⟩) (X.length+1) cap5,?_,?_,?_,?_,rfl⟩,bn,fun k hk=> ?_⟩
  ·exact(bn.cell (a:=⟨bp,0,B⟩) (by show bp<w.heap.size;omega) hbp).trans HR.out.pc
  ·rw[jd,jc];exact S6.out
  ·rw[ycq,yU,yF];exact O7.out
  ·rw[ye5,yU,yF];exact O6.out
  ·intro k hk bE
   have e1:g=k:=by simpa[uv]using hk
   have e2:g5=k:=by simpa[uv]using bE
   exact PX (e1.trans e2.symm)
  ·rw[hV]
   rcases hk with rfl|hk|hk
   ·exact .inl (.inl rfl)
   ·have e1:g=k:=by simpa[uv]using hk
    subst e1;rcases G3.out.at' with h3|h3
    ·exact .inl (.inr (.inl h3))
    ·exact .inr (by omega)
   ·have e1:g5=k:=by simpa[uv]using hk
    subst e1;rcases G5.out.at' with h3|h3
    ·exact .inl (.inr (.inr h3))
    ·rw[BS]at h3;exact .inr (by omega)
 clear mM TD iK Gu Bh tN PX e7 ef7 e8 LP y1
 go_wp2
 go_end0
 exact⟨rfl,fin.out⟩
theorem yb1:∀args w,(callFunc 214 args).run z w= .ok (.enter 214 args) w:=fun args w=>by simp[go_sem]
theorem yb2:∀args w,(callFunc 215 args).run z w= .ok (.enter 215 args) w:=fun args w=>by simp[go_sem]
theorem ydP {b:Nat} {S:Pg.Fs} {F:Nat->Prop} {w0:E} {bp c:Nat} {p:Int} (hp:Pg.below p 4096=Z) (h:zh w0 b S F):
 ycx b S F 214 215 #[M (Y ⟨bp,0,B⟩)] #[M (Y ⟨c,0,B⟩)] (Pg.onW p) (vD w0 bp c p):=
 ⟨yb1,yb2,fun _ _ _ hR=>hR.fr h,fun _ _ _ hR _ hk=>hR.lt hk,fun _ _ _ _ hR hb=>hR.grow hb,
  fun i lv _ _ w _ hl hR=>xy (yeo i lv p hp hl w hR.pc),fun s X V w _ _ _ hl hR=>yeN s X V w hl hR⟩
def zg (S:Pg.Fs) (t p:Int):List Pg.Sp:=if Pg.below p 4096=Z/\(Pg.thr S (Pg.onW p) 3 t 0).2=0 then(Pg.thr S (Pg.onW p) 3 t 0).1 else []
def xQ (S:Pg.Fs) (t p:Int):Int:=if Pg.below p 4096=Z then(Pg.thr S (Pg.onW p) 3 t 0).2 else 1
def ycn (X:List Pg.Sp) (v1 v2:ua):ua:=yP #[I J (yhQ X),P (yhO X).t,P (yhO X).l,I J (yhO X).r,P (yhO X).u,P (yhO X).d,I J (yhO X).f,v1,v2]
theorem ygL {w w':E} {b:Nat} {v0 v1 v2 v3 v4 v5 v6 v7 v8:ua} (hk:w'.heap[b]?=w.heap[b]?)
 (h:w.cell? ⟨b,0,B⟩=Y v0/\w.cell? ⟨b,1,B⟩=Y v1/\w.cell? ⟨b,2,B⟩=Y v2/\w.cell? ⟨b,3,B⟩=Y v3/\w.cell? ⟨b,4,B⟩=Y v4/\w.cell? ⟨b,5,B⟩=Y v5/\w.cell? ⟨b,6,B⟩=Y v6/\w.cell? ⟨b,7,B⟩=Y v7/\w.cell? ⟨b,8,B⟩=Y v8):
 w'.cell? ⟨b,0,B⟩=Y v0/\w'.cell? ⟨b,1,B⟩=Y v1/\w'.cell? ⟨b,2,B⟩=Y v2/\w'.cell? ⟨b,3,B⟩=Y v3/\w'.cell? ⟨b,4,B⟩=Y v4/\w'.cell? ⟨b,5,B⟩=Y v5/\w'.cell? ⟨b,6,B⟩=Y v6/\w'.cell? ⟨b,7,B⟩=Y v7/\w'.cell? ⟨b,8,B⟩=Y v8:=
 ⟨(N hk).trans h.1,(N hk).trans h.2.1,(N hk).trans h.2.2.1,(N hk).trans h.2.2.2.1,(N hk).trans h.2.2.2.2.1,(N hk).trans h.2.2.2.2.2.1,(N hk).trans h.2.2.2.2.2.2.1,(N hk).trans h.2.2.2.2.2.2.2.1,(N hk).trans h.2.2.2.2.2.2.2.2⟩
theorem ydk {F:Nat->Prop} {w w1:E} (h:But F w w1) (r:Nat) (hr:w.heap.size<=r\/F r) (x0 x1 x2 x3 x4 x5 x6 x7 x8:ua):
 But F w (((((((((w1.setCell ⟨r,0,B⟩ x0).setCell ⟨r,1,B⟩ x1).setCell ⟨r,2,B⟩ x2).setCell ⟨r,3,B⟩ x3).setCell ⟨r,4,B⟩ x4).setCell ⟨r,5,B⟩ x5).setCell ⟨r,6,B⟩ x6).setCell ⟨r,7,B⟩ x7).setCell ⟨r,8,B⟩ x8):=
 ((((((((h.setCell (a:=⟨r,0,B⟩) hr x0).setCell (a:=⟨r,1,B⟩) hr x1).setCell (a:=⟨r,2,B⟩) hr x2).setCell (a:=⟨r,3,B⟩) hr x3).setCell (a:=⟨r,4,B⟩) hr x4).setCell (a:=⟨r,5,B⟩) hr x5).setCell (a:=⟨r,6,B⟩) hr x6).setCell (a:=⟨r,7,B⟩) hr x7).setCell (a:=⟨r,8,B⟩) hr x8
theorem yfn {b:Nat} {S:Pg.Fs} {F:Nat->Prop} (t p:Int) (w:E) (h:zh w b S F):
 uc z 189 #[M (Y ⟨b,0,B⟩),I J t,I J p] w fun e w'=>∃v1 v2,e=kO (ur #[ycn (zg S t p) v1 v2,I J (xQ S t p)])/\w'.ownsRow w.heap.size 3 1 v1 (zg S t p).length (xn (tabs (zg S t p)))/\w'.ownsRow w.heap.size 3 1 v2 (zg S t p).length (xn (qL (zg S t p)))/\(∀k,v1.ownBlock=Y k->v2.ownBlock≠Y k)/\Lw w w':=by
 have HH:=xj p;cases hp:Pg.below p 4096
 ·have e1:zg S t p=[]:=by simp[zg,hp]
  have e2:xQ S t p=1:=by simp[xQ,hp]
  rw[e1,e2];rw[hp]at HH;clear h e1 e2
  go_enter Tryz.func189,Tryz.ntmps189
  go_wp2_with fail
  refine(HH _).mono ?_;rintro e w1 ⟨rfl,rfl⟩
  go_wp2
  refine A (v:=ur #[ycn [] (H B 0 0) (H B 0 0),I J 1]) ?_ rfl ⟨H B 0 0,H B 0 0,rfl,yI _ _ _ _,yI _ _ _ _,fun k hk=>by simp[uv]at hk,?_⟩
  ·simp[results,Tryz.results189,go_sem,ycn,yhQ,yhO,Pg.En.zero]
  ·exact zA (zA (zR w) _) _
 ·have e2:xQ S t p=(Pg.thr S (Pg.onW p) 3 t 0).2:=by simp[xQ,hp]
  have e1:zg S t p=if (Pg.thr S (Pg.onW p) 3 t 0).2=0 then(Pg.thr S (Pg.onW p) 3 t 0).1 else []:=by simp[zg,hp]
  rw[e1,e2];rw[hp]at HH;obtain⟨W,hW⟩:=eY (((w.alloc (kh #[I J p] 3)).alloc (kh #[I J 0,P T,P T,I J 0,P T,P T,I J 0,H B 0 0,H B 0 0] 211)).alloc (kh #[I J 0,P T,P T,I J 0,P T,P T,I J 0,H B 0 0,H B 0 0] 211))
  have hB:Lw w W:=by rw[hW];exact zA (zA (zA (zR w) _) _) _
  have hK:vD w w.heap.size (w.heap.size+2) p [] (fun k=>k=w.heap.size+2\/(yV B 0 0).ownBlock=Y k\/(yV B 0 0).ownBlock=Y k) W:=by
   refine⟨hB,by omega,by rw[hW];simp[go_sem],by omega,H B 0 0,H B 0 0,?_,yI _ _ _ _,yI _ _ _ _,fun k hk=>by simp[uv]at hk,rfl⟩;rw[hW]
   refine⟨?_,?_,?_,?_,?_,?_,?_,?_,?_,fun o=> ?_⟩<;>simp[go_sem,yhQ,yhO,Pg.En.zero]
  have HC:O _:=ybq (ydP hp h) t _ W hK
  have aj:W.cell? ⟨w.heap.size+1,0,B⟩=Y (I J 0)/\W.cell? ⟨w.heap.size+1,1,B⟩=Y (P T)/\W.cell? ⟨w.heap.size+1,2,B⟩=Y (P T)/\W.cell? ⟨w.heap.size+1,3,B⟩=Y (I J 0)/\W.cell? ⟨w.heap.size+1,4,B⟩=Y (P T)/\W.cell? ⟨w.heap.size+1,5,B⟩=Y (P T)/\W.cell? ⟨w.heap.size+1,6,B⟩=Y (I J 0)/\W.cell? ⟨w.heap.size+1,7,B⟩=Y (H B 0 0)/\W.cell? ⟨w.heap.size+1,8,B⟩=Y (H B 0 0):=by rw[hW];simp[go_sem]
  have oZ:∀o,W.frozen? ⟨w.heap.size+1,o,B⟩=T:=fun o=>by rw[hW];simp[go_sem]
  have WV:O _:=aj;have WU:O _:=oZ
  have rU:W.heap.size=w.heap.size+3:=by rw[hW];simp
  clear h hK hB e1 e2 aj oZ hp;generalize Pg.thr S (Pg.onW p) 3 t 0=th at*
  go_enter Tryz.func189,Tryz.ntmps189
  go_wp2_with fail
  refine(HH _).mono ?_;rintro e w1 ⟨rfl,rfl⟩
  go_wp2_with fail
  rw[<-hW];refine Calls.mono HC.out ?_;rintro e w1 ⟨rfl,V1,lL,Ha,dY⟩;have HB:O (Lw w w1):=lL.bel
  have tN:w1.heap[w.heap.size+1]?=W.heap[w.heap.size+1]?:=Ha.block _ (by omega) fun e=>by
   rcases e with e|e|e
   ·omega
   ·simp[uv]at e
   ·simp[uv]at e
  have R1:O _:=ygL tN WV.out;have F1:∀o,w1.frozen? ⟨w.heap.size+1,o,B⟩=T:=fun o=>(yB tN).trans (WU.out o);have dE:w.heap.size+1<w1.heap.size:=kp _ _ R1.out.1;obtain⟨r0,r1,r2,r3,r4,r5,r6,r7,r8⟩:=R1.out;clear Ha dY tN
  by_cases hc:th.2=0
  ·have bB:(th.2 !=0)=T:=by simp[hc]
   obtain⟨v1,v2,hs,o1,o2,Ho,_⟩:=lL.var;obtain⟨a1,c1,rfl⟩:=zF o1;obtain⟨a2,c2,rfl⟩:=zF o2;have RY:O (∀k,(yV a1 th.1.length c1).ownBlock=Y k->(yV a2 th.1.length c2).ownBlock≠Y k):=Ho;clear Ho;have O1:O (w1.ownsRow (w.heap.size+2+1) 3 1 (H a1 th.1.length c1) th.1.length (xn (tabs th.1))):=o1;have O2:O (w1.ownsRow (w.heap.size+2+1) 3 1 (H a2 th.1.length c2) th.1.length (xn (qL th.1))):=o2;have oJ:O _:=hc;obtain⟨s0,s1,s2,s3,s4,s5,s6,s7,s8,_⟩:=hs;clear lL o1 o2 hc;have HV:O (ycn th.1 (H a1 th.1.length c1) (H a2 th.1.length c2)=yP #[I J (yhQ th.1),P (yhO th.1).t,P (yhO th.1).l,I J (yhO th.1).r,P (yhO th.1).u,P (yhO th.1).d,I J (yhO th.1).f,H a1 th.1.length c1,H a2 th.1.length c2]):=rfl
   go_wp2
   refine A (v:=ur #[ycn th.1 (H a1 th.1.length c1) (H a2 th.1.length c2),I J 0]) ?_ rfl ?_
   ·rw[HV.out]
    simp[results,Tryz.results189,go_sem,r0,r1,r2,r3,r4,r5,r6,r7,r8]
   ·have fI:=ydk (But.refl (fun k=>k=w.heap.size+1) w1) (w.heap.size+1) (.inr rfl) (I J (yhQ th.1)) (P (yhO th.1).t) (P (yhO th.1).l) (I J (yhO th.1).r) (P (yhO th.1).u) (P (yhO th.1).d) (I J (yhO th.1).f) (H a1 th.1.length c1) (H a2 th.1.length c2)
    refine⟨H a1 th.1.length c1,H a2 th.1.length c2,rfl,?_,?_,RY.out,?_⟩
    ·exact ye4 (zc O1.out fI fun k hk e=>by have:=(ue.lt O1.out k hk).1;omega) (by omega)
    ·exact ye4 (zc O2.out fI fun k hk e=>by have:=(ue.lt O2.out k hk).1;omega) (by omega)
    ·exact HB.out.trans (fI.below HB.out.size fun k hk=>by omega)
  ·have bB:(th.2 !=0)=Z:=by simp[hc]
   have oJ:O _:=hc;clear lL hc
   go_wp2
   refine A (v:=ur #[ycn [] (H B 0 0) (H B 0 0),I J th.2]) ?_ rfl ?_
   ·simp[results,Tryz.results189,go_sem,r0,r1,r2,r3,r4,r5,r6,r7,r8,ycn,yhQ,yhO,Pg.En.zero]
   ·have fI:=ydk (But.refl (fun k=>k=w.heap.size+1) w1) (w.heap.size+1) (.inr rfl) (I J 0) (P T) (P T) (I J 0) (P T) (P T) (I J 0) (H B 0 0) (H B 0 0)
    exact⟨H B 0 0,H B 0 0,rfl,yI _ _ _ _,yI _ _ _ _,fun k hk=>by simp[uv]at hk,HB.out.trans (fI.below HB.out.size fun k hk=>by omega)⟩
end
def lastT (X:List Pg.Sp):Int:=match X.getLast? with
 | some s=>s.table
 | none=>0
namespace Pg
def tFC (S:Fs) (t p:Int):Int:=if xQ S t p≠0 then xQ S t p else if (yhO (zg S t p)).t=Z then 0 else 5
def tFM (S:Fs) (t p:Int):Mp:=if tFC S t p=0 then(yhO (zg S t p)).map (yhQ (zg S t p)) p else .zz
def tFE (S:Fs) (t p:Int):En:=if tFC S t p=0 then yhO (zg S t p)else En.zero
def insC (S:Fs) (t:Int) (m:Mp):Int:=
 if m.code≠0 then m.code else if xQ S t m.p≠0 then xQ S t m.p
 else if (yhO (zg S t m.p)).t=Z\/yhQ (zg S t m.p)<m.s then 4 else if S.free<yhQ (zg S t m.p)-m.s then 6 else 0
def insW (p s:Int):Nat->Fs->Int->Fs×Int
 | 0,S,t=>(S,t)
 | lv+1,S,t=>if ((lv+1:Nat):Int)<=s then(S,t)else insW p s lv (S.take.store t (index p ((lv+1:Nat):Int)) (enc Z T 7 T T S.takeN ((lv+1:Nat):Int))) S.takeN
def insS (S:Fs) (t:Int) (m:Mp):Fs:=if insC S t m=0 then
 (insW m.p m.s (yhQ (zg S t m.p)).toNat S (lastT (zg S t m.p))).1.store (insW m.p m.s (yhQ (zg S t m.p)).toNat S (lastT (zg S t m.p))).2 (index m.p m.s) (enc Z Z m.r T T m.f m.s)else S
def yhS (S:Fs) (t:Int):Bool:=(List.range 8).all fun i=>S.word t.toNat i==0
def rmW (p:Int) (ts:List Int):Nat->Fs->List Int->Fs×List Int
 | 0,S,G=>(S,G)
 | k+1,S,G=>if k=0\/yhS (S.store (ts.getD k 0) (index p (3-(k:Int))) 0) (ts.getD k 0)=T then(S.store (ts.getD k 0) (index p (3-(k:Int))) 0,G)
   else rmW p ts k (S.store (ts.getD k 0) (index p (3-(k:Int))) 0) (G++[ts.getD k 0])
def rmR (S:Fs) (t p:Int):Fs×List Int:=if tFC S t p=0 then rmW p (tabs (zg S t p)) (zg S t p).length S []else(S,[])
def prC (S:Fs) (t p r:Int):Int:=if r<0\/7<r then 1 else tFC S t p
def prM (S:Fs) (t p r:Int):Mp:=if prC S t p r=0 then(tFM S t p).rts r else .zz
def prS (S:Fs) (t p r:Int):Fs:=if prC S t p r=0 then
 S.store (lastT (zg S t p)) (index p (yhQ (zg S t p))) (enc (yhO (zg S t p)).t (yhO (zg S t p)).l r (yhO (zg S t p)).u (yhO (zg S t p)).d (yhO (zg S t p)).f (yhQ (zg S t p)))else S
theorem ylx (S:Fs) (p:Int):∀(lv:Nat) (t:Int) (a:Nat),(∀s,s ∈ (thr S (onW p) lv t a).1->S.has s.table=Z)/\
 ((thr S (onW p) lv t a).2=0->∃s,(thr S (onW p) lv t a).1.getLast?=Y s/\s.level+(thr S (onW p) lv t a).1.length=lv+1/\s.e=rEn S s.table (ix p s.level) s.level/\yhR S s.table (ix p s.level) s.level=0/\s.e.on=T):=by
 intro lv
 induction lv with
 | zero=>
   intro t a;rw[yid];split
   ·rename_i h1
    exact⟨fun s hs=>by simp at hs,fun h=>absurd h h1⟩
   ·rename_i h1
    have h1:yhR S t (ix p 0) 0=0:=by simpa using h1
    split
    ·rename_i h2
     refine⟨fun s hs=> ?_,fun _=>⟨spt S t (ix p 0) 0 a,rfl,rfl,rfl,h1,h2⟩⟩;simp at hs;subst hs;exact yhU h1
    ·rename_i h2
     obtain⟨m,hm⟩:=yib (S:=S) (t:=t) (i:=ix p 0) (lv:=0) (by simpa using h2);omega
 | succ lv ih=>
   intro t a;rw[yid];split
   ·rename_i h1
    exact⟨fun s hs=>by simp at hs,fun h=>absurd h h1⟩
   ·rename_i h1
    have h1:yhR S t (ix p (lv+1)) (lv+1)=0:=by simpa using h1
    split
    ·rename_i h2
     refine⟨fun s hs=> ?_,fun _=>⟨spt S t (ix p (lv+1)) (lv+1) a,rfl,rfl,rfl,h1,h2⟩⟩;simp at hs;subst hs;exact yhU h1
    ·rename_i h2
     obtain⟨i1,i2⟩:=ih (rEn S t (ix p (lv+1)) (lv+1)).f ((a+ix p (lv+1))*8);refine⟨fun s hs=> ?_,fun hz=> ?_⟩
     ·simp at hs
      rcases hs with rfl|hs
      ·exact yhU h1
      ·exact i1 s hs
     ·obtain⟨s,j1,j2,j3⟩:=i2 hz
      refine⟨s,?_,?_,j3⟩
      ·simp only[sub]
       rw[List.getLast?_cons,j1];rfl
      ·simp only[sub,List.length_cons]
       omega
structure Way (S:Fs) (t p:Int) (X:List Sp) (lv:Nat) (e:En) (tl:Int):Prop where
 below:below p 4096=Z
 has:∀x,x ∈ tabs X->S.has x=Z
 len:lv+X.length=4
 yhQ:yhQ X=(lv:Int)
 yhO:yhO X=e
 lastT:lastT X=tl
 hasT:S.has tl=Z
 en:e=rEn S tl (ix p lv) lv
 code:yhR S tl (ix p lv) lv=0
 on:e.on=T
theorem ykQ {S:Fs} {t p:Int} (h:xQ S t p=0):∃lv e tl,Way S t p (zg S t p) lv e tl:=by
 have hp:Pg.below p 4096=Z:=by
  cases hp:Pg.below p 4096
  ·simp[xQ,hp]at h
  ·rfl
 have hz:(thr S (onW p) 3 t 0).2=0:=by simpa[xQ,hp]using h
 have eX:zg S t p=(thr S (onW p) 3 t 0).1:=by simp[zg,hp,hz]
 obtain⟨h1,h2⟩:=ylx S p 3 t 0;obtain⟨s,j1,j2,j3,j4,j5⟩:=h2 hz;have hs:s ∈ (thr S (onW p) 3 t 0).1:=yQ j1;refine⟨s.level,s.e,s.table,hp,fun x hx=> ?_,?_,?_,?_,?_,h1 s hs,?_,?_,j5⟩
 ·rw[eX]at hx
  simp only[tabs,List.mem_map]at hx;obtain⟨s',nK,rfl⟩:=hx;exact h1 s' nK
 ·rw[eX];exact j2
 ·rw[eX];unfold Go.Proofs.YtdphiompijbelaaGreat.yhQ;rw[j1]
 ·rw[eX];unfold Go.Proofs.YtdphiompijbelaaGreat.yhO;rw[j1]
 ·rw[eX];unfold Go.Proofs.YtdphiompijbelaaGreat.lastT;rw[j1]
 ·exact j3
 ·exact j4
theorem yix (S:Fs) (t i v:Int):(S.store t i v).n=S.n/\(S.store t i v).used=S.used/\(S.store t i v).back=S.back/\(S.store t i v).next=S.next:=by
 unfold Fs.store
 split<;>exact⟨rfl,rfl,rfl,rfl⟩
theorem yiu (S:Fs) (t i v x:Int):(S.store t i v).has x=S.has x:=by
 unfold Fs.has Fs.inn;rw[(yix S t i v).2.1]
theorem yjE (S:Fs) (t i v:Int):(S.store t i v).free=S.free:=by
 obtain⟨h1,_,h3,h4⟩:=yix S t i v;unfold Fs.free;rw[h1,h3,h4]
theorem ykM {S:Fs} (h:S.Ok) (hf:0<S.free):∃k:Nat,S.pick=Y k/\S.takeN=(k:Int)/\k<S.n/\S.take.has (k:Int)=Z/\(∀x,S.has x=Z->S.take.has x=Z)/\S.take.free=S.free-1/\S.take.n=S.n:=by
 unfold Fs.free at hf;have ht:=h.top;unfold Fs.takeN Fs.pick Fs.take Fs.has Fs.inn Fs.free
 cases hb:S.back.getLast? with
 | some k=>
   have hl:S.back=S.back.dropLast++[k]:=by
    obtain⟨l,hl⟩:=List.getLast?_eq_some_iff.1 hb;simp[hl]
   have Hg:S.back.length=S.back.dropLast.length+1:=by
    have:=congrArg List.length hl
    simpa using this
   have hk:k<S.n:=by
    have:=h.yk3 (yQ hb);omega
   refine⟨k,rfl,rfl,hk,by simp,fun x hx=> ?_,?_,rfl⟩
   ·simp at hx ⊢
    exact⟨hx.1,.inr hx.2⟩
   ·simp only
    omega
 | none=>
   have Kv:S.back=[]:=by simpa using hb
   rw[Kv]at hf;simp at hf
   have Hf:S.next<S.n:=by omega
   simp only[Hf,if_true];refine⟨S.next,rfl,rfl,Hf,by simp,fun x hx=> ?_,?_,trivial⟩
   ·simp at hx ⊢
    exact⟨hx.1,.inr hx.2⟩
   ·omega
theorem yk9 (t l:Bool) (r:Int) (u d:Bool) (f lv:Int):0<=enc t l r u d f lv/\enc t l r u d f lv<18446744073709551616:=by
 unfold enc;split
 ·rename_i h
  obtain⟨_,hc⟩:=yh0 h;unfold yiY b01;rcases hc with ⟨rfl,_⟩|⟨rfl,r0,r1,f0,f1,_⟩
  ·simp
  ·simp only[if_true]
   split<;>split<;>split<;>omega
 ·omega
end Pg
section
open Go.Sort
structure xi (w:E) (b o:Nat) (root:Int) (K:Pg.Wk):Prop where
 c0:w.cell? ⟨b,o,B⟩=Y (I J root)
 c1:w.cell? ⟨b,o+1,B⟩=Y (P K.on)
 c2:w.cell? ⟨b,o+2,B⟩=Y (I J K.q)
 c3:w.cell? ⟨b,o+3,B⟩=Y (I J K.k)
 c4:w.cell? ⟨b,o+4,B⟩=Y (P K.u)
 c5:w.cell? ⟨b,o+5,B⟩=Y (I J K.t)
 c6:w.cell? ⟨b,o+6,B⟩=Y (I J (K.lv:Int))
 c7:w.cell? ⟨b,o+7,B⟩=Y (I yK K.x)
 fb:∀p,w.frozen? ⟨b,p,B⟩=T
theorem xi.lb {w:E} {b o:Nat} {root:Int} {K:Pg.Wk} (h:xi w b o root K):b<w.heap.size:=kp _ _ h.c0
theorem xi.of_block {w w':E} {b o:Nat} {root:Int} {K:Pg.Wk} (h:xi w b o root K) (hk:w'.heap[b]?=w.heap[b]?):xi w' b o root K:=
 ⟨(N hk).trans h.c0,(N hk).trans h.c1,(N hk).trans h.c2,(N hk).trans h.c3,(N hk).trans h.c4,(N hk).trans h.c5,(N hk).trans h.c6,(N hk).trans h.c7,fun p=>(yB hk).trans (h.fb p)⟩
theorem xi.keep {w w':E} {b o:Nat} {root:Int} {K:Pg.Wk} {F:Nat->Prop} (h:xi w b o root K) (hb:But F w w') (hF:¬F b):xi w' b o root K:=h.of_block (hb.block b h.lb hF)
theorem xi.grow {w w':E} {b o:Nat} {root:Int} {K:Pg.Wk} (h:xi w b o root K) (hb:Lw w w'):xi w' b o root K:=h.of_block (hb.block b h.lb)
structure Ch8 (b o:Nat) (F:Nat->Prop) (w w':E):Prop where
 but:But F w w'
 oth:∀p,p<o\/o+8<=p->w'.cell? ⟨b,p,B⟩=w.cell? ⟨b,p,B⟩
namespace Ch8
variable {b o:Nat} {F G:Nat->Prop} {w w1 w2:E}
theorem refl (b o:Nat) (F:Nat->Prop) (w:E):Ch8 b o F w w:=⟨But.refl _ _,fun _ _=>rfl⟩
theorem yhJ (h:Lw w w1) (hb:b<w.heap.size):Ch8 b o F w w1:=⟨But.yhJ h,fun p _=>h.cell (p:=⟨b,p,B⟩) hb⟩
theorem trans (h:Ch8 b o F w w1) (k:Ch8 b o G w1 w2) (hG:∀i,i<w.heap.size->G i->F i):Ch8 b o F w w2:=
 ⟨h.but.trans k.but hG,fun p hp=>(k.oth p hp).trans (h.oth p hp)⟩
theorem mono (h:Ch8 b o F w w1) (hG:∀i,i<w.heap.size->F i->G i):Ch8 b o G w w1:=⟨h.but.mono hG,h.oth⟩
theorem yl9 (h:But F w w1) (hb:b<w.heap.size) (hF:¬F b):Ch8 b o F w w1:=⟨h,fun p _=>h.cell (a:=⟨b,p,B⟩) hb hF⟩
theorem set (h:Ch8 b o F w w1) (hF:F b) (j:Nat) (hj:j<8) (v:ua):Ch8 b o F w (w1.setCell ⟨b,o+j,B⟩ v):=
 ⟨h.but.setCell (.inr hF) v,fun p hp=>(U _ _ _ _ (fun e=>by injection e with _ e;omega)).trans (h.oth p hp)⟩
theorem set0 (h:Ch8 b o F w w1) (hF:F b) (v:ua):Ch8 b o F w (w1.setCell ⟨b,o,B⟩ v):=h.set hF 0 (by decide) v
theorem drew (h:Ch8 b o F w w1):Ch8 b o F w w1.drew:=⟨h.but.drew,h.oth⟩
end Ch8
structure vu (w:E) (b:Nat) (K:Pg.Wk) (t lv x:Int):Prop where
 c1:w.cell? ⟨b,1,B⟩=Y (P K.on)
 c2:w.cell? ⟨b,2,B⟩=Y (I J K.q)
 c3:w.cell? ⟨b,3,B⟩=Y (I J K.k)
 c4:w.cell? ⟨b,4,B⟩=Y (P K.u)
 c5:w.cell? ⟨b,5,B⟩=Y (I J t)
 c6:w.cell? ⟨b,6,B⟩=Y (I J lv)
 c7:w.cell? ⟨b,7,B⟩=Y (P (decide (K.x≠0)))
 c8:w.cell? ⟨b,8,B⟩=Y (I yK x)
 fb:∀p,w.frozen? ⟨b,p,B⟩=T
 at':K.on=Z->t=K.t/\lv=(K.lv:Int)
 wd:K.x≠0->x=K.x
theorem vu.lb {w:E} {b:Nat} {K:Pg.Wk} {t lv x:Int} (h:vu w b K t lv x):b<w.heap.size:=kp _ _ h.c1
theorem vu.of_block {w w':E} {b:Nat} {K:Pg.Wk} {t lv x:Int} (h:vu w b K t lv x) (hk:w'.heap[b]?=w.heap[b]?):vu w' b K t lv x:=
 ⟨(N hk).trans h.c1,(N hk).trans h.c2,(N hk).trans h.c3,(N hk).trans h.c4,(N hk).trans h.c5,(N hk).trans h.c6,(N hk).trans h.c7,(N hk).trans h.c8,fun p=>(yB hk).trans (h.fb p),h.at',h.wd⟩
theorem vu.keep {w w':E} {b:Nat} {K:Pg.Wk} {t lv x:Int} {F:Nat->Prop} (h:vu w b K t lv x) (hb:But F w w') (hF:¬F b):vu w' b K t lv x:=h.of_block (hb.block b h.lb hF)
theorem vu.grow {w w':E} {b:Nat} {K:Pg.Wk} {t lv x:Int} (h:vu w b K t lv x) (hb:Lw w w'):vu w' b K t lv x:=h.of_block (hb.block b h.lb)
def qN (w:E) (b:Nat) (K:Pg.Wk):Prop:=∃t lv x,vu w b K t lv x
set_option maxRecDepth 100000
attribute [local go_sem] Loose.gent
theorem qb {F:Nat->Prop} {w w1:E} (h:But F w w1) (r:Nat) (hr:w.heap.size<=r\/F r) (x0 x1 x2 x3 x4 x5 x6 x7 x8:ua):
 But F w (((((((((w1.setCell ⟨r,0,B⟩ x0).setCell ⟨r,1,B⟩ x1).setCell ⟨r,2,B⟩ x2).setCell ⟨r,3,B⟩ x3).setCell ⟨r,4,B⟩ x4).setCell ⟨r,5,B⟩ x5).setCell ⟨r,6,B⟩ x6).setCell ⟨r,7,B⟩ x7).setCell ⟨r,8,B⟩ x8):=
 ((((((((h.setCell (a:=⟨r,0,B⟩) hr x0).setCell (a:=⟨r,1,B⟩) hr x1).setCell (a:=⟨r,2,B⟩) hr x2).setCell (a:=⟨r,3,B⟩) hr x3).setCell (a:=⟨r,4,B⟩) hr x4).setCell (a:=⟨r,5,B⟩) hr x5).setCell (a:=⟨r,6,B⟩) hr x6).setCell (a:=⟨r,7,B⟩) hr x7).setCell (a:=⟨r,8,B⟩) hr x8
theorem yck {w:E} {r:Nat} {v0 v1 v2 v3 v4 v5 v6 v7 v8:ua} {t:TypeId} (h:w.heap[r]?=Y (kh #[v0,v1,v2,v3,v4,v5,v6,v7,v8] t (0,0))):
 (w.cell? ⟨r,0,B⟩=Y v0/\w.cell? ⟨r,1,B⟩=Y v1/\w.cell? ⟨r,2,B⟩=Y v2/\w.cell? ⟨r,3,B⟩=Y v3/\w.cell? ⟨r,4,B⟩=Y v4/\w.cell? ⟨r,5,B⟩=Y v5/\w.cell? ⟨r,6,B⟩=Y v6/\w.cell? ⟨r,7,B⟩=Y v7/\w.cell? ⟨r,8,B⟩=Y v8)/\∀i,w.frozen? ⟨r,i,B⟩=T:=
 ⟨by simp[yM,h],fun i=>by simp[yZ,h]⟩
theorem yfN (root:Int) (w:E):
 uc z 87 #[I J root] w fun e w'=>∃b,e=kO (M (Y ⟨b,0,B⟩))/\xi w' b 0 root Pg.Wk.off/\Lw w w'/\w.heap.size<=b:=by
 go_enter Tryz.func87,Tryz.ntmps87
 go_wp2
 go_ret
 refine⟨_,rfl,⟨?_,?_,?_,?_,?_,?_,?_,?_,fun p=> ?_⟩,zA (zR _) _,un _⟩<;>simp[go_sem,Pg.Wk.off]
section
variable {b o:Nat} {root:Int} {K:Pg.Wk}
theorem ygu (w:E) (h:xi w b o root K):
 uc z 112 #[M (Y ⟨b,o,B⟩)] w fun e w'=>e=kO (P K.on)/\w'=w:=by
 have c1:=h.c1;clear h
 go_enter Tryz.func112,Tryz.ntmps112
 go_wp2
 go_ret
 exact⟨rfl,rfl⟩
theorem ycV (w:E) (h:xi w b o root K):
 uc z 62 #[M (Y ⟨b,o,B⟩)] w fun e w'=>e=kO (yP #[I J K.q,I J K.k,P K.u])/\Lw w w':=by
 have c2:=h.c2;have c3:=h.c3;have c4:=h.c4;have hl:=h.lb;clear h
 go_enter Tryz.func62,Tryz.ntmps62
 go_wp2
 refine A (v:=yP #[I J K.q,I J K.k,P K.u]) ?_ rfl ⟨rfl,?_⟩
 ·simp[results,Tryz.results62,go_sem]
 ·exact zA (zR w) _
theorem xi.again {W:E} (h:xi W b o root K) (ho:K.on=Z):
 xi (((W.setCell ⟨b,o+5,B⟩ (I J root)).setCell ⟨b,o+6,B⟩ (I J 3)).setCell ⟨b,o+7,B⟩ (I yK 0)) b o root (K.again root)/\Ch8 b o (fun j=>j=b) W (((W.setCell ⟨b,o+5,B⟩ (I J root)).setCell ⟨b,o+6,B⟩ (I J 3)).setCell ⟨b,o+7,B⟩ (I yK 0)):=by
 have e:K.again root={K with t:=root,lv:=3,x:=0}:=by simp[Pg.Wk.again,ho]
 obtain⟨c0,c1,c2,c3,c4,c5,c6,c7,fb⟩:=h;rw[e]
 refine⟨⟨?_,?_,?_,?_,?_,?_,?_,?_,fun p=> ?_⟩,(((Ch8.refl b o (fun j=>j=b) W).set rfl 5 (by decide) _).set rfl 6 (by decide) _).set rfl 7 (by decide) _⟩<;>simp[go_sem,c0,c1,c2,c3,c4,c5,c6,c7,fb]
theorem jV (w:E) (h:xi w b o root K):
 uc z 180 #[M (Y ⟨b,o,B⟩)] w fun e w'=>e=kO (ur #[])/\xi w' b o root (K.again root)/\Ch8 b o (fun j=>j=b) w w':=by
 cases ho:K.on
 ·have e:K.again root=K:=by simp[Pg.Wk.again,ho]
  rw[e];have c1:=h.c1;rw[ho]at c1;have HF:O (xi w b o root K/\Ch8 b o (fun j=>j=b) w w):=⟨h,Ch8.refl _ _ _ _⟩;clear h ho e
  go_enter Tryz.func180,Tryz.ntmps180
  go_wp2
  go_end0
  exact⟨rfl,HF.out⟩
 ·have HF:O _:=h.again ho
  have c0:=h.c0;have c1:=h.c1;have c5:=h.c5;have c6:=h.c6;have c7:=h.c7;have fb:=h.fb;rw[ho]at c1;clear h ho
  go_enter Tryz.func180,Tryz.ntmps180
  go_wp2
  go_end0
  exact⟨rfl,HF.out⟩
theorem jW (w:E) (h:xi w b o root K):
 uc z 207 #[M (Y ⟨b,o,B⟩)] w fun e w'=>e=kO (I J (Pg.index K.q K.lv))/\Lw w w':=by
 have c2:=Q h.c2;have c6:=Q h.c6;have HI:=fun w=>xy (vO K.q K.lv w);clear h
 go_enter Tryz.func207,Tryz.ntmps207
 go_wp2_with fail
 refine wp_region_quiet_below (by kernel_rfl) (by kernel_rfl) ?_
 repeat (first
  | go_big_quiet_step ((go_at_call 196;exact Calls.regrown_of (HI _))))
 refine wpQuiet_nil ?_;intro _ sF;obtain⟨⟨dq,osq⟩,rfl⟩:=sF
 go_wp2
 go_ret
 exact⟨rfl,below_regrown w dq osq⟩
theorem vS (e:Pg.En) (w:E) (h:xi w b o root K):
 uc z 205 #[M (Y ⟨b,o,B⟩),e.val] w fun x w'=>x=kO (K.mark e).val/\Lw w w':=by
 have c3:=h.c3;have hl:=h.lb
 have Ho:b≠w.heap.size:=by omega
 clear h;obtain⟨t,l,r,u,d,f⟩:=e;cases d
 ·cases hk:(K.k==1)
  all_goals
   have HV:O _:=hk;simp only[Pg.En.val,Pg.Wk.mark,hk,Bool.or_false,Bool.or_true]
   go_enter Tryz.func205,Tryz.ntmps205
   go_wp2
   refine A (v:=yP #[P t,P l,I J r,P Z,P _,I J f]) ?_ rfl ⟨rfl,?_⟩
   ·simp[results,Tryz.results205,go_sem]
   ·exact zA (zA (zR w) _) _
 ·simp only[Pg.En.val,Pg.Wk.mark,Bool.true_or]
  go_enter Tryz.func205,Tryz.ntmps205
  go_wp2
  refine A (v:=yP #[P t,P l,I J r,P Z,P Z,I J f]) ?_ rfl ⟨rfl,?_⟩
  ·simp[results,Tryz.results205,go_sem]
  ·exact zA (zA (zR w) _) _
theorem xi.ended {W:E} (h:xi W b o root K):
 xi ((((((((W.setCell ⟨b,o,B⟩ (I J root)).setCell ⟨b,o+1,B⟩ (P T)).setCell ⟨b,o+2,B⟩ (I J 0)).setCell ⟨b,o+3,B⟩ (I J 0)).setCell ⟨b,o+4,B⟩ (P T)).setCell ⟨b,o+5,B⟩ (I J 0)).setCell ⟨b,o+6,B⟩ (I J 0)).setCell ⟨b,o+7,B⟩ (I yK 0)) b o root Pg.Wk.off/\
 Ch8 b o (fun j=>j=b) W ((((((((W.setCell ⟨b,o,B⟩ (I J root)).setCell ⟨b,o+1,B⟩ (P T)).setCell ⟨b,o+2,B⟩ (I J 0)).setCell ⟨b,o+3,B⟩ (I J 0)).setCell ⟨b,o+4,B⟩ (P T)).setCell ⟨b,o+5,B⟩ (I J 0)).setCell ⟨b,o+6,B⟩ (I J 0)).setCell ⟨b,o+7,B⟩ (I yK 0)):=by
 obtain⟨c0,c1,c2,c3,c4,c5,c6,c7,fb⟩:=h
 refine⟨⟨?_,?_,?_,?_,?_,?_,?_,?_,fun p=> ?_⟩,((((((((Ch8.refl b o (fun j=>j=b) W).set0 rfl _).set rfl 1 (by decide) _).set rfl 2 (by decide) _).set rfl 3 (by decide) _).set rfl 4 (by decide) _).set rfl 5 (by decide) _).set rfl 6 (by decide) _).set rfl 7 (by decide) _⟩<;>simp[go_sem,c0,c1,c2,c3,c4,c5,c6,c7,fb,Pg.Wk.off]
theorem ygY {F:Nat->Prop} {w W W':E} (h:xi W b o root K/\Ch8 b o F w W) (hb:Lw W W'):xi W' b o root K/\Ch8 b o F w W':=
 ⟨h.1.grow hb,h.2.trans (Ch8.yhJ (F:=F) hb h.1.lb) fun _ _ hi=>hi⟩
theorem yfv {w W:E} {r:Nat} (hr:¬r=b) (hw:w.heap.size<=r) (h:xi W b o root K/\Ch8 b o (fun j=>j=b) w W) (v0 v1 v2 v3 v4 v5 v6 v7 v8:ua):
 xi (((((((((W.setCell ⟨r,0,B⟩ v0).setCell ⟨r,1,B⟩ v1).setCell ⟨r,2,B⟩ v2).setCell ⟨r,3,B⟩ v3).setCell ⟨r,4,B⟩ v4).setCell ⟨r,5,B⟩ v5).setCell ⟨r,6,B⟩ v6).setCell ⟨r,7,B⟩ v7).setCell ⟨r,8,B⟩ v8) b o root K/\
 Ch8 b o (fun j=>j=b) w (((((((((W.setCell ⟨r,0,B⟩ v0).setCell ⟨r,1,B⟩ v1).setCell ⟨r,2,B⟩ v2).setCell ⟨r,3,B⟩ v3).setCell ⟨r,4,B⟩ v4).setCell ⟨r,5,B⟩ v5).setCell ⟨r,6,B⟩ v6).setCell ⟨r,7,B⟩ v7).setCell ⟨r,8,B⟩ v8):=by
 have hb:=qb (F:=fun j=>j=r) (But.refl _ W) r (.inr rfl) v0 v1 v2 v3 v4 v5 v6 v7 v8;have Ho:¬b=r:=fun e=>hr e.symm;refine⟨h.1.keep hb Ho,?_,fun p hp=> ?_⟩
 ·exact qb h.2.but r (.inl hw) v0 v1 v2 v3 v4 v5 v6 v7 v8
 ·exact(hb.cell (a:=⟨b,p,B⟩) h.1.lb Ho).trans (h.2.oth p hp)
theorem ybs (a f r:Int) (m:Pg.Mp) (d:Bool) (w:E) (h:xi w b o root K):
 uc z 209 #[M (Y ⟨b,o,B⟩),yP #[I J a,I J f,I J r],yP #[I J m.p,I J m.s,I J m.f,I J m.r,P d]] w fun e w'=>e=kO (Pg.Rs.val ⟨Z,a,f,r,m,d⟩)/\xi w' b o root Pg.Wk.off/\Ch8 b o (fun j=>j=b) w w':=by
 have c0:=h.c0;have c1:=h.c1;have c2:=h.c2;have c3:=h.c3;have c4:=h.c4;have c5:=h.c5;have c6:=h.c6;have c7:=h.c7;have fb:=h.fb;have hl:=h.lb
 have dE:b<w.heap.size+1:=by omega
 have su:b<w.heap.size+1+1:=by omega
 have n0:b≠w.heap.size:=by omega
 have n1:b≠w.heap.size+1:=by omega
 have n2:b≠w.heap.size+1+1:=by omega
 have m0:w.heap.size≠b:=by omega
 have m1:w.heap.size+1≠b:=by omega
 have m2:w.heap.size+1+1≠b:=by omega
 have HK:O _:=h;clear h;obtain⟨mp,ms,mf,mr⟩:=m;have HF:=HK.out.ended
 go_enter Tryz.func209,Tryz.ntmps209
 go_wp2
 refine A (v:=yP #[P Z,I J a,I J f,I J r,I J mp,I J ms,I J mf,I J mr,P d]) ?_ rfl ⟨rfl,ygY HF (zA (zA (zA (zR _) _) _) _)⟩;simp[results,Tryz.results209,go_sem]
theorem yb6 (e:Pg.En) (w:E) (h:xi w b o root K) (m:Bool):
 uc z 208 #[M (Y ⟨b,o,B⟩),e.val] w fun x w'=>x=kO ((Pg.Wo.done e m).res K).val/\xi w' b o root Pg.Wk.off/\Ch8 b o (fun j=>j=b) w w':=by
 obtain⟨W,hW⟩:=eY ((w.alloc (kh #[P e.t,P e.l,I J e.r,P e.u,P e.d,I J e.f] 70)).alloc (kh #[P T,I J 0,I J 0,I J 0,I J 0,I J 0,I J 0,I J 0,P T] 232))
 have rH:Lw w W:=by rw[hW];exact zA (zA (zR w) _) _
 have pg:O _:=rH;have hl:=h.lb
 have rU:W.heap.size=w.heap.size+1+1:=by rw[hW];simp
 have sI:O _:=h.grow rH
 have e6:W.cell? ⟨w.heap.size,0,B⟩=Y (P e.t)/\W.cell? ⟨w.heap.size,1,B⟩=Y (P e.l)/\W.cell? ⟨w.heap.size,2,B⟩=Y (I J e.r)/\W.cell? ⟨w.heap.size,3,B⟩=Y (P e.u)/\W.cell? ⟨w.heap.size,4,B⟩=Y (P e.d)/\W.cell? ⟨w.heap.size,5,B⟩=Y (I J e.f):=by rw[hW];simp[go_sem]
 have E6:O _:=e6
 have r9:W.heap[w.heap.size+1]?=Y (kh #[P T,I J 0,I J 0,I J 0,I J 0,I J 0,I J 0,I J 0,P T] 232 (0,0)):=by rw[hW];exact(by simp:(w.alloc (kh #[P e.t,P e.l,I J e.r,P e.u,P e.d,I J e.f] 70)).heap.size=w.heap.size+1)▸yJ _ _
 have R9:O _:=r9;have HM:=fun w=>ybn e.t e.l e.r e.u e.d e.f K.lv K.q w;have HV:O (Pg.mapV e.t e.l e.r e.u e.d e.f K.lv K.q=(e.map K.lv K.q).val):=rfl;rw[HV.out]at HM;have HR:O ((Pg.Wo.done e m).res K=⟨Z,Pg.aEnd (e.map K.lv K.q).r K.k K.u,Pg.yie (e.map K.lv K.q).p (e.map K.lv K.q).f (e.map K.lv K.q).r K.q K.k K.u,Pg.yh1 (e.map K.lv K.q).r K.k K.u,e.map K.lv K.q,e.d⟩):=rfl;rw[HR.out];generalize e.map K.lv K.q=mm at*;obtain⟨mp,ms,mf,mr⟩:=mm;have HA:=fun W'=>jO mp ms mf mr K.q K.k K.u W';simp only;generalize Pg.aEnd mr K.k K.u=aa at*;generalize Pg.yie mp mf mr K.q K.k K.u=af at*;generalize Pg.yh1 mr K.k K.u=ar at*;have k2:=fun d os=>Q sI.out.c2 d os;have k6:=fun d os=>Q sI.out.c6 d os;have y:=fun d os=>xC (below_regrown W d os) e6;clear h rH e6 r9 HV HR;obtain⟨et,el,er,eu,ed,ef⟩:=e;simp only at hW y HM;simp only[Pg.En.val,Pg.Mp.val]at HM ⊢
 go_enter Tryz.func208,Tryz.ntmps208
 go_wp2_with fail
 rw[<-hW];clear hW;refine Loose.yiH 11 5 (kh #[I J 0,I J 0,I J 0,I J 0] 39) _ (by kernel_rfl) (by kernel_rfl) rfl rfl rfl (by intro a w;simp[go_sem]) ?_;simp only[yS,yR,yC,yN]
 repeat (
  refine Loose.zS (fun k hk=> ?_)
  go_simp
  first
   | (refine hk _ ?_;clear hk k)
   | (apply Exists.intro
      refine⟨fun _=> ?_,hk _ ?_⟩
      (go_at_call 152;exact Loose.calls (HM _))
      clear hk k))
 refine Loose.yhM ?_;intro bm w1 Ha rV hX
 have cb:w1.cell? ⟨bm,0,B⟩=Y (I J 0)/\w1.cell? ⟨bm,1,B⟩=Y (I J 0)/\w1.cell? ⟨bm,2,B⟩=Y (I J 0)/\w1.cell? ⟨bm,3,B⟩=Y (I J 0):=by
  simp[yM,hX]
 obtain⟨mE,mF,bi,l7⟩:=cb
 have fb:∀i,w1.frozen? ⟨bm,i,B⟩=T:=fun i=>by simp[yZ,hX]
 obtain⟨W2,Hy⟩:=eY ((((w1.setCell ⟨bm,0,B⟩ (I J mp)).setCell ⟨bm,1,B⟩ (I J ms)).setCell ⟨bm,2,B⟩ (I J mf)).setCell ⟨bm,3,B⟩ (I J mr))
 have tL:Lw W W2:=by rw[Hy];exact zu Ha _ rV _ _ _ _
 have m4:W2.cell? ⟨bm,0,B⟩=Y (I J mp)/\W2.cell? ⟨bm,1,B⟩=Y (I J ms)/\W2.cell? ⟨bm,2,B⟩=Y (I J mf)/\W2.cell? ⟨bm,3,B⟩=Y (I J mr):=by
  rw[Hy];simp[go_sem,mE,mF,bi,l7]
 obtain⟨m0,m1,m2,m3⟩:=m4;have ik:O _:=sI.out.grow tL;have lX:O (Ch8 b o (fun j=>j=b) w W2):=Ch8.yhJ (zT pg.out tL) hl;have d4:=yX tL E6.out.2.2.2.2.1;have c2:=ik.out.c2;have c3:=ik.out.c3;have c4:=ik.out.c4;have R2:O (W2.heap[w.heap.size+1]?=_):=(tL.block _ (by omega)).trans R9.out;have su:b<W2.heap.size:=ik.out.lb
 have tq:w.heap.size+1<W2.heap.size:=by have:=tL.size;omega
 have tZ:¬w.heap.size+1=b:=by omega
 clear hX rV Ha tL k2 k6 y HM R9 E6
 go_wp2_with fail
 rw[<-Hy];clear Hy mE mF bi l7 fb;have HE:=fun W' (hb:Lw W2 W')=>ybs aa af ar ⟨mp,ms,mf,mr⟩ ed W' (ik.out.grow hb);simp only[Pg.Rs.val]at HE;have g0:=Q m0;have g1:=Q m1;have g2:=Q m2;have g3:=Q m3;have g4:=Q d4;have g5:=Q c2;have g6:=Q c3;have g7:=Q c4;clear m0 m1 m2 m3 d4 c2 c3 c4;refine Loose.yhL 11 (by kernel_rfl) (by kernel_rfl) ?_;simp only[yS,yR,yC,yN]
 repeat (
  refine Loose.zS (fun k hk=> ?_)
  go_simp
  first
   | (refine hk _ ?_;clear hk k)
   | (apply Exists.intro
      refine⟨fun _=> ?_,hk _ ?_⟩
      (go_at_call 143;exact Loose.calls (HA _))
      clear hk k))
 refine Loose.yhM ?_;intro w3 He;have rE:O (Lw W2 w3):=He;clear He g0 g1 g2 g3 g4 g5 g6 g7 HA
 go_wp2_with fail
 refine(HE _ rE.out).mono ?_;rintro en w4 ⟨rfl,nz,dB⟩;have RU:O _:=nz;have lY:O (Ch8 b o (fun j=>j=b) W2 w4):=(Ch8.yhJ rE.out su).trans dB (fun _ _ h=>h);obtain⟨⟨x0,x1,x2,x3,x4,x5,x6,x7,x8⟩,xf⟩:=yck ((lY.out.but.block _ tq tZ).trans R2.out);clear nz dB;have gH:w.heap.size+1<w4.heap.size:=ki tq lY.out.but.size
 have HF:O (∀v0 v1 v2 v3 v4 v5 v6 v7 v8,xi (((((((((w4.setCell ⟨w.heap.size+1,0,B⟩ v0).setCell ⟨w.heap.size+1,1,B⟩ v1).setCell ⟨w.heap.size+1,2,B⟩ v2).setCell ⟨w.heap.size+1,3,B⟩ v3).setCell ⟨w.heap.size+1,4,B⟩ v4).setCell ⟨w.heap.size+1,5,B⟩ v5).setCell ⟨w.heap.size+1,6,B⟩ v6).setCell ⟨w.heap.size+1,7,B⟩ v7).setCell ⟨w.heap.size+1,8,B⟩ v8) b o root Pg.Wk.off/\Ch8 b o (fun j=>j=b) w (((((((((w4.setCell ⟨w.heap.size+1,0,B⟩ v0).setCell ⟨w.heap.size+1,1,B⟩ v1).setCell ⟨w.heap.size+1,2,B⟩ v2).setCell ⟨w.heap.size+1,3,B⟩ v3).setCell ⟨w.heap.size+1,4,B⟩ v4).setCell ⟨w.heap.size+1,5,B⟩ v5).setCell ⟨w.heap.size+1,6,B⟩ v6).setCell ⟨w.heap.size+1,7,B⟩ v7).setCell ⟨w.heap.size+1,8,B⟩ v8)):=by
  intro v0 v1 v2 v3 v4 v5 v6 v7 v8;exact yfv tZ (by omega) ⟨RU.out,lX.out.trans lY.out fun _ _ h=>h⟩ _ _ _ _ _ _ _ _ _
 go_wp2
 refine A (v:=yP #[P Z,I J aa,I J af,I J ar,I J mp,I J ms,I J mf,I J mr,P ed]) ?_ rfl ⟨rfl,HF.out _ _ _ _ _ _ _ _ _⟩;simp[results,Tryz.results208,go_sem,x0,x1,x2,x3,x4,x5,x6,x7,x8]
end
end
section
open Go.Sort
attribute [local go_sem] Loose.gent
section
variable {b o:Nat} {root:Int}
theorem xi.low {W:E} {q k:Int} {u:Bool} {t:Int} {lv:Nat} {x:Int} (h:xi W b o root ⟨Z,q,k,u,t,lv,x⟩) (t':Int) (m:Nat):
 xi ((W.setCell ⟨b,o+5,B⟩ (I J t')).setCell ⟨b,o+6,B⟩ (I J (m:Int))) b o root ⟨Z,q,k,u,t',m,x⟩/\Ch8 b o (fun j=>j=b) W ((W.setCell ⟨b,o+5,B⟩ (I J t')).setCell ⟨b,o+6,B⟩ (I J (m:Int))):=by
 obtain⟨c0,c1,c2,c3,c4,c5,c6,c7,fb⟩:=h
 refine⟨⟨?_,?_,?_,?_,?_,?_,?_,?_,fun p=> ?_⟩,((Ch8.refl b o (fun j=>j=b) W).set rfl 5 (by decide) _).set rfl 6 (by decide) _⟩<;>simp[go_sem,c0,c1,c2,c3,c4,c5,c6,c7,fb]
theorem xi.wait {W:E} {q k:Int} {u:Bool} {t:Int} {lv:Nat} {x:Int} (h:xi W b o root ⟨Z,q,k,u,t,lv,x⟩) (x':Int):
 xi (W.setCell ⟨b,o+7,B⟩ (I yK x')) b o root ⟨Z,q,k,u,t,lv,x'⟩/\Ch8 b o (fun j=>j=b) W (W.setCell ⟨b,o+7,B⟩ (I yK x')):=by
 obtain⟨c0,c1,c2,c3,c4,c5,c6,c7,fb⟩:=h
 refine⟨⟨?_,?_,?_,?_,?_,?_,?_,?_,fun p=> ?_⟩,(Ch8.refl b o (fun j=>j=b) W).set rfl 7 (by decide) _⟩<;>simp[go_sem,c0,c1,c2,c3,c4,c5,c6,c7,fb]
theorem yev (S:Pg.Fs) (t q:Int) (lv:Nat):S.at' t (Pg.ix q lv:Nat)=S.has t:=by
 have:=Pg.yiw q lv;unfold Pg.Fs.at';cases S.has t
 ·rfl
 ·simp;omega
theorem ydX {bf:Nat} {S:Pg.Fs} {F:Nat->Prop} {q k:Int} {u:Bool} {t:Int} {lv:Nat} (hq:Pg.below q 4096=Z) (rQ:lv<4) (w:E) (h:xi w b o root ⟨Z,q,k,u,t,lv,0⟩) (hf:zh w bf S F) (hh:S.has t=T):
 uc z 182 #[M (Y ⟨b,o,B⟩),M (Y ⟨bf,0,B⟩)] w fun e w'=>e=kO (ur #[(Pg.Wo.res ⟨Z,q,k,u,t,lv,0⟩ (.code 12)).val,I J (Pg.Wo.cd (.code 12))])/\xi w' b o root (Pg.Wo.next ⟨Z,q,k,u,t,lv,0⟩ (.code 12))/\Ch8 b o (fun j=>j=b) w w':=by
 obtain⟨W,hW⟩:=eY (w.alloc (kh #[P T,I J 0,I J 0,I J 0,I J 0,I J 0,I J 0,I J 0,P T] 232))
 have rH:Lw w W:=by rw[hW];exact zA (zR w) _
 have hl:=h.lb
 have rU:W.heap.size=w.heap.size+1:=by rw[hW];simp
 have sI:O _:=h.grow rH;have nO:O (zh W bf S F):=hf.keep (G:=fun _=>False) (But.yhJ rH) (fun _ _=>id);have pg:O _:=rH
 have R9:O (W.heap[w.heap.size]?=Y (kh #[P T,I J 0,I J 0,I J 0,I J 0,I J 0,I J 0,I J 0,P T] 232 (0,0))):=by rw[hW];exact yJ _ _
 have dN:=Pg.yhY hq rQ;have HP:=fun d os=>jW _ (sI.out.grow (below_regrown W d os));simp only[dN]at HP;have HL:=fun d os=>yaX t (Pg.ix q lv:Nat) _ (zh.keep (G:=fun _=>False) nO.out (But.yhJ (below_regrown W d os)) (fun _ _=>id));have hat:S.at' t (Pg.ix q lv:Nat)=S.has t:=yev S t q lv;rw[hat]at HL;have k5:=Q sI.out.c5;simp only at k5
 have Sc:S.load t (Pg.ix q lv:Nat)=0:=by simp[Pg.Fs.load,hat,hh]
 rw[hh,Sc]at HL;clear Sc hh hat;simp only[Pg.Wo.res,Pg.Wo.cd,Pg.Wo.next,Pg.Rs.zero,Pg.Rs.val];clear h hf rH;generalize ((Pg.ix q lv:Nat):Int)=ixv at*
 go_enter Tryz.func182,Tryz.ntmps182
 go_wp2_with fail
 rw[<-hW];clear hW;refine wp_region_quiet_below (by kernel_rfl) (by kernel_rfl) ?_
 repeat (first
  | go_big_quiet_step (first
    | (go_at_call 207;exact Calls.regrown_of (HP _ _))
    | (go_at_call 171;exact Calls.regrown_of (HL _ _))))
 refine wpQuiet_nil ?_;intro _ sF;obtain⟨⟨dq,osq⟩,rfl⟩:=sF;have Ha:=below_regrown W dq osq;have fH:O _:=sI.out.grow Ha;have ry:O (Lw w (grow (redrawn W dq) osq)):=zT pg.out Ha;have R1:O ((grow (redrawn W dq) osq).heap[w.heap.size]?=_):=(Ha.block _ (by omega)).trans R9.out;clear Ha HP HL k5 sI nO pg R9;generalize grow (redrawn W dq) osq=w1 at*;have dE:b<w1.heap.size:=fH.out.lb
 have sO:w.heap.size<w1.heap.size:=by have:=ry.out.size;have:=(D.1 R1.out).1;omega
 have tZ:¬w.heap.size=b:=by omega
 obtain⟨⟨x0,x1,x2,x3,x4,x5,x6,x7,x8⟩,xf⟩:=yck R1.out;have HF:O _:=yfv tZ (un _) ⟨fH.out,Ch8.yhJ (F:=fun j=>j=b) ry.out hl⟩ (P T) (I J 0) (I J 0) (I J 0) (I J 0) (I J 0) (I J 0) (I J 0) (P T)
 go_wp2
 refine A (v:=ur #[yP #[P T,I J 0,I J 0,I J 0,I J 0,I J 0,I J 0,I J 0,P T],I J 12]) ?_ rfl ⟨rfl,HF.out⟩;simp[results,Tryz.results182,go_sem,x0,x1,x2,x3,x4,x5,x6,x7,x8]
theorem xW {bf:Nat} {S:Pg.Fs} {F:Nat->Prop} {q k:Int} {u:Bool} {t:Int} {lv:Nat} (hq:Pg.below q 4096=Z) (rQ:lv<4) (w:E) (h:xi w b o root ⟨Z,q,k,u,t,lv,0⟩) (hf:zh w bf S F) {rc:Int} {et el:Bool} {er:Int} {eu ed:Bool} {ef:Int} (hh:S.has t=Z) (hc:Pg.yhR S t (Pg.ix q lv) lv=rc) (he:Pg.rEn S t (Pg.ix q lv) lv=⟨et,el,er,eu,ed,ef⟩) {oc:Pg.Wo}
 (hA:((rc !=0)=Z/\oc= .code rc)\/(rc=0/\((et=T/\oc= .stop 1)\/(et=Z/\((el=T/\∃m:Nat,(lv:Int)-1=(m:Int)/\(1:Int)<=(lv:Int)/\oc= .go ⟨Z,q,k,u,ef,m,0⟩)\/(el=Z/\((Pg.may er k u=T/\oc= .stop 2)\/(Pg.may er k u=Z/\(((eu=T\/(eu=Z/\ed=T/\(ed||k==1)=Z))/\oc= .go ⟨Z,q,k,u,t,lv,S.word t.toNat (Pg.ix q lv)⟩)\/(eu=Z/\(ed||k==1)=ed/\oc= .done ⟨Z,Z,er,Z,ed,ef⟩ T)))))))))):
 uc z 182 #[M (Y ⟨b,o,B⟩),M (Y ⟨bf,0,B⟩)] w fun e w'=>e=kO (ur #[(Pg.Wo.res ⟨Z,q,k,u,t,lv,0⟩ oc).val,I J (Pg.Wo.cd oc)])/\xi w' b o root (Pg.Wo.next ⟨Z,q,k,u,t,lv,0⟩ oc)/\Ch8 b o (fun j=>j=b) w w':=by
 have mZ:=fun W'=>ybt er q k u W';generalize Pg.may er k u=mv at*;generalize hR:Pg.Wo.res ⟨Z,q,k,u,t,lv,0⟩ oc=R;generalize sJ:Pg.Wo.cd oc=cdv;generalize tO:Pg.Wo.next ⟨Z,q,k,u,t,lv,0⟩ oc=nx;obtain⟨ra,rb,rf,rd,⟨uL,uN,uK,uM⟩,re⟩:=R;have bQ:O (_/\_/\_):=⟨hR,sJ,tO⟩;clear hR sJ tO;simp only[Pg.Rs.val];obtain⟨W,hW⟩:=eY (w.alloc (kh #[P T,I J 0,I J 0,I J 0,I J 0,I J 0,I J 0,I J 0,P T] 232))
 have rH:Lw w W:=by rw[hW];exact zA (zR w) _
 have hl:=h.lb
 have rU:W.heap.size=w.heap.size+1:=by rw[hW];simp
 have sI:O _:=h.grow rH;have nO:O (zh W bf S F):=hf.keep (G:=fun _=>False) (But.yhJ rH) (fun _ _=>id);have pg:O _:=rH
 have R9:O (W.heap[w.heap.size]?=Y (kh #[P T,I J 0,I J 0,I J 0,I J 0,I J 0,I J 0,I J 0,P T] 232 (0,0))):=by rw[hW];exact yJ _ _
 have dN:=Pg.yhY hq rQ;have HP:=fun d os=>jW _ (sI.out.grow (below_regrown W d os));simp only[dN]at HP;have HL:=fun d os=>yaX t (Pg.ix q lv:Nat) _ (zh.keep (G:=fun _=>False) nO.out (But.yhJ (below_regrown W d os)) (fun _ _=>id));have hat:S.at' t (Pg.ix q lv:Nat)=S.has t:=yev S t q lv;rw[hat]at HL;have k5:=Q sI.out.c5;simp only at k5
 have Sc:S.load t (Pg.ix q lv:Nat)=S.word t.toNat (Pg.ix q lv):=by simp[Pg.Fs.load,hat,hh]
 rw[hh,Sc]at HL;obtain⟨e1,e2⟩:=Pg.yik (i:=Pg.ix q lv) (lv:=lv) hh;have HD:=fun W'=>jR (S.word t.toNat (Pg.ix q lv)) lv (hf.ok.low _ _) (hf.ok.high _ _) W';rw[Pg.yjw,<-e1,<-e2,he,hc]at HD;clear e1 e2 Sc hh hat he hc;generalize S.word t.toNat (Pg.ix q lv)=wd at*;simp only[Pg.En.val]at HD;clear h hf rH;generalize ((Pg.ix q lv:Nat):Int)=ixv at*
 go_enter Tryz.func182,Tryz.ntmps182
 go_wp2_with fail
 rw[<-hW];clear hW;refine wp_region_quiet_below (by kernel_rfl) (by kernel_rfl) ?_
 repeat (first
  | go_big_quiet_step (first
    | (go_at_call 207;exact Calls.regrown_of (HP _ _))
    | (go_at_call 171;exact Calls.regrown_of (HL _ _))))
 refine wpQuiet_nil ?_;intro _ sF;obtain⟨⟨dq,osq⟩,rfl⟩:=sF;have Ha:=below_regrown W dq osq;have fH:O _:=sI.out.grow Ha;have ry:O (Lw w (grow (redrawn W dq) osq)):=zT pg.out Ha;have R1:O ((grow (redrawn W dq) osq).heap[w.heap.size]?=_):=(Ha.block _ (by omega)).trans R9.out;clear Ha HP HL k5 sI nO pg R9;generalize grow (redrawn W dq) osq=w1 at*;have dE:b<w1.heap.size:=fH.out.lb
 have sO:w.heap.size<w1.heap.size:=by have:=ry.out.size;have:=(D.1 R1.out).1;omega
 have tZ:¬w.heap.size=b:=by omega
 have k6:=fH.out.c6;simp only at k6
 go_wp2_with fail
 refine(HD _).mono ?_;rintro e w2 ⟨rfl,Hd⟩;have tq:w.heap.size<w2.heap.size:=ki sO Hd.size;have su:b<w2.heap.size:=ki dE Hd.size;have ik:O _:=fH.out.grow Hd;have Ht:O (Lw w w2):=zT ry.out Hd;have R2:O (w2.heap[w.heap.size]?=_):=(Hd.block _ sO).trans R1.out;clear Hd fH ry R1 k6 HD sO dE hq dN
 have SC:b≠w2.heap.size:=by omega
 have U1:w2.heap.size≠b:=by omega
 have nr2:w.heap.size≠w2.heap.size:=by omega
 have mr2:w2.heap.size≠w.heap.size:=by omega
 rcases hA with ⟨Tt,rfl⟩|⟨rfl,hA⟩
 ·obtain⟨hR,sJ,tO⟩:=bQ.out
  simp only[Pg.Wo.res,Pg.Wo.cd,Pg.Wo.next,Pg.Rs.zero,Pg.Rs.mk.injEq,Pg.Mp.mk.injEq]at hR sJ tO;obtain⟨rfl,rfl,rfl,rfl,⟨rfl,rfl,rfl,rfl⟩,rfl⟩:=hR;subst sJ tO;obtain⟨⟨x0,x1,x2,x3,x4,x5,x6,x7,x8⟩,xf⟩:=yck R2.out;have HF:O _:=ygY (yfv tZ (un _) ⟨ik.out,Ch8.yhJ (F:=fun j=>j=b) Ht.out hl⟩ (P T) (I J 0) (I J 0) (I J 0) (I J 0) (I J 0) (I J 0) (I J 0) (P T)) (zA (zR _) (kh #[P et,P el,I J er,P eu,P ed,I J ef] 70))
  go_wp2
  refine A (v:=ur #[yP #[P T,I J 0,I J 0,I J 0,I J 0,I J 0,I J 0,I J 0,P T],I J rc]) ?_ rfl ⟨rfl,HF.out⟩;simp[results,Tryz.results182,go_sem,x0,x1,x2,x3,x4,x5,x6,x7,x8,tq,nr2,mr2]
 obtain⟨W3,gL⟩:=eY (w2.alloc (kh #[P et,P el,I J er,P eu,P ed,I J ef] 70))
 have pE:Lw w2 W3:=by rw[gL];exact zA (zR _) _
 have mX:O _:=ik.out.grow pE;have rE:O (Lw w W3):=zT Ht.out pE;have R3:O (W3.heap[w.heap.size]?=_):=(pE.block _ tq).trans R2.out
 have e6:W3.cell? ⟨w2.heap.size,0,B⟩=Y (P et)/\W3.cell? ⟨w2.heap.size,1,B⟩=Y (P el)/\W3.cell? ⟨w2.heap.size,2,B⟩=Y (I J er)/\W3.cell? ⟨w2.heap.size,3,B⟩=Y (P eu)/\W3.cell? ⟨w2.heap.size,4,B⟩=Y (P ed)/\W3.cell? ⟨w2.heap.size,5,B⟩=Y (I J ef):=by rw[gL];simp[go_sem]
 have mO:w.heap.size<W3.heap.size:=by have:=pE.size;omega
 have lN:b<W3.heap.size:=by have:=pE.size;omega
 clear pE;rcases hA with ⟨rfl,rfl⟩|⟨rfl,hA⟩
 ·obtain⟨hR,sJ,tO⟩:=bQ.out
  simp only[Pg.Wo.res,Pg.Wo.cd,Pg.Wo.next,Pg.Rs.zero,Pg.Rs.mk.injEq,Pg.Mp.mk.injEq]at hR sJ tO;obtain⟨rfl,rfl,rfl,rfl,⟨rfl,rfl,rfl,rfl⟩,rfl⟩:=hR;subst sJ tO
  go_wp2_with fail
  rw[<-gL];clear gL ik Ht R2;have HE:=ybs 1 0 0 ⟨0,0,0,0⟩ T _ mX.out;simp only[Pg.Rs.val]at HE;refine HE.mono ?_;rintro e w9 ⟨rfl,mI,dW⟩;have uP:O (Ch8 b o (fun j=>j=b) w w9):=(Ch8.yhJ rE.out hl).trans dW (fun _ _ h=>h);have R9:O (w9.heap[w.heap.size]?=_):=(dW.but.block _ mO tZ).trans R3.out;have BA:w.heap.size<w9.heap.size:=ki mO dW.but.size;obtain⟨⟨x0,x1,x2,x3,x4,x5,x6,x7,x8⟩,xf⟩:=yck R9.out;have HF:O _:=yfv tZ (un _) ⟨mI,uP.out⟩ (P Z) (I J 1) (I J 0) (I J 0) (I J 0) (I J 0) (I J 0) (I J 0) (P T);clear mI dW HE
  go_wp2
  refine A (v:=ur #[yP #[P Z,I J 1,I J 0,I J 0,I J 0,I J 0,I J 0,I J 0,P T],I J 0]) ?_ rfl ⟨rfl,HF.out⟩;simp[results,Tryz.results182,go_sem,x0,x1,x2,x3,x4,x5,x6,x7,x8]
 rcases hA with ⟨rfl,m,uy,iT,rfl⟩|⟨rfl,hA⟩
 ·obtain⟨hR,sJ,tO⟩:=bQ.out
  simp only[Pg.Wo.res,Pg.Wo.cd,Pg.Wo.next,Pg.Rs.zero,Pg.Rs.mk.injEq,Pg.Mp.mk.injEq]at hR sJ tO;obtain⟨rfl,rfl,rfl,rfl,⟨rfl,rfl,rfl,rfl⟩,rfl⟩:=hR;subst sJ tO
  go_wp2_with fail
  rw[<-gL];clear gL ik Ht R2;obtain⟨z0,z1,z2,z3,z4,z5⟩:=e6;have y5:=mX.out.c5;have y6:=mX.out.c6;have yf:=mX.out.fb;simp only at y5 y6;obtain⟨⟨x0,x1,x2,x3,x4,x5,x6,x7,x8⟩,xf⟩:=yck R3.out;have HF:O _:=ygY (yfv tZ (un _) ⟨(mX.out.low ef m).1,(Ch8.yhJ rE.out hl).trans (mX.out.low ef m).2 (fun _ _ h=>h)⟩ (P T) (I J 0) (I J 0) (I J 0) (I J 0) (I J 0) (I J 0) (I J 0) (P T)) (zR _).drew
  go_region
  go_wp2
  refine A (v:=ur #[yP #[P T,I J 0,I J 0,I J 0,I J 0,I J 0,I J 0,I J 0,P T],I J 0]) ?_ rfl ⟨rfl,HF.out⟩;simp[results,Tryz.results182,go_sem,x0,x1,x2,x3,x4,x5,x6,x7,x8]
 go_wp2_with fail
 rw[<-gL];clear gL ik Ht R2;have z2:=Q e6.2.2.1;have y2:=Q mX.out.c2;have y3:=Q mX.out.c3;have y4:=Q mX.out.c4;simp only at y2 y3 y4;refine wp_region_quiet_below (by kernel_rfl) (by kernel_rfl) ?_
 repeat (first
  | go_big_quiet_step ((go_at_call 179;exact Calls.regrown_of (mZ _))))
 refine wpQuiet_nil ?_;intro _ sF;obtain⟨⟨SG,oG⟩,rfl⟩:=sF;have Hl:=below_regrown W3 SG oG;have RU:O _:=mX.out.grow Hl;have rR:O (Lw w (grow (redrawn W3 SG) oG)):=zT rE.out Hl;have R4:O ((grow (redrawn W3 SG) oG).heap[w.heap.size]?=_):=(Hl.block _ mO).trans R3.out;have E4:O _:=xC Hl e6;have gH:w.heap.size<(grow (redrawn W3 SG) oG).heap.size:=ki mO Hl.size;have nI:b<(grow (redrawn W3 SG) oG).heap.size:=ki lN Hl.size;clear Hl z2 y2 y3 y4 e6 mZ mX rE R3 mO lN;generalize grow (redrawn W3 SG) oG=w4 at*;rcases hA with ⟨rfl,rfl⟩|⟨rfl,hA⟩
 ·obtain⟨hR,sJ,tO⟩:=bQ.out
  simp only[Pg.Wo.res,Pg.Wo.cd,Pg.Wo.next,Pg.Rs.zero,Pg.Rs.mk.injEq,Pg.Mp.mk.injEq]at hR sJ tO;obtain⟨rfl,rfl,rfl,rfl,⟨rfl,rfl,rfl,rfl⟩,rfl⟩:=hR;subst sJ tO
  go_wp2_with fail
  have HE:=ybs 2 0 0 ⟨0,0,0,0⟩ T _ RU.out;simp only[Pg.Rs.val]at HE;refine HE.mono ?_;rintro e w9 ⟨rfl,mI,dW⟩;have uP:O (Ch8 b o (fun j=>j=b) w w9):=(Ch8.yhJ rR.out hl).trans dW (fun _ _ h=>h);have R9:O (w9.heap[w.heap.size]?=_):=(dW.but.block _ gH tZ).trans R4.out;have BA:w.heap.size<w9.heap.size:=ki gH dW.but.size;obtain⟨⟨x0,x1,x2,x3,x4,x5,x6,x7,x8⟩,xf⟩:=yck R9.out;have HF:O _:=yfv tZ (un _) ⟨mI,uP.out⟩ (P Z) (I J 2) (I J 0) (I J 0) (I J 0) (I J 0) (I J 0) (I J 0) (P T);clear mI dW HE
  go_wp2
  refine A (v:=ur #[yP #[P Z,I J 2,I J 0,I J 0,I J 0,I J 0,I J 0,I J 0,P T],I J 0]) ?_ rfl ⟨rfl,HF.out⟩;simp[results,Tryz.results182,go_sem,x0,x1,x2,x3,x4,x5,x6,x7,x8]
 go_wp2_with fail
 obtain⟨z0,z1,z2,z3,z4,z5⟩:=E4.out;have g0:=Q z0;have g1:=Q z1;have g2:=Q z2;have g3:=Q z3;have g4:=Q z4;have g5:=Q z5;have wJ:=fun d os=>vS ⟨Z,Z,er,eu,ed,ef⟩ _ (RU.out.grow (below_regrown w4 d os))
 have hB:(eu=T/\∃d',(ed||k==1)=d'/\oc= .go ⟨Z,q,k,u,t,lv,wd⟩)\/(eu=Z/\ed=T/\(ed||k==1)=Z/\oc= .go ⟨Z,q,k,u,t,lv,wd⟩)\/(eu=Z/\(ed||k==1)=ed/\oc= .done ⟨Z,Z,er,Z,ed,ef⟩ T):=by
  rcases hA with ⟨h1|⟨h1,h2,h3⟩,h4⟩|⟨h1,h2,h4⟩
  ·exact .inl ⟨h1,_,rfl,h4⟩
  ·exact .inr (.inl ⟨h1,h2,h3,h4⟩)
  ·exact .inr (.inr ⟨h1,h2,h4⟩)
 clear hA;rcases hB with ⟨rfl,d',oW,rfl⟩|⟨rfl,rfl,oW,rfl⟩|⟨rfl,oW,rfl⟩
 all_goals
  simp only[Pg.En.val,Pg.Wk.mark]at wJ;rw[oW]at wJ;refine wp_region_quiet_below (by kernel_rfl) (by kernel_rfl) ?_
  repeat (first
   | go_big_quiet_step ((go_at_call 205;exact Calls.regrown_of (wJ _ _))))
  refine wpQuiet_nil ?_;intro _ sF;obtain⟨⟨gP,pK⟩,rfl⟩:=sF;have rD:=below_regrown w4 gP pK;have wG:O _:=RU.out.grow rD;have tT:O (Lw w (grow (redrawn w4 gP) pK)):=zT rR.out rD;have R5:O ((grow (redrawn w4 gP) pK).heap[w.heap.size]?=_):=(rD.block _ gH).trans R4.out;have e5:=xC rD E4.out;have aW:w.heap.size<(grow (redrawn w4 gP) pK).heap.size:=ki gH rD.size;have Rw:b<(grow (redrawn w4 gP) pK).heap.size:=ki nI rD.size;clear rD z0 z1 z2 z3 z4 z5 g0 g1 g2 g3 g4 g5 wJ RU rR R4 E4 gH nI;generalize grow (redrawn w4 gP) pK=w5 at*;obtain⟨z0,z1,z2,z3,z4,z5⟩:=e5
 ·obtain⟨hR,sJ,tO⟩:=bQ.out
  simp only[Pg.Wo.res,Pg.Wo.cd,Pg.Wo.next,Pg.Rs.zero,Pg.Rs.mk.injEq,Pg.Mp.mk.injEq]at hR sJ tO;obtain⟨rfl,rfl,rfl,rfl,⟨rfl,rfl,rfl,rfl⟩,rfl⟩:=hR;subst sJ tO;have y7:=wG.out.c7;have yf:=wG.out.fb;simp only at y7;obtain⟨⟨x0,x1,x2,x3,x4,x5,x6,x7,x8⟩,xf⟩:=yck R5.out;have HF:O _:=yfv tZ (un _) ⟨(wG.out.wait wd).1,(Ch8.yhJ tT.out hl).trans (wG.out.wait wd).2 (fun _ _ h=>h)⟩ (P T) (I J 0) (I J 0) (I J 0) (I J 0) (I J 0) (I J 0) (I J 0) (P T)
  go_wp2
  refine A (v:=ur #[yP #[P T,I J 0,I J 0,I J 0,I J 0,I J 0,I J 0,I J 0,P T],I J 0]) ?_ rfl ⟨rfl,HF.out⟩;simp[results,Tryz.results182,go_sem,x0,x1,x2,x3,x4,x5,x6,x7,x8]
 ·obtain⟨hR,sJ,tO⟩:=bQ.out
  simp only[Pg.Wo.res,Pg.Wo.cd,Pg.Wo.next,Pg.Rs.zero,Pg.Rs.mk.injEq,Pg.Mp.mk.injEq]at hR sJ tO;obtain⟨rfl,rfl,rfl,rfl,⟨rfl,rfl,rfl,rfl⟩,rfl⟩:=hR;subst sJ tO;have y7:=wG.out.c7;have yf:=wG.out.fb;simp only at y7;obtain⟨⟨x0,x1,x2,x3,x4,x5,x6,x7,x8⟩,xf⟩:=yck R5.out;have HF:O _:=yfv tZ (un _) ⟨(wG.out.wait wd).1,(Ch8.yhJ tT.out hl).trans (wG.out.wait wd).2 (fun _ _ h=>h)⟩ (P T) (I J 0) (I J 0) (I J 0) (I J 0) (I J 0) (I J 0) (I J 0) (P T)
  go_wp2
  refine A (v:=ur #[yP #[P T,I J 0,I J 0,I J 0,I J 0,I J 0,I J 0,I J 0,P T],I J 0]) ?_ rfl ⟨rfl,HF.out⟩;simp[results,Tryz.results182,go_sem,x0,x1,x2,x3,x4,x5,x6,x7,x8]
 ·obtain⟨hR,sJ,tO⟩:=bQ.out
  simp only[Pg.Wo.cd,Pg.Wo.next]at sJ tO;subst sJ tO;have bQ:O _:=hR;clear hR;have aJ:=yb6 ⟨Z,Z,er,Z,ed,ef⟩ _ wG.out T;simp only[Pg.En.val]at aJ;rw[bQ.out]at aJ;simp only[Pg.Rs.val]at aJ
  go_wp2_with fail
  refine aJ.mono ?_;rintro e w9 ⟨rfl,mI,dW⟩;have uP:O (Ch8 b o (fun j=>j=b) w w9):=(Ch8.yhJ tT.out hl).trans dW (fun _ _ h=>h);have R9:O (w9.heap[w.heap.size]?=_):=(dW.but.block _ aW tZ).trans R5.out;have BA:w.heap.size<w9.heap.size:=ki aW dW.but.size;obtain⟨⟨x0,x1,x2,x3,x4,x5,x6,x7,x8⟩,xf⟩:=yck R9.out;have HF:O _:=yfv tZ (un _) ⟨mI,uP.out⟩ (P ra) (I J rb) (I J rf) (I J rd) (I J uL) (I J uN) (I J uK) (I J uM) (P re);clear mI dW aJ
  go_wp2
  refine A (v:=ur #[yP #[P ra,I J rb,I J rf,I J rd,I J uL,I J uN,I J uK,I J uM,P re],I J 0]) ?_ rfl ⟨rfl,HF.out⟩;simp[results,Tryz.results182,go_sem,x0,x1,x2,x3,x4,x5,x6,x7,x8]
theorem yeZ {bf:Nat} {S:Pg.Fs} {F:Nat->Prop} {q k:Int} {u:Bool} {t:Int} {lv:Nat} (hq:Pg.below q 4096=Z) (rQ:lv<4) (w:E) (h:xi w b o root ⟨Z,q,k,u,t,lv,0⟩) (hf:zh w bf S F):
 uc z 182 #[M (Y ⟨b,o,B⟩),M (Y ⟨bf,0,B⟩)] w fun e w'=>e=kO (ur #[((Pg.kOut S root ⟨Z,q,k,u,t,lv,0⟩).res ⟨Z,q,k,u,t,lv,0⟩).val,I J (Pg.kOut S root ⟨Z,q,k,u,t,lv,0⟩).cd])/\xi w' b o root ((Pg.kOut S root ⟨Z,q,k,u,t,lv,0⟩).next ⟨Z,q,k,u,t,lv,0⟩)/\Ch8 b o (fun j=>j=b) w w':=by
 have Hw:=Pg.yly S root q k u t lv;rw[show Pg.kOut S root (Pg.Wk.at' q k u t lv 0)=Pg.kOut S root ⟨Z,q,k,u,t,lv,0⟩from rfl]at Hw;cases hh:S.has t
 ·have kS:Pg.yhR S t (Pg.ix q lv) lv=12:=by simp[Pg.yhR,hh]
  rw[kS,iP (by decide)]at Hw;rw[Hw];exact ydX hq rQ w h hf hh
 ·by_cases hc:Pg.yhR S t (Pg.ix q lv) lv=0
  ·rw[iN (by simpa using hc)]at Hw
   have Hu:=fun h=>Pg.yib (S:=S) (t:=t) (i:=Pg.ix q lv) (lv:=lv) h
   cases he:Pg.rEn S t (Pg.ix q lv) lv with
   | mk et el er eu ed ef=>
   rw[he]at Hw Hu;simp only[Pg.En.on]at Hw Hu;cases et
   ·rw[iP rfl]at Hw
    rw[Hw];exact xW hq rQ w h hf hh hc he (.inr ⟨rfl,.inl ⟨rfl,rfl⟩⟩)
   ·rw[iN (by decide)]at Hw
    cases el
    ·rw[iP rfl]at Hw
     obtain⟨m,hm⟩:=Hu rfl
     have Sd:lv-1=m:=by omega
     rw[Sd]at Hw;rw[Hw];exact xW hq rQ w h hf hh hc he (.inr ⟨rfl,.inr ⟨rfl,.inl ⟨rfl,m,by omega,by omega,rfl⟩⟩⟩)
    ·rw[iN (by decide)]at Hw
     cases pU:Pg.may er k u
     ·rw[iP pU]at Hw
      rw[Hw];exact xW hq rQ w h hf hh hc he (.inr ⟨rfl,.inr ⟨rfl,.inr ⟨rfl,.inl ⟨pU,rfl⟩⟩⟩⟩)
     ·rw[iN (by simp[pU])]at Hw
      cases hr:(Pg.Wk.at' q k u t lv 0).ready ⟨Z,Z,er,eu,ed,ef⟩
      ·rw[iP hr]at Hw
       rw[Hw];simp only[Pg.Wk.ready,Pg.Wk.at']at hr;cases eu
       ·exact xW hq rQ w h hf hh hc he (.inr ⟨rfl,.inr ⟨rfl,.inr ⟨rfl,.inr ⟨pU,.inl ⟨.inl rfl,rfl⟩⟩⟩⟩⟩)
       ·cases ed
        ·refine xW hq rQ w h hf hh hc he (.inr ⟨rfl,.inr ⟨rfl,.inr ⟨rfl,.inr ⟨pU,.inl ⟨.inr ⟨rfl,rfl,?_⟩,rfl⟩⟩⟩⟩⟩)
         by_cases e:k=1
         ·simp[e]
         ·simp[e]at hr
        ·simp at hr
      ·rw[iN (by simp[hr])]at Hw
       rw[Hw];simp only[Pg.Wk.ready,Pg.Wk.at',Bool.and_eq_true]at hr;obtain⟨rfl,h2⟩:=hr;refine xW hq rQ w h hf hh hc he (.inr ⟨rfl,.inr ⟨rfl,.inr ⟨rfl,.inr ⟨pU,.inr ⟨rfl,?_,rfl⟩⟩⟩⟩⟩);cases ed
       ·by_cases e:k=1
        ·simp[e]at h2
        ·simp[e]
       ·rfl
  ·rw[iP hc]at Hw
   rw[Hw]
   cases he:Pg.rEn S t (Pg.ix q lv) lv with
   | mk et el er eu ed ef=>exact xW hq rQ w h hf hh rfl he (.inl ⟨by simpa using hc,rfl⟩)
end
section
variable {b o:Nat} {root:Int}
theorem ydW {bf:Nat} {S:Pg.Fs} {F:Nat->Prop} {q k:Int} {u:Bool} {t:Int} {lv:Nat} {x:Int} (hq:Pg.below q 4096=Z) (rQ:lv<4) (mV:0<=x) (aC:x<18446744073709551616) (w:E) (h:xi w b o root ⟨Z,q,k,u,t,lv,x⟩) (hf:zh w bf S F) (kR:¬F b) (hh:S.has t=T):
 uc z 181 #[M (Y ⟨b,o,B⟩),M (Y ⟨bf,0,B⟩)] w fun e w'=>e=kO (ur #[(Pg.Wo.res ⟨Z,q,k,u,t,lv,x⟩ (.code 12)).val,I J (Pg.Wo.cd (.code 12))])/\xi w' b o root (Pg.Wo.next ⟨Z,q,k,u,t,lv,x⟩ (.code 12))/\∃F',zh w' bf (Pg.Wo.fs S ⟨Z,q,k,u,t,lv,x⟩ (.code 12)) F'/\Ch8 b o (fun j=>j=b\/F j) w w'/\∀j,F' j->F j\/w.heap.size<=j:=by
 obtain⟨W,hW⟩:=eY (w.alloc (kh #[P T,I J 0,I J 0,I J 0,I J 0,I J 0,I J 0,I J 0,P T] 232))
 have rH:Lw w W:=by rw[hW];exact zA (zR w) _
 have hl:=h.lb;have sI:O _:=h.grow rH;have nO:O (zh W bf S F):=hf.keep (G:=fun _=>False) (But.yhJ rH) (fun _ _=>id)
 have R0:O (W.heap[w.heap.size]?=Y (kh #[P T,I J 0,I J 0,I J 0,I J 0,I J 0,I J 0,I J 0,P T] 232 (0,0))):=by rw[hW];exact yJ _ _
 have tZ:¬w.heap.size=b:=by omega
 have RD:¬F w.heap.size:=fun hF=>by have:=hf.lt hF;omega
 have HT:=vK t W nO.out;rw[hh]at HT;have k5:=h.c5;simp only at k5;have HFF:O (∃F',zh w bf S F'):=⟨F,hf⟩;have CK:O (∀w',But (fun j=>j=b) w w'->zh w' bf S F):=fun w' hb=>hf.keep hb (fun j hj e=>kR (e▸hj));clear h hf hh kR;simp only[Pg.Wo.res,Pg.Wo.cd,Pg.Wo.next,Pg.Wo.fs,Pg.Rs.zero,Pg.Rs.val]
 go_enter Tryz.func181,Tryz.ntmps181
 go_wp2_with fail
 rw[<-hW];refine HT.mono ?_;rintro e w1 ⟨rfl,Ha⟩;have fH:O _:=sI.out.grow Ha;have wF:O (zh w1 bf S F):=zh.keep (G:=fun _=>False) nO.out (But.yhJ Ha) (fun _ _=>id);have ry:O (Lw w w1):=zT rH Ha;have R1:O (w1.heap[w.heap.size]?=_):=(Ha.block _ (by rw[hW];simp)).trans R0.out;have dE:b<w1.heap.size:=fH.out.lb;have sO:w.heap.size<w1.heap.size:=(D.1 R1.out).1;clear Ha HT k5 sI nO R0 rH hW W;obtain⟨⟨x0,x1,x2,x3,x4,x5,x6,x7,x8⟩,xf⟩:=yck R1.out;have HF:O _:=yfv tZ (un _) ⟨fH.out,Ch8.yhJ (F:=fun j=>j=b) ry.out hl⟩ (P T) (I J 0) (I J 0) (I J 0) (I J 0) (I J 0) (I J 0) (I J 0) (P T)
 go_wp2
 refine A (v:=ur #[yP #[P T,I J 0,I J 0,I J 0,I J 0,I J 0,I J 0,I J 0,P T],I J 12]) ?_ rfl ⟨rfl,HF.out.1,F,CK.out _ HF.out.2.but,HF.out.2.mono (fun _ _ h=> .inl h),fun j hj=> .inl hj⟩;simp[results,Tryz.results181,go_sem,x0,x1,x2,x3,x4,x5,x6,x7,x8]
theorem yfG {K:Pg.Wk} {G:Nat->Prop} {w W:E} {r:Nat} (hr:¬r=b) (hw:w.heap.size<=r) (h:xi W b o root K/\Ch8 b o G w W) (v0 v1 v2 v3 v4 v5 v6 v7 v8:ua):
 xi (((((((((W.setCell ⟨r,0,B⟩ v0).setCell ⟨r,1,B⟩ v1).setCell ⟨r,2,B⟩ v2).setCell ⟨r,3,B⟩ v3).setCell ⟨r,4,B⟩ v4).setCell ⟨r,5,B⟩ v5).setCell ⟨r,6,B⟩ v6).setCell ⟨r,7,B⟩ v7).setCell ⟨r,8,B⟩ v8) b o root K/\
 Ch8 b o G w (((((((((W.setCell ⟨r,0,B⟩ v0).setCell ⟨r,1,B⟩ v1).setCell ⟨r,2,B⟩ v2).setCell ⟨r,3,B⟩ v3).setCell ⟨r,4,B⟩ v4).setCell ⟨r,5,B⟩ v5).setCell ⟨r,6,B⟩ v6).setCell ⟨r,7,B⟩ v7).setCell ⟨r,8,B⟩ v8):=by
 have hb:=qb (F:=fun j=>j=r) (But.refl _ W) r (.inr rfl) v0 v1 v2 v3 v4 v5 v6 v7 v8;have Ho:¬b=r:=fun e=>hr e.symm;refine⟨h.1.keep hb Ho,?_,fun p hp=> ?_⟩
 ·exact qb h.2.but r (.inl hw) v0 v1 v2 v3 v4 v5 v6 v7 v8
 ·exact(hb.cell (a:=⟨b,p,B⟩) h.1.lb Ho).trans (h.2.oth p hp)
theorem yfh {w w':E} {e:Nat} {v0 v1 v2 v3 v4 v5:ua} (hk:w'.heap[e]?=w.heap[e]?) (h:w.cell? ⟨e,0,B⟩=Y v0/\w.cell? ⟨e,1,B⟩=Y v1/\w.cell? ⟨e,2,B⟩=Y v2/\w.cell? ⟨e,3,B⟩=Y v3/\w.cell? ⟨e,4,B⟩=Y v4/\w.cell? ⟨e,5,B⟩=Y v5):
 w'.cell? ⟨e,0,B⟩=Y v0/\w'.cell? ⟨e,1,B⟩=Y v1/\w'.cell? ⟨e,2,B⟩=Y v2/\w'.cell? ⟨e,3,B⟩=Y v3/\w'.cell? ⟨e,4,B⟩=Y v4/\w'.cell? ⟨e,5,B⟩=Y v5:=
 ⟨(N hk).trans h.1,(N hk).trans h.2.1,(N hk).trans h.2.2.1,(N hk).trans h.2.2.2.1,(N hk).trans h.2.2.2.2.1,(N hk).trans h.2.2.2.2.2⟩
theorem ya1 {bf:Nat} {S:Pg.Fs} {F:Nat->Prop} {q k:Int} {u:Bool} {t:Int} {lv:Nat} {x:Int} (hq:Pg.below q 4096=Z) (rQ:lv<4) (mV:0<=x) (aC:x<18446744073709551616) (w:E) (h:xi w b o root ⟨Z,q,k,u,t,lv,x⟩) (hf:zh w bf S F) (kR:¬F b) (hh:S.has t=Z) {oc:Pg.Wo} (hO:(S.word t.toNat (Pg.ix q lv)=x/\oc= .done (Pg.Wk.mark ⟨Z,q,k,u,t,lv,x⟩ (Pg.En.of x lv)) Z)\/(S.word t.toNat (Pg.ix q lv)≠x/\oc= .go (Pg.Wk.again root ⟨Z,q,k,u,t,lv,x⟩))):
 uc z 181 #[M (Y ⟨b,o,B⟩),M (Y ⟨bf,0,B⟩)] w fun e w'=>e=kO (ur #[(Pg.Wo.res ⟨Z,q,k,u,t,lv,x⟩ oc).val,I J (Pg.Wo.cd oc)])/\xi w' b o root (Pg.Wo.next ⟨Z,q,k,u,t,lv,x⟩ oc)/\∃F',zh w' bf (Pg.Wo.fs S ⟨Z,q,k,u,t,lv,x⟩ oc) F'/\Ch8 b o (fun j=>j=b\/F j) w w'/\∀j,F' j->F j\/w.heap.size<=j:=by
 obtain⟨W,hW⟩:=eY (w.alloc (kh #[P T,I J 0,I J 0,I J 0,I J 0,I J 0,I J 0,I J 0,P T] 232))
 have rH:Lw w W:=by rw[hW];exact zA (zR w) _
 have hl:=h.lb;have sI:O _:=h.grow rH;have nO:O (zh W bf S F):=hf.keep (G:=fun _=>False) (But.yhJ rH) (fun _ _=>id)
 have R0:O (W.heap[w.heap.size]?=Y (kh #[P T,I J 0,I J 0,I J 0,I J 0,I J 0,I J 0,I J 0,P T] 232 (0,0))):=by rw[hW];exact yJ _ _
 have tZ:¬w.heap.size=b:=by omega
 have RD:¬F w.heap.size:=fun hF=>by have:=hf.lt hF;omega
 have HT:=vK t W nO.out;rw[hh]at HT;have k5:=h.c5;simp only at k5;have hat:=yev S t q lv;rw[hh]at hat
 have hO:(S.swaps t (Pg.ix q lv:Nat) x=Z/\(∀v,S.swap t (Pg.ix q lv:Nat) x v=S.store t (Pg.ix q lv:Nat) v)/\oc= .done (Pg.Wk.mark ⟨Z,q,k,u,t,lv,x⟩ (Pg.En.of x lv)) Z)\/(S.swaps t (Pg.ix q lv:Nat) x=T/\(∀v,S.swap t (Pg.ix q lv:Nat) x v=S)/\oc= .go (Pg.Wk.again root ⟨Z,q,k,u,t,lv,x⟩)):=by
  rcases hO with ⟨aB,e⟩|⟨aB,e⟩
  ·have aX:S.swaps t (Pg.ix q lv:Nat) x=Z:=by simp[Pg.Fs.swaps,hat,aB]
   exact .inl ⟨aX,fun v=>by simp[Pg.Fs.swap,Pg.Fs.store,aX,hat],e⟩
  ·have aX:S.swaps t (Pg.ix q lv:Nat) x=T:=by simp[Pg.Fs.swaps,aB]
   exact .inr ⟨aX,fun v=>by simp[Pg.Fs.swap,aX],e⟩
 clear hat;have dK:O _:=h;have Fj:=fun W'=>jR x lv mV aC W';rw[Pg.yjw]at Fj;simp only[Pg.En.val]at Fj;generalize Pg.En.of x lv=en at*;generalize Pg.yhV x lv=rc at*;obtain⟨et,el,er,eu,ed,ef⟩:=en;simp only at Fj;obtain⟨d',oW⟩:∃d',(ed||k==1)=d':=⟨_,rfl⟩
 have hO:(S.swaps t (Pg.ix q lv:Nat) x=Z/\oc= .done ⟨et,el,er,Z,d',ef⟩ Z\/S.swaps t (Pg.ix q lv:Nat) x=T/\oc= .go (Pg.Wk.again root ⟨Z,q,k,u,t,lv,x⟩))/\Pg.Wo.fs S ⟨Z,q,k,u,t,lv,x⟩ oc=S.swap t (Pg.ix q lv:Nat) x (Pg.enc et el er Z d' ef lv):=by
  rcases hO with ⟨e1,e2,e3⟩|⟨e1,e2,e3⟩
  ·rw[e2,e3,Pg.Wk.mark,<-oW]
   exact⟨.inl ⟨e1,rfl⟩,by simp only[Pg.Wo.fs];rw[Pg.yhY hq rQ]⟩
  ·rw[e2,e3]
   exact⟨.inr ⟨e1,rfl⟩,rfl⟩
 rw[hO.2];have HO:O _:=hO.1;clear hO;have BI:∀S',S'=S.swap t (Pg.ix q lv:Nat) x (Pg.enc et el er Z d' ef lv)->S.swap t (Pg.ix q lv:Nat) x (Pg.enc et el er Z d' ef lv)=S':=fun _ e=>e.symm;obtain⟨SY,Ih⟩:=eY (S.swap t (Pg.ix q lv:Nat) x (Pg.enc et el er Z d' ef lv));have BI:=BI SY Ih;rw[BI];clear Ih;obtain⟨sw,aX⟩:∃sw,S.swaps t (Pg.ix q lv:Nat) x=sw:=⟨_,rfl⟩;rw[aX]at HO;generalize hR:Pg.Wo.res ⟨Z,q,k,u,t,lv,x⟩ oc=R;generalize sJ:Pg.Wo.cd oc=cdv;generalize tO:Pg.Wo.next ⟨Z,q,k,u,t,lv,x⟩ oc=nx;obtain⟨ra,rb,rc',rd,⟨uL,uN,uK,uM⟩,re⟩:=R;have bQ:O (_/\_/\_):=⟨hR,sJ,tO⟩;clear hR sJ tO;simp only[Pg.Rs.val];have CK:O (zh w bf S F):=hf;clear h hf hh
 go_enter Tryz.func181,Tryz.ntmps181
 go_wp2_with fail
 rw[<-hW];refine HT.mono ?_;rintro e w1 ⟨rfl,Ha⟩;have fH:O _:=sI.out.grow Ha;have wF:O (zh w1 bf S F):=zh.keep (G:=fun _=>False) nO.out (But.yhJ Ha) (fun _ _=>id);have ry:O (Lw w w1):=zT rH Ha;have R1:O (w1.heap[w.heap.size]?=_):=(Ha.block _ (by rw[hW];simp)).trans R0.out;have dE:b<w1.heap.size:=fH.out.lb;have sO:w.heap.size<w1.heap.size:=(D.1 R1.out).1;clear Ha HT k5 sI nO R0 rH hW W;have y7:=fH.out.c7;have y6:=fH.out.c6;simp only at y6 y7
 have SB:b≠w1.heap.size:=by omega
 have mb1:w1.heap.size≠b:=by omega
 go_wp2
 go_region_held3 (fun w'=>w'.cell? ⟨b,o+7,B⟩=Y (I yK x)/\w'.cell? ⟨b,o+6,B⟩=Y (I J (lv:Int))) (go_keep) (
  (go_at_call 204;refine(Fj _).mono ?_;rintro en w2 ⟨rfl,Hd⟩
   have Ht:O _:=Hd;have su:b<w2.heap.size:=ki (by first|exact dE|(simp;omega)) Hd.size;have pJ:w1.heap.size<=w2.heap.size:=yO (by simp) Hd.size;have AY:w2.cell? ⟨b,o+7,B⟩=Y (I yK x):=(Hd.cell (p:=⟨b,o+7,B⟩) (by first|exact dE|(simp;omega))).trans (by first|exact y7|(simp[go_sem,y7,dE];done));have AX:w2.cell? ⟨b,o+6,B⟩=Y (I J (lv:Int)):=(Hd.cell (p:=⟨b,o+6,B⟩) (by first|exact dE|(simp;omega))).trans (by first|exact y6|(simp[go_sem,y6,dE];done))
   have SC:b≠w2.heap.size:=by omega
   have U1:w2.heap.size≠b:=by omega
   obtain⟨nW,kH⟩:=xV Hd
   clear Hd))
 focus
  have nR:Lw w1 (w2.alloc (kh #[P et,P el,I J er,P eu,P ed,I J ef] 70))/\w1.heap.size<=w2.heap.size/\((w2.alloc (kh #[P et,P el,I J er,P eu,P ed,I J ef] 70)).cell? ⟨w2.heap.size,0,B⟩=Y (P et)/\(w2.alloc (kh #[P et,P el,I J er,P eu,P ed,I J ef] 70)).cell? ⟨w2.heap.size,1,B⟩=Y (P el)/\(w2.alloc (kh #[P et,P el,I J er,P eu,P ed,I J ef] 70)).cell? ⟨w2.heap.size,2,B⟩=Y (I J er)/\(w2.alloc (kh #[P et,P el,I J er,P eu,P ed,I J ef] 70)).cell? ⟨w2.heap.size,3,B⟩=Y (P eu)/\(w2.alloc (kh #[P et,P el,I J er,P eu,P ed,I J ef] 70)).cell? ⟨w2.heap.size,4,B⟩=Y (P ed)/\(w2.alloc (kh #[P et,P el,I J er,P eu,P ed,I J ef] 70)).cell? ⟨w2.heap.size,5,B⟩=Y (I J ef))/\∀i,(w2.alloc (kh #[P et,P el,I J er,P eu,P ed,I J ef] 70)).frozen? ⟨w2.heap.size,i,B⟩=T:=by
   have tL:=zT (zR w1).drew Ht.out;exact⟨zA tL _,tL.size,by simp[go_sem],fun i=>by simp[go_sem]⟩
  generalize w2.alloc (kh #[P et,P el,I J er,P eu,P ed,I J ef] 70)=W5 at*;generalize w2.heap.size=Eb at*;obtain⟨kY,Gc,ug,Gd⟩:=nR;have EB:O _:=kY;have E6:O _:=ug;have EF:O _:=Gd;clear kY ug Gd nW kH AY AX SC U1 Ht su pJ
 rotate_left
 focus
  obtain⟨Eb,l9⟩:=eY (w1.heap.size);rw[<-l9]
  have nR:Lw w1 ((((((w2.setCell ⟨Eb,0,B⟩ (P et)).setCell ⟨Eb,1,B⟩ (P el)).setCell ⟨Eb,2,B⟩ (I J er)).setCell ⟨Eb,3,B⟩ (P eu)).setCell ⟨Eb,4,B⟩ (P ed)).setCell ⟨Eb,5,B⟩ (I J ef))/\w1.heap.size<=Eb/\(((((((w2.setCell ⟨Eb,0,B⟩ (P et)).setCell ⟨Eb,1,B⟩ (P el)).setCell ⟨Eb,2,B⟩ (I J er)).setCell ⟨Eb,3,B⟩ (P eu)).setCell ⟨Eb,4,B⟩ (P ed)).setCell ⟨Eb,5,B⟩ (I J ef)).cell? ⟨Eb,0,B⟩=Y (P et)/\((((((w2.setCell ⟨Eb,0,B⟩ (P et)).setCell ⟨Eb,1,B⟩ (P el)).setCell ⟨Eb,2,B⟩ (I J er)).setCell ⟨Eb,3,B⟩ (P eu)).setCell ⟨Eb,4,B⟩ (P ed)).setCell ⟨Eb,5,B⟩ (I J ef)).cell? ⟨Eb,1,B⟩=Y (P el)/\((((((w2.setCell ⟨Eb,0,B⟩ (P et)).setCell ⟨Eb,1,B⟩ (P el)).setCell ⟨Eb,2,B⟩ (I J er)).setCell ⟨Eb,3,B⟩ (P eu)).setCell ⟨Eb,4,B⟩ (P ed)).setCell ⟨Eb,5,B⟩ (I J ef)).cell? ⟨Eb,2,B⟩=Y (I J er)/\((((((w2.setCell ⟨Eb,0,B⟩ (P et)).setCell ⟨Eb,1,B⟩ (P el)).setCell ⟨Eb,2,B⟩ (I J er)).setCell ⟨Eb,3,B⟩ (P eu)).setCell ⟨Eb,4,B⟩ (P ed)).setCell ⟨Eb,5,B⟩ (I J ef)).cell? ⟨Eb,3,B⟩=Y (P eu)/\((((((w2.setCell ⟨Eb,0,B⟩ (P et)).setCell ⟨Eb,1,B⟩ (P el)).setCell ⟨Eb,2,B⟩ (I J er)).setCell ⟨Eb,3,B⟩ (P eu)).setCell ⟨Eb,4,B⟩ (P ed)).setCell ⟨Eb,5,B⟩ (I J ef)).cell? ⟨Eb,4,B⟩=Y (P ed)/\((((((w2.setCell ⟨Eb,0,B⟩ (P et)).setCell ⟨Eb,1,B⟩ (P el)).setCell ⟨Eb,2,B⟩ (I J er)).setCell ⟨Eb,3,B⟩ (P eu)).setCell ⟨Eb,4,B⟩ (P ed)).setCell ⟨Eb,5,B⟩ (I J ef)).cell? ⟨Eb,5,B⟩=Y (I J ef))/\∀i,((((((w2.setCell ⟨Eb,0,B⟩ (P et)).setCell ⟨Eb,1,B⟩ (P el)).setCell ⟨Eb,2,B⟩ (I J er)).setCell ⟨Eb,3,B⟩ (P eu)).setCell ⟨Eb,4,B⟩ (P ed)).setCell ⟨Eb,5,B⟩ (I J ef)).frozen? ⟨Eb,i,B⟩=T:=by
   subst l9;have tL:=zT (zA (zR w1) _).drew Ht.out
   have h6:w2.cell? ⟨w1.heap.size,0,B⟩=Y (P T)/\w2.cell? ⟨w1.heap.size,1,B⟩=Y (P T)/\w2.cell? ⟨w1.heap.size,2,B⟩=Y (I J 0)/\w2.cell? ⟨w1.heap.size,3,B⟩=Y (P T)/\w2.cell? ⟨w1.heap.size,4,B⟩=Y (P T)/\w2.cell? ⟨w1.heap.size,5,B⟩=Y (I J 0):=by
    refine⟨?_,?_,?_,?_,?_,?_⟩<;>(rw[nW _ _ (by simp)];simp[go_sem])
   have sM:=yac (v0:=P et) (v1:=P el) (v2:=I J er) (v3:=P eu) (v4:=P ed) (v5:=I J ef) tL (un _) h6;refine⟨sM.1,un _,sM.2.1,fun i=> ?_⟩;rw[sM.2.2.2,kH _ _ (by simp)];simp[go_sem]
  generalize ((((((w2.setCell ⟨Eb,0,B⟩ (P et)).setCell ⟨Eb,1,B⟩ (P el)).setCell ⟨Eb,2,B⟩ (I J er)).setCell ⟨Eb,3,B⟩ (P eu)).setCell ⟨Eb,4,B⟩ (P ed)).setCell ⟨Eb,5,B⟩ (I J ef))=W5 at*;obtain⟨kY,Gc,ug,Gd⟩:=nR;have EB:O _:=kY;have E6:O _:=ug;have EF:O _:=Gd;clear kY ug Gd l9 nW kH AY AX SC U1 Ht su pJ
 rotate_left
 all_goals
  obtain⟨z0,z1,z2,z3,z4,z5⟩:=E6.out;have zf:=EF.out;have Gf:=kp _ _ z0;simp only at Gf;have tT:O (Lw w W5):=zT ry.out EB.out;have R5:O (W5.heap[w.heap.size]?=_):=(EB.out.block _ sO).trans R1.out;have wJ:=vS ⟨et,el,er,eu,ed,ef⟩ _ (dK.out.grow tT.out);simp only[Pg.En.val,Pg.Wk.mark]at wJ;rw[oW]at wJ
  go_wp2_with fail
  refine wJ.mono ?_;rintro en w6 ⟨rfl,ru⟩;obtain⟨W7,bR⟩:=eY (((((((w6.setCell ⟨Eb,0,B⟩ (P et)).setCell ⟨Eb,1,B⟩ (P el)).setCell ⟨Eb,2,B⟩ (I J er)).setCell ⟨Eb,3,B⟩ (P Z)).setCell ⟨Eb,4,B⟩ (P d')).setCell ⟨Eb,5,B⟩ (I J ef)))
  have Ga:Below w.heap.size w6 W7:=by
   have hE:w.heap.size<=Eb:=by omega
   rw[bR];exact((((((Below.refl _ w6).setCell hE _).setCell hE _).setCell hE _).setCell hE _).setCell hE _).setCell hE _
  have k6:=xC ru E6.out;have kf:∀i,w6.frozen? ⟨Eb,i,B⟩=T:=fun i=>(ru.frozen (p:=⟨Eb,i,B⟩) Gf).trans (EF.out i);have pO:O (Lw w W7):=(zT tT.out ru).trans Ga
  have hE7:Eb<W7.heap.size:=by rw[bR];simp;have:=ru.size;omega
  obtain⟨q0,q1,q2,q3,q4,q5⟩:=k6
  have E7:O (W7.cell? ⟨Eb,0,B⟩=Y (P et)/\W7.cell? ⟨Eb,1,B⟩=Y (P el)/\W7.cell? ⟨Eb,2,B⟩=Y (I J er)/\W7.cell? ⟨Eb,3,B⟩=Y (P Z)/\W7.cell? ⟨Eb,4,B⟩=Y (P d')/\W7.cell? ⟨Eb,5,B⟩=Y (I J ef)):=by rw[O,bR];simp[go_sem,q0,q1,q2,q3,q4,q5]
  have R7:O (W7.heap[w.heap.size]?=Y (kh #[P T,I J 0,I J 0,I J 0,I J 0,I J 0,I J 0,I J 0,P T] 232 (0,0))):=by
   have Ho:w.heap.size≠Eb:=by omega
   rw[bR,ud _ _ _ _ Ho,ud _ _ _ _ Ho,ud _ _ _ _ Ho,ud _ _ _ _ Ho,ud _ _ _ _ Ho,ud _ _ _ _ Ho];exact(ru.block _ (by omega)).trans R5.out
  have hEbW:w.heap.size<Eb:=by omega
  clear Ga ru wJ z0 z1 z2 z3 z4 z5 zf Gf tT R5 E6 EF EB y6 y7 SB mb1 fH wF ry R1 dE sO Fj Gc
  go_wp2_with fail
  rw[<-bR];clear bR q0 q1 q2 q3 q4 q5 kf;have g0:=Q E7.out.1;have g1:=Q E7.out.2.1;have g2:=Q E7.out.2.2.1;have g3:=Q E7.out.2.2.2.1;have g4:=Q E7.out.2.2.2.2.1;have g5:=Q E7.out.2.2.2.2.2;have g6:=Q (dK.out.grow pO.out).c6;simp only at g6;have OO:=fun W'=>yaS et el er Z d' ef lv W';have lU:=(Pg.ykl et el er Z d' ef lv).1;have nE:=(Pg.ykl et el er Z d' ef lv).2;generalize hvv:Pg.enc et el er Z d' ef lv=v at*;have WZ:O _:=BI;clear BI hvv;refine wp_region_quiet_below (by kernel_rfl) (by kernel_rfl) ?_
  repeat (first
   | go_big_quiet_step ((go_at_call 168;exact Calls.regrown_of (OO _))))
  refine wpQuiet_nil ?_;intro _ sF;obtain⟨⟨Mg,RJ⟩,rfl⟩:=sF;have sH:=below_regrown W7 Mg RJ;have dQ:O (Lw w (grow (redrawn W7 Mg) RJ)):=zT pO.out sH;have E8:O _:=xC sH E7.out;have R8:O ((grow (redrawn W7 Mg) RJ).heap[w.heap.size]?=_):=(sH.block _ (by omega)).trans R7.out;clear sH g0 g1 g2 g3 g4 g5 g6 pO E7 R7 OO hE7;generalize grow (redrawn W7 Mg) RJ=w8 at*
  go_wp2_with fail
  have g5:=Q (dK.out.grow dQ.out).c5;have g7:=Q (dK.out.grow dQ.out).c7;simp only at g5 g7;have HP:=fun d os=>jW _ ((dK.out.grow dQ.out).grow (below_regrown w8 d os));simp only[Pg.yhY hq rQ]at HP;refine Loose.yhL 12 (by kernel_rfl) (by kernel_rfl) ?_;simp only[yS,yR,yC,yN]
  repeat (
   refine Loose.zS (fun k hk=> ?_)
   go_simp
   first
    | (refine hk _ ?_;clear hk k)
    | (apply Exists.intro
       refine⟨fun _=> ?_,hk _ ?_⟩
       (go_at_call 207;exact Loose.calls (HP _ _))
       clear hk k))
  refine Loose.yhM ?_;intro w9 gu;have ww:O (Lw w w9):=zT dQ.out gu;have E9:O _:=xC gu E8.out;have R9:O (w9.heap[w.heap.size]?=_):=(gu.block _ (D.1 R8.out).1).trans R8.out;clear gu g5 g7 HP dQ E8 R8;have Ls:=ydR t (Pg.ix q lv:Nat) x v lU nE w9 (zh.keep (G:=fun _=>False) CK.out (But.yhJ ww.out) (fun _ _=>id));rw[aX,WZ.out]at Ls
  go_wp2_with fail
  refine Ls.mono ?_;rintro en aG ⟨rfl,RQ,GK,df,Ra⟩;have IL:b<w9.heap.size:=ki hl ww.out.size;have BA:w.heap.size<w9.heap.size:=(D.1 R9.out).1;have FB:O _:=(dK.out.grow ww.out).keep df kR;have DZ:O (Ch8 b o (fun j=>j=b\/F j) w aG):=(Ch8.yhJ ww.out hl).trans ((Ch8.yl9 (o:=o) df IL kR).mono (G:=fun j=>j=b\/F j) (fun _ _ h=> .inr h)) (fun _ _ h=>h);have Me:O (aG.heap[w.heap.size]?=_):=(df.block _ BA RD).trans R9.out
  have hEF:¬F Eb:=fun hF=>by have:=zh.lt CK.out hF;omega
  have Wh:O _:=yfh (df.block Eb (kp _ _ E9.out.1) hEF) E9.out;have Fq:O (zh aG bf SY RQ):=GK;have Fx:O (∀j,RQ j->F j\/w.heap.size<=j):=fun j hj=>(Ra j hj).imp id (fun h=>by omega)
  have Tj:¬RQ b:=fun h=>by rcases Ra b h with h|h;exact kR h;omega
  have TF:¬RQ w.heap.size:=fun h=>by rcases Ra _ h with h|h;exact RD h;omega
  clear GK df Ra Ls ww R9 E9 dK IL BA;rcases HO.out with ⟨rfl,rfl⟩|⟨rfl,rfl⟩
  ·obtain⟨hR,sJ,tO⟩:=bQ.out
   simp only[Pg.Wo.cd,Pg.Wo.next]at sJ tO;subst sJ tO;have bQ:O _:=hR;clear hR;obtain⟨z0,z1,z2,z3,z4,z5⟩:=Wh.out;have aJ:=yb6 ⟨et,el,er,Z,d',ef⟩ _ FB.out Z;rw[bQ.out]at aJ;simp only[Pg.En.val,Pg.Rs.val]at aJ
   go_wp2_with fail
   refine aJ.mono ?_;rintro en lV ⟨rfl,nZ,fu⟩;have TV:O (zh lV bf SY RQ):=zh.keep Fq.out fu.but (fun j hj e=>Tj (e▸hj));have eQ:O (Ch8 b o (fun j=>j=b\/F j) w lV):=DZ.out.trans fu (fun _ _ h=> .inl h);have SF:O (lV.heap[w.heap.size]?=_):=(fu.but.block _ (D.1 Me.out).1 tZ).trans Me.out;obtain⟨⟨x0,x1,x2,x3,x4,x5,x6,x7,x8⟩,xf⟩:=yck SF.out;have HF:O _:=yfG tZ (un _) ⟨nZ,eQ.out⟩ (P ra) (I J rb) (I J rc') (I J rd) (I J uL) (I J uN) (I J uK) (I J uM) (P re);have nP:O _:=zh.keep TV.out (qb (F:=fun j=>j=w.heap.size) (But.refl _ lV) w.heap.size (.inr rfl) (P ra) (I J rb) (I J rc') (I J rd) (I J uL) (I J uN) (I J uK) (I J uM) (P re)) (fun j hj e=>TF (e▸hj));clear nZ fu aJ
   go_wp2
   refine A (v:=ur #[yP #[P ra,I J rb,I J rc',I J rd,I J uL,I J uN,I J uK,I J uM,P re],I J 0]) ?_ rfl ⟨rfl,HF.out.1,RQ,nP.out,HF.out.2,Fx.out⟩;simp[results,Tryz.results181,go_sem,x0,x1,x2,x3,x4,x5,x6,x7,x8]
  ·obtain⟨hR,sJ,tO⟩:=bQ.out
   simp only[Pg.Wo.res,Pg.Wo.cd,Pg.Wo.next,Pg.Rs.zero,Pg.Rs.mk.injEq,Pg.Mp.mk.injEq]at hR sJ tO;obtain⟨rfl,rfl,rfl,rfl,⟨rfl,rfl,rfl,rfl⟩,rfl⟩:=hR;subst sJ tO;have HA:=jV _ FB.out
   go_wp2_with fail
   refine HA.mono ?_;rintro en lV ⟨rfl,nZ,fu⟩;have TV:O (zh lV bf SY RQ):=zh.keep Fq.out fu.but (fun j hj e=>Tj (e▸hj));have eQ:O (Ch8 b o (fun j=>j=b\/F j) w lV):=DZ.out.trans fu (fun _ _ h=> .inl h);have SF:O (lV.heap[w.heap.size]?=_):=(fu.but.block _ (D.1 Me.out).1 tZ).trans Me.out;obtain⟨⟨x0,x1,x2,x3,x4,x5,x6,x7,x8⟩,xf⟩:=yck SF.out;have HF:O _:=yfG tZ (un _) ⟨nZ,eQ.out⟩ (P T) (I J 0) (I J 0) (I J 0) (I J 0) (I J 0) (I J 0) (I J 0) (P T);have nP:O _:=zh.keep TV.out (qb (F:=fun j=>j=w.heap.size) (But.refl _ lV) w.heap.size (.inr rfl) (P T) (I J 0) (I J 0) (I J 0) (I J 0) (I J 0) (I J 0) (I J 0) (P T)) (fun j hj e=>TF (e▸hj));clear nZ fu HA
   go_wp2
   refine A (v:=ur #[yP #[P T,I J 0,I J 0,I J 0,I J 0,I J 0,I J 0,I J 0,P T],I J 0]) ?_ rfl ⟨rfl,HF.out.1,RQ,nP.out,HF.out.2,Fx.out⟩;simp[results,Tryz.results181,go_sem,x0,x1,x2,x3,x4,x5,x6,x7,x8]
theorem ycW {bf:Nat} {S S':Pg.Fs} {F:Nat->Prop} {K K':Pg.Wk} {R:Pg.Rs} {c:Int} (ho:K.on=Z) (hx:(K.x !=0)=Z) (w:E) (h:xi w b o root K) (hf:zh w bf S F) (kR:¬F b)
 (HC:∀W,xi W b o root K->zh W bf S F->uc z 181 #[M (Y ⟨b,o,B⟩),M (Y ⟨bf,0,B⟩)] W fun e w'=>e=kO (ur #[R.val,I J c])/\xi w' b o root K'/\∃F',zh w' bf S' F'/\Ch8 b o (fun j=>j=b\/F j) W w'/\∀j,F' j->F j\/W.heap.size<=j):
 uc z 145 #[M (Y ⟨b,o,B⟩),M (Y ⟨bf,0,B⟩)] w fun e w'=>e=kO (ur #[R.val,I J c])/\xi w' b o root K'/\∃F',zh w' bf S' F'/\Ch8 b o (fun j=>j=b\/F j) w w'/\∀j,F' j->F j\/w.heap.size<=j:=by
 obtain⟨W,hW⟩:=eY (w.alloc (kh #[P T,I J 0,I J 0,I J 0,I J 0,I J 0,I J 0,I J 0,P T] 232))
 have rH:Lw w W:=by rw[hW];exact zA (zR w) _
 have pg:O _:=rH;have hl:=h.lb
 have Ho:b≠w.heap.size:=by omega
 have aH:=HC W (h.grow rH) (hf.keep (G:=fun _=>False) (But.yhJ rH) (fun _ _=>id))
 have R0:O (W.heap[w.heap.size]?=Y (kh #[P T,I J 0,I J 0,I J 0,I J 0,I J 0,I J 0,I J 0,P T] 232 (0,0))):=by rw[hW];exact yJ _ _
 have tZ:¬w.heap.size=b:=by omega
 have RD:¬F w.heap.size:=fun hF=>by have:=hf.lt hF;omega
 have c1:=h.c1;have c7:=h.c7;rw[ho]at c1;have kN:w.heap.size<W.heap.size:=(D.1 R0.out).1;obtain⟨ra,rb,rc,rd,⟨uL,uN,uK,uM⟩,re⟩:=R;simp only[Pg.Rs.val]at aH ⊢;clear h hf ho HC rH
 go_enter Tryz.func145,Tryz.ntmps145
 go_wp2_with fail
 rw[<-hW];refine aH.mono ?_;rintro e w1 ⟨rfl,dL,F1,si,rO,tH⟩;have R1:O (w1.heap[w.heap.size]?=_):=(rO.but.block _ kN (by rintro (h|h);exact tZ h;exact RD h)).trans R0.out
 have Sn:¬F1 w.heap.size:=fun h=>by rcases tH _ h with h|h;exact RD h;omega
 have eO:O (Ch8 b o (fun j=>j=b\/F j) w w1):=(Ch8.yhJ pg.out hl).trans rO (fun _ _ h=>h);have HG:O (∀j,F1 j->F j\/w.heap.size<=j):=fun j hj=>(tH j hj).imp id (fun h=>by omega);obtain⟨⟨x0,x1,x2,x3,x4,x5,x6,x7,x8⟩,xf⟩:=yck R1.out;have HF:O _:=yfG tZ (un _) ⟨dL,eO.out⟩ (P ra) (I J rb) (I J rc) (I J rd) (I J uL) (I J uN) (I J uK) (I J uM) (P re);have nP:O _:=zh.keep si (qb (F:=fun j=>j=w.heap.size) (But.refl _ w1) w.heap.size (.inr rfl) (P ra) (I J rb) (I J rc) (I J rd) (I J uL) (I J uN) (I J uK) (I J uM) (P re)) (fun j hj e=>Sn (e▸hj));clear dL si rO tH aH c1 c7 hW hx
 go_wp2
 refine A (v:=ur #[yP #[P ra,I J rb,I J rc,I J rd,I J uL,I J uN,I J uK,I J uM,P re],I J c]) ?_ rfl ⟨rfl,HF.out.1,F1,nP.out,HF.out.2,HG.out⟩;simp[results,Tryz.results145,go_sem,x0,x1,x2,x3,x4,x5,x6,x7,x8]
theorem ycX {bf:Nat} {S S':Pg.Fs} {F:Nat->Prop} {K K':Pg.Wk} {R:Pg.Rs} {c:Int} (ho:K.on=Z) (hx:(K.x !=0)=T) (w:E) (h:xi w b o root K) (hf:zh w bf S F) (kR:¬F b)
 (HC:∀W,xi W b o root K->zh W bf S F->uc z 182 #[M (Y ⟨b,o,B⟩),M (Y ⟨bf,0,B⟩)] W fun e w'=>e=kO (ur #[R.val,I J c])/\xi w' b o root K'/\∃F',zh w' bf S' F'/\Ch8 b o (fun j=>j=b\/F j) W w'/\∀j,F' j->F j\/W.heap.size<=j):
 uc z 145 #[M (Y ⟨b,o,B⟩),M (Y ⟨bf,0,B⟩)] w fun e w'=>e=kO (ur #[R.val,I J c])/\xi w' b o root K'/\∃F',zh w' bf S' F'/\Ch8 b o (fun j=>j=b\/F j) w w'/\∀j,F' j->F j\/w.heap.size<=j:=by
 obtain⟨W,hW⟩:=eY (w.alloc (kh #[P T,I J 0,I J 0,I J 0,I J 0,I J 0,I J 0,I J 0,P T] 232))
 have rH:Lw w W:=by rw[hW];exact zA (zR w) _
 have pg:O _:=rH;have hl:=h.lb
 have Ho:b≠w.heap.size:=by omega
 have aH:=HC W (h.grow rH) (hf.keep (G:=fun _=>False) (But.yhJ rH) (fun _ _=>id))
 have R0:O (W.heap[w.heap.size]?=Y (kh #[P T,I J 0,I J 0,I J 0,I J 0,I J 0,I J 0,I J 0,P T] 232 (0,0))):=by rw[hW];exact yJ _ _
 have tZ:¬w.heap.size=b:=by omega
 have RD:¬F w.heap.size:=fun hF=>by have:=hf.lt hF;omega
 have c1:=h.c1;have c7:=h.c7;rw[ho]at c1;have kN:w.heap.size<W.heap.size:=(D.1 R0.out).1;obtain⟨ra,rb,rc,rd,⟨uL,uN,uK,uM⟩,re⟩:=R;simp only[Pg.Rs.val]at aH ⊢;clear h hf ho HC rH
 go_enter Tryz.func145,Tryz.ntmps145
 go_wp2_with fail
 rw[<-hW];refine aH.mono ?_;rintro e w1 ⟨rfl,dL,F1,si,rO,tH⟩;have R1:O (w1.heap[w.heap.size]?=_):=(rO.but.block _ kN (by rintro (h|h);exact tZ h;exact RD h)).trans R0.out
 have Sn:¬F1 w.heap.size:=fun h=>by rcases tH _ h with h|h;exact RD h;omega
 have eO:O (Ch8 b o (fun j=>j=b\/F j) w w1):=(Ch8.yhJ pg.out hl).trans rO (fun _ _ h=>h);have HG:O (∀j,F1 j->F j\/w.heap.size<=j):=fun j hj=>(tH j hj).imp id (fun h=>by omega);obtain⟨⟨x0,x1,x2,x3,x4,x5,x6,x7,x8⟩,xf⟩:=yck R1.out;have HF:O _:=yfG tZ (un _) ⟨dL,eO.out⟩ (P ra) (I J rb) (I J rc) (I J rd) (I J uL) (I J uN) (I J uK) (I J uM) (P re);have nP:O _:=zh.keep si (qb (F:=fun j=>j=w.heap.size) (But.refl _ w1) w.heap.size (.inr rfl) (P ra) (I J rb) (I J rc) (I J rd) (I J uL) (I J uN) (I J uK) (I J uM) (P re)) (fun j hj e=>Sn (e▸hj));clear dL si rO tH aH c1 c7 hW hx
 go_wp2
 refine A (v:=ur #[yP #[P ra,I J rb,I J rc,I J rd,I J uL,I J uN,I J uK,I J uM,P re],I J c]) ?_ rfl ⟨rfl,HF.out.1,F1,nP.out,HF.out.2,HG.out⟩;simp[results,Tryz.results145,go_sem,x0,x1,x2,x3,x4,x5,x6,x7,x8]
theorem ydY {bf:Nat} {K:Pg.Wk} (ho:K.on=T) (w:E) (h:xi w b o root K):
 uc z 145 #[M (Y ⟨b,o,B⟩),M (Y ⟨bf,0,B⟩)] w fun e w'=>e=kO (ur #[Pg.Rs.val Pg.Rs.zero,I J 9])/\Lw w w':=by
 have c1:=h.c1;have hl:=h.lb
 have Ho:b≠w.heap.size:=by omega
 rw[ho]at c1;clear h ho;simp only[Pg.Rs.zero,Pg.Rs.val]
 go_enter Tryz.func145,Tryz.ntmps145
 go_wp2
 refine A (v:=ur #[yP #[P T,I J 0,I J 0,I J 0,I J 0,I J 0,I J 0,I J 0,P T],I J 9]) ?_ rfl ⟨rfl,zA (zR _) _⟩;simp[results,Tryz.results145,go_sem]
theorem ye0 {bf:Nat} {S:Pg.Fs} {F:Nat->Prop} {K:Pg.Wk} (ok:K.Ok) (w:E) (h:xi w b o root K) (hf:zh w bf S F) (kR:¬F b):
 uc z 145 #[M (Y ⟨b,o,B⟩),M (Y ⟨bf,0,B⟩)] w fun e w'=>e=kO (ur #[((Pg.kOut S root K).res K).val,I J (Pg.kOut S root K).cd])/\xi w' b o root ((Pg.kOut S root K).next K)/\∃F',zh w' bf ((Pg.kOut S root K).fs S K) F'/\Ch8 b o (fun j=>j=b\/F j) w w'/\∀j,F' j->F j\/w.heap.size<=j:=by
 cases ho:K.on
 ·have e:Pg.kOut S root K= .code 9:=by simp[Pg.kOut,ho]
  rw[e];refine(ydY ho w h).mono ?_;rintro e w' ⟨rfl,hb⟩;exact⟨rfl,h.grow hb,F,hf.keep (G:=fun _=>False) (But.yhJ hb) (fun _ _=>id),Ch8.yhJ hb h.lb,fun j hj=> .inl hj⟩
 ·obtain⟨on,q,k,u,t,lv,x⟩:=K
  simp only at ho;subst ho;have hq:=ok.page rfl;have rQ:=ok.lv;simp only at hq rQ
  by_cases hx:x=0
  ·subst hx
   refine ycX rfl rfl w h hf kR fun W hW Dg=> ?_;refine(yeZ hq rQ W hW Dg).mono ?_;rintro e w' ⟨rfl,hk,hc⟩
   have e:∀o:Pg.Wo,(∀e,o≠ .done e Z)->o.fs S ⟨Z,q,k,u,t,lv,0⟩=S:=fun o ho=>by
    rcases o with c|K'|r|⟨e,m⟩
    ·rfl
    ·rfl
    ·rfl
    ·cases m
     ·rfl
     ·exact absurd rfl (ho e)
   have hn:∀e,Pg.kOut S root ⟨Z,q,k,u,t,lv,0⟩≠ .done e Z:=fun e=>by
    have:=Pg.yly S root q k u t lv;rw[show Pg.kOut S root (Pg.Wk.at' q k u t lv 0)=Pg.kOut S root ⟨Z,q,k,u,t,lv,0⟩from rfl]at this;rw[this]
    repeat (any_goals split)
    all_goals simp
   rw[e _ hn];exact⟨rfl,hk,F,Dg.keep hc.but (fun j hj e=>kR (e▸hj)),hc.mono (fun _ _ h=> .inl h),fun j hj=> .inl hj⟩
  ·obtain⟨x0,x1,_⟩:=ok.leaf hx
   simp only at x0 x1;refine ycW rfl (by simpa using hx) w h hf kR fun W hW Dg=> ?_;cases hh:S.has t
   ·have e:Pg.kOut S root ⟨Z,q,k,u,t,lv,x⟩= .code 12:=by simp[Pg.kOut,hh]
    rw[e];exact ydW hq rQ x0 x1 W hW Dg kR hh
   ·by_cases hw:S.word t.toNat (Pg.ix q lv)=x
    ·have e:Pg.kOut S root ⟨Z,q,k,u,t,lv,x⟩= .done (Pg.Wk.mark ⟨Z,q,k,u,t,lv,x⟩ (Pg.En.of x lv)) Z:=Pg.ylH hx hh hw
     rw[e];exact ya1 hq rQ x0 x1 W hW Dg kR hh (.inl ⟨hw,rfl⟩)
    ·have e:Pg.kOut S root ⟨Z,q,k,u,t,lv,x⟩= .go (Pg.Wk.again root ⟨Z,q,k,u,t,lv,x⟩):=by
      unfold Pg.kOut;rw[iN (by simp),iN (by simp[hh]),iP hx,iN (show ¬Pg.Wk.word S ⟨Z,q,k,u,t,lv,x⟩=x from hw)]
     rw[e];exact ya1 hq rQ x0 x1 W hW Dg kR hh (.inr ⟨hw,rfl⟩)
def yeq (K:Pg.Wk) (q k:Int):Int:=if Pg.zK q k≠0 then Pg.zK q k else if K.on=Z then 8 else 0
def yew (root:Int) (K:Pg.Wk) (q k:Int) (u:Bool):Pg.Wk:=if yeq K q k=0 then Pg.Wk.start root q k u else K
theorem xi.begun {W:E} (h:xi W b o root Pg.Wk.off) (q k:Int) (u:Bool):
 xi ((((W.setCell ⟨b,o+1,B⟩ (P Z)).setCell ⟨b,o+2,B⟩ (I J q)).setCell ⟨b,o+3,B⟩ (I J k)).setCell ⟨b,o+4,B⟩ (P u)) b o root ⟨Z,q,k,u,0,0,0⟩/\Ch8 b o (fun j=>j=b) W ((((W.setCell ⟨b,o+1,B⟩ (P Z)).setCell ⟨b,o+2,B⟩ (I J q)).setCell ⟨b,o+3,B⟩ (I J k)).setCell ⟨b,o+4,B⟩ (P u)):=by
 obtain⟨c0,c1,c2,c3,c4,c5,c6,c7,fb⟩:=h
 refine⟨⟨?_,?_,?_,?_,?_,?_,?_,?_,fun p=> ?_⟩,((((Ch8.refl b o (fun j=>j=b) W).set rfl 1 (by decide) _).set rfl 2 (by decide) _).set rfl 3 (by decide) _).set rfl 4 (by decide) _⟩<;>simp[go_sem,c0,c1,c2,c3,c4,c5,c6,c7,fb,Pg.Wk.off]
theorem ya0 {K:Pg.Wk} (ok:K.Ok) (q k:Int) (u:Bool) (w:E) (h:xi w b o root K):
 uc z 144 #[M (Y ⟨b,o,B⟩),yP #[I J q,I J k,P u]] w fun e w'=>e=kO (I J (yeq K q k))/\xi w' b o root (yew root K q k u)/\Ch8 b o (fun j=>j=b) w w':=by
 obtain⟨W,hW⟩:=eY (w.alloc (kh #[I J q,I J k,P u] 41))
 have rH:Lw w W:=by rw[hW];exact zA (zR w) _
 have a3:W.cell? ⟨w.heap.size,0,B⟩=Y (I J q)/\W.cell? ⟨w.heap.size,1,B⟩=Y (I J k)/\W.cell? ⟨w.heap.size,2,B⟩=Y (P u):=by rw[hW];simp[go_sem]
 have A3:O _:=a3;have pg:O _:=rH;have hl:=h.lb
 have Ho:b≠w.heap.size:=by omega
 have Cn:w.heap.size≠b:=by omega
 have sI:O _:=h.grow rH;have fO:=zN q k u W;clear a3 rH
 by_cases hc:Pg.zK q k=0
 ·have e1:(Pg.zK q k !=0)=T:=by simpa using hc
  cases ho:K.on
  ·have fE:=ok.idle ho
   subst fE
   have e2:yeq Pg.Wk.off q k=0:=by simp[yeq,hc,Pg.Wk.off]
   have e3:yew root Pg.Wk.off q k u=Pg.Wk.start root q k u:=by simp[yew,e2]
   rw[e2,e3];rw[hc]at fO;clear h ho hc e1 e2 e3 ok
   go_enter Tryz.func144,Tryz.ntmps144
   go_wp2_with fail
   rw[<-hW];refine fO.mono ?_;rintro e w1 ⟨rfl,Ha⟩;have fH:O _:=sI.out.grow Ha;have eO:O (Ch8 b o (fun j=>j=b) w w1):=Ch8.yhJ (zT pg.out Ha) hl;obtain⟨z0,z1,z2⟩:=qc Ha A3.out;have c1:=fH.out.c1;have c2:=fH.out.c2;have c3:=fH.out.c3;have c4:=fH.out.c4;have fb:=fH.out.fb;simp only[Pg.Wk.off]at c1 c2 c3 c4;have HF:O _:=fH.out.begun q k u;clear Ha fO sI pg A3 hW;have Bj:=kp _ _ z0;simp only at Bj
   go_wp2_with fail
   go_region
   have HA:=jV _ (HF.out.1.grow (zR _).drew)
   go_wp2_with fail
   refine HA.mono ?_;rintro e w2 ⟨rfl,tK,tY⟩;have TY:O (xi w2 b o root (Pg.Wk.start root q k u)/\Ch8 b o (fun j=>j=b) w w2):=⟨tK,eO.out.trans (HF.out.2.drew.trans tY (fun _ _ h=>h)) (fun _ _ h=>h)⟩;clear tK tY HA HF
   go_wp2
   go_ret
   exact⟨rfl,TY.out⟩
  ·have e2:yeq K q k=8:=by simp[yeq,hc,ho]
   have e3:yew root K q k u=K:=by simp[yew,e2]
   rw[e2,e3];rw[hc]at fO;clear h hc e1 e2 e3 ok
   go_enter Tryz.func144,Tryz.ntmps144
   go_wp2_with fail
   rw[<-hW];refine fO.mono ?_;rintro e w1 ⟨rfl,Ha⟩;have fH:O _:=sI.out.grow Ha;have eO:O (Ch8 b o (fun j=>j=b) w w1):=Ch8.yhJ (zT pg.out Ha) hl;have c1:=fH.out.c1;rw[ho]at c1;clear Ha fO sI pg A3 hW ho
   go_wp2
   go_ret
   exact⟨rfl,fH.out,eO.out⟩
 ·have e1:(Pg.zK q k !=0)=Z:=by simpa using hc
  have e2:yeq K q k=Pg.zK q k:=by simp[yeq,hc]
  have e3:yew root K q k u=K:=by simp[yew,e2,hc]
  rw[e2,e3];generalize Pg.zK q k=cc at*;clear h hc e2 e3 ok
  go_enter Tryz.func144,Tryz.ntmps144
  go_wp2_with fail
  rw[<-hW];refine fO.mono ?_;rintro e w1 ⟨rfl,Ha⟩;have fH:O _:=sI.out.grow Ha;have eO:O (Ch8 b o (fun j=>j=b) w w1):=Ch8.yhJ (zT pg.out Ha) hl;clear Ha fO sI pg A3 hW
  go_wp2
  go_ret
  exact⟨rfl,fH.out,eO.out⟩
end
structure Crk (w:E) (b bt bk:Nat) (Ft:Nat->Prop) (root:Int) (C:Pg.Cr):Prop where
 c0:w.cell? ⟨b,0,B⟩=Y (M (Y ⟨bt,0,B⟩))
 c1:w.cell? ⟨b,1,B⟩=Y (M (Y ⟨bk,0,B⟩))
 tb:jM w bt 0 C.L Ft
 wk:xi w bk 0 root C.K
 nb:¬Ft b
 nk:¬Ft bk
 ne:b≠bk
 ok:C.K.Ok
def crF (b bk:Nat) (Ft:Nat->Prop):Nat->Prop:=fun j=>j=b\/j=bk\/Ft j
namespace Crk
variable {w w':E} {b bt bk:Nat} {Ft nN G:Nat->Prop} {root:Int} {C:Pg.Cr} {K':Pg.Wk} {L':List Pg.Ln}
theorem lb (h:Crk w b bt bk Ft root C):b<w.heap.size:=kp _ _ h.c0
theorem lt (h:Crk w b bt bk Ft root C) {k:Nat} (hk:crF b bk Ft k):k<w.heap.size:=by
 rcases hk with rfl|rfl|hk
 ·exact h.lb
 ·exact h.wk.lb
 ·exact h.tb.lt hk
theorem keep (h:Crk w b bt bk Ft root C) (hb:But G w w') (hG:∀k,crF b bk Ft k->¬G k):Crk w' b bt bk Ft root C:=by
 have n:=hG b (.inl rfl);exact⟨(hb.cell (a:=⟨b,0,B⟩) h.lb n).trans h.c0,(hb.cell (a:=⟨b,1,B⟩) h.lb n).trans h.c1,h.tb.keep hb fun k hk=>hG k (.inr (.inr hk)),h.wk.keep hb (hG bk (.inr (.inl rfl))),h.nb,h.nk,h.ne,h.ok⟩
theorem grow (h:Crk w b bt bk Ft root C) (hb:Lw w w'):Crk w' b bt bk Ft root C:=h.keep (G:=fun _=>False) (But.yhJ hb) (fun _ _=>id)
theorem ykL (h:Crk w b bt bk Ft root C) (hk:xi w' bk 0 root K') (ok:K'.Ok) (hb:But (fun j=>j=bk) w w'):Crk w' b bt bk Ft root ⟨C.L,K'⟩:=
 ⟨(hb.cell (a:=⟨b,0,B⟩) h.lb h.ne).trans h.c0,(hb.cell (a:=⟨b,1,B⟩) h.lb h.ne).trans h.c1,h.tb.keep hb fun k hk e=>h.nk (e▸hk),hk,h.nb,h.nk,h.ne,ok⟩
theorem stepT (h:Crk w b bt bk Ft root C) (ht:jM w' bt 0 L' nN) (hb:But Ft w w') (hF:∀k,nN k->Ft k\/w.heap.size<=k):Crk w' b bt bk nN root ⟨L',C.K⟩:=by
 have hl:=h.lb;have bH:=h.wk.lb;exact⟨(hb.cell (a:=⟨b,0,B⟩) h.lb h.nb).trans h.c0,(hb.cell (a:=⟨b,1,B⟩) h.lb h.nb).trans h.c1,ht,h.wk.keep hb h.nk,fun hk=>(hF b hk).elim h.nb (fun h=>by omega),fun hk=>(hF bk hk).elim h.nk (fun h=>by omega),h.ne,h.ok⟩
theorem ymk {Ff:Nat->Prop} (h:Crk w b bt bk Ft root C) (hk:xi w' bk 0 root K') (ok:K'.Ok) (hb:But (fun j=>j=bk\/Ff j) w w') (Ho:∀j,crF b bk Ft j->¬Ff j):Crk w' b bt bk Ft root ⟨C.L,K'⟩:=by
 have n:¬(b=bk\/Ff b):=fun e=>e.elim h.ne (Ho b (.inl rfl));exact⟨(hb.cell (a:=⟨b,0,B⟩) h.lb n).trans h.c0,(hb.cell (a:=⟨b,1,B⟩) h.lb n).trans h.c1,h.tb.keep hb fun k hk e=>e.elim (fun e=>h.nk (e▸hk)) (Ho k (.inr (.inr hk))),hk,h.nb,h.nk,h.ne,ok⟩
end Crk
structure qq (w:E) (b:Nat) (root:Int) (C:Pg.Cr) (F:Nat->Prop):Prop where
 ex:∃bt bk Ft,Crk w b bt bk Ft root C/\F=crF b bk Ft
section
variable {w w':E} {b:Nat} {root:Int} {C:Pg.Cr} {F G:Nat->Prop}
theorem qq.lt (h:qq w b root C F) {k:Nat} (hk:F k):k<w.heap.size:=by
 obtain⟨bt,bk,Ft,h,rfl⟩:=h;exact h.lt hk
theorem qq.keep (h:qq w b root C F) (hb:But G w w') (hF:∀k,F k->¬G k):qq w' b root C F:=by
 obtain⟨bt,bk,Ft,h,rfl⟩:=h;exact⟨bt,bk,Ft,h.keep hb hF,rfl⟩
theorem qq.grow (h:qq w b root C F) (hb:Lw w w'):qq w' b root C F:=h.keep (G:=fun _=>False) (But.yhJ hb) (fun _ _=>id)
end
theorem ybz {w:E} {r:Nat} {v0 v1 v2:ua} {t:TypeId} (h:w.heap[r]?=Y (kh #[v0,v1,v2] t (0,0))):
 (w.cell? ⟨r,0,B⟩=Y v0/\w.cell? ⟨r,1,B⟩=Y v1/\w.cell? ⟨r,2,B⟩=Y v2)/\∀i,w.frozen? ⟨r,i,B⟩=T:=
 ⟨by simp[yM,h],fun i=>by simp[yZ,h]⟩
theorem qP {F:Nat->Prop} {w w1:E} (h:But F w w1) (r:Nat) (hr:w.heap.size<=r\/F r) (x0 x1 x2:ua):But F w (((w1.setCell ⟨r,0,B⟩ x0).setCell ⟨r,1,B⟩ x1).setCell ⟨r,2,B⟩ x2):=
 ((h.setCell (a:=⟨r,0,B⟩) hr x0).setCell (a:=⟨r,1,B⟩) hr x1).setCell (a:=⟨r,2,B⟩) hr x2
theorem qh {w w1:E} (h:Lw w w1) (r:Nat) (hr:w.heap.size<=r) (x0 x1 x2:ua):Lw w (((w1.setCell ⟨r,0,B⟩ x0).setCell ⟨r,1,B⟩ x1).setCell ⟨r,2,B⟩ x2):=
 ((h.setCell (p:=⟨r,0,B⟩) hr x0).setCell (p:=⟨r,1,B⟩) hr x1).setCell (p:=⟨r,2,B⟩) hr x2
theorem yeA (root:Int) (w:E):
 uc z 48 #[I J root] w fun e w'=>∃b F,e=kO (M (Y ⟨b,0,B⟩))/\qq w' b root Pg.Cr.new F/\Lw w w'/\∀k,F k->w.heap.size<=k:=by
 go_enter Tryz.func48,Tryz.ntmps48
 go_wp2_with fail
 refine(yfk _).mono ?_;rintro e w1 ⟨bt,Ft,rfl,ht,Ha,hF⟩;have HT:O _:=ht;have ry:O _:=Ha;have HF:O _:=hF;clear ht Ha hF
 go_wp2_with fail
 refine(yfN root _).mono ?_;rintro e w2 ⟨bk,rfl,hk,Hd,bT⟩;have HK:O _:=hk;have Ht:O _:=Hd;have s1:=ry.out.size;have s2:=Hd.size;clear hk Hd
 go_wp2
 go_ret
 have He:=zA (zR w2) (kh #[M (Y ⟨bt,0,B⟩),M (Y ⟨bk,0,B⟩)] 130);have gp:=HK.out.lb
 have n1:¬Ft w2.heap.size:=fun hj=>by have:=HT.out.lt hj;omega
 have n2:¬Ft bk:=fun hj=>by have:=HT.out.lt hj;omega
 refine⟨_,_,rfl,⟨bt,bk,Ft,⟨?_,?_,(HT.out.grow Ht.out).grow He,HK.out.grow He,n1,n2,by omega,Pg.Wk.yjs⟩,rfl⟩,zT (zT ry.out Ht.out) He,fun k hk=> ?_⟩
 ·simp[go_sem]
 ·simp[go_sem]
 ·rcases hk with rfl|rfl|hk
  ·omega
  ·omega
  ·exact HF.out k hk
section
variable {b:Nat} {root:Int} {C:Pg.Cr} {F:Nat->Prop}
theorem qx (w:E) (h:qq w b root C F):
 uc z 63 #[M (Y ⟨b,0,B⟩)] w fun e w'=>e=kO (P C.K.on)/\w'=w:=by
 obtain⟨bt,bk,Ft,h,rfl⟩:=h;have c1:=h.c1;have HO:=ygu w h.wk;clear h
 go_enter Tryz.func63,Tryz.ntmps63
 go_wp2_with fail
 refine HO.mono ?_;rintro e w1 ⟨rfl,hw⟩;subst w1
 go_wp2
 go_ret
 exact⟨rfl,rfl⟩
theorem ydz (m:Pg.Mp) (hm:Pg.fits m.p) (w:E) (h:qq w b root C F):
 uc z 148 #[M (Y ⟨b,0,B⟩),m.val] w fun e w'=>e=kO (ur #[])/\∃F',qq w' b root (C.told root m) F'/\But F w w'/\∀k,F' k->F k\/w.heap.size<=k:=by
 obtain⟨bt,bk,Ft,h,rfl⟩:=h;obtain⟨W,hW⟩:=eY (w.alloc (kh #[I J m.p,I J m.s,I J m.f,I J m.r] 39))
 have hB:Lw w W:=by rw[hW];exact zA (zR _) _
 have k1:ybJ W w.heap.size 0 m:=by rw[hW];exact⟨by simp[go_sem],by simp[go_sem],by simp[go_sem],by simp[go_sem]⟩
 have HW:O _:=h.grow hB;have HB:O _:=hB;have HD:=fun w' (ht:jM w' bt 0 C.L Ft)=>yba m hm w' ht;obtain⟨x0,x1,x2,x3⟩:=k1;have g0:=Q x0;have g1:=Q x1;have g2:=Q x2;have g3:=Q x3;have g4:=Q HW.out.c0;simp only[Nat.zero_add]at g0 g1 g2 g3;clear h hB x0 x1 x2 x3;obtain⟨L,K⟩:=C;unfold Pg.Cr.told;simp only at HD ⊢;generalize Pg.yiI L m=L' at*;obtain⟨mp,ms,mf,mr⟩:=m;simp only[Pg.Mp.val]at hW g0 g1 g2 g3 HD ⊢
 go_enter Tryz.func148,Tryz.ntmps148
 go_wp2_with fail
 rw[<-hW];clear hW;refine Loose.yhL 5 (by kernel_rfl) (by kernel_rfl) ?_;simp only[yS,yR,yC,yN]
 repeat (
  refine Loose.zS (fun k hk=> ?_)
  go_simp
  (refine hk _ ?_;clear hk k))
 refine Loose.yhM ?_;intro w3 He;have H3:O _:=HW.out.grow He;have rE:O (Lw w w3):=zT HB.out He;clear He g0 g1 g2 g3 g4 HW HB
 go_wp2_with fail
 refine(HD _ H3.out.tb).mono ?_;rintro e w4 ⟨rfl,nN,ht,hc,hF⟩;have H4:O _:=H3.out.stepT ht hc.but hF;have rR:O (But (crF b bk Ft) w w4):=(But.yhJ rE.out).trans hc.but (fun _ _ h=> .inr (.inr h))
 have sU:O (∀k,crF b bk nN k->crF b bk Ft k\/w.heap.size<=k):=fun k hk=>by
  have hs:=rE.out.size;rcases hk with hk|hk|hk
  ·exact .inl (.inl hk)
  ·exact .inl (.inr (.inl hk))
  ·exact(hF k hk).imp (fun h=> .inr (.inr h)) (fun h=>by omega)
 have c1:=H4.out.c1;clear ht hc hF HD H3 rE
 go_wp2_with fail
 refine(jV _ H4.out.wk).mono ?_;rintro e w5 ⟨rfl,cZ,Kz⟩;have H5:O _:=H4.out.ykL cZ (H4.out.ok.again root) Kz.but;have tT:O (But (crF b bk Ft) w w5):=rR.out.trans Kz.but (fun _ _ h=> .inr (.inl h));clear cZ Kz H4 rR c1
 go_wp2
 go_end0
 exact⟨rfl,_,⟨_,_,_,H5.out,rfl⟩,tT.out,sU.out⟩
theorem jJ (l:Pg.Ln) (q k:Int) (u:Bool) (w:E):
 uc z 142 #[l.val,yP #[I J q,I J k,P u]] w fun e w'=>e=kO (P (l.wants k u))/\Lw w w':=by
 obtain⟨⟨mp,ms,mf,mr⟩,d⟩:=l;have HM:=fun w=>ybt mr q k u w;simp only[Pg.Ln.val,Pg.Ln.wants];cases hk:(k==1)
 ·go_enter Tryz.func142,Tryz.ntmps142
  go_wp2
  go_ret
  exact⟨rfl,zA (zA (zR w) _) _⟩
 ·cases d
  ·generalize Pg.may mr k u=x at*
   go_enter Tryz.func142,Tryz.ntmps142
   go_wp2_with fail
   refine(HM _).mono ?_;rintro e w1 ⟨rfl,Ha⟩;have HB:O (Lw w w1):=zT (zA (zA (zR w) _) _) Ha;clear Ha
   go_wp2
   go_ret
   exact⟨rfl,HB.out⟩
  ·go_enter Tryz.func142,Tryz.ntmps142
   go_wp2
   go_ret
   exact⟨rfl,zA (zA (zR w) _) _⟩
end
end
end Go.Proofs.YtdphiompijbelaaGreat
