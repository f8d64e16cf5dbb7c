import Derived.Test.YtdphiompijbelaaGreatFrameB
import Derived.Test.YtdphiompijbelaaGreatLooseD
import Derived.Deep.RegionHeld3
import Derived.Deep.RegionLaw
set_option linter.all false
set_option maxRecDepth 100000
open List renaming take_succ_cons->kh,drop_succ_cons->un,length_singleton->ua,take_zero->ue,drop_zero->yI,mem_of_getLast?->yJ,length_append->yP
open Nat renaming le_refl->ks,le_trans->ud
open Go.Obj renaming cells->kO
open Go.Ending renaming returned->O
open Bool renaming false->Z,true->D
open Go.Proofs.Tryz renaming prog->Q
open Go renaming World->T
open Go.World renaming cell?_of_block->P,cell?_setCell_other->R,block_lt_of_cell?->E,ownsRow_nil->A,frozen?_of_block->H,ownsRow->z,cell?_setCell_same->ur,frozen?_setCell->uc,frozen?->yS,cell?->yC
open Go.IntKind renaming i64->B,u64->kp
open Go.Value renaming int->J,bool->N,slice->Y,ownBlock->U,pointer->M,slice->ki,tuple->uv,agg->yB,int->yR
open Option renaming none->I,some->C
set_option maxHeartbeats 1000000
namespace Go.Proofs.YtdphiompijbelaaGreat
open Go.RowKit Go.Sort
theorem yeT {w:T} {base base' size n:Nat} {e:TypeId} {v:Value} {xs:List Value} (h:w.ownsRow base e size v n xs) (hb:base'<=base):w.ownsRow base' e size v n xs:=
 ⟨h.1,h.2.imp id fun⟨g,cap,cur,e,k,r⟩=>⟨g,cap,cur,e,ud hb k,r⟩⟩
def yhw (X:List Pg.Sp):Int:=match X.getLast? with
 | some s=>(s.level:Int)
 | none=>0
def yhu (X:List Pg.Sp):Pg.En:=match X.getLast? with
 | some s=>s.e
 | none=>Pg.En.zero
def tabs (X:List Pg.Sp):List Int:=X.map fun s=>s.table
def qN (X:List Pg.Sp):List Int:=X.map fun s=>(s.place:Int)
theorem jk (X:List Pg.Sp) (s:Pg.Sp):yhw (X++[s])=s.level:=by simp[yhw]
theorem jj (X:List Pg.Sp) (s:Pg.Sp):yhu (X++[s])=s.e:=by simp[yhu]
theorem yck (X:List Pg.Sp) (s:Pg.Sp):xG (tabs (X++[s]))=xG (tabs X)++[J B s.table]:=by simp[tabs,xG]
theorem yeU (X:List Pg.Sp) (s:Pg.Sp):xG (qN (X++[s]))=xG (qN X)++[J B (s.place:Int)]:=by simp[qN,xG]
theorem xC (X:List Pg.Sp):(tabs X).length=X.length:=by simp[tabs]
theorem vx (X:List Pg.Sp):(qN X).length=X.length:=by simp[qN]
structure qu (c:Nat) (lv:Int) (e:Pg.En) (v1 v2:Value) (w:T):Prop where
 c0:w.cell? ⟨c,0,I⟩=C (J B lv)
 c1:w.cell? ⟨c,1,I⟩=C (N e.t)
 c2:w.cell? ⟨c,2,I⟩=C (N e.l)
 c3:w.cell? ⟨c,3,I⟩=C (J B e.r)
 c4:w.cell? ⟨c,4,I⟩=C (N e.u)
 c5:w.cell? ⟨c,5,I⟩=C (N e.d)
 c6:w.cell? ⟨c,6,I⟩=C (J B e.f)
 c7:w.cell? ⟨c,7,I⟩=C v1
 c8:w.cell? ⟨c,8,I⟩=C v2
 fz:∀o,w.frozen? ⟨c,o,I⟩=Z
theorem qu.lb {c:Nat} {lv:Int} {e:Pg.En} {v1 v2:Value} {w:T} (h:qu c lv e v1 v2 w):c<w.heap.size:=E _ _ h.c0
theorem qu.of_block {c:Nat} {lv:Int} {e:Pg.En} {v1 v2:Value} {w w':T} (h:qu c lv e v1 v2 w) (hk:w'.heap[c]?=w.heap[c]?):qu c lv e v1 v2 w':=
 ⟨(P hk).trans h.c0,(P hk).trans h.c1,(P hk).trans h.c2,(P hk).trans h.c3,(P hk).trans h.c4,(P hk).trans h.c5,(P hk).trans h.c6,(P hk).trans h.c7,(P hk).trans h.c8,fun o=>(H hk).trans (h.fz o)⟩
structure vA (w0:T) (bp c:Nat) (p:Int) (X:List Pg.Sp) (V:Nat->Prop) (w:T):Prop where
 bel:Below w0.heap.size w0 w
 hi:w0.heap.size<=c
 pc:w.cell? ⟨bp,0,I⟩=C (J B p)
 pb:bp<c
 var:∃v1 v2,qu c (yhw X) (yhu X) v1 v2 w/\w.ownsRow (c+1) 3 1 v1 X.length (xG (tabs X))/\w.ownsRow (c+1) 3 1 v2 X.length (xG (qN X))/\(∀k,v1.ownBlock=C k->v2.ownBlock≠C k)/\V=fun k=>k=c\/v1.ownBlock=C k\/v2.ownBlock=C k
namespace vA
variable {w0:T} {bp c:Nat} {p:Int} {X X':List Pg.Sp} {V:Nat->Prop} {w w':T}
theorem grow (h:vA w0 bp c p X V w) (hb:Below w.heap.size w w'):vA w0 bp c p X V w':=by
 obtain⟨h1,h2,h3,h4,v1,v2,hs,o1,o2,Ho,rfl⟩:=h;exact⟨h1.trans (hb.mono h1.size),h2,cell_later hb h3,h4,v1,v2,hs.of_block (hb.block c hs.lb),zl o1 hb,zl o2 hb,Ho,rfl⟩
theorem lt (h:vA w0 bp c p X V w) {k:Nat} (hk:V k):k<w.heap.size:=by
 obtain⟨h1,h2,h3,h4,v1,v2,hs,o1,o2,Ho,rfl⟩:=h;rcases hk with rfl|hk|hk
 ·exact hs.lb
 ·exact(o1.lt k hk).2
 ·exact(o2.lt k hk).2
theorem fr {b:Nat} {S:Pg.Fs} {F:Nat->Prop} (hf:zh w0 b S F) (h:vA w0 bp c p X V w):zh w b S F:=
 hf.keep (G:=fun k=>w0.heap.size<=k) (w':=w) ⟨h.bel.os,h.bel.tape,h.bel.output,h.bel.size,fun k hk _=>h.bel.block k hk⟩ (fun k hk=>by have:=hf.lt hk;omega)
end vA
theorem qu.set7 {c:Nat} {lv:Int} {e:Pg.En} {v1 v2:Value} {w:T} (h:qu c lv e v1 v2 w) (v:Value):qu c lv e v v2 (w.setCell ⟨c,7,I⟩ v):=
 ⟨(R _ _ _ _ (by simp)).trans h.c0,(R _ _ _ _ (by simp)).trans h.c1,(R _ _ _ _ (by simp)).trans h.c2,(R _ _ _ _ (by simp)).trans h.c3,(R _ _ _ _ (by simp)).trans h.c4,(R _ _ _ _ (by simp)).trans h.c5,(R _ _ _ _ (by simp)).trans h.c6,ur _ _ _ h.c7,(R _ _ _ _ (by simp)).trans h.c8,fun o=>by rw[uc];exact h.fz o⟩
theorem qu.set8 {c:Nat} {lv:Int} {e:Pg.En} {v1 v2:Value} {w:T} (h:qu c lv e v1 v2 w) (v:Value):qu c lv e v1 v (w.setCell ⟨c,8,I⟩ v):=
 ⟨(R _ _ _ _ (by simp)).trans h.c0,(R _ _ _ _ (by simp)).trans h.c1,(R _ _ _ _ (by simp)).trans h.c2,(R _ _ _ _ (by simp)).trans h.c3,(R _ _ _ _ (by simp)).trans h.c4,(R _ _ _ _ (by simp)).trans h.c5,(R _ _ _ _ (by simp)).trans h.c6,(R _ _ _ _ (by simp)).trans h.c7,ur _ _ _ h.c8,fun o=>by rw[uc];exact h.fz o⟩
structure ygE (c:Nat) (v:Value) (W w3:T) (g:Nat):Prop where
 but:But (fun k=>v.ownBlock=C k) W w3
 far:∀k,v.ownBlock=C k->c<k
 gc:c<g
 gl:g<w3.heap.size
 at':v.ownBlock=C g\/W.heap.size<=g
theorem ygs {c:Nat} {e:TypeId} {size n g:Nat} {v:Value} {xs:List Value} {W w3:T} {o:Obj} (hl:W.ownsRow (c+1) e size v n xs) (hg:(W.alloc o).grownBy w3 v.ownBlock) (hat:v.ownBlock=C g\/g=W.heap.size+1) (hc:c<W.heap.size) (Hf:g<w3.heap.size):ygE c v W w3 g:=by
 refine⟨((But.refl _ W).alloc o).grown hg fun k hk=> .inr hk,fun k hk=>(hl.lt k hk).1,?_,Hf,hat.imp id fun h=>by omega⟩;rcases hat with h|h
 ·exact(hl.lt g h).1
 ·omega
theorem yeh {bp:Nat} (i lv:Nat) (p:Int) (hp:Pg.below p 4096=D) (hl:lv<4) (w:T) (hc:w.cell? ⟨bp,0,I⟩=C (J B p)):
 Calls Q 214 #[J B (i:Int),J B (lv:Int),M (C ⟨bp,0,I⟩)] w fun e w'=>e=O (N (Pg.onW p i lv))/\w'=w:=by
 have HI:=vK p (lv:Int);rw[Pg.yhE hp hl]at HI
 have HE:Hid (((i:Int)==((Pg.ix p lv:Nat):Int))=Pg.onW p i lv):=by
  rw[Hid,Bool.eq_iff_iff];simp only[Pg.onW,beq_iff_eq,decide_eq_true_eq];omega
 go_enter Tryz.func214,Tryz.ntmps214
 go_wp2_with fail
 refine(HI _).mono ?_;rintro e w1 ⟨rfl,rfl⟩
 go_wp2_with fail
 go_ret
 exact⟨xB HE.out,rfl⟩
theorem yeD {w0:T} {bp c:Nat} {p:Int} (s:Pg.Sp) (X:List Pg.Sp) (V:Nat->Prop) (w:T) (Hg:X.length<4680) (hR:vA w0 bp c p X V w):
 Calls Q 215 #[s.val,M (C ⟨c,0,I⟩)] w fun e w'=>e=O (uv #[])/\∃V',vA w0 bp c p (X++[s]) V' w'/\But V w w'/\∀k,V' k->V k\/w.heap.size<=k:=by
 have HR:Hid _:=hR;obtain⟨uF,wE,hpc,W9,v1,v2,hs,o1,o2,Ho,hV⟩:=hR;have NI:=hs.lb;obtain⟨c0,c1,c2,c3,c4,c5,c6,c7,c8,wC⟩:=hs;obtain⟨q0,hq,rW,rZ,rX⟩:=info_parts ji;obtain⟨st,sp,sl,sa,⟨et,el,er,eu,ed,ef⟩⟩:=s;simp only[Pg.Sp.val]
 have eH:c≠w.heap.size:=by omega
 have hwc:w.heap.size≠c:=by omega
 generalize yhw X=xl at*;generalize yhu X=xe at*;clear hpc;have aO:Hid (w.ownsRow (c+1) 3 1 v1 X.length (xG (tabs X))):=o1;have Rj:Hid (w.ownsRow (c+1) 3 1 v2 X.length (xG (qN X))):=o2;have HN:Hid _:=Ho;clear Ho o1 o2 uF;obtain⟨W2,Hz⟩:∃W2,W2=((((((((w.setCell ⟨c,0,I⟩ (J B (sl:Int))).setCell ⟨c,1,I⟩ (N et)).setCell ⟨c,2,I⟩ (N el)).setCell ⟨c,3,I⟩ (J B er)).setCell ⟨c,4,I⟩ (N eu)).setCell ⟨c,5,I⟩ (N ed)).setCell ⟨c,6,I⟩ (J B ef)).alloc (kO #[J B st,J B (sp:Int),J B (sl:Int),J B (sa:Int),N et,N el,J B er,N eu,N ed,J B ef] 198)).drew:=⟨_,rfl⟩
 have oV:qu c (sl:Int) ⟨et,el,er,eu,ed,ef⟩ v1 v2 W2:=by
  rw[Hz]
  refine⟨?_,?_,?_,?_,?_,?_,?_,?_,?_,fun o=> ?_⟩<;>simp[go_sem,c0,c1,c2,c3,c4,c5,c6,c7,c8,wC,NI]
 have tH:But (fun k=>k=c) w W2:=by
  rw[Hz];exact(((((((((But.refl (fun k=>k=c) w).setCell (a:=⟨c,0,I⟩) (.inr rfl) _).setCell (a:=⟨c,1,I⟩) (.inr rfl) _).setCell (a:=⟨c,2,I⟩) (.inr rfl) _).setCell (a:=⟨c,3,I⟩) (.inr rfl) _).setCell (a:=⟨c,4,I⟩) (.inr rfl) _).setCell (a:=⟨c,5,I⟩) (.inr rfl) _).setCell (a:=⟨c,6,I⟩) (.inr rfl) _).alloc _).drew
 have x0:W2.cell? ⟨w.heap.size,0,I⟩=C (J B st):=by rw[Hz];simp[go_sem]
 have x1:W2.cell? ⟨w.heap.size,1,I⟩=C (J B (sp:Int)):=by rw[Hz];simp[go_sem]
 have Il:Hid _:=oV;have Ht:Hid _:=tH;have uB:Hid _:=x1
 have Hr:W2.ownsRow (c+1) 3 1 v1 X.length (xG (tabs X)):=zc aO.out tH fun k hk e=>by have:=(aO.out.lt k hk).1;omega
 have nP:W2.ownsRow (c+1) 3 1 v2 X.length (xG (qN X)):=zc Rj.out tH fun k hk e=>by have:=(Rj.out.lt k hk).1;omega
 have sJ:=oV.lb;have cO:w.heap.size<W2.heap.size:=E _ _ x0;have d7:=oV.c7;have oh:=oV.fz;have aP:Hid (W2.ownsRow (c+1) 3 1 v2 X.length (xG (qN X))):=nP;clear oV tH nP
 go_enter Tryz.func215,Tryz.ntmps215
 go_wp2_with fail
 go_region
 rw[<-Hz];clear Hz c0 c1 c2 c3 c4 c5 c6 c7 c8 wC
 go_wp2_with (first
  | (at_builtin;refine wpList_append_lies _ rfl _ _ 45 rfl (c+1) 3 q0 (J B 0) 1 8 Tryz.underlying45 hq rW rZ rX rfl (by decide) _ _ _ rfl (Hr.alloc _) ⟨W2.heap.size,0,I⟩ 1 1 [J B st] rfl rfl ?c1 ?c2 (by decide) ?c3 ?c4 ?c5 (W2.heap.size+1) (by simp) ?_))
 case c1=>
  intro j u hj
  match j,hj with
  | 0,hj=>simp at hj;subst hj;simp[Addr.add,go_sem]
 case c2=>intro u hu;simp at hu;subst hu;rfl
 case c3=>unfold maxLen;omega
 case c4=>omega
 case c5=>simp;omega
 intro g cap w3 Hy Hq hat pK;have G3:Hid _:=ygs Hr Hq hat sJ pK
 have tK:w3.heap[c]?=W2.heap[c]?:=G3.out.but.block c sJ fun e=>by have:=G3.out.far c e;omega
 have S3:Hid _:=Il.out.of_block tK;have S4:Hid _:=S3.out.set7 (Y (C ⟨g,0,I⟩) (X.length+1) cap);have e7:=S3.out.c7;have IY:=S3.out.fz 7
 have B4:Hid (But (fun k=>k=c\/v1.ownBlock=C k) W2 (w3.setCell ⟨c,7,I⟩ (Y (C ⟨g,0,I⟩) (X.length+1) cap))):=
  (G3.out.but.mono fun _ _ h=> .inr h).setCell (.inr (.inl rfl)) _
 have O4:Hid ((w3.setCell ⟨c,7,I⟩ (Y (C ⟨g,0,I⟩) (X.length+1) cap)).ownsRow (c+1) 3 1 (Y (C ⟨g,0,I⟩) (X.length+1) cap) (X.length+1) (xG (tabs X)++[J B st])):=
  zb Hy fun k hk=>Below.heap_setCell _ _ _ _ (fun e=>by have e1:g=k:=(by simpa[U]using hk);have:=G3.out.gc;have e2:k=c:=e;omega)
 have fu:(w3.setCell ⟨c,7,I⟩ (Y (C ⟨g,0,I⟩) (X.length+1) cap)).ownsRow (c+1) 3 1 v2 X.length (xG (qN X)):=
  zc aP.out B4.out fun k hk e=>by
   rcases e with e|e
   ·have:=(z.lt aP.out k hk).1;omega
   ·exact HN.out k e hk
 have dW:=G3.out.but.size;have e8:=S3.out.c8;have MN:=S3.out.fz 8
 have l8:v1.ownBlock≠C w.heap.size:=fun e=>by have:=(z.lt aO.out _ e).2;omega
 have y1:w3.cell? ⟨w.heap.size,1,I⟩=C (J B (sp:Int)):=(G3.out.but.cell (a:=⟨w.heap.size,1,I⟩) cO l8).trans uB.out
 have kU:c<w3.heap.size:=by omega
 have mV:w.heap.size<w3.heap.size:=by omega
 have Gt:(w3.setCell ⟨c,7,I⟩ (Y (C ⟨g,0,I⟩) (X.length+1) cap)).heap.size=w3.heap.size:=by simp
 clear Hr Hy Hq hat pK tK x0 x1 d7 oh
 go_wp2_with (first
  | (at_builtin;refine wpList_append_lies _ rfl _ _ 45 rfl (c+1) 3 q0 (J B 0) 1 8 Tryz.underlying45 hq rW rZ rX rfl (by decide) _ _ _ rfl (fu.alloc _) ⟨w3.heap.size,0,I⟩ 1 1 [J B (sp:Int)] rfl rfl ?d1 ?d2 (by decide) ?d3 ?d4 ?d5 (w3.heap.size+1) (by simp) ?_))
 case d1=>
  intro j u hj
  match j,hj with
  | 0,hj=>simp at hj;subst hj;simp[Addr.add,go_sem]
 case d2=>intro u hu;simp at hu;subst hu;rfl
 case d3=>unfold maxLen;omega
 case d4=>omega
 case d5=>simp;omega
 intro g5 cap5 w5 nQ gZ wy wJ;have G5:Hid _:=ygs fu gZ (by simpa using wy) (by simp;omega) wJ
 have tK:w5.heap[c]?=_:=G5.out.but.block c (by simp;omega) fun e=>by have:=G5.out.far c e;omega
 have S5:Hid _:=S4.out.of_block tK;have S6:Hid _:=S5.out.set8 (Y (C ⟨g5,0,I⟩) (X.length+1) cap5);have k8:=S5.out.c8;have kf8:=S5.out.fz 8
 have TV:g≠g5:=by
  have h1:=G3.out.gl;rcases G5.out.at' with h5|h5
  ·rcases G3.out.at' with h3|h3
   ·intro e;exact HN.out g h3 (e▸h5)
   ·have:=(z.lt aP.out g5 h5).2;omega
  ·rw[Gt]at h5;omega
 have O6:Hid ((w5.setCell ⟨c,8,I⟩ (Y (C ⟨g5,0,I⟩) (X.length+1) cap5)).ownsRow (c+1) 3 1 (Y (C ⟨g5,0,I⟩) (X.length+1) cap5) (X.length+1) (xG (qN X)++[J B (sp:Int)])):=
  zb nQ fun k hk=>Below.heap_setCell _ _ _ _ (fun e=>by have e1:g5=k:=(by simpa[U]using hk);have:=G5.out.gc;have e2:k=c:=e;omega)
 have B6:Hid (But (fun k=>k=c\/v2.ownBlock=C k) (w3.setCell ⟨c,7,I⟩ (Y (C ⟨g,0,I⟩) (X.length+1) cap)) (w5.setCell ⟨c,8,I⟩ (Y (C ⟨g5,0,I⟩) (X.length+1) cap5))):=
  (G5.out.but.mono fun _ _ h=> .inr h).setCell (.inr (.inl rfl)) _
 have O7:Hid ((w5.setCell ⟨c,8,I⟩ (Y (C ⟨g5,0,I⟩) (X.length+1) cap5)).ownsRow (c+1) 3 1 (Y (C ⟨g,0,I⟩) (X.length+1) cap) (X.length+1) (xG (tabs X)++[J B st])):=
  zc O4.out B6.out fun k hk e=>by
   have e1:g=k:=by simpa[U]using hk
   have:=G3.out.gc;rcases e with e|e
   ·omega
   ·rcases G3.out.at' with h3|h3
    ·exact HN.out g h3 (e1▸e)
    ·have:=(z.lt aP.out k e).2;omega
 have fin:Hid (∃V',vA w0 bp c p (X++[⟨st,sp,sl,sa,⟨et,el,er,eu,ed,ef⟩⟩]) V' (w5.setCell ⟨c,8,I⟩ (Y (C ⟨g5,0,I⟩) (X.length+1) cap5))/\But V w (w5.setCell ⟨c,8,I⟩ (Y (C ⟨g5,0,I⟩) (X.length+1) cap5))/\∀k,V' k->V k\/w.heap.size<=k):=by
  have gT:But V w (w5.setCell ⟨c,8,I⟩ (Y (C ⟨g5,0,I⟩) (X.length+1) cap5)):=by
   rw[hV];refine((Ht.out.mono fun _ _ h=> .inl h).trans B4.out fun i _ h=> ?_).trans B6.out fun i _ h=> ?_
   ·exact h.imp id .inl
   ·exact h.imp id .inr
  have DF:∀k,V k->c<=k:=by
   rw[hV];rintro k (rfl|h|h)
   ·exact ks _
   ·have:=(z.lt aO.out k h).1;omega
   ·have:=(z.lt Rj.out k h).1;omega
  have AB:¬V bp:=fun h=>by have:=DF bp h;omega
  refine⟨_,⟨HR.out.bel.trans (gT.below HR.out.bel.size fun k hk=>ud wE (DF k hk)),wE,?_,W9,Y (C ⟨g,0,I⟩) (X.length+1) cap,Y (C ⟨g5,0,I⟩) (X.length+1) cap5,?_,?_,?_,?_,rfl⟩,gT,fun k hk=> ?_⟩
  ·exact(gT.cell (a:=⟨bp,0,I⟩) (by show bp<w.heap.size;omega) AB).trans HR.out.pc
  ·rw[jk,jj];exact S6.out
  ·rw[yck,yP,ua];exact O7.out
  ·rw[yeU,yP,ua];exact O6.out
  ·intro k hk uH
   have e1:g=k:=by simpa[U]using hk
   have e2:g5=k:=by simpa[U]using uH
   exact TV (e1.trans e2.symm)
  ·rw[hV]
   rcases hk with rfl|hk|hk
   ·exact .inl (.inl rfl)
   ·have e1:g=k:=by simpa[U]using hk
    subst e1;rcases G3.out.at' with h3|h3
    ·exact .inl (.inr (.inl h3))
    ·exact .inr (by omega)
   ·have e1:g5=k:=by simpa[U]using hk
    subst e1;rcases G5.out.at' with h3|h3
    ·exact .inl (.inr (.inr h3))
    ·rw[Gt]at h3;exact .inr (by omega)
 clear fu nQ gZ wy wJ tK TV e7 IY e8 MN y1
 go_wp2_with fail
 go_end0
 exact⟨rfl,fin.out⟩
theorem ybY:∀args w,(callFunc 214 args).run Q w= .ok (.enter 214 args) w:=fun args w=>by simp[go_sem]
theorem ybZ:∀args w,(callFunc 215 args).run Q w= .ok (.enter 215 args) w:=fun args w=>by simp[go_sem]
theorem ydQ {b:Nat} {S:Pg.Fs} {F:Nat->Prop} {w0:T} {bp c:Nat} {p:Int} (hp:Pg.below p 4096=D) (h:zh w0 b S F):
 yct b S F 214 215 #[M (C ⟨bp,0,I⟩)] #[M (C ⟨c,0,I⟩)] (Pg.onW p) (vA w0 bp c p):=
 ⟨ybY,ybZ,fun _ _ _ hR=>hR.fr h,fun _ _ _ hR _ hk=>hR.lt hk,fun _ _ _ _ hR hb=>hR.grow hb,
  fun i lv _ _ w _ hl hR=>xz (yeh i lv p hp hl w hR.pc),fun s X V w _ _ _ hl hR=>yeD s X V w hl hR⟩
def zg (S:Pg.Fs) (t p:Int):List Pg.Sp:=if Pg.below p 4096=D/\(Pg.thr S (Pg.onW p) 3 t 0).2=0 then(Pg.thr S (Pg.onW p) 3 t 0).1 else []
def xQ (S:Pg.Fs) (t p:Int):Int:=if Pg.below p 4096=D then(Pg.thr S (Pg.onW p) 3 t 0).2 else 1
def ych (X:List Pg.Sp) (v1 v2:Value):Value:=yB #[J B (yhw X),N (yhu X).t,N (yhu X).l,J B (yhu X).r,N (yhu X).u,N (yhu X).d,J B (yhu X).f,v1,v2]
theorem ygv {w w':T} {b:Nat} {v0 v1 v2 v3 v4 v5 v6 v7 v8:Value} (hk:w'.heap[b]?=w.heap[b]?)
 (h:w.cell? ⟨b,0,I⟩=C v0/\w.cell? ⟨b,1,I⟩=C v1/\w.cell? ⟨b,2,I⟩=C v2/\w.cell? ⟨b,3,I⟩=C v3/\w.cell? ⟨b,4,I⟩=C v4/\w.cell? ⟨b,5,I⟩=C v5/\w.cell? ⟨b,6,I⟩=C v6/\w.cell? ⟨b,7,I⟩=C v7/\w.cell? ⟨b,8,I⟩=C v8):
 w'.cell? ⟨b,0,I⟩=C v0/\w'.cell? ⟨b,1,I⟩=C v1/\w'.cell? ⟨b,2,I⟩=C v2/\w'.cell? ⟨b,3,I⟩=C v3/\w'.cell? ⟨b,4,I⟩=C v4/\w'.cell? ⟨b,5,I⟩=C v5/\w'.cell? ⟨b,6,I⟩=C v6/\w'.cell? ⟨b,7,I⟩=C v7/\w'.cell? ⟨b,8,I⟩=C v8:=
 ⟨(P hk).trans h.1,(P hk).trans h.2.1,(P hk).trans h.2.2.1,(P hk).trans h.2.2.2.1,(P hk).trans h.2.2.2.2.1,(P hk).trans h.2.2.2.2.2.1,(P hk).trans h.2.2.2.2.2.2.1,(P hk).trans h.2.2.2.2.2.2.2.1,(P hk).trans h.2.2.2.2.2.2.2.2⟩
theorem ydl {F:Nat->Prop} {w w1:T} (h:But F w w1) (r:Nat) (hr:w.heap.size<=r\/F r) (x0 x1 x2 x3 x4 x5 x6 x7 x8:Value):
 But F w (((((((((w1.setCell ⟨r,0,I⟩ x0).setCell ⟨r,1,I⟩ x1).setCell ⟨r,2,I⟩ x2).setCell ⟨r,3,I⟩ x3).setCell ⟨r,4,I⟩ x4).setCell ⟨r,5,I⟩ x5).setCell ⟨r,6,I⟩ x6).setCell ⟨r,7,I⟩ x7).setCell ⟨r,8,I⟩ x8):=
 ((((((((h.setCell (a:=⟨r,0,I⟩) hr x0).setCell (a:=⟨r,1,I⟩) hr x1).setCell (a:=⟨r,2,I⟩) hr x2).setCell (a:=⟨r,3,I⟩) hr x3).setCell (a:=⟨r,4,I⟩) hr x4).setCell (a:=⟨r,5,I⟩) hr x5).setCell (a:=⟨r,6,I⟩) hr x6).setCell (a:=⟨r,7,I⟩) hr x7).setCell (a:=⟨r,8,I⟩) hr x8
theorem yfb {b:Nat} {S:Pg.Fs} {F:Nat->Prop} (t p:Int) (w:T) (h:zh w b S F):
 Calls Q 189 #[M (C ⟨b,0,I⟩),J B t,J B p] w fun e w'=>∃v1 v2,e=O (uv #[ych (zg S t p) v1 v2,J B (xQ S t p)])/\w'.ownsRow w.heap.size 3 1 v1 (zg S t p).length (xG (tabs (zg S t p)))/\w'.ownsRow w.heap.size 3 1 v2 (zg S t p).length (xG (qN (zg S t p)))/\(∀k,v1.ownBlock=C k->v2.ownBlock≠C k)/\Below w.heap.size w w':=by
 have HH:=xn p;cases hp:Pg.below p 4096
 ·have e1:zg S t p=[]:=by simp[zg,hp]
  have e2:xQ S t p=1:=by simp[xQ,hp]
  rw[e1,e2];rw[hp]at HH;clear h e1 e2
  go_enter Tryz.func189,Tryz.ntmps189
  go_wp2_with fail
  refine(HH _).mono ?_;rintro e w1 ⟨rfl,rfl⟩
  go_wp2_with fail
  refine bodyPost_ret (v:=uv #[ych [] (Y I 0 0) (Y I 0 0),J B 1]) ?_ rfl ⟨Y I 0 0,Y I 0 0,rfl,A _ _ _ _,A _ _ _ _,fun k hk=>by simp[U]at hk,?_⟩
  ·simp[results,Tryz.results189,go_sem,ych,yhw,yhu,Pg.En.zero]
  ·exact zA (zA (zR w) _) _
 ·have e2:xQ S t p=(Pg.thr S (Pg.onW p) 3 t 0).2:=by simp[xQ,hp]
  have e1:zg S t p=if (Pg.thr S (Pg.onW p) 3 t 0).2=0 then(Pg.thr S (Pg.onW p) 3 t 0).1 else []:=by simp[zg,hp]
  rw[e1,e2];rw[hp]at HH;obtain⟨W,hW⟩:∃W,W=((w.alloc (kO #[J B p] 3)).alloc (kO #[J B 0,N Z,N Z,J B 0,N Z,N Z,J B 0,Y I 0 0,Y I 0 0] 211)).alloc (kO #[J B 0,N Z,N Z,J B 0,N Z,N Z,J B 0,Y I 0 0,Y I 0 0] 211):=⟨_,rfl⟩
  have hB:Below w.heap.size w W:=by rw[hW];exact zA (zA (zA (zR w) _) _) _
  have hK:vA w w.heap.size (w.heap.size+2) p [] (fun k=>k=w.heap.size+2\/(ki I 0 0).ownBlock=C k\/(ki I 0 0).ownBlock=C k) W:=by
   refine⟨hB,by omega,by rw[hW];simp[go_sem],by omega,Y I 0 0,Y I 0 0,?_,A _ _ _ _,A _ _ _ _,fun k hk=>by simp[U]at hk,rfl⟩;rw[hW]
   refine⟨?_,?_,?_,?_,?_,?_,?_,?_,?_,fun o=> ?_⟩<;>simp[go_sem,yhw,yhu,Pg.En.zero]
  have HC:Hid _:=ybq (ydQ hp h) t _ W hK
  have iH:W.cell? ⟨w.heap.size+1,0,I⟩=C (J B 0)/\W.cell? ⟨w.heap.size+1,1,I⟩=C (N Z)/\W.cell? ⟨w.heap.size+1,2,I⟩=C (N Z)/\W.cell? ⟨w.heap.size+1,3,I⟩=C (J B 0)/\W.cell? ⟨w.heap.size+1,4,I⟩=C (N Z)/\W.cell? ⟨w.heap.size+1,5,I⟩=C (N Z)/\W.cell? ⟨w.heap.size+1,6,I⟩=C (J B 0)/\W.cell? ⟨w.heap.size+1,7,I⟩=C (Y I 0 0)/\W.cell? ⟨w.heap.size+1,8,I⟩=C (Y I 0 0):=by rw[hW];simp[go_sem]
  have oz:∀o,W.frozen? ⟨w.heap.size+1,o,I⟩=Z:=fun o=>by rw[hW];simp[go_sem]
  have Ik:Hid _:=iH;have Ij:Hid _:=oz
  have rU:W.heap.size=w.heap.size+3:=by rw[hW];simp
  clear h hK hB e1 e2 iH oz hp;generalize Pg.thr S (Pg.onW p) 3 t 0=th at*
  go_enter Tryz.func189,Tryz.ntmps189
  go_wp2_with fail
  refine(HH _).mono ?_;rintro e w1 ⟨rfl,rfl⟩
  go_wp2_with fail
  rw[<-hW];refine Calls.mono HC.out ?_;rintro e w1 ⟨rfl,V1,kG,Ha,lW⟩;have HB:Hid (Below w.heap.size w w1):=kG.bel
  have tK:w1.heap[w.heap.size+1]?=W.heap[w.heap.size+1]?:=Ha.block _ (by omega) fun e=>by
   rcases e with e|e|e
   ·omega
   ·simp[U]at e
   ·simp[U]at e
  have R1:Hid _:=ygv tK Ik.out;have F1:∀o,w1.frozen? ⟨w.heap.size+1,o,I⟩=Z:=fun o=>(H tK).trans (Ij.out o);have dE:w.heap.size+1<w1.heap.size:=E _ _ R1.out.1;obtain⟨r0,r1,r2,r3,r4,r5,r6,r7,r8⟩:=R1.out;clear Ha lW tK
  by_cases hc:th.2=0
  ·have gW:(th.2 !=0)=Z:=by simp[hc]
   obtain⟨v1,v2,hs,o1,o2,Ho,_⟩:=kG.var;obtain⟨a1,c1,rfl⟩:=zF o1;obtain⟨a2,c2,rfl⟩:=zF o2;have Ri:Hid (∀k,(ki a1 th.1.length c1).ownBlock=C k->(ki a2 th.1.length c2).ownBlock≠C k):=Ho;clear Ho;have O1:Hid (w1.ownsRow (w.heap.size+2+1) 3 1 (Y a1 th.1.length c1) th.1.length (xG (tabs th.1))):=o1;have O2:Hid (w1.ownsRow (w.heap.size+2+1) 3 1 (Y a2 th.1.length c2) th.1.length (xG (qN th.1))):=o2;have aD:Hid _:=hc;obtain⟨s0,s1,s2,s3,s4,s5,s6,s7,s8,_⟩:=hs;clear kG o1 o2 hc;have HV:Hid (ych th.1 (Y a1 th.1.length c1) (Y a2 th.1.length c2)=yB #[J B (yhw th.1),N (yhu th.1).t,N (yhu th.1).l,J B (yhu th.1).r,N (yhu th.1).u,N (yhu th.1).d,J B (yhu th.1).f,Y a1 th.1.length c1,Y a2 th.1.length c2]):=rfl
   go_wp2_with fail
   refine bodyPost_ret (v:=uv #[ych th.1 (Y a1 th.1.length c1) (Y a2 th.1.length c2),J B 0]) ?_ rfl ?_
   ·rw[HV.out]
    simp[results,Tryz.results189,go_sem,r0,r1,r2,r3,r4,r5,r6,r7,r8]
   ·have gD:=ydl (But.refl (fun k=>k=w.heap.size+1) w1) (w.heap.size+1) (.inr rfl) (J B (yhw th.1)) (N (yhu th.1).t) (N (yhu th.1).l) (J B (yhu th.1).r) (N (yhu th.1).u) (N (yhu th.1).d) (J B (yhu th.1).f) (Y a1 th.1.length c1) (Y a2 th.1.length c2)
    refine⟨Y a1 th.1.length c1,Y a2 th.1.length c2,rfl,?_,?_,Ri.out,?_⟩
    ·exact yeT (zc O1.out gD fun k hk e=>by have:=(z.lt O1.out k hk).1;omega) (by omega)
    ·exact yeT (zc O2.out gD fun k hk e=>by have:=(z.lt O2.out k hk).1;omega) (by omega)
    ·exact HB.out.trans (gD.below HB.out.size fun k hk=>by omega)
  ·have gW:(th.2 !=0)=D:=by simp[hc]
   have aD:Hid _:=hc;clear kG hc
   go_wp2_with fail
   refine bodyPost_ret (v:=uv #[ych [] (Y I 0 0) (Y I 0 0),J B th.2]) ?_ rfl ?_
   ·simp[results,Tryz.results189,go_sem,r0,r1,r2,r3,r4,r5,r6,r7,r8,ych,yhw,yhu,Pg.En.zero]
   ·have gD:=ydl (But.refl (fun k=>k=w.heap.size+1) w1) (w.heap.size+1) (.inr rfl) (J B 0) (N Z) (N Z) (J B 0) (N Z) (N Z) (J B 0) (Y I 0 0) (Y I 0 0)
    exact⟨Y I 0 0,Y I 0 0,rfl,A _ _ _ _,A _ _ _ _,fun k hk=>by simp[U]at hk,HB.out.trans (gD.below HB.out.size fun k hk=>by omega)⟩
end Go.Proofs.YtdphiompijbelaaGreat
namespace Go.Proofs.YtdphiompijbelaaGreat
open Go.RowKit
def lastT (X:List Pg.Sp):Int:=match X.getLast? with
 | some s=>s.table
 | none=>0
namespace Pg
def tFC (S:Fs) (t p:Int):Int:=if xQ S t p≠0 then xQ S t p else if (yhu (zg S t p)).t=D then 0 else 5
def tFM (S:Fs) (t p:Int):Mp:=if tFC S t p=0 then(yhu (zg S t p)).map (yhw (zg S t p)) p else .zz
def tFE (S:Fs) (t p:Int):En:=if tFC S t p=0 then yhu (zg S t p)else En.zero
def insC (S:Fs) (t:Int) (m:Mp):Int:=
 if m.code≠0 then m.code else if xQ S t m.p≠0 then xQ S t m.p
 else if (yhu (zg S t m.p)).t=D\/yhw (zg S t m.p)<m.s then 4 else if S.free<yhw (zg S t m.p)-m.s then 6 else 0
def insW (p s:Int):Nat->Fs->Int->Fs×Int
 | 0,S,t=>(S,t)
 | lv+1,S,t=>if ((lv+1:Nat):Int)<=s then(S,t)else insW p s lv (S.take.store t (index p ((lv+1:Nat):Int)) (enc D Z 7 Z Z S.takeN ((lv+1:Nat):Int))) S.takeN
def insS (S:Fs) (t:Int) (m:Mp):Fs:=if insC S t m=0 then
 (insW m.p m.s (yhw (zg S t m.p)).toNat S (lastT (zg S t m.p))).1.store (insW m.p m.s (yhw (zg S t m.p)).toNat S (lastT (zg S t m.p))).2 (index m.p m.s) (enc D D m.r Z Z m.f m.s)else S
def yhy (S:Fs) (t:Int):Bool:=(List.range 8).all fun i=>S.word t.toNat i==0
def rmW (p:Int) (ts:List Int):Nat->Fs->List Int->Fs×List Int
 | 0,S,G=>(S,G)
 | k+1,S,G=>if k=0\/yhy (S.store (ts.getD k 0) (index p (3-(k:Int))) 0) (ts.getD k 0)=Z then(S.store (ts.getD k 0) (index p (3-(k:Int))) 0,G)
   else rmW p ts k (S.store (ts.getD k 0) (index p (3-(k:Int))) 0) (G++[ts.getD k 0])
def rmR (S:Fs) (t p:Int):Fs×List Int:=if tFC S t p=0 then rmW p (tabs (zg S t p)) (zg S t p).length S []else(S,[])
def prC (S:Fs) (t p r:Int):Int:=if r<0\/7<r then 1 else tFC S t p
def prM (S:Fs) (t p r:Int):Mp:=if prC S t p r=0 then(tFM S t p).rts r else .zz
def prS (S:Fs) (t p r:Int):Fs:=if prC S t p r=0 then
 S.store (lastT (zg S t p)) (index p (yhw (zg S t p))) (enc (yhu (zg S t p)).t (yhu (zg S t p)).l r (yhu (zg S t p)).u (yhu (zg S t p)).d (yhu (zg S t p)).f (yhw (zg S t p)))else S
theorem yk6 (S:Fs) (p:Int):∀(lv:Nat) (t:Int) (a:Nat),(∀s,s ∈ (thr S (onW p) lv t a).1->S.has s.table=D)/\
 ((thr S (onW p) lv t a).2=0->∃s,(thr S (onW p) lv t a).1.getLast?=C s/\s.level+(thr S (onW p) lv t a).1.length=lv+1/\s.e=rEn S s.table (ix p s.level) s.level/\yhx S s.table (ix p s.level) s.level=0/\s.e.on=Z):=by
 intro lv
 induction lv with
 | zero=>
   intro t a;rw[yhS];split
   ·rename_i h1
    exact⟨fun s hs=>by simp at hs,fun h=>absurd h h1⟩
   ·rename_i h1
    have h1:yhx S t (ix p 0) 0=0:=by simpa using h1
    split
    ·rename_i h2
     refine⟨fun s hs=> ?_,fun _=>⟨spt S t (ix p 0) 0 a,rfl,rfl,rfl,h1,h2⟩⟩;simp at hs;subst hs;exact yhz h1
    ·rename_i h2
     obtain⟨m,hm⟩:=yhR (S:=S) (t:=t) (i:=ix p 0) (lv:=0) (by simpa using h2);omega
 | succ lv ih=>
   intro t a;rw[yhS];split
   ·rename_i h1
    exact⟨fun s hs=>by simp at hs,fun h=>absurd h h1⟩
   ·rename_i h1
    have h1:yhx S t (ix p (lv+1)) (lv+1)=0:=by simpa using h1
    split
    ·rename_i h2
     refine⟨fun s hs=> ?_,fun _=>⟨spt S t (ix p (lv+1)) (lv+1) a,rfl,rfl,rfl,h1,h2⟩⟩;simp at hs;subst hs;exact yhz h1
    ·rename_i h2
     obtain⟨i1,i2⟩:=ih (rEn S t (ix p (lv+1)) (lv+1)).f ((a+ix p (lv+1))*8);refine⟨fun s hs=> ?_,fun hz=> ?_⟩
     ·simp at hs
      rcases hs with rfl|hs
      ·exact yhz h1
      ·exact i1 s hs
     ·obtain⟨s,j1,j2,j3⟩:=i2 hz
      refine⟨s,?_,?_,j3⟩
      ·simp only[sub]
       rw[List.getLast?_cons,j1];rfl
      ·simp only[sub,List.length_cons]
       omega
structure Way (S:Fs) (t p:Int) (X:List Sp) (lv:Nat) (e:En) (tl:Int):Prop where
 below:below p 4096=D
 has:∀x,x ∈ tabs X->S.has x=D
 len:lv+X.length=4
 yhw:yhw X=(lv:Int)
 yhu:yhu X=e
 lastT:lastT X=tl
 hasT:S.has tl=D
 en:e=rEn S tl (ix p lv) lv
 code:yhx S tl (ix p lv) lv=0
 on:e.on=Z
theorem ykp {S:Fs} {t p:Int} (h:xQ S t p=0):∃lv e tl,Way S t p (zg S t p) lv e tl:=by
 have hp:Pg.below p 4096=D:=by
  cases hp:Pg.below p 4096
  ·simp[xQ,hp]at h
  ·rfl
 have hz:(thr S (onW p) 3 t 0).2=0:=by simpa[xQ,hp]using h
 have eX:zg S t p=(thr S (onW p) 3 t 0).1:=by simp[zg,hp,hz]
 obtain⟨h1,h2⟩:=yk6 S p 3 t 0;obtain⟨s,j1,j2,j3,j4,j5⟩:=h2 hz;have hs:s ∈ (thr S (onW p) 3 t 0).1:=yJ j1;refine⟨s.level,s.e,s.table,hp,fun x hx=> ?_,?_,?_,?_,?_,h1 s hs,?_,?_,j5⟩
 ·rw[eX]at hx
  simp only[tabs,List.mem_map]at hx;obtain⟨s',ai,rfl⟩:=hx;exact h1 s' ai
 ·rw[eX];exact j2
 ·rw[eX];unfold Go.Proofs.YtdphiompijbelaaGreat.yhw;rw[j1]
 ·rw[eX];unfold Go.Proofs.YtdphiompijbelaaGreat.yhu;rw[j1]
 ·rw[eX];unfold Go.Proofs.YtdphiompijbelaaGreat.lastT;rw[j1]
 ·exact j3
 ·exact j4
theorem yif (S:Fs) (t i v:Int):(S.store t i v).n=S.n/\(S.store t i v).used=S.used/\(S.store t i v).back=S.back/\(S.store t i v).next=S.next:=by
 unfold Fs.store
 split<;>exact⟨rfl,rfl,rfl,rfl⟩
theorem yh9 (S:Fs) (t i v x:Int):(S.store t i v).has x=S.has x:=by
 unfold Fs.has Fs.inn;rw[(yif S t i v).2.1]
theorem yjh (S:Fs) (t i v:Int):(S.store t i v).free=S.free:=by
 obtain⟨h1,_,h3,h4⟩:=yif S t i v;unfold Fs.free;rw[h1,h3,h4]
theorem ykm {S:Fs} (h:S.Ok) (hf:0<S.free):∃k:Nat,S.pick=C k/\S.takeN=(k:Int)/\k<S.n/\S.take.has (k:Int)=D/\(∀x,S.has x=D->S.take.has x=D)/\S.take.free=S.free-1/\S.take.n=S.n:=by
 unfold Fs.free at hf;have ht:=h.top;unfold Fs.takeN Fs.pick Fs.take Fs.has Fs.inn Fs.free
 cases hb:S.back.getLast? with
 | some k=>
   have hl:S.back=S.back.dropLast++[k]:=by
    obtain⟨l,hl⟩:=List.getLast?_eq_some_iff.1 hb;simp[hl]
   have Hg:S.back.length=S.back.dropLast.length+1:=by
    have:=congrArg List.length hl
    simpa using this
   have hk:k<S.n:=by
    have:=h.ykC (yJ hb);omega
   refine⟨k,rfl,rfl,hk,by simp,fun x hx=> ?_,?_,rfl⟩
   ·simp at hx ⊢
    exact⟨hx.1,.inr hx.2⟩
   ·simp only
    omega
 | none=>
   have NA:S.back=[]:=by simpa using hb
   rw[NA]at hf;simp at hf
   have Hf:S.next<S.n:=by omega
   simp only[Hf,if_true];refine⟨S.next,rfl,rfl,Hf,by simp,fun x hx=> ?_,?_,trivial⟩
   ·simp at hx ⊢
    exact⟨hx.1,.inr hx.2⟩
   ·omega
theorem ykH (t l:Bool) (r:Int) (u d:Bool) (f lv:Int):0<=enc t l r u d f lv/\enc t l r u d f lv<18446744073709551616:=by
 unfold enc;split
 ·rename_i h
  obtain⟨_,hc⟩:=yhG h;unfold yiD b01;rcases hc with ⟨rfl,_⟩|⟨rfl,r0,r1,f0,f1,_⟩
  ·simp
  ·simp only[if_true]
   split<;>split<;>split<;>omega
 ·omega
end Pg
end Go.Proofs.YtdphiompijbelaaGreat
namespace Go.Proofs.YtdphiompijbelaaGreat
open Go.RowKit Go.Sort
structure xi (w:T) (b o:Nat) (root:Int) (K:Pg.Wk):Prop where
 c0:w.cell? ⟨b,o,I⟩=C (J B root)
 c1:w.cell? ⟨b,o+1,I⟩=C (N K.on)
 c2:w.cell? ⟨b,o+2,I⟩=C (J B K.q)
 c3:w.cell? ⟨b,o+3,I⟩=C (J B K.k)
 c4:w.cell? ⟨b,o+4,I⟩=C (N K.u)
 c5:w.cell? ⟨b,o+5,I⟩=C (J B K.t)
 c6:w.cell? ⟨b,o+6,I⟩=C (J B (K.lv:Int))
 c7:w.cell? ⟨b,o+7,I⟩=C (J kp K.x)
 fb:∀p,w.frozen? ⟨b,p,I⟩=Z
theorem xi.lb {w:T} {b o:Nat} {root:Int} {K:Pg.Wk} (h:xi w b o root K):b<w.heap.size:=E _ _ h.c0
theorem xi.of_block {w w':T} {b o:Nat} {root:Int} {K:Pg.Wk} (h:xi w b o root K) (hk:w'.heap[b]?=w.heap[b]?):xi w' b o root K:=
 ⟨(P hk).trans h.c0,(P hk).trans h.c1,(P hk).trans h.c2,(P hk).trans h.c3,(P hk).trans h.c4,(P hk).trans h.c5,(P hk).trans h.c6,(P hk).trans h.c7,fun p=>(H hk).trans (h.fb p)⟩
theorem xi.keep {w w':T} {b o:Nat} {root:Int} {K:Pg.Wk} {F:Nat->Prop} (h:xi w b o root K) (hb:But F w w') (hF:¬F b):xi w' b o root K:=h.of_block (hb.block b h.lb hF)
theorem xi.grow {w w':T} {b o:Nat} {root:Int} {K:Pg.Wk} (h:xi w b o root K) (hb:Below w.heap.size w w'):xi w' b o root K:=h.of_block (hb.block b h.lb)
structure Ch8 (b o:Nat) (F:Nat->Prop) (w w':T):Prop where
 but:But F w w'
 oth:∀p,p<o\/o+8<=p->w'.cell? ⟨b,p,I⟩=w.cell? ⟨b,p,I⟩
namespace Ch8
variable {b o:Nat} {F G:Nat->Prop} {w w1 w2:T}
theorem refl (b o:Nat) (F:Nat->Prop) (w:T):Ch8 b o F w w:=⟨But.refl _ _,fun _ _=>rfl⟩
theorem yhp (h:Below w.heap.size w w1) (hb:b<w.heap.size):Ch8 b o F w w1:=⟨But.yhp h,fun p _=>h.cell (p:=⟨b,p,I⟩) hb⟩
theorem trans (h:Ch8 b o F w w1) (k:Ch8 b o G w1 w2) (hG:∀i,i<w.heap.size->G i->F i):Ch8 b o F w w2:=
 ⟨h.but.trans k.but hG,fun p hp=>(k.oth p hp).trans (h.oth p hp)⟩
theorem mono (h:Ch8 b o F w w1) (hG:∀i,i<w.heap.size->F i->G i):Ch8 b o G w w1:=⟨h.but.mono hG,h.oth⟩
theorem ylE (h:But F w w1) (hb:b<w.heap.size) (hF:¬F b):Ch8 b o F w w1:=⟨h,fun p _=>h.cell (a:=⟨b,p,I⟩) hb hF⟩
theorem set (h:Ch8 b o F w w1) (hF:F b) (j:Nat) (hj:j<8) (v:Value):Ch8 b o F w (w1.setCell ⟨b,o+j,I⟩ v):=
 ⟨h.but.setCell (.inr hF) v,fun p hp=>(R _ _ _ _ (fun e=>by injection e with _ e;omega)).trans (h.oth p hp)⟩
theorem set0 (h:Ch8 b o F w w1) (hF:F b) (v:Value):Ch8 b o F w (w1.setCell ⟨b,o,I⟩ v):=h.set hF 0 (by decide) v
theorem drew (h:Ch8 b o F w w1):Ch8 b o F w w1.drew:=⟨h.but.drew,h.oth⟩
end Ch8
structure vv (w:T) (b:Nat) (K:Pg.Wk) (t lv x:Int):Prop where
 c1:w.cell? ⟨b,1,I⟩=C (N K.on)
 c2:w.cell? ⟨b,2,I⟩=C (J B K.q)
 c3:w.cell? ⟨b,3,I⟩=C (J B K.k)
 c4:w.cell? ⟨b,4,I⟩=C (N K.u)
 c5:w.cell? ⟨b,5,I⟩=C (J B t)
 c6:w.cell? ⟨b,6,I⟩=C (J B lv)
 c7:w.cell? ⟨b,7,I⟩=C (N (decide (K.x≠0)))
 c8:w.cell? ⟨b,8,I⟩=C (J kp x)
 fb:∀p,w.frozen? ⟨b,p,I⟩=Z
 at':K.on=D->t=K.t/\lv=(K.lv:Int)
 wd:K.x≠0->x=K.x
theorem vv.lb {w:T} {b:Nat} {K:Pg.Wk} {t lv x:Int} (h:vv w b K t lv x):b<w.heap.size:=E _ _ h.c1
theorem vv.of_block {w w':T} {b:Nat} {K:Pg.Wk} {t lv x:Int} (h:vv w b K t lv x) (hk:w'.heap[b]?=w.heap[b]?):vv w' b K t lv x:=
 ⟨(P hk).trans h.c1,(P hk).trans h.c2,(P hk).trans h.c3,(P hk).trans h.c4,(P hk).trans h.c5,(P hk).trans h.c6,(P hk).trans h.c7,(P hk).trans h.c8,fun p=>(H hk).trans (h.fb p),h.at',h.wd⟩
theorem vv.keep {w w':T} {b:Nat} {K:Pg.Wk} {t lv x:Int} {F:Nat->Prop} (h:vv w b K t lv x) (hb:But F w w') (hF:¬F b):vv w' b K t lv x:=h.of_block (hb.block b h.lb hF)
theorem vv.grow {w w':T} {b:Nat} {K:Pg.Wk} {t lv x:Int} (h:vv w b K t lv x) (hb:Below w.heap.size w w'):vv w' b K t lv x:=h.of_block (hb.block b h.lb)
def qP (w:T) (b:Nat) (K:Pg.Wk):Prop:=∃t lv x,vv w b K t lv x
set_option maxRecDepth 100000
attribute [local go_sem] Loose.gent
theorem qb {F:Nat->Prop} {w w1:T} (h:But F w w1) (r:Nat) (hr:w.heap.size<=r\/F r) (x0 x1 x2 x3 x4 x5 x6 x7 x8:Value):
 But F w (((((((((w1.setCell ⟨r,0,I⟩ x0).setCell ⟨r,1,I⟩ x1).setCell ⟨r,2,I⟩ x2).setCell ⟨r,3,I⟩ x3).setCell ⟨r,4,I⟩ x4).setCell ⟨r,5,I⟩ x5).setCell ⟨r,6,I⟩ x6).setCell ⟨r,7,I⟩ x7).setCell ⟨r,8,I⟩ x8):=
 ((((((((h.setCell (a:=⟨r,0,I⟩) hr x0).setCell (a:=⟨r,1,I⟩) hr x1).setCell (a:=⟨r,2,I⟩) hr x2).setCell (a:=⟨r,3,I⟩) hr x3).setCell (a:=⟨r,4,I⟩) hr x4).setCell (a:=⟨r,5,I⟩) hr x5).setCell (a:=⟨r,6,I⟩) hr x6).setCell (a:=⟨r,7,I⟩) hr x7).setCell (a:=⟨r,8,I⟩) hr x8
theorem yce {w:T} {r:Nat} {v0 v1 v2 v3 v4 v5 v6 v7 v8:Value} {t:TypeId} (h:w.heap[r]?=C (kO #[v0,v1,v2,v3,v4,v5,v6,v7,v8] t (0,0))):
 (w.cell? ⟨r,0,I⟩=C v0/\w.cell? ⟨r,1,I⟩=C v1/\w.cell? ⟨r,2,I⟩=C v2/\w.cell? ⟨r,3,I⟩=C v3/\w.cell? ⟨r,4,I⟩=C v4/\w.cell? ⟨r,5,I⟩=C v5/\w.cell? ⟨r,6,I⟩=C v6/\w.cell? ⟨r,7,I⟩=C v7/\w.cell? ⟨r,8,I⟩=C v8)/\∀i,w.frozen? ⟨r,i,I⟩=Z:=
 ⟨by simp[yC,h],fun i=>by simp[yS,h]⟩
theorem yfB (root:Int) (w:T):
 Calls Q 87 #[J B root] w fun e w'=>∃b,e=O (M (C ⟨b,0,I⟩))/\xi w' b 0 root Pg.Wk.off/\Below w.heap.size w w'/\w.heap.size<=b:=by
 go_enter Tryz.func87,Tryz.ntmps87
 go_wp2_with fail
 go_ret
 refine⟨_,rfl,⟨?_,?_,?_,?_,?_,?_,?_,?_,fun p=> ?_⟩,zA (zR _) _,ks _⟩<;>simp[go_sem,Pg.Wk.off]
section
variable {b o:Nat} {root:Int} {K:Pg.Wk}
theorem ygd (w:T) (h:xi w b o root K):
 Calls Q 112 #[M (C ⟨b,o,I⟩)] w fun e w'=>e=O (N K.on)/\w'=w:=by
 have c1:=h.c1;clear h
 go_enter Tryz.func112,Tryz.ntmps112
 go_wp2_with fail
 go_ret
 exact⟨rfl,rfl⟩
theorem ycQ (w:T) (h:xi w b o root K):
 Calls Q 62 #[M (C ⟨b,o,I⟩)] w fun e w'=>e=O (yB #[J B K.q,J B K.k,N K.u])/\Below w.heap.size w w':=by
 have c2:=h.c2;have c3:=h.c3;have c4:=h.c4;have hl:=h.lb;clear h
 go_enter Tryz.func62,Tryz.ntmps62
 go_wp2_with fail
 refine bodyPost_ret (v:=yB #[J B K.q,J B K.k,N K.u]) ?_ rfl ⟨rfl,?_⟩
 ·simp[results,Tryz.results62,go_sem]
 ·exact zA (zR w) _
theorem xi.again {W:T} (h:xi W b o root K) (ho:K.on=D):
 xi (((W.setCell ⟨b,o+5,I⟩ (J B root)).setCell ⟨b,o+6,I⟩ (J B 3)).setCell ⟨b,o+7,I⟩ (J kp 0)) b o root (K.again root)/\Ch8 b o (fun j=>j=b) W (((W.setCell ⟨b,o+5,I⟩ (J B root)).setCell ⟨b,o+6,I⟩ (J B 3)).setCell ⟨b,o+7,I⟩ (J kp 0)):=by
 have e:K.again root={K with t:=root,lv:=3,x:=0}:=by simp[Pg.Wk.again,ho]
 obtain⟨c0,c1,c2,c3,c4,c5,c6,c7,fb⟩:=h;rw[e]
 refine⟨⟨?_,?_,?_,?_,?_,?_,?_,?_,fun p=> ?_⟩,(((Ch8.refl b o (fun j=>j=b) W).set rfl 5 (by decide) _).set rfl 6 (by decide) _).set rfl 7 (by decide) _⟩<;>simp[go_sem,c0,c1,c2,c3,c4,c5,c6,c7,fb]
theorem jY (w:T) (h:xi w b o root K):
 Calls Q 180 #[M (C ⟨b,o,I⟩)] w fun e w'=>e=O (uv #[])/\xi w' b o root (K.again root)/\Ch8 b o (fun j=>j=b) w w':=by
 cases ho:K.on
 ·have e:K.again root=K:=by simp[Pg.Wk.again,ho]
  rw[e];have c1:=h.c1;rw[ho]at c1;have HF:Hid (xi w b o root K/\Ch8 b o (fun j=>j=b) w w):=⟨h,Ch8.refl _ _ _ _⟩;clear h ho e
  go_enter Tryz.func180,Tryz.ntmps180
  go_wp2_with fail
  go_end0
  exact⟨rfl,HF.out⟩
 ·have HF:Hid _:=h.again ho
  have c0:=h.c0;have c1:=h.c1;have c5:=h.c5;have c6:=h.c6;have c7:=h.c7;have fb:=h.fb;rw[ho]at c1;clear h ho
  go_enter Tryz.func180,Tryz.ntmps180
  go_wp2_with fail
  go_end0
  exact⟨rfl,HF.out⟩
theorem jZ (w:T) (h:xi w b o root K):
 Calls Q 207 #[M (C ⟨b,o,I⟩)] w fun e w'=>e=O (J B (Pg.index K.q K.lv))/\Below w.heap.size w w':=by
 have c2:=cell_regrown h.c2;have c6:=cell_regrown h.c6;have HI:=fun w=>xz (vK K.q K.lv w);clear h
 go_enter Tryz.func207,Tryz.ntmps207
 go_wp2_with fail
 refine wp_region_quiet_below (by kernel_rfl) (by kernel_rfl) ?_
 repeat (first
  | go_big_quiet_step ((go_at_call 196;exact Calls.regrown_of (HI _))))
 refine wpQuiet_nil ?_;intro _ pG;obtain⟨⟨dq,osq⟩,rfl⟩:=pG
 go_wp2_with fail
 go_ret
 exact⟨rfl,below_regrown w dq osq⟩
theorem vP (e:Pg.En) (w:T) (h:xi w b o root K):
 Calls Q 205 #[M (C ⟨b,o,I⟩),e.val] w fun x w'=>x=O (K.mark e).val/\Below w.heap.size w w':=by
 have c3:=h.c3;have hl:=h.lb
 have Ho:b≠w.heap.size:=by omega
 clear h;obtain⟨t,l,r,u,d,f⟩:=e;cases d
 ·cases hk:(K.k==1)
  all_goals
   have HV:Hid _:=hk;simp only[Pg.En.val,Pg.Wk.mark,hk,Bool.or_false,Bool.or_true]
   go_enter Tryz.func205,Tryz.ntmps205
   go_wp2_with fail
   refine bodyPost_ret (v:=yB #[N t,N l,J B r,N D,N _,J B f]) ?_ rfl ⟨rfl,?_⟩
   ·simp[results,Tryz.results205,go_sem]
   ·exact zA (zA (zR w) _) _
 ·simp only[Pg.En.val,Pg.Wk.mark,Bool.true_or]
  go_enter Tryz.func205,Tryz.ntmps205
  go_wp2_with fail
  refine bodyPost_ret (v:=yB #[N t,N l,J B r,N D,N D,J B f]) ?_ rfl ⟨rfl,?_⟩
  ·simp[results,Tryz.results205,go_sem]
  ·exact zA (zA (zR w) _) _
theorem xi.ended {W:T} (h:xi W b o root K):
 xi ((((((((W.setCell ⟨b,o,I⟩ (J B root)).setCell ⟨b,o+1,I⟩ (N Z)).setCell ⟨b,o+2,I⟩ (J B 0)).setCell ⟨b,o+3,I⟩ (J B 0)).setCell ⟨b,o+4,I⟩ (N Z)).setCell ⟨b,o+5,I⟩ (J B 0)).setCell ⟨b,o+6,I⟩ (J B 0)).setCell ⟨b,o+7,I⟩ (J kp 0)) b o root Pg.Wk.off/\
 Ch8 b o (fun j=>j=b) W ((((((((W.setCell ⟨b,o,I⟩ (J B root)).setCell ⟨b,o+1,I⟩ (N Z)).setCell ⟨b,o+2,I⟩ (J B 0)).setCell ⟨b,o+3,I⟩ (J B 0)).setCell ⟨b,o+4,I⟩ (N Z)).setCell ⟨b,o+5,I⟩ (J B 0)).setCell ⟨b,o+6,I⟩ (J B 0)).setCell ⟨b,o+7,I⟩ (J kp 0)):=by
 obtain⟨c0,c1,c2,c3,c4,c5,c6,c7,fb⟩:=h
 refine⟨⟨?_,?_,?_,?_,?_,?_,?_,?_,fun p=> ?_⟩,((((((((Ch8.refl b o (fun j=>j=b) W).set0 rfl _).set rfl 1 (by decide) _).set rfl 2 (by decide) _).set rfl 3 (by decide) _).set rfl 4 (by decide) _).set rfl 5 (by decide) _).set rfl 6 (by decide) _).set rfl 7 (by decide) _⟩<;>simp[go_sem,c0,c1,c2,c3,c4,c5,c6,c7,fb,Pg.Wk.off]
theorem ygH {F:Nat->Prop} {w W W':T} (h:xi W b o root K/\Ch8 b o F w W) (hb:Below W.heap.size W W'):xi W' b o root K/\Ch8 b o F w W':=
 ⟨h.1.grow hb,h.2.trans (Ch8.yhp (F:=F) hb h.1.lb) fun _ _ hi=>hi⟩
theorem yfk {w W:T} {r:Nat} (hr:¬r=b) (hw:w.heap.size<=r) (h:xi W b o root K/\Ch8 b o (fun j=>j=b) w W) (v0 v1 v2 v3 v4 v5 v6 v7 v8:Value):
 xi (((((((((W.setCell ⟨r,0,I⟩ v0).setCell ⟨r,1,I⟩ v1).setCell ⟨r,2,I⟩ v2).setCell ⟨r,3,I⟩ v3).setCell ⟨r,4,I⟩ v4).setCell ⟨r,5,I⟩ v5).setCell ⟨r,6,I⟩ v6).setCell ⟨r,7,I⟩ v7).setCell ⟨r,8,I⟩ v8) b o root K/\
 Ch8 b o (fun j=>j=b) w (((((((((W.setCell ⟨r,0,I⟩ v0).setCell ⟨r,1,I⟩ v1).setCell ⟨r,2,I⟩ v2).setCell ⟨r,3,I⟩ v3).setCell ⟨r,4,I⟩ v4).setCell ⟨r,5,I⟩ v5).setCell ⟨r,6,I⟩ v6).setCell ⟨r,7,I⟩ v7).setCell ⟨r,8,I⟩ v8):=by
 have hb:=qb (F:=fun j=>j=r) (But.refl _ W) r (.inr rfl) v0 v1 v2 v3 v4 v5 v6 v7 v8;have Ho:¬b=r:=fun e=>hr e.symm;refine⟨h.1.keep hb Ho,?_,fun p hp=> ?_⟩
 ·exact qb h.2.but r (.inl hw) v0 v1 v2 v3 v4 v5 v6 v7 v8
 ·exact(hb.cell (a:=⟨b,p,I⟩) h.1.lb Ho).trans (h.2.oth p hp)
theorem ybs (a f r:Int) (m:Pg.Mp) (d:Bool) (w:T) (h:xi w b o root K):
 Calls Q 209 #[M (C ⟨b,o,I⟩),yB #[J B a,J B f,J B r],yB #[J B m.p,J B m.s,J B m.f,J B m.r,N d]] w fun e w'=>e=O (Pg.Rs.val ⟨D,a,f,r,m,d⟩)/\xi w' b o root Pg.Wk.off/\Ch8 b o (fun j=>j=b) w w':=by
 have c0:=h.c0;have c1:=h.c1;have c2:=h.c2;have c3:=h.c3;have c4:=h.c4;have c5:=h.c5;have c6:=h.c6;have c7:=h.c7;have fb:=h.fb;have hl:=h.lb
 have dE:b<w.heap.size+1:=by omega
 have sJ:b<w.heap.size+1+1:=by omega
 have n0:b≠w.heap.size:=by omega
 have n1:b≠w.heap.size+1:=by omega
 have n2:b≠w.heap.size+1+1:=by omega
 have m0:w.heap.size≠b:=by omega
 have m1:w.heap.size+1≠b:=by omega
 have m2:w.heap.size+1+1≠b:=by omega
 have HK:Hid _:=h;clear h;obtain⟨mp,ms,mf,mr⟩:=m;have HF:=HK.out.ended
 go_enter Tryz.func209,Tryz.ntmps209
 go_wp2_with fail
 refine bodyPost_ret (v:=yB #[N D,J B a,J B f,J B r,J B mp,J B ms,J B mf,J B mr,N d]) ?_ rfl ⟨rfl,ygH HF (zA (zA (zA (zR _) _) _) _)⟩;simp[results,Tryz.results209,go_sem]
theorem yb3 (e:Pg.En) (w:T) (h:xi w b o root K) (m:Bool):
 Calls Q 208 #[M (C ⟨b,o,I⟩),e.val] w fun x w'=>x=O ((Pg.Wo.done e m).res K).val/\xi w' b o root Pg.Wk.off/\Ch8 b o (fun j=>j=b) w w':=by
 obtain⟨W,hW⟩:∃W,W=(w.alloc (kO #[N e.t,N e.l,J B e.r,N e.u,N e.d,J B e.f] 70)).alloc (kO #[N Z,J B 0,J B 0,J B 0,J B 0,J B 0,J B 0,J B 0,N Z] 232):=⟨_,rfl⟩
 have rH:Below w.heap.size w W:=by rw[hW];exact zA (zA (zR w) _) _
 have tT:Hid _:=rH;have hl:=h.lb
 have rU:W.heap.size=w.heap.size+1+1:=by rw[hW];simp
 have sI:Hid _:=h.grow rH
 have e6:W.cell? ⟨w.heap.size,0,I⟩=C (N e.t)/\W.cell? ⟨w.heap.size,1,I⟩=C (N e.l)/\W.cell? ⟨w.heap.size,2,I⟩=C (J B e.r)/\W.cell? ⟨w.heap.size,3,I⟩=C (N e.u)/\W.cell? ⟨w.heap.size,4,I⟩=C (N e.d)/\W.cell? ⟨w.heap.size,5,I⟩=C (J B e.f):=by rw[hW];simp[go_sem]
 have E6:Hid _:=e6
 have r9:W.heap[w.heap.size+1]?=C (kO #[N Z,J B 0,J B 0,J B 0,J B 0,J B 0,J B 0,J B 0,N Z] 232 (0,0)):=by rw[hW];exact(by simp:(w.alloc (kO #[N e.t,N e.l,J B e.r,N e.u,N e.d,J B e.f] 70)).heap.size=w.heap.size+1)▸heap_alloc_new _ _
 have R9:Hid _:=r9;have HM:=fun w=>ybn e.t e.l e.r e.u e.d e.f K.lv K.q w;have HV:Hid (Pg.mapV e.t e.l e.r e.u e.d e.f K.lv K.q=(e.map K.lv K.q).val):=rfl;rw[HV.out]at HM;have HR:Hid ((Pg.Wo.done e m).res K=⟨D,Pg.aEnd (e.map K.lv K.q).r K.k K.u,Pg.yhY (e.map K.lv K.q).p (e.map K.lv K.q).f (e.map K.lv K.q).r K.q K.k K.u,Pg.yhL (e.map K.lv K.q).r K.k K.u,e.map K.lv K.q,e.d⟩):=rfl;rw[HR.out];generalize e.map K.lv K.q=mm at*;obtain⟨mp,ms,mf,mr⟩:=mm;have HA:=fun W'=>jS mp ms mf mr K.q K.k K.u W';simp only;generalize Pg.aEnd mr K.k K.u=aa at*;generalize Pg.yhY mp mf mr K.q K.k K.u=af at*;generalize Pg.yhL mr K.k K.u=ar at*;have k2:=fun d os=>cell_regrown sI.out.c2 d os;have k6:=fun d os=>cell_regrown sI.out.c6 d os;have y:=fun d os=>xE (below_regrown W d os) e6;clear h rH e6 r9 HV HR;obtain⟨et,el,er,eu,ed,ef⟩:=e;simp only at hW y HM;simp only[Pg.En.val,Pg.Mp.val]at HM ⊢
 go_enter Tryz.func208,Tryz.ntmps208
 go_wp2_with fail
 rw[<-hW];clear hW;refine Loose.yip 11 5 (kO #[J B 0,J B 0,J B 0,J B 0] 39) _ (by kernel_rfl) (by kernel_rfl) rfl rfl rfl (by intro a w;simp[go_sem]) ?_;simp only[kh,ue,un,yI]
 repeat (
  refine Loose.zS (fun k hk=> ?_)
  go_simp
  first
   | (refine hk _ ?_;clear hk k)
   | (apply Exists.intro
      refine⟨fun _=> ?_,hk _ ?_⟩
      (go_at_call 152;exact Loose.calls (HM _))
      clear hk k))
 refine Loose.yhs ?_;intro bm w1 Ha rR hX
 have cb:w1.cell? ⟨bm,0,I⟩=C (J B 0)/\w1.cell? ⟨bm,1,I⟩=C (J B 0)/\w1.cell? ⟨bm,2,I⟩=C (J B 0)/\w1.cell? ⟨bm,3,I⟩=C (J B 0):=by
  simp[yC,hX]
 obtain⟨bW,bX,gQ,lI⟩:=cb
 have fb:∀i,w1.frozen? ⟨bm,i,I⟩=Z:=fun i=>by simp[yS,hX]
 obtain⟨W2,Hz⟩:∃W2,W2=(((w1.setCell ⟨bm,0,I⟩ (J B mp)).setCell ⟨bm,1,I⟩ (J B ms)).setCell ⟨bm,2,I⟩ (J B mf)).setCell ⟨bm,3,I⟩ (J B mr):=⟨_,rfl⟩
 have tH:Below W.heap.size W W2:=by rw[Hz];exact zp Ha _ rR _ _ _ _
 have m4:W2.cell? ⟨bm,0,I⟩=C (J B mp)/\W2.cell? ⟨bm,1,I⟩=C (J B ms)/\W2.cell? ⟨bm,2,I⟩=C (J B mf)/\W2.cell? ⟨bm,3,I⟩=C (J B mr):=by
  rw[Hz];simp[go_sem,bW,bX,gQ,lI]
 obtain⟨m0,m1,m2,m3⟩:=m4;have oK:Hid _:=sI.out.grow tH;have lD:Hid (Ch8 b o (fun j=>j=b) w W2):=Ch8.yhp (zT tT.out tH) hl;have d4:=cell_later tH E6.out.2.2.2.2.1;have c2:=oK.out.c2;have c3:=oK.out.c3;have c4:=oK.out.c4;have R2:Hid (W2.heap[w.heap.size+1]?=_):=(tH.block _ (by omega)).trans R9.out;have sJ:b<W2.heap.size:=oK.out.lb
 have tF:w.heap.size+1<W2.heap.size:=by have:=tH.size;omega
 have tQ:¬w.heap.size+1=b:=by omega
 clear hX rR Ha tH k2 k6 y HM R9 E6
 go_wp2_with fail
 rw[<-Hz];clear Hz bW bX gQ lI fb;have HE:=fun W' (hb:Below W2.heap.size W2 W')=>ybs aa af ar ⟨mp,ms,mf,mr⟩ ed W' (oK.out.grow hb);simp only[Pg.Rs.val]at HE;have g0:=cell_regrown m0;have g1:=cell_regrown m1;have g2:=cell_regrown m2;have g3:=cell_regrown m3;have g4:=cell_regrown d4;have g5:=cell_regrown c2;have g6:=cell_regrown c3;have g7:=cell_regrown c4;clear m0 m1 m2 m3 d4 c2 c3 c4;refine Loose.yhr 11 (by kernel_rfl) (by kernel_rfl) ?_;simp only[kh,ue,un,yI]
 repeat (
  refine Loose.zS (fun k hk=> ?_)
  go_simp
  first
   | (refine hk _ ?_;clear hk k)
   | (apply Exists.intro
      refine⟨fun _=> ?_,hk _ ?_⟩
      (go_at_call 143;exact Loose.calls (HA _))
      clear hk k))
 refine Loose.yhs ?_;intro w3 He;have rE:Hid (Below W2.heap.size W2 w3):=He;clear He g0 g1 g2 g3 g4 g5 g6 g7 HA
 go_wp2_with fail
 refine(HE _ rE.out).mono ?_;rintro en w4 ⟨rfl,mG,dD⟩;have Rf:Hid _:=mG;have Rc:Hid (Ch8 b o (fun j=>j=b) W2 w4):=(Ch8.yhp rE.out sJ).trans dD (fun _ _ h=>h);obtain⟨⟨x0,x1,x2,x3,x4,x5,x6,x7,x8⟩,xf⟩:=yce ((Rc.out.but.block _ tF tQ).trans R2.out);clear mG dD;have gq:w.heap.size+1<w4.heap.size:=Nat.lt_of_lt_of_le tF Rc.out.but.size
 have HF:Hid (∀v0 v1 v2 v3 v4 v5 v6 v7 v8,xi (((((((((w4.setCell ⟨w.heap.size+1,0,I⟩ v0).setCell ⟨w.heap.size+1,1,I⟩ v1).setCell ⟨w.heap.size+1,2,I⟩ v2).setCell ⟨w.heap.size+1,3,I⟩ v3).setCell ⟨w.heap.size+1,4,I⟩ v4).setCell ⟨w.heap.size+1,5,I⟩ v5).setCell ⟨w.heap.size+1,6,I⟩ v6).setCell ⟨w.heap.size+1,7,I⟩ v7).setCell ⟨w.heap.size+1,8,I⟩ v8) b o root Pg.Wk.off/\Ch8 b o (fun j=>j=b) w (((((((((w4.setCell ⟨w.heap.size+1,0,I⟩ v0).setCell ⟨w.heap.size+1,1,I⟩ v1).setCell ⟨w.heap.size+1,2,I⟩ v2).setCell ⟨w.heap.size+1,3,I⟩ v3).setCell ⟨w.heap.size+1,4,I⟩ v4).setCell ⟨w.heap.size+1,5,I⟩ v5).setCell ⟨w.heap.size+1,6,I⟩ v6).setCell ⟨w.heap.size+1,7,I⟩ v7).setCell ⟨w.heap.size+1,8,I⟩ v8)):=by
  intro v0 v1 v2 v3 v4 v5 v6 v7 v8;exact yfk tQ (by omega) ⟨Rf.out,lD.out.trans Rc.out fun _ _ h=>h⟩ _ _ _ _ _ _ _ _ _
 go_wp2_with fail
 refine bodyPost_ret (v:=yB #[N D,J B aa,J B af,J B ar,J B mp,J B ms,J B mf,J B mr,N ed]) ?_ rfl ⟨rfl,HF.out _ _ _ _ _ _ _ _ _⟩;simp[results,Tryz.results208,go_sem,x0,x1,x2,x3,x4,x5,x6,x7,x8]
end
end Go.Proofs.YtdphiompijbelaaGreat
namespace Go.Proofs.YtdphiompijbelaaGreat
open Go.RowKit Go.Sort
theorem xv {b g0 g1:Nat} {vb:Value} {S:Pg.Fs} (k:Int) (w:T) (h:zj w b g0 g1 vb S):
 Calls Q 103 #[M (C ⟨b,0,I⟩),J B k] w fun e w'=>e=O (N (S.has k))/\w'=w:=by
 have rO:=h.raw.c1;have hn:=h.ok.small
 by_cases h0:0<=k
 ·obtain⟨m,rfl⟩:=Int.eq_ofNat_of_zero_le h0
  by_cases h1:m<S.n
  ·have hm:=h.raw.ci m h1
   have HH:Hid (S.has (m:Int)=S.inn m):=by simp[Hid,Pg.Fs.has]
   have i0:(0:Int)<=(m:Int):=by omega
   have i1:(m:Int)<(S.n:Int):=by omega
   go_enter Tryz.func103,Tryz.ntmps103
   go_wp2_with fail
   go_ret
   exact⟨xB HH.out.symm,rfl⟩
  ·have HH:Hid (S.has (m:Int)=Z):=by
    cases hh:S.has (m:Int)
    ·rfl
    ·have:=h.ok.yhK hh
     omega
   have i1:¬(m:Int)<(S.n:Int):=by omega
   go_enter Tryz.func103,Tryz.ntmps103
   go_wp2_with fail
   go_ret
   exact⟨xB HH.out.symm,rfl⟩
 ·have HH:Hid (S.has k=Z):=by simp[Hid,Pg.Fs.has,h0]
  have d0:decide (0<=k)=Z:=by simpa using h0
  go_enter Tryz.func103,Tryz.ntmps103
  go_wp2_with fail
  go_ret
  exact⟨xB HH.out.symm,rfl⟩
theorem vS {b g0 g1:Nat} {vb:Value} {S:Pg.Fs} (w:T) (h:zj w b g0 g1 vb S):
 Calls Q 22 #[M (C ⟨b,0,I⟩)] w fun e w'=>e=O (J B S.free)/\Below w.heap.size w w':=by
 have rO:=h.raw.c1;have tY:=h.raw.c2;have fT:=h.raw.c3;have hl:=h.ok.len;have ht:=h.ok.top;have hs:=h.ok.small;have HF:Hid (S.free=S.back.length+S.n-S.next):=rfl
 have hb:S.back.length<=128:=by omega
 have hx:S.next<=128:=by omega
 rcases h.raw.own.2 with ⟨rfl,Hg⟩|⟨g,cap,cur,rfl,hg⟩
 ·rw[Hg]at HF
  clear hl ht Hg hb
  go_enter Tryz.func22,Tryz.ntmps22
  go_wp2_with fail
  go_quiet (fail)
  go_wp2_with fail
  go_ret
  refine⟨?_,below_drewN (zR _) _⟩;rw[HF.out]
  first|rfl|simp
 ·clear hl ht hg
  generalize S.back.length=m at*
  go_enter Tryz.func22,Tryz.ntmps22
  go_wp2_with fail
  go_quiet (fail)
  go_wp2_with fail
  go_ret
  exact⟨zE (by rw[HF.out]),below_drewN (zR _) _⟩
theorem yb8 {b g0 g1:Nat} {vb:Value} {S:Pg.Fs} (w:T) (h:zj w b g0 g1 vb S) (hb:S.back=[]) (hn:¬S.next<S.n):
 Calls Q 51 #[M (C ⟨b,0,I⟩)] w fun e w'=>e=O (J B (-1))/\Below w.heap.size w w':=by
 have rO:=h.raw.c1;have tY:=h.raw.c2;have fT:=h.raw.c3;have hs:=h.ok.small
 have i1:¬(S.next:Int)<(S.n:Int):=by omega
 have ho:=h.raw.own;rw[hb]at ho;rcases ho.2 with ⟨rfl,Hg⟩|⟨g,cap,cur,rfl,hg⟩
 all_goals
  clear ho h
  go_enter Tryz.func51,Tryz.ntmps51
  go_wp2_with fail
  go_quiet (fail)
  go_wp2_with fail
  go_ret
  exact⟨rfl,below_drewN (zR _) _⟩
def jP:List Value:=[J kp 0,J kp 0,J kp 0,J kp 0,J kp 0,J kp 0,J kp 0,J kp 0]
theorem vd:jP.length=8:=rfl
theorem ycq:∀(j:Nat) (hj:j<jP.length),jP[j]=J kp 0
 | 0,_|1,_|2,_|3,_|4,_|5,_|6,_|7,_=>rfl
 | j+8,hj=>absurd hj (by rw[vd];omega)
theorem yb7 {b g0 g1:Nat} {vb:Value} {S:Pg.Fs} (w:T) (h:zj w b g0 g1 vb S) (hb:S.back=[]) (hn:S.next<S.n):
 Calls Q 51 #[M (C ⟨b,0,I⟩)] w fun e w'=>e=O (J B S.next)/\zj w' b g0 g1 vb S.take/\But (xc b g0 g1 vb) w w':=by
 have rT:=h.raw.c0;have rO:=h.raw.c1;have tY:=h.raw.c2;have fT:=h.raw.c3;have TT:=h.raw.fb;have nI:=h.raw.f0;have pY:=h.raw.f1;have hs:=h.ok.small;have n0:=h.raw.n0;have n1:=h.raw.n1;have n01:=h.raw.n01;have hi:=h.raw.ci S.next hn;have w0:w.cell? ⟨g0,S.next*8,I⟩=_:=h.raw.cw S.next 0 hn (by omega);have w1:=h.raw.cw S.next 1 hn (by omega);have w2:=h.raw.cw S.next 2 hn (by omega);have w3:=h.raw.cw S.next 3 hn (by omega);have w4:=h.raw.cw S.next 4 hn (by omega);have w5:=h.raw.cw S.next 5 hn (by omega);have w6:=h.raw.cw S.next 6 hn (by omega);have w7:=h.raw.cw S.next 7 hn (by omega)
 have i0:(0:Int)<=(S.next:Int):=by omega
 have i1:(S.next:Int)<(S.n:Int):=by omega
 have ho:=h.raw.own;rw[hb]at ho;have HM:Hid _:=h
 have fin:∀nq,Hid (zj (((((w.drewN nq).setCell ⟨b,3,I⟩ (J B (S.next+1))).setCell ⟨g1,S.next,I⟩ (N D)).setCells g0 (S.next*8) jP)) b g0 g1 vb S.take/\But (xc b g0 g1 vb) w (((((w.drewN nq).setCell ⟨b,3,I⟩ (J B (S.next+1))).setCell ⟨g1,S.next,I⟩ (N D)).setCells g0 (S.next*8) jP))):=by
  intro nq
  have hl:∀j,decide (j ∈ S.next::S.used)=if j=S.next then D else S.inn j:=by
   intro j
   by_cases e:j=S.next<;>simp[Pg.Fs.inn,e]
  have e:S.take={{{S with next:=S.next+1}with used:=S.next::S.used}with word:=Pg.Fs.clear S.word S.next}:=by
   simp[Pg.Fs.take,hb,hn]
  have h1:=(h.raw.drewN nq).ykA (S.next+1);have h2:=h1.mark (k:=S.next) hn D (S.next::S.used) hl;have h3:=h2.clear (k:=S.next) hn jP vd ycq;refine⟨⟨by rw[e];exact h3,h.ok.take⟩,?_⟩;refine But.setCells g0 (.inr (.inr (.inl rfl))) _ _ _ ?_;exact(((But.yhp (below_drewN (zR w) nq)).setCell (.inr (.inl rfl)) _).setCell (.inr (.inr (.inr (.inl rfl)))) _)
 rcases ho.2 with ⟨rfl,Hg⟩|⟨g,cap,cur,rfl,hg⟩
 all_goals
  clear ho h
  go_enter Tryz.func51,Tryz.ntmps51
  go_wp2_with fail
  go_quiet (fail)
  go_wp2_with fail
  go_ret
  exact⟨rfl,(fin _).out⟩
theorem yb6 {b g0 g1:Nat} {vb:Value} {S:Pg.Fs} (w:T) (h:zj w b g0 g1 vb S) (l:List Nat) (k:Nat) (hb:S.back=l++[k]) (hn:k<S.n):
 Calls Q 51 #[M (C ⟨b,0,I⟩)] w fun e w'=>e=O (J B k)/\∃vb',zj w' b g0 g1 vb' S.take/\But (xc b g0 g1 vb) w w'/\vb'.ownBlock=vb.ownBlock:=by
 have rT:=h.raw.c0;have rO:=h.raw.c1;have tY:=h.raw.c2;have fT:=h.raw.c3;have TT:=h.raw.fb;have nI:=h.raw.f0;have pY:=h.raw.f1;have hs:=h.ok.small;have n0:=h.raw.n0;have n1:=h.raw.n1;have n01:=h.raw.n01;have hi:=h.raw.ci k hn;have w0:w.cell? ⟨g0,k*8,I⟩=_:=h.raw.cw k 0 hn (by omega);have w1:=h.raw.cw k 1 hn (by omega);have w2:=h.raw.cw k 2 hn (by omega);have w3:=h.raw.cw k 3 hn (by omega);have w4:=h.raw.cw k 4 hn (by omega);have w5:=h.raw.cw k 5 hn (by omega);have w6:=h.raw.cw k 6 hn (by omega);have w7:=h.raw.cw k 7 hn (by omega)
 have i0:(0:Int)<=(k:Int):=by omega
 have i1:(k:Int)<(S.n:Int):=by omega
 have ho:=h.raw.own
 have Hg:S.back.length=l.length+1:=by rw[hb];simp
 rw[Hg]at ho;obtain⟨g,cap,rfl,_,hgl⟩:=ho.form (by omega)
 have nE:l.length+1<=cap:=by
  rcases ho.2 with ⟨h',_⟩|⟨g',cap',cur,h',_,_,fe,_⟩
  ·cases h'
  ·cases h';exact fe
 have Ny:S.back.length<=128:=by have:=h.ok.len;have:=h.ok.top;omega
 have FE:l.length<128:=by omega
 have sH:w.cell? ⟨g,l.length,I⟩=C (J B k):=by
  rw[ho.cellAt l.length (by omega),ya3,hb];simp
 have iG:w.ownsRow 0 3 1 (Y (C ⟨g,0,I⟩) l.length cap) l.length (ya3 l):=by
  have e:ya3 S.back=ya3 l++[J B (k:Int)]:=by simp[ya3,hb]
  rw[e]at ho;exact ownsRow_pop (by simp[ya3]) ho
 have fin:Hid (∃vb',zj ((((w.setCell ⟨b,2,I⟩ (Y (C ⟨g,0,I⟩) l.length cap)).setCell ⟨g1,k,I⟩ (N D)).setCells g0 (k*8) jP)) b g0 g1 vb' S.take/\But (xc b g0 g1 (Y (C ⟨g,0,I⟩) (l.length+1) cap)) w ((((w.setCell ⟨b,2,I⟩ (Y (C ⟨g,0,I⟩) l.length cap)).setCell ⟨g1,k,I⟩ (N D)).setCells g0 (k*8) jP))/\vb'.ownBlock=(ki (C ⟨g,0,I⟩) (l.length+1) cap).ownBlock):=by
  have hl:∀j,decide (j ∈ k::S.used)=if j=k then D else S.inn j:=by
   intro j
   by_cases e:j=k<;>simp[Pg.Fs.inn,e]
  have e:S.take={{{S with back:=l}with used:=k::S.used}with word:=Pg.Fs.clear S.word k}:=by
   simp[Pg.Fs.take,hb]
  have h1:=h.raw.ykz iG h.raw.vb0 h.raw.vb1 h.raw.vbb;have h2:=h1.mark (k:=k) hn D (k::S.used) hl;have h3:=h2.clear (k:=k) hn jP vd ycq;refine⟨Y (C ⟨g,0,I⟩) l.length cap,⟨by rw[e];exact h3,h.ok.take⟩,?_,rfl⟩;refine But.setCells g0 (.inr (.inr (.inl rfl))) _ _ _ ?_;exact(((But.refl _ w).setCell (.inr (.inl rfl)) _).setCell (.inr (.inr (.inr (.inl rfl)))) _)
 have j1:(l.length:Int)<=(cap:Int):=by omega
 clear ho h iG Hg hb;generalize l.length=m at*
 go_enter Tryz.func51,Tryz.ntmps51
 go_wp2_with fail
 go_ret
 exact⟨rfl,fin.out⟩
theorem jC {b g0 g1:Nat} {vb:Value} {S:Pg.Fs} (w:T) (h:zj w b g0 g1 vb S):
 Calls Q 51 #[M (C ⟨b,0,I⟩)] w fun e w'=>e=O (J B S.takeN)/\∃vb',zj w' b g0 g1 vb' S.take/\But (xc b g0 g1 vb) w w'/\vb'.ownBlock=vb.ownBlock:=by
 by_cases hb:S.back=[]
 ·by_cases hn:S.next<S.n
  ·refine(yb7 w h hb hn).mono ?_
   rintro e w' ⟨rfl,h1,h2⟩;exact⟨by simp[Pg.Fs.takeN,Pg.Fs.pick,hb,hn],vb,h1,h2,rfl⟩
  ·refine(yb8 w h hb hn).mono ?_
   rintro e w' ⟨rfl,h1⟩
   have e1:S.take=S:=by simp[Pg.Fs.take,hb,hn]
   refine⟨by simp[Pg.Fs.takeN,Pg.Fs.pick,hb,hn],vb,?_,But.yhp h1,rfl⟩;rw[e1];exact h.keep (F:=fun _=>False) (But.yhp h1) (fun _ _=>id)
 ·obtain⟨l,k,hl⟩:∃l k,S.back=l++[k]:=⟨_,_,(List.dropLast_concat_getLast hb).symm⟩
  have hk:k<S.n:=by
   have:=h.ok.ykC (k:=k) (by rw[hl];simp);have:=h.ok.top;omega
  refine(yb6 w h l k hl hk).mono ?_;rintro e w' ⟨rfl,h1⟩;exact⟨by simp[Pg.Fs.takeN,Pg.Fs.pick,hl],h1⟩
theorem yga:(Tryz.prog.info? 3).map (fun i=>(i.zero,i.size,i.bytes))=C (C (J B 0),1,8):=by kernel_rfl
theorem ycX {b g0 g1:Nat} {vb:Value} {S:Pg.Fs} (m:Nat) (w:T) (h:zj w b g0 g1 vb S) (hh:S.has (m:Int)=D):
 Calls Q 111 #[M (C ⟨b,0,I⟩),J B (m:Int)] w fun e w'=>e=O (N D)/\∃vb',zj w' b g0 g1 vb' (S.give (m:Int))/\But (xc b g0 g1 vb) w w'/\(vb'.ownBlock=vb.ownBlock\/∃k,vb'.ownBlock=C k/\w.heap.size<=k):=by
 have rO:=h.raw.c1;have TT:=h.raw.fb;have pY:=h.raw.f1;have hs:=h.ok.small;have n1:=h.raw.n1
 have hn:m<S.n:=by have:=h.ok.yhK hh;omega
 have hi:=h.raw.ci m hn
 have i0:(0:Int)<=(m:Int):=by omega
 have i1:(m:Int)<(S.n:Int):=by omega
 have hu:m ∈ S.used:=by simpa using (h.ok.yhK hh).2.2
 have hT:=xv (m:Int) w h;rw[hh]at hT
 have hl:∀j,decide (j ∈ S.used.erase m)=if j=m then Z else S.inn j:=by
  intro j;have fD:S.used.Nodup:=(List.nodup_append.1 h.ok.nodup).1
  by_cases e:j=m
  ·simp[e,fD.mem_erase_iff]
  ·simp[e,fD.mem_erase_iff,Pg.Fs.inn]
 have hM:=h.raw.mark hn Z (S.used.erase m) hl
 have Ny:S.back.length<=128:=by have:=h.ok.len;have:=h.ok.top;omega
 have Hr:=hM.own;have tY:=hM.c2;have rY:=hM.lb;obtain⟨q0,hq,rW,rZ,rX⟩:=info_parts yga;have HM:Hid _:=hM;have HH:Hid _:=h;have HX:Hid _:=hh;clear hM h hl hu hh
 go_enter Tryz.func111,Tryz.ntmps111
 go_wp2_with (first
  | (go_at_call 103;refine hT.mono ?_;rintro e w' ⟨rfl,hw⟩;subst w')
  | (at_builtin;refine wpList_append_lies _ rfl _ _ 45 rfl 0 3 q0 (J B 0) 1 8 Tryz.underlying45 hq rW rZ rX rfl (by decide) _ _ _ rfl (Hr.alloc _) ⟨w.heap.size,0,I⟩ 1 1 [J B (m:Int)] rfl rfl ?c1 ?c2 (by decide) ?c3 ?c4 (Nat.zero_le _) (w.heap.size+1) (by simp) ?_))
 case c1=>
  intro j u hj
  match j,hj with
  | 0,hj=>simp at hj;subst hj;simp[Addr.add,go_sem]
 case c2=>intro u hu;simp at hu;subst hu;rfl
 case c3=>unfold maxLen;omega
 case c4=>omega
 intro g cap w3 Hy Hq hat Hf;have h1:=HM.out
 have hk:∀k,k=b\/k=g0\/k=g1->w3.heap[k]?=(w.setCell ⟨g1,m,I⟩ (N Z)).heap[k]?:=by
  intro k hk
  have dU:k<(w.setCell ⟨g1,m,I⟩ (N Z)).heap.size:=by
   rcases hk with rfl|rfl|rfl
   ·exact h1.lb
   ·exact h1.l0
   ·exact h1.l1
  have lT:C k≠vb.ownBlock:=by
   rcases hk with rfl|rfl|rfl
   ·exact fun e=>h1.vbb e.symm
   ·exact fun e=>h1.vb0 e.symm
   ·exact fun e=>h1.vb1 e.symm
  rw[Hq.block k (by simp at dU ⊢;omega) lT];exact Below.heap_alloc _ _ _ dU
 have pU:(w.setCell ⟨g1,m,I⟩ (N Z)).heap.size=w.heap.size:=by simp
 have Ho:∀k,k=b\/k=g0\/k=g1->(ki (C ⟨g,0,I⟩) (S.back.length+1) cap).ownBlock≠C k:=by
  intro k hk e
  have e:g=k:=by simpa[U]using e
  subst e;rcases hat with hat|hat
  ·rcases hk with rfl|rfl|rfl
   ·exact h1.vbb hat
   ·exact h1.vb0 hat
   ·exact h1.vb1 hat
  ·have:=h1.lb;have:=h1.l0;have:=h1.l1
   omega
 have hG:=h1.grow (w':=w3) (l:=S.back++[m]) (by have:=Hq.size;simp at this ⊢;omega) hk (by simpa[ya3]using Hy) (Ho g0 (.inr (.inl rfl))) (Ho g1 (.inr (.inr rfl))) (Ho b (.inl rfl));have kc:w3.cell? ⟨b,2,I⟩=C vb:=(P (hk b (.inl rfl))).trans h1.c2;have kf:w3.frozen? ⟨b,2,I⟩=Z:=(H (hk b (.inl rfl))).trans (h1.fb 2)
 have fin:Hid (∃vb',zj (w3.setCell ⟨b,2,I⟩ (Y (C ⟨g,0,I⟩) (S.back.length+1) cap)) b g0 g1 vb' (S.give (m:Int))/\But (xc b g0 g1 vb) w (w3.setCell ⟨b,2,I⟩ (Y (C ⟨g,0,I⟩) (S.back.length+1) cap))/\(vb'.ownBlock=vb.ownBlock\/∃k,vb'.ownBlock=C k/\w.heap.size<=k)):=by
  have e:S.give (m:Int)={{S with used:=S.used.erase m}with back:=S.back++[m]}:=by
   simp[Pg.Fs.give,HX.out]
  refine⟨Y (C ⟨g,0,I⟩) (S.back.length+1) cap,⟨by rw[e];exact hG,HH.out.ok.give _⟩,?_,?_⟩
  ·refine(((((But.refl _ w).setCell (.inr (.inr (.inr (.inl rfl)))) _).alloc _).grown Hq fun k hk=> .inr (.inr (.inr (.inr hk))))).setCell (.inr (.inl rfl)) _
  ·rcases hat with hat|hat
   ·exact .inl hat.symm
   ·exact .inr ⟨g,rfl,by omega⟩
 clear hk Ho hG h1 Hy Hq Hr tY hat Hf
 go_wp2_with fail
 go_ret
 exact⟨rfl,fin.out⟩
theorem ycW {b g0 g1:Nat} {vb:Value} {S:Pg.Fs} (k:Int) (w:T) (h:zj w b g0 g1 vb S):
 Calls Q 111 #[M (C ⟨b,0,I⟩),J B k] w fun e w'=>e=O (N (S.has k))/\∃vb',zj w' b g0 g1 vb' (S.give k)/\But (xc b g0 g1 vb) w w'/\(vb'.ownBlock=vb.ownBlock\/∃j,vb'.ownBlock=C j/\w.heap.size<=j):=by
 cases hh:S.has k
 ·have hT:=xv k w h
  rw[hh]at hT
  have fin:Hid (∃vb',zj w b g0 g1 vb' (S.give k)/\But (xc b g0 g1 vb) w w/\(vb'.ownBlock=vb.ownBlock\/∃j,vb'.ownBlock=C j/\w.heap.size<=j)):=by
   have e:S.give k=S:=by simp[Pg.Fs.give,hh]
   exact⟨vb,by rw[e];exact h,But.refl _ _,.inl rfl⟩
  clear h
  go_enter Tryz.func111,Tryz.ntmps111
  go_wp2_with (go_at_call 103;refine hT.mono ?_;rintro e w' ⟨rfl,hw⟩;subst w')
  go_ret
  exact⟨rfl,fin.out⟩
 ·obtain⟨m,rfl⟩:=Int.eq_ofNat_of_zero_le (h.ok.yhK hh).1
  exact ycX m w h hh
theorem yeM:(Tryz.prog.info? 164).map (fun i=>(i.zero,i.size,i.bytes))=C (C (yB #[J kp 0,J kp 0,J kp 0,J kp 0,J kp 0,J kp 0,J kp 0,J kp 0]),8,64):=by kernel_rfl
theorem ydn:(Tryz.prog.info? 4).map (fun i=>(i.zero,i.size,i.bytes))=C (C (N Z),1,1):=by kernel_rfl
theorem yd2 (n:Nat) (hn:n<=128) (w:T):
 Calls Q 50 #[J B (n:Int)] w fun e w'=>∃b g0 g1,e=O (M (C ⟨b,0,I⟩))/\zj w' b g0 g1 (Y I 0 0) (Pg.Fs.new n)/\Below w.heap.size w w'/\w.heap.size<=b/\w.heap.size<=g0/\w.heap.size<=g1:=by
 obtain⟨q0,hq,rW,rZ,rX⟩:=info_parts yeM;obtain⟨q1,Ci,GI,KF,Sj⟩:=info_parts ydn
 have m0:∀w:T,(Instr.makeSlice 135 (J B (n:Int)) (J B (n:Int))).run Q w=_:=fun w=>
  run_make w 135 164 q0 _ Tryz.underlying135 hq rW B B n n (by omega) (Int.le_refl _) (by rw[rX];omega) (by omega)
 have m1:∀w:T,(Instr.makeSlice 50 (J B (n:Int)) (J B (n:Int))).run Q w=_:=fun w=>
  run_make w 50 4 q1 _ Tryz.underlying50 Ci GI B B n n (by omega) (Int.le_refl _) (by rw[Sj];omega) (by omega)
 rw[rZ]at m0;rw[KF]at m1;simp only[Int.toNat_natCast]at m0 m1
 go_enter Tryz.func50,Tryz.ntmps50
 go_wp2_with fail
 go_region
 all_goals
  go_wp2_with fail
  go_ret
 ·refine⟨w.heap.size+1+1,w.heap.size,w.heap.size+1,rfl,⟨?_,Pg.Fs.ykU n hn⟩,(zA (zA (zA (zR w) _) _) _).drew,by omega,by omega,by omega⟩
  refine zQ.made (t0:=164) (t1:=4) (t2:=137) ?_ ?_ ?_ (by omega) (by omega) (by omega)
  ·exact(js w _ _ _).2.2
  ·exact(js w _ _ _).1
  ·exact(js w _ _ _).2.1
 ·refine⟨w.heap.size+1+1,w.heap.size+1,w.heap.size,rfl,⟨?_,Pg.Fs.ykU n hn⟩,(zA (zA (zA (zR w) _) _) _).drew,by omega,by omega,by omega⟩
  refine zQ.made (t0:=164) (t1:=4) (t2:=137) ?_ ?_ ?_ (by omega) (by omega) (by omega)
  ·exact(js w _ _ _).2.2
  ·exact(js w _ _ _).2.1
  ·exact(js w _ _ _).1
set_option maxRecDepth 100000
namespace Pg.Fs
end Pg.Fs
namespace Side
variable {w0 w w':T} {bf bm g0 g1:Nat} {vb vb':Value} {F F':Nat->Prop} {Sf Sm S':Pg.Fs}
end Side
theorem yfe (S:Pg.Fs) (p:Int):∀(lv:Nat) (t:Int) (a i:Nat),i<(Pg.thr S (Pg.onW p) lv t a).1.length->i<=lv/\(qN (Pg.thr S (Pg.onW p) lv t a).1).getD i 0=(Pg.ix p (lv-i):Nat):=by
 intro lv
 induction lv with
 | zero=>
   intro t a i hi;rw[Pg.yhS]at hi ⊢;split at hi
   ·simp at hi
   ·rename_i h1
    rw[if_neg h1];split at hi
    ·rename_i h2
     rw[if_pos h2];simp at hi;subst hi;exact⟨by omega,by simp[qN,Pg.spt]⟩
    ·rename_i h2
     obtain⟨m,hm⟩:=Pg.yhR (S:=S) (t:=t) (i:=Pg.ix p 0) (lv:=0) (by simpa using h2);omega
 | succ lv ih=>
   intro t a i hi;rw[Pg.yhS]at hi ⊢;split at hi
   ·simp at hi
   ·rename_i h1
    rw[if_neg h1];split at hi
    ·rename_i h2
     rw[if_pos h2];simp at hi;subst hi;exact⟨by omega,by simp[qN,Pg.spt]⟩
    ·rename_i h2
     rw[if_neg h2];simp only at hi ⊢
     cases i with
     | zero=>exact⟨by omega,by simp[qN,Pg.spt]⟩
     | succ i=>
       have h3:=ih (Pg.rEn S t (Pg.ix p (lv+1)) (lv+1)).f ((a+Pg.ix p (lv+1))*8) i (by simpa[Pg.sub]using hi);refine⟨by omega,?_⟩;rw[show lv+1-(i+1)=lv-i by omega]
       simpa[qN,Pg.sub]using h3.2
theorem yaV (S:Pg.Fs) (t p:Int) {i:Nat} (hi:i<(zg S t p).length):Pg.below p 4096=D/\i<=3/\(qN (zg S t p)).getD i 0=Pg.index p (3-(i:Int)):=by
 unfold zg at hi ⊢;split at hi
 ·rename_i h
  rw[if_pos h];obtain⟨h1,h2⟩:=yfe S p 3 t 0 i hi;refine⟨h.1,h1,?_⟩;rw[h2,show(3-(i:Int))=((3-i:Nat):Int) by omega,Pg.yhE h.1 (by omega)]
 ·simp at hi
theorem yfw (S:Pg.Fs) (t p:Int):(zg S t p).length<=4680:=by
 unfold zg;split
 ·exact Pg.ylv S (Pg.onW p) 3 t 0
 ·simp
end Go.Proofs.YtdphiompijbelaaGreat
namespace Go.Proofs.YtdphiompijbelaaGreat
open Go.RowKit Go.Sort
attribute [local go_sem] Loose.gent
theorem yac (s:Pg.Sp) (hl:s.level<4) (ha:s.ahead<4096) (w:T):
 Calls Q 115 #[s.val] w fun e w'=>e=O s.mp.val/\Below w.heap.size w w':=by
 obtain⟨st,sp,sl,sa,⟨et,el,er,eu,ed,ef⟩⟩:=s;have hs:=Pg.yhH (sl:Int);simp only at hl ha;have HM:=ybn et el er eu ed ef (sl:Int) ((sa:Int)*Pg.span (sl:Int));rw[Pg.ylo ⟨et,el,er,eu,ed,ef⟩]at HM;have HE:Hid ((⟨st,sp,sl,sa,⟨et,el,er,eu,ed,ef⟩⟩:Pg.Sp).mp=Pg.En.map ⟨et,el,er,eu,ed,ef⟩ (sl:Int) ((sa:Int)*Pg.span (sl:Int))):=rfl;rw[HE.out]
 have WN:IntKind.i64.wrap ((sa:Int)*Pg.span (sl:Int))=(sa:Int)*Pg.span (sl:Int):=by
  have h1:(sa:Int)*Pg.span (sl:Int)<=4096*64:=Int.mul_le_mul (by omega) (by omega) (by omega) (by omega);have h2:0<=(sa:Int)*Pg.span (sl:Int):=Int.mul_nonneg (by omega) (by omega);exact zr (by omega) (by omega)
 generalize Pg.En.map ⟨et,el,er,eu,ed,ef⟩ (sl:Int) ((sa:Int)*Pg.span (sl:Int))=m at*;obtain⟨mp,ms,mf,mr⟩:=m;simp only[Pg.Sp.val,Pg.Mp.val]at HM ⊢;clear HE;obtain⟨W,hW⟩:∃W,W=(w.alloc (kO #[J B st,J B (sp:Int),J B (sl:Int),J B (sa:Int),N et,N el,J B er,N eu,N ed,J B ef] 198)).alloc (kO #[J B 0,J B 0,J B 0,J B 0] 39):=⟨_,rfl⟩
 have hB:Below w.heap.size w W:=by rw[hW];exact zA (zA (zR w) _) _
 have y2:=cell_regrown (show W.cell? ⟨w.heap.size,2,I⟩=C (J B (sl:Int)) by rw[hW];simp[go_sem]);have y3:=cell_regrown (show W.cell? ⟨w.heap.size,3,I⟩=C (J B (sa:Int)) by rw[hW];simp[go_sem]);have y4:=cell_regrown (show W.cell? ⟨w.heap.size,4,I⟩=C (N et) by rw[hW];simp[go_sem]);have y5:=cell_regrown (show W.cell? ⟨w.heap.size,5,I⟩=C (N el) by rw[hW];simp[go_sem]);have y6:=cell_regrown (show W.cell? ⟨w.heap.size,6,I⟩=C (J B er) by rw[hW];simp[go_sem]);have y7:=cell_regrown (show W.cell? ⟨w.heap.size,7,I⟩=C (N eu) by rw[hW];simp[go_sem]);have y8:=cell_regrown (show W.cell? ⟨w.heap.size,8,I⟩=C (N ed) by rw[hW];simp[go_sem]);have y9:=cell_regrown (show W.cell? ⟨w.heap.size,9,I⟩=C (J B ef) by rw[hW];simp[go_sem])
 have cr:W.cell? ⟨w.heap.size+1,0,I⟩=C (J B 0)/\W.cell? ⟨w.heap.size+1,1,I⟩=C (J B 0)/\W.cell? ⟨w.heap.size+1,2,I⟩=C (J B 0)/\W.cell? ⟨w.heap.size+1,3,I⟩=C (J B 0):=by rw[hW];simp[go_sem]
 have fr:∀i,W.frozen? ⟨w.heap.size+1,i,I⟩=Z:=fun i=>by rw[hW];simp[go_sem]
 go_enter Tryz.func115,Tryz.ntmps115
 go_wp2_with fail
 rw[<-hW];clear hW;refine Loose.yiL 11 (by kernel_rfl) (by kernel_rfl) ?_;simp only[kh,ue,un,yI]
 repeat (
  refine Loose.zS (fun k hk=> ?_)
  go_simp
  first
   | (refine hk _ ?_;clear hk k)
   | (apply Exists.intro
      refine⟨fun _=> ?_,hk _ ?_⟩
      (first
        | (go_at_call 153;exact Loose.yii (xO _ _))
        | (go_at_call 152;exact Loose.calls (HM _)))
      clear hk k))
 refine Loose.yhs ?_;intro w' hb';have Hf:=E _ _ cr.1
 replace cr:=xH hb' cr
 have fr':∀i,w'.frozen? ⟨w.heap.size+1,i,I⟩=Z:=fun i=>by
  rw[hb'.frozen (p:=⟨w.heap.size+1,i,I⟩) Hf];exact fr i
 replace hB:=zT hB hb'
 clear hb' fr y2 y3 y4 y5 y6 y7 y8 y9
 go_wp2_with fail
 refine bodyPost_ret (v:=yB #[J B mp,J B ms,J B mf,J B mr]) ?_ rfl ⟨rfl,?_⟩
 ·simp[results,Tryz.results115,go_sem,cr]
 ·exact(((hB.setCell (by simp) _).setCell (by simp) _).setCell (by simp) _).setCell (by simp) _
theorem yeR {w0:T} {c:Nat} (s:Pg.Sp) (X:List Pg.Sp) (V:Nat->Prop) (w:T) (hl:s.level<4) (ha:s.ahead<4096) (Hg:X.length<4680)
 (hR:qs w0 c 39 4 (fun X=>(Pg.zM X).length) (fun X=>zC (Pg.zM X)) X V w):
 Calls Q 114 #[s.val,M (C ⟨c,0,I⟩)] w fun e w'=>e=O (uv #[])/\∃V',qs w0 c 39 4 (fun X=>(Pg.zM X).length) (fun X=>zC (Pg.zM X)) (X++[s]) V' w'/\But V w w'/\∀k,V' k->V k\/w.heap.size<=k:=by
 have HT:Hid (Pg.zM (X++[s])=Pg.zM X++if s.e.l=D then [s.mp]else []):=by simp[Hid,Pg.zM]
 have HR:Hid _:=hR;have LB:=Pg.mapsOf_len X;have HM:=yac s hl ha;have HS:Hid (s=s):=rfl;generalize hs:s.mp=m at*;clear hs HS;obtain⟨st,sp,sl,sa,⟨et,el,er,eu,ed,ef⟩⟩:=s;obtain⟨mp,ms,mf,mr⟩:=m;simp only[Pg.Sp.val,Pg.Mp.val]at HM ⊢;simp only at HT;cases el
 ·clear hR HM
  go_enter Tryz.func114,Tryz.ntmps114
  go_wp2_with fail
  go_end0
  exact⟨rfl,HR.out.stay (zA (zR w) _) (by rw[HT.out];simp) (by rw[HT.out];simp)⟩
 ·obtain⟨vb,hv,hV⟩:=hR.var
  obtain⟨q0,hq,rW,rZ,rX⟩:=info_parts qp;have aQ:Hid _:=hv;have wC:=hR.fz;have Sd:=hR.bel.size;have NI:=hv.lb;have cc:=hv.cell;have Hr:=hv.own;clear hR hv
  have eH:c≠w.heap.size:=by omega
  go_enter Tryz.func114,Tryz.ntmps114
  go_wp2_with fail
  have tJ:∀(W:T) (j:Nat) (u:Value),[yR B mp,J B ms,J B mf,J B mr][j]?=C u->(W.alloc (kO #[J B mp,J B ms,J B mf,J B mr] 39)).cell? ((⟨W.heap.size,0,I⟩:Addr).add j)=C u:=fun W j u hu=>
   World.news_of_block (heap_alloc_new W _) j u hu
  have sZ:∀u,u ∈ [yR B mp,J B ms,J B mf,J B mr]->u.oneCell'=D:=by
   intro u hu;simp at hu;rcases hu with rfl|rfl|rfl|rfl<;>rfl
  have dV:(Pg.zM X).length+1<=maxLen:=by unfold maxLen;omega
  have si:((Pg.zM X).length+1)*32<=140737488355328:=by omega
  go_region_law (first
   | (go_simp;go_at_call 115;refine(HM _).mono ?_;rintro e w2 ⟨rfl,Hd⟩;have Ht:Hid (Below w.heap.size w w2):=zT ((zA (zR w) _).drew) Hd;have V2:Hid _:=aQ.out.grow Ht.out;have Di:=V2.out.cell;have cl2:=V2.out.lb;clear Hd)
   | (refine step_append_lies _ rfl (.tmp 6) (.tmp 9) 44 rfl w0.heap.size 39 q0 _ 4 32 Tryz.underlying44 hq rW rZ rX rfl (by decide) vb _ _ (by simp[Act.eval]) (V2.out.own.alloc _) ⟨w2.heap.size,0,I⟩ 1 1 [J B mp,J B ms,J B mf,J B mr] (by simp[Act.eval]) rfl (tJ w2) sZ (by decide) dV si (ud Sd (ud Ht.out.size (by simp))) (w2.heap.size+1) (by simp) ?_;intro g cap w3 Hy Hq hat pK;have TJ:Hid _:=zA Ht.out (kO #[J B mp,J B ms,J B mf,J B mr] 39);have HA:Hid (vb.ownBlock=C g\/g=(w2.alloc (kO #[J B mp,J B ms,J B mf,J B mr] 39)).heap.size):=(by simpa[Hid]using hat);have p1:=(aQ.out.push TJ.out Hq Hy HA.out).1;have kf:w3.frozen? ⟨c,0,I⟩=Z:=((aQ.out.push TJ.out Hq Hy HA.out).2.1 0).trans (wC 0);have Ie:Hid _:=Hy;have ES:Hid _:=Hq;clear Hy Hq hat pK))
  all_goals
   have fin:Hid _:=HR.out.push (X':=X++[⟨st,sp,sl,sa,⟨et,D,er,eu,ed,ef⟩⟩]) aQ.out hV TJ.out ES.out Ie.out HA.out (by rw[HT.out];simp) (by rw[HT.out,if_true,qX])
   go_wp2_with fail
   go_end0
   exact⟨rfl,fin.out⟩
theorem yb0:∀args w,(callFunc 114 args).run Q w= .ok (.enter 114 args) w:=fun args w=>by simp[go_sem]
theorem yd1 {b:Nat} {S:Pg.Fs} {F:Nat->Prop} {w0:T} {c:Nat} (h:zh w0 b S F):
 yct b S F 113 114 #[] #[M (C ⟨c,0,I⟩)] Pg.zW (qs w0 c 39 4 (fun X=>(Pg.zM X).length) (fun X=>zC (Pg.zM X))):=
 ⟨qz,yb0,fun _ _ _ hR=>hR.fr h,fun _ _ _ hR _ hk=>hR.lt hk,fun _ _ _ _ hR hb=>hR.grow hb,
  fun i lv _ _ w _ _ _=>xz (jt (i:Int) (lv:Int) w),fun s X V w _ h1 h2 hl hR=>yeR s X V w h1 h2 hl hR⟩
theorem yfF {w:T} {base:Nat} {e:TypeId} {size n cap:Nat} {ad:Option Addr} {xs:List Value} (h:w.ownsRow base e size (Y ad n cap) n xs):n<=cap:=by
 rcases h.2 with ⟨e,_⟩|⟨g,c,cur,e,_,_,fe,_⟩
 ·cases e;exact ks _
 ·cases e;exact fe
theorem yde {b:Nat} {S:Pg.Fs} {F:Nat->Prop} (t:Int) (w:T) (h:zh w b S F):
 Calls Q 65 #[M (C ⟨b,0,I⟩),J B t] w fun e w'=>∃ad cap L,e=O (uv #[Y ad L.length cap,J B (Pg.thr S Pg.zW 3 t 0).2])/\L=(if (Pg.thr S Pg.zW 3 t 0).2=0 then t::Pg.zU (Pg.thr S Pg.zW 3 t 0).1 else [])/\zx w' ad L/\L.length<=cap/\Below w.heap.size w w':=by
 obtain⟨W,hW⟩:∃W,W=(w.alloc (kO #[J B t] 3)).alloc (kO #[Y (C ⟨w.heap.size,0,I⟩) 1 1] 45):=⟨_,rfl⟩
 have hB:Below w.heap.size w W:=by rw[hW];exact zA (zA (zR w) _) _
 have hK:qs w (w.heap.size+1) 3 1 (fun X=>(t::Pg.zU X).length) (fun X=>xG (t::Pg.zU X)) [] (fun k=>k=w.heap.size+1\/(ki (C ⟨w.heap.size,0,I⟩) 1 1).ownBlock=C k) W:=by
  refine⟨hB,by omega,fun o=>by rw[hW];simp[go_sem],Y (C ⟨w.heap.size,0,I⟩) 1 1,⟨by rw[hW];simp[go_sem],?_,by simp[U]⟩,rfl⟩;refine⟨by simp[xG,Pg.zU],.inr ⟨w.heap.size,1,#[J B t],rfl,ks _,?_,ks _,by decide,rfl,by simp[xG,Pg.zU]⟩⟩;rw[hW,Below.heap_alloc _ _ _ (by simp)];exact heap_alloc_new w _
 have HC:Hid _:=ybq (ycj (c:=w.heap.size+1) (t:=t) h) t _ W hK;clear h hK hB;generalize Pg.thr S Pg.zW 3 t 0=th at*
 go_enter Tryz.func65,Tryz.ntmps65
 go_wp2_with fail
 rw[<-hW];refine Calls.mono HC.out ?_;rintro e w1 ⟨rfl,V1,kG,Ha,lW⟩;clear Ha lW;have HB:Hid (Below w.heap.size w w1):=kG.bel;obtain⟨vb,hv,_⟩:=kG.var;obtain⟨ad,cap,rfl⟩:=zF hv.own
 by_cases hc:th.2=0
 ·have gW:(th.2 !=0)=Z:=by simp[hc]
  have cc:=hv.cell;have HI:Hid _:=qG hv.own;have CL:Hid _:=yfF hv.own;have aD:Hid _:=hc;clear hv kG hc
  go_wp2_with fail
  go_ret2
  exact⟨ad,cap,t::Pg.zU th.1,rfl,by first|rw[if_pos aD.out]|rfl,HI.out,CL.out,HB.out⟩
 ·have gW:(th.2 !=0)=D:=by simp[hc]
  have aD:Hid _:=hc;clear hv kG hc
  go_wp2_with fail
  go_ret2
  exact⟨I,0,[],rfl,by first|rw[if_neg aD.out]|rfl,fun j hj=>absurd hj (by simp),by simp,HB.out⟩
theorem yfG {w:T} {base:Nat} {e:TypeId} {size n cap:Nat} {ad:Option Addr} {xs:List Value} (h:w.ownsRow base e size (Y ad n cap) n xs):∀g,ad=C ⟨g,0,I⟩->base<=g:=by
 intro g hg;rcases h.2 with ⟨e,_⟩|⟨g',c,cur,e,hb,_⟩
 ·cases e;cases hg
 ·cases e;cases hg;exact hb
theorem yfc {b:Nat} {S:Pg.Fs} {F:Nat->Prop} (t:Int) (w:T) (h:zh w b S F):
 Calls Q 64 #[M (C ⟨b,0,I⟩),J B t] w fun e w'=>∃ad cap L,e=O (uv #[Y ad L.length cap,J B (Pg.thr S Pg.zW 3 t 0).2])/\L=(if (Pg.thr S Pg.zW 3 t 0).2=0 then Pg.zM (Pg.thr S Pg.zW 3 t 0).1 else [])/\xS w' ad L/\(∀g,ad=C ⟨g,0,I⟩->w.heap.size<=g)/\Below w.heap.size w w':=by
 obtain⟨W,hW⟩:∃W,W=w.alloc (kO #[Y I 0 0] 44):=⟨_,rfl⟩
 have hB:Below w.heap.size w W:=by rw[hW];exact zA (zR w) _
 have hK:qs w w.heap.size 39 4 (fun X=>(Pg.zM X).length) (fun X=>zC (Pg.zM X)) [] (fun k=>k=w.heap.size\/(ki I 0 0).ownBlock=C k) W:=
  ⟨hB,ks _,fun o=>by rw[hW];simp[go_sem],Y I 0 0,⟨by rw[hW];simp[go_sem],A _ _ _ _,by simp[U]⟩,rfl⟩
 have HC:Hid _:=ybq (yd1 (c:=w.heap.size) h) t _ W hK;clear h hK hB;generalize Pg.thr S Pg.zW 3 t 0=th at*
 go_enter Tryz.func64,Tryz.ntmps64
 go_wp2_with fail
 rw[<-hW];refine Calls.mono HC.out ?_;rintro e w1 ⟨rfl,V1,kG,Ha,lW⟩;clear Ha lW;have HB:Hid (Below w.heap.size w w1):=kG.bel;obtain⟨vb,hv,_⟩:=kG.var;obtain⟨ad,cap,rfl⟩:=zF hv.own
 by_cases hc:th.2=0
 ·have gW:(th.2 !=0)=Z:=by simp[hc]
  have cc:=hv.cell;have HI:Hid (xS w1 ad (Pg.zM th.1)):=xx hv.own;have Ic:Hid _:=yfG hv.own;have aD:Hid _:=hc;clear hv kG hc
  go_wp2_with fail
  go_ret2
  exact⟨ad,cap,Pg.zM th.1,rfl,by first|rw[if_pos aD.out]|rfl,HI.out,Ic.out,HB.out⟩
 ·have gW:(th.2 !=0)=D:=by simp[hc]
  have aD:Hid _:=hc;clear hv kG hc
  go_wp2_with fail
  go_ret2
  exact⟨I,0,[],rfl,by first|rw[if_neg aD.out]|rfl,fun j hj=>absurd hj (by simp),fun g hg=>(by cases hg),HB.out⟩
end Go.Proofs.YtdphiompijbelaaGreat
