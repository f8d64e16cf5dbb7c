import Derived.Test.YtdphiompijbelaaGreatDoorTabCp
import Derived.Laws.CopyRow
import Derived.Laws.AppendOwn
import Derived.Lib.AppendZerosOnto
import Derived.ArgAppend
set_option linter.all false
set_option maxRecDepth 100000
open Nat renaming add_mul->kN,one_mul->kY,mul_le_mul_right->kT,le_trans->kL,add_zero->kG,min->ky
open Bool renaming false->q,true->kP
open List renaming length_append->U,take_append_of_le_length->D,take_of_length_le->y,length_take->kI,append_assoc->kC,drop_eq_nil_of_le->kR,length_drop->kV,length_singleton->kU,take_take->kK,mem_of_getLast?->kM,map_toArray->kA,map_cons->kH,map_nil->kW
open Go.IntKind renaming i64->Z
open Go renaming World->Y,Value->M,bodyPost_ret->kE
open Go.Value renaming slice->N,int->T,bool->O,ownBlock->H,slice->kO,pointer->kX,tuple->kD
open Go.World renaming cell?_setCell_other->J,cell?_of_block->C,ownsRow->kJ,ownsRow_nil->kB,block_lt_of_cell?->kS,cell?_setCell_same->kF,frozen?_of_block->kQ,frozen?_setCell->kZ
open Option renaming none->I,some->R
set_option maxHeartbeats 1000000
namespace Go.Proofs.YtdphiompijbelaaGreatDoor
open Go.RowKit
section
open Go.Sort
theorem yec {w:Y} {base base' size n:Nat} {e:TypeId} {v:M} {xs:List M} (h:w.ownsRow base e size v n xs) (hb:base'<=base):w.ownsRow base' e size v n xs:=
 ⟨h.1,h.2.imp id fun⟨g,cap,cur,e,k,r⟩=>⟨g,cap,cur,e,kL hb k,r⟩⟩
def yht (X:List Pg.Sp):Int:=match X.getLast? with
 | some s=>(s.level:Int)
 | none=>0
def yhr (X:List Pg.Sp):Pg.En:=match X.getLast? with
 | some s=>s.e
 | none=>Pg.En.zero
def tabs (X:List Pg.Sp):List Int:=X.map fun s=>s.table
def qz (X:List Pg.Sp):List Int:=X.map fun s=>(s.place:Int)
theorem jJ (X:List Pg.Sp) (s:Pg.Sp):yht (X++[s])=s.level:=by simp[yht]
theorem jI (X:List Pg.Sp) (s:Pg.Sp):yhr (X++[s])=s.e:=by simp[yhr]
theorem yeq (X:List Pg.Sp) (s:Pg.Sp):zv (tabs (X++[s]))=zv (tabs X)++[T Z s.table]:=by simp[tabs,zv]
theorem yed (X:List Pg.Sp) (s:Pg.Sp):zv (qz (X++[s]))=zv (qz X)++[T Z (s.place:Int)]:=by simp[qz,zv]
theorem xM (X:List Pg.Sp):(tabs X).length=X.length:=by simp[tabs]
theorem jZ (X:List Pg.Sp):(qz X).length=X.length:=by simp[qz]
structure qb (c:Nat) (lv:Int) (e:Pg.En) (v1 v2:M) (w:Y):Prop where
 c0:w.cell? ⟨c,0,I⟩=R (T Z lv)
 c1:w.cell? ⟨c,1,I⟩=R (O e.t)
 c2:w.cell? ⟨c,2,I⟩=R (O e.l)
 c3:w.cell? ⟨c,3,I⟩=R (T Z e.r)
 c4:w.cell? ⟨c,4,I⟩=R (O e.u)
 c5:w.cell? ⟨c,5,I⟩=R (O e.d)
 c6:w.cell? ⟨c,6,I⟩=R (T Z e.f)
 c7:w.cell? ⟨c,7,I⟩=R v1
 c8:w.cell? ⟨c,8,I⟩=R v2
 fz:∀o,w.frozen? ⟨c,o,I⟩=q
theorem qb.lb {c:Nat} {lv:Int} {e:Pg.En} {v1 v2:M} {w:Y} (h:qb c lv e v1 v2 w):c<w.heap.size:=kS _ _ h.c0
theorem qb.of_block {c:Nat} {lv:Int} {e:Pg.En} {v1 v2:M} {w w':Y} (h:qb c lv e v1 v2 w) (hk:w'.heap[c]?=w.heap[c]?):qb c lv e v1 v2 w':=
 ⟨(C hk).trans h.c0,(C hk).trans h.c1,(C hk).trans h.c2,(C hk).trans h.c3,(C hk).trans h.c4,(C hk).trans h.c5,(C hk).trans h.c6,(C hk).trans h.c7,(C hk).trans h.c8,fun o=>(kQ hk).trans (h.fz o)⟩
structure j7 (w0:Y) (bp c:Nat) (p:Int) (X:List Pg.Sp) (V:Nat->Prop) (w:Y):Prop where
 bel:Below w0.heap.size w0 w
 hi:w0.heap.size<=c
 pc:w.cell? ⟨bp,0,I⟩=R (T Z p)
 pb:bp<c
 var:∃v1 v2,qb c (yht X) (yhr X) v1 v2 w/\w.ownsRow (c+1) 3 1 v1 X.length (zv (tabs X))/\w.ownsRow (c+1) 3 1 v2 X.length (zv (qz X))/\(∀k,v1.ownBlock=R k->v2.ownBlock≠R k)/\V=fun k=>k=c\/v1.ownBlock=R k\/v2.ownBlock=R k
namespace j7
variable {w0:Y} {bp c:Nat} {p:Int} {X X':List Pg.Sp} {V:Nat->Prop} {w w':Y}
theorem grow (h:j7 w0 bp c p X V w) (hb:Below w.heap.size w w'):j7 w0 bp c p X V w':=by
 obtain⟨h1,h2,h3,h4,v1,v2,hs,o1,o2,hne,rfl⟩:=h;exact⟨h1.trans (hb.mono h1.size),h2,cell_later hb h3,h4,v1,v2,hs.of_block (hb.block c hs.lb),zr o1 hb,zr o2 hb,hne,rfl⟩
theorem lt (h:j7 w0 bp c p X V w) {k:Nat} (hk:V k):k<w.heap.size:=by
 obtain⟨h1,h2,h3,h4,v1,v2,hs,o1,o2,hne,rfl⟩:=h;rcases hk with rfl|hk|hk
 ·exact hs.lb
 ·exact(o1.lt k hk).2
 ·exact(o2.lt k hk).2
theorem fr {b:Nat} {S:Pg.Fs} {F:Nat->Prop} (hf:zh w0 b S F) (h:j7 w0 bp c p X V w):zh w b S F:=
 hf.keep (G:=fun k=>w0.heap.size<=k) (w':=w) ⟨h.bel.os,h.bel.tape,h.bel.output,h.bel.size,fun k hk _=>h.bel.block k hk⟩ (fun k hk=>by have:=hf.lt hk;omega)
end j7
theorem qb.set7 {c:Nat} {lv:Int} {e:Pg.En} {v1 v2:M} {w:Y} (h:qb c lv e v1 v2 w) (v:M):qb c lv e v v2 (w.setCell ⟨c,7,I⟩ v):=
 ⟨(J _ _ _ _ (by simp)).trans h.c0,(J _ _ _ _ (by simp)).trans h.c1,(J _ _ _ _ (by simp)).trans h.c2,(J _ _ _ _ (by simp)).trans h.c3,(J _ _ _ _ (by simp)).trans h.c4,(J _ _ _ _ (by simp)).trans h.c5,(J _ _ _ _ (by simp)).trans h.c6,kF _ _ _ h.c7,(J _ _ _ _ (by simp)).trans h.c8,fun o=>by rw[kZ];exact h.fz o⟩
theorem qb.set8 {c:Nat} {lv:Int} {e:Pg.En} {v1 v2:M} {w:Y} (h:qb c lv e v1 v2 w) (v:M):qb c lv e v1 v (w.setCell ⟨c,8,I⟩ v):=
 ⟨(J _ _ _ _ (by simp)).trans h.c0,(J _ _ _ _ (by simp)).trans h.c1,(J _ _ _ _ (by simp)).trans h.c2,(J _ _ _ _ (by simp)).trans h.c3,(J _ _ _ _ (by simp)).trans h.c4,(J _ _ _ _ (by simp)).trans h.c5,(J _ _ _ _ (by simp)).trans h.c6,(J _ _ _ _ (by simp)).trans h.c7,kF _ _ _ h.c8,fun o=>by rw[kZ];exact h.fz o⟩
structure ygC (c:Nat) (v:M) (W w3:Y) (g:Nat):Prop where
 but:But (fun k=>v.ownBlock=R k) W w3
 far:∀k,v.ownBlock=R k->c<k
 gc:c<g
 gl:g<w3.heap.size
 at':v.ownBlock=R g\/W.heap.size<=g
theorem ygq {c:Nat} {e:TypeId} {size n g:Nat} {v:M} {xs:List M} {W w3:Y} {o:Obj} (hl:W.ownsRow (c+1) e size v n xs) (hg:(W.alloc o).grownBy w3 v.ownBlock) (hat:v.ownBlock=R g\/g=W.heap.size+1) (hc:c<W.heap.size) (hlt:g<w3.heap.size):ygC c v W w3 g:=by
 refine⟨((But.refl _ W).alloc o).grown hg fun k hk=> .inr hk,fun k hk=>(hl.lt k hk).1,?_,hlt,hat.imp id fun h=>by omega⟩;rcases hat with h|h
 ·exact(hl.lt g h).1
 ·omega
theorem ydx {bp:Nat} (i lv:Nat) (p:Int) (hp:Pg.below p 4096=kP) (hl:lv<4) (w:Y) (hc:w.cell? ⟨bp,0,I⟩=R (T Z p)):
 Calls Tryz.prog 240 #[T Z (i:Int),T Z (lv:Int),kX (R ⟨bp,0,I⟩)] w fun e w'=>e= .returned (O (Pg.onW p i lv))/\w'=w:=by
 have HI:=vo p (lv:Int);rw[Pg.yh7 hp hl]at HI
 have HE:Hid (((i:Int)==((Pg.ix p lv:Nat):Int))=Pg.onW p i lv):=by
  rw[Hid,Bool.eq_iff_iff];simp only[Pg.onW,beq_iff_eq,decide_eq_true_eq];omega
 go_enter Tryz.func240,Tryz.ntmps240
 go_wp2_with fail
 refine(HI _).mono ?_;rintro e w1 ⟨rfl,rfl⟩
 go_wp2_with fail
 go_ret
 exact⟨xJ HE.out,rfl⟩
theorem ydX {w0:Y} {bp c:Nat} {p:Int} (s:Pg.Sp) (X:List Pg.Sp) (V:Nat->Prop) (w:Y) (hlen:X.length<4680) (hR:j7 w0 bp c p X V w):
 Calls Tryz.prog 242 #[s.val,kX (R ⟨c,0,I⟩)] w fun e w'=>e= .returned (kD #[])/\∃V',j7 w0 bp c p (X++[s]) V' w'/\But V w w'/\∀k,V' k->V k\/w.heap.size<=k:=by
 have HR:Hid _:=hR;obtain⟨hbel,hhi,hpc,hpb,v1,v2,hs,o1,o2,hne,hV⟩:=hR;have hcl:=hs.lb;obtain⟨c0,c1,c2,c3,c4,c5,c6,c7,c8,hfz⟩:=hs;obtain⟨q0,hq,hz0,hz1,hz2⟩:=info_parts jY;obtain⟨st,sp,sl,sa,⟨et,el,er,eu,ed,ef⟩⟩:=s;simp only[Pg.Sp.val]
 have hcw:c≠w.heap.size:=by omega
 have hwc:w.heap.size≠c:=by omega
 generalize yht X=xl at*;generalize yhr X=xe at*;clear hpc;have HO1:Hid (w.ownsRow (c+1) 3 1 v1 X.length (zv (tabs X))):=o1;have HO2:Hid (w.ownsRow (c+1) 3 1 v2 X.length (zv (qz X))):=o2;have HN:Hid _:=hne;clear hne o1 o2 hbel;obtain⟨W2,hW2⟩:∃W2,W2=((((((((w.setCell ⟨c,0,I⟩ (T Z (sl:Int))).setCell ⟨c,1,I⟩ (O et)).setCell ⟨c,2,I⟩ (O el)).setCell ⟨c,3,I⟩ (T Z er)).setCell ⟨c,4,I⟩ (O eu)).setCell ⟨c,5,I⟩ (O ed)).setCell ⟨c,6,I⟩ (T Z ef)).alloc (.cells #[T Z st,T Z (sp:Int),T Z (sl:Int),T Z (sa:Int),O et,O el,T Z er,O eu,O ed,T Z ef] 252)).drew:=⟨_,rfl⟩
 have hS2:qb c (sl:Int) ⟨et,el,er,eu,ed,ef⟩ v1 v2 W2:=by
  rw[hW2]
  refine⟨?_,?_,?_,?_,?_,?_,?_,?_,?_,fun o=> ?_⟩<;>simp[go_sem,c0,c1,c2,c3,c4,c5,c6,c7,c8,hfz,hcl]
 have hB2:But (fun k=>k=c) w W2:=by
  rw[hW2];exact(((((((((But.refl (fun k=>k=c) w).setCell (a:=⟨c,0,I⟩) (.inr rfl) _).setCell (a:=⟨c,1,I⟩) (.inr rfl) _).setCell (a:=⟨c,2,I⟩) (.inr rfl) _).setCell (a:=⟨c,3,I⟩) (.inr rfl) _).setCell (a:=⟨c,4,I⟩) (.inr rfl) _).setCell (a:=⟨c,5,I⟩) (.inr rfl) _).setCell (a:=⟨c,6,I⟩) (.inr rfl) _).alloc _).drew
 have x0:W2.cell? ⟨w.heap.size,0,I⟩=R (T Z st):=by rw[hW2];simp[go_sem]
 have x1:W2.cell? ⟨w.heap.size,1,I⟩=R (T Z (sp:Int)):=by rw[hW2];simp[go_sem]
 have HS2:Hid _:=hS2;have HB2:Hid _:=hB2;have HX1:Hid _:=x1
 have hown:W2.ownsRow (c+1) 3 1 v1 X.length (zv (tabs X)):=zb HO1.out hB2 fun k hk e=>by have:=(HO1.out.lt k hk).1;omega
 have hown2:W2.ownsRow (c+1) 3 1 v2 X.length (zv (qz X)):=zb HO2.out hB2 fun k hk e=>by have:=(HO2.out.lt k hk).1;omega
 have hl2:=hS2.lb;have hlw:w.heap.size<W2.heap.size:=kS _ _ x0;have d7:=hS2.c7;have hf2:=hS2.fz;have HOW2:Hid (W2.ownsRow (c+1) 3 1 v2 X.length (zv (qz X))):=hown2;clear hS2 hB2 hown2
 go_enter Tryz.func242,Tryz.ntmps242
 go_wp2_with fail
 go_region
 rw[<-hW2];clear hW2 c0 c1 c2 c3 c4 c5 c6 c7 c8 hfz
 go_wp2_with (first
  | (at_builtin;refine wpList_append_lies _ rfl _ _ 58 rfl (c+1) 3 q0 (T Z 0) 1 8 Tryz.underlying58 hq hz0 hz1 hz2 rfl (by decide) _ _ _ rfl (hown.alloc _) ⟨W2.heap.size,0,I⟩ 1 1 [T Z st] rfl rfl ?c1 ?c2 (by decide) ?c3 ?c4 ?c5 (W2.heap.size+1) (by simp) ?_))
 case c1=>
  intro j u hj
  match j,hj with
  | 0,hj=>simp at hj;subst hj;simp[Addr.add,go_sem]
 case c2=>intro u hu;simp at hu;subst hu;rfl
 case c3=>unfold maxLen;omega
 case c4=>omega
 case c5=>simp;omega
 intro g cap w3 hown3 hgrow hat hlt3;have G3:Hid _:=ygq hown hgrow hat hl2 hlt3
 have hblk:w3.heap[c]?=W2.heap[c]?:=G3.out.but.block c hl2 fun e=>by have:=G3.out.far c e;omega
 have S3:Hid _:=HS2.out.of_block hblk;have S4:Hid _:=S3.out.set7 (N (R ⟨g,0,I⟩) (X.length+1) cap);have e7:=S3.out.c7;have ef7:=S3.out.fz 7
 have B4:Hid (But (fun k=>k=c\/v1.ownBlock=R k) W2 (w3.setCell ⟨c,7,I⟩ (N (R ⟨g,0,I⟩) (X.length+1) cap))):=
  (G3.out.but.mono fun _ _ h=> .inr h).setCell (.inr (.inl rfl)) _
 have O4:Hid ((w3.setCell ⟨c,7,I⟩ (N (R ⟨g,0,I⟩) (X.length+1) cap)).ownsRow (c+1) 3 1 (N (R ⟨g,0,I⟩) (X.length+1) cap) (X.length+1) (zv (tabs X)++[T Z st])):=
  zc hown3 fun k hk=>Below.heap_setCell _ _ _ _ (fun e=>by have e1:g=k:=(by simpa[H]using hk);have:=G3.out.gc;have e2:k=c:=e;omega)
 have hown4:(w3.setCell ⟨c,7,I⟩ (N (R ⟨g,0,I⟩) (X.length+1) cap)).ownsRow (c+1) 3 1 v2 X.length (zv (qz X)):=
  zb HOW2.out B4.out fun k hk e=>by
   rcases e with e|e
   ·have:=(kJ.lt HOW2.out k hk).1;omega
   ·exact HN.out k e hk
 have hs3:=G3.out.but.size;have e8:=S3.out.c8;have ef8:=S3.out.fz 8
 have hv1:v1.ownBlock≠R w.heap.size:=fun e=>by have:=(kJ.lt HO1.out _ e).2;omega
 have y1:w3.cell? ⟨w.heap.size,1,I⟩=R (T Z (sp:Int)):=(G3.out.but.cell (a:=⟨w.heap.size,1,I⟩) hlw hv1).trans HX1.out
 have hl3:c<w3.heap.size:=by omega
 have hl4:w.heap.size<w3.heap.size:=by omega
 have hsz4:(w3.setCell ⟨c,7,I⟩ (N (R ⟨g,0,I⟩) (X.length+1) cap)).heap.size=w3.heap.size:=by simp
 clear hown hown3 hgrow hat hlt3 hblk x0 x1 d7 hf2
 go_wp2_with (first
  | (at_builtin;refine wpList_append_lies _ rfl _ _ 58 rfl (c+1) 3 q0 (T Z 0) 1 8 Tryz.underlying58 hq hz0 hz1 hz2 rfl (by decide) _ _ _ rfl (hown4.alloc _) ⟨w3.heap.size,0,I⟩ 1 1 [T Z (sp:Int)] rfl rfl ?d1 ?d2 (by decide) ?d3 ?d4 ?d5 (w3.heap.size+1) (by simp) ?_))
 case d1=>
  intro j u hj
  match j,hj with
  | 0,hj=>simp at hj;subst hj;simp[Addr.add,go_sem]
 case d2=>intro u hu;simp at hu;subst hu;rfl
 case d3=>unfold maxLen;omega
 case d4=>omega
 case d5=>simp;omega
 intro g5 cap5 w5 hown5 hgrow5 hat5 hlt5;have G5:Hid _:=ygq hown4 hgrow5 (by simpa using hat5) (by simp;omega) hlt5
 have hblk:w5.heap[c]?=_:=G5.out.but.block c (by simp;omega) fun e=>by have:=G5.out.far c e;omega
 have S5:Hid _:=S4.out.of_block hblk;have S6:Hid _:=S5.out.set8 (N (R ⟨g5,0,I⟩) (X.length+1) cap5);have k8:=S5.out.c8;have kf8:=S5.out.fz 8
 have hgg:g≠g5:=by
  have h1:=G3.out.gl;rcases G5.out.at' with h5|h5
  ·rcases G3.out.at' with h3|h3
   ·intro e;exact HN.out g h3 (e▸h5)
   ·have:=(kJ.lt HOW2.out g5 h5).2;omega
  ·rw[hsz4]at h5;omega
 have O6:Hid ((w5.setCell ⟨c,8,I⟩ (N (R ⟨g5,0,I⟩) (X.length+1) cap5)).ownsRow (c+1) 3 1 (N (R ⟨g5,0,I⟩) (X.length+1) cap5) (X.length+1) (zv (qz X)++[T Z (sp:Int)])):=
  zc hown5 fun k hk=>Below.heap_setCell _ _ _ _ (fun e=>by have e1:g5=k:=(by simpa[H]using hk);have:=G5.out.gc;have e2:k=c:=e;omega)
 have B6:Hid (But (fun k=>k=c\/v2.ownBlock=R k) (w3.setCell ⟨c,7,I⟩ (N (R ⟨g,0,I⟩) (X.length+1) cap)) (w5.setCell ⟨c,8,I⟩ (N (R ⟨g5,0,I⟩) (X.length+1) cap5))):=
  (G5.out.but.mono fun _ _ h=> .inr h).setCell (.inr (.inl rfl)) _
 have O7:Hid ((w5.setCell ⟨c,8,I⟩ (N (R ⟨g5,0,I⟩) (X.length+1) cap5)).ownsRow (c+1) 3 1 (N (R ⟨g,0,I⟩) (X.length+1) cap) (X.length+1) (zv (tabs X)++[T Z st])):=
  zb O4.out B6.out fun k hk e=>by
   have e1:g=k:=by simpa[H]using hk
   have:=G3.out.gc;rcases e with e|e
   ·omega
   ·rcases G3.out.at' with h3|h3
    ·exact HN.out g h3 (e1▸e)
    ·have:=(kJ.lt HOW2.out k e).2;omega
 have fin:Hid (∃V',j7 w0 bp c p (X++[⟨st,sp,sl,sa,⟨et,el,er,eu,ed,ef⟩⟩]) V' (w5.setCell ⟨c,8,I⟩ (N (R ⟨g5,0,I⟩) (X.length+1) cap5))/\But V w (w5.setCell ⟨c,8,I⟩ (N (R ⟨g5,0,I⟩) (X.length+1) cap5))/\∀k,V' k->V k\/w.heap.size<=k):=by
  have hBV:But V w (w5.setCell ⟨c,8,I⟩ (N (R ⟨g5,0,I⟩) (X.length+1) cap5)):=by
   rw[hV];refine((HB2.out.mono fun _ _ h=> .inl h).trans B4.out fun i _ h=> ?_).trans B6.out fun i _ h=> ?_
   ·exact h.imp id .inl
   ·exact h.imp id .inr
  have hVlo:∀k,V k->c<=k:=by
   rw[hV];rintro k (rfl|h|h)
   ·exact Nat.le_refl _
   ·have:=(kJ.lt HO1.out k h).1;omega
   ·have:=(kJ.lt HO2.out k h).1;omega
  have hbp:¬V bp:=fun h=>by have:=hVlo bp h;omega
  refine⟨_,⟨HR.out.bel.trans (hBV.below HR.out.bel.size fun k hk=>kL hhi (hVlo k hk)),hhi,?_,hpb,N (R ⟨g,0,I⟩) (X.length+1) cap,N (R ⟨g5,0,I⟩) (X.length+1) cap5,?_,?_,?_,?_,rfl⟩,hBV,fun k hk=> ?_⟩
  ·exact(hBV.cell (a:=⟨bp,0,I⟩) (by show bp<w.heap.size;omega) hbp).trans HR.out.pc
  ·rw[jJ,jI];exact S6.out
  ·rw[yeq,U,kU];exact O7.out
  ·rw[yed,U,kU];exact O6.out
  ·intro k hk hk'
   have e1:g=k:=by simpa[H]using hk
   have e2:g5=k:=by simpa[H]using hk'
   exact hgg (e1.trans e2.symm)
  ·rw[hV]
   rcases hk with rfl|hk|hk
   ·exact .inl (.inl rfl)
   ·have e1:g=k:=by simpa[H]using hk
    subst e1;rcases G3.out.at' with h3|h3
    ·exact .inl (.inr (.inl h3))
    ·exact .inr (by omega)
   ·have e1:g5=k:=by simpa[H]using hk
    subst e1;rcases G5.out.at' with h3|h3
    ·exact .inl (.inr (.inr h3))
    ·rw[hsz4]at h3;exact .inr (by omega)
 clear hown4 hown5 hgrow5 hat5 hlt5 hblk hgg e7 ef7 e8 ef8 y1
 go_wp2_with fail
 go_end0
 exact⟨rfl,fin.out⟩
theorem ybi:∀args w,(callFunc 240 args).run Tryz.prog w= .ok (.enter 240 args) w:=fun args w=>by simp[go_sem]
theorem ybj:∀args w,(callFunc 242 args).run Tryz.prog w= .ok (.enter 242 args) w:=fun args w=>by simp[go_sem]
theorem yde {b:Nat} {S:Pg.Fs} {F:Nat->Prop} {w0:Y} {bp c:Nat} {p:Int} (hp:Pg.below p 4096=kP) (h:zh w0 b S F):
 ybV b S F 240 242 #[kX (R ⟨bp,0,I⟩)] #[kX (R ⟨c,0,I⟩)] (Pg.onW p) (j7 w0 bp c p):=
 ⟨ybi,ybj,fun _ _ _ hR=>hR.fr h,fun _ _ _ hR _ hk=>hR.lt hk,fun _ _ _ _ hR hb=>hR.grow hb,
  fun i lv _ _ w _ hl hR=>zV (ydx i lv p hp hl w hR.pc),fun s X V w _ _ _ hl hR=>ydX s X V w hl hR⟩
def zj (S:Pg.Fs) (t p:Int):List Pg.Sp:=if Pg.below p 4096=kP/\(Pg.thr S (Pg.onW p) 3 t 0).2=0 then(Pg.thr S (Pg.onW p) 3 t 0).1 else []
def xG (S:Pg.Fs) (t p:Int):Int:=if Pg.below p 4096=kP then(Pg.thr S (Pg.onW p) 3 t 0).2 else 1
def ybB (X:List Pg.Sp) (v1 v2:M):M:= .agg #[T Z (yht X),O (yhr X).t,O (yhr X).l,T Z (yhr X).r,O (yhr X).u,O (yhr X).d,T Z (yhr X).f,v1,v2]
theorem yfU {w w':Y} {b:Nat} {v0 v1 v2 v3 v4 v5 v6 v7 v8:M} (hk:w'.heap[b]?=w.heap[b]?)
 (h:w.cell? ⟨b,0,I⟩=R v0/\w.cell? ⟨b,1,I⟩=R v1/\w.cell? ⟨b,2,I⟩=R v2/\w.cell? ⟨b,3,I⟩=R v3/\w.cell? ⟨b,4,I⟩=R v4/\w.cell? ⟨b,5,I⟩=R v5/\w.cell? ⟨b,6,I⟩=R v6/\w.cell? ⟨b,7,I⟩=R v7/\w.cell? ⟨b,8,I⟩=R v8):
 w'.cell? ⟨b,0,I⟩=R v0/\w'.cell? ⟨b,1,I⟩=R v1/\w'.cell? ⟨b,2,I⟩=R v2/\w'.cell? ⟨b,3,I⟩=R v3/\w'.cell? ⟨b,4,I⟩=R v4/\w'.cell? ⟨b,5,I⟩=R v5/\w'.cell? ⟨b,6,I⟩=R v6/\w'.cell? ⟨b,7,I⟩=R v7/\w'.cell? ⟨b,8,I⟩=R v8:=
 ⟨(C hk).trans h.1,(C hk).trans h.2.1,(C hk).trans h.2.2.1,(C hk).trans h.2.2.2.1,(C hk).trans h.2.2.2.2.1,(C hk).trans h.2.2.2.2.2.1,(C hk).trans h.2.2.2.2.2.2.1,(C hk).trans h.2.2.2.2.2.2.2.1,(C hk).trans h.2.2.2.2.2.2.2.2⟩
theorem ycD {F:Nat->Prop} {w w1:Y} (h:But F w w1) (r:Nat) (hr:w.heap.size<=r\/F r) (x0 x1 x2 x3 x4 x5 x6 x7 x8:M):
 But F w (((((((((w1.setCell ⟨r,0,I⟩ x0).setCell ⟨r,1,I⟩ x1).setCell ⟨r,2,I⟩ x2).setCell ⟨r,3,I⟩ x3).setCell ⟨r,4,I⟩ x4).setCell ⟨r,5,I⟩ x5).setCell ⟨r,6,I⟩ x6).setCell ⟨r,7,I⟩ x7).setCell ⟨r,8,I⟩ x8):=
 ((((((((h.setCell (a:=⟨r,0,I⟩) hr x0).setCell (a:=⟨r,1,I⟩) hr x1).setCell (a:=⟨r,2,I⟩) hr x2).setCell (a:=⟨r,3,I⟩) hr x3).setCell (a:=⟨r,4,I⟩) hr x4).setCell (a:=⟨r,5,I⟩) hr x5).setCell (a:=⟨r,6,I⟩) hr x6).setCell (a:=⟨r,7,I⟩) hr x7).setCell (a:=⟨r,8,I⟩) hr x8
theorem yeu {b:Nat} {S:Pg.Fs} {F:Nat->Prop} (t p:Int) (w:Y) (h:zh w b S F):
 Calls Tryz.prog 206 #[kX (R ⟨b,0,I⟩),T Z t,T Z p] w fun e w'=>∃v1 v2,e= .returned (kD #[ybB (zj S t p) v1 v2,T Z (xG S t p)])/\w'.ownsRow w.heap.size 3 1 v1 (zj S t p).length (zv (tabs (zj S t p)))/\w'.ownsRow w.heap.size 3 1 v2 (zj S t p).length (zv (qz (zj S t p)))/\(∀k,v1.ownBlock=R k->v2.ownBlock≠R k)/\Below w.heap.size w w':=by
 have HH:=zN p;cases hp:Pg.below p 4096
 ·have e1:zj S t p=[]:=by simp[zj,hp]
  have e2:xG S t p=1:=by simp[xG,hp]
  rw[e1,e2];rw[hp]at HH;clear h e1 e2
  go_enter Tryz.func206,Tryz.ntmps206
  go_wp2_with fail
  refine(HH _).mono ?_;rintro e w1 ⟨rfl,rfl⟩
  go_wp2_with fail
  refine kE (v:=kD #[ybB [] (N I 0 0) (N I 0 0),T Z 1]) ?_ rfl ⟨N I 0 0,N I 0 0,rfl,kB _ _ _ _,kB _ _ _ _,fun k hk=>by simp[H]at hk,?_⟩
  ·simp[results,Tryz.results206,go_sem,ybB,yht,yhr,Pg.En.zero]
  ·exact zA (zA (zR w) _) _
 ·have e2:xG S t p=(Pg.thr S (Pg.onW p) 3 t 0).2:=by simp[xG,hp]
  have e1:zj S t p=if (Pg.thr S (Pg.onW p) 3 t 0).2=0 then(Pg.thr S (Pg.onW p) 3 t 0).1 else []:=by simp[zj,hp]
  rw[e1,e2];rw[hp]at HH;obtain⟨W,hW⟩:∃W,W=((w.alloc (.cells #[T Z p] 3)).alloc (.cells #[T Z 0,O q,O q,T Z 0,O q,O q,T Z 0,N I 0 0,N I 0 0] 244)).alloc (.cells #[T Z 0,O q,O q,T Z 0,O q,O q,T Z 0,N I 0 0,N I 0 0] 244):=⟨_,rfl⟩
  have hB:Below w.heap.size w W:=by rw[hW];exact zA (zA (zA (zR w) _) _) _
  have hK:j7 w w.heap.size (w.heap.size+2) p [] (fun k=>k=w.heap.size+2\/(kO I 0 0).ownBlock=R k\/(kO I 0 0).ownBlock=R k) W:=by
   refine⟨hB,by omega,by rw[hW];simp[go_sem],by omega,N I 0 0,N I 0 0,?_,kB _ _ _ _,kB _ _ _ _,fun k hk=>by simp[H]at hk,rfl⟩;rw[hW]
   refine⟨?_,?_,?_,?_,?_,?_,?_,?_,?_,fun o=> ?_⟩<;>simp[go_sem,yht,yhr,Pg.En.zero]
  have HC:Hid _:=yaR (yde hp h) t _ W hK
  have hres:W.cell? ⟨w.heap.size+1,0,I⟩=R (T Z 0)/\W.cell? ⟨w.heap.size+1,1,I⟩=R (O q)/\W.cell? ⟨w.heap.size+1,2,I⟩=R (O q)/\W.cell? ⟨w.heap.size+1,3,I⟩=R (T Z 0)/\W.cell? ⟨w.heap.size+1,4,I⟩=R (O q)/\W.cell? ⟨w.heap.size+1,5,I⟩=R (O q)/\W.cell? ⟨w.heap.size+1,6,I⟩=R (T Z 0)/\W.cell? ⟨w.heap.size+1,7,I⟩=R (N I 0 0)/\W.cell? ⟨w.heap.size+1,8,I⟩=R (N I 0 0):=by rw[hW];simp[go_sem]
  have hrf:∀o,W.frozen? ⟨w.heap.size+1,o,I⟩=q:=fun o=>by rw[hW];simp[go_sem]
  have HRS:Hid _:=hres;have HRF:Hid _:=hrf
  have hWs:W.heap.size=w.heap.size+3:=by rw[hW];simp
  clear h hK hB e1 e2 hres hrf hp;generalize Pg.thr S (Pg.onW p) 3 t 0=th at*
  go_enter Tryz.func206,Tryz.ntmps206
  go_wp2_with fail
  refine(HH _).mono ?_;rintro e w1 ⟨rfl,rfl⟩
  go_wp2_with fail
  rw[<-hW];refine Calls.mono HC.out ?_;rintro e w1 ⟨rfl,V1,hK1,hb1,hn1⟩;have HB:Hid (Below w.heap.size w w1):=hK1.bel
  have hblk:w1.heap[w.heap.size+1]?=W.heap[w.heap.size+1]?:=hb1.block _ (by omega) fun e=>by
   rcases e with e|e|e
   ·omega
   ·simp[H]at e
   ·simp[H]at e
  have R1:Hid _:=yfU hblk HRS.out;have F1:∀o,w1.frozen? ⟨w.heap.size+1,o,I⟩=q:=fun o=>(kQ hblk).trans (HRF.out o);have hl1:w.heap.size+1<w1.heap.size:=kS _ _ R1.out.1;obtain⟨r0,r1,r2,r3,r4,r5,r6,r7,r8⟩:=R1.out;clear hb1 hn1 hblk
  by_cases hc:th.2=0
  ·have hcb:(th.2 !=0)=q:=by simp[hc]
   obtain⟨v1,v2,hs,o1,o2,hne,_⟩:=hK1.var;obtain⟨a1,c1,rfl⟩:=zF o1;obtain⟨a2,c2,rfl⟩:=zF o2;have HNE:Hid (∀k,(kO a1 th.1.length c1).ownBlock=R k->(kO a2 th.1.length c2).ownBlock≠R k):=hne;clear hne;have O1:Hid (w1.ownsRow (w.heap.size+2+1) 3 1 (N a1 th.1.length c1) th.1.length (zv (tabs th.1))):=o1;have O2:Hid (w1.ownsRow (w.heap.size+2+1) 3 1 (N a2 th.1.length c2) th.1.length (zv (qz th.1))):=o2;have HC0:Hid _:=hc;obtain⟨s0,s1,s2,s3,s4,s5,s6,s7,s8,_⟩:=hs;clear hK1 o1 o2 hc;have HV:Hid (ybB th.1 (N a1 th.1.length c1) (N a2 th.1.length c2)= .agg #[T Z (yht th.1),O (yhr th.1).t,O (yhr th.1).l,T Z (yhr th.1).r,O (yhr th.1).u,O (yhr th.1).d,T Z (yhr th.1).f,N a1 th.1.length c1,N a2 th.1.length c2]):=rfl
   go_wp2_with fail
   refine kE (v:=kD #[ybB th.1 (N a1 th.1.length c1) (N a2 th.1.length c2),T Z 0]) ?_ rfl ?_
   ·rw[HV.out]
    simp[results,Tryz.results206,go_sem,r0,r1,r2,r3,r4,r5,r6,r7,r8]
   ·have hbt:=ycD (But.refl (fun k=>k=w.heap.size+1) w1) (w.heap.size+1) (.inr rfl) (T Z (yht th.1)) (O (yhr th.1).t) (O (yhr th.1).l) (T Z (yhr th.1).r) (O (yhr th.1).u) (O (yhr th.1).d) (T Z (yhr th.1).f) (N a1 th.1.length c1) (N a2 th.1.length c2)
    refine⟨N a1 th.1.length c1,N a2 th.1.length c2,rfl,?_,?_,HNE.out,?_⟩
    ·exact yec (zb O1.out hbt fun k hk e=>by have:=(kJ.lt O1.out k hk).1;omega) (by omega)
    ·exact yec (zb O2.out hbt fun k hk e=>by have:=(kJ.lt O2.out k hk).1;omega) (by omega)
    ·exact HB.out.trans (hbt.below HB.out.size fun k hk=>by omega)
  ·have hcb:(th.2 !=0)=kP:=by simp[hc]
   have HC0:Hid _:=hc;clear hK1 hc
   go_wp2_with fail
   refine kE (v:=kD #[ybB [] (N I 0 0) (N I 0 0),T Z th.2]) ?_ rfl ?_
   ·simp[results,Tryz.results206,go_sem,r0,r1,r2,r3,r4,r5,r6,r7,r8,ybB,yht,yhr,Pg.En.zero]
   ·have hbt:=ycD (But.refl (fun k=>k=w.heap.size+1) w1) (w.heap.size+1) (.inr rfl) (T Z 0) (O q) (O q) (T Z 0) (O q) (O q) (T Z 0) (N I 0 0) (N I 0 0)
    exact⟨N I 0 0,N I 0 0,rfl,kB _ _ _ _,kB _ _ _ _,fun k hk=>by simp[H]at hk,HB.out.trans (hbt.below HB.out.size fun k hk=>by omega)⟩
end
def lastT (X:List Pg.Sp):Int:=match X.getLast? with
 | some s=>s.table
 | none=>0
namespace Pg
def tFC (S:Fs) (t p:Int):Int:=if xG S t p≠0 then xG S t p else if (yhr (zj S t p)).t=kP then 0 else 5
def tFM (S:Fs) (t p:Int):Mp:=if tFC S t p=0 then(yhr (zj S t p)).map (yht (zj S t p)) p else .zz
def tFE (S:Fs) (t p:Int):En:=if tFC S t p=0 then yhr (zj S t p)else En.zero
def insC (S:Fs) (t:Int) (m:Mp):Int:=
 if m.code≠0 then m.code else if xG S t m.p≠0 then xG S t m.p
 else if (yhr (zj S t m.p)).t=kP\/yht (zj S t m.p)<m.s then 4 else if S.free<yht (zj S t m.p)-m.s then 6 else 0
def insW (p s:Int):Nat->Fs->Int->Fs×Int
 | 0,S,t=>(S,t)
 | lv+1,S,t=>if ((lv+1:Nat):Int)<=s then(S,t)else insW p s lv (S.take.store t (index p ((lv+1:Nat):Int)) (enc kP q 7 q q S.takeN ((lv+1:Nat):Int))) S.takeN
def insS (S:Fs) (t:Int) (m:Mp):Fs:=if insC S t m=0 then
 (insW m.p m.s (yht (zj S t m.p)).toNat S (lastT (zj S t m.p))).1.store (insW m.p m.s (yht (zj S t m.p)).toNat S (lastT (zj S t m.p))).2 (index m.p m.s) (enc kP kP m.r q q m.f m.s)else S
def yhx (S:Fs) (t:Int):Bool:=(List.range 8).all fun i=>S.word t.toNat i==0
def rmW (p:Int) (ts:List Int):Nat->Fs->List Int->Fs×List Int
 | 0,S,G=>(S,G)
 | k+1,S,G=>if k=0\/yhx (S.store (ts.getD k 0) (index p (3-(k:Int))) 0) (ts.getD k 0)=q then(S.store (ts.getD k 0) (index p (3-(k:Int))) 0,G)
   else rmW p ts k (S.store (ts.getD k 0) (index p (3-(k:Int))) 0) (G++[ts.getD k 0])
def rmR (S:Fs) (t p:Int):Fs×List Int:=if tFC S t p=0 then rmW p (tabs (zj S t p)) (zj S t p).length S []else(S,[])
def prC (S:Fs) (t p r:Int):Int:=if r<0\/7<r then 1 else tFC S t p
def prM (S:Fs) (t p r:Int):Mp:=if prC S t p r=0 then(tFM S t p).rts r else .zz
def prS (S:Fs) (t p r:Int):Fs:=if prC S t p r=0 then
 S.store (lastT (zj S t p)) (index p (yht (zj S t p))) (enc (yhr (zj S t p)).t (yhr (zj S t p)).l r (yhr (zj S t p)).u (yhr (zj S t p)).d (yhr (zj S t p)).f (yht (zj S t p)))else S
theorem ylg (S:Fs) (p:Int):∀(lv:Nat) (t:Int) (a:Nat),(∀s,s ∈ (thr S (onW p) lv t a).1->S.has s.table=kP)/\
 ((thr S (onW p) lv t a).2=0->∃s,(thr S (onW p) lv t a).1.getLast?=R s/\s.level+(thr S (onW p) lv t a).1.length=lv+1/\s.e=rEn S s.table (ix p s.level) s.level/\yhu S s.table (ix p s.level) s.level=0/\s.e.on=q):=by
 intro lv
 induction lv with
 | zero=>
   intro t a;rw[yhK];split
   ·rename_i h1
    exact⟨fun s hs=>by simp at hs,fun h=>absurd h h1⟩
   ·rename_i h1
    have h1:yhu S t (ix p 0) 0=0:=by simpa using h1
    split
    ·rename_i h2
     refine⟨fun s hs=> ?_,fun _=>⟨spt S t (ix p 0) 0 a,rfl,rfl,rfl,h1,h2⟩⟩;simp at hs;subst hs;exact yhw h1
    ·rename_i h2
     obtain⟨m,hm⟩:=yhM (S:=S) (t:=t) (i:=ix p 0) (lv:=0) (by simpa using h2);omega
 | succ lv ih=>
   intro t a;rw[yhK];split
   ·rename_i h1
    exact⟨fun s hs=>by simp at hs,fun h=>absurd h h1⟩
   ·rename_i h1
    have h1:yhu S t (ix p (lv+1)) (lv+1)=0:=by simpa using h1
    split
    ·rename_i h2
     refine⟨fun s hs=> ?_,fun _=>⟨spt S t (ix p (lv+1)) (lv+1) a,rfl,rfl,rfl,h1,h2⟩⟩;simp at hs;subst hs;exact yhw h1
    ·rename_i h2
     obtain⟨i1,i2⟩:=ih (rEn S t (ix p (lv+1)) (lv+1)).f ((a+ix p (lv+1))*8);refine⟨fun s hs=> ?_,fun hz=> ?_⟩
     ·simp at hs
      rcases hs with rfl|hs
      ·exact yhw h1
      ·exact i1 s hs
     ·obtain⟨s,j1,j2,j3⟩:=i2 hz
      refine⟨s,?_,?_,j3⟩
      ·simp only[sub]
       rw[List.getLast?_cons,j1];rfl
      ·simp only[sub,List.length_cons]
       omega
structure Way (S:Fs) (t p:Int) (X:List Sp) (lv:Nat) (e:En) (tl:Int):Prop where
 below:below p 4096=kP
 has:∀x,x ∈ tabs X->S.has x=kP
 len:lv+X.length=4
 yht:yht X=(lv:Int)
 yhr:yhr X=e
 lastT:lastT X=tl
 hasT:S.has tl=kP
 en:e=rEn S tl (ix p lv) lv
 code:yhu S tl (ix p lv) lv=0
 on:e.on=q
theorem ylh {S:Fs} {t p:Int} (h:xG S t p=0):∃lv e tl,Way S t p (zj S t p) lv e tl:=by
 have hp:Pg.below p 4096=kP:=by
  cases hp:Pg.below p 4096
  ·simp[xG,hp]at h
  ·rfl
 have hz:(thr S (onW p) 3 t 0).2=0:=by simpa[xG,hp]using h
 have eX:zj S t p=(thr S (onW p) 3 t 0).1:=by simp[zj,hp,hz]
 obtain⟨h1,h2⟩:=ylg S p 3 t 0;obtain⟨s,j1,j2,j3,j4,j5⟩:=h2 hz;have hs:s ∈ (thr S (onW p) 3 t 0).1:=kM j1;refine⟨s.level,s.e,s.table,hp,fun x hx=> ?_,?_,?_,?_,?_,h1 s hs,?_,?_,j5⟩
 ·rw[eX]at hx
  simp only[tabs,List.mem_map]at hx;obtain⟨s',hs',rfl⟩:=hx;exact h1 s' hs'
 ·rw[eX];exact j2
 ·rw[eX];unfold Go.Proofs.YtdphiompijbelaaGreatDoor.yht;rw[j1]
 ·rw[eX];unfold Go.Proofs.YtdphiompijbelaaGreatDoor.yhr;rw[j1]
 ·rw[eX];unfold Go.Proofs.YtdphiompijbelaaGreatDoor.lastT;rw[j1]
 ·exact j3
 ·exact j4
theorem yiq (S:Fs) (t i v:Int):(S.store t i v).n=S.n/\(S.store t i v).used=S.used/\(S.store t i v).back=S.back/\(S.store t i v).next=S.next:=by
 unfold Fs.store
 split<;>exact⟨rfl,rfl,rfl,rfl⟩
theorem yit (S:Fs) (t i v x:Int):(S.store t i v).has x=S.has x:=by
 unfold Fs.has Fs.inn;rw[(yiq S t i v).2.1]
theorem yj8 (S:Fs) (t i v:Int):(S.store t i v).free=S.free:=by
 obtain⟨h1,_,h3,h4⟩:=yiq S t i v;unfold Fs.free;rw[h1,h3,h4]
theorem take_some {S:Fs} (h:S.Ok) (hf:0<S.free):∃k:Nat,S.pick=R k/\S.takeN=(k:Int)/\k<S.n/\S.take.has (k:Int)=kP/\(∀x,S.has x=kP->S.take.has x=kP)/\S.take.free=S.free-1/\S.take.n=S.n:=by
 unfold Fs.free at hf;have ht:=h.top;unfold Fs.takeN Fs.pick Fs.take Fs.has Fs.inn Fs.free
 cases hb:S.back.getLast? with
 | some k=>
   have hl:S.back=S.back.dropLast++[k]:=by
    obtain⟨l,hl⟩:=List.getLast?_eq_some_iff.1 hb;simp[hl]
   have hlen:S.back.length=S.back.dropLast.length+1:=by
    have:=congrArg List.length hl
    simpa using this
   have hk:k<S.n:=by
    have:=h.ylm (kM hb);omega
   refine⟨k,rfl,rfl,hk,by simp,fun x hx=> ?_,?_,rfl⟩
   ·simp at hx ⊢
    exact⟨hx.1,.inr hx.2⟩
   ·simp only
    omega
 | none=>
   have hbn:S.back=[]:=by simpa using hb
   rw[hbn]at hf;simp at hf
   have hlt:S.next<S.n:=by omega
   simp only[hlt,if_true];refine⟨S.next,rfl,rfl,hlt,by simp,fun x hx=> ?_,?_,trivial⟩
   ·simp at hx ⊢
    exact⟨hx.1,.inr hx.2⟩
   ·omega
theorem enc_bd (t l:Bool) (r:Int) (u d:Bool) (f lv:Int):0<=enc t l r u d f lv/\enc t l r u d f lv<18446744073709551616:=by
 unfold enc;split
 ·rename_i h
  obtain⟨_,hc⟩:=yhA h;unfold yi1 b01;rcases hc with ⟨rfl,_⟩|⟨rfl,r0,r1,f0,f1,_⟩
  ·simp
  ·simp only[if_true]
   split<;>split<;>split<;>omega
 ·omega
end Pg
section
open Go.Sort
variable {P:Program}
theorem xK (w:Y) (dT sT ty elem:TypeId) (size g o dLen dCap:Nat) (a:Addr) (sLen sCap:Nat) (cur:Array M) (t:TypeId) (cs:List M)
 (hu:P.underlying dT=R (.slice elem)) (hs:(P.info? elem).map (·.size)=R size)
 (hg:w.heap[g]?=R (.cells cur t (0,0))) (hn:cs.length=ky sLen dLen*size)
 (hsrc:∀j v,cs[j]?=R v->w.cell? (a.add j)=R v) (hfit:o+cs.length<=cur.size) (h1:∀v ∈ cs,v.oneCell'=kP):
 (Builtin.copy_ #[dT,sT] ty #[N (R ⟨g,o,I⟩) dLen dCap,N (R a) sLen sCap]).run P w=
   .ok (goInt (ky sLen dLen)) (w.setRow g (cur.toList.take o++cs++cur.toList.drop (o+cs.length)).toArray):=by
 have hf:=run_firstCells_some (P:=P) w size (ky sLen dLen) a sLen sCap cs hn hsrc;have hst:=run_storeCells_at P g o t cs 0 cur w hg (by simpa using hfit) h1
 cases hq:P.info? elem with
 | none=>simp[hq]at hs
 | some i=>
   have hi:i.size=size:=by simpa[hq]using hs
   simp[Builtin.copy_,run_underlying hu,Builtin.lenOf,sizeOf,typeInfo,hq,hi,hf,hst]
theorem xX (w:Y) (t e ty t':TypeId) (z:M) (ht:P.underlying t=R (.slice e)) (hv:∀w,(zeroValue e).run P w= .ok z w) (g o n c:Nat) (hn:0<n) (cur:Array M)
 (hg:w.heap[g]?=R (.cells cur t' (0,0))) (hfit:o+n*z.cells.size<=cur.size) (h1:∀v ∈ (Builtin.zeroCells z.cells n).toList,v.oneCell'=kP):
 (Builtin.clear_ #[t] ty #[N (R ⟨g,o,I⟩) n c]).run P w= .ok (kD #[]) (w.setRow g (cur.toList.take o++(Builtin.zeroCells z.cells n).toList++cur.toList.drop (o+n*z.cells.size)).toArray):=by
 have hl:(Builtin.zeroCells z.cells n).toList.length=n*z.cells.size:=by simp[size_zeroCells]
 have hst:=run_storeCells_at P g o t' (Builtin.zeroCells z.cells n).toList 0 cur w hg (by rw[hl];simpa using hfit) h1;rw[hl]at hst;simp only[kG]at hst;obtain⟨m,rfl⟩:∃m,n=m+1:=⟨n-1,by omega⟩;simp[Builtin.clear_,run_underlying ht,hv,hst]
theorem ya1 (w:Y) {o:Oper} {a:Act} {K:Act->Y->Prop} {Q:Exit->Act->Y->Prop} (d s:Operand) (t t':TypeId)
 (ho:o.op= .call {callee:= .builtin .copy,args:=#[d,s],argTypes:=#[t,t']}) (v u:M) (hd:a.eval d=v) (hs:a.eval s=u) {v':M} {w':Y}
 (hr:(Builtin.copy_ #[t,t'] o.type #[v,u]).run P w= .ok v' w') (h:K (a.put o.dst v') w'):o.wp P a w K Q:=by
 unfold Oper.wp execOp;simp only[ho,resolve,invoke,builtin,Sem.run_bind,Sem.run_pure,Result.andThen_ok,kA,kH,kW,hd,hs,hr];exact h
theorem qp (w:Y) {ops:Array Oper} {rest:List Oper} {o:Oper} {a:Act} {Q:Exit->Act->Y->Prop} (hgd:o.guard=I) (d s:Operand) (t t':TypeId)
 (ho:o.op= .call {callee:= .builtin .copy,args:=#[d,s],argTypes:=#[t,t']}) (v u:M) (hd:a.eval d=v) (hs:a.eval s=u) {v':M} {w':Y}
 (hr:(Builtin.copy_ #[t,t'] o.type #[v,u]).run P w= .ok v' w') (h:wpList P ops Q rest (a.put o.dst v') w'):wpList P ops Q (o::rest) a w:=
 wpList_plain hgd fun _ hK=>ya1 w d s t t' ho v u hd hs hr (hK _ _ h)
theorem qM {ops:Array Oper} {o:Oper} {a:Act} {w:Y} {K:Act->Y->Prop} {Q:Exit->Act->Y->Prop} {E:Prop}
 (hg:o.guard=I) (d x:Operand) (dT sT:TypeId) (hop:o.op=Op.call {callee:=Callee.builtin Builtin.copy,args:=#[d,x],argTypes:=#[dT,sT]})
 (v u:M) (hd:a.eval d=v) (hx:a.eval x=u) {v':M} {w':Y} (hr:(Builtin.copy_ #[dT,sT] o.type #[v,u]).run P w= .ok v' w') (hK:K (a.put o.dst v') w'):
 if Region.wanted o (yielded ops a.tmps)=kP then Oper.wp P o a w K Q else E:=by
 have hw:Region.wanted o (yielded ops a.tmps)=kP:=by simp[Region.wanted,hg]
 rw[if_pos hw];unfold Oper.wp;simp[execOp,hop,resolve,invoke,builtin,hd,hx,hr,Result.andThen];exact hK
theorem zY {ops:Array Oper} {o:Oper} {a:Act} {w:Y} {K:Act->Y->Prop} {Q:Exit->Act->Y->Prop} {E:Prop}
 (hg:o.guard=I) (d x:Operand) (dT sT:TypeId) (hop:o.op=Op.call {callee:=Callee.builtin Builtin.append,args:=#[d,x],argTypes:=#[dT,sT]})
 (v u:M) (hd:a.eval d=v) (hx:a.eval x=u) {v':M} {w':Y} (hr:(Builtin.append_ #[dT,sT] o.type #[v,u]).run P w= .ok v' w') (hK:K (a.put o.dst v') w'):
 if Region.wanted o (yielded ops a.tmps)=kP then Oper.wp P o a w K Q else E:=by
 have hw:Region.wanted o (yielded ops a.tmps)=kP:=by simp[Region.wanted,hg]
 rw[if_pos hw];unfold Oper.wp;simp[execOp,hop,resolve,invoke,builtin,hd,hx,hr,Result.andThen];exact hK
theorem yae (w:Y) {o:Oper} {a:Act} {K:Act->Y->Prop} {Q:Exit->Act->Y->Prop} (d:Operand) (t:TypeId)
 (ho:o.op= .call {callee:= .builtin .clear,args:=#[d],argTypes:=#[t]}) (v:M) (hd:a.eval d=v) {v':M} {w':Y}
 (hr:(Builtin.clear_ #[t] o.type #[v]).run P w= .ok v' w') (h:K (a.put o.dst v') w'):o.wp P a w K Q:=by
 unfold Oper.wp execOp;simp only[ho,resolve,invoke,builtin,Sem.run_bind,Sem.run_pure,Result.andThen_ok,kA,kH,kW,hd,hr];exact h
theorem zp (w:Y) {ops:Array Oper} {rest:List Oper} {o:Oper} {a:Act} {Q:Exit->Act->Y->Prop} (hgd:o.guard=I) (d:Operand) (t:TypeId)
 (ho:o.op= .call {callee:= .builtin .clear,args:=#[d],argTypes:=#[t]}) (v:M) (hd:a.eval d=v) {v':M} {w':Y}
 (hr:(Builtin.clear_ #[t] o.type #[v]).run P w= .ok v' w') (h:wpList P ops Q rest (a.put o.dst v') w'):wpList P ops Q (o::rest) a w:=
 wpList_plain hgd fun _ hK=>yae w d t ho v hd hr (hK _ _ h)
theorem But.setRow {F:Nat->Prop} {w w1:Y} (h:But F w w1) {g:Nat} (ha:w.heap.size<=g\/F g) (cs:Array M):But F w (w1.setRow g cs):=
 ⟨h.os,h.tape,h.output,by simpa using h.size,fun i hi hF=>by
  rw[setRow_other _ _ _ _ (fun e=>by subst e;exact ha.elim (fun h'=>by omega) hF)]
  exact h.block i hi hF⟩
theorem ydp {c xs news:List M} {z n k:Nat} (hk:k<=n) (hc:(n+1)*z<=c.length) (hx:c.take (n*z)=xs) (hn:news.length=z):
 let c1:=c.take ((k+1)*z)++xs.drop (k*z)++c.drop ((k+1)*z+(xs.drop (k*z)).length)
 (c1.take (k*z)++news++c1.drop (k*z+news.length)).take ((n+1)*z)=xs.take (k*z)++news++xs.drop (k*z):=by
 intro c1
 have e1:(n+1)*z=n*z+z:=by rw[kN,kY]
 have e2:(k+1)*z=k*z+z:=by rw[kN,kY]
 have e3:k*z<=n*z:=kT _ hk
 have hxl:xs.length=n*z:=by rw[<-hx,kI];omega
 have hd:(xs.drop (k*z)).length=n*z-k*z:=by rw[kV,hxl]
 have ht:(c.take ((k+1)*z)).length=k*z+z:=by rw[kI];omega
 have h1:c1.take (k*z)=xs.take (k*z):=by
  show(c.take ((k+1)*z)++xs.drop (k*z)++_).take (k*z)=_
  rw[kC,D (by omega),kK,<-hx,kK]
  congr 1
  omega
 have h2:c1.drop (k*z+news.length)=xs.drop (k*z)++c.drop ((k+1)*z+(xs.drop (k*z)).length):=by
  show(c.take ((k+1)*z)++xs.drop (k*z)++_).drop (k*z+news.length)=_
  rw[kC,List.drop_append_of_le_length (by omega),kR (by omega),List.nil_append]
 have hp:(xs.take (k*z)).length=k*z:=by rw[kI];omega
 rw[h1,h2,<-kC,D (by simp only[U,hp,hd,hn];omega),y (by simp only[U,hp,hd,hn];omega)]
theorem ycI {c xs zs:List M} {z n k:Nat} (hk:k<n) (hc:n*z<=c.length) (hx:c.take (n*z)=xs):
 let c1:=c.take (k*z)++xs.drop ((k+1)*z)++c.drop (k*z+(xs.drop ((k+1)*z)).length)
 (c1.take ((n-1)*z)++zs++c1.drop ((n-1)*z+z)).take ((n-1)*z)=xs.take (k*z)++xs.drop ((k+1)*z):=by
 intro c1;obtain⟨m,rfl⟩:∃m,n=m+1:=⟨n-1,by omega⟩
 have e1:(m+1)*z=m*z+z:=by rw[kN,kY]
 have e2:(k+1)*z=k*z+z:=by rw[kN,kY]
 have e3:k*z<=m*z:=kT _ (by omega);simp only[Nat.add_sub_cancel]
 have hxl:xs.length=m*z+z:=by rw[<-hx,kI];omega
 have hd:(xs.drop ((k+1)*z)).length=m*z-k*z:=by rw[kV,hxl];omega
 have ht:(c.take (k*z)).length=k*z:=by rw[kI];omega
 have h1:c1.take (m*z)=c.take (k*z)++xs.drop ((k+1)*z):=by
  show(c.take (k*z)++xs.drop ((k+1)*z)++_).take (m*z)=_
  rw[D (by rw[U,ht,hd];omega),y (by rw[U,ht,hd];omega)]
 have hl:(c1.take (m*z)).length=m*z:=by rw[h1,U,ht,hd];omega
 rw[kC,D (by omega),y (by omega),h1,<-hx,kK]
 congr 2
 omega
theorem ydo {c xs news:List M} {z n k:Nat} (hk:k<=n) (hc:(n+1)*z<=c.length) (hx:c.take (k*z)=xs.take (k*z)) (hxl:xs.length=n*z) (hn:news.length=z):
 let c1:=c.take (k*z)++news++c.drop (k*z+news.length)
 (c1.take ((k+1)*z)++xs.drop (k*z)++c1.drop ((k+1)*z+(xs.drop (k*z)).length)).take ((n+1)*z)=xs.take (k*z)++news++xs.drop (k*z):=by
 intro c1
 have e1:(n+1)*z=n*z+z:=by rw[kN,kY]
 have e2:(k+1)*z=k*z+z:=by rw[kN,kY]
 have e3:k*z<=n*z:=kT _ hk
 have hd:(xs.drop (k*z)).length=n*z-k*z:=by rw[kV,hxl]
 have ht:(xs.take (k*z)).length=k*z:=by rw[kI];omega
 have h1:c1.take ((k+1)*z)=xs.take (k*z)++news:=by
  show(c.take (k*z)++news++_).take ((k+1)*z)=_
  rw[hx,D (by rw[U,ht,hn];omega),y (by rw[U,ht,hn];omega)]
 rw[h1,D (by simp only[U,ht,hn,hd];omega),y (by simp only[U,ht,hn,hd];omega)]
def qC (w:Y) (e:TypeId) (size:Nat) (v:M) (n:Nat) (xs:List M):Prop:=
 xs.length=n*size/\((v=N I 0 0/\n=0)\/∃g o cap cur,v=N (R ⟨g,o,I⟩) n cap/\w.heap[g]?=R (.cells cur e (0,0))/\n<=cap/\cap<=maxLen/\o+cap*size<=cur.size/\(cur.toList.drop o).take (n*size)=xs)
section
variable {w w':Y} {e:TypeId} {size n:Nat} {v:M} {xs:List M}
theorem qC.yk7 {base:Nat} (h:w.ownsRow base e size v n xs):qC w e size v n xs:=by
 obtain⟨hl,h⟩:=h;refine⟨hl,h.imp id ?_⟩;rintro ⟨g,cap,cur,rfl,_,hg,h1,h2,h3,h4⟩;exact⟨g,0,cap,cur,rfl,hg,h1,h2,by omega,by simpa using h4⟩
theorem qC.shape (h:qC w e size v n xs) (hn:0<n):∃g o cap,v=N (R ⟨g,o,I⟩) n cap/\g<w.heap.size/\n<=cap/\cap<=maxLen:=by
 rcases h.2 with ⟨rfl,rfl⟩|⟨g,o,cap,cur,rfl,hg,h1,h2,_⟩
 ·omega
 ·exact⟨g,o,cap,rfl,(Array.getElem?_eq_some_iff.1 hg).1,h1,h2⟩
theorem qC.cell {g o cap:Nat} (h:qC w e size (N (R ⟨g,o,I⟩) n cap) n xs) {j:Nat} (hj:j<n*size):w.cell? ⟨g,o+j,I⟩=xs[j]?:=by
 rcases h.2 with ⟨e,_⟩|⟨g',o',cap',cur,e,hg,h1,h2,h3,h4⟩
 ·cases e
 ·cases e
  rw[cell_of_row w g (o+j) cur _ _ hg,<-h4,List.getElem?_take,if_pos hj,List.getElem?_drop];simp
end
section
variable {P:Program} (w:Y)
end
def xv (l:Pg.Ln):List M:=[T Z l.m.p,T Z l.m.s,T Z l.m.f,T Z l.m.r,O l.d]
def zL (L:List Pg.Ln):List M:=L.flatMap xv
theorem xQ:∀L:List Pg.Ln,(zL L).length=L.length*5
 | []=>rfl
 | x::r=>by
   have:=xQ r;simp[zL,xv]at this ⊢;omega
theorem jP (x:Pg.Ln) (r:List Pg.Ln):zL (x::r)=xv x++zL r:=by simp[zL]
theorem qZ (A B:List Pg.Ln):zL (A++B)=zL A++zL B:=by simp[zL]
theorem yci (m:Pg.Ln):zL [m]=xv m:=by simp[zL]
theorem qI (A:List Pg.Ln) (m:Pg.Ln):zL (A++[m])=zL A++xv m:=by rw[qZ,yci]
theorem jK:∀(L:List Pg.Ln) (j i:Nat),j<L.length->i<5->(zL L)[j*5+i]?=(xv (L.getD j .zz))[i]?
 | [],j,_,h,_=>by simp at h
 | x::r,0,i,_,hi=>by
   rw[jP,List.getElem?_append_left (by simp[xv];omega)];simp
 | x::r,j+1,i,h,hi=>by
   have:=jK r j i (by simpa using h) hi;rw[jP,List.getElem?_append_right (by simp[xv];omega)];rw[show(j+1)*5+i-(xv x).length=j*5+i by simp[xv];omega,this];simp
theorem jQ (L:List Pg.Ln):∀u,u ∈ zL L->u.oneCell'=kP:=by
 intro u hu;obtain⟨m,_,hm⟩:=List.mem_flatMap.1 hu;simp[xv]at hm
 rcases hm with rfl|rfl|rfl|rfl|rfl<;>rfl
theorem xP (L:List Pg.Ln) (j:Nat):(zL L).take (j*5)=zL (L.take j)/\(zL L).drop (j*5)=zL (L.drop j):=by
 by_cases hj:j<=L.length
 ·have e:zL L=zL (L.take j)++zL (L.drop j):=by rw[<-qZ,List.take_append_drop]
  have hl:(zL (L.take j)).length=j*5:=by rw[xQ,kI];congr 1;omega
  exact⟨by rw[e,List.take_left' hl],by rw[e,List.drop_left' hl]⟩
 ·have hl:=xQ L
  rw[y (by omega),y (l:=L) (by omega),kR (by omega),kR (show L.length<=j by omega)];exact⟨rfl,rfl⟩
def ydz (w:Y) (g o:Nat) (l:Pg.Ln):Prop:=
 w.cell? ⟨g,o,I⟩=R (T Z l.m.p)/\w.cell? ⟨g,o+1,I⟩=R (T Z l.m.s)/\w.cell? ⟨g,o+2,I⟩=R (T Z l.m.f)/\w.cell? ⟨g,o+3,I⟩=R (T Z l.m.r)/\w.cell? ⟨g,o+4,I⟩=R (O l.d)
theorem ydz.of {w w':Y} {g o:Nat} {l:Pg.Ln} (h:ydz w g o l) (hc:∀p,w'.cell? ⟨g,p,I⟩=w.cell? ⟨g,p,I⟩):ydz w' g o l:=
 ⟨(hc _).trans h.1,(hc _).trans h.2.1,(hc _).trans h.2.2.1,(hc _).trans h.2.2.2.1,(hc _).trans h.2.2.2.2⟩
theorem ydz.below {w w':Y} {g o B:Nat} {l:Pg.Ln} (h:ydz w g o l) (hb:Below B w w') (hg:g<B):ydz w' g o l:=h.of fun p=>hb.cell (p:=⟨g,p,I⟩) hg
def xC (w:Y) (ad:Option Addr) (L:List Pg.Ln):Prop:=∀j,j<L.length->∃g o,ad=R ⟨g,o,I⟩/\g<w.heap.size/\ydz w g (o+j*5) (L.getD j .zz)
theorem xC.below {w w':Y} {ad:Option Addr} {L:List Pg.Ln} (h:xC w ad L) (hb:Below w.heap.size w w'):xC w' ad L:=by
 intro j hj;obtain⟨g,o,e,hg,hm⟩:=h j hj;exact⟨g,o,e,Nat.lt_of_lt_of_le hg hb.size,hm.below hb hg⟩
theorem xW {w:Y} {e:TypeId} {ad:Option Addr} {n cap:Nat} {L:List Pg.Ln} (h:qC w e 5 (N ad n cap) L.length (zL L)):xC w ad L:=by
 intro j hj;obtain⟨g,o,cap',e,hg,_⟩:=h.shape (by omega);cases e;have hc:=fun i (hi:i<5)=>(h.cell (j:=j*5+i) (by omega)).trans (jK L j i hj hi);have h0:=hc 0 (by omega);have h1:=hc 1 (by omega);have h2:=hc 2 (by omega);have h3:=hc 3 (by omega);have h4:=hc 4 (by omega);simp only[xv,<-Nat.add_assoc,kG]at h0 h1 h2 h3 h4;exact⟨g,o,rfl,hg,by simpa using h0,by simpa using h1,by simpa using h2,by simpa using h3,by simpa using h4⟩
end
section
open Go.Sort
namespace Pg.Fs
end Pg.Fs
namespace Side
variable {w0 w w':Y} {bf bm g0 g1:Nat} {vb vb':M} {F F':Nat->Prop} {Sf Sm S':Pg.Fs}
end Side
theorem yex (S:Pg.Fs) (p:Int):∀(lv:Nat) (t:Int) (a i:Nat),i<(Pg.thr S (Pg.onW p) lv t a).1.length->i<=lv/\(qz (Pg.thr S (Pg.onW p) lv t a).1).getD i 0=(Pg.ix p (lv-i):Nat):=by
 intro lv
 induction lv with
 | zero=>
   intro t a i hi;rw[Pg.yhK]at hi ⊢;split at hi
   ·simp at hi
   ·rename_i h1
    rw[if_neg h1];split at hi
    ·rename_i h2
     rw[if_pos h2];simp at hi;subst hi;exact⟨by omega,by simp[qz,Pg.spt]⟩
    ·rename_i h2
     obtain⟨m,hm⟩:=Pg.yhM (S:=S) (t:=t) (i:=Pg.ix p 0) (lv:=0) (by simpa using h2);omega
 | succ lv ih=>
   intro t a i hi;rw[Pg.yhK]at hi ⊢;split at hi
   ·simp at hi
   ·rename_i h1
    rw[if_neg h1];split at hi
    ·rename_i h2
     rw[if_pos h2];simp at hi;subst hi;exact⟨by omega,by simp[qz,Pg.spt]⟩
    ·rename_i h2
     rw[if_neg h2];simp only at hi ⊢
     cases i with
     | zero=>exact⟨by omega,by simp[qz,Pg.spt]⟩
     | succ i=>
       have h3:=ih (Pg.rEn S t (Pg.ix p (lv+1)) (lv+1)).f ((a+Pg.ix p (lv+1))*8) i (by simpa[Pg.sub]using hi);refine⟨by omega,?_⟩;rw[show lv+1-(i+1)=lv-i by omega]
       simpa[qz,Pg.sub]using h3.2
theorem yas (S:Pg.Fs) (t p:Int) {i:Nat} (hi:i<(zj S t p).length):Pg.below p 4096=kP/\i<=3/\(qz (zj S t p)).getD i 0=Pg.index p (3-(i:Int)):=by
 unfold zj at hi ⊢;split at hi
 ·rename_i h
  rw[if_pos h];obtain⟨h1,h2⟩:=yex S p 3 t 0 i hi;refine⟨h.1,h1,?_⟩;rw[h2,show(3-(i:Int))=((3-i:Nat):Int) by omega,Pg.yh7 h.1 (by omega)]
 ·simp at hi
theorem yeQ (S:Pg.Fs) (t p:Int):(zj S t p).length<=4680:=by
 unfold zj;split
 ·exact Pg.ylK S (Pg.onW p) 3 t 0
 ·simp
end
end Go.Proofs.YtdphiompijbelaaGreatDoor
