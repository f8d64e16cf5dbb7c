import Derived.Test.YtdphiompijbelaaGreatCdA
import Derived.Test.YtdphiompijbelaaGreatTabRefD
set_option linter.all false
set_option maxRecDepth 100000
open Go.Proofs.Tryz renaming prog->kV
open Go.Ending renaming returned->kF
open List renaming take_succ_cons->kN,drop_succ_cons->kY,length_set->kQ,take_zero->kU,drop_zero->kO,any_eq_true->kE,getElem?_set_ne->kD
open Go.Obj renaming cells->kS
open Int renaming toNat_natCast->kI
open Nat renaming lt_of_lt_of_le->A,le_refl->kT
open Go renaming cell_regrown->O,bodyPost_ret->d,World->kR,heap_alloc_new->kZ,Value->kH,Calls->kL
open Go.World renaming cell?_of_block->U,block_lt_of_cell?->z,frozen?_of_block->kJ,cell?_setCell_other->kK,cell?_setCell_same->kX
open Go.RowKit renaming Hid->Z
open Bool renaming false->V,true->kC
open Go.IntKind renaming i64->Y
open Go.Value renaming int->J,bool->H,pointer->o,slice->kP
open Option renaming none->I,some->Q
set_option maxHeartbeats 2000000
namespace Go.Proofs.YtdphiompijbelaaGreat
open Go.RowKit Go.Sort
section
structure Rsd where
 bm:Nat
 g0:Nat
 g1:Nat
 vm:kH
 gc:Nat
 cc:Nat
 cb:Nat->Nat
 cv:Nat->kH
 gw:Nat
 ag:Option Addr
 cg:Nat
 bz:Bool
def Rsd.own (D:Rsd) (b n:Nat) (G:List Int):Nat->Nat->Prop
 | 0,x=>x=b
 | 1,x=>zN D.bm D.g0 D.g1 D.vm x
 | 2,x=>x=D.gc
 | 3,x=>x=D.gw
 | 4,x=>G≠[]/\D.ag=Q ⟨x,0,I⟩
 | k+5,x=>k<n/\bkF (D.cb k) (D.cv k) x
structure Rsk (w:kR) (b:Nat) (D:Rsd) (X:Pg.Spc):Prop where
 c0:w.cell? ⟨b,0,I⟩=Q (o (Q ⟨D.bm,0,I⟩))
 c1:w.cell? ⟨b,1,I⟩=Q (J Y 0)
 c2:w.cell? ⟨b,2,I⟩=Q (kP (Q ⟨D.gc,0,I⟩) X.C.length D.cc)
 c3:w.cell? ⟨b,3,I⟩=Q (H D.bz)
 c4:w.cell? ⟨b,4,I⟩=Q (kP D.ag X.G.length D.cg)
 c5:w.cell? ⟨b,5,I⟩=Q (J Y X.T.p)
 c6:w.cell? ⟨b,6,I⟩=Q (J Y X.T.s)
 c7:w.cell? ⟨b,7,I⟩=Q (J Y X.T.f)
 c8:w.cell? ⟨b,8,I⟩=Q (J Y X.T.r)
 c9:w.cell? ⟨b,9,I⟩=Q (kP (Q ⟨D.gw,0,I⟩) X.C.length X.C.length)
 fb:∀p,w.frozen? ⟨b,p,I⟩=V
 mem:zg w D.bm D.g0 D.g1 D.vm X.S
 row:∀k,k<X.C.length->w.cell? ⟨D.gc,k,I⟩=Q (o (Q ⟨D.cb k,0,I⟩))
 core:∀k,k<X.C.length->qS w (D.cb k) (D.cv k) (X.C.getD k Pg.Cr.new)
 wt:∀k,k<X.C.length->w.cell? ⟨D.gw,k,I⟩=Q (H (X.W.getD k V))
 wf:∀p,w.frozen? ⟨D.gw,p,I⟩=V
 gone:zh w D.ag X.G
 part:∀i j x,D.own b X.C.length X.G i x->D.own b X.C.length X.G j x->i=j
 len:X.W.length=X.C.length
 pos:1<=X.C.length
 le:X.C.length<=4
 told:Pg.fits X.T.p
 few:X.G.length<=4680
def rsF (D:Rsd) (b n:Nat) (G:List Int):Nat->Prop:=fun x=>∃i,D.own b n G i x
namespace Rsk
variable {w w':kR} {b:Nat} {D D':Rsd} {X:Pg.Spc}
theorem lb (h:Rsk w b D X):b<w.heap.size:=z _ _ h.c0
theorem lt (h:Rsk w b D X) {i x:Nat} (hx:D.own b X.C.length X.G i x):x<w.heap.size:=by
 match i with
 | 0=>have hx:x=b:=hx;rw[hx];exact h.lb
 | 1=>exact h.mem.raw.lt hx
 | 2=>have hx:x=D.gc:=hx;rw[hx];exact z _ _ (h.row 0 h.pos)
 | 3=>have hx:x=D.gw:=hx;rw[hx];exact z _ _ (h.wt 0 h.pos)
 | 4=>
   obtain⟨hG,ha⟩:=hx;have:0<X.G.length:=List.length_pos_iff.2 hG;obtain⟨g,e,hl,_⟩:=h.gone 0 this;rw[ha]at e;injection e with e;injection e with e;rw[e];exact hl
 | k+5=>exact(h.core k hx.1).lt hx.2
theorem ne (h:Rsk w b D X) {i j x y:Nat} (hx:D.own b X.C.length X.G i x) (hy:D.own b X.C.length X.G j y) (hij:i≠j):x≠y:=fun e=>hij (h.part i j x hx (e▸hy))
theorem others (h:Rsk w b D X) {F:Nat->Prop} (hb:But F w w'):
 ((∀x,D.own b X.C.length X.G 0 x->¬F x)->(∀p,w'.cell? ⟨b,p,I⟩=w.cell? ⟨b,p,I⟩)/\∀p,w'.frozen? ⟨b,p,I⟩=V)/\
 ((∀x,D.own b X.C.length X.G 1 x->¬F x)->zg w' D.bm D.g0 D.g1 D.vm X.S)/\
 ((∀x,D.own b X.C.length X.G 2 x->¬F x)->∀k,k<X.C.length->w'.cell? ⟨D.gc,k,I⟩=Q (o (Q ⟨D.cb k,0,I⟩)))/\
 ((∀x,D.own b X.C.length X.G 3 x->¬F x)->(∀k,k<X.C.length->w'.cell? ⟨D.gw,k,I⟩=Q (H (X.W.getD k V)))/\∀p,w'.frozen? ⟨D.gw,p,I⟩=V)/\
 ((∀x,D.own b X.C.length X.G 4 x->¬F x)->zh w' D.ag X.G)/\
 (∀k,k<X.C.length->(∀x,D.own b X.C.length X.G (k+5) x->¬F x)->qS w' (D.cb k) (D.cv k) (X.C.getD k Pg.Cr.new)):=by
 refine⟨fun hF=> ?_,fun hF=>h.mem.keep hb hF,fun hF k hk=> ?_,fun hF=> ?_,fun hF=> ?_,fun k hk hF=> ?_⟩
 ·have kb:=hb.block b h.lb (hF b rfl)
  exact⟨fun p=>U (a:=⟨b,p,I⟩) kb,fun p=>(kJ (a:=⟨b,p,I⟩) kb).trans (h.fb p)⟩
 ·exact(hb.cell (a:=⟨D.gc,k,I⟩) (z _ _ (h.row k hk)) (hF _ rfl)).trans (h.row k hk)
 ·have kb:=hb.block D.gw (z _ _ (h.wt 0 h.pos)) (hF _ rfl)
  exact⟨fun k hk=>(U (a:=⟨D.gw,k,I⟩) kb).trans (h.wt k hk),fun p=>(kJ (a:=⟨D.gw,p,I⟩) kb).trans (h.wf p)⟩
 ·intro j hj
  obtain⟨g,e,hl,hc⟩:=h.gone j hj;refine⟨g,e,A hl hb.size,(hb.cell (a:=⟨g,j,I⟩) hl (hF g ⟨?_,e⟩)).trans hc⟩;intro e0;rw[e0]at hj;simp at hj
 ·exact(h.core k hk).keep hb fun x hx=>hF x ⟨hk,hx⟩
theorem keep (h:Rsk w b D X) {F:Nat->Prop} (hb:But F w w') (hF:∀x,rsF D b X.C.length X.G x->¬F x):Rsk w' b D X:=by
 obtain⟨o0,o1,o2,o3,o4,o5⟩:=h.others hb;have hF:∀i x,D.own b X.C.length X.G i x->¬F x:=fun i x hx=>hF x ⟨i,hx⟩;obtain⟨e0,f0⟩:=o0 (hF 0);obtain⟨e3,f3⟩:=o3 (hF 3);exact⟨(e0 0).trans h.c0,(e0 1).trans h.c1,(e0 2).trans h.c2,(e0 3).trans h.c3,(e0 4).trans h.c4,(e0 5).trans h.c5,(e0 6).trans h.c6,(e0 7).trans h.c7,(e0 8).trans h.c8,(e0 9).trans h.c9,f0,o1 (hF 1),o2 (hF 2),fun k hk=>o5 k hk (hF _),e3,f3,o4 (hF 4),h.part,h.len,h.pos,h.le,h.told,h.few⟩
theorem grow (h:Rsk w b D X) (hb:Below w.heap.size w w'):Rsk w' b D X:=h.keep (F:=fun _=>False) (But.ygr hb) (fun _ _=>id)
theorem yhg (h:Rsk w b D X) {l:Nat} {G':List Int} (ho:∀i,i≠l->∀x,D'.own b X.C.length G' i x->D.own b X.C.length X.G i x) (hl:∀x,D'.own b X.C.length G' l x->D.own b X.C.length X.G l x\/w.heap.size<=x):∀i j x,D'.own b X.C.length G' i x->D'.own b X.C.length G' j x->i=j:=by
 intro i j x hi hj
 by_cases ei:i=l
 ·by_cases ej:j=l
  ·rw[ei,ej]
  ·have h2:=ho j ej x hj
   rcases hl x (ei▸hi)with h1|h1
   ·exact ei.trans (h.part l j x h1 h2)
   ·have:=h.lt h2
    omega
 ·have h1:=ho i ei x hi
  by_cases ej:j=l
  ·rcases hl x (ej▸hj)with h2|h2
   ·rw[ej]
    exact h.part i l x h1 h2
   ·have:=h.lt h1
    omega
  ·exact h.part i j x h1 (ho j ej x hj)
theorem frames {S':Pg.Fs} {vm':kH} (h:Rsk w b D X) (hm:zg w' D.bm D.g0 D.g1 vm' S') (hb:But (zN D.bm D.g0 D.g1 D.vm) w w') (hF:∀x,zN D.bm D.g0 D.g1 vm' x->zN D.bm D.g0 D.g1 D.vm x\/w.heap.size<=x):Rsk w' b {D with vm:=vm'} {X with S:=S'}:=by
 obtain⟨o0,o1,o2,o3,o4,o5⟩:=h.others hb;have hF':∀i,i≠1->∀x,D.own b X.C.length X.G i x->¬zN D.bm D.g0 D.g1 D.vm x:=fun i hi x hx hm=>hi (h.part i 1 x hx hm);obtain⟨e0,f0⟩:=o0 (hF' 0 (by decide));obtain⟨e3,f3⟩:=o3 (hF' 3 (by decide));refine⟨(e0 0).trans h.c0,(e0 1).trans h.c1,(e0 2).trans h.c2,(e0 3).trans h.c3,(e0 4).trans h.c4,(e0 5).trans h.c5,(e0 6).trans h.c6,(e0 7).trans h.c7,(e0 8).trans h.c8,(e0 9).trans h.c9,f0,hm,o2 (hF' 2 (by decide)),fun k hk=>o5 k hk (hF' _ (by omega)),e3,f3,o4 (hF' 4 (by decide)),h.yhg (l:=1) (fun i hi x hx=> ?_) (fun x hx=>hF x hx),h.len,h.pos,h.le,h.told,h.few⟩
 match i with
 | 0=>exact hx
 | 1=>exact absurd rfl hi
 | 2=>exact hx
 | 3=>exact hx
 | 4=>exact hx
 | k+5=>exact hx
theorem asked {k:Nat} {C':Pg.Cr} {v':kH} (h:Rsk w b D X) (hk:k<X.C.length) (hC:qS w' (D.cb k) v' C') (hb:But (bkF (D.cb k) (D.cv k)) w w') (hF:∀x,bkF (D.cb k) v' x->bkF (D.cb k) (D.cv k) x\/w.heap.size<=x):Rsk w' b {D with cv:=fun j=>if j=k then v' else D.cv j} {X with C:=X.C.set k C'}:=by
 obtain⟨o0,o1,o2,o3,o4,o5⟩:=h.others hb;have hF':∀i,i≠k+5->∀x,D.own b X.C.length X.G i x->¬bkF (D.cb k) (D.cv k) x:=fun i hi x hx hm=>hi (h.part i (k+5) x hx ⟨hk,hm⟩);obtain⟨e0,f0⟩:=o0 (hF' 0 (by omega));obtain⟨e3,f3⟩:=o3 (hF' 3 (by omega));have hl:(X.C.set k C').length=X.C.length:=kQ
 have hpart:∀i j x,({D with cv:=fun j=>if j=k then v' else D.cv j}:Rsd).own b X.C.length X.G i x->({D with cv:=fun j=>if j=k then v' else D.cv j}:Rsd).own b X.C.length X.G j x->i=j:=by
  refine h.yhg (l:=k+5) (fun i hi x hx=> ?_) (fun x hx=> ?_)
  ·match i with
   | 0=>exact hx
   | 1=>exact hx
   | 2=>exact hx
   | 3=>exact hx
   | 4=>exact hx
   | j+5=>
     obtain⟨h1,h2⟩:=hx;simp only at h2;rw[if_neg (by omega)]at h2;exact⟨h1,h2⟩
  ·obtain⟨h1,h2⟩:=hx
   simp only[if_true]at h2;exact(hF x h2).imp (fun h=>⟨h1,h⟩) id
 refine⟨(e0 0).trans h.c0,(e0 1).trans h.c1,?_,(e0 3).trans h.c3,(e0 4).trans h.c4,(e0 5).trans h.c5,(e0 6).trans h.c6,(e0 7).trans h.c7,(e0 8).trans h.c8,?_,f0,o1 (hF' 1 (by omega)),?_,?_,?_,f3,o4 (hF' 4 (by omega)),?_,?_,?_,?_,h.told,h.few⟩
 ·simp only[hl]
  exact(e0 2).trans h.c2
 ·simp only[hl]
  exact(e0 9).trans h.c9
 ·simp only[hl]
  exact o2 (hF' 2 (by omega))
 ·simp only[hl]
  intro j hj
  show qS w' (D.cb j) (if j=k then v' else D.cv j) ((X.C.set k C').getD j Pg.Cr.new)
  by_cases e:j=k
  ·subst e
   rw[if_pos rfl,show(X.C.set j C').getD j Pg.Cr.new=C' by simp[List.getD,hk]];exact hC
  ·rw[if_neg e,show(X.C.set k C').getD j Pg.Cr.new=X.C.getD j Pg.Cr.new by simp[List.getD,kD (fun h=>e h.symm)]]
   exact o5 j hj (hF' _ (by omega))
 ·simp only[hl]
  exact e3
 ·simp only[hl]
  exact hpart
 ·simp only[hl]
  exact h.len
 ·simp only[hl]
  exact h.pos
 ·simp only[hl]
  exact h.le
theorem waited {k:Nat} (h:Rsk w b D X) (hk:k<X.C.length) (v:Bool):Rsk (w.setCell ⟨D.gw,k,I⟩ (H v)) b D {X with W:=X.W.set k v}/\But (fun x=>x=D.gw) w (w.setCell ⟨D.gw,k,I⟩ (H v)):=by
 have hb:But (fun x=>x=D.gw) w (w.setCell ⟨D.gw,k,I⟩ (H v)):=(But.refl (fun x=>x=D.gw) w).setCell (a:=⟨D.gw,k,I⟩) (.inr rfl) _;obtain⟨o0,o1,o2,o3,o4,o5⟩:=h.others hb;have hF':∀i,i≠3->∀x,D.own b X.C.length X.G i x->¬x=D.gw:=fun i hi x hx hm=>hi (h.part i 3 x hx hm);obtain⟨e0,f0⟩:=o0 (hF' 0 (by decide));refine⟨⟨(e0 0).trans h.c0,(e0 1).trans h.c1,(e0 2).trans h.c2,(e0 3).trans h.c3,(e0 4).trans h.c4,(e0 5).trans h.c5,(e0 6).trans h.c6,(e0 7).trans h.c7,(e0 8).trans h.c8,(e0 9).trans h.c9,f0,o1 (hF' 1 (by decide)),o2 (hF' 2 (by decide)),fun j hj=>o5 j hj (hF' _ (by omega)),fun j hj=> ?_,fun q=>by simpa using h.wf q,o4 (hF' 4 (by decide)),h.part,by simpa using h.len,h.pos,h.le,h.told,h.few⟩,hb⟩
 have hkW:k<X.W.length:=by rw[h.len];exact hk
 show(w.setCell ⟨D.gw,k,I⟩ (H v)).cell? ⟨D.gw,j,I⟩=Q (H ((X.W.set k v).getD j V))
 by_cases e:j=k
 ·subst e
  rw[kX _ _ _ (h.wt j hk)];simp[List.getD,hkW]
 ·rw[kK _ _ _ _ (fun e'=>e (by injection e' with _ e';exact e'.symm)),h.wt j hj]
  simp[List.getD,kD (fun h=>e h.symm)]
theorem over (h:Rsk w b D X):Rsk ((w.setCell ⟨b,3,I⟩ (H V)).setCell ⟨b,4,I⟩ (kP I 0 0)) b {D with bz:=V,ag:=I,cg:=0} {X with G:=[]}/\But (fun x=>x=b) w ((w.setCell ⟨b,3,I⟩ (H V)).setCell ⟨b,4,I⟩ (kP I 0 0)):=by
 have hb:But (fun x=>x=b) w ((w.setCell ⟨b,3,I⟩ (H V)).setCell ⟨b,4,I⟩ (kP I 0 0)):=((But.refl (fun x=>x=b) w).setCell (a:=⟨b,3,I⟩) (.inr rfl) _).setCell (a:=⟨b,4,I⟩) (.inr rfl) _;obtain⟨o0,o1,o2,o3,o4,o5⟩:=h.others hb;have hF':∀i,i≠0->∀x,D.own b X.C.length X.G i x->¬x=b:=fun i hi x hx hm=>hi (h.part i 0 x hx hm);obtain⟨e3,f3⟩:=o3 (hF' 3 (by decide));have k0:=h.c0;have k1:=h.c1;have k2:=h.c2;have k3:=h.c3;have k4:=h.c4;have k5:=h.c5;have k6:=h.c6;have k7:=h.c7;have k8:=h.c8;have k9:=h.c9;have kf:=h.fb;refine⟨⟨by simp[go_sem,k0],by simp[go_sem,k1],by simp[go_sem,k2],by simp[go_sem,k3],by simp[go_sem,k4],by simp[go_sem,k5],by simp[go_sem,k6],by simp[go_sem,k7],by simp[go_sem,k8],by simp[go_sem,k9],fun q=>by simp[go_sem,kf],o1 (hF' 1 (by decide)),o2 (hF' 2 (by decide)),fun j hj=>o5 j hj (hF' _ (by omega)),e3,f3,fun j hj=>by simp at hj,h.yhg (l:=4) (fun i hi x hx=> ?_) (fun x hx=>absurd rfl hx.1),h.len,h.pos,h.le,h.told,by simp⟩,hb⟩
 match i with
 | 0=>exact hx
 | 1=>exact hx
 | 2=>exact hx
 | 3=>exact hx
 | 4=>exact absurd rfl hi
 | k+5=>exact hx
end Rsk
structure ybH (w:kR) (b:Nat) (X:Pg.Spc) (F:Nat->Prop):Prop where
 ex:∃D,Rsk w b D X/\D.bz=X.busy/\F=rsF D b X.C.length X.G
section
variable {w w':kR} {b:Nat} {X:Pg.Spc} {F G:Nat->Prop}
theorem ybH.lt (h:ybH w b X F) {k:Nat} (hk:F k):k<w.heap.size:=by
 obtain⟨D,h,_,rfl⟩:=h;obtain⟨i,hi⟩:=hk;exact h.lt hi
theorem ybH.keep (h:ybH w b X F) (hb:But G w w') (hF:∀k,F k->¬G k):ybH w' b X F:=by
 obtain⟨D,h,hz,rfl⟩:=h;exact⟨D,h.keep hb hF,hz,rfl⟩
theorem ybH.grow (h:ybH w b X F) (hb:Below w.heap.size w w'):ybH w' b X F:=h.keep (G:=fun _=>False) (But.ygr hb) (fun _ _=>id)
end
theorem yaw {b:Nat} {D:Rsd} {X:Pg.Spc} (m:Pg.Mp) (hm:Pg.fits m.p) (ag:Option Addr) (cg:Nat) (G:List Int) (w:kR) (h:Rsk w b D X) (hG:zh w ag G) (hn:∀g,ag=Q ⟨g,0,I⟩->¬rsF D b X.C.length [] g) (hg4:G.length<=4680):
 kL kV 100 #[o (Q ⟨b,0,I⟩),m.val,kP ag G.length cg] w fun e w'=>e=kF (.tuple #[])/\Rsk w' b {D with ag:=ag,cg:=cg,bz:=kC} (X.post X.S m G)/\But (fun x=>x=b\/x=D.gw) w w':=by
 obtain⟨p,s,f,r⟩:=m;simp only[Pg.Mp.val];obtain⟨W,hW⟩:∃W,W=w.alloc (kS #[J Y p,J Y s,J Y f,J Y r] 39):=⟨_,rfl⟩
 have hB:Below w.heap.size w W:=by rw[hW];exact zA (zR _) _
 have hWs:w.heap.size<W.heap.size:=by rw[hW];simp
 have hl:=h.lb;have HW:Z _:=h.grow hB
 have x0:W.cell? ⟨w.heap.size,0,I⟩=Q (J Y p):=by rw[hW];simp[go_sem]
 have x1:W.cell? ⟨w.heap.size,1,I⟩=Q (J Y s):=by rw[hW];simp[go_sem]
 have x2:W.cell? ⟨w.heap.size,2,I⟩=Q (J Y f):=by rw[hW];simp[go_sem]
 have x3:W.cell? ⟨w.heap.size,3,I⟩=Q (J Y r):=by rw[hW];simp[go_sem]
 have c3:=HW.out.c3;have c4:=HW.out.c4;have c5:=HW.out.c5;have c6:=HW.out.c6;have c7:=HW.out.c7;have c8:=HW.out.c8;have fb:=HW.out.fb
 have hne:w.heap.size≠b:=by omega
 have hne':b≠w.heap.size:=by omega
 have HB:Z _:=hB;have HX:Z _:=h;have HG:Z (zh w ag G):=hG;have HN:Z _:=hn;have HM:Z _:=hm;clear h hG hn hm hB
 go_enter Tryz.func100,Tryz.ntmps100
 go_wp2_with fail
 rw[<-hW];clear hW
 go_region_held3 (fun w'=>w'.cell? ⟨w.heap.size,0,I⟩=Q (J Y p)/\w'.cell? ⟨w.heap.size,1,I⟩=Q (J Y s)/\w'.cell? ⟨w.heap.size,2,I⟩=Q (J Y f)/\w'.cell? ⟨w.heap.size,3,I⟩=Q (J Y r)) (go_keep) (fail)
 generalize hWp:((((((W.setCell ⟨b,3,I⟩ (H kC)).setCell ⟨b,5,I⟩ (J Y p)).setCell ⟨b,6,I⟩ (J Y s)).setCell ⟨b,7,I⟩ (J Y f)).setCell ⟨b,8,I⟩ (J Y r)).setCell ⟨b,4,I⟩ (kP ag G.length cg)).drew=Wp
 have BP:Z (But (fun x=>x=b) W Wp):=by
  rw[Z,<-hWp];exact(((((((But.refl (fun x=>x=b) W).setCell (a:=⟨b,3,I⟩) (.inr rfl) _).setCell (a:=⟨b,5,I⟩) (.inr rfl) _).setCell (a:=⟨b,6,I⟩) (.inr rfl) _).setCell (a:=⟨b,7,I⟩) (.inr rfl) _).setCell (a:=⟨b,8,I⟩) (.inr rfl) _).setCell (a:=⟨b,4,I⟩) (.inr rfl) _).drew
 have CP:Z ((Wp.cell? ⟨b,0,I⟩=Q (o (Q ⟨D.bm,0,I⟩))/\Wp.cell? ⟨b,1,I⟩=Q (J Y 0)/\Wp.cell? ⟨b,2,I⟩=Q (kP (Q ⟨D.gc,0,I⟩) X.C.length D.cc)/\Wp.cell? ⟨b,3,I⟩=Q (H kC)/\Wp.cell? ⟨b,4,I⟩=Q (kP ag G.length cg))/\(Wp.cell? ⟨b,5,I⟩=Q (J Y p)/\Wp.cell? ⟨b,6,I⟩=Q (J Y s)/\Wp.cell? ⟨b,7,I⟩=Q (J Y f)/\Wp.cell? ⟨b,8,I⟩=Q (J Y r)/\Wp.cell? ⟨b,9,I⟩=Q (kP (Q ⟨D.gw,0,I⟩) X.C.length X.C.length))/\∀q,Wp.frozen? ⟨b,q,I⟩=V):=by
  have k0:=HW.out.c0;have k1:=HW.out.c1;have k2:=HW.out.c2;have k9:=HW.out.c9;rw[Z,<-hWp]
  refine⟨⟨?_,?_,?_,?_,?_⟩,⟨?_,?_,?_,?_,?_⟩,fun q=> ?_⟩<;>simp[go_sem,c3,c4,c5,c6,c7,c8,k0,k1,k2,k9,fb]
 have hgb:D.gw≠b:=HX.out.ne (i:=3) (j:=0) rfl rfl (by decide);have hbg:b≠D.gw:=fun e=>hgb e.symm
 have WP:Z ((∀k,k<X.C.length->Wp.cell? ⟨D.gw,k,I⟩=Q (H (X.W.getD k V)))/\∀q,Wp.frozen? ⟨D.gw,q,I⟩=V):=by
  have kb:=BP.out.block D.gw (z _ _ (HW.out.wt 0 HW.out.pos)) hgb;exact⟨fun k hk=>(U (a:=⟨D.gw,k,I⟩) kb).trans (HW.out.wt k hk),fun q=>(kJ (a:=⟨D.gw,q,I⟩) kb).trans (HW.out.wf q)⟩
 have hn4:=HX.out.le;clear hWp x0 x1 x2 x3 c3 c4 c5 c6 c7 c8 fb hne hne'
 go_wp2_with fail
 go_loopw [6] (fun i wr=>∃k:Nat,k<=X.C.length/\i=J Y k/\Z (But (fun x=>x=D.gw) Wp wr/\(∀j,j<X.C.length->wr.cell? ⟨D.gw,j,I⟩=Q (H (if j<k then kC else X.W.getD j V)))/\∀q,wr.frozen? ⟨D.gw,q,I⟩=V)) (fun i _=>X.C.length-(intOf i).toNat)
 case atStart=>exact⟨0,by omega,rfl,⟨But.refl _ _,fun j hj=>by rw[if_neg (by omega)];exact WP.out.1 j hj,WP.out.2⟩⟩
 case round=>
  obtain⟨k,hk,rfl,HR⟩:=hrel;have k9:wr.cell? ⟨b,9,I⟩=Q (kP (Q ⟨D.gw,0,I⟩) X.C.length X.C.length):=(HR.out.1.cell (a:=⟨b,9,I⟩) (z _ _ CP.out.2.1.2.2.2.2) hbg).trans CP.out.2.1.2.2.2.2
  have i0:(0:Int)<=(k:Int):=by omega
  by_cases hlt:k<X.C.length
  ·have i1:(k:Int)<(X.C.length:Int):=by omega
   have kk:=HR.out.2.1 k hlt;have kf:=HR.out.2.2
   have HN:Z (But (fun x=>x=D.gw) Wp (wr.setCell ⟨D.gw,k,I⟩ (H kC))/\(∀j,j<X.C.length->(wr.setCell ⟨D.gw,k,I⟩ (H kC)).cell? ⟨D.gw,j,I⟩=Q (H (if j<k+1 then kC else X.W.getD j V)))/\∀q,(wr.setCell ⟨D.gw,k,I⟩ (H kC)).frozen? ⟨D.gw,q,I⟩=V):=by
    refine⟨HR.out.1.setCell (a:=⟨D.gw,k,I⟩) (.inr rfl) _,fun j hj=> ?_,fun q=>by simpa using kf q⟩
    by_cases e:j=k
    ·subst e
     rw[if_pos (by omega)];exact kX _ _ _ kk
    ·rw[kK _ _ _ _ (fun e'=>e (by injection e' with _ e';exact e'.symm)),HR.out.2.1 j hj]
     by_cases e2:j<k
     ·rw[if_pos e2,if_pos (by omega)]
     ·rw[if_neg e2,if_neg (by omega)]
   clear HR
   go_wp2_with fail
   go_roundw
   case rel=>exact⟨k+1,by omega,by go_num,HN⟩
   case measure=>simp[intOf];omega
  ·have i1:¬(k:Int)<(X.C.length:Int):=by omega
   have ek:k=X.C.length:=by omega
   subst ek
   go_wp2_with fail
   go_end0
   have BF:But (fun x=>x=b\/x=D.gw) w wr:=((But.ygr HB.out).trans BP.out (fun _ _ h=> .inl h)).trans HR.out.1 (fun _ _ h=> .inr h);refine⟨rfl,?_,BF⟩;have h:=HX.out;obtain⟨_,o1,o2,_,_,o5⟩:=h.others BF;have hF:∀i,i≠0->i≠3->∀x,D.own b X.C.length X.G i x->¬(x=b\/x=D.gw):=fun i i0 i3 x hx e=>e.elim (fun e=>i0 (h.part i 0 x hx e)) (fun e=>i3 (h.part i 3 x hx e));have hlw:b<Wp.heap.size:=z _ _ CP.out.2.1.2.2.2.2;have kb:=HR.out.1.block b hlw hbg;obtain⟨⟨k0,k1,k2,k3,k4⟩,⟨k5,k6,k7,k8,k9'⟩,kf⟩:=CP.out
   have hWl:1<=X.W.length:=by rw[h.len];exact h.pos
   have hpart:∀i j x,({D with ag:=ag,cg:=cg,bz:=kC}:Rsd).own b X.C.length G i x->({D with ag:=ag,cg:=cg,bz:=kC}:Rsd).own b X.C.length G j x->i=j:=by
    have oth:∀i,i≠4->∀x,({D with ag:=ag,cg:=cg,bz:=kC}:Rsd).own b X.C.length G i x->D.own b X.C.length X.G i x/\D.own b X.C.length [] i x:=fun i hi x hx=>by
     match i with
     | 0=>exact⟨hx,hx⟩
     | 1=>exact⟨hx,hx⟩
     | 2=>exact⟨hx,hx⟩
     | 3=>exact⟨hx,hx⟩
     | 4=>exact absurd rfl hi
     | k+5=>exact⟨hx,hx⟩
    intro i j x hi hj
    by_cases ei:i=4
    ·by_cases ej:j=4
     ·rw[ei,ej]
     ·subst ei
      exact absurd ⟨j,(oth j ej x hj).2⟩ (HN.out x hi.2)
    ·by_cases ej:j=4
     ·subst ej
      exact absurd ⟨i,(oth i ei x hi).2⟩ (HN.out x hj.2)
     ·exact h.part i j x (oth i ei x hi).1 (oth j ej x hj).1
   refine⟨(U kb).trans k0,(U kb).trans k1,(U kb).trans k2,(U kb).trans k3,(U kb).trans k4,(U kb).trans k5,(U kb).trans k6,(U kb).trans k7,(U kb).trans k8,(U kb).trans k9',fun q=>(kJ kb).trans (kf q),o1 (hF 1 (by decide) (by decide)),o2 (hF 2 (by decide) (by decide)),fun k hk=>o5 k hk (hF _ (by omega) (by omega)),fun j hj=> ?_,HR.out.2.2,HG.out.but BF (fun g e hx=>HN.out g e (hx.elim (fun e=>⟨0,e⟩) (fun e=>⟨3,e⟩))),hpart,?_,h.pos,h.le,HM.out,hg4⟩
   ·have hj:j<X.C.length:=hj
    have e1:(X.post X.S ⟨p,s,f,r⟩ G).W.getD j V=kC:=Pg.yig X.W j (by rw[h.len];exact hj);rw[e1,HR.out.2.1 j hj,if_pos hj]
   ·show(X.W.map fun _=>kC).length=X.C.length
    rw[List.length_map];exact h.len
attribute [local go_sem] Loose.gent
theorem yd2 {D D':Rsd} {b n N:Nat} {G G':List Int} {l:Nat} (ho:∀i,i≠l->∀x,D'.own b n G' i x->D.own b n G i x) (hl:∀x,D'.own b n G' l x->D.own b n G l x\/N<=x):∀x,rsF D' b n G' x->rsF D b n G x\/N<=x:=by
 rintro x ⟨i,hx⟩
 by_cases e:i=l
 ·subst e
  exact(hl x hx).imp (fun h=>⟨_,h⟩) id
 ·exact .inl ⟨i,ho i e x hx⟩
theorem yc6 {b:Nat} {D:Rsd} {X:Pg.Spc} {k:Nat} (hk:k<X.C.length) (hw:X.W.getD k V=V) (w:kR) (h:Rsk w b D X):
 kL kV 59 #[o (Q ⟨b,0,I⟩),J Y (k:Int)] w fun e w'=>e=kF (Pg.Ev.code 9).val/\Below w.heap.size w w':=by
 obtain⟨W,hW⟩:∃W,W=w.alloc (kS #[J Y 0,H V,J Y 0,J Y 0,J Y 0,H V] 36):=⟨_,rfl⟩
 have hB:Below w.heap.size w W:=by rw[hW];exact zA (zR _) _
 have hWs:w.heap.size<W.heap.size:=by rw[hW];simp
 have R:W.heap[w.heap.size]?=Q (kS #[J Y 0,H V,J Y 0,J Y 0,J Y 0,H V] 36 (0,0)):=by rw[hW];exact kZ _ _
 obtain⟨⟨z0,z1,z2,z3,z4,z5⟩,zf⟩:=zp R;have HW:=h.grow hB;have c9:=HW.c9;have kk:=HW.wt k hk;rw[hw]at kk
 have i0:(0:Int)<=(k:Int):=by omega
 have i1:(k:Int)<(X.C.length:Int):=by omega
 have HB:Z _:=hB;clear h HW hw hB R
 go_enter Tryz.func59,Tryz.ntmps59
 go_upto_region 1 with fail
 rw[<-hW];clear hW
 go_wp2_with fail
 refine d (v:=(Pg.Ev.code 9).val) ?_ rfl ⟨rfl,?_⟩
 ·simp[results,Tryz.results59,go_sem,z0,z1,z2,z3,z4,z5,hWs,Pg.Ev.val,Pg.Ev.code]
 ·exact jj HB.out _ (kT _) _ _ _ _ _ _
def Pg.Spc.tell (X:Pg.Spc) (k:Nat):Pg.Spc:={X with C:=X.C.set k ((X.C.getD k Pg.Cr.new).told 0 X.T),W:=X.W.set k V}
theorem qE {D:Rsd} {b n k N:Nat} {G:List Int} {v':kH} (hk:k<n) (hF:∀x,bkF (D.cb k) v' x->bkF (D.cb k) (D.cv k) x\/N<=x):∀x,rsF {D with cv:=fun j=>if j=k then v' else D.cv j} b n G x->rsF D b n G x\/N<=x:=by
 refine yd2 (l:=k+5) (fun i hi x hx=> ?_) (fun x hx=> ?_)
 ·match i with
  | 0=>exact hx
  | 1=>exact hx
  | 2=>exact hx
  | 3=>exact hx
  | 4=>exact hx
  | j+5=>
    obtain⟨h1,h2⟩:=hx;simp only at h2;rw[if_neg (by omega)]at h2;exact⟨h1,h2⟩
 ·obtain⟨h1,h2⟩:=hx
  simp only[if_true]at h2;exact(hF x h2).imp (fun h=>⟨h1,h⟩) id
theorem jF {D:Rsd} {b n N:Nat} {G:List Int} {vm':kH} (hF:∀x,zN D.bm D.g0 D.g1 vm' x->zN D.bm D.g0 D.g1 D.vm x\/N<=x):∀x,rsF {D with vm:=vm'} b n G x->rsF D b n G x\/N<=x:=by
 refine yd2 (l:=1) (fun i hi x hx=> ?_) (fun x hx=>hF x hx)
 match i with
 | 0=>exact hx
 | 1=>exact absurd rfl hi
 | 2=>exact hx
 | 3=>exact hx
 | 4=>exact hx
 | k+5=>exact hx
theorem yc7 {b:Nat} {D:Rsd} {X:Pg.Spc} {k:Nat} (hk:k<X.C.length) (hw:X.W.getD k V=kC) (w:kR) (h:Rsk w b D X):
 kL kV 59 #[o (Q ⟨b,0,I⟩),J Y (k:Int)] w fun e w'=>e=kF (X.akE k).val/\∃D',Rsk w' b D' (X.akN k)/\(D.bz=X.busy->D'.bz=(X.akN k).busy)/\But (rsF D b X.C.length X.G) w w'/\∀x,rsF D' b X.C.length (X.akN k).G x->rsF D b X.C.length X.G x\/w.heap.size<=x:=by
 obtain⟨W,hW⟩:∃W,W=w.alloc (kS #[J Y 0,H V,J Y 0,J Y 0,J Y 0,H V] 36):=⟨_,rfl⟩
 have hB:Below w.heap.size w W:=by rw[hW];exact zA (zR _) _
 have hWs:w.heap.size<W.heap.size:=by rw[hW];simp
 have RZ:Z (W.heap[w.heap.size]?=Q (kS #[J Y 0,H V,J Y 0,J Y 0,J Y 0,H V] 36 (0,0))):=by rw[Z,hW];exact kZ _ _
 have HW:Z (Rsk W b D X):=h.grow hB;have c9:=HW.out.c9;have kk:=HW.out.wt k hk;rw[hw]at kk;have wf:=HW.out.wf
 have i0:(0:Int)<=(k:Int):=by omega
 have i1:(k:Int)<(X.C.length:Int):=by omega
 have HWK:Z (X.W.getD k V=kC):=hw;have HBZ:Z (X.busy=kC):=kE.2 ⟨kC,by rw[<-hw];exact Pg.yia (by rw[h.len];exact hk) _,rfl⟩;have LT:Z (∀x,rsF D b X.C.length X.G x->x<w.heap.size):=fun x ⟨i,hx⟩=>h.lt hx;obtain⟨P1,B1⟩:=HW.out.waited hk V;have P1:Z _:=P1;have B1:Z (But (rsF D b X.C.length X.G) w (W.setCell ⟨D.gw,k,I⟩ (H V))):=(But.ygr hB).trans B1 (fun x _ e=>⟨3,e⟩);have hgw:D.gw<w.heap.size:=LT.out _ ⟨3,rfl⟩
 have hgW:D.gw<W.heap.size:=by omega
 have RZ1:Z ((W.setCell ⟨D.gw,k,I⟩ (H V)).heap[w.heap.size]?=Q (kS #[J Y 0,H V,J Y 0,J Y 0,J Y 0,H V] 36 (0,0))):=(Below.heap_setCell _ _ _ _ (fun e=>by have e:D.gw=w.heap.size:=e.symm;omega)).trans RZ.out;clear h hB hw RZ
 go_enter Tryz.func59,Tryz.ntmps59
 go_upto_region 1 with fail
 rw[<-hW];clear hW
 go_upto_region 4 with fail
 have hW1s:w.heap.size<(W.setCell ⟨D.gw,k,I⟩ (H V)).heap.size:=by simpa using hWs
 generalize W.setCell ⟨D.gw,k,I⟩ (H V)=W1 at*;have hl1:({X with W:=X.W.set k V}:Pg.Spc).C.length=X.C.length:=rfl;have HC:=P1.out.core k hk;have HFT:Z (Pg.fits X.T.p):=P1.out.told;have g2:=O P1.out.c2;have gk:=O (P1.out.row k hk);have g5:=O P1.out.c5;have g6:=O P1.out.c6;have g7:=O P1.out.c7;have g8:=O P1.out.c8;clear c9 kk wf HC;refine Loose.ygt 11 (by kernel_rfl) (by kernel_rfl) ?_;simp only[kN,kU,kY,kO]
 repeat (
  refine Loose.zS (fun k hk=> ?_)
  go_simp
  (refine hk _ ?_;clear hk k))
 refine Loose.ygs ?_;intro w3 hb3;have P3:Z _:=P1.out.grow hb3;have B3:Z (But (rsF D b X.C.length X.G) w w3):=B1.out.trans (But.ygr (F:=fun _=>False) hb3) (fun _ _ h=>h.elim);have Z3:Z (w3.heap[w.heap.size]?=_):=(hb3.block _ hW1s).trans RZ1.out;have hs3:w.heap.size<w3.heap.size:=A hW1s hb3.size;have HD:=yaf X.T HFT.out w3 (P3.out.core k hk).co;simp only[Pg.Mp.val]at HD;clear hb3 g2 gk g5 g6 g7 g8 P1 B1 RZ1
 go_wp2_with fail
 refine HD.mono ?_;rintro e w4 ⟨rfl,v4,hc4,hg4,hF4⟩;have P4:Z _:=P3.out.asked hk ((P3.out.core k hk).yiG hc4 hg4) hg4.but hF4;have B4:Z (But (rsF D b X.C.length X.G) w w4):=B3.out.trans hg4.but (fun x _ hx=>⟨k+5,hk,hx⟩);have F4:Z (∀x,rsF {D with cv:=fun j=>if j=k then v4 else D.cv j} b X.C.length X.G x->rsF D b X.C.length X.G x\/w.heap.size<x):=fun x hx=>(qE hk hF4 x hx).imp id (fun h=>by omega);have Z4:Z (w4.heap[w.heap.size]?=_):=(hg4.but.block _ hs3 (fun e=>by have:=LT.out _ ⟨k+5,hk,e⟩;omega)).trans Z3.out;have hs4:w.heap.size<w4.heap.size:=A hs3 hg4.but.size;generalize hD4:({D with cv:=fun j=>if j=k then v4 else D.cv j}:Rsd)=D4 at*
 have q1:Z (D4.bz=D.bz):=by rw[Z,<-hD4]
 obtain⟨X4,hX4⟩:∃X4,X4=({X with C:=X.C.set k ⟨Pg.ygU (X.C.getD k Pg.Cr.new).L X.T,(X.C.getD k Pg.Cr.new).K⟩,W:=X.W.set k V}:Pg.Spc):=⟨_,rfl⟩
 have P4:Z (Rsk w4 b D4 X4):=by rw[Z,hX4];exact P4.out
 have n4:X4.C.length=X.C.length:=by rw[hX4];exact kQ
 have hk4:k<X4.C.length:=by rw[n4];exact hk
 have e4:X4.C.getD k Pg.Cr.new=⟨Pg.ygU (X.C.getD k Pg.Cr.new).L X.T,(X.C.getD k Pg.Cr.new).K⟩:=by rw[hX4];simp[List.getD,hk]
 clear hc4 hg4 hF4 HD P3 B3 Z3 hD4;have g2:=O P4.out.c2;have gk:=O (P4.out.row k hk4);have g1:=O P4.out.c1;rw[n4]at g2
 go_upto_region 5 with fail
 refine Loose.ygt 11 (by kernel_rfl) (by kernel_rfl) ?_;simp only[kN,kU,kY,kO]
 repeat (
  refine Loose.zS (fun k hk=> ?_)
  go_simp
  (refine hk _ ?_;clear hk k))
 refine Loose.ygs ?_;intro w5 hb5;have P5:Z _:=P4.out.grow hb5;have B5:Z (But (rsF D b X.C.length X.G) w w5):=B4.out.trans (But.ygr (F:=fun _=>False) hb5) (fun _ _ h=>h.elim);have Z5:Z (w5.heap[w.heap.size]?=_):=(hb5.block _ hs4).trans Z4.out;have hs5:w.heap.size<w5.heap.size:=A hs4 hb5.size;have HA:=yab (root:=0) w5 (P5.out.core k hk4).ck;clear hb5 g2 gk g1 P4 B4 Z4
 go_wp2_with fail
 refine HA.mono ?_;rintro e w6 ⟨rfl,hc6,hg6⟩;have hok:=(P5.out.core k hk4).ok;have P6:=P5.out.asked hk4 ((P5.out.core k hk4).yhX hc6 (hok.again 0) hg6 (fun j hj e=>(P5.out.core k hk4).co.nb (e▸hj))) (hg6.but.mono (fun _ _ h=> .inl h)) (fun x hx=> .inl hx)
 have B6:Z (But (rsF D b X.C.length X.G) w w6):=B5.out.trans hg6.but (fun x hx e=>by
  rcases F4.out x ⟨k+5,hk,.inl e⟩with h|h
  ·exact h
  ·omega)
 have F6:Z (∀x,rsF {D4 with cv:=fun j=>if j=k then D4.cv k else D4.cv j} b X.C.length X.G x->rsF D b X.C.length X.G x\/w.heap.size<x):=fun x hx=>by
  rcases qE (N:=w5.heap.size) hk (fun x hx=> .inl hx) x hx with h|h
  ·exact F4.out x h
  ·exact .inr (by omega)
 have Z6:Z (w6.heap[w.heap.size]?=Q (kS #[J Y 0,H V,J Y 0,J Y 0,J Y 0,H V] 36 (0,0))):=(hg6.but.block _ hs5 (fun e=>by
  rcases F4.out w.heap.size ⟨k+5,hk,.inl e⟩with h|h
  ·have:=LT.out _ h
   omega
  ·omega)).trans Z5.out
 have hs6:w.heap.size<w6.heap.size:=A hs5 hg6.but.size;have q6:Z (({D4 with cv:=fun j=>if j=k then D4.cv k else D4.cv j}:Rsd).bz=D.bz):=q1.out
 have eX:({X4 with C:=X4.C.set k ⟨(X4.C.getD k Pg.Cr.new).L,(X4.C.getD k Pg.Cr.new).K.again 0⟩}:Pg.Spc)=X.tell k:=by
  rw[e4,hX4];unfold Pg.Spc.tell Pg.Cr.told;simp only[List.set_set]
 rw[eX]at P6;generalize ({D4 with cv:=fun j=>if j=k then D4.cv k else D4.cv j}:Rsd)=D6 at*;have P6:Z (Rsk w6 b D6 (X.tell k)):=P6;have n6:(X.tell k).C.length=X.C.length:=kQ;have eW:(X.tell k).W=X.W.set k V:=rfl;have eG:(X.tell k).G=X.G:=rfl;clear hc6 hg6 HA P5 B5 Z5 F4 q1 eX e4 hX4 hk4 n4 hok
 have hn4:X.C.length<=4:=by have:=P6.out.le;rw[n6]at this;exact this
 go_wp2_with fail
 go_loopw [5] (fun i wr=>∃j:Nat,j<=X.C.length/\i=J Y j/\Z ((∀t,t<j->(X.W.set k V).getD t V=V)/\Below w6.heap.size w6 wr)) (fun i _=>X.C.length-(intOf i).toNat)
 case atStart=>exact⟨0,by omega,rfl,⟨fun t ht=>by omega,zR _⟩⟩
 case round=>
  obtain⟨j,hj,rfl,HR⟩:=hrel;have PR:Z _:=P6.out.grow HR.out.2;have c9:=PR.out.c9;rw[n6]at c9
  have j0:(0:Int)<=(j:Int):=by omega
  by_cases hlt:j<X.C.length
  ·have j1:(j:Int)<(X.C.length:Int):=by omega
   have kj:=PR.out.wt j (by rw[n6];exact hlt);rw[eW]at kj;cases hv:(X.W.set k V).getD j V
   ·rw[hv]at kj
    have HN:Z (∀t,t<j+1->(X.W.set k V).getD t V=V):=fun t ht=>by
     by_cases e:t=j
     ·rw[e];exact hv
     ·exact HR.out.1 t (by omega)
    clear hv
    go_wp2_with fail
    go_roundw
    case rel=>exact⟨j+1,by omega,by go_num,⟨HN.out,HR.out.2⟩⟩
    case measure=>simp[intOf];omega
   ·rw[hv]at kj
    have hany:(X.W.set k V).any id=kC:=kE.2 ⟨kC,by rw[<-hv];exact Pg.yia (by have:=P6.out.len;rw[eW,n6]at this;omega) _,rfl⟩
    have eE:X.akE k= .code 0:=by
     unfold Pg.Spc.akE;rw[kI,if_neg (by rw[HWK.out];decide),if_pos hany]
    have eN:X.akN k=X.tell k:=by
     unfold Pg.Spc.akN;rw[kI,if_neg (by rw[HWK.out];decide),if_pos hany];rfl
    have hbz:(X.tell k).busy=kC:=hany;have HE:Z _:=eE;have ZR:wr.heap[w.heap.size]?=_:=(HR.out.2.block _ hs6).trans Z6.out;obtain⟨⟨z0,z1,z2,z3,z4,z5⟩,zf⟩:=zp ZR;have hsr:w.heap.size<wr.heap.size:=A hs6 HR.out.2.size
    have FIN:Z (∀Wf,But (fun x=>x=w.heap.size) wr Wf->∃D',Rsk Wf b D' (X.akN k)/\(D.bz=X.busy->D'.bz=(X.akN k).busy)/\But (rsF D b X.C.length X.G) w Wf/\∀x,rsF D' b X.C.length (X.akN k).G x->rsF D b X.C.length X.G x\/w.heap.size<=x):=fun Wf hb=>by
     rw[eN,hbz];refine⟨D6,PR.out.keep hb (fun x hx e=> ?_),fun e=>q6.out.trans (e.trans HBZ.out),(B6.out.trans (But.ygr (F:=fun _=>False) HR.out.2) (fun _ _ h=>h.elim)).trans hb (fun x hx e=>by omega),fun x hx=>(F6.out x hx).imp id (fun h=>by omega)⟩;rw[n6,eG]at hx;rcases F6.out x hx with h|h
     ·have:=LT.out _ h
      omega
     ·omega
    clear hv HR PR P6 Z6 B6 ZR eE eN hany hbz
    go_wp2_with fail
    refine d (v:=(X.akE k).val) ?_ rfl ⟨rfl,FIN.out _ ?_⟩
    ·rw[HE.out]
     simp[results,Tryz.results59,go_sem,z0,z1,z2,z3,z4,z5,hsr,Pg.Ev.val,Pg.Ev.code]
    ·exact qB (But.refl (fun x=>x=w.heap.size) wr) _ (.inr rfl) _ _ _ _ _ _
  ·have j1:¬(j:Int)<(X.C.length:Int):=by omega
   have hlenW:(X.W.set k V).length=X.C.length:=by have:=P6.out.len;rw[eW,n6]at this;exact this
   have hany:(X.W.set k V).any id=V:=by
    cases hv:(X.W.set k V).any id
    ·rfl
    ·obtain⟨y,hy,hy2⟩:=kE.1 hv
     obtain⟨t,ht,rfl⟩:=List.mem_iff_getElem.1 hy;have:=HR.out.1 t (by omega);rw[show(X.W.set k V).getD t V=(X.W.set k V)[t]from by simp only[List.getD,List.getElem?_eq_getElem ht,Option.getD_some]]at this;rw[this]at hy2;cases hy2
   have HE:Z (X.akE k=⟨0,V,0,0,0,kC⟩):=by
    rw[Z];unfold Pg.Spc.akE;rw[kI,if_neg (by rw[HWK.out];decide),if_neg (by rw[hany];decide)]
   have HN:Z (X.akN k={X.tell k with S:=Pg.gives X.G X.S,G:=[]}):=by
    rw[Z];unfold Pg.Spc.akN;rw[kI,if_neg (by rw[HWK.out];decide),if_neg (by rw[hany];decide)];rfl
   have HBN:Z (({X.tell k with S:=Pg.gives X.G X.S,G:=[]}:Pg.Spc).busy=V):=hany;have ZR:Z (wr.heap[w.heap.size]?=_):=(HR.out.2.block _ hs6).trans Z6.out;have hsr:w.heap.size<wr.heap.size:=A hs6 HR.out.2.size;have BR:Z (But (rsF D b X.C.length X.G) w wr):=B6.out.trans (But.ygr (F:=fun _=>False) HR.out.2) (fun _ _ h=>h.elim);have hg4:X.G.length<=4680:=P6.out.few;clear hany HR P6 Z6 B6
   go_wp2_with fail
   go_loopw [6] (fun i wq=>∃t:Nat,t<=X.G.length/\i=J Y t/\Z (∃vm,Rsk wq b {D6 with vm:=vm} {X.tell k with S:=Pg.gives (X.G.take t) X.S}/\But (rsF D b X.C.length X.G) w wq/\(∀x,rsF {D6 with vm:=vm} b X.C.length X.G x->rsF D b X.C.length X.G x\/w.heap.size<x)/\wq.heap[w.heap.size]?=Q (kS #[J Y 0,H V,J Y 0,J Y 0,J Y 0,H V] 36 (0,0))/\w.heap.size<wq.heap.size)) (fun i _=>X.G.length-(intOf i).toNat)
   case atStart=>exact⟨0,by omega,rfl,⟨D6.vm,PR.out,BR.out,F6.out,ZR.out,hsr⟩⟩
   case round=>
    obtain⟨t,ht,rfl,HQ⟩:=hrel;clear PR BR ZR c9 F6;obtain⟨vm,PQ,BQ,FQ,ZQ,hsq⟩:=HQ.out;have PQ:Z _:=PQ;have BQ:Z _:=BQ;have FQ:Z _:=FQ;have ZQ:Z _:=ZQ;clear HQ
    have t0:(0:Int)<=(t:Int):=by omega
    have q4:=PQ.out.c4;simp only[eG]at q4
    by_cases hlt:t<X.G.length
    ·have t1:(t:Int)<(X.G.length:Int):=by omega
     obtain⟨g,eg,hgl,hgc⟩:=PQ.out.gone t hlt;simp only at eg;rw[eg]at q4;have hgc:wr.cell? ⟨g,t,I⟩=Q (J Y (X.G.getD t 0)):=hgc;have g4:=O q4;have gg:=O hgc;have g0:=O PQ.out.c0;simp only at g0
     have HSN:Z (Pg.gives (X.G.take (t+1)) X.S=(Pg.gives (X.G.take t) X.S).give (X.G.getD t 0)):=by
      rw[Z,show X.G.take (t+1)=X.G.take t++[X.G.getD t 0]from by rw[List.take_succ_eq_append_getElem hlt];simp[List.getD,hlt],yaq]
     generalize X.G.getD t 0=y at*;clear hgc hgl
     go_upto_region 14 with fail
     clear q4;refine Loose.ygt 11 (by kernel_rfl) (by kernel_rfl) ?_;simp only[kN,kU,kY,kO]
     repeat (
      refine Loose.zS (fun k hk=> ?_)
      go_simp
      (refine hk _ ?_;clear hk k))
     refine Loose.ygs ?_;intro w8 hb8;have P8:Z _:=PQ.out.grow hb8;have HV:=ycb y w8 P8.out.mem;simp only at HV;have B8:Z (But (rsF D b X.C.length X.G) w w8):=BQ.out.trans (But.ygr (F:=fun _=>False) hb8) (fun _ _ h=>h.elim);have Z8:Z (w8.heap[w.heap.size]?=_):=(hb8.block _ hsq).trans ZQ.out;have hs8:w.heap.size<w8.heap.size:=A hsq hb8.size;clear hb8 g4 gg g0 PQ BQ ZQ
     go_wp2_with fail
     refine HV.mono ?_;rintro e w9 ⟨rfl,v9,hm9,hb9,hF9⟩
     have M9:∀x,zN D6.bm D6.g0 D6.g1 v9 x->zN D6.bm D6.g0 D6.g1 vm x\/w8.heap.size<=x:=fun x hx=>by
      rcases hx with hx|hx|hx|hx
      ·exact .inl (.inl hx)
      ·exact .inl (.inr (.inl hx))
      ·exact .inl (.inr (.inr (.inl hx)))
      ·rcases hF9 with h|⟨j',h,h'⟩
       ·exact .inl (.inr (.inr (.inr (h▸hx))))
       ·rw[h]at hx
        injection hx with hx;exact .inr (by omega)
     have P9:Z (Rsk w9 b {D6 with vm:=v9} {X.tell k with S:=Pg.gives (X.G.take (t+1)) X.S}):=by
      rw[Z,HSN.out];exact P8.out.frames hm9 hb9 M9
     have NF:¬zN D6.bm D6.g0 D6.g1 vm w.heap.size:=fun e=>by
      rcases FQ.out _ ⟨1,e⟩with h|h
      ·have:=LT.out _ h
       omega
      ·omega
     have B9:Z (But (rsF D b X.C.length X.G) w w9):=B8.out.trans hb9 (fun x hx e=>by
      rcases FQ.out x ⟨1,e⟩with h|h
      ·exact h
      ·omega)
     have F9:Z (∀x,rsF {D6 with vm:=v9} b X.C.length X.G x->rsF D b X.C.length X.G x\/w.heap.size<x):=fun x hx=>by
      rcases jF (D:={D6 with vm:=vm}) M9 x hx with h|h
      ·exact FQ.out x h
      ·exact .inr (by omega)
     have Z9:Z (w9.heap[w.heap.size]?=_):=(hb9.block _ hs8 NF).trans Z8.out;have hs9:w.heap.size<w9.heap.size:=A hs8 hb9.size;clear hm9 hb9 hF9 M9 P8 B8 Z8 FQ HV HSN NF
     go_wp2_with fail
     go_roundw
     case rel=>exact⟨t+1,by omega,by go_num,⟨v9,P9.out,B9.out,F9.out,Z9.out,hs9⟩⟩
     case measure=>simp[intOf];omega
    ·have t1:¬(t:Int)<(X.G.length:Int):=by omega
     have et:t=X.G.length:=by omega
     subst et;have q3:=PQ.out.c3;have qf:=PQ.out.fb;obtain⟨PO,BO⟩:=PQ.out.over;rw[List.take_length]at PO;have hbl:=PQ.out.lb
     have hbw:b≠w.heap.size:=fun e=>by have:=LT.out b ⟨0,rfl⟩;omega
     have hwb:w.heap.size≠b:=fun e=>hbw e.symm;have ZO:((wr.setCell ⟨b,3,I⟩ (H V)).setCell ⟨b,4,I⟩ (kP I 0 0)).heap[w.heap.size]?=_:=(BO.block _ hsq hwb).trans ZQ.out
     have FIN:Z (∀Wf,But (fun x=>x=w.heap.size) ((wr.setCell ⟨b,3,I⟩ (H V)).setCell ⟨b,4,I⟩ (kP I 0 0)) Wf->∃D',Rsk Wf b D' (X.akN k)/\(D.bz=X.busy->D'.bz=(X.akN k).busy)/\But (rsF D b X.C.length X.G) w Wf/\∀x,rsF D' b X.C.length (X.akN k).G x->rsF D b X.C.length X.G x\/w.heap.size<=x):=fun Wf hb=>by
      rw[HN.out,HBN.out]
      have hsub:∀x,rsF {D6 with vm:=vm,bz:=V,ag:=I,cg:=0} b X.C.length [] x->rsF D b X.C.length X.G x\/w.heap.size<x:=by
       rintro x ⟨i,hx⟩;refine FQ.out x ⟨i,?_⟩
       match i with
       | 0=>exact hx
       | 1=>exact hx
       | 2=>exact hx
       | 3=>exact hx
       | 4=>exact absurd rfl hx.1
       | k+5=>exact hx
      refine⟨_,PO.keep hb (fun x hx e=> ?_),fun _=>rfl,(BQ.out.trans BO (fun x _ e=>⟨0,e⟩)).trans hb (fun x hx e=>by omega),fun x hx=>(hsub x hx).imp id (fun h=>by omega)⟩;rw[show({X.tell k with S:=Pg.gives X.G X.S,G:=[]}:Pg.Spc).C.length=X.C.length from n6]at hx;rcases hsub x hx with h|h
      ·have:=LT.out _ h
       omega
      ·omega
     obtain⟨⟨z0,z1,z2,z3,z4,z5⟩,zf⟩:=zp ZO;clear PO BO ZO PQ BQ FQ ZQ
     go_upto_region 16 with fail
     have hso:w.heap.size<((wr.setCell ⟨b,3,I⟩ (H V)).setCell ⟨b,4,I⟩ (kP I 0 0)).heap.size:=by simpa using hsq
     generalize (wr.setCell ⟨b,3,I⟩ (H V)).setCell ⟨b,4,I⟩ (kP I 0 0)=WO at*;clear q3 q4 qf
     go_wp2_with fail
     refine d (v:=(X.akE k).val) ?_ rfl ⟨rfl,FIN.out _ ?_⟩
     ·rw[HE.out]
      simp[results,Tryz.results59,go_sem,z0,z1,z2,z3,z4,z5,hso,Pg.Ev.val]
     ·exact qB (But.refl (fun x=>x=w.heap.size) WO) _ (.inr rfl) _ _ _ _ _ _
structure zo (w:kR) (b:Nat) (D:Rsd) (X X':Pg.Spc) (w':kR):Prop where
 ex:∃D',Rsk w' b D' X'/\(D.bz=X.busy->D'.bz=X'.busy)/\But (rsF D b X.C.length X.G) w w'/\∀x,rsF D' b X'.C.length X'.G x->rsF D b X.C.length X.G x\/w.heap.size<=x
theorem zo.same {w w':kR} {b:Nat} {D:Rsd} {X:Pg.Spc} (h:Rsk w b D X) (hb:Below w.heap.size w w'):zo w b D X X w':=⟨D,h.grow hb,id,But.ygr hb,fun x hx=> .inl hx⟩
theorem ydZ {b:Nat} {D:Rsd} {X:Pg.Spc} {k:Nat} (hk:k<X.C.length) (w:kR) (h:Rsk w b D X):
 kL kV 59 #[o (Q ⟨b,0,I⟩),J Y (k:Int)] w fun e w'=>e=kF (X.akE k).val/\zo w b D X (X.akN k) w':=by
 cases hw:X.W.getD k V
 ·have e1:X.akE k= .code 9:=by unfold Pg.Spc.akE;rw[kI,if_pos hw]
  have e2:X.akN k=X:=by unfold Pg.Spc.akN;rw[kI,if_pos hw]
  rw[e1,e2];refine(yc6 hk hw w h).mono ?_;rintro e w' ⟨rfl,hb⟩;exact⟨rfl,.same h hb⟩
 ·refine(yc7 hk hw w h).mono ?_
  rintro e w' ⟨rfl,D',h1,h2,h3,h4⟩;refine⟨rfl,D',h1,h2,h3,?_⟩
  have:(X.akN k).C.length=X.C.length:=by
   unfold Pg.Spc.akN;split
   ·rfl
   ·split<;>exact kQ
  rw[this];exact h4
theorem yaT {b:Nat} {D:Rsd} {X:Pg.Spc} (x:Pg.Sx) (w:kR) (h:Rsk w b D X) (hz:D.bz=kC):
 kL kV 55 #[o (Q ⟨b,0,I⟩),x.val] w fun e w'=>e=kF (Pg.Ev.code 8).val/\Below w.heap.size w w':=by
 obtain⟨W,hW⟩:∃W,W=chW w x:=⟨_,rfl⟩
 have CW:Z (ChW w W x):=by rw[hW];exact xt w x
 have c3:=(h.grow CW.out.bel).c3;rw[hz]at c3;obtain⟨⟨z0,z1,z2,z3,z4,z5⟩,zf⟩:=zp CW.out.ev
 have hWs:w.heap.size+1<W.heap.size:=by rw[CW.out.size];omega
 clear h hz;simp only[chW,Pg.Sx.val]at hW ⊢
 go_enter Tryz.func55,Tryz.ntmps55
 go_upto_region 1 with fail
 rw[<-hW];clear hW
 go_wp2_with fail
 refine d (v:=(Pg.Ev.code 8).val) ?_ rfl ⟨rfl,?_⟩
 ·simp[results,Tryz.results55,go_sem,z0,z1,z2,z3,z4,z5,hWs,Pg.Ev.val,Pg.Ev.code]
 ·exact jj CW.out.bel _ (by omega) _ _ _ _ _ _
theorem ybz {b:Nat} {D:Rsd} {X:Pg.Spc} (x:Pg.Sx) (hk:x.kind=1) (w:kR) (h:Rsk w b D X) (hz:D.bz=V):
 kL kV 55 #[o (Q ⟨b,0,I⟩),x.val] w fun e w'=>e=kF (⟨Pg.insC X.S 0 x.m,V,0,0,0,decide (Pg.insC X.S 0 x.m=0)⟩:Pg.Ev).val/\zo w b D X {X with S:=Pg.insS X.S 0 x.m} w':=by
 obtain⟨kd,co,⟨p,s,f,r⟩,q,k,u⟩:=x;simp only at hk;subst hk;obtain⟨W,hW⟩:∃W,W=chW w ⟨1,co,⟨p,s,f,r⟩,q,k,u⟩:=⟨_,rfl⟩
 have CW:Z (ChW w W ⟨1,co,⟨p,s,f,r⟩,q,k,u⟩):=by rw[hW];exact xt w _
 have PW:Z _:=h.grow CW.out.bel;have LT:Z (∀x,rsF D b X.C.length X.G x->x<w.heap.size):=fun x ⟨i,hx⟩=>h.lt hx;have c3:=PW.out.c3;rw[hz]at c3;have x0:=CW.out.x0;simp only at x0
 have hWs:w.heap.size+1<W.heap.size:=by rw[CW.out.size];omega
 have g0:=O PW.out.c0;have g1:=O PW.out.c1;have y2:=O CW.out.x2;have y3:=O CW.out.x3;have y4:=O CW.out.x4;have y5:=O CW.out.x5;simp only at y2 y3 y4 y5;clear h hz;simp only[chW,Pg.Sx.val]at hW ⊢
 go_enter Tryz.func55,Tryz.ntmps55
 go_upto_region 1 with fail
 rw[<-hW];clear hW
 go_upto_region 4 with fail
 refine Loose.ygt 10 (by kernel_rfl) (by kernel_rfl) ?_;simp only[kN,kU,kY,kO]
 repeat (
  refine Loose.zS (fun k hk=> ?_)
  go_simp
  (refine hk _ ?_;clear hk k))
 refine Loose.ygs ?_;intro w3 hb3;have P3:Z _:=PW.out.grow hb3;have E3:Z (w3.heap[w.heap.size+1]?=_):=(hb3.block _ hWs).trans CW.out.ev;have hs3:w.heap.size+1<w3.heap.size:=A hWs hb3.size;have B3:Z (Below w.heap.size w w3):=zT CW.out.bel hb3;have HI:=ybi 0 ⟨p,s,f,r⟩ w3 P3.out.mem;simp only[Pg.Mp.val]at HI;clear hb3 g0 g1 y2 y3 y4 y5 c3 x0 PW CW
 go_wp2_with fail
 refine HI.mono ?_;rintro e w4 ⟨rfl,v4,hm4,hb4,hv4⟩
 have M4:∀x,zN D.bm D.g0 D.g1 v4 x->zN D.bm D.g0 D.g1 D.vm x\/w3.heap.size<=x:=fun x hx=>by
  rcases hx with hx|hx|hx|hx
  ·exact .inl (.inl hx)
  ·exact .inl (.inr (.inl hx))
  ·exact .inl (.inr (.inr (.inl hx)))
  ·exact .inl (.inr (.inr (.inr (hv4▸hx))))
 have P4:Z _:=P3.out.frames hm4 hb4 M4
 have NE:¬zN D.bm D.g0 D.g1 D.vm (w.heap.size+1):=fun e=>by have:=LT.out _ ⟨1,e⟩;omega
 have E4:w4.heap[w.heap.size+1]?=_:=(hb4.block _ hs3 NE).trans E3.out;have hs4:w.heap.size+1<w4.heap.size:=A hs3 hb4.size;obtain⟨⟨z0,z1,z2,z3,z4,z5⟩,zf⟩:=zp E4
 have FIN:Z (∀Wf,But (fun x=>x=w.heap.size+1) w4 Wf->zo w b D X {X with S:=Pg.insS X.S 0 ⟨p,s,f,r⟩} Wf):=fun Wf hb=>by
  have hsub:∀x,rsF {D with vm:=v4} b X.C.length X.G x->rsF D b X.C.length X.G x:=fun x hx=>by
   rcases jF M4 x hx with h|h
   ·exact h
   ·obtain⟨i,hi⟩:=hx
    have:=P4.out.lt hi
    rcases jF (N:=w4.heap.size+1) (fun x hx=>by
     rcases hx with hx|hx|hx|hx
     ·exact .inl (.inl hx)
     ·exact .inl (.inr (.inl hx))
     ·exact .inl (.inr (.inr (.inl hx)))
     ·exact .inl (.inr (.inr (.inr (hv4▸hx))))) x ⟨i,hi⟩with h'|h'
    ·exact h'
    ·omega
  refine⟨_,P4.out.keep hb (fun x hx e=> ?_),id,((But.ygr B3.out).trans hb4 (fun x _ e=>⟨1,e⟩)).trans hb (fun x hx e=>by omega),fun x hx=> .inl (hsub x hx)⟩;have:=LT.out _ (hsub x hx);omega
 clear hm4 hb4 hv4 M4 P4 P3 E3 E4 HI NE B3
 go_wp2_with fail
 refine d (v:=(⟨Pg.insC X.S 0 ⟨p,s,f,r⟩,V,0,0,0,decide (Pg.insC X.S 0 ⟨p,s,f,r⟩=0)⟩:Pg.Ev).val) ?_ rfl ⟨rfl,FIN.out _ ?_⟩
 ·rw[show decide (Pg.insC X.S 0 ⟨p,s,f,r⟩=0)=(Pg.insC X.S 0 ⟨p,s,f,r⟩==0)from rfl]
  simp[results,Tryz.results55,go_sem,z0,z1,z2,z3,z4,z5,hs4,Pg.Ev.val]
 ·exact qB (But.refl (fun x=>x=w.heap.size+1) w4) _ (.inr rfl) _ _ _ _ _ _
structure ChM (w w':kR) (b:Nat) (D:Rsd) (X:Pg.Spc) (S':Pg.Fs) (x:Pg.Sx) (m:Pg.Mp):Prop where
 rs:Rsk w' b D {X with S:=S'}
 but:But (rsF D b X.C.length X.G) w w'
 ev:w'.heap[w.heap.size+1]?=Q (kS #[J Y 0,H V,J Y 0,J Y 0,J Y 0,H V] 36 (0,0))
 size:w.heap.size+2<w'.heap.size
 m0:w'.cell? ⟨w.heap.size+2,0,I⟩=Q (J Y m.p)
 m1:w'.cell? ⟨w.heap.size+2,1,I⟩=Q (J Y m.s)
 m2:w'.cell? ⟨w.heap.size+2,2,I⟩=Q (J Y m.f)
 m3:w'.cell? ⟨w.heap.size+2,3,I⟩=Q (J Y m.r)
theorem ybx {w:kR} {r:Nat} {v0 v1 v2 v3:kH} {t:TypeId} (h:w.heap[r]?=Q (kS #[v0,v1,v2,v3] t (0,0))):
 (w.cell? ⟨r,0,I⟩=Q v0/\w.cell? ⟨r,1,I⟩=Q v1/\w.cell? ⟨r,2,I⟩=Q v2/\w.cell? ⟨r,3,I⟩=Q v3)/\∀i,w.frozen? ⟨r,i,I⟩=V:=
 ⟨by simp[World.cell?,h],fun i=>by simp[World.frozen?,h]⟩
theorem ChM.made {w w4:kR} {b:Nat} {D:Rsd} {X:Pg.Spc} {S':Pg.Fs} {x:Pg.Sx} {m:Pg.Mp} {v0 v1 v2 v3:kH} {t:TypeId} (P:Rsk w4 b D {X with S:=S'}) (B:But (rsF D b X.C.length X.G) w w4) (lt:∀x,rsF D b X.C.length X.G x->x<w.heap.size)
 (E:w4.heap[w.heap.size+1]?=Q (kS #[J Y 0,H V,J Y 0,J Y 0,J Y 0,H V] 36 (0,0))) (s:w.heap.size+2<w4.heap.size) (M:w4.heap[w.heap.size+2]?=Q (kS #[v0,v1,v2,v3] t (0,0))):
 ChM w ((((w4.setCell ⟨w.heap.size+2,0,I⟩ (J Y m.p)).setCell ⟨w.heap.size+2,1,I⟩ (J Y m.s)).setCell ⟨w.heap.size+2,2,I⟩ (J Y m.f)).setCell ⟨w.heap.size+2,3,I⟩ (J Y m.r)) b D X S' x m:=by
 obtain⟨⟨z0,z1,z2,z3⟩,zf⟩:=ybx M
 have hb:But (fun x=>x=w.heap.size+2) w4 ((((w4.setCell ⟨w.heap.size+2,0,I⟩ (J Y m.p)).setCell ⟨w.heap.size+2,1,I⟩ (J Y m.s)).setCell ⟨w.heap.size+2,2,I⟩ (J Y m.f)).setCell ⟨w.heap.size+2,3,I⟩ (J Y m.r)):=
  ((((But.refl (fun x=>x=w.heap.size+2) w4).setCell (a:=⟨w.heap.size+2,0,I⟩) (.inr rfl) _).setCell (a:=⟨w.heap.size+2,1,I⟩) (.inr rfl) _).setCell (a:=⟨w.heap.size+2,2,I⟩) (.inr rfl) _).setCell (a:=⟨w.heap.size+2,3,I⟩) (.inr rfl) _
 refine⟨P.keep hb (fun x hx e=>by have:=lt x hx;omega),B.trans hb (fun x hx e=>by omega),(hb.block _ (by omega) (by omega)).trans E,by simpa using s,?_,?_,?_,?_⟩<;>simp[go_sem,z0,z1,z2,z3]
theorem vU {b:Nat} {D:Rsd} {X X':Pg.Spc} (x:Pg.Sx) (hk:x.kind=2) (w:kR) (h:Rsk w b D X) (hz:D.bz=V) (h1:Pg.tFC X.S 0 x.m.p=0->X'=X.post (Pg.rmR X.S 0 x.m.p).1 (Pg.tFM X.S 0 x.m.p) (Pg.rmR X.S 0 x.m.p).2) (h2:Pg.tFC X.S 0 x.m.p≠0->X'=X):
 kL kV 55 #[o (Q ⟨b,0,I⟩),x.val] w fun e w'=>e=kF (Pg.Ev.code (Pg.tFC X.S 0 x.m.p)).val/\zo w b D X X' w':=by
 obtain⟨kd,co,⟨p,s,f,r⟩,q,k,u⟩:=x;simp only at hk h1 h2;subst hk;obtain⟨W,hW⟩:∃W,W=chW w ⟨2,co,⟨p,s,f,r⟩,q,k,u⟩:=⟨_,rfl⟩
 have CW:Z (ChW w W ⟨2,co,⟨p,s,f,r⟩,q,k,u⟩):=by rw[hW];exact xt w _
 have PW:Z _:=h.grow CW.out.bel;have LT:Z (∀x,rsF D b X.C.length X.G x->x<w.heap.size):=fun x ⟨i,hx⟩=>h.lt hx;have c3:=PW.out.c3;rw[hz]at c3;have x0:=CW.out.x0;simp only at x0;have hWs:W.heap.size=w.heap.size+2:=CW.out.size
 have hx0:w.heap.size<W.heap.size:=by omega
 obtain⟨W2,hW2⟩:∃W2,W2=W.alloc (kS #[J Y 0,J Y 0,J Y 0,J Y 0] 39):=⟨_,rfl⟩
 have hb2:Below W.heap.size W W2:=by rw[hW2];exact zA (zR _) _
 have M2:Z (W2.heap[w.heap.size+2]?=Q (kS #[J Y 0,J Y 0,J Y 0,J Y 0] 39 (0,0))):=by rw[Z,hW2,<-hWs];exact kZ _ _
 have hs2:W2.heap.size=w.heap.size+3:=by rw[hW2];simp[hWs]
 have P2:Z _:=PW.out.grow hb2;have E2:Z (W2.heap[w.heap.size+1]?=_):=(hb2.block _ (by omega)).trans CW.out.ev;have y0:=(hb2.cell (p:=⟨w.heap.size,0,I⟩) hx0).trans CW.out.x0;have y2:=(hb2.cell (p:=⟨w.heap.size,2,I⟩) hx0).trans CW.out.x2;simp only at y0 y2;have B2:Z (Below w.heap.size w W2):=zT CW.out.bel hb2;have HI:=fun w3 (hm:zg w3 D.bm D.g0 D.g1 D.vm X.S)=>vS 0 p w3 hm;have HFM:Z (Pg.fits (Pg.tFM X.S 0 p).p):=Pg.yh0 X.S p;have HL:Z ((Pg.rmR X.S 0 p).2.length<=4680):=ydX _ _ _
 have HR0:Z (Pg.tFC X.S 0 p≠0->(Pg.rmR X.S 0 p).1=X.S):=fun e=>by unfold Pg.rmR;rw[if_neg e]
 have H1:Z _:=h1;have H2:Z _:=h2;have HZ:Z (D.bz=V):=hz;clear h hz h1 h2;simp only[chW,Pg.Sx.val]at hW ⊢;generalize hc0:Pg.tFC X.S 0 p=c at*;clear hc0;generalize Pg.tFM X.S 0 p=m at*;generalize (Pg.rmR X.S 0 p).1=S' at*;generalize (Pg.rmR X.S 0 p).2=G at*;obtain⟨mp,ms,mf',mr⟩:=m;have hbl:b<w.heap.size:=LT.out b ⟨0,rfl⟩
 have n1:b≠w.heap.size+2:=by omega
 have n2:w.heap.size≠w.heap.size+2:=by omega
 have n3:w.heap.size+2≠b:=by omega
 have n4:w.heap.size+2≠w.heap.size:=by omega
 have g0:=P2.out.c0;have g1:=P2.out.c1
 by_cases hc:c=0
 ·have hX:=H1.out hc
  subst hc;have HXE:Z _:=hX;clear hX H1 H2 HR0
  go_enter Tryz.func55,Tryz.ntmps55
  go_upto_region 1 with fail
  rw[<-hW];clear hW
  go_upto_region 7 with fail
  rw[<-hW2];clear hW2 c3 x0
  go_upto_region 10 with fail
  go_region_held3 (fun w'=>w'.cell? ⟨b,0,I⟩=Q (o (Q ⟨D.bm,0,I⟩))/\w'.cell? ⟨b,1,I⟩=Q (J Y 0)/\w'.cell? ⟨w.heap.size,2,I⟩=Q (J Y p)) (go_keep) (
   (go_at_call 98;refine(HI _ (P2.out.grow (by first|exact(zR W2).drew|exact zR W2)).mem).mono ?_;rintro en w4 ⟨ad,cap,rfl,hG4,hm4,hb4,hn4⟩
    simp only[Pg.Mp.val];have P4:Z _:=(P2.out.grow (by first|exact(zR W2).drew|exact zR W2)).frames hm4 hb4 (fun x hx=> .inl hx);have B4:Z (But (rsF D b X.C.length X.G) w w4):=(But.ygr (zT B2.out (by first|exact(zR W2).drew|exact zR W2))).trans hb4 (fun x _ e=>⟨1,e⟩)
    have NE:∀j,w.heap.size<=j->¬zN D.bm D.g0 D.g1 D.vm j:=fun j hj e=>by have:=LT.out _ ⟨1,e⟩;omega
    have E4:Z (w4.heap[w.heap.size+1]?=_):=(hb4.block _ (by simp;omega) (NE _ (by omega))).trans E2.out;have M4:Z (w4.heap[w.heap.size+2]?=_):=(hb4.block _ (by simp;omega) (NE _ (by omega))).trans M2.out
    have hs4:w.heap.size+2<w4.heap.size:=by have:=hb4.size;simp at this;omega
    have HN:Z (∀g,ad=Q ⟨g,0,I⟩->w.heap.size+2<g):=fun g e=>by have:=hn4 g e;simp at this;omega
    obtain⟨⟨m0,m1,m2,m3⟩,mf⟩:=ybx M4.out;have u0:=P4.out.c0;have u1:=P4.out.c1;have u2:w4.cell? ⟨w.heap.size,2,I⟩=Q (J Y p):=(hb4.cell (a:=⟨w.heap.size,2,I⟩) (show w.heap.size<_ by first|(simp;omega)|omega) (NE _ (kT _))).trans y2;have C4:Z _:=ChM.made (x:=⟨2,co,⟨p,s,f,r⟩,q,k,u⟩) (m:=⟨mp,ms,mf',mr⟩) P4.out B4.out LT.out E4.out hs4 M4.out;have HG5:Z (zh ((((w4.setCell ⟨w.heap.size+2,0,I⟩ (J Y mp)).setCell ⟨w.heap.size+2,1,I⟩ (J Y ms)).setCell ⟨w.heap.size+2,2,I⟩ (J Y mf')).setCell ⟨w.heap.size+2,3,I⟩ (J Y mr)) ad G):=hG4.but (((((But.refl (fun x=>x=w.heap.size+2) w4).setCell (a:=⟨w.heap.size+2,0,I⟩) (.inr rfl) _).setCell (a:=⟨w.heap.size+2,1,I⟩) (.inr rfl) _).setCell (a:=⟨w.heap.size+2,2,I⟩) (.inr rfl) _).setCell (a:=⟨w.heap.size+2,3,I⟩) (.inr rfl) _) (fun g e e2=>by have:=HN.out g e;omega)
    clear hG4 hm4 hb4 hn4 P4 B4 NE E4 M4))
  clear m0 m1 m2 m3 mf u0 u1 u2 y0 y2 g0 g1 hs4 P2 CW PW E2 M2 B2 hb2 HI;generalize (((w4.setCell ⟨w.heap.size+2,0,I⟩ (J Y mp)).setCell ⟨w.heap.size+2,1,I⟩ (J Y ms)).setCell ⟨w.heap.size+2,2,I⟩ (J Y mf')).setCell ⟨w.heap.size+2,3,I⟩ (J Y mr)=W5 at*
  have HNR:Z (∀g,ad=Q ⟨g,0,I⟩->¬rsF D b X.C.length [] g):=fun g e hg=>by
   have:=HN.out g e
   have:g<w.heap.size:=LT.out g (by
    obtain⟨i,hi⟩:=hg;refine⟨i,?_⟩
    match i with
    | 0=>exact hi
    | 1=>exact hi
    | 2=>exact hi
    | 3=>exact hi
    | 4=>exact absurd rfl hi.1
    | k+5=>exact hi)
   omega
  have HPO:=yaw ⟨mp,ms,mf',mr⟩ HFM.out ad cap G W5 C4.out.rs HG5.out HNR.out HL.out;simp only[Pg.Mp.val]at HPO;have m0:=C4.out.m0;have m1:=C4.out.m1;have m2:=C4.out.m2;have m3:=C4.out.m3;simp only at m0 m1 m2 m3
  go_wp2_with fail
  refine HPO.mono ?_;rintro e w6 ⟨rfl,hp6,hb6⟩
  have NG:∀j,w.heap.size<=j->¬(j=b\/j=D.gw):=fun j hj e=>by
   rcases e with e|e
   ·omega
   ·have:=LT.out D.gw ⟨3,rfl⟩
    omega
  have E6:w6.heap[w.heap.size+1]?=_:=(hb6.block _ (by have:=C4.out.size;omega) (NG _ (by omega))).trans C4.out.ev
  have hs6:w.heap.size+1<w6.heap.size:=by have:=C4.out.size;have:=hb6.size;omega
  obtain⟨⟨z0,z1,z2,z3,z4,z5⟩,zf⟩:=zp E6
  have hsome:1<=X.W.length:=by
   have h1:=C4.out.rs.len;have h2:=C4.out.rs.pos;simp only at h1 h2;omega
  have FIN:Z (∀Wf,But (fun x=>x=w.heap.size+1) w6 Wf->zo w b D X X' Wf):=fun Wf hb=>by
   rw[HXE.out]
   have hsub:∀x,rsF {D with ag:=ad,cg:=cap,bz:=kC} b X.C.length G x->rsF D b X.C.length X.G x\/w.heap.size+2<x:=by
    rintro x ⟨i,hx⟩
    match i with
    | 0=>exact .inl ⟨0,hx⟩
    | 1=>exact .inl ⟨1,hx⟩
    | 2=>exact .inl ⟨2,hx⟩
    | 3=>exact .inl ⟨3,hx⟩
    | 4=>exact .inr (HN.out x hx.2)
    | k+5=>exact .inl ⟨k+5,hx⟩
   refine⟨_,hp6.keep hb (fun x hx e=> ?_),fun _=>(Pg.yhn hsome).symm,(C4.out.but.trans hb6 (fun x _ e=>e.elim (fun e=>⟨0,e⟩) (fun e=>⟨3,e⟩))).trans hb (fun x hx e=>by omega),fun x hx=>(hsub x hx).imp id (fun h=>by omega)⟩;rcases hsub x hx with h|h
   ·have:=LT.out _ h
    omega
   ·omega
  clear hp6 hb6 HPO E6 NG C4 HG5 HNR m0 m1 m2 m3
  go_wp2_with fail
  refine d (v:=(Pg.Ev.code 0).val) ?_ rfl ⟨rfl,FIN.out _ ?_⟩
  ·simp[results,Tryz.results55,go_sem,z0,z1,z2,z3,z4,z5,hs6,Pg.Ev.val,Pg.Ev.code]
  ·exact qB (But.refl (fun x=>x=w.heap.size+1) w6) _ (.inr rfl) _ _ _ _ _ _
 ·have hX:=H2.out hc
  have hS:=HR0.out hc;have HXE:Z _:=hX;have HSE:Z _:=hS;clear hX hS H1 H2 HR0
  have hc':(c==0)=V:=by simpa using hc
  go_enter Tryz.func55,Tryz.ntmps55
  go_upto_region 1 with fail
  rw[<-hW];clear hW
  go_upto_region 7 with fail
  rw[<-hW2];clear hW2 c3 x0
  go_upto_region 10 with fail
  go_region_held3 (fun w'=>w'.cell? ⟨b,0,I⟩=Q (o (Q ⟨D.bm,0,I⟩))/\w'.cell? ⟨b,1,I⟩=Q (J Y 0)/\w'.cell? ⟨w.heap.size,2,I⟩=Q (J Y p)) (go_keep) (
   (go_at_call 98;refine(HI _ (P2.out.grow (by first|exact(zR W2).drew|exact zR W2)).mem).mono ?_;rintro en w4 ⟨ad,cap,rfl,hG4,hm4,hb4,hn4⟩
    simp only[Pg.Mp.val];have P4:Z _:=(P2.out.grow (by first|exact(zR W2).drew|exact zR W2)).frames hm4 hb4 (fun x hx=> .inl hx);have B4:Z (But (rsF D b X.C.length X.G) w w4):=(But.ygr (zT B2.out (by first|exact(zR W2).drew|exact zR W2))).trans hb4 (fun x _ e=>⟨1,e⟩)
    have NE:∀j,w.heap.size<=j->¬zN D.bm D.g0 D.g1 D.vm j:=fun j hj e=>by have:=LT.out _ ⟨1,e⟩;omega
    have E4:Z (w4.heap[w.heap.size+1]?=_):=(hb4.block _ (by simp;omega) (NE _ (by omega))).trans E2.out;have M4:Z (w4.heap[w.heap.size+2]?=_):=(hb4.block _ (by simp;omega) (NE _ (by omega))).trans M2.out
    have hs4:w.heap.size+2<w4.heap.size:=by have:=hb4.size;simp at this;omega
    have HN:Z (∀g,ad=Q ⟨g,0,I⟩->w.heap.size+2<g):=fun g e=>by have:=hn4 g e;simp at this;omega
    obtain⟨⟨m0,m1,m2,m3⟩,mf⟩:=ybx M4.out;have u0:=P4.out.c0;have u1:=P4.out.c1;have u2:w4.cell? ⟨w.heap.size,2,I⟩=Q (J Y p):=(hb4.cell (a:=⟨w.heap.size,2,I⟩) (show w.heap.size<_ by first|(simp;omega)|omega) (NE _ (kT _))).trans y2;have C4:Z _:=ChM.made (x:=⟨2,co,⟨p,s,f,r⟩,q,k,u⟩) (m:=⟨mp,ms,mf',mr⟩) P4.out B4.out LT.out E4.out hs4 M4.out;have HG5:Z (zh ((((w4.setCell ⟨w.heap.size+2,0,I⟩ (J Y mp)).setCell ⟨w.heap.size+2,1,I⟩ (J Y ms)).setCell ⟨w.heap.size+2,2,I⟩ (J Y mf')).setCell ⟨w.heap.size+2,3,I⟩ (J Y mr)) ad G):=hG4.but (((((But.refl (fun x=>x=w.heap.size+2) w4).setCell (a:=⟨w.heap.size+2,0,I⟩) (.inr rfl) _).setCell (a:=⟨w.heap.size+2,1,I⟩) (.inr rfl) _).setCell (a:=⟨w.heap.size+2,2,I⟩) (.inr rfl) _).setCell (a:=⟨w.heap.size+2,3,I⟩) (.inr rfl) _) (fun g e e2=>by have:=HN.out g e;omega)
    clear hG4 hm4 hb4 hn4 P4 B4 NE E4 M4))
  clear m0 m1 m2 m3 mf u0 u1 u2 y0 y2 g0 g1 hs4 P2 CW PW E2 M2 B2 hb2 HI HG5;generalize (((w4.setCell ⟨w.heap.size+2,0,I⟩ (J Y mp)).setCell ⟨w.heap.size+2,1,I⟩ (J Y ms)).setCell ⟨w.heap.size+2,2,I⟩ (J Y mf')).setCell ⟨w.heap.size+2,3,I⟩ (J Y mr)=W5 at*
  have hs6:w.heap.size+1<W5.heap.size:=by have:=C4.out.size;omega
  obtain⟨⟨z0,z1,z2,z3,z4,z5⟩,zf⟩:=zp C4.out.ev
  have FIN:Z (∀Wf,But (fun x=>x=w.heap.size+1) W5 Wf->zo w b D X X' Wf):=fun Wf hb=>by
   rw[HXE.out];have hp:=C4.out.rs;rw[HSE.out]at hp;refine⟨D,hp.keep hb (fun x hx e=> ?_),id,C4.out.but.trans hb (fun x hx e=>by omega),fun x hx=> .inl hx⟩;have:=LT.out x hx;omega
  clear C4
  go_wp2_with fail
  refine d (v:=(Pg.Ev.code c).val) ?_ rfl ⟨rfl,FIN.out _ ?_⟩
  ·simp[results,Tryz.results55,go_sem,z0,z1,z2,z3,z4,z5,hs6,Pg.Ev.val,Pg.Ev.code]
  ·exact qB (But.refl (fun x=>x=w.heap.size+1) W5) _ (.inr rfl) _ _ _ _ _ _
theorem jY {b:Nat} {D:Rsd} {X X':Pg.Spc} (x:Pg.Sx) (hk:x.kind=3) (w:kR) (h:Rsk w b D X) (hz:D.bz=V) (h1:Pg.prC X.S 0 x.m.p x.m.r=0->X'=X.post (Pg.prS X.S 0 x.m.p x.m.r) (Pg.prM X.S 0 x.m.p x.m.r) []) (h2:Pg.prC X.S 0 x.m.p x.m.r≠0->X'=X):
 kL kV 55 #[o (Q ⟨b,0,I⟩),x.val] w fun e w'=>e=kF (Pg.Ev.code (Pg.prC X.S 0 x.m.p x.m.r)).val/\zo w b D X X' w':=by
 obtain⟨kd,co,⟨p,s,f,r⟩,q,k,u⟩:=x;simp only at hk h1 h2;subst hk;obtain⟨W,hW⟩:∃W,W=chW w ⟨3,co,⟨p,s,f,r⟩,q,k,u⟩:=⟨_,rfl⟩
 have CW:Z (ChW w W ⟨3,co,⟨p,s,f,r⟩,q,k,u⟩):=by rw[hW];exact xt w _
 have PW:Z _:=h.grow CW.out.bel;have LT:Z (∀x,rsF D b X.C.length X.G x->x<w.heap.size):=fun x ⟨i,hx⟩=>h.lt hx;have c3:=PW.out.c3;rw[hz]at c3;have x0:=CW.out.x0;simp only at x0;have hWs:W.heap.size=w.heap.size+2:=CW.out.size
 have hx0:w.heap.size<W.heap.size:=by omega
 obtain⟨W2,hW2⟩:∃W2,W2=W.alloc (kS #[J Y 0,J Y 0,J Y 0,J Y 0] 39):=⟨_,rfl⟩
 have hb2:Below W.heap.size W W2:=by rw[hW2];exact zA (zR _) _
 have M2:Z (W2.heap[w.heap.size+2]?=Q (kS #[J Y 0,J Y 0,J Y 0,J Y 0] 39 (0,0))):=by rw[Z,hW2,<-hWs];exact kZ _ _
 have hs2:W2.heap.size=w.heap.size+3:=by rw[hW2];simp[hWs]
 have P2:Z _:=PW.out.grow hb2;have E2:Z (W2.heap[w.heap.size+1]?=_):=(hb2.block _ (by omega)).trans CW.out.ev;have y0:=(hb2.cell (p:=⟨w.heap.size,0,I⟩) hx0).trans CW.out.x0;have y2:=(hb2.cell (p:=⟨w.heap.size,2,I⟩) hx0).trans CW.out.x2;have y5:=(hb2.cell (p:=⟨w.heap.size,5,I⟩) hx0).trans CW.out.x5;simp only at y0 y2 y5;have B2:Z (Below w.heap.size w W2):=zT CW.out.bel hb2;have HI:=fun w3 (hm:zg w3 D.bm D.g0 D.g1 D.vm X.S)=>yaQ 0 p r w3 hm;have HFM:Z (Pg.fits (Pg.prM X.S 0 p r).p):=Pg.yiv X.S p r
 have HR0:Z (Pg.prC X.S 0 p r≠0->Pg.prS X.S 0 p r=X.S):=fun e=>by unfold Pg.prS;rw[if_neg e]
 have H1:Z _:=h1;have H2:Z _:=h2;have HZ:Z (D.bz=V):=hz;clear h hz h1 h2;simp only[chW,Pg.Sx.val]at hW ⊢;generalize hc0:Pg.prC X.S 0 p r=c at*;clear hc0;generalize Pg.prM X.S 0 p r=m at*;generalize Pg.prS X.S 0 p r=S' at*;obtain⟨mp,ms,mf',mr⟩:=m;have hbl:b<w.heap.size:=LT.out b ⟨0,rfl⟩
 have n1:b≠w.heap.size+2:=by omega
 have n2:w.heap.size≠w.heap.size+2:=by omega
 have n3:w.heap.size+2≠b:=by omega
 have n4:w.heap.size+2≠w.heap.size:=by omega
 have g0:=P2.out.c0;have g1:=P2.out.c1
 by_cases hc:c=0
 ·have hX:=H1.out hc
  subst hc;have HXE:Z _:=hX;clear hX H1 H2 HR0
  go_enter Tryz.func55,Tryz.ntmps55
  go_upto_region 1 with fail
  rw[<-hW];clear hW
  go_upto_region 7 with fail
  rw[<-hW2];clear hW2 c3 x0
  go_upto_region 11 with fail
  go_region_held3 (fun w'=>w'.cell? ⟨b,0,I⟩=Q (o (Q ⟨D.bm,0,I⟩))/\w'.cell? ⟨b,1,I⟩=Q (J Y 0)/\w'.cell? ⟨w.heap.size,2,I⟩=Q (J Y p)/\w'.cell? ⟨w.heap.size,5,I⟩=Q (J Y r)) (go_keep) (
   (go_at_call 99;refine(HI _ (P2.out.grow (by first|exact(zR W2).drew|exact zR W2)).mem).mono ?_;rintro en w4 ⟨rfl,hm4,hb4⟩
    simp only[Pg.Mp.val];have P4:Z _:=(P2.out.grow (by first|exact(zR W2).drew|exact zR W2)).frames hm4 hb4 (fun x hx=> .inl hx);have B4:Z (But (rsF D b X.C.length X.G) w w4):=(But.ygr (zT B2.out (by first|exact(zR W2).drew|exact zR W2))).trans hb4 (fun x _ e=>⟨1,e⟩)
    have NE:∀j,w.heap.size<=j->¬zN D.bm D.g0 D.g1 D.vm j:=fun j hj e=>by have:=LT.out _ ⟨1,e⟩;omega
    have E4:Z (w4.heap[w.heap.size+1]?=_):=(hb4.block _ (by simp;omega) (NE _ (by omega))).trans E2.out;have M4:Z (w4.heap[w.heap.size+2]?=_):=(hb4.block _ (by simp;omega) (NE _ (by omega))).trans M2.out
    have hs4:w.heap.size+2<w4.heap.size:=by have:=hb4.size;simp at this;omega
    obtain⟨⟨m0,m1,m2,m3⟩,mf⟩:=ybx M4.out;have u0:=P4.out.c0;have u1:=P4.out.c1;have u2:w4.cell? ⟨w.heap.size,2,I⟩=Q (J Y p):=(hb4.cell (a:=⟨w.heap.size,2,I⟩) (show w.heap.size<_ by first|(simp;omega)|omega) (NE _ (kT _))).trans y2;have u5:w4.cell? ⟨w.heap.size,5,I⟩=Q (J Y r):=(hb4.cell (a:=⟨w.heap.size,5,I⟩) (show w.heap.size<_ by first|(simp;omega)|omega) (NE _ (kT _))).trans y5;have C4:Z _:=ChM.made (x:=⟨3,co,⟨p,s,f,r⟩,q,k,u⟩) (m:=⟨mp,ms,mf',mr⟩) P4.out B4.out LT.out E4.out hs4 M4.out
    clear hm4 hb4 P4 B4 NE E4 M4))
  clear m0 m1 m2 m3 mf u0 u1 u2 u5 y0 y2 y5 g0 g1 hs4 P2 CW PW E2 M2 B2 hb2 HI;generalize (((w4.setCell ⟨w.heap.size+2,0,I⟩ (J Y mp)).setCell ⟨w.heap.size+2,1,I⟩ (J Y ms)).setCell ⟨w.heap.size+2,2,I⟩ (J Y mf')).setCell ⟨w.heap.size+2,3,I⟩ (J Y mr)=W5 at*;have HPO:=yaw ⟨mp,ms,mf',mr⟩ HFM.out I 0 [] W5 C4.out.rs (fun j hj=>by simp at hj) (fun g e=>by cases e) (by simp);simp only[Pg.Mp.val,List.length_nil]at HPO;have m0:=C4.out.m0;have m1:=C4.out.m1;have m2:=C4.out.m2;have m3:=C4.out.m3;simp only at m0 m1 m2 m3
  go_wp2_with fail
  refine HPO.mono ?_;rintro e w6 ⟨rfl,hp6,hb6⟩
  have NG:∀j,w.heap.size<=j->¬(j=b\/j=D.gw):=fun j hj e=>by
   rcases e with e|e
   ·omega
   ·have:=LT.out D.gw ⟨3,rfl⟩
    omega
  have E6:w6.heap[w.heap.size+1]?=_:=(hb6.block _ (by have:=C4.out.size;omega) (NG _ (by omega))).trans C4.out.ev
  have hs6:w.heap.size+1<w6.heap.size:=by have:=C4.out.size;have:=hb6.size;omega
  obtain⟨⟨z0,z1,z2,z3,z4,z5⟩,zf⟩:=zp E6
  have hsome:1<=X.W.length:=by
   have h1:=C4.out.rs.len;have h2:=C4.out.rs.pos;simp only at h1 h2;omega
  have FIN:Z (∀Wf,But (fun x=>x=w.heap.size+1) w6 Wf->zo w b D X X' Wf):=fun Wf hb=>by
   rw[HXE.out]
   have hsub:∀x,rsF {D with ag:=I,cg:=0,bz:=kC} b X.C.length [] x->rsF D b X.C.length X.G x\/w.heap.size+2<x:=by
    rintro x ⟨i,hx⟩
    match i with
    | 0=>exact .inl ⟨0,hx⟩
    | 1=>exact .inl ⟨1,hx⟩
    | 2=>exact .inl ⟨2,hx⟩
    | 3=>exact .inl ⟨3,hx⟩
    | 4=>exact absurd rfl hx.1
    | k+5=>exact .inl ⟨k+5,hx⟩
   refine⟨_,hp6.keep hb (fun x hx e=> ?_),fun _=>(Pg.yhn hsome).symm,(C4.out.but.trans hb6 (fun x _ e=>e.elim (fun e=>⟨0,e⟩) (fun e=>⟨3,e⟩))).trans hb (fun x hx e=>by omega),fun x hx=>(hsub x hx).imp id (fun h=>by omega)⟩;rcases hsub x hx with h|h
   ·have:=LT.out _ h
    omega
   ·omega
  clear hp6 hb6 HPO E6 NG C4 m0 m1 m2 m3
  go_wp2_with fail
  refine d (v:=(Pg.Ev.code 0).val) ?_ rfl ⟨rfl,FIN.out _ ?_⟩
  ·simp[results,Tryz.results55,go_sem,z0,z1,z2,z3,z4,z5,hs6,Pg.Ev.val,Pg.Ev.code]
  ·exact qB (But.refl (fun x=>x=w.heap.size+1) w6) _ (.inr rfl) _ _ _ _ _ _
 ·have hX:=H2.out hc
  have hS:=HR0.out hc;have HXE:Z _:=hX;have HSE:Z _:=hS;clear hX hS H1 H2 HR0
  have hc':(c==0)=V:=by simpa using hc
  go_enter Tryz.func55,Tryz.ntmps55
  go_upto_region 1 with fail
  rw[<-hW];clear hW
  go_upto_region 7 with fail
  rw[<-hW2];clear hW2 c3 x0
  go_upto_region 11 with fail
  go_region_held3 (fun w'=>w'.cell? ⟨b,0,I⟩=Q (o (Q ⟨D.bm,0,I⟩))/\w'.cell? ⟨b,1,I⟩=Q (J Y 0)/\w'.cell? ⟨w.heap.size,2,I⟩=Q (J Y p)/\w'.cell? ⟨w.heap.size,5,I⟩=Q (J Y r)) (go_keep) (
   (go_at_call 99;refine(HI _ (P2.out.grow (by first|exact(zR W2).drew|exact zR W2)).mem).mono ?_;rintro en w4 ⟨rfl,hm4,hb4⟩
    simp only[Pg.Mp.val];have P4:Z _:=(P2.out.grow (by first|exact(zR W2).drew|exact zR W2)).frames hm4 hb4 (fun x hx=> .inl hx);have B4:Z (But (rsF D b X.C.length X.G) w w4):=(But.ygr (zT B2.out (by first|exact(zR W2).drew|exact zR W2))).trans hb4 (fun x _ e=>⟨1,e⟩)
    have NE:∀j,w.heap.size<=j->¬zN D.bm D.g0 D.g1 D.vm j:=fun j hj e=>by have:=LT.out _ ⟨1,e⟩;omega
    have E4:Z (w4.heap[w.heap.size+1]?=_):=(hb4.block _ (by simp;omega) (NE _ (by omega))).trans E2.out;have M4:Z (w4.heap[w.heap.size+2]?=_):=(hb4.block _ (by simp;omega) (NE _ (by omega))).trans M2.out
    have hs4:w.heap.size+2<w4.heap.size:=by have:=hb4.size;simp at this;omega
    obtain⟨⟨m0,m1,m2,m3⟩,mf⟩:=ybx M4.out;have u0:=P4.out.c0;have u1:=P4.out.c1;have u2:w4.cell? ⟨w.heap.size,2,I⟩=Q (J Y p):=(hb4.cell (a:=⟨w.heap.size,2,I⟩) (show w.heap.size<_ by first|(simp;omega)|omega) (NE _ (kT _))).trans y2;have u5:w4.cell? ⟨w.heap.size,5,I⟩=Q (J Y r):=(hb4.cell (a:=⟨w.heap.size,5,I⟩) (show w.heap.size<_ by first|(simp;omega)|omega) (NE _ (kT _))).trans y5;have C4:Z _:=ChM.made (x:=⟨3,co,⟨p,s,f,r⟩,q,k,u⟩) (m:=⟨mp,ms,mf',mr⟩) P4.out B4.out LT.out E4.out hs4 M4.out
    clear hm4 hb4 P4 B4 NE E4 M4))
  clear m0 m1 m2 m3 mf u0 u1 u2 u5 y0 y2 y5 g0 g1 hs4 P2 CW PW E2 M2 B2 hb2 HI;generalize (((w4.setCell ⟨w.heap.size+2,0,I⟩ (J Y mp)).setCell ⟨w.heap.size+2,1,I⟩ (J Y ms)).setCell ⟨w.heap.size+2,2,I⟩ (J Y mf')).setCell ⟨w.heap.size+2,3,I⟩ (J Y mr)=W5 at*
  have hs6:w.heap.size+1<W5.heap.size:=by have:=C4.out.size;omega
  obtain⟨⟨z0,z1,z2,z3,z4,z5⟩,zf⟩:=zp C4.out.ev
  have FIN:Z (∀Wf,But (fun x=>x=w.heap.size+1) W5 Wf->zo w b D X X' Wf):=fun Wf hb=>by
   rw[HXE.out];have hp:=C4.out.rs;rw[HSE.out]at hp;refine⟨D,hp.keep hb (fun x hx e=> ?_),id,C4.out.but.trans hb (fun x hx e=>by omega),fun x hx=> .inl hx⟩;have:=LT.out x hx;omega
  clear C4
  go_wp2_with fail
  refine d (v:=(Pg.Ev.code c).val) ?_ rfl ⟨rfl,FIN.out _ ?_⟩
  ·simp[results,Tryz.results55,go_sem,z0,z1,z2,z3,z4,z5,hs6,Pg.Ev.val,Pg.Ev.code]
  ·exact qB (But.refl (fun x=>x=w.heap.size+1) W5) _ (.inr rfl) _ _ _ _ _ _
end
end Go.Proofs.YtdphiompijbelaaGreat
