import Derived.Test.YtdphiompijbelaaGreatTabRefD
set_option linter.all false
set_option maxRecDepth 100000
open Array renaming getElem?_eq_some_iff->yY
open Int renaming toNat_natCast->yI
open Go.Obj renaming cells->uc
open Go.Proofs.Tryz renaming prog->ud
open Go.Ending renaming returned->ur
open List renaming length_set->un,take_succ_cons->ua,drop_succ_cons->ue,take_zero->yB,drop_zero->yP,getElem?_set_ne->yF,any_eq_true->yU,length_pos_iff->yO,length_nil->yX,set_set->yE
open Go.World renaming cell?_of_block->kO,block_lt_of_cell?->kp,frozen?_of_block->yN,cell?_setCell_other->yQ,cell?_setCell_same->yZ,frozen?->yK,cell?->yM
open Nat renaming lt_of_lt_of_le->H,le_refl->yT
open Go renaming cell_regrown->A,bodyPost_ret->ki,World->uv,heap_alloc_new->yJ,Calls->yR,Value->yV
open Go.RowKit renaming Hid->O
open Bool renaming false->Z,true->yC
open Go.IntKind renaming i64->Q
open Go.Value renaming int->J,bool->z,pointer->kh,slice->yS,agg->yD
open Option renaming none->I,some->U
set_option maxHeartbeats 2000000
namespace Go.Proofs.YtdphiompijbelaaGreat
open Go.RowKit Go.Sort
section
structure Rsd where
 bm:Nat
 g0:Nat
 g1:Nat
 vm:yV
 gc:Nat
 cc:Nat
 cb:Nat->Nat
 cv:Nat->yV
 gw:Nat
 ag:Option Addr
 cg:Nat
 bz:Bool
def Rsd.own (D:Rsd) (b n:Nat) (G:List Int):Nat->Nat->Prop
 | 0,x=>x=b
 | 1,x=>xg D.bm D.g0 D.g1 D.vm x
 | 2,x=>x=D.gc
 | 3,x=>x=D.gw
 | 4,x=>G≠[]/\D.ag=U ⟨x,0,I⟩
 | k+5,x=>k<n/\bkF (D.cb k) (D.cv k) x
structure Rsk (w:uv) (b:Nat) (D:Rsd) (X:Pg.Spc):Prop where
 c0:w.cell? ⟨b,0,I⟩=U (kh (U ⟨D.bm,0,I⟩))
 c1:w.cell? ⟨b,1,I⟩=U (J Q 0)
 c2:w.cell? ⟨b,2,I⟩=U (yS (U ⟨D.gc,0,I⟩) X.C.length D.cc)
 c3:w.cell? ⟨b,3,I⟩=U (z D.bz)
 c4:w.cell? ⟨b,4,I⟩=U (yS D.ag X.G.length D.cg)
 c5:w.cell? ⟨b,5,I⟩=U (J Q X.T.p)
 c6:w.cell? ⟨b,6,I⟩=U (J Q X.T.s)
 c7:w.cell? ⟨b,7,I⟩=U (J Q X.T.f)
 c8:w.cell? ⟨b,8,I⟩=U (J Q X.T.r)
 c9:w.cell? ⟨b,9,I⟩=U (yS (U ⟨D.gw,0,I⟩) X.C.length X.C.length)
 fb:∀p,w.frozen? ⟨b,p,I⟩=Z
 mem:zj w D.bm D.g0 D.g1 D.vm X.S
 row:∀k,k<X.C.length->w.cell? ⟨D.gc,k,I⟩=U (kh (U ⟨D.cb k,0,I⟩))
 core:∀k,k<X.C.length->ji w (D.cb k) (D.cv k) (X.C.getD k Pg.Cr.new)
 wt:∀k,k<X.C.length->w.cell? ⟨D.gw,k,I⟩=U (z (X.W.getD k Z))
 wf:∀p,w.frozen? ⟨D.gw,p,I⟩=Z
 gone:zq w D.ag X.G
 part:∀i j x,D.own b X.C.length X.G i x->D.own b X.C.length X.G j x->i=j
 len:X.W.length=X.C.length
 pos:1<=X.C.length
 le:X.C.length<=4
 told:Pg.fits X.T.p
 few:X.G.length<=4680
def rsF (D:Rsd) (b n:Nat) (G:List Int):Nat->Prop:=fun x=>∃i,D.own b n G i x
namespace Rsk
variable {w w':uv} {b:Nat} {D D':Rsd} {X:Pg.Spc}
theorem lb (h:Rsk w b D X):b<w.heap.size:=kp _ _ h.c0
theorem lt (h:Rsk w b D X) {i x:Nat} (hx:D.own b X.C.length X.G i x):x<w.heap.size:=by
 match i with
 | 0=>have hx:x=b:=hx;rw[hx];exact h.lb
 | 1=>exact h.mem.raw.lt hx
 | 2=>have hx:x=D.gc:=hx;rw[hx];exact kp _ _ (h.row 0 h.pos)
 | 3=>have hx:x=D.gw:=hx;rw[hx];exact kp _ _ (h.wt 0 h.pos)
 | 4=>
   obtain⟨hG,ha⟩:=hx;have:0<X.G.length:=yO.2 hG;obtain⟨g,e,hl,_⟩:=h.gone 0 this;rw[ha]at e;injection e with e;injection e with e;rw[e];exact hl
 | k+5=>exact(h.core k hx.1).lt hx.2
theorem ne (h:Rsk w b D X) {i j x y:Nat} (hx:D.own b X.C.length X.G i x) (hy:D.own b X.C.length X.G j y) (bC:i≠j):x≠y:=fun e=>bC (h.part i j x hx (e▸hy))
theorem others (h:Rsk w b D X) {F:Nat->Prop} (hb:But F w w'):
 ((∀x,D.own b X.C.length X.G 0 x->¬F x)->(∀p,w'.cell? ⟨b,p,I⟩=w.cell? ⟨b,p,I⟩)/\∀p,w'.frozen? ⟨b,p,I⟩=Z)/\
 ((∀x,D.own b X.C.length X.G 1 x->¬F x)->zj w' D.bm D.g0 D.g1 D.vm X.S)/\
 ((∀x,D.own b X.C.length X.G 2 x->¬F x)->∀k,k<X.C.length->w'.cell? ⟨D.gc,k,I⟩=U (kh (U ⟨D.cb k,0,I⟩)))/\
 ((∀x,D.own b X.C.length X.G 3 x->¬F x)->(∀k,k<X.C.length->w'.cell? ⟨D.gw,k,I⟩=U (z (X.W.getD k Z)))/\∀p,w'.frozen? ⟨D.gw,p,I⟩=Z)/\
 ((∀x,D.own b X.C.length X.G 4 x->¬F x)->zq w' D.ag X.G)/\
 (∀k,k<X.C.length->(∀x,D.own b X.C.length X.G (k+5) x->¬F x)->ji w' (D.cb k) (D.cv k) (X.C.getD k Pg.Cr.new)):=by
 refine⟨fun hF=> ?_,fun hF=>h.mem.keep hb hF,fun hF k hk=> ?_,fun hF=> ?_,fun hF=> ?_,fun k hk hF=> ?_⟩
 ·have kb:=hb.block b h.lb (hF b rfl)
  exact⟨fun p=>kO (a:=⟨b,p,I⟩) kb,fun p=>(yN (a:=⟨b,p,I⟩) kb).trans (h.fb p)⟩
 ·exact(hb.cell (a:=⟨D.gc,k,I⟩) (kp _ _ (h.row k hk)) (hF _ rfl)).trans (h.row k hk)
 ·have kb:=hb.block D.gw (kp _ _ (h.wt 0 h.pos)) (hF _ rfl)
  exact⟨fun k hk=>(kO (a:=⟨D.gw,k,I⟩) kb).trans (h.wt k hk),fun p=>(yN (a:=⟨D.gw,p,I⟩) kb).trans (h.wf p)⟩
 ·intro j hj
  obtain⟨g,e,hl,hc⟩:=h.gone j hj;refine⟨g,e,H hl hb.size,(hb.cell (a:=⟨g,j,I⟩) hl (hF g ⟨?_,e⟩)).trans hc⟩;intro e0;rw[e0]at hj;simp at hj
 ·exact(h.core k hk).keep hb fun x hx=>hF x ⟨hk,hx⟩
theorem keep (h:Rsk w b D X) {F:Nat->Prop} (hb:But F w w') (hF:∀x,rsF D b X.C.length X.G x->¬F x):Rsk w' b D X:=by
 obtain⟨o0,o1,o2,o3,o4,o5⟩:=h.others hb;have hF:∀i x,D.own b X.C.length X.G i x->¬F x:=fun i x hx=>hF x ⟨i,hx⟩;obtain⟨e0,f0⟩:=o0 (hF 0);obtain⟨e3,f3⟩:=o3 (hF 3);exact⟨(e0 0).trans h.c0,(e0 1).trans h.c1,(e0 2).trans h.c2,(e0 3).trans h.c3,(e0 4).trans h.c4,(e0 5).trans h.c5,(e0 6).trans h.c6,(e0 7).trans h.c7,(e0 8).trans h.c8,(e0 9).trans h.c9,f0,o1 (hF 1),o2 (hF 2),fun k hk=>o5 k hk (hF _),e3,f3,o4 (hF 4),h.part,h.len,h.pos,h.le,h.told,h.few⟩
theorem grow (h:Rsk w b D X) (hb:Lw w w'):Rsk w' b D X:=h.keep (F:=fun _=>False) (But.yhJ hb) (fun _ _=>id)
theorem yjt (h:Rsk w b D X) {l:Nat} {G':List Int} (ho:∀i,i≠l->∀x,D'.own b X.C.length G' i x->D.own b X.C.length X.G i x) (hl:∀x,D'.own b X.C.length G' l x->D.own b X.C.length X.G l x\/w.heap.size<=x):∀i j x,D'.own b X.C.length G' i x->D'.own b X.C.length G' j x->i=j:=by
 intro i j x hi hj
 by_cases ei:i=l
 ·by_cases ej:j=l
  ·rw[ei,ej]
  ·have h2:=ho j ej x hj
   rcases hl x (ei▸hi)with h1|h1
   ·exact ei.trans (h.part l j x h1 h2)
   ·have:=h.lt h2
    omega
 ·have h1:=ho i ei x hi
  by_cases ej:j=l
  ·rcases hl x (ej▸hj)with h2|h2
   ·rw[ej]
    exact h.part i l x h1 h2
   ·have:=h.lt h1
    omega
  ·exact h.part i j x h1 (ho j ej x hj)
theorem frames {S':Pg.Fs} {eH:yV} (h:Rsk w b D X) (hm:zj w' D.bm D.g0 D.g1 eH S') (hb:But (xg D.bm D.g0 D.g1 D.vm) w w') (hF:∀x,xg D.bm D.g0 D.g1 eH x->xg D.bm D.g0 D.g1 D.vm x\/w.heap.size<=x):Rsk w' b {D with vm:=eH} {X with S:=S'}:=by
 obtain⟨o0,o1,o2,o3,o4,o5⟩:=h.others hb;have pq:∀i,i≠1->∀x,D.own b X.C.length X.G i x->¬xg D.bm D.g0 D.g1 D.vm x:=fun i hi x hx hm=>hi (h.part i 1 x hx hm);obtain⟨e0,f0⟩:=o0 (pq 0 (by decide));obtain⟨e3,f3⟩:=o3 (pq 3 (by decide));refine⟨(e0 0).trans h.c0,(e0 1).trans h.c1,(e0 2).trans h.c2,(e0 3).trans h.c3,(e0 4).trans h.c4,(e0 5).trans h.c5,(e0 6).trans h.c6,(e0 7).trans h.c7,(e0 8).trans h.c8,(e0 9).trans h.c9,f0,hm,o2 (pq 2 (by decide)),fun k hk=>o5 k hk (pq _ (by omega)),e3,f3,o4 (pq 4 (by decide)),h.yjt (l:=1) (fun i hi x hx=> ?_) (fun x hx=>hF x hx),h.len,h.pos,h.le,h.told,h.few⟩
 match i with
 | 0=>exact hx
 | 1=>exact absurd rfl hi
 | 2=>exact hx
 | 3=>exact hx
 | 4=>exact hx
 | k+5=>exact hx
theorem asked {k:Nat} {C':Pg.Cr} {v':yV} (h:Rsk w b D X) (hk:k<X.C.length) (hC:ji w' (D.cb k) v' C') (hb:But (bkF (D.cb k) (D.cv k)) w w') (hF:∀x,bkF (D.cb k) v' x->bkF (D.cb k) (D.cv k) x\/w.heap.size<=x):Rsk w' b {D with cv:=fun j=>if j=k then v' else D.cv j} {X with C:=X.C.set k C'}:=by
 obtain⟨o0,o1,o2,o3,o4,o5⟩:=h.others hb;have pq:∀i,i≠k+5->∀x,D.own b X.C.length X.G i x->¬bkF (D.cb k) (D.cv k) x:=fun i hi x hx hm=>hi (h.part i (k+5) x hx ⟨hk,hm⟩);obtain⟨e0,f0⟩:=o0 (pq 0 (by omega));obtain⟨e3,f3⟩:=o3 (pq 3 (by omega));have hl:(X.C.set k C').length=X.C.length:=un
 have lq:∀i j x,({D with cv:=fun j=>if j=k then v' else D.cv j}:Rsd).own b X.C.length X.G i x->({D with cv:=fun j=>if j=k then v' else D.cv j}:Rsd).own b X.C.length X.G j x->i=j:=by
  refine h.yjt (l:=k+5) (fun i hi x hx=> ?_) (fun x hx=> ?_)
  ·match i with
   | 0=>exact hx
   | 1=>exact hx
   | 2=>exact hx
   | 3=>exact hx
   | 4=>exact hx
   | j+5=>
     obtain⟨h1,h2⟩:=hx;simp only at h2;rw[iN (by omega)]at h2;exact⟨h1,h2⟩
  ·obtain⟨h1,h2⟩:=hx
   simp only[if_true]at h2;exact(hF x h2).imp (fun h=>⟨h1,h⟩) id
 refine⟨(e0 0).trans h.c0,(e0 1).trans h.c1,?_,(e0 3).trans h.c3,(e0 4).trans h.c4,(e0 5).trans h.c5,(e0 6).trans h.c6,(e0 7).trans h.c7,(e0 8).trans h.c8,?_,f0,o1 (pq 1 (by omega)),?_,?_,?_,f3,o4 (pq 4 (by omega)),?_,?_,?_,?_,h.told,h.few⟩
 ·simp only[hl]
  exact(e0 2).trans h.c2
 ·simp only[hl]
  exact(e0 9).trans h.c9
 ·simp only[hl]
  exact o2 (pq 2 (by omega))
 ·simp only[hl]
  intro j hj
  show ji w' (D.cb j) (if j=k then v' else D.cv j) ((X.C.set k C').getD j Pg.Cr.new)
  by_cases e:j=k
  ·subst e
   rw[iP rfl,show(X.C.set j C').getD j Pg.Cr.new=C' by simp[List.getD,hk]];exact hC
  ·rw[iN e,show(X.C.set k C').getD j Pg.Cr.new=X.C.getD j Pg.Cr.new by simp[List.getD,yF (fun h=>e h.symm)]]
   exact o5 j hj (pq _ (by omega))
 ·simp only[hl]
  exact e3
 ·simp only[hl]
  exact lq
 ·simp only[hl]
  exact h.len
 ·simp only[hl]
  exact h.pos
 ·simp only[hl]
  exact h.le
theorem waited {k:Nat} (h:Rsk w b D X) (hk:k<X.C.length) (v:Bool):Rsk (w.setCell ⟨D.gw,k,I⟩ (z v)) b D {X with W:=X.W.set k v}/\But (fun x=>x=D.gw) w (w.setCell ⟨D.gw,k,I⟩ (z v)):=by
 have hb:But (fun x=>x=D.gw) w (w.setCell ⟨D.gw,k,I⟩ (z v)):=(But.refl (fun x=>x=D.gw) w).setCell (a:=⟨D.gw,k,I⟩) (.inr rfl) _;obtain⟨o0,o1,o2,o3,o4,o5⟩:=h.others hb;have pq:∀i,i≠3->∀x,D.own b X.C.length X.G i x->¬x=D.gw:=fun i hi x hx hm=>hi (h.part i 3 x hx hm);obtain⟨e0,f0⟩:=o0 (pq 0 (by decide));refine⟨⟨(e0 0).trans h.c0,(e0 1).trans h.c1,(e0 2).trans h.c2,(e0 3).trans h.c3,(e0 4).trans h.c4,(e0 5).trans h.c5,(e0 6).trans h.c6,(e0 7).trans h.c7,(e0 8).trans h.c8,(e0 9).trans h.c9,f0,o1 (pq 1 (by decide)),o2 (pq 2 (by decide)),fun j hj=>o5 j hj (pq _ (by omega)),fun j hj=> ?_,fun q=>by simpa using h.wf q,o4 (pq 4 (by decide)),h.part,by simpa using h.len,h.pos,h.le,h.told,h.few⟩,hb⟩
 have Dm:k<X.W.length:=by rw[h.len];exact hk
 show(w.setCell ⟨D.gw,k,I⟩ (z v)).cell? ⟨D.gw,j,I⟩=U (z ((X.W.set k v).getD j Z))
 by_cases e:j=k
 ·subst e
  rw[yZ _ _ _ (h.wt j hk)];simp[List.getD,Dm]
 ·rw[yQ _ _ _ _ (fun e'=>e (by injection e' with _ e';exact e'.symm)),h.wt j hj]
  simp[List.getD,yF (fun h=>e h.symm)]
theorem over (h:Rsk w b D X):Rsk ((w.setCell ⟨b,3,I⟩ (z Z)).setCell ⟨b,4,I⟩ (yS I 0 0)) b {D with bz:=Z,ag:=I,cg:=0} {X with G:=[]}/\But (fun x=>x=b) w ((w.setCell ⟨b,3,I⟩ (z Z)).setCell ⟨b,4,I⟩ (yS I 0 0)):=by
 have hb:But (fun x=>x=b) w ((w.setCell ⟨b,3,I⟩ (z Z)).setCell ⟨b,4,I⟩ (yS I 0 0)):=((But.refl (fun x=>x=b) w).setCell (a:=⟨b,3,I⟩) (.inr rfl) _).setCell (a:=⟨b,4,I⟩) (.inr rfl) _;obtain⟨o0,o1,o2,o3,o4,o5⟩:=h.others hb;have pq:∀i,i≠0->∀x,D.own b X.C.length X.G i x->¬x=b:=fun i hi x hx hm=>hi (h.part i 0 x hx hm);obtain⟨e3,f3⟩:=o3 (pq 3 (by decide));have k0:=h.c0;have k1:=h.c1;have k2:=h.c2;have k3:=h.c3;have k4:=h.c4;have k5:=h.c5;have k6:=h.c6;have k7:=h.c7;have k8:=h.c8;have k9:=h.c9;have kf:=h.fb;refine⟨⟨by simp[go_sem,k0],by simp[go_sem,k1],by simp[go_sem,k2],by simp[go_sem,k3],by simp[go_sem,k4],by simp[go_sem,k5],by simp[go_sem,k6],by simp[go_sem,k7],by simp[go_sem,k8],by simp[go_sem,k9],fun q=>by simp[go_sem,kf],o1 (pq 1 (by decide)),o2 (pq 2 (by decide)),fun j hj=>o5 j hj (pq _ (by omega)),e3,f3,fun j hj=>by simp at hj,h.yjt (l:=4) (fun i hi x hx=> ?_) (fun x hx=>absurd rfl hx.1),h.len,h.pos,h.le,h.told,by simp⟩,hb⟩
 match i with
 | 0=>exact hx
 | 1=>exact hx
 | 2=>exact hx
 | 3=>exact hx
 | 4=>exact absurd rfl hi
 | k+5=>exact hx
end Rsk
structure ybc (w:uv) (b:Nat) (X:Pg.Spc) (F:Nat->Prop):Prop where
 ex:∃D,Rsk w b D X/\D.bz=X.busy/\F=rsF D b X.C.length X.G
section
variable {w w':uv} {b:Nat} {X:Pg.Spc} {F G:Nat->Prop}
theorem ybc.lt (h:ybc w b X F) {k:Nat} (hk:F k):k<w.heap.size:=by
 obtain⟨D,h,_,rfl⟩:=h;obtain⟨i,hi⟩:=hk;exact h.lt hi
theorem ybc.keep (h:ybc w b X F) (hb:But G w w') (hF:∀k,F k->¬G k):ybc w' b X F:=by
 obtain⟨D,h,hz,rfl⟩:=h;exact⟨D,h.keep hb hF,hz,rfl⟩
theorem ybc.grow (h:ybc w b X F) (hb:Lw w w'):ybc w' b X F:=h.keep (G:=fun _=>False) (But.yhJ hb) (fun _ _=>id)
end
theorem ya5 {b:Nat} {D:Rsd} {X:Pg.Spc} (m:Pg.Mp) (hm:Pg.fits m.p) (ag:Option Addr) (cg:Nat) (G:List Int) (w:uv) (h:Rsk w b D X) (hG:zq w ag G) (hn:∀g,ag=U ⟨g,0,I⟩->¬rsF D b X.C.length [] g) (iJ:G.length<=4680):
 yR ud 100 #[kh (U ⟨b,0,I⟩),m.val,yS ag G.length cg] w fun e w'=>e=ur (.tuple #[])/\Rsk w' b {D with ag:=ag,cg:=cg,bz:=yC} (X.post X.S m G)/\But (fun x=>x=b\/x=D.gw) w w':=by
 obtain⟨p,s,f,r⟩:=m;simp only[Pg.Mp.val];obtain⟨W,hW⟩:=eY (w.alloc (uc #[J Q p,J Q s,J Q f,J Q r] 39))
 have hB:Lw w W:=by rw[hW];exact zA (zR _) _
 have rU:w.heap.size<W.heap.size:=by rw[hW];simp
 have hl:=h.lb;have HW:O _:=h.grow hB
 have x0:W.cell? ⟨w.heap.size,0,I⟩=U (J Q p):=by rw[hW];simp[go_sem]
 have x1:W.cell? ⟨w.heap.size,1,I⟩=U (J Q s):=by rw[hW];simp[go_sem]
 have x2:W.cell? ⟨w.heap.size,2,I⟩=U (J Q f):=by rw[hW];simp[go_sem]
 have x3:W.cell? ⟨w.heap.size,3,I⟩=U (J Q r):=by rw[hW];simp[go_sem]
 have c3:=HW.out.c3;have c4:=HW.out.c4;have c5:=HW.out.c5;have c6:=HW.out.c6;have c7:=HW.out.c7;have c8:=HW.out.c8;have fb:=HW.out.fb
 have Ho:w.heap.size≠b:=by omega
 have RA:b≠w.heap.size:=by omega
 have HB:O _:=hB;have HX:O _:=h;have HG:O (zq w ag G):=hG;have HN:O _:=hn;have HM:O _:=hm;clear h hG hn hm hB
 go_enter Tryz.func100,Tryz.ntmps100
 go_wp2_with fail
 rw[<-hW];clear hW
 go_region_held3 (fun w'=>w'.cell? ⟨w.heap.size,0,I⟩=U (J Q p)/\w'.cell? ⟨w.heap.size,1,I⟩=U (J Q s)/\w'.cell? ⟨w.heap.size,2,I⟩=U (J Q f)/\w'.cell? ⟨w.heap.size,3,I⟩=U (J Q r)) (go_keep) (fail)
 generalize Km:((((((W.setCell ⟨b,3,I⟩ (z yC)).setCell ⟨b,5,I⟩ (J Q p)).setCell ⟨b,6,I⟩ (J Q s)).setCell ⟨b,7,I⟩ (J Q f)).setCell ⟨b,8,I⟩ (J Q r)).setCell ⟨b,4,I⟩ (yS ag G.length cg)).drew=Wp
 have BP:O (But (fun x=>x=b) W Wp):=by
  rw[O,<-Km];exact(((((((But.refl (fun x=>x=b) W).setCell (a:=⟨b,3,I⟩) (.inr rfl) _).setCell (a:=⟨b,5,I⟩) (.inr rfl) _).setCell (a:=⟨b,6,I⟩) (.inr rfl) _).setCell (a:=⟨b,7,I⟩) (.inr rfl) _).setCell (a:=⟨b,8,I⟩) (.inr rfl) _).setCell (a:=⟨b,4,I⟩) (.inr rfl) _).drew
 have CP:O ((Wp.cell? ⟨b,0,I⟩=U (kh (U ⟨D.bm,0,I⟩))/\Wp.cell? ⟨b,1,I⟩=U (J Q 0)/\Wp.cell? ⟨b,2,I⟩=U (yS (U ⟨D.gc,0,I⟩) X.C.length D.cc)/\Wp.cell? ⟨b,3,I⟩=U (z yC)/\Wp.cell? ⟨b,4,I⟩=U (yS ag G.length cg))/\(Wp.cell? ⟨b,5,I⟩=U (J Q p)/\Wp.cell? ⟨b,6,I⟩=U (J Q s)/\Wp.cell? ⟨b,7,I⟩=U (J Q f)/\Wp.cell? ⟨b,8,I⟩=U (J Q r)/\Wp.cell? ⟨b,9,I⟩=U (yS (U ⟨D.gw,0,I⟩) X.C.length X.C.length))/\∀q,Wp.frozen? ⟨b,q,I⟩=Z):=by
  have k0:=HW.out.c0;have k1:=HW.out.c1;have k2:=HW.out.c2;have k9:=HW.out.c9;rw[O,<-Km]
  refine⟨⟨?_,?_,?_,?_,?_⟩,⟨?_,?_,?_,?_,?_⟩,fun q=> ?_⟩<;>simp[go_sem,c3,c4,c5,c6,c7,c8,k0,k1,k2,k9,fb]
 have GQ:D.gw≠b:=HX.out.ne (i:=3) (j:=0) rfl rfl (by decide);have Gw:b≠D.gw:=fun e=>GQ e.symm
 have WP:O ((∀k,k<X.C.length->Wp.cell? ⟨D.gw,k,I⟩=U (z (X.W.getD k Z)))/\∀q,Wp.frozen? ⟨D.gw,q,I⟩=Z):=by
  have kb:=BP.out.block D.gw (kp _ _ (HW.out.wt 0 HW.out.pos)) GQ;exact⟨fun k hk=>(kO (a:=⟨D.gw,k,I⟩) kb).trans (HW.out.wt k hk),fun q=>(yN (a:=⟨D.gw,q,I⟩) kb).trans (HW.out.wf q)⟩
 have lT:=HX.out.le;clear Km x0 x1 x2 x3 c3 c4 c5 c6 c7 c8 fb Ho RA
 go_wp2
 go_loopw [6] (fun i wr=>∃k:Nat,k<=X.C.length/\i=J Q k/\O (But (fun x=>x=D.gw) Wp wr/\(∀j,j<X.C.length->wr.cell? ⟨D.gw,j,I⟩=U (z (if j<k then yC else X.W.getD j Z)))/\∀q,wr.frozen? ⟨D.gw,q,I⟩=Z)) (fun i _=>X.C.length-(intOf i).toNat)
 case atStart=>exact⟨0,by omega,rfl,⟨But.refl _ _,fun j hj=>by rw[iN (by omega)];exact WP.out.1 j hj,WP.out.2⟩⟩
 case round=>
  obtain⟨k,hk,rfl,HR⟩:=hrel;have k9:wr.cell? ⟨b,9,I⟩=U (yS (U ⟨D.gw,0,I⟩) X.C.length X.C.length):=(HR.out.1.cell (a:=⟨b,9,I⟩) (kp _ _ CP.out.2.1.2.2.2.2) Gw).trans CP.out.2.1.2.2.2.2
  have i0:(0:Int)<=(k:Int):=by omega
  by_cases Hf:k<X.C.length
  ·have i1:(k:Int)<(X.C.length:Int):=by omega
   have kk:=HR.out.2.1 k Hf;have kf:=HR.out.2.2
   have HN:O (But (fun x=>x=D.gw) Wp (wr.setCell ⟨D.gw,k,I⟩ (z yC))/\(∀j,j<X.C.length->(wr.setCell ⟨D.gw,k,I⟩ (z yC)).cell? ⟨D.gw,j,I⟩=U (z (if j<k+1 then yC else X.W.getD j Z)))/\∀q,(wr.setCell ⟨D.gw,k,I⟩ (z yC)).frozen? ⟨D.gw,q,I⟩=Z):=by
    refine⟨HR.out.1.setCell (a:=⟨D.gw,k,I⟩) (.inr rfl) _,fun j hj=> ?_,fun q=>by simpa using kf q⟩
    by_cases e:j=k
    ·subst e
     rw[iP (by omega)];exact yZ _ _ _ kk
    ·rw[yQ _ _ _ _ (fun e'=>e (by injection e' with _ e';exact e'.symm)),HR.out.2.1 j hj]
     by_cases e2:j<k
     ·rw[iP e2,iP (by omega)]
     ·rw[iN e2,iN (by omega)]
   clear HR
   go_wp2
   go_roundw
   case rel=>exact⟨k+1,by omega,by go_num,HN⟩
   case measure=>simp[intOf];omega
  ·have i1:¬(k:Int)<(X.C.length:Int):=by omega
   have ek:k=X.C.length:=by omega
   subst ek
   go_wp2
   go_end0
   have BF:But (fun x=>x=b\/x=D.gw) w wr:=((But.yhJ HB.out).trans BP.out (fun _ _ h=> .inl h)).trans HR.out.1 (fun _ _ h=> .inr h);refine⟨rfl,?_,BF⟩;have h:=HX.out;obtain⟨_,o1,o2,_,_,o5⟩:=h.others BF;have hF:∀i,i≠0->i≠3->∀x,D.own b X.C.length X.G i x->¬(x=b\/x=D.gw):=fun i i0 i3 x hx e=>e.elim (fun e=>i0 (h.part i 0 x hx e)) (fun e=>i3 (h.part i 3 x hx e));have mK:b<Wp.heap.size:=kp _ _ CP.out.2.1.2.2.2.2;have kb:=HR.out.1.block b mK Gw;obtain⟨⟨k0,k1,k2,k3,k4⟩,⟨k5,k6,k7,k8,k9'⟩,kf⟩:=CP.out
   have Da:1<=X.W.length:=by rw[h.len];exact h.pos
   have lq:∀i j x,({D with ag:=ag,cg:=cg,bz:=yC}:Rsd).own b X.C.length G i x->({D with ag:=ag,cg:=cg,bz:=yC}:Rsd).own b X.C.length G j x->i=j:=by
    have oth:∀i,i≠4->∀x,({D with ag:=ag,cg:=cg,bz:=yC}:Rsd).own b X.C.length G i x->D.own b X.C.length X.G i x/\D.own b X.C.length [] i x:=fun i hi x hx=>by
     match i with
     | 0=>exact⟨hx,hx⟩
     | 1=>exact⟨hx,hx⟩
     | 2=>exact⟨hx,hx⟩
     | 3=>exact⟨hx,hx⟩
     | 4=>exact absurd rfl hi
     | k+5=>exact⟨hx,hx⟩
    intro i j x hi hj
    by_cases ei:i=4
    ·by_cases ej:j=4
     ·rw[ei,ej]
     ·subst ei
      exact absurd ⟨j,(oth j ej x hj).2⟩ (HN.out x hi.2)
    ·by_cases ej:j=4
     ·subst ej
      exact absurd ⟨i,(oth i ei x hi).2⟩ (HN.out x hj.2)
     ·exact h.part i j x (oth i ei x hi).1 (oth j ej x hj).1
   refine⟨(kO kb).trans k0,(kO kb).trans k1,(kO kb).trans k2,(kO kb).trans k3,(kO kb).trans k4,(kO kb).trans k5,(kO kb).trans k6,(kO kb).trans k7,(kO kb).trans k8,(kO kb).trans k9',fun q=>(yN kb).trans (kf q),o1 (hF 1 (by decide) (by decide)),o2 (hF 2 (by decide) (by decide)),fun k hk=>o5 k hk (hF _ (by omega) (by omega)),fun j hj=> ?_,HR.out.2.2,HG.out.but BF (fun g e hx=>HN.out g e (hx.elim (fun e=>⟨0,e⟩) (fun e=>⟨3,e⟩))),lq,?_,h.pos,h.le,HM.out,iJ⟩
   ·have hj:j<X.C.length:=hj
    have e1:(X.post X.S ⟨p,s,f,r⟩ G).W.getD j Z=yC:=Pg.yjI X.W j (by rw[h.len];exact hj);rw[e1,HR.out.2.1 j hj,iP hj]
   ·show(X.W.map fun _=>yC).length=X.C.length
    rw[List.length_map];exact h.len
attribute [local go_sem] Loose.gent
theorem yfd {D D':Rsd} {b n N:Nat} {G G':List Int} {l:Nat} (ho:∀i,i≠l->∀x,D'.own b n G' i x->D.own b n G i x) (hl:∀x,D'.own b n G' l x->D.own b n G l x\/N<=x):∀x,rsF D' b n G' x->rsF D b n G x\/N<=x:=by
 rintro x ⟨i,hx⟩
 by_cases e:i=l
 ·subst e
  exact(hl x hx).imp (fun h=>⟨_,h⟩) id
 ·exact .inl ⟨i,ho i e x hx⟩
theorem yd9 {b:Nat} {D:Rsd} {X:Pg.Spc} {k:Nat} (hk:k<X.C.length) (hw:X.W.getD k Z=Z) (w:uv) (h:Rsk w b D X):
 yR ud 59 #[kh (U ⟨b,0,I⟩),J Q (k:Int)] w fun e w'=>e=ur (Pg.Ev.code 9).val/\Lw w w':=by
 obtain⟨W,hW⟩:=eY (w.alloc (uc #[J Q 0,z Z,J Q 0,J Q 0,J Q 0,z Z] 36))
 have hB:Lw w W:=by rw[hW];exact zA (zR _) _
 have rU:w.heap.size<W.heap.size:=by rw[hW];simp
 have R:W.heap[w.heap.size]?=U (uc #[J Q 0,z Z,J Q 0,J Q 0,J Q 0,z Z] 36 (0,0)):=by rw[hW];exact yJ _ _
 obtain⟨⟨z0,z1,z2,z3,z4,z5⟩,zf⟩:=zE R;have HW:=h.grow hB;have c9:=HW.c9;have kk:=HW.wt k hk;rw[hw]at kk
 have i0:(0:Int)<=(k:Int):=by omega
 have i1:(k:Int)<(X.C.length:Int):=by omega
 have HB:O _:=hB;clear h HW hw hB R
 go_enter Tryz.func59,Tryz.ntmps59
 go_upto_region 1 with fail
 rw[<-hW];clear hW
 go_wp2
 refine ki (v:=(Pg.Ev.code 9).val) ?_ rfl ⟨rfl,?_⟩
 ·simp[results,Tryz.results59,go_sem,z0,z1,z2,z3,z4,z5,rU,Pg.Ev.val,Pg.Ev.code]
 ·exact vn HB.out _ (yT _) _ _ _ _ _ _
def Pg.Spc.tell (X:Pg.Spc) (k:Nat):Pg.Spc:={X with C:=X.C.set k ((X.C.getD k Pg.Cr.new).told 0 X.T),W:=X.W.set k Z}
theorem qO {D:Rsd} {b n k N:Nat} {G:List Int} {v':yV} (hk:k<n) (hF:∀x,bkF (D.cb k) v' x->bkF (D.cb k) (D.cv k) x\/N<=x):∀x,rsF {D with cv:=fun j=>if j=k then v' else D.cv j} b n G x->rsF D b n G x\/N<=x:=by
 refine yfd (l:=k+5) (fun i hi x hx=> ?_) (fun x hx=> ?_)
 ·match i with
  | 0=>exact hx
  | 1=>exact hx
  | 2=>exact hx
  | 3=>exact hx
  | 4=>exact hx
  | j+5=>
    obtain⟨h1,h2⟩:=hx;simp only at h2;rw[iN (by omega)]at h2;exact⟨h1,h2⟩
 ·obtain⟨h1,h2⟩:=hx
  simp only[if_true]at h2;exact(hF x h2).imp (fun h=>⟨h1,h⟩) id
theorem jT {D:Rsd} {b n N:Nat} {G:List Int} {eH:yV} (hF:∀x,xg D.bm D.g0 D.g1 eH x->xg D.bm D.g0 D.g1 D.vm x\/N<=x):∀x,rsF {D with vm:=eH} b n G x->rsF D b n G x\/N<=x:=by
 refine yfd (l:=1) (fun i hi x hx=> ?_) (fun x hx=>hF x hx)
 match i with
 | 0=>exact hx
 | 1=>exact absurd rfl hi
 | 2=>exact hx
 | 3=>exact hx
 | 4=>exact hx
 | k+5=>exact hx
theorem yea {b:Nat} {D:Rsd} {X:Pg.Spc} {k:Nat} (hk:k<X.C.length) (hw:X.W.getD k Z=yC) (w:uv) (h:Rsk w b D X):
 yR ud 59 #[kh (U ⟨b,0,I⟩),J Q (k:Int)] w fun e w'=>e=ur (X.akE k).val/\∃D',Rsk w' b D' (X.akN k)/\(D.bz=X.busy->D'.bz=(X.akN k).busy)/\But (rsF D b X.C.length X.G) w w'/\∀x,rsF D' b X.C.length (X.akN k).G x->rsF D b X.C.length X.G x\/w.heap.size<=x:=by
 obtain⟨W,hW⟩:=eY (w.alloc (uc #[J Q 0,z Z,J Q 0,J Q 0,J Q 0,z Z] 36))
 have hB:Lw w W:=by rw[hW];exact zA (zR _) _
 have rU:w.heap.size<W.heap.size:=by rw[hW];simp
 have RZ:O (W.heap[w.heap.size]?=U (uc #[J Q 0,z Z,J Q 0,J Q 0,J Q 0,z Z] 36 (0,0))):=by rw[O,hW];exact yJ _ _
 have HW:O (Rsk W b D X):=h.grow hB;have c9:=HW.out.c9;have kk:=HW.out.wt k hk;rw[hw]at kk;have wf:=HW.out.wf
 have i0:(0:Int)<=(k:Int):=by omega
 have i1:(k:Int)<(X.C.length:Int):=by omega
 have wR:O (X.W.getD k Z=yC):=hw;have Ws:O (X.busy=yC):=yU.2 ⟨yC,by rw[<-hw];exact Pg.yja (by rw[h.len];exact hk) _,rfl⟩;have LT:O (∀x,rsF D b X.C.length X.G x->x<w.heap.size):=fun x ⟨i,hx⟩=>h.lt hx;obtain⟨P1,B1⟩:=HW.out.waited hk Z;have P1:O _:=P1;have B1:O (But (rsF D b X.C.length X.G) w (W.setCell ⟨D.gw,k,I⟩ (z Z))):=(But.yhJ hB).trans B1 (fun x _ e=>⟨3,e⟩);have ol:D.gw<w.heap.size:=LT.out _ ⟨3,rfl⟩
 have hgW:D.gw<W.heap.size:=by omega
 have Ei:O ((W.setCell ⟨D.gw,k,I⟩ (z Z)).heap[w.heap.size]?=U (uc #[J Q 0,z Z,J Q 0,J Q 0,J Q 0,z Z] 36 (0,0))):=(Below.heap_setCell _ _ _ _ (fun e=>by have e:D.gw=w.heap.size:=e.symm;omega)).trans RZ.out;clear h hB hw RZ
 go_enter Tryz.func59,Tryz.ntmps59
 go_upto_region 1 with fail
 rw[<-hW];clear hW
 go_upto_region 4 with fail
 have Gn:w.heap.size<(W.setCell ⟨D.gw,k,I⟩ (z Z)).heap.size:=by simpa using rU
 generalize W.setCell ⟨D.gw,k,I⟩ (z Z)=W1 at*;have dE:({X with W:=X.W.set k Z}:Pg.Spc).C.length=X.C.length:=rfl;have HC:=P1.out.core k hk;have ib:O (Pg.fits X.T.p):=P1.out.told;have g2:=A P1.out.c2;have gk:=A (P1.out.row k hk);have g5:=A P1.out.c5;have g6:=A P1.out.c6;have g7:=A P1.out.c7;have g8:=A P1.out.c8;clear c9 kk wf HC;refine Loose.yhL 11 (by kernel_rfl) (by kernel_rfl) ?_;simp only[ua,yB,ue,yP]
 repeat (
  refine Loose.zS (fun k hk=> ?_)
  go_simp
  (refine hk _ ?_;clear hk k))
 refine Loose.yhM ?_;intro w3 He;have P3:O _:=P1.out.grow He;have B3:O (But (rsF D b X.C.length X.G) w w3):=B1.out.trans (But.yhJ (F:=fun _=>False) He) (fun _ _ h=>h.elim);have Z3:O (w3.heap[w.heap.size]?=_):=(He.block _ Gn).trans Ei.out;have dn:w.heap.size<w3.heap.size:=H Gn He.size;have HD:=yaP X.T ib.out w3 (P3.out.core k hk).co;simp only[Pg.Mp.val]at HD;clear He g2 gk g5 g6 g7 g8 P1 B1 Ei
 go_wp2_with fail
 refine HD.mono ?_;rintro e w4 ⟨rfl,v4,dB,iJ,fP⟩;have P4:O _:=P3.out.asked hk ((P3.out.core k hk).yme dB iJ) iJ.but fP;have B4:O (But (rsF D b X.C.length X.G) w w4):=B3.out.trans iJ.but (fun x _ hx=>⟨k+5,hk,hx⟩);have F4:O (∀x,rsF {D with cv:=fun j=>if j=k then v4 else D.cv j} b X.C.length X.G x->rsF D b X.C.length X.G x\/w.heap.size<x):=fun x hx=>(qO hk fP x hx).imp id (fun h=>by omega);have Z4:O (w4.heap[w.heap.size]?=_):=(iJ.but.block _ dn (fun e=>by have:=LT.out _ ⟨k+5,hk,e⟩;omega)).trans Z3.out;have pz:w.heap.size<w4.heap.size:=H dn iJ.but.size;generalize EL:({D with cv:=fun j=>if j=k then v4 else D.cv j}:Rsd)=D4 at*
 have q1:O (D4.bz=D.bz):=by rw[O,<-EL]
 obtain⟨X4,Gp⟩:=eY (({X with C:=X.C.set k ⟨Pg.yiI (X.C.getD k Pg.Cr.new).L X.T,(X.C.getD k Pg.Cr.new).K⟩,W:=X.W.set k Z}:Pg.Spc))
 have P4:O (Rsk w4 b D4 X4):=by rw[O,Gp];exact P4.out
 have n4:X4.C.length=X.C.length:=by rw[Gp];exact un
 have nz:k<X4.C.length:=by rw[n4];exact hk
 have e4:X4.C.getD k Pg.Cr.new=⟨Pg.yiI (X.C.getD k Pg.Cr.new).L X.T,(X.C.getD k Pg.Cr.new).K⟩:=by rw[Gp];simp[List.getD,hk]
 clear dB iJ fP HD P3 B3 Z3 EL;have g2:=A P4.out.c2;have gk:=A (P4.out.row k nz);have g1:=A P4.out.c1;rw[n4]at g2
 go_upto_region 5 with fail
 refine Loose.yhL 11 (by kernel_rfl) (by kernel_rfl) ?_;simp only[ua,yB,ue,yP]
 repeat (
  refine Loose.zS (fun k hk=> ?_)
  go_simp
  (refine hk _ ?_;clear hk k))
 refine Loose.yhM ?_;intro w5 rD;have P5:O _:=P4.out.grow rD;have B5:O (But (rsF D b X.C.length X.G) w w5):=B4.out.trans (But.yhJ (F:=fun _=>False) rD) (fun _ _ h=>h.elim);have Z5:O (w5.heap[w.heap.size]?=_):=(rD.block _ pz).trans Z4.out;have uD:w.heap.size<w5.heap.size:=H pz rD.size;have HA:=yaL (root:=0) w5 (P5.out.core k nz).ck;clear rD g2 gk g1 P4 B4 Z4
 go_wp2_with fail
 refine HA.mono ?_;rintro e w6 ⟨rfl,ui,Tx⟩;have d9:=(P5.out.core k nz).ok;have P6:=P5.out.asked nz ((P5.out.core k nz).ykL ui (d9.again 0) Tx (fun j hj e=>(P5.out.core k nz).co.nb (e▸hj))) (Tx.but.mono (fun _ _ h=> .inl h)) (fun x hx=> .inl hx)
 have B6:O (But (rsF D b X.C.length X.G) w w6):=B5.out.trans Tx.but (fun x hx e=>by
  rcases F4.out x ⟨k+5,hk,.inl e⟩with h|h
  ·exact h
  ·omega)
 have F6:O (∀x,rsF {D4 with cv:=fun j=>if j=k then D4.cv k else D4.cv j} b X.C.length X.G x->rsF D b X.C.length X.G x\/w.heap.size<x):=fun x hx=>by
  rcases qO (N:=w5.heap.size) hk (fun x hx=> .inl hx) x hx with h|h
  ·exact F4.out x h
  ·exact .inr (by omega)
 have Z6:O (w6.heap[w.heap.size]?=U (uc #[J Q 0,z Z,J Q 0,J Q 0,J Q 0,z Z] 36 (0,0))):=(Tx.but.block _ uD (fun e=>by
  rcases F4.out w.heap.size ⟨k+5,hk,.inl e⟩with h|h
  ·have:=LT.out _ h
   omega
  ·omega)).trans Z5.out
 have bU:w.heap.size<w6.heap.size:=H uD Tx.but.size;have q6:O (({D4 with cv:=fun j=>if j=k then D4.cv k else D4.cv j}:Rsd).bz=D.bz):=q1.out
 have eX:({X4 with C:=X4.C.set k ⟨(X4.C.getD k Pg.Cr.new).L,(X4.C.getD k Pg.Cr.new).K.again 0⟩}:Pg.Spc)=X.tell k:=by
  rw[e4,Gp];unfold Pg.Spc.tell Pg.Cr.told;simp only[yE]
 rw[eX]at P6;generalize ({D4 with cv:=fun j=>if j=k then D4.cv k else D4.cv j}:Rsd)=D6 at*;have P6:O (Rsk w6 b D6 (X.tell k)):=P6;have n6:(X.tell k).C.length=X.C.length:=un;have eW:(X.tell k).W=X.W.set k Z:=rfl;have eG:(X.tell k).G=X.G:=rfl;clear ui Tx HA P5 B5 Z5 F4 q1 eX e4 Gp nz n4 d9
 have lT:X.C.length<=4:=by have:=P6.out.le;rw[n6]at this;exact this
 go_wp2
 go_loopw [5] (fun i wr=>∃j:Nat,j<=X.C.length/\i=J Q j/\O ((∀t,t<j->(X.W.set k Z).getD t Z=Z)/\Lw w6 wr)) (fun i _=>X.C.length-(intOf i).toNat)
 case atStart=>exact⟨0,by omega,rfl,⟨fun t ht=>by omega,zR _⟩⟩
 case round=>
  obtain⟨j,hj,rfl,HR⟩:=hrel;have PR:O _:=P6.out.grow HR.out.2;have c9:=PR.out.c9;rw[n6]at c9
  have j0:(0:Int)<=(j:Int):=by omega
  by_cases Hf:j<X.C.length
  ·have j1:(j:Int)<(X.C.length:Int):=by omega
   have kj:=PR.out.wt j (by rw[n6];exact Hf);rw[eW]at kj;cases hv:(X.W.set k Z).getD j Z
   ·rw[hv]at kj
    have HN:O (∀t,t<j+1->(X.W.set k Z).getD t Z=Z):=fun t ht=>by
     by_cases e:t=j
     ·rw[e];exact hv
     ·exact HR.out.1 t (by omega)
    clear hv
    go_wp2
    go_roundw
    case rel=>exact⟨j+1,by omega,by go_num,⟨HN.out,HR.out.2⟩⟩
    case measure=>simp[intOf];omega
   ·rw[hv]at kj
    have sZ:(X.W.set k Z).any id=yC:=yU.2 ⟨yC,by rw[<-hv];exact Pg.yja (by have:=P6.out.len;rw[eW,n6]at this;omega) _,rfl⟩
    have eE:X.akE k= .code 0:=by
     unfold Pg.Spc.akE;rw[yI,iN (by rw[wR.out];decide),iP sZ]
    have eN:X.akN k=X.tell k:=by
     unfold Pg.Spc.akN;rw[yI,iN (by rw[wR.out];decide),iP sZ];rfl
    have Tm:(X.tell k).busy=yC:=sZ;have HE:O _:=eE;have ZR:wr.heap[w.heap.size]?=_:=(HR.out.2.block _ bU).trans Z6.out;obtain⟨⟨z0,z1,z2,z3,z4,z5⟩,zf⟩:=zE ZR;have UE:w.heap.size<wr.heap.size:=H bU HR.out.2.size
    have FIN:O (∀Wf,But (fun x=>x=w.heap.size) wr Wf->∃D',Rsk Wf b D' (X.akN k)/\(D.bz=X.busy->D'.bz=(X.akN k).busy)/\But (rsF D b X.C.length X.G) w Wf/\∀x,rsF D' b X.C.length (X.akN k).G x->rsF D b X.C.length X.G x\/w.heap.size<=x):=fun Wf hb=>by
     rw[eN,Tm];refine⟨D6,PR.out.keep hb (fun x hx e=> ?_),fun e=>q6.out.trans (e.trans Ws.out),(B6.out.trans (But.yhJ (F:=fun _=>False) HR.out.2) (fun _ _ h=>h.elim)).trans hb (fun x hx e=>by omega),fun x hx=>(F6.out x hx).imp id (fun h=>by omega)⟩;rw[n6,eG]at hx;rcases F6.out x hx with h|h
     ·have:=LT.out _ h
      omega
     ·omega
    clear hv HR PR P6 Z6 B6 ZR eE eN sZ Tm
    go_wp2
    refine ki (v:=(X.akE k).val) ?_ rfl ⟨rfl,FIN.out _ ?_⟩
    ·rw[HE.out]
     simp[results,Tryz.results59,go_sem,z0,z1,z2,z3,z4,z5,UE,Pg.Ev.val,Pg.Ev.code]
    ·exact qH (But.refl (fun x=>x=w.heap.size) wr) _ (.inr rfl) _ _ _ _ _ _
  ·have j1:¬(j:Int)<(X.C.length:Int):=by omega
   have IQ:(X.W.set k Z).length=X.C.length:=by have:=P6.out.len;rw[eW,n6]at this;exact this
   have sZ:(X.W.set k Z).any id=Z:=by
    cases hv:(X.W.set k Z).any id
    ·rfl
    ·obtain⟨y,hy,Dw⟩:=yU.1 hv
     obtain⟨t,ht,rfl⟩:=List.mem_iff_getElem.1 hy;have:=HR.out.1 t (by omega);rw[show(X.W.set k Z).getD t Z=(X.W.set k Z)[t]from by simp only[List.getD,List.getElem?_eq_getElem ht,Option.getD_some]]at this;rw[this]at Dw;cases Dw
   have HE:O (X.akE k=⟨0,Z,0,0,0,yC⟩):=by
    rw[O];unfold Pg.Spc.akE;rw[yI,iN (by rw[wR.out];decide),iN (by rw[sZ];decide)]
   have HN:O (X.akN k={X.tell k with S:=Pg.gives X.G X.S,G:=[]}):=by
    rw[O];unfold Pg.Spc.akN;rw[yI,iN (by rw[wR.out];decide),iN (by rw[sZ];decide)];rfl
   have Wq:O (({X.tell k with S:=Pg.gives X.G X.S,G:=[]}:Pg.Spc).busy=Z):=sZ;have ZR:O (wr.heap[w.heap.size]?=_):=(HR.out.2.block _ bU).trans Z6.out;have UE:w.heap.size<wr.heap.size:=H bU HR.out.2.size;have BR:O (But (rsF D b X.C.length X.G) w wr):=B6.out.trans (But.yhJ (F:=fun _=>False) HR.out.2) (fun _ _ h=>h.elim);have iJ:X.G.length<=4680:=P6.out.few;clear sZ HR P6 Z6 B6
   go_wp2
   go_loopw [6] (fun i wq=>∃t:Nat,t<=X.G.length/\i=J Q t/\O (∃vm,Rsk wq b {D6 with vm:=vm} {X.tell k with S:=Pg.gives (X.G.take t) X.S}/\But (rsF D b X.C.length X.G) w wq/\(∀x,rsF {D6 with vm:=vm} b X.C.length X.G x->rsF D b X.C.length X.G x\/w.heap.size<x)/\wq.heap[w.heap.size]?=U (uc #[J Q 0,z Z,J Q 0,J Q 0,J Q 0,z Z] 36 (0,0))/\w.heap.size<wq.heap.size)) (fun i _=>X.G.length-(intOf i).toNat)
   case atStart=>exact⟨0,by omega,rfl,⟨D6.vm,PR.out,BR.out,F6.out,ZR.out,UE⟩⟩
   case round=>
    obtain⟨t,ht,rfl,HQ⟩:=hrel;clear PR BR ZR c9 F6;obtain⟨vm,PQ,BQ,FQ,ZQ,Nc⟩:=HQ.out;have PQ:O _:=PQ;have BQ:O _:=BQ;have FQ:O _:=FQ;have ZQ:O _:=ZQ;clear HQ
    have t0:(0:Int)<=(t:Int):=by omega
    have q4:=PQ.out.c4;simp only[eG]at q4
    by_cases Hf:t<X.G.length
    ·have t1:(t:Int)<(X.G.length:Int):=by omega
     obtain⟨g,eg,hgl,gB⟩:=PQ.out.gone t Hf;simp only at eg;rw[eg]at q4;have gB:wr.cell? ⟨g,t,I⟩=U (J Q (X.G.getD t 0)):=gB;have g4:=A q4;have gg:=A gB;have g0:=A PQ.out.c0;simp only at g0
     have OZ:O (Pg.gives (X.G.take (t+1)) X.S=(Pg.gives (X.G.take t) X.S).give (X.G.getD t 0)):=by
      rw[O,show X.G.take (t+1)=X.G.take t++[X.G.getD t 0]from by rw[List.take_succ_eq_append_getElem Hf];simp[List.getD,Hf],yaZ]
     generalize X.G.getD t 0=y at*;clear gB hgl
     go_upto_region 14 with fail
     clear q4;refine Loose.yhL 11 (by kernel_rfl) (by kernel_rfl) ?_;simp only[ua,yB,ue,yP]
     repeat (
      refine Loose.zS (fun k hk=> ?_)
      go_simp
      (refine hk _ ?_;clear hk k))
     refine Loose.yhM ?_;intro w8 sH;have P8:O _:=PQ.out.grow sH;have HV:=yc2 y w8 P8.out.mem;simp only at HV;have B8:O (But (rsF D b X.C.length X.G) w w8):=BQ.out.trans (But.yhJ (F:=fun _=>False) sH) (fun _ _ h=>h.elim);have Z8:O (w8.heap[w.heap.size]?=_):=(sH.block _ Nc).trans ZQ.out;have Nb:w.heap.size<w8.heap.size:=H Nc sH.size;clear sH g4 gg g0 PQ BQ ZQ
     go_wp2_with fail
     refine HV.mono ?_;rintro e w9 ⟨rfl,v9,IW,gu,ET⟩
     have M9:∀x,xg D6.bm D6.g0 D6.g1 v9 x->xg D6.bm D6.g0 D6.g1 vm x\/w8.heap.size<=x:=fun x hx=>by
      rcases hx with hx|hx|hx|hx
      ·exact .inl (.inl hx)
      ·exact .inl (.inr (.inl hx))
      ·exact .inl (.inr (.inr (.inl hx)))
      ·rcases ET with h|⟨j',h,h'⟩
       ·exact .inl (.inr (.inr (.inr (h▸hx))))
       ·rw[h]at hx
        injection hx with hx;exact .inr (by omega)
     have P9:O (Rsk w9 b {D6 with vm:=v9} {X.tell k with S:=Pg.gives (X.G.take (t+1)) X.S}):=by
      rw[O,OZ.out];exact P8.out.frames IW gu M9
     have NF:¬xg D6.bm D6.g0 D6.g1 vm w.heap.size:=fun e=>by
      rcases FQ.out _ ⟨1,e⟩with h|h
      ·have:=LT.out _ h
       omega
      ·omega
     have B9:O (But (rsF D b X.C.length X.G) w w9):=B8.out.trans gu (fun x hx e=>by
      rcases FQ.out x ⟨1,e⟩with h|h
      ·exact h
      ·omega)
     have F9:O (∀x,rsF {D6 with vm:=v9} b X.C.length X.G x->rsF D b X.C.length X.G x\/w.heap.size<x):=fun x hx=>by
      rcases jT (D:={D6 with vm:=vm}) M9 x hx with h|h
      ·exact FQ.out x h
      ·exact .inr (by omega)
     have Z9:O (w9.heap[w.heap.size]?=_):=(gu.block _ Nb NF).trans Z8.out;have hs9:w.heap.size<w9.heap.size:=H Nb gu.size;clear IW gu ET M9 P8 B8 Z8 FQ HV OZ NF
     go_wp2
     go_roundw
     case rel=>exact⟨t+1,by omega,by go_num,⟨v9,P9.out,B9.out,F9.out,Z9.out,hs9⟩⟩
     case measure=>simp[intOf];omega
    ·have t1:¬(t:Int)<(X.G.length:Int):=by omega
     have et:t=X.G.length:=by omega
     subst et;have q3:=PQ.out.c3;have qf:=PQ.out.fb;obtain⟨PO,BO⟩:=PQ.out.over;rw[List.take_length]at PO;have rV:=PQ.out.lb
     have dA:b≠w.heap.size:=fun e=>by have:=LT.out b ⟨0,rfl⟩;omega
     have Sz:w.heap.size≠b:=fun e=>dA e.symm;have ZO:((wr.setCell ⟨b,3,I⟩ (z Z)).setCell ⟨b,4,I⟩ (yS I 0 0)).heap[w.heap.size]?=_:=(BO.block _ Nc Sz).trans ZQ.out
     have FIN:O (∀Wf,But (fun x=>x=w.heap.size) ((wr.setCell ⟨b,3,I⟩ (z Z)).setCell ⟨b,4,I⟩ (yS I 0 0)) Wf->∃D',Rsk Wf b D' (X.akN k)/\(D.bz=X.busy->D'.bz=(X.akN k).busy)/\But (rsF D b X.C.length X.G) w Wf/\∀x,rsF D' b X.C.length (X.akN k).G x->rsF D b X.C.length X.G x\/w.heap.size<=x):=fun Wf hb=>by
      rw[HN.out,Wq.out]
      have pG:∀x,rsF {D6 with vm:=vm,bz:=Z,ag:=I,cg:=0} b X.C.length [] x->rsF D b X.C.length X.G x\/w.heap.size<x:=by
       rintro x ⟨i,hx⟩;refine FQ.out x ⟨i,?_⟩
       match i with
       | 0=>exact hx
       | 1=>exact hx
       | 2=>exact hx
       | 3=>exact hx
       | 4=>exact absurd rfl hx.1
       | k+5=>exact hx
      refine⟨_,PO.keep hb (fun x hx e=> ?_),fun _=>rfl,(BQ.out.trans BO (fun x _ e=>⟨0,e⟩)).trans hb (fun x hx e=>by omega),fun x hx=>(pG x hx).imp id (fun h=>by omega)⟩;rw[show({X.tell k with S:=Pg.gives X.G X.S,G:=[]}:Pg.Spc).C.length=X.C.length from n6]at hx;rcases pG x hx with h|h
      ·have:=LT.out _ h
       omega
      ·omega
     obtain⟨⟨z0,z1,z2,z3,z4,z5⟩,zf⟩:=zE ZO;clear PO BO ZO PQ BQ FQ ZQ
     go_upto_region 16 with fail
     have Su:w.heap.size<((wr.setCell ⟨b,3,I⟩ (z Z)).setCell ⟨b,4,I⟩ (yS I 0 0)).heap.size:=by simpa using Nc
     generalize (wr.setCell ⟨b,3,I⟩ (z Z)).setCell ⟨b,4,I⟩ (yS I 0 0)=WO at*;clear q3 q4 qf
     go_wp2
     refine ki (v:=(X.akE k).val) ?_ rfl ⟨rfl,FIN.out _ ?_⟩
     ·rw[HE.out]
      simp[results,Tryz.results59,go_sem,z0,z1,z2,z3,z4,z5,Su,Pg.Ev.val]
     ·exact qH (But.refl (fun x=>x=w.heap.size) WO) _ (.inr rfl) _ _ _ _ _ _
structure zx (w:uv) (b:Nat) (D:Rsd) (X X':Pg.Spc) (w':uv):Prop where
 ex:∃D',Rsk w' b D' X'/\(D.bz=X.busy->D'.bz=X'.busy)/\But (rsF D b X.C.length X.G) w w'/\∀x,rsF D' b X'.C.length X'.G x->rsF D b X.C.length X.G x\/w.heap.size<=x
theorem zx.same {w w':uv} {b:Nat} {D:Rsd} {X:Pg.Spc} (h:Rsk w b D X) (hb:Lw w w'):zx w b D X X w':=⟨D,h.grow hb,id,But.yhJ hb,fun x hx=> .inl hx⟩
theorem yfa {b:Nat} {D:Rsd} {X:Pg.Spc} {k:Nat} (hk:k<X.C.length) (w:uv) (h:Rsk w b D X):
 yR ud 59 #[kh (U ⟨b,0,I⟩),J Q (k:Int)] w fun e w'=>e=ur (X.akE k).val/\zx w b D X (X.akN k) w':=by
 cases hw:X.W.getD k Z
 ·have e1:X.akE k= .code 9:=by unfold Pg.Spc.akE;rw[yI,iP hw]
  have e2:X.akN k=X:=by unfold Pg.Spc.akN;rw[yI,iP hw]
  rw[e1,e2];refine(yd9 hk hw w h).mono ?_;rintro e w' ⟨rfl,hb⟩;exact⟨rfl,.same h hb⟩
 ·refine(yea hk hw w h).mono ?_
  rintro e w' ⟨rfl,D',h1,h2,h3,h4⟩;refine⟨rfl,D',h1,h2,h3,?_⟩
  have:(X.akN k).C.length=X.C.length:=by
   unfold Pg.Spc.akN;split
   ·rfl
   ·split<;>exact un
  rw[this];exact h4
theorem ybA {b:Nat} {D:Rsd} {X:Pg.Spc} (x:Pg.Sx) (w:uv) (h:Rsk w b D X) (hz:D.bz=yC):
 yR ud 55 #[kh (U ⟨b,0,I⟩),x.val] w fun e w'=>e=ur (Pg.Ev.code 8).val/\Lw w w':=by
 obtain⟨W,hW⟩:=eY (chW w x)
 have CW:O (ChW w W x):=by rw[hW];exact xK w x
 have c3:=(h.grow CW.out.bel).c3;rw[hz]at c3;obtain⟨⟨z0,z1,z2,z3,z4,z5⟩,zf⟩:=zE CW.out.ev
 have rU:w.heap.size+1<W.heap.size:=by rw[CW.out.size];omega
 clear h hz;simp only[chW,Pg.Sx.val]at hW ⊢
 go_enter Tryz.func55,Tryz.ntmps55
 go_upto_region 1 with fail
 rw[<-hW];clear hW
 go_wp2
 refine ki (v:=(Pg.Ev.code 8).val) ?_ rfl ⟨rfl,?_⟩
 ·simp[results,Tryz.results55,go_sem,z0,z1,z2,z3,z4,z5,rU,Pg.Ev.val,Pg.Ev.code]
 ·exact vn CW.out.bel _ (by omega) _ _ _ _ _ _
theorem ycm {b:Nat} {D:Rsd} {X:Pg.Spc} (x:Pg.Sx) (hk:x.kind=1) (w:uv) (h:Rsk w b D X) (hz:D.bz=Z):
 yR ud 55 #[kh (U ⟨b,0,I⟩),x.val] w fun e w'=>e=ur (⟨Pg.insC X.S 0 x.m,Z,0,0,0,decide (Pg.insC X.S 0 x.m=0)⟩:Pg.Ev).val/\zx w b D X {X with S:=Pg.insS X.S 0 x.m} w':=by
 obtain⟨kd,co,⟨p,s,f,r⟩,q,k,u⟩:=x;simp only at hk;subst hk;obtain⟨W,hW⟩:=eY (chW w ⟨1,co,⟨p,s,f,r⟩,q,k,u⟩)
 have CW:O (ChW w W ⟨1,co,⟨p,s,f,r⟩,q,k,u⟩):=by rw[hW];exact xK w _
 have PW:O _:=h.grow CW.out.bel;have LT:O (∀x,rsF D b X.C.length X.G x->x<w.heap.size):=fun x ⟨i,hx⟩=>h.lt hx;have c3:=PW.out.c3;rw[hz]at c3;have x0:=CW.out.x0;simp only at x0
 have rU:w.heap.size+1<W.heap.size:=by rw[CW.out.size];omega
 have g0:=A PW.out.c0;have g1:=A PW.out.c1;have y2:=A CW.out.x2;have y3:=A CW.out.x3;have y4:=A CW.out.x4;have y5:=A CW.out.x5;simp only at y2 y3 y4 y5;clear h hz;simp only[chW,Pg.Sx.val]at hW ⊢
 go_enter Tryz.func55,Tryz.ntmps55
 go_upto_region 1 with fail
 rw[<-hW];clear hW
 go_upto_region 4 with fail
 refine Loose.yhL 10 (by kernel_rfl) (by kernel_rfl) ?_;simp only[ua,yB,ue,yP]
 repeat (
  refine Loose.zS (fun k hk=> ?_)
  go_simp
  (refine hk _ ?_;clear hk k))
 refine Loose.yhM ?_;intro w3 He;have P3:O _:=PW.out.grow He;have E3:O (w3.heap[w.heap.size+1]?=_):=(He.block _ rU).trans CW.out.ev;have dn:w.heap.size+1<w3.heap.size:=H rU He.size;have B3:O (Lw w w3):=zT CW.out.bel He;have HI:=yb5 0 ⟨p,s,f,r⟩ w3 P3.out.mem;simp only[Pg.Mp.val]at HI;clear He g0 g1 y2 y3 y4 y5 c3 x0 PW CW
 go_wp2_with fail
 refine HI.mono ?_;rintro e w4 ⟨rfl,v4,gD,Hl,UM⟩
 have M4:∀x,xg D.bm D.g0 D.g1 v4 x->xg D.bm D.g0 D.g1 D.vm x\/w3.heap.size<=x:=fun x hx=>by
  rcases hx with hx|hx|hx|hx
  ·exact .inl (.inl hx)
  ·exact .inl (.inr (.inl hx))
  ·exact .inl (.inr (.inr (.inl hx)))
  ·exact .inl (.inr (.inr (.inr (UM▸hx))))
 have P4:O _:=P3.out.frames gD Hl M4
 have NE:¬xg D.bm D.g0 D.g1 D.vm (w.heap.size+1):=fun e=>by have:=LT.out _ ⟨1,e⟩;omega
 have E4:w4.heap[w.heap.size+1]?=_:=(Hl.block _ dn NE).trans E3.out;have pz:w.heap.size+1<w4.heap.size:=H dn Hl.size;obtain⟨⟨z0,z1,z2,z3,z4,z5⟩,zf⟩:=zE E4
 have FIN:O (∀Wf,But (fun x=>x=w.heap.size+1) w4 Wf->zx w b D X {X with S:=Pg.insS X.S 0 ⟨p,s,f,r⟩} Wf):=fun Wf hb=>by
  have pG:∀x,rsF {D with vm:=v4} b X.C.length X.G x->rsF D b X.C.length X.G x:=fun x hx=>by
   rcases jT M4 x hx with h|h
   ·exact h
   ·obtain⟨i,hi⟩:=hx
    have:=P4.out.lt hi
    rcases jT (N:=w4.heap.size+1) (fun x hx=>by
     rcases hx with hx|hx|hx|hx
     ·exact .inl (.inl hx)
     ·exact .inl (.inr (.inl hx))
     ·exact .inl (.inr (.inr (.inl hx)))
     ·exact .inl (.inr (.inr (.inr (UM▸hx))))) x ⟨i,hi⟩with h'|h'
    ·exact h'
    ·omega
  refine⟨_,P4.out.keep hb (fun x hx e=> ?_),id,((But.yhJ B3.out).trans Hl (fun x _ e=>⟨1,e⟩)).trans hb (fun x hx e=>by omega),fun x hx=> .inl (pG x hx)⟩;have:=LT.out _ (pG x hx);omega
 clear gD Hl UM M4 P4 P3 E3 E4 HI NE B3
 go_wp2
 refine ki (v:=(⟨Pg.insC X.S 0 ⟨p,s,f,r⟩,Z,0,0,0,decide (Pg.insC X.S 0 ⟨p,s,f,r⟩=0)⟩:Pg.Ev).val) ?_ rfl ⟨rfl,FIN.out _ ?_⟩
 ·rw[show decide (Pg.insC X.S 0 ⟨p,s,f,r⟩=0)=(Pg.insC X.S 0 ⟨p,s,f,r⟩==0)from rfl]
  simp[results,Tryz.results55,go_sem,z0,z1,z2,z3,z4,z5,pz,Pg.Ev.val]
 ·exact qH (But.refl (fun x=>x=w.heap.size+1) w4) _ (.inr rfl) _ _ _ _ _ _
structure ChM (w w':uv) (b:Nat) (D:Rsd) (X:Pg.Spc) (S':Pg.Fs) (x:Pg.Sx) (m:Pg.Mp):Prop where
 rs:Rsk w' b D {X with S:=S'}
 but:But (rsF D b X.C.length X.G) w w'
 ev:w'.heap[w.heap.size+1]?=U (uc #[J Q 0,z Z,J Q 0,J Q 0,J Q 0,z Z] 36 (0,0))
 size:w.heap.size+2<w'.heap.size
 m0:w'.cell? ⟨w.heap.size+2,0,I⟩=U (J Q m.p)
 m1:w'.cell? ⟨w.heap.size+2,1,I⟩=U (J Q m.s)
 m2:w'.cell? ⟨w.heap.size+2,2,I⟩=U (J Q m.f)
 m3:w'.cell? ⟨w.heap.size+2,3,I⟩=U (J Q m.r)
theorem ye9 {w:uv} {r:Nat} {v0 v1 v2 v3:yV} {t:TypeId} (h:w.heap[r]?=U (uc #[v0,v1,v2,v3] t (0,0))):
 (w.cell? ⟨r,0,I⟩=U v0/\w.cell? ⟨r,1,I⟩=U v1/\w.cell? ⟨r,2,I⟩=U v2/\w.cell? ⟨r,3,I⟩=U v3)/\∀i,w.frozen? ⟨r,i,I⟩=Z:=
 ⟨by simp[yM,h],fun i=>by simp[yK,h]⟩
theorem ChM.made {w w4:uv} {b:Nat} {D:Rsd} {X:Pg.Spc} {S':Pg.Fs} {x:Pg.Sx} {m:Pg.Mp} {v0 v1 v2 v3:yV} {t:TypeId} (P:Rsk w4 b D {X with S:=S'}) (B:But (rsF D b X.C.length X.G) w w4) (lt:∀x,rsF D b X.C.length X.G x->x<w.heap.size)
 (E:w4.heap[w.heap.size+1]?=U (uc #[J Q 0,z Z,J Q 0,J Q 0,J Q 0,z Z] 36 (0,0))) (s:w.heap.size+2<w4.heap.size) (M:w4.heap[w.heap.size+2]?=U (uc #[v0,v1,v2,v3] t (0,0))):
 ChM w ((((w4.setCell ⟨w.heap.size+2,0,I⟩ (J Q m.p)).setCell ⟨w.heap.size+2,1,I⟩ (J Q m.s)).setCell ⟨w.heap.size+2,2,I⟩ (J Q m.f)).setCell ⟨w.heap.size+2,3,I⟩ (J Q m.r)) b D X S' x m:=by
 obtain⟨⟨z0,z1,z2,z3⟩,zf⟩:=ye9 M
 have hb:But (fun x=>x=w.heap.size+2) w4 ((((w4.setCell ⟨w.heap.size+2,0,I⟩ (J Q m.p)).setCell ⟨w.heap.size+2,1,I⟩ (J Q m.s)).setCell ⟨w.heap.size+2,2,I⟩ (J Q m.f)).setCell ⟨w.heap.size+2,3,I⟩ (J Q m.r)):=
  ((((But.refl (fun x=>x=w.heap.size+2) w4).setCell (a:=⟨w.heap.size+2,0,I⟩) (.inr rfl) _).setCell (a:=⟨w.heap.size+2,1,I⟩) (.inr rfl) _).setCell (a:=⟨w.heap.size+2,2,I⟩) (.inr rfl) _).setCell (a:=⟨w.heap.size+2,3,I⟩) (.inr rfl) _
 refine⟨P.keep hb (fun x hx e=>by have:=lt x hx;omega),B.trans hb (fun x hx e=>by omega),(hb.block _ (by omega) (by omega)).trans E,by simpa using s,?_,?_,?_,?_⟩<;>simp[go_sem,z0,z1,z2,z3]
theorem yaB {b:Nat} {D:Rsd} {X X':Pg.Spc} (x:Pg.Sx) (hk:x.kind=2) (w:uv) (h:Rsk w b D X) (hz:D.bz=Z) (h1:Pg.tFC X.S 0 x.m.p=0->X'=X.post (Pg.rmR X.S 0 x.m.p).1 (Pg.tFM X.S 0 x.m.p) (Pg.rmR X.S 0 x.m.p).2) (h2:Pg.tFC X.S 0 x.m.p≠0->X'=X):
 yR ud 55 #[kh (U ⟨b,0,I⟩),x.val] w fun e w'=>e=ur (Pg.Ev.code (Pg.tFC X.S 0 x.m.p)).val/\zx w b D X X' w':=by
 obtain⟨kd,co,⟨p,s,f,r⟩,q,k,u⟩:=x;simp only at hk h1 h2;subst hk;obtain⟨W,hW⟩:=eY (chW w ⟨2,co,⟨p,s,f,r⟩,q,k,u⟩)
 have CW:O (ChW w W ⟨2,co,⟨p,s,f,r⟩,q,k,u⟩):=by rw[hW];exact xK w _
 have PW:O _:=h.grow CW.out.bel;have LT:O (∀x,rsF D b X.C.length X.G x->x<w.heap.size):=fun x ⟨i,hx⟩=>h.lt hx;have c3:=PW.out.c3;rw[hz]at c3;have x0:=CW.out.x0;simp only at x0;have rU:W.heap.size=w.heap.size+2:=CW.out.size
 have mV:w.heap.size<W.heap.size:=by omega
 obtain⟨W2,Hy⟩:=eY (W.alloc (uc #[J Q 0,J Q 0,J Q 0,J Q 0] 39))
 have Hd:Lw W W2:=by rw[Hy];exact zA (zR _) _
 have M2:O (W2.heap[w.heap.size+2]?=U (uc #[J Q 0,J Q 0,J Q 0,J Q 0] 39 (0,0))):=by rw[O,Hy,<-rU];exact yJ _ _
 have pJ:W2.heap.size=w.heap.size+3:=by rw[Hy];simp[rU]
 have P2:O _:=PW.out.grow Hd;have E2:O (W2.heap[w.heap.size+1]?=_):=(Hd.block _ (by omega)).trans CW.out.ev;have y0:=(Hd.cell (p:=⟨w.heap.size,0,I⟩) mV).trans CW.out.x0;have y2:=(Hd.cell (p:=⟨w.heap.size,2,I⟩) mV).trans CW.out.x2;simp only at y0 y2;have B2:O (Lw w W2):=zT CW.out.bel Hd;have HI:=fun w3 (hm:zj w3 D.bm D.g0 D.g1 D.vm X.S)=>yaA 0 p w3 hm;have Pb:O (Pg.fits (Pg.tFM X.S 0 p).p):=Pg.ykS X.S p;have HL:O ((Pg.rmR X.S 0 p).2.length<=4680):=ye7 _ _ _
 have mD:O (Pg.tFC X.S 0 p≠0->(Pg.rmR X.S 0 p).1=X.S):=fun e=>by unfold Pg.rmR;rw[iN e]
 have H1:O _:=h1;have H2:O _:=h2;have HZ:O (D.bz=Z):=hz;clear h hz h1 h2;simp only[chW,Pg.Sx.val]at hW ⊢;generalize rT:Pg.tFC X.S 0 p=c at*;clear rT;generalize Pg.tFM X.S 0 p=m at*;generalize (Pg.rmR X.S 0 p).1=S' at*;generalize (Pg.rmR X.S 0 p).2=G at*;obtain⟨mp,ms,fM,mr⟩:=m;have rV:b<w.heap.size:=LT.out b ⟨0,rfl⟩
 have n1:b≠w.heap.size+2:=by omega
 have n2:w.heap.size≠w.heap.size+2:=by omega
 have n3:w.heap.size+2≠b:=by omega
 have n4:w.heap.size+2≠w.heap.size:=by omega
 have g0:=P2.out.c0;have g1:=P2.out.c1
 by_cases hc:c=0
 ·have hX:=H1.out hc
  subst hc;have Pi:O _:=hX;clear hX H1 H2 mD
  go_enter Tryz.func55,Tryz.ntmps55
  go_upto_region 1 with fail
  rw[<-hW];clear hW
  go_upto_region 7 with fail
  rw[<-Hy];clear Hy c3 x0
  go_upto_region 10 with fail
  go_region_held3 (fun w'=>w'.cell? ⟨b,0,I⟩=U (kh (U ⟨D.bm,0,I⟩))/\w'.cell? ⟨b,1,I⟩=U (J Q 0)/\w'.cell? ⟨w.heap.size,2,I⟩=U (J Q p)) (go_keep) (
   (go_at_call 98;refine(HI _ (P2.out.grow (by first|exact(zR W2).drew|exact zR W2)).mem).mono ?_;rintro en w4 ⟨ad,cap,rfl,Tg,gD,Hl,lT⟩
    simp only[Pg.Mp.val];have P4:O _:=(P2.out.grow (by first|exact(zR W2).drew|exact zR W2)).frames gD Hl (fun x hx=> .inl hx);have B4:O (But (rsF D b X.C.length X.G) w w4):=(But.yhJ (zT B2.out (by first|exact(zR W2).drew|exact zR W2))).trans Hl (fun x _ e=>⟨1,e⟩)
    have NE:∀j,w.heap.size<=j->¬xg D.bm D.g0 D.g1 D.vm j:=fun j hj e=>by have:=LT.out _ ⟨1,e⟩;omega
    have E4:O (w4.heap[w.heap.size+1]?=_):=(Hl.block _ (by simp;omega) (NE _ (by omega))).trans E2.out;have M4:O (w4.heap[w.heap.size+2]?=_):=(Hl.block _ (by simp;omega) (NE _ (by omega))).trans M2.out
    have pz:w.heap.size+2<w4.heap.size:=by have:=Hl.size;simp at this;omega
    have HN:O (∀g,ad=U ⟨g,0,I⟩->w.heap.size+2<g):=fun g e=>by have:=lT g e;simp at this;omega
    obtain⟨⟨m0,m1,m2,m3⟩,mf⟩:=ye9 M4.out;have u0:=P4.out.c0;have u1:=P4.out.c1;have u2:w4.cell? ⟨w.heap.size,2,I⟩=U (J Q p):=(Hl.cell (a:=⟨w.heap.size,2,I⟩) (show w.heap.size<_ by first|(simp;omega)|omega) (NE _ (yT _))).trans y2;have C4:O _:=ChM.made (x:=⟨2,co,⟨p,s,f,r⟩,q,k,u⟩) (m:=⟨mp,ms,fM,mr⟩) P4.out B4.out LT.out E4.out pz M4.out;have CQ:O (zq ((((w4.setCell ⟨w.heap.size+2,0,I⟩ (J Q mp)).setCell ⟨w.heap.size+2,1,I⟩ (J Q ms)).setCell ⟨w.heap.size+2,2,I⟩ (J Q fM)).setCell ⟨w.heap.size+2,3,I⟩ (J Q mr)) ad G):=Tg.but (((((But.refl (fun x=>x=w.heap.size+2) w4).setCell (a:=⟨w.heap.size+2,0,I⟩) (.inr rfl) _).setCell (a:=⟨w.heap.size+2,1,I⟩) (.inr rfl) _).setCell (a:=⟨w.heap.size+2,2,I⟩) (.inr rfl) _).setCell (a:=⟨w.heap.size+2,3,I⟩) (.inr rfl) _) (fun g e e2=>by have:=HN.out g e;omega)
    clear Tg gD Hl lT P4 B4 NE E4 M4))
  clear m0 m1 m2 m3 mf u0 u1 u2 y0 y2 g0 g1 pz P2 CW PW E2 M2 B2 Hd HI;generalize (((w4.setCell ⟨w.heap.size+2,0,I⟩ (J Q mp)).setCell ⟨w.heap.size+2,1,I⟩ (J Q ms)).setCell ⟨w.heap.size+2,2,I⟩ (J Q fM)).setCell ⟨w.heap.size+2,3,I⟩ (J Q mr)=W5 at*
  have FD:O (∀g,ad=U ⟨g,0,I⟩->¬rsF D b X.C.length [] g):=fun g e hg=>by
   have:=HN.out g e
   have:g<w.heap.size:=LT.out g (by
    obtain⟨i,hi⟩:=hg;refine⟨i,?_⟩
    match i with
    | 0=>exact hi
    | 1=>exact hi
    | 2=>exact hi
    | 3=>exact hi
    | 4=>exact absurd rfl hi.1
    | k+5=>exact hi)
   omega
  have oL:=ya5 ⟨mp,ms,fM,mr⟩ Pb.out ad cap G W5 C4.out.rs CQ.out FD.out HL.out;simp only[Pg.Mp.val]at oL;have m0:=C4.out.m0;have m1:=C4.out.m1;have m2:=C4.out.m2;have m3:=C4.out.m3;simp only at m0 m1 m2 m3
  go_wp2_with fail
  refine oL.mono ?_;rintro e w6 ⟨rfl,Bu,ru⟩
  have NG:∀j,w.heap.size<=j->¬(j=b\/j=D.gw):=fun j hj e=>by
   rcases e with e|e
   ·omega
   ·have:=LT.out D.gw ⟨3,rfl⟩
    omega
  have E6:w6.heap[w.heap.size+1]?=_:=(ru.block _ (by have:=C4.out.size;omega) (NG _ (by omega))).trans C4.out.ev
  have bU:w.heap.size+1<w6.heap.size:=by have:=C4.out.size;have:=ru.size;omega
  obtain⟨⟨z0,z1,z2,z3,z4,z5⟩,zf⟩:=zE E6
  have mQ:1<=X.W.length:=by
   have h1:=C4.out.rs.len;have h2:=C4.out.rs.pos;simp only at h1 h2;omega
  have FIN:O (∀Wf,But (fun x=>x=w.heap.size+1) w6 Wf->zx w b D X X' Wf):=fun Wf hb=>by
   rw[Pi.out]
   have pG:∀x,rsF {D with ag:=ad,cg:=cap,bz:=yC} b X.C.length G x->rsF D b X.C.length X.G x\/w.heap.size+2<x:=by
    rintro x ⟨i,hx⟩
    match i with
    | 0=>exact .inl ⟨0,hx⟩
    | 1=>exact .inl ⟨1,hx⟩
    | 2=>exact .inl ⟨2,hx⟩
    | 3=>exact .inl ⟨3,hx⟩
    | 4=>exact .inr (HN.out x hx.2)
    | k+5=>exact .inl ⟨k+5,hx⟩
   refine⟨_,Bu.keep hb (fun x hx e=> ?_),fun _=>(Pg.yii mQ).symm,(C4.out.but.trans ru (fun x _ e=>e.elim (fun e=>⟨0,e⟩) (fun e=>⟨3,e⟩))).trans hb (fun x hx e=>by omega),fun x hx=>(pG x hx).imp id (fun h=>by omega)⟩;rcases pG x hx with h|h
   ·have:=LT.out _ h
    omega
   ·omega
  clear Bu ru oL E6 NG C4 CQ FD m0 m1 m2 m3
  go_wp2
  refine ki (v:=(Pg.Ev.code 0).val) ?_ rfl ⟨rfl,FIN.out _ ?_⟩
  ·simp[results,Tryz.results55,go_sem,z0,z1,z2,z3,z4,z5,bU,Pg.Ev.val,Pg.Ev.code]
  ·exact qH (But.refl (fun x=>x=w.heap.size+1) w6) _ (.inr rfl) _ _ _ _ _ _
 ·have hX:=H2.out hc
  have hS:=mD.out hc;have Pi:O _:=hX;have oM:O _:=hS;clear hX hS H1 H2 mD
  have lM:(c==0)=Z:=by simpa using hc
  go_enter Tryz.func55,Tryz.ntmps55
  go_upto_region 1 with fail
  rw[<-hW];clear hW
  go_upto_region 7 with fail
  rw[<-Hy];clear Hy c3 x0
  go_upto_region 10 with fail
  go_region_held3 (fun w'=>w'.cell? ⟨b,0,I⟩=U (kh (U ⟨D.bm,0,I⟩))/\w'.cell? ⟨b,1,I⟩=U (J Q 0)/\w'.cell? ⟨w.heap.size,2,I⟩=U (J Q p)) (go_keep) (
   (go_at_call 98;refine(HI _ (P2.out.grow (by first|exact(zR W2).drew|exact zR W2)).mem).mono ?_;rintro en w4 ⟨ad,cap,rfl,Tg,gD,Hl,lT⟩
    simp only[Pg.Mp.val];have P4:O _:=(P2.out.grow (by first|exact(zR W2).drew|exact zR W2)).frames gD Hl (fun x hx=> .inl hx);have B4:O (But (rsF D b X.C.length X.G) w w4):=(But.yhJ (zT B2.out (by first|exact(zR W2).drew|exact zR W2))).trans Hl (fun x _ e=>⟨1,e⟩)
    have NE:∀j,w.heap.size<=j->¬xg D.bm D.g0 D.g1 D.vm j:=fun j hj e=>by have:=LT.out _ ⟨1,e⟩;omega
    have E4:O (w4.heap[w.heap.size+1]?=_):=(Hl.block _ (by simp;omega) (NE _ (by omega))).trans E2.out;have M4:O (w4.heap[w.heap.size+2]?=_):=(Hl.block _ (by simp;omega) (NE _ (by omega))).trans M2.out
    have pz:w.heap.size+2<w4.heap.size:=by have:=Hl.size;simp at this;omega
    have HN:O (∀g,ad=U ⟨g,0,I⟩->w.heap.size+2<g):=fun g e=>by have:=lT g e;simp at this;omega
    obtain⟨⟨m0,m1,m2,m3⟩,mf⟩:=ye9 M4.out;have u0:=P4.out.c0;have u1:=P4.out.c1;have u2:w4.cell? ⟨w.heap.size,2,I⟩=U (J Q p):=(Hl.cell (a:=⟨w.heap.size,2,I⟩) (show w.heap.size<_ by first|(simp;omega)|omega) (NE _ (yT _))).trans y2;have C4:O _:=ChM.made (x:=⟨2,co,⟨p,s,f,r⟩,q,k,u⟩) (m:=⟨mp,ms,fM,mr⟩) P4.out B4.out LT.out E4.out pz M4.out;have CQ:O (zq ((((w4.setCell ⟨w.heap.size+2,0,I⟩ (J Q mp)).setCell ⟨w.heap.size+2,1,I⟩ (J Q ms)).setCell ⟨w.heap.size+2,2,I⟩ (J Q fM)).setCell ⟨w.heap.size+2,3,I⟩ (J Q mr)) ad G):=Tg.but (((((But.refl (fun x=>x=w.heap.size+2) w4).setCell (a:=⟨w.heap.size+2,0,I⟩) (.inr rfl) _).setCell (a:=⟨w.heap.size+2,1,I⟩) (.inr rfl) _).setCell (a:=⟨w.heap.size+2,2,I⟩) (.inr rfl) _).setCell (a:=⟨w.heap.size+2,3,I⟩) (.inr rfl) _) (fun g e e2=>by have:=HN.out g e;omega)
    clear Tg gD Hl lT P4 B4 NE E4 M4))
  clear m0 m1 m2 m3 mf u0 u1 u2 y0 y2 g0 g1 pz P2 CW PW E2 M2 B2 Hd HI CQ;generalize (((w4.setCell ⟨w.heap.size+2,0,I⟩ (J Q mp)).setCell ⟨w.heap.size+2,1,I⟩ (J Q ms)).setCell ⟨w.heap.size+2,2,I⟩ (J Q fM)).setCell ⟨w.heap.size+2,3,I⟩ (J Q mr)=W5 at*
  have bU:w.heap.size+1<W5.heap.size:=by have:=C4.out.size;omega
  obtain⟨⟨z0,z1,z2,z3,z4,z5⟩,zf⟩:=zE C4.out.ev
  have FIN:O (∀Wf,But (fun x=>x=w.heap.size+1) W5 Wf->zx w b D X X' Wf):=fun Wf hb=>by
   rw[Pi.out];have hp:=C4.out.rs;rw[oM.out]at hp;refine⟨D,hp.keep hb (fun x hx e=> ?_),id,C4.out.but.trans hb (fun x hx e=>by omega),fun x hx=> .inl hx⟩;have:=LT.out x hx;omega
  clear C4
  go_wp2
  refine ki (v:=(Pg.Ev.code c).val) ?_ rfl ⟨rfl,FIN.out _ ?_⟩
  ·simp[results,Tryz.results55,go_sem,z0,z1,z2,z3,z4,z5,bU,Pg.Ev.val,Pg.Ev.code]
  ·exact qH (But.refl (fun x=>x=w.heap.size+1) W5) _ (.inr rfl) _ _ _ _ _ _
theorem vq {b:Nat} {D:Rsd} {X X':Pg.Spc} (x:Pg.Sx) (hk:x.kind=3) (w:uv) (h:Rsk w b D X) (hz:D.bz=Z) (h1:Pg.prC X.S 0 x.m.p x.m.r=0->X'=X.post (Pg.prS X.S 0 x.m.p x.m.r) (Pg.prM X.S 0 x.m.p x.m.r) []) (h2:Pg.prC X.S 0 x.m.p x.m.r≠0->X'=X):
 yR ud 55 #[kh (U ⟨b,0,I⟩),x.val] w fun e w'=>e=ur (Pg.Ev.code (Pg.prC X.S 0 x.m.p x.m.r)).val/\zx w b D X X' w':=by
 obtain⟨kd,co,⟨p,s,f,r⟩,q,k,u⟩:=x;simp only at hk h1 h2;subst hk;obtain⟨W,hW⟩:=eY (chW w ⟨3,co,⟨p,s,f,r⟩,q,k,u⟩)
 have CW:O (ChW w W ⟨3,co,⟨p,s,f,r⟩,q,k,u⟩):=by rw[hW];exact xK w _
 have PW:O _:=h.grow CW.out.bel;have LT:O (∀x,rsF D b X.C.length X.G x->x<w.heap.size):=fun x ⟨i,hx⟩=>h.lt hx;have c3:=PW.out.c3;rw[hz]at c3;have x0:=CW.out.x0;simp only at x0;have rU:W.heap.size=w.heap.size+2:=CW.out.size
 have mV:w.heap.size<W.heap.size:=by omega
 obtain⟨W2,Hy⟩:=eY (W.alloc (uc #[J Q 0,J Q 0,J Q 0,J Q 0] 39))
 have Hd:Lw W W2:=by rw[Hy];exact zA (zR _) _
 have M2:O (W2.heap[w.heap.size+2]?=U (uc #[J Q 0,J Q 0,J Q 0,J Q 0] 39 (0,0))):=by rw[O,Hy,<-rU];exact yJ _ _
 have pJ:W2.heap.size=w.heap.size+3:=by rw[Hy];simp[rU]
 have P2:O _:=PW.out.grow Hd;have E2:O (W2.heap[w.heap.size+1]?=_):=(Hd.block _ (by omega)).trans CW.out.ev;have y0:=(Hd.cell (p:=⟨w.heap.size,0,I⟩) mV).trans CW.out.x0;have y2:=(Hd.cell (p:=⟨w.heap.size,2,I⟩) mV).trans CW.out.x2;have y5:=(Hd.cell (p:=⟨w.heap.size,5,I⟩) mV).trans CW.out.x5;simp only at y0 y2 y5;have B2:O (Lw w W2):=zT CW.out.bel Hd;have HI:=fun w3 (hm:zj w3 D.bm D.g0 D.g1 D.vm X.S)=>ybw 0 p r w3 hm;have Pb:O (Pg.fits (Pg.prM X.S 0 p r).p):=Pg.ylO X.S p r
 have mD:O (Pg.prC X.S 0 p r≠0->Pg.prS X.S 0 p r=X.S):=fun e=>by unfold Pg.prS;rw[iN e]
 have H1:O _:=h1;have H2:O _:=h2;have HZ:O (D.bz=Z):=hz;clear h hz h1 h2;simp only[chW,Pg.Sx.val]at hW ⊢;generalize rT:Pg.prC X.S 0 p r=c at*;clear rT;generalize Pg.prM X.S 0 p r=m at*;generalize Pg.prS X.S 0 p r=S' at*;obtain⟨mp,ms,fM,mr⟩:=m;have rV:b<w.heap.size:=LT.out b ⟨0,rfl⟩
 have n1:b≠w.heap.size+2:=by omega
 have n2:w.heap.size≠w.heap.size+2:=by omega
 have n3:w.heap.size+2≠b:=by omega
 have n4:w.heap.size+2≠w.heap.size:=by omega
 have g0:=P2.out.c0;have g1:=P2.out.c1
 by_cases hc:c=0
 ·have hX:=H1.out hc
  subst hc;have Pi:O _:=hX;clear hX H1 H2 mD
  go_enter Tryz.func55,Tryz.ntmps55
  go_upto_region 1 with fail
  rw[<-hW];clear hW
  go_upto_region 7 with fail
  rw[<-Hy];clear Hy c3 x0
  go_upto_region 11 with fail
  go_region_held3 (fun w'=>w'.cell? ⟨b,0,I⟩=U (kh (U ⟨D.bm,0,I⟩))/\w'.cell? ⟨b,1,I⟩=U (J Q 0)/\w'.cell? ⟨w.heap.size,2,I⟩=U (J Q p)/\w'.cell? ⟨w.heap.size,5,I⟩=U (J Q r)) (go_keep) (
   (go_at_call 99;refine(HI _ (P2.out.grow (by first|exact(zR W2).drew|exact zR W2)).mem).mono ?_;rintro en w4 ⟨rfl,gD,Hl⟩
    simp only[Pg.Mp.val];have P4:O _:=(P2.out.grow (by first|exact(zR W2).drew|exact zR W2)).frames gD Hl (fun x hx=> .inl hx);have B4:O (But (rsF D b X.C.length X.G) w w4):=(But.yhJ (zT B2.out (by first|exact(zR W2).drew|exact zR W2))).trans Hl (fun x _ e=>⟨1,e⟩)
    have NE:∀j,w.heap.size<=j->¬xg D.bm D.g0 D.g1 D.vm j:=fun j hj e=>by have:=LT.out _ ⟨1,e⟩;omega
    have E4:O (w4.heap[w.heap.size+1]?=_):=(Hl.block _ (by simp;omega) (NE _ (by omega))).trans E2.out;have M4:O (w4.heap[w.heap.size+2]?=_):=(Hl.block _ (by simp;omega) (NE _ (by omega))).trans M2.out
    have pz:w.heap.size+2<w4.heap.size:=by have:=Hl.size;simp at this;omega
    obtain⟨⟨m0,m1,m2,m3⟩,mf⟩:=ye9 M4.out;have u0:=P4.out.c0;have u1:=P4.out.c1;have u2:w4.cell? ⟨w.heap.size,2,I⟩=U (J Q p):=(Hl.cell (a:=⟨w.heap.size,2,I⟩) (show w.heap.size<_ by first|(simp;omega)|omega) (NE _ (yT _))).trans y2;have u5:w4.cell? ⟨w.heap.size,5,I⟩=U (J Q r):=(Hl.cell (a:=⟨w.heap.size,5,I⟩) (show w.heap.size<_ by first|(simp;omega)|omega) (NE _ (yT _))).trans y5;have C4:O _:=ChM.made (x:=⟨3,co,⟨p,s,f,r⟩,q,k,u⟩) (m:=⟨mp,ms,fM,mr⟩) P4.out B4.out LT.out E4.out pz M4.out
    clear gD Hl P4 B4 NE E4 M4))
  clear m0 m1 m2 m3 mf u0 u1 u2 u5 y0 y2 y5 g0 g1 pz P2 CW PW E2 M2 B2 Hd HI;generalize (((w4.setCell ⟨w.heap.size+2,0,I⟩ (J Q mp)).setCell ⟨w.heap.size+2,1,I⟩ (J Q ms)).setCell ⟨w.heap.size+2,2,I⟩ (J Q fM)).setCell ⟨w.heap.size+2,3,I⟩ (J Q mr)=W5 at*;have oL:=ya5 ⟨mp,ms,fM,mr⟩ Pb.out I 0 [] W5 C4.out.rs (fun j hj=>by simp at hj) (fun g e=>by cases e) (by simp);simp only[Pg.Mp.val,yX]at oL;have m0:=C4.out.m0;have m1:=C4.out.m1;have m2:=C4.out.m2;have m3:=C4.out.m3;simp only at m0 m1 m2 m3
  go_wp2_with fail
  refine oL.mono ?_;rintro e w6 ⟨rfl,Bu,ru⟩
  have NG:∀j,w.heap.size<=j->¬(j=b\/j=D.gw):=fun j hj e=>by
   rcases e with e|e
   ·omega
   ·have:=LT.out D.gw ⟨3,rfl⟩
    omega
  have E6:w6.heap[w.heap.size+1]?=_:=(ru.block _ (by have:=C4.out.size;omega) (NG _ (by omega))).trans C4.out.ev
  have bU:w.heap.size+1<w6.heap.size:=by have:=C4.out.size;have:=ru.size;omega
  obtain⟨⟨z0,z1,z2,z3,z4,z5⟩,zf⟩:=zE E6
  have mQ:1<=X.W.length:=by
   have h1:=C4.out.rs.len;have h2:=C4.out.rs.pos;simp only at h1 h2;omega
  have FIN:O (∀Wf,But (fun x=>x=w.heap.size+1) w6 Wf->zx w b D X X' Wf):=fun Wf hb=>by
   rw[Pi.out]
   have pG:∀x,rsF {D with ag:=I,cg:=0,bz:=yC} b X.C.length [] x->rsF D b X.C.length X.G x\/w.heap.size+2<x:=by
    rintro x ⟨i,hx⟩
    match i with
    | 0=>exact .inl ⟨0,hx⟩
    | 1=>exact .inl ⟨1,hx⟩
    | 2=>exact .inl ⟨2,hx⟩
    | 3=>exact .inl ⟨3,hx⟩
    | 4=>exact absurd rfl hx.1
    | k+5=>exact .inl ⟨k+5,hx⟩
   refine⟨_,Bu.keep hb (fun x hx e=> ?_),fun _=>(Pg.yii mQ).symm,(C4.out.but.trans ru (fun x _ e=>e.elim (fun e=>⟨0,e⟩) (fun e=>⟨3,e⟩))).trans hb (fun x hx e=>by omega),fun x hx=>(pG x hx).imp id (fun h=>by omega)⟩;rcases pG x hx with h|h
   ·have:=LT.out _ h
    omega
   ·omega
  clear Bu ru oL E6 NG C4 m0 m1 m2 m3
  go_wp2
  refine ki (v:=(Pg.Ev.code 0).val) ?_ rfl ⟨rfl,FIN.out _ ?_⟩
  ·simp[results,Tryz.results55,go_sem,z0,z1,z2,z3,z4,z5,bU,Pg.Ev.val,Pg.Ev.code]
  ·exact qH (But.refl (fun x=>x=w.heap.size+1) w6) _ (.inr rfl) _ _ _ _ _ _
 ·have hX:=H2.out hc
  have hS:=mD.out hc;have Pi:O _:=hX;have oM:O _:=hS;clear hX hS H1 H2 mD
  have lM:(c==0)=Z:=by simpa using hc
  go_enter Tryz.func55,Tryz.ntmps55
  go_upto_region 1 with fail
  rw[<-hW];clear hW
  go_upto_region 7 with fail
  rw[<-Hy];clear Hy c3 x0
  go_upto_region 11 with fail
  go_region_held3 (fun w'=>w'.cell? ⟨b,0,I⟩=U (kh (U ⟨D.bm,0,I⟩))/\w'.cell? ⟨b,1,I⟩=U (J Q 0)/\w'.cell? ⟨w.heap.size,2,I⟩=U (J Q p)/\w'.cell? ⟨w.heap.size,5,I⟩=U (J Q r)) (go_keep) (
   (go_at_call 99;refine(HI _ (P2.out.grow (by first|exact(zR W2).drew|exact zR W2)).mem).mono ?_;rintro en w4 ⟨rfl,gD,Hl⟩
    simp only[Pg.Mp.val];have P4:O _:=(P2.out.grow (by first|exact(zR W2).drew|exact zR W2)).frames gD Hl (fun x hx=> .inl hx);have B4:O (But (rsF D b X.C.length X.G) w w4):=(But.yhJ (zT B2.out (by first|exact(zR W2).drew|exact zR W2))).trans Hl (fun x _ e=>⟨1,e⟩)
    have NE:∀j,w.heap.size<=j->¬xg D.bm D.g0 D.g1 D.vm j:=fun j hj e=>by have:=LT.out _ ⟨1,e⟩;omega
    have E4:O (w4.heap[w.heap.size+1]?=_):=(Hl.block _ (by simp;omega) (NE _ (by omega))).trans E2.out;have M4:O (w4.heap[w.heap.size+2]?=_):=(Hl.block _ (by simp;omega) (NE _ (by omega))).trans M2.out
    have pz:w.heap.size+2<w4.heap.size:=by have:=Hl.size;simp at this;omega
    obtain⟨⟨m0,m1,m2,m3⟩,mf⟩:=ye9 M4.out;have u0:=P4.out.c0;have u1:=P4.out.c1;have u2:w4.cell? ⟨w.heap.size,2,I⟩=U (J Q p):=(Hl.cell (a:=⟨w.heap.size,2,I⟩) (show w.heap.size<_ by first|(simp;omega)|omega) (NE _ (yT _))).trans y2;have u5:w4.cell? ⟨w.heap.size,5,I⟩=U (J Q r):=(Hl.cell (a:=⟨w.heap.size,5,I⟩) (show w.heap.size<_ by first|(simp;omega)|omega) (NE _ (yT _))).trans y5;have C4:O _:=ChM.made (x:=⟨3,co,⟨p,s,f,r⟩,q,k,u⟩) (m:=⟨mp,ms,fM,mr⟩) P4.out B4.out LT.out E4.out pz M4.out
    clear gD Hl P4 B4 NE E4 M4))
  clear m0 m1 m2 m3 mf u0 u1 u2 u5 y0 y2 y5 g0 g1 pz P2 CW PW E2 M2 B2 Hd HI;generalize (((w4.setCell ⟨w.heap.size+2,0,I⟩ (J Q mp)).setCell ⟨w.heap.size+2,1,I⟩ (J Q ms)).setCell ⟨w.heap.size+2,2,I⟩ (J Q fM)).setCell ⟨w.heap.size+2,3,I⟩ (J Q mr)=W5 at*
  have bU:w.heap.size+1<W5.heap.size:=by have:=C4.out.size;omega
  obtain⟨⟨z0,z1,z2,z3,z4,z5⟩,zf⟩:=zE C4.out.ev
  have FIN:O (∀Wf,But (fun x=>x=w.heap.size+1) W5 Wf->zx w b D X X' Wf):=fun Wf hb=>by
   rw[Pi.out];have hp:=C4.out.rs;rw[oM.out]at hp;refine⟨D,hp.keep hb (fun x hx e=> ?_),id,C4.out.but.trans hb (fun x hx e=>by omega),fun x hx=> .inl hx⟩;have:=LT.out x hx;omega
  clear C4
  go_wp2
  refine ki (v:=(Pg.Ev.code c).val) ?_ rfl ⟨rfl,FIN.out _ ?_⟩
  ·simp[results,Tryz.results55,go_sem,z0,z1,z2,z3,z4,z5,bU,Pg.Ev.val,Pg.Ev.code]
  ·exact qH (But.refl (fun x=>x=w.heap.size+1) W5) _ (.inr rfl) _ _ _ _ _ _
end
section
attribute [local go_sem] Loose.gent
theorem ycl {b:Nat} {D:Rsd} {X:Pg.Spc} (x:Pg.Sx) (hx:1<=x.kind/\x.kind<=3) (w:uv) (h:Rsk w b D X) (hz:D.bz=X.busy):
 yR ud 55 #[kh (U ⟨b,0,I⟩),x.val] w fun e w'=>e=ur (X.chE x).val/\zx w b D X (X.chN x) w':=by
 unfold Pg.Spc.chE Pg.Spc.chN;cases hb:X.busy
 ·simp only[Bool.false_eq_true,if_false]
  rw[hb]at hz
  by_cases h1:x.kind=1
  ·rw[iP h1,iP h1]
   exact ycm x h1 w h hz
  ·rw[iN h1,iN h1]
   by_cases h2:x.kind=2
   ·rw[iP h2,iP h2]
    exact yaB x h2 w h hz (fun e=>iP e) (fun e=>iN e)
   ·rw[iN h2,iN h2]
    exact vq x (by omega) w h hz (fun e=>iP e) (fun e=>iN e)
 ·simp only[if_true]
  refine(ybA x w h (hz.trans hb)).mono ?_;rintro e w' ⟨rfl,rV⟩;exact⟨rfl,.same h rV⟩
theorem zx.behind {w W W' Wf:uv} {b:Nat} {D:Rsd} {X X':Pg.Spc} {Y:Nat->Prop} (hB:Lw w W) (h:zx W b D X X' W') (lt:∀x,rsF D b X.C.length X.G x->x<w.heap.size) (hY:∀x,Y x->w.heap.size<=x/\x<W.heap.size) (hb:But Y W' Wf):zx w b D X X' Wf:=by
 obtain⟨D',h1,h2,h3,h4⟩:=h;refine⟨D',h1.keep hb (fun x hx hy=> ?_),h2,((But.yhJ hB).trans h3 (fun _ _ h=>h)).trans hb (fun x hx hy=>by have:=hY x hy;omega),fun x hx=>(h4 x hx).imp id (fun h=>by have:=hB.size;omega)⟩;have:=hY x hy;rcases h4 x hx with h|h
 ·have:=lt x h
  omega
 ·omega
theorem yc7 {b:Nat} {D:Rsd} {X:Pg.Spc} (x:Pg.Sx) (hx:x.kind=1\/x.kind=2\/x.kind=3) (w:uv) (h:Rsk w b D X) (hz:D.bz=X.busy):
 yR ud 13 #[kh (U ⟨b,0,I⟩),x.val] w fun e w'=>e=ur (X.chE x).val/\zx w b D X (X.chN x) w':=by
 obtain⟨W,hW⟩:=eY (chW w x)
 have CW:O (ChW w W x):=by rw[hW];exact xK w x
 have LT:O (∀x,rsF D b X.C.length X.G x->x<w.heap.size):=fun x ⟨i,hx⟩=>h.lt hx;have HC:=ycl x (by omega) W (h.grow CW.out.bel) hz
 have rU:w.heap.size+1<W.heap.size:=by rw[CW.out.size];omega
 obtain⟨x0,x1,x2,x3,x4,x5,x6,x7,x8⟩:=(⟨CW.out.x0,CW.out.x1,CW.out.x2,CW.out.x3,CW.out.x4,CW.out.x5,CW.out.x6,CW.out.x7,CW.out.x8⟩:_/\_/\_/\_/\_/\_/\_/\_/\_);clear h hz;generalize hE:X.chE x=E at*;generalize hN:X.chN x=X' at*;clear hE hN;obtain⟨kd,co,⟨p,s,f,r⟩,q,k,u⟩:=x;simp only[chW,Pg.Sx.val]at hW HC hx x0 x1 x2 x3 x4 x5 x6 x7 x8 ⊢;obtain⟨ec,en,ea,ef,er,eb⟩:=E;simp only[Pg.Ev.val]at HC ⊢;rcases hx with rfl|rfl|rfl
 all_goals
  go_enter Tryz.func13,Tryz.ntmps13
  go_upto_region 1 with fail
  rw[<-hW];clear hW
  go_wp2_with fail
  refine HC.mono ?_;rintro e w1 ⟨rfl,hR⟩;have Kg:=hR;obtain⟨D',hp,_,Ha,tH⟩:=Kg
  have NE:¬rsF D b X.C.length X.G (w.heap.size+1):=fun e=>by have:=LT.out _ e;omega
  have E1:w1.heap[w.heap.size+1]?=_:=(Ha.block _ rU NE).trans CW.out.ev;have rG:w.heap.size+1<w1.heap.size:=H rU Ha.size;obtain⟨⟨z0,z1,z2,z3,z4,z5⟩,zf⟩:=zE E1;have FIN:O (∀Wf,But (fun x=>x=w.heap.size+1) w1 Wf->zx w b D X X' Wf):=fun Wf hb=>hR.behind CW.out.bel LT.out (fun x e=>⟨by omega,by omega⟩) hb;clear hR hp Ha tH NE E1 HC x0 x1 x2 x3 x4 x5 x6 x7 x8 CW
  go_wp2
  refine ki (v:=yD #[J Q ec,z en,J Q ea,J Q ef,J Q er,z eb]) ?_ rfl ⟨rfl,FIN.out _ ?_⟩
  ·simp[results,Tryz.results13,go_sem,z0,z1,z2,z3,z4,z5,rG]
  ·exact qH (But.refl (fun x=>x=w.heap.size+1) w1) _ (.inr rfl) _ _ _ _ _ _
theorem yfb {b:Nat} {D:Rsd} {X:Pg.Spc} (x:Pg.Sx) (hx:x.kind<1\/7<x.kind) (w:uv) (h:Rsk w b D X):
 yR ud 13 #[kh (U ⟨b,0,I⟩),x.val] w fun e w'=>e=ur (Pg.Ev.code 2).val/\Lw w w':=by
 obtain⟨W,hW⟩:=eY (chW w x)
 have CW:O (ChW w W x):=by rw[hW];exact xK w x
 have rU:w.heap.size+1<W.heap.size:=by rw[CW.out.size];omega
 have x0:=CW.out.x0;obtain⟨⟨z0,z1,z2,z3,z4,z5⟩,zf⟩:=zE CW.out.ev;clear h;obtain⟨kd,co,⟨p,s,f,r⟩,q,k,u⟩:=x;simp only[chW,Pg.Sx.val]at hW hx x0 ⊢
 have k1:(kd==1)=Z:=by simp;omega
 have k2:(kd==2)=Z:=by simp;omega
 have k3:(kd==3)=Z:=by simp;omega
 rcases hx with hx|hx
 ·have k4:decide (kd<1)=yC:=by simpa using hx
  go_enter Tryz.func13,Tryz.ntmps13
  go_upto_region 1 with fail
  rw[<-hW];clear hW
  go_wp2
  refine ki (v:=(Pg.Ev.code 2).val) ?_ rfl ⟨rfl,?_⟩
  ·simp[results,Tryz.results13,go_sem,z0,z1,z2,z3,z4,z5,rU,Pg.Ev.val,Pg.Ev.code]
  ·exact vn CW.out.bel _ (by omega) _ _ _ _ _ _
 ·have k4:decide (kd<1)=Z:=by simp;omega
  have k5:decide (7<kd)=yC:=by simpa using hx
  go_enter Tryz.func13,Tryz.ntmps13
  go_upto_region 1 with fail
  rw[<-hW];clear hW
  go_wp2
  refine ki (v:=(Pg.Ev.code 2).val) ?_ rfl ⟨rfl,?_⟩
  ·simp[results,Tryz.results13,go_sem,z0,z1,z2,z3,z4,z5,rU,Pg.Ev.val,Pg.Ev.code]
  ·exact vn CW.out.bel _ (by omega) _ _ _ _ _ _
theorem yed {b:Nat} {D:Rsd} {X:Pg.Spc} (x:Pg.Sx) (hx:4<=x.kind/\x.kind<=7) (hc:x.core<0\/(X.C.length:Int)<=x.core) (w:uv) (h:Rsk w b D X):
 yR ud 13 #[kh (U ⟨b,0,I⟩),x.val] w fun e w'=>e=ur (Pg.Ev.code 1).val/\Lw w w':=by
 obtain⟨W,hW⟩:=eY (chW w x)
 have CW:O (ChW w W x):=by rw[hW];exact xK w x
 have rU:w.heap.size+1<W.heap.size:=by rw[CW.out.size];omega
 have x0:=CW.out.x0;have x1:=CW.out.x1;have c2:=(h.grow CW.out.bel).c2;obtain⟨⟨z0,z1,z2,z3,z4,z5⟩,zf⟩:=zE CW.out.ev;clear h;obtain⟨kd,co,⟨p,s,f,r⟩,q,k,u⟩:=x;simp only[chW,Pg.Sx.val]at hW hx hc x0 x1 ⊢
 have k1:(kd==1)=Z:=by simp;omega
 have k2:(kd==2)=Z:=by simp;omega
 have k3:(kd==3)=Z:=by simp;omega
 have k4:decide (kd<1)=Z:=by simp;omega
 have k5:decide (7<kd)=Z:=by simp;omega
 by_cases rT:co<0
 ·have k6:decide (co<0)=yC:=by simpa using rT
  go_enter Tryz.func13,Tryz.ntmps13
  go_upto_region 1 with fail
  rw[<-hW];clear hW
  go_wp2_with fail
  go_region
  go_wp2
  refine ki (v:=(Pg.Ev.code 1).val) ?_ rfl ⟨rfl,?_⟩
  ·simp[results,Tryz.results13,go_sem,z0,z1,z2,z3,z4,z5,rU,Pg.Ev.val,Pg.Ev.code]
  ·exact(vn CW.out.bel _ (by omega) _ _ _ _ _ _).drew
 ·have k6:decide (co<0)=Z:=by simpa using rT
  have rO:(X.C.length:Int)<=co:=by omega
  have k7:decide ((X.C.length:Int)<=co)=yC:=by simpa using rO
  go_enter Tryz.func13,Tryz.ntmps13
  go_upto_region 1 with fail
  rw[<-hW];clear hW
  go_wp2_with fail
  go_region
  go_wp2
  refine ki (v:=(Pg.Ev.code 1).val) ?_ rfl ⟨rfl,?_⟩
  ·simp[results,Tryz.results13,go_sem,z0,z1,z2,z3,z4,z5,rU,Pg.Ev.val,Pg.Ev.code]
  ·exact(vn CW.out.bel _ (by omega) _ _ _ _ _ _).drew
structure StW (w W:uv) (b:Nat) (D:Rsd) (X:Pg.Spc) (x:Pg.Sx):Prop where
 bel:Lw w W
 rs:Rsk W b D X
 size:w.heap.size+1<W.heap.size
 lt:∀y,rsF D b X.C.length X.G y->y<w.heap.size
 x0:W.cell? ⟨w.heap.size,0,I⟩=U (J Q x.kind)
 x1:W.cell? ⟨w.heap.size,1,I⟩=U (J Q x.core)
 x6:W.cell? ⟨w.heap.size,6,I⟩=U (J Q x.q)
 x7:W.cell? ⟨w.heap.size,7,I⟩=U (J Q x.k)
 x8:W.cell? ⟨w.heap.size,8,I⟩=U (z x.u)
 ev:W.heap[w.heap.size+1]?=U (uc #[J Q 0,z Z,J Q 0,J Q 0,J Q 0,z Z] 36 (0,0))
theorem StW.begun {w:uv} {b:Nat} {D:Rsd} {X:Pg.Spc} (h:Rsk w b D X) (x:Pg.Sx):StW w (chW w x) b D X x:=by
 have c:=xK w x;exact⟨c.bel,h.grow c.bel,by rw[c.size];omega,fun y ⟨i,hy⟩=>h.lt hy,c.x0,c.x1,c.x6,c.x7,c.x8,c.ev⟩
theorem StW.grow {w W W':uv} {b:Nat} {D:Rsd} {X:Pg.Spc} {x:Pg.Sx} (h:StW w W b D X x) (hb:Lw W W'):StW w W' b D X x:=by
 have hs:=h.size
 have hx:w.heap.size<W.heap.size:=by omega
 exact⟨zT h.bel hb,h.rs.grow hb,H hs hb.size,h.lt,(hb.cell (p:=⟨w.heap.size,0,I⟩) hx).trans h.x0,(hb.cell (p:=⟨w.heap.size,1,I⟩) hx).trans h.x1,(hb.cell (p:=⟨w.heap.size,6,I⟩) hx).trans h.x6,(hb.cell (p:=⟨w.heap.size,7,I⟩) hx).trans h.x7,(hb.cell (p:=⟨w.heap.size,8,I⟩) hx).trans h.x8,(hb.block _ hs).trans h.ev⟩
theorem yfZ {b:Nat} {D:Rsd} {X:Pg.Spc} {c:Nat} (x:Pg.Sx) (hx:x.kind=6) (hc:x.core=(c:Int)) (hl:c<X.C.length) (w:uv) (h:Rsk w b D X):
 yR ud 13 #[kh (U ⟨b,0,I⟩),x.val] w fun e w'=>e=ur (X.akE c).val/\zx w b D X (X.akN c) w':=by
 obtain⟨W,hW⟩:=eY (chW w x)
 have SW:O (StW w W b D X x):=by rw[hW];exact .begun h x
 have x0:=SW.out.x0;have x1:=SW.out.x1;have c2:=SW.out.rs.c2;have HA:=fun w' (h:Rsk w' b D X)=>yfa hl w' h;clear h;generalize X.akE c=E at*;generalize X.akN c=X' at*;obtain⟨kd,co,⟨p,s,f,r⟩,q,k,u⟩:=x;simp only at hx hc;subst hx hc;simp only[chW,Pg.Sx.val]at hW x0 x1 ⊢;obtain⟨ec,en,ea,ef,er,eb⟩:=E;simp only[Pg.Ev.val]at HA ⊢
 have i0:(0:Int)<=(c:Int):=by omega
 have i1:(c:Int)<(X.C.length:Int):=by omega
 have k6:decide ((c:Int)<0)=Z:=by simp
 have k7:decide ((X.C.length:Int)<=(c:Int))=Z:=by simp;omega
 go_enter Tryz.func13,Tryz.ntmps13
 go_upto_region 1 with fail
 rw[<-hW];clear hW
 go_wp2_with fail
 go_region
 go_upto_region 7 with fail
 have S5:O _:=SW.out.grow (zR W).drew;clear x0 x1 c2 SW;generalize W.drew=W5 at*;have g2:=A S5.out.rs.c2;have gc:=A (S5.out.rs.row c hl);have y1:=A S5.out.x1;simp only at y1;refine Loose.yhL 8 (by kernel_rfl) (by kernel_rfl) ?_;simp only[ua,yB,ue,yP]
 repeat (
  refine Loose.zS (fun k hk=> ?_)
  go_simp
  (refine hk _ ?_;clear hk k))
 refine Loose.yhM ?_;intro w3 He;have S3:O _:=S5.out.grow He;clear He g2 gc y1 S5;have x0:=S3.out.x0;have x1:=S3.out.x1;simp only at x0 x1;have HA:=HA w3 S3.out.rs
 go_wp2_with fail
 refine HA.mono ?_;rintro e w4 ⟨rfl,hR⟩;have Kg:=hR;obtain⟨D',hp,_,Ha,tH⟩:=Kg;have dn:=S3.out.size
 have NE:¬rsF D b X.C.length X.G (w.heap.size+1):=fun e=>by have:=S3.out.lt _ e;omega
 have E1:w4.heap[w.heap.size+1]?=_:=(Ha.block _ dn NE).trans S3.out.ev;have rG:w.heap.size+1<w4.heap.size:=H dn Ha.size;obtain⟨⟨z0,z1,z2,z3,z4,z5⟩,zf⟩:=zE E1;have FIN:O (∀Wf,But (fun x=>x=w.heap.size+1) w4 Wf->zx w b D X X' Wf):=fun Wf hb=>hR.behind S3.out.bel S3.out.lt (fun x e=>⟨by omega,by omega⟩) hb;clear hR hp Ha tH NE E1 HA x0 x1 S3
 go_wp2
 refine ki (v:=yD #[J Q ec,z en,J Q ea,J Q ef,J Q er,z eb]) ?_ rfl ⟨rfl,FIN.out _ ?_⟩
 ·simp[results,Tryz.results13,go_sem,z0,z1,z2,z3,z4,z5,rG]
 ·exact qH (But.refl (fun x=>x=w.heap.size+1) w4) _ (.inr rfl) _ _ _ _ _ _
theorem yfc {b:Nat} {D:Rsd} {X:Pg.Spc} {c:Nat} (x:Pg.Sx) (hx:x.kind=7) (hc:x.core=(c:Int)) (hl:c<X.C.length) (hL:(X.C.getD c Pg.Cr.new).L=[]) (w:uv) (h:Rsk w b D X):
 yR ud 13 #[kh (U ⟨b,0,I⟩),x.val] w fun e w'=>e=ur (Pg.Ev.code 9).val/\Lw w w':=by
 obtain⟨W,hW⟩:=eY (chW w x)
 have SW:O (StW w W b D X x):=by rw[hW];exact .begun h x
 have x0:=SW.out.x0;have x1:=SW.out.x1;have c2:=SW.out.rs.c2;clear h;obtain⟨kd,co,⟨p,s,f,r⟩,q,k,u⟩:=x;simp only at hx hc;subst hx hc;simp only[chW,Pg.Sx.val]at hW x0 x1 ⊢
 have i0:(0:Int)<=(c:Int):=by omega
 have i1:(c:Int)<(X.C.length:Int):=by omega
 have k6:decide ((c:Int)<0)=Z:=by simp
 have k7:decide ((X.C.length:Int)<=(c:Int))=Z:=by simp;omega
 go_enter Tryz.func13,Tryz.ntmps13
 go_upto_region 1 with fail
 rw[<-hW];clear hW
 go_wp2_with fail
 go_region
 go_upto_region 7 with fail
 have S5:O _:=SW.out.grow (zR W).drew;clear x0 x1 c2 SW;generalize W.drew=W5 at*;have g2:=A S5.out.rs.c2;have gc:=A (S5.out.rs.row c hl);have y1:=A S5.out.x1;simp only at y1;refine Loose.yhL 8 (by kernel_rfl) (by kernel_rfl) ?_;simp only[ua,yB,ue,yP]
 repeat (
  refine Loose.zS (fun k hk=> ?_)
  go_simp
  (refine hk _ ?_;clear hk k))
 refine Loose.yhM ?_;intro w3 He;have S3:O _:=S5.out.grow He;clear He g2 gc y1 S5;have x0:=S3.out.x0;have x1:=S3.out.x1;simp only at x0 x1;have hk:=(S3.out.rs.core c hl).co;rw[hL]at hk;obtain⟨ad,cap,hv⟩:=hk.row.form;have k0:=hk.c0;rw[hv]at k0;simp only[yX]at k0;have dn:=S3.out.size;obtain⟨⟨z0,z1,z2,z3,z4,z5⟩,zf⟩:=zE S3.out.ev;have HB:O _:=S3.out.bel;clear hk hv S3
 go_wp2
 refine ki (v:=(Pg.Ev.code 9).val) ?_ rfl ⟨rfl,?_⟩
 ·simp[results,Tryz.results13,go_sem,z0,z1,z2,z3,z4,z5,dn,Pg.Ev.val,Pg.Ev.code]
 ·exact vn HB.out _ (by omega) _ _ _ _ _ _
theorem yec {b:Nat} {D:Rsd} {X:Pg.Spc} {c:Nat} (x:Pg.Sx) (hx:x.kind=7) (hc:x.core=(c:Int)) (hl:c<X.C.length) (hL:0<(X.C.getD c Pg.Cr.new).L.length) (w:uv) (h:Rsk w b D X):
 yR ud 13 #[kh (U ⟨b,0,I⟩),x.val] w fun e w'=>e=ur (Pg.Ev.code 0).val/\zx w b D X {X with C:=X.C.set c (X.C.getD c Pg.Cr.new).yiy} w':=by
 obtain⟨W,hW⟩:=eY (chW w x)
 have SW:O (StW w W b D X x):=by rw[hW];exact .begun h x
 have x0:=SW.out.x0;have x1:=SW.out.x1;have c2:=SW.out.rs.c2;clear h;obtain⟨kd,co,⟨p,s,f,r⟩,q,k,u⟩:=x;simp only at hx hc;subst hx hc;simp only[chW,Pg.Sx.val]at hW x0 x1 ⊢
 have i0:(0:Int)<=(c:Int):=by omega
 have i1:(c:Int)<(X.C.length:Int):=by omega
 have k6:decide ((c:Int)<0)=Z:=by simp
 have k7:decide ((X.C.length:Int)<=(c:Int))=Z:=by simp;omega
 go_enter Tryz.func13,Tryz.ntmps13
 go_upto_region 1 with fail
 rw[<-hW];clear hW
 go_wp2_with fail
 go_region
 go_upto_region 7 with fail
 have S5:O _:=SW.out.grow (zR W).drew;clear x0 x1 c2 SW;generalize W.drew=W5 at*;have g2:=A S5.out.rs.c2;have gc:=A (S5.out.rs.row c hl);have y1:=A S5.out.x1;simp only at y1;refine Loose.yhL 8 (by kernel_rfl) (by kernel_rfl) ?_;simp only[ua,yB,ue,yP]
 repeat (
  refine Loose.zS (fun k hk=> ?_)
  go_simp
  (refine hk _ ?_;clear hk k))
 refine Loose.yhM ?_;intro w3 He;have S3:O _:=S5.out.grow He;clear He g2 gc y1 S5;have x0:=S3.out.x0;have x1:=S3.out.x1;simp only at x0 x1;have hk:=S3.out.rs.core c hl;obtain⟨g,o,dx,e,hg,dY,Bo⟩:=hk.co.row.shape hL;have c0:=hk.co.c0;have cf:=hk.co.fb 0;have rY:=hk.lb;rw[e]at c0;have uk:=hk.co;rw[e]at uk;have Hg:=hk.co.kept.le;have dn:=S3.out.size
 have d0:((((X.C.getD c Pg.Cr.new).L.length:Nat):Int)==0)=Z:=by rw[beq_eq_false_iff_ne];omega
 have j1:(1:Int)<=((X.C.getD c Pg.Cr.new).L.length:Int):=by omega
 have j3:dx<=9223372036854775807:=by unfold maxLen at Bo;omega
 have CF:O (∀Wf o',o'=o+5\/(dx=1/\o'=o)->But (fun x=>x=w.heap.size+1) (w3.setCell ⟨D.cb c,0,I⟩ (yS (U ⟨g,o',I⟩) ((X.C.getD c Pg.Cr.new).L.length-1) (dx-1))) Wf->zx w b D X {X with C:=X.C.set c (X.C.getD c Pg.Cr.new).yiy} Wf):=fun Wf o' ho hb=>by
  obtain⟨e1,e2,e3⟩:=uk.yiy hL ho;rw[<-e]at e2 e3;have P4:=S3.out.rs.asked hl (hk.yme e1 e2) e2.but e3
  have hR:zx w3 b D X {X with C:=X.C.set c (X.C.getD c Pg.Cr.new).yiy} (w3.setCell ⟨D.cb c,0,I⟩ (yS (U ⟨g,o',I⟩) ((X.C.getD c Pg.Cr.new).L.length-1) (dx-1))):=by
   refine⟨_,P4,id,e2.but.mono (fun x _ hx=>⟨c+5,hl,hx⟩),fun x hx=> ?_⟩;have hn:(X.C.set c (X.C.getD c Pg.Cr.new).yiy).length=X.C.length:=un;simp only[hn]at hx;exact qO hl e3 x hx
  exact hR.behind S3.out.bel S3.out.lt (fun x e=>⟨by omega,by omega⟩) hb
 have oC:D.cb c≠w.heap.size+1:=fun e=>by have:=S3.out.lt _ ⟨c+5,hl,.inl rfl⟩;omega
 have Bp:w.heap.size+1≠D.cb c:=fun e=>oC e.symm;obtain⟨⟨z0,z1,z2,z3,z4,z5⟩,zf⟩:=zE S3.out.ev
 have nU:(dx=1/\∃o',o'=o)\/(¬dx=1/\∃o',o'=o+5):=by
  by_cases hc:dx=1
  ·exact .inl ⟨hc,_,rfl⟩
  ·exact .inr ⟨hc,_,rfl⟩
 clear hk uk S3 hg Bo e;generalize (X.C.getD c Pg.Cr.new).L.length=n at*;rcases nU with ⟨hc,o',pu⟩|⟨hc,o',pu⟩
 ·subst hc pu
  have FIN:O (∀Wf,But (fun x=>x=w.heap.size+1) (w3.setCell ⟨D.cb c,0,I⟩ (yS (U ⟨g,o',I⟩) 0 0)) Wf->zx w b D X {X with C:=X.C.set c (X.C.getD c Pg.Cr.new).yiy} Wf):=fun Wf hb=>CF.out Wf o' (.inr ⟨rfl,rfl⟩) (by rw[show n-1=0 by omega];exact hb);clear CF
  go_wp2
  refine ki (v:=(Pg.Ev.code 0).val) ?_ rfl ⟨rfl,FIN.out _ ?_⟩
  ·simp[results,Tryz.results13,go_sem,z0,z1,z2,z3,z4,z5,dn,oC,Bp,Pg.Ev.val,Pg.Ev.code]
  ·exact qH (But.refl (fun x=>x=w.heap.size+1) (w3.setCell ⟨D.cb c,0,I⟩ (yS (U ⟨g,o',I⟩) 0 0))) _ (.inr rfl) _ _ _ _ _ _
 ·subst pu
  have FIN:O (∀Wf,But (fun x=>x=w.heap.size+1) (w3.setCell ⟨D.cb c,0,I⟩ (yS (U ⟨g,o+5,I⟩) (n-1) (dx-1))) Wf->zx w b D X {X with C:=X.C.set c (X.C.getD c Pg.Cr.new).yiy} Wf):=fun Wf hb=>CF.out Wf (o+5) (.inl rfl) hb;clear CF
  go_wp2
  refine ki (v:=(Pg.Ev.code 0).val) ?_ rfl ⟨rfl,FIN.out _ ?_⟩
  ·simp[results,Tryz.results13,go_sem,z0,z1,z2,z3,z4,z5,dn,oC,Bp,Pg.Ev.val,Pg.Ev.code]
  ·exact qH (But.refl (fun x=>x=w.heap.size+1) (w3.setCell ⟨D.cb c,0,I⟩ (yS (U ⟨g,o+5,I⟩) (n-1) (dx-1)))) _ (.inr rfl) _ _ _ _ _ _
theorem yfX {w:uv} {r:Nat} {v0 v1 v2:yV} {t:TypeId} (h:w.heap[r]?=U (uc #[v0,v1,v2] t (0,0))):
 (w.cell? ⟨r,0,I⟩=U v0/\w.cell? ⟨r,1,I⟩=U v1/\w.cell? ⟨r,2,I⟩=U v2)/\∀i,w.frozen? ⟨r,i,I⟩=Z:=
 ⟨by simp[yM,h],fun i=>by simp[yK,h]⟩
theorem ybK {w3 w4:uv} {F:Nat->Prop} {ob:Obj} (hb:But F (w3.alloc ob).drew w4) (hn:¬F w3.heap.size):w4.heap[w3.heap.size]?=(w3.alloc ob).heap[w3.heap.size]?:=hb.block w3.heap.size (by simp) hn
theorem ja {w3 V w4:uv} {F:Nat->Prop} {a:Addr} {v:yV} (hb:But F V w4) (hV:Lw w3 V) (hl:a.block<w3.heap.size) (hn:¬F a.block) (h:w3.cell? a=U v):w4.cell? a=U v:=(hb.cell (H hl hV.size) hn).trans ((hV.cell hl).trans h)
theorem StW.asked {w w3 V w4 Wa:uv} {b c:Nat} {D:Rsd} {X:Pg.Spc} {x:Pg.Sx} {C':Pg.Cr} {v':yV} {Y:Nat->Prop} (S:StW w w3 b D X x) (hl:c<X.C.length) (hV:Lw w3 V) (hc:ji w4 (D.cb c) v' C') (hb:But (bkF (D.cb c) (D.cv c)) V w4) (hF:∀x,bkF (D.cb c) v' x->bkF (D.cb c) (D.cv c) x\/V.heap.size<=x) (rM:But Y w4 Wa) (hY:∀j,Y j->w3.heap.size<=j/\¬(V.heap.size<=j/\j<w4.heap.size)):
 (∀Wf,But (fun j=>j=w.heap.size+1) Wa Wf->zx w b D X {X with C:=X.C.set c C'} Wf)/\Wa.heap[w.heap.size+1]?=U (uc #[J Q 0,z Z,J Q 0,J Q 0,J Q 0,z Z] 36 (0,0))/\w.heap.size+1<Wa.heap.size:=by
 have hs:=S.size;have Uz:=hV.size;have pz:=hb.size;have P4:=(S.rs.grow hV).asked hl hc hb hF;have hn:(X.C.set c C').length=X.C.length:=un;have own:∀x,rsF {D with cv:=fun j=>if j=c then v' else D.cv j} b X.C.length X.G x->rsF D b X.C.length X.G x\/V.heap.size<=x:=qO hl hF;refine⟨fun Wf hf=> ?_,?_,H (by omega) rM.size⟩
 ·have hW:But (fun j=>Y j\/j=w.heap.size+1) w4 Wf:=(rM.mono (fun _ _ h=> .inl h)).trans hf (fun _ _ h=> .inr h)
  have Ij:∀j,(Y j\/j=w.heap.size+1)->w.heap.size<=j/\¬(V.heap.size<=j/\j<w4.heap.size):=fun j hj=>by
   rcases hj with hj|hj
   ·have:=hY j hj
    omega
   ·omega
  refine⟨_,P4.keep hW (fun x hx hy=> ?_),id,((But.yhJ (zT S.bel hV)).trans hb (fun x _ h=>⟨c+5,hl,h⟩)).trans hW (fun x hx hy=>by have:=Ij x hy;omega),fun x hx=> ?_⟩
  ·obtain⟨i,hi⟩:=hx
   have h4:=P4.lt hi;simp only[hn]at hi;have:=Ij x hy;rcases own x ⟨i,hi⟩with h|h
   ·have:=S.lt x h
    omega
   ·omega
  ·simp only[hn]at hx
   exact(own x hx).imp id (fun h=>by have:=S.bel.size;omega)
 ·refine(rM.block _ (by omega) (fun hy=>by have:=hY _ hy;omega)).trans ((hb.block _ (by omega) (fun hy=> ?_)).trans ((hV.block _ hs).trans S.ev))
  have:=S.lt _ ⟨c+5,hl,hy⟩;omega
theorem yc6 {b:Nat} {D:Rsd} {X:Pg.Spc} {c:Nat} (x:Pg.Sx) (hx:x.kind=4) (hc:x.core=(c:Int)) (hl:c<X.C.length) (w:uv) (h:Rsk w b D X):
 yR ud 13 #[kh (U ⟨b,0,I⟩),x.val] w fun e w'=>e=ur ((X.C.getD c Pg.Cr.new).bgT x.q x.k x.u).ev.val/\zx w b D X {X with C:=X.C.set c ((X.C.getD c Pg.Cr.new).bgN 0 x.q x.k x.u)} w':=by
 obtain⟨W,hW⟩:=eY (chW w x)
 have SW:O (StW w W b D X x):=by rw[hW];exact .begun h x
 have x0:=SW.out.x0;have x1:=SW.out.x1;have c2:=SW.out.rs.c2;clear h;obtain⟨kd,co,⟨p,s,f,r⟩,q,k,u⟩:=x;simp only at hx hc;subst hx hc;have gN:=fun w' (h:ji w' (D.cb c) (D.cv c) (X.C.getD c Pg.Cr.new))=>ycE (root:=0) q k u w' h;simp only[chW,Pg.Sx.val]at hW x0 x1 ⊢
 have i0:(0:Int)<=(c:Int):=by omega
 have i1:(c:Int)<(X.C.length:Int):=by omega
 have k6:decide ((c:Int)<0)=Z:=by simp
 have k7:decide ((X.C.length:Int)<=(c:Int))=Z:=by simp;omega
 generalize hT:(X.C.getD c Pg.Cr.new).bgT q k u=T at*;generalize wZ:(X.C.getD c Pg.Cr.new).bgN 0 q k u=C' at*;clear hT wZ;obtain⟨ta,tf,tr,te,tc⟩:=T;simp only[Pg.Tl.val,Pg.Tl.ev,Pg.Ev.val]at gN ⊢
 go_enter Tryz.func13,Tryz.ntmps13
 go_upto_region 1 with fail
 rw[<-hW];clear hW
 go_wp2_with fail
 go_region
 go_upto_region 7 with fail
 have S5:O _:=SW.out.grow (zR W).drew;clear x0 x1 c2 SW;generalize W.drew=W5 at*;have g2:=A S5.out.rs.c2;have gc:=A (S5.out.rs.row c hl);have y1:=A S5.out.x1;simp only at y1;refine Loose.yhL 8 (by kernel_rfl) (by kernel_rfl) ?_;simp only[ua,yB,ue,yP]
 repeat (
  refine Loose.zS (fun k hk=> ?_)
  go_simp
  (refine hk _ ?_;clear hk k))
 refine Loose.yhM ?_;intro w3 He;have S3:O _:=S5.out.grow He;clear He g2 gc y1 S5;have x0:=S3.out.x0;simp only at x0
 go_upto_region 10 with fail
 clear x0;have c1:=S3.out.rs.c1;have y6:=S3.out.x6;have y7:=S3.out.x7;have y8:=S3.out.x8;simp only at y6 y7 y8;have dn:=S3.out.size;have rV:b<w.heap.size:=S3.out.lt b ⟨0,rfl⟩
 have He:b<w3.heap.size:=by omega
 have lG:w.heap.size<w3.heap.size:=by omega
 have bB:D.cb c<w.heap.size:=S3.out.lt _ ⟨c+5,hl,.inl rfl⟩;have nb:b≠D.cb c:=S3.out.rs.ne (i:=0) (j:=c+5) rfl ⟨hl,.inl rfl⟩ (by omega)
 have n3:¬(w3.heap.size=D.cb c):=by omega
 have nx:¬(w.heap.size=D.cb c):=by omega
 have m3:b≠w3.heap.size:=by omega
 have m4:w.heap.size≠w3.heap.size:=by omega
 have m5:w3.heap.size≠b:=by omega
 have m6:w3.heap.size≠w.heap.size:=by omega
 go_region_held3 (fun w'=>w'.cell? ⟨b,1,I⟩=U (J Q 0)/\w'.cell? ⟨w.heap.size,6,I⟩=U (J Q q)/\w'.cell? ⟨w.heap.size,7,I⟩=U (J Q k)/\w'.cell? ⟨w.heap.size,8,I⟩=U (z u)) (go_keep) (
  (go_at_call 56;refine(gN _ ((S3.out.rs.core c hl).grow (by first|exact(zA (zR w3) _).drew|exact zA (zR w3) _|exact(zR w3).drew|exact zR w3))).mono ?_;rintro en w4 ⟨rfl,dB,Hl⟩
   have lY:O _:=dB;have rR:O _:=Hl;have u1:=ja Hl (by first|exact(zA (zR w3) _).drew|exact zA (zR w3) _|exact(zR w3).drew|exact zR w3) He nb c1;have u6:=ja Hl (by first|exact(zA (zR w3) _).drew|exact zA (zR w3) _|exact(zR w3).drew|exact zR w3) lG nx y6;have u7:=ja Hl (by first|exact(zA (zR w3) _).drew|exact zA (zR w3) _|exact(zR w3).drew|exact zR w3) lG nx y7;have u8:=ja Hl (by first|exact(zA (zR w3) _).drew|exact zA (zR w3) _|exact(zR w3).drew|exact zR w3) lG nx y8;have ub:b<w4.heap.size:=kp _ _ u1;have ux:w.heap.size<w4.heap.size:=kp _ _ u6
   have eF:b≠w4.heap.size:=by omega
   have RN:w.heap.size≠w4.heap.size:=by omega
   first
    | (have hA:But (fun j=>j=D.cb c) w3.drew w4:=Hl;clear hA)
    | (have tN:w4.heap[w3.heap.size]?=U (uc #[J Q 0,J Q 0,J Q 0] 34 (0,0)):=(ybK Hl n3).trans (yJ w3 (uc #[J Q 0,J Q 0,J Q 0] 34))
       have pz:w3.heap.size<w4.heap.size:=(yY.1 tN).1
       obtain⟨⟨a0,a1,a2⟩,af⟩:=yfX tN)
   clear dB Hl))
 ·obtain⟨Wa,rM⟩:=eY (w4.alloc (uc #[J Q ta,J Q tf,J Q tr] 34))
  rw[<-rM]
  have rV:Wa.heap[w4.heap.size]?=U (uc #[J Q ta,J Q tf,J Q tr] 34 (0,0)):=by rw[rM];exact yJ _ _
  have FA:O _:=S3.out.asked hl ((zR w3).drew) lY.out (rR.out.mono fun _ _ h=> .inl h) (fun x hx=> .inl hx) (Wa:=Wa) (Y:=fun j=>False) (by rw[rM];exact But.yhJ (zA (zR w4) _)) (fun j hj=>hj.elim)
  have Ho:w4.heap.size≠w.heap.size+1:=by have:=rR.out.size;simp at this;omega
  have TG:w4.heap.size<Wa.heap.size:=by rw[rM];simp
  generalize w4.heap.size=ab at*;obtain⟨⟨b0,b1,b2⟩,bf⟩:=yfX rV;clear rV;have rG:=FA.out.2.2;obtain⟨⟨z0,z1,z2,z3,z4,z5⟩,zf⟩:=zE FA.out.2.1;have FIN:O _:=FA.out.1;clear rM FA lY rR S3
  go_wp2
  refine ki (v:=yD #[J Q tc,z te,J Q ta,J Q tf,J Q tr,z Z]) ?_ rfl ⟨rfl,FIN.out _ ?_⟩
  ·simp[results,Tryz.results13,go_sem,z0,z1,z2,z3,z4,z5,rG]
  ·exact qH (But.refl (fun x=>x=w.heap.size+1) Wa) _ (.inr rfl) _ _ _ _ _ _
 ·obtain⟨Wa,rM⟩:=eY (((w4.setCell ⟨w3.heap.size,0,I⟩ (J Q ta)).setCell ⟨w3.heap.size,1,I⟩ (J Q tf)).setCell ⟨w3.heap.size,2,I⟩ (J Q tr))
  rw[<-rM]
  have rV:Wa.cell? ⟨w3.heap.size,0,I⟩=U (J Q ta)/\Wa.cell? ⟨w3.heap.size,1,I⟩=U (J Q tf)/\Wa.cell? ⟨w3.heap.size,2,I⟩=U (J Q tr):=by rw[rM];simp[go_sem,a0,a1,a2]
  have FA:O _:=S3.out.asked hl ((zA (zR w3) (uc #[J Q 0,J Q 0,J Q 0] 34)).drew) lY.out (rR.out.mono fun _ _ h=> .inl h) (fun x hx=> .inl hx) (Wa:=Wa) (Y:=fun j=>j=w3.heap.size) (by rw[rM];exact(((But.refl (fun j=>j=w3.heap.size) w4).setCell (a:=⟨w3.heap.size,0,I⟩) (.inr rfl) _).setCell (a:=⟨w3.heap.size,1,I⟩) (.inr rfl) _).setCell (a:=⟨w3.heap.size,2,I⟩) (.inr rfl) _) (fun j hj=>⟨by omega,by simp;omega⟩)
  have Ho:w3.heap.size≠w.heap.size+1:=by omega
  have TG:w3.heap.size<Wa.heap.size:=by rw[rM];simpa using pz
  obtain⟨b0,b1,b2⟩:=rV;clear a0 a1 a2 af;have rG:=FA.out.2.2;obtain⟨⟨z0,z1,z2,z3,z4,z5⟩,zf⟩:=zE FA.out.2.1;have FIN:O _:=FA.out.1;clear rM FA lY rR S3
  go_wp2
  refine ki (v:=yD #[J Q tc,z te,J Q ta,J Q tf,J Q tr,z Z]) ?_ rfl ⟨rfl,FIN.out _ ?_⟩
  ·simp[results,Tryz.results13,go_sem,z0,z1,z2,z3,z4,z5,rG]
  ·exact qH (But.refl (fun x=>x=w.heap.size+1) Wa) _ (.inr rfl) _ _ _ _ _ _
theorem Rsk.stepped {w w':uv} {b k:Nat} {D:Rsd} {X:Pg.Spc} {C':Pg.Cr} {S':Pg.Fs} {Y:Nat->Prop} (h:Rsk w b D X) (hk:k<X.C.length) (hC:ji w' (D.cb k) (D.cv k) C') (hm:zj w' D.bm D.g0 D.g1 D.vm S') (hb:But (fun j=>bkF (D.cb k) (D.cv k) j\/xg D.bm D.g0 D.g1 D.vm j\/Y j) w w') (hY:∀x,rsF D b X.C.length X.G x->¬Y x):Rsk w' b D {X with S:=S',C:=X.C.set k C'}:=by
 obtain⟨o0,o1,o2,o3,o4,o5⟩:=h.others hb
 have pq:∀i,i≠k+5->i≠1->∀x,D.own b X.C.length X.G i x->¬(bkF (D.cb k) (D.cv k) x\/xg D.bm D.g0 D.g1 D.vm x\/Y x):=fun i hi h1 x hx e=>by
  rcases e with e|e|e
  ·exact hi (h.part i (k+5) x hx ⟨hk,e⟩)
  ·exact h1 (h.part i 1 x hx e)
  ·exact hY x ⟨i,hx⟩ e
 obtain⟨e0,f0⟩:=o0 (pq 0 (by omega) (by omega));obtain⟨e3,f3⟩:=o3 (pq 3 (by omega) (by omega));have hl:(X.C.set k C').length=X.C.length:=un;refine⟨(e0 0).trans h.c0,(e0 1).trans h.c1,?_,(e0 3).trans h.c3,(e0 4).trans h.c4,(e0 5).trans h.c5,(e0 6).trans h.c6,(e0 7).trans h.c7,(e0 8).trans h.c8,?_,f0,hm,?_,?_,?_,f3,o4 (pq 4 (by omega) (by omega)),?_,?_,?_,?_,h.told,h.few⟩
 ·simp only[hl]
  exact(e0 2).trans h.c2
 ·simp only[hl]
  exact(e0 9).trans h.c9
 ·simp only[hl]
  exact o2 (pq 2 (by omega) (by omega))
 ·simp only[hl]
  intro j hj
  show ji w' (D.cb j) (D.cv j) ((X.C.set k C').getD j Pg.Cr.new)
  by_cases e:j=k
  ·subst e
   rw[show(X.C.set j C').getD j Pg.Cr.new=C' by simp[List.getD,hk]];exact hC
  ·rw[show(X.C.set k C').getD j Pg.Cr.new=X.C.getD j Pg.Cr.new by simp[List.getD,yF (fun h=>e h.symm)]]
   exact o5 j hj (pq _ (by omega) (by omega))
 ·simp only[hl]
  exact e3
 ·simp only[hl]
  exact h.part
 ·simp only[hl]
  exact h.len
 ·simp only[hl]
  exact h.pos
 ·simp only[hl]
  exact h.le
theorem lnz {w:uv} {r:Nat} {t:TypeId} (h:w.heap[r]?=U (uc #[J Q 0,J Q 0,J Q 0,J Q 0,z Z] t (0,0))):qs w r 0 ⟨⟨0,0,0,0⟩,Z⟩/\∀p,w.frozen? ⟨r,p,I⟩=Z:=by
 refine⟨⟨?_,?_,?_,?_,?_⟩,fun p=> ?_⟩
 all_goals simp[yM,yK,h]
structure Wlk (w W:uv) (b c lb ab:Nat) (D:Rsd) (X:Pg.Spc) (S':Pg.Fs) (C':Pg.Cr) (l:Pg.Ln) (ta tf tr:Int):Prop where
 rs:Rsk W b D {X with S:=S',C:=X.C.set c C'}
 but:But (rsF D b X.C.length X.G) w W
 ev:W.heap[w.heap.size+1]?=U (uc #[J Q 0,z Z,J Q 0,J Q 0,J Q 0,z Z] 36 (0,0))
 ln:qs W lb 0 l
 a0:W.cell? ⟨ab,0,I⟩=U (J Q ta)
 a1:W.cell? ⟨ab,1,I⟩=U (J Q tf)
 a2:W.cell? ⟨ab,2,I⟩=U (J Q tr)
 lbw:w.heap.size+1<lb
 abw:w.heap.size+1<ab
theorem Wlk.made {w W4 V w5 Wa:uv} {b c lb ab:Nat} {D:Rsd} {X:Pg.Spc} {x:Pg.Sx} {S':Pg.Fs} {K':Pg.Wk} {l:Pg.Ln} {ta tf tr:Int} {Y:Nat->Prop} (S:StW w W4 b D X x) (hl:c<X.C.length) (hV:Lw W4 V) (h1:w.heap.size+1<lb) (h2:lb<W4.heap.size) (pR:qN w5 (D.cb c) K') (ok:K'.Ok) (hm:zj w5 D.bm D.g0 D.g1 D.vm S') (Be:qs w5 lb 0 l) (oU:Ch8 (D.cb c) 1 (fun j=>j=D.cb c\/j=lb\/xg D.bm D.g0 D.g1 D.vm j) V w5) (rM:But Y w5 Wa) (hY:∀j,Y j->W4.heap.size<=j)
 (a0:Wa.cell? ⟨ab,0,I⟩=U (J Q ta)) (a1:Wa.cell? ⟨ab,1,I⟩=U (J Q tf)) (a2:Wa.cell? ⟨ab,2,I⟩=U (J Q tr)) (hab:w.heap.size+1<ab):Wlk w Wa b c lb ab D X S' ⟨(X.C.getD c Pg.Cr.new).L,K'⟩ l ta tf tr:=by
 have hs:=S.size;have Uz:=hV.size;have PV:=S.rs.grow hV;have uD:=oU.but.size
 have hC:ji w5 (D.cb c) (D.cv c) ⟨(X.C.getD c Pg.Cr.new).L,K'⟩:=(PV.core c hl).ykL pR ok oU (fun j hj e=>by
  have IJ:D.own b X.C.length X.G (c+5) j:=⟨hl,.inr hj⟩;rcases e with e|e|e
  ·exact(PV.core c hl).co.nb (e▸hj)
  ·have:=S.lt j ⟨_,IJ⟩
   omega
  ·exact absurd (PV.part _ 1 j IJ e) (by omega))
 have P5:=PV.stepped hl hC hm (Y:=fun j=>j=lb) (oU.but.mono (fun j _ e=>by
  rcases e with e|e|e
  ·exact .inl (.inl e)
  ·exact .inr (.inr e)
  ·exact .inr (.inl e))) (fun j hj e=>by have:=S.lt j hj;omega)
 have hn:(X.C.set c ⟨(X.C.getD c Pg.Cr.new).L,K'⟩).length=X.C.length:=un;refine⟨P5.keep rM (fun j hj hy=> ?_),((But.yhJ (zT S.bel hV)).trans oU.but (fun j hj e=> ?_)).trans rM (fun j hj e=>by have:=hY j e;omega),?_,Be.of (fun q=>rM.cell (a:=⟨lb,q,I⟩) (by show lb<_;omega) (fun e=>by have:=hY lb e;omega)),a0,a1,a2,h1,hab⟩
 ·simp only[hn]at hj
  have:=S.lt j hj;have:=hY j hy;omega
 ·rcases e with e|e|e
  ·exact⟨c+5,hl,.inl e⟩
  ·omega
  ·exact⟨1,e⟩
 ·refine(rM.block _ (by omega) (fun e=>by have:=hY _ e;omega)).trans ((oU.but.block _ (by omega) (fun e=> ?_)).trans ((hV.block _ hs).trans S.ev))
  rcases e with e|e|e
  ·have:=S.lt _ ⟨c+5,hl,.inl rfl⟩
   omega
  ·omega
  ·have:=S.lt _ ⟨1,e⟩
   omega
theorem rsDo_walk {b:Nat} {D:Rsd} {X:Pg.Spc} {c:Nat} (x:Pg.Sx) (hx:x.kind=5) (hc:x.core=(c:Int)) (hl:c<X.C.length) (w:uv) (h:Rsk w b D X):
 yR ud 13 #[kh (U ⟨b,0,I⟩),x.val] w fun e w'=>e=ur ((X.C.getD c Pg.Cr.new).stT X.S 0).ev.val/\zx w b D X {X with S:=(X.C.getD c Pg.Cr.new).stS X.S 0,C:=X.C.set c ((X.C.getD c Pg.Cr.new).stN X.S 0)} w':=by
 obtain⟨W,hW⟩:=eY (chW w x)
 have SW:O (StW w W b D X x):=by rw[hW];exact .begun h x
 have x0:=SW.out.x0;have x1:=SW.out.x1;have c2:=SW.out.rs.c2;clear h;obtain⟨kd,co,⟨p,s,f,r⟩,q,k,u⟩:=x;simp only at hx hc;subst hx hc;simp only[chW,Pg.Sx.val]at hW x0 x1 ⊢
 have i0:(0:Int)<=(c:Int):=by omega
 have i1:(c:Int)<(X.C.length:Int):=by omega
 have k6:decide ((c:Int)<0)=Z:=by simp
 have k7:decide ((X.C.length:Int)<=(c:Int))=Z:=by simp;omega
 generalize hK:(X.C.getD c Pg.Cr.new).K=K at*
 have iA:∀(w':uv) (lb:Nat),Rsk w' b D X->qs w' lb 0 ⟨⟨0,0,0,0⟩,Z⟩->(∀p,w'.frozen? ⟨lb,p,I⟩=Z)->¬xg D.bm D.g0 D.g1 D.vm lb->D.cb c≠lb->
  yR ud 57 #[kh (U ⟨D.cb c,0,I⟩),kh (U ⟨D.bm,0,I⟩),J Q 0,kh (U ⟨lb,0,I⟩)] w' fun e w''=>e=ur (.tuple #[yD #[J Q ((Pg.kOut X.S 0 K).res K).a,J Q ((Pg.kOut X.S 0 K).res K).f,J Q ((Pg.kOut X.S 0 K).res K).r],z ((Pg.kOut X.S 0 K).res K).ended,J Q (Pg.kOut X.S 0 K).cd])/\qN w'' (D.cb c) ((Pg.kOut X.S 0 K).next K)/\zj w'' D.bm D.g0 D.g1 D.vm ((Pg.kOut X.S 0 K).fs X.S K)/\qs w'' lb 0 ⟨((Pg.kOut X.S 0 K).res K).m,((Pg.kOut X.S 0 K).res K).d⟩/\Ch8 (D.cb c) 1 (fun j=>j=D.cb c\/j=lb\/xg D.bm D.g0 D.g1 D.vm j) w' w'':=fun w' lb h hL Pv uy rV=>by
  have pR:=(h.core c hl).ck;have d9:=(h.core c hl).ok;rw[hK]at pR d9;refine(yex (root:=0) d9 w' pR h.mem hL Pv (fun e=>absurd (h.part (c+5) 1 _ ⟨hl,.inl rfl⟩ e) (by omega)) uy rV).mono ?_;rintro e w'' ⟨h1,h2,h3,h4,h5⟩;exact⟨h1,h2,h3,h4,h5⟩
 have lK:O (∀(w':uv),Rsk w' b D X->((Pg.kOut X.S 0 K).next K).Ok):=fun w' h=>by
  have d9:=(h.core c hl).ok;rw[hK]at d9;exact Pg.ykW h.mem.ok d9 0
 have ib:O _:=Pg.ylq K (Pg.kOut X.S 0 K);simp only[Pg.Cr.stT,Pg.Cr.stN,Pg.Cr.stS,Pg.Wo.tl,Pg.Tl.ev,Pg.Ev.val,hK];generalize (Pg.kOut X.S 0 K).res K=R at*;generalize (Pg.kOut X.S 0 K).next K=K' at*;generalize (Pg.kOut X.S 0 K).fs X.S K=S' at*;generalize (Pg.kOut X.S 0 K).cd=cd at*;clear hK;obtain⟨en,ra,rf,rr,⟨mp,ms,mf,mr⟩,rd⟩:=R;simp only at iA ib ⊢
 go_enter Tryz.func13,Tryz.ntmps13
 go_upto_region 1 with fail
 rw[<-hW];clear hW
 go_wp2_with fail
 go_region
 go_upto_region 7 with fail
 have S5:O _:=SW.out.grow (zR W).drew;clear x0 x1 c2 SW;generalize W.drew=W5 at*;have g2:=A S5.out.rs.c2;have gc:=A (S5.out.rs.row c hl);have y1:=A S5.out.x1;simp only at y1;refine Loose.yhL 8 (by kernel_rfl) (by kernel_rfl) ?_;simp only[ua,yB,ue,yP]
 repeat (
  refine Loose.zS (fun k hk=> ?_)
  go_simp
  (refine hk _ ?_;clear hk k))
 refine Loose.yhM ?_;intro w3 He;have S3:O _:=S5.out.grow He;clear He g2 gc y1 S5;have x0:=S3.out.x0;simp only at x0;obtain⟨W4,rJ⟩:=eY (w3.alloc (uc #[J Q 0,J Q 0,J Q 0,J Q 0,z Z] 121))
 have Hl:Lw w3 W4:=by rw[rJ];exact zA (zR _) _
 have Be:W4.heap[w3.heap.size]?=U (uc #[J Q 0,J Q 0,J Q 0,J Q 0,z Z] 121 (0,0)):=by rw[rJ];exact yJ _ _
 have pz:w3.heap.size<W4.heap.size:=by rw[rJ];simp
 have dn:=S3.out.size;have S4:O _:=S3.out.grow Hl;have bB:D.cb c<w.heap.size:=S3.out.lt _ ⟨c+5,hl,.inl rfl⟩;have rV:b<w.heap.size:=S3.out.lt b ⟨0,rfl⟩
 have Nk:∀j,w.heap.size<=j->¬xg D.bm D.g0 D.g1 D.vm j:=fun j hj e=>by have:=S3.out.lt j ⟨1,e⟩;omega
 have Lp:O _:=fun(V:uv) (hV:Lw W4 V)=>iA V w3.heap.size (S4.out.rs.grow hV) (lnz ((hV.block _ pz).trans Be)).1 (lnz ((hV.block _ pz).trans Be)).2 (Nk _ (by omega)) (by omega);have c0:=S4.out.rs.c0;have c1:=S4.out.rs.c1
 have PD:b<W4.heap.size:=by omega
 have NF:∀j,w.heap.size<=j->¬j=w3.heap.size->¬(j=D.cb c\/j=w3.heap.size\/xg D.bm D.g0 D.g1 D.vm j):=fun j hj h1 e=>by
  rcases e with e|e|e
  ·omega
  ·exact h1 e
  ·exact Nk j hj e
 have NB:¬(b=D.cb c\/b=w3.heap.size\/xg D.bm D.g0 D.g1 D.vm b):=fun e=>by
  rcases e with e|e|e
  ·exact absurd (S4.out.rs.part 0 (c+5) b rfl ⟨hl,.inl e⟩) (by omega)
  ·omega
  ·exact absurd (S4.out.rs.part 0 1 b rfl e) (by omega)
 have N4:=NF W4.heap.size (by omega) (by omega)
 have m1:b≠W4.heap.size:=by omega
 have m2:W4.heap.size≠b:=by omega
 have Md:O _:=NB;have LH:O _:=N4;have Ef:O _:=NF;have Eg:O _:=Nk;clear Hl Be S3 iA NB N4 NF Nk
 go_upto_region 14 with fail
 rw[<-rJ];clear rJ x0
 go_region_held3 (fun w'=>w'.cell? ⟨b,0,I⟩=U (kh (U ⟨D.bm,0,I⟩))/\w'.cell? ⟨b,1,I⟩=U (J Q 0)) (go_keep) (
  (go_at_call 57;refine(Lp.out _ (by first|exact(zA (zR W4) _).drew|exact zA (zR W4) _|exact(zR W4).drew|exact zR W4)).mono ?_;rintro en' w5 ⟨he,pR,IU,Rw,oU⟩
   subst he;have sP:O _:=pR;have l6:O _:=IU;have CS:O (qs w5 w3.heap.size 0 ⟨⟨mp,ms,mf,mr⟩,rd⟩):=Rw;have Fh:O _:=oU;have u0:=ja oU.but (by first|exact(zA (zR W4) _).drew|exact zA (zR W4) _|exact(zR W4).drew|exact zR W4) PD Md.out c0;have u1:=ja oU.but (by first|exact(zA (zR W4) _).drew|exact zA (zR W4) _|exact(zR W4).drew|exact zR W4) PD Md.out c1;have ub:b<w5.heap.size:=kp _ _ u1
   have eF:b≠w5.heap.size:=by omega
   first
    | (have hA:Ch8 (D.cb c) 1 (fun j=>j=D.cb c\/j=w3.heap.size\/xg D.bm D.g0 D.g1 D.vm j) W4.drew w5:=oU;clear hA)
    | (have tN:w5.heap[W4.heap.size]?=U (uc #[J Q 0,J Q 0,J Q 0] 34 (0,0)):=(ybK oU.but LH.out).trans (yJ W4 (uc #[J Q 0,J Q 0,J Q 0] 34))
       have uD:W4.heap.size<w5.heap.size:=(yY.1 tN).1
       obtain⟨⟨a0,a1,a2⟩,af⟩:=yfX tN)
   clear pR IU Rw oU))
 focus
  obtain⟨Wa,rM⟩:=eY (w5.alloc (uc #[J Q ra,J Q rf,J Q rr] 34));rw[<-rM]
  have bT:Wa.heap[w5.heap.size]?=U (uc #[J Q ra,J Q rf,J Q rr] 34 (0,0)):=by rw[rM];exact yJ _ _
  obtain⟨⟨b0,b1,b2⟩,bf⟩:=yfX bT
  have uD:W4.heap.size<=w5.heap.size:=by have:=Fh.out.but.size;simpa using this
  have WK:O _:=Wlk.made S4.out hl ((zR W4).drew) dn pz sP.out (lK.out _ S4.out.rs) l6.out CS.out Fh.out (Wa:=Wa) (Y:=fun j=>False) (by rw[rM];exact But.yhJ (zA (zR w5) _)) (fun j hj=>hj.elim) b0 b1 b2 (by omega)
  have TG:w5.heap.size<Wa.heap.size:=by rw[rM];simp
  have gK:O (∀y,rsF D b X.C.length X.G y->y<w.heap.size):=S4.out.lt;generalize w5.heap.size=ab at*;clear bT rM u0 u1 ub eF bf b0 b1 b2;clear sP l6 CS Fh Lp lK Md LH Ef Eg S4 c0 c1
 rotate_left
 focus
  obtain⟨Wa,rM⟩:=eY (((w5.setCell ⟨W4.heap.size,0,I⟩ (J Q ra)).setCell ⟨W4.heap.size,1,I⟩ (J Q rf)).setCell ⟨W4.heap.size,2,I⟩ (J Q rr));rw[<-rM]
  have bT:Wa.cell? ⟨W4.heap.size,0,I⟩=U (J Q ra)/\Wa.cell? ⟨W4.heap.size,1,I⟩=U (J Q rf)/\Wa.cell? ⟨W4.heap.size,2,I⟩=U (J Q rr):=by rw[rM];simp[go_sem,a0,a1,a2]
  have WK:O _:=Wlk.made S4.out hl ((zA (zR W4) (uc #[J Q 0,J Q 0,J Q 0] 34)).drew) dn pz sP.out (lK.out _ S4.out.rs) l6.out CS.out Fh.out (Wa:=Wa) (Y:=fun j=>j=W4.heap.size) (by rw[rM];exact(((But.refl (fun j=>j=W4.heap.size) w5).setCell (a:=⟨W4.heap.size,0,I⟩) (.inr rfl) _).setCell (a:=⟨W4.heap.size,1,I⟩) (.inr rfl) _).setCell (a:=⟨W4.heap.size,2,I⟩) (.inr rfl) _) (fun j hj=>by omega) bT.1 bT.2.1 bT.2.2 (by omega)
  have TG:W4.heap.size<Wa.heap.size:=by rw[rM];simpa using uD
  have gK:O (∀y,rsF D b X.C.length X.G y->y<w.heap.size):=S4.out.lt;clear bT rM u0 u1 ub eF a0 a1 a2 af;generalize W4.heap.size=ab at*;clear sP l6 CS Fh Lp lK Md LH Ef Eg S4 c0 c1
 rotate_left
 all_goals
  have mo:=WK.out.abw;have b0:=WK.out.a0;have b1:=WK.out.a1;have b2:=WK.out.a2;have rG:w.heap.size+1<Wa.heap.size:=(yY.1 WK.out.ev).1;cases hp:(en&&ra==0)
  ·have Lg:O (Pg.rPut (X.C.getD c Pg.Cr.new).L ⟨en,ra,rf,rr,⟨mp,ms,mf,mr⟩,rd⟩=(X.C.getD c Pg.Cr.new).L):=by
    rw[O];unfold Pg.rPut;rw[iN (by simp only;rw[hp];decide)]
   obtain⟨⟨z0,z1,z2,z3,z4,z5⟩,zf⟩:=zE WK.out.ev
   have FIN:O (∀Wf,But (fun x=>x=w.heap.size+1) Wa Wf->zx w b D X {X with S:=S',C:=X.C.set c ⟨Pg.rPut (X.C.getD c Pg.Cr.new).L ⟨en,ra,rf,rr,⟨mp,ms,mf,mr⟩,rd⟩,K'⟩} Wf):=fun Wf hb=>by
    rw[Lg.out];refine⟨D,WK.out.rs.keep hb (fun x hx e=> ?_),id,WK.out.but.trans hb (fun x hx e=>by omega),fun x hx=> .inl ?_⟩
    ·simp only[un]at hx
     have:=gK.out x hx;omega
    ·simp only[un]at hx
     exact hx
   clear WK
   have hp:en=Z\/(en=yC/\(ra==0)=Z):=by revert hp;cases en<;>simp
   clear ib;rcases hp with rfl|⟨rfl,kJ⟩
   all_goals
    go_wp2
    refine ki (v:=yD #[J Q cd,z _,J Q ra,J Q rf,J Q rr,z Z]) ?_ rfl ⟨rfl,FIN.out _ ?_⟩
    ·simp[results,Tryz.results13,go_sem,z0,z1,z2,z3,z4,z5,rG]
    ·exact qH (But.refl (fun x=>x=w.heap.size+1) Wa) _ (.inr rfl) _ _ _ _ _ _
  ·obtain⟨rfl,h0⟩:en=yC/\ra=0:=by simpa using hp
   subst h0;have Lg:O (Pg.rPut (X.C.getD c Pg.Cr.new).L ⟨yC,0,rf,rr,⟨mp,ms,mf,mr⟩,rd⟩=Pg.kPut (X.C.getD c Pg.Cr.new).L ⟨⟨mp,ms,mf,mr⟩,rd⟩):=rfl;clear hp;have hn:(X.C.set c ⟨(X.C.getD c Pg.Cr.new).L,K'⟩).length=X.C.length:=un
   have ML:c<({X with S:=S',C:=X.C.set c ⟨(X.C.getD c Pg.Cr.new).L,K'⟩}:Pg.Spc).C.length:=by simp only[hn];exact hl
   have PK:ji Wa (D.cb c) (D.cv c) ⟨(X.C.getD c Pg.Cr.new).L,K'⟩:=by
    have:=WK.out.rs.core c ML;rw[show({X with S:=S',C:=X.C.set c ⟨(X.C.getD c Pg.Cr.new).L,K'⟩}:Pg.Spc).C.getD c Pg.Cr.new=⟨(X.C.getD c Pg.Cr.new).L,K'⟩ by simp[List.getD,hl]]at this;exact this
   have Fe:O _:=PK;have HP:=yez ⟨⟨mp,ms,mf,mr⟩,rd⟩ ib.out Wa PK.co;simp only[Pg.Ln.val]at HP;obtain⟨l0,l1,l2,l3,l4⟩:=WK.out.ln;simp only[Nat.zero_add]at l1 l2 l3 l4;clear PK
   go_wp2_with fail
   refine HP.mono ?_;rintro e w7 ⟨rfl,v7,Io,Rp,LZ⟩;have P7:=WK.out.rs.asked ML (Fe.out.yme Io Rp) Rp.but LZ;simp only[yE]at P7
   have NK:∀j,w.heap.size<=j->¬bkF (D.cb c) (D.cv c) j:=fun j hj e=>by have:=gK.out j ⟨c+5,hl,e⟩;omega
   have c0':=(Rp.but.cell (a:=⟨ab,0,I⟩) TG (NK _ (by show w.heap.size<=ab;omega))).trans b0;have c1':=(Rp.but.cell (a:=⟨ab,1,I⟩) TG (NK _ (by show w.heap.size<=ab;omega))).trans b1;have c2':=(Rp.but.cell (a:=⟨ab,2,I⟩) TG (NK _ (by show w.heap.size<=ab;omega))).trans b2;have E7:w7.heap[w.heap.size+1]?=_:=(Rp.but.block _ rG (NK _ (by omega))).trans WK.out.ev;have Sr:w.heap.size+1<w7.heap.size:=H rG Rp.but.size;obtain⟨⟨z0,z1,z2,z3,z4,z5⟩,zf⟩:=zE E7;have own:=qO (b:=b) (G:=X.G) hl LZ
   have FIN:O (∀Wf,But (fun x=>x=w.heap.size+1) w7 Wf->zx w b D X {X with S:=S',C:=X.C.set c ⟨Pg.rPut (X.C.getD c Pg.Cr.new).L ⟨yC,0,rf,rr,⟨mp,ms,mf,mr⟩,rd⟩,K'⟩} Wf):=fun Wf hb=>by
    rw[Lg.out];refine⟨_,P7.keep hb (fun x hx e=> ?_),id,(WK.out.but.trans Rp.but (fun x hx e=>⟨c+5,hl,e⟩)).trans hb (fun x hx e=>by omega),fun x hx=> ?_⟩
    ·simp only[un]at hx
     rcases own x hx with h|h
     ·have:=gK.out x h
      omega
     ·omega
    ·simp only[un]at hx
     exact(own x hx).imp id (fun h=>by omega)
   clear WK P7 Io Rp LZ HP Fe E7 NK own b0 b1 b2 l0 l1 l2 l3 l4
   go_wp2
   refine ki (v:=yD #[J Q cd,z yC,J Q 0,J Q rf,J Q rr,z Z]) ?_ rfl ⟨rfl,FIN.out _ ?_⟩
   ·simp[results,Tryz.results13,go_sem,z0,z1,z2,z3,z4,z5,Sr]
   ·exact qH (But.refl (fun x=>x=w.heap.size+1) w7) _ (.inr rfl) _ _ _ _ _ _
theorem yf0 {b:Nat} {D:Rsd} {X:Pg.Spc} (x:Pg.Sx) (w:uv) (h:Rsk w b D X) (hz:D.bz=X.busy):
 yR ud 13 #[kh (U ⟨b,0,I⟩),x.val] w fun e w'=>e=ur (X.goE x).val/\zx w b D X (X.goN x) w':=by
 have still:∀{v:yV},yR ud 13 #[kh (U ⟨b,0,I⟩),x.val] w (fun e w'=>e=ur v/\Lw w w')->yR ud 13 #[kh (U ⟨b,0,I⟩),x.val] w fun e w'=>e=ur v/\zx w b D X X w':=fun hc=>by
  refine hc.mono ?_;rintro e w' ⟨rfl,hb⟩;exact⟨rfl,.same h hb⟩
 unfold Pg.Spc.goE Pg.Spc.goN
 by_cases hk:1<=x.kind/\x.kind<=3
 ·rw[iP hk,iP hk]
  exact yc7 x (by omega) w h hz
 ·rw[iN hk,iN hk]
  by_cases tK:x.kind<1\/7<x.kind
  ·rw[iP tK,iP tK]
   exact still (yfb x tK w h)
  ·rw[iN tK,iN tK]
   by_cases hr:x.core<0\/(X.C.length:Int)<=x.core
   ·rw[iP hr,iP hr]
    exact still (yed x (by omega) hr w h)
   ·rw[iN hr,iN hr]
    obtain⟨c,hc⟩:=Int.eq_ofNat_of_zero_le (show 0<=x.core by omega)
    have hl:c<X.C.length:=by omega
    have ea:X.at' x.core=X.C.getD c Pg.Cr.new:=by unfold Pg.Spc.at';rw[hc,yI]
    have et:x.core.toNat=c:=by rw[hc,yI]
    rw[ea,et]
    by_cases h4:x.kind=4
    ·rw[iP h4,iP h4]
     exact yc6 x h4 hc hl w h
    ·rw[iN h4,iN h4]
     by_cases h5:x.kind=5
     ·rw[iP h5,iP h5]
      exact rsDo_walk x h5 hc hl w h
     ·rw[iN h5,iN h5]
      by_cases h6:x.kind=6
      ·rw[iP h6,iP h6,hc]
       exact yfZ x h6 hc hl w h
      ·rw[iN h6,iN h6]
       by_cases hL:(X.C.getD c Pg.Cr.new).L=[]
       ·rw[iP hL]
        have ev:(X.C.getD c Pg.Cr.new).yiy=X.C.getD c Pg.Cr.new:=by
         unfold Pg.Cr.yiy;rw[hL]
         show(⟨[],(X.C.getD c Pg.Cr.new).K⟩:Pg.Cr)=_
         rw[<-hL]
        rw[ev,Pg.yjv hl];exact still (yfc x (by omega) hc hl hL w h)
       ·rw[iN hL]
        exact yec x (by omega) hc hl (yO.2 hL) w h
theorem ybB {b:Nat} {X:Pg.Spc} {F:Nat->Prop} (x:Pg.Sx) (w:uv) (h:ybc w b X F):
 yR ud 13 #[kh (U ⟨b,0,I⟩),x.val] w fun e w'=>e=ur (X.goE x).val/\∃F',ybc w' b (X.goN x) F'/\But F w w'/\∀k,F' k->F k\/w.heap.size<=k:=by
 obtain⟨D,h,hz,rfl⟩:=h;refine(yf0 x w h hz).mono ?_;rintro e w' ⟨rfl,D',h1,h2,h3,h4⟩;exact⟨rfl,_,⟨D',h1,h2 hz,rfl⟩,h3,h4⟩
end
end Go.Proofs.YtdphiompijbelaaGreat
