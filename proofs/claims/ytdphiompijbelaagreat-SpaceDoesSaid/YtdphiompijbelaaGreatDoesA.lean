import Derived.Test.YtdphiompijbelaaGreatSpRefI
import Derived.Test.YtdphiompijbelaaGreatSpBeg
set_option linter.all false
set_option maxRecDepth 100000
open Go.RowKit renaming Hid->L
open List renaming length_set->M,getLast?_nil->z
open Go renaming heap_alloc_new->K,World->E,Value->s
open Go.Obj renaming cells->V
open Go.World renaming frozen?_of_block->T,cell?_of_block->Z,block_lt_of_cell?->O,frozen?->H,ownsRow_nil->y,cell?->v
open Bool renaming false->R
open Go.IntKind renaming i64->B,u64->A
open Go.Value renaming int->J,slice->P,bool->N,ownBlock->Q,pointer->U
open Option renaming none->I,some->Y
namespace Go.Proofs.YtdphiompijbelaaGreat
open Go.RowKit Go.Sort
theorem ydH:(Tryz.prog.info? 67).map (fun i=>(i.zero,i.size,i.bytes))=Y (Y (U I),1,8):=by kernel_rfl
structure Nsp (w wr:E) (b bm g0 g1 gw:Nat) (vm vC:s) (S:Pg.Fs) (co k:Nat) (cb:Nat->Nat):Prop where
 bel:Below w.heap.size w wr
 c0:wr.cell? ⟨b,0,I⟩=Y (U (Y ⟨bm,0,I⟩))
 c1:wr.cell? ⟨b,1,I⟩=Y (J B 0)
 c2:wr.cell? ⟨b,2,I⟩=Y vC
 c3:wr.cell? ⟨b,3,I⟩=Y (N R)
 c4:wr.cell? ⟨b,4,I⟩=Y (P I 0 0)
 c5:wr.cell? ⟨b,5,I⟩=Y (J B 0)
 c6:wr.cell? ⟨b,6,I⟩=Y (J B 0)
 c7:wr.cell? ⟨b,7,I⟩=Y (J B 0)
 c8:wr.cell? ⟨b,8,I⟩=Y (J B 0)
 c9:wr.cell? ⟨b,9,I⟩=Y (P (Y ⟨gw,0,I⟩) co co)
 fb:∀p,wr.frozen? ⟨b,p,I⟩=R
 mem:zg wr bm g0 g1 vm S
 vmN:vm.ownBlock=I
 lo:w.heap.size<=bm/\w.heap.size<=g0/\w.heap.size<=g1/\w.heap.size<=gw
 hi:bm<b/\g0<b/\g1<b/\gw<b
 gwm:gw≠bm/\gw≠g0/\gw≠g1
 wt:∀j,j<co->wr.cell? ⟨gw,j,I⟩=Y (N R)
 wf:∀p,wr.frozen? ⟨gw,p,I⟩=R
 own:wr.ownsRow (b+1) 67 1 vC k (yaX cb k)
 core:∀j,j<k->qS wr (cb j) (P I 0 0) Pg.Cr.new/\b<cb j/\vC.ownBlock≠Y (cb j)
 inj:∀i j,i<k->j<k->cb i=cb j->i=j
theorem Nsp.done {w wr:E} {b bm g0 g1 gw:Nat} {vm vC:s} {n co:Nat} {cb:Nat->Nat} (h:Nsp w wr b bm g0 g1 gw vm vC (Pg.Fs.new n).take co co cb) (h1:1<=co) (h4:co<=4):∃F,ybH wr b (Pg.Spc.new co n) F/\∀k,F k->w.heap.size<=k:=by
 obtain⟨gc,cc,rfl,hgc,hgl⟩:=h.own.form (by omega)
 have hbc:∀j x,bkF (cb j) (P I 0 0) x->x=cb j:=fun j x hx=>by
  rcases hx with hx|hx
  ·exact hx
  ·simp[Q]at hx
 have hmf:∀x,zN bm g0 g1 vm x->x<b/\w.heap.size<=x/\x≠gw:=fun x hx=>by
  have a1:=h.hi;have a2:=h.lo;have a3:=h.gwm;rcases hx with rfl|rfl|rfl|hx
  ·exact⟨a1.1,a2.1,fun e=>a3.1 e.symm⟩
  ·exact⟨a1.2.1,a2.2.1,fun e=>a3.2.1 e.symm⟩
  ·exact⟨a1.2.2.1,a2.2.2.1,fun e=>a3.2.2 e.symm⟩
  ·rw[h.vmN]at hx
   cases hx
 have hgb:=h.hi.2.2.2;have hcb:∀j,j<co->b<cb j/\cb j≠gc:=fun j hj=>⟨(h.core j hj).2.1,fun e=>(h.core j hj).2.2 (by simp[Q,e])⟩
 have hlow:w.heap.size<=b:=by have:=h.hi;have:=h.lo;omega
 obtain⟨D,hD⟩:∃D:Rsd,D=⟨bm,g0,g1,vm,gc,cc,cb,fun _=>P I 0 0,gw,I,0,R⟩:=⟨_,rfl⟩
 have hwhere:∀i x,D.own b co [] i x->(i=0/\x=b)\/(i=1/\x<b/\w.heap.size<=x/\x≠gw)\/(i=2/\x=gc)\/(i=3/\x=gw)\/(∃j,i=j+5/\j<co/\x=cb j):=fun i x hx=>by
  rw[hD]at hx
  match i with
  | 0=>exact .inl ⟨rfl,hx⟩
  | 1=>exact .inr (.inl ⟨rfl,hmf x hx⟩)
  | 2=>exact .inr (.inr (.inl ⟨rfl,hx⟩))
  | 3=>exact .inr (.inr (.inr (.inl ⟨rfl,hx⟩)))
  | 4=>exact absurd rfl hx.1
  | j+5=>exact .inr (.inr (.inr (.inr ⟨j,rfl,hx.1,hbc j x hx.2⟩)))
 have hC:(Pg.Spc.new co n).C.length=co:=by simp[Pg.Spc.new]
 have hG:(Pg.Spc.new co n).G=[]:=rfl;refine⟨_,⟨D,?_,by rw[hD];simp[Pg.Spc.busy,Pg.Spc.new],rfl⟩,fun x hx=> ?_⟩
 ·have getC:∀j,j<co->(Pg.Spc.new co n).C.getD j Pg.Cr.new=Pg.Cr.new:=fun j hj=>by simp[Pg.Spc.new,List.getD,hj]
  have getW:∀j,j<co->(Pg.Spc.new co n).W.getD j R=R:=fun j hj=>by simp[Pg.Spc.new,List.getD,hj]
  refine⟨?_,h.c1,?_,?_,?_,h.c5,h.c6,h.c7,h.c8,?_,h.fb,?_,fun j hj=> ?_,fun j hj=> ?_,fun j hj=> ?_,?_,fun j hj=> ?_,fun i j x hi hj=> ?_,by simp[Pg.Spc.new],by rw[hC];exact h1,by rw[hC];exact h4,?_,by simp[Pg.Spc.new]⟩
  ·rw[hD];exact h.c0
  ·rw[hD,hC];exact h.c2
  ·rw[hD];exact h.c3
  ·rw[hD];exact h.c4
  ·rw[hD,hC];exact h.c9
  ·rw[hD];exact h.mem
  ·rw[hC]at hj
   rw[hD]
   show wr.cell? ⟨gc,j,I⟩=_
   rw[h.own.cellAt j (by omega),ydV cb hj]
  ·rw[hC]at hj
   rw[hD,getC j hj];exact(h.core j hj).1
  ·rw[hC]at hj
   rw[hD,getW j hj];exact h.wt j hj
  ·rw[hD];exact h.wf
  ·rw[hG]at hj
   simp at hj
  ·rw[hC,hG]at hi hj
   rcases hwhere i x hi with ⟨ei,e1⟩|⟨ei,e1,e2,e3⟩|⟨ei,e1⟩|⟨ei,e1⟩|⟨p,ei,e1,e2⟩<;>rcases hwhere j x hj with ⟨ej,f1⟩|⟨ej,f1,f2,f3⟩|⟨ej,f1⟩|⟨ej,f1⟩|⟨q,ej,f1,f2⟩
   all_goals first
    | (subst ei ej;rfl)
    | (exfalso;omega)
    | (exfalso;have:=hcb p e1;omega)
    | (exfalso;have:=hcb q f1;omega)
    | (have:=h.inj p q e1 f1 (e2.symm.trans f2);omega)
  ·show Pg.fits 0
   unfold Pg.fits;omega
 ·rw[hC,hG]at hx
  obtain⟨i,hi⟩:=hx;rcases hwhere i x hi with ⟨ei,e1⟩|⟨ei,e1,e2,e3⟩|⟨ei,e1⟩|⟨ei,e1⟩|⟨p,ei,e1,e2⟩
  ·omega
  ·exact e2
  ·omega
  ·have:=h.lo;omega
  ·have:=hcb p e1;omega
theorem yfH {w:E} {r:Nat} {v0 v1 v2 v3 v4 v5 v6 v7 v8 v9:s} {t:TypeId} (h:w.heap[r]?=Y (V #[v0,v1,v2,v3,v4,v5,v6,v7,v8,v9] t (0,0))):
 (w.cell? ⟨r,0,I⟩=Y v0/\w.cell? ⟨r,1,I⟩=Y v1/\w.cell? ⟨r,2,I⟩=Y v2/\w.cell? ⟨r,3,I⟩=Y v3/\w.cell? ⟨r,4,I⟩=Y v4)/\(w.cell? ⟨r,5,I⟩=Y v5/\w.cell? ⟨r,6,I⟩=Y v6/\w.cell? ⟨r,7,I⟩=Y v7/\w.cell? ⟨r,8,I⟩=Y v8/\w.cell? ⟨r,9,I⟩=Y v9)/\∀i,w.frozen? ⟨r,i,I⟩=R:=
 ⟨by simp[v,h],by simp[v,h],fun i=>by simp[H,h]⟩
theorem yeB {w:E} {g co:Nat} {t:TypeId} (h:w.heap[g]?=Y (V (madeCells #[N R] co) t (0,0))):(∀j,j<co->w.cell? ⟨g,j,I⟩=Y (N R))/\∀p,w.frozen? ⟨g,p,I⟩=R:=by
 refine⟨fun j hj=> ?_,fun p=>by simp[H,h]⟩;simp[v,h,madeCells,hj,Nat.mod_one]
theorem Nsp.begun {w WB:E} {b bm g0 g1 gw co:Nat} {S:Pg.Fs} {t t':TypeId} (hb:Below w.heap.size w WB) (hs:WB.heap[b]?=Y (V #[U (Y ⟨bm,0,I⟩),J B 0,P I 0 0,N R,P I 0 0,J B 0,J B 0,J B 0,J B 0,P (Y ⟨gw,0,I⟩) co co] t (0,0))) (hw:WB.heap[gw]?=Y (V (madeCells #[N R] co) t' (0,0))) (hm:zg WB bm g0 g1 (P I 0 0) S) (lo:w.heap.size<=bm/\w.heap.size<=g0/\w.heap.size<=g1/\w.heap.size<=gw) (hi:bm<b/\g0<b/\g1<b/\gw<b) (gwm:gw≠bm/\gw≠g0/\gw≠g1):Nsp w WB b bm g0 g1 gw (P I 0 0) (P I 0 0) S co 0 (fun _=>0):=by
 obtain⟨⟨z0,z1,z2,z3,z4⟩,⟨z5,z6,z7,z8,z9⟩,zf⟩:=yfH hs;obtain⟨y0,y1⟩:=yeB hw;exact⟨hb,z0,z1,z2,z3,z4,z5,z6,z7,z8,z9,zf,hm,rfl,lo,hi,gwm,y0,y1,y _ _ _ _,fun j hj=>by omega,fun i j hi=>by omega⟩
theorem Nsp.root {w WB w2:E} {b bm g0 g1 gw co:Nat} {vm:s} {S S':Pg.Fs} (h:Nsp w WB b bm g0 g1 gw (P I 0 0) (P I 0 0) S co 0 (fun _=>0)) (hm:zg w2 bm g0 g1 vm S') (hv:vm.ownBlock=I) (hb:But (zN bm g0 g1 (P I 0 0)) WB w2):Nsp w (w2.setCell ⟨b,1,I⟩ (J B 0)) b bm g0 g1 gw vm (P I 0 0) S' co 0 (fun _=>0)/\(∀p,w2.cell? ⟨b,p,I⟩=WB.cell? ⟨b,p,I⟩)/\∀p,w2.frozen? ⟨b,p,I⟩=R:=by
 have hmf:∀x,zN bm g0 g1 (P I 0 0) x->x<b/\w.heap.size<=x/\x≠gw:=fun x hx=>by
  have a1:=h.hi;have a2:=h.lo;have a3:=h.gwm;rcases hx with rfl|rfl|rfl|hx
  ·exact⟨a1.1,a2.1,fun e=>a3.1 e.symm⟩
  ·exact⟨a1.2.1,a2.2.1,fun e=>a3.2.1 e.symm⟩
  ·exact⟨a1.2.2.1,a2.2.2.1,fun e=>a3.2.2 e.symm⟩
  ·simp[Q]at hx
 have hlb:b<WB.heap.size:=O _ _ h.c0;have kb:=hb.block b hlb (fun e=>by have:=hmf b e;omega)
 have hgl:gw<WB.heap.size:=by have:=h.hi;omega
 have kw:=hb.block gw hgl (fun e=>absurd rfl (hmf gw e).2.2);have e0:∀p,w2.cell? ⟨b,p,I⟩=WB.cell? ⟨b,p,I⟩:=fun p=>Z (a:=⟨b,p,I⟩) kb;have f0:∀p,w2.frozen? ⟨b,p,I⟩=R:=fun p=>(T (a:=⟨b,p,I⟩) kb).trans (h.fb p);have hbb:But (fun x=>x=b) w2 (w2.setCell ⟨b,1,I⟩ (J B 0)):=(But.refl (fun x=>x=b) w2).setCell (a:=⟨b,1,I⟩) (.inr rfl) _
 have hlow:w.heap.size<=b:=by have:=h.hi;have:=h.lo;omega
 have k0:=(e0 0).trans h.c0;have k1:=(e0 1).trans h.c1;have k2:=(e0 2).trans h.c2;have k3:=(e0 3).trans h.c3;have k4:=(e0 4).trans h.c4;have k5:=(e0 5).trans h.c5;have k6:=(e0 6).trans h.c6;have k7:=(e0 7).trans h.c7;have k8:=(e0 8).trans h.c8;have k9:=(e0 9).trans h.c9;refine⟨⟨?_,by simp[go_sem,k0],by simp[go_sem,k1],by simp[go_sem,k2],by simp[go_sem,k3],by simp[go_sem,k4],by simp[go_sem,k5],by simp[go_sem,k6],by simp[go_sem,k7],by simp[go_sem,k8],by simp[go_sem,k9],fun p=>by simp[go_sem,f0],hm.keep hbb (fun x hx e=> ?_),hv,h.lo,h.hi,h.gwm,fun j hj=> ?_,fun p=> ?_,y _ _ _ _,fun j hj=>by omega,fun i j hi=>by omega⟩,e0,f0⟩
 ·have hw2:Below w.heap.size w w2:=h.bel.trans (hb.below h.bel.size (fun x hx=>(hmf x hx).2.1))
  exact hw2.setCell (p:=⟨b,1,I⟩) hlow _
 ·have:zN bm g0 g1 (P I 0 0) x:=by
   rcases hx with hx|hx|hx|hx
   ·exact .inl hx
   ·exact .inr (.inl hx)
   ·exact .inr (.inr (.inl hx))
   ·rw[hv]at hx;cases hx
  have:=hmf x this;omega
 ·have hne:gw≠b:=by have:=h.hi;omega
  exact(hbb.cell (a:=⟨gw,j,I⟩) (show gw<_ by have:=hb.size;omega) hne).trans ((Z (a:=⟨gw,j,I⟩) kw).trans (h.wt j hj))
 ·have hne:gw≠b:=by have:=h.hi;omega
  exact(T (a:=⟨gw,p,I⟩) (hbb.block gw (by have:=hb.size;omega) hne)).trans ((T (a:=⟨gw,p,I⟩) kw).trans (h.wf p))
theorem yfD (w:E):qS (w.alloc (V #[P I 0 0,N R,J B 0,J B 0,N R,J B 0,J B 0,N R,J A 0] 66)) w.heap.size (P I 0 0) Pg.Cr.new:=by
 have hn:=K w (V #[P I 0 0,N R,J B 0,J B 0,N R,J B 0,J B 0,N R,J A 0] 66)
 have hco:jV (w.alloc (V #[P I 0 0,N R,J B 0,J B 0,N R,J B 0,J B 0,N R,J A 0] 66)) w.heap.size (P I 0 0) []:=
  ⟨cell_of_row _ _ 0 _ _ _ hn,fun o=>by unfold H;simp only[hn];simp,zk.nil _ _ _,fun e=>by simp[Q]at e,Pg.Kept.nil⟩
 refine⟨hco,⟨0,0,0,?_,?_,?_,?_,?_,?_,?_,?_,fun p=> ?_,fun h=>(by cases h),fun h=>absurd rfl h⟩,Pg.Wk.yhO⟩
 all_goals (simp[go_sem,Pg.Cr.new,Pg.Wk.off];done)
theorem Nsp.push {w wr w6:E} {b bm g0 g1 gw co k g cap:Nat} {vm vC:s} {S:Pg.Fs} {cb:Nat->Nat} (h:Nsp w wr b bm g0 g1 gw vm vC S co k cb) (G:yfA b vC (wr.alloc (V #[P I 0 0,N R,J B 0,J B 0,N R,J B 0,J B 0,N R,J A 0] 66)) w6 g) (hg:vC.ownBlock=Y g\/wr.heap.size+1<g)
 (ho:w6.ownsRow (b+1) 67 1 (P (Y ⟨g,0,I⟩) (k+1) cap) (k+1) (yaX cb k++[U (Y ⟨wr.heap.size,0,I⟩)])):
 Nsp w (w6.setCell ⟨b,2,I⟩ (P (Y ⟨g,0,I⟩) (k+1) cap)) b bm g0 g1 gw vm (P (Y ⟨g,0,I⟩) (k+1) cap) S co (k+1) (fun j=>if j=k then wr.heap.size else cb j):=by
 have hal:=zA (zR wr) (V #[P I 0 0,N R,J B 0,J B 0,N R,J B 0,J B 0,N R,J A 0] 66);have hlb:b<wr.heap.size:=O _ _ h.c0
 have hsz:(wr.alloc (V #[P I 0 0,N R,J B 0,J B 0,N R,J B 0,J B 0,N R,J A 0] 66)).heap.size=wr.heap.size+1:=by simp
 have hlow:w.heap.size<=b:=by have:=h.hi;have:=h.lo;omega
 have hb6:But (fun x=>vC.ownBlock=Y x) wr w6:=(But.ygr hal).trans G.but (fun _ _ h=>h);have hb7:But (fun x=>vC.ownBlock=Y x\/x=b) wr (w6.setCell ⟨b,2,I⟩ (P (Y ⟨g,0,I⟩) (k+1) cap)):=(hb6.mono (fun _ _ h=> .inl h)).setCell (a:=⟨b,2,I⟩) (.inr (.inr rfl)) _;have hfar:∀x,vC.ownBlock=Y x->b<x:=G.far;have kb:=hb6.block b hlb (fun e=>by have:=hfar b e;omega);have e0:∀p,w6.cell? ⟨b,p,I⟩=wr.cell? ⟨b,p,I⟩:=fun p=>Z (a:=⟨b,p,I⟩) kb;have f0:∀p,w6.frozen? ⟨b,p,I⟩=R:=fun p=>(T (a:=⟨b,p,I⟩) kb).trans (h.fb p);have k0:=(e0 0).trans h.c0;have k1:=(e0 1).trans h.c1;have k2:=(e0 2).trans h.c2;have k3:=(e0 3).trans h.c3;have k4:=(e0 4).trans h.c4;have k5:=(e0 5).trans h.c5;have k6:=(e0 6).trans h.c6;have k7:=(e0 7).trans h.c7;have k8:=(e0 8).trans h.c8;have k9:=(e0 9).trans h.c9;have low:∀x,x<b->¬(vC.ownBlock=Y x\/x=b):=fun x hx e=>e.elim (fun e=>by have:=hfar x e;omega) (fun e=>by omega);have hgw:=h.hi.2.2.2;have kw:=hb7.block gw (by omega) (low gw hgw);have hbb:But (fun x=>x=b) w6 (w6.setCell ⟨b,2,I⟩ (P (Y ⟨g,0,I⟩) (k+1) cap)):=(But.refl (fun x=>x=b) w6).setCell (a:=⟨b,2,I⟩) (.inr rfl) _;have hgb:b<g:=G.gc;have hwb:∀x,vC.ownBlock=Y x->x<wr.heap.size:=fun x hx=>(h.own.lt x hx).2;have hgn:g≠wr.heap.size:=fun e=>hg.elim (fun h'=>by have:=hwb g h';omega) (fun h'=>by omega);refine⟨?_,by simp[go_sem,k0],by simp[go_sem,k1],by simp[go_sem,k2],by simp[go_sem,k3],by simp[go_sem,k4],by simp[go_sem,k5],by simp[go_sem,k6],by simp[go_sem,k7],by simp[go_sem,k8],by simp[go_sem,k9],fun p=>by simp[go_sem,f0],h.mem.keep hb7 (fun x hx=>low x ?_),h.vmN,h.lo,h.hi,h.gwm,fun j hj=>(Z (a:=⟨gw,j,I⟩) kw).trans (h.wt j hj),fun p=>(T (a:=⟨gw,p,I⟩) kw).trans (h.wf p),?_,fun j hj=> ?_,fun i j hi hj e=> ?_⟩
 ·exact h.bel.trans (hb7.below h.bel.size (fun x hx=>hx.elim (fun e=>by have:=hfar x e;omega) (fun e=>by omega)))
 ·have a1:=h.hi
  rcases hx with hx|hx|hx|hx
  ·omega
  ·omega
  ·omega
  ·rw[h.vmN]at hx;cases hx
 ·have hp:yaX (fun j=>if j=k then wr.heap.size else cb j) (k+1)=yaX cb k++[U (Y ⟨wr.heap.size,0,I⟩)]:=by
   rw[ybt,if_pos rfl,ybu (cb':=cb) (fun j hj=>by rw[if_neg (by omega)])]
  rw[hp]
  exact za ho (fun x hx=>by
   have:x=g:=by simpa[Q]using hx.symm
   subst this
   exact hbb.block x G.gl (by omega))
 ·by_cases e:j=k
  ·subst e
   simp only[if_true];refine⟨?_,hlb,by simpa[Q]using hgn⟩;refine((yfD wr).keep G.but (fun x hx e=> ?_)).keep hbb (fun x hx e=> ?_)
   ·rcases hx with hx|hx
    ·have:=hwb x e
     omega
    ·simp[Q]at hx
   ·rcases hx with hx|hx
    ·omega
    ·simp[Q]at hx
  ·have hj':j<k:=by omega
   obtain⟨c1,c2,c3⟩:=h.core j hj';simp only[if_neg e];have hjl:=c1.lb;refine⟨c1.keep hb7 (fun x hx e=> ?_),c2,?_⟩
   ·rcases hx with hx|hx
    ·subst hx
     exact e.elim c3 (fun e=>by omega)
    ·simp[Q]at hx
   ·intro e'
    have:g=cb j:=by simpa[Q]using e'
    rcases hg with hg|hg
    ·exact c3 (this▸hg)
    ·omega
 ·by_cases ei:i=k
  ·by_cases ej:j=k
   ·omega
   ·have hj':j<k:=by omega
    have:=(h.core j hj').1.lb;simp only[ei,if_true,if_neg ej]at e;omega
  ·by_cases ej:j=k
   ·have hi':i<k:=by omega
    have:=(h.core i hi').1.lb;simp only[ej,if_true,if_neg ei]at e;omega
   ·simp only[if_neg ei,if_neg ej]at e
    exact h.inj i j (by omega) (by omega) e
set_option maxHeartbeats 2000000 in
theorem ybr (co n:Nat) (h1:1<=co) (h4:co<=4) (hn:1<=n) (hn':n<=128) (w:E):
 Calls Tryz.prog 11 #[J B (co:Int),J B (n:Int)] w fun e w'=>∃b F,e= .returned (U (Y ⟨b,0,I⟩))/\ybH w' b (Pg.Spc.new co n) F/\Below w.heap.size w w'/\∀k,F k->w.heap.size<=k:=by
 obtain⟨q1,hq1,hy0,hy1,hy2⟩:=info_parts ycw
 have m1:∀w:E,(Instr.makeSlice 50 (J B (co:Int)) (J B (co:Int))).run Tryz.prog w=_:=fun w=>
  run_make w 50 4 q1 _ Tryz.underlying50 hq1 hy0 B B co co (by omega) (Int.le_refl _) (by rw[hy2];omega) (by omega)
 rw[hy1]at m1;simp only[Int.toNat_natCast]at m1;have HM:=fun w'=>yc4 n hn' w';obtain⟨p0,hp0,hp1,hp2,hp3⟩:=info_parts ydH
 go_enter Tryz.func11,Tryz.ntmps11
 go_wp2_with fail
 go_region_held3 (fun _=>True) (trivial) (
  (go_at_call 50;refine(HM _).mono ?_;rintro en w1 ⟨bm,g0,g1,rfl,hm,hb1,n0,n1,n2⟩
   have HM1:L _:=hm;have HB1:L _:=hb1;have HN1:L _:=(⟨n0,n1,n2⟩:_/\_/\_)
   clear hm hb1 n0 n1 n2))
 all_goals
  have hsm:=fun x (hx:zN bm g0 g1 (P I 0 0) x)=>HM1.out.raw.lt hx;have s1:=hsm bm (.inl rfl);have s2:=hsm g0 (.inr (.inl rfl));have s3:=hsm g1 (.inr (.inr (.inl rfl)));have s0:=HB1.out.size;have s4:=HN1.out;simp at s0 s4
 ·have NB:L _:=Nsp.begun (w:=w) (WB:=(w1.alloc (V (madeCells #[N R] co) 4)).alloc (V #[U (Y ⟨bm,0,I⟩),J B 0,P I 0 0,N R,P I 0 0,J B 0,J B 0,J B 0,J B 0,P (Y ⟨w1.heap.size,0,I⟩) co co] 52)) (b:=w1.heap.size+1) (gw:=w1.heap.size) (g0:=g0) (g1:=g1) (zT (zT (zR w).drew HB1.out) (zA (zA (zR w1) _) _)) (by simpa using K (w1.alloc (V (madeCells #[N R] co) 4)) (V #[U (Y ⟨bm,0,I⟩),J B 0,P I 0 0,N R,P I 0 0,J B 0,J B 0,J B 0,J B 0,P (Y ⟨w1.heap.size,0,I⟩) co co] 52)) (((zA (zR _) _).block _ (by simp)).trans (K w1 (V (madeCells #[N R] co) 4))) (HM1.out.grow (zA (zA (zR w1) _) _)) (by omega) (by omega) (by omega)
  generalize (w1.alloc (V (madeCells #[N R] co) 4)).alloc (V #[U (Y ⟨bm,0,I⟩),J B 0,P I 0 0,N R,P I 0 0,J B 0,J B 0,J B 0,J B 0,P (Y ⟨w1.heap.size,0,I⟩) co co] 52)=WB at*;generalize w1.heap.size+1=b at*;generalize w1.heap.size=gw at*;clear HM1 HB1 HN1 hsm s0 s1 s2 s3 s4 m1 HM;have c0:=NB.out.c0;have HT:=jd WB NB.out.mem;rw[show(Pg.Fs.new n).takeN=0 by unfold Pg.Fs.takeN Pg.Fs.pick Pg.Fs.new;simp only[z];rw[if_pos (by omega)];rfl]at HT
  go_wp2_with fail
  refine HT.mono ?_;rintro e w2 ⟨rfl,v2,hm2,hb2,hv2⟩;obtain⟨N2,e2,f2⟩:=NB.out.root hm2 hv2 hb2;have N2:L _:=N2;have k1:=(e2 1).trans NB.out.c1;clear c0 HT hm2 hb2 hv2 e2 NB
  go_upto_region 3 with fail
  generalize w2.setCell ⟨b,1,I⟩ (J B 0)=W3 at*;clear k1 f2
  go_wp2_with fail
  go_loopw [6] (fun i wr=>∃k:Nat,k<=co/\i=J B k/\L (∃vC cb,Nsp w wr b bm g0 g1 gw v2 vC (Pg.Fs.new n).take co k cb)) (fun i _=>co-(intOf i).toNat)
  case atStart=>exact⟨0,by omega,rfl,⟨_,_,N2.out⟩⟩
  case round=>
   obtain⟨k,hk,rfl,HR⟩:=hrel;obtain⟨vC,cb,HN⟩:=HR.out;have HN:L _:=HN;clear HR N2
   have j0:(0:Int)<=(k:Int):=by omega
   by_cases hlt:k<co
   ·have j1:(k:Int)<(co:Int):=by omega
    have k2:=HN.out.c2;have kf:=HN.out.fb;have hlb:b<wr.heap.size:=O _ _ HN.out.c0
    have hnb:b≠wr.heap.size:=by omega
    have hown:=HN.out.own.alloc (V #[P I 0 0,N R,J B 0,J B 0,N R,J B 0,J B 0,N R,J A 0] 66)
    go_wp2_with (first
     | (at_builtin;refine wpList_append_lies _ rfl _ _ 49 rfl (b+1) 67 p0 (U I) 1 8 Tryz.underlying49 hp0 hp1 hp2 hp3 rfl (by decide) _ _ _ rfl (hown.alloc _) ⟨wr.heap.size+1,0,I⟩ 1 1 [U (Y ⟨wr.heap.size,0,I⟩)] rfl rfl ?c1 ?c2 (by decide) ?c3 ?c4 ?c5 (wr.heap.size+1+1) (by simp) ?_))
    case c1=>
     intro j u hj
     match j,hj with
     | 0,hj=>simp at hj;subst hj;simp[Addr.add,go_sem]
    case c2=>intro u hu;simp at hu;subst hu;rfl
    case c3=>unfold maxLen;omega
    case c4=>omega
    case c5=>simp;omega
    intro g cap w6 hown6 hgrow6 hat6 hlt6;have G6:=yfn hown hgrow6 (hat6.imp id (fun h=>by simp;omega)) (by simp;omega) hlt6;have N6:L _:=HN.out.push G6 (hat6.imp id (fun h=>by omega)) hown6;have kb:=G6.but.block b (by simp;omega) (fun e=>by have:=G6.far b e;omega);have k2':w6.cell? ⟨b,2,I⟩=Y vC:=(Z (a:=⟨b,2,I⟩) kb).trans (((zA (zR wr) (V #[P I 0 0,N R,J B 0,J B 0,N R,J B 0,J B 0,N R,J A 0] 66)).cell (p:=⟨b,2,I⟩) hlb).trans k2);have kf':∀q,w6.frozen? ⟨b,q,I⟩=R:=fun q=>(T (a:=⟨b,q,I⟩) kb).trans ((T (a:=⟨b,q,I⟩) ((zA (zR wr) (V #[P I 0 0,N R,J B 0,J B 0,N R,J B 0,J B 0,N R,J A 0] 66)).block b hlb)).trans (kf q));clear hown hown6 hgrow6 hat6 hlt6 G6 HN k2 kf kb
    go_wp2_with fail
    go_roundw
    case rel=>exact⟨k+1,by omega,by go_num,⟨_,_,N6.out⟩⟩
    case measure=>simp[intOf];omega
   ·have j1:¬(k:Int)<(co:Int):=by omega
    have ek:k=co:=by omega
    subst ek;have FIN:L _:=HN.out.done h1 h4;have HB:L _:=HN.out.bel;clear HN
    go_wp2_with fail
    go_ret
    obtain⟨F,hR,hF⟩:=FIN.out;exact⟨b,rfl,F,hR,HB.out,hF⟩
 ·have hal:=zA (zR w) (V (madeCells #[N R] co) 4)
  have NB:L _:=Nsp.begun (w:=w) (WB:=w1.alloc (V #[U (Y ⟨bm,0,I⟩),J B 0,P I 0 0,N R,P I 0 0,J B 0,J B 0,J B 0,J B 0,P (Y ⟨w.heap.size,0,I⟩) co co] 52)) (b:=w1.heap.size) (gw:=w.heap.size) (g0:=g0) (g1:=g1) (zT (zT hal.drew HB1.out) (zA (zR w1) _)) (K w1 (V #[U (Y ⟨bm,0,I⟩),J B 0,P I 0 0,N R,P I 0 0,J B 0,J B 0,J B 0,J B 0,P (Y ⟨w.heap.size,0,I⟩) co co] 52)) (((zA (zR w1) _).block _ (by omega)).trans ((HB1.out.block _ (by simp)).trans (K w (V (madeCells #[N R] co) 4)))) (HM1.out.grow (zA (zR w1) _)) (by omega) (by omega) (by omega);generalize w1.alloc (V #[U (Y ⟨bm,0,I⟩),J B 0,P I 0 0,N R,P I 0 0,J B 0,J B 0,J B 0,J B 0,P (Y ⟨w.heap.size,0,I⟩) co co] 52)=WB at*;clear hal;generalize w1.heap.size=b at*;obtain⟨gw,hgw⟩:∃gw,gw=w.heap.size:=⟨_,rfl⟩;rw[<-hgw]at NB ⊢;clear hgw;clear HM1 HB1 HN1 hsm s0 s1 s2 s3 s4 m1 HM;have c0:=NB.out.c0;have HT:=jd WB NB.out.mem;rw[show(Pg.Fs.new n).takeN=0 by unfold Pg.Fs.takeN Pg.Fs.pick Pg.Fs.new;simp only[z];rw[if_pos (by omega)];rfl]at HT
  go_wp2_with fail
  refine HT.mono ?_;rintro e w2 ⟨rfl,v2,hm2,hb2,hv2⟩;obtain⟨N2,e2,f2⟩:=NB.out.root hm2 hv2 hb2;have N2:L _:=N2;have k1:=(e2 1).trans NB.out.c1;clear c0 HT hm2 hb2 hv2 e2 NB
  go_upto_region 3 with fail
  generalize w2.setCell ⟨b,1,I⟩ (J B 0)=W3 at*;clear k1 f2
  go_wp2_with fail
  go_loopw [6] (fun i wr=>∃k:Nat,k<=co/\i=J B k/\L (∃vC cb,Nsp w wr b bm g0 g1 gw v2 vC (Pg.Fs.new n).take co k cb)) (fun i _=>co-(intOf i).toNat)
  case atStart=>exact⟨0,by omega,rfl,⟨_,_,N2.out⟩⟩
  case round=>
   obtain⟨k,hk,rfl,HR⟩:=hrel;obtain⟨vC,cb,HN⟩:=HR.out;have HN:L _:=HN;clear HR N2
   have j0:(0:Int)<=(k:Int):=by omega
   by_cases hlt:k<co
   ·have j1:(k:Int)<(co:Int):=by omega
    have k2:=HN.out.c2;have kf:=HN.out.fb;have hlb:b<wr.heap.size:=O _ _ HN.out.c0
    have hnb:b≠wr.heap.size:=by omega
    have hown:=HN.out.own.alloc (V #[P I 0 0,N R,J B 0,J B 0,N R,J B 0,J B 0,N R,J A 0] 66)
    go_wp2_with (first
     | (at_builtin;refine wpList_append_lies _ rfl _ _ 49 rfl (b+1) 67 p0 (U I) 1 8 Tryz.underlying49 hp0 hp1 hp2 hp3 rfl (by decide) _ _ _ rfl (hown.alloc _) ⟨wr.heap.size+1,0,I⟩ 1 1 [U (Y ⟨wr.heap.size,0,I⟩)] rfl rfl ?c1 ?c2 (by decide) ?c3 ?c4 ?c5 (wr.heap.size+1+1) (by simp) ?_))
    case c1=>
     intro j u hj
     match j,hj with
     | 0,hj=>simp at hj;subst hj;simp[Addr.add,go_sem]
    case c2=>intro u hu;simp at hu;subst hu;rfl
    case c3=>unfold maxLen;omega
    case c4=>omega
    case c5=>simp;omega
    intro g cap w6 hown6 hgrow6 hat6 hlt6;have G6:=yfn hown hgrow6 (hat6.imp id (fun h=>by simp;omega)) (by simp;omega) hlt6;have N6:L _:=HN.out.push G6 (hat6.imp id (fun h=>by omega)) hown6;have kb:=G6.but.block b (by simp;omega) (fun e=>by have:=G6.far b e;omega);have k2':w6.cell? ⟨b,2,I⟩=Y vC:=(Z (a:=⟨b,2,I⟩) kb).trans (((zA (zR wr) (V #[P I 0 0,N R,J B 0,J B 0,N R,J B 0,J B 0,N R,J A 0] 66)).cell (p:=⟨b,2,I⟩) hlb).trans k2);have kf':∀q,w6.frozen? ⟨b,q,I⟩=R:=fun q=>(T (a:=⟨b,q,I⟩) kb).trans ((T (a:=⟨b,q,I⟩) ((zA (zR wr) (V #[P I 0 0,N R,J B 0,J B 0,N R,J B 0,J B 0,N R,J A 0] 66)).block b hlb)).trans (kf q));clear hown hown6 hgrow6 hat6 hlt6 G6 HN k2 kf kb
    go_wp2_with fail
    go_roundw
    case rel=>exact⟨k+1,by omega,by go_num,⟨_,_,N6.out⟩⟩
    case measure=>simp[intOf];omega
   ·have j1:¬(k:Int)<(co:Int):=by omega
    have ek:k=co:=by omega
    subst ek;have FIN:L _:=HN.out.done h1 h4;have HB:L _:=HN.out.bel;clear HN
    go_wp2_with fail
    go_ret
    obtain⟨F,hR,hF⟩:=FIN.out;exact⟨b,rfl,F,hR,HB.out,hF⟩
theorem Pg.goN_len (X:Pg.Spc) (x:Pg.Sx):(X.goN x).C.length=X.C.length:=by
 unfold Pg.Spc.goN;split
 ·unfold Pg.Spc.chN Pg.Spc.post
  repeat' split
  all_goals rfl
 ·split
  ·rfl
  ·split
   ·rfl
   ·split
    ·exact M
    ·split
     ·exact M
     ·split
      ·unfold Pg.Spc.akN
       split
       ·rfl
       ·split<;>exact M
      ·exact M
structure Bth (W w:E) (bs br:Nat) (X:Pg.Spc) (F F':Nat->Prop):Prop where
 dv:jz w bs X F
 rf:ybH w br X F'
 bel:Below W.heap.size W w
 hi:∀x,F x->W.heap.size<=x
 hi':∀x,F' x->W.heap.size<=x
 ap:∀x,F x->¬F' x
section
variable {W w w':E} {bs br:Nat} {X X':Pg.Spc} {F F' G:Nat->Prop}
theorem Bth.grow (h:Bth W w bs br X F F') (hb:Below w.heap.size w w'):Bth W w' bs br X F F':=⟨h.dv.grow hb,h.rf.grow hb,zT h.bel hb,h.hi,h.hi',h.ap⟩
structure Bh (W w:E) (bs br:Nat) (X X':Pg.Spc) (F F':Nat->Prop):Prop where
 dv:jz w bs X' F
 rf:ybH w br X F'
 bel:Below W.heap.size W w
 hi:∀x,F x->W.heap.size<=x
 hi':∀x,F' x->W.heap.size<=x
 ap:∀x,F x->¬F' x
theorem Bth.stepD (h:Bth W w bs br X F F') (h':jz w' bs X' G) (hb:But F w w') (hG:∀k,G k->F k\/w.heap.size<=k):Bh W w' bs br X X' G F':=by
 refine⟨h',h.rf.keep hb (fun k hk hf=>h.ap k hf hk),h.bel.trans (hb.below h.bel.size h.hi),fun k hk=> ?_,h.hi',fun k hk hf=> ?_⟩
 ·rcases hG k hk with h1|h1
  ·exact h.hi k h1
  ·have:=h.bel.size;omega
 ·rcases hG k hk with h1|h1
  ·exact h.ap k h1 hf
  ·have:=h.rf.lt hf;omega
theorem Bh.stepR (h:Bh W w bs br X X' F F') (h':ybH w' br X' G) (hb:But F' w w') (hG:∀k,G k->F' k\/w.heap.size<=k):Bth W w' bs br X' F G:=by
 refine⟨h.dv.keep hb (fun k hk hf=>h.ap k hk hf),h',h.bel.trans (hb.below h.bel.size h.hi'),h.hi,fun k hk=> ?_,fun k hk hf=> ?_⟩
 ·rcases hG k hk with h1|h1
  ·exact h.hi' k h1
  ·have:=h.bel.size;omega
 ·rcases hG k hf with h1|h1
  ·exact h.ap k hk h1
  ·have:=h.dv.lt hk;omega
end
end Go.Proofs.YtdphiompijbelaaGreat
