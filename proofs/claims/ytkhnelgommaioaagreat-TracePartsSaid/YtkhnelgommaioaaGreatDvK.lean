import Derived.Test.YtkhnelgommaioaaGreatHeap
import Derived.Test.YtkhnelgommaioaaGreatDvI
import Derived.Test.YtkhnelgommaioaaGreatWalkE
import Derived.Deep.AppendLies
import Derived.Deep.RegionLaw
namespace Go.Proofs.YtkhnelgommaioaaGreat
open Go.RowKit Go.Sort
def ptrs (cb:Nat->Nat) (k:Nat):List Value:=(List.range k).map fun j=> .pointer (some ⟨cb j,0,none⟩)
theorem ptrs_at (cb:Nat->Nat) {k j:Nat} (h:j<k):(ptrs cb k)[j]?=some (.pointer (some ⟨cb j,0,none⟩)):=by simp[ptrs,h]
theorem ptrs_push (cb:Nat->Nat) (k:Nat):ptrs cb (k+1)=ptrs cb k++[.pointer (some ⟨cb k,0,none⟩)]:=by simp[ptrs,List.range_succ]
theorem ptrs_same {cb cb':Nat->Nat} {k:Nat} (h:∀j,j<k->cb j=cb' j):ptrs cb k=ptrs cb' k:=by
 unfold ptrs
 refine List.map_congr_left fun j hj=> ?_
 rw[h j (by simpa using hj)]
set_option linter.unusedVariables false
set_option linter.unusedSimpArgs false
set_option maxRecDepth 100000
theorem infoCoreQ:(Tryz.prog.info? 116).map (fun i=>(i.zero,i.size,i.bytes))=some (some (.pointer none),1,8):=by kernel_rfl
structure NewD (w wr:World) (b bm bs:Nat) (FM:Nat->Prop) (vC:Value) (S:Pg.Fs) (k:Nat) (cb:Nat->Nat) (cF:Nat->Nat->Prop):Prop where
 bel:Below w.heap.size w wr
 c0:wr.cell? ⟨b,0,none⟩=some (.pointer (some ⟨bm,0,none⟩))
 c1:wr.cell? ⟨b,1,none⟩=some (.int .i64 0)
 c2:wr.cell? ⟨b,2,none⟩=some vC
 c3:wr.cell? ⟨b,3,none⟩=some (.pointer (some ⟨bs,0,none⟩))
 c4:wr.cell? ⟨b,4,none⟩=some (.slice none 0 0)
 fb:∀p,wr.frozen? ⟨b,p,none⟩=false
 mem:FrAt wr bm S FM
 tl:ShAt wr bs .zz (fun _=>false)
 mlo:∀x,FM x->w.heap.size<x/\x<b/\x≠bs
 blo:w.heap.size<bs/\bs<b
 own:wr.ownsRow (b+1) 116 1 vC k (ptrs cb k)
 core:∀j,j<k->CrAt wr (cb j) 0 Pg.Cr.new (cF j)
 far:∀j x,j<k->cF j x->b<x/\vC.ownBlock≠some x
 inj:∀i j x,i<k->j<k->cF i x->cF j x->i=j
 rz:wr.heap[w.heap.size]?=some (.cells #[.int .i64 0,.int .i64 0] 27 (0,0))
section
variable {w wr w2 w6:World} {b bm bs g cap k:Nat} {FM:Nat->Prop} {vC:Value} {S:Pg.Fs} {cb:Nat->Nat} {cF:Nat->Nat->Prop}
theorem NewD.lb (h:NewD w wr b bm bs FM vC S k cb cF):b<wr.heap.size:=World.block_lt_of_cell? _ _ h.c0
theorem NewD.done {n co:Nat} (h:NewD w wr b bm bs FM vC (Pg.Fs.new n).take co cb cF) (h1:1<=co) (h4:co<=4):∃F,DvAt wr b (Pg.Spc.new co n) F/\∀k,F k->w.heap.size<k:=by
 obtain⟨gc,cc,rfl,hgc,hgl⟩:=h.own.form (by omega)
 have hbl:=h.blo
 obtain⟨D,hD⟩:∃D:Dsd,D=⟨bm,FM,gc,cc,cb,cF,bs,none,0⟩:=⟨_,rfl⟩
 have hwhere:∀i x,D.own b co [] i x->(i=0/\x=b)\/(i=1/\w.heap.size<x/\x<b/\x≠bs)\/(i=2/\x=gc)\/(i=3/\x=bs)\/(∃j,i=j+5/\j<co/\cF j x/\b<x/\x≠gc):=fun i x hx=>by
  rw[hD]at hx
  match i with
  | 0=>exact .inl ⟨rfl,hx⟩
  | 1=>exact .inr (.inl ⟨rfl,h.mlo x hx⟩)
  | 2=>exact .inr (.inr (.inl ⟨rfl,hx⟩))
  | 3=>exact .inr (.inr (.inr (.inl ⟨rfl,hx⟩)))
  | 4=>exact absurd rfl hx.1
  | j+5=>
    have hf:=h.far j x hx.1 hx.2
    exact .inr (.inr (.inr (.inr ⟨j,rfl,hx.1,hx.2,hf.1,fun e=>hf.2 (by simp[Value.ownBlock,e])⟩)))
 have hC:(Pg.Spc.new co n).C.length=co:=by simp[Pg.Spc.new]
 have hG:(Pg.Spc.new co n).G=[]:=rfl
 refine⟨_,⟨D,?_,rfl⟩,fun x hx=> ?_⟩
 ·have getC:∀j,j<co->(Pg.Spc.new co n).C.getD j Pg.Cr.new=Pg.Cr.new:=fun j hj=>by simp[Pg.Spc.new,List.getD,hj]
  have getW:(fun j=>(Pg.Spc.new co n).W.getD j false)=fun _=>false:=by
   funext j
   by_cases hj:j<co<;>simp[Pg.Spc.new,List.getD,hj]
  refine⟨?_,h.c1,?_,?_,?_,h.fb,?_,fun j hj=> ?_,fun j hj=> ?_,?_,fun j hj=> ?_,fun i j x hi hj=> ?_,by simp[Pg.Spc.new],by rw[hC];exact h1,by rw[hC];exact h4,?_,by simp[Pg.Spc.new]⟩
  ·rw[hD];exact h.c0
  ·rw[hD,hC];exact h.c2
  ·rw[hD];exact h.c3
  ·rw[hD];exact h.c4
  ·rw[hD];exact h.mem
  ·rw[hC]at hj
   rw[hD]
   show wr.cell? ⟨gc,j,none⟩=_
   rw[h.own.cellAt j (by omega),ptrs_at cb hj]
  ·rw[hC]at hj
   rw[hD,getC j hj]
   exact h.core j hj
  ·rw[hD,getW]
   exact h.tl
  ·rw[hG]at hj
   simp at hj
  ·rw[hC,hG]at hi hj
   rcases hwhere i x hi with ⟨ei,e1⟩|⟨ei,e1,e2,e3⟩|⟨ei,e1⟩|⟨ei,e1⟩|⟨p,ei,e1,e2,e3,e4⟩<;>rcases hwhere j x hj with ⟨ej,f1⟩|⟨ej,f1,f2,f3⟩|⟨ej,f1⟩|⟨ej,f1⟩|⟨q,ej,f1,f2,f3,f4⟩
   all_goals first
    | (subst ei ej;rfl)
    | (exfalso;omega)
    | (have:=h.inj p q x e1 f1 e2 f2;omega)
  ·show Pg.fits 0
   unfold Pg.fits
   omega
 ·rw[hC,hG]at hx
  obtain⟨i,hi⟩:=hx
  rcases hwhere i x hi with ⟨ei,e1⟩|⟨ei,e1,e2,e3⟩|⟨ei,e1⟩|⟨ei,e1⟩|⟨p,ei,e1,e2,e3,e4⟩<;>omega
theorem NewD.push {cn:Nat} {Fc:Nat->Prop} (h:NewD w wr b bm bs FM vC S k cb cF) (hc:CrAt w2 cn 0 Pg.Cr.new Fc) (hb:Below wr.heap.size wr w2) (hF:∀x,Fc x->wr.heap.size<=x) (G:Grew b vC w2 w6 g) (hg:vC.ownBlock=some g\/w2.heap.size<=g)
 (ho:w6.ownsRow (b+1) 116 1 (.slice (some ⟨g,0,none⟩) (k+1) cap) (k+1) (ptrs cb k++[.pointer (some ⟨cn,0,none⟩)])):
 NewD w (w6.setCell ⟨b,2,none⟩ (.slice (some ⟨g,0,none⟩) (k+1) cap)) b bm bs FM (.slice (some ⟨g,0,none⟩) (k+1) cap) S (k+1) (fun j=>if j=k then cn else cb j) (fun j=>if j=k then Fc else cF j):=by
 have hlb:=h.lb
 have hlow:w.heap.size<b:=by have:=h.blo;omega
 have hb6:But (fun x=>vC.ownBlock=some x) wr w6:=(But.of_below hb).trans G.but (fun _ _ h=>h)
 have hb7:But (fun x=>vC.ownBlock=some x\/x=b) wr (w6.setCell ⟨b,2,none⟩ (.slice (some ⟨g,0,none⟩) (k+1) cap)):=(hb6.mono (fun _ _ h=> .inl h)).setCell (a:=⟨b,2,none⟩) (.inr (.inr rfl)) _
 have hb72:But (fun x=>vC.ownBlock=some x\/x=b) w2 (w6.setCell ⟨b,2,none⟩ (.slice (some ⟨g,0,none⟩) (k+1) cap)):=(G.but.mono (fun _ _ h=> .inl h)).setCell (a:=⟨b,2,none⟩) (.inr (.inr rfl)) _
 have hfar:∀x,vC.ownBlock=some x->b<x:=G.far
 have kb:=hb6.block b hlb (fun e=>by have:=hfar b e;omega)
 have e0:∀p,w6.cell? ⟨b,p,none⟩=wr.cell? ⟨b,p,none⟩:=fun p=>World.cell?_of_block (a:=⟨b,p,none⟩) kb
 have f0:∀p,w6.frozen? ⟨b,p,none⟩=false:=fun p=>(World.frozen?_of_block (a:=⟨b,p,none⟩) kb).trans (h.fb p)
 have k0:=(e0 0).trans h.c0
 have k1:=(e0 1).trans h.c1
 have k2:=(e0 2).trans h.c2
 have k3:=(e0 3).trans h.c3
 have k4:=(e0 4).trans h.c4
 have low:∀x,x<b->¬(vC.ownBlock=some x\/x=b):=fun x hx e=>e.elim (fun e=>by have:=hfar x e;omega) (fun e=>by omega)
 have hbb:But (fun x=>x=b) w6 (w6.setCell ⟨b,2,none⟩ (.slice (some ⟨g,0,none⟩) (k+1) cap)):=(But.refl (fun x=>x=b) w6).setCell (a:=⟨b,2,none⟩) (.inr rfl) _
 have hgb:b<g:=G.gc
 have hwb:∀x,vC.ownBlock=some x->x<wr.heap.size:=fun x hx=>(h.own.lt x hx).2
 have hs2:=hb.size
 have new:∀x,Fc x->b<x/\vC.ownBlock≠some x/\x≠g:=fun x hx=>by
  have a1:=hF x hx
  have a2:=hc.lt hx
  refine⟨by omega,fun e=>by have:=hwb x e;omega,fun e=> ?_⟩
  rcases hg with h'|h'
  ·have:=hwb g h'
   omega
  ·omega
 have old:∀j x,j<k->cF j x->b<x/\vC.ownBlock≠some x/\x≠g/\x<wr.heap.size:=fun j x hj hx=>by
  have a1:=h.far j x hj hx
  have a2:=(h.core j hj).lt hx
  refine⟨a1.1,a1.2,fun e=> ?_,a2⟩
  rcases hg with h'|h'
  ·exact a1.2 (e▸h')
  ·omega
 refine⟨?_,by simp[go_sem,k0],by simp[go_sem,k1],by simp[go_sem,k2],by simp[go_sem,k3],by simp[go_sem,k4],fun p=>by simp[go_sem,f0],h.mem.keep hb7 (fun x hx=>low x (h.mlo x hx).2.1),h.tl.keep hb7 (low bs h.blo.2),h.mlo,h.blo,?_,fun j hj=> ?_,fun j x hj hx=> ?_,fun i j x hi hj hxi hxj=> ?_,(hb7.block _ (by have:=h.bel.size;omega) (low _ hlow)).trans h.rz⟩
 ·exact h.bel.trans (hb7.below h.bel.size (fun x hx=>hx.elim (fun e=>by have:=hfar x e;omega) (fun e=>by omega)))
 ·have hp:ptrs (fun j=>if j=k then cn else cb j) (k+1)=ptrs cb k++[.pointer (some ⟨cn,0,none⟩)]:=by
   rw[ptrs_push,if_pos rfl,ptrs_same (cb':=cb) (fun j hj=>by rw[if_neg (by omega)])]
  rw[hp]
  exact owns_of_block ho (fun x hx=>by
   have:x=g:=by simpa[Value.ownBlock]using hx.symm
   subst this
   exact hbb.block x G.gl (by omega))
 ·by_cases e:j=k
  ·subst e
   simp only[if_true]
   exact hc.keep hb72 (fun x hx e=>e.elim (fun e=>(new x hx).2.1 e) (fun e=>by have:=(new x hx).1;omega))
  ·simp only[if_neg e]
   exact(h.core j (by omega)).keep hb7 (fun x hx e'=>e'.elim (fun e'=>(old j x (by omega) hx).2.1 e') (fun e'=>by have:=(old j x (by omega) hx).1;omega))
 ·have gx:x≠g->(Value.slice (some ⟨g,0,none⟩) (k+1) cap).ownBlock≠some x:=fun hne e=>hne (by simpa[Value.ownBlock]using e.symm)
  by_cases e:j=k
  ·subst e
   simp only[if_true]at hx
   exact⟨(new x hx).1,gx (new x hx).2.2⟩
  ·simp only[if_neg e]at hx
   have:=old j x (by omega) hx
   exact⟨this.1,gx this.2.2.1⟩
 ·by_cases ei:i=k
  ·by_cases ej:j=k
   ·omega
   ·subst ei
    simp only[if_true]at hxi
    simp only[if_neg ej]at hxj
    have a1:=hF x hxi
    have a2:=old j x (by omega) hxj
    omega
  ·by_cases ej:j=k
   ·subst ej
    simp only[if_true]at hxj
    simp only[if_neg ei]at hxi
    have a1:=hF x hxj
    have a2:=old i x (by omega) hxi
    omega
   ·simp only[if_neg ei]at hxi
    simp only[if_neg ej]at hxj
    exact h.inj i j x (by omega) (by omega) hxi hxj
end
theorem row2a {w:World} {r:Nat} {v0 v1:Value} {t:TypeId} (h:w.heap[r]?=some (.cells #[v0,v1] t (0,0))):
 (w.cell? ⟨r,0,none⟩=some v0/\w.cell? ⟨r,1,none⟩=some v1)/\∀i,w.frozen? ⟨r,i,none⟩=false:=
 ⟨by simp[World.cell?,h],fun i=>by simp[World.frozen?,h]⟩
set_option maxHeartbeats 1000000 in
theorem dvNew_bad (co n:Int) (w:World) (hb:co<1\/4<co\/n<1\/128<n):
 Calls Tryz.prog 10 #[.int .i64 co,.int .i64 n] w fun e w'=>e= .returned (.tuple #[.pointer none,.agg #[.int .i64 1,.int .i64 (-1)]])/\Below w.heap.size w w':=by
 obtain⟨W,hW⟩:∃W,W=w.alloc (.cells #[.int .i64 0,.int .i64 0] 27):=⟨_,rfl⟩
 have hB:Below w.heap.size w W:=by rw[hW];exact zA (zR _) _
 have RZ:Hid (W.heap[w.heap.size]?=some (.cells #[.int .i64 0,.int .i64 0] 27 (0,0))):=by rw[Hid,hW];exact heap_alloc_new _ _
 have hWs:w.heap.size<W.heap.size:=by rw[hW];simp
 have HB:Hid _:=hB
 clear hB
 have hcase:(decide (co<1)=true)\/(decide (co<1)=false/\decide (4<co)=true)\/(decide (co<1)=false/\decide (4<co)=false/\decide (n<1)=true)\/(decide (co<1)=false/\decide (4<co)=false/\decide (n<1)=false/\128<n):=by
  simp only[decide_eq_true_eq,decide_eq_false_iff_not]
  omega
 clear hb
 rcases hcase with h1|⟨h1,h2⟩|⟨h1,h2,h3⟩|⟨h1,h2,h3,h4⟩
 iterate 3
  ·obtain⟨⟨z0,z1⟩,zf⟩:=row2a RZ.out
   go_enter Tryz.func10,Tryz.ntmps10
   go_upto_region 1 with fail
   rw[<-hW]
   clear hW
   go_wp2_with fail
   refine bodyPost_ret (v:= .tuple #[.pointer none,.agg #[.int .i64 1,.int .i64 (-1)]]) ?_ rfl ⟨rfl,?_⟩
   ·simp[results,Tryz.results10,go_sem,z0,z1,hWs]
   ·exact(HB.out.setCell (p:=⟨w.heap.size,0,none⟩) (Nat.le_refl _) _).setCell (p:=⟨w.heap.size,1,none⟩) (Nat.le_refl _) _
 ·have HN:=frNew_bad n (by omega) W
  go_enter Tryz.func10,Tryz.ntmps10
  go_upto_region 1 with fail
  rw[<-hW]
  clear hW
  go_wp2_with fail
  refine HN.mono ?_
  rintro e w1 ⟨rfl,hb1⟩
  obtain⟨W2,hW2⟩:∃W2,W2=w1.alloc (.cells #[.int .i64 1,.int .i64 (-1)] 27):=⟨_,rfl⟩
  have hb2:Below w1.heap.size w1 W2:=by rw[hW2];exact zA (zR _) _
  have hs1:w.heap.size<w1.heap.size:=Nat.lt_of_lt_of_le hWs hb1.size
  obtain⟨⟨z0,z1⟩,zf⟩:=row2a ((hb2.block _ hs1).trans ((hb1.block _ hWs).trans RZ.out))
  obtain⟨⟨y0,y1⟩,yf⟩:=row2a (show W2.heap[w1.heap.size]?=some (.cells #[.int .i64 1,.int .i64 (-1)] 27 (0,0)) by rw[hW2];exact heap_alloc_new _ _)
  have hs2:w.heap.size<W2.heap.size:=Nat.lt_of_lt_of_le hs1 hb2.size
  have HB2:Hid (Below w.heap.size w W2):=zT (zT HB.out hb1) hb2
  have hne:w1.heap.size≠w.heap.size:=by omega
  have hne':w.heap.size≠w1.heap.size:=by omega
  clear hb1 hb2 HN
  go_upto_region 4 with fail
  rw[<-hW2]
  clear hW2
  go_upto_region 5 with fail
  go_region
  all_goals
   go_wp2_with fail
   refine bodyPost_ret (v:= .tuple #[.pointer none,.agg #[.int .i64 1,.int .i64 (-1)]]) ?_ rfl ⟨rfl,?_⟩
   ·simp[results,Tryz.results10,go_sem,z0,z1,hs2]
   ·exact((HB2.out.setCell (p:=⟨w.heap.size,0,none⟩) (Nat.le_refl _) _).setCell (p:=⟨w.heap.size,1,none⟩) (Nat.le_refl _) _).drew
set_option maxHeartbeats 2000000 in
theorem dvNew_any (co n:Nat) (w:World) (h1:1<=co) (h4:co<=4) (hn:1<=n) (hn':n<=128):
 Calls Tryz.prog 10 #[.int .i64 (co:Int),.int .i64 (n:Int)] w fun e w'=>∃b F,e= .returned (.tuple #[.pointer (some ⟨b,0,none⟩),.agg #[.int .i64 0,.int .i64 0]])/\DvAt w' b (Pg.Spc.new co n) F/\Below w.heap.size w w'/\∀k,F k->w.heap.size<=k:=by
 obtain⟨W,hW⟩:∃W,W=w.alloc (.cells #[.int .i64 0,.int .i64 0] 27):=⟨_,rfl⟩
 have hB:Below w.heap.size w W:=by rw[hW];exact zA (zR _) _
 have RZ:Hid (W.heap[w.heap.size]?=some (.cells #[.int .i64 0,.int .i64 0] 27 (0,0))):=by rw[Hid,hW];exact heap_alloc_new _ _
 have hWs:W.heap.size=w.heap.size+1:=by rw[hW];simp
 have HB:Hid _:=hB
 have d1:decide ((co:Int)<1)=false:=by simp;omega
 have d2:decide ((4:Int)<(co:Int))=false:=by simp;omega
 have d3:decide ((n:Int)<1)=false:=by simp;omega
 have HN:=frNew_any n hn' W
 obtain⟨p0,hp0,hp1,hp2,hp3⟩:=info_parts infoCoreQ
 clear hB
 go_enter Tryz.func10,Tryz.ntmps10
 go_upto_region 1 with fail
 rw[<-hW]
 clear hW
 go_wp2_with fail
 refine HN.mono ?_
 rintro e w1 ⟨bm,F1,rfl,hm1,hb1,hF1⟩
 obtain⟨W2,hW2⟩:∃W2,W2=w1.alloc (.cells #[.int .i64 0,.int .i64 0] 27):=⟨_,rfl⟩
 have hb2:Below w1.heap.size w1 W2:=by rw[hW2];exact zA (zR _) _
 have hs1:w.heap.size<w1.heap.size:=by have:=hb1.size;omega
 obtain⟨⟨y0,y1⟩,yf⟩:=row2a (show W2.heap[w1.heap.size]?=some (.cells #[.int .i64 0,.int .i64 0] 27 (0,0)) by rw[hW2];exact heap_alloc_new _ _)
 have Z2:Hid (W2.heap[w.heap.size]?=_):=(hb2.block _ hs1).trans ((hb1.block _ (by omega)).trans RZ.out)
 have hs2:w.heap.size<W2.heap.size:=Nat.lt_of_lt_of_le hs1 hb2.size
 have HB2:Hid (Below w.heap.size w W2):=zT (zT HB.out hb1) hb2
 have HM2:Hid (FrAt W2 bm (Pg.Fs.new n) F1):=FrAt.keep (G:=fun _=>False) hm1 (But.of_below hb2) (fun _ _=>id)
 have HF1:Hid (∀x,F1 x->w.heap.size<x):=fun x hx=>by have:=hF1 x hx;omega
 have HT:=frTake_any W2 HM2.out
 rw[show(Pg.Fs.new n).takeN=0 by unfold Pg.Fs.takeN Pg.Fs.pick Pg.Fs.new;simp only[List.getLast?_nil];rw[if_pos (by omega)];rfl]at HT
 clear hb1 hb2 HN hm1 hF1
 go_upto_region 4 with fail
 rw[<-hW2]
 clear hW2
 go_wp2_with fail
 refine HT.mono ?_
 rintro e w3 ⟨rfl,FM,hm3,hb3,hF3⟩
 have HB3:Hid (Below w.heap.size w w3):=HB2.out.trans (hb3.below HB2.out.size (fun x hx=>by have:=HF1.out x hx;omega))
 have HM3:Hid (FrAt w3 bm (Pg.Fs.new n).take FM):=hm3
 have Z3:Hid (w3.heap[w.heap.size]?=_):=(hb3.block _ hs2 (fun e=>by have:=HF1.out _ e;omega)).trans Z2.out
 have hs3:w.heap.size<w3.heap.size:=Nat.lt_of_lt_of_le hs2 hb3.size
 have HF3:Hid (∀x,FM x->w.heap.size<x):=fun x hx=>by
  rcases hF3 x hx with h|h
  ·exact HF1.out x h
  ·omega
 clear hm3 hb3 hF3 HT HM2 HB2 Z2 HF1 y0 y1 yf
 go_wp2_with fail
 refine(shNew_any _).mono ?_
 rintro e w4 ⟨bs,rfl,hs4,hb4,hbs⟩
 have hl4:=hs4.lb
 have hb5:=zA (zR w4) (.cells #[.pointer (some ⟨bm,0,none⟩),.int .i64 0,.slice none 0 0,.pointer (some ⟨bs,0,none⟩),.slice none 0 0] 115)
 have N5:Hid (NewD w (w4.alloc (.cells #[.pointer (some ⟨bm,0,none⟩),.int .i64 0,.slice none 0 0,.pointer (some ⟨bs,0,none⟩),.slice none 0 0] 115)) w4.heap.size bm bs FM (.slice none 0 0) (Pg.Fs.new n).take 0 (fun _=>0) (fun _ _=>False)):=by
  refine⟨zT (zT HB3.out hb4) hb5,by simp[go_sem],by simp[go_sem],by simp[go_sem],by simp[go_sem],by simp[go_sem],fun p=>by simp[go_sem],FrAt.keep (G:=fun _=>False) HM3.out (But.of_below (zT hb4 hb5)) (fun _ _=>id),hs4.grow hb5,fun x hx=>⟨HF3.out x hx,?_,?_⟩,⟨by omega,hl4⟩,World.ownsRow_nil _ _ _ _,fun j hj=>by omega,fun j x hj=>by omega,fun i j x hi=>by omega,(hb5.block _ (by have:=hb4.size;omega)).trans ((hb4.block _ hs3).trans Z3.out)⟩
  ·have:=FrAt.lt HM3.out hx
   have:=hb4.size
   omega
  ·have:=FrAt.lt HM3.out hx
   omega
 clear hs4 hb4 hbs hl4 hb5 HM3 HB3 Z3 HF3
 go_upto_region 7 with fail
 generalize w4.alloc (.cells #[.pointer (some ⟨bm,0,none⟩),.int .i64 0,.slice none 0 0,.pointer (some ⟨bs,0,none⟩),.slice none 0 0] 115)=W5 at*
 generalize w4.heap.size=b at*
 go_wp2_with fail
 go_loopw [36] (fun i wr=>∃k:Nat,k<=co/\i= .int .i64 k/\Hid (∃vC cb cF,NewD w wr b bm bs FM vC (Pg.Fs.new n).take k cb cF)) (fun i _=>co-(intOf i).toNat)
 case atStart=>exact⟨0,by omega,rfl,⟨_,_,_,N5.out⟩⟩
 case round=>
  obtain⟨k,hk,rfl,HR⟩:=hrel
  obtain⟨vC,cb,cF,HN⟩:=HR.out
  have HN:Hid _:=HN
  clear HR N5
  have j0:(0:Int)<=(k:Int):=by omega
  by_cases hlt:k<co
  ·have j1:(k:Int)<(co:Int):=by omega
   have k1:=HN.out.c1
   have k2:=HN.out.c2
   have kf:=HN.out.fb
   have hlb:=HN.out.lb
   have hone:∀cn,∀u,u ∈ [Value.pointer (some ⟨cn,0,none⟩)]->u.oneCell'=true:=by
    intro cn u hu;simp at hu;subst hu;rfl
   have hnews:∀(W:World) (cn:Nat) (j:Nat) (u:Value),[Value.pointer (some ⟨cn,0,none⟩)][j]?=some u->(W.alloc (.cells #[.pointer (some ⟨cn,0,none⟩)] 116)).cell? ((⟨W.heap.size,0,none⟩:Addr).add j)=some u:=fun W cn j u hu=>World.news_of_block (heap_alloc_new W _) j u hu
   have nvb:vC.ownBlock≠some b:=fun e=>by have:=(HN.out.own.lt b e).1;omega
   have hm1:k+1<=maxLen:=by unfold maxLen;omega
   have hm2:(k+1)*8<=140737488355328:=by omega
   go_wp2_with fail
   go_region_law (first
    | (go_simp;go_at_call 49;refine(crNew_any 0 _).mono ?_;rintro e w2 ⟨cn,Fc,rfl,hc2,hb2,hF2⟩;have HB2:Hid (Below wr.heap.size wr w2):=zT ((zR wr).drew) hb2;have HC2:Hid _:=hc2;have HF2:Hid _:=hF2;have q2:=(HB2.out.cell (p:=⟨b,2,none⟩) hlb).trans k2;have qf:w2.frozen? ⟨b,2,none⟩=false:=(HB2.out.frozen (p:=⟨b,2,none⟩) hlb).trans (kf 2);have ql:b<w2.heap.size:=Nat.lt_of_lt_of_le hlb HB2.out.size;have qo:Hid (w2.ownsRow (b+1) 116 1 vC k (ptrs cb k)):=owns_of_block HN.out.own (fun x hx=>HB2.out.block x (HN.out.own.lt x hx).2);clear hc2 hb2 hF2)
    | (refine step_append_lies _ rfl (.tmp 42) (.tmp 48) 113 rfl (b+1) 116 p0 (.pointer none) 1 8 Tryz.underlying113 hp0 hp1 hp2 hp3 rfl (by decide) vC _ _ (by simp[Act.eval]) (qo.out.alloc _) ⟨w2.heap.size,0,none⟩ 1 1 [.pointer (some ⟨cn,0,none⟩)] (by simp[Act.eval]) rfl (hnews w2 cn) (hone cn) (by decide) hm1 hm2 (by simp;omega) (w2.heap.size+1) (by simp) ?_;intro g cap w6 hown6 hgrow6 hat6 hlt6;have O6:Hid (w6.ownsRow (b+1) 116 1 (.slice (some ⟨g,0,none⟩) (k+1) cap) (k+1) (ptrs cb k++[.pointer (some ⟨cn,0,none⟩)])):=hown6;have G6:Hid ((w2.alloc (.cells #[.pointer (some ⟨cn,0,none⟩)] 116)).grownBy w6 vC.ownBlock):=hgrow6;have hk6:w6.heap[b]?=w2.heap[b]?:=(G6.out.block b (by simp;omega) (fun e=>nvb e.symm)).trans (Below.heap_alloc _ _ _ ql);have e6:w6.cell? ⟨b,2,none⟩=some vC:=(World.cell?_of_block hk6).trans q2;have f6:w6.frozen? ⟨b,2,none⟩=false:=(World.frozen?_of_block hk6).trans qf;have A6:Hid (vC.ownBlock=some g\/g=w2.heap.size+1):=hat6;have L6:Hid (g<w6.heap.size):=hlt6;clear hown6 hgrow6 hat6 hlt6 hk6))
   all_goals
    have N6:Hid _:=HN.out.push HC2.out HB2.out HF2.out (grew qo.out G6.out A6.out ql L6.out) (A6.out.imp id (fun h=>by omega)) O6.out
    clear HN HC2 HB2 HF2 qo G6 A6 L6 O6 q2 qf ql k1 k2 kf
    go_wp2_with fail
    go_roundw
    case rel=>exact⟨k+1,by omega,by go_num,⟨_,_,_,N6.out⟩⟩
    case measure=>simp[intOf];omega
  ·have j1:¬(k:Int)<(co:Int):=by omega
   have ek:k=co:=by omega
   subst ek
   have FIN:Hid _:=HN.out.done h1 h4
   have HBF:Hid _:=HN.out.bel
   obtain⟨⟨z0,z1⟩,zf⟩:=row2a HN.out.rz
   have hsf:w.heap.size<wr.heap.size:=World.block_lt_of_cell? _ _ z0
   clear HN
   go_wp2_with fail
   refine bodyPost_ret (v:= .tuple #[.pointer (some ⟨b,0,none⟩),.agg #[.int .i64 0,.int .i64 0]]) ?_ rfl ?_
   ·simp[results,Tryz.results10,go_sem,z0,z1,hsf]
   ·obtain⟨F,hR,hF⟩:=FIN.out
    have hset:But (fun x=>x=w.heap.size) wr ((wr.setCell ⟨w.heap.size,0,none⟩ (.int .i64 0)).setCell ⟨w.heap.size,1,none⟩ (.int .i64 0)):=((But.refl (fun x=>x=w.heap.size) wr).setCell (a:=⟨w.heap.size,0,none⟩) (.inr rfl) _).setCell (a:=⟨w.heap.size,1,none⟩) (.inr rfl) _
    exact⟨b,rfl,F,hR.keep hset (fun x hx e=>by have:=hF x hx;omega),(HBF.out.setCell (p:=⟨w.heap.size,0,none⟩) (Nat.le_refl _) _).setCell (p:=⟨w.heap.size,1,none⟩) (Nat.le_refl _) _,fun x hx=>by have:=hF x hx;omega⟩
end Go.Proofs.YtkhnelgommaioaaGreat
