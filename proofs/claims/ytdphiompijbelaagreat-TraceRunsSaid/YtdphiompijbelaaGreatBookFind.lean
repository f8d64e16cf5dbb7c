import Derived.Test.YtdphiompijbelaaGreatShB
import Derived.Deep.RegionLaw
set_option linter.all false
set_option maxRecDepth 100000
open List renaming length_eq_zero_iff->A,length_append->kJ,getElem_mem->kC
open Go.Obj renaming cells->M
open Nat renaming lt_of_lt_of_le->K,le_refl->D,zero_le->H,le_of_not_lt->kR,le_succ->kN
open Bool renaming true->O,false->E
open Go renaming World->V
open Go.World renaming block_lt_of_cell?->N,cell?_of_block->Y,frozen?_of_block->T,news_of_block->z,ownsRow_nil->kP
open Go.Ending renaming returned->C
open Go.Proofs.Tryz renaming prog->S
open Go.Value renaming int->B,pointer->R,bool->Q,slice->Z,slice->U,ownBlock->X,tuple->kI,int->kS
open Go.IntKind renaming i64->J
open Option renaming none->I,some->P
set_option maxHeartbeats 4000000
namespace Go.Proofs.YtdphiompijbelaaGreat
open Go.RowKit Go.Sort
structure Chg (b o:Nat) (F:Nat->Prop) (w w':V):Prop where
 but:But F w w'
 oth:∀p,p≠o->w'.cell? ⟨b,p,I⟩=w.cell? ⟨b,p,I⟩
theorem Chg.yhf {b o:Nat} {F:Nat->Prop} {w w':V} (h:Below w.heap.size w w') (hb:b<w.heap.size):Chg b o F w w':=⟨But.yhf h,fun p _=>h.cell (p:=⟨b,p,I⟩) hb⟩
theorem Chg.trans {b o:Nat} {F G:Nat->Prop} {w w1 w2:V} (h:Chg b o F w w1) (k:Chg b o G w1 w2) (hG:∀i,i<w.heap.size->G i->F i):Chg b o F w w2:=
 ⟨h.but.trans k.but hG,fun p hp=>(k.oth p hp).trans (h.oth p hp)⟩
structure Tbk (w:V) (b o:Nat) (vb:Value) (L:List Pg.Ln):Prop where
 c0:w.cell? ⟨b,o,I⟩=P vb
 fb:∀p,w.frozen? ⟨b,p,I⟩=E
 row:w.ownsRow 0 139 5 vb L.length (zL L)
 nb:vb.ownBlock≠P b
 kept:Pg.Kept L
namespace Tbk
variable {w w' W:V} {b o:Nat} {vb v':Value} {L L':List Pg.Ln}
theorem lb (h:Tbk w b o vb L):b<w.heap.size:=N _ _ h.c0
theorem lt (h:Tbk w b o vb L) {k:Nat} (hk:bkF b vb k):k<w.heap.size:=by
 rcases hk with rfl|hk
 ·exact h.lb
 ·exact(h.row.lt k hk).2
theorem keep (h:Tbk w b o vb L) {F:Nat->Prop} (hb:But F w w') (hF:∀k,bkF b vb k->¬F k):Tbk w' b o vb L:=by
 have kb:=hb.block b h.lb (hF b (.inl rfl));exact⟨(Y kb).trans h.c0,fun p=>(T kb).trans (h.fb p),zc h.row hb fun k hk=>hF k (.inr hk),h.nb,h.kept⟩
theorem grow (h:Tbk w b o vb L) (hb:Below w.heap.size w w'):Tbk w' b o vb L:=h.keep (F:=fun _=>False) (But.yhf hb) (fun _ _=>id)
theorem put (h:Tbk w b o vb L) (hb:But (fun j=>vb.ownBlock=P j) w W) (hr:W.ownsRow 0 139 5 v' L'.length (zL L')) (hv:∀j,v'.ownBlock=P j->vb.ownBlock=P j\/w.heap.size<=j) (hg:Pg.Kept L'):
 Tbk (W.setCell ⟨b,o,I⟩ v') b o v' L'/\Chg b o (bkF b vb) w (W.setCell ⟨b,o,I⟩ v')/\(∀k,bkF b v' k->bkF b vb k\/w.heap.size<=k):=by
 have hl:=h.lb;have kb:W.heap[b]?=w.heap[b]?:=hb.block b hl h.nb;have hc:W.cell? ⟨b,o,I⟩=P vb:=(Y (a:=⟨b,o,I⟩) kb).trans h.c0;have hne:v'.ownBlock≠P b:=fun e=>(hv b e).elim h.nb (fun h=>by omega);refine⟨⟨World.cell?_setCell_same _ _ _ hc,fun p=> ?_,?_,hne,hg⟩,⟨?_,fun p hp=> ?_⟩,fun k hk=> ?_⟩
 ·have:=(T (a:=⟨b,p,I⟩) kb).trans (h.fb p)
  simpa using this
 ·exact zb hr fun k hk=>Below.heap_setCell _ _ _ _ (fun e=>hne (by rw[hk];exact congrArg P e))
 ·exact(hb.mono (G:=bkF b vb) fun i _ hi=> .inr hi).setCell (a:=⟨b,o,I⟩) (.inr (.inl rfl)) _
 ·rw[World.cell?_setCell_other _ _ _ _ (fun e=>hp (by injection e with _ e;exact e.symm))]
  exact Y (a:=⟨b,p,I⟩) kb
 ·rcases hk with rfl|hk
  ·exact .inl (.inl rfl)
  ·exact(hv k hk).imp .inr id
end Tbk
structure jJ (w:V) (b o:Nat) (L:List Pg.Ln) (F:Nat->Prop):Prop where
 ex:∃vb,Tbk w b o vb L/\F=bkF b vb
section
variable {w w':V} {b o:Nat} {L:List Pg.Ln} {F G:Nat->Prop}
theorem jJ.lt (h:jJ w b o L F) {k:Nat} (hk:F k):k<w.heap.size:=by
 obtain⟨vb,h,rfl⟩:=h;exact h.lt hk
theorem jJ.kept (h:jJ w b o L F):Pg.Kept L:=by
 obtain⟨vb,h,rfl⟩:=h;exact h.kept
theorem jJ.keep (h:jJ w b o L F) (hb:But G w w') (hF:∀k,F k->¬G k):jJ w' b o L F:=by
 obtain⟨vb,h,rfl⟩:=h;exact⟨vb,h.keep hb hF,rfl⟩
theorem jJ.grow (h:jJ w b o L F) (hb:Below w.heap.size w w'):jJ w' b o L F:=h.keep (G:=fun _=>False) (But.yhf hb) (fun _ _=>id)
end
theorem ygs {w:V} {vb:Value} {L:List Pg.Ln} {t:TypeId} (hr:w.ownsRow 0 139 5 vb L.length (zL L)) (hg:Pg.Kept L):Tbk (w.alloc (M #[vb] t)) w.heap.size 0 vb L:=by
 have hb:=heap_alloc_new w (M #[vb] t);refine⟨cell_of_row _ _ 0 _ _ _ hb,fun o=>by unfold World.frozen?;simp only[hb];simp,hr.alloc _,fun e=> ?_,hg⟩;have:=(hr.lt _ e).2;omega
theorem yeY (w:V):
 Calls S 86 #[] w fun e w'=>∃b F,e=C (R (P ⟨b,0,I⟩))/\jJ w' b 0 [] F/\Below w.heap.size w w'/\∀k,F k->w.heap.size<=k:=by
 go_enter Tryz.func86,Tryz.ntmps86
 go_wp2_with fail
 go_ret
 refine⟨_,_,rfl,⟨Z I 0 0,ygs (kP _ _ _ _) Pg.Kept.nil,rfl⟩,zA (zR _) _,fun k hk=> ?_⟩;rcases hk with rfl|hk
 ·exact D _
 ·simp[X]at hk
section
variable {b o:Nat} {L:List Pg.Ln} {F:Nat->Prop}
theorem yd2 (w:V) (h:jJ w b o L F):
 Calls S 69 #[R (P ⟨b,o,I⟩)] w fun e w'=>∃ad cap,e=C (Z ad L.length cap)/\qx w' ad L/\Below w.heap.size w w'/\∀k,(U ad L.length cap).ownBlock=P k->w.heap.size<=k:=by
 obtain⟨vb,h,rfl⟩:=h;have hc0:=h.c0;have HC:Hid _:=ycL w h.row h.kept.le;clear h
 go_enter Tryz.func69,Tryz.ntmps69
 go_wp2_with fail
 refine Calls.mono HC.out ?_;rintro e w1 ⟨v',rfl,hr,hb⟩;obtain⟨ad,cap,rfl⟩:=zF hr;have HR:Hid _:=hr;have HB:Hid _:=hb;clear hr hb
 go_wp2_with fail
 go_ret
 exact⟨ad,cap,rfl,zp (zl.yjo HR.out),HB.out,fun k hk=>(World.ownsRow.lt HR.out k hk).1⟩
theorem yeq {bq oq:Nat} (q:Int) (hq:Pg.fits q) (l:Pg.Ln) (hl:Pg.fits l.m.p) (w:V) (hc:w.cell? ⟨bq,oq,I⟩=P (B J q)):
 Calls S 177 #[l.val,R (P ⟨bq,oq,I⟩)] w fun e w'=>e=C (Q (l.has q))/\Below w.heap.size w w':=by
 obtain⟨⟨p,s,f,r⟩,d⟩:=l;have hbq:=N _ _ hc;have HO:=jb p s f r q hl hq;simp only[Pg.Ln.val,Pg.Ln.has,Pg.Mp.has];generalize Pg.over p s q=x at*
 go_enter Tryz.func177,Tryz.ntmps177
 go_wp2_with fail
 refine(HO _).mono ?_;rintro e w1 ⟨rfl,hb1⟩
 go_wp2_with fail
 go_ret
 exact⟨rfl,zT (zA (zR _) _) hb1⟩
theorem yei {bm om:Nat} (m:Pg.Mp) (hm:Pg.fits m.p) (l:Pg.Ln) (hl:Pg.fits l.m.p) (w:V) (hc:ybv w bm om m):
 Calls S 211 #[l.val,R (P ⟨bm,om,I⟩)] w fun e w'=>e=C (Q (l.meets m))/\Below w.heap.size w w':=by
 obtain⟨⟨p,s,f,r⟩,d⟩:=l;obtain⟨p',s',f',r'⟩:=m;obtain⟨c0,c1,c2,c3⟩:=hc;have hbq:=N _ _ c0;have HO:=ybh p s f r p' s' f' r' hl hm;simp only at c0 c1 c2 c3;simp only[Pg.Ln.val,Pg.Ln.meets,Pg.Mp.meets];generalize Pg.meet p s p' s'=x at*
 go_enter Tryz.func211,Tryz.ntmps211
 go_wp2_with fail
 refine(HO _).mono ?_;rintro e w1 ⟨rfl,hb1⟩
 go_wp2_with fail
 go_ret
 exact⟨rfl,zT (zA (zR _) _) hb1⟩
theorem qs {w w1:V} (h:Below w.heap.size w w1) (r:Nat) (hr:w.heap.size<=r) (x0 x1 x2 x3 x4:Value):
 Below w.heap.size w (((((w1.setCell ⟨r,0,I⟩ x0).setCell ⟨r,1,I⟩ x1).setCell ⟨r,2,I⟩ x2).setCell ⟨r,3,I⟩ x3).setCell ⟨r,4,I⟩ x4):=
 ((((h.setCell hr _).setCell hr _).setCell hr _).setCell hr _).setCell hr _
theorem jV (q:Int) (hq:Pg.fits q) (w:V) (h:jJ w b o L F):
 Calls S 141 #[R (P ⟨b,o,I⟩),B J q] w fun e w'=>e=C (kI #[(Pg.kAt L q).val,Q (Pg.kFnd L q).isSome])/\Below w.heap.size w w':=by
 obtain⟨vb,h,rfl⟩:=h;obtain⟨ad,cap,rfl⟩:=zF h.row;obtain⟨W,hW⟩:∃W,W=(w.alloc (M #[B J q] 3)).alloc (M #[B J 0,B J 0,B J 0,B J 0,Q E] 139):=⟨_,rfl⟩
 have hB:Below w.heap.size w W:=by rw[hW];exact zA (zA (zR _) _) _
 have hT:=h.grow hB
 have k1:W.cell? ⟨w.heap.size,0,I⟩=P (B J q):=by rw[hW];simp[go_sem]
 have HI:=vB (cap:=cap) (fun l=>l.has q) 177 #[R (P ⟨w.heap.size,0,I⟩)] W (zp (zl.yjo hT.row)) h.kept.le (fun args w=>by simp[go_sem]) (fun j w' hj hb=>yeq q hq _ (h.kept.fits hj) w' (cell_later hb k1));have hlb:=h.lb;have hc0:=hT.c0;have hc00:=h.c0;have hlen:=h.kept.le
 have hsz:W.heap.size=w.heap.size+2:=by rw[hW];simp
 cases hf:Pg.kFnd L q with
 | none=>
   have e1:Pg.kAt L q= .zz:=by simp only[Pg.kAt,hf]
   have e2:Pg.idxN L (fun l=>l.has q)= -1:=by
    unfold Pg.kFnd at hf;simp only[Pg.idxN,hf]
   rw[e2]at HI;have HB:Hid _:=hB;rw[e1];clear e1 e2 hf h hT hB k1
   go_enter Tryz.func141,Tryz.ntmps141
   go_wp2_with fail
   rw[<-hW];refine HI.mono ?_;rintro e w1 ⟨rfl,hb1⟩;have hr:∀p,w1.cell? ⟨w.heap.size+1,p,I⟩=_:=fun p=>hb1.cell (p:=⟨w.heap.size+1,p,I⟩) (by simp;omega);have hf:∀p,w1.frozen? ⟨w.heap.size+1,p,I⟩=_:=fun p=>hb1.frozen (p:=⟨w.heap.size+1,p,I⟩) (by simp;omega);rw[hW]at hr hf;have HB1:Hid _:=zT HB.out hb1;clear hb1 HI HB hc0 hc00 hW
   go_wp2_with fail
   refine bodyPost_ret (v:=kI #[.agg #[B J 0,B J 0,B J 0,B J 0,Q E],Q E]) ?_ rfl ⟨rfl,?_⟩
   ·simp[results,Tryz.results141,go_sem,hr]
   ·exact qs HB1.out _ (kN _) _ _ _ _ _
 | some k=>
   obtain⟨hk,_,_⟩:=Pg.yiR hf
   have e1:Pg.kAt L q=L.getD k .zz:=by simp only[Pg.kAt,hf]
   have e2:Pg.idxN L (fun l=>l.has q)=(k:Int):=by
    unfold Pg.kFnd at hf;simp only[Pg.idxN,hf]
   rw[e2]at HI;obtain⟨g,og,e3,hg,hm⟩:=zp (zl.yjo hT.row) k hk;subst e3;have HB:Hid _:=hB;rw[e1]
   have i0:(0:Int)<=(k:Int):=by omega
   have i1:(k:Int)<(L.length:Int):=by omega
   have i2:¬(k:Int)<0:=by omega
   have hbW:b<W.heap.size:=K hlb hB.size;clear e1 e2 hf h hT hB k1;generalize L.getD k .zz=x at*;obtain⟨⟨xp,xs,xf,xr⟩,xd⟩:=x;simp only[Pg.Ln.val]
   go_enter Tryz.func141,Tryz.ntmps141
   go_wp2_with fail
   rw[<-hW];refine HI.mono ?_;rintro e w1 ⟨rfl,hb1⟩;have hr:∀p,w1.cell? ⟨w.heap.size+1,p,I⟩=_:=fun p=>hb1.cell (p:=⟨w.heap.size+1,p,I⟩) (by simp;omega);have hf:∀p,w1.frozen? ⟨w.heap.size+1,p,I⟩=_:=fun p=>hb1.frozen (p:=⟨w.heap.size+1,p,I⟩) (by simp;omega);rw[hW]at hr hf;have HB1:Hid _:=zT HB.out hb1;have c0:=cell_later hb1 hc0;obtain⟨m0,m1,m2,m3,m4⟩:=hm.below hb1 hg;simp only at m0 m1 m2 m3 m4;have hbw:b<w1.heap.size:=K hbW hb1.size;clear hb1 HI HB hc0 hc00 hW hm
   go_wp2_with fail
   refine bodyPost_ret (v:=kI #[.agg #[B J xp,B J xs,B J xf,B J xr,Q xd],Q O]) ?_ rfl ⟨rfl,?_⟩
   ·simp[results,Tryz.results141,go_sem,hr]
   ·exact qs HB1.out _ (kN _) _ _ _ _ _
end
section
variable {b o:Nat} {L:List Pg.Ln} {F:Nat->Prop}
theorem yaX (m:Pg.Mp) (hm:Pg.fits m.p) (w:V) (h:jJ w b o L F):
 Calls S 183 #[R (P ⟨b,o,I⟩),m.val] w fun e w'=>e=C (B J ((L.length:Int)-((Pg.yic L m).length:Int)))/\∃F',jJ w' b o (Pg.yic L m) F'/\Chg b o F w w'/\∀k,F' k->F k\/w.heap.size<=k:=by
 obtain⟨vb,h,rfl⟩:=h;obtain⟨ad,cap,rfl⟩:=zF h.row;obtain⟨W,hW⟩:∃W,W=w.alloc (M #[B J m.p,B J m.s,B J m.f,B J m.r] 39):=⟨_,rfl⟩
 have hB:Below w.heap.size w W:=by rw[hW];exact zA (zR _) _
 have hT:=h.grow hB
 have k1:ybv W w.heap.size 0 m:=by rw[hW];exact⟨by simp[go_sem],by simp[go_sem],by simp[go_sem],by simp[go_sem]⟩
 have hsz:W.heap.size=w.heap.size+1:=by rw[hW];simp
 have hno:¬(U ad L.length cap).ownBlock=P w.heap.size:=fun e=>by have:=(h.row.lt _ e).2;omega
 have HD:=ycy (cap:=cap) (fun l=>l.meets m) 211 #[R (P ⟨w.heap.size,0,I⟩)] W hT.row h.kept.le (fun args w=>by simp[go_sem]) (fun j w' hj hb=>yei m hm _ (h.kept.fits hj) w' ⟨(hb.cell (a:=⟨w.heap.size,0,I⟩) (by simp;omega) hno).trans k1.1,(hb.cell (a:=⟨w.heap.size,0+1,I⟩) (by simp;omega) hno).trans k1.2.1,(hb.cell (a:=⟨w.heap.size,0+2,I⟩) (by simp;omega) hno).trans k1.2.2.1,(hb.cell (a:=⟨w.heap.size,0+3,I⟩) (by simp;omega) hno).trans k1.2.2.2⟩);have e1:(L.filter fun l=> !l.meets m)=Pg.yic L m:=rfl;rw[e1]at HD;have hlb:=h.lb;have hc0:=h.c0;have hlen:=h.kept.le;have hlen':=(h.kept.drop m).le;have HT:Hid _:=hT;have HX:Hid _:=h;have HB:Hid _:=hB;have HK:Hid _:=h.kept.drop m;clear h hT hB k1 e1 hno;generalize Pg.yic L m=L' at*;obtain⟨mp,ms,mf,mr⟩:=m;simp only[Pg.Mp.val];simp only at hW
 go_enter Tryz.func183,Tryz.ntmps183
 go_wp2_with fail
 rw[<-hW];refine HD.mono ?_;rintro e w1 ⟨rfl,hr,hb1⟩;have kb:w1.heap[b]?=W.heap[b]?:=hb1.block b (by omega) HT.out.nb;have c0:w1.cell? ⟨b,o,I⟩=P (Z ad L.length cap):=(Y (a:=⟨b,o,I⟩) kb).trans HT.out.c0;have cf:w1.frozen? ⟨b,o,I⟩=E:=(T (a:=⟨b,o,I⟩) kb).trans (HT.out.fb o);have HF:Hid _:=HT.out.put hb1 hr (fun j hj=> .inl (by cases ad with|none=>exact absurd hj (by simp[X])|some a=>exact hj)) HK.out;clear hb1 hr kb HD hc0 hW
 go_wp2_with fail
 go_ret
 obtain⟨f1,f2,f3⟩:=HF.out;refine⟨rfl,_,⟨_,f1,rfl⟩,(Chg.yhf (o:=o) HB.out hlb).trans f2 (fun i _ hi=>hi),fun k hk=>(f3 k hk).imp id (fun h=>by omega)⟩
theorem vS (w:V) (h:jJ w b o L F):
 Calls S 150 #[R (P ⟨b,o,I⟩)] w fun e w'=>e=C (Q (decide (0<L.length)))/\∃F',jJ w' b o (L.drop 1) F'/\Chg b o F w w'/\∀k,F' k->F k\/w.heap.size<=k:=by
 obtain⟨vb,h,rfl⟩:=h;obtain⟨ad,cap,rfl⟩:=zF h.row;have hlb:=h.lb;have hc0:=h.c0;have hlen:=h.kept.le
 by_cases h0:0<L.length
 ·have HD:Hid _:=ybD w h.row hlen h0
  have HX:Hid _:=h
  have e0:Hid (decide (0<L.length)=O):=by simp[Hid,h0]
  have n0:((L.length:Int)==0)=E:=by
   have:¬(L.length:Int)=0:=by omega
   simpa using this
  clear h
  go_enter Tryz.func150,Tryz.ntmps150
  go_wp2_with fail
  refine Calls.mono HD.out ?_;rintro e w1 ⟨g,cap',he,rfl,hr,hb1⟩;cases he;have kb:w1.heap[b]?=w.heap[b]?:=hb1.block b (by omega) HX.out.nb;have c0:w1.cell? ⟨b,o,I⟩=P (Z (P ⟨g,0,I⟩) L.length cap):=(Y (a:=⟨b,o,I⟩) kb).trans HX.out.c0;have cf:w1.frozen? ⟨b,o,I⟩=E:=(T (a:=⟨b,o,I⟩) kb).trans (HX.out.fb o);have HF:Hid _:=HX.out.put hb1 hr (fun j hj=> .inl hj) HX.out.kept.tail;clear hb1 hr kb HD hc0
  go_wp2_with fail
  go_ret
  obtain⟨f1,f2,f3⟩:=HF.out;refine⟨xx e0.out.symm,_,⟨_,f1,rfl⟩,f2,f3⟩
 ·have hL:L=[]:=A.1 (by omega)
  subst hL;have HX:Hid _:=h;clear h
  go_enter Tryz.func150,Tryz.ntmps150
  go_wp2_with fail
  go_ret
  exact⟨rfl,_,⟨_,HX.out,rfl⟩,Chg.yhf (zR _) hlb,fun k hk=> .inl hk⟩
theorem yeZ (l:Pg.Ln) (hm:Pg.fits l.m.p) (w:V) (h:jJ w b o L F):
 Calls S 146 #[R (P ⟨b,o,I⟩),l.val] w fun e w'=>e=C (Q (l.m.code==0))/\∃F',jJ w' b o (Pg.kPut L l) F'/\Chg b o F w w'/\∀k,F' k->F k\/w.heap.size<=k:=by
 have HX:Hid _:=h;have hlF:∀k,F k->k<w.heap.size:=fun k hk=>h.lt hk;have HCK:=zQ l.m.p l.m.s l.m.f l.m.r
 have hlb:b<w.heap.size:=by obtain⟨vb,h,_⟩:=h;exact h.lb
 by_cases hcode:l.m.code=0
 ·have hce:Pg.check l.m.p l.m.s l.m.f l.m.r=0:=hcode
  rw[hce]at HCK
  have hr:(l.m.code==0)=O:=by simp[hcode]
  have HKK:Hid (Pg.Kept (Pg.kPut L l)):=h.kept.put l;have HLL:Hid ((Pg.yic L l.m).length<=6):=(h.kept.drop l.m).le;have HD:=fun w' (hb:Below w.heap.size w w')=>yaX l.m hm w' (h.grow hb);rw[hr];rw[Pg.ykF hcode]at HKK ⊢;clear h hcode hce hr;generalize Pg.yic L l.m=L1 at*;obtain⟨L2,hL2⟩:∃L2,L2=Pg.yiS L1:=⟨_,rfl⟩;rw[<-hL2]at HKK
  have HLR:Hid (L2.length<=5):=by rw[hL2];exact Pg.yji HLL.out
  have HL2:Hid (L2=Pg.yiS L1):=hL2;clear hL2;obtain⟨⟨mp,ms,mf,mr⟩,d⟩:=l;simp only[Pg.Ln.val,Pg.Mp.val]at*;have E2:=fun w' F' (h:jJ w' b o L1 F')=>vS w' h
  go_enter Tryz.func146,Tryz.ntmps146
  go_wp2_with fail
  refine(HCK _).mono ?_;rintro e w1 ⟨rfl,hb1⟩;have hx1:∀p,w1.cell? ⟨w.heap.size,p,I⟩=_:=fun p=>hb1.cell (p:=⟨w.heap.size,p,I⟩) (by simp);have hbb:Below w.heap.size w w1:=zT (zA (zR _) _) hb1
  have hs1:w.heap.size<w1.heap.size:=by have:=hb1.size;simp at this;omega
  have HB1:Hid _:=hbb;clear hb1 hbb HCK
  go_wp2_with fail
  refine(HD _ HB1.out).mono ?_;rintro e w2 ⟨rfl,F2,h2,hc2,hF2⟩
  have hnx:¬F w.heap.size:=fun hf=>by have:=hlF _ hf;omega
  have hx2:∀p,w2.cell? ⟨w.heap.size,p,I⟩=_:=fun p=>(hc2.but.cell (a:=⟨w.heap.size,p,I⟩) hs1 hnx).trans (hx1 p);have hs2:w.heap.size<w2.heap.size:=K hs1 hc2.but.size;have HC2:Hid (Chg b o F w w2):=(Chg.yhf (o:=o) HB1.out hlb).trans hc2 (fun i _ hi=>hi);have hF2:Hid (∀k,F2 k->F k\/w.heap.size<k):=fun k hk=>(hF2 k hk).imp id (fun h=>by omega);obtain⟨vb2,t2,hvb2⟩:=h2.ex;obtain⟨ad2,cap2,rfl⟩:=zF t2.row;have c20:=t2.c0;have l20:=t2.lb;clear t2 hvb2 hc2 HD hx1 HX
  by_cases h6:L1.length=6
  ·have i6:((L1.length:Int)==6)=O:=by simp[h6]
   have eR:L1.drop 1=L2:=by rw[HL2.out];simp[Pg.yiS,h6]
   rw[eR]at E2;clear eR
   go_wp2_with fail
   refine(E2 _ _ h2).mono ?_;rintro e w3 ⟨rfl,F3,h3,hc3,hF3⟩;have hnx2:¬F2 w.heap.size:=fun hf=>(hF2.out _ hf).elim hnx (fun h=>by omega);have hx3:∀p,w3.cell? ⟨w.heap.size,p,I⟩=_:=fun p=>(hc3.but.cell (a:=⟨w.heap.size,p,I⟩) hs2 hnx2).trans (hx2 p);have lx3:w.heap.size<w3.heap.size:=K hs2 hc3.but.size;have HC3:Hid (Chg b o F w w3):=HC2.out.trans hc3 (fun i hi hg=>(hF2.out i hg).elim id (fun h=>by omega));have HF3:Hid (∀k,F3 k->F k\/w.heap.size<=k):=fun k hk=>(hF3 k hk).elim (fun h=>(hF2.out k h).imp id (fun h=>by omega)) (fun h=> .inr (by omega));have H3:Hid _:=h3;have x0:w3.cell? ⟨w.heap.size,0,I⟩=P (B J mp):=(hx3 0).trans (by simp[go_sem]);have x1:w3.cell? ⟨w.heap.size,1,I⟩=P (B J ms):=(hx3 1).trans (by simp[go_sem]);have x2:w3.cell? ⟨w.heap.size,2,I⟩=P (B J mf):=(hx3 2).trans (by simp[go_sem]);have x3:w3.cell? ⟨w.heap.size,3,I⟩=P (B J mr):=(hx3 3).trans (by simp[go_sem]);have x4:w3.cell? ⟨w.heap.size,4,I⟩=P (Q d):=(hx3 4).trans (by simp[go_sem]);clear hc3 hx3 hx2 h3 h2 c20 hF3 E2;obtain⟨vb3,t3,rfl⟩:=H3.out.ex;obtain⟨ad3,cap3,rfl⟩:=zF t3.row;have hown:=t3.row;have r0:=t3.c0;have rf:=t3.fb o;have hlk:=t3.lb;have hn3:=t3.nb;have hlen3:L2.length<=5:=HLR.out;have HT3:Hid _:=t3;have HK3:Hid (Pg.Kept (L2++[⟨⟨mp,ms,mf,mr⟩,d⟩])):=HKK.out;obtain⟨q0,hqi,hz0,hz1,hz2⟩:=info_parts jz
   have hnews:∀(W:V) (j:Nat) (u:Value),[kS J mp,B J ms,B J mf,B J mr,Q d][j]?=P u->(W.alloc (M #[B J mp,B J ms,B J mf,B J mr,Q d] 139)).cell? ((⟨W.heap.size,0,I⟩:Addr).add j)=P u:=fun W j u hu=>
    z (heap_alloc_new W _) j u hu
   have hone:∀u,u ∈ [kS J mp,B J ms,B J mf,B J mr,Q d]->u.oneCell'=O:=by
    intro u hu;simp at hu;rcases hu with rfl|rfl|rfl|rfl|rfl<;>rfl
   have hm1:L2.length+1<=maxLen:=by unfold maxLen;omega
   have hm2:(L2.length+1)*40<=140737488355328:=by omega
   have hlx:w.heap.size<w3.heap.size:=lx3;clear t3 lx3
   go_wp2_with fail
   go_region_law (refine step_append_lies _ rfl (.tmp 25) (.tmp 27) 61 rfl 0 139 q0 _ 5 40 Tryz.underlying61 hqi hz0 hz1 hz2 rfl (by decide) (Z ad3 L2.length cap3) _ _ (by simp[Act.eval]) (hown.alloc _) ⟨w3.heap.size,0,I⟩ 1 1 [B J mp,B J ms,B J mf,B J mr,Q d] (by simp[Act.eval]) rfl (hnews w3) hone (by decide) hm1 hm2 (H _) (w3.heap.size+1) (by simp) ?_;intro g6 cap6 w6 hown6 hgrow6 hat6 hlt6;have hG6:Hid ((w3.alloc (M #[B J mp,B J ms,B J mf,B J mr,Q d] 139)).drew.grownBy w6 (U ad3 L2.length cap3).ownBlock):=hgrow6;have hk6:w6.heap[b]?=w3.heap[b]?:=(hG6.out.block b (by simp;omega) (fun e=>hn3 e.symm)).trans (Below.heap_alloc _ _ _ hlk);have e9:w6.cell? ⟨b,o,I⟩=P (Z ad3 L2.length cap3):=(Y hk6).trans r0;have ef9:w6.frozen? ⟨b,o,I⟩=E:=(T hk6).trans rf;have hO6:Hid (w6.ownsRow 0 139 5 (Z (P ⟨g6,0,I⟩) (L2.length+1) cap6) (L2.length+1) (zL L2++[B J mp,B J ms,B J mf,B J mr,Q d])):=hown6;have hA6:Hid ((U ad3 L2.length cap3).ownBlock=P g6\/g6=w3.heap.size+1):=hat6;clear hown6 hgrow6 hat6 hk6)
   all_goals
    have hB6:But (fun j=>(U ad3 L2.length cap3).ownBlock=P j) w3 w6:=((But.refl _ w3).alloc _).drew.grown hG6.out (fun k hk=> .inr hk)
    have hr6:w6.ownsRow 0 139 5 (Z (P ⟨g6,0,I⟩) (L2.length+1) cap6) (L2++[Pg.Ln.mk ⟨mp,ms,mf,mr⟩ d]).length (zL (L2++[Pg.Ln.mk ⟨mp,ms,mf,mr⟩ d])):=by
     rw[xH,kJ];exact hO6.out
    have HF:Hid _:=HT3.out.put hB6 hr6 (fun j hj=>by
     rcases hA6.out with h|h
     ·exact .inl (h.trans hj)
     ·exact .inr (by simp[X]at hj;omega)) HK3.out
    clear hB6 hr6 hG6 hO6 hA6
    go_wp2_with fail
    go_ret
    obtain⟨f1,f2,f3⟩:=HF.out;refine⟨rfl,_,by rw[<-HL2.out];exact⟨_,f1,rfl⟩,HC3.out.trans f2 (fun i hi hg=>(HF3.out i hg).elim id (fun h=>by omega)),fun k hk=>(f3 k hk).elim (HF3.out k) (fun h=> .inr (by omega))⟩
  ·have i6:((L1.length:Int)==6)=E:=by
    have:¬((L1.length:Int)=6):=by omega
    simpa using this
   have eR:L1=L2:=by rw[HL2.out];simp[Pg.yiS,h6]
   rw[eR]at h2 c20 i6;clear eR;have HC3:Hid _:=HC2.out;have HF3:Hid (∀k,F2 k->F k\/w.heap.size<=k):=fun k hk=>(hF2.out k hk).imp id (fun h=>by omega);have H3:Hid _:=h2;have x0:w2.cell? ⟨w.heap.size,0,I⟩=P (B J mp):=(hx2 0).trans (by simp[go_sem]);have x1:w2.cell? ⟨w.heap.size,1,I⟩=P (B J ms):=(hx2 1).trans (by simp[go_sem]);have x2:w2.cell? ⟨w.heap.size,2,I⟩=P (B J mf):=(hx2 2).trans (by simp[go_sem]);have x3:w2.cell? ⟨w.heap.size,3,I⟩=P (B J mr):=(hx2 3).trans (by simp[go_sem]);have x4:w2.cell? ⟨w.heap.size,4,I⟩=P (Q d):=(hx2 4).trans (by simp[go_sem]);have lx3:w.heap.size<w2.heap.size:=hs2;clear hx2 h2 E2 l20
   go_wp2_with fail
   clear c20;generalize w2=w3 at*;obtain⟨vb3,t3,rfl⟩:=H3.out.ex;obtain⟨ad3,cap3,rfl⟩:=zF t3.row;have hown:=t3.row;have r0:=t3.c0;have rf:=t3.fb o;have hlk:=t3.lb;have hn3:=t3.nb;have hlen3:L2.length<=5:=HLR.out;have HT3:Hid _:=t3;have HK3:Hid (Pg.Kept (L2++[⟨⟨mp,ms,mf,mr⟩,d⟩])):=HKK.out;obtain⟨q0,hqi,hz0,hz1,hz2⟩:=info_parts jz
   have hnews:∀(W:V) (j:Nat) (u:Value),[kS J mp,B J ms,B J mf,B J mr,Q d][j]?=P u->(W.alloc (M #[B J mp,B J ms,B J mf,B J mr,Q d] 139)).cell? ((⟨W.heap.size,0,I⟩:Addr).add j)=P u:=fun W j u hu=>
    z (heap_alloc_new W _) j u hu
   have hone:∀u,u ∈ [kS J mp,B J ms,B J mf,B J mr,Q d]->u.oneCell'=O:=by
    intro u hu;simp at hu;rcases hu with rfl|rfl|rfl|rfl|rfl<;>rfl
   have hm1:L2.length+1<=maxLen:=by unfold maxLen;omega
   have hm2:(L2.length+1)*40<=140737488355328:=by omega
   have hlx:w.heap.size<w3.heap.size:=lx3;clear t3 lx3
   go_wp2_with fail
   go_region_law (refine step_append_lies _ rfl (.tmp 25) (.tmp 27) 61 rfl 0 139 q0 _ 5 40 Tryz.underlying61 hqi hz0 hz1 hz2 rfl (by decide) (Z ad3 L2.length cap3) _ _ (by simp[Act.eval]) (hown.alloc _) ⟨w3.heap.size,0,I⟩ 1 1 [B J mp,B J ms,B J mf,B J mr,Q d] (by simp[Act.eval]) rfl (hnews w3) hone (by decide) hm1 hm2 (H _) (w3.heap.size+1) (by simp) ?_;intro g6 cap6 w6 hown6 hgrow6 hat6 hlt6;have hG6:Hid ((w3.alloc (M #[B J mp,B J ms,B J mf,B J mr,Q d] 139)).drew.grownBy w6 (U ad3 L2.length cap3).ownBlock):=hgrow6;have hk6:w6.heap[b]?=w3.heap[b]?:=(hG6.out.block b (by simp;omega) (fun e=>hn3 e.symm)).trans (Below.heap_alloc _ _ _ hlk);have e9:w6.cell? ⟨b,o,I⟩=P (Z ad3 L2.length cap3):=(Y hk6).trans r0;have ef9:w6.frozen? ⟨b,o,I⟩=E:=(T hk6).trans rf;have hO6:Hid (w6.ownsRow 0 139 5 (Z (P ⟨g6,0,I⟩) (L2.length+1) cap6) (L2.length+1) (zL L2++[B J mp,B J ms,B J mf,B J mr,Q d])):=hown6;have hA6:Hid ((U ad3 L2.length cap3).ownBlock=P g6\/g6=w3.heap.size+1):=hat6;clear hown6 hgrow6 hat6 hk6)
   all_goals
    have hB6:But (fun j=>(U ad3 L2.length cap3).ownBlock=P j) w3 w6:=((But.refl _ w3).alloc _).drew.grown hG6.out (fun k hk=> .inr hk)
    have hr6:w6.ownsRow 0 139 5 (Z (P ⟨g6,0,I⟩) (L2.length+1) cap6) (L2++[Pg.Ln.mk ⟨mp,ms,mf,mr⟩ d]).length (zL (L2++[Pg.Ln.mk ⟨mp,ms,mf,mr⟩ d])):=by
     rw[xH,kJ];exact hO6.out
    have HF:Hid _:=HT3.out.put hB6 hr6 (fun j hj=>by
     rcases hA6.out with h|h
     ·exact .inl (h.trans hj)
     ·exact .inr (by simp[X]at hj;omega)) HK3.out
    clear hB6 hr6 hG6 hO6 hA6
    go_wp2_with fail
    go_ret
    obtain⟨f1,f2,f3⟩:=HF.out;refine⟨rfl,_,by rw[<-HL2.out];exact⟨_,f1,rfl⟩,HC3.out.trans f2 (fun i hi hg=>(HF3.out i hg).elim id (fun h=>by omega)),fun k hk=>(f3 k hk).elim (HF3.out k) (fun h=> .inr (by omega))⟩
 ·have hr:(l.m.code==0)=E:=by simp[hcode]
  have hne:(Pg.check l.m.p l.m.s l.m.f l.m.r !=0)=O:=by
   have:Pg.check l.m.p l.m.s l.m.f l.m.r≠0:=hcode
   simpa using this
  rw[hr,Pg.yk7 hcode];clear hcode hr h;obtain⟨⟨mp,ms,mf,mr⟩,d⟩:=l;simp only at HCK hne;simp only[Pg.Ln.val];generalize Pg.check mp ms mf mr=x at*
  go_enter Tryz.func146,Tryz.ntmps146
  go_wp2_with fail
  refine(HCK _).mono ?_;rintro e w1 ⟨rfl,hb1⟩;have HB:Hid (Below w.heap.size w w1):=zT (zA (zR _) _) hb1;clear hb1
  go_wp2_with fail
  go_ret
  exact⟨rfl,_,HX.out.grow HB.out,Chg.yhf HB.out hlb,fun k hk=> .inl hk⟩
end
end Go.Proofs.YtdphiompijbelaaGreat
namespace Go.Proofs.YtdphiompijbelaaGreat
open Go.RowKit
namespace Pg
def cmpI (x y:Int):Int:=if x<y then-1 else if y<x then 1 else 0
def lkP (q:Int) (x:Mp):Int:=if x.has q=O then 0 else cmpI q x.p
def lkM (m x:Mp):Int:=if x.meets m=O then 0 else cmpI m.p x.p
theorem yku {x y:Int}:0<cmpI x y ↔ y<x:=by unfold cmpI;split<;>(try split)<;>omega
theorem yjZ {x y:Int}:cmpI x y=0 ↔ y=x:=by unfold cmpI;split<;>(try split)<;>omega
theorem yil {x:Mp} {q:Int}:x.has q=O ↔ x.p<=q/\q-x.p<span x.s:=by simp[Mp.has,over]
theorem yh9 {a b:Mp}:a.meets b=O ↔ (a.p<=b.p/\b.p-a.p<span a.s)\/(b.p<=a.p/\a.p-b.p<span b.s):=by
 unfold Mp.meets;rw[yjS];simp
theorem yjQ {q:Int} {x:Mp}:0<lkP q x ↔ x.p+span x.s<=q/\x.p<q:=by
 unfold lkP
 by_cases h:x.has q=O
 ·rw[if_pos h]
  have:=yil.1 h;omega
 ·rw[if_neg h,yku]
  have:¬(x.p<=q/\q-x.p<span x.s):=fun a=>h (yil.2 a);have:=(yhx x.s).1;omega
theorem yjm {m x:Mp}:0<lkM m x ↔ x.p+span x.s<=m.p/\x.p<m.p:=by
 unfold lkM
 by_cases h:x.meets m=O
 ·rw[if_pos h]
  have:=yh9.1 h;omega
 ·rw[if_neg h,yku]
  have:¬((x.p<=m.p/\m.p-x.p<span x.s)\/(m.p<=x.p/\x.p-m.p<span m.s)):=fun a=>h (yh9.2 a);have:=(yhx x.s).1;omega
theorem yi5 {x:Mp} (h:x.code=0):1<=span x.s:=by
 have:=(yhs h).1;have:=(yhx x.s).1;omega
theorem ykG {q:Int} {x:Mp} (h:x.code=0):lkP q x=0 ↔ x.has q=O:=by
 have hs:=yi5 h;unfold lkP
 by_cases e:x.has q=O
 ·simp[e]
 ·rw[if_neg e,yjZ]
  constructor
  ·intro h;exact absurd (yil.2 ⟨by omega,by omega⟩) e
  ·intro h;exact absurd h e
theorem yjP {m x:Mp} (h:x.code=0):lkM m x=0 ↔ x.meets m=O:=by
 have hs:=yi5 h;unfold lkM
 by_cases e:x.meets m=O
 ·simp[e]
 ·rw[if_neg e,yjZ]
  constructor
  ·intro h;exact absurd (yh9.2 (.inl ⟨by omega,by omega⟩)) e
  ·intro h;exact absurd h e
theorem Good.two {L:List Mp} (h:Good L) {i j:Nat} (hij:i<j) (hj:j<L.length):(L.getD i .zz).p+span (L.getD i .zz).s<=(L.getD j .zz).p/\(L.getD i .zz).p<(L.getD j .zz).p:=by
 have hp:=List.pairwise_iff_getElem.1 h.up i j (by omega) hj hij;rw[yiN (by omega),yiN hj];obtain⟨h1,h2⟩:=hp
 have h3:¬((L[i].p<=L[j].p/\L[j].p-L[i].p<span L[i].s)\/(L[j].p<=L[i].p/\L[i].p-L[j].p<span L[j].s)):=fun a=>by
  rw[yh9.2 a]at h2;cases h2
 omega
theorem Good.at {L:List Mp} (h:Good L) {i:Nat} (hi:i<L.length):(L.getD i .zz).code=0:=by
 rw[yiN hi];exact h.ok _ (kC _)
def cut (L:List Mp) (lk:Mp->Int):Nat:=L.findIdx fun m=>decide (lk m<=0)
theorem yj1 (L:List Mp) (lk:Mp->Int):cut L lk<=L.length:=List.findIdx_le_length
theorem yip {L:List Mp} {lk:Mp->Int} {t:Nat} (h:t<cut L lk):0<lk (L.getD t .zz):=by
 have hl:=yj1 L lk;have:=List.not_of_lt_findIdx h;rw[yiN (by omega)];simp at this;exact this
theorem ykv {L:List Mp} {lk:Mp->Int} (h:cut L lk<L.length):lk (L.getD (cut L lk) .zz)<=0:=by
 have h1:L.findIdx (fun m=>decide (lk m<=0))<L.length:=h;have h2:=List.findIdx_getElem (w:=h1);rw[yiN h];exact of_decide_eq_true h2
def ylj (L:List Mp) (lk:Mp->Int):Prop:=∀i j,i<j->j<L.length->0<lk (L.getD j .zz)->0<lk (L.getD i .zz)
theorem cut_behind {L:List Mp} {lk:Mp->Int} (hf:ylj L lk) {t:Nat} (h:cut L lk<=t) (ht:t<L.length):lk (L.getD t .zz)<=0:=by
 have h0:=ykv (L:=L) (lk:=lk) (by omega)
 by_cases e:cut L lk=t
 ·rw[<-e];exact h0
 ·have:=hf (cut L lk) t (by omega) ht
  omega
theorem Good.fallsP {L:List Mp} (h:Good L) (q:Int):ylj L (lkP q):=by
 intro i j hij hj hp;have:=h.two hij hj;rw[yjQ]at hp ⊢;have:=(yhx (L.getD j .zz).s).1;omega
theorem Good.fallsM {L:List Mp} (h:Good L) (m:Mp):ylj L (lkM m):=by
 intro i j hij hj hp;have:=h.two hij hj;rw[yjm]at hp ⊢;have:=(yhx (L.getD j .zz).s).1;omega
def hit (L:List Mp) (lk:Mp->Int):Bool:=decide (cut L lk<L.length)&&(lk (L.getD (cut L lk) .zz)==0)
theorem yis {L:List Mp} {lk:Mp->Int}:hit L lk=O ↔ cut L lk<L.length/\lk (L.getD (cut L lk) .zz)=0:=by simp[hit]
theorem yki {L:List Mp} (h:Good L) (q:Int):fnd L q=if hit L (lkP q)=O then P (cut L (lkP q))else I:=by
 split
 ·rename_i hh
  obtain⟨h1,h2⟩:=yis.1 hh;refine fnd_of h1 ((ykG (h.at h1)).1 h2) fun j hj=> ?_;have h3:=yjQ.1 (yip hj);cases e:(L.getD j .zz).has q
  ·rfl
  ·have:=yil.1 e;omega
 ·rename_i hh
  refine fnd_no fun j hj=> ?_;cases e:(L.getD j .zz).has q
  ·rfl
  ·exfalso
   have he:=yil.1 e
   have hc:cut L (lkP q)<=j:=by
    refine kR fun hlt=> ?_;have:=yjQ.1 (yip hlt);omega
   refine hh (yis.2 ⟨by omega,?_⟩);have h0:=ykv (L:=L) (lk:=lkP q) (by omega);rw[ykG (h.at (by omega))]
   by_cases e2:cut L (lkP q)=j
   ·rw[e2];exact e
   ·have:=h.two (i:=cut L (lkP q)) (j:=j) (by omega) hj
    have hn:¬0<lkP q (L.getD (cut L (lkP q)) .zz):=by omega
    rw[yjQ]at hn;rw[yil];omega
theorem any_hit {L:List Mp} (h:Good L) {m:Mp} (hm:m.code=0):(L.any fun x=>x.meets m)=hit L (lkM m):=by
 have hs:=yi5 hm;cases hh:hit L (lkM m)
 ·rw[List.any_eq_false]
  intro x hx e;obtain⟨j,hj,rfl⟩:=List.mem_iff_getElem.1 hx;rw[<-yiN hj]at e;have he:=yh9.1 e
  have hc:cut L (lkM m)<=j:=by
   refine kR fun hlt=> ?_;have:=yjm.1 (yip hlt);omega
  have h0:=ykv (L:=L) (lk:=lkM m) (by omega)
  have:hit L (lkM m)=O:=by
   refine yis.2 ⟨by omega,?_⟩;rw[yjP (h.at (by omega))]
   by_cases e2:cut L (lkM m)=j
   ·rw[e2];exact e
   ·have:=h.two (i:=cut L (lkM m)) (j:=j) (by omega) hj
    have hn:¬0<lkM m (L.getD (cut L (lkM m)) .zz):=by omega
    rw[yjm]at hn;have s1:=yi5 (h.at (i:=cut L (lkM m)) (by omega));have s2:=yi5 (h.at hj);rw[yh9];omega
  rw[hh]at this;cases this
 ·obtain⟨h1,h2⟩:=yis.1 hh
  rw[List.any_eq_true];refine⟨L.getD (cut L (lkM m)) .zz,by rw[yiN h1];exact kC _,(yjP (h.at h1)).1 h2⟩
theorem yll {m:Mp}:∀{L:List Mp} {k:Nat},k<=L.length->(∀t,t<k->¬m.p<(L.getD t .zz).p)->(k<L.length->m.p<(L.getD k .zz).p)->ins m L=L.take k++m::L.drop k
 | [],k,hk,_,_=>by
   have:k=0:=by simpa using hk
   subst this;rfl
 | x::r,0,_,_,h2=>by
   have:m.p<x.p:=by simpa using h2 (by simp)
   simp[ins,this]
 | x::r,k+1,hk,h1,h2=>by
   have h0:¬m.p<x.p:=by simpa using h1 0 (by omega)
   have:=yll (m:=m) (L:=r) (k:=k) (by simpa using hk) (fun t ht=>by simpa using h1 (t+1) (by omega)) (fun h=>by simpa using h2 (by simpa using h));simp[ins,h0,this]
theorem ins_cut {L:List Mp} (h:Good L) {m:Mp} (hh:hit L (lkM m)=E):ins m L=L.take (cut L (lkM m))++m::L.drop (cut L (lkM m)):=by
 refine yll (yj1 _ _) (fun t ht=> ?_) (fun hl=> ?_)
 ·have:=yjm.1 (yip ht)
  omega
 ·have h0:=ykv (L:=L) (lk:=lkM m) hl
  have h1:¬lkM m (L.getD (cut L (lkM m)) .zz)=0:=fun e=>by
   rw[yis.2 ⟨hl,e⟩]at hh;cases hh
  have h2:¬0<lkM m (L.getD (cut L (lkM m)) .zz):=by omega
  rw[yjP (h.at hl),yh9]at h1;rw[yjm]at h2;have:=yi5 (h.at hl);omega
end Pg
open Go.RowKit Go.Sort
set_option linter.unusedVariables false
set_option maxRecDepth 100000
theorem ybz {vb:Value} {L:List Pg.Mp} (w:V) (hr:w.ownsRow 0 39 4 vb L.length (zC L)) (hlen:L.length<=4096):
 Calls S 194 #[vb] w fun e w'=>∃v',e=C v'/\w'.ownsRow w.heap.size 39 4 v' L.length (zC L)/\Below w.heap.size w w':=by
 have q58:∀(w:V) (a:Option Addr) (n c n' c':Nat),(binOp .eql 44 (Z a n c) (Z I n' c')).run S w= .ok (Q a.isNone) w:=fun w a n c n' c'=>Lib.run_eql_slice_nil w _ _ a n c n' c' Tryz.underlying44;rcases hr.2 with ⟨rfl,h0⟩|⟨g,cap,cur,rfl,_,hg,hrest⟩
 ·have hL:L=[]:=A.1 h0
  subst hL;clear hr
  go_enter Tryz.func194,Tryz.ntmps194
  go_wp2_with fail
  go_ret
  exact⟨_,rfl,kP _ _ _ _,zR _⟩
 ·obtain⟨q0,hqi,hz0,hz1,hz2⟩:=info_parts js
  have hcells:Hid _:=hr.cells (g:=g) rfl;have hgl:g<w.heap.size:=(Array.getElem?_eq_some_iff.1 hg).1;clear hr hg hrest
  go_enter Tryz.func194,Tryz.ntmps194
  go_wp2_with (at_builtin;refine wpList_append_own _ rfl _ _ 44 rfl w.heap.size 39 q0 _ 4 32 Tryz.underlying44 hqi hz0 hz1 hz2 rfl (by decide) _ _ _ rfl (World.ownsRow_made w #[] 0 (D _) (H _) (by simp)) ⟨g,0,I⟩ L.length cap (zC L) rfl (xW L) ?c1 (qO L) ?c3 ?c4 ?c5 ?_)
  case c1=>
   intro j u hj;have:=hcells.out j u hj;exact(Below.cell (p:=(⟨g,0,I⟩:Addr).add j) (zA (zR w) _) (N _ _ this)).trans this
  case c3=>unfold maxLen;omega
  case c4=>omega
  case c5=>simp
  intro v' w1 hown hgrow hnil
  have hown':Hid (w1.ownsRow w.heap.size 39 4 v' L.length (zC L)):=by simpa[Hid]using hown
  have hb:Hid (Below w.heap.size w w1):=((But.refl (fun _=>False) w).alloc _).grown hgrow (fun k hk=> .inl (by simp[X]at hk;omega))|>.below (D _) (fun _ h=>h.elim);clear hown hgrow hnil
  go_wp2_with fail
  go_ret
  exact⟨v',rfl,hown'.out,hb.out⟩
theorem vG (x:Int) (w:V):Calls S 232 #[B J x] w fun e w'=>e=C (Q E)/\w'=w:=by
 go_enter Tryz.func232,Tryz.ntmps232
 go_wp2
 go_ret
 exact⟨xx (by simp),rfl⟩
theorem vv (x y:Int) (w:V):Calls S 218 #[B J x,B J y] w fun e w'=>e=C (B J (Pg.cmpI x y))/\w'=w:=by
 by_cases h1:x<y
 ·have HC:Hid (Pg.cmpI x y= -1):=by simp[Hid,Pg.cmpI,h1]
  go_enter Tryz.func218,Tryz.ntmps218
  go_wp2_with (go_at_call 232;refine(vG _ _).mono ?_;rintro e w' ⟨rfl,rfl⟩)
  go_ret
  exact⟨zJ HC.out.symm,rfl⟩
 ·by_cases h2:y<x
  ·have HC:Hid (Pg.cmpI x y=1):=by simp[Hid,Pg.cmpI,h1,h2]
   go_enter Tryz.func218,Tryz.ntmps218
   go_wp2_with (go_at_call 232;refine(vG _ _).mono ?_;rintro e w' ⟨rfl,rfl⟩)
   go_ret
   exact⟨zJ HC.out.symm,rfl⟩
  ·have HC:Hid (Pg.cmpI x y=0):=by simp[Hid,Pg.cmpI,h1,h2]
   go_enter Tryz.func218,Tryz.ntmps218
   go_wp2_with (go_at_call 232;refine(vG _ _).mono ?_;rintro e w' ⟨rfl,rfl⟩)
   go_ret
   exact⟨zJ HC.out.symm,rfl⟩
theorem yfl (g:FuncId) (cb:Array Value) (n k:Nat) (c:Nat->Int) (w:V) (eg:∀args w,(callFunc g args).run S w= .ok (.enter g args) w) (hn:n<=4096) (hk:k<=n)
 (h1:∀t,t<k->0<c t) (h2:∀t,k<=t->t<n->c t<=0)
 (hf:∀(i:Nat) (w':V),i<n->Below w.heap.size w w'->Calls S g (#[B J i]++cb) w' fun e w''=>e=C (B J (c i))/\Below w'.heap.size w' w''):
 Calls S 230 #[B J n,.func (.func g) #[] cb] w fun e w'=>e=C (kI #[B J k,Q (decide (k<n)&&(c k==0))])/\Below w.heap.size w w':=by
 have HF:Hid _:=hf;have H1:Hid _:=h1;have H2:Hid _:=h2;clear hf h1 h2
 go_enter Tryz.func230,Tryz.ntmps230
 go_wp2_with fail
 go_loopg [4,6] n (fun kx s4 s6 wr=>∃lo hi:Nat,s4=B J lo/\s6=B J hi/\lo<=k/\k<=hi/\hi<=n/\hi-lo<=kx/\Hid (Below w.heap.size w wr))
 case atStart=>exact⟨0,n,rfl,rfl,H _,hk,D _,by omega,zR w⟩
 case round=>
  obtain⟨lo,hi,rfl,rfl,hlk,hkh,hhn,hm,HB⟩:=hrel
  by_cases hlt:lo<hi
  ·have hc:=HF.out ((lo+hi)/2) wr (by omega) HB.out
   rw[show(((lo+hi)/2:Nat):Int)=((lo:Int)+(hi:Int))/2 by omega]at hc;have h3:=H1.out ((lo+hi)/2);have h4:=H2.out ((lo+hi)/2);generalize c ((lo+hi)/2)=x at*
   by_cases hx:0<x
   ·have hlt2:(lo+hi)/2<k:=by omega
    clear h3 h4
    go_wp2_with (go_at_fn g;refine hc.mono ?_;rintro e w' ⟨rfl,hb⟩)
    go_roundg (hi-((lo+hi)/2+1))
    case measure=>omega
    case rel=>exact⟨(lo+hi)/2+1,hi,by rw[show((lo:Int)+(hi:Int))/2+1=(((lo+hi)/2+1:Nat):Int) by omega],rfl,by omega,hkh,hhn,D _,zT HB.out hb⟩
   ·have hle:k<=(lo+hi)/2:=by omega
    clear h3 h4
    go_wp2_with (go_at_fn g;refine hc.mono ?_;rintro e w' ⟨rfl,hb⟩)
    go_roundg ((lo+hi)/2-lo)
    case measure=>omega
    case rel=>exact⟨lo,(lo+hi)/2,rfl,by rw[show((lo:Int)+(hi:Int))/2=(((lo+hi)/2:Nat):Int) by omega],hlk,hle,by omega,D _,zT HB.out hb⟩
  ·have e1:lo=k:=by omega
   have e2:hi=k:=by omega
   subst e1 e2
   by_cases hkn:hi<n
   ·have hc:=HF.out hi wr hkn HB.out
    have HE:Hid (decide (hi<n)=O):=by simp[Hid,hkn]
    go_wp2_with (go_at_fn g;refine hc.mono ?_;rintro e w' ⟨rfl,hb⟩)
    go_ret2
    exact⟨by rw[HE.out];rfl,zT HB.out hb⟩
   ·have HE:Hid (decide (hi<n)=E):=by simp[Hid,hkn]
    go_wp2_with fail
    go_ret2
    exact⟨by rw[HE.out];rfl,HB.out⟩
theorem yag:∀args w,(callFunc 231 args).run S w= .ok (.enter 231 args) w:=fun args w=>by simp[go_sem]
structure Dbk (w:V) (b:Nat) (vb:Value) (L:List Pg.Mp):Prop where
 c0:w.cell? ⟨b,0,I⟩=P vb
 fb:∀o,w.frozen? ⟨b,o,I⟩=E
 row:w.ownsRow 0 39 4 vb L.length (zC L)
 nb:vb.ownBlock≠P b
 good:Pg.Good L
namespace Dbk
variable {w w':V} {b:Nat} {vb vb':Value} {L L':List Pg.Mp}
theorem lb (h:Dbk w b vb L):b<w.heap.size:=N _ _ h.c0
theorem lt (h:Dbk w b vb L) {k:Nat} (hk:bkF b vb k):k<w.heap.size:=by
 rcases hk with rfl|hk
 ·exact h.lb
 ·exact(h.row.lt k hk).2
theorem keep (h:Dbk w b vb L) {F:Nat->Prop} (hb:But F w w') (hF:∀k,bkF b vb k->¬F k):Dbk w' b vb L:=by
 have kb:=hb.block b h.lb (hF b (.inl rfl));exact⟨(Y kb).trans h.c0,fun o=>(T kb).trans (h.fb o),zc h.row hb fun k hk=>hF k (.inr hk),h.nb,h.good⟩
theorem grow (h:Dbk w b vb L) (hb:Below w.heap.size w w'):Dbk w' b vb L:=h.keep (F:=fun _=>False) (But.yhf hb) (fun _ _=>id)
theorem mp (h:Dbk w b vb L) {j:Nat} (hj:j<L.length):∃g cap,vb=Z (P ⟨g,0,I⟩) L.length cap/\g<w.heap.size/\ybv w g (j*4) (L.getD j .zz):=by
 obtain⟨g,cap,rfl,_,hg⟩:=h.row.form (by omega);obtain⟨g',e,_,hm⟩:=jv h.row j hj;cases e;exact⟨g,cap,rfl,hg,hm⟩
end Dbk
theorem ycV {b bl bb:Nat} {vb:Value} {L:List Pg.Mp} (f:FuncId) (cb:Array Value) (lk:Pg.Mp->Int) (j:Nat) (w:V) (hD:Dbk w b vb L) (hj:j<L.length)
 (hl:w.cell? ⟨bl,0,I⟩=P (.func (.func f) #[] cb)) (hb:w.cell? ⟨bb,0,I⟩=P (R (P ⟨b,0,I⟩))) (ef:∀args w,(callFunc f args).run S w= .ok (.enter f args) w)
 (hf:∀(m:Pg.Mp) (w':V),Pg.fits m.p->Below w.heap.size w w'->Calls S f (#[m.val]++cb) w' fun e w''=>e=C (B J (lk m))/\Below w'.heap.size w' w''):
 Calls S 231 #[B J j,R (P ⟨bl,0,I⟩),R (P ⟨bb,0,I⟩)] w fun e w'=>e=C (B J (lk (L.getD j .zz)))/\Below w.heap.size w w':=by
 obtain⟨g,cap,rfl,hg,hm0,hm1,hm2,hm3⟩:=hD.mp hj;have hc0:=hD.c0;have hlen:=hD.good.len;have hfit:=(Pg.yjT (hD.good.at hj)).2.2.1
 have i0:(0:Int)<=(j:Int):=by omega
 have i1:(j:Int)<(L.length:Int):=by omega
 have HF:Hid _:=fun w' hb=>hf (L.getD j .zz) w' hfit hb;clear hf hD;generalize L.getD j .zz=m at*;generalize L.length=n at*;have hcall:∀d os,Calls S f (#[m.val]++cb) (grow (redrawn w d) os) fun e w''=>e=C (B J (lk m))/\Below (grow (redrawn w d) os).heap.size (grow (redrawn w d) os) w'':=fun d os=>HF.out _ (below_regrown w d os);obtain⟨mp,ms,mf,mr⟩:=m;simp only[Pg.Mp.val]at hcall;simp only at hm0 hm1 hm2 hm3;generalize lk ⟨mp,ms,mf,mr⟩=x at*;have C0:=cell_regrown hc0;have C1:=cell_regrown hl;have C2:=cell_regrown hb;have M0:=cell_regrown hm0;have M1:=cell_regrown hm1;have M2:=cell_regrown hm2;have M3:=cell_regrown hm3;clear hc0 hl hb hm0 hm1 hm2 hm3
 go_enter Tryz.func231,Tryz.ntmps231
 go_wp2_with fail
 refine wp_region_quiet_below (by kernel_rfl) (by kernel_rfl) ?_
 repeat' (first
  | go_big_quiet_step ((go_at_fn f;exact Calls.regrown_of (hcall _ _))))
 refine wpQuiet_nil ?_;intro _ hw';obtain⟨⟨dq,osq⟩,rfl⟩:=hw'
 go_wp2_with fail
 go_ret
 exact⟨rfl,below_regrown w dq osq⟩
theorem yaU {b:Nat} {vb:Value} {L:List Pg.Mp} (f:FuncId) (cb:Array Value) (lk:Pg.Mp->Int) (w:V) (hD:Dbk w b vb L) (hfall:Pg.ylj L lk) (ef:∀args w,(callFunc f args).run S w= .ok (.enter f args) w)
 (hf:∀(m:Pg.Mp) (w':V),Pg.fits m.p->Below w.heap.size w w'->Calls S f (#[m.val]++cb) w' fun e w''=>e=C (B J (lk m))/\Below w'.heap.size w' w''):
 Calls S 216 #[R (P ⟨b,0,I⟩),.func (.func f) #[] cb] w fun e w'=>e=C (kI #[B J (Pg.cut L lk),Q (Pg.hit L lk)])/\Below w.heap.size w w':=by
 have hc0:=hD.c0;have hlb:=hD.lb;have hlen:=hD.good.len;obtain⟨ad,cap,rfl⟩:=zF hD.row;obtain⟨W,hW⟩:∃W,W=(w.alloc (M #[R (P ⟨b,0,I⟩)] 86)).alloc (M #[.func (.func f) #[] cb] 149):=⟨_,rfl⟩
 have hB:Below w.heap.size w W:=by rw[hW];exact zA (zA (zR _) _) _
 have k0:W.cell? ⟨b,0,I⟩=P (Z ad L.length cap):=(hB.cell (p:=⟨b,0,I⟩) hlb).trans hc0
 have k1:W.cell? ⟨w.heap.size,0,I⟩=P (R (P ⟨b,0,I⟩)):=by rw[hW];simp[go_sem]
 have k2:W.cell? ⟨w.heap.size+1,0,I⟩=P (.func (.func f) #[] cb):=by rw[hW];simp[go_sem]
 have hDW:=hD.grow hB
 have HS:Hid _:=yfl 231 #[R (P ⟨w.heap.size+1,0,I⟩),R (P ⟨w.heap.size,0,I⟩)] L.length (Pg.cut L lk) (fun j=>lk (L.getD j .zz)) W yag hlen (Pg.yj1 _ _) (fun t ht=>Pg.yip ht) (fun t h1 h2=>Pg.cut_behind hfall h1 h2)
  (fun i w' hi hb=>ycV f cb lk i w' (hDW.grow hb) hi (cell_later hb k2) (cell_later hb k1) ef (fun m w'' hm hb'=>hf m w'' hm (zT (zT hB hb) hb')))
 have HB:Hid _:=hB;clear hf hfall hD hDW hB k0 k1 k2
 go_enter Tryz.func216,Tryz.ntmps216
 go_wp2_with fail
 rw[<-hW];refine Calls.mono HS.out ?_;rintro e w1 ⟨rfl,hb1⟩
 go_wp2_with fail
 go_ret2
 exact⟨rfl,zT HB.out hb1⟩
theorem ycG {bq:Nat} (q:Int) (hq:Pg.fits q) (m:Pg.Mp) (hm:Pg.fits m.p) (w:V) (hc:w.cell? ⟨bq,0,I⟩=P (B J q)):
 Calls S 221 #[m.val,R (P ⟨bq,0,I⟩)] w fun e w'=>e=C (B J (Pg.lkP q m))/\Below w.heap.size w w':=by
 obtain⟨p,s,f,r⟩:=m;have hbq:=N _ _ hc;have HL:Hid (Pg.lkP q ⟨p,s,f,r⟩=if Pg.over p s q=O then 0 else Pg.cmpI q p):=rfl;simp only[Pg.Mp.val];cases h:Pg.over p s q
 ·go_enter Tryz.func221,Tryz.ntmps221
  go_wp2_with fail
  refine(jb _ _ _ _ _ hm hq _).mono ?_;rintro e w1 ⟨rfl,hb1⟩;rw[h];have hbx:Below w.heap.size w w1:=zT (zA (zR _) _) hb1;have c1:=cell_later hbx hc;have c2:w1.cell? ⟨w.heap.size,0,I⟩=P (B J p):=(hb1.cell (p:=⟨w.heap.size,0,I⟩) (by simp)).trans (by simp[go_sem]);have HB:Hid _:=hbx;clear hb1 hbx
  go_wp2_with (go_at_call 218;refine(vv _ _ _).mono ?_;rintro e w' ⟨rfl,rfl⟩)
  go_ret
  exact⟨zJ (by rw[HL.out,h];rfl),HB.out⟩
 ·go_enter Tryz.func221,Tryz.ntmps221
  go_wp2_with fail
  refine(jb _ _ _ _ _ hm hq _).mono ?_;rintro e w1 ⟨rfl,hb1⟩;rw[h];have HB:Hid (Below w.heap.size w w1):=zT (zA (zR _) _) hb1;clear hb1
  go_wp2_with fail
  go_ret
  exact⟨zJ (by rw[HL.out,h];rfl),HB.out⟩
theorem ybT {bm:Nat} (m x:Pg.Mp) (hm:Pg.fits m.p) (hx:Pg.fits x.p) (w:V) (hc:ybv w bm 0 m):
 Calls S 217 #[x.val,R (P ⟨bm,0,I⟩)] w fun e w'=>e=C (B J (Pg.lkM m x))/\Below w.heap.size w w':=by
 obtain⟨p,s,f,r⟩:=x;obtain⟨p',s',f',r'⟩:=m;obtain⟨c0,c1,c2,c3⟩:=hc;simp only[Nat.zero_add]at c0 c1 c2 c3;have hbq:=N _ _ c0;have HL:Hid (Pg.lkM ⟨p',s',f',r'⟩ ⟨p,s,f,r⟩=if Pg.meet p s p' s'=O then 0 else Pg.cmpI p' p):=rfl;simp only[Pg.Mp.val];cases h:Pg.meet p s p' s'
 ·go_enter Tryz.func217,Tryz.ntmps217
  go_wp2_with fail
  refine(ybh _ _ _ _ _ _ _ _ hx hm _).mono ?_;rintro e w1 ⟨rfl,hb1⟩;rw[h];have hbx:Below w.heap.size w w1:=zT (zA (zR _) _) hb1;have c1:=cell_later hbx c0;have c2:w1.cell? ⟨w.heap.size,0,I⟩=P (B J p):=(hb1.cell (p:=⟨w.heap.size,0,I⟩) (by simp)).trans (by simp[go_sem]);have HB:Hid _:=hbx;clear hb1 hbx
  go_wp2_with (go_at_call 218;refine(vv _ _ _).mono ?_;rintro e w' ⟨rfl,rfl⟩)
  go_ret
  exact⟨zJ (by rw[HL.out,h];rfl),HB.out⟩
 ·go_enter Tryz.func217,Tryz.ntmps217
  go_wp2_with fail
  refine(ybh _ _ _ _ _ _ _ _ hx hm _).mono ?_;rintro e w1 ⟨rfl,hb1⟩;rw[h];have HB:Hid (Below w.heap.size w w1):=zT (zA (zR _) _) hb1;clear hb1
  go_wp2_with fail
  go_ret
  exact⟨zJ (by rw[HL.out,h];rfl),HB.out⟩
theorem jQ {b:Nat} {vb:Value} {L:List Pg.Mp} (q:Int) (hq:Pg.fits q) (w:V) (hD:Dbk w b vb L):
 Calls S 192 #[R (P ⟨b,0,I⟩),B J q] w fun e w'=>e=C (kI #[B J (Pg.cut L (Pg.lkP q)),Q (Pg.hit L (Pg.lkP q))])/\Below w.heap.size w w':=by
 obtain⟨W,hW⟩:∃W,W=w.alloc (M #[B J q] 3):=⟨_,rfl⟩
 have hB:Below w.heap.size w W:=by rw[hW];exact zA (zR _) _
 have k1:W.cell? ⟨w.heap.size,0,I⟩=P (B J q):=by rw[hW];simp[go_sem]
 have HS:Hid _:=yaU 221 #[R (P ⟨w.heap.size,0,I⟩)] (Pg.lkP q) W (hD.grow hB) (hD.good.fallsP q) (fun args w=>by simp[go_sem]) (fun m w' hm hb=>ycG q hq m hm w' (cell_later hb k1));have HB:Hid _:=hB;clear hD hB k1
 go_enter Tryz.func192,Tryz.ntmps192
 go_wp2_with fail
 rw[<-hW];refine Calls.mono HS.out ?_;rintro e w1 ⟨rfl,hb1⟩
 go_wp2_with fail
 go_ret2
 exact⟨rfl,zT HB.out hb1⟩
theorem ycM {b:Nat} {vb:Value} {L:List Pg.Mp} (m:Pg.Mp) (hm:Pg.fits m.p) (w:V) (hD:Dbk w b vb L):
 Calls S 190 #[R (P ⟨b,0,I⟩),m.val] w fun e w'=>e=C (kI #[B J (Pg.cut L (Pg.lkM m)),Q (Pg.hit L (Pg.lkM m))])/\Below w.heap.size w w':=by
 obtain⟨W,hW⟩:∃W,W=w.alloc (M #[B J m.p,B J m.s,B J m.f,B J m.r] 39):=⟨_,rfl⟩
 have hB:Below w.heap.size w W:=by rw[hW];exact zA (zR _) _
 have k1:ybv W w.heap.size 0 m:=by rw[hW];exact⟨by simp[go_sem],by simp[go_sem],by simp[go_sem],by simp[go_sem]⟩
 have hlt:w.heap.size<W.heap.size:=by rw[hW];simp
 have HS:Hid _:=yaU 217 #[R (P ⟨w.heap.size,0,I⟩)] (Pg.lkM m) W (hD.grow hB) (hD.good.fallsM m) (fun args w=>by simp[go_sem]) (fun x w' hx hb=>ybT m x hm hx w' (k1.below hb hlt));have HB:Hid _:=hB;clear hD hB k1;obtain⟨mp,ms,mf,mr⟩:=m;simp only[Pg.Mp.val];simp only at hW
 go_enter Tryz.func190,Tryz.ntmps190
 go_wp2_with fail
 rw[<-hW];refine Calls.mono HS.out ?_;rintro e w1 ⟨rfl,hb1⟩
 go_wp2_with fail
 go_ret2
 exact⟨rfl,zT HB.out hb1⟩
end Go.Proofs.YtdphiompijbelaaGreat
