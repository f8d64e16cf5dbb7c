import Derived.Test.YtdphiompijbelaaGreatDoorTabN
import Derived.ChangeKeysEq
import Derived.Test.YtdphiompijbelaaGreatDoorPlainSD
set_option linter.all false
set_option maxRecDepth 100000
open Go.Obj renaming cells->D
open Nat renaming lt_of_lt_of_le->E,le_refl->kV,zero_add->kQ,le_succ->kU,zero_le->kO
open Go.RowKit renaming Hid->O
open Go.Ending renaming returned->U
open Go.Proofs.Tryz renaming prog->Q
open Go renaming World->V,bodyPost_ret->z,heap_alloc_new->kI,Calls->kJ,Value->kC,cell_later->kK
open Bool renaming false->T,true->kS
open Go.World renaming cell?_setCell_other->P,cell?_of_block->Y,frozen?_of_block->Z,block_lt_of_cell?->A,cell?_setCell_same->kN,frozen?->kY,news_of_block->kT
open Go.Value renaming int->B,bool->R,pointer->M,slice->H,slice->kB,tuple->kP,ownBlock->kR,int->kF,agg->kZ
open Go.IntKind renaming i64->J
open Option renaming none->I,some->N
set_option maxHeartbeats 4000000
namespace Go.Proofs.YtdphiompijbelaaGreatDoor
open Go.RowKit Go.Sort
section
structure Chg (b o:Nat) (F:Nat->Prop) (w w':V):Prop where
 but:But F w w'
 oth:∀p,p≠o->w'.cell? ⟨b,p,I⟩=w.cell? ⟨b,p,I⟩
theorem Chg.yhl {b o:Nat} {F:Nat->Prop} {w w':V} (h:Below w.heap.size w w') (hb:b<w.heap.size):Chg b o F w w':=⟨But.yhl h,fun p _=>h.cell (p:=⟨b,p,I⟩) hb⟩
theorem Chg.trans {b o:Nat} {F G:Nat->Prop} {w w1 w2:V} (h:Chg b o F w w1) (k:Chg b o G w1 w2) (hG:∀i,i<w.heap.size->G i->F i):Chg b o F w w2:=
 ⟨h.but.trans k.but hG,fun p hp=>(k.oth p hp).trans (h.oth p hp)⟩
structure Tbk (w:V) (b o:Nat) (vb:kC) (L:List Pg.Ln):Prop where
 c0:w.cell? ⟨b,o,I⟩=N vb
 fb:∀p,w.frozen? ⟨b,p,I⟩=T
 row:w.ownsRow 0 159 5 vb L.length (zL L)
 nb:vb.ownBlock≠N b
 kept:Pg.Kept L
namespace Tbk
variable {w w' W:V} {b o:Nat} {vb v':kC} {L L':List Pg.Ln}
theorem lb (h:Tbk w b o vb L):b<w.heap.size:=A _ _ h.c0
theorem lt (h:Tbk w b o vb L) {k:Nat} (hk:bkF b vb k):k<w.heap.size:=by
 rcases hk with rfl|hk
 ·exact h.lb
 ·exact(h.row.lt k hk).2
theorem keep (h:Tbk w b o vb L) {F:Nat->Prop} (hb:But F w w') (hF:∀k,bkF b vb k->¬F k):Tbk w' b o vb L:=by
 have kb:=hb.block b h.lb (hF b (.inl rfl));exact⟨(Y kb).trans h.c0,fun p=>(Z kb).trans (h.fb p),zb h.row hb fun k hk=>hF k (.inr hk),h.nb,h.kept⟩
theorem grow (h:Tbk w b o vb L) (hb:Below w.heap.size w w'):Tbk w' b o vb L:=h.keep (F:=fun _=>False) (But.yhl hb) (fun _ _=>id)
theorem put (h:Tbk w b o vb L) (hb:But (fun j=>vb.ownBlock=N j) w W) (hr:W.ownsRow 0 159 5 v' L'.length (zL L')) (hv:∀j,v'.ownBlock=N j->vb.ownBlock=N j\/w.heap.size<=j) (hg:Pg.Kept L'):
 Tbk (W.setCell ⟨b,o,I⟩ v') b o v' L'/\Chg b o (bkF b vb) w (W.setCell ⟨b,o,I⟩ v')/\(∀k,bkF b v' k->bkF b vb k\/w.heap.size<=k):=by
 have hl:=h.lb;have kb:W.heap[b]?=w.heap[b]?:=hb.block b hl h.nb;have hc:W.cell? ⟨b,o,I⟩=N vb:=(Y (a:=⟨b,o,I⟩) kb).trans h.c0;have hne:v'.ownBlock≠N b:=fun e=>(hv b e).elim h.nb (fun h=>by omega);refine⟨⟨kN _ _ _ hc,fun p=> ?_,?_,hne,hg⟩,⟨?_,fun p hp=> ?_⟩,fun k hk=> ?_⟩
 ·have:=(Z (a:=⟨b,p,I⟩) kb).trans (h.fb p)
  simpa using this
 ·exact zc hr fun k hk=>Below.heap_setCell _ _ _ _ (fun e=>hne (by rw[hk];exact congrArg N e))
 ·exact(hb.mono (G:=bkF b vb) fun i _ hi=> .inr hi).setCell (a:=⟨b,o,I⟩) (.inr (.inl rfl)) _
 ·rw[P _ _ _ _ (fun e=>hp (by injection e with _ e;exact e.symm))]
  exact Y (a:=⟨b,p,I⟩) kb
 ·rcases hk with rfl|hk
  ·exact .inl (.inl rfl)
  ·exact(hv k hk).imp .inr id
end Tbk
structure jy (w:V) (b o:Nat) (L:List Pg.Ln) (F:Nat->Prop):Prop where
 ex:∃vb,Tbk w b o vb L/\F=bkF b vb
section
variable {w w':V} {b o:Nat} {L:List Pg.Ln} {F G:Nat->Prop}
theorem jy.lt (h:jy w b o L F) {k:Nat} (hk:F k):k<w.heap.size:=by
 obtain⟨vb,h,rfl⟩:=h;exact h.lt hk
theorem jy.kept (h:jy w b o L F):Pg.Kept L:=by
 obtain⟨vb,h,rfl⟩:=h;exact h.kept
theorem jy.keep (h:jy w b o L F) (hb:But G w w') (hF:∀k,F k->¬G k):jy w' b o L F:=by
 obtain⟨vb,h,rfl⟩:=h;exact⟨vb,h.keep hb hF,rfl⟩
theorem jy.grow (h:jy w b o L F) (hb:Below w.heap.size w w'):jy w' b o L F:=h.keep (G:=fun _=>False) (But.yhl hb) (fun _ _=>id)
end
theorem ygd {w:V} {vb:kC} {L:List Pg.Ln} {t:TypeId} (hr:w.ownsRow 0 159 5 vb L.length (zL L)) (hg:Pg.Kept L):Tbk (w.alloc (D #[vb] t)) w.heap.size 0 vb L:=by
 have hb:=kI w (D #[vb] t);refine⟨cell_of_row _ _ 0 _ _ _ hb,fun o=>by unfold kY;simp only[hb];simp,hr.alloc _,fun e=> ?_,hg⟩;have:=(hr.lt _ e).2;omega
theorem yer (w:V):
 kJ Q 170 #[] w fun e w'=>∃b F,e=U (M (N ⟨b,0,I⟩))/\jy w' b 0 [] F/\Below w.heap.size w w'/\∀k,F k->w.heap.size<=k:=by
 go_enter Tryz.func170,Tryz.ntmps170
 go_wp2_with fail
 go_ret
 refine⟨_,_,rfl,⟨kB I 0 0,ygd (World.ownsRow_nil _ _ _ _) Pg.Kept.nil,rfl⟩,zA (zR _) _,fun k hk=> ?_⟩;rcases hk with rfl|hk
 ·exact kV _
 ·simp[kR]at hk
section
variable {b o:Nat} {L:List Pg.Ln} {F:Nat->Prop}
theorem yaD (w:V) (h:jy w b o L F):
 kJ Q 112 #[M (N ⟨b,o,I⟩)] w fun e w'=>∃ad cap,e=U (kB ad L.length cap)/\xC w' ad L/\Below w.heap.size w w'/\∀k,(H ad L.length cap).ownBlock=N k->w.heap.size<=k:=by
 obtain⟨vb,h,rfl⟩:=h;have hc0:=h.c0;have HC:O _:=ycj w h.row h.kept.le;clear h
 go_enter Tryz.func112,Tryz.ntmps112
 go_wp2_with fail
 refine Calls.mono HC.out ?_;rintro e w1 ⟨v',rfl,hr,hb⟩;obtain⟨ad,cap,rfl⟩:=zF hr;have HR:O _:=hr;have HB:O _:=hb;clear hr hb
 go_wp2_with fail
 go_ret
 exact⟨ad,cap,rfl,xW (qC.yk7 HR.out),HB.out,fun k hk=>(World.ownsRow.lt HR.out k hk).1⟩
theorem ydW {bq oq:Nat} (q:Int) (hq:Pg.fits q) (l:Pg.Ln) (hl:Pg.fits l.m.p) (w:V) (hc:w.cell? ⟨bq,oq,I⟩=N (B J q)):
 kJ Q 257 #[l.val,M (N ⟨bq,oq,I⟩)] w fun e w'=>e=U (R (l.has q))/\Below w.heap.size w w':=by
 obtain⟨⟨p,s,f,r⟩,d⟩:=l;have hbq:=A _ _ hc;have HO:=qS p s f r q hl hq;simp only[Pg.Ln.val,Pg.Ln.has,Pg.Mp.has];generalize Pg.over p s q=x at*
 go_enter Tryz.func257,Tryz.ntmps257
 go_wp2_with fail
 refine(HO _).mono ?_;rintro e w1 ⟨rfl,hb1⟩
 go_wp2_with fail
 go_ret
 exact⟨rfl,zT (zA (zR _) _) hb1⟩
theorem ydM {bm om:Nat} (m:Pg.Mp) (hm:Pg.fits m.p) (l:Pg.Ln) (hl:Pg.fits l.m.p) (w:V) (hc:ybS w bm om m):
 kJ Q 292 #[l.val,M (N ⟨bm,om,I⟩)] w fun e w'=>e=U (R (l.meets m))/\Below w.heap.size w w':=by
 obtain⟨⟨p,s,f,r⟩,d⟩:=l;obtain⟨p',s',f',r'⟩:=m;obtain⟨c0,c1,c2,c3⟩:=hc;have hbq:=A _ _ c0;have HO:=yaW p s f r p' s' f' r' hl hm;simp only at c0 c1 c2 c3;simp only[Pg.Ln.val,Pg.Ln.meets,Pg.Mp.meets];generalize Pg.meet p s p' s'=x at*
 go_enter Tryz.func292,Tryz.ntmps292
 go_wp2_with fail
 refine(HO _).mono ?_;rintro e w1 ⟨rfl,hb1⟩
 go_wp2_with fail
 go_ret
 exact⟨rfl,zT (zA (zR _) _) hb1⟩
theorem qd {w w1:V} (h:Below w.heap.size w w1) (r:Nat) (hr:w.heap.size<=r) (x0 x1 x2 x3 x4:kC):
 Below w.heap.size w (((((w1.setCell ⟨r,0,I⟩ x0).setCell ⟨r,1,I⟩ x1).setCell ⟨r,2,I⟩ x2).setCell ⟨r,3,I⟩ x3).setCell ⟨r,4,I⟩ x4):=
 ((((h.setCell hr _).setCell hr _).setCell hr _).setCell hr _).setCell hr _
theorem jM (q:Int) (hq:Pg.fits q) (w:V) (h:jy w b o L F):
 kJ Q 222 #[M (N ⟨b,o,I⟩),B J q] w fun e w'=>e=U (kP #[(Pg.kAt L q).val,R (Pg.kFnd L q).isSome])/\Below w.heap.size w w':=by
 obtain⟨vb,h,rfl⟩:=h;obtain⟨ad,cap,rfl⟩:=zF h.row;obtain⟨W,hW⟩:∃W,W=(w.alloc (D #[B J q] 3)).alloc (D #[B J 0,B J 0,B J 0,B J 0,R T] 159):=⟨_,rfl⟩
 have hB:Below w.heap.size w W:=by rw[hW];exact zA (zA (zR _) _) _
 have hT:=h.grow hB
 have k1:W.cell? ⟨w.heap.size,0,I⟩=N (B J q):=by rw[hW];simp[go_sem]
 have HI:=vn (cap:=cap) (fun l=>l.has q) 257 #[M (N ⟨w.heap.size,0,I⟩)] W (xW (qC.yk7 hT.row)) h.kept.le (fun args w=>by simp[go_sem]) (fun j w' hj hb=>ydW q hq _ (h.kept.fits hj) w' (kK hb k1));have hlb:=h.lb;have hc0:=hT.c0;have hc00:=h.c0;have hlen:=h.kept.le
 have hsz:W.heap.size=w.heap.size+2:=by rw[hW];simp
 cases hf:Pg.kFnd L q with
 | none=>
   have e1:Pg.kAt L q= .zz:=by simp only[Pg.kAt,hf]
   have e2:Pg.idxN L (fun l=>l.has q)= -1:=by
    unfold Pg.kFnd at hf;simp only[Pg.idxN,hf]
   rw[e2]at HI;have HB:O _:=hB;rw[e1];clear e1 e2 hf h hT hB k1
   go_enter Tryz.func222,Tryz.ntmps222
   go_wp2_with fail
   rw[<-hW];refine HI.mono ?_;rintro e w1 ⟨rfl,hb1⟩;have hr:∀p,w1.cell? ⟨w.heap.size+1,p,I⟩=_:=fun p=>hb1.cell (p:=⟨w.heap.size+1,p,I⟩) (by simp;omega);have hf:∀p,w1.frozen? ⟨w.heap.size+1,p,I⟩=_:=fun p=>hb1.frozen (p:=⟨w.heap.size+1,p,I⟩) (by simp;omega);rw[hW]at hr hf;have HB1:O _:=zT HB.out hb1;clear hb1 HI HB hc0 hc00 hW
   go_wp2_with fail
   refine z (v:=kP #[kZ #[B J 0,B J 0,B J 0,B J 0,R T],R T]) ?_ rfl ⟨rfl,?_⟩
   ·simp[results,Tryz.results222,go_sem,hr]
   ·exact qd HB1.out _ (kU _) _ _ _ _ _
 | some k=>
   obtain⟨hk,_,_⟩:=Pg.ykv hf
   have e1:Pg.kAt L q=L.getD k .zz:=by simp only[Pg.kAt,hf]
   have e2:Pg.idxN L (fun l=>l.has q)=(k:Int):=by
    unfold Pg.kFnd at hf;simp only[Pg.idxN,hf]
   rw[e2]at HI;obtain⟨g,og,e3,hg,hm⟩:=xW (qC.yk7 hT.row) k hk;subst e3;have HB:O _:=hB;rw[e1]
   have i0:(0:Int)<=(k:Int):=by omega
   have i1:(k:Int)<(L.length:Int):=by omega
   have i2:¬(k:Int)<0:=by omega
   have hbW:b<W.heap.size:=E hlb hB.size;clear e1 e2 hf h hT hB k1;generalize L.getD k .zz=x at*;obtain⟨⟨xp,xs,xf,xr⟩,xd⟩:=x;simp only[Pg.Ln.val]
   go_enter Tryz.func222,Tryz.ntmps222
   go_wp2_with fail
   rw[<-hW];refine HI.mono ?_;rintro e w1 ⟨rfl,hb1⟩;have hr:∀p,w1.cell? ⟨w.heap.size+1,p,I⟩=_:=fun p=>hb1.cell (p:=⟨w.heap.size+1,p,I⟩) (by simp;omega);have hf:∀p,w1.frozen? ⟨w.heap.size+1,p,I⟩=_:=fun p=>hb1.frozen (p:=⟨w.heap.size+1,p,I⟩) (by simp;omega);rw[hW]at hr hf;have HB1:O _:=zT HB.out hb1;have c0:=kK hb1 hc0;obtain⟨m0,m1,m2,m3,m4⟩:=hm.below hb1 hg;simp only at m0 m1 m2 m3 m4;have hbw:b<w1.heap.size:=E hbW hb1.size;clear hb1 HI HB hc0 hc00 hW hm
   go_wp2_with fail
   refine z (v:=kP #[kZ #[B J xp,B J xs,B J xf,B J xr,R xd],R kS]) ?_ rfl ⟨rfl,?_⟩
   ·simp[results,Tryz.results222,go_sem,hr]
   ·exact qd HB1.out _ (kU _) _ _ _ _ _
end
section
variable {b o:Nat} {L:List Pg.Ln} {F:Nat->Prop}
theorem yaC (m:Pg.Mp) (hm:Pg.fits m.p) (w:V) (h:jy w b o L F):
 kJ Q 263 #[M (N ⟨b,o,I⟩),m.val] w fun e w'=>e=U (B J ((L.length:Int)-((Pg.yjd L m).length:Int)))/\∃F',jy w' b o (Pg.yjd L m) F'/\Chg b o F w w'/\∀k,F' k->F k\/w.heap.size<=k:=by
 obtain⟨vb,h,rfl⟩:=h;obtain⟨ad,cap,rfl⟩:=zF h.row;obtain⟨W,hW⟩:∃W,W=w.alloc (D #[B J m.p,B J m.s,B J m.f,B J m.r] 76):=⟨_,rfl⟩
 have hB:Below w.heap.size w W:=by rw[hW];exact zA (zR _) _
 have hT:=h.grow hB
 have k1:ybS W w.heap.size 0 m:=by rw[hW];exact⟨by simp[go_sem],by simp[go_sem],by simp[go_sem],by simp[go_sem]⟩
 have hsz:W.heap.size=w.heap.size+1:=by rw[hW];simp
 have hno:¬(H ad L.length cap).ownBlock=N w.heap.size:=fun e=>by have:=(h.row.lt _ e).2;omega
 have HD:=yb4 (cap:=cap) (fun l=>l.meets m) 292 #[M (N ⟨w.heap.size,0,I⟩)] W hT.row h.kept.le (fun args w=>by simp[go_sem]) (fun j w' hj hb=>ydM m hm _ (h.kept.fits hj) w' ⟨(hb.cell (a:=⟨w.heap.size,0,I⟩) (by simp;omega) hno).trans k1.1,(hb.cell (a:=⟨w.heap.size,0+1,I⟩) (by simp;omega) hno).trans k1.2.1,(hb.cell (a:=⟨w.heap.size,0+2,I⟩) (by simp;omega) hno).trans k1.2.2.1,(hb.cell (a:=⟨w.heap.size,0+3,I⟩) (by simp;omega) hno).trans k1.2.2.2⟩);have e1:(L.filter fun l=> !l.meets m)=Pg.yjd L m:=rfl;rw[e1]at HD;have hlb:=h.lb;have hc0:=h.c0;have hlen:=h.kept.le;have hlen':=(h.kept.drop m).le;have HT:O _:=hT;have HX:O _:=h;have HB:O _:=hB;have HK:O _:=h.kept.drop m;clear h hT hB k1 e1 hno;generalize Pg.yjd L m=L' at*;obtain⟨mp,ms,mf,mr⟩:=m;simp only[Pg.Mp.val];simp only at hW
 go_enter Tryz.func263,Tryz.ntmps263
 go_wp2_with fail
 rw[<-hW];refine HD.mono ?_;rintro e w1 ⟨rfl,hr,hb1⟩;have kb:w1.heap[b]?=W.heap[b]?:=hb1.block b (by omega) HT.out.nb;have c0:w1.cell? ⟨b,o,I⟩=N (kB ad L.length cap):=(Y (a:=⟨b,o,I⟩) kb).trans HT.out.c0;have cf:w1.frozen? ⟨b,o,I⟩=T:=(Z (a:=⟨b,o,I⟩) kb).trans (HT.out.fb o);have HF:O _:=HT.out.put hb1 hr (fun j hj=> .inl (by cases ad with|none=>exact absurd hj (by simp[kR])|some a=>exact hj)) HK.out;clear hb1 hr kb HD hc0 hW
 go_wp2_with fail
 go_ret
 obtain⟨f1,f2,f3⟩:=HF.out;refine⟨rfl,_,⟨_,f1,rfl⟩,(Chg.yhl (o:=o) HB.out hlb).trans f2 (fun i _ hi=>hi),fun k hk=>(f3 k hk).imp id (fun h=>by omega)⟩
theorem vH (w:V) (h:jy w b o L F):
 kJ Q 231 #[M (N ⟨b,o,I⟩)] w fun e w'=>e=U (R (decide (0<L.length)))/\∃F',jy w' b o (L.drop 1) F'/\Chg b o F w w'/\∀k,F' k->F k\/w.heap.size<=k:=by
 obtain⟨vb,h,rfl⟩:=h;obtain⟨ad,cap,rfl⟩:=zF h.row;have hlb:=h.lb;have hc0:=h.c0;have hlen:=h.kept.le
 by_cases h0:0<L.length
 ·have HD:O _:=ya9 w h.row hlen h0
  have HX:O _:=h
  have e0:O (decide (0<L.length)=kS):=by simp[O,h0]
  have n0:((L.length:Int)==0)=T:=by
   have:¬(L.length:Int)=0:=by omega
   simpa using this
  clear h
  go_enter Tryz.func231,Tryz.ntmps231
  go_wp2_with fail
  refine Calls.mono HD.out ?_;rintro e w1 ⟨g,cap',he,rfl,hr,hb1⟩;cases he;have kb:w1.heap[b]?=w.heap[b]?:=hb1.block b (by omega) HX.out.nb;have c0:w1.cell? ⟨b,o,I⟩=N (kB (N ⟨g,0,I⟩) L.length cap):=(Y (a:=⟨b,o,I⟩) kb).trans HX.out.c0;have cf:w1.frozen? ⟨b,o,I⟩=T:=(Z (a:=⟨b,o,I⟩) kb).trans (HX.out.fb o);have HF:O _:=HX.out.put hb1 hr (fun j hj=> .inl hj) HX.out.kept.tail;clear hb1 hr kb HD hc0
  go_wp2_with fail
  go_ret
  obtain⟨f1,f2,f3⟩:=HF.out;refine⟨xJ e0.out.symm,_,⟨_,f1,rfl⟩,f2,f3⟩
 ·have hL:L=[]:=List.length_eq_zero_iff.1 (by omega)
  subst hL;have HX:O _:=h;clear h
  go_enter Tryz.func231,Tryz.ntmps231
  go_wp2_with fail
  go_ret
  exact⟨rfl,_,⟨_,HX.out,rfl⟩,Chg.yhl (zR _) hlb,fun k hk=> .inl hk⟩
theorem yet (l:Pg.Ln) (hm:Pg.fits l.m.p) (w:V) (h:jy w b o L F):
 kJ Q 227 #[M (N ⟨b,o,I⟩),l.val] w fun e w'=>e=U (R (l.m.code==0))/\∃F',jy w' b o (Pg.kPut L l) F'/\Chg b o F w w'/\∀k,F' k->F k\/w.heap.size<=k:=by
 have HX:O _:=h;have hlF:∀k,F k->k<w.heap.size:=fun k hk=>h.lt hk;have HCK:=zE l.m.p l.m.s l.m.f l.m.r
 have hlb:b<w.heap.size:=by obtain⟨vb,h,_⟩:=h;exact h.lb
 by_cases hcode:l.m.code=0
 ·have hce:Pg.check l.m.p l.m.s l.m.f l.m.r=0:=hcode
  rw[hce]at HCK
  have hr:(l.m.code==0)=kS:=by simp[hcode]
  have HKK:O (Pg.Kept (Pg.kPut L l)):=h.kept.put l;have HLL:O ((Pg.yjd L l.m).length<=6):=(h.kept.drop l.m).le;have HD:=fun w' (hb:Below w.heap.size w w')=>yaC l.m hm w' (h.grow hb);rw[hr];rw[Pg.kPut_yes hcode]at HKK ⊢;clear h hcode hce hr;generalize Pg.yjd L l.m=L1 at*;obtain⟨L2,hL2⟩:∃L2,L2=Pg.yjQ L1:=⟨_,rfl⟩;rw[<-hL2]at HKK
  have HLR:O (L2.length<=5):=by rw[hL2];exact Pg.ykw HLL.out
  have HL2:O (L2=Pg.yjQ L1):=hL2;clear hL2;obtain⟨⟨mp,ms,mf,mr⟩,d⟩:=l;simp only[Pg.Ln.val,Pg.Mp.val]at*;have E2:=fun w' F' (h:jy w' b o L1 F')=>vH w' h
  go_enter Tryz.func227,Tryz.ntmps227
  go_wp2_with fail
  refine(HCK _).mono ?_;rintro e w1 ⟨rfl,hb1⟩;have hx1:∀p,w1.cell? ⟨w.heap.size,p,I⟩=_:=fun p=>hb1.cell (p:=⟨w.heap.size,p,I⟩) (by simp);have hbb:Below w.heap.size w w1:=zT (zA (zR _) _) hb1
  have hs1:w.heap.size<w1.heap.size:=by have:=hb1.size;simp at this;omega
  have HB1:O _:=hbb;clear hb1 hbb HCK
  go_wp2_with fail
  refine(HD _ HB1.out).mono ?_;rintro e w2 ⟨rfl,F2,h2,hc2,hF2⟩
  have hnx:¬F w.heap.size:=fun hf=>by have:=hlF _ hf;omega
  have hx2:∀p,w2.cell? ⟨w.heap.size,p,I⟩=_:=fun p=>(hc2.but.cell (a:=⟨w.heap.size,p,I⟩) hs1 hnx).trans (hx1 p);have hs2:w.heap.size<w2.heap.size:=E hs1 hc2.but.size;have HC2:O (Chg b o F w w2):=(Chg.yhl (o:=o) HB1.out hlb).trans hc2 (fun i _ hi=>hi);have hF2:O (∀k,F2 k->F k\/w.heap.size<k):=fun k hk=>(hF2 k hk).imp id (fun h=>by omega);obtain⟨vb2,t2,hvb2⟩:=h2.ex;obtain⟨ad2,cap2,rfl⟩:=zF t2.row;have c20:=t2.c0;have l20:=t2.lb;clear t2 hvb2 hc2 HD hx1 HX
  by_cases h6:L1.length=6
  ·have i6:((L1.length:Int)==6)=kS:=by simp[h6]
   have eR:L1.drop 1=L2:=by rw[HL2.out];simp[Pg.yjQ,h6]
   rw[eR]at E2;clear eR
   go_wp2_with fail
   refine(E2 _ _ h2).mono ?_;rintro e w3 ⟨rfl,F3,h3,hc3,hF3⟩;have hnx2:¬F2 w.heap.size:=fun hf=>(hF2.out _ hf).elim hnx (fun h=>by omega);have hx3:∀p,w3.cell? ⟨w.heap.size,p,I⟩=_:=fun p=>(hc3.but.cell (a:=⟨w.heap.size,p,I⟩) hs2 hnx2).trans (hx2 p);have lx3:w.heap.size<w3.heap.size:=E hs2 hc3.but.size;have HC3:O (Chg b o F w w3):=HC2.out.trans hc3 (fun i hi hg=>(hF2.out i hg).elim id (fun h=>by omega));have HF3:O (∀k,F3 k->F k\/w.heap.size<=k):=fun k hk=>(hF3 k hk).elim (fun h=>(hF2.out k h).imp id (fun h=>by omega)) (fun h=> .inr (by omega));have H3:O _:=h3;have x0:w3.cell? ⟨w.heap.size,0,I⟩=N (B J mp):=(hx3 0).trans (by simp[go_sem]);have x1:w3.cell? ⟨w.heap.size,1,I⟩=N (B J ms):=(hx3 1).trans (by simp[go_sem]);have x2:w3.cell? ⟨w.heap.size,2,I⟩=N (B J mf):=(hx3 2).trans (by simp[go_sem]);have x3:w3.cell? ⟨w.heap.size,3,I⟩=N (B J mr):=(hx3 3).trans (by simp[go_sem]);have x4:w3.cell? ⟨w.heap.size,4,I⟩=N (R d):=(hx3 4).trans (by simp[go_sem]);clear hc3 hx3 hx2 h3 h2 c20 hF3 E2;obtain⟨vb3,t3,rfl⟩:=H3.out.ex;obtain⟨ad3,cap3,rfl⟩:=zF t3.row;have hown:=t3.row;have r0:=t3.c0;have rf:=t3.fb o;have hlk:=t3.lb;have hn3:=t3.nb;have hlen3:L2.length<=5:=HLR.out;have HT3:O _:=t3;have HK3:O (Pg.Kept (L2++[⟨⟨mp,ms,mf,mr⟩,d⟩])):=HKK.out;obtain⟨q0,hqi,hz0,hz1,hz2⟩:=info_parts jr
   have hnews:∀(W:V) (j:Nat) (u:kC),[kF J mp,B J ms,B J mf,B J mr,R d][j]?=N u->(W.alloc (D #[B J mp,B J ms,B J mf,B J mr,R d] 159)).cell? ((⟨W.heap.size,0,I⟩:Addr).add j)=N u:=fun W j u hu=>
    kT (kI W _) j u hu
   have hone:∀u,u ∈ [kF J mp,B J ms,B J mf,B J mr,R d]->u.oneCell'=kS:=by
    intro u hu;simp at hu;rcases hu with rfl|rfl|rfl|rfl|rfl<;>rfl
   have hm1:L2.length+1<=maxLen:=by unfold maxLen;omega
   have hm2:(L2.length+1)*40<=140737488355328:=by omega
   have hlx:w.heap.size<w3.heap.size:=lx3;clear t3 lx3
   go_wp2_with fail
   go_region_law (refine step_append_lies _ rfl (.tmp 25) (.tmp 27) 157 rfl 0 159 q0 _ 5 40 Tryz.underlying157 hqi hz0 hz1 hz2 rfl (by decide) (kB ad3 L2.length cap3) _ _ (by simp[Act.eval]) (hown.alloc _) ⟨w3.heap.size,0,I⟩ 1 1 [B J mp,B J ms,B J mf,B J mr,R d] (by simp[Act.eval]) rfl (hnews w3) hone (by decide) hm1 hm2 (kO _) (w3.heap.size+1) (by simp) ?_;intro g6 cap6 w6 hown6 hgrow6 hat6 hlt6;have hG6:O ((w3.alloc (D #[B J mp,B J ms,B J mf,B J mr,R d] 159)).drew.grownBy w6 (H ad3 L2.length cap3).ownBlock):=hgrow6;have hk6:w6.heap[b]?=w3.heap[b]?:=(hG6.out.block b (by simp;omega) (fun e=>hn3 e.symm)).trans (Below.heap_alloc _ _ _ hlk);have e9:w6.cell? ⟨b,o,I⟩=N (kB ad3 L2.length cap3):=(Y hk6).trans r0;have ef9:w6.frozen? ⟨b,o,I⟩=T:=(Z hk6).trans rf;have hO6:O (w6.ownsRow 0 159 5 (kB (N ⟨g6,0,I⟩) (L2.length+1) cap6) (L2.length+1) (zL L2++[B J mp,B J ms,B J mf,B J mr,R d])):=hown6;have hA6:O ((H ad3 L2.length cap3).ownBlock=N g6\/g6=w3.heap.size+1):=hat6;clear hown6 hgrow6 hat6 hk6)
   all_goals
    have hB6:But (fun j=>(H ad3 L2.length cap3).ownBlock=N j) w3 w6:=((But.refl _ w3).alloc _).drew.grown hG6.out (fun k hk=> .inr hk)
    have hr6:w6.ownsRow 0 159 5 (kB (N ⟨g6,0,I⟩) (L2.length+1) cap6) (L2++[Pg.Ln.mk ⟨mp,ms,mf,mr⟩ d]).length (zL (L2++[Pg.Ln.mk ⟨mp,ms,mf,mr⟩ d])):=by
     rw[qI,List.length_append];exact hO6.out
    have HF:O _:=HT3.out.put hB6 hr6 (fun j hj=>by
     rcases hA6.out with h|h
     ·exact .inl (h.trans hj)
     ·exact .inr (by simp[kR]at hj;omega)) HK3.out
    clear hB6 hr6 hG6 hO6 hA6
    go_wp2_with fail
    go_ret
    obtain⟨f1,f2,f3⟩:=HF.out;refine⟨rfl,_,by rw[<-HL2.out];exact⟨_,f1,rfl⟩,HC3.out.trans f2 (fun i hi hg=>(HF3.out i hg).elim id (fun h=>by omega)),fun k hk=>(f3 k hk).elim (HF3.out k) (fun h=> .inr (by omega))⟩
  ·have i6:((L1.length:Int)==6)=T:=by
    have:¬((L1.length:Int)=6):=by omega
    simpa using this
   have eR:L1=L2:=by rw[HL2.out];simp[Pg.yjQ,h6]
   rw[eR]at h2 c20 i6;clear eR;have HC3:O _:=HC2.out;have HF3:O (∀k,F2 k->F k\/w.heap.size<=k):=fun k hk=>(hF2.out k hk).imp id (fun h=>by omega);have H3:O _:=h2;have x0:w2.cell? ⟨w.heap.size,0,I⟩=N (B J mp):=(hx2 0).trans (by simp[go_sem]);have x1:w2.cell? ⟨w.heap.size,1,I⟩=N (B J ms):=(hx2 1).trans (by simp[go_sem]);have x2:w2.cell? ⟨w.heap.size,2,I⟩=N (B J mf):=(hx2 2).trans (by simp[go_sem]);have x3:w2.cell? ⟨w.heap.size,3,I⟩=N (B J mr):=(hx2 3).trans (by simp[go_sem]);have x4:w2.cell? ⟨w.heap.size,4,I⟩=N (R d):=(hx2 4).trans (by simp[go_sem]);have lx3:w.heap.size<w2.heap.size:=hs2;clear hx2 h2 E2 l20
   go_wp2_with fail
   clear c20;generalize w2=w3 at*;obtain⟨vb3,t3,rfl⟩:=H3.out.ex;obtain⟨ad3,cap3,rfl⟩:=zF t3.row;have hown:=t3.row;have r0:=t3.c0;have rf:=t3.fb o;have hlk:=t3.lb;have hn3:=t3.nb;have hlen3:L2.length<=5:=HLR.out;have HT3:O _:=t3;have HK3:O (Pg.Kept (L2++[⟨⟨mp,ms,mf,mr⟩,d⟩])):=HKK.out;obtain⟨q0,hqi,hz0,hz1,hz2⟩:=info_parts jr
   have hnews:∀(W:V) (j:Nat) (u:kC),[kF J mp,B J ms,B J mf,B J mr,R d][j]?=N u->(W.alloc (D #[B J mp,B J ms,B J mf,B J mr,R d] 159)).cell? ((⟨W.heap.size,0,I⟩:Addr).add j)=N u:=fun W j u hu=>
    kT (kI W _) j u hu
   have hone:∀u,u ∈ [kF J mp,B J ms,B J mf,B J mr,R d]->u.oneCell'=kS:=by
    intro u hu;simp at hu;rcases hu with rfl|rfl|rfl|rfl|rfl<;>rfl
   have hm1:L2.length+1<=maxLen:=by unfold maxLen;omega
   have hm2:(L2.length+1)*40<=140737488355328:=by omega
   have hlx:w.heap.size<w3.heap.size:=lx3;clear t3 lx3
   go_wp2_with fail
   go_region_law (refine step_append_lies _ rfl (.tmp 25) (.tmp 27) 157 rfl 0 159 q0 _ 5 40 Tryz.underlying157 hqi hz0 hz1 hz2 rfl (by decide) (kB ad3 L2.length cap3) _ _ (by simp[Act.eval]) (hown.alloc _) ⟨w3.heap.size,0,I⟩ 1 1 [B J mp,B J ms,B J mf,B J mr,R d] (by simp[Act.eval]) rfl (hnews w3) hone (by decide) hm1 hm2 (kO _) (w3.heap.size+1) (by simp) ?_;intro g6 cap6 w6 hown6 hgrow6 hat6 hlt6;have hG6:O ((w3.alloc (D #[B J mp,B J ms,B J mf,B J mr,R d] 159)).drew.grownBy w6 (H ad3 L2.length cap3).ownBlock):=hgrow6;have hk6:w6.heap[b]?=w3.heap[b]?:=(hG6.out.block b (by simp;omega) (fun e=>hn3 e.symm)).trans (Below.heap_alloc _ _ _ hlk);have e9:w6.cell? ⟨b,o,I⟩=N (kB ad3 L2.length cap3):=(Y hk6).trans r0;have ef9:w6.frozen? ⟨b,o,I⟩=T:=(Z hk6).trans rf;have hO6:O (w6.ownsRow 0 159 5 (kB (N ⟨g6,0,I⟩) (L2.length+1) cap6) (L2.length+1) (zL L2++[B J mp,B J ms,B J mf,B J mr,R d])):=hown6;have hA6:O ((H ad3 L2.length cap3).ownBlock=N g6\/g6=w3.heap.size+1):=hat6;clear hown6 hgrow6 hat6 hk6)
   all_goals
    have hB6:But (fun j=>(H ad3 L2.length cap3).ownBlock=N j) w3 w6:=((But.refl _ w3).alloc _).drew.grown hG6.out (fun k hk=> .inr hk)
    have hr6:w6.ownsRow 0 159 5 (kB (N ⟨g6,0,I⟩) (L2.length+1) cap6) (L2++[Pg.Ln.mk ⟨mp,ms,mf,mr⟩ d]).length (zL (L2++[Pg.Ln.mk ⟨mp,ms,mf,mr⟩ d])):=by
     rw[qI,List.length_append];exact hO6.out
    have HF:O _:=HT3.out.put hB6 hr6 (fun j hj=>by
     rcases hA6.out with h|h
     ·exact .inl (h.trans hj)
     ·exact .inr (by simp[kR]at hj;omega)) HK3.out
    clear hB6 hr6 hG6 hO6 hA6
    go_wp2_with fail
    go_ret
    obtain⟨f1,f2,f3⟩:=HF.out;refine⟨rfl,_,by rw[<-HL2.out];exact⟨_,f1,rfl⟩,HC3.out.trans f2 (fun i hi hg=>(HF3.out i hg).elim id (fun h=>by omega)),fun k hk=>(f3 k hk).elim (HF3.out k) (fun h=> .inr (by omega))⟩
 ·have hr:(l.m.code==0)=T:=by simp[hcode]
  have hne:(Pg.check l.m.p l.m.s l.m.f l.m.r !=0)=kS:=by
   have:Pg.check l.m.p l.m.s l.m.f l.m.r≠0:=hcode
   simpa using this
  rw[hr,Pg.kPut_no hcode];clear hcode hr h;obtain⟨⟨mp,ms,mf,mr⟩,d⟩:=l;simp only at HCK hne;simp only[Pg.Ln.val];generalize Pg.check mp ms mf mr=x at*
  go_enter Tryz.func227,Tryz.ntmps227
  go_wp2_with fail
  refine(HCK _).mono ?_;rintro e w1 ⟨rfl,hb1⟩;have HB:O (Below w.heap.size w w1):=zT (zA (zR _) _) hb1;clear hb1
  go_wp2_with fail
  go_ret
  exact⟨rfl,_,HX.out.grow HB.out,Chg.yhl HB.out hlb,fun k hk=> .inl hk⟩
end
namespace Pg
def yj7 (f:Nat->Bool):Bool:= !f 0&&(!f 1&&(!f 2&& !f 3))
def yhY (f:Nat->Bool) (k:Int):Bool:=decide (0<=k)&&(decide (k<4)&&f k.toNat)
def yjm (n:Nat) (f:Nat->Bool):Nat->Bool:=fun j=>decide (j<n)||f j
def ylQ (k:Nat) (f:Nat->Bool):Nat->Bool:=fun j=>if j=k then T else f j
theorem shOver_iff {f:Nat->Bool}:yj7 f=kS ↔ ∀k,k<4->f k=T:=by
 simp only[yj7,Bool.and_eq_true,Bool.not_eq_true'];constructor
 ·rintro ⟨h0,h1,h2,h3⟩ k hk
  have:k=0\/k=1\/k=2\/k=3:=by omega
  rcases this with rfl|rfl|rfl|rfl<;>assumption
 ·intro h
  exact⟨h 0 (by omega),h 1 (by omega),h 2 (by omega),h 3 (by omega)⟩
end Pg
theorem But.set4 {F:Nat->Prop} {w w1:V} (h:But F w w1) (r:Nat) (hr:w.heap.size<=r\/F r) (v0 v1 v2 v3:kC):
 But F w ((((w1.setCell ⟨r,0,I⟩ v0).setCell ⟨r,1,I⟩ v1).setCell ⟨r,2,I⟩ v2).setCell ⟨r,3,I⟩ v3):=
 (((h.setCell (a:=⟨r,0,I⟩) hr v0).setCell (a:=⟨r,1,I⟩) hr v1).setCell (a:=⟨r,2,I⟩) hr v2).setCell (a:=⟨r,3,I⟩) hr v3
structure jm (w:V) (b:Nat) (m:Pg.Mp) (f:Nat->Bool):Prop where
 cm:ybS w b 0 m
 cw:∀k,k<4->w.cell? ⟨b,4+k,I⟩=N (R (f k))
 fz:∀p,w.frozen? ⟨b,p,I⟩=T
namespace jm
variable {w w':V} {b:Nat} {m m':Pg.Mp} {f f':Nat->Bool}
theorem lb (h:jm w b m f):b<w.heap.size:=A _ _ h.cm.1
theorem keep (h:jm w b m f) {G:Nat->Prop} (hb:But G w w') (hF:¬G b):jm w' b m f:=by
 have kb:=hb.block b h.lb hF;exact⟨⟨(Y kb).trans h.cm.1,(Y kb).trans h.cm.2.1,(Y kb).trans h.cm.2.2.1,(Y kb).trans h.cm.2.2.2⟩,fun k hk=>(Y kb).trans (h.cw k hk),fun p=>(Z kb).trans (h.fz p)⟩
theorem grow (h:jm w b m f) (hb:Below w.heap.size w w'):jm w' b m f:=h.keep (G:=fun _=>False) (But.yhl hb) id
theorem set (h:jm w b m f) {k:Nat} (hk:k<4) (v:Bool):jm (w.setCell ⟨b,4+k,I⟩ (R v)) b m (fun j=>if j=k then v else f j):=by
 have hne:∀o,o<4->(⟨b,4+k,I⟩:Addr)≠⟨b,o,I⟩:=fun o ho e=>by injection e with _ e;omega
 obtain⟨c0,c1,c2,c3⟩:=h.cm;refine⟨⟨?_,?_,?_,?_⟩,fun j hj=> ?_,fun p=>by simpa using h.fz p⟩
 ·rw[P _ _ _ _ (hne _ (by omega))];exact c0
 ·rw[P _ _ _ _ (hne _ (by omega))];exact c1
 ·rw[P _ _ _ _ (hne _ (by omega))];exact c2
 ·rw[P _ _ _ _ (hne _ (by omega))];exact c3
 ·by_cases e:j=k
  ·subst e
   rw[kN _ _ _ (h.cw j hj)];simp
  ·rw[P _ _ _ _ (fun x=>e (by injection x with _ x;omega)),if_neg e]
   exact h.cw j hj
theorem told (h:jm w b m f) (m':Pg.Mp):jm ((((w.setCell ⟨b,0,I⟩ (B J m'.p)).setCell ⟨b,1,I⟩ (B J m'.s)).setCell ⟨b,2,I⟩ (B J m'.f)).setCell ⟨b,3,I⟩ (B J m'.r)) b m' f:=by
 obtain⟨c0,c1,c2,c3⟩:=h.cm;refine⟨⟨?_,?_,?_,?_⟩,fun j hj=> ?_,fun p=>by simpa using h.fz p⟩
 ·simp[go_sem,c0]
 ·simp at c1;simp[go_sem,c1]
 ·simp at c2;simp[go_sem,c2]
 ·simp at c3;simp[go_sem,c3]
 ·rw[P _ _ _ _ (fun x=>by injection x with _ x;omega),P _ _ _ _ (fun x=>by injection x with _ x;omega),P _ _ _ _ (fun x=>by injection x with _ x;omega),P _ _ _ _ (fun x=>by injection x with _ x;omega)]
  exact h.cw j hj
end jm
theorem ycJ {w:V} {b:Nat} {m:Pg.Mp} {f g:Nat->Bool} (h:jm w b m f) (e:∀k,k<4->f k=g k):jm w b m g:=⟨h.cm,fun k hk=>(e k hk)▸h.cw k hk,h.fz⟩
theorem yek (w:V):
 kJ Q 137 #[] w fun e w'=>∃b,e=U (M (N ⟨b,0,I⟩))/\jm w' b .zz (fun _=>T)/\Below w.heap.size w w'/\w.heap.size<=b:=by
 go_enter Tryz.func137,Tryz.ntmps137
 go_wp2_with fail
 go_ret
 have hb:=kI w (D #[B J 0,B J 0,B J 0,B J 0,R T,R T,R T,R T] 289);refine⟨_,rfl,⟨⟨?_,?_,?_,?_⟩,fun k hk=> ?_,fun o=> ?_⟩,zA (zR _) _,kV _⟩
 ·exact cell_of_row _ _ 0 _ _ _ hb
 ·exact cell_of_row _ _ 1 _ _ _ hb
 ·exact cell_of_row _ _ 2 _ _ _ hb
 ·exact cell_of_row _ _ 3 _ _ _ hb
 ·rw[cell_of_row _ _ (4+k) _ _ _ hb]
  have:k=0\/k=1\/k=2\/k=3:=by omega
  rcases this with rfl|rfl|rfl|rfl<;>rfl
 ·unfold kY;simp only[hb];simp
theorem yd2:(Tryz.prog.info? 4).map (fun i=>(i.zero,i.size,i.bytes))=N (N (R T),1,1):=by kernel_rfl
theorem ydq (x0 x1 x2 x3:Bool) (w:V):Sem.run Q (Op.equalIn 10000 287 (kZ #[R x0,R x1,R x2,R x3]) (kZ #[R T,R T,R T,R T])) w= .ok (!x0&&(!x1&&(!x2&& !x3))) w:=by
 obtain⟨q0,hq,hz0,hz1,hz2⟩:=info_parts yd2
 have hu:Tryz.prog.underlying 287=N (.array 4 4):=by kernel_rfl
 have hu2:Tryz.prog.underlying 4=N .bool:=by kernel_rfl
 have hp:Tryz.prog.plainKey 4=kS:=by kernel_rfl
 have hc:Tryz.prog.cellsOf 4=1:=by kernel_rfl
 have hi:∀(a b:Bool) (w:V),(Op.equalIn 9999 4 (R a) (R b)).run Q w= .ok (a==b) w:=fun a b w=>run_equalIn_bool w 9998 _ _ _ hu2
 have step:∀(xs ys:Array kC) (i:Nat) (a b:Bool) (is:List Nat) (w:V),xs[i*1]?=N (R a)->ys[i*1]?=N (R b)->
  (Op.eqItems 9999 4 1 xs ys (i::is)).run Q w=bif a==b then(Op.eqItems 9999 4 1 xs ys is).run Q w else .ok T w:=by
  intro xs ys i a b is w h1 h2;simp only[Op.eqItems,Sem.run_bind,run_part_plain w hp h1,run_part_plain w hp h2,hi,Result.andThen_ok]
  cases a==b<;>rfl
 rw[show(10000:Nat)=9999+1 from rfl,run_equalIn_array w 9999 _ _ hu hq,hc];have hr:List.range 4=[0,1,2,3]:=rfl;rw[hr,step _ _ 0 x0 T _ _ rfl rfl,step _ _ 1 x1 T _ _ rfl rfl,step _ _ 2 x2 T _ _ rfl rfl,step _ _ 3 x3 T _ _ rfl rfl]
 cases x0<;>cases x1<;>cases x2<;>cases x3<;>rfl
attribute [local go_sem] ydq
section
variable {b:Nat} {m:Pg.Mp} {f:Nat->Bool}
theorem yaA (w:V) (h:jm w b m f):
 kJ Q 213 #[M (N ⟨b,0,I⟩)] w fun e w'=>e=U (R (Pg.yj7 f))/\w'=w:=by
 have c0:=h.cw 0 (by omega);have c1:=h.cw 1 (by omega);have c2:=h.cw 2 (by omega);have c3:=h.cw 3 (by omega);simp only[Nat.add_zero,Nat.reduceAdd]at c0 c1 c2 c3;unfold Pg.yj7;generalize f 0=x0 at*;generalize f 1=x1 at*;generalize f 2=x2 at*;generalize f 3=x3 at*;clear h
 go_enter Tryz.func213,Tryz.ntmps213
 go_wp2_with fail
 go_ret
 exact⟨rfl,rfl⟩
theorem jl (k:Int) (w:V) (h:jm w b m f):
 kJ Q 176 #[M (N ⟨b,0,I⟩),B J k] w fun e w'=>e=U (R (Pg.yhY f k))/\w'=w:=by
 by_cases h0:0<=k
 ·obtain⟨n,rfl⟩:=Int.eq_ofNat_of_zero_le h0
  by_cases h4:n<4
  ·have c:=h.cw n h4
   have HH:O (Pg.yhY f (n:Int)=f n):=by simp[O,Pg.yhY];omega
   have i0:(0:Int)<=(n:Int):=by omega
   have i1:(n:Int)<4:=by omega
   have i2:¬(4:Int)<=(n:Int):=by omega
   have i3:¬(n:Int)<0:=by omega
   rw[HH.out];generalize f n=x at*;clear h HH
   go_enter Tryz.func176,Tryz.ntmps176
   go_wp2_with fail
   go_ret
   exact⟨rfl,rfl⟩
  ·have HH:O (Pg.yhY f (n:Int)=T):=by simp[O,Pg.yhY];omega
   have i0:(0:Int)<=(n:Int):=by omega
   have i1:¬(n:Int)<4:=by omega
   rw[HH.out];clear h HH
   go_enter Tryz.func176,Tryz.ntmps176
   go_wp2_with fail
   go_ret
   exact⟨rfl,rfl⟩
 ·have HH:O (Pg.yhY f k=T):=by simp[O,Pg.yhY];omega
  rw[HH.out];clear h HH
  go_enter Tryz.func176,Tryz.ntmps176
  go_wp2_with fail
  go_ret
  exact⟨rfl,rfl⟩
theorem ye9 (k:Int) (w:V) (h:jm w b m f) (hk:Pg.yhY f k=T):
 kJ Q 228 #[M (N ⟨b,0,I⟩),B J k] w fun e w'=>e=U (kP #[Pg.Mp.zz.val,R T])/\Below w.heap.size w w':=by
 have HW:=jl k _ (h.grow (zA (zR w) (D #[B J 0,B J 0,B J 0,B J 0] 76)));rw[hk]at HW;clear h
 go_enter Tryz.func228,Tryz.ntmps228
 go_wp2_with (go_at_call 176;refine HW.mono ?_;rintro e w' ⟨rfl,hw⟩;subst w')
 refine z (v:=kP #[Pg.Mp.zz.val,R T]) ?_ rfl ⟨rfl,?_⟩
 ·simp[results,Tryz.results228,go_sem,Pg.Mp.val,Pg.Mp.zz]
 ·exact zA (zR w) _
theorem yej (k:Nat) (w:V) (h:jm w b m f) (hk:k<4) (hf:f k=kS):
 kJ Q 228 #[M (N ⟨b,0,I⟩),B J (k:Int)] w fun e w'=>e=U (kP #[m.val,R kS])/\jm w' b m (Pg.ylQ k f)/\But (fun j=>j=b) w w':=by
 obtain⟨W,hW⟩:∃W,W=w.alloc (D #[B J 0,B J 0,B J 0,B J 0] 76):=⟨_,rfl⟩
 have hB:Below w.heap.size w W:=by rw[hW];exact zA (zR w) _
 have hh:=h.grow hB;have HW:=jl (k:Int) _ hh
 have e1:Pg.yhY f (k:Int)=kS:=by simp[Pg.yhY,hf];omega
 rw[e1]at HW;have hfz:=hh.fz (4+k);have hlb:=hh.lb;have hck:=hh.cw k hk;have HS:O _:=hh.set hk T;have hx:=HS.out.cm
 have i0:(0:Int)<=(k:Int):=by omega
 have i1:(k:Int)<4:=by omega
 have i2:¬(4:Int)<=(k:Int):=by omega
 have i3:¬(k:Int)<0:=by omega
 have hne:¬b=w.heap.size:=by have:=h.lb;omega
 obtain⟨mp,ms,mf,mr⟩:=m;obtain⟨x0,x1,x2,x3⟩:=hx;simp only[kQ]at x0 x1 x2 x3;have HB:O _:=hB;have HL:O _:=h.lb;clear h hh hB e1
 have y:∀o,(W.setCell ⟨b,4+k,I⟩ (R T)).frozen? ⟨w.heap.size,o,I⟩=T:=fun o=>by simp[hW,go_sem]
 have y0:(W.setCell ⟨b,4+k,I⟩ (R T)).cell? ⟨w.heap.size,0,I⟩=N (B J 0):=by rw[P _ _ _ _ (fun e=>hne (by injection e))];simp[hW,go_sem]
 have y1:(W.setCell ⟨b,4+k,I⟩ (R T)).cell? ⟨w.heap.size,1,I⟩=N (B J 0):=by rw[P _ _ _ _ (fun e=>hne (by injection e))];simp[hW,go_sem]
 have y2:(W.setCell ⟨b,4+k,I⟩ (R T)).cell? ⟨w.heap.size,2,I⟩=N (B J 0):=by rw[P _ _ _ _ (fun e=>hne (by injection e))];simp[hW,go_sem]
 have y3:(W.setCell ⟨b,4+k,I⟩ (R T)).cell? ⟨w.heap.size,3,I⟩=N (B J 0):=by rw[P _ _ _ _ (fun e=>hne (by injection e))];simp[hW,go_sem]
 have fin:O (∀v0 v1 v2 v3,jm (((((W.setCell ⟨b,4+k,I⟩ (R T)).setCell ⟨w.heap.size,0,I⟩ v0).setCell ⟨w.heap.size,1,I⟩ v1).setCell ⟨w.heap.size,2,I⟩ v2).setCell ⟨w.heap.size,3,I⟩ v3) b ⟨mp,ms,mf,mr⟩ (Pg.ylQ k f)/\But (fun j=>j=b) w (((((W.setCell ⟨b,4+k,I⟩ (R T)).setCell ⟨w.heap.size,0,I⟩ v0).setCell ⟨w.heap.size,1,I⟩ v1).setCell ⟨w.heap.size,2,I⟩ v2).setCell ⟨w.heap.size,3,I⟩ v3)):=by
  intro v0 v1 v2 v3;refine⟨HS.out.keep (G:=fun j=>j=w.heap.size) (But.set4 (F:=fun j=>j=w.heap.size) (But.refl _ _) w.heap.size (.inr rfl) v0 v1 v2 v3) hne,?_⟩;have h1:But (fun j=>j=b) w (W.setCell ⟨b,4+k,I⟩ (R T)):=But.setCell (F:=fun j=>j=b) (But.yhl HB.out) (a:=⟨b,4+k,I⟩) (.inr rfl) _;exact h1.set4 w.heap.size (.inl (kV _)) v0 v1 v2 v3
 go_enter Tryz.func228,Tryz.ntmps228
 go_wp2_with fail
 rw[<-hW];refine HW.mono ?_;rintro e w' ⟨rfl,hw⟩;subst w';clear hW HW
 go_wp2_with fail
 refine z (v:=kP #[kZ #[B J mp,B J ms,B J mf,B J mr],R kS]) ?_ rfl ⟨rfl,fin.out _ _ _ _⟩;simp[results,Tryz.results228,go_sem,y0,y1,y2,y3]
theorem ydr (x:Pg.Mp) (n:Nat) (w:V) (h:jm w b m f) (ho:Pg.yj7 f=kS) (h1:1<=n) (h4:n<=4):
 kJ Q 219 #[M (N ⟨b,0,I⟩),x.val,B J (n:Int)] w fun e w'=>e=U (R kS)/\jm w' b x (Pg.yjm n f)/\But (fun j=>j=b) w w':=by
 obtain⟨W,hW⟩:∃W,W=w.alloc (D #[B J x.p,B J x.s,B J x.f,B J x.r] 76):=⟨_,rfl⟩
 have hB:Below w.heap.size w W:=by rw[hW];exact zA (zR w) _
 have hh:=h.grow hB;have HO:=yaA _ hh;rw[ho]at HO;have HS:O _:=hh.told x;have HB2:O (But (fun j=>j=b) w ((((W.setCell ⟨b,0,I⟩ (B J x.p)).setCell ⟨b,1,I⟩ (B J x.s)).setCell ⟨b,2,I⟩ (B J x.f)).setCell ⟨b,3,I⟩ (B J x.r))):=But.set4 (F:=fun j=>j=b) (But.yhl hB) b (.inr rfl) _ _ _ _;obtain⟨c0,c1,c2,c3⟩:=hh.cm;have z0:=hh.fz 0;have z1:=hh.fz 1;have z2:=hh.fz 2;have z3:=hh.fz 3;simp only[kQ]at c1 c2 c3;have hlb:=hh.lb
 have hne:¬b=w.heap.size:=by have:=h.lb;omega
 have y0:W.cell? ⟨w.heap.size,0,I⟩=N (B J x.p):=by simp[hW,go_sem]
 have y1:W.cell? ⟨w.heap.size,1,I⟩=N (B J x.s):=by simp[hW,go_sem]
 have y2:W.cell? ⟨w.heap.size,2,I⟩=N (B J x.f):=by simp[hW,go_sem]
 have y3:W.cell? ⟨w.heap.size,3,I⟩=N (B J x.r):=by simp[hW,go_sem]
 have i1:¬(n:Int)<1:=by omega
 have i4:¬(4:Int)<(n:Int):=by omega
 clear h hh hB ho;obtain⟨xp,xs,xf,xr⟩:=x;simp only[Pg.Mp.val]at*
 go_enter Tryz.func219,Tryz.ntmps219
 go_wp2_with fail
 rw[<-hW];refine HO.mono ?_;rintro e w' ⟨rfl,hw⟩;subst w';clear hW HO
 go_wp2_with fail
 go_loopw [7,24] (fun _ i wr=>∃j:Nat,j<=n/\i=B J j/\O (jm wr b ⟨xp,xs,xf,xr⟩ (Pg.yjm j f)/\But (fun j=>j=b) w wr)) (fun _ i _=>n-(intOf i).toNat)
 case atStart=>exact⟨0,by omega,rfl,ycJ HS.out fun k _=>by simp[Pg.yjm],HB2.out⟩
 case round=>
  obtain⟨j,hj,rfl,HR⟩:=hrel;clear HS HB2 c0 c1 c2 c3 z0 z1 z2 z3 y0 y1 y2 y3
  by_cases hlt:j<n
  ·have fz:=HR.out.1.fz (4+j)
   have hc:=HR.out.1.cw j (by omega);have hlb2:=HR.out.1.lb
   have j0:(0:Int)<=(j:Int):=by omega
   have j1:(j:Int)<(n:Int):=by omega
   have j4:(j:Int)<4:=by omega
   have j2:¬(4:Int)<=(j:Int):=by omega
   have j3:¬(j:Int)<0:=by omega
   have fin:O (jm (wr.setCell ⟨b,4+j,I⟩ (R kS)) b ⟨xp,xs,xf,xr⟩ (Pg.yjm (j+1) f)/\But (fun j=>j=b) w (wr.setCell ⟨b,4+j,I⟩ (R kS))):=by
    refine⟨ycJ (HR.out.1.set (by omega) kS) fun k _=> ?_,But.setCell (F:=fun j=>j=b) HR.out.2 (a:=⟨b,4+j,I⟩) (.inr rfl) _⟩
    by_cases e:k=j
    ·simp[Pg.yjm,e]
    ·simp only[Pg.yjm,e,if_false]
     congr 1
     rw[decide_eq_decide];omega
   go_wp2_with fail
   go_roundw
   case rel=>exact⟨j+1,by omega,by go_num,fin.out⟩
   case measure=>simp[intOf];omega
  ·have j1:¬(j:Int)<(n:Int):=by omega
   have e:j=n:=by omega
   go_wp2_with fail
   go_ret
   subst e;exact⟨rfl,HR.out⟩
end
end
section
theorem zl.but {w w':V} {ad:Option Addr} {L:List Int} {G:Nat->Prop} (h:zl w ad L) (hb:But G w w') (hn:∀g,ad=N ⟨g,0,I⟩->¬G g):zl w' ad L:=fun j hj=>by
 obtain⟨g,e,hl,hc⟩:=h j hj;exact⟨g,e,E hl hb.size,(hb.cell (a:=⟨g,j,I⟩) hl (hn g e)).trans hc⟩
theorem yeg (p:Int) (ts:List Int):∀(k:Nat) (S:Pg.Fs) (G:List Int),(Pg.rmW p ts k S G).2.length<=G.length+k
 | 0,S,G=>by simp[Pg.rmW]
 | k+1,S,G=>by
   rw[Pg.rmW];split
   ·exact Nat.le_add_right _ _
   ·have:=yeg p ts k (S.store (ts.getD k 0) (Pg.index p (3-(k:Int))) 0) (G++[ts.getD k 0])
    simp at this ⊢;omega
theorem yfF (S:Pg.Fs) (t p:Int):(Pg.rmR S t p).2.length<=4680:=by
 unfold Pg.rmR;split
 ·have h1:=yeg p (tabs (zj S t p)) (zj S t p).length S []
  have h2:=yeQ S t p;rw[List.length_nil]at h1;omega
 ·simp
set_option linter.unusedSimpArgs false
def Pg.Ev.val (e:Pg.Ev):kC:=kZ #[B J e.c,R e.ended,B J e.a,B J e.f,B J e.r,R e.back]
def Pg.Sx.val (x:Pg.Sx):kC:=kZ #[B J x.kind,B J x.core,B J x.m.p,B J x.m.s,B J x.m.f,B J x.m.r,B J x.q,B J x.k,R x.u]
theorem z9 {w:V} {r:Nat} {v0 v1 v2 v3 v4 v5:kC} {t:TypeId} (h:w.heap[r]?=N (D #[v0,v1,v2,v3,v4,v5] t (0,0))):
 (w.cell? ⟨r,0,I⟩=N v0/\w.cell? ⟨r,1,I⟩=N v1/\w.cell? ⟨r,2,I⟩=N v2/\w.cell? ⟨r,3,I⟩=N v3/\w.cell? ⟨r,4,I⟩=N v4/\w.cell? ⟨r,5,I⟩=N v5)/\∀i,w.frozen? ⟨r,i,I⟩=T:=
 ⟨by simp[World.cell?,h],fun i=>by simp[kY,h]⟩
theorem ycR {w w1:V} (h:Below w.heap.size w w1) (r:Nat) (hr:w.heap.size<=r) (x0 x1 x2 x3 x4 x5:kC):Below w.heap.size w ((((((w1.setCell ⟨r,0,I⟩ x0).setCell ⟨r,1,I⟩ x1).setCell ⟨r,2,I⟩ x2).setCell ⟨r,3,I⟩ x3).setCell ⟨r,4,I⟩ x4).setCell ⟨r,5,I⟩ x5):=
 (((((h.setCell (p:=⟨r,0,I⟩) hr x0).setCell (p:=⟨r,1,I⟩) hr x1).setCell (p:=⟨r,2,I⟩) hr x2).setCell (p:=⟨r,3,I⟩) hr x3).setCell (p:=⟨r,4,I⟩) hr x4).setCell (p:=⟨r,5,I⟩) hr x5
theorem ycx {F:Nat->Prop} {w w1:V} (h:But F w w1) (r:Nat) (hr:w.heap.size<=r\/F r) (x0 x1 x2 x3 x4 x5:kC):But F w ((((((w1.setCell ⟨r,0,I⟩ x0).setCell ⟨r,1,I⟩ x1).setCell ⟨r,2,I⟩ x2).setCell ⟨r,3,I⟩ x3).setCell ⟨r,4,I⟩ x4).setCell ⟨r,5,I⟩ x5):=
 (((((h.setCell (a:=⟨r,0,I⟩) hr x0).setCell (a:=⟨r,1,I⟩) hr x1).setCell (a:=⟨r,2,I⟩) hr x2).setCell (a:=⟨r,3,I⟩) hr x3).setCell (a:=⟨r,4,I⟩) hr x4).setCell (a:=⟨r,5,I⟩) hr x5
theorem Pg.ylp (S:Pg.Fs) (p:Int):Pg.fits (Pg.tFM S 0 p).p:=by
 unfold Pg.tFM;split
 ·exact Pg.yk3 _ _ _
 ·unfold Pg.fits Pg.Mp.zz;simp
theorem Pg.pm_fits (S:Pg.Fs) (p r:Int):Pg.fits (Pg.prM S 0 p r).p:=by
 unfold Pg.prM;split
 ·exact Pg.ylp S p
 ·unfold Pg.fits Pg.Mp.zz;simp
def chW (w:V) (x:Pg.Sx):V:=(w.alloc (D #[B J x.kind,B J x.core,B J x.m.p,B J x.m.s,B J x.m.f,B J x.m.r,B J x.q,B J x.k,R x.u] 80)).alloc (D #[B J 0,R T,B J 0,B J 0,B J 0,R T] 73)
structure ChW (w W:V) (x:Pg.Sx):Prop where
 bel:Below w.heap.size w W
 size:W.heap.size=w.heap.size+2
 x0:W.cell? ⟨w.heap.size,0,I⟩=N (B J x.kind)
 x1:W.cell? ⟨w.heap.size,1,I⟩=N (B J x.core)
 x2:W.cell? ⟨w.heap.size,2,I⟩=N (B J x.m.p)
 x3:W.cell? ⟨w.heap.size,3,I⟩=N (B J x.m.s)
 x4:W.cell? ⟨w.heap.size,4,I⟩=N (B J x.m.f)
 x5:W.cell? ⟨w.heap.size,5,I⟩=N (B J x.m.r)
 x6:W.cell? ⟨w.heap.size,6,I⟩=N (B J x.q)
 x7:W.cell? ⟨w.heap.size,7,I⟩=N (B J x.k)
 x8:W.cell? ⟨w.heap.size,8,I⟩=N (R x.u)
 ev:W.heap[w.heap.size+1]?=N (D #[B J 0,R T,B J 0,B J 0,B J 0,R T] 73 (0,0))
theorem qx (w:V) (x:Pg.Sx):ChW w (chW w x) x:=by
 refine⟨zA (zA (zR w) _) _,by simp[chW],?_,?_,?_,?_,?_,?_,?_,?_,?_,?_⟩
 iterate 9 (unfold chW;simp[go_sem])
 unfold chW;exact(by simp:(w.alloc (D #[B J x.kind,B J x.core,B J x.m.p,B J x.m.s,B J x.m.f,B J x.m.r,B J x.q,B J x.k,R x.u] 80)).heap.size=w.heap.size+1)▸kI _ _
def xi (x:Pg.Sx):Prop:=Pg.fits x.m.p/\Pg.fits x.m.s/\Pg.fits x.m.f/\Pg.fits x.m.r/\Pg.fits x.q/\Pg.fits x.k
def Pg.Spc.walkOf (X:Pg.Spc) (k:Int):Pg.Wk:=if 0<=k then(X.C.getD k.toNat Pg.Cr.new).K else Pg.Wk.off
def Pg.Spc.linesOf (X:Pg.Spc) (k:Int):List Pg.Ln:=if 0<=k then(X.C.getD k.toNat Pg.Cr.new).L else []
def Pg.Spc.waitsOf (X:Pg.Spc) (k:Int):Bool:=decide (0<=k)&&X.W.getD k.toNat false
end
abbrev xT (l:List UInt8):ByteArray:=⟨l.toArray⟩
theorem qk (l:List UInt8):(xT l).data.toList=l:=by simp[xT]
theorem qm (l:List UInt8):(xT l).size=l.length:=by show l.toArray.size=_;simp
theorem yem (s:ByteArray):xT s.data.toList=s:=by
 cases s;simp[xT]
def qn (L:List (List UInt8)):List kC:=L.map fun l=> .string (xT l)
def zt (w:V) (ad:Option Addr) (L:List (List UInt8)):Prop:=∀j,j<L.length->∃g o,ad=N ⟨g,o,I⟩/\g<w.heap.size/\w.cell? ⟨g,o+j,I⟩=N (.string (xT (L.getD j [])))
theorem zt.below {w w':V} {ad:Option Addr} {L:List (List UInt8)} (h:zt w ad L) (hb:Below w.heap.size w w'):zt w' ad L:=by
 intro j hj;obtain⟨g,o,e,hg,hm⟩:=h j hj;exact⟨g,o,e,E hg hb.size,(hb.cell (p:=⟨g,o+j,I⟩) hg).trans hm⟩
theorem ybA (s:ByteArray) (hs:s.size<=1000000) (w:V):
 kJ Q 65 #[.string s,.string ⟨#[32]⟩] w fun e w'=>e=U (kP #[.string (xT (Lib.cut s.data.toList [32]).1),.string (xT (Lib.cut s.data.toList [32]).2.1),R (Lib.cut s.data.toList [32]).2.2])/\Below w.heap.size w w':=by
 have ho:Lib.indexByte s.data.toList 32=Lib.indexB s ⟨#[32]⟩:=(Lib.index_one s.data.toList 32).symm;have HI:=Tryz.stringslite_Index_one s 32 w;rcases Lib.indexB_cases s ⟨#[32]⟩with hix|⟨i,hix,hroom⟩
 ·obtain⟨e1,e2,e3⟩:=Lib.cutB_miss s ⟨#[32]⟩ hix
  have e1:xT (Lib.cut s.data.toList [32]).1=s:=e1;have e2:xT (Lib.cut s.data.toList [32]).2.1=ByteArray.empty:=e2;have e3:(Lib.cut s.data.toList [32]).2.2=T:=e3;rw[e1,e2,e3];rw[ho,hix]at HI;clear ho hix e1 e2 e3
  go_enter Tryz.func65,Tryz.ntmps65
  go_wp2_with fail
  refine HI.mono ?_;rintro e w' ⟨rfl,rfl⟩
  go_wp2_with fail
  refine z (v:=kP #[.string s,.string ByteArray.empty,R T]) ?_ rfl ⟨rfl,zR _⟩;simp[results,Tryz.results65,go_sem];rfl
 ·obtain⟨e1,e2,e3⟩:=Lib.cutB_hit s ⟨#[32]⟩ i hix
  have e1:xT (Lib.cut s.data.toList [32]).1=s.extract 0 i:=e1;have e2:xT (Lib.cut s.data.toList [32]).2.1=s.extract (i+1) s.size:=e2;have e3:(Lib.cut s.data.toList [32]).2.2=kS:=e3;have hroom:i+1<=s.size:=hroom;rw[e1,e2,e3];rw[ho,hix]at HI
  have c1:(0:Int)<= ↑i:=by omega
  have c2:(↑i:Int)<= ↑s.size:=by omega
  have c3:(0:Int)<= ↑i+1:=by omega
  have c4:(↑i+1:Int)<= ↑s.size:=by omega
  clear ho hix e1 e2 e3
  go_enter Tryz.func65,Tryz.ntmps65
  go_wp2_with fail
  refine HI.mono ?_;rintro e w' ⟨rfl,rfl⟩
  go_wp2_with (go_region)
  refine z (v:=kP #[.string (s.extract 0 i),.string (s.extract (i+1) s.size),R kS]) ?_ rfl ⟨rfl,(zR _).drew⟩;simp[results,Tryz.results65,go_sem]
theorem ycs (s:ByteArray) (hs:s.size<=1000000) (w:V):
 kJ Q 38 #[.string s,.string ⟨#[32]⟩] w fun e w'=>e=U (kP #[.string (xT (Lib.cut s.data.toList [32]).1),.string (xT (Lib.cut s.data.toList [32]).2.1),R (Lib.cut s.data.toList [32]).2.2])/\Below w.heap.size w w':=by
 have HC:=ybA s hs w
 go_enter Tryz.func38,Tryz.ntmps38
 go_wp2_with fail
 refine HC.mono ?_;rintro e w' ⟨rfl,hb⟩;have HB:O _:=hb;clear hb HC
 go_wp2_with fail
 refine z (v:=kP #[.string (xT (Lib.cut s.data.toList [32]).1),.string (xT (Lib.cut s.data.toList [32]).2.1),R (Lib.cut s.data.toList [32]).2.2]) ?_ rfl ⟨rfl,HB.out⟩;simp[results,Tryz.results38,go_sem]
end Go.Proofs.YtdphiompijbelaaGreatDoor
