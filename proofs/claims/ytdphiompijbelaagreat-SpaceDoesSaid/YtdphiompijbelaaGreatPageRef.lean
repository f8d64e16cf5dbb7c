import Derived.Test.YtdphiompijbelaaGreatShB
import Derived.Deep.RegionLaw
set_option linter.all false
set_option maxRecDepth 100000
open Go.Obj renaming cells->y
open Nat renaming lt_of_lt_of_le->M,le_succ->kC,zero_le->kR
open Go renaming World->Q,Calls->K,bodyPost_ret->z,heap_alloc_new->kI,Value->kS,cell_later->kN
open Bool renaming false->V,true->Z
open Go.World renaming cell?_of_block->N,frozen?_of_block->Y,block_lt_of_cell?->X,news_of_block->kJ
open Go.Proofs.Tryz renaming prog->R
open Go.Ending renaming returned->C
open Go.RowKit renaming Hid->P
open Option renaming none->B,some->S
open Go.Value renaming int->J,bool->T,slice->U,pointer->O,slice->E,ownBlock->D,agg->A,int->kP,tuple->kY
open Go.IntKind renaming i64->I
set_option maxHeartbeats 4000000
namespace Go.Proofs.YtdphiompijbelaaGreat
open Go.RowKit
section
open Go.Sort
structure Chg (b o:Nat) (F:Nat->Prop) (w w':Q):Prop where
 but:But F w w'
 oth:∀p,p≠o->w'.cell? ⟨b,p,B⟩=w.cell? ⟨b,p,B⟩
theorem Chg.ygr {b o:Nat} {F:Nat->Prop} {w w':Q} (h:Below w.heap.size w w') (hb:b<w.heap.size):Chg b o F w w':=⟨But.ygr h,fun p _=>h.cell (p:=⟨b,p,B⟩) hb⟩
theorem Chg.trans {b o:Nat} {F G:Nat->Prop} {w w1 w2:Q} (h:Chg b o F w w1) (k:Chg b o G w1 w2) (hG:∀i,i<w.heap.size->G i->F i):Chg b o F w w2:=
 ⟨h.but.trans k.but hG,fun p hp=>(k.oth p hp).trans (h.oth p hp)⟩
structure Tbk (w:Q) (b o:Nat) (vb:kS) (L:List Pg.Ln):Prop where
 c0:w.cell? ⟨b,o,B⟩=S vb
 fb:∀p,w.frozen? ⟨b,p,B⟩=V
 row:w.ownsRow 0 139 5 vb L.length (zL L)
 nb:vb.ownBlock≠S b
 kept:Pg.Kept L
namespace Tbk
variable {w w' W:Q} {b o:Nat} {vb v':kS} {L L':List Pg.Ln}
theorem lb (h:Tbk w b o vb L):b<w.heap.size:=X _ _ h.c0
theorem lt (h:Tbk w b o vb L) {k:Nat} (hk:bkF b vb k):k<w.heap.size:=by
 rcases hk with rfl|hk
 ·exact h.lb
 ·exact(h.row.lt k hk).2
theorem keep (h:Tbk w b o vb L) {F:Nat->Prop} (hb:But F w w') (hF:∀k,bkF b vb k->¬F k):Tbk w' b o vb L:=by
 have kb:=hb.block b h.lb (hF b (.inl rfl));exact⟨(N kb).trans h.c0,fun p=>(Y kb).trans (h.fb p),zb h.row hb fun k hk=>hF k (.inr hk),h.nb,h.kept⟩
theorem grow (h:Tbk w b o vb L) (hb:Below w.heap.size w w'):Tbk w' b o vb L:=h.keep (F:=fun _=>False) (But.ygr hb) (fun _ _=>id)
theorem put (h:Tbk w b o vb L) (hb:But (fun j=>vb.ownBlock=S j) w W) (hr:W.ownsRow 0 139 5 v' L'.length (zL L')) (hv:∀j,v'.ownBlock=S j->vb.ownBlock=S j\/w.heap.size<=j) (hg:Pg.Kept L'):
 Tbk (W.setCell ⟨b,o,B⟩ v') b o v' L'/\Chg b o (bkF b vb) w (W.setCell ⟨b,o,B⟩ v')/\(∀k,bkF b v' k->bkF b vb k\/w.heap.size<=k):=by
 have hl:=h.lb;have kb:W.heap[b]?=w.heap[b]?:=hb.block b hl h.nb;have hc:W.cell? ⟨b,o,B⟩=S vb:=(N (a:=⟨b,o,B⟩) kb).trans h.c0;have hne:v'.ownBlock≠S b:=fun e=>(hv b e).elim h.nb (fun h=>by omega);refine⟨⟨World.cell?_setCell_same _ _ _ hc,fun p=> ?_,?_,hne,hg⟩,⟨?_,fun p hp=> ?_⟩,fun k hk=> ?_⟩
 ·have:=(Y (a:=⟨b,p,B⟩) kb).trans (h.fb p)
  simpa using this
 ·exact za hr fun k hk=>Below.heap_setCell _ _ _ _ (fun e=>hne (by rw[hk];exact congrArg S e))
 ·exact(hb.mono (G:=bkF b vb) fun i _ hi=> .inr hi).setCell (a:=⟨b,o,B⟩) (.inr (.inl rfl)) _
 ·rw[World.cell?_setCell_other _ _ _ _ (fun e=>hp (by injection e with _ e;exact e.symm))]
  exact N (a:=⟨b,p,B⟩) kb
 ·rcases hk with rfl|hk
  ·exact .inl (.inl rfl)
  ·exact(hv k hk).imp .inr id
end Tbk
structure jy (w:Q) (b o:Nat) (L:List Pg.Ln) (F:Nat->Prop):Prop where
 ex:∃vb,Tbk w b o vb L/\F=bkF b vb
section
variable {w w':Q} {b o:Nat} {L:List Pg.Ln} {F G:Nat->Prop}
theorem jy.lt (h:jy w b o L F) {k:Nat} (hk:F k):k<w.heap.size:=by
 obtain⟨vb,h,rfl⟩:=h;exact h.lt hk
theorem jy.kept (h:jy w b o L F):Pg.Kept L:=by
 obtain⟨vb,h,rfl⟩:=h;exact h.kept
theorem jy.keep (h:jy w b o L F) (hb:But G w w') (hF:∀k,F k->¬G k):jy w' b o L F:=by
 obtain⟨vb,h,rfl⟩:=h;exact⟨vb,h.keep hb hF,rfl⟩
theorem jy.grow (h:jy w b o L F) (hb:Below w.heap.size w w'):jy w' b o L F:=h.keep (G:=fun _=>False) (But.ygr hb) (fun _ _=>id)
end
theorem yfz {w:Q} {vb:kS} {L:List Pg.Ln} {t:TypeId} (hr:w.ownsRow 0 139 5 vb L.length (zL L)) (hg:Pg.Kept L):Tbk (w.alloc (y #[vb] t)) w.heap.size 0 vb L:=by
 have hb:=kI w (y #[vb] t);refine⟨cell_of_row _ _ 0 _ _ _ hb,fun o=>by unfold World.frozen?;simp only[hb];simp,hr.alloc _,fun e=> ?_,hg⟩;have:=(hr.lt _ e).2;omega
theorem yd9 (w:Q):
 K R 86 #[] w fun e w'=>∃b F,e=C (O (S ⟨b,0,B⟩))/\jy w' b 0 [] F/\Below w.heap.size w w'/\∀k,F k->w.heap.size<=k:=by
 go_enter Tryz.func86,Tryz.ntmps86
 go_wp2_with fail
 go_ret
 refine⟨_,_,rfl,⟨E B 0 0,yfz (World.ownsRow_nil _ _ _ _) Pg.Kept.nil,rfl⟩,zA (zR _) _,fun k hk=> ?_⟩;rcases hk with rfl|hk
 ·exact Nat.le_refl _
 ·simp[D]at hk
section
variable {b o:Nat} {L:List Pg.Ln} {F:Nat->Prop}
theorem ydg (w:Q) (h:jy w b o L F):
 K R 69 #[O (S ⟨b,o,B⟩)] w fun e w'=>∃ad cap,e=C (E ad L.length cap)/\xh w' ad L/\Below w.heap.size w w'/\∀k,(U ad L.length cap).ownBlock=S k->w.heap.size<=k:=by
 obtain⟨vb,h,rfl⟩:=h;have hc0:=h.c0;have HC:P _:=yca w h.row h.kept.le;clear h
 go_enter Tryz.func69,Tryz.ntmps69
 go_wp2_with fail
 refine Calls.mono HC.out ?_;rintro e w1 ⟨v',rfl,hr,hb⟩;obtain⟨ad,cap,rfl⟩:=zF hr;have HR:P _:=hr;have HB:P _:=hb;clear hr hb
 go_wp2_with fail
 go_ret
 exact⟨ad,cap,rfl,zl (zk.yhw HR.out),HB.out,fun k hk=>(World.ownsRow.lt HR.out k hk).1⟩
theorem ydA {bq oq:Nat} (q:Int) (hq:Pg.fits q) (l:Pg.Ln) (hl:Pg.fits l.m.p) (w:Q) (hc:w.cell? ⟨bq,oq,B⟩=S (J I q)):
 K R 177 #[l.val,O (S ⟨bq,oq,B⟩)] w fun e w'=>e=C (T (l.has q))/\Below w.heap.size w w':=by
 obtain⟨⟨p,s,f,r⟩,d⟩:=l;have hbq:=X _ _ hc;have HO:=j8 p s f r q hl hq;simp only[Pg.Ln.val,Pg.Ln.has,Pg.Mp.has];generalize Pg.over p s q=x at*
 go_enter Tryz.func177,Tryz.ntmps177
 go_wp2_with fail
 refine(HO _).mono ?_;rintro e w1 ⟨rfl,hb1⟩
 go_wp2_with fail
 go_ret
 exact⟨rfl,zT (zA (zR _) _) hb1⟩
theorem yds {bm om:Nat} (m:Pg.Mp) (hm:Pg.fits m.p) (l:Pg.Ln) (hl:Pg.fits l.m.p) (w:Q) (hc:yel w bm om m):
 K R 211 #[l.val,O (S ⟨bm,om,B⟩)] w fun e w'=>e=C (T (l.meets m))/\Below w.heap.size w w':=by
 obtain⟨⟨p,s,f,r⟩,d⟩:=l;obtain⟨p',s',f',r'⟩:=m;obtain⟨c0,c1,c2,c3⟩:=hc;have hbq:=X _ _ c0;have HO:=yeC p s f r p' s' f' r' hl hm;simp only at c0 c1 c2 c3;simp only[Pg.Ln.val,Pg.Ln.meets,Pg.Mp.meets];generalize Pg.meet p s p' s'=x at*
 go_enter Tryz.func211,Tryz.ntmps211
 go_wp2_with fail
 refine(HO _).mono ?_;rintro e w1 ⟨rfl,hb1⟩
 go_wp2_with fail
 go_ret
 exact⟨rfl,zT (zA (zR _) _) hb1⟩
theorem qk {w w1:Q} (h:Below w.heap.size w w1) (r:Nat) (hr:w.heap.size<=r) (x0 x1 x2 x3 x4:kS):
 Below w.heap.size w (((((w1.setCell ⟨r,0,B⟩ x0).setCell ⟨r,1,B⟩ x1).setCell ⟨r,2,B⟩ x2).setCell ⟨r,3,B⟩ x3).setCell ⟨r,4,B⟩ x4):=
 ((((h.setCell hr _).setCell hr _).setCell hr _).setCell hr _).setCell hr _
theorem jM (q:Int) (hq:Pg.fits q) (w:Q) (h:jy w b o L F):
 K R 141 #[O (S ⟨b,o,B⟩),J I q] w fun e w'=>e=C (kY #[(Pg.kAt L q).val,T (Pg.kFnd L q).isSome])/\Below w.heap.size w w':=by
 obtain⟨vb,h,rfl⟩:=h;obtain⟨ad,cap,rfl⟩:=zF h.row;obtain⟨W,hW⟩:∃W,W=(w.alloc (y #[J I q] 3)).alloc (y #[J I 0,J I 0,J I 0,J I 0,T V] 139):=⟨_,rfl⟩
 have hB:Below w.heap.size w W:=by rw[hW];exact zA (zA (zR _) _) _
 have hT:=h.grow hB
 have k1:W.cell? ⟨w.heap.size,0,B⟩=S (J I q):=by rw[hW];simp[go_sem]
 have HI:=vp (cap:=cap) (fun l=>l.has q) 177 #[O (S ⟨w.heap.size,0,B⟩)] W (zl (zk.yhw hT.row)) h.kept.le (fun args w=>by simp[go_sem]) (fun j w' hj hb=>ydA q hq _ (h.kept.fits hj) w' (kN hb k1));have hlb:=h.lb;have hc0:=hT.c0;have hc00:=h.c0;have hlen:=h.kept.le
 have hsz:W.heap.size=w.heap.size+2:=by rw[hW];simp
 cases hf:Pg.kFnd L q with
 | none=>
   have e1:Pg.kAt L q= .zz:=by simp only[Pg.kAt,hf]
   have e2:Pg.idxN L (fun l=>l.has q)= -1:=by
    unfold Pg.kFnd at hf;simp only[Pg.idxN,hf]
   rw[e2]at HI;have HB:P _:=hB;rw[e1];clear e1 e2 hf h hT hB k1
   go_enter Tryz.func141,Tryz.ntmps141
   go_wp2_with fail
   rw[<-hW];refine HI.mono ?_;rintro e w1 ⟨rfl,hb1⟩;have hr:∀p,w1.cell? ⟨w.heap.size+1,p,B⟩=_:=fun p=>hb1.cell (p:=⟨w.heap.size+1,p,B⟩) (by simp;omega);have hf:∀p,w1.frozen? ⟨w.heap.size+1,p,B⟩=_:=fun p=>hb1.frozen (p:=⟨w.heap.size+1,p,B⟩) (by simp;omega);rw[hW]at hr hf;have HB1:P _:=zT HB.out hb1;clear hb1 HI HB hc0 hc00 hW
   go_wp2_with fail
   refine z (v:=kY #[A #[J I 0,J I 0,J I 0,J I 0,T V],T V]) ?_ rfl ⟨rfl,?_⟩
   ·simp[results,Tryz.results141,go_sem,hr]
   ·exact qk HB1.out _ (kC _) _ _ _ _ _
 | some k=>
   obtain⟨hk,_,_⟩:=Pg.yht hf
   have e1:Pg.kAt L q=L.getD k .zz:=by simp only[Pg.kAt,hf]
   have e2:Pg.idxN L (fun l=>l.has q)=(k:Int):=by
    unfold Pg.kFnd at hf;simp only[Pg.idxN,hf]
   rw[e2]at HI;obtain⟨g,og,e3,hg,hm⟩:=zl (zk.yhw hT.row) k hk;subst e3;have HB:P _:=hB;rw[e1]
   have i0:(0:Int)<=(k:Int):=by omega
   have i1:(k:Int)<(L.length:Int):=by omega
   have i2:¬(k:Int)<0:=by omega
   have hbW:b<W.heap.size:=M hlb hB.size;clear e1 e2 hf h hT hB k1;generalize L.getD k .zz=x at*;obtain⟨⟨xp,xs,xf,xr⟩,xd⟩:=x;simp only[Pg.Ln.val]
   go_enter Tryz.func141,Tryz.ntmps141
   go_wp2_with fail
   rw[<-hW];refine HI.mono ?_;rintro e w1 ⟨rfl,hb1⟩;have hr:∀p,w1.cell? ⟨w.heap.size+1,p,B⟩=_:=fun p=>hb1.cell (p:=⟨w.heap.size+1,p,B⟩) (by simp;omega);have hf:∀p,w1.frozen? ⟨w.heap.size+1,p,B⟩=_:=fun p=>hb1.frozen (p:=⟨w.heap.size+1,p,B⟩) (by simp;omega);rw[hW]at hr hf;have HB1:P _:=zT HB.out hb1;have c0:=kN hb1 hc0;obtain⟨m0,m1,m2,m3,m4⟩:=hm.below hb1 hg;simp only at m0 m1 m2 m3 m4;have hbw:b<w1.heap.size:=M hbW hb1.size;clear hb1 HI HB hc0 hc00 hW hm
   go_wp2_with fail
   refine z (v:=kY #[A #[J I xp,J I xs,J I xf,J I xr,T xd],T Z]) ?_ rfl ⟨rfl,?_⟩
   ·simp[results,Tryz.results141,go_sem,hr]
   ·exact qk HB1.out _ (kC _) _ _ _ _ _
end
section
variable {b o:Nat} {L:List Pg.Ln} {F:Nat->Prop}
theorem yaz (m:Pg.Mp) (hm:Pg.fits m.p) (w:Q) (h:jy w b o L F):
 K R 183 #[O (S ⟨b,o,B⟩),m.val] w fun e w'=>e=C (J I ((L.length:Int)-((Pg.ygU L m).length:Int)))/\∃F',jy w' b o (Pg.ygU L m) F'/\Chg b o F w w'/\∀k,F' k->F k\/w.heap.size<=k:=by
 obtain⟨vb,h,rfl⟩:=h;obtain⟨ad,cap,rfl⟩:=zF h.row;obtain⟨W,hW⟩:∃W,W=w.alloc (y #[J I m.p,J I m.s,J I m.f,J I m.r] 39):=⟨_,rfl⟩
 have hB:Below w.heap.size w W:=by rw[hW];exact zA (zR _) _
 have hT:=h.grow hB
 have k1:yel W w.heap.size 0 m:=by rw[hW];exact⟨by simp[go_sem],by simp[go_sem],by simp[go_sem],by simp[go_sem]⟩
 have hsz:W.heap.size=w.heap.size+1:=by rw[hW];simp
 have hno:¬(U ad L.length cap).ownBlock=S w.heap.size:=fun e=>by have:=(h.row.lt _ e).2;omega
 have HD:=ybV (cap:=cap) (fun l=>l.meets m) 211 #[O (S ⟨w.heap.size,0,B⟩)] W hT.row h.kept.le (fun args w=>by simp[go_sem]) (fun j w' hj hb=>yds m hm _ (h.kept.fits hj) w' ⟨(hb.cell (a:=⟨w.heap.size,0,B⟩) (by simp;omega) hno).trans k1.1,(hb.cell (a:=⟨w.heap.size,0+1,B⟩) (by simp;omega) hno).trans k1.2.1,(hb.cell (a:=⟨w.heap.size,0+2,B⟩) (by simp;omega) hno).trans k1.2.2.1,(hb.cell (a:=⟨w.heap.size,0+3,B⟩) (by simp;omega) hno).trans k1.2.2.2⟩);have e1:(L.filter fun l=> !l.meets m)=Pg.ygU L m:=rfl;rw[e1]at HD;have hlb:=h.lb;have hc0:=h.c0;have hlen:=h.kept.le;have hlen':=(h.kept.drop m).le;have HT:P _:=hT;have HX:P _:=h;have HB:P _:=hB;have HK:P _:=h.kept.drop m;clear h hT hB k1 e1 hno;generalize Pg.ygU L m=L' at*;obtain⟨mp,ms,mf,mr⟩:=m;simp only[Pg.Mp.val];simp only at hW
 go_enter Tryz.func183,Tryz.ntmps183
 go_wp2_with fail
 rw[<-hW];refine HD.mono ?_;rintro e w1 ⟨rfl,hr,hb1⟩;have kb:w1.heap[b]?=W.heap[b]?:=hb1.block b (by omega) HT.out.nb;have c0:w1.cell? ⟨b,o,B⟩=S (E ad L.length cap):=(N (a:=⟨b,o,B⟩) kb).trans HT.out.c0;have cf:w1.frozen? ⟨b,o,B⟩=V:=(Y (a:=⟨b,o,B⟩) kb).trans (HT.out.fb o);have HF:P _:=HT.out.put hb1 hr (fun j hj=> .inl (by cases ad with|none=>exact absurd hj (by simp[D])|some a=>exact hj)) HK.out;clear hb1 hr kb HD hc0 hW
 go_wp2_with fail
 go_ret
 obtain⟨f1,f2,f3⟩:=HF.out;refine⟨rfl,_,⟨_,f1,rfl⟩,(Chg.ygr (o:=o) HB.out hlb).trans f2 (fun i _ hi=>hi),fun k hk=>(f3 k hk).imp id (fun h=>by omega)⟩
theorem vK (w:Q) (h:jy w b o L F):
 K R 150 #[O (S ⟨b,o,B⟩)] w fun e w'=>e=C (T (decide (0<L.length)))/\∃F',jy w' b o (L.drop 1) F'/\Chg b o F w w'/\∀k,F' k->F k\/w.heap.size<=k:=by
 obtain⟨vb,h,rfl⟩:=h;obtain⟨ad,cap,rfl⟩:=zF h.row;have hlb:=h.lb;have hc0:=h.c0;have hlen:=h.kept.le
 by_cases h0:0<L.length
 ·have HD:P _:=ya3 w h.row hlen h0
  have HX:P _:=h
  have e0:P (decide (0<L.length)=Z):=by simp[P,h0]
  have n0:((L.length:Int)==0)=V:=by
   have:¬(L.length:Int)=0:=by omega
   simpa using this
  clear h
  go_enter Tryz.func150,Tryz.ntmps150
  go_wp2_with fail
  refine Calls.mono HD.out ?_;rintro e w1 ⟨g,cap',he,rfl,hr,hb1⟩;cases he;have kb:w1.heap[b]?=w.heap[b]?:=hb1.block b (by omega) HX.out.nb;have c0:w1.cell? ⟨b,o,B⟩=S (E (S ⟨g,0,B⟩) L.length cap):=(N (a:=⟨b,o,B⟩) kb).trans HX.out.c0;have cf:w1.frozen? ⟨b,o,B⟩=V:=(Y (a:=⟨b,o,B⟩) kb).trans (HX.out.fb o);have HF:P _:=HX.out.put hb1 hr (fun j hj=> .inl hj) HX.out.kept.tail;clear hb1 hr kb HD hc0
  go_wp2_with fail
  go_ret
  obtain⟨f1,f2,f3⟩:=HF.out;refine⟨xi e0.out.symm,_,⟨_,f1,rfl⟩,f2,f3⟩
 ·have hL:L=[]:=List.length_eq_zero_iff.1 (by omega)
  subst hL;have HX:P _:=h;clear h
  go_enter Tryz.func150,Tryz.ntmps150
  go_wp2_with fail
  go_ret
  exact⟨rfl,_,⟨_,HX.out,rfl⟩,Chg.ygr (zR _) hlb,fun k hk=> .inl hk⟩
theorem yea (l:Pg.Ln) (hm:Pg.fits l.m.p) (w:Q) (h:jy w b o L F):
 K R 146 #[O (S ⟨b,o,B⟩),l.val] w fun e w'=>e=C (T (l.m.code==0))/\∃F',jy w' b o (Pg.kPut L l) F'/\Chg b o F w w'/\∀k,F' k->F k\/w.heap.size<=k:=by
 have HX:P _:=h;have hlF:∀k,F k->k<w.heap.size:=fun k hk=>h.lt hk;have HCK:=xO l.m.p l.m.s l.m.f l.m.r
 have hlb:b<w.heap.size:=by obtain⟨vb,h,_⟩:=h;exact h.lb
 by_cases hcode:l.m.code=0
 ·have hce:Pg.check l.m.p l.m.s l.m.f l.m.r=0:=hcode
  rw[hce]at HCK
  have hr:(l.m.code==0)=Z:=by simp[hcode]
  have HKK:P (Pg.Kept (Pg.kPut L l)):=h.kept.put l;have HLL:P ((Pg.ygU L l.m).length<=6):=(h.kept.drop l.m).le;have HD:=fun w' (hb:Below w.heap.size w w')=>yaz l.m hm w' (h.grow hb);rw[hr];rw[Pg.yid hcode]at HKK ⊢;clear h hcode hce hr;generalize Pg.ygU L l.m=L1 at*;obtain⟨L2,hL2⟩:∃L2,L2=Pg.yhf L1:=⟨_,rfl⟩;rw[<-hL2]at HKK
  have HLR:P (L2.length<=5):=by rw[hL2];exact Pg.yhu HLL.out
  have HL2:P (L2=Pg.yhf L1):=hL2;clear hL2;obtain⟨⟨mp,ms,mf,mr⟩,d⟩:=l;simp only[Pg.Ln.val,Pg.Mp.val]at*;have E2:=fun w' F' (h:jy w' b o L1 F')=>vK w' h
  go_enter Tryz.func146,Tryz.ntmps146
  go_wp2_with fail
  refine(HCK _).mono ?_;rintro e w1 ⟨rfl,hb1⟩;have hx1:∀p,w1.cell? ⟨w.heap.size,p,B⟩=_:=fun p=>hb1.cell (p:=⟨w.heap.size,p,B⟩) (by simp);have hbb:Below w.heap.size w w1:=zT (zA (zR _) _) hb1
  have hs1:w.heap.size<w1.heap.size:=by have:=hb1.size;simp at this;omega
  have HB1:P _:=hbb;clear hb1 hbb HCK
  go_wp2_with fail
  refine(HD _ HB1.out).mono ?_;rintro e w2 ⟨rfl,F2,h2,hc2,hF2⟩
  have hnx:¬F w.heap.size:=fun hf=>by have:=hlF _ hf;omega
  have hx2:∀p,w2.cell? ⟨w.heap.size,p,B⟩=_:=fun p=>(hc2.but.cell (a:=⟨w.heap.size,p,B⟩) hs1 hnx).trans (hx1 p);have hs2:w.heap.size<w2.heap.size:=M hs1 hc2.but.size;have HC2:P (Chg b o F w w2):=(Chg.ygr (o:=o) HB1.out hlb).trans hc2 (fun i _ hi=>hi);have hF2:P (∀k,F2 k->F k\/w.heap.size<k):=fun k hk=>(hF2 k hk).imp id (fun h=>by omega);obtain⟨vb2,t2,hvb2⟩:=h2.ex;obtain⟨ad2,cap2,rfl⟩:=zF t2.row;have c20:=t2.c0;have l20:=t2.lb;clear t2 hvb2 hc2 HD hx1 HX
  by_cases h6:L1.length=6
  ·have i6:((L1.length:Int)==6)=Z:=by simp[h6]
   have eR:L1.drop 1=L2:=by rw[HL2.out];simp[Pg.yhf,h6]
   rw[eR]at E2;clear eR
   go_wp2_with fail
   refine(E2 _ _ h2).mono ?_;rintro e w3 ⟨rfl,F3,h3,hc3,hF3⟩;have hnx2:¬F2 w.heap.size:=fun hf=>(hF2.out _ hf).elim hnx (fun h=>by omega);have hx3:∀p,w3.cell? ⟨w.heap.size,p,B⟩=_:=fun p=>(hc3.but.cell (a:=⟨w.heap.size,p,B⟩) hs2 hnx2).trans (hx2 p);have lx3:w.heap.size<w3.heap.size:=M hs2 hc3.but.size;have HC3:P (Chg b o F w w3):=HC2.out.trans hc3 (fun i hi hg=>(hF2.out i hg).elim id (fun h=>by omega));have HF3:P (∀k,F3 k->F k\/w.heap.size<=k):=fun k hk=>(hF3 k hk).elim (fun h=>(hF2.out k h).imp id (fun h=>by omega)) (fun h=> .inr (by omega));have H3:P _:=h3;have x0:w3.cell? ⟨w.heap.size,0,B⟩=S (J I mp):=(hx3 0).trans (by simp[go_sem]);have x1:w3.cell? ⟨w.heap.size,1,B⟩=S (J I ms):=(hx3 1).trans (by simp[go_sem]);have x2:w3.cell? ⟨w.heap.size,2,B⟩=S (J I mf):=(hx3 2).trans (by simp[go_sem]);have x3:w3.cell? ⟨w.heap.size,3,B⟩=S (J I mr):=(hx3 3).trans (by simp[go_sem]);have x4:w3.cell? ⟨w.heap.size,4,B⟩=S (T d):=(hx3 4).trans (by simp[go_sem]);clear hc3 hx3 hx2 h3 h2 c20 hF3 E2;obtain⟨vb3,t3,rfl⟩:=H3.out.ex;obtain⟨ad3,cap3,rfl⟩:=zF t3.row;have hown:=t3.row;have r0:=t3.c0;have rf:=t3.fb o;have hlk:=t3.lb;have hn3:=t3.nb;have hlen3:L2.length<=5:=HLR.out;have HT3:P _:=t3;have HK3:P (Pg.Kept (L2++[⟨⟨mp,ms,mf,mr⟩,d⟩])):=HKK.out;obtain⟨q0,hqi,hz0,hz1,hz2⟩:=info_parts jl
   have hnews:∀(W:Q) (j:Nat) (u:kS),[kP I mp,J I ms,J I mf,J I mr,T d][j]?=S u->(W.alloc (y #[J I mp,J I ms,J I mf,J I mr,T d] 139)).cell? ((⟨W.heap.size,0,B⟩:Addr).add j)=S u:=fun W j u hu=>
    kJ (kI W _) j u hu
   have hone:∀u,u ∈ [kP I mp,J I ms,J I mf,J I mr,T d]->u.oneCell'=Z:=by
    intro u hu;simp at hu;rcases hu with rfl|rfl|rfl|rfl|rfl<;>rfl
   have hm1:L2.length+1<=maxLen:=by unfold maxLen;omega
   have hm2:(L2.length+1)*40<=140737488355328:=by omega
   have hlx:w.heap.size<w3.heap.size:=lx3;clear t3 lx3
   go_wp2_with fail
   go_region_law (refine step_append_lies _ rfl (.tmp 25) (.tmp 27) 61 rfl 0 139 q0 _ 5 40 Tryz.underlying61 hqi hz0 hz1 hz2 rfl (by decide) (E ad3 L2.length cap3) _ _ (by simp[Act.eval]) (hown.alloc _) ⟨w3.heap.size,0,B⟩ 1 1 [J I mp,J I ms,J I mf,J I mr,T d] (by simp[Act.eval]) rfl (hnews w3) hone (by decide) hm1 hm2 (kR _) (w3.heap.size+1) (by simp) ?_;intro g6 cap6 w6 hown6 hgrow6 hat6 hlt6;have hG6:P ((w3.alloc (y #[J I mp,J I ms,J I mf,J I mr,T d] 139)).drew.grownBy w6 (U ad3 L2.length cap3).ownBlock):=hgrow6;have hk6:w6.heap[b]?=w3.heap[b]?:=(hG6.out.block b (by simp;omega) (fun e=>hn3 e.symm)).trans (Below.heap_alloc _ _ _ hlk);have e9:w6.cell? ⟨b,o,B⟩=S (E ad3 L2.length cap3):=(N hk6).trans r0;have ef9:w6.frozen? ⟨b,o,B⟩=V:=(Y hk6).trans rf;have hO6:P (w6.ownsRow 0 139 5 (E (S ⟨g6,0,B⟩) (L2.length+1) cap6) (L2.length+1) (zL L2++[J I mp,J I ms,J I mf,J I mr,T d])):=hown6;have hA6:P ((U ad3 L2.length cap3).ownBlock=S g6\/g6=w3.heap.size+1):=hat6;clear hown6 hgrow6 hat6 hk6)
   all_goals
    have hB6:But (fun j=>(U ad3 L2.length cap3).ownBlock=S j) w3 w6:=((But.refl _ w3).alloc _).drew.grown hG6.out (fun k hk=> .inr hk)
    have hr6:w6.ownsRow 0 139 5 (E (S ⟨g6,0,B⟩) (L2.length+1) cap6) (L2++[Pg.Ln.mk ⟨mp,ms,mf,mr⟩ d]).length (zL (L2++[Pg.Ln.mk ⟨mp,ms,mf,mr⟩ d])):=by
     rw[xv,List.length_append];exact hO6.out
    have HF:P _:=HT3.out.put hB6 hr6 (fun j hj=>by
     rcases hA6.out with h|h
     ·exact .inl (h.trans hj)
     ·exact .inr (by simp[D]at hj;omega)) HK3.out
    clear hB6 hr6 hG6 hO6 hA6
    go_wp2_with fail
    go_ret
    obtain⟨f1,f2,f3⟩:=HF.out;refine⟨rfl,_,by rw[<-HL2.out];exact⟨_,f1,rfl⟩,HC3.out.trans f2 (fun i hi hg=>(HF3.out i hg).elim id (fun h=>by omega)),fun k hk=>(f3 k hk).elim (HF3.out k) (fun h=> .inr (by omega))⟩
  ·have i6:((L1.length:Int)==6)=V:=by
    have:¬((L1.length:Int)=6):=by omega
    simpa using this
   have eR:L1=L2:=by rw[HL2.out];simp[Pg.yhf,h6]
   rw[eR]at h2 c20 i6;clear eR;have HC3:P _:=HC2.out;have HF3:P (∀k,F2 k->F k\/w.heap.size<=k):=fun k hk=>(hF2.out k hk).imp id (fun h=>by omega);have H3:P _:=h2;have x0:w2.cell? ⟨w.heap.size,0,B⟩=S (J I mp):=(hx2 0).trans (by simp[go_sem]);have x1:w2.cell? ⟨w.heap.size,1,B⟩=S (J I ms):=(hx2 1).trans (by simp[go_sem]);have x2:w2.cell? ⟨w.heap.size,2,B⟩=S (J I mf):=(hx2 2).trans (by simp[go_sem]);have x3:w2.cell? ⟨w.heap.size,3,B⟩=S (J I mr):=(hx2 3).trans (by simp[go_sem]);have x4:w2.cell? ⟨w.heap.size,4,B⟩=S (T d):=(hx2 4).trans (by simp[go_sem]);have lx3:w.heap.size<w2.heap.size:=hs2;clear hx2 h2 E2 l20
   go_wp2_with fail
   clear c20;generalize w2=w3 at*;obtain⟨vb3,t3,rfl⟩:=H3.out.ex;obtain⟨ad3,cap3,rfl⟩:=zF t3.row;have hown:=t3.row;have r0:=t3.c0;have rf:=t3.fb o;have hlk:=t3.lb;have hn3:=t3.nb;have hlen3:L2.length<=5:=HLR.out;have HT3:P _:=t3;have HK3:P (Pg.Kept (L2++[⟨⟨mp,ms,mf,mr⟩,d⟩])):=HKK.out;obtain⟨q0,hqi,hz0,hz1,hz2⟩:=info_parts jl
   have hnews:∀(W:Q) (j:Nat) (u:kS),[kP I mp,J I ms,J I mf,J I mr,T d][j]?=S u->(W.alloc (y #[J I mp,J I ms,J I mf,J I mr,T d] 139)).cell? ((⟨W.heap.size,0,B⟩:Addr).add j)=S u:=fun W j u hu=>
    kJ (kI W _) j u hu
   have hone:∀u,u ∈ [kP I mp,J I ms,J I mf,J I mr,T d]->u.oneCell'=Z:=by
    intro u hu;simp at hu;rcases hu with rfl|rfl|rfl|rfl|rfl<;>rfl
   have hm1:L2.length+1<=maxLen:=by unfold maxLen;omega
   have hm2:(L2.length+1)*40<=140737488355328:=by omega
   have hlx:w.heap.size<w3.heap.size:=lx3;clear t3 lx3
   go_wp2_with fail
   go_region_law (refine step_append_lies _ rfl (.tmp 25) (.tmp 27) 61 rfl 0 139 q0 _ 5 40 Tryz.underlying61 hqi hz0 hz1 hz2 rfl (by decide) (E ad3 L2.length cap3) _ _ (by simp[Act.eval]) (hown.alloc _) ⟨w3.heap.size,0,B⟩ 1 1 [J I mp,J I ms,J I mf,J I mr,T d] (by simp[Act.eval]) rfl (hnews w3) hone (by decide) hm1 hm2 (kR _) (w3.heap.size+1) (by simp) ?_;intro g6 cap6 w6 hown6 hgrow6 hat6 hlt6;have hG6:P ((w3.alloc (y #[J I mp,J I ms,J I mf,J I mr,T d] 139)).drew.grownBy w6 (U ad3 L2.length cap3).ownBlock):=hgrow6;have hk6:w6.heap[b]?=w3.heap[b]?:=(hG6.out.block b (by simp;omega) (fun e=>hn3 e.symm)).trans (Below.heap_alloc _ _ _ hlk);have e9:w6.cell? ⟨b,o,B⟩=S (E ad3 L2.length cap3):=(N hk6).trans r0;have ef9:w6.frozen? ⟨b,o,B⟩=V:=(Y hk6).trans rf;have hO6:P (w6.ownsRow 0 139 5 (E (S ⟨g6,0,B⟩) (L2.length+1) cap6) (L2.length+1) (zL L2++[J I mp,J I ms,J I mf,J I mr,T d])):=hown6;have hA6:P ((U ad3 L2.length cap3).ownBlock=S g6\/g6=w3.heap.size+1):=hat6;clear hown6 hgrow6 hat6 hk6)
   all_goals
    have hB6:But (fun j=>(U ad3 L2.length cap3).ownBlock=S j) w3 w6:=((But.refl _ w3).alloc _).drew.grown hG6.out (fun k hk=> .inr hk)
    have hr6:w6.ownsRow 0 139 5 (E (S ⟨g6,0,B⟩) (L2.length+1) cap6) (L2++[Pg.Ln.mk ⟨mp,ms,mf,mr⟩ d]).length (zL (L2++[Pg.Ln.mk ⟨mp,ms,mf,mr⟩ d])):=by
     rw[xv,List.length_append];exact hO6.out
    have HF:P _:=HT3.out.put hB6 hr6 (fun j hj=>by
     rcases hA6.out with h|h
     ·exact .inl (h.trans hj)
     ·exact .inr (by simp[D]at hj;omega)) HK3.out
    clear hB6 hr6 hG6 hO6 hA6
    go_wp2_with fail
    go_ret
    obtain⟨f1,f2,f3⟩:=HF.out;refine⟨rfl,_,by rw[<-HL2.out];exact⟨_,f1,rfl⟩,HC3.out.trans f2 (fun i hi hg=>(HF3.out i hg).elim id (fun h=>by omega)),fun k hk=>(f3 k hk).elim (HF3.out k) (fun h=> .inr (by omega))⟩
 ·have hr:(l.m.code==0)=V:=by simp[hcode]
  have hne:(Pg.check l.m.p l.m.s l.m.f l.m.r !=0)=Z:=by
   have:Pg.check l.m.p l.m.s l.m.f l.m.r≠0:=hcode
   simpa using this
  rw[hr,Pg.yiq hcode];clear hcode hr h;obtain⟨⟨mp,ms,mf,mr⟩,d⟩:=l;simp only at HCK hne;simp only[Pg.Ln.val];generalize Pg.check mp ms mf mr=x at*
  go_enter Tryz.func146,Tryz.ntmps146
  go_wp2_with fail
  refine(HCK _).mono ?_;rintro e w1 ⟨rfl,hb1⟩;have HB:P (Below w.heap.size w w1):=zT (zA (zR _) _) hb1;clear hb1
  go_wp2_with fail
  go_ret
  exact⟨rfl,_,HX.out.grow HB.out,Chg.ygr HB.out hlb,fun k hk=> .inl hk⟩
end
end
theorem zn (s:Int) (w:Q):
 K R 123 #[J I s] w fun r w'=>r=C (J I (Pg.span s))/\w'=w:=by
 by_cases hs:0<=s/\s<=2
 ·obtain⟨s0,s2⟩:=hs
  go_enter Tryz.func123,Tryz.ntmps123
  go_wp2
  go_loop [3,4] (fun n i=>∃(k m:Int),0<=k/\k<=s/\i=J I k/\n=J I m/\0<=m/\m<=64/\P (m=Pg.span k)) (fun _ i=>(s-intOf i).toNat)
  case atStart=>exact⟨0,1,by omega,by omega,rfl,rfl,by omega,by omega,rfl⟩
  case round=>
   obtain⟨k,m,k0,k1,rfl,rfl,m0,m1,HM⟩:=hrel
   by_cases hlt:k<s
   ·have H1:P (m*8=Pg.span (k+1)):=by
     have:k=0\/k=1:=by omega
     have e:=HM.out
     rcases this with rfl|rfl<;>simp[P,Pg.span]at* <;>omega
    go_wp2
    go_round
    case rel=>exact⟨k+1,m*8,by omega,by omega,rfl,rfl,by omega,by have:=Pg.ygV (k+1);have:=H1.out;omega,H1⟩
    case measure=>simp[intOf];omega
   ·go_wp2
    go_ret
    have:k=s:=by omega
    exact⟨by rw[<-this,<-HM.out];rfl,rfl⟩
 ·have H:P (Pg.span s=0):=by rcases Pg.ygF s with h|h|h|h<;>simp only[P]<;>omega
  by_cases hn:s<0
  ·have hd:decide (s<0)=Z:=by simpa using hn
   clear hs
   go_enter Tryz.func123,Tryz.ntmps123
   go_wp2
   go_ret
   exact⟨by rw[H.out];rfl,rfl⟩
  ·have hd:decide (s<0)=V:=by simpa using hn
   have h3:2<s:=by omega
   have hd2:decide (2<s)=Z:=by simpa using h3
   clear hs
   go_enter Tryz.func123,Tryz.ntmps123
   go_wp2
   go_ret
   exact⟨by rw[H.out];rfl,rfl⟩
theorem jS (p s f r:Int) (w:Q):
 K R 109 #[A #[J I p,J I s,J I f,J I r]] w fun e w'=>e=C (J I (Pg.check p s f r))/\Below w.heap.size w w':=by
 have hs:=Pg.ygV s
 by_cases h0:Pg.span s=0
 ·have hb:(Pg.span s==0)=Z:=by simpa using h0
  have H:P (Pg.span s=0):=h0;clear h0
  go_enter Tryz.func109,Tryz.ntmps109
  go_wp2_with (go_at_call 123;refine(zn _ _).mono ?_;rintro e w' ⟨rfl,rfl⟩)
  go_ret
  exact⟨by rw[Pg.yhL H.out];rfl,zA (zR _) _⟩
 ·have hb:(Pg.span s==0)=V:=by simpa using h0
  have H:P (Pg.span s≠0):=h0
  have h1:1<=Pg.span s:=by omega
  clear h0
  by_cases hr:(!Pg.below p 4096|| !Pg.below f 1048576|| !Pg.below r 8)=Z
  ·have HR:P (Pg.check p s f r=1):=Pg.ygQ H.out hr
   have hc:(p<0)\/(0<=p/\4096<=p)\/(0<=p/\p<4096/\f<0)\/(0<=p/\p<4096/\0<=f/\1048576<=f)\/(0<=p/\p<4096/\0<=f/\f<1048576/\r<0)\/(0<=p/\p<4096/\0<=f/\f<1048576/\0<=r/\8<=r):=by
    simp[Pg.below]at hr;omega
   clear hr;rcases hc with a|⟨a,b⟩|⟨a,b,c⟩|⟨a,b,c,d⟩|⟨a,b,c,d,e⟩|⟨a,b,c,d,e,g⟩
   all_goals
    go_enter Tryz.func109,Tryz.ntmps109
    go_wp2_with (go_at_call 123;refine(zn _ _).mono ?_;rintro e w' ⟨rfl,rfl⟩)
    go_ret
    exact⟨by rw[HR.out];rfl,zA (zR _) _⟩
  ·have b1:Pg.below p 4096=Z:=by cases h:Pg.below p 4096<;>simp_all
   have b2:Pg.below f 1048576=Z:=by cases h:Pg.below f 1048576<;>simp_all
   have b3:Pg.below r 8=Z:=by cases h:Pg.below r 8<;>simp_all
   have HA:P (Pg.check p s f r=if p%Pg.span s=0/\f%Pg.span s=0 then 0 else 3):=Pg.ygZ H.out b1 b2 b3;obtain⟨p0,p1⟩:=Pg.zB.1 b1;obtain⟨f0,f1⟩:=Pg.zB.1 b2;obtain⟨r0,r1⟩:=Pg.zB.1 b3;clear hr b1 b2 b3;rcases Pg.ygF s with ⟨rfl,hv⟩|⟨rfl,hv⟩|⟨rfl,hv⟩|⟨_,_,_,hv⟩
   ·have HA:P (Pg.check p 0 f r=0):=by have:=HA.out;simp only[hv,Int.emod_one,and_self,if_true]at this;exact this
    go_enter Tryz.func109,Tryz.ntmps109
    go_wp2_with (go_at_call 123;refine(zn _ _).mono ?_;rintro e w' ⟨rfl,rfl⟩)
    go_quiet (fail)
    go_wp2
    go_ret
    exact⟨by rw[HA.out];rfl,below_drewN (zA (zR _) _) _⟩
   ·by_cases d1:p%8=0
    ·have e1:(p/8*8 !=p)=V:=by rw[bne_eq_false_iff_eq];omega
     by_cases d2:f%8=0
     ·have HA:P (Pg.check p 1 f r=0):=by have:=HA.out;simp only[hv,d1,d2,and_self,if_true]at this;exact this
      have e2:(f/8*8 !=f)=V:=by rw[bne_eq_false_iff_eq];omega
      clear d1 d2
      go_enter Tryz.func109,Tryz.ntmps109
      go_wp2_with (go_at_call 123;refine(zn _ _).mono ?_;rintro e w' ⟨rfl,rfl⟩)
      go_quiet (fail)
      go_wp2
      go_ret
      exact⟨by rw[HA.out];rfl,below_drewN (zA (zR _) _) _⟩
     ·have HA:P (Pg.check p 1 f r=3):=by have:=HA.out;simp only[hv,d1,d2,and_false,if_false]at this;exact this
      have e2:(f/8*8 !=f)=Z:=by rw[bne_iff_ne];omega
      clear d1 d2
      go_enter Tryz.func109,Tryz.ntmps109
      go_wp2_with (go_at_call 123;refine(zn _ _).mono ?_;rintro e w' ⟨rfl,rfl⟩)
      go_quiet (fail)
      go_wp2
      go_ret
      exact⟨by rw[HA.out];rfl,below_drewN (zA (zR _) _) _⟩
    ·have HA:P (Pg.check p 1 f r=3):=by have:=HA.out;simp only[hv,d1,false_and,if_false]at this;exact this
     have e1:(p/8*8 !=p)=Z:=by rw[bne_iff_ne];omega
     clear d1
     go_enter Tryz.func109,Tryz.ntmps109
     go_wp2_with (go_at_call 123;refine(zn _ _).mono ?_;rintro e w' ⟨rfl,rfl⟩)
     go_quiet (fail)
     go_wp2
     go_ret
     exact⟨by rw[HA.out];rfl,below_drewN (zA (zR _) _) _⟩
   ·by_cases d1:p%64=0
    ·have e1:(p/64*64 !=p)=V:=by rw[bne_eq_false_iff_eq];omega
     by_cases d2:f%64=0
     ·have HA:P (Pg.check p 2 f r=0):=by have:=HA.out;simp only[hv,d1,d2,and_self,if_true]at this;exact this
      have e2:(f/64*64 !=f)=V:=by rw[bne_eq_false_iff_eq];omega
      clear d1 d2
      go_enter Tryz.func109,Tryz.ntmps109
      go_wp2_with (go_at_call 123;refine(zn _ _).mono ?_;rintro e w' ⟨rfl,rfl⟩)
      go_quiet (fail)
      go_wp2
      go_ret
      exact⟨by rw[HA.out];rfl,below_drewN (zA (zR _) _) _⟩
     ·have HA:P (Pg.check p 2 f r=3):=by have:=HA.out;simp only[hv,d1,d2,and_false,if_false]at this;exact this
      have e2:(f/64*64 !=f)=Z:=by rw[bne_iff_ne];omega
      clear d1 d2
      go_enter Tryz.func109,Tryz.ntmps109
      go_wp2_with (go_at_call 123;refine(zn _ _).mono ?_;rintro e w' ⟨rfl,rfl⟩)
      go_quiet (fail)
      go_wp2
      go_ret
      exact⟨by rw[HA.out];rfl,below_drewN (zA (zR _) _) _⟩
    ·have HA:P (Pg.check p 2 f r=3):=by have:=HA.out;simp only[hv,d1,false_and,if_false]at this;exact this
     have e1:(p/64*64 !=p)=Z:=by rw[bne_iff_ne];omega
     clear d1
     go_enter Tryz.func109,Tryz.ntmps109
     go_wp2_with (go_at_call 123;refine(zn _ _).mono ?_;rintro e w' ⟨rfl,rfl⟩)
     go_quiet (fail)
     go_wp2
     go_ret
     exact⟨by rw[HA.out];rfl,below_drewN (zA (zR _) _) _⟩
   ·exact absurd hv H.out
theorem qO (p s f r q:Int) (hp:Pg.fits p) (hq:Pg.fits q) (w:Q):
 K R 132 #[A #[J I p,J I s,J I f,J I r],J I q] w fun e w'=>e=C (T (Pg.over p s q))/\Below w.heap.size w w':=by
 have hs:=Pg.ygV s;unfold Pg.fits at hp hq
 by_cases h:q<p
 ·have HM:P (Pg.over p s q=V):=by simp[P,Pg.over];omega
  go_enter Tryz.func132,Tryz.ntmps132
  go_wp2_with (go_at_call 123;refine(zn _ _).mono ?_;rintro e w' ⟨rfl,rfl⟩)
  go_ret
  exact⟨by rw[HM.out];rfl,zA (zR _) _⟩
 ·go_enter Tryz.func132,Tryz.ntmps132
  go_wp2_with (go_at_call 123;refine(zn _ _).mono ?_;rintro e w' ⟨rfl,rfl⟩)
  go_loop [1,6] (fun a i=>∃k:Int,0<=k/\k<=Pg.span s/\k<=q-p/\i=J I k/\a=J I (q-k)) (fun _ i=>(Pg.span s-intOf i).toNat)
  case atStart=>exact⟨0,by omega,by omega,by omega,rfl,by simp⟩
  case round=>
   obtain⟨k,k0,k1,k2,rfl,rfl⟩:=hrel
   by_cases hlt:k<Pg.span s
   ·by_cases he:q-k=p
    ·have hb:(q-k==p)=Z:=by simpa using he
     have HM:P (Pg.over p s q=Z):=by simp[P,Pg.over];omega
     clear he
     go_wp2
     go_ret
     exact⟨by rw[HM.out];rfl,zA (zR _) _⟩
    ·have hb:(q-k==p)=V:=by simpa using he
     have hm:(q-k== -9223372036854775808)=V:=by simp;omega
     go_wp2
     go_round
     case rel=>exact⟨k+1,by omega,by omega,by omega,rfl,by congr 1;omega⟩
     case measure=>simp[intOf];omega
   ·have HM:P (Pg.over p s q=V):=by simp[P,Pg.over];omega
    go_wp2
    go_ret
    exact⟨by rw[HM.out];rfl,zA (zR _) _⟩
theorem yep (p s f r p' s' f' r':Int) (hp:Pg.fits p) (hq:Pg.fits p') (w:Q):
 K R 128 #[A #[J I p,J I s,J I f,J I r],A #[J I p',J I s',J I f',J I r']] w fun e w'=>e=C (T (Pg.meet p s p' s'))/\Below w.heap.size w w':=by
 cases h:Pg.over p s p'
 ·have HM:P (Pg.meet p s p' s'=Pg.over p' s' p):=by simp[P,Pg.meet,h]
  go_enter Tryz.func128,Tryz.ntmps128
  go_wp2_with fail
  refine(qO _ _ _ _ _ hp hq _).mono ?_;rintro e w1 ⟨rfl,hb1⟩;obtain⟨hc1,hf1⟩:=xE hb1
  go_wp2_with fail
  refine(qO _ _ _ _ _ hq hp _).mono ?_;rintro e w2 ⟨rfl,hb2⟩
  go_wp2_with fail
  go_ret
  exact⟨by rw[HM.out];rfl,zT (zT (zA (zA (zR _) _) _) hb1) hb2⟩
 ·have HM:P (Pg.meet p s p' s'=Z):=by simp[P,Pg.meet,h]
  go_enter Tryz.func128,Tryz.ntmps128
  go_wp2_with fail
  refine(qO _ _ _ _ _ hp hq _).mono ?_;rintro e w1 ⟨rfl,hb1⟩;obtain⟨hc1,hf1⟩:=xE hb1
  go_wp2_with fail
  go_ret
  exact⟨by rw[HM.out];rfl,zT (zA (zA (zR _) _) _) hb1⟩
theorem j7 (r p k:Int) (u:Bool) (w:Q):
 K R 107 #[J I r,A #[J I p,J I k,T u]] w fun e w'=>e=C (T (Pg.may r k u))/\Below w.heap.size w w':=by
 have t1:bits .and I r 1=((Pg.r8 r&&&1:Nat):Int):=Pg.yg7 r 1 (by decide);have t2:bits .and I r 2=((Pg.r8 r&&&2:Nat):Int):=Pg.yg7 r 2 (by decide);have t4:bits .and I r 4=((Pg.r8 r&&&4:Nat):Int):=Pg.yg7 r 4 (by decide);have hl:=Pg.r8_lt r;have hm:Pg.may r k u=((Pg.r8 r&&&Pg.asks k u)==Pg.asks k u):=rfl;generalize Pg.r8 r=x at*;have HM:P _:=hm;clear hm
 by_cases k1:k=1
 ·have q1:(k==1)=Z:=by simpa using k1
  have q2:(k==2)=V:=by simp;omega
  have ha:P (Pg.asks k u=if u=Z then 3 else 1):=by subst k1;cases u<;>rfl
  clear k1
  have hx:x=0\/x=1\/x=2\/x=3\/x=4\/x=5\/x=6\/x=7:=by omega
  rcases hx with rfl|rfl|rfl|rfl|rfl|rfl|rfl|rfl<;>cases u
  all_goals
   go_enter Tryz.func107,Tryz.ntmps107
   go_wp2
   go_ret
   exact⟨by rw[HM.out,ha.out];rfl,zA (zR _) _⟩
 ·have q1:(k==1)=V:=by simpa using k1
  have hx:x=0\/x=1\/x=2\/x=3\/x=4\/x=5\/x=6\/x=7:=by omega
  by_cases k2:k=2
  ·have q2:(k==2)=Z:=by simpa using k2
   have ha:P (Pg.asks k u=if u=Z then 6 else 4):=by subst k2;cases u<;>rfl
   clear k1 k2
   rcases hx with rfl|rfl|rfl|rfl|rfl|rfl|rfl|rfl<;>cases u
   all_goals
    go_enter Tryz.func107,Tryz.ntmps107
    go_wp2
    go_ret
    exact⟨by rw[HM.out,ha.out];rfl,zA (zR _) _⟩
  ·have q2:(k==2)=V:=by simpa using k2
   have ha:P (Pg.asks k u=if u=Z then 2 else 0):=by cases u<;>simp[P,Pg.asks,k1,k2]
   clear k1 k2
   rcases hx with rfl|rfl|rfl|rfl|rfl|rfl|rfl|rfl<;>cases u
   all_goals
    go_enter Tryz.func107,Tryz.ntmps107
    go_wp2
    go_ret
    exact⟨by rw[HM.out,ha.out];rfl,zA (zR _) _⟩
theorem zP (p k:Int) (u:Bool) (w:Q):
 K R 43 #[A #[J I p,J I k,T u]] w fun e w'=>e=C (J I (Pg.zK p k))/\Below w.heap.size w w':=by
 by_cases h2:0<=p/\p<4096
 ·have HB:P (Pg.below p 4096=Z):=Pg.zB.2 h2
  obtain⟨p0,p1⟩:=h2
  by_cases hk:k=0\/k=1\/k=2
  ·have HK:P (Pg.isKind k=Z):=by simp[P,Pg.isKind];omega
   rcases hk with rfl|rfl|rfl
   all_goals
    go_enter Tryz.func43,Tryz.ntmps43
    go_wp2
    go_ret
    exact⟨by simp[Pg.zK,HK.out,HB.out],zA (zR _) _⟩
  ·have HK:P (Pg.isKind k=V):=by simp[P,Pg.isKind];omega
   have e0:(k !=0)=Z:=by rw[bne_iff_ne];omega
   have e1:(k !=1)=Z:=by rw[bne_iff_ne];omega
   have e2:(k !=2)=Z:=by rw[bne_iff_ne];omega
   clear hk
   go_enter Tryz.func43,Tryz.ntmps43
   go_wp2
   go_ret
   exact⟨by simp[Pg.zK,HK.out],zA (zR _) _⟩
 ·have HB:P (Pg.below p 4096=V):=by simp[P,Pg.below];omega
  by_cases hk:k=0\/k=1\/k=2
  ·have HK:P (Pg.isKind k=Z):=by simp[P,Pg.isKind];omega
   have hp:p<0\/(0<=p/\4096<=p):=by omega
   clear h2
   rcases hk with rfl|rfl|rfl<;>rcases hp with a|⟨a,b⟩
   all_goals
    go_enter Tryz.func43,Tryz.ntmps43
    go_wp2
    go_ret
    exact⟨by simp[Pg.zK,HK.out,HB.out],zA (zR _) _⟩
  ·have HK:P (Pg.isKind k=V):=by simp[P,Pg.isKind];omega
   have e0:(k !=0)=Z:=by rw[bne_iff_ne];omega
   have e1:(k !=1)=Z:=by rw[bne_iff_ne];omega
   have e2:(k !=2)=Z:=by rw[bne_iff_ne];omega
   clear hk h2
   go_enter Tryz.func43,Tryz.ntmps43
   go_wp2
   go_ret
   exact⟨by simp[Pg.zK,HK.out],zA (zR _) _⟩
theorem yaB (p s f r q k:Int) (u:Bool) (w:Q):
 K R 84 #[A #[J I p,J I s,J I f,J I r],A #[J I q,J I k,T u]] w fun e w'=>
  e=C (if Pg.may r k u=Z then A #[J I 0,J I (wrap64 (f+wrap64 (q-p))),J I r]else A #[J I 2,J I 0,J I 0])/\Below w.heap.size w w':=by
 cases h:Pg.may r k u
 ·go_enter Tryz.func84,Tryz.ntmps84
  go_wp2_with fail
  refine(j7 _ _ _ _ _).mono ?_;rintro e w1 ⟨rfl,hb1⟩;obtain⟨hc1,hf1⟩:=xE hb1
  have hz:w.heap.size+2<w1.heap.size:=by have:=hb1.size;simp at this;omega
  go_wp2_with fail
  refine z (v:=A #[J I 2,J I 0,J I 0]) ?_ rfl ⟨by simp,?_⟩
  ·simp[results,Tryz.results84,go_sem,hc1]
  ·exact(((zT (zA (zA (zA (zR _) _) _) _) hb1).setCell (by simp;omega) _).setCell (by simp;omega) _).setCell (by simp;omega) _
 ·go_enter Tryz.func84,Tryz.ntmps84
  go_wp2_with fail
  refine(j7 _ _ _ _ _).mono ?_;rintro e w1 ⟨rfl,hb1⟩;obtain⟨hc1,hf1⟩:=xE hb1
  have hz:w.heap.size+2<w1.heap.size:=by have:=hb1.size;simp at this;omega
  go_wp2_with fail
  refine z (v:=A #[J I 0,J I (wrap64 (f+wrap64 (q-p))),J I r]) ?_ rfl ⟨by simp,?_⟩
  ·simp[results,Tryz.results84,go_sem,hc1]
  ·exact(((zT (zA (zA (zA (zR _) _) _) _) hb1).setCell (by simp;omega) _).setCell (by simp;omega) _).setCell (by simp;omega) _
theorem qD (p s f r q k:Int) (u:Bool) (w:Q):
 K R 84 #[A #[J I p,J I s,J I f,J I r],A #[J I q,J I k,T u]] w fun e w'=>
  e=C (A #[J I (Pg.aEnd r k u),J I (Pg.ygW p f r q k u),J I (Pg.ygK r k u)])/\Below w.heap.size w w':=by
 refine(yaB p s f r q k u w).mono ?_;rintro e w' ⟨rfl,hb⟩;refine⟨?_,hb⟩;unfold Pg.aEnd Pg.ygW Pg.ygK
 split<;>rfl
theorem zG (p l:Int) (w:Q):
 K R 104 #[J I p,J I l] w fun e w'=>e=C (J I (Pg.index p l))/\Below w.heap.size w w':=by
 by_cases h:(0<=p/\p<4096)/\0<=l/\l<4
 ·obtain⟨⟨p0,p1⟩,l0,l1⟩:=h
  have hl:l=0\/l=1\/l=2\/l=3:=by omega
  obtain⟨i0,i1,i2,i3⟩:=Pg.index_at p0 p1;have I0:P _:=i0;have I1:P _:=i1;have I2:P _:=i2;have I3:P _:=i3;clear i0 i1 i2 i3;rcases hl with rfl|rfl|rfl|rfl
  ·go_enter Tryz.func104,Tryz.ntmps104
   go_wp2
   go_ret
   exact⟨by rw[I0.out];rfl,zA (zR _) _⟩
  ·go_enter Tryz.func104,Tryz.ntmps104
   go_wp2
   go_ret
   exact⟨by rw[I1.out];rfl,zA (zR _) _⟩
  ·go_enter Tryz.func104,Tryz.ntmps104
   go_wp2
   go_ret
   exact⟨by rw[I2.out];rfl,zA (zR _) _⟩
  ·go_enter Tryz.func104,Tryz.ntmps104
   go_wp2
   go_ret
   exact⟨by rw[I3.out];rfl,zA (zR _) _⟩
 ·have HI:P (Pg.index p l= -1):=by
   have:(Pg.below p 4096&&Pg.below l 4)=V:=by
    cases h1:Pg.below p 4096
    ·rfl
    ·cases h2:Pg.below l 4
     ·rfl
     ·exact absurd ⟨Pg.zB.1 h1,Pg.zB.1 h2⟩ h
   simp[P,Pg.index,this]
  have hc:p<0\/(0<=p/\4096<=p)\/(0<=p/\p<4096/\l<0)\/(0<=p/\p<4096/\0<=l/\4<=l):=by omega
  clear h;rcases hc with a|⟨a,b⟩|⟨a,b,c⟩|⟨a,b,c,d⟩
  all_goals
   go_enter Tryz.func104,Tryz.ntmps104
   go_wp2
   go_ret
   exact⟨by rw[HI.out];rfl,zR _⟩
end Go.Proofs.YtdphiompijbelaaGreat
