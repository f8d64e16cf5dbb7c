import Derived.Test.YtdphiompijbelaaGreatDoorDvFace
import Derived.Test.YtdphiompijbelaaGreatDoorWtLib
set_option linter.all false
set_option maxRecDepth 100000
open Go.Proofs.Tryz renaming prog->s
open Go.Obj renaming cells->H
open List renaming take_succ_cons->K,drop_succ_cons->M,take_zero->kJ,drop_zero->kB
open Nat renaming le_refl->Q,lt_of_lt_of_le->kS,ne_of_lt->kC,reduceAdd->kN,add_zero->kY
open Go.RowKit renaming Hid->V
open Go.World renaming frozen?_setCell->N,cell?_setCell_other->Y,block_lt_of_cell?->Z,frozen?_of_block->z,cell?_of_block->kP
open Go renaming cell_regrown->R,World->E,bodyPost_ret->y,heap_alloc_new->kI,cell_later->kR,Value->kF,Calls->kV
open Go.IntKind renaming i64->P
open Go.Value renaming int->J,bool->U,pointer->O,agg->kT,tuple->kQ
open Option renaming none->I,some->C
set_option maxHeartbeats 4000000
namespace Go.Proofs.YtdphiompijbelaaGreatDoor
open Go.RowKit Go.Sort
section
structure Wtd where
 sp:Nat
 fb:Nat
 nb:Nat
 d:Nat->Option Nat
 Fs:Nat->Prop
 Ff:Nat->Prop
 Fn:Nat->Prop
 own:Nat->Nat
def Wtd.F (D:Wtd) (b:Nat):Nat->Prop:=fun k=>k=b\/D.Fs k\/D.Ff k\/D.Fn k\/∃j,j<4/\D.d j=C k
abbrev Ans:Type:=Nat->List (Int×Int×Int)
structure Wtp (w:E) (b:Nat) (D:Wtd) (X:Pg.Spc) (fl nw:List Pg.Mp) (A:Ans):Prop where
 space:vP w D.sp X D.Fs
 floor:qv w D.fb fl D.Ff
 now:qv w D.nb nw D.Fn
 due:∀j,j<4->∀m,D.d j=C m->jX w m (A j)
 own0:D.own b=0
 own1:∀k,D.Fs k->D.own k=1
 own2:∀k,D.Ff k\/D.Fn k->D.own k=2
 own3:∀j,j<4->∀m,D.d j=C m->D.own m=3+j
structure Wtk (w:E) (b:Nat) (D:Wtd) (X:Pg.Spc) (fl nw:List Pg.Mp) (ti st:Int) (A:Ans):Prop where
 c0:w.cell? ⟨b,0,I⟩=C (O (C ⟨D.sp,0,I⟩))
 c1:w.cell? ⟨b,1,I⟩=C (O (C ⟨D.fb,0,I⟩))
 c2:w.cell? ⟨b,2,I⟩=C (O (C ⟨D.nb,0,I⟩))
 c3:w.cell? ⟨b,3,I⟩=C (J P ti)
 c4:w.cell? ⟨b,4,I⟩=C (J P st)
 dd:∀j,j<4->w.cell? ⟨b,5+j,I⟩=C (.map (D.d j))
 c9:w.cell? ⟨b,9,I⟩=C (J P 0)
 c10:w.cell? ⟨b,10,I⟩=C (J P 0)
 fz:∀p,w.frozen? ⟨b,p,I⟩=false
 parts:Wtp w b D X fl nw A
section
variable {w w':E} {b:Nat} {D:Wtd} {X X':Pg.Spc} {fl nw:List Pg.Mp} {ti st:Int} {A:Ans}
namespace Wtp
theorem others {G:Nat->Prop} (h:Wtp w b D X fl nw A) (hb:But G w w'):
 ((∀k,D.own k=1->¬G k)->vP w' D.sp X D.Fs)/\((∀k,D.own k=2->¬G k)->qv w' D.fb fl D.Ff/\qv w' D.nb nw D.Fn)/\
 (∀j,j<4->(∀k,D.own k=3+j->¬G k)->∀m,D.d j=C m->jX w' m (A j)):=
 ⟨fun hG=>h.space.keep hb fun k hk=>hG k (h.own1 k hk),fun hG=>⟨h.floor.keep hb fun k hk=>hG k (h.own2 k (.inl hk)),h.now.keep hb fun k hk=>hG k (h.own2 k (.inr hk))⟩,
  fun j hj hG m hm=>(h.due j hj m hm).of_block (hb.block m (h.due j hj m hm).lt (hG m (h.own3 j hj m hm)))⟩
theorem keep {G:Nat->Prop} (h:Wtp w b D X fl nw A) (hb:But G w w') (hG:∀k,D.own k≠0->D.F b k->¬G k):Wtp w' b D X fl nw A:=
 ⟨h.space.keep hb fun k hk=>hG k (by rw[h.own1 k hk];decide) (.inr (.inl hk)),h.floor.keep hb fun k hk=>hG k (by rw[h.own2 k (.inl hk)];decide) (.inr (.inr (.inl hk))),
  h.now.keep hb fun k hk=>hG k (by rw[h.own2 k (.inr hk)];decide) (.inr (.inr (.inr (.inl hk)))),
  fun j hj m hm=>(h.due j hj m hm).of_block (hb.block m (h.due j hj m hm).lt (hG m (by rw[h.own3 j hj m hm];omega) (.inr (.inr (.inr (.inr ⟨j,hj,hm⟩)))))),h.own0,h.own1,h.own2,h.own3⟩
theorem mine (h:Wtp w b D X fl nw A) (hb:But (fun k=>k=b) w w'):Wtp w' b D X fl nw A:=h.keep hb fun k hk _ e=>hk (by rw[e];exact h.own0)
theorem lt (h:Wtp w b D X fl nw A) (hlb:b<w.heap.size) {k:Nat} (hk:D.F b k):k<w.heap.size:=by
 rcases hk with rfl|hk|hk|hk|⟨j,hj,hk⟩
 ·exact hlb
 ·exact h.space.lt hk
 ·exact h.floor.lt hk
 ·exact h.now.lt hk
 ·exact(h.due j hj k hk).lt
theorem ylG {Fs':Nat->Prop} (h:Wtp w b D X fl nw A) (hlb:b<w.heap.size) (hs:vP w' D.sp X' Fs') (hb:But D.Fs w w') (hF:∀k,Fs' k->D.Fs k\/w.heap.size<=k):
 Wtp w' b {D with Fs:=Fs',own:=fun k=>if k<w.heap.size then D.own k else 1} X' fl nw A:=by
 obtain⟨_,o2,o3⟩:=h.others hb
 obtain⟨o2,o2'⟩:=o2 fun k hk hf=>by rw[h.own1 k hf]at hk;cases hk
 refine⟨hs,o2,o2',fun j hj m hm=>o3 j hj (fun k hk hf=>by rw[h.own1 k hf]at hk;omega) m hm,?_,fun k hk=> ?_,fun k hk=> ?_,fun j hj m hm=> ?_⟩
 ·show(if b<w.heap.size then D.own b else 1)=0
  rw[if_pos hlb];exact h.own0
 ·show(if k<w.heap.size then D.own k else 1)=1
  split
  ·next hl=>exact(hF k hk).elim (h.own1 k) (fun e=>absurd hl (by omega))
  ·rfl
 ·show(if k<w.heap.size then D.own k else 1)=2
  rw[if_pos (hk.elim h.floor.lt h.now.lt)];exact h.own2 k hk
 ·show(if m<w.heap.size then D.own m else 1)=3+j
  rw[if_pos (h.due j hj m hm).lt];exact h.own3 j hj m hm
theorem booked {n:Nat} {nb':Nat} {nw':List Pg.Mp} {Fn':Nat->Prop} (h:Wtp w b D X fl nw A) (hn:∀k,D.F b k->k<n) (hs:qv w nb' nw' Fn') (hF:∀k,Fn' k->n<=k):
 Wtp w b {D with nb:=nb',Fn:=Fn',own:=fun k=>if k<n then D.own k else 2} X fl nw' A:=by
 refine⟨h.space,h.floor,hs,h.due,?_,fun k hk=> ?_,fun k hk=> ?_,fun j hj m hm=> ?_⟩
 ·show(if b<n then D.own b else 2)=0
  rw[if_pos (hn b (.inl rfl))];exact h.own0
 ·show(if k<n then D.own k else 2)=1
  rw[if_pos (hn k (.inr (.inl hk)))];exact h.own1 k hk
 ·show(if k<n then D.own k else 2)=2
  rcases hk with hk|hk
  ·rw[if_pos (hn k (.inr (.inr (.inl hk))))]
   exact h.own2 k (.inl hk)
  ·rw[if_neg (by have:=hF k hk;omega)]
 ·show(if m<n then D.own m else 2)=3+j
  rw[if_pos (hn m (.inr (.inr (.inr (.inr ⟨j,hj,hm⟩)))))];exact h.own3 j hj m hm
theorem over (h:Wtp w b D X fl nw A):Wtp w b {D with fb:=D.nb,Ff:=D.Fn} X nw nw A:=
 ⟨h.space,h.now,h.now,h.due,h.own0,h.own1,fun k hk=>h.own2 k (.inr (hk.elim id id)),h.own3⟩
theorem ended (h:Wtp w b D X fl nw A) (i:Nat):Wtp w b {D with d:=fun j=>if j=i then I else D.d j} X fl nw A:=by
 have key:∀j m,(if j=i then I else D.d j)=C m->D.d j=C m:=fun j m e=>by
  split at e
  ·cases e
  ·exact e
 exact⟨h.space,h.floor,h.now,fun j hj m hm=>h.due j hj m (key j m hm),h.own0,h.own1,h.own2,fun j hj m hm=>h.own3 j hj m (key j m hm)⟩
theorem begun {n m:Nat} {l:List (Int×Int×Int)} (h:Wtp w b D X fl nw A) (hn:∀k,D.F b k->k<n) (i:Nat) (hm:n<=m) (ha:jX w m l):
 Wtp w b {D with d:=fun j=>if j=i then C m else D.d j,own:=fun k=>if k<n then D.own k else 3+i} X fl nw (fun j=>if j=i then l else A j):=by
 refine⟨h.space,h.floor,h.now,fun j hj x hx=> ?_,?_,fun k hk=> ?_,fun k hk=> ?_,fun j hj x hx=> ?_⟩
 ·simp only at hx ⊢
  by_cases e:j=i
  ·rw[if_pos e]at hx ⊢
   obtain rfl:m=x:=by injection hx
   exact ha
  ·rw[if_neg e]at hx ⊢
   exact h.due j hj x hx
 ·show(if b<n then D.own b else 3+i)=0
  rw[if_pos (hn b (.inl rfl))];exact h.own0
 ·show(if k<n then D.own k else 3+i)=1
  rw[if_pos (hn k (.inr (.inl hk)))];exact h.own1 k hk
 ·show(if k<n then D.own k else 3+i)=2
  rw[if_pos (hn k (.inr (.inr (hk.elim .inl (fun e=> .inr (.inl e))))))];exact h.own2 k hk
 ·simp only at hx ⊢
  by_cases e:j=i
  ·rw[if_pos e]at hx
   obtain rfl:m=x:=by injection hx
   rw[if_neg (by omega),e]
  ·rw[if_neg e]at hx
   rw[if_pos (hn x (.inr (.inr (.inr (.inr ⟨j,hj,hx⟩)))))];exact h.own3 j hj x hx
theorem more {i m:Nat} {l:List (Int×Int×Int)} (h:Wtp w b D X fl nw A) (hi:i<4) (hd:D.d i=C m) (ha:jX w' m l) (hb:But (fun k=>k=m) w w'):
 Wtp w' b D X fl nw (fun j=>if j=i then l else A j):=by
 have hm:=h.own3 i hi m hd;obtain⟨o1,o2,o3⟩:=h.others hb
 obtain⟨o2,o2'⟩:=o2 fun k hk e=>by rw[e,hm]at hk;omega
 refine⟨o1 fun k hk e=>(by rw[e,hm]at hk;omega),o2,o2',fun j hj x hx=> ?_,h.own0,h.own1,h.own2,h.own3⟩
 show jX w' x (if j=i then l else A j)
 by_cases e:j=i
 ·subst e
  rw[hd]at hx
  obtain rfl:m=x:=by injection hx
  rw[if_pos rfl];exact ha
 ·rw[if_neg e]
  exact o3 j hj (fun k hk ek=>e (by rw[ek,hm]at hk;omega)) x hx
end Wtp
namespace Wtk
theorem lb (h:Wtk w b D X fl nw ti st A):b<w.heap.size:=Z _ _ h.c0
theorem keep {G:Nat->Prop} (h:Wtk w b D X fl nw ti st A) (hb:But G w w') (hG:∀k,D.F b k->¬G k):Wtk w' b D X fl nw ti st A:=by
 have kb:=hb.block b h.lb (hG b (.inl rfl));have e:∀p,w'.cell? ⟨b,p,I⟩=w.cell? ⟨b,p,I⟩:=fun p=>kP (a:=⟨b,p,I⟩) kb;exact⟨(e _).trans h.c0,(e _).trans h.c1,(e _).trans h.c2,(e _).trans h.c3,(e _).trans h.c4,fun j hj=>(e _).trans (h.dd j hj),(e _).trans h.c9,(e _).trans h.c10,fun p=>(z (a:=⟨b,p,I⟩) kb).trans (h.fz p),h.parts.keep hb fun k _ hk=>hG k hk⟩
theorem grow (h:Wtk w b D X fl nw ti st A) (hb:Below w.heap.size w w'):Wtk w' b D X fl nw ti st A:=h.keep (G:=fun _=>False) (But.yhl hb) (fun _ _=>id)
theorem parted {G:Nat->Prop} {D':Wtd} {fl' nw':List Pg.Mp} {A':Ans} (h:Wtk w b D X fl nw ti st A) (hb:But G w w') (hG:¬G b) (hp:Wtp w' b D' X' fl' nw' A') (e0:D'.sp=D.sp) (e1:D'.fb=D.fb) (e2:D'.nb=D.nb) (e3:D'.d=D.d):Wtk w' b D' X' fl' nw' ti st A':=by
 have kb:=hb.block b h.lb hG;have e:∀p,w'.cell? ⟨b,p,I⟩=w.cell? ⟨b,p,I⟩:=fun p=>kP (a:=⟨b,p,I⟩) kb;exact⟨by rw[e0];exact(e _).trans h.c0,by rw[e1];exact(e _).trans h.c1,by rw[e2];exact(e _).trans h.c2,(e _).trans h.c3,(e _).trans h.c4,fun j hj=>by rw[e3];exact(e _).trans (h.dd j hj),(e _).trans h.c9,(e _).trans h.c10,fun p=>(z (a:=⟨b,p,I⟩) kb).trans (h.fz p),hp⟩
theorem F_ne (h:Wtk w b D X fl nw ti st A) {k:Nat} (hk:D.Fs k):k≠b:=fun e=>by
 have:=h.parts.own1 k hk;rw[e,h.parts.own0]at this;cases this
theorem ylG {Fs':Nat->Prop} (h:Wtk w b D X fl nw ti st A) (hs:vP w' D.sp X' Fs') (hb:But D.Fs w w') (hF:∀k,Fs' k->D.Fs k\/w.heap.size<=k):
 Wtk w' b {D with Fs:=Fs',own:=fun k=>if k<w.heap.size then D.own k else 1} X' fl nw ti st A:=
 h.parted hb (fun e=>h.F_ne e rfl) (h.parts.ylG h.lb hs hb hF) rfl rfl rfl rfl
theorem lt (h:Wtk w b D X fl nw ti st A) {k:Nat} (hk:D.F b k):k<w.heap.size:=h.parts.lt h.lb hk
end Wtk
end
attribute [local go_sem] Loose.gent
section
variable {w w':E} {b:Nat} {D:Wtd} {X X':Pg.Spc} {fl nw:List Pg.Mp} {ti st:Int} {A:Ans}
theorem xj (w:E) (b o:Nat) (v:kF):But (fun k=>k=b) w (w.setCell ⟨b,o,I⟩ v):=(But.refl (fun k=>k=b) w).setCell (a:=⟨b,o,I⟩) (.inr rfl) v
namespace Wtk
theorem setc (h:Wtk w b D X fl nw ti st A) {o:Nat} {u v:kF} (hc:w.cell? ⟨b,o,I⟩=C u) (p:Nat):(w.setCell ⟨b,o,I⟩ v).cell? ⟨b,p,I⟩=if p=o then C v else w.cell? ⟨b,p,I⟩:=by
 split
 ·next e=>rw[e];exact World.cell?_setCell_same _ _ _ hc
 ·next e=>exact Y _ _ _ _ (fun h=>e (congrArg Addr.off h).symm)
theorem timed (h:Wtk w b D X fl nw ti st A) (t:Int):Wtk (w.setCell ⟨b,3,I⟩ (J P t)) b D X fl nw t st A:=by
 have e:=fun p=>h.setc (v:=J P t) h.c3 p;exact⟨(e _).trans h.c0,(e _).trans h.c1,(e _).trans h.c2,e 3,(e _).trans h.c4,fun j hj=>(e _).trans (by rw[if_neg (by omega)];exact h.dd j hj),(e _).trans h.c9,(e _).trans h.c10,fun p=>(N _ _ _ _).trans (h.fz p),h.parts.mine (xj _ _ _ _)⟩
theorem stepped (h:Wtk w b D X fl nw ti st A) (t:Int):Wtk (w.setCell ⟨b,4,I⟩ (J P t)) b D X fl nw ti t A:=by
 have e:=fun p=>h.setc (v:=J P t) h.c4 p;exact⟨(e _).trans h.c0,(e _).trans h.c1,(e _).trans h.c2,(e _).trans h.c3,e 4,fun j hj=>(e _).trans (by rw[if_neg (by omega)];exact h.dd j hj),(e _).trans h.c9,(e _).trans h.c10,fun p=>(N _ _ _ _).trans (h.fz p),h.parts.mine (xj _ _ _ _)⟩
theorem over (h:Wtk w b D X fl nw ti st A):Wtk (w.setCell ⟨b,1,I⟩ (O (C ⟨D.nb,0,I⟩))) b {D with fb:=D.nb,Ff:=D.Fn} X nw nw ti st A:=by
 have e:=fun p=>h.setc (v:=O (C ⟨D.nb,0,I⟩)) h.c1 p;exact⟨(e _).trans h.c0,e 1,(e _).trans h.c2,(e _).trans h.c3,(e _).trans h.c4,fun j hj=>(e _).trans (by rw[if_neg (by omega)];exact h.dd j hj),(e _).trans h.c9,(e _).trans h.c10,fun p=>(N _ _ _ _).trans (h.fz p),(h.parts.mine (xj _ _ _ _)).over⟩
theorem ended (h:Wtk w b D X fl nw ti st A) {i:Nat} (hi:i<4):Wtk (w.setCell ⟨b,5+i,I⟩ (.map I)) b {D with d:=fun j=>if j=i then I else D.d j} X fl nw ti st A:=by
 have e:=fun p=>h.setc (v:= .map I) (h.dd i hi) p;refine⟨(e _).trans ?_,(e _).trans ?_,(e _).trans ?_,(e _).trans ?_,(e _).trans ?_,fun j hj=>(e _).trans ?_,(e _).trans ?_,(e _).trans ?_,fun p=>(N _ _ _ _).trans (h.fz p),(h.parts.mine (xj _ _ _ _)).ended i⟩
 ·rw[if_neg (by omega)];exact h.c0
 ·rw[if_neg (by omega)];exact h.c1
 ·rw[if_neg (by omega)];exact h.c2
 ·rw[if_neg (by omega)];exact h.c3
 ·rw[if_neg (by omega)];exact h.c4
 ·by_cases e0:j=i
  ·rw[if_pos (by omega)]
   simp only[if_pos e0]
  ·rw[if_neg (by omega)]
   simp only[if_neg e0];exact h.dd j hj
 ·rw[if_neg (by omega)];exact h.c9
 ·rw[if_neg (by omega)];exact h.c10
theorem begun (h:Wtk w b D X fl nw ti st A) {i n m:Nat} (hi:i<4) (hn:∀k,D.F b k->k<n) (hm:n<=m) {l:List (Int×Int×Int)} (ha:jX w m l):
 Wtk (w.setCell ⟨b,5+i,I⟩ (.map (C m))) b {D with d:=fun j=>if j=i then C m else D.d j,own:=fun k=>if k<n then D.own k else 3+i} X fl nw ti st (fun j=>if j=i then l else A j):=by
 have e:=fun p=>h.setc (v:= .map (C m)) (h.dd i hi) p
 have hmb:m≠b:=fun e=>by have:=hn b (.inl rfl);omega
 refine⟨(e _).trans ?_,(e _).trans ?_,(e _).trans ?_,(e _).trans ?_,(e _).trans ?_,fun j hj=>(e _).trans ?_,(e _).trans ?_,(e _).trans ?_,fun p=>(N _ _ _ _).trans (h.fz p),(h.parts.mine (xj _ _ _ _)).begun hn i hm (ha.of_block ((xj w b _ _).block m ha.lt hmb))⟩
 ·rw[if_neg (by omega)];exact h.c0
 ·rw[if_neg (by omega)];exact h.c1
 ·rw[if_neg (by omega)];exact h.c2
 ·rw[if_neg (by omega)];exact h.c3
 ·rw[if_neg (by omega)];exact h.c4
 ·by_cases e0:j=i
  ·rw[if_pos (by omega)]
   simp only[if_pos e0]
  ·rw[if_neg (by omega)]
   simp only[if_neg e0];exact h.dd j hj
 ·rw[if_neg (by omega)];exact h.c9
 ·rw[if_neg (by omega)];exact h.c10
theorem more (h:Wtk w b D X fl nw ti st A) {i m:Nat} {l:List (Int×Int×Int)} (hi:i<4) (hd:D.d i=C m) (ha:jX w' m l) (hb:But (fun k=>k=m) w w'):
 Wtk w' b D X fl nw ti st (fun j=>if j=i then l else A j):=
 h.parted hb (fun e=>by
  have e:b=m:=e;have:=h.parts.own3 i hi m hd;rw[<-e,h.parts.own0]at this
  omega) (h.parts.more hi hd ha hb) rfl rfl rfl rfl
theorem congr {A':Ans} (h:Wtk w b D X fl nw ti st A) (hA:∀j,j<4->A' j=A j):Wtk w b D X fl nw ti st A':=
 ⟨h.c0,h.c1,h.c2,h.c3,h.c4,h.dd,h.c9,h.c10,h.fz,⟨h.parts.space,h.parts.floor,h.parts.now,fun j hj m hm=>by rw[hA j hj];exact h.parts.due j hj m hm,h.parts.own0,h.parts.own1,h.parts.own2,h.parts.own3⟩⟩
end Wtk
structure ze (w:E) (b:Nat) (D:Wtd) (w':E) (D':Wtd):Prop where
 but:But (D.F b) w w'
 own:∀k,D'.F b k->D.F b k\/w.heap.size<=k
theorem ze.trans {w1 w2:E} {D1 D2:Wtd} (h:ze w b D w1 D1) (h':ze w1 b D1 w2 D2):ze w b D w2 D2:=
 ⟨h.but.trans h'.but fun i hi hk=>(h.own i hk).resolve_right (by omega),fun k hk=>(h'.own k hk).elim (h.own k) fun e=> .inr (Nat.le_trans h.but.size e)⟩
theorem ze.below (hb:Below w.heap.size w w'):ze w b D w' D:=⟨But.yhl hb,fun _=> .inl⟩
theorem ze.set (o:Nat) (v:kF) {D':Wtd} (hF:∀k,D'.F b k->D.F b k):ze w b D (w.setCell ⟨b,o,I⟩ v) D':=⟨(xj w b o v).mono fun _ _ e=> .inl e,fun k hk=> .inl (hF k hk)⟩
end
theorem ybQ {b:Nat} {D:Wtd} {X:Pg.Spc} {fl nw:List Pg.Mp} {ti st:Int} {A:Ans} (j:Nat) (hj:j<4) (a f r:Int) (hd:D.d j≠I) (ha:(a,f,r) ∈ A j) (w:E) (h:Wtk w b D X fl nw ti st A):
 kV s 159 #[O (C ⟨b,0,I⟩),J P j,kT #[J P a,J P f,J P r]] w fun e w'=>e= .returned (U true)/\
  Wtk w' b {D with d:=fun i=>if i=j then I else D.d i} X fl nw ti st A/\ze w b D w' {D with d:=fun i=>if i=j then I else D.d i}:=by
 obtain⟨m,hm⟩:=Option.ne_none_iff_exists'.1 hd;obtain⟨W,hW⟩:∃W,W=w.alloc (H #[J P a,J P f,J P r] 71):=⟨_,rfl⟩
 have hB:Below w.heap.size w W:=by rw[hW];exact zA (zR _) _
 have hg:=h.grow hB
 have x0:W.cell? ⟨w.heap.size,0,I⟩=C (J P a):=by rw[hW];simp[go_sem]
 have x1:W.cell? ⟨w.heap.size,1,I⟩=C (J P f):=by rw[hW];simp[go_sem]
 have x2:W.cell? ⟨w.heap.size,2,I⟩=C (J P r):=by rw[hW];simp[go_sem]
 have hc:=hg.dd j hj;have hf:=hg.fz;have hlb:=h.lb;rw[hm]at hc;have hl:∀W',Below W.heap.size W W'->_:=fun W' hb=>((hg.grow hb).parts.due j hj m hm).look ha;unfold anV at hl;have l1:=hl W (zR _);have l2:=hl W.drew (zR _).drew;have l3:=fun o=>hl (W.alloc o).drew (zA (zR _) o).drew;have l4:=fun o=>hl (W.drew.alloc o) (zA (zR W).drew o);have l5:=fun o=>hl (W.alloc o) (zA (zR _) o);clear hl
 have FIN:V (∀Wf,Below (W.setCell ⟨b,5+j,I⟩ (.map I)).heap.size (W.setCell ⟨b,5+j,I⟩ (.map I)) Wf->Wtk Wf b {D with d:=fun i=>if i=j then I else D.d i} X fl nw ti st A/\ze w b D Wf {D with d:=fun i=>if i=j then I else D.d i}):=fun Wf hb=>
  ⟨(hg.ended hj).grow hb,((ze.below hB).trans (.set _ _ fun k hk=>by
   rcases hk with hk|hk|hk|hk|⟨i,hi,hk⟩
   ·exact .inl hk
   ·exact .inr (.inl hk)
   ·exact .inr (.inr (.inl hk))
   ·exact .inr (.inr (.inr (.inl hk)))
   ·simp only at hk
    split at hk
    ·cases hk
    ·exact .inr (.inr (.inr (.inr ⟨i,hi,hk⟩))))).trans (.below hb)⟩
 clear h hg hd ha
 have hWs:W.heap.size=w.heap.size+1:=by rw[hW];simp
 obtain rfl|rfl|rfl|rfl:j=0\/j=1\/j=2\/j=3:=by omega
 all_goals
  go_enter Tryz.func159,Tryz.ntmps159
  go_upto_region 1 with fail
  rw[<-hW];clear hW
  go_region
  all_goals
   go_wp2_with fail
   go_ret
   exact⟨rfl,FIN.out _ (by repeat (first|exact zR _|refine Below.drew ?_|refine zA ?_ _))⟩
theorem vL {b:Nat} {D:Wtd} {X:Pg.Spc} {fl nw:List Pg.Mp} {ti st:Int} {A:Ans} (j:Nat) (hj:j<4) (q k:Int) (u:Bool) (hq:Pg.fits q) (w:E) (h:Wtk w b D X fl nw ti st A):
 kV s 158 #[O (C ⟨b,0,I⟩),J P j,kT #[J P q,J P k,U u]] w fun e w'=>e= .returned (kQ #[])/\∃D' m,
  Wtk w' b D' X fl nw ti st (fun i=>if i=j then [Pg.ans3 nw q k u,Pg.ans3 fl q k u]else A i)/\D'.d=(fun i=>if i=j then C m else D.d i)/\ze w b D w' D':=by
 have hlb:=h.lb;obtain⟨W1,hW1⟩:∃W,W=w.alloc (H #[J P q,J P k,U u] 78):=⟨_,rfl⟩;obtain⟨W2,hW2⟩:∃W,W=W1.alloc (.map #[] 0):=⟨_,rfl⟩;obtain⟨W,hW⟩:∃W,W=W2.setCell ⟨b,5+j,I⟩ (.map (C W1.heap.size)):=⟨_,rfl⟩
 have hs1:W1.heap.size=w.heap.size+1:=by rw[hW1];simp
 have hB:Below w.heap.size w W2:=by rw[hW2,hW1];exact zA (zA (zR _) _) _
 have B:But (fun k=>k=b) w W:=by rw[hW];exact(But.yhl (F:=fun k=>k=b) hB).trans (xj _ _ _ _) fun _ _ e=>e
 have h2:=h.grow hB;have c2:=h2.dd j hj;have z2:=h2.fz
 obtain⟨D',hD',T⟩:∃D',D'={D with d:=fun i=>if i=j then C W1.heap.size else D.d i,own:=fun k=>if k<w.heap.size then D.own k else 3+j}/\V (Wtk W b D' X fl nw ti st (fun i=>if i=j then []else A i)):=
  ⟨_,rfl,by rw[V,hW];exact h2.begun hj (fun k hk=>h.lt hk) (by omega) (by rw[hW2];exact ydD W1)⟩
 have hd:D'.d j=C W1.heap.size:=by rw[hD'];simp
 have x0:W.cell? ⟨w.heap.size,0,I⟩=C (J P q):=by
  rw[hW,Y _ _ _ _ (fun h=>by have:=congrArg Addr.block h;simp at this;omega),hW2,hW1];simp[go_sem]
 have x1:W.cell? ⟨w.heap.size,1,I⟩=C (J P k):=by
  rw[hW,Y _ _ _ _ (fun h=>by have:=congrArg Addr.block h;simp at this;omega),hW2,hW1];simp[go_sem]
 have x2:W.cell? ⟨w.heap.size,2,I⟩=C (U u):=by
  rw[hW,Y _ _ _ _ (fun h=>by have:=congrArg Addr.block h;simp at this;omega),hW2,hW1];simp[go_sem]
 have DN:V (ze w b D W D'):=⟨B.mono fun i _ e=> .inl e,fun x hx=>by
  rw[hD']at hx;rcases hx with hx|hx|hx|hx|⟨i,hi,hx⟩
  ·exact .inl (.inl hx)
  ·exact .inl (.inr (.inl hx))
  ·exact .inl (.inr (.inr (.inl hx)))
  ·exact .inl (.inr (.inr (.inr (.inl hx))))
  ·simp only at hx
   split at hx
   ·injection hx with hx
    exact .inr (by omega)
   ·exact .inl (.inr (.inr (.inr (.inr ⟨i,hi,hx⟩))))⟩
 have hdd:D'.d=fun i=>if i=j then C W1.heap.size else D.d i:=by rw[hD']
 have HF:=fun d os=>qF q k u hq _ (T.out.grow (below_regrown W d os)).parts.floor;have HN:=fun w3 (h3:Wtk w3 b D' X fl nw ti st (fun i=>if i=j then [(Pg.ansE fl q k u,Pg.ansF fl q k u,Pg.ansR fl q k u)]else A i)) d os=>qF q k u hq _ (h3.grow (below_regrown w3 d os)).parts.now
 have STEP:V (∀w3 w4 l l',Wtk w3 b D' X fl nw ti st (fun i=>if i=j then l else A i)->jX w4 W1.heap.size l'->But (fun k=>k=W1.heap.size) w3 w4->Wtk w4 b D' X fl nw ti st (fun i=>if i=j then l' else A i)):=fun w3 w4 l l' h3 a4 hb4=>
  (h3.more hj hd a4 hb4).congr fun i _=>by
    by_cases e:i=j
    ·rw[if_pos e,if_pos e]
    ·rw[if_neg e,if_neg e,if_neg e]
 have DUE:V (∀w3 l,Wtk w3 b D' X fl nw ti st (fun i=>if i=j then l else A i)->jX w3 W1.heap.size l):=fun w3 l h3=>by
  have:=h3.parts.due j hj _ hd;rw[if_pos rfl]at this;exact this
 have CD:V (∀w3 l,Wtk w3 b D' X fl nw ti st (fun i=>if i=j then l else A i)->w3.cell? ⟨b,5+j,I⟩=C (.map (C W1.heap.size))):=fun w3 l h3=>by
  rw[<-hd];exact h3.dd j hj
 have ISF:V (∀k,k=W1.heap.size->D'.F b k):=fun k e=> .inr (.inr (.inr (.inr ⟨j,hj,by rw[e];exact hd⟩)));have cd:=T.out.dd j hj;rw[hd]at cd;have g0:=R x0;have g1:=R x1;have g2:=R x2;have g3:=R cd;have g4:=R T.out.c1
 have hM:w.heap.size<W1.heap.size:=by omega
 have hbM:b≠W1.heap.size:=by omega
 clear hD' h h2 B hB hs1
 have hmk:∀w:E,(Instr.makeMap 151 I).run s w= .ok (.map (C w.heap.size)) (w.alloc (.map #[] 0)):=fun w=>by kernel_rfl
 subst hW2;have hWs:w.heap.size<W.heap.size:=Z _ _ x0;have hWb:b<W.heap.size:=Z _ _ cd
 obtain rfl|rfl|rfl|rfl:j=0\/j=1\/j=2\/j=3:=by omega
 all_goals
  simp only[kY,kN]at hW g3 cd c2
  go_enter Tryz.func158,Tryz.ntmps158
  go_upto_region 1 with fail
  rw[<-hW1];clear hW1
  go_upto_region 2 with fail
  rw[<-hW];clear hW z2 hmk c2;refine Loose.yhn 12 (by kernel_rfl) (by kernel_rfl) ?_;simp only[K,kJ,M,kB]
  repeat (
   refine Loose.zS (fun k hk=> ?_)
   go_simp
   first
    | (refine hk _ ?_;clear hk k)
    | (apply Exists.intro
       refine⟨fun _=> ?_,hk _ ?_⟩
       (go_at_call 196;exact Loose.calls (HF _ _))
       clear hk k))
  refine Loose.yho ?_;intro w3 hb3;have T3:V _:=T.out.grow hb3;have x0:=kR hb3 x0;have x1:=kR hb3 x1;have x2:=kR hb3 x2;have D3:V (ze w b D w3 D'):=DN.out.trans (.below hb3);have hw3:w.heap.size<w3.heap.size:=kS hWs hb3.size;have HA:=va (Pg.ansE fl q k u) (Pg.ansF fl q k u) (Pg.ansR fl q k u) w3 (DUE.out _ _ T3.out);clear hb3 g0 g1 g2 g3 g4 HF cd T DN
  go_wp2_with fail
  refine HA.mono ?_;rintro e w4 ⟨rfl,a4,hb4⟩;have T4:V _:=STEP.out _ _ _ _ T3.out a4 hb4;have D4:V (ze w b D w4 D'):=D3.out.trans ⟨hb4.mono fun i _ e=>ISF.out i e,fun _=> .inl⟩;have hw4:w.heap.size<w4.heap.size:=kS hw3 hb4.size;have x0:=(hb4.cell (a:=⟨w.heap.size,0,I⟩) hw3 (kC hM)).trans x0;have x1:=(hb4.cell (a:=⟨w.heap.size,1,I⟩) hw3 (kC hM)).trans x1;have x2:=(hb4.cell (a:=⟨w.heap.size,2,I⟩) hw3 (kC hM)).trans x2;have HF:=HN w4 T4.out;have cd:=CD.out _ _ T4.out;simp only[kY,kN]at cd;have g0:=R x0;have g1:=R x1;have g2:=R x2;have g3:=R cd;have g4:=R T4.out.c2;clear hb4 a4 T3 D3 HA HN hw3 hWs hWb
  go_upto_region 3 with fail
  refine Loose.yhn 12 (by kernel_rfl) (by kernel_rfl) ?_;simp only[K,kJ,M,kB]
  repeat (
   refine Loose.zS (fun k hk=> ?_)
   go_simp
   first
    | (refine hk _ ?_;clear hk k)
    | (apply Exists.intro
       refine⟨fun _=> ?_,hk _ ?_⟩
       (go_at_call 196;exact Loose.calls (HF _ _))
       clear hk k))
  refine Loose.yho ?_;intro w5 hb5;have T5:V _:=T4.out.grow hb5;have D5:V (ze w b D w5 D'):=D4.out.trans (.below hb5);have HA:=va (Pg.ansE nw q k u) (Pg.ansF nw q k u) (Pg.ansR nw q k u) w5 (DUE.out _ _ T5.out);clear hb5 g0 g1 g2 g3 g4 HF cd T4 D4 x0 x1 x2 hw4
  go_wp2_with fail
  refine HA.mono ?_;rintro e w6 ⟨rfl,a6,hb6⟩;have T6:V _:=STEP.out _ _ _ _ T5.out a6 hb6;have D6:V (ze w b D w6 D'):=D5.out.trans ⟨hb6.mono fun i _ e=>ISF.out i e,fun _=> .inl⟩;clear a6 hb6 HA T5 D5
  go_wp2_with fail
  go_end0
  exact⟨rfl,D',_,T6.out,hdd,D6.out⟩
end
section
attribute [local go_sem] Loose.gent
theorem yc9 {b:Nat} {D:Dsd} {X:Pg.Spc} (p:Int) (w:E) (h:Dsk w b D X):kV s 68 #[O (C ⟨b,0,I⟩),J P p] w fun e w'=>e= .returned (kQ #[(Pg.tFM X.S 0 p).val,(Pg.tFE X.S 0 p).val,J P (Pg.tFC X.S 0 p)])/\Below w.heap.size w w':=by
 obtain⟨W,hW⟩:∃W,W=(w.alloc (H #[J P 0,J P 0,J P 0,J P 0] 76)).alloc (H #[U false,U false,J P 0,U false,U false,J P 0] 82):=⟨_,rfl⟩
 have hB:Below w.heap.size w W:=by rw[hW];exact zA (zA (zR _) _) _
 have hWs:W.heap.size=w.heap.size+2:=by rw[hW];simp
 have PW:=h.grow hB
 have RM:V (W.heap[w.heap.size]?=C (H #[J P 0,J P 0,J P 0,J P 0] 76 (0,0))):=by
  rw[V,hW,Below.heap_alloc _ _ _ (by simp)];exact kI _ _
 have RE:V (W.heap[w.heap.size+1]?=C (H #[U false,U false,J P 0,U false,U false,J P 0] 82 (0,0))):=by
  rw[V,hW];exact(by simp:(w.alloc (H #[J P 0,J P 0,J P 0,J P 0] 76)).heap.size=w.heap.size+1)▸kI _ _
 have HF:=fun d os=>yep 0 p _ (PW.grow (below_regrown W d os)).mem;have g0:=R PW.c0;have g1:=R PW.c1;have HB:V _:=hB;clear h hB PW;generalize Pg.tFC X.S 0 p=c at*;generalize Pg.tFM X.S 0 p=m at*;generalize Pg.tFE X.S 0 p=en at*;obtain⟨mp,ms,mf,mr⟩:=m;obtain⟨et,el,er,eu,ed,ef⟩:=en;simp only[Pg.Mp.val,Pg.En.val]at HF ⊢
 go_enter Tryz.func68,Tryz.ntmps68
 go_upto_region 1 with fail
 rw[<-hW];clear hW;refine Loose.yhn 13 (by kernel_rfl) (by kernel_rfl) ?_;simp only[K,kJ,M,kB]
 repeat (
  refine Loose.zS (fun k hk=> ?_)
  go_simp
  first
   | (refine hk _ ?_;clear hk k)
   | (apply Exists.intro
      refine⟨fun _=> ?_,hk _ ?_⟩
      (go_at_call 110;exact Loose.calls (HF _ _))
      clear hk k))
 refine Loose.yho ?_;intro w3 hb3
 have hs3:w.heap.size+1<w3.heap.size:=by have:=hb3.size;omega
 have hs3':w.heap.size<w3.heap.size:=by omega
 obtain⟨⟨m0,m1,m2,m3⟩,mz⟩:=ye5 ((hb3.block _ (by omega)).trans RM.out);obtain⟨⟨z0,z1,z2,z3,z4,z5⟩,zf⟩:=z9 ((hb3.block _ (by omega)).trans RE.out);have HB3:V (Below w.heap.size w w3):=zT HB.out hb3
 have n1:w.heap.size≠w.heap.size+1:=by omega
 have n2:w.heap.size+1≠w.heap.size:=by omega
 clear hb3 HF g0 g1
 go_wp2_with fail
 refine y (v:=kQ #[kT #[J P mp,J P ms,J P mf,J P mr],kT #[U et,U el,J P er,U eu,U ed,J P ef],J P c]) ?_ rfl ⟨rfl,?_⟩
 ·simp[results,Tryz.results68,go_sem,m0,m1,m2,m3,z0,z1,z2,z3,z4,z5,hs3,hs3']
 ·exact ycR (zo HB3.out _ (Q _) _ _ _ _) _ (by omega) _ _ _ _ _ _
end
namespace Pg
def yip (l:List UInt8):Bool:=decide (0<=Lib.indexByte l 10)
def yhC:Nat->List (List UInt8)->Option Nat
 | _,[]=>I
 | k,l::r=>if yip l=true then C k else yhC (k+1) r
def yhv (L:List (List UInt8)):Int×Int:=if 300<L.length then(10,-1)else match yhC 0 L with
 | some k=>(11,(k:Int))
 | none=>(0,0)
theorem yh0 (b:List (List UInt8)):∀(a:List (List UInt8)) (k:Nat),yhC k (a++b)=(match yhC k a with
 | some j=>C j
 | none=>yhC (k+a.length) b)
 | [],k=>rfl
 | l::r,k=>by
   show(if yip l=true then C k else yhC (k+1) (r++b))=match (if yip l=true then C k else yhC (k+1) r)with
    | some j=>C j
    | none=>yhC (k+(r.length+1)) b
   by_cases h:yip l=true
   ·rw[if_pos h,if_pos h]
   ·rw[if_neg h,if_neg h,yh0 b r (k+1),show k+1+r.length=k+(r.length+1) by omega]
theorem yjk:∀(L:List (List UInt8)) (k j:Nat),(yhC k L=I ↔ yhC j L=I)
 | [],k,j=>Iff.rfl
 | l::r,k,j=>by
   show((if yip l=true then C k else yhC (k+1) r)=I ↔ (if yip l=true then C j else yhC (j+1) r)=I)
   by_cases h:yip l=true
   ·rw[if_pos h,if_pos h];simp
   ·rw[if_neg h,if_neg h];exact yjk r _ _
end Pg
def qG (f:Int×Int):kF:=kT #[J P f.1,J P f.2]
theorem jo (ad:Option Addr) (cap:Nat) (L:List (List UInt8)) (w:E) (hn:L.length<=300->zt w ad L):
 kV s 11 #[.slice ad L.length cap] w fun e w'=>e= .returned (qG (Pg.yhv L))/\Below w.heap.size w w':=by
 obtain⟨W1,hW1⟩:∃W1,W1=w.alloc (H #[J P 0,J P 0] 33):=⟨_,rfl⟩
 have hb1:Below w.heap.size w W1:=by rw[hW1];exact zA (zR _) _
 have hx1:W1.heap[w.heap.size]?=C (H #[J P 0,J P 0] 33 (0,0)):=by rw[hW1];exact kI _ _
 have hlt1:w.heap.size<W1.heap.size:=by rw[hW1];simp
 by_cases h300:300<L.length
 ·have HF:V (qG (Pg.yhv L)=kT #[J P 10,J P (-1)]):=by unfold V Pg.yhv;rw[if_pos h300];rfl
  have d1:(300:Int)<(L.length:Int):=by omega
  obtain⟨⟨z0,z1⟩,zf⟩:=zP hx1;have HB1:V _:=hb1;clear hn hb1
  go_enter Tryz.func11,Tryz.ntmps11
  go_upto_region 1 with fail
  rw[<-hW1];clear hW1
  go_wp2_with fail
  rw[HF.out];refine y (v:=kT #[J P 10,J P (-1)]) ?_ rfl ⟨rfl,?_⟩
  ·simp[results,Tryz.results11,go_sem,z0,z1,hlt1]
  ·exact(HB1.out.setCell (p:=⟨w.heap.size,0,I⟩) (Q _) _).setCell (p:=⟨w.heap.size,1,I⟩) (Q _) _
 ·have hl:L.length<=300:=by omega
  have HN:V (zt w ad L):=hn hl
  have HF:V (Pg.yhv L=match Pg.yhC 0 L with|some k=>(11,(k:Int))|none=>(0,0)):=by unfold V Pg.yhv;rw[if_neg h300]
  have d1:¬(300:Int)<(L.length:Int):=by omega
  have HB1:V _:=hb1;have HX1:V _:=hx1;generalize hr:w.heap.size=rb at*;have HRB:V (w.heap.size=rb):=hr;clear hn hb1 hx1 h300 hr
  go_enter Tryz.func11,Tryz.ntmps11
  go_upto_region 1 with fail
  rw[<-hW1];clear hW1;rw[HRB.out]
  go_wp2_with fail
  go_loopw [11] (fun i wr=>∃(k:Nat),i=J P k/\k<=L.length/\wr=W1/\V (Pg.yhC 0 (L.take k)=I)) (fun i _=>L.length-(intOf i).toNat)
  case atStart=>exact⟨0,rfl,Nat.zero_le _,rfl,rfl⟩
  case round=>
   obtain⟨k,rfl,hk,rfl,HK⟩:=hrel;obtain⟨⟨z0,z1⟩,zf⟩:=zP HX1.out
   by_cases hlt:k<L.length
   ·have i0':(0:Int)<=(k:Int):=by omega
    have i1:(k:Int)<(L.length:Int):=by omega
    have i2:(k:Int)<300:=by omega
    obtain⟨g,of,rfl,hg,hc⟩:=HN.out k hlt;have c0:=(HB1.out.cell (p:=⟨g,of+k,I⟩) (by rw[HRB.out]at hg;exact hg)).trans hc;have HCO:=fun w=>Tryz.strings_Contains_one (xT (L.getD k [])) 10 w;simp only[qk]at HCO
    have HT:V (L.take (k+1)=L.take k++[L.getD k []]):=by
     rw[V,List.take_add_one,List.getElem?_eq_getElem hlt];simp[List.getD,hlt]
    have HD:V (L=L.take k++L.getD k []::L.drop (k+1)):=by
     have e:L.getD k []=L[k]:=by simp[List.getD,hlt]
     rw[V,e,List.getElem_cons_drop,List.take_append_drop]
    have hlk:(L.take k).length=k:=by rw[List.length_take];omega
    generalize L.getD k []=x at*;have HLB:V (Pg.yip x=decide (0<=Lib.indexByte x 10)):=rfl;generalize decide (0<=Lib.indexByte x 10)=bb at*
    cases bb with
    | true=>
      have HR:V (Pg.yhv L=(11,(k:Int))):=by
       rw[V,HF.out]
       have:Pg.yhC 0 L=C k:=by
        rw[HD.out,Pg.yh0,HK.out,hlk,Nat.zero_add]
        show(if Pg.yip x=true then C k else _)=C k
        rw[HLB.out,if_pos rfl]
       rw[this]
      clear HF HD HT hlk hc
      go_wp2_with fail
      refine(HCO _).mono ?_;rintro e w2 ⟨rfl,rfl⟩
      go_wp2_with fail
      rw[HR.out];refine y (v:=qG (11,(k:Int))) ?_ rfl ⟨rfl,?_⟩
      ·simp[results,Tryz.results11,go_sem,z0,z1,hlt1,qG]
      ·exact(HB1.out.setCell (p:=⟨rb,0,I⟩) (Q _) _).setCell (p:=⟨rb,1,I⟩) (Q _) _
    | false=>
      have HK2:V (Pg.yhC 0 (L.take (k+1))=I):=by
       rw[V,HT.out,Pg.yh0,HK.out]
       show(if Pg.yip x=true then _ else I)=I
       rw[HLB.out];rfl
      have HLT:V (k<L.length):=hlt;clear HD HT HF hlk hc
      go_wp2_with fail
      refine(HCO _).mono ?_;rintro e w2 ⟨rfl,rfl⟩
      go_wp2_with fail
      refine⟨⟨k+1,by go_num,HLT.out,by first|rfl|trivial,HK2⟩,?_⟩;have:=HLT.out;simp[intOf];omega
   ·have hk':k=L.length:=by omega
    have i1:¬(k:Int)<(L.length:Int):=by omega
    have HR:V (Pg.yhv L=(0,0)):=by
     have:=HK.out;rw[hk',List.take_length]at this;rw[V,HF.out,this]
    clear HF HK
    go_wp2_with fail
    rw[HR.out];refine y (v:=qG (0,0)) ?_ rfl ⟨rfl,?_⟩
    ·simp[results,Tryz.results11,go_sem,z0,z1,hlt1,qG]
    ·exact(HB1.out.setCell (p:=⟨rb,0,I⟩) (Q _) _).setCell (p:=⟨rb,1,I⟩) (Q _) _
end Go.Proofs.YtdphiompijbelaaGreatDoor
