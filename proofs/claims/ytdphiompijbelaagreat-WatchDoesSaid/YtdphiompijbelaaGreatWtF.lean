import Derived.Test.YtdphiompijbelaaGreatStartF
set_option linter.all false
set_option maxRecDepth 100000
open List renaming take_succ_cons->un,drop_succ_cons->ur,mem_cons_self->uv,take_zero->ua,drop_zero->ue
open Nat renaming lt_of_lt_of_le->ki,reduceAdd->yJ,le_trans->yP,add_zero->yS,ne_of_lt->yC
open Int renaming natCast_nonneg->kO,toNat_natCast->ks,cast_ofNat_Int->yB,natCast_zero->yR,natCast_one->yN
open Go.World renaming cell?_setCell_other->H,frozen?_setCell->y,block_lt_of_cell?->kp,cell?->kh,cell?_setCell_same->ud,frozen?_of_block->uc,cell?_of_block->yI
open Bool renaming false->E,true->z
open Go.Ending renaming returned->U
open Go renaming World->Z
open Go.IntKind renaming i64->Q
open Go.Value renaming pointer->N,int->Y,bool->O,agg->yY,tuple->yT
open Go.Proofs.Tryz renaming prog->P
open Option renaming none->I,some->J
set_option maxHeartbeats 4000000
namespace Go.Proofs.YtdphiompijbelaaGreat
open Go.RowKit
namespace Pg
def ans3 (L:List Mp) (q k:Int) (u:Bool):Int×Int×Int:=(ansE L q k u,ansF L q k u,ansR L q k u)
def Wk.ans (L:List Mp) (K:Wk):Int×Int×Int:=ans3 L K.q K.k K.u
structure WOk (X:Spc) (L L0 fl nw:List Mp) (d:Nat->Option Nat) (A:Nat->List (Int×Int×Int)):Prop where
 inv:Inv X L L0
 now:nw=L
 busy:X.busy=z->fl=L0
 calm:X.busy=E->fl=L
 due:∀j:Nat,j<4->(X.walkOf j).on=z->d j≠I/\(X.walkOf j).ans L ∈ A j
 le:X.C.length<=4
section
variable {X:Spc} {L L0 fl nw:List Mp} {d:Nat->Option Nat} {A:Nat->List (Int×Int×Int)}
theorem walk_ok (h:Inv X L L0) (k:Int):(X.walkOf k).Ok:=by
 unfold Spc.walkOf;split
 ·by_cases hk:k.toNat<X.C.length
  ·exact(h.cores _ hk).ok.walk
  ·rw[show X.C.getD k.toNat Cr.new=Cr.new from by simp[List.getD,List.getElem?_eq_none (Nat.le_of_not_lt hk)]]
   exact Wk.yi5
 ·exact Wk.yi5
theorem walk_fits (h:Inv X L L0) (k:Int):fits (X.walkOf k).q:=by
 have hw:=walk_ok h k;cases ho:(X.walkOf k).on
 ·rw[hw.idle ho]
  show fits 0
  unfold fits;omega
 ·have:=zB.1 (hw.page ho)
  unfold fits;omega
def Wk.Was (K K':Wk):Prop:=K'.on=z->K.on=z/\K'.q=K.q/\K'.k=K.k/\K'.u=K.u
theorem Wk.Was.refl (K:Wk):K.Was K:=fun h=>⟨h,rfl,rfl,rfl⟩
theorem Wk.yjI (K:Wk) (root:Int):K.Was (K.again root):=by
 unfold Wk.again;split
 ·rename_i ho
  exact fun _=>⟨ho,rfl,rfl,rfl⟩
 ·exact .refl K
theorem Wk.was_next (S:Fs) (root:Int) (K:Wk):K.Was ((kOut S root K).next K):=by
 unfold kOut;split
 ·exact .refl K
 ·rename_i ho
  have ho:K.on=z:=by simpa using ho
  split
  ·exact .refl K
  ·split
   ·split
    ·intro e
     cases e
    ·exact K.yjI root
   ·split
    ·exact .refl K
    ·split
     ·intro e
      cases e
     ·split
      ·exact fun _=>⟨ho,rfl,rfl,rfl⟩
      ·split
       ·intro e
        cases e
       ·split
        ·exact fun _=>⟨ho,rfl,rfl,rfl⟩
        ·intro e
         cases e
theorem ended_off {S:Fs} {K:Wk} {root:Int} (h:((kOut S root K).res K).ended=z):(kOut S root K).next K=Wk.off:=by
 rcases hk:kOut S root K with c|K'|r|⟨e,m⟩
 ·rw[hk]at h;cases h
 ·rw[hk]at h;cases h
 ·rfl
 ·rfl
theorem yik {k:Nat} {C':Cr} {S':Fs} {G':List Int} {T':Mp} {W':List Bool} (hk:k<X.C.length) (j:Nat):(⟨S',X.C.set k C',G',T',W'⟩:Spc).walkOf (j:Int)=if j=k then C'.K else X.walkOf (j:Int):=by
 unfold Spc.walkOf;have hj:(0:Int)<=(j:Int):=kO j;simp only[if_pos hj,ks];rw[yiQ hk]
 split<;>rfl
theorem yjO (h:Inv X L L0) (x:Sx) (j:Nat):
 (X.walkOf j).Was ((X.goN x).walkOf j)\/(x.kind=4/\x.core=j/\(X.goE x).c=0/\(X.goE x).ended=E/\(X.goN x).walkOf j=Wk.start 0 x.q x.k x.u):=by
 by_cases hk:1<=x.kind/\x.kind<=3
 ·refine .inl ?_
  have:(X.goN x).C=X.C:=by
   unfold Spc.goN;rw[if_pos hk];unfold Spc.chN Spc.post;split
   ·rfl
   ·split
    ·rfl
    ·split
     ·split<;>rfl
     ·split<;>rfl
  unfold Spc.walkOf;rw[this];exact .refl _
 ·by_cases tC:x.kind<1\/7<x.kind
  ·refine .inl ?_
   unfold Spc.goN;rw[if_neg hk,if_pos tC];exact .refl _
  ·by_cases hr:x.core<0\/(X.C.length:Int)<=x.core
   ·refine .inl ?_
    unfold Spc.goN;rw[if_neg hk,if_neg tC,if_pos hr];exact .refl _
   ·have Hf:=yiW hr
    have ew:∀i:Nat,i=x.core.toNat->X.walkOf i=(X.at' x.core).K:=fun i e=>by
     unfold Spc.walkOf Spc.at';rw[if_pos (kO i),ks,e]
    unfold Spc.goN Spc.goE;rw[if_neg hk,if_neg tC,if_neg hr,if_neg hk,if_neg tC,if_neg hr]
    by_cases h4:x.kind=4
    ·rw[if_pos h4,if_pos h4,yik Hf]
     by_cases e:j=x.core.toNat
     ·rw[if_pos e,ew j e]
      unfold Cr.bgN
      by_cases hc:zK x.q x.k=0/\(X.at' x.core).K.on=E/\(X.at' x.core).hit x.q x.k x.u=E
      ·rw[if_pos hc]
       obtain⟨c1,c2,c3⟩:=hc;refine .inr ⟨h4,by omega,?_,?_,rfl⟩
       ·unfold Cr.bgT
        rw[if_neg (by simp[c1]),if_neg (by simp[c2]),if_neg (by simp[c3])];rfl
       ·unfold Cr.bgT
        rw[if_neg (by simp[c1]),if_neg (by simp[c2]),if_neg (by simp[c3])];rfl
      ·rw[if_neg hc]
       exact .inl (.refl _)
     ·rw[if_neg e]
      exact .inl (.refl _)
    ·rw[if_neg h4,if_neg h4]
     refine .inl ?_
     by_cases h5:x.kind=5
     ·rw[if_pos h5,yik Hf]
      by_cases e:j=x.core.toNat
      ·rw[if_pos e,ew j e]
       exact Wk.was_next _ _ _
      ·rw[if_neg e]
       exact .refl _
     ·rw[if_neg h5]
      by_cases h6:x.kind=6
      ·rw[if_pos h6]
       unfold Spc.akN;split
       ·exact .refl _
       ·split
        ·rw[yik Hf]
         by_cases e:j=x.core.toNat
         ·rw[if_pos e,ew j e]
          exact Wk.yjI _ _
         ·rw[if_neg e]
          exact .refl _
        ·rw[yik Hf]
         by_cases e:j=x.core.toNat
         ·rw[if_pos e,ew j e]
          exact Wk.yjI _ _
         ·rw[if_neg e]
          exact .refl _
      ·rw[if_neg h6,yik Hf]
       by_cases e:j=x.core.toNat
       ·rw[if_pos e,ew j e]
        exact .refl _
       ·rw[if_neg e]
        exact .refl _
theorem ykK (h:Inv X L L0) (x:Sx) (he:(X.goE x).ended=z):((X.goN x).walkOf x.core).on=E:=by
 obtain⟨_,_,c1,c2,hx⟩:=yh3 h x he
 have hr:¬(x.core<0\/(X.C.length:Int)<=x.core):=by omega
 have Hf:=yiW hr
 have ec:((x.core.toNat:Nat):Int)=x.core:=by omega
 rcases hx with ⟨k4,_,ho,_⟩|⟨k5,_,_⟩
 ·rcases yjO h x x.core.toNat with hw|⟨_,_,_,e,_⟩
  ·rw[ec]at hw
   cases hn:((X.goN x).walkOf x.core).on
   ·rfl
   ·have:=(hw hn).1
    unfold Spc.walkOf at this;rw[if_pos c1]at this;unfold Spc.at' at ho;rw[ho]at this;cases this
  ·rw[he]at e
   cases e
 ·have AR:((kOut X.S 0 (X.at' x.core).K).res (X.at' x.core).K).ended=z:=by
   have:=he;unfold Spc.goE at this;rw[if_neg (by omega),if_neg (by omega),if_neg hr,if_neg (by omega),if_pos k5]at this;exact this
  have en:(X.goN x).walkOf x.core=(kOut X.S 0 (X.at' x.core).K).next (X.at' x.core).K:=by
   unfold Spc.goN;rw[if_neg (by omega),if_neg (by omega),if_neg hr,if_neg (by omega),if_pos k5];have:=yik (X:=X) (C':=(X.at' x.core).stN X.S 0) (S':=(X.at' x.core).stS X.S 0) (G':=X.G) (T':=X.T) (W':=X.W) Hf x.core.toNat;rw[ec,if_pos rfl]at this;exact this
  rw[en,ended_off AR];rfl
theorem yjE {e:Ev} {q k:Int} {u:Bool} (h:Right L q k u e):(e.a,e.f,e.r)=ans3 L q k u:=by
 obtain⟨a1,a2,a3⟩:=h;unfold ans3;rw[a1,a2,a3]
theorem WOk.walked (h:WOk X L L0 fl nw d A) (x:Sx) (he:(X.goE x).ended=z) (hk:x.kind=5):0<=x.core/\x.core<4/\d x.core.toNat≠I/\((X.goE x).a,(X.goE x).f,(X.goE x).r) ∈ A x.core.toNat:=by
 obtain⟨_,_,c1,c2,hx⟩:=yh3 h.inv x he;have fe:=h.le;rcases hx with ⟨k4,_⟩|⟨_,ho,hr⟩
 ·omega
 ·have ew:X.walkOf x.core.toNat=(X.at' x.core).K:=by
   unfold Spc.walkOf Spc.at';rw[if_pos (kO _),ks]
  obtain⟨d1,d2⟩:=h.due x.core.toNat (by omega) (by rw[ew];exact ho);refine⟨c1,by omega,d1,?_⟩;rw[yjE hr];rw[ew]at d2;exact d2
theorem WOk.hit (h:WOk X L L0 fl nw d A) (x:Sx) (he:(X.goE x).ended=z) (hk:x.kind=4):0<=x.core/\x.core<4/\((X.goE x).a,(X.goE x).f,(X.goE x).r) ∈ [ans3 nw x.q x.k x.u,ans3 fl x.q x.k x.u]:=by
 obtain⟨_,_,c1,c2,hx⟩:=yh3 h.inv x he;have fe:=h.le;rcases hx with ⟨_,_,_,hr⟩|⟨k5,_⟩
 ·refine⟨c1,by omega,?_⟩
  rcases hr with hr|⟨hb,hr⟩
  ·rw[yjE hr,h.now]
   exact uv
  ·rw[yjE hr,h.busy hb]
   simp
 ·omega
def ykw (d:Nat->Option Nat) (X:Spc) (nw:List Mp) (A:Nat->List (Int×Int×Int)):Nat->List (Int×Int×Int):=fun j=>if d j=I then A j else(X.walkOf j).ans nw::A j
theorem Wk.Was.ans {K K':Wk} (h:K.Was K') (ho:K'.on=z) (M:List Mp):K'.ans M=K.ans M:=by
 obtain⟨_,a,b,c⟩:=h ho;unfold Wk.ans;rw[a,b,c]
theorem WOk.change (h:WOk X L L0 fl nw d A) (x:Sx) (hk:1<=x.kind/\x.kind<=3) (hc:(X.goE x).c=0):
 WOk (X.goN x) (X.nxL L x) (X.nxP L L0 x) (if (X.goE x).back=z then X.nxL L x else fl) (X.nxL L x) d (ykw d (X.goN x) (X.nxL L x) A):=by
 have hs:=ykL h.inv x;refine⟨yj0 h.inv x,rfl,fun e=> ?_,fun e=> ?_,fun j hj ho=> ?_,by rw[hs.2];exact h.le⟩
 ·rcases yjY h.inv x with ⟨⟨k1,k2,k3⟩,b1,b2,b3⟩|⟨⟨k1,k3⟩,b1,b2,b3⟩|⟨hn,_⟩
  ·rw[b3,if_neg (by decide),h.calm b1]
   unfold Spc.nxP;rw[if_pos ⟨k1,k2,k3⟩]
  ·rw[e]at b2
   cases b2
  ·exact absurd ⟨hk.1,hk.2,hc⟩ hn
 ·rcases yjY h.inv x with ⟨⟨k1,k2,k3⟩,b1,b2,b3⟩|⟨⟨k1,k3⟩,b1,b2,b3⟩|⟨hn,_⟩
  ·rw[e]at b2
   cases b2
  ·rw[b3,if_pos rfl]
  ·exact absurd ⟨hk.1,hk.2,hc⟩ hn
 ·rcases yjO h.inv x j with hw|⟨k4,_⟩
  ·obtain⟨d1,_⟩:=h.due j hj (hw ho).1
   refine⟨d1,?_⟩;unfold ykw;rw[if_neg d1];exact uv
  ·omega
theorem ykx (x:Sx) (hn:¬(1<=x.kind/\x.kind<=3/\(X.goE x).c=0)):X.nxL L x=L/\X.nxP L L0 x=L0:=by
 constructor
 ·unfold Spc.nxL
  rw[if_neg hn]
 ·unfold Spc.nxP
  rw[if_neg (fun e=>hn ⟨by omega,e.2⟩)]
theorem WOk.other (h:WOk X L L0 fl nw d A) (x:Sx) (hn:¬(1<=x.kind/\x.kind<=3/\(X.goE x).c=0)) {d':Nat->Option Nat} {A':Nat->List (Int×Int×Int)}
 (hd:∀j:Nat,j<4->((X.goN x).walkOf j).on=z->d' j≠I/\((X.goN x).walkOf j).ans L ∈ A' j):
 WOk (X.goN x) (X.nxL L x) (X.nxP L L0 x) (if (X.goE x).back=z then nw else fl) nw d' A':=by
 have hi:=yj0 h.inv x;have hs:=ykL h.inv x;obtain⟨e1,e2⟩:=ykx (X:=X) (L:=L) (L0:=L0) x hn;rw[e1,e2]at hi ⊢;refine⟨hi,h.now,fun e=> ?_,fun e=> ?_,hd,by rw[hs.2];exact h.le⟩
 ·rcases yjY h.inv x with ⟨⟨k1,k2,k3⟩,_⟩|⟨⟨k1,k3⟩,_⟩|⟨_,⟨b1,b2⟩|⟨b1,b2,b3,_⟩⟩
  ·exact absurd ⟨by omega,k2,k3⟩ hn
  ·exact absurd ⟨by omega,by omega,k3⟩ hn
  ·rw[b1,if_neg (by decide)]
   exact h.busy (by rw[<-b2];exact e)
  ·rw[e]at b3
   cases b3
 ·rcases yjY h.inv x with ⟨⟨k1,k2,k3⟩,_⟩|⟨⟨k1,k3⟩,_⟩|⟨_,⟨b1,b2⟩|⟨b1,b2,b3,_⟩⟩
  ·exact absurd ⟨by omega,k2,k3⟩ hn
  ·exact absurd ⟨by omega,by omega,k3⟩ hn
  ·rw[b1,if_neg (by decide)]
   exact h.calm (by rw[<-b2];exact e)
  ·rw[b1,if_pos rfl]
   exact h.now
theorem WOk.same (h:WOk X L L0 fl nw d A) (x:Sx) (hn:¬(1<=x.kind/\x.kind<=3/\(X.goE x).c=0)) (h4:¬(x.kind=4/\(X.goE x).c=0)):
 WOk (X.goN x) (X.nxL L x) (X.nxP L L0 x) (if (X.goE x).back=z then nw else fl) nw d A:=
 h.other x hn fun j hj ho=>by
  rcases yjO h.inv x j with hw|⟨k4,_,k0,_⟩
  ·obtain⟨d1,d2⟩:=h.due j hj (hw ho).1
   exact⟨d1,by rw[hw.ans ho];exact d2⟩
  ·exact absurd ⟨k4,k0⟩ h4
theorem WOk.ends (h:WOk X L L0 fl nw d A) (x:Sx) (hk:x.kind=5) (he:(X.goE x).ended=z):
 WOk (X.goN x) (X.nxL L x) (X.nxP L L0 x) (if (X.goE x).back=z then nw else fl) nw (fun j=>if j=x.core.toNat then I else d j) A:=
 h.other x (by omega) fun j hj ho=>by
  have iD:=ykK h.inv x he;obtain⟨_,_,c1,_⟩:=yh3 h.inv x he
  by_cases e:j=x.core.toNat
  ·exfalso
   rw[show((j:Nat):Int)=x.core by omega,iD]at ho;cases ho
  ·rw[if_neg e]
   rcases yjO h.inv x j with hw|⟨k4,_⟩
   ·obtain⟨d1,d2⟩:=h.due j hj (hw ho).1
    exact⟨d1,by rw[hw.ans ho];exact d2⟩
   ·omega
theorem WOk.begins (h:WOk X L L0 fl nw d A) (x:Sx) (hk:x.kind=4) (hc:(X.goE x).c=0) (he:(X.goE x).ended=E) (m:Nat):
 WOk (X.goN x) (X.nxL L x) (X.nxP L L0 x) (if (X.goE x).back=z then nw else fl) nw (fun j=>if j=x.core.toNat then J m else d j) (fun j=>if j=x.core.toNat then [ans3 nw x.q x.k x.u,ans3 fl x.q x.k x.u]else A j):=
 h.other x (by omega) fun j hj ho=>by
  rcases yjO h.inv x j with hw|⟨k4,TP,k0,_,hw⟩
  ·by_cases e:j=x.core.toNat
   ·exfalso
    have:=(hw ho).1
    have hr:¬(x.core<0\/(X.C.length:Int)<=x.core):=by
     intro hr;unfold Spc.goE at hc;rw[if_neg (by omega),if_neg (by omega),if_pos hr]at hc;cases hc
    unfold Spc.goE at hc;rw[if_neg (by omega),if_neg (by omega),if_neg hr,if_pos hk]at hc;have hb:=ykD (X.at' x.core) x.q x.k x.u
    have ew:X.walkOf j=(X.at' x.core).K:=by
     unfold Spc.walkOf Spc.at';rw[if_pos (kO j),ks,e]
    rw[ew]at this;have hc:((X.at' x.core).bgT x.q x.k x.u).c=0:=hc;rw[hc,this]at hb;split at hb
    ·omega
    ·simp at hb
   ·rw[if_neg e,if_neg e]
    obtain⟨d1,d2⟩:=h.due j hj (hw ho).1;exact⟨d1,by rw[hw.ans ho];exact d2⟩
  ·have e:j=x.core.toNat:=by omega
   rw[if_pos e,if_pos e];refine⟨by simp,?_⟩;rw[hw,h.now];exact uv
theorem WOk.hits (h:WOk X L L0 fl nw d A) (x:Sx) (hk:x.kind=4) (he:(X.goE x).ended=z) {A':Nat->List (Int×Int×Int)} (hA:∀j,j≠x.core.toNat->A' j=A j):
 WOk (X.goN x) (X.nxL L x) (X.nxP L L0 x) (if (X.goE x).back=z then nw else fl) nw (fun j=>if j=x.core.toNat then I else d j) A':=
 h.other x (by omega) fun j hj ho=>by
  have iD:=ykK h.inv x he;obtain⟨_,_,c1,_⟩:=yh3 h.inv x he
  by_cases e:j=x.core.toNat
  ·exfalso
   rw[show((j:Nat):Int)=x.core by omega,iD]at ho;cases ho
  ·rw[if_neg e,hA j e]
   rcases yjO h.inv x j with hw|⟨_,_,_,k0,_⟩
   ·obtain⟨d1,d2⟩:=h.due j hj (hw ho).1
    exact⟨d1,by rw[hw.ans ho];exact d2⟩
   ·rw[he]at k0
    cases k0
end
end Pg
end Go.Proofs.YtdphiompijbelaaGreat
namespace Go.Proofs.YtdphiompijbelaaGreat
open Go.RowKit Go.Sort
structure Wtd where
 sp:Nat
 fb:Nat
 nb:Nat
 d:Nat->Option Nat
 Fs:Nat->Prop
 Ff:Nat->Prop
 Fn:Nat->Prop
 own:Nat->Nat
def Wtd.F (D:Wtd) (b:Nat):Nat->Prop:=fun k=>k=b\/D.Fs k\/D.Ff k\/D.Fn k\/∃j,j<4/\D.d j=J k
abbrev Ans:Type:=Nat->List (Int×Int×Int)
structure Wtp (w:Z) (b:Nat) (D:Wtd) (X:Pg.Spc) (fl nw:List Pg.Mp) (A:Ans):Prop where
 space:yam w D.sp X D.Fs
 floor:qL w D.fb fl D.Ff
 now:qL w D.nb nw D.Fn
 due:∀j,j<4->∀m,D.d j=J m->vu w m (A j)
 own0:D.own b=0
 own1:∀k,D.Fs k->D.own k=1
 own2:∀k,D.Ff k\/D.Fn k->D.own k=2
 own3:∀j,j<4->∀m,D.d j=J m->D.own m=3+j
structure Wtk (w:Z) (b:Nat) (D:Wtd) (X:Pg.Spc) (fl nw:List Pg.Mp) (ti st:Int) (A:Ans):Prop where
 c0:w.cell? ⟨b,0,I⟩=J (N (J ⟨D.sp,0,I⟩))
 c1:w.cell? ⟨b,1,I⟩=J (N (J ⟨D.fb,0,I⟩))
 c2:w.cell? ⟨b,2,I⟩=J (N (J ⟨D.nb,0,I⟩))
 c3:w.cell? ⟨b,3,I⟩=J (Y Q ti)
 c4:w.cell? ⟨b,4,I⟩=J (Y Q st)
 dd:∀j,j<4->w.cell? ⟨b,5+j,I⟩=J (.map (D.d j))
 c9:w.cell? ⟨b,9,I⟩=J (Y Q 0)
 c10:w.cell? ⟨b,10,I⟩=J (Y Q 0)
 fz:∀p,w.frozen? ⟨b,p,I⟩=E
 parts:Wtp w b D X fl nw A
section
variable {w w':Z} {b:Nat} {D:Wtd} {X X':Pg.Spc} {fl nw:List Pg.Mp} {ti st:Int} {A:Ans}
namespace Wtp
theorem others {G:Nat->Prop} (h:Wtp w b D X fl nw A) (hb:But G w w'):
 ((∀k,D.own k=1->¬G k)->yam w' D.sp X D.Fs)/\((∀k,D.own k=2->¬G k)->qL w' D.fb fl D.Ff/\qL w' D.nb nw D.Fn)/\
 (∀j,j<4->(∀k,D.own k=3+j->¬G k)->∀m,D.d j=J m->vu w' m (A j)):=
 ⟨fun hG=>h.space.keep hb fun k hk=>hG k (h.own1 k hk),fun hG=>⟨h.floor.keep hb fun k hk=>hG k (h.own2 k (.inl hk)),h.now.keep hb fun k hk=>hG k (h.own2 k (.inr hk))⟩,
  fun j hj hG m hm=>(h.due j hj m hm).of_block (hb.block m (h.due j hj m hm).lt (hG m (h.own3 j hj m hm)))⟩
theorem keep {G:Nat->Prop} (h:Wtp w b D X fl nw A) (hb:But G w w') (hG:∀k,D.own k≠0->D.F b k->¬G k):Wtp w' b D X fl nw A:=
 ⟨h.space.keep hb fun k hk=>hG k (by rw[h.own1 k hk];decide) (.inr (.inl hk)),h.floor.keep hb fun k hk=>hG k (by rw[h.own2 k (.inl hk)];decide) (.inr (.inr (.inl hk))),
  h.now.keep hb fun k hk=>hG k (by rw[h.own2 k (.inr hk)];decide) (.inr (.inr (.inr (.inl hk)))),
  fun j hj m hm=>(h.due j hj m hm).of_block (hb.block m (h.due j hj m hm).lt (hG m (by rw[h.own3 j hj m hm];omega) (.inr (.inr (.inr (.inr ⟨j,hj,hm⟩)))))),h.own0,h.own1,h.own2,h.own3⟩
theorem mine (h:Wtp w b D X fl nw A) (hb:But (fun k=>k=b) w w'):Wtp w' b D X fl nw A:=h.keep hb fun k hk _ e=>hk (by rw[e];exact h.own0)
theorem lt (h:Wtp w b D X fl nw A) (rY:b<w.heap.size) {k:Nat} (hk:D.F b k):k<w.heap.size:=by
 rcases hk with rfl|hk|hk|hk|⟨j,hj,hk⟩
 ·exact rY
 ·exact h.space.lt hk
 ·exact h.floor.lt hk
 ·exact h.now.lt hk
 ·exact(h.due j hj k hk).lt
theorem ylt {bD:Nat->Prop} (h:Wtp w b D X fl nw A) (rY:b<w.heap.size) (hs:yam w' D.sp X' bD) (hb:But D.Fs w w') (hF:∀k,bD k->D.Fs k\/w.heap.size<=k):
 Wtp w' b {D with Fs:=bD,own:=fun k=>if k<w.heap.size then D.own k else 1} X' fl nw A:=by
 obtain⟨_,o2,o3⟩:=h.others hb
 obtain⟨o2,KS⟩:=o2 fun k hk hf=>by rw[h.own1 k hf]at hk;cases hk
 refine⟨hs,o2,KS,fun j hj m hm=>o3 j hj (fun k hk hf=>by rw[h.own1 k hf]at hk;omega) m hm,?_,fun k hk=> ?_,fun k hk=> ?_,fun j hj m hm=> ?_⟩
 ·show(if b<w.heap.size then D.own b else 1)=0
  rw[if_pos rY];exact h.own0
 ·show(if k<w.heap.size then D.own k else 1)=1
  split
  ·next hl=>exact(hF k hk).elim (h.own1 k) (fun e=>absurd hl (by omega))
  ·rfl
 ·show(if k<w.heap.size then D.own k else 1)=2
  rw[if_pos (hk.elim h.floor.lt h.now.lt)];exact h.own2 k hk
 ·show(if m<w.heap.size then D.own m else 1)=3+j
  rw[if_pos (h.due j hj m hm).lt];exact h.own3 j hj m hm
theorem booked {n:Nat} {nb':Nat} {dx:List Pg.Mp} {RO:Nat->Prop} (h:Wtp w b D X fl nw A) (hn:∀k,D.F b k->k<n) (hs:qL w nb' dx RO) (hF:∀k,RO k->n<=k):
 Wtp w b {D with nb:=nb',Fn:=RO,own:=fun k=>if k<n then D.own k else 2} X fl dx A:=by
 refine⟨h.space,h.floor,hs,h.due,?_,fun k hk=> ?_,fun k hk=> ?_,fun j hj m hm=> ?_⟩
 ·show(if b<n then D.own b else 2)=0
  rw[if_pos (hn b (.inl rfl))];exact h.own0
 ·show(if k<n then D.own k else 2)=1
  rw[if_pos (hn k (.inr (.inl hk)))];exact h.own1 k hk
 ·show(if k<n then D.own k else 2)=2
  rcases hk with hk|hk
  ·rw[if_pos (hn k (.inr (.inr (.inl hk))))]
   exact h.own2 k (.inl hk)
  ·rw[if_neg (by have:=hF k hk;omega)]
 ·show(if m<n then D.own m else 2)=3+j
  rw[if_pos (hn m (.inr (.inr (.inr (.inr ⟨j,hj,hm⟩)))))];exact h.own3 j hj m hm
theorem over (h:Wtp w b D X fl nw A):Wtp w b {D with fb:=D.nb,Ff:=D.Fn} X nw nw A:=
 ⟨h.space,h.now,h.now,h.due,h.own0,h.own1,fun k hk=>h.own2 k (.inr (hk.elim id id)),h.own3⟩
theorem ended (h:Wtp w b D X fl nw A) (i:Nat):Wtp w b {D with d:=fun j=>if j=i then I else D.d j} X fl nw A:=by
 have key:∀j m,(if j=i then I else D.d j)=J m->D.d j=J m:=fun j m e=>by
  split at e
  ·cases e
  ·exact e
 exact⟨h.space,h.floor,h.now,fun j hj m hm=>h.due j hj m (key j m hm),h.own0,h.own1,h.own2,fun j hj m hm=>h.own3 j hj m (key j m hm)⟩
theorem begun {n m:Nat} {l:List (Int×Int×Int)} (h:Wtp w b D X fl nw A) (hn:∀k,D.F b k->k<n) (i:Nat) (hm:n<=m) (ha:vu w m l):
 Wtp w b {D with d:=fun j=>if j=i then J m else D.d j,own:=fun k=>if k<n then D.own k else 3+i} X fl nw (fun j=>if j=i then l else A j):=by
 refine⟨h.space,h.floor,h.now,fun j hj x hx=> ?_,?_,fun k hk=> ?_,fun k hk=> ?_,fun j hj x hx=> ?_⟩
 ·simp only at hx ⊢
  by_cases e:j=i
  ·rw[if_pos e]at hx ⊢
   obtain rfl:m=x:=by injection hx
   exact ha
  ·rw[if_neg e]at hx ⊢
   exact h.due j hj x hx
 ·show(if b<n then D.own b else 3+i)=0
  rw[if_pos (hn b (.inl rfl))];exact h.own0
 ·show(if k<n then D.own k else 3+i)=1
  rw[if_pos (hn k (.inr (.inl hk)))];exact h.own1 k hk
 ·show(if k<n then D.own k else 3+i)=2
  rw[if_pos (hn k (.inr (.inr (hk.elim .inl (fun e=> .inr (.inl e))))))];exact h.own2 k hk
 ·simp only at hx ⊢
  by_cases e:j=i
  ·rw[if_pos e]at hx
   obtain rfl:m=x:=by injection hx
   rw[if_neg (by omega),e]
  ·rw[if_neg e]at hx
   rw[if_pos (hn x (.inr (.inr (.inr (.inr ⟨j,hj,hx⟩)))))];exact h.own3 j hj x hx
theorem more {i m:Nat} {l:List (Int×Int×Int)} (h:Wtp w b D X fl nw A) (hi:i<4) (hd:D.d i=J m) (ha:vu w' m l) (hb:But (fun k=>k=m) w w'):
 Wtp w' b D X fl nw (fun j=>if j=i then l else A j):=by
 have hm:=h.own3 i hi m hd;obtain⟨o1,o2,o3⟩:=h.others hb
 obtain⟨o2,KS⟩:=o2 fun k hk e=>by rw[e,hm]at hk;omega
 refine⟨o1 fun k hk e=>(by rw[e,hm]at hk;omega),o2,KS,fun j hj x hx=> ?_,h.own0,h.own1,h.own2,h.own3⟩
 show vu w' x (if j=i then l else A j)
 by_cases e:j=i
 ·subst e
  rw[hd]at hx
  obtain rfl:m=x:=by injection hx
  rw[if_pos rfl];exact ha
 ·rw[if_neg e]
  exact o3 j hj (fun k hk ek=>e (by rw[ek,hm]at hk;omega)) x hx
end Wtp
namespace Wtk
theorem lb (h:Wtk w b D X fl nw ti st A):b<w.heap.size:=kp _ _ h.c0
theorem keep {G:Nat->Prop} (h:Wtk w b D X fl nw ti st A) (hb:But G w w') (hG:∀k,D.F b k->¬G k):Wtk w' b D X fl nw ti st A:=by
 have kb:=hb.block b h.lb (hG b (.inl rfl));have e:∀p,w'.cell? ⟨b,p,I⟩=w.cell? ⟨b,p,I⟩:=fun p=>yI (a:=⟨b,p,I⟩) kb;exact⟨(e _).trans h.c0,(e _).trans h.c1,(e _).trans h.c2,(e _).trans h.c3,(e _).trans h.c4,fun j hj=>(e _).trans (h.dd j hj),(e _).trans h.c9,(e _).trans h.c10,fun p=>(uc (a:=⟨b,p,I⟩) kb).trans (h.fz p),h.parts.keep hb fun k _ hk=>hG k hk⟩
theorem grow (h:Wtk w b D X fl nw ti st A) (hb:Below w.heap.size w w'):Wtk w' b D X fl nw ti st A:=h.keep (G:=fun _=>False) (But.yhp hb) (fun _ _=>id)
theorem parted {G:Nat->Prop} {D':Wtd} {Dm dx:List Pg.Mp} {A':Ans} (h:Wtk w b D X fl nw ti st A) (hb:But G w w') (hG:¬G b) (hp:Wtp w' b D' X' Dm dx A') (e0:D'.sp=D.sp) (e1:D'.fb=D.fb) (e2:D'.nb=D.nb) (e3:D'.d=D.d):Wtk w' b D' X' Dm dx ti st A':=by
 have kb:=hb.block b h.lb hG;have e:∀p,w'.cell? ⟨b,p,I⟩=w.cell? ⟨b,p,I⟩:=fun p=>yI (a:=⟨b,p,I⟩) kb;exact⟨by rw[e0];exact(e _).trans h.c0,by rw[e1];exact(e _).trans h.c1,by rw[e2];exact(e _).trans h.c2,(e _).trans h.c3,(e _).trans h.c4,fun j hj=>by rw[e3];exact(e _).trans (h.dd j hj),(e _).trans h.c9,(e _).trans h.c10,fun p=>(uc (a:=⟨b,p,I⟩) kb).trans (h.fz p),hp⟩
theorem F_ne (h:Wtk w b D X fl nw ti st A) {k:Nat} (hk:D.Fs k):k≠b:=fun e=>by
 have:=h.parts.own1 k hk;rw[e,h.parts.own0]at this;cases this
theorem ylt {bD:Nat->Prop} (h:Wtk w b D X fl nw ti st A) (hs:yam w' D.sp X' bD) (hb:But D.Fs w w') (hF:∀k,bD k->D.Fs k\/w.heap.size<=k):
 Wtk w' b {D with Fs:=bD,own:=fun k=>if k<w.heap.size then D.own k else 1} X' fl nw ti st A:=
 h.parted hb (fun e=>h.F_ne e rfl) (h.parts.ylt h.lb hs hb hF) rfl rfl rfl rfl
theorem lt (h:Wtk w b D X fl nw ti st A) {k:Nat} (hk:D.F b k):k<w.heap.size:=h.parts.lt h.lb hk
end Wtk
end
attribute [local go_sem] Loose.gent
section
variable {w w':Z} {b:Nat} {D:Wtd} {X X':Pg.Spc} {fl nw:List Pg.Mp} {ti st:Int} {A:Ans}
theorem qd (w:Z) (b o:Nat) (v:Value):But (fun k=>k=b) w (w.setCell ⟨b,o,I⟩ v):=(But.refl (fun k=>k=b) w).setCell (a:=⟨b,o,I⟩) (.inr rfl) v
namespace Wtk
theorem setc (h:Wtk w b D X fl nw ti st A) {o:Nat} {u v:Value} (hc:w.cell? ⟨b,o,I⟩=J u) (p:Nat):(w.setCell ⟨b,o,I⟩ v).cell? ⟨b,p,I⟩=if p=o then J v else w.cell? ⟨b,p,I⟩:=by
 split
 ·next e=>rw[e];exact ud _ _ _ hc
 ·next e=>exact H _ _ _ _ (fun h=>e (congrArg Addr.off h).symm)
theorem timed (h:Wtk w b D X fl nw ti st A) (t:Int):Wtk (w.setCell ⟨b,3,I⟩ (Y Q t)) b D X fl nw t st A:=by
 have e:=fun p=>h.setc (v:=Y Q t) h.c3 p;exact⟨(e _).trans h.c0,(e _).trans h.c1,(e _).trans h.c2,e 3,(e _).trans h.c4,fun j hj=>(e _).trans (by rw[if_neg (by omega)];exact h.dd j hj),(e _).trans h.c9,(e _).trans h.c10,fun p=>(y _ _ _ _).trans (h.fz p),h.parts.mine (qd _ _ _ _)⟩
theorem stepped (h:Wtk w b D X fl nw ti st A) (t:Int):Wtk (w.setCell ⟨b,4,I⟩ (Y Q t)) b D X fl nw ti t A:=by
 have e:=fun p=>h.setc (v:=Y Q t) h.c4 p;exact⟨(e _).trans h.c0,(e _).trans h.c1,(e _).trans h.c2,(e _).trans h.c3,e 4,fun j hj=>(e _).trans (by rw[if_neg (by omega)];exact h.dd j hj),(e _).trans h.c9,(e _).trans h.c10,fun p=>(y _ _ _ _).trans (h.fz p),h.parts.mine (qd _ _ _ _)⟩
theorem over (h:Wtk w b D X fl nw ti st A):Wtk (w.setCell ⟨b,1,I⟩ (N (J ⟨D.nb,0,I⟩))) b {D with fb:=D.nb,Ff:=D.Fn} X nw nw ti st A:=by
 have e:=fun p=>h.setc (v:=N (J ⟨D.nb,0,I⟩)) h.c1 p;exact⟨(e _).trans h.c0,e 1,(e _).trans h.c2,(e _).trans h.c3,(e _).trans h.c4,fun j hj=>(e _).trans (by rw[if_neg (by omega)];exact h.dd j hj),(e _).trans h.c9,(e _).trans h.c10,fun p=>(y _ _ _ _).trans (h.fz p),(h.parts.mine (qd _ _ _ _)).over⟩
theorem ended (h:Wtk w b D X fl nw ti st A) {i:Nat} (hi:i<4):Wtk (w.setCell ⟨b,5+i,I⟩ (.map I)) b {D with d:=fun j=>if j=i then I else D.d j} X fl nw ti st A:=by
 have e:=fun p=>h.setc (v:= .map I) (h.dd i hi) p;refine⟨(e _).trans ?_,(e _).trans ?_,(e _).trans ?_,(e _).trans ?_,(e _).trans ?_,fun j hj=>(e _).trans ?_,(e _).trans ?_,(e _).trans ?_,fun p=>(y _ _ _ _).trans (h.fz p),(h.parts.mine (qd _ _ _ _)).ended i⟩
 ·rw[if_neg (by omega)];exact h.c0
 ·rw[if_neg (by omega)];exact h.c1
 ·rw[if_neg (by omega)];exact h.c2
 ·rw[if_neg (by omega)];exact h.c3
 ·rw[if_neg (by omega)];exact h.c4
 ·by_cases e0:j=i
  ·rw[if_pos (by omega)]
   simp only[if_pos e0]
  ·rw[if_neg (by omega)]
   simp only[if_neg e0];exact h.dd j hj
 ·rw[if_neg (by omega)];exact h.c9
 ·rw[if_neg (by omega)];exact h.c10
theorem begun (h:Wtk w b D X fl nw ti st A) {i n m:Nat} (hi:i<4) (hn:∀k,D.F b k->k<n) (hm:n<=m) {l:List (Int×Int×Int)} (ha:vu w m l):
 Wtk (w.setCell ⟨b,5+i,I⟩ (.map (J m))) b {D with d:=fun j=>if j=i then J m else D.d j,own:=fun k=>if k<n then D.own k else 3+i} X fl nw ti st (fun j=>if j=i then l else A j):=by
 have e:=fun p=>h.setc (v:= .map (J m)) (h.dd i hi) p
 have OG:m≠b:=fun e=>by have:=hn b (.inl rfl);omega
 refine⟨(e _).trans ?_,(e _).trans ?_,(e _).trans ?_,(e _).trans ?_,(e _).trans ?_,fun j hj=>(e _).trans ?_,(e _).trans ?_,(e _).trans ?_,fun p=>(y _ _ _ _).trans (h.fz p),(h.parts.mine (qd _ _ _ _)).begun hn i hm (ha.of_block ((qd w b _ _).block m ha.lt OG))⟩
 ·rw[if_neg (by omega)];exact h.c0
 ·rw[if_neg (by omega)];exact h.c1
 ·rw[if_neg (by omega)];exact h.c2
 ·rw[if_neg (by omega)];exact h.c3
 ·rw[if_neg (by omega)];exact h.c4
 ·by_cases e0:j=i
  ·rw[if_pos (by omega)]
   simp only[if_pos e0]
  ·rw[if_neg (by omega)]
   simp only[if_neg e0];exact h.dd j hj
 ·rw[if_neg (by omega)];exact h.c9
 ·rw[if_neg (by omega)];exact h.c10
theorem more (h:Wtk w b D X fl nw ti st A) {i m:Nat} {l:List (Int×Int×Int)} (hi:i<4) (hd:D.d i=J m) (ha:vu w' m l) (hb:But (fun k=>k=m) w w'):
 Wtk w' b D X fl nw ti st (fun j=>if j=i then l else A j):=
 h.parted hb (fun e=>by
  have e:b=m:=e;have:=h.parts.own3 i hi m hd;rw[<-e,h.parts.own0]at this
  omega) (h.parts.more hi hd ha hb) rfl rfl rfl rfl
theorem congr {A':Ans} (h:Wtk w b D X fl nw ti st A) (hA:∀j,j<4->A' j=A j):Wtk w b D X fl nw ti st A':=
 ⟨h.c0,h.c1,h.c2,h.c3,h.c4,h.dd,h.c9,h.c10,h.fz,⟨h.parts.space,h.parts.floor,h.parts.now,fun j hj m hm=>by rw[hA j hj];exact h.parts.due j hj m hm,h.parts.own0,h.parts.own1,h.parts.own2,h.parts.own3⟩⟩
end Wtk
structure zd (w:Z) (b:Nat) (D:Wtd) (w':Z) (D':Wtd):Prop where
 but:But (D.F b) w w'
 own:∀k,D'.F b k->D.F b k\/w.heap.size<=k
theorem zd.trans {w1 w2:Z} {D1 D2:Wtd} (h:zd w b D w1 D1) (h':zd w1 b D1 w2 D2):zd w b D w2 D2:=
 ⟨h.but.trans h'.but fun i hi hk=>(h.own i hk).resolve_right (by omega),fun k hk=>(h'.own k hk).elim (h.own k) fun e=> .inr (yP h.but.size e)⟩
theorem zd.below (hb:Below w.heap.size w w'):zd w b D w' D:=⟨But.yhp hb,fun _=> .inl⟩
theorem zd.set (o:Nat) (v:Value) {D':Wtd} (hF:∀k,D'.F b k->D.F b k):zd w b D (w.setCell ⟨b,o,I⟩ v) D':=⟨(qd w b o v).mono fun _ _ e=> .inl e,fun k hk=> .inl (hF k hk)⟩
end
theorem ydg {b:Nat} {D:Wtd} {X:Pg.Spc} {fl nw:List Pg.Mp} {ti st:Int} {A:Ans} (w:Z) (h:Wtk w b D X fl nw ti st A):
 Calls P 35 #[N (J ⟨b,0,I⟩)] w fun e w'=>e=U (Y Q ti)/\w'=w:=by
 have c3:=h.c3;clear h
 go_enter Tryz.func35,Tryz.ntmps35
 go_wp2_with fail
 go_ret
 exact⟨rfl,rfl⟩
theorem ycn {b:Nat} {D:Wtd} {X:Pg.Spc} {fl nw:List Pg.Mp} {ti st:Int} {A:Ans} (j:Nat) (hj:j<4) (a f r:Int) (hd:D.d j≠I) (ha:(a,f,r) ∈ A j) (w:Z) (h:Wtk w b D X fl nw ti st A):
 Calls P 127 #[N (J ⟨b,0,I⟩),Y Q j,yY #[Y Q a,Y Q f,Y Q r]] w fun e w'=>e=U (O z)/\
  Wtk w' b {D with d:=fun i=>if i=j then I else D.d i} X fl nw ti st A/\zd w b D w' {D with d:=fun i=>if i=j then I else D.d i}:=by
 obtain⟨m,hm⟩:=Option.ne_none_iff_exists'.1 hd;obtain⟨W,hW⟩:∃W,W=w.alloc (.cells #[Y Q a,Y Q f,Y Q r] 34):=⟨_,rfl⟩
 have hB:Below w.heap.size w W:=by rw[hW];exact zA (zR _) _
 have hg:=h.grow hB
 have x0:W.cell? ⟨w.heap.size,0,I⟩=J (Y Q a):=by rw[hW];simp[go_sem]
 have x1:W.cell? ⟨w.heap.size,1,I⟩=J (Y Q f):=by rw[hW];simp[go_sem]
 have x2:W.cell? ⟨w.heap.size,2,I⟩=J (Y Q r):=by rw[hW];simp[go_sem]
 have hc:=hg.dd j hj;have hf:=hg.fz;have rY:=h.lb;rw[hm]at hc;have hl:∀W',Below W.heap.size W W'->_:=fun W' hb=>((hg.grow hb).parts.due j hj m hm).look ha;unfold anV at hl;have l1:=hl W (zR _);have l2:=hl W.drew (zR _).drew;have l3:=fun o=>hl (W.alloc o).drew (zA (zR _) o).drew;have l4:=fun o=>hl (W.drew.alloc o) (zA (zR W).drew o);have l5:=fun o=>hl (W.alloc o) (zA (zR _) o);clear hl
 have FIN:Hid (∀Wf,Below (W.setCell ⟨b,5+j,I⟩ (.map I)).heap.size (W.setCell ⟨b,5+j,I⟩ (.map I)) Wf->Wtk Wf b {D with d:=fun i=>if i=j then I else D.d i} X fl nw ti st A/\zd w b D Wf {D with d:=fun i=>if i=j then I else D.d i}):=fun Wf hb=>
  ⟨(hg.ended hj).grow hb,((zd.below hB).trans (.set _ _ fun k hk=>by
   rcases hk with hk|hk|hk|hk|⟨i,hi,hk⟩
   ·exact .inl hk
   ·exact .inr (.inl hk)
   ·exact .inr (.inr (.inl hk))
   ·exact .inr (.inr (.inr (.inl hk)))
   ·simp only at hk
    split at hk
    ·cases hk
    ·exact .inr (.inr (.inr (.inr ⟨i,hi,hk⟩))))).trans (.below hb)⟩
 clear h hg hd ha
 have rU:W.heap.size=w.heap.size+1:=by rw[hW];simp
 obtain rfl|rfl|rfl|rfl:j=0\/j=1\/j=2\/j=3:=by omega
 all_goals
  go_enter Tryz.func127,Tryz.ntmps127
  go_upto_region 1 with fail
  rw[<-hW];clear hW
  go_region
  all_goals
   go_wp2_with fail
   go_ret
   exact⟨rfl,FIN.out _ (by repeat (first|exact zR _|refine Below.drew ?_|refine zA ?_ _))⟩
theorem yag {b:Nat} {D:Wtd} {X:Pg.Spc} {fl nw:List Pg.Mp} {ti st:Int} {A:Ans} (j:Nat) (hj:j<4) (q k:Int) (u:Bool) (hq:Pg.fits q) (w:Z) (h:Wtk w b D X fl nw ti st A):
 Calls P 126 #[N (J ⟨b,0,I⟩),Y Q j,yY #[Y Q q,Y Q k,O u]] w fun e w'=>e=U (yT #[])/\∃D' m,
  Wtk w' b D' X fl nw ti st (fun i=>if i=j then [Pg.ans3 nw q k u,Pg.ans3 fl q k u]else A i)/\D'.d=(fun i=>if i=j then J m else D.d i)/\zd w b D w' D':=by
 have rY:=h.lb;obtain⟨W1,rG⟩:∃W,W=w.alloc (.cells #[Y Q q,Y Q k,O u] 41):=⟨_,rfl⟩;obtain⟨W2,Hz⟩:∃W,W=W1.alloc (.map #[] 0):=⟨_,rfl⟩;obtain⟨W,hW⟩:∃W,W=W2.setCell ⟨b,5+j,I⟩ (.map (J W1.heap.size)):=⟨_,rfl⟩
 have rQ:W1.heap.size=w.heap.size+1:=by rw[rG];simp
 have hB:Below w.heap.size w W2:=by rw[Hz,rG];exact zA (zA (zR _) _) _
 have B:But (fun k=>k=b) w W:=by rw[hW];exact(But.yhp (F:=fun k=>k=b) hB).trans (qd _ _ _ _) fun _ _ e=>e
 have h2:=h.grow hB;have c2:=h2.dd j hj;have z2:=h2.fz
 obtain⟨D',BB,T⟩:∃D',D'={D with d:=fun i=>if i=j then J W1.heap.size else D.d i,own:=fun k=>if k<w.heap.size then D.own k else 3+j}/\Hid (Wtk W b D' X fl nw ti st (fun i=>if i=j then []else A i)):=
  ⟨_,rfl,by rw[Hid,hW];exact h2.begun hj (fun k hk=>h.lt hk) (by omega) (by rw[Hz];exact yem W1)⟩
 have hd:D'.d j=J W1.heap.size:=by rw[BB];simp
 have x0:W.cell? ⟨w.heap.size,0,I⟩=J (Y Q q):=by
  rw[hW,H _ _ _ _ (fun h=>by have:=congrArg Addr.block h;simp at this;omega),Hz,rG];simp[go_sem]
 have x1:W.cell? ⟨w.heap.size,1,I⟩=J (Y Q k):=by
  rw[hW,H _ _ _ _ (fun h=>by have:=congrArg Addr.block h;simp at this;omega),Hz,rG];simp[go_sem]
 have x2:W.cell? ⟨w.heap.size,2,I⟩=J (O u):=by
  rw[hW,H _ _ _ _ (fun h=>by have:=congrArg Addr.block h;simp at this;omega),Hz,rG];simp[go_sem]
 have DN:Hid (zd w b D W D'):=⟨B.mono fun i _ e=> .inl e,fun x hx=>by
  rw[BB]at hx;rcases hx with hx|hx|hx|hx|⟨i,hi,hx⟩
  ·exact .inl (.inl hx)
  ·exact .inl (.inr (.inl hx))
  ·exact .inl (.inr (.inr (.inl hx)))
  ·exact .inl (.inr (.inr (.inr (.inl hx))))
  ·simp only at hx
   split at hx
   ·injection hx with hx
    exact .inr (by omega)
   ·exact .inl (.inr (.inr (.inr (.inr ⟨i,hi,hx⟩))))⟩
 have AP:D'.d=fun i=>if i=j then J W1.heap.size else D.d i:=by rw[BB]
 have HF:=fun d os=>qU q k u hq _ (T.out.grow (below_regrown W d os)).parts.floor;have HN:=fun w3 (h3:Wtk w3 b D' X fl nw ti st (fun i=>if i=j then [(Pg.ansE fl q k u,Pg.ansF fl q k u,Pg.ansR fl q k u)]else A i)) d os=>qU q k u hq _ (h3.grow (below_regrown w3 d os)).parts.now
 have STEP:Hid (∀w3 w4 l l',Wtk w3 b D' X fl nw ti st (fun i=>if i=j then l else A i)->vu w4 W1.heap.size l'->But (fun k=>k=W1.heap.size) w3 w4->Wtk w4 b D' X fl nw ti st (fun i=>if i=j then l' else A i)):=fun w3 w4 l l' h3 a4 Hl=>
  (h3.more hj hd a4 Hl).congr fun i _=>by
    by_cases e:i=j
    ·rw[if_pos e,if_pos e]
    ·rw[if_neg e,if_neg e,if_neg e]
 have G7:Hid (∀w3 l,Wtk w3 b D' X fl nw ti st (fun i=>if i=j then l else A i)->vu w3 W1.heap.size l):=fun w3 l h3=>by
  have:=h3.parts.due j hj _ hd;rw[if_pos rfl]at this;exact this
 have CD:Hid (∀w3 l,Wtk w3 b D' X fl nw ti st (fun i=>if i=j then l else A i)->w3.cell? ⟨b,5+j,I⟩=J (.map (J W1.heap.size))):=fun w3 l h3=>by
  rw[<-hd];exact h3.dd j hj
 have Br:Hid (∀k,k=W1.heap.size->D'.F b k):=fun k e=> .inr (.inr (.inr (.inr ⟨j,hj,by rw[e];exact hd⟩)));have cd:=T.out.dd j hj;rw[hd]at cd;have g0:=cell_regrown x0;have g1:=cell_regrown x1;have g2:=cell_regrown x2;have g3:=cell_regrown cd;have g4:=cell_regrown T.out.c1
 have hM:w.heap.size<W1.heap.size:=by omega
 have hbM:b≠W1.heap.size:=by omega
 clear BB h h2 B hB rQ
 have ou:∀w:Z,(Instr.makeMap 88 I).run P w= .ok (.map (J w.heap.size)) (w.alloc (.map #[] 0)):=fun w=>by kernel_rfl
 subst Hz;have rU:w.heap.size<W.heap.size:=kp _ _ x0;have BK:b<W.heap.size:=kp _ _ cd
 obtain rfl|rfl|rfl|rfl:j=0\/j=1\/j=2\/j=3:=by omega
 all_goals
  simp only[yS,yJ]at hW g3 cd c2
  go_enter Tryz.func126,Tryz.ntmps126
  go_upto_region 1 with fail
  rw[<-rG];clear rG
  go_upto_region 2 with fail
  rw[<-hW];clear hW z2 ou c2;refine Loose.yhr 12 (by kernel_rfl) (by kernel_rfl) ?_;simp only[un,ua,ur,ue]
  repeat (
   refine Loose.zS (fun k hk=> ?_)
   go_simp
   first
    | (refine hk _ ?_;clear hk k)
    | (apply Exists.intro
       refine⟨fun _=> ?_,hk _ ?_⟩
       (go_at_call 164;exact Loose.calls (HF _ _))
       clear hk k))
  refine Loose.yhs ?_;intro w3 He;have T3:Hid _:=T.out.grow He;have x0:=cell_later He x0;have x1:=cell_later He x1;have x2:=cell_later He x2;have D3:Hid (zd w b D w3 D'):=DN.out.trans (.below He);have uO:w.heap.size<w3.heap.size:=ki rU He.size;have HA:=vB (Pg.ansE fl q k u) (Pg.ansF fl q k u) (Pg.ansR fl q k u) w3 (G7.out _ _ T3.out);clear He g0 g1 g2 g3 g4 HF cd T DN
  go_wp2_with fail
  refine HA.mono ?_;rintro e w4 ⟨rfl,a4,Hl⟩;have T4:Hid _:=STEP.out _ _ _ _ T3.out a4 Hl;have D4:Hid (zd w b D w4 D'):=D3.out.trans ⟨Hl.mono fun i _ e=>Br.out i e,fun _=> .inl⟩;have hw4:w.heap.size<w4.heap.size:=ki uO Hl.size;have x0:=(Hl.cell (a:=⟨w.heap.size,0,I⟩) uO (yC hM)).trans x0;have x1:=(Hl.cell (a:=⟨w.heap.size,1,I⟩) uO (yC hM)).trans x1;have x2:=(Hl.cell (a:=⟨w.heap.size,2,I⟩) uO (yC hM)).trans x2;have HF:=HN w4 T4.out;have cd:=CD.out _ _ T4.out;simp only[yS,yJ]at cd;have g0:=cell_regrown x0;have g1:=cell_regrown x1;have g2:=cell_regrown x2;have g3:=cell_regrown cd;have g4:=cell_regrown T4.out.c2;clear Hl a4 T3 D3 HA HN uO rU BK
  go_upto_region 3 with fail
  refine Loose.yhr 12 (by kernel_rfl) (by kernel_rfl) ?_;simp only[un,ua,ur,ue]
  repeat (
   refine Loose.zS (fun k hk=> ?_)
   go_simp
   first
    | (refine hk _ ?_;clear hk k)
    | (apply Exists.intro
       refine⟨fun _=> ?_,hk _ ?_⟩
       (go_at_call 164;exact Loose.calls (HF _ _))
       clear hk k))
  refine Loose.yhs ?_;intro w5 rA;have T5:Hid _:=T4.out.grow rA;have D5:Hid (zd w b D w5 D'):=D4.out.trans (.below rA);have HA:=vB (Pg.ansE nw q k u) (Pg.ansF nw q k u) (Pg.ansR nw q k u) w5 (G7.out _ _ T5.out);clear rA g0 g1 g2 g3 g4 HF cd T4 D4 x0 x1 x2 hw4
  go_wp2_with fail
  refine HA.mono ?_;rintro e w6 ⟨rfl,a6,H7⟩;have T6:Hid _:=STEP.out _ _ _ _ T5.out a6 H7;have D6:Hid (zd w b D w6 D'):=D5.out.trans ⟨H7.mono fun i _ e=>Br.out i e,fun _=> .inl⟩;clear a6 H7 HA T5 D5
  go_wp2_with fail
  go_end0
  exact⟨rfl,D',_,T6.out,AP,D6.out⟩
end Go.Proofs.YtdphiompijbelaaGreat
namespace Go.Proofs.YtdphiompijbelaaGreat
open Go.RowKit Go.Sort
attribute [local go_sem] Loose.gent
theorem ybW {w:Z} {b:Nat} {X:Pg.Spc} {F:Nat->Prop} (h:yam w b X F):Calls P 17 #[N (J ⟨b,0,I⟩)] w fun e w'=>∃ad cap,e=U (.slice ad X.maps.length cap)/\xS w' ad X.maps/\Below w.heap.size w w':=by
 obtain⟨D,h,rfl⟩:=h;refine(yaR w h).mono ?_;rintro e w' ⟨ad,cap,rfl,h1,h2,_⟩;exact⟨ad,cap,rfl,h1,h2⟩
theorem yf9 {w:Z} {b:Nat} {X:Pg.Spc} {F:Nat->Prop} (k:Int) (h:yam w b X F):Calls P 15 #[N (J ⟨b,0,I⟩),Y Q k] w fun e w'=>e=U (yT #[yY #[Y Q (X.walkOf k).q,Y Q (X.walkOf k).k,O (X.walkOf k).u],O (X.walkOf k).on])/\Below w.heap.size w w':=by
 obtain⟨D,h,rfl⟩:=h;exact yft k w h
theorem yaf {w w':Z} {a1 a2:Addr} {v1 v2:Value} (hb:Below w.heap.size w w') (h:w.cell? a1=J v1/\w.cell? a2=J v2):w'.cell? a1=J v1/\w'.cell? a2=J v2:=⟨cell_later hb h.1,cell_later hb h.2⟩
section
variable {w w':Z} {b:Nat} {D:Wtd} {X X':Pg.Spc} {fl nw:List Pg.Mp} {ti st:Int} {A A':Ans}
theorem Wtk.booked (h:Wtk w b D X fl nw ti st A) (hb:But (fun k=>k=b\/w.heap.size<=k) w w') {nb':Nat} {dx:List Pg.Mp} {RO:Nat->Prop}
 (c2:w'.cell? ⟨b,2,I⟩=J (N (J ⟨nb',0,I⟩))) (hc:∀p,p≠2->w'.cell? ⟨b,p,I⟩=w.cell? ⟨b,p,I⟩) (hz:∀p,w'.frozen? ⟨b,p,I⟩=E)
 (hs:qL w' nb' dx RO) (hF:∀k,RO k->w.heap.size<=k):Wtk w' b {D with nb:=nb',Fn:=RO,own:=fun k=>if k<w.heap.size then D.own k else 2} X fl dx ti st A:=
 ⟨(hc 0 (by decide)).trans h.c0,(hc 1 (by decide)).trans h.c1,c2,(hc 3 (by decide)).trans h.c3,(hc 4 (by decide)).trans h.c4,fun j hj=>(hc _ (by omega)).trans (h.dd j hj),(hc 9 (by decide)).trans h.c9,(hc 10 (by decide)).trans h.c10,hz,
  (h.parts.keep hb fun k hk hF e=>e.elim (fun e=>hk (by rw[e];exact h.parts.own0)) (fun e=>by have:=h.lt hF;omega)).booked (fun k hk=>h.lt hk) hs hF⟩
end
def jv (i:Nat) (d:Nat->Option Nat) (X:Pg.Spc) (nw:List Pg.Mp) (A:Ans):Ans:=fun j=>if j<i/\d j≠I then(X.walkOf j).ans nw::A j else A j
theorem je {b:Nat} {D:Wtd} {X:Pg.Spc} {fl nw dx:List Pg.Mp} {ti st:Int} {A:Ans} (g:FuncId) (cb:Array Value) (w:Z) (h:Wtk w b D X fl nw ti st A) (hq:∀k,Pg.fits (X.walkOf k).q) (dK:X.maps=dx) (Hg:dx.length<=5000)
 (oC:0<=ti/\ti<4611686018427387904) (eg:∀args w,(callFunc g args).run P w= .ok (.enter g args) w)
 (hf:∀(nb:Nat) (Fn:Nat->Prop) (w':Z),But (fun k=>k=b) w w'->qL w' nb nw Fn->Calls P g (#[N (J ⟨nb,0,I⟩)]++cb) w' fun e w''=>e=U (yT #[])/\∃F',qL w'' nb dx F'/\But Fn w' w''/\∀k,F' k->Fn k\/w'.heap.size<=k):
 Calls P 125 #[N (J ⟨b,0,I⟩),.func (.func g) #[] cb] w fun e w'=>e=U (O z)/\∃D',Wtk w' b D' X fl dx (ti+1) st (Pg.ykw D.d X dx A)/\D'.d=D.d/\zd w b D w' D':=by
 have c2:=h.c2;have rY:=h.lb;have hz:=h.fz;have HC:=ydC w h.parts.now;have HH:Hid _:=h;have HQ:Hid _:=hq;have HF:Hid _:=hf;clear h hq hf
 go_enter Tryz.func125,Tryz.ntmps125
 go_wp2_with fail
 refine HC.mono ?_;rintro e w1 ⟨nb,Fn,rfl,h1,Ha,tO⟩;have k2:=cell_later Ha c2;have kz:∀p,w1.frozen? ⟨b,p,I⟩=E:=fun p=>(Ha.frozen (p:=⟨b,p,I⟩) rY).trans (hz p)
 have Ho:∀k,Fn k->k≠b:=fun k hk e=>by have:=tO k hk;omega
 obtain⟨W2,Hz⟩:∃W2,W2=w1.setCell ⟨b,2,I⟩ (N (J ⟨nb,0,I⟩)):=⟨_,rfl⟩
 have B2:But (fun k=>k=b) w W2:=by rw[Hz];exact(But.yhp (F:=fun k=>k=b) Ha).trans (qd _ _ _ _) fun _ _ e=>e
 have UI:W2.cell? ⟨b,2,I⟩=J (N (J ⟨nb,0,I⟩)):=by rw[Hz];exact ud _ _ _ k2
 have Di:∀p,p≠2->W2.cell? ⟨b,p,I⟩=w.cell? ⟨b,p,I⟩:=fun p hp=>by
  rw[Hz];exact(H _ _ _ _ (fun h=>hp (congrArg Addr.off h).symm)).trans (Ha.cell (p:=⟨b,p,I⟩) rY)
 have z2:∀p,W2.frozen? ⟨b,p,I⟩=E:=fun p=>by rw[Hz];exact(y _ _ _ _).trans (kz p)
 have d2:qL W2 nb nw Fn:=by rw[Hz];exact h1.keep (qd _ _ _ _) Ho
 have HA:=HF.out nb Fn W2 B2 d2
 go_upto_region 2 with fail
 rw[<-Hz];clear Hz k2 kz h1 HC c2
 go_upto_region 3 with (go_at_fn g;refine HA.mono ?_;rintro e w3 ⟨rfl,F3,h3,He,bZ⟩)
 have Hd:b<W2.heap.size:=ki rY B2.size;have gm:¬Fn b:=fun e=>Ho b e rfl;have B3:But (fun k=>k=b\/w.heap.size<=k) w w3:=(B2.mono fun _ _ e=> .inl e).trans He fun i _ hi=> .inr (tO i hi)
 have T3:Hid (Wtk w3 b {D with nb:=nb,Fn:=F3,own:=fun k=>if k<w.heap.size then D.own k else 2} X fl dx ti st A):=
  HH.out.booked B3 ((He.cell (a:=⟨b,2,I⟩) Hd gm).trans UI) (fun p hp=>(He.cell (a:=⟨b,p,I⟩) Hd gm).trans (Di p hp)) (fun p=>(He.frozen (a:=⟨b,p,I⟩) Hd gm).trans (z2 p)) h3
   fun k hk=>(bZ k hk).elim (tO k) fun e=>yP B2.size e
 have D3:Hid (zd w b D w3 {D with nb:=nb,Fn:=F3,own:=fun k=>if k<w.heap.size then D.own k else 2}):=⟨B3.mono fun i hi e=>e.elim .inl fun e=>by omega,fun k hk=>by
  rcases hk with hk|hk|hk|hk|hk
  ·exact .inl (.inl hk)
  ·exact .inl (.inr (.inl hk))
  ·exact .inl (.inr (.inr (.inl hk)))
  ·exact .inr ((bZ k hk).elim (tO k) fun e=>yP B2.size e)
  ·exact .inl (.inr (.inr (.inr (.inr hk))))⟩
 have c3:=T3.out.c3;have z3:=T3.out.fz;obtain⟨D1,MX⟩:∃D1:Wtd,D1={D with nb:=nb,Fn:=F3,own:=fun k=>if k<w.heap.size then D.own k else 2}:=⟨_,rfl⟩
 have Og:Hid (D1.d=D.d):=by rw[Hid,MX]
 rw[<-MX]at T3 D3;clear UI Di z2 d2 HA He bZ h3 B2 B3 Ha tO Ho Hd gm MX HF HH hz;obtain⟨W4,rF⟩:∃W4,W4=w3.setCell ⟨b,3,I⟩ (Y Q (ti+1)):=⟨_,rfl⟩
 have T4:Hid (Wtk W4 b D1 X fl dx (ti+1) st A):=by rw[Hid,rF];exact T3.out.timed _
 have D4:Hid (zd w b D W4 D1):=by rw[Hid,rF];exact D3.out.trans (.set _ _ fun _=>id)
 have r1:IntKind.i64.wrap (ti+1)=ti+1:=zr (by omega) (by omega)
 go_upto_region 4 with fail
 try rw[r1]
 rw[<-rF];clear rF T3 D3 c3 z3 r1;have d0:=T4.out.dd 0 (by decide);have d1:=T4.out.dd 1 (by decide);have d2:=T4.out.dd 2 (by decide);have d3:=T4.out.dd 3 (by decide);simp only[yS,yJ]at d0 d1 d2 d3
 go_wp2_with fail
 clear d0 d1 d2 d3
 go_loopw [34] (fun i wr=>∃j:Nat,j<=4/\i=Y Q j/\Hid (Wtk wr b D1 X fl dx (ti+1) st (jv j D1.d X dx A))/\Hid (zd w b D wr D1)) (fun i _=>4-(intOf i).toNat)
 case atStart=>exact⟨0,by omega,rfl,T4.out.congr fun j _=>by unfold jv;rw[if_neg (by omega)],D4.out⟩
 case round=>
  obtain⟨j,hj,rfl,T5,D5⟩:=hrel;clear T4 D4
  have n0:∀w:Z,(binOp .neq 88 (.map I) (.map I)).run P w= .ok (O E) w:=fun _=>by kernel_rfl
  have n1:∀(m:Nat) (w:Z),(binOp .neq 88 (.map (J m)) (.map I)).run P w= .ok (O z) w:=fun _ _=>by kernel_rfl
  have ix0:∀(x0 x1 x2 x3:Option Nat) (w:Z),(Instr.index 89 (yY #[.map x0,.map x1,.map x2,.map x3]) (Y Q 0)).run P w= .ok (.map x0) w:=fun _ _ _ _ _=>by kernel_rfl
  have ix1:∀(x0 x1 x2 x3:Option Nat) (w:Z),(Instr.index 89 (yY #[.map x0,.map x1,.map x2,.map x3]) (Y Q 1)).run P w= .ok (.map x1) w:=fun _ _ _ _ _=>by kernel_rfl
  have ix2:∀(x0 x1 x2 x3:Option Nat) (w:Z),(Instr.index 89 (yY #[.map x0,.map x1,.map x2,.map x3]) (Y Q 2)).run P w= .ok (.map x2) w:=fun _ _ _ _ _=>by kernel_rfl
  have ix3:∀(x0 x1 x2 x3:Option Nat) (w:Z),(Instr.index 89 (yY #[.map x0,.map x1,.map x2,.map x3]) (Y Q 3)).run P w= .ok (.map x3) w:=fun _ _ _ _ _=>by kernel_rfl
  have i0:(0:Int)<=(j:Int):=by omega
  by_cases Hf:j<4
  ·cases hd:D1.d j with
   | none=>
     have R:Hid (Wtk wr b D1 X fl dx (ti+1) st (jv (j+1) D1.d X dx A)):=T5.out.congr fun i _=>by
      unfold jv
      by_cases e:i=j
      ·rw[if_neg (fun h=>h.2 (by rw[e];exact hd)),if_neg (fun h=>h.2 (by rw[e];exact hd))]
      ·by_cases e2:i<j/\D1.d i≠I
       ·rw[if_pos e2,if_pos ⟨by omega,e2.2⟩]
       ·rw[if_neg e2,if_neg (fun h=>e2 ⟨by omega,h.2⟩)]
     clear T5
     obtain rfl|rfl|rfl|rfl:j=0\/j=1\/j=2\/j=3:=by omega
     all_goals
      rw[hd]
      try simp only[yB,yR,yN]
      go_wp2_with fail
      go_roundw
      case rel=>exact⟨_,by omega,by go_num,R.out,D5.out⟩
      case measure=>simp[intOf]
   | some m=>
     have ON:=yf9 (j:Int) T5.out.parts.space;have QF:=HQ.out (j:Int)
     have NEXT:Hid (∀w6 w7,Wtk w6 b D1 X fl dx (ti+1) st (jv j D1.d X dx A)->vu w7 m (((X.walkOf j).ans dx)::A j)->But (fun k=>k=m) w6 w7->Wtk w7 b D1 X fl dx (ti+1) st (jv (j+1) D1.d X dx A)):=fun w6 w7 h6 a7 tq=>
      (h6.more Hf hd a7 tq).congr fun i _=>by
        unfold jv
        by_cases e:i=j
        ·rw[if_pos e,if_pos ⟨by omega,by rw[e,hd];simp⟩,e]
        ·rw[if_neg e]
         by_cases e2:i<j/\D1.d i≠I
         ·rw[if_pos e2,if_pos ⟨by omega,e2.2⟩]
         ·rw[if_neg e2,if_neg (fun h=>e2 ⟨by omega,h.2⟩)]
     have G7:Hid (∀w6,Wtk w6 b D1 X fl dx (ti+1) st (jv j D1.d X dx A)->vu w6 m (A j)):=fun w6 h6=>by
      have:=h6.parts.due j Hf m hd;unfold jv at this;rw[if_neg (by omega)]at this;exact this
     have Br:Hid (∀k,k=m->D1.F b k):=fun k e=> .inr (.inr (.inr (.inr ⟨j,Hf,by rw[e];exact hd⟩)));have c0:=T5.out.c0;unfold Pg.Wk.ans Pg.ans3 at NEXT;generalize X.walkOf (j:Int)=K at*;obtain⟨ko,kq,kk,ku,kt,kl,kx⟩:=K;simp only at ON QF NEXT
     obtain rfl|rfl|rfl|rfl:j=0\/j=1\/j=2\/j=3:=by omega
     all_goals
      rw[hd]
      try simp only[yB,yR,yN]
      go_wp2_with fail
      refine ON.mono ?_;rintro e w6 ⟨rfl,H7⟩;obtain⟨W7,nA⟩:∃W7,W7=w6.alloc (.cells #[Y Q kq,Y Q kk,O ku] 41):=⟨_,rfl⟩
      have tq:Below wr.heap.size wr W7:=by rw[nA];exact zA H7 _
      have T7:Hid _:=T5.out.grow tq;have D7:Hid (zd w b D W7 D1):=D5.out.trans (.below tq)
      have y0:W7.cell? ⟨w6.heap.size,0,I⟩=J (Y Q kq):=by rw[nA];simp[go_sem]
      have y1:W7.cell? ⟨w6.heap.size,1,I⟩=J (Y Q kk):=by rw[nA];simp[go_sem]
      have y2:W7.cell? ⟨w6.heap.size,2,I⟩=J (O ku):=by rw[nA];simp[go_sem]
      have HB:=fun d os=>qU kq kk ku QF _ (T7.out.grow (below_regrown W7 d os)).parts.now;have g0:=cell_regrown y0;have g1:=cell_regrown y1;have g2:=cell_regrown y2;have g4:=cell_regrown T7.out.c2
      go_upto_region 9 with fail
      rw[<-nA];clear nA H7 tq T5 D5 y0 y1 y2 ON c0;refine Loose.yhr 7 (by kernel_rfl) (by kernel_rfl) ?_;simp only[un,ua,ur,ue]
      repeat (
       refine Loose.zS (fun k hk=> ?_)
       go_simp
       first
        | (refine hk _ ?_;clear hk k)
        | (apply Exists.intro
           refine⟨fun _=> ?_,hk _ ?_⟩
           (go_at_call 164;exact Loose.calls (HB _ _))
           clear hk k))
      refine Loose.yhs ?_;intro w8 su;have T8:Hid _:=T7.out.grow su;have D8:Hid (zd w b D w8 D1):=D7.out.trans (.below su);have HA:=vB (Pg.ansE dx kq kk ku) (Pg.ansF dx kq kk ku) (Pg.ansR dx kq kk ku) w8 (G7.out _ T8.out);clear su g0 g1 g2 g4 HB T7 D7
      go_wp2_with fail
      refine HA.mono ?_;rintro e w9 ⟨rfl,a9,bI⟩;have T9:Hid _:=NEXT.out _ _ T8.out a9 bI;have D9:Hid (zd w b D w9 D1):=D8.out.trans ⟨bI.mono fun i _ e=>Br.out i e,fun _=> .inl⟩;clear a9 bI HA T8 D8
      go_wp2_with fail
      go_roundw
      case rel=>exact⟨_,by omega,by go_num,T9.out,D9.out⟩
      case measure=>simp[intOf]
  ·obtain rfl:j=4:=by omega
   have d0:=T5.out.c0;have d2:=T5.out.c2
   have T6:Hid (Wtk wr b D1 X fl dx (ti+1) st (Pg.ykw D1.d X dx A)):=T5.out.congr fun i hi=>by
    unfold jv Pg.ykw
    by_cases e:D1.d i=I
    ·rw[if_pos e,if_neg (fun h=>h.2 e)]
    ·rw[if_neg e,if_pos ⟨hi,e⟩]
   clear T5 ix0 ix1 ix2 ix3 n0 n1
   go_upto_region 11 with fail
   have T7:Hid _:=T6.out.grow (zR wr).drew;have D7:Hid (zd w b D wr.drew D1):=D5.out.trans (.below (zR wr).drew);have C7:Hid (wr.drew.cell? ⟨b,0,I⟩=J (N (J ⟨D1.sp,0,I⟩))/\wr.drew.cell? ⟨b,2,I⟩=J (N (J ⟨D1.nb,0,I⟩))):=⟨d0,d2⟩;rw[Og.out]at T7;clear T6 D5
   go_region_held3 (fun w'=>w'.cell? ⟨b,0,I⟩=J (N (J ⟨D1.sp,0,I⟩))/\w'.cell? ⟨b,2,I⟩=J (N (J ⟨D1.nb,0,I⟩))) (go_keep) (first
    | (go_at_call 165;refine(yc7 _ m8.out m9.out Hg).mono ?_;rintro e ax ⟨rfl,fG⟩;have EA:Hid _:=yaf fG C9.out;obtain⟨z40,z41⟩:=EA.out;have IA:Hid _:=T9.out.grow fG;have ED:Hid (zd w b D ax D1):=D9.out.trans (.below fG))
    | (go_at_call 166;refine(ydF _ T8.out.parts.now).mono ?_;rintro e w9 ⟨ad9,dN,rfl,m9,bI,WR⟩;have C9:Hid _:=yaf bI C8.out;obtain⟨z30,z31⟩:=C9.out;have T9:Hid _:=T8.out.grow bI;have D9:Hid (zd w b D w9 D1):=D8.out.trans (.below bI);have m9:Hid _:=m9;have m8:Hid _:=xS.below m8.out bI;clear WR)
    | (go_at_call 17;refine(ybW T7.out.parts.space).mono ?_;rw[dK];rintro e w8 ⟨ad8,IL,rfl,m8,su⟩;have C8:Hid _:=yaf su C7.out;obtain⟨z20,z21⟩:=C8.out;have T8:Hid _:=T7.out.grow su;have D8:Hid (zd w b D w8 D1):=D7.out.trans (.below su);have m8:Hid _:=m8))
   all_goals
    go_wp2_with fail
    go_ret
    exact⟨rfl,D1,IA.out,Og.out,ED.out⟩
theorem yaq:∀args w,(callFunc 156 args).run P w= .ok (.enter 156 args) w:=fun args w=>by simp[go_sem]
theorem yar:∀args w,(callFunc 158 args).run P w= .ok (.enter 158 args) w:=fun args w=>by simp[go_sem]
theorem yas:∀args w,(callFunc 160 args).run P w= .ok (.enter 160 args) w:=fun args w=>by simp[go_sem]
def xh (x:Pg.Sx):Obj:= .cells #[Y Q x.kind,Y Q x.core,Y Q x.m.p,Y Q x.m.s,Y Q x.m.f,Y Q x.m.r,Y Q x.q,Y Q x.k,O x.u] 43
def jz (e:Pg.Ev):Obj:= .cells #[Y Q e.c,O e.ended,Y Q e.a,Y Q e.f,Y Q e.r,O e.back] 36
def ydi (x:Pg.Sx) (c:Nat):Value:=
 if x.kind=1 then .func (.func 156) #[] #[N (J ⟨c,0,I⟩)]
 else if x.kind=2 then .func (.func 158) #[] #[N (J ⟨c,0,I⟩)]
 else if x.kind=3 then .func (.func 160) #[] #[N (J ⟨c,0,I⟩)]
 else .nilFunc
theorem qv (x:Pg.Sx) (w:Z):Calls P 124 #[x.val] w fun e w'=>e=U (ydi x w.heap.size)/\w'=w.alloc (xh x):=by
 obtain⟨kd,co,⟨p,s,f,r⟩,q,k,u⟩:=x;simp only[Pg.Sx.val,xh,ydi]
 by_cases h1:kd=1
 ·subst h1
  go_enter Tryz.func124,Tryz.ntmps124
  go_wp2_with fail
  go_ret
  exact⟨rfl,rfl⟩
 ·by_cases h2:kd=2
  ·subst h2
   go_enter Tryz.func124,Tryz.ntmps124
   go_wp2_with fail
   go_ret
   exact⟨rfl,rfl⟩
  ·by_cases h3:kd=3
   ·subst h3
    go_enter Tryz.func124,Tryz.ntmps124
    go_wp2_with fail
    go_ret
    exact⟨rfl,rfl⟩
   ·rw[if_neg h1,if_neg h2,if_neg h3]
    have e1:(kd==1)=E:=by simpa using h1
    have e2:(kd==2)=E:=by simpa using h2
    have e3:(kd==3)=E:=by simpa using h3
    go_enter Tryz.func124,Tryz.ntmps124
    go_wp2_with fail
    go_ret
    exact⟨rfl,rfl⟩
section
variable {w w':Z} {b:Nat} {D D':Wtd} {X:Pg.Spc} {fl nw:List Pg.Mp} {ti st:Int} {A:Ans}
theorem zd.block (h:zd w b D w' D') {r:Nat} (hr:¬D.F b r) (hl:r<w.heap.size):w'.heap[r]?=w.heap[r]?/\¬D'.F b r/\r<w'.heap.size:=
 ⟨h.but.block r hl hr,fun e=>(h.own r e).elim hr fun e=>by omega,ki hl h.but.size⟩
structure jq (w:Z) (b:Nat) (D:Wtd) (n:Nat) (x:Pg.Sx) (e:Pg.Ev):Prop where
 sx:w.heap[n]?=J (xh x)
 ev:w.heap[n+1]?=J (jz e)
 nF:¬D.F b n
 nF':¬D.F b (n+1)
 lt:n+1<w.heap.size
theorem jq.done {n:Nat} {x:Pg.Sx} {e:Pg.Ev} (h:jq w b D n x e) (hd:zd w b D w' D'):jq w' b D' n x e:=by
 have hl:=h.lt;obtain⟨a1,a2,a3⟩:=hd.block h.nF (by omega);obtain⟨b1,b2,b3⟩:=hd.block h.nF' h.lt;exact⟨a1.trans h.sx,b1.trans h.ev,a2,b2,b3⟩
theorem jq.make (Hf:∀k,D.F b k->k<w.heap.size) (x:Pg.Sx) (e:Pg.Ev):jq ((w.alloc (xh x)).alloc (jz e)) b D w.heap.size x e:=by
 refine⟨?_,?_,fun h=>by have:=Hf _ h;omega,fun h=>by have:=Hf _ h;omega,by simp⟩
 ·rw[Below.heap_alloc _ _ _ (by simp)]
  exact heap_alloc_new _ _
 ·exact(by simp:(w.alloc (xh x)).heap.size=w.heap.size+1)▸heap_alloc_new _ _
theorem jq.cells {n:Nat} {x:Pg.Sx} {e:Pg.Ev} (h:jq w b D n x e):
 (w.cell? ⟨n,0,I⟩=J (Y Q x.kind)/\w.cell? ⟨n,1,I⟩=J (Y Q x.core)/\w.cell? ⟨n,2,I⟩=J (Y Q x.m.p)/\w.cell? ⟨n,3,I⟩=J (Y Q x.m.s)/\w.cell? ⟨n,4,I⟩=J (Y Q x.m.f)/\w.cell? ⟨n,5,I⟩=J (Y Q x.m.r)/\w.cell? ⟨n,6,I⟩=J (Y Q x.q)/\w.cell? ⟨n,7,I⟩=J (Y Q x.k)/\w.cell? ⟨n,8,I⟩=J (O x.u))/\
 (w.cell? ⟨n+1,0,I⟩=J (Y Q e.c)/\w.cell? ⟨n+1,1,I⟩=J (O e.ended)/\w.cell? ⟨n+1,2,I⟩=J (Y Q e.a)/\w.cell? ⟨n+1,3,I⟩=J (Y Q e.f)/\w.cell? ⟨n+1,4,I⟩=J (Y Q e.r)/\w.cell? ⟨n+1,5,I⟩=J (O e.back)):=by
 have h1:=h.sx;have h2:=h.ev;unfold xh at h1;unfold jz at h2;exact⟨by simp[kh,h1],by simp[kh,h2]⟩
theorem ye7 {n:Nat} {x:Pg.Sx} (h:w.heap[n]?=J (xh x)):ybG w n 2 x.m:=by
 unfold xh at h;exact⟨by simp[kh,h],by simp[kh,h],by simp[kh,h],by simp[kh,h]⟩
end
theorem ybC {b:Nat} (x:Pg.Sx) (e:Pg.Ev) (hc:e.c≠0) (w:Z):
 Calls P 74 #[N (J ⟨b,0,I⟩),x.val,e.val] w fun r w'=>r=U (O z)/\Below w.heap.size w w':=by
 have HB:Hid (Below w.heap.size w ((w.alloc (xh x)).alloc (jz e))):=zA (zA (zR _) _) _;obtain⟨kd,co,⟨p,s,f,r⟩,q,k,u⟩:=x;obtain⟨ec,en,ea,ef,er,eb⟩:=e;simp only[Pg.Sx.val,Pg.Ev.val,xh,jz]at HB hc ⊢
 have e1:(ec==0)=E:=by simpa using hc
 go_enter Tryz.func74,Tryz.ntmps74
 go_wp2_with fail
 go_ret
 exact⟨rfl,HB.out⟩
def flN (e:Pg.Ev) (fl nw:List Pg.Mp):List Pg.Mp:=if e.back=z then nw else fl
theorem yaG {b:Nat} {D:Wtd} {X:Pg.Spc} {fl nw:List Pg.Mp} {ti st:Int} {A:Ans} (x:Pg.Sx) (e:Pg.Ev) (hc:e.c=0) (hk:¬(1<=x.kind/\x.kind<=4)) (he:e.ended=E) (w:Z) (h:Wtk w b D X fl nw ti st A):
 Calls P 74 #[N (J ⟨b,0,I⟩),x.val,e.val] w fun r w'=>r=U (O z)/\∃D',Wtk w' b D' X (flN e fl nw) nw ti st A/\D'.d=D.d/\zd w b D w' D':=by
 obtain⟨W,hW⟩:∃W,W=(w.alloc (xh x)).alloc (jz e):=⟨_,rfl⟩
 have hB:Below w.heap.size w W:=by rw[hW];exact zA (zA (zR _) _) _
 have L0:jq W b D w.heap.size x e:=by rw[hW];exact .make (fun k hk=>h.lt hk) x e
 have T0:=h.grow hB;have TA:Hid _:=T0.grow (zA (zR W) (xh x));have DA:Hid (zd w b D (W.alloc (xh x)) D):=(zd.below hB).trans (.below (zA (zR W) (xh x)));have HA:=qv x W;obtain⟨⟨x0,x1,x2,x3,x4,x5,x6,x7,x8⟩,⟨y0,y1,y2,y3,y4,y5⟩⟩:=L0.cells;obtain⟨⟨u0,u1,u2,u3,u4,u5,u6,u7,u8⟩,⟨v0,v1,v2,v3,v4,v5⟩⟩:=(L0.done (.below (D:=D) (zA (zR W) (xh x)))).cells
 have lT:ydi x W.heap.size= .nilFunc:=by
  unfold ydi;rw[if_neg (by omega),if_neg (by omega),if_neg (by omega)]
 rw[lT]at HA;have c2:=TA.out.c2;have c1:=TA.out.c1;have z1:=TA.out.fz
 have e4:(x.kind==4)=E:=by simp;omega
 obtain⟨V,hV⟩:∃V,V=W.alloc (xh x):=⟨_,rfl⟩;rw[<-hV]at HA TA DA u0 u1 u2 u3 u4 u5 u6 u7 u8 v0 v1 v2 v3 v4 v5 c1 c2 z1;have OV:Hid (Wtk (V.setCell ⟨b,1,I⟩ (N (J ⟨D.nb,0,I⟩))) b {D with fb:=D.nb,Ff:=D.Fn} X nw nw ti st A):=TA.out.over
 have OD:Hid (zd w b D (V.setCell ⟨b,1,I⟩ (N (J ⟨D.nb,0,I⟩))) {D with fb:=D.nb,Ff:=D.Fn}):=DA.out.trans (.set _ _ fun k hk=>by
  rcases hk with hk|hk|hk|hk|hk
  ·exact .inl hk
  ·exact .inr (.inl hk)
  ·exact .inr (.inr (.inr (.inl hk)))
  ·exact .inr (.inr (.inr (.inl hk)))
  ·exact .inr (.inr (.inr (.inr hk))))
 have n0:∀w:Z,(binOp .neq 217 .nilFunc .nilFunc).run P w= .ok (O E) w:=fun _=>by kernel_rfl
 have wV:w.heap.size≠b:=fun e=>by have:=h.lb;omega
 have wW:w.heap.size+1≠b:=fun e=>by have:=h.lb;omega
 have NA:b≠w.heap.size:=wV.symm;have NC:b≠w.heap.size+1:=wW.symm;clear h L0 T0 lT hV hB hk;obtain⟨kd,co,⟨p,s,f,r⟩,q,k,u⟩:=x;obtain⟨ec,en,ea,ef,er,eb⟩:=e;simp only at hc he;subst hc he;simp only[Pg.Sx.val,Pg.Ev.val,xh,jz]at HA hW x0 x1 x2 x3 x4 x5 x6 x7 x8 y0 y1 y2 y3 y4 y5 u0 u1 u2 u3 u4 u5 u6 u7 u8 v0 v1 v2 v3 v4 v5 e4 ⊢;cases eb
 ·go_enter Tryz.func74,Tryz.ntmps74
  go_upto_region 1 with fail
  rw[<-hW];clear hW
  go_wp2_with fail
  refine HA.mono ?_;rintro r w1 ⟨rfl,rfl⟩
  go_wp2_with fail
  go_ret
  exact⟨rfl,D,TA.out,rfl,DA.out⟩
 ·go_enter Tryz.func74,Tryz.ntmps74
  go_upto_region 1 with fail
  rw[<-hW];clear hW
  go_wp2_with fail
  refine HA.mono ?_;rintro r w1 ⟨rfl,rfl⟩
  go_wp2_with fail
  go_ret
  exact⟨rfl,_,OV.out,rfl,OD.out⟩
theorem yaj {b:Nat} {D:Wtd} {X:Pg.Spc} {fl nw:List Pg.Mp} {ti st:Int} {A:Ans} (x:Pg.Sx) (e:Pg.Ev) (hc:e.c=0) (hk:x.kind=5) (he:e.ended=z) (gz:e.back=E) (h0:0<=x.core) (h4:x.core<4) (hd:D.d x.core.toNat≠I) (ha:(e.a,e.f,e.r) ∈ A x.core.toNat) (w:Z) (h:Wtk w b D X fl nw ti st A):
 Calls P 74 #[N (J ⟨b,0,I⟩),x.val,e.val] w fun r w'=>r=U (O z)/\∃D',Wtk w' b D' X fl nw ti st A/\D'.d=(fun j=>if j=x.core.toNat then I else D.d j)/\zd w b D w' D':=by
 obtain⟨W,hW⟩:∃W,W=(w.alloc (xh x)).alloc (jz e):=⟨_,rfl⟩
 have hB:Below w.heap.size w W:=by rw[hW];exact zA (zA (zR _) _) _
 have L0:jq W b D w.heap.size x e:=by rw[hW];exact .make (fun k hk=>h.lt hk) x e
 have T0:=h.grow hB;have HA:=qv x W;obtain⟨V,hV⟩:∃V,V=W.alloc (xh x):=⟨_,rfl⟩
 have gT:Below W.heap.size W V:=by rw[hV];exact zA (zR W) _
 have L1:jq V b D w.heap.size x e:=L0.done (.below gT);have T1:Hid _:=T0.grow gT;have D1:Hid (zd w b D V D):=(zd.below hB).trans (.below gT);obtain⟨⟨x0,x1,x2,x3,x4,x5,x6,x7,x8⟩,⟨y0,y1,y2,y3,y4,y5⟩⟩:=L0.cells;obtain⟨⟨u0,u1,u2,u3,u4,u5,u6,u7,u8⟩,⟨v0,v1,v2,v3,v4,v5⟩⟩:=L1.cells
 have lT:ydi x W.heap.size= .nilFunc:=by
  unfold ydi;rw[if_neg (by omega),if_neg (by omega),if_neg (by omega)]
 rw[lT]at HA;have HE:=ycn x.core.toNat (by omega) e.a e.f e.r hd ha V T1.out;rw[show((x.core.toNat:Nat):Int)=x.core by omega]at HE
 have n0:∀w:Z,(binOp .neq 217 .nilFunc .nilFunc).run P w= .ok (O E) w:=fun _=>by kernel_rfl
 rw[<-hV]at HA;clear h L0 L1 T0 lT hV hB gT T1 h0 h4 hd ha;obtain⟨kd,co,⟨p,s,f,r⟩,q,k,u⟩:=x;obtain⟨ec,en,ea,ef,er,eb⟩:=e;simp only at hc he gz hk;subst hc he gz hk;simp only[Pg.Sx.val,Pg.Ev.val,xh,jz]at HA hW x0 x1 x2 x3 x4 x5 x6 x7 x8 y0 y1 y2 y3 y4 y5 u0 u1 u2 u3 u4 u5 u6 u7 u8 v0 v1 v2 v3 v4 v5 HE ⊢
 go_enter Tryz.func74,Tryz.ntmps74
 go_upto_region 1 with fail
 rw[<-hW];clear hW
 go_wp2_with fail
 refine HA.mono ?_;rintro r w1 ⟨rfl,rfl⟩
 go_wp2_with fail
 refine HE.mono ?_;rintro r w2 ⟨rfl,T2,D2⟩;have T2:Hid _:=T2;have D2:Hid _:=D1.out.trans D2
 go_wp2_with fail
 go_ret
 exact⟨rfl,_,T2.out,rfl,D2.out⟩
theorem yah {b:Nat} {D:Wtd} {X:Pg.Spc} {fl nw:List Pg.Mp} {ti st:Int} {A:Ans} (x:Pg.Sx) (hq:Pg.fits x.q) (e:Pg.Ev) (hc:e.c=0) (hk:x.kind=4) (he:e.ended=E) (gz:e.back=E) (h0:0<=x.core) (h4:x.core<4) (w:Z) (h:Wtk w b D X fl nw ti st A):
 Calls P 74 #[N (J ⟨b,0,I⟩),x.val,e.val] w fun r w'=>r=U (O z)/\∃D' m,Wtk w' b D' X fl nw ti st (fun j=>if j=x.core.toNat then [Pg.ans3 nw x.q x.k x.u,Pg.ans3 fl x.q x.k x.u]else A j)/\D'.d=(fun j=>if j=x.core.toNat then J m else D.d j)/\zd w b D w' D':=by
 obtain⟨W,hW⟩:∃W,W=(w.alloc (xh x)).alloc (jz e):=⟨_,rfl⟩
 have hB:Below w.heap.size w W:=by rw[hW];exact zA (zA (zR _) _) _
 have L0:jq W b D w.heap.size x e:=by rw[hW];exact .make (fun k hk=>h.lt hk) x e
 have T0:=h.grow hB;have HA:=qv x W;obtain⟨V,hV⟩:∃V,V=W.alloc (xh x):=⟨_,rfl⟩
 have gT:Below W.heap.size W V:=by rw[hV];exact zA (zR W) _
 have L1:jq V b D w.heap.size x e:=L0.done (.below gT);have T1:Hid _:=T0.grow gT;have D1:Hid (zd w b D V D):=(zd.below hB).trans (.below gT);obtain⟨⟨x0,x1,x2,x3,x4,x5,x6,x7,x8⟩,⟨y0,y1,y2,y3,y4,y5⟩⟩:=L0.cells;obtain⟨⟨u0,u1,u2,u3,u4,u5,u6,u7,u8⟩,⟨v0,v1,v2,v3,v4,v5⟩⟩:=L1.cells
 have lT:ydi x W.heap.size= .nilFunc:=by
  unfold ydi;rw[if_neg (by omega),if_neg (by omega),if_neg (by omega)]
 rw[lT]at HA;have HE:=yag x.core.toNat (by omega) x.q x.k x.u hq V T1.out;rw[show((x.core.toNat:Nat):Int)=x.core by omega]at HE
 have n0:∀w:Z,(binOp .neq 217 .nilFunc .nilFunc).run P w= .ok (O E) w:=fun _=>by kernel_rfl
 rw[<-hV]at HA;have LD:Hid _:=L1;clear h L0 L1 T0 lT hV hB gT T1 h0 h4;generalize MS:(fun j=>if j=x.core.toNat then [Pg.ans3 nw x.q x.k x.u,Pg.ans3 fl x.q x.k x.u]else A j)=A' at HE ⊢;generalize UU:(fun(m:Nat) (j:Nat)=>if j=x.core.toNat then J m else D.d j)=DD;have HDD:Hid (∀m,(fun j=>if j=x.core.toNat then J m else D.d j)=DD m):=fun m=>congrFun UU m;have HE:Hid (Calls _ _ _ _ _):=HE;clear MS UU;obtain⟨kd,co,⟨p,s,f,r⟩,q,k,u⟩:=x;obtain⟨ec,en,ea,ef,er,eb⟩:=e;simp only at hc he gz hk;subst hc he gz hk;simp only[Pg.Sx.val,Pg.Ev.val,xh,jz]at HA hW x0 x1 x2 x3 x4 x5 x6 x7 x8 y0 y1 y2 y3 y4 y5 u0 u1 u2 u3 u4 u5 u6 u7 u8 v0 v1 v2 v3 v4 v5 ⊢
 go_enter Tryz.func74,Tryz.ntmps74
 go_upto_region 1 with fail
 rw[<-hW];clear hW
 go_wp2_with fail
 refine HA.mono ?_;rintro r w1 ⟨rfl,rfl⟩
 go_wp2_with fail
 refine Calls.mono HE.out ?_;rintro r w2 ⟨rfl,D',m,T2,d2,D2⟩;have T2:Hid _:=T2;have d2:Hid _:=d2;obtain⟨⟨u0,u1,u2,u3,u4,u5,u6,u7,u8⟩,⟨v0,v1,v2,v3,v4,v5⟩⟩:=(LD.out.done D2).cells;simp only at u0 u1 u2 u3 u4 u5 u6 u7 u8 v0 v1 v2 v3 v4 v5;have D2:Hid _:=D1.out.trans D2;clear HE LD
 go_wp2_with fail
 go_ret
 exact⟨rfl,D',m,T2.out,d2.out,D2.out⟩
theorem ybD {b:Nat} {D:Wtd} {X:Pg.Spc} {fl nw:List Pg.Mp} {ti st:Int} {A:Ans} (x:Pg.Sx) (hq:Pg.fits x.q) (e:Pg.Ev) (hc:e.c=0) (hk:x.kind=4) (he:e.ended=z) (gz:e.back=E) (h0:0<=x.core) (h4:x.core<4) (ha:(e.a,e.f,e.r) ∈ [Pg.ans3 nw x.q x.k x.u,Pg.ans3 fl x.q x.k x.u]) (w:Z) (h:Wtk w b D X fl nw ti st A):
 Calls P 74 #[N (J ⟨b,0,I⟩),x.val,e.val] w fun r w'=>r=U (O z)/\∃D',Wtk w' b D' X fl nw ti st (fun j=>if j=x.core.toNat then [Pg.ans3 nw x.q x.k x.u,Pg.ans3 fl x.q x.k x.u]else A j)/\D'.d=(fun j=>if j=x.core.toNat then I else D.d j)/\zd w b D w' D':=by
 obtain⟨W,hW⟩:∃W,W=(w.alloc (xh x)).alloc (jz e):=⟨_,rfl⟩
 have hB:Below w.heap.size w W:=by rw[hW];exact zA (zA (zR _) _) _
 have L0:jq W b D w.heap.size x e:=by rw[hW];exact .make (fun k hk=>h.lt hk) x e
 have T0:=h.grow hB;have HA:=qv x W;obtain⟨V,hV⟩:∃V,V=W.alloc (xh x):=⟨_,rfl⟩
 have gT:Below W.heap.size W V:=by rw[hV];exact zA (zR W) _
 have L1:jq V b D w.heap.size x e:=L0.done (.below gT);have T1:Hid _:=T0.grow gT;have D1:Hid (zd w b D V D):=(zd.below hB).trans (.below gT);obtain⟨⟨x0,x1,x2,x3,x4,x5,x6,x7,x8⟩,⟨y0,y1,y2,y3,y4,y5⟩⟩:=L0.cells;obtain⟨⟨u0,u1,u2,u3,u4,u5,u6,u7,u8⟩,⟨v0,v1,v2,v3,v4,v5⟩⟩:=L1.cells
 have lT:ydi x W.heap.size= .nilFunc:=by
  unfold ydi;rw[if_neg (by omega),if_neg (by omega),if_neg (by omega)]
 rw[lT]at HA;have HE:=yag x.core.toNat (by omega) x.q x.k x.u hq V T1.out;rw[show((x.core.toNat:Nat):Int)=x.core by omega]at HE
 have n0:∀w:Z,(binOp .neq 217 .nilFunc .nilFunc).run P w= .ok (O E) w:=fun _=>by kernel_rfl
 rw[<-hV]at HA;have LD:Hid _:=L1
 have EN:Hid (∀w2 D' m,Wtk w2 b D' X fl nw ti st (fun j=>if j=x.core.toNat then [Pg.ans3 nw x.q x.k x.u,Pg.ans3 fl x.q x.k x.u]else A j)->D'.d=(fun j=>if j=x.core.toNat then J m else D.d j)->
  Calls P 127 #[N (J ⟨b,0,I⟩),Y Q x.core,yY #[Y Q e.a,Y Q e.f,Y Q e.r]] w2 fun r w'=>r=U (O z)/\∃D3,Wtk w' b D3 X fl nw ti st (fun j=>if j=x.core.toNat then [Pg.ans3 nw x.q x.k x.u,Pg.ans3 fl x.q x.k x.u]else A j)/\D3.d=(fun j=>if j=x.core.toNat then I else D.d j)/\zd w2 b D' w' D3):=fun w2 D' m T2 d2=>by
  have:=ycn x.core.toNat (by omega) e.a e.f e.r (by rw[d2];simp) (by rw[if_pos rfl];exact ha) w2 T2;rw[show((x.core.toNat:Nat):Int)=x.core by omega]at this;refine this.mono ?_;rintro r w' ⟨rfl,T3,D3⟩;refine⟨rfl,_,T3,?_,D3⟩
  show(fun i=>if i=x.core.toNat then I else D'.d i)=_
  funext j
  rw[d2]
  by_cases ej:j=x.core.toNat
  ·rw[if_pos ej,if_pos ej]
  ·rw[if_neg ej,if_neg ej]
   simp only[if_neg ej]
 clear h L0 L1 T0 lT hV hB gT T1 h0 h4 ha;generalize MS:(fun j=>if j=x.core.toNat then [Pg.ans3 nw x.q x.k x.u,Pg.ans3 fl x.q x.k x.u]else A j)=A' at HE EN ⊢;have HE:Hid (Calls _ _ _ _ _):=HE;clear MS;obtain⟨kd,co,⟨p,s,f,r⟩,q,k,u⟩:=x;obtain⟨ec,en,ea,ef,er,eb⟩:=e;simp only at hc he gz hk;subst hc he gz hk;simp only[Pg.Sx.val,Pg.Ev.val,xh,jz]at HA hW x0 x1 x2 x3 x4 x5 x6 x7 x8 y0 y1 y2 y3 y4 y5 u0 u1 u2 u3 u4 u5 u6 u7 u8 v0 v1 v2 v3 v4 v5 ⊢
 go_enter Tryz.func74,Tryz.ntmps74
 go_upto_region 1 with fail
 rw[<-hW];clear hW
 go_wp2_with fail
 refine HA.mono ?_;rintro r w1 ⟨rfl,rfl⟩
 go_wp2_with fail
 refine Calls.mono HE.out ?_;rintro r w2 ⟨rfl,D',m,T2,d2,D2⟩;have EN:Hid (Calls _ _ _ _ _):=EN.out w2 D' m T2 d2;obtain⟨⟨u0,u1,u2,u3,u4,u5,u6,u7,u8⟩,⟨v0,v1,v2,v3,v4,v5⟩⟩:=(LD.out.done D2).cells;simp only at u0 u1 u2 u3 u4 u5 u6 u7 u8 v0 v1 v2 v3 v4 v5;have D2:Hid _:=D1.out.trans D2;clear HE LD T2 d2
 go_wp2_with fail
 refine Calls.mono EN.out ?_;rintro r w3 ⟨rfl,D3,T3,d3,Cy⟩;have T3:Hid _:=T3;have d3:Hid _:=d3;have Cy:Hid _:=D2.out.trans Cy;clear EN D2
 go_wp2_with fail
 go_ret
 exact⟨rfl,D3,T3.out,d3.out,Cy.out⟩
theorem yai {b:Nat} {D:Wtd} {X:Pg.Spc} {fl nw:List Pg.Mp} {ti st:Int} {A:Ans} (x:Pg.Sx) (hx:Pg.fits x.m.p) (e:Pg.Ev) (hc:e.c=0) (hk:1<=x.kind/\x.kind<=3) (he:e.ended=E) (w:Z) (h:Wtk w b D X fl nw ti st A)
 (hq:∀k,Pg.fits (X.walkOf k).q) (dK:X.maps=Pg.opL nw x) (Hg:(Pg.opL nw x).length<=5000) (oC:0<=ti/\ti<4611686018427387904):
 Calls P 74 #[N (J ⟨b,0,I⟩),x.val,e.val] w fun r w'=>r=U (O z)/\∃D',Wtk w' b D' X (flN e fl (Pg.opL nw x)) (Pg.opL nw x) (ti+1) st (Pg.ykw D.d X (Pg.opL nw x) A)/\D'.d=D.d/\zd w b D w' D':=by
 obtain⟨W,hW⟩:∃W,W=(w.alloc (xh x)).alloc (jz e):=⟨_,rfl⟩
 have hB:Below w.heap.size w W:=by rw[hW];exact zA (zA (zR _) _) _
 have L0:jq W b D w.heap.size x e:=by rw[hW];exact .make (fun k hk=>h.lt hk) x e
 have T0:=h.grow hB;have HA:=qv x W;obtain⟨V,hV⟩:∃V,V=W.alloc (xh x):=⟨_,rfl⟩
 have gT:Below W.heap.size W V:=by rw[hV];exact zA (zR W) _
 have L1:jq V b D w.heap.size x e:=L0.done (.below gT);have T1:Hid _:=T0.grow gT;have D1:Hid (zd w b D V D):=(zd.below hB).trans (.below gT);obtain⟨⟨x0,x1,x2,x3,x4,x5,x6,x7,x8⟩,⟨y0,y1,y2,y3,y4,y5⟩⟩:=L0.cells;obtain⟨⟨u0,u1,u2,u3,u4,u5,u6,u7,u8⟩,⟨v0,v1,v2,v3,v4,v5⟩⟩:=L1.cells
 have n1:∀(w:Z) (g:FuncId) (cb:Array Value),(binOp .neq 217 (.func (.func g) #[] cb) .nilFunc).run P w= .ok (O z) w:=fun _ _ _=>by kernel_rfl
 have rR:=h.lb
 have BK:W.heap.size≠b:=fun e=>by have:=hB.size;omega
 have Kh:V.heap.size=W.heap.size+1:=by rw[hV];simp
 have Ex:V.heap[W.heap.size]?=J (xh x):=by rw[hV];exact heap_alloc_new _ _
 have MP:∀w',But (fun k=>k=b) V w'->ybG w' W.heap.size 2 x.m:=fun w' hb'=>ye7 ((hb'.block W.heap.size (by omega) BK).trans Ex)
 obtain⟨g,hg,CH⟩:∃g,ydi x W.heap.size= .func (.func g) #[] #[N (J ⟨W.heap.size,0,I⟩)]/\Hid (Calls P 125 #[N (J ⟨b,0,I⟩),.func (.func g) #[] #[N (J ⟨W.heap.size,0,I⟩)]] V fun r w'=>r=U (O z)/\∃D',Wtk w' b D' X fl (Pg.opL nw x) (ti+1) st (Pg.ykw D.d X (Pg.opL nw x) A)/\D'.d=D.d/\zd V b D w' D'):=by
  obtain k1|k2|k3:x.kind=1\/x.kind=2\/x.kind=3:=by omega
  ·refine⟨156,by unfold ydi;rw[if_pos k1],je _ _ V T1.out hq dK Hg oC yaq fun nb Fn w' hb' hd=> ?_⟩
   rw[show Pg.opL nw x=Pg.addL nw x.m by unfold Pg.opL;rw[if_pos k1]];exact ycv x hx w' hd (MP w' hb')
  ·refine⟨158,by unfold ydi;rw[if_neg (by omega),if_pos k2],je _ _ V T1.out hq dK Hg oC yar fun nb Fn w' hb' hd=> ?_⟩
   rw[show Pg.opL nw x=Pg.yhU nw x.m.p by unfold Pg.opL;rw[if_neg (by omega),if_pos k2]];exact ycw x hx w' hd (MP w' hb')
  ·refine⟨160,by unfold ydi;rw[if_neg (by omega),if_neg (by omega),if_pos k3],je _ _ V T1.out hq dK Hg oC yas fun nb Fn w' hb' hd=> ?_⟩
   rw[show Pg.opL nw x=Pg.yir nw x.m.p x.m.r by unfold Pg.opL;rw[if_neg (by omega),if_neg (by omega)]];exact ycx x hx w' hd (MP w' hb')
 rw[hg]at HA;rw[<-hV]at HA;have LD:Hid _:=L1
 have e4:(x.kind==4)=E:=by simp;omega
 have wV:w.heap.size≠b:=fun e=>by omega
 have wW:w.heap.size+1≠b:=fun e=>by omega
 have NA:b≠w.heap.size:=wV.symm;have NC:b≠w.heap.size+1:=wW.symm;clear h L0 L1 T0 hV hB gT T1 MP hq dK Hg oC Ex Kh hg hk BK rR;generalize Pg.opL nw x=dx at*;obtain⟨kd,co,⟨p,s,f,r⟩,q,k,u⟩:=x;obtain⟨ec,en,ea,ef,er,eb⟩:=e;simp only at hc he;subst hc he;simp only[Pg.Sx.val,Pg.Ev.val,xh,jz]at HA hW x0 x1 x2 x3 x4 x5 x6 x7 x8 y0 y1 y2 y3 y4 y5 u0 u1 u2 u3 u4 u5 u6 u7 u8 v0 v1 v2 v3 v4 v5 e4 ⊢;cases eb
 all_goals
  go_enter Tryz.func74,Tryz.ntmps74
  go_upto_region 1 with fail
  rw[<-hW];clear hW
  go_wp2_with fail
  refine HA.mono ?_;rintro r w1 ⟨rfl,rfl⟩
  go_wp2_with fail
  refine Calls.mono CH.out ?_;rintro r w2 ⟨rfl,D',T2,d2,D2⟩;obtain⟨⟨u0,u1,u2,u3,u4,u5,u6,u7,u8⟩,⟨v0,v1,v2,v3,v4,v5⟩⟩:=(LD.out.done D2).cells;simp only at u0 u1 u2 u3 u4 u5 u6 u7 u8 v0 v1 v2 v3 v4 v5;have T2:Hid _:=T2;have d2:Hid _:=d2;have D2:Hid _:=D1.out.trans D2;have c1:=T2.out.c1;have c2:=T2.out.c2;have z1:=T2.out.fz;have OV:Hid (Wtk (w2.setCell ⟨b,1,I⟩ (N (J ⟨D'.nb,0,I⟩))) b {D' with fb:=D'.nb,Ff:=D'.Fn} X dx dx (ti+1) st _):=T2.out.over
  have OD:Hid (zd w b D (w2.setCell ⟨b,1,I⟩ (N (J ⟨D'.nb,0,I⟩))) {D' with fb:=D'.nb,Ff:=D'.Fn}):=D2.out.trans (.set _ _ fun k hk=>by
   rcases hk with hk|hk|hk|hk|hk
   ·exact .inl hk
   ·exact .inr (.inl hk)
   ·exact .inr (.inr (.inr (.inl hk)))
   ·exact .inr (.inr (.inr (.inl hk)))
   ·exact .inr (.inr (.inr (.inr hk))))
  clear CH LD
  go_wp2_with fail
  go_ret
  first
   | exact⟨rfl,D',T2.out,d2.out,D2.out⟩
   | exact⟨rfl,_,OV.out,d2.out,OD.out⟩
def Pg.Spc.chg (X:Pg.Spc) (x:Pg.Sx):Int:=if 1<=x.kind/\x.kind<=3/\(X.goE x).c=0 then 1 else 0
theorem yeq {X:Pg.Spc} (x:Pg.Sx) (hk:1<=x.kind/\x.kind<=3):(X.goE x).ended=E:=by
 unfold Pg.Spc.goE;rw[if_pos hk];unfold Pg.Spc.chE;split
 ·rfl
 ·split
  ·rfl
  ·split<;>rfl
theorem ydz {X:Pg.Spc} (x:Pg.Sx) (hk:x.kind=4\/x.kind=5) (hc:(X.goE x).c=0):0<=x.core/\x.core<X.C.length:=by
 unfold Pg.Spc.goE at hc;rw[if_neg (by omega),if_neg (by omega)]at hc
 by_cases hr:x.core<0\/(X.C.length:Int)<=x.core
 ·rw[if_pos hr]at hc
  cases hc
 ·omega
theorem ybL {X:Pg.Spc} (x:Pg.Sx) (hk:x.kind=4\/x.kind=5):(X.goE x).back=E:=by
 unfold Pg.Spc.goE;rw[if_neg (by omega),if_neg (by omega)];split
 ·rfl
 ·split
  ·rfl
  ·rw[if_pos (by omega)]
   rfl
theorem yfA {X:Pg.Spc} {L L0:List Pg.Mp} (h:Pg.Inv X L L0):X.maps=L:=by
 obtain⟨a1,a2,_⟩:=Pg.inv_tables h;unfold Pg.Spc.maps;rw[if_pos a1,a2]
theorem yco {b:Nat} {D:Wtd} {X:Pg.Spc} {L L0 fl nw:List Pg.Mp} {ti st:Int} {A:Ans} (x:Pg.Sx) (hx:yek x) (ok:Pg.WOk X L L0 fl nw D.d A) (w:Z) (h:Wtk w b D (X.goN x) fl nw ti st A) (oC:0<=ti/\ti<4611686018427387904):
 Calls P 74 #[N (J ⟨b,0,I⟩),x.val,(X.goE x).val] w fun r w'=>r=U (O z)/\∃D' Dm A',Wtk w' b D' (X.goN x) Dm (X.nxL L x) (ti+X.chg x) st A'/\Pg.WOk (X.goN x) (X.nxL L x) (X.nxP L L0 x) Dm (X.nxL L x) D'.d A'/\zd w b D w' D':=by
 have LV:=ok.now
 by_cases hc:(X.goE x).c=0
 ·by_cases hk:1<=x.kind/\x.kind<=3
  ·have hi:=Pg.yj0 ok.inv x
   have eL:X.nxL L x=Pg.opL nw x:=by
    unfold Pg.Spc.nxL;rw[if_pos ⟨hk.1,hk.2,hc⟩,LV];rfl
   have ec:X.chg x=1:=by unfold Pg.Spc.chg;rw[if_pos ⟨hk.1,hk.2,hc⟩]
   have hm:(X.goN x).maps=Pg.opL nw x:=by rw[yfA hi,eL]
   have Hg:(Pg.opL nw x).length<=5000:=by
    rw[<-eL];have:=(Pg.yh5 hi.bas.rep).len;omega
   have ok':=ok.change x hk hc;refine(yai x hx.1 (X.goE x) hc hk (yeq x hk) w h (Pg.walk_fits hi) hm Hg oC).mono ?_;rintro r w' ⟨rfl,D',T,d,Dn⟩;rw[ec,eL];rw[eL]at ok';refine⟨rfl,D',_,_,T,?_,Dn⟩;rw[d];exact ok'
  ·have hn:¬(1<=x.kind/\x.kind<=3/\(X.goE x).c=0):=fun e=>hk ⟨e.1,e.2.1⟩
   have eL:X.nxL L x=nw:=(Pg.ykx (L0:=L0) x hn).1.trans LV.symm
   have ec:ti+X.chg x=ti:=by unfold Pg.Spc.chg;rw[if_neg hn];omega
   rw[ec]
   by_cases h4:x.kind=4
   ·obtain⟨r1,r2⟩:=ydz x (.inl h4) hc
    have fe:=ok.le;have hb:=ybL (X:=X) x (.inl h4);cases he:(X.goE x).ended
    ·refine(yah x hx.2.2.2.2.1 (X.goE x) hc h4 he hb r1 (by omega) w h).mono ?_
     rintro r w' ⟨rfl,D',m,T,d,Dn⟩;have ok':=ok.begins x h4 hc he m;rw[hb,eL]at ok';refine⟨rfl,D',_,_,by rw[eL];exact T,?_,Dn⟩;rw[eL,d];exact ok'
    ·obtain⟨_,_,hm⟩:=ok.hit x he h4
     refine(ybD x hx.2.2.2.2.1 (X.goE x) hc h4 he hb r1 (by omega) hm w h).mono ?_;rintro r w' ⟨rfl,D',T,d,Dn⟩;have ok':=ok.hits x h4 he (A':=fun j=>if j=x.core.toNat then [Pg.ans3 nw x.q x.k x.u,Pg.ans3 fl x.q x.k x.u]else A j) (fun j hj=>if_neg hj);rw[hb,eL]at ok';refine⟨rfl,D',_,_,by rw[eL];exact T,?_,Dn⟩;rw[eL,d];exact ok'
   ·cases he:(X.goE x).ended
    ·refine(yaG x (X.goE x) hc (by omega) he w h).mono ?_
     rintro r w' ⟨rfl,D',T,d,Dn⟩;have ok':=ok.same x hn (fun e=>h4 e.1);rw[eL]at ok';refine⟨rfl,D',_,_,by rw[eL];exact T,?_,Dn⟩;rw[eL,d];exact ok'
    ·have h5:x.kind=5:=by
      obtain⟨_,_,_,_,hx⟩:=Pg.yh3 ok.inv x he;rcases hx with ⟨k4,_⟩|⟨k5,_⟩
      ·exact absurd k4 h4
      ·exact k5
     obtain⟨r1,r2,r3,r4⟩:=ok.walked x he h5;have hb:=ybL (X:=X) x (.inr h5);refine(yaj x (X.goE x) hc h5 he hb r1 r2 r3 r4 w h).mono ?_;rintro r w' ⟨rfl,D',T,d,Dn⟩;have ok':=ok.ends x h5 he;rw[hb,eL]at ok';refine⟨rfl,D',_,_,by rw[eL];exact T,?_,Dn⟩;rw[eL,d];exact ok'
 ·have hn:¬(1<=x.kind/\x.kind<=3/\(X.goE x).c=0):=fun e=>hc e.2.2
  have eL:X.nxL L x=nw:=(Pg.ykx (L0:=L0) x hn).1.trans LV.symm
  have ec:ti+X.chg x=ti:=by unfold Pg.Spc.chg;rw[if_neg hn];omega
  obtain⟨e1,e2⟩:=Pg.yka ok.inv x hc
  have hb:(X.goE x).back=E:=by rw[e2];rfl
  have ok':=ok.same x hn (fun e=>hc e.2);rw[hb,eL]at ok';refine(ybC x (X.goE x) hc w).mono ?_;rintro r w' ⟨rfl,rR⟩;refine⟨rfl,D,fl,A,by rw[eL,ec];exact h.grow rR,?_,.below rR⟩;rw[eL];exact ok'
end Go.Proofs.YtdphiompijbelaaGreat
