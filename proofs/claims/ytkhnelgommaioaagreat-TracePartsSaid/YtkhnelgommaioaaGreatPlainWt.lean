import Derived.Test.YtkhnelgommaioaaGreatPlainSH
import Derived.Test.YtkhnelgommaioaaGreatSpVal
namespace Go.Proofs.YtkhnelgommaioaaGreat
open Go.RowKit
set_option linter.unusedVariables false
set_option maxRecDepth 10000
namespace Pg
def ans3 (L:List Mp) (q k:Int) (u:Bool):Int×Int×Int:=(ansE L q k u,ansF L q k u,ansR L q k u)
def Wk.ans (L:List Mp) (K:Wk):Int×Int×Int:=ans3 L K.q K.k K.u
structure WOk (X:Spc) (L L0 fl nw:List Mp) (d:Nat->Option Nat) (A:Nat->List (Int×Int×Int)):Prop where
 inv:Inv X L L0
 now:nw=L
 busy:X.busy=true->fl=L0
 calm:X.busy=false->fl=L
 due:∀j:Nat,j<4->(X.walkOf j).on=true->d j≠none/\(X.walkOf j).ans L ∈ A j
 le:X.C.length<=4
section
variable {X:Spc} {L L0 fl nw:List Mp} {d:Nat->Option Nat} {A:Nat->List (Int×Int×Int)}
theorem walk_ok (h:Inv X L L0) (k:Int):(X.walkOf k).Ok:=by
 unfold Spc.walkOf
 split
 ·by_cases hk:k.toNat<X.C.length
  ·exact(h.cores _ hk).ok.walk
  ·rw[show X.C.getD k.toNat Cr.new=Cr.new from by simp[List.getD,List.getElem?_eq_none (Nat.le_of_not_lt hk)]]
   exact Wk.off_ok
 ·exact Wk.off_ok
theorem walk_fits (h:Inv X L L0) (k:Int):fits (X.walkOf k).q:=by
 have hw:=walk_ok h k
 cases ho:(X.walkOf k).on
 ·rw[hw.idle ho]
  show fits 0
  unfold fits
  omega
 ·have:=zB.1 (hw.page ho)
  unfold fits
  omega
def Wk.Was (K K':Wk):Prop:=K'.on=true->K.on=true/\K'.q=K.q/\K'.k=K.k/\K'.u=K.u
theorem Wk.Was.refl (K:Wk):K.Was K:=fun h=>⟨h,rfl,rfl,rfl⟩
theorem Wk.was_again (K:Wk) (root:Int):K.Was (K.again root):=by
 unfold Wk.again
 split
 ·rename_i ho
  exact fun _=>⟨ho,rfl,rfl,rfl⟩
 ·exact .refl K
theorem Wk.was_next (S:Fs) (root:Int) (K:Wk):K.Was ((kOut S root K).next K):=by
 unfold kOut
 split
 ·exact .refl K
 ·rename_i ho
  have ho:K.on=true:=by simpa using ho
  split
  ·exact .refl K
  ·split
   ·split
    ·intro e
     cases e
    ·exact K.was_again root
   ·split
    ·exact .refl K
    ·split
     ·intro e
      cases e
     ·split
      ·exact fun _=>⟨ho,rfl,rfl,rfl⟩
      ·split
       ·intro e
        cases e
       ·split
        ·exact fun _=>⟨ho,rfl,rfl,rfl⟩
        ·intro e
         cases e
theorem ended_off {S:Fs} {K:Wk} {root:Int} (h:((kOut S root K).res K).ended=true):(kOut S root K).next K=Wk.off:=by
 rcases hk:kOut S root K with c|K'|r|⟨e,m⟩
 ·rw[hk]at h;cases h
 ·rw[hk]at h;cases h
 ·rfl
 ·rfl
theorem walkOf_set {k:Nat} {C':Cr} {S':Fs} {G':List Int} {T':Mp} {W':List Bool} (hk:k<X.C.length) (j:Nat):(⟨S',X.C.set k C',G',T',W'⟩:Spc).walkOf (j:Int)=if j=k then C'.K else X.walkOf (j:Int):=by
 unfold Spc.walkOf
 have hj:(0:Int)<=(j:Int):=Int.natCast_nonneg j
 simp only[if_pos hj,Int.toNat_natCast]
 rw[set_getD hk]
 split<;>rfl
theorem go_was (h:Inv X L L0) (x:Sx) (j:Nat):
 (X.walkOf j).Was ((X.goN x).walkOf j)\/(x.kind=4/\x.core=j/\(X.goE x).c=0/\(X.goE x).ended=false/\(X.goN x).walkOf j=Wk.start 0 x.q x.k x.u):=by
 by_cases hk:1<=x.kind/\x.kind<=3
 ·refine .inl ?_
  have:(X.goN x).C=X.C:=by
   unfold Spc.goN
   rw[if_pos hk]
   unfold Spc.chN Spc.post
   split
   ·rfl
   ·split
    ·rfl
    ·split
     ·split<;>rfl
     ·split<;>rfl
  unfold Spc.walkOf
  rw[this]
  exact .refl _
 ·by_cases hk2:x.kind<1\/7<x.kind
  ·refine .inl ?_
   unfold Spc.goN
   rw[if_neg hk,if_pos hk2]
   exact .refl _
  ·by_cases hr:x.core<0\/(X.C.length:Int)<=x.core
   ·refine .inl ?_
    unfold Spc.goN
    rw[if_neg hk,if_neg hk2,if_pos hr]
    exact .refl _
   ·have hlt:=core_lt hr
    have ew:∀i:Nat,i=x.core.toNat->X.walkOf i=(X.at' x.core).K:=fun i e=>by
     unfold Spc.walkOf Spc.at'
     rw[if_pos (Int.natCast_nonneg i),Int.toNat_natCast,e]
    unfold Spc.goN Spc.goE
    rw[if_neg hk,if_neg hk2,if_neg hr,if_neg hk,if_neg hk2,if_neg hr]
    by_cases h4:x.kind=4
    ·rw[if_pos h4,if_pos h4,walkOf_set hlt]
     by_cases e:j=x.core.toNat
     ·rw[if_pos e,ew j e]
      unfold Cr.bgN
      by_cases hc:zK x.q x.k=0/\(X.at' x.core).K.on=false/\(X.at' x.core).hit x.q x.k x.u=false
      ·rw[if_pos hc]
       obtain⟨c1,c2,c3⟩:=hc
       refine .inr ⟨h4,by omega,?_,?_,rfl⟩
       ·unfold Cr.bgT
        rw[if_neg (by simp[c1]),if_neg (by simp[c2]),if_neg (by simp[c3])]
        rfl
       ·unfold Cr.bgT
        rw[if_neg (by simp[c1]),if_neg (by simp[c2]),if_neg (by simp[c3])]
        rfl
      ·rw[if_neg hc]
       exact .inl (.refl _)
     ·rw[if_neg e]
      exact .inl (.refl _)
    ·rw[if_neg h4,if_neg h4]
     refine .inl ?_
     by_cases h5:x.kind=5
     ·rw[if_pos h5,walkOf_set hlt]
      by_cases e:j=x.core.toNat
      ·rw[if_pos e,ew j e]
       exact Wk.was_next _ _ _
      ·rw[if_neg e]
       exact .refl _
     ·rw[if_neg h5]
      by_cases h6:x.kind=6
      ·rw[if_pos h6]
       unfold Spc.akN
       split
       ·exact .refl _
       ·split
        ·rw[walkOf_set hlt]
         by_cases e:j=x.core.toNat
         ·rw[if_pos e,ew j e]
          exact Wk.was_again _ _
         ·rw[if_neg e]
          exact .refl _
        ·rw[walkOf_set hlt]
         by_cases e:j=x.core.toNat
         ·rw[if_pos e,ew j e]
          exact Wk.was_again _ _
         ·rw[if_neg e]
          exact .refl _
      ·rw[if_neg h6,walkOf_set hlt]
       by_cases e:j=x.core.toNat
       ·rw[if_pos e,ew j e]
        exact .refl _
       ·rw[if_neg e]
        exact .refl _
theorem go_ended (h:Inv X L L0) (x:Sx) (he:(X.goE x).ended=true):((X.goN x).walkOf x.core).on=false:=by
 obtain⟨_,_,c1,c2,hx⟩:=ended_right h x he
 have hr:¬(x.core<0\/(X.C.length:Int)<=x.core):=by omega
 have hlt:=core_lt hr
 have ec:((x.core.toNat:Nat):Int)=x.core:=by omega
 rcases hx with ⟨k4,_,ho,_⟩|⟨k5,_,_⟩
 ·rcases go_was h x x.core.toNat with hw|⟨_,_,_,e,_⟩
  ·rw[ec]at hw
   cases hn:((X.goN x).walkOf x.core).on
   ·rfl
   ·have:=(hw hn).1
    unfold Spc.walkOf at this
    rw[if_pos c1]at this
    unfold Spc.at' at ho
    rw[ho]at this
    cases this
  ·rw[he]at e
   cases e
 ·have he2:((kOut X.S 0 (X.at' x.core).K).res (X.at' x.core).K).ended=true:=by
   have:=he
   unfold Spc.goE at this
   rw[if_neg (by omega),if_neg (by omega),if_neg hr,if_neg (by omega),if_pos k5]at this
   exact this
  have en:(X.goN x).walkOf x.core=(kOut X.S 0 (X.at' x.core).K).next (X.at' x.core).K:=by
   unfold Spc.goN
   rw[if_neg (by omega),if_neg (by omega),if_neg hr,if_neg (by omega),if_pos k5]
   have:=walkOf_set (X:=X) (C':=(X.at' x.core).stN X.S 0) (S':=(X.at' x.core).stS X.S 0) (G':=X.G) (T':=X.T) (W':=X.W) hlt x.core.toNat
   rw[ec,if_pos rfl]at this
   exact this
  rw[en,ended_off he2]
  rfl
theorem right_ans {e:Ev} {q k:Int} {u:Bool} (h:Right L q k u e):(e.a,e.f,e.r)=ans3 L q k u:=by
 obtain⟨a1,a2,a3⟩:=h
 unfold ans3
 rw[a1,a2,a3]
theorem WOk.walked (h:WOk X L L0 fl nw d A) (x:Sx) (he:(X.goE x).ended=true) (hk:x.kind=5):0<=x.core/\x.core<4/\d x.core.toNat≠none/\((X.goE x).a,(X.goE x).f,(X.goE x).r) ∈ A x.core.toNat:=by
 obtain⟨_,_,c1,c2,hx⟩:=ended_right h.inv x he
 have hle:=h.le
 rcases hx with ⟨k4,_⟩|⟨_,ho,hr⟩
 ·omega
 ·have ew:X.walkOf x.core.toNat=(X.at' x.core).K:=by
   unfold Spc.walkOf Spc.at'
   rw[if_pos (Int.natCast_nonneg _),Int.toNat_natCast]
  obtain⟨d1,d2⟩:=h.due x.core.toNat (by omega) (by rw[ew];exact ho)
  refine⟨c1,by omega,d1,?_⟩
  rw[right_ans hr]
  rw[ew]at d2
  exact d2
theorem WOk.hit (h:WOk X L L0 fl nw d A) (x:Sx) (he:(X.goE x).ended=true) (hk:x.kind=4):0<=x.core/\x.core<4/\((X.goE x).a,(X.goE x).f,(X.goE x).r) ∈ [ans3 nw x.q x.k x.u,ans3 fl x.q x.k x.u]:=by
 obtain⟨_,_,c1,c2,hx⟩:=ended_right h.inv x he
 have hle:=h.le
 rcases hx with ⟨_,_,_,hr⟩|⟨k5,_⟩
 ·refine⟨c1,by omega,?_⟩
  rcases hr with hr|⟨hb,hr⟩
  ·rw[right_ans hr,h.now]
   exact List.mem_cons_self
  ·rw[right_ans hr,h.busy hb]
   simp
 ·omega
def moreA (d:Nat->Option Nat) (X:Spc) (nw:List Mp) (A:Nat->List (Int×Int×Int)):Nat->List (Int×Int×Int):=fun j=>if d j=none then A j else(X.walkOf j).ans nw::A j
theorem Wk.Was.ans {K K':Wk} (h:K.Was K') (ho:K'.on=true) (M:List Mp):K'.ans M=K.ans M:=by
 obtain⟨_,a,b,c⟩:=h ho
 unfold Wk.ans
 rw[a,b,c]
theorem WOk.change (h:WOk X L L0 fl nw d A) (x:Sx) (hk:1<=x.kind/\x.kind<=3) (hc:(X.goE x).c=0):
 WOk (X.goN x) (X.nxL L x) (X.nxP L L0 x) (if (X.goE x).back=true then X.nxL L x else fl) (X.nxL L x) d (moreA d (X.goN x) (X.nxL L x) A):=by
 have hs:=go_sizes h.inv x
 refine⟨inv_step h.inv x,rfl,fun e=> ?_,fun e=> ?_,fun j hj ho=> ?_,by rw[hs.2];exact h.le⟩
 ·rcases go_busy h.inv x with ⟨⟨k1,k2,k3⟩,b1,b2,b3⟩|⟨⟨k1,k3⟩,b1,b2,b3⟩|⟨hn,_⟩
  ·rw[b3,if_neg (by decide),h.calm b1]
   unfold Spc.nxP
   rw[if_pos ⟨k1,k2,k3⟩]
  ·rw[e]at b2
   cases b2
  ·exact absurd ⟨hk.1,hk.2,hc⟩ hn
 ·rcases go_busy h.inv x with ⟨⟨k1,k2,k3⟩,b1,b2,b3⟩|⟨⟨k1,k3⟩,b1,b2,b3⟩|⟨hn,_⟩
  ·rw[e]at b2
   cases b2
  ·rw[b3,if_pos rfl]
  ·exact absurd ⟨hk.1,hk.2,hc⟩ hn
 ·rcases go_was h.inv x j with hw|⟨k4,_⟩
  ·obtain⟨d1,_⟩:=h.due j hj (hw ho).1
   refine⟨d1,?_⟩
   unfold moreA
   rw[if_neg d1]
   exact List.mem_cons_self
  ·omega
theorem nx_same (x:Sx) (hn:¬(1<=x.kind/\x.kind<=3/\(X.goE x).c=0)):X.nxL L x=L/\X.nxP L L0 x=L0:=by
 constructor
 ·unfold Spc.nxL
  rw[if_neg hn]
 ·unfold Spc.nxP
  rw[if_neg (fun e=>hn ⟨by omega,e.2⟩)]
theorem WOk.other (h:WOk X L L0 fl nw d A) (x:Sx) (hn:¬(1<=x.kind/\x.kind<=3/\(X.goE x).c=0)) {d':Nat->Option Nat} {A':Nat->List (Int×Int×Int)}
 (hd:∀j:Nat,j<4->((X.goN x).walkOf j).on=true->d' j≠none/\((X.goN x).walkOf j).ans L ∈ A' j):
 WOk (X.goN x) (X.nxL L x) (X.nxP L L0 x) (if (X.goE x).back=true then nw else fl) nw d' A':=by
 have hi:=inv_step h.inv x
 have hs:=go_sizes h.inv x
 obtain⟨e1,e2⟩:=nx_same (X:=X) (L:=L) (L0:=L0) x hn
 rw[e1,e2]at hi ⊢
 refine⟨hi,h.now,fun e=> ?_,fun e=> ?_,hd,by rw[hs.2];exact h.le⟩
 ·rcases go_busy h.inv x with ⟨⟨k1,k2,k3⟩,_⟩|⟨⟨k1,k3⟩,_⟩|⟨_,⟨b1,b2⟩|⟨b1,b2,b3,_⟩⟩
  ·exact absurd ⟨by omega,k2,k3⟩ hn
  ·exact absurd ⟨by omega,by omega,k3⟩ hn
  ·rw[b1,if_neg (by decide)]
   exact h.busy (by rw[<-b2];exact e)
  ·rw[e]at b3
   cases b3
 ·rcases go_busy h.inv x with ⟨⟨k1,k2,k3⟩,_⟩|⟨⟨k1,k3⟩,_⟩|⟨_,⟨b1,b2⟩|⟨b1,b2,b3,_⟩⟩
  ·exact absurd ⟨by omega,k2,k3⟩ hn
  ·exact absurd ⟨by omega,by omega,k3⟩ hn
  ·rw[b1,if_neg (by decide)]
   exact h.calm (by rw[<-b2];exact e)
  ·rw[b1,if_pos rfl]
   exact h.now
theorem WOk.same (h:WOk X L L0 fl nw d A) (x:Sx) (hn:¬(1<=x.kind/\x.kind<=3/\(X.goE x).c=0)) (h4:¬(x.kind=4/\(X.goE x).c=0)):
 WOk (X.goN x) (X.nxL L x) (X.nxP L L0 x) (if (X.goE x).back=true then nw else fl) nw d A:=
 h.other x hn fun j hj ho=>by
  rcases go_was h.inv x j with hw|⟨k4,_,k0,_⟩
  ·obtain⟨d1,d2⟩:=h.due j hj (hw ho).1
   exact⟨d1,by rw[hw.ans ho];exact d2⟩
  ·exact absurd ⟨k4,k0⟩ h4
theorem WOk.ends (h:WOk X L L0 fl nw d A) (x:Sx) (hk:x.kind=5) (he:(X.goE x).ended=true):
 WOk (X.goN x) (X.nxL L x) (X.nxP L L0 x) (if (X.goE x).back=true then nw else fl) nw (fun j=>if j=x.core.toNat then none else d j) A:=
 h.other x (by omega) fun j hj ho=>by
  have hoff:=go_ended h.inv x he
  obtain⟨_,_,c1,_⟩:=ended_right h.inv x he
  by_cases e:j=x.core.toNat
  ·exfalso
   rw[show((j:Nat):Int)=x.core by omega,hoff]at ho
   cases ho
  ·rw[if_neg e]
   rcases go_was h.inv x j with hw|⟨k4,_⟩
   ·obtain⟨d1,d2⟩:=h.due j hj (hw ho).1
    exact⟨d1,by rw[hw.ans ho];exact d2⟩
   ·omega
theorem WOk.begins (h:WOk X L L0 fl nw d A) (x:Sx) (hk:x.kind=4) (hc:(X.goE x).c=0) (he:(X.goE x).ended=false) (m:Nat):
 WOk (X.goN x) (X.nxL L x) (X.nxP L L0 x) (if (X.goE x).back=true then nw else fl) nw (fun j=>if j=x.core.toNat then some m else d j) (fun j=>if j=x.core.toNat then [ans3 nw x.q x.k x.u,ans3 fl x.q x.k x.u]else A j):=
 h.other x (by omega) fun j hj ho=>by
  rcases go_was h.inv x j with hw|⟨k4,hco,k0,_,hw⟩
  ·by_cases e:j=x.core.toNat
   ·exfalso
    have:=(hw ho).1
    have hr:¬(x.core<0\/(X.C.length:Int)<=x.core):=by
     intro hr
     unfold Spc.goE at hc
     rw[if_neg (by omega),if_neg (by omega),if_pos hr]at hc
     cases hc
    unfold Spc.goE at hc
    rw[if_neg (by omega),if_neg (by omega),if_neg hr,if_pos hk]at hc
    have hb:=bgT_code (X.at' x.core) x.q x.k x.u
    have ew:X.walkOf j=(X.at' x.core).K:=by
     unfold Spc.walkOf Spc.at'
     rw[if_pos (Int.natCast_nonneg j),Int.toNat_natCast,e]
    rw[ew]at this
    have hc:((X.at' x.core).bgT x.q x.k x.u).c=0:=hc
    rw[hc,this]at hb
    split at hb
    ·omega
    ·simp at hb
   ·rw[if_neg e,if_neg e]
    obtain⟨d1,d2⟩:=h.due j hj (hw ho).1
    exact⟨d1,by rw[hw.ans ho];exact d2⟩
  ·have e:j=x.core.toNat:=by omega
   rw[if_pos e,if_pos e]
   refine⟨by simp,?_⟩
   rw[hw,h.now]
   exact List.mem_cons_self
theorem WOk.hits (h:WOk X L L0 fl nw d A) (x:Sx) (hk:x.kind=4) (he:(X.goE x).ended=true) {A':Nat->List (Int×Int×Int)} (hA:∀j,j≠x.core.toNat->A' j=A j):
 WOk (X.goN x) (X.nxL L x) (X.nxP L L0 x) (if (X.goE x).back=true then nw else fl) nw (fun j=>if j=x.core.toNat then none else d j) A':=
 h.other x (by omega) fun j hj ho=>by
  have hoff:=go_ended h.inv x he
  obtain⟨_,_,c1,_⟩:=ended_right h.inv x he
  by_cases e:j=x.core.toNat
  ·exfalso
   rw[show((j:Nat):Int)=x.core by omega,hoff]at ho
   cases ho
  ·rw[if_neg e,hA j e]
   rcases go_was h.inv x j with hw|⟨_,_,_,k0,_⟩
   ·obtain⟨d1,d2⟩:=h.due j hj (hw ho).1
    exact⟨d1,by rw[hw.ans ho];exact d2⟩
   ·rw[he]at k0
    cases k0
end
end Pg
end Go.Proofs.YtkhnelgommaioaaGreat
