import Derived.Test.YtkhnelgommaioaaGreatPlainSD
import Derived.KernelRfl
namespace Go.Proofs.YtkhnelgommaioaaGreat
open Go.RowKit
set_option maxRecDepth 10000
namespace Pg
def Right (L:List Mp) (q k:Int) (u:Bool) (e:Ev):Prop:=e.a=ansE L q k u/\e.f=ansF L q k u/\e.r=ansR L q k u
theorem takes_n (S:Fs):S.take.n=S.n:=by
 unfold Fs.take
 split
 ·rfl
 ·split<;>rfl
theorem insW_n (p s:Int):∀(lv:Nat) (S:Fs) (t:Int),(insW p s lv S t).1.n=S.n
 | 0,_,_=>rfl
 | lv+1,S,t=>by
   rw[insW]
   split
   ·rfl
   ·rw[insW_n p s lv,(store_n _ _ _ _).1,takes_n]
theorem ins_n (S:Fs) (t:Int) (m:Mp):(insS S t m).n=S.n:=by
 unfold insS
 split
 ·rw[(store_n _ _ _ _).1,insW_n]
 ·rfl
theorem prs_n (S:Fs) (t p r:Int):(prS S t p r).n=S.n:=by
 unfold prS
 split
 ·exact(store_n _ _ _ _).1
 ·rfl
section
variable {X:Spc} {L L0:List Mp}
theorem Inv.stT (h:Inv X L L0) {k:Nat} (hk:k<X.C.length) (ho:(X.C.getD k Cr.new).K.on=true):Stepped X.S X.G L L0 X.T (X.W.getD k false) (X.C.getD k Cr.new):=bas_walk h.bas (h.cores k hk) ho
theorem go_sizes (h:Inv X L L0) (x:Sx):(X.goN x).S.n=X.S.n/\(X.goN x).C.length=X.C.length:=by
 unfold Spc.goN
 split
 ·unfold Spc.chN
  split
  ·exact⟨rfl,rfl⟩
  ·rename_i hb
   have hb:X.busy=false:=by simpa using hb
   split
   ·exact⟨ins_n _ _ _,rfl⟩
   ·split
    ·split
     ·exact⟨(rep_remove (h.rep hb) _).2.1,rfl⟩
     ·exact⟨rfl,rfl⟩
    ·split
     ·exact⟨prs_n _ _ _ _,rfl⟩
     ·exact⟨rfl,rfl⟩
 ·split
  ·exact⟨rfl,rfl⟩
  ·split
   ·exact⟨rfl,rfl⟩
   ·rename_i _ hc
    have hlt:=core_lt hc
    split
    ·exact⟨rfl,by simp⟩
    ·split
     ·refine⟨?_,by simp⟩
      show((X.C.getD x.core.toNat Cr.new).stS X.S 0).n=X.S.n
      cases ho:(X.C.getD x.core.toNat Cr.new).K.on
      ·rw[(off_step (S:=X.S) ho).2.2]
      ·exact(h.stT hlt ho).n
     ·split
      ·unfold Spc.akN
       split
       ·exact⟨rfl,rfl⟩
       ·split
        ·exact⟨rfl,by simp⟩
        ·exact⟨(gives_like X.G X.S h.bas.ok h.bas.nd h.bas.hs).2.2.1,by simp⟩
      ·exact⟨rfl,by simp⟩
theorem inv_tables (h:Inv X L L0):(thr X.S zW 3 0 0).2=0/\zM (thr X.S zW 3 0 0).1=L/\((0:Int)::zU (thr X.S zW 3 0 0).1).Nodup/\(((0:Int)::zU (thr X.S zW 3 0 0).1).length:Int)+X.G.length+X.S.free=X.S.n/\needed L=(((0:Int)::zU (thr X.S zW 3 0 0).1).length:Int):=by
 rw[h.bas.thr]
 have g:=gives_like X.G X.S h.bas.ok h.bas.nd h.bas.hs
 have hf:=rep_free h.bas.rep
 have hn:=rep_needed h.bas.rep
 rw[g.2.2.2.2,g.2.2.1]at hf
 refine⟨h.bas.rep.code,h.bas.rep.maps,h.bas.rep.nodup,?_,?_⟩
 ·rw[List.length_cons]
  omega
 ·rw[hn,List.length_cons]
  omega
theorem bgT_code (C:Cr) (q k:Int) (u:Bool):(C.bgT q k u).c=if zK q k≠0 then zK q k else if C.K.on=true then 8 else 0:=by
 unfold Cr.bgT
 split
 ·rfl
 ·split
  ·rfl
  ·split
   ·rfl
   ·rfl
theorem code_same (h:Inv X L L0) (x:Sx) (hc:(X.goE x).c≠0):X.goN x=X/\X.goE x= .code (X.goE x).c:=by
 unfold Spc.goE at hc ⊢
 unfold Spc.goN
 by_cases hk:1<=x.kind/\x.kind<=3
 ·rw[if_pos hk]at hc
  rw[if_pos hk,if_pos hk]
  unfold Spc.chE at hc ⊢
  unfold Spc.chN
  by_cases hb:X.busy=true
  ·rw[if_pos hb,if_pos hb]
   exact⟨rfl,rfl⟩
  ·rw[if_neg hb]at hc
   rw[if_neg hb,if_neg hb]
   by_cases h1:x.kind=1
   ·rw[if_pos h1]at hc
    rw[if_pos h1,if_pos h1]
    have hc:insC X.S 0 x.m≠0:=hc
    have:insS X.S 0 x.m=X.S:=by rw[insS,if_neg hc]
    rw[this]
    refine⟨rfl,?_⟩
    simp[Ev.code,hc]
   ·rw[if_neg h1]at hc
    rw[if_neg h1,if_neg h1]
    by_cases h2:x.kind=2
    ·rw[if_pos h2]at hc
     rw[if_pos h2,if_pos h2,if_neg (show ¬tFC X.S 0 x.m.p=0 from hc)]
     exact⟨rfl,rfl⟩
    ·rw[if_neg h2]at hc
     rw[if_neg h2,if_neg h2,if_neg (show ¬prC X.S 0 x.m.p x.m.r=0 from hc)]
     exact⟨rfl,rfl⟩
 ·rw[if_neg hk]at hc
  rw[if_neg hk,if_neg hk]
  by_cases hk2:x.kind<1\/7<x.kind
  ·rw[if_pos hk2,if_pos hk2]
   exact⟨rfl,rfl⟩
  ·rw[if_neg hk2]at hc
   rw[if_neg hk2,if_neg hk2]
   by_cases hr:x.core<0\/(X.C.length:Int)<=x.core
   ·rw[if_pos hr,if_pos hr]
    exact⟨rfl,rfl⟩
   ·rw[if_neg hr]at hc
    rw[if_neg hr,if_neg hr]
    have hlt:=core_lt hr
    by_cases h4:x.kind=4
    ·rw[if_pos h4]at hc
     rw[if_pos h4,if_pos h4]
     have hc:((X.at' x.core).bgT x.q x.k x.u).c≠0:=hc
     rw[bgT_code]at hc
     have e1:(X.at' x.core).bgN 0 x.q x.k x.u=X.at' x.core:=by
      unfold Cr.bgN
      rw[if_neg]
      rintro ⟨a1,a2,_⟩
      rw[a1,a2]at hc
      exact hc rfl
     have e2:(X.at' x.core).bgT x.q x.k x.u= .code ((X.at' x.core).bgT x.q x.k x.u).c:=by
      unfold Cr.bgT
      split
      ·rfl
      ·rename_i b1
       split
       ·rfl
       ·rename_i b2
        rw[if_neg b1,if_neg b2]at hc
        exact absurd rfl hc
     rw[e1]
     refine⟨?_,?_⟩
     ·unfold Spc.at'
      rw[set_same hlt]
     ·rw[e2]
      rfl
    ·rw[if_neg h4]at hc
     rw[if_neg h4,if_neg h4]
     by_cases h5:x.kind=5
     ·rw[if_pos h5]at hc
      rw[if_pos h5,if_pos h5]
      have hc:((X.C.getD x.core.toNat Cr.new).stT X.S 0).c≠0:=hc
      cases ho:(X.C.getD x.core.toNat Cr.new).K.on
      ·obtain⟨o1,o2,o3⟩:=off_step (S:=X.S) ho
       unfold Spc.at'
       rw[o1,o2,o3,set_same hlt]
       exact⟨rfl,rfl⟩
      ·exact absurd (h.stT hlt ho).code hc
     ·rw[if_neg h5]at hc
      rw[if_neg h5,if_neg h5]
      by_cases h6:x.kind=6
      ·rw[if_pos h6]at hc
       rw[if_pos h6,if_pos h6]
       unfold Spc.akE at hc ⊢
       unfold Spc.akN
       by_cases hw:X.W.getD x.core.toNat false=false
       ·rw[if_pos hw,if_pos hw]
        exact⟨rfl,rfl⟩
       ·rw[if_neg hw]at hc
        exfalso
        split at hc
        ·exact hc rfl
        ·exact hc rfl
      ·rw[if_neg h6]at hc
       rw[if_neg h6,if_neg h6]
       by_cases hL:(X.at' x.core).L=[]
       ·rw[if_pos hL]
        refine⟨?_,rfl⟩
        have:(X.at' x.core).evict=X.at' x.core:=by
         unfold Cr.evict
         rw[hL]
         show(⟨[],(X.at' x.core).K⟩:Cr)=_
         rw[<-hL]
        rw[this]
        unfold Spc.at'
        rw[set_same hlt]
       ·rw[if_neg hL]at hc
        exact absurd rfl hc
theorem line_right {L:List Mp} (hg:Good L) {l:Ln} (hm:l.m ∈ L) {q:Int} (hq:l.m.has q=true) (k:Int) (u:Bool):Right L q k u (l.ans q k u).ev:=by
 obtain⟨h1,h2,h3⟩:=good_ans hg hm hq k u
 exact⟨h1.symm,h2.symm,h3.symm⟩
theorem hit_line {C:Cr} {q k:Int} {u:Bool} (h:C.hit q k u=true):kAt C.L q ∈ C.L/\(kAt C.L q).m.has q=true/\(kAt C.L q).wants k u=false:=by
 unfold Cr.hit at h
 simp only[Bool.and_eq_true,Option.isSome_iff_exists,Bool.not_eq_true']at h
 obtain⟨⟨j,hj⟩,hw⟩:=h
 obtain⟨k1,k2,_⟩:=kFnd_some hj
 refine⟨?_,?_,hw⟩
 ·unfold kAt
  rw[hj]
  exact ln_mem k1
 ·unfold kAt
  rw[hj]
  exact k2
theorem bgT_ended {C:Cr} {q k:Int} {u:Bool} (h:(C.bgT q k u).ended=true):zK q k=0/\C.K.on=false/\C.hit q k u=true/\C.bgT q k u=(kAt C.L q).ans q k u:=by
 unfold Cr.bgT at h ⊢
 split at h
 ·cases h
 ·rename_i h1
  split at h
  ·cases h
  ·rename_i h2
   split at h
   ·rename_i h3
    refine⟨by simpa using h1,by simpa using h2,h3,?_⟩
    rw[if_neg h1,if_neg h2,if_pos h3]
   ·cases h
theorem ended_right (h:Inv X L L0) (x:Sx) (he:(X.goE x).ended=true):(X.goE x).c=0/\(X.goE x).back=false/\0<=x.core/\x.core<X.C.length/\
 ((x.kind=4/\zK x.q x.k=0/\(X.at' x.core).K.on=false/\(Right L x.q x.k x.u (X.goE x)\/(X.busy=true/\Right L0 x.q x.k x.u (X.goE x))))\/
  (x.kind=5/\(X.at' x.core).K.on=true/\Right L (X.at' x.core).K.q (X.at' x.core).K.k (X.at' x.core).K.u (X.goE x))):=by
 unfold Spc.goE at he ⊢
 split at he
 ·exfalso
  unfold Spc.chE at he
  split at he
  ·cases he
  ·split at he
   ·cases he
   ·split at he<;>cases he
 ·rename_i hk
  split at he
  ·cases he
  ·rename_i hk2
   split at he
   ·cases he
   ·rename_i hc
    have hlt:=core_lt hc
    rw[if_neg hk,if_neg hk2,if_neg hc]
    split at he
    ·rename_i h4
     rw[if_pos h4]
     have he:((X.at' x.core).bgT x.q x.k x.u).ended=true:=he
     obtain⟨b1,b2,b3,b4⟩:=bgT_ended he
     obtain⟨l1,l2,l3⟩:=hit_line b3
     rw[b4]
     refine⟨rfl,rfl,by omega,by omega,.inl ⟨h4,b1,b2,?_⟩⟩
     rcases (h.cores _ hlt).lines _ l1 with hx|⟨hw,hx,_⟩
     ·exact .inl (line_right (rep_good h.bas.rep) (hx.mem h.bas.rep) l2 _ _)
     ·have hb:X.busy=true:=List.any_eq_true.2 ⟨true,by rw[<-hw];exact getD_mem (by rw[h.len];exact hlt) _,rfl⟩
      exact .inr ⟨hb,line_right (h.past hb) hx l2 _ _⟩
    ·rename_i h4
     rw[if_neg h4]
     split at he
     ·rename_i h5
      rw[if_pos h5]
      have he:((X.C.getD x.core.toNat Cr.new).stT X.S 0).ended=true:=he
      cases ho:(X.C.getD x.core.toNat Cr.new).K.on
      ·rw[(off_step (S:=X.S) ho).1]at he
       cases he
      ·have hs:=h.stT hlt ho
       exact⟨hs.code,rfl,by omega,by omega,.inr ⟨h5,ho,hs.ans he⟩⟩
     ·split at he
      ·unfold Spc.akE at he
       split at he
       ·cases he
       ·split at he<;>cases he
      ·split at he<;>cases he
end
end Pg
namespace Pg
section
variable {X X0:Spc} {L L0:List Mp}
theorem busy_iff (X:Spc):X.busy=true ↔ ∃j,j<X.W.length/\X.W.getD j false=true:=by
 unfold Spc.busy
 rw[List.any_eq_true]
 constructor
 ·rintro ⟨b,hb,hb2⟩
  obtain⟨j,hj,rfl⟩:=List.mem_iff_getElem.1 hb
  exact⟨j,hj,by simp[List.getD,hj];exact hb2⟩
 ·rintro ⟨j,hj,e⟩
  exact⟨true,by rw[<-e];exact getD_mem hj _,rfl⟩
end
end Pg
namespace Pg
structure Tms where
 L:List (List Mp)
 fl:Nat
def opL (L:List Mp) (x:Sx):List Mp:=if x.kind=1 then addL L x.m else if x.kind=2 then dropL L x.m.p else protL L x.m.p x.m.r
namespace Tms
end Tms
section
variable {X:Spc} {L L0:List Mp} {T:Tms}
theorem go_busy (h:Inv X L L0) (x:Sx):
 ((2<=x.kind/\x.kind<=3/\(X.goE x).c=0)/\X.busy=false/\(X.goN x).busy=true/\(X.goE x).back=false)\/
 ((x.kind=1/\(X.goE x).c=0)/\X.busy=false/\(X.goN x).busy=false/\(X.goE x).back=true)\/
 (¬(1<=x.kind/\x.kind<=3/\(X.goE x).c=0)/\(((X.goE x).back=false/\(X.goN x).busy=X.busy)\/((X.goE x).back=true/\X.busy=true/\(X.goN x).busy=false/\(X.goE x).c=0))):=by
 by_cases hk:1<=x.kind/\x.kind<=3
 ·by_cases hc:(X.goE x).c=0
  ·have hg:X.goE x=X.chE x:=by unfold Spc.goE;rw[if_pos hk]
   have hN:X.goN x=X.chN x:=by unfold Spc.goN;rw[if_pos hk]
   rw[hg]at hc ⊢
   rw[hN]
   unfold Spc.chE at hc ⊢
   unfold Spc.chN
   by_cases hb:X.busy=true
   ·rw[if_pos hb]at hc
    cases hc
   ·rw[if_neg hb]at hc
    rw[if_neg hb,if_neg hb]
    have hb':X.busy=false:=by simpa using hb
    by_cases h1:x.kind=1
    ·rw[if_pos h1]at hc
     rw[if_pos h1,if_pos h1]
     have hc:insC X.S 0 x.m=0:=hc
     exact .inr (.inl ⟨⟨h1,hc⟩,hb',hb',by simp[hc]⟩)
    ·rw[if_neg h1]at hc
     rw[if_neg h1,if_neg h1]
     have hsome:1<=X.W.length:=by rw[h.len];exact h.some
     by_cases h2:x.kind=2
     ·rw[if_pos h2]at hc
      rw[if_pos h2,if_pos h2,if_pos (show tFC X.S 0 x.m.p=0 from hc)]
      exact .inl ⟨⟨by omega,hk.2,hc⟩,hb',any_map_true hsome,rfl⟩
     ·rw[if_neg h2]at hc
      rw[if_neg h2,if_neg h2,if_pos (show prC X.S 0 x.m.p x.m.r=0 from hc)]
      exact .inl ⟨⟨by omega,hk.2,hc⟩,hb',any_map_true hsome,rfl⟩
  ·obtain⟨e1,e2⟩:=code_same h x hc
   refine .inr (.inr ⟨fun e=>hc e.2.2,.inl ⟨by rw[e2];rfl,by rw[e1]⟩⟩)
 ·refine .inr (.inr ⟨fun e=>hk ⟨e.1,e.2.1⟩,?_⟩)
  unfold Spc.goE Spc.goN
  rw[if_neg hk,if_neg hk]
  by_cases hk2:x.kind<1\/7<x.kind
  ·rw[if_pos hk2,if_pos hk2]
   exact .inl ⟨rfl,rfl⟩
  ·rw[if_neg hk2,if_neg hk2]
   by_cases hr:x.core<0\/(X.C.length:Int)<=x.core
   ·rw[if_pos hr,if_pos hr]
    exact .inl ⟨rfl,rfl⟩
   ·rw[if_neg hr,if_neg hr]
    by_cases h4:x.kind=4
    ·rw[if_pos h4,if_pos h4]
     exact .inl ⟨rfl,rfl⟩
    ·rw[if_neg h4,if_neg h4]
     by_cases h5:x.kind=5
     ·rw[if_pos h5,if_pos h5]
      exact .inl ⟨rfl,rfl⟩
     ·rw[if_neg h5,if_neg h5]
      by_cases h6:x.kind=6
      ·rw[if_pos h6,if_pos h6]
       have hlt:=core_lt hr
       unfold Spc.akE Spc.akN
       by_cases hw:X.W.getD x.core.toNat false=false
       ·rw[if_pos hw,if_pos hw]
        exact .inl ⟨rfl,rfl⟩
       ·rw[if_neg hw,if_neg hw]
        have hw:X.W.getD x.core.toNat false=true:=by simpa using hw
        have hb:X.busy=true:=(busy_iff X).2 ⟨_,by rw[h.len];exact hlt,hw⟩
        by_cases ha:(X.W.set x.core.toNat false).any id=true
        ·rw[if_pos ha,if_pos ha]
         exact .inl ⟨rfl,ha.trans hb.symm⟩
        ·rw[if_neg ha,if_neg ha]
         have ha:(X.W.set x.core.toNat false).any id=false:=by simpa using ha
         exact .inr ⟨rfl,hb,ha,rfl⟩
      ·rw[if_neg h6,if_neg h6]
       split
       ·exact .inl ⟨rfl,rfl⟩
       ·exact .inl ⟨rfl,rfl⟩
end
end Pg
set_option maxRecDepth 100000
namespace Pg
def Spc.maps (X:Spc):List Mp:=if (thr X.S zW 3 0 0).2=0 then zM (thr X.S zW 3 0 0).1 else []
def Spc.tabs (X:Spc):List Int:=if (thr X.S zW 3 0 0).2=0 then 0::zU (thr X.S zW 3 0 0).1 else []
end Pg
end Go.Proofs.YtkhnelgommaioaaGreat
