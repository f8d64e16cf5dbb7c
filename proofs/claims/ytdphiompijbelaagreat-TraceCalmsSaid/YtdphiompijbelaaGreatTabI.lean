import Derived.Test.YtdphiompijbelaaGreatTabCp
import Derived.Deep.RegionWith
import Derived.Deep.DeepCutAuto
set_option linter.all false
set_option maxRecDepth 100000
open Go.RowKit.Below renaming heap_setCell->yF,heap_alloc->yD
open List renaming length_singleton->yC,length_append->yV,length_cons->yK,take_succ_cons->yM,drop_succ_cons->yX,any_eq_true->yE,length_nil->yH,length_set->yL,take_zero->yW,drop_zero->yy
open Go.Obj renaming cells->yI
open Nat renaming lt_of_lt_of_le->ud,le_trans->yP,le_refl->yS
open Int renaming toNat_natCast->ur,eq_ofNat_of_zero_le->yQ
open Go.Proofs.Tryz renaming prog->kh
open Go.Ending renaming returned->kp
open Go.RowKit renaming Hid->O
open Go.World renaming block_lt_of_cell?->U,cell?_of_block->ki,frozen?_of_block->ua,cell?_setCell_other->yN,ownsRow->yY,cell?_setCell_same->yT,frozen?_setCell->yO
open Go renaming cell_later->Z,World->uv,bodyPost_ret->uc,Calls->ue,cell_regrown->yB,heap_alloc_new->yR,Value->yU
open Bool renaming false->V,true->kO
open Go.Value renaming int->R,bool->E,pointer->A,slice->un,ownBlock->yJ,tuple->yZ,slice->yA,agg->yG,int->yz
open Go.IntKind renaming i64->J
open Option renaming none->I,some->Q
set_option maxHeartbeats 4000000
namespace Go.Proofs.YtdphiompijbelaaGreat
open Go.RowKit
section
namespace Pg
def Right (L:List Mp) (q k:Int) (u:Bool) (e:Ev):Prop:=e.a=ansE L q k u/\e.f=ansF L q k u/\e.r=ansR L q k u
theorem ylS (S:Fs):S.take.n=S.n:=by
 unfold Fs.take;split
 ·rfl
 ·split<;>rfl
theorem yle (p s:Int):∀(lv:Nat) (S:Fs) (t:Int),(insW p s lv S t).1.n=S.n
 | 0,_,_=>rfl
 | lv+1,S,t=>by
   rw[insW];split
   ·rfl
   ·rw[yle p s lv,(yix _ _ _ _).1,ylS]
theorem ins_n (S:Fs) (t:Int) (m:Mp):(insS S t m).n=S.n:=by
 unfold insS;split
 ·rw[(yix _ _ _ _).1,yle]
 ·rfl
theorem prs_n (S:Fs) (t p r:Int):(prS S t p r).n=S.n:=by
 unfold prS;split
 ·exact(yix _ _ _ _).1
 ·rfl
section
variable {X:Spc} {L L0:List Mp}
theorem Inv.stT (h:Inv X L L0) {k:Nat} (hk:k<X.C.length) (ho:(X.C.getD k Cr.new).K.on=kO):Stepped X.S X.G L L0 X.T (X.W.getD k V) (X.C.getD k Cr.new):=bas_walk h.bas (h.cores k hk) ho
theorem yiz (h:Inv X L L0) (x:Sx):(X.goN x).S.n=X.S.n/\(X.goN x).C.length=X.C.length:=by
 unfold Spc.goN;split
 ·unfold Spc.chN
  split
  ·exact⟨rfl,rfl⟩
  ·rename_i hb
   have hb:X.busy=V:=by simpa using hb
   split
   ·exact⟨ins_n _ _ _,rfl⟩
   ·split
    ·split
     ·exact⟨(yki (h.rep hb) _).2.1,rfl⟩
     ·exact⟨rfl,rfl⟩
    ·split
     ·exact⟨prs_n _ _ _ _,rfl⟩
     ·exact⟨rfl,rfl⟩
 ·split
  ·exact⟨rfl,rfl⟩
  ·split
   ·exact⟨rfl,rfl⟩
   ·rename_i _ hc
    have Hf:=yjh hc;split
    ·exact⟨rfl,by simp⟩
    ·split
     ·refine⟨?_,by simp⟩
      show((X.C.getD x.core.toNat Cr.new).stS X.S 0).n=X.S.n
      cases ho:(X.C.getD x.core.toNat Cr.new).K.on
      ·rw[(yjJ (S:=X.S) ho).2.2]
      ·exact(h.stT Hf ho).n
     ·split
      ·unfold Spc.akN
       split
       ·exact⟨rfl,rfl⟩
       ·split
        ·exact⟨rfl,by simp⟩
        ·exact⟨(yiC X.G X.S h.bas.ok h.bas.nd h.bas.hs).2.2.1,by simp⟩
      ·exact⟨rfl,by simp⟩
theorem yjb (h:Inv X L L0):(thr X.S zW 3 0 0).2=0/\zM (thr X.S zW 3 0 0).1=L/\((0:Int)::zU (thr X.S zW 3 0 0).1).Nodup/\(((0:Int)::zU (thr X.S zW 3 0 0).1).length:Int)+X.G.length+X.S.free=X.S.n/\needed L=(((0:Int)::zU (thr X.S zW 3 0 0).1).length:Int):=by
 rw[h.bas.thr];have g:=yiC X.G X.S h.bas.ok h.bas.nd h.bas.hs;have hf:=rep_free h.bas.rep;have hn:=rep_needed h.bas.rep;rw[g.2.2.2.2,g.2.2.1]at hf;refine⟨h.bas.rep.code,h.bas.rep.maps,h.bas.rep.nodup,?_,?_⟩
 ·rw[yK]
  omega
 ·rw[hn,yK]
  omega
theorem yk4 (C:Cr) (q k:Int) (u:Bool):(C.bgT q k u).c=if zK q k≠0 then zK q k else if C.K.on=kO then 8 else 0:=by
 unfold Cr.bgT;split
 ·rfl
 ·split
  ·rfl
  ·split
   ·rfl
   ·rfl
theorem ykA (h:Inv X L L0) (x:Sx) (hc:(X.goE x).c≠0):X.goN x=X/\X.goE x= .code (X.goE x).c:=by
 unfold Spc.goE at hc ⊢;unfold Spc.goN
 by_cases hk:1<=x.kind/\x.kind<=3
 ·rw[iP hk]at hc
  rw[iP hk,iP hk];unfold Spc.chE at hc ⊢;unfold Spc.chN
  by_cases hb:X.busy=kO
  ·rw[iP hb,iP hb]
   exact⟨rfl,rfl⟩
  ·rw[iN hb]at hc
   rw[iN hb,iN hb]
   by_cases h1:x.kind=1
   ·rw[iP h1]at hc
    rw[iP h1,iP h1];have hc:insC X.S 0 x.m≠0:=hc
    have:insS X.S 0 x.m=X.S:=by rw[insS,iN hc]
    rw[this];refine⟨rfl,?_⟩;simp[Ev.code,hc]
   ·rw[iN h1]at hc
    rw[iN h1,iN h1]
    by_cases h2:x.kind=2
    ·rw[iP h2]at hc
     rw[iP h2,iP h2,iN (show ¬tFC X.S 0 x.m.p=0 from hc)];exact⟨rfl,rfl⟩
    ·rw[iN h2]at hc
     rw[iN h2,iN h2,iN (show ¬prC X.S 0 x.m.p x.m.r=0 from hc)];exact⟨rfl,rfl⟩
 ·rw[iN hk]at hc
  rw[iN hk,iN hk]
  by_cases tK:x.kind<1\/7<x.kind
  ·rw[iP tK,iP tK]
   exact⟨rfl,rfl⟩
  ·rw[iN tK]at hc
   rw[iN tK,iN tK]
   by_cases hr:x.core<0\/(X.C.length:Int)<=x.core
   ·rw[iP hr,iP hr]
    exact⟨rfl,rfl⟩
   ·rw[iN hr]at hc
    rw[iN hr,iN hr];have Hf:=yjh hr
    by_cases h4:x.kind=4
    ·rw[iP h4]at hc
     rw[iP h4,iP h4];have hc:((X.at' x.core).bgT x.q x.k x.u).c≠0:=hc;rw[yk4]at hc
     have e1:(X.at' x.core).bgN 0 x.q x.k x.u=X.at' x.core:=by
      unfold Cr.bgN;rw[iN];rintro ⟨a1,a2,_⟩;rw[a1,a2]at hc;exact hc rfl
     have e2:(X.at' x.core).bgT x.q x.k x.u= .code ((X.at' x.core).bgT x.q x.k x.u).c:=by
      unfold Cr.bgT;split
      ·rfl
      ·rename_i b1
       split
       ·rfl
       ·rename_i b2
        rw[iN b1,iN b2]at hc;exact absurd rfl hc
     rw[e1];refine⟨?_,?_⟩
     ·unfold Spc.at'
      rw[yjv Hf]
     ·rw[e2]
      rfl
    ·rw[iN h4]at hc
     rw[iN h4,iN h4]
     by_cases h5:x.kind=5
     ·rw[iP h5]at hc
      rw[iP h5,iP h5];have hc:((X.C.getD x.core.toNat Cr.new).stT X.S 0).c≠0:=hc;cases ho:(X.C.getD x.core.toNat Cr.new).K.on
      ·obtain⟨o1,o2,o3⟩:=yjJ (S:=X.S) ho
       unfold Spc.at';rw[o1,o2,o3,yjv Hf];exact⟨rfl,rfl⟩
      ·exact absurd (h.stT Hf ho).code hc
     ·rw[iN h5]at hc
      rw[iN h5,iN h5]
      by_cases h6:x.kind=6
      ·rw[iP h6]at hc
       rw[iP h6,iP h6];unfold Spc.akE at hc ⊢;unfold Spc.akN
       by_cases hw:X.W.getD x.core.toNat V=V
       ·rw[iP hw,iP hw]
        exact⟨rfl,rfl⟩
       ·rw[iN hw]at hc
        exfalso
        split at hc
        ·exact hc rfl
        ·exact hc rfl
      ·rw[iN h6]at hc
       rw[iN h6,iN h6]
       by_cases hL:(X.at' x.core).L=[]
       ·rw[iP hL]
        refine⟨?_,rfl⟩
        have:(X.at' x.core).yiy=X.at' x.core:=by
         unfold Cr.yiy;rw[hL]
         show(⟨[],(X.at' x.core).K⟩:Cr)=_
         rw[<-hL]
        rw[this];unfold Spc.at';rw[yjv Hf]
       ·rw[iN hL]at hc
        exact absurd rfl hc
theorem ykc {L:List Mp} (hg:Good L) {l:Ln} (hm:l.m ∈ L) {q:Int} (hq:l.m.has q=kO) (k:Int) (u:Bool):Right L q k u (l.ans q k u).ev:=by
 obtain⟨h1,h2,h3⟩:=good_ans hg hm hq k u;exact⟨h1.symm,h2.symm,h3.symm⟩
theorem hit_line {C:Cr} {q k:Int} {u:Bool} (h:C.hit q k u=kO):kAt C.L q ∈ C.L/\(kAt C.L q).m.has q=kO/\(kAt C.L q).wants k u=V:=by
 unfold Cr.hit at h;simp only[Bool.and_eq_true,Option.isSome_iff_exists,Bool.not_eq_true']at h;obtain⟨⟨j,hj⟩,hw⟩:=h;obtain⟨k1,k2,_⟩:=yjq hj;refine⟨?_,?_,hw⟩
 ·unfold kAt
  rw[hj];exact yl8 k1
 ·unfold kAt
  rw[hj];exact k2
theorem bgT_ended {C:Cr} {q k:Int} {u:Bool} (h:(C.bgT q k u).ended=kO):zK q k=0/\C.K.on=V/\C.hit q k u=kO/\C.bgT q k u=(kAt C.L q).ans q k u:=by
 unfold Cr.bgT at h ⊢;split at h
 ·cases h
 ·rename_i h1
  split at h
  ·cases h
  ·rename_i h2
   split at h
   ·rename_i h3
    refine⟨by simpa using h1,by simpa using h2,h3,?_⟩;rw[iN h1,iN h2,iP h3]
   ·cases h
theorem yh9 (h:Inv X L L0) (x:Sx) (he:(X.goE x).ended=kO):(X.goE x).c=0/\(X.goE x).back=V/\0<=x.core/\x.core<X.C.length/\
 ((x.kind=4/\zK x.q x.k=0/\(X.at' x.core).K.on=V/\(Right L x.q x.k x.u (X.goE x)\/(X.busy=kO/\Right L0 x.q x.k x.u (X.goE x))))\/
  (x.kind=5/\(X.at' x.core).K.on=kO/\Right L (X.at' x.core).K.q (X.at' x.core).K.k (X.at' x.core).K.u (X.goE x))):=by
 unfold Spc.goE at he ⊢;split at he
 ·exfalso
  unfold Spc.chE at he;split at he
  ·cases he
  ·split at he
   ·cases he
   ·split at he<;>cases he
 ·rename_i hk
  split at he
  ·cases he
  ·rename_i tK
   split at he
   ·cases he
   ·rename_i hc
    have Hf:=yjh hc;rw[iN hk,iN tK,iN hc];split at he
    ·rename_i h4
     rw[iP h4];have he:((X.at' x.core).bgT x.q x.k x.u).ended=kO:=he;obtain⟨b1,b2,b3,b4⟩:=bgT_ended he;obtain⟨l1,l2,l3⟩:=hit_line b3;rw[b4];refine⟨rfl,rfl,by omega,by omega,.inl ⟨h4,b1,b2,?_⟩⟩;rcases (h.cores _ Hf).lines _ l1 with hx|⟨hw,hx,_⟩
     ·exact .inl (ykc (yil h.bas.rep) (hx.mem h.bas.rep) l2 _ _)
     ·have hb:X.busy=kO:=yE.2 ⟨kO,by rw[<-hw];exact yja (by rw[h.len];exact Hf) _,rfl⟩
      exact .inr ⟨hb,ykc (h.past hb) hx l2 _ _⟩
    ·rename_i h4
     rw[iN h4];split at he
     ·rename_i h5
      rw[iP h5];have he:((X.C.getD x.core.toNat Cr.new).stT X.S 0).ended=kO:=he;cases ho:(X.C.getD x.core.toNat Cr.new).K.on
      ·rw[(yjJ (S:=X.S) ho).1]at he
       cases he
      ·have hs:=h.stT Hf ho
       exact⟨hs.code,rfl,by omega,by omega,.inr ⟨h5,ho,hs.ans he⟩⟩
     ·split at he
      ·unfold Spc.akE at he
       split at he
       ·cases he
       ·split at he<;>cases he
      ·split at he<;>cases he
end
end Pg
namespace Pg
def rk (S:Fs) (K:Wk):Nat:=if K.x=0 then K.lv+2 else if K.word S=K.x then 1 else 6
theorem ymb (S:Fs) (K:Wk):1<=rk S K:=by
 unfold rk;split
 ·omega
 ·split<;>omega
theorem rk_step {S:Fs} {root:Int} {K K':Wk} (h:kOut S root K= .go K'):rk S K'<rk S K:=by
 unfold kOut at h;split at h
 ·cases h
 ·rename_i ho
  have ho:K.on=kO:=by simpa using ho
  split at h
  ·cases h
  ·split at h
   ·rename_i hx
    split at h
    ·cases h
    ·rename_i hw
     cases h
     have e1:(K.again root).x=0/\(K.again root).lv=3:=by
      unfold Wk.again;rw[iP ho];exact⟨rfl,rfl⟩
     unfold rk;rw[iP e1.1,e1.2,iN hx,iN hw];omega
   ·rename_i hx
    have hx:K.x=0:=by simpa using hx
    split at h
    ·cases h
    ·split at h
     ·cases h
     ·rename_i ht
      have ht:(En.of (K.word S) K.lv).t=kO:=by simpa using ht
      split at h
      ·rename_i hl
       cases h
       have rQ:K.lv≠0:=by
        intro e;rw[e]at hl ht
        have:(En.of (K.word S) ((0:Nat):Int)).on=kO:=by simp only[En.on,hl,ht];rfl
        simp[En.on,En.of,xL,yir]at this
       unfold rk;rw[iP (show({K with t:=(En.of (K.word S) K.lv).f,lv:=K.lv-1}:Wk).x=0 from hx),iP hx]
       show K.lv-1+2<K.lv+2
       omega
      ·split at h
       ·cases h
       ·split at h
        ·cases h
         have hw:K.word S≠0:=by
          intro e;rw[e]at ht;simp[En.of,yhZ]at ht
         unfold rk;rw[iN (show ¬({K with x:=K.word S}:Wk).x=0 from hw),iP (show({K with x:=K.word S}:Wk).word S=({K with x:=K.word S}:Wk).x from rfl),iP hx];omega
        ·cases h
theorem rk_le {S:Fs} {K:Wk} (h:K.Ok):rk S K<=6:=by
 have:=h.lv;unfold rk;split
 ·omega
 ·split<;>omega
def Sx.acc (c:Nat) (m:Mp) (q k:Int) (u:Bool):Sx:=⟨4,c,m,q,k,u⟩
def Sx.wlk (c:Nat):Sx:=⟨5,c,.zz,0,0,V⟩
def Sx.ack (c:Nat):Sx:=⟨6,c,.zz,0,0,V⟩
section
variable {X X0:Spc} {L L0:List Mp}
theorem go_acc (X:Spc) {c:Nat} (hc:c<X.C.length) (m:Mp) (q k:Int) (u:Bool):X.goE (.acc c m q k u)=((X.C.getD c Cr.new).bgT q k u).ev/\X.goN (.acc c m q k u)={X with C:=X.C.set c ((X.C.getD c Cr.new).bgN 0 q k u)}:=by
 unfold Spc.goE Spc.goN Sx.acc;simp only;rw[iN (by omega),iN (by omega),iN (by omega),iP trivial,iN (by omega),iN (by omega),iN (by omega),iP trivial];exact⟨rfl,rfl⟩
theorem yl5 (X:Spc) {c:Nat} (hc:c<X.C.length):X.goE (.wlk c)=((X.C.getD c Cr.new).stT X.S 0).ev/\X.goN (.wlk c)={X with S:=(X.C.getD c Cr.new).stS X.S 0,C:=X.C.set c ((X.C.getD c Cr.new).stN X.S 0)}:=by
 unfold Spc.goE Spc.goN Sx.wlk;simp only;rw[iN (by omega),iN (by omega),iN (by omega),iN (by omega),iP trivial,iN (by omega),iN (by omega),iN (by omega),iN (by omega),iP trivial];exact⟨rfl,rfl⟩
theorem go_ack (X:Spc) {c:Nat} (hc:c<X.C.length):X.goE (.ack c)=X.akE c/\X.goN (.ack c)=X.akN c:=by
 unfold Spc.goE Spc.goN Sx.ack;simp only;rw[iN (by omega),iN (by omega),iN (by omega),iN (by omega),iN (by omega),iP trivial,iN (by omega),iN (by omega),iN (by omega),iN (by omega),iN (by omega),iP trivial];exact⟨rfl,rfl⟩
theorem ylW (h:Inv X L L0) (hb:X.busy=V) {c:Nat} (hc:c<X.C.length) (ho:(X.C.getD c Cr.new).K.on=kO):
 ((X.C.getD c Cr.new).stT X.S 0= .code 0/\(X.C.getD c Cr.new).stS X.S 0=X.S/\((X.C.getD c Cr.new).stN X.S 0).K.on=kO/\((X.C.getD c Cr.new).stN X.S 0).K.q=(X.C.getD c Cr.new).K.q/\((X.C.getD c Cr.new).stN X.S 0).K.k=(X.C.getD c Cr.new).K.k/\((X.C.getD c Cr.new).stN X.S 0).K.u=(X.C.getD c Cr.new).K.u/\rk X.S ((X.C.getD c Cr.new).stN X.S 0).K<rk X.S (X.C.getD c Cr.new).K)\/
 ((X.C.getD c Cr.new).stT X.S 0).ended=kO/\((X.C.getD c Cr.new).stN X.S 0).K.on=V:=by
 have hG:=h.calm hb;have hK:=h.cores c hc;rw[h.still hb,hG]at hK;rcases hK.walk ho with Hu|hx
 ·have hs:=ylM (h.rep hb) hK.ok.walk ho Hu
  unfold Cr.stT Cr.stS Cr.stN;rcases rA:kOut X.S 0 (X.C.getD c Cr.new).K with c|K'|r|⟨e,m⟩
  ·rw[rA]at hs
   exact hs.elim
  ·rw[rA]at hs
   exact .inl ⟨rfl,rfl,hs.1,hs.2.2.1,hs.2.2.2.1,hs.2.2.2.2,rk_step rA⟩
  ·exact .inr ⟨rfl,rfl⟩
  ·exact .inr ⟨rfl,rfl⟩
 ·simp at hx
structure Cst (X0:Spc) (L L0:List Mp) (c:Nat) (q k:Int) (u:Bool) (i:Nat) (e:Ev) (X:Spc):Prop where
 inv:Inv X L L0
 calm:X.busy=V
 n:X.S.n=X0.S.n
 len:X.C.length=X0.C.length
 oth:∀j,j≠c->X.C.getD j Cr.new=X0.C.getD j Cr.new
 at':(e= .code 0/\zK q k=0/\(X.C.getD c Cr.new).K.on=kO/\(X.C.getD c Cr.new).K.q=q/\(X.C.getD c Cr.new).K.k=k/\(X.C.getD c Cr.new).K.u=u/\rk X.S (X.C.getD c Cr.new).K+i<=5)\/
  (e.c=0/\e.ended=kO/\e.back=V/\zK q k=0/\Right L q k u e/\(X.C.getD c Cr.new).K.on=V)\/
  (e= .code (zK q k)/\zK q k≠0/\(X.C.getD c Cr.new).K.on=V)
theorem cst_begin (h:Inv X L L0) (hb:X.busy=V) {c:Nat} (hc:c<X.C.length) (fE:(X.C.getD c Cr.new).K.on=V) (m:Mp) (q k:Int) (u:Bool):Cst X L L0 c q k u 0 (X.goE (.acc c m q k u)) (X.goN (.acc c m q k u)):=by
 have fA:Inv (X.goN (.acc c m q k u)) L L0:=yiT h (.acc c m q k u);obtain⟨g1,g2⟩:=go_acc X hc m q k u;have hr:=yh9 h (.acc c m q k u);rw[g2]at fA ⊢;refine⟨fA,hb,rfl,by simp,fun j hj=> ?_,?_⟩
 ·show(X.C.set c _).getD j Cr.new=_
  rw[yic hc,iN hj]
 ·have e0:(X.C.set c ((X.C.getD c Cr.new).bgN 0 q k u)).getD c Cr.new=(X.C.getD c Cr.new).bgN 0 q k u:=by rw[yic hc,iP rfl]
  simp only;rw[e0,g1];rw[g1]at hr
  by_cases ha:zK q k=0
  ·by_cases hh:(X.C.getD c Cr.new).hit q k u=kO
   ·have e1:(X.C.getD c Cr.new).bgT q k u=(kAt (X.C.getD c Cr.new).L q).ans q k u:=by
     unfold Cr.bgT;rw[iN (by simp[ha]),iN (by rw[fE];simp),iP hh]
    have e2:(X.C.getD c Cr.new).bgN 0 q k u=X.C.getD c Cr.new:=by
     unfold Cr.bgN;rw[iN];rintro ⟨_,_,e⟩;rw[hh]at e;cases e
    obtain⟨r1,r2,_,_,r5⟩:=hr (by rw[e1];rfl);rw[e2];refine .inr (.inl ⟨r1,by rw[e1];rfl,r2,ha,?_,fE⟩);rcases r5 with ⟨_,_,_,r5|⟨r5,_⟩⟩|⟨r5,_⟩
    ·exact r5
    ·rw[hb]at r5
     cases r5
    ·cases r5
   ·have hh:(X.C.getD c Cr.new).hit q k u=V:=by simpa using hh
    have e1:(X.C.getD c Cr.new).bgT q k u= .code 0:=by
     unfold Cr.bgT;rw[iN (by simp[ha]),iN (by rw[fE];simp),iN (by rw[hh];simp)]
    have e2:(X.C.getD c Cr.new).bgN 0 q k u=⟨(X.C.getD c Cr.new).L,Wk.start 0 q k u⟩:=by
     unfold Cr.bgN;rw[iP ⟨ha,fE,hh⟩]
    rw[e1,e2];exact .inl ⟨rfl,ha,rfl,rfl,rfl,rfl,by show rk X.S (Wk.start 0 q k u)+0<=5;simp[rk,Wk.start]⟩
  ·have e1:(X.C.getD c Cr.new).bgT q k u= .code (zK q k):=by
    unfold Cr.bgT;rw[iP ha]
   have e2:(X.C.getD c Cr.new).bgN 0 q k u=X.C.getD c Cr.new:=by
    unfold Cr.bgN;rw[iN];rintro ⟨e,_⟩;exact ha e
   rw[e1,e2];exact .inr (.inr ⟨rfl,ha,fE⟩)
theorem cst_step {c:Nat} {q k:Int} {u:Bool} {i:Nat} {e:Ev} (h:Cst X0 L L0 c q k u i e X) (hc:c<X.C.length) (h1:e.c=0) (h2:e.ended=V):i<=4/\Cst X0 L L0 c q k u (i+1) (X.goE (.wlk c)) (X.goN (.wlk c)):=by
 rcases h.at' with ⟨_,ha,ho,a1,a2,a3,a4⟩|⟨_,e2,_⟩|⟨e1,e2,_⟩
 ·have hp:=ymb X.S (X.C.getD c Cr.new).K
  refine⟨by omega,?_⟩;have fA:Inv (X.goN (.wlk c)) L L0:=yiT h.inv (.wlk c);obtain⟨s1,s2⟩:=yiz h.inv (.wlk c);obtain⟨g1,g2⟩:=yl5 X hc;have hr:=yh9 h.inv (.wlk c);have hw:=ylW h.inv h.calm hc ho;rw[g1]at hr ⊢;rw[g2]at fA s1 s2 ⊢;refine⟨fA,h.calm,s1.trans h.n,s2.trans h.len,fun j hj=> ?_,?_⟩
  ·show(X.C.set c _).getD j Cr.new=_
   rw[yic hc,iN hj];exact h.oth j hj
  ·have e0:(X.C.set c ((X.C.getD c Cr.new).stN X.S 0)).getD c Cr.new=(X.C.getD c Cr.new).stN X.S 0:=by rw[yic hc,iP rfl]
   simp only;rw[e0];rcases hw with ⟨w1,w2,w3,w4,w5,w6,w7⟩|⟨w1,w2⟩
   ·rw[w1,w2]
    exact .inl ⟨rfl,ha,w3,w4.trans a1,w5.trans a2,w6.trans a3,by omega⟩
   ·obtain⟨r1,r2,_,_,r5⟩:=hr w1
    refine .inr (.inl ⟨r1,w1,r2,ha,?_,w2⟩);rcases r5 with ⟨r5,_⟩|⟨_,_,r5⟩
    ·cases r5
    ·have e3:X.at' (Sx.wlk c).core=X.C.getD c Cr.new:=rfl
     rw[e3,a1,a2,a3]at r5;exact r5
 ·rw[h2]at e2
  cases e2
 ·rw[e1]at h1
  exact absurd h1 e2
theorem cst_end {c:Nat} {q k:Int} {u:Bool} {i:Nat} {e:Ev} (h:Cst X0 L L0 c q k u i e X) (hd:i=6\/e.c≠0\/e.ended=kO):(X.C.getD c Cr.new).K.on=V/\((zK q k=0/\e.c=0/\e.ended=kO/\e.back=V/\Right L q k u e)\/(zK q k≠0/\e= .code (zK q k))):=by
 rcases h.at' with ⟨e1,ha,ho,a1,a2,a3,a4⟩|⟨e1,e2,e3,e4,e5,e6⟩|⟨e1,e2,e3⟩
 ·exfalso
  rcases hd with hd|hd|hd
  ·omega
  ·rw[e1]at hd
   exact hd rfl
  ·rw[e1]at hd
   cases hd
 ·exact⟨e6,.inl ⟨e4,e1,e2,e3,e5⟩⟩
 ·exact⟨e3,.inr ⟨e2,e1⟩⟩
theorem ack_W (h:Inv X L L0) {k:Nat} (hk:k<X.C.length) (j:Nat):(X.akN k).W.getD j V=if j=k then V else X.W.getD j V:=by
 have Dm:k<X.W.length:=by rw[h.len];exact hk
 unfold Spc.akN;simp only[ur];split
 ·rename_i hw
  split
  ·rename_i e
   rw[e];exact hw
  ·rfl
 ·split<;>exact yic Dm V V j
theorem yk5 (X:Spc):X.busy=kO ↔ ∃j,j<X.W.length/\X.W.getD j V=kO:=by
 unfold Spc.busy;rw[yE];constructor
 ·rintro ⟨b,hb,Hd⟩
  obtain⟨j,hj,rfl⟩:=List.mem_iff_getElem.1 hb;exact⟨j,hj,by simp[List.getD,hj];exact Hd⟩
 ·rintro ⟨j,hj,e⟩
  exact⟨kO,by rw[<-e];exact yja hj _,rfl⟩
theorem busy_no {X:Spc} (h:∀j,j<X.W.length->X.W.getD j V=V):X.busy=V:=by
 cases hb:X.busy
 ·rfl
 ·obtain⟨j,h1,h2⟩:=(yk5 X).1 hb
  rw[h j h1]at h2;cases h2
end
end Pg
namespace Pg
structure Tms where
 L:List (List Mp)
 fl:Nat
def opL (L:List Mp) (x:Sx):List Mp:=if x.kind=1 then addL L x.m else if x.kind=2 then yiL L x.m.p else yjm L x.m.p x.m.r
namespace Tms
end Tms
section
variable {X:Spc} {L L0:List Mp} {T:Tms}
theorem ykm (h:Inv X L L0) (x:Sx):
 ((2<=x.kind/\x.kind<=3/\(X.goE x).c=0)/\X.busy=V/\(X.goN x).busy=kO/\(X.goE x).back=V)\/
 ((x.kind=1/\(X.goE x).c=0)/\X.busy=V/\(X.goN x).busy=V/\(X.goE x).back=kO)\/
 (¬(1<=x.kind/\x.kind<=3/\(X.goE x).c=0)/\(((X.goE x).back=V/\(X.goN x).busy=X.busy)\/((X.goE x).back=kO/\X.busy=kO/\(X.goN x).busy=V/\(X.goE x).c=0))):=by
 by_cases hk:1<=x.kind/\x.kind<=3
 ·by_cases hc:(X.goE x).c=0
  ·have hg:X.goE x=X.chE x:=by unfold Spc.goE;rw[iP hk]
   have hN:X.goN x=X.chN x:=by unfold Spc.goN;rw[iP hk]
   rw[hg]at hc ⊢;rw[hN];unfold Spc.chE at hc ⊢;unfold Spc.chN
   by_cases hb:X.busy=kO
   ·rw[iP hb]at hc
    cases hc
   ·rw[iN hb]at hc
    rw[iN hb,iN hb]
    have hb':X.busy=V:=by simpa using hb
    by_cases h1:x.kind=1
    ·rw[iP h1]at hc
     rw[iP h1,iP h1];have hc:insC X.S 0 x.m=0:=hc;exact .inr (.inl ⟨⟨h1,hc⟩,hb',hb',by simp[hc]⟩)
    ·rw[iN h1]at hc
     rw[iN h1,iN h1]
     have mQ:1<=X.W.length:=by rw[h.len];exact h.some
     by_cases h2:x.kind=2
     ·rw[iP h2]at hc
      rw[iP h2,iP h2,iP (show tFC X.S 0 x.m.p=0 from hc)];exact .inl ⟨⟨by omega,hk.2,hc⟩,hb',yii mQ,rfl⟩
     ·rw[iN h2]at hc
      rw[iN h2,iN h2,iP (show prC X.S 0 x.m.p x.m.r=0 from hc)];exact .inl ⟨⟨by omega,hk.2,hc⟩,hb',yii mQ,rfl⟩
  ·obtain⟨e1,e2⟩:=ykA h x hc
   refine .inr (.inr ⟨fun e=>hc e.2.2,.inl ⟨by rw[e2];rfl,by rw[e1]⟩⟩)
 ·refine .inr (.inr ⟨fun e=>hk ⟨e.1,e.2.1⟩,?_⟩)
  unfold Spc.goE Spc.goN;rw[iN hk,iN hk]
  by_cases tK:x.kind<1\/7<x.kind
  ·rw[iP tK,iP tK]
   exact .inl ⟨rfl,rfl⟩
  ·rw[iN tK,iN tK]
   by_cases hr:x.core<0\/(X.C.length:Int)<=x.core
   ·rw[iP hr,iP hr]
    exact .inl ⟨rfl,rfl⟩
   ·rw[iN hr,iN hr]
    by_cases h4:x.kind=4
    ·rw[iP h4,iP h4]
     exact .inl ⟨rfl,rfl⟩
    ·rw[iN h4,iN h4]
     by_cases h5:x.kind=5
     ·rw[iP h5,iP h5]
      exact .inl ⟨rfl,rfl⟩
     ·rw[iN h5,iN h5]
      by_cases h6:x.kind=6
      ·rw[iP h6,iP h6]
       have Hf:=yjh hr;unfold Spc.akE Spc.akN
       by_cases hw:X.W.getD x.core.toNat V=V
       ·rw[iP hw,iP hw]
        exact .inl ⟨rfl,rfl⟩
       ·rw[iN hw,iN hw]
        have hw:X.W.getD x.core.toNat V=kO:=by simpa using hw
        have hb:X.busy=kO:=(yk5 X).2 ⟨_,by rw[h.len];exact Hf,hw⟩
        by_cases ha:(X.W.set x.core.toNat V).any id=kO
        ·rw[iP ha,iP ha]
         exact .inl ⟨rfl,ha.trans hb.symm⟩
        ·rw[iN ha,iN ha]
         have ha:(X.W.set x.core.toNat V).any id=V:=by simpa using ha
         exact .inr ⟨rfl,hb,ha,rfl⟩
      ·rw[iN h6,iN h6]
       split
       ·exact .inl ⟨rfl,rfl⟩
       ·exact .inl ⟨rfl,rfl⟩
end
end Pg
set_option maxRecDepth 100000
namespace Pg
def Spc.maps (X:Spc):List Mp:=if (thr X.S zW 3 0 0).2=0 then zM (thr X.S zW 3 0 0).1 else []
def Spc.tabs (X:Spc):List Int:=if (thr X.S zW 3 0 0).2=0 then 0::zU (thr X.S zW 3 0 0).1 else []
theorem Inv.maps {X:Spc} {L L0:List Mp} (h:Inv X L L0):X.maps=L:=by
 obtain⟨h1,h2,_⟩:=yjb h;unfold Spc.maps;rw[iP h1,h2]
theorem Inv.tabs {X:Spc} {L L0:List Mp} (h:Inv X L L0):X.tabs=0::zU (thr X.S zW 3 0 0).1:=by
 unfold Spc.tabs;rw[iP (yjb h).1]
end Pg
end
section
open Go.Sort
structure Mk (w:uv) (B k b:Nat) (lv:Int) (e:Pg.En) (v1 v2:yU) (ts ps:List Int) (p:Int):Prop where
 c0:w.cell? ⟨k,0,I⟩=Q (A (Q ⟨b,0,I⟩))
 c1:w.cell? ⟨k,1,I⟩=Q (R J lv)
 c2:w.cell? ⟨k,2,I⟩=Q (E e.t)
 c3:w.cell? ⟨k,3,I⟩=Q (E e.l)
 c4:w.cell? ⟨k,4,I⟩=Q (R J e.r)
 c5:w.cell? ⟨k,5,I⟩=Q (E e.u)
 c6:w.cell? ⟨k,6,I⟩=Q (E e.d)
 c7:w.cell? ⟨k,7,I⟩=Q (R J e.f)
 c8:w.cell? ⟨k,8,I⟩=Q v1
 c9:w.cell? ⟨k,9,I⟩=Q v2
 c10:w.cell? ⟨k,10,I⟩=Q (R J p)
 fz:∀o,w.frozen? ⟨k,o,I⟩=V
 o1:w.ownsRow B 3 1 v1 ts.length (xn ts)
 o2:w.ownsRow B 3 1 v2 ps.length (xn ps)
 ne:∀j,v1.ownBlock=Q j->v2.ownBlock≠Q j
 n1:v1.ownBlock≠Q k
 n2:v2.ownBlock≠Q k
 hi:B<=k
def mkF (k:Nat) (v1 v2:yU):Nat->Prop:=fun j=>j=k\/v1.ownBlock=Q j\/v2.ownBlock=Q j
namespace Mk
variable {w w':uv} {B k b:Nat} {lv:Int} {e:Pg.En} {v1 v2:yU} {ts ps:List Int} {p:Int}
theorem lb (h:Mk w B k b lv e v1 v2 ts ps p):k<w.heap.size:=U _ _ h.c0
theorem lt (h:Mk w B k b lv e v1 v2 ts ps p) {j:Nat} (hj:mkF k v1 v2 j):B<=j/\j<w.heap.size:=by
 rcases hj with rfl|hj|hj
 ·exact⟨h.hi,h.lb⟩
 ·exact h.o1.lt j hj
 ·exact h.o2.lt j hj
theorem keep (h:Mk w B k b lv e v1 v2 ts ps p) {G:Nat->Prop} (hb:But G w w') (hG:∀j,mkF k v1 v2 j->¬G j):Mk w' B k b lv e v1 v2 ts ps p:=by
 have hk:w'.heap[k]?=w.heap[k]?:=hb.block k h.lb (hG k (.inl rfl));have c:∀{o:Nat} {v:yU},w.cell? ⟨k,o,I⟩=Q v->w'.cell? ⟨k,o,I⟩=Q v:=fun e=>(ki hk).trans e
 exact⟨c h.c0,c h.c1,c h.c2,c h.c3,c h.c4,c h.c5,c h.c6,c h.c7,c h.c8,c h.c9,c h.c10,fun o=>(ua hk).trans (h.fz o),
  zc h.o1 hb fun j hj=>hG j (.inr (.inl hj)),zc h.o2 hb fun j hj=>hG j (.inr (.inr hj)),h.ne,h.n1,h.n2,h.hi⟩
theorem grow (h:Mk w B k b lv e v1 v2 ts ps p) (hb:Lw w w'):Mk w' B k b lv e v1 v2 ts ps p:=h.keep (G:=fun _=>False) (But.yhJ hb) fun _ _=>id
theorem setCell (h:Mk w B k b lv e v1 v2 ts ps p) (o:Nat) (v:yU):
 (∀o',o'≠o->(w.setCell ⟨k,o,I⟩ v).cell? ⟨k,o',I⟩=w.cell? ⟨k,o',I⟩)/\(w.setCell ⟨k,o,I⟩ v).ownsRow B 3 1 v1 ts.length (xn ts)/\(w.setCell ⟨k,o,I⟩ v).ownsRow B 3 1 v2 ps.length (xn ps):=by
 refine⟨fun o' ho=>yN _ _ _ _ (fun e=>ho (by injection e with _ e;exact e.symm)),?_,?_⟩
 ·exact zb h.o1 fun j hj=>yF _ _ _ _ fun e=>h.n1 (by rw[hj,e])
 ·exact zb h.o2 fun j hj=>yF _ _ _ _ fun e=>h.n2 (by rw[hj,e])
theorem ymj (h:Mk w B k b lv e v1 v2 ts ps p) (DF:Int):Mk (w.setCell ⟨k,1,I⟩ (R J DF)) B k b DF e v1 v2 ts ps p:=by
 obtain⟨hc,q1,q2⟩:=h.setCell 1 (R J DF)
 exact⟨(hc 0 (by decide)).trans h.c0,yT _ _ _ h.c1,(hc 2 (by decide)).trans h.c2,(hc 3 (by decide)).trans h.c3,(hc 4 (by decide)).trans h.c4,(hc 5 (by decide)).trans h.c5,(hc 6 (by decide)).trans h.c6,(hc 7 (by decide)).trans h.c7,(hc 8 (by decide)).trans h.c8,(hc 9 (by decide)).trans h.c9,(hc 10 (by decide)).trans h.c10,
  fun o=>by rw[yO];exact h.fz o,q1,q2,h.ne,h.n1,h.n2,h.hi⟩
theorem setE (h:Mk w B k b lv e v1 v2 ts ps p) (e':Pg.En):Mk ((((((w.setCell ⟨k,2,I⟩ (E e'.t)).setCell ⟨k,3,I⟩ (E e'.l)).setCell ⟨k,4,I⟩ (R J e'.r)).setCell ⟨k,5,I⟩ (E e'.u)).setCell ⟨k,6,I⟩ (E e'.d)).setCell ⟨k,7,I⟩ (R J e'.f)) B k b lv e' v1 v2 ts ps p:=by
 have hb:But (fun j=>j=k) w ((((((w.setCell ⟨k,2,I⟩ (E e'.t)).setCell ⟨k,3,I⟩ (E e'.l)).setCell ⟨k,4,I⟩ (R J e'.r)).setCell ⟨k,5,I⟩ (E e'.u)).setCell ⟨k,6,I⟩ (E e'.d)).setCell ⟨k,7,I⟩ (R J e'.f)):=
  ((((((But.refl (fun j=>j=k) w).setCell (a:=⟨k,2,I⟩) (.inr rfl) _).setCell (a:=⟨k,3,I⟩) (.inr rfl) _).setCell (a:=⟨k,4,I⟩) (.inr rfl) _).setCell (a:=⟨k,5,I⟩) (.inr rfl) _).setCell (a:=⟨k,6,I⟩) (.inr rfl) _).setCell (a:=⟨k,7,I⟩) (.inr rfl) _
 refine⟨?_,?_,?_,?_,?_,?_,?_,?_,?_,?_,?_,fun o=> ?_,zc h.o1 hb fun j hj e=>h.n1 (by rw[hj,e]),zc h.o2 hb fun j hj e=>h.n2 (by rw[hj,e]),h.ne,h.n1,h.n2,h.hi⟩<;>
  simp[go_sem,h.c0,h.c1,h.c2,h.c3,h.c4,h.c5,h.c6,h.c7,h.c8,h.c9,h.c10,h.fz]
end Mk
structure St (w0 w:uv) (k b:Nat) (F0:Nat->Prop) (S:Pg.Fs) (lv:Int) (e:Pg.En) (ts ps:List Int) (p:Int):Prop where
 body:∃B v1 v2 F,Mk w B k b lv e v1 v2 ts ps p/\zh w b S F/\But F0 w0 w/\(∀j,F j->F0 j\/w0.heap.size<=j)/\(∀j,F j->¬mkF k v1 v2 j)/\B<=w.heap.size/\∀j,mkF k v1 v2 j->F0 j\/w0.heap.size<=j
namespace St
variable {w0 w w':uv} {k b:Nat} {F0:Nat->Prop} {S:Pg.Fs} {lv:Int} {e:Pg.En} {ts ps:List Int} {p:Int}
theorem grow (h:St w0 w k b F0 S lv e ts ps p) (hb:Lw w w'):St w0 w' k b F0 S lv e ts ps p:=by
 obtain⟨B,v1,v2,F,hM,hF,hB,h1,h2,fq,hm⟩:=h.body;exact⟨B,v1,v2,F,hM.grow hb,hF.keep (G:=fun _=>False) (But.yhJ hb) fun _ _=>id,hB.trans (But.yhJ (F:=fun _=>False) hb) fun _ _ h=>h.elim,h1,h2,yP fq hb.size,hm⟩
theorem but (h:St w0 w k b F0 S lv e ts ps p):But F0 w0 w:=by
 obtain⟨B,v1,v2,F,hM,hF,hB,h1,h2,fq,hm⟩:=h.body;exact hB
theorem lb (h:St w0 w k b F0 S lv e ts ps p):k<w.heap.size:=by
 obtain⟨B,v1,v2,F,hM,hF,hB,h1,h2,fq,hm⟩:=h.body;exact hM.lb
theorem leaves (h:St w0 w k b F0 S lv e ts ps p):∃F,zh w b S F/\But F0 w0 w/\∀j,F j->F0 j\/w0.heap.size<=j:=by
 obtain⟨B,v1,v2,F,hM,hF,hB,h1,h2,fq,hm⟩:=h.body;exact⟨F,hF,hB,h1⟩
end St
theorem vj {b:Nat} {S:Pg.Fs} {F:Nat->Prop} (t p:Int) (w:uv) (h:zh w b S F):
 ue kh 155 #[A (Q ⟨b,0,I⟩),R J t,R J p] w fun en w'=>∃k,en=kp (yZ #[A (Q ⟨k,0,I⟩),R J (xQ S t p)])/\St w w' k b F S (yhQ (zg S t p)) (yhO (zg S t p)) (tabs (zg S t p)) (qL (zg S t p)) p/\Lw w w':=by
 have HF:=yfn t p w h;have H:O (zh w b S F):=h;clear h;have mU:=xA (zg S t p);have dF:=vy (zg S t p);generalize zg S t p=X at*;generalize xQ S t p=c at*;unfold ycn at HF;generalize yhQ X=lv at*;generalize yhO X=e at*
 go_enter Tryz.func155,Tryz.ntmps155
 go_wp2_with fail
 refine HF.mono ?_;rintro en w1 ⟨v1,v2,rfl,o1,o2,Ho,hb⟩;obtain⟨a1,c1,rfl⟩:=zF o1;obtain⟨a2,c2,rfl⟩:=zF o2
 have wK:O (w1.ownsRow w.heap.size 3 1 (un a1 X.length c1) (tabs X).length (xn (tabs X))):=by rw[mU];exact o1
 have Ta:O (w1.ownsRow w.heap.size 3 1 (un a2 X.length c2) (qL X).length (xn (qL X))):=by rw[dF];exact o2
 have HN:O _:=Ho;have HB:O _:=hb;clear o1 o2 Ho hb HF
 go_wp2
 go_ret2
 have sG:Lw w (w1.alloc (yI #[R J lv,E e.t,E e.l,R J e.r,E e.u,E e.d,R J e.f,un a1 X.length c1,un a2 X.length c2] 211)):=zA HB.out _;have tL:=zA sG (yI #[A (Q ⟨b,0,I⟩),R J lv,E e.t,E e.l,R J e.r,E e.u,E e.d,R J e.f,un a1 X.length c1,un a2 X.length c2,R J p] 213);have sN:=HB.out.size;refine⟨w1.heap.size+1,rfl,⟨w.heap.size,un a1 X.length c1,un a2 X.length c2,F,⟨?_,?_,?_,?_,?_,?_,?_,?_,?_,?_,?_,fun o=> ?_,(wK.out.alloc _).alloc _,(Ta.out.alloc _).alloc _,HN.out,fun e=> ?_,fun e=> ?_,by omega⟩,?_,?_,?_,?_,tL.size,?_⟩,tL⟩
 iterate 12 (focus (simp[go_sem]))
 ·have:=(yY.lt wK.out _ e).2;omega
 ·have:=(yY.lt Ta.out _ e).2;omega
 ·exact zh.keep (G:=fun _=>False) H.out (But.yhJ tL) fun _ _=>id
 ·exact But.yhJ tL
 ·exact fun j hj=> .inl hj
 ·intro j hj hm
  have:=zh.lt H.out hj;rcases hm with rfl|hm|hm
  ·omega
  ·have:=(yY.lt wK.out _ hm).1;omega
  ·have:=(yY.lt Ta.out _ hm).1;omega
 ·intro j hm
  right;rcases hm with rfl|hm|hm
  ·omega
  ·exact(yY.lt wK.out _ hm).1
  ·exact(yY.lt Ta.out _ hm).1
theorem ybo {w0 w:uv} {k b:Nat} {F0:Nat->Prop} {S:Pg.Fs} {lv:Int} {e:Pg.En} {ts ps:List Int} {p:Int} (h:St w0 w k b F0 S lv e ts ps p) (hl:ts.length<=5000):
 ue kh 170 #[A (Q ⟨k,0,I⟩)] w fun en w'=>en=kp (R J ((ts.length:Int)-1))/\w'=w:=by
 obtain⟨B,v1,v2,F,hM,hF,hB,h1,h2,fq,hm⟩:=h.body;obtain⟨a1,c1,rfl⟩:=zF hM.o1;have c8:=hM.c8;clear hM hF hB h1 h2 h fq hm;generalize ts.length=n at*
 go_enter Tryz.func170,Tryz.ntmps170
 go_wp2
 go_ret
 exact⟨rfl,rfl⟩
theorem vQ {w0 w:uv} {k b:Nat} {F0:Nat->Prop} {S:Pg.Fs} {lv:Int} {e:Pg.En} {ts ps:List Int} {p:Int} (h:St w0 w k b F0 S lv e ts ps p) (hl:ts.length<=5000):
 ue kh 135 #[A (Q ⟨k,0,I⟩)] w fun en w'=>en=kp (E (decide (1<ts.length)))/\w'=w:=by
 have HE:=ybo h hl
 have HD:O (decide (1<(ts.length:Int))=decide (1<ts.length)):=by
  rw[O,decide_eq_decide];omega
 clear h;generalize ts.length=n at*
 go_enter Tryz.func135,Tryz.ntmps135
 go_wp2_with fail
 refine HE.mono ?_;rintro en w1 ⟨rfl,rfl⟩
 go_wp2
 go_ret
 exact⟨zV HD.out,rfl⟩
theorem qK {b:Nat} {S:Pg.Fs} {F:Nat->Prop} (t p:Int) (w:uv) (h:zh w b S F):
 ue kh 120 #[A (Q ⟨b,0,I⟩),R J t,R J p] w fun en w'=>∃k,en=kp (yZ #[A (Q ⟨k,0,I⟩),R J (Pg.tFC S t p)])/\St w w' k b F S (yhQ (zg S t p)) (yhO (zg S t p)) (tabs (zg S t p)) (qL (zg S t p)) p/\Lw w w':=by
 have HF:=vj t p w h
 have iM:xQ S t p=0->(yhO (zg S t p)).l=(yhO (zg S t p)).t:=by
  intro hz;obtain⟨lv,e,tl,W⟩:=Pg.ykQ hz;have hf:=Pg.yih h.ok W.code;rw[<-W.en]at hf;obtain⟨_,hx⟩:=Pg.yh0 hf;have ho:=W.on;rw[W.yhO];unfold Pg.En.on at ho;rcases hx with ⟨h1,h2,_⟩|⟨h1,_⟩
  ·rw[h1,h2]
  ·rw[h1]at ho ⊢
   simpa using ho
 have e1:Pg.tFC S t p=if xQ S t p≠0 then xQ S t p else if (yhO (zg S t p)).t=kO then 0 else 5:=rfl;clear h;generalize Pg.tFC S t p=cc at*;generalize zg S t p=X at*;generalize xQ S t p=c at*
 go_enter Tryz.func120,Tryz.ntmps120
 go_wp2_with fail
 refine HF.mono ?_;rintro en w1 ⟨k,rfl,hS,hb⟩;have HS:O _:=hS;have HB:O _:=hb;obtain⟨B,v1,v2,F',hM,_,_,_,_,_,_⟩:=hS.body;have c3:=hM.c3;clear hM hS hb HF
 by_cases hc:c=0
 ·subst hc
  rw[iN (by decide)]at e1;rw[iM rfl]at c3;clear iM;cases ht:(yhO X).t
  ·rw[ht]at e1 c3
   have E1:O _:=e1;clear e1 ht
   go_wp2
   go_ret2
   exact⟨k,by rw[E1.out];rfl,HS.out,HB.out⟩
  ·rw[ht]at e1 c3
   have E1:O _:=e1;clear e1 ht
   go_wp2
   go_ret2
   exact⟨k,by rw[E1.out];rfl,HS.out,HB.out⟩
 ·have bB:(c==0)=V:=by simpa using hc
  have E1:O (cc=c):=by rw[O,e1,iP hc]
  clear e1 iM hc c3
  go_wp2
  go_ret2
  exact⟨k,by rw[E1.out];rfl,HS.out,HB.out⟩
theorem jF {w0 w:uv} {k b:Nat} {F0:Nat->Prop} {S:Pg.Fs} {lv:Int} {e:Pg.En} {ts ps:List Int} {p:Int} (h:St w0 w k b F0 S lv e ts ps p):
 ue kh 121 #[A (Q ⟨k,0,I⟩)] w fun en w'=>en=kp (e.map lv p).val/\Lw w w':=by
 obtain⟨B,v1,v2,F,hM,hF,hB,h1,h2,fq,hm⟩:=h.body;obtain⟨et,el,er,eu,ed,ef⟩:=e;obtain⟨W,hW⟩:=eY (w.alloc (yI #[R J 0,R J 0,R J 0,R J 0] 39))
 have rH:Lw w W:=by rw[hW];exact zA (zR w) _
 have Rc:=hM.grow rH
 have hz:W.cell? ⟨w.heap.size,0,I⟩=Q (R J 0)/\W.cell? ⟨w.heap.size,1,I⟩=Q (R J 0)/\W.cell? ⟨w.heap.size,2,I⟩=Q (R J 0)/\W.cell? ⟨w.heap.size,3,I⟩=Q (R J 0):=by rw[hW];simp[go_sem]
 have Aw:∀o,W.frozen? ⟨w.heap.size,o,I⟩=V:=fun o=>by rw[hW];simp[go_sem]
 have kN:w.heap.size<W.heap.size:=U _ _ hz.1;have HE:=ybn et el er eu ed ef lv p;have e1:Pg.mapV et el er eu ed ef lv p=(Pg.En.map ⟨et,el,er,eu,ed,ef⟩ lv p).val:=rfl;rw[e1]at HE;generalize Pg.En.map ⟨et,el,er,eu,ed,ef⟩ lv p=m at*;obtain⟨mp,ms,mf,mr⟩:=m;simp only[Pg.Mp.val]at HE ⊢
 have nk:¬k=w.heap.size:=by have:=hM.lb;omega
 have nk':¬w.heap.size=k:=by have:=hM.lb;omega
 have HZ:O _:=hz;have Ma:O _:=Aw;have pg:O _:=rH;have k1:=Rc.c1;have k2:=Rc.c2;have k3:=Rc.c3;have k4:=Rc.c4;have k5:=Rc.c5;have k6:=Rc.c6;have k7:=Rc.c7;have k10:=Rc.c10;simp only at k2 k3 k4 k5 k6 k7;clear h hM hF hB h1 h2 Rc hz Aw rH e1 fq hm
 go_enter Tryz.func121,Tryz.ntmps121
 go_wp2_with fail
 rw[<-hW];clear hW
 go_region_held3 (fun w'=>w'.cell? ⟨k,1,I⟩=Q (R J lv)/\w'.cell? ⟨k,2,I⟩=Q (E et)/\w'.cell? ⟨k,3,I⟩=Q (E el)/\w'.cell? ⟨k,4,I⟩=Q (R J er)/\w'.cell? ⟨k,5,I⟩=Q (E eu)/\w'.cell? ⟨k,6,I⟩=Q (E ed)/\w'.cell? ⟨k,7,I⟩=Q (R J ef)/\w'.cell? ⟨k,10,I⟩=Q (R J p)) (go_keep) (
  (go_at_call 152;refine(HE _).mono ?_;rintro en w2 ⟨rfl,Hd⟩
   have Ht:O (Lw W w2):=zT (zR W).drew Hd;have q1:=Z Ht.out k1;have q2:=Z Ht.out k2;have q3:=Z Ht.out k3;have q4:=Z Ht.out k4;have q5:=Z Ht.out k5;have q6:=Z Ht.out k6;have q7:=Z Ht.out k7;have q10:=Z Ht.out k10;obtain⟨z0,z1,z2,z3⟩:=xG Ht.out HZ.out;have zf:∀o,w2.frozen? ⟨w.heap.size,o,I⟩=V:=fun o=>(Ht.out.frozen (p:=⟨w.heap.size,o,I⟩) kN).trans (Ma.out o)
   clear Hd))
 have fin:O (Lw w ((((w2.setCell ⟨w.heap.size,0,I⟩ (R J mp)).setCell ⟨w.heap.size,1,I⟩ (R J ms)).setCell ⟨w.heap.size,2,I⟩ (R J mf)).setCell ⟨w.heap.size,3,I⟩ (R J mr))):=zu (zT pg.out Ht.out) _ (yS _) _ _ _ _
 go_wp2
 refine uc (v:=yG #[R J mp,R J ms,R J mf,R J mr]) ?_ rfl ⟨rfl,fin.out⟩;simp[results,Tryz.results121,go_sem,z0,z1,z2,z3]
theorem jG {w:uv} {B:Nat} {v:yU} {ts:List Int} {t:Int} (h:w.ownsRow B 3 1 v (ts++[t]).length (xn (ts++[t]))):∃g cap,v=un (Q ⟨g,0,I⟩) (ts.length+1) cap/\w.cell? ⟨g,ts.length,I⟩=Q (R J t)/\ts.length+1<=cap:=by
 rw[yV,yC]at h;have h2:=h;obtain⟨g,cap,rfl,_,_⟩:=h.form (by omega);refine⟨g,cap,rfl,?_,?_⟩
 ·rw[h.cellAt ts.length (by omega)]
  simp[xn]
 ·rcases h2.2 with ⟨h',_⟩|⟨g',cap',cur,h',_,_,fK,_⟩
  ·cases h'
  ·cases h';exact fK
theorem vY {w0 w:uv} {k b:Nat} {F0:Nat->Prop} {S:Pg.Fs} {lv:Int} {e:Pg.En} {ts ps:List Int} {p t q:Int} (e':Pg.En) (h:St w0 w k b F0 S lv e (ts++[t]) (ps++[q]) p) (Hg:ts.length=ps.length) (hl:ts.length<5000):
 ue kh 134 #[A (Q ⟨k,0,I⟩),e'.val] w fun en w'=>en=kp (yZ #[])/\St w0 w' k b F0 (S.store t q (Pg.enc e'.t e'.l e'.r e'.u e'.d e'.f lv)) lv e' (ts++[t]) (ps++[q]) p:=by
 obtain⟨et,el,er,eu,ed,ef⟩:=e';simp only[Pg.En.val];have HE:=yaS et el er eu ed ef lv;have hv:0<=Pg.enc et el er eu ed ef lv/\Pg.enc et el er eu ed ef lv<18446744073709551616:=Pg.yk9 _ _ _ _ _ _ _;generalize Pg.enc et el er eu ed ef lv=v at*;generalize Pg.yhN et el er eu ed ef lv=fl at*;obtain⟨lU,nE⟩:=hv;obtain⟨W,hW⟩:=eY (w.alloc (yI #[E et,E el,R J er,E eu,E ed,R J ef] 70))
 have rH:Lw w W:=by rw[hW];exact zA (zR w) _
 have hx:W.cell? ⟨w.heap.size,0,I⟩=Q (E et)/\W.cell? ⟨w.heap.size,1,I⟩=Q (E el)/\W.cell? ⟨w.heap.size,2,I⟩=Q (R J er)/\W.cell? ⟨w.heap.size,3,I⟩=Q (E eu)/\W.cell? ⟨w.heap.size,4,I⟩=Q (E ed)/\W.cell? ⟨w.heap.size,5,I⟩=Q (R J ef):=by rw[hW];simp[go_sem]
 have nk:¬k=w.heap.size:=by have:=h.lb;omega
 have nk':¬w.heap.size=k:=by have:=h.lb;omega
 have mK:w.heap.size<W.heap.size:=U _ _ hx.1;obtain⟨B,v1,v2,F,hM,hF,hB,h1,h2,fq,hm⟩:=h.body;obtain⟨g1,gZ,rfl,ht,_⟩:=jG hM.o1;obtain⟨g2,cap2,rfl,hq,_⟩:=jG hM.o2;have Wy:O (∀j,F j->j<w.heap.size):=fun j hj=>hF.lt hj;have HM:O _:=hM;have HF:O (zh w b S F):=hF;have CE:O _:=hB;have H1:O _:=h1;have H2:O _:=h2;have wy:O _:=fq;have Hm:O _:=hm;have pg:O _:=rH;have k1:=(hM.grow rH).c1;obtain⟨x0,x1,x2,x3,x4,x5⟩:=hx;clear hM hF hB h1 h2 h rH fq hm
 go_enter Tryz.func134,Tryz.ntmps134
 go_wp2_with fail
 rw[<-hW];clear hW
 go_region_held3 (fun w'=>w'.cell? ⟨w.heap.size,0,I⟩=Q (E et)/\w'.cell? ⟨w.heap.size,1,I⟩=Q (E el)/\w'.cell? ⟨w.heap.size,2,I⟩=Q (R J er)/\w'.cell? ⟨w.heap.size,3,I⟩=Q (E eu)/\w'.cell? ⟨w.heap.size,4,I⟩=Q (E ed)/\w'.cell? ⟨w.heap.size,5,I⟩=Q (R J ef)/\w'.cell? ⟨k,1,I⟩=Q (R J lv)) (go_keep) (
  (go_at_call 168;refine(HE _).mono ?_;rintro en w2 ⟨rfl,Hd⟩
   have Ht:O (Lw W w2):=zT (zR W).drew Hd;have q0:=Z Ht.out x0;have q1:=Z Ht.out x1;have q2:=Z Ht.out x2;have q3:=Z Ht.out x3;have q4:=Z Ht.out x4;have q5:=Z Ht.out x5;have q6:=Z Ht.out k1
   clear Hd))
 have rE:O (Lw w w2):=zT pg.out Ht.out;have su:w.heap.size<w2.heap.size:=U _ _ q0;have mq:O _:=HM.out.grow rE.out;have TY:O (zh w2 b S F):=zh.keep (G:=fun _=>False) HF.out (But.yhJ rE.out) fun _ _=>id;have TR:O (But F0 w0 w2):=CE.out.trans (But.yhJ (F:=fun _=>False) rE.out) fun _ _ h=>h.elim;have X2:O (w2.cell? ⟨w.heap.size,0,I⟩=Q (E et)/\w2.cell? ⟨w.heap.size,1,I⟩=Q (E el)/\w2.cell? ⟨w.heap.size,2,I⟩=Q (R J er)/\w2.cell? ⟨w.heap.size,3,I⟩=Q (E eu)/\w2.cell? ⟨w.heap.size,4,I⟩=Q (E ed)/\w2.cell? ⟨w.heap.size,5,I⟩=Q (R J ef)):=⟨q0,q1,q2,q3,q4,q5⟩;have k0:=mq.out.c0;have k8:=mq.out.c8;have k9:=mq.out.c9;have kt:=Z rE.out ht;have kq:=Z rE.out hq;clear x0 x1 x2 x3 x4 x5 k1 HE q0 q1 q2 q3 q4 q5 q6 ht hq HM HF CE Ht pg
 have gV:∀W',Lw w2 W'->ue kh 170 #[A (Q ⟨k,0,I⟩)] W' fun en w'=>en=kp (R J (ts.length:Int))/\w'=W':=fun W' hb=>by
  have hS:St w0 W' k b F0 S lv e (ts++[t]) (ps++[q]) p:=St.grow ⟨B,_,_,F,mq.out,TY.out,TR.out,H1.out,H2.out,yP wy.out rE.out.size,Hm.out⟩ hb;refine(ybo hS (by simp;omega)).mono ?_;rintro en w' ⟨rfl,rfl⟩;exact⟨by simp,rfl⟩
 have O0:∀W',Lw w2 W'->ue kh 169 #[A (Q ⟨b,0,I⟩),R J t,R J q,R .u64 v] W' fun en w'=>en=kp (E (S.at' t q))/\∃F4,zh w' b (S.store t q v) F4/\But F w2 w'/\∀k,F4 k->F k\/w2.heap.size<=k:=fun W' hb=>by
  refine(ycT t q v lU nE W' (zh.keep (G:=fun _=>False) TY.out (But.yhJ hb) fun _ _=>id)).mono ?_;rintro en w' ⟨rfl,F4,f1,f2,f3⟩;exact⟨rfl,F4,f1,(But.yhJ hb).trans f2 fun _ _ h=>h,fun j hj=>(f3 j hj).imp id fun h=>by have:=hb.size;omega⟩
 have iO:ps.length=ts.length:=Hg.symm;rw[iO]at k9 kq
 have i0:(0:Int)<=(ts.length:Int):=by omega
 have i1:(ts.length:Int)<(ts.length:Int)+1:=by omega
 have HL:O _:=Hg;clear Hg iO;generalize hn:ts.length=n at*;have HN:O _:=hn;clear hn
 go_wp2
 go_region_held3 (fun w'=>w'.cell? ⟨k,0,I⟩=Q (A (Q ⟨b,0,I⟩))/\w'.cell? ⟨k,8,I⟩=Q (un (Q ⟨g1,0,I⟩) (n+1) gZ)/\w'.cell? ⟨k,9,I⟩=Q (un (Q ⟨g2,0,I⟩) (n+1) cap2)/\w'.cell? ⟨g1,n,I⟩=Q (R J t)/\w'.cell? ⟨g2,n,I⟩=Q (R J q)) (go_keep) (first
  | (go_at_call 170;refine(gV _ (by first|exact(zR w2).drew|exact zR w2)).mono ?_;rintro en w3 ⟨rfl,kV⟩;subst w3)
  | (go_at_call 169;refine(O0 _ (by first|exact(zR w2).drew|exact zR w2)).mono ?_;rintro en w4 ⟨rfl,hf4⟩
     obtain⟨F4,f1,f2,f3⟩:=hf4;have f2':But F w2 w4:=f2;have bP:O _:=mq.out.keep f2' fun j hj hF=>H2.out j hF hj;have sU:O (zh w4 b (S.store t q v) F4):=f1;have TZ:O (But F w2 w4):=f2';have Fu:O (∀k,F4 k->F k\/w2.heap.size<=k):=f3;have r0:=bP.out.c0;have r8:=bP.out.c8;have r9:=bP.out.c9;rw[<-HL.out]at r9;have rt:w4.cell? ⟨g1,n,I⟩=Q (R J t):=(f2'.cell (a:=⟨g1,n,I⟩) (U _ _ kt) fun hF=>H2.out g1 hF (.inr (.inl rfl))).trans kt;have rq:w4.cell? ⟨g2,n,I⟩=Q (R J q):=(f2'.cell (a:=⟨g2,n,I⟩) (U _ _ kq) fun hF=>H2.out g2 hF (.inr (.inr rfl))).trans kq
     clear f1 f2 f3 f2'))
 have y:∀(o:Nat) (u:yU),w2.cell? ⟨w.heap.size,o,I⟩=Q u->w4.cell? ⟨w.heap.size,o,I⟩=Q u:=fun o u hu=>(TZ.out.cell (a:=⟨w.heap.size,o,I⟩) su fun hF=>by have:=Wy.out _ hF;simp at this).trans hu;have y0:=y _ _ X2.out.1;have y1:=y _ _ X2.out.2.1;have y2:=y _ _ X2.out.2.2.1;have y3:=y _ _ X2.out.2.2.2.1;have y4:=y _ _ X2.out.2.2.2.2.1;have y5:=y _ _ X2.out.2.2.2.2.2;have r2:=bP.out.c2;have r3:=bP.out.c3;have r4:=bP.out.c4;have r5:=bP.out.c5;have r6:=bP.out.c6;have r7:=bP.out.c7;have rf:=bP.out.fz;have bH:=bP.out.lb;have fin:O _:=bP.out.setE ⟨et,el,er,eu,ed,ef⟩
 have LQ:O (But (fun j=>j=k) w4 ((((((w4.setCell ⟨k,2,I⟩ (E et)).setCell ⟨k,3,I⟩ (E el)).setCell ⟨k,4,I⟩ (R J er)).setCell ⟨k,5,I⟩ (E eu)).setCell ⟨k,6,I⟩ (E ed)).setCell ⟨k,7,I⟩ (R J ef))):=
  ((((((But.refl (fun j=>j=k) w4).setCell (a:=⟨k,2,I⟩) (.inr rfl) _).setCell (a:=⟨k,3,I⟩) (.inr rfl) _).setCell (a:=⟨k,4,I⟩) (.inr rfl) _).setCell (a:=⟨k,5,I⟩) (.inr rfl) _).setCell (a:=⟨k,6,I⟩) (.inr rfl) _).setCell (a:=⟨k,7,I⟩) (.inr rfl) _
 have OE:O (∀j,F4 j->¬mkF k (un (Q ⟨g1,0,I⟩) (n+1) gZ) (un (Q ⟨g2,0,I⟩) (ps.length+1) cap2) j):=fun j hj hm=>by
  rcases Fu.out j hj with h|h
  ·exact H2.out j h hm
  ·have:=(mq.out.lt hm).2;omega
 have Rq:=mq.out.hi;clear y r0 r8 r9 rt rq k0 k8 k9 kt kq O0 gV
 go_wp2
 go_end0
 refine⟨rfl,B,_,_,F4,fin.out,zh.keep sU.out LQ.out fun j hj e=>OE.out j hj (.inl e),?_,fun j hj=> ?_,OE.out,?_,Hm.out⟩
 ·refine(TR.out.trans TZ.out fun i hi hF=> ?_).trans LQ.out fun i hi e=> ?_
  ·rcases H1.out i hF with h|h
   ·exact h
   ·omega
  ·rcases Hm.out i (.inl e)with h|h
   ·exact h
   ·omega
 ·rcases Fu.out j hj with h|h
  ·exact H1.out j h
  ·have:=TR.out.size;exact .inr (by omega)
 ·exact yP (yP wy.out rE.out.size) (yP TZ.out.size LQ.out.size)
theorem ygw {e:Pg.En} {lv:Nat} {p r:Int} (hf:e.fault lv=0) (ht:e.t=kO) (hl:e.l=kO) (hp:Pg.below p 4096=kO) (h0:0<=r) (h1:r<=7):Pg.En.map ⟨e.t,e.l,r,e.u,e.d,e.f⟩ lv p=(e.map lv p).rts r:=by
 obtain⟨et,el,er,eu,ed,ef⟩:=e;simp only at ht hl;subst ht hl;unfold Pg.En.fault at hf
 have PT:Pg.yhN kO kO r eu ed ef lv=0:=by
  unfold Pg.yhN at hf ⊢;simp only at hf;rw[iN (by omega)]
  rw[iN (by simp),iN (by rintro (h|h|h|h)<;>simp_all<;>omega)]
  split at hf
  ·omega
  ·rw[iN (by simp)]at hf
   split at hf
   ·omega
   ·simpa using hf
 have o1:Pg.lOk kO kO er eu ed ef lv p=kO:=by
  simp only[Pg.lOk,hf,hp];simp
 have o2:Pg.lOk kO kO r eu ed ef lv p=kO:=by
  simp only[Pg.lOk,PT,hp];simp
 simp[Pg.En.map,Pg.Mp.rts,Pg.ykn,Pg.ykX,Pg.yjR,Pg.yiU,o1,o2]
theorem yfC (r:Int):Pg.check 0 0 0 r=if r<0\/7<r then 1 else 0:=by
 unfold Pg.check
 split<;>split<;>simp_all[Pg.below,Pg.span]<;>omega
theorem yej {X:List Pg.Sp} (h:1<=X.length):∃Y s,X=Y++[s]:=by
 rcases List.eq_nil_or_concat X with rfl|⟨Y,s,rfl⟩
 ·simp at h
 ·exact⟨Y,s,by simp⟩
theorem qX {S:Pg.Fs} {t p:Int} (hz:xQ S t p=0):∃Y s lv,zg S t p=Y++[s]/\Pg.Way S t p (Y++[s]) lv s.e s.table/\s.level=lv/\lv<=3/\Y.length<=3/\(s.place:Int)=Pg.index p (lv:Int)/\s.place=Pg.ix p lv:=by
 obtain⟨lv,e,tl,W⟩:=Pg.ykQ hz;have h4:=W.len
 have Kn:1<=(zg S t p).length:=by
  cases hX:zg S t p with
  | nil=>
    have h5:=W.yhQ;rw[hX]at h5 h4;simp[yhQ]at h5 h4;omega
  | cons a l=>simp
 obtain⟨Y,s,hY⟩:=yej Kn;have e1:yhQ (Y++[s])=s.level:=jd Y s;have e2:yhO (Y++[s])=s.e:=jc Y s
 have e3:lastT (Y++[s])=s.table:=by simp[lastT]
 have hi:=yaV S t p (i:=Y.length) (by rw[hY];simp);rw[hY]at W h4 hi;rw[yV,yC]at h4;have hl:=W.yhQ;rw[e1]at hl
 have hl':s.level=lv:=by omega
 have he:=W.yhO;rw[e2]at he;have ht:=W.lastT;rw[e3]at ht;subst he ht
 have dF:(qL (Y++[s])).getD Y.length 0=(s.place:Int):=by simp[qL]
 have dN:=Pg.yhY hi.1 (lv:=lv) (by omega)
 have hpp:(s.place:Int)=Pg.index p (lv:Int):=by rw[<-dF,hi.2.2,show(3-(Y.length:Int))=(lv:Int) by omega]
 exact⟨Y,s,lv,hY,W,hl',by omega,by omega,hpp,by omega⟩
theorem yco {b:Nat} {S:Pg.Fs} {F:Nat->Prop} (t p r:Int) (w:uv) (h:zh w b S F):
 ue kh 91 #[A (Q ⟨b,0,I⟩),R J t,R J p,R J r] w fun en w'=>en=kp (yZ #[(Pg.prM S t p r).val,R J (Pg.prC S t p r)])/\∃F',zh w' b (Pg.prS S t p r) F'/\But F w w'/\∀k,F' k->F k\/w.heap.size<=k:=by
 have HC:=zY 0 0 0 r;rw[yfC]at HC;have H:O (zh w b S F):=h;obtain⟨W1,rC⟩:=eY (w.alloc (yI #[R J 0,R J 0,R J 0,R J 0] 39))
 have sG:Lw w W1:=by rw[rC];exact zA (zR w) _
 have r4:W1.cell? ⟨w.heap.size,0,I⟩=Q (R J 0)/\W1.cell? ⟨w.heap.size,1,I⟩=Q (R J 0)/\W1.cell? ⟨w.heap.size,2,I⟩=Q (R J 0)/\W1.cell? ⟨w.heap.size,3,I⟩=Q (R J 0):=by rw[rC];simp[go_sem]
 have kX:∀o,W1.frozen? ⟨w.heap.size,o,I⟩=V:=fun o=>by rw[rC];simp[go_sem]
 have ni:O _:=r4;have sU:O _:=kX;have ry:O _:=sG;have fo:O (∀w',Lw w w'->∃F',zh w' b S F'/\But F w w'/\∀k,F' k->F k\/w.heap.size<=k):=fun w' hb=>⟨F,zh.keep (G:=fun _=>False) H.out (But.yhJ hb) fun _ _=>id,But.yhJ hb,fun k hk=> .inl hk⟩
 by_cases hr:r<0\/7<r
 ·have e1:Pg.prC S t p r=1:=by rw[Pg.prC,iP hr]
  have e2:Pg.prM S t p r= .zz:=by rw[Pg.prM,e1,iN (by decide)]
  have e3:Pg.prS S t p r=S:=by rw[Pg.prS,e1,iN (by decide)]
  rw[e1,e2,e3];rw[iP hr]at HC;clear h e1 e2 e3 hr r4 kX sG
  go_enter Tryz.func91,Tryz.ntmps91
  go_wp2_with fail
  rw[<-rC];clear rC;refine(HC _).mono ?_;rintro en w2 ⟨rfl,Hd⟩;obtain⟨z0,z1,z2,z3⟩:=xG Hd ni.out;have mK:w.heap.size<W1.heap.size:=U _ _ ni.out.1;have zf:∀o,w2.frozen? ⟨w.heap.size,o,I⟩=V:=fun o=>(Hd.frozen (p:=⟨w.heap.size,o,I⟩) mK).trans (sU.out o);have Ht:O (Lw w w2):=zT ry.out Hd;clear Hd
  go_wp2
  refine uc (v:=yZ #[yG #[R J 0,R J 0,R J 0,R J 0],R J 1]) ?_ rfl ⟨rfl,fo.out _ (zu Ht.out w.heap.size (yS _) _ _ _ _)⟩;simp[results,Tryz.results91,go_sem,z0,z1,z2,z3]
 ·have e1:Pg.prC S t p r=Pg.tFC S t p:=by rw[Pg.prC,iN hr]
  rw[iN hr]at HC;have HW:=fun w2 (hb:Lw w w2)=>qK t p w2 (h.keep (G:=fun _=>False) (But.yhJ hb) fun _ _=>id)
  by_cases hc:Pg.tFC S t p=0
  ·have hz:xQ S t p=0:=by
    by_cases hz:xQ S t p=0
    ·exact hz
    ·rw[Pg.tFC,iP hz]at hc
     exact absurd hc hz
   obtain⟨Y,s,lv,hY,W,lw,lN,Gq,dF,dN⟩:=qX hz;have hf:=Pg.yih h.ok W.code;rw[<-W.en]at hf
   have ht:s.e.t=kO:=by
    rw[Pg.tFC,hz,iN (by decide),hY,W.yhO]at hc;cases sM:s.e.t
    ·rw[sM]at hc;simp at hc
    ·rfl
   have hl:s.e.l=kO:=by
    have:=W.on;unfold Pg.En.on at this;rw[ht]at this
    simpa using this
   have e5:Pg.tFM S t p=s.e.map (lv:Int) p:=by rw[Pg.tFM,iP hc,hY,W.yhO,W.yhQ]
   have e2:Pg.prM S t p r=Pg.En.map ⟨s.e.t,s.e.l,r,s.e.u,s.e.d,s.e.f⟩ (lv:Int) p:=by rw[Pg.prM,e1,iP hc,e5];exact(ygw hf ht hl W.below (by omega) (by omega)).symm
   have e3:Pg.prS S t p r=S.store s.table (s.place:Int) (Pg.enc s.e.t s.e.l r s.e.u s.e.d s.e.f (lv:Int)):=by
    rw[Pg.prS,e1,iP hc,hY,W.lastT,W.yhQ,W.yhO,dF]
   have e6:tabs (Y++[s])=tabs Y++[s.table]:=by simp[tabs]
   have e7:qL (Y++[s])=qL Y++[(s.place:Int)]:=by simp[qL]
   rw[e1,e2,e3,hc];rw[hc,hY,W.yhQ,W.yhO,e6,e7]at HW
   have Hg:(tabs Y).length=(qL Y).length:=by rw[xA,vy]
   have Hf:(tabs Y).length<4000:=by rw[xA];omega
   clear e1 e2 e3 e5 e6 e7 hf hY W dN dF hc hz h r4 kX sG hr;obtain⟨st,sp,sl,sa,⟨et,el,er,eu,ed,ef⟩⟩:=s;simp only at ht hl HW ⊢;generalize (sp:Int)=pl at*;subst ht hl;generalize Ry:Pg.En.map ⟨kO,kO,r,eu,ed,ef⟩ (lv:Int) p=m at*;have N9:O _:=Ry;clear Ry;obtain⟨mp,ms,mf,mr⟩:=m;simp only[Pg.Mp.val]
   go_enter Tryz.func91,Tryz.ntmps91
   go_wp2_with fail
   rw[<-rC];clear rC;refine(HC _).mono ?_;rintro en w2 ⟨rfl,Hd⟩;obtain⟨z0,z1,z2,z3⟩:=xG Hd ni.out;have mK:w.heap.size<W1.heap.size:=U _ _ ni.out.1;have iV:w.heap.size<w2.heap.size:=U _ _ z0;have zf:∀o,w2.frozen? ⟨w.heap.size,o,I⟩=V:=fun o=>(Hd.frozen (p:=⟨w.heap.size,o,I⟩) mK).trans (sU.out o);have Ht:O (Lw w w2):=zT ry.out Hd;clear Hd HC ni sU ry
   go_wp2_with fail
   refine(HW _ Ht.out).mono ?_;rintro en w3 ⟨k,rfl,hS,He⟩;have HS:O _:=hS;obtain⟨B,v1,v2,F',hM,_,_,_,_,_,_⟩:=hS.body;have bH:=hM.lb;have k2:=hM.c2;have k3:=hM.c3;have k4:=hM.c4;have k5:=hM.c5;have k6:=hM.c6;have k7:=hM.c7;simp only at k2 k3 k4 k5 k6 k7;have HZ:O _:=xG He ⟨z0,z1,z2,z3⟩;have Ma:O (∀o,w3.frozen? ⟨w.heap.size,o,I⟩=V):=fun o=>(He.frozen (p:=⟨w.heap.size,o,I⟩) iV).trans (zf o);clear hM hS HW z0 z1 z2 z3 zf He;have HP:=fun w4 (h4:St w2 w4 k b F S (lv:Int) ⟨kO,kO,er,eu,ed,ef⟩ (tabs Y++[st]) (qL Y++[pl]) p)=>vY ⟨kO,kO,r,eu,ed,ef⟩ h4 Hg (by omega);simp only[Pg.En.val]at HP
   go_wp2_with fail
   refine(HP _ (HS.out.grow (zA (zR w3) _))).mono ?_;rintro en w5 ⟨rfl,h5⟩;have mY:=jF h5;obtain⟨F5,f1,f2,f3⟩:=h5.leaves
   have uI:w5.heap[w.heap.size]?=w3.heap[w.heap.size]?:=by
    have q1:=h5.but.block w.heap.size iV fun hF=>by have:=zh.lt H.out hF;omega
    have q2:=HS.out.but.block w.heap.size iV fun hF=>by have:=zh.lt H.out hF;omega
    exact q1.trans q2.symm
   have Z5:O (w5.cell? ⟨w.heap.size,0,I⟩=Q (R J 0)/\w5.cell? ⟨w.heap.size,1,I⟩=Q (R J 0)/\w5.cell? ⟨w.heap.size,2,I⟩=Q (R J 0)/\w5.cell? ⟨w.heap.size,3,I⟩=Q (R J 0)):=⟨(ki uI).trans HZ.out.1,(ki uI).trans HZ.out.2.1,(ki uI).trans HZ.out.2.2.1,(ki uI).trans HZ.out.2.2.2⟩;have FT:O (∀o,w5.frozen? ⟨w.heap.size,o,I⟩=V):=fun o=>(ua uI).trans (Ma.out o);have Rw:w.heap.size<w5.heap.size:=U _ _ Z5.out.1;rw[N9.out]at mY;simp only[Pg.Mp.val]at mY;have F1:O (zh w5 b (S.store st pl (Pg.enc kO kO r eu ed ef (lv:Int))) F5):=f1;have F2:O (But F w w5):=(But.yhJ Ht.out).trans f2 fun _ _ h=>h;have F3:O (∀j,F5 j->F j\/w2.heap.size<=j):=f3;clear h5 f1 f2 f3 HP k2 k3 k4 k5 k6 k7 uI HS HZ Ma
   go_wp2_with fail
   refine mY.mono ?_;rintro en w6 ⟨rfl,ru⟩;obtain⟨z0,z1,z2,z3⟩:=xG ru Z5.out;have zf:∀o,w6.frozen? ⟨w.heap.size,o,I⟩=V:=fun o=>(ru.frozen (p:=⟨w.heap.size,o,I⟩) Rw).trans (FT.out o);have bN:O _:=ru;clear ru mY Z5 FT
   go_wp2
   refine uc (v:=yZ #[yG #[R J mp,R J ms,R J mf,R J mr],R J 0]) ?_ rfl ⟨rfl,F5,?_,?_,fun j hj=> ?_⟩
   ·simp[results,Tryz.results91,go_sem,z0,z1,z2,z3]
   ·refine zh.keep (G:=fun j=>j=w.heap.size) F1.out ?_ fun j hj e=> ?_
    ·iterate 4 refine But.setCell ?_ (by exact .inr rfl) _
     exact But.yhJ bN.out
    ·rcases F3.out j hj with h|h
     ·have:=zh.lt H.out h;omega
     ·omega
   ·iterate 4 refine But.setCell ?_ (by exact .inl (yS _)) _
    exact F2.out.trans (But.yhJ (F:=fun _=>False) bN.out) fun _ _ h=>h.elim
   ·exact(F3.out j hj).imp id fun h=>by omega
  ·have e2:Pg.prM S t p r= .zz:=by rw[Pg.prM,e1,iN hc]
   have e3:Pg.prS S t p r=S:=by rw[Pg.prS,e1,iN hc]
   rw[e1,e2,e3];clear h e1 e2 e3 hr r4 kX sG;generalize Pg.tFC S t p=cc at*
   have bB:(cc !=0)=kO:=by simp[hc]
   clear hc
   go_enter Tryz.func91,Tryz.ntmps91
   go_wp2_with fail
   rw[<-rC];clear rC;refine(HC _).mono ?_;rintro en w2 ⟨rfl,Hd⟩;obtain⟨z0,z1,z2,z3⟩:=xG Hd ni.out;have mK:w.heap.size<W1.heap.size:=U _ _ ni.out.1;have iV:w.heap.size<w2.heap.size:=U _ _ z0;have zf:∀o,w2.frozen? ⟨w.heap.size,o,I⟩=V:=fun o=>(Hd.frozen (p:=⟨w.heap.size,o,I⟩) mK).trans (sU.out o);have Ht:O (Lw w w2):=zT ry.out Hd;clear Hd HC ni sU ry
   go_wp2_with fail
   refine(HW _ Ht.out).mono ?_;rintro en w3 ⟨k,rfl,_,He⟩;obtain⟨y0,y1,y2,y3⟩:=xG He ⟨z0,z1,z2,z3⟩;have yf:∀o,w3.frozen? ⟨w.heap.size,o,I⟩=V:=fun o=>(He.frozen (p:=⟨w.heap.size,o,I⟩) iV).trans (zf o);have rE:O (Lw w w3):=zT Ht.out He;clear He z0 z1 z2 z3 zf HW
   go_wp2
   refine uc (v:=yZ #[yG #[R J 0,R J 0,R J 0,R J 0],R J cc]) ?_ rfl ⟨rfl,fo.out _ (zu rE.out w.heap.size (yS _) _ _ _ _)⟩;simp[results,Tryz.results91,go_sem,y0,y1,y2,y3]
end
section
open Go.Sort
attribute [local go_sem] Loose.gent
theorem xH (w:uv):Lw w w.drew:=(zR w).drew
theorem xz (c:Int) (w:uv):ue kh 54 #[R J c] w fun e w'=>e=kp (Pg.Ev.code c).val/\Lw w w':=by
 go_enter Tryz.func54,Tryz.ntmps54
 go_wp2
 refine uc (v:=(Pg.Ev.code c).val) ?_ rfl ⟨rfl,?_⟩
 ·simp[results,Tryz.results54,go_sem,Pg.Ev.val,Pg.Ev.code]
 ·exact zA (zR w) _
theorem jB (a f r c:Int) (en:Bool) (w:uv):ue kh 92 #[yG #[R J a,R J f,R J r],E en,R J c] w fun e w'=>e=kp (Pg.Ev.val ⟨c,en,a,f,r,V⟩)/\Lw w w':=by
 go_enter Tryz.func92,Tryz.ntmps92
 go_wp2
 refine uc (v:=(Pg.Ev.val ⟨c,en,a,f,r,V⟩)) ?_ rfl ⟨rfl,?_⟩
 ·simp[results,Tryz.results92,go_sem,Pg.Ev.val]
 ·exact zA (zA (zR w) _) _
section
variable {b:Nat} {D:Dsd} {X:Pg.Spc}
theorem qi (k:Int) (w:uv) (h:Dsk w b D X):ue kh 61 #[A (Q ⟨b,0,I⟩),R J k] w fun e w'=>e=kp (E (decide (0<=k)&&decide (k<(X.C.length:Int))))/\w'=w:=by
 have c2:=h.c2;clear h
 by_cases h0:0<=k
 ·have d0:decide (0<=k)=kO:=by simpa using h0
  go_enter Tryz.func61,Tryz.ntmps61
  go_wp2
  go_ret
  exact⟨by simp[h0],rfl⟩
 ·have d0:decide (0<=k)=V:=by simpa using h0
  go_enter Tryz.func61,Tryz.ntmps61
  go_wp2
  go_ret
  exact⟨by simp[h0],rfl⟩
theorem qg (w:uv) (h:Dsk w b D X):ue kh 20 #[A (Q ⟨b,0,I⟩)] w fun e w'=>e=kp (E X.busy)/\w'=w:=by
 have c3:=h.c3;have HO:=ya7 w h.tl;rw[Pg.ykI (by rw[h.len];exact h.le)]at HO;unfold Pg.Spc.busy;generalize X.W.any id=z at*;clear h
 go_enter Tryz.func20,Tryz.ntmps20
 go_wp2_with fail
 refine HO.mono ?_;rintro e w1 ⟨rfl,hw⟩;subst w1
 go_wp2
 go_ret
 exact⟨by simp,rfl⟩
theorem ydK (w:uv) (h:Dsk w b D X):ue kh 21 #[A (Q ⟨b,0,I⟩)] w fun e w'=>e=kp (R J X.S.free)/\Lw w w':=by
 have c0:=h.c0;have HO:=yaW w h.mem;clear h
 go_enter Tryz.func21,Tryz.ntmps21
 go_wp2_with fail
 refine HO.mono ?_;rintro e w1 ⟨rfl,hb⟩;have HB:O _:=hb;clear hb
 go_wp2
 go_ret
 exact⟨rfl,HB.out⟩
theorem ydM (w:uv) (h:Dsk w b D X):ue kh 23 #[A (Q ⟨b,0,I⟩)] w fun e w'=>e=kp (R J X.G.length)/\w'=w:=by
 have c4:=h.c4;clear h
 go_enter Tryz.func23,Tryz.ntmps23
 go_wp2
 go_ret
 exact⟨rfl,rfl⟩
theorem vH (w:uv) (h:Dsk w b D X):ue kh 24 #[A (Q ⟨b,0,I⟩)] w fun e w'=>e=kp (R J X.C.length)/\w'=w:=by
 have c2:=h.c2;clear h
 go_enter Tryz.func24,Tryz.ntmps24
 go_wp2
 go_ret
 exact⟨rfl,rfl⟩
theorem vJ (k:Int) (w:uv) (h:Dsk w b D X):ue kh 25 #[A (Q ⟨b,0,I⟩),R J k] w fun e w'=>e=kp (E (X.waitsOf k))/\w'=w:=by
 have c3:=h.c3;have HO:=jy k w h.tl
 have e:Pg.yip (fun k=>X.W.getD k V) k=X.waitsOf k:=by
  unfold Pg.yip Pg.Spc.waitsOf
  by_cases h0:0<=k
  ·by_cases h4:k<4
   ·simp[h0,h4]
   ·have hl:=h.len
    have h5:=h.le
    have:X.W.length<=k.toNat:=by omega
    rw[List.getD,List.getElem?_eq_none this];simp[h0,h4]
  ·simp[h0]
 rw[e]at HO;generalize X.waitsOf k=z at*;clear h e
 go_enter Tryz.func25,Tryz.ntmps25
 go_wp2_with fail
 refine HO.mono ?_;rintro e w1 ⟨rfl,hw⟩;subst w1
 go_wp2
 go_ret
 exact⟨rfl,rfl⟩
theorem ygF (k:Int) (w:uv) (h:Dsk w b D X):ue kh 26 #[A (Q ⟨b,0,I⟩),R J k] w fun e w'=>∃ad cap,e=kp (un ad (X.linesOf k).length cap)/\qC w' ad (X.linesOf k)/\Lw w w':=by
 have HH:=qi k w h
 by_cases dD:0<=k/\k<(X.C.length:Int)
 ·obtain⟨n,rfl⟩:=yQ dD.1
  have hl:n<X.C.length:=by omega
  have e:X.linesOf (n:Int)=(X.C.getD n Pg.Cr.new).L:=by unfold Pg.Spc.linesOf;rw[iP dD.1,ur]
  rw[e];rw[show(decide (0<=(n:Int))&&decide ((n:Int)<(X.C.length:Int)))=kO by simp[hl]]at HH;obtain⟨bt,bk,Ft,hC,_⟩:=h.core n hl;have HO:=yek w hC.tb;have c2:=h.c2;have cr:=h.row n hl;have k0:=hC.c0
  have i0:(0:Int)<=(n:Int):=by omega
  have i1:(n:Int)<(X.C.length:Int):=by omega
  generalize (X.C.getD n Pg.Cr.new).L=L at*;clear h hC dD e
  go_enter Tryz.func26,Tryz.ntmps26
  go_wp2_with fail
  refine HH.mono ?_;rintro e w1 ⟨rfl,hw⟩;subst w1
  go_wp2_with fail
  refine HO.mono ?_;rintro e w1 ⟨ad,cap,rfl,hA,hb,_⟩;have HF:O (qC w1 ad L/\Lw w w1):=⟨hA,hb⟩;clear hA hb HO
  go_wp2
  go_ret
  exact⟨ad,cap,rfl,HF.out.1,HF.out.2⟩
 ·have e:X.linesOf k=[]:=by
   unfold Pg.Spc.linesOf;split
   ·have:X.C.length<=k.toNat:=by omega
    simp[List.getD,this,Pg.Cr.new]
   ·rfl
  rw[e];rw[show(decide (0<=k)&&decide (k<(X.C.length:Int)))=V by simp;omega]at HH;clear h dD e
  go_enter Tryz.func26,Tryz.ntmps26
  go_wp2_with fail
  refine HH.mono ?_;rintro e w1 ⟨rfl,hw⟩;subst w1
  go_wp2
  go_ret
  exact⟨I,0,rfl,fun j hj=>by simp at hj,zR w⟩
theorem yfF (k:Int) (w:uv) (h:Dsk w b D X):ue kh 15 #[A (Q ⟨b,0,I⟩),R J k] w fun e w'=>e=kp (yZ #[yG #[R J (X.walkOf k).q,R J (X.walkOf k).k,E (X.walkOf k).u],E (X.walkOf k).on])/\Lw w w':=by
 obtain⟨W,hW⟩:=eY (w.alloc (yI #[R J 0,R J 0,E V] 41))
 have hB:Lw w W:=by rw[hW];exact zA (zR _) _
 have HW:=h.grow hB;have HH:=qi k W HW;obtain⟨⟨z0,z1,z2⟩,zf⟩:=ybz (show W.heap[w.heap.size]?=Q (yI #[R J 0,R J 0,E V] 41 (0,0)) by rw[hW];exact yR _ _)
 by_cases dD:0<=k/\k<(X.C.length:Int)
 ·obtain⟨n,rfl⟩:=yQ dD.1
  have hl:n<X.C.length:=by omega
  have e:X.walkOf (n:Int)=(X.C.getD n Pg.Cr.new).K:=by unfold Pg.Spc.walkOf;rw[iP dD.1,ur]
  rw[e];rw[show(decide (0<=(n:Int))&&decide ((n:Int)<(X.C.length:Int)))=kO by simp[hl]]at HH;obtain⟨bt,bk,Ft,hC,hF⟩:=HW.core n hl;have EK:=HW.core n hl;have HA:=fun d os=>ycV _ (hC.grow (below_regrown W d os)).wk;have HO:=fun d os=>qx _ (EK.grow (below_regrown W d os));have c2:=yB HW.c2;have cr:=yB (HW.row n hl);have k1:=yB hC.c1
  have i0:(0:Int)<=(n:Int):=by omega
  have i1:(n:Int)<(X.C.length:Int):=by omega
  have HB:O _:=hB;have hs:w.heap.size<W.heap.size:=U _ _ z0;generalize (X.C.getD n Pg.Cr.new).K=K at*;generalize X.C.length=cl at*;clear h hC EK hF dD e HW hB
  go_enter Tryz.func15,Tryz.ntmps15
  go_upto_region 1 with fail
  rw[<-hW];clear hW
  go_wp2_with fail
  refine HH.mono ?_;rintro e w1 ⟨rfl,hw⟩;subst w1
  go_upto_region 3 with fail
  refine Loose.yhL 19 (by kernel_rfl) (by kernel_rfl) ?_;simp only[yM,yW,yX,yy]
  repeat (
   refine Loose.zS (fun k hk=> ?_)
   go_simp
   first
    | (refine hk _ ?_;clear hk k)
    | (apply Exists.intro
       refine⟨fun _=> ?_,hk _ ?_⟩
       (first
         | (go_at_call 62;exact Loose.calls (HA _ _))
         | (go_at_call 63;exact Loose.yiB (HO _ _)))
       clear hk k))
  refine Loose.yhM ?_;intro w3 He;have y0:=(He.cell (p:=⟨w.heap.size,0,I⟩) hs).trans z0;have y1:=(He.cell (p:=⟨w.heap.size,1,I⟩) hs).trans z1;have y2:=(He.cell (p:=⟨w.heap.size,2,I⟩) hs).trans z2;have yf:∀p,w3.frozen? ⟨w.heap.size,p,I⟩=V:=fun p=>(He.frozen (p:=⟨w.heap.size,p,I⟩) hs).trans (zf p);have dn:w.heap.size<w3.heap.size:=ud hs He.size;have rE:O (Lw w w3):=zT HB.out He;clear He z0 z1 z2 zf HA HO c2 cr k1 HH
  go_wp2
  refine uc (v:=yZ #[yG #[R J K.q,R J K.k,E K.u],E K.on]) ?_ rfl ⟨rfl,?_⟩
  ·simp[results,Tryz.results15,go_sem,y0,y1,y2,dn]
  ·exact qh rE.out _ (yS _) _ _ _
 ·have e:X.walkOf k=Pg.Wk.off:=by
   unfold Pg.Spc.walkOf;split
   ·have:X.C.length<=k.toNat:=by omega
    simp[List.getD,this,Pg.Cr.new]
   ·rfl
  rw[e];rw[show(decide (0<=k)&&decide (k<(X.C.length:Int)))=V by simp;omega]at HH;have HB:O _:=hB;have hs:w.heap.size<W.heap.size:=U _ _ z0;clear h dD e HW hB
  go_enter Tryz.func15,Tryz.ntmps15
  go_upto_region 1 with fail
  rw[<-hW];clear hW
  go_wp2_with fail
  refine HH.mono ?_;rintro e w1 ⟨rfl,hw⟩;subst w1
  go_wp2
  refine uc (v:=yZ #[yG #[R J Pg.Wk.off.q,R J Pg.Wk.off.k,E Pg.Wk.off.u],E Pg.Wk.off.on]) ?_ rfl ⟨rfl,?_⟩
  ·simp[results,Tryz.results15,go_sem,z0,z1,z2,hs,Pg.Wk.off]
  ·exact qh HB.out _ (yS _) _ _ _
theorem jS (w:uv) (h:Dsk w b D X):ue kh 17 #[A (Q ⟨b,0,I⟩)] w fun e w'=>∃ad cap,e=kp (un ad X.maps.length cap)/\zm w' ad X.maps/\Lw w w'/\∀g,ad=Q ⟨g,0,I⟩->w.heap.size<=g:=by
 have c0:=h.c0;have c1:=h.c1;have HL:=yfo 0 w.drew (h.grow (xH w)).mem;have wE:O (Lw w w.drew):=xH w;have rY:b<w.heap.size:=h.lb;have EM:O (X.maps=if (Pg.thr X.S Pg.zW 3 0 0).2=0 then Pg.zM (Pg.thr X.S Pg.zW 3 0 0).1 else []):=rfl;generalize X.maps=M at*;generalize Pg.thr X.S Pg.zW 3 0 0=th at*;clear h
 go_enter Tryz.func17,Tryz.ntmps17
 go_wp2
 go_region_held3 (fun w'=>w'.cell? ⟨b,0,I⟩=Q (A (Q ⟨D.bm,0,I⟩))/\w'.cell? ⟨b,1,I⟩=Q (R J 0)) (go_keep) (
  (go_at_call 64;refine HL.mono ?_;rintro en w4 ⟨ad,cap,L,rfl,eL,hA,hN,De⟩
   have hb:Lw w w4:=zT wE.out De;have u0:w4.cell? ⟨b,0,I⟩=Q (A (Q ⟨D.bm,0,I⟩)):=(hb.cell (p:=⟨b,0,I⟩) rY).trans c0;have u1:w4.cell? ⟨b,1,I⟩=Q (R J 0):=(hb.cell (p:=⟨b,1,I⟩) rY).trans c1;have HF:O ((L=M)/\zm w4 ad L/\Lw w w4/\∀g,ad=Q ⟨g,0,I⟩->w.heap.size<=g):=⟨eL.trans EM.out.symm,hA,hb,hN⟩
   clear eL hA hN hb De))
 all_goals
  go_wp2
  go_ret
  obtain⟨rfl,h1,h2,h3⟩:=HF.out;exact⟨ad,cap,rfl,by first|exact h1|exact h1.below (zR _).drew,by first|exact h2|exact h2.drew,h3⟩
theorem j8 (w:uv) (h:Dsk w b D X):ue kh 19 #[A (Q ⟨b,0,I⟩)] w fun e w'=>∃ad cap,e=kp (un ad X.tabs.length cap)/\zq w' ad X.tabs/\X.tabs.length<=cap/\Lw w w':=by
 have c0:=h.c0;have c1:=h.c1;have HL:=ydf 0 w.drew (h.grow (xH w)).mem;have wE:O (Lw w w.drew):=xH w;have rY:b<w.heap.size:=h.lb;have EM:O (X.tabs=if (Pg.thr X.S Pg.zW 3 0 0).2=0 then 0::Pg.zU (Pg.thr X.S Pg.zW 3 0 0).1 else []):=rfl;generalize X.tabs=M at*;generalize Pg.thr X.S Pg.zW 3 0 0=th at*;clear h
 go_enter Tryz.func19,Tryz.ntmps19
 go_wp2
 go_region_held3 (fun w'=>w'.cell? ⟨b,0,I⟩=Q (A (Q ⟨D.bm,0,I⟩))/\w'.cell? ⟨b,1,I⟩=Q (R J 0)) (go_keep) (
  (go_at_call 65;refine HL.mono ?_;rintro en w4 ⟨ad,cap,L,rfl,eL,hA,hN,De⟩
   have hb:Lw w w4:=zT wE.out De;have u0:w4.cell? ⟨b,0,I⟩=Q (A (Q ⟨D.bm,0,I⟩)):=(hb.cell (p:=⟨b,0,I⟩) rY).trans c0;have u1:w4.cell? ⟨b,1,I⟩=Q (R J 0):=(hb.cell (p:=⟨b,1,I⟩) rY).trans c1;have HF:O ((L=M)/\zq w4 ad L/\Lw w w4/\L.length<=cap):=⟨eL.trans EM.out.symm,hA,hb,hN⟩
   clear eL hA hN hb De))
 all_goals
  go_wp2
  go_ret
  obtain⟨rfl,h1,h2,h3⟩:=HF.out;exact⟨ad,cap,rfl,by first|exact h1|exact h1.below (zR _).drew,h3,by first|exact h2|exact h2.drew⟩
end
theorem Pg.yka:∀(G:List Int) (x:Int) (S:Pg.Fs),Pg.gives (G++[x]) S=(Pg.gives G S).give x
 | [],x,S=>rfl
 | y::G,x,S=>Pg.yka G x (S.give y)
theorem Pg.gives_upto (G:List Int) (S:Pg.Fs) {t:Nat} (ht:t<G.length):Pg.gives (G.take (t+1)) S=(Pg.gives (G.take t) S).give (G.getD t 0):=by
 rw[show G.take (t+1)=G.take t++[G.getD t 0]from by rw[List.take_succ_eq_append_getElem ht];simp[List.getD,ht],Pg.yka]
theorem ybL (w:uv) (r:Nat) (x0 x1 x2 x3 x4 x5:yU):But (fun x=>x=r) w ((((((w.setCell ⟨r,0,I⟩ x0).setCell ⟨r,1,I⟩ x1).setCell ⟨r,2,I⟩ x2).setCell ⟨r,3,I⟩ x3).setCell ⟨r,4,I⟩ x4).setCell ⟨r,5,I⟩ x5):=qH (But.refl (fun x=>x=r) w) r (.inr rfl) _ _ _ _ _ _
structure zi (w:uv) (b:Nat) (D:Dsd) (X X':Pg.Spc) (w':uv):Prop where
 ex:∃D',Dsk w' b D' X'/\But (dsF D b X.C.length X.G) w w'/\∀x,dsF D' b X'.C.length X'.G x->dsF D b X.C.length X.G x\/w.heap.size<=x
section
variable {w w' W W' Wf:uv} {b:Nat} {D D':Dsd} {X X' Es:Pg.Spc}
theorem zi.same (h:Dsk w b D X) (hb:Lw w w'):zi w b D X X w':=⟨D,h.grow hb,But.yhJ hb,fun x hx=> .inl hx⟩
theorem zi.behind {Y:Nat->Prop} (hB:Lw w W) (h:zi W b D X X' W') (lt:∀x,dsF D b X.C.length X.G x->x<w.heap.size) (hY:∀x,Y x->w.heap.size<=x/\x<W.heap.size) (hb:But Y W' Wf):zi w b D X X' Wf:=by
 obtain⟨D',h1,h3,h4⟩:=h;refine⟨D',h1.keep hb (fun x hx hy=> ?_),((But.yhJ hB).trans h3 (fun _ _ h=>h)).trans hb (fun x hx hy=>by have:=hY x hy;omega),fun x hx=>(h4 x hx).imp id (fun h=>by have:=hB.size;omega)⟩;have:=hY x hy;rcases h4 x hx with h|h
 ·have:=lt x h
  omega
 ·omega
theorem zi.block (h:zi W b D X X' W') (lt:∀x,dsF D b X.C.length X.G x->x<w.heap.size) {r:Nat} (h1:w.heap.size<=r) (h2:r<W.heap.size):W'.heap[r]?=W.heap[r]?/\r<W'.heap.size:=by
 obtain⟨D',_,h3,_⟩:=h;exact⟨h3.block r h2 (fun e=>by have:=lt r e;omega),ud h2 h3.size⟩
theorem zi.next (h3:But (dsF D b X.C.length X.G) w W) (h4:∀x,dsF D' b X'.C.length X'.G x->dsF D b X.C.length X.G x\/w.heap.size<=x) (h':zi W b D' X' Es Wf):zi w b D X Es Wf:=by
 obtain⟨Wd,k1,k3,k4⟩:=h';refine⟨Wd,k1,h3.trans k3 (fun x hx e=> ?_),fun x hx=> ?_⟩
 ·rcases h4 x e with h|h
  ·exact h
  ·omega
 ·have:=h3.size
  rcases k4 x hx with h|h
  ·exact h4 x h
  ·exact .inr (by omega)
end
theorem Dsk.owns {w:uv} {b:Nat} {D:Dsd} {X:Pg.Spc} (h:Dsk w b D X):∀x,dsF D b X.C.length X.G x->x<w.heap.size:=fun x ⟨i,hx⟩=>h.lt hx
theorem ydL {b:Nat} {D:Dsd} {X:Pg.Spc} (w:uv) (h:Dsk w b D X):
 ue kh 149 #[A (Q ⟨b,0,I⟩)] w fun e w'=>e=kp (yZ #[])/\zi w b D X {X with S:=Pg.gives X.G X.S,G:=[]} w':=by
 have c4:=h.c4;have HX:O _:=h;have hfew:=h.few;clear h
 go_enter Tryz.func149,Tryz.ntmps149
 go_wp2
 go_loopw [9,3] (fun i _ wq=>∃t:Nat,t<=X.G.length/\i=R J t/\O (∃FM,Dsk wq b {D with FM:=FM} {X with S:=Pg.gives (X.G.take t) X.S}/\But (dsF D b X.C.length X.G) w wq/\∀x,dsF {D with FM:=FM} b X.C.length X.G x->dsF D b X.C.length X.G x\/w.heap.size<=x)) (fun i _ _=>X.G.length-(intOf i).toNat)
 case atStart=>exact⟨0,by omega,rfl,⟨D.FM,HX.out,But.refl _ _,fun x hx=> .inl hx⟩⟩
 case round=>
  obtain⟨t,ht,rfl,HR⟩:=hrel;obtain⟨FM,hd,hb,hF⟩:=HR.out;have HD:O _:=hd;have HB:O _:=hb;have HF:O _:=hF;clear HR hd hb hF c4
  have i0:(0:Int)<=(t:Int):=by omega
  by_cases Hf:t<X.G.length
  ·have i1:(t:Int)<(X.G.length:Int):=by omega
   have k4:=HD.out.c4;have k0:=HD.out.c0;obtain⟨g,eg,hgl,gB⟩:=HD.out.gone t Hf;simp only at eg k4 k0 gB;rw[eg]at k4;have HG:=ydQ (X.G.getD t 0) wr HD.out.mem;simp only at HG;rw[<-Pg.gives_upto X.G X.S Hf]at HG;generalize X.G.getD t 0=gv at*;generalize (Pg.gives (X.G.take t) X.S).has gv=hv at*;rw[eg]
   go_wp2_with fail
   refine HG.mono ?_;rintro e w2 ⟨rfl,Wi,sD,Hd,sW⟩;have D2:=HD.out.frames sD Hd sW
   have HN:O (∃FM,Dsk w2 b {D with FM:=FM} {X with S:=Pg.gives (X.G.take (t+1)) X.S}/\But (dsF D b X.C.length X.G) w w2/\∀x,dsF {D with FM:=FM} b X.C.length X.G x->dsF D b X.C.length X.G x\/w.heap.size<=x):=by
    refine⟨Wi,D2,HB.out.trans Hd (fun x hx e=> ?_),fun x hx=> ?_⟩
    ·rcases HF.out x ⟨1,e⟩with h|h
     ·exact h
     ·omega
    ·have hs:=HB.out.size
     rcases qy (D:={D with FM:=FM}) sW x hx with h|h
     ·exact HF.out x h
     ·exact .inr (by omega)
   clear sD Hd sW D2 HG HD HB HF k4 k0 gB
   go_wp2
   go_roundw
   case rel=>exact⟨t+1,by omega,by go_num,by rw[<-eg];exact HN⟩
   case measure=>simp[intOf];omega
  ·have i1:¬(t:Int)<(X.G.length:Int):=by omega
   have et:t=X.G.length:=by omega
   subst et;have k4:=HD.out.c4;have kf:=HD.out.fb;have hl:=HD.out.lb;obtain⟨D5,B5⟩:=HD.out.goes (G:=[]) (ag:=I) (cg:=0) (fun j hj=>by simp at hj) (fun g e=>by cases e) (by simp);simp only[yH,List.take_length]at D5 B5
   have FIN:O (zi w b D X {X with S:=Pg.gives X.G X.S,G:=[]} (wr.setCell ⟨b,4,I⟩ (un I 0 0))):=by
    refine⟨_,D5,HB.out.trans B5 (fun x hx e=>⟨0,e⟩),fun x hx=> ?_⟩;rcases yfD (D:={D with FM:=FM}) (G:=X.G) (N:=w.heap.size) (fun x _ e=>absurd rfl e) x hx with h|h
    ·exact HF.out x h
    ·exact .inr h
   clear D5 B5 HD HB HF;simp only at k4
   go_wp2
   go_end0
   exact⟨rfl,FIN.out⟩
theorem ycO {b:Nat} {root:Int} {C:Pg.Cr} {F:Nat->Prop} (w:uv) (h:qq w b root C F):
 ue kh 96 #[A (Q ⟨b,0,I⟩)] w fun e w'=>e=kp (if C.L=[]then Pg.Ev.code 9 else Pg.Ev.code 0).val/\∃F',qq w' b root C.yiy F'/\But F w w'/\∀k,F' k->F k\/w.heap.size<=k:=by
 obtain⟨W,hW⟩:=eY (w.alloc (yI #[R J 0,E V,R J 0,R J 0,R J 0,E V] 36))
 have hB:Lw w W:=by rw[hW];exact zA (zR _) _
 have rU:w.heap.size<W.heap.size:=by rw[hW];simp
 have RZ:O (W.heap[w.heap.size]?=Q (yI #[R J 0,E V,R J 0,R J 0,R J 0,E V] 36 (0,0))):=by rw[O,hW];exact yR _ _
 have LT:O (∀x,F x->x<w.heap.size):=fun x hx=>h.lt hx;obtain⟨bt,bk,Ft,hk,rfl⟩:=h;have HK:O _:=hk.grow hB;have HE:=yad W HK.out.tb;have k0:=HK.out.c0;have HB:O _:=hB;clear hB hk;obtain⟨L,K⟩:=C;simp only[Pg.Cr.yiy]at*
 have fin:O (∀w1 nN Wf,jM w1 bt 0 (L.drop 1) nN->But Ft W w1->(∀k,nN k->Ft k\/W.heap.size<=k)->But (fun x=>x=w.heap.size\/w1.heap.size<=x) w1 Wf->∃F',qq Wf b root ⟨L.drop 1,K⟩ F'/\But (crF b bk Ft) w Wf/\∀k,F' k->crF b bk Ft k\/w.heap.size<=k):=fun w1 nN Wf ht hb hF hf=>by
  have h1:=HK.out.stepT ht hb hF
  have own:∀k,crF b bk nN k->crF b bk Ft k\/W.heap.size<=k:=fun k hk=>by
   rcases hk with hk|hk|hk
   ·exact .inl (.inl hk)
   ·exact .inl (.inr (.inl hk))
   ·exact(hF k hk).imp (fun h=> .inr (.inr h)) id
  refine⟨_,⟨bt,bk,nN,h1.keep hf (fun k hk e=> ?_),rfl⟩,((But.yhJ HB.out).trans hb (fun _ _ h=> .inr (.inr h))).trans hf (fun x hx e=> ?_),fun k hk=>(own k hk).imp id (fun h=>by omega)⟩
  ·have:=h1.lt hk
   rcases own k hk with h|h
   ·have:=LT.out k h
    omega
   ·omega
  ·have:=hb.size
   omega
 cases L with
 | nil=>
   simp only[yH,List.drop_nil,Nat.lt_irrefl,decide_false,if_true]at HE fin ⊢
   go_enter Tryz.func96,Tryz.ntmps96
   go_upto_region 1 with fail
   rw[<-hW];clear hW
   go_wp2_with fail
   refine HE.mono ?_;rintro e w1 ⟨rfl,nN,ht,hc,hF⟩;have Z1:O (w1.heap[w.heap.size]?=_):=(hc.but.block _ rU (fun e=>by have:=LT.out _ (.inr (.inr e));omega)).trans RZ.out;have rG:w.heap.size<w1.heap.size:=ud rU hc.but.size;have FIN:O _:=fun Wf=>fin.out w1 nN Wf ht hc.but hF;clear ht hc hF HE k0 fin
   go_wp2_with fail
   refine(xz 9 _).mono ?_;rintro e w2 ⟨rfl,Hd⟩;obtain⟨⟨z0,z1,z2,z3,z4,z5⟩,zf⟩:=zE ((Hd.block _ rG).trans Z1.out);have pJ:w.heap.size<w2.heap.size:=ud rG Hd.size;have Ht:O _:=Hd;clear Hd;simp only[Pg.Ev.val,Pg.Ev.code]
   go_wp2
   refine uc (v:=(Pg.Ev.code 9).val) ?_ rfl ⟨rfl,FIN.out _ ?_⟩
   ·simp[results,Tryz.results96,go_sem,z0,z1,z2,z3,z4,z5,pJ,Pg.Ev.val,Pg.Ev.code]
   ·exact qH ((But.yhJ Ht.out).mono (fun _ _ h=>h)) _ (.inr (.inl rfl)) _ _ _ _ _ _
 | cons l L=>
   simp only[yK,Nat.zero_lt_succ,decide_true,reduceCtorEq,if_false]at HE fin ⊢
   go_enter Tryz.func96,Tryz.ntmps96
   go_upto_region 1 with fail
   rw[<-hW];clear hW
   go_wp2_with fail
   refine HE.mono ?_;rintro e w1 ⟨rfl,nN,ht,hc,hF⟩;have Z1:O (w1.heap[w.heap.size]?=_):=(hc.but.block _ rU (fun e=>by have:=LT.out _ (.inr (.inr e));omega)).trans RZ.out;have rG:w.heap.size<w1.heap.size:=ud rU hc.but.size;have FIN:O _:=fun Wf=>fin.out w1 nN Wf ht hc.but hF;clear ht hc hF HE k0 fin;obtain⟨⟨z0,z1,z2,z3,z4,z5⟩,zf⟩:=zE Z1.out
   go_wp2
   refine uc (v:=(Pg.Ev.code 0).val) ?_ rfl ⟨rfl,FIN.out _ ?_⟩
   ·simp[results,Tryz.results96,go_sem,z0,z1,z2,z3,z4,z5,rG,Pg.Ev.val,Pg.Ev.code]
   ·exact qH (But.refl _ _) _ (.inr (.inl rfl)) _ _ _ _ _ _
def Pg.Spc.tld (X:Pg.Spc) (k:Nat):Pg.Spc:={X with C:=X.C.set k ((X.C.getD k Pg.Cr.new).told 0 X.T),W:=X.W.set k V}
theorem ygy {w:uv} {r:Nat} {v0 v1 v2 v3:yU} {t:TypeId} (h:w.heap[r]?=Q (yI #[v0,v1,v2,v3] t (0,0))):
 (w.cell? ⟨r,0,I⟩=Q v0/\w.cell? ⟨r,1,I⟩=Q v1/\w.cell? ⟨r,2,I⟩=Q v2/\w.cell? ⟨r,3,I⟩=Q v3)/\∀i,w.frozen? ⟨r,i,I⟩=V:=
 ⟨by simp[World.cell?,h],fun i=>by simp[World.frozen?,h]⟩
theorem ydG {b:Nat} {D:Dsd} {X:Pg.Spc} {k:Nat} (hk:k<X.C.length) (hw:X.W.getD k V=V) (w:uv) (h:Dsk w b D X):
 ue kh 95 #[A (Q ⟨b,0,I⟩),R J (k:Int)] w fun e w'=>e=kp (Pg.Ev.code 9).val/\Lw w w':=by
 obtain⟨W,hW⟩:=eY (w.alloc (yI #[R J 0,E V,R J 0,R J 0,R J 0,E V] 36))
 have hB:Lw w W:=by rw[hW];exact zA (zR _) _
 have rU:w.heap.size<W.heap.size:=by rw[hW];simp
 have RZ:O (W.heap[w.heap.size]?=Q (yI #[R J 0,E V,R J 0,R J 0,R J 0,E V] 36 (0,0))):=by rw[O,hW];exact yR _ _
 have HW:=h.grow hB;have c3:=HW.c3;have HA:=yf3 (k:Int) W HW.tl (by unfold Pg.yip;simp only[ur];rw[hw];simp);simp only[Pg.Mp.val,Pg.Mp.zz]at HA;have HB:O _:=hB;clear h HW hw hB
 go_enter Tryz.func95,Tryz.ntmps95
 go_upto_region 1 with fail
 rw[<-hW];clear hW
 go_wp2_with fail
 refine HA.mono ?_;rintro e w1 ⟨rfl,Ha⟩;have ry:O (Lw w w1):=zT HB.out Ha;have Z1:O (w1.heap[w.heap.size]?=_):=(Ha.block _ rU).trans RZ.out;have rG:w.heap.size<w1.heap.size:=ud rU Ha.size;clear Ha HA c3
 go_wp2_with fail
 refine(xz 9 _).mono ?_;rintro e w2 ⟨rfl,Hd⟩;have He:=zA (zR w1) (yI #[R J 0,R J 0,R J 0,R J 0] 39);obtain⟨⟨z0,z1,z2,z3,z4,z5⟩,zf⟩:=zE ((Hd.block _ (by simp;omega)).trans ((He.block _ rG).trans Z1.out))
 have pJ:w.heap.size<w2.heap.size:=by have:=Hd.size;simp at this;omega
 have Ht:O (Lw w w2):=zT (zT ry.out He) Hd;clear Hd He;simp only[Pg.Ev.val,Pg.Ev.code]
 go_wp2
 refine uc (v:=(Pg.Ev.code 9).val) ?_ rfl ⟨rfl,?_⟩
 ·simp[results,Tryz.results95,go_sem,z0,z1,z2,z3,z4,z5,pJ,Pg.Ev.val,Pg.Ev.code]
 ·exact vn Ht.out _ (yS _) _ _ _ _ _ _
theorem ydH {b:Nat} {D:Dsd} {X:Pg.Spc} {k:Nat} (hk:k<X.C.length) (hw:X.W.getD k V=kO) (w:uv) (h:Dsk w b D X):
 ue kh 95 #[A (Q ⟨b,0,I⟩),R J (k:Int)] w fun e w'=>e=kp (X.akE k).val/\zi w b D X (X.akN k) w':=by
 obtain⟨W,hW⟩:=eY (w.alloc (yI #[R J 0,E V,R J 0,R J 0,R J 0,E V] 36))
 have hB:Lw w W:=by rw[hW];exact zA (zR _) _
 have rU:W.heap.size=w.heap.size+1:=by rw[hW];simp
 have RZ:O (W.heap[w.heap.size]?=Q (yI #[R J 0,E V,R J 0,R J 0,R J 0,E V] 36 (0,0))):=by rw[O,hW];exact yR _ _
 have LT:O (∀x,dsF D b X.C.length X.G x->x<w.heap.size):=h.owns;have HW:O _:=h.grow hB;have c3:=HW.out.c3
 have nz:k<4:=by have:=h.le;omega
 have HA:=yff k W HW.out.tl nz hw;rw[Pg.ack_waits' (by rw[h.len];exact hk)]at HA;have wR:O (X.W.getD k V=kO):=hw;have NV:O (X.W.length=X.C.length):=h.len;have ib:O (Pg.fits X.T.p):=h.told;have HB:O _:=hB;clear h hw hB;simp only[Pg.Mp.val]at HA
 go_enter Tryz.func95,Tryz.ntmps95
 go_upto_region 1 with fail
 rw[<-hW];clear hW
 go_wp2_with fail
 refine HA.mono ?_;rintro e w1 ⟨rfl,rG,Ha⟩;have P1:O (Dsk w1 b D {X with W:=X.W.set k V}):=HW.out.shot rG Ha (by rw[yL];exact NV.out) ib.out;have ol:D.bs<w.heap.size:=LT.out _ ⟨3,rfl⟩;have Z1:O (w1.heap[w.heap.size]?=_):=(Ha.block _ (by omega) (fun e=>by omega)).trans RZ.out;have B1:O (But (dsF D b X.C.length X.G) W w1):=Ha.mono (fun x _ e=>⟨3,e⟩)
 have tJ:w.heap.size<w1.heap.size:=by have:=Ha.size;omega
 clear rG Ha HA c3 HW;obtain⟨W2,Hy⟩:=eY (w1.alloc (yI #[R J X.T.p,R J X.T.s,R J X.T.f,R J X.T.r] 39))
 have Hd:Lw w1 W2:=by rw[Hy];exact zA (zR _) _
 have P2:O _:=P1.out.grow Hd;have Z2:O (W2.heap[w.heap.size]?=_):=(Hd.block _ tJ).trans Z1.out;have B2:O (But (dsF D b X.C.length X.G) W W2):=B1.out.trans (But.yhJ (F:=fun _=>False) Hd) (fun _ _ h=>h.elim);have rX:w.heap.size<W2.heap.size:=ud tJ Hd.size;obtain⟨⟨m0,m1,m2,m3⟩,mf⟩:=ygy (show W2.heap[w1.heap.size]?=Q (yI #[R J X.T.p,R J X.T.s,R J X.T.f,R J X.T.r] 39 (0,0)) by rw[Hy];exact yR _ _);have q0:=yB m0;have q1:=yB m1;have q2:=yB m2;have q3:=yB m3;have g2:=yB P2.out.c2;have gk:=yB (P2.out.row k hk);simp only at g2 gk
 have i0:(0:Int)<=(k:Int):=by omega
 have i1:(k:Int)<(X.C.length:Int):=by omega
 go_upto_region 4 with fail
 rw[<-Hy];clear Hy Hd P1 Z1 B1 tJ m0 m1 m2 m3 mf;generalize w1.heap.size=mb at*;refine Loose.yhL 8 (by kernel_rfl) (by kernel_rfl) ?_;simp only[yM,yW,yX,yy]
 repeat (
  refine Loose.zS (fun k hk=> ?_)
  go_simp
  (refine hk _ ?_;clear hk k))
 refine Loose.yhM ?_;intro w3 He;have P3:O _:=P2.out.grow He;have Z3:O (w3.heap[w.heap.size]?=_):=(He.block _ rX).trans Z2.out;have B3:O (But (dsF D b X.C.length X.G) W w3):=B2.out.trans (But.yhJ (F:=fun _=>False) He) (fun _ _ h=>h.elim);have Dy:w.heap.size<w3.heap.size:=ud rX He.size;have HT:=ydz X.T ib.out w3 (P3.out.core k hk);simp only[Pg.Mp.val]at HT;clear He q0 q1 q2 q3 g2 gk P2 Z2 B2 rX
 go_wp2_with fail
 refine HT.mono ?_;rintro e w4 ⟨rfl,Fc,dB,Hl,fP⟩;have PD:But (D.cF k) w3 w4:=Hl;have n4:(X.tld k).C.length=X.C.length:=yL
 have D4:O (zi W b D X (X.tld k) w4):=by
  refine⟨_,P3.out.asked hk dB Hl fP,B3.out.trans Hl (fun x _ e=>⟨k+5,hk,e⟩),fun x hx=> ?_⟩;rw[n4]at hx;exact(ybU hk fP x hx).imp id (fun h=>by have:=B3.out.size;omega)
 have Z4:O (w4.heap[w.heap.size]?=_):=(Hl.block _ Dy (fun e=>by have:=LT.out _ ⟨k+5,hk,e⟩;omega)).trans Z3.out;have Ck:w.heap.size<w4.heap.size:=ud Dy Hl.size;obtain⟨D',P4,B4,F4⟩:=D4.out;have P4:O _:=P4;have B4:O _:=B4;have F4:O _:=F4;have bO:=qg w4 P4.out;have eb:(X.tld k).busy=(X.W.set k V).any id:=rfl;rw[eb]at bO;clear dB Hl fP HT P3 B3 Z3 Dy;cases sZ:(X.W.set k V).any id
 ·rw[sZ]at bO
  have eE:X.akE k=⟨0,V,0,0,0,kO⟩:=by
   unfold Pg.Spc.akE;rw[ur,iN (by rw[wR.out];decide),iN (by rw[sZ];decide)]
  have eN:X.akN k={X.tld k with S:=Pg.gives X.G X.S,G:=[]}:=by
   unfold Pg.Spc.akN;rw[ur,iN (by rw[wR.out];decide),iN (by rw[sZ];decide)];unfold Pg.Spc.tld Pg.Spc.at';rw[ur]
  have HE:O _:=eE;have HN:O _:=eN;have HG:=ydL w4 P4.out;clear eE eN sZ
  go_wp2_with fail
  refine bO.mono ?_;rintro e w5 ⟨rfl,UR⟩;subst w5
  go_wp2_with fail
  refine HG.mono ?_;rintro e w6 ⟨rfl,d6⟩;have D6:O (zi W b D X {X.tld k with S:=Pg.gives X.G X.S,G:=[]} w6):=zi.next B4.out F4.out d6;obtain⟨e6,RI⟩:=D6.out.block (w:=w) LT.out (yS _) (by omega);obtain⟨⟨z0,z1,z2,z3,z4,z5⟩,zf⟩:=zE (e6.trans RZ.out)
  have FIN:O (∀Wf,But (fun x=>x=w.heap.size) w6 Wf->zi w b D X (X.akN k) Wf):=fun Wf hb=>by
   rw[HN.out];exact D6.out.behind HB.out LT.out (fun x e=>by omega) hb
  clear d6 HG bO e6 D6 D4 Z4 P4 B4 F4
  go_wp2
  refine uc (v:=(X.akE k).val) ?_ rfl ⟨rfl,FIN.out _ ?_⟩
  ·simp[results,Tryz.results95,go_sem,z0,z1,z2,z3,z4,z5,RI,Pg.Ev.val,HE.out]
  ·exact ybL _ _ _ _ _ _ _ _
 ·rw[sZ]at bO
  have eE:X.akE k= .code 0:=by
   unfold Pg.Spc.akE;rw[ur,iN (by rw[wR.out];decide),iP sZ]
  have eN:X.akN k=X.tld k:=by
   unfold Pg.Spc.akN;rw[ur,iN (by rw[wR.out];decide),iP sZ];unfold Pg.Spc.tld Pg.Spc.at';rw[ur]
  have HE:O _:=eE;have HN:O _:=eN;clear eE eN sZ
  go_wp2_with fail
  refine bO.mono ?_;rintro e w5 ⟨rfl,UR⟩;subst w5;obtain⟨⟨z0,z1,z2,z3,z4,z5⟩,zf⟩:=zE Z4.out
  have FIN:O (∀Wf,But (fun x=>x=w.heap.size) w4 Wf->zi w b D X (X.akN k) Wf):=fun Wf hb=>by
   rw[HN.out];exact D4.out.behind HB.out LT.out (fun x e=>by omega) hb
  clear bO D4 P4 B4 F4
  go_wp2
  refine uc (v:=(X.akE k).val) ?_ rfl ⟨rfl,FIN.out _ ?_⟩
  ·simp[results,Tryz.results95,go_sem,z0,z1,z2,z3,z4,z5,Ck,Pg.Ev.val,Pg.Ev.code,HE.out]
  ·exact ybL _ _ _ _ _ _ _ _
theorem yeE {b:Nat} {D:Dsd} {X:Pg.Spc} {k:Nat} (hk:k<X.C.length) (w:uv) (h:Dsk w b D X):
 ue kh 95 #[A (Q ⟨b,0,I⟩),R J (k:Int)] w fun e w'=>e=kp (X.akE k).val/\zi w b D X (X.akN k) w':=by
 cases hw:X.W.getD k V
 ·have e1:X.akE k= .code 9:=by unfold Pg.Spc.akE;rw[ur,iP hw]
  have e2:X.akN k=X:=by unfold Pg.Spc.akN;rw[ur,iP hw]
  rw[e1,e2];refine(ydG hk hw w h).mono ?_;rintro e w' ⟨rfl,hb⟩;exact⟨rfl,.same h hb⟩
 ·exact ydH hk hw w h
end
section
open Go.Sort
namespace St
variable {w0 w w':uv} {k b:Nat} {F0:Nat->Prop} {S:Pg.Fs} {lv:Int} {e:Pg.En} {ts ps:List Int} {p:Int}
end St
theorem Mk.push1 {w w3 W:uv} {B k b:Nat} {lv:Int} {e:Pg.En} {v1 v2:yU} {ts ps:List Int} {p:Int} (h:Mk w B k b lv e v1 v2 ts ps p) (hB:B<=w.heap.size) (hW:Lw w W) (hg:W.grownBy w3 v1.ownBlock) {g cap:Nat} (hat:v1.ownBlock=Q g\/w.heap.size<=g) (x:Int)
 (ho:w3.ownsRow B 3 1 (un (Q ⟨g,0,I⟩) (ts.length+1) cap) (ts.length+1) (xn ts++[R J x])):
 Mk (w3.setCell ⟨k,8,I⟩ (un (Q ⟨g,0,I⟩) (ts.length+1) cap)) B k b lv e (un (Q ⟨g,0,I⟩) (ts.length+1) cap) v2 (ts++[x]) ps p/\But (fun j=>j=k\/v1.ownBlock=Q j) w (w3.setCell ⟨k,8,I⟩ (un (Q ⟨g,0,I⟩) (ts.length+1) cap))/\∀j,mkF k (un (Q ⟨g,0,I⟩) (ts.length+1) cap) v2 j->mkF k v1 v2 j\/w.heap.size<=j:=by
 have bH:=h.lb;have b1:But (fun j=>v1.ownBlock=Q j) w w3:=(But.yhJ hW).grown hg fun k hk=> .inr hk
 have Di:g≠k:=by
  rcases hat with hat|hat
  ·exact fun e=>h.n1 (e▸hat)
  ·omega
 have fV:∀j,g=j->v2.ownBlock≠Q j:=by
  rintro j rfl;rcases hat with hat|hat
  ·exact h.ne g hat
  ·exact fun e=>by have:=(h.o2.lt g e).2;omega
 have bG:w3.heap[k]?=w.heap[k]?:=b1.block k bH h.n1
 have c:∀{o:Nat} {v:yU},o≠8->w.cell? ⟨k,o,I⟩=Q v->(w3.setCell ⟨k,8,I⟩ (un (Q ⟨g,0,I⟩) (ts.length+1) cap)).cell? ⟨k,o,I⟩=Q v:=fun{o v} ho e=>
  (yN _ _ _ _ (fun e=>ho (by injection e with _ e;exact e.symm))).trans ((ki bG).trans e)
 have b2:But (fun j=>j=k\/v1.ownBlock=Q j) w (w3.setCell ⟨k,8,I⟩ (un (Q ⟨g,0,I⟩) (ts.length+1) cap)):=(b1.mono fun _ _ h=> .inr h).setCell (a:=⟨k,8,I⟩) (.inr (.inl rfl)) _;refine⟨⟨c (by decide) h.c0,c (by decide) h.c1,c (by decide) h.c2,c (by decide) h.c3,c (by decide) h.c4,c (by decide) h.c5,c (by decide) h.c6,c (by decide) h.c7,yT _ _ _ ((ki bG).trans h.c8),c (by decide) h.c9,c (by decide) h.c10,fun o=>by rw[yO];exact(ua bG).trans (h.fz o),?_,?_,fun j hj=>fV j (by simpa[yJ]using hj),fun e=>Di (by simpa[yJ]using e),h.n2,h.hi⟩,b2,fun j hj=> ?_⟩
 ·have e1:xn (ts++[x])=xn ts++[R J x]:=by simp[xn]
  rw[yV,yC,e1];exact zb ho fun j hj=>yF _ _ _ _ fun e=>Di ((by simpa[yJ]using hj:g=j).trans e)
 ·exact zc h.o2 b2 fun j hj e=>by
   rcases e with e|e
   ·exact h.n2 (e▸hj)
   ·exact h.ne j e hj
 ·rcases hj with hj|hj|hj
  ·exact .inl (.inl hj)
  ·have:g=j:=by simpa[yJ]using hj
   subst this;exact hat.imp (fun e=> .inr (.inl e)) id
  ·exact .inl (.inr (.inr hj))
theorem Mk.push2 {w w3 W:uv} {B k b:Nat} {lv:Int} {e:Pg.En} {v1 v2:yU} {ts ps:List Int} {p:Int} (h:Mk w B k b lv e v1 v2 ts ps p) (hB:B<=w.heap.size) (hW:Lw w W) (hg:W.grownBy w3 v2.ownBlock) {g cap:Nat} (hat:v2.ownBlock=Q g\/w.heap.size<=g) (x:Int)
 (ho:w3.ownsRow B 3 1 (un (Q ⟨g,0,I⟩) (ps.length+1) cap) (ps.length+1) (xn ps++[R J x])):
 Mk (w3.setCell ⟨k,9,I⟩ (un (Q ⟨g,0,I⟩) (ps.length+1) cap)) B k b lv e v1 (un (Q ⟨g,0,I⟩) (ps.length+1) cap) ts (ps++[x]) p/\But (fun j=>j=k\/v2.ownBlock=Q j) w (w3.setCell ⟨k,9,I⟩ (un (Q ⟨g,0,I⟩) (ps.length+1) cap))/\∀j,mkF k v1 (un (Q ⟨g,0,I⟩) (ps.length+1) cap) j->mkF k v1 v2 j\/w.heap.size<=j:=by
 have bH:=h.lb;have b1:But (fun j=>v2.ownBlock=Q j) w w3:=(But.yhJ hW).grown hg fun k hk=> .inr hk
 have Di:g≠k:=by
  rcases hat with hat|hat
  ·exact fun e=>h.n2 (e▸hat)
  ·omega
 have fV:v1.ownBlock≠Q g:=by
  rcases hat with hat|hat
  ·exact fun e=>h.ne g e hat
  ·exact fun e=>by have:=(h.o1.lt g e).2;omega
 have bG:w3.heap[k]?=w.heap[k]?:=b1.block k bH h.n2
 have c:∀{o:Nat} {v:yU},o≠9->w.cell? ⟨k,o,I⟩=Q v->(w3.setCell ⟨k,9,I⟩ (un (Q ⟨g,0,I⟩) (ps.length+1) cap)).cell? ⟨k,o,I⟩=Q v:=fun{o v} ho e=>
  (yN _ _ _ _ (fun e=>ho (by injection e with _ e;exact e.symm))).trans ((ki bG).trans e)
 have b2:But (fun j=>j=k\/v2.ownBlock=Q j) w (w3.setCell ⟨k,9,I⟩ (un (Q ⟨g,0,I⟩) (ps.length+1) cap)):=(b1.mono fun _ _ h=> .inr h).setCell (a:=⟨k,9,I⟩) (.inr (.inl rfl)) _;refine⟨⟨c (by decide) h.c0,c (by decide) h.c1,c (by decide) h.c2,c (by decide) h.c3,c (by decide) h.c4,c (by decide) h.c5,c (by decide) h.c6,c (by decide) h.c7,c (by decide) h.c8,yT _ _ _ ((ki bG).trans h.c9),c (by decide) h.c10,fun o=>by rw[yO];exact(ua bG).trans (h.fz o),?_,?_,fun j hj e=>fV (by have:g=j:=(by simpa[yJ]using e);rw[this];exact hj),h.n1,fun e=>Di (by simpa[yJ]using e),h.hi⟩,b2,fun j hj=> ?_⟩
 ·exact zc h.o1 b2 fun j hj e=>by
   rcases e with e|e
   ·exact h.n1 (e▸hj)
   ·exact h.ne j hj e
 ·have e1:xn (ps++[x])=xn ps++[R J x]:=by simp[xn]
  rw[yV,yC,e1];exact zb ho fun j hj=>yF _ _ _ _ fun e=>Di ((by simpa[yJ]using hj:g=j).trans e)
 ·rcases hj with hj|hj|hj
  ·exact .inl (.inl hj)
  ·exact .inl (.inr (.inl hj))
  ·have:g=j:=by simpa[yJ]using hj
   subst this;exact hat.imp (fun e=> .inr (.inr e)) id
theorem St.step {w0 w w':uv} {B k b:Nat} {F0 F:Nat->Prop} {S:Pg.Fs} {lv DF:Int} {e e':Pg.En} {ts ts' ps ps':List Int} {p p':Int} {v1 v2 Od Oe:yU} {G:Nat->Prop} (hM:Mk w B k b lv e v1 v2 ts ps p) (hF:zh w b S F) (hB:But F0 w0 w) (h1:∀j,F j->F0 j\/w0.heap.size<=j) (h2:∀j,F j->¬mkF k v1 v2 j) (fq:B<=w.heap.size) (hm:∀j,mkF k v1 v2 j->F0 j\/w0.heap.size<=j)
 (hM':Mk w' B k b DF e' Od Oe ts' ps' p') (hb:But G w w') (hG:∀j,G j->mkF k v1 v2 j) (hn:∀j,mkF k Od Oe j->mkF k v1 v2 j\/w.heap.size<=j):St w0 w' k b F0 S DF e' ts' ps' p':=
 ⟨B,Od,Oe,F,hM',hF.keep hb fun j hj hg=>h2 j hj (hG j hg),hB.trans hb fun i hi hg=>(hm i (hG i hg)).elim id fun h=>by omega,h1,fun j hj hm=>by
  rcases hn j hm with h|h
  ·exact h2 j hj h
  ·have:=hF.lt hj;omega,yP fq hb.size,fun j hj=>by
  rcases hn j hj with h|h
  ·exact hm j h
  ·have:=hB.size;exact .inr (by omega)⟩
theorem yei {w0 w:uv} {k b:Nat} {F0:Nat->Prop} {S:Pg.Fs} {lv:Int} {e:Pg.En} {ts ps:List Int} {p:Int} (h:St w0 w k b F0 S lv e ts ps p):
 ue kh 46 #[A (Q ⟨b,0,I⟩)] w fun en w'=>en=kp (R J S.takeN)/\St w0 w' k b F0 S.take lv e ts ps p:=by
 obtain⟨B,v1,v2,F,hM,hF,hB,h1,h2,fq,hm⟩:=h.body;refine(yaY w hF).mono ?_;rintro en w' ⟨rfl,F',f1,f2,f3⟩;refine⟨rfl,B,v1,v2,F',hM.keep f2 fun j hj hf=>h2 j hf hj,f1,hB.trans f2 fun i hi hf=> ?_,fun j hj=> ?_,fun j hj hm=> ?_,yP fq f2.size,hm⟩
 ·rcases h1 i hf with h|h
  ·exact h
  ·omega
 ·rcases f3 j hj with h|h
  ·exact h1 j h
  ·have:=hB.size;exact .inr (by omega)
 ·rcases f3 j hj with h|h
  ·exact h2 j h hm
  ·have:=(hM.lt hm).2;omega
theorem ydO {w0 w:uv} {k b:Nat} {F0:Nat->Prop} {S:Pg.Fs} {lv:Int} {e:Pg.En} {ts ps:List Int} {p t q:Int} (h:St w0 w k b F0 S lv e (ts++[t]) (ps++[q]) p) (Hg:ts.length=ps.length) (hl:ts.length<4000) (lU:0<=lv) (nE:lv<100):
 ue kh 167 #[A (Q ⟨k,0,I⟩)] w fun en w'=>en=kp (yZ #[])/\St w0 w' k b F0 (S.take.store t q (Pg.enc kO V 7 V V S.takeN lv)) (lv-1) Pg.En.zero (ts++[t]++[S.takeN]) (ps++[q]++[Pg.index p (lv-1)]) p:=by
 have HT:=yei h;have HP:∀w1,St w0 w1 k b F0 S.take lv e (ts++[t]) (ps++[q]) p->ue kh 134 #[A (Q ⟨k,0,I⟩),yG #[E kO,E V,R J 7,E V,E V,R J S.takeN]] w1 fun en w'=>en=kp (yZ #[])/\St w0 w' k b F0 (S.take.store t q (Pg.enc kO V 7 V V S.takeN lv)) lv ⟨kO,V,7,V,V,S.takeN⟩ (ts++[t]) (ps++[q]) p:=fun w1 h1=>vY ⟨kO,V,7,V,V,S.takeN⟩ h1 Hg (by omega);have HI:=vO p (lv-1);generalize Pg.enc kO V 7 V V S.takeN lv=v at*;generalize S.takeN=tk at*;generalize S.take=S1 at*;generalize S1.store t q v=S2 at*;generalize Pg.index p (lv-1)=ix at*
 have dO:(ts++[t]).length=ts.length+1:=by simp
 have fB:(ps++[q]).length=ts.length+1:=by simp[Hg]
 generalize ts++[t]=T at*;generalize ps++[q]=P at*;clear Hg;generalize ts.length=n at*;obtain⟨B,v1,v2,F,hM,hF,hB,h1,h2,fq,hm⟩:=h.body;have k0:=hM.c0;clear hM hF hB h1 h2 h fq hm
 go_enter Tryz.func167,Tryz.ntmps167
 go_wp2_with fail
 refine HT.mono ?_;rintro en w1 ⟨rfl,Rh⟩;have HP:=HP w1 Rh;clear HT Rh k0
 go_wp2_with fail
 refine HP.mono ?_;rintro en w2 ⟨rfl,iD⟩;obtain⟨B,v1,v2,F,hM,hF,hB,h1,h2,fq,hm⟩:=iD.body;have k1:=hM.c1;have k2:=hM.c2;have k3:=hM.c3;have k4:=hM.c4;have k5:=hM.c5;have k6:=hM.c6;have k7:=hM.c7;have k8:=hM.c8;have kf:=hM.fz;simp only at k2 k3 k4 k5 k6 k7;obtain⟨W3,gL⟩:=eY (((((((w2.setCell ⟨k,1,I⟩ (R J (lv-1))).setCell ⟨k,2,I⟩ (E V)).setCell ⟨k,3,I⟩ (E V)).setCell ⟨k,4,I⟩ (R J 0)).setCell ⟨k,5,I⟩ (E V)).setCell ⟨k,6,I⟩ (E V)).setCell ⟨k,7,I⟩ (R J 0))
 have M3:Mk W3 B k b (lv-1) Pg.En.zero v1 v2 T P p:=by rw[gL];exact(hM.ymj (lv-1)).setE Pg.En.zero
 have Mf:But (fun j=>j=k) w2 W3:=by
  rw[gL];exact((((((((But.refl (fun j=>j=k) w2).setCell (a:=⟨k,1,I⟩) (.inr rfl) _).setCell (a:=⟨k,2,I⟩) (.inr rfl) _).setCell (a:=⟨k,3,I⟩) (.inr rfl) _).setCell (a:=⟨k,4,I⟩) (.inr rfl) _).setCell (a:=⟨k,5,I⟩) (.inr rfl) _).setCell (a:=⟨k,6,I⟩) (.inr rfl) _).setCell (a:=⟨k,7,I⟩) (.inr rfl) _)
 have uS:O _:=M3;have mW:O (zh W3 b S2 F):=hF.keep Mf fun j hj e=>h2 j hj (.inl e)
 have TS:O (But F0 w0 W3):=hB.trans Mf fun i hi e=>(hm i (.inl e)).elim id fun h=>by omega
 have H1:O _:=h1;have H2:O _:=h2;have Hm:O _:=hm;have sN:B<=W3.heap.size:=yP fq Mf.size;clear hM hF hB h1 h2 HP iD Mf M3 fq hm;obtain⟨a1,c1,rfl⟩:=zF uS.out.o1;have Hq:=uS.out.o1;have r8:=uS.out.c8;have bH:=uS.out.lb;have UG:=TS.out.size;obtain⟨q0,hq,rW,tJ,rX⟩:=info_parts qE;rw[dO]at Hq r8 k8
 have hsW:W3.heap.size=w2.heap.size:=by rw[gL];simp
 have ll:(((((((w2.setCell ⟨k,1,I⟩ (R J (lv-1))).setCell ⟨k,2,I⟩ (E V)).setCell ⟨k,3,I⟩ (E V)).setCell ⟨k,4,I⟩ (R J 0)).setCell ⟨k,5,I⟩ (E V)).setCell ⟨k,6,I⟩ (E V)).setCell ⟨k,7,I⟩ (R J 0)).ownsRow B 3 1 (un a1 (n+1) c1) (n+1) (xn T):=by rw[<-gL];exact Hq
 go_wp2_with (first
  | (at_builtin;refine wpList_append_lies _ rfl _ _ 45 rfl B 3 q0 (R J 0) 1 8 Tryz.underlying45 hq rW tJ rX rfl (by decide) _ _ _ rfl (ll.alloc _) ⟨w2.heap.size,0,I⟩ 1 1 [R J tk] rfl rfl ?c1 ?c2 (by decide) ?c3 ?c4 ?c5 (w2.heap.size+1) (by simp) ?_))
 case c1=>
  intro j u hj
  match j,hj with
  | 0,hj=>simp at hj;subst hj;simp[Addr.add,go_sem]
 case c2=>intro u hu;simp at hu;subst hu;rfl
 case c3=>unfold maxLen;omega
 case c4=>omega
 case c5=>simp;omega
 intro g cap w4 mM Hr hat Bg;rw[<-gL]at Hr;clear gL k1 k2 k3 k4 k5 k6 k7 k8 kf ll;have hgl:g<w4.heap.size:=Bg;obtain⟨M5,b5,n5⟩:=uS.out.push1 (W:=W3.alloc (yI #[R J tk] 3)) (g:=g) (cap:=cap) sN (zA (zR _) _) (by rw[dO];exact Hr) (by rw[dO];exact hat.imp id fun h=>by omega) tk (by rw[dO];exact mM);rw[dO]at M5 b5 n5;have nz:w4.heap[k]?=W3.heap[k]?:=Hr.block k (by simp;omega) (fun e=>uS.out.n1 (by rw[dO];exact e.symm))|>.trans (yD _ _ _ bH);have e8:w4.cell? ⟨k,8,I⟩=Q (un a1 (n+1) c1):=(ki nz).trans r8;have LP:w4.frozen? ⟨k,8,I⟩=V:=(ua nz).trans (uS.out.fz 8);have l6:O _:=M5;have tT:O _:=b5;have La:O _:=n5;clear M5 b5 n5 nz Hr hat mM Bg Hq r8 HP
 go_wp2_with fail
 clear e8 LP;generalize nR:w4.setCell ⟨k,8,I⟩ (un (Q ⟨g,0,I⟩) (n+1+1) cap)=W5 at*;clear nR;obtain⟨a2,c2,rfl⟩:=zF l6.out.o2;have k9:=l6.out.c9;have k10:=l6.out.c10;have k1:=l6.out.c1;have kf:=l6.out.fz
 have Hq:W5.ownsRow B 3 1 (un a2 (n+1) c2) (n+1) (xn P):=by have:=l6.out.o2;rw[fB]at this;exact this
 rw[fB]at k9;have KZ:=l6.out.lb;have uD:=tT.out.size;have Wx:O (zh W5 b S2 F):=zh.keep mW.out tT.out fun j hj hg=>H2.out j hj (by rw[dO];exact hg.imp id fun h=> .inl h)
 have wB:O (But F0 w0 W5):=TS.out.trans tT.out fun i hi hg=>(Hm.out i (by rw[dO];exact hg.imp id fun h=> .inl h)).elim id fun h=>by omega
 have Hm5:O (∀j,mkF k (un (Q ⟨g,0,I⟩) (n+1+1) cap) (un a2 P.length c2) j->F0 j\/w0.heap.size<=j):=fun j hj=>by
  rcases La.out j hj with h|h
  ·exact Hm.out j (by rw[dO];exact h)
  ·exact .inr (by omega)
 have Wj:O (∀j,F j->¬mkF k (un (Q ⟨g,0,I⟩) (n+1+1) cap) (un a2 P.length c2) j):=fun j hj hm=>by
  rcases La.out j hm with h|h
  ·exact H2.out j hj (by rw[dO];exact h)
  ·have:=zh.lt mW.out hj;omega
 have Sq:B<=W5.heap.size:=by omega
 have hnk:¬k=W5.heap.size:=by omega
 clear tT La uS mW TS H2 bH sN UG hgl uD hsW Hm
 have tu:∀(W:uv) (j:Nat) (u:yU),[yz J ix][j]?=Q u->(W.alloc (yI #[R J ix] 3)).cell? ((⟨W.heap.size,0,I⟩:Addr).add j)=Q u:=fun W j u hu=>
  World.news_of_block (yR W _) j u hu
 have dm:∀u,u ∈ [yz J ix]->u.oneCell'=kO:=by
  intro u hu;simp at hu;subst hu;rfl
 have dX:n+1+1<=maxLen:=by unfold maxLen;omega
 have sD:(n+1+1)*8<=140737488355328:=by omega
 have Bo:(yA a2 (n+1) c2).ownBlock≠Q k:=by have:=l6.out.n2;rw[fB]at this;exact this
 go_region_law (first
  | (go_simp;go_at_call 196;refine(HI _).mono ?_;rintro e w6 ⟨rfl,rfl⟩)
  | (refine step_append_lies _ rfl (.tmp 43) (.tmp 54) 45 rfl B 3 q0 _ 1 8 Tryz.underlying45 hq rW tJ rX rfl (by decide) (un a2 (n+1) c2) _ _ (by simp[Act.eval]) (Hq.alloc _) ⟨W5.heap.size,0,I⟩ 1 1 [R J ix] (by simp[Act.eval]) rfl (tu W5) dm (by decide) dX sD (yP Sq (by simp)) (W5.heap.size+1) (by simp) ?_;intro g6 cap6 w6 tF rP sj fD;have aN:O ((W5.alloc (yI #[R J ix] 3)).drew.grownBy w6 (yA a2 (n+1) c2).ownBlock):=rP;have sS:w6.heap[k]?=W5.heap[k]?:=(aN.out.block k (by simp;omega) (fun e=>Bo e.symm)).trans (yD _ _ _ KZ);have e9:w6.cell? ⟨k,9,I⟩=Q (un a2 (n+1) c2):=(ki sS).trans k9;have Mh:w6.frozen? ⟨k,9,I⟩=V:=(ua sS).trans (kf 9);have Pw:O (w6.ownsRow B 3 1 (un (Q ⟨g6,0,I⟩) (n+1+1) cap6) (n+1+1) (xn P++[R J ix])):=tF;have Pp:O ((yA a2 (n+1) c2).ownBlock=Q g6\/g6=W5.heap.size+1):=sj;clear tF rP sj sS))
 all_goals
  obtain⟨M7,b7,n7⟩:=l6.out.push2 (W:=(W5.alloc (yI #[R J ix] 3)).drew) (g:=g6) (cap:=cap6) Sq (zA (zR _) _).drew (by rw[fB];exact aN.out) (by rw[fB];exact Pp.out.imp id fun h=>by omega) ix (by rw[fB];exact Pw.out);rw[fB]at M7 b7 n7
  have fin:O (St w0 (w6.setCell ⟨k,9,I⟩ (un (Q ⟨g6,0,I⟩) (n+1+1) cap6)) k b F0 S2 (lv-1) Pg.En.zero (T++[tk]) (P++[ix]) p):=
   St.step l6.out Wx.out wB.out H1.out Wj.out Sq Hm5.out M7 b7 (fun j hj=>hj.imp id fun h=> .inr (by rw[fB];exact h)) (fun j hj=>(n7 j hj).imp (fun h=>by rw[fB];exact h) id)
  go_wp2
  go_end0
  exact⟨rfl,fin.out⟩
theorem yeX (p:Int) (s:Nat) (S:Pg.Fs) (t:Int):Pg.insW p s s S t=(S,t):=by
 cases s with
 | zero=>rfl
 | succ s=>simp[Pg.insW]
theorem yeY (p:Int) (s m:Nat) (S:Pg.Fs) (t:Int) (h:s<=m):Pg.insW p s (m+1) S t=Pg.insW p s m (S.take.store t (Pg.index p ((m+1:Nat):Int)) (Pg.enc kO V 7 V V S.takeN ((m+1:Nat):Int))) S.takeN:=by
 rw[Pg.insW,iN (by omega)]
theorem ydb {b:Nat} {S:Pg.Fs} {F:Nat->Prop} (t:Int) (m:Pg.Mp) (w:uv) (h:zh w b S F):
 ue kh 133 #[A (Q ⟨b,0,I⟩),R J t,m.val] w fun en w'=>en=kp (R J (Pg.insC S t m))/\∃F',zh w' b (Pg.insS S t m) F'/\But F w w'/\∀k,F' k->F k\/w.heap.size<=k:=by
 obtain⟨p,s,f,r⟩:=m;have HC:=zY p s f r;have eC:Pg.Mp.code ⟨p,s,f,r⟩=Pg.check p s f r:=rfl;rw[<-eC]at HC;simp only[Pg.Mp.val];have H:O (zh w b S F):=h;obtain⟨W1,rC⟩:=eY (w.alloc (yI #[R J p,R J s,R J f,R J r] 39))
 have sG:Lw w W1:=by rw[rC];exact zA (zR w) _
 have r4:W1.cell? ⟨w.heap.size,0,I⟩=Q (R J p)/\W1.cell? ⟨w.heap.size,1,I⟩=Q (R J s)/\W1.cell? ⟨w.heap.size,2,I⟩=Q (R J f)/\W1.cell? ⟨w.heap.size,3,I⟩=Q (R J r):=by rw[rC];simp[go_sem]
 have ry:O _:=sG;obtain⟨x0,x1,x2,x3⟩:=r4;have fo:O (∀w',Lw w w'->∃F',zh w' b S F'/\But F w w'/\∀k,F' k->F k\/w.heap.size<=k):=fun w' hb=>⟨F,zh.keep (G:=fun _=>False) H.out (But.yhJ hb) fun _ _=>id,But.yhJ hb,fun k hk=> .inl hk⟩;have HW:=fun w2 (hb:Lw w w2)=>vj t p w2 (h.keep (G:=fun _=>False) (But.yhJ hb) fun _ _=>id);clear sG eC
 by_cases hc:Pg.Mp.code ⟨p,s,f,r⟩=0
 ·rw[hc]at HC
  by_cases hz:xQ S t p=0
  ·obtain⟨Y,sp,lv,hY,W,lw,lN,Gq,dF,dN⟩:=qX hz
   have hs:0<=s/\s<=2:=by
    have lM:Pg.check p s f r=0:=hc
    have gM:Pg.span s≠0:=by
     intro e;rw[Pg.check,iP e]at lM;omega
    unfold Pg.span at gM
    by_cases h0:s=0
    ·omega
    ·by_cases h1:s=1
     ·omega
     ·by_cases h2:s=2
      ·omega
      ·simp[h0,h1,h2]at gM
   obtain⟨sn,rfl⟩:=yQ hs.1
   have pJ:sn<=2:=by omega
   have e6:tabs (Y++[sp])=tabs Y++[sp.table]:=by simp[tabs]
   have e7:qL (Y++[sp])=qL Y++[(sp.place:Int)]:=by simp[qL]
   have eI:Pg.insC S t ⟨p,sn,f,r⟩=if sp.e.t=kO\/(lv:Int)<(sn:Int)then 4 else if S.free<(lv:Int)-(sn:Int)then 6 else 0:=by
    rw[Pg.insC,iN (by simp[hc]),iN (by simp[hz]),hY,W.yhO,W.yhQ]
   have eS:Pg.insS S t ⟨p,sn,f,r⟩=if Pg.insC S t ⟨p,sn,f,r⟩=0 then(Pg.insW p sn lv S sp.table).1.store (Pg.insW p sn lv S sp.table).2 (Pg.index p (sn:Int)) (Pg.enc kO kO r V V f (sn:Int))else S:=by
    rw[Pg.insS,hY,W.yhQ,W.lastT];rfl
   rw[hz,hY,W.yhQ,W.yhO,e6,e7,dF]at HW
   have Hg:(tabs Y).length=(qL Y).length:=by rw[xA,vy]
   have Hf:(tabs Y).length<=3:=by rw[xA];omega
   have uo:=h.ok.ykU;have nP:=fun w2 (hb:Lw w w2)=>yaW w2 (h.keep (G:=fun _=>False) (But.yhJ hb) fun _ _=>id);clear hc hz W hY lw dF dN h e6 e7 hs;generalize tabs Y=T at*;generalize qL Y=P at*;obtain⟨st,_,_,_,⟨et,el,er,eu,ed,ef⟩⟩:=sp;simp only at eI eS HW;clear Gq Y;generalize Pg.insC S t ⟨p,sn,f,r⟩=ic at*;generalize Pg.insS S t ⟨p,sn,f,r⟩=iS at*
   by_cases hE:et=kO\/(lv:Int)<(sn:Int)
   ·rw[iP hE]at eI
    rw[eI,iN (by decide)]at eS;rw[eI,eS];clear eI eS;cases et
    ·have K9:(lv:Int)<(sn:Int):=by
      rcases hE with h|h
      ·cases h
      ·exact h
     clear hE
     go_enter Tryz.func133,Tryz.ntmps133
     go_wp2_with fail
     rw[<-rC];clear rC;refine(HC _).mono ?_;rintro en w2 ⟨rfl,Hd⟩;have y0:=Z Hd x0;have y1:=Z Hd x1;have y2:=Z Hd x2;have y3:=Z Hd x3;have Ht:O (Lw w w2):=zT ry.out Hd;clear Hd HC x0 x1 x2 x3
     go_wp2_with fail
     refine(HW _ Ht.out).mono ?_;rintro en w3 ⟨k,rfl,hS,He⟩;have HS:O _:=hS;have rE:O (Lw w w3):=zT Ht.out He;obtain⟨B,v1,v2,F',hM,_,_,_,_,_,_⟩:=hS.body;have k0:=hM.c0;have k1:=hM.c1;have k2:=hM.c2;simp only at k2;have z1:=Z He y1;have z2:=Z He y2;have z3:=Z He y3;have oo:w.heap.size<w2.heap.size:=U _ _ y0;have HZ:O _:=And.intro z1 (And.intro z2 z3);clear hM hS He HW y0 y1 y2 y3
     go_wp2
     go_quiet (fail)
     go_wp2
     go_ret
     exact⟨rfl,fo.out _ (zT rE.out (below_drewN (zR _) _))⟩
    ·clear hE
     go_enter Tryz.func133,Tryz.ntmps133
     go_wp2_with fail
     rw[<-rC];clear rC;refine(HC _).mono ?_;rintro en w2 ⟨rfl,Hd⟩;have y0:=Z Hd x0;have y1:=Z Hd x1;have y2:=Z Hd x2;have y3:=Z Hd x3;have Ht:O (Lw w w2):=zT ry.out Hd;clear Hd HC x0 x1 x2 x3
     go_wp2_with fail
     refine(HW _ Ht.out).mono ?_;rintro en w3 ⟨k,rfl,hS,He⟩;have HS:O _:=hS;have rE:O (Lw w w3):=zT Ht.out He;obtain⟨B,v1,v2,F',hM,_,_,_,_,_,_⟩:=hS.body;have k0:=hM.c0;have k1:=hM.c1;have k2:=hM.c2;simp only at k2;have z1:=Z He y1;have z2:=Z He y2;have z3:=Z He y3;have oo:w.heap.size<w2.heap.size:=U _ _ y0;have HZ:O _:=And.intro z1 (And.intro z2 z3);clear hM hS He HW y0 y1 y2 y3
     go_wp2
     go_quiet (fail)
     go_wp2
     go_ret
     exact⟨rfl,fo.out _ (zT rE.out (below_drewN (zR _) _))⟩
   ·rw[iN hE]at eI
    have KE:et=V:=by
     cases et
     ·rfl
     ·exact absurd (.inl rfl) hE
    have fK:sn<=lv:=by omega
    subst KE;clear hE
    by_cases hfu:S.free<(lv:Int)-(sn:Int)
    ·rw[iP hfu]at eI
     rw[eI,iN (by decide)]at eS;rw[eI,eS];clear eI eS
     go_enter Tryz.func133,Tryz.ntmps133
     go_wp2_with fail
     rw[<-rC];clear rC;refine(HC _).mono ?_;rintro en w2 ⟨rfl,Hd⟩;have y0:=Z Hd x0;have y1:=Z Hd x1;have y2:=Z Hd x2;have y3:=Z Hd x3;have Ht:O (Lw w w2):=zT ry.out Hd;clear Hd HC x0 x1 x2 x3
     go_wp2_with fail
     refine(HW _ Ht.out).mono ?_;rintro en w3 ⟨k,rfl,hS,He⟩;have HS:O _:=hS;have rE:O (Lw w w3):=zT Ht.out He;obtain⟨B,v1,v2,F',hM,_,_,_,_,_,_⟩:=hS.body;have k0:=hM.c0;have k1:=hM.c1;have k2:=hM.c2;simp only at k2;have z1:=Z He y1;have z2:=Z He y2;have z3:=Z He y3;have oo:w.heap.size<w2.heap.size:=U _ _ y0;have HZ:O _:=And.intro z1 (And.intro z2 z3);clear hM hS He HW y0 y1 y2 y3
     go_wp2
     go_quiet (fail)
     go_wp2_with fail
     refine(nP _ (zT rE.out (below_drewN (zR _) _))).mono ?_;rintro en w4 ⟨rfl,Hl⟩;have rR:O (Lw w w4):=zT (zT rE.out (below_drewN (zR _) _)) Hl;clear Hl nP
     go_wp2
     go_ret
     exact⟨rfl,fo.out _ rR.out⟩
    ·rw[iN hfu]at eI
     rw[eI,iP rfl]at eS;rw[eI,eS];clear eI eS
     have dd1:decide ((lv:Int)-(sn:Int)<0)=V:=by simp;omega
     have dd2:decide (S.free<(lv:Int)-(sn:Int))=V:=by simp;omega
     go_enter Tryz.func133,Tryz.ntmps133
     go_wp2_with fail
     rw[<-rC];clear rC;refine(HC _).mono ?_;rintro en w2 ⟨rfl,Hd⟩;have y0:=Z Hd x0;have y1:=Z Hd x1;have y2:=Z Hd x2;have y3:=Z Hd x3;have Ht:O (Lw w w2):=zT ry.out Hd;clear Hd HC x0 x1 x2 x3
     go_wp2_with fail
     refine(HW _ Ht.out).mono ?_;rintro en w3 ⟨k,rfl,hS,He⟩;have HS:O _:=hS;have rE:O (Lw w w3):=zT Ht.out He;obtain⟨B,v1,v2,F',hM,_,_,_,_,_,_⟩:=hS.body;have k0:=hM.c0;have k1:=hM.c1;have k2:=hM.c2;simp only at k2;have z1:=Z He y1;have z2:=Z He y2;have z3:=Z He y3;have oo:w.heap.size<w2.heap.size:=U _ _ y0;have HZ:O _:=And.intro z1 (And.intro z2 z3);clear hM hS He HW y0 y1 y2 y3
     go_wp2
     go_quiet (fail)
     go_wp2_with fail
     refine(nP _ (zT rE.out (below_drewN (zR _) _))).mono ?_;rintro en w4 ⟨rfl,Hl⟩;have Nw:O (Lw w3 w4):=zT (below_drewN (zR _) _) Hl;clear Hl nP
     go_wp2_with fail
     try simp only[dd1,dd2]
     go_loopw [53] (fun i wr=>∃(j pY:Nat) (Si:Pg.Fs) (ei:Pg.En) (ts ps:List Int) (ti:Int),pY+j=lv/\sn<=pY/\i=R J (j:Int)/\ts.length=ps.length/\ts.length=T.length+j/\O (St w2 wr k b F Si (pY:Int) ei (ts++[ti]) (ps++[Pg.index p (pY:Int)]) p/\Pg.insW p sn pY Si ti=Pg.insW p sn lv S st)) (fun i _=>lv-(intOf i).toNat)
     case atStart=>exact⟨0,lv,S,_,T,P,st,by omega,by omega,rfl,Hg,rfl,HS.out.grow Nw.out,rfl⟩
     case round=>
      obtain⟨j,pY,Si,ei,ts,ps,ti,hj,hlvn,rfl,dE,su,HR⟩:=hrel
      have j0:(0:Int)<=(j:Int):=by omega
      by_cases Bf:sn<pY
      ·have j1:(j:Int)<(lv:Int)-(sn:Int):=by omega
       have HX:=ydO HR.out.1 dE (by omega) (by omega) (by omega);obtain⟨lm,rfl⟩:∃lm,pY=lm+1:=⟨pY-1,by omega⟩
       have e9:((lm+1:Nat):Int)-1=(lm:Int):=by omega
       rw[e9]at HX
       have e10:O (Pg.insW p sn lm (Si.take.store ti (Pg.index p ((lm+1:Nat):Int)) (Pg.enc kO V 7 V V Si.takeN ((lm+1:Nat):Int))) Si.takeN=Pg.insW p sn lv S st):=by rw[O,<-yeY p sn lm Si ti (by omega)];exact HR.out.2
       go_wp2_with fail
       refine HX.mono ?_;rintro en w5 ⟨rfl,h5⟩;have H5:O _:=h5;clear h5 HX HR
       go_wp2_with fail
       exact⟨⟨j+1,lm,_,_,_,_,_,by omega,by omega,by go_num,by simp[dE],by simp[su];omega,H5.out,e10.out⟩,by simp[intOf];omega⟩
      ·have PP:pY=sn:=by omega
       subst PP
       have j1:¬(j:Int)<(lv:Int)-(pY:Int):=by omega
       have nY:=HR.out.2;rw[yeX]at nY;have HX:=vY ⟨kO,kO,r,V,V,f⟩ HR.out.1 dE (by omega);simp only[Pg.En.val]at HX
       have bX:wr.heap[w.heap.size]?=w3.heap[w.heap.size]?:=by
        have q1:=HR.out.1.but.block w.heap.size oo fun hF=>by have:=zh.lt H.out hF;omega
        have q2:=HS.out.but.block w.heap.size oo fun hF=>by have:=zh.lt H.out hF;omega
        exact q1.trans q2.symm
       have b2:=(ki bX).trans HZ.out.2.1;have b3:=(ki bX).trans HZ.out.2.2;have oK:O _:=nY;clear nY bX z1 z2 z3 k0 k1 k2 HR
       go_wp2_with fail
       refine HX.mono ?_;rintro en w6 ⟨rfl,h6⟩;obtain⟨F6,f1,f2,f3⟩:=h6.leaves
       have fin:O (∃F',zh w6 b ((Pg.insW p pY lv S st).1.store (Pg.insW p pY lv S st).2 (Pg.index p (pY:Int)) (Pg.enc kO kO r V V f (pY:Int))) F'/\But F w w6/\∀k,F' k->F k\/w.heap.size<=k):=by
        rw[O,<-oK.out];exact⟨F6,f1,(But.yhJ Ht.out).trans f2 fun _ _ h=>h,fun j hj=>(f3 j hj).imp id fun h=>by have:=Ht.out.size;omega⟩
       clear h6 f1 f2 f3 HX oK
       go_wp2
       go_ret
       exact⟨rfl,fin.out⟩
  ·have e1:Pg.insC S t ⟨p,s,f,r⟩=xQ S t p:=by rw[Pg.insC,iN (by simp[hc]),iP hz]
   have e2:Pg.insS S t ⟨p,s,f,r⟩=S:=by rw[Pg.insS,e1,iN hz]
   rw[e1,e2];clear e1 e2 h;generalize xQ S t p=cc at*
   have bB:(cc !=0)=kO:=by simp[hz]
   clear hz hc
   go_enter Tryz.func133,Tryz.ntmps133
   go_wp2_with fail
   rw[<-rC];clear rC;refine(HC _).mono ?_;rintro en w2 ⟨rfl,Hd⟩;have y0:=Z Hd x0;have Ht:O (Lw w w2):=zT ry.out Hd;clear Hd
   go_wp2_with fail
   refine(HW _ Ht.out).mono ?_;rintro en w3 ⟨k,rfl,_,He⟩;have rE:O (Lw w w3):=zT Ht.out He;clear He
   go_wp2
   go_ret
   exact⟨rfl,fo.out _ rE.out⟩
 ·have e1:Pg.insC S t ⟨p,s,f,r⟩=Pg.Mp.code ⟨p,s,f,r⟩:=by rw[Pg.insC,iP hc]
  have e2:Pg.insS S t ⟨p,s,f,r⟩=S:=by rw[Pg.insS,e1,iN hc]
  rw[e1,e2];clear e1 e2 h HW;generalize Pg.Mp.code ⟨p,s,f,r⟩=cc at*
  have bB:(cc !=0)=kO:=by simp[hc]
  clear hc
  go_enter Tryz.func133,Tryz.ntmps133
  go_wp2_with fail
  rw[<-rC];clear rC;refine(HC _).mono ?_;rintro en w2 ⟨rfl,Hd⟩;have Ht:O (Lw w w2):=zT ry.out Hd;clear Hd
  go_wp2
  go_ret
  exact⟨rfl,fo.out _ Ht.out⟩
end
end Go.Proofs.YtdphiompijbelaaGreat
