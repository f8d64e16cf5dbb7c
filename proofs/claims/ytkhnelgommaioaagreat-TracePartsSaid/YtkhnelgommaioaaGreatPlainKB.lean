import Derived.Test.YtkhnelgommaioaaGreatPlainW
import Derived.Test.YtkhnelgommaioaaGreatPlainB
namespace Go.Proofs.YtkhnelgommaioaaGreat
open Go.RowKit
namespace Pg
structure Wk where
 on:Bool
 q:Int
 k:Int
 u:Bool
 t:Int
 lv:Nat
 x:Int
namespace Wk
def off:Wk:=⟨false,0,0,false,0,0,0⟩
def start (root q k:Int) (u:Bool):Wk:=⟨true,q,k,u,root,3,0⟩
def again (root:Int) (K:Wk):Wk:=if K.on=true then{K with t:=root,lv:=3,x:=0}else K
def mark (K:Wk) (e:En):En:={e with u:=true,d:=e.d||K.k==1}
def ready (K:Wk) (e:En):Bool:=e.u&&(e.d||K.k !=1)
structure Ok (K:Wk):Prop where
 page:K.on=true->below K.q 4096=true
 lv:K.lv<4
 leaf:K.x≠0->0<=K.x/\K.x<18446744073709551616/\dCode K.x K.lv=0/\(En.of K.x K.lv).l=true/\may (En.of K.x K.lv).r K.k K.u=true/\ready K (En.of K.x K.lv)=false
 idle:K.on=false->K=Wk.off
def word (S:Fs) (K:Wk):Int:=S.word K.t.toNat (ix K.q K.lv)
end Wk
abbrev Wo:Type:=Int ⊕ Wk ⊕ Int ⊕ (En×Bool)
abbrev Wo.code (c:Int):Wo:= .inl c
abbrev Wo.go (K:Wk):Wo:= .inr (.inl K)
abbrev Wo.stop (r:Int):Wo:= .inr (.inr (.inl r))
abbrev Wo.done (e:En) (m:Bool):Wo:= .inr (.inr (.inr (e,m)))
def kOut (S:Fs) (root:Int) (K:Wk):Wo:=
 if K.on=false then .code 9
 else if S.has K.t=false then .code 12
 else if K.x≠0 then(if K.word S=K.x then .done (K.mark (En.of K.x K.lv)) true else .go (K.again root))
 else if dCode (K.word S) K.lv≠0 then .code (dCode (K.word S) K.lv)
 else if (En.of (K.word S) K.lv).t=false then .stop 1
 else if (En.of (K.word S) K.lv).l=false then .go {K with t:=(En.of (K.word S) K.lv).f,lv:=K.lv-1}
 else if may (En.of (K.word S) K.lv).r K.k K.u=false then .stop 2
 else if K.ready (En.of (K.word S) K.lv)=false then .go {K with x:=K.word S}
 else .done (En.of (K.word S) K.lv) false
structure Rs where
 ended:Bool
 a:Int
 f:Int
 r:Int
 m:Mp
 d:Bool
def Rs.zero:Rs:=⟨false,0,0,0,⟨0,0,0,0⟩,false⟩
def Rs.val (R:Rs):Value:= .agg #[.bool R.ended,.int .i64 R.a,.int .i64 R.f,.int .i64 R.r,.int .i64 R.m.p,.int .i64 R.m.s,.int .i64 R.m.f,.int .i64 R.m.r,.bool R.d]
namespace Wo
def cd:Wo->Int
 | .inl c=>c
 | _=>0
def ended:Wo->Bool
 | .inr (.inr _)=>true
 | _=>false
def res (K:Wk):Wo->Rs
 | .inl _=>Rs.zero
 | .inr (.inl _)=>Rs.zero
 | .inr (.inr (.inl r))=>⟨true,r,0,0,⟨0,0,0,0⟩,false⟩
 | .inr (.inr (.inr (e,_)))=>⟨true,aEnd (e.map K.lv K.q).r K.k K.u,aFrame (e.map K.lv K.q).p (e.map K.lv K.q).f (e.map K.lv K.q).r K.q K.k K.u,aRights (e.map K.lv K.q).r K.k K.u,e.map K.lv K.q,e.d⟩
def next (K:Wk):Wo->Wk
 | .inl _=>K
 | .inr (.inl K')=>K'
 | _=>Wk.off
def fs (S:Fs) (K:Wk):Wo->Fs
 | .inr (.inr (.inr (e,true)))=>S.store K.t (index K.q K.lv) (enc e.t e.l e.r e.u e.d e.f K.lv)
 | _=>S
end Wo
theorem enc_bd' (t l:Bool) (r:Int) (u d:Bool) (f lv:Int):0<=enc t l r u d f lv/\enc t l r u d f lv<18446744073709551616:=by
 unfold enc
 split
 ·rename_i h
  obtain⟨_,hc⟩:=fault_zero h
  unfold eWord b01
  rcases hc with ⟨rfl,_⟩|⟨rfl,r0,r1,f0,f1,_⟩
  ·simp
  ·simp only[if_true]
   split<;>split<;>split<;>omega
 ·omega
theorem Wk.off_ok:Wk.off.Ok:=⟨fun h=>(by cases h),(by decide),fun h=>absurd rfl h,fun _=>rfl⟩
theorem Wk.start_ok {root q k:Int} {u:Bool} (h:below q 4096=true):(Wk.start root q k u).Ok:=⟨fun _=>h,by show 3<4;omega,fun h=>absurd rfl h,fun h=>by cases h⟩
theorem Wk.Ok.again {K:Wk} (h:K.Ok) (root:Int):(K.again root).Ok:=by
 unfold Wk.again
 split
 ·rename_i ho
  exact⟨fun _=>h.page ho,by show 3<4;omega,fun h=>absurd rfl h,fun h=>by rw[ho]at h;cases h⟩
 ·exact h
theorem kOut_ok {S:Fs} (hS:S.Ok) {K:Wk} (h:K.Ok) (root:Int):((kOut S root K).next K).Ok:=by
 unfold kOut
 split
 ·exact h
 ·rename_i ho
  have ho:K.on=true:=by simpa using ho
  split
  ·exact h
  ·split
   ·split
    ·exact Wk.off_ok
    ·exact h.again root
   ·rename_i hx
    have hx:K.x=0:=by simpa using hx
    split
    ·exact h
    ·rename_i hc
     have hc:dCode (K.word S) K.lv=0:=by simpa using hc
     split
     ·exact Wk.off_ok
     ·rename_i ht
      split
      ·exact⟨fun _=>h.page ho,by show K.lv-1<4;have:=h.lv;omega,fun h=>absurd hx h,fun h=>by rw[ho]at h;cases h⟩
      ·rename_i hl
       have hl:(En.of (K.word S) K.lv).l=true:=by simpa using hl
       split
       ·exact Wk.off_ok
       ·rename_i hm
        have hm:may (En.of (K.word S) K.lv).r K.k K.u=true:=by simpa using hm
        split
        ·rename_i hr
         exact⟨fun _=>h.page ho,h.lv,fun _=>⟨hS.low _ _,hS.high _ _,hc,hl,hm,hr⟩,fun h=>by rw[ho]at h;cases h⟩
        ·exact Wk.off_ok
theorem kOut_fs {S:Fs} (hS:S.Ok) {K:Wk} (root:Int):((kOut S root K).fs S K).Ok:=by
 rcases kOut S root K with c|K'|r|⟨e,m⟩
 ·exact hS
 ·exact hS
 ·exact hS
 ·cases m
  ·exact hS
  ·have hb:=enc_bd' e.t e.l e.r e.u e.d e.f K.lv
   exact hS.store _ _ hb.1 hb.2
end Pg
namespace Pg
structure Ln where
 m:Mp
 d:Bool
def Ln.zz:Ln:=⟨.zz,false⟩
namespace Ln
def val (l:Ln):Value:= .agg #[.int .i64 l.m.p,.int .i64 l.m.s,.int .i64 l.m.f,.int .i64 l.m.r,.bool l.d]
def has (l:Ln) (q:Int):Bool:=l.m.has q
def meets (l:Ln) (m:Mp):Bool:=l.m.meets m
end Ln
structure Kept (L:List Ln):Prop where
 ok:∀l,l ∈ L->l.m.code=0
 ap:L.Pairwise fun a b=>a.m.meets b.m=false
 le:L.length<=6
theorem Kept.nil:Kept []:=⟨fun _ h=>by simp at h,List.Pairwise.nil,by simp⟩
def kFnd (L:List Ln) (q:Int):Option Nat:=L.findIdx? fun l=>l.has q
def kFndN (L:List Ln) (q:Int):Int:=match kFnd L q with
 | some k=>(k:Int)
 | none=> -1
def kAt (L:List Ln) (q:Int):Ln:=match kFnd L q with
 | some k=>L.getD k .zz
 | none=> .zz
def kDrop (L:List Ln) (m:Mp):List Ln:=L.filter fun l=> !l.meets m
def kRoom (L:List Ln):List Ln:=if L.length=6 then L.drop 1 else L
def kPut (L:List Ln) (l:Ln):List Ln:=if l.m.code=0 then kRoom (kDrop L l.m)++[l]else L
theorem ln_at {L:List Ln} {j:Nat} (hj:j<L.length):L.getD j .zz=L[j]:=by simp[List.getD,hj]
theorem ln_mem {L:List Ln} {j:Nat} (hj:j<L.length):L.getD j .zz ∈ L:=by rw[ln_at hj];exact List.getElem_mem _
theorem kFnd_some {L:List Ln} {q:Int} {k:Nat} (h:kFnd L q=some k):k<L.length/\(L.getD k .zz).has q=true/\∀j,j<k->(L.getD j .zz).has q=false:=by
 obtain⟨hk,h1,h2⟩:=List.findIdx?_eq_some_iff_getElem.1 h
 refine⟨hk,by rw[ln_at hk];exact h1,fun j hj=> ?_⟩
 rw[ln_at (by omega)]
 simpa using h2 j hj
theorem idx_some {L:List Ln} {P:Ln->Bool} {k:Nat} (hk:k<L.length) (h1:P (L.getD k .zz)=true) (h2:∀j,j<k->P (L.getD j .zz)=false):L.findIdx? P=some k:=by
 refine List.findIdx?_eq_some_iff_getElem.2 ⟨hk,by rw[<-ln_at hk];exact h1,fun j hj=> ?_⟩
 have:=h2 j hj
 rw[ln_at (by omega)]at this
 simpa using this
theorem idx_none {L:List Ln} {P:Ln->Bool} (h:∀j,j<L.length->P (L.getD j .zz)=false):L.findIdx? P=none:=by
 refine List.findIdx?_eq_none_iff.2 fun m hm=> ?_
 obtain⟨j,hj,rfl⟩:=List.mem_iff_getElem.1 hm
 have:=h j hj
 rw[ln_at hj]at this
 simpa using this
theorem idx_of_some {L:List Ln} {P:Ln->Bool} {k:Nat} (h:L.findIdx? P=some k):k<L.length/\P (L.getD k .zz)=true/\∀j,j<k->P (L.getD j .zz)=false:=by
 obtain⟨hk,h1,h2⟩:=List.findIdx?_eq_some_iff_getElem.1 h
 refine⟨hk,by rw[ln_at hk];exact h1,fun j hj=> ?_⟩
 rw[ln_at (by omega)]
 simpa using h2 j hj
theorem idx_of_none {L:List Ln} {P:Ln->Bool} (h:L.findIdx? P=none):∀l,l ∈ L->P l=false:=fun l hl=>by
 simpa using List.findIdx?_eq_none_iff.1 h l hl
def idxN (L:List Ln) (P:Ln->Bool):Int:=match L.findIdx? P with
 | some k=>(k:Int)
 | none=> -1
theorem take_succ {L:List Ln} {j:Nat} (hj:j<L.length):L.take (j+1)=L.take j++[L.getD j .zz]:=by
 rw[List.take_succ_eq_append_getElem hj,ln_at hj]
theorem filter_take_yes {L:List Ln} {P:Ln->Bool} {j:Nat} (hj:j<L.length) (h:P (L.getD j .zz)=true):(L.take (j+1)).filter P=(L.take j).filter P++[L.getD j .zz]:=by
 rw[take_succ hj,List.filter_append]
 simp only[List.filter_cons,h,if_true,List.filter_nil]
theorem filter_take_no {L:List Ln} {P:Ln->Bool} {j:Nat} (hj:j<L.length) (h:P (L.getD j .zz)=false):(L.take (j+1)).filter P=(L.take j).filter P:=by
 rw[take_succ hj,List.filter_append]
 simp only[List.filter_cons,h,Bool.false_eq_true,if_false,List.filter_nil,List.append_nil]
theorem Kept.fits {L:List Ln} (h:Kept L) {j:Nat} (hj:j<L.length):Pg.fits (L.getD j .zz).m.p:=(ok_fits (h.ok _ (ln_mem hj))).2.2.1
theorem Kept.sub {L M:List Ln} (h:Kept L) (hs:M.Sublist L):Kept M:=
 ⟨fun l hl=>h.ok l (hs.subset hl),h.ap.sublist hs,Nat.le_trans hs.length_le h.le⟩
theorem Kept.drop {L:List Ln} (h:Kept L) (m:Mp):Kept (kDrop L m):=h.sub List.filter_sublist
theorem Kept.tail {L:List Ln} (h:Kept L):Kept (L.drop 1):=h.sub (List.drop_sublist _ _)
theorem kRoom_sub (L:List Ln):(kRoom L).Sublist L:=by
 unfold kRoom
 split
 ·exact List.drop_sublist _ _
 ·exact List.Sublist.refl _
theorem kRoom_len {L:List Ln} (h:L.length<=6):(kRoom L).length<=5:=by
 unfold kRoom
 split
 ·simp;omega
 ·omega
theorem kDrop_not {L:List Ln} {m:Mp} {l:Ln} (h:l ∈ kDrop L m):l.m.meets m=false:=by
 have:=(List.mem_filter.1 h).2
 simpa[Ln.meets]using this
theorem Kept.put {L:List Ln} (h:Kept L) (l:Ln):Kept (kPut L l):=by
 unfold kPut
 split
 ·rename_i hc
  have hd:=(h.drop l.m).sub (kRoom_sub _)
  refine⟨fun x hx=> ?_,?_,?_⟩
  ·rcases List.mem_append.1 hx with hx|hx
   ·exact hd.ok x hx
   ·rw[List.mem_singleton.1 hx];exact hc
  ·refine List.pairwise_append.2 ⟨hd.ap,by simp,fun a ha b hb=> ?_⟩
   rw[List.mem_singleton.1 hb]
   exact kDrop_not ((kRoom_sub _).subset ha)
  ·have:=kRoom_len (h.drop l.m).le
   simp only[List.length_append,List.length_cons,List.length_nil]
   omega
 ·exact h
theorem kPut_no {L:List Ln} {l:Ln} (h:l.m.code≠0):kPut L l=L:=by simp[kPut,h]
theorem kPut_yes {L:List Ln} {l:Ln} (h:l.m.code=0):kPut L l=kRoom (kDrop L l.m)++[l]:=by simp[kPut,h]
end Pg
namespace Pg
structure Tl where
 a:Int
 f:Int
 r:Int
 ended:Bool
 c:Int
def Tl.val (T:Tl):Value:= .tuple #[.agg #[.int .i64 T.a,.int .i64 T.f,.int .i64 T.r],.bool T.ended,.int .i64 T.c]
def Tl.code (c:Int):Tl:=⟨0,0,0,false,c⟩
def Ln.ans (l:Ln) (q k:Int) (u:Bool):Tl:=⟨aEnd l.m.r k u,aFrame l.m.p l.m.f l.m.r q k u,aRights l.m.r k u,true,0⟩
def Ln.wants (l:Ln) (k:Int) (u:Bool):Bool:=k==1&&(!l.d&&may l.m.r k u)
structure Cr where
 L:List Ln
 K:Wk
namespace Cr
def new:Cr:=⟨[],Wk.off⟩
structure Ok (C:Cr):Prop where
 kept:Kept C.L
 walk:C.K.Ok
def hit (C:Cr) (q k:Int) (u:Bool):Bool:=(kFnd C.L q).isSome&& !(kAt C.L q).wants k u
def bgT (C:Cr) (q k:Int) (u:Bool):Tl:=if zK q k≠0 then .code (zK q k)else if C.K.on=true then .code 8 else if C.hit q k u=true then(kAt C.L q).ans q k u else .code 0
def bgN (root:Int) (C:Cr) (q k:Int) (u:Bool):Cr:=if zK q k=0/\C.K.on=false/\C.hit q k u=false then⟨C.L,Wk.start root q k u⟩else C
end Cr
def Wo.tl (K:Wk) (o:Wo):Tl:=⟨(o.res K).a,(o.res K).f,(o.res K).r,(o.res K).ended,o.cd⟩
def rPut (L:List Ln) (R:Rs):List Ln:=if (R.ended&&R.a==0)=true then kPut L ⟨R.m,R.d⟩else L
namespace Cr
def stT (S:Fs) (root:Int) (C:Cr):Tl:=Wo.tl C.K (kOut S root C.K)
def stN (S:Fs) (root:Int) (C:Cr):Cr:=⟨rPut C.L ((kOut S root C.K).res C.K),(kOut S root C.K).next C.K⟩
def stS (S:Fs) (root:Int) (C:Cr):Fs:=(kOut S root C.K).fs S C.K
def told (root:Int) (C:Cr) (m:Mp):Cr:=⟨kDrop C.L m,C.K.again root⟩
def evict (C:Cr):Cr:=⟨C.L.drop 1,C.K⟩
end Cr
theorem access_page {q k:Int} (h:zK q k=0):below q 4096=true:=by
 unfold zK at h
 split at h
 ·split at h
  ·assumption
  ·omega
 ·omega
theorem access_fits {q k:Int} (h:zK q k=0):fits q:=by
 have:=zB.1 (access_page h)
 unfold fits
 omega
theorem map_fits (e:En) (lv q:Int):fits (e.map lv q).p:=by
 show fits (lPage e.t e.l e.r e.u e.d e.f lv q)
 unfold lPage
 split
 ·rename_i h
  have hq:below q 4096=true:=by
   unfold lOk at h
   simp only[Bool.and_eq_true]at h
   exact h.2
  have hq:=zB.1 hq
  unfold span fits
  split
  ·omega
  ·split
   ·omega
   ·split<;>omega
 ·unfold fits;omega
theorem res_fits (K:Wk) (o:Wo):fits (o.res K).m.p:=by
 rcases o with c|K'|r|⟨e,m⟩
 ·show fits 0;unfold fits;omega
 ·show fits 0;unfold fits;omega
 ·show fits 0;unfold fits;omega
 ·exact map_fits e K.lv K.q
namespace Cr.Ok
variable {C:Cr} {S:Fs}
theorem new:Cr.new.Ok:=⟨Kept.nil,Wk.off_ok⟩
theorem begin (h:C.Ok) (root q k:Int) (u:Bool):(C.bgN root q k u).Ok:=by
 unfold Cr.bgN
 split
 ·rename_i hc
  exact⟨h.kept,Wk.start_ok (access_page hc.1)⟩
 ·exact h
theorem step (h:C.Ok) (hS:S.Ok) (root:Int):(C.stN S root).Ok:=by
 refine⟨?_,kOut_ok hS h.walk root⟩
 show Kept (rPut _ _)
 unfold rPut
 split
 ·exact h.kept.put _
 ·exact h.kept
theorem told (h:C.Ok) (root:Int) (m:Mp):(C.told root m).Ok:=⟨h.kept.drop m,h.walk.again root⟩
theorem evict (h:C.Ok):C.evict.Ok:=⟨h.kept.tail,h.walk⟩
end Cr.Ok
end Pg
namespace Pg
def Wk.at' (q k:Int) (u:Bool) (t:Int) (lv:Nat) (x:Int):Wk:=⟨true,q,k,u,t,lv,x⟩
theorem rCode_of {S:Fs} {t:Int} {i lv:Nat} (h:S.has t=true):rCode S t i lv=dCode (S.word t.toNat i) lv/\rEn S t i lv=En.of (S.word t.toNat i) lv:=by
 unfold rCode rEn
 rw[if_pos h,if_pos h]
 exact⟨rfl,rfl⟩
theorem kRead (S:Fs) (root q k:Int) (u:Bool) (t:Int) (lv:Nat):
 kOut S root (Wk.at' q k u t lv 0)=
  if rCode S t (ix q lv) lv≠0 then .code (rCode S t (ix q lv) lv)
  else if (rEn S t (ix q lv) lv).t=false then .stop 1
  else if (rEn S t (ix q lv) lv).l=false then .go (Wk.at' q k u (rEn S t (ix q lv) lv).f (lv-1) 0)
  else if may (rEn S t (ix q lv) lv).r k u=false then .stop 2
  else if (Wk.at' q k u t lv 0).ready (rEn S t (ix q lv) lv)=false then .go (Wk.at' q k u t lv (S.word t.toNat (ix q lv)))
  else .done (rEn S t (ix q lv) lv) false:=by
 unfold kOut
 rw[if_neg (by simp[Wk.at'])]
 cases h:S.has t
 ·have hr:rCode S t (ix q lv) lv=12:=by simp[rCode,h]
  rw[if_pos (show S.has (Wk.at' q k u t lv 0).t=false from h),hr,if_pos (by decide)]
 ·obtain⟨h1,h2⟩:=rCode_of (i:=ix q lv) (lv:=lv) h
  rw[if_neg (show ¬S.has (Wk.at' q k u t lv 0).t=false by rw[show(Wk.at' q k u t lv 0).t=t from rfl,h];decide),if_neg (show ¬(Wk.at' q k u t lv 0).x≠0 from fun h=>h rfl),h1,h2]
  rfl
theorem kMark {S:Fs} {root q k:Int} {u:Bool} {t:Int} {lv:Nat} {x:Int} (hx:x≠0) (hh:S.has t=true) (hw:S.word t.toNat (ix q lv)=x):
 kOut S root (Wk.at' q k u t lv x)= .done ((Wk.at' q k u t lv x).mark (En.of x lv)) true:=by
 unfold kOut
 rw[if_neg (by simp[Wk.at']),if_neg (show ¬S.has (Wk.at' q k u t lv x).t=false by rw[show(Wk.at' q k u t lv x).t=t from rfl,hh];decide),if_pos (show(Wk.at' q k u t lv x).x≠0 from hx),if_pos (show(Wk.at' q k u t lv x).word S=(Wk.at' q k u t lv x).x from hw)]
 rfl
theorem mark_leaf {K:Wk} {e:En} {lv:Int} (hl:e.l=true) (hf:e.fault lv=0):(K.mark e).fault lv=0/\∀q,(K.mark e).map lv q=e.map lv q:=by
 obtain⟨t,l,r,u,d,f⟩:=e
 simp only at hl
 subst hl
 have h:=(marks true (d||K.k==1) hf).2.1
 refine⟨h,fun q=> ?_⟩
 unfold En.map lPage lSize lFrame lRights lOk
 have h0:eFault t true r u d f lv=0:=hf
 show(⟨_,_,_,_⟩:Mp)=_
 simp only[Wk.mark,h,h0]
theorem mark_same {K:Wk} {e:En} (h:K.ready e=true):K.mark e=e:=by
 obtain⟨t,l,r,u,d,f⟩:=e
 unfold Wk.ready at h
 unfold Wk.mark
 cases hk:(K.k==1)<;>simp_all
structure Fin where
 R:Rs
 n:Int
 c:Int
 S:Fs
 K:Wk
def fin (root:Int):Nat->Int->Fs->Wk->Fin
 | 0,_,S,K=>⟨Rs.zero,20,-1,S,K⟩
 | f+1,i,S,K=>if (kOut S root K).cd≠0\/(kOut S root K).ended=true then⟨(kOut S root K).res K,i,(kOut S root K).cd,(kOut S root K).fs S K,(kOut S root K).next K⟩
   else fin root f (i+1) ((kOut S root K).fs S K) ((kOut S root K).next K)
theorem kst_word {S:Fs} {t i v:Int} (x j:Nat) (h:x≠t.toNat):(S.store t i v).word x j=S.word x j:=by
 unfold Fs.store
 split
 ·show Fs.put S.word t.toNat i.toNat v x j=_
  unfold Fs.put
  rw[if_neg (fun e=>h e.1)]
 ·rfl
end Pg
end Go.Proofs.YtkhnelgommaioaaGreat
