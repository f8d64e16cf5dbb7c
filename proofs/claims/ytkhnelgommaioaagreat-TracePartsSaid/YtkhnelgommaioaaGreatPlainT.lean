import Derived.Test.YtkhnelgommaioaaGreatWalkE
namespace Go.Proofs.YtkhnelgommaioaaGreat
open Go.RowKit
def lastT (X:List Pg.Sp):Int:=match X.getLast? with
 | some s=>s.table
 | none=>0
namespace Pg
def tFC (S:Fs) (t p:Int):Int:=if fndC S t p≠0 then fndC S t p else if (lastE (fndX S t p)).t=true then 0 else 5
def tFM (S:Fs) (t p:Int):Mp:=if tFC S t p=0 then(lastE (fndX S t p)).map (lastL (fndX S t p)) p else .zz
def tFE (S:Fs) (t p:Int):En:=if tFC S t p=0 then lastE (fndX S t p)else En.zero
def insC (S:Fs) (t:Int) (m:Mp):Int:=
 if m.code≠0 then m.code else if fndC S t m.p≠0 then fndC S t m.p
 else if (lastE (fndX S t m.p)).t=true\/lastL (fndX S t m.p)<m.s then 4 else if S.free<lastL (fndX S t m.p)-m.s then 6 else 0
def insW (p s:Int):Nat->Fs->Int->Fs×Int
 | 0,S,t=>(S,t)
 | lv+1,S,t=>if ((lv+1:Nat):Int)<=s then(S,t)else insW p s lv (S.take.store t (index p ((lv+1:Nat):Int)) (enc true false 7 false false S.takeN ((lv+1:Nat):Int))) S.takeN
def insS (S:Fs) (t:Int) (m:Mp):Fs:=if insC S t m=0 then
 (insW m.p m.s (lastL (fndX S t m.p)).toNat S (lastT (fndX S t m.p))).1.store (insW m.p m.s (lastL (fndX S t m.p)).toNat S (lastT (fndX S t m.p))).2 (index m.p m.s) (enc true true m.r false false m.f m.s)else S
def emptyT (S:Fs) (t:Int):Bool:=(List.range 8).all fun i=>S.word t.toNat i==0
def rmW (p:Int) (ts:List Int):Nat->Fs->List Int->Fs×List Int
 | 0,S,G=>(S,G)
 | k+1,S,G=>if k=0\/emptyT (S.store (ts.getD k 0) (index p (3-(k:Int))) 0) (ts.getD k 0)=false then(S.store (ts.getD k 0) (index p (3-(k:Int))) 0,G)
   else rmW p ts k (S.store (ts.getD k 0) (index p (3-(k:Int))) 0) (G++[ts.getD k 0])
def rmR (S:Fs) (t p:Int):Fs×List Int:=if tFC S t p=0 then rmW p (tabs (fndX S t p)) (fndX S t p).length S []else(S,[])
def prC (S:Fs) (t p r:Int):Int:=if r<0\/7<r then 1 else tFC S t p
def prM (S:Fs) (t p r:Int):Mp:=if prC S t p r=0 then(tFM S t p).rts r else .zz
def prS (S:Fs) (t p r:Int):Fs:=if prC S t p r=0 then
 S.store (lastT (fndX S t p)) (index p (lastL (fndX S t p))) (enc (lastE (fndX S t p)).t (lastE (fndX S t p)).l r (lastE (fndX S t p)).u (lastE (fndX S t p)).d (lastE (fndX S t p)).f (lastL (fndX S t p)))else S
theorem way_like (S:Fs) (p:Int):∀(lv:Nat) (t:Int) (a:Nat),(∀s,s ∈ (thr S (onW p) lv t a).1->S.has s.table=true)/\
 ((thr S (onW p) lv t a).2=0->∃s,(thr S (onW p) lv t a).1.getLast?=some s/\s.level+(thr S (onW p) lv t a).1.length=lv+1/\s.e=rEn S s.table (ix p s.level) s.level/\rCode S s.table (ix p s.level) s.level=0/\s.e.on=false):=by
 intro lv
 induction lv with
 | zero=>
   intro t a
   rw[thr_way]
   split
   ·rename_i h1
    exact⟨fun s hs=>by simp at hs,fun h=>absurd h h1⟩
   ·rename_i h1
    have h1:rCode S t (ix p 0) 0=0:=by simpa using h1
    split
    ·rename_i h2
     refine⟨fun s hs=> ?_,fun _=>⟨spt S t (ix p 0) 0 a,rfl,rfl,rfl,h1,h2⟩⟩
     simp at hs
     subst hs
     exact rCode_has h1
    ·rename_i h2
     obtain⟨m,hm⟩:=rEn_on (S:=S) (t:=t) (i:=ix p 0) (lv:=0) (by simpa using h2)
     omega
 | succ lv ih=>
   intro t a
   rw[thr_way]
   split
   ·rename_i h1
    exact⟨fun s hs=>by simp at hs,fun h=>absurd h h1⟩
   ·rename_i h1
    have h1:rCode S t (ix p (lv+1)) (lv+1)=0:=by simpa using h1
    split
    ·rename_i h2
     refine⟨fun s hs=> ?_,fun _=>⟨spt S t (ix p (lv+1)) (lv+1) a,rfl,rfl,rfl,h1,h2⟩⟩
     simp at hs
     subst hs
     exact rCode_has h1
    ·rename_i h2
     obtain⟨i1,i2⟩:=ih (rEn S t (ix p (lv+1)) (lv+1)).f ((a+ix p (lv+1))*8)
     refine⟨fun s hs=> ?_,fun hz=> ?_⟩
     ·simp at hs
      rcases hs with rfl|hs
      ·exact rCode_has h1
      ·exact i1 s hs
     ·obtain⟨s,j1,j2,j3⟩:=i2 hz
      refine⟨s,?_,?_,j3⟩
      ·simp only[sub]
       rw[List.getLast?_cons,j1]
       rfl
      ·simp only[sub,List.length_cons]
       omega
structure Way (S:Fs) (t p:Int) (X:List Sp) (lv:Nat) (e:En) (tl:Int):Prop where
 below:below p 4096=true
 has:∀x,x ∈ tabs X->S.has x=true
 len:lv+X.length=4
 lastL:lastL X=(lv:Int)
 lastE:lastE X=e
 lastT:lastT X=tl
 hasT:S.has tl=true
 en:e=rEn S tl (ix p lv) lv
 code:rCode S tl (ix p lv) lv=0
 on:e.on=false
theorem way_of {S:Fs} {t p:Int} (h:fndC S t p=0):∃lv e tl,Way S t p (fndX S t p) lv e tl:=by
 have hp:Pg.below p 4096=true:=by
  cases hp:Pg.below p 4096
  ·simp[fndC,hp]at h
  ·rfl
 have hz:(thr S (onW p) 3 t 0).2=0:=by simpa[fndC,hp]using h
 have eX:fndX S t p=(thr S (onW p) 3 t 0).1:=by simp[fndX,hp,hz]
 obtain⟨h1,h2⟩:=way_like S p 3 t 0
 obtain⟨s,j1,j2,j3,j4,j5⟩:=h2 hz
 have hs:s ∈ (thr S (onW p) 3 t 0).1:=List.mem_of_getLast? j1
 refine⟨s.level,s.e,s.table,hp,fun x hx=> ?_,?_,?_,?_,?_,h1 s hs,?_,?_,j5⟩
 ·rw[eX]at hx
  simp only[tabs,List.mem_map]at hx
  obtain⟨s',hs',rfl⟩:=hx
  exact h1 s' hs'
 ·rw[eX];exact j2
 ·rw[eX];unfold Go.Proofs.YtkhnelgommaioaaGreat.lastL;rw[j1]
 ·rw[eX];unfold Go.Proofs.YtkhnelgommaioaaGreat.lastE;rw[j1]
 ·rw[eX];unfold Go.Proofs.YtkhnelgommaioaaGreat.lastT;rw[j1]
 ·exact j3
 ·exact j4
theorem store_n (S:Fs) (t i v:Int):(S.store t i v).n=S.n/\(S.store t i v).used=S.used/\(S.store t i v).back=S.back/\(S.store t i v).next=S.next:=by
 unfold Fs.store
 split<;>exact⟨rfl,rfl,rfl,rfl⟩
theorem store_has (S:Fs) (t i v x:Int):(S.store t i v).has x=S.has x:=by
 unfold Fs.has Fs.inn
 rw[(store_n S t i v).2.1]
theorem store_free (S:Fs) (t i v:Int):(S.store t i v).free=S.free:=by
 obtain⟨h1,_,h3,h4⟩:=store_n S t i v
 unfold Fs.free
 rw[h1,h3,h4]
theorem take_some {S:Fs} (h:S.Ok) (hf:0<S.free):∃k:Nat,S.pick=some k/\S.takeN=(k:Int)/\k<S.n/\S.take.has (k:Int)=true/\(∀x,S.has x=true->S.take.has x=true)/\S.take.free=S.free-1/\S.take.n=S.n:=by
 unfold Fs.free at hf
 have ht:=h.top
 unfold Fs.takeN Fs.pick Fs.take Fs.has Fs.inn Fs.free
 cases hb:S.back.getLast? with
 | some k=>
   have hl:S.back=S.back.dropLast++[k]:=by
    obtain⟨l,hl⟩:=List.getLast?_eq_some_iff.1 hb
    simp[hl]
   have hlen:S.back.length=S.back.dropLast.length+1:=by
    have:=congrArg List.length hl
    simpa using this
   have hk:k<S.n:=by
    have:=h.backLt (List.mem_of_getLast? hb)
    omega
   refine⟨k,rfl,rfl,hk,by simp,fun x hx=> ?_,?_,rfl⟩
   ·simp at hx ⊢
    exact⟨hx.1,.inr hx.2⟩
   ·simp only
    omega
 | none=>
   have hbn:S.back=[]:=by simpa using hb
   rw[hbn]at hf
   simp at hf
   have hlt:S.next<S.n:=by omega
   simp only[hlt,if_true]
   refine⟨S.next,rfl,rfl,hlt,by simp,fun x hx=> ?_,?_,trivial⟩
   ·simp at hx ⊢
    exact⟨hx.1,.inr hx.2⟩
   ·omega
theorem enc_bd (t l:Bool) (r:Int) (u d:Bool) (f lv:Int):0<=enc t l r u d f lv/\enc t l r u d f lv<18446744073709551616:=by
 unfold enc
 split
 ·rename_i h
  obtain⟨_,hc⟩:=fault_zero h
  unfold eWord b01
  rcases hc with ⟨rfl,_⟩|⟨rfl,r0,r1,f0,f1,_⟩
  ·simp
  ·simp only[if_true]
   split<;>split<;>split<;>omega
 ·omega
end Pg
end Go.Proofs.YtkhnelgommaioaaGreat
