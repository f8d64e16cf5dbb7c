import Derived.Test.YtkhnelgommaioaaGreatMemLay
import Derived.Test.YtkhnelgommaioaaGreatPlainF
import Derived.Test.YtkhnelgommaioaaGreatPlainB
namespace Go.Proofs.YtkhnelgommaioaaGreat
open Go.RowKit
namespace Pg
structure En where
 t:Bool
 l:Bool
 r:Int
 u:Bool
 d:Bool
 f:Int
namespace En
def zero:En:=⟨false,false,0,false,false,0⟩
def of (W lv:Int):En:=⟨dGood W lv,xL W lv,xR W lv,xU W lv,xD W lv,xF W lv⟩
def val (e:En):Value:= .agg #[.bool e.t,.bool e.l,.int .i64 e.r,.bool e.u,.bool e.d,.int .i64 e.f]
def on (e:En):Bool:=e.t&& !e.l
def map (e:En) (lv q:Int):Mp:=⟨lPage e.t e.l e.r e.u e.d e.f lv q,lSize e.t e.l e.r e.u e.d e.f lv q,lFrame e.t e.l e.r e.u e.d e.f lv q,lRights e.t e.l e.r e.u e.d e.f lv q⟩
def fault (e:En) (lv:Int):Int:=eFault e.t e.l e.r e.u e.d e.f lv
end En
theorem decV_of (W lv:Int):decV W lv= .tuple #[(En.of W lv).val,.int .i64 (dCode W lv)]:=rfl
theorem mapV_of (e:En) (lv q:Int):mapV e.t e.l e.r e.u e.d e.f lv q=(e.map lv q).val:=rfl
def rCode (S:Fs) (t:Int) (i lv:Nat):Int:=if S.has t=true then dCode (S.word t.toNat i) lv else 12
def rEn (S:Fs) (t:Int) (i lv:Nat):En:=if S.has t=true then En.of (S.word t.toNat i) lv else En.zero
structure Sp where
 table:Int
 place:Nat
 level:Nat
 ahead:Nat
 e:En
def spt (S:Fs) (t:Int) (i lv a:Nat):Sp:=⟨t,i,lv,a+i,rEn S t i lv⟩
section
variable (S:Fs) (L:Nat->Nat->Bool)
def out (lv:Nat) (rec:Int->Nat->List Sp×Int) (t:Int) (a i:Nat):List Sp×Int:=
 if L i lv=false then([],0)
 else if rCode S t i lv≠0 then([],rCode S t i lv)
 else if (rEn S t i lv).on=false then([spt S t i lv a],0)
 else(spt S t i lv a::(rec (rEn S t i lv).f ((a+i)*8)).1,(rec (rEn S t i lv).f ((a+i)*8)).2)
def scan (lv:Nat) (rec:Int->Nat->List Sp×Int) (t:Int) (a:Nat):Nat->Nat->List Sp×Int
 | 0,_=>([],0)
 | n+1,i=>if (out S L lv rec t a i).2≠0 then out S L lv rec t a i
   else((out S L lv rec t a i).1++(scan lv rec t a n (i+1)).1,(scan lv rec t a n (i+1)).2)
def thr:Nat->Int->Nat->List Sp×Int
 | 0,t,a=>scan S L 0 (fun _ _=>([],0)) t a 8 0
 | lv+1,t,a=>scan S L (lv+1) (thr lv) t a 8 0
def sub:Nat->Int->Nat->List Sp×Int
 | 0=>fun _ _=>([],0)
 | lv+1=>thr S L lv
end
theorem thr_eq (S:Fs) (L:Nat->Nat->Bool) (lv:Nat) (t:Int) (a:Nat):thr S L lv t a=scan S L lv (sub S L lv) t a 8 0:=by
 cases lv<;>rfl
def cnt':Nat->Nat
 | 0=>0
 | lv+1=>8*(1+cnt' lv)
theorem out_len {S:Fs} {L:Nat->Nat->Bool} {lv:Nat} {rec:Int->Nat->List Sp×Int} {t:Int} {a i c:Nat} (h:∀t a,(rec t a).1.length<=c):(out S L lv rec t a i).1.length<=1+c:=by
 unfold out
 split
 ·simp
 ·split
  ·simp
  ·split
   ·simp
   ·have:=h (rEn S t i lv).f ((a+i)*8)
    simp
    omega
theorem scan_len {S:Fs} {L:Nat->Nat->Bool} {lv:Nat} {rec:Int->Nat->List Sp×Int} {t:Int} {a c:Nat} (h:∀t a,(rec t a).1.length<=c):∀n i,(scan S L lv rec t a n i).1.length<=n*(1+c)
 | 0,_=>by simp[scan]
 | n+1,i=>by
   have h1:=out_len (S:=S) (L:=L) (lv:=lv) (t:=t) (a:=a) (i:=i) h
   have h2:=scan_len (S:=S) (L:=L) (lv:=lv) (t:=t) (a:=a) h n (i+1)
   unfold scan
   rw[Nat.add_mul]
   split
   ·omega
   ·simp
    omega
theorem sub_len (S:Fs) (L:Nat->Nat->Bool):∀lv t a,(sub S L lv t a).1.length<=cnt' lv
 | 0,_,_=>by simp[sub]
 | lv+1,t,a=>by
   show(thr S L lv t a).1.length<=_
   rw[thr_eq]
   exact scan_len (fun t a=>sub_len S L lv t a) 8 0
theorem thr_len (S:Fs) (L:Nat->Nat->Bool) (lv:Nat) (t:Int) (a:Nat):(thr S L lv t a).1.length<=cnt' (lv+1):=sub_len S L (lv+1) t a
def ix (p:Int) (lv:Nat):Nat:=(p/8^lv%8).toNat
theorem ix_lt (p:Int) (lv:Nat):ix p lv<8:=by unfold ix;omega
theorem index_ix {p:Int} (h:below p 4096=true) {lv:Nat} (hl:lv<4):index p (lv:Int)=(ix p lv:Nat):=by
 have hb:below (lv:Int) 4=true:=zB.2 ⟨by omega,by omega⟩
 simp only[index,h,hb,Bool.and_self,if_true,Int.toNat_natCast,ix]
 omega
def onW (p:Int) (i lv:Nat):Bool:=decide (i=ix p lv)
def zW (_ _:Nat):Bool:=true
def Sp.mp (s:Sp):Mp:=s.e.map s.level (s.ahead*span s.level)
def zM (X:List Sp):List Mp:=X.flatMap fun s=>if s.e.l=true then [s.mp]else []
def zU (X:List Sp):List Int:=X.flatMap fun s=>if s.e.on=true then [s.e.f]else []
theorem mapsOf_append (X Y:List Sp):zM (X++Y)=zM X++zM Y:=by simp[zM]
theorem tabsOf_append (X Y:List Sp):zU (X++Y)=zU X++zU Y:=by simp[zU]
theorem mapsOf_len (X:List Sp):(zM X).length<=X.length:=by
 induction X with
 | nil=>simp[zM]
 | cons s X ih=>
   have:zM (s::X)=(if s.e.l=true then [s.mp]else [])++zM X:=by simp[zM]
   rw[this]
   split<;>simp<;>omega
theorem tabsOf_len (X:List Sp):(zU X).length<=X.length:=by
 induction X with
 | nil=>simp[zU]
 | cons s X ih=>
   have:zU (s::X)=(if s.e.on=true then [s.e.f]else [])++zU X:=by simp[zU]
   rw[this]
   split<;>simp<;>omega
section
variable {S:Fs}
theorem rEn_fault (h:S.Ok) {t:Int} {i lv:Nat} (hc:rCode S t i lv=0):(rEn S t i lv).fault lv=0:=by
 unfold rCode at hc
 split at hc
 ·rename_i hh
  unfold rEn
  rw[if_pos hh]
  exact(enc_dec (h.low _ _) hc).1
 ·omega
theorem rEn_leaf (h:S.Ok) {t:Int} {i lv:Nat} (hl:(rEn S t i lv).l=true):rCode S t i lv=0/\(rEn S t i lv).t=true/\lv<=2:=by
 have hc:rCode S t i lv=0:=by
  unfold rEn at hl
  unfold rCode
  split at hl
  ·rename_i hh
   rw[if_pos hh]
   simp[En.of,xL,dGood]at hl
   exact hl.1.1
  ·simp[En.zero]at hl
 have hf:=rEn_fault h hc
 obtain⟨_,hx⟩:=fault_zero hf
 rcases hx with ⟨_,h1,_⟩|⟨h0,_,_,_,_,⟨_,h2,_⟩|⟨h1,_⟩⟩
 ·rw[h1]at hl;cases hl
 ·exact⟨hc,h0,by omega⟩
 ·rw[h1]at hl;cases hl
end
theorem rEn_on {S:Fs} {t:Int} {i lv:Nat} (ho:(rEn S t i lv).on=true):∃m,lv=m+1:=by
 cases lv with
 | succ m=>exact⟨m,rfl⟩
 | zero=>
   exfalso
   unfold rEn at ho
   split at ho
   ·simp[En.on,En.of,xL,dLeaf]at ho
   ·simp[En.on,En.zero]at ho
theorem rCode_has {S:Fs} {t:Int} {i lv:Nat} (hc:rCode S t i lv=0):S.has t=true:=by
 unfold rCode at hc
 split at hc
 ·assumption
 ·omega
theorem scan_one {S:Fs} {L:Nat->Nat->Bool} {lv:Nat} {rec:Int->Nat->List Sp×Int} {t:Int} {a k:Nat} (hL:∀i,L i lv=decide (i=k)):∀n i,scan S L lv rec t a n i=if i<=k/\k<i+n then out S L lv rec t a k else([],0)
 | 0,i=>by rw[if_neg (by omega)];rfl
 | n+1,i=>by
   have ih:=scan_one (S:=S) (rec:=rec) (t:=t) (a:=a) hL n (i+1)
   unfold scan
   rw[ih]
   by_cases e:i=k
   ·subst e
    have e1:(if i+1<=i/\i<i+1+n then out S L lv rec t a i else([],0))=([],0):=if_neg (by omega)
    have e2:(if i<=i/\i<i+(n+1)then out S L lv rec t a i else([],0))=out S L lv rec t a i:=if_pos (by omega)
    rw[e1,e2]
    split
    ·rfl
    ·rename_i h0
     have h0:(out S L lv rec t a i).2=0:=by simpa using h0
     simp only[List.append_nil]
     rw[<-h0]
   ·have ho:out S L lv rec t a i=([],0):=by
     unfold out
     rw[if_pos (by rw[hL];simpa using e)]
    rw[ho]
    simp only[ne_eq,not_true_eq_false,if_false,List.nil_append]
    by_cases hk:i+1<=k/\k<i+1+n
    ·rw[if_pos hk,if_pos (by omega)]
    ·rw[if_neg hk,if_neg (by omega)]
theorem thr_way (S:Fs) (p:Int) (lv:Nat) (t:Int) (a:Nat):thr S (onW p) lv t a=
 if rCode S t (ix p lv) lv≠0 then([],rCode S t (ix p lv) lv)
 else if (rEn S t (ix p lv) lv).on=false then([spt S t (ix p lv) lv a],0)
 else(spt S t (ix p lv) lv a::(sub S (onW p) lv (rEn S t (ix p lv) lv).f ((a+ix p lv)*8)).1,(sub S (onW p) lv (rEn S t (ix p lv) lv).f ((a+ix p lv)*8)).2):=by
 have:=ix_lt p lv
 rw[thr_eq,scan_one (k:=ix p lv) (fun i=>rfl),if_pos (by omega)]
 unfold out
 rw[if_neg (by simp[onW])]
theorem scan_zero {S:Fs} {L:Nat->Nat->Bool} {lv:Nat} {rec:Int->Nat->List Sp×Int} {t:Int} {a:Nat}:∀n i,(scan S L lv rec t a n i).2=0->
 (∀j,i<=j->j<i+n->(out S L lv rec t a j).2=0)/\(scan S L lv rec t a n i).1=(List.range' i n).flatMap fun j=>(out S L lv rec t a j).1
 | 0,i,_=>⟨fun j h1 h2=>by omega,by simp[scan]⟩
 | n+1,i,hz=>by
   unfold scan at hz ⊢
   split at hz
   ·rename_i hh
    exact absurd hz hh
   ·rename_i hh
    have h0:(out S L lv rec t a i).2=0:=by simpa using hh
    obtain⟨ih1,ih2⟩:=scan_zero n (i+1) hz
    refine⟨fun j h1 h2=> ?_,?_⟩
    ·by_cases e:j=i
     ·rw[e];exact h0
     ·exact ih1 j (by omega) (by omega)
    ·rw[if_neg hh,ih2,List.range'_succ,List.flatMap_cons]
end Pg
end Go.Proofs.YtkhnelgommaioaaGreat
