import Derived.Test.YtdphiompijbelaaGreatSetTen
set_option linter.all false
set_option maxRecDepth 100000
open Nat renaming two_pow_add_eq_or_of_lt->O,testBit_mul_two_pow->g,and_or_distrib_left->kI,or_eq_zero_iff->kP,xor_self->kO
open List renaming findIdx?_eq_some_iff_getElem->Q,findIdx?_eq_none_iff->A,filter_append->kS,mem_singleton->kC,drop_sublist->kY,filter_cons->kF,append_nil->kV,filter_nil->kQ
open Go.IntKind renaming i64->V,u64->U
open Go.Value renaming int->N,bool->Z,agg->kT,tuple->kZ
open Int renaming eq_ofNat_of_zero_le->B,ediv_ediv_of_nonneg->E,toNat_natCast->kN,pow_succ->kU,pow_add->kK
open Bool renaming false->I,true->J,false_eq_true->D,and_eq_true->G,or_eq_true->kJ,not_eq_true'->kR
namespace Go.Proofs.YtdphiompijbelaaGreat
open Go.RowKit
namespace Pg
def ygu (t l:Bool) (r:Int) (u d:Bool) (f lv:Int):Int:=
 if lv<0\/3<lv then 1
 else if t=I then(if l=J\/r≠0\/u=J\/d=J\/f≠0 then 7 else 0)
 else if r<0\/7<r\/f<0\/1048576<=f then 1
 else if (l=J/\lv=3)\/(l=I/\lv=0)then 2
 else if l=J then(if f%span lv=0 then 0 else 3)
 else if r≠7\/u=J\/d=J then 7 else 0
def b01 (b:Bool):Int:=if b=J then 1 else 0
def yg2 (t l:Bool) (r:Int) (u d:Bool) (f lv:Int):Int:=
 if t=J then f*4096+r*2+1+32*b01 u+64*b01 d+(if l=J/\lv≠0 then 128 else 0)else 0
def enc (t l:Bool) (r:Int) (u d:Bool) (f lv:Int):Int:=if ygu t l r u d f lv=0 then yg2 t l r u d f lv else 0
def wBad (w lv:Int):Bool:=decide (w≠0/\¬(w%2=1/\w/16%2=0/\w/256%16=0/\w<4294967296/\¬(lv=0/\w/128%2=1)))
def ygP (w lv:Int):Bool:=decide (lv=0)||decide (w/128%2=1)
def ygN (w:Int):Bool:=decide (w/32%2=1)
def ygC (w:Int):Bool:=decide (w/64%2=1)
def ygz (w lv:Int):Int:=
 if lv<0\/3<lv then 1 else if wBad w lv=J then 7 else if w=0 then 0
 else ygu J (ygP w lv) (w/2%8) (ygN w) (ygC w) (w/4096) lv
def ygD (w lv:Int):Bool:=decide (ygz w lv=0)&&decide (w≠0)
def xL (w lv:Int):Bool:=ygD w lv&&ygP w lv
def xR (w lv:Int):Int:=if ygD w lv=J then w/2%8 else 0
def xU (w lv:Int):Bool:=ygD w lv&&ygN w
def xD (w lv:Int):Bool:=ygD w lv&&ygC w
def xF (w lv:Int):Int:=if ygD w lv=J then w/4096 else 0
def lOk (t l:Bool) (r:Int) (u d:Bool) (f lv at':Int):Bool:=decide (ygu t l r u d f lv=0)&&l&&below at' 4096
def yh1 (t l:Bool) (r:Int) (u d:Bool) (f lv at':Int):Int:=if lOk t l r u d f lv at'=J then at'-at'%span lv else 0
def yir (t l:Bool) (r:Int) (u d:Bool) (f lv at':Int):Int:=if lOk t l r u d f lv at'=J then lv else 0
def yhV (t l:Bool) (r:Int) (u d:Bool) (f lv at':Int):Int:=if lOk t l r u d f lv at'=J then f else 0
def yhv (t l:Bool) (r:Int) (u d:Bool) (f lv at':Int):Int:=if lOk t l r u d f lv at'=J then r else 0
def bit (w:Int) (k:Nat):Bool:=decide (w/2^k%2=1)
def known (k:Nat):Bool:=decide (k<=3)||(decide (5<=k)&&decide (k<=7))||(decide (12<=k)&&decide (k<=31))
def ygJ (w lv:Int) (k:Nat):Bool:=bit w k&&(!known k|| !bit w 0||(decide (k=7)&&decide (lv=0)))
theorem yg6:∀(n:Nat) (v:Int),0<=v->v<2^n->(∀j,j<n->v/2^j%2=0)->v=0
 | 0,v,h0,h1,_=>by simp at h1;omega
 | n+1,v,h0,h1,h=>by
   have e0:v%2=0:=by simpa using h 0 (by omega)
   have h2:v/2=0:=by
    refine yg6 n (v/2) (by omega) ?_ ?_
    ·rw[kU]at h1;omega
    ·intro j hj
     have:=h (j+1) (by omega);rw[kU,Int.mul_comm,<-E (by omega)]at this;exact this
   omega
theorem yin {w:Int} {k:Nat} (h:bit w k=I):w/2^k%2=0:=by
 simp[bit]at h;omega
theorem good_of_bits {w lv:Int} (h0:0<=w) (h1:w<18446744073709551616) (h:∀k,k<64->ygJ w lv k=I):wBad w lv=I:=by
 cases hb:bit w 0
 ·have hz:w=0:=by
   refine yg6 64 w h0 (by simpa using h1) ?_;intro j hj;refine yin ?_;have:=h j hj;cases hj:bit w j
   ·rfl
   ·simp[ygJ,hj,hb]at this
  simp[wBad,hz]
 ·have hu:∀k,k<64->known k=I->w/2^k%2=0:=by
   intro k hk hkn;refine yin ?_;have:=h k hk;cases hj:bit w k
   ·rfl
   ·simp[ygJ,hj,hkn]at this
  have e0:w%2=1:=by simpa[bit]using hb
  have e4:w/16%2=0:=by simpa using hu 4 (by omega) (by decide)
  have e8:w/256%16=0:=by
   have a8:w/256%2=0:=by simpa using hu 8 (by omega) (by decide)
   have a9:w/512%2=0:=by simpa using hu 9 (by omega) (by decide)
   have a10:w/1024%2=0:=by simpa using hu 10 (by omega) (by decide)
   have a11:w/2048%2=0:=by simpa using hu 11 (by omega) (by decide)
   omega
  have e32:w<4294967296:=by
   have:w/4294967296=0:=by
    refine yg6 32 _ (by omega) (by simp;omega) ?_;intro j hj;have:=hu (32+j) (by omega) (by simp[known];omega);rw[kK,<-E (by decide)]at this
    simpa using this
   omega
  have e7:¬(lv=0/\w/128%2=1):=by
   rintro ⟨hl,h7⟩;have:=h 7 (by omega)
   have hb7:bit w 7=J:=by simpa[bit]using h7
   simp[ygJ,hb7,hl]at this
  simp[wBad,e0,e4,e8,e32];intro _ hl;exact fun h7=>absurd ⟨hl,h7⟩ e7
theorem bits_of_good {w lv:Int} (h0:0<=w) {k:Nat} (hk:k<64) (h:ygJ w lv k=J):wBad w lv=J:=by
 simp only[ygJ,G,kJ,kR]at h;obtain⟨hb,hc⟩:=h
 have hb':w/2^k%2=1:=by simpa[bit]using hb
 have hw:w≠0:=by
  intro e;subst e;simp at hb'
 simp only[wBad,decide_eq_true_eq];refine⟨hw,?_⟩;rintro ⟨e0,e4,e8,e32,e7⟩;rcases hc with (hc|hc)|hc
 ·have:k=4\/k=8\/k=9\/k=10\/k=11\/32<=k:=by simp[known]at hc;omega
  rcases this with e|e|e|e|e|e
  ·subst e;simp at hb';omega
  ·subst e;simp at hb';omega
  ·subst e;simp at hb';omega
  ·subst e;simp at hb';omega
  ·subst e;simp at hb';omega
  ·obtain⟨j,rfl⟩:∃j,k=32+j:=⟨k-32,by omega⟩
   rw[kK,<-E (by decide)]at hb'
   have:w/2^32=0:=by simp;omega
   rw[this]at hb';simp at hb'
 ·simp[bit]at hc;omega
 ·simp at hc
  obtain⟨rfl,hl⟩:=hc;exact e7 ⟨hl,by simpa using hb'⟩
theorem bitBad_off {w lv:Int} {k:Nat} (h:bit w k=I):ygJ w lv k=I:=by simp[ygJ,h]
theorem yhT {w lv:Int} {k:Nat} (hk:known k=J) (h0:bit w 0=J) (h7:¬(k:Int)=7\/¬lv=0):ygJ w lv k=I:=by
 have:¬(k=7/\lv=0):=by omega
 simp[ygJ,hk,h0];intro _ h;omega
theorem bitBad_unknown {w lv:Int} {k:Nat} (h:bit w k=J) (hk:known k=I):ygJ w lv k=J:=by simp[ygJ,h,hk]
theorem bitBad_zero {w lv:Int} {k:Nat} (h:bit w k=J) (h0:bit w 0=I):ygJ w lv k=J:=by simp[ygJ,h,h0]
theorem bitBad_seven {w lv:Int} {k:Nat} (h:bit w k=J) (h7:(k:Int)=7) (hl:lv=0):ygJ w lv k=J:=by
 have:k=7:=by omega
 subst this;simp[ygJ,h,hl]
theorem ygI {t l:Bool} {r:Int} {u d:Bool} {f lv:Int} (h:ygu t l r u d f lv=0):
 (0<=lv/\lv<=3)/\((t=I/\l=I/\r=0/\u=I/\d=I/\f=0)\/
   (t=J/\0<=r/\r<=7/\0<=f/\f<1048576/\((l=J/\lv<=2/\f%span lv=0)\/(l=I/\1<=lv/\r=7/\u=I/\d=I)))):=by
 unfold ygu at h;split at h
 ·omega
 ·rename_i h1
  refine⟨by omega,?_⟩;split at h
  ·rename_i ht
   left;split at h
   ·omega
   ·rename_i h2
    cases l<;>cases u<;>cases d<;>simp_all
  ·rename_i ht
   right
   have ht:t=J:=by simpa using ht
   split at h
   ·omega
   ·rename_i h3
    split at h
    ·omega
    ·rename_i h4
     refine⟨ht,by omega,by omega,by omega,by omega,?_⟩;split at h
     ·rename_i h5
      left;split at h
      ·rename_i h6
       refine⟨h5,?_,h6⟩;subst h5;simp at h4;omega
      ·omega
     ·rename_i h5
      have h5:l=I:=by simpa using h5
      right;split at h
      ·omega
      ·rename_i h6
       subst h5;simp at h4;refine⟨rfl,by omega,?_⟩
       cases u<;>cases d<;>simp_all
theorem fault_leaf {r:Int} {u d:Bool} {f lv:Int} (hl:0<=lv) (hl2:lv<=2) (r0:0<=r) (r1:r<=7) (f0:0<=f) (f1:f<1048576) (hs:f%span lv=0):ygu J J r u d f lv=0:=by
 unfold ygu;rw[if_neg (by omega),if_neg (by decide),if_neg (by omega),if_neg (by simp;omega),if_pos rfl,if_pos hs]
theorem yhM {lv:Int} (hl:0<=lv) (hl2:lv<=3):ygu I I 0 I I 0 lv=0:=by
 unfold ygu;rw[if_neg (by omega),if_pos rfl,if_neg (by decide)]
theorem yg8 {t l:Bool} {r:Int} {u d:Bool} {f lv:Int} (h:ygu t l r u d f lv=0):enc t l r u d f lv=yg2 t l r u d f lv:=by simp[enc,h]
theorem ygX (b:Bool):(b=J/\b01 b=1)\/(b=I/\b01 b=0):=by cases b<;>simp[b01]
theorem yhQ {t l:Bool} {r:Int} {u d:Bool} {f lv:Int} (h:ygu t l r u d f lv=0):
 0<=enc t l r u d f lv/\enc t l r u d f lv<18446744073709551616/\ygz (enc t l r u d f lv) lv=0/\(enc t l r u d f lv=0 ↔ t=I)/\
 ygD (enc t l r u d f lv) lv=t/\xL (enc t l r u d f lv) lv=l/\xR (enc t l r u d f lv) lv=r/\xU (enc t l r u d f lv) lv=u/\xD (enc t l r u d f lv) lv=d/\xF (enc t l r u d f lv) lv=f:=by
 rw[yg8 h];obtain⟨⟨l0,l3⟩,hc⟩:=ygI h
 have hlv:¬(lv<0\/3<lv):=by omega
 rcases hc with ⟨rfl,rfl,rfl,rfl,rfl,rfl⟩|⟨rfl,r0,r1,f0,f1,hc⟩
 ·have hw:yg2 I I 0 I I 0 lv=0:=rfl
  have hd:ygz 0 lv=0:=by simp[ygz,hlv,wBad]
  rw[hw];refine⟨by omega,by omega,hd,by simp,?_⟩;simp[xL,xR,xU,xD,xF,ygD]
 ·have hw:yg2 J l r u d f lv=f*4096+r*2+1+32*b01 u+64*b01 d+(if l=J/\lv≠0 then 128 else 0):=by simp[yg2]
  generalize hm:(if l=J/\lv≠0 then(128:Int)else 0)=m at hw
  have hm2:(m=128/\l=J/\lv≠0)\/(m=0/\¬(l=J/\lv≠0)):=by
   split at hm
   ·rename_i h';exact .inl ⟨hm.symm,h'⟩
   ·rename_i h';exact .inr ⟨hm.symm,h'⟩
  have hu:=ygX u;have hd:=ygX d;generalize yg2 J l r u d f lv=w at*
  have bu:0<=b01 u/\b01 u<=1:=by omega
  have bd:0<=b01 d/\b01 d<=1:=by omega
  have m0:0<=m/\m<=128:=by omega
  have e1:w/2%8=r:=by omega
  have e4:w/4096=f:=by omega
  have eU:ygN w=u:=by
   rcases hu with ⟨h1,h2⟩|⟨h1,h2⟩<;>rw[h1]<;>simp[ygN]<;>omega
  have eD:ygC w=d:=by
   rcases hd with ⟨h1,h2⟩|⟨h1,h2⟩<;>rw[h1]<;>simp[ygC]<;>omega
  have eL:ygP w lv=l:=by
   by_cases hz:lv=0
   ·have:l=J:=by
     rcases hc with ⟨h1,_⟩|⟨_,h2,_⟩
     ·exact h1
     ·omega
    simp[ygP,hz,this]
   ·rcases hm2 with ⟨h1,h2,_⟩|⟨h1,h2⟩
    ·rw[h2];simp[ygP,hz];omega
    ·have:l=I:=by
      cases l
      ·rfl
      ·exact absurd ⟨rfl,hz⟩ h2
     rw[this];simp[ygP,hz];omega
  have hw0:w≠0:=by omega
  have hbad:wBad w lv=I:=by
   simp only[wBad,decide_eq_false_iff_not];intro hh;refine hh.2 ⟨by omega,by omega,by omega,by omega,?_⟩;rintro ⟨hz,h7⟩
   have:m=0:=by
    rcases hm2 with ⟨_,_,h3⟩|⟨h1,_⟩
    ·exact absurd hz h3
    ·exact h1
   omega
  have hcode:ygz w lv=0:=by
   simp only[ygz,hlv,if_false,hbad,D,hw0];rw[eL,e1,eU,eD,e4];exact h
  have hg:ygD w lv=J:=by simp[ygD,hcode,hw0]
  refine⟨by omega,by omega,hcode,by simp[hw0],hg,?_,?_,?_,?_,?_⟩
  ·simp[xL,hg,eL]
  ·simp[xR,hg,e1]
  ·simp[xU,hg,eU]
  ·simp[xD,hg,eD]
  ·simp[xF,hg,e4]
theorem enc_dec {w lv:Int} (w0:0<=w) (h:ygz w lv=0):
 ygu (ygD w lv) (xL w lv) (xR w lv) (xU w lv) (xD w lv) (xF w lv) lv=0/\enc (ygD w lv) (xL w lv) (xR w lv) (xU w lv) (xD w lv) (xF w lv) lv=w:=by
 by_cases hz:w=0
 ·subst hz
  have hg:ygD 0 lv=I:=by simp[ygD]
  have hlv:¬(lv<0\/3<lv):=by
   intro hl;simp[ygz,hl]at h
  have:ygu I I 0 I I 0 lv=0:=yhM (by omega) (by omega)
  have e:xL 0 lv=I/\xR 0 lv=0/\xU 0 lv=I/\xD 0 lv=I/\xF 0 lv=0:=by simp[xL,xR,xU,xD,xF,hg]
  rw[hg,e.1,e.2.1,e.2.2.1,e.2.2.2.1,e.2.2.2.2];refine⟨this,?_⟩;rw[yg8 this];rfl
 ·have hg:ygD w lv=J:=by simp[ygD,h,hz]
  have hlv:¬(lv<0\/3<lv):=by
   intro hl;simp[ygz,hl]at h
  have hbad:wBad w lv=I:=by
   cases hb:wBad w lv
   ·rfl
   ·simp[ygz,hlv,hb]at h
  have hf:ygu J (ygP w lv) (w/2%8) (ygN w) (ygC w) (w/4096) lv=0:=by
   simp only[ygz,hlv,if_false,hbad,D,hz]at h;exact h
  have e:xL w lv=ygP w lv/\xR w lv=w/2%8/\xU w lv=ygN w/\xD w lv=ygC w/\xF w lv=w/4096:=by simp[xL,xR,xU,xD,xF,hg]
  rw[hg,e.1,e.2.1,e.2.2.1,e.2.2.2.1,e.2.2.2.2];refine⟨hf,?_⟩;rw[yg8 hf];have hb2:=Classical.not_not.1 (fun hn=>of_decide_eq_false hbad ⟨hz,hn⟩);obtain⟨b0,b4,b8,b32,b7⟩:=hb2
  have hu:b01 (ygN w)=w/32%2:=by
   unfold b01 ygN
   split<;>simp_all<;>omega
  have hd:b01 (ygC w)=w/64%2:=by
   unfold b01 ygC
   split<;>simp_all<;>omega
  have hl:(if ygP w lv=J/\lv≠0 then(128:Int)else 0)=128*(w/128%2):=by
   by_cases h7:w/128%2=1
   ·have hl0:lv≠0:=fun e=>b7 ⟨e,h7⟩
    rw[if_pos ⟨by simp[ygP,h7],hl0⟩];omega
   ·rw[if_neg]
    ·omega
    ·rintro ⟨h1,h2⟩
     simp[ygP,h2,h7]at h1
  simp only[yg2,if_true,hu,hd,hl];omega
theorem kint (k:Nat):
 (decide ((k:Int)<=3)=J/\known k=J)\/
 (decide ((k:Int)<=3)=I/\decide (5<=(k:Int))=I/\decide (12<=(k:Int))=I/\known k=I)\/
 (decide ((k:Int)<=3)=I/\decide (5<=(k:Int))=J/\decide ((k:Int)<=7)=J/\known k=J)\/
 (decide ((k:Int)<=3)=I/\decide (5<=(k:Int))=J/\decide ((k:Int)<=7)=I/\decide (12<=(k:Int))=I/\known k=I)\/
 (decide ((k:Int)<=3)=I/\decide (5<=(k:Int))=J/\decide ((k:Int)<=7)=I/\decide (12<=(k:Int))=J/\decide ((k:Int)<=31)=J/\known k=J)\/
 (decide ((k:Int)<=3)=I/\decide (5<=(k:Int))=J/\decide ((k:Int)<=7)=I/\decide (12<=(k:Int))=J/\decide ((k:Int)<=31)=I/\known k=I):=by
 simp[known];omega
def decV (W lv:Int):Value:=kZ #[kT #[Z (Pg.ygD W lv),Z (Pg.xL W lv),N V (Pg.xR W lv),Z (Pg.xU W lv),Z (Pg.xD W lv),N V (Pg.xF W lv)],N V (Pg.ygz W lv)]
theorem yhr {W lv:Int} {c:Int} (h:Pg.ygz W lv=c) (hg:Pg.ygD W lv=I):Pg.decV W lv=kZ #[kT #[Z I,Z I,N V 0,Z I,Z I,N V 0],N V c]:=by
 simp[Pg.decV,Pg.xL,Pg.xR,Pg.xU,Pg.xD,Pg.xF,hg,h]
theorem decV_good {W lv:Int} (h:Pg.ygz W lv=0) (hw:W≠0):Pg.decV W lv=kZ #[kT #[Z J,Z (Pg.ygP W lv),N V (W/2%8),Z (Pg.ygN W),Z (Pg.ygC W),N V (W/4096)],N V 0]:=by
 have hg:Pg.ygD W lv=J:=by simp[Pg.ygD,h,hw]
 simp[Pg.decV,Pg.xL,Pg.xR,Pg.xU,Pg.xD,Pg.xF,hg,h]
def mapV (t l:Bool) (r:Int) (u d:Bool) (f lv at':Int):Value:=kT #[N V (Pg.yh1 t l r u d f lv at'),N V (Pg.yir t l r u d f lv at'),N V (Pg.yhV t l r u d f lv at'),N V (Pg.yhv t l r u d f lv at')]
theorem yhR {t l:Bool} {r:Int} {u d:Bool} {f lv at':Int} (h:Pg.lOk t l r u d f lv at'=I):Pg.mapV t l r u d f lv at'=kT #[N V 0,N V 0,N V 0,N V 0]:=by
 simp[Pg.mapV,Pg.yh1,Pg.yir,Pg.yhV,Pg.yhv,h]
theorem yie {t l:Bool} {r:Int} {u d:Bool} {f lv at':Int} (h:Pg.lOk t l r u d f lv at'=J):Pg.mapV t l r u d f lv at'=kT #[N V (at'-at'%Pg.span lv),N V lv,N V f,N V r]:=by
 simp[Pg.mapV,Pg.yh1,Pg.yir,Pg.yhV,Pg.yhv,h]
theorem enc_inj {t l:Bool} {r:Int} {u d:Bool} {f lv:Int} {t' l':Bool} {r':Int} {u' d':Bool} {f':Int} (h:ygu t l r u d f lv=0) (h':ygu t' l' r' u' d' f' lv=0)
 (e:enc t l r u d f lv=enc t' l' r' u' d' f' lv):t=t'/\l=l'/\r=r'/\u=u'/\d=d'/\f=f':=by
 obtain⟨_,_,_,_,a1,a2,a3,a4,a5,a6⟩:=yhQ h;obtain⟨_,_,_,_,b1,b2,b3,b4,b5,b6⟩:=yhQ h';rw[e]at a1 a2 a3 a4 a5 a6;exact⟨a1.symm.trans b1,a2.symm.trans b2,a3.symm.trans b3,a4.symm.trans b4,a5.symm.trans b5,a6.symm.trans b6⟩
theorem xor_marks (y w:Nat) (h7:y/128=w/128) (h5:y%32=w%32) (hy:y<18446744073709551616) (hw:w<18446744073709551616):
 bits .andNot U (bits .xor U (y:Int) (w:Int)) 96=0:=by
 have hz:y^^^w<18446744073709551616:=Nat.xor_lt_two_pow (n:=64) hy hw;have e0:(96:Int)=((96:Nat):Int):=rfl;rw[u64_xor_nat y w hy hw,e0,u64_andNot_nat _ 96 hz (by decide)]
 have d7:(y^^^w)/2^7=0:=by
  rw[Nat.xor_div_two_pow];have:y/2^7=w/2^7:=h7;rw[this,kO]
 have d5:(y^^^w)%2^5=0:=by
  rw[Nat.xor_mod_two_pow];have:y%2^5=w%2^5:=h5;rw[this,kO]
 generalize y^^^w=z at*
 have:z=0\/z=32\/z=64\/z=96:=by omega
 rcases this with e|e|e|e<;>subst e<;>decide
theorem marks {t:Bool} {r:Int} {u d:Bool} {f lv:Int} (us di:Bool) (h:ygu t J r u d f lv=0):
 t=J/\ygu t J r us di f lv=0/\bits .andNot U (bits .xor U (enc t J r us di f lv) (enc t J r u d f lv)) 96=0/\
 (enc t J r us di f lv=enc t J r u d f lv ↔ us=u/\di=d):=by
 obtain⟨⟨l0,l3⟩,hc⟩:=ygI h;rcases hc with ⟨_,h1,_⟩|⟨ht,r0,r1,f0,f1,⟨_,h2,h3⟩|⟨h1,_⟩⟩
 ·cases h1
 ·subst ht
  have hx:ygu J J r us di f lv=0:=fault_leaf l0 h2 r0 r1 f0 f1 h3;refine⟨rfl,hx,?_,?_⟩
  ·obtain⟨a0,a1,_⟩:=yhQ hx
   obtain⟨b0,b1,_⟩:=yhQ h
   have hy:enc J J r us di f lv=f*4096+r*2+1+32*b01 us+64*b01 di+(if lv≠0 then 128 else 0):=by rw[yg8 hx];simp[yg2]
   have hw:enc J J r u d f lv=f*4096+r*2+1+32*b01 u+64*b01 d+(if lv≠0 then 128 else 0):=by rw[yg8 h];simp[yg2]
   have c1:=ygX us;have c2:=ygX di;have c3:=ygX u;have c4:=ygX d;generalize enc J J r us di f lv=y at*;generalize enc J J r u d f lv=w at*;obtain⟨y',rfl⟩:=B a0;obtain⟨w',rfl⟩:=B b0;generalize hm:(if lv≠0 then(128:Int)else 0)=m at*
   have hm2:m=128\/m=0:=by
    split at hm<;>omega
   have e5:y'%32=w'%32:=by omega
   have e7:y'/128=w'/128:=by omega
   exact xor_marks y' w' e7 e5 (by omega) (by omega)
  ·constructor
   ·intro e
    obtain⟨_,_,_,h4,h5,_⟩:=enc_inj hx h e;exact⟨h4,h5⟩
   ·rintro ⟨rfl,rfl⟩
    rfl
 ·cases h1
end Pg
namespace Pg
theorem yhq (W k n:Nat):W&&&((2^n-1)*2^k)=(W/2^k%2^n)*2^k:=by
 apply Nat.eq_of_testBit_eq
 intro i;rw[Nat.testBit_and,g,g,Nat.testBit_two_pow_sub_one,Nat.testBit_mod_two_pow,Nat.testBit_div_two_pow]
 by_cases h:k<=i
 ·have e:i-k+k=i:=by omega
  simp[h,e,Bool.and_comm]
 ·simp[h]
theorem yhK (W:Int) (h0:0<=W) (h1:W<18446744073709551616) (k n m:Nat) (hm:(2^n-1)*2^k=m) (hb:m<18446744073709551616):
 bits .and U W (m:Int)=(W/2^k%2^n)*2^k:=by
 obtain⟨v,rfl⟩:=B h0;rw[u64_and_nat v m (by omega) hb,<-hm,yhq];simp
theorem and1 (W:Int) (h0:0<=W) (h1:W<18446744073709551616):bits .and U W 1=W%2:=by
 have:=yhK W h0 h1 0 1 1 rfl (by decide);simpa using this
theorem and32 (W:Int) (h0:0<=W) (h1:W<18446744073709551616):bits .and U W 32=W/32%2*32:=by
 have:=yhK W h0 h1 5 1 32 rfl (by decide);simpa using this
theorem and64 (W:Int) (h0:0<=W) (h1:W<18446744073709551616):bits .and U W 64=W/64%2*64:=by
 have:=yhK W h0 h1 6 1 64 rfl (by decide);simpa using this
theorem yim (W:Int) (h0:0<=W) (h1:W<18446744073709551616):bits .and U W 128=W/128%2*128:=by
 have:=yhK W h0 h1 7 1 128 rfl (by decide);simpa using this
theorem and14 (W:Int) (h0:0<=W) (h1:W<18446744073709551616):bits .and U W 14=W/2%8*2:=by
 have:=yhK W h0 h1 1 3 14 rfl (by decide);simpa using this
theorem andF (W:Int) (h0:0<=W) (h1:W<18446744073709551616):bits .and U W 4294963200=W/4096%1048576*4096:=by
 have:=yhK W h0 h1 12 20 4294963200 rfl (by decide);simpa using this
theorem known_not (W:Int) (h0:0<=W) (h1:W<18446744073709551616):bits .andNot U W 4294963439=0 ↔ W/16%2=0/\W/256%16=0/\W<4294967296:=by
 obtain⟨v,rfl⟩:=B h0;have e0:(4294963439:Int)=((4294963439:Nat):Int):=rfl
 have e1:(18446744073709551615-4294963439:Nat)=((2^1-1)*2^4|||(2^4-1)*2^8)|||(2^32-1)*2^32:=by decide
 rw[e0,u64_andNot_nat v _ (by omega) (by decide),e1,kI,kI,yhq,yhq,yhq]
 have:((((v/2^4%2^1*2^4|||v/2^8%2^4*2^8)|||v/2^32%2^32*2^32:Nat):Int)=0) ↔ (v/2^4%2^1*2^4=0/\v/2^8%2^4*2^8=0)/\v/2^32%2^32*2^32=0:=by
  rw[Int.natCast_eq_zero,kP,kP]
 rw[this];omega
theorem wBad_eq (W lv:Int) (h0:0<=W) (h1:W<18446744073709551616):
 wBad W lv=(bits .andNot U W 4294963439 !=0||((bits .and U W 1==0)&&(W !=0))||((bits .and U W 128 !=0)&&(lv==0))):=by
 rw[and1 W h0 h1,yim W h0 h1,Bool.eq_iff_iff];have hk:=known_not W h0 h1;simp only[wBad,decide_eq_true_eq,kJ,G,bne_iff_ne,ne_eq,beq_iff_eq];rw[hk];omega
theorem or_low (F x y:Nat) (hx:x<4096) (hy:y<4096):(4096*F+x)|||y=4096*F+(x|||y):=by
 have e1:2^12*F+x=2^12*F|||x:=O hx F;have e2:2^12*F+(x|||y)=2^12*F|||(x|||y):=O (Nat.or_lt_two_pow (n:=12) hx hy) F
 show(2^12*F+x)|||y=2^12*F+(x|||y)
 rw[e1,e2,Nat.or_assoc]
theorem or_bit (f x:Int) (f0:0<=f) (f1:f<1048576) (x0:0<=x) (x1:x<4096) (y z:Nat) (hy:y<4096) (hz:x.toNat|||y=z):
 bits .or U (f*4096+x) (y:Int)=f*4096+z:=by
 obtain⟨F,rfl⟩:=B f0;obtain⟨X,rfl⟩:=B x0
 have e:((F:Int)*4096+(X:Int))=((4096*F+X:Nat):Int):=by omega
 rw[e,u64_or_nat _ y (by omega) (by omega),or_low F X y (by omega) hy];rw[kN]at hz;rw[hz];omega
theorem or_frame (f x:Int) (f0:0<=f) (f1:f<1048576) (x0:0<=x) (x1:x<4096):bits .or U x (f*4096)=f*4096+x:=by
 obtain⟨F,rfl⟩:=B f0;obtain⟨X,rfl⟩:=B x0
 have e:((F:Int)*4096)=((4096*F:Nat):Int):=by omega
 have e1:2^12*F+X=2^12*F|||X:=O (by omega) F;rw[e,u64_or_nat X _ (by omega) (by omega),Nat.or_comm];have:(4096*F|||X)=4096*F+X:=e1.symm;rw[this];omega
theorem word_or (r f:Int) (r0:0<=r) (r1:r<=7) (f0:0<=f) (f1:f<1048576):
 bits .or U (bits .or U 1 (r*2)) (f*4096)=f*4096+(r*2+1)/\
 bits .or U (f*4096+(r*2+1)) 32=f*4096+(r*2+33)/\bits .or U (f*4096+(r*2+1)) 64=f*4096+(r*2+65)/\bits .or U (f*4096+(r*2+33)) 64=f*4096+(r*2+97)/\
 bits .or U (f*4096+(r*2+1)) 128=f*4096+(r*2+129)/\bits .or U (f*4096+(r*2+33)) 128=f*4096+(r*2+161)/\bits .or U (f*4096+(r*2+65)) 128=f*4096+(r*2+193)/\bits .or U (f*4096+(r*2+97)) 128=f*4096+(r*2+225):=by
 have hr:r=0\/r=1\/r=2\/r=3\/r=4\/r=5\/r=6\/r=7:=by omega
 rcases hr with rfl|rfl|rfl|rfl|rfl|rfl|rfl|rfl
 all_goals
  refine⟨?_,?_,?_,?_,?_,?_,?_,?_⟩
  ·exact or_frame f _ f0 f1 (by decide) (by decide)
  ·exact or_bit f _ f0 f1 (by decide) (by decide) 32 _ (by decide) rfl
  ·exact or_bit f _ f0 f1 (by decide) (by decide) 64 _ (by decide) rfl
  ·exact or_bit f _ f0 f1 (by decide) (by decide) 64 _ (by decide) rfl
  ·exact or_bit f _ f0 f1 (by decide) (by decide) 128 _ (by decide) rfl
  ·exact or_bit f _ f0 f1 (by decide) (by decide) 128 _ (by decide) rfl
  ·exact or_bit f _ f0 f1 (by decide) (by decide) 128 _ (by decide) rfl
  ·exact or_bit f _ f0 f1 (by decide) (by decide) 128 _ (by decide) rfl
theorem check_small (f r:Int):check 0 0 f r=if r<0\/7<r\/f<0\/1048576<=f then 1 else 0:=by
 have hs:span 0=1:=rfl;split
 ·rename_i h
  refine ygQ (by decide) ?_;simp only[below,kJ,kR,Bool.and_eq_false_iff,decide_eq_false_iff_not];omega
 ·rename_i h
  rw[ygZ (by decide) (zB.2 (by omega)) (zB.2 (by omega)) (zB.2 (by omega)),hs];simp
theorem check_leaf {f r lv:Int} (h:¬(r<0\/7<r\/f<0\/1048576<=f)) (l0:0<=lv) (l2:lv<=2):check 0 lv f r=if f%span lv=0 then 0 else 3:=by
 have hs:=ygF lv;rw[ygZ (by omega) (zB.2 (by omega)) (zB.2 (by omega)) (zB.2 (by omega))];simp
end Pg
namespace Pg
structure En where
 t:Bool
 l:Bool
 r:Int
 u:Bool
 d:Bool
 f:Int
namespace En
def zero:En:=⟨I,I,0,I,I,0⟩
def of (W lv:Int):En:=⟨ygD W lv,xL W lv,xR W lv,xU W lv,xD W lv,xF W lv⟩
def val (e:En):Value:=kT #[Z e.t,Z e.l,N V e.r,Z e.u,Z e.d,N V e.f]
def on (e:En):Bool:=e.t&& !e.l
def map (e:En) (lv q:Int):Mp:=⟨yh1 e.t e.l e.r e.u e.d e.f lv q,yir e.t e.l e.r e.u e.d e.f lv q,yhV e.t e.l e.r e.u e.d e.f lv q,yhv e.t e.l e.r e.u e.d e.f lv q⟩
def fault (e:En) (lv:Int):Int:=ygu e.t e.l e.r e.u e.d e.f lv
end En
theorem yhd (W lv:Int):decV W lv=kZ #[(En.of W lv).val,N V (ygz W lv)]:=rfl
theorem yh2 (e:En) (lv q:Int):mapV e.t e.l e.r e.u e.d e.f lv q=(e.map lv q).val:=rfl
def ygy (S:Fs) (t:Int) (i lv:Nat):Int:=if S.has t=J then ygz (S.word t.toNat i) lv else 12
def rEn (S:Fs) (t:Int) (i lv:Nat):En:=if S.has t=J then En.of (S.word t.toNat i) lv else En.zero
structure Sp where
 table:Int
 place:Nat
 level:Nat
 ahead:Nat
 e:En
def spt (S:Fs) (t:Int) (i lv a:Nat):Sp:=⟨t,i,lv,a+i,rEn S t i lv⟩
section
variable (S:Fs) (L:Nat->Nat->Bool)
def out (lv:Nat) (rec:Int->Nat->List Sp×Int) (t:Int) (a i:Nat):List Sp×Int:=
 if L i lv=I then([],0)
 else if ygy S t i lv≠0 then([],ygy S t i lv)
 else if (rEn S t i lv).on=I then([spt S t i lv a],0)
 else(spt S t i lv a::(rec (rEn S t i lv).f ((a+i)*8)).1,(rec (rEn S t i lv).f ((a+i)*8)).2)
def scan (lv:Nat) (rec:Int->Nat->List Sp×Int) (t:Int) (a:Nat):Nat->Nat->List Sp×Int
 | 0,_=>([],0)
 | n+1,i=>if (out S L lv rec t a i).2≠0 then out S L lv rec t a i
   else((out S L lv rec t a i).1++(scan lv rec t a n (i+1)).1,(scan lv rec t a n (i+1)).2)
def thr:Nat->Int->Nat->List Sp×Int
 | 0,t,a=>scan S L 0 (fun _ _=>([],0)) t a 8 0
 | lv+1,t,a=>scan S L (lv+1) (thr lv) t a 8 0
def sub:Nat->Int->Nat->List Sp×Int
 | 0=>fun _ _=>([],0)
 | lv+1=>thr S L lv
end
theorem yhA (S:Fs) (L:Nat->Nat->Bool) (lv:Nat) (t:Int) (a:Nat):thr S L lv t a=scan S L lv (sub S L lv) t a 8 0:=by
 cases lv<;>rfl
def cnt':Nat->Nat
 | 0=>0
 | lv+1=>8*(1+cnt' lv)
theorem out_len {S:Fs} {L:Nat->Nat->Bool} {lv:Nat} {rec:Int->Nat->List Sp×Int} {t:Int} {a i c:Nat} (h:∀t a,(rec t a).1.length<=c):(out S L lv rec t a i).1.length<=1+c:=by
 unfold out;split
 ·simp
 ·split
  ·simp
  ·split
   ·simp
   ·have:=h (rEn S t i lv).f ((a+i)*8)
    simp;omega
theorem yik {S:Fs} {L:Nat->Nat->Bool} {lv:Nat} {rec:Int->Nat->List Sp×Int} {t:Int} {a c:Nat} (h:∀t a,(rec t a).1.length<=c):∀n i,(scan S L lv rec t a n i).1.length<=n*(1+c)
 | 0,_=>by simp[scan]
 | n+1,i=>by
   have h1:=out_len (S:=S) (L:=L) (lv:=lv) (t:=t) (a:=a) (i:=i) h;have h2:=yik (S:=S) (L:=L) (lv:=lv) (t:=t) (a:=a) h n (i+1);unfold scan;rw[Nat.add_mul];split
   ·omega
   ·simp
    omega
theorem yiw (S:Fs) (L:Nat->Nat->Bool):∀lv t a,(sub S L lv t a).1.length<=cnt' lv
 | 0,_,_=>by simp[sub]
 | lv+1,t,a=>by
   show(thr S L lv t a).1.length<=_
   rw[yhA];exact yik (fun t a=>yiw S L lv t a) 8 0
theorem yhB (S:Fs) (L:Nat->Nat->Bool) (lv:Nat) (t:Int) (a:Nat):(thr S L lv t a).1.length<=cnt' (lv+1):=yiw S L (lv+1) t a
def ix (p:Int) (lv:Nat):Nat:=(p/8^lv%8).toNat
theorem yhs (p:Int) (lv:Nat):ix p lv<8:=by unfold ix;omega
theorem ygA {p:Int} (h:below p 4096=J) {lv:Nat} (hl:lv<4):index p (lv:Int)=(ix p lv:Nat):=by
 have hb:below (lv:Int) 4=J:=zB.2 ⟨by omega,by omega⟩;simp only[index,h,hb,Bool.and_self,if_true,kN,ix];omega
def onW (p:Int) (i lv:Nat):Bool:=decide (i=ix p lv)
def zW (_ _:Nat):Bool:=J
def Sp.mp (s:Sp):Mp:=s.e.map s.level (s.ahead*span s.level)
def zM (X:List Sp):List Mp:=X.flatMap fun s=>if s.e.l=J then [s.mp]else []
def zU (X:List Sp):List Int:=X.flatMap fun s=>if s.e.on=J then [s.e.f]else []
theorem mapsOf_append (X Y:List Sp):zM (X++Y)=zM X++zM Y:=by simp[zM]
theorem tabsOf_append (X Y:List Sp):zU (X++Y)=zU X++zU Y:=by simp[zU]
theorem yg9 (X:List Sp):(zM X).length<=X.length:=by
 induction X with
 | nil=>simp[zM]
 | cons s X ih=>
   have:zM (s::X)=(if s.e.l=J then [s.mp]else [])++zM X:=by simp[zM]
   rw[this]
   split<;>simp<;>omega
theorem yhb (X:List Sp):(zU X).length<=X.length:=by
 induction X with
 | nil=>simp[zU]
 | cons s X ih=>
   have:zU (s::X)=(if s.e.on=J then [s.e.f]else [])++zU X:=by simp[zU]
   rw[this]
   split<;>simp<;>omega
section
variable {S:Fs}
theorem yhy (h:S.Ok) {t:Int} {i lv:Nat} (hc:ygy S t i lv=0):(rEn S t i lv).fault lv=0:=by
 unfold ygy at hc;split at hc
 ·rename_i hh
  unfold rEn;rw[if_pos hh];exact(enc_dec (h.low _ _) hc).1
 ·omega
theorem yii (h:S.Ok) {t:Int} {i lv:Nat} (hl:(rEn S t i lv).l=J):ygy S t i lv=0/\(rEn S t i lv).t=J/\lv<=2:=by
 have hc:ygy S t i lv=0:=by
  unfold rEn at hl;unfold ygy;split at hl
  ·rename_i hh
   rw[if_pos hh];simp[En.of,xL,ygD]at hl;exact hl.1.1
  ·simp[En.zero]at hl
 have hf:=yhy h hc;obtain⟨_,hx⟩:=ygI hf;rcases hx with ⟨_,h1,_⟩|⟨h0,_,_,_,_,⟨_,h2,_⟩|⟨h1,_⟩⟩
 ·rw[h1]at hl;cases hl
 ·exact⟨hc,h0,by omega⟩
 ·rw[h1]at hl;cases hl
end
theorem yhz {S:Fs} {t:Int} {i lv:Nat} (ho:(rEn S t i lv).on=J):∃m,lv=m+1:=by
 cases lv with
 | succ m=>exact⟨m,rfl⟩
 | zero=>
   exfalso
   unfold rEn at ho;split at ho
   ·simp[En.on,En.of,xL,ygP]at ho
   ·simp[En.on,En.zero]at ho
theorem yhx {S:Fs} {t:Int} {i lv:Nat} (hc:ygy S t i lv=0):S.has t=J:=by
 unfold ygy at hc;split at hc
 ·assumption
 ·omega
theorem yil {S:Fs} {L:Nat->Nat->Bool} {lv:Nat} {rec:Int->Nat->List Sp×Int} {t:Int} {a k:Nat} (hL:∀i,L i lv=decide (i=k)):∀n i,scan S L lv rec t a n i=if i<=k/\k<i+n then out S L lv rec t a k else([],0)
 | 0,i=>by rw[if_neg (by omega)];rfl
 | n+1,i=>by
   have ih:=yil (S:=S) (rec:=rec) (t:=t) (a:=a) hL n (i+1);unfold scan;rw[ih]
   by_cases e:i=k
   ·subst e
    have e1:(if i+1<=i/\i<i+1+n then out S L lv rec t a i else([],0))=([],0):=if_neg (by omega);have e2:(if i<=i/\i<i+(n+1)then out S L lv rec t a i else([],0))=out S L lv rec t a i:=if_pos (by omega);rw[e1,e2];split
    ·rfl
    ·rename_i h0
     have h0:(out S L lv rec t a i).2=0:=by simpa using h0
     simp only[kV];rw[<-h0]
   ·have ho:out S L lv rec t a i=([],0):=by
     unfold out;rw[if_pos (by rw[hL];simpa using e)]
    rw[ho];simp only[ne_eq,not_true_eq_false,if_false,List.nil_append]
    by_cases hk:i+1<=k/\k<i+1+n
    ·rw[if_pos hk,if_pos (by omega)]
    ·rw[if_neg hk,if_neg (by omega)]
theorem yhC (S:Fs) (p:Int) (lv:Nat) (t:Int) (a:Nat):thr S (onW p) lv t a=
 if ygy S t (ix p lv) lv≠0 then([],ygy S t (ix p lv) lv)
 else if (rEn S t (ix p lv) lv).on=I then([spt S t (ix p lv) lv a],0)
 else(spt S t (ix p lv) lv a::(sub S (onW p) lv (rEn S t (ix p lv) lv).f ((a+ix p lv)*8)).1,(sub S (onW p) lv (rEn S t (ix p lv) lv).f ((a+ix p lv)*8)).2):=by
 have:=yhs p lv;rw[yhA,yil (k:=ix p lv) (fun i=>rfl),if_pos (by omega)];unfold out;rw[if_neg (by simp[onW])]
end Pg
namespace Pg
structure Wk where
 on:Bool
 q:Int
 k:Int
 u:Bool
 t:Int
 lv:Nat
 x:Int
namespace Wk
def off:Wk:=⟨I,0,0,I,0,0,0⟩
def start (root q k:Int) (u:Bool):Wk:=⟨J,q,k,u,root,3,0⟩
def again (root:Int) (K:Wk):Wk:=if K.on=J then{K with t:=root,lv:=3,x:=0}else K
def mark (K:Wk) (e:En):En:={e with u:=J,d:=e.d||K.k==1}
def ready (K:Wk) (e:En):Bool:=e.u&&(e.d||K.k !=1)
structure Ok (K:Wk):Prop where
 page:K.on=J->below K.q 4096=J
 lv:K.lv<4
 leaf:K.x≠0->0<=K.x/\K.x<18446744073709551616/\ygz K.x K.lv=0/\(En.of K.x K.lv).l=J/\may (En.of K.x K.lv).r K.k K.u=J/\ready K (En.of K.x K.lv)=I
 idle:K.on=I->K=Wk.off
def word (S:Fs) (K:Wk):Int:=S.word K.t.toNat (ix K.q K.lv)
end Wk
abbrev Wo:Type:=Int ⊕ Wk ⊕ Int ⊕ (En×Bool)
abbrev Wo.code (c:Int):Wo:= .inl c
abbrev Wo.go (K:Wk):Wo:= .inr (.inl K)
abbrev Wo.stop (r:Int):Wo:= .inr (.inr (.inl r))
abbrev Wo.done (e:En) (m:Bool):Wo:= .inr (.inr (.inr (e,m)))
def kOut (S:Fs) (root:Int) (K:Wk):Wo:=
 if K.on=I then .code 9
 else if S.has K.t=I then .code 12
 else if K.x≠0 then(if K.word S=K.x then .done (K.mark (En.of K.x K.lv)) J else .go (K.again root))
 else if ygz (K.word S) K.lv≠0 then .code (ygz (K.word S) K.lv)
 else if (En.of (K.word S) K.lv).t=I then .stop 1
 else if (En.of (K.word S) K.lv).l=I then .go {K with t:=(En.of (K.word S) K.lv).f,lv:=K.lv-1}
 else if may (En.of (K.word S) K.lv).r K.k K.u=I then .stop 2
 else if K.ready (En.of (K.word S) K.lv)=I then .go {K with x:=K.word S}
 else .done (En.of (K.word S) K.lv) I
structure Rs where
 ended:Bool
 a:Int
 f:Int
 r:Int
 m:Mp
 d:Bool
def Rs.zero:Rs:=⟨I,0,0,0,⟨0,0,0,0⟩,I⟩
def Rs.val (R:Rs):Value:=kT #[Z R.ended,N V R.a,N V R.f,N V R.r,N V R.m.p,N V R.m.s,N V R.m.f,N V R.m.r,Z R.d]
namespace Wo
def cd:Wo->Int
 | .inl c=>c
 | _=>0
def ended:Wo->Bool
 | .inr (.inr _)=>J
 | _=>I
def res (K:Wk):Wo->Rs
 | .inl _=>Rs.zero
 | .inr (.inl _)=>Rs.zero
 | .inr (.inr (.inl r))=>⟨J,r,0,0,⟨0,0,0,0⟩,I⟩
 | .inr (.inr (.inr (e,_)))=>⟨J,aEnd (e.map K.lv K.q).r K.k K.u,ygW (e.map K.lv K.q).p (e.map K.lv K.q).f (e.map K.lv K.q).r K.q K.k K.u,ygK (e.map K.lv K.q).r K.k K.u,e.map K.lv K.q,e.d⟩
def next (K:Wk):Wo->Wk
 | .inl _=>K
 | .inr (.inl K')=>K'
 | _=>Wk.off
def fs (S:Fs) (K:Wk):Wo->Fs
 | .inr (.inr (.inr (e,J)))=>S.store K.t (index K.q K.lv) (enc e.t e.l e.r e.u e.d e.f K.lv)
 | _=>S
end Wo
theorem yhZ (t l:Bool) (r:Int) (u d:Bool) (f lv:Int):0<=enc t l r u d f lv/\enc t l r u d f lv<18446744073709551616:=by
 unfold enc;split
 ·rename_i h
  obtain⟨_,hc⟩:=ygI h;unfold yg2 b01;rcases hc with ⟨rfl,_⟩|⟨rfl,r0,r1,f0,f1,_⟩
  ·simp
  ·simp only[if_true]
   split<;>split<;>split<;>omega
 ·omega
theorem Wk.yhO:Wk.off.Ok:=⟨fun h=>(by cases h),(by decide),fun h=>absurd rfl h,fun _=>rfl⟩
theorem Wk.yhh {root q k:Int} {u:Bool} (h:below q 4096=J):(Wk.start root q k u).Ok:=⟨fun _=>h,by show 3<4;omega,fun h=>absurd rfl h,fun h=>by cases h⟩
theorem Wk.Ok.again {K:Wk} (h:K.Ok) (root:Int):(K.again root).Ok:=by
 unfold Wk.again;split
 ·rename_i ho
  exact⟨fun _=>h.page ho,by show 3<4;omega,fun h=>absurd rfl h,fun h=>by rw[ho]at h;cases h⟩
 ·exact h
theorem yip {S:Fs} (hS:S.Ok) {K:Wk} (h:K.Ok) (root:Int):((kOut S root K).next K).Ok:=by
 unfold kOut;split
 ·exact h
 ·rename_i ho
  have ho:K.on=J:=by simpa using ho
  split
  ·exact h
  ·split
   ·split
    ·exact Wk.yhO
    ·exact h.again root
   ·rename_i hx
    have hx:K.x=0:=by simpa using hx
    split
    ·exact h
    ·rename_i hc
     have hc:ygz (K.word S) K.lv=0:=by simpa using hc
     split
     ·exact Wk.yhO
     ·rename_i ht
      split
      ·exact⟨fun _=>h.page ho,by show K.lv-1<4;have:=h.lv;omega,fun h=>absurd hx h,fun h=>by rw[ho]at h;cases h⟩
      ·rename_i hl
       have hl:(En.of (K.word S) K.lv).l=J:=by simpa using hl
       split
       ·exact Wk.yhO
       ·rename_i hm
        have hm:may (En.of (K.word S) K.lv).r K.k K.u=J:=by simpa using hm
        split
        ·rename_i hr
         exact⟨fun _=>h.page ho,h.lv,fun _=>⟨hS.low _ _,hS.high _ _,hc,hl,hm,hr⟩,fun h=>by rw[ho]at h;cases h⟩
        ·exact Wk.yhO
end Pg
namespace Pg
structure Ln where
 m:Mp
 d:Bool
def Ln.zz:Ln:=⟨.zz,I⟩
namespace Ln
def val (l:Ln):Value:=kT #[N V l.m.p,N V l.m.s,N V l.m.f,N V l.m.r,Z l.d]
def has (l:Ln) (q:Int):Bool:=l.m.has q
def meets (l:Ln) (m:Mp):Bool:=l.m.meets m
end Ln
structure Kept (L:List Ln):Prop where
 ok:∀l,l ∈ L->l.m.code=0
 ap:L.Pairwise fun a b=>a.m.meets b.m=I
 le:L.length<=6
theorem Kept.nil:Kept []:=⟨fun _ h=>by simp at h,List.Pairwise.nil,by simp⟩
def kFnd (L:List Ln) (q:Int):Option Nat:=L.findIdx? fun l=>l.has q
def yhl (L:List Ln) (q:Int):Int:=match kFnd L q with
 | some k=>(k:Int)
 | none=> -1
def kAt (L:List Ln) (q:Int):Ln:=match kFnd L q with
 | some k=>L.getD k .zz
 | none=> .zz
def ygU (L:List Ln) (m:Mp):List Ln:=L.filter fun l=> !l.meets m
def yhf (L:List Ln):List Ln:=if L.length=6 then L.drop 1 else L
def kPut (L:List Ln) (l:Ln):List Ln:=if l.m.code=0 then yhf (ygU L l.m)++[l]else L
theorem yhG {L:List Ln} {j:Nat} (hj:j<L.length):L.getD j .zz=L[j]:=by simp[List.getD,hj]
theorem ln_mem {L:List Ln} {j:Nat} (hj:j<L.length):L.getD j .zz ∈ L:=by rw[yhG hj];exact List.getElem_mem _
theorem yht {L:List Ln} {q:Int} {k:Nat} (h:kFnd L q=some k):k<L.length/\(L.getD k .zz).has q=J/\∀j,j<k->(L.getD j .zz).has q=I:=by
 obtain⟨hk,h1,h2⟩:=Q.1 h;refine⟨hk,by rw[yhG hk];exact h1,fun j hj=> ?_⟩;rw[yhG (by omega)]
 simpa using h2 j hj
theorem yic {L:List Ln} {P:Ln->Bool} {k:Nat} (hk:k<L.length) (h1:P (L.getD k .zz)=J) (h2:∀j,j<k->P (L.getD j .zz)=I):L.findIdx? P=some k:=by
 refine Q.2 ⟨hk,by rw[<-yhG hk];exact h1,fun j hj=> ?_⟩;have:=h2 j hj;rw[yhG (by omega)]at this
 simpa using this
theorem yib {L:List Ln} {P:Ln->Bool} (h:∀j,j<L.length->P (L.getD j .zz)=I):L.findIdx? P=none:=by
 refine A.2 fun m hm=> ?_;obtain⟨j,hj,rfl⟩:=List.mem_iff_getElem.1 hm;have:=h j hj;rw[yhG hj]at this
 simpa using this
theorem idx_of_some {L:List Ln} {P:Ln->Bool} {k:Nat} (h:L.findIdx? P=some k):k<L.length/\P (L.getD k .zz)=J/\∀j,j<k->P (L.getD j .zz)=I:=by
 obtain⟨hk,h1,h2⟩:=Q.1 h;refine⟨hk,by rw[yhG hk];exact h1,fun j hj=> ?_⟩;rw[yhG (by omega)]
 simpa using h2 j hj
theorem idx_of_none {L:List Ln} {P:Ln->Bool} (h:L.findIdx? P=none):∀l,l ∈ L->P l=I:=fun l hl=>by
 simpa using A.1 h l hl
def idxN (L:List Ln) (P:Ln->Bool):Int:=match L.findIdx? P with
 | some k=>(k:Int)
 | none=> -1
theorem yhY {L:List Ln} {j:Nat} (hj:j<L.length):L.take (j+1)=L.take j++[L.getD j .zz]:=by
 rw[List.take_succ_eq_append_getElem hj,yhG hj]
theorem yg3 {L:List Ln} {P:Ln->Bool} {j:Nat} (hj:j<L.length) (h:P (L.getD j .zz)=J):(L.take (j+1)).filter P=(L.take j).filter P++[L.getD j .zz]:=by
 rw[yhY hj,kS];simp only[kF,h,if_true,kQ]
theorem ygT {L:List Ln} {P:Ln->Bool} {j:Nat} (hj:j<L.length) (h:P (L.getD j .zz)=I):(L.take (j+1)).filter P=(L.take j).filter P:=by
 rw[yhY hj,kS];simp only[kF,h,D,if_false,kQ,kV]
theorem Kept.fits {L:List Ln} (h:Kept L) {j:Nat} (hj:j<L.length):Pg.fits (L.getD j .zz).m.p:=(ok_fits (h.ok _ (ln_mem hj))).2.2.1
theorem Kept.sub {L M:List Ln} (h:Kept L) (hs:M.Sublist L):Kept M:=
 ⟨fun l hl=>h.ok l (hs.subset hl),h.ap.sublist hs,Nat.le_trans hs.length_le h.le⟩
theorem Kept.drop {L:List Ln} (h:Kept L) (m:Mp):Kept (ygU L m):=h.sub List.filter_sublist
theorem Kept.tail {L:List Ln} (h:Kept L):Kept (L.drop 1):=h.sub (kY _ _)
theorem yhU (L:List Ln):(yhf L).Sublist L:=by
 unfold yhf;split
 ·exact kY _ _
 ·exact List.Sublist.refl _
theorem yhu {L:List Ln} (h:L.length<=6):(yhf L).length<=5:=by
 unfold yhf;split
 ·simp;omega
 ·omega
theorem kDrop_not {L:List Ln} {m:Mp} {l:Ln} (h:l ∈ ygU L m):l.m.meets m=I:=by
 have:=(List.mem_filter.1 h).2
 simpa[Ln.meets]using this
theorem Kept.put {L:List Ln} (h:Kept L) (l:Ln):Kept (kPut L l):=by
 unfold kPut;split
 ·rename_i hc
  have hd:=(h.drop l.m).sub (yhU _);refine⟨fun x hx=> ?_,?_,?_⟩
  ·rcases List.mem_append.1 hx with hx|hx
   ·exact hd.ok x hx
   ·rw[kC.1 hx];exact hc
  ·refine List.pairwise_append.2 ⟨hd.ap,by simp,fun a ha b hb=> ?_⟩
   rw[kC.1 hb];exact kDrop_not ((yhU _).subset ha)
  ·have:=yhu (h.drop l.m).le
   simp only[List.length_append,List.length_cons,List.length_nil];omega
 ·exact h
theorem yiq {L:List Ln} {l:Ln} (h:l.m.code≠0):kPut L l=L:=by simp[kPut,h]
theorem yid {L:List Ln} {l:Ln} (h:l.m.code=0):kPut L l=yhf (ygU L l.m)++[l]:=by simp[kPut,h]
end Pg
namespace Pg
structure Tl where
 a:Int
 f:Int
 r:Int
 ended:Bool
 c:Int
def Tl.val (T:Tl):Value:=kZ #[kT #[N V T.a,N V T.f,N V T.r],Z T.ended,N V T.c]
def Tl.code (c:Int):Tl:=⟨0,0,0,I,c⟩
def Ln.ans (l:Ln) (q k:Int) (u:Bool):Tl:=⟨aEnd l.m.r k u,ygW l.m.p l.m.f l.m.r q k u,ygK l.m.r k u,J,0⟩
def Ln.wants (l:Ln) (k:Int) (u:Bool):Bool:=k==1&&(!l.d&&may l.m.r k u)
structure Cr where
 L:List Ln
 K:Wk
namespace Cr
def new:Cr:=⟨[],Wk.off⟩
def hit (C:Cr) (q k:Int) (u:Bool):Bool:=(kFnd C.L q).isSome&& !(kAt C.L q).wants k u
def bgT (C:Cr) (q k:Int) (u:Bool):Tl:=if zK q k≠0 then .code (zK q k)else if C.K.on=J then .code 8 else if C.hit q k u=J then(kAt C.L q).ans q k u else .code 0
def bgN (root:Int) (C:Cr) (q k:Int) (u:Bool):Cr:=if zK q k=0/\C.K.on=I/\C.hit q k u=I then⟨C.L,Wk.start root q k u⟩else C
end Cr
def Wo.tl (K:Wk) (o:Wo):Tl:=⟨(o.res K).a,(o.res K).f,(o.res K).r,(o.res K).ended,o.cd⟩
def rPut (L:List Ln) (R:Rs):List Ln:=if (R.ended&&R.a==0)=J then kPut L ⟨R.m,R.d⟩else L
namespace Cr
def stT (S:Fs) (root:Int) (C:Cr):Tl:=Wo.tl C.K (kOut S root C.K)
def stN (S:Fs) (root:Int) (C:Cr):Cr:=⟨rPut C.L ((kOut S root C.K).res C.K),(kOut S root C.K).next C.K⟩
def stS (S:Fs) (root:Int) (C:Cr):Fs:=(kOut S root C.K).fs S C.K
def told (root:Int) (C:Cr) (m:Mp):Cr:=⟨ygU C.L m,C.K.again root⟩
def yhc (C:Cr):Cr:=⟨C.L.drop 1,C.K⟩
end Cr
theorem ygM {q k:Int} (h:zK q k=0):below q 4096=J:=by
 unfold zK at h;split at h
 ·split at h
  ·assumption
  ·omega
 ·omega
theorem ygL {q k:Int} (h:zK q k=0):fits q:=by
 have:=zB.1 (ygM h);unfold fits;omega
theorem yif (e:En) (lv q:Int):fits (e.map lv q).p:=by
 show fits (yh1 e.t e.l e.r e.u e.d e.f lv q)
 unfold yh1;split
 ·rename_i h
  have hq:below q 4096=J:=by
   unfold lOk at h;simp only[G]at h;exact h.2
  have hq:=zB.1 hq;unfold span fits;split
  ·omega
  ·split
   ·omega
   ·split<;>omega
 ·unfold fits;omega
theorem yij (K:Wk) (o:Wo):fits (o.res K).m.p:=by
 rcases o with c|K'|r|⟨e,m⟩
 ·show fits 0;unfold fits;omega
 ·show fits 0;unfold fits;omega
 ·show fits 0;unfold fits;omega
 ·exact yif e K.lv K.q
namespace Cr.Ok
variable {C:Cr} {S:Fs}
end Cr.Ok
end Pg
namespace Pg
def Wk.at' (q k:Int) (u:Bool) (t:Int) (lv:Nat) (x:Int):Wk:=⟨J,q,k,u,t,lv,x⟩
theorem yha {S:Fs} {t:Int} {i lv:Nat} (h:S.has t=J):ygy S t i lv=ygz (S.word t.toNat i) lv/\rEn S t i lv=En.of (S.word t.toNat i) lv:=by
 unfold ygy rEn;rw[if_pos h,if_pos h];exact⟨rfl,rfl⟩
theorem yiF (S:Fs) (root q k:Int) (u:Bool) (t:Int) (lv:Nat):
 kOut S root (Wk.at' q k u t lv 0)=
  if ygy S t (ix q lv) lv≠0 then .code (ygy S t (ix q lv) lv)
  else if (rEn S t (ix q lv) lv).t=I then .stop 1
  else if (rEn S t (ix q lv) lv).l=I then .go (Wk.at' q k u (rEn S t (ix q lv) lv).f (lv-1) 0)
  else if may (rEn S t (ix q lv) lv).r k u=I then .stop 2
  else if (Wk.at' q k u t lv 0).ready (rEn S t (ix q lv) lv)=I then .go (Wk.at' q k u t lv (S.word t.toNat (ix q lv)))
  else .done (rEn S t (ix q lv) lv) I:=by
 unfold kOut;rw[if_neg (by simp[Wk.at'])];cases h:S.has t
 ·have hr:ygy S t (ix q lv) lv=12:=by simp[ygy,h]
  rw[if_pos (show S.has (Wk.at' q k u t lv 0).t=I from h),hr,if_pos (by decide)]
 ·obtain⟨h1,h2⟩:=yha (i:=ix q lv) (lv:=lv) h
  rw[if_neg (show ¬S.has (Wk.at' q k u t lv 0).t=I by rw[show(Wk.at' q k u t lv 0).t=t from rfl,h];decide),if_neg (show ¬(Wk.at' q k u t lv 0).x≠0 from fun h=>h rfl),h1,h2];rfl
theorem yiI {S:Fs} {root q k:Int} {u:Bool} {t:Int} {lv:Nat} {x:Int} (hx:x≠0) (hh:S.has t=J) (hw:S.word t.toNat (ix q lv)=x):
 kOut S root (Wk.at' q k u t lv x)= .done ((Wk.at' q k u t lv x).mark (En.of x lv)) J:=by
 unfold kOut;rw[if_neg (by simp[Wk.at']),if_neg (show ¬S.has (Wk.at' q k u t lv x).t=I by rw[show(Wk.at' q k u t lv x).t=t from rfl,hh];decide),if_pos (show(Wk.at' q k u t lv x).x≠0 from hx),if_pos (show(Wk.at' q k u t lv x).word S=(Wk.at' q k u t lv x).x from hw)];rfl
end Pg
end Go.Proofs.YtdphiompijbelaaGreat
namespace Go.Proofs.YtdphiompijbelaaGreat
open Go.ChangeShapes Go.WideShapes Go.ChangeAt Go.RowKit Go.Joins Go.Deep
structure Lst where
 a:Int
 k:Int
 m:Pg.Mp
section
variable {H:Type} {enc:TypeId×Value->H} {W:World} {r:Reach} {b0 base:Nat} {spare:Nat->Bool} {held:Bool} {v:Value} {d:DataW H} {p:List MemPlace}
end
end Go.Proofs.YtdphiompijbelaaGreat
