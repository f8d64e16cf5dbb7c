import Derived.Test.YtdphiompijbelaaGreatDoorFrameB
open Nat renaming two_pow_add_eq_or_of_lt->U,testBit_mul_two_pow->A,and_or_distrib_left->H,or_eq_zero_iff->G,xor_self->kT
open List renaming findIdx?_eq_some_iff_getElem->Q,findIdx?_eq_none_iff->D,filter_append->g,mem_singleton->kI,drop_sublist->kB,filter_cons->kS,append_nil->kR,filter_nil->kN
open Go.IntKind renaming i64->V,u64->Z
open Go.Value renaming int->N,bool->E,agg->kY,tuple->kF
open Int renaming eq_ofNat_of_zero_le->B,toNat_natCast->kJ
open Bool renaming false->I,true->J,false_eq_true->O,and_eq_true->kP,or_eq_true->kC
namespace Go.Proofs.YtdphiompijbelaaGreatDoor
open Go.RowKit
namespace Pg
def yhp (t l:Bool) (r:Int) (u d:Bool) (f lv:Int):Int:=
 if lv<0\/3<lv then 1
 else if t=I then(if l=J\/r≠0\/u=J\/d=J\/f≠0 then 7 else 0)
 else if r<0\/7<r\/f<0\/1048576<=f then 1
 else if (l=J/\lv=3)\/(l=I/\lv=0)then 2
 else if l=J then(if f%span lv=0 then 0 else 3)
 else if r≠7\/u=J\/d=J then 7 else 0
def b01 (b:Bool):Int:=if b=J then 1 else 0
def yi1 (t l:Bool) (r:Int) (u d:Bool) (f lv:Int):Int:=
 if t=J then f*4096+r*2+1+32*b01 u+64*b01 d+(if l=J/\lv≠0 then 128 else 0)else 0
def enc (t l:Bool) (r:Int) (u d:Bool) (f lv:Int):Int:=if yhp t l r u d f lv=0 then yi1 t l r u d f lv else 0
def wBad (w lv:Int):Bool:=decide (w≠0/\¬(w%2=1/\w/16%2=0/\w/256%16=0/\w<4294967296/\¬(lv=0/\w/128%2=1)))
def yin (w lv:Int):Bool:=decide (lv=0)||decide (w/128%2=1)
def yiU (w:Int):Bool:=decide (w/32%2=1)
def yh6 (w:Int):Bool:=decide (w/64%2=1)
def yhz (w lv:Int):Int:=
 if lv<0\/3<lv then 1 else if wBad w lv=J then 7 else if w=0 then 0
 else yhp J (yin w lv) (w/2%8) (yiU w) (yh6 w) (w/4096) lv
def yhB (w lv:Int):Bool:=decide (yhz w lv=0)&&decide (w≠0)
def xL (w lv:Int):Bool:=yhB w lv&&yin w lv
def xR (w lv:Int):Int:=if yhB w lv=J then w/2%8 else 0
def xU (w lv:Int):Bool:=yhB w lv&&yiU w
def xD (w lv:Int):Bool:=yhB w lv&&yh6 w
def xF (w lv:Int):Int:=if yhB w lv=J then w/4096 else 0
def lOk (t l:Bool) (r:Int) (u d:Bool) (f lv at':Int):Bool:=decide (yhp t l r u d f lv=0)&&l&&below at' 4096
def yke (t l:Bool) (r:Int) (u d:Bool) (f lv at':Int):Int:=if lOk t l r u d f lv at'=J then at'-at'%span lv else 0
def ykL (t l:Bool) (r:Int) (u d:Bool) (f lv at':Int):Int:=if lOk t l r u d f lv at'=J then lv else 0
def yjB (t l:Bool) (r:Int) (u d:Bool) (f lv at':Int):Int:=if lOk t l r u d f lv at'=J then f else 0
def yiy (t l:Bool) (r:Int) (u d:Bool) (f lv at':Int):Int:=if lOk t l r u d f lv at'=J then r else 0
def bit (w:Int) (k:Nat):Bool:=decide (w/2^k%2=1)
def known (k:Nat):Bool:=decide (k<=3)||(decide (5<=k)&&decide (k<=7))||(decide (12<=k)&&decide (k<=31))
theorem yhA {t l:Bool} {r:Int} {u d:Bool} {f lv:Int} (h:yhp t l r u d f lv=0):
 (0<=lv/\lv<=3)/\((t=I/\l=I/\r=0/\u=I/\d=I/\f=0)\/
   (t=J/\0<=r/\r<=7/\0<=f/\f<1048576/\((l=J/\lv<=2/\f%span lv=0)\/(l=I/\1<=lv/\r=7/\u=I/\d=I)))):=by
 unfold yhp at h;split at h
 ·omega
 ·rename_i h1
  refine⟨by omega,?_⟩;split at h
  ·rename_i ht
   left;split at h
   ·omega
   ·rename_i h2
    cases l<;>cases u<;>cases d<;>simp_all
  ·rename_i ht
   right
   have ht:t=J:=by simpa using ht
   split at h
   ·omega
   ·rename_i h3
    split at h
    ·omega
    ·rename_i h4
     refine⟨ht,by omega,by omega,by omega,by omega,?_⟩;split at h
     ·rename_i h5
      left;split at h
      ·rename_i h6
       refine⟨h5,?_,h6⟩;subst h5;simp at h4;omega
      ·omega
     ·rename_i h5
      have h5:l=I:=by simpa using h5
      right;split at h
      ·omega
      ·rename_i h6
       subst h5;simp at h4;refine⟨rfl,by omega,?_⟩
       cases u<;>cases d<;>simp_all
theorem yjb {r:Int} {u d:Bool} {f lv:Int} (hl:0<=lv) (hl2:lv<=2) (r0:0<=r) (r1:r<=7) (f0:0<=f) (f1:f<1048576) (hs:f%span lv=0):yhp J J r u d f lv=0:=by
 unfold yhp;rw[if_neg (by omega),if_neg (by decide),if_neg (by omega),if_neg (by simp;omega),if_pos rfl,if_pos hs]
theorem fault_table {f lv:Int} (hl:1<=lv) (hl2:lv<=3) (f0:0<=f) (f1:f<1048576):yhp J I 7 I I f lv=0:=by
 unfold yhp;rw[if_neg (by omega),if_neg (by decide),if_neg (by omega),if_neg (by simp;omega),if_neg (by decide),if_neg (by decide)]
theorem yjX {lv:Int} (hl:0<=lv) (hl2:lv<=3):yhp I I 0 I I 0 lv=0:=by
 unfold yhp;rw[if_neg (by omega),if_pos rfl,if_neg (by decide)]
theorem yiN {t l:Bool} {r:Int} {u d:Bool} {f lv:Int} (h:yhp t l r u d f lv=0):enc t l r u d f lv=yi1 t l r u d f lv:=by simp[enc,h]
theorem yir (b:Bool):(b=J/\b01 b=1)\/(b=I/\b01 b=0):=by cases b<;>simp[b01]
theorem yiZ {t l:Bool} {r:Int} {u d:Bool} {f lv:Int} (h:yhp t l r u d f lv=0):
 0<=enc t l r u d f lv/\enc t l r u d f lv<18446744073709551616/\yhz (enc t l r u d f lv) lv=0/\(enc t l r u d f lv=0 ↔ t=I)/\
 yhB (enc t l r u d f lv) lv=t/\xL (enc t l r u d f lv) lv=l/\xR (enc t l r u d f lv) lv=r/\xU (enc t l r u d f lv) lv=u/\xD (enc t l r u d f lv) lv=d/\xF (enc t l r u d f lv) lv=f:=by
 rw[yiN h];obtain⟨⟨l0,l3⟩,hc⟩:=yhA h
 have hlv:¬(lv<0\/3<lv):=by omega
 rcases hc with ⟨rfl,rfl,rfl,rfl,rfl,rfl⟩|⟨rfl,r0,r1,f0,f1,hc⟩
 ·have hw:yi1 I I 0 I I 0 lv=0:=rfl
  have hd:yhz 0 lv=0:=by simp[yhz,hlv,wBad]
  rw[hw];refine⟨by omega,by omega,hd,by simp,?_⟩;simp[xL,xR,xU,xD,xF,yhB]
 ·have hw:yi1 J l r u d f lv=f*4096+r*2+1+32*b01 u+64*b01 d+(if l=J/\lv≠0 then 128 else 0):=by simp[yi1]
  generalize hm:(if l=J/\lv≠0 then(128:Int)else 0)=m at hw
  have hm2:(m=128/\l=J/\lv≠0)\/(m=0/\¬(l=J/\lv≠0)):=by
   split at hm
   ·rename_i h';exact .inl ⟨hm.symm,h'⟩
   ·rename_i h';exact .inr ⟨hm.symm,h'⟩
  have hu:=yir u;have hd:=yir d;generalize yi1 J l r u d f lv=w at*
  have bu:0<=b01 u/\b01 u<=1:=by omega
  have bd:0<=b01 d/\b01 d<=1:=by omega
  have m0:0<=m/\m<=128:=by omega
  have e1:w/2%8=r:=by omega
  have e4:w/4096=f:=by omega
  have eU:yiU w=u:=by
   rcases hu with ⟨h1,h2⟩|⟨h1,h2⟩<;>rw[h1]<;>simp[yiU]<;>omega
  have eD:yh6 w=d:=by
   rcases hd with ⟨h1,h2⟩|⟨h1,h2⟩<;>rw[h1]<;>simp[yh6]<;>omega
  have eL:yin w lv=l:=by
   by_cases hz:lv=0
   ·have:l=J:=by
     rcases hc with ⟨h1,_⟩|⟨_,h2,_⟩
     ·exact h1
     ·omega
    simp[yin,hz,this]
   ·rcases hm2 with ⟨h1,h2,_⟩|⟨h1,h2⟩
    ·rw[h2];simp[yin,hz];omega
    ·have:l=I:=by
      cases l
      ·rfl
      ·exact absurd ⟨rfl,hz⟩ h2
     rw[this];simp[yin,hz];omega
  have hw0:w≠0:=by omega
  have hbad:wBad w lv=I:=by
   simp only[wBad,decide_eq_false_iff_not];intro hh;refine hh.2 ⟨by omega,by omega,by omega,by omega,?_⟩;rintro ⟨hz,h7⟩
   have:m=0:=by
    rcases hm2 with ⟨_,_,h3⟩|⟨h1,_⟩
    ·exact absurd hz h3
    ·exact h1
   omega
  have hcode:yhz w lv=0:=by
   simp only[yhz,hlv,if_false,hbad,O,hw0];rw[eL,e1,eU,eD,e4];exact h
  have hg:yhB w lv=J:=by simp[yhB,hcode,hw0]
  refine⟨by omega,by omega,hcode,by simp[hw0],hg,?_,?_,?_,?_,?_⟩
  ·simp[xL,hg,eL]
  ·simp[xR,hg,e1]
  ·simp[xU,hg,eU]
  ·simp[xD,hg,eD]
  ·simp[xF,hg,e4]
theorem ykI {w lv:Int} (w0:0<=w) (h:yhz w lv=0):
 yhp (yhB w lv) (xL w lv) (xR w lv) (xU w lv) (xD w lv) (xF w lv) lv=0/\enc (yhB w lv) (xL w lv) (xR w lv) (xU w lv) (xD w lv) (xF w lv) lv=w:=by
 by_cases hz:w=0
 ·subst hz
  have hg:yhB 0 lv=I:=by simp[yhB]
  have hlv:¬(lv<0\/3<lv):=by
   intro hl;simp[yhz,hl]at h
  have:yhp I I 0 I I 0 lv=0:=yjX (by omega) (by omega)
  have e:xL 0 lv=I/\xR 0 lv=0/\xU 0 lv=I/\xD 0 lv=I/\xF 0 lv=0:=by simp[xL,xR,xU,xD,xF,hg]
  rw[hg,e.1,e.2.1,e.2.2.1,e.2.2.2.1,e.2.2.2.2];refine⟨this,?_⟩;rw[yiN this];rfl
 ·have hg:yhB w lv=J:=by simp[yhB,h,hz]
  have hlv:¬(lv<0\/3<lv):=by
   intro hl;simp[yhz,hl]at h
  have hbad:wBad w lv=I:=by
   cases hb:wBad w lv
   ·rfl
   ·simp[yhz,hlv,hb]at h
  have hf:yhp J (yin w lv) (w/2%8) (yiU w) (yh6 w) (w/4096) lv=0:=by
   simp only[yhz,hlv,if_false,hbad,O,hz]at h;exact h
  have e:xL w lv=yin w lv/\xR w lv=w/2%8/\xU w lv=yiU w/\xD w lv=yh6 w/\xF w lv=w/4096:=by simp[xL,xR,xU,xD,xF,hg]
  rw[hg,e.1,e.2.1,e.2.2.1,e.2.2.2.1,e.2.2.2.2];refine⟨hf,?_⟩;rw[yiN hf];have hb2:=Classical.not_not.1 (fun hn=>of_decide_eq_false hbad ⟨hz,hn⟩);obtain⟨b0,b4,b8,b32,b7⟩:=hb2
  have hu:b01 (yiU w)=w/32%2:=by
   unfold b01 yiU
   split<;>simp_all<;>omega
  have hd:b01 (yh6 w)=w/64%2:=by
   unfold b01 yh6
   split<;>simp_all<;>omega
  have hl:(if yin w lv=J/\lv≠0 then(128:Int)else 0)=128*(w/128%2):=by
   by_cases h7:w/128%2=1
   ·have hl0:lv≠0:=fun e=>b7 ⟨e,h7⟩
    rw[if_pos ⟨by simp[yin,h7],hl0⟩];omega
   ·rw[if_neg]
    ·omega
    ·rintro ⟨h1,h2⟩
     simp[yin,h2,h7]at h1
  simp only[yi1,if_true,hu,hd,hl];omega
def decV (W lv:Int):Value:=kF #[kY #[E (Pg.yhB W lv),E (Pg.xL W lv),N V (Pg.xR W lv),E (Pg.xU W lv),E (Pg.xD W lv),N V (Pg.xF W lv)],N V (Pg.yhz W lv)]
def mapV (t l:Bool) (r:Int) (u d:Bool) (f lv at':Int):Value:=kY #[N V (Pg.yke t l r u d f lv at'),N V (Pg.ykL t l r u d f lv at'),N V (Pg.yjB t l r u d f lv at'),N V (Pg.yiy t l r u d f lv at')]
theorem ykM {t l:Bool} {r:Int} {u d:Bool} {f lv at':Int} (h:Pg.lOk t l r u d f lv at'=I):Pg.mapV t l r u d f lv at'=kY #[N V 0,N V 0,N V 0,N V 0]:=by
 simp[Pg.mapV,Pg.yke,Pg.ykL,Pg.yjB,Pg.yiy,h]
theorem mapV_yes {t l:Bool} {r:Int} {u d:Bool} {f lv at':Int} (h:Pg.lOk t l r u d f lv at'=J):Pg.mapV t l r u d f lv at'=kY #[N V (at'-at'%Pg.span lv),N V lv,N V f,N V r]:=by
 simp[Pg.mapV,Pg.yke,Pg.ykL,Pg.yjB,Pg.yiy,h]
theorem enc_inj {t l:Bool} {r:Int} {u d:Bool} {f lv:Int} {t' l':Bool} {r':Int} {u' d':Bool} {f':Int} (h:yhp t l r u d f lv=0) (h':yhp t' l' r' u' d' f' lv=0)
 (e:enc t l r u d f lv=enc t' l' r' u' d' f' lv):t=t'/\l=l'/\r=r'/\u=u'/\d=d'/\f=f':=by
 obtain⟨_,_,_,_,a1,a2,a3,a4,a5,a6⟩:=yiZ h;obtain⟨_,_,_,_,b1,b2,b3,b4,b5,b6⟩:=yiZ h';rw[e]at a1 a2 a3 a4 a5 a6;exact⟨a1.symm.trans b1,a2.symm.trans b2,a3.symm.trans b3,a4.symm.trans b4,a5.symm.trans b5,a6.symm.trans b6⟩
theorem xor_marks (y w:Nat) (h7:y/128=w/128) (h5:y%32=w%32) (hy:y<18446744073709551616) (hw:w<18446744073709551616):
 bits .andNot Z (bits .xor Z (y:Int) (w:Int)) 96=0:=by
 have hz:y^^^w<18446744073709551616:=Nat.xor_lt_two_pow (n:=64) hy hw;have e0:(96:Int)=((96:Nat):Int):=rfl;rw[u64_xor_nat y w hy hw,e0,u64_andNot_nat _ 96 hz (by decide)]
 have d7:(y^^^w)/2^7=0:=by
  rw[Nat.xor_div_two_pow];have:y/2^7=w/2^7:=h7;rw[this,kT]
 have d5:(y^^^w)%2^5=0:=by
  rw[Nat.xor_mod_two_pow];have:y%2^5=w%2^5:=h5;rw[this,kT]
 generalize y^^^w=z at*
 have:z=0\/z=32\/z=64\/z=96:=by omega
 rcases this with e|e|e|e<;>subst e<;>decide
theorem marks {t:Bool} {r:Int} {u d:Bool} {f lv:Int} (us di:Bool) (h:yhp t J r u d f lv=0):
 t=J/\yhp t J r us di f lv=0/\bits .andNot Z (bits .xor Z (enc t J r us di f lv) (enc t J r u d f lv)) 96=0/\
 (enc t J r us di f lv=enc t J r u d f lv ↔ us=u/\di=d):=by
 obtain⟨⟨l0,l3⟩,hc⟩:=yhA h;rcases hc with ⟨_,h1,_⟩|⟨ht,r0,r1,f0,f1,⟨_,h2,h3⟩|⟨h1,_⟩⟩
 ·cases h1
 ·subst ht
  have hx:yhp J J r us di f lv=0:=yjb l0 h2 r0 r1 f0 f1 h3;refine⟨rfl,hx,?_,?_⟩
  ·obtain⟨a0,a1,_⟩:=yiZ hx
   obtain⟨b0,b1,_⟩:=yiZ h
   have hy:enc J J r us di f lv=f*4096+r*2+1+32*b01 us+64*b01 di+(if lv≠0 then 128 else 0):=by rw[yiN hx];simp[yi1]
   have hw:enc J J r u d f lv=f*4096+r*2+1+32*b01 u+64*b01 d+(if lv≠0 then 128 else 0):=by rw[yiN h];simp[yi1]
   have c1:=yir us;have c2:=yir di;have c3:=yir u;have c4:=yir d;generalize enc J J r us di f lv=y at*;generalize enc J J r u d f lv=w at*;obtain⟨y',rfl⟩:=B a0;obtain⟨w',rfl⟩:=B b0;generalize hm:(if lv≠0 then(128:Int)else 0)=m at*
   have hm2:m=128\/m=0:=by
    split at hm<;>omega
   have e5:y'%32=w'%32:=by omega
   have e7:y'/128=w'/128:=by omega
   exact xor_marks y' w' e7 e5 (by omega) (by omega)
  ·constructor
   ·intro e
    obtain⟨_,_,_,h4,h5,_⟩:=enc_inj hx h e;exact⟨h4,h5⟩
   ·rintro ⟨rfl,rfl⟩
    rfl
 ·cases h1
end Pg
namespace Pg
theorem yjq (W k n:Nat):W&&&((2^n-1)*2^k)=(W/2^k%2^n)*2^k:=by
 apply Nat.eq_of_testBit_eq
 intro i;rw[Nat.testBit_and,A,A,Nat.testBit_two_pow_sub_one,Nat.testBit_mod_two_pow,Nat.testBit_div_two_pow]
 by_cases h:k<=i
 ·have e:i-k+k=i:=by omega
  simp[h,e,Bool.and_comm]
 ·simp[h]
theorem yjV (W:Int) (h0:0<=W) (h1:W<18446744073709551616) (k n m:Nat) (hm:(2^n-1)*2^k=m) (hb:m<18446744073709551616):
 bits .and Z W (m:Int)=(W/2^k%2^n)*2^k:=by
 obtain⟨v,rfl⟩:=B h0;rw[u64_and_nat v m (by omega) hb,<-hm,yjq];simp
theorem and1 (W:Int) (h0:0<=W) (h1:W<18446744073709551616):bits .and Z W 1=W%2:=by
 have:=yjV W h0 h1 0 1 1 rfl (by decide);simpa using this
theorem and32 (W:Int) (h0:0<=W) (h1:W<18446744073709551616):bits .and Z W 32=W/32%2*32:=by
 have:=yjV W h0 h1 5 1 32 rfl (by decide);simpa using this
theorem and64 (W:Int) (h0:0<=W) (h1:W<18446744073709551616):bits .and Z W 64=W/64%2*64:=by
 have:=yjV W h0 h1 6 1 64 rfl (by decide);simpa using this
theorem yll (W:Int) (h0:0<=W) (h1:W<18446744073709551616):bits .and Z W 128=W/128%2*128:=by
 have:=yjV W h0 h1 7 1 128 rfl (by decide);simpa using this
theorem and14 (W:Int) (h0:0<=W) (h1:W<18446744073709551616):bits .and Z W 14=W/2%8*2:=by
 have:=yjV W h0 h1 1 3 14 rfl (by decide);simpa using this
theorem andF (W:Int) (h0:0<=W) (h1:W<18446744073709551616):bits .and Z W 4294963200=W/4096%1048576*4096:=by
 have:=yjV W h0 h1 12 20 4294963200 rfl (by decide);simpa using this
theorem known_not (W:Int) (h0:0<=W) (h1:W<18446744073709551616):bits .andNot Z W 4294963439=0 ↔ W/16%2=0/\W/256%16=0/\W<4294967296:=by
 obtain⟨v,rfl⟩:=B h0;have e0:(4294963439:Int)=((4294963439:Nat):Int):=rfl
 have e1:(18446744073709551615-4294963439:Nat)=((2^1-1)*2^4|||(2^4-1)*2^8)|||(2^32-1)*2^32:=by decide
 rw[e0,u64_andNot_nat v _ (by omega) (by decide),e1,H,H,yjq,yjq,yjq]
 have:((((v/2^4%2^1*2^4|||v/2^8%2^4*2^8)|||v/2^32%2^32*2^32:Nat):Int)=0) ↔ (v/2^4%2^1*2^4=0/\v/2^8%2^4*2^8=0)/\v/2^32%2^32*2^32=0:=by
  rw[Int.natCast_eq_zero,G,G]
 rw[this];omega
theorem wBad_eq (W lv:Int) (h0:0<=W) (h1:W<18446744073709551616):
 wBad W lv=(bits .andNot Z W 4294963439 !=0||((bits .and Z W 1==0)&&(W !=0))||((bits .and Z W 128 !=0)&&(lv==0))):=by
 rw[and1 W h0 h1,yll W h0 h1,Bool.eq_iff_iff];have hk:=known_not W h0 h1;simp only[wBad,decide_eq_true_eq,kC,kP,bne_iff_ne,ne_eq,beq_iff_eq];rw[hk];omega
theorem or_low (F x y:Nat) (hx:x<4096) (hy:y<4096):(4096*F+x)|||y=4096*F+(x|||y):=by
 have e1:2^12*F+x=2^12*F|||x:=U hx F;have e2:2^12*F+(x|||y)=2^12*F|||(x|||y):=U (Nat.or_lt_two_pow (n:=12) hx hy) F
 show(2^12*F+x)|||y=2^12*F+(x|||y)
 rw[e1,e2,Nat.or_assoc]
theorem or_bit (f x:Int) (f0:0<=f) (f1:f<1048576) (x0:0<=x) (x1:x<4096) (y z:Nat) (hy:y<4096) (hz:x.toNat|||y=z):
 bits .or Z (f*4096+x) (y:Int)=f*4096+z:=by
 obtain⟨F,rfl⟩:=B f0;obtain⟨X,rfl⟩:=B x0
 have e:((F:Int)*4096+(X:Int))=((4096*F+X:Nat):Int):=by omega
 rw[e,u64_or_nat _ y (by omega) (by omega),or_low F X y (by omega) hy];rw[kJ]at hz;rw[hz];omega
theorem or_frame (f x:Int) (f0:0<=f) (f1:f<1048576) (x0:0<=x) (x1:x<4096):bits .or Z x (f*4096)=f*4096+x:=by
 obtain⟨F,rfl⟩:=B f0;obtain⟨X,rfl⟩:=B x0
 have e:((F:Int)*4096)=((4096*F:Nat):Int):=by omega
 have e1:2^12*F+X=2^12*F|||X:=U (by omega) F;rw[e,u64_or_nat X _ (by omega) (by omega),Nat.or_comm];have:(4096*F|||X)=4096*F+X:=e1.symm;rw[this];omega
theorem word_or (r f:Int) (r0:0<=r) (r1:r<=7) (f0:0<=f) (f1:f<1048576):
 bits .or Z (bits .or Z 1 (r*2)) (f*4096)=f*4096+(r*2+1)/\
 bits .or Z (f*4096+(r*2+1)) 32=f*4096+(r*2+33)/\bits .or Z (f*4096+(r*2+1)) 64=f*4096+(r*2+65)/\bits .or Z (f*4096+(r*2+33)) 64=f*4096+(r*2+97)/\
 bits .or Z (f*4096+(r*2+1)) 128=f*4096+(r*2+129)/\bits .or Z (f*4096+(r*2+33)) 128=f*4096+(r*2+161)/\bits .or Z (f*4096+(r*2+65)) 128=f*4096+(r*2+193)/\bits .or Z (f*4096+(r*2+97)) 128=f*4096+(r*2+225):=by
 have hr:r=0\/r=1\/r=2\/r=3\/r=4\/r=5\/r=6\/r=7:=by omega
 rcases hr with rfl|rfl|rfl|rfl|rfl|rfl|rfl|rfl
 all_goals
  refine⟨?_,?_,?_,?_,?_,?_,?_,?_⟩
  ·exact or_frame f _ f0 f1 (by decide) (by decide)
  ·exact or_bit f _ f0 f1 (by decide) (by decide) 32 _ (by decide) rfl
  ·exact or_bit f _ f0 f1 (by decide) (by decide) 64 _ (by decide) rfl
  ·exact or_bit f _ f0 f1 (by decide) (by decide) 64 _ (by decide) rfl
  ·exact or_bit f _ f0 f1 (by decide) (by decide) 128 _ (by decide) rfl
  ·exact or_bit f _ f0 f1 (by decide) (by decide) 128 _ (by decide) rfl
  ·exact or_bit f _ f0 f1 (by decide) (by decide) 128 _ (by decide) rfl
  ·exact or_bit f _ f0 f1 (by decide) (by decide) 128 _ (by decide) rfl
theorem check_small (f r:Int):check 0 0 f r=if r<0\/7<r\/f<0\/1048576<=f then 1 else 0:=by
 have hs:span 0=1:=rfl;split
 ·rename_i h
  refine yiw (by decide) ?_;simp only[below,kC,Bool.not_eq_true',Bool.and_eq_false_iff,decide_eq_false_iff_not];omega
 ·rename_i h
  rw[yie (by decide) (zB.2 (by omega)) (zB.2 (by omega)) (zB.2 (by omega)),hs];simp
theorem check_leaf {f r lv:Int} (h:¬(r<0\/7<r\/f<0\/1048576<=f)) (l0:0<=lv) (l2:lv<=2):check 0 lv f r=if f%span lv=0 then 0 else 3:=by
 have hs:=yhG lv;rw[yie (by omega) (zB.2 (by omega)) (zB.2 (by omega)) (zB.2 (by omega))];simp
end Pg
namespace Pg
structure En where
 t:Bool
 l:Bool
 r:Int
 u:Bool
 d:Bool
 f:Int
namespace En
def zero:En:=⟨I,I,0,I,I,0⟩
def of (W lv:Int):En:=⟨yhB W lv,xL W lv,xR W lv,xU W lv,xD W lv,xF W lv⟩
def val (e:En):Value:=kY #[E e.t,E e.l,N V e.r,E e.u,E e.d,N V e.f]
def on (e:En):Bool:=e.t&& !e.l
def map (e:En) (lv q:Int):Mp:=⟨yke e.t e.l e.r e.u e.d e.f lv q,ykL e.t e.l e.r e.u e.d e.f lv q,yjB e.t e.l e.r e.u e.d e.f lv q,yiy e.t e.l e.r e.u e.d e.f lv q⟩
def fault (e:En) (lv:Int):Int:=yhp e.t e.l e.r e.u e.d e.f lv
end En
theorem ykF (W lv:Int):decV W lv=kF #[(En.of W lv).val,N V (yhz W lv)]:=rfl
theorem mapV_of (e:En) (lv q:Int):mapV e.t e.l e.r e.u e.d e.f lv q=(e.map lv q).val:=rfl
def yhu (S:Fs) (t:Int) (i lv:Nat):Int:=if S.has t=J then yhz (S.word t.toNat i) lv else 12
def rEn (S:Fs) (t:Int) (i lv:Nat):En:=if S.has t=J then En.of (S.word t.toNat i) lv else En.zero
structure Sp where
 table:Int
 place:Nat
 level:Nat
 ahead:Nat
 e:En
def spt (S:Fs) (t:Int) (i lv a:Nat):Sp:=⟨t,i,lv,a+i,rEn S t i lv⟩
section
variable (S:Fs) (L:Nat->Nat->Bool)
def out (lv:Nat) (rec:Int->Nat->List Sp×Int) (t:Int) (a i:Nat):List Sp×Int:=
 if L i lv=I then([],0)
 else if yhu S t i lv≠0 then([],yhu S t i lv)
 else if (rEn S t i lv).on=I then([spt S t i lv a],0)
 else(spt S t i lv a::(rec (rEn S t i lv).f ((a+i)*8)).1,(rec (rEn S t i lv).f ((a+i)*8)).2)
def scan (lv:Nat) (rec:Int->Nat->List Sp×Int) (t:Int) (a:Nat):Nat->Nat->List Sp×Int
 | 0,_=>([],0)
 | n+1,i=>if (out S L lv rec t a i).2≠0 then out S L lv rec t a i
   else((out S L lv rec t a i).1++(scan lv rec t a n (i+1)).1,(scan lv rec t a n (i+1)).2)
def thr:Nat->Int->Nat->List Sp×Int
 | 0,t,a=>scan S L 0 (fun _ _=>([],0)) t a 8 0
 | lv+1,t,a=>scan S L (lv+1) (thr lv) t a 8 0
def sub:Nat->Int->Nat->List Sp×Int
 | 0=>fun _ _=>([],0)
 | lv+1=>thr S L lv
end
theorem yiv (S:Fs) (L:Nat->Nat->Bool) (lv:Nat) (t:Int) (a:Nat):thr S L lv t a=scan S L lv (sub S L lv) t a 8 0:=by
 cases lv<;>rfl
def cnt':Nat->Nat
 | 0=>0
 | lv+1=>8*(1+cnt' lv)
theorem out_len {S:Fs} {L:Nat->Nat->Bool} {lv:Nat} {rec:Int->Nat->List Sp×Int} {t:Int} {a i c:Nat} (h:∀t a,(rec t a).1.length<=c):(out S L lv rec t a i).1.length<=1+c:=by
 unfold out;split
 ·simp
 ·split
  ·simp
  ·split
   ·simp
   ·have:=h (rEn S t i lv).f ((a+i)*8)
    simp;omega
theorem ylb {S:Fs} {L:Nat->Nat->Bool} {lv:Nat} {rec:Int->Nat->List Sp×Int} {t:Int} {a c:Nat} (h:∀t a,(rec t a).1.length<=c):∀n i,(scan S L lv rec t a n i).1.length<=n*(1+c)
 | 0,_=>by simp[scan]
 | n+1,i=>by
   have h1:=out_len (S:=S) (L:=L) (lv:=lv) (t:=t) (a:=a) (i:=i) h;have h2:=ylb (S:=S) (L:=L) (lv:=lv) (t:=t) (a:=a) h n (i+1);unfold scan;rw[Nat.add_mul];split
   ·omega
   ·simp
    omega
theorem ylH (S:Fs) (L:Nat->Nat->Bool):∀lv t a,(sub S L lv t a).1.length<=cnt' lv
 | 0,_,_=>by simp[sub]
 | lv+1,t,a=>by
   show(thr S L lv t a).1.length<=_
   rw[yiv];exact ylb (fun t a=>ylH S L lv t a) 8 0
theorem ylK (S:Fs) (L:Nat->Nat->Bool) (lv:Nat) (t:Int) (a:Nat):(thr S L lv t a).1.length<=cnt' (lv+1):=ylH S L (lv+1) t a
def ix (p:Int) (lv:Nat):Nat:=(p/8^lv%8).toNat
theorem yiD (p:Int) (lv:Nat):ix p lv<8:=by unfold ix;omega
theorem yh7 {p:Int} (h:below p 4096=J) {lv:Nat} (hl:lv<4):index p (lv:Int)=(ix p lv:Nat):=by
 have hb:below (lv:Int) 4=J:=zB.2 ⟨by omega,by omega⟩;simp only[index,h,hb,Bool.and_self,if_true,kJ,ix];omega
def onW (p:Int) (i lv:Nat):Bool:=decide (i=ix p lv)
def zW (_ _:Nat):Bool:=J
def Sp.mp (s:Sp):Mp:=s.e.map s.level (s.ahead*span s.level)
def zM (X:List Sp):List Mp:=X.flatMap fun s=>if s.e.l=J then [s.mp]else []
def zU (X:List Sp):List Int:=X.flatMap fun s=>if s.e.on=J then [s.e.f]else []
theorem yhq (X Y:List Sp):zM (X++Y)=zM X++zM Y:=by simp[zM]
theorem yhm (X Y:List Sp):zU (X++Y)=zU X++zU Y:=by simp[zU]
theorem mapsOf_len (X:List Sp):(zM X).length<=X.length:=by
 induction X with
 | nil=>simp[zM]
 | cons s X ih=>
   have:zM (s::X)=(if s.e.l=J then [s.mp]else [])++zM X:=by simp[zM]
   rw[this]
   split<;>simp<;>omega
theorem tabsOf_len (X:List Sp):(zU X).length<=X.length:=by
 induction X with
 | nil=>simp[zU]
 | cons s X ih=>
   have:zU (s::X)=(if s.e.on=J then [s.e.f]else [])++zU X:=by simp[zU]
   rw[this]
   split<;>simp<;>omega
section
variable {S:Fs}
theorem yhR (h:S.Ok) {t:Int} {i lv:Nat} (hc:yhu S t i lv=0):(rEn S t i lv).fault lv=0:=by
 unfold yhu at hc;split at hc
 ·rename_i hh
  unfold rEn;rw[if_pos hh];exact(ykI (h.low _ _) hc).1
 ·omega
theorem yhH (h:S.Ok) {t:Int} {i lv:Nat} (hl:(rEn S t i lv).l=J):yhu S t i lv=0/\(rEn S t i lv).t=J/\lv<=2:=by
 have hc:yhu S t i lv=0:=by
  unfold rEn at hl;unfold yhu;split at hl
  ·rename_i hh
   rw[if_pos hh];simp[En.of,xL,yhB]at hl;exact hl.1.1
  ·simp[En.zero]at hl
 have hf:=yhR h hc;obtain⟨_,hx⟩:=yhA hf;rcases hx with ⟨_,h1,_⟩|⟨h0,_,_,_,_,⟨_,h2,_⟩|⟨h1,_⟩⟩
 ·rw[h1]at hl;cases hl
 ·exact⟨hc,h0,by omega⟩
 ·rw[h1]at hl;cases hl
end
theorem yhM {S:Fs} {t:Int} {i lv:Nat} (ho:(rEn S t i lv).on=J):∃m,lv=m+1:=by
 cases lv with
 | succ m=>exact⟨m,rfl⟩
 | zero=>
   exfalso
   unfold rEn at ho;split at ho
   ·simp[En.on,En.of,xL,yin]at ho
   ·simp[En.on,En.zero]at ho
theorem yhw {S:Fs} {t:Int} {i lv:Nat} (hc:yhu S t i lv=0):S.has t=J:=by
 unfold yhu at hc;split at hc
 ·assumption
 ·omega
theorem ylc {S:Fs} {L:Nat->Nat->Bool} {lv:Nat} {rec:Int->Nat->List Sp×Int} {t:Int} {a k:Nat} (hL:∀i,L i lv=decide (i=k)):∀n i,scan S L lv rec t a n i=if i<=k/\k<i+n then out S L lv rec t a k else([],0)
 | 0,i=>by rw[if_neg (by omega)];rfl
 | n+1,i=>by
   have ih:=ylc (S:=S) (rec:=rec) (t:=t) (a:=a) hL n (i+1);unfold scan;rw[ih]
   by_cases e:i=k
   ·subst e
    have e1:(if i+1<=i/\i<i+1+n then out S L lv rec t a i else([],0))=([],0):=if_neg (by omega);have e2:(if i<=i/\i<i+(n+1)then out S L lv rec t a i else([],0))=out S L lv rec t a i:=if_pos (by omega);rw[e1,e2];split
    ·rfl
    ·rename_i h0
     have h0:(out S L lv rec t a i).2=0:=by simpa using h0
     simp only[kR];rw[<-h0]
   ·have ho:out S L lv rec t a i=([],0):=by
     unfold out;rw[if_pos (by rw[hL];simpa using e)]
    rw[ho];simp only[ne_eq,not_true_eq_false,if_false,List.nil_append]
    by_cases hk:i+1<=k/\k<i+1+n
    ·rw[if_pos hk,if_pos (by omega)]
    ·rw[if_neg hk,if_neg (by omega)]
theorem yhK (S:Fs) (p:Int) (lv:Nat) (t:Int) (a:Nat):thr S (onW p) lv t a=
 if yhu S t (ix p lv) lv≠0 then([],yhu S t (ix p lv) lv)
 else if (rEn S t (ix p lv) lv).on=I then([spt S t (ix p lv) lv a],0)
 else(spt S t (ix p lv) lv a::(sub S (onW p) lv (rEn S t (ix p lv) lv).f ((a+ix p lv)*8)).1,(sub S (onW p) lv (rEn S t (ix p lv) lv).f ((a+ix p lv)*8)).2):=by
 have:=yiD p lv;rw[yiv,ylc (k:=ix p lv) (fun i=>rfl),if_pos (by omega)];unfold out;rw[if_neg (by simp[onW])]
theorem yi8 {S:Fs} {L:Nat->Nat->Bool} {lv:Nat} {rec:Int->Nat->List Sp×Int} {t:Int} {a:Nat}:∀n i,(scan S L lv rec t a n i).2=0->
 (∀j,i<=j->j<i+n->(out S L lv rec t a j).2=0)/\(scan S L lv rec t a n i).1=(List.range' i n).flatMap fun j=>(out S L lv rec t a j).1
 | 0,i,_=>⟨fun j h1 h2=>by omega,by simp[scan]⟩
 | n+1,i,hz=>by
   unfold scan at hz ⊢;split at hz
   ·rename_i hh
    exact absurd hz hh
   ·rename_i hh
    have h0:(out S L lv rec t a i).2=0:=by simpa using hh
    obtain⟨ih1,ih2⟩:=yi8 n (i+1) hz;refine⟨fun j h1 h2=> ?_,?_⟩
    ·by_cases e:j=i
     ·rw[e];exact h0
     ·exact ih1 j (by omega) (by omega)
    ·rw[if_neg hh,ih2,List.range'_succ,List.flatMap_cons]
end Pg
namespace Pg
structure Wk where
 on:Bool
 q:Int
 k:Int
 u:Bool
 t:Int
 lv:Nat
 x:Int
namespace Wk
def off:Wk:=⟨I,0,0,I,0,0,0⟩
def start (root q k:Int) (u:Bool):Wk:=⟨J,q,k,u,root,3,0⟩
def again (root:Int) (K:Wk):Wk:=if K.on=J then{K with t:=root,lv:=3,x:=0}else K
def mark (K:Wk) (e:En):En:={e with u:=J,d:=e.d||K.k==1}
def ready (K:Wk) (e:En):Bool:=e.u&&(e.d||K.k !=1)
structure Ok (K:Wk):Prop where
 page:K.on=J->below K.q 4096=J
 lv:K.lv<4
 leaf:K.x≠0->0<=K.x/\K.x<18446744073709551616/\yhz K.x K.lv=0/\(En.of K.x K.lv).l=J/\may (En.of K.x K.lv).r K.k K.u=J/\ready K (En.of K.x K.lv)=I
 idle:K.on=I->K=Wk.off
def word (S:Fs) (K:Wk):Int:=S.word K.t.toNat (ix K.q K.lv)
end Wk
abbrev Wo:Type:=Int ⊕ Wk ⊕ Int ⊕ (En×Bool)
abbrev Wo.code (c:Int):Wo:= .inl c
abbrev Wo.go (K:Wk):Wo:= .inr (.inl K)
abbrev Wo.stop (r:Int):Wo:= .inr (.inr (.inl r))
abbrev Wo.done (e:En) (m:Bool):Wo:= .inr (.inr (.inr (e,m)))
def kOut (S:Fs) (root:Int) (K:Wk):Wo:=
 if K.on=I then .code 9
 else if S.has K.t=I then .code 12
 else if K.x≠0 then(if K.word S=K.x then .done (K.mark (En.of K.x K.lv)) J else .go (K.again root))
 else if yhz (K.word S) K.lv≠0 then .code (yhz (K.word S) K.lv)
 else if (En.of (K.word S) K.lv).t=I then .stop 1
 else if (En.of (K.word S) K.lv).l=I then .go {K with t:=(En.of (K.word S) K.lv).f,lv:=K.lv-1}
 else if may (En.of (K.word S) K.lv).r K.k K.u=I then .stop 2
 else if K.ready (En.of (K.word S) K.lv)=I then .go {K with x:=K.word S}
 else .done (En.of (K.word S) K.lv) I
structure Rs where
 ended:Bool
 a:Int
 f:Int
 r:Int
 m:Mp
 d:Bool
def Rs.zero:Rs:=⟨I,0,0,0,⟨0,0,0,0⟩,I⟩
def Rs.val (R:Rs):Value:=kY #[E R.ended,N V R.a,N V R.f,N V R.r,N V R.m.p,N V R.m.s,N V R.m.f,N V R.m.r,E R.d]
namespace Wo
def cd:Wo->Int
 | .inl c=>c
 | _=>0
def ended:Wo->Bool
 | .inr (.inr _)=>J
 | _=>I
def res (K:Wk):Wo->Rs
 | .inl _=>Rs.zero
 | .inr (.inl _)=>Rs.zero
 | .inr (.inr (.inl r))=>⟨J,r,0,0,⟨0,0,0,0⟩,I⟩
 | .inr (.inr (.inr (e,_)))=>⟨J,aEnd (e.map K.lv K.q).r K.k K.u,yij (e.map K.lv K.q).p (e.map K.lv K.q).f (e.map K.lv K.q).r K.q K.k K.u,yhV (e.map K.lv K.q).r K.k K.u,e.map K.lv K.q,e.d⟩
def next (K:Wk):Wo->Wk
 | .inl _=>K
 | .inr (.inl K')=>K'
 | _=>Wk.off
def fs (S:Fs) (K:Wk):Wo->Fs
 | .inr (.inr (.inr (e,J)))=>S.store K.t (index K.q K.lv) (enc e.t e.l e.r e.u e.d e.f K.lv)
 | _=>S
end Wo
theorem ykH (t l:Bool) (r:Int) (u d:Bool) (f lv:Int):0<=enc t l r u d f lv/\enc t l r u d f lv<18446744073709551616:=by
 unfold enc;split
 ·rename_i h
  obtain⟨_,hc⟩:=yhA h;unfold yi1 b01;rcases hc with ⟨rfl,_⟩|⟨rfl,r0,r1,f0,f1,_⟩
  ·simp
  ·simp only[if_true]
   split<;>split<;>split<;>omega
 ·omega
theorem Wk.yjl:Wk.off.Ok:=⟨fun h=>(by cases h),(by decide),fun h=>absurd rfl h,fun _=>rfl⟩
theorem Wk.ykl {root q k:Int} {u:Bool} (h:below q 4096=J):(Wk.start root q k u).Ok:=⟨fun _=>h,by show 3<4;omega,fun h=>absurd rfl h,fun h=>by cases h⟩
theorem Wk.Ok.again {K:Wk} (h:K.Ok) (root:Int):(K.again root).Ok:=by
 unfold Wk.again;split
 ·rename_i ho
  exact⟨fun _=>h.page ho,by show 3<4;omega,fun h=>absurd rfl h,fun h=>by rw[ho]at h;cases h⟩
 ·exact h
theorem ylx {S:Fs} (hS:S.Ok) {K:Wk} (h:K.Ok) (root:Int):((kOut S root K).next K).Ok:=by
 unfold kOut;split
 ·exact h
 ·rename_i ho
  have ho:K.on=J:=by simpa using ho
  split
  ·exact h
  ·split
   ·split
    ·exact Wk.yjl
    ·exact h.again root
   ·rename_i hx
    have hx:K.x=0:=by simpa using hx
    split
    ·exact h
    ·rename_i hc
     have hc:yhz (K.word S) K.lv=0:=by simpa using hc
     split
     ·exact Wk.yjl
     ·rename_i ht
      split
      ·exact⟨fun _=>h.page ho,by show K.lv-1<4;have:=h.lv;omega,fun h=>absurd hx h,fun h=>by rw[ho]at h;cases h⟩
      ·rename_i hl
       have hl:(En.of (K.word S) K.lv).l=J:=by simpa using hl
       split
       ·exact Wk.yjl
       ·rename_i hm
        have hm:may (En.of (K.word S) K.lv).r K.k K.u=J:=by simpa using hm
        split
        ·rename_i hr
         exact⟨fun _=>h.page ho,h.lv,fun _=>⟨hS.low _ _,hS.high _ _,hc,hl,hm,hr⟩,fun h=>by rw[ho]at h;cases h⟩
        ·exact Wk.yjl
theorem kOut_fs {S:Fs} (hS:S.Ok) {K:Wk} (root:Int):((kOut S root K).fs S K).Ok:=by
 rcases kOut S root K with c|K'|r|⟨e,m⟩
 ·exact hS
 ·exact hS
 ·exact hS
 ·cases m
  ·exact hS
  ·have hb:=ykH e.t e.l e.r e.u e.d e.f K.lv
   exact hS.store _ _ hb.1 hb.2
end Pg
namespace Pg
structure Ln where
 m:Mp
 d:Bool
def Ln.zz:Ln:=⟨.zz,I⟩
namespace Ln
def val (l:Ln):Value:=kY #[N V l.m.p,N V l.m.s,N V l.m.f,N V l.m.r,E l.d]
def has (l:Ln) (q:Int):Bool:=l.m.has q
def meets (l:Ln) (m:Mp):Bool:=l.m.meets m
end Ln
structure Kept (L:List Ln):Prop where
 ok:∀l,l ∈ L->l.m.code=0
 ap:L.Pairwise fun a b=>a.m.meets b.m=I
 le:L.length<=6
theorem Kept.nil:Kept []:=⟨fun _ h=>by simp at h,List.Pairwise.nil,by simp⟩
def kFnd (L:List Ln) (q:Int):Option Nat:=L.findIdx? fun l=>l.has q
def kFndN (L:List Ln) (q:Int):Int:=match kFnd L q with
 | some k=>(k:Int)
 | none=> -1
def kAt (L:List Ln) (q:Int):Ln:=match kFnd L q with
 | some k=>L.getD k .zz
 | none=> .zz
def yjd (L:List Ln) (m:Mp):List Ln:=L.filter fun l=> !l.meets m
def yjQ (L:List Ln):List Ln:=if L.length=6 then L.drop 1 else L
def kPut (L:List Ln) (l:Ln):List Ln:=if l.m.code=0 then yjQ (yjd L l.m)++[l]else L
theorem yjR {L:List Ln} {j:Nat} (hj:j<L.length):L.getD j .zz=L[j]:=by simp[List.getD,hj]
theorem ylV {L:List Ln} {j:Nat} (hj:j<L.length):L.getD j .zz ∈ L:=by rw[yjR hj];exact List.getElem_mem _
theorem ykv {L:List Ln} {q:Int} {k:Nat} (h:kFnd L q=some k):k<L.length/\(L.getD k .zz).has q=J/\∀j,j<k->(L.getD j .zz).has q=I:=by
 obtain⟨hk,h1,h2⟩:=Q.1 h;refine⟨hk,by rw[yjR hk];exact h1,fun j hj=> ?_⟩;rw[yjR (by omega)]
 simpa using h2 j hj
theorem idx_some {L:List Ln} {P:Ln->Bool} {k:Nat} (hk:k<L.length) (h1:P (L.getD k .zz)=J) (h2:∀j,j<k->P (L.getD j .zz)=I):L.findIdx? P=some k:=by
 refine Q.2 ⟨hk,by rw[<-yjR hk];exact h1,fun j hj=> ?_⟩;have:=h2 j hj;rw[yjR (by omega)]at this
 simpa using this
theorem idx_none {L:List Ln} {P:Ln->Bool} (h:∀j,j<L.length->P (L.getD j .zz)=I):L.findIdx? P=none:=by
 refine D.2 fun m hm=> ?_;obtain⟨j,hj,rfl⟩:=List.mem_iff_getElem.1 hm;have:=h j hj;rw[yjR hj]at this
 simpa using this
theorem idx_of_some {L:List Ln} {P:Ln->Bool} {k:Nat} (h:L.findIdx? P=some k):k<L.length/\P (L.getD k .zz)=J/\∀j,j<k->P (L.getD j .zz)=I:=by
 obtain⟨hk,h1,h2⟩:=Q.1 h;refine⟨hk,by rw[yjR hk];exact h1,fun j hj=> ?_⟩;rw[yjR (by omega)]
 simpa using h2 j hj
theorem idx_of_none {L:List Ln} {P:Ln->Bool} (h:L.findIdx? P=none):∀l,l ∈ L->P l=I:=fun l hl=>by
 simpa using D.1 h l hl
def idxN (L:List Ln) (P:Ln->Bool):Int:=match L.findIdx? P with
 | some k=>(k:Int)
 | none=> -1
theorem ykC {L:List Ln} {j:Nat} (hj:j<L.length):L.take (j+1)=L.take j++[L.getD j .zz]:=by
 rw[List.take_succ_eq_append_getElem hj,yjR hj]
theorem filter_take_yes {L:List Ln} {P:Ln->Bool} {j:Nat} (hj:j<L.length) (h:P (L.getD j .zz)=J):(L.take (j+1)).filter P=(L.take j).filter P++[L.getD j .zz]:=by
 rw[ykC hj,g];simp only[kS,h,if_true,kN]
theorem yiW {L:List Ln} {P:Ln->Bool} {j:Nat} (hj:j<L.length) (h:P (L.getD j .zz)=I):(L.take (j+1)).filter P=(L.take j).filter P:=by
 rw[ykC hj,g];simp only[kS,h,O,if_false,kN,kR]
theorem Kept.fits {L:List Ln} (h:Kept L) {j:Nat} (hj:j<L.length):Pg.fits (L.getD j .zz).m.p:=(yjf (h.ok _ (ylV hj))).2.2.1
theorem Kept.sub {L M:List Ln} (h:Kept L) (hs:M.Sublist L):Kept M:=
 ⟨fun l hl=>h.ok l (hs.subset hl),h.ap.sublist hs,Nat.le_trans hs.length_le h.le⟩
theorem Kept.drop {L:List Ln} (h:Kept L) (m:Mp):Kept (yjd L m):=h.sub List.filter_sublist
theorem Kept.tail {L:List Ln} (h:Kept L):Kept (L.drop 1):=h.sub (kB _ _)
theorem yjA (L:List Ln):(yjQ L).Sublist L:=by
 unfold yjQ;split
 ·exact kB _ _
 ·exact List.Sublist.refl _
theorem ykw {L:List Ln} (h:L.length<=6):(yjQ L).length<=5:=by
 unfold yjQ;split
 ·simp;omega
 ·omega
theorem yku {L:List Ln} {m:Mp} {l:Ln} (h:l ∈ yjd L m):l.m.meets m=I:=by
 have:=(List.mem_filter.1 h).2
 simpa[Ln.meets]using this
theorem Kept.put {L:List Ln} (h:Kept L) (l:Ln):Kept (kPut L l):=by
 unfold kPut;split
 ·rename_i hc
  have hd:=(h.drop l.m).sub (yjA _);refine⟨fun x hx=> ?_,?_,?_⟩
  ·rcases List.mem_append.1 hx with hx|hx
   ·exact hd.ok x hx
   ·rw[kI.1 hx];exact hc
  ·refine List.pairwise_append.2 ⟨hd.ap,by simp,fun a ha b hb=> ?_⟩
   rw[kI.1 hb];exact yku ((yjA _).subset ha)
  ·have:=ykw (h.drop l.m).le
   simp only[List.length_append,List.length_cons,List.length_nil];omega
 ·exact h
theorem kPut_no {L:List Ln} {l:Ln} (h:l.m.code≠0):kPut L l=L:=by simp[kPut,h]
theorem kPut_yes {L:List Ln} {l:Ln} (h:l.m.code=0):kPut L l=yjQ (yjd L l.m)++[l]:=by simp[kPut,h]
end Pg
namespace Pg
structure Tl where
 a:Int
 f:Int
 r:Int
 ended:Bool
 c:Int
def Tl.val (T:Tl):Value:=kF #[kY #[N V T.a,N V T.f,N V T.r],E T.ended,N V T.c]
def Tl.code (c:Int):Tl:=⟨0,0,0,I,c⟩
def Ln.ans (l:Ln) (q k:Int) (u:Bool):Tl:=⟨aEnd l.m.r k u,yij l.m.p l.m.f l.m.r q k u,yhV l.m.r k u,J,0⟩
def Ln.wants (l:Ln) (k:Int) (u:Bool):Bool:=k==1&&(!l.d&&may l.m.r k u)
structure Cr where
 L:List Ln
 K:Wk
namespace Cr
def new:Cr:=⟨[],Wk.off⟩
structure Ok (C:Cr):Prop where
 kept:Kept C.L
 walk:C.K.Ok
def hit (C:Cr) (q k:Int) (u:Bool):Bool:=(kFnd C.L q).isSome&& !(kAt C.L q).wants k u
def bgT (C:Cr) (q k:Int) (u:Bool):Tl:=if zK q k≠0 then .code (zK q k)else if C.K.on=J then .code 8 else if C.hit q k u=J then(kAt C.L q).ans q k u else .code 0
def bgN (root:Int) (C:Cr) (q k:Int) (u:Bool):Cr:=if zK q k=0/\C.K.on=I/\C.hit q k u=I then⟨C.L,Wk.start root q k u⟩else C
end Cr
def Wo.tl (K:Wk) (o:Wo):Tl:=⟨(o.res K).a,(o.res K).f,(o.res K).r,(o.res K).ended,o.cd⟩
def rPut (L:List Ln) (R:Rs):List Ln:=if (R.ended&&R.a==0)=J then kPut L ⟨R.m,R.d⟩else L
namespace Cr
def stT (S:Fs) (root:Int) (C:Cr):Tl:=Wo.tl C.K (kOut S root C.K)
def stN (S:Fs) (root:Int) (C:Cr):Cr:=⟨rPut C.L ((kOut S root C.K).res C.K),(kOut S root C.K).next C.K⟩
def stS (S:Fs) (root:Int) (C:Cr):Fs:=(kOut S root C.K).fs S C.K
def told (root:Int) (C:Cr) (m:Mp):Cr:=⟨yjd C.L m,C.K.again root⟩
def yja (C:Cr):Cr:=⟨C.L.drop 1,C.K⟩
end Cr
theorem yid {q k:Int} (h:zK q k=0):below q 4096=J:=by
 unfold zK at h;split at h
 ·split at h
  ·assumption
  ·omega
 ·omega
theorem yiY {q k:Int} (h:zK q k=0):fits q:=by
 have:=zB.1 (yid h);unfold fits;omega
theorem yk3 (e:En) (lv q:Int):fits (e.map lv q).p:=by
 show fits (yke e.t e.l e.r e.u e.d e.f lv q)
 unfold yke;split
 ·rename_i h
  have hq:below q 4096=J:=by
   unfold lOk at h;simp only[kP]at h;exact h.2
  have hq:=zB.1 hq;unfold span fits;split
  ·omega
  ·split
   ·omega
   ·split<;>omega
 ·unfold fits;omega
theorem res_fits (K:Wk) (o:Wo):fits (o.res K).m.p:=by
 rcases o with c|K'|r|⟨e,m⟩
 ·show fits 0;unfold fits;omega
 ·show fits 0;unfold fits;omega
 ·show fits 0;unfold fits;omega
 ·exact yk3 e K.lv K.q
namespace Cr.Ok
variable {C:Cr} {S:Fs}
theorem new:Cr.new.Ok:=⟨Kept.nil,Wk.yjl⟩
theorem begin (h:C.Ok) (root q k:Int) (u:Bool):(C.bgN root q k u).Ok:=by
 unfold Cr.bgN;split
 ·rename_i hc
  exact⟨h.kept,Wk.ykl (yid hc.1)⟩
 ·exact h
theorem step (h:C.Ok) (hS:S.Ok) (root:Int):(C.stN S root).Ok:=by
 refine⟨?_,ylx hS h.walk root⟩
 show Kept (rPut _ _)
 unfold rPut;split
 ·exact h.kept.put _
 ·exact h.kept
theorem told (h:C.Ok) (root:Int) (m:Mp):(C.told root m).Ok:=⟨h.kept.drop m,h.walk.again root⟩
theorem yja (h:C.Ok):C.yja.Ok:=⟨h.kept.tail,h.walk⟩
end Cr.Ok
end Pg
namespace Pg
def Wk.at' (q k:Int) (u:Bool) (t:Int) (lv:Nat) (x:Int):Wk:=⟨J,q,k,u,t,lv,x⟩
theorem yiz {S:Fs} {t:Int} {i lv:Nat} (h:S.has t=J):yhu S t i lv=yhz (S.word t.toNat i) lv/\rEn S t i lv=En.of (S.word t.toNat i) lv:=by
 unfold yhu rEn;rw[if_pos h,if_pos h];exact⟨rfl,rfl⟩
theorem yly (S:Fs) (root q k:Int) (u:Bool) (t:Int) (lv:Nat):
 kOut S root (Wk.at' q k u t lv 0)=
  if yhu S t (ix q lv) lv≠0 then .code (yhu S t (ix q lv) lv)
  else if (rEn S t (ix q lv) lv).t=I then .stop 1
  else if (rEn S t (ix q lv) lv).l=I then .go (Wk.at' q k u (rEn S t (ix q lv) lv).f (lv-1) 0)
  else if may (rEn S t (ix q lv) lv).r k u=I then .stop 2
  else if (Wk.at' q k u t lv 0).ready (rEn S t (ix q lv) lv)=I then .go (Wk.at' q k u t lv (S.word t.toNat (ix q lv)))
  else .done (rEn S t (ix q lv) lv) I:=by
 unfold kOut;rw[if_neg (by simp[Wk.at'])];cases h:S.has t
 ·have hr:yhu S t (ix q lv) lv=12:=by simp[yhu,h]
  rw[if_pos (show S.has (Wk.at' q k u t lv 0).t=I from h),hr,if_pos (by decide)]
 ·obtain⟨h1,h2⟩:=yiz (i:=ix q lv) (lv:=lv) h
  rw[if_neg (show ¬S.has (Wk.at' q k u t lv 0).t=I by rw[show(Wk.at' q k u t lv 0).t=t from rfl,h];decide),if_neg (show ¬(Wk.at' q k u t lv 0).x≠0 from fun h=>h rfl),h1,h2];rfl
theorem ylP {S:Fs} {root q k:Int} {u:Bool} {t:Int} {lv:Nat} {x:Int} (hx:x≠0) (hh:S.has t=J) (hw:S.word t.toNat (ix q lv)=x):
 kOut S root (Wk.at' q k u t lv x)= .done ((Wk.at' q k u t lv x).mark (En.of x lv)) J:=by
 unfold kOut;rw[if_neg (by simp[Wk.at']),if_neg (show ¬S.has (Wk.at' q k u t lv x).t=I by rw[show(Wk.at' q k u t lv x).t=t from rfl,hh];decide),if_pos (show(Wk.at' q k u t lv x).x≠0 from hx),if_pos (show(Wk.at' q k u t lv x).word S=(Wk.at' q k u t lv x).x from hw)];rfl
theorem yjE {K:Wk} {e:En} {lv:Int} (hl:e.l=J) (hf:e.fault lv=0):(K.mark e).fault lv=0/\∀q,(K.mark e).map lv q=e.map lv q:=by
 obtain⟨t,l,r,u,d,f⟩:=e;simp only at hl;subst hl;have h:=(marks J (d||K.k==1) hf).2.1;refine⟨h,fun q=> ?_⟩;unfold En.map yke ykL yjB yiy lOk;have h0:yhp t J r u d f lv=0:=hf
 show(⟨_,_,_,_⟩:Mp)=_
 simp only[Wk.mark,h,h0]
theorem mark_same {K:Wk} {e:En} (h:K.ready e=J):K.mark e=e:=by
 obtain⟨t,l,r,u,d,f⟩:=e;unfold Wk.ready at h;unfold Wk.mark
 cases hk:(K.k==1)<;>simp_all
structure Fin where
 R:Rs
 n:Int
 c:Int
 S:Fs
 K:Wk
def fin (root:Int):Nat->Int->Fs->Wk->Fin
 | 0,_,S,K=>⟨Rs.zero,20,-1,S,K⟩
 | f+1,i,S,K=>if (kOut S root K).cd≠0\/(kOut S root K).ended=J then⟨(kOut S root K).res K,i,(kOut S root K).cd,(kOut S root K).fs S K,(kOut S root K).next K⟩
   else fin root f (i+1) ((kOut S root K).fs S K) ((kOut S root K).next K)
theorem kst_word {S:Fs} {t i v:Int} (x j:Nat) (h:x≠t.toNat):(S.store t i v).word x j=S.word x j:=by
 unfold Fs.store;split
 ·show Fs.put S.word t.toNat i.toNat v x j=_
  unfold Fs.put;rw[if_neg (fun e=>h e.1)]
 ·rfl
end Pg
end Go.Proofs.YtdphiompijbelaaGreatDoor
