import Derived.Test.YtkhnelgommaioaaGreatHeap
namespace Go.Proofs.YtkhnelgommaioaaGreat
open Go.RowKit
namespace Pg
def eFault (t l:Bool) (r:Int) (u d:Bool) (f lv:Int):Int:=
 if lv<0\/3<lv then 1
 else if t=false then(if l=true\/r≠0\/u=true\/d=true\/f≠0 then 7 else 0)
 else if r<0\/7<r\/f<0\/1048576<=f then 1
 else if (l=true/\lv=3)\/(l=false/\lv=0)then 2
 else if l=true then(if f%span lv=0 then 0 else 3)
 else if r≠7\/u=true\/d=true then 7 else 0
def b01 (b:Bool):Int:=if b=true then 1 else 0
def eWord (t l:Bool) (r:Int) (u d:Bool) (f lv:Int):Int:=
 if t=true then f*4096+r*2+1+32*b01 u+64*b01 d+(if l=true/\lv≠0 then 128 else 0)else 0
def enc (t l:Bool) (r:Int) (u d:Bool) (f lv:Int):Int:=if eFault t l r u d f lv=0 then eWord t l r u d f lv else 0
def wBad (w lv:Int):Bool:=decide (w≠0/\¬(w%2=1/\w/16%2=0/\w/256%16=0/\w<4294967296/\¬(lv=0/\w/128%2=1)))
def dLeaf (w lv:Int):Bool:=decide (lv=0)||decide (w/128%2=1)
def dUsed (w:Int):Bool:=decide (w/32%2=1)
def dDirty (w:Int):Bool:=decide (w/64%2=1)
def dCode (w lv:Int):Int:=
 if lv<0\/3<lv then 1 else if wBad w lv=true then 7 else if w=0 then 0
 else eFault true (dLeaf w lv) (w/2%8) (dUsed w) (dDirty w) (w/4096) lv
def dGood (w lv:Int):Bool:=decide (dCode w lv=0)&&decide (w≠0)
def xL (w lv:Int):Bool:=dGood w lv&&dLeaf w lv
def xR (w lv:Int):Int:=if dGood w lv=true then w/2%8 else 0
def xU (w lv:Int):Bool:=dGood w lv&&dUsed w
def xD (w lv:Int):Bool:=dGood w lv&&dDirty w
def xF (w lv:Int):Int:=if dGood w lv=true then w/4096 else 0
def lOk (t l:Bool) (r:Int) (u d:Bool) (f lv at':Int):Bool:=decide (eFault t l r u d f lv=0)&&l&&below at' 4096
def lPage (t l:Bool) (r:Int) (u d:Bool) (f lv at':Int):Int:=if lOk t l r u d f lv at'=true then at'-at'%span lv else 0
def lSize (t l:Bool) (r:Int) (u d:Bool) (f lv at':Int):Int:=if lOk t l r u d f lv at'=true then lv else 0
def lFrame (t l:Bool) (r:Int) (u d:Bool) (f lv at':Int):Int:=if lOk t l r u d f lv at'=true then f else 0
def lRights (t l:Bool) (r:Int) (u d:Bool) (f lv at':Int):Int:=if lOk t l r u d f lv at'=true then r else 0
def bit (w:Int) (k:Nat):Bool:=decide (w/2^k%2=1)
theorem fault_zero {t l:Bool} {r:Int} {u d:Bool} {f lv:Int} (h:eFault t l r u d f lv=0):
 (0<=lv/\lv<=3)/\((t=false/\l=false/\r=0/\u=false/\d=false/\f=0)\/
   (t=true/\0<=r/\r<=7/\0<=f/\f<1048576/\((l=true/\lv<=2/\f%span lv=0)\/(l=false/\1<=lv/\r=7/\u=false/\d=false)))):=by
 unfold eFault at h
 split at h
 ·omega
 ·rename_i h1
  refine⟨by omega,?_⟩
  split at h
  ·rename_i ht
   left
   split at h
   ·omega
   ·rename_i h2
    cases l<;>cases u<;>cases d<;>simp_all
  ·rename_i ht
   right
   have ht:t=true:=by simpa using ht
   split at h
   ·omega
   ·rename_i h3
    split at h
    ·omega
    ·rename_i h4
     refine⟨ht,by omega,by omega,by omega,by omega,?_⟩
     split at h
     ·rename_i h5
      left
      split at h
      ·rename_i h6
       refine⟨h5,?_,h6⟩
       subst h5
       simp at h4
       omega
      ·omega
     ·rename_i h5
      have h5:l=false:=by simpa using h5
      right
      split at h
      ·omega
      ·rename_i h6
       subst h5
       simp at h4
       refine⟨rfl,by omega,?_⟩
       cases u<;>cases d<;>simp_all
theorem fault_leaf {r:Int} {u d:Bool} {f lv:Int} (hl:0<=lv) (hl2:lv<=2) (r0:0<=r) (r1:r<=7) (f0:0<=f) (f1:f<1048576) (hs:f%span lv=0):eFault true true r u d f lv=0:=by
 unfold eFault
 rw[if_neg (by omega),if_neg (by decide),if_neg (by omega),if_neg (by simp;omega),if_pos rfl,if_pos hs]
theorem fault_table {f lv:Int} (hl:1<=lv) (hl2:lv<=3) (f0:0<=f) (f1:f<1048576):eFault true false 7 false false f lv=0:=by
 unfold eFault
 rw[if_neg (by omega),if_neg (by decide),if_neg (by omega),if_neg (by simp;omega),if_neg (by decide),if_neg (by decide)]
theorem fault_none {lv:Int} (hl:0<=lv) (hl2:lv<=3):eFault false false 0 false false 0 lv=0:=by
 unfold eFault
 rw[if_neg (by omega),if_pos rfl,if_neg (by decide)]
theorem enc_zero {t l:Bool} {r:Int} {u d:Bool} {f lv:Int} (h:eFault t l r u d f lv=0):enc t l r u d f lv=eWord t l r u d f lv:=by simp[enc,h]
theorem b01_cases (b:Bool):(b=true/\b01 b=1)\/(b=false/\b01 b=0):=by cases b<;>simp[b01]
theorem dec_enc {t l:Bool} {r:Int} {u d:Bool} {f lv:Int} (h:eFault t l r u d f lv=0):
 0<=enc t l r u d f lv/\enc t l r u d f lv<18446744073709551616/\dCode (enc t l r u d f lv) lv=0/\(enc t l r u d f lv=0 ↔ t=false)/\
 dGood (enc t l r u d f lv) lv=t/\xL (enc t l r u d f lv) lv=l/\xR (enc t l r u d f lv) lv=r/\xU (enc t l r u d f lv) lv=u/\xD (enc t l r u d f lv) lv=d/\xF (enc t l r u d f lv) lv=f:=by
 rw[enc_zero h]
 obtain⟨⟨l0,l3⟩,hc⟩:=fault_zero h
 have hlv:¬(lv<0\/3<lv):=by omega
 rcases hc with ⟨rfl,rfl,rfl,rfl,rfl,rfl⟩|⟨rfl,r0,r1,f0,f1,hc⟩
 ·have hw:eWord false false 0 false false 0 lv=0:=rfl
  have hd:dCode 0 lv=0:=by simp[dCode,hlv,wBad]
  rw[hw]
  refine⟨by omega,by omega,hd,by simp,?_⟩
  simp[xL,xR,xU,xD,xF,dGood]
 ·have hw:eWord true l r u d f lv=f*4096+r*2+1+32*b01 u+64*b01 d+(if l=true/\lv≠0 then 128 else 0):=by simp[eWord]
  generalize hm:(if l=true/\lv≠0 then(128:Int)else 0)=m at hw
  have hm2:(m=128/\l=true/\lv≠0)\/(m=0/\¬(l=true/\lv≠0)):=by
   split at hm
   ·rename_i h';exact .inl ⟨hm.symm,h'⟩
   ·rename_i h';exact .inr ⟨hm.symm,h'⟩
  have hu:=b01_cases u
  have hd:=b01_cases d
  generalize eWord true l r u d f lv=w at*
  have bu:0<=b01 u/\b01 u<=1:=by omega
  have bd:0<=b01 d/\b01 d<=1:=by omega
  have m0:0<=m/\m<=128:=by omega
  have e1:w/2%8=r:=by omega
  have e4:w/4096=f:=by omega
  have eU:dUsed w=u:=by
   rcases hu with ⟨h1,h2⟩|⟨h1,h2⟩<;>rw[h1]<;>simp[dUsed]<;>omega
  have eD:dDirty w=d:=by
   rcases hd with ⟨h1,h2⟩|⟨h1,h2⟩<;>rw[h1]<;>simp[dDirty]<;>omega
  have eL:dLeaf w lv=l:=by
   by_cases hz:lv=0
   ·have:l=true:=by
     rcases hc with ⟨h1,_⟩|⟨_,h2,_⟩
     ·exact h1
     ·omega
    simp[dLeaf,hz,this]
   ·rcases hm2 with ⟨h1,h2,_⟩|⟨h1,h2⟩
    ·rw[h2];simp[dLeaf,hz];omega
    ·have:l=false:=by
      cases l
      ·rfl
      ·exact absurd ⟨rfl,hz⟩ h2
     rw[this];simp[dLeaf,hz];omega
  have hw0:w≠0:=by omega
  have hbad:wBad w lv=false:=by
   simp only[wBad,decide_eq_false_iff_not]
   intro hh
   refine hh.2 ⟨by omega,by omega,by omega,by omega,?_⟩
   rintro ⟨hz,h7⟩
   have:m=0:=by
    rcases hm2 with ⟨_,_,h3⟩|⟨h1,_⟩
    ·exact absurd hz h3
    ·exact h1
   omega
  have hcode:dCode w lv=0:=by
   simp only[dCode,hlv,if_false,hbad,Bool.false_eq_true,hw0]
   rw[eL,e1,eU,eD,e4]
   exact h
  have hg:dGood w lv=true:=by simp[dGood,hcode,hw0]
  refine⟨by omega,by omega,hcode,by simp[hw0],hg,?_,?_,?_,?_,?_⟩
  ·simp[xL,hg,eL]
  ·simp[xR,hg,e1]
  ·simp[xU,hg,eU]
  ·simp[xD,hg,eD]
  ·simp[xF,hg,e4]
theorem enc_dec {w lv:Int} (w0:0<=w) (h:dCode w lv=0):
 eFault (dGood w lv) (xL w lv) (xR w lv) (xU w lv) (xD w lv) (xF w lv) lv=0/\enc (dGood w lv) (xL w lv) (xR w lv) (xU w lv) (xD w lv) (xF w lv) lv=w:=by
 by_cases hz:w=0
 ·subst hz
  have hg:dGood 0 lv=false:=by simp[dGood]
  have hlv:¬(lv<0\/3<lv):=by
   intro hl
   simp[dCode,hl]at h
  have:eFault false false 0 false false 0 lv=0:=fault_none (by omega) (by omega)
  have e:xL 0 lv=false/\xR 0 lv=0/\xU 0 lv=false/\xD 0 lv=false/\xF 0 lv=0:=by simp[xL,xR,xU,xD,xF,hg]
  rw[hg,e.1,e.2.1,e.2.2.1,e.2.2.2.1,e.2.2.2.2]
  refine⟨this,?_⟩
  rw[enc_zero this]
  rfl
 ·have hg:dGood w lv=true:=by simp[dGood,h,hz]
  have hlv:¬(lv<0\/3<lv):=by
   intro hl
   simp[dCode,hl]at h
  have hbad:wBad w lv=false:=by
   cases hb:wBad w lv
   ·rfl
   ·simp[dCode,hlv,hb]at h
  have hf:eFault true (dLeaf w lv) (w/2%8) (dUsed w) (dDirty w) (w/4096) lv=0:=by
   simp only[dCode,hlv,if_false,hbad,Bool.false_eq_true,hz]at h
   exact h
  have e:xL w lv=dLeaf w lv/\xR w lv=w/2%8/\xU w lv=dUsed w/\xD w lv=dDirty w/\xF w lv=w/4096:=by simp[xL,xR,xU,xD,xF,hg]
  rw[hg,e.1,e.2.1,e.2.2.1,e.2.2.2.1,e.2.2.2.2]
  refine⟨hf,?_⟩
  rw[enc_zero hf]
  have hb2:=Classical.not_not.1 (fun hn=>of_decide_eq_false hbad ⟨hz,hn⟩)
  obtain⟨b0,b4,b8,b32,b7⟩:=hb2
  have hu:b01 (dUsed w)=w/32%2:=by
   unfold b01 dUsed
   split<;>simp_all<;>omega
  have hd:b01 (dDirty w)=w/64%2:=by
   unfold b01 dDirty
   split<;>simp_all<;>omega
  have hl:(if dLeaf w lv=true/\lv≠0 then(128:Int)else 0)=128*(w/128%2):=by
   by_cases h7:w/128%2=1
   ·have hl0:lv≠0:=fun e=>b7 ⟨e,h7⟩
    rw[if_pos ⟨by simp[dLeaf,h7],hl0⟩];omega
   ·rw[if_neg]
    ·omega
    ·rintro ⟨h1,h2⟩
     simp[dLeaf,h2,h7]at h1
  simp only[eWord,if_true,hu,hd,hl]
  omega
def decV (W lv:Int):Value:= .tuple #[.agg #[.bool (Pg.dGood W lv),.bool (Pg.xL W lv),.int .i64 (Pg.xR W lv),.bool (Pg.xU W lv),.bool (Pg.xD W lv),.int .i64 (Pg.xF W lv)],.int .i64 (Pg.dCode W lv)]
def mapV (t l:Bool) (r:Int) (u d:Bool) (f lv at':Int):Value:= .agg #[.int .i64 (Pg.lPage t l r u d f lv at'),.int .i64 (Pg.lSize t l r u d f lv at'),.int .i64 (Pg.lFrame t l r u d f lv at'),.int .i64 (Pg.lRights t l r u d f lv at')]
theorem mapV_no {t l:Bool} {r:Int} {u d:Bool} {f lv at':Int} (h:Pg.lOk t l r u d f lv at'=false):Pg.mapV t l r u d f lv at'= .agg #[.int .i64 0,.int .i64 0,.int .i64 0,.int .i64 0]:=by
 simp[Pg.mapV,Pg.lPage,Pg.lSize,Pg.lFrame,Pg.lRights,h]
theorem mapV_yes {t l:Bool} {r:Int} {u d:Bool} {f lv at':Int} (h:Pg.lOk t l r u d f lv at'=true):Pg.mapV t l r u d f lv at'= .agg #[.int .i64 (at'-at'%Pg.span lv),.int .i64 lv,.int .i64 f,.int .i64 r]:=by
 simp[Pg.mapV,Pg.lPage,Pg.lSize,Pg.lFrame,Pg.lRights,h]
theorem enc_inj {t l:Bool} {r:Int} {u d:Bool} {f lv:Int} {t' l':Bool} {r':Int} {u' d':Bool} {f':Int} (h:eFault t l r u d f lv=0) (h':eFault t' l' r' u' d' f' lv=0)
 (e:enc t l r u d f lv=enc t' l' r' u' d' f' lv):t=t'/\l=l'/\r=r'/\u=u'/\d=d'/\f=f':=by
 obtain⟨_,_,_,_,a1,a2,a3,a4,a5,a6⟩:=dec_enc h
 obtain⟨_,_,_,_,b1,b2,b3,b4,b5,b6⟩:=dec_enc h'
 rw[e]at a1 a2 a3 a4 a5 a6
 exact⟨a1.symm.trans b1,a2.symm.trans b2,a3.symm.trans b3,a4.symm.trans b4,a5.symm.trans b5,a6.symm.trans b6⟩
theorem xor_marks (y w:Nat) (h7:y/128=w/128) (h5:y%32=w%32) (hy:y<18446744073709551616) (hw:w<18446744073709551616):
 bits .andNot .u64 (bits .xor .u64 (y:Int) (w:Int)) 96=0:=by
 have hz:y^^^w<18446744073709551616:=Nat.xor_lt_two_pow (n:=64) hy hw
 have e0:(96:Int)=((96:Nat):Int):=rfl
 rw[u64_xor_nat y w hy hw,e0,u64_andNot_nat _ 96 hz (by decide)]
 have d7:(y^^^w)/2^7=0:=by
  rw[Nat.xor_div_two_pow]
  have:y/2^7=w/2^7:=h7
  rw[this,Nat.xor_self]
 have d5:(y^^^w)%2^5=0:=by
  rw[Nat.xor_mod_two_pow]
  have:y%2^5=w%2^5:=h5
  rw[this,Nat.xor_self]
 generalize y^^^w=z at*
 have:z=0\/z=32\/z=64\/z=96:=by omega
 rcases this with e|e|e|e<;>subst e<;>decide
theorem marks {t:Bool} {r:Int} {u d:Bool} {f lv:Int} (us di:Bool) (h:eFault t true r u d f lv=0):
 t=true/\eFault t true r us di f lv=0/\bits .andNot .u64 (bits .xor .u64 (enc t true r us di f lv) (enc t true r u d f lv)) 96=0/\
 (enc t true r us di f lv=enc t true r u d f lv ↔ us=u/\di=d):=by
 obtain⟨⟨l0,l3⟩,hc⟩:=fault_zero h
 rcases hc with ⟨_,h1,_⟩|⟨ht,r0,r1,f0,f1,⟨_,h2,h3⟩|⟨h1,_⟩⟩
 ·cases h1
 ·subst ht
  have hx:eFault true true r us di f lv=0:=fault_leaf l0 h2 r0 r1 f0 f1 h3
  refine⟨rfl,hx,?_,?_⟩
  ·obtain⟨a0,a1,_⟩:=dec_enc hx
   obtain⟨b0,b1,_⟩:=dec_enc h
   have hy:enc true true r us di f lv=f*4096+r*2+1+32*b01 us+64*b01 di+(if lv≠0 then 128 else 0):=by rw[enc_zero hx];simp[eWord]
   have hw:enc true true r u d f lv=f*4096+r*2+1+32*b01 u+64*b01 d+(if lv≠0 then 128 else 0):=by rw[enc_zero h];simp[eWord]
   have c1:=b01_cases us
   have c2:=b01_cases di
   have c3:=b01_cases u
   have c4:=b01_cases d
   generalize enc true true r us di f lv=y at*
   generalize enc true true r u d f lv=w at*
   obtain⟨y',rfl⟩:=Int.eq_ofNat_of_zero_le a0
   obtain⟨w',rfl⟩:=Int.eq_ofNat_of_zero_le b0
   generalize hm:(if lv≠0 then(128:Int)else 0)=m at*
   have hm2:m=128\/m=0:=by
    split at hm<;>omega
   have e5:y'%32=w'%32:=by omega
   have e7:y'/128=w'/128:=by omega
   exact xor_marks y' w' e7 e5 (by omega) (by omega)
  ·constructor
   ·intro e
    obtain⟨_,_,_,h4,h5,_⟩:=enc_inj hx h e
    exact⟨h4,h5⟩
   ·rintro ⟨rfl,rfl⟩
    rfl
 ·cases h1
end Pg
namespace Pg
theorem and_mask (W k n:Nat):W&&&((2^n-1)*2^k)=(W/2^k%2^n)*2^k:=by
 apply Nat.eq_of_testBit_eq
 intro i
 rw[Nat.testBit_and,Nat.testBit_mul_two_pow,Nat.testBit_mul_two_pow,Nat.testBit_two_pow_sub_one,Nat.testBit_mod_two_pow,Nat.testBit_div_two_pow]
 by_cases h:k<=i
 ·have e:i-k+k=i:=by omega
  simp[h,e,Bool.and_comm]
 ·simp[h]
theorem and_at (W:Int) (h0:0<=W) (h1:W<18446744073709551616) (k n m:Nat) (hm:(2^n-1)*2^k=m) (hb:m<18446744073709551616):
 bits .and .u64 W (m:Int)=(W/2^k%2^n)*2^k:=by
 obtain⟨v,rfl⟩:=Int.eq_ofNat_of_zero_le h0
 rw[u64_and_nat v m (by omega) hb,<-hm,and_mask]
 simp
theorem and1 (W:Int) (h0:0<=W) (h1:W<18446744073709551616):bits .and .u64 W 1=W%2:=by
 have:=and_at W h0 h1 0 1 1 rfl (by decide);simpa using this
theorem and32 (W:Int) (h0:0<=W) (h1:W<18446744073709551616):bits .and .u64 W 32=W/32%2*32:=by
 have:=and_at W h0 h1 5 1 32 rfl (by decide);simpa using this
theorem and64 (W:Int) (h0:0<=W) (h1:W<18446744073709551616):bits .and .u64 W 64=W/64%2*64:=by
 have:=and_at W h0 h1 6 1 64 rfl (by decide);simpa using this
theorem and128 (W:Int) (h0:0<=W) (h1:W<18446744073709551616):bits .and .u64 W 128=W/128%2*128:=by
 have:=and_at W h0 h1 7 1 128 rfl (by decide);simpa using this
theorem and14 (W:Int) (h0:0<=W) (h1:W<18446744073709551616):bits .and .u64 W 14=W/2%8*2:=by
 have:=and_at W h0 h1 1 3 14 rfl (by decide);simpa using this
theorem andF (W:Int) (h0:0<=W) (h1:W<18446744073709551616):bits .and .u64 W 4294963200=W/4096%1048576*4096:=by
 have:=and_at W h0 h1 12 20 4294963200 rfl (by decide);simpa using this
theorem known_not (W:Int) (h0:0<=W) (h1:W<18446744073709551616):bits .andNot .u64 W 4294963439=0 ↔ W/16%2=0/\W/256%16=0/\W<4294967296:=by
 obtain⟨v,rfl⟩:=Int.eq_ofNat_of_zero_le h0
 have e0:(4294963439:Int)=((4294963439:Nat):Int):=rfl
 have e1:(18446744073709551615-4294963439:Nat)=((2^1-1)*2^4|||(2^4-1)*2^8)|||(2^32-1)*2^32:=by decide
 rw[e0,u64_andNot_nat v _ (by omega) (by decide),e1,Nat.and_or_distrib_left,Nat.and_or_distrib_left,and_mask,and_mask,and_mask]
 have:((((v/2^4%2^1*2^4|||v/2^8%2^4*2^8)|||v/2^32%2^32*2^32:Nat):Int)=0) ↔ (v/2^4%2^1*2^4=0/\v/2^8%2^4*2^8=0)/\v/2^32%2^32*2^32=0:=by
  rw[Int.natCast_eq_zero,Nat.or_eq_zero_iff,Nat.or_eq_zero_iff]
 rw[this]
 omega
theorem wBad_eq (W lv:Int) (h0:0<=W) (h1:W<18446744073709551616):
 wBad W lv=(bits .andNot .u64 W 4294963439 !=0||((bits .and .u64 W 1==0)&&(W !=0))||((bits .and .u64 W 128 !=0)&&(lv==0))):=by
 rw[and1 W h0 h1,and128 W h0 h1,Bool.eq_iff_iff]
 have hk:=known_not W h0 h1
 simp only[wBad,decide_eq_true_eq,Bool.or_eq_true,Bool.and_eq_true,bne_iff_ne,ne_eq,beq_iff_eq]
 rw[hk]
 omega
theorem or_low (F x y:Nat) (hx:x<4096) (hy:y<4096):(4096*F+x)|||y=4096*F+(x|||y):=by
 have e1:2^12*F+x=2^12*F|||x:=Nat.two_pow_add_eq_or_of_lt hx F
 have e2:2^12*F+(x|||y)=2^12*F|||(x|||y):=Nat.two_pow_add_eq_or_of_lt (Nat.or_lt_two_pow (n:=12) hx hy) F
 show(2^12*F+x)|||y=2^12*F+(x|||y)
 rw[e1,e2,Nat.or_assoc]
theorem or_bit (f x:Int) (f0:0<=f) (f1:f<1048576) (x0:0<=x) (x1:x<4096) (y z:Nat) (hy:y<4096) (hz:x.toNat|||y=z):
 bits .or .u64 (f*4096+x) (y:Int)=f*4096+z:=by
 obtain⟨F,rfl⟩:=Int.eq_ofNat_of_zero_le f0
 obtain⟨X,rfl⟩:=Int.eq_ofNat_of_zero_le x0
 have e:((F:Int)*4096+(X:Int))=((4096*F+X:Nat):Int):=by omega
 rw[e,u64_or_nat _ y (by omega) (by omega),or_low F X y (by omega) hy]
 rw[Int.toNat_natCast]at hz
 rw[hz]
 omega
theorem or_frame (f x:Int) (f0:0<=f) (f1:f<1048576) (x0:0<=x) (x1:x<4096):bits .or .u64 x (f*4096)=f*4096+x:=by
 obtain⟨F,rfl⟩:=Int.eq_ofNat_of_zero_le f0
 obtain⟨X,rfl⟩:=Int.eq_ofNat_of_zero_le x0
 have e:((F:Int)*4096)=((4096*F:Nat):Int):=by omega
 have e1:2^12*F+X=2^12*F|||X:=Nat.two_pow_add_eq_or_of_lt (by omega) F
 rw[e,u64_or_nat X _ (by omega) (by omega),Nat.or_comm]
 have:(4096*F|||X)=4096*F+X:=e1.symm
 rw[this]
 omega
theorem word_or (r f:Int) (r0:0<=r) (r1:r<=7) (f0:0<=f) (f1:f<1048576):
 bits .or .u64 (bits .or .u64 1 (r*2)) (f*4096)=f*4096+(r*2+1)/\
 bits .or .u64 (f*4096+(r*2+1)) 32=f*4096+(r*2+33)/\bits .or .u64 (f*4096+(r*2+1)) 64=f*4096+(r*2+65)/\bits .or .u64 (f*4096+(r*2+33)) 64=f*4096+(r*2+97)/\
 bits .or .u64 (f*4096+(r*2+1)) 128=f*4096+(r*2+129)/\bits .or .u64 (f*4096+(r*2+33)) 128=f*4096+(r*2+161)/\bits .or .u64 (f*4096+(r*2+65)) 128=f*4096+(r*2+193)/\bits .or .u64 (f*4096+(r*2+97)) 128=f*4096+(r*2+225):=by
 have hr:r=0\/r=1\/r=2\/r=3\/r=4\/r=5\/r=6\/r=7:=by omega
 rcases hr with rfl|rfl|rfl|rfl|rfl|rfl|rfl|rfl
 all_goals
  refine⟨?_,?_,?_,?_,?_,?_,?_,?_⟩
  ·exact or_frame f _ f0 f1 (by decide) (by decide)
  ·exact or_bit f _ f0 f1 (by decide) (by decide) 32 _ (by decide) rfl
  ·exact or_bit f _ f0 f1 (by decide) (by decide) 64 _ (by decide) rfl
  ·exact or_bit f _ f0 f1 (by decide) (by decide) 64 _ (by decide) rfl
  ·exact or_bit f _ f0 f1 (by decide) (by decide) 128 _ (by decide) rfl
  ·exact or_bit f _ f0 f1 (by decide) (by decide) 128 _ (by decide) rfl
  ·exact or_bit f _ f0 f1 (by decide) (by decide) 128 _ (by decide) rfl
  ·exact or_bit f _ f0 f1 (by decide) (by decide) 128 _ (by decide) rfl
theorem check_small (f r:Int):check 0 0 f r=if r<0\/7<r\/f<0\/1048576<=f then 1 else 0:=by
 have hs:span 0=1:=rfl
 split
 ·rename_i h
  refine check_range (by decide) ?_
  simp only[below,Bool.or_eq_true,Bool.not_eq_true',Bool.and_eq_false_iff,decide_eq_false_iff_not]
  omega
 ·rename_i h
  rw[check_align (by decide) (zB.2 (by omega)) (zB.2 (by omega)) (zB.2 (by omega)),hs]
  simp
theorem check_leaf {f r lv:Int} (h:¬(r<0\/7<r\/f<0\/1048576<=f)) (l0:0<=lv) (l2:lv<=2):check 0 lv f r=if f%span lv=0 then 0 else 3:=by
 have hs:=span_cases lv
 rw[check_align (by omega) (zB.2 (by omega)) (zB.2 (by omega)) (zB.2 (by omega))]
 simp
end Pg
end Go.Proofs.YtkhnelgommaioaaGreat
