import Derived.Test.YtdphiompijbelaaGreatPageB
import Derived.Defers
import Derived.Recover
set_option linter.all false
open Go.Obj renaming cells->kO
open Go renaming World->D
open Go.Ending renaming returned->E
open Nat renaming le_refl->M,two_pow_add_eq_or_of_lt->ks,le_of_lt->uc,testBit_mul_two_pow->yI,and_or_distrib_left->yJ,or_eq_zero_iff->yC,xor_self->yU
open Go.World renaming cell?_setCell_other->U,block_lt_of_cell?->ur,cell?_setCell_same->ua
open Int renaming eq_ofNat_of_zero_le->Z,ediv_ediv_of_nonneg->un,toNat_natCast->yY,pow_succ->yZ,pow_add->yO
open List renaming take_succ_eq_append_getElem->Q,pairwise_cons->K,eraseIdx_of_length_le->kh,findIdx?_eq_some_iff_getElem->uv,eraseIdx_append_of_length_le->ud,getElem_mem->ue,eraseIdx_cons_succ->yB,mem_cons->yV
open Go.Proofs.Tryz renaming prog->T
open Option renaming none->C,some->V
open Go.IntKind renaming i64->P,u64->O
open Go.Value renaming bool->J,int->B,agg->H,pointer->ki,tuple->kp
open Bool renaming false->I,true->N,false_eq_true->G,or_eq_true->yP,eq_iff_iff->yS,true_eq_false->yR,not_eq_true'->yN,and_eq_true->yT,or_false->yF,false_or->yQ
set_option maxHeartbeats 1000000
namespace Go.Proofs.YtdphiompijbelaaGreat
open Go.RowKit
namespace Pg
def yht (t l:Bool) (r:Int) (u d:Bool) (f lv:Int):Int:=
 if lv<0\/3<lv then 1
 else if t=I then(if l=N\/r≠0\/u=N\/d=N\/f≠0 then 7 else 0)
 else if r<0\/7<r\/f<0\/1048576<=f then 1
 else if (l=N/\lv=3)\/(l=I/\lv=0)then 2
 else if l=N then(if f%span lv=0 then 0 else 3)
 else if r≠7\/u=N\/d=N then 7 else 0
def b01 (b:Bool):Int:=if b=N then 1 else 0
def yiD (t l:Bool) (r:Int) (u d:Bool) (f lv:Int):Int:=
 if t=N then f*4096+r*2+1+32*b01 u+64*b01 d+(if l=N/\lv≠0 then 128 else 0)else 0
def enc (t l:Bool) (r:Int) (u d:Bool) (f lv:Int):Int:=if yht t l r u d f lv=0 then yiD t l r u d f lv else 0
def wBad (w lv:Int):Bool:=decide (w≠0/\¬(w%2=1/\w/16%2=0/\w/256%16=0/\w<4294967296/\¬(lv=0/\w/128%2=1)))
def yia (w lv:Int):Bool:=decide (lv=0)||decide (w/128%2=1)
def yh2 (w:Int):Bool:=decide (w/32%2=1)
def yhJ (w:Int):Bool:=decide (w/64%2=1)
def yhA (w lv:Int):Int:=
 if lv<0\/3<lv then 1 else if wBad w lv=N then 7 else if w=0 then 0
 else yht N (yia w lv) (w/2%8) (yh2 w) (yhJ w) (w/4096) lv
def yhF (w lv:Int):Bool:=decide (yhA w lv=0)&&decide (w≠0)
def xL (w lv:Int):Bool:=yhF w lv&&yia w lv
def xR (w lv:Int):Int:=if yhF w lv=N then w/2%8 else 0
def xU (w lv:Int):Bool:=yhF w lv&&yh2 w
def xD (w lv:Int):Bool:=yhF w lv&&yhJ w
def xF (w lv:Int):Int:=if yhF w lv=N then w/4096 else 0
def lOk (t l:Bool) (r:Int) (u d:Bool) (f lv at':Int):Bool:=decide (yht t l r u d f lv=0)&&l&&below at' 4096
def yj1 (t l:Bool) (r:Int) (u d:Bool) (f lv at':Int):Int:=if lOk t l r u d f lv at'=N then at'-at'%span lv else 0
def ykv (t l:Bool) (r:Int) (u d:Bool) (f lv at':Int):Int:=if lOk t l r u d f lv at'=N then lv else 0
def yjw (t l:Bool) (r:Int) (u d:Bool) (f lv at':Int):Int:=if lOk t l r u d f lv at'=N then f else 0
def yiA (t l:Bool) (r:Int) (u d:Bool) (f lv at':Int):Int:=if lOk t l r u d f lv at'=N then r else 0
def bit (w:Int) (k:Nat):Bool:=decide (w/2^k%2=1)
def known (k:Nat):Bool:=decide (k<=3)||(decide (5<=k)&&decide (k<=7))||(decide (12<=k)&&decide (k<=31))
def yhT (w lv:Int) (k:Nat):Bool:=bit w k&&(!known k|| !bit w 0||(decide (k=7)&&decide (lv=0)))
theorem yiM:∀(n:Nat) (v:Int),0<=v->v<2^n->(∀j,j<n->v/2^j%2=0)->v=0
 | 0,v,h0,h1,_=>by simp at h1;omega
 | n+1,v,h0,h1,h=>by
   have e0:v%2=0:=by simpa using h 0 (by omega)
   have h2:v/2=0:=by
    refine yiM n (v/2) (by omega) ?_ ?_
    ·rw[yZ]at h1;omega
    ·intro j hj
     have:=h (j+1) (by omega);rw[yZ,Int.mul_comm,<-un (by omega)]at this;exact this
   omega
theorem yla {w:Int} {k:Nat} (h:bit w k=I):w/2^k%2=0:=by
 simp[bit]at h;omega
theorem good_of_bits {w lv:Int} (h0:0<=w) (h1:w<18446744073709551616) (h:∀k,k<64->yhT w lv k=I):wBad w lv=I:=by
 cases hb:bit w 0
 ·have hz:w=0:=by
   refine yiM 64 w h0 (by simpa using h1) ?_;intro j hj;refine yla ?_;have:=h j hj;cases hj:bit w j
   ·rfl
   ·simp[yhT,hj,hb]at this
  simp[wBad,hz]
 ·have hu:∀k,k<64->known k=I->w/2^k%2=0:=by
   intro k hk bR;refine yla ?_;have:=h k hk;cases hj:bit w k
   ·rfl
   ·simp[yhT,hj,bR]at this
  have e0:w%2=1:=by simpa[bit]using hb
  have e4:w/16%2=0:=by simpa using hu 4 (by omega) (by decide)
  have e8:w/256%16=0:=by
   have a8:w/256%2=0:=by simpa using hu 8 (by omega) (by decide)
   have a9:w/512%2=0:=by simpa using hu 9 (by omega) (by decide)
   have a10:w/1024%2=0:=by simpa using hu 10 (by omega) (by decide)
   have a11:w/2048%2=0:=by simpa using hu 11 (by omega) (by decide)
   omega
  have e32:w<4294967296:=by
   have:w/4294967296=0:=by
    refine yiM 32 _ (by omega) (by simp;omega) ?_;intro j hj;have:=hu (32+j) (by omega) (by simp[known];omega);rw[yO,<-un (by decide)]at this
    simpa using this
   omega
  have e7:¬(lv=0/\w/128%2=1):=by
   rintro ⟨hl,h7⟩;have:=h 7 (by omega)
   have tq:bit w 7=N:=by simpa[bit]using h7
   simp[yhT,tq,hl]at this
  simp[wBad,e0,e4,e8,e32];intro _ hl;exact fun h7=>absurd ⟨hl,h7⟩ e7
theorem bits_of_good {w lv:Int} (h0:0<=w) {k:Nat} (hk:k<64) (h:yhT w lv k=N):wBad w lv=N:=by
 simp only[yhT,yT,yP,yN]at h;obtain⟨hb,hc⟩:=h
 have hb':w/2^k%2=1:=by simpa[bit]using hb
 have hw:w≠0:=by
  intro e;subst e;simp at hb'
 simp only[wBad,decide_eq_true_eq];refine⟨hw,?_⟩;rintro ⟨e0,e4,e8,e32,e7⟩;rcases hc with (hc|hc)|hc
 ·have:k=4\/k=8\/k=9\/k=10\/k=11\/32<=k:=by simp[known]at hc;omega
  rcases this with e|e|e|e|e|e
  ·subst e;simp at hb';omega
  ·subst e;simp at hb';omega
  ·subst e;simp at hb';omega
  ·subst e;simp at hb';omega
  ·subst e;simp at hb';omega
  ·obtain⟨j,rfl⟩:∃j,k=32+j:=⟨k-32,by omega⟩
   rw[yO,<-un (by decide)]at hb'
   have:w/2^32=0:=by simp;omega
   rw[this]at hb';simp at hb'
 ·simp[bit]at hc;omega
 ·simp at hc
  obtain⟨rfl,hl⟩:=hc;exact e7 ⟨hl,by simpa using hb'⟩
theorem bitBad_off {w lv:Int} {k:Nat} (h:bit w k=I):yhT w lv k=I:=by simp[yhT,h]
theorem yj8 {w lv:Int} {k:Nat} (hk:known k=N) (h0:bit w 0=N) (h7:¬(k:Int)=7\/¬lv=0):yhT w lv k=I:=by
 have:¬(k=7/\lv=0):=by omega
 simp[yhT,hk,h0];intro _ h;omega
theorem bitBad_unknown {w lv:Int} {k:Nat} (h:bit w k=N) (hk:known k=I):yhT w lv k=N:=by simp[yhT,h,hk]
theorem bitBad_zero {w lv:Int} {k:Nat} (h:bit w k=N) (h0:bit w 0=I):yhT w lv k=N:=by simp[yhT,h,h0]
theorem bitBad_seven {w lv:Int} {k:Nat} (h:bit w k=N) (h7:(k:Int)=7) (hl:lv=0):yhT w lv k=N:=by
 have:k=7:=by omega
 subst this;simp[yhT,h,hl]
theorem yhG {t l:Bool} {r:Int} {u d:Bool} {f lv:Int} (h:yht t l r u d f lv=0):
 (0<=lv/\lv<=3)/\((t=I/\l=I/\r=0/\u=I/\d=I/\f=0)\/
   (t=N/\0<=r/\r<=7/\0<=f/\f<1048576/\((l=N/\lv<=2/\f%span lv=0)\/(l=I/\1<=lv/\r=7/\u=I/\d=I)))):=by
 unfold yht at h;split at h
 ·omega
 ·rename_i h1
  refine⟨by omega,?_⟩;split at h
  ·rename_i ht
   left;split at h
   ·omega
   ·rename_i h2
    cases l<;>cases u<;>cases d<;>simp_all
  ·rename_i ht
   right
   have ht:t=N:=by simpa using ht
   split at h
   ·omega
   ·rename_i h3
    split at h
    ·omega
    ·rename_i h4
     refine⟨ht,by omega,by omega,by omega,by omega,?_⟩;split at h
     ·rename_i h5
      left;split at h
      ·rename_i h6
       refine⟨h5,?_,h6⟩;subst h5;simp at h4;omega
      ·omega
     ·rename_i h5
      have h5:l=I:=by simpa using h5
      right;split at h
      ·omega
      ·rename_i h6
       subst h5;simp at h4;refine⟨rfl,by omega,?_⟩
       cases u<;>cases d<;>simp_all
theorem yja {r:Int} {u d:Bool} {f lv:Int} (hl:0<=lv) (sJ:lv<=2) (r0:0<=r) (r1:r<=7) (f0:0<=f) (f1:f<1048576) (hs:f%span lv=0):yht N N r u d f lv=0:=by
 unfold yht;rw[if_neg (by omega),if_neg (by decide),if_neg (by omega),if_neg (by simp;omega),if_pos rfl,if_pos hs]
theorem fault_table {f lv:Int} (hl:1<=lv) (sJ:lv<=3) (f0:0<=f) (f1:f<1048576):yht N I 7 I I f lv=0:=by
 unfold yht;rw[if_neg (by omega),if_neg (by decide),if_neg (by omega),if_neg (by simp;omega),if_neg (by decide),if_neg (by decide)]
theorem yjM {lv:Int} (hl:0<=lv) (sJ:lv<=3):yht I I 0 I I 0 lv=0:=by
 unfold yht;rw[if_neg (by omega),if_pos rfl,if_neg (by decide)]
theorem yiO {t l:Bool} {r:Int} {u d:Bool} {f lv:Int} (h:yht t l r u d f lv=0):enc t l r u d f lv=yiD t l r u d f lv:=by simp[enc,h]
theorem yiv (b:Bool):(b=N/\b01 b=1)\/(b=I/\b01 b=0):=by cases b<;>simp[b01]
theorem yiX {t l:Bool} {r:Int} {u d:Bool} {f lv:Int} (h:yht t l r u d f lv=0):
 0<=enc t l r u d f lv/\enc t l r u d f lv<18446744073709551616/\yhA (enc t l r u d f lv) lv=0/\(enc t l r u d f lv=0 ↔ t=I)/\
 yhF (enc t l r u d f lv) lv=t/\xL (enc t l r u d f lv) lv=l/\xR (enc t l r u d f lv) lv=r/\xU (enc t l r u d f lv) lv=u/\xD (enc t l r u d f lv) lv=d/\xF (enc t l r u d f lv) lv=f:=by
 rw[yiO h];obtain⟨⟨l0,l3⟩,hc⟩:=yhG h
 have rP:¬(lv<0\/3<lv):=by omega
 rcases hc with ⟨rfl,rfl,rfl,rfl,rfl,rfl⟩|⟨rfl,r0,r1,f0,f1,hc⟩
 ·have hw:yiD I I 0 I I 0 lv=0:=rfl
  have hd:yhA 0 lv=0:=by simp[yhA,rP,wBad]
  rw[hw];refine⟨by omega,by omega,hd,by simp,?_⟩;simp[xL,xR,xU,xD,xF,yhF]
 ·have hw:yiD N l r u d f lv=f*4096+r*2+1+32*b01 u+64*b01 d+(if l=N/\lv≠0 then 128 else 0):=by simp[yiD]
  generalize hm:(if l=N/\lv≠0 then(128:Int)else 0)=m at hw
  have si:(m=128/\l=N/\lv≠0)\/(m=0/\¬(l=N/\lv≠0)):=by
   split at hm
   ·rename_i h';exact .inl ⟨hm.symm,h'⟩
   ·rename_i h';exact .inr ⟨hm.symm,h'⟩
  have hu:=yiv u;have hd:=yiv d;generalize yiD N l r u d f lv=w at*
  have bu:0<=b01 u/\b01 u<=1:=by omega
  have bd:0<=b01 d/\b01 d<=1:=by omega
  have m0:0<=m/\m<=128:=by omega
  have e1:w/2%8=r:=by omega
  have e4:w/4096=f:=by omega
  have eU:yh2 w=u:=by
   rcases hu with ⟨h1,h2⟩|⟨h1,h2⟩<;>rw[h1]<;>simp[yh2]<;>omega
  have eD:yhJ w=d:=by
   rcases hd with ⟨h1,h2⟩|⟨h1,h2⟩<;>rw[h1]<;>simp[yhJ]<;>omega
  have eL:yia w lv=l:=by
   by_cases hz:lv=0
   ·have:l=N:=by
     rcases hc with ⟨h1,_⟩|⟨_,h2,_⟩
     ·exact h1
     ·omega
    simp[yia,hz,this]
   ·rcases si with ⟨h1,h2,_⟩|⟨h1,h2⟩
    ·rw[h2];simp[yia,hz];omega
    ·have:l=I:=by
      cases l
      ·rfl
      ·exact absurd ⟨rfl,hz⟩ h2
     rw[this];simp[yia,hz];omega
  have Sd:w≠0:=by omega
  have sD:wBad w lv=I:=by
   simp only[wBad,decide_eq_false_iff_not];intro hh;refine hh.2 ⟨by omega,by omega,by omega,by omega,?_⟩;rintro ⟨hz,h7⟩
   have:m=0:=by
    rcases si with ⟨_,_,h3⟩|⟨h1,_⟩
    ·exact absurd hz h3
    ·exact h1
   omega
  have H6:yhA w lv=0:=by
   simp only[yhA,rP,if_false,sD,G,Sd];rw[eL,e1,eU,eD,e4];exact h
  have hg:yhF w lv=N:=by simp[yhF,H6,Sd]
  refine⟨by omega,by omega,H6,by simp[Sd],hg,?_,?_,?_,?_,?_⟩
  ·simp[xL,hg,eL]
  ·simp[xR,hg,e1]
  ·simp[xU,hg,eU]
  ·simp[xD,hg,eD]
  ·simp[xF,hg,e4]
theorem ykq {w lv:Int} (w0:0<=w) (h:yhA w lv=0):
 yht (yhF w lv) (xL w lv) (xR w lv) (xU w lv) (xD w lv) (xF w lv) lv=0/\enc (yhF w lv) (xL w lv) (xR w lv) (xU w lv) (xD w lv) (xF w lv) lv=w:=by
 by_cases hz:w=0
 ·subst hz
  have hg:yhF 0 lv=I:=by simp[yhF]
  have rP:¬(lv<0\/3<lv):=by
   intro hl;simp[yhA,hl]at h
  have:yht I I 0 I I 0 lv=0:=yjM (by omega) (by omega)
  have e:xL 0 lv=I/\xR 0 lv=0/\xU 0 lv=I/\xD 0 lv=I/\xF 0 lv=0:=by simp[xL,xR,xU,xD,xF,hg]
  rw[hg,e.1,e.2.1,e.2.2.1,e.2.2.2.1,e.2.2.2.2];refine⟨this,?_⟩;rw[yiO this];rfl
 ·have hg:yhF w lv=N:=by simp[yhF,h,hz]
  have rP:¬(lv<0\/3<lv):=by
   intro hl;simp[yhA,hl]at h
  have sD:wBad w lv=I:=by
   cases hb:wBad w lv
   ·rfl
   ·simp[yhA,rP,hb]at h
  have hf:yht N (yia w lv) (w/2%8) (yh2 w) (yhJ w) (w/4096) lv=0:=by
   simp only[yhA,rP,if_false,sD,G,hz]at h;exact h
  have e:xL w lv=yia w lv/\xR w lv=w/2%8/\xU w lv=yh2 w/\xD w lv=yhJ w/\xF w lv=w/4096:=by simp[xL,xR,xU,xD,xF,hg]
  rw[hg,e.1,e.2.1,e.2.2.1,e.2.2.2.1,e.2.2.2.2];refine⟨hf,?_⟩;rw[yiO hf];have Hd:=Classical.not_not.1 (fun hn=>of_decide_eq_false sD ⟨hz,hn⟩);obtain⟨b0,b4,b8,b32,b7⟩:=Hd
  have hu:b01 (yh2 w)=w/32%2:=by
   unfold b01 yh2
   split<;>simp_all<;>omega
  have hd:b01 (yhJ w)=w/64%2:=by
   unfold b01 yhJ
   split<;>simp_all<;>omega
  have hl:(if yia w lv=N/\lv≠0 then(128:Int)else 0)=128*(w/128%2):=by
   by_cases h7:w/128%2=1
   ·have cK:lv≠0:=fun e=>b7 ⟨e,h7⟩
    rw[if_pos ⟨by simp[yia,h7],cK⟩];omega
   ·rw[if_neg]
    ·omega
    ·rintro ⟨h1,h2⟩
     simp[yia,h2,h7]at h1
  simp only[yiD,if_true,hu,hd,hl];omega
theorem kint (k:Nat):
 (decide ((k:Int)<=3)=N/\known k=N)\/
 (decide ((k:Int)<=3)=I/\decide (5<=(k:Int))=I/\decide (12<=(k:Int))=I/\known k=I)\/
 (decide ((k:Int)<=3)=I/\decide (5<=(k:Int))=N/\decide ((k:Int)<=7)=N/\known k=N)\/
 (decide ((k:Int)<=3)=I/\decide (5<=(k:Int))=N/\decide ((k:Int)<=7)=I/\decide (12<=(k:Int))=I/\known k=I)\/
 (decide ((k:Int)<=3)=I/\decide (5<=(k:Int))=N/\decide ((k:Int)<=7)=I/\decide (12<=(k:Int))=N/\decide ((k:Int)<=31)=N/\known k=N)\/
 (decide ((k:Int)<=3)=I/\decide (5<=(k:Int))=N/\decide ((k:Int)<=7)=I/\decide (12<=(k:Int))=N/\decide ((k:Int)<=31)=I/\known k=I):=by
 simp[known];omega
def decV (W lv:Int):Value:=kp #[H #[J (Pg.yhF W lv),J (Pg.xL W lv),B P (Pg.xR W lv),J (Pg.xU W lv),J (Pg.xD W lv),B P (Pg.xF W lv)],B P (Pg.yhA W lv)]
theorem yjk {W lv:Int} {c:Int} (h:Pg.yhA W lv=c) (hg:Pg.yhF W lv=I):Pg.decV W lv=kp #[H #[J I,J I,B P 0,J I,J I,B P 0],B P c]:=by
 simp[Pg.decV,Pg.xL,Pg.xR,Pg.xU,Pg.xD,Pg.xF,hg,h]
theorem decV_good {W lv:Int} (h:Pg.yhA W lv=0) (hw:W≠0):Pg.decV W lv=kp #[H #[J N,J (Pg.yia W lv),B P (W/2%8),J (Pg.yh2 W),J (Pg.yhJ W),B P (W/4096)],B P 0]:=by
 have hg:Pg.yhF W lv=N:=by simp[Pg.yhF,h,hw]
 simp[Pg.decV,Pg.xL,Pg.xR,Pg.xU,Pg.xD,Pg.xF,hg,h]
def mapV (t l:Bool) (r:Int) (u d:Bool) (f lv at':Int):Value:=H #[B P (Pg.yj1 t l r u d f lv at'),B P (Pg.ykv t l r u d f lv at'),B P (Pg.yjw t l r u d f lv at'),B P (Pg.yiA t l r u d f lv at')]
theorem yj4 {t l:Bool} {r:Int} {u d:Bool} {f lv at':Int} (h:Pg.lOk t l r u d f lv at'=I):Pg.mapV t l r u d f lv at'=H #[B P 0,B P 0,B P 0,B P 0]:=by
 simp[Pg.mapV,Pg.yj1,Pg.ykv,Pg.yjw,Pg.yiA,h]
theorem ykR {t l:Bool} {r:Int} {u d:Bool} {f lv at':Int} (h:Pg.lOk t l r u d f lv at'=N):Pg.mapV t l r u d f lv at'=H #[B P (at'-at'%Pg.span lv),B P lv,B P f,B P r]:=by
 simp[Pg.mapV,Pg.yj1,Pg.ykv,Pg.yjw,Pg.yiA,h]
theorem enc_inj {t l:Bool} {r:Int} {u d:Bool} {f lv:Int} {t' l':Bool} {r':Int} {u' d':Bool} {f':Int} (h:yht t l r u d f lv=0) (h':yht t' l' r' u' d' f' lv=0)
 (e:enc t l r u d f lv=enc t' l' r' u' d' f' lv):t=t'/\l=l'/\r=r'/\u=u'/\d=d'/\f=f':=by
 obtain⟨_,_,_,_,a1,a2,a3,a4,a5,a6⟩:=yiX h;obtain⟨_,_,_,_,b1,b2,b3,b4,b5,b6⟩:=yiX h';rw[e]at a1 a2 a3 a4 a5 a6;exact⟨a1.symm.trans b1,a2.symm.trans b2,a3.symm.trans b3,a4.symm.trans b4,a5.symm.trans b5,a6.symm.trans b6⟩
theorem xor_marks (y w:Nat) (h7:y/128=w/128) (h5:y%32=w%32) (hy:y<18446744073709551616) (hw:w<18446744073709551616):
 bits .andNot O (bits .xor O (y:Int) (w:Int)) 96=0:=by
 have hz:y^^^w<18446744073709551616:=Nat.xor_lt_two_pow (n:=64) hy hw;have e0:(96:Int)=((96:Nat):Int):=rfl;rw[u64_xor_nat y w hy hw,e0,u64_andNot_nat _ 96 hz (by decide)]
 have d7:(y^^^w)/2^7=0:=by
  rw[Nat.xor_div_two_pow];have:y/2^7=w/2^7:=h7;rw[this,yU]
 have d5:(y^^^w)%2^5=0:=by
  rw[Nat.xor_mod_two_pow];have:y%2^5=w%2^5:=h5;rw[this,yU]
 generalize y^^^w=z at*
 have:z=0\/z=32\/z=64\/z=96:=by omega
 rcases this with e|e|e|e<;>subst e<;>decide
theorem marks {t:Bool} {r:Int} {u d:Bool} {f lv:Int} (us di:Bool) (h:yht t N r u d f lv=0):
 t=N/\yht t N r us di f lv=0/\bits .andNot O (bits .xor O (enc t N r us di f lv) (enc t N r u d f lv)) 96=0/\
 (enc t N r us di f lv=enc t N r u d f lv ↔ us=u/\di=d):=by
 obtain⟨⟨l0,l3⟩,hc⟩:=yhG h;rcases hc with ⟨_,h1,_⟩|⟨ht,r0,r1,f0,f1,⟨_,h2,h3⟩|⟨h1,_⟩⟩
 ·cases h1
 ·subst ht
  have hx:yht N N r us di f lv=0:=yja l0 h2 r0 r1 f0 f1 h3;refine⟨rfl,hx,?_,?_⟩
  ·obtain⟨a0,a1,_⟩:=yiX hx
   obtain⟨b0,b1,_⟩:=yiX h
   have hy:enc N N r us di f lv=f*4096+r*2+1+32*b01 us+64*b01 di+(if lv≠0 then 128 else 0):=by rw[yiO hx];simp[yiD]
   have hw:enc N N r u d f lv=f*4096+r*2+1+32*b01 u+64*b01 d+(if lv≠0 then 128 else 0):=by rw[yiO h];simp[yiD]
   have c1:=yiv us;have c2:=yiv di;have c3:=yiv u;have c4:=yiv d;generalize enc N N r us di f lv=y at*;generalize enc N N r u d f lv=w at*;obtain⟨y',rfl⟩:=Z a0;obtain⟨w',rfl⟩:=Z b0;generalize hm:(if lv≠0 then(128:Int)else 0)=m at*
   have si:m=128\/m=0:=by
    split at hm<;>omega
   have e5:y'%32=w'%32:=by omega
   have e7:y'/128=w'/128:=by omega
   exact xor_marks y' w' e7 e5 (by omega) (by omega)
  ·constructor
   ·intro e
    obtain⟨_,_,_,h4,h5,_⟩:=enc_inj hx h e;exact⟨h4,h5⟩
   ·rintro ⟨rfl,rfl⟩
    rfl
 ·cases h1
end Pg
namespace Pg
theorem yjj (W k n:Nat):W&&&((2^n-1)*2^k)=(W/2^k%2^n)*2^k:=by
 apply Nat.eq_of_testBit_eq
 intro i;rw[Nat.testBit_and,yI,yI,Nat.testBit_two_pow_sub_one,Nat.testBit_mod_two_pow,Nat.testBit_div_two_pow]
 by_cases h:k<=i
 ·have e:i-k+k=i:=by omega
  simp[h,e,Bool.and_comm]
 ·simp[h]
theorem yjK (W:Int) (h0:0<=W) (h1:W<18446744073709551616) (k n m:Nat) (hm:(2^n-1)*2^k=m) (hb:m<18446744073709551616):
 bits .and O W (m:Int)=(W/2^k%2^n)*2^k:=by
 obtain⟨v,rfl⟩:=Z h0;rw[u64_and_nat v m (by omega) hb,<-hm,yjj];simp
theorem and1 (W:Int) (h0:0<=W) (h1:W<18446744073709551616):bits .and O W 1=W%2:=by
 have:=yjK W h0 h1 0 1 1 rfl (by decide);simpa using this
theorem and32 (W:Int) (h0:0<=W) (h1:W<18446744073709551616):bits .and O W 32=W/32%2*32:=by
 have:=yjK W h0 h1 5 1 32 rfl (by decide);simpa using this
theorem and64 (W:Int) (h0:0<=W) (h1:W<18446744073709551616):bits .and O W 64=W/64%2*64:=by
 have:=yjK W h0 h1 6 1 64 rfl (by decide);simpa using this
theorem yk9 (W:Int) (h0:0<=W) (h1:W<18446744073709551616):bits .and O W 128=W/128%2*128:=by
 have:=yjK W h0 h1 7 1 128 rfl (by decide);simpa using this
theorem and14 (W:Int) (h0:0<=W) (h1:W<18446744073709551616):bits .and O W 14=W/2%8*2:=by
 have:=yjK W h0 h1 1 3 14 rfl (by decide);simpa using this
theorem andF (W:Int) (h0:0<=W) (h1:W<18446744073709551616):bits .and O W 4294963200=W/4096%1048576*4096:=by
 have:=yjK W h0 h1 12 20 4294963200 rfl (by decide);simpa using this
theorem known_not (W:Int) (h0:0<=W) (h1:W<18446744073709551616):bits .andNot O W 4294963439=0 ↔ W/16%2=0/\W/256%16=0/\W<4294967296:=by
 obtain⟨v,rfl⟩:=Z h0;have e0:(4294963439:Int)=((4294963439:Nat):Int):=rfl
 have e1:(18446744073709551615-4294963439:Nat)=((2^1-1)*2^4|||(2^4-1)*2^8)|||(2^32-1)*2^32:=by decide
 rw[e0,u64_andNot_nat v _ (by omega) (by decide),e1,yJ,yJ,yjj,yjj,yjj]
 have:((((v/2^4%2^1*2^4|||v/2^8%2^4*2^8)|||v/2^32%2^32*2^32:Nat):Int)=0) ↔ (v/2^4%2^1*2^4=0/\v/2^8%2^4*2^8=0)/\v/2^32%2^32*2^32=0:=by
  rw[Int.natCast_eq_zero,yC,yC]
 rw[this];omega
theorem wBad_eq (W lv:Int) (h0:0<=W) (h1:W<18446744073709551616):
 wBad W lv=(bits .andNot O W 4294963439 !=0||((bits .and O W 1==0)&&(W !=0))||((bits .and O W 128 !=0)&&(lv==0))):=by
 rw[and1 W h0 h1,yk9 W h0 h1,yS];have hk:=known_not W h0 h1;simp only[wBad,decide_eq_true_eq,yP,yT,bne_iff_ne,ne_eq,beq_iff_eq];rw[hk];omega
theorem or_low (F x y:Nat) (hx:x<4096) (hy:y<4096):(4096*F+x)|||y=4096*F+(x|||y):=by
 have e1:2^12*F+x=2^12*F|||x:=ks hx F;have e2:2^12*F+(x|||y)=2^12*F|||(x|||y):=ks (Nat.or_lt_two_pow (n:=12) hx hy) F
 show(2^12*F+x)|||y=2^12*F+(x|||y)
 rw[e1,e2,Nat.or_assoc]
theorem or_bit (f x:Int) (f0:0<=f) (f1:f<1048576) (x0:0<=x) (x1:x<4096) (y z:Nat) (hy:y<4096) (hz:x.toNat|||y=z):
 bits .or O (f*4096+x) (y:Int)=f*4096+z:=by
 obtain⟨F,rfl⟩:=Z f0;obtain⟨X,rfl⟩:=Z x0
 have e:((F:Int)*4096+(X:Int))=((4096*F+X:Nat):Int):=by omega
 rw[e,u64_or_nat _ y (by omega) (by omega),or_low F X y (by omega) hy];rw[yY]at hz;rw[hz];omega
theorem or_frame (f x:Int) (f0:0<=f) (f1:f<1048576) (x0:0<=x) (x1:x<4096):bits .or O x (f*4096)=f*4096+x:=by
 obtain⟨F,rfl⟩:=Z f0;obtain⟨X,rfl⟩:=Z x0
 have e:((F:Int)*4096)=((4096*F:Nat):Int):=by omega
 have e1:2^12*F+X=2^12*F|||X:=ks (by omega) F;rw[e,u64_or_nat X _ (by omega) (by omega),Nat.or_comm];have:(4096*F|||X)=4096*F+X:=e1.symm;rw[this];omega
theorem word_or (r f:Int) (r0:0<=r) (r1:r<=7) (f0:0<=f) (f1:f<1048576):
 bits .or O (bits .or O 1 (r*2)) (f*4096)=f*4096+(r*2+1)/\
 bits .or O (f*4096+(r*2+1)) 32=f*4096+(r*2+33)/\bits .or O (f*4096+(r*2+1)) 64=f*4096+(r*2+65)/\bits .or O (f*4096+(r*2+33)) 64=f*4096+(r*2+97)/\
 bits .or O (f*4096+(r*2+1)) 128=f*4096+(r*2+129)/\bits .or O (f*4096+(r*2+33)) 128=f*4096+(r*2+161)/\bits .or O (f*4096+(r*2+65)) 128=f*4096+(r*2+193)/\bits .or O (f*4096+(r*2+97)) 128=f*4096+(r*2+225):=by
 have hr:r=0\/r=1\/r=2\/r=3\/r=4\/r=5\/r=6\/r=7:=by omega
 rcases hr with rfl|rfl|rfl|rfl|rfl|rfl|rfl|rfl
 all_goals
  refine⟨?_,?_,?_,?_,?_,?_,?_,?_⟩
  ·exact or_frame f _ f0 f1 (by decide) (by decide)
  ·exact or_bit f _ f0 f1 (by decide) (by decide) 32 _ (by decide) rfl
  ·exact or_bit f _ f0 f1 (by decide) (by decide) 64 _ (by decide) rfl
  ·exact or_bit f _ f0 f1 (by decide) (by decide) 64 _ (by decide) rfl
  ·exact or_bit f _ f0 f1 (by decide) (by decide) 128 _ (by decide) rfl
  ·exact or_bit f _ f0 f1 (by decide) (by decide) 128 _ (by decide) rfl
  ·exact or_bit f _ f0 f1 (by decide) (by decide) 128 _ (by decide) rfl
  ·exact or_bit f _ f0 f1 (by decide) (by decide) 128 _ (by decide) rfl
theorem check_small (f r:Int):check 0 0 f r=if r<0\/7<r\/f<0\/1048576<=f then 1 else 0:=by
 have hs:span 0=1:=rfl;split
 ·rename_i h
  refine yil (by decide) ?_;simp only[below,yP,yN,Bool.and_eq_false_iff,decide_eq_false_iff_not];omega
 ·rename_i h
  rw[yh1 (by decide) (zB.2 (by omega)) (zB.2 (by omega)) (zB.2 (by omega)),hs];simp
theorem check_leaf {f r lv:Int} (h:¬(r<0\/7<r\/f<0\/1048576<=f)) (l0:0<=lv) (l2:lv<=2):check 0 lv f r=if f%span lv=0 then 0 else 3:=by
 have hs:=yhD lv;rw[yh1 (by omega) (zB.2 (by omega)) (zB.2 (by omega)) (zB.2 (by omega))];simp
end Pg
end Go.Proofs.YtdphiompijbelaaGreat
namespace Go.Proofs.YtdphiompijbelaaGreat
open Go.RowKit Go.Sort
def give (c:Int):Ending:=if c=0 then E (kp #[])else .panicked [{v:= .iface 273 (H #[B P c]),recovered:=I}]
theorem zY:give 0=E (kp #[]):=rfl
theorem zN {c:Int} (h:c≠0):give c= .panicked [{v:= .iface 273 (H #[B P c]),recovered:=I}]:=if_neg h
theorem vI (c:Int) (w:D):
 Calls T 224 #[J I,B P c] w fun e w'=>e=E (kp #[])/\w'=w:=by
 go_enter Tryz.func224,Tryz.ntmps224
 go_wp2
 go_end0
 exact⟨rfl,rfl⟩
theorem vf (c:Int) (w:D):
 Calls T 224 #[J N,B P c] w fun e w'=>e= .panicked [{v:= .iface 273 (H #[B P c]),recovered:=I}]/\w'=w:=by
 go_enter Tryz.func224,Tryz.ntmps224
 go_wp2
 exact⟨rfl,rfl,rfl⟩
theorem ze (so:Bool) (c:Int) (w:D):
 Calls T 224 #[J so,B P c] w fun e w'=>e=(bif so then .panicked [{v:= .iface 273 (H #[B P c]),recovered:=I}]else E (kp #[]))/\w'=w:=by
 cases so
 ·exact vI c w
 ·exact vf c w
theorem yaO (p:Addr) (v:Value):#[Value.pointer (V p)]++((Array.replicate 16 undef).setIfInBounds 3 v).setIfInBounds 0 v=#[ki (V p),v,undef,undef,v,undef,undef,undef,undef,undef,undef,undef,undef,undef,undef,undef,undef]:=rfl
theorem ydx (p:Addr) (w:D):
 CallsD T 222 #[ki (V p)] .returning w fun e u' w'=>e=E (kp #[])/\u'= .returning/\w'=w:=by
 refine callsD_of_wpS Tryz.func222 rfl fun c₀ cs hu=> ?_
 apply wpS_seq
 apply wpS_region
 simp[wpOpsS,go_sem,recoverD,hu,Tryz.ntmps222,Exit.thenS];refine wpS_of_wp ?_;rw[yaO]
 go_wp2
 cases c₀
 simp_all[bodyPostS,results,Tryz.results222]
theorem yfp (p:Addr) (c:Int) (w:D) (hc:w.cell? p=V (B P 0)) (hz:w.frozen? p=I):
 CallsD T 222 #[ki (V p)] (.panicking [{v:= .iface 273 (H #[B P c]),recovered:=I}]) w fun e u' w'=>
  e=E (kp #[])/\u'= .panicking [{v:= .iface 273 (H #[B P c]),recovered:=N}]/\w'.cell? p=V (B P c)/\Below p.block w w':=by
 have hta:∀(v:Value) (w:D),(Instr.typeAssert (.iface 273 v) 20 273 N).run T w= .ok (kp #[v,J N]) w:=fun _ _=>by kernel_rfl
 have Hf:p.block<w.heap.size:=ur _ _ hc;have rX:∀o,(w.alloc o).frozen? p=I:=fun o=>((zA (zR w) o).frozen Hf).trans hz;have tY:∀o,(w.alloc o).cell? p=V (B P 0):=fun o=>((zA (zR w) o).cell Hf).trans hc;refine callsD_of_wpS Tryz.func222 rfl fun c₀ cs hu=> ?_
 apply wpS_seq
 apply wpS_region
 simp[wpOpsS,go_sem,recoverD,hu,Tryz.ntmps222,Exit.thenS];refine wpS_of_wp ?_;rw[yaO]
 go_wp2
 refine⟨rfl,_,rfl,kp #[],by simp[results,Tryz.results222],rfl,rfl,ua _ _ _ (tY _),((Below.refl p.block w).alloc (by omega) _).setCell (M _) _⟩
theorem jT (f:FuncId) (aU:Array Value) (c:Int) (R:D->Prop) (w:D)
 (hf:∀w,(callFunc f aU).run T w= .ok (.enter f aU) w) (h:Calls T f aU (w.alloc (kO #[B P 0] 3)) fun e w'=>e=give c/\R w'/\w'.cell? ⟨w.heap.size,0,C⟩=V (B P 0)/\w'.frozen? ⟨w.heap.size,0,C⟩=I):
 Calls T 197 #[.func (.func f) #[] aU] w fun e w'=>e=E (B P c)/\∃w1,R w1/\Below w.heap.size w1 w':=by
 have ae:∀(fn:Fn) (first cap:Array Value) (w:D),(Instr.makeFunc fn first cap).run T w= .ok (.func fn first cap) w:=fun _ _ _ _=>rfl
 go_enter_defers Tryz.func197,Tryz.ntmps197
 go_wp2_with fail
 refine h.mono ?_;rintro e w1 ⟨rfl,hR,hc,hz⟩
 by_cases h0:c=0
 ·rw[h0,zY]
  go_wp2_with fail
  refine leaves_cons (f:=222) (args:=#[ki (V ⟨w.heap.size,0,C⟩)]) (by simp) (by simp[go_sem]) ?_;refine(ydx ⟨w.heap.size,0,C⟩ _).mono ?_;rintro e u' w'' ⟨rfl,rfl,rfl⟩;simp[Leaves,settle,results,Tryz.results197,go_sem,hc];exact⟨h0.symm,w1,hR,(Below.refl w.heap.size w1).setCell (p:=⟨w.heap.size,0,C⟩) (M _) _⟩
 ·rw[zN h0]
  go_wp2_with fail
  refine leaves_cons (f:=222) (args:=#[ki (V ⟨w.heap.size,0,C⟩)]) (by simp) (by simp[go_sem]) ?_;refine(yfp ⟨w.heap.size,0,C⟩ c _ hc hz).mono ?_;rintro e u' w'' ⟨rfl,rfl,kK,hb⟩;simp[Leaves,settle,results,Tryz.results197,go_sem,kK];exact⟨w1,hR,hb⟩
theorem qY (lv:Int) (h:lv<0\/3<lv) (w:D):
 Calls T 223 #[B P lv] w fun e w'=>e= .panicked [{v:= .iface 273 (H #[B P 1]),recovered:=I}]/\w'=w:=by
 rcases h with h|h
 all_goals
  go_enter Tryz.func223,Tryz.ntmps223
  go_wp2_with (go_at_call 224;refine(vf _ _).mono ?_;rintro e w' ⟨rfl,rfl⟩)
  exact⟨rfl,rfl,rfl⟩
theorem zk (lv:Int) (h:0<=lv) (h':lv<=3) (w:D):
 Calls T 223 #[B P lv] w fun e w'=>e=E (kp #[])/\w'=w:=by
 have d1:decide (lv<0)=I:=by simpa using h
 have d2:decide (3<lv)=I:=by simpa using h'
 clear h h'
 go_enter Tryz.func223,Tryz.ntmps223
 go_wp2_with (go_at_call 224;refine(vI _ _).mono ?_;rintro e w' ⟨rfl,rfl⟩)
 go_end0
 exact⟨rfl,rfl⟩
theorem xZ (t l:Bool) (r:Int) (u d:Bool) (f lv:Int) (w:D):
 Calls T 187 #[H #[J t,J l,B P r,J u,J d,B P f],B P lv] w fun e w'=>e=E (H #[B P 0,B P lv,B P f,B P r])/\Below w.heap.size w w':=by
 go_enter Tryz.func187,Tryz.ntmps187
 go_wp2_with fail
 refine bodyPost_ret (v:=H #[B P 0,B P lv,B P f,B P r]) ?_ rfl ⟨rfl,?_⟩
 ·simp[results,Tryz.results187,go_sem]
 ·exact zA (zA (zR _) _) _
theorem ydf (t l:Bool) (r:Int) (u d:Bool) (f lv:Int) (h:Pg.yht t l r u d f lv=0) (w:D):
 Calls T 200 #[H #[J t,J l,B P r,J u,J d,B P f],B P lv] w fun e w'=>e=E (B O (Pg.yiD t l r u d f lv))/\Below w.heap.size w w':=by
 obtain⟨⟨l0,l3⟩,hc⟩:=Pg.yhG h;clear h;rcases hc with ⟨rfl,rfl,rfl,rfl,rfl,rfl⟩|⟨rfl,r0,r1,f0,f1,hc⟩
 ·go_enter Tryz.func200,Tryz.ntmps200
  go_wp2_with fail
  go_ret
  exact⟨rfl,zA (zR _) _⟩
 ·clear hc
  have HO:Hid _:=Pg.word_or r f r0 r1 f0 f1
  cases u<;>cases d<;>cases l
  all_goals
   go_enter Tryz.func200,Tryz.ntmps200
   go_wp2_with fail
  all_goals
   go_ret
   refine⟨zE ?_,zA (zR _) _⟩;obtain⟨o1,o2,o3,o4,o5,o6,o7,o8⟩:=HO.out;simp only[o1,o2,o3,o4,o5,o6,o7,o8]
   simp_all[Pg.yiD,Pg.b01]<;>omega
theorem yfI (W lv:Int) (h0:0<=W) (h1:W<4294967296) (h2:W%2=1) (w:D):
 Calls T 229 #[B O W,B P lv] w fun e w'=>e=E (H #[J N,J (Pg.yia W lv),B P (W/2%8),J (Pg.yh2 W),J (Pg.yhJ W),B P (W/4096)])/\Below w.heap.size w w':=by
 have Tx:W<18446744073709551616:=by omega
 have b0:(bits .and O W 1==0)=I:=by rw[Pg.and1 W h0 Tx,h2];rfl
 have b5:(bits .and O W 32 !=0)=Pg.yh2 W:=by rw[Pg.and32 W h0 Tx,yS];simp[Pg.yh2];omega
 have b6:(bits .and O W 64 !=0)=Pg.yhJ W:=by rw[Pg.and64 W h0 Tx,yS];simp[Pg.yhJ];omega
 have b1:wrap64 (bits .and O W 14/2)=W/2%8:=by
  rw[Pg.and14 W h0 Tx,wrap64];omega
 have bF:wrap64 (bits .and O W 4294963200/4096)=W/4096:=by
  rw[Pg.andF W h0 Tx,wrap64];omega
 by_cases h7:W/128%2=1
 ·have b7:(bits .and O W 128 !=0)=N:=by rw[Pg.yk9 W h0 Tx,h7];rfl
  have HL:Hid (Pg.yia W lv=N):=by simp[Hid,Pg.yia,h7]
  clear h7 h2
  go_enter Tryz.func229,Tryz.ntmps229
  go_wp2_with fail
  refine bodyPost_ret (v:=H #[J N,J N,B P (W/2%8),J (Pg.yh2 W),J (Pg.yhJ W),B P (W/4096)]) ?_ rfl ⟨by rw[HL.out],?_⟩
  ·simp[results,Tryz.results229,go_sem]
  ·exact zA (zR _) _
 ·have b7:(bits .and O W 128 !=0)=I:=by
   have:W/128%2=0:=by omega
   rw[Pg.yk9 W h0 Tx,this];rfl
  have HL:Hid (Pg.yia W lv=(lv==0)):=by
   simp only[Hid,Pg.yia,h7,decide_false,yF];rfl
  clear h7 h2
  go_enter Tryz.func229,Tryz.ntmps229
  go_wp2_with fail
  refine bodyPost_ret (v:=H #[J N,J (lv==0),B P (W/2%8),J (Pg.yh2 W),J (Pg.yhJ W),B P (W/4096)]) ?_ rfl ⟨by rw[HL.out],?_⟩
  ·simp[results,Tryz.results229,go_sem]
  ·exact zA (zR _) _
theorem yjC (lv:Int) (w:D):
 Calls T 229 #[B O 0,B P lv] w fun e w'=>e=E (H #[J I,J I,B P 0,J I,J I,B P 0])/\Below w.heap.size w w':=by
 have b0:(bits .and O 0 1==0)=N:=by decide
 go_enter Tryz.func229,Tryz.ntmps229
 go_wp2_with fail
 refine bodyPost_ret (v:=H #[J I,J I,B P 0,J I,J I,B P 0]) ?_ rfl ⟨rfl,?_⟩
 ·simp[results,Tryz.results229,go_sem]
 ·exact zA (zR _) _
theorem yay (W lv:Int) (h0:0<=W) (h1:W<18446744073709551616) (w:D):
 Calls T 228 #[B O W,B P lv] w fun e w'=>e=give (if lv<0\/3<lv then 1 else if Pg.wBad W lv=N then 7 else 0)/\w'=w:=by
 by_cases hl:lv<0\/3<lv
 ·rw[if_pos hl]
  go_enter Tryz.func228,Tryz.ntmps228
  go_wp2_with (go_at_call 223;refine(qY _ hl _).mono ?_;rintro e w' ⟨rfl,rfl⟩)
  exact⟨rfl,rfl,rfl⟩
 ·rw[if_neg hl]
  have l0:0<=lv:=by omega
  have l3:lv<=3:=by omega
  clear hl;have hw:=Pg.wBad_eq W lv h0 h1;have HW:Hid _:=hw;clear hw;generalize hg:(if Pg.wBad W lv=N then(7:Int)else 0)=g;have HG:Hid _:=hg;clear hg;cases c1:(bits .andNot O W 4294963439 !=0)
  ·cases c2:(bits .and O W 1==0)
   ·cases c4:(bits .and O W 128 !=0)
    ·go_enter Tryz.func228,Tryz.ntmps228
     go_wp2_with (first
      | (go_at_call 223;refine(zk _ l0 l3 _).mono ?_;rintro e w' ⟨rfl,rfl⟩)
      | (go_at_call 224;refine(ze _ _ _).mono ?_;rintro e w' ⟨rfl,rfl⟩;simp only[cond]))
     go_end0
     exact⟨by rw[<-HG.out,HW.out,c1,c2,c4];rfl,rfl⟩
    ·cases c5:(lv==0)
     ·go_enter Tryz.func228,Tryz.ntmps228
      go_wp2_with (first
       | (go_at_call 223;refine(zk _ l0 l3 _).mono ?_;rintro e w' ⟨rfl,rfl⟩)
       | (go_at_call 224;refine(ze _ _ _).mono ?_;rintro e w' ⟨rfl,rfl⟩;simp only[cond]))
      go_end0
      exact⟨by rw[<-HG.out,HW.out,c1,c2,c4,c5];rfl,rfl⟩
     ·go_enter Tryz.func228,Tryz.ntmps228
      go_wp2_with (first
       | (go_at_call 223;refine(zk _ l0 l3 _).mono ?_;rintro e w' ⟨rfl,rfl⟩)
       | (go_at_call 224;refine(ze _ _ _).mono ?_;rintro e w' ⟨rfl,rfl⟩;simp only[cond]))
      exact⟨rfl,by rw[<-HG.out,HW.out,c1,c2,c4,c5];rfl,rfl⟩
   ·cases c3:(W !=0)
    ·have hz:W=0:=by simpa using c3
     subst hz
     go_enter Tryz.func228,Tryz.ntmps228
     go_wp2_with (first
      | (go_at_call 223;refine(zk _ l0 l3 _).mono ?_;rintro e w' ⟨rfl,rfl⟩)
      | (go_at_call 224;refine(ze _ _ _).mono ?_;rintro e w' ⟨rfl,rfl⟩;simp only[cond]))
     go_end0
     exact⟨by rw[<-HG.out];simp[Pg.wBad,give],rfl⟩
    ·go_enter Tryz.func228,Tryz.ntmps228
     go_wp2_with (first
      | (go_at_call 223;refine(zk _ l0 l3 _).mono ?_;rintro e w' ⟨rfl,rfl⟩)
      | (go_at_call 224;refine(ze _ _ _).mono ?_;rintro e w' ⟨rfl,rfl⟩;simp only[cond]))
     exact⟨rfl,by rw[<-HG.out,HW.out,c1,c2,c3];rfl,rfl⟩
  ·go_enter Tryz.func228,Tryz.ntmps228
   go_wp2_with (first
    | (go_at_call 223;refine(zk _ l0 l3 _).mono ?_;rintro e w' ⟨rfl,rfl⟩)
    | (go_at_call 224;refine(ze _ _ _).mono ?_;rintro e w' ⟨rfl,rfl⟩;simp only[cond]))
   exact⟨rfl,by rw[<-HG.out,HW.out,c1];rfl,rfl⟩
theorem ycY (t l:Bool) (r:Int) (u d:Bool) (f lv:Int) (l0:0<=lv) (l3:lv<=3) (hr:¬(r<0\/7<r\/f<0\/1048576<=f)) (w:D):
 Calls T 225 #[H #[J t,J l,B P r,J u,J d,B P f],B P lv] w fun e w'=>
  e=give (if lv=3 then 2 else if f%Pg.span lv=0 then 0 else 3)/\Below w.heap.size w w':=by
 by_cases h3:lv=3
 ·subst h3
  clear hr
  go_enter Tryz.func225,Tryz.ntmps225
  go_wp2_with (go_at_call 224;refine(ze _ _ _).mono ?_;rintro e w' ⟨rfl,rfl⟩;simp only[cond])
  exact⟨rfl,rfl,zA (zR _) _⟩
 ·have e3:(lv==3)=I:=by simpa using h3
  have HC:Hid _:=Pg.check_leaf hr l0 (by omega:lv<=2);rw[if_neg h3];clear h3 hr
  by_cases hm:f%Pg.span lv=0
  ·have hk:(Pg.check 0 lv f r !=0)=I:=by rw[HC.out,if_pos hm];rfl
   rw[if_pos hm];clear hm HC
   go_enter Tryz.func225,Tryz.ntmps225
   go_wp2_with (go_at_call 224;refine(ze _ _ _).mono ?_;rintro e w' ⟨rfl,rfl⟩;simp only[cond])
   refine(xZ _ _ _ _ _ _ _ _).mono ?_;rintro e w1 ⟨rfl,Ha⟩
   go_wp2_with fail
   refine(zX _ _ _ _ _).mono ?_;rintro e w2 ⟨rfl,Hd⟩
   go_wp2_with (go_at_call 224;refine(ze _ _ _).mono ?_;rintro e w' ⟨rfl,rfl⟩;simp only[cond])
   go_end0
   exact⟨rfl,zT (zT (zA (zR _) _) Ha) Hd⟩
  ·have hk:(Pg.check 0 lv f r !=0)=N:=by rw[HC.out,if_neg hm];rfl
   rw[if_neg hm];clear hm HC
   go_enter Tryz.func225,Tryz.ntmps225
   go_wp2_with (go_at_call 224;refine(ze _ _ _).mono ?_;rintro e w' ⟨rfl,rfl⟩;simp only[cond])
   refine(xZ _ _ _ _ _ _ _ _).mono ?_;rintro e w1 ⟨rfl,Ha⟩
   go_wp2_with fail
   refine(zX _ _ _ _ _).mono ?_;rintro e w2 ⟨rfl,Hd⟩
   go_wp2_with (go_at_call 224;refine(ze _ _ _).mono ?_;rintro e w' ⟨rfl,rfl⟩;simp only[cond])
   exact⟨rfl,rfl,zT (zT (zA (zR _) _) Ha) Hd⟩
theorem yb9 (t l:Bool) (r:Int) (u d:Bool) (f lv:Int) (w:D):
 Calls T 226 #[H #[J t,J l,B P r,J u,J d,B P f],B P lv] w fun e w'=>
  e=give (if lv=0 then 2 else if r≠7\/u=N\/d=N then 7 else 0)/\Below w.heap.size w w':=by
 by_cases h3:lv=0
 ·subst h3
  go_enter Tryz.func226,Tryz.ntmps226
  go_wp2_with (go_at_call 224;refine(ze _ _ _).mono ?_;rintro e w' ⟨rfl,rfl⟩;simp only[cond])
  exact⟨rfl,rfl,zA (zR _) _⟩
 ·have e3:(lv==0)=I:=by simpa using h3
  rw[if_neg h3];clear h3
  by_cases h7:r=7
  ·subst h7
   cases u<;>cases d
   all_goals
    go_enter Tryz.func226,Tryz.ntmps226
    go_wp2_with (first
     | (go_at_call 224;refine(ze _ _ _).mono ?_;rintro e w' ⟨rfl,rfl⟩;simp only[cond]))
    first
     | exact⟨rfl,rfl,zA (zR _) _⟩
     | (go_end0
        exact⟨rfl,zA (zR _) _⟩)
  ·have e7:(r !=7)=N:=by simpa using h7
   rw[if_pos (.inl h7)];clear h7
   go_enter Tryz.func226,Tryz.ntmps226
   go_wp2_with (first
    | (go_at_call 224;refine(ze _ _ _).mono ?_;rintro e w' ⟨rfl,rfl⟩;simp only[cond]))
   exact⟨rfl,rfl,zA (zR _) _⟩
theorem yaz (l:Bool) (r:Int) (u d:Bool) (f lv:Int) (l0:0<=lv) (l3:lv<=3) (w:D):
 Calls T 199 #[H #[J I,J l,B P r,J u,J d,B P f],B P lv] w fun e w'=>e=give (Pg.yht I l r u d f lv)/\Below w.heap.size w w':=by
 have hg:Pg.yht I l r u d f lv=if l=N\/r≠0\/u=N\/d=N\/f≠0 then 7 else 0:=by
  simp only[Pg.yht,if_neg (by omega:¬(lv<0\/3<lv)),if_true]
 generalize Pg.yht I l r u d f lv=g at hg;have HG:Hid _:=hg;clear hg
 go_enter Tryz.func199,Tryz.ntmps199
 go_wp2_with (first
  | (go_at_call 223;refine(zk _ l0 l3 _).mono ?_;rintro e w' ⟨rfl,rfl⟩)
  | (go_at_call 224;refine(ze _ _ _).mono ?_;rintro e w' ⟨rfl,rfl⟩;simp only[cond]))
 all_goals
  first
   | (refine⟨rfl,?_,zA (zR _) _⟩
      rw[HG.out]
      simp_all[give])
   | (refine bodyPost_ret (results_none rfl _ _ _) rfl ⟨?_,zA (zR _) _⟩
      rw[HG.out]
      simp_all[give])
theorem vV (l:Bool) (r:Int) (u d:Bool) (f lv:Int) (l0:0<=lv) (l3:lv<=3) (w:D):
 Calls T 199 #[H #[J N,J l,B P r,J u,J d,B P f],B P lv] w fun e w'=>e=give (Pg.yht N l r u d f lv)/\Below w.heap.size w w':=by
 have rP:¬(lv<0\/3<lv):=by omega
 have HS:Hid _:=Pg.check_small f r
 by_cases hr:r<0\/7<r\/f<0\/1048576<=f
 ·have hc:Pg.yht N l r u d f lv=1:=by simp[Pg.yht,rP,hr]
  rw[hc]
  have hk:(Pg.check 0 0 f r !=0)=N:=by rw[HS.out,if_pos hr];rfl
  clear hc hr HS rP
  go_enter Tryz.func199,Tryz.ntmps199
  go_wp2_with (go_at_call 223;refine(zk _ l0 l3 _).mono ?_;rintro e w' ⟨rfl,rfl⟩)
  refine(xZ _ _ _ _ _ _ _ _).mono ?_;rintro e w1 ⟨rfl,Ha⟩
  go_wp2_with fail
  refine(zX _ _ _ _ _).mono ?_;rintro e w2 ⟨rfl,Hd⟩
  go_wp2_with (go_at_call 224;refine(ze _ _ _).mono ?_;rintro e w' ⟨rfl,rfl⟩;simp only[cond])
  exact⟨rfl,rfl,zT (zT (zA (zR _) _) Ha) Hd⟩
 ·have hk:(Pg.check 0 0 f r !=0)=I:=by rw[HS.out,if_neg hr];rfl
  have HR:Hid _:=hr;cases l
  ·have HC:Hid (Pg.yht N I r u d f lv=if lv=0 then 2 else if r≠7\/u=N\/d=N then 7 else 0):=by
    simp only[Hid,Pg.yht,if_neg rP,if_neg hr,yR,G,if_false,false_and,true_and,false_or]
   generalize hg:(if lv=0 then(2:Int)else if r≠7\/u=N\/d=N then 7 else 0)=g at HC;rw[HC.out];have HL:=yb9 N I r u d f lv;rw[hg]at HL;clear HC hr HS rP hg
   go_enter Tryz.func199,Tryz.ntmps199
   go_wp2_with (go_at_call 223;refine(zk _ l0 l3 _).mono ?_;rintro e w' ⟨rfl,rfl⟩)
   refine(xZ _ _ _ _ _ _ _ _).mono ?_;rintro e w1 ⟨rfl,Ha⟩;obtain⟨rO,pY⟩:=xW Ha
   go_wp2_with fail
   refine(zX _ _ _ _ _).mono ?_;rintro e w2 ⟨rfl,Hd⟩;obtain⟨tY,oh⟩:=xW (zT Ha Hd)
   go_wp2_with (go_at_call 224;refine(ze _ _ _).mono ?_;rintro e w' ⟨rfl,rfl⟩;simp only[cond])
   refine(HL _).mono ?_;rintro e w3 ⟨rfl,He⟩
   by_cases h0:g=0
   ·rw[h0,zY]
    go_wp2_with fail
    go_end0
    exact⟨by rw[h0,zY],zT (zT (zT (zA (zR _) _) Ha) Hd) He⟩
   ·rw[zN h0]
    go_wp2_with fail
    exact⟨rfl,(zN h0).symm,zT (zT (zT (zA (zR _) _) Ha) Hd) He⟩
  ·have HC:Hid (Pg.yht N N r u d f lv=if lv=3 then 2 else if f%Pg.span lv=0 then 0 else 3):=by
    simp only[Hid,Pg.yht,if_neg rP,if_neg hr,yR,if_false,if_true,false_and,true_and,or_false]
   generalize hg:(if lv=3 then(2:Int)else if f%Pg.span lv=0 then 0 else 3)=g at HC;rw[HC.out];have HL:=ycY N N r u d f lv l0 l3 hr;rw[hg]at HL;clear HC hr HS rP hg
   go_enter Tryz.func199,Tryz.ntmps199
   go_wp2_with (go_at_call 223;refine(zk _ l0 l3 _).mono ?_;rintro e w' ⟨rfl,rfl⟩)
   refine(xZ _ _ _ _ _ _ _ _).mono ?_;rintro e w1 ⟨rfl,Ha⟩;obtain⟨rO,pY⟩:=xW Ha
   go_wp2_with fail
   refine(zX _ _ _ _ _).mono ?_;rintro e w2 ⟨rfl,Hd⟩;obtain⟨tY,oh⟩:=xW (zT Ha Hd)
   go_wp2_with (go_at_call 224;refine(ze _ _ _).mono ?_;rintro e w' ⟨rfl,rfl⟩;simp only[cond])
   refine(HL _).mono ?_;rintro e w3 ⟨rfl,He⟩
   by_cases h0:g=0
   ·rw[h0,zY]
    go_wp2_with fail
    go_end0
    exact⟨by rw[h0,zY],zT (zT (zT (zA (zR _) _) Ha) Hd) He⟩
   ·rw[zN h0]
    go_wp2_with fail
    exact⟨rfl,(zN h0).symm,zT (zT (zT (zA (zR _) _) Ha) Hd) He⟩
theorem qe (t l:Bool) (r:Int) (u d:Bool) (f lv:Int) (w:D):
 Calls T 199 #[H #[J t,J l,B P r,J u,J d,B P f],B P lv] w fun e w'=>e=give (Pg.yht t l r u d f lv)/\Below w.heap.size w w':=by
 by_cases hl:lv<0\/3<lv
 ·have hc:Pg.yht t l r u d f lv=1:=by simp[Pg.yht,hl]
  rw[hc]
  go_enter Tryz.func199,Tryz.ntmps199
  go_wp2_with (go_at_call 223;refine(qY _ hl _).mono ?_;rintro e w' ⟨rfl,rfl⟩)
  exact⟨rfl,rfl,zA (zR _) _⟩
 ·cases t
  ·exact yaz l r u d f lv (by omega) (by omega) w
  ·exact vV l r u d f lv (by omega) (by omega) w
theorem ybi (t l:Bool) (r:Int) (u d:Bool) (f lv:Int) (a b:Nat) (w:D)
 (ha:w.cell? ⟨a,0,C⟩=V (J t)/\w.cell? ⟨a,1,C⟩=V (J l)/\w.cell? ⟨a,2,C⟩=V (B P r)/\w.cell? ⟨a,3,C⟩=V (J u)/\w.cell? ⟨a,4,C⟩=V (J d)/\w.cell? ⟨a,5,C⟩=V (B P f))
 (hb:w.cell? ⟨b,0,C⟩=V (B P lv)):
 Calls T 213 #[ki (V ⟨a,0,C⟩),ki (V ⟨b,0,C⟩)] w fun e w'=>e=give (Pg.yht t l r u d f lv)/\Below w.heap.size w w':=by
 obtain⟨a0,a1,a2,a3,a4,a5⟩:=ha
 go_enter Tryz.func213,Tryz.ntmps213
 go_wp2_with fail
 refine(qe _ _ _ _ _ _ _ _).mono ?_;rintro e w1 ⟨rfl,Ha⟩
 by_cases h0:Pg.yht t l r u d f lv=0
 ·rw[h0,zY]
  go_wp2_with fail
  go_end0
  exact⟨by rw[h0,zY],Ha⟩
 ·rw[zN h0]
  go_wp2_with fail
  exact⟨rfl,(zN h0).symm,Ha⟩
theorem jg (t l:Bool) (r:Int) (u d:Bool) (f lv:Int) (w:D):
 Calls T 186 #[H #[J t,J l,B P r,J u,J d,B P f],B P lv] w fun e w'=>e=E (B P (Pg.yht t l r u d f lv))/\Below w.heap.size w w':=by
 have ae:∀(fn:Fn) (first cap:Array Value) (w:D),(Instr.makeFunc fn first cap).run T w= .ok (.func fn first cap) w:=fun _ _ _ _=>rfl
 go_enter Tryz.func186,Tryz.ntmps186
 go_wp2_with fail
 refine(jT 213 _ (Pg.yht t l r u d f lv) (fun w'=>Below w.heap.size w w') _ ?_ ?_).mono ?_
 ·intro w
  simp[go_sem]
 ·refine(ybi t l r u d f lv w.heap.size (w.heap.size+1) _ ?_ ?_).mono ?_
  ·simp[go_sem]
  ·simp[go_sem]
  ·rintro e w1 ⟨rfl,Ha⟩
   obtain⟨k1,k2⟩:=xW Ha;refine⟨rfl,?_,?_,?_⟩
   ·exact zT (zA (zA (zA (zR w) _) _) _) Ha
   ·rw[k1 _ _ (by simp)]
    simp[go_sem]
   ·rw[k2 _ _ (by simp)]
    simp[go_sem]
 ·rintro e w2 ⟨rfl,w1,Ha,Hd⟩
  have HB:Hid (Below w.heap.size w w2):=Ha.trans (Hd.mono (by simp;omega));clear Ha Hd
  go_wp2_with fail
  go_ret
  exact⟨rfl,HB.out⟩
theorem ybn (t l:Bool) (r:Int) (u d:Bool) (f lv q:Int) (w:D):
 Calls T 152 #[H #[J t,J l,B P r,J u,J d,B P f],B P lv,B P q] w fun e w'=>e=E (Pg.mapV t l r u d f lv q)/\Below w.heap.size w w':=by
 by_cases h0:Pg.yht t l r u d f lv=0
 ·have e0:(Pg.yht t l r u d f lv !=0)=I:=by simp[h0]
  have H0:Hid _:=h0;cases l
  ·have HV:Hid _:=Pg.yj4 (at':=q) (by simp[Pg.lOk,h0]:Pg.lOk t I r u d f lv q=I)
   clear h0
   go_enter Tryz.func152,Tryz.ntmps152
   go_wp2_with fail
   refine(jg _ _ _ _ _ _ _ _).mono ?_;rintro e w1 ⟨rfl,Ha⟩;obtain⟨rO,pY⟩:=xW Ha
   go_wp2_with fail
   refine bodyPost_ret (v:=H #[B P 0,B P 0,B P 0,B P 0]) ?_ rfl ⟨by rw[HV.out],?_⟩
   ·simp[results,Tryz.results152,go_sem,rO]
   ·exact((((zT (zA (zA (zR _) _) _) Ha).setCell (by simp) _).setCell (by simp) _).setCell (by simp) _).setCell (by simp) _
  ·cases hq:Pg.below q 4096
   ·have HV:Hid _:=Pg.yj4 (at':=q) (by simp[Pg.lOk,hq]:Pg.lOk t N r u d f lv q=I)
    clear h0
    go_enter Tryz.func152,Tryz.ntmps152
    go_wp2_with fail
    refine(jg _ _ _ _ _ _ _ _).mono ?_;rintro e w1 ⟨rfl,Ha⟩;obtain⟨rO,pY⟩:=xW Ha
    go_wp2_with (go_at_call 172;refine(xn _ _).mono ?_;rintro e w' ⟨rfl,rfl⟩)
    refine bodyPost_ret (v:=H #[B P 0,B P 0,B P 0,B P 0]) ?_ rfl ⟨by rw[HV.out],?_⟩
    ·simp[results,Tryz.results152,go_sem,rO]
    ·exact((((zT (zA (zA (zR _) _) _) Ha).setCell (by simp) _).setCell (by simp) _).setCell (by simp) _).setCell (by simp) _
   ·have HV:Hid _:=Pg.ykR (at':=q) (by simp[Pg.lOk,hq,h0]:Pg.lOk t N r u d f lv q=N)
    have rQ:1<=Pg.span lv/\Pg.span lv<=64:=by
     obtain⟨⟨l0,l3⟩,hc⟩:=Pg.yhG h0;have gF:=Pg.yhD lv;have hb:=Pg.yhH lv;rcases hc with ⟨_,h,_⟩|⟨_,_,_,_,_,⟨_,h,_⟩|⟨h,_⟩⟩
     ·cases h
     ·omega
     ·cases h
    obtain⟨s1,s2⟩:=rQ;obtain⟨q0,q1⟩:=Pg.zB.1 hq;clear h0
    go_enter Tryz.func152,Tryz.ntmps152
    go_wp2_with fail
    refine(jg _ _ _ _ _ _ _ _).mono ?_;rintro e w1 ⟨rfl,Ha⟩;obtain⟨rO,pY⟩:=xW Ha
    go_wp2_with (go_at_call 172;refine(xn _ _).mono ?_;rintro e w' ⟨rfl,rfl⟩)
    refine(xZ _ _ _ _ _ _ _ _).mono ?_;rintro e w2 ⟨rfl,Hd⟩;have hB:=zT Ha Hd;have fr:∀o k,(w2.alloc o).frozen? ⟨w.heap.size+1,k,C⟩=I:=fun o k=>((zA hB o).frozen (p:=⟨w.heap.size+1,k,C⟩) (by simp)).trans (by simp[go_sem]);have c0:∀o,(w2.alloc o).cell? ⟨w.heap.size+1,0,C⟩=V (B P 0):=fun o=>((zA hB o).cell (p:=⟨w.heap.size+1,0,C⟩) (by simp)).trans (by simp[go_sem]);have c1:∀o,(w2.alloc o).cell? ⟨w.heap.size+1,1,C⟩=V (B P 0):=fun o=>((zA hB o).cell (p:=⟨w.heap.size+1,1,C⟩) (by simp)).trans (by simp[go_sem]);have c2:∀o,(w2.alloc o).cell? ⟨w.heap.size+1,2,C⟩=V (B P 0):=fun o=>((zA hB o).cell (p:=⟨w.heap.size+1,2,C⟩) (by simp)).trans (by simp[go_sem]);have c3:∀o,(w2.alloc o).cell? ⟨w.heap.size+1,3,C⟩=V (B P 0):=fun o=>((zA hB o).cell (p:=⟨w.heap.size+1,3,C⟩) (by simp)).trans (by simp[go_sem])
    have Cs:wrap64 (q-q%Pg.span lv)=q-q%Pg.span lv:=by
     have:=Int.emod_nonneg q (by omega:Pg.span lv≠0);have:=Int.emod_lt_of_pos q (by omega:0<Pg.span lv);rw[wrap64];omega
    have HB:Hid (Below w.heap.size w w2):=zT (zA (zA (zR w) _) _) hB;clear hB Ha Hd rO pY
    go_wp2_with (go_at_call 153;refine(xO _ _).mono ?_;rintro e w' ⟨rfl,rfl⟩)
    refine bodyPost_ret (v:=H #[B P (q-q%Pg.span lv),B P lv,B P f,B P r]) ?_ rfl ⟨by rw[HV.out],?_⟩
    ·simp[results,Tryz.results152,go_sem,c0,c1,c2,c3]
    ·exact((((zA HB.out _).setCell (by simp) _).setCell (by simp) _).setCell (by simp) _).setCell (by simp) _
 ·have e0:(Pg.yht t l r u d f lv !=0)=N:=by simp[h0]
  have HV:Hid _:=Pg.yj4 (at':=q) (by simp[Pg.lOk,h0]:Pg.lOk t l r u d f lv q=I);clear h0
  go_enter Tryz.func152,Tryz.ntmps152
  go_wp2_with fail
  refine(jg _ _ _ _ _ _ _ _).mono ?_;rintro e w1 ⟨rfl,Ha⟩;obtain⟨rO,pY⟩:=xW Ha
  go_wp2_with fail
  refine bodyPost_ret (v:=H #[B P 0,B P 0,B P 0,B P 0]) ?_ rfl ⟨by rw[HV.out],?_⟩
  ·simp[results,Tryz.results152,go_sem,rO]
  ·exact((((zT (zA (zA (zR _) _) _) Ha).setCell (by simp) _).setCell (by simp) _).setCell (by simp) _).setCell (by simp) _
theorem yap (t l:Bool) (r:Int) (u d:Bool) (f lv:Int) (a b c:Nat) (w:D)
 (ha:w.cell? ⟨a,0,C⟩=V (J t)/\w.cell? ⟨a,1,C⟩=V (J l)/\w.cell? ⟨a,2,C⟩=V (B P r)/\w.cell? ⟨a,3,C⟩=V (J u)/\w.cell? ⟨a,4,C⟩=V (J d)/\w.cell? ⟨a,5,C⟩=V (B P f))
 (hb:w.cell? ⟨b,0,C⟩=V (B P lv)) (hc:w.cell? ⟨c,0,C⟩=V (B O 0)) (hz:w.frozen? ⟨c,0,C⟩=I):
 Calls T 198 #[ki (V ⟨a,0,C⟩),ki (V ⟨b,0,C⟩),ki (V ⟨c,0,C⟩)] w fun e w'=>
  e=give (Pg.yht t l r u d f lv)/\Below c w w'/\w'.cell? ⟨c,0,C⟩=V (B O (Pg.enc t l r u d f lv))/\
  ∀k,k≠c->k<w.heap.size->w'.cell? ⟨k,0,C⟩=w.cell? ⟨k,0,C⟩/\w'.frozen? ⟨k,0,C⟩=w.frozen? ⟨k,0,C⟩:=by
 have Hf:c<w.heap.size:=ur _ _ hc;have gy:Hid _:=Hf;obtain⟨a0,a1,a2,a3,a4,a5⟩:=ha;clear Hf
 go_enter Tryz.func198,Tryz.ntmps198
 go_wp2_with fail
 refine(qe _ _ _ _ _ _ _ _).mono ?_;rintro e w1 ⟨rfl,Ha⟩
 by_cases h0:Pg.yht t l r u d f lv=0
 ·have HE:Hid (Pg.enc t l r u d f lv=Pg.yiD t l r u d f lv):=Pg.yiO h0
  have HW:=ydf t l r u d f lv h0;rw[h0,zY];have HG:Hid _:=h0;clear h0;have a0':=cell_later Ha a0;have a1':=cell_later Ha a1;have a2':=cell_later Ha a2;have a3':=cell_later Ha a3;have a4':=cell_later Ha a4;have a5':=cell_later Ha a5;have b':=cell_later Ha hb
  go_wp2_with fail
  refine(HW _).mono ?_;rintro e w2 ⟨rfl,Hd⟩;have hB:=zT Ha Hd;have c':=cell_later hB hc;have z':=yb1 hB hc hz
  go_wp2_with fail
  go_end0
  refine⟨by rw[HG.out,zY],(hB.mono (uc gy.out)).setCell (M c) _,?_,?_⟩
  ·rw[HE.out]
   exact ua _ _ _ c'
  ·intro k hk dU
   have e1:∀v,(w2.setCell ⟨c,0,C⟩ v).frozen? ⟨k,0,C⟩=w2.frozen? ⟨k,0,C⟩:=fun v=>by simp[go_sem]
   have e2:∀v,(w2.setCell ⟨c,0,C⟩ v).cell? ⟨k,0,C⟩=w2.cell? ⟨k,0,C⟩:=fun v=>U _ _ _ _ (fun e=>hk (by cases e;rfl));exact⟨(e2 _).trans (hB.cell dU),(e1 _).trans (hB.frozen dU)⟩
 ·rw[zN h0]
  go_wp2_with fail
  refine⟨rfl,(zN h0).symm,Ha.mono (uc gy.out),?_,?_⟩
  ·rw[Pg.enc,if_neg h0]
   exact cell_later Ha hc
  ·intro k hk dU
   exact⟨Ha.cell dU,Ha.frozen dU⟩
theorem yaT (t l:Bool) (r:Int) (u d:Bool) (f lv:Int) (w:D):
 Calls T 168 #[H #[J t,J l,B P r,J u,J d,B P f],B P lv] w fun e w'=>e=E (kp #[B O (Pg.enc t l r u d f lv),B P (Pg.yht t l r u d f lv)])/\Below w.heap.size w w':=by
 have ae:∀(fn:Fn) (first cap:Array Value) (w:D),(Instr.makeFunc fn first cap).run T w= .ok (.func fn first cap) w:=fun _ _ _ _=>rfl
 go_enter Tryz.func168,Tryz.ntmps168
 go_wp2_with fail
 refine(jT 198 _ (Pg.yht t l r u d f lv) (fun w'=>Below w.heap.size w w'/\w'.cell? ⟨w.heap.size+1+1,0,C⟩=V (B O (Pg.enc t l r u d f lv))) _ ?_ ?_).mono ?_
 ·intro w
  simp[go_sem]
 ·refine(yap t l r u d f lv w.heap.size (w.heap.size+1) (w.heap.size+1+1) _ ?_ ?_ ?_ ?_).mono ?_
  ·simp[go_sem]
  ·simp[go_sem]
  ·simp[go_sem]
  ·simp[go_sem]
  ·rintro e w1 ⟨rfl,Ha,rO,hk⟩
   obtain⟨k1,k2⟩:=hk (w.heap.size+1+1+1) (by omega) (by simp);refine⟨rfl,⟨?_,rO⟩,?_,?_⟩
   ·exact(zA (zA (zA (zA (zR w) _) _) _) _).trans (Ha.mono (by omega))
   ·have:((((w.alloc (kO #[J t,J l,B P r,J u,J d,B P f] 70)).alloc (kO #[B P lv] 3)).alloc (kO #[B O 0] 64)).heap.size)=w.heap.size+1+1+1:=by simp
    rw[this,k1];simp[go_sem]
   ·have:((((w.alloc (kO #[J t,J l,B P r,J u,J d,B P f] 70)).alloc (kO #[B P lv] 3)).alloc (kO #[B O 0] 64)).heap.size)=w.heap.size+1+1+1:=by simp
    rw[this,k2];simp[go_sem]
 ·rintro e w2 ⟨rfl,w1,⟨Ha,rO⟩,Hd⟩
  have tY:w2.cell? ⟨w.heap.size+1+1,0,C⟩=V (B O (Pg.enc t l r u d f lv)):=(Hd.cell (p:=⟨w.heap.size+1+1,0,C⟩) (by simp)).trans rO;have HB:Hid (Below w.heap.size w w2):=Ha.trans (Hd.mono (by simp;omega));clear Ha Hd rO
  go_wp2_with fail
  go_ret2
  exact⟨rfl,HB.out⟩
theorem ydr {w:D} {c:Nat} {u0 u1 u2 u3 u4 u5 v0 v1 v2 v3 v4 v5:Value} (h:w.cell? ⟨c,0,C⟩=V u0/\w.cell? ⟨c,1,C⟩=V u1/\w.cell? ⟨c,2,C⟩=V u2/\w.cell? ⟨c,3,C⟩=V u3/\w.cell? ⟨c,4,C⟩=V u4/\w.cell? ⟨c,5,C⟩=V u5):
 (((((((w.setCell ⟨c,0,C⟩ v0).setCell ⟨c,1,C⟩ v1).setCell ⟨c,2,C⟩ v2).setCell ⟨c,3,C⟩ v3).setCell ⟨c,4,C⟩ v4).setCell ⟨c,5,C⟩ v5).cell? ⟨c,0,C⟩=V v0/\((((((w.setCell ⟨c,0,C⟩ v0).setCell ⟨c,1,C⟩ v1).setCell ⟨c,2,C⟩ v2).setCell ⟨c,3,C⟩ v3).setCell ⟨c,4,C⟩ v4).setCell ⟨c,5,C⟩ v5).cell? ⟨c,1,C⟩=V v1/\((((((w.setCell ⟨c,0,C⟩ v0).setCell ⟨c,1,C⟩ v1).setCell ⟨c,2,C⟩ v2).setCell ⟨c,3,C⟩ v3).setCell ⟨c,4,C⟩ v4).setCell ⟨c,5,C⟩ v5).cell? ⟨c,2,C⟩=V v2/\((((((w.setCell ⟨c,0,C⟩ v0).setCell ⟨c,1,C⟩ v1).setCell ⟨c,2,C⟩ v2).setCell ⟨c,3,C⟩ v3).setCell ⟨c,4,C⟩ v4).setCell ⟨c,5,C⟩ v5).cell? ⟨c,3,C⟩=V v3/\((((((w.setCell ⟨c,0,C⟩ v0).setCell ⟨c,1,C⟩ v1).setCell ⟨c,2,C⟩ v2).setCell ⟨c,3,C⟩ v3).setCell ⟨c,4,C⟩ v4).setCell ⟨c,5,C⟩ v5).cell? ⟨c,4,C⟩=V v4/\((((((w.setCell ⟨c,0,C⟩ v0).setCell ⟨c,1,C⟩ v1).setCell ⟨c,2,C⟩ v2).setCell ⟨c,3,C⟩ v3).setCell ⟨c,4,C⟩ v4).setCell ⟨c,5,C⟩ v5).cell? ⟨c,5,C⟩=V v5)/\
 (∀k,k≠c->((((((w.setCell ⟨c,0,C⟩ v0).setCell ⟨c,1,C⟩ v1).setCell ⟨c,2,C⟩ v2).setCell ⟨c,3,C⟩ v3).setCell ⟨c,4,C⟩ v4).setCell ⟨c,5,C⟩ v5).cell? ⟨k,0,C⟩=w.cell? ⟨k,0,C⟩)/\
 (∀k,((((((w.setCell ⟨c,0,C⟩ v0).setCell ⟨c,1,C⟩ v1).setCell ⟨c,2,C⟩ v2).setCell ⟨c,3,C⟩ v3).setCell ⟨c,4,C⟩ v4).setCell ⟨c,5,C⟩ v5).frozen? ⟨k,0,C⟩=w.frozen? ⟨k,0,C⟩):=by
 refine⟨by simp[go_sem,h],fun k hk=> ?_,fun k=>by simp[go_sem]⟩;have hn:∀o,(⟨c,o,C⟩:Addr)≠⟨k,0,C⟩:=fun o e=>hk (by cases e;rfl);rw[U _ _ _ _ (hn _),U _ _ _ _ (hn _),U _ _ _ _ (hn _),U _ _ _ _ (hn _),U _ _ _ _ (hn _),U _ _ _ _ (hn _)]
theorem yan (W lv:Int) (h0:0<=W) (h1:W<18446744073709551616) (a b c:Nat) (w:D)
 (ha:w.cell? ⟨a,0,C⟩=V (B O W)) (hb:w.cell? ⟨b,0,C⟩=V (B P lv))
 (hc:w.cell? ⟨c,0,C⟩=V (J I)/\w.cell? ⟨c,1,C⟩=V (J I)/\w.cell? ⟨c,2,C⟩=V (B P 0)/\w.cell? ⟨c,3,C⟩=V (J I)/\w.cell? ⟨c,4,C⟩=V (J I)/\w.cell? ⟨c,5,C⟩=V (B P 0))
 (hz:∀o,w.frozen? ⟨c,o,C⟩=I):
 Calls T 227 #[ki (V ⟨a,0,C⟩),ki (V ⟨b,0,C⟩),ki (V ⟨c,0,C⟩)] w fun e w'=>
  e=give (Pg.yhA W lv)/\Below c w w'/\(w'.cell? ⟨c,0,C⟩=V (J (Pg.yhF W lv))/\w'.cell? ⟨c,1,C⟩=V (J (Pg.xL W lv))/\w'.cell? ⟨c,2,C⟩=V (B P (Pg.xR W lv))/\w'.cell? ⟨c,3,C⟩=V (J (Pg.xU W lv))/\w'.cell? ⟨c,4,C⟩=V (J (Pg.xD W lv))/\w'.cell? ⟨c,5,C⟩=V (B P (Pg.xF W lv)))/\
  ∀k,k≠c->k<w.heap.size->w'.cell? ⟨k,0,C⟩=w.cell? ⟨k,0,C⟩/\w'.frozen? ⟨k,0,C⟩=w.frozen? ⟨k,0,C⟩:=by
 have Hf:c<w.heap.size:=ur _ _ hc.1;have gy:Hid _:=Hf;clear Hf;have HM:=yay W lv h0 h1
 by_cases hm:(if lv<0\/3<lv then(1:Int)else if Pg.wBad W lv=N then 7 else 0)=0
 ·rw[hm,zY]at HM
  have hl:¬(lv<0\/3<lv):=by
   intro h;rw[if_pos h]at hm;exact absurd hm (by decide)
  rw[if_neg hl]at hm
  have hw:Pg.wBad W lv=I:=by
   cases h:Pg.wBad W lv
   ·rfl
   ·rw[h]at hm;exact absurd hm (by decide)
  clear hm
  by_cases rW:W=0
  ·subst rW
   have hd:Pg.yhA 0 lv=0:=by simp[Pg.yhA,hl,hw]
   have hg:Pg.yhF 0 lv=I:=by simp[Pg.yhF]
   have HF:Hid (Pg.yht I I 0 I I 0 lv=0):=Pg.yjM (by omega) (by omega)
   have HX:Hid (Pg.yhF 0 lv=I/\Pg.xL 0 lv=I/\Pg.xR 0 lv=0/\Pg.xU 0 lv=I/\Pg.xD 0 lv=I/\Pg.xF 0 lv=0):=by
    show _/\_
    simp[Pg.xL,Pg.xR,Pg.xU,Pg.xD,Pg.xF,hg]
   have HD:Hid (Pg.yhA 0 lv=0):=hd;clear hd hg hl hw
   go_enter Tryz.func227,Tryz.ntmps227
   go_wp2_with fail
   refine(HM _).mono ?_;rintro e w1 ⟨rfl,rfl⟩
   go_wp2_with fail
   refine(yjC _ _).mono ?_;rintro e w2 ⟨rfl,Hd⟩;have b2:∀o,(w2.alloc o).cell? ⟨b,0,C⟩=V (B P lv):=fun o=>cell_later (zA Hd o) hb;have Di:=xE Hd hc
   go_wp2_with fail
   refine(qe _ _ _ _ _ _ _ _).mono ?_;rintro e w3 ⟨rfl,He⟩;have dB:=zT (zA Hd _) He;obtain⟨fT,AU⟩:=xW He;obtain⟨c0,c1,c2,c3,c4,c5⟩:=xE dB hc;have z3:∀o,w3.frozen? ⟨c,o,C⟩=I:=fun o=>(dB.frozen (p:=⟨c,o,C⟩) gy.out).trans (hz o);rw[HF.out,zY]
   go_wp2_with fail
   go_end0
   obtain⟨s1,s2,s3⟩:=ydr (v0:=J I) (v1:=J I) (v2:=B P 0) (v3:=J I) (v4:=J I) (v5:=B P 0) ⟨c0,c1,c2,c3,c4,c5⟩;obtain⟨x0,x1,x2,x3,x4,x5⟩:=HX.out;rw[HD.out,x0,x1,x2,x3,x4,x5];refine⟨rfl,((((((dB.mono (uc gy.out)).setCell (M c) _).setCell (M c) _).setCell (M c) _).setCell (M c) _).setCell (M c) _).setCell (M c) _,s1,?_⟩;intro k hk dU;exact⟨(s2 k hk).trans (dB.cell dU),(s3 k).trans (dB.frozen dU)⟩
  ·have pG:W%2=1/\W<4294967296:=by
    simp only[Pg.wBad,decide_eq_false_iff_not]at hw;omega
   have HD:Hid (Pg.yhA W lv=Pg.yht N (Pg.yia W lv) (W/2%8) (Pg.yh2 W) (Pg.yhJ W) (W/4096) lv):=by
    show Pg.yhA W lv=_
    rw[Pg.yhA,if_neg hl,if_neg (by rw[hw];decide),if_neg rW]
   have HZ:Hid (W≠0):=rW;have HR:=yfI W lv h0 pG.2 pG.1;clear hl hw pG rW
   go_enter Tryz.func227,Tryz.ntmps227
   go_wp2_with fail
   refine(HM _).mono ?_;rintro e w1 ⟨rfl,rfl⟩
   go_wp2_with fail
   refine(HR _).mono ?_;rintro e w2 ⟨rfl,Hd⟩;have b2:∀o,(w2.alloc o).cell? ⟨b,0,C⟩=V (B P lv):=fun o=>cell_later (zA Hd o) hb;have Di:=xE Hd hc
   go_wp2_with fail
   refine(qe _ _ _ _ _ _ _ _).mono ?_;rintro e w3 ⟨rfl,He⟩;have dB:=zT (zA Hd _) He;obtain⟨fT,AU⟩:=xW He;obtain⟨c0,c1,c2,c3,c4,c5⟩:=xE dB hc;have z3:∀o,w3.frozen? ⟨c,o,C⟩=I:=fun o=>(dB.frozen (p:=⟨c,o,C⟩) gy.out).trans (hz o);rw[<-HD.out]
   by_cases hd:Pg.yhA W lv=0
   ·have hg:Pg.yhF W lv=N:=by simp[Pg.yhF,hd,HZ.out]
    have HX:Hid (Pg.yhF W lv=N/\Pg.xL W lv=Pg.yia W lv/\Pg.xR W lv=W/2%8/\Pg.xU W lv=Pg.yh2 W/\Pg.xD W lv=Pg.yhJ W/\Pg.xF W lv=W/4096):=by
     show _/\_
     simp[Pg.xL,Pg.xR,Pg.xU,Pg.xD,Pg.xF,hg]
    rw[hd,zY];have EP:Hid _:=hd;clear hd hg
    go_wp2_with fail
    go_end0
    obtain⟨s1,s2,s3⟩:=ydr (v0:=J N) (v1:=J (Pg.yia W lv)) (v2:=B P (W/2%8)) (v3:=J (Pg.yh2 W)) (v4:=J (Pg.yhJ W)) (v5:=B P (W/4096)) ⟨c0,c1,c2,c3,c4,c5⟩;obtain⟨x0,x1,x2,x3,x4,x5⟩:=HX.out;rw[EP.out,x0,x1,x2,x3,x4,x5];refine⟨rfl,((((((dB.mono (uc gy.out)).setCell (M c) _).setCell (M c) _).setCell (M c) _).setCell (M c) _).setCell (M c) _).setCell (M c) _,s1,?_⟩;intro k hk dU;exact⟨(s2 k hk).trans (dB.cell dU),(s3 k).trans (dB.frozen dU)⟩
   ·have hg:Pg.yhF W lv=I:=by simp[Pg.yhF,hd]
    rw[zN hd]
    go_wp2_with fail
    refine⟨rfl,(zN hd).symm,dB.mono (uc gy.out),?_,fun k _ dU=>⟨dB.cell dU,dB.frozen dU⟩⟩;simp[Pg.xL,Pg.xR,Pg.xU,Pg.xD,Pg.xF,hg,c0,c1,c2,c3,c4,c5]
 ·have HC:Hid (Pg.yhA W lv=if lv<0\/3<lv then(1:Int)else if Pg.wBad W lv=N then 7 else 0):=by
   show Pg.yhA W lv=_
   unfold Pg.yhA;split
   ·rfl
   ·rename_i hl
    rw[if_neg hl]at hm;split
    ·rfl
    ·rename_i hb
     rw[if_neg hb]at hm;exact absurd rfl hm
  generalize (if lv<0\/3<lv then(1:Int)else if Pg.wBad W lv=N then 7 else 0)=g at hm HM HC
  go_enter Tryz.func227,Tryz.ntmps227
  go_wp2_with fail
  refine(HM _).mono ?_;rintro e w1 ⟨rfl,rfl⟩
  have hg:Pg.yhF W lv=I:=by simp[Pg.yhF,HC.out,hm]
  rw[zN hm]
  go_wp2_with fail
  refine⟨rfl,by rw[HC.out,zN hm],Below.refl _ _,?_,fun k _ _=>⟨rfl,rfl⟩⟩
  simpa[Pg.xL,Pg.xR,Pg.xU,Pg.xD,Pg.xF,hg]using hc
theorem jV (W lv:Int) (h0:0<=W) (h1:W<18446744073709551616) (w:D):
 Calls T 204 #[B O W,B P lv] w fun e w'=>e=E (Pg.decV W lv)/\Below w.heap.size w w':=by
 have hv:Pg.decV W lv=kp #[H #[J (Pg.yhF W lv),J (Pg.xL W lv),B P (Pg.xR W lv),J (Pg.xU W lv),J (Pg.xD W lv),B P (Pg.xF W lv)],B P (Pg.yhA W lv)]:=rfl;have HV:Hid _:=hv;clear hv;have ae:∀(fn:Fn) (first cap:Array Value) (w:D),(Instr.makeFunc fn first cap).run T w= .ok (.func fn first cap) w:=fun _ _ _ _=>rfl
 go_enter Tryz.func204,Tryz.ntmps204
 go_wp2_with fail
 refine(jT 227 _ (Pg.yhA W lv) (fun w'=>Below (w.heap.size+1+1+1) ((((w.alloc (kO #[B O W] 64)).alloc (kO #[B P lv] 3)).alloc (kO #[J I,J I,B P 0,J I,J I,B P 0] 70)).alloc (kO #[J I,J I,B P 0,J I,J I,B P 0] 70)) w'/\
  (w'.cell? ⟨w.heap.size+1+1+1,0,C⟩=V (J (Pg.yhF W lv))/\w'.cell? ⟨w.heap.size+1+1+1,1,C⟩=V (J (Pg.xL W lv))/\w'.cell? ⟨w.heap.size+1+1+1,2,C⟩=V (B P (Pg.xR W lv))/\w'.cell? ⟨w.heap.size+1+1+1,3,C⟩=V (J (Pg.xU W lv))/\w'.cell? ⟨w.heap.size+1+1+1,4,C⟩=V (J (Pg.xD W lv))/\w'.cell? ⟨w.heap.size+1+1+1,5,C⟩=V (B P (Pg.xF W lv)))) _ ?_ ?_).mono ?_
 ·intro w
  simp[go_sem]
 ·refine(yan W lv h0 h1 w.heap.size (w.heap.size+1) (w.heap.size+1+1+1) _ ?_ ?_ ?_ ?_).mono ?_
  ·simp[go_sem]
  ·simp[go_sem]
  ·simp[go_sem]
  ·intro o
   simp[go_sem]
  ·rintro e w1 ⟨rfl,Ha,rO,hk⟩
   obtain⟨k1,k2⟩:=hk (w.heap.size+1+1+1+1) (by omega) (by simp)
   have hs:((((w.alloc (kO #[B O W] 64)).alloc (kO #[B P lv] 3)).alloc (kO #[J I,J I,B P 0,J I,J I,B P 0] 70)).alloc (kO #[J I,J I,B P 0,J I,J I,B P 0] 70)).heap.size=w.heap.size+1+1+1+1:=by simp
   refine⟨rfl,⟨?_,rO⟩,?_,?_⟩
   ·exact((Below.refl _ _).alloc (by simp) _).trans Ha
   ·rw[hs,k1]
    simp[go_sem]
   ·rw[hs,k2]
    simp[go_sem]
 ·rintro e w2 ⟨rfl,w1,⟨Ha,rO⟩,Hd⟩
  have tY:∀o,w2.cell? ⟨w.heap.size+1+1+1,o,C⟩=w1.cell? ⟨w.heap.size+1+1+1,o,C⟩:=fun o=>Hd.cell (p:=⟨w.heap.size+1+1+1,o,C⟩) (by simp);obtain⟨x0,x1,x2,x3,x4,x5⟩:=rO;have y0:=(tY 0).trans x0;have y1:=(tY 1).trans x1;have y2:=(tY 2).trans x2;have y3:=(tY 3).trans x3;have y4:=(tY 4).trans x4;have y5:=(tY 5).trans x5;clear x0 x1 x2 x3 x4 x5 tY;have tH:=Ha.trans (Hd.mono (by simp));have r0:∀o,w2.cell? ⟨w.heap.size+1+1,o,C⟩=_:=fun o=>tH.cell (p:=⟨w.heap.size+1+1,o,C⟩) (by simp);have f0:∀o,w2.frozen? ⟨w.heap.size+1+1,o,C⟩=_:=fun o=>tH.frozen (p:=⟨w.heap.size+1+1,o,C⟩) (by simp);have HB:Hid _:=tH;clear Ha Hd tH
  go_wp2_with fail
  rw[HV.out];refine bodyPost_ret (v:=kp #[H #[J (Pg.yhF W lv),J (Pg.xL W lv),B P (Pg.xR W lv),J (Pg.xU W lv),J (Pg.xD W lv),B P (Pg.xF W lv)],B P (Pg.yhA W lv)]) ?_ rfl ⟨rfl,?_⟩
  ·simp[results,Tryz.results204,go_sem,r0]
  ·have hA:=zA (zA (zA (zA (zR w) (kO #[B O W] 64)) (kO #[B P lv] 3)) (kO #[J I,J I,B P 0,J I,J I,B P 0] 70)) (kO #[J I,J I,B P 0,J I,J I,B P 0] 70)
   exact((((((hA.trans (HB.out.mono (by omega))).setCell (by simp;omega) _).setCell (by simp;omega) _).setCell (by simp;omega) _).setCell (by simp;omega) _).setCell (by simp;omega) _).setCell (by simp;omega) _
end Go.Proofs.YtdphiompijbelaaGreat
namespace Go.Proofs.YtdphiompijbelaaGreat
open Go.RowKit
namespace Pg
structure Mp where
 p:Int
 s:Int
 f:Int
 r:Int
def Mp.zz:Mp:=⟨0,0,0,0⟩
namespace Mp
def code (m:Mp):Int:=check m.p m.s m.f m.r
def has (m:Mp) (q:Int):Bool:=over m.p m.s q
def meets (a b:Mp):Bool:=meet a.p a.s b.p b.s
def rts (m:Mp) (r:Int):Mp:=⟨m.p,m.s,m.f,r⟩
def val (m:Mp):Value:=H #[B P m.p,B P m.s,B P m.f,B P m.r]
theorem yjd (a b:Mp):a.meets b=b.meets a:=by simp[meets,meet,Bool.or_comm]
end Mp
structure Good (L:List Mp):Prop where
 ok:∀m,m ∈ L->m.code=0
 up:L.Pairwise fun a b=>a.p<b.p/\a.meets b=I
theorem yi1 {m:Mp} (h:m.code=0):0<=m.p/\m.p<4096/\fits m.p/\fits m.s/\fits m.f/\fits m.r:=by
 obtain⟨h0,h1,h2,h3,h4,h5,h6,_,_⟩:=yhC h
 have hs:m.s=0\/m.s=1\/m.s=2:=by
  rcases yhD m.s with ⟨e,_⟩|⟨e,_⟩|⟨e,_⟩|⟨_,_,_,e⟩
  ·exact .inl e
  ·exact .inr (.inl e)
  ·exact .inr (.inr e)
  ·exact absurd e h0
 refine⟨h1,h2,?_,?_,?_,?_⟩<;>unfold fits<;>omega
theorem yk0:∀(L:List Mp) (a:Int),(∀m,m ∈ L->a<=m.p)->(L.Pairwise fun x y=>x.p<y.p)->(∀m,m ∈ L->m.p<4096)->(L.length:Int)<=max 0 (4096-a)
 | [],_,_,_,_=>by simp;omega
 | x::r,a,h,hp,hl=>by
   rw[K]at hp;have h1:=h x (by simp);have h2:=hl x (by simp);have:=yk0 r (x.p+1) (fun m hm=>by have:=hp.1 m hm;omega) hp.2 (fun m hm=>hl m (by simp[hm]));simp only[List.length_cons];omega
theorem Good.len {L:List Mp} (h:Good L):L.length<=4096:=by
 have:=yk0 L 0 (fun m hm=>(yi1 (h.ok m hm)).1) (h.up.imp fun⟨h,_⟩=>h) (fun m hm=>(yi1 (h.ok m hm)).2.1);omega
theorem Good.nil:Good []:=⟨fun _ h=>by simp at h,List.Pairwise.nil⟩
def fnd (L:List Mp) (q:Int):Option Nat:=L.findIdx? fun m=>m.has q
def fndN (L:List Mp) (q:Int):Int:=match fnd L q with
 | some k=>(k:Int)
 | none=> -1
def ins (m:Mp):List Mp->List Mp
 | []=>[m]
 | x::r=>if m.p<x.p then m::x::r else x::ins m r
def addC (L:List Mp) (m:Mp):Int:=if m.code≠0 then m.code else if (L.any fun x=>x.meets m)=N then 4 else 0
def addL (L:List Mp) (m:Mp):List Mp:=if addC L m=0 then ins m L else L
def yhI (L:List Mp) (q:Int):Int:=if below q 4096=N then(if fnd L q=C then 5 else 0)else 1
def at' (L:List Mp) (q:Int):Mp:=match fnd L q with
 | some k=>L.getD k .zz
 | none=> .zz
def yib (L:List Mp) (q:Int):Mp:=if yhI L q=0 then at' L q else .zz
def yhU (L:List Mp) (q:Int):List Mp:=if yhI L q=0 then(match fnd L q with
 | some k=>L.eraseIdx k
 | none=>L)else L
def yie (L:List Mp) (q r:Int):Int:=if below r 8=N then yhI L q else 1
def yiV (L:List Mp) (q r:Int):Mp:=if yie L q r=0 then(at' L q).rts r else .zz
def yir (L:List Mp) (q r:Int):List Mp:=if yie L q r=0 then(match fnd L q with
 | some k=>L.set k ((L.getD k .zz).rts r)
 | none=>L)else L
def ansE (L:List Mp) (q k:Int) (u:Bool):Int:=match fnd L q with
 | some j=>aEnd (L.getD j .zz).r k u
 | none=>1
def ansF (L:List Mp) (q k:Int) (u:Bool):Int:=match fnd L q with
 | some j=>yhY (L.getD j .zz).p (L.getD j .zz).f (L.getD j .zz).r q k u
 | none=>0
def ansR (L:List Mp) (q k:Int) (u:Bool):Int:=match fnd L q with
 | some j=>yhL (L.getD j .zz).r k u
 | none=>0
theorem yh7 {L:List Mp} {j:Nat} (hj:j<L.length):L.getD j .zz=L[j]:=by simp[List.getD,hj]
theorem ykJ {L:List Mp} {q:Int} {k:Nat} (h:fnd L q=V k):k<L.length/\(L.getD k .zz).has q=N/\∀j,j<k->(L.getD j .zz).has q=I:=by
 obtain⟨hk,h1,h2⟩:=uv.1 h;refine⟨hk,by rw[yh7 hk];exact h1,fun j hj=> ?_⟩;rw[yh7 (by omega)]
 simpa using h2 j hj
theorem ylA {L:List Mp} {q:Int} {k:Nat} (hk:k<L.length) (h1:(L.getD k .zz).has q=N) (h2:∀j,j<k->(L.getD j .zz).has q=I):fnd L q=V k:=by
 refine uv.2 ⟨hk,by rw[<-yh7 hk];exact h1,fun j hj=> ?_⟩;have:=h2 j hj;rw[yh7 (by omega)]at this
 simpa using this
theorem ylz {L:List Mp} {q:Int} (h:∀j,j<L.length->(L.getD j .zz).has q=I):fnd L q=C:=by
 refine List.findIdx?_eq_none_iff.2 fun m hm=> ?_;obtain⟨j,hj,rfl⟩:=List.mem_iff_getElem.1 hm;have:=h j hj;rw[yh7 hj]at this
 simpa using this
theorem yjZ (m:Mp):∀L:List Mp,(ins m L).Perm (m::L)
 | []=>List.Perm.refl _
 | x::r=>by
   unfold ins;split
   ·exact List.Perm.refl _
   ·exact((yjZ m r).cons x).trans (List.Perm.swap m x r)
theorem ylg {m x:Mp} {L:List Mp}:x ∈ ins m L ↔ x=m\/x ∈ L:=by
 rw[(yjZ m L).mem_iff];simp
theorem ins_len (m:Mp) (L:List Mp):(ins m L).length=L.length+1:=by simpa using (yjZ m L).length_eq
theorem ykT {a b:Mp} (ha:a.code=0) (h:a.meets b=I):a.p≠b.p:=by
 intro e
 have hs:0<span a.s:=by
  have:=(yhC ha).1;have:=(yhH a.s).1;omega
 unfold Mp.meets at h;rw[yj5]at h;simp only[decide_eq_false_iff_not]at h;exact h (.inl ⟨by omega,by omega⟩)
theorem ylC {m:Mp} (hm:m.code=0):∀{L:List Mp},(∀x,x ∈ L->x.code=0)->(∀x,x ∈ L->x.meets m=I)->(L.Pairwise fun a b=>a.p<b.p/\a.meets b=I)->(ins m L).Pairwise fun a b=>a.p<b.p/\a.meets b=I
 | [],_,_,_=>by simp[ins]
 | x::r,dF,hme,hp=>by
   rw[K]at hp;have hx:=hme x (by simp);have Ho:=ykT (dF x (by simp)) hx;unfold ins;split
   ·rename_i Hf
    refine K.2 ⟨fun y hy=> ?_,K.2 hp⟩;rcases yV.1 hy with rfl|hy
    ·exact⟨Hf,by rw[Mp.yjd];exact hx⟩
    ·exact⟨by have:=(hp.1 y hy).1;omega,by rw[Mp.yjd];exact hme y (by simp[hy])⟩
   ·refine K.2 ⟨fun y hy=> ?_,ylC hm (fun y hy=>dF y (by simp[hy])) (fun y hy=>hme y (by simp[hy])) hp.2⟩
    rcases ylg.1 hy with rfl|hy
    ·exact⟨by omega,hx⟩
    ·exact hp.1 y hy
theorem addC_zero {L:List Mp} {m:Mp} (h:addC L m=0):m.code=0/\∀x,x ∈ L->x.meets m=I:=by
 unfold addC at h
 by_cases hc:m.code=0
 ·refine⟨hc,fun x hx=> ?_⟩
  cases hm:x.meets m
  ·rfl
  ·have:(L.any fun x=>x.meets m)=N:=List.any_eq_true.2 ⟨x,hx,hm⟩
   simp[hc,this]at h
 ·simp[hc]at h
theorem Good.add {L:List Mp} (h:Good L) (m:Mp):Good (addL L m):=by
 unfold addL;split
 ·rename_i hc
  obtain⟨h1,h2⟩:=addC_zero hc;exact⟨fun x hx=>(ylg.1 hx).elim (fun e=>e▸h1) (h.ok x),ylC h1 h.ok h2 h.up⟩
 ·exact h
theorem Good.erase {L:List Mp} (h:Good L) (k:Nat):Good (L.eraseIdx k):=
 ⟨fun m hm=>h.ok m (List.mem_of_mem_eraseIdx hm),h.up.sublist (List.eraseIdx_sublist _ _)⟩
theorem ylj {m x:Mp}:∀{A:List Mp},(A.any fun y=>decide (m.p<y.p))=N->ins m (A++[x])=ins m A++[x]
 | [],h=>by simp at h
 | y::r,h=>by
   by_cases hy:m.p<y.p
   ·simp[ins,hy]
   ·have h':(r.any fun y=>decide (m.p<y.p))=N:=by simpa[hy]using h
    simp[ins,hy,ylj h']
theorem yli {m x:Mp}:∀{A:List Mp},(A.any fun y=>decide (m.p<y.p))=I->m.p<x.p->ins m (A++[x])=A++[m,x]
 | [],_,h=>by simp[ins,h]
 | y::r,h,hx=>by
   have hy:¬m.p<y.p:=by
    intro hy;simp[hy]at h
   have h':(r.any fun y=>decide (m.p<y.p))=I:=by simpa[hy]using h
   simp[ins,hy,yli h' hx]
theorem ylf {m:Mp}:∀{A:List Mp},(A.any fun y=>decide (m.p<y.p))=I->ins m A=A++[m]
 | [],_=>rfl
 | y::r,h=>by
   have hy:¬m.p<y.p:=by
    intro hy;simp[hy]at h
   have h':(r.any fun y=>decide (m.p<y.p))=I:=by simpa[hy]using h
   simp[ins,hy,ylf h']
def hlf (L:List Mp) (m:Mp) (j:Nat):List Mp:=if ((L.take j).any fun y=>decide (m.p<y.p))=N then ins m (L.take j)else L.take j
theorem any_take_succ {L:List Mp} {j:Nat} (hj:j<L.length) (f:Mp->Bool):(L.take (j+1)).any f=((L.take j).any f||f (L.getD j .zz)):=by
 rw[Q hj,yh7 hj,List.any_append];simp only[List.any_cons,List.any_nil,yF]
theorem hlf_put {L:List Mp} {m:Mp} {j:Nat} (hj:j<L.length) (h:((L.take j).any fun y=>decide (m.p<y.p))=N):hlf L m (j+1)=hlf L m j++[L.getD j .zz]:=by
 unfold hlf;rw[any_take_succ hj,h];simp only[Bool.true_or,if_true];rw[Q hj,yh7 hj,ylj h]
theorem hlf_now {L:List Mp} {m:Mp} {j:Nat} (hj:j<L.length) (h:((L.take j).any fun y=>decide (m.p<y.p))=I) (hx:m.p<(L.getD j .zz).p):hlf L m (j+1)=hlf L m j++[m]++[L.getD j .zz]:=by
 unfold hlf;rw[any_take_succ hj,h];simp only[yQ,hx,decide_true,if_true,G,if_false];rw[yh7 hj]at hx ⊢;rw[Q hj,yli h hx];simp
theorem hlf_not {L:List Mp} {m:Mp} {j:Nat} (hj:j<L.length) (h:((L.take j).any fun y=>decide (m.p<y.p))=I) (hx:¬m.p<(L.getD j .zz).p):hlf L m (j+1)=hlf L m j++[L.getD j .zz]:=by
 unfold hlf;rw[any_take_succ hj,h];simp only[yQ,hx,decide_false,G,if_false];rw[Q hj,yh7 hj]
theorem hlf_all {L:List Mp} {m:Mp}:ins m L=if (L.any fun y=>decide (m.p<y.p))=N then hlf L m L.length else hlf L m L.length++[m]:=by
 unfold hlf;rw[List.take_length];cases h:L.any fun y=>decide (m.p<y.p)
 ·simp only[G,if_false]
  exact ylf h
 ·simp
theorem hlf_len {L:List Mp} {m:Mp} {j:Nat}:(hlf L m j).length<=L.length+1:=by
 unfold hlf;have:=List.length_take_le j L
 have:(L.take j).length<=L.length:=by simp;omega
 split
 ·rw[ins_len];omega
 ·omega
theorem erase_take_at {L:List Mp} {k:Nat} (hk:k<L.length):(L.take (k+1)).eraseIdx k=(L.take k).eraseIdx k:=by
 have hl:(L.take k).length=k:=by simp;omega
 rw[Q hk,ud (by omega),kh (l:=L.take k) (by omega),hl];simp
theorem erase_take_ne {L:List Mp} {j k:Nat} (hj:j<L.length) (h:j≠k):(L.take (j+1)).eraseIdx k=(L.take j).eraseIdx k++[L.getD j .zz]:=by
 have hl:(L.take j).length=j:=by simp;omega
 rw[Q hj,yh7 hj]
 by_cases hk:k<j
 ·rw[List.eraseIdx_append_of_lt_length (by omega)]
 ·rw[ud (by omega),kh (l:=L.take j) (by omega),hl]
  congr 1
  exact kh (by simp;omega)
theorem yke {m:Mp}:∀{L:List Mp} {k:Nat} (_:k<L.length),m.p=(L.getD k .zz).p->(L.Pairwise fun a b=>a.p<b.p)->ins m (L.eraseIdx k)=L.set k m
 | [],_,h,_,_=>by simp at h
 | x::r,0,_,hp,hu=>by
   rw[K]at hu;simp at hp
   match r,hu with
   | [],_=>rfl
   | y::t,hu=>
     have:=hu.1 y (by simp);simp[ins];intro h;omega
 | x::r,k+1,h,hp,hu=>by
   rw[K]at hu
   have hk:k<r.length:=by simpa using h
   have WZ:m.p=(r.getD k .zz).p:=by simpa using hp
   have hm:r.getD k .zz ∈ r:=by rw[yh7 hk];exact ue _
   have h1:=hu.1 _ hm
   have hx:¬m.p<x.p:=by omega
   simp only[yB,ins,hx,if_false,List.set_cons_succ];rw[yke hk WZ hu.2]
theorem yjs:∀{L:List Mp} {k:Nat} (_:k<L.length),(L.Pairwise fun a b=>a.p<b.p/\a.meets b=I)->∀x,x ∈ L.eraseIdx k->x.meets (L.getD k .zz)=I
 | [],_,h,_,_,_=>by simp at h
 | y::r,0,_,hu,x,hx=>by
   rw[K]at hu;simp at hx ⊢;rw[Mp.yjd];exact(hu.1 x hx).2
 | y::r,k+1,h,hu,x,hx=>by
   rw[K]at hu
   have hk:k<r.length:=by simpa using h
   have hm:r.getD k .zz ∈ r:=by rw[yh7 hk];exact ue _
   have e:(y::r).getD (k+1) .zz=r.getD k .zz:=by simp
   rw[e];simp only[yB,yV]at hx;rcases hx with rfl|hx
   ·exact(hu.1 _ hm).2
   ·exact yjs hk hu.2 x hx
theorem ykX {L:List Mp} (h:Good L) {k:Nat} (hk:k<L.length) {r:Int} (hr:below r 8=N):
 addC (L.eraseIdx k) ((L.getD k .zz).rts r)=0/\addL (L.eraseIdx k) ((L.getD k .zz).rts r)=L.set k ((L.getD k .zz).rts r):=by
 have hm:L.getD k .zz ∈ L:=by rw[yh7 hk];exact ue _
 have dF:=h.ok _ hm;have ha:=yjs hk h.up;have hi:=yke (m:=(L.getD k .zz).rts r) hk rfl (h.up.imp fun⟨h,_⟩=>h);clear hm;generalize L.getD k .zz=y at*;obtain⟨p,s,f,r0⟩:=y
 have hc:(Mp.mk p s f r).code=0:=by
  obtain⟨h0,h1,h2,h3,h4,_,_,h7,h8⟩:=yhC dF
  show check p s f r=0
  rw[yh1 h0 (zB.2 ⟨h1,h2⟩) (zB.2 ⟨h3,h4⟩) hr];exact if_pos ⟨h7,h8⟩
 have Rp:((L.eraseIdx k).any fun x=>x.meets (Mp.mk p s f r))=I:=by
  rw[List.any_eq_false];intro x hx;have:x.meets (Mp.mk p s f r)=I:=ha x hx;simp[this]
 have e:addC (L.eraseIdx k) (Mp.mk p s f r)=0:=by simp[addC,hc,Rp]
 exact⟨e,by show addL (L.eraseIdx k) (Mp.mk p s f r)=_;rw[addL,if_pos e];exact hi⟩
end Pg
namespace Pg
structure En where
 t:Bool
 l:Bool
 r:Int
 u:Bool
 d:Bool
 f:Int
namespace En
def zero:En:=⟨I,I,0,I,I,0⟩
def of (W lv:Int):En:=⟨yhF W lv,xL W lv,xR W lv,xU W lv,xD W lv,xF W lv⟩
def val (e:En):Value:=H #[J e.t,J e.l,B P e.r,J e.u,J e.d,B P e.f]
def on (e:En):Bool:=e.t&& !e.l
def map (e:En) (lv q:Int):Mp:=⟨yj1 e.t e.l e.r e.u e.d e.f lv q,ykv e.t e.l e.r e.u e.d e.f lv q,yjw e.t e.l e.r e.u e.d e.f lv q,yiA e.t e.l e.r e.u e.d e.f lv q⟩
def fault (e:En) (lv:Int):Int:=yht e.t e.l e.r e.u e.d e.f lv
end En
theorem yi9 (W lv:Int):decV W lv=kp #[(En.of W lv).val,B P (yhA W lv)]:=rfl
theorem ylo (e:En) (lv q:Int):mapV e.t e.l e.r e.u e.d e.f lv q=(e.map lv q).val:=rfl
def yhx (S:Fs) (t:Int) (i lv:Nat):Int:=if S.has t=N then yhA (S.word t.toNat i) lv else 12
def rEn (S:Fs) (t:Int) (i lv:Nat):En:=if S.has t=N then En.of (S.word t.toNat i) lv else En.zero
structure Sp where
 table:Int
 place:Nat
 level:Nat
 ahead:Nat
 e:En
def spt (S:Fs) (t:Int) (i lv a:Nat):Sp:=⟨t,i,lv,a+i,rEn S t i lv⟩
section
variable (S:Fs) (L:Nat->Nat->Bool)
def out (lv:Nat) (rec:Int->Nat->List Sp×Int) (t:Int) (a i:Nat):List Sp×Int:=
 if L i lv=I then([],0)
 else if yhx S t i lv≠0 then([],yhx S t i lv)
 else if (rEn S t i lv).on=I then([spt S t i lv a],0)
 else(spt S t i lv a::(rec (rEn S t i lv).f ((a+i)*8)).1,(rec (rEn S t i lv).f ((a+i)*8)).2)
def scan (lv:Nat) (rec:Int->Nat->List Sp×Int) (t:Int) (a:Nat):Nat->Nat->List Sp×Int
 | 0,_=>([],0)
 | n+1,i=>if (out S L lv rec t a i).2≠0 then out S L lv rec t a i
   else((out S L lv rec t a i).1++(scan lv rec t a n (i+1)).1,(scan lv rec t a n (i+1)).2)
def thr:Nat->Int->Nat->List Sp×Int
 | 0,t,a=>scan S L 0 (fun _ _=>([],0)) t a 8 0
 | lv+1,t,a=>scan S L (lv+1) (thr lv) t a 8 0
def sub:Nat->Int->Nat->List Sp×Int
 | 0=>fun _ _=>([],0)
 | lv+1=>thr S L lv
end
theorem yiy (S:Fs) (L:Nat->Nat->Bool) (lv:Nat) (t:Int) (a:Nat):thr S L lv t a=scan S L lv (sub S L lv) t a 8 0:=by
 cases lv<;>rfl
def cnt':Nat->Nat
 | 0=>0
 | lv+1=>8*(1+cnt' lv)
theorem out_len {S:Fs} {L:Nat->Nat->Bool} {lv:Nat} {rec:Int->Nat->List Sp×Int} {t:Int} {a i c:Nat} (h:∀t a,(rec t a).1.length<=c):(out S L lv rec t a i).1.length<=1+c:=by
 unfold out;split
 ·simp
 ·split
  ·simp
  ·split
   ·simp
   ·have:=h (rEn S t i lv).f ((a+i)*8)
    simp;omega
theorem yk1 {S:Fs} {L:Nat->Nat->Bool} {lv:Nat} {rec:Int->Nat->List Sp×Int} {t:Int} {a c:Nat} (h:∀t a,(rec t a).1.length<=c):∀n i,(scan S L lv rec t a n i).1.length<=n*(1+c)
 | 0,_=>by simp[scan]
 | n+1,i=>by
   have h1:=out_len (S:=S) (L:=L) (lv:=lv) (t:=t) (a:=a) (i:=i) h;have h2:=yk1 (S:=S) (L:=L) (lv:=lv) (t:=t) (a:=a) h n (i+1);unfold scan;rw[Nat.add_mul];split
   ·omega
   ·simp
    omega
theorem ylu (S:Fs) (L:Nat->Nat->Bool):∀lv t a,(sub S L lv t a).1.length<=cnt' lv
 | 0,_,_=>by simp[sub]
 | lv+1,t,a=>by
   show(thr S L lv t a).1.length<=_
   rw[yiy];exact yk1 (fun t a=>ylu S L lv t a) 8 0
theorem ylv (S:Fs) (L:Nat->Nat->Bool) (lv:Nat) (t:Int) (a:Nat):(thr S L lv t a).1.length<=cnt' (lv+1):=ylu S L (lv+1) t a
def ix (p:Int) (lv:Nat):Nat:=(p/8^lv%8).toNat
theorem yid (p:Int) (lv:Nat):ix p lv<8:=by unfold ix;omega
theorem yhE {p:Int} (h:below p 4096=N) {lv:Nat} (hl:lv<4):index p (lv:Int)=(ix p lv:Nat):=by
 have hb:below (lv:Int) 4=N:=zB.2 ⟨by omega,by omega⟩;simp only[index,h,hb,Bool.and_self,if_true,yY,ix];omega
def onW (p:Int) (i lv:Nat):Bool:=decide (i=ix p lv)
def zW (_ _:Nat):Bool:=N
def Sp.mp (s:Sp):Mp:=s.e.map s.level (s.ahead*span s.level)
def zM (X:List Sp):List Mp:=X.flatMap fun s=>if s.e.l=N then [s.mp]else []
def zU (X:List Sp):List Int:=X.flatMap fun s=>if s.e.on=N then [s.e.f]else []
theorem yhv (X Y:List Sp):zM (X++Y)=zM X++zM Y:=by simp[zM]
theorem yhq (X Y:List Sp):zU (X++Y)=zU X++zU Y:=by simp[zU]
theorem mapsOf_len (X:List Sp):(zM X).length<=X.length:=by
 induction X with
 | nil=>simp[zM]
 | cons s X ih=>
   have:zM (s::X)=(if s.e.l=N then [s.mp]else [])++zM X:=by simp[zM]
   rw[this]
   split<;>simp<;>omega
theorem tabsOf_len (X:List Sp):(zU X).length<=X.length:=by
 induction X with
 | nil=>simp[zU]
 | cons s X ih=>
   have:zU (s::X)=(if s.e.on=N then [s.e.f]else [])++zU X:=by simp[zU]
   rw[this]
   split<;>simp<;>omega
section
variable {S:Fs}
theorem yhW (h:S.Ok) {t:Int} {i lv:Nat} (hc:yhx S t i lv=0):(rEn S t i lv).fault lv=0:=by
 unfold yhx at hc;split at hc
 ·rename_i hh
  unfold rEn;rw[if_pos hh];exact(ykq (h.low _ _) hc).1
 ·omega
theorem yhN (h:S.Ok) {t:Int} {i lv:Nat} (hl:(rEn S t i lv).l=N):yhx S t i lv=0/\(rEn S t i lv).t=N/\lv<=2:=by
 have hc:yhx S t i lv=0:=by
  unfold rEn at hl;unfold yhx;split at hl
  ·rename_i hh
   rw[if_pos hh];simp[En.of,xL,yhF]at hl;exact hl.1.1
  ·simp[En.zero]at hl
 have hf:=yhW h hc;obtain⟨_,hx⟩:=yhG hf;rcases hx with ⟨_,h1,_⟩|⟨h0,_,_,_,_,⟨_,h2,_⟩|⟨h1,_⟩⟩
 ·rw[h1]at hl;cases hl
 ·exact⟨hc,h0,by omega⟩
 ·rw[h1]at hl;cases hl
end
theorem yhR {S:Fs} {t:Int} {i lv:Nat} (ho:(rEn S t i lv).on=N):∃m,lv=m+1:=by
 cases lv with
 | succ m=>exact⟨m,rfl⟩
 | zero=>
   exfalso
   unfold rEn at ho;split at ho
   ·simp[En.on,En.of,xL,yia]at ho
   ·simp[En.on,En.zero]at ho
theorem yhz {S:Fs} {t:Int} {i lv:Nat} (hc:yhx S t i lv=0):S.has t=N:=by
 unfold yhx at hc;split at hc
 ·assumption
 ·omega
theorem yk2 {S:Fs} {L:Nat->Nat->Bool} {lv:Nat} {rec:Int->Nat->List Sp×Int} {t:Int} {a k:Nat} (hL:∀i,L i lv=decide (i=k)):∀n i,scan S L lv rec t a n i=if i<=k/\k<i+n then out S L lv rec t a k else([],0)
 | 0,i=>by rw[if_neg (by omega)];rfl
 | n+1,i=>by
   have ih:=yk2 (S:=S) (rec:=rec) (t:=t) (a:=a) hL n (i+1);unfold scan;rw[ih]
   by_cases e:i=k
   ·subst e
    have e1:(if i+1<=i/\i<i+1+n then out S L lv rec t a i else([],0))=([],0):=if_neg (by omega);have e2:(if i<=i/\i<i+(n+1)then out S L lv rec t a i else([],0))=out S L lv rec t a i:=if_pos (by omega);rw[e1,e2];split
    ·rfl
    ·rename_i h0
     have h0:(out S L lv rec t a i).2=0:=by simpa using h0
     simp only[List.append_nil];rw[<-h0]
   ·have ho:out S L lv rec t a i=([],0):=by
     unfold out;rw[if_pos (by rw[hL];simpa using e)]
    rw[ho];simp only[ne_eq,not_true_eq_false,if_false,List.nil_append]
    by_cases hk:i+1<=k/\k<i+1+n
    ·rw[if_pos hk,if_pos (by omega)]
    ·rw[if_neg hk,if_neg (by omega)]
theorem yhS (S:Fs) (p:Int) (lv:Nat) (t:Int) (a:Nat):thr S (onW p) lv t a=
 if yhx S t (ix p lv) lv≠0 then([],yhx S t (ix p lv) lv)
 else if (rEn S t (ix p lv) lv).on=I then([spt S t (ix p lv) lv a],0)
 else(spt S t (ix p lv) lv a::(sub S (onW p) lv (rEn S t (ix p lv) lv).f ((a+ix p lv)*8)).1,(sub S (onW p) lv (rEn S t (ix p lv) lv).f ((a+ix p lv)*8)).2):=by
 have:=yid p lv;rw[yiy,yk2 (k:=ix p lv) (fun i=>rfl),if_pos (by omega)];unfold out;rw[if_neg (by simp[onW])]
theorem yi7 {S:Fs} {L:Nat->Nat->Bool} {lv:Nat} {rec:Int->Nat->List Sp×Int} {t:Int} {a:Nat}:∀n i,(scan S L lv rec t a n i).2=0->
 (∀j,i<=j->j<i+n->(out S L lv rec t a j).2=0)/\(scan S L lv rec t a n i).1=(List.range' i n).flatMap fun j=>(out S L lv rec t a j).1
 | 0,i,_=>⟨fun j h1 h2=>by omega,by simp[scan]⟩
 | n+1,i,hz=>by
   unfold scan at hz ⊢;split at hz
   ·rename_i hh
    exact absurd hz hh
   ·rename_i hh
    have h0:(out S L lv rec t a i).2=0:=by simpa using hh
    obtain⟨ih1,ih2⟩:=yi7 n (i+1) hz;refine⟨fun j h1 h2=> ?_,?_⟩
    ·by_cases e:j=i
     ·rw[e];exact h0
     ·exact ih1 j (by omega) (by omega)
    ·rw[if_neg hh,ih2,List.range'_succ,List.flatMap_cons]
end Pg
end Go.Proofs.YtdphiompijbelaaGreat
