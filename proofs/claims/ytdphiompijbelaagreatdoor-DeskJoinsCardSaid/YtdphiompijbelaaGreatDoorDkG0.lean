import Derived.Test.YtdphiompijbelaaGreatDoorPlainSK
import Derived.Sort.LoopGhostIn
set_option linter.all false
set_option maxRecDepth 100000
open Bool renaming false->kY,true->kQ
open Int renaming toNat_natCast->kC
open Nat renaming le_refl->q,zero_le->kJ,le_trans->kB,lt_of_lt_of_le->kS,min_eq_left->kA
open Go.Proofs.Tryz renaming prog->y
open Go.Ending renaming returned->H
open List renaming getElem?_eq_getElem->M,length_append->kI,length_cons->kN,length_nil->kT,mem_of_mem_take->kV,append_assoc->kU,take_add_one->kO,length_take->kM,getElem_mem->kX,take_length->kE,take_zero->kH
open Go.World renaming block_lt_of_cell?->O,cell?->kF,frozen?->kL
open Array renaming getElem?_eq_some_iff->Z
open Go renaming World->Q,heap_alloc_new->U,Calls->kZ,Value->kD
open Go.Obj renaming cells->V
open Go.RowKit renaming Hid->N
open Option renaming some->S,none->R
open Go.IntKind renaming i64->P
open Go.Value renaming int->I,pointer->Y,bool->kP,slice->kR,tuple->kK
set_option maxHeartbeats 4000000
namespace Go.Proofs.YtdphiompijbelaaGreatDoor
open Go.RowKit Go.Sort
section
attribute [local go_sem] Oper.semAt_some
theorem Pg.walkOf_at (X:Pg.Spc) (k:Nat):X.walkOf (k:Int)=(X.C.getD k Pg.Cr.new).K:=by
 unfold Pg.Spc.walkOf;rw[if_pos (by omega),kC]
theorem Pg.waitsOf_at (X:Pg.Spc) (k:Nat):X.waitsOf (k:Int)=X.W.getD k kY:=by
 unfold Pg.Spc.waitsOf;rw[kC];simp
theorem yaB (kd:Int) (k:Nat) (h1:0<=kd/\kd<=8) (h2:k<=4):xi ⟨kd,(k:Int),.zz,0,0,kY⟩:=by
 simp[xi,Pg.Mp.zz,Pg.fits]
theorem ydw {b:Nat} {X:Pg.Spc} {L L0:List Pg.Mp} {ti:Int} {F:Nat->Prop} (k:Int) (w:Q) (h:qw w b X L L0 ti F):
 kZ y 149 #[Y (S ⟨b,0,R⟩),I P k] w fun e w'=>e=H (kP (X.walkOf k).on)/\Below w.heap.size w w':=by
 obtain⟨sp,Fs,c0,hd⟩:=h.space;have HO:=ydU k hd;generalize X.walkOf k=K at*;clear hd h
 go_enter Tryz.func149,Tryz.ntmps149
 go_wp2_with fail
 refine HO.mono ?_;rintro e w1 ⟨rfl,hb1⟩;have HB:N _:=hb1;clear hb1 HO
 go_wp2_with fail
 go_ret
 exact⟨rfl,zA HB.out _⟩
theorem ydu {b:Nat} {F0:Nat->Prop} {w:Q} {Bs:Nat} {s0:Pg.Trs} (hE:s0.E=[]) (hti:0<=s0.ti/\s0.ti<=100000) (hinv:Pg.Inv s0.X s0.L s0.L0) (hco:s0.X.C.length<=4)
 (hBs:w.cell? ⟨Bs,0,R⟩=S (Y (S ⟨b,0,R⟩))) (nBs:¬F0 Bs):
 Seq b F0 w s0 146 #[Y (S ⟨Bs,0,R⟩)] (fun t=>Pg.Rest s0 t):=by
 intro l J W1 hI hJb hY h0;have hI:N (∀s W,J s W->But F0 w W/\∃F,qw W b s.X s.L s.L0 s.ti F):=hI;have hJb:N (∀s W W',J s W->Below W.heap.size W W'->J s W'):=hJb;have hY:N (∀s x W,J s W->xi x->Bd s->YieldAt Fence.wide 1 y l #[x.val] W fun e W'=>e=H (kP kQ)/\J (s.next x) W'):=hY;have hJ0:N (J s0 W1):=h0;have HC:N (∀s W,J s W->W.cell? ⟨Bs,0,R⟩=S (Y (S ⟨b,0,R⟩))):=fun s W hj=>((hI.out _ _ hj).1.cell (a:=⟨Bs,0,R⟩) (O _ _ hBs) nBs).trans hBs
 have HS:N (∀s W,J s W->∃sp Fs,W.cell? ⟨b,0,R⟩=S (Y (S ⟨sp,0,R⟩))/\vP W sp s.X Fs):=fun s W hj=>by
  obtain⟨F,hw⟩:=(hI.out _ _ hj).2;exact hw.space
 have HA0:N (Pg.AckI s0 0 s0):=Pg.yl2 hinv;have HE:N (s0.E=[]):=hE;have HT:N (0<=s0.ti/\s0.ti<=100000):=hti;have hcn:=hco;clear h0 hBs hE hti hinv hco;generalize hcl:s0.X.C.length=cn at*;have HCL:N (s0.X.C.length=cn):=hcl;clear hcl;have cO:=HC.out _ _ hJ0.out;obtain⟨sp,Fs,cb,D,hd,hDF⟩:=HS.out _ _ hJ0.out;have HCo:=vh _ hd;rw[HCL.out]at HCo;clear hd hDF;refine callsIn_of_wp Tryz.func146 rfl trivial ?_ rfl;simp only[Tryz.ntmps146,List.size_toArray,kN,kT,Nat.reduceAdd,Nat.reduceSub,Array.replicate_succ,Array.replicate_zero,List.push_toArray,List.append_toArray,List.nil_append,List.cons_append]
 gi_wp2_with fail
 refine⟨trivial,(callsIn_wide.2 HCo).mono ?_⟩;rintro e w1 ⟨rfl,hw1⟩;subst hw1;clear HCo cO cb
 gi_wp2_with fail
 gi_loopw [10] (fun i wr=>∃(k:Nat) (t:Pg.Trs),k<=cn/\i=I P k/\N (Pg.AckI s0 k t)/\N (J t wr)) (fun i _=>cn-(intOf i).toNat)
 case atStart=>exact⟨0,s0,kJ _,rfl,HA0,hJ0⟩
 case round=>
  obtain⟨k,t,hk,rfl,HA,HJ⟩:=hrel;clear hJ0 HA0;have cO:=HC.out _ _ HJ.out;obtain⟨sp,Fs,cb,D,hd,hDF⟩:=HS.out _ _ HJ.out
  by_cases hlt:k<cn
  ·have i0:(0:Int)<=(k:Int):=by omega
   have i1:(k:Int)<(cn:Int):=by omega
   have HWa:=yb8 (k:Int) _ hd;rw[Pg.waitsOf_at]at HWa;clear hd hDF
   by_cases hw:t.X.W.getD k kY=kQ
   ·rw[hw]at HWa
    have HN:N (Pg.AckI s0 (k+1) (t.next (.ack k))):=HA.out.yes (by rw[HCL.out];exact hlt) hw;have hx:=hY.out t (.ack k) wr HJ.out (yaB 6 k (by omega) (by omega)) (by have h1:=HA.out.ti;have h2:=HA.out.E;have h3:=HT.out;rw[HE.out]at h2;exact⟨by omega,by omega,by simp at h2;omega⟩);generalize t.next (.ack k)=t' at*;simp only[Pg.Sx.ack,Pg.Mp.zz,Pg.Sx.val]at hx;obtain⟨fn,tmps,assign,body,hy,hR⟩:=hx;clear hw
    gi_wp2_with fail
    refine⟨trivial,(callsIn_wide.2 HWa).mono ?_⟩;rintro e w1 ⟨rfl,hw1⟩;subst hw1;clear HWa
    gi_wp2_with fail
    refine hR.mono ?_;rintro e W3 ⟨rfl,hJ3⟩;have HJ3:N (J t' W3):=hJ3;clear hJ3 hR hy cO cb
    gi_wp2_with fail
    go_roundw
    case rel=>exact⟨k+1,_,by omega,by go_num,HN,HJ3⟩
    case measure=>simp[intOf];omega
   ·have hw:t.X.W.getD k kY=kY:=by simpa using hw
    rw[hw]at HWa;have HN:N (Pg.AckI s0 (k+1) t):=HA.out.no hw;clear hw
    gi_wp2_with fail
    refine⟨trivial,(callsIn_wide.2 HWa).mono ?_⟩;rintro e w1 ⟨rfl,hw1⟩;subst hw1;clear HWa cO cb
    gi_wp2_with fail
    refine⟨fun f h=>(by cases h),?_⟩
    gi_wp2_with fail
    go_roundw
    case rel=>exact⟨k+1,_,by omega,by go_num,HN,HJ⟩
    case measure=>simp[intOf];omega
  ·have hkc:k=cn:=by omega
   have i1:¬(k:Int)<(cn:Int):=by omega
   have HA':N (Pg.AckI s0 s0.X.C.length t):=by rw[HCL.out,<-hkc];exact HA
   have HW0:N (Pg.WlkI t 0 t):=HA'.out.wlk
   have HEt:N (t.E.length<=4):=by have:=HA.out.E;rw[HE.out]at this;simp at this;rw[N];omega
   have HTt:N (0<=t.ti/\t.ti<=100000):=by rw[N,HA.out.ti];exact HT.out
   have HTL:N (t.X.C.length=cn):=HA.out.len.trans HCL.out;have HCo:=vh _ hd;rw[HTL.out]at HCo;clear HA hk hkc hd hDF;generalize ht:t=a at*;clear ht
   gi_wp2_with fail
   refine⟨trivial,(callsIn_wide.2 HCo).mono ?_⟩;rintro e w1 ⟨rfl,hw1⟩;subst hw1;clear HCo cO cb i1
   gi_wp2_with fail
   gi_loopw [32] (fun i wr=>∃(k:Nat) (t:Pg.Trs),k<=cn/\i=I P k/\N (Pg.WlkI a k t)/\N (J t wr)) (fun i _=>cn-(intOf i).toNat)
   case atStart=>exact⟨0,a,kJ _,rfl,HW0,HJ⟩
   case round=>
    obtain⟨k,t,hk,rfl,HA,HJ⟩:=hrel;clear HW0
    by_cases hlt:k<cn
    ·have i0:(0:Int)<=(k:Int):=by omega
     have i1:(k:Int)<(cn:Int):=by omega
     have HB:N (Pg.WlkR a k 0 t):=HA.out.begin (by rw[HTL.out];exact hlt);clear HA;have HJ0:N (J t wr):=HJ;clear HJ;generalize ht:t=z at*;clear ht
     gi_wp2_with fail
     gi_loopg [] 6 (fun g wr=>∃(i:Nat) (t:Pg.Trs),g=6-i/\N (Pg.WlkR a k i t)/\N (J t wr))
     case atStart=>exact⟨0,z,rfl,HB,HJ0⟩
     case round=>
      obtain⟨i,t,hg,HA,HJ⟩:=hrel;clear HJ0 HB;have cO:=HC.out _ _ HJ.out;obtain⟨Fw,hw⟩:=(hI.out _ _ HJ.out).2;have HOn:=ydw (k:Int) _ hw;rw[Pg.walkOf_at]at HOn;clear hw
      by_cases ho:(t.X.C.getD k Pg.Cr.new).K.on=kQ
      ·rw[ho]at HOn
       obtain⟨hi6,HN⟩:=HA.out.on (by rw[HTL.out];exact hlt) ho;have HN:N (Pg.WlkR a k (i+1) (t.next (.wlk k))):=HN;have hx:=fun W h=>hY.out t (.wlk k) W h (yaB 5 k (by omega) (by omega)) (by have h1:=HA.out.ti;have h2:=HA.out.E;have h3:=HTt.out;have h4:=HEt.out;exact⟨by omega,by omega,by omega⟩);generalize t.next (.wlk k)=t' at*;simp only[Pg.Sx.wlk,Pg.Mp.zz,Pg.Sx.val]at hx;clear ho
       gi_wp2_with fail
       refine⟨trivial,(callsIn_wide.2 HOn).mono ?_⟩;rintro e w1 ⟨rfl,hb1⟩;have HJ1:N (J t w1):=hJb.out _ _ _ HJ.out hb1;obtain⟨fn,tmps,assign,body,hy,hR⟩:=hx w1 HJ1.out;clear HOn hb1 cO
       gi_wp2_with fail
       refine hR.mono ?_;rintro e W3 ⟨rfl,hJ3⟩;have HJ3:N (J t' W3):=hJ3;clear hJ3 hR hy
       gi_wp2_with fail
       go_roundg (6-(i+1))
       case rel=>exact⟨i+1,t',rfl,HN,HJ3⟩
       case measure=>omega
      ·have ho:(t.X.C.getD k Pg.Cr.new).K.on=kY:=by simpa using ho
       rw[ho]at HOn;have HN:N (Pg.WlkI a (k+1) t):=HA.out.ended ho;clear ho
       gi_wp2_with fail
       refine⟨trivial,(callsIn_wide.2 HOn).mono ?_⟩;rintro e w1 ⟨rfl,hb1⟩;have HJ1:N (J t w1):=hJb.out _ _ _ HJ.out hb1;clear HOn hb1 cO
       gi_wp2_with fail
       go_roundw
       case rel=>exact⟨k+1,t,by omega,by go_num,HN,HJ1⟩
       case measure=>simp[intOf];omega
    ·have hkc:k=cn:=by omega
     have i1:¬(k:Int)<(cn:Int):=by omega
     have HW':N (Pg.WlkI a s0.X.C.length t):=by rw[<-HA'.out.len,HTL.out,<-hkc];exact HA
     gi_wp2_with fail
     go_end0
     exact⟨⟨_,rfl⟩,t,⟨a,HA'.out,HW'.out⟩,HJ.out⟩
theorem ybK (b:Nat) (w:Q):kZ y 115 #[Y (S ⟨b,0,R⟩)] w fun e w'=>e=H (.func (.func 146) #[] #[Y (S ⟨w.heap.size,0,R⟩)])/\w'=w.alloc (V #[Y (S ⟨b,0,R⟩)] 41):=by
 go_enter Tryz.func115,Tryz.ntmps115
 go_wp2
 go_ret
 exact⟨rfl,rfl⟩
end
section
attribute [local go_sem] Loose.gent
theorem ydv {b:Nat} {s0:Pg.Trs} {F:Nat->Prop} (w:Q) (h:qw w b s0.X s0.L s0.L0 s0.ti F) (hE:s0.E=[]) (hti:0<=s0.ti/\s0.ti<=100000) (hco:s0.X.C.length<=4):
 kZ y 73 #[Y (S ⟨b,0,R⟩)] w fun e w'=>∃t ad cap,Pg.Rest s0 t/\e=H (kK #[kR ad t.E.length cap,.agg #[I P 0,I P 0]])/\jd w' ad t.E/\But F w w'/\
  ∃F',qw w' b t.X t.L t.L0 t.ti F'/\(∀k,F' k->F k\/w.heap.size<=k)/\∀g,ad=S ⟨g,0,R⟩->w.heap.size<=g/\¬F' g:=by
 have hinv:=h.inv;have hlt:N (∀k,F k->k<w.heap.size):=fun k hk=>h.lt hk;have HEv:=fun(w2:Q) (Bs:Nat) (h2:qw w2 b s0.X s0.L s0.L0 s0.ti F) (hB:w2.cell? ⟨Bs,0,R⟩=S (Y (S ⟨b,0,R⟩))) (nB:¬F Bs)=>ybJ (gf:=146) (lb:=#[Y (S ⟨Bs,0,R⟩)]) w2 h2 hE (enters_of Tryz.func146 (by kernel_rfl) rfl) (ydu hE hti hinv hco hB nB);have H0:N (qw w b s0.X s0.L s0.L0 s0.ti F):=h;clear h hE hti hinv hco
 go_enter Tryz.func73,Tryz.ntmps73
 go_wp2_with fail
 refine(ybK b _).mono ?_;rintro e w1 ⟨rfl,rfl⟩;obtain⟨W1,hW1⟩:∃W1,W1=w.alloc (V #[I P 0,I P 0] 33):=⟨_,rfl⟩;rw[<-hW1];obtain⟨W2,hW2⟩:∃W2,W2=W1.alloc (V #[Y (S ⟨b,0,R⟩)] 41):=⟨_,rfl⟩;rw[<-hW2]
 have hs1:W1.heap.size=w.heap.size+1:=by rw[hW1];simp
 have hb1:Below w.heap.size w W1:=by rw[hW1];exact zA (zR _) _
 have hb2:Below W1.heap.size W1 W2:=by rw[hW2];exact zA (zR _) _
 have R1:W1.heap[w.heap.size]?=S (V #[I P 0,I P 0] 33 (0,0)):=by rw[hW1];exact U _ _
 have R2:N (W2.heap[w.heap.size]?=S (V #[I P 0,I P 0] 33 (0,0))):=(hb2.block _ (by omega)).trans R1
 have c2:W2.cell? ⟨W1.heap.size,0,R⟩=S (Y (S ⟨b,0,R⟩)):=by rw[hW2];simp[go_sem]
 have HB2:N (Below w.heap.size w W2):=zT hb1 hb2
 have HS2:N (w.heap.size+2<=W2.heap.size):=by rw[N,hW2];simp;omega
 have HEv:=HEv W2 W1.heap.size (qw.grow H0.out HB2.out) c2 (fun e=>by have:=hlt.out _ e;omega);rw[hs1]at HEv;clear c2 hb1 hb2 R1 hW1 hW2
 go_wp2_with fail
 refine HEv.mono ?_;rintro e w3 ⟨t,ad,cap,hr,_,rfl,hev,hb3,F3,h3,hF3,hn3⟩
 have n0:¬F w.heap.size:=fun e=>by have:=hlt.out _ e;omega
 have R3:N (w3.heap[w.heap.size]?=S (V #[I P 0,I P 0] 33 (0,0))):=(hb3.block _ (by have:=HS2.out;omega) n0).trans R2.out
 have DN:N (jd w3 ad t.E/\But F w w3/\qw w3 b t.X t.L t.L0 t.ti F3/\(∀k,F3 k->F k\/w.heap.size+2<=k)/\∀g,ad=S ⟨g,0,R⟩->w.heap.size+2<=g/\¬F3 g):=
  ⟨hev,(But.yhl HB2.out).trans hb3 fun i hi e=>e,h3,fun k hk=>(hF3 k hk).imp id fun e=>kB HS2.out e,fun g hg=>⟨kB HS2.out (hn3 g hg).1,(hn3 g hg).2⟩⟩
 have HR:N (Pg.Rest s0 t):=hr;obtain⟨⟨r0,r1⟩,rf⟩:=zP R3.out;have hs3:w.heap.size<w3.heap.size:=O _ _ r0;clear hr hev hb3 h3 hF3 hn3 HEv n0
 go_wp2_with fail
 refine bodyPost_ret (v:=kK #[kR ad t.E.length cap,.agg #[I P 0,I P 0]]) ?_ rfl ?_
 ·simp[results,Tryz.results73,go_sem,r0,r1,hs3]
 ·obtain⟨d1,d2,d3,d4,d5⟩:=DN.out
  have hb:But (fun k=>k=w.heap.size) w3 ((w3.setCell ⟨w.heap.size,0,R⟩ (I P 0)).setCell ⟨w.heap.size,1,R⟩ (I P 0)):=(xj w3 _ _ _).trans (xj _ _ _ _) fun _ _ e=>e;exact⟨t,ad,cap,HR.out,rfl,d1.but hb fun g hg e=>by have:=(d5 g hg).1;omega,d2.trans hb fun i hi e=>by omega,F3,d3.keep hb fun k hk e=>(d4 k hk).elim (fun h=>by have:=hlt.out k h;omega) fun h=>by omega,fun k hk=>(d4 k hk).imp id fun e=>by omega,fun g hg=>⟨by have:=(d5 g hg).1;omega,(d5 g hg).2⟩⟩
end
theorem ydG (x:Bool) (w:Q):kZ y 70 #[kP x] w fun e w'=>e=H (I P (if x=kQ then 1 else 0))/\w'=w:=by
 cases x
 all_goals
  go_enter Tryz.func70,Tryz.ntmps70
  go_wp2_with fail
  go_ret
  exact⟨rfl,rfl⟩
structure Pg.Dk where
 X:Pg.Spc
 L:List Pg.Mp
 L0:List Pg.Mp
 ti:Int
structure Tw (W:Bs) (w:Q) (b v:Nat) (d:Pg.Dk) (bs:List UInt8) (F Fw:Nat->Prop):Prop where
 tl:Tl0 W w b (Y (S ⟨v,0,R⟩)) bs F
 wt:qw w v d.X d.L d.L0 d.ti Fw
 ap:∀k,F k->¬Fw k
 hw:∀k,Fw k->W.G k\/W.w.heap.size<=k
section
variable {W:Bs} {w w':Q} {b v:Nat} {d d':Pg.Dk} {bs cs:List UInt8} {F Fw Fw':Nat->Prop}
theorem Tw.grow (h:Tw W w b v d bs F Fw) (hb:Below w.heap.size w w'):Tw W w' b v d bs F Fw:=⟨h.tl.grow hb,h.wt.grow hb,h.ap,h.hw⟩
theorem Tw.told (h:Tw W w b v d bs F Fw) (hd:zd w b (Y (S ⟨v,0,R⟩)) F cs w'):∃F',Tw W w' b v d cs F' Fw:=by
 obtain⟨F',t,hb,hF⟩:=h.tl.done hd;exact⟨F',t,h.wt.keep hb fun k hk hf=>h.ap k hf hk,fun k hk hw=>(hF k hk).elim (fun e=>h.ap k e hw) fun e=>by have:=h.wt.lt hw;omega,h.hw⟩
theorem Tw.step (h:Tw W w b v d bs F Fw) (hw:qw w' v d'.X d'.L d'.L0 d'.ti Fw') (hb:But Fw w w') (hF:∀k,Fw' k->Fw k\/w.heap.size<=k):Tw W w' b v d' bs F Fw':=by
 have ht:=h.tl.tl.keep hb h.ap;exact⟨⟨ht,h.tl.bel.ylR hb h.hw,h.tl.hi⟩,hw,fun k hk hf=>(hF k hf).elim (h.ap k hk) fun e=>by have:=h.tl.tl.lt hk;omega,Bs.ylt h.tl.bel h.hw hF⟩
theorem Tw.c0 (h:Tw W w b v d bs F Fw):w.cell? ⟨b,0,R⟩=S (Y (S ⟨v,0,R⟩)):=by
 obtain⟨p,x,hb,_⟩:=h.tl.tl;simp[kF,hb]
theorem Tw.lb (h:Tw W w b v d bs F Fw):b<w.heap.size:=O _ _ h.c0
end
section
variable {W:Bs} {w:Q} {b:Nat} {p0:kD} {bs:List UInt8} {F:Nat->Prop}
theorem ybI (word:ByteArray) (p s f r:Int) (hp:Pg.fits p) (hs:Pg.fits s) (hf:Pg.fits f) (hr:Pg.fits r) (hw:word.size<=20) (hG:xZ W) (h:Tl0 W w b p0 bs F) (hl:bs.length<=90000000000000):
 kZ y 69 #[Y (S ⟨b,1,R⟩),.string word,.agg #[I P p,I P s,I P f,I P r],kR R 0 0] w fun e w'=>e=H (kK #[])/\zd w b p0 F (bs++Pg.tell word.data.toList [p,s,f,r]) w':=by
 have hb2:Below w.heap.size w ((w.alloc (V #[I P p,I P s,I P f,I P r] 76)).alloc (V #[I P p,I P s,I P f,I P r] 3)):=zA (zA (zR w) _) _
 have HT:=zZ word (S ⟨w.heap.size+1,0,R⟩) 4 [p,s,f,r] hG (h.grow hb2) (xV (by
  have:=U (w.alloc (V #[I P p,I P s,I P f,I P r] 76)) (V #[I P p,I P s,I P f,I P r] 3)
  simpa[zv]using this)) (fun g e _ hF=>by
   have:=h.tl.lt hF;injection e with e;injection e with e
   omega) (by simp[hp,hs,hf,hr]) (by simp;omega)
 go_enter Tryz.func69,Tryz.ntmps69
 go_wp2_with fail
 refine HT.mono ?_;rintro e w2 ⟨rfl,hd⟩;have D:N _:=hd;have HB2:N _:=hb2;clear hd HT hb2
 go_wp2_with fail
 go_end0
 exact⟨rfl,zd.after HB2.out D.out⟩
theorem yaSq:(Tryz.prog.info? 3).map (fun i=>(i.zero,i.size,i.bytes))=S (S (I P 0),1,8):=by kernel_rfl
theorem yeZ {w:Q} {g:Nat} {cs:Array kD} (h:w.heap[g]?=S (V cs 3 (0,0))) (hm:cs.size<=maxLen):w.ownsRow 0 3 1 (kR (S ⟨g,0,R⟩) cs.size cs.size) cs.size cs.toList:=
 ⟨by simp,.inr ⟨g,cs.size,cs,rfl,kJ _,h,q _,hm,by simp,by rw[Nat.mul_one];exact List.take_of_length_le (by simp)⟩⟩
theorem jT (word:ByteArray) (p s f r:Int) (hp:Pg.fits p) (hs:Pg.fits s) (hf:Pg.fits f) (hr:Pg.fits r) (gm cap:Nat) (more:List Int) (hm:0<more.length) (hm2:more.length<=2) (hmi:zl w (S ⟨gm,0,R⟩) more) (hmf:∀n ∈ more,Pg.fits n) (hw:word.size<=20) (hG:xZ W) (h:Tl0 W w b p0 bs F) (hl:bs.length<=90000000000000):
 kZ y 69 #[Y (S ⟨b,1,R⟩),.string word,.agg #[I P p,I P s,I P f,I P r],kR (S ⟨gm,0,R⟩) more.length cap] w fun e w'=>e=H (kK #[])/\zd w b p0 F (bs++Pg.tell word.data.toList ([p,s,f,r]++more)) w':=by
 obtain⟨i0,hi,hz0,hz1,hz2⟩:=info_parts yaSq;obtain⟨W2,hW2⟩:∃W2,W2=(w.alloc (V #[I P p,I P s,I P f,I P r] 76)).alloc (V #[I P p,I P s,I P f,I P r] 3):=⟨_,rfl⟩
 have hb2:Below w.heap.size w W2:=by rw[hW2];exact zA (zA (zR w) _) _
 have hx2:W2.heap[w.heap.size+1]?=S (V #[I P p,I P s,I P f,I P r] 3 (0,0)):=by
  rw[hW2]
  simpa using U (w.alloc (V #[I P p,I P s,I P f,I P r] 76)) (V #[I P p,I P s,I P f,I P r] 3)
 have HO:N (W2.ownsRow 0 3 1 (kR (S ⟨w.heap.size+1,0,R⟩) 4 4) 4 [I P p,I P s,I P f,I P r]):=yeZ hx2 (by simp[maxLen]);have hmi2:=hmi.below hb2
 have HNW:N (∀j u,(zv more)[j]?=S u->W2.cell? ((⟨gm,0,R⟩:Addr).add j)=S u):=fun j u hu=>by
  have hj:j<more.length:=by
   rcases Nat.lt_or_ge j more.length with h|h
   ·exact h
   ·rw[List.getElem?_eq_none (by simpa[zv]using h)]at hu;cases hu
  obtain⟨g,e,_,hc⟩:=hmi2 j hj;injection e with e;injection e with e;subst e
  have:u=I P (more.getD j 0):=by
   simp[zv,hj]at hu;simp[List.getD,hj,hu]
  rw[this,Addr.add_lit]
  simpa using hc
 have HL:N ((zv more).length=more.length*1):=by simp[N,zv]
 have H1:N (∀u ∈ zv more,u.oneCell'=kQ):=fun u hu=>by
  simp only[zv,List.mem_map]at hu;obtain⟨x,_,rfl⟩:=hu;rfl
 have h2:=h.grow hb2
 have HM1:N (4+more.length<=maxLen):=by unfold N maxLen;omega
 have HM2:N ((4+more.length)*8<=140737488355328):=by unfold N;omega
 have hsz:W2.heap.size=w.heap.size+2:=by rw[hW2];simp
 have hel:([p,s,f,r]++more).length=4+more.length:=by simp;omega
 have HT:=fun g cap' w3 (ho:w3.ownsRow 0 3 1 (kR (S ⟨g,0,R⟩) (4+more.length) cap') (4+more.length) ([I P p,I P s,I P f,I P r]++zv more)) (hg:W2.grownBy w3 (S (w.heap.size+1))) (ha:(S (w.heap.size+1)=S g\/g=W2.heap.size))=>
  zZ word (S ⟨g,0,R⟩) cap' ([p,s,f,r]++more) hG (h.grow (((zR w).trans hb2).grown hg (by omega) (fun k hk=>by injection hk with hk;omega))) (ji (base:=0) (n:=4+more.length) (cap:=cap') (by rw[hel];exact ho)) (fun g' e _ hF=>by
   have:=h.tl.lt hF;injection e with e;injection e with e;rcases ha with ha|ha
   ·injection ha with ha;omega
   ·omega) (by simp[hp,hs,hf,hr];exact hmf) (by simp;omega)
 have HB2:N _:=hb2;clear hmi2 hx2 h2 hb2 hmi
 go_enter Tryz.func69,Tryz.ntmps69
 go_wp2_with (at_builtin;rw[<-hW2];refine wpList_append_lies _ rfl _ _ 58 rfl 0 3 i0 _ 1 8 Tryz.underlying58 hi hz0 hz1 hz2 rfl (by decide) (kR (S ⟨w.heap.size+1,0,R⟩) 4 4) 4 [I P p,I P s,I P f,I P r] rfl HO.out ⟨gm,0,R⟩ more.length cap (zv more) rfl HL.out HNW.out H1.out hm HM1.out HM2.out (kJ _) _ rfl ?_;intro g cap' w3 hown hgrow hat hlt3)
 have HT:=HT _ _ _ hown hgrow hat;rw[hel]at HT;have HB3:N (Below w.heap.size w w3):=((zR w).trans HB2.out).grown hgrow (by omega) (fun k hk=>by have e:w.heap.size+1=k:=(by simpa[Value.ownBlock]using hk);omega);refine HT.mono ?_;rintro e w4 ⟨rfl,hd⟩;have D:N _:=hd;clear hd HT hown hgrow hat
 go_wp2_with fail
 go_end0
 exact⟨rfl,zd.after HB3.out D.out⟩
end
namespace Pg
def tMap (m:Mp):List UInt8:=tell [109,97,112] [m.p,m.s,m.f,m.r]
def yii:List Mp->List UInt8
 | []=>[]
 | m::r=>tMap m++yii r
def Mp.Fits (m:Mp):Prop:=fits m.p/\fits m.s/\fits m.f/\fits m.r
theorem yjn:∀(a b:List Mp),yii (a++b)=yii a++yii b
 | [],b=>rfl
 | n::r,b=>by
   show tMap n++yii (r++b)=tMap n++yii r++yii b
   rw[yjn r b,kU]
theorem tMap_len (m:Mp) (h:m.Fits):(tMap m).length<=100:=by
 have:=yh3 [m.p,m.s,m.f,m.r] (by simp[h.1,h.2.1,h.2.2.1,h.2.2.2]);simp[tMap,tell]at this ⊢;omega
theorem yjL:∀(L:List Mp),(∀e ∈ L,e.Fits)->(yii L).length<=100*L.length
 | [],_=>q _
 | n::r,h=>by
   have h1:=tMap_len n (h n (by simp));have h2:=yjL r fun x hx=>h x (by simp[hx]);simp only[yii,kI,kN];omega
end Pg
theorem yf5 {w:Q} {r:Nat} {v0 v1 v2 v3:kD} {t:TypeId} (h:w.heap[r]?=S (V #[v0,v1,v2,v3] t (0,0))):
 (w.cell? ⟨r,0,R⟩=S v0/\w.cell? ⟨r,1,R⟩=S v1/\w.cell? ⟨r,2,R⟩=S v2/\w.cell? ⟨r,3,R⟩=S v3)/\∀i,w.frozen? ⟨r,i,R⟩=kY:=
 ⟨by simp[kF,h],fun i=>by simp[kL,h]⟩
section
variable {W:Bs} {w w':Q} {b v:Nat} {d:Pg.Dk} {bs cs:List UInt8} {F Fw:Nat->Prop}
theorem Tw.told' (h:Tw W w b v d bs F Fw) (hd:zd w b (Y (S ⟨v,0,R⟩)) F cs w'):∃F',Tw W w' b v d cs F' Fw/\But F w w'/\∀k,F' k->F k\/w.heap.size<=k:=by
 obtain⟨F',t,hb,hF⟩:=h.tl.done hd;exact⟨F',⟨t,h.wt.keep hb fun k hk hf=>h.ap k hf hk,fun k hk hw=>(hF k hk).elim (fun e=>h.ap k e hw) fun e=>by have:=h.wt.lt hw;omega,h.hw⟩,hb,hF⟩
theorem ybO (hG:xZ W) (h:Tw W w b v d bs F Fw) (hf:∀m ∈ d.X.maps,m.Fits) (hm:d.X.maps.length<=5000) (hl:bs.length<=50000000000000):
 kZ y 43 #[Y (S ⟨b,0,R⟩)] w fun e w'=>e=H (kK #[])/\∃F',Tw W w' b v d (bs++Pg.yii d.X.maps++Pg.tell [101,110,100] []) F' Fw:=by
 obtain⟨sp,Fs,cs',hd⟩:=h.wt.space;have HL:=ydR hd;have c0:=h.c0;have T0:N (Tw W w b v d bs F Fw):=h;have HG:N (xZ W):=hG;generalize d.X.maps=L at*;clear hd h hG
 go_enter Tryz.func43,Tryz.ntmps43
 go_wp2_with fail
 refine HL.mono ?_;rintro e w1 ⟨adm,cpm,rfl,hm1,hnew,hb1⟩
 have T1:N (Tw W w1 b v d (bs++Pg.yii (L.take 0)) F Fw):=by rw[N,kH];simpa[Pg.yii]using T0.out.grow hb1
 have HM:N (xg w1 adm L):=hm1
 have hnF:∀g,adm=S ⟨g,0,R⟩->¬F g:=fun g hg hf=>by have:=T0.out.tl.tl.lt hf;have:=hnew g hg;omega
 have HB1:N (But F w1 w1):=But.refl _ _;have HF1:N (∀k,F k->F k\/w1.heap.size<=k):=fun k hk=> .inl hk;clear hm1 hnew hb1 HL T0 c0 cs'
 go_wp2_with fail
 go_loopw [13] (fun i wr=>∃(k:Nat) (F1:Nat->Prop),k<=L.length/\i=I P k/\N (Tw W wr b v d (bs++Pg.yii (L.take k)) F1 Fw)/\N (But F w1 wr)/\N (∀x,F1 x->F x\/w1.heap.size<=x)) (fun i _=>L.length-(intOf i).toNat)
 case atStart=>exact⟨0,F,kJ _,rfl,T1,HB1,HF1⟩
 case round=>
  obtain⟨k,F2,hk,rfl,T,HB,HF⟩:=hrel;clear T1 HB1 HF1;have hlb:(Pg.yii (L.take k)).length<=100*(L.take k).length:=Pg.yjL _ fun n hn=>hf n (kV hn);rw[kM,kA hk]at hlb
  have hl2:(bs++Pg.yii (L.take k)).length<=60000000000000:=by
   simp only[kI];omega
  by_cases hlt:k<L.length
  ·have i0:(0:Int)<=(k:Int):=by omega
   have i1:(k:Int)<(L.length:Int):=by omega
   obtain⟨g,rfl,hg,c0,c1,c2,c3⟩:=HM.out k hlt;have hgF:=hnF g rfl;have hx:(L.getD k .zz).Fits:=hf _ (by rw[List.getD,M hlt];exact kX hlt)
   have HTK:N (Pg.yii (L.take (k+1))=Pg.yii (L.take k)++Pg.tMap (L.getD k .zz)):=by
    rw[N,kO,M hlt,Pg.yjn];simp[Pg.yii,List.getD,hlt]
   generalize L.getD k .zz=x at*;obtain⟨mp,ms,mf,mr⟩:=x;simp only at c0 c1 c2 c3;have cc:∀p v,w1.cell? ⟨g,p,R⟩=S v->wr.cell? ⟨g,p,R⟩=S v:=fun p v hv=>(HB.out.cell (a:=⟨g,p,R⟩) hg hgF).trans hv;have c0:=cc _ _ c0;have c1:=cc _ _ c1;have c2:=cc _ _ c2;have c3:=cc _ _ c3;obtain⟨W3,hW3⟩:∃W3,W3=wr.alloc (V #[I P mp,I P ms,I P mf,I P mr] 76):=⟨_,rfl⟩
   have hb3:Below wr.heap.size wr W3:=by rw[hW3];exact zA (zR wr) _
   obtain⟨⟨e0,e1,e2,e3⟩,_⟩:=yf5 (show W3.heap[wr.heap.size]?=S (V #[I P mp,I P ms,I P mf,I P mr] 76 (0,0)) by rw[hW3];exact U _ _);have T3:N (Tw W W3.drew b v d (bs++Pg.yii (L.take k)) F2 Fw):=T.out.grow (zT hb3 (zR W3).drew);have HV:=ybI ⟨#[109,97,112]⟩ mp ms mf mr hx.1 hx.2.1 hx.2.2.1 hx.2.2.2 (by decide) HG.out T3.out.tl (by omega);have HAF:N (∀cs w',zd W3.drew b (Y (S ⟨v,0,R⟩)) F2 cs w'->zd wr b (Y (S ⟨v,0,R⟩)) F2 cs w'):=fun cs w' h=>zd.after (zT hb3 (zR W3).drew) h;clear cc hb3 hx hlb hl2
   go_upto_region 3 with fail
   rw[<-hW3];clear hW3 c0 c1 c2 c3
   have NX:N (¬F2 wr.heap.size):=fun e=>by have:=T.out.tl.tl.lt e;omega
   generalize wr.heap.size=gx at*
   have EA:N (∀w',zd W3.drew b (Y (S ⟨v,0,R⟩)) F2 (bs++Pg.yii (L.take k)++Pg.tMap ⟨mp,ms,mf,mr⟩) w'->w'.cell? ⟨gx,0,R⟩=S (I P mp)/\w'.cell? ⟨gx,1,R⟩=S (I P ms)/\w'.cell? ⟨gx,2,R⟩=S (I P mf)/\w'.cell? ⟨gx,3,R⟩=S (I P mr)):=fun w' hd=>by
    obtain⟨_,_,hbd,_⟩:=hd;have hlx:gx<W3.heap.size:=O _ _ e0;have hc:∀p,w'.cell? ⟨gx,p,R⟩=W3.cell? ⟨gx,p,R⟩:=fun p=>hbd.cell (a:=⟨gx,p,R⟩) hlx NX.out;exact⟨(hc _).trans e0,(hc _).trans e1,(hc _).trans e2,(hc _).trans e3⟩
   go_region_held3 (fun w'=>w'.cell? ⟨gx,0,R⟩=S (I P mp)/\w'.cell? ⟨gx,1,R⟩=S (I P ms)/\w'.cell? ⟨gx,2,R⟩=S (I P mf)/\w'.cell? ⟨gx,3,R⟩=S (I P mr)) (go_keep) (first
    | (go_at_call 69;refine HV.mono ?_;rintro e w4 ⟨rfl,hd⟩;have D4:N _:=hd;obtain⟨q0,q1,q2,q3⟩:=EA.out _ hd;clear hd))
   all_goals
    obtain⟨F5,t5,hb5,hF5⟩:=T.out.told' (HAF.out _ _ D4.out)
    have T5:N (Tw W w4 b v d (bs++Pg.yii (L.take (k+1))) F5 Fw):=by
     rw[N,HTK.out]
     simpa[Pg.tMap]using t5
    have HB5:N (But F w1 w4):=HB.out.trans hb5 fun i hi e=>(HF.out i e).elim id fun e=>by omega
    have HF5:N (∀x,F5 x->F x\/w1.heap.size<=x):=fun x hx=>(hF5 x hx).elim (HF.out x) fun e=> .inr (kB HB.out.size e);clear t5 hb5 hF5 HV T T3 HTK HB HF HAF e0 e1 e2 e3 q0 q1 q2 q3 EA D4 NX
    go_wp2_with fail
    exact⟨⟨k+1,F5,by omega,by go_num,T5,HB5,HF5⟩,by simp[intOf];omega⟩
  ·have i1:¬(k:Int)<(L.length:Int):=by omega
   have hk:k=L.length:=by omega
   have HE:N (L.take k=L):=by rw[N,hk,kE]
   have HT:=zZ ⟨#[101,110,100]⟩ R 0 [] HG.out T.out.tl (qj wr) (fun _ e=>by cases e) (fun _ e=>by cases e) (by show _+3+_+1<=_;simp only[kT];omega);clear hlb hl2
   go_wp2_with fail
   refine HT.mono ?_;rintro e w4 ⟨rfl,hd⟩;have D4:N _:=hd;clear hd HT
   go_wp2_with fail
   go_end0
   obtain⟨F5,t5,_⟩:=T.out.told' D4.out;rw[HE.out]at t5;exact⟨rfl,F5,t5⟩
end
namespace Pg
def ykQ (l:Ln):List UInt8:=tell [108,105,110,101] [l.m.p,l.m.s,l.m.f,l.m.r,if l.d=kQ then 1 else 0]
def yhJ:List Ln->List UInt8
 | []=>[]
 | m::r=>ykQ m++yhJ r
theorem yi9:∀(a b:List Ln),yhJ (a++b)=yhJ a++yhJ b
 | [],b=>rfl
 | n::r,b=>by
   show ykQ n++yhJ (r++b)=ykQ n++yhJ r++yhJ b
   rw[yi9 r b,kU]
theorem ykb (x:Bool):fits (if x=kQ then 1 else 0):=by cases x<;>simp[fits]
theorem tLine_len (l:Ln) (h:l.m.Fits):(ykQ l).length<=130:=by
 have:=yh3 [l.m.p,l.m.s,l.m.f,l.m.r,if l.d=kQ then 1 else 0] (by simp[h.1,h.2.1,h.2.2.1,h.2.2.2,ykb]);simp[ykQ,tell]at this ⊢;omega
theorem yjj:∀(L:List Ln),(∀e ∈ L,e.m.Fits)->(yhJ L).length<=130*L.length
 | [],_=>q _
 | n::r,h=>by
   have h1:=tLine_len n (h n (by simp));have h2:=yjj r fun x hx=>h x (by simp[hx]);simp only[yhJ,kI,kN];omega
end Pg
theorem ygs {w:Q} {r:Nat} {v0 v1 v2 v3 v4:kD} {t:TypeId} (h:w.heap[r]?=S (V #[v0,v1,v2,v3,v4] t (0,0))):
 (w.cell? ⟨r,0,R⟩=S v0/\w.cell? ⟨r,1,R⟩=S v1/\w.cell? ⟨r,2,R⟩=S v2/\w.cell? ⟨r,3,R⟩=S v3/\w.cell? ⟨r,4,R⟩=S v4)/\∀i,w.frozen? ⟨r,i,R⟩=kY:=
 ⟨by simp[kF,h],fun i=>by simp[kL,h]⟩
theorem ydb {b:Nat} {D:Dsd} {X:Pg.Spc} (k:Int) (w:Q) (h:Dsk w b D X):kZ y 71 #[Y (S ⟨b,0,R⟩),I P k] w fun e w'=>∃ad cap,e=H (kR ad (X.linesOf k).length cap)/\xC w' ad (X.linesOf k)/\(∀g o,ad=S ⟨g,o,R⟩->0<(X.linesOf k).length->w.heap.size<=g)/\Below w.heap.size w w':=by
 have HH:=xB k w h
 by_cases hin:0<=k/\k<(X.C.length:Int)
 ·obtain⟨n,rfl⟩:=Int.eq_ofNat_of_zero_le hin.1
  have hl:n<X.C.length:=by omega
  have e:X.linesOf (n:Int)=(X.C.getD n Pg.Cr.new).L:=by unfold Pg.Spc.linesOf;rw[if_pos hin.1,kC]
  rw[e];rw[show(decide (0<=(n:Int))&&decide ((n:Int)<(X.C.length:Int)))=kQ by simp[hl]]at HH;obtain⟨bt,bk,Ft,hC,_⟩:=h.core n hl;have HO:=yaD w hC.tb;have c2:=h.c2;have cr:=h.row n hl;have k0:=hC.c0
  have i0:(0:Int)<=(n:Int):=by omega
  have i1:(n:Int)<(X.C.length:Int):=by omega
  generalize (X.C.getD n Pg.Cr.new).L=L at*;clear h hC hin e
  go_enter Tryz.func71,Tryz.ntmps71
  go_wp2_with fail
  refine HH.mono ?_;rintro e w1 ⟨rfl,hw⟩;subst w1
  go_wp2_with fail
  refine HO.mono ?_;rintro e w1 ⟨ad,cap,rfl,hA,hb,hnw⟩;have HF:N (xC w1 ad L/\Below w.heap.size w w1/\∀g o,ad=S ⟨g,o,R⟩->w.heap.size<=g):=⟨hA,hb,fun g o e=>hnw g (by rw[e];rfl)⟩;clear hA hb HO hnw
  go_wp2_with fail
  go_ret
  exact⟨ad,cap,rfl,HF.out.1,fun g o e _=>HF.out.2.2 g o e,HF.out.2.1⟩
 ·have e:X.linesOf k=[]:=by
   unfold Pg.Spc.linesOf;split
   ·have:X.C.length<=k.toNat:=by omega
    simp[List.getD,this,Pg.Cr.new]
   ·rfl
  rw[e];rw[show(decide (0<=k)&&decide (k<(X.C.length:Int)))=kY by simp;omega]at HH;clear h hin e
  go_enter Tryz.func71,Tryz.ntmps71
  go_wp2_with fail
  refine HH.mono ?_;rintro e w1 ⟨rfl,hw⟩;subst w1
  go_wp2_with fail
  go_ret
  exact⟨R,0,rfl,(fun j hj=>by simp at hj),(fun g o e _=>by cases e),zR w⟩
section
variable {W:Bs} {w w':Q} {b v:Nat} {d:Pg.Dk} {bs cs:List UInt8} {F Fw:Nat->Prop}
theorem ybN (kk:Int) (hG:xZ W) (h:Tw W w b v d bs F Fw) (hf:∀l ∈ d.X.linesOf kk,l.m.Fits) (hm:(d.X.linesOf kk).length<=5000) (hl:bs.length<=50000000000000):
 kZ y 42 #[Y (S ⟨b,0,R⟩),I P kk] w fun e w'=>e=H (kK #[])/\∃F',Tw W w' b v d (bs++Pg.yhJ (d.X.linesOf kk)++Pg.tell [101,110,100] []) F' Fw:=by
 obtain⟨sp,Fs,cs',D0,hd,_⟩:=h.wt.space;have HL:=ydb kk w hd;have c0:=h.c0;have T0:N (Tw W w b v d bs F Fw):=h;have HG:N (xZ W):=hG;generalize d.X.linesOf kk=L at*;clear hd h hG
 go_enter Tryz.func42,Tryz.ntmps42
 go_wp2_with fail
 refine HL.mono ?_;rintro e w1 ⟨adm,cpm,rfl,hm1,hnew,hb1⟩
 have T1:N (Tw W w1 b v d (bs++Pg.yhJ (L.take 0)) F Fw):=by rw[N,kH];simpa[Pg.yhJ]using T0.out.grow hb1
 have HM:N (xC w1 adm L):=hm1
 have hnF:∀g o,adm=S ⟨g,o,R⟩->0<L.length->¬F g:=fun g o hg h0 hf=>by have:=T0.out.tl.tl.lt hf;have:=hnew g o hg h0;omega
 have HB1:N (But F w1 w1):=But.refl _ _;have HF1:N (∀k,F k->F k\/w1.heap.size<=k):=fun k hk=> .inl hk;clear hm1 hnew hb1 HL T0 c0 cs'
 go_wp2_with fail
 go_loopw [16] (fun i wr=>∃(k:Nat) (F1:Nat->Prop),k<=L.length/\i=I P k/\N (Tw W wr b v d (bs++Pg.yhJ (L.take k)) F1 Fw)/\N (But F w1 wr)/\N (∀x,F1 x->F x\/w1.heap.size<=x)) (fun i _=>L.length-(intOf i).toNat)
 case atStart=>exact⟨0,F,kJ _,rfl,T1,HB1,HF1⟩
 case round=>
  obtain⟨k,F2,hk,rfl,T,HB,HF⟩:=hrel;clear T1 HB1 HF1;have hlb:(Pg.yhJ (L.take k)).length<=130*(L.take k).length:=Pg.yjj _ fun n hn=>hf n (kV hn);rw[kM,kA hk]at hlb
  have hl2:(bs++Pg.yhJ (L.take k)).length<=60000000000000:=by
   simp only[kI];omega
  by_cases hlt:k<L.length
  ·have i0:(0:Int)<=(k:Int):=by omega
   have i1:(k:Int)<(L.length:Int):=by omega
   obtain⟨g,go,rfl,hg,c0,c1,c2,c3,c4⟩:=HM.out k hlt;have hgF:=hnF g go rfl (by omega);have hx:(L.getD k .zz).m.Fits:=hf _ (by rw[List.getD,M hlt];exact kX hlt)
   have HTK:N (Pg.yhJ (L.take (k+1))=Pg.yhJ (L.take k)++Pg.ykQ (L.getD k .zz)):=by
    rw[N,kO,M hlt,Pg.yi9];simp[Pg.yhJ,List.getD,hlt]
   generalize L.getD k .zz=x at*;obtain⟨⟨mp,ms,mf,mr⟩,md⟩:=x;simp only at c0 c1 c2 c3 c4 hx;have cc:∀p v,w1.cell? ⟨g,p,R⟩=S v->wr.cell? ⟨g,p,R⟩=S v:=fun p v hv=>(HB.out.cell (a:=⟨g,p,R⟩) hg hgF).trans hv;have c0:=cc _ _ c0;have c1:=cc _ _ c1;have c2:=cc _ _ c2;have c3:=cc _ _ c3;have c4:=cc _ _ c4;obtain⟨W3,hW3⟩:∃W3,W3=wr.alloc (V #[I P mp,I P ms,I P mf,I P mr,kP md] 159):=⟨_,rfl⟩
   have hb3:Below wr.heap.size wr W3:=by rw[hW3];exact zA (zR wr) _
   obtain⟨⟨e0,e1,e2,e3,e4⟩,_⟩:=ygs (show W3.heap[wr.heap.size]?=S (V #[I P mp,I P ms,I P mf,I P mr,kP md] 159 (0,0)) by rw[hW3];exact U _ _);have T3:N (Tw W W3 b v d (bs++Pg.yhJ (L.take k)) F2 Fw):=T.out.grow hb3;have HV:=fun wx (hbx:Below W3.heap.size W3 wx) gm cap (hmi:zl wx (S ⟨gm,0,R⟩) [if md=kQ then 1 else 0])=>jT ⟨#[108,105,110,101]⟩ mp ms mf mr hx.1 hx.2.1 hx.2.2.1 hx.2.2.2 gm cap [if md=kQ then 1 else 0] (by simp) (by simp) hmi (by simp[Pg.ykb]) (by decide) HG.out (T3.out.grow hbx).tl (by omega)
   go_upto_region 3 with fail
   rw[<-hW3];have HAF:N (∀w5,Below W3.heap.size W3 w5->∀cs w',zd w5 b (Y (S ⟨v,0,R⟩)) F2 cs w'->zd wr b (Y (S ⟨v,0,R⟩)) F2 cs w'):=fun w5 hb5 cs w' h=>zd.after (zT hb3 hb5) h
   have NX:N (¬F2 wr.heap.size):=fun e=>by have:=T.out.tl.tl.lt e;omega
   clear hW3 c0 c1 c2 c3 c4 cc hb3 hx hlb hl2;generalize wr.heap.size=gx at*;have HBt:=fun w=>ydG md w;unfold Pg.ykQ at HTK;simp only at HTK;generalize (if md=kQ then(1:Int)else 0)=bt at*;have hb5:Below W3.heap.size W3 (W3.alloc (V #[I P bt] 3)).drew:=zT (zA (zR W3) _) (zR _).drew;have HV:=HV _ hb5 W3.heap.size 1 ((xV (ns:=[bt]) (U W3 _)).below (zR _).drew)
   have EA:N (∀w' cs,zd (W3.alloc (V #[I P bt] 3)).drew b (Y (S ⟨v,0,R⟩)) F2 cs w'->w'.cell? ⟨gx,0,R⟩=S (I P mp)/\w'.cell? ⟨gx,1,R⟩=S (I P ms)/\w'.cell? ⟨gx,2,R⟩=S (I P mf)/\w'.cell? ⟨gx,3,R⟩=S (I P mr)/\w'.cell? ⟨gx,4,R⟩=S (kP md)):=fun w' cs hd=>by
    obtain⟨_,_,hbd,_⟩:=hd;have hlx:gx<W3.heap.size:=O _ _ e0;have hc:∀p,w'.cell? ⟨gx,p,R⟩=W3.cell? ⟨gx,p,R⟩:=fun p=>(hbd.cell (a:=⟨gx,p,R⟩) (kS hlx hb5.size) NX.out).trans (hb5.cell (p:=⟨gx,p,R⟩) hlx);exact⟨(hc _).trans e0,(hc _).trans e1,(hc _).trans e2,(hc _).trans e3,(hc _).trans e4⟩
   have HAF:N (∀cs w',zd (W3.alloc (V #[I P bt] 3)).drew b (Y (S ⟨v,0,R⟩)) F2 cs w'->zd wr b (Y (S ⟨v,0,R⟩)) F2 cs w'):=HAF.out _ hb5;clear hb5
   go_region_held3 (fun w'=>w'.cell? ⟨gx,0,R⟩=S (I P mp)/\w'.cell? ⟨gx,1,R⟩=S (I P ms)/\w'.cell? ⟨gx,2,R⟩=S (I P mf)/\w'.cell? ⟨gx,3,R⟩=S (I P mr)/\w'.cell? ⟨gx,4,R⟩=S (kP md)) (go_keep) (first
    | (go_at_call 69;refine HV.mono ?_;rintro e w4 ⟨rfl,hd⟩;have D4:N _:=hd;obtain⟨q0,q1,q2,q3,q4⟩:=EA.out _ _ hd;clear hd)
    | (go_at_call 70;refine(HBt _).mono ?_;rintro e wb ⟨rfl,rfl⟩))
   all_goals
    obtain⟨F5,t5,hb5,hF5⟩:=T.out.told' (HAF.out _ _ D4.out)
    have T5:N (Tw W w4 b v d (bs++Pg.yhJ (L.take (k+1))) F5 Fw):=by
     rw[N,HTK.out]
     simpa using t5
    have HB5:N (But F w1 w4):=HB.out.trans hb5 fun i hi e=>(HF.out i e).elim id fun e=>by omega
    have HF5:N (∀x,F5 x->F x\/w1.heap.size<=x):=fun x hx=>(hF5 x hx).elim (HF.out x) fun e=> .inr (kB HB.out.size e);clear t5 hb5 hF5 HV T T3 HTK HB HF HAF e0 e1 e2 e3 e4 q0 q1 q2 q3 q4 EA D4 NX HBt
    go_wp2_with fail
    exact⟨⟨k+1,F5,by omega,by go_num,T5,HB5,HF5⟩,by simp[intOf];omega⟩
  ·have i1:¬(k:Int)<(L.length:Int):=by omega
   have hk:k=L.length:=by omega
   have HE:N (L.take k=L):=by rw[N,hk,kE]
   have HT:=zZ ⟨#[101,110,100]⟩ R 0 [] HG.out T.out.tl (qj wr) (fun _ e=>by cases e) (fun _ e=>by cases e) (by show _+3+_+1<=_;simp only[kT];omega);clear hlb hl2
   go_wp2_with fail
   refine HT.mono ?_;rintro e w4 ⟨rfl,hd⟩;have D4:N _:=hd;clear hd HT
   go_wp2_with fail
   go_end0
   obtain⟨F5,t5,_⟩:=T.out.told' D4.out;rw[HE.out]at t5;exact⟨rfl,F5,t5⟩
end
theorem yfJ {w:Q} {r:Nat} {t:TypeId} {c0 c1:kD} (h:w.heap[r]?=S (V #[c0,c1] t (0,0))) (x0 x1:kD):
 ((w.setCell ⟨r,0,R⟩ x0).setCell ⟨r,1,R⟩ x1).heap[r]?=S (V #[x0,x1] t (0,0)):=
 heap_setCell_same _ r 1 _ t x1 (heap_setCell_same _ r 0 _ t x0 h)
theorem yf6 {w:Q} {r k:Nat} (h:k≠r) (x0 x1:kD):((w.setCell ⟨r,0,R⟩ x0).setCell ⟨r,1,R⟩ x1).heap[k]?=w.heap[k]?:=by
 simp only[heap_setCell_other _ _ _ _ (show k≠(⟨r,_,R⟩:Addr).block from h)]
theorem xS (w:Q) (A B:Obj):((w.alloc A).alloc B).heap[w.heap.size]?=S A/\((w.alloc A).alloc B).heap[w.heap.size+1]?=S B/\Below w.heap.size w ((w.alloc A).alloc B):=
 ⟨(Below.heap_alloc _ _ _ (by simp)).trans (U w A),(by simp:(w.alloc A).heap.size=w.heap.size+1)▸U (w.alloc A) B,zA (zA (zR w) _) _⟩
theorem yeb {w w0:Q} (A:Obj) (h:w.heap.size=w0.heap.size):(w.alloc A).heap[w0.heap.size]?=S A:=h▸U w A
theorem Tw.keep {W:Bs} {w w':Q} {b v:Nat} {d:Pg.Dk} {bs:List UInt8} {F Fw G:Nat->Prop} (h:Tw W w b v d bs F Fw) (hb:But G w w') (hG:∀k,G k->W.G k\/W.w.heap.size<=k) (h1:∀k,F k->¬G k) (h2:∀k,Fw k->¬G k):Tw W w' b v d bs F Fw:=
 ⟨⟨h.tl.tl.keep hb h1,h.tl.bel.ylR hb hG,h.tl.hi⟩,h.wt.keep hb h2,h.ap,h.hw⟩
structure StD (W:Bs) (W1 w' w2:Q) (b v:Nat) (d:Pg.Dk) (bs:List UInt8) (F Fw:Nat->Prop):Prop where
 tw:Tw W w2 b v d bs F Fw
 le:W1.heap.size<=w'.heap.size
 le':w'.heap.size<=w2.heap.size
 lo:W.w.heap.size<=W1.heap.size
 row:∀k,W1.heap.size<=k->k<w'.heap.size->w2.heap[k]?=w'.heap[k]?
 own:∀k,Fw k->k<W1.heap.size\/w'.heap.size<=k
 ownF:∀k,F k->k<W1.heap.size
theorem StD.keep {W:Bs} {W1 w' w2 w3:Q} {b v:Nat} {d:Pg.Dk} {bs:List UInt8} {F Fw G:Nat->Prop} (h:StD W W1 w' w2 b v d bs F Fw) (hb:But G w2 w3) (hG:∀k,G k->W1.heap.size<=k/\k<w'.heap.size):Tw W w3 b v d bs F Fw:=
 h.tw.keep hb (fun k hk=> .inr (kB h.lo (hG k hk).1)) (fun k hF hk=>by have:=h.ownF k hF;have:=hG k hk;omega) (fun k hF hk=>by have:=h.own k hF;have:=hG k hk;omega)
abbrev evC (e:Pg.Ev):Obj:=V #[I P e.c,kP e.ended,I P e.a,I P e.f,I P e.r,kP e.back] 73 (0,0)
abbrev ev0:Obj:=V #[I P 0,kP kY,I P 0,I P 0,I P 0,kP kY] 73 (0,0)
abbrev fl0:Obj:=V #[I P 0,I P 0] 33 (0,0)
structure StE (W:Bs) (wc:Q) (b v:Nat) (d:Pg.Dk) (bs:List UInt8) (F Fw:Nat->Prop) (e:Pg.Ev) (be bf:Nat):Prop where
 tw:Tw W wc b v d bs F Fw
 ev:wc.heap[be]?=S (evC e)
 fl:wc.heap[bf]?=S fl0
 out:∀k,F k->k<be/\k<bf
section
variable {W:Bs} {W1 w' w2:Q} {b v:Nat} {d:Pg.Dk} {bs:List UInt8} {F Fw:Nat->Prop} {e:Pg.Ev}
theorem ygt (h:StD W W1 w' w2 b v d bs F Fw):StE W ((w2.alloc (evC e)).alloc fl0) b v d bs F Fw e w2.heap.size (w2.heap.size+1):=
 have ⟨h1,h2,h3⟩:=xS w2 (evC e) fl0
 ⟨h.tw.grow h3,h1,h2,fun k hk=>by have:=h.ownF k hk;have:=h.le;have:=h.le';omega⟩
theorem ygu (h:StD W W1 w' w2 b v d bs F Fw):StE W ((w2.alloc fl0).alloc (evC e)) b v d bs F Fw e (w2.heap.size+1) w2.heap.size:=
 have ⟨h1,h2,h3⟩:=xS w2 fl0 (evC e)
 ⟨h.tw.grow h3,h2,h1,fun k hk=>by have:=h.ownF k hk;have:=h.le;have:=h.le';omega⟩
abbrev ybU (w:Q) (r:Nat) (e:Pg.Ev):Q:=(((((w.setCell ⟨r,0,R⟩ (I P e.c)).setCell ⟨r,1,R⟩ (kP e.ended)).setCell ⟨r,2,R⟩ (I P e.a)).setCell ⟨r,3,R⟩ (I P e.f)).setCell ⟨r,4,R⟩ (I P e.r)).setCell ⟨r,5,R⟩ (kP e.back)
abbrev ydB (w:Q) (r:Nat):Q:=(w.setCell ⟨r,0,R⟩ (I P 0)).setCell ⟨r,1,R⟩ (I P 0)
theorem ybz (w:Q) (r:Nat):(ybU w r e).heap.size=w.heap.size:=by simp[ybU]
theorem yby (w:Q) (r:Nat):(ydB w r).heap.size=w.heap.size:=by simp[ydB]
theorem ye8 (w:Q) (r:Nat):But (fun k=>k=r) w (ybU w r e):=ycx (F:=fun k=>k=r) (But.refl _ _) r (.inr rfl) _ _ _ _ _ _
theorem ye7 (w:Q) (r:Nat):But (fun k=>k=r) w (ydB w r):=((But.refl (fun k=>k=r) _).setCell (a:=⟨r,0,R⟩) (.inr rfl) _).setCell (a:=⟨r,1,R⟩) (.inr rfl) _
theorem ygv (h:StD W W1 w' w2 b v d bs F Fw) (hr:w'.heap[W1.heap.size]?=S ev0):StE W ((ybU w2 W1.heap.size e).alloc fl0) b v d bs F Fw e W1.heap.size w2.heap.size:=by
 have hl:W1.heap.size<w'.heap.size:=(Z.1 hr).1;have h1:(ybU w2 W1.heap.size e).heap[W1.heap.size]?=S (evC e):=yfK ((h.row _ (q _) hl).trans hr) _ _ _ _ _ _;exact⟨(h.keep (ye8 w2 _) fun k hk=>by omega).grow (zA (zR _) _),(Below.heap_alloc _ _ _ (by rw[ybz];exact kS hl h.le')).trans h1,yeb _ (ybz _ _),fun k hk=>by have:=h.ownF k hk;have:=h.le;have:=h.le';omega⟩
theorem ygw (h:StD W W1 w' w2 b v d bs F Fw) (hr:w'.heap[W1.heap.size]?=S fl0):StE W ((ydB w2 W1.heap.size).alloc (evC e)) b v d bs F Fw e w2.heap.size W1.heap.size:=by
 have hl:W1.heap.size<w'.heap.size:=(Z.1 hr).1;have h1:(ydB w2 W1.heap.size).heap[W1.heap.size]?=S fl0:=yfJ ((h.row _ (q _) hl).trans hr) _ _;exact⟨(h.keep (ye7 w2 _) fun k hk=>by omega).grow (zA (zR _) _),yeb _ (yby _ _),(Below.heap_alloc _ _ _ (by rw[yby];exact kS hl h.le')).trans h1,fun k hk=>by have:=h.ownF k hk;have:=h.le;have:=h.le';omega⟩
theorem ygx (h:StD W W1 w' w2 b v d bs F Fw) (he:w'.heap[W1.heap.size]?=S ev0) (hf:w'.heap[W1.heap.size+1]?=S fl0):StE W (ydB (ybU w2 W1.heap.size e) (W1.heap.size+1)) b v d bs F Fw e W1.heap.size (W1.heap.size+1):=by
 have hl:W1.heap.size+1<w'.heap.size:=(Z.1 hf).1;have h1:(ybU w2 W1.heap.size e).heap[W1.heap.size]?=S (evC e):=yfK ((h.row _ (q _) (by omega)).trans he) _ _ _ _ _ _;have h2:(ybU w2 W1.heap.size e).heap[W1.heap.size+1]?=S fl0:=(yf7 (by omega) _ _ _ _ _ _).trans ((h.row _ (by omega) hl).trans hf)
 have hb:But (fun k=>k=W1.heap.size\/k=W1.heap.size+1) w2 (ydB (ybU w2 W1.heap.size e) (W1.heap.size+1)):=
  ((ycx (But.refl _ _) _ (.inr (.inl rfl)) _ _ _ _ _ _).setCell (a:=⟨_,0,R⟩) (.inr (.inr rfl)) _).setCell (a:=⟨_,1,R⟩) (.inr (.inr rfl)) _
 exact⟨h.keep hb fun k hk=>by omega,(yf6 (by omega) _ _).trans h1,yfJ h2 _ _,fun k hk=>by have:=h.ownF k hk;have:=h.le;have:=h.le';omega⟩
theorem ygy (h:StD W W1 w' w2 b v d bs F Fw) (hf:w'.heap[W1.heap.size]?=S fl0) (he:w'.heap[W1.heap.size+1]?=S ev0):StE W (ydB (ybU w2 (W1.heap.size+1) e) W1.heap.size) b v d bs F Fw e (W1.heap.size+1) W1.heap.size:=by
 have hl:W1.heap.size+1<w'.heap.size:=(Z.1 he).1;have h1:(ybU w2 (W1.heap.size+1) e).heap[W1.heap.size+1]?=S (evC e):=yfK ((h.row _ (by omega) hl).trans he) _ _ _ _ _ _;have h2:(ybU w2 (W1.heap.size+1) e).heap[W1.heap.size]?=S fl0:=(yf7 (by omega) _ _ _ _ _ _).trans ((h.row _ (q _) (by omega)).trans hf)
 have hb:But (fun k=>k=W1.heap.size\/k=W1.heap.size+1) w2 (ydB (ybU w2 (W1.heap.size+1) e) W1.heap.size):=
  ((ycx (But.refl _ _) _ (.inr (.inr rfl)) _ _ _ _ _ _).setCell (a:=⟨_,0,R⟩) (.inr (.inl rfl)) _).setCell (a:=⟨_,1,R⟩) (.inr (.inl rfl)) _
 exact⟨h.keep hb fun k hk=>by omega,(yf6 (by omega) _ _).trans h1,yfJ h2 _ _,fun k hk=>by have:=h.ownF k hk;have:=h.le;have:=h.le';omega⟩
theorem ygF (h:N (StD W W1 w' w2 b v d bs F Fw)):N (StE W ((w2.alloc (evC e)).alloc fl0) b v d bs F Fw e w2.heap.size (w2.heap.size+1)):=ygt h.out
theorem ygG (h:N (StD W W1 w' w2 b v d bs F Fw)):N (StE W ((w2.alloc fl0).alloc (evC e)) b v d bs F Fw e (w2.heap.size+1) w2.heap.size):=ygu h.out
theorem ygH (h:N (StD W W1 w' w2 b v d bs F Fw)) (hr:w'.heap[W1.heap.size]?=S ev0):N (StE W ((ybU w2 W1.heap.size e).alloc fl0) b v d bs F Fw e W1.heap.size w2.heap.size):=ygv h.out hr
theorem ygI (h:N (StD W W1 w' w2 b v d bs F Fw)) (hr:w'.heap[W1.heap.size]?=S fl0):N (StE W ((ydB w2 W1.heap.size).alloc (evC e)) b v d bs F Fw e w2.heap.size W1.heap.size):=ygw h.out hr
theorem ygJ (h:N (StD W W1 w' w2 b v d bs F Fw)) (he:w'.heap[W1.heap.size]?=S ev0) (hf:w'.heap[W1.heap.size+1]?=S fl0):N (StE W (ydB (ybU w2 W1.heap.size e) (W1.heap.size+1)) b v d bs F Fw e W1.heap.size (W1.heap.size+1)):=ygx h.out he hf
theorem ygK (h:N (StD W W1 w' w2 b v d bs F Fw)) (hf:w'.heap[W1.heap.size]?=S fl0) (he:w'.heap[W1.heap.size+1]?=S ev0):N (StE W (ydB (ybU w2 (W1.heap.size+1) e) W1.heap.size) b v d bs F Fw e (W1.heap.size+1) W1.heap.size):=ygy h.out hf he
theorem yfT {w:Q} {g:Nat} {e:Pg.Ev} (h:w.heap[g]?=S (evC e)):jd w (S ⟨g,0,R⟩) [e]:=fun j hj=>by
 obtain rfl:j=0:=by simpa using hj
 refine⟨g,rfl,(Z.1 h).1,?_⟩;unfold evC at h;simp[yfR,kF,h,List.getD]
end
end Go.Proofs.YtdphiompijbelaaGreatDoor
