import Derived.Test.YtdphiompijbelaaGreatDoorDkO
set_option linter.all false
set_option maxRecDepth 100000
open Bool renaming false->kJ,true->kS
open List renaming length_append->U,length_cons->O,getD_cons_zero->H,getD_cons_succ->y,take_succ_cons->kB,drop_succ_cons->kP,length_nil->kR,getElem?_eq_none->kN,take_zero->kT,drop_zero->kF,append_assoc->kQ,mem_cons->kO
open Go.Obj renaming cells->Z
open Go.Ending renaming returned->Q
open Nat renaming le_trans->V,zero_le->kY,le_of_not_lt->kZ,le_refl->kK
open Go.Proofs.Tryz renaming prog->T
open Go renaming heap_alloc_new->Y,Calls->f,cell_regrown->kC,World->kV
open Go.IntKind renaming i64->N
open Go.RowKit renaming Hid->P
open Go.Value renaming pointer->B,int->R,slice->z,bool->kI,tuple->kU
open Option renaming some->I,none->J
set_option maxHeartbeats 4000000
namespace Go.Proofs.YtdphiompijbelaaGreatDoor
open Go.RowKit Go.Sort
section
attribute [local go_sem] Loose.gent
section
variable {W:Bs} {w w':kV} {b v:Nat} {d:Pg.Dk} {bs cs:List UInt8} {F Fw:Nat->Prop}
theorem ybD (wd:List UInt8) {a a2:Int} (ha:Pg.fits a) (ha2:Pg.fits a2):∀x,Pg.yhU wd [a,a2]=I x->xi x:=by
 intro x hx
 have f0:Pg.fits 0:=by unfold Pg.fits;omega
 simp only[Pg.yhU]at hx
 repeat' (split at hx)
 all_goals first
  | (cases hx;done)
  | (injection hx with hx;subst hx;exact⟨by assumption,by assumption,by assumption,by assumption,by assumption,by assumption⟩)
theorem ygh (wd:ByteArray) (a a2:Int) (ad:Option Addr) (cap:Nat) (hn:zl w ad [a,a2]) (ha:Pg.fits a) (ha2:Pg.fits a2) (hok:d.Ok) (hG:xZ W) (h:Tw W w b v d bs F Fw) (hl:bs.length<=50000000000000):
 f T 19 #[B (I ⟨b,0,J⟩),.string wd,z ad 2 cap] w fun e w'=>e=Q (kI (Pg.askD (I d) wd.toList [a,a2]).2.2)/\Tn W w' b (Pg.askD (I d) wd.toList [a,a2]).1 (bs++(Pg.askD (I d) wd.toList [a,a2]).2.1):=by
 obtain⟨W1,hW1⟩:∃W1,W1=w.alloc (Z #[.string wd,R N 2] 110):=⟨_,rfl⟩
 have hb1:Below w.heap.size w W1:=by rw[hW1];exact zA (zR w) _
 obtain⟨⟨f0,f1⟩,_⟩:=zP (show W1.heap[w.heap.size]?=I (Z #[.string wd,R N 2] 110 (0,0)) by rw[hW1];exact Y _ _);have T1:P (Tw W W1 b v d bs F Fw):=h.grow hb1;have c0:=T1.out.c0;have hn1:=hn.below hb1;obtain⟨g,rfl,hg,k0⟩:=hn1 0 (by simp);obtain⟨_,e,_,k1⟩:=hn1 1 (by simp);cases e;simp only[H,y]at k0 k1;have HO:P (∀w3,Below W1.heap.size W1 w3->f T 40 #[B (I ⟨b,0,J⟩),R N a,R N a2] w3 fun e w'=>e=Q (kU #[])/\Tn W w' b (Pg.yjS a a2) (bs++Pg.yjT a a2)):=fun w3 hb=>jU a a2 hG (T1.out.grow hb).tl hl;have r0:=kC k0;have r1:=kC k1;have HN:=yfc wd a a2 _ cap W1 hn1;have HG:P _:=hG;have HTI:P (0<=d.ti/\d.ti<4611686018427387904):=⟨hok.ti.1,by have:=hok.ti.2;omega⟩;have HEV:P (∀x,xi x->(d.X.goE x).Fits):=hok.ev;have HLL:P _:=hl;have HXF:P (∀x,Pg.yhU wd.toList [a,a2]=I x->xi x):=ybD wd.toList ha ha2;clear hb1 h hG hok hn hn1 hl ha ha2
 cases HSN:Pg.yhU wd.toList [a,a2]with
 | none=>
   rw[HSN]at HN;simp only[Option.getD_none,Option.isSome_none,Pg.sx0,Pg.Sx.val]at HN
   go_enter Tryz.func19,Tryz.ntmps19
   go_upto_region 2 with fail
   rw[<-hW1];clear hW1;generalize w.heap.size=gx at*
   go_wp2_with fail
   all_goals first
   | (refine Loose.yhn 7 (by kernel_rfl) (by kernel_rfl) ?_
      simp only[kB,kT,kP,kF];have HA:P (Pg.askD (I d) wd.toList [a,a2]=(Pg.yjS a a2,Pg.yjT a a2,kS)):=(by simp[P,Pg.askD, *])
      repeat (
       refine Loose.zS (fun k hk=> ?_)
       go_simp
       (refine hk _ ?_;clear hk k))
      refine Loose.yho ?_;intro w3 hb3;have HO3:=HO.out _ hb3;clear hb3
      go_wp2_with fail
      refine HO3.mono ?_;rintro e w4 ⟨rfl,hT⟩;have HTT:P _:=hT;clear hT
      go_wp2_with fail
      go_ret
      rw[HA.out]
      exact⟨rfl,HTT.out⟩)
   | (go_at_call 45
      have HA:P (Pg.askD (I d) wd.toList [a,a2]=(I d,[],kJ)):=(by simp[P,Pg.askD,Pg.Dk.stp,HSN, *]);refine HN.mono ?_;rintro e w2 ⟨rfl,hb2⟩;have T2:P _:=T1.out.grow hb2;clear hb2
      go_wp2_with fail
      go_ret
      rw[HA.out]
      exact⟨rfl,v,F,Fw,by simpa using T2.out.grow (zA (zR _) _)⟩)
 | some x=>
   have hxf:=HXF.out x HSN;rw[HSN]at HN;simp only[Option.getD_some,Option.isSome_some]at HN
   go_enter Tryz.func19,Tryz.ntmps19
   go_upto_region 2 with fail
   rw[<-hW1];clear hW1;generalize w.heap.size=gx at*
   go_wp2_with fail
   all_goals first
   | (refine Loose.yhn 7 (by kernel_rfl) (by kernel_rfl) ?_
      simp only[kB,kT,kP,kF];have HA:P (Pg.askD (I d) wd.toList [a,a2]=(Pg.yjS a a2,Pg.yjT a a2,kS)):=(by simp[P,Pg.askD, *])
      repeat (
       refine Loose.zS (fun k hk=> ?_)
       go_simp
       (refine hk _ ?_;clear hk k))
      refine Loose.yho ?_;intro w3 hb3;have HO3:=HO.out _ hb3;clear hb3
      go_wp2_with fail
      refine HO3.mono ?_;rintro e w4 ⟨rfl,hT⟩;have HTT:P _:=hT;clear hT
      go_wp2_with fail
      go_ret
      rw[HA.out]
      exact⟨rfl,HTT.out⟩)
   | (go_at_call 45
      have HA:P (Pg.askD (I d) wd.toList [a,a2]=(I (d.next x),Pg.tEv (d.X.goE x),kS)):=(by simp[P,Pg.askD,Pg.Dk.stp,HSN, *]);refine HN.mono ?_;rintro e w2 ⟨rfl,hb2⟩;obtain⟨xk,xc,⟨mp,ms,mf,mr⟩,xq,xa,xu⟩:=x;obtain⟨W3,hW3⟩:∃W3,W3=w2.alloc (Z #[R N xk,R N xc,R N mp,R N ms,R N mf,R N mr,R N xq,R N xa,kI xu] 80):=⟨_,rfl⟩;have hb3:Below w2.heap.size w2 W3:=(by rw[hW3];exact zA (zR _) _);have hx3:W3.heap[w2.heap.size]?=I (Z #[R N xk,R N xc,R N mp,R N ms,R N mf,R N mr,R N xq,R N xa,kI xu] 80 (0,0)):=(by rw[hW3];exact Y _ _);obtain⟨z0,z1,z2,z3,z4,z5,z6,z7,z8⟩:=yfH hx3;have T3:P _:=T1.out.grow (zT hb2 hb3);have HS:=qN ⟨xk,xc,⟨mp,ms,mf,mr⟩,xq,xa,xu⟩ hxf HG.out T3.out HTI.out (HEV.out _ hxf) HLL.out;simp only[Pg.Sx.val]at HS ⊢;clear hb2 hb3 hx3
      go_upto_region 9 with fail
      rw[<-hW3];clear hW3
      go_wp2_with fail
      refine HS.mono ?_;rintro e w4 ⟨rfl,hT⟩;have HTT:P _:=hT;clear hT HS
      go_wp2_with fail
      go_ret
      rw[HA.out];obtain⟨F5,Fw5,t5⟩:=HTT.out
      exact⟨rfl,v,F5,Fw5,t5⟩)
end
section
variable {W:Bs} {w w':kV} {b v:Nat} {d:Pg.Dk} {bs cs:List UInt8} {F Fw:Nat->Prop}
theorem ybE (wd:List UInt8) {a a2 a3 a4:Int} (ha:Pg.fits a) (ha2:Pg.fits a2) (ha3:Pg.fits a3) (ha4:Pg.fits a4):∀x,Pg.yhU wd [a,a2,a3,a4]=I x->xi x:=by
 intro x hx
 have f0:Pg.fits 0:=by unfold Pg.fits;omega
 simp only[Pg.yhU]at hx
 repeat' (split at hx)
 all_goals first
  | (cases hx;done)
  | (injection hx with hx;subst hx;exact⟨by assumption,by assumption,by assumption,by assumption,by assumption,by assumption⟩)
theorem ygj (wd:ByteArray) (a a2 a3 a4:Int) (ad:Option Addr) (cap:Nat) (hn:zl w ad [a,a2,a3,a4]) (ha:Pg.fits a) (ha2:Pg.fits a2) (ha3:Pg.fits a3) (ha4:Pg.fits a4) (hok:d.Ok) (hG:xZ W) (h:Tw W w b v d bs F Fw) (hl:bs.length<=50000000000000):
 f T 19 #[B (I ⟨b,0,J⟩),.string wd,z ad 4 cap] w fun e w'=>e=Q (kI (Pg.askD (I d) wd.toList [a,a2,a3,a4]).2.2)/\Tn W w' b (Pg.askD (I d) wd.toList [a,a2,a3,a4]).1 (bs++(Pg.askD (I d) wd.toList [a,a2,a3,a4]).2.1):=by
 obtain⟨W1,hW1⟩:∃W1,W1=w.alloc (Z #[.string wd,R N 4] 110):=⟨_,rfl⟩
 have hb1:Below w.heap.size w W1:=by rw[hW1];exact zA (zR w) _
 obtain⟨⟨f0,f1⟩,_⟩:=zP (show W1.heap[w.heap.size]?=I (Z #[.string wd,R N 4] 110 (0,0)) by rw[hW1];exact Y _ _);have T1:P (Tw W W1 b v d bs F Fw):=h.grow hb1;have c0:=T1.out.c0;have hn1:=hn.below hb1;obtain⟨g,rfl,hg,k0⟩:=hn1 0 (by simp);obtain⟨_,e,_,k1⟩:=hn1 1 (by simp);cases e;obtain⟨_,e,_,k2⟩:=hn1 2 (by simp);cases e;obtain⟨_,e,_,k3⟩:=hn1 3 (by simp);cases e;simp only[H,y]at k0 k1 k2 k3;have HN:=yfd wd a a2 a3 a4 _ cap W1 hn1;have HG:P _:=hG;have HTI:P (0<=d.ti/\d.ti<4611686018427387904):=⟨hok.ti.1,by have:=hok.ti.2;omega⟩;have HEV:P (∀x,xi x->(d.X.goE x).Fits):=hok.ev;have HLL:P _:=hl;have HXF:P (∀x,Pg.yhU wd.toList [a,a2,a3,a4]=I x->xi x):=ybE wd.toList ha ha2 ha3 ha4;clear hb1 h hG hok hn hn1 hl ha ha2 ha3 ha4
 cases HSN:Pg.yhU wd.toList [a,a2,a3,a4]with
 | none=>
   rw[HSN]at HN;simp only[Option.getD_none,Option.isSome_none,Pg.sx0,Pg.Sx.val]at HN
   go_enter Tryz.func19,Tryz.ntmps19
   go_upto_region 2 with fail
   rw[<-hW1];clear hW1;generalize w.heap.size=gx at*
   go_wp2_with fail
   all_goals first
   | (go_at_call 45
      have HA:P (Pg.askD (I d) wd.toList [a,a2,a3,a4]=(I d,[],kJ)):=(by simp[P,Pg.askD,Pg.Dk.stp,HSN, *]);refine HN.mono ?_;rintro e w2 ⟨rfl,hb2⟩;have T2:P _:=T1.out.grow hb2;clear hb2
      go_wp2_with fail
      go_ret
      rw[HA.out]
      exact⟨rfl,v,F,Fw,by simpa using T2.out.grow (zA (zR _) _)⟩)
 | some x=>
   have hxf:=HXF.out x HSN;rw[HSN]at HN;simp only[Option.getD_some,Option.isSome_some]at HN
   go_enter Tryz.func19,Tryz.ntmps19
   go_upto_region 2 with fail
   rw[<-hW1];clear hW1;generalize w.heap.size=gx at*
   go_wp2_with fail
   all_goals first
   | (go_at_call 45
      have HA:P (Pg.askD (I d) wd.toList [a,a2,a3,a4]=(I (d.next x),Pg.tEv (d.X.goE x),kS)):=(by simp[P,Pg.askD,Pg.Dk.stp,HSN, *]);refine HN.mono ?_;rintro e w2 ⟨rfl,hb2⟩;obtain⟨xk,xc,⟨mp,ms,mf,mr⟩,xq,xa,xu⟩:=x;obtain⟨W3,hW3⟩:∃W3,W3=w2.alloc (Z #[R N xk,R N xc,R N mp,R N ms,R N mf,R N mr,R N xq,R N xa,kI xu] 80):=⟨_,rfl⟩;have hb3:Below w2.heap.size w2 W3:=(by rw[hW3];exact zA (zR _) _);have hx3:W3.heap[w2.heap.size]?=I (Z #[R N xk,R N xc,R N mp,R N ms,R N mf,R N mr,R N xq,R N xa,kI xu] 80 (0,0)):=(by rw[hW3];exact Y _ _);obtain⟨z0,z1,z2,z3,z4,z5,z6,z7,z8⟩:=yfH hx3;have T3:P _:=T1.out.grow (zT hb2 hb3);have HS:=qN ⟨xk,xc,⟨mp,ms,mf,mr⟩,xq,xa,xu⟩ hxf HG.out T3.out HTI.out (HEV.out _ hxf) HLL.out;simp only[Pg.Sx.val]at HS ⊢;clear hb2 hb3 hx3
      go_upto_region 9 with fail
      rw[<-hW3];clear hW3
      go_wp2_with fail
      refine HS.mono ?_;rintro e w4 ⟨rfl,hT⟩;have HTT:P _:=hT;clear hT HS
      go_wp2_with fail
      go_ret
      rw[HA.out];obtain⟨F5,Fw5,t5⟩:=HTT.out
      exact⟨rfl,v,F5,Fw5,t5⟩)
end
section
variable {W:Bs} {w w':kV} {b v:Nat} {p0:Value} {d:Pg.Dk} {bs cs:List UInt8} {F Fw:Nat->Prop}
theorem ygi (wd:ByteArray) (a a2 a3:Int) (ad:Option Addr) (cap:Nat) (hG:xZ W) (h:Tw W w b v d bs F Fw) (hl:bs.length<=50000000000000):
 f T 19 #[B (I ⟨b,0,J⟩),.string wd,z ad 3 cap] w fun e w'=>e=Q (kI (Pg.askD (I d) wd.toList [a,a2,a3]).2.2)/\Tn W w' b (Pg.askD (I d) wd.toList [a,a2,a3]).1 (bs++(Pg.askD (I d) wd.toList [a,a2,a3]).2.1):=by
 have HA:P (Pg.askD (I d) wd.toList [a,a2,a3]=(I d,[],kJ)):=(by simp[P,Pg.askD,Pg.Dk.stp,Pg.yhU]);obtain⟨W1,hW1⟩:∃W1,W1=w.alloc (Z #[.string wd,R N 3] 110):=⟨_,rfl⟩
 have hb1:Below w.heap.size w W1:=by rw[hW1];exact zA (zR w) _
 obtain⟨⟨f0,f1⟩,_⟩:=zP (show W1.heap[w.heap.size]?=I (Z #[.string wd,R N 3] 110 (0,0)) by rw[hW1];exact Y _ _);have T1:P (Tw W W1 b v d bs F Fw):=h.grow hb1;have c0:=T1.out.c0;have HN:=vF wd 3 ad cap W1 (by decide) (by decide) (by decide);simp only[Pg.sx0,Pg.Sx.val]at HN;clear hb1 h hG
 go_enter Tryz.func19,Tryz.ntmps19
 go_upto_region 2 with fail
 rw[<-hW1];clear hW1;generalize w.heap.size=gx at*
 go_wp2_with fail
 all_goals first
  | (go_at_call 45
     refine HN.mono ?_;rintro e w2 ⟨rfl,hb2⟩;have T2:P _:=T1.out.grow hb2;clear hb2
     go_wp2_with fail
     go_ret
     rw[HA.out]
     exact⟨rfl,v,F,Fw,by simpa using T2.out.grow (zA (zR _) _)⟩)
theorem ygk (wd:ByteArray) (a a2 a3 a4 a5:Int) (ad:Option Addr) (cap:Nat) (hG:xZ W) (h:Tw W w b v d bs F Fw) (hl:bs.length<=50000000000000):
 f T 19 #[B (I ⟨b,0,J⟩),.string wd,z ad 5 cap] w fun e w'=>e=Q (kI (Pg.askD (I d) wd.toList [a,a2,a3,a4,a5]).2.2)/\Tn W w' b (Pg.askD (I d) wd.toList [a,a2,a3,a4,a5]).1 (bs++(Pg.askD (I d) wd.toList [a,a2,a3,a4,a5]).2.1):=by
 have HA:P (Pg.askD (I d) wd.toList [a,a2,a3,a4,a5]=(I d,[],kJ)):=(by simp[P,Pg.askD,Pg.Dk.stp,Pg.yhU]);obtain⟨W1,hW1⟩:∃W1,W1=w.alloc (Z #[.string wd,R N 5] 110):=⟨_,rfl⟩
 have hb1:Below w.heap.size w W1:=by rw[hW1];exact zA (zR w) _
 obtain⟨⟨f0,f1⟩,_⟩:=zP (show W1.heap[w.heap.size]?=I (Z #[.string wd,R N 5] 110 (0,0)) by rw[hW1];exact Y _ _);have T1:P (Tw W W1 b v d bs F Fw):=h.grow hb1;have c0:=T1.out.c0;have HN:=vF wd 5 ad cap W1 (by decide) (by decide) (by decide);simp only[Pg.sx0,Pg.Sx.val]at HN;clear hb1 h hG
 go_enter Tryz.func19,Tryz.ntmps19
 go_upto_region 2 with fail
 rw[<-hW1];clear hW1;generalize w.heap.size=gx at*
 go_wp2_with fail
 all_goals first
  | (go_at_call 45
     refine HN.mono ?_;rintro e w2 ⟨rfl,hb2⟩;have T2:P _:=T1.out.grow hb2;clear hb2
     go_wp2_with fail
     go_ret
     rw[HA.out]
     exact⟨rfl,v,F,Fw,by simpa using T2.out.grow (zA (zR _) _)⟩)
end
theorem Tl0.c0 {W:Bs} {w:kV} {b:Nat} {p0:Value} {bs:List UInt8} {F:Nat->Prop} (h:Tl0 W w b p0 bs F):w.cell? ⟨b,0,J⟩=I p0:=by
 obtain⟨p,x,hb,_⟩:=h.tl;simp[World.cell?,hb]
section
variable {W:Bs} {w w':kV} {b v:Nat} {p0:Value} {d:Pg.Dk} {bs cs:List UInt8} {F Fw:Nat->Prop}
theorem yfV (wd:ByteArray) (ad:Option Addr) (cap:Nat) (h:Tl0 W w b (B J) bs F):
 f T 19 #[B (I ⟨b,0,J⟩),.string wd,z ad 0 cap] w fun e w'=>e=Q (kI (Pg.askD J wd.toList []).2.2)/\Tn W w' b (Pg.askD J wd.toList []).1 (bs++(Pg.askD J wd.toList []).2.1):=by
 have HA:P (Pg.askD J wd.toList []=(J,[],kJ)):=(by simp[P,Pg.askD]);obtain⟨W1,hW1⟩:∃W1,W1=w.alloc (Z #[.string wd,R N 0] 110):=⟨_,rfl⟩
 have hb1:Below w.heap.size w W1:=by rw[hW1];exact zA (zR w) _
 obtain⟨⟨f0,f1⟩,_⟩:=zP (show W1.heap[w.heap.size]?=I (Z #[.string wd,R N 0] 110 (0,0)) by rw[hW1];exact Y _ _);have T1:P (Tl0 W W1 b (B J) bs F):=h.grow hb1;have c0:=T1.out.c0;clear hb1 h
 go_enter Tryz.func19,Tryz.ntmps19
 go_upto_region 2 with fail
 rw[<-hW1];clear hW1;generalize w.heap.size=gx at*
 go_wp2_with fail
 go_ret
 rw[HA.out];exact⟨rfl,F,by simpa using T1.out⟩
theorem yfW (wd:ByteArray) (a:Int) (ad:Option Addr) (cap:Nat) (h:Tl0 W w b (B J) bs F):
 f T 19 #[B (I ⟨b,0,J⟩),.string wd,z ad 1 cap] w fun e w'=>e=Q (kI (Pg.askD J wd.toList [a]).2.2)/\Tn W w' b (Pg.askD J wd.toList [a]).1 (bs++(Pg.askD J wd.toList [a]).2.1):=by
 have HA:P (Pg.askD J wd.toList [a]=(J,[],kJ)):=(by simp[P,Pg.askD]);obtain⟨W1,hW1⟩:∃W1,W1=w.alloc (Z #[.string wd,R N 1] 110):=⟨_,rfl⟩
 have hb1:Below w.heap.size w W1:=by rw[hW1];exact zA (zR w) _
 obtain⟨⟨f0,f1⟩,_⟩:=zP (show W1.heap[w.heap.size]?=I (Z #[.string wd,R N 1] 110 (0,0)) by rw[hW1];exact Y _ _);have T1:P (Tl0 W W1 b (B J) bs F):=h.grow hb1;have c0:=T1.out.c0;clear hb1 h
 go_enter Tryz.func19,Tryz.ntmps19
 go_upto_region 2 with fail
 rw[<-hW1];clear hW1;generalize w.heap.size=gx at*
 go_wp2_with fail
 go_ret
 rw[HA.out];exact⟨rfl,F,by simpa using T1.out⟩
theorem yfY (wd:ByteArray) (a a2 a3:Int) (ad:Option Addr) (cap:Nat) (h:Tl0 W w b (B J) bs F):
 f T 19 #[B (I ⟨b,0,J⟩),.string wd,z ad 3 cap] w fun e w'=>e=Q (kI (Pg.askD J wd.toList [a,a2,a3]).2.2)/\Tn W w' b (Pg.askD J wd.toList [a,a2,a3]).1 (bs++(Pg.askD J wd.toList [a,a2,a3]).2.1):=by
 have HA:P (Pg.askD J wd.toList [a,a2,a3]=(J,[],kJ)):=(by simp[P,Pg.askD]);obtain⟨W1,hW1⟩:∃W1,W1=w.alloc (Z #[.string wd,R N 3] 110):=⟨_,rfl⟩
 have hb1:Below w.heap.size w W1:=by rw[hW1];exact zA (zR w) _
 obtain⟨⟨f0,f1⟩,_⟩:=zP (show W1.heap[w.heap.size]?=I (Z #[.string wd,R N 3] 110 (0,0)) by rw[hW1];exact Y _ _);have T1:P (Tl0 W W1 b (B J) bs F):=h.grow hb1;have c0:=T1.out.c0;clear hb1 h
 go_enter Tryz.func19,Tryz.ntmps19
 go_upto_region 2 with fail
 rw[<-hW1];clear hW1;generalize w.heap.size=gx at*
 go_wp2_with fail
 go_ret
 rw[HA.out];exact⟨rfl,F,by simpa using T1.out⟩
theorem yfZ (wd:ByteArray) (a a2 a3 a4:Int) (ad:Option Addr) (cap:Nat) (h:Tl0 W w b (B J) bs F):
 f T 19 #[B (I ⟨b,0,J⟩),.string wd,z ad 4 cap] w fun e w'=>e=Q (kI (Pg.askD J wd.toList [a,a2,a3,a4]).2.2)/\Tn W w' b (Pg.askD J wd.toList [a,a2,a3,a4]).1 (bs++(Pg.askD J wd.toList [a,a2,a3,a4]).2.1):=by
 have HA:P (Pg.askD J wd.toList [a,a2,a3,a4]=(J,[],kJ)):=(by simp[P,Pg.askD]);obtain⟨W1,hW1⟩:∃W1,W1=w.alloc (Z #[.string wd,R N 4] 110):=⟨_,rfl⟩
 have hb1:Below w.heap.size w W1:=by rw[hW1];exact zA (zR w) _
 obtain⟨⟨f0,f1⟩,_⟩:=zP (show W1.heap[w.heap.size]?=I (Z #[.string wd,R N 4] 110 (0,0)) by rw[hW1];exact Y _ _);have T1:P (Tl0 W W1 b (B J) bs F):=h.grow hb1;have c0:=T1.out.c0;clear hb1 h
 go_enter Tryz.func19,Tryz.ntmps19
 go_upto_region 2 with fail
 rw[<-hW1];clear hW1;generalize w.heap.size=gx at*
 go_wp2_with fail
 go_ret
 rw[HA.out];exact⟨rfl,F,by simpa using T1.out⟩
theorem yf0 (wd:ByteArray) (a a2 a3 a4 a5:Int) (ad:Option Addr) (cap:Nat) (h:Tl0 W w b (B J) bs F):
 f T 19 #[B (I ⟨b,0,J⟩),.string wd,z ad 5 cap] w fun e w'=>e=Q (kI (Pg.askD J wd.toList [a,a2,a3,a4,a5]).2.2)/\Tn W w' b (Pg.askD J wd.toList [a,a2,a3,a4,a5]).1 (bs++(Pg.askD J wd.toList [a,a2,a3,a4,a5]).2.1):=by
 have HA:P (Pg.askD J wd.toList [a,a2,a3,a4,a5]=(J,[],kJ)):=(by simp[P,Pg.askD]);obtain⟨W1,hW1⟩:∃W1,W1=w.alloc (Z #[.string wd,R N 5] 110):=⟨_,rfl⟩
 have hb1:Below w.heap.size w W1:=by rw[hW1];exact zA (zR w) _
 obtain⟨⟨f0,f1⟩,_⟩:=zP (show W1.heap[w.heap.size]?=I (Z #[.string wd,R N 5] 110 (0,0)) by rw[hW1];exact Y _ _);have T1:P (Tl0 W W1 b (B J) bs F):=h.grow hb1;have c0:=T1.out.c0;clear hb1 h
 go_enter Tryz.func19,Tryz.ntmps19
 go_upto_region 2 with fail
 rw[<-hW1];clear hW1;generalize w.heap.size=gx at*
 go_wp2_with fail
 go_ret
 rw[HA.out];exact⟨rfl,F,by simpa using T1.out⟩
theorem yfX (wd:ByteArray) (a a2:Int) (ad:Option Addr) (cap:Nat) (hn:zl w ad [a,a2]) (hG:xZ W) (h:Tl0 W w b (B J) bs F) (hl:bs.length<=50000000000000):
 f T 19 #[B (I ⟨b,0,J⟩),.string wd,z ad 2 cap] w fun e w'=>e=Q (kI (Pg.askD J wd.toList [a,a2]).2.2)/\Tn W w' b (Pg.askD J wd.toList [a,a2]).1 (bs++(Pg.askD J wd.toList [a,a2]).2.1):=by
 obtain⟨W1,hW1⟩:∃W1,W1=w.alloc (Z #[.string wd,R N 2] 110):=⟨_,rfl⟩
 have hb1:Below w.heap.size w W1:=by rw[hW1];exact zA (zR w) _
 obtain⟨⟨f0,f1⟩,_⟩:=zP (show W1.heap[w.heap.size]?=I (Z #[.string wd,R N 2] 110 (0,0)) by rw[hW1];exact Y _ _);have T1:P (Tl0 W W1 b (B J) bs F):=h.grow hb1;have c0:=T1.out.c0;have hn1:=hn.below hb1;obtain⟨g,rfl,hg,k0⟩:=hn1 0 (by simp);obtain⟨_,e,_,k1⟩:=hn1 1 (by simp);cases e;simp only[H,y]at k0 k1;have HO:P (∀w3,Below W1.heap.size W1 w3->f T 40 #[B (I ⟨b,0,J⟩),R N a,R N a2] w3 fun e w'=>e=Q (kU #[])/\Tn W w' b (Pg.yjS a a2) (bs++Pg.yjT a a2)):=fun w3 hb=>jU a a2 hG (T1.out.grow hb) hl;have r0:=kC k0;have r1:=kC k1;clear hb1 h hG hn hn1 hl
 go_enter Tryz.func19,Tryz.ntmps19
 go_upto_region 2 with fail
 rw[<-hW1];clear hW1;generalize w.heap.size=gx at*
 go_wp2_with fail
 all_goals first
  | (refine Loose.yhn 7 (by kernel_rfl) (by kernel_rfl) ?_
     simp only[kB,kT,kP,kF];have HA:P (Pg.askD J wd.toList [a,a2]=(Pg.yjS a a2,Pg.yjT a a2,kS)):=(by simp[P,Pg.askD, *])
     repeat (
      refine Loose.zS (fun k hk=> ?_)
      go_simp
      (refine hk _ ?_;clear hk k))
     refine Loose.yho ?_;intro w3 hb3;have HO3:=HO.out _ hb3;clear hb3
     go_wp2_with fail
     refine HO3.mono ?_;rintro e w4 ⟨rfl,hT⟩;have HTT:P _:=hT;clear hT
     go_wp2_with fail
     go_ret
     rw[HA.out]
     exact⟨rfl,HTT.out⟩)
  | (have HA:P (Pg.askD J wd.toList [a,a2]=(J,[],kJ)):=(by simp[P,Pg.askD, *])
     go_ret
     rw[HA.out]
     exact⟨rfl,F,by simpa using T1.out⟩)
end
end
namespace Pg
theorem yhs:fits 0:=by unfold fits;omega
theorem fits_wrap (n:Int):fits (wrap64 n):=by
 unfold fits wrap64;omega
theorem check_bd (m:Mp):0<=m.code/\m.code<=3:=by
 unfold Mp.code check
 repeat' split
 all_goals omega
theorem access_bd (q k:Int):0<=zK q k/\zK q k<=2:=by
 unfold zK
 repeat' split
 all_goals omega
theorem ykG (L:List Mp) (p:Int):0<=yhN L p/\yhN L p<=5:=by
 unfold yhN
 repeat' split
 all_goals omega
section
variable {X:Spc} {L L0:List Mp} {S:Fs}
theorem fndC_bd (h:Rep S L) (p:Int):0<=xG S 0 p/\xG S 0 p<=1:=by
 cases hp:below p 4096
 ·have:xG S 0 p=1:=by simp[xG,hp]
  omega
 ·obtain⟨p0,p1⟩:=zB.1 hp
  obtain⟨q,rfl⟩:=Int.eq_ofNat_of_zero_le p0;have:=(yh8 h (q:=q) (by omega)).1;omega
theorem insC_bd (h:Rep S L) (m:Mp):0<=insC S 0 m/\insC S 0 m<=6:=by
 have h1:=check_bd m;have h2:=fndC_bd h m.p;unfold insC
 repeat' split
 all_goals omega
theorem yiO {n:Int} (h:0<=n/\n<=100):fits n:=by unfold fits;omega
theorem yls (h:Good L) {m:Mp} (hm:m ∈ L):m.Fits:=by
 obtain⟨_,_,h1,h2,h3,h4⟩:=yjf (h.ok m hm);exact⟨h1,h2,h3,h4⟩
theorem ykR:Mp.zz.Fits:=⟨yhs,yhs,yhs,yhs⟩
theorem ylr (h:Good L) (j:Nat):(L.getD j .zz).Fits:=by
 by_cases hj:j<L.length
 ·exact yls h (by rw[yiV hj];exact List.getElem_mem hj)
 ·rw[show L.getD j .zz= .zz from by simp[List.getD,kN (kZ hj)]]
  exact ykR
theorem ansF_fits (L:List Mp) (q k:Int) (u:Bool):fits (ansF L q k u):=by
 unfold ansF;split
 ·unfold yij
  split
  ·exact fits_wrap _
  ·exact yhs
 ·exact yhs
theorem ansR_fits (h:Good L) (q k:Int) (u:Bool):fits (ansR L q k u):=by
 unfold ansR;split
 ·rename_i j _
  unfold yhV;split
  ·exact(ylr h j).2.2.2
  ·exact yhs
 ·exact yhs
theorem yhE {c:Int} (h:0<=c/\c<=100):(Ev.code c).Fits:=⟨yiO h,yhs,yhs⟩
theorem ykc (h:Inv X L L0) (x:Sx):(X.goE x).Fits:=by
 by_cases he:(X.goE x).ended=kS
 ·obtain⟨e0,_,_,_,hx⟩:=yhT h x he
  have hg:=yhS h.bas.rep
  have hr:∀{M:List Mp} {q k:Int} {u:Bool},Good M->Right M q k u (X.goE x)->(X.goE x).Fits:=fun hM hR=>
   ⟨by rw[e0];exact yhs,by rw[hR.2.1];exact ansF_fits _ _ _ _,by rw[hR.2.2];exact ansR_fits hM _ _ _⟩
  rcases hx with ⟨_,_,_,hR|⟨hb,hR⟩⟩|⟨_,_,hR⟩
  ·exact hr hg hR
  ·exact hr (h.past hb) hR
  ·exact hr hg hR
 ·unfold Spc.goE at he ⊢
  split
  ·unfold Spc.chE
   split
   ·exact yhE (by decide)
   ·rename_i hb
    have hb:X.busy=kJ:=by simpa using hb
    have hR:=h.rep hb;split
    ·exact⟨yiO (n:=insC X.S 0 x.m) (by have:=insC_bd hR x.m;omega),yhs,yhs⟩
    ·split
     ·refine yhE ?_
      rw[(yhW hR _).1];have:=ykG L x.m.p;omega
     ·refine yhE ?_
      unfold prC;split
      ·decide
      ·rw[(yhW hR _).1]
       have:=ykG L x.m.p;omega
  ·rename_i hk
   rw[if_neg hk]at he;split
   ·exact yhE (by decide)
   ·rename_i hk2
    rw[if_neg hk2]at he;split
    ·exact yhE (by decide)
    ·rename_i hc
     rw[if_neg hc]at he;have hlt:=yiG hc;split
     ·rename_i h4
      rw[if_pos h4]at he;have he:¬((X.at' x.core).bgT x.q x.k x.u).ended=kS:=he;unfold Cr.bgT at he ⊢;have:=access_bd x.q x.k;split
      ·show(Ev.code (zK x.q x.k)).Fits
       exact yhE (by omega)
      ·split
       ·exact yhE (by decide)
       ·rename_i n1 n2
        rw[if_neg n1,if_neg n2]at he;split
        ·rename_i n3
         rw[if_pos n3]at he;exact absurd rfl he
        ·exact yhE (by decide)
     ·rename_i h4
      rw[if_neg h4]at he;split
      ·rename_i h5
       rw[if_pos h5]at he;have he:¬((X.C.getD x.core.toNat Cr.new).stT X.S 0).ended=kS:=he
       show(((X.C.getD x.core.toNat Cr.new).stT X.S 0).ev).Fits
       cases ho:(X.C.getD x.core.toNat Cr.new).K.on
       ·rw[(yi7 (S:=X.S) ho).1]
        exact yhE (by decide)
       ·have hz:=(h.stT hlt ho).code
        unfold Cr.stT at he hz ⊢;rcases hk:kOut X.S 0 (X.C.getD x.core.toNat Cr.new).K with c|K'|r|⟨e,m⟩
        ·rw[hk]at hz
         exact⟨yiO (by rw[show(Tl.ev (Wo.tl (X.C.getD x.core.toNat Cr.new).K (.code c))).c=0 from hz];decide),yhs,yhs⟩
        ·exact⟨yhs,yhs,yhs⟩
        ·rw[hk]at he
         exact absurd rfl he
        ·rw[hk]at he
         exact absurd rfl he
      ·split
       ·unfold Spc.akE
        split
        ·exact yhE (by decide)
        ·split
         ·exact yhE (by decide)
         ·exact⟨yhs,yhs,yhs⟩
       ·split<;>exact yhE (by decide)
structure Trs.Ok (t:Trs):Prop where
 inv:Inv t.X t.L t.L0
 ev:∀e ∈ t.E,e.Fits
theorem Trs.Ok.next {t:Trs} (h:t.Ok) (x:Sx):(t.next x).Ok:=by
 refine⟨yiQ h.inv x,fun e he=> ?_⟩;rcases List.mem_append.1 he with he|he
 ·exact h.ev e he
 ·have:e=t.X.goE x:=by simpa using he
  rw[this];exact ykc h.inv x
theorem Trs.Ok.yhX {t:Trs} (h:t.Ok):∀k,(t.yhX k).Ok
 | 0=>h
 | k+1=>by
   show(if (t.yhX k).X.W.getD k kJ=kS then(t.yhX k).next (.ack k)else t.yhX k).Ok
   split
   ·exact(Trs.Ok.yhX h k).next _
   ·exact Trs.Ok.yhX h k
theorem Trs.Ok.wlkN (c:Nat):∀(n:Nat) {t:Trs},t.Ok->(Trs.wlkN c n t).Ok
 | 0,t,h=>h
 | n+1,t,h=>by
   show(if (t.X.C.getD c Cr.new).K.on=kS then Trs.wlkN c n (t.next (.wlk c))else t).Ok
   split
   ·exact Trs.Ok.wlkN c n (h.next _)
   ·exact h
theorem Trs.Ok.yjU {t:Trs} (h:t.Ok):∀k,(t.yjU k).Ok
 | 0=>h
 | k+1=>Trs.Ok.wlkN k 6 (Trs.Ok.yjU h k)
theorem ylk {s:Trs} (h:Inv s.X s.L s.L0):∀k,k<=s.X.C.length->AckI s k (s.yhX k)
 | 0,_=>yl2 h
 | k+1,hk=>by
   have hi:=ylk h k (by omega);cases hw:(s.yhX k).X.W.getD k kJ
   ·have:=hi.no hw
    rw[show s.yhX (k+1)=s.yhX k from by show(if (s.yhX k).X.W.getD k kJ=kS then _ else _)=_;rw[hw];rfl];exact this
   ·have:=hi.yes (by omega) hw
    rw[show s.yhX (k+1)=(s.yhX k).next (.ack k)from by show(if (s.yhX k).X.W.getD k kJ=kS then _ else _)=_;rw[hw];rfl];exact this
theorem ylN {s:Trs} {k:Nat} (hk:k<s.X.C.length):∀(n i:Nat) (t:Trs),n+i=6->WlkR s k i t->∃t',WlkI s (k+1) t'
 | n,i,t,hn,h=>by
   cases ho:(t.X.C.getD k Cr.new).K.on
   ·exact⟨t,h.ended ho⟩
   ·obtain⟨hi,h2⟩:=h.on hk ho
    match n,hn with
    | 0,hn=>omega
    | n+1,hn=>exact ylN hk n (i+1) _ (by omega) h2
theorem ylM {s:Trs} (h:WlkI s 0 s):∀k,k<=s.X.C.length->WlkI s k (s.yjU k)
 | 0,_=>h
 | k+1,hk=>by
   obtain⟨t,ht⟩:=ylN (by omega) 6 0 _ rfl ((ylM h k (by omega)).begin (by omega));rw[<-ht.eq];exact ht
theorem ylF {s:Trs} (h:Inv s.X s.L s.L0):Rest s s.rest:=by
 have ha:=ylk h s.X.C.length (kK _);refine⟨_,ha,?_⟩;have hw:=ylM ha.wlk s.X.C.length (Nat.le_of_eq ha.len.symm);exact hw
theorem inv_free (h:Inv X L L0):0<=X.S.free/\X.S.free<=128/\X.tabs.length<=128:=by
 obtain⟨_,_,_,h4,_⟩:=yiR h;have h1:=h.bas.ok.small;have h2:=h.bas.ok.top
 have h3:0<=X.S.free:=by unfold Fs.free;omega
 rw[h.tabs];omega
theorem dk_ok {d:Dk} (h:Inv d.X d.L d.L0) (hco:d.X.C.length<=4) (hti:0<=d.ti/\d.ti<=100000):d.Ok:=by
 have hg:=yhS h.bas.rep;have ok0:d.trs.Ok:=⟨h,fun e he=>by cases he⟩;have hrest:d.trs.rest.Ok:=(ok0.yhX _).yjU _;have hr:=ylF (s:=d.trs) h;obtain⟨f1,f2,f3⟩:=inv_free hrest.inv
 have kept:∀k:Int,(∀l ∈ d.X.linesOf k,l.m.Fits)/\(d.X.linesOf k).length<=6:=fun k=>by
  unfold Spc.linesOf;split
  ·by_cases hk:k.toNat<d.X.C.length
   ·have hK:=(h.cores _ hk).ok.kept
    refine⟨fun l hl=> ?_,hK.le⟩;obtain⟨_,_,a1,a2,a3,a4⟩:=yjf (hK.ok l hl);exact⟨a1,a2,a3,a4⟩
   ·rw[show d.X.C.getD k.toNat Cr.new=Cr.new from by simp[List.getD,kN (kZ hk)]]
    exact⟨fun l hl=>by simp[Cr.new]at hl,by simp[Cr.new]⟩
  ·exact⟨fun l hl=>by simp at hl,by simp⟩
 refine⟨hti,hco,fun m hm=> ?_,?_,fun k=>(kept k).1,fun k=>V (kept k).2 (by decide),fun p=> ?_,fun p=> ?_,fun x _=>ykc h x,hrest.ev,?_,?_,by omega⟩
 ·rw[h.maps]at hm
  exact yls hg hm
 ·rw[h.maps]
  have:=hg.len;omega
 ·rw[(h.bas.find p).2.1,(yhW h.bas.rep p).2]
  unfold yi0;split
  ·unfold at'
   split
   ·exact ylr hg _
   ·exact ykR
  ·exact ykR
 ·rw[(h.bas.find p).1,(yhW h.bas.rep p).1]
  exact yiO (by have:=ykG d.L p;omega)
 ·obtain⟨a,h1,h2⟩:=hr
  have e1:=h1.E;have e2:=h2.E;have e3:d.trs.E.length=0:=rfl;have e4:d.trs.X.C.length<=4:=hco;omega
 ·unfold fits
  omega
end
end Pg
namespace Pg
def yjp:List UInt8:=tell [119,104,97,116] []
def yhO (o:Option Dk) (l:List UInt8):Option Dk×List UInt8:=match yim l with
 | []=>(o,[])
 | wd::ws=>match yih ws with
   | none=>(o,yjp)
   | some ns=>((askD o wd ns).1,(askD o wd ns).2.1++if (askD o wd ns).2.2=kS then []else yjp)
def runD (o:Option Dk):List (List UInt8)->Option Dk×List UInt8
 | []=>(o,[])
 | l::r=>((runD (yhO o l).1 r).1,(yhO o l).2++(runD (yhO o l).1 r).2)
theorem yi6 (o:Option Dk):∀(a b:List (List UInt8)),runD o (a++b)=((runD (runD o a).1 b).1,(runD o a).2++(runD (runD o a).1 b).2)
 | [],b=>rfl
 | l::r,b=>by
   have:=yi6 (yhO o l).1 r b
   show((runD (yhO o l).1 (r++b)).1,(yhO o l).2++(runD (yhO o l).1 (r++b)).2)=_
   rw[this]
   show _=((runD (runD (yhO o l).1 r).1 b).1,(yhO o l).2++(runD (yhO o l).1 r).2++(runD (runD (yhO o l).1 r).1 b).2)
   rw[kQ]
theorem runD_snoc (o:Option Dk) (a:List (List UInt8)) (l:List UInt8):runD o (a++[l])=((yhO (runD o a).1 l).1,(runD o a).2++(yhO (runD o a).1 l).2):=by
 rw[yi6]
 show((yhO (runD o a).1 l).1,(runD o a).2++((yhO (runD o a).1 l).2++[]))=_
 rw[List.append_nil]
theorem yj9:∀n l,(yiC n l).length<=n
 | 0,l=>kK _
 | n+1,l=>by
   unfold yiC;split
   ·simp
   ·have:=yj9 n (Lib.trimLeftB (Lib.cut l [32]).2.1 32)
    simp only[O];omega
theorem wordsD_len (l:List UInt8):(yim l).length<=6:=yj9 6 _
theorem yle (l:List UInt8):(Lib.trimLeftB l 32).length<=l.length:=by
 unfold Lib.trimLeftB;exact(List.dropWhile_sublist _).length_le
theorem yln (l:List UInt8):(Lib.cut l [32]).1.length<=l.length/\(Lib.cut l [32]).2.1.length<=l.length:=by
 unfold Lib.cut;split
 ·simp
  omega
 ·simp
theorem yka:∀n l,∀x ∈ yiC n l,x.length<=l.length
 | 0,l,x,hx=>by cases hx
 | n+1,l,x,hx=>by
   unfold yiC at hx;split at hx
   ·cases hx
   ·rcases kO.1 hx with rfl|hx
    ·exact(yln l).1
    ·exact V (yka n _ x hx) (V (yle _) (yln l).2)
theorem wordsD_mem (l:List UInt8):∀x ∈ yim l,x.length<=l.length:=fun x hx=>V (yka 6 _ x hx) (yle l)
theorem numD_bd {l:List UInt8} {v:Int} (h:numD l=I v):0<=v/\v<=100000000:=by
 unfold numD at h;split at h
 ·split at h
  ·rename_i hc
   injection h with h;omega
  ·cases h
 ·cases h
theorem yk5:∀{l:List (List UInt8)} {ns:List Int},yih l=I ns->ns.length=l.length/\∀n ∈ ns,0<=n/\n<=100000000
 | [],ns,h=>by
   injection h with h;subst h;exact⟨rfl,fun n hn=>by cases hn⟩
 | l::r,ns,h=>by
   unfold yih at h;split at h
   ·cases h
   ·rename_i v hv
    split at h
    ·cases h
    ·rename_i vs hvs
     injection h with h;subst h;obtain⟨h1,h2⟩:=yk5 hvs;refine⟨by simp[h1],fun n hn=> ?_⟩;rcases kO.1 hn with rfl|hn
     ·exact numD_bd hv
     ·exact h2 n hn
def TiLe (o:Option Dk) (n:Int):Prop:=∀d,o=I d->0<=d.ti/\d.ti<=n
theorem TiLe.none (n:Int):TiLe J n:=fun d h=>by cases h
theorem TiLe.mono {o:Option Dk} {n m:Int} (h:TiLe o n) (hm:n<=m):TiLe o m:=fun d e=>⟨(h d e).1,Int.le_trans (h d e).2 hm⟩
theorem rest_ti {s:Trs} (h:Inv s.X s.L s.L0):s.rest.ti=s.ti:=by
 obtain⟨a,h1,h2⟩:=ylF h;exact h2.ti.trans h1.ti
theorem next_tile {d:Dk} (x:Sx):d.ti<=(d.next x).ti/\(d.next x).ti<=d.ti+1:=by
 have:=Trs.chg_le d.X x
 show d.ti<=d.ti+d.X.chg x/\d.ti+d.X.chg x<=d.ti+1
 omega
def DInv (o:Option Dk):Prop:=∀d,o=I d->Inv d.X d.L d.L0/\d.X.C.length<=4
theorem askD_ti {o:Option Dk} {n:Int} (hn:0<=n) (h:TiLe o n) (hi:DInv o) (wd:List UInt8) (ns:List Int):TiLe (askD o wd ns).1 (n+1):=by
 have hnew:∀a b,TiLe (yjS a b) (n+1):=fun a b d e=>by
  unfold yjS at e;split at e
  ·cases e
  ·injection e with e
   subst e;exact⟨Int.le_refl _,by show(0:Int)<=n+1;omega⟩
 unfold askD;split
 ·exact hnew _ _
 ·cases o with
  | none=>exact TiLe.none _
  | some d=>
    have hd:=h d rfl;have h0:TiLe (I d) (n+1):=h.mono (by omega)
    have hs:∀ns,TiLe (d.stp wd ns).1 (n+1):=fun ns=>by
     unfold Dk.stp;split
     ·rename_i x _
      intro d' e;injection e with e;subst e;have:=next_tile (d:=d) x;omega
     ·exact h0
    rcases ns with _|⟨a,_|⟨a2,r⟩⟩
    ·show TiLe (if wd=[108,105,115,116]then _ else if wd=[99,97,108,109]then _ else _:Option Dk×List UInt8×Bool).1 (n+1)
     split
     ·exact h0
     ·split
      ·intro d' e
       injection e with e;subst e;have:(Dk.of d.trs.rest).ti=d.ti:=rest_ti (s:=d.trs) (hi d rfl).1;omega
      ·exact h0
    ·show TiLe (if wd=[102,105,110,100]then _ else if wd=[107,101,112,116]then _ else _:Option Dk×List UInt8×Bool).1 (n+1)
     split
     ·exact h0
     ·split
      ·exact h0
      ·exact hs _
    ·exact hs _
theorem lineD_ti {o:Option Dk} {n:Int} (hn:0<=n) (h:TiLe o n) (hi:DInv o) (l:List UInt8):TiLe (yhO o l).1 (n+1):=by
 unfold yhO;split
 ·exact h.mono (by omega)
 ·split
  ·exact h.mono (by omega)
  ·exact askD_ti hn h hi _ _
theorem yiB (wd:List UInt8) (ns:List Int) (h:∀n ∈ ns,fits n):(tell wd ns).length<=wd.length+22*ns.length+1:=by
 have:=yh3 ns h;simp only[tell,U,List.length_singleton];omega
theorem ykT {o:Option Dk} (hi:DInv o) (hok:∀d,o=I d->d.Ok) (wd:List UInt8) (ns:List Int):(askD o wd ns).2.1.length<=700000:=by
 have hopen:∀a b,(yjT a b).length<=700000:=fun a b=>by
  unfold yjT;split
  ·exact V (yiB _ _ (by simp[fits])) (by decide)
  ·exact V (yiB _ _ (by simp)) (by decide)
 unfold askD;split
 ·exact hopen _ _
 ·cases o with
  | none=>exact kY _
  | some d=>
    obtain⟨hI,_⟩:=hi d rfl;have ok:=hok d rfl;have hend:(tell [101,110,100] []).length<=10:=V (yiB _ _ (by simp)) (by decide)
    have hs:∀ns,(d.stp wd ns).2.1.length<=700000:=fun ns=>by
     unfold Dk.stp;split
     ·exact V (ylJ _ (ykc hI _)) (by decide)
     ·exact kY _
    rcases ns with _|⟨a,_|⟨a2,r⟩⟩
    ·show(if wd=[108,105,115,116]then _ else if wd=[99,97,108,109]then _ else _:Option Dk×List UInt8×Bool).2.1.length<=700000
     split
     ·have:=yjL _ ok.maps
      have:=ok.mlen;simp only[U];omega
     ·split
      ·have h1:=yju _ ok.rE
       have h2:=ok.rl
       have h3:=yiB [99,97,108,109] [d.trs.rest.X.S.free,(d.trs.rest.X.tabs.length:Int)] (by
        have:=ok.rt;simp[ok.rf];unfold fits
        omega)
       simp only[O,kR]at h3;unfold ylI;simp only[U];omega
      ·exact kY _
    ·show(if wd=[102,105,110,100]then _ else if wd=[107,101,112,116]then _ else _:Option Dk×List UInt8×Bool).2.1.length<=700000
     split
     ·unfold ylj
      split
      ·refine V (yiB _ _ (by simp[ok.fc])) (by simp)
      ·refine V (yiB _ _ ?_) (by simp)
       obtain⟨f1,f2,f3,f4⟩:=ok.fm a;simp[f1,f2,f3,f4,yjN]
     ·split
      ·have h1:=yjj _ (ok.lines a)
       have h2:=ok.llen a;simp only[U];omega
      ·exact hs _
    ·exact hs _
theorem lineD_len {o:Option Dk} (hi:DInv o) (hok:∀d,o=I d->d.Ok) (l:List UInt8):(yhO o l).2.length<=800000:=by
 have hw:yjp.length<=10:=V (yiB _ _ (by simp)) (by decide);unfold yhO;split
 ·exact kY _
 ·split
  ·show yjp.length<=_
   omega
  ·have:=ykT hi hok
   rename_i wd ws _ _ ns _;have:=this wd ns;simp only[U];split
   ·simp only[kR]
    omega
   ·omega
end Pg
section
variable {W:Bs} {w w':kV} {b:Nat} {o:Option Pg.Dk} {bs cs:List UInt8}
theorem Tn.dinv (h:Tn W w b o bs):Pg.DInv o:=by
 intro d e;subst e;obtain⟨v,F,Fw,t⟩:=h;obtain⟨D,fl,st,A,_,ok,_⟩:=t.wt;exact⟨ok.inv,ok.le⟩
theorem Tn.ok (h:Tn W w b o bs) (hti:Pg.TiLe o 100000):∀d,o=I d->d.Ok:=fun d e=>Pg.dk_ok (h.dinv d e).1 (h.dinv d e).2 (hti d e)
theorem Tn.grow (h:Tn W w b o bs) (hb:Below w.heap.size w w'):Tn W w' b o bs:=by
 cases o with
 | none=>
   obtain⟨F,t⟩:=h;exact⟨F,t.grow hb⟩
 | some d=>
   obtain⟨v,F,Fw,t⟩:=h;exact⟨v,F,Fw,t.grow hb⟩
theorem Tn.told (h:Tn W w b o bs):∃p0 F,Tl0 W w b p0 bs F/\∀w1 cs w',Below w.heap.size w w1->zd w1 b p0 F cs w'->Tn W w' b o cs:=by
 cases o with
 | none=>
   obtain⟨F,t⟩:=h;refine⟨_,F,t,fun w1 cs w' hb hd=> ?_⟩;obtain⟨F',t',_⟩:=(t.grow hb).done hd;exact⟨F',t'⟩
 | some d=>
   obtain⟨v,F,Fw,t⟩:=h;refine⟨_,F,t.tl,fun w1 cs w' hb hd=> ?_⟩;obtain⟨F',t'⟩:=(t.grow hb).told hd;exact⟨v,F',Fw,t'⟩
theorem yft (wd:ByteArray) (ns:List Int) (hlen:ns.length<=5) (ad:Option Addr) (cap:Nat) (hn:zl w ad ns) (hf:∀n ∈ ns,Pg.fits n) (hti:Pg.TiLe o 100000) (hG:xZ W) (h:Tn W w b o bs) (hl:bs.length<=50000000000000):
 f T 19 #[B (I ⟨b,0,J⟩),.string wd,z ad ns.length cap] w fun e w'=>e=Q (kI (Pg.askD o wd.toList ns).2.2)/\Tn W w' b (Pg.askD o wd.toList ns).1 (bs++(Pg.askD o wd.toList ns).2.1):=by
 have hok:=h.ok hti
 cases o with
 | none=>
   obtain⟨F,t⟩:=h
   match ns,hlen with
   | [],_=>exact yfV wd ad cap t
   | [a],_=>exact yfW wd a ad cap t
   | [a,a2],_=>exact yfX wd a a2 ad cap hn hG t hl
   | [a,a2,a3],_=>exact yfY wd a a2 a3 ad cap t
   | [a,a2,a3,a4],_=>exact yfZ wd a a2 a3 a4 ad cap t
   | [a,a2,a3,a4,a5],_=>exact yf0 wd a a2 a3 a4 a5 ad cap t
   | _::_::_::_::_::_::_,hlen=>simp only[O]at hlen;omega
 | some d=>
   obtain⟨v,F,Fw,t⟩:=h;have hok:=hok d rfl
   match ns,hlen with
   | [],_=>exact ygf wd ad cap hok hG t hl
   | [a],_=>exact ygg wd a ad cap hn (hf a (by simp)) hok hG t hl
   | [a,a2],_=>exact ygh wd a a2 ad cap hn (hf a (by simp)) (hf a2 (by simp)) hok hG t hl
   | [a,a2,a3],_=>exact ygi wd a a2 a3 ad cap hG t hl
   | [a,a2,a3,a4],_=>exact ygj wd a a2 a3 a4 ad cap hn (hf a (by simp)) (hf a2 (by simp)) (hf a3 (by simp)) (hf a4 (by simp)) hok hG t hl
   | [a,a2,a3,a4,a5],_=>exact ygk wd a a2 a3 a4 a5 ad cap hG t hl
   | _::_::_::_::_::_::_,hlen=>simp only[O]at hlen;omega
end
namespace Pg
theorem lineD_nil (o:Option Dk) {l:List UInt8} (h:yim l=[]):yhO o l=(o,[]):=by unfold yhO;rw[h]
theorem lineD_bad (o:Option Dk) {l wd:List UInt8} {ws:List (List UInt8)} (h:yim l=wd::ws) (hn:yih ws=J):yhO o l=(o,yjp):=by unfold yhO;rw[h];simp only;rw[hn]
theorem lineD_ask (o:Option Dk) {l wd:List UInt8} {ws:List (List UInt8)} {ns:List Int} (h:yim l=wd::ws) (hn:yih ws=I ns):yhO o l=((askD o wd ns).1,(askD o wd ns).2.1++if (askD o wd ns).2.2=kS then []else yjp):=by unfold yhO;rw[h];simp only;rw[hn]
end Pg
section
variable {W:Bs} {w w':kV} {b:Nat} {o:Option Pg.Dk} {bs cs:List UInt8}
theorem Tn.bel (h:Tn W w b o bs):But W.G W.w w:=by
 obtain⟨p0,F,t,_⟩:=h.told;exact t.bel
theorem ycO (hG:xZ W) (h:Tn W w b o bs) (hl:bs.length<=60000000000000) (w1:kV) (hb:Below w.heap.size w w1):
 f T 20 #[B (I ⟨b,1,J⟩),.string ⟨#[119,104,97,116]⟩,z J 0 0] w1 fun e w'=>e=Q (kU #[])/\Tn W w' b o (bs++Pg.yjp):=by
 obtain⟨p0,F,t,hT⟩:=h.told;refine(zZ ⟨#[119,104,97,116]⟩ J 0 [] hG (t.grow hb) (qj w1) (fun _ e=>by cases e) (fun _ e=>by cases e) (by show _+4+_+1<=_;simp only[kR];omega)).mono ?_;rintro e w' ⟨rfl,hd⟩;exact⟨rfl,hT w1 _ w' hb hd⟩
theorem yff (line:ByteArray) (hs:line.size<=1000000) (hti:Pg.TiLe o 100000) (hG:xZ W) (h:Tn W w b o bs) (hl:bs.length<=40000000000000):
 f T 12 #[B (I ⟨b,0,J⟩),.string line] w fun e w'=>e=Q (kU #[])/\Tn W w' b (Pg.yhO o line.data.toList).1 (bs++(Pg.yhO o line.data.toList).2):=by
 have HW:=ycz line hs w;have HD:P (Pg.DInv o):=h.dinv;have HOK:P (∀d,o=I d->d.Ok):=h.ok hti;have T0:P (Tn W w b o bs):=h;have HTI:P (Pg.TiLe o 100000):=hti;have HG:P (xZ W):=hG;have HBS:P (bs.length<=40000000000000):=hl;have hlen:=Pg.wordsD_len line.data.toList;have hmem:∀x ∈ Pg.yim line.data.toList,x.length<=1000000:=fun x hx=>V (Pg.wordsD_mem _ x hx) hs;clear h hti hG hl
 cases hA:Pg.yim line.data.toList with
 | nil=>
   rw[Pg.lineD_nil o hA];rw[hA]at HW;clear hA hmem hlen
   go_enter Tryz.func12,Tryz.ntmps12
   go_wp2_with fail
   refine HW.mono ?_;rintro e w1 ⟨ad,cap,rfl,_,_,_,hb1⟩;have T1:P (Tn W w1 b o bs):=T0.out.grow hb1;clear hb1 HW
   go_wp2_with fail
   (try simp only[Exit.inBlock,Exit.then])
   refine bodyPost_ret (results_none rfl _ _ _) rfl ?_;exact⟨rfl,by simpa using T1.out⟩
 | cons wd ws=>
   rw[hA]at HW hlen hmem;simp only[O]at HW hlen;have HLA:P (Pg.yim line.data.toList=wd::ws):=hA;obtain⟨LR,hLR⟩:∃LR,LR=Pg.yhO o line.data.toList:=⟨_,rfl⟩;rw[<-hLR];have HLR:P (LR=Pg.yhO o line.data.toList):=hLR;clear hA hLR
   go_enter Tryz.func12,Tryz.ntmps12
   go_wp2_with fail
   refine HW.mono ?_;rintro e w1 ⟨ad,cap,rfl,hcap,hst,hz,hb1⟩;obtain⟨g,of,rfl,hg,c0⟩:=hst 0 (by simp);obtain rfl:=hz g of rfl;simp only[H,Nat.add_zero]at c0;have T1:P (Tn W w1 b o bs):=T0.out.grow hb1;have HG1:P (jz w1):=HG.out.later T1.out.bel
   have hs1:zt w1 (I ⟨g,1,J⟩) ws:=fun j hj=>by
    obtain⟨g',o',e,h1,h2⟩:=hst (j+1) (by simpa using hj);injection e with e;injection e with e1 e2;subst e1 e2;refine⟨g,1,rfl,h1,?_⟩;rw[Nat.zero_add,y]at h2;rw[Nat.add_comm 1 j];exact h2
   have HNU:P (∀ad' cap',zt w1 ad' ws->f T 18 #[z ad' ws.length cap'] w1 fun e w'=>xh ws e w'/\Below w1.heap.size w1 w'):=fun ad' cap' hs=>yaX ad' cap' ws (by omega) (fun l hl=>hmem l (List.mem_cons_of_mem _ hl)) w1 hs HG1.out
   have HS1:P (∀ad',(ad'=I ⟨g,1,J⟩\/ws.length=0)->zt w1 ad' ws):=fun ad' h=>by
    rcases h with rfl|h
    ·exact hs1
    ·intro j hj
     omega
   have HLW:P (ws.length<=5):=by unfold P;omega
   have HGS:P (g<w1.heap.size):=hg;have HC0:P (w1.cell? ⟨g,0,J⟩=I (.string (xT wd))):=c0;clear hst hz hb1 HW hmem hs1 T0 hlen c0 hg
   go_wp2_with fail
   all_goals
    refine(HNU.out _ _ (HS1.out _ (by first|exact .inl rfl|exact .inr (by omega)))).mono ?_;rintro e w2 ⟨hnd,hb2⟩;have T2:P (Tn W w2 b o bs):=T1.out.grow hb2;have c0:w2.cell? ⟨g,0,J⟩=I (.string (xT wd)):=(hb2.cell (p:=⟨g,0,J⟩) HGS.out).trans HC0.out;unfold xh at hnd
    cases hn:Pg.yih ws with
    | none=>
      rw[hn]at hnd;obtain rfl:=hnd;have HE:P (LR=(o,Pg.yjp)):=HLR.out.trans (Pg.lineD_bad o HLA.out hn);have HT:=ycO HG.out T2.out (by have:=HBS.out;omega) w2 (zR w2);clear hn hb2
      go_wp2_with fail
      refine HT.mono ?_;rintro e w3 ⟨rfl,hT⟩;have T3:P (Tn W w3 b o (bs++Pg.yjp)):=hT;clear hT HT
      go_wp2_with fail
      go_end0
      rw[HE.out];exact⟨rfl,T3.out⟩
    | some ns=>
      rw[hn]at hnd;obtain⟨ad2,cap2,rfl,hi2⟩:=hnd;obtain⟨hnl,hnb⟩:=Pg.yk5 hn;have HE:P (LR=((Pg.askD o wd ns).1,(Pg.askD o wd ns).2.1++if (Pg.askD o wd ns).2.2=kS then []else Pg.yjp)):=HLR.out.trans (Pg.lineD_ask o HLA.out hn);have HA:=yft (xT wd) ns (by have:=HLW.out;omega) ad2 cap2 hi2 (fun n h=>by have:=hnb n h;unfold Pg.fits;omega) HTI.out HG.out T2.out (by have:=HBS.out;omega);rw[show(xT wd).toList=wd from by rw[Lib.toList_data,qk]]at HA;have hal:=Pg.ykT HD.out HOK.out wd ns;have HWH:P (∀w3,Tn W w3 b (Pg.askD o wd ns).1 (bs++(Pg.askD o wd ns).2.1)->f T 20 #[B (I ⟨b,1,J⟩),.string ⟨#[119,104,97,116]⟩,z J 0 0] w3 fun e w'=>e=Q (kU #[])/\Tn W w' b (Pg.askD o wd ns).1 (bs++(Pg.askD o wd ns).2.1++Pg.yjp)):=fun w3 h3=>ycO HG.out h3 (by have:=HBS.out;simp only[U];omega) w3 (zR w3);clear hn hb2 hnl hnb hi2 hal;generalize Pg.askD o wd ns=r at*;obtain⟨r1,r2,r3⟩:=r;simp only at HA HWH
      cases r3 with
      | true=>
        go_wp2_with fail
        refine HA.mono ?_;rintro e w3 ⟨rfl,hT⟩;have T3:P (Tn W w3 b r1 (bs++r2)):=hT;clear hT HA
        go_wp2_with fail
        go_end0
        rw[HE.out];exact⟨rfl,by simpa using T3.out⟩
      | false=>
        go_wp2_with fail
        refine HA.mono ?_;rintro e w3 ⟨rfl,hT⟩;have HT:=HWH.out w3 hT;clear hT HA
        go_wp2_with fail
        refine HT.mono ?_;rintro e w4 ⟨rfl,hT⟩;have T4:P (Tn W w4 b r1 (bs++r2++Pg.yjp)):=hT;clear hT HT
        go_wp2_with fail
        go_end0
        rw[HE.out];exact⟨rfl,by simpa[kQ]using T4.out⟩
end
end Go.Proofs.YtdphiompijbelaaGreatDoor
