import Derived.Test.YtdphiompijbelaaGreatDoorTabD
import Derived.BigRegion
set_option linter.all false
set_option maxRecDepth 100000
open Nat renaming le_refl->kN,le_trans->kY
open Go.Proofs.Tryz renaming prog->kI
open Go.Ending renaming returned->D
open List renaming length_singleton->X,length_append->E,take_length->L,getElem?_eq_getElem->kC
open Bool renaming false->K,true->y
open Go.IntKind renaming i64->Z
open Go.Value renaming int->Q,slice->U,tuple->z,bool->d,slice->kP,pointer->kS,ownBlock->kV,agg->kQ
open Go.RowKit renaming Hid->V
open Go renaming cell_later->C,World->kJ,bodyPost_ret->kB,Calls->kT
open Option renaming none->J,some->O
open Go.World renaming cell?_of_block->I,block_lt_of_cell?->M,frozen?_of_block->kR,ownsRow_nil->kF
set_option maxHeartbeats 4000000
namespace Go.Proofs.YtdphiompijbelaaGreatDoor
open Go.RowKit Go.Sort
theorem yd5 (p:Int) (s:Nat) (S:Pg.Fs) (t:Int):Pg.insW p s s S t=(S,t):=by
 cases s with
 | zero=>rfl
 | succ s=>simp[Pg.insW]
theorem yd6 (p:Int) (s m:Nat) (S:Pg.Fs) (t:Int) (h:s<=m):Pg.insW p s (m+1) S t=Pg.insW p s m (S.take.store t (Pg.index p ((m+1:Nat):Int)) (Pg.enc y K 7 K K S.takeN ((m+1:Nat):Int))) S.takeN:=by
 rw[Pg.insW,if_neg (by omega)]
theorem yct {b:Nat} {S:Pg.Fs} {F:Nat->Prop} (t:Int) (m:Pg.Mp) (w:kJ) (h:zh w b S F):
 kT kI 214 #[kS (O ⟨b,0,J⟩),Q Z t,m.val] w fun en w'=>en=D (Q Z (Pg.insC S t m))/\∃F',zh w' b (Pg.insS S t m) F'/\But F w w'/\∀k,F' k->F k\/w.heap.size<=k:=by
 obtain⟨p,s,f,r⟩:=m;have HC:=zE p s f r;have eC:Pg.Mp.code ⟨p,s,f,r⟩=Pg.check p s f r:=rfl;rw[<-eC]at HC;simp only[Pg.Mp.val];have H:V (zh w b S F):=h;obtain⟨W1,hW1⟩:∃W1,W1=w.alloc (.cells #[Q Z p,Q Z s,Q Z f,Q Z r] 76):=⟨_,rfl⟩
 have hB1:Below w.heap.size w W1:=by rw[hW1];exact zA (zR w) _
 have r4:W1.cell? ⟨w.heap.size,0,J⟩=O (Q Z p)/\W1.cell? ⟨w.heap.size,1,J⟩=O (Q Z s)/\W1.cell? ⟨w.heap.size,2,J⟩=O (Q Z f)/\W1.cell? ⟨w.heap.size,3,J⟩=O (Q Z r):=by rw[hW1];simp[go_sem]
 have HB1:V _:=hB1;obtain⟨x0,x1,x2,x3⟩:=r4;have fin0:V (∀w',Below w.heap.size w w'->∃F',zh w' b S F'/\But F w w'/\∀k,F' k->F k\/w.heap.size<=k):=fun w' hb=>⟨F,zh.keep (G:=fun _=>False) H.out (But.yhl hb) fun _ _=>id,But.yhl hb,fun k hk=> .inl hk⟩;have HW:=fun w2 (hb:Below w.heap.size w w2)=>jR t p w2 (h.keep (G:=fun _=>False) (But.yhl hb) fun _ _=>id);clear hB1 eC
 by_cases hc:Pg.Mp.code ⟨p,s,f,r⟩=0
 ·rw[hc]at HC
  by_cases hz:xG S t p=0
  ·obtain⟨Y,sp,lv,hY,W,hsl,hl3,hY3,hpl,hix⟩:=vJ hz
   have hs:0<=s/\s<=2:=by
    have hc':Pg.check p s f r=0:=hc
    have hsp:Pg.span s≠0:=by
     intro e;rw[Pg.check,if_pos e]at hc';omega
    unfold Pg.span at hsp
    by_cases h0:s=0
    ·omega
    ·by_cases h1:s=1
     ·omega
     ·by_cases h2:s=2
      ·omega
      ·simp[h0,h1,h2]at hsp
   obtain⟨sn,rfl⟩:=Int.eq_ofNat_of_zero_le hs.1
   have hs2:sn<=2:=by omega
   have e6:tabs (Y++[sp])=tabs Y++[sp.table]:=by simp[tabs]
   have e7:qz (Y++[sp])=qz Y++[(sp.place:Int)]:=by simp[qz]
   have eI:Pg.insC S t ⟨p,sn,f,r⟩=if sp.e.t=y\/(lv:Int)<(sn:Int)then 4 else if S.free<(lv:Int)-(sn:Int)then 6 else 0:=by
    rw[Pg.insC,if_neg (by simp[hc]),if_neg (by simp[hz]),hY,W.yhr,W.yht]
   have eS:Pg.insS S t ⟨p,sn,f,r⟩=if Pg.insC S t ⟨p,sn,f,r⟩=0 then(Pg.insW p sn lv S sp.table).1.store (Pg.insW p sn lv S sp.table).2 (Pg.index p (sn:Int)) (Pg.enc y y r K K f (sn:Int))else S:=by
    rw[Pg.insS,hY,W.yht,W.lastT];rfl
   rw[hz,hY,W.yht,W.yhr,e6,e7,hpl]at HW
   have hlen:(tabs Y).length=(qz Y).length:=by rw[xM,jZ]
   have hlt:(tabs Y).length<=3:=by rw[xM];omega
   have hfree:=h.ok.free_bd;have HFr:=fun w2 (hb:Below w.heap.size w w2)=>yat w2 (h.keep (G:=fun _=>False) (But.yhl hb) fun _ _=>id);clear hc hz W hY hsl hpl hix h e6 e7 hs;generalize tabs Y=T at*;generalize qz Y=P at*;obtain⟨st,_,_,_,⟨et,el,er,eu,ed,ef⟩⟩:=sp;simp only at eI eS HW;clear hY3 Y;generalize Pg.insC S t ⟨p,sn,f,r⟩=ic at*;generalize Pg.insS S t ⟨p,sn,f,r⟩=iS at*
   by_cases hE:et=y\/(lv:Int)<(sn:Int)
   ·rw[if_pos hE]at eI
    rw[eI,if_neg (by decide)]at eS;rw[eI,eS];clear eI eS;cases et
    ·have hlt':(lv:Int)<(sn:Int):=by
      rcases hE with h|h
      ·cases h
      ·exact h
     clear hE
     go_enter Tryz.func214,Tryz.ntmps214
     go_wp2_with fail
     rw[<-hW1];clear hW1;refine(HC _).mono ?_;rintro en w2 ⟨rfl,hb2⟩;have y0:=C hb2 x0;have y1:=C hb2 x1;have y2:=C hb2 x2;have y3:=C hb2 x3;have HB2:V (Below w.heap.size w w2):=zT HB1.out hb2;clear hb2 HC x0 x1 x2 x3
     go_wp2_with fail
     refine(HW _ HB2.out).mono ?_;rintro en w3 ⟨k,rfl,hS,hb3⟩;have HS:V _:=hS;have HB3:V (Below w.heap.size w w3):=zT HB2.out hb3;obtain⟨B,v1,v2,F',hM,_,_,_,_,_,_⟩:=hS.body;have k0:=hM.c0;have k1:=hM.c1;have k2:=hM.c2;simp only at k2;have z1:=C hb3 y1;have z2:=C hb3 y2;have z3:=C hb3 y3;have hlx:w.heap.size<w2.heap.size:=M _ _ y0;have HZ:V _:=And.intro z1 (And.intro z2 z3);clear hM hS hb3 HW y0 y1 y2 y3
     go_wp2_with fail
     go_quiet (fail)
     go_wp2_with fail
     go_ret
     exact⟨rfl,fin0.out _ (zT HB3.out (below_drewN (zR _) _))⟩
    ·clear hE
     go_enter Tryz.func214,Tryz.ntmps214
     go_wp2_with fail
     rw[<-hW1];clear hW1;refine(HC _).mono ?_;rintro en w2 ⟨rfl,hb2⟩;have y0:=C hb2 x0;have y1:=C hb2 x1;have y2:=C hb2 x2;have y3:=C hb2 x3;have HB2:V (Below w.heap.size w w2):=zT HB1.out hb2;clear hb2 HC x0 x1 x2 x3
     go_wp2_with fail
     refine(HW _ HB2.out).mono ?_;rintro en w3 ⟨k,rfl,hS,hb3⟩;have HS:V _:=hS;have HB3:V (Below w.heap.size w w3):=zT HB2.out hb3;obtain⟨B,v1,v2,F',hM,_,_,_,_,_,_⟩:=hS.body;have k0:=hM.c0;have k1:=hM.c1;have k2:=hM.c2;simp only at k2;have z1:=C hb3 y1;have z2:=C hb3 y2;have z3:=C hb3 y3;have hlx:w.heap.size<w2.heap.size:=M _ _ y0;have HZ:V _:=And.intro z1 (And.intro z2 z3);clear hM hS hb3 HW y0 y1 y2 y3
     go_wp2_with fail
     go_quiet (fail)
     go_wp2_with fail
     go_ret
     exact⟨rfl,fin0.out _ (zT HB3.out (below_drewN (zR _) _))⟩
   ·rw[if_neg hE]at eI
    have hef:et=K:=by
     cases et
     ·rfl
     ·exact absurd (.inl rfl) hE
    have hle:sn<=lv:=by omega
    subst hef;clear hE
    by_cases hfu:S.free<(lv:Int)-(sn:Int)
    ·rw[if_pos hfu]at eI
     rw[eI,if_neg (by decide)]at eS;rw[eI,eS];clear eI eS
     go_enter Tryz.func214,Tryz.ntmps214
     go_wp2_with fail
     rw[<-hW1];clear hW1;refine(HC _).mono ?_;rintro en w2 ⟨rfl,hb2⟩;have y0:=C hb2 x0;have y1:=C hb2 x1;have y2:=C hb2 x2;have y3:=C hb2 x3;have HB2:V (Below w.heap.size w w2):=zT HB1.out hb2;clear hb2 HC x0 x1 x2 x3
     go_wp2_with fail
     refine(HW _ HB2.out).mono ?_;rintro en w3 ⟨k,rfl,hS,hb3⟩;have HS:V _:=hS;have HB3:V (Below w.heap.size w w3):=zT HB2.out hb3;obtain⟨B,v1,v2,F',hM,_,_,_,_,_,_⟩:=hS.body;have k0:=hM.c0;have k1:=hM.c1;have k2:=hM.c2;simp only at k2;have z1:=C hb3 y1;have z2:=C hb3 y2;have z3:=C hb3 y3;have hlx:w.heap.size<w2.heap.size:=M _ _ y0;have HZ:V _:=And.intro z1 (And.intro z2 z3);clear hM hS hb3 HW y0 y1 y2 y3
     go_wp2_with fail
     go_quiet (fail)
     go_wp2_with fail
     refine(HFr _ (zT HB3.out (below_drewN (zR _) _))).mono ?_;rintro en w4 ⟨rfl,hb4⟩;have HB4:V (Below w.heap.size w w4):=zT (zT HB3.out (below_drewN (zR _) _)) hb4;clear hb4 HFr
     go_wp2_with fail
     go_ret
     exact⟨rfl,fin0.out _ HB4.out⟩
    ·rw[if_neg hfu]at eI
     rw[eI,if_pos rfl]at eS;rw[eI,eS];clear eI eS
     have dd1:decide ((lv:Int)-(sn:Int)<0)=K:=by simp;omega
     have dd2:decide (S.free<(lv:Int)-(sn:Int))=K:=by simp;omega
     go_enter Tryz.func214,Tryz.ntmps214
     go_wp2_with fail
     rw[<-hW1];clear hW1;refine(HC _).mono ?_;rintro en w2 ⟨rfl,hb2⟩;have y0:=C hb2 x0;have y1:=C hb2 x1;have y2:=C hb2 x2;have y3:=C hb2 x3;have HB2:V (Below w.heap.size w w2):=zT HB1.out hb2;clear hb2 HC x0 x1 x2 x3
     go_wp2_with fail
     refine(HW _ HB2.out).mono ?_;rintro en w3 ⟨k,rfl,hS,hb3⟩;have HS:V _:=hS;have HB3:V (Below w.heap.size w w3):=zT HB2.out hb3;obtain⟨B,v1,v2,F',hM,_,_,_,_,_,_⟩:=hS.body;have k0:=hM.c0;have k1:=hM.c1;have k2:=hM.c2;simp only at k2;have z1:=C hb3 y1;have z2:=C hb3 y2;have z3:=C hb3 y3;have hlx:w.heap.size<w2.heap.size:=M _ _ y0;have HZ:V _:=And.intro z1 (And.intro z2 z3);clear hM hS hb3 HW y0 y1 y2 y3
     go_wp2_with fail
     go_quiet (fail)
     go_wp2_with fail
     refine(HFr _ (zT HB3.out (below_drewN (zR _) _))).mono ?_;rintro en w4 ⟨rfl,hb4⟩;have HB34:V (Below w3.heap.size w3 w4):=zT (below_drewN (zR _) _) hb4;clear hb4 HFr
     go_wp2_with fail
     try simp only[dd1,dd2]
     go_loopw [53] (fun i wr=>∃(j lvn:Nat) (Si:Pg.Fs) (ei:Pg.En) (ts ps:List Int) (ti:Int),lvn+j=lv/\sn<=lvn/\i=Q Z (j:Int)/\ts.length=ps.length/\ts.length=T.length+j/\V (St w2 wr k b F Si (lvn:Int) ei (ts++[ti]) (ps++[Pg.index p (lvn:Int)]) p/\Pg.insW p sn lvn Si ti=Pg.insW p sn lv S st)) (fun i _=>lv-(intOf i).toNat)
     case atStart=>exact⟨0,lv,S,_,T,P,st,by omega,by omega,rfl,hlen,rfl,HS.out.grow HB34.out,rfl⟩
     case round=>
      obtain⟨j,lvn,Si,ei,ts,ps,ti,hj,hlvn,rfl,hl1,hl2,HR⟩:=hrel
      have j0:(0:Int)<=(j:Int):=by omega
      by_cases hlt2:sn<lvn
      ·have j1:(j:Int)<(lv:Int)-(sn:Int):=by omega
       have HX:=ydc HR.out.1 hl1 (by omega) (by omega) (by omega);obtain⟨lm,rfl⟩:∃lm,lvn=lm+1:=⟨lvn-1,by omega⟩
       have e9:((lm+1:Nat):Int)-1=(lm:Int):=by omega
       rw[e9]at HX
       have e10:V (Pg.insW p sn lm (Si.take.store ti (Pg.index p ((lm+1:Nat):Int)) (Pg.enc y K 7 K K Si.takeN ((lm+1:Nat):Int))) Si.takeN=Pg.insW p sn lv S st):=by rw[V,<-yd6 p sn lm Si ti (by omega)];exact HR.out.2
       go_wp2_with fail
       refine HX.mono ?_;rintro en w5 ⟨rfl,h5⟩;have H5:V _:=h5;clear h5 HX HR
       go_wp2_with fail
       exact⟨⟨j+1,lm,_,_,_,_,_,by omega,by omega,by go_num,by simp[hl1],by simp[hl2];omega,H5.out,e10.out⟩,by simp[intOf];omega⟩
      ·have hee:lvn=sn:=by omega
       subst hee
       have j1:¬(j:Int)<(lv:Int)-(lvn:Int):=by omega
       have hins:=HR.out.2;rw[yd5]at hins;have HX:=vA ⟨y,y,r,K,K,f⟩ HR.out.1 hl1 (by omega);simp only[Pg.En.val]at HX
       have hbx:wr.heap[w.heap.size]?=w3.heap[w.heap.size]?:=by
        have q1:=HR.out.1.but.block w.heap.size hlx fun hF=>by have:=zh.lt H.out hF;omega
        have q2:=HS.out.but.block w.heap.size hlx fun hF=>by have:=zh.lt H.out hF;omega
        exact q1.trans q2.symm
       have b2:=(I hbx).trans HZ.out.2.1;have b3:=(I hbx).trans HZ.out.2.2;have HIN:V _:=hins;clear hins hbx z1 z2 z3 k0 k1 k2 HR
       go_wp2_with fail
       refine HX.mono ?_;rintro en w6 ⟨rfl,h6⟩;obtain⟨F6,f1,f2,f3⟩:=h6.leaves
       have fin:V (∃F',zh w6 b ((Pg.insW p lvn lv S st).1.store (Pg.insW p lvn lv S st).2 (Pg.index p (lvn:Int)) (Pg.enc y y r K K f (lvn:Int))) F'/\But F w w6/\∀k,F' k->F k\/w.heap.size<=k):=by
        rw[V,<-HIN.out];exact⟨F6,f1,(But.yhl HB2.out).trans f2 fun _ _ h=>h,fun j hj=>(f3 j hj).imp id fun h=>by have:=HB2.out.size;omega⟩
       clear h6 f1 f2 f3 HX HIN
       go_wp2_with fail
       go_ret
       exact⟨rfl,fin.out⟩
  ·have e1:Pg.insC S t ⟨p,s,f,r⟩=xG S t p:=by rw[Pg.insC,if_neg (by simp[hc]),if_pos hz]
   have e2:Pg.insS S t ⟨p,s,f,r⟩=S:=by rw[Pg.insS,e1,if_neg hz]
   rw[e1,e2];clear e1 e2 h;generalize xG S t p=cc at*
   have hcb:(cc !=0)=y:=by simp[hz]
   clear hz hc
   go_enter Tryz.func214,Tryz.ntmps214
   go_wp2_with fail
   rw[<-hW1];clear hW1;refine(HC _).mono ?_;rintro en w2 ⟨rfl,hb2⟩;have y0:=C hb2 x0;have HB2:V (Below w.heap.size w w2):=zT HB1.out hb2;clear hb2
   go_wp2_with fail
   refine(HW _ HB2.out).mono ?_;rintro en w3 ⟨k,rfl,_,hb3⟩;have HB3:V (Below w.heap.size w w3):=zT HB2.out hb3;clear hb3
   go_wp2_with fail
   go_ret
   exact⟨rfl,fin0.out _ HB3.out⟩
 ·have e1:Pg.insC S t ⟨p,s,f,r⟩=Pg.Mp.code ⟨p,s,f,r⟩:=by rw[Pg.insC,if_pos hc]
  have e2:Pg.insS S t ⟨p,s,f,r⟩=S:=by rw[Pg.insS,e1,if_neg hc]
  rw[e1,e2];clear e1 e2 h HW;generalize Pg.Mp.code ⟨p,s,f,r⟩=cc at*
  have hcb:(cc !=0)=y:=by simp[hc]
  clear hc
  go_enter Tryz.func214,Tryz.ntmps214
  go_wp2_with fail
  rw[<-hW1];clear hW1;refine(HC _).mono ?_;rintro en w2 ⟨rfl,hb2⟩;have HB2:V (Below w.heap.size w w2):=zT HB1.out hb2;clear hb2
  go_wp2_with fail
  go_ret
  exact⟨rfl,fin0.out _ HB2.out⟩
theorem ydV {S:Pg.Fs} {t:Int} (ht:S.has t=y):(Pg.yhx S t=y ↔ ∀j:Nat,j<8->S.load t (j:Int)=0):=by
 unfold Pg.yhx;simp only[List.all_eq_true,List.mem_range,beq_iff_eq];refine forall_congr' fun j=>forall_congr' fun hj=> ?_
 have:S.at' t (j:Int)=y:=by simp[Pg.Fs.at',ht];omega
 simp[Pg.Fs.load,this]
theorem jW {w0 w:kJ} {k b:Nat} {F0:Nat->Prop} {S:Pg.Fs} {lv:Int} {e:Pg.En} {ts ps:List Int} {p t:Int} (h:St w0 w k b F0 S lv e (ts++[t]) ps p) (hl:ts.length<4000) (ht:S.has t=y):
 kT kI 217 #[kS (O ⟨k,0,J⟩)] w fun en w'=>en=D (d (Pg.yhx S t))/\Below w.heap.size w w':=by
 have HS:V _:=h;have HE:V _:=ydV ht
 have hlen:(ts++[t]).length=ts.length+1:=by simp
 clear h ht;generalize Pg.yhx S t=em at*
 go_enter Tryz.func217,Tryz.ntmps217
 go_wp2_with fail
 go_loopw [6] (fun i wr=>∃j:Nat,j<=8/\i=Q Z j/\V (Below w.heap.size w wr/\∀m:Nat,m<j->S.load t (m:Int)=0)) (fun i _=>8-(intOf i).toNat)
 case atStart=>exact⟨0,by omega,rfl,zR _,fun m hm=>by omega⟩
 case round=>
  obtain⟨j,hj,rfl,HR⟩:=hrel
  have i0:(0:Int)<=(j:Int):=by omega
  have hS:=HS.out.grow HR.out.1;obtain⟨B,v1,v2,F,hM,hF,hB,h1,h2,hBB,hm⟩:=hS.body;obtain⟨g1,cap1,rfl,hc,_⟩:=jt hM.o1;have k0:=hM.c0;have k8:=hM.c8;have HEnd:=fun m=>yaP (hS.grow (below_drewN (zR wr) m)) (by rw[hlen];omega)
  have e1:(((ts++[t]).length:Nat):Int)-1=(ts.length:Int):=by rw[hlen];omega
  rw[e1]at HEnd;have HLo:=fun m=>jf t (j:Int) (wr.drewN m) (hF.keep (G:=fun _=>False) (But.yhl (below_drewN (zR wr) m)) fun _ _=>id);clear hM hB h1 h2 hS hF e1 hBB hm
  have i2:(0:Int)<=(ts.length:Int):=by omega
  have i3:(ts.length:Int)<(ts.length:Int)+1:=by omega
  have HX:V (S.load t (j:Int)=0->∀m:Nat,m<j+1->S.load t (m:Int)=0):=fun hz m hm=>by
   by_cases e:m=j
   ·rw[e];exact hz
   ·exact HR.out.2 m (by omega)
  by_cases hlt:j<8
  ·have i1:(j:Int)<8:=by omega
   have HJ:V _:=hlt;have fin:V (∀nq,Below w.heap.size w (wr.drewN nq)):=fun nq=>zT HR.out.1 (below_drewN (zR _) nq);generalize hx:S.load t (j:Int)=x at*;have HXX:V _:=hx;clear hx;generalize S.at' t (j:Int)=at' at*;generalize ts.length=n at*
   by_cases hz:x=0
   ·have HZ:V _:=HX.out hz
    have hzb:(x !=0)=K:=by simp[hz]
    clear hz HX
    go_wp2_with fail
    go_quiet (first
     | (go_at_call 253;exact Calls.quiet_of_same (HEnd _))
     | (go_at_call 247;exact Calls.quiet_of_same (HLo _)))
    go_wp2_with fail
    exact⟨⟨j+1,by omega,by go_num,fin.out _,HZ.out⟩,by simp[intOf];omega⟩
   ·have HZ:V _:=hz
    have hzb:(x !=0)=y:=by simp[hz]
    clear hz HX
    go_wp2_with fail
    go_quiet (first
     | (go_at_call 253;exact Calls.quiet_of_same (HEnd _))
     | (go_at_call 247;exact Calls.quiet_of_same (HLo _)))
    go_wp2_with fail
    go_ret
    refine⟨xJ ?_,fin.out _⟩;cases em
    ·rfl
    ·exact absurd (HXX.out▸(HE.out.1 rfl j HJ.out)) HZ.out
  ·have i1:¬(j:Int)<8:=by omega
   have e8:j=8:=by omega
   subst e8;clear HEnd HLo k0 k8
   go_wp2_with fail
   go_ret
   exact⟨xJ (HE.out.2 fun m hm=>HR.out.2 m hm).symm,HR.out.1⟩
theorem vp (ts:List Int) (t:Int):zv (ts++[t])=zv ts++[Q Z t]:=by simp[zv]
theorem Mk.pop {w:kJ} {B k b:Nat} {lv:Int} {e:Pg.En} {g1 g2 n c1 c2:Nat} {T P:List Int} {p t q:Int} (h:Mk w B k b lv e (U (O ⟨g1,0,J⟩) (n+1) c1) (U (O ⟨g2,0,J⟩) (n+1) c2) (T++[t]) (P++[q]) p) (hT:T.length=n) (hP:P.length=n):
 Mk ((w.setCell ⟨k,8,J⟩ (U (O ⟨g1,0,J⟩) n c1)).setCell ⟨k,9,J⟩ (U (O ⟨g2,0,J⟩) n c2)) B k b lv e (U (O ⟨g1,0,J⟩) n c1) (U (O ⟨g2,0,J⟩) n c2) T P p:=by
 have hb:But (fun j=>j=k) w ((w.setCell ⟨k,8,J⟩ (U (O ⟨g1,0,J⟩) n c1)).setCell ⟨k,9,J⟩ (U (O ⟨g2,0,J⟩) n c2)):=
  ((But.refl (fun j=>j=k) w).setCell (a:=⟨k,8,J⟩) (.inr rfl) _).setCell (a:=⟨k,9,J⟩) (.inr rfl) _
 have o1:=h.o1;have o2:=h.o2;rw[E,X,hT,vp]at o1;rw[E,X,hP,vp]at o2;have p1:w.ownsRow B 3 1 (U (O ⟨g1,0,J⟩) n c1) n (zv T):=ownsRow_pop (by simp[zv,hT]) o1;have p2:w.ownsRow B 3 1 (U (O ⟨g2,0,J⟩) n c2) n (zv P):=ownsRow_pop (by simp[zv,hP]) o2;have n1:(kP (O ⟨g1,0,J⟩) n c1).ownBlock≠O k:=h.n1;have n2:(kP (O ⟨g2,0,J⟩) n c2).ownBlock≠O k:=h.n2;refine⟨?_,?_,?_,?_,?_,?_,?_,?_,?_,?_,?_,fun o=> ?_,?_,?_,h.ne,n1,n2,h.hi⟩
 iterate 12 (focus (simp[go_sem,h.c0,h.c1,h.c2,h.c3,h.c4,h.c5,h.c6,h.c7,h.c8,h.c9,h.c10,h.fz]))
 ·rw[hT]
  exact zb p1 hb fun j hj e=>n1 (e▸hj)
 ·rw[hP]
  exact zb p2 hb fun j hj e=>n2 (e▸hj)
theorem ycE (lv:Int):Pg.enc K K 0 K K 0 lv=0:=by
 unfold Pg.enc;split
 ·simp[Pg.yi1]
 ·rfl
theorem yfu {w0 w:kJ} {k b:Nat} {F0:Nat->Prop} {S:Pg.Fs} {lv:Int} {e:Pg.En} {ts ps:List Int} {p t q t' q':Int} (h:St w0 w k b F0 S lv e (ts++[t']++[t]) (ps++[q']++[q]) p) (hlen:ts.length=ps.length) (hl:ts.length<4000) (hv0:0<=lv) (hv1:lv<100):
 kT kI 218 #[kS (O ⟨k,0,J⟩)] w fun en w'=>en=D (Q Z t)/\St w0 w' k b F0 (S.store t' q' 0) (lv+1) Pg.En.zero (ts++[t']) (ps++[q']) p:=by
 have hT:(ts++[t']).length=ts.length+1:=by simp
 have hP:(ps++[q']).length=ts.length+1:=by simp[hlen]
 have HP:∀w1 e1,St w0 w1 k b F0 S (lv+1) e1 (ts++[t']) (ps++[q']) p->kT kI 215 #[kS (O ⟨k,0,J⟩),kQ #[d K,d K,Q Z 0,d K,d K,Q Z 0]] w1 fun en w'=>en=D (z #[])/\St w0 w' k b F0 (S.store t' q' 0) (lv+1) Pg.En.zero (ts++[t']) (ps++[q']) p:=fun w1 e1 h1=>by
  have:=vA Pg.En.zero h1 hlen (by omega);simp only[Pg.En.zero,Pg.En.val,ycE]at this;exact this
 have HEnd:=yaP h (by rw[E,X,hT];omega)
 have e1:(((ts++[t']++[t]).length:Nat):Int)-1=((ts.length+1:Nat):Int):=by rw[E,X,hT];omega
 rw[e1]at HEnd;obtain⟨B,v1,v2,F,hM,hF,hB,h1,h2,hBB,hm⟩:=h.body;obtain⟨g1,cap1,rfl,hc1,hcap1⟩:=jt hM.o1;obtain⟨g2,cap2,rfl,hc2,hcap2⟩:=jt hM.o2;rw[hT]at hc1 hcap1;rw[hP]at hc2 hcap2
 have hM2:Mk w B k b lv e (U (O ⟨g1,0,J⟩) (ts.length+1+1) cap1) (U (O ⟨g2,0,J⟩) (ts.length+1+1) cap2) (ts++[t']++[t]) (ps++[q']++[q]) p:=by have:=hM;rw[hT,hP]at this;exact this
 have h2':∀j,F j->¬mkF k (U (O ⟨g1,0,J⟩) (ts.length+1+1) cap1) (U (O ⟨g2,0,J⟩) (ts.length+1+1) cap2) j:=by have:=h2;rw[hT,hP]at this;exact this
 have k1:=hM2.c1;have k8:=hM2.c8;have k9:=hM2.c9;have kf:=hM2.fz;have HM:V _:=hM2;have HF:V (zh w b S F):=hF;have HBt:V _:=hB;have H1:V _:=h1;have H2:V _:=h2'
 have hm':∀j,mkF k (U (O ⟨g1,0,J⟩) (ts.length+1+1) cap1) (U (O ⟨g2,0,J⟩) (ts.length+1+1) cap2) j->F0 j\/w0.heap.size<=j:=by have:=hm;rw[hT,hP]at this;exact this
 have Hm:V _:=hm';have HBB:V _:=hBB;clear hM hF hB h1 h2 h hM2 h2' e1 hlen hm hm' hBB;generalize ts++[t']=T at*;generalize ps++[q']=P at*;generalize S.store t' q' 0=S' at*;generalize ts.length=m at*
 have i0:(0:Int)<=((m+1:Nat):Int):=by omega
 have i1:((m+1:Nat):Int)<((m+1+1:Nat):Int):=by omega
 have i2:((m+1:Nat):Int)<=(cap1:Int):=by omega
 have i3:((m+1:Nat):Int)<=(cap2:Int):=by omega
 generalize hn:m+1=n at*;have HN:V _:=hn;clear hn
 go_enter Tryz.func218,Tryz.ntmps218
 go_wp2_with fail
 refine HEnd.mono ?_;rintro en w1 ⟨rfl,rfl⟩
 go_wp2_with fail
 go_region
 have M2:V _:=(HM.out.yl6 (lv+1)).pop hT hP
 have bt:V (But (fun j=>j=k) w1 (((w1.setCell ⟨k,1,J⟩ (Q Z (lv+1))).setCell ⟨k,8,J⟩ (U (O ⟨g1,0,J⟩) n cap1)).setCell ⟨k,9,J⟩ (U (O ⟨g2,0,J⟩) n cap2))):=
  (((But.refl (fun j=>j=k) w1).setCell (a:=⟨k,1,J⟩) (.inr rfl) _).setCell (a:=⟨k,8,J⟩) (.inr rfl) _).setCell (a:=⟨k,9,J⟩) (.inr rfl) _
 have S2:V (St w0 (((w1.setCell ⟨k,1,J⟩ (Q Z (lv+1))).setCell ⟨k,8,J⟩ (U (O ⟨g1,0,J⟩) n cap1)).setCell ⟨k,9,J⟩ (U (O ⟨g2,0,J⟩) n cap2)) k b F0 S (lv+1) e T P p):=
  St.step HM.out HF.out HBt.out H1.out H2.out HBB.out Hm.out M2.out bt.out (fun j hj=> .inl hj) (fun j hj=> .inl hj)
 have S3:V (St w0 ((((w1.setCell ⟨k,1,J⟩ (Q Z (lv+1))).setCell ⟨k,8,J⟩ (U (O ⟨g1,0,J⟩) n cap1)).setCell ⟨k,9,J⟩ (U (O ⟨g2,0,J⟩) n cap2)).drew) k b F0 S (lv+1) e T P p):=S2.out.grow (zR _).drew;have HP3:=HP _ e S3.out;have HP3b:=HP _ e S2.out;clear HP HEnd k1 k8 k9 kf hc1 hc2
 go_wp2_with fail
 first
  | refine HP3.mono ?_
  | refine HP3b.mono ?_
 rintro en w2 ⟨rfl,hS⟩;have HS:V _:=hS;clear hS HP3 HP3b
 go_wp2_with fail
 go_ret
 exact⟨rfl,HS.out⟩
theorem St.rebase {w0 w:kJ} {k b:Nat} {F0:Nat->Prop} {S:Pg.Fs} {lv:Int} {e:Pg.En} {ts ps:List Int} {p:Int} (h:St w0 w k b F0 S lv e ts ps p):
 ∃H:Nat->Prop,St w w k b H S lv e ts ps p/\(∀j,H j->F0 j\/w0.heap.size<=j)/\∀j,H j->j<w.heap.size:=by
 obtain⟨B,v1,v2,F,hM,hF,hB,h1,h2,hBB,hm⟩:=h.body;refine⟨fun j=>F j\/mkF k v1 v2 j,⟨B,v1,v2,F,hM,hF,But.refl _ _,fun j hj=> .inl (.inl hj),h2,hBB,fun j hj=> .inl (.inr hj)⟩,fun j hj=>hj.elim (h1 j) (hm j),fun j hj=>hj.elim (fun h=>hF.lt h) fun h=>(hM.lt h).2⟩
theorem St.other {w0 w w':kJ} {k b:Nat} {H:Nat->Prop} {S:Pg.Fs} {lv:Int} {e:Pg.En} {ts ps:List Int} {p:Int} (h:St w0 w k b H S lv e ts ps p) {G:Nat->Prop} (hb:But G w w') (hG:∀j,G j->j<w0.heap.size/\¬H j):
 ∃H':Nat->Prop,St w' w' k b H' S lv e ts ps p/\(∀j,H' j->H j\/w0.heap.size<=j)/\∀j,H' j->j<w.heap.size:=by
 obtain⟨B,v1,v2,F,hM,hF,hB,h1,h2,hBB,hm⟩:=h.body
 have n1:∀j,F j->¬G j:=fun j hj hg=>by
  obtain⟨g1,g2⟩:=hG j hg;rcases h1 j hj with h|h
  ·exact g2 h
  ·omega
 have n2:∀j,mkF k v1 v2 j->¬G j:=fun j hj hg=>by
  obtain⟨g1,g2⟩:=hG j hg;rcases hm j hj with h|h
  ·exact g2 h
  ·omega
 exact⟨fun j=>F j\/mkF k v1 v2 j,⟨B,v1,v2,F,hM.keep hb n2,hF.keep hb n1,But.refl _ _,fun j hj=> .inl (.inl hj),h2,kY hBB hb.size,fun j hj=> .inl (.inr hj)⟩,fun j hj=>hj.elim (h1 j) (hm j),fun j hj=>hj.elim (fun h=>hF.lt h) fun h=>(hM.lt h).2⟩
def jS (p:Int) (ts:List Int) (n:Nat) (S:Pg.Fs) (G:List Int):Pg.Fs×List Int:=
 if n<=1\/Pg.yhx S (ts.getD (n-1) 0)=K then(S,G)else Pg.rmW p ts (n-1) S (G++[ts.getD (n-1) 0])
theorem ycH (p:Int) (ts:List Int) (m:Nat) (S:Pg.Fs) (G:List Int):Pg.rmW p ts (m+1) S G=jS p ts (m+1) (S.store (ts.getD m 0) (Pg.index p (3-(m:Int))) 0) G:=by
 unfold jS;rw[Pg.rmW]
 by_cases h:m=0\/Pg.yhx (S.store (ts.getD m 0) (Pg.index p (3-(m:Int))) 0) (ts.getD m 0)=K
 ·rw[if_pos h,if_pos (by simpa using h.imp (fun e=>by omega) id)]
 ·rw[if_neg h,if_neg (by intro hh;exact h (by simpa using hh.imp (fun e=>by omega) id))]
  simp
theorem xt (l:List Int) (m:Nat) (h:m<l.length):l.take (m+1)=l.take m++[l.getD m 0]:=by
 rw[List.take_succ_eq_append_getElem h];simp[List.getD,h]
structure yfm (w:kJ) (b:Nat) (F:Nat->Prop) (S S':Pg.Fs) (m:Pg.Mp) (G:List Int) (c:Int) (en:Ending) (w':kJ):Prop where
 body:∃ad cap F',en=D (z #[m.val,U ad G.length cap,Q Z c])/\zl w' ad G/\zh w' b S' F'/\But F w w'/\(∀k,F' k->F k\/w.heap.size<=k)/\∀g,ad=O ⟨g,0,J⟩->w.heap.size<=g/\¬F' g
def lenOf:Value->Nat
 | U _ n _=>n
 | _=>0
structure yfr (W5 wr:kJ) (k b:Nat) (H0 Hc:Nat->Prop) (Si:Pg.Fs) (ei:Pg.En) (T P:List Int) (n:Nat) (p:Int) (vg:Value) (Gi:List Int) (R:Pg.Fs×List Int):Prop where
 st:St wr wr k b Hc Si (4-(n:Int)) ei (T.take n) (P.take n) p
 but:But H0 W5 wr
 hc:∀j,Hc j->H0 j\/W5.heap.size<=j
 lt:∀j,Hc j->j<wr.heap.size
 own:wr.ownsRow W5.heap.size 3 1 vg Gi.length (zv Gi)
 far:∀j,vg.ownBlock=O j->¬Hc j
 has:∀x,x ∈ T->Si.has x=y
 rest:jS p T n Si Gi=R
theorem ybw {w W1 W5 wr w7:kJ} {k b n:Nat} {F H0 Hc:Nat->Prop} {S Si:Pg.Fs} {ei:Pg.En} {T P Gi:List Int} {p:Int} {ga:Option Addr} {gc:Nat} {R:Pg.Fs×List Int} (HI:yfr W5 wr k b H0 Hc Si ei T P n p (U ga Gi.length gc) Gi R) (hb:Below wr.heap.size wr w7) (H:zh w b S F) (hB5:But F w W5) (hH0:∀j,H0 j->F j\/W1.heap.size<=j) (hlw:w.heap.size<W1.heap.size) (h15:W1.heap.size<=W5.heap.size) (a0 a1 a2 a3:Value) (m:Pg.Mp) (c:Int):
 yfm w b F S Si m Gi c (D (z #[m.val,U ga Gi.length gc,Q Z c])) ((((w7.setCell ⟨w.heap.size,0,J⟩ a0).setCell ⟨w.heap.size,1,J⟩ a1).setCell ⟨w.heap.size,2,J⟩ a2).setCell ⟨w.heap.size,3,J⟩ a3):=by
 obtain⟨F2,hF,hB,h1⟩:=HI.st.leaves
 have hFc:∀j,F2 j->Hc j:=fun j hj=>by
  rcases h1 j hj with h|h
  ·exact h
  ·have:=hF.lt hj;omega
 have hFf:∀j,F2 j->F j\/W1.heap.size<=j:=fun j hj=>by
  rcases HI.hc j (hFc j hj)with h|h
  ·exact hH0 j h
  ·exact .inr (by omega)
 have hbt:But (fun j=>j=w.heap.size) wr ((((w7.setCell ⟨w.heap.size,0,J⟩ a0).setCell ⟨w.heap.size,1,J⟩ a1).setCell ⟨w.heap.size,2,J⟩ a2).setCell ⟨w.heap.size,3,J⟩ a3):=by
  iterate 4 refine But.setCell ?_ (by exact .inr rfl) _
  exact But.yhl hb
 refine⟨ga,gc,F2,rfl,?_,hF.keep hbt fun j hj e=> ?_,?_,fun j hj=>(hFf j hj).imp id fun h=>by omega,fun g hg=> ?_⟩
 ·exact ji (cap:=gc) (n:=Gi.length) (zb HI.own hbt fun j hj e=>by have:=(HI.own.lt j hj).1;omega)
 ·rcases hFf j hj with h|h
  ·have:=H.lt h;omega
  ·omega
 ·refine(hB5.trans HI.but fun i hi h=> ?_).trans hbt fun i hi e=>by omega
  rcases hH0 i h with h|h
  ·exact h
  ·omega
 ·subst hg
  have:=(HI.own.lt g rfl).1;exact⟨by omega,fun h=>HI.far g rfl (hFc g h)⟩
theorem ycu {b:Nat} {S:Pg.Fs} {F:Nat->Prop} (t p:Int) (w:kJ) (h:zh w b S F):
 kT kI 180 #[kS (O ⟨b,0,J⟩),Q Z t,Q Z p] w fun en w'=>yfm w b F S (Pg.rmR S t p).1 (Pg.tFM S t p) (Pg.rmR S t p).2 (Pg.tFC S t p) en w':=by
 have H:V (zh w b S F):=h;obtain⟨W1,hW1⟩:∃W1,W1=w.alloc (.cells #[Q Z 0,Q Z 0,Q Z 0,Q Z 0] 76):=⟨_,rfl⟩
 have hB1:Below w.heap.size w W1:=by rw[hW1];exact zA (zR w) _
 have r4:W1.cell? ⟨w.heap.size,0,J⟩=O (Q Z 0)/\W1.cell? ⟨w.heap.size,1,J⟩=O (Q Z 0)/\W1.cell? ⟨w.heap.size,2,J⟩=O (Q Z 0)/\W1.cell? ⟨w.heap.size,3,J⟩=O (Q Z 0):=by rw[hW1];simp[go_sem]
 have rf4:∀o,W1.frozen? ⟨w.heap.size,o,J⟩=K:=fun o=>by rw[hW1];simp[go_sem]
 have HR4:V _:=r4;have HF4:V _:=rf4;have HB1:V _:=hB1;have hlw:w.heap.size<W1.heap.size:=M _ _ r4.1;have HW:=xE t p W1 (h.keep (G:=fun _=>False) (But.yhl hB1) fun _ _=>id)
 by_cases hc:Pg.tFC S t p=0
 ·have hz:xG S t p=0:=by
   by_cases hz:xG S t p=0
   ·exact hz
   ·rw[Pg.tFC,if_pos hz]at hc
    exact absurd hc hz
  obtain⟨Y,s,lv,hY,W,hsl,hl3,hY3,hpl,hix⟩:=vJ hz;have hhas:=W.has;have hlenX:=W.len
  have e5:Pg.tFM S t p=s.e.map (lv:Int) p:=by rw[Pg.tFM,if_pos hc,hY,W.yhr,W.yht]
  have eR:Pg.rmR S t p=Pg.rmW p (tabs (Y++[s])) (Y.length+1) S []:=by rw[Pg.rmR,if_pos hc,hY];simp
  have hps:∀i,i<Y.length+1->(qz (Y++[s])).getD i 0=Pg.index p (3-(i:Int)):=fun i hi=>by
   have:=(yas S t p (i:=i) (by rw[hY];simpa using hi)).2.2;rw[hY]at this;exact this
  rw[hc,e5,eR];rw[hc,hY,W.yht,W.yhr]at HW
  have hlT:(tabs (Y++[s])).length=Y.length+1:=by rw[xM];simp
  have hlP:(qz (Y++[s])).length=Y.length+1:=by rw[jZ];simp
  rw[E,X]at hlenX;clear hc hz W hY hsl hpl hix h e5 eR r4 rf4 hB1;generalize tabs (Y++[s])=T at*;generalize qz (Y++[s])=P at*;generalize Y.length=N at*;generalize hee:s.e=e at*;clear hee;generalize hmm:e.map (lv:Int) p=mm at*;have HMM:V _:=hmm;clear hmm;obtain⟨mp,ms,mf,mr⟩:=mm;rw[ycH]
  go_enter Tryz.func180,Tryz.ntmps180
  go_wp2_with fail
  rw[<-hW1];clear hW1;refine HW.mono ?_;rintro en w3 ⟨k,rfl,hS,hb3⟩;have HMap:=qr hS;rw[HMM.out]at HMap;simp only[Pg.Mp.val]at HMap;have HS3:V _:=hS;have HB3:V (Below W1.heap.size W1 w3):=hb3;clear hS hb3 HW
  go_wp2_with fail
  refine HMap.mono ?_;rintro en w4 ⟨rfl,hb4⟩;have HB4:V (Below w3.heap.size w3 w4):=hb4;clear hb4 HMap;obtain⟨W5,hW5⟩:∃W5,W5=w4.alloc (.cells #[Q Z mp,Q Z ms,Q Z mf,Q Z mr] 76):=⟨_,rfl⟩
  have hB5:Below w3.heap.size w3 W5:=by rw[hW5];exact zA HB4.out _
  have m4:W5.cell? ⟨w4.heap.size,0,J⟩=O (Q Z mp)/\W5.cell? ⟨w4.heap.size,1,J⟩=O (Q Z ms)/\W5.cell? ⟨w4.heap.size,2,J⟩=O (Q Z mf)/\W5.cell? ⟨w4.heap.size,3,J⟩=O (Q Z mr):=by rw[hW5];simp[go_sem]
  have hl45:w4.heap.size<W5.heap.size:=M _ _ m4.1;have Z5:V _:=qH (zT HB3.out hB5) HR4.out;have ZF5:V (∀o,W5.frozen? ⟨w.heap.size,o,J⟩=K):=fun o=>((zT HB3.out hB5).frozen (p:=⟨w.heap.size,o,J⟩) hlw).trans (HF4.out o)
  have hS6:∃H0':Nat->Prop,St W5 W5 k b H0' S (lv:Int) e T P p/\(∀j,H0' j->F j\/W1.heap.size<=j)/\∀j,H0' j->j<w4.heap.size:=by
   obtain⟨H',q1,q2,q3⟩:=(HS3.out.grow HB4.out).other (w':=W5) (G:=fun _=>False) (by rw[hW5];exact But.yhl (zA (zR _) _)) fun _ h=>h.elim;exact⟨H',q1,q2,q3⟩
  obtain⟨H0,hS5,hH0,hH0'⟩:=hS6
  have HP2:kT kI 215 #[kS (O ⟨k,0,J⟩),kQ #[d K,d K,Q Z 0,d K,d K,Q Z 0]] W5 fun en w'=>en=D (z #[])/\St W5 w' k b H0 (S.store (T.getD N 0) (Pg.index p (3-(N:Int))) 0) (lv:Int) Pg.En.zero (T.take (N+1)) (P.take (N+1)) p:=by
   have eT:T=T.take N++[T.getD N 0]:=by rw[<-xt T N (by omega),<-hlT,L]
   have eP:P=P.take N++[Pg.index p (3-(N:Int))]:=by rw[<-hps N (by omega),<-xt P N (by omega),<-hlP,L]
   have hS7:St W5 W5 k b H0 S (lv:Int) e (T.take N++[T.getD N 0]) (P.take N++[Pg.index p (3-(N:Int))]) p:=by rw[<-eT,<-eP];exact hS5
   have:=vA Pg.En.zero hS7 (by simp;omega) (by simp;omega);simp only[Pg.En.zero,Pg.En.val,ycE]at this;rw[<-eT,<-eP]at this
   have t1:T.take (N+1)=T:=by rw[<-hlT,L]
   have t2:P.take (N+1)=P:=by rw[<-hlP,L]
   rw[t1,t2];exact this
  have M5:V _:=m4;have HBt5:V (But F w W5):=(But.yhl HB1.out).trans ((HS3.out.but).trans (But.yhl (F:=fun _=>False) hB5) fun _ _ h=>h.elim) fun _ _ h=>h;have HH0:V _:=hH0;have HH0':V _:=hH0';have hl15:W1.heap.size<=W5.heap.size:=kY HB3.out.size hB5.size;clear hS5 hH0 hH0' m4 hB5 HS3
  have hlv:(lv:Int)=4-((N+1:Nat):Int):=by omega
  rw[hlv]at HP2;generalize hR:jS p T (N+1) (S.store (T.getD N 0) (Pg.index p (3-(N:Int))) 0) []=R at*;have HRR:V _:=hR;clear hR
  have hhas':∀x,x ∈ T->(S.store (T.getD N 0) (Pg.index p (3-(N:Int))) 0).has x=y:=fun x hx=>by rw[Pg.yit];exact hhas x hx
  have HHS:V _:=hhas';clear hhas hhas'
  go_wp2_with fail
  rw[<-hW5];clear hW5;refine HP2.mono ?_;rintro en w6 ⟨rfl,h6⟩;have HS6:V _:=h6;clear h6 HP2
  go_wp2_with fail
  go_loopw [12] (fun vg wr=>∃(n:Nat) (Si:Pg.Fs) (ei:Pg.En) (Gi:List Int) (Hc:Nat->Prop),1<=n/\Gi.length+n=N+1/\V (yfr W5 wr k b H0 Hc Si ei T P n p vg Gi R)) (fun vg _=>10-lenOf vg)
  case atStart=>
   obtain⟨Hc,q1,q2,q3⟩:=HS6.out.rebase;exact⟨N+1,_,_,[],Hc,by omega,by simp,q1,HS6.out.but,q2,q3,kF _ _ _ _,fun j hj=>by simp[kV]at hj,HHS.out,HRR.out⟩
  case round=>
   obtain⟨n,Si,ei,Gi,Hc,hn1,hgn,HI⟩:=hrel
   have hTn:(T.take n).length=n:=by simp;omega
   have HBR:=vq HI.out.st (by omega);rw[hTn]at HBR;obtain⟨ga,gc,hvg⟩:=zF HI.out.own;subst hvg
   by_cases h1:n=1
   ·subst h1
    have hb1:decide (1<1)=K:=by decide
    rw[hb1]at HBR
    have HFin:V (R=(Si,Gi)):=by rw[V,<-HI.out.rest,jS,if_pos (by left;omega)]
    go_wp2_with fail
    refine HBR.mono ?_;rintro en w7 ⟨rfl,hw7⟩;have hb7:Below wr.heap.size wr w7:=hw7▸zR wr;clear hw7
    have hbw:w7.heap[w.heap.size]?=W5.heap[w.heap.size]?:=by
     have q1:=HI.out.but.block w.heap.size (by omega) fun h=>by
      rcases HH0.out _ h with h|h
      ·have:=zh.lt H.out h;omega
      ·omega
     exact(hb7.block _ (by have:=HI.out.but.size;omega)).trans q1
    have hbm:w7.heap[w4.heap.size]?=W5.heap[w4.heap.size]?:=by
     have q1:=HI.out.but.block w4.heap.size (by omega) fun h=>by have:=HH0'.out _ h;omega
     exact(hb7.block _ (by have:=HI.out.but.size;omega)).trans q1
    have z0:=(I hbw).trans Z5.out.1;have z1:=(I hbw).trans Z5.out.2.1;have z2:=(I hbw).trans Z5.out.2.2.1;have z3:=(I hbw).trans Z5.out.2.2.2;have zf:∀o,w7.frozen? ⟨w.heap.size,o,J⟩=K:=fun o=>(kR hbw).trans (ZF5.out o);have m0:=(I hbm).trans M5.out.1;have m1:=(I hbm).trans M5.out.2.1;have m2:=(I hbm).trans M5.out.2.2.1;have m3:=(I hbm).trans M5.out.2.2.2;have fin:V _:=ybw HI.out hb7 H.out HBt5.out HH0.out hlw hl15 (Q Z mp) (Q Z ms) (Q Z mf) (Q Z mr) ⟨mp,ms,mf,mr⟩ 0;clear hbw hbm hb7 HBR
    go_wp2_with fail
    refine kB (v:=z #[kQ #[Q Z mp,Q Z ms,Q Z mf,Q Z mr],U ga Gi.length gc,Q Z 0]) ?_ rfl ?_
    ·simp[results,Tryz.results180,go_sem,z0,z1,z2,z3]
    ·rw[HRR.out,HFin.out]
     exact fin.out
   ·obtain⟨m,rfl⟩:∃m,n=m+2:=⟨n-2,by omega⟩
    have hb1:decide (1<m+2)=y:=by simp
    rw[hb1]at HBR
    have eT:T.take (m+2)=T.take m++[T.getD m 0]++[T.getD (m+1) 0]:=by rw[xt T (m+1) (by omega),xt T m (by omega)]
    have eT1:T.take (m+2)=T.take (m+1)++[T.getD (m+1) 0]:=xt T (m+1) (by omega)
    have eP:P.take (m+2)=P.take m++[P.getD m 0]++[P.getD (m+1) 0]:=by rw[xt P (m+1) (by omega),xt P m (by omega)]
    have hin:T.getD (m+1) 0 ∈ T:=by
     have:m+1<T.length:=by omega
     simp[List.getD,this]
    have HTE:kT kI 217 #[kS (O ⟨k,0,J⟩)] wr fun en w'=>en=D (d (Pg.yhx Si (T.getD (m+1) 0)))/\Below wr.heap.size wr w':=jW (by rw[<-eT1];exact HI.out.st) (by simp;omega) (HI.out.has _ hin);cases hem:Pg.yhx Si (T.getD (m+1) 0)
    ·rw[hem]at HTE
     have HFin:V (R=(Si,Gi)):=by rw[V,<-HI.out.rest,jS,if_pos (by right;exact hem)]
     go_wp2_with fail
     refine HBR.mono ?_;rintro en w7 ⟨rfl,hw7⟩;subst w7
     go_wp2_with fail
     refine HTE.mono ?_;rintro en w7 ⟨rfl,hb7⟩
     have hbw:w7.heap[w.heap.size]?=W5.heap[w.heap.size]?:=by
      have q1:=HI.out.but.block w.heap.size (by omega) fun h=>by
       rcases HH0.out _ h with h|h
       ·have:=zh.lt H.out h;omega
       ·omega
      exact(hb7.block _ (by have:=HI.out.but.size;omega)).trans q1
     have hbm:w7.heap[w4.heap.size]?=W5.heap[w4.heap.size]?:=by
      have q1:=HI.out.but.block w4.heap.size (by omega) fun h=>by have:=HH0'.out _ h;omega
      exact(hb7.block _ (by have:=HI.out.but.size;omega)).trans q1
     have z0:=(I hbw).trans Z5.out.1;have z1:=(I hbw).trans Z5.out.2.1;have z2:=(I hbw).trans Z5.out.2.2.1;have z3:=(I hbw).trans Z5.out.2.2.2;have zf:∀o,w7.frozen? ⟨w.heap.size,o,J⟩=K:=fun o=>(kR hbw).trans (ZF5.out o);have m0:=(I hbm).trans M5.out.1;have m1:=(I hbm).trans M5.out.2.1;have m2:=(I hbm).trans M5.out.2.2.1;have m3:=(I hbm).trans M5.out.2.2.2;have fin:V _:=ybw HI.out hb7 H.out HBt5.out HH0.out hlw hl15 (Q Z mp) (Q Z ms) (Q Z mf) (Q Z mr) ⟨mp,ms,mf,mr⟩ 0;clear hbw hbm hb7 HBR HTE
     go_wp2_with fail
     refine kB (v:=z #[kQ #[Q Z mp,Q Z ms,Q Z mf,Q Z mr],U ga Gi.length gc,Q Z 0]) ?_ rfl ?_
     ·simp[results,Tryz.results180,go_sem,z0,z1,z2,z3]
     ·rw[HRR.out,HFin.out]
      exact fin.out
    ·rw[hem]at HTE
     have HNext:V (jS p T (m+1) (Si.store (T.getD m 0) (Pg.index p (3-(m:Int))) 0) (Gi++[T.getD (m+1) 0])=R):=by
      rw[V,<-HI.out.rest,<-ycH]
      conv=>rhs;rw[jS,if_neg (by intro hh;rcases hh with h|h;(· omega);(· rw[show m+2-1=m+1 from rfl,hem]at h;cases h))]
      rfl
     go_wp2_with fail
     refine HBR.mono ?_;rintro en w7 ⟨rfl,hw7⟩;subst w7
     go_wp2_with fail
     refine HTE.mono ?_;rintro en w7 ⟨rfl,hb7⟩
     have hlvl:(4-((m+2:Nat):Int))+1=4-((m+1:Nat):Int):=by omega
     have hS7:St wr w7 k b Hc Si (4-((m+2:Nat):Int)) ei (T.take m++[T.getD m 0]++[T.getD (m+1) 0]) (P.take m++[P.getD m 0]++[P.getD (m+1) 0]) p:=by rw[<-eT,<-eP];exact HI.out.st.grow hb7
     have HCut:=yfu hS7 (by simp;omega) (by simp;omega) (by omega) (by omega);rw[hlvl,hps m (by omega)]at HCut;rw[<-xt T m (by omega)]at HCut
     have eP1:P.take m++[Pg.index p (3-(m:Int))]=P.take (m+1):=by rw[xt P m (by omega),hps m (by omega)]
     rw[eP1]at HCut;have HB7:V _:=hb7;have HIN:V _:=HI.out
     have hgl:Gi.length+1<=4:=by omega
     generalize T.getD (m+1) 0=tg at*;generalize T.getD m 0=tm at*;clear hb7 HBR HTE eT eT1 eP hin eP1 hlvl hS7
     go_wp2_with fail
     refine HCut.mono ?_;rintro en w8 ⟨rfl,h8⟩;have HS8:V _:=h8;have hB8:But Hc wr w8:=h8.but;have hown8:w8.ownsRow W5.heap.size 3 1 (U ga Gi.length gc) Gi.length (zv Gi):=zb HI.out.own hB8 fun j hj=>HI.out.far j hj
     have hs58:W5.heap.size<=w8.heap.size:=by have:=HI.out.but.size;have:=hB8.size;omega
     have HB8:V _:=hB8;obtain⟨q0,hq,hz0,hz1,hz2⟩:=info_parts jY;clear h8 HCut hB8
     go_wp2_with (first
      | (at_builtin;refine wpList_append_lies _ rfl _ _ 58 rfl W5.heap.size 3 q0 (Q Z 0) 1 8 Tryz.underlying58 hq hz0 hz1 hz2 rfl (by decide) _ _ _ rfl (hown8.alloc _) ⟨w8.heap.size,0,J⟩ 1 1 [Q Z tg] rfl rfl ?c1 ?c2 (by decide) ?c3 ?c4 ?c5 (w8.heap.size+1) (by simp) ?_))
     case c1=>
      intro j u hj
      match j,hj with
      | 0,hj=>simp at hj;subst hj;simp[Addr.add,go_sem]
     case c2=>intro u hu;simp at hu;subst hu;rfl
     case c3=>unfold maxLen;omega
     case c4=>omega
     case c5=>simp;omega
     intro g9 cap9 w9 hown9 hgrow9 hat9 hlt9;have HO9:V (w9.ownsRow W5.heap.size 3 1 (U (O ⟨g9,0,J⟩) (Gi.length+1) cap9) (Gi.length+1) (zv Gi++[Q Z tg])):=hown9;have hB9:But (fun j=>(kP ga Gi.length gc).ownBlock=O j) w8 w9:=(But.yhl (zA (zR w8) _)).grown hgrow9 fun k hk=> .inr hk;have HB9:V _:=hB9;have HA9:V ((kP ga Gi.length gc).ownBlock=O g9\/g9=w8.heap.size+1):=hat9;clear hown9 hgrow9 hat9 hlt9 hown8 hB9
     have fin:V (∃Hc',yfr W5 w9 k b H0 Hc' (Si.store tm (Pg.index p (3-(m:Int))) 0) Pg.En.zero T P (m+1) p (U (O ⟨g9,0,J⟩) (Gi.length+1) cap9) (Gi++[tg]) R):=by
      have hlt:∀j,(kP ga Gi.length gc).ownBlock=O j->W5.heap.size<=j/\j<wr.heap.size:=fun j hj=>HIN.out.own.lt j hj;obtain⟨Hc',q1,q2,q3⟩:=HS8.out.other HB9.out fun j hj=>⟨(hlt j hj).2,HIN.out.far j hj⟩;refine⟨Hc',q1,?_,fun j hj=> ?_,fun j hj=>Nat.lt_of_lt_of_le (q3 j hj) HB9.out.size,?_,fun j hj=> ?_,fun x hx=> ?_,HNext.out⟩
      ·refine(HIN.out.but.trans HB8.out fun i hi h=> ?_).trans HB9.out fun i hi h=> ?_
       ·rcases HIN.out.hc i h with h|h
        ·exact h
        ·omega
       ·have:=(hlt i h).1;omega
      ·rcases q2 j hj with h|h
       ·exact HIN.out.hc j h
       ·have:=HIN.out.but.size;exact .inr (by omega)
      ·rw[E,X,vp]
       exact HO9.out
      ·have e:g9=j:=by simpa[kV]using hj
       subst e;intro hh;rcases HA9.out with h|h
       ·rcases q2 g9 hh with h'|h'
        ·exact HIN.out.far g9 h h'
        ·have:=(hlt g9 h).2;omega
       ·have:=q3 g9 hh;omega
      ·rw[Pg.yit];exact HIN.out.has x hx
     go_wp2_with fail
     obtain⟨Hc',hI'⟩:=fin.out;exact⟨⟨m+1,_,_,Gi++[tg],Hc',by omega,by simp;omega,hI'⟩,by simp[lenOf];omega⟩
 ·have e2:Pg.tFM S t p= .zz:=by rw[Pg.tFM,if_neg hc]
  have e3:Pg.rmR S t p=(S,[]):=by rw[Pg.rmR,if_neg hc]
  rw[e2,e3];clear h e2 e3 r4 rf4 hB1;generalize Pg.tFC S t p=cc at*
  have hcb:(cc !=0)=y:=by simp[hc]
  clear hc
  go_enter Tryz.func180,Tryz.ntmps180
  go_wp2_with fail
  rw[<-hW1];clear hW1;refine HW.mono ?_;rintro en w3 ⟨k,rfl,_,hb3⟩;obtain⟨y0,y1,y2,y3⟩:=qH hb3 HR4.out;have yf:∀o,w3.frozen? ⟨w.heap.size,o,J⟩=K:=fun o=>(hb3.frozen (p:=⟨w.heap.size,o,J⟩) hlw).trans (HF4.out o);have HB3:V (Below w.heap.size w w3):=zT HB1.out hb3;clear hb3 HW
  go_wp2_with fail
  have hBf:=zo HB3.out w.heap.size (kN _) (Q Z 0) (Q Z 0) (Q Z 0) (Q Z 0);refine kB (v:=z #[kQ #[Q Z 0,Q Z 0,Q Z 0,Q Z 0],U J 0 0,Q Z cc]) ?_ rfl ⟨J,0,F,rfl,fun j hj=>absurd hj (by simp),zh.keep (G:=fun _=>False) H.out (But.yhl hBf) fun _ _=>id,But.yhl hBf,fun k hk=> .inl hk,fun g hg=>by cases hg⟩;simp[results,Tryz.results180,go_sem,y0,y1,y2,y3]
def xh (A:List (List UInt8)) (e:Ending) (w':kJ):Prop:=match Pg.yih A with
 | none=>e=D (z #[U J 0 0,d K])
 | some ns=>∃ad' cap',e=D (z #[U ad' ns.length cap',d y])/\zl w' ad' ns
theorem xh.no {A:List (List UInt8)} {w':kJ} (h:Pg.yih A=J):xh A (D (z #[U J 0 0,d K])) w':=by
 unfold xh;rw[h]
theorem xh.yes {A:List (List UInt8)} {ns:List Int} {ad:Option Addr} {k cp:Nat} {w':kJ} (h:Pg.yih A=O ns) (hl:ns.length=k) (hi:zl w' ad ns):xh A (D (z #[U ad k cp,d y])) w':=by
 unfold xh;rw[h];exact⟨ad,cp,by rw[hl],hi⟩
theorem yaX (ad:Option Addr) (cap:Nat) (A:List (List UInt8)) (hA:A.length<=10) (hl:∀l ∈ A,l.length<=1000000) (w:kJ) (hn:zt w ad A) (hG:jz w):
 kT kI 18 #[U ad A.length cap] w fun e w'=>xh A e w'/\Below w.heap.size w w':=by
 obtain⟨i0,hi,hz0,hz1,hz2⟩:=info_parts yaS;have HN:V (zt w ad A):=hn;have HG:V (jz w):=hG;have HLL:V (∀l ∈ A,l.length<=1000000):=hl;have HAL:V (A.length<=10):=hA;clear hn hG hl hA
 go_enter Tryz.func18,Tryz.ntmps18
 go_wp2_with fail
 go_loopw [4,11] (fun v i wr=>∃(k:Nat) (ns:List Int),i=Q Z k/\k<=A.length/\ns.length=k/\V (Pg.yih (A.take k)=O ns)/\V (wr.ownsRow w.heap.size 3 1 v k (zv ns))/\V (But (fun _=>False) w wr)) (fun _ i _=>A.length-(intOf i).toNat)
 case atStart=>exact⟨0,[],rfl,Nat.zero_le _,rfl,rfl,kF w _ _ _,But.refl _ _⟩
 case round=>
  obtain⟨k,ns,rfl,hk,hnl,HK,HO,HB⟩:=hrel;obtain⟨ao,cp,rfl⟩:=zF HO.out
  by_cases hlt:k<A.length
  ·have i0':(0:Int)<=(k:Int):=by omega
   have i1:(k:Int)<(A.length:Int):=by omega
   have i2:(k:Int)<10:=by have:=HAL.out;omega
   obtain⟨g,of,rfl,hg,hc⟩:=HN.out k hlt;have c0:=(HB.out.cell (a:=⟨g,of+k,J⟩) hg (fun e=>e)).trans hc;have hsz:(A.getD k []).length<=1000000:=HLL.out _ (by rw[List.getD,kC hlt];exact List.getElem_mem hlt);have hb:Below w.heap.size w wr:=HB.out.below (kN _) fun _ e=>e.elim;have HC:=ybu (xT (A.getD k [])) (by rw[qm];exact hsz) wr (HG.out.later hb);rw[qk]at HC
   have HT:V (A.take (k+1)=A.take k++[A.getD k []]):=by
    rw[V,List.take_add_one,kC hlt];simp[List.getD,hlt]
   have HD:V (A=A.take k++A.getD k []::A.drop (k+1)):=by
    have e:A.getD k []=A[k]:=by simp[List.getD,hlt]
    rw[V,e,List.getElem_cons_drop,List.take_append_drop]
   have HLT:V (k<A.length):=hlt;have HNL:V (ns.length=k):=hnl;generalize A.getD k []=x at*;clear hc hsz hb hk hlt hnl
   cases hx:Pg.numD x with
   | none=>
     have HR:V (Pg.yih A=J):=by
      rw[V,HD.out];exact Pg.numsD_none _ _ _ hx
     rw[hx]at HC;simp only[Option.isSome_none]at HC;clear hx HT HD
     go_wp2_with fail
     refine HC.mono ?_;rintro e w2 ⟨n,rfl,_,hb2⟩;have HB2:V (But (fun _=>False) w w2):=HB.out.trans (But.yhl hb2) fun _ _ e=>e;clear hb2 HC
     go_wp2_with fail
     refine kB (v:=z #[U J 0 0,d K]) ?_ rfl ⟨xh.no HR.out,HB2.out.below (kN _) fun _ e=>e.elim⟩;simp[results,Tryz.results18,go_sem]
   | some v=>
     have HS:V (Pg.yih (A.take (k+1))=O (ns++[v])):=by
      rw[V,HT.out,Pg.numsD_snoc,HK.out,hx]
     rw[hx]at HC;simp only[Option.isSome_some]at HC
     have HMX:V (k+1<=maxLen):=by have:=HLT.out;have:=HAL.out;unfold V maxLen;omega
     have HBY:V ((k+1)*8<=140737488355328):=by have:=HLT.out;have:=HAL.out;unfold V;omega
     clear hx HT HD HK
     go_wp2_with fail
     refine HC.mono ?_;rintro e w2 ⟨n,rfl,hn,hb2⟩;obtain rfl:=hn v rfl;have HB2:V (But (fun _=>False) w w2):=HB.out.trans (But.yhl hb2) fun _ _ e=>e;have HS2:V (w.heap.size<=w2.heap.size):=HB2.out.size;have HO2:V ((w2.alloc (.cells #[Q Z n] 3)).ownsRow w.heap.size 3 1 (U ao k cp) k (zv ns)):=(zr HO.out hb2).alloc (.cells #[Q Z n] 3);clear hb2 HC HO HB hn c0
     go_wp2_with (at_builtin;refine wpList_append_lies _ rfl _ _ 58 rfl w.heap.size 3 i0 _ 1 8 Tryz.underlying58 hi hz0 hz1 hz2 rfl (by decide) _ k (zv ns) rfl HO2.out ⟨w2.heap.size,0,J⟩ 1 1 [Q Z n] rfl rfl (World.news_of_block (heap_alloc_new _ _)) (by simp[Value.oneCell']) (by decide) HMX.out HBY.out (kY HS2.out (by simp)) _ rfl ?_;intro g' cap' w3 hown hgrow hat hlt3;have HO3:V _:=hown;have HG3:V _:=hgrow;clear hown hgrow hat)
     have HB3:V (But (fun _=>False) w w3):=(HB2.out.alloc _).grown HG3.out fun k hk=> .inl (World.ownsRow.lt HO2.out k hk).1
     have HO4:V (w3.ownsRow w.heap.size 3 1 (U (O ⟨g',0,J⟩) (k+1) cap') (k+1) (zv (ns++[n]))):=by
      rw[V,<-yd7];exact HO3.out
     clear HO2 HG3 HB2 HS2 HO3 hlt3
     go_wp2_with fail
     refine⟨⟨k+1,ns++[n],by go_num,HLT.out,by simp[HNL.out],HS,HO4,HB3⟩,?_⟩;have:=HLT.out;simp[intOf];omega
  ·have hk':k=A.length:=by omega
   have i1:¬(k:Int)<(A.length:Int):=by omega
   have HR:V (Pg.yih A=O ns):=by
    have:=HK.out;rw[hk',L]at this;exact this
   have HNL:V (ns.length=k):=hnl
   have HO4:V (wr.ownsRow w.heap.size 3 1 (U ao k cp) ns.length (zv ns)):=by
    rw[V,hnl];exact HO.out
   clear hk hk' hlt hnl HO HK
   go_wp2_with fail
   refine kB (v:=z #[U ao k cp,d y]) ?_ rfl ⟨xh.yes HR.out HNL.out (ybv HO4.out),HB.out.below (kN _) fun _ e=>e.elim⟩;simp[results,Tryz.results18,go_sem]
end Go.Proofs.YtdphiompijbelaaGreatDoor
