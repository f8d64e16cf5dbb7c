import Derived.Test.YtdphiompijbelaaGreatPageRef
set_option linter.all false
set_option maxRecDepth 100000
open Bool renaming false->K,true->n
open Go.Proofs.Tryz renaming prog->O
open List renaming length_append->U,length_drop->A
open Nat renaming lt_of_lt_of_le->V
open Go.World renaming cell?_of_block->Y,frozen?_of_block->T,news_of_block->Z,cell?_setCell_other->c
open Go renaming cell_regrown->N,World->E,heap_alloc_new->D,Value->y,Calls->kJ
open Go.RowKit renaming Hid->R
open Option renaming none->B,some->C
open Go.Value renaming int->J,slice->S,bool->Q,slice->H,ownBlock->z,pointer->kI,int->kP
open Go.IntKind renaming i64->I
set_option maxHeartbeats 4000000
namespace Go.Proofs.YtdphiompijbelaaGreat
open Go.RowKit Go.Sort
theorem vr:(Tryz.prog.info? 121).map (fun i=>(i.zero,i.size,i.bytes))=C (C (.agg #[J I 0,J I 0,J I 0,J I 0,Q K]),5,40):=by kernel_rfl
structure jV (w:E) (b:Nat) (vb:y) (L:List Pg.Ln):Prop where
 c0:w.cell? ⟨b,0,B⟩=C vb
 fb:∀p,w.frozen? ⟨b,p,B⟩=K
 row:zk w 121 5 vb L.length (zL L)
 nb:vb.ownBlock≠C b
 kept:Pg.Kept L
namespace jV
variable {w w' W:E} {b:Nat} {vb v':y} {L L':List Pg.Ln}
theorem lb (h:jV w b vb L):b<w.heap.size:=World.block_lt_of_cell? _ _ h.c0
theorem lt (h:jV w b vb L) {k:Nat} (hk:bkF b vb k):k<w.heap.size:=by
 rcases hk with rfl|hk
 ·exact h.lb
 ·exact h.row.lt k hk
theorem keep (h:jV w b vb L) {F:Nat->Prop} (hb:But F w w') (hF:∀k,bkF b vb k->¬F k):jV w' b vb L:=by
 have kb:=hb.block b h.lb (hF b (.inl rfl));exact⟨(Y kb).trans h.c0,fun p=>(T kb).trans (h.fb p),h.row.but hb fun k hk=>hF k (.inr hk),h.nb,h.kept⟩
theorem grow (h:jV w b vb L) (hb:Below w.heap.size w w'):jV w' b vb L:=h.keep (F:=fun _=>False) (But.ygr hb) (fun _ _=>id)
theorem put (h:jV w b vb L) (hb:But (fun j=>vb.ownBlock=C j) w W) (hr:zk W 121 5 v' L'.length (zL L')) (hv:∀j,v'.ownBlock=C j->vb.ownBlock=C j\/w.heap.size<=j) (hg:Pg.Kept L'):
 jV (W.setCell ⟨b,0,B⟩ v') b v' L'/\Chg b 0 (bkF b vb) w (W.setCell ⟨b,0,B⟩ v')/\(∀k,bkF b v' k->bkF b vb k\/w.heap.size<=k):=by
 have hl:=h.lb;have kb:W.heap[b]?=w.heap[b]?:=hb.block b hl h.nb;have hc:W.cell? ⟨b,0,B⟩=C vb:=(Y (a:=⟨b,0,B⟩) kb).trans h.c0;have hne:v'.ownBlock≠C b:=fun e=>(hv b e).elim h.nb (fun h=>by omega);refine⟨⟨World.cell?_setCell_same _ _ _ hc,fun p=> ?_,?_,hne,hg⟩,⟨?_,fun p hp=> ?_⟩,fun k hk=> ?_⟩
 ·have:=(T (a:=⟨b,p,B⟩) kb).trans (h.fb p)
  simpa using this
 ·exact hr.of_block fun k hk=>Below.heap_setCell _ _ _ _ (fun e=>hne (by rw[hk];exact congrArg C e))
 ·exact(hb.mono (G:=bkF b vb) fun i _ hi=> .inr hi).setCell (a:=⟨b,0,B⟩) (.inr (.inl rfl)) _
 ·rw[c _ _ _ _ (fun e=>hp (by injection e with _ e;exact e.symm))]
  exact Y (a:=⟨b,p,B⟩) kb
 ·rcases hk with rfl|hk
  ·exact .inl (.inl rfl)
  ·exact(hv k hk).imp .inr id
end jV
theorem jC {b:Nat} {vb:y} {L:List Pg.Ln} (q:Int) (hq:Pg.fits q) (w:E) (h:jV w b vb L):
 kJ O 101 #[kI (C ⟨b,0,B⟩),J I q] w fun e w'=>e= .returned (J I (Pg.yhl L q))/\Below w.heap.size w w':=by
 obtain⟨ad,cap,rfl⟩:=h.row.form;have hlen:=h.kept.le;have HB:R _:=h;clear h
 go_enter Tryz.func101,Tryz.ntmps101
 go_wp2_with fail
 go_loopw [5] (fun i wr=>∃j:Nat,j<=L.length/\i=J I j/\R ((∀t,t<j->(L.getD t .zz).has q=K)/\Below w.heap.size w wr)) (fun i _=>L.length-(intOf i).toNat)
 case atStart=>exact⟨0,by omega,rfl,⟨fun t ht=>by omega,zR _⟩⟩
 case round=>
  obtain⟨j,hj,rfl,HR⟩:=hrel;have hc0:=(HB.out.grow HR.out.2).c0
  have i0:(0:Int)<=(j:Int):=by omega
  by_cases hlt:j<L.length
  ·obtain⟨g,o,rfl,hg,hm⟩:=zl (HB.out.grow HR.out.2).row j hlt
   obtain⟨k0,k1,k2,k3,k4⟩:=hm
   have i1:(j:Int)<(L.length:Int):=by omega
   have HC:=qO (L.getD j .zz).m.p (L.getD j .zz).m.s (L.getD j .zz).m.f (L.getD j .zz).m.r q (HB.out.kept.fits hlt) hq wr;cases hh:(L.getD j .zz).has q
   ·have HN:R (∀t,t<j+1->(L.getD t .zz).has q=K):=fun t ht=>by
     by_cases e:t=j
     ·rw[e];exact hh
     ·exact HR.out.1 t (by omega)
    rw[show Pg.over (L.getD j .zz).m.p (L.getD j .zz).m.s q=K from hh]at HC;clear hh;generalize L.getD j .zz=x at*;obtain⟨⟨p,s,f,r⟩,d⟩:=x
    go_wp2_with (go_at_call 132;refine HC.mono ?_;rintro e w1 ⟨rfl,hb1⟩;have HN1:R _:=zT HR.out.2 hb1;clear hb1)
    go_roundw
    case rel=>exact⟨j+1,by omega,by go_num,⟨HN.out,HN1.out⟩⟩
    case measure=>simp[intOf];omega
   ·have HF:R (Pg.yhl L q=(j:Int)):=by
     show Pg.yhl L q=(j:Int)
     unfold Pg.yhl Pg.kFnd;rw[Pg.yic (P:=fun l=>l.has q) hlt hh HR.out.1]
    rw[show Pg.over (L.getD j .zz).m.p (L.getD j .zz).m.s q=n from hh]at HC;clear hh;generalize L.getD j .zz=x at*;obtain⟨⟨p,s,f,r⟩,d⟩:=x
    go_wp2_with (go_at_call 132;refine HC.mono ?_;rintro e w1 ⟨rfl,hb1⟩;have HN1:R _:=zT HR.out.2 hb1;clear hb1)
    go_ret
    exact⟨xJ HF.out.symm,HN1.out⟩
  ·have i1:¬(j:Int)<(L.length:Int):=by omega
   have HF:R (Pg.yhl L q= -1):=by
    show Pg.yhl L q= -1
    unfold Pg.yhl Pg.kFnd;rw[Pg.yib (P:=fun l=>l.has q) fun t ht=>HR.out.1 t (by omega)]
   go_wp2_with fail
   go_ret
   exact⟨xJ HF.out.symm,HR.out.2⟩
theorem yaf {b:Nat} {vb:y} {L:List Pg.Ln} (m:Pg.Mp) (hm:Pg.fits m.p) (w:E) (h:jV w b vb L):
 kJ O 110 #[kI (C ⟨b,0,B⟩),m.val] w fun e w'=>e= .returned (J I ((L.length:Int)-((Pg.ygU L m).length:Int)))/\∃vb',jV w' b vb' (Pg.ygU L m)/\Chg b 0 (bkF b vb) w w'/\∀k,bkF b vb' k->bkF b vb k\/w.heap.size<=k:=by
 have hlen:=h.kept.le;have HX:R _:=h;obtain⟨q0,hqi,hz0,hz1,hz2⟩:=info_parts vr;obtain⟨ad,cap,rfl⟩:=h.row.form;obtain⟨w1,hw1⟩:∃w1,w1=w.alloc (.cells #[J I m.p,J I m.s,J I m.f,J I m.r] 39):=⟨_,rfl⟩
 have hB:R (Below w.heap.size w w1):=by rw[hw1];exact zA (zR _) _
 have hsz:w.heap.size<w1.heap.size:=by rw[hw1];simp
 have hmx:R (yel w1 w.heap.size 0 m):=by rw[hw1];exact⟨by simp[go_sem],by simp[go_sem],by simp[go_sem],by simp[go_sem]⟩
 have hlb:=h.lb;have hkd:R (Pg.ygU L m=L.filter (fun l=> !l.meets m)):=rfl;have hkl:(Pg.ygU L m).length<=6:=(h.kept.drop m).le;have HKD:R _:=h.kept.drop m;generalize Pg.ygU L m=LD at*;clear h;obtain⟨mp,ms,mf,mr⟩:=m;simp only at hw1;simp only[Pg.Mp.val]
 go_enter Tryz.func110,Tryz.ntmps110
 go_wp2_with fail
 rw[<-hw1];clear hw1
 go_loopw [5,6] (fun v i wr=>∃j:Nat,j<=L.length/\i=J I j/\∃ad cap,∃M:List Pg.Ln,v=S ad M.length cap/\M.length<=j/\R (M=(L.take j).filter (fun l=> !l.meets ⟨mp,ms,mf,mr⟩)/\wr.ownsRow w1.heap.size 121 5 (S ad M.length cap) M.length (zL M)/\Below w1.heap.size w1 wr)) (fun _ i _=>L.length-(intOf i).toNat)
 case atStart=>exact⟨0,by omega,rfl,B,0,[],rfl,by simp,⟨by simp,World.ownsRow_nil _ _ _ _,zR _⟩⟩
 case round=>
  obtain⟨j,hj,rfl,ad2,cap2,M,rfl,hM,HR⟩:=hrel;have HW:R _:=(HX.out.grow hB.out).grow HR.out.2.2;have hc0:=HW.out.c0
  have i0:(0:Int)<=(j:Int):=by omega
  by_cases hlt:j<L.length
  ·obtain⟨g,o,rfl,hg,hmm⟩:=zl HW.out.row j hlt
   obtain⟨k0,k1,k2,k3,k4⟩:=hmm
   have i1:(j:Int)<(L.length:Int):=by omega
   have HC:=yep (L.getD j .zz).m.p (L.getD j .zz).m.s (L.getD j .zz).m.f (L.getD j .zz).m.r mp ms mf mr (HX.out.kept.fits hlt) hm;obtain⟨m0,m1,m2,m3⟩:=hmx.out.below HR.out.2.2 hsz;simp only[Nat.zero_add]at m0 m1 m2 m3
   have hwr:w.heap.size<wr.heap.size:=by have:=HR.out.2.2.size;omega
   have hbr:b<wr.heap.size:=HW.out.lb;have hws:w1.heap.size<=wr.heap.size:=HR.out.2.2.size;have HY:R ((!(L.getD j .zz).meets ⟨mp,ms,mf,mr⟩)=n->(L.take (j+1)).filter (fun l=> !l.meets ⟨mp,ms,mf,mr⟩)=(L.take j).filter (fun l=> !l.meets ⟨mp,ms,mf,mr⟩)++[L.getD j .zz]):=fun h=>Pg.yg3 (P:=fun l=> !l.meets ⟨mp,ms,mf,mr⟩) hlt h;have HN:R ((!(L.getD j .zz).meets ⟨mp,ms,mf,mr⟩)=K->(L.take (j+1)).filter (fun l=> !l.meets ⟨mp,ms,mf,mr⟩)=(L.take j).filter (fun l=> !l.meets ⟨mp,ms,mf,mr⟩)):=fun h=>Pg.ygT (P:=fun l=> !l.meets ⟨mp,ms,mf,mr⟩) hlt h;have HCM:R (Pg.meet (L.getD j .zz).m.p (L.getD j .zz).m.s mp ms=(L.getD j .zz).meets ⟨mp,ms,mf,mr⟩):=rfl;generalize L.getD j .zz=x at*;obtain⟨⟨p,s,f,r⟩,d⟩:=x;simp only at k0 k1 k2 k3 k4;have r0:=N k0;have r1:=N k1;have r2:=N k2;have r3:=N k3;have r4:=N hc0;have r5:=N m0;have r6:=N m1;have r7:=N m2;have r8:=N m3;cases hx:(Pg.Ln.mk ⟨p,s,f,r⟩ d).meets ⟨mp,ms,mf,mr⟩
   ·rw[HCM.out,hx]at HC
    have HY:R _:=HY.out (by rw[hx];rfl);clear hx HCM HN
    go_wp2_with fail
    refine wp_region_quiet_below (by kernel_rfl) (by kernel_rfl) ?_
    repeat (first
     | go_big_quiet_step ((go_at_call 128;exact Calls.regrown_of (HC _))))
    refine wpQuiet_nil ?_;intro _ hw';obtain⟨⟨dq,osq⟩,rfl⟩:=hw';have hb2:=below_regrown wr dq osq;have HL2:R (Below w1.heap.size w1 (grow (redrawn wr dq) osq)):=zT HR.out.2.2 hb2;have s0:=r0 dq osq;have s1:=r1 dq osq;have s2:=r2 dq osq;have s3:=r3 dq osq;have s4:=r4 dq osq;have s5:=cell_later hb2 k4;have hown:=zj HR.out.2.1 hb2;have hz2w:=hb2.size;have HO:R ((grow (redrawn wr dq) osq).ownsRow w1.heap.size 121 5 (S ad2 M.length cap2) M.length (zL M)):=hown;generalize grow (redrawn wr dq) osq=w2 at*;clear r0 r1 r2 r3 r4 r5 r6 r7 r8 k0 k1 k2 k3 k4 m0 m1 m2 m3 hc0 HC hb2
    go_wp2_with (first
     | (at_builtin;refine wpList_append_lies _ rfl _ _ 63 rfl w1.heap.size 121 q0 _ 5 40 Tryz.underlying63 hqi hz0 hz1 hz2 rfl (by decide) _ _ _ rfl (hown.alloc _) ⟨w2.heap.size,0,B⟩ 1 1 [J I p,J I s,J I f,J I r,Q d] rfl rfl ?c1 ?c2 (by decide) ?c3 ?c4 ?c5 (w2.heap.size+1) (by simp) ?_))
    case c1=>exact fun j u hj=>Z (D w2 _) j u hj
    case c2=>intro u hu;simp at hu;rcases hu with rfl|rfl|rfl|rfl|rfl<;>rfl
    case c3=>unfold maxLen;omega
    case c4=>omega
    case c5=>simp;omega
    intro g3 cap3 w3 hown3 hgrow hat hlt3
    have fin:R (M++[Pg.Ln.mk ⟨p,s,f,r⟩ d]=(L.take (j+1)).filter (fun l=> !l.meets ⟨mp,ms,mf,mr⟩)/\w3.ownsRow w1.heap.size 121 5 (S (C ⟨g3,0,B⟩) (M++[Pg.Ln.mk ⟨p,s,f,r⟩ d]).length cap3) (M++[Pg.Ln.mk ⟨p,s,f,r⟩ d]).length (zL (M++[Pg.Ln.mk ⟨p,s,f,r⟩ d]))/\Below w1.heap.size w1 w3):=
     ⟨by rw[HY.out,<-HR.out.1],by rw[xv,U];exact hown3,yc5 HL2.out HO.out hgrow⟩
    clear hown3 hgrow hat hlt3 hown
    go_wp2_with fail
    go_roundw
    case rel=>exact⟨j+1,by omega,by go_num,_,cap3,M++[Pg.Ln.mk ⟨p,s,f,r⟩ d],by simp,by simp;omega,fin.out⟩
    case measure=>simp[intOf];omega
   ·rw[HCM.out,hx]at HC
    have HN:R _:=HN.out (by rw[hx];rfl);clear hx HCM HY
    go_wp2_with fail
    refine wp_region_quiet_below (by kernel_rfl) (by kernel_rfl) ?_
    repeat (first
     | go_big_quiet_step ((go_at_call 128;exact Calls.regrown_of (HC _))))
    refine wpQuiet_nil ?_;intro _ hw';obtain⟨⟨dq,osq⟩,rfl⟩:=hw';have hb2:=below_regrown wr dq osq;have HL2:R (Below w1.heap.size w1 (grow (redrawn wr dq) osq)):=zT HR.out.2.2 hb2;have HO:R ((grow (redrawn wr dq) osq).ownsRow w1.heap.size 121 5 (S ad2 M.length cap2) M.length (zL M)):=zj HR.out.2.1 hb2;generalize grow (redrawn wr dq) osq=w2 at*;clear r0 r1 r2 r3 r4 r5 r6 r7 r8 k0 k1 k2 k3 k4 m0 m1 m2 m3 hc0 HC hb2
    go_wp2_with fail
    go_roundw
    case rel=>exact⟨j+1,by omega,by go_num,_,cap2,M,rfl,by omega,by rw[HN.out];exact HR.out.1,HO.out,HL2.out⟩
    case measure=>simp[intOf];omega
  ·have i1:¬(j:Int)<(L.length:Int):=by omega
   have hMe:M=LD:=by rw[HR.out.1,hkd.out,List.take_of_length_le (by omega)]
   have hfb:=HW.out.fb 0;have hbr:b<wr.heap.size:=HW.out.lb;have HF:R _:=HX.out.put (W:=wr) (L':=M) (v':=S ad2 M.length cap2) ((But.ygr (zT hB.out HR.out.2.2))) (zk.yhw HR.out.2.1) (fun j hj=> .inr (by have:=(HR.out.2.1.lt j hj).1;omega)) (by rw[hMe];exact HKD.out)
   go_wp2_with fail
   go_ret
   obtain⟨f1,f2,f3⟩:=HF.out;rw[hMe]at f1 f2 f3;exact⟨rfl,_,f1,f2,f3⟩
theorem jV.yhc {w:E} {b g o cap:Nat} {L:List Pg.Ln} (h:jV w b (S (C ⟨g,o,B⟩) L.length cap) L) (h0:0<L.length) {o':Nat} (ho:o'=o+5\/(cap=1/\o'=o)):
 jV (w.setCell ⟨b,0,B⟩ (S (C ⟨g,o',B⟩) (L.length-1) (cap-1))) b (S (C ⟨g,o',B⟩) (L.length-1) (cap-1)) (L.drop 1)/\Chg b 0 (bkF b (S (C ⟨g,o,B⟩) L.length cap)) w (w.setCell ⟨b,0,B⟩ (S (C ⟨g,o',B⟩) (L.length-1) (cap-1)))/\(∀k,bkF b (S (C ⟨g,o',B⟩) (L.length-1) (cap-1)) k->bkF b (S (C ⟨g,o,B⟩) L.length cap) k\/w.heap.size<=k):=by
 have ht:=h.row.tail h0 ho;have e:=(xH L 1).2;rw[show 1*5=5 from rfl]at e;rw[e]at ht;exact h.put (But.refl _ w) (by rw[A];exact ht) (fun j hj=> .inl hj) h.kept.tail
theorem ydq {b:Nat} {vb:y} {L:List Pg.Ln} (l:Pg.Ln) (hm:Pg.fits l.m.p) (w:E) (h:jV w b vb L):
 kJ O 58 #[kI (C ⟨b,0,B⟩),l.val] w fun e w'=>e= .returned (Q (l.m.code==0))/\∃vb',jV w' b vb' (Pg.kPut L l)/\Chg b 0 (bkF b vb) w w'/\∀k,bkF b vb' k->bkF b vb k\/w.heap.size<=k:=by
 have HX:R _:=h;have hlF:∀k,bkF b vb k->k<w.heap.size:=fun k hk=>h.lt hk;have HCK:=jS l.m.p l.m.s l.m.f l.m.r;have hlb:b<w.heap.size:=h.lb
 by_cases hcode:l.m.code=0
 ·have hce:Pg.check l.m.p l.m.s l.m.f l.m.r=0:=hcode
  rw[hce]at HCK
  have hr:(l.m.code==0)=n:=by simp[hcode]
  have HKK:R (Pg.Kept (Pg.kPut L l)):=h.kept.put l;have HLL:R ((Pg.ygU L l.m).length<=6):=(h.kept.drop l.m).le;have HD:=fun w' (hb:Below w.heap.size w w')=>yaf l.m hm w' (h.grow hb);rw[hr];rw[Pg.yid hcode]at HKK ⊢;clear h hcode hce hr;generalize Pg.ygU L l.m=L1 at*;obtain⟨L2,hL2⟩:∃L2,L2=Pg.yhf L1:=⟨_,rfl⟩;rw[<-hL2]at HKK
  have HLR:R (L2.length<=5):=by rw[hL2];exact Pg.yhu HLL.out
  have HL2:R (L2=Pg.yhf L1):=hL2;clear hL2;generalize bkF b vb=F at*;obtain⟨⟨mp,ms,mf,mr⟩,d⟩:=l;simp only[Pg.Ln.val,Pg.Mp.val]at*
  go_enter Tryz.func58,Tryz.ntmps58
  go_wp2_with fail
  refine(HCK _).mono ?_;rintro e w1 ⟨rfl,hb1⟩;have hx1:∀p,w1.cell? ⟨w.heap.size,p,B⟩=_:=fun p=>hb1.cell (p:=⟨w.heap.size,p,B⟩) (by simp);have hbb:Below w.heap.size w w1:=zT (zA (zR _) _) hb1
  have hs1:w.heap.size<w1.heap.size:=by have:=hb1.size;simp at this;omega
  have HB1:R _:=hbb;clear hb1 hbb HCK
  go_wp2_with fail
  refine(HD _ HB1.out).mono ?_;rintro e w2 ⟨rfl,vb2,h2,hc2,hF2⟩
  have hnx:¬F w.heap.size:=fun hf=>by have:=hlF _ hf;omega
  have hx2:∀p,w2.cell? ⟨w.heap.size,p,B⟩=_:=fun p=>(hc2.but.cell (a:=⟨w.heap.size,p,B⟩) hs1 hnx).trans (hx1 p);have hs2:w.heap.size<w2.heap.size:=V hs1 hc2.but.size;have HC2:R (Chg b 0 F w w2):=(Chg.ygr (o:=0) HB1.out hlb).trans hc2 (fun i _ hi=>hi);have hF2:R (∀k,bkF b vb2 k->F k\/w.heap.size<k):=fun k hk=>(hF2 k hk).imp id (fun h=>by omega);obtain⟨ad2,cap2,rfl⟩:=h2.row.form;have c20:=h2.c0;have l20:=h2.lb;have cf20:=h2.fb 0;clear hc2 HD hx1 HX
  by_cases h6:L1.length=6
  ·have i6:((L1.length:Int)==6)=n:=by simp[h6]
   have eR:L1.drop 1=L2:=by rw[HL2.out];simp[Pg.yhf,h6]
   have eL:L1.length-1=L2.length:=by rw[<-eR,A]
   obtain⟨g2,o2,cp,e,hg2,hn2,hn3⟩:=h2.row.shape (by omega);cases e;have H2:R _:=h2
   have j1:(1:Int)<=(L1.length:Int):=by omega
   have j2:¬(cap2=1):=by omega
   have j3:cap2<=9223372036854775807:=by unfold maxLen at hn3;omega
   obtain⟨e1,e2,e3⟩:=H2.out.yhc (by omega) (o':=o2+5) (.inl rfl);rw[eR]at e1;rw[eL]at e1 e2 e3;obtain⟨w3,hw3⟩:∃w3,w3=w2.setCell ⟨b,0,B⟩ (S (C ⟨g2,o2+5,B⟩) L2.length (cap2-1)):=⟨_,rfl⟩;rw[<-hw3]at e1 e2;have hnx2:¬bkF b (S (C ⟨g2,o2,B⟩) L1.length cap2) w.heap.size:=fun hf=>(hF2.out _ hf).elim hnx (fun h=>by omega);have hx3:∀p,w3.cell? ⟨w.heap.size,p,B⟩=_:=fun p=>(e2.but.cell (a:=⟨w.heap.size,p,B⟩) hs2 hnx2).trans (hx2 p);have lx3:w.heap.size<w3.heap.size:=V hs2 e2.but.size;have HC3:R (Chg b 0 F w w3):=HC2.out.trans e2 (fun i hi hg=>(hF2.out i hg).elim id (fun h=>by omega));have HF3:R (∀k,bkF b (S (C ⟨g2,o2+5,B⟩) L2.length (cap2-1)) k->F k\/w.heap.size<=k):=fun k hk=>(e3 k hk).elim (fun h=>(hF2.out k h).imp id (fun h=>by omega)) (fun h=> .inr (by omega));have x0:w3.cell? ⟨w.heap.size,0,B⟩=C (J I mp):=(hx3 0).trans (by simp[go_sem]);have x1:w3.cell? ⟨w.heap.size,1,B⟩=C (J I ms):=(hx3 1).trans (by simp[go_sem]);have x2:w3.cell? ⟨w.heap.size,2,B⟩=C (J I mf):=(hx3 2).trans (by simp[go_sem]);have x3:w3.cell? ⟨w.heap.size,3,B⟩=C (J I mr):=(hx3 3).trans (by simp[go_sem]);have x4:w3.cell? ⟨w.heap.size,4,B⟩=C (Q d):=(hx3 4).trans (by simp[go_sem]);have t3:R _:=e1;clear hx3 hx2 h2 e2 e3 e1 hg2 hn3 h6
   go_wp2_with fail
   rw[<-hw3];have t3:=t3.out;clear c20 hw3 cf20;obtain⟨ad3,cap3,hv3⟩:∃ad3 cap3,H (C ⟨g2,o2+5,B⟩) L2.length (cap2-1)=S ad3 L2.length cap3:=⟨_,_,rfl⟩;rw[hv3]at t3 HF3;clear hv3;have hown:=t3.row;have r0:=t3.c0;have rf:=t3.fb 0;have hlk:=t3.lb;have hn3:=t3.nb;have hlen3:L2.length<=5:=HLR.out;have HT3:R _:=t3;have HK3:R (Pg.Kept (L2++[⟨⟨mp,ms,mf,mr⟩,d⟩])):=HKK.out;obtain⟨q0,hqi,hz0,hz1,hz2⟩:=info_parts vr
   have hone:∀u,u ∈ [kP I mp,J I ms,J I mf,J I mr,Q d]->u.oneCell'=n:=by
    intro u hu;simp at hu;rcases hu with rfl|rfl|rfl|rfl|rfl<;>rfl
   have hm1:L2.length+1<=maxLen:=by unfold maxLen;omega
   have hm2:(L2.length+1)*40<=140737488355328:=by omega
   have hlx:w.heap.size<w3.heap.size:=lx3;have hown':zk (w3.alloc (.cells #[J I mp,J I ms,J I mf,J I mr,Q d] 121)).drew 121 5 (S ad3 L2.length cap3) L2.length (zL L2):=hown.but (F:=fun _=>False) (((But.refl _ w3).alloc _).drew) (fun _ _=>id);obtain⟨g6,o6,cap6,w6,hrun,hO,hBt,hA⟩:=jr (P:=O) (w3.alloc (.cells #[J I mp,J I ms,J I mf,J I mr,Q d] 121)).drew 63 63 121 q0 _ 5 40 Tryz.underlying63 hqi hz0 hz1 hz2 rfl (by decide) _ _ _ hown' ⟨w3.heap.size,0,B⟩ 1 1 [J I mp,J I ms,J I mf,J I mr,Q d] rfl (fun j u hj=>Z (D w3 _) j u hj) hone (by decide) hm1 hm2;have hB6:But (fun j=>(H ad3 L2.length cap3).ownBlock=C j) w3 w6:=((But.refl _ w3).alloc _).drew.trans hBt (fun _ _ h=>h);have hk6:w6.heap[b]?=w3.heap[b]?:=hB6.block b hlk hn3;have e9:w6.cell? ⟨b,0,B⟩=C (S ad3 L2.length cap3):=(Y hk6).trans r0;have ef9:w6.frozen? ⟨b,0,B⟩=K:=(T hk6).trans rf
   have hr6:zk w6 121 5 (S (C ⟨g6,o6,B⟩) (L2.length+1) cap6) (L2++[Pg.Ln.mk ⟨mp,ms,mf,mr⟩ d]).length (zL (L2++[Pg.Ln.mk ⟨mp,ms,mf,mr⟩ d])):=by
    rw[xv,U];exact hO
   have HF:R _:=HT3.out.put hB6 hr6 (fun j hj=>by
    rcases hA with h|h
    ·exact .inl (h.trans hj)
    ·exact .inr (by simp[z]at hj;simp at h;omega)) HK3.out
   have hlk6:b<w6.heap.size:=V hlk hB6.size;clear t3 lx3 hr6 hB6 hO hA hBt hk6 hown hown'
   go_wp2_with fail
   go_region_law (refine zZ rfl (.tmp 31) (.tmp 33) 63 63 rfl (S ad3 L2.length cap3) (S (C ⟨w3.heap.size,0,B⟩) 1 1) (by simp[Act.eval]) (by simp[Act.eval]) hrun ?_)
   all_goals
    go_wp2_with fail
    go_ret
    obtain⟨f1,f2,f3⟩:=HF.out;refine⟨rfl,_,by rw[<-HL2.out];exact f1,HC3.out.trans f2 (fun i hi hg=>(HF3.out i hg).elim id (fun h=>by omega)),fun k hk=>(f3 k hk).elim (HF3.out k) (fun h=> .inr (by omega))⟩
  ·have i6:((L1.length:Int)==6)=K:=by
    have:¬((L1.length:Int)=6):=by omega
    simpa using this
   have eR:L1=L2:=by rw[HL2.out];simp[Pg.yhf,h6]
   rw[eR]at h2 c20 i6 hF2;clear eR;have HC3:R _:=HC2.out;have HF3:R (∀k,bkF b (S ad2 L2.length cap2) k->F k\/w.heap.size<=k):=fun k hk=>(hF2.out k hk).imp id (fun h=>by omega);have t3:R _:=h2;have x0:w2.cell? ⟨w.heap.size,0,B⟩=C (J I mp):=(hx2 0).trans (by simp[go_sem]);have x1:w2.cell? ⟨w.heap.size,1,B⟩=C (J I ms):=(hx2 1).trans (by simp[go_sem]);have x2:w2.cell? ⟨w.heap.size,2,B⟩=C (J I mf):=(hx2 2).trans (by simp[go_sem]);have x3:w2.cell? ⟨w.heap.size,3,B⟩=C (J I mr):=(hx2 3).trans (by simp[go_sem]);have x4:w2.cell? ⟨w.heap.size,4,B⟩=C (Q d):=(hx2 4).trans (by simp[go_sem]);have lx3:w.heap.size<w2.heap.size:=hs2;clear hx2 h2 l20
   go_wp2_with fail
   clear c20 cf20;have t3:=t3.out;generalize w2=w3 at*;generalize ad2=ad3 at*;generalize cap2=cap3 at*;have hown:=t3.row;have r0:=t3.c0;have rf:=t3.fb 0;have hlk:=t3.lb;have hn3:=t3.nb;have hlen3:L2.length<=5:=HLR.out;have HT3:R _:=t3;have HK3:R (Pg.Kept (L2++[⟨⟨mp,ms,mf,mr⟩,d⟩])):=HKK.out;obtain⟨q0,hqi,hz0,hz1,hz2⟩:=info_parts vr
   have hone:∀u,u ∈ [kP I mp,J I ms,J I mf,J I mr,Q d]->u.oneCell'=n:=by
    intro u hu;simp at hu;rcases hu with rfl|rfl|rfl|rfl|rfl<;>rfl
   have hm1:L2.length+1<=maxLen:=by unfold maxLen;omega
   have hm2:(L2.length+1)*40<=140737488355328:=by omega
   have hlx:w.heap.size<w3.heap.size:=lx3;have hown':zk (w3.alloc (.cells #[J I mp,J I ms,J I mf,J I mr,Q d] 121)).drew 121 5 (S ad3 L2.length cap3) L2.length (zL L2):=hown.but (F:=fun _=>False) (((But.refl _ w3).alloc _).drew) (fun _ _=>id);obtain⟨g6,o6,cap6,w6,hrun,hO,hBt,hA⟩:=jr (P:=O) (w3.alloc (.cells #[J I mp,J I ms,J I mf,J I mr,Q d] 121)).drew 63 63 121 q0 _ 5 40 Tryz.underlying63 hqi hz0 hz1 hz2 rfl (by decide) _ _ _ hown' ⟨w3.heap.size,0,B⟩ 1 1 [J I mp,J I ms,J I mf,J I mr,Q d] rfl (fun j u hj=>Z (D w3 _) j u hj) hone (by decide) hm1 hm2;have hB6:But (fun j=>(H ad3 L2.length cap3).ownBlock=C j) w3 w6:=((But.refl _ w3).alloc _).drew.trans hBt (fun _ _ h=>h);have hk6:w6.heap[b]?=w3.heap[b]?:=hB6.block b hlk hn3;have e9:w6.cell? ⟨b,0,B⟩=C (S ad3 L2.length cap3):=(Y hk6).trans r0;have ef9:w6.frozen? ⟨b,0,B⟩=K:=(T hk6).trans rf
   have hr6:zk w6 121 5 (S (C ⟨g6,o6,B⟩) (L2.length+1) cap6) (L2++[Pg.Ln.mk ⟨mp,ms,mf,mr⟩ d]).length (zL (L2++[Pg.Ln.mk ⟨mp,ms,mf,mr⟩ d])):=by
    rw[xv,U];exact hO
   have HF:R _:=HT3.out.put hB6 hr6 (fun j hj=>by
    rcases hA with h|h
    ·exact .inl (h.trans hj)
    ·exact .inr (by simp[z]at hj;simp at h;omega)) HK3.out
   have hlk6:b<w6.heap.size:=V hlk hB6.size;clear t3 lx3 hr6 hB6 hO hA hBt hk6 hown hown'
   go_wp2_with fail
   go_region_law (refine zZ rfl (.tmp 31) (.tmp 33) 63 63 rfl (S ad3 L2.length cap3) (S (C ⟨w3.heap.size,0,B⟩) 1 1) (by simp[Act.eval]) (by simp[Act.eval]) hrun ?_)
   all_goals
    go_wp2_with fail
    go_ret
    obtain⟨f1,f2,f3⟩:=HF.out;refine⟨rfl,_,by rw[<-HL2.out];exact f1,HC3.out.trans f2 (fun i hi hg=>(HF3.out i hg).elim id (fun h=>by omega)),fun k hk=>(f3 k hk).elim (HF3.out k) (fun h=> .inr (by omega))⟩
 ·have hr:(l.m.code==0)=K:=by simp[hcode]
  have hne:(Pg.check l.m.p l.m.s l.m.f l.m.r !=0)=n:=by
   have:Pg.check l.m.p l.m.s l.m.f l.m.r≠0:=hcode
   simpa using this
  rw[hr,Pg.yiq hcode];clear hcode hr h;obtain⟨⟨mp,ms,mf,mr⟩,d⟩:=l;simp only at HCK hne;simp only[Pg.Ln.val];generalize Pg.check mp ms mf mr=x at*
  go_enter Tryz.func58,Tryz.ntmps58
  go_wp2_with fail
  refine(HCK _).mono ?_;rintro e w1 ⟨rfl,hb1⟩;have HB:R (Below w.heap.size w w1):=zT (zA (zR _) _) hb1;clear hb1
  go_wp2_with fail
  go_ret
  exact⟨rfl,_,HX.out.grow HB.out,Chg.ygr HB.out hlb,fun k hk=> .inl hk⟩
namespace Tbd
variable {w0 w w':E} {b:Nat} {L L':List Pg.Ln} {F F':Nat->Prop}
end Tbd
theorem yaU {ad ad':Option Addr} {cap cap':Nat} {L:List Pg.Ln} (w:E) (h:xh w ad L) (h':xh w ad' L) (hl:L.length<=6):
 kJ O 27 #[S ad L.length cap,S ad' L.length cap'] w fun e w'=>e= .returned (Q n)/\Below w.heap.size w w':=by
 have HA:R _:=h;have HB:R _:=h';clear h h'
 go_enter Tryz.func27,Tryz.ntmps27
 go_wp2_with fail
 go_loopw [5] (fun i wr=>∃j:Nat,j<=L.length/\i=J I j/\R (Below w.heap.size w wr)) (fun i _=>L.length-(intOf i).toNat)
 case atStart=>exact⟨0,by omega,rfl,zR _⟩
 case round=>
  obtain⟨j,hj,rfl,HR⟩:=hrel
  have i0:(0:Int)<=(j:Int):=by omega
  by_cases hlt:j<L.length
  ·obtain⟨g,o,rfl,hg,hm⟩:=xh.below HA.out HR.out j hlt
   obtain⟨g',o',rfl,hg',hm'⟩:=xh.below HB.out HR.out j hlt;obtain⟨k0,k1,k2,k3,k4⟩:=hm;obtain⟨m0,m1,m2,m3,m4⟩:=hm'
   have i1:(j:Int)<(L.length:Int):=by omega
   have fin:R (∀nq,Below w.heap.size w (wr.drewN nq)):=fun nq=>zT HR.out (below_drewN (zR _) nq);generalize L.getD j .zz=x at*;obtain⟨⟨p,s,f,r⟩,d⟩:=x;simp only at k0 k1 k2 k3 k4 m0 m1 m2 m3 m4
   go_wp2_with fail
   go_quiet (fail)
   go_wp2_with fail
   go_roundw
   case rel=>exact⟨j+1,by omega,by go_num,fin.out _⟩
   case measure=>simp[intOf];omega
  ·have i1:¬(j:Int)<(L.length:Int):=by omega
   go_wp2_with fail
   go_ret
   exact⟨rfl,HR.out⟩
namespace Tw
variable {w0 w w':E} {b rb:Nat} {L1 L2 L':List Pg.Ln} {F F':Nat->Prop} {vb vb':y}
end Tw
namespace Twx
variable {w0 w w':E} {b rb X:Nat} {x:Lst} {L1 L2 L':List Pg.Ln} {F F':Nat->Prop} {vb vb':y}
end Twx
end Go.Proofs.YtdphiompijbelaaGreat
