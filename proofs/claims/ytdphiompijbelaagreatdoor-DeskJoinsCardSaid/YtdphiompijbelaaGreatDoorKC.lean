import Derived.Test.YtdphiompijbelaaGreatDoorTabN
set_option linter.all false
set_option maxRecDepth 100000
open Go.Proofs.Tryz renaming prog->L
open Go.Ending renaming returned->H
open Go.RowKit.Below renaming heap_setCell->A,refl->l
open Go.World renaming cell?_of_block->D,block_lt_of_cell?->z
open Go.Obj renaming cells->E
open Nat renaming lt_of_lt_of_le->Z,le_refl->M
open Go renaming cell_regrown->Q,bodyPost_ret->O,heap_alloc_new->y,World->n,Calls->s
open Array renaming getElem?_eq_some_iff->T
open Go.RowKit renaming Hid->Y
open Bool renaming false->C,true->N
open Option renaming none->P,some->V
open Go.IntKind renaming i64->J,u64->g
open Go.Value renaming int->I,bool->B,pointer->U,tuple->X,agg->f
set_option maxHeartbeats 40000000
namespace Go.Proofs.YtdphiompijbelaaGreatDoor
open Go.RowKit Go.Sort
section
attribute [local go_sem] Loose.gent
section
variable {b o:Nat} {root:Int}
theorem zI.low {W:n} {q k:Int} {u:Bool} {t:Int} {lv:Nat} {x:Int} (h:zI W b o root ⟨N,q,k,u,t,lv,x⟩) (t':Int) (m:Nat):
 zI ((W.setCell ⟨b,o+5,P⟩ (I J t')).setCell ⟨b,o+6,P⟩ (I J (m:Int))) b o root ⟨N,q,k,u,t',m,x⟩/\Ch8 b o (fun j=>j=b) W ((W.setCell ⟨b,o+5,P⟩ (I J t')).setCell ⟨b,o+6,P⟩ (I J (m:Int))):=by
 obtain⟨c0,c1,c2,c3,c4,c5,c6,c7,fb⟩:=h
 refine⟨⟨?_,?_,?_,?_,?_,?_,?_,?_,fun p=> ?_⟩,((Ch8.refl b o (fun j=>j=b) W).set rfl 5 (by decide) _).set rfl 6 (by decide) _⟩<;>simp[go_sem,c0,c1,c2,c3,c4,c5,c6,c7,fb]
theorem zI.wait {W:n} {q k:Int} {u:Bool} {t:Int} {lv:Nat} {x:Int} (h:zI W b o root ⟨N,q,k,u,t,lv,x⟩) (x':Int):
 zI (W.setCell ⟨b,o+7,P⟩ (I g x')) b o root ⟨N,q,k,u,t,lv,x'⟩/\Ch8 b o (fun j=>j=b) W (W.setCell ⟨b,o+7,P⟩ (I g x')):=by
 obtain⟨c0,c1,c2,c3,c4,c5,c6,c7,fb⟩:=h
 refine⟨⟨?_,?_,?_,?_,?_,?_,?_,?_,fun p=> ?_⟩,(Ch8.refl b o (fun j=>j=b) W).set rfl 7 (by decide) _⟩<;>simp[go_sem,c0,c1,c2,c3,c4,c5,c6,c7,fb]
theorem ydE (S:Pg.Fs) (t q:Int) (lv:Nat):S.at' t (Pg.ix q lv:Nat)=S.has t:=by
 have:=Pg.yiD q lv;unfold Pg.Fs.at';cases S.has t
 ·rfl
 ·simp;omega
theorem ydk {bf:Nat} {S:Pg.Fs} {F:Nat->Prop} {q k:Int} {u:Bool} {t:Int} {lv:Nat} (hq:Pg.below q 4096=N) (hlv:lv<4) (w:n) (h:zI w b o root ⟨N,q,k,u,t,lv,0⟩) (hf:zh w bf S F) (hh:S.has t=C):
 s L 262 #[U (V ⟨b,o,P⟩),U (V ⟨bf,0,P⟩)] w fun e w'=>e=H (X #[(Pg.Wo.res ⟨N,q,k,u,t,lv,0⟩ (.code 12)).val,I J (Pg.Wo.cd (.code 12))])/\zI w' b o root (Pg.Wo.next ⟨N,q,k,u,t,lv,0⟩ (.code 12))/\Ch8 b o (fun j=>j=b) w w':=by
 obtain⟨W,hW⟩:∃W,W=w.alloc (E #[B C,I J 0,I J 0,I J 0,I J 0,I J 0,I J 0,I J 0,B C] 330):=⟨_,rfl⟩
 have hBW:Below w.heap.size w W:=by rw[hW];exact zA (zR w) _
 have hl:=h.lb
 have hWs:W.heap.size=w.heap.size+1:=by rw[hW];simp
 have HKW:Y _:=h.grow hBW;have HFW:Y (zh W bf S F):=hf.keep (G:=fun _=>False) (But.yhl hBW) (fun _ _=>id);have HBW:Y _:=hBW
 have R9:Y (W.heap[w.heap.size]?=V (E #[B C,I J 0,I J 0,I J 0,I J 0,I J 0,I J 0,I J 0,B C] 330 (0,0))):=by rw[hW];exact y _ _
 have hix:=Pg.yh7 hq hlv;have HP:=fun d os=>jH _ (HKW.out.grow (below_regrown W d os));simp only[hix]at HP;have HL:=fun d os=>yau t (Pg.ix q lv:Nat) _ (zh.keep (G:=fun _=>False) HFW.out (But.yhl (below_regrown W d os)) (fun _ _=>id));have hat:S.at' t (Pg.ix q lv:Nat)=S.has t:=ydE S t q lv;rw[hat]at HL;have k5:=Q HKW.out.c5;simp only at k5
 have hld:S.load t (Pg.ix q lv:Nat)=0:=by simp[Pg.Fs.load,hat,hh]
 rw[hh,hld]at HL;clear hld hh hat;simp only[Pg.Wo.res,Pg.Wo.cd,Pg.Wo.next,Pg.Rs.zero,Pg.Rs.val];clear h hf hBW;generalize ((Pg.ix q lv:Nat):Int)=ixv at*
 go_enter Tryz.func262,Tryz.ntmps262
 go_wp2_with fail
 rw[<-hW];clear hW;refine wp_region_quiet_below (by kernel_rfl) (by kernel_rfl) ?_
 repeat (first
  | go_big_quiet_step (first
    | (go_at_call 288;exact Calls.regrown_of (HP _ _))
    | (go_at_call 247;exact Calls.regrown_of (HL _ _))))
 refine wpQuiet_nil ?_;intro _ hw';obtain⟨⟨dq,osq⟩,rfl⟩:=hw';have hb1:=below_regrown W dq osq;have HK1:Y _:=HKW.out.grow hb1;have HB1:Y (Below w.heap.size w (grow (redrawn W dq) osq)):=zT HBW.out hb1;have R1:Y ((grow (redrawn W dq) osq).heap[w.heap.size]?=_):=(hb1.block _ (by omega)).trans R9.out;clear hb1 HP HL k5 HKW HFW HBW R9;generalize grow (redrawn W dq) osq=w1 at*;have hl1:b<w1.heap.size:=HK1.out.lb
 have hr1:w.heap.size<w1.heap.size:=by have:=HB1.out.size;have:=(T.1 R1.out).1;omega
 have hrb:¬w.heap.size=b:=by omega
 obtain⟨⟨x0,x1,x2,x3,x4,x5,x6,x7,x8⟩,xf⟩:=ybx R1.out;have HF:Y _:=yeC hrb (M _) ⟨HK1.out,Ch8.yhl (F:=fun j=>j=b) HB1.out hl⟩ (B C) (I J 0) (I J 0) (I J 0) (I J 0) (I J 0) (I J 0) (I J 0) (B C)
 go_wp2_with fail
 refine O (v:=X #[f #[B C,I J 0,I J 0,I J 0,I J 0,I J 0,I J 0,I J 0,B C],I J 12]) ?_ rfl ⟨rfl,HF.out⟩;simp[results,Tryz.results262,go_sem,x0,x1,x2,x3,x4,x5,x6,x7,x8]
theorem xw {bf:Nat} {S:Pg.Fs} {F:Nat->Prop} {q k:Int} {u:Bool} {t:Int} {lv:Nat} (hq:Pg.below q 4096=N) (hlv:lv<4) (w:n) (h:zI w b o root ⟨N,q,k,u,t,lv,0⟩) (hf:zh w bf S F) {rc:Int} {et el:Bool} {er:Int} {eu ed:Bool} {ef:Int} (hh:S.has t=N) (hc:Pg.yhu S t (Pg.ix q lv) lv=rc) (he:Pg.rEn S t (Pg.ix q lv) lv=⟨et,el,er,eu,ed,ef⟩) {oc:Pg.Wo}
 (hA:((rc !=0)=N/\oc= .code rc)\/(rc=0/\((et=C/\oc= .stop 1)\/(et=N/\((el=C/\∃m:Nat,(lv:Int)-1=(m:Int)/\(1:Int)<=(lv:Int)/\oc= .go ⟨N,q,k,u,ef,m,0⟩)\/(el=N/\((Pg.may er k u=C/\oc= .stop 2)\/(Pg.may er k u=N/\(((eu=C\/(eu=N/\ed=C/\(ed||k==1)=N))/\oc= .go ⟨N,q,k,u,t,lv,S.word t.toNat (Pg.ix q lv)⟩)\/(eu=N/\(ed||k==1)=ed/\oc= .done ⟨N,N,er,N,ed,ef⟩ C)))))))))):
 s L 262 #[U (V ⟨b,o,P⟩),U (V ⟨bf,0,P⟩)] w fun e w'=>e=H (X #[(Pg.Wo.res ⟨N,q,k,u,t,lv,0⟩ oc).val,I J (Pg.Wo.cd oc)])/\zI w' b o root (Pg.Wo.next ⟨N,q,k,u,t,lv,0⟩ oc)/\Ch8 b o (fun j=>j=b) w w':=by
 have HMay:=fun W'=>yaV er q k u W';generalize Pg.may er k u=mv at*;generalize hR:Pg.Wo.res ⟨N,q,k,u,t,lv,0⟩ oc=R;generalize hcd:Pg.Wo.cd oc=cdv;generalize hnx:Pg.Wo.next ⟨N,q,k,u,t,lv,0⟩ oc=nx;obtain⟨ra,rb,rf,rd,⟨rmp,rms,rmf,rmr⟩,re⟩:=R;have HRR:Y (_/\_/\_):=⟨hR,hcd,hnx⟩;clear hR hcd hnx;simp only[Pg.Rs.val];obtain⟨W,hW⟩:∃W,W=w.alloc (E #[B C,I J 0,I J 0,I J 0,I J 0,I J 0,I J 0,I J 0,B C] 330):=⟨_,rfl⟩
 have hBW:Below w.heap.size w W:=by rw[hW];exact zA (zR w) _
 have hl:=h.lb
 have hWs:W.heap.size=w.heap.size+1:=by rw[hW];simp
 have HKW:Y _:=h.grow hBW;have HFW:Y (zh W bf S F):=hf.keep (G:=fun _=>False) (But.yhl hBW) (fun _ _=>id);have HBW:Y _:=hBW
 have R9:Y (W.heap[w.heap.size]?=V (E #[B C,I J 0,I J 0,I J 0,I J 0,I J 0,I J 0,I J 0,B C] 330 (0,0))):=by rw[hW];exact y _ _
 have hix:=Pg.yh7 hq hlv;have HP:=fun d os=>jH _ (HKW.out.grow (below_regrown W d os));simp only[hix]at HP;have HL:=fun d os=>yau t (Pg.ix q lv:Nat) _ (zh.keep (G:=fun _=>False) HFW.out (But.yhl (below_regrown W d os)) (fun _ _=>id));have hat:S.at' t (Pg.ix q lv:Nat)=S.has t:=ydE S t q lv;rw[hat]at HL;have k5:=Q HKW.out.c5;simp only at k5
 have hld:S.load t (Pg.ix q lv:Nat)=S.word t.toNat (Pg.ix q lv):=by simp[Pg.Fs.load,hat,hh]
 rw[hh,hld]at HL;obtain⟨e1,e2⟩:=Pg.yiz (i:=Pg.ix q lv) (lv:=lv) hh;have HD:=fun W'=>jD (S.word t.toNat (Pg.ix q lv)) lv (hf.ok.low _ _) (hf.ok.high _ _) W';rw[Pg.ykF,<-e1,<-e2,he,hc]at HD;clear e1 e2 hld hh hat he hc;generalize S.word t.toNat (Pg.ix q lv)=wd at*;simp only[Pg.En.val]at HD;clear h hf hBW;generalize ((Pg.ix q lv:Nat):Int)=ixv at*
 go_enter Tryz.func262,Tryz.ntmps262
 go_wp2_with fail
 rw[<-hW];clear hW;refine wp_region_quiet_below (by kernel_rfl) (by kernel_rfl) ?_
 repeat (first
  | go_big_quiet_step (first
    | (go_at_call 288;exact Calls.regrown_of (HP _ _))
    | (go_at_call 247;exact Calls.regrown_of (HL _ _))))
 refine wpQuiet_nil ?_;intro _ hw';obtain⟨⟨dq,osq⟩,rfl⟩:=hw';have hb1:=below_regrown W dq osq;have HK1:Y _:=HKW.out.grow hb1;have HB1:Y (Below w.heap.size w (grow (redrawn W dq) osq)):=zT HBW.out hb1;have R1:Y ((grow (redrawn W dq) osq).heap[w.heap.size]?=_):=(hb1.block _ (by omega)).trans R9.out;clear hb1 HP HL k5 HKW HFW HBW R9;generalize grow (redrawn W dq) osq=w1 at*;have hl1:b<w1.heap.size:=HK1.out.lb
 have hr1:w.heap.size<w1.heap.size:=by have:=HB1.out.size;have:=(T.1 R1.out).1;omega
 have hrb:¬w.heap.size=b:=by omega
 have k6:=HK1.out.c6;simp only at k6
 go_wp2_with fail
 refine(HD _).mono ?_;rintro e w2 ⟨rfl,hb2⟩;have hr2:w.heap.size<w2.heap.size:=Z hr1 hb2.size;have hl2:b<w2.heap.size:=Z hl1 hb2.size;have HK2:Y _:=HK1.out.grow hb2;have HB2:Y (Below w.heap.size w w2):=zT HB1.out hb2;have R2:Y (w2.heap[w.heap.size]?=_):=(hb2.block _ hr1).trans R1.out;clear hb2 HK1 HB1 R1 k6 HD hr1 hl1 hq hix
 have nb2:b≠w2.heap.size:=by omega
 have mb2:w2.heap.size≠b:=by omega
 have nr2:w.heap.size≠w2.heap.size:=by omega
 have mr2:w2.heap.size≠w.heap.size:=by omega
 rcases hA with ⟨hcn,rfl⟩|⟨rfl,hA⟩
 ·obtain⟨hR,hcd,hnx⟩:=HRR.out
  simp only[Pg.Wo.res,Pg.Wo.cd,Pg.Wo.next,Pg.Rs.zero,Pg.Rs.mk.injEq,Pg.Mp.mk.injEq]at hR hcd hnx;obtain⟨rfl,rfl,rfl,rfl,⟨rfl,rfl,rfl,rfl⟩,rfl⟩:=hR;subst hcd hnx;obtain⟨⟨x0,x1,x2,x3,x4,x5,x6,x7,x8⟩,xf⟩:=ybx R2.out;have HF:Y _:=ygm (yeC hrb (M _) ⟨HK2.out,Ch8.yhl (F:=fun j=>j=b) HB2.out hl⟩ (B C) (I J 0) (I J 0) (I J 0) (I J 0) (I J 0) (I J 0) (I J 0) (B C)) (zA (zR _) (E #[B et,B el,I J er,B eu,B ed,I J ef] 82))
  go_wp2_with fail
  refine O (v:=X #[f #[B C,I J 0,I J 0,I J 0,I J 0,I J 0,I J 0,I J 0,B C],I J rc]) ?_ rfl ⟨rfl,HF.out⟩;simp[results,Tryz.results262,go_sem,x0,x1,x2,x3,x4,x5,x6,x7,x8,hr2,nr2,mr2]
 obtain⟨W3,hW3⟩:∃W3,W3=w2.alloc (E #[B et,B el,I J er,B eu,B ed,I J ef] 82):=⟨_,rfl⟩
 have hB3:Below w2.heap.size w2 W3:=by rw[hW3];exact zA (zR _) _
 have HK3:Y _:=HK2.out.grow hB3;have HB3:Y (Below w.heap.size w W3):=zT HB2.out hB3;have R3:Y (W3.heap[w.heap.size]?=_):=(hB3.block _ hr2).trans R2.out
 have e6:W3.cell? ⟨w2.heap.size,0,P⟩=V (B et)/\W3.cell? ⟨w2.heap.size,1,P⟩=V (B el)/\W3.cell? ⟨w2.heap.size,2,P⟩=V (I J er)/\W3.cell? ⟨w2.heap.size,3,P⟩=V (B eu)/\W3.cell? ⟨w2.heap.size,4,P⟩=V (B ed)/\W3.cell? ⟨w2.heap.size,5,P⟩=V (I J ef):=by rw[hW3];simp[go_sem]
 have hr3:w.heap.size<W3.heap.size:=by have:=hB3.size;omega
 have hl3:b<W3.heap.size:=by have:=hB3.size;omega
 clear hB3;rcases hA with ⟨rfl,rfl⟩|⟨rfl,hA⟩
 ·obtain⟨hR,hcd,hnx⟩:=HRR.out
  simp only[Pg.Wo.res,Pg.Wo.cd,Pg.Wo.next,Pg.Rs.zero,Pg.Rs.mk.injEq,Pg.Mp.mk.injEq]at hR hcd hnx;obtain⟨rfl,rfl,rfl,rfl,⟨rfl,rfl,rfl,rfl⟩,rfl⟩:=hR;subst hcd hnx
  go_wp2_with fail
  rw[<-hW3];clear hW3 HK2 HB2 R2;have HE:=yaU 1 0 0 ⟨0,0,0,0⟩ C _ HK3.out;simp only[Pg.Rs.val]at HE;refine HE.mono ?_;rintro e w9 ⟨rfl,hk9,hc9⟩;have HC9:Y (Ch8 b o (fun j=>j=b) w w9):=(Ch8.yhl HB3.out hl).trans hc9 (fun _ _ h=>h);have R9:Y (w9.heap[w.heap.size]?=_):=(hc9.but.block _ hr3 hrb).trans R3.out;have hr9:w.heap.size<w9.heap.size:=Z hr3 hc9.but.size;obtain⟨⟨x0,x1,x2,x3,x4,x5,x6,x7,x8⟩,xf⟩:=ybx R9.out;have HF:Y _:=yeC hrb (M _) ⟨hk9,HC9.out⟩ (B N) (I J 1) (I J 0) (I J 0) (I J 0) (I J 0) (I J 0) (I J 0) (B C);clear hk9 hc9 HE
  go_wp2_with fail
  refine O (v:=X #[f #[B N,I J 1,I J 0,I J 0,I J 0,I J 0,I J 0,I J 0,B C],I J 0]) ?_ rfl ⟨rfl,HF.out⟩;simp[results,Tryz.results262,go_sem,x0,x1,x2,x3,x4,x5,x6,x7,x8]
 rcases hA with ⟨rfl,m,hlm,hlm1,rfl⟩|⟨rfl,hA⟩
 ·obtain⟨hR,hcd,hnx⟩:=HRR.out
  simp only[Pg.Wo.res,Pg.Wo.cd,Pg.Wo.next,Pg.Rs.zero,Pg.Rs.mk.injEq,Pg.Mp.mk.injEq]at hR hcd hnx;obtain⟨rfl,rfl,rfl,rfl,⟨rfl,rfl,rfl,rfl⟩,rfl⟩:=hR;subst hcd hnx
  go_wp2_with fail
  rw[<-hW3];clear hW3 HK2 HB2 R2;obtain⟨z0,z1,z2,z3,z4,z5⟩:=e6;have y5:=HK3.out.c5;have y6:=HK3.out.c6;have yf:=HK3.out.fb;simp only at y5 y6;obtain⟨⟨x0,x1,x2,x3,x4,x5,x6,x7,x8⟩,xf⟩:=ybx R3.out;have HF:Y _:=ygm (yeC hrb (M _) ⟨(HK3.out.low ef m).1,(Ch8.yhl HB3.out hl).trans (HK3.out.low ef m).2 (fun _ _ h=>h)⟩ (B C) (I J 0) (I J 0) (I J 0) (I J 0) (I J 0) (I J 0) (I J 0) (B C)) (zR _).drew
  go_region
  go_wp2_with fail
  refine O (v:=X #[f #[B C,I J 0,I J 0,I J 0,I J 0,I J 0,I J 0,I J 0,B C],I J 0]) ?_ rfl ⟨rfl,HF.out⟩;simp[results,Tryz.results262,go_sem,x0,x1,x2,x3,x4,x5,x6,x7,x8]
 go_wp2_with fail
 rw[<-hW3];clear hW3 HK2 HB2 R2;have z2:=Q e6.2.2.1;have y2:=Q HK3.out.c2;have y3:=Q HK3.out.c3;have y4:=Q HK3.out.c4;simp only at y2 y3 y4;refine wp_region_quiet_below (by kernel_rfl) (by kernel_rfl) ?_
 repeat (first
  | go_big_quiet_step ((go_at_call 259;exact Calls.regrown_of (HMay _))))
 refine wpQuiet_nil ?_;intro _ hw';obtain⟨⟨dq4,osq4⟩,rfl⟩:=hw';have hb4:=below_regrown W3 dq4 osq4;have HK4:Y _:=HK3.out.grow hb4;have HB4:Y (Below w.heap.size w (grow (redrawn W3 dq4) osq4)):=zT HB3.out hb4;have R4:Y ((grow (redrawn W3 dq4) osq4).heap[w.heap.size]?=_):=(hb4.block _ hr3).trans R3.out;have E4:Y _:=qy hb4 e6;have hr4:w.heap.size<(grow (redrawn W3 dq4) osq4).heap.size:=Z hr3 hb4.size;have hl4:b<(grow (redrawn W3 dq4) osq4).heap.size:=Z hl3 hb4.size;clear hb4 z2 y2 y3 y4 e6 HMay HK3 HB3 R3 hr3 hl3;generalize grow (redrawn W3 dq4) osq4=w4 at*;rcases hA with ⟨rfl,rfl⟩|⟨rfl,hA⟩
 ·obtain⟨hR,hcd,hnx⟩:=HRR.out
  simp only[Pg.Wo.res,Pg.Wo.cd,Pg.Wo.next,Pg.Rs.zero,Pg.Rs.mk.injEq,Pg.Mp.mk.injEq]at hR hcd hnx;obtain⟨rfl,rfl,rfl,rfl,⟨rfl,rfl,rfl,rfl⟩,rfl⟩:=hR;subst hcd hnx
  go_wp2_with fail
  have HE:=yaU 2 0 0 ⟨0,0,0,0⟩ C _ HK4.out;simp only[Pg.Rs.val]at HE;refine HE.mono ?_;rintro e w9 ⟨rfl,hk9,hc9⟩;have HC9:Y (Ch8 b o (fun j=>j=b) w w9):=(Ch8.yhl HB4.out hl).trans hc9 (fun _ _ h=>h);have R9:Y (w9.heap[w.heap.size]?=_):=(hc9.but.block _ hr4 hrb).trans R4.out;have hr9:w.heap.size<w9.heap.size:=Z hr4 hc9.but.size;obtain⟨⟨x0,x1,x2,x3,x4,x5,x6,x7,x8⟩,xf⟩:=ybx R9.out;have HF:Y _:=yeC hrb (M _) ⟨hk9,HC9.out⟩ (B N) (I J 2) (I J 0) (I J 0) (I J 0) (I J 0) (I J 0) (I J 0) (B C);clear hk9 hc9 HE
  go_wp2_with fail
  refine O (v:=X #[f #[B N,I J 2,I J 0,I J 0,I J 0,I J 0,I J 0,I J 0,B C],I J 0]) ?_ rfl ⟨rfl,HF.out⟩;simp[results,Tryz.results262,go_sem,x0,x1,x2,x3,x4,x5,x6,x7,x8]
 go_wp2_with fail
 obtain⟨z0,z1,z2,z3,z4,z5⟩:=E4.out;have g0:=Q z0;have g1:=Q z1;have g2:=Q z2;have g3:=Q z3;have g4:=Q z4;have g5:=Q z5;have HMk:=fun d os=>vt ⟨N,N,er,eu,ed,ef⟩ _ (HK4.out.grow (below_regrown w4 d os))
 have hB:(eu=C/\∃d',(ed||k==1)=d'/\oc= .go ⟨N,q,k,u,t,lv,wd⟩)\/(eu=N/\ed=C/\(ed||k==1)=N/\oc= .go ⟨N,q,k,u,t,lv,wd⟩)\/(eu=N/\(ed||k==1)=ed/\oc= .done ⟨N,N,er,N,ed,ef⟩ C):=by
  rcases hA with ⟨h1|⟨h1,h2,h3⟩,h4⟩|⟨h1,h2,h4⟩
  ·exact .inl ⟨h1,_,rfl,h4⟩
  ·exact .inr (.inl ⟨h1,h2,h3,h4⟩)
  ·exact .inr (.inr ⟨h1,h2,h4⟩)
 clear hA;rcases hB with ⟨rfl,d',hmk,rfl⟩|⟨rfl,rfl,hmk,rfl⟩|⟨rfl,hmk,rfl⟩
 all_goals
  simp only[Pg.En.val,Pg.Wk.mark]at HMk;rw[hmk]at HMk;refine wp_region_quiet_below (by kernel_rfl) (by kernel_rfl) ?_
  repeat (first
   | go_big_quiet_step ((go_at_call 286;exact Calls.regrown_of (HMk _ _))))
  refine wpQuiet_nil ?_;intro _ hw';obtain⟨⟨dq5,osq5⟩,rfl⟩:=hw';have hb5:=below_regrown w4 dq5 osq5;have HK5:Y _:=HK4.out.grow hb5;have HB5:Y (Below w.heap.size w (grow (redrawn w4 dq5) osq5)):=zT HB4.out hb5;have R5:Y ((grow (redrawn w4 dq5) osq5).heap[w.heap.size]?=_):=(hb5.block _ hr4).trans R4.out;have e5:=qy hb5 E4.out;have hr5:w.heap.size<(grow (redrawn w4 dq5) osq5).heap.size:=Z hr4 hb5.size;have hl5:b<(grow (redrawn w4 dq5) osq5).heap.size:=Z hl4 hb5.size;clear hb5 z0 z1 z2 z3 z4 z5 g0 g1 g2 g3 g4 g5 HMk HK4 HB4 R4 E4 hr4 hl4;generalize grow (redrawn w4 dq5) osq5=w5 at*;obtain⟨z0,z1,z2,z3,z4,z5⟩:=e5
 ·obtain⟨hR,hcd,hnx⟩:=HRR.out
  simp only[Pg.Wo.res,Pg.Wo.cd,Pg.Wo.next,Pg.Rs.zero,Pg.Rs.mk.injEq,Pg.Mp.mk.injEq]at hR hcd hnx;obtain⟨rfl,rfl,rfl,rfl,⟨rfl,rfl,rfl,rfl⟩,rfl⟩:=hR;subst hcd hnx;have y7:=HK5.out.c7;have yf:=HK5.out.fb;simp only at y7;obtain⟨⟨x0,x1,x2,x3,x4,x5,x6,x7,x8⟩,xf⟩:=ybx R5.out;have HF:Y _:=yeC hrb (M _) ⟨(HK5.out.wait wd).1,(Ch8.yhl HB5.out hl).trans (HK5.out.wait wd).2 (fun _ _ h=>h)⟩ (B C) (I J 0) (I J 0) (I J 0) (I J 0) (I J 0) (I J 0) (I J 0) (B C)
  go_wp2_with fail
  refine O (v:=X #[f #[B C,I J 0,I J 0,I J 0,I J 0,I J 0,I J 0,I J 0,B C],I J 0]) ?_ rfl ⟨rfl,HF.out⟩;simp[results,Tryz.results262,go_sem,x0,x1,x2,x3,x4,x5,x6,x7,x8]
 ·obtain⟨hR,hcd,hnx⟩:=HRR.out
  simp only[Pg.Wo.res,Pg.Wo.cd,Pg.Wo.next,Pg.Rs.zero,Pg.Rs.mk.injEq,Pg.Mp.mk.injEq]at hR hcd hnx;obtain⟨rfl,rfl,rfl,rfl,⟨rfl,rfl,rfl,rfl⟩,rfl⟩:=hR;subst hcd hnx;have y7:=HK5.out.c7;have yf:=HK5.out.fb;simp only at y7;obtain⟨⟨x0,x1,x2,x3,x4,x5,x6,x7,x8⟩,xf⟩:=ybx R5.out;have HF:Y _:=yeC hrb (M _) ⟨(HK5.out.wait wd).1,(Ch8.yhl HB5.out hl).trans (HK5.out.wait wd).2 (fun _ _ h=>h)⟩ (B C) (I J 0) (I J 0) (I J 0) (I J 0) (I J 0) (I J 0) (I J 0) (B C)
  go_wp2_with fail
  refine O (v:=X #[f #[B C,I J 0,I J 0,I J 0,I J 0,I J 0,I J 0,I J 0,B C],I J 0]) ?_ rfl ⟨rfl,HF.out⟩;simp[results,Tryz.results262,go_sem,x0,x1,x2,x3,x4,x5,x6,x7,x8]
 ·obtain⟨hR,hcd,hnx⟩:=HRR.out
  simp only[Pg.Wo.cd,Pg.Wo.next]at hcd hnx;subst hcd hnx;have HRR:Y _:=hR;clear hR;have HDn:=ybp ⟨N,N,er,N,ed,ef⟩ _ HK5.out C;simp only[Pg.En.val]at HDn;rw[HRR.out]at HDn;simp only[Pg.Rs.val]at HDn
  go_wp2_with fail
  refine HDn.mono ?_;rintro e w9 ⟨rfl,hk9,hc9⟩;have HC9:Y (Ch8 b o (fun j=>j=b) w w9):=(Ch8.yhl HB5.out hl).trans hc9 (fun _ _ h=>h);have R9:Y (w9.heap[w.heap.size]?=_):=(hc9.but.block _ hr5 hrb).trans R5.out;have hr9:w.heap.size<w9.heap.size:=Z hr5 hc9.but.size;obtain⟨⟨x0,x1,x2,x3,x4,x5,x6,x7,x8⟩,xf⟩:=ybx R9.out;have HF:Y _:=yeC hrb (M _) ⟨hk9,HC9.out⟩ (B ra) (I J rb) (I J rf) (I J rd) (I J rmp) (I J rms) (I J rmf) (I J rmr) (B re);clear hk9 hc9 HDn
  go_wp2_with fail
  refine O (v:=X #[f #[B ra,I J rb,I J rf,I J rd,I J rmp,I J rms,I J rmf,I J rmr,B re],I J 0]) ?_ rfl ⟨rfl,HF.out⟩;simp[results,Tryz.results262,go_sem,x0,x1,x2,x3,x4,x5,x6,x7,x8]
theorem yd8 {bf:Nat} {S:Pg.Fs} {F:Nat->Prop} {q k:Int} {u:Bool} {t:Int} {lv:Nat} (hq:Pg.below q 4096=N) (hlv:lv<4) (w:n) (h:zI w b o root ⟨N,q,k,u,t,lv,0⟩) (hf:zh w bf S F):
 s L 262 #[U (V ⟨b,o,P⟩),U (V ⟨bf,0,P⟩)] w fun e w'=>e=H (X #[((Pg.kOut S root ⟨N,q,k,u,t,lv,0⟩).res ⟨N,q,k,u,t,lv,0⟩).val,I J (Pg.kOut S root ⟨N,q,k,u,t,lv,0⟩).cd])/\zI w' b o root ((Pg.kOut S root ⟨N,q,k,u,t,lv,0⟩).next ⟨N,q,k,u,t,lv,0⟩)/\Ch8 b o (fun j=>j=b) w w':=by
 have hread:=Pg.yly S root q k u t lv;rw[show Pg.kOut S root (Pg.Wk.at' q k u t lv 0)=Pg.kOut S root ⟨N,q,k,u,t,lv,0⟩from rfl]at hread;cases hh:S.has t
 ·have hrc:Pg.yhu S t (Pg.ix q lv) lv=12:=by simp[Pg.yhu,hh]
  rw[hrc,if_pos (by decide)]at hread;rw[hread];exact ydk hq hlv w h hf hh
 ·by_cases hc:Pg.yhu S t (Pg.ix q lv) lv=0
  ·rw[if_neg (by simpa using hc)]at hread
   have hon:=fun h=>Pg.yhM (S:=S) (t:=t) (i:=Pg.ix q lv) (lv:=lv) h
   cases he:Pg.rEn S t (Pg.ix q lv) lv with
   | mk et el er eu ed ef=>
   rw[he]at hread hon;simp only[Pg.En.on]at hread hon;cases et
   ·rw[if_pos rfl]at hread
    rw[hread];exact xw hq hlv w h hf hh hc he (.inr ⟨rfl,.inl ⟨rfl,rfl⟩⟩)
   ·rw[if_neg (by decide)]at hread
    cases el
    ·rw[if_pos rfl]at hread
     obtain⟨m,hm⟩:=hon rfl
     have hlm2:lv-1=m:=by omega
     rw[hlm2]at hread;rw[hread];exact xw hq hlv w h hf hh hc he (.inr ⟨rfl,.inr ⟨rfl,.inl ⟨rfl,m,by omega,by omega,rfl⟩⟩⟩)
    ·rw[if_neg (by decide)]at hread
     cases hmay:Pg.may er k u
     ·rw[if_pos hmay]at hread
      rw[hread];exact xw hq hlv w h hf hh hc he (.inr ⟨rfl,.inr ⟨rfl,.inr ⟨rfl,.inl ⟨hmay,rfl⟩⟩⟩⟩)
     ·rw[if_neg (by simp[hmay])]at hread
      cases hr:(Pg.Wk.at' q k u t lv 0).ready ⟨N,N,er,eu,ed,ef⟩
      ·rw[if_pos hr]at hread
       rw[hread];simp only[Pg.Wk.ready,Pg.Wk.at']at hr;cases eu
       ·exact xw hq hlv w h hf hh hc he (.inr ⟨rfl,.inr ⟨rfl,.inr ⟨rfl,.inr ⟨hmay,.inl ⟨.inl rfl,rfl⟩⟩⟩⟩⟩)
       ·cases ed
        ·refine xw hq hlv w h hf hh hc he (.inr ⟨rfl,.inr ⟨rfl,.inr ⟨rfl,.inr ⟨hmay,.inl ⟨.inr ⟨rfl,rfl,?_⟩,rfl⟩⟩⟩⟩⟩)
         by_cases e:k=1
         ·simp[e]
         ·simp[e]at hr
        ·simp at hr
      ·rw[if_neg (by simp[hr])]at hread
       rw[hread];simp only[Pg.Wk.ready,Pg.Wk.at',Bool.and_eq_true]at hr;obtain⟨rfl,h2⟩:=hr;refine xw hq hlv w h hf hh hc he (.inr ⟨rfl,.inr ⟨rfl,.inr ⟨rfl,.inr ⟨hmay,.inr ⟨rfl,?_,rfl⟩⟩⟩⟩⟩);cases ed
       ·by_cases e:k=1
        ·simp[e]at h2
        ·simp[e]
       ·rfl
  ·rw[if_pos hc]at hread
   rw[hread]
   cases he:Pg.rEn S t (Pg.ix q lv) lv with
   | mk et el er eu ed ef=>exact xw hq hlv w h hf hh rfl he (.inl ⟨by simpa using hc,rfl⟩)
end
section
variable {b o:Nat} {root:Int}
theorem ydj {bf:Nat} {S:Pg.Fs} {F:Nat->Prop} {q k:Int} {u:Bool} {t:Int} {lv:Nat} {x:Int} (hq:Pg.below q 4096=N) (hlv:lv<4) (hx0:0<=x) (hx1:x<18446744073709551616) (w:n) (h:zI w b o root ⟨N,q,k,u,t,lv,x⟩) (hf:zh w bf S F) (hnF:¬F b) (hh:S.has t=C):
 s L 261 #[U (V ⟨b,o,P⟩),U (V ⟨bf,0,P⟩)] w fun e w'=>e=H (X #[(Pg.Wo.res ⟨N,q,k,u,t,lv,x⟩ (.code 12)).val,I J (Pg.Wo.cd (.code 12))])/\zI w' b o root (Pg.Wo.next ⟨N,q,k,u,t,lv,x⟩ (.code 12))/\∃F',zh w' bf (Pg.Wo.fs S ⟨N,q,k,u,t,lv,x⟩ (.code 12)) F'/\Ch8 b o (fun j=>j=b\/F j) w w'/\∀j,F' j->F j\/w.heap.size<=j:=by
 obtain⟨W,hW⟩:∃W,W=w.alloc (E #[B C,I J 0,I J 0,I J 0,I J 0,I J 0,I J 0,I J 0,B C] 330):=⟨_,rfl⟩
 have hBW:Below w.heap.size w W:=by rw[hW];exact zA (zR w) _
 have hl:=h.lb;have HKW:Y _:=h.grow hBW;have HFW:Y (zh W bf S F):=hf.keep (G:=fun _=>False) (But.yhl hBW) (fun _ _=>id)
 have R0:Y (W.heap[w.heap.size]?=V (E #[B C,I J 0,I J 0,I J 0,I J 0,I J 0,I J 0,I J 0,B C] 330 (0,0))):=by rw[hW];exact y _ _
 have hrb:¬w.heap.size=b:=by omega
 have hrF:¬F w.heap.size:=fun hF=>by have:=hf.lt hF;omega
 have HT:=vj t W HFW.out;rw[hh]at HT;have k5:=h.c5;simp only at k5;have HFF:Y (∃F',zh w bf S F'):=⟨F,hf⟩;have HFt:Y (∀w',But (fun j=>j=b) w w'->zh w' bf S F):=fun w' hb=>hf.keep hb (fun j hj e=>hnF (e▸hj));clear h hf hh hnF;simp only[Pg.Wo.res,Pg.Wo.cd,Pg.Wo.next,Pg.Wo.fs,Pg.Rs.zero,Pg.Rs.val]
 go_enter Tryz.func261,Tryz.ntmps261
 go_wp2_with fail
 rw[<-hW];refine HT.mono ?_;rintro e w1 ⟨rfl,hb1⟩;have HK1:Y _:=HKW.out.grow hb1;have HF1:Y (zh w1 bf S F):=zh.keep (G:=fun _=>False) HFW.out (But.yhl hb1) (fun _ _=>id);have HB1:Y (Below w.heap.size w w1):=zT hBW hb1;have R1:Y (w1.heap[w.heap.size]?=_):=(hb1.block _ (by rw[hW];simp)).trans R0.out;have hl1:b<w1.heap.size:=HK1.out.lb;have hr1:w.heap.size<w1.heap.size:=(T.1 R1.out).1;clear hb1 HT k5 HKW HFW R0 hBW hW W;obtain⟨⟨x0,x1,x2,x3,x4,x5,x6,x7,x8⟩,xf⟩:=ybx R1.out;have HF:Y _:=yeC hrb (M _) ⟨HK1.out,Ch8.yhl (F:=fun j=>j=b) HB1.out hl⟩ (B C) (I J 0) (I J 0) (I J 0) (I J 0) (I J 0) (I J 0) (I J 0) (B C)
 go_wp2_with fail
 refine O (v:=X #[f #[B C,I J 0,I J 0,I J 0,I J 0,I J 0,I J 0,I J 0,B C],I J 12]) ?_ rfl ⟨rfl,HF.out.1,F,HFt.out _ HF.out.2.but,HF.out.2.mono (fun _ _ h=> .inl h),fun j hj=> .inl hj⟩;simp[results,Tryz.results261,go_sem,x0,x1,x2,x3,x4,x5,x6,x7,x8]
theorem yeO {K:Pg.Wk} {G:Nat->Prop} {w W:n} {r:Nat} (hr:¬r=b) (hw:w.heap.size<=r) (h:zI W b o root K/\Ch8 b o G w W) (v0 v1 v2 v3 v4 v5 v6 v7 v8:Value):
 zI (((((((((W.setCell ⟨r,0,P⟩ v0).setCell ⟨r,1,P⟩ v1).setCell ⟨r,2,P⟩ v2).setCell ⟨r,3,P⟩ v3).setCell ⟨r,4,P⟩ v4).setCell ⟨r,5,P⟩ v5).setCell ⟨r,6,P⟩ v6).setCell ⟨r,7,P⟩ v7).setCell ⟨r,8,P⟩ v8) b o root K/\
 Ch8 b o G w (((((((((W.setCell ⟨r,0,P⟩ v0).setCell ⟨r,1,P⟩ v1).setCell ⟨r,2,P⟩ v2).setCell ⟨r,3,P⟩ v3).setCell ⟨r,4,P⟩ v4).setCell ⟨r,5,P⟩ v5).setCell ⟨r,6,P⟩ v6).setCell ⟨r,7,P⟩ v7).setCell ⟨r,8,P⟩ v8):=by
 have hb:=xA (F:=fun j=>j=r) (But.refl _ W) r (.inr rfl) v0 v1 v2 v3 v4 v5 v6 v7 v8;have hne:¬b=r:=fun e=>hr e.symm;refine⟨h.1.keep hb hne,?_,fun p hp=> ?_⟩
 ·exact xA h.2.but r (.inl hw) v0 v1 v2 v3 v4 v5 v6 v7 v8
 ·exact(hb.cell (a:=⟨b,p,P⟩) h.1.lb hne).trans (h.2.oth p hp)
theorem yel {w w':n} {e:Nat} {v0 v1 v2 v3 v4 v5:Value} (hk:w'.heap[e]?=w.heap[e]?) (h:w.cell? ⟨e,0,P⟩=V v0/\w.cell? ⟨e,1,P⟩=V v1/\w.cell? ⟨e,2,P⟩=V v2/\w.cell? ⟨e,3,P⟩=V v3/\w.cell? ⟨e,4,P⟩=V v4/\w.cell? ⟨e,5,P⟩=V v5):
 w'.cell? ⟨e,0,P⟩=V v0/\w'.cell? ⟨e,1,P⟩=V v1/\w'.cell? ⟨e,2,P⟩=V v2/\w'.cell? ⟨e,3,P⟩=V v3/\w'.cell? ⟨e,4,P⟩=V v4/\w'.cell? ⟨e,5,P⟩=V v5:=
 ⟨(D hk).trans h.1,(D hk).trans h.2.1,(D hk).trans h.2.2.1,(D hk).trans h.2.2.2.1,(D hk).trans h.2.2.2.2.1,(D hk).trans h.2.2.2.2.2⟩
theorem yax {bf:Nat} {S:Pg.Fs} {F:Nat->Prop} {q k:Int} {u:Bool} {t:Int} {lv:Nat} {x:Int} (hq:Pg.below q 4096=N) (hlv:lv<4) (hx0:0<=x) (hx1:x<18446744073709551616) (w:n) (h:zI w b o root ⟨N,q,k,u,t,lv,x⟩) (hf:zh w bf S F) (hnF:¬F b) (hh:S.has t=N) {oc:Pg.Wo} (hO:(S.word t.toNat (Pg.ix q lv)=x/\oc= .done (Pg.Wk.mark ⟨N,q,k,u,t,lv,x⟩ (Pg.En.of x lv)) N)\/(S.word t.toNat (Pg.ix q lv)≠x/\oc= .go (Pg.Wk.again root ⟨N,q,k,u,t,lv,x⟩))):
 s L 261 #[U (V ⟨b,o,P⟩),U (V ⟨bf,0,P⟩)] w fun e w'=>e=H (X #[(Pg.Wo.res ⟨N,q,k,u,t,lv,x⟩ oc).val,I J (Pg.Wo.cd oc)])/\zI w' b o root (Pg.Wo.next ⟨N,q,k,u,t,lv,x⟩ oc)/\∃F',zh w' bf (Pg.Wo.fs S ⟨N,q,k,u,t,lv,x⟩ oc) F'/\Ch8 b o (fun j=>j=b\/F j) w w'/\∀j,F' j->F j\/w.heap.size<=j:=by
 obtain⟨W,hW⟩:∃W,W=w.alloc (E #[B C,I J 0,I J 0,I J 0,I J 0,I J 0,I J 0,I J 0,B C] 330):=⟨_,rfl⟩
 have hBW:Below w.heap.size w W:=by rw[hW];exact zA (zR w) _
 have hl:=h.lb;have HKW:Y _:=h.grow hBW;have HFW:Y (zh W bf S F):=hf.keep (G:=fun _=>False) (But.yhl hBW) (fun _ _=>id)
 have R0:Y (W.heap[w.heap.size]?=V (E #[B C,I J 0,I J 0,I J 0,I J 0,I J 0,I J 0,I J 0,B C] 330 (0,0))):=by rw[hW];exact y _ _
 have hrb:¬w.heap.size=b:=by omega
 have hrF:¬F w.heap.size:=fun hF=>by have:=hf.lt hF;omega
 have HT:=vj t W HFW.out;rw[hh]at HT;have k5:=h.c5;simp only at k5;have hat:=ydE S t q lv;rw[hh]at hat
 have hO:(S.swaps t (Pg.ix q lv:Nat) x=N/\(∀v,S.swap t (Pg.ix q lv:Nat) x v=S.store t (Pg.ix q lv:Nat) v)/\oc= .done (Pg.Wk.mark ⟨N,q,k,u,t,lv,x⟩ (Pg.En.of x lv)) N)\/(S.swaps t (Pg.ix q lv:Nat) x=C/\(∀v,S.swap t (Pg.ix q lv:Nat) x v=S)/\oc= .go (Pg.Wk.again root ⟨N,q,k,u,t,lv,x⟩)):=by
  rcases hO with ⟨hwd,e⟩|⟨hwd,e⟩
  ·have hsw:S.swaps t (Pg.ix q lv:Nat) x=N:=by simp[Pg.Fs.swaps,hat,hwd]
   exact .inl ⟨hsw,fun v=>by simp[Pg.Fs.swap,Pg.Fs.store,hsw,hat],e⟩
  ·have hsw:S.swaps t (Pg.ix q lv:Nat) x=C:=by simp[Pg.Fs.swaps,hwd]
   exact .inr ⟨hsw,fun v=>by simp[Pg.Fs.swap,hsw],e⟩
 clear hat;have HKw:Y _:=h;have HDc:=fun W'=>jD x lv hx0 hx1 W';rw[Pg.ykF]at HDc;simp only[Pg.En.val]at HDc;generalize Pg.En.of x lv=en at*;generalize Pg.yhz x lv=rc at*;obtain⟨et,el,er,eu,ed,ef⟩:=en;simp only at HDc;obtain⟨d',hmk⟩:∃d',(ed||k==1)=d':=⟨_,rfl⟩
 have hO:(S.swaps t (Pg.ix q lv:Nat) x=N/\oc= .done ⟨et,el,er,N,d',ef⟩ N\/S.swaps t (Pg.ix q lv:Nat) x=C/\oc= .go (Pg.Wk.again root ⟨N,q,k,u,t,lv,x⟩))/\Pg.Wo.fs S ⟨N,q,k,u,t,lv,x⟩ oc=S.swap t (Pg.ix q lv:Nat) x (Pg.enc et el er N d' ef lv):=by
  rcases hO with ⟨e1,e2,e3⟩|⟨e1,e2,e3⟩
  ·rw[e2,e3,Pg.Wk.mark,<-hmk]
   exact⟨.inl ⟨e1,rfl⟩,by simp only[Pg.Wo.fs];rw[Pg.yh7 hq hlv]⟩
  ·rw[e2,e3]
   exact⟨.inr ⟨e1,rfl⟩,rfl⟩
 rw[hO.2];have HO:Y _:=hO.1;clear hO;have hss:∀S',S'=S.swap t (Pg.ix q lv:Nat) x (Pg.enc et el er N d' ef lv)->S.swap t (Pg.ix q lv:Nat) x (Pg.enc et el er N d' ef lv)=S':=fun _ e=>e.symm;obtain⟨SY,hSY⟩:∃SY,SY=S.swap t (Pg.ix q lv:Nat) x (Pg.enc et el er N d' ef lv):=⟨_,rfl⟩;have hss:=hss SY hSY;rw[hss];clear hSY;obtain⟨sw,hsw⟩:∃sw,S.swaps t (Pg.ix q lv:Nat) x=sw:=⟨_,rfl⟩;rw[hsw]at HO;generalize hR:Pg.Wo.res ⟨N,q,k,u,t,lv,x⟩ oc=R;generalize hcd:Pg.Wo.cd oc=cdv;generalize hnx:Pg.Wo.next ⟨N,q,k,u,t,lv,x⟩ oc=nx;obtain⟨ra,rb,rc',rd,⟨rmp,rms,rmf,rmr⟩,re⟩:=R;have HRR:Y (_/\_/\_):=⟨hR,hcd,hnx⟩;clear hR hcd hnx;simp only[Pg.Rs.val];have HFt:Y (zh w bf S F):=hf;clear h hf hh
 go_enter Tryz.func261,Tryz.ntmps261
 go_wp2_with fail
 rw[<-hW];refine HT.mono ?_;rintro e w1 ⟨rfl,hb1⟩;have HK1:Y _:=HKW.out.grow hb1;have HF1:Y (zh w1 bf S F):=zh.keep (G:=fun _=>False) HFW.out (But.yhl hb1) (fun _ _=>id);have HB1:Y (Below w.heap.size w w1):=zT hBW hb1;have R1:Y (w1.heap[w.heap.size]?=_):=(hb1.block _ (by rw[hW];simp)).trans R0.out;have hl1:b<w1.heap.size:=HK1.out.lb;have hr1:w.heap.size<w1.heap.size:=(T.1 R1.out).1;clear hb1 HT k5 HKW HFW R0 hBW hW W;have y7:=HK1.out.c7;have y6:=HK1.out.c6;simp only at y6 y7
 have nb1:b≠w1.heap.size:=by omega
 have mb1:w1.heap.size≠b:=by omega
 go_wp2_with fail
 go_region_held3 (fun w'=>w'.cell? ⟨b,o+7,P⟩=V (I g x)/\w'.cell? ⟨b,o+6,P⟩=V (I J (lv:Int))) (go_keep) (
  (go_at_call 248;refine(HDc _).mono ?_;rintro en w2 ⟨rfl,hb2⟩
   have HB2:Y _:=hb2;have hl2:b<w2.heap.size:=Z (by first|exact hl1|(simp;omega)) hb2.size;have hs2:w1.heap.size<=w2.heap.size:=Nat.le_trans (by simp) hb2.size;have y7':w2.cell? ⟨b,o+7,P⟩=V (I g x):=(hb2.cell (p:=⟨b,o+7,P⟩) (by first|exact hl1|(simp;omega))).trans (by first|exact y7|(simp[go_sem,y7,hl1];done));have y6':w2.cell? ⟨b,o+6,P⟩=V (I J (lv:Int)):=(hb2.cell (p:=⟨b,o+6,P⟩) (by first|exact hl1|(simp;omega))).trans (by first|exact y6|(simp[go_sem,y6,hl1];done))
   have nb2:b≠w2.heap.size:=by omega
   have mb2:w2.heap.size≠b:=by omega
   obtain⟨hcw2,hfw2⟩:=qD hb2
   clear hb2))
 focus
  have hW5:Below w1.heap.size w1 (w2.alloc (E #[B et,B el,I J er,B eu,B ed,I J ef] 82))/\w1.heap.size<=w2.heap.size/\((w2.alloc (E #[B et,B el,I J er,B eu,B ed,I J ef] 82)).cell? ⟨w2.heap.size,0,P⟩=V (B et)/\(w2.alloc (E #[B et,B el,I J er,B eu,B ed,I J ef] 82)).cell? ⟨w2.heap.size,1,P⟩=V (B el)/\(w2.alloc (E #[B et,B el,I J er,B eu,B ed,I J ef] 82)).cell? ⟨w2.heap.size,2,P⟩=V (I J er)/\(w2.alloc (E #[B et,B el,I J er,B eu,B ed,I J ef] 82)).cell? ⟨w2.heap.size,3,P⟩=V (B eu)/\(w2.alloc (E #[B et,B el,I J er,B eu,B ed,I J ef] 82)).cell? ⟨w2.heap.size,4,P⟩=V (B ed)/\(w2.alloc (E #[B et,B el,I J er,B eu,B ed,I J ef] 82)).cell? ⟨w2.heap.size,5,P⟩=V (I J ef))/\∀i,(w2.alloc (E #[B et,B el,I J er,B eu,B ed,I J ef] 82)).frozen? ⟨w2.heap.size,i,P⟩=C:=by
   have hB2:=zT (zR w1).drew HB2.out;exact⟨zA hB2 _,hB2.size,by simp[go_sem],fun i=>by simp[go_sem]⟩
  generalize w2.alloc (E #[B et,B el,I J er,B eu,B ed,I J ef] 82)=W5 at*;generalize w2.heap.size=Eb at*;obtain⟨EB0,hEb,hE6,hEf⟩:=hW5;have EB:Y _:=EB0;have E6:Y _:=hE6;have EF:Y _:=hEf;clear EB0 hE6 hEf hcw2 hfw2 y7' y6' nb2 mb2 HB2 hl2 hs2
 rotate_left
 focus
  obtain⟨Eb,hEbE⟩:∃Eb,Eb=w1.heap.size:=⟨_,rfl⟩;rw[<-hEbE]
  have hW5:Below w1.heap.size w1 ((((((w2.setCell ⟨Eb,0,P⟩ (B et)).setCell ⟨Eb,1,P⟩ (B el)).setCell ⟨Eb,2,P⟩ (I J er)).setCell ⟨Eb,3,P⟩ (B eu)).setCell ⟨Eb,4,P⟩ (B ed)).setCell ⟨Eb,5,P⟩ (I J ef))/\w1.heap.size<=Eb/\(((((((w2.setCell ⟨Eb,0,P⟩ (B et)).setCell ⟨Eb,1,P⟩ (B el)).setCell ⟨Eb,2,P⟩ (I J er)).setCell ⟨Eb,3,P⟩ (B eu)).setCell ⟨Eb,4,P⟩ (B ed)).setCell ⟨Eb,5,P⟩ (I J ef)).cell? ⟨Eb,0,P⟩=V (B et)/\((((((w2.setCell ⟨Eb,0,P⟩ (B et)).setCell ⟨Eb,1,P⟩ (B el)).setCell ⟨Eb,2,P⟩ (I J er)).setCell ⟨Eb,3,P⟩ (B eu)).setCell ⟨Eb,4,P⟩ (B ed)).setCell ⟨Eb,5,P⟩ (I J ef)).cell? ⟨Eb,1,P⟩=V (B el)/\((((((w2.setCell ⟨Eb,0,P⟩ (B et)).setCell ⟨Eb,1,P⟩ (B el)).setCell ⟨Eb,2,P⟩ (I J er)).setCell ⟨Eb,3,P⟩ (B eu)).setCell ⟨Eb,4,P⟩ (B ed)).setCell ⟨Eb,5,P⟩ (I J ef)).cell? ⟨Eb,2,P⟩=V (I J er)/\((((((w2.setCell ⟨Eb,0,P⟩ (B et)).setCell ⟨Eb,1,P⟩ (B el)).setCell ⟨Eb,2,P⟩ (I J er)).setCell ⟨Eb,3,P⟩ (B eu)).setCell ⟨Eb,4,P⟩ (B ed)).setCell ⟨Eb,5,P⟩ (I J ef)).cell? ⟨Eb,3,P⟩=V (B eu)/\((((((w2.setCell ⟨Eb,0,P⟩ (B et)).setCell ⟨Eb,1,P⟩ (B el)).setCell ⟨Eb,2,P⟩ (I J er)).setCell ⟨Eb,3,P⟩ (B eu)).setCell ⟨Eb,4,P⟩ (B ed)).setCell ⟨Eb,5,P⟩ (I J ef)).cell? ⟨Eb,4,P⟩=V (B ed)/\((((((w2.setCell ⟨Eb,0,P⟩ (B et)).setCell ⟨Eb,1,P⟩ (B el)).setCell ⟨Eb,2,P⟩ (I J er)).setCell ⟨Eb,3,P⟩ (B eu)).setCell ⟨Eb,4,P⟩ (B ed)).setCell ⟨Eb,5,P⟩ (I J ef)).cell? ⟨Eb,5,P⟩=V (I J ef))/\∀i,((((((w2.setCell ⟨Eb,0,P⟩ (B et)).setCell ⟨Eb,1,P⟩ (B el)).setCell ⟨Eb,2,P⟩ (I J er)).setCell ⟨Eb,3,P⟩ (B eu)).setCell ⟨Eb,4,P⟩ (B ed)).setCell ⟨Eb,5,P⟩ (I J ef)).frozen? ⟨Eb,i,P⟩=C:=by
   subst hEbE;have hB2:=zT (zA (zR w1) _).drew HB2.out
   have h6:w2.cell? ⟨w1.heap.size,0,P⟩=V (B C)/\w2.cell? ⟨w1.heap.size,1,P⟩=V (B C)/\w2.cell? ⟨w1.heap.size,2,P⟩=V (I J 0)/\w2.cell? ⟨w1.heap.size,3,P⟩=V (B C)/\w2.cell? ⟨w1.heap.size,4,P⟩=V (B C)/\w2.cell? ⟨w1.heap.size,5,P⟩=V (I J 0):=by
    refine⟨?_,?_,?_,?_,?_,?_⟩<;>(rw[hcw2 _ _ (by simp)];simp[go_sem])
   have hst:=yfM (v0:=B et) (v1:=B el) (v2:=I J er) (v3:=B eu) (v4:=B ed) (v5:=I J ef) hB2 (M _) h6;refine⟨hst.1,M _,hst.2.1,fun i=> ?_⟩;rw[hst.2.2.2,hfw2 _ _ (by simp)];simp[go_sem]
  generalize ((((((w2.setCell ⟨Eb,0,P⟩ (B et)).setCell ⟨Eb,1,P⟩ (B el)).setCell ⟨Eb,2,P⟩ (I J er)).setCell ⟨Eb,3,P⟩ (B eu)).setCell ⟨Eb,4,P⟩ (B ed)).setCell ⟨Eb,5,P⟩ (I J ef))=W5 at*;obtain⟨EB0,hEb,hE6,hEf⟩:=hW5;have EB:Y _:=EB0;have E6:Y _:=hE6;have EF:Y _:=hEf;clear EB0 hE6 hEf hEbE hcw2 hfw2 y7' y6' nb2 mb2 HB2 hl2 hs2
 rotate_left
 all_goals
  obtain⟨z0,z1,z2,z3,z4,z5⟩:=E6.out;have zf:=EF.out;have hEl:=z _ _ z0;simp only at hEl;have HB5:Y (Below w.heap.size w W5):=zT HB1.out EB.out;have R5:Y (W5.heap[w.heap.size]?=_):=(EB.out.block _ hr1).trans R1.out;have HMk:=vt ⟨et,el,er,eu,ed,ef⟩ _ (HKw.out.grow HB5.out);simp only[Pg.En.val,Pg.Wk.mark]at HMk;rw[hmk]at HMk
  go_wp2_with fail
  refine HMk.mono ?_;rintro en w6 ⟨rfl,hb6⟩;obtain⟨W7,hW7⟩:∃W7,W7=((((((w6.setCell ⟨Eb,0,P⟩ (B et)).setCell ⟨Eb,1,P⟩ (B el)).setCell ⟨Eb,2,P⟩ (I J er)).setCell ⟨Eb,3,P⟩ (B N)).setCell ⟨Eb,4,P⟩ (B d')).setCell ⟨Eb,5,P⟩ (I J ef)):=⟨_,rfl⟩
  have hB67:Below w.heap.size w6 W7:=by
   have hE:w.heap.size<=Eb:=by omega
   rw[hW7];exact((((((l _ w6).setCell hE _).setCell hE _).setCell hE _).setCell hE _).setCell hE _).setCell hE _
  have k6:=qy hb6 E6.out;have kf:∀i,w6.frozen? ⟨Eb,i,P⟩=C:=fun i=>(hb6.frozen (p:=⟨Eb,i,P⟩) hEl).trans (EF.out i);have HB7:Y (Below w.heap.size w W7):=(zT HB5.out hb6).trans hB67
  have hE7:Eb<W7.heap.size:=by rw[hW7];simp;have:=hb6.size;omega
  obtain⟨q0,q1,q2,q3,q4,q5⟩:=k6
  have E7:Y (W7.cell? ⟨Eb,0,P⟩=V (B et)/\W7.cell? ⟨Eb,1,P⟩=V (B el)/\W7.cell? ⟨Eb,2,P⟩=V (I J er)/\W7.cell? ⟨Eb,3,P⟩=V (B N)/\W7.cell? ⟨Eb,4,P⟩=V (B d')/\W7.cell? ⟨Eb,5,P⟩=V (I J ef)):=by rw[Y,hW7];simp[go_sem,q0,q1,q2,q3,q4,q5]
  have R7:Y (W7.heap[w.heap.size]?=V (E #[B C,I J 0,I J 0,I J 0,I J 0,I J 0,I J 0,I J 0,B C] 330 (0,0))):=by
   have hne:w.heap.size≠Eb:=by omega
   rw[hW7,A _ _ _ _ hne,A _ _ _ _ hne,A _ _ _ _ hne,A _ _ _ _ hne,A _ _ _ _ hne,A _ _ _ _ hne];exact(hb6.block _ (by omega)).trans R5.out
  have hEbW:w.heap.size<Eb:=by omega
  clear hB67 hb6 HMk z0 z1 z2 z3 z4 z5 zf hEl HB5 R5 E6 EF EB y6 y7 nb1 mb1 HK1 HF1 HB1 R1 hl1 hr1 HDc hEb
  go_wp2_with fail
  rw[<-hW7];clear hW7 q0 q1 q2 q3 q4 q5 kf;have g0:=Q E7.out.1;have g1:=Q E7.out.2.1;have g2:=Q E7.out.2.2.1;have g3:=Q E7.out.2.2.2.1;have g4:=Q E7.out.2.2.2.2.1;have g5:=Q E7.out.2.2.2.2.2;have g6:=Q (HKw.out.grow HB7.out).c6;simp only at g6;have HEn:=fun W'=>yaq et el er N d' ef lv W';have hv0:=(Pg.ykH et el er N d' ef lv).1;have hv1:=(Pg.ykH et el er N d' ef lv).2;generalize hvv:Pg.enc et el er N d' ef lv=v at*;have HSS:Y _:=hss;clear hss hvv;refine wp_region_quiet_below (by kernel_rfl) (by kernel_rfl) ?_
  repeat (first
   | go_big_quiet_step ((go_at_call 251;exact Calls.regrown_of (HEn _))))
  refine wpQuiet_nil ?_;intro _ hw';obtain⟨⟨dq8,osq8⟩,rfl⟩:=hw';have hb8:=below_regrown W7 dq8 osq8;have HB8:Y (Below w.heap.size w (grow (redrawn W7 dq8) osq8)):=zT HB7.out hb8;have E8:Y _:=qy hb8 E7.out;have R8:Y ((grow (redrawn W7 dq8) osq8).heap[w.heap.size]?=_):=(hb8.block _ (by omega)).trans R7.out;clear hb8 g0 g1 g2 g3 g4 g5 g6 HB7 E7 R7 HEn hE7;generalize grow (redrawn W7 dq8) osq8=w8 at*
  go_wp2_with fail
  have g5:=Q (HKw.out.grow HB8.out).c5;have g7:=Q (HKw.out.grow HB8.out).c7;simp only at g5 g7;have HP:=fun d os=>jH _ ((HKw.out.grow HB8.out).grow (below_regrown w8 d os));simp only[Pg.yh7 hq hlv]at HP;refine Loose.yhn 12 (by kernel_rfl) (by kernel_rfl) ?_;simp only[List.take_succ_cons,List.take_zero,List.drop_succ_cons,List.drop_zero]
  repeat (
   refine Loose.zS (fun k hk=> ?_)
   go_simp
   first
    | (refine hk _ ?_;clear hk k)
    | (apply Exists.intro
       refine⟨fun _=> ?_,hk _ ?_⟩
       (go_at_call 288;exact Loose.calls (HP _ _))
       clear hk k))
  refine Loose.yho ?_;intro w9 hb9;have HB9:Y (Below w.heap.size w w9):=zT HB8.out hb9;have E9:Y _:=qy hb9 E8.out;have R9:Y (w9.heap[w.heap.size]?=_):=(hb9.block _ (T.1 R8.out).1).trans R8.out;clear hb9 g5 g7 HP HB8 E8 R8;have HSw:=ydg t (Pg.ix q lv:Nat) x v hv0 hv1 w9 (zh.keep (G:=fun _=>False) HFt.out (But.yhl HB9.out) (fun _ _=>id));rw[hsw,HSS.out]at HSw
  go_wp2_with fail
  refine HSw.mono ?_;rintro en w10 ⟨rfl,F10,hf10,hb10,hF10⟩;have hl9:b<w9.heap.size:=Z hl HB9.out.size;have hr9:w.heap.size<w9.heap.size:=(T.1 R9.out).1;have HK10:Y _:=(HKw.out.grow HB9.out).keep hb10 hnF;have HC10:Y (Ch8 b o (fun j=>j=b\/F j) w w10):=(Ch8.yhl HB9.out hl).trans ((Ch8.of_but (o:=o) hb10 hl9 hnF).mono (G:=fun j=>j=b\/F j) (fun _ _ h=> .inr h)) (fun _ _ h=>h);have R10:Y (w10.heap[w.heap.size]?=_):=(hb10.block _ hr9 hrF).trans R9.out
  have hEF:¬F Eb:=fun hF=>by have:=zh.lt HFt.out hF;omega
  have E10:Y _:=yel (hb10.block Eb (z _ _ E9.out.1) hEF) E9.out;have HF10:Y (zh w10 bf SY F10):=hf10;have HG10:Y (∀j,F10 j->F j\/w.heap.size<=j):=fun j hj=>(hF10 j hj).imp id (fun h=>by omega)
  have hb10F:¬F10 b:=fun h=>by rcases hF10 b h with h|h;exact hnF h;omega
  have hr10F:¬F10 w.heap.size:=fun h=>by rcases hF10 _ h with h|h;exact hrF h;omega
  clear hf10 hb10 hF10 HSw HB9 R9 E9 HKw hl9 hr9;rcases HO.out with ⟨rfl,rfl⟩|⟨rfl,rfl⟩
  ·obtain⟨hR,hcd,hnx⟩:=HRR.out
   simp only[Pg.Wo.cd,Pg.Wo.next]at hcd hnx;subst hcd hnx;have HRR:Y _:=hR;clear hR;obtain⟨z0,z1,z2,z3,z4,z5⟩:=E10.out;have HDn:=ybp ⟨et,el,er,N,d',ef⟩ _ HK10.out N;rw[HRR.out]at HDn;simp only[Pg.En.val,Pg.Rs.val]at HDn
   go_wp2_with fail
   refine HDn.mono ?_;rintro en w11 ⟨rfl,hk11,hc11⟩;have HF11:Y (zh w11 bf SY F10):=zh.keep HF10.out hc11.but (fun j hj e=>hb10F (e▸hj));have HC11:Y (Ch8 b o (fun j=>j=b\/F j) w w11):=HC10.out.trans hc11 (fun _ _ h=> .inl h);have R11:Y (w11.heap[w.heap.size]?=_):=(hc11.but.block _ (T.1 R10.out).1 hrb).trans R10.out;obtain⟨⟨x0,x1,x2,x3,x4,x5,x6,x7,x8⟩,xf⟩:=ybx R11.out;have HF:Y _:=yeO hrb (M _) ⟨hk11,HC11.out⟩ (B ra) (I J rb) (I J rc') (I J rd) (I J rmp) (I J rms) (I J rmf) (I J rmr) (B re);have HFr:Y _:=zh.keep HF11.out (xA (F:=fun j=>j=w.heap.size) (But.refl _ w11) w.heap.size (.inr rfl) (B ra) (I J rb) (I J rc') (I J rd) (I J rmp) (I J rms) (I J rmf) (I J rmr) (B re)) (fun j hj e=>hr10F (e▸hj));clear hk11 hc11 HDn
   go_wp2_with fail
   refine O (v:=X #[f #[B ra,I J rb,I J rc',I J rd,I J rmp,I J rms,I J rmf,I J rmr,B re],I J 0]) ?_ rfl ⟨rfl,HF.out.1,F10,HFr.out,HF.out.2,HG10.out⟩;simp[results,Tryz.results261,go_sem,x0,x1,x2,x3,x4,x5,x6,x7,x8]
  ·obtain⟨hR,hcd,hnx⟩:=HRR.out
   simp only[Pg.Wo.res,Pg.Wo.cd,Pg.Wo.next,Pg.Rs.zero,Pg.Rs.mk.injEq,Pg.Mp.mk.injEq]at hR hcd hnx;obtain⟨rfl,rfl,rfl,rfl,⟨rfl,rfl,rfl,rfl⟩,rfl⟩:=hR;subst hcd hnx;have HA:=jG _ HK10.out
   go_wp2_with fail
   refine HA.mono ?_;rintro en w11 ⟨rfl,hk11,hc11⟩;have HF11:Y (zh w11 bf SY F10):=zh.keep HF10.out hc11.but (fun j hj e=>hb10F (e▸hj));have HC11:Y (Ch8 b o (fun j=>j=b\/F j) w w11):=HC10.out.trans hc11 (fun _ _ h=> .inl h);have R11:Y (w11.heap[w.heap.size]?=_):=(hc11.but.block _ (T.1 R10.out).1 hrb).trans R10.out;obtain⟨⟨x0,x1,x2,x3,x4,x5,x6,x7,x8⟩,xf⟩:=ybx R11.out;have HF:Y _:=yeO hrb (M _) ⟨hk11,HC11.out⟩ (B C) (I J 0) (I J 0) (I J 0) (I J 0) (I J 0) (I J 0) (I J 0) (B C);have HFr:Y _:=zh.keep HF11.out (xA (F:=fun j=>j=w.heap.size) (But.refl _ w11) w.heap.size (.inr rfl) (B C) (I J 0) (I J 0) (I J 0) (I J 0) (I J 0) (I J 0) (I J 0) (B C)) (fun j hj e=>hr10F (e▸hj));clear hk11 hc11 HA
   go_wp2_with fail
   refine O (v:=X #[f #[B C,I J 0,I J 0,I J 0,I J 0,I J 0,I J 0,I J 0,B C],I J 0]) ?_ rfl ⟨rfl,HF.out.1,F10,HFr.out,HF.out.2,HG10.out⟩;simp[results,Tryz.results261,go_sem,x0,x1,x2,x3,x4,x5,x6,x7,x8]
theorem ycf {bf:Nat} {S S':Pg.Fs} {F:Nat->Prop} {K K':Pg.Wk} {R:Pg.Rs} {c:Int} (ho:K.on=N) (hx:(K.x !=0)=N) (w:n) (h:zI w b o root K) (hf:zh w bf S F) (hnF:¬F b)
 (HC:∀W,zI W b o root K->zh W bf S F->s L 261 #[U (V ⟨b,o,P⟩),U (V ⟨bf,0,P⟩)] W fun e w'=>e=H (X #[R.val,I J c])/\zI w' b o root K'/\∃F',zh w' bf S' F'/\Ch8 b o (fun j=>j=b\/F j) W w'/\∀j,F' j->F j\/W.heap.size<=j):
 s L 226 #[U (V ⟨b,o,P⟩),U (V ⟨bf,0,P⟩)] w fun e w'=>e=H (X #[R.val,I J c])/\zI w' b o root K'/\∃F',zh w' bf S' F'/\Ch8 b o (fun j=>j=b\/F j) w w'/\∀j,F' j->F j\/w.heap.size<=j:=by
 obtain⟨W,hW⟩:∃W,W=w.alloc (E #[B C,I J 0,I J 0,I J 0,I J 0,I J 0,I J 0,I J 0,B C] 330):=⟨_,rfl⟩
 have hBW:Below w.heap.size w W:=by rw[hW];exact zA (zR w) _
 have HBW:Y _:=hBW;have hl:=h.lb
 have hne:b≠w.heap.size:=by omega
 have HCW:=HC W (h.grow hBW) (hf.keep (G:=fun _=>False) (But.yhl hBW) (fun _ _=>id))
 have R0:Y (W.heap[w.heap.size]?=V (E #[B C,I J 0,I J 0,I J 0,I J 0,I J 0,I J 0,I J 0,B C] 330 (0,0))):=by rw[hW];exact y _ _
 have hrb:¬w.heap.size=b:=by omega
 have hrF:¬F w.heap.size:=fun hF=>by have:=hf.lt hF;omega
 have c1:=h.c1;have c7:=h.c7;rw[ho]at c1;have hlW:w.heap.size<W.heap.size:=(T.1 R0.out).1;obtain⟨ra,rb,rc,rd,⟨rmp,rms,rmf,rmr⟩,re⟩:=R;simp only[Pg.Rs.val]at HCW ⊢;clear h hf ho HC hBW
 go_enter Tryz.func226,Tryz.ntmps226
 go_wp2_with fail
 rw[<-hW];refine HCW.mono ?_;rintro e w1 ⟨rfl,hk1,F1,hf1,hc1,hF1⟩;have R1:Y (w1.heap[w.heap.size]?=_):=(hc1.but.block _ hlW (by rintro (h|h);exact hrb h;exact hrF h)).trans R0.out
 have hr1F:¬F1 w.heap.size:=fun h=>by rcases hF1 _ h with h|h;exact hrF h;omega
 have HC1:Y (Ch8 b o (fun j=>j=b\/F j) w w1):=(Ch8.yhl HBW.out hl).trans hc1 (fun _ _ h=>h);have HG:Y (∀j,F1 j->F j\/w.heap.size<=j):=fun j hj=>(hF1 j hj).imp id (fun h=>by omega);obtain⟨⟨x0,x1,x2,x3,x4,x5,x6,x7,x8⟩,xf⟩:=ybx R1.out;have HF:Y _:=yeO hrb (M _) ⟨hk1,HC1.out⟩ (B ra) (I J rb) (I J rc) (I J rd) (I J rmp) (I J rms) (I J rmf) (I J rmr) (B re);have HFr:Y _:=zh.keep hf1 (xA (F:=fun j=>j=w.heap.size) (But.refl _ w1) w.heap.size (.inr rfl) (B ra) (I J rb) (I J rc) (I J rd) (I J rmp) (I J rms) (I J rmf) (I J rmr) (B re)) (fun j hj e=>hr1F (e▸hj));clear hk1 hf1 hc1 hF1 HCW c1 c7 hW hx
 go_wp2_with fail
 refine O (v:=X #[f #[B ra,I J rb,I J rc,I J rd,I J rmp,I J rms,I J rmf,I J rmr,B re],I J c]) ?_ rfl ⟨rfl,HF.out.1,F1,HFr.out,HF.out.2,HG.out⟩;simp[results,Tryz.results226,go_sem,x0,x1,x2,x3,x4,x5,x6,x7,x8]
theorem ycg {bf:Nat} {S S':Pg.Fs} {F:Nat->Prop} {K K':Pg.Wk} {R:Pg.Rs} {c:Int} (ho:K.on=N) (hx:(K.x !=0)=C) (w:n) (h:zI w b o root K) (hf:zh w bf S F) (hnF:¬F b)
 (HC:∀W,zI W b o root K->zh W bf S F->s L 262 #[U (V ⟨b,o,P⟩),U (V ⟨bf,0,P⟩)] W fun e w'=>e=H (X #[R.val,I J c])/\zI w' b o root K'/\∃F',zh w' bf S' F'/\Ch8 b o (fun j=>j=b\/F j) W w'/\∀j,F' j->F j\/W.heap.size<=j):
 s L 226 #[U (V ⟨b,o,P⟩),U (V ⟨bf,0,P⟩)] w fun e w'=>e=H (X #[R.val,I J c])/\zI w' b o root K'/\∃F',zh w' bf S' F'/\Ch8 b o (fun j=>j=b\/F j) w w'/\∀j,F' j->F j\/w.heap.size<=j:=by
 obtain⟨W,hW⟩:∃W,W=w.alloc (E #[B C,I J 0,I J 0,I J 0,I J 0,I J 0,I J 0,I J 0,B C] 330):=⟨_,rfl⟩
 have hBW:Below w.heap.size w W:=by rw[hW];exact zA (zR w) _
 have HBW:Y _:=hBW;have hl:=h.lb
 have hne:b≠w.heap.size:=by omega
 have HCW:=HC W (h.grow hBW) (hf.keep (G:=fun _=>False) (But.yhl hBW) (fun _ _=>id))
 have R0:Y (W.heap[w.heap.size]?=V (E #[B C,I J 0,I J 0,I J 0,I J 0,I J 0,I J 0,I J 0,B C] 330 (0,0))):=by rw[hW];exact y _ _
 have hrb:¬w.heap.size=b:=by omega
 have hrF:¬F w.heap.size:=fun hF=>by have:=hf.lt hF;omega
 have c1:=h.c1;have c7:=h.c7;rw[ho]at c1;have hlW:w.heap.size<W.heap.size:=(T.1 R0.out).1;obtain⟨ra,rb,rc,rd,⟨rmp,rms,rmf,rmr⟩,re⟩:=R;simp only[Pg.Rs.val]at HCW ⊢;clear h hf ho HC hBW
 go_enter Tryz.func226,Tryz.ntmps226
 go_wp2_with fail
 rw[<-hW];refine HCW.mono ?_;rintro e w1 ⟨rfl,hk1,F1,hf1,hc1,hF1⟩;have R1:Y (w1.heap[w.heap.size]?=_):=(hc1.but.block _ hlW (by rintro (h|h);exact hrb h;exact hrF h)).trans R0.out
 have hr1F:¬F1 w.heap.size:=fun h=>by rcases hF1 _ h with h|h;exact hrF h;omega
 have HC1:Y (Ch8 b o (fun j=>j=b\/F j) w w1):=(Ch8.yhl HBW.out hl).trans hc1 (fun _ _ h=>h);have HG:Y (∀j,F1 j->F j\/w.heap.size<=j):=fun j hj=>(hF1 j hj).imp id (fun h=>by omega);obtain⟨⟨x0,x1,x2,x3,x4,x5,x6,x7,x8⟩,xf⟩:=ybx R1.out;have HF:Y _:=yeO hrb (M _) ⟨hk1,HC1.out⟩ (B ra) (I J rb) (I J rc) (I J rd) (I J rmp) (I J rms) (I J rmf) (I J rmr) (B re);have HFr:Y _:=zh.keep hf1 (xA (F:=fun j=>j=w.heap.size) (But.refl _ w1) w.heap.size (.inr rfl) (B ra) (I J rb) (I J rc) (I J rd) (I J rmp) (I J rms) (I J rmf) (I J rmr) (B re)) (fun j hj e=>hr1F (e▸hj));clear hk1 hf1 hc1 hF1 HCW c1 c7 hW hx
 go_wp2_with fail
 refine O (v:=X #[f #[B ra,I J rb,I J rc,I J rd,I J rmp,I J rms,I J rmf,I J rmr,B re],I J c]) ?_ rfl ⟨rfl,HF.out.1,F1,HFr.out,HF.out.2,HG.out⟩;simp[results,Tryz.results226,go_sem,x0,x1,x2,x3,x4,x5,x6,x7,x8]
theorem ydl {bf:Nat} {K:Pg.Wk} (ho:K.on=C) (w:n) (h:zI w b o root K):
 s L 226 #[U (V ⟨b,o,P⟩),U (V ⟨bf,0,P⟩)] w fun e w'=>e=H (X #[Pg.Rs.val Pg.Rs.zero,I J 9])/\Below w.heap.size w w':=by
 have c1:=h.c1;have hl:=h.lb
 have hne:b≠w.heap.size:=by omega
 rw[ho]at c1;clear h ho;simp only[Pg.Rs.zero,Pg.Rs.val]
 go_enter Tryz.func226,Tryz.ntmps226
 go_wp2_with fail
 refine O (v:=X #[f #[B C,I J 0,I J 0,I J 0,I J 0,I J 0,I J 0,I J 0,B C],I J 9]) ?_ rfl ⟨rfl,zA (zR _) _⟩;simp[results,Tryz.results226,go_sem]
theorem yd9 {bf:Nat} {S:Pg.Fs} {F:Nat->Prop} {K:Pg.Wk} (ok:K.Ok) (w:n) (h:zI w b o root K) (hf:zh w bf S F) (hnF:¬F b):
 s L 226 #[U (V ⟨b,o,P⟩),U (V ⟨bf,0,P⟩)] w fun e w'=>e=H (X #[((Pg.kOut S root K).res K).val,I J (Pg.kOut S root K).cd])/\zI w' b o root ((Pg.kOut S root K).next K)/\∃F',zh w' bf ((Pg.kOut S root K).fs S K) F'/\Ch8 b o (fun j=>j=b\/F j) w w'/\∀j,F' j->F j\/w.heap.size<=j:=by
 cases ho:K.on
 ·have e:Pg.kOut S root K= .code 9:=by simp[Pg.kOut,ho]
  rw[e];refine(ydl ho w h).mono ?_;rintro e w' ⟨rfl,hb⟩;exact⟨rfl,h.grow hb,F,hf.keep (G:=fun _=>False) (But.yhl hb) (fun _ _=>id),Ch8.yhl hb h.lb,fun j hj=> .inl hj⟩
 ·obtain⟨on,q,k,u,t,lv,x⟩:=K
  simp only at ho;subst ho;have hq:=ok.page rfl;have hlv:=ok.lv;simp only at hq hlv
  by_cases hx:x=0
  ·subst hx
   refine ycg rfl rfl w h hf hnF fun W hW hfW=> ?_;refine(yd8 hq hlv W hW hfW).mono ?_;rintro e w' ⟨rfl,hk,hc⟩
   have e:∀o:Pg.Wo,(∀e,o≠ .done e N)->o.fs S ⟨N,q,k,u,t,lv,0⟩=S:=fun o ho=>by
    rcases o with c|K'|r|⟨e,m⟩
    ·rfl
    ·rfl
    ·rfl
    ·cases m
     ·rfl
     ·exact absurd rfl (ho e)
   have hn:∀e,Pg.kOut S root ⟨N,q,k,u,t,lv,0⟩≠ .done e N:=fun e=>by
    have:=Pg.yly S root q k u t lv;rw[show Pg.kOut S root (Pg.Wk.at' q k u t lv 0)=Pg.kOut S root ⟨N,q,k,u,t,lv,0⟩from rfl]at this;rw[this]
    repeat (any_goals split)
    all_goals simp
   rw[e _ hn];exact⟨rfl,hk,F,hfW.keep hc.but (fun j hj e=>hnF (e▸hj)),hc.mono (fun _ _ h=> .inl h),fun j hj=> .inl hj⟩
  ·obtain⟨x0,x1,_⟩:=ok.leaf hx
   simp only at x0 x1;refine ycf rfl (by simpa using hx) w h hf hnF fun W hW hfW=> ?_;cases hh:S.has t
   ·have e:Pg.kOut S root ⟨N,q,k,u,t,lv,x⟩= .code 12:=by simp[Pg.kOut,hh]
    rw[e];exact ydj hq hlv x0 x1 W hW hfW hnF hh
   ·by_cases hw:S.word t.toNat (Pg.ix q lv)=x
    ·have e:Pg.kOut S root ⟨N,q,k,u,t,lv,x⟩= .done (Pg.Wk.mark ⟨N,q,k,u,t,lv,x⟩ (Pg.En.of x lv)) N:=Pg.ylP hx hh hw
     rw[e];exact yax hq hlv x0 x1 W hW hfW hnF hh (.inl ⟨hw,rfl⟩)
    ·have e:Pg.kOut S root ⟨N,q,k,u,t,lv,x⟩= .go (Pg.Wk.again root ⟨N,q,k,u,t,lv,x⟩):=by
      unfold Pg.kOut;rw[if_neg (by simp),if_neg (by simp[hh]),if_pos hx,if_neg (show ¬Pg.Wk.word S ⟨N,q,k,u,t,lv,x⟩=x from hw)]
     rw[e];exact yax hq hlv x0 x1 W hW hfW hnF hh (.inr ⟨hw,rfl⟩)
def ydA (K:Pg.Wk) (q k:Int):Int:=if Pg.zK q k≠0 then Pg.zK q k else if K.on=N then 8 else 0
def ydF (root:Int) (K:Pg.Wk) (q k:Int) (u:Bool):Pg.Wk:=if ydA K q k=0 then Pg.Wk.start root q k u else K
theorem zI.begun {W:n} (h:zI W b o root Pg.Wk.off) (q k:Int) (u:Bool):
 zI ((((W.setCell ⟨b,o+1,P⟩ (B N)).setCell ⟨b,o+2,P⟩ (I J q)).setCell ⟨b,o+3,P⟩ (I J k)).setCell ⟨b,o+4,P⟩ (B u)) b o root ⟨N,q,k,u,0,0,0⟩/\Ch8 b o (fun j=>j=b) W ((((W.setCell ⟨b,o+1,P⟩ (B N)).setCell ⟨b,o+2,P⟩ (I J q)).setCell ⟨b,o+3,P⟩ (I J k)).setCell ⟨b,o+4,P⟩ (B u)):=by
 obtain⟨c0,c1,c2,c3,c4,c5,c6,c7,fb⟩:=h
 refine⟨⟨?_,?_,?_,?_,?_,?_,?_,?_,fun p=> ?_⟩,((((Ch8.refl b o (fun j=>j=b) W).set rfl 1 (by decide) _).set rfl 2 (by decide) _).set rfl 3 (by decide) _).set rfl 4 (by decide) _⟩<;>simp[go_sem,c0,c1,c2,c3,c4,c5,c6,c7,fb,Pg.Wk.off]
theorem yaw {K:Pg.Wk} (ok:K.Ok) (q k:Int) (u:Bool) (w:n) (h:zI w b o root K):
 s L 225 #[U (V ⟨b,o,P⟩),f #[I J q,I J k,B u]] w fun e w'=>e=H (I J (ydA K q k))/\zI w' b o root (ydF root K q k u)/\Ch8 b o (fun j=>j=b) w w':=by
 obtain⟨W,hW⟩:∃W,W=w.alloc (E #[I J q,I J k,B u] 78):=⟨_,rfl⟩
 have hBW:Below w.heap.size w W:=by rw[hW];exact zA (zR w) _
 have a3:W.cell? ⟨w.heap.size,0,P⟩=V (I J q)/\W.cell? ⟨w.heap.size,1,P⟩=V (I J k)/\W.cell? ⟨w.heap.size,2,P⟩=V (B u):=by rw[hW];simp[go_sem]
 have A3:Y _:=a3;have HBW:Y _:=hBW;have hl:=h.lb
 have hne:b≠w.heap.size:=by omega
 have mne:w.heap.size≠b:=by omega
 have HKW:Y _:=h.grow hBW;have HCa:=zw q k u W;clear a3 hBW
 by_cases hc:Pg.zK q k=0
 ·have e1:(Pg.zK q k !=0)=C:=by simpa using hc
  cases ho:K.on
  ·have hoff:=ok.idle ho
   subst hoff
   have e2:ydA Pg.Wk.off q k=0:=by simp[ydA,hc,Pg.Wk.off]
   have e3:ydF root Pg.Wk.off q k u=Pg.Wk.start root q k u:=by simp[ydF,e2]
   rw[e2,e3];rw[hc]at HCa;clear h ho hc e1 e2 e3 ok
   go_enter Tryz.func225,Tryz.ntmps225
   go_wp2_with fail
   rw[<-hW];refine HCa.mono ?_;rintro e w1 ⟨rfl,hb1⟩;have HK1:Y _:=HKW.out.grow hb1;have HC1:Y (Ch8 b o (fun j=>j=b) w w1):=Ch8.yhl (zT HBW.out hb1) hl;obtain⟨z0,z1,z2⟩:=vu hb1 A3.out;have c1:=HK1.out.c1;have c2:=HK1.out.c2;have c3:=HK1.out.c3;have c4:=HK1.out.c4;have fb:=HK1.out.fb;simp only[Pg.Wk.off]at c1 c2 c3 c4;have HF:Y _:=HK1.out.begun q k u;clear hb1 HCa HKW HBW A3 hW;have hlz:=z _ _ z0;simp only at hlz
   go_wp2_with fail
   go_region
   have HA:=jG _ (HF.out.1.grow (zR _).drew)
   go_wp2_with fail
   refine HA.mono ?_;rintro e w2 ⟨rfl,hk2,hc2⟩;have HF2:Y (zI w2 b o root (Pg.Wk.start root q k u)/\Ch8 b o (fun j=>j=b) w w2):=⟨hk2,HC1.out.trans (HF.out.2.drew.trans hc2 (fun _ _ h=>h)) (fun _ _ h=>h)⟩;clear hk2 hc2 HA HF
   go_wp2_with fail
   go_ret
   exact⟨rfl,HF2.out⟩
  ·have e2:ydA K q k=8:=by simp[ydA,hc,ho]
   have e3:ydF root K q k u=K:=by simp[ydF,e2]
   rw[e2,e3];rw[hc]at HCa;clear h hc e1 e2 e3 ok
   go_enter Tryz.func225,Tryz.ntmps225
   go_wp2_with fail
   rw[<-hW];refine HCa.mono ?_;rintro e w1 ⟨rfl,hb1⟩;have HK1:Y _:=HKW.out.grow hb1;have HC1:Y (Ch8 b o (fun j=>j=b) w w1):=Ch8.yhl (zT HBW.out hb1) hl;have c1:=HK1.out.c1;rw[ho]at c1;clear hb1 HCa HKW HBW A3 hW ho
   go_wp2_with fail
   go_ret
   exact⟨rfl,HK1.out,HC1.out⟩
 ·have e1:(Pg.zK q k !=0)=N:=by simpa using hc
  have e2:ydA K q k=Pg.zK q k:=by simp[ydA,hc]
  have e3:ydF root K q k u=K:=by simp[ydF,e2,hc]
  rw[e2,e3];generalize Pg.zK q k=cc at*;clear h hc e2 e3 ok
  go_enter Tryz.func225,Tryz.ntmps225
  go_wp2_with fail
  rw[<-hW];refine HCa.mono ?_;rintro e w1 ⟨rfl,hb1⟩;have HK1:Y _:=HKW.out.grow hb1;have HC1:Y (Ch8 b o (fun j=>j=b) w w1):=Ch8.yhl (zT HBW.out hb1) hl;clear hb1 HCa HKW HBW A3 hW
  go_wp2_with fail
  go_ret
  exact⟨rfl,HK1.out,HC1.out⟩
end
end
end Go.Proofs.YtdphiompijbelaaGreatDoor
