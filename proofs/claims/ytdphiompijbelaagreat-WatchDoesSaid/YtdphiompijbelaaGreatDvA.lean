import Derived.Test.YtdphiompijbelaaGreatPageRef
import Derived.Test.YtdphiompijbelaaGreatTabN
set_option linter.all false
set_option maxRecDepth 100000
open Go.RowKit.Below renaming heap_setCell->kp
open Go renaming World->ki
open Go.Proofs.Tryz renaming prog->kO
open Go.Ending renaming returned->z
open Go.Obj renaming cells->A
open Go.World renaming block_lt_of_cell?->M,cell?_of_block->H
open Nat renaming lt_of_lt_of_le->O,le_refl->E
open Array renaming getElem?_eq_some_iff->Z
open Bool renaming false->Y,true->V
open Option renaming none->P,some->Q
open Go.IntKind renaming i64->J
open Go.Value renaming int->I,bool->B,pointer->U,tuple->y,agg->ks,slice->kh
set_option maxHeartbeats 40000000
namespace Go.Proofs.YtdphiompijbelaaGreat
open Go.RowKit Go.Sort
attribute [local go_sem] Loose.gent
section
variable {b o:Nat} {root:Int}
theorem xi.low {W:ki} {q k:Int} {u:Bool} {t:Int} {lv:Nat} {x:Int} (h:xi W b o root ⟨V,q,k,u,t,lv,x⟩) (t':Int) (m:Nat):
 xi ((W.setCell ⟨b,o+5,P⟩ (I J t')).setCell ⟨b,o+6,P⟩ (I J (m:Int))) b o root ⟨V,q,k,u,t',m,x⟩/\Ch8 b o (fun j=>j=b) W ((W.setCell ⟨b,o+5,P⟩ (I J t')).setCell ⟨b,o+6,P⟩ (I J (m:Int))):=by
 obtain⟨c0,c1,c2,c3,c4,c5,c6,c7,fb⟩:=h
 refine⟨⟨?_,?_,?_,?_,?_,?_,?_,?_,fun p=> ?_⟩,((Ch8.refl b o (fun j=>j=b) W).set rfl 5 (by decide) _).set rfl 6 (by decide) _⟩<;>simp[go_sem,c0,c1,c2,c3,c4,c5,c6,c7,fb]
theorem xi.wait {W:ki} {q k:Int} {u:Bool} {t:Int} {lv:Nat} {x:Int} (h:xi W b o root ⟨V,q,k,u,t,lv,x⟩) (x':Int):
 xi (W.setCell ⟨b,o+7,P⟩ (I .u64 x')) b o root ⟨V,q,k,u,t,lv,x'⟩/\Ch8 b o (fun j=>j=b) W (W.setCell ⟨b,o+7,P⟩ (I .u64 x')):=by
 obtain⟨c0,c1,c2,c3,c4,c5,c6,c7,fb⟩:=h
 refine⟨⟨?_,?_,?_,?_,?_,?_,?_,?_,fun p=> ?_⟩,(Ch8.refl b o (fun j=>j=b) W).set rfl 7 (by decide) _⟩<;>simp[go_sem,c0,c1,c2,c3,c4,c5,c6,c7,fb]
theorem yen (S:Pg.Fs) (t q:Int) (lv:Nat):S.at' t (Pg.ix q lv:Nat)=S.has t:=by
 have:=Pg.yid q lv;unfold Pg.Fs.at';cases S.has t
 ·rfl
 ·simp;omega
theorem ydZ {bf:Nat} {S:Pg.Fs} {F:Nat->Prop} {q k:Int} {u:Bool} {t:Int} {lv:Nat} (hq:Pg.below q 4096=V) (rP:lv<4) (w:ki) (h:xi w b o root ⟨V,q,k,u,t,lv,0⟩) (hf:zh w bf S F) (hh:S.has t=Y):
 Calls kO 182 #[U (Q ⟨b,o,P⟩),U (Q ⟨bf,0,P⟩)] w fun e w'=>e=z (y #[(Pg.Wo.res ⟨V,q,k,u,t,lv,0⟩ (.code 12)).val,I J (Pg.Wo.cd (.code 12))])/\xi w' b o root (Pg.Wo.next ⟨V,q,k,u,t,lv,0⟩ (.code 12))/\Ch8 b o (fun j=>j=b) w w':=by
 obtain⟨W,hW⟩:∃W,W=w.alloc (A #[B Y,I J 0,I J 0,I J 0,I J 0,I J 0,I J 0,I J 0,B Y] 232):=⟨_,rfl⟩
 have rH:Below w.heap.size w W:=by rw[hW];exact zA (zR w) _
 have hl:=h.lb
 have rU:W.heap.size=w.heap.size+1:=by rw[hW];simp
 have sI:Hid _:=h.grow rH;have mZ:Hid (zh W bf S F):=hf.keep (G:=fun _=>False) (But.yhp rH) (fun _ _=>id);have tT:Hid _:=rH
 have R9:Hid (W.heap[w.heap.size]?=Q (A #[B Y,I J 0,I J 0,I J 0,I J 0,I J 0,I J 0,I J 0,B Y] 232 (0,0))):=by rw[hW];exact heap_alloc_new _ _
 have dI:=Pg.yhE hq rP;have HP:=fun d os=>jZ _ (sI.out.grow (below_regrown W d os));simp only[dI]at HP;have HL:=fun d os=>yaX t (Pg.ix q lv:Nat) _ (zh.keep (G:=fun _=>False) mZ.out (But.yhp (below_regrown W d os)) (fun _ _=>id));have hat:S.at' t (Pg.ix q lv:Nat)=S.has t:=yen S t q lv;rw[hat]at HL;have k5:=cell_regrown sI.out.c5;simp only at k5
 have Pb:S.load t (Pg.ix q lv:Nat)=0:=by simp[Pg.Fs.load,hat,hh]
 rw[hh,Pb]at HL;clear Pb hh hat;simp only[Pg.Wo.res,Pg.Wo.cd,Pg.Wo.next,Pg.Rs.zero,Pg.Rs.val];clear h hf rH;generalize ((Pg.ix q lv:Nat):Int)=ixv at*
 go_enter Tryz.func182,Tryz.ntmps182
 go_wp2_with fail
 rw[<-hW];clear hW;refine wp_region_quiet_below (by kernel_rfl) (by kernel_rfl) ?_
 repeat (first
  | go_big_quiet_step (first
    | (go_at_call 207;exact Calls.regrown_of (HP _ _))
    | (go_at_call 171;exact Calls.regrown_of (HL _ _))))
 refine wpQuiet_nil ?_;intro _ pG;obtain⟨⟨dq,osq⟩,rfl⟩:=pG;have Ha:=below_regrown W dq osq;have fB:Hid _:=sI.out.grow Ha;have H9:Hid (Below w.heap.size w (grow (redrawn W dq) osq)):=zT tT.out Ha;have R1:Hid ((grow (redrawn W dq) osq).heap[w.heap.size]?=_):=(Ha.block _ (by omega)).trans R9.out;clear Ha HP HL k5 sI mZ tT R9;generalize grow (redrawn W dq) osq=w1 at*;have dE:b<w1.heap.size:=fB.out.lb
 have dn:w.heap.size<w1.heap.size:=by have:=H9.out.size;have:=(Z.1 R1.out).1;omega
 have tQ:¬w.heap.size=b:=by omega
 obtain⟨⟨x0,x1,x2,x3,x4,x5,x6,x7,x8⟩,xf⟩:=yce R1.out;have HF:Hid _:=yfk tQ (E _) ⟨fB.out,Ch8.yhp (F:=fun j=>j=b) H9.out hl⟩ (B Y) (I J 0) (I J 0) (I J 0) (I J 0) (I J 0) (I J 0) (I J 0) (B Y)
 go_wp2_with fail
 refine bodyPost_ret (v:=y #[ks #[B Y,I J 0,I J 0,I J 0,I J 0,I J 0,I J 0,I J 0,B Y],I J 12]) ?_ rfl ⟨rfl,HF.out⟩;simp[results,Tryz.results182,go_sem,x0,x1,x2,x3,x4,x5,x6,x7,x8]
theorem xX {bf:Nat} {S:Pg.Fs} {F:Nat->Prop} {q k:Int} {u:Bool} {t:Int} {lv:Nat} (hq:Pg.below q 4096=V) (rP:lv<4) (w:ki) (h:xi w b o root ⟨V,q,k,u,t,lv,0⟩) (hf:zh w bf S F) {rc:Int} {et el:Bool} {er:Int} {eu ed:Bool} {ef:Int} (hh:S.has t=V) (hc:Pg.yhx S t (Pg.ix q lv) lv=rc) (he:Pg.rEn S t (Pg.ix q lv) lv=⟨et,el,er,eu,ed,ef⟩) {oc:Pg.Wo}
 (hA:((rc !=0)=V/\oc= .code rc)\/(rc=0/\((et=Y/\oc= .stop 1)\/(et=V/\((el=Y/\∃m:Nat,(lv:Int)-1=(m:Int)/\(1:Int)<=(lv:Int)/\oc= .go ⟨V,q,k,u,ef,m,0⟩)\/(el=V/\((Pg.may er k u=Y/\oc= .stop 2)\/(Pg.may er k u=V/\(((eu=Y\/(eu=V/\ed=Y/\(ed||k==1)=V))/\oc= .go ⟨V,q,k,u,t,lv,S.word t.toNat (Pg.ix q lv)⟩)\/(eu=V/\(ed||k==1)=ed/\oc= .done ⟨V,V,er,V,ed,ef⟩ Y)))))))))):
 Calls kO 182 #[U (Q ⟨b,o,P⟩),U (Q ⟨bf,0,P⟩)] w fun e w'=>e=z (y #[(Pg.Wo.res ⟨V,q,k,u,t,lv,0⟩ oc).val,I J (Pg.Wo.cd oc)])/\xi w' b o root (Pg.Wo.next ⟨V,q,k,u,t,lv,0⟩ oc)/\Ch8 b o (fun j=>j=b) w w':=by
 have mD:=fun W'=>ybt er q k u W';generalize Pg.may er k u=mv at*;generalize hR:Pg.Wo.res ⟨V,q,k,u,t,lv,0⟩ oc=R;generalize pX:Pg.Wo.cd oc=cdv;generalize tL:Pg.Wo.next ⟨V,q,k,u,t,lv,0⟩ oc=nx;obtain⟨ra,rb,rf,rd,⟨uo,ut,um,uq⟩,re⟩:=R;have bH:Hid (_/\_/\_):=⟨hR,pX,tL⟩;clear hR pX tL;simp only[Pg.Rs.val];obtain⟨W,hW⟩:∃W,W=w.alloc (A #[B Y,I J 0,I J 0,I J 0,I J 0,I J 0,I J 0,I J 0,B Y] 232):=⟨_,rfl⟩
 have rH:Below w.heap.size w W:=by rw[hW];exact zA (zR w) _
 have hl:=h.lb
 have rU:W.heap.size=w.heap.size+1:=by rw[hW];simp
 have sI:Hid _:=h.grow rH;have mZ:Hid (zh W bf S F):=hf.keep (G:=fun _=>False) (But.yhp rH) (fun _ _=>id);have tT:Hid _:=rH
 have R9:Hid (W.heap[w.heap.size]?=Q (A #[B Y,I J 0,I J 0,I J 0,I J 0,I J 0,I J 0,I J 0,B Y] 232 (0,0))):=by rw[hW];exact heap_alloc_new _ _
 have dI:=Pg.yhE hq rP;have HP:=fun d os=>jZ _ (sI.out.grow (below_regrown W d os));simp only[dI]at HP;have HL:=fun d os=>yaX t (Pg.ix q lv:Nat) _ (zh.keep (G:=fun _=>False) mZ.out (But.yhp (below_regrown W d os)) (fun _ _=>id));have hat:S.at' t (Pg.ix q lv:Nat)=S.has t:=yen S t q lv;rw[hat]at HL;have k5:=cell_regrown sI.out.c5;simp only at k5
 have Pb:S.load t (Pg.ix q lv:Nat)=S.word t.toNat (Pg.ix q lv):=by simp[Pg.Fs.load,hat,hh]
 rw[hh,Pb]at HL;obtain⟨e1,e2⟩:=Pg.yhZ (i:=Pg.ix q lv) (lv:=lv) hh;have HD:=fun W'=>jV (S.word t.toNat (Pg.ix q lv)) lv (hf.ok.low _ _) (hf.ok.high _ _) W';rw[Pg.yi9,<-e1,<-e2,he,hc]at HD;clear e1 e2 Pb hh hat he hc;generalize S.word t.toNat (Pg.ix q lv)=wd at*;simp only[Pg.En.val]at HD;clear h hf rH;generalize ((Pg.ix q lv:Nat):Int)=ixv at*
 go_enter Tryz.func182,Tryz.ntmps182
 go_wp2_with fail
 rw[<-hW];clear hW;refine wp_region_quiet_below (by kernel_rfl) (by kernel_rfl) ?_
 repeat (first
  | go_big_quiet_step (first
    | (go_at_call 207;exact Calls.regrown_of (HP _ _))
    | (go_at_call 171;exact Calls.regrown_of (HL _ _))))
 refine wpQuiet_nil ?_;intro _ pG;obtain⟨⟨dq,osq⟩,rfl⟩:=pG;have Ha:=below_regrown W dq osq;have fB:Hid _:=sI.out.grow Ha;have H9:Hid (Below w.heap.size w (grow (redrawn W dq) osq)):=zT tT.out Ha;have R1:Hid ((grow (redrawn W dq) osq).heap[w.heap.size]?=_):=(Ha.block _ (by omega)).trans R9.out;clear Ha HP HL k5 sI mZ tT R9;generalize grow (redrawn W dq) osq=w1 at*;have dE:b<w1.heap.size:=fB.out.lb
 have dn:w.heap.size<w1.heap.size:=by have:=H9.out.size;have:=(Z.1 R1.out).1;omega
 have tQ:¬w.heap.size=b:=by omega
 have k6:=fB.out.c6;simp only at k6
 go_wp2_with fail
 refine(HD _).mono ?_;rintro e w2 ⟨rfl,Hd⟩;have tF:w.heap.size<w2.heap.size:=O dn Hd.size;have sJ:b<w2.heap.size:=O dE Hd.size;have oK:Hid _:=fB.out.grow Hd;have Ht:Hid (Below w.heap.size w w2):=zT H9.out Hd;have R2:Hid (w2.heap[w.heap.size]?=_):=(Hd.block _ dn).trans R1.out;clear Hd fB H9 R1 k6 HD dn dE hq dI
 have wW:b≠w2.heap.size:=by omega
 have KJ:w2.heap.size≠b:=by omega
 have nr2:w.heap.size≠w2.heap.size:=by omega
 have mr2:w2.heap.size≠w.heap.size:=by omega
 rcases hA with ⟨TM,rfl⟩|⟨rfl,hA⟩
 ·obtain⟨hR,pX,tL⟩:=bH.out
  simp only[Pg.Wo.res,Pg.Wo.cd,Pg.Wo.next,Pg.Rs.zero,Pg.Rs.mk.injEq,Pg.Mp.mk.injEq]at hR pX tL;obtain⟨rfl,rfl,rfl,rfl,⟨rfl,rfl,rfl,rfl⟩,rfl⟩:=hR;subst pX tL;obtain⟨⟨x0,x1,x2,x3,x4,x5,x6,x7,x8⟩,xf⟩:=yce R2.out;have HF:Hid _:=ygH (yfk tQ (E _) ⟨oK.out,Ch8.yhp (F:=fun j=>j=b) Ht.out hl⟩ (B Y) (I J 0) (I J 0) (I J 0) (I J 0) (I J 0) (I J 0) (I J 0) (B Y)) (zA (zR _) (A #[B et,B el,I J er,B eu,B ed,I J ef] 70))
  go_wp2_with fail
  refine bodyPost_ret (v:=y #[ks #[B Y,I J 0,I J 0,I J 0,I J 0,I J 0,I J 0,I J 0,B Y],I J rc]) ?_ rfl ⟨rfl,HF.out⟩;simp[results,Tryz.results182,go_sem,x0,x1,x2,x3,x4,x5,x6,x7,x8,tF,nr2,mr2]
 obtain⟨W3,fP⟩:∃W3,W3=w2.alloc (A #[B et,B el,I J er,B eu,B ed,I J ef] 70):=⟨_,rfl⟩
 have dB:Below w2.heap.size w2 W3:=by rw[fP];exact zA (zR _) _
 have mo:Hid _:=oK.out.grow dB;have rE:Hid (Below w.heap.size w W3):=zT Ht.out dB;have R3:Hid (W3.heap[w.heap.size]?=_):=(dB.block _ tF).trans R2.out
 have e6:W3.cell? ⟨w2.heap.size,0,P⟩=Q (B et)/\W3.cell? ⟨w2.heap.size,1,P⟩=Q (B el)/\W3.cell? ⟨w2.heap.size,2,P⟩=Q (I J er)/\W3.cell? ⟨w2.heap.size,3,P⟩=Q (B eu)/\W3.cell? ⟨w2.heap.size,4,P⟩=Q (B ed)/\W3.cell? ⟨w2.heap.size,5,P⟩=Q (I J ef):=by rw[fP];simp[go_sem]
 have mJ:w.heap.size<W3.heap.size:=by have:=dB.size;omega
 have kU:b<W3.heap.size:=by have:=dB.size;omega
 clear dB;rcases hA with ⟨rfl,rfl⟩|⟨rfl,hA⟩
 ·obtain⟨hR,pX,tL⟩:=bH.out
  simp only[Pg.Wo.res,Pg.Wo.cd,Pg.Wo.next,Pg.Rs.zero,Pg.Rs.mk.injEq,Pg.Mp.mk.injEq]at hR pX tL;obtain⟨rfl,rfl,rfl,rfl,⟨rfl,rfl,rfl,rfl⟩,rfl⟩:=hR;subst pX tL
  go_wp2_with fail
  rw[<-fP];clear fP oK Ht R2;have HE:=ybs 1 0 0 ⟨0,0,0,0⟩ Y _ mo.out;simp only[Pg.Rs.val]at HE;refine HE.mono ?_;rintro e w9 ⟨rfl,cB,dS⟩;have uw:Hid (Ch8 b o (fun j=>j=b) w w9):=(Ch8.yhp rE.out hl).trans dS (fun _ _ h=>h);have R9:Hid (w9.heap[w.heap.size]?=_):=(dS.but.block _ mJ tQ).trans R3.out;have Gg:w.heap.size<w9.heap.size:=O mJ dS.but.size;obtain⟨⟨x0,x1,x2,x3,x4,x5,x6,x7,x8⟩,xf⟩:=yce R9.out;have HF:Hid _:=yfk tQ (E _) ⟨cB,uw.out⟩ (B V) (I J 1) (I J 0) (I J 0) (I J 0) (I J 0) (I J 0) (I J 0) (B Y);clear cB dS HE
  go_wp2_with fail
  refine bodyPost_ret (v:=y #[ks #[B V,I J 1,I J 0,I J 0,I J 0,I J 0,I J 0,I J 0,B Y],I J 0]) ?_ rfl ⟨rfl,HF.out⟩;simp[results,Tryz.results182,go_sem,x0,x1,x2,x3,x4,x5,x6,x7,x8]
 rcases hA with ⟨rfl,m,kV,iq,rfl⟩|⟨rfl,hA⟩
 ·obtain⟨hR,pX,tL⟩:=bH.out
  simp only[Pg.Wo.res,Pg.Wo.cd,Pg.Wo.next,Pg.Rs.zero,Pg.Rs.mk.injEq,Pg.Mp.mk.injEq]at hR pX tL;obtain⟨rfl,rfl,rfl,rfl,⟨rfl,rfl,rfl,rfl⟩,rfl⟩:=hR;subst pX tL
  go_wp2_with fail
  rw[<-fP];clear fP oK Ht R2;obtain⟨z0,z1,z2,z3,z4,z5⟩:=e6;have y5:=mo.out.c5;have y6:=mo.out.c6;have yf:=mo.out.fb;simp only at y5 y6;obtain⟨⟨x0,x1,x2,x3,x4,x5,x6,x7,x8⟩,xf⟩:=yce R3.out;have HF:Hid _:=ygH (yfk tQ (E _) ⟨(mo.out.low ef m).1,(Ch8.yhp rE.out hl).trans (mo.out.low ef m).2 (fun _ _ h=>h)⟩ (B Y) (I J 0) (I J 0) (I J 0) (I J 0) (I J 0) (I J 0) (I J 0) (B Y)) (zR _).drew
  go_region
  go_wp2_with fail
  refine bodyPost_ret (v:=y #[ks #[B Y,I J 0,I J 0,I J 0,I J 0,I J 0,I J 0,I J 0,B Y],I J 0]) ?_ rfl ⟨rfl,HF.out⟩;simp[results,Tryz.results182,go_sem,x0,x1,x2,x3,x4,x5,x6,x7,x8]
 go_wp2_with fail
 rw[<-fP];clear fP oK Ht R2;have z2:=cell_regrown e6.2.2.1;have y2:=cell_regrown mo.out.c2;have y3:=cell_regrown mo.out.c3;have y4:=cell_regrown mo.out.c4;simp only at y2 y3 y4;refine wp_region_quiet_below (by kernel_rfl) (by kernel_rfl) ?_
 repeat (first
  | go_big_quiet_step ((go_at_call 179;exact Calls.regrown_of (mD _))))
 refine wpQuiet_nil ?_;intro _ pG;obtain⟨⟨PE,uQ⟩,rfl⟩:=pG;have Hl:=below_regrown W3 PE uQ;have Rf:Hid _:=mo.out.grow Hl;have rM:Hid (Below w.heap.size w (grow (redrawn W3 PE) uQ)):=zT rE.out Hl;have R4:Hid ((grow (redrawn W3 PE) uQ).heap[w.heap.size]?=_):=(Hl.block _ mJ).trans R3.out;have E4:Hid _:=xE Hl e6;have gq:w.heap.size<(grow (redrawn W3 PE) uQ).heap.size:=O mJ Hl.size;have mV:b<(grow (redrawn W3 PE) uQ).heap.size:=O kU Hl.size;clear Hl z2 y2 y3 y4 e6 mD mo rE R3 mJ kU;generalize grow (redrawn W3 PE) uQ=w4 at*;rcases hA with ⟨rfl,rfl⟩|⟨rfl,hA⟩
 ·obtain⟨hR,pX,tL⟩:=bH.out
  simp only[Pg.Wo.res,Pg.Wo.cd,Pg.Wo.next,Pg.Rs.zero,Pg.Rs.mk.injEq,Pg.Mp.mk.injEq]at hR pX tL;obtain⟨rfl,rfl,rfl,rfl,⟨rfl,rfl,rfl,rfl⟩,rfl⟩:=hR;subst pX tL
  go_wp2_with fail
  have HE:=ybs 2 0 0 ⟨0,0,0,0⟩ Y _ Rf.out;simp only[Pg.Rs.val]at HE;refine HE.mono ?_;rintro e w9 ⟨rfl,cB,dS⟩;have uw:Hid (Ch8 b o (fun j=>j=b) w w9):=(Ch8.yhp rM.out hl).trans dS (fun _ _ h=>h);have R9:Hid (w9.heap[w.heap.size]?=_):=(dS.but.block _ gq tQ).trans R4.out;have Gg:w.heap.size<w9.heap.size:=O gq dS.but.size;obtain⟨⟨x0,x1,x2,x3,x4,x5,x6,x7,x8⟩,xf⟩:=yce R9.out;have HF:Hid _:=yfk tQ (E _) ⟨cB,uw.out⟩ (B V) (I J 2) (I J 0) (I J 0) (I J 0) (I J 0) (I J 0) (I J 0) (B Y);clear cB dS HE
  go_wp2_with fail
  refine bodyPost_ret (v:=y #[ks #[B V,I J 2,I J 0,I J 0,I J 0,I J 0,I J 0,I J 0,B Y],I J 0]) ?_ rfl ⟨rfl,HF.out⟩;simp[results,Tryz.results182,go_sem,x0,x1,x2,x3,x4,x5,x6,x7,x8]
 go_wp2_with fail
 obtain⟨z0,z1,z2,z3,z4,z5⟩:=E4.out;have g0:=cell_regrown z0;have g1:=cell_regrown z1;have g2:=cell_regrown z2;have g3:=cell_regrown z3;have g4:=cell_regrown z4;have g5:=cell_regrown z5;have aN:=fun d os=>vP ⟨V,V,er,eu,ed,ef⟩ _ (Rf.out.grow (below_regrown w4 d os))
 have hB:(eu=Y/\∃d',(ed||k==1)=d'/\oc= .go ⟨V,q,k,u,t,lv,wd⟩)\/(eu=V/\ed=Y/\(ed||k==1)=V/\oc= .go ⟨V,q,k,u,t,lv,wd⟩)\/(eu=V/\(ed||k==1)=ed/\oc= .done ⟨V,V,er,V,ed,ef⟩ Y):=by
  rcases hA with ⟨h1|⟨h1,h2,h3⟩,h4⟩|⟨h1,h2,h4⟩
  ·exact .inl ⟨h1,_,rfl,h4⟩
  ·exact .inr (.inl ⟨h1,h2,h3,h4⟩)
  ·exact .inr (.inr ⟨h1,h2,h4⟩)
 clear hA;rcases hB with ⟨rfl,d',ou,rfl⟩|⟨rfl,rfl,ou,rfl⟩|⟨rfl,ou,rfl⟩
 all_goals
  simp only[Pg.En.val,Pg.Wk.mark]at aN;rw[ou]at aN;refine wp_region_quiet_below (by kernel_rfl) (by kernel_rfl) ?_
  repeat (first
   | go_big_quiet_step ((go_at_call 205;exact Calls.regrown_of (aN _ _))))
  refine wpQuiet_nil ?_;intro _ pG;obtain⟨⟨gH,pI⟩,rfl⟩:=pG;have rA:=below_regrown w4 gH pI;have aK:Hid _:=Rf.out.grow rA;have tu:Hid (Below w.heap.size w (grow (redrawn w4 gH) pI)):=zT rM.out rA;have R5:Hid ((grow (redrawn w4 gH) pI).heap[w.heap.size]?=_):=(rA.block _ gq).trans R4.out;have e5:=xE rA E4.out;have Pn:w.heap.size<(grow (redrawn w4 gH) pI).heap.size:=O gq rA.size;have wI:b<(grow (redrawn w4 gH) pI).heap.size:=O mV rA.size;clear rA z0 z1 z2 z3 z4 z5 g0 g1 g2 g3 g4 g5 aN Rf rM R4 E4 gq mV;generalize grow (redrawn w4 gH) pI=w5 at*;obtain⟨z0,z1,z2,z3,z4,z5⟩:=e5
 ·obtain⟨hR,pX,tL⟩:=bH.out
  simp only[Pg.Wo.res,Pg.Wo.cd,Pg.Wo.next,Pg.Rs.zero,Pg.Rs.mk.injEq,Pg.Mp.mk.injEq]at hR pX tL;obtain⟨rfl,rfl,rfl,rfl,⟨rfl,rfl,rfl,rfl⟩,rfl⟩:=hR;subst pX tL;have y7:=aK.out.c7;have yf:=aK.out.fb;simp only at y7;obtain⟨⟨x0,x1,x2,x3,x4,x5,x6,x7,x8⟩,xf⟩:=yce R5.out;have HF:Hid _:=yfk tQ (E _) ⟨(aK.out.wait wd).1,(Ch8.yhp tu.out hl).trans (aK.out.wait wd).2 (fun _ _ h=>h)⟩ (B Y) (I J 0) (I J 0) (I J 0) (I J 0) (I J 0) (I J 0) (I J 0) (B Y)
  go_wp2_with fail
  refine bodyPost_ret (v:=y #[ks #[B Y,I J 0,I J 0,I J 0,I J 0,I J 0,I J 0,I J 0,B Y],I J 0]) ?_ rfl ⟨rfl,HF.out⟩;simp[results,Tryz.results182,go_sem,x0,x1,x2,x3,x4,x5,x6,x7,x8]
 ·obtain⟨hR,pX,tL⟩:=bH.out
  simp only[Pg.Wo.res,Pg.Wo.cd,Pg.Wo.next,Pg.Rs.zero,Pg.Rs.mk.injEq,Pg.Mp.mk.injEq]at hR pX tL;obtain⟨rfl,rfl,rfl,rfl,⟨rfl,rfl,rfl,rfl⟩,rfl⟩:=hR;subst pX tL;have y7:=aK.out.c7;have yf:=aK.out.fb;simp only at y7;obtain⟨⟨x0,x1,x2,x3,x4,x5,x6,x7,x8⟩,xf⟩:=yce R5.out;have HF:Hid _:=yfk tQ (E _) ⟨(aK.out.wait wd).1,(Ch8.yhp tu.out hl).trans (aK.out.wait wd).2 (fun _ _ h=>h)⟩ (B Y) (I J 0) (I J 0) (I J 0) (I J 0) (I J 0) (I J 0) (I J 0) (B Y)
  go_wp2_with fail
  refine bodyPost_ret (v:=y #[ks #[B Y,I J 0,I J 0,I J 0,I J 0,I J 0,I J 0,I J 0,B Y],I J 0]) ?_ rfl ⟨rfl,HF.out⟩;simp[results,Tryz.results182,go_sem,x0,x1,x2,x3,x4,x5,x6,x7,x8]
 ·obtain⟨hR,pX,tL⟩:=bH.out
  simp only[Pg.Wo.cd,Pg.Wo.next]at pX tL;subst pX tL;have bH:Hid _:=hR;clear hR;have iR:=yb3 ⟨V,V,er,V,ed,ef⟩ _ aK.out Y;simp only[Pg.En.val]at iR;rw[bH.out]at iR;simp only[Pg.Rs.val]at iR
  go_wp2_with fail
  refine iR.mono ?_;rintro e w9 ⟨rfl,cB,dS⟩;have uw:Hid (Ch8 b o (fun j=>j=b) w w9):=(Ch8.yhp tu.out hl).trans dS (fun _ _ h=>h);have R9:Hid (w9.heap[w.heap.size]?=_):=(dS.but.block _ Pn tQ).trans R5.out;have Gg:w.heap.size<w9.heap.size:=O Pn dS.but.size;obtain⟨⟨x0,x1,x2,x3,x4,x5,x6,x7,x8⟩,xf⟩:=yce R9.out;have HF:Hid _:=yfk tQ (E _) ⟨cB,uw.out⟩ (B ra) (I J rb) (I J rf) (I J rd) (I J uo) (I J ut) (I J um) (I J uq) (B re);clear cB dS iR
  go_wp2_with fail
  refine bodyPost_ret (v:=y #[ks #[B ra,I J rb,I J rf,I J rd,I J uo,I J ut,I J um,I J uq,B re],I J 0]) ?_ rfl ⟨rfl,HF.out⟩;simp[results,Tryz.results182,go_sem,x0,x1,x2,x3,x4,x5,x6,x7,x8]
theorem yeP {bf:Nat} {S:Pg.Fs} {F:Nat->Prop} {q k:Int} {u:Bool} {t:Int} {lv:Nat} (hq:Pg.below q 4096=V) (rP:lv<4) (w:ki) (h:xi w b o root ⟨V,q,k,u,t,lv,0⟩) (hf:zh w bf S F):
 Calls kO 182 #[U (Q ⟨b,o,P⟩),U (Q ⟨bf,0,P⟩)] w fun e w'=>e=z (y #[((Pg.kOut S root ⟨V,q,k,u,t,lv,0⟩).res ⟨V,q,k,u,t,lv,0⟩).val,I J (Pg.kOut S root ⟨V,q,k,u,t,lv,0⟩).cd])/\xi w' b o root ((Pg.kOut S root ⟨V,q,k,u,t,lv,0⟩).next ⟨V,q,k,u,t,lv,0⟩)/\Ch8 b o (fun j=>j=b) w w':=by
 have Hu:=Pg.yk7 S root q k u t lv;rw[show Pg.kOut S root (Pg.Wk.at' q k u t lv 0)=Pg.kOut S root ⟨V,q,k,u,t,lv,0⟩from rfl]at Hu;cases hh:S.has t
 ·have lZ:Pg.yhx S t (Pg.ix q lv) lv=12:=by simp[Pg.yhx,hh]
  rw[lZ,if_pos (by decide)]at Hu;rw[Hu];exact ydZ hq rP w h hf hh
 ·by_cases hc:Pg.yhx S t (Pg.ix q lv) lv=0
  ·rw[if_neg (by simpa using hc)]at Hu
   have Hw:=fun h=>Pg.yhR (S:=S) (t:=t) (i:=Pg.ix q lv) (lv:=lv) h
   cases he:Pg.rEn S t (Pg.ix q lv) lv with
   | mk et el er eu ed ef=>
   rw[he]at Hu Hw;simp only[Pg.En.on]at Hu Hw;cases et
   ·rw[if_pos rfl]at Hu
    rw[Hu];exact xX hq rP w h hf hh hc he (.inr ⟨rfl,.inl ⟨rfl,rfl⟩⟩)
   ·rw[if_neg (by decide)]at Hu
    cases el
    ·rw[if_pos rfl]at Hu
     obtain⟨m,hm⟩:=Hw rfl
     have Pd:lv-1=m:=by omega
     rw[Pd]at Hu;rw[Hu];exact xX hq rP w h hf hh hc he (.inr ⟨rfl,.inr ⟨rfl,.inl ⟨rfl,m,by omega,by omega,rfl⟩⟩⟩)
    ·rw[if_neg (by decide)]at Hu
     cases pM:Pg.may er k u
     ·rw[if_pos pM]at Hu
      rw[Hu];exact xX hq rP w h hf hh hc he (.inr ⟨rfl,.inr ⟨rfl,.inr ⟨rfl,.inl ⟨pM,rfl⟩⟩⟩⟩)
     ·rw[if_neg (by simp[pM])]at Hu
      cases hr:(Pg.Wk.at' q k u t lv 0).ready ⟨V,V,er,eu,ed,ef⟩
      ·rw[if_pos hr]at Hu
       rw[Hu];simp only[Pg.Wk.ready,Pg.Wk.at']at hr;cases eu
       ·exact xX hq rP w h hf hh hc he (.inr ⟨rfl,.inr ⟨rfl,.inr ⟨rfl,.inr ⟨pM,.inl ⟨.inl rfl,rfl⟩⟩⟩⟩⟩)
       ·cases ed
        ·refine xX hq rP w h hf hh hc he (.inr ⟨rfl,.inr ⟨rfl,.inr ⟨rfl,.inr ⟨pM,.inl ⟨.inr ⟨rfl,rfl,?_⟩,rfl⟩⟩⟩⟩⟩)
         by_cases e:k=1
         ·simp[e]
         ·simp[e]at hr
        ·simp at hr
      ·rw[if_neg (by simp[hr])]at Hu
       rw[Hu];simp only[Pg.Wk.ready,Pg.Wk.at',Bool.and_eq_true]at hr;obtain⟨rfl,h2⟩:=hr;refine xX hq rP w h hf hh hc he (.inr ⟨rfl,.inr ⟨rfl,.inr ⟨rfl,.inr ⟨pM,.inr ⟨rfl,?_,rfl⟩⟩⟩⟩⟩);cases ed
       ·by_cases e:k=1
        ·simp[e]at h2
        ·simp[e]
       ·rfl
  ·rw[if_pos hc]at Hu
   rw[Hu]
   cases he:Pg.rEn S t (Pg.ix q lv) lv with
   | mk et el er eu ed ef=>exact xX hq rP w h hf hh rfl he (.inl ⟨by simpa using hc,rfl⟩)
end
section
variable {b o:Nat} {root:Int}
theorem ydY {bf:Nat} {S:Pg.Fs} {F:Nat->Prop} {q k:Int} {u:Bool} {t:Int} {lv:Nat} {x:Int} (hq:Pg.below q 4096=V) (rP:lv<4) (mh:0<=x) (iN:x<18446744073709551616) (w:ki) (h:xi w b o root ⟨V,q,k,u,t,lv,x⟩) (hf:zh w bf S F) (lY:¬F b) (hh:S.has t=Y):
 Calls kO 181 #[U (Q ⟨b,o,P⟩),U (Q ⟨bf,0,P⟩)] w fun e w'=>e=z (y #[(Pg.Wo.res ⟨V,q,k,u,t,lv,x⟩ (.code 12)).val,I J (Pg.Wo.cd (.code 12))])/\xi w' b o root (Pg.Wo.next ⟨V,q,k,u,t,lv,x⟩ (.code 12))/\∃F',zh w' bf (Pg.Wo.fs S ⟨V,q,k,u,t,lv,x⟩ (.code 12)) F'/\Ch8 b o (fun j=>j=b\/F j) w w'/\∀j,F' j->F j\/w.heap.size<=j:=by
 obtain⟨W,hW⟩:∃W,W=w.alloc (A #[B Y,I J 0,I J 0,I J 0,I J 0,I J 0,I J 0,I J 0,B Y] 232):=⟨_,rfl⟩
 have rH:Below w.heap.size w W:=by rw[hW];exact zA (zR w) _
 have hl:=h.lb;have sI:Hid _:=h.grow rH;have mZ:Hid (zh W bf S F):=hf.keep (G:=fun _=>False) (But.yhp rH) (fun _ _=>id)
 have R0:Hid (W.heap[w.heap.size]?=Q (A #[B Y,I J 0,I J 0,I J 0,I J 0,I J 0,I J 0,I J 0,B Y] 232 (0,0))):=by rw[hW];exact heap_alloc_new _ _
 have tQ:¬w.heap.size=b:=by omega
 have wP:¬F w.heap.size:=fun hF=>by have:=hf.lt hF;omega
 have HT:=vG t W mZ.out;rw[hh]at HT;have k5:=h.c5;simp only at k5;have HFF:Hid (∃F',zh w bf S F'):=⟨F,hf⟩;have Bd:Hid (∀w',But (fun j=>j=b) w w'->zh w' bf S F):=fun w' hb=>hf.keep hb (fun j hj e=>lY (e▸hj));clear h hf hh lY;simp only[Pg.Wo.res,Pg.Wo.cd,Pg.Wo.next,Pg.Wo.fs,Pg.Rs.zero,Pg.Rs.val]
 go_enter Tryz.func181,Tryz.ntmps181
 go_wp2_with fail
 rw[<-hW];refine HT.mono ?_;rintro e w1 ⟨rfl,Ha⟩;have fB:Hid _:=sI.out.grow Ha;have Tc:Hid (zh w1 bf S F):=zh.keep (G:=fun _=>False) mZ.out (But.yhp Ha) (fun _ _=>id);have H9:Hid (Below w.heap.size w w1):=zT rH Ha;have R1:Hid (w1.heap[w.heap.size]?=_):=(Ha.block _ (by rw[hW];simp)).trans R0.out;have dE:b<w1.heap.size:=fB.out.lb;have dn:w.heap.size<w1.heap.size:=(Z.1 R1.out).1;clear Ha HT k5 sI mZ R0 rH hW W;obtain⟨⟨x0,x1,x2,x3,x4,x5,x6,x7,x8⟩,xf⟩:=yce R1.out;have HF:Hid _:=yfk tQ (E _) ⟨fB.out,Ch8.yhp (F:=fun j=>j=b) H9.out hl⟩ (B Y) (I J 0) (I J 0) (I J 0) (I J 0) (I J 0) (I J 0) (I J 0) (B Y)
 go_wp2_with fail
 refine bodyPost_ret (v:=y #[ks #[B Y,I J 0,I J 0,I J 0,I J 0,I J 0,I J 0,I J 0,B Y],I J 12]) ?_ rfl ⟨rfl,HF.out.1,F,Bd.out _ HF.out.2.but,HF.out.2.mono (fun _ _ h=> .inl h),fun j hj=> .inl hj⟩;simp[results,Tryz.results181,go_sem,x0,x1,x2,x3,x4,x5,x6,x7,x8]
theorem yfu {K:Pg.Wk} {G:Nat->Prop} {w W:ki} {r:Nat} (hr:¬r=b) (hw:w.heap.size<=r) (h:xi W b o root K/\Ch8 b o G w W) (v0 v1 v2 v3 v4 v5 v6 v7 v8:Value):
 xi (((((((((W.setCell ⟨r,0,P⟩ v0).setCell ⟨r,1,P⟩ v1).setCell ⟨r,2,P⟩ v2).setCell ⟨r,3,P⟩ v3).setCell ⟨r,4,P⟩ v4).setCell ⟨r,5,P⟩ v5).setCell ⟨r,6,P⟩ v6).setCell ⟨r,7,P⟩ v7).setCell ⟨r,8,P⟩ v8) b o root K/\
 Ch8 b o G w (((((((((W.setCell ⟨r,0,P⟩ v0).setCell ⟨r,1,P⟩ v1).setCell ⟨r,2,P⟩ v2).setCell ⟨r,3,P⟩ v3).setCell ⟨r,4,P⟩ v4).setCell ⟨r,5,P⟩ v5).setCell ⟨r,6,P⟩ v6).setCell ⟨r,7,P⟩ v7).setCell ⟨r,8,P⟩ v8):=by
 have hb:=qb (F:=fun j=>j=r) (But.refl _ W) r (.inr rfl) v0 v1 v2 v3 v4 v5 v6 v7 v8;have Ho:¬b=r:=fun e=>hr e.symm;refine⟨h.1.keep hb Ho,?_,fun p hp=> ?_⟩
 ·exact qb h.2.but r (.inl hw) v0 v1 v2 v3 v4 v5 v6 v7 v8
 ·exact(hb.cell (a:=⟨b,p,P⟩) h.1.lb Ho).trans (h.2.oth p hp)
theorem ye6 {w w':ki} {e:Nat} {v0 v1 v2 v3 v4 v5:Value} (hk:w'.heap[e]?=w.heap[e]?) (h:w.cell? ⟨e,0,P⟩=Q v0/\w.cell? ⟨e,1,P⟩=Q v1/\w.cell? ⟨e,2,P⟩=Q v2/\w.cell? ⟨e,3,P⟩=Q v3/\w.cell? ⟨e,4,P⟩=Q v4/\w.cell? ⟨e,5,P⟩=Q v5):
 w'.cell? ⟨e,0,P⟩=Q v0/\w'.cell? ⟨e,1,P⟩=Q v1/\w'.cell? ⟨e,2,P⟩=Q v2/\w'.cell? ⟨e,3,P⟩=Q v3/\w'.cell? ⟨e,4,P⟩=Q v4/\w'.cell? ⟨e,5,P⟩=Q v5:=
 ⟨(H hk).trans h.1,(H hk).trans h.2.1,(H hk).trans h.2.2.1,(H hk).trans h.2.2.2.1,(H hk).trans h.2.2.2.2.1,(H hk).trans h.2.2.2.2.2⟩
theorem ya1 {bf:Nat} {S:Pg.Fs} {F:Nat->Prop} {q k:Int} {u:Bool} {t:Int} {lv:Nat} {x:Int} (hq:Pg.below q 4096=V) (rP:lv<4) (mh:0<=x) (iN:x<18446744073709551616) (w:ki) (h:xi w b o root ⟨V,q,k,u,t,lv,x⟩) (hf:zh w bf S F) (lY:¬F b) (hh:S.has t=V) {oc:Pg.Wo} (hO:(S.word t.toNat (Pg.ix q lv)=x/\oc= .done (Pg.Wk.mark ⟨V,q,k,u,t,lv,x⟩ (Pg.En.of x lv)) V)\/(S.word t.toNat (Pg.ix q lv)≠x/\oc= .go (Pg.Wk.again root ⟨V,q,k,u,t,lv,x⟩))):
 Calls kO 181 #[U (Q ⟨b,o,P⟩),U (Q ⟨bf,0,P⟩)] w fun e w'=>e=z (y #[(Pg.Wo.res ⟨V,q,k,u,t,lv,x⟩ oc).val,I J (Pg.Wo.cd oc)])/\xi w' b o root (Pg.Wo.next ⟨V,q,k,u,t,lv,x⟩ oc)/\∃F',zh w' bf (Pg.Wo.fs S ⟨V,q,k,u,t,lv,x⟩ oc) F'/\Ch8 b o (fun j=>j=b\/F j) w w'/\∀j,F' j->F j\/w.heap.size<=j:=by
 obtain⟨W,hW⟩:∃W,W=w.alloc (A #[B Y,I J 0,I J 0,I J 0,I J 0,I J 0,I J 0,I J 0,B Y] 232):=⟨_,rfl⟩
 have rH:Below w.heap.size w W:=by rw[hW];exact zA (zR w) _
 have hl:=h.lb;have sI:Hid _:=h.grow rH;have mZ:Hid (zh W bf S F):=hf.keep (G:=fun _=>False) (But.yhp rH) (fun _ _=>id)
 have R0:Hid (W.heap[w.heap.size]?=Q (A #[B Y,I J 0,I J 0,I J 0,I J 0,I J 0,I J 0,I J 0,B Y] 232 (0,0))):=by rw[hW];exact heap_alloc_new _ _
 have tQ:¬w.heap.size=b:=by omega
 have wP:¬F w.heap.size:=fun hF=>by have:=hf.lt hF;omega
 have HT:=vG t W mZ.out;rw[hh]at HT;have k5:=h.c5;simp only at k5;have hat:=yen S t q lv;rw[hh]at hat
 have hO:(S.swaps t (Pg.ix q lv:Nat) x=V/\(∀v,S.swap t (Pg.ix q lv:Nat) x v=S.store t (Pg.ix q lv:Nat) v)/\oc= .done (Pg.Wk.mark ⟨V,q,k,u,t,lv,x⟩ (Pg.En.of x lv)) V)\/(S.swaps t (Pg.ix q lv:Nat) x=Y/\(∀v,S.swap t (Pg.ix q lv:Nat) x v=S)/\oc= .go (Pg.Wk.again root ⟨V,q,k,u,t,lv,x⟩)):=by
  rcases hO with ⟨iM,e⟩|⟨iM,e⟩
  ·have RJ:S.swaps t (Pg.ix q lv:Nat) x=V:=by simp[Pg.Fs.swaps,hat,iM]
   exact .inl ⟨RJ,fun v=>by simp[Pg.Fs.swap,Pg.Fs.store,RJ,hat],e⟩
  ·have RJ:S.swaps t (Pg.ix q lv:Nat) x=Y:=by simp[Pg.Fs.swaps,iM]
   exact .inr ⟨RJ,fun v=>by simp[Pg.Fs.swap,RJ],e⟩
 clear hat;have dz:Hid _:=h;have SC:=fun W'=>jV x lv mh iN W';rw[Pg.yi9]at SC;simp only[Pg.En.val]at SC;generalize Pg.En.of x lv=en at*;generalize Pg.yhA x lv=rc at*;obtain⟨et,el,er,eu,ed,ef⟩:=en;simp only at SC;obtain⟨d',ou⟩:∃d',(ed||k==1)=d':=⟨_,rfl⟩
 have hO:(S.swaps t (Pg.ix q lv:Nat) x=V/\oc= .done ⟨et,el,er,V,d',ef⟩ V\/S.swaps t (Pg.ix q lv:Nat) x=Y/\oc= .go (Pg.Wk.again root ⟨V,q,k,u,t,lv,x⟩))/\Pg.Wo.fs S ⟨V,q,k,u,t,lv,x⟩ oc=S.swap t (Pg.ix q lv:Nat) x (Pg.enc et el er V d' ef lv):=by
  rcases hO with ⟨e1,e2,e3⟩|⟨e1,e2,e3⟩
  ·rw[e2,e3,Pg.Wk.mark,<-ou]
   exact⟨.inl ⟨e1,rfl⟩,by simp only[Pg.Wo.fs];rw[Pg.yhE hq rP]⟩
  ·rw[e2,e3]
   exact⟨.inr ⟨e1,rfl⟩,rfl⟩
 rw[hO.2];have HO:Hid _:=hO.1;clear hO;have Gm:∀S',S'=S.swap t (Pg.ix q lv:Nat) x (Pg.enc et el er V d' ef lv)->S.swap t (Pg.ix q lv:Nat) x (Pg.enc et el er V d' ef lv)=S':=fun _ e=>e.symm;obtain⟨SY,U8⟩:∃SY,SY=S.swap t (Pg.ix q lv:Nat) x (Pg.enc et el er V d' ef lv):=⟨_,rfl⟩;have Gm:=Gm SY U8;rw[Gm];clear U8;obtain⟨sw,RJ⟩:∃sw,S.swaps t (Pg.ix q lv:Nat) x=sw:=⟨_,rfl⟩;rw[RJ]at HO;generalize hR:Pg.Wo.res ⟨V,q,k,u,t,lv,x⟩ oc=R;generalize pX:Pg.Wo.cd oc=cdv;generalize tL:Pg.Wo.next ⟨V,q,k,u,t,lv,x⟩ oc=nx;obtain⟨ra,rb,rc',rd,⟨uo,ut,um,uq⟩,re⟩:=R;have bH:Hid (_/\_/\_):=⟨hR,pX,tL⟩;clear hR pX tL;simp only[Pg.Rs.val];have Bd:Hid (zh w bf S F):=hf;clear h hf hh
 go_enter Tryz.func181,Tryz.ntmps181
 go_wp2_with fail
 rw[<-hW];refine HT.mono ?_;rintro e w1 ⟨rfl,Ha⟩;have fB:Hid _:=sI.out.grow Ha;have Tc:Hid (zh w1 bf S F):=zh.keep (G:=fun _=>False) mZ.out (But.yhp Ha) (fun _ _=>id);have H9:Hid (Below w.heap.size w w1):=zT rH Ha;have R1:Hid (w1.heap[w.heap.size]?=_):=(Ha.block _ (by rw[hW];simp)).trans R0.out;have dE:b<w1.heap.size:=fB.out.lb;have dn:w.heap.size<w1.heap.size:=(Z.1 R1.out).1;clear Ha HT k5 sI mZ R0 rH hW W;have y7:=fB.out.c7;have y6:=fB.out.c6;simp only at y6 y7
 have wV:b≠w1.heap.size:=by omega
 have mb1:w1.heap.size≠b:=by omega
 go_wp2_with fail
 go_region_held3 (fun w'=>w'.cell? ⟨b,o+7,P⟩=Q (I .u64 x)/\w'.cell? ⟨b,o+6,P⟩=Q (I J (lv:Int))) (go_keep) (
  (go_at_call 204;refine(SC _).mono ?_;rintro en w2 ⟨rfl,Hd⟩
   have Ht:Hid _:=Hd;have sJ:b<w2.heap.size:=O (by first|exact dE|(simp;omega)) Hd.size;have pR:w1.heap.size<=w2.heap.size:=Nat.le_trans (by simp) Hd.size;have Ez:w2.cell? ⟨b,o+7,P⟩=Q (I .u64 x):=(Hd.cell (p:=⟨b,o+7,P⟩) (by first|exact dE|(simp;omega))).trans (by first|exact y7|(simp[go_sem,y7,dE];done));have Ey:w2.cell? ⟨b,o+6,P⟩=Q (I J (lv:Int)):=(Hd.cell (p:=⟨b,o+6,P⟩) (by first|exact dE|(simp;omega))).trans (by first|exact y6|(simp[go_sem,y6,dE];done))
   have wW:b≠w2.heap.size:=by omega
   have KJ:w2.heap.size≠b:=by omega
   obtain⟨nG,lN⟩:=xW Hd
   clear Hd))
 focus
  have nz:Below w1.heap.size w1 (w2.alloc (A #[B et,B el,I J er,B eu,B ed,I J ef] 70))/\w1.heap.size<=w2.heap.size/\((w2.alloc (A #[B et,B el,I J er,B eu,B ed,I J ef] 70)).cell? ⟨w2.heap.size,0,P⟩=Q (B et)/\(w2.alloc (A #[B et,B el,I J er,B eu,B ed,I J ef] 70)).cell? ⟨w2.heap.size,1,P⟩=Q (B el)/\(w2.alloc (A #[B et,B el,I J er,B eu,B ed,I J ef] 70)).cell? ⟨w2.heap.size,2,P⟩=Q (I J er)/\(w2.alloc (A #[B et,B el,I J er,B eu,B ed,I J ef] 70)).cell? ⟨w2.heap.size,3,P⟩=Q (B eu)/\(w2.alloc (A #[B et,B el,I J er,B eu,B ed,I J ef] 70)).cell? ⟨w2.heap.size,4,P⟩=Q (B ed)/\(w2.alloc (A #[B et,B el,I J er,B eu,B ed,I J ef] 70)).cell? ⟨w2.heap.size,5,P⟩=Q (I J ef))/\∀i,(w2.alloc (A #[B et,B el,I J er,B eu,B ed,I J ef] 70)).frozen? ⟨w2.heap.size,i,P⟩=Y:=by
   have tH:=zT (zR w1).drew Ht.out;exact⟨zA tH _,tH.size,by simp[go_sem],fun i=>by simp[go_sem]⟩
  generalize w2.alloc (A #[B et,B el,I J er,B eu,B ed,I J ef] 70)=W5 at*;generalize w2.heap.size=Eb at*;obtain⟨kC,Dw,kF,Dx⟩:=nz;have EB:Hid _:=kC;have E6:Hid _:=kF;have EF:Hid _:=Dx;clear kC kF Dx nG lN Ez Ey wW KJ Ht sJ pR
 rotate_left
 focus
  obtain⟨Eb,lK⟩:∃Eb,Eb=w1.heap.size:=⟨_,rfl⟩;rw[<-lK]
  have nz:Below w1.heap.size w1 ((((((w2.setCell ⟨Eb,0,P⟩ (B et)).setCell ⟨Eb,1,P⟩ (B el)).setCell ⟨Eb,2,P⟩ (I J er)).setCell ⟨Eb,3,P⟩ (B eu)).setCell ⟨Eb,4,P⟩ (B ed)).setCell ⟨Eb,5,P⟩ (I J ef))/\w1.heap.size<=Eb/\(((((((w2.setCell ⟨Eb,0,P⟩ (B et)).setCell ⟨Eb,1,P⟩ (B el)).setCell ⟨Eb,2,P⟩ (I J er)).setCell ⟨Eb,3,P⟩ (B eu)).setCell ⟨Eb,4,P⟩ (B ed)).setCell ⟨Eb,5,P⟩ (I J ef)).cell? ⟨Eb,0,P⟩=Q (B et)/\((((((w2.setCell ⟨Eb,0,P⟩ (B et)).setCell ⟨Eb,1,P⟩ (B el)).setCell ⟨Eb,2,P⟩ (I J er)).setCell ⟨Eb,3,P⟩ (B eu)).setCell ⟨Eb,4,P⟩ (B ed)).setCell ⟨Eb,5,P⟩ (I J ef)).cell? ⟨Eb,1,P⟩=Q (B el)/\((((((w2.setCell ⟨Eb,0,P⟩ (B et)).setCell ⟨Eb,1,P⟩ (B el)).setCell ⟨Eb,2,P⟩ (I J er)).setCell ⟨Eb,3,P⟩ (B eu)).setCell ⟨Eb,4,P⟩ (B ed)).setCell ⟨Eb,5,P⟩ (I J ef)).cell? ⟨Eb,2,P⟩=Q (I J er)/\((((((w2.setCell ⟨Eb,0,P⟩ (B et)).setCell ⟨Eb,1,P⟩ (B el)).setCell ⟨Eb,2,P⟩ (I J er)).setCell ⟨Eb,3,P⟩ (B eu)).setCell ⟨Eb,4,P⟩ (B ed)).setCell ⟨Eb,5,P⟩ (I J ef)).cell? ⟨Eb,3,P⟩=Q (B eu)/\((((((w2.setCell ⟨Eb,0,P⟩ (B et)).setCell ⟨Eb,1,P⟩ (B el)).setCell ⟨Eb,2,P⟩ (I J er)).setCell ⟨Eb,3,P⟩ (B eu)).setCell ⟨Eb,4,P⟩ (B ed)).setCell ⟨Eb,5,P⟩ (I J ef)).cell? ⟨Eb,4,P⟩=Q (B ed)/\((((((w2.setCell ⟨Eb,0,P⟩ (B et)).setCell ⟨Eb,1,P⟩ (B el)).setCell ⟨Eb,2,P⟩ (I J er)).setCell ⟨Eb,3,P⟩ (B eu)).setCell ⟨Eb,4,P⟩ (B ed)).setCell ⟨Eb,5,P⟩ (I J ef)).cell? ⟨Eb,5,P⟩=Q (I J ef))/\∀i,((((((w2.setCell ⟨Eb,0,P⟩ (B et)).setCell ⟨Eb,1,P⟩ (B el)).setCell ⟨Eb,2,P⟩ (I J er)).setCell ⟨Eb,3,P⟩ (B eu)).setCell ⟨Eb,4,P⟩ (B ed)).setCell ⟨Eb,5,P⟩ (I J ef)).frozen? ⟨Eb,i,P⟩=Y:=by
   subst lK;have tH:=zT (zA (zR w1) _).drew Ht.out
   have h6:w2.cell? ⟨w1.heap.size,0,P⟩=Q (B Y)/\w2.cell? ⟨w1.heap.size,1,P⟩=Q (B Y)/\w2.cell? ⟨w1.heap.size,2,P⟩=Q (I J 0)/\w2.cell? ⟨w1.heap.size,3,P⟩=Q (B Y)/\w2.cell? ⟨w1.heap.size,4,P⟩=Q (B Y)/\w2.cell? ⟨w1.heap.size,5,P⟩=Q (I J 0):=by
    refine⟨?_,?_,?_,?_,?_,?_⟩<;>(rw[nG _ _ (by simp)];simp[go_sem])
   have sM:=yad (v0:=B et) (v1:=B el) (v2:=I J er) (v3:=B eu) (v4:=B ed) (v5:=I J ef) tH (E _) h6;refine⟨sM.1,E _,sM.2.1,fun i=> ?_⟩;rw[sM.2.2.2,lN _ _ (by simp)];simp[go_sem]
  generalize ((((((w2.setCell ⟨Eb,0,P⟩ (B et)).setCell ⟨Eb,1,P⟩ (B el)).setCell ⟨Eb,2,P⟩ (I J er)).setCell ⟨Eb,3,P⟩ (B eu)).setCell ⟨Eb,4,P⟩ (B ed)).setCell ⟨Eb,5,P⟩ (I J ef))=W5 at*;obtain⟨kC,Dw,kF,Dx⟩:=nz;have EB:Hid _:=kC;have E6:Hid _:=kF;have EF:Hid _:=Dx;clear kC kF Dx lK nG lN Ez Ey wW KJ Ht sJ pR
 rotate_left
 all_goals
  obtain⟨z0,z1,z2,z3,z4,z5⟩:=E6.out;have zf:=EF.out;have Na:=M _ _ z0;simp only at Na;have tu:Hid (Below w.heap.size w W5):=zT H9.out EB.out;have R5:Hid (W5.heap[w.heap.size]?=_):=(EB.out.block _ dn).trans R1.out;have aN:=vP ⟨et,el,er,eu,ed,ef⟩ _ (dz.out.grow tu.out);simp only[Pg.En.val,Pg.Wk.mark]at aN;rw[ou]at aN
  go_wp2_with fail
  refine aN.mono ?_;rintro en w6 ⟨rfl,H7⟩;obtain⟨W7,nA⟩:∃W7,W7=((((((w6.setCell ⟨Eb,0,P⟩ (B et)).setCell ⟨Eb,1,P⟩ (B el)).setCell ⟨Eb,2,P⟩ (I J er)).setCell ⟨Eb,3,P⟩ (B V)).setCell ⟨Eb,4,P⟩ (B d')).setCell ⟨Eb,5,P⟩ (I J ef)):=⟨_,rfl⟩
  have Dt:Below w.heap.size w6 W7:=by
   have hE:w.heap.size<=Eb:=by omega
   rw[nA];exact((((((Below.refl _ w6).setCell hE _).setCell hE _).setCell hE _).setCell hE _).setCell hE _).setCell hE _
  have k6:=xE H7 E6.out;have kf:∀i,w6.frozen? ⟨Eb,i,P⟩=Y:=fun i=>(H7.frozen (p:=⟨Eb,i,P⟩) Na).trans (EF.out i);have pg:Hid (Below w.heap.size w W7):=(zT tu.out H7).trans Dt
  have Ad:Eb<W7.heap.size:=by rw[nA];simp;have:=H7.size;omega
  obtain⟨q0,q1,q2,q3,q4,q5⟩:=k6
  have E7:Hid (W7.cell? ⟨Eb,0,P⟩=Q (B et)/\W7.cell? ⟨Eb,1,P⟩=Q (B el)/\W7.cell? ⟨Eb,2,P⟩=Q (I J er)/\W7.cell? ⟨Eb,3,P⟩=Q (B V)/\W7.cell? ⟨Eb,4,P⟩=Q (B d')/\W7.cell? ⟨Eb,5,P⟩=Q (I J ef)):=by rw[Hid,nA];simp[go_sem,q0,q1,q2,q3,q4,q5]
  have R7:Hid (W7.heap[w.heap.size]?=Q (A #[B Y,I J 0,I J 0,I J 0,I J 0,I J 0,I J 0,I J 0,B Y] 232 (0,0))):=by
   have Ho:w.heap.size≠Eb:=by omega
   rw[nA,kp _ _ _ _ Ho,kp _ _ _ _ Ho,kp _ _ _ _ Ho,kp _ _ _ _ Ho,kp _ _ _ _ Ho,kp _ _ _ _ Ho];exact(H7.block _ (by omega)).trans R5.out
  have Af:w.heap.size<Eb:=by omega
  clear Dt H7 aN z0 z1 z2 z3 z4 z5 zf Na tu R5 E6 EF EB y6 y7 wV mb1 fB Tc H9 R1 dE dn SC Dw
  go_wp2_with fail
  rw[<-nA];clear nA q0 q1 q2 q3 q4 q5 kf;have g0:=cell_regrown E7.out.1;have g1:=cell_regrown E7.out.2.1;have g2:=cell_regrown E7.out.2.2.1;have g3:=cell_regrown E7.out.2.2.2.1;have g4:=cell_regrown E7.out.2.2.2.2.1;have g5:=cell_regrown E7.out.2.2.2.2.2;have g6:=cell_regrown (dz.out.grow pg.out).c6;simp only at g6;have Un:=fun W'=>yaT et el er V d' ef lv W';have lw:=(Pg.yjX et el er V d' ef lv).1;have l8:=(Pg.yjX et el er V d' ef lv).2;generalize hvv:Pg.enc et el er V d' ef lv=v at*;have Io:Hid _:=Gm;clear Gm hvv;refine wp_region_quiet_below (by kernel_rfl) (by kernel_rfl) ?_
  repeat (first
   | go_big_quiet_step ((go_at_call 168;exact Calls.regrown_of (Un _))))
  refine wpQuiet_nil ?_;intro _ pG;obtain⟨⟨Bw,wX⟩,rfl⟩:=pG;have su:=below_regrown W7 Bw wX;have dL:Hid (Below w.heap.size w (grow (redrawn W7 Bw) wX)):=zT pg.out su;have E8:Hid _:=xE su E7.out;have R8:Hid ((grow (redrawn W7 Bw) wX).heap[w.heap.size]?=_):=(su.block _ (by omega)).trans R7.out;clear su g0 g1 g2 g3 g4 g5 g6 pg E7 R7 Un Ad;generalize grow (redrawn W7 Bw) wX=w8 at*
  go_wp2_with fail
  have g5:=cell_regrown (dz.out.grow dL.out).c5;have g7:=cell_regrown (dz.out.grow dL.out).c7;simp only at g5 g7;have HP:=fun d os=>jZ _ ((dz.out.grow dL.out).grow (below_regrown w8 d os));simp only[Pg.yhE hq rP]at HP;refine Loose.yhr 12 (by kernel_rfl) (by kernel_rfl) ?_;simp only[List.take_succ_cons,List.take_zero,List.drop_succ_cons,List.drop_zero]
  repeat (
   refine Loose.zS (fun k hk=> ?_)
   go_simp
   first
    | (refine hk _ ?_;clear hk k)
    | (apply Exists.intro
       refine⟨fun _=> ?_,hk _ ?_⟩
       (go_at_call 207;exact Loose.calls (HP _ _))
       clear hk k))
  refine Loose.yhs ?_;intro w9 bI;have ay:Hid (Below w.heap.size w w9):=zT dL.out bI;have E9:Hid _:=xE bI E8.out;have R9:Hid (w9.heap[w.heap.size]?=_):=(bI.block _ (Z.1 R8.out).1).trans R8.out;clear bI g5 g7 HP dL E8 R8;have Mw:=ydS t (Pg.ix q lv:Nat) x v lw l8 w9 (zh.keep (G:=fun _=>False) Bd.out (But.yhp ay.out) (fun _ _=>id));rw[RJ,Io.out]at Mw
  go_wp2_with fail
  refine Mw.mono ?_;rintro en ax ⟨rfl,Rb,Fv,fG,aX⟩;have Oy:b<w9.heap.size:=O hl ay.out.size;have Gg:w.heap.size<w9.heap.size:=(Z.1 R9.out).1;have SL:Hid _:=(dz.out.grow ay.out).keep fG lY;have Sz:Hid (Ch8 b o (fun j=>j=b\/F j) w ax):=(Ch8.yhp ay.out hl).trans ((Ch8.ylE (o:=o) fG Oy lY).mono (G:=fun j=>j=b\/F j) (fun _ _ h=> .inr h)) (fun _ _ h=>h);have Bu:Hid (ax.heap[w.heap.size]?=_):=(fG.block _ Gg wP).trans R9.out
  have Ae:¬F Eb:=fun hF=>by have:=zh.lt Bd.out hF;omega
  have EE:Hid _:=ye6 (fG.block Eb (M _ _ E9.out.1) Ae) E9.out;have SE:Hid (zh ax bf SY Rb):=Fv;have SI:Hid (∀j,Rb j->F j\/w.heap.size<=j):=fun j hj=>(aX j hj).imp id (fun h=>by omega)
  have Rq:¬Rb b:=fun h=>by rcases aX b h with h|h;exact lY h;omega
  have RF:¬Rb w.heap.size:=fun h=>by rcases aX _ h with h|h;exact wP h;omega
  clear Fv fG aX Mw ay R9 E9 dz Oy Gg;rcases HO.out with ⟨rfl,rfl⟩|⟨rfl,rfl⟩
  ·obtain⟨hR,pX,tL⟩:=bH.out
   simp only[Pg.Wo.cd,Pg.Wo.next]at pX tL;subst pX tL;have bH:Hid _:=hR;clear hR;obtain⟨z0,z1,z2,z3,z4,z5⟩:=EE.out;have iR:=yb3 ⟨et,el,er,V,d',ef⟩ _ SL.out V;rw[bH.out]at iR;simp only[Pg.En.val,Pg.Rs.val]at iR
   go_wp2_with fail
   refine iR.mono ?_;rintro en ky ⟨rfl,nK,dZ⟩;have Td:Hid (zh ky bf SY Rb):=zh.keep SE.out dZ.but (fun j hj e=>Rq (e▸hj));have oG:Hid (Ch8 b o (fun j=>j=b\/F j) w ky):=Sz.out.trans dZ (fun _ _ h=> .inl h);have PD:Hid (ky.heap[w.heap.size]?=_):=(dZ.but.block _ (Z.1 Bu.out).1 tQ).trans Bu.out;obtain⟨⟨x0,x1,x2,x3,x4,x5,x6,x7,x8⟩,xf⟩:=yce PD.out;have HF:Hid _:=yfu tQ (E _) ⟨nK,oG.out⟩ (B ra) (I J rb) (I J rc') (I J rd) (I J uo) (I J ut) (I J um) (I J uq) (B re);have ni:Hid _:=zh.keep Td.out (qb (F:=fun j=>j=w.heap.size) (But.refl _ ky) w.heap.size (.inr rfl) (B ra) (I J rb) (I J rc') (I J rd) (I J uo) (I J ut) (I J um) (I J uq) (B re)) (fun j hj e=>RF (e▸hj));clear nK dZ iR
   go_wp2_with fail
   refine bodyPost_ret (v:=y #[ks #[B ra,I J rb,I J rc',I J rd,I J uo,I J ut,I J um,I J uq,B re],I J 0]) ?_ rfl ⟨rfl,HF.out.1,Rb,ni.out,HF.out.2,SI.out⟩;simp[results,Tryz.results181,go_sem,x0,x1,x2,x3,x4,x5,x6,x7,x8]
  ·obtain⟨hR,pX,tL⟩:=bH.out
   simp only[Pg.Wo.res,Pg.Wo.cd,Pg.Wo.next,Pg.Rs.zero,Pg.Rs.mk.injEq,Pg.Mp.mk.injEq]at hR pX tL;obtain⟨rfl,rfl,rfl,rfl,⟨rfl,rfl,rfl,rfl⟩,rfl⟩:=hR;subst pX tL;have HA:=jY _ SL.out
   go_wp2_with fail
   refine HA.mono ?_;rintro en ky ⟨rfl,nK,dZ⟩;have Td:Hid (zh ky bf SY Rb):=zh.keep SE.out dZ.but (fun j hj e=>Rq (e▸hj));have oG:Hid (Ch8 b o (fun j=>j=b\/F j) w ky):=Sz.out.trans dZ (fun _ _ h=> .inl h);have PD:Hid (ky.heap[w.heap.size]?=_):=(dZ.but.block _ (Z.1 Bu.out).1 tQ).trans Bu.out;obtain⟨⟨x0,x1,x2,x3,x4,x5,x6,x7,x8⟩,xf⟩:=yce PD.out;have HF:Hid _:=yfu tQ (E _) ⟨nK,oG.out⟩ (B Y) (I J 0) (I J 0) (I J 0) (I J 0) (I J 0) (I J 0) (I J 0) (B Y);have ni:Hid _:=zh.keep Td.out (qb (F:=fun j=>j=w.heap.size) (But.refl _ ky) w.heap.size (.inr rfl) (B Y) (I J 0) (I J 0) (I J 0) (I J 0) (I J 0) (I J 0) (I J 0) (B Y)) (fun j hj e=>RF (e▸hj));clear nK dZ HA
   go_wp2_with fail
   refine bodyPost_ret (v:=y #[ks #[B Y,I J 0,I J 0,I J 0,I J 0,I J 0,I J 0,I J 0,B Y],I J 0]) ?_ rfl ⟨rfl,HF.out.1,Rb,ni.out,HF.out.2,SI.out⟩;simp[results,Tryz.results181,go_sem,x0,x1,x2,x3,x4,x5,x6,x7,x8]
theorem ycR {bf:Nat} {S S':Pg.Fs} {F:Nat->Prop} {K K':Pg.Wk} {R:Pg.Rs} {c:Int} (ho:K.on=V) (hx:(K.x !=0)=V) (w:ki) (h:xi w b o root K) (hf:zh w bf S F) (lY:¬F b)
 (HC:∀W,xi W b o root K->zh W bf S F->Calls kO 181 #[U (Q ⟨b,o,P⟩),U (Q ⟨bf,0,P⟩)] W fun e w'=>e=z (y #[R.val,I J c])/\xi w' b o root K'/\∃F',zh w' bf S' F'/\Ch8 b o (fun j=>j=b\/F j) W w'/\∀j,F' j->F j\/W.heap.size<=j):
 Calls kO 145 #[U (Q ⟨b,o,P⟩),U (Q ⟨bf,0,P⟩)] w fun e w'=>e=z (y #[R.val,I J c])/\xi w' b o root K'/\∃F',zh w' bf S' F'/\Ch8 b o (fun j=>j=b\/F j) w w'/\∀j,F' j->F j\/w.heap.size<=j:=by
 obtain⟨W,hW⟩:∃W,W=w.alloc (A #[B Y,I J 0,I J 0,I J 0,I J 0,I J 0,I J 0,I J 0,B Y] 232):=⟨_,rfl⟩
 have rH:Below w.heap.size w W:=by rw[hW];exact zA (zR w) _
 have tT:Hid _:=rH;have hl:=h.lb
 have Ho:b≠w.heap.size:=by omega
 have RV:=HC W (h.grow rH) (hf.keep (G:=fun _=>False) (But.yhp rH) (fun _ _=>id))
 have R0:Hid (W.heap[w.heap.size]?=Q (A #[B Y,I J 0,I J 0,I J 0,I J 0,I J 0,I J 0,I J 0,B Y] 232 (0,0))):=by rw[hW];exact heap_alloc_new _ _
 have tQ:¬w.heap.size=b:=by omega
 have wP:¬F w.heap.size:=fun hF=>by have:=hf.lt hF;omega
 have c1:=h.c1;have c7:=h.c7;rw[ho]at c1;have lU:w.heap.size<W.heap.size:=(Z.1 R0.out).1;obtain⟨ra,rb,rc,rd,⟨uo,ut,um,uq⟩,re⟩:=R;simp only[Pg.Rs.val]at RV ⊢;clear h hf ho HC rH
 go_enter Tryz.func145,Tryz.ntmps145
 go_wp2_with fail
 rw[<-hW];refine RV.mono ?_;rintro e w1 ⟨rfl,sW,F1,pY,rO,tO⟩;have R1:Hid (w1.heap[w.heap.size]?=_):=(rO.but.block _ lU (by rintro (h|h);exact tQ h;exact wP h)).trans R0.out
 have Pm:¬F1 w.heap.size:=fun h=>by rcases tO _ h with h|h;exact wP h;omega
 have aF:Hid (Ch8 b o (fun j=>j=b\/F j) w w1):=(Ch8.yhp tT.out hl).trans rO (fun _ _ h=>h);have HG:Hid (∀j,F1 j->F j\/w.heap.size<=j):=fun j hj=>(tO j hj).imp id (fun h=>by omega);obtain⟨⟨x0,x1,x2,x3,x4,x5,x6,x7,x8⟩,xf⟩:=yce R1.out;have HF:Hid _:=yfu tQ (E _) ⟨sW,aF.out⟩ (B ra) (I J rb) (I J rc) (I J rd) (I J uo) (I J ut) (I J um) (I J uq) (B re);have ni:Hid _:=zh.keep pY (qb (F:=fun j=>j=w.heap.size) (But.refl _ w1) w.heap.size (.inr rfl) (B ra) (I J rb) (I J rc) (I J rd) (I J uo) (I J ut) (I J um) (I J uq) (B re)) (fun j hj e=>Pm (e▸hj));clear sW pY rO tO RV c1 c7 hW hx
 go_wp2_with fail
 refine bodyPost_ret (v:=y #[ks #[B ra,I J rb,I J rc,I J rd,I J uo,I J ut,I J um,I J uq,B re],I J c]) ?_ rfl ⟨rfl,HF.out.1,F1,ni.out,HF.out.2,HG.out⟩;simp[results,Tryz.results145,go_sem,x0,x1,x2,x3,x4,x5,x6,x7,x8]
theorem ycS {bf:Nat} {S S':Pg.Fs} {F:Nat->Prop} {K K':Pg.Wk} {R:Pg.Rs} {c:Int} (ho:K.on=V) (hx:(K.x !=0)=Y) (w:ki) (h:xi w b o root K) (hf:zh w bf S F) (lY:¬F b)
 (HC:∀W,xi W b o root K->zh W bf S F->Calls kO 182 #[U (Q ⟨b,o,P⟩),U (Q ⟨bf,0,P⟩)] W fun e w'=>e=z (y #[R.val,I J c])/\xi w' b o root K'/\∃F',zh w' bf S' F'/\Ch8 b o (fun j=>j=b\/F j) W w'/\∀j,F' j->F j\/W.heap.size<=j):
 Calls kO 145 #[U (Q ⟨b,o,P⟩),U (Q ⟨bf,0,P⟩)] w fun e w'=>e=z (y #[R.val,I J c])/\xi w' b o root K'/\∃F',zh w' bf S' F'/\Ch8 b o (fun j=>j=b\/F j) w w'/\∀j,F' j->F j\/w.heap.size<=j:=by
 obtain⟨W,hW⟩:∃W,W=w.alloc (A #[B Y,I J 0,I J 0,I J 0,I J 0,I J 0,I J 0,I J 0,B Y] 232):=⟨_,rfl⟩
 have rH:Below w.heap.size w W:=by rw[hW];exact zA (zR w) _
 have tT:Hid _:=rH;have hl:=h.lb
 have Ho:b≠w.heap.size:=by omega
 have RV:=HC W (h.grow rH) (hf.keep (G:=fun _=>False) (But.yhp rH) (fun _ _=>id))
 have R0:Hid (W.heap[w.heap.size]?=Q (A #[B Y,I J 0,I J 0,I J 0,I J 0,I J 0,I J 0,I J 0,B Y] 232 (0,0))):=by rw[hW];exact heap_alloc_new _ _
 have tQ:¬w.heap.size=b:=by omega
 have wP:¬F w.heap.size:=fun hF=>by have:=hf.lt hF;omega
 have c1:=h.c1;have c7:=h.c7;rw[ho]at c1;have lU:w.heap.size<W.heap.size:=(Z.1 R0.out).1;obtain⟨ra,rb,rc,rd,⟨uo,ut,um,uq⟩,re⟩:=R;simp only[Pg.Rs.val]at RV ⊢;clear h hf ho HC rH
 go_enter Tryz.func145,Tryz.ntmps145
 go_wp2_with fail
 rw[<-hW];refine RV.mono ?_;rintro e w1 ⟨rfl,sW,F1,pY,rO,tO⟩;have R1:Hid (w1.heap[w.heap.size]?=_):=(rO.but.block _ lU (by rintro (h|h);exact tQ h;exact wP h)).trans R0.out
 have Pm:¬F1 w.heap.size:=fun h=>by rcases tO _ h with h|h;exact wP h;omega
 have aF:Hid (Ch8 b o (fun j=>j=b\/F j) w w1):=(Ch8.yhp tT.out hl).trans rO (fun _ _ h=>h);have HG:Hid (∀j,F1 j->F j\/w.heap.size<=j):=fun j hj=>(tO j hj).imp id (fun h=>by omega);obtain⟨⟨x0,x1,x2,x3,x4,x5,x6,x7,x8⟩,xf⟩:=yce R1.out;have HF:Hid _:=yfu tQ (E _) ⟨sW,aF.out⟩ (B ra) (I J rb) (I J rc) (I J rd) (I J uo) (I J ut) (I J um) (I J uq) (B re);have ni:Hid _:=zh.keep pY (qb (F:=fun j=>j=w.heap.size) (But.refl _ w1) w.heap.size (.inr rfl) (B ra) (I J rb) (I J rc) (I J rd) (I J uo) (I J ut) (I J um) (I J uq) (B re)) (fun j hj e=>Pm (e▸hj));clear sW pY rO tO RV c1 c7 hW hx
 go_wp2_with fail
 refine bodyPost_ret (v:=y #[ks #[B ra,I J rb,I J rc,I J rd,I J uo,I J ut,I J um,I J uq,B re],I J c]) ?_ rfl ⟨rfl,HF.out.1,F1,ni.out,HF.out.2,HG.out⟩;simp[results,Tryz.results145,go_sem,x0,x1,x2,x3,x4,x5,x6,x7,x8]
theorem yd0 {bf:Nat} {K:Pg.Wk} (ho:K.on=Y) (w:ki) (h:xi w b o root K):
 Calls kO 145 #[U (Q ⟨b,o,P⟩),U (Q ⟨bf,0,P⟩)] w fun e w'=>e=z (y #[Pg.Rs.val Pg.Rs.zero,I J 9])/\Below w.heap.size w w':=by
 have c1:=h.c1;have hl:=h.lb
 have Ho:b≠w.heap.size:=by omega
 rw[ho]at c1;clear h ho;simp only[Pg.Rs.zero,Pg.Rs.val]
 go_enter Tryz.func145,Tryz.ntmps145
 go_wp2_with fail
 refine bodyPost_ret (v:=y #[ks #[B Y,I J 0,I J 0,I J 0,I J 0,I J 0,I J 0,I J 0,B Y],I J 9]) ?_ rfl ⟨rfl,zA (zR _) _⟩;simp[results,Tryz.results145,go_sem]
theorem yeQ {bf:Nat} {S:Pg.Fs} {F:Nat->Prop} {K:Pg.Wk} (ok:K.Ok) (w:ki) (h:xi w b o root K) (hf:zh w bf S F) (lY:¬F b):
 Calls kO 145 #[U (Q ⟨b,o,P⟩),U (Q ⟨bf,0,P⟩)] w fun e w'=>e=z (y #[((Pg.kOut S root K).res K).val,I J (Pg.kOut S root K).cd])/\xi w' b o root ((Pg.kOut S root K).next K)/\∃F',zh w' bf ((Pg.kOut S root K).fs S K) F'/\Ch8 b o (fun j=>j=b\/F j) w w'/\∀j,F' j->F j\/w.heap.size<=j:=by
 cases ho:K.on
 ·have e:Pg.kOut S root K= .code 9:=by simp[Pg.kOut,ho]
  rw[e];refine(yd0 ho w h).mono ?_;rintro e w' ⟨rfl,hb⟩;exact⟨rfl,h.grow hb,F,hf.keep (G:=fun _=>False) (But.yhp hb) (fun _ _=>id),Ch8.yhp hb h.lb,fun j hj=> .inl hj⟩
 ·obtain⟨on,q,k,u,t,lv,x⟩:=K
  simp only at ho;subst ho;have hq:=ok.page rfl;have rP:=ok.lv;simp only at hq rP
  by_cases hx:x=0
  ·subst hx
   refine ycS rfl rfl w h hf lY fun W hW PP=> ?_;refine(yeP hq rP W hW PP).mono ?_;rintro e w' ⟨rfl,hk,hc⟩
   have e:∀o:Pg.Wo,(∀e,o≠ .done e V)->o.fs S ⟨V,q,k,u,t,lv,0⟩=S:=fun o ho=>by
    rcases o with c|K'|r|⟨e,m⟩
    ·rfl
    ·rfl
    ·rfl
    ·cases m
     ·rfl
     ·exact absurd rfl (ho e)
   have hn:∀e,Pg.kOut S root ⟨V,q,k,u,t,lv,0⟩≠ .done e V:=fun e=>by
    have:=Pg.yk7 S root q k u t lv;rw[show Pg.kOut S root (Pg.Wk.at' q k u t lv 0)=Pg.kOut S root ⟨V,q,k,u,t,lv,0⟩from rfl]at this;rw[this]
    repeat (any_goals split)
    all_goals simp
   rw[e _ hn];exact⟨rfl,hk,F,PP.keep hc.but (fun j hj e=>lY (e▸hj)),hc.mono (fun _ _ h=> .inl h),fun j hj=> .inl hj⟩
  ·obtain⟨x0,x1,_⟩:=ok.leaf hx
   simp only at x0 x1;refine ycR rfl (by simpa using hx) w h hf lY fun W hW PP=> ?_;cases hh:S.has t
   ·have e:Pg.kOut S root ⟨V,q,k,u,t,lv,x⟩= .code 12:=by simp[Pg.kOut,hh]
    rw[e];exact ydY hq rP x0 x1 W hW PP lY hh
   ·by_cases hw:S.word t.toNat (Pg.ix q lv)=x
    ·have e:Pg.kOut S root ⟨V,q,k,u,t,lv,x⟩= .done (Pg.Wk.mark ⟨V,q,k,u,t,lv,x⟩ (Pg.En.of x lv)) V:=Pg.yll hx hh hw
     rw[e];exact ya1 hq rP x0 x1 W hW PP lY hh (.inl ⟨hw,rfl⟩)
    ·have e:Pg.kOut S root ⟨V,q,k,u,t,lv,x⟩= .go (Pg.Wk.again root ⟨V,q,k,u,t,lv,x⟩):=by
      unfold Pg.kOut;rw[if_neg (by simp),if_neg (by simp[hh]),if_pos hx,if_neg (show ¬Pg.Wk.word S ⟨V,q,k,u,t,lv,x⟩=x from hw)]
     rw[e];exact ya1 hq rP x0 x1 W hW PP lY hh (.inr ⟨hw,rfl⟩)
def yei (K:Pg.Wk) (q k:Int):Int:=if Pg.zK q k≠0 then Pg.zK q k else if K.on=V then 8 else 0
def yeo (root:Int) (K:Pg.Wk) (q k:Int) (u:Bool):Pg.Wk:=if yei K q k=0 then Pg.Wk.start root q k u else K
theorem xi.begun {W:ki} (h:xi W b o root Pg.Wk.off) (q k:Int) (u:Bool):
 xi ((((W.setCell ⟨b,o+1,P⟩ (B V)).setCell ⟨b,o+2,P⟩ (I J q)).setCell ⟨b,o+3,P⟩ (I J k)).setCell ⟨b,o+4,P⟩ (B u)) b o root ⟨V,q,k,u,0,0,0⟩/\Ch8 b o (fun j=>j=b) W ((((W.setCell ⟨b,o+1,P⟩ (B V)).setCell ⟨b,o+2,P⟩ (I J q)).setCell ⟨b,o+3,P⟩ (I J k)).setCell ⟨b,o+4,P⟩ (B u)):=by
 obtain⟨c0,c1,c2,c3,c4,c5,c6,c7,fb⟩:=h
 refine⟨⟨?_,?_,?_,?_,?_,?_,?_,?_,fun p=> ?_⟩,((((Ch8.refl b o (fun j=>j=b) W).set rfl 1 (by decide) _).set rfl 2 (by decide) _).set rfl 3 (by decide) _).set rfl 4 (by decide) _⟩<;>simp[go_sem,c0,c1,c2,c3,c4,c5,c6,c7,fb,Pg.Wk.off]
theorem ya0 {K:Pg.Wk} (ok:K.Ok) (q k:Int) (u:Bool) (w:ki) (h:xi w b o root K):
 Calls kO 144 #[U (Q ⟨b,o,P⟩),ks #[I J q,I J k,B u]] w fun e w'=>e=z (I J (yei K q k))/\xi w' b o root (yeo root K q k u)/\Ch8 b o (fun j=>j=b) w w':=by
 obtain⟨W,hW⟩:∃W,W=w.alloc (A #[I J q,I J k,B u] 41):=⟨_,rfl⟩
 have rH:Below w.heap.size w W:=by rw[hW];exact zA (zR w) _
 have a3:W.cell? ⟨w.heap.size,0,P⟩=Q (I J q)/\W.cell? ⟨w.heap.size,1,P⟩=Q (I J k)/\W.cell? ⟨w.heap.size,2,P⟩=Q (B u):=by rw[hW];simp[go_sem]
 have A3:Hid _:=a3;have tT:Hid _:=rH;have hl:=h.lb
 have Ho:b≠w.heap.size:=by omega
 have GN:w.heap.size≠b:=by omega
 have sI:Hid _:=h.grow rH;have fE:=zJ q k u W;clear a3 rH
 by_cases hc:Pg.zK q k=0
 ·have e1:(Pg.zK q k !=0)=Y:=by simpa using hc
  cases ho:K.on
  ·have iD:=ok.idle ho
   subst iD
   have e2:yei Pg.Wk.off q k=0:=by simp[yei,hc,Pg.Wk.off]
   have e3:yeo root Pg.Wk.off q k u=Pg.Wk.start root q k u:=by simp[yeo,e2]
   rw[e2,e3];rw[hc]at fE;clear h ho hc e1 e2 e3 ok
   go_enter Tryz.func144,Tryz.ntmps144
   go_wp2_with fail
   rw[<-hW];refine fE.mono ?_;rintro e w1 ⟨rfl,Ha⟩;have fB:Hid _:=sI.out.grow Ha;have aF:Hid (Ch8 b o (fun j=>j=b) w w1):=Ch8.yhp (zT tT.out Ha) hl;obtain⟨z0,z1,z2⟩:=qc Ha A3.out;have c1:=fB.out.c1;have c2:=fB.out.c2;have c3:=fB.out.c3;have c4:=fB.out.c4;have fb:=fB.out.fb;simp only[Pg.Wk.off]at c1 c2 c3 c4;have HF:Hid _:=fB.out.begun q k u;clear Ha fE sI tT A3 hW;have FT:=M _ _ z0;simp only at FT
   go_wp2_with fail
   go_region
   have HA:=jY _ (HF.out.1.grow (zR _).drew)
   go_wp2_with fail
   refine HA.mono ?_;rintro e w2 ⟨rfl,tC,tY⟩;have aJ:Hid (xi w2 b o root (Pg.Wk.start root q k u)/\Ch8 b o (fun j=>j=b) w w2):=⟨tC,aF.out.trans (HF.out.2.drew.trans tY (fun _ _ h=>h)) (fun _ _ h=>h)⟩;clear tC tY HA HF
   go_wp2_with fail
   go_ret
   exact⟨rfl,aJ.out⟩
  ·have e2:yei K q k=8:=by simp[yei,hc,ho]
   have e3:yeo root K q k u=K:=by simp[yeo,e2]
   rw[e2,e3];rw[hc]at fE;clear h hc e1 e2 e3 ok
   go_enter Tryz.func144,Tryz.ntmps144
   go_wp2_with fail
   rw[<-hW];refine fE.mono ?_;rintro e w1 ⟨rfl,Ha⟩;have fB:Hid _:=sI.out.grow Ha;have aF:Hid (Ch8 b o (fun j=>j=b) w w1):=Ch8.yhp (zT tT.out Ha) hl;have c1:=fB.out.c1;rw[ho]at c1;clear Ha fE sI tT A3 hW ho
   go_wp2_with fail
   go_ret
   exact⟨rfl,fB.out,aF.out⟩
 ·have e1:(Pg.zK q k !=0)=V:=by simpa using hc
  have e2:yei K q k=Pg.zK q k:=by simp[yei,hc]
  have e3:yeo root K q k u=K:=by simp[yeo,e2,hc]
  rw[e2,e3];generalize Pg.zK q k=cc at*;clear h hc e2 e3 ok
  go_enter Tryz.func144,Tryz.ntmps144
  go_wp2_with fail
  rw[<-hW];refine fE.mono ?_;rintro e w1 ⟨rfl,Ha⟩;have fB:Hid _:=sI.out.grow Ha;have aF:Hid (Ch8 b o (fun j=>j=b) w w1):=Ch8.yhp (zT tT.out Ha) hl;clear Ha fE sI tT A3 hW
  go_wp2_with fail
  go_ret
  exact⟨rfl,fB.out,aF.out⟩
end
structure Crk (w:ki) (b bt bk:Nat) (Ft:Nat->Prop) (root:Int) (C:Pg.Cr):Prop where
 c0:w.cell? ⟨b,0,P⟩=Q (U (Q ⟨bt,0,P⟩))
 c1:w.cell? ⟨b,1,P⟩=Q (U (Q ⟨bk,0,P⟩))
 tb:jQ w bt 0 C.L Ft
 wk:xi w bk 0 root C.K
 nb:¬Ft b
 nk:¬Ft bk
 ne:b≠bk
 ok:C.K.Ok
def crF (b bk:Nat) (Ft:Nat->Prop):Nat->Prop:=fun j=>j=b\/j=bk\/Ft j
namespace Crk
variable {w w':ki} {b bt bk:Nat} {Ft mY G:Nat->Prop} {root:Int} {C:Pg.Cr} {K':Pg.Wk} {L':List Pg.Ln}
theorem lb (h:Crk w b bt bk Ft root C):b<w.heap.size:=M _ _ h.c0
theorem lt (h:Crk w b bt bk Ft root C) {k:Nat} (hk:crF b bk Ft k):k<w.heap.size:=by
 rcases hk with rfl|rfl|hk
 ·exact h.lb
 ·exact h.wk.lb
 ·exact h.tb.lt hk
theorem keep (h:Crk w b bt bk Ft root C) (hb:But G w w') (hG:∀k,crF b bk Ft k->¬G k):Crk w' b bt bk Ft root C:=by
 have n:=hG b (.inl rfl);exact⟨(hb.cell (a:=⟨b,0,P⟩) h.lb n).trans h.c0,(hb.cell (a:=⟨b,1,P⟩) h.lb n).trans h.c1,h.tb.keep hb fun k hk=>hG k (.inr (.inr hk)),h.wk.keep hb (hG bk (.inr (.inl rfl))),h.nb,h.nk,h.ne,h.ok⟩
theorem grow (h:Crk w b bt bk Ft root C) (hb:Below w.heap.size w w'):Crk w' b bt bk Ft root C:=h.keep (G:=fun _=>False) (But.yhp hb) (fun _ _=>id)
theorem ykl (h:Crk w b bt bk Ft root C) (hk:xi w' bk 0 root K') (ok:K'.Ok) (hb:But (fun j=>j=bk) w w'):Crk w' b bt bk Ft root ⟨C.L,K'⟩:=
 ⟨(hb.cell (a:=⟨b,0,P⟩) h.lb h.ne).trans h.c0,(hb.cell (a:=⟨b,1,P⟩) h.lb h.ne).trans h.c1,h.tb.keep hb fun k hk e=>h.nk (e▸hk),hk,h.nb,h.nk,h.ne,ok⟩
theorem stepT (h:Crk w b bt bk Ft root C) (ht:jQ w' bt 0 L' mY) (hb:But Ft w w') (hF:∀k,mY k->Ft k\/w.heap.size<=k):Crk w' b bt bk mY root ⟨L',C.K⟩:=by
 have hl:=h.lb;have bv:=h.wk.lb;exact⟨(hb.cell (a:=⟨b,0,P⟩) h.lb h.nb).trans h.c0,(hb.cell (a:=⟨b,1,P⟩) h.lb h.nb).trans h.c1,ht,h.wk.keep hb h.nk,fun hk=>(hF b hk).elim h.nb (fun h=>by omega),fun hk=>(hF bk hk).elim h.nk (fun h=>by omega),h.ne,h.ok⟩
theorem ylN {Ff:Nat->Prop} (h:Crk w b bt bk Ft root C) (hk:xi w' bk 0 root K') (ok:K'.Ok) (hb:But (fun j=>j=bk\/Ff j) w w') (Ho:∀j,crF b bk Ft j->¬Ff j):Crk w' b bt bk Ft root ⟨C.L,K'⟩:=by
 have n:¬(b=bk\/Ff b):=fun e=>e.elim h.ne (Ho b (.inl rfl));exact⟨(hb.cell (a:=⟨b,0,P⟩) h.lb n).trans h.c0,(hb.cell (a:=⟨b,1,P⟩) h.lb n).trans h.c1,h.tb.keep hb fun k hk e=>e.elim (fun e=>h.nk (e▸hk)) (Ho k (.inr (.inr hk))),hk,h.nb,h.nk,h.ne,ok⟩
end Crk
structure qr (w:ki) (b:Nat) (root:Int) (C:Pg.Cr) (F:Nat->Prop):Prop where
 ex:∃bt bk Ft,Crk w b bt bk Ft root C/\F=crF b bk Ft
section
variable {w w':ki} {b:Nat} {root:Int} {C:Pg.Cr} {F G:Nat->Prop}
theorem qr.lt (h:qr w b root C F) {k:Nat} (hk:F k):k<w.heap.size:=by
 obtain⟨bt,bk,Ft,h,rfl⟩:=h;exact h.lt hk
theorem qr.keep (h:qr w b root C F) (hb:But G w w') (hF:∀k,F k->¬G k):qr w' b root C F:=by
 obtain⟨bt,bk,Ft,h,rfl⟩:=h;exact⟨bt,bk,Ft,h.keep hb hF,rfl⟩
theorem qr.grow (h:qr w b root C F) (hb:Below w.heap.size w w'):qr w' b root C F:=h.keep (G:=fun _=>False) (But.yhp hb) (fun _ _=>id)
end
theorem yd3 {w:ki} {r:Nat} {v0 v1 v2:Value} {t:TypeId} (h:w.heap[r]?=Q (A #[v0,v1,v2] t (0,0))):
 (w.cell? ⟨r,0,P⟩=Q v0/\w.cell? ⟨r,1,P⟩=Q v1/\w.cell? ⟨r,2,P⟩=Q v2)/\∀i,w.frozen? ⟨r,i,P⟩=Y:=
 ⟨by simp[World.cell?,h],fun i=>by simp[World.frozen?,h]⟩
theorem qT {F:Nat->Prop} {w w1:ki} (h:But F w w1) (r:Nat) (hr:w.heap.size<=r\/F r) (x0 x1 x2:Value):But F w (((w1.setCell ⟨r,0,P⟩ x0).setCell ⟨r,1,P⟩ x1).setCell ⟨r,2,P⟩ x2):=
 ((h.setCell (a:=⟨r,0,P⟩) hr x0).setCell (a:=⟨r,1,P⟩) hr x1).setCell (a:=⟨r,2,P⟩) hr x2
theorem qi {w w1:ki} (h:Below w.heap.size w w1) (r:Nat) (hr:w.heap.size<=r) (x0 x1 x2:Value):Below w.heap.size w (((w1.setCell ⟨r,0,P⟩ x0).setCell ⟨r,1,P⟩ x1).setCell ⟨r,2,P⟩ x2):=
 ((h.setCell (p:=⟨r,0,P⟩) hr x0).setCell (p:=⟨r,1,P⟩) hr x1).setCell (p:=⟨r,2,P⟩) hr x2
theorem yes (root:Int) (w:ki):
 Calls kO 48 #[I J root] w fun e w'=>∃b F,e=z (U (Q ⟨b,0,P⟩))/\qr w' b root Pg.Cr.new F/\Below w.heap.size w w'/\∀k,F k->w.heap.size<=k:=by
 go_enter Tryz.func48,Tryz.ntmps48
 go_wp2_with fail
 refine(ye9 _).mono ?_;rintro e w1 ⟨bt,Ft,rfl,ht,Ha,hF⟩;have HT:Hid _:=ht;have H9:Hid _:=Ha;have HF:Hid _:=hF;clear ht Ha hF
 go_wp2_with fail
 refine(yfB root _).mono ?_;rintro e w2 ⟨bk,rfl,hk,Hd,gz⟩;have HK:Hid _:=hk;have Ht:Hid _:=Hd;have s1:=H9.out.size;have s2:=Hd.size;clear hk Hd
 go_wp2_with fail
 go_ret
 have He:=zA (zR w2) (A #[U (Q ⟨bt,0,P⟩),U (Q ⟨bk,0,P⟩)] 130);have dU:=HK.out.lb
 have n1:¬Ft w2.heap.size:=fun hj=>by have:=HT.out.lt hj;omega
 have n2:¬Ft bk:=fun hj=>by have:=HT.out.lt hj;omega
 refine⟨_,_,rfl,⟨bt,bk,Ft,⟨?_,?_,(HT.out.grow Ht.out).grow He,HK.out.grow He,n1,n2,by omega,Pg.Wk.yi5⟩,rfl⟩,zT (zT H9.out Ht.out) He,fun k hk=> ?_⟩
 ·simp[go_sem]
 ·simp[go_sem]
 ·rcases hk with rfl|rfl|hk
  ·omega
  ·omega
  ·exact HF.out k hk
section
variable {b:Nat} {root:Int} {C:Pg.Cr} {F:Nat->Prop}
theorem qx (w:ki) (h:qr w b root C F):
 Calls kO 63 #[U (Q ⟨b,0,P⟩)] w fun e w'=>e=z (B C.K.on)/\w'=w:=by
 obtain⟨bt,bk,Ft,h,rfl⟩:=h;have c1:=h.c1;have HO:=ygd w h.wk;clear h
 go_enter Tryz.func63,Tryz.ntmps63
 go_wp2_with fail
 refine HO.mono ?_;rintro e w1 ⟨rfl,hw⟩;subst w1
 go_wp2_with fail
 go_ret
 exact⟨rfl,rfl⟩
theorem ydB (m:Pg.Mp) (hm:Pg.fits m.p) (w:ki) (h:qr w b root C F):
 Calls kO 148 #[U (Q ⟨b,0,P⟩),m.val] w fun e w'=>e=z (y #[])/\∃F',qr w' b root (C.told root m) F'/\But F w w'/\∀k,F' k->F k\/w.heap.size<=k:=by
 obtain⟨bt,bk,Ft,h,rfl⟩:=h;obtain⟨W,hW⟩:∃W,W=w.alloc (A #[I J m.p,I J m.s,I J m.f,I J m.r] 39):=⟨_,rfl⟩
 have hB:Below w.heap.size w W:=by rw[hW];exact zA (zR _) _
 have k1:ybG W w.heap.size 0 m:=by rw[hW];exact⟨by simp[go_sem],by simp[go_sem],by simp[go_sem],by simp[go_sem]⟩
 have HW:Hid _:=h.grow hB;have HB:Hid _:=hB;have HD:=fun w' (ht:jQ w' bt 0 C.L Ft)=>yba m hm w' ht;obtain⟨x0,x1,x2,x3⟩:=k1;have g0:=cell_regrown x0;have g1:=cell_regrown x1;have g2:=cell_regrown x2;have g3:=cell_regrown x3;have g4:=cell_regrown HW.out.c0;simp only[Nat.zero_add]at g0 g1 g2 g3;clear h hB x0 x1 x2 x3;obtain⟨L,K⟩:=C;unfold Pg.Cr.told;simp only at HD ⊢;generalize Pg.yiq L m=L' at*;obtain⟨mp,ms,mf,mr⟩:=m;simp only[Pg.Mp.val]at hW g0 g1 g2 g3 HD ⊢
 go_enter Tryz.func148,Tryz.ntmps148
 go_wp2_with fail
 rw[<-hW];clear hW;refine Loose.yhr 5 (by kernel_rfl) (by kernel_rfl) ?_;simp only[List.take_succ_cons,List.take_zero,List.drop_succ_cons,List.drop_zero]
 repeat (
  refine Loose.zS (fun k hk=> ?_)
  go_simp
  (refine hk _ ?_;clear hk k))
 refine Loose.yhs ?_;intro w3 He;have H3:Hid _:=HW.out.grow He;have rE:Hid (Below w.heap.size w w3):=zT HB.out He;clear He g0 g1 g2 g3 g4 HW HB
 go_wp2_with fail
 refine(HD _ H3.out.tb).mono ?_;rintro e w4 ⟨rfl,mY,ht,hc,hF⟩;have H4:Hid _:=H3.out.stepT ht hc.but hF;have rM:Hid (But (crF b bk Ft) w w4):=(But.yhp rE.out).trans hc.but (fun _ _ h=> .inr (.inr h))
 have sQ:Hid (∀k,crF b bk mY k->crF b bk Ft k\/w.heap.size<=k):=fun k hk=>by
  have hs:=rE.out.size;rcases hk with hk|hk|hk
  ·exact .inl (.inl hk)
  ·exact .inl (.inr (.inl hk))
  ·exact(hF k hk).imp (fun h=> .inr (.inr h)) (fun h=>by omega)
 have c1:=H4.out.c1;clear ht hc hF HD H3 rE
 go_wp2_with fail
 refine(jY _ H4.out.wk).mono ?_;rintro e w5 ⟨rfl,bQ,NH⟩;have H5:Hid _:=H4.out.ykl bQ (H4.out.ok.again root) NH.but;have tu:Hid (But (crF b bk Ft) w w5):=rM.out.trans NH.but (fun _ _ h=> .inr (.inl h));clear bQ NH H4 rM c1
 go_wp2_with fail
 go_end0
 exact⟨rfl,_,⟨_,_,_,H5.out,rfl⟩,tu.out,sQ.out⟩
theorem jN (l:Pg.Ln) (q k:Int) (u:Bool) (w:ki):
 Calls kO 142 #[l.val,ks #[I J q,I J k,B u]] w fun e w'=>e=z (B (l.wants k u))/\Below w.heap.size w w':=by
 obtain⟨⟨mp,ms,mf,mr⟩,d⟩:=l;have HM:=fun w=>ybt mr q k u w;simp only[Pg.Ln.val,Pg.Ln.wants];cases hk:(k==1)
 ·go_enter Tryz.func142,Tryz.ntmps142
  go_wp2_with fail
  go_ret
  exact⟨rfl,zA (zA (zR w) _) _⟩
 ·cases d
  ·generalize Pg.may mr k u=x at*
   go_enter Tryz.func142,Tryz.ntmps142
   go_wp2_with fail
   refine(HM _).mono ?_;rintro e w1 ⟨rfl,Ha⟩;have HB:Hid (Below w.heap.size w w1):=zT (zA (zA (zR w) _) _) Ha;clear Ha
   go_wp2_with fail
   go_ret
   exact⟨rfl,HB.out⟩
  ·go_enter Tryz.func142,Tryz.ntmps142
   go_wp2_with fail
   go_ret
   exact⟨rfl,zA (zA (zR w) _) _⟩
end
end Go.Proofs.YtdphiompijbelaaGreat
namespace Go.Proofs.YtdphiompijbelaaGreat
open Go.RowKit Go.Sort
structure Dsd where
 bm:Nat
 FM:Nat->Prop
 gc:Nat
 cc:Nat
 cb:Nat->Nat
 cF:Nat->Nat->Prop
 bs:Nat
 ag:Option Addr
 cg:Nat
def Dsd.own (D:Dsd) (b n:Nat) (G:List Int):Nat->Nat->Prop
 | 0,x=>x=b
 | 1,x=>D.FM x
 | 2,x=>x=D.gc
 | 3,x=>x=D.bs
 | 4,x=>G≠[]/\D.ag=Q ⟨x,0,P⟩
 | k+5,x=>k<n/\D.cF k x
structure Dsk (w:ki) (b:Nat) (D:Dsd) (X:Pg.Spc):Prop where
 c0:w.cell? ⟨b,0,P⟩=Q (U (Q ⟨D.bm,0,P⟩))
 c1:w.cell? ⟨b,1,P⟩=Q (I J 0)
 c2:w.cell? ⟨b,2,P⟩=Q (kh (Q ⟨D.gc,0,P⟩) X.C.length D.cc)
 c3:w.cell? ⟨b,3,P⟩=Q (U (Q ⟨D.bs,0,P⟩))
 c4:w.cell? ⟨b,4,P⟩=Q (kh D.ag X.G.length D.cg)
 fb:∀p,w.frozen? ⟨b,p,P⟩=Y
 mem:zh w D.bm X.S D.FM
 row:∀k,k<X.C.length->w.cell? ⟨D.gc,k,P⟩=Q (U (Q ⟨D.cb k,0,P⟩))
 core:∀k,k<X.C.length->qr w (D.cb k) 0 (X.C.getD k Pg.Cr.new) (D.cF k)
 tl:jD w D.bs X.T (fun k=>X.W.getD k Y)
 gone:zx w D.ag X.G
 part:∀i j x,D.own b X.C.length X.G i x->D.own b X.C.length X.G j x->i=j
 len:X.W.length=X.C.length
 pos:1<=X.C.length
 le:X.C.length<=4
 told:Pg.fits X.T.p
 few:X.G.length<=4680
def dsF (D:Dsd) (b n:Nat) (G:List Int):Nat->Prop:=fun x=>∃i,D.own b n G i x
namespace Dsk
variable {w w':ki} {b:Nat} {D D':Dsd} {X:Pg.Spc}
theorem lb (h:Dsk w b D X):b<w.heap.size:=M _ _ h.c0
theorem lt (h:Dsk w b D X) {i x:Nat} (hx:D.own b X.C.length X.G i x):x<w.heap.size:=by
 match i with
 | 0=>have hx:x=b:=hx;rw[hx];exact h.lb
 | 1=>exact h.mem.lt hx
 | 2=>have hx:x=D.gc:=hx;rw[hx];exact M _ _ (h.row 0 h.pos)
 | 3=>have hx:x=D.bs:=hx;rw[hx];exact h.tl.lb
 | 4=>
   obtain⟨hG,ha⟩:=hx;have:0<X.G.length:=List.length_pos_iff.2 hG;obtain⟨g,e,hl,_⟩:=h.gone 0 this;rw[ha]at e;injection e with e;injection e with e;rw[e];exact hl
 | k+5=>exact(h.core k hx.1).lt hx.2
theorem others (h:Dsk w b D X) {F:Nat->Prop} (hb:But F w w'):
 ((∀x,D.own b X.C.length X.G 0 x->¬F x)->(∀p,w'.cell? ⟨b,p,P⟩=w.cell? ⟨b,p,P⟩)/\∀p,w'.frozen? ⟨b,p,P⟩=Y)/\
 ((∀x,D.own b X.C.length X.G 1 x->¬F x)->zh w' D.bm X.S D.FM)/\
 ((∀x,D.own b X.C.length X.G 2 x->¬F x)->∀k,k<X.C.length->w'.cell? ⟨D.gc,k,P⟩=Q (U (Q ⟨D.cb k,0,P⟩)))/\
 ((∀x,D.own b X.C.length X.G 3 x->¬F x)->jD w' D.bs X.T (fun k=>X.W.getD k Y))/\
 ((∀x,D.own b X.C.length X.G 4 x->¬F x)->zx w' D.ag X.G)/\
 (∀k,k<X.C.length->(∀x,D.own b X.C.length X.G (k+5) x->¬F x)->qr w' (D.cb k) 0 (X.C.getD k Pg.Cr.new) (D.cF k)):=by
 refine⟨fun hF=> ?_,fun hF=>h.mem.keep hb hF,fun hF k hk=> ?_,fun hF=>h.tl.keep hb (hF _ rfl),fun hF=> ?_,fun k hk hF=> ?_⟩
 ·have kb:=hb.block b h.lb (hF b rfl)
  exact⟨fun p=>H (a:=⟨b,p,P⟩) kb,fun p=>(World.frozen?_of_block (a:=⟨b,p,P⟩) kb).trans (h.fb p)⟩
 ·exact(hb.cell (a:=⟨D.gc,k,P⟩) (M _ _ (h.row k hk)) (hF _ rfl)).trans (h.row k hk)
 ·intro j hj
  obtain⟨g,e,hl,hc⟩:=h.gone j hj;refine⟨g,e,O hl hb.size,(hb.cell (a:=⟨g,j,P⟩) hl (hF g ⟨?_,e⟩)).trans hc⟩;intro e0;rw[e0]at hj;simp at hj
 ·exact(h.core k hk).keep hb fun x hx=>hF x ⟨hk,hx⟩
theorem keep (h:Dsk w b D X) {F:Nat->Prop} (hb:But F w w') (hF:∀x,dsF D b X.C.length X.G x->¬F x):Dsk w' b D X:=by
 obtain⟨o0,o1,o2,o3,o4,o5⟩:=h.others hb;have hF:∀i x,D.own b X.C.length X.G i x->¬F x:=fun i x hx=>hF x ⟨i,hx⟩;obtain⟨e0,f0⟩:=o0 (hF 0);exact⟨(e0 0).trans h.c0,(e0 1).trans h.c1,(e0 2).trans h.c2,(e0 3).trans h.c3,(e0 4).trans h.c4,f0,o1 (hF 1),o2 (hF 2),fun k hk=>o5 k hk (hF _),o3 (hF 3),o4 (hF 4),h.part,h.len,h.pos,h.le,h.told,h.few⟩
theorem grow (h:Dsk w b D X) (hb:Below w.heap.size w w'):Dsk w' b D X:=h.keep (F:=fun _=>False) (But.yhp hb) (fun _ _=>id)
theorem ykW (h:Dsk w b D X) {G':List Int} (ho:∀i x,D'.own b X.C.length G' i x->D.own b X.C.length X.G i x\/w.heap.size<=x) (hn:∀i j x,w.heap.size<=x->D'.own b X.C.length G' i x->D'.own b X.C.length G' j x->i=j):∀i j x,D'.own b X.C.length G' i x->D'.own b X.C.length G' j x->i=j:=by
 intro i j x hi hj;rcases ho i x hi with h1|h1
 ·rcases ho j x hj with h2|h2
  ·exact h.part i j x h1 h2
  ·have:=h.lt h1
   omega
 ·exact hn i j x h1 hi hj
theorem yi6 (h:Dsk w b D X) {l:Nat} {G':List Int} (ho:∀i,i≠l->∀x,D'.own b X.C.length G' i x->D.own b X.C.length X.G i x) (hl:∀x,D'.own b X.C.length G' l x->D.own b X.C.length X.G l x\/w.heap.size<=x):∀i j x,D'.own b X.C.length G' i x->D'.own b X.C.length G' j x->i=j:=by
 refine h.ykW (fun i x hx=> ?_) (fun i j x hx hi hj=> ?_)
 ·by_cases e:i=l
  ·subst e
   exact hl x hx
  ·exact .inl (ho i e x hx)
 ·have key:∀i,D'.own b X.C.length G' i x->i=l:=fun i hi=>by
   by_cases e:i=l
   ·exact e
   ·have:=h.lt (ho i e x hi)
    omega
  rw[key i hi,key j hj]
theorem frames {S':Pg.Fs} {FM':Nat->Prop} (h:Dsk w b D X) (hm:zh w' D.bm S' FM') (hb:But D.FM w w') (hF:∀x,FM' x->D.FM x\/w.heap.size<=x):Dsk w' b {D with FM:=FM'} {X with S:=S'}:=by
 obtain⟨o0,o1,o2,o3,o4,o5⟩:=h.others hb;have tX:∀i,i≠1->∀x,D.own b X.C.length X.G i x->¬D.FM x:=fun i hi x hx hm=>hi (h.part i 1 x hx hm);obtain⟨e0,f0⟩:=o0 (tX 0 (by decide));refine⟨(e0 0).trans h.c0,(e0 1).trans h.c1,(e0 2).trans h.c2,(e0 3).trans h.c3,(e0 4).trans h.c4,f0,hm,o2 (tX 2 (by decide)),fun k hk=>o5 k hk (tX _ (by omega)),o3 (tX 3 (by decide)),o4 (tX 4 (by decide)),h.yi6 (l:=1) (fun i hi x hx=> ?_) (fun x hx=>hF x hx),h.len,h.pos,h.le,h.told,h.few⟩
 match i with
 | 0=>exact hx
 | 1=>exact absurd rfl hi
 | 2=>exact hx
 | 3=>exact hx
 | 4=>exact hx
 | k+5=>exact hx
theorem walked {k:Nat} {C':Pg.Cr} {S':Pg.Fs} {Fc FM':Nat->Prop} (h:Dsk w b D X) (hk:k<X.C.length) (hC:qr w' (D.cb k) 0 C' Fc) (hm:zh w' D.bm S' FM') (hb:But (fun j=>D.cF k j\/D.FM j) w w') (hF:∀x,Fc x->D.cF k x\/w.heap.size<=x) (dA:∀x,FM' x->D.FM x\/w.heap.size<=x) (Ho:∀x,Fc x->¬FM' x):
 Dsk w' b {D with cF:=fun j=>if j=k then Fc else D.cF j,FM:=FM'} {X with S:=S',C:=X.C.set k C'}:=by
 obtain⟨o0,o1,o2,o3,o4,o5⟩:=h.others hb;have tX:∀i,i≠k+5->i≠1->∀x,D.own b X.C.length X.G i x->¬(D.cF k x\/D.FM x):=fun i hi h1 x hx hm=>hm.elim (fun hm=>hi (h.part i (k+5) x hx ⟨hk,hm⟩)) (fun hm=>h1 (h.part i 1 x hx hm));obtain⟨e0,f0⟩:=o0 (tX 0 (by omega) (by omega));have hl:(X.C.set k C').length=X.C.length:=List.length_set
 have old:∀i,i≠k+5->i≠1->∀x,({D with cF:=fun j=>if j=k then Fc else D.cF j,FM:=FM'}:Dsd).own b X.C.length X.G i x->D.own b X.C.length X.G i x:=fun i hi h1 x hx=>by
  match i with
  | 0=>exact hx
  | 1=>exact absurd rfl h1
  | 2=>exact hx
  | 3=>exact hx
  | 4=>exact hx
  | j+5=>
    obtain⟨a1,a2⟩:=hx;simp only at a2;rw[if_neg (by omega)]at a2;exact⟨a1,a2⟩
 have new:∀x,({D with cF:=fun j=>if j=k then Fc else D.cF j,FM:=FM'}:Dsd).own b X.C.length X.G (k+5) x->Fc x:=fun x hx=>by
  obtain⟨a1,a2⟩:=hx
  simpa only[if_true]using a2
 have nS:∀i j x,({D with cF:=fun j=>if j=k then Fc else D.cF j,FM:=FM'}:Dsd).own b X.C.length X.G i x->({D with cF:=fun j=>if j=k then Fc else D.cF j,FM:=FM'}:Dsd).own b X.C.length X.G j x->i=j:=by
  refine h.ykW (fun i x hx=> ?_) (fun i j x hx hi hj=> ?_)
  ·by_cases e:i=k+5
   ·subst e
    exact(hF x (new x hx)).imp (fun h=>⟨hk,h⟩) id
   ·by_cases e1:i=1
    ·subst e1
     exact dA x hx
    ·exact .inl (old i e e1 x hx)
  ·have key:∀i,({D with cF:=fun j=>if j=k then Fc else D.cF j,FM:=FM'}:Dsd).own b X.C.length X.G i x->i=k+5\/i=1:=fun i hi=>by
    by_cases e:i=k+5
    ·exact .inl e
    ·by_cases e1:i=1
     ·exact .inr e1
     ·have:=h.lt (old i e e1 x hi)
      omega
   rcases key i hi with rfl|rfl
   ·rcases key j hj with rfl|rfl
    ·rfl
    ·exact absurd hj (Ho x (new x hi))
   ·rcases key j hj with rfl|rfl
    ·exact absurd hi (Ho x (new x hj))
    ·rfl
 refine⟨(e0 0).trans h.c0,(e0 1).trans h.c1,?_,(e0 3).trans h.c3,(e0 4).trans h.c4,f0,hm,?_,?_,o3 (tX 3 (by omega) (by omega)),o4 (tX 4 (by omega) (by omega)),?_,?_,?_,?_,h.told,h.few⟩
 ·simp only[hl]
  exact(e0 2).trans h.c2
 ·simp only[hl]
  exact o2 (tX 2 (by omega) (by omega))
 ·simp only[hl]
  intro j hj
  show qr w' (D.cb j) 0 ((X.C.set k C').getD j Pg.Cr.new) (if j=k then Fc else D.cF j)
  by_cases e:j=k
  ·subst e
   rw[if_pos rfl,show(X.C.set j C').getD j Pg.Cr.new=C' by simp[List.getD,hk]];exact hC
  ·rw[if_neg e,show(X.C.set k C').getD j Pg.Cr.new=X.C.getD j Pg.Cr.new by simp[List.getD,List.getElem?_set_ne (fun h=>e h.symm)]]
   exact o5 j hj (tX _ (by omega) (by omega))
 ·simp only[hl]
  exact nS
 ·simp only[hl]
  exact h.len
 ·simp only[hl]
  exact h.pos
 ·simp only[hl]
  exact h.le
theorem asked {k:Nat} {C':Pg.Cr} {Fc:Nat->Prop} (h:Dsk w b D X) (hk:k<X.C.length) (hC:qr w' (D.cb k) 0 C' Fc) (hb:But (D.cF k) w w') (hF:∀x,Fc x->D.cF k x\/w.heap.size<=x):
 Dsk w' b {D with cF:=fun j=>if j=k then Fc else D.cF j} {X with C:=X.C.set k C'}:=by
 have hm:zh w' D.bm X.S D.FM:=(h.others hb).2.1 (fun x hx hm=>by have:=h.part 1 (k+5) x hx ⟨hk,hm⟩;omega);refine h.walked hk hC hm (hb.mono (fun _ _ h=> .inl h)) hF (fun x hx=> .inl hx) (fun x hx hm=> ?_);rcases hF x hx with h1|h1
 ·have:=h.part 1 (k+5) x hm ⟨hk,h1⟩
  omega
 ·have:=h.lt (i:=1) hm
  omega
theorem shot {T':Pg.Mp} {W':List Bool} (h:Dsk w b D X) (hs:jD w' D.bs T' (fun k=>W'.getD k Y)) (hb:But (fun j=>j=D.bs) w w') (hl:W'.length=X.C.length) (hf:Pg.fits T'.p):
 Dsk w' b D {X with T:=T',W:=W'}:=by
 obtain⟨o0,o1,o2,o3,o4,o5⟩:=h.others hb;have tX:∀i,i≠3->∀x,D.own b X.C.length X.G i x->¬x=D.bs:=fun i hi x hx hm=>hi (h.part i 3 x hx hm);obtain⟨e0,f0⟩:=o0 (tX 0 (by decide));exact⟨(e0 0).trans h.c0,(e0 1).trans h.c1,(e0 2).trans h.c2,(e0 3).trans h.c3,(e0 4).trans h.c4,f0,o1 (tX 1 (by decide)),o2 (tX 2 (by decide)),fun j hj=>o5 j hj (tX _ (by omega)),hs,o4 (tX 4 (by decide)),h.part,hl,h.pos,h.le,hf,h.few⟩
theorem goes {G:List Int} {ag:Option Addr} {cg:Nat} (h:Dsk w b D X) (hG:zx w ag G) (hn:∀g,ag=Q ⟨g,0,P⟩->¬dsF D b X.C.length [] g) (hg:G.length<=4680):
 Dsk (w.setCell ⟨b,4,P⟩ (kh ag G.length cg)) b {D with ag:=ag,cg:=cg} {X with G:=G}/\But (fun x=>x=b) w (w.setCell ⟨b,4,P⟩ (kh ag G.length cg)):=by
 have hb:But (fun x=>x=b) w (w.setCell ⟨b,4,P⟩ (kh ag G.length cg)):=(But.refl (fun x=>x=b) w).setCell (a:=⟨b,4,P⟩) (.inr rfl) _;obtain⟨o0,o1,o2,o3,o4,o5⟩:=h.others hb;have tX:∀i,i≠0->∀x,D.own b X.C.length X.G i x->¬x=b:=fun i hi x hx hm=>hi (h.part i 0 x hx hm);have k0:=h.c0;have k1:=h.c1;have k2:=h.c2;have k3:=h.c3;have k4:=h.c4;have kf:=h.fb;refine⟨⟨by simp[go_sem,k0],by simp[go_sem,k1],by simp[go_sem,k2],by simp[go_sem,k3],by simp[go_sem,k4],fun q=>by simp[go_sem,kf],o1 (tX 1 (by decide)),o2 (tX 2 (by decide)),fun j hj=>o5 j hj (tX _ (by omega)),o3 (tX 3 (by decide)),?_,?_,h.len,h.pos,h.le,h.told,hg⟩,hb⟩
 ·intro j hj
  obtain⟨g,e,hl,hc⟩:=hG j hj;exact⟨g,e,by simpa using hl,(hb.cell (a:=⟨g,j,P⟩) hl (fun e'=>hn g e ⟨0,e'⟩)).trans hc⟩
 ·have oth:∀i,i≠4->∀x,({D with ag:=ag,cg:=cg}:Dsd).own b X.C.length G i x->D.own b X.C.length X.G i x/\D.own b X.C.length [] i x:=fun i hi x hx=>by
   match i with
   | 0=>exact⟨hx,hx⟩
   | 1=>exact⟨hx,hx⟩
   | 2=>exact⟨hx,hx⟩
   | 3=>exact⟨hx,hx⟩
   | 4=>exact absurd rfl hi
   | k+5=>exact⟨hx,hx⟩
  intro i j x hi hj
  by_cases ei:i=4
  ·by_cases ej:j=4
   ·rw[ei,ej]
   ·subst ei
    exact absurd ⟨j,(oth j ej x hj).2⟩ (hn x hi.2)
  ·by_cases ej:j=4
   ·subst ej
    exact absurd ⟨i,(oth i ei x hi).2⟩ (hn x hj.2)
   ·exact h.part i j x (oth i ei x hi).1 (oth j ej x hj).1
end Dsk
theorem ycI {D D':Dsd} {b n N:Nat} {G G':List Int} (ho:∀i x,D'.own b n G' i x->D.own b n G i x\/N<=x):∀x,dsF D' b n G' x->dsF D b n G x\/N<=x:=by
 rintro x ⟨i,hx⟩;exact(ho i x hx).imp (fun h=>⟨_,h⟩) id
theorem qy {D:Dsd} {b n N:Nat} {G:List Int} {FM':Nat->Prop} (hF:∀x,FM' x->D.FM x\/N<=x):∀x,dsF {D with FM:=FM'} b n G x->dsF D b n G x\/N<=x:=by
 refine ycI fun i x hx=> ?_
 match i with
 | 0=>exact .inl hx
 | 1=>exact hF x hx
 | 2=>exact .inl hx
 | 3=>exact .inl hx
 | 4=>exact .inl hx
 | k+5=>exact .inl hx
theorem yaQ {D:Dsd} {b n N k:Nat} {G:List Int} {Fc FM':Nat->Prop} (hk:k<n) (hF:∀x,Fc x->D.cF k x\/N<=x) (dA:∀x,FM' x->D.FM x\/N<=x):∀x,dsF {D with cF:=fun j=>if j=k then Fc else D.cF j,FM:=FM'} b n G x->dsF D b n G x\/N<=x:=by
 refine ycI fun i x hx=> ?_
 match i with
 | 0=>exact .inl hx
 | 1=>exact dA x hx
 | 2=>exact .inl hx
 | 3=>exact .inl hx
 | 4=>exact .inl hx
 | j+5=>
   obtain⟨a1,a2⟩:=hx;simp only at a2
   by_cases e:j=k
   ·subst e
    rw[if_pos rfl]at a2;exact(hF x a2).imp (fun h=>⟨hk,h⟩) id
   ·rw[if_neg e]at a2
    exact .inl ⟨a1,a2⟩
theorem ybQ {D:Dsd} {b n N k:Nat} {G:List Int} {Fc:Nat->Prop} (hk:k<n) (hF:∀x,Fc x->D.cF k x\/N<=x):∀x,dsF {D with cF:=fun j=>if j=k then Fc else D.cF j} b n G x->dsF D b n G x\/N<=x:=yaQ (FM':=D.FM) hk hF (fun x hx=> .inl hx)
theorem yfr {D:Dsd} {b n N:Nat} {G G':List Int} {ag:Option Addr} {cg:Nat} (hF:∀x,ag=Q ⟨x,0,P⟩->G'≠[]->N<=x):∀x,dsF {D with ag:=ag,cg:=cg} b n G' x->dsF D b n G x\/N<=x:=by
 refine ycI fun i x hx=> ?_
 match i with
 | 0=>exact .inl hx
 | 1=>exact .inl hx
 | 2=>exact .inl hx
 | 3=>exact .inl hx
 | 4=>exact .inr (hF x hx.2 hx.1)
 | k+5=>exact .inl hx
structure yam (w:ki) (b:Nat) (X:Pg.Spc) (F:Nat->Prop):Prop where
 ex:∃D,Dsk w b D X/\F=dsF D b X.C.length X.G
section
variable {w w':ki} {b:Nat} {X:Pg.Spc} {F G:Nat->Prop}
theorem yam.lt (h:yam w b X F) {k:Nat} (hk:F k):k<w.heap.size:=by
 obtain⟨D,h,rfl⟩:=h;obtain⟨i,hi⟩:=hk;exact h.lt hi
theorem yam.keep (h:yam w b X F) (hb:But G w w') (hF:∀k,F k->¬G k):yam w' b X F:=by
 obtain⟨D,h,rfl⟩:=h;exact⟨D,h.keep hb hF,rfl⟩
end
theorem Pg.yki {W:List Bool} (h:W.length<=4):Pg.yjW (fun k=>W.getD k Y)= !(W.any id):=by
 match W,h with
 | [],_=>rfl
 | [a],_=>cases a<;>rfl
 | [a,b],_=>cases a<;>cases b<;>rfl
 | [a,b,c],_=>cases a<;>cases b<;>cases c<;>rfl
 | [a,b,c,d],_=>cases a<;>cases b<;>cases c<;>cases d<;>rfl
 | a::b::c::d::e::l,h=>simp at h
theorem Pg.ack_waits' {W:List Bool} {k:Nat} (hk:k<W.length):Pg.yly k (fun j=>W.getD j Y)=fun j=>(W.set k Y).getD j Y:=by
 funext j
 unfold Pg.yly;rw[Pg.yiQ hk]
theorem Pg.post_waits {W:List Bool}:Pg.yji W.length (fun j=>W.getD j Y)=fun j=>(W.map fun _=>V).getD j Y:=by
 funext j
 unfold Pg.yji
 by_cases h:j<W.length
 ·rw[Pg.yjl W j h]
  simp[h]
 ·simp[List.getD,h]
end Go.Proofs.YtdphiompijbelaaGreat
