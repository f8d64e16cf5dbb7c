import Derived.Test.YtkhnelgommaioaaGreatTabD
import Derived.BigRegion
namespace Go.Proofs.YtkhnelgommaioaaGreat
open Go.RowKit Go.Sort
set_option linter.unusedVariables false
set_option linter.unusedSimpArgs false
set_option maxRecDepth 100000
theorem emptyT_at {S:Pg.Fs} {t:Int} (ht:S.has t=true):(Pg.emptyT S t=true ↔ ∀j:Nat,j<8->S.load t (j:Int)=0):=by
 unfold Pg.emptyT
 simp only[List.all_eq_true,List.mem_range,beq_iff_eq]
 refine forall_congr' fun j=>forall_congr' fun hj=> ?_
 have:S.at' t (j:Int)=true:=by simp[Pg.Fs.at',ht];omega
 simp[Pg.Fs.load,this]
set_option maxHeartbeats 1000000 in
theorem isTableEmpty_any {w0 w:World} {k b:Nat} {F0:Nat->Prop} {S:Pg.Fs} {lv:Int} {e:Pg.En} {ts ps:List Int} {p t:Int} (h:St w0 w k b F0 S lv e (ts++[t]) ps p) (hl:ts.length<4000) (ht:S.has t=true):
 Calls Tryz.prog 137 #[.pointer (some ⟨k,0,none⟩)] w fun en w'=>en= .returned (.bool (Pg.emptyT S t))/\Below w.heap.size w w':=by
 have HS:Hid _:=h
 have HE:Hid _:=emptyT_at ht
 have hlen:(ts++[t]).length=ts.length+1:=by simp
 clear h ht
 generalize Pg.emptyT S t=em at*
 go_enter Tryz.func137,Tryz.ntmps137
 go_wp2_with fail
 go_loopw [6] (fun i wr=>∃j:Nat,j<=8/\i= .int .i64 j/\Hid (Below w.heap.size w wr/\∀m:Nat,m<j->S.load t (m:Int)=0)) (fun i _=>8-(intOf i).toNat)
 case atStart=>exact⟨0,by omega,rfl,zR _,fun m hm=>by omega⟩
 case round=>
  obtain⟨j,hj,rfl,HR⟩:=hrel
  have i0:(0:Int)<=(j:Int):=by omega
  have hS:=HS.out.grow HR.out.1
  obtain⟨B,v1,v2,F,hM,hF,hB,h1,h2,hBB,hm⟩:=hS.body
  obtain⟨g1,cap1,rfl,hc,_⟩:=own_last hM.o1
  have k0:=hM.c0
  have k8:=hM.c8
  have HEnd:=fun m=>end_any (hS.grow (below_drewN (zR wr) m)) (by rw[hlen];omega)
  have e1:(((ts++[t]).length:Nat):Int)-1=(ts.length:Int):=by rw[hlen];omega
  rw[e1]at HEnd
  have HLo:=fun m=>frLoad_same t (j:Int) (wr.drewN m) (hF.keep (G:=fun _=>False) (But.of_below (below_drewN (zR wr) m)) fun _ _=>id)
  clear hM hB h1 h2 hS hF e1 hBB hm
  have i2:(0:Int)<=(ts.length:Int):=by omega
  have i3:(ts.length:Int)<(ts.length:Int)+1:=by omega
  have HX:Hid (S.load t (j:Int)=0->∀m:Nat,m<j+1->S.load t (m:Int)=0):=fun hz m hm=>by
   by_cases e:m=j
   ·rw[e];exact hz
   ·exact HR.out.2 m (by omega)
  by_cases hlt:j<8
  ·have i1:(j:Int)<8:=by omega
   have HJ:Hid _:=hlt
   have fin:Hid (∀nq,Below w.heap.size w (wr.drewN nq)):=fun nq=>zT HR.out.1 (below_drewN (zR _) nq)
   generalize hx:S.load t (j:Int)=x at*
   have HXX:Hid _:=hx
   clear hx
   generalize S.at' t (j:Int)=at' at*
   generalize ts.length=n at*
   by_cases hz:x=0
   ·have HZ:Hid _:=HX.out hz
    have hzb:(x !=0)=false:=by simp[hz]
    clear hz HX
    go_wp2_with fail
    go_quiet (first
     | (go_at_call 171;exact Calls.quiet_of_same (HEnd _))
     | (go_at_call 172;exact Calls.quiet_of_same (HLo _)))
    go_wp2_with fail
    exact⟨⟨j+1,by omega,by go_num,fin.out _,HZ.out⟩,by simp[intOf];omega⟩
   ·have HZ:Hid _:=hz
    have hzb:(x !=0)=true:=by simp[hz]
    clear hz HX
    go_wp2_with fail
    go_quiet (first
     | (go_at_call 171;exact Calls.quiet_of_same (HEnd _))
     | (go_at_call 172;exact Calls.quiet_of_same (HLo _)))
    go_wp2_with fail
    go_ret
    refine⟨ret_bool ?_,fin.out _⟩
    cases em
    ·rfl
    ·exact absurd (HXX.out▸(HE.out.1 rfl j HJ.out)) HZ.out
  ·have i1:¬(j:Int)<8:=by omega
   have e8:j=8:=by omega
   subst e8
   clear HEnd HLo k0 k8
   go_wp2_with fail
   go_ret
   exact⟨ret_bool (HE.out.2 fun m hm=>HR.out.2 m hm).symm,HR.out.1⟩
theorem ints_push (ts:List Int) (t:Int):ints (ts++[t])=ints ts++[.int .i64 t]:=by simp[ints]
theorem Mk.pop {w:World} {B k b:Nat} {lv:Int} {e:Pg.En} {g1 g2 n c1 c2:Nat} {T P:List Int} {p t q:Int} (h:Mk w B k b lv e (.slice (some ⟨g1,0,none⟩) (n+1) c1) (.slice (some ⟨g2,0,none⟩) (n+1) c2) (T++[t]) (P++[q]) p) (hT:T.length=n) (hP:P.length=n):
 Mk ((w.setCell ⟨k,8,none⟩ (.slice (some ⟨g1,0,none⟩) n c1)).setCell ⟨k,9,none⟩ (.slice (some ⟨g2,0,none⟩) n c2)) B k b lv e (.slice (some ⟨g1,0,none⟩) n c1) (.slice (some ⟨g2,0,none⟩) n c2) T P p:=by
 have hb:But (fun j=>j=k) w ((w.setCell ⟨k,8,none⟩ (.slice (some ⟨g1,0,none⟩) n c1)).setCell ⟨k,9,none⟩ (.slice (some ⟨g2,0,none⟩) n c2)):=
  ((But.refl (fun j=>j=k) w).setCell (a:=⟨k,8,none⟩) (.inr rfl) _).setCell (a:=⟨k,9,none⟩) (.inr rfl) _
 have o1:=h.o1
 have o2:=h.o2
 rw[List.length_append,List.length_singleton,hT,ints_push]at o1
 rw[List.length_append,List.length_singleton,hP,ints_push]at o2
 have p1:w.ownsRow B 3 1 (.slice (some ⟨g1,0,none⟩) n c1) n (ints T):=ownsRow_pop (by simp[ints,hT]) o1
 have p2:w.ownsRow B 3 1 (.slice (some ⟨g2,0,none⟩) n c2) n (ints P):=ownsRow_pop (by simp[ints,hP]) o2
 have n1:(Value.slice (some ⟨g1,0,none⟩) n c1).ownBlock≠some k:=h.n1
 have n2:(Value.slice (some ⟨g2,0,none⟩) n c2).ownBlock≠some k:=h.n2
 refine⟨?_,?_,?_,?_,?_,?_,?_,?_,?_,?_,?_,fun o=> ?_,?_,?_,h.ne,n1,n2,h.hi⟩
 iterate 12 (focus (simp[go_sem,h.c0,h.c1,h.c2,h.c3,h.c4,h.c5,h.c6,h.c7,h.c8,h.c9,h.c10,h.fz]))
 ·rw[hT]
  exact ownsMaps_but p1 hb fun j hj e=>n1 (e▸hj)
 ·rw[hP]
  exact ownsMaps_but p2 hb fun j hj e=>n2 (e▸hj)
theorem enc_none (lv:Int):Pg.enc false false 0 false false 0 lv=0:=by
 unfold Pg.enc
 split
 ·simp[Pg.eWord]
 ·rfl
set_option maxHeartbeats 2000000 in
theorem cut_any {w0 w:World} {k b:Nat} {F0:Nat->Prop} {S:Pg.Fs} {lv:Int} {e:Pg.En} {ts ps:List Int} {p t q t' q':Int} (h:St w0 w k b F0 S lv e (ts++[t']++[t]) (ps++[q']++[q]) p) (hlen:ts.length=ps.length) (hl:ts.length<4000) (hv0:0<=lv) (hv1:lv<100):
 Calls Tryz.prog 138 #[.pointer (some ⟨k,0,none⟩)] w fun en w'=>en= .returned (.int .i64 t)/\St w0 w' k b F0 (S.store t' q' 0) (lv+1) Pg.En.zero (ts++[t']) (ps++[q']) p:=by
 have hT:(ts++[t']).length=ts.length+1:=by simp
 have hP:(ps++[q']).length=ts.length+1:=by simp[hlen]
 have HP:∀w1 e1,St w0 w1 k b F0 S (lv+1) e1 (ts++[t']) (ps++[q']) p->Calls Tryz.prog 135 #[.pointer (some ⟨k,0,none⟩),.agg #[.bool false,.bool false,.int .i64 0,.bool false,.bool false,.int .i64 0]] w1 fun en w'=>en= .returned (.tuple #[])/\St w0 w' k b F0 (S.store t' q' 0) (lv+1) Pg.En.zero (ts++[t']) (ps++[q']) p:=fun w1 e1 h1=>by
  have:=put_any Pg.En.zero h1 hlen (by omega)
  simp only[Pg.En.zero,Pg.En.val,enc_none]at this
  exact this
 have HEnd:=end_any h (by rw[List.length_append,List.length_singleton,hT];omega)
 have e1:(((ts++[t']++[t]).length:Nat):Int)-1=((ts.length+1:Nat):Int):=by rw[List.length_append,List.length_singleton,hT];omega
 rw[e1]at HEnd
 obtain⟨B,v1,v2,F,hM,hF,hB,h1,h2,hBB,hm⟩:=h.body
 obtain⟨g1,cap1,rfl,hc1,hcap1⟩:=own_last hM.o1
 obtain⟨g2,cap2,rfl,hc2,hcap2⟩:=own_last hM.o2
 rw[hT]at hc1 hcap1
 rw[hP]at hc2 hcap2
 have hM2:Mk w B k b lv e (.slice (some ⟨g1,0,none⟩) (ts.length+1+1) cap1) (.slice (some ⟨g2,0,none⟩) (ts.length+1+1) cap2) (ts++[t']++[t]) (ps++[q']++[q]) p:=by have:=hM;rw[hT,hP]at this;exact this
 have h2':∀j,F j->¬mkF k (.slice (some ⟨g1,0,none⟩) (ts.length+1+1) cap1) (.slice (some ⟨g2,0,none⟩) (ts.length+1+1) cap2) j:=by have:=h2;rw[hT,hP]at this;exact this
 have k1:=hM2.c1
 have k8:=hM2.c8
 have k9:=hM2.c9
 have kf:=hM2.fz
 have HM:Hid _:=hM2
 have HF:Hid (FrAt w b S F):=hF
 have HBt:Hid _:=hB
 have H1:Hid _:=h1
 have H2:Hid _:=h2'
 have hm':∀j,mkF k (.slice (some ⟨g1,0,none⟩) (ts.length+1+1) cap1) (.slice (some ⟨g2,0,none⟩) (ts.length+1+1) cap2) j->F0 j\/w0.heap.size<=j:=by have:=hm;rw[hT,hP]at this;exact this
 have Hm:Hid _:=hm'
 have HBB:Hid _:=hBB
 clear hM hF hB h1 h2 h hM2 h2' e1 hlen hm hm' hBB
 generalize ts++[t']=T at*
 generalize ps++[q']=P at*
 generalize S.store t' q' 0=S' at*
 generalize ts.length=m at*
 have i0:(0:Int)<=((m+1:Nat):Int):=by omega
 have i1:((m+1:Nat):Int)<((m+1+1:Nat):Int):=by omega
 have i2:((m+1:Nat):Int)<=(cap1:Int):=by omega
 have i3:((m+1:Nat):Int)<=(cap2:Int):=by omega
 generalize hn:m+1=n at*
 have HN:Hid _:=hn
 clear hn
 go_enter Tryz.func138,Tryz.ntmps138
 go_wp2_with fail
 refine HEnd.mono ?_
 rintro en w1 ⟨rfl,rfl⟩
 go_wp2_with fail
 go_region
 have M2:Hid _:=(HM.out.setLv (lv+1)).pop hT hP
 have bt:Hid (But (fun j=>j=k) w1 (((w1.setCell ⟨k,1,none⟩ (.int .i64 (lv+1))).setCell ⟨k,8,none⟩ (.slice (some ⟨g1,0,none⟩) n cap1)).setCell ⟨k,9,none⟩ (.slice (some ⟨g2,0,none⟩) n cap2))):=
  (((But.refl (fun j=>j=k) w1).setCell (a:=⟨k,1,none⟩) (.inr rfl) _).setCell (a:=⟨k,8,none⟩) (.inr rfl) _).setCell (a:=⟨k,9,none⟩) (.inr rfl) _
 have S2:Hid (St w0 (((w1.setCell ⟨k,1,none⟩ (.int .i64 (lv+1))).setCell ⟨k,8,none⟩ (.slice (some ⟨g1,0,none⟩) n cap1)).setCell ⟨k,9,none⟩ (.slice (some ⟨g2,0,none⟩) n cap2)) k b F0 S (lv+1) e T P p):=
  St.step HM.out HF.out HBt.out H1.out H2.out HBB.out Hm.out M2.out bt.out (fun j hj=> .inl hj) (fun j hj=> .inl hj)
 have S3:Hid (St w0 ((((w1.setCell ⟨k,1,none⟩ (.int .i64 (lv+1))).setCell ⟨k,8,none⟩ (.slice (some ⟨g1,0,none⟩) n cap1)).setCell ⟨k,9,none⟩ (.slice (some ⟨g2,0,none⟩) n cap2)).drew) k b F0 S (lv+1) e T P p):=S2.out.grow (zR _).drew
 have HP3:=HP _ e S3.out
 have HP3b:=HP _ e S2.out
 clear HP HEnd k1 k8 k9 kf hc1 hc2
 go_wp2_with fail
 first
  | refine HP3.mono ?_
  | refine HP3b.mono ?_
 rintro en w2 ⟨rfl,hS⟩
 have HS:Hid _:=hS
 clear hS HP3 HP3b
 go_wp2_with fail
 go_ret
 exact⟨rfl,HS.out⟩
end Go.Proofs.YtkhnelgommaioaaGreat
