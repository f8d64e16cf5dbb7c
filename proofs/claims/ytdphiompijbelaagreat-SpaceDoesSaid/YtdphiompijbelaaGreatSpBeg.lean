import Derived.Test.YtdphiompijbelaaGreatDvL
set_option linter.all false
set_option maxRecDepth 100000
open Go renaming World->T,bodyPost_ret->Q,heap_alloc_new->U,Calls->K
open Go.RowKit renaming Hid->Y
open Nat renaming le_refl->N,lt_of_lt_of_le->V
open Go.Ending renaming returned->R
open Go.Proofs.Tryz renaming prog->P
open Bool renaming false->B,true->Z
open Go.IntKind renaming i64->J
open Go.Value renaming int->I,bool->C,agg->O,pointer->M
set_option maxHeartbeats 2000000
namespace Go.Proofs.YtdphiompijbelaaGreat
open Go.RowKit Go.Sort
theorem qY (co n:Int) (w:T):K P 10 #[I J co,I J n] w fun e w'=>e=R (if co<1\/4<co\/n<1\/128<n then O #[I J 1,I J (-1)]else O #[I J 0,I J 0])/\Below w.heap.size w w':=by
 have hF:∀w:T,K P 49 #[I J 1,I J (-1)] w fun e w'=>e=R (O #[I J 1,I J (-1)])/\Below w.heap.size w w':=fun w=>by
  go_enter Tryz.func49,Tryz.ntmps49
  go_wp2_with fail
  refine Q (v:=O #[I J 1,I J (-1)]) ?_ rfl ⟨rfl,?_⟩
  ·simp[results,Tryz.results49,go_sem]
  ·exact zA (zR w) _
 obtain⟨W,hW⟩:∃W,W=w.alloc (.cells #[I J 0,I J 0] 27):=⟨_,rfl⟩
 have hB:Below w.heap.size w W:=by rw[hW];exact zA (zR _) _
 have RZ:Y (W.heap[w.heap.size]?=some (.cells #[I J 0,I J 0] 27 (0,0))):=by rw[Y,hW];exact U _ _
 have hWs:w.heap.size<W.heap.size:=by rw[hW];simp
 have HB:Y _:=hB;clear hB
 by_cases hbad:co<1\/4<co\/n<1\/128<n
 ·rw[if_pos hbad]
  have hcase:(decide (co<1)=Z)\/(decide (co<1)=B/\decide (4<co)=Z)\/(decide (co<1)=B/\decide (4<co)=B/\decide (n<1)=Z)\/(decide (co<1)=B/\decide (4<co)=B/\decide (n<1)=B/\decide (128<n)=Z):=by
   simp only[decide_eq_true_eq,decide_eq_false_iff_not];omega
  clear hbad;rcases hcase with h1|⟨h1,h2⟩|⟨h1,h2,h3⟩|⟨h1,h2,h3,h4⟩
  all_goals
   go_enter Tryz.func10,Tryz.ntmps10
   go_upto_region 1 with fail
   rw[<-hW];clear hW
   go_wp2_with fail
   refine(hF _).mono ?_;rintro e w1 ⟨rfl,hb1⟩;obtain⟨⟨z0,z1⟩,zf⟩:=vT ((hb1.block _ hWs).trans RZ.out);have hs1:w.heap.size<w1.heap.size:=V hWs hb1.size;have HB1:Y _:=zT HB.out hb1;clear hb1
   go_wp2_with fail
   refine Q (v:=O #[I J 1,I J (-1)]) ?_ rfl ⟨rfl,?_⟩
   ·simp[results,Tryz.results10,go_sem,z0,z1,hs1]
   ·exact(HB1.out.setCell (p:=⟨w.heap.size,0,none⟩) (N _) _).setCell (p:=⟨w.heap.size,1,none⟩) (N _) _
 ·rw[if_neg hbad]
  have h1:decide (co<1)=B:=by simp;omega
  have h2:decide (4<co)=B:=by simp;omega
  have h3:decide (n<1)=B:=by simp;omega
  have h4:decide (128<n)=B:=by simp;omega
  clear hbad;obtain⟨⟨z0,z1⟩,zf⟩:=vT RZ.out
  go_enter Tryz.func10,Tryz.ntmps10
  go_upto_region 1 with fail
  rw[<-hW];clear hW
  go_wp2_with fail
  refine Q (v:=O #[I J 0,I J 0]) ?_ rfl ⟨rfl,?_⟩
  ·simp[results,Tryz.results10,go_sem,z0,z1,hWs]
  ·exact(HB.out.setCell (p:=⟨w.heap.size,0,none⟩) (N _) _).setCell (p:=⟨w.heap.size,1,none⟩) (N _) _
structure yen (w0 w:T) (b:Nat) (X:Pg.Spc) (F:Nat->Prop):Prop where
 at':jz w b X F
 bel:Below w0.heap.size w0 w
 hi:∀k,F k->w0.heap.size<=k
theorem yen.grow {w0 w w':T} {b X F} (h:yen w0 w b X F) (hb:Below w.heap.size w w'):yen w0 w' b X F:=⟨h.at'.grow hb,zT h.bel hb,h.hi⟩
theorem yen.step {w0 w w':T} {b X X' F F'} (h:yen w0 w b X F) (h':jz w' b X' F') (hb:But F w w') (hF:∀k,F' k->F k\/w.heap.size<=k):yen w0 w' b X' F':=
 ⟨h',h.bel.trans (hb.below h.bel.size h.hi),fun k hk=>(hF k hk).elim (h.hi k) (fun h1=>Nat.le_trans h.bel.size h1)⟩
theorem vh (w:T) {b X F} (h:jz w b X F):K P 21 #[M (some ⟨b,0,none⟩)] w fun e w'=>e=R (I J X.S.free)/\Below w.heap.size w w':=by
 obtain⟨D,h,rfl⟩:=h;exact yah w h
theorem ydw (w:T) {b X F} (h:jz w b X F):K P 17 #[M (some ⟨b,0,none⟩)] w fun e w'=>∃ad cap,e=R (.slice ad X.maps.length cap)/\xx w' ad X.maps/\Below w.heap.size w w'/\∀g,ad=some ⟨g,0,none⟩->w.heap.size<=g:=by
 obtain⟨D,h,rfl⟩:=h;exact yaj w h
theorem qy (w:T):K P 7 #[] w fun e w'=>e=R (C Z)/\Below w.heap.size w w':=by
 have HN:=ybc 1 4 w (by decide) (by decide) (by decide) (by decide);simp only[show((1:Nat):Int)=1 from rfl,show((4:Nat):Int)=4 from rfl]at HN
 have hfd:∀w:T,(Instr.field 36 (O #[I J 0,C B,I J 0,I J 0,I J 0,C Z]) 3).run P w= .ok (C Z) w:=fun _=>by kernel_rfl
 go_enter Tryz.func7,Tryz.ntmps7
 go_wp2_with fail
 refine HN.mono ?_;rintro e w1 ⟨b,F,rfl,h1,hb1,hF1⟩;have q1:=fun w' (h:jz w' b (Pg.Spc.new 1 4) F)=>vh w' h;have q2:=fun w' (h:jz w' b (Pg.Spc.new 1 4) F)=>j6 Pg.bg1 w' h;have q3:=fun w' F' (h:jz w' b ((Pg.Spc.new 1 4).goN Pg.bg1) F')=>vh w' h;have q4:=fun w' F' (h:jz w' b ((Pg.Spc.new 1 4).goN Pg.bg1) F')=>j6 Pg.bg2 w' h;have q5:=fun w' F' (h:jz w' b (((Pg.Spc.new 1 4).goN Pg.bg1).goN Pg.bg2) F')=>j6 Pg.bg3 w' h;have q6:=fun w' F' (h:jz w' b ((((Pg.Spc.new 1 4).goN Pg.bg1).goN Pg.bg2).goN Pg.bg3) F')=>vh w' h;have q7:=fun w' F' (h:jz w' b ((((Pg.Spc.new 1 4).goN Pg.bg1).goN Pg.bg2).goN Pg.bg3) F')=>ydw w' h;rw[show(Pg.Spc.new 1 4).S.free=3 from Pg.bg_free]at q1;rw[show(Pg.Spc.new 1 4).goE Pg.bg1=_ from Pg.bg_map]at q2;rw[show((Pg.Spc.new 1 4).goN Pg.bg1).S.free=0 from Pg.bg_none]at q3;rw[show((Pg.Spc.new 1 4).goN Pg.bg1).goE Pg.bg2=_ from Pg.bg_un]at q4;rw[show(((Pg.Spc.new 1 4).goN Pg.bg1).goN Pg.bg2).goE Pg.bg3=_ from Pg.bg_ack]at q5;rw[show((((Pg.Spc.new 1 4).goN Pg.bg1).goN Pg.bg2).goN Pg.bg3).S.free=3 from Pg.bg_back]at q6;rw[show((((Pg.Spc.new 1 4).goN Pg.bg1).goN Pg.bg2).goN Pg.bg3).maps=[]from Pg.bg_maps]at q7;generalize (((Pg.Spc.new 1 4).goN Pg.bg1).goN Pg.bg2).goN Pg.bg3=X4 at*;generalize ((Pg.Spc.new 1 4).goN Pg.bg1).goN Pg.bg2=X3 at*;generalize (Pg.Spc.new 1 4).goN Pg.bg1=X2 at*;generalize Pg.Spc.new 1 4=X1 at*;simp only[Pg.Sx.val,Pg.bg1,Pg.bg2,Pg.bg3,Pg.Ev.val,Pg.Ev.code,List.length_nil]at q2 q4 q5 q7;clear HN;have S1:Y (yen w w1 b X1 F):=⟨h1,hb1,hF1⟩;clear h1 hb1 hF1;obtain⟨W2,hW2⟩:∃W2,W2=w1.alloc (.cells #[I J 0,I J 0] 27):=⟨_,rfl⟩
 have hb2:Below w1.heap.size w1 W2:=by rw[hW2];exact zA (zR _) _
 have S2:Y _:=S1.out.grow hb2
 have y0:W2.cell? ⟨w1.heap.size,0,none⟩=some (I J 0):=by rw[hW2];simp[go_sem]
 go_upto_region 2 with fail
 rw[<-hW2];clear hW2 S1
 go_wp2_with fail
 refine(q1 _ S2.out.at').mono ?_;rintro e w3 ⟨rfl,hb3⟩;have S3:Y _:=S2.out.grow hb3;clear hb3 S2 q1
 go_wp2_with fail
 refine(q2 _ S3.out.at').mono ?_;rintro e w4 ⟨rfl,F4,h4,hb4,hF4⟩;have S4:Y _:=S3.out.step h4 hb4 hF4;clear h4 hb4 hF4 S3 q2
 go_wp2_with fail
 refine(q3 _ _ S4.out.at').mono ?_;rintro e w5 ⟨rfl,hb5⟩;have S5:Y _:=S4.out.grow hb5;clear hb5 S4 q3
 go_wp2_with fail
 refine(q4 _ _ S5.out.at').mono ?_;rintro e w6 ⟨rfl,F6,h6,hb6,hF6⟩;have S6:Y _:=S5.out.step h6 hb6 hF6;clear h6 hb6 hF6 S5 q4;obtain⟨W7,hW7⟩:∃W7,W7=w6.alloc (.cells #[I J 0,C B,I J 0,I J 0,I J 0,C B] 36):=⟨_,rfl⟩
 have hb7:Below w6.heap.size w6 W7:=by rw[hW7];exact zA (zR _) _
 have S7:Y _:=S6.out.grow hb7
 have E7:Y (W7.heap[w6.heap.size]?=some (.cells #[I J 0,C B,I J 0,I J 0,I J 0,C B] 36 (0,0))):=by rw[Y,hW7];exact U _ _
 have hs7:w6.heap.size<W7.heap.size:=by rw[hW7];simp
 have N7:Y (¬F6 w6.heap.size):=fun e=>by have:=S6.out.at'.lt e;omega
 go_upto_region 5 with fail
 rw[<-hW7];clear hW7 S6
 go_wp2_with fail
 refine(q5 _ _ S7.out.at').mono ?_;rintro e w8 ⟨rfl,F8,h8,hb8,hF8⟩;have S8:Y _:=S7.out.step h8 hb8 hF8;have E8:Y (w8.heap[w6.heap.size]?=_):=(hb8.block _ hs7 N7.out).trans E7.out;have hs8:w6.heap.size<w8.heap.size:=V hs7 hb8.size;clear h8 hb8 hF8 S7 q5 E7 N7;obtain⟨W9,hW9⟩:∃W9,W9=w8.alloc (.cells #[I J 0,C B,I J 0,I J 0,I J 0,C Z] 36):=⟨_,rfl⟩
 have hb9:Below w8.heap.size w8 W9:=by rw[hW9];exact zA (zR _) _
 have S9:Y _:=S8.out.grow hb9;obtain⟨⟨z0,z1,z2,z3,z4,z5⟩,zf⟩:=zp ((hb9.block _ hs8).trans E8.out)
 have d5:W9.cell? ⟨w8.heap.size,5,none⟩=some (C Z):=by rw[hW9];simp[go_sem]
 go_upto_region 6 with fail
 rw[<-hW9];clear hW9 S8 hb9 E8
 go_wp2_with fail
 refine(q6 _ _ S9.out.at').mono ?_;rintro e w10 ⟨rfl,hb10⟩;have S10:Y _:=S9.out.grow hb10;clear hb10 S9 q6
 go_wp2_with fail
 refine(q7 _ _ S10.out.at').mono ?_;rintro e w11 ⟨ad,cap,rfl,_,hb11,_⟩;have HB:Y _:=(S10.out.grow hb11).bel;clear hb11 S10 q7
 go_wp2_with fail
 go_ret
 exact⟨rfl,HB.out⟩
end Go.Proofs.YtdphiompijbelaaGreat
