/-
  TraceRuns is proved: every Run is as the document says: its fault, and what each step came to.
  Conditions: none.
-/
import Derived.Test.YtdphiompijbelaaGreatTrF
import Derived.Test.YtdphiompijbelaaGreatSpRefJ
set_option linter.all false
set_option maxRecDepth 100000
open Go renaming World->O
open Go.Obj renaming cells->V
open Int renaming eq_ofNat_of_zero_le->T
open Go.Proofs.Tryz renaming prog->N
open Nat renaming lt_of_lt_of_le->R,le_refl->Q,le_trans->U,zero_add->M,ne_of_lt->D
open Bool renaming false->S,true->Z
open Option renaming none->B,some->P
open Go.IntKind renaming i64->J
open Go.Value renaming int->I,slice->Y,bool->K,agg->A,ownBlock->L,oneCell'->G,okWide->y
set_option maxHeartbeats 4000000
namespace Go.Proofs.YtdphiompijbelaaGreat
open Go.RowKit Go.Sort
theorem jn (co n:Int) (w:O):Calls N 10 #[I J co,I J n] w fun e w'=>e= .returned (if co<1\/4<co\/n<1\/128<n then A #[I J 1,I J (-1)]else A #[I J 0,I J 0])/\Below w.heap.size w w':=by
 have hF:∀w:O,Calls N 49 #[I J 1,I J (-1)] w fun e w'=>e= .returned (A #[I J 1,I J (-1)])/\Below w.heap.size w w':=fun w=>by
  go_enter Tryz.func49,Tryz.ntmps49
  go_wp2_with fail
  refine bodyPost_ret (v:=A #[I J 1,I J (-1)]) ?_ rfl ⟨rfl,?_⟩
  ·simp[results,Tryz.results49,go_sem]
  ·exact zA (zR w) _
 obtain⟨W,hW⟩:∃W,W=w.alloc (V #[I J 0,I J 0] 27):=⟨_,rfl⟩
 have hB:Below w.heap.size w W:=by rw[hW];exact zA (zR _) _
 have RZ:Hid (W.heap[w.heap.size]?=P (V #[I J 0,I J 0] 27 (0,0))):=by rw[Hid,hW];exact heap_alloc_new _ _
 have hWs:w.heap.size<W.heap.size:=by rw[hW];simp
 have HB:Hid _:=hB;clear hB
 by_cases hbad:co<1\/4<co\/n<1\/128<n
 ·rw[if_pos hbad]
  have hcase:(decide (co<1)=Z)\/(decide (co<1)=S/\decide (4<co)=Z)\/(decide (co<1)=S/\decide (4<co)=S/\decide (n<1)=Z)\/(decide (co<1)=S/\decide (4<co)=S/\decide (n<1)=S/\decide (128<n)=Z):=by
   simp only[decide_eq_true_eq,decide_eq_false_iff_not];omega
  clear hbad;rcases hcase with h1|⟨h1,h2⟩|⟨h1,h2,h3⟩|⟨h1,h2,h3,h4⟩
  all_goals
   go_enter Tryz.func10,Tryz.ntmps10
   go_upto_region 1 with fail
   rw[<-hW];clear hW
   go_wp2_with fail
   refine(hF _).mono ?_;rintro e w1 ⟨rfl,hb1⟩;obtain⟨⟨z0,z1⟩,zf⟩:=ycR ((hb1.block _ hWs).trans RZ.out);have hs1:w.heap.size<w1.heap.size:=R hWs hb1.size;have HB1:Hid _:=zT HB.out hb1;clear hb1
   go_wp2_with fail
   refine bodyPost_ret (v:=A #[I J 1,I J (-1)]) ?_ rfl ⟨rfl,?_⟩
   ·simp[results,Tryz.results10,go_sem,z0,z1,hs1]
   ·exact(HB1.out.setCell (p:=⟨w.heap.size,0,B⟩) (Q _) _).setCell (p:=⟨w.heap.size,1,B⟩) (Q _) _
 ·rw[if_neg hbad]
  have h1:decide (co<1)=S:=by simp;omega
  have h2:decide (4<co)=S:=by simp;omega
  have h3:decide (n<1)=S:=by simp;omega
  have h4:decide (128<n)=S:=by simp;omega
  clear hbad;obtain⟨⟨z0,z1⟩,zf⟩:=ycR RZ.out
  go_enter Tryz.func10,Tryz.ntmps10
  go_upto_region 1 with fail
  rw[<-hW];clear hW
  go_wp2_with fail
  refine bodyPost_ret (v:=A #[I J 0,I J 0]) ?_ rfl ⟨rfl,?_⟩
  ·simp[results,Tryz.results10,go_sem,z0,z1,hWs]
  ·exact(HB.out.setCell (p:=⟨w.heap.size,0,B⟩) (Q _) _).setCell (p:=⟨w.heap.size,1,B⟩) (Q _) _
attribute [local go_sem] Loose.gent
theorem ygj:(Tryz.prog.info? 36).map (fun i=>(i.zero,i.size,i.bytes))=P (P (A #[I J 0,K S,I J 0,I J 0,I J 0,K S]),6,48):=by kernel_rfl
structure Rrn (w:O) (b:Nat) (F0:Nat->Prop) (s:Pg.Trs) (v:Value) (W:O):Prop where
 ex:∃F,ydg W b s.X F/\(∀k,F k->F0 k\/w.heap.size<=k)/\∀k,v.ownBlock=P k->¬F k
 row:W.ownsRow w.heap.size 36 6 v s.E.length (zw s.E)
 but:But F0 w W
 lt:∀k,F0 k->k<w.heap.size
theorem Rrn.more {w W w1 w3:O} {b g cap:Nat} {F0 F F1:Nat->Prop} {s:Pg.Trs} {x:Pg.Sx} {v:Value} {tmp:Obj} (h:Rrn w b F0 s v W) (hF:∀k,F k->F0 k\/w.heap.size<=k) (hn:∀k,v.ownBlock=P k->¬F k) (hb1:But F W w1)
 (h1:ydg w1 b (s.X.goN x) F1) (hF1:∀k,F1 k->F k\/W.heap.size<=k)
 (hown:w3.ownsRow w.heap.size 36 6 (Y (P ⟨g,0,B⟩) (s.E.length+1) cap) (s.E.length+1) (zw s.E++qa (s.X.goE x))) (hgrow:(w1.alloc tmp).grownBy w3 v.ownBlock) (hat:v.ownBlock=P g\/g=(w1.alloc tmp).heap.size):
 Rrn w b F0 (s.next x) (Y (P ⟨g,0,B⟩) (s.E.length+1) cap) w3:=by
 have hB3:But (fun k=>v.ownBlock=P k) w1 w3:=((But.refl _ w1).alloc tmp).grown hgrow fun j hj=> .inr hj
 have hn1:∀k,v.ownBlock=P k->¬F1 k:=fun k hk e=>(hF1 k e).elim (hn k hk) fun e=>by have:=(h.row.lt k hk).2;omega
 have hsz:=h.but.size;refine⟨⟨F1,h1.keep hB3 fun k hk e=>hn1 k e hk,fun k hk=>(hF1 k hk).elim (hF k) fun e=> .inr (by omega),fun k hk hf=> ?_⟩,?_,(h.but.trans hb1 fun i hi e=>(hF i e).elim id fun e=>by omega).trans hB3 fun i hi e=> ?_,h.lt⟩
 ·obtain rfl:g=k:=by simpa[L]using hk
  rcases hat with e|e
  ·exact hn1 g e hf
  ·have:=h1.lt hf
   simp at e;omega
 ·show w3.ownsRow w.heap.size 36 6 _ (s.E++[s.X.goE x]).length (zw (s.E++[s.X.goE x]))
  rw[jX,List.length_append];exact hown
 ·have:=(h.row.lt i e).1
  omega
theorem yeR {b:Nat} {s0:Pg.Trs} {F:Nat->Prop} {ad:Option Addr} {len cap:Nat} {q:Nat->Bst} (w:O) (h:ydg w b s0.X F) (hE:s0.E=[]) (hl:len<=2000)
 (hq:∀j,j<len->∃xb xo,ad=P ⟨xb,xo,B⟩/\xb<w.heap.size/\¬F xb/\j9 w xb (xo+j*9) (q j)):
 Calls N 39 #[.pointer (P ⟨b,0,B⟩),Y ad len cap] w fun e w'=>∃ae ce,e= .returned (Y ae len ce)/\qc w' ae (s0.upto (fun j=>(q j).sx) len).E/\But F w w':=by
 have HQ:Hid (∀j,j<len->∃xb xo,ad=P ⟨xb,xo,B⟩/\xb<w.heap.size/\¬F xb/\j9 w xb (xo+j*9) (q j)):=hq;have R0:Hid (Rrn w b F s0 (Y B 0 0) w):=⟨⟨F,h,fun k hk=> .inl hk,fun k hk=>by cases hk⟩,by rw[hE];exact World.ownsRow_nil _ _ _ _,But.refl _ _,fun k hk=>h.lt hk⟩;have HE:Hid (s0.E=[]):=hE;clear hq h hE;obtain⟨i0,hii,hz0,hz1,hz2⟩:=info_parts ygj
 go_enter Tryz.func39,Tryz.ntmps39
 go_wp2_with fail
 go_loopw [5,6] (fun u i wr=>∃(k:Nat) (v:Value),k<=len/\v=u/\i=I J k/\Hid (Rrn w b F (s0.upto (fun j=>(q j).sx) k) v wr)) (fun _ i _=>len-(intOf i).toNat)
 case atStart=>exact⟨0,_,Nat.zero_le _,rfl,rfl,R0.out⟩
 case round=>
  obtain⟨k,v,hk,ev,rfl,HR⟩:=hrel;subst ev;clear R0;have hlen:=Pg.Trs.yiX s0 (fun j=>(q j).sx) k;rw[HE.out]at hlen;simp only[List.length_nil,M]at hlen
  by_cases hlt:k<len
  ·obtain⟨xb,xo,rfl,hxl,nx,hx⟩:=HQ.out k hlt
   obtain⟨F1,h1,hF1,hn1⟩:=HR.out.ex;have cc:∀p v,w.cell? ⟨xb,p,B⟩=P v->wr.cell? ⟨xb,p,B⟩=P v:=fun p v hv=>(HR.out.but.cell (a:=⟨xb,p,B⟩) hxl nx).trans hv;obtain⟨x0,x1,x2,x3,x4,x5,x6,x7,x8⟩:=hx;have x0:=cc _ _ x0;have x1:=cc _ _ x1;have x2:=cc _ _ x2;have x3:=cc _ _ x3;have x4:=cc _ _ x4;have x5:=cc _ _ x5;have x6:=cc _ _ x6;have x7:=cc _ _ x7;have x8:=cc _ _ x8
   have i0':(0:Int)<=(k:Int):=by omega
   have i1:(k:Int)<(len:Int):=by omega
   have HU:Hid (s0.upto (fun j=>(q j).sx) (k+1)=(s0.upto (fun j=>(q j).sx) k).next (q k).sx):=rfl;generalize hs':s0.upto (fun j=>(q j).sx) (k+1)=s' at*;have HS':Hid (s0.upto (fun j=>(q j).sx) (k+1)=s'):=hs';clear hs';generalize s0.upto (fun j=>(q j).sx) k=s at*;have HD:=yfC (q k).sx wr h1;clear cc HQ;have H1:Hid (∀k,F1 k->F k\/w.heap.size<=k):=hF1;have N1:Hid (∀k,v.ownBlock=P k->¬F1 k):=hn1;have ROW:Hid (wr.ownsRow w.heap.size 36 6 v s.E.length (zw s.E)):=HR.out.row;have BW:Hid (w.heap.size<=wr.heap.size):=HR.out.but.size;generalize hx:(q k).sx=x at*
   have hx':q k=⟨x.kind,x.core,x.m,x.q,x.k,x.u⟩:=by rw[<-hx];rfl
   rw[hx']at x0 x1 x2 x3 x4 x5 x6 x7 x8;clear hx hx' h1 hF1 hn1;have EE:Hid (s.X.goE x=s.X.goE x):=rfl;generalize hE:s.X.goE x=E at*;have HEE:Hid (s.X.goE x=E):=hE;clear EE hE;obtain⟨ec,en,ea,ef,er,eb⟩:=E;obtain⟨kd,cr,⟨mp,ms,mf,mr⟩,xq,xk,xu⟩:=x;simp only[Pg.Sx.val,Pg.Ev.val]at HD x0 x1 x2 x3 x4 x5 x6 x7 x8
   go_wp2_with fail
   refine HD.mono ?_;rintro e w1 ⟨rfl,F2,h2,hb2,hF2⟩;have row1:=zc ROW.out hb2 N1.out;have bw1:w.heap.size<=w1.heap.size:=U BW.out hb2.size
   have hl1:s.E.length<=2000:=by omega
   have MORE:Hid (∀w3 g cap,w3.ownsRow w.heap.size 36 6 (Y (P ⟨g,0,B⟩) (s.E.length+1) cap) (s.E.length+1) (zw s.E++qa (s.X.goE ⟨kd,cr,⟨mp,ms,mf,mr⟩,xq,xk,xu⟩))->(w1.alloc (V #[I J ec,K en,I J ea,I J ef,I J er,K eb] 36)).grownBy w3 v.ownBlock->(v.ownBlock=P g\/g=(w1.alloc (V #[I J ec,K en,I J ea,I J ef,I J er,K eb] 36)).heap.size)->
    Rrn w b F s' (Y (P ⟨g,0,B⟩) (s.E.length+1) cap) w3):=fun w3 g cap a1 a2 a3=>by rw[HU.out];exact HR.out.more H1.out N1.out hb2 h2 hF2 a1 a2 a3
   rw[HEE.out]at MORE;clear h2 hb2 hF2 HD x0 x1 x2 x3 x4 x5 x6 x7 x8
   go_wp2_with (at_builtin;refine wpList_append_lies _ rfl _ _ 92 rfl w.heap.size 36 i0 _ 6 48 Tryz.underlying92 hii hz0 hz1 hz2 rfl (by decide) v s.E.length (zw s.E) rfl (row1.alloc _) ⟨w1.heap.size,0,B⟩ 1 1 (qa ⟨ec,en,ea,ef,er,eb⟩) rfl rfl (World.news_of_block (heap_alloc_new _ _)) (by simp[qa,G]) (by decide) (by simp[maxLen];omega) (by omega) (by simp;omega) _ rfl ?_;intro g cap' w3 hown hgrow hat hlt3)
   have HM:Rrn w b F s' (Y (P ⟨g,0,B⟩) (k+1) cap') w3:=by rw[<-hlen];exact MORE.out _ _ _ hown hgrow hat
   go_roundw
   case rel=>exact⟨k+1,_,by omega,rfl,by go_num,by rw[HS'.out];exact HM⟩
   case measure=>simp[intOf];omega
  ·have hk:k=len:=by omega
   have i1:¬(k:Int)<(len:Int):=by omega
   obtain⟨ae,ce,rfl⟩:=zF HR.out.row
   go_wp2_with fail
   subst hk;refine bodyPost_ret (v:=Y ae k ce) ?_ rfl ⟨ae,⟨ce,rfl⟩,yda HR.out.row,HR.out.but⟩;simp[results,Tryz.results39,go_sem,hlen]
end Go.Proofs.YtdphiompijbelaaGreat
namespace Go.Proofs.YtdphiompijbelaaGreat
open Go.ChangeShapes Go.WideShapes Go.ChangeAt Go.RowKit Go.Joins Go.Sort
attribute [local go_sem] Loose.gent
theorem traceRuns_walk (W:O) (co:Int) (hco:Pg.fits co) (n:Int) (hn:Pg.fits n) (ad:Option Addr) (len cap:Nat) (q:Nat->Bst)
 (hq:∀j,j<len->(∃b o,ad=P ⟨b,o,B⟩/\b<W.heap.size/\j9 W b (o+j*9) (q j))/\jo (q j)):
 Calls N 5 #[I J co,I J n,Y ad len cap] W fun e W'=>e= .returned (K Z)/\Below W.heap.size W W':=by
 have HQ:Hid _:=hq;clear hq
 go_enter Tryz.func5,Tryz.ntmps5
 go_wp2_with fail
 refine(yap _).mono ?_;rintro e w1 ⟨rfl,hb1⟩;have HB:Hid (Below W.heap.size W w1):=hb1;clear hb1
 by_cases hl:300<len/\len<=2000
 ·as_aux_lemma=>
  have d1:decide ((300:Int)<(len:Int))=Z:=by simp;omega
  have d2:decide ((len:Int)<=2000)=Z:=by simp;omega
  go_wp2_with fail
  go_ret
  exact⟨rfl,HB.out⟩
 ·have HL:Hid (¬(300<len/\len<=2000)):=hl
  have dd:(decide ((300:Int)<(len:Int))=S/\len<=300)\/(decide ((300:Int)<(len:Int))=Z/\decide ((len:Int)<=2000)=S/\2000<len):=by
   simp only[decide_eq_true_eq,decide_eq_false_iff_not];omega
  clear hl
  by_cases hbad:co<1\/4<co\/n<1\/128<n
  ·as_aux_lemma=>
   have HR:=fun w=>ye0 co n ad len cap w hbad;have HS:=fun w=>jn co n w;rw[if_pos hbad]at HS;clear hbad HQ;rcases dd with ⟨d1,_⟩|⟨d1,d2,_⟩
   all_goals
    go_wp2_with fail
    refine(HR _).mono ?_;rintro e w3 ⟨rfl,hb3⟩;obtain⟨W4,hW4⟩:∃W4,W4=w3.alloc (V #[I J 1,I J (-1)] 27):=⟨_,rfl⟩
    have hb4:Below w3.heap.size w3 W4:=by rw[hW4];exact zA (zR _) _
    have y0:W4.cell? ⟨w3.heap.size,0,B⟩=P (I J 1):=by rw[hW4];simp[go_sem]
    have y1:W4.cell? ⟨w3.heap.size,1,B⟩=P (I J (-1)):=by rw[hW4];simp[go_sem]
    have HB4:Hid (Below W.heap.size W W4):=zT (zT HB.out hb3) hb4;clear hb3 hb4
    go_upto_region 6 with fail
    rw[<-hW4];clear hW4
    go_wp2_with fail
    refine(HS _).mono ?_;rintro e w5 ⟨rfl,hb5⟩;have y0:=cell_later hb5 y0;have y1:=cell_later hb5 y1;have ly:=World.block_lt_of_cell? _ _ y0;have ny:w3.heap.size≠w5.heap.size:=D ly;have HB5:Hid (Below W.heap.size W w5):=zT HB4.out hb5;clear hb5 HR HS
    go_wp2_with fail
    go_ret
    exact⟨rfl,zA HB5.out _⟩
  ·obtain⟨cn,rfl⟩:=T (show 0<=co by omega)
   obtain⟨nn,rfl⟩:=T (show 0<=n by omega);have HS:=fun w=>jn (cn:Int) (nn:Int) w;rw[if_neg hbad]at HS
   have g1:1<=cn:=by omega
   have g2:cn<=4:=by omega
   have g3:1<=nn:=by omega
   have g4:nn<=128:=by omega
   rcases dd with ⟨d1,hl⟩|⟨d1,d2,hl⟩
   ·have HRA:=ycc cn nn (ad:=ad) (len:=len) (cap:=cap) (q:=q) w1 g1 g2 g3 g4 (by omega) fun j hj=>by
     obtain⟨⟨xb,xo,e,hx,hc⟩,hf⟩:=HQ.out j (by omega);refine⟨⟨xb,xo,e,R hx HB.out.size,?_⟩,hf⟩;obtain⟨x0,x1,x2,x3,x4,x5,x6,x7,x8⟩:=hc;have hb:=HB.out;exact⟨(hb.cell (p:=⟨xb,_,B⟩) hx).trans x0,(hb.cell (p:=⟨xb,_,B⟩) hx).trans x1,(hb.cell (p:=⟨xb,_,B⟩) hx).trans x2,(hb.cell (p:=⟨xb,_,B⟩) hx).trans x3,(hb.cell (p:=⟨xb,_,B⟩) hx).trans x4,(hb.cell (p:=⟨xb,_,B⟩) hx).trans x5,(hb.cell (p:=⟨xb,_,B⟩) hx).trans x6,(hb.cell (p:=⟨xb,_,B⟩) hx).trans x7,(hb.cell (p:=⟨xb,_,B⟩) hx).trans x8⟩
    have EL:=Pg.Trs.yiX (Pg.Trs.new cn nn) (fun j=>(q j).sx) len;rw[show(Pg.Trs.new cn nn).E.length=0 from rfl,M]at EL
    have HRR:=fun(w:O) b F (hW:Below W.heap.size W w) (h:ydg w b (Pg.Spc.new cn nn) F) (hF:∀k,F k->W.heap.size<=k)=>yeR (s0:=Pg.Trs.new cn nn) (F:=F) (b:=b) (ad:=ad) (len:=len) (cap:=cap) (q:=q) w h rfl (by omega) fun j hj=>by
     obtain⟨⟨xb,xo,e,hx,hc⟩,hf⟩:=HQ.out j hj;refine⟨xb,xo,e,R hx hW.size,fun e=>by have:=hF xb e;omega,?_⟩;obtain⟨x0,x1,x2,x3,x4,x5,x6,x7,x8⟩:=hc;exact⟨(hW.cell (p:=⟨xb,_,B⟩) hx).trans x0,(hW.cell (p:=⟨xb,_,B⟩) hx).trans x1,(hW.cell (p:=⟨xb,_,B⟩) hx).trans x2,(hW.cell (p:=⟨xb,_,B⟩) hx).trans x3,(hW.cell (p:=⟨xb,_,B⟩) hx).trans x4,(hW.cell (p:=⟨xb,_,B⟩) hx).trans x5,(hW.cell (p:=⟨xb,_,B⟩) hx).trans x6,(hW.cell (p:=⟨xb,_,B⟩) hx).trans x7,(hW.cell (p:=⟨xb,_,B⟩) hx).trans x8⟩
    have HNS:=fun w=>ybZ cn nn g1 g2 g3 g4 w;generalize ((Pg.Trs.new cn nn).upto (fun j=>(q j).sx) len).E=EA at*;clear g1 g2 g3 g4 HQ hbad HL
    as_aux_lemma=>
    go_wp2_with fail
    refine HRA.mono ?_;rintro e w3 ⟨ae,ce,_,rfl,ea,hb3⟩;obtain⟨W4,hW4⟩:∃W4,W4=w3.alloc (V #[I J 0,I J 0] 27):=⟨_,rfl⟩
    have hb4:Below w3.heap.size w3 W4:=by rw[hW4];exact zA (zR _) _
    have y0:W4.cell? ⟨w3.heap.size,0,B⟩=P (I J 0):=by rw[hW4];simp[go_sem]
    have y1:W4.cell? ⟨w3.heap.size,1,B⟩=P (I J 0):=by rw[hW4];simp[go_sem]
    have HB4:Hid (Below W.heap.size W W4):=zT (zT HB.out hb3) hb4;have EA4:Hid (qc W4 ae EA):=ea.below hb4;clear hb3 hb4 ea HRA
    go_upto_region 6 with fail
    rw[<-hW4];clear hW4
    go_wp2_with fail
    refine(HS _).mono ?_;rintro e w5 ⟨rfl,hb5⟩;obtain⟨W6,hW6⟩:∃W6,W6=w5.alloc (V #[I J 0,I J 0] 27):=⟨_,rfl⟩
    have hb6:Below w5.heap.size w5 W6:=by rw[hW6];exact zA (zR _) _
    have hb46:Below W4.heap.size W4 W6:=zT hb5 hb6;have y0:=cell_later hb46 y0;have y1:=cell_later hb46 y1
    have z0:W6.cell? ⟨w5.heap.size,0,B⟩=P (I J 0):=by rw[hW6];simp[go_sem]
    have z1:W6.cell? ⟨w5.heap.size,1,B⟩=P (I J 0):=by rw[hW6];simp[go_sem]
    have HB6:Hid (Below W.heap.size W W6):=zT HB4.out hb46;have EA6:Hid (qc W6 ae EA):=qc.below EA4.out hb46
    have d3:decide ((2000:Int)<(len:Int))=S:=by simp;omega
    clear hb5 hb6 hb46 HS EA4
    go_upto_region 7 with fail
    rw[<-hW6];clear hW6
    go_wp2_with fail
    refine(HNS _).mono ?_;rintro e w7 ⟨br,F,rfl,r7,hb7,hF7⟩;have HB7:Hid (Below W.heap.size W w7):=zT HB6.out hb7;have HR7:=HRR w7 br F HB7.out r7 fun k hk=>U HB6.out.size (hF7 k hk);have EA7:Hid (qc w7 ae EA):=qc.below EA6.out hb7
    have NE:Hid (∀g,ae=P ⟨g,0,B⟩->g<W6.heap.size\/EA.length=0):=fun g hg=>by
     rcases Nat.eq_zero_or_pos EA.length with h0|h0
     ·exact .inr h0
     ·obtain⟨g',e,hl,_⟩:=EA6.out 0 h0
      rw[hg]at e;injection e with e;injection e with e;exact .inl (e▸hl)
    have HF7:Hid (∀k,F k->W6.heap.size<=k):=hF7;clear hb7 hF7 r7 HRR HNS y0 y1 z0 z1
    go_wp2_with fail
    refine HR7.mono ?_;rintro e w8 ⟨ab,cb,rfl,eb8,hb8⟩;have HB8:Hid (Below W.heap.size W w8):=HB7.out.trans (hb8.below HB7.out.size fun k hk=>U HB6.out.size (HF7.out k hk))
    have ea8:qc w8 ae EA:=fun j hj=>by
     obtain⟨g,e,hg,hm⟩:=EA7.out j hj;exact⟨g,e,R hg hb8.size,hm.of fun p=>hb8.cell (a:=⟨g,p,B⟩) hg fun hf=>by have:=HF7.out g hf;have:=NE.out g e;omega⟩
    have HSE:=yao (cap:=ce) (cap':=cb) w8 ea8 eb8 (by omega);rw[EL]at HSE;clear eb8 hb8 ea8 HR7 EA7 EA6 NE HF7
    go_wp2_with fail
    refine HSE.mono ?_;rintro e w9 ⟨rfl,hb9⟩;have HB9:Hid (Below W.heap.size W w9):=zT HB8.out hb9;clear hb9 HSE
    go_wp2_with fail
    go_ret
    exact⟨rfl,HB9.out⟩
   ·as_aux_lemma=>
    have HR:=fun w=>yd3 cn nn ad len cap w g1 g2 g3 g4 hl
    have d3:decide ((2000:Int)<(len:Int))=Z:=by simp;omega
    clear hbad HQ g1 g2 g3 g4
    go_wp2_with fail
    refine(HR _).mono ?_;rintro e w3 ⟨rfl,hb3⟩;obtain⟨W4,hW4⟩:∃W4,W4=w3.alloc (V #[I J 10,I J (-1)] 27):=⟨_,rfl⟩
    have hb4:Below w3.heap.size w3 W4:=by rw[hW4];exact zA (zR _) _
    have y0:W4.cell? ⟨w3.heap.size,0,B⟩=P (I J 10):=by rw[hW4];simp[go_sem]
    have y1:W4.cell? ⟨w3.heap.size,1,B⟩=P (I J (-1)):=by rw[hW4];simp[go_sem]
    have HB4:Hid (Below W.heap.size W W4):=zT (zT HB.out hb3) hb4;clear hb3 hb4
    go_upto_region 6 with fail
    rw[<-hW4];clear hW4
    go_wp2_with fail
    refine(HS _).mono ?_;rintro e w5 ⟨rfl,hb5⟩;have y0:=cell_later hb5 y0;have y1:=cell_later hb5 y1;have ly:=World.block_lt_of_cell? _ _ y0;have ny:w3.heap.size≠w5.heap.size:=D ly;have ny':w5.heap.size≠w3.heap.size:=fun e=>ny e.symm;have HB5:Hid (Below W.heap.size W w5):=zT HB4.out hb5;clear hb5 HR HS
    go_wp2_with fail
    go_ret
    exact⟨rfl,by repeat (first|exact HB5.out|exact zA HB5.out _|refine Below.setCell (p:=⟨w5.heap.size,_,B⟩) ?_ HB5.out.size _)⟩
set_option maxRecDepth 100000 in
theorem traceRuns_lifted (os:Os) (started:os.Started) (H:Type) (enc:TypeId×Value->H):
 ReturnsInHanded {} Tryz.checked os 5 .any (Rows.traceRunsSpec.pre6 enc N Tryz.f5 Rows.traceRunsRow.domain S) (Rows.traceRunsSpec.post enc N Tryz.f5 S Z S S):=by
 refine returnsInHanded_of_change (C:=Tryz.checked) own started (by kernel_rfl) Tryz.func5
  (ChangeSpec.witness6 (enc:=enc) (C:=Tryz.checked) S ⟨#[],#[I J 0,I J 0,Y B 0 0],[]⟩ 8 (by kernel_rfl) (by kernel_rfl) (by kernel_rfl) (by kernel_rfl)) ?_
 intro W base args ds gs before hval0 hW hcnd _;have hval:∀(j:Nat) t v,Tryz.f5.params[j]?=P t->args[j]?=P v->y N W .any base t v:=hval0;have hW':=hW;obtain⟨p,q,hA0,hV,rfl,hfz,hnd⟩:=hW;have hA:DataW.TrodAll enc N W 0 (fun _=>Z) Z Tryz.f5.params.toList args.toList ds p:=hA0;rw[Tryz.params5]at hA hval;obtain⟨v0,vs0,d0,ds0,p0,q0,hargs,rfl,rfl,h0,r0⟩:=trodAll_cons hA;obtain⟨v1,vs1,d1,ds1,p1,q1,rfl,rfl,rfl,h1,r1⟩:=trodAll_cons r0;obtain⟨v2,vs2,d2,ds2,p2,q2,rfl,rfl,rfl,h2,r2⟩:=trodAll_cons r1;obtain⟨rfl,rfl,rfl⟩:=trodAll_nil r2
 obtain rfl:args=#[v0,v1,v2]:=by cases args;simp_all
 obtain⟨rfl,rfl⟩:=trodVars_none hV;obtain⟨a0a,rfl,f0a⟩:=yeG (hval 0 3 v0 rfl rfl) h0;obtain⟨a1a,rfl,f1a⟩:=yeG (hval 1 3 v1 rfl rfl) h1;obtain⟨a2a,a2b,a2c,a2d,rfl,f2a⟩:=yfu (hval 2 22 v2 rfl rfl) h2;clear hA0 hval0;refine(traceRuns_walk W a0a f0a a1a f1a a2a a2b a2c a2d f2a).mono fun e W' ⟨he,bel⟩=> ?_;subst he;exact⟨_,rfl,_,_,_,[],_,[],hW',trodAll_mk1 (shut_bool Tryz.underlying4 _),(trodAll_cons_mk (ygb (by kernel_rfl) (of_decide_eq_true (by kernel_rfl)) h0 bel) (trodAll_cons_mk (ygb (by kernel_rfl) (of_decide_eq_true (by kernel_rfl)) h1 bel) (trodAll_cons_mk (ygb (by kernel_rfl) (of_decide_eq_true (by kernel_rfl)) h2 bel) trodAll_mk0))),rfl,bel.frame _,fun h=>by cases h⟩
theorem traceRuns_over:Rows.traceRunsRow.holds Tryz.pinned (OpenSpec.ofChange Rows.traceRunsSpec):=
 OpenClaim.holds_of_wide 5 Tryz.f5 rfl rfl rfl rfl rfl rfl rfl ⟨rfl,rfl,rfl,rfl,rfl⟩ rfl rfl rfl rfl rfl (by kernel_rfl) Tryz.func5 (by kernel_rfl)
  (of_decide_eq_true (by kernel_rfl)) (by unfold Func.isWrapper;first|(rw[if_pos (by decide+kernel)];kernel_rfl)|(rw[if_neg (by decide+kernel)];exact⟨rfl,rfl⟩))
  (fun os started H enc _=>traceRuns_lifted os started H enc)
theorem traceRuns_proved:Rows.TraceRunsSaid:=traceRuns_over
#print axioms traceRuns_proved
end Go.Proofs.YtdphiompijbelaaGreat
