
/-
  TraceCalms is proved: every Calm is as the document says; behind it nothing is on its way, no change is begun, the tables are just as many as the mappings need, and all others are free; and the next access of each page is answered by what is mapped.
  Conditions: none.
-/
import Derived.Test.YtdphiompijbelaaGreatTrH
import Derived.Test.YtdphiompijbelaaGreatSpRefJ
set_option linter.all false
set_option maxRecDepth 100000
open Int renaming eq_ofNat_of_zero_le->m
open Go.Proofs.Tryz renaming prog->A
open Go.Obj renaming cells->M
open Nat renaming le_trans->U,eq_zero_or_pos->kO,zero_le->un
open Go renaming cell_later->Z,heap_alloc_new->y,World->d,Value->kh,Calls->ur
open Bool renaming false->Q,true->ki
open Array renaming getElem?_eq_some_iff->T
open Option renaming none->P,some->N
open Go.IntKind renaming i64->B
open Go.Value renaming int->J,bool->V,slice->O,pointer->l,oneCell'->kp,agg->uv
open Go.RowKit renaming Hid->I
set_option maxHeartbeats 8000000
namespace Go.Proofs.YtdphiompijbelaaGreat
open Go.RowKit Go.Sort
section
attribute [local go_sem] Loose.gent
theorem ygJ:(Tryz.prog.info? 36).map (fun i=>(i.zero,i.size,i.bytes))=N (N (uv #[J B 0,V Q,J B 0,J B 0,J B 0,V Q]),6,48):=by kernel_rfl
structure Rrn (w:d) (b:Nat) (F0:Nat->Prop) (s:Pg.Trs) (v:kh) (W:d):Prop where
 ex:∃F,ybc W b s.X F/\(∀k,F k->F0 k\/w.heap.size<=k)/\∀k,v.ownBlock=N k->¬F k
 row:W.ownsRow w.heap.size 36 6 v s.E.length (zp s.E)
 but:But F0 w W
 lt:∀k,F0 k->k<w.heap.size
theorem Rrn.more {w W w1 w3:d} {b g cap:Nat} {F0 F F1:Nat->Prop} {s:Pg.Trs} {x:Pg.Sx} {v:kh} {tmp:Obj} (h:Rrn w b F0 s v W) (hF:∀k,F k->F0 k\/w.heap.size<=k) (hn:∀k,v.ownBlock=N k->¬F k) (Ha:But F W w1)
 (h1:ybc w1 b (s.X.goN x) F1) (tH:∀k,F1 k->F k\/W.heap.size<=k)
 (Hq:w3.ownsRow w.heap.size 36 6 (O (N ⟨g,0,P⟩) (s.E.length+1) cap) (s.E.length+1) (zp s.E++xM (s.X.goE x))) (Hr:(w1.alloc tmp).grownBy w3 v.ownBlock) (hat:v.ownBlock=N g\/g=(w1.alloc tmp).heap.size):
 Rrn w b F0 (s.next x) (O (N ⟨g,0,P⟩) (s.E.length+1) cap) w3:=by
 have pE:But (fun k=>v.ownBlock=N k) w1 w3:=((But.refl _ w1).alloc tmp).grown Hr fun j hj=> .inr hj
 have dY:∀k,v.ownBlock=N k->¬F1 k:=fun k hk e=>(tH k e).elim (hn k hk) fun e=>by have:=(h.row.lt k hk).2;omega
 have sN:=h.but.size;refine⟨⟨F1,h1.keep pE fun k hk e=>dY k e hk,fun k hk=>(tH k hk).elim (hF k) fun e=> .inr (by omega),fun k hk hf=> ?_⟩,?_,(h.but.trans Ha fun i hi e=>(hF i e).elim id fun e=>by omega).trans pE fun i hi e=> ?_,h.lt⟩
 ·obtain rfl:g=k:=by simpa[Value.ownBlock]using hk
  rcases hat with e|e
  ·exact dY g e hf
  ·have:=h1.lt hf
   simp at e;omega
 ·show w3.ownsRow w.heap.size 36 6 _ (s.E++[s.X.goE x]).length (zp (s.E++[s.X.goE x]))
  rw[j9,List.length_append];exact Hq
 ·have:=(h.row.lt i e).1
  omega
theorem yeb {b:Nat} {s0:Pg.Trs} {F:Nat->Prop} (w:d) (h:ybc w b s0.X F) (hE:s0.E=[]) (fA:Pg.Inv s0.X s0.L s0.L0) (uk:s0.X.C.length<=4):
 ur A 41 #[l (N ⟨b,0,P⟩)] w fun e w'=>∃t ae ce,Pg.Rest s0 t/\e= .returned (O ae t.E.length ce)/\qm w' ae t.E/\But F w w':=by
 have R0:I (Rrn w b F s0 (O P 0 0) w):=⟨⟨F,h,fun k hk=> .inl hk,fun k hk=>by cases hk⟩,by rw[hE];exact World.ownsRow_nil _ _ _ _,But.refl _ _,fun k hk=>h.lt hk⟩;have DW:I (Pg.AckI s0 0 s0):=Pg.ymf fA
 have HE:I (s0.E.length=0):=by rw[I,hE];rfl
 generalize nV:s0.X.C.length=cn at*;have wD:I (s0.X.C.length=cn):=nV;clear h hE fA nV;obtain⟨i0,PY,rW,tJ,rX⟩:=info_parts ygJ
 go_enter Tryz.func41,Tryz.ntmps41
 go_wp2
 go_loopw [3,4] (fun u i wr=>∃(k:Nat) (t:Pg.Trs) (v:kh),k<=cn/\v=u/\i=J B k/\I (Pg.AckI s0 k t)/\I (Rrn w b F t v wr)) (fun _ i _=>cn-(intOf i).toNat)
 case atStart=>exact⟨0,s0,_,un _,rfl,rfl,DW,R0⟩
 case round=>
  obtain⟨k,t,v,hk,ev,rfl,HA,HR⟩:=hrel;subst ev;clear R0 DW;have Hg:t.X.C.length=cn:=HA.out.len.trans wD.out;obtain⟨_,⟨D0,hr,_,_⟩,_,_⟩:=HR.out.ex;have s2:=hr.c2;rw[Hg]at s2
  by_cases Hf:k<cn
  ·have s9:=hr.c9
   rw[Hg]at s9;have sw:=hr.wt k (by omega)
   have i0':(0:Int)<=(k:Int):=by omega
   have i1:(k:Int)<(cn:Int):=by omega
   clear hr
   have dE:t.E.length<=4:=by have:=HA.out.E;rw[HE.out]at this;omega
   by_cases hw:t.X.W.getD k Q=ki
   ·rw[hw]at sw
    have HN:I (Pg.AckI s0 (k+1) (t.next (.ack k))):=HA.out.yes (by rw[wD.out];exact Hf) hw;clear hw;obtain⟨F1,h1,tH,dY⟩:=HR.out.ex;have HD:=ybB (.ack k) wr h1;have H1:I (∀k,F1 k->F k\/w.heap.size<=k):=tH;have N1:I (∀k,v.ownBlock=N k->¬F1 k):=dY;have ROW:I (wr.ownsRow w.heap.size 36 6 v t.E.length (zp t.E)):=HR.out.row;have BW:I (w.heap.size<=wr.heap.size):=HR.out.but.size;have HU:I (t.next (.ack k)=t.next (.ack k)):=rfl;generalize nK:t.next (.ack k)=t' at*;have Lj:I (t.next (.ack k)=t'):=nK
    have Gf:t'.E.length=t.E.length+1:=by rw[<-nK,Pg.ylm]
    clear nK h1 tH dY HU;generalize hE:t.X.goE (.ack k)=E at*;have NA:I (t.X.goE (.ack k)=E):=hE;clear hE;obtain⟨ec,en,ea,ef,er,eb⟩:=E;simp only[Pg.Sx.ack,Pg.Mp.zz,Pg.Sx.val,Pg.Ev.val]at HD
    go_wp2_with fail
    refine HD.mono ?_;rintro e w1 ⟨rfl,F2,h2,Hd,sW⟩;have SE:=zc ROW.out Hd N1.out;have bw1:w.heap.size<=w1.heap.size:=U BW.out Hd.size
    have MORE:I (∀w3 g cap,w3.ownsRow w.heap.size 36 6 (O (N ⟨g,0,P⟩) (t.E.length+1) cap) (t.E.length+1) (zp t.E++xM (t.X.goE (.ack k)))->(w1.alloc (M #[J B ec,V en,J B ea,J B ef,J B er,V eb] 36)).grownBy w3 v.ownBlock->(v.ownBlock=N g\/g=(w1.alloc (M #[J B ec,V en,J B ea,J B ef,J B er,V eb] 36)).heap.size)->
     Rrn w b F t' (O (N ⟨g,0,P⟩) (t.E.length+1) cap) w3):=fun w3 g cap a1 a2 a3=>by rw[<-Lj.out];exact HR.out.more H1.out N1.out Hd h2 sW a1 a2 a3
    rw[NA.out]at MORE;clear h2 Hd sW HD
    go_wp2_with (at_builtin;refine wpList_append_lies _ rfl _ _ 92 rfl w.heap.size 36 i0 _ 6 48 Tryz.underlying92 PY rW tJ rX rfl (by decide) v t.E.length (zp t.E) rfl (SE.alloc _) ⟨w1.heap.size,0,P⟩ 1 1 (xM ⟨ec,en,ea,ef,er,eb⟩) rfl rfl (World.news_of_block (y _ _)) (by simp[xM,kp]) (by decide) (by simp[maxLen];omega) (by omega) (by simp;omega) _ rfl ?_;intro g cap' w3 Hq Hr hat fC)
    have HM:I (Rrn w b F t' (O (N ⟨g,0,P⟩) (t.E.length+1) cap') w3):=MORE.out _ _ _ Hq Hr hat
    go_roundw
    case rel=>exact⟨k+1,t',_,by omega,rfl,by go_num,HN,HM.out⟩
    case measure=>simp[intOf];omega
   ·have hw:t.X.W.getD k Q=Q:=by simpa using hw
    rw[hw]at sw;have HN:I (Pg.AckI s0 (k+1) t):=HA.out.no hw
    go_wp2
    go_roundw
    case rel=>exact⟨k+1,t,_,by omega,rfl,by go_num,HN,HR⟩
    case measure=>simp[intOf];omega
  ·have Rv:k=cn:=by omega
   have i1:¬(k:Int)<(cn:Int):=by omega
   clear hr
   have TP:I (Pg.AckI s0 s0.X.C.length t):=by rw[wD.out,<-Rv];exact HA
   have FN:I (Pg.WlkI t 0 t):=TP.out.wlk
   have NC:I (t.E.length<=4):=by have:=HA.out.E;rw[HE.out]at this;rw[I];omega
   have fe:I (t.X.C.length=cn):=Hg;clear Hg HA wD HE hk i1 Rv;have mD:I (Rrn w b F t v wr):=HR;generalize ht:t=a at*;clear ht HR
   go_wp2_with fail
   clear s2
   go_loopw [3,5] (fun u i wr=>∃(k:Nat) (t:Pg.Trs) (v:kh),k<=cn/\v=u/\i=J B k/\I (Pg.WlkI a k t)/\I (Rrn w b F t v wr)) (fun _ i _=>cn-(intOf i).toNat)
   case atStart=>exact⟨0,a,_,un _,rfl,rfl,FN,mD⟩
   case round=>
    obtain⟨k,t,v,hk,ev,rfl,HA,HR⟩:=hrel;subst ev;clear mD FN;have Hg:t.X.C.length=cn:=HA.out.len.trans fe.out;obtain⟨_,⟨D0,hr,_,_⟩,_,_⟩:=HR.out.ex;have s2:=hr.c2;rw[Hg]at s2;clear hr
    by_cases Hf:k<cn
    ·have i0':(0:Int)<=(k:Int):=by omega
     have i1:(k:Int)<(cn:Int):=by omega
     have HB:I (Pg.WlkR a k 0 t):=HA.out.begin (by rw[fe.out];exact Hf);have mD:I (Rrn w b F t v wr):=HR;clear Hg HA HR;generalize ht:t=z at*;clear ht
     go_wp2_with fail
     clear s2
     go_loopg [3] 6 (fun g u wr=>∃(i:Nat) (t:Pg.Trs) (v:kh),g=6-i/\v=u/\I (Pg.WlkR a k i t)/\I (Rrn w b F t v wr))
     case atStart=>exact⟨0,z,_,rfl,rfl,HB,mD⟩
     case round=>
      obtain⟨i,t,v,hg,ev,HA,HR⟩:=hrel;subst ev;clear mD HB;have Hg:t.X.C.length=cn:=HA.out.len.trans fe.out;obtain⟨_,⟨D0,hr,_,_⟩,_,_⟩:=HR.out.ex;have s2:=hr.c2;rw[Hg]at s2;have sr:=hr.row k (by omega);obtain⟨t8,DI,x8,pR⟩:=(hr.core k (by omega)).ck;have k1:=pR.c1;clear hr pR
      have dE:t.E.length<=100:=by have:=HA.out.E;have:=NC.out;have:=HA.out.le;omega
      by_cases ho:(t.X.C.getD k Pg.Cr.new).K.on=ki
      ·rw[ho]at k1
       obtain⟨GX,HN⟩:=HA.out.on (by rw[fe.out];exact Hf) ho;have HN:I (Pg.WlkR a k (i+1) (t.next (.wlk k))):=HN;clear ho;obtain⟨F1,h1,tH,dY⟩:=HR.out.ex;have HD:=ybB (.wlk k) wr h1;have H1:I (∀k,F1 k->F k\/w.heap.size<=k):=tH;have N1:I (∀k,v.ownBlock=N k->¬F1 k):=dY;have ROW:I (wr.ownsRow w.heap.size 36 6 v t.E.length (zp t.E)):=HR.out.row;have BW:I (w.heap.size<=wr.heap.size):=HR.out.but.size;have HU:I (t.next (.wlk k)=t.next (.wlk k)):=rfl;generalize nK:t.next (.wlk k)=t' at*;have Lj:I (t.next (.wlk k)=t'):=nK
       have Gf:t'.E.length=t.E.length+1:=by rw[<-nK,Pg.ylm]
       clear nK h1 tH dY HU;generalize hE:t.X.goE (.wlk k)=E at*;have NA:I (t.X.goE (.wlk k)=E):=hE;clear hE;obtain⟨ec,en,ea,ef,er,eb⟩:=E;simp only[Pg.Sx.wlk,Pg.Mp.zz,Pg.Sx.val,Pg.Ev.val]at HD
       go_wp2_with fail
       refine HD.mono ?_;rintro e w1 ⟨rfl,F2,h2,Hd,sW⟩;have SE:=zc ROW.out Hd N1.out;have bw1:w.heap.size<=w1.heap.size:=U BW.out Hd.size
       have MORE:I (∀w3 g cap,w3.ownsRow w.heap.size 36 6 (O (N ⟨g,0,P⟩) (t.E.length+1) cap) (t.E.length+1) (zp t.E++xM (t.X.goE (.wlk k)))->(w1.alloc (M #[J B ec,V en,J B ea,J B ef,J B er,V eb] 36)).grownBy w3 v.ownBlock->(v.ownBlock=N g\/g=(w1.alloc (M #[J B ec,V en,J B ea,J B ef,J B er,V eb] 36)).heap.size)->
        Rrn w b F t' (O (N ⟨g,0,P⟩) (t.E.length+1) cap) w3):=fun w3 g cap a1 a2 a3=>by rw[<-Lj.out];exact HR.out.more H1.out N1.out Hd h2 sW a1 a2 a3
       rw[NA.out]at MORE;clear h2 Hd sW HD
       go_wp2_with (at_builtin;refine wpList_append_lies _ rfl _ _ 92 rfl w.heap.size 36 i0 _ 6 48 Tryz.underlying92 PY rW tJ rX rfl (by decide) v t.E.length (zp t.E) rfl (SE.alloc _) ⟨w1.heap.size,0,P⟩ 1 1 (xM ⟨ec,en,ea,ef,er,eb⟩) rfl rfl (World.news_of_block (y _ _)) (by simp[xM,kp]) (by decide) (by simp[maxLen];omega) (by omega) (by simp;omega) _ rfl ?_;intro g cap' w3 Hq Hr hat fC)
       have HM:I (Rrn w b F t' (O (N ⟨g,0,P⟩) (t.E.length+1) cap') w3):=MORE.out _ _ _ Hq Hr hat
       go_roundg (6-(i+1))
       case rel=>exact⟨i+1,t',_,rfl,rfl,HN,HM.out⟩
       case measure=>omega
      ·have ho:(t.X.C.getD k Pg.Cr.new).K.on=Q:=by simpa using ho
       rw[ho]at k1;have HN:I (Pg.WlkI a (k+1) t):=HA.out.ended ho
       go_wp2
       go_roundw
       case rel=>exact⟨k+1,t,_,by omega,rfl,by go_num,HN,HR⟩
       case measure=>simp[intOf];omega
    ·have Rv:k=cn:=by omega
     have i1:¬(k:Int)<(cn:Int):=by omega
     have LB:I (Pg.WlkI a s0.X.C.length t):=by rw[<-TP.out.len,fe.out,<-Rv];exact HA
     obtain⟨ae,ce,rfl⟩:=zF HR.out.row
     go_wp2
     refine bodyPost_ret (v:=O ae t.E.length ce) ?_ rfl ⟨t,⟨a,TP.out,LB.out⟩,ae,⟨ce,rfl⟩,ydn HR.out.row,HR.out.but⟩;simp[results,Tryz.results41,go_sem]
end
end Go.Proofs.YtdphiompijbelaaGreat
namespace Go.Proofs.YtdphiompijbelaaGreat
open Go.ChangeShapes Go.WideShapes Go.ChangeAt Go.RowKit Go.Joins Go.Sort
section
attribute [local go_sem] Loose.gent
structure Wcr (w0 w:d) (b r:Nat) (X X':Pg.Spc) (L L0:List Pg.Mp) (ti:Int) (F R:Nat->Prop):Prop where
 wt:xB w b X L L0 ti F
 rs:ybc w r X' R
 ap:∀k,F k->¬R k
 bel:Lw w0 w
 hi:∀k,F k\/R k->w0.heap.size<=k
namespace Wcr
variable {w0 w w':d} {b r:Nat} {X X' Y:Pg.Spc} {L L0 L' L0':List Pg.Mp} {ti bL:Int} {F F' R R':Nat->Prop}
theorem grow (h:Wcr w0 w b r X Y L L0 ti F R) (hb:Lw w w'):Wcr w0 w' b r X Y L L0 ti F R:=⟨h.wt.grow hb,h.rs.grow hb,h.ap,zT h.bel hb,h.hi⟩
theorem stepW (h:Wcr w0 w b r X Y L L0 ti F R) (hw:xB w' b X' L' L0' bL F') (hb:But F w w') (hF:∀k,F' k->F k\/w.heap.size<=k):Wcr w0 w' b r X' Y L' L0' bL F' R:=
 ⟨hw,h.rs.keep hb fun k hk hf=>h.ap k hf hk,fun k hk=>(hF k hk).elim (h.ap k) fun e hr=>by have:=h.rs.lt hr;omega,
  h.bel.trans (hb.below h.bel.size fun k hk=>h.hi k (.inl hk)),fun k hk=>hk.elim (fun hk=>(hF k hk).elim (fun e=>h.hi k (.inl e)) fun e=>U h.bel.size e) fun hk=>h.hi k (.inr hk)⟩
theorem stepR (h:Wcr w0 w b r X Y L L0 ti F R) (hw:ybc w' r X' R') (hb:But R w w') (hF:∀k,R' k->R k\/w.heap.size<=k):Wcr w0 w' b r X X' L L0 ti F R':=
 ⟨h.wt.keep hb fun k hk hf=>h.ap k hk hf,hw,fun k hk hr=>(hF k hr).elim (h.ap k hk) fun e=>by have:=h.wt.lt hk;omega,
  h.bel.trans (hb.below h.bel.size fun k hk=>h.hi k (.inr hk)),fun k hk=>hk.elim (fun hk=>h.hi k (.inl hk)) fun hk=>(hF k hk).elim (fun e=>h.hi k (.inr e)) fun e=>U h.bel.size e⟩
end Wcr
theorem ydN {w:d} {b:Nat} {X:Pg.Spc} {F:Nat->Prop} (k:Nat) (h:vv w b X F) (hb:X.busy=Q):ur A 25 #[l (N ⟨b,0,P⟩),J B (k:Int)] w fun e w'=>e= .returned (V Q)/\Lw w w':=by
 obtain⟨D,h,rfl⟩:=h;refine(vJ (k:Int) w h).mono ?_;rintro e w' ⟨rfl,rfl⟩;rw[Pg.ykk,Pg.yjo hb];exact⟨rfl,zR _⟩
theorem yb0 {w:d} {b:Nat} {X:Pg.Spc} {F:Nat->Prop} (h:vv w b X F):ur A 19 #[l (N ⟨b,0,P⟩)] w fun e w'=>∃ad cap,e= .returned (O ad X.tabs.length cap)/\Lw w w':=by
 obtain⟨D,h,rfl⟩:=h;refine(j8 w h).mono ?_;rintro e w' ⟨ad,cap,rfl,_,_,hb⟩;exact⟨ad,cap,rfl,hb⟩
def evB (e:Pg.Ev):Obj:=M #[J B e.c,V e.ended,J B e.a,J B e.f,J B e.r,V e.back] 36 (0,0)
theorem ygp {w:d} {g:Nat} {e:Pg.Ev} (h:w.heap[g]?=N (evB e)) (c a f r:Int) (n k:Bool):
 ((((((w.setCell ⟨g,0,P⟩ (J B c)).setCell ⟨g,1,P⟩ (V n)).setCell ⟨g,2,P⟩ (J B a)).setCell ⟨g,3,P⟩ (J B f)).setCell ⟨g,4,P⟩ (J B r)).setCell ⟨g,5,P⟩ (V k)).heap[g]?=N (evB ⟨c,n,a,f,r,k⟩):=by
 have h1:=block_setCell (i:=0) h (J B c);have h2:=block_setCell (i:=1) h1 (V n);have h3:=block_setCell (i:=2) h2 (J B a);have h4:=block_setCell (i:=3) h3 (J B f);have h5:=block_setCell (i:=4) h4 (J B r);have h6:=block_setCell (i:=5) h5 (V k);exact h6
structure Cal (w0 w:d) (b pb:Nat) (dV:Option Addr) (pQ cn:Nat) (L L0:List Pg.Mp) (ti:Int) (X:Pg.Spc) (F:Nat->Prop):Prop where
 wt:xB w b X L L0 ti F
 ps:ygc w pb dV pQ L
 bel:Lw w0 w
 hi:∀k,F k->w0.heap.size<=k
 np:¬F pb
 nm:∀g,dV=N ⟨g,0,P⟩->0<L.length->¬F g
 calm:X.busy=Q
 len:X.C.length=cn
namespace Cal
variable {w0 w w':d} {b pb:Nat} {dV:Option Addr} {pQ cn:Nat} {L L0:List Pg.Mp} {ti:Int} {X:Pg.Spc} {F F':Nat->Prop}
theorem grow (h:Cal w0 w b pb dV pQ cn L L0 ti X F) (hb:Lw w w'):Cal w0 w' b pb dV pQ cn L L0 ti X F:=⟨h.wt.grow hb,h.ps.grow hb,zT h.bel hb,h.hi,h.np,h.nm,h.calm,h.len⟩
theorem keep (h:Cal w0 w b pb dV pQ cn L L0 ti X F) {g:Nat} (hb:But (fun x=>x=g) w w') (hg:w0.heap.size<=g) (n1:¬F g) (n2:g≠pb) (n3:∀x,dV=N ⟨x,0,P⟩->0<L.length->x≠g):Cal w0 w' b pb dV pQ cn L L0 ti X F:=
 ⟨h.wt.keep hb fun k hk e=>n1 (e▸hk),⟨(hb.cell (a:=⟨pb,0,P⟩) h.ps.lb fun e=>n2 e.symm).trans h.ps.c0,(kO L.length).elim (fun e j hj=>by omega) fun e=>ye2 h.ps.maps hb fun x hx=>n3 x hx e,h.ps.good⟩,
  h.bel.trans (hb.below h.bel.size fun k hk=>by rw[hk];exact hg),h.hi,h.np,h.nm,h.calm,h.len⟩
theorem step (h:Cal w0 w b pb dV pQ cn L L0 ti X F) (x:Pg.Sx) (hk:¬(1<=x.kind/\x.kind<=3)) (hw:xB w' b (X.goN x) (X.nxL L x) (X.nxP L L0 x) (ti+X.chg x) F') (hb:But F w w') (hF:∀k,F' k->F k\/w.heap.size<=k) (hc:(X.goN x).busy=Q) (hl:(X.goN x).C.length=X.C.length):
 Cal w0 w' b pb dV pQ cn L L0 ti (X.goN x) F':=by
 obtain⟨e1,e2⟩:=Pg.yks (X:=X) (L:=L) (L0:=L0) x fun e=>hk ⟨e.1,e.2.1⟩
 have e3:X.chg x=0:=by
  unfold Pg.Spc.chg;rw[iN fun e=>hk ⟨e.1,e.2.1⟩]
 rw[e1,e2,e3,Int.add_zero]at hw
 refine⟨hw,⟨(hb.cell (a:=⟨pb,0,P⟩) h.ps.lb h.np).trans h.ps.c0,(kO L.length).elim (fun e j hj=>by omega) fun e=>ye2 h.ps.maps hb fun x hx=>h.nm x hx e,h.ps.good⟩,
  h.bel.trans (hb.below h.bel.size h.hi),fun k hk=>(hF k hk).elim (h.hi k) fun e=>U h.bel.size e,fun hp=>(hF pb hp).elim h.np fun e=>by have:=h.ps.lb;omega,fun g hg hl hf=>(hF g hf).elim (h.nm g hg hl) fun e=> ?_,hc,hl.trans h.len⟩
 obtain⟨g',e',hl',_⟩:=h.ps.maps 0 hl;rw[hg]at e';injection e' with e';injection e' with e';omega
end Cal
theorem traceCalms_walk (W:d) (co:Int) (uk:Pg.fits co) (n:Int) (hn:Pg.fits n) (ad:Option Addr) (len cap:Nat) (q:Nat->Bst)
 (hq:∀j,j<len->(∃b o,ad=N ⟨b,o,P⟩/\b<W.heap.size/\yal W b (o+j*9) (q j))/\jp (q j)) (aq ak:Int) (au:Bool) (Dc:Pg.fits aq) (hak:Pg.fits ak):
 ur A 6 #[J B co,J B n,O ad len cap,uv #[J B aq,J B ak,V au]] W fun e W'=>e= .returned (V ki)/\Lw W W':=by
 have HQ:I _:=hq;clear hq;obtain⟨W0,Mr⟩:=eY (W.alloc (M #[J B aq,J B ak,V au] 41))
 have OL:I (Lw W W0):=by rw[I,Mr];exact zA (zR _) _
 have Np:I (W0.heap[W.heap.size]?=N (M #[J B aq,J B ak,V au] 41 (0,0))):=by rw[I,Mr];exact y _ _
 go_enter Tryz.func6,Tryz.ntmps6
 go_upto_region 1 with fail
 rw[<-Mr];clear Mr
 go_wp2_with fail
 refine(yaD _).mono ?_;rintro e w1 ⟨rfl,Ha⟩;have HB:I (Lw W w1):=zT OL.out Ha;have BX:I (w1.heap[W.heap.size]?=N (M #[J B aq,J B ak,V au] 41 (0,0))):=(Ha.block _ (T.1 Np.out).1).trans Np.out;clear Ha OL Np
 go_wp2_with fail
 refine(yav ad len cap 200 _).mono ?_;rintro e w2 ⟨rfl,rfl⟩
 by_cases hl:200<len
 ·as_aux_lemma=>
  have d1:decide ((200:Int)<(len:Int))=ki:=by simp;omega
  go_wp2
  go_ret
  exact⟨rfl,HB.out⟩
 ·have d1:decide ((200:Int)<(len:Int))=Q:=by simp;omega
  by_cases fT:co<1\/4<co\/n<1\/128<n
  ·as_aux_lemma=>
   have HN:=fun w=>yfr co n w fT;clear fT HQ
   go_wp2_with fail
   refine(HN _).mono ?_;rintro e w3 ⟨rfl,He⟩;have rR:I (Lw W w3):=zT HB.out He;clear He HN
   go_wp2
   go_ret
   exact⟨rfl,zA rR.out _⟩
  ·obtain⟨cn,rfl⟩:=m (show 0<=co by omega)
   obtain⟨nn,rfl⟩:=m (show 0<=n by omega);have HN:=fun w=>yak cn nn w (by omega) (by omega) (by omega) (by omega);have FD:=fun w=>yce cn nn (by omega) (by omega) (by omega) (by omega) w
   have lY:I (cn<=4/\nn<=128):=by rw[I];omega
   clear fT
   as_aux_lemma=>
   go_wp2_with fail
   refine(HN _).mono ?_;rintro e w3 ⟨b,F,rfl,h3,He,gT⟩;obtain⟨W4,rJ⟩:=eY (w3.alloc (M #[J B 0,J B 0] 27))
   have Hl:Lw w3 W4:=by rw[rJ];exact zA (zR _) _
   have y0:W4.cell? ⟨w3.heap.size,0,P⟩=N (J B 0):=by rw[rJ];simp[go_sem]
   have h4:I (xB W4 b (Pg.Spc.new cn nn) [] [] 0 F):=h3.grow Hl;have rR:I (Lw w2 W4):=zT He Hl;have sU:I (∀k,F k->w2.heap.size<=k):=gT;clear h3 He gT HN Hl
   go_upto_region 6 with fail
   rw[<-rJ];clear rJ
   go_wp2_with fail
   refine(FD _).mono ?_;rintro e w7 ⟨r,R,rfl,r7,rZ,Kh⟩
   have S8:I (Wcr w2 w7 b r (Pg.Spc.new cn nn) (Pg.Spc.new cn nn) [] [] 0 F R):=by
    have h7:=xB.grow h4.out rZ;refine⟨h7,r7,fun k hk hr=> ?_,zT rR.out rZ,fun k hk=>hk.elim (sU.out k) fun hk=>U rR.out.size (Kh k hk)⟩;have:=xB.lt h4.out hk;have:=Kh k hr;omega
   clear r7 rZ Kh h4 rR sU FD y0
   go_wp2
   go_loopw [12] (fun i wr=>∃k:Nat,k<=len/\i=J B k/\I (∃X L L0 ti F R,Wcr w2 wr b r X X L L0 ti F R/\0<=ti/\ti<=k/\X.C.length=cn/\X.S.n=nn)) (fun i _=>len-(intOf i).toNat)
   case atStart=>exact⟨0,by omega,rfl,⟨_,_,_,_,_,_,S8.out,by omega,by omega,by simp[Pg.Spc.new],Pg.ylS _⟩⟩
   case round=>
    obtain⟨k,hk,rfl,HR⟩:=hrel;clear S8
    by_cases Hf:k<len
    ·as_aux_lemma=>
     obtain⟨X,L,L0,ti,F,R,S,t0,t1,nV,Dp⟩:=HR.out;obtain⟨⟨xb,xo,rfl,pM,hx⟩,cK⟩:=HQ.out k Hf
     have i0:(0:Int)<=(k:Int):=by omega
     have i1:(k:Int)<(len:Int):=by omega
     generalize q k=x at*;have hI:=S.wt.inv;have W9:I ((X.goN x.sx).C.length=cn/\(X.goN x.sx).S.n=nn):=⟨(Pg.yiz hI x.sx).2.trans nV,(Pg.yiz hI x.sx).1.trans Dp⟩;have uQ:=vA x.sx cK wr S.wt (by omega);have wE:=fun w' (h:ybc w' r X R)=>ybB x.sx w' h
     have TI:I (0<=ti+X.chg x.sx/\ti+X.chg x.sx<=(k:Int)+1):=by
      unfold I Pg.Spc.chg
      split<;>omega
     have SH:I (Wcr w2 wr b r X X L L0 ti F R):=S;clear HR hI S t0 t1 cK nV Dp;generalize hE:X.goE x.sx=E at*;generalize hN:X.goN x.sx=X' at*;generalize X.nxL L x.sx=L' at*;generalize X.nxP L L0 x.sx=L0' at*;generalize X.chg x.sx=cg at*;clear hE hN;obtain⟨kd,cr,⟨mp,ms,mf,mr⟩,xq,xk,xu⟩:=x;obtain⟨x0,x1,x2,x3,x4,x5,x6,x7,x8⟩:=hx
     have XS:I (∀w',Lw W w'->w'.cell? ⟨xb,xo+k*9,P⟩=N (J B kd)/\w'.cell? ⟨xb,xo+k*9+1,P⟩=N (J B cr)/\w'.cell? ⟨xb,xo+k*9+2,P⟩=N (J B mp)/\w'.cell? ⟨xb,xo+k*9+3,P⟩=N (J B ms)/\w'.cell? ⟨xb,xo+k*9+4,P⟩=N (J B mf)/\w'.cell? ⟨xb,xo+k*9+5,P⟩=N (J B mr)/\w'.cell? ⟨xb,xo+k*9+6,P⟩=N (J B xq)/\w'.cell? ⟨xb,xo+k*9+7,P⟩=N (J B xk)/\w'.cell? ⟨xb,xo+k*9+8,P⟩=N (V xu)):=fun w' hb=>
      ⟨(hb.cell (p:=⟨xb,_,P⟩) pM).trans x0,(hb.cell (p:=⟨xb,_,P⟩) pM).trans x1,(hb.cell (p:=⟨xb,_,P⟩) pM).trans x2,(hb.cell (p:=⟨xb,_,P⟩) pM).trans x3,(hb.cell (p:=⟨xb,_,P⟩) pM).trans x4,(hb.cell (p:=⟨xb,_,P⟩) pM).trans x5,(hb.cell (p:=⟨xb,_,P⟩) pM).trans x6,(hb.cell (p:=⟨xb,_,P⟩) pM).trans x7,(hb.cell (p:=⟨xb,_,P⟩) pM).trans x8⟩
     clear x0 x1 x2 x3 x4 x5 x6 x7 x8 pM;obtain⟨ec,en,ea,ef,er,eb⟩:=E;simp only[Bst.sx,Pg.Sx.val,Pg.Ev.val]at uQ wE;obtain⟨x0,x1,x2,x3,x4,x5,x6,x7,x8⟩:=XS.out _ (zT HB.out SH.out.bel)
     go_wp2_with fail
     refine uQ.mono ?_;rintro e w3 ⟨rfl,F2,h2,Hd,sW⟩;have P2:I _:=SH.out.stepW h2 Hd sW;clear h2 Hd sW uQ SH x0 x1 x2 x3 x4 x5 x6 x7 x8;obtain⟨x0,x1,x2,x3,x4,x5,x6,x7,x8⟩:=XS.out _ (zT HB.out P2.out.bel);have wE:=wE _ P2.out.rs
     go_wp2_with fail
     refine wE.mono ?_;rintro e w4 ⟨rfl,R4,h4,Hl,Ib⟩;have P4:I _:=P2.out.stepR h4 Hl Ib;clear h4 Hl Ib wE P2 x0 x1 x2 x3 x4 x5 x6 x7 x8
     go_wp2_with fail
     exact⟨⟨k+1,by omega,by go_num,⟨_,_,_,_,_,_,P4.out,TI.out.1,by have:=TI.out.2;omega,W9.out⟩⟩,by simp[intOf];omega⟩
    ·have i1:¬(k:Int)<(len:Int):=by omega
     obtain⟨X,L,L0,ti,F,R,S,t0,t1,nV,Dp⟩:=HR.out;clear HR HQ
     as_aux_lemma=>
     have hI:=S.wt.inv;have SH:I (Wcr w2 wr b r X X L L0 ti F R):=S;have aH:=yem (s0:=⟨X,L,L0,ti,[]⟩) wr S.wt rfl (by simp only;omega) (by simp only;rw[nV];exact lY.out.1);have OM:=fun w' (h:ybc w' r X R)=>yeb (s0:=⟨X,L,L0,ti,[]⟩) w' h rfl hI (by simp only;rw[nV];exact lY.out.1);have FP:I (X.C.length=cn/\X.S.n=nn):=⟨nV,Dp⟩;clear S hI nV Dp
     go_wp2_with fail
     refine aH.mono ?_;rintro e w3 ⟨t,ae,ce,dH,rfl,Tv,He,F3,h3,gT,Ho⟩;have REST:I (Pg.Rest ⟨X,L,L0,ti,[]⟩ t):=dH;have P3:=SH.out.stepW h3 He gT;obtain⟨W4,rJ⟩:=eY (w3.alloc (M #[J B 0,J B 0] 27))
     have Hl:Lw w3 W4:=by rw[rJ];exact zA (zR _) _
     have y0:W4.cell? ⟨w3.heap.size,0,P⟩=N (J B 0):=by rw[rJ];simp[go_sem]
     have P4:I (Wcr w2 W4 b r t.X X t.L t.L0 t.ti F3 R):=P3.grow Hl;have OC:I (qm W4 ae t.E):=Tv.below Hl
     have NR:I (∀g,ae=N ⟨g,0,P⟩->¬R g):=fun g hg hr=>by have:=SH.out.rs.lt hr;have:=(Ho g hg).1;omega
     have wP:I (t.E.length<=1000):=by
      obtain⟨a,r1,r2⟩:=dH;have e1:=r1.E;have e2:=r2.E;have e3:([]:List Pg.Ev).length=0:=rfl;have e4:=FP.out.1;have e5:=lY.out.1;simp only at e1 e2;rw[I];omega
     have Fa:=OM _ P4.out.rs;clear OM dH h3 He gT Ho Tv Hl P3 aH SH
     go_upto_region 15 with fail
     rw[<-rJ];clear rJ
     go_wp2_with fail
     refine Fa.mono ?_;rintro e w5 ⟨t5,a5,c5,aW,rfl,GJ,rD⟩;obtain rfl:t=t5:=REST.out.same aW
     have EG:qm w5 ae t.E:=fun j hj=>by
      obtain⟨g,e,hg,hm⟩:=OC.out j hj;exact⟨g,e,Nat.lt_of_lt_of_le hg rD.size,hm.of fun p=>rD.cell (a:=⟨g,p,P⟩) hg (NR.out g e)⟩
     have oM:=yaC (cap:=ce) (cap':=c5) w5 EG GJ (U wP.out (by decide));have H5:xB w5 b t.X t.L t.L0 t.ti F3:=P4.out.wt.keep rD fun k hk hr=>P4.out.ap k hk hr;have B5:Lw w2 w5:=P4.out.bel.trans (rD.below P4.out.bel.size fun k hk=>P4.out.hi k (.inr hk));have F6:I (∀k,F3 k->w2.heap.size<=k):=fun k hk=>P4.out.hi k (.inl hk);have H5:I (xB w5 b t.X t.L t.L0 t.ti F3):=H5;have B5:I (Lw w2 w5):=B5;clear aW GJ rD EG Fa OC NR P4 y0
     go_wp2_with fail
     refine oM.mono ?_;rintro e w6 ⟨rfl,ru⟩;have H6:I (xB w6 b t.X t.L t.L0 t.ti F3):=xB.grow H5.out ru;have B6:I (Lw w2 w6):=zT B5.out ru
     have ST:I (t.X.busy=Q/\(∀j,j<cn->(t.X.C.getD j Pg.Cr.new).K.on=Q)/\t.X.C.length=cn/\t.X.S.n=nn/\0<=t.ti/\t.ti<=100000):=by
      obtain⟨a,r1,r2⟩:=REST.out;have e1:=r1.len;have e2:=r2.len;have e3:=r1.n;have e4:=r2.n;have e5:=r1.ti;have e6:=r2.ti;simp only at e1 e3 e5;refine⟨r2.calm,fun j hj=>r2.off j (by simp only;rw[FP.out.1];exact hj),by rw[e2,e1];exact FP.out.1,by rw[e4,e3];exact FP.out.2,by omega,by omega⟩
     clear oM ru H5 B5 REST FP wP t0 t1;obtain⟨X',L',L0',bL,E'⟩:=t;simp only at H6 ST;have HI:I (Pg.Inv X' L' L0'):=H6.out.inv;have Lt:I _:=Pg.yjb HI.out;have O3:I _:=Pg.Inv.tabs HI.out;have NL:I _:=Pg.yil HI.out.bas.rep;obtain⟨sp,Fs,c0,hd⟩:=H6.out.space;have NU:=yeI hd;rw[Pg.Inv.maps HI.out]at NU;clear hd X L L0 ti R
     go_wp2_with fail
     refine NU.mono ?_;rintro e w7 ⟨dV,pQ,rfl,IV,MO,rZ⟩;have H7:I (xB w7 b X' L' L0' bL F3):=xB.grow H6.out rZ;have B7:I (Lw w2 w7):=zT B6.out rZ;have M7:I (zm w7 dV L'):=IV
     have NM:I (∀g,dV=N ⟨g,0,P⟩->¬F3 g):=fun g hg hf=>by have:=xB.lt H6.out hf;have:=MO g hg;omega
     have c7:=Z rZ c0;clear IV MO rZ NU c0 H6 B6
     have tl:I ((X'.tabs.length:Int)+X'.S.free=(nn:Int)/\Pg.needed L'=(X'.tabs.length:Int)/\X'.G.length=0/\L'.length<=5000):=by
      have h1:=Lt.out.2.2.2.1;have h2:=Lt.out.2.2.2.2;rw[<-O3.out]at h1 h2;have h3:=HI.out.calm ST.out.1;rw[h3]at h1 ⊢;exact⟨by have:=ST.out.2.2.2.1;simp at h1;omega,h2,rfl,U NL.out.len (by decide)⟩
     go_upto_region 18 with fail
     go_cut [117]from 24 to 195 (fun s wc=>s=V Q/\I (Lw w7 wc))
     case first=>
      as_aux_lemma=>
      have OG:I (xB w7.drew b X' L' L0' bL F3):=xB.grow H7.out (zR w7).drew;have M7d:I (zm w7.drew dV L'):=zm.below M7.out (zR w7).drew;have B7d:I (Lw w7 w7.drew):=(zR w7).drew
      have OA:I (w7.drew.cell? ⟨b,0,P⟩=N (l (N ⟨sp,0,P⟩))):=by rw[I];simpa using c7
      have Tm:=ST.out.1;have IA:=tl.out.2.2.1;have dZ:=tl.out.2.1;have gI:=tl.out.1;generalize Iy:X'.S.free=fr at*;generalize Aj:X'.tabs.length=tn at*
      have n1:(((tn:Nat):Int) !=((tn:Nat):Int))=Q:=by simp
      have n2:(fr !=((nn:Nat):Int)-((tn:Nat):Int))=Q:=by simp;omega
      have n3:IntKind.i64.wrap (((nn:Nat):Int)-((tn:Nat):Int))=((nn:Nat):Int)-((tn:Nat):Int):=by
       have:=lY.out.2
       have h0:0<=fr:=by rw[<-Iy];exact HI.out.bas.ok.ykU.1
       exact xJ (by omega) (by omega)
      clear gI H7 M7 B7
      go_region_held3 (fun w'=>w'.cell? ⟨b,0,P⟩=N (l (N ⟨sp,0,P⟩))) (go_keep) (first
       | (go_at_call 19;refine(yb0 (xB.at' Cz.out Nr.out).choose_spec).mono ?_;rintro e w13 ⟨ad13,Ex,rfl,fQ⟩;have CB:I _:=xB.grow Cz.out fQ;have LG:I _:=zm.below M12.out fQ;have Cv:I _:=zT AZ.out fQ;have A9:I _:=Z fQ Nr.out;have c13:=A9.out;rw[Aj])
       | (go_at_call 21;refine(jq.free _ (xB.at' DU.out Nq.out).choose_spec).mono ?_;rintro e DJ ⟨rfl,bv⟩;have Cz:I _:=xB.grow DU.out bv;have M12:I _:=zm.below M11.out bv;have AZ:I _:=zT B11.out bv;have Nr:I _:=Z bv Nq.out;have c12:=Nr.out;rw[Iy])
       | (go_at_call 42;refine(yd1 NL.out.ok _ Ec.out tl.out.2.2.2).mono ?_;rintro e lV ⟨rfl,Rk⟩;have DU:I _:=xB.grow DT.out Rk;have M11:I _:=zm.below Ec.out Rk;have B11:I _:=zT B10.out Rk;have Nq:I _:=Z Rk Cw.out;have c11:=Nq.out;rw[dZ])
       | (go_at_call 19;refine(yb0 (xB.at' H9.out C9.out).choose_spec).mono ?_;rintro e aG ⟨ad10,Ew,rfl,df⟩;have DT:I _:=xB.grow H9.out df;have Ec:I _:=zm.below M9.out df;have B10:I _:=zT B9.out df;have Cw:I _:=Z df C9.out;have c10:=Cw.out;rw[Aj])
       | (go_at_call 23;refine(jq.gone _ (xB.at' H8.out C8.out).choose_spec).mono ?_;rintro e w9 ⟨rfl,gu⟩;have H9:I _:=xB.grow H8.out gu;have M9:I _:=zm.below M8.out gu;have B9:I _:=zT B8.out gu;have C9:I _:=Z gu C8.out;have c9:=C9.out;rw[IA])
       | (go_at_call 20;refine(jq.busy _ (xB.at' OG.out OA.out).choose_spec).mono ?_;rintro e w8 ⟨rfl,sH⟩;have H8:I _:=xB.grow OG.out sH;have M8:I _:=zm.below M7d.out sH;have B8:I _:=zT B7d.out sH;have C8:I _:=Z sH OA.out;have c8:=C8.out;rw[Tm]))
      all_goals
       go_wp2
       go_meet
       case rel=>exact⟨rfl,Cv.out⟩
     case rest=>
     obtain⟨rfl,wu⟩:=hcut;have CB:I _:=xB.grow H7.out wu.out;have LG:I _:=zm.below M7.out wu.out;have Cv:I _:=zT B7.out wu.out;clear wu H7 M7 B7 c7
     go_upto_region 20 with fail
     obtain⟨Ep,Ri⟩:=eY (wc.alloc (M #[O dV L'.length pQ] 102))
     have Rl:Lw wc Ep:=by rw[Ri];exact zA (zR _) _
     have Ej:I (Cal w2 Ep b wc.heap.size dV pQ cn L' L0' bL X' F3):=
      ⟨xB.grow CB.out Rl,⟨by rw[Ri];simp[go_sem],zm.below LG.out Rl,NL.out⟩,zT Cv.out Rl,F6.out,fun e=>by have:=xB.lt CB.out e;omega,fun g hg _=>NM.out g hg,ST.out.1,ST.out.2.2.1⟩
     have OF:I (∀j,j<cn->(X'.C.getD j Pg.Cr.new).K.on=Q):=ST.out.2.1;have TI:I (0<=bL/\bL<=100000):=ST.out.2.2.2.2;clear CB LG Cv tl HI Lt O3 ST NM F6
     go_upto_region 21 with fail
     rw[<-Ri];clear Ri Rl
     go_wp2_with fail
     generalize wc.heap.size=pb at*
     as_aux_lemma=>
     go_loopw [17] (fun i wr=>∃k:Nat,k<=cn/\i=J B k/\I (∃X F,Cal w2 wr b pb dV pQ cn L' L0' bL X F/\∀j,j<cn->(X.C.getD j Pg.Cr.new).K.on=Q)) (fun i _=>cn-(intOf i).toNat)
     case atStart=>exact⟨0,by omega,rfl,⟨X',F3,Ej.out,OF.out⟩⟩
     case round=>
      obtain⟨k,hk,rfl,HR⟩:=hrel;clear Ej OF;obtain⟨X,F,S,fE⟩:=HR.out;have SH:I (Cal w2 wr b pb dV pQ cn L' L0' bL X F):=S;have OFF:I (∀j,j<cn->(X.C.getD j Pg.Cr.new).K.on=Q):=fE;clear HR S fE
      by_cases Hf:k<cn
      ·have i1:(k:Int)<(cn:Int):=by omega
       obtain⟨sp,Fs,cb,hd⟩:=SH.out.wt.space;have iy:=ycP (k:Int) hd;rw[Pg.ykP,OFF.out k Hf]at iy;generalize (X.C.getD k Pg.Cr.new).K.q=oq at*;generalize (X.C.getD k Pg.Cr.new).K.k=ok at*;generalize (X.C.getD k Pg.Cr.new).K.u=ou at*;clear hd
       go_wp2_with fail
       refine iy.mono ?_;rintro e w3 ⟨rfl,He⟩;obtain⟨W4,rJ⟩:=eY (w3.alloc (M #[J B oq,J B ok,V ou] 41))
       have Hl:Lw w3 W4:=by rw[rJ];exact zA (zR _) _
       have S4:I (Cal w2 W4 b pb dV pQ cn L' L0' bL X F):=SH.out.grow (zT He Hl);have c4:=Z (zT He Hl) cb;have aL:=ydN k (xB.at' S4.out.wt c4).choose_spec S4.out.calm;clear He Hl iy cb SH
       go_upto_region 25 with fail
       rw[<-rJ];clear rJ
       go_wp2_with fail
       refine aL.mono ?_;rintro e w5 ⟨rfl,rD⟩;have S5:I (Cal w2 w5 b pb dV pQ cn L' L0' bL X F):=S4.out.grow rD;obtain⟨⟨a0,a1,a2⟩,_⟩:=ybz ((S5.out.bel.block _ (T.1 BX.out).1).trans BX.out);have C0:=Pg.cst_begin S5.out.wt.inv S5.out.calm (c:=k) (by rw[S5.out.len];exact Hf) (OFF.out k Hf) .zz aq ak au;obtain⟨x,hx⟩:=eY (Pg.Sx.acc k .zz aq ak au);rw[<-hx]at C0
       have Cf:qu x:=by rw[hx];simp[qu,Pg.Sx.acc,Pg.Mp.zz,Pg.fits];exact⟨Dc,hak⟩
       have uQ:=vA x Cf w5 S5.out.wt (by have:=TI.out;omega)
       have HV:x.val=uv #[J B 4,J B (k:Int),J B 0,J B 0,J B 0,J B 0,J B aq,J B ak,V au]:=by rw[hx];rfl
       rw[HV]at uQ
       have Sa:¬(1<=x.kind/\x.kind<=3):=by rw[hx];simp[Pg.Sx.acc]
       have Em:I (∀w' F',xB w' b (X.goN x) (X.nxL L' x) (X.nxP L' L0' x) (bL+X.chg x) F'->But F w5 w'->(∀k,F' k->F k\/w5.heap.size<=k)->Cal w2 w' b pb dV pQ cn L' L0' bL (X.goN x) F'):=fun w' F' h1 h2 h3=>S5.out.step x Sa h1 h2 h3 C0.calm C0.len;have oJ:I (Pg.Cst X L' L0' k aq ak au 0 (X.goE x) (X.goN x)):=C0
       have LJ:I (pb<w5.heap.size/\∀g,dV=N ⟨g,0,P⟩->0<L'.length->g<w5.heap.size):=⟨S5.out.ps.lb,fun g hg hl=>by
        obtain⟨g',e',hl',_⟩:=S5.out.ps.maps 0 hl;rw[hg]at e';injection e' with e';injection e' with e'
        omega⟩
       have Er:I (w2.heap.size<=w5.heap.size):=S5.out.bel.size;clear rD aL c4 S4 hx Cf HV Sa C0;generalize X.goE x=E at*;generalize X.goN x=X6 at*;generalize X.nxL L' x=L6 at*;generalize X.nxP L' L0' x=L60 at*;generalize X.chg x=cg at*;obtain⟨ec,en,ea,ef,er,eb⟩:=E;simp only[Pg.Ev.val]at uQ
       go_wp2_with fail
       refine uQ.mono ?_;rintro e w6 ⟨rfl,F6,h6,ru,Gg⟩;have S6:=Em.out _ _ h6 ru Gg;obtain⟨W7,bR⟩:=eY ((w6.alloc (M #[J B ec,V en,J B ea,J B ef,J B er,V eb] 36)).alloc (M #[J B 0,J B 0] 27))
       have rZ:Lw w6 W7:=by rw[bR];exact zA (zA (zR _) _) _
       have S7:I (Cal w2 W7 b pb dV pQ cn L' L0' bL X6 F6):=S6.grow rZ
       have RP:I (W7.heap[w6.heap.size]?=N (evB ⟨ec,en,ea,ef,er,eb⟩)):=by
        rw[I,bR,Below.heap_alloc _ _ _ (by simp)];exact y _ _
       have Ee:I (¬F6 w6.heap.size):=fun e=>by have:=S6.wt.lt e;omega
       have BN:I (w2.heap.size<=w6.heap.size/\w6.heap.size≠pb/\∀x,dV=N ⟨x,0,P⟩->0<L'.length->x≠w6.heap.size):=
        ⟨U Er.out ru.size,fun e=>by have:=LJ.out.1;have:=ru.size;omega,fun x hx hl e=>by have:=LJ.out.2 x hx hl;have:=ru.size;omega⟩
       clear h6 ru Gg S6 rZ uQ Em S5 LJ Er a0 a1 a2
       go_upto_region 28 with fail
       rw[<-bR];clear bR;generalize w6.heap.size=bx at*
       go_wp2_with fail
       as_aux_lemma=>
       go_loopw [22] (fun s22 wr=>∃(i:Nat) (e:Pg.Ev) (X1:Pg.Spc) (F1:Nat->Prop),i<=6/\s22=J B i/\I (Pg.Cst X L' L0' k aq ak au i e X1)/\I (Cal w2 wr b pb dV pQ cn L' L0' bL X1 F1)/\I (wr.heap[bx]?=N (evB e))/\I (¬F1 bx)) (fun i _=>6-(intOf i).toNat)
       case atStart=>exact⟨0,_,_,_,by omega,rfl,oJ,S7,RP,Ee⟩
       case round=>
        obtain⟨i,e,X1,F1,hi,rfl,HC,S,EB,NE⟩:=hrel;clear oJ S7 RP Ee;obtain⟨⟨e0,e1,e2,e3,e4,e5⟩,_⟩:=zE EB.out
        by_cases kJ:i<6/\e.c=0/\e.ended=Q
        ·obtain⟨h6,rT,bI⟩:=kJ
         have j1:(i:Int)<6:=by omega
         rw[rT]at e0;rw[bI]at e1;obtain⟨ME,C1⟩:=Pg.cst_step HC.out (by rw[S.out.len];exact Hf) rT bI;obtain⟨x,hx⟩:=eY (Pg.Sx.wlk k);rw[<-hx]at C1
         have Cf:qu x:=by rw[hx];simp[qu,Pg.Sx.wlk,Pg.Mp.zz,Pg.fits]
         have uQ:=vA x Cf wr S.out.wt (by have:=TI.out;omega)
         have HV:x.val=uv #[J B 5,J B (k:Int),J B 0,J B 0,J B 0,J B 0,J B 0,J B 0,V Q]:=by rw[hx];rfl
         rw[HV]at uQ
         have Sa:¬(1<=x.kind/\x.kind<=3):=by rw[hx];simp[Pg.Sx.wlk]
         have Eo:I (∀w' F',xB w' b (X1.goN x) (X1.nxL L' x) (X1.nxP L' L0' x) (bL+X1.chg x) F'->But F1 wr w'->(∀k,F' k->F1 k\/wr.heap.size<=k)->Cal w2 w' b pb dV pQ cn L' L0' bL (X1.goN x) F'/\¬F' bx):=fun w' F' h1 h2 h3=>
          ⟨S.out.step x Sa h1 h2 h3 C1.calm (C1.len.trans HC.out.len.symm),fun e=>(h3 bx e).elim NE.out fun e=>by have:=(T.1 EB.out).1;omega⟩
         have eO:I (Pg.Cst X L' L0' k aq ak au (i+1) (X1.goE x) (X1.goN x)):=C1;clear hx Cf HV Sa C1 rT bI;generalize X1.goE x=E at*;generalize X1.goN x=X6 at*;generalize X1.nxL L' x=L6 at*;generalize X1.nxP L' L0' x=L60 at*;generalize X1.chg x=cg at*;obtain⟨FY,en',SI,SK,SL,EE⟩:=E;simp only[Pg.Ev.val]at uQ
         go_wp2_with fail
         refine uQ.mono ?_;rintro e' w6 ⟨rfl,F6,EH,ru,Gg⟩;obtain⟨S6,Ed⟩:=Eo.out _ _ EH ru Gg;have OB:I (w6.heap[bx]?=N (evB e)):=(ru.block bx (T.1 EB.out).1 NE.out).trans EB.out;have S6:I (Cal w2 w6 b pb dV pQ cn L' L0' bL X6 F6):=S6;obtain⟨⟨g0,g1,g2,g3,g4,g5⟩,gf⟩:=zE OB.out;clear EH ru Gg uQ Eo S EB HC NE e0 e1 e2 e3 e4 e5
         go_wp2_with fail
         exact⟨⟨i+1,_,_,_,by omega,by go_num,eO,S6.out.keep (ybL w6 bx _ _ _ _ _ _) BN.out.1 Ed BN.out.2.1 BN.out.2.2,ygp OB.out _ _ _ _ _ _,Ed⟩,by simp[intOf];omega⟩
        ·obtain⟨TC,iE⟩:=Pg.cst_end HC.out (by
          by_cases h1:i=6
          ·exact .inl h1
          ·by_cases h2:e.c=0
           ·refine .inr (.inr ?_)
            cases h3:e.ended
            ·exact absurd ⟨by omega,h2,h3⟩ kJ
            ·rfl
           ·exact .inr (.inl h2))
         have NX:I (∀w',Cal w2 w' b pb dV pQ cn L' L0' bL X1 F1->∃X F,Cal w2 w' b pb dV pQ cn L' L0' bL X F/\∀j,j<cn->(X.C.getD j Pg.Cr.new).K.on=Q):=fun w' h=>⟨X1,F1,h,fun j hj=>by
          by_cases e:j=k
          ·rw[e];exact TC
          ·rw[HC.out.oth j e];exact OFF.out j hj⟩
         obtain⟨FY,en',SI,SK,SL,EE⟩:=e;simp only at e0 e1 e2 e3 e4 e5 kJ iE;clear HC TC OFF
         go_upto_region 29 with fail
         go_cut [163]from 152 to 172 (fun s wc=>s=V Q/\wc=wr)
         case first=>
          as_aux_lemma=>
          by_cases h1:i<6
          ·have j1:(i:Int)<6:=by omega
           by_cases h2:FY=0
           ·have h3:en'=ki:=by
             cases en'
             ·exact absurd ⟨h1,h2,rfl⟩ kJ
             ·rfl
            subst h2;subst h3;clear iE kJ
            go_wp2
            go_meet
            case rel=>exact⟨rfl,rfl⟩
           ·have q0:(FY==0)=Q:=by simpa using h2
            clear iE kJ
            go_wp2
            go_meet
            case rel=>exact⟨rfl,rfl⟩
          ·have j1:¬(i:Int)<6:=by omega
           clear iE kJ
           go_wp2
           go_meet
           case rel=>exact⟨rfl,rfl⟩
         case rest=>
         obtain⟨rfl,Al⟩:=hcut;subst Al;obtain⟨⟨a0,a1,a2⟩,_⟩:=ybz ((S.out.bel.block _ (T.1 BX.out).1).trans BX.out);have OH:=zJ aq ak au wc;clear e0 e1 e2 e3 e4 e5 kJ
         go_wp2_with fail
         refine OH.mono ?_;rintro e w7 ⟨rfl,rZ⟩;have S7:I (Cal w2 w7 b pb dV pQ cn L' L0' bL X1 F1):=S.out.grow rZ;have RP:I (w7.heap[bx]?=N (evB ⟨FY,en',SI,SK,SL,EE⟩)):=(rZ.block bx (T.1 EB.out).1).trans EB.out;obtain⟨⟨a0,a1,a2⟩,_⟩:=ybz ((S7.out.bel.block _ (T.1 BX.out).1).trans BX.out);obtain⟨⟨e0,e1,e2,e3,e4,e5⟩,_⟩:=zE RP.out
         have EA:I (∀w',Lw w7 w'->(w'.cell? ⟨bx,0,P⟩=N (J B FY)/\w'.cell? ⟨bx,1,P⟩=N (V en')/\w'.cell? ⟨bx,2,P⟩=N (J B SI)/\w'.cell? ⟨bx,3,P⟩=N (J B SK)/\w'.cell? ⟨bx,4,P⟩=N (J B SL))/\w'.cell? ⟨W.heap.size,0,P⟩=N (J B aq)/\w'.cell? ⟨W.heap.size,1,P⟩=N (J B ak)/\w'.cell? ⟨W.heap.size,2,P⟩=N (V au)):=fun w' hb=>
          ⟨⟨Z hb e0,Z hb e1,Z hb e2,Z hb e3,Z hb e4⟩,Z hb a0,Z hb a1,Z hb a2⟩
         clear S EB rZ OH
         go_upto_region 33 with fail
         rcases iE with ⟨c0,ec0,en1,eb0,sO,tq,mO⟩|⟨c0,he⟩
         ·simp only at sO tq mO
          subst ec0 en1 eb0;rw[c0]
          go_cut [195]from 121 to 195 (fun s wd=>s=V Q/\I (Lw w7 wd))
          case first=>
           as_aux_lemma=>
           have OI:=ycg aq ak au Dc w7.drew (S7.out.grow (zR w7).drew).ps;rw[<-sO,<-tq,<-mO]at OI
           have q1:(SI !=SI)=Q:=by simp
           have q2:(SK !=SK)=Q:=by simp
           have q3:(SL !=SL)=Q:=by simp
           clear c0 sO tq mO S7 NX RP BX HB
           go_region_held3 (fun w'=>(w'.cell? ⟨bx,0,P⟩=N (J B 0)/\w'.cell? ⟨bx,1,P⟩=N (V ki)/\w'.cell? ⟨bx,2,P⟩=N (J B SI)/\w'.cell? ⟨bx,3,P⟩=N (J B SK)/\w'.cell? ⟨bx,4,P⟩=N (J B SL))/\w'.cell? ⟨W.heap.size,0,P⟩=N (J B aq)/\w'.cell? ⟨W.heap.size,1,P⟩=N (J B ak)/\w'.cell? ⟨W.heap.size,2,P⟩=N (V au)) (go_keep) (first
            | (go_at_call 44;refine OI.mono ?_;rintro e w8 ⟨rfl,sH⟩;have B8:I _:=zT (zR w7).drew sH;obtain⟨⟨g0,g1,g2,g3,g4⟩,g5,g6,g7⟩:=EA.out _ B8.out))
           all_goals
            go_wp2
            go_meet
            case rel=>exact⟨rfl,B8.out⟩
          case rest=>
          obtain⟨rfl,DY⟩:=hcut;have Lc:I _:=NX.out _ (S7.out.grow DY.out);have dB:=lY.out.1;clear EA S7 NX RP BX HB DY a0 a1 a2 e0 e1 e2 e3 e4 e5
          go_wp2_with fail
          exact⟨⟨k+1,by omega,by go_num,Lc⟩,by simp[intOf];omega⟩
         ·simp only[Pg.Ev.code,Pg.Ev.mk.injEq]at he
          obtain⟨rfl,rfl,rfl,rfl,rfl,rfl⟩:=he;generalize Pg.zK aq ak=cc at*
          go_cut [195]from 121 to 195 (fun s wd=>s=V Q/\I (Lw w7 wd))
          case first=>
           as_aux_lemma=>
           have q1:(cc !=cc)=Q:=by simp
           have q2:(cc==0)=Q:=by simpa using c0
           clear c0 EA S7 NX RP BX HB
           go_quiet (fail)
           go_wp2
           go_meet
           case rel=>exact⟨rfl,below_drewN (zR w7) _⟩
          case rest=>
          obtain⟨rfl,DY⟩:=hcut;have Lc:I _:=NX.out _ (S7.out.grow DY.out);have dB:=lY.out.1;clear EA S7 NX RP BX HB DY a0 a1 a2 e0 e1 e2 e3 e4 e5
          go_wp2_with fail
          exact⟨⟨k+1,by omega,by go_num,Lc⟩,by simp[intOf];omega⟩
      ·have i1:¬(k:Int)<(cn:Int):=by omega
       have Wt:I (Lw W wr):=zT HB.out SH.out.bel;clear SH OFF
       go_wp2
       go_ret
       exact⟨rfl,Wt.out⟩
set_option maxRecDepth 100000 in
theorem traceCalms_lifted (os:Os) (started:os.Started) (H:Type) (enc:TypeId×kh->H):
 ReturnsInHanded {} Tryz.checked os 6 .any (Rows.traceCalmsSpec.pre6 enc A Tryz.f6 Rows.traceCalmsRow.domain Q) (Rows.traceCalmsSpec.post enc A Tryz.f6 Q ki Q Q):=by
 refine returnsInHanded_of_change (C:=Tryz.checked) own started (by kernel_rfl) Tryz.func6
  (ChangeSpec.witness6 (enc:=enc) (C:=Tryz.checked) Q ⟨#[],#[J B 0,J B 0,O P 0 0,uv #[J B 0,J B 0,V Q]],[]⟩ 8 (by kernel_rfl) (by kernel_rfl) (by kernel_rfl) (by kernel_rfl)) ?_
 intro W base args ds gs before TK hW hcnd _;have ay:∀(j:Nat) t v,Tryz.f6.params[j]?=N t->args[j]?=N v->Value.okWide A W .any base t v:=TK;have Py:=hW;obtain⟨p,q,EI,hV,rfl,Ro,dZ⟩:=hW;have hA:DataW.TrodAll enc A W 0 (fun _=>ki) ki Tryz.f6.params.toList args.toList ds p:=EI;rw[Tryz.params6]at hA ay;obtain⟨v0,vs0,d0,ds0,p0,q0,Il,rfl,rfl,h0,r0⟩:=trodAll_cons hA;obtain⟨v1,vs1,d1,ds1,p1,q1,rfl,rfl,rfl,h1,r1⟩:=trodAll_cons r0;obtain⟨v2,vs2,d2,ds2,p2,q2,rfl,rfl,rfl,h2,r2⟩:=trodAll_cons r1;obtain⟨v3,vs3,d3,ds3,p3,q3,rfl,rfl,rfl,h3,r3⟩:=trodAll_cons r2;obtain⟨rfl,rfl,rfl⟩:=trodAll_nil r3
 obtain rfl:args=#[v0,v1,v2,v3]:=by cases args;simp_all
 obtain⟨rfl,rfl⟩:=trodVars_none hV;obtain⟨a0a,rfl,f0a⟩:=ye3 (ay 0 3 v0 rfl rfl) h0;obtain⟨a1a,rfl,f1a⟩:=ye3 (ay 1 3 v1 rfl rfl) h1;obtain⟨a2a,a2b,a2c,a2d,rfl,f2a⟩:=yfS (ay 2 22 v2 rfl rfl) h2;obtain⟨a3a,a3b,a3c,rfl,f3a,f3b⟩:=yd3 (ay 3 41 v3 rfl rfl) h3;clear EI TK;refine(traceCalms_walk W a0a f0a a1a f1a a2a a2b a2c a2d f2a a3a a3b a3c f3a f3b).mono fun e W' ⟨he,bel⟩=> ?_;subst he;exact⟨_,rfl,_,_,_,[],_,[],Py,trodAll_mk1 (shut_bool Tryz.underlying4 _),(trodAll_cons_mk (yf4 (by kernel_rfl) (of_decide_eq_true (by kernel_rfl)) h0 bel) (trodAll_cons_mk (yf4 (by kernel_rfl) (of_decide_eq_true (by kernel_rfl)) h1 bel) (trodAll_cons_mk (yf4 (by kernel_rfl) (of_decide_eq_true (by kernel_rfl)) h2 bel) (trodAll_cons_mk (yf4 (by kernel_rfl) (of_decide_eq_true (by kernel_rfl)) h3 bel) trodAll_mk0)))),rfl,bel.frame _,fun h=>by cases h⟩
theorem traceCalms_over:Rows.traceCalmsRow.holds Tryz.pinned (OpenSpec.ofChange Rows.traceCalmsSpec):=
 OpenClaim.holds_of_wide 6 Tryz.f6 rfl rfl rfl rfl rfl rfl rfl ⟨rfl,rfl,rfl,rfl,rfl⟩ rfl rfl rfl rfl rfl (by kernel_rfl) Tryz.func6 (by kernel_rfl)
  (of_decide_eq_true (by kernel_rfl)) (by unfold Func.isWrapper;first|(rw[iP (by decide+kernel)];kernel_rfl)|(rw[iN (by decide+kernel)];exact⟨rfl,rfl⟩))
  (fun os started H enc _=>traceCalms_lifted os started H enc)
theorem traceCalms_proved:Rows.TraceCalmsSaid:=traceCalms_over
#print axioms traceCalms_proved
end
end Go.Proofs.YtdphiompijbelaaGreat
