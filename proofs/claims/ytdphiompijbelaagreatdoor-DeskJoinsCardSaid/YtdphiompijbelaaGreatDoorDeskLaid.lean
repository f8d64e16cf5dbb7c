import Derived.Test.YtdphiompijbelaaGreatDoorDkTake
import Derived.Deep.Strs
import Derived.Stop.LaidErr
import Derived.Lib.LaidTab
import Derived.MakeChecks
import Derived.SizedLaws
set_option linter.all false
set_option maxRecDepth 100000
open List renaming getElem?_eq_getElem->E,length_take->y,length_drop->z,take_append_drop->c,take_zero->kI,mem_append_left->kJ,take_length->kR,mem_range->kY,mem_map->kV
open Go.Ending renaming returned->K
open Nat renaming lt_of_lt_of_le->O,le_refl->f,le_of_eq->kT,le_trans->kF,zero_le->kZ
open Go renaming heap_alloc_new->Q,World->Z,bodyPost_ret->M,Calls->kP
open Go.Proofs.Tryz renaming prog->Y
open Go.IntKind renaming i64->R
open Go.Value renaming int->C,pointer->V,slice->U,tuple->kS,slice->kC,ownBlock->kN,bool->kQ,cells->kU
open Go.Obj renaming cells->S
open Option renaming none->P,some->N
open Go.RowKit renaming Hid->J
open Array renaming getElem?_eq_some_iff->I,length_toList->kB
set_option maxHeartbeats 4000000
namespace Go.Proofs.YtdphiompijbelaaGreatDoor
open Go.RowKit Go.Sort
def jA (w:Z) (o:Option Pg.Dk) (pa:Option Addr) (Fw:Nat->Prop):Prop:=match o with
 | none=>pa=P/\Fw=fun _=>False
 | some d=>∃v,pa=N ⟨v,0,P⟩/\qw w v d.X d.L d.L0 d.ti Fw
structure jc (w:Z) (D:Nat) (o:Option Pg.Dk) (F:Nat->Prop):Prop where
 ex:∃pa Fw,w.heap[D]?=N (S #[.pointer pa] 43 (0,0))/\jA w o pa Fw/\¬Fw D/\F=fun k=>k=D\/Fw k
section
variable {w w':Z} {D b:Nat} {o:Option Pg.Dk} {pa:Option Addr} {F Fw G:Nat->Prop} {bs:List UInt8}
theorem jA.lt (h:jA w o pa Fw) {k:Nat} (hk:Fw k):k<w.heap.size:=by
 cases o with
 | none=>
   obtain⟨_,rfl⟩:=h;exact hk.elim
 | some d=>
   obtain⟨v,_,h⟩:=h;exact h.lt hk
theorem jA.keep (h:jA w o pa Fw) (hb:But G w w') (hF:∀k,Fw k->¬G k):jA w' o pa Fw:=by
 cases o with
 | none=>exact h
 | some d=>
   obtain⟨v,e,h⟩:=h;exact⟨v,e,h.keep hb hF⟩
theorem jA.grow (h:jA w o pa Fw) (hb:Below w.heap.size w w'):jA w' o pa Fw:=h.keep (G:=fun _=>False) (But.yhl hb) fun _ _ e=>e
theorem jc.lt (h:jc w D o F) {k:Nat} (hk:F k):k<w.heap.size:=by
 obtain⟨pa,Fw,hD,ho,_,rfl⟩:=h;rcases hk with rfl|hk
 ·exact(I.1 hD).1
 ·exact ho.lt hk
theorem jc.keep (h:jc w D o F) (hb:But G w w') (hF:∀k,F k->¬G k):jc w' D o F:=by
 obtain⟨pa,Fw,hD,ho,hn,rfl⟩:=h;exact⟨pa,Fw,(hb.block D (I.1 hD).1 (hF D (.inl rfl))).trans hD,ho.keep hb fun k hk=>hF k (.inr hk),hn,rfl⟩
theorem jc.grow (h:jc w D o F) (hb:Below w.heap.size w w'):jc w' D o F:=h.keep (G:=fun _=>False) (But.yhl hb) fun _ _ e=>e
theorem jc.new (w:Z):jc (w.alloc (S #[V P] 43)) w.heap.size P (fun k=>k=w.heap.size):=
 ⟨P,fun _=>False,Q _ _,⟨rfl,rfl⟩,id,by funext k;simp⟩
theorem yfg {w3:Z} (h:jA w3 o pa Fw):Tn ⟨w3,Fw⟩ (w3.alloc (S #[.pointer pa,V P,U P 0 0] 52)) w3.heap.size o []:=by
 have hb:=zA (zR w3) (S #[.pointer pa,V P,U P 0 0] 52)
 have ht:j9 (w3.alloc (S #[.pointer pa,V P,U P 0 0] 52)) w3.heap.size (.pointer pa) [] (fun k=>k=w3.heap.size\/(kC P 0 0).ownBlock=N k):=
  ⟨V P,U P 0 0,Q _ _,.inl rfl,World.ownsRow_nil _ _ _ _,by simp[kN],rfl⟩
 have hF:∀k,(k=w3.heap.size\/(kC P 0 0).ownBlock=N k)->k=w3.heap.size:=fun k hk=>hk.elim id fun e=>by simp[kN]at e
 have t0:Tl0 ⟨w3,Fw⟩ (w3.alloc (S #[.pointer pa,V P,U P 0 0] 52)) w3.heap.size (.pointer pa) [] (fun k=>k=w3.heap.size\/(kC P 0 0).ownBlock=N k):=
  ⟨ht,(But.yhl hb).mono (F:=fun _=>False) fun i _ e=>False.elim e,fun k hk=> .inr (kT (hF k hk).symm)⟩
 cases o with
 | none=>
   obtain⟨rfl,rfl⟩:=h;exact⟨_,t0⟩
 | some d=>
   obtain⟨v,rfl,h⟩:=h;exact⟨v,_,Fw,t0,h.grow hb,fun k hk hw=>by have:=h.lt hw;have:=hF k hk;omega,fun k hk=> .inl hk⟩
theorem yge {w3:Z} (h:Tn ⟨w3,Fw⟩ w b o bs):∃pa' Fb Fw',j9 w b (.pointer pa') bs Fb/\jA w o pa' Fw'/\But Fw w3 w/\(∀k,Fw' k->Fw k\/w3.heap.size<=k)/\(∀k,Fb k->¬Fw' k)/\(∀k,Fb k->Fw k\/w3.heap.size<=k):=by
 cases o with
 | none=>
   obtain⟨F,t⟩:=h;exact⟨P,F,fun _=>False,t.tl,⟨rfl,rfl⟩,t.bel,fun k e=>e.elim,fun k _ e=>e,t.hi⟩
 | some d=>
   obtain⟨v,F,Fw',t⟩:=h;exact⟨_,F,Fw',t.tl.tl,⟨v,rfl,t.wt⟩,t.tl.bel,t.hw,t.ap,t.tl.hi⟩
theorem qq (w:Z):kP Y 7 #[] w fun e w'=>e=K (V (N ⟨w.heap.size,0,P⟩))/\w'=w.alloc (S #[V P] 43):=by
 go_enter Tryz.func7,Tryz.ntmps7
 go_wp2_with fail
 go_ret
 exact⟨rfl,rfl⟩
theorem xZ.of {W:Bs} {w:Z} {G:Nat->Prop} (h:xZ W) (hb:But W.G W.w w) (hG:∀k,G k->W.G k\/W.w.heap.size<=k):xZ ⟨w,G⟩:=by
 obtain⟨W0,h0,h1,h2⟩:=h;exact⟨W0,h0,h1.trans (hb.below h1.size h2),fun k hk=>(hG k hk).elim (h2 k) fun e=>kF h1.size e⟩
theorem yc4 (ad:Option Addr) (cap:Nat) (L:List (List UInt8)) (w:Z) (hn:L.length<=300->zt w ad L) (hf:(Pg.yhv L).1≠0):
 kP Y 8 #[V (N ⟨D,0,P⟩),U ad L.length cap] w fun e w'=>e=K (kS #[.string ByteArray.empty,qG (Pg.yhv L)])/\Below w.heap.size w w':=by
 obtain⟨W1,hW1⟩:∃W1,W1=w.alloc (S #[C R 0,C R 0] 33):=⟨_,rfl⟩
 have hb1:Below w.heap.size w W1:=by rw[hW1];exact zA (zR _) _
 have hx1:W1.heap[w.heap.size]?=N (S #[C R 0,C R 0] 33 (0,0)):=by rw[hW1];exact Q _ _
 have hs1:W1.heap.size=w.heap.size+1:=by rw[hW1];simp
 have HC:=jo ad cap L W1 fun h=>(hn h).below hb1
 have hcase:Pg.yhv L=(10,-1)\/∃k:Nat,Pg.yhv L=(11,(k:Int)):=by
  unfold Pg.yhv at hf ⊢;split
  ·exact .inl rfl
  ·rename_i h
   rw[if_neg h]at hf;split
   ·exact .inr ⟨_,rfl⟩
   ·rename_i h2
    rw[h2]at hf;exact absurd rfl hf
 have HB1:J _:=hb1;have HX1:J _:=hx1
 have hlt1:w.heap.size<W1.heap.size:=by omega
 clear hn hf hb1 hx1 hs1;generalize hrb:w.heap.size=rb at*;have HRB:J (w.heap.size=rb):=hrb;clear hrb;rcases hcase with hc|⟨k,hc⟩
 all_goals
  rw[hc]at HC ⊢;simp only[qG]at HC ⊢;clear hc
  go_enter Tryz.func8,Tryz.ntmps8
  go_upto_region 1 with fail
  rw[<-hW1];clear hW1;rw[HRB.out]
  go_wp2_with fail
  refine HC.mono ?_;rintro e w2 ⟨rfl,hb2⟩;have hx2:=(hb2.block rb hlt1).trans HX1.out;obtain⟨⟨z0,z1⟩,zf⟩:=zP hx2;have lz:rb<w2.heap.size:=O hlt1 hb2.size;have HB2:J (Below w.heap.size w w2):=zT (by rw[HRB.out];exact HB1.out) hb2;clear hb2 HC hx2
  go_wp2_with (go_region)
  first
   | refine M (v:=kS #[.string ByteArray.empty,.agg #[C R 10,C R (-1)]]) ?_ rfl ⟨rfl,?_⟩
   | refine M (v:=kS #[.string ByteArray.empty,.agg #[C R 11,C R k]]) ?_ rfl ⟨rfl,?_⟩
  ·simp[results,Tryz.results8,go_sem,z0,z1,lz]
   rfl
  ·have HB3:Below rb w w2:=by rw[<-HRB.out];exact HB2.out
   exact(((HB3.setCell (p:=⟨rb,0,P⟩) (f _) _).setCell (p:=⟨rb,1,P⟩) (f _) _).alloc (Nat.le_of_lt (by simpa using lz)) _).drew
theorem ybb (ad:Option Addr) (cap:Nat) (L:List (List UInt8)) (hl:L.length<=300) (w:Z) (hn:zt w ad L) (hnF:∀g o',ad=N ⟨g,o',P⟩->0<L.length->¬F g) (hs:∀l ∈ L,l.length<=1000000) (hf:Pg.yhv L=(0,0))
 (hG:xZ ⟨w,F⟩) (hD:jc w D o F) (n:Int) (hn0:0<=n/\n<=90000) (hti:Pg.TiLe o n):
 kP Y 8 #[V (N ⟨D,0,P⟩),U ad L.length cap] w fun e w'=>e=K (kS #[.string (xT (Pg.runD o L).2),qG (0,0)])/\(∃F',jc w' D (Pg.runD o L).1 F'/\But F w w'/\∀k,F' k->F k\/w.heap.size<=k)/\Pg.TiLe (Pg.runD o L).1 (n+L.length)/\(Pg.runD o L).2.length<=800000*L.length:=by
 obtain⟨pa,Fw,hDb,hO,hnD,rfl⟩:=hD;have hDl:D<w.heap.size:=(I.1 hDb).1;obtain⟨W1,hW1⟩:∃W1,W1=w.alloc (S #[C R 0,C R 0] 33):=⟨_,rfl⟩
 have hb1:Below w.heap.size w W1:=by rw[hW1];exact zA (zR _) _
 have hx1:W1.heap[w.heap.size]?=N (S #[C R 0,C R 0] 33 (0,0)):=by rw[hW1];exact Q _ _
 have hlt1:w.heap.size<W1.heap.size:=by rw[hW1];simp
 have HC:=jo ad cap L W1 fun h=>hn.below hb1;rw[hf]at HC;simp only[qG]at HC ⊢;have HB1:J _:=hb1;have HX1:J _:=hx1;have HN:J (zt w ad L):=hn;have HNF:J (∀g o',ad=N ⟨g,o',P⟩->0<L.length->¬Fw g):=fun g o' e h hw=>hnF g o' e h (.inr hw);have HS:J (∀l ∈ L,l.length<=1000000):=hs;have HG:J (xZ ⟨w,fun k=>k=D\/Fw k⟩):=hG;have HDB:J (w.heap[D]?=N (S #[.pointer pa] 43 (0,0))):=hDb;have HO:J (jA w o pa Fw):=hO;have HND:J (¬Fw D):=hnD;have HTI:J (Pg.TiLe o n):=hti;have HN0:J (0<=n/\n<=90000):=hn0;have HL:J (L.length<=300):=hl;have HFW:J (∀k,Fw k->k<w.heap.size):=fun k hk=>hO.lt hk;clear hn hf hb1 hx1 hnF hs hG hDb hO hnD hti hn0 hl;generalize hrb:w.heap.size=rb at*;have HRB:J (w.heap.size=rb):=hrb;clear hrb
 go_enter Tryz.func8,Tryz.ntmps8
 go_upto_region 1 with fail
 rw[<-hW1];clear hW1;rw[HRB.out]
 go_wp2_with fail
 refine HC.mono ?_;rintro e w2 ⟨rfl,hb2⟩;have HX2:J (w2.heap[rb]?=N (S #[C R 0,C R 0] 33 (0,0))):=(hb2.block rb hlt1).trans HX1.out;have lz:rb<w2.heap.size:=O hlt1 hb2.size;have HB2:J (Below w.heap.size w w2):=zT (by rw[HRB.out];exact HB1.out) hb2;obtain⟨W3,hW3⟩:∃W3,W3=w2.alloc (S #[C R 0,C R 0] 33):=⟨_,rfl⟩
 have hb3:Below w2.heap.size w2 W3:=by rw[hW3];exact zA (zR _) _
 have HB3:J (Below w.heap.size w W3):=zT HB2.out hb3;have HX3:J (W3.heap[rb]?=N (S #[C R 0,C R 0] 33 (0,0))):=(hb3.block rb lz).trans HX2.out;have HD3:J (W3.heap[D]?=N (S #[.pointer pa] 43 (0,0))):=(HB3.out.block D (by rw[HRB.out];exact hDl)).trans HDB.out
 have c0:W3.cell? ⟨D,0,P⟩=N (.pointer pa):=by simp[World.cell?,HD3.out]
 clear hb2 HC hb3 HB1 HX1 HX2 HB2
 go_upto_region 4 with fail
 rw[<-hW3];clear hW3;have HG3:J (xZ ⟨W3,Fw⟩):=HG.out.of (G:=Fw) ((But.yhl HB3.out).mono (F:=fun _=>False) fun i _ e=>False.elim e) fun k hk=> .inl (.inr hk);have HO3:J (jA W3 o pa Fw):=HO.out.grow HB3.out;have T0:J (Tn ⟨W3,Fw⟩ (W3.alloc (S #[.pointer pa,V P,U P 0 0] 52)) W3.heap.size o []):=yfg HO3.out;have HLZ:J (rb<W3.heap.size):=(I.1 HX3.out).1;have HDL:J (D<W3.heap.size):=(I.1 HD3.out).1;clear lz hlt1 hDl HO3
 go_upto_region 5 with fail
 clear c0;generalize hbt:W3.heap.size=b at*;have HBT:J (W3.heap.size=b):=hbt;generalize W3.alloc (S #[.pointer pa,V P,U P 0 0] 52)=W4 at*
 have T0':J (Tn ⟨W3,Fw⟩ W4 b (Pg.runD o (L.take 0)).1 (Pg.runD o (L.take 0)).2):=by rw[J,kI];exact T0.out
 have HTI0:J (Pg.TiLe (Pg.runD o (L.take 0)).1 (n+(0:Nat))):=by rw[J,kI];exact HTI.out.mono (by omega)
 clear hbt T0
 go_wp2_with fail
 go_loopw [24] (fun i wr=>∃(k:Nat),i=C R k/\k<=L.length/\J (Tn ⟨W3,Fw⟩ wr b (Pg.runD o (L.take k)).1 (Pg.runD o (L.take k)).2)/\J (Pg.TiLe (Pg.runD o (L.take k)).1 (n+k))/\J ((Pg.runD o (L.take k)).2.length<=800000*k)) (fun i _=>L.length-(intOf i).toNat)
 case atStart=>exact⟨0,rfl,kZ _,T0',HTI0,by rw[J,kI];exact f _⟩
 case round=>
  obtain⟨k,rfl,hk,T,TI,TL⟩:=hrel;clear T0' HTI0
  by_cases hlt:k<L.length
  ·have i0':(0:Int)<=(k:Int):=by omega
   have i1:(k:Int)<(L.length:Int):=by omega
   have i2:(k:Int)<300:=by have:=HL.out;omega
   obtain⟨g,of,rfl,hg,hc⟩:=HN.out k hlt;have hc3:=(HB3.out.cell (p:=⟨g,of+k,P⟩) hg).trans hc;have c0:=(T.out.bel.cell (a:=⟨g,of+k,P⟩) (O hg HB3.out.size) (HNF.out g of rfl (by omega))).trans hc3;have hsz:(L.getD k []).length<=1000000:=HS.out _ (by rw[List.getD,E hlt];exact List.getElem_mem hlt)
   have hT:L.take (k+1)=L.take k++[L.getD k []]:=by
    rw[List.take_add_one,E hlt];simp[List.getD,hlt]
   have hR:Pg.runD o (L.take (k+1))=((Pg.yhO (Pg.runD o (L.take k)).1 (L.getD k [])).1,(Pg.runD o (L.take k)).2++(Pg.yhO (Pg.runD o (L.take k)).1 (L.getD k [])).2):=by rw[hT,Pg.runD_snoc]
   generalize L.getD k []=x at*;have hn9:=HN0.out;have hti:=TI.out.mono (m:=100000) (by have:=HL.out;omega);have HTK:=yff (xT x) (by rw[qm];exact hsz) hti HG3.out T.out (by have:=TL.out;have:=HL.out;omega);rw[qk]at HTK
   have HTI2:J (Pg.TiLe (Pg.runD o (L.take (k+1))).1 (n+((k+1:Nat):Int))):=by
    rw[J,hR];have:=Pg.lineD_ti (n:=n+k) (by omega) TI.out T.out.dinv x;exact this.mono (by omega)
   have HTL2:J ((Pg.runD o (L.take (k+1))).2.length<=800000*(k+1)):=by
    rw[J,hR];have h1:=TL.out;have h2:=Pg.lineD_len T.out.dinv (T.out.ok hti) x;simp only[List.length_append];omega
   have HR:J (Pg.runD o (L.take (k+1))=((Pg.yhO (Pg.runD o (L.take k)).1 x).1,(Pg.runD o (L.take k)).2++(Pg.yhO (Pg.runD o (L.take k)).1 x).2)):=hR;have HLT:J (k<L.length):=hlt;clear hc hc3 hsz hT hR hn9 hti hk hlt hg T TI TL
   go_wp2_with fail
   refine HTK.mono ?_;rintro e w5 ⟨rfl,hT5⟩
   have T5:J (Tn ⟨W3,Fw⟩ w5 b (Pg.runD o (L.take (k+1))).1 (Pg.runD o (L.take (k+1))).2):=by
    rw[J,HR.out];exact hT5
   clear hT5 HTK HR c0
   go_wp2_with fail
   refine⟨⟨k+1,by go_num,HLT.out,T5,HTI2,HTL2⟩,?_⟩;have:=HLT.out;simp[intOf];omega
  ·have hk':k=L.length:=by omega
   have i1:¬(k:Int)<(L.length:Int):=by omega
   have T6:J (Tn ⟨W3,Fw⟩ wr b (Pg.runD o L).1 (Pg.runD o L).2):=by
    have:=T.out;rw[hk',kR]at this;exact this
   have HTE:J (Pg.TiLe (Pg.runD o L).1 (n+L.length)/\(Pg.runD o L).2.length<=800000*L.length):=by
    have h1:=TI.out;have h2:=TL.out;rw[hk',kR]at h1 h2;exact⟨h1,h2⟩
   clear T TI TL;obtain⟨pa',Fb,Fw',ht,ho',hbel,hFw,hap,hFb⟩:=yge T6.out;have hb3l:=HB3.out.size;have hbt3:=HBT.out
   have hrbF:¬Fw rb:=fun e=>by have:=HFW.out _ e;omega
   have HXr:J (wr.heap[rb]?=N (S #[C R 0,C R 0] 33 (0,0))):=(hbel.block rb (by rw[HBT.out];exact HLZ.out) hrbF).trans HX3.out;have HDr:J (wr.heap[D]?=N (S #[.pointer pa] 43 (0,0))):=(hbel.block D (by rw[HBT.out];exact HDL.out) HND.out).trans HD3.out
   have hDrb:D≠rb:=fun e=>by
    have:=(I.1 HDB.out).1;have:=HRB.out;omega
   have nDF:∀k,Fb k->k≠D:=fun k h e=>by
    have:=HDL.out;rcases hFb k h with h|h
    ·exact HND.out (e▸h)
    ·omega
   have nRF:∀k,Fb k->k≠rb:=fun k h e=>by
    have:=HLZ.out;rcases hFb k h with h|h
    ·exact hrbF (e▸h)
    ·omega
   have nDW:∀k,Fw' k->k≠D:=fun k h e=>by
    have:=HDL.out;rcases hFw k h with h|h
    ·exact HND.out (e▸h)
    ·omega
   have nRW:∀k,Fw' k->k≠rb:=fun k h e=>by
    have:=HLZ.out;rcases hFw k h with h|h
    ·exact hrbF (e▸h)
    ·omega
   obtain⟨W7,hW7⟩:∃W7,W7=wr.setCell ⟨D,0,P⟩ (.pointer pa'):=⟨_,rfl⟩
   have hb7:But (fun k=>k=D) wr W7:=by rw[hW7];exact(But.refl (fun k=>k=D) _).setCell (a:=⟨D,0,P⟩) (.inr rfl) _
   have HD7:J (W7.heap[D]?=N (S #[.pointer pa'] 43 (0,0))):=by rw[J,hW7];exact heap_setCell_same wr D 0 _ _ _ HDr.out
   have ht7:=ht.keep hb7 nDF;have HX7:J (W7.heap[rb]?=N (S #[C R 0,C R 0] 33 (0,0))):=(hb7.block rb (I.1 HXr.out).1 (fun e=>hDrb e.symm)).trans HXr.out;have HST:=yfh ht7;obtain⟨pp,vv,hrow⟩:=ht.row;obtain⟨c0,cf⟩:=yfG hrow;have lb:b<wr.heap.size:=(I.1 hrow).1
   have cD:wr.cell? ⟨D,0,P⟩=N (.pointer pa):=by simp[World.cell?,HDr.out]
   have fD:wr.frozen? ⟨D,0,P⟩=false:=by simp[World.frozen?,HDr.out]
   have lD:D<wr.heap.size:=(I.1 HDr.out).1;have HX8:J (∀w8,But Fb W7 w8->w8.heap[rb]?=N (S #[C R 0,C R 0] 33 (0,0))):=fun w8 h8=>(h8.block rb (I.1 HX7.out).1 (fun e=>nRF _ e rfl)).trans HX7.out
   have HFIN:J (∀w8,But Fb W7 w8->∀x0 x1,∃F',jc ((w8.setCell ⟨rb,0,P⟩ x0).setCell ⟨rb,1,P⟩ x1) D (Pg.runD o L).1 F'/\But (fun k=>k=D\/Fw k) w ((w8.setCell ⟨rb,0,P⟩ x0).setCell ⟨rb,1,P⟩ x1)/\∀k,F' k->(k=D\/Fw k)\/rb<=k):=fun w8 h8 x0 x1=>by
    have h9:But (fun k=>k=rb) w8 ((w8.setCell ⟨rb,0,P⟩ x0).setCell ⟨rb,1,P⟩ x1):=((But.refl (fun k=>k=rb) _).setCell (a:=⟨rb,0,P⟩) (.inr rfl) _).setCell (a:=⟨rb,1,P⟩) (.inr rfl) _;have hD8:=(h8.block D (I.1 HD7.out).1 (fun e=>nDF _ e rfl)).trans HD7.out;have hD9:=(h9.block D (I.1 hD8).1 hDrb).trans hD8;have ho9:=((ho'.keep hb7 nDW).keep h8 fun k hk hb=>hap k hb hk).keep h9 nRW;refine⟨_,⟨pa',Fw',hD9,ho9,fun e=>nDW _ e rfl,rfl⟩,?_,fun k hk=> ?_⟩
    ·have hb3':But (fun k=>k=D\/Fw k) w W3:=(But.yhl HB3.out).mono (F:=fun _=>False) fun i _ e=>False.elim e
     refine(((hb3'.trans hbel fun i _ e=> .inr e).trans hb7 fun i _ e=> .inl e).trans h8 fun i hi e=> ?_).trans h9 fun i hi e=> ?_
     ·rcases hFb i e with e|e
      ·exact .inr e
      ·have:=HRB.out
       have:=HBT.out;omega
     ·have:=HRB.out
      omega
    ·rcases hk with rfl|hk
     ·exact .inl (.inl rfl)
     ·rcases hFw k hk with e|e
      ·exact .inl (.inr e)
      ·refine .inr ?_
       have:=HLZ.out;have:=HBT.out;omega
   clear hbt3 hb3l hFw hap hFb ho' hbel hrow hb7 nDW nRW nDF nRF ht ht7 HB3 HX3 HD3 HDr HXr HD7 HX7 T6
   go_upto_region 11 with fail
   rw[<-hW7];clear hW7 c0 cf cD fD
   go_wp2_with fail
   refine HST.mono ?_;rintro e w8 ⟨rfl,h8⟩;obtain⟨⟨z0,z1⟩,zf⟩:=zP (HX8.out w8 h8);have lz:rb<w8.heap.size:=(I.1 (HX8.out w8 h8)).1;have H8:J _:=HFIN.out w8 h8;clear h8 HX8 HFIN HST
   go_wp2_with fail
   refine M (v:=kS #[.string (xT (Pg.runD o L).2),.agg #[C R 0,C R 0]]) ?_ rfl ⟨rfl,H8.out _ _,HTE.out⟩;simp[results,Tryz.results8,go_sem,z0,z1,lz]
end
namespace Pg
def begL:List (List UInt8):=[[110,101,119,32,49,32,52],[109,97,112,32,53,32,48,32,57,32,49],[97,99,99,101,115,115,32,48,32,53,32,48,32,48],[119,97,108,107,32,48],[108,105,115,116],[99,97,108,109],[119,104,97,116]]
def begS:List UInt8:=[111,107,10,98,97,99,107,10,111,107,10,111,107,10,109,97,112,32,53,32,48,32,57,32,49,10,101,110,100,10,111,107,10,111,107,10,111,107,10,102,114,97,109,101,32,57,32,49,10,99,97,108,109,32,48,32,52,10,119,104,97,116,10]
theorem begFault:yhv begL=(0,0):=by kernel_rfl
theorem begRun:(runD P begL).2=begS:=by kernel_rfl
end Pg
theorem yfe {w:Z} {g:Nat} {L:List (List UInt8)} (h:w.heap[g]?=N (S (qn L).toArray 9 (0,0))):zt w (N ⟨g,0,P⟩) L:=fun j hj=>by
 refine⟨g,0,rfl,(I.1 h).1,?_⟩;simp[World.cell?,h,qn,List.getD,hj]
theorem ygE:xT (Pg.runD P Pg.begL).2=⟨#[111,107,10,98,97,99,107,10,111,107,10,111,107,10,109,97,112,32,53,32,48,32,57,32,49,10,101,110,100,10,111,107,10,111,107,10,111,107,10,102,114,97,109,101,32,57,32,49,10,99,97,108,109,32,48,32,52,10,119,104,97,116,10]⟩:=by
 rw[Pg.begRun];rfl
theorem yaK (w:Z) (hG:jz w):kP Y 5 #[] w fun e w'=>e=K (kQ true)/\Below w.heap.size w w':=by
 obtain⟨W1,hW1⟩:∃W1,W1=w.alloc (S #[V P] 43):=⟨_,rfl⟩
 have hb1:Below w.heap.size w W1:=by rw[hW1];exact zA (zR _) _
 have hD1:jc W1 w.heap.size P (fun k=>k=w.heap.size):=by rw[hW1];exact jc.new w
 obtain⟨W2,hW2⟩:∃W2,W2=W1.alloc (S #[.string ⟨#[110,101,119,32,49,32,52]⟩,.string ⟨#[109,97,112,32,53,32,48,32,57,32,49]⟩,.string ⟨#[97,99,99,101,115,115,32,48,32,53,32,48,32,48]⟩,.string ⟨#[119,97,108,107,32,48]⟩,.string ⟨#[108,105,115,116]⟩,.string ⟨#[99,97,108,109]⟩,.string ⟨#[119,104,97,116]⟩] 9):=⟨_,rfl⟩
 have hb2:Below W1.heap.size W1 W2:=by rw[hW2];exact zA (zR _) _
 have hx2:W2.heap[W1.heap.size]?=N (S (qn Pg.begL).toArray 9 (0,0)):=by rw[hW2];exact Q _ _
 have hs1:W1.heap.size=w.heap.size+1:=by rw[hW1];simp
 have HDo:=ybb (N ⟨W1.heap.size,0,P⟩) 7 Pg.begL (by decide) W2 (yfe hx2) (fun g o' e _ hF=>by
  injection e with e;injection e with e
  omega) (by decide) Pg.begFault ⟨w,hG,zT hb1 hb2,fun k e=>by omega⟩ (hD1.grow hb2) 0 (by decide) (Pg.TiLe.none 0)
 rw[ygE,show Pg.begL.length=7 from rfl]at HDo;have HB2:J (Below w.heap.size w W2):=zT hb1 hb2;have HD1:=qq w;rw[<-hW1]at HD1;simp only[qG]at HDo;have HS1:J (W1.heap.size=w.heap.size+1):=hs1;clear hb1 hb2 hD1 hx2 hG hW1 hs1
 go_enter Tryz.func5,Tryz.ntmps5
 go_wp2_with fail
 refine HD1.mono ?_;rintro e w1 ⟨rfl,rfl⟩;clear HD1
 go_wp2_with fail
 rw[<-hW2];clear hW2;refine HDo.mono ?_;rintro e w3 ⟨rfl,⟨F',_,hb3,_⟩,_⟩;have HB3:J (Below w.heap.size w w3):=HB2.out.trans (hb3.below (B:=w.heap.size) HB2.out.size (fun k e=>kT e.symm));clear hb3 HDo
 go_wp2_with fail
 go_ret
 exact⟨rfl,HB3.out.alloc HB3.out.size _⟩
def j8 (w:Z) (ad:Option Addr) (len:Nat) (q:Nat->ByteArray):Prop:=∀j,j<len->∃g o,ad=N ⟨g,o,P⟩/\g<w.heap.size/\w.cell? ⟨g,o+j,P⟩=N (.string (q j))/\(q j).size<=140737488351232
def yeF (len:Nat) (q:Nat->ByteArray) (e:Ending):Prop:=∃b,e=K (kQ b)/\(b=false->∀j,j<len->(q j).size<=20000)
theorem yfa (ad:Option Addr) (len cap:Nat) (hlen:len<=9223372036854775807) (q:Nat->ByteArray) (w:Z) (hq:j8 w ad len q):
 kP Y 6 #[U ad len cap] w fun e w'=>yeF len q e/\w'=w:=by
 have HQ:J (j8 w ad len q):=hq;have HLN:J (len<=9223372036854775807):=hlen;clear hq hlen
 go_enter Tryz.func6,Tryz.ntmps6
 go_wp2_with fail
 go_loopw [3,4] (fun s i wr=>∃(k n:Nat),s=C R n/\i=C R k/\k<=len/\n<=20000/\wr=w/\J (∀j,j<k->(q j).size<=n)) (fun _ i _=>len-(intOf i).toNat)
 case atStart=>exact⟨0,0,rfl,rfl,kZ _,by decide,rfl,fun j hj=>by omega⟩
 case round=>
  obtain⟨k,n,rfl,rfl,hk,hn,rfl,HK⟩:=hrel
  by_cases hlt:k<len
  ·have i0':(0:Int)<=(k:Int):=by omega
   have i1:(k:Int)<(len:Int):=by omega
   obtain⟨g,of,rfl,hg,c0,hmx⟩:=HQ.out k hlt
   have HKS:J (∀m,n+(q k).size<=m->∀j,j<k+1->(q j).size<=m):=fun m hm j hj=>by
    by_cases e:j=k
    ·subst e
     omega
    ·have:=HK.out j (by omega)
     omega
   have HLT:J (k<len):=hlt;obtain⟨m,hm⟩:∃m,m=n+(q k).size:=⟨_,rfl⟩
   have ew:wrap64 ((n:Int)+((q k).size:Int))=(m:Int):=by rw[IntWalk.wrap64_in _ ⟨by omega,by omega⟩,hm];simp
   have ek:wrap64 ((k:Int)+1)=((k+1:Nat):Int):=by have:=HLN.out;rw[IntWalk.wrap64_in _ ⟨by omega,by omega⟩];simp
   have HK2:J (∀j,j<k+1->(q j).size<=m):=HKS.out m (by omega);clear HK HKS hmx hn hk hlt
   by_cases hz:20000<m
   ·have d1:(20000:Int)<(m:Int):=by omega
    clear hz hm
    go_wp2_with fail
    refine M (v:=kQ true) ?_ rfl ⟨⟨true,rfl,fun e=>by cases e⟩,rfl⟩;simp[results,Tryz.results6,go_sem]
   ·have d1:¬(20000:Int)<(m:Int):=by omega
    have HZ:J (m<=20000):=by unfold J;omega
    clear hz hm
    go_wp2_with fail
    refine⟨⟨k+1,m,by rw[ew],by rw[ek],HLT.out,HZ.out,trivial,HK2⟩,?_⟩;have:=HLT.out;rw[ek];simp only[intOf];omega
  ·have i1:¬(k:Int)<(len:Int):=by omega
   have hkl:k=len:=by omega
   have HE:J (∀j,j<len->(q j).size<=20000):=fun j hj=>kF (HK.out j (by omega)) hn;clear hk hlt hkl
   go_wp2_with fail
   refine M (v:=kQ false) ?_ rfl ⟨⟨false,rfl,fun _=>HE.out⟩,rfl⟩;simp[results,Tryz.results6,go_sem]
def yfQ (w:Z) (D:Nat) (o:Option Pg.Dk) (F:Nat->Prop) (L:List (List UInt8)) (n:Int) (e:Ending) (w':Z):Prop:=∃s o' F',e=K (kS #[.string s,.agg #[C R (Pg.yhv L).1,C R (Pg.yhv L).2]])/\
 jc w' D o' F'/\But F w w'/\(∀k,F' k->F k\/w.heap.size<=k)/\Pg.TiLe o' (n+400)/\((Pg.yhv L).1=0->o'=(Pg.runD o L).1/\s=xT (Pg.runD o L).2)/\s.size<=1000000000
theorem Pg.fault_zero' {L:List (List UInt8)} (h:(Pg.yhv L).1=0):Pg.yhv L=(0,0):=by
 unfold Pg.yhv at h ⊢;split
 ·rename_i h2
  rw[if_pos h2]at h;cases h
 ·rename_i h2
  rw[if_neg h2]at h;split
  ·rename_i k h3
   rw[h3]at h;cases h
  ·rfl
theorem qQ {D:Nat} {o:Option Pg.Dk} {F:Nat->Prop} (ad:Option Addr) (cap:Nat) (L:List (List UInt8)) (hl:L.length<=350) (w:Z) (hn:zt w ad L) (hnF:∀g o',ad=N ⟨g,o',P⟩->0<L.length->¬F g) (hs:∀l ∈ L,l.length<=1000000)
 (hG:xZ ⟨w,F⟩) (hD:jc w D o F) (n:Int) (hn0:0<=n/\n<=50000) (hti:Pg.TiLe o n):
 kP Y 8 #[V (N ⟨D,0,P⟩),U ad L.length cap] w fun e w'=>yfQ w D o F L n e w':=by
 by_cases hf:(Pg.yhv L).1=0
 ·have hz:=Pg.fault_zero' hf
  have h300:L.length<=300:=by
   unfold Pg.yhv at hf;split at hf
   ·cases hf
   ·omega
  refine(ybb ad cap L h300 w hn hnF hs hz hG hD n ⟨hn0.1,by omega⟩ hti).mono ?_;rintro e w' ⟨rfl,⟨F',h1,h2,h3⟩,h4,h5⟩;refine⟨_,_,F',by rw[hz];rfl,h1,h2,h3,h4.mono (by omega),fun _=>⟨rfl,rfl⟩,?_⟩;rw[qm];omega
 ·refine(yc4 ad cap L w (fun _=>hn) hf).mono ?_
  rintro e w' ⟨rfl,hb⟩;exact⟨_,o,F,rfl,hD.grow hb,(But.yhl hb).mono (F:=fun _=>False) fun i _ e=>False.elim e,fun k hk=> .inl hk,hti.mono (by omega),fun e=>absurd e hf,by decide⟩
def xo (len:Nat) (q:Nat->ByteArray):List (List UInt8):=(List.range len).map fun j=>(q j).data.toList
theorem qT {W w w':Z} {F:Nat->Prop} (hb:Below W.heap.size W w) (h:But F w w') (hF:∀k,F k->W.heap.size<=k):Below W.heap.size W w':=hb.trans (h.below hb.size hF)
theorem jL (len:Nat) (q:Nat->ByteArray):(xo len q).length=len:=by simp[xo]
theorem yen {len:Nat} {q:Nat->ByteArray} {j:Nat} (hj:j<len):(xo len q).getD j []=(q j).data.toList:=by simp[xo,List.getD,hj]
theorem j8.at' {w:Z} {ad:Option Addr} {len:Nat} {q:Nat->ByteArray} (h:j8 w ad len q):zt w ad (xo len q):=fun j hj=>by
 rw[jL]at hj;obtain⟨g,o,e,hg,hc,_⟩:=h j hj;exact⟨g,o,e,hg,by rw[yen hj,yem];exact hc⟩
theorem ybF {len:Nat} {q:Nat->ByteArray} (h:∀j,j<len->(q j).size<=20000):∀l ∈ xo len q,l.length<=1000000:=fun l hl=>by
 obtain⟨j,hj,rfl⟩:=kV.1 hl;have:=h j (kY.1 hj)
 have e:(q j).data.toList.length=(q j).size:=by rw[kB];rfl
 omega
theorem zt.take {w:Z} {ad:Option Addr} {L:List (List UInt8)} (h:zt w ad L) (k:Nat):zt w ad (L.take k):=fun j hj=>by
 rw[y]at hj;obtain⟨g,o,e,hg,hc⟩:=h j (by omega);refine⟨g,o,e,hg,?_⟩;rw[hc];simp[List.getD,List.getElem?_take,show j<k by omega]
theorem zt.drop {w:Z} {g o:Nat} {L:List (List UInt8)} (h:zt w (N ⟨g,o,P⟩) L) (k:Nat):zt w (N ⟨g,o+k,P⟩) (L.drop k):=fun j hj=>by
 rw[z]at hj;obtain⟨g',o',e,hg,hc⟩:=h (k+j) (by omega);injection e with e;injection e with e1 e2;subst e1 e2;refine⟨g,o+k,rfl,hg,?_⟩;rw[Nat.add_assoc,hc];simp[List.getD,List.getElem?_drop]
theorem ydd {L:List (List UInt8)} (hl:L.length<=300) (k:Nat):((Pg.yhv L).1=0 ↔ (Pg.yhv (L.take k)).1=0/\(Pg.yhv (L.drop k)).1=0):=by
 have one:∀A:List (List UInt8),A.length<=300->((Pg.yhv A).1=0 ↔ Pg.yhC 0 A=P):=fun A hA=>by
  unfold Pg.yhv;rw[if_neg (by omega)]
  cases Pg.yhC 0 A with
  | none=>simp
  | some j=>simp
 rw[one L hl,one _ (by rw[y];omega),one _ (by rw[z];omega)];have e:=Pg.yh0 (L.drop k) (L.take k) 0;rw[c]at e;rw[e]
 cases h:Pg.yhC 0 (L.take k)with
 | none=>
   simp only[true_and];exact Pg.yjk _ _ _
 | some j=>simp
end Go.Proofs.YtdphiompijbelaaGreatDoor
namespace Go.Proofs.YtdphiompijbelaaGreatDoor
open Go.ChangeShapes Go.WideShapes Go.ChangeAt Go.RowKit Go.Joins Go.Sort
theorem ygl (cut:Int) (len:Nat) (hl:len<=300):∃k:Nat,wrap64 ((IntKind.u64.wrap cut).tmod ((len:Int)+1))=(k:Int)/\k<=len:=by
 have h0:0<=IntKind.u64.wrap cut:=by
  simp only[IntKind.wrap,IntKind.bits,IntKind.signed,Bool.false_and,Bool.false_eq_true,if_false];exact Int.emod_nonneg _ (by decide)
 obtain⟨B,hB⟩:=Int.eq_ofNat_of_zero_le h0;rw[hB]
 have e1:(B:Int).tmod ((len:Int)+1)=((B%(len+1):Nat):Int):=by rw[Int.tmod_eq_emod_of_nonneg (by omega)];simp
 have hlt:B%(len+1)<len+1:=Nat.mod_lt _ (by omega);exact⟨B%(len+1),by rw[e1,IntWalk.wrap64_in _ ⟨by omega,by omega⟩],by omega⟩
theorem ycq (a b:List UInt8):xT a++xT b=xT (a++b):=by
 apply ByteArray.ext
 simp[xT]
theorem deskJoins_walk (W:Z) (hG:jz W) (ad:Option Addr) (len cap:Nat) (q:Nat->ByteArray) (hq:j8 W ad len q) (hlc:len<=cap) (hcap:cap<=9223372036854775807) (cut:Int):
 kP Y 4 #[U ad len cap,C R cut] W fun e W'=>e=K (kQ true)/\Below W.heap.size W W':=by
 have HBE:=yaK W hG;have HG:J (jz W):=hG;have HQ:J (j8 W ad len q):=hq;have HLC:J (len<=cap):=hlc;have HCM:J (cap<=9223372036854775807):=hcap
 by_cases h300:300<len
 ·have d1:(300:Int)<(len:Int):=by omega
  clear hG hq hlc hcap h300
  go_enter Tryz.func4,Tryz.ntmps4
  go_wp2_with fail
  refine HBE.mono ?_;rintro e w1 ⟨rfl,hb1⟩;have HB1:J _:=hb1;clear hb1 HBE
  go_wp2_with fail
  go_ret
  exact⟨rfl,HB1.out⟩
 ·have d1:¬(300:Int)<(len:Int):=by omega
  obtain⟨k,hkc,hkl⟩:=ygl cut len (by omega)
  have HL3:J (len<=300):=by unfold J;omega
  have HKL:J (k<=len):=hkl;have HKC:J _:=hkc
  have HSL:=fun w1 (hb:Below W.heap.size W w1)=>yfa ad len cap (by omega) q w1 fun j hj=>by
   obtain⟨g,o,e,hg,hc,hz⟩:=hq j hj;exact⟨g,o,e,O hg hb.size,(hb.cell (p:=⟨g,o+j,P⟩) hg).trans hc,hz⟩
  clear hG hq hlc hcap h300 hkl hkc
  go_enter Tryz.func4,Tryz.ntmps4
  go_wp2_with fail
  refine HBE.mono ?_;rintro e w1 ⟨rfl,hb1⟩;have HB1:J _:=hb1;have HSL1:=HSL w1 hb1;clear hb1 HBE HSL
  go_wp2_with fail
  refine HSL1.mono ?_;rintro e w2 ⟨⟨sb,rfl,hsb⟩,rfl⟩
  cases sb with
  | true=>
    clear hsb HSL1
    go_wp2_with fail
    go_ret
    exact⟨rfl,HB1.out⟩
  | false=>
    have HSM:J (∀l ∈ xo len q,l.length<=1000000):=ybF (hsb rfl);clear hsb HSL1
    go_upto_region 6 with fail
    rw[HKC.out]
    have k0:¬(k:Int)<0:=by omega
    have k1:(0:Int)<=(k:Int):=by omega
    have k2:(k:Int)<=(cap:Int):=by have:=HKL.out;have:=HLC.out;omega
    have k3:¬(cap:Int)<(k:Int):=by omega
    go_upto_region 7 with fail
    refine(qq _).mono ?_;rintro e w3 ⟨rfl,hw3⟩
    have hb3:Below w2.heap.size w2 w3:=by rw[hw3];exact zA (zR _) _
    have hd3:jc w3 w2.heap.size P (fun k=>k=w2.heap.size):=by rw[hw3];exact jc.new w2
    have hs3:w3.heap.size=w2.heap.size+1:=by rw[hw3];simp
    have HB3:J (Below W.heap.size W w3):=zT HB1.out hb3;have HD3:J (jc w3 w2.heap.size P (fun k=>k=w2.heap.size)):=hd3;have HS3:J (w3.heap.size=w2.heap.size+1/\W.heap.size<=w2.heap.size):=⟨hs3,HB1.out.size⟩;clear hw3 hb3 hd3 hs3 HB1
    go_wp2_with fail
    refine(qq _).mono ?_;rintro e w4 ⟨rfl,hw4⟩
    have hb4:Below w3.heap.size w3 w4:=by rw[hw4];exact zA (zR _) _
    have hd4:jc w4 w3.heap.size P (fun k=>k=w3.heap.size):=by rw[hw4];exact jc.new w3
    have hs4:w4.heap.size=w3.heap.size+1:=by rw[hw4];simp
    have HB4:J (Below W.heap.size W w4):=zT HB3.out hb4;have HDa:J (jc w4 w2.heap.size P (fun k=>k=w2.heap.size)):=HD3.out.grow hb4;have HDb:J (jc w4 w3.heap.size P (fun k=>k=w3.heap.size)):=hd4;have HS4:J (w4.heap.size=w3.heap.size+1):=hs4;clear hw4 hb4 hd4 hs4 HB3 HD3;generalize w2.heap.size=D1 at*;generalize w3.heap.size=D2 at*;have HST:J (∀w,Below W.heap.size W w->zt w ad (xo len q)):=fun w hb=>HQ.out.at'.below hb;have HGL:J (∀w F,Below W.heap.size W w->(∀k,F k->W.heap.size<=k)->xZ ⟨w,F⟩):=fun w F hb hF=>⟨W,HG.out,hb,hF⟩
    have HLO:J (∀g o',ad=N ⟨g,o',P⟩->0<len->g<W.heap.size):=fun g o' e hl=>by
     obtain⟨g',o'',e',hg,_⟩:=HQ.out 0 hl;rw[e]at e';injection e' with e';injection e' with e1;omega
    have HLE:J ((xo len q).length=len):=jL len q;have HFJ:J ((Pg.yhv (xo len q)).1=0 ↔ (Pg.yhv ((xo len q).take k)).1=0/\(Pg.yhv ((xo len q).drop k)).1=0):=ydd (by rw[jL];exact HL3.out) k
    have HRJ:J ((Pg.runD P (xo len q)).2=(Pg.runD P ((xo len q).take k)).2++(Pg.runD (Pg.runD P ((xo len q).take k)).1 ((xo len q).drop k)).2):=by
     have e:=Pg.yi6 P ((xo len q).take k) ((xo len q).drop k);rw[c]at e;rw[J,e]
    generalize xo len q=L at*
    have hta:(L.take k).length=k:=by rw[y,HLE.out];have:=HKL.out;omega
    have htb:(L.drop k).length=len-k:=by rw[z,HLE.out]
    have HC1:=qQ (D:=D1) (o:=P) (F:=fun i=>i=D1) ad cap (L.take k) (by have:=HL3.out;have:=HKL.out;omega) w4 ((HST.out w4 HB4.out).take k) (fun g o' e hl hF=>by
     have:=HKL.out;have:=HLO.out g o' e (by omega);have:=HS3.out
     omega) (fun l hl=>HSM.out l (List.mem_of_mem_take hl)) (HGL.out _ _ HB4.out fun i e=>by have:=HS3.out;omega) HDa.out 0 (by decide) (Pg.TiLe.none 0)
    rw[hta]at HC1;have HTA:J _:=hta;have HTB:J _:=htb;clear hta htb
    go_upto_region 7 with fail
    go_wp2_with fail
    refine HC1.mono ?_;rintro e w5 ⟨s1,o1,F1,rfl,hd5,hbt5,hF5,hti5,hrun5,hsz5⟩
    have HB5:J (Below W.heap.size W w5):=qT HB4.out hbt5 fun i e=>by have:=HS3.out;omega
    have HDa5:J (jc w5 D1 o1 F1):=hd5
    have HDb5:J (jc w5 D2 P (fun i=>i=D2)):=HDb.out.keep hbt5 fun i e h=>by have:=HS3.out;omega
    have HF1:J (∀i,F1 i->W.heap.size<=i/\i≠D2/\i<w5.heap.size):=fun i hi=>by
     have h1:=HS3.out;have h2:=HS4.out;have h3:=hd5.lt hi
     rcases hF5 i hi with e|e<;>refine⟨?_,?_,h3⟩<;>omega
    have HD25:J (D2<w5.heap.size/\W.heap.size<=D2):=⟨HDb5.out.lt rfl,by have:=HS3.out;omega⟩;have HTI5:J (Pg.TiLe o1 400):=hti5.mono (by decide);have HR5:J ((Pg.yhv (L.take k)).1=0->o1=(Pg.runD P (L.take k)).1/\s1=xT (Pg.runD P (L.take k)).2):=hrun5;have HZ5:J (s1.size<=1000000000):=hsz5;clear hd5 hbt5 hF5 hti5 hrun5 hsz5 HC1 HDa HDb HS3 HS4 HB4;generalize Pg.yhv (L.take k)=fA at*;obtain⟨fa,fa2⟩:=fA;simp only at HFJ HR5;obtain⟨W6,hW6⟩:∃W6,W6=w5.alloc (S #[C R fa,C R fa2] 33):=⟨_,rfl⟩
    have hb6:Below w5.heap.size w5 W6:=by rw[hW6];exact zA (zR _) _
    have HX6:J (W6.heap[w5.heap.size]?=N (S #[C R fa,C R fa2] 33 (0,0))):=by rw[J,hW6];exact Q _ _
    have HB6:J (Below W.heap.size W W6):=zT HB5.out hb6
    have HC2:=qQ (D:=D2) (o:=P) (F:=fun i=>i=D2) ad cap L (by have:=HL3.out;have:=HLE.out;omega) W6 (HST.out W6 HB6.out) (fun g o' e hl hF=>by
     have:=HLE.out;have:=HLO.out g o' e (by omega);have:=HD25.out
     omega) HSM.out (HGL.out _ _ HB6.out fun i e=>by have:=HD25.out;omega) (HDb5.out.grow hb6) 0 (by decide) (Pg.TiLe.none 0)
    rw[HLE.out]at HC2;have HDa6:J (jc W6 D1 o1 F1):=HDa5.out.grow hb6;clear hb6 HDa5 HDb5
    go_upto_region 8 with fail
    rw[<-hW6];clear hW6;generalize hbf:w5.heap.size=bf at*;have HBF:J (w5.heap.size=bf):=hbf;clear hbf
    go_wp2_with fail
    refine HC2.mono ?_;rintro e w7 ⟨s2,o2,F2,rfl,hd7,hbt7,hF7,hti7,hrun7,hsz7⟩
    have HB7:J (Below W.heap.size W w7):=qT HB6.out hbt7 fun i e=>by have:=HD25.out;omega
    have HDa7:J (jc w7 D1 o1 F1):=HDa6.out.keep hbt7 fun i hi e=>(HF1.out i hi).2.1 e;have HX7:J (w7.heap[bf]?=N (S #[C R fa,C R fa2] 33 (0,0))):=(hbt7.block bf (I.1 HX6.out).1 fun e=>by have:=HD25.out;omega).trans HX6.out;have HR7:J ((Pg.yhv L).1=0->s2=xT (Pg.runD P L).2):=fun e=>(hrun7 e).2;have HZ7:J (s2.size<=1000000000):=hsz7;clear hd7 hbt7 hF7 hti7 hrun7 hsz7 HC2 HDa6 HX6 HB6;have HFL:=HR7;obtain⟨fL,hfL⟩:∃fL,fL=Pg.yhv L:=⟨_,rfl⟩;have HFL:J (fL=Pg.yhv L):=hfL;rw[<-hfL]at HR7 HFJ ⊢;clear hfL;obtain⟨fl,fl2⟩:=fL;simp only at HFJ HR7 ⊢;obtain⟨W8,hW8⟩:∃W8,W8=w7.alloc (S #[C R fl,C R fl2] 33):=⟨_,rfl⟩
    have hb8:Below w7.heap.size w7 W8:=by rw[hW8];exact zA (zR _) _
    have HX8:J (W8.heap[bf]?=N (S #[C R fa,C R fa2] 33 (0,0))):=(hb8.block bf (I.1 HX7.out).1).trans HX7.out
    have HY8:J (W8.heap[w7.heap.size]?=N (S #[C R fl,C R fl2] 33 (0,0))):=by rw[J,hW8];exact Q _ _
    have HB8:J (Below W.heap.size W W8):=zT HB7.out hb8;have HDa8:J (jc W8 D1 o1 F1):=HDa7.out.grow hb8;have HF7:J (∀i,F1 i->i<w7.heap.size/\i<bf):=fun i hi=>⟨HDa7.out.lt hi,(HF1.out i hi).2.2⟩;clear hb8 HDa7 HX7
    have HC3:J (∀ad' cap',(ad'=Option.map (fun x=>x.add k) ad\/len-k=0)->kP Y 8 #[V (N ⟨D1,0,P⟩),U ad' (len-k) cap'] W8 fun e w'=>yfQ W8 D1 o1 F1 (L.drop k) 400 e w'):=fun ad' cap' h=>by
     have hst:=HST.out W8 HB8.out;have hle:=HLE.out;have htb:=HTB.out
     have hpos:0<(L.drop k).length->∃g o,ad=N ⟨g,o,P⟩:=fun hp=>by
      obtain⟨g,o,e,_⟩:=hst 0 (by omega);exact⟨g,o,e⟩
     have h1:zt W8 ad' (L.drop k):=by
      by_cases hp:0<(L.drop k).length
      ·obtain⟨g,o,rfl⟩:=hpos hp
       rcases h with rfl|h
       ·show zt W8 (N ((⟨g,o,P⟩:Addr).add k)) _
        rw[Lib.add_plain];exact hst.drop k
       ·omega
      ·intro j hj
       omega
     have h2:∀g o',ad'=N ⟨g,o',P⟩->0<(L.drop k).length->¬F1 g:=fun g o' e hp hF=>by
      obtain⟨g',o,rfl⟩:=hpos hp;rcases h with rfl|h
      ·have e2:N ((⟨g',o,P⟩:Addr).add k)=N ⟨g,o',P⟩:=e
       rw[Lib.add_plain]at e2;injection e2 with e2;injection e2 with e2;have:=HLO.out g' o rfl (by omega);have:=HF1.out g hF;omega
      ·omega
     have:=qQ (D:=D1) (o:=o1) (F:=F1) ad' cap' (L.drop k) (by have:=HL3.out;omega) W8 h1 h2 (fun l hl=>HSM.out l (List.mem_of_mem_drop hl)) (HGL.out _ _ HB8.out fun i hi=>(HF1.out i hi).1) HDa8.out 400 (by decide) HTI5.out;rw[htb]at this;exact this
    go_upto_region 9 with fail
    rw[<-hW8];clear hW8;generalize hbh:w7.heap.size=bh at*;have HBH:J (w7.heap.size=bh):=hbh;clear hbh
    go_wp2_with fail
    all_goals
     refine(HC3.out _ _ (by first|exact .inl rfl|exact .inr (by have:=HLC.out;omega))).mono ?_;rintro e w9 ⟨s3,o3,F3,rfl,hd9,hbt9,hF9,hti9,hrun9,hsz9⟩;have HB9:J (Below W.heap.size W w9):=qT HB8.out hbt9 fun i hi=>(HF1.out i hi).1;have HX9:J (w9.heap[bf]?=N (S #[C R fa,C R fa2] 33 (0,0))):=(hbt9.block bf (I.1 HX8.out).1 fun hi=>by have:=HF7.out _ hi;omega).trans HX8.out;have HY9:J (w9.heap[bh]?=N (S #[C R fl,C R fl2] 33 (0,0))):=(hbt9.block bh (I.1 HY8.out).1 fun hi=>by have:=(HF7.out _ hi).1;omega).trans HY8.out;have HR9:J ((Pg.yhv (L.drop k)).1=0->s3=xT (Pg.runD o1 (L.drop k)).2):=fun e=>(hrun9 e).2;have HZ9:J (s3.size<=1000000000):=hsz9;clear hd9 hbt9 hF9 hti9 hrun9 hsz9 HX8 HY8 HB8 HDa8 HF7;generalize Pg.yhv (L.drop k)=fB at*;obtain⟨fb,fb2⟩:=fB;simp only at HFJ HR9 ⊢;obtain⟨W10,hW10⟩:∃W10,W10=w9.alloc (S #[C R fb,C R fb2] 33):=⟨_,rfl⟩
     have hb10:Below w9.heap.size w9 W10:=by rw[hW10];exact zA (zR _) _
     have HX10:J (W10.heap[bf]?=N (S #[C R fa,C R fa2] 33 (0,0))):=(hb10.block bf (I.1 HX9.out).1).trans HX9.out;have HY10:J (W10.heap[bh]?=N (S #[C R fl,C R fl2] 33 (0,0))):=(hb10.block bh (I.1 HY9.out).1).trans HY9.out
     have HZ10:J (W10.heap[w9.heap.size]?=N (S #[C R fb,C R fb2] 33 (0,0))):=by rw[J,hW10];exact Q _ _
     have HB10:J (Below W.heap.size W W10):=zT HB9.out hb10;obtain⟨⟨x0,x1⟩,xf⟩:=zP HX10.out;obtain⟨⟨y0,y1⟩,yf⟩:=zP HY10.out;obtain⟨⟨z0,z1⟩,zf⟩:=zP HZ10.out;clear hb10 HX9 HY9
     go_upto_region 10 with fail
     rw[<-hW10];clear hW10;generalize w9.heap.size=bg at*
     by_cases hfl:fl=0
     ·subst hfl
      obtain⟨hfa,hfb⟩:=HFJ.out.1 rfl;subst hfa hfb;obtain⟨ho1,hs1⟩:=HR5.out rfl;have hs3:=HR9.out rfl;have hs2:=HR7.out rfl
      have hJ:s1++s3=s2:=by
       rw[hs1,hs3,hs2,HRJ.out,ho1];exact ycq _ _
      have HS4:J (s2=xT (Pg.runD P L).2):=hs2;obtain⟨W11,hW11⟩:∃W11,W11=W10.alloc (S #[V P] 43):=⟨_,rfl⟩;have hN:=qq W10;rw[<-hW11]at hN
      have hb11:Below W10.heap.size W10 W11:=by rw[hW11];exact zA (zR _) _
      have hd11:jc W11 W10.heap.size P (fun i=>i=W10.heap.size):=by rw[hW11];exact jc.new W10
      have HX11:J (W11.heap[bf]?=N (S #[C R 0,C R fa2] 33 (0,0))):=(hb11.block bf (I.1 HX10.out).1).trans HX10.out;have HZ11:J (W11.heap[bg]?=N (S #[C R 0,C R fb2] 33 (0,0))):=(hb11.block bg (I.1 HZ10.out).1).trans HZ10.out;have HB11:J (Below W.heap.size W W11):=zT HB10.out hb11;have lbf:=(I.1 HX10.out).1;have lbg:=(I.1 HZ10.out).1;have hle:=HB10.out.size
      have HC4:=fun cp=>qQ (D:=W10.heap.size) (o:=P) (F:=fun i=>i=W10.heap.size) ad cp L (by have:=HL3.out;have:=HLE.out;omega) W11 (HST.out W11 HB11.out) (fun g o' e hl hF=>by
       have:=HLE.out;have:=HLO.out g o' e (by omega)
       omega) HSM.out (HGL.out _ _ HB11.out fun i e=>by omega) hd11 0 (by decide) (Pg.TiLe.none 0)
      simp only[HLE.out]at HC4;have HLB:J (bf<W10.heap.size/\bg<W10.heap.size/\W.heap.size<=W10.heap.size):=⟨lbf,lbg,hle⟩;have HW11:J (W11=W10.alloc (S #[V P] 43)):=hW11;clear ho1 hs1 hs2 hs3 hW11 hb11 hd11 lbf lbg hle x0 x1 z0 z1 xf zf HX10 HZ10 HY10
      go_wp2_with fail
      refine hN.mono ?_;rintro e _ ⟨rfl,rfl⟩;clear hN y0 y1 yf;generalize W10.heap.size=D3 at*
      go_wp2_with fail
      refine(HC4 _).mono ?_;rintro e w12 ⟨s4,o4,F4,rfl,hd12,hbt12,hF12,hti12,hrun12,hsz12⟩;have hfL:=HFL.out;rw[<-hfL]at hrun12;have hs4:s4=s2:=(hrun12 rfl).2.trans HS4.out.symm;subst hs4;rw[<-hfL];simp only
      have HB12:J (Below W.heap.size W w12):=qT HB11.out hbt12 fun i e=>by have:=HLB.out;omega
      have hx12:=(hbt12.block bf (I.1 HX11.out).1 fun e=>by have:=HLB.out;omega).trans HX11.out;have hz12:=(hbt12.block bg (I.1 HZ11.out).1 fun e=>by have:=HLB.out;omega).trans HZ11.out;obtain⟨W13,hW13⟩:∃W13,W13=w12.alloc (S #[C R 0,C R fl2] 33):=⟨_,rfl⟩
      have hb13:Below w12.heap.size w12 W13:=by rw[hW13];exact zA (zR _) _
      have HB13:J (Below W.heap.size W W13):=zT HB12.out hb13;obtain⟨⟨x0,x1⟩,xf⟩:=zP ((hb13.block bf (I.1 hx12).1).trans hx12);obtain⟨⟨z0,z1⟩,zf⟩:=zP ((hb13.block bg (I.1 hz12).1).trans hz12);clear hfL hrun12 hd12 hbt12 hF12 hti12 hsz12 hx12 hz12 hb13 HC4 HS4 HX11 HZ11
      go_upto_region 13 with fail
      rw[<-hW13];clear hW13
      have hsum:s1.size+s3.size<=9223372036854775807:=by have:=HZ5.out;have:=HZ9.out;omega
      go_wp2_with fail
      go_ret
      exact⟨rfl,HB13.out⟩
     ·have q1:(fl !=0)=true:=by simpa using hfl
      by_cases hfa:fa=0
      ·subst hfa
       have hfb:fb≠0:=fun e=>hfl (HFJ.out.2 ⟨rfl,e⟩)
       have q2:(fb !=0)=true:=by simpa using hfb
       clear hfb hfl
       go_wp2_with fail
       go_ret
       exact⟨rfl,HB10.out⟩
      ·have q2:(fa !=0)=true:=by simpa using hfa
       clear hfa hfl
       go_wp2_with fail
       go_ret
       exact⟨rfl,HB10.out⟩
end Go.Proofs.YtdphiompijbelaaGreatDoor
namespace Go.Proofs.YtdphiompijbelaaGreatDoor
open Go.ChangeShapes Go.WideShapes Go.ChangeAt Go.RowKit Go.Joins Go.Deep
theorem ycM : "*errors.errorString" = "*" ++ "errors.errorString" := by decide
theorem yeh (u : TypeId) (h : Tryz.prog.typeName? 3 u = N "*errors.errorString") : u = 314 :=
 typeName_ptr_named (nm := "errors.errorString") (by rw [← ycM]; kernel_rfl) (by kernel_rfl) (by decide) u (by rw [← ycM]; exact h)
theorem ygo : Tryz.prog.globalNamed "strconv.ErrSyntax" = N 3 := by kernel_rfl
theorem ygn : Tryz.prog.globalNamed "strconv.ErrRange" = N 4 := by kernel_rfl
theorem ygp : Tryz.prog.globalNamed "internal/strconv.uint64pow10" = N 5 := by kernel_rfl
theorem ygA:(Tryz.prog.globals[3]?).map (·.type)=N 118:=by kernel_rfl
theorem ygz:(Tryz.prog.globals[4]?).map (·.type)=N 118:=by kernel_rfl
theorem ygB:(Tryz.prog.globals[5]?).map (·.type)=N 309:=by kernel_rfl
def laidAll : List (String × DataW Unit) := [("math/bits.deBruijn32tab", Rows.laid_math_bits_deBruijn32tab), ("math/bits.deBruijn64tab", Rows.laid_math_bits_deBruijn64tab), ("internal/strconv.uint64pow10", Rows.laid_internal_strconv_uint64pow10), ("unicode/utf8.acceptRanges", Rows.laid_unicode_utf8_acceptRanges), ("strconv.ErrRange", Rows.laid_strconv_ErrRange), ("strconv.ErrSyntax", Rows.laid_strconv_ErrSyntax), ("unicode/utf8.first", Rows.laid_unicode_utf8_first)]
theorem yga:(Rows.laid_internal_strconv_uint64pow10:DataW Unit)=Lib.tabData .u64 Lib.pow10Tab:=by kernel_rfl
theorem ybl:Tryz.prog.cellsOf 316=1:=by kernel_rfl
theorem vG:Tryz.prog.cellsOf 9=1:=by kernel_rfl
theorem ybo {W:Z} (h:laidMetH Y laidAll W):jz W:=by
 rw[MakeChecks.laidMetH_plain _ _ _ (by kernel_rfl)]at h;have h3:=h.tail.tail;have h5:=h3.tail.tail;have h6:=h5.tail;rw[yga]at h3;have hT:=Lib.tabIs_of_head ygp ygB Tryz.underlying309 Tryz.underlying93 (by kernel_rfl) (by kernel_rfl) h3;obtain⟨a1,_,hv1,_⟩:=laid_sentinel h6 ygo ygA Tryz.underlying118 yeh Tryz.underlying314 Tryz.underlying316 rfl rfl Tryz.underlying9 ybl vG;obtain⟨a2,_,hv2,_⟩:=laid_sentinel h5 ygn ygz Tryz.underlying118 yeh Tryz.underlying314 Tryz.underlying316 rfl rfl Tryz.underlying9 ybl vG;exact⟨hT,⟨_,_,hv1⟩,⟨_,_,hv2⟩⟩
section
variable {H:Type} {enc:TypeId×Value->H} {W:Z} {r:Reach} {b0 base:Nat} {spare:Nat->Bool} {held:Bool} {v:Value} {d:DataW H} {p:List MemPlace}
theorem jb {e:TypeId}:∀{l:List (DataW H)} {d:DataW H},d ∈ l->∀n ∈ d.weights Y e,n ∈ DataW.weightsAll Y e l
 | x::l,d,hd,n,hn=>by
   show n ∈ x.weights Y e++DataW.weightsAll Y e l
   rcases List.mem_cons.1 hd with rfl|hd
   ·exact kJ _ hn
   ·exact List.mem_append_right _ (jb hd n hn)
theorem yeY (hv:Value.okWide Y W r b0 22 v) (h:DataW.Trod enc Y W base spare held 22 v d p) (hz:∀n ∈ d.weights Y 22,n<=reachBytes):
 ∃(ad:Option Addr) (len cap:Nat) (q:Nat->ByteArray),v=U ad len cap/\j8 W ad len q/\len<=cap/\cap<=9223372036854775807:=by
 obtain⟨a0,len,cap,rfl⟩:=okWide_slice Tryz.underlying22 hv;obtain⟨fuel,hf⟩:=h;rcases open_strs Tryz.underlying22 Tryz.underlying9 vG hf with ⟨e,_⟩|⟨a,len',cap',m,Sx,e,_,hl,hm,hmm,hx,hc⟩
 ·simp[kU]at e
  obtain⟨_,rfl,rfl⟩:=e;exact⟨a0,0,0,fun _=> .empty,rfl,fun j hj=>absurd hj (by omega),f _,by decide⟩
 ·simp[kU]at e
  obtain⟨rfl,rfl,rfl⟩:=e
  have hlm:len<=m:=by rw[hmm];split<;>omega
  refine⟨N a,len,cap,Sx,rfl,fun j hj=> ?_,hl,hm⟩;obtain⟨c1,_⟩:=hc j (by omega)
  have hsp:a.spot=P:=by
   obtain⟨_,_,_,_,hs⟩:=World.shape?_of_cell? (hc 0 (by omega)).1
   have hz:a.add 0=a:=by unfold Addr.add;split<;>simp_all
   rw[hz]at hs;exact hs
  obtain⟨b,o,sp⟩:=a;cases hsp;rw[Lib.add_plain]at c1;refine⟨b,o,rfl,World.block_lt_of_cell? _ _ c1,c1,?_⟩;simp only[Prod.mk.injEq]at hx
  have hw:(Sx j).data.toList.length<=reachBytes:=by
   refine hz _ ?_;rw[hx.1];unfold DataW.weights;rw[Tryz.underlying22];refine List.mem_cons_of_mem _ (kJ _ (jb (kV.2 ⟨j,kY.2 hj,rfl⟩) _ ?_));simp[DataW.weights]
  have e2:(Sx j).data.toList.length=(Sx j).size:=by rw[kB];rfl
  unfold reachBytes at hw;omega
end
end Go.Proofs.YtdphiompijbelaaGreatDoor
