import Derived.Test.YtdphiompijbelaaGreatPageRef
import Derived.Test.YtdphiompijbelaaGreatKC
import Derived.Deep.RegionWith
set_option linter.all false
set_option maxRecDepth 100000
open Nat renaming le_trans->kP
open Bool renaming false->kI
open Go.Proofs.Tryz renaming prog->E
open Go.Ending renaming returned->M
open Go.RowKit renaming Hid->U
open Go renaming cell_later->Z,World->O,cell_regrown->kJ,Calls->kS,Value->kR
open Go.IntKind renaming i64->Y
open Go.Value renaming int->R,bool->V,pointer->Q,slice->A,tuple->kY
open Go.World renaming block_lt_of_cell?->P,ownsRow->z,frozen?_of_block->kC,cell?_of_block->kN
open Option renaming none->I,some->J
set_option maxHeartbeats 2000000
namespace Go.Proofs.YtdphiompijbelaaGreat
open Go.RowKit Go.Sort
section
attribute [local go_sem] Loose.gent
structure Crk (w:O) (b bt bk:Nat) (Ft:Nat->Prop) (root:Int) (C:Pg.Cr):Prop where
 c0:w.cell? ⟨b,0,I⟩=J (Q (J ⟨bt,0,I⟩))
 c1:w.cell? ⟨b,1,I⟩=J (Q (J ⟨bk,0,I⟩))
 tb:jy w bt 0 C.L Ft
 wk:zO w bk 0 root C.K
 nb:¬Ft b
 nk:¬Ft bk
 ne:b≠bk
 ok:C.K.Ok
def crF (b bk:Nat) (Ft:Nat->Prop):Nat->Prop:=fun j=>j=b\/j=bk\/Ft j
namespace Crk
variable {w w':O} {b bt bk:Nat} {Ft Ft' G:Nat->Prop} {root:Int} {C:Pg.Cr} {K':Pg.Wk} {L':List Pg.Ln}
theorem lb (h:Crk w b bt bk Ft root C):b<w.heap.size:=P _ _ h.c0
theorem lt (h:Crk w b bt bk Ft root C) {k:Nat} (hk:crF b bk Ft k):k<w.heap.size:=by
 rcases hk with rfl|rfl|hk
 ·exact h.lb
 ·exact h.wk.lb
 ·exact h.tb.lt hk
theorem keep (h:Crk w b bt bk Ft root C) (hb:But G w w') (hG:∀k,crF b bk Ft k->¬G k):Crk w' b bt bk Ft root C:=by
 have n:=hG b (.inl rfl);exact⟨(hb.cell (a:=⟨b,0,I⟩) h.lb n).trans h.c0,(hb.cell (a:=⟨b,1,I⟩) h.lb n).trans h.c1,h.tb.keep hb fun k hk=>hG k (.inr (.inr hk)),h.wk.keep hb (hG bk (.inr (.inl rfl))),h.nb,h.nk,h.ne,h.ok⟩
theorem grow (h:Crk w b bt bk Ft root C) (hb:Below w.heap.size w w'):Crk w' b bt bk Ft root C:=h.keep (G:=fun _=>False) (But.ygr hb) (fun _ _=>id)
theorem yhX (h:Crk w b bt bk Ft root C) (hk:zO w' bk 0 root K') (ok:K'.Ok) (hb:But (fun j=>j=bk) w w'):Crk w' b bt bk Ft root ⟨C.L,K'⟩:=
 ⟨(hb.cell (a:=⟨b,0,I⟩) h.lb h.ne).trans h.c0,(hb.cell (a:=⟨b,1,I⟩) h.lb h.ne).trans h.c1,h.tb.keep hb fun k hk e=>h.nk (e▸hk),hk,h.nb,h.nk,h.ne,ok⟩
theorem stepT (h:Crk w b bt bk Ft root C) (ht:jy w' bt 0 L' Ft') (hb:But Ft w w') (hF:∀k,Ft' k->Ft k\/w.heap.size<=k):Crk w' b bt bk Ft' root ⟨L',C.K⟩:=by
 have hl:=h.lb;have hlk:=h.wk.lb;exact⟨(hb.cell (a:=⟨b,0,I⟩) h.lb h.nb).trans h.c0,(hb.cell (a:=⟨b,1,I⟩) h.lb h.nb).trans h.c1,ht,h.wk.keep hb h.nk,fun hk=>(hF b hk).elim h.nb (fun h=>by omega),fun hk=>(hF bk hk).elim h.nk (fun h=>by omega),h.ne,h.ok⟩
theorem yiM {Ff:Nat->Prop} (h:Crk w b bt bk Ft root C) (hk:zO w' bk 0 root K') (ok:K'.Ok) (hb:But (fun j=>j=bk\/Ff j) w w') (hne:∀j,crF b bk Ft j->¬Ff j):Crk w' b bt bk Ft root ⟨C.L,K'⟩:=by
 have n:¬(b=bk\/Ff b):=fun e=>e.elim h.ne (hne b (.inl rfl));exact⟨(hb.cell (a:=⟨b,0,I⟩) h.lb n).trans h.c0,(hb.cell (a:=⟨b,1,I⟩) h.lb n).trans h.c1,h.tb.keep hb fun k hk e=>e.elim (fun e=>h.nk (e▸hk)) (hne k (.inr (.inr hk))),hk,h.nb,h.nk,h.ne,ok⟩
end Crk
structure qg (w:O) (b:Nat) (root:Int) (C:Pg.Cr) (F:Nat->Prop):Prop where
 ex:∃bt bk Ft,Crk w b bt bk Ft root C/\F=crF b bk Ft
section
variable {w w':O} {b:Nat} {root:Int} {C:Pg.Cr} {F G:Nat->Prop}
theorem qg.lt (h:qg w b root C F) {k:Nat} (hk:F k):k<w.heap.size:=by
 obtain⟨bt,bk,Ft,h,rfl⟩:=h;exact h.lt hk
theorem qg.keep (h:qg w b root C F) (hb:But G w w') (hF:∀k,F k->¬G k):qg w' b root C F:=by
 obtain⟨bt,bk,Ft,h,rfl⟩:=h;exact⟨bt,bk,Ft,h.keep hb hF,rfl⟩
theorem qg.grow (h:qg w b root C F) (hb:Below w.heap.size w w'):qg w' b root C F:=h.keep (G:=fun _=>False) (But.ygr hb) (fun _ _=>id)
end
theorem ych {w:O} {r:Nat} {v0 v1 v2:kR} {t:TypeId} (h:w.heap[r]?=J (.cells #[v0,v1,v2] t (0,0))):
 (w.cell? ⟨r,0,I⟩=J v0/\w.cell? ⟨r,1,I⟩=J v1/\w.cell? ⟨r,2,I⟩=J v2)/\∀i,w.frozen? ⟨r,i,I⟩=kI:=
 ⟨by simp[World.cell?,h],fun i=>by simp[World.frozen?,h]⟩
theorem qF {F:Nat->Prop} {w w1:O} (h:But F w w1) (r:Nat) (hr:w.heap.size<=r\/F r) (x0 x1 x2:kR):But F w (((w1.setCell ⟨r,0,I⟩ x0).setCell ⟨r,1,I⟩ x1).setCell ⟨r,2,I⟩ x2):=
 ((h.setCell (a:=⟨r,0,I⟩) hr x0).setCell (a:=⟨r,1,I⟩) hr x1).setCell (a:=⟨r,2,I⟩) hr x2
theorem xX {w w1:O} (h:Below w.heap.size w w1) (r:Nat) (hr:w.heap.size<=r) (x0 x1 x2:kR):Below w.heap.size w (((w1.setCell ⟨r,0,I⟩ x0).setCell ⟨r,1,I⟩ x1).setCell ⟨r,2,I⟩ x2):=
 ((h.setCell (p:=⟨r,0,I⟩) hr x0).setCell (p:=⟨r,1,I⟩) hr x1).setCell (p:=⟨r,2,I⟩) hr x2
theorem ydr (root:Int) (w:O):
 kS E 48 #[R Y root] w fun e w'=>∃b F,e=M (Q (J ⟨b,0,I⟩))/\qg w' b root Pg.Cr.new F/\Below w.heap.size w w'/\∀k,F k->w.heap.size<=k:=by
 go_enter Tryz.func48,Tryz.ntmps48
 go_wp2_with fail
 refine(yd9 _).mono ?_;rintro e w1 ⟨bt,Ft,rfl,ht,hb1,hF⟩;have HT:U _:=ht;have HB1:U _:=hb1;have HF:U _:=hF;clear ht hb1 hF
 go_wp2_with fail
 refine(yez root _).mono ?_;rintro e w2 ⟨bk,rfl,hk,hb2,hbk⟩;have HK:U _:=hk;have HB2:U _:=hb2;have s1:=HB1.out.size;have s2:=hb2.size;clear hk hb2
 go_wp2_with fail
 go_ret
 have hb3:=zA (zR w2) (.cells #[Q (J ⟨bt,0,I⟩),Q (J ⟨bk,0,I⟩)] 130);have hkl:=HK.out.lb
 have n1:¬Ft w2.heap.size:=fun hj=>by have:=HT.out.lt hj;omega
 have n2:¬Ft bk:=fun hj=>by have:=HT.out.lt hj;omega
 refine⟨_,_,rfl,⟨bt,bk,Ft,⟨?_,?_,(HT.out.grow HB2.out).grow hb3,HK.out.grow hb3,n1,n2,by omega,Pg.Wk.yhO⟩,rfl⟩,zT (zT HB1.out HB2.out) hb3,fun k hk=> ?_⟩
 ·simp[go_sem]
 ·simp[go_sem]
 ·rcases hk with rfl|rfl|hk
  ·omega
  ·omega
  ·exact HF.out k hk
section
variable {b:Nat} {root:Int} {C:Pg.Cr} {F:Nat->Prop}
theorem qm (w:O) (h:qg w b root C F):
 kS E 63 #[Q (J ⟨b,0,I⟩)] w fun e w'=>e=M (V C.K.on)/\w'=w:=by
 obtain⟨bt,bk,Ft,h,rfl⟩:=h;have c1:=h.c1;have HO:=yfc w h.wk;clear h
 go_enter Tryz.func63,Tryz.ntmps63
 go_wp2_with fail
 refine HO.mono ?_;rintro e w1 ⟨rfl,hw⟩;subst w1
 go_wp2_with fail
 go_ret
 exact⟨rfl,rfl⟩
theorem ycL (m:Pg.Mp) (hm:Pg.fits m.p) (w:O) (h:qg w b root C F):
 kS E 148 #[Q (J ⟨b,0,I⟩),m.val] w fun e w'=>e=M (kY #[])/\∃F',qg w' b root (C.told root m) F'/\But F w w'/\∀k,F' k->F k\/w.heap.size<=k:=by
 obtain⟨bt,bk,Ft,h,rfl⟩:=h;obtain⟨W,hW⟩:∃W,W=w.alloc (.cells #[R Y m.p,R Y m.s,R Y m.f,R Y m.r] 39):=⟨_,rfl⟩
 have hB:Below w.heap.size w W:=by rw[hW];exact zA (zR _) _
 have k1:yel W w.heap.size 0 m:=by rw[hW];exact⟨by simp[go_sem],by simp[go_sem],by simp[go_sem],by simp[go_sem]⟩
 have HW:U _:=h.grow hB;have HB:U _:=hB;have HD:=fun w' (ht:jy w' bt 0 C.L Ft)=>yaz m hm w' ht;obtain⟨x0,x1,x2,x3⟩:=k1;have g0:=kJ x0;have g1:=kJ x1;have g2:=kJ x2;have g3:=kJ x3;have g4:=kJ HW.out.c0;simp only[Nat.zero_add]at g0 g1 g2 g3;clear h hB x0 x1 x2 x3;obtain⟨L,K⟩:=C;unfold Pg.Cr.told;simp only at HD ⊢;generalize Pg.ygU L m=L' at*;obtain⟨mp,ms,mf,mr⟩:=m;simp only[Pg.Mp.val]at hW g0 g1 g2 g3 HD ⊢
 go_enter Tryz.func148,Tryz.ntmps148
 go_wp2_with fail
 rw[<-hW];clear hW;refine Loose.ygt 5 (by kernel_rfl) (by kernel_rfl) ?_;simp only[List.take_succ_cons,List.take_zero,List.drop_succ_cons,List.drop_zero]
 repeat (
  refine Loose.zS (fun k hk=> ?_)
  go_simp
  (refine hk _ ?_;clear hk k))
 refine Loose.ygs ?_;intro w3 hb3;have H3:U _:=HW.out.grow hb3;have HB3:U (Below w.heap.size w w3):=zT HB.out hb3;clear hb3 g0 g1 g2 g3 g4 HW HB
 go_wp2_with fail
 refine(HD _ H3.out.tb).mono ?_;rintro e w4 ⟨rfl,Ft',ht,hc,hF⟩;have H4:U _:=H3.out.stepT ht hc.but hF;have HB4:U (But (crF b bk Ft) w w4):=(But.ygr HB3.out).trans hc.but (fun _ _ h=> .inr (.inr h))
 have HF4:U (∀k,crF b bk Ft' k->crF b bk Ft k\/w.heap.size<=k):=fun k hk=>by
  have hs:=HB3.out.size;rcases hk with hk|hk|hk
  ·exact .inl (.inl hk)
  ·exact .inl (.inr (.inl hk))
  ·exact(hF k hk).imp (fun h=> .inr (.inr h)) (fun h=>by omega)
 have c1:=H4.out.c1;clear ht hc hF HD H3 HB3
 go_wp2_with fail
 refine(jG _ H4.out.wk).mono ?_;rintro e w5 ⟨rfl,hk5,hc5⟩;have H5:U _:=H4.out.yhX hk5 (H4.out.ok.again root) hc5.but;have HB5:U (But (crF b bk Ft) w w5):=HB4.out.trans hc5.but (fun _ _ h=> .inr (.inl h));clear hk5 hc5 H4 HB4 c1
 go_wp2_with fail
 go_end0
 exact⟨rfl,_,⟨_,_,_,H5.out,rfl⟩,HB5.out,HF4.out⟩
theorem ju (l:Pg.Ln) (q k:Int) (u:Bool) (w:O):
 kS E 142 #[l.val,.agg #[R Y q,R Y k,V u]] w fun e w'=>e=M (V (l.wants k u))/\Below w.heap.size w w':=by
 obtain⟨⟨mp,ms,mf,mr⟩,d⟩:=l;have HM:=fun w=>yaO mr q k u w;simp only[Pg.Ln.val,Pg.Ln.wants];cases hk:(k==1)
 ·go_enter Tryz.func142,Tryz.ntmps142
  go_wp2_with fail
  go_ret
  exact⟨rfl,zA (zA (zR w) _) _⟩
 ·cases d
  ·generalize Pg.may mr k u=x at*
   go_enter Tryz.func142,Tryz.ntmps142
   go_wp2_with fail
   refine(HM _).mono ?_;rintro e w1 ⟨rfl,hb1⟩;have HB:U (Below w.heap.size w w1):=zT (zA (zA (zR w) _) _) hb1;clear hb1
   go_wp2_with fail
   go_ret
   exact⟨rfl,HB.out⟩
  ·go_enter Tryz.func142,Tryz.ntmps142
   go_wp2_with fail
   go_ret
   exact⟨rfl,zA (zA (zR w) _) _⟩
end
end
structure Dsd where
 bm:Nat
 FM:Nat->Prop
 gc:Nat
 cc:Nat
 cb:Nat->Nat
 cF:Nat->Nat->Prop
 bs:Nat
 ag:Option Addr
 cg:Nat
def Dsd.own (D:Dsd) (b n:Nat) (G:List Int):Nat->Nat->Prop
 | 0,x=>x=b
 | 1,x=>D.FM x
 | 2,x=>x=D.gc
 | 3,x=>x=D.bs
 | 4,x=>G≠[]/\D.ag=J ⟨x,0,I⟩
 | k+5,x=>k<n/\D.cF k x
structure Dsk (w:O) (b:Nat) (D:Dsd) (X:Pg.Spc):Prop where
 c0:w.cell? ⟨b,0,I⟩=J (Q (J ⟨D.bm,0,I⟩))
 c1:w.cell? ⟨b,1,I⟩=J (R Y 0)
 c2:w.cell? ⟨b,2,I⟩=J (A (J ⟨D.gc,0,I⟩) X.C.length D.cc)
 c3:w.cell? ⟨b,3,I⟩=J (Q (J ⟨D.bs,0,I⟩))
 c4:w.cell? ⟨b,4,I⟩=J (A D.ag X.G.length D.cg)
 fb:∀p,w.frozen? ⟨b,p,I⟩=kI
 mem:zd w D.bm X.S D.FM
 row:∀k,k<X.C.length->w.cell? ⟨D.gc,k,I⟩=J (Q (J ⟨D.cb k,0,I⟩))
 core:∀k,k<X.C.length->qg w (D.cb k) 0 (X.C.getD k Pg.Cr.new) (D.cF k)
 tl:jh w D.bs X.T (fun k=>X.W.getD k kI)
 gone:zh w D.ag X.G
 part:∀i j x,D.own b X.C.length X.G i x->D.own b X.C.length X.G j x->i=j
 len:X.W.length=X.C.length
 pos:1<=X.C.length
 le:X.C.length<=4
 told:Pg.fits X.T.p
 few:X.G.length<=4680
def dsF (D:Dsd) (b n:Nat) (G:List Int):Nat->Prop:=fun x=>∃i,D.own b n G i x
namespace Dsk
variable {w w':O} {b:Nat} {D D':Dsd} {X:Pg.Spc}
theorem lb (h:Dsk w b D X):b<w.heap.size:=P _ _ h.c0
theorem lt (h:Dsk w b D X) {i x:Nat} (hx:D.own b X.C.length X.G i x):x<w.heap.size:=by
 match i with
 | 0=>have hx:x=b:=hx;rw[hx];exact h.lb
 | 1=>exact h.mem.lt hx
 | 2=>have hx:x=D.gc:=hx;rw[hx];exact P _ _ (h.row 0 h.pos)
 | 3=>have hx:x=D.bs:=hx;rw[hx];exact h.tl.lb
 | 4=>
   obtain⟨hG,ha⟩:=hx;have:0<X.G.length:=List.length_pos_iff.2 hG;obtain⟨g,e,hl,_⟩:=h.gone 0 this;rw[ha]at e;injection e with e;injection e with e;rw[e];exact hl
 | k+5=>exact(h.core k hx.1).lt hx.2
theorem others (h:Dsk w b D X) {F:Nat->Prop} (hb:But F w w'):
 ((∀x,D.own b X.C.length X.G 0 x->¬F x)->(∀p,w'.cell? ⟨b,p,I⟩=w.cell? ⟨b,p,I⟩)/\∀p,w'.frozen? ⟨b,p,I⟩=kI)/\
 ((∀x,D.own b X.C.length X.G 1 x->¬F x)->zd w' D.bm X.S D.FM)/\
 ((∀x,D.own b X.C.length X.G 2 x->¬F x)->∀k,k<X.C.length->w'.cell? ⟨D.gc,k,I⟩=J (Q (J ⟨D.cb k,0,I⟩)))/\
 ((∀x,D.own b X.C.length X.G 3 x->¬F x)->jh w' D.bs X.T (fun k=>X.W.getD k kI))/\
 ((∀x,D.own b X.C.length X.G 4 x->¬F x)->zh w' D.ag X.G)/\
 (∀k,k<X.C.length->(∀x,D.own b X.C.length X.G (k+5) x->¬F x)->qg w' (D.cb k) 0 (X.C.getD k Pg.Cr.new) (D.cF k)):=by
 refine⟨fun hF=> ?_,fun hF=>h.mem.keep hb hF,fun hF k hk=> ?_,fun hF=>h.tl.keep hb (hF _ rfl),fun hF=> ?_,fun k hk hF=> ?_⟩
 ·have kb:=hb.block b h.lb (hF b rfl)
  exact⟨fun p=>kN (a:=⟨b,p,I⟩) kb,fun p=>(kC (a:=⟨b,p,I⟩) kb).trans (h.fb p)⟩
 ·exact(hb.cell (a:=⟨D.gc,k,I⟩) (P _ _ (h.row k hk)) (hF _ rfl)).trans (h.row k hk)
 ·intro j hj
  obtain⟨g,e,hl,hc⟩:=h.gone j hj;refine⟨g,e,Nat.lt_of_lt_of_le hl hb.size,(hb.cell (a:=⟨g,j,I⟩) hl (hF g ⟨?_,e⟩)).trans hc⟩;intro e0;rw[e0]at hj;simp at hj
 ·exact(h.core k hk).keep hb fun x hx=>hF x ⟨hk,hx⟩
theorem keep (h:Dsk w b D X) {F:Nat->Prop} (hb:But F w w') (hF:∀x,dsF D b X.C.length X.G x->¬F x):Dsk w' b D X:=by
 obtain⟨o0,o1,o2,o3,o4,o5⟩:=h.others hb;have hF:∀i x,D.own b X.C.length X.G i x->¬F x:=fun i x hx=>hF x ⟨i,hx⟩;obtain⟨e0,f0⟩:=o0 (hF 0);exact⟨(e0 0).trans h.c0,(e0 1).trans h.c1,(e0 2).trans h.c2,(e0 3).trans h.c3,(e0 4).trans h.c4,f0,o1 (hF 1),o2 (hF 2),fun k hk=>o5 k hk (hF _),o3 (hF 3),o4 (hF 4),h.part,h.len,h.pos,h.le,h.told,h.few⟩
theorem grow (h:Dsk w b D X) (hb:Below w.heap.size w w'):Dsk w' b D X:=h.keep (F:=fun _=>False) (But.ygr hb) (fun _ _=>id)
theorem yih (h:Dsk w b D X) {G':List Int} (ho:∀i x,D'.own b X.C.length G' i x->D.own b X.C.length X.G i x\/w.heap.size<=x) (hn:∀i j x,w.heap.size<=x->D'.own b X.C.length G' i x->D'.own b X.C.length G' j x->i=j):∀i j x,D'.own b X.C.length G' i x->D'.own b X.C.length G' j x->i=j:=by
 intro i j x hi hj;rcases ho i x hi with h1|h1
 ·rcases ho j x hj with h2|h2
  ·exact h.part i j x h1 h2
  ·have:=h.lt h1
   omega
 ·exact hn i j x h1 hi hj
theorem yhg (h:Dsk w b D X) {l:Nat} {G':List Int} (ho:∀i,i≠l->∀x,D'.own b X.C.length G' i x->D.own b X.C.length X.G i x) (hl:∀x,D'.own b X.C.length G' l x->D.own b X.C.length X.G l x\/w.heap.size<=x):∀i j x,D'.own b X.C.length G' i x->D'.own b X.C.length G' j x->i=j:=by
 refine h.yih (fun i x hx=> ?_) (fun i j x hx hi hj=> ?_)
 ·by_cases e:i=l
  ·subst e
   exact hl x hx
  ·exact .inl (ho i e x hx)
 ·have key:∀i,D'.own b X.C.length G' i x->i=l:=fun i hi=>by
   by_cases e:i=l
   ·exact e
   ·have:=h.lt (ho i e x hi)
    omega
  rw[key i hi,key j hj]
theorem frames {S':Pg.Fs} {FM':Nat->Prop} (h:Dsk w b D X) (hm:zd w' D.bm S' FM') (hb:But D.FM w w') (hF:∀x,FM' x->D.FM x\/w.heap.size<=x):Dsk w' b {D with FM:=FM'} {X with S:=S'}:=by
 obtain⟨o0,o1,o2,o3,o4,o5⟩:=h.others hb;have hF':∀i,i≠1->∀x,D.own b X.C.length X.G i x->¬D.FM x:=fun i hi x hx hm=>hi (h.part i 1 x hx hm);obtain⟨e0,f0⟩:=o0 (hF' 0 (by decide));refine⟨(e0 0).trans h.c0,(e0 1).trans h.c1,(e0 2).trans h.c2,(e0 3).trans h.c3,(e0 4).trans h.c4,f0,hm,o2 (hF' 2 (by decide)),fun k hk=>o5 k hk (hF' _ (by omega)),o3 (hF' 3 (by decide)),o4 (hF' 4 (by decide)),h.yhg (l:=1) (fun i hi x hx=> ?_) (fun x hx=>hF x hx),h.len,h.pos,h.le,h.told,h.few⟩
 match i with
 | 0=>exact hx
 | 1=>exact absurd rfl hi
 | 2=>exact hx
 | 3=>exact hx
 | 4=>exact hx
 | k+5=>exact hx
theorem walked {k:Nat} {C':Pg.Cr} {S':Pg.Fs} {Fc FM':Nat->Prop} (h:Dsk w b D X) (hk:k<X.C.length) (hC:qg w' (D.cb k) 0 C' Fc) (hm:zd w' D.bm S' FM') (hb:But (fun j=>D.cF k j\/D.FM j) w w') (hF:∀x,Fc x->D.cF k x\/w.heap.size<=x) (hF2:∀x,FM' x->D.FM x\/w.heap.size<=x) (hne:∀x,Fc x->¬FM' x):
 Dsk w' b {D with cF:=fun j=>if j=k then Fc else D.cF j,FM:=FM'} {X with S:=S',C:=X.C.set k C'}:=by
 obtain⟨o0,o1,o2,o3,o4,o5⟩:=h.others hb;have hF':∀i,i≠k+5->i≠1->∀x,D.own b X.C.length X.G i x->¬(D.cF k x\/D.FM x):=fun i hi h1 x hx hm=>hm.elim (fun hm=>hi (h.part i (k+5) x hx ⟨hk,hm⟩)) (fun hm=>h1 (h.part i 1 x hx hm));obtain⟨e0,f0⟩:=o0 (hF' 0 (by omega) (by omega));have hl:(X.C.set k C').length=X.C.length:=List.length_set
 have old:∀i,i≠k+5->i≠1->∀x,({D with cF:=fun j=>if j=k then Fc else D.cF j,FM:=FM'}:Dsd).own b X.C.length X.G i x->D.own b X.C.length X.G i x:=fun i hi h1 x hx=>by
  match i with
  | 0=>exact hx
  | 1=>exact absurd rfl h1
  | 2=>exact hx
  | 3=>exact hx
  | 4=>exact hx
  | j+5=>
    obtain⟨a1,a2⟩:=hx;simp only at a2;rw[if_neg (by omega)]at a2;exact⟨a1,a2⟩
 have new:∀x,({D with cF:=fun j=>if j=k then Fc else D.cF j,FM:=FM'}:Dsd).own b X.C.length X.G (k+5) x->Fc x:=fun x hx=>by
  obtain⟨a1,a2⟩:=hx
  simpa only[if_true]using a2
 have hpart:∀i j x,({D with cF:=fun j=>if j=k then Fc else D.cF j,FM:=FM'}:Dsd).own b X.C.length X.G i x->({D with cF:=fun j=>if j=k then Fc else D.cF j,FM:=FM'}:Dsd).own b X.C.length X.G j x->i=j:=by
  refine h.yih (fun i x hx=> ?_) (fun i j x hx hi hj=> ?_)
  ·by_cases e:i=k+5
   ·subst e
    exact(hF x (new x hx)).imp (fun h=>⟨hk,h⟩) id
   ·by_cases e1:i=1
    ·subst e1
     exact hF2 x hx
    ·exact .inl (old i e e1 x hx)
  ·have key:∀i,({D with cF:=fun j=>if j=k then Fc else D.cF j,FM:=FM'}:Dsd).own b X.C.length X.G i x->i=k+5\/i=1:=fun i hi=>by
    by_cases e:i=k+5
    ·exact .inl e
    ·by_cases e1:i=1
     ·exact .inr e1
     ·have:=h.lt (old i e e1 x hi)
      omega
   rcases key i hi with rfl|rfl
   ·rcases key j hj with rfl|rfl
    ·rfl
    ·exact absurd hj (hne x (new x hi))
   ·rcases key j hj with rfl|rfl
    ·exact absurd hi (hne x (new x hj))
    ·rfl
 refine⟨(e0 0).trans h.c0,(e0 1).trans h.c1,?_,(e0 3).trans h.c3,(e0 4).trans h.c4,f0,hm,?_,?_,o3 (hF' 3 (by omega) (by omega)),o4 (hF' 4 (by omega) (by omega)),?_,?_,?_,?_,h.told,h.few⟩
 ·simp only[hl]
  exact(e0 2).trans h.c2
 ·simp only[hl]
  exact o2 (hF' 2 (by omega) (by omega))
 ·simp only[hl]
  intro j hj
  show qg w' (D.cb j) 0 ((X.C.set k C').getD j Pg.Cr.new) (if j=k then Fc else D.cF j)
  by_cases e:j=k
  ·subst e
   rw[if_pos rfl,show(X.C.set j C').getD j Pg.Cr.new=C' by simp[List.getD,hk]];exact hC
  ·rw[if_neg e,show(X.C.set k C').getD j Pg.Cr.new=X.C.getD j Pg.Cr.new by simp[List.getD,List.getElem?_set_ne (fun h=>e h.symm)]]
   exact o5 j hj (hF' _ (by omega) (by omega))
 ·simp only[hl]
  exact hpart
 ·simp only[hl]
  exact h.len
 ·simp only[hl]
  exact h.pos
 ·simp only[hl]
  exact h.le
theorem asked {k:Nat} {C':Pg.Cr} {Fc:Nat->Prop} (h:Dsk w b D X) (hk:k<X.C.length) (hC:qg w' (D.cb k) 0 C' Fc) (hb:But (D.cF k) w w') (hF:∀x,Fc x->D.cF k x\/w.heap.size<=x):
 Dsk w' b {D with cF:=fun j=>if j=k then Fc else D.cF j} {X with C:=X.C.set k C'}:=by
 have hm:zd w' D.bm X.S D.FM:=(h.others hb).2.1 (fun x hx hm=>by have:=h.part 1 (k+5) x hx ⟨hk,hm⟩;omega);refine h.walked hk hC hm (hb.mono (fun _ _ h=> .inl h)) hF (fun x hx=> .inl hx) (fun x hx hm=> ?_);rcases hF x hx with h1|h1
 ·have:=h.part 1 (k+5) x hm ⟨hk,h1⟩
  omega
 ·have:=h.lt (i:=1) hm
  omega
theorem shot {T':Pg.Mp} {W':List Bool} (h:Dsk w b D X) (hs:jh w' D.bs T' (fun k=>W'.getD k kI)) (hb:But (fun j=>j=D.bs) w w') (hl:W'.length=X.C.length) (hf:Pg.fits T'.p):
 Dsk w' b D {X with T:=T',W:=W'}:=by
 obtain⟨o0,o1,o2,o3,o4,o5⟩:=h.others hb;have hF':∀i,i≠3->∀x,D.own b X.C.length X.G i x->¬x=D.bs:=fun i hi x hx hm=>hi (h.part i 3 x hx hm);obtain⟨e0,f0⟩:=o0 (hF' 0 (by decide));exact⟨(e0 0).trans h.c0,(e0 1).trans h.c1,(e0 2).trans h.c2,(e0 3).trans h.c3,(e0 4).trans h.c4,f0,o1 (hF' 1 (by decide)),o2 (hF' 2 (by decide)),fun j hj=>o5 j hj (hF' _ (by omega)),hs,o4 (hF' 4 (by decide)),h.part,hl,h.pos,h.le,hf,h.few⟩
theorem goes {G:List Int} {ag:Option Addr} {cg:Nat} (h:Dsk w b D X) (hG:zh w ag G) (hn:∀g,ag=J ⟨g,0,I⟩->¬dsF D b X.C.length [] g) (hg:G.length<=4680):
 Dsk (w.setCell ⟨b,4,I⟩ (A ag G.length cg)) b {D with ag:=ag,cg:=cg} {X with G:=G}/\But (fun x=>x=b) w (w.setCell ⟨b,4,I⟩ (A ag G.length cg)):=by
 have hb:But (fun x=>x=b) w (w.setCell ⟨b,4,I⟩ (A ag G.length cg)):=(But.refl (fun x=>x=b) w).setCell (a:=⟨b,4,I⟩) (.inr rfl) _;obtain⟨o0,o1,o2,o3,o4,o5⟩:=h.others hb;have hF':∀i,i≠0->∀x,D.own b X.C.length X.G i x->¬x=b:=fun i hi x hx hm=>hi (h.part i 0 x hx hm);have k0:=h.c0;have k1:=h.c1;have k2:=h.c2;have k3:=h.c3;have k4:=h.c4;have kf:=h.fb;refine⟨⟨by simp[go_sem,k0],by simp[go_sem,k1],by simp[go_sem,k2],by simp[go_sem,k3],by simp[go_sem,k4],fun q=>by simp[go_sem,kf],o1 (hF' 1 (by decide)),o2 (hF' 2 (by decide)),fun j hj=>o5 j hj (hF' _ (by omega)),o3 (hF' 3 (by decide)),?_,?_,h.len,h.pos,h.le,h.told,hg⟩,hb⟩
 ·intro j hj
  obtain⟨g,e,hl,hc⟩:=hG j hj;exact⟨g,e,by simpa using hl,(hb.cell (a:=⟨g,j,I⟩) hl (fun e'=>hn g e ⟨0,e'⟩)).trans hc⟩
 ·have oth:∀i,i≠4->∀x,({D with ag:=ag,cg:=cg}:Dsd).own b X.C.length G i x->D.own b X.C.length X.G i x/\D.own b X.C.length [] i x:=fun i hi x hx=>by
   match i with
   | 0=>exact⟨hx,hx⟩
   | 1=>exact⟨hx,hx⟩
   | 2=>exact⟨hx,hx⟩
   | 3=>exact⟨hx,hx⟩
   | 4=>exact absurd rfl hi
   | k+5=>exact⟨hx,hx⟩
  intro i j x hi hj
  by_cases ei:i=4
  ·by_cases ej:j=4
   ·rw[ei,ej]
   ·subst ei
    exact absurd ⟨j,(oth j ej x hj).2⟩ (hn x hi.2)
  ·by_cases ej:j=4
   ·subst ej
    exact absurd ⟨i,(oth i ei x hi).2⟩ (hn x hj.2)
   ·exact h.part i j x (oth i ei x hi).1 (oth j ej x hj).1
end Dsk
theorem ybW {D D':Dsd} {b n N:Nat} {G G':List Int} (ho:∀i x,D'.own b n G' i x->D.own b n G i x\/N<=x):∀x,dsF D' b n G' x->dsF D b n G x\/N<=x:=by
 rintro x ⟨i,hx⟩;exact(ho i x hx).imp (fun h=>⟨_,h⟩) id
theorem qn {D:Dsd} {b n N:Nat} {G:List Int} {FM':Nat->Prop} (hF:∀x,FM' x->D.FM x\/N<=x):∀x,dsF {D with FM:=FM'} b n G x->dsF D b n G x\/N<=x:=by
 refine ybW fun i x hx=> ?_
 match i with
 | 0=>exact .inl hx
 | 1=>exact hF x hx
 | 2=>exact .inl hx
 | 3=>exact .inl hx
 | 4=>exact .inl hx
 | k+5=>exact .inl hx
theorem yag {D:Dsd} {b n N k:Nat} {G:List Int} {Fc FM':Nat->Prop} (hk:k<n) (hF:∀x,Fc x->D.cF k x\/N<=x) (hF2:∀x,FM' x->D.FM x\/N<=x):∀x,dsF {D with cF:=fun j=>if j=k then Fc else D.cF j,FM:=FM'} b n G x->dsF D b n G x\/N<=x:=by
 refine ybW fun i x hx=> ?_
 match i with
 | 0=>exact .inl hx
 | 1=>exact hF2 x hx
 | 2=>exact .inl hx
 | 3=>exact .inl hx
 | 4=>exact .inl hx
 | j+5=>
   obtain⟨a1,a2⟩:=hx;simp only at a2
   by_cases e:j=k
   ·subst e
    rw[if_pos rfl]at a2;exact(hF x a2).imp (fun h=>⟨hk,h⟩) id
   ·rw[if_neg e]at a2
    exact .inl ⟨a1,a2⟩
theorem ya6 {D:Dsd} {b n N k:Nat} {G:List Int} {Fc:Nat->Prop} (hk:k<n) (hF:∀x,Fc x->D.cF k x\/N<=x):∀x,dsF {D with cF:=fun j=>if j=k then Fc else D.cF j} b n G x->dsF D b n G x\/N<=x:=yag (FM':=D.FM) hk hF (fun x hx=> .inl hx)
theorem yes {D:Dsd} {b n N:Nat} {G G':List Int} {ag:Option Addr} {cg:Nat} (hF:∀x,ag=J ⟨x,0,I⟩->G'≠[]->N<=x):∀x,dsF {D with ag:=ag,cg:=cg} b n G' x->dsF D b n G x\/N<=x:=by
 refine ybW fun i x hx=> ?_
 match i with
 | 0=>exact .inl hx
 | 1=>exact .inl hx
 | 2=>exact .inl hx
 | 3=>exact .inl hx
 | 4=>exact .inr (hF x hx.2 hx.1)
 | k+5=>exact .inl hx
structure jz (w:O) (b:Nat) (X:Pg.Spc) (F:Nat->Prop):Prop where
 ex:∃D,Dsk w b D X/\F=dsF D b X.C.length X.G
section
variable {w w':O} {b:Nat} {X:Pg.Spc} {F G:Nat->Prop}
theorem jz.lt (h:jz w b X F) {k:Nat} (hk:F k):k<w.heap.size:=by
 obtain⟨D,h,rfl⟩:=h;obtain⟨i,hi⟩:=hk;exact h.lt hi
theorem jz.keep (h:jz w b X F) (hb:But G w w') (hF:∀k,F k->¬G k):jz w' b X F:=by
 obtain⟨D,h,rfl⟩:=h;exact⟨D,h.keep hb hF,rfl⟩
theorem jz.grow (h:jz w b X F) (hb:Below w.heap.size w w'):jz w' b X F:=h.keep (G:=fun _=>False) (But.ygr hb) (fun _ _=>id)
end
theorem Pg.yhW {W:List Bool} (h:W.length<=4):Pg.yhP (fun k=>W.getD k kI)= !(W.any id):=by
 match W,h with
 | [],_=>rfl
 | [a],_=>cases a<;>rfl
 | [a,b],_=>cases a<;>cases b<;>rfl
 | [a,b,c],_=>cases a<;>cases b<;>cases c<;>rfl
 | [a,b,c,d],_=>cases a<;>cases b<;>cases c<;>cases d<;>rfl
 | a::b::c::d::e::l,h=>simp at h
theorem Pg.ack_waits' {W:List Bool} {k:Nat} (hk:k<W.length):Pg.yiB k (fun j=>W.getD j kI)=fun j=>(W.set k kI).getD j kI:=by
 funext j
 unfold Pg.yiB;rw[Pg.set_getD hk]
theorem Pg.post_waits {W:List Bool}:Pg.yho W.length (fun j=>W.getD j kI)=fun j=>(W.map fun _=>true).getD j kI:=by
 funext j
 unfold Pg.yho
 by_cases h:j<W.length
 ·rw[Pg.yig W j h]
  simp[h]
 ·simp[List.getD,h]
structure Mk (w:O) (B k b:Nat) (lv:Int) (e:Pg.En) (v1 v2:kR) (ts ps:List Int) (p:Int):Prop where
 c0:w.cell? ⟨k,0,I⟩=J (Q (J ⟨b,0,I⟩))
 c1:w.cell? ⟨k,1,I⟩=J (R Y lv)
 c2:w.cell? ⟨k,2,I⟩=J (V e.t)
 c3:w.cell? ⟨k,3,I⟩=J (V e.l)
 c4:w.cell? ⟨k,4,I⟩=J (R Y e.r)
 c5:w.cell? ⟨k,5,I⟩=J (V e.u)
 c6:w.cell? ⟨k,6,I⟩=J (V e.d)
 c7:w.cell? ⟨k,7,I⟩=J (R Y e.f)
 c8:w.cell? ⟨k,8,I⟩=J v1
 c9:w.cell? ⟨k,9,I⟩=J v2
 c10:w.cell? ⟨k,10,I⟩=J (R Y p)
 fz:∀o,w.frozen? ⟨k,o,I⟩=kI
 o1:w.ownsRow B 3 1 v1 ts.length (zr ts)
 o2:w.ownsRow B 3 1 v2 ps.length (zr ps)
 ne:∀j,v1.ownBlock=J j->v2.ownBlock≠J j
 n1:v1.ownBlock≠J k
 n2:v2.ownBlock≠J k
 hi:B<=k
def mkF (k:Nat) (v1 v2:kR):Nat->Prop:=fun j=>j=k\/v1.ownBlock=J j\/v2.ownBlock=J j
namespace Mk
variable {w w':O} {B k b:Nat} {lv:Int} {e:Pg.En} {v1 v2:kR} {ts ps:List Int} {p:Int}
theorem lb (h:Mk w B k b lv e v1 v2 ts ps p):k<w.heap.size:=P _ _ h.c0
theorem lt (h:Mk w B k b lv e v1 v2 ts ps p) {j:Nat} (hj:mkF k v1 v2 j):B<=j/\j<w.heap.size:=by
 rcases hj with rfl|hj|hj
 ·exact⟨h.hi,h.lb⟩
 ·exact h.o1.lt j hj
 ·exact h.o2.lt j hj
theorem keep (h:Mk w B k b lv e v1 v2 ts ps p) {G:Nat->Prop} (hb:But G w w') (hG:∀j,mkF k v1 v2 j->¬G j):Mk w' B k b lv e v1 v2 ts ps p:=by
 have hk:w'.heap[k]?=w.heap[k]?:=hb.block k h.lb (hG k (.inl rfl));have c:∀{o:Nat} {v:kR},w.cell? ⟨k,o,I⟩=J v->w'.cell? ⟨k,o,I⟩=J v:=fun e=>(kN hk).trans e
 exact⟨c h.c0,c h.c1,c h.c2,c h.c3,c h.c4,c h.c5,c h.c6,c h.c7,c h.c8,c h.c9,c h.c10,fun o=>(kC hk).trans (h.fz o),
  zb h.o1 hb fun j hj=>hG j (.inr (.inl hj)),zb h.o2 hb fun j hj=>hG j (.inr (.inr hj)),h.ne,h.n1,h.n2,h.hi⟩
theorem grow (h:Mk w B k b lv e v1 v2 ts ps p) (hb:Below w.heap.size w w'):Mk w' B k b lv e v1 v2 ts ps p:=h.keep (G:=fun _=>False) (But.ygr hb) fun _ _=>id
theorem setCell (h:Mk w B k b lv e v1 v2 ts ps p) (o:Nat) (v:kR):
 (∀o',o'≠o->(w.setCell ⟨k,o,I⟩ v).cell? ⟨k,o',I⟩=w.cell? ⟨k,o',I⟩)/\(w.setCell ⟨k,o,I⟩ v).ownsRow B 3 1 v1 ts.length (zr ts)/\(w.setCell ⟨k,o,I⟩ v).ownsRow B 3 1 v2 ps.length (zr ps):=by
 refine⟨fun o' ho=>World.cell?_setCell_other _ _ _ _ (fun e=>ho (by injection e with _ e;exact e.symm)),?_,?_⟩
 ·exact za h.o1 fun j hj=>Below.heap_setCell _ _ _ _ fun e=>h.n1 (by rw[hj,e])
 ·exact za h.o2 fun j hj=>Below.heap_setCell _ _ _ _ fun e=>h.n2 (by rw[hj,e])
theorem yiL (h:Mk w B k b lv e v1 v2 ts ps p) (lv':Int):Mk (w.setCell ⟨k,1,I⟩ (R Y lv')) B k b lv' e v1 v2 ts ps p:=by
 obtain⟨hc,q1,q2⟩:=h.setCell 1 (R Y lv')
 exact⟨(hc 0 (by decide)).trans h.c0,World.cell?_setCell_same _ _ _ h.c1,(hc 2 (by decide)).trans h.c2,(hc 3 (by decide)).trans h.c3,(hc 4 (by decide)).trans h.c4,(hc 5 (by decide)).trans h.c5,(hc 6 (by decide)).trans h.c6,(hc 7 (by decide)).trans h.c7,(hc 8 (by decide)).trans h.c8,(hc 9 (by decide)).trans h.c9,(hc 10 (by decide)).trans h.c10,
  fun o=>by rw[World.frozen?_setCell];exact h.fz o,q1,q2,h.ne,h.n1,h.n2,h.hi⟩
theorem setE (h:Mk w B k b lv e v1 v2 ts ps p) (e':Pg.En):Mk ((((((w.setCell ⟨k,2,I⟩ (V e'.t)).setCell ⟨k,3,I⟩ (V e'.l)).setCell ⟨k,4,I⟩ (R Y e'.r)).setCell ⟨k,5,I⟩ (V e'.u)).setCell ⟨k,6,I⟩ (V e'.d)).setCell ⟨k,7,I⟩ (R Y e'.f)) B k b lv e' v1 v2 ts ps p:=by
 have hb:But (fun j=>j=k) w ((((((w.setCell ⟨k,2,I⟩ (V e'.t)).setCell ⟨k,3,I⟩ (V e'.l)).setCell ⟨k,4,I⟩ (R Y e'.r)).setCell ⟨k,5,I⟩ (V e'.u)).setCell ⟨k,6,I⟩ (V e'.d)).setCell ⟨k,7,I⟩ (R Y e'.f)):=
  ((((((But.refl (fun j=>j=k) w).setCell (a:=⟨k,2,I⟩) (.inr rfl) _).setCell (a:=⟨k,3,I⟩) (.inr rfl) _).setCell (a:=⟨k,4,I⟩) (.inr rfl) _).setCell (a:=⟨k,5,I⟩) (.inr rfl) _).setCell (a:=⟨k,6,I⟩) (.inr rfl) _).setCell (a:=⟨k,7,I⟩) (.inr rfl) _
 refine⟨?_,?_,?_,?_,?_,?_,?_,?_,?_,?_,?_,fun o=> ?_,zb h.o1 hb fun j hj e=>h.n1 (by rw[hj,e]),zb h.o2 hb fun j hj e=>h.n2 (by rw[hj,e]),h.ne,h.n1,h.n2,h.hi⟩<;>
  simp[go_sem,h.c0,h.c1,h.c2,h.c3,h.c4,h.c5,h.c6,h.c7,h.c8,h.c9,h.c10,h.fz]
end Mk
structure St (w0 w:O) (k b:Nat) (F0:Nat->Prop) (S:Pg.Fs) (lv:Int) (e:Pg.En) (ts ps:List Int) (p:Int):Prop where
 body:∃B v1 v2 F,Mk w B k b lv e v1 v2 ts ps p/\zd w b S F/\But F0 w0 w/\(∀j,F j->F0 j\/w0.heap.size<=j)/\(∀j,F j->¬mkF k v1 v2 j)/\B<=w.heap.size/\∀j,mkF k v1 v2 j->F0 j\/w0.heap.size<=j
namespace St
variable {w0 w w':O} {k b:Nat} {F0:Nat->Prop} {S:Pg.Fs} {lv:Int} {e:Pg.En} {ts ps:List Int} {p:Int}
theorem grow (h:St w0 w k b F0 S lv e ts ps p) (hb:Below w.heap.size w w'):St w0 w' k b F0 S lv e ts ps p:=by
 obtain⟨B,v1,v2,F,hM,hF,hB,h1,h2,hBB,hm⟩:=h.body;exact⟨B,v1,v2,F,hM.grow hb,hF.keep (G:=fun _=>False) (But.ygr hb) fun _ _=>id,hB.trans (But.ygr (F:=fun _=>False) hb) fun _ _ h=>h.elim,h1,h2,kP hBB hb.size,hm⟩
theorem but (h:St w0 w k b F0 S lv e ts ps p):But F0 w0 w:=by
 obtain⟨B,v1,v2,F,hM,hF,hB,h1,h2,hBB,hm⟩:=h.body;exact hB
theorem lb (h:St w0 w k b F0 S lv e ts ps p):k<w.heap.size:=by
 obtain⟨B,v1,v2,F,hM,hF,hB,h1,h2,hBB,hm⟩:=h.body;exact hM.lb
theorem leaves (h:St w0 w k b F0 S lv e ts ps p):∃F,zd w b S F/\But F0 w0 w/\∀j,F j->F0 j\/w0.heap.size<=j:=by
 obtain⟨B,v1,v2,F,hM,hF,hB,h1,h2,hBB,hm⟩:=h.body;exact⟨F,hF,hB,h1⟩
end St
theorem jU {b:Nat} {S:Pg.Fs} {F:Nat->Prop} (t p:Int) (w:O) (h:zd w b S F):
 kS E 155 #[Q (J ⟨b,0,I⟩),R Y t,R Y p] w fun en w'=>∃k,en=M (kY #[Q (J ⟨k,0,I⟩),R Y (qq S t p)])/\St w w' k b F S (ygw (zt S t p)) (ygv (zt S t p)) (tabs (zt S t p)) (qz (zt S t p)) p/\Below w.heap.size w w':=by
 have HF:=yeb t p w h;have H:U (zd w b S F):=h;clear h;have htl:=xM (zt S t p);have hpl:=j9 (zt S t p);generalize zt S t p=X at*;generalize qq S t p=c at*;unfold ybB at HF;generalize ygw X=lv at*;generalize ygv X=e at*
 go_enter Tryz.func155,Tryz.ntmps155
 go_wp2_with fail
 refine HF.mono ?_;rintro en w1 ⟨v1,v2,rfl,o1,o2,hne,hb⟩;obtain⟨a1,c1,rfl⟩:=zF o1;obtain⟨a2,c2,rfl⟩:=zF o2
 have HO1:U (w1.ownsRow w.heap.size 3 1 (A a1 X.length c1) (tabs X).length (zr (tabs X))):=by rw[htl];exact o1
 have HO2:U (w1.ownsRow w.heap.size 3 1 (A a2 X.length c2) (qz X).length (zr (qz X))):=by rw[hpl];exact o2
 have HN:U _:=hne;have HB:U _:=hb;clear o1 o2 hne hb HF
 go_wp2_with fail
 go_ret2
 have hB1:Below w.heap.size w (w1.alloc (.cells #[R Y lv,V e.t,V e.l,R Y e.r,V e.u,V e.d,R Y e.f,A a1 X.length c1,A a2 X.length c2] 211)):=zA HB.out _;have hB2:=zA hB1 (.cells #[Q (J ⟨b,0,I⟩),R Y lv,V e.t,V e.l,R Y e.r,V e.u,V e.d,R Y e.f,A a1 X.length c1,A a2 X.length c2,R Y p] 213);have hsz:=HB.out.size;refine⟨w1.heap.size+1,rfl,⟨w.heap.size,A a1 X.length c1,A a2 X.length c2,F,⟨?_,?_,?_,?_,?_,?_,?_,?_,?_,?_,?_,fun o=> ?_,(HO1.out.alloc _).alloc _,(HO2.out.alloc _).alloc _,HN.out,fun e=> ?_,fun e=> ?_,by omega⟩,?_,?_,?_,?_,hB2.size,?_⟩,hB2⟩
 iterate 12 (focus (simp[go_sem]))
 ·have:=(z.lt HO1.out _ e).2;omega
 ·have:=(z.lt HO2.out _ e).2;omega
 ·exact zd.keep (G:=fun _=>False) H.out (But.ygr hB2) fun _ _=>id
 ·exact But.ygr hB2
 ·exact fun j hj=> .inl hj
 ·intro j hj hm
  have:=zd.lt H.out hj;rcases hm with rfl|hm|hm
  ·omega
  ·have:=(z.lt HO1.out _ hm).1;omega
  ·have:=(z.lt HO2.out _ hm).1;omega
 ·intro j hm
  right;rcases hm with rfl|hm|hm
  ·omega
  ·exact(z.lt HO1.out _ hm).1
  ·exact(z.lt HO2.out _ hm).1
theorem yaK {w0 w:O} {k b:Nat} {F0:Nat->Prop} {S:Pg.Fs} {lv:Int} {e:Pg.En} {ts ps:List Int} {p:Int} (h:St w0 w k b F0 S lv e ts ps p) (hl:ts.length<=5000):
 kS E 170 #[Q (J ⟨k,0,I⟩)] w fun en w'=>en=M (R Y ((ts.length:Int)-1))/\w'=w:=by
 obtain⟨B,v1,v2,F,hM,hF,hB,h1,h2,hBB,hm⟩:=h.body;obtain⟨a1,c1,rfl⟩:=zF hM.o1;have c8:=hM.c8;clear hM hF hB h1 h2 h hBB hm;generalize ts.length=n at*
 go_enter Tryz.func170,Tryz.ntmps170
 go_wp2_with fail
 go_ret
 exact⟨rfl,rfl⟩
theorem vu {w0 w:O} {k b:Nat} {F0:Nat->Prop} {S:Pg.Fs} {lv:Int} {e:Pg.En} {ts ps:List Int} {p:Int} (h:St w0 w k b F0 S lv e ts ps p) (hl:ts.length<=5000):
 kS E 135 #[Q (J ⟨k,0,I⟩)] w fun en w'=>en=M (V (decide (1<ts.length)))/\w'=w:=by
 have HE:=yaK h hl
 have HD:U (decide (1<(ts.length:Int))=decide (1<ts.length)):=by
  rw[U,decide_eq_decide];omega
 clear h;generalize ts.length=n at*
 go_enter Tryz.func135,Tryz.ntmps135
 go_wp2_with fail
 refine HE.mono ?_;rintro en w1 ⟨rfl,rfl⟩
 go_wp2_with fail
 go_ret
 exact⟨xi HD.out,rfl⟩
theorem xQ {b:Nat} {S:Pg.Fs} {F:Nat->Prop} (t p:Int) (w:O) (h:zd w b S F):
 kS E 120 #[Q (J ⟨b,0,I⟩),R Y t,R Y p] w fun en w'=>∃k,en=M (kY #[Q (J ⟨k,0,I⟩),R Y (Pg.tFC S t p)])/\St w w' k b F S (ygw (zt S t p)) (ygv (zt S t p)) (tabs (zt S t p)) (qz (zt S t p)) p/\Below w.heap.size w w':=by
 have HF:=jU t p w h
 have hleaf:qq S t p=0->(ygv (zt S t p)).l=(ygv (zt S t p)).t:=by
  intro hz;obtain⟨lv,e,tl,W⟩:=Pg.yix hz;have hf:=Pg.yhy h.ok W.code;rw[<-W.en]at hf;obtain⟨_,hx⟩:=Pg.ygI hf;have ho:=W.on;rw[W.ygv];unfold Pg.En.on at ho;rcases hx with ⟨h1,h2,_⟩|⟨h1,_⟩
  ·rw[h1,h2]
  ·rw[h1]at ho ⊢
   simpa using ho
 have e1:Pg.tFC S t p=if qq S t p≠0 then qq S t p else if (ygv (zt S t p)).t=true then 0 else 5:=rfl;clear h;generalize Pg.tFC S t p=cc at*;generalize zt S t p=X at*;generalize qq S t p=c at*
 go_enter Tryz.func120,Tryz.ntmps120
 go_wp2_with fail
 refine HF.mono ?_;rintro en w1 ⟨k,rfl,hS,hb⟩;have HS:U _:=hS;have HB:U _:=hb;obtain⟨B,v1,v2,F',hM,_,_,_,_,_,_⟩:=hS.body;have c3:=hM.c3;clear hM hS hb HF
 by_cases hc:c=0
 ·subst hc
  rw[if_neg (by decide)]at e1;rw[hleaf rfl]at c3;clear hleaf;cases ht:(ygv X).t
  ·rw[ht]at e1 c3
   have E1:U _:=e1;clear e1 ht
   go_wp2_with fail
   go_ret2
   exact⟨k,by rw[E1.out];rfl,HS.out,HB.out⟩
  ·rw[ht]at e1 c3
   have E1:U _:=e1;clear e1 ht
   go_wp2_with fail
   go_ret2
   exact⟨k,by rw[E1.out];rfl,HS.out,HB.out⟩
 ·have hcb:(c==0)=kI:=by simpa using hc
  have E1:U (cc=c):=by rw[U,e1,if_pos hc]
  clear e1 hleaf hc c3
  go_wp2_with fail
  go_ret2
  exact⟨k,by rw[E1.out];rfl,HS.out,HB.out⟩
theorem qv {w0 w:O} {k b:Nat} {F0:Nat->Prop} {S:Pg.Fs} {lv:Int} {e:Pg.En} {ts ps:List Int} {p:Int} (h:St w0 w k b F0 S lv e ts ps p):
 kS E 121 #[Q (J ⟨k,0,I⟩)] w fun en w'=>en=M (e.map lv p).val/\Below w.heap.size w w':=by
 obtain⟨B,v1,v2,F,hM,hF,hB,h1,h2,hBB,hm⟩:=h.body;obtain⟨et,el,er,eu,ed,ef⟩:=e;obtain⟨W,hW⟩:∃W,W=w.alloc (.cells #[R Y 0,R Y 0,R Y 0,R Y 0] 39):=⟨_,rfl⟩
 have hBW:Below w.heap.size w W:=by rw[hW];exact zA (zR w) _
 have hM1:=hM.grow hBW
 have hz:W.cell? ⟨w.heap.size,0,I⟩=J (R Y 0)/\W.cell? ⟨w.heap.size,1,I⟩=J (R Y 0)/\W.cell? ⟨w.heap.size,2,I⟩=J (R Y 0)/\W.cell? ⟨w.heap.size,3,I⟩=J (R Y 0):=by rw[hW];simp[go_sem]
 have hzf:∀o,W.frozen? ⟨w.heap.size,o,I⟩=kI:=fun o=>by rw[hW];simp[go_sem]
 have hlW:w.heap.size<W.heap.size:=P _ _ hz.1;have HE:=yaJ et el er eu ed ef lv p;have e1:Pg.mapV et el er eu ed ef lv p=(Pg.En.map ⟨et,el,er,eu,ed,ef⟩ lv p).val:=rfl;rw[e1]at HE;generalize Pg.En.map ⟨et,el,er,eu,ed,ef⟩ lv p=m at*;obtain⟨mp,ms,mf,mr⟩:=m;simp only[Pg.Mp.val]at HE ⊢
 have nk:¬k=w.heap.size:=by have:=hM.lb;omega
 have nk':¬w.heap.size=k:=by have:=hM.lb;omega
 have HZ:U _:=hz;have HZF:U _:=hzf;have HBW:U _:=hBW;have k1:=hM1.c1;have k2:=hM1.c2;have k3:=hM1.c3;have k4:=hM1.c4;have k5:=hM1.c5;have k6:=hM1.c6;have k7:=hM1.c7;have k10:=hM1.c10;simp only at k2 k3 k4 k5 k6 k7;clear h hM hF hB h1 h2 hM1 hz hzf hBW e1 hBB hm
 go_enter Tryz.func121,Tryz.ntmps121
 go_wp2_with fail
 rw[<-hW];clear hW
 go_region_held3 (fun w'=>w'.cell? ⟨k,1,I⟩=J (R Y lv)/\w'.cell? ⟨k,2,I⟩=J (V et)/\w'.cell? ⟨k,3,I⟩=J (V el)/\w'.cell? ⟨k,4,I⟩=J (R Y er)/\w'.cell? ⟨k,5,I⟩=J (V eu)/\w'.cell? ⟨k,6,I⟩=J (V ed)/\w'.cell? ⟨k,7,I⟩=J (R Y ef)/\w'.cell? ⟨k,10,I⟩=J (R Y p)) (go_keep) (
  (go_at_call 152;refine(HE _).mono ?_;rintro en w2 ⟨rfl,hb2⟩
   have HB2:U (Below W.heap.size W w2):=zT (zR W).drew hb2;have q1:=Z HB2.out k1;have q2:=Z HB2.out k2;have q3:=Z HB2.out k3;have q4:=Z HB2.out k4;have q5:=Z HB2.out k5;have q6:=Z HB2.out k6;have q7:=Z HB2.out k7;have q10:=Z HB2.out k10;obtain⟨z0,z1,z2,z3⟩:=xc HB2.out HZ.out;have zf:∀o,w2.frozen? ⟨w.heap.size,o,I⟩=kI:=fun o=>(HB2.out.frozen (p:=⟨w.heap.size,o,I⟩) hlW).trans (HZF.out o)
   clear hb2))
 have fin:U (Below w.heap.size w ((((w2.setCell ⟨w.heap.size,0,I⟩ (R Y mp)).setCell ⟨w.heap.size,1,I⟩ (R Y ms)).setCell ⟨w.heap.size,2,I⟩ (R Y mf)).setCell ⟨w.heap.size,3,I⟩ (R Y mr))):=zq (zT HBW.out HB2.out) _ (Nat.le_refl _) _ _ _ _
 go_wp2_with fail
 refine bodyPost_ret (v:= .agg #[R Y mp,R Y ms,R Y mf,R Y mr]) ?_ rfl ⟨rfl,fin.out⟩;simp[results,Tryz.results121,go_sem,z0,z1,z2,z3]
theorem jq {w:O} {B:Nat} {v:kR} {ts:List Int} {t:Int} (h:w.ownsRow B 3 1 v (ts++[t]).length (zr (ts++[t]))):∃g cap,v=A (J ⟨g,0,I⟩) (ts.length+1) cap/\w.cell? ⟨g,ts.length,I⟩=J (R Y t)/\ts.length+1<=cap:=by
 rw[List.length_append,List.length_singleton]at h;have h2:=h;obtain⟨g,cap,rfl,_,_⟩:=h.form (by omega);refine⟨g,cap,rfl,?_,?_⟩
 ·rw[h.cellAt ts.length (by omega)]
  simp[zr]
 ·rcases h2.2 with ⟨h',_⟩|⟨g',cap',cur,h',_,_,hle,_⟩
  ·cases h'
  ·cases h';exact hle
theorem vF {w0 w:O} {k b:Nat} {F0:Nat->Prop} {S:Pg.Fs} {lv:Int} {e:Pg.En} {ts ps:List Int} {p t q:Int} (e':Pg.En) (h:St w0 w k b F0 S lv e (ts++[t]) (ps++[q]) p) (hlen:ts.length=ps.length) (hl:ts.length<5000):
 kS E 134 #[Q (J ⟨k,0,I⟩),e'.val] w fun en w'=>en=M (kY #[])/\St w0 w' k b F0 (S.store t q (Pg.enc e'.t e'.l e'.r e'.u e'.d e'.f lv)) lv e' (ts++[t]) (ps++[q]) p:=by
 obtain⟨et,el,er,eu,ed,ef⟩:=e';simp only[Pg.En.val];have HE:=yal et el er eu ed ef lv;have hv:0<=Pg.enc et el er eu ed ef lv/\Pg.enc et el er eu ed ef lv<18446744073709551616:=Pg.yh9 _ _ _ _ _ _ _;generalize Pg.enc et el er eu ed ef lv=v at*;generalize Pg.ygu et el er eu ed ef lv=fl at*;obtain⟨hv0,hv1⟩:=hv;obtain⟨W,hW⟩:∃W,W=w.alloc (.cells #[V et,V el,R Y er,V eu,V ed,R Y ef] 70):=⟨_,rfl⟩
 have hBW:Below w.heap.size w W:=by rw[hW];exact zA (zR w) _
 have hx:W.cell? ⟨w.heap.size,0,I⟩=J (V et)/\W.cell? ⟨w.heap.size,1,I⟩=J (V el)/\W.cell? ⟨w.heap.size,2,I⟩=J (R Y er)/\W.cell? ⟨w.heap.size,3,I⟩=J (V eu)/\W.cell? ⟨w.heap.size,4,I⟩=J (V ed)/\W.cell? ⟨w.heap.size,5,I⟩=J (R Y ef):=by rw[hW];simp[go_sem]
 have nk:¬k=w.heap.size:=by have:=h.lb;omega
 have nk':¬w.heap.size=k:=by have:=h.lb;omega
 have hlw:w.heap.size<W.heap.size:=P _ _ hx.1;obtain⟨B,v1,v2,F,hM,hF,hB,h1,h2,hBB,hm⟩:=h.body;obtain⟨g1,cap1,rfl,ht,_⟩:=jq hM.o1;obtain⟨g2,cap2,rfl,hq,_⟩:=jq hM.o2;have HFl:U (∀j,F j->j<w.heap.size):=fun j hj=>hF.lt hj;have HM:U _:=hM;have HF:U (zd w b S F):=hF;have HBt:U _:=hB;have H1:U _:=h1;have H2:U _:=h2;have HBB:U _:=hBB;have Hm:U _:=hm;have HBW:U _:=hBW;have k1:=(hM.grow hBW).c1;obtain⟨x0,x1,x2,x3,x4,x5⟩:=hx;clear hM hF hB h1 h2 h hBW hBB hm
 go_enter Tryz.func134,Tryz.ntmps134
 go_wp2_with fail
 rw[<-hW];clear hW
 go_region_held3 (fun w'=>w'.cell? ⟨w.heap.size,0,I⟩=J (V et)/\w'.cell? ⟨w.heap.size,1,I⟩=J (V el)/\w'.cell? ⟨w.heap.size,2,I⟩=J (R Y er)/\w'.cell? ⟨w.heap.size,3,I⟩=J (V eu)/\w'.cell? ⟨w.heap.size,4,I⟩=J (V ed)/\w'.cell? ⟨w.heap.size,5,I⟩=J (R Y ef)/\w'.cell? ⟨k,1,I⟩=J (R Y lv)) (go_keep) (
  (go_at_call 168;refine(HE _).mono ?_;rintro en w2 ⟨rfl,hb2⟩
   have HB2:U (Below W.heap.size W w2):=zT (zR W).drew hb2;have q0:=Z HB2.out x0;have q1:=Z HB2.out x1;have q2:=Z HB2.out x2;have q3:=Z HB2.out x3;have q4:=Z HB2.out x4;have q5:=Z HB2.out x5;have q6:=Z HB2.out k1
   clear hb2))
 have HB3:U (Below w.heap.size w w2):=zT HBW.out HB2.out;have hl2:w.heap.size<w2.heap.size:=P _ _ q0;have HM2:U _:=HM.out.grow HB3.out;have HF2:U (zd w2 b S F):=zd.keep (G:=fun _=>False) HF.out (But.ygr HB3.out) fun _ _=>id;have HBt2:U (But F0 w0 w2):=HBt.out.trans (But.ygr (F:=fun _=>False) HB3.out) fun _ _ h=>h.elim;have X2:U (w2.cell? ⟨w.heap.size,0,I⟩=J (V et)/\w2.cell? ⟨w.heap.size,1,I⟩=J (V el)/\w2.cell? ⟨w.heap.size,2,I⟩=J (R Y er)/\w2.cell? ⟨w.heap.size,3,I⟩=J (V eu)/\w2.cell? ⟨w.heap.size,4,I⟩=J (V ed)/\w2.cell? ⟨w.heap.size,5,I⟩=J (R Y ef)):=⟨q0,q1,q2,q3,q4,q5⟩;have k0:=HM2.out.c0;have k8:=HM2.out.c8;have k9:=HM2.out.c9;have kt:=Z HB3.out ht;have kq:=Z HB3.out hq;clear x0 x1 x2 x3 x4 x5 k1 HE q0 q1 q2 q3 q4 q5 q6 ht hq HM HF HBt HB2 HBW
 have HEnd:∀W',Below w2.heap.size w2 W'->kS E 170 #[Q (J ⟨k,0,I⟩)] W' fun en w'=>en=M (R Y (ts.length:Int))/\w'=W':=fun W' hb=>by
  have hS:St w0 W' k b F0 S lv e (ts++[t]) (ps++[q]) p:=St.grow ⟨B,_,_,F,HM2.out,HF2.out,HBt2.out,H1.out,H2.out,kP HBB.out HB3.out.size,Hm.out⟩ hb;refine(yaK hS (by simp;omega)).mono ?_;rintro en w' ⟨rfl,rfl⟩;exact⟨by simp,rfl⟩
 have HSt:∀W',Below w2.heap.size w2 W'->kS E 169 #[Q (J ⟨b,0,I⟩),R Y t,R Y q,R .u64 v] W' fun en w'=>en=M (V (S.at' t q))/\∃F4,zd w' b (S.store t q v) F4/\But F w2 w'/\∀k,F4 k->F k\/w2.heap.size<=k:=fun W' hb=>by
  refine(yb3 t q v hv0 hv1 W' (zd.keep (G:=fun _=>False) HF2.out (But.ygr hb) fun _ _=>id)).mono ?_;rintro en w' ⟨rfl,F4,f1,f2,f3⟩;exact⟨rfl,F4,f1,(But.ygr hb).trans f2 fun _ _ h=>h,fun j hj=>(f3 j hj).imp id fun h=>by have:=hb.size;omega⟩
 have hlen':ps.length=ts.length:=hlen.symm;rw[hlen']at k9 kq
 have i0:(0:Int)<=(ts.length:Int):=by omega
 have i1:(ts.length:Int)<(ts.length:Int)+1:=by omega
 have HL:U _:=hlen;clear hlen hlen';generalize hn:ts.length=n at*;have HN:U _:=hn;clear hn
 go_wp2_with fail
 go_region_held3 (fun w'=>w'.cell? ⟨k,0,I⟩=J (Q (J ⟨b,0,I⟩))/\w'.cell? ⟨k,8,I⟩=J (A (J ⟨g1,0,I⟩) (n+1) cap1)/\w'.cell? ⟨k,9,I⟩=J (A (J ⟨g2,0,I⟩) (n+1) cap2)/\w'.cell? ⟨g1,n,I⟩=J (R Y t)/\w'.cell? ⟨g2,n,I⟩=J (R Y q)) (go_keep) (first
  | (go_at_call 170;refine(HEnd _ (by first|exact(zR w2).drew|exact zR w2)).mono ?_;rintro en w3 ⟨rfl,hw3⟩;subst w3)
  | (go_at_call 169;refine(HSt _ (by first|exact(zR w2).drew|exact zR w2)).mono ?_;rintro en w4 ⟨rfl,hf4⟩
     obtain⟨F4,f1,f2,f3⟩:=hf4;have f2':But F w2 w4:=f2;have HM4:U _:=HM2.out.keep f2' fun j hj hF=>H2.out j hF hj;have HF4:U (zd w4 b (S.store t q v) F4):=f1;have HF42:U (But F w2 w4):=f2';have HF43:U (∀k,F4 k->F k\/w2.heap.size<=k):=f3;have r0:=HM4.out.c0;have r8:=HM4.out.c8;have r9:=HM4.out.c9;rw[<-HL.out]at r9;have rt:w4.cell? ⟨g1,n,I⟩=J (R Y t):=(f2'.cell (a:=⟨g1,n,I⟩) (P _ _ kt) fun hF=>H2.out g1 hF (.inr (.inl rfl))).trans kt;have rq:w4.cell? ⟨g2,n,I⟩=J (R Y q):=(f2'.cell (a:=⟨g2,n,I⟩) (P _ _ kq) fun hF=>H2.out g2 hF (.inr (.inr rfl))).trans kq
     clear f1 f2 f3 f2'))
 have y:∀(o:Nat) (u:kR),w2.cell? ⟨w.heap.size,o,I⟩=J u->w4.cell? ⟨w.heap.size,o,I⟩=J u:=fun o u hu=>(HF42.out.cell (a:=⟨w.heap.size,o,I⟩) hl2 fun hF=>by have:=HFl.out _ hF;simp at this).trans hu;have y0:=y _ _ X2.out.1;have y1:=y _ _ X2.out.2.1;have y2:=y _ _ X2.out.2.2.1;have y3:=y _ _ X2.out.2.2.2.1;have y4:=y _ _ X2.out.2.2.2.2.1;have y5:=y _ _ X2.out.2.2.2.2.2;have r2:=HM4.out.c2;have r3:=HM4.out.c3;have r4:=HM4.out.c4;have r5:=HM4.out.c5;have r6:=HM4.out.c6;have r7:=HM4.out.c7;have rf:=HM4.out.fz;have hlk:=HM4.out.lb;have fin:U _:=HM4.out.setE ⟨et,el,er,eu,ed,ef⟩
 have fbt:U (But (fun j=>j=k) w4 ((((((w4.setCell ⟨k,2,I⟩ (V et)).setCell ⟨k,3,I⟩ (V el)).setCell ⟨k,4,I⟩ (R Y er)).setCell ⟨k,5,I⟩ (V eu)).setCell ⟨k,6,I⟩ (V ed)).setCell ⟨k,7,I⟩ (R Y ef))):=
  ((((((But.refl (fun j=>j=k) w4).setCell (a:=⟨k,2,I⟩) (.inr rfl) _).setCell (a:=⟨k,3,I⟩) (.inr rfl) _).setCell (a:=⟨k,4,I⟩) (.inr rfl) _).setCell (a:=⟨k,5,I⟩) (.inr rfl) _).setCell (a:=⟨k,6,I⟩) (.inr rfl) _).setCell (a:=⟨k,7,I⟩) (.inr rfl) _
 have F4n:U (∀j,F4 j->¬mkF k (A (J ⟨g1,0,I⟩) (n+1) cap1) (A (J ⟨g2,0,I⟩) (ps.length+1) cap2) j):=fun j hj hm=>by
  rcases HF43.out j hj with h|h
  ·exact H2.out j h hm
  ·have:=(HM2.out.lt hm).2;omega
 have hhi:=HM2.out.hi;clear y r0 r8 r9 rt rq k0 k8 k9 kt kq HSt HEnd
 go_wp2_with fail
 go_end0
 refine⟨rfl,B,_,_,F4,fin.out,zd.keep HF4.out fbt.out fun j hj e=>F4n.out j hj (.inl e),?_,fun j hj=> ?_,F4n.out,?_,Hm.out⟩
 ·refine(HBt2.out.trans HF42.out fun i hi hF=> ?_).trans fbt.out fun i hi e=> ?_
  ·rcases H1.out i hF with h|h
   ·exact h
   ·omega
  ·rcases Hm.out i (.inl e)with h|h
   ·exact h
   ·omega
 ·rcases HF43.out j hj with h|h
  ·exact H1.out j h
  ·have:=HBt2.out.size;exact .inr (by omega)
 ·exact kP (kP HBB.out HB3.out.size) (kP HF42.out.size fbt.out.size)
end Go.Proofs.YtdphiompijbelaaGreat
