import Derived.Test.YtdphiompijbelaaGreatFrameB
import Derived.Lib.Overlaps
import Derived.Lib.SliceRun
import Derived.Shelf.RegionOpenPlain
import Derived.Deep.LoopGhost
import Derived.Deep.RegionLaw
import Derived.Deep.RegionWith
set_option linter.all false
set_option maxRecDepth 100000
open Bool renaming true->H,false->yS
open Go.World renaming frozen?_of_block->E,block_lt_of_cell?->ki,cell?_of_block->un,news_of_block->yI,frozen?->yC,ownsRow_nil->yT,ownsRow->yE,shape?->yA
open Go renaming World->X
open Nat renaming le_refl->M,zero_le->kh,le_of_not_lt->yZ,min_eq_left->yU,min->yX,zero_add->yD
open Go.Obj renaming cells->K
open Array renaming length_toList->U,getElem?_eq_some_iff->D
open Go.Ending renaming returned->T
open List renaming length_take->Y,length_drop->Q,length_append->Z,size_toArray->A,take_of_length_le->kp,length_cons->ur,getElem?_take->uv,drop_eq_nil_of_le->ud,mem_of_mem_drop->uc,length_nil->ua,getElem?_drop->yJ,length_eq_zero_iff->yR,take_append_drop->yY,append_assoc->yV,getElem_mem->yQ,take_left'->yO,drop_left'->yK,length_set->yM
open Go.Proofs.Tryz renaming prog->C
open Go.Value renaming int->B,slice->R,pointer->O,ownBlock->kO,tuple->ks,agg->ue,slice->yB,bool->yP,int->yN,agg->yF
open Go.IntKind renaming i64->J
open Option renaming none->I,some->S
set_option maxHeartbeats 4000000
namespace Go.Proofs.YtdphiompijbelaaGreat
open Go.RowKit
namespace Pg
def cmpI (x y:Int):Int:=if x<y then-1 else if y<x then 1 else 0
def lkP (q:Int) (x:Mp):Int:=if x.has q=H then 0 else cmpI q x.p
def lkM (m x:Mp):Int:=if x.meets m=H then 0 else cmpI m.p x.p
theorem ykE {x y:Int}:0<cmpI x y ↔ y<x:=by unfold cmpI;split<;>(try split)<;>omega
theorem yj9 {x y:Int}:cmpI x y=0 ↔ y=x:=by unfold cmpI;split<;>(try split)<;>omega
theorem yiz {x:Mp} {q:Int}:x.has q=H ↔ x.p<=q/\q-x.p<span x.s:=by simp[Mp.has,over]
theorem yin {a b:Mp}:a.meets b=H ↔ (a.p<=b.p/\b.p-a.p<span a.s)\/(b.p<=a.p/\a.p-b.p<span b.s):=by
 unfold Mp.meets;rw[yj5];simp
theorem yj3 {q:Int} {x:Mp}:0<lkP q x ↔ x.p+span x.s<=q/\x.p<q:=by
 unfold lkP
 by_cases h:x.has q=H
 ·rw[if_pos h]
  have:=yiz.1 h;omega
 ·rw[if_neg h,ykE]
  have:¬(x.p<=q/\q-x.p<span x.s):=fun a=>h (yiz.2 a);have:=(yhH x.s).1;omega
theorem yjy {m x:Mp}:0<lkM m x ↔ x.p+span x.s<=m.p/\x.p<m.p:=by
 unfold lkM
 by_cases h:x.meets m=H
 ·rw[if_pos h]
  have:=yin.1 h;omega
 ·rw[if_neg h,ykE]
  have:¬((x.p<=m.p/\m.p-x.p<span x.s)\/(m.p<=x.p/\x.p-m.p<span m.s)):=fun a=>h (yin.2 a);have:=(yhH x.s).1;omega
theorem yjg {x:Mp} (h:x.code=0):1<=span x.s:=by
 have:=(yhC h).1;have:=(yhH x.s).1;omega
theorem ykQ {q:Int} {x:Mp} (h:x.code=0):lkP q x=0 ↔ x.has q=H:=by
 have hs:=yjg h;unfold lkP
 by_cases e:x.has q=H
 ·simp[e]
 ·rw[if_neg e,yj9]
  constructor
  ·intro h;exact absurd (yiz.2 ⟨by omega,by omega⟩) e
  ·intro h;exact absurd h e
theorem yj2 {m x:Mp} (h:x.code=0):lkM m x=0 ↔ x.meets m=H:=by
 have hs:=yjg h;unfold lkM
 by_cases e:x.meets m=H
 ·simp[e]
 ·rw[if_neg e,yj9]
  constructor
  ·intro h;exact absurd (yin.2 (.inl ⟨by omega,by omega⟩)) e
  ·intro h;exact absurd h e
theorem Good.two {L:List Mp} (h:Good L) {i j:Nat} (bi:i<j) (hj:j<L.length):(L.getD i .zz).p+span (L.getD i .zz).s<=(L.getD j .zz).p/\(L.getD i .zz).p<(L.getD j .zz).p:=by
 have hp:=List.pairwise_iff_getElem.1 h.up i j (by omega) hj bi;rw[yh7 (by omega),yh7 hj];obtain⟨h1,h2⟩:=hp
 have h3:¬((L[i].p<=L[j].p/\L[j].p-L[i].p<span L[i].s)\/(L[j].p<=L[i].p/\L[i].p-L[j].p<span L[j].s)):=fun a=>by
  rw[yin.2 a]at h2;cases h2
 omega
theorem Good.at {L:List Mp} (h:Good L) {i:Nat} (hi:i<L.length):(L.getD i .zz).code=0:=by
 rw[yh7 hi];exact h.ok _ (yQ _)
def cut (L:List Mp) (lk:Mp->Int):Nat:=L.findIdx fun m=>decide (lk m<=0)
theorem ykb (L:List Mp) (lk:Mp->Int):cut L lk<=L.length:=List.findIdx_le_length
theorem yiC {L:List Mp} {lk:Mp->Int} {t:Nat} (h:t<cut L lk):0<lk (L.getD t .zz):=by
 have hl:=ykb L lk;have:=List.not_of_lt_findIdx h;rw[yh7 (by omega)];simp at this;exact this
theorem ykF {L:List Mp} {lk:Mp->Int} (h:cut L lk<L.length):lk (L.getD (cut L lk) .zz)<=0:=by
 have h1:L.findIdx (fun m=>decide (lk m<=0))<L.length:=h;have h2:=List.findIdx_getElem (w:=h1);rw[yh7 h];exact of_decide_eq_true h2
def ylx (L:List Mp) (lk:Mp->Int):Prop:=∀i j,i<j->j<L.length->0<lk (L.getD j .zz)->0<lk (L.getD i .zz)
theorem cut_behind {L:List Mp} {lk:Mp->Int} (hf:ylx L lk) {t:Nat} (h:cut L lk<=t) (ht:t<L.length):lk (L.getD t .zz)<=0:=by
 have h0:=ykF (L:=L) (lk:=lk) (by omega)
 by_cases e:cut L lk=t
 ·rw[<-e];exact h0
 ·have:=hf (cut L lk) t (by omega) ht
  omega
theorem Good.fallsP {L:List Mp} (h:Good L) (q:Int):ylx L (lkP q):=by
 intro i j bi hj hp;have:=h.two bi hj;rw[yj3]at hp ⊢;have:=(yhH (L.getD j .zz).s).1;omega
theorem Good.fallsM {L:List Mp} (h:Good L) (m:Mp):ylx L (lkM m):=by
 intro i j bi hj hp;have:=h.two bi hj;rw[yjy]at hp ⊢;have:=(yhH (L.getD j .zz).s).1;omega
def hit (L:List Mp) (lk:Mp->Int):Bool:=decide (cut L lk<L.length)&&(lk (L.getD (cut L lk) .zz)==0)
theorem yiF {L:List Mp} {lk:Mp->Int}:hit L lk=H ↔ cut L lk<L.length/\lk (L.getD (cut L lk) .zz)=0:=by simp[hit]
theorem yks {L:List Mp} (h:Good L) (q:Int):fnd L q=if hit L (lkP q)=H then S (cut L (lkP q))else I:=by
 split
 ·rename_i hh
  obtain⟨h1,h2⟩:=yiF.1 hh;refine ylA h1 ((ykQ (h.at h1)).1 h2) fun j hj=> ?_;have h3:=yj3.1 (yiC hj);cases e:(L.getD j .zz).has q
  ·rfl
  ·have:=yiz.1 e;omega
 ·rename_i hh
  refine ylz fun j hj=> ?_;cases e:(L.getD j .zz).has q
  ·rfl
  ·exfalso
   have he:=yiz.1 e
   have hc:cut L (lkP q)<=j:=by
    refine yZ fun Hf=> ?_;have:=yj3.1 (yiC Hf);omega
   refine hh (yiF.2 ⟨by omega,?_⟩);have h0:=ykF (L:=L) (lk:=lkP q) (by omega);rw[ykQ (h.at (by omega))]
   by_cases e2:cut L (lkP q)=j
   ·rw[e2];exact e
   ·have:=h.two (i:=cut L (lkP q)) (j:=j) (by omega) hj
    have hn:¬0<lkP q (L.getD (cut L (lkP q)) .zz):=by omega
    rw[yj3]at hn;rw[yiz];omega
theorem any_hit {L:List Mp} (h:Good L) {m:Mp} (hm:m.code=0):(L.any fun x=>x.meets m)=hit L (lkM m):=by
 have hs:=yjg hm;cases hh:hit L (lkM m)
 ·rw[List.any_eq_false]
  intro x hx e;obtain⟨j,hj,rfl⟩:=List.mem_iff_getElem.1 hx;rw[<-yh7 hj]at e;have he:=yin.1 e
  have hc:cut L (lkM m)<=j:=by
   refine yZ fun Hf=> ?_;have:=yjy.1 (yiC Hf);omega
  have h0:=ykF (L:=L) (lk:=lkM m) (by omega)
  have:hit L (lkM m)=H:=by
   refine yiF.2 ⟨by omega,?_⟩;rw[yj2 (h.at (by omega))]
   by_cases e2:cut L (lkM m)=j
   ·rw[e2];exact e
   ·have:=h.two (i:=cut L (lkM m)) (j:=j) (by omega) hj
    have hn:¬0<lkM m (L.getD (cut L (lkM m)) .zz):=by omega
    rw[yjy]at hn;have s1:=yjg (h.at (i:=cut L (lkM m)) (by omega));have s2:=yjg (h.at hj);rw[yin];omega
  rw[hh]at this;cases this
 ·obtain⟨h1,h2⟩:=yiF.1 hh
  rw[List.any_eq_true];refine⟨L.getD (cut L (lkM m)) .zz,by rw[yh7 h1];exact yQ _,(yj2 (h.at h1)).1 h2⟩
theorem ylB {m:Mp}:∀{L:List Mp} {k:Nat},k<=L.length->(∀t,t<k->¬m.p<(L.getD t .zz).p)->(k<L.length->m.p<(L.getD k .zz).p)->ins m L=L.take k++m::L.drop k
 | [],k,hk,_,_=>by
   have:k=0:=by simpa using hk
   subst this;rfl
 | x::r,0,_,_,h2=>by
   have:m.p<x.p:=by simpa using h2 (by simp)
   simp[ins,this]
 | x::r,k+1,hk,h1,h2=>by
   have h0:¬m.p<x.p:=by simpa using h1 0 (by omega)
   have:=ylB (m:=m) (L:=r) (k:=k) (by simpa using hk) (fun t ht=>by simpa using h1 (t+1) (by omega)) (fun h=>by simpa using h2 (by simpa using h));simp[ins,h0,this]
theorem ins_cut {L:List Mp} (h:Good L) {m:Mp} (hh:hit L (lkM m)=yS):ins m L=L.take (cut L (lkM m))++m::L.drop (cut L (lkM m)):=by
 refine ylB (ykb _ _) (fun t ht=> ?_) (fun hl=> ?_)
 ·have:=yjy.1 (yiC ht)
  omega
 ·have h0:=ykF (L:=L) (lk:=lkM m) hl
  have h1:¬lkM m (L.getD (cut L (lkM m)) .zz)=0:=fun e=>by
   rw[yiF.2 ⟨hl,e⟩]at hh;cases hh
  have h2:¬0<lkM m (L.getD (cut L (lkM m)) .zz):=by omega
  rw[yj2 (h.at hl),yin]at h1;rw[yjy]at h2;have:=yjg (h.at hl);omega
end Pg
open Go.RowKit Go.Sort
set_option linter.unusedVariables false
set_option maxRecDepth 100000
theorem ybK {vb:Value} {L:List Pg.Mp} (w:X) (hr:w.ownsRow 0 39 4 vb L.length (zC L)) (Hg:L.length<=4096):
 Calls C 194 #[vb] w fun e w'=>∃v',e=T v'/\w'.ownsRow w.heap.size 39 4 v' L.length (zC L)/\Below w.heap.size w w':=by
 have q58:∀(w:X) (a:Option Addr) (n c n' c':Nat),(binOp .eql 44 (R a n c) (R I n' c')).run C w= .ok (yP a.isNone) w:=fun w a n c n' c'=>Lib.run_eql_slice_nil w _ _ a n c n' c' Tryz.underlying44;rcases hr.2 with ⟨rfl,h0⟩|⟨g,cap,cur,rfl,_,hg,bA⟩
 ·have hL:L=[]:=yR.1 h0
  subst hL;clear hr
  go_enter Tryz.func194,Tryz.ntmps194
  go_wp2_with fail
  go_ret
  exact⟨_,rfl,yT _ _ _ _,zR _⟩
 ·obtain⟨q0,sF,rW,rZ,rX⟩:=info_parts qp
  have dP:Hid _:=hr.cells (g:=g) rfl;have hgl:g<w.heap.size:=(D.1 hg).1;clear hr hg bA
  go_enter Tryz.func194,Tryz.ntmps194
  go_wp2_with (at_builtin;refine wpList_append_own _ rfl _ _ 44 rfl w.heap.size 39 q0 _ 4 32 Tryz.underlying44 sF rW rZ rX rfl (by decide) _ _ _ rfl (World.ownsRow_made w #[] 0 (M _) (kh _) (by simp)) ⟨g,0,I⟩ L.length cap (zC L) rfl (xK L) ?c1 (qn L) ?c3 ?c4 ?c5 ?_)
  case c1=>
   intro j u hj;have:=dP.out j u hj;exact(Below.cell (p:=(⟨g,0,I⟩:Addr).add j) (zA (zR w) _) (ki _ _ this)).trans this
  case c3=>unfold maxLen;omega
  case c4=>omega
  case c5=>simp
  intro v' w1 Hr Hq Pi
  have fq:Hid (w1.ownsRow w.heap.size 39 4 v' L.length (zC L)):=by simpa[Hid]using Hr
  have hb:Hid (Below w.heap.size w w1):=((But.refl (fun _=>False) w).alloc _).grown Hq (fun k hk=> .inl (by simp[kO]at hk;omega))|>.below (M _) (fun _ h=>h.elim);clear Hr Hq Pi
  go_wp2_with fail
  go_ret
  exact⟨v',rfl,fq.out,hb.out⟩
theorem vO (x:Int) (w:X):Calls C 232 #[B J x] w fun e w'=>e=T (yP yS)/\w'=w:=by
 go_enter Tryz.func232,Tryz.ntmps232
 go_wp2
 go_ret
 exact⟨xB (by simp),rfl⟩
theorem vE (x y:Int) (w:X):Calls C 218 #[B J x,B J y] w fun e w'=>e=T (B J (Pg.cmpI x y))/\w'=w:=by
 by_cases h1:x<y
 ·have HC:Hid (Pg.cmpI x y= -1):=by simp[Hid,Pg.cmpI,h1]
  go_enter Tryz.func218,Tryz.ntmps218
  go_wp2_with (go_at_call 232;refine(vO _ _).mono ?_;rintro e w' ⟨rfl,rfl⟩)
  go_ret
  exact⟨zE HC.out.symm,rfl⟩
 ·by_cases h2:y<x
  ·have HC:Hid (Pg.cmpI x y=1):=by simp[Hid,Pg.cmpI,h1,h2]
   go_enter Tryz.func218,Tryz.ntmps218
   go_wp2_with (go_at_call 232;refine(vO _ _).mono ?_;rintro e w' ⟨rfl,rfl⟩)
   go_ret
   exact⟨zE HC.out.symm,rfl⟩
  ·have HC:Hid (Pg.cmpI x y=0):=by simp[Hid,Pg.cmpI,h1,h2]
   go_enter Tryz.func218,Tryz.ntmps218
   go_wp2_with (go_at_call 232;refine(vO _ _).mono ?_;rintro e w' ⟨rfl,rfl⟩)
   go_ret
   exact⟨zE HC.out.symm,rfl⟩
theorem yfv (g:FuncId) (cb:Array Value) (n k:Nat) (c:Nat->Int) (w:X) (eg:∀args w,(callFunc g args).run C w= .ok (.enter g args) w) (hn:n<=4096) (hk:k<=n)
 (h1:∀t,t<k->0<c t) (h2:∀t,k<=t->t<n->c t<=0)
 (hf:∀(i:Nat) (w':X),i<n->Below w.heap.size w w'->Calls C g (#[B J i]++cb) w' fun e w''=>e=T (B J (c i))/\Below w'.heap.size w' w''):
 Calls C 230 #[B J n,.func (.func g) #[] cb] w fun e w'=>e=T (ks #[B J k,yP (decide (k<n)&&(c k==0))])/\Below w.heap.size w w':=by
 have HF:Hid _:=hf;have H1:Hid _:=h1;have H2:Hid _:=h2;clear hf h1 h2
 go_enter Tryz.func230,Tryz.ntmps230
 go_wp2_with fail
 go_loopg [4,6] n (fun kx s4 s6 wr=>∃lo hi:Nat,s4=B J lo/\s6=B J hi/\lo<=k/\k<=hi/\hi<=n/\hi-lo<=kx/\Hid (Below w.heap.size w wr))
 case atStart=>exact⟨0,n,rfl,rfl,kh _,hk,M _,by omega,zR w⟩
 case round=>
  obtain⟨lo,hi,rfl,rfl,bv,Lh,A9,hm,HB⟩:=hrel
  by_cases Hf:lo<hi
  ·have hc:=HF.out ((lo+hi)/2) wr (by omega) HB.out
   rw[show(((lo+hi)/2:Nat):Int)=((lo:Int)+(hi:Int))/2 by omega]at hc;have h3:=H1.out ((lo+hi)/2);have h4:=H2.out ((lo+hi)/2);generalize c ((lo+hi)/2)=x at*
   by_cases hx:0<x
   ·have FO:(lo+hi)/2<k:=by omega
    clear h3 h4
    go_wp2_with (go_at_fn g;refine hc.mono ?_;rintro e w' ⟨rfl,hb⟩)
    go_roundg (hi-((lo+hi)/2+1))
    case measure=>omega
    case rel=>exact⟨(lo+hi)/2+1,hi,by rw[show((lo:Int)+(hi:Int))/2+1=(((lo+hi)/2+1:Nat):Int) by omega],rfl,by omega,Lh,A9,M _,zT HB.out hb⟩
   ·have fe:k<=(lo+hi)/2:=by omega
    clear h3 h4
    go_wp2_with (go_at_fn g;refine hc.mono ?_;rintro e w' ⟨rfl,hb⟩)
    go_roundg ((lo+hi)/2-lo)
    case measure=>omega
    case rel=>exact⟨lo,(lo+hi)/2,rfl,by rw[show((lo:Int)+(hi:Int))/2=(((lo+hi)/2:Nat):Int) by omega],bv,fe,by omega,M _,zT HB.out hb⟩
  ·have e1:lo=k:=by omega
   have e2:hi=k:=by omega
   subst e1 e2
   by_cases bR:hi<n
   ·have hc:=HF.out hi wr bR HB.out
    have HE:Hid (decide (hi<n)=H):=by simp[Hid,bR]
    go_wp2_with (go_at_fn g;refine hc.mono ?_;rintro e w' ⟨rfl,hb⟩)
    go_ret2
    exact⟨by rw[HE.out];rfl,zT HB.out hb⟩
   ·have HE:Hid (decide (hi<n)=yS):=by simp[Hid,bR]
    go_wp2_with fail
    go_ret2
    exact⟨by rw[HE.out];rfl,HB.out⟩
theorem yat:∀args w,(callFunc 231 args).run C w= .ok (.enter 231 args) w:=fun args w=>by simp[go_sem]
structure Dbk (w:X) (b:Nat) (vb:Value) (L:List Pg.Mp):Prop where
 c0:w.cell? ⟨b,0,I⟩=S vb
 fb:∀o,w.frozen? ⟨b,o,I⟩=yS
 row:w.ownsRow 0 39 4 vb L.length (zC L)
 nb:vb.ownBlock≠S b
 good:Pg.Good L
namespace Dbk
variable {w w':X} {b:Nat} {vb vb':Value} {L L':List Pg.Mp}
theorem lb (h:Dbk w b vb L):b<w.heap.size:=ki _ _ h.c0
theorem lt (h:Dbk w b vb L) {k:Nat} (hk:bkF b vb k):k<w.heap.size:=by
 rcases hk with rfl|hk
 ·exact h.lb
 ·exact(h.row.lt k hk).2
theorem keep (h:Dbk w b vb L) {F:Nat->Prop} (hb:But F w w') (hF:∀k,bkF b vb k->¬F k):Dbk w' b vb L:=by
 have kb:=hb.block b h.lb (hF b (.inl rfl));exact⟨(un kb).trans h.c0,fun o=>(E kb).trans (h.fb o),zc h.row hb fun k hk=>hF k (.inr hk),h.nb,h.good⟩
theorem grow (h:Dbk w b vb L) (hb:Below w.heap.size w w'):Dbk w' b vb L:=h.keep (F:=fun _=>False) (But.yhp hb) (fun _ _=>id)
theorem mp (h:Dbk w b vb L) {j:Nat} (hj:j<L.length):∃g cap,vb=R (S ⟨g,0,I⟩) L.length cap/\g<w.heap.size/\ybG w g (j*4) (L.getD j .zz):=by
 obtain⟨g,cap,rfl,_,hg⟩:=h.row.form (by omega);obtain⟨g',e,_,hm⟩:=xx h.row j hj;cases e;exact⟨g,cap,rfl,hg,hm⟩
end Dbk
theorem yc6 {b bl bb:Nat} {vb:Value} {L:List Pg.Mp} (f:FuncId) (cb:Array Value) (lk:Pg.Mp->Int) (j:Nat) (w:X) (hD:Dbk w b vb L) (hj:j<L.length)
 (hl:w.cell? ⟨bl,0,I⟩=S (.func (.func f) #[] cb)) (hb:w.cell? ⟨bb,0,I⟩=S (O (S ⟨b,0,I⟩))) (ef:∀args w,(callFunc f args).run C w= .ok (.enter f args) w)
 (hf:∀(m:Pg.Mp) (w':X),Pg.fits m.p->Below w.heap.size w w'->Calls C f (#[m.val]++cb) w' fun e w''=>e=T (B J (lk m))/\Below w'.heap.size w' w''):
 Calls C 231 #[B J j,O (S ⟨bl,0,I⟩),O (S ⟨bb,0,I⟩)] w fun e w'=>e=T (B J (lk (L.getD j .zz)))/\Below w.heap.size w w':=by
 obtain⟨g,cap,rfl,hg,bS,dV,si,ll⟩:=hD.mp hj;have rT:=hD.c0;have Hg:=hD.good.len;have gX:=(Pg.yi1 (hD.good.at hj)).2.2.1
 have i0:(0:Int)<=(j:Int):=by omega
 have i1:(j:Int)<(L.length:Int):=by omega
 have HF:Hid _:=fun w' hb=>hf (L.getD j .zz) w' gX hb;clear hf hD;generalize L.getD j .zz=m at*;generalize L.length=n at*;have kN:∀d os,Calls C f (#[m.val]++cb) (grow (redrawn w d) os) fun e w''=>e=T (B J (lk m))/\Below (grow (redrawn w d) os).heap.size (grow (redrawn w d) os) w'':=fun d os=>HF.out _ (below_regrown w d os);obtain⟨mp,ms,mf,mr⟩:=m;simp only[Pg.Mp.val]at kN;simp only at bS dV si ll;generalize lk ⟨mp,ms,mf,mr⟩=x at*;have C0:=cell_regrown rT;have C1:=cell_regrown hl;have C2:=cell_regrown hb;have M0:=cell_regrown bS;have M1:=cell_regrown dV;have M2:=cell_regrown si;have M3:=cell_regrown ll;clear rT hl hb bS dV si ll
 go_enter Tryz.func231,Tryz.ntmps231
 go_wp2_with fail
 refine wp_region_quiet_below (by kernel_rfl) (by kernel_rfl) ?_
 repeat' (first
  | go_big_quiet_step ((go_at_fn f;exact Calls.regrown_of (kN _ _))))
 refine wpQuiet_nil ?_;intro _ pG;obtain⟨⟨dq,osq⟩,rfl⟩:=pG
 go_wp2_with fail
 go_ret
 exact⟨rfl,below_regrown w dq osq⟩
theorem ya7 {b:Nat} {vb:Value} {L:List Pg.Mp} (f:FuncId) (cb:Array Value) (lk:Pg.Mp->Int) (w:X) (hD:Dbk w b vb L) (Rw:Pg.ylx L lk) (ef:∀args w,(callFunc f args).run C w= .ok (.enter f args) w)
 (hf:∀(m:Pg.Mp) (w':X),Pg.fits m.p->Below w.heap.size w w'->Calls C f (#[m.val]++cb) w' fun e w''=>e=T (B J (lk m))/\Below w'.heap.size w' w''):
 Calls C 216 #[O (S ⟨b,0,I⟩),.func (.func f) #[] cb] w fun e w'=>e=T (ks #[B J (Pg.cut L lk),yP (Pg.hit L lk)])/\Below w.heap.size w w':=by
 have rT:=hD.c0;have rY:=hD.lb;have Hg:=hD.good.len;obtain⟨ad,cap,rfl⟩:=zF hD.row;obtain⟨W,hW⟩:∃W,W=(w.alloc (K #[O (S ⟨b,0,I⟩)] 86)).alloc (K #[.func (.func f) #[] cb] 149):=⟨_,rfl⟩
 have hB:Below w.heap.size w W:=by rw[hW];exact zA (zA (zR _) _) _
 have k0:W.cell? ⟨b,0,I⟩=S (R ad L.length cap):=(hB.cell (p:=⟨b,0,I⟩) rY).trans rT
 have k1:W.cell? ⟨w.heap.size,0,I⟩=S (O (S ⟨b,0,I⟩)):=by rw[hW];simp[go_sem]
 have k2:W.cell? ⟨w.heap.size+1,0,I⟩=S (.func (.func f) #[] cb):=by rw[hW];simp[go_sem]
 have UV:=hD.grow hB
 have HS:Hid _:=yfv 231 #[O (S ⟨w.heap.size+1,0,I⟩),O (S ⟨w.heap.size,0,I⟩)] L.length (Pg.cut L lk) (fun j=>lk (L.getD j .zz)) W yat Hg (Pg.ykb _ _) (fun t ht=>Pg.yiC ht) (fun t h1 h2=>Pg.cut_behind Rw h1 h2)
  (fun i w' hi hb=>yc6 f cb lk i w' (UV.grow hb) hi (cell_later hb k2) (cell_later hb k1) ef (fun m w'' hm hb'=>hf m w'' hm (zT (zT hB hb) hb')))
 have HB:Hid _:=hB;clear hf Rw hD UV hB k0 k1 k2
 go_enter Tryz.func216,Tryz.ntmps216
 go_wp2_with fail
 rw[<-hW];refine Calls.mono HS.out ?_;rintro e w1 ⟨rfl,Ha⟩
 go_wp2_with fail
 go_ret2
 exact⟨rfl,zT HB.out Ha⟩
theorem ycP {bq:Nat} (q:Int) (hq:Pg.fits q) (m:Pg.Mp) (hm:Pg.fits m.p) (w:X) (hc:w.cell? ⟨bq,0,I⟩=S (B J q)):
 Calls C 221 #[m.val,O (S ⟨bq,0,I⟩)] w fun e w'=>e=T (B J (Pg.lkP q m))/\Below w.heap.size w w':=by
 obtain⟨p,s,f,r⟩:=m;have gB:=ki _ _ hc;have HL:Hid (Pg.lkP q ⟨p,s,f,r⟩=if Pg.over p s q=H then 0 else Pg.cmpI q p):=rfl;simp only[Pg.Mp.val];cases h:Pg.over p s q
 ·go_enter Tryz.func221,Tryz.ntmps221
  go_wp2_with fail
  refine(jl _ _ _ _ _ hm hq _).mono ?_;rintro e w1 ⟨rfl,Ha⟩;rw[h];have bM:Below w.heap.size w w1:=zT (zA (zR _) _) Ha;have c1:=cell_later bM hc;have c2:w1.cell? ⟨w.heap.size,0,I⟩=S (B J p):=(Ha.cell (p:=⟨w.heap.size,0,I⟩) (by simp)).trans (by simp[go_sem]);have HB:Hid _:=bM;clear Ha bM
  go_wp2_with (go_at_call 218;refine(vE _ _ _).mono ?_;rintro e w' ⟨rfl,rfl⟩)
  go_ret
  exact⟨zE (by rw[HL.out,h];rfl),HB.out⟩
 ·go_enter Tryz.func221,Tryz.ntmps221
  go_wp2_with fail
  refine(jl _ _ _ _ _ hm hq _).mono ?_;rintro e w1 ⟨rfl,Ha⟩;rw[h];have HB:Hid (Below w.heap.size w w1):=zT (zA (zR _) _) Ha;clear Ha
  go_wp2_with fail
  go_ret
  exact⟨zE (by rw[HL.out,h];rfl),HB.out⟩
theorem yb5 {bm:Nat} (m x:Pg.Mp) (hm:Pg.fits m.p) (hx:Pg.fits x.p) (w:X) (hc:ybG w bm 0 m):
 Calls C 217 #[x.val,O (S ⟨bm,0,I⟩)] w fun e w'=>e=T (B J (Pg.lkM m x))/\Below w.heap.size w w':=by
 obtain⟨p,s,f,r⟩:=x;obtain⟨p',s',f',r'⟩:=m;obtain⟨c0,c1,c2,c3⟩:=hc;simp only[yD]at c0 c1 c2 c3;have gB:=ki _ _ c0;have HL:Hid (Pg.lkM ⟨p',s',f',r'⟩ ⟨p,s,f,r⟩=if Pg.meet p s p' s'=H then 0 else Pg.cmpI p' p):=rfl;simp only[Pg.Mp.val];cases h:Pg.meet p s p' s'
 ·go_enter Tryz.func217,Tryz.ntmps217
  go_wp2_with fail
  refine(ybu _ _ _ _ _ _ _ _ hx hm _).mono ?_;rintro e w1 ⟨rfl,Ha⟩;rw[h];have bM:Below w.heap.size w w1:=zT (zA (zR _) _) Ha;have c1:=cell_later bM c0;have c2:w1.cell? ⟨w.heap.size,0,I⟩=S (B J p):=(Ha.cell (p:=⟨w.heap.size,0,I⟩) (by simp)).trans (by simp[go_sem]);have HB:Hid _:=bM;clear Ha bM
  go_wp2_with (go_at_call 218;refine(vE _ _ _).mono ?_;rintro e w' ⟨rfl,rfl⟩)
  go_ret
  exact⟨zE (by rw[HL.out,h];rfl),HB.out⟩
 ·go_enter Tryz.func217,Tryz.ntmps217
  go_wp2_with fail
  refine(ybu _ _ _ _ _ _ _ _ hx hm _).mono ?_;rintro e w1 ⟨rfl,Ha⟩;rw[h];have HB:Hid (Below w.heap.size w w1):=zT (zA (zR _) _) Ha;clear Ha
  go_wp2_with fail
  go_ret
  exact⟨zE (by rw[HL.out,h];rfl),HB.out⟩
theorem jX {b:Nat} {vb:Value} {L:List Pg.Mp} (q:Int) (hq:Pg.fits q) (w:X) (hD:Dbk w b vb L):
 Calls C 192 #[O (S ⟨b,0,I⟩),B J q] w fun e w'=>e=T (ks #[B J (Pg.cut L (Pg.lkP q)),yP (Pg.hit L (Pg.lkP q))])/\Below w.heap.size w w':=by
 obtain⟨W,hW⟩:∃W,W=w.alloc (K #[B J q] 3):=⟨_,rfl⟩
 have hB:Below w.heap.size w W:=by rw[hW];exact zA (zR _) _
 have k1:W.cell? ⟨w.heap.size,0,I⟩=S (B J q):=by rw[hW];simp[go_sem]
 have HS:Hid _:=ya7 221 #[O (S ⟨w.heap.size,0,I⟩)] (Pg.lkP q) W (hD.grow hB) (hD.good.fallsP q) (fun args w=>by simp[go_sem]) (fun m w' hm hb=>ycP q hq m hm w' (cell_later hb k1));have HB:Hid _:=hB;clear hD hB k1
 go_enter Tryz.func192,Tryz.ntmps192
 go_wp2_with fail
 rw[<-hW];refine Calls.mono HS.out ?_;rintro e w1 ⟨rfl,Ha⟩
 go_wp2_with fail
 go_ret2
 exact⟨rfl,zT HB.out Ha⟩
theorem ycV {b:Nat} {vb:Value} {L:List Pg.Mp} (m:Pg.Mp) (hm:Pg.fits m.p) (w:X) (hD:Dbk w b vb L):
 Calls C 190 #[O (S ⟨b,0,I⟩),m.val] w fun e w'=>e=T (ks #[B J (Pg.cut L (Pg.lkM m)),yP (Pg.hit L (Pg.lkM m))])/\Below w.heap.size w w':=by
 obtain⟨W,hW⟩:∃W,W=w.alloc (K #[B J m.p,B J m.s,B J m.f,B J m.r] 39):=⟨_,rfl⟩
 have hB:Below w.heap.size w W:=by rw[hW];exact zA (zR _) _
 have k1:ybG W w.heap.size 0 m:=by rw[hW];exact⟨by simp[go_sem],by simp[go_sem],by simp[go_sem],by simp[go_sem]⟩
 have Hf:w.heap.size<W.heap.size:=by rw[hW];simp
 have HS:Hid _:=ya7 217 #[O (S ⟨w.heap.size,0,I⟩)] (Pg.lkM m) W (hD.grow hB) (hD.good.fallsM m) (fun args w=>by simp[go_sem]) (fun x w' hx hb=>yb5 m x hm hx w' (k1.below hb Hf));have HB:Hid _:=hB;clear hD hB k1;obtain⟨mp,ms,mf,mr⟩:=m;simp only[Pg.Mp.val];simp only at hW
 go_enter Tryz.func190,Tryz.ntmps190
 go_wp2_with fail
 rw[<-hW];refine Calls.mono HS.out ?_;rintro e w1 ⟨rfl,Ha⟩
 go_wp2_with fail
 go_ret2
 exact⟨rfl,zT HB.out Ha⟩
end Go.Proofs.YtdphiompijbelaaGreat
namespace Go.Proofs.YtdphiompijbelaaGreat
open Go.RowKit Go.Sort
theorem ygk:∀w,(Go.sizeOf 39).run C w= .ok 4 w:=fun w=>by
 obtain⟨q0,sF,rW,rZ,rX⟩:=info_parts qp;simp[sizeOf,typeInfo,sF,rZ]
theorem ybr {vb:Value} {n V:Nat} {xs:List Value} {a0 a1 a2 a3:Value} {tV:TypeId} (w:X) (hr:w.ownsRow 0 39 4 vb n xs) (hn:n<=4096)
 (hV:w.heap[V]?=S (K #[a0,a1,a2,a3] tV)) (h1:∀u,u ∈ [a0,a1,a2,a3]->u.oneCell'=H):
 Calls C 191 #[vb,B J n,R (S ⟨V,0,I⟩) 1 1] w fun e w'=>∃v',e=T v'/\w'.ownsRow 0 39 4 v' (n+1) (xs++[a0,a1,a2,a3])/\But (fun j=>vb.ownBlock=S j) w w'/\∀j,v'.ownBlock=S j->vb.ownBlock=S j\/w.heap.size<=j:=by
 obtain⟨q0,sF,rW,rZ,rX⟩:=info_parts qp;have tJ:=yI hV;have HN:Hid _:=tJ;obtain⟨ad,cap,hv⟩:=zF hr
 have nE:n<=cap/\cap<=9223372036854775807:=by
  rcases hr.2 with ⟨e,e0⟩|⟨g,cap',cur,e,_,_,rO,tY,_⟩
  ·rw[hv]at e;cases e;exact⟨M _,by omega⟩
  ·rw[hv]at e;cases e;unfold maxLen at tY;exact⟨rO,by omega⟩
 obtain⟨Rt,Ru⟩:=nE;have HR:Hid _:=hr;clear hr hV tJ;subst hv
 have Fin:∀{g cap':Nat} {w1:X},w1.ownsRow 0 39 4 (R (S ⟨g,0,I⟩) (n+1) cap') (n+1) (xs++[a0,a1,a2,a3])->w.grownBy w1 (yB ad n cap).ownBlock->((yB ad n cap).ownBlock=S g\/g=w.heap.size)->
  ∃v',Ending.returned (R (S ⟨g,0,I⟩) (n+1) cap')=T v'/\w1.ownsRow 0 39 4 v' (n+1) (xs++[a0,a1,a2,a3])/\But (fun j=>(yB ad n cap).ownBlock=S j) w w1/\∀j,v'.ownBlock=S j->(yB ad n cap).ownBlock=S j\/w.heap.size<=j:=by
  intro g cap' w1 h1 h2 hat;refine⟨_,rfl,h1,(But.refl _ w).grown h2 (fun j hj=> .inr hj),fun j hj=> ?_⟩;simp only[kO,Option.some.injEq]at hj;subst hj;rcases hat with h|h
  ·exact .inl h
  ·exact .inr (by omega)
 have FIN:Hid _:= @Fin;clear Fin
 by_cases TM:cap=n
 ·subst TM
  go_enter Tryz.func191,Tryz.ntmps191
  go_wp2_with (at_builtin;refine wpList_append_lies _ rfl _ _ 44 rfl 0 39 q0 _ 4 32 Tryz.underlying44 sF rW rZ rX rfl (by decide) _ _ _ rfl HR.out ⟨V,0,I⟩ 1 1 [a0,a1,a2,a3] rfl rfl HN.out h1 (by decide) ?c3 ?c4 (kh _) w.heap.size rfl ?_)
  case c3=>unfold maxLen;omega
  case c4=>omega
  intro g cap' w1 Hr Hq hat Hf;have H1:Hid _:=FIN.out Hr Hq hat;clear Hr Hq hat Hf
  go_wp2_with fail
  go_ret
  exact H1.out
 ·have AJ:¬(n=cap):=fun e=>TM e.symm
  go_enter Tryz.func191,Tryz.ntmps191
  go_wp2_with (at_builtin;refine wpList_append_lies _ rfl _ _ 44 rfl 0 39 q0 _ 4 32 Tryz.underlying44 sF rW rZ rX rfl (by decide) _ _ _ rfl HR.out ⟨V,0,I⟩ 1 1 [a0,a1,a2,a3] rfl rfl HN.out h1 (by decide) ?d3 ?d4 (kh _) w.heap.size rfl ?_)
  case d3=>unfold maxLen;omega
  case d4=>omega
  intro g cap' w1 Hr Hq hat Hf;have H1:Hid _:=FIN.out Hr Hq hat;clear Hr Hq hat Hf
  go_wp2_with fail
  go_ret
  exact H1.out
theorem yax {g cap n k V:Nat} {cur:Array Value} {xs:List Value} {a0 a1 a2 a3:Value} {tV:TypeId} (w:X) (hg:w.heap[g]?=S (K cur 39 (0,0))) (hn:n<=4096) (hk:k<n) (dw:n+1<=cap) (nE:cap<=9223372036854775807)
 (gJ:cur.size=cap*4) (hx:cur.toList.take (n*4)=xs) (oQ:∀u,u ∈ xs->u.oneCell'=H)
 (hV:w.heap[V]?=S (K #[a0,a1,a2,a3] tV)) (BN:V≠g) (h1:∀u,u ∈ [a0,a1,a2,a3]->u.oneCell'=H):
 Calls C 191 #[R (S ⟨g,0,I⟩) n cap,B J k,R (S ⟨V,0,I⟩) 1 1] w fun e w'=>e=T (R (S ⟨g,0,I⟩) (n+1) cap)/\
  w'.ownsRow 0 39 4 (R (S ⟨g,0,I⟩) (n+1) cap) (n+1) (xs.take (k*4)++[a0,a1,a2,a3]++xs.drop (k*4))/\But (fun j=>j=g) w w':=by
 have pU:(Tryz.prog.info? 39).map (·.size)=S 4:=by
  obtain⟨q0,sF,rW,rZ,rX⟩:=info_parts qp;rw[sF];simp[rZ]
 have sG:xs.length=n*4:=by rw[<-hx,Y,U,gJ];omega
 have WY:∀lb cb o,(callFunc 219 #[R (S ⟨V,0,I⟩) 1 1,R (S ⟨g,o,I⟩) lb cb]).run C w= .ok (.value (yP yS)) w:=fun lb cb o=>by
  have rQ:w.shape? V=S (tV,4):=by simp[yA,hV]
  have pR:w.shape? g=S (39,cur.size):=by simp[yA,hg]
  have pY:w.frozen? ⟨V,0,I⟩=yS:=by simp[yC,hV]
  have oh:w.frozen? ⟨V,4,I⟩=yS:=by simp[yC,hV]
  rw[run_callFunc_extern Tryz.func219 (by kernel_rfl) (by kernel_rfl) (by kernel_rfl) (e:=Extern.SlicesOverlaps.overlaps #[44,44] #[4]) (by kernel_rfl),
   Lib.run_overlaps_apart w 44 4 39 Tryz.underlying44 4 ygk ⟨V,0,I⟩ ⟨g,o,I⟩ 1 1 lb cb BN tV 39 4 cur.size rQ pR (by omega) pY oh]
  rfl
 have rX:¬((k:Int)=(n:Int)):=by omega
 have uN:IntKind.i64.wrap ((k:Int)+1)=(k:Int)+1:=by rw[IntKind.wrap_i64];omega
 have mX:((k:Int)+1).toNat=k+1:=by omega
 have Ha:(0:Int)<=(k:Int)+1:=by omega
 have Hd:¬(cap=k+1):=by omega
 have Hl:¬(cap=k):=by omega
 have bR:k<=n:=by omega
 have He:(k:Int)<=(n:Int)+1:=by omega
 have bO:(xs.drop (k*4)).length=(n-k)*4:=by rw[Q,sG];omega
 have uZ:∀j u,xs[j]?=S u->w.cell? ⟨g,j,I⟩=S u:=fun j u hu=>by
  rw[cell_of_row w g j cur _ _ hg];rw[<-hx,uv]at hu;split at hu
  ·simpa using hu
  ·cases hu
 obtain⟨C1,bY⟩:∃C1:List Value,C1=cur.toList.take ((k+1)*4)++xs.drop (k*4)++cur.toList.drop ((k+1)*4+(xs.drop (k*4)).length):=⟨_,rfl⟩
 have df:C1.length=cap*4:=by rw[bY];simp only[Z,Y,Q,U,gJ,sG];omega
 obtain⟨W1,rG⟩:∃W1,W1=w.drew.setRow g C1.toArray:=⟨_,rfl⟩
 have TQ:∀ty o o' dl dc sl sc,o=(k+1)*4->o'=k*4->dl=n-k->sl=n+1-k->(Builtin.copy_ #[44,44] ty #[R (S ⟨g,o,I⟩) dl dc,R (S ⟨g,o',I⟩) sl sc]).run C w.drew= .ok (goInt (n-k:Nat)) W1:=by
  intro ty o o' dl dc sl sc e1 e2 e3 e4;subst e1 e2 e3 e4;have hm:yX (n+1-k) (n-k)=n-k:=Nat.min_eq_right (by omega)
  have:=qg (P:=C) w.drew 44 44 ty 39 4 g ((k+1)*4) (n-k) dc ⟨g,k*4,I⟩ (n+1-k) sc cur 39 (xs.drop (k*4)) Tryz.underlying44 pU hg (by rw[hm,bO])
   (fun j u hj=>by rw[Addr.add_lit];exact uZ (k*4+j) u (by rwa [yJ]at hj)) (by rw[bO,gJ];omega) (fun u hu=>oQ u (uc hu))
  rw[hm,<-bY,<-rG]at this;exact this
 have lQ:W1.heap[g]?=S (K C1.toArray 39 (0,0)):=by rw[rG];exact setRow_heap w.drew g cur _ _ _ hg
 have DC:W1.heap[V]?=S (K #[a0,a1,a2,a3] tV):=by rw[rG,setRow_other _ _ _ _ BN];exact hV
 have pJ:But (fun j=>j=g) w W1:=by rw[rG];exact(But.refl (fun j=>j=g) w).drew.setRow (.inr rfl) _
 obtain⟨W2,Hz⟩:∃W2,W2=W1.setRow g (C1.take (k*4)++[a0,a1,a2,a3]++C1.drop (k*4+4)).toArray:=⟨_,rfl⟩
 have TR:∀ty o dl dc,o=k*4->dl=n+1-k->(Builtin.copy_ #[44,44] ty #[R (S ⟨g,o,I⟩) dl dc,R (S ⟨V,0,I⟩) 1 1]).run C W1= .ok (goInt 1) W2:=by
  intro ty o dl dc e1 e2;subst e1 e2;have hm:yX 1 (n+1-k)=1:=yU (by omega)
  have:=qg (P:=C) W1 44 44 ty 39 4 g (k*4) (n+1-k) dc ⟨V,0,I⟩ 1 1 C1.toArray 39 [a0,a1,a2,a3] Tryz.underlying44 pU lQ (by rw[hm];rfl)
   (yI DC) (by simp[df];omega) h1
  rw[hm]at this;rw[this,Hz];rfl
 have fH:W2.heap[g]?=S (K (C1.take (k*4)++[a0,a1,a2,a3]++C1.drop (k*4+4)).toArray 39 (0,0)):=by rw[Hz];exact setRow_heap W1 g _ _ _ _ lQ
 have HB:Hid (But (fun j=>j=g) w W2):=by rw[Hz];exact pJ.setRow (.inr rfl) _
 have HO:Hid (W2.ownsRow 0 39 4 (R (S ⟨g,0,I⟩) (n+1) cap) (n+1) (xs.take (k*4)++[a0,a1,a2,a3]++xs.drop (k*4))):=by
  have e:=yd5 (c:=cur.toList) (xs:=xs) (news:=[a0,a1,a2,a3]) (z:=4) (n:=n) (k:=k) bR (by rw[U,gJ];omega) hx rfl;simp only[<-bY]at e;refine⟨by rw[<-e];simp only[Y,Z,Q,df,ur,ua];omega,.inr ⟨g,cap,_,rfl,kh _,fH,dw,by unfold maxLen;omega,?_,?_⟩⟩
  ·simp only[A,Y,Z,Q,df,ur,ua];omega
  ·exact e
 clear hg hx oQ hV h1 uZ bY df rG lQ DC pJ Hz fH gJ sG bO
 go_enter Tryz.func191,Tryz.ntmps191
 go_wp2_with (simp only[WY])
 go_region_law (refine jb rfl _ _ 44 44 rfl _ _ (by simp[Act.eval,Act.put]) (by simp[Act.eval,Act.put]) (TQ _ _ _ _ _ _ _ (by omega) (by omega) (by omega) (by omega)) ?_)
 go_wp2_with (at_builtin;refine qB _ rfl _ _ 44 44 rfl _ _ rfl rfl (TR _ _ _ _ (by omega) (by omega)) ?_)
 go_ret
 exact⟨rfl,HO.out,HB.out⟩
theorem yaw {g cap n k V:Nat} {cur:Array Value} {xs:List Value} {a0 a1 a2 a3:Value} {tV:TypeId} (w:X) (hg:w.heap[g]?=S (K cur 39 (0,0))) (hn:n<=4096) (hk:k<n) (dw:cap<n+1) (nE:n<=cap)
 (gJ:cur.size=cap*4) (hx:cur.toList.take (n*4)=xs) (oQ:∀u,u ∈ xs->u.oneCell'=H)
 (hV:w.heap[V]?=S (K #[a0,a1,a2,a3] tV)) (h1:∀u,u ∈ [a0,a1,a2,a3]->u.oneCell'=H):
 Calls C 191 #[R (S ⟨g,0,I⟩) n cap,B J k,R (S ⟨V,0,I⟩) 1 1] w fun e w'=>∃G,e=T (R (S ⟨w.heap.size,0,I⟩) (n+1) G)/\
  w'.ownsRow 0 39 4 (R (S ⟨w.heap.size,0,I⟩) (n+1) G) (n+1) (xs.take (k*4)++[a0,a1,a2,a3]++xs.drop (k*4))/\But (fun j=>j=g) w w':=by
 obtain⟨q0,sF,rW,dR,mM⟩:=info_parts qp
 have pU:(Tryz.prog.info? 39).map (·.size)=S 4:=by rw[sF];simp[dR]
 have TM:cap=n:=by omega
 subst TM
 have sG:xs.length=cap*4:=by rw[<-hx,Y,U,gJ];omega
 have Rx:g<w.heap.size:=(D.1 hg).1;have Ap:V<w.heap.size:=(D.1 hV).1
 have rX:¬((k:Int)=(cap:Int)):=by omega
 have uN:IntKind.i64.wrap ((k:Int)+1)=(k:Int)+1:=by rw[IntKind.wrap_i64];omega
 have mX:((k:Int)+1).toNat=k+1:=by omega
 have Ha:(0:Int)<=(k:Int)+1:=by omega
 have Hl:¬(cap=k):=by omega
 have bR:k<=cap:=by omega
 have He:(k:Int)<=(cap:Int)+1:=by omega
 have rA:(k:Int)<=(cap:Int):=by omega
 have bO:(xs.drop (k*4)).length=(cap-k)*4:=by rw[Q,sG];omega
 have uZ:∀j u,xs[j]?=S u->w.cell? ⟨g,j,I⟩=S u:=fun j u hu=>by
  rw[cell_of_row w g j cur _ _ hg];rw[<-hx,uv]at hu;split at hu
  ·simpa using hu
  ·cases hu
 obtain⟨G,hG⟩:∃G,G=grownCap w (cap+1) cap 39:=⟨_,rfl⟩
 have Ag:cap+1<=G:=by rw[hG];exact grownCap_ge w _ _ _
 have hG2:G<=9223372036854775807:=by
  have:=grownCap_le_maxLen w (cap+1) cap 39 (by unfold maxLen;omega);rw[<-hG]at this;unfold maxLen at this;omega
 obtain⟨ROW,wm⟩:∃ROW:Array Value,ROW=(xs.take (k*4)).toArray++Builtin.zeroCells (yF #[B J 0,B J 0,B J 0,B J 0]).cells (cap+1-k)++Builtin.zeroCells (yF #[B J 0,B J 0,B J 0,B J 0]).cells (G-(cap+1)):=⟨_,rfl⟩;have Eh:(yF #[B J 0,B J 0,B J 0,B J 0]).cells.size=4:=rfl
 have BH:ROW.size=G*4:=by
  rw[wm];simp only[Array.size_append,size_zeroCells,Eh,A,Y,sG];omega
 have U5:ROW.toList.take (k*4)=xs.take (k*4):=by
  rw[wm];simp only[Array.toList_append,yV];rw[List.take_append_of_le_length (by simp only[Y,sG];omega),kp (by simp only[Y];omega)]
 obtain⟨W1,rG⟩:∃W1,W1=w.drew.alloc (K ROW 39):=⟨_,rfl⟩
 have hold:(Builtin.firstCells q0.size k (R (S ⟨g,0,I⟩) k cap)).run C w.drew= .ok (xs.take (k*4)).toArray w.drew:=by
  rw[dR]
  exact run_firstCells_some w.drew 4 k ⟨g,0,I⟩ k cap (xs.take (k*4)) (by rw[Y];omega) (fun j v hj=>by
   rw[Addr.add_lit,yD];rw[uv]at hj;split at hj
   ·exact uZ j v hj
   ·cases hj)
 have BV:k+(cap+1-k)=cap+1:=by omega
 have hrz:∀ty N,N=((cap+1-k:Nat):Int)->(Builtin.append_ #[44,3] ty #[R (S ⟨g,0,I⟩) k cap,B J N]).run C w= .ok (R (S ⟨w.heap.size,0,I⟩) (cap+1) G) W1:=by
  intro ty N hN;have h:=Lib.run_append_grow_zeros w 44 3 ty 39 q0 _ J J Tryz.underlying44 Tryz.underlying3 sF rW (S ⟨g,0,I⟩) k cap (xs.take (k*4)) hold (cap+1-k) (by omega) (by omega) (by omega) (by omega) (by rw[mM];omega) (by rw[mM,BV];exact growslice_fits dw (by omega));rw[BV,<-hG,<-wm,<-rG]at h;rw[hN];exact h
 have lQ:W1.heap[w.heap.size]?=S (K ROW 39 (0,0)):=by rw[rG];exact heap_alloc_new w.drew _
 have DC:W1.heap[V]?=S (K #[a0,a1,a2,a3] tV):=by rw[rG,Below.heap_alloc w.drew _ _ Ap];exact hV
 have OQ:W1.heap[g]?=S (K cur 39 (0,0)):=by rw[rG,Below.heap_alloc w.drew _ _ Rx];exact hg
 have pJ:But (fun j=>j=g) w W1:=by rw[rG];exact(But.refl (fun j=>j=g) w).drew.alloc _
 obtain⟨C1,bY⟩:∃C1:List Value,C1=ROW.toList.take (k*4)++[a0,a1,a2,a3]++ROW.toList.drop (k*4+4):=⟨_,rfl⟩
 have df:C1.length=G*4:=by rw[bY];simp only[Z,Y,Q,U,BH,ur,ua];omega
 obtain⟨W2,Hz⟩:∃W2,W2=W1.setRow w.heap.size C1.toArray:=⟨_,rfl⟩
 have TQ:∀ty o dl dc,o=k*4->dl=cap+1-k->(Builtin.copy_ #[44,44] ty #[R (S ⟨w.heap.size,o,I⟩) dl dc,R (S ⟨V,0,I⟩) 1 1]).run C W1= .ok (goInt 1) W2:=by
  intro ty o dl dc e1 e2;subst e1 e2;have hm:yX 1 (cap+1-k)=1:=yU (by omega)
  have:=qg (P:=C) W1 44 44 ty 39 4 w.heap.size (k*4) (cap+1-k) dc ⟨V,0,I⟩ 1 1 ROW 39 [a0,a1,a2,a3] Tryz.underlying44 pU lQ (by rw[hm];rfl)
   (yI DC) (by simp[BH];omega) h1
  rw[hm]at this;rw[this,Hz,bY];rfl
 have fH:W2.heap[w.heap.size]?=S (K C1.toArray 39 (0,0)):=by rw[Hz];exact setRow_heap W1 w.heap.size _ _ _ _ lQ
 have kX:W2.heap[g]?=S (K cur 39 (0,0)):=by rw[Hz,setRow_other _ _ _ _ (by omega)];exact OQ
 have tH:But (fun j=>j=g) w W2:=by rw[Hz];exact pJ.setRow (.inl (M _)) _
 have Fh:∀j u,xs[j]?=S u->W2.drew.cell? ⟨g,j,I⟩=S u:=fun j u hu=>by
  rw[cell_of_row W2.drew g j cur _ _ kX,<-cell_of_row w g j cur _ _ hg];exact uZ j u hu
 obtain⟨W3,fP⟩:∃W3,W3=W2.drew.setRow w.heap.size (C1.take ((k+1)*4)++xs.drop (k*4)++C1.drop ((k+1)*4+(xs.drop (k*4)).length)).toArray:=⟨_,rfl⟩
 have TR:∀ty o o' dl dc sl sc,o=(k+1)*4->o'=k*4->dl=cap-k->sl=cap-k->(Builtin.copy_ #[44,44] ty #[R (S ⟨w.heap.size,o,I⟩) dl dc,R (S ⟨g,o',I⟩) sl sc]).run C W2.drew= .ok (goInt (cap-k:Nat)) W3:=by
  intro ty o o' dl dc sl sc e1 e2 e3 e4;subst e1 e2 e3 e4;have hm:yX (cap-k) (cap-k)=cap-k:=Nat.min_self _
  have:=qg (P:=C) W2.drew 44 44 ty 39 4 w.heap.size ((k+1)*4) (cap-k) dc ⟨g,k*4,I⟩ (cap-k) sc C1.toArray 39 (xs.drop (k*4)) Tryz.underlying44 pU fH (by rw[hm,bO])
   (fun j u hj=>by rw[Addr.add_lit];exact Fh (k*4+j) u (by rwa [yJ]at hj)) (by simp only[A,bO,df];omega) (fun u hu=>oQ u (uc hu))
  rw[hm]at this;rw[this,fP]
 have Oo:W3.heap[w.heap.size]?=S (K (C1.take ((k+1)*4)++xs.drop (k*4)++C1.drop ((k+1)*4+(xs.drop (k*4)).length)).toArray 39 (0,0)):=by rw[fP];exact setRow_heap W2.drew w.heap.size _ _ _ _ fH
 have HB:Hid (But (fun j=>j=g) w W3):=by rw[fP];exact tH.drew.setRow (.inl (M _)) _
 have HO:Hid (W3.ownsRow 0 39 4 (R (S ⟨w.heap.size,0,I⟩) (cap+1) G) (cap+1) (xs.take (k*4)++[a0,a1,a2,a3]++xs.drop (k*4))):=by
  have e:=yd4 (c:=ROW.toList) (xs:=xs) (news:=[a0,a1,a2,a3]) (z:=4) (n:=cap) (k:=k) bR (by rw[U,BH];omega) U5 sG rfl;rw[show k*4+[a0,a1,a2,a3].length=k*4+4 from rfl]at e;simp only[<-bY]at e;refine⟨by rw[<-e];simp only[Y,Z,Q,df,sG];omega,.inr ⟨w.heap.size,G,_,rfl,kh _,Oo,Ag,by unfold maxLen;omega,?_,?_⟩⟩
  ·simp only[A,Y,Z,Q,df,sG];omega
  ·exact e
 have hbG:¬(G=k):=by omega
 have Av:¬(G=k+1):=by omega
 have hN:IntKind.i64.wrap ((cap:Int)+1-(k:Int))=(cap:Int)+1-(k:Int):=by rw[IntKind.wrap_i64];omega
 clear hg hx oQ hV h1 uZ bY df rG lQ DC pJ Hz fH gJ sG bO wm BH U5 hold sF rW dR mM hG OQ kX Fh tH fP Oo Eh
 go_enter Tryz.func191,Tryz.ntmps191
 go_wp2_with (first
  | (at_builtin;refine Lib.wpList_append_run _ rfl _ _ 44 3 rfl _ _ rfl rfl _ _ (hrz _ _ (by omega)) ?_)
  | (at_builtin;refine qB _ rfl _ _ 44 44 rfl _ _ rfl rfl (TQ _ _ _ _ (by omega) (by omega)) ?_))
 go_region_law (refine jb rfl _ _ 44 44 rfl _ _ (by simp[Act.eval,Act.put]) (by simp[Act.eval,Act.put]) (TR _ _ _ _ _ _ _ (by omega) (by omega) (by omega) (by omega)) ?_)
 go_wp2_with fail
 go_ret
 exact⟨G,rfl,HO.out,HB.out⟩
theorem ydW {vb:Value} {k V:Nat} {L:List Pg.Mp} {m:Pg.Mp} {tV:TypeId} (w:X) (hr:w.ownsRow 0 39 4 vb L.length (zC L)) (hn:L.length<=4096) (hk:k<=L.length)
 (hV:w.heap[V]?=S (K #[B J m.p,B J m.s,B J m.f,B J m.r] tV)) (hvV:vb.ownBlock≠S V):
 Calls C 191 #[vb,B J k,R (S ⟨V,0,I⟩) 1 1] w fun e w'=>∃v',e=T v'/\w'.ownsRow 0 39 4 v' (L.length+1) (zC (L.take k++m::L.drop k))/\But (fun j=>vb.ownBlock=S j) w w'/\∀j,v'.ownBlock=S j->vb.ownBlock=S j\/w.heap.size<=j:=by
 have h1:∀u,u ∈ [yN J m.p,B J m.s,B J m.f,B J m.r]->u.oneCell'=H:=by
  intro u hu;simp at hu
  rcases hu with rfl|rfl|rfl|rfl<;>rfl
 have hcut:∀j,(zC L).take (j*4)=zC (L.take j)/\(zC L).drop (j*4)=zC (L.drop j):=by
  intro j
  by_cases hj:j<=L.length
  ·have e:zC L=zC (L.take j)++zC (L.drop j):=by rw[<-xg,yY]
   have hl:(zC (L.take j)).length=j*4:=by rw[xK,Y];congr 1;omega
   exact⟨by rw[e,yO hl],by rw[e,yK hl]⟩
  ·have hl:=xK L
   rw[kp (by omega),kp (l:=L) (by omega),ud (by omega),ud (show L.length<=j by omega)];exact⟨rfl,rfl⟩
 have hm:zC (L.take k++m::L.drop k)=(zC L).take (k*4)++[yN J m.p,B J m.s,B J m.f,B J m.r]++(zC L).drop (k*4):=by
  rw[(hcut k).1,(hcut k).2,<-vT m,<-xg,<-xg,yV];rfl
 rw[hm]
 by_cases bR:k=L.length
 ·subst bR
  have hl:=xK L;rw[kp (by omega),ud (by omega),List.append_nil];exact ybr w hr hn hV h1
 ·obtain⟨_,wQ⟩:=hr
  rcases wQ with ⟨_,e0⟩|⟨g,cap,cur,rfl,_,hg,rO,tY,fT,dD⟩
  ·omega
  ·have BN:V≠g:=fun e=>hvV (by rw[e];rfl)
   have iN:=qn L;have Hf:g<w.heap.size:=(D.1 hg).1
   by_cases dw:L.length+1<=cap
   ·refine(yax w hg hn (by omega) dw (by unfold maxLen at tY;omega) fT dD iN hV BN h1).mono ?_
    rintro e w' ⟨rfl,h2,h3⟩;refine⟨_,rfl,h2,h3.mono fun i _ hi=>by rw[hi];rfl,fun j hj=> .inl hj⟩
   ·refine(yaw w hg hn (by omega) (by omega) rO fT dD iN hV h1).mono ?_
    rintro e w' ⟨G,rfl,h2,h3⟩;refine⟨_,rfl,h2,h3.mono fun i _ hi=>by rw[hi];rfl,fun j hj=> .inr ?_⟩;simp only[kO,Option.some.injEq]at hj;omega
theorem ydH {g cap n k:Nat} {cur:Array Value} {xs:List Value} (w:X) (hg:w.heap[g]?=S (K cur 39 (0,0))) (hn:n<=4096) (hk:k<n) (Fe:n<=cap) (nE:cap<=9223372036854775807)
 (gJ:cur.size=cap*4) (hx:cur.toList.take (n*4)=xs) (oQ:∀u,u ∈ xs->u.oneCell'=H):
 Calls C 193 #[R (S ⟨g,0,I⟩) n cap,B J k,B J (k+1)] w fun e w'=>e=T (R (S ⟨g,0,I⟩) (n-1) cap)/\
  w'.ownsRow 0 39 4 (R (S ⟨g,0,I⟩) (n-1) cap) (n-1) (xs.take (k*4)++xs.drop ((k+1)*4))/\But (fun j=>j=g) w w':=by
 obtain⟨q0,sF,rW,dR,mM⟩:=info_parts qp
 have sG:xs.length=n*4:=by rw[<-hx,Y,U,gJ];omega
 have bO:(xs.drop ((k+1)*4)).length=(n-(k+1))*4:=by rw[Q,sG];omega
 have uZ:∀j u,xs[j]?=S u->w.drew.cell? ⟨g,j,I⟩=S u:=fun j u hu=>by
  rw[cell_of_row w.drew g j cur _ _ hg];rw[<-hx,uv]at hu;split at hu
  ·simpa using hu
  ·cases hu
 obtain⟨C1,bY⟩:∃C1:List Value,C1=cur.toList.take (k*4)++xs.drop ((k+1)*4)++cur.toList.drop (k*4+(xs.drop ((k+1)*4)).length):=⟨_,rfl⟩
 have df:C1.length=cap*4:=by rw[bY];simp only[Z,Y,Q,U,gJ,sG];omega
 obtain⟨W1,rG⟩:∃W1,W1=w.drew.setRow g C1.toArray:=⟨_,rfl⟩
 have kJ:∀ty o l c,l=n-(k+1)->(o=(k+1)*4\/n=k+1)->(Builtin.append_ #[44,44] ty #[R (S ⟨g,0,I⟩) k cap,R (S ⟨g,o,I⟩) l c]).run C w.drew= .ok (R (S ⟨g,0,I⟩) (n-1) cap) W1:=by
  intro ty o l c hl ho;subst hl
  have:=run_append_room (P:=C) w.drew 44 ty 39 q0 Tryz.underlying44 sF g k cap cur hg ⟨g,o,I⟩ (n-(k+1)) c (xs.drop ((k+1)*4)) (by rw[bO,dR])
   (fun j u hj=>by
     rcases ho with rfl|ho
     ·rw[Addr.add_lit];exact uZ ((k+1)*4+j) u (by rwa [yJ]at hj)
     ·have h0:(xs.drop ((k+1)*4)).length=0:=by rw[bO];omega
      rw[yR.1 h0]at hj
      simp at hj) (fun u hu=>oQ u (uc hu)) (by omega) (by rw[bO,dR,gJ];omega)
  rw[dR,<-bY,<-rG,show k+(n-(k+1))=n-1 by omega]at this;exact this
 have lQ:W1.heap[g]?=S (K C1.toArray 39 (0,0)):=by rw[rG];exact setRow_heap w.drew g cur _ _ _ hg
 have pJ:But (fun j=>j=g) w W1:=by rw[rG];exact(But.refl (fun j=>j=g) w).drew.setRow (.inr rfl) _
 obtain⟨W2,Hz⟩:∃W2,W2=W1.setRow g (C1.take ((n-1)*4)++[yN J 0,B J 0,B J 0,B J 0]++C1.drop ((n-1)*4+4)).toArray:=⟨_,rfl⟩
 have bN:∀ty o l c,o=(n-1)*4->l=1->(Builtin.clear_ #[44] ty #[R (S ⟨g,o,I⟩) l c]).run C W1= .ok (ks #[]) W2:=by
  intro ty o l c ho hl;subst ho hl
  have Py:(Builtin.zeroCells (yF #[B J 0,B J 0,B J 0,B J 0]).cells 1).toList=[B J 0,B J 0,B J 0,B J 0]:=by kernel_rfl
  have hv:∀w,(zeroValue 39).run C w= .ok (ue #[B J 0,B J 0,B J 0,B J 0]) w:=fun w=>by simp[zeroValue,typeInfo,sF,rW]
  have:=qq (P:=C) W1 44 39 ty 39 _ Tryz.underlying44 hv g ((n-1)*4) 1 c (by decide) C1.toArray lQ (by
   show(n-1)*4+1*4<=C1.toArray.size
   simp only[A,df]
   omega) (by rw[Py];decide)
  rw[Py]at this;rw[this,Hz];rfl
 have fH:W2.heap[g]?=S (K (C1.take ((n-1)*4)++[yN J 0,B J 0,B J 0,B J 0]++C1.drop ((n-1)*4+4)).toArray 39 (0,0)):=by rw[Hz];exact setRow_heap W1 g _ _ _ _ lQ
 have HB:Hid (But (fun j=>j=g) w W2):=by rw[Hz];exact pJ.setRow (.inr rfl) _
 have HO:Hid (W2.ownsRow 0 39 4 (R (S ⟨g,0,I⟩) (n-1) cap) (n-1) (xs.take (k*4)++xs.drop ((k+1)*4))):=by
  have e:=ydo (c:=cur.toList) (xs:=xs) (zs:=[yN J 0,B J 0,B J 0,B J 0]) (z:=4) (n:=n) (k:=k) hk (by rw[U,gJ];omega) hx;simp only[<-bY]at e;refine⟨by rw[Z,bO,Y,sG];omega,.inr ⟨g,cap,_,rfl,kh _,fH,by omega,by unfold maxLen;omega,?_,?_⟩⟩
  ·simp only[A,Y,Z,Q,df,ur,ua];omega
  ·exact e
 have Ha:(k:Int)+1<=(n:Int):=by omega
 have mX:((k:Int)+1).toNat=k+1:=by omega
 have PK:(0:Int)<=(k:Int)+1:=by omega
 have Hd:(k:Int)<=(k:Int)+1:=by omega
 have He:¬((k:Int)=(k:Int)+1):=by omega
 have Hl:(k:Int)<=(cap:Int):=by omega
 have rA:k<=cap:=by omega
 have H7:n-1<=n:=by omega
 have tq:n-(n-1)=1:=by omega
 have su:¬(cap=n-1):=by omega
 clear hg hx oQ uZ bY df rG lQ pJ Hz fH gJ sG bO sF rW dR mM
 by_cases sH:cap=k+1
 ·obtain rfl:n=k+1:=by omega
  subst sH;have SV:=HO.out;simp only[Nat.add_sub_cancel,Nat.sub_self]at kJ bN SV ⊢;have Mj:Hid _:=SV;clear HO SV Ha Hd He Hl rA H7 tq su
  have Hd:(k:Int)<=(k:Int)+1:=by omega
  have He:¬((k:Int)=(k:Int)+1):=by omega
  have Hl:¬(k+1=k):=by omega
  have rA:k+1-k=1:=by omega
  go_enter Tryz.func193,Tryz.ntmps193
  go_wp2_with fail
  go_region_law (refine zw rfl (.tmp 22) (.tmp 25) 44 44 rfl (R (S ⟨g,0,I⟩) k (k+1)) (R (S ⟨g,0,I⟩) 0 0) (by simp[Act.eval,Act.put]) (by simp[Act.eval,Act.put]) (kJ _ _ _ _ rfl (.inr trivial)) ?_)
  go_wp2_with (at_builtin;refine zH _ rfl _ 44 rfl _ rfl (bN _ _ _ _ (by omega) (by omega)) ?_)
  go_ret
  exact⟨rfl,Mj.out,HB.out⟩
 ·go_enter Tryz.func193,Tryz.ntmps193
  go_wp2_with fail
  go_region_law (refine zw rfl (.tmp 22) (.tmp 25) 44 44 rfl (R (S ⟨g,0,I⟩) k cap) (R (S ⟨g,(k+1)*4,I⟩) (n-(k+1)) (cap-(k+1))) (by simp[Act.eval,Act.put]) (by simp[Act.eval,Act.put]) (kJ _ _ _ _ rfl (.inl rfl)) ?_)
  go_wp2_with (at_builtin;refine zH _ rfl _ 44 rfl _ rfl (bN _ _ _ _ (by omega) (by omega)) ?_)
  go_ret
  exact⟨rfl,HO.out,HB.out⟩
structure qL (w:X) (b:Nat) (L:List Pg.Mp) (F:Nat->Prop):Prop where
 ex:∃vb,Dbk w b vb L/\F=bkF b vb
section
variable {w w':X} {b:Nat} {L:List Pg.Mp} {F G:Nat->Prop}
theorem qL.lt (h:qL w b L F) {k:Nat} (hk:F k):k<w.heap.size:=by
 obtain⟨vb,h,rfl⟩:=h;exact h.lt hk
theorem qL.keep (h:qL w b L F) (hb:But G w w') (hF:∀k,F k->¬G k):qL w' b L F:=by
 obtain⟨vb,h,rfl⟩:=h;exact⟨vb,h.keep hb hF,rfl⟩
end
theorem yfZ {w:X} {vb:Value} {L:List Pg.Mp} {t:TypeId} (hr:w.ownsRow 0 39 4 vb L.length (zC L)) (hg:Pg.Good L):Dbk (w.alloc (K #[vb] t)) w.heap.size vb L:=by
 have hb:=heap_alloc_new w (K #[vb] t);refine⟨cell_of_row _ _ 0 _ _ _ hb,fun o=>by unfold yC;simp only[hb];simp,hr.alloc _,fun e=> ?_,hg⟩;have:=(hr.lt _ e).2;omega
theorem yeu (w:X):
 Calls C 73 #[] w fun e w'=>∃b F,e=T (O (S ⟨b,0,I⟩))/\qL w' b [] F/\Below w.heap.size w w'/\∀k,F k->w.heap.size<=k:=by
 go_enter Tryz.func73,Tryz.ntmps73
 go_wp2_with fail
 go_ret
 refine⟨_,_,rfl,⟨R I 0 0,yfZ (yT _ _ _ _) Pg.Good.nil,rfl⟩,zA (zR _) _,fun k hk=> ?_⟩;rcases hk with rfl|hk
 ·exact M _
 ·simp[kO]at hk
section
variable {b:Nat} {L:List Pg.Mp} {F:Nat->Prop}
theorem ydF (w:X) (h:qL w b L F):
 Calls C 166 #[O (S ⟨b,0,I⟩)] w fun e w'=>∃ad cap,e=T (R ad L.length cap)/\xS w' ad L/\Below w.heap.size w w'/\∀k,(yB ad L.length cap).ownBlock=S k->w.heap.size<=k:=by
 obtain⟨vb,h,rfl⟩:=h;have rT:=h.c0;have HC:Hid _:=ybK w h.row h.good.len;clear h
 go_enter Tryz.func166,Tryz.ntmps166
 go_wp2_with fail
 refine Calls.mono HC.out ?_;rintro e w1 ⟨v',rfl,hr,hb⟩;obtain⟨ad,cap,rfl⟩:=zF hr;have HR:Hid _:=hr;have HB:Hid _:=hb;clear hr hb
 go_wp2_with fail
 go_ret
 exact⟨ad,cap,rfl,xx HR.out,HB.out,fun k hk=>(yE.lt HR.out k hk).1⟩
theorem ydC (w:X) (h:qL w b L F):
 Calls C 162 #[O (S ⟨b,0,I⟩)] w fun e w'=>∃b' F',e=T (O (S ⟨b',0,I⟩))/\qL w' b' L F'/\Below w.heap.size w w'/\∀k,F' k->w.heap.size<=k:=by
 obtain⟨vb,h,rfl⟩:=h;have rT:=h.c0;have HG:Hid _:=h.good;have HC:Hid _:=ybK w h.row h.good.len;clear h
 go_enter Tryz.func162,Tryz.ntmps162
 go_wp2_with fail
 refine Calls.mono HC.out ?_;rintro e w1 ⟨v',rfl,hr,hb⟩;obtain⟨ad,cap,rfl⟩:=zF hr;have HR:Hid _:=hr;have HB:Hid _:=hb;clear hr hb
 go_wp2_with fail
 go_ret
 refine⟨_,_,rfl,⟨_,yfZ (qF HR.out) HG.out,rfl⟩,zA HB.out _,fun k hk=> ?_⟩;rcases hk with rfl|hk
 ·exact HB.out.size
 ·exact(yE.lt HR.out k hk).1
theorem ydE (q:Int) (hq:Pg.fits q) (w:X) (h:qL w b L F):
 Calls C 195 #[O (S ⟨b,0,I⟩),B J q] w fun e w'=>e=T (ks #[(Pg.at' L q).val,yP (Pg.fnd L q).isSome])/\Below w.heap.size w w':=by
 obtain⟨vb,h,rfl⟩:=h;have kQ:=Pg.yks h.good q;have HH:=fun o=>jX q hq (w.alloc o) (h.grow (zA (zR _) o));cases hh:Pg.hit L (Pg.lkP q)
 ·have e0:Pg.fnd L q=I:=by rw[kQ,hh];rfl
  have e1:Pg.at' L q= .zz:=by simp only[Pg.at',e0]
  rw[e0,e1];simp only[hh]at HH;clear h e0 e1 kQ hh;generalize Pg.cut L (Pg.lkP q)=c at*
  go_enter Tryz.func195,Tryz.ntmps195
  go_wp2_with fail
  refine(HH _).mono ?_;rintro e w1 ⟨rfl,Ha⟩;have hr:∀o,w1.cell? ⟨w.heap.size,o,I⟩=_:=fun o=>Ha.cell (p:=⟨w.heap.size,o,I⟩) (by simp);have hf:∀o,w1.frozen? ⟨w.heap.size,o,I⟩=_:=fun o=>Ha.frozen (p:=⟨w.heap.size,o,I⟩) (by simp);have hB:Hid (Below w.heap.size w w1):=zT (zA (zR _) _) Ha;clear Ha HH
  go_wp2_with fail
  refine bodyPost_ret (v:=ks #[ue #[B J 0,B J 0,B J 0,B J 0],yP yS]) ?_ rfl ⟨rfl,?_⟩
  ·simp[results,Tryz.results195,go_sem,hr]
  ·exact zp hB.out _ (M _) _ _ _ _
 ·obtain⟨Hf,_⟩:=Pg.yiF.1 hh
  have e0:Pg.fnd L q=S (Pg.cut L (Pg.lkP q)):=by rw[kQ,hh];rfl
  have e1:Pg.at' L q=L.getD (Pg.cut L (Pg.lkP q)) .zz:=by simp only[Pg.at',e0]
  rw[e0,e1];simp only[hh]at HH;clear e0 e1 kQ hh;generalize Pg.cut L (Pg.lkP q)=j at*;obtain⟨g,cap,rfl,hg,bS,dV,si,ll⟩:=h.mp Hf;have rT:=h.c0;have rY:=h.lb;have Hg:=h.good.len
  have i0:(0:Int)<=(j:Int):=by omega
  have i1:(j:Int)<(L.length:Int):=by omega
  clear h;generalize L.getD j .zz=m at*;generalize L.length=n at*;obtain⟨mp,ms,mf,mr⟩:=m;simp only at bS dV si ll
  go_enter Tryz.func195,Tryz.ntmps195
  go_wp2_with fail
  refine(HH _).mono ?_;rintro e w1 ⟨rfl,Ha⟩;have hr:∀o,w1.cell? ⟨w.heap.size,o,I⟩=_:=fun o=>Ha.cell (p:=⟨w.heap.size,o,I⟩) (by simp);have hf:∀o,w1.frozen? ⟨w.heap.size,o,I⟩=_:=fun o=>Ha.frozen (p:=⟨w.heap.size,o,I⟩) (by simp);have gI:Below w.heap.size w w1:=zT (zA (zR _) _) Ha;have hB:Hid _:=gI;have c0:=cell_later gI rT;have m0:=cell_later gI bS;have m1:=cell_later gI dV;have m2:=cell_later gI si;have m3:=cell_later gI ll;clear Ha HH gI rT bS dV si ll
  go_wp2_with fail
  refine bodyPost_ret (v:=ks #[ue #[B J mp,B J ms,B J mf,B J mr],yP H]) ?_ rfl ⟨rfl,?_⟩
  ·simp[results,Tryz.results195,go_sem,hr]
  ·exact zp hB.out _ (M _) _ _ _ _
theorem qU (q k:Int) (u:Bool) (hq:Pg.fits q) (w:X) (h:qL w b L F):
 Calls C 164 #[O (S ⟨b,0,I⟩),ue #[B J q,B J k,yP u]] w fun e w'=>
  e=T (ue #[B J (Pg.ansE L q k u),B J (Pg.ansF L q k u),B J (Pg.ansR L q k u)])/\Below w.heap.size w w':=by
 have HF:=fun o o'=>ydE q hq ((w.alloc o).alloc o') (h.keep (G:=fun _=>False) (But.yhp (zA (zA (zR _) o) o')) (fun _ _=>id));clear h
 cases hf:Pg.fnd L q with
 | none=>
   have e1:Pg.at' L q= .zz:=by simp only[Pg.at',hf]
   have e2:Pg.ansE L q k u=1:=by simp[Pg.ansE,hf]
   have e3:Pg.ansF L q k u=0:=by simp[Pg.ansF,hf]
   have e4:Pg.ansR L q k u=0:=by simp[Pg.ansR,hf]
   rw[e2,e3,e4];rw[e1,hf]at HF;rw[show(.zz:Pg.Mp).val=ue #[B J 0,B J 0,B J 0,B J 0]from rfl]at HF;simp only[Option.isSome_none]at HF;clear e1 e2 e3 e4 hf
   go_enter Tryz.func164,Tryz.ntmps164
   go_wp2_with fail
   refine(HF _ _).mono ?_;rintro e w1 ⟨rfl,Ha⟩;have hr:∀o,w1.cell? ⟨w.heap.size+1,o,I⟩=_:=fun o=>Ha.cell (p:=⟨w.heap.size+1,o,I⟩) (by simp);have hf:∀o,w1.frozen? ⟨w.heap.size+1,o,I⟩=_:=fun o=>Ha.frozen (p:=⟨w.heap.size+1,o,I⟩) (by simp)
   have hs:w.heap.size+1<w1.heap.size:=by have:=Ha.size;simp at this;omega
   have hB:Hid (Below w.heap.size w w1):=zT (zA (zA (zR _) _) _) Ha;clear Ha HF
   go_wp2_with fail
   refine bodyPost_ret (v:=ue #[B J 1,B J 0,B J 0]) ?_ rfl ⟨rfl,?_⟩
   ·simp[results,Tryz.results164,go_sem,hr,hs]
   ·exact zA (((hB.out.setCell (by simp) _).setCell (by simp) _).setCell (by simp) _) _
 | some j=>
   have e1:Pg.at' L q=L.getD j .zz:=by simp only[Pg.at',hf]
   have e2:Pg.ansE L q k u=Pg.aEnd (L.getD j .zz).r k u:=by simp only[Pg.ansE,hf]
   have e3:Pg.ansF L q k u=Pg.yhY (L.getD j .zz).p (L.getD j .zz).f (L.getD j .zz).r q k u:=by simp only[Pg.ansF,hf]
   have e4:Pg.ansR L q k u=Pg.yhL (L.getD j .zz).r k u:=by simp only[Pg.ansR,hf]
   rw[e2,e3,e4];rw[e1,hf]at HF;simp only[Option.isSome_some]at HF;have HA:=jS (L.getD j .zz).p (L.getD j .zz).s (L.getD j .zz).f (L.getD j .zz).r q k u;clear e1 e2 e3 e4 hf;generalize L.getD j .zz=y at*;obtain⟨mp,ms,mf,mr⟩:=y;simp only[Pg.Mp.val]at HF HA ⊢;generalize Pg.aEnd mr k u=x0 at*;generalize Pg.yhY mp mf mr q k u=x1 at*;generalize Pg.yhL mr k u=x2 at*
   go_enter Tryz.func164,Tryz.ntmps164
   go_wp2_with fail
   refine(HF _ _).mono ?_;rintro e w1 ⟨rfl,Ha⟩
   have hs:w.heap.size+1<w1.heap.size:=by have:=Ha.size;simp at this;omega
   have a0:w1.cell? ⟨w.heap.size,0,I⟩=S (B J q):=(Ha.cell (p:=⟨w.heap.size,0,I⟩) (by simp;omega)).trans (by simp[go_sem]);have a1:w1.cell? ⟨w.heap.size,1,I⟩=S (B J k):=(Ha.cell (p:=⟨w.heap.size,1,I⟩) (by simp;omega)).trans (by simp[go_sem]);have a2:w1.cell? ⟨w.heap.size,2,I⟩=S (yP u):=(Ha.cell (p:=⟨w.heap.size,2,I⟩) (by simp;omega)).trans (by simp[go_sem]);have hr:∀o,w1.cell? ⟨w.heap.size+1,o,I⟩=_:=fun o=>Ha.cell (p:=⟨w.heap.size+1,o,I⟩) (by simp);have hf:∀o,w1.frozen? ⟨w.heap.size+1,o,I⟩=_:=fun o=>Ha.frozen (p:=⟨w.heap.size+1,o,I⟩) (by simp)
   have hs0:w.heap.size<w1.heap.size:=by omega
   have hB:Hid (Below w.heap.size w w1):=zT (zA (zA (zR _) _) _) Ha;clear Ha HF
   go_wp2_with fail
   refine(HA _).mono ?_;rintro e w2 ⟨rfl,Hd⟩
   have pR:w.heap.size+1<w2.heap.size:=by have:=Hd.size;simp at this;omega
   have tF:∀o,w2.cell? ⟨w.heap.size+1,o,I⟩=_:=fun o=>(Hd.cell (p:=⟨w.heap.size+1,o,I⟩) (by simp;omega)).trans ((Below.cell (p:=⟨w.heap.size+1,o,I⟩) (zA (zR w1) _) hs).trans (hr o));have oh:∀o,w2.frozen? ⟨w.heap.size+1,o,I⟩=_:=fun o=>(Hd.frozen (p:=⟨w.heap.size+1,o,I⟩) (by simp;omega)).trans ((Below.frozen (p:=⟨w.heap.size+1,o,I⟩) (zA (zR w1) _) hs).trans (hf o));have tH:Hid (Below w.heap.size w w2):=zT (zA hB.out _) Hd;clear Hd hr hf hB a0 a1 a2 hs hs0 HA
   go_wp2_with fail
   refine bodyPost_ret (v:=ue #[B J x0,B J x1,B J x2]) ?_ rfl ⟨rfl,?_⟩
   ·simp[results,Tryz.results164,go_sem,tF]
   ·exact((tH.out.setCell (by simp) _).setCell (by simp) _).setCell (by simp) _
end
theorem Dbk.put {w W:X} {b:Nat} {vb v':Value} {L L':List Pg.Mp} (h:Dbk w b vb L) (hb:But (fun j=>vb.ownBlock=S j) w W) (hr:W.ownsRow 0 39 4 v' L'.length (zC L')) (hv:∀j,v'.ownBlock=S j->vb.ownBlock=S j\/w.heap.size<=j) (hg:Pg.Good L'):
 Dbk (W.setCell ⟨b,0,I⟩ v') b v' L'/\But (bkF b vb) w (W.setCell ⟨b,0,I⟩ v')/\(∀k,bkF b v' k->bkF b vb k\/w.heap.size<=k):=by
 have hl:=h.lb;have kb:W.heap[b]?=w.heap[b]?:=hb.block b hl h.nb;have hc:W.cell? ⟨b,0,I⟩=S vb:=(un (a:=⟨b,0,I⟩) kb).trans h.c0;have Ho:v'.ownBlock≠S b:=fun e=>(hv b e).elim h.nb (fun h=>by omega);refine⟨⟨World.cell?_setCell_same _ _ _ hc,fun o=> ?_,?_,Ho,hg⟩,?_,fun k hk=> ?_⟩
 ·have:=(E (a:=⟨b,o,I⟩) kb).trans (h.fb o)
  simpa using this
 ·exact zb hr fun k hk=>Below.heap_setCell _ _ _ _ (fun e=>Ho (by rw[hk];exact congrArg S e))
 ·exact(hb.mono (G:=bkF b vb) fun i _ hi=> .inr hi).setCell (a:=⟨b,0,I⟩) (.inr (.inl rfl)) _
 ·rcases hk with rfl|hk
  ·exact .inl (.inl rfl)
  ·exact(hv k hk).imp .inr id
section
variable {b:Nat} {L:List Pg.Mp} {F:Nat->Prop}
theorem yet (m:Pg.Mp) (hm:Pg.fits m.p) (w:X) (h:qL w b L F):
 Calls C 157 #[O (S ⟨b,0,I⟩),m.val] w fun e w'=>e=T (B J (Pg.addC L m))/\∃F',qL w' b (Pg.addL L m) F'/\But F w w'/\∀k,F' k->F k\/w.heap.size<=k:=by
 obtain⟨vb,h,rfl⟩:=h
 have HK:Hid (∀w',Below w.heap.size w w'->Pg.addC L m≠0->∃F',qL w' b (Pg.addL L m) F'/\But (bkF b vb) w w'/\∀k,F' k->bkF b vb k\/w.heap.size<=k):=fun w' hb hc=>
  ⟨bkF b vb,⟨vb,by rw[Pg.addL,if_neg hc];exact h.grow hb,rfl⟩,But.yhp hb,fun _ hk=> .inl hk⟩
 by_cases H6:m.code=0
 ·have HM:=fun w' hb=>ycV m hm w' (h.grow (w':=w') hb)
  have uD:=Pg.any_hit h.good H6;cases hh:Pg.hit L (Pg.lkM m)
  ·have hC:Hid (Pg.addC L m=0):=by simp only[Hid,Pg.addC,uD,hh];simp[H6]
   have hL:Hid (Pg.addL L m=L.take (Pg.cut L (Pg.lkM m))++m::L.drop (Pg.cut L (Pg.lkM m))):=by
    simp only[Hid,Pg.addL];rw[if_pos hC.out];exact Pg.ins_cut h.good hh
   have HI:Hid (∀(W:X) (V:Nat) (tV:TypeId),Below w.heap.size w W->w.heap.size<=V->W.heap[V]?=S (K #[B J m.p,B J m.s,B J m.f,B J m.r] tV)->
    Calls C 191 #[vb,B J (Pg.cut L (Pg.lkM m)),R (S ⟨V,0,I⟩) 1 1] W fun e w'=>∃ad cap,e=T (R ad (L.length+1) cap)/\w'.cell? ⟨b,0,I⟩=S vb/\w'.frozen? ⟨b,0,I⟩=yS/\
     Hid (∃F',qL (w'.setCell ⟨b,0,I⟩ (R ad (L.length+1) cap)) b (Pg.addL L m) F'/\But (bkF b vb) w (w'.setCell ⟨b,0,I⟩ (R ad (L.length+1) cap))/\∀k,F' k->bkF b vb k\/w.heap.size<=k)):=by
    intro W V tV hb hV Ao;have hW:=h.grow hb;refine(ydW W hW.row h.good.len (Pg.ykb _ _) Ao (fun e=>by have:=(h.row.lt _ e).2;omega)).mono ?_;rintro e w' ⟨v',rfl,hr,hB,hv⟩;obtain⟨ad,cap,rfl⟩:=zF hr;have kb:w'.heap[b]?=W.heap[b]?:=hB.block b hW.lb hW.nb
    have Hg:(Pg.addL L m).length=L.length+1:=by
     rw[hL.out];have:=Pg.ykb L (Pg.lkM m);simp only[Z,ur,Y,Q];omega
    have hg:=h.good.add m
    have nT:w'.ownsRow 0 39 4 (R ad (L.length+1) cap) (Pg.addL L m).length (zC (Pg.addL L m)):=by rw[Hg,hL.out];exact hr
    obtain⟨p1,p2,p3⟩:=hW.put hB nT hv hg;refine⟨ad,cap,rfl,(un (a:=⟨b,0,I⟩) kb).trans hW.c0,(E (a:=⟨b,0,I⟩) kb).trans (hW.fb 0),⟨_,⟨_,p1,rfl⟩,?_,fun k hk=> ?_⟩⟩
    ·exact(But.yhp hb).trans p2 (fun i _ hi=>hi)
    ·exact(p3 k hk).imp id (fun h=>Nat.le_trans hb.size h)
   have rT:=h.c0;have rY:=h.lb;simp only[hh]at HM;rw[hC.out];have eF:Pg.check m.p m.s m.f m.r=0:=H6;have sN:=zX m.p m.s m.f m.r;rw[eF]at sN;clear h uD hh HK H6 hL hC eF;generalize Pg.cut L (Pg.lkM m)=c at*;generalize Pg.addL L m=L' at*;generalize L.length=n at*;obtain⟨mp,ms,mf,mr⟩:=m;simp only[Pg.Mp.val]at HM ⊢;simp only at HI sN
   go_enter Tryz.func157,Tryz.ntmps157
   go_wp2_with fail
   refine(sN _).mono ?_;rintro e w1 ⟨rfl,Ha⟩;have hx:∀o,w1.cell? ⟨w.heap.size,o,I⟩=_:=fun o=>Ha.cell (p:=⟨w.heap.size,o,I⟩) (by simp);have b1:Below w.heap.size w w1:=zT (zA (zR _) _) Ha
   have rQ:w.heap.size<w1.heap.size:=by have:=Ha.size;simp at this;omega
   clear Ha
   go_wp2_with fail
   refine(HM _ b1).mono ?_;rintro e w2 ⟨rfl,Hd⟩;have z0:w2.cell? ⟨w.heap.size,0,I⟩=S (B J mp):=((Hd.cell (p:=⟨w.heap.size,0,I⟩) rQ).trans (hx 0)).trans (by simp[go_sem]);have z1:w2.cell? ⟨w.heap.size,1,I⟩=S (B J ms):=((Hd.cell (p:=⟨w.heap.size,1,I⟩) rQ).trans (hx 1)).trans (by simp[go_sem]);have z2:w2.cell? ⟨w.heap.size,2,I⟩=S (B J mf):=((Hd.cell (p:=⟨w.heap.size,2,I⟩) rQ).trans (hx 2)).trans (by simp[go_sem]);have z3:w2.cell? ⟨w.heap.size,3,I⟩=S (B J mr):=((Hd.cell (p:=⟨w.heap.size,3,I⟩) rQ).trans (hx 3)).trans (by simp[go_sem]);have He:Below w.heap.size w w2:=zT b1 Hd;have y0:=cell_later He rT;have Ht:Hid _:=He;have pR:w.heap.size<=w2.heap.size:=He.size;have Ll:b<w2.heap.size:=Nat.lt_of_lt_of_le rY pR;clear hx Hd He b1 rQ rT HM sN
   go_wp2_with fail
   have kN:Hid _:=HI.out ((w2.alloc (K #[B J mp,B J ms,B J mf,B J mr] 39)).drew) w2.heap.size 39 ((zA Ht.out _).trans ⟨rfl,rfl,rfl,M _,fun _ _=>rfl⟩) pR (heap_alloc_new w2 _);clear HI
   go_region_with (go_at_call 191;refine Calls.mono kN.out ?_;rintro e w' ⟨ad,cap,rfl,k0,k1,HF⟩)
   all_goals
    go_wp2_with fail
    go_ret
    exact⟨rfl,HF.out⟩
  ·have hC:Hid (Pg.addC L m=4):=by simp only[Hid,Pg.addC,uD,hh];simp[H6]
   have oJ:Hid _:=fun w' hb=>HK.out w' hb (by rw[hC.out];decide);simp only[hh]at HM;rw[hC.out];have eF:Pg.check m.p m.s m.f m.r=0:=H6;have sN:=zX m.p m.s m.f m.r;rw[eF]at sN;clear h uD hh HK H6 hC eF;generalize Pg.cut L (Pg.lkM m)=c at*;generalize Pg.addL L m=L' at*;obtain⟨mp,ms,mf,mr⟩:=m;simp only[Pg.Mp.val]at HM ⊢;simp only at sN
   go_enter Tryz.func157,Tryz.ntmps157
   go_wp2_with fail
   refine(sN _).mono ?_;rintro e w1 ⟨rfl,Ha⟩;have hx:∀o,w1.cell? ⟨w.heap.size,o,I⟩=_:=fun o=>Ha.cell (p:=⟨w.heap.size,o,I⟩) (by simp);have b1:Below w.heap.size w w1:=zT (zA (zR _) _) Ha
   have rQ:w.heap.size<w1.heap.size:=by have:=Ha.size;simp at this;omega
   clear Ha
   go_wp2_with fail
   refine(HM _ b1).mono ?_;rintro e w2 ⟨rfl,Hd⟩;have Ht:Hid (Below w.heap.size w w2):=zT b1 Hd;clear hx Hd b1 rQ HM sN
   go_wp2_with fail
   go_ret
   exact⟨rfl,oJ.out _ Ht.out⟩
 ·have hC:Hid (Pg.addC L m=Pg.check m.p m.s m.f m.r):=by simp only[Hid,Pg.addC];rw[if_pos H6];rfl
  have oJ:Hid _:=fun w' hb=>HK.out w' hb (by rw[hC.out];exact H6)
  have Ho:(Pg.check m.p m.s m.f m.r !=0)=H:=by
   have:Pg.check m.p m.s m.f m.r≠0:=H6
   simpa using this
  rw[hC.out];have sN:=zX m.p m.s m.f m.r;clear h HK H6 hC;generalize Pg.addL L m=L' at*;obtain⟨mp,ms,mf,mr⟩:=m;simp only at sN Ho;simp only[Pg.Mp.val];generalize Pg.check mp ms mf mr=x at*
  go_enter Tryz.func157,Tryz.ntmps157
  go_wp2_with fail
  refine(sN _).mono ?_;rintro e w1 ⟨rfl,Ha⟩;have HB:Hid (Below w.heap.size w w1):=zT (zA (zR _) _) Ha;clear Ha
  go_wp2_with fail
  go_ret
  exact⟨rfl,oJ.out _ HB.out⟩
theorem ydG {vb:Value} {L:List Pg.Mp} {k:Nat} (w:X) (hr:w.ownsRow 0 39 4 vb L.length (zC L)) (hn:L.length<=4096) (hk:k<L.length):
 Calls C 193 #[vb,B J k,B J (k+1)] w fun e w'=>∃g cap,vb=R (S ⟨g,0,I⟩) L.length cap/\e=T (R (S ⟨g,0,I⟩) (L.length-1) cap)/\w'.ownsRow 0 39 4 (R (S ⟨g,0,I⟩) (L.length-1) cap) (L.eraseIdx k).length (zC (L.eraseIdx k))/\But (fun j=>vb.ownBlock=S j) w w':=by
 have Hg:(L.eraseIdx k).length=L.length-1:=by rw[List.length_eraseIdx,if_pos hk]
 have hcut:(zC L).take (k*4)++(zC L).drop ((k+1)*4)=zC (L.eraseIdx k):=by
  have e:∀j,j<=L.length->(zC L).take (j*4)=zC (L.take j)/\(zC L).drop (j*4)=zC (L.drop j):=by
   intro j hj
   have e:zC L=zC (L.take j)++zC (L.drop j):=by rw[<-xg,yY]
   have hl:(zC (L.take j)).length=j*4:=by rw[xK,Y];congr 1;omega
   exact⟨by rw[e,yO hl],by rw[e,yK hl]⟩
  rw[(e k (by omega)).1,(e (k+1) (by omega)).2,<-xg,List.eraseIdx_eq_take_drop_succ]
 obtain⟨_,wQ⟩:=hr;rcases wQ with ⟨_,e0⟩|⟨g,cap,cur,rfl,_,hg,rO,tY,fT,dD⟩
 ·omega
 ·refine(ydH w hg hn hk rO (by unfold maxLen at tY;omega) fT dD (qn L)).mono ?_
  rintro e w' ⟨rfl,h1,h2⟩;rw[hcut]at h1;exact⟨g,cap,rfl,rfl,by rw[Hg];exact h1,h2.mono fun i _ hi=>by rw[hi];rfl⟩
theorem ydD (q:Int) (hq:Pg.fits q) (w:X) (h:qL w b L F):
 Calls C 159 #[O (S ⟨b,0,I⟩),B J q] w fun e w'=>e=T (ks #[(Pg.yib L q).val,B J (Pg.yhI L q)])/\∃F',qL w' b (Pg.yhU L q) F'/\But F w w'/\∀k,F' k->F k\/w.heap.size<=k:=by
 obtain⟨vb,h,rfl⟩:=h
 have HK:Hid (∀w',Below w.heap.size w w'->Pg.yhI L q≠0->∃F',qL w' b (Pg.yhU L q) F'/\But (bkF b vb) w w'/\∀k,F' k->bkF b vb k\/w.heap.size<=k):=fun w' hb hc=>
  ⟨bkF b vb,⟨vb,by rw[Pg.yhU,if_neg hc];exact h.grow hb,rfl⟩,But.yhp hb,fun _ hk=> .inl hk⟩
 cases Hl:Pg.below q 4096
 ·have hC:Pg.yhI L q=1:=by simp[Pg.yhI,Hl]
  have hM:Pg.yib L q= .zz:=by simp[Pg.yib,hC]
  have oJ:Hid _:=fun w' hb=>HK.out w' hb (by rw[hC];decide);rw[hC,hM,show(.zz:Pg.Mp).val=ue #[B J 0,B J 0,B J 0,B J 0]from rfl];clear h HK hC hM;generalize Pg.yhU L q=L' at*
  go_enter Tryz.func159,Tryz.ntmps159
  go_wp2_with (go_at_call 172;refine(xn _ _).mono ?_;rintro e w' ⟨rfl,rfl⟩)
  refine bodyPost_ret (v:=ks #[ue #[B J 0,B J 0,B J 0,B J 0],B J 1]) ?_ rfl ⟨rfl,?_⟩
  ·simp[results,Tryz.results159,go_sem]
  ·exact oJ.out _ (zA (zR _) _)
 ·have kQ:=Pg.yks h.good q
  have HH:=fun o=>jX q hq (w.alloc o) (h.grow (zA (zR _) o));cases hh:Pg.hit L (Pg.lkP q)
  ·have e0:Pg.fnd L q=I:=by rw[kQ,hh];rfl
   have hC:Pg.yhI L q=5:=by simp[Pg.yhI,Hl,e0]
   have hM:Pg.yib L q= .zz:=by simp[Pg.yib,hC]
   have oJ:Hid _:=fun w' hb=>HK.out w' hb (by rw[hC];decide);rw[hC,hM,show(.zz:Pg.Mp).val=ue #[B J 0,B J 0,B J 0,B J 0]from rfl];simp only[hh]at HH;clear h HK hC hM e0 kQ hh;generalize Pg.yhU L q=L' at*;generalize Pg.cut L (Pg.lkP q)=c at*
   go_enter Tryz.func159,Tryz.ntmps159
   go_wp2_with (go_at_call 172;refine(xn _ _).mono ?_;rintro e w' ⟨rfl,rfl⟩)
   refine(HH _).mono ?_;rintro e w1 ⟨rfl,Ha⟩;have hr:∀o,w1.cell? ⟨w.heap.size,o,I⟩=_:=fun o=>Ha.cell (p:=⟨w.heap.size,o,I⟩) (by simp);have hf:∀o,w1.frozen? ⟨w.heap.size,o,I⟩=_:=fun o=>Ha.frozen (p:=⟨w.heap.size,o,I⟩) (by simp);have hB:Hid (Below w.heap.size w w1):=zT (zA (zR _) _) Ha;clear Ha HH
   go_wp2_with fail
   refine bodyPost_ret (v:=ks #[ue #[B J 0,B J 0,B J 0,B J 0],B J 5]) ?_ rfl ⟨rfl,?_⟩
   ·simp[results,Tryz.results159,go_sem,hr]
   ·exact oJ.out _ (zp hB.out _ (M _) _ _ _ _)
  ·obtain⟨Hf,_⟩:=Pg.yiF.1 hh
   have e0:Pg.fnd L q=S (Pg.cut L (Pg.lkP q)):=by rw[kQ,hh];rfl
   have hC:Pg.yhI L q=0:=by simp[Pg.yhI,Hl,e0]
   have hM:Pg.yib L q=L.getD (Pg.cut L (Pg.lkP q)) .zz:=by simp only[Pg.yib,hC,if_true,Pg.at',e0]
   have hL:Pg.yhU L q=L.eraseIdx (Pg.cut L (Pg.lkP q)):=by simp only[Pg.yhU,hC,if_true,e0]
   rw[hC,hM,hL];simp only[hh]at HH;clear HK hC hM hL e0 kQ hh;generalize Pg.cut L (Pg.lkP q)=j at*;obtain⟨g,cap,rfl,hg,bS,dV,si,ll⟩:=h.mp Hf;have gm:g≠b:=fun e=>h.nb (by rw[e];rfl)
   have HD:Hid (∀W,Below w.heap.size w W->Calls C 193 #[R (S ⟨g,0,I⟩) L.length cap,B J j,B J (j+1)] W fun e w'=>e=T (R (S ⟨g,0,I⟩) (L.length-1) cap)/\w'.cell? ⟨b,0,I⟩=S (R (S ⟨g,0,I⟩) L.length cap)/\w'.frozen? ⟨b,0,I⟩=yS/\But (fun k=>k=g) W w'/\
    Hid (qL (w'.setCell ⟨b,0,I⟩ (R (S ⟨g,0,I⟩) (L.length-1) cap)) b (L.eraseIdx j) (bkF b (R (S ⟨g,0,I⟩) L.length cap))/\But (bkF b (R (S ⟨g,0,I⟩) L.length cap)) w (w'.setCell ⟨b,0,I⟩ (R (S ⟨g,0,I⟩) (L.length-1) cap)))):=by
    intro W hb;have hW:=h.grow hb;refine(ydG W hW.row h.good.len Hf).mono ?_;rintro e w' ⟨g',cap',he,rfl,hr,hB⟩;cases he;have kb:w'.heap[b]?=W.heap[b]?:=hB.block b hW.lb hW.nb;obtain⟨p1,p2,p3⟩:=hW.put hB hr (fun k hk=> .inl hk) (h.good.erase j);refine⟨rfl,(un (a:=⟨b,0,I⟩) kb).trans hW.c0,(E (a:=⟨b,0,I⟩) kb).trans (hW.fb 0),hB.mono (fun i _ hi=>by simpa[kO]using hi.symm),⟨⟨_,p1,rfl⟩,?_⟩⟩;exact(But.yhp hb).trans p2 (fun i _ hi=>hi)
   have rT:=h.c0;have rY:=h.lb;have Hg:=h.good.len
   have i0:(0:Int)<=(j:Int):=by omega
   have i1:(j:Int)<(L.length:Int):=by omega
   clear h;generalize L.eraseIdx j=L' at*;generalize L.getD j .zz=m at*;generalize L.length=n at*;obtain⟨mp,ms,mf,mr⟩:=m;simp only[Pg.Mp.val]at*
   go_enter Tryz.func159,Tryz.ntmps159
   go_wp2_with (go_at_call 172;refine(xn _ _).mono ?_;rintro e w' ⟨rfl,rfl⟩)
   refine(HH _).mono ?_;rintro e w1 ⟨rfl,Ha⟩;have hr:∀o,w1.cell? ⟨w.heap.size,o,I⟩=_:=fun o=>Ha.cell (p:=⟨w.heap.size,o,I⟩) (by simp);have hf:∀o,w1.frozen? ⟨w.heap.size,o,I⟩=_:=fun o=>Ha.frozen (p:=⟨w.heap.size,o,I⟩) (by simp)
   have rQ:w.heap.size<w1.heap.size:=by have:=Ha.size;simp at this;omega
   have gI:Below w.heap.size w w1:=zT (zA (zR _) _) Ha
   have WA:b<w1.heap.size:=by omega
   have hB:Hid _:=gI;have c0:=cell_later gI rT;have m0:=cell_later gI bS;have m1:=cell_later gI dV;have m2:=cell_later gI si;have m3:=cell_later gI ll;clear Ha HH gI rT bS dV si ll
   go_wp2_with fail
   have lL:Below w.heap.size w (w1.alloc (K #[B J mp,B J ms,B J mf,B J mr] 39)):=zA hB.out _;refine Calls.mono (HD.out _ lL) ?_;rintro e w2 ⟨rfl,k0,k1,gD,HF⟩
   have dE:w1.heap.size<(w1.alloc (K #[B J mp,B J ms,B J mf,B J mr] 39)).heap.size:=by simp
   have t1:∀o,w2.cell? ⟨w1.heap.size,o,I⟩=_:=fun o=>gD.cell (a:=⟨w1.heap.size,o,I⟩) dE (by show ¬w1.heap.size=g;omega);have z0:w2.cell? ⟨w1.heap.size,0,I⟩=S (B J mp):=(t1 0).trans (by simp[go_sem]);have z1:w2.cell? ⟨w1.heap.size,1,I⟩=S (B J ms):=(t1 1).trans (by simp[go_sem]);have z2:w2.cell? ⟨w1.heap.size,2,I⟩=S (B J mf):=(t1 2).trans (by simp[go_sem]);have z3:w2.cell? ⟨w1.heap.size,3,I⟩=S (B J mr):=(t1 3).trans (by simp[go_sem])
   have sJ:w.heap.size<(w1.alloc (K #[B J mp,B J ms,B J mf,B J mr] 39)).heap.size:=by simp;omega
   have t2:∀o,w2.cell? ⟨w.heap.size,o,I⟩=_:=fun o=>(gD.cell (a:=⟨w.heap.size,o,I⟩) sJ (by show ¬w.heap.size=g;omega)).trans ((Below.cell (p:=⟨w.heap.size,o,I⟩) (zA (zR w1) _) rQ).trans (hr o));have t3:∀o,w2.frozen? ⟨w.heap.size,o,I⟩=_:=fun o=>(gD.frozen (a:=⟨w.heap.size,o,I⟩) sJ (by show ¬w.heap.size=g;omega)).trans ((Below.frozen (p:=⟨w.heap.size,o,I⟩) (zA (zR w1) _) rQ).trans (hf o))
   have n1:w1.heap.size≠b:=by omega
   have n2:w.heap.size≠b:=by omega
   have n3:w1.heap.size≠w.heap.size:=by omega
   clear gD t1 hr hf lL hB c0 m0 m1 m2 m3 HD dE sJ
   go_wp2_with fail
   refine bodyPost_ret (v:=ks #[ue #[B J mp,B J ms,B J mf,B J mr],B J 0]) ?_ rfl ⟨rfl,?_⟩
   ·simp[results,Tryz.results159,go_sem,t2]
   ·obtain⟨f1,f2⟩:=HF.out
    have iY:=qm (But.refl (fun k=>k=w.heap.size) (w2.setCell ⟨b,0,I⟩ (R (S ⟨g,0,I⟩) (n-1) cap))) w.heap.size (.inr rfl) (B J mp) (B J ms) (B J mf) (B J mr);refine⟨_,f1.keep iY (fun k hk=> ?_),f2.trans iY (fun i hi e=> ?_),fun k hk=> .inl hk⟩
    ·rcases hk with rfl|hk
     ·exact fun e=>n2 e.symm
     ·simp only[kO,Option.some.injEq]at hk
      omega
    ·omega
end
theorem vU:∀(L:List Pg.Mp) (k:Nat) (r:Int),k<L.length->(zC L).set (k*4+3) (B J r)=zC (L.set k ((L.getD k .zz).rts r))
 | [],_,_,h=>by simp at h
 | x::t,0,r,_=>by simp[zC,Pg.Mp.rts]
 | x::t,k+1,r,h=>by
   have ih:=vU t k r (by simpa using h)
   have e1:∀(y:Pg.Mp) (s:List Pg.Mp),zC (y::s)=B J y.p::B J y.s::B J y.f::B J y.r::zC s:=fun y s=>by simp[zC]
   rw[e1,show(k+1)*4+3=k*4+3+4 by omega];simp only[List.set_cons_succ,List.getD_cons_succ,e1,ih]
theorem yc8 (q r:Int):Pg.check q 0 0 r=if Pg.below q 4096=H/\Pg.below r 8=H then 0 else 1:=by
 have hs:Pg.span 0=1:=rfl;have hb:Pg.below 0 1048576=H:=rfl;unfold Pg.check;rw[hs,hb]
 cases Pg.below q 4096<;>cases Pg.below r 8<;>simp
theorem ybp {L:List Pg.Mp} (h:Pg.Good L) {k:Nat} (hk:k<L.length) {r:Int} (hr:Pg.below r 8=H):Pg.Good (L.set k ((L.getD k .zz).rts r)):=by
 obtain⟨_,h2⟩:=Pg.ykX h hk hr;rw[<-h2];exact(h.erase k).add _
section
variable {b:Nat} {L:List Pg.Mp} {F:Nat->Prop}
theorem ybk (q r:Int) (hq:Pg.fits q) (w:X) (h:qL w b L F):
 Calls C 161 #[O (S ⟨b,0,I⟩),B J q,B J r] w fun e w'=>e=T (ks #[(Pg.yiV L q r).val,B J (Pg.yie L q r)])/\∃F',qL w' b (Pg.yir L q r) F'/\But F w w'/\∀k,F' k->F k\/w.heap.size<=k:=by
 obtain⟨vb,h,rfl⟩:=h
 have HK:Hid (∀w',Below w.heap.size w w'->Pg.yie L q r≠0->∃F',qL w' b (Pg.yir L q r) F'/\But (bkF b vb) w w'/\∀k,F' k->bkF b vb k\/w.heap.size<=k):=fun w' hb hc=>
  ⟨bkF b vb,⟨vb,by rw[Pg.yir,if_neg hc];exact h.grow hb,rfl⟩,But.yhp hb,fun _ hk=> .inl hk⟩
 have sN:=zX q 0 0 r;rw[yc8]at sN
 by_cases hc:Pg.below q 4096=H/\Pg.below r 8=H
 ·obtain⟨gB,mQ⟩:=hc
  rw[if_pos ⟨gB,mQ⟩]at sN;have kQ:=Pg.yks h.good q;have HH:=fun w' hb=>jX q hq w' (h.grow (w':=w') hb);cases hh:Pg.hit L (Pg.lkP q)
  ·have e0:Pg.fnd L q=I:=by rw[kQ,hh];rfl
   have hC:Pg.yie L q r=5:=by simp[Pg.yie,Pg.yhI,gB,mQ,e0]
   have hM:Pg.yiV L q r= .zz:=by simp[Pg.yiV,hC]
   have oJ:Hid _:=fun w' hb=>HK.out w' hb (by rw[hC];decide);rw[hC,hM,show(.zz:Pg.Mp).val=ue #[B J 0,B J 0,B J 0,B J 0]from rfl];simp only[hh]at HH;clear h HK hC hM e0 kQ hh;generalize Pg.yir L q r=L' at*;generalize Pg.cut L (Pg.lkP q)=c at*
   go_enter Tryz.func161,Tryz.ntmps161
   go_wp2_with fail
   refine(sN _).mono ?_;rintro e w1 ⟨rfl,Ha⟩;have b1:Below w.heap.size w w1:=zT (zA (zR _) _) Ha
   have rQ:w.heap.size<w1.heap.size:=by have:=Ha.size;simp at this;omega
   have dn:∀o,w1.cell? ⟨w.heap.size,o,I⟩=_:=fun o=>Ha.cell (p:=⟨w.heap.size,o,I⟩) (by simp);have pY:∀o,w1.frozen? ⟨w.heap.size,o,I⟩=_:=fun o=>Ha.frozen (p:=⟨w.heap.size,o,I⟩) (by simp);clear Ha
   go_wp2_with fail
   refine(HH _ b1).mono ?_;rintro e w2 ⟨rfl,Hd⟩;have tF:∀o,w2.cell? ⟨w.heap.size,o,I⟩=_:=fun o=>(Hd.cell (p:=⟨w.heap.size,o,I⟩) rQ).trans (dn o);have oh:∀o,w2.frozen? ⟨w.heap.size,o,I⟩=_:=fun o=>(Hd.frozen (p:=⟨w.heap.size,o,I⟩) rQ).trans (pY o);have hB:Hid (Below w.heap.size w w2):=zT b1 Hd;clear Hd HH sN dn pY b1 rQ
   go_wp2_with fail
   refine bodyPost_ret (v:=ks #[ue #[B J 0,B J 0,B J 0,B J 0],B J 5]) ?_ rfl ⟨rfl,?_⟩
   ·simp[results,Tryz.results161,go_sem,tF]
   ·exact oJ.out _ (zp hB.out _ (M _) _ _ _ _)
  ·obtain⟨Hf,_⟩:=Pg.yiF.1 hh
   have e0:Pg.fnd L q=S (Pg.cut L (Pg.lkP q)):=by rw[kQ,hh];rfl
   have hC:Pg.yie L q r=0:=by simp[Pg.yie,Pg.yhI,gB,mQ,e0]
   have hM:Pg.yiV L q r=(L.getD (Pg.cut L (Pg.lkP q)) .zz).rts r:=by simp only[Pg.yiV,hC,if_true,Pg.at',e0]
   have hL:Pg.yir L q r=L.set (Pg.cut L (Pg.lkP q)) ((L.getD (Pg.cut L (Pg.lkP q)) .zz).rts r):=by simp only[Pg.yir,hC,if_true,e0]
   rw[hC,hM,hL];simp only[hh]at HH;clear HK hC hM hL e0 kQ hh;generalize Pg.cut L (Pg.lkP q)=j at*;obtain⟨g,cap,rfl,hg,bS,dV,si,ll⟩:=h.mp Hf;have gm:g≠b:=fun e=>h.nb (by rw[e];rfl)
   have HP:Hid (∀W,Below w.heap.size w W->W.frozen? ⟨g,j*4+3,I⟩=yS/\Dbk (W.setCell ⟨g,j*4+3,I⟩ (B J r)) b (R (S ⟨g,0,I⟩) L.length cap) (L.set j ((L.getD j .zz).rts r))):=by
    intro W hb;have hW:=h.grow hb;obtain⟨hl,wQ⟩:=hW.row;rcases wQ with ⟨e,_⟩|⟨g',cap',cur,e,_,fU,rO,tY,fT,dD⟩
    ·cases e
    ·cases e
     refine⟨by simp[yC,fU],?_⟩;have bT:=setCell_eq_setRow W g (j*4+3) cur _ _ (B J r) fU;have FC:b≠g:=fun e=>gm e.symm;refine⟨?_,fun o=> ?_,?_,hW.nb,ybp h.good Hf mQ⟩
     ·rw[bT,cell_setRow_other _ _ _ _ FC];exact hW.c0
     ·rw[bT,E (a:=⟨b,o,I⟩) (setRow_other _ _ _ _ FC)];exact hW.fb o
     ·rw[bT,yM,<-vU L j r Hf]
      refine⟨by rw[yM];exact hl,.inr ⟨g,cap,_,rfl,kh _,setRow_heap W g cur _ _ _ fU,rO,tY,by simpa using fT,?_⟩⟩;rw[Array.toList_setIfInBounds,List.take_set,dD]
   have HX:Hid _:=h;have rT:=h.c0;have rY:=h.lb;have Hg:=h.good.len
   have i0:(0:Int)<=(j:Int):=by omega
   have i1:(j:Int)<(L.length:Int):=by omega
   clear h;generalize L.set j ((L.getD j .zz).rts r)=L' at*;generalize L.getD j .zz=m at*;generalize L.length=n at*;obtain⟨mp,ms,mf,mr⟩:=m;simp only[Pg.Mp.val,Pg.Mp.rts]at*
   go_enter Tryz.func161,Tryz.ntmps161
   go_wp2_with fail
   refine(sN _).mono ?_;rintro e w1 ⟨rfl,Ha⟩;have b1:Below w.heap.size w w1:=zT (zA (zR _) _) Ha
   have rQ:w.heap.size<w1.heap.size:=by have:=Ha.size;simp at this;omega
   have dn:∀o,w1.cell? ⟨w.heap.size,o,I⟩=_:=fun o=>Ha.cell (p:=⟨w.heap.size,o,I⟩) (by simp);have pY:∀o,w1.frozen? ⟨w.heap.size,o,I⟩=_:=fun o=>Ha.frozen (p:=⟨w.heap.size,o,I⟩) (by simp);clear Ha
   go_wp2_with fail
   refine(HH _ b1).mono ?_;rintro e w2 ⟨rfl,Hd⟩;have tF:∀o,w2.cell? ⟨w.heap.size,o,I⟩=_:=fun o=>(Hd.cell (p:=⟨w.heap.size,o,I⟩) rQ).trans (dn o);have oh:∀o,w2.frozen? ⟨w.heap.size,o,I⟩=_:=fun o=>(Hd.frozen (p:=⟨w.heap.size,o,I⟩) rQ).trans (pY o);have gI:Below w.heap.size w w2:=zT b1 Hd;have c0:=cell_later gI rT;have m0:=cell_later gI bS;have m1:=cell_later gI dV;have m2:=cell_later gI si;have m3:=cell_later gI ll;obtain⟨fz,HD⟩:=HP.out w2 gI;have HD:Hid _:=HD;have hB:Hid _:=gI
   have n1:g≠w.heap.size:=by omega
   have n2:b≠w.heap.size:=by omega
   clear Hd HH sN dn pY b1 rQ gI rT bS dV si ll HP
   go_wp2_with fail
   refine bodyPost_ret (v:=ks #[ue #[B J mp,B J ms,B J mf,B J r],B J 0]) ?_ rfl ⟨rfl,?_⟩
   ·simp[results,Tryz.results161,go_sem,tF]
   ·have f1:qL (w2.setCell ⟨g,j*4+3,I⟩ (B J r)) b L' (bkF b (R (S ⟨g,0,I⟩) n cap)):=⟨_,HD.out,rfl⟩
    have f2:But (bkF b (R (S ⟨g,0,I⟩) n cap)) w (w2.setCell ⟨g,j*4+3,I⟩ (B J r)):=(But.yhp hB.out).setCell (a:=⟨g,j*4+3,I⟩) (.inr (.inr rfl)) _;have iY:=qm (But.refl (fun k=>k=w.heap.size) (w2.setCell ⟨g,j*4+3,I⟩ (B J r))) w.heap.size (.inr rfl) (B J mp) (B J ms) (B J mf) (B J r);refine⟨_,f1.keep iY (fun k hk=> ?_),f2.trans iY (fun i hi e=> ?_),fun k hk=> .inl hk⟩
    ·rcases hk with rfl|hk
     ·exact n2
     ·simp only[kO,Option.some.injEq]at hk
      omega
    ·omega
 ·rw[if_neg hc]at sN
  have hC:Pg.yie L q r=1:=by
   unfold Pg.yie Pg.yhI
   cases h1:Pg.below q 4096<;>cases h2:Pg.below r 8<;>simp_all
  have hM:Pg.yiV L q r= .zz:=by simp[Pg.yiV,hC]
  have oJ:Hid _:=fun w' hb=>HK.out w' hb (by rw[hC];decide);rw[hC,hM,show(.zz:Pg.Mp).val=ue #[B J 0,B J 0,B J 0,B J 0]from rfl];clear h HK hC hM hc;generalize Pg.yir L q r=L' at*
  go_enter Tryz.func161,Tryz.ntmps161
  go_wp2_with fail
  refine(sN _).mono ?_;rintro e w1 ⟨rfl,Ha⟩;have hr:∀o,w1.cell? ⟨w.heap.size,o,I⟩=_:=fun o=>Ha.cell (p:=⟨w.heap.size,o,I⟩) (by simp);have hf:∀o,w1.frozen? ⟨w.heap.size,o,I⟩=_:=fun o=>Ha.frozen (p:=⟨w.heap.size,o,I⟩) (by simp);have hB:Hid (Below w.heap.size w w1):=zT (zA (zR _) _) Ha;clear Ha sN
  go_wp2_with fail
  refine bodyPost_ret (v:=ks #[ue #[B J 0,B J 0,B J 0,B J 0],B J 1]) ?_ rfl ⟨rfl,?_⟩
  ·simp[results,Tryz.results161,go_sem,hr]
  ·exact oJ.out _ (zp hB.out _ (M _) _ _ _ _)
end
end Go.Proofs.YtdphiompijbelaaGreat
