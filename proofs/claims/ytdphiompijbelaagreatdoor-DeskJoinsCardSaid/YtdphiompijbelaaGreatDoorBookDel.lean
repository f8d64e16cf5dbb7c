import Derived.Test.YtdphiompijbelaaGreatDoorWalkI
import Derived.Lib.Overlaps
import Derived.Lib.SliceRun
import Derived.Shelf.RegionOpenPlain
import Derived.Deep.LoopGhost
set_option linter.all false
set_option maxRecDepth 100000
open Bool renaming true->kC,false->kX
open Nat renaming le_refl->kJ,zero_le->kS,le_of_not_lt->kH,min_eq_left->kG,min->ki,zero_add->kj
open Go.RowKit renaming Hid->H
open Go.World renaming block_lt_of_cell?->A,news_of_block->kV,frozen?->ky,shape?->kn
open Go renaming Value->K,World->D,cell_regrown->kB,Calls->kP,cell_later->kZ
open Go.Obj renaming cells->O
open Go.Ending renaming returned->Z
open Array renaming length_toList->Q,getElem?_eq_some_iff->M
open Go.Value renaming int->R,slice->Y,pointer->X,slice->kO,int->kK,ownBlock->kM,agg->kE,bool->kL,tuple->kW
open List renaming length_take->C,length_drop->T,length_append->U,size_toArray->E,take_of_length_le->kI,getElem?_take->kR,drop_eq_nil_of_le->kN,length_cons->kY,mem_of_mem_drop->kT,length_nil->kF,getElem?_drop->kQ,length_eq_zero_iff->kU,append_assoc->kD,getElem_mem->kA
open Go.IntKind renaming i64->S
open Option renaming some->J,none->B
open Go.Proofs.Tryz renaming prog->I
set_option maxHeartbeats 4000000
namespace Go.Proofs.YtdphiompijbelaaGreatDoor
open Go.RowKit
section
namespace Pg
def cmpI (x y:Int):Int:=if x<y then-1 else if y<x then 1 else 0
def lkP (q:Int) (x:Mp):Int:=if x.has q=kC then 0 else cmpI q x.p
def lkM (m x:Mp):Int:=if x.meets m=kC then 0 else cmpI m.p x.p
theorem ykW {x y:Int}:0<cmpI x y ↔ y<x:=by unfold cmpI;split<;>(try split)<;>omega
theorem yko {x y:Int}:cmpI x y=0 ↔ y=x:=by unfold cmpI;split<;>(try split)<;>omega
theorem yix {x:Mp} {q:Int}:x.has q=kC ↔ x.p<=q/\q-x.p<span x.s:=by simp[Mp.has,over]
theorem yig {a b:Mp}:a.meets b=kC ↔ (a.p<=b.p/\b.p-a.p<span a.s)\/(b.p<=a.p/\a.p-b.p<span b.s):=by
 unfold Mp.meets;rw[yki];simp
theorem ykg {q:Int} {x:Mp}:0<lkP q x ↔ x.p+span x.s<=q/\x.p<q:=by
 unfold lkP
 by_cases h:x.has q=kC
 ·rw[if_pos h]
  have:=yix.1 h;omega
 ·rw[if_neg h,ykW]
  have:¬(x.p<=q/\q-x.p<span x.s):=fun a=>h (yix.2 a);have:=(yhP x.s).1;omega
theorem yjD {m x:Mp}:0<lkM m x ↔ x.p+span x.s<=m.p/\x.p<m.p:=by
 unfold lkM
 by_cases h:x.meets m=kC
 ·rw[if_pos h]
  have:=yig.1 h;omega
 ·rw[if_neg h,ykW]
  have:¬((x.p<=m.p/\m.p-x.p<span x.s)\/(m.p<=x.p/\x.p-m.p<span m.s)):=fun a=>h (yig.2 a);have:=(yhP x.s).1;omega
theorem yji {x:Mp} (h:x.code=0):1<=span x.s:=by
 have:=(yhy h).1;have:=(yhP x.s).1;omega
theorem yk2 {q:Int} {x:Mp} (h:x.code=0):lkP q x=0 ↔ x.has q=kC:=by
 have hs:=yji h;unfold lkP
 by_cases e:x.has q=kC
 ·simp[e]
 ·rw[if_neg e,yko]
  constructor
  ·intro h;exact absurd (yix.2 ⟨by omega,by omega⟩) e
  ·intro h;exact absurd h e
theorem ykf {m x:Mp} (h:x.code=0):lkM m x=0 ↔ x.meets m=kC:=by
 have hs:=yji h;unfold lkM
 by_cases e:x.meets m=kC
 ·simp[e]
 ·rw[if_neg e,yko]
  constructor
  ·intro h;exact absurd (yig.2 (.inl ⟨by omega,by omega⟩)) e
  ·intro h;exact absurd h e
theorem Good.two {L:List Mp} (h:Good L) {i j:Nat} (hij:i<j) (hj:j<L.length):(L.getD i .zz).p+span (L.getD i .zz).s<=(L.getD j .zz).p/\(L.getD i .zz).p<(L.getD j .zz).p:=by
 have hp:=List.pairwise_iff_getElem.1 h.up i j (by omega) hj hij;rw[yiV (by omega),yiV hj];obtain⟨h1,h2⟩:=hp
 have h3:¬((L[i].p<=L[j].p/\L[j].p-L[i].p<span L[i].s)\/(L[j].p<=L[i].p/\L[i].p-L[j].p<span L[j].s)):=fun a=>by
  rw[yig.2 a]at h2;cases h2
 omega
theorem Good.at {L:List Mp} (h:Good L) {i:Nat} (hi:i<L.length):(L.getD i .zz).code=0:=by
 rw[yiV hi];exact h.ok _ (kA _)
def cut (L:List Mp) (lk:Mp->Int):Nat:=L.findIdx fun m=>decide (lk m<=0)
theorem ykq (L:List Mp) (lk:Mp->Int):cut L lk<=L.length:=List.findIdx_le_length
theorem yiH {L:List Mp} {lk:Mp->Int} {t:Nat} (h:t<cut L lk):0<lk (L.getD t .zz):=by
 have hl:=ykq L lk;have:=List.not_of_lt_findIdx h;rw[yiV (by omega)];simp at this;exact this
theorem ykX {L:List Mp} {lk:Mp->Int} (h:cut L lk<L.length):lk (L.getD (cut L lk) .zz)<=0:=by
 have h1:L.findIdx (fun m=>decide (lk m<=0))<L.length:=h;have h2:=List.findIdx_getElem (w:=h1);rw[yiV h];exact of_decide_eq_true h2
def ylO (L:List Mp) (lk:Mp->Int):Prop:=∀i j,i<j->j<L.length->0<lk (L.getD j .zz)->0<lk (L.getD i .zz)
theorem cut_behind {L:List Mp} {lk:Mp->Int} (hf:ylO L lk) {t:Nat} (h:cut L lk<=t) (ht:t<L.length):lk (L.getD t .zz)<=0:=by
 have h0:=ykX (L:=L) (lk:=lk) (by omega)
 by_cases e:cut L lk=t
 ·rw[<-e];exact h0
 ·have:=hf (cut L lk) t (by omega) ht
  omega
theorem Good.fallsP {L:List Mp} (h:Good L) (q:Int):ylO L (lkP q):=by
 intro i j hij hj hp;have:=h.two hij hj;rw[ykg]at hp ⊢;have:=(yhP (L.getD j .zz).s).1;omega
theorem Good.fallsM {L:List Mp} (h:Good L) (m:Mp):ylO L (lkM m):=by
 intro i j hij hj hp;have:=h.two hij hj;rw[yjD]at hp ⊢;have:=(yhP (L.getD j .zz).s).1;omega
def hit (L:List Mp) (lk:Mp->Int):Bool:=decide (cut L lk<L.length)&&(lk (L.getD (cut L lk) .zz)==0)
theorem yiI {L:List Mp} {lk:Mp->Int}:hit L lk=kC ↔ cut L lk<L.length/\lk (L.getD (cut L lk) .zz)=0:=by simp[hit]
theorem ykJ {L:List Mp} (h:Good L) (q:Int):fnd L q=if hit L (lkP q)=kC then J (cut L (lkP q))else B:=by
 split
 ·rename_i hh
  obtain⟨h1,h2⟩:=yiI.1 hh;refine fnd_of h1 ((yk2 (h.at h1)).1 h2) fun j hj=> ?_;have h3:=ykg.1 (yiH hj);cases e:(L.getD j .zz).has q
  ·rfl
  ·have:=yix.1 e;omega
 ·rename_i hh
  refine fnd_no fun j hj=> ?_;cases e:(L.getD j .zz).has q
  ·rfl
  ·exfalso
   have he:=yix.1 e
   have hc:cut L (lkP q)<=j:=by
    refine kH fun hlt=> ?_;have:=ykg.1 (yiH hlt);omega
   refine hh (yiI.2 ⟨by omega,?_⟩);have h0:=ykX (L:=L) (lk:=lkP q) (by omega);rw[yk2 (h.at (by omega))]
   by_cases e2:cut L (lkP q)=j
   ·rw[e2];exact e
   ·have:=h.two (i:=cut L (lkP q)) (j:=j) (by omega) hj
    have hn:¬0<lkP q (L.getD (cut L (lkP q)) .zz):=by omega
    rw[ykg]at hn;rw[yix];omega
theorem any_hit {L:List Mp} (h:Good L) {m:Mp} (hm:m.code=0):(L.any fun x=>x.meets m)=hit L (lkM m):=by
 have hs:=yji hm;cases hh:hit L (lkM m)
 ·rw[List.any_eq_false]
  intro x hx e;obtain⟨j,hj,rfl⟩:=List.mem_iff_getElem.1 hx;rw[<-yiV hj]at e;have he:=yig.1 e
  have hc:cut L (lkM m)<=j:=by
   refine kH fun hlt=> ?_;have:=yjD.1 (yiH hlt);omega
  have h0:=ykX (L:=L) (lk:=lkM m) (by omega)
  have:hit L (lkM m)=kC:=by
   refine yiI.2 ⟨by omega,?_⟩;rw[ykf (h.at (by omega))]
   by_cases e2:cut L (lkM m)=j
   ·rw[e2];exact e
   ·have:=h.two (i:=cut L (lkM m)) (j:=j) (by omega) hj
    have hn:¬0<lkM m (L.getD (cut L (lkM m)) .zz):=by omega
    rw[yjD]at hn;have s1:=yji (h.at (i:=cut L (lkM m)) (by omega));have s2:=yji (h.at hj);rw[yig];omega
  rw[hh]at this;cases this
 ·obtain⟨h1,h2⟩:=yiI.1 hh
  rw[List.any_eq_true];refine⟨L.getD (cut L (lkM m)) .zz,by rw[yiV h1];exact kA _,(ykf (h.at h1)).1 h2⟩
theorem ylT {m:Mp}:∀{L:List Mp} {k:Nat},k<=L.length->(∀t,t<k->¬m.p<(L.getD t .zz).p)->(k<L.length->m.p<(L.getD k .zz).p)->ins m L=L.take k++m::L.drop k
 | [],k,hk,_,_=>by
   have:k=0:=by simpa using hk
   subst this;rfl
 | x::r,0,_,_,h2=>by
   have:m.p<x.p:=by simpa using h2 (by simp)
   simp[ins,this]
 | x::r,k+1,hk,h1,h2=>by
   have h0:¬m.p<x.p:=by simpa using h1 0 (by omega)
   have:=ylT (m:=m) (L:=r) (k:=k) (by simpa using hk) (fun t ht=>by simpa using h1 (t+1) (by omega)) (fun h=>by simpa using h2 (by simpa using h));simp[ins,h0,this]
theorem ins_cut {L:List Mp} (h:Good L) {m:Mp} (hh:hit L (lkM m)=kX):ins m L=L.take (cut L (lkM m))++m::L.drop (cut L (lkM m)):=by
 refine ylT (ykq _ _) (fun t ht=> ?_) (fun hl=> ?_)
 ·have:=yjD.1 (yiH ht)
  omega
 ·have h0:=ykX (L:=L) (lk:=lkM m) hl
  have h1:¬lkM m (L.getD (cut L (lkM m)) .zz)=0:=fun e=>by
   rw[yiI.2 ⟨hl,e⟩]at hh;cases hh
  have h2:¬0<lkM m (L.getD (cut L (lkM m)) .zz):=by omega
  rw[ykf (h.at hl),yig]at h1;rw[yjD]at h2;have:=yji (h.at hl);omega
end Pg
open Go.RowKit Go.Sort
set_option linter.unusedVariables false
set_option maxRecDepth 100000
theorem ya5 {vb:K} {L:List Pg.Mp} (w:D) (hr:w.ownsRow 0 76 4 vb L.length (zC L)) (hlen:L.length<=4096):
 kP I 236 #[vb] w fun e w'=>∃v',e=Z v'/\w'.ownsRow w.heap.size 76 4 v' L.length (zC L)/\Below w.heap.size w w':=by
 have q58:∀(w:D) (a:Option Addr) (n c n' c':Nat),(binOp .eql 99 (Y a n c) (Y B n' c')).run I w= .ok (kL a.isNone) w:=fun w a n c n' c'=>Lib.run_eql_slice_nil w _ _ a n c n' c' Tryz.underlying99;rcases hr.2 with ⟨rfl,h0⟩|⟨g,cap,cur,rfl,_,hg,hrest⟩
 ·have hL:L=[]:=kU.1 h0
  subst hL;clear hr
  go_enter Tryz.func236,Tryz.ntmps236
  go_wp2_with fail
  go_ret
  exact⟨_,rfl,World.ownsRow_nil _ _ _ _,zR _⟩
 ·obtain⟨q0,hqi,hz0,hz1,hz2⟩:=info_parts jg
  have hcells:H _:=hr.cells (g:=g) rfl;have hgl:g<w.heap.size:=(M.1 hg).1;clear hr hg hrest
  go_enter Tryz.func236,Tryz.ntmps236
  go_wp2_with (at_builtin;refine wpList_append_own _ rfl _ _ 99 rfl w.heap.size 76 q0 _ 4 32 Tryz.underlying99 hqi hz0 hz1 hz2 rfl (by decide) _ _ _ rfl (World.ownsRow_made w #[] 0 (kJ _) (kS _) (by simp)) ⟨g,0,B⟩ L.length cap (zC L) rfl (xy L) ?c1 (qJ L) ?c3 ?c4 ?c5 ?_)
  case c1=>
   intro j u hj;have:=hcells.out j u hj;exact(Below.cell (p:=(⟨g,0,B⟩:Addr).add j) (zA (zR w) _) (A _ _ this)).trans this
  case c3=>unfold maxLen;omega
  case c4=>omega
  case c5=>simp
  intro v' w1 hown hgrow hnil
  have hown':H (w1.ownsRow w.heap.size 76 4 v' L.length (zC L)):=by simpa[H]using hown
  have hb:H (Below w.heap.size w w1):=((But.refl (fun _=>False) w).alloc _).grown hgrow (fun k hk=> .inl (by simp[kM]at hk;omega))|>.below (kJ _) (fun _ h=>h.elim);clear hown hgrow hnil
  go_wp2_with fail
  go_ret
  exact⟨v',rfl,hown'.out,hb.out⟩
theorem vr (x:Int) (w:D):kP I 295 #[R S x] w fun e w'=>e=Z (kL kX)/\w'=w:=by
 go_enter Tryz.func295,Tryz.ntmps295
 go_wp2
 go_ret
 exact⟨xJ (by simp),rfl⟩
theorem vd (x y:Int) (w:D):kP I 269 #[R S x,R S y] w fun e w'=>e=Z (R S (Pg.cmpI x y))/\w'=w:=by
 by_cases h1:x<y
 ·have HC:H (Pg.cmpI x y= -1):=by simp[H,Pg.cmpI,h1]
  go_enter Tryz.func269,Tryz.ntmps269
  go_wp2_with (go_at_call 295;refine(vr _ _).mono ?_;rintro e w' ⟨rfl,rfl⟩)
  go_ret
  exact⟨xm HC.out.symm,rfl⟩
 ·by_cases h2:y<x
  ·have HC:H (Pg.cmpI x y=1):=by simp[H,Pg.cmpI,h1,h2]
   go_enter Tryz.func269,Tryz.ntmps269
   go_wp2_with (go_at_call 295;refine(vr _ _).mono ?_;rintro e w' ⟨rfl,rfl⟩)
   go_ret
   exact⟨xm HC.out.symm,rfl⟩
  ·have HC:H (Pg.cmpI x y=0):=by simp[H,Pg.cmpI,h1,h2]
   go_enter Tryz.func269,Tryz.ntmps269
   go_wp2_with (go_at_call 295;refine(vr _ _).mono ?_;rintro e w' ⟨rfl,rfl⟩)
   go_ret
   exact⟨xm HC.out.symm,rfl⟩
theorem yeP (g:FuncId) (cb:Array K) (n k:Nat) (c:Nat->Int) (w:D) (eg:∀args w,(callFunc g args).run I w= .ok (.enter g args) w) (hn:n<=4096) (hk:k<=n)
 (h1:∀t,t<k->0<c t) (h2:∀t,k<=t->t<n->c t<=0)
 (hf:∀(i:Nat) (w':D),i<n->Below w.heap.size w w'->kP I g (#[R S i]++cb) w' fun e w''=>e=Z (R S (c i))/\Below w'.heap.size w' w''):
 kP I 293 #[R S n,.func (.func g) #[] cb] w fun e w'=>e=Z (kW #[R S k,kL (decide (k<n)&&(c k==0))])/\Below w.heap.size w w':=by
 have HF:H _:=hf;have H1:H _:=h1;have H2:H _:=h2;clear hf h1 h2
 go_enter Tryz.func293,Tryz.ntmps293
 go_wp2_with fail
 go_loopg [4,6] n (fun kx s4 s6 wr=>∃lo hi:Nat,s4=R S lo/\s6=R S hi/\lo<=k/\k<=hi/\hi<=n/\hi-lo<=kx/\H (Below w.heap.size w wr))
 case atStart=>exact⟨0,n,rfl,rfl,kS _,hk,kJ _,by omega,zR w⟩
 case round=>
  obtain⟨lo,hi,rfl,rfl,hlk,hkh,hhn,hm,HB⟩:=hrel
  by_cases hlt:lo<hi
  ·have hc:=HF.out ((lo+hi)/2) wr (by omega) HB.out
   rw[show(((lo+hi)/2:Nat):Int)=((lo:Int)+(hi:Int))/2 by omega]at hc;have h3:=H1.out ((lo+hi)/2);have h4:=H2.out ((lo+hi)/2);generalize c ((lo+hi)/2)=x at*
   by_cases hx:0<x
   ·have hlt2:(lo+hi)/2<k:=by omega
    clear h3 h4
    go_wp2_with (go_at_fn g;refine hc.mono ?_;rintro e w' ⟨rfl,hb⟩)
    go_roundg (hi-((lo+hi)/2+1))
    case measure=>omega
    case rel=>exact⟨(lo+hi)/2+1,hi,by rw[show((lo:Int)+(hi:Int))/2+1=(((lo+hi)/2+1:Nat):Int) by omega],rfl,by omega,hkh,hhn,kJ _,zT HB.out hb⟩
   ·have hle:k<=(lo+hi)/2:=by omega
    clear h3 h4
    go_wp2_with (go_at_fn g;refine hc.mono ?_;rintro e w' ⟨rfl,hb⟩)
    go_roundg ((lo+hi)/2-lo)
    case measure=>omega
    case rel=>exact⟨lo,(lo+hi)/2,rfl,by rw[show((lo:Int)+(hi:Int))/2=(((lo+hi)/2:Nat):Int) by omega],hlk,hle,by omega,kJ _,zT HB.out hb⟩
  ·have e1:lo=k:=by omega
   have e2:hi=k:=by omega
   subst e1 e2
   by_cases hkn:hi<n
   ·have hc:=HF.out hi wr hkn HB.out
    have HE:H (decide (hi<n)=kC):=by simp[H,hkn]
    go_wp2_with (go_at_fn g;refine hc.mono ?_;rintro e w' ⟨rfl,hb⟩)
    go_ret2
    exact⟨by rw[HE.out];rfl,zT HB.out hb⟩
   ·have HE:H (decide (hi<n)=kX):=by simp[H,hkn]
    go_wp2_with fail
    go_ret2
    exact⟨by rw[HE.out];rfl,HB.out⟩
theorem vX:∀args w,(callFunc 294 args).run I w= .ok (.enter 294 args) w:=fun args w=>by simp[go_sem]
structure Dbk (w:D) (b:Nat) (vb:K) (L:List Pg.Mp):Prop where
 c0:w.cell? ⟨b,0,B⟩=J vb
 fb:∀o,w.frozen? ⟨b,o,B⟩=kX
 row:w.ownsRow 0 76 4 vb L.length (zC L)
 nb:vb.ownBlock≠J b
 good:Pg.Good L
namespace Dbk
variable {w w':D} {b:Nat} {vb vb':K} {L L':List Pg.Mp}
theorem lb (h:Dbk w b vb L):b<w.heap.size:=A _ _ h.c0
theorem lt (h:Dbk w b vb L) {k:Nat} (hk:bkF b vb k):k<w.heap.size:=by
 rcases hk with rfl|hk
 ·exact h.lb
 ·exact(h.row.lt k hk).2
theorem keep (h:Dbk w b vb L) {F:Nat->Prop} (hb:But F w w') (hF:∀k,bkF b vb k->¬F k):Dbk w' b vb L:=by
 have kb:=hb.block b h.lb (hF b (.inl rfl));exact⟨(World.cell?_of_block kb).trans h.c0,fun o=>(World.frozen?_of_block kb).trans (h.fb o),zb h.row hb fun k hk=>hF k (.inr hk),h.nb,h.good⟩
theorem grow (h:Dbk w b vb L) (hb:Below w.heap.size w w'):Dbk w' b vb L:=h.keep (F:=fun _=>False) (But.yhl hb) (fun _ _=>id)
theorem mp (h:Dbk w b vb L) {j:Nat} (hj:j<L.length):∃g cap,vb=Y (J ⟨g,0,B⟩) L.length cap/\g<w.heap.size/\ybS w g (j*4) (L.getD j .zz):=by
 obtain⟨g,cap,rfl,_,hg⟩:=h.row.form (by omega);obtain⟨g',e,_,hm⟩:=jj h.row j hj;cases e;exact⟨g,cap,rfl,hg,hm⟩
end Dbk
theorem ycn {b bl bb:Nat} {vb:K} {L:List Pg.Mp} (f:FuncId) (cb:Array K) (lk:Pg.Mp->Int) (j:Nat) (w:D) (hD:Dbk w b vb L) (hj:j<L.length)
 (hl:w.cell? ⟨bl,0,B⟩=J (.func (.func f) #[] cb)) (hb:w.cell? ⟨bb,0,B⟩=J (X (J ⟨b,0,B⟩))) (ef:∀args w,(callFunc f args).run I w= .ok (.enter f args) w)
 (hf:∀(m:Pg.Mp) (w':D),Pg.fits m.p->Below w.heap.size w w'->kP I f (#[m.val]++cb) w' fun e w''=>e=Z (R S (lk m))/\Below w'.heap.size w' w''):
 kP I 294 #[R S j,X (J ⟨bl,0,B⟩),X (J ⟨bb,0,B⟩)] w fun e w'=>e=Z (R S (lk (L.getD j .zz)))/\Below w.heap.size w w':=by
 obtain⟨g,cap,rfl,hg,hm0,hm1,hm2,hm3⟩:=hD.mp hj;have hc0:=hD.c0;have hlen:=hD.good.len;have hfit:=(Pg.yjf (hD.good.at hj)).2.2.1
 have i0:(0:Int)<=(j:Int):=by omega
 have i1:(j:Int)<(L.length:Int):=by omega
 have HF:H _:=fun w' hb=>hf (L.getD j .zz) w' hfit hb;clear hf hD;generalize L.getD j .zz=m at*;generalize L.length=n at*;have hcall:∀d os,kP I f (#[m.val]++cb) (grow (redrawn w d) os) fun e w''=>e=Z (R S (lk m))/\Below (grow (redrawn w d) os).heap.size (grow (redrawn w d) os) w'':=fun d os=>HF.out _ (below_regrown w d os);obtain⟨mp,ms,mf,mr⟩:=m;simp only[Pg.Mp.val]at hcall;simp only at hm0 hm1 hm2 hm3;generalize lk ⟨mp,ms,mf,mr⟩=x at*;have C0:=kB hc0;have C1:=kB hl;have C2:=kB hb;have M0:=kB hm0;have M1:=kB hm1;have M2:=kB hm2;have M3:=kB hm3;clear hc0 hl hb hm0 hm1 hm2 hm3
 go_enter Tryz.func294,Tryz.ntmps294
 go_wp2_with fail
 refine wp_region_quiet_below (by kernel_rfl) (by kernel_rfl) ?_
 repeat' (first
  | go_big_quiet_step ((go_at_fn f;exact Calls.regrown_of (hcall _ _))))
 refine wpQuiet_nil ?_;intro _ hw';obtain⟨⟨dq,osq⟩,rfl⟩:=hw'
 go_wp2_with fail
 go_ret
 exact⟨rfl,below_regrown w dq osq⟩
theorem yaz {b:Nat} {vb:K} {L:List Pg.Mp} (f:FuncId) (cb:Array K) (lk:Pg.Mp->Int) (w:D) (hD:Dbk w b vb L) (hfall:Pg.ylO L lk) (ef:∀args w,(callFunc f args).run I w= .ok (.enter f args) w)
 (hf:∀(m:Pg.Mp) (w':D),Pg.fits m.p->Below w.heap.size w w'->kP I f (#[m.val]++cb) w' fun e w''=>e=Z (R S (lk m))/\Below w'.heap.size w' w''):
 kP I 266 #[X (J ⟨b,0,B⟩),.func (.func f) #[] cb] w fun e w'=>e=Z (kW #[R S (Pg.cut L lk),kL (Pg.hit L lk)])/\Below w.heap.size w w':=by
 have hc0:=hD.c0;have hlb:=hD.lb;have hlen:=hD.good.len;obtain⟨ad,cap,rfl⟩:=zF hD.row;obtain⟨W,hW⟩:∃W,W=(w.alloc (O #[X (J ⟨b,0,B⟩)] 149)).alloc (O #[.func (.func f) #[] cb] 185):=⟨_,rfl⟩
 have hB:Below w.heap.size w W:=by rw[hW];exact zA (zA (zR _) _) _
 have k0:W.cell? ⟨b,0,B⟩=J (Y ad L.length cap):=(hB.cell (p:=⟨b,0,B⟩) hlb).trans hc0
 have k1:W.cell? ⟨w.heap.size,0,B⟩=J (X (J ⟨b,0,B⟩)):=by rw[hW];simp[go_sem]
 have k2:W.cell? ⟨w.heap.size+1,0,B⟩=J (.func (.func f) #[] cb):=by rw[hW];simp[go_sem]
 have hDW:=hD.grow hB
 have HS:H _:=yeP 294 #[X (J ⟨w.heap.size+1,0,B⟩),X (J ⟨w.heap.size,0,B⟩)] L.length (Pg.cut L lk) (fun j=>lk (L.getD j .zz)) W vX hlen (Pg.ykq _ _) (fun t ht=>Pg.yiH ht) (fun t h1 h2=>Pg.cut_behind hfall h1 h2)
  (fun i w' hi hb=>ycn f cb lk i w' (hDW.grow hb) hi (kZ hb k2) (kZ hb k1) ef (fun m w'' hm hb'=>hf m w'' hm (zT (zT hB hb) hb')))
 have HB:H _:=hB;clear hf hfall hD hDW hB k0 k1 k2
 go_enter Tryz.func266,Tryz.ntmps266
 go_wp2_with fail
 rw[<-hW];refine Calls.mono HS.out ?_;rintro e w1 ⟨rfl,hb1⟩
 go_wp2_with fail
 go_ret2
 exact⟨rfl,zT HB.out hb1⟩
theorem ycd {bq:Nat} (q:Int) (hq:Pg.fits q) (m:Pg.Mp) (hm:Pg.fits m.p) (w:D) (hc:w.cell? ⟨bq,0,B⟩=J (R S q)):
 kP I 272 #[m.val,X (J ⟨bq,0,B⟩)] w fun e w'=>e=Z (R S (Pg.lkP q m))/\Below w.heap.size w w':=by
 obtain⟨p,s,f,r⟩:=m;have hbq:=A _ _ hc;have HL:H (Pg.lkP q ⟨p,s,f,r⟩=if Pg.over p s q=kC then 0 else Pg.cmpI q p):=rfl;simp only[Pg.Mp.val];cases h:Pg.over p s q
 ·go_enter Tryz.func272,Tryz.ntmps272
  go_wp2_with fail
  refine(qS _ _ _ _ _ hm hq _).mono ?_;rintro e w1 ⟨rfl,hb1⟩;rw[h];have hbx:Below w.heap.size w w1:=zT (zA (zR _) _) hb1;have c1:=kZ hbx hc;have c2:w1.cell? ⟨w.heap.size,0,B⟩=J (R S p):=(hb1.cell (p:=⟨w.heap.size,0,B⟩) (by simp)).trans (by simp[go_sem]);have HB:H _:=hbx;clear hb1 hbx
  go_wp2_with (go_at_call 269;refine(vd _ _ _).mono ?_;rintro e w' ⟨rfl,rfl⟩)
  go_ret
  exact⟨xm (by rw[HL.out,h];rfl),HB.out⟩
 ·go_enter Tryz.func272,Tryz.ntmps272
  go_wp2_with fail
  refine(qS _ _ _ _ _ hm hq _).mono ?_;rintro e w1 ⟨rfl,hb1⟩;rw[h];have HB:H (Below w.heap.size w w1):=zT (zA (zR _) _) hb1;clear hb1
  go_wp2_with fail
  go_ret
  exact⟨xm (by rw[HL.out,h];rfl),HB.out⟩
theorem ybr {bm:Nat} (m x:Pg.Mp) (hm:Pg.fits m.p) (hx:Pg.fits x.p) (w:D) (hc:ybS w bm 0 m):
 kP I 267 #[x.val,X (J ⟨bm,0,B⟩)] w fun e w'=>e=Z (R S (Pg.lkM m x))/\Below w.heap.size w w':=by
 obtain⟨p,s,f,r⟩:=x;obtain⟨p',s',f',r'⟩:=m;obtain⟨c0,c1,c2,c3⟩:=hc;simp only[kj]at c0 c1 c2 c3;have hbq:=A _ _ c0;have HL:H (Pg.lkM ⟨p',s',f',r'⟩ ⟨p,s,f,r⟩=if Pg.meet p s p' s'=kC then 0 else Pg.cmpI p' p):=rfl;simp only[Pg.Mp.val];cases h:Pg.meet p s p' s'
 ·go_enter Tryz.func267,Tryz.ntmps267
  go_wp2_with fail
  refine(yaW _ _ _ _ _ _ _ _ hx hm _).mono ?_;rintro e w1 ⟨rfl,hb1⟩;rw[h];have hbx:Below w.heap.size w w1:=zT (zA (zR _) _) hb1;have c1:=kZ hbx c0;have c2:w1.cell? ⟨w.heap.size,0,B⟩=J (R S p):=(hb1.cell (p:=⟨w.heap.size,0,B⟩) (by simp)).trans (by simp[go_sem]);have HB:H _:=hbx;clear hb1 hbx
  go_wp2_with (go_at_call 269;refine(vd _ _ _).mono ?_;rintro e w' ⟨rfl,rfl⟩)
  go_ret
  exact⟨xm (by rw[HL.out,h];rfl),HB.out⟩
 ·go_enter Tryz.func267,Tryz.ntmps267
  go_wp2_with fail
  refine(yaW _ _ _ _ _ _ _ _ hx hm _).mono ?_;rintro e w1 ⟨rfl,hb1⟩;rw[h];have HB:H (Below w.heap.size w w1):=zT (zA (zR _) _) hb1;clear hb1
  go_wp2_with fail
  go_ret
  exact⟨xm (by rw[HL.out,h];rfl),HB.out⟩
theorem jF {b:Nat} {vb:K} {L:List Pg.Mp} (q:Int) (hq:Pg.fits q) (w:D) (hD:Dbk w b vb L):
 kP I 234 #[X (J ⟨b,0,B⟩),R S q] w fun e w'=>e=Z (kW #[R S (Pg.cut L (Pg.lkP q)),kL (Pg.hit L (Pg.lkP q))])/\Below w.heap.size w w':=by
 obtain⟨W,hW⟩:∃W,W=w.alloc (O #[R S q] 3):=⟨_,rfl⟩
 have hB:Below w.heap.size w W:=by rw[hW];exact zA (zR _) _
 have k1:W.cell? ⟨w.heap.size,0,B⟩=J (R S q):=by rw[hW];simp[go_sem]
 have HS:H _:=yaz 272 #[X (J ⟨w.heap.size,0,B⟩)] (Pg.lkP q) W (hD.grow hB) (hD.good.fallsP q) (fun args w=>by simp[go_sem]) (fun m w' hm hb=>ycd q hq m hm w' (kZ hb k1));have HB:H _:=hB;clear hD hB k1
 go_enter Tryz.func234,Tryz.ntmps234
 go_wp2_with fail
 rw[<-hW];refine Calls.mono HS.out ?_;rintro e w1 ⟨rfl,hb1⟩
 go_wp2_with fail
 go_ret2
 exact⟨rfl,zT HB.out hb1⟩
theorem yck {b:Nat} {vb:K} {L:List Pg.Mp} (m:Pg.Mp) (hm:Pg.fits m.p) (w:D) (hD:Dbk w b vb L):
 kP I 232 #[X (J ⟨b,0,B⟩),m.val] w fun e w'=>e=Z (kW #[R S (Pg.cut L (Pg.lkM m)),kL (Pg.hit L (Pg.lkM m))])/\Below w.heap.size w w':=by
 obtain⟨W,hW⟩:∃W,W=w.alloc (O #[R S m.p,R S m.s,R S m.f,R S m.r] 76):=⟨_,rfl⟩
 have hB:Below w.heap.size w W:=by rw[hW];exact zA (zR _) _
 have k1:ybS W w.heap.size 0 m:=by rw[hW];exact⟨by simp[go_sem],by simp[go_sem],by simp[go_sem],by simp[go_sem]⟩
 have hlt:w.heap.size<W.heap.size:=by rw[hW];simp
 have HS:H _:=yaz 267 #[X (J ⟨w.heap.size,0,B⟩)] (Pg.lkM m) W (hD.grow hB) (hD.good.fallsM m) (fun args w=>by simp[go_sem]) (fun x w' hx hb=>ybr m x hm hx w' (k1.below hb hlt));have HB:H _:=hB;clear hD hB k1;obtain⟨mp,ms,mf,mr⟩:=m;simp only[Pg.Mp.val];simp only at hW
 go_enter Tryz.func232,Tryz.ntmps232
 go_wp2_with fail
 rw[<-hW];refine Calls.mono HS.out ?_;rintro e w1 ⟨rfl,hb1⟩
 go_wp2_with fail
 go_ret2
 exact⟨rfl,zT HB.out hb1⟩
end
section
open Go.Sort
theorem yfL:∀w,(Go.sizeOf 76).run I w= .ok 4 w:=fun w=>by
 obtain⟨q0,hqi,hz0,hz1,hz2⟩:=info_parts jg;simp[sizeOf,typeInfo,hqi,hz1]
theorem yaT {vb:K} {n V:Nat} {xs:List K} {a0 a1 a2 a3:K} {tV:TypeId} (w:D) (hr:w.ownsRow 0 76 4 vb n xs) (hn:n<=4096)
 (hV:w.heap[V]?=J (O #[a0,a1,a2,a3] tV)) (h1:∀u,u ∈ [a0,a1,a2,a3]->u.oneCell'=kC):
 kP I 233 #[vb,R S n,Y (J ⟨V,0,B⟩) 1 1] w fun e w'=>∃v',e=Z v'/\w'.ownsRow 0 76 4 v' (n+1) (xs++[a0,a1,a2,a3])/\But (fun j=>vb.ownBlock=J j) w w'/\∀j,v'.ownBlock=J j->vb.ownBlock=J j\/w.heap.size<=j:=by
 obtain⟨q0,hqi,hz0,hz1,hz2⟩:=info_parts jg;have hnews:=kV hV;have HN:H _:=hnews;obtain⟨ad,cap,hv⟩:=zF hr
 have hcap:n<=cap/\cap<=9223372036854775807:=by
  rcases hr.2 with ⟨e,e0⟩|⟨g,cap',cur,e,_,_,hc1,hc2,_⟩
  ·rw[hv]at e;cases e;exact⟨kJ _,by omega⟩
  ·rw[hv]at e;cases e;unfold maxLen at hc2;exact⟨hc1,by omega⟩
 obtain⟨hcap1,hcap2⟩:=hcap;have HR:H _:=hr;clear hr hV hnews;subst hv
 have Fin:∀{g cap':Nat} {w1:D},w1.ownsRow 0 76 4 (Y (J ⟨g,0,B⟩) (n+1) cap') (n+1) (xs++[a0,a1,a2,a3])->w.grownBy w1 (kO ad n cap).ownBlock->((kO ad n cap).ownBlock=J g\/g=w.heap.size)->
  ∃v',Ending.returned (Y (J ⟨g,0,B⟩) (n+1) cap')=Z v'/\w1.ownsRow 0 76 4 v' (n+1) (xs++[a0,a1,a2,a3])/\But (fun j=>(kO ad n cap).ownBlock=J j) w w1/\∀j,v'.ownBlock=J j->(kO ad n cap).ownBlock=J j\/w.heap.size<=j:=by
  intro g cap' w1 h1 h2 hat;refine⟨_,rfl,h1,(But.refl _ w).grown h2 (fun j hj=> .inr hj),fun j hj=> ?_⟩;simp only[kM,Option.some.injEq]at hj;subst hj;rcases hat with h|h
  ·exact .inl h
  ·exact .inr (by omega)
 have FIN:H _:= @Fin;clear Fin
 by_cases hcn:cap=n
 ·subst hcn
  go_enter Tryz.func233,Tryz.ntmps233
  go_wp2_with (at_builtin;refine wpList_append_lies _ rfl _ _ 99 rfl 0 76 q0 _ 4 32 Tryz.underlying99 hqi hz0 hz1 hz2 rfl (by decide) _ _ _ rfl HR.out ⟨V,0,B⟩ 1 1 [a0,a1,a2,a3] rfl rfl HN.out h1 (by decide) ?c3 ?c4 (kS _) w.heap.size rfl ?_)
  case c3=>unfold maxLen;omega
  case c4=>omega
  intro g cap' w1 hown hgrow hat hlt;have H1:H _:=FIN.out hown hgrow hat;clear hown hgrow hat hlt
  go_wp2_with fail
  go_ret
  exact H1.out
 ·have hcn':¬(n=cap):=fun e=>hcn e.symm
  go_enter Tryz.func233,Tryz.ntmps233
  go_wp2_with (at_builtin;refine wpList_append_lies _ rfl _ _ 99 rfl 0 76 q0 _ 4 32 Tryz.underlying99 hqi hz0 hz1 hz2 rfl (by decide) _ _ _ rfl HR.out ⟨V,0,B⟩ 1 1 [a0,a1,a2,a3] rfl rfl HN.out h1 (by decide) ?d3 ?d4 (kS _) w.heap.size rfl ?_)
  case d3=>unfold maxLen;omega
  case d4=>omega
  intro g cap' w1 hown hgrow hat hlt;have H1:H _:=FIN.out hown hgrow hat;clear hown hgrow hat hlt
  go_wp2_with fail
  go_ret
  exact H1.out
theorem yaa {g cap n k V:Nat} {cur:Array K} {xs:List K} {a0 a1 a2 a3:K} {tV:TypeId} (w:D) (hg:w.heap[g]?=J (O cur 76 (0,0))) (hn:n<=4096) (hk:k<n) (hroom:n+1<=cap) (hcap:cap<=9223372036854775807)
 (hcs:cur.size=cap*4) (hx:cur.toList.take (n*4)=xs) (h1x:∀u,u ∈ xs->u.oneCell'=kC)
 (hV:w.heap[V]?=J (O #[a0,a1,a2,a3] tV)) (hgV:V≠g) (h1:∀u,u ∈ [a0,a1,a2,a3]->u.oneCell'=kC):
 kP I 233 #[Y (J ⟨g,0,B⟩) n cap,R S k,Y (J ⟨V,0,B⟩) 1 1] w fun e w'=>e=Z (Y (J ⟨g,0,B⟩) (n+1) cap)/\
  w'.ownsRow 0 76 4 (Y (J ⟨g,0,B⟩) (n+1) cap) (n+1) (xs.take (k*4)++[a0,a1,a2,a3]++xs.drop (k*4))/\But (fun j=>j=g) w w':=by
 have hsz:(Tryz.prog.info? 76).map (·.size)=J 4:=by
  obtain⟨q0,hqi,hz0,hz1,hz2⟩:=info_parts jg;rw[hqi];simp[hz1]
 have hxl:xs.length=n*4:=by rw[<-hx,C,Q,hcs];omega
 have hov:∀lb cb o,(callFunc 270 #[Y (J ⟨V,0,B⟩) 1 1,Y (J ⟨g,o,B⟩) lb cb]).run I w= .ok (.value (kL kX)) w:=fun lb cb o=>by
  have hs1:w.shape? V=J (tV,4):=by simp[kn,hV]
  have hs2:w.shape? g=J (76,cur.size):=by simp[kn,hg]
  have hf1:w.frozen? ⟨V,0,B⟩=kX:=by simp[ky,hV]
  have hf2:w.frozen? ⟨V,4,B⟩=kX:=by simp[ky,hV]
  rw[run_callFunc_extern Tryz.func270 (by kernel_rfl) (by kernel_rfl) (by kernel_rfl) (e:=Extern.SlicesOverlaps.overlaps #[99,99] #[4]) (by kernel_rfl),
   Lib.run_overlaps_apart w 99 4 76 Tryz.underlying99 4 yfL ⟨V,0,B⟩ ⟨g,o,B⟩ 1 1 lb cb hgV tV 76 4 cur.size hs1 hs2 (by omega) hf1 hf2]
  rfl
 have hz2:¬((k:Int)=(n:Int)):=by omega
 have hw1:IntKind.i64.wrap ((k:Int)+1)=(k:Int)+1:=by rw[IntKind.wrap_i64];omega
 have htn:((k:Int)+1).toNat=k+1:=by omega
 have hb1:(0:Int)<=(k:Int)+1:=by omega
 have hb2:¬(cap=k+1):=by omega
 have hb4:¬(cap=k):=by omega
 have hkn:k<=n:=by omega
 have hb3:(k:Int)<=(n:Int)+1:=by omega
 have hdl:(xs.drop (k*4)).length=(n-k)*4:=by rw[T,hxl];omega
 have hcx:∀j u,xs[j]?=J u->w.cell? ⟨g,j,B⟩=J u:=fun j u hu=>by
  rw[cell_of_row w g j cur _ _ hg];rw[<-hx,kR]at hu;split at hu
  ·simpa using hu
  ·cases hu
 obtain⟨C1,hC1⟩:∃C1:List K,C1=cur.toList.take ((k+1)*4)++xs.drop (k*4)++cur.toList.drop ((k+1)*4+(xs.drop (k*4)).length):=⟨_,rfl⟩
 have hC1l:C1.length=cap*4:=by rw[hC1];simp only[U,C,T,Q,hcs,hxl];omega
 obtain⟨W1,hW1⟩:∃W1,W1=w.drew.setRow g C1.toArray:=⟨_,rfl⟩
 have hcp1:∀ty o o' dl dc sl sc,o=(k+1)*4->o'=k*4->dl=n-k->sl=n+1-k->(Builtin.copy_ #[99,99] ty #[Y (J ⟨g,o,B⟩) dl dc,Y (J ⟨g,o',B⟩) sl sc]).run I w.drew= .ok (goInt (n-k:Nat)) W1:=by
  intro ty o o' dl dc sl sc e1 e2 e3 e4;subst e1 e2 e3 e4;have hm:ki (n+1-k) (n-k)=n-k:=Nat.min_eq_right (by omega)
  have:=xK (P:=I) w.drew 99 99 ty 76 4 g ((k+1)*4) (n-k) dc ⟨g,k*4,B⟩ (n+1-k) sc cur 76 (xs.drop (k*4)) Tryz.underlying99 hsz hg (by rw[hm,hdl])
   (fun j u hj=>by rw[Addr.add_lit];exact hcx (k*4+j) u (by rwa [kQ]at hj)) (by rw[hdl,hcs];omega) (fun u hu=>h1x u (kT hu))
  rw[hm,<-hC1,<-hW1]at this;exact this
 have hg1:W1.heap[g]?=J (O C1.toArray 76 (0,0)):=by rw[hW1];exact setRow_heap w.drew g cur _ _ _ hg
 have hV1:W1.heap[V]?=J (O #[a0,a1,a2,a3] tV):=by rw[hW1,setRow_other _ _ _ _ hgV];exact hV
 have hB1:But (fun j=>j=g) w W1:=by rw[hW1];exact(But.refl (fun j=>j=g) w).drew.setRow (.inr rfl) _
 obtain⟨W2,hW2⟩:∃W2,W2=W1.setRow g (C1.take (k*4)++[a0,a1,a2,a3]++C1.drop (k*4+4)).toArray:=⟨_,rfl⟩
 have hcp2:∀ty o dl dc,o=k*4->dl=n+1-k->(Builtin.copy_ #[99,99] ty #[Y (J ⟨g,o,B⟩) dl dc,Y (J ⟨V,0,B⟩) 1 1]).run I W1= .ok (goInt 1) W2:=by
  intro ty o dl dc e1 e2;subst e1 e2;have hm:ki 1 (n+1-k)=1:=kG (by omega)
  have:=xK (P:=I) W1 99 99 ty 76 4 g (k*4) (n+1-k) dc ⟨V,0,B⟩ 1 1 C1.toArray 76 [a0,a1,a2,a3] Tryz.underlying99 hsz hg1 (by rw[hm];rfl)
   (kV hV1) (by simp[hC1l];omega) h1
  rw[hm]at this;rw[this,hW2];rfl
 have hg2:W2.heap[g]?=J (O (C1.take (k*4)++[a0,a1,a2,a3]++C1.drop (k*4+4)).toArray 76 (0,0)):=by rw[hW2];exact setRow_heap W1 g _ _ _ _ hg1
 have HB:H (But (fun j=>j=g) w W2):=by rw[hW2];exact hB1.setRow (.inr rfl) _
 have HO:H (W2.ownsRow 0 76 4 (Y (J ⟨g,0,B⟩) (n+1) cap) (n+1) (xs.take (k*4)++[a0,a1,a2,a3]++xs.drop (k*4))):=by
  have e:=ydp (c:=cur.toList) (xs:=xs) (news:=[a0,a1,a2,a3]) (z:=4) (n:=n) (k:=k) hkn (by rw[Q,hcs];omega) hx rfl;simp only[<-hC1]at e;refine⟨by rw[<-e];simp only[C,U,T,hC1l,kY,kF];omega,.inr ⟨g,cap,_,rfl,kS _,hg2,hroom,by unfold maxLen;omega,?_,?_⟩⟩
  ·simp only[E,C,U,T,hC1l,kY,kF];omega
  ·exact e
 clear hg hx h1x hV h1 hcx hC1 hC1l hW1 hg1 hV1 hB1 hW2 hg2 hcs hxl hdl
 go_enter Tryz.func233,Tryz.ntmps233
 go_wp2_with (simp only[hov])
 go_region_law (refine qM rfl _ _ 99 99 rfl _ _ (by simp[Act.eval,Act.put]) (by simp[Act.eval,Act.put]) (hcp1 _ _ _ _ _ _ _ (by omega) (by omega) (by omega) (by omega)) ?_)
 go_wp2_with (at_builtin;refine qp _ rfl _ _ 99 99 rfl _ _ rfl rfl (hcp2 _ _ _ _ (by omega) (by omega)) ?_)
 go_ret
 exact⟨rfl,HO.out,HB.out⟩
theorem vZ {g cap n k V:Nat} {cur:Array K} {xs:List K} {a0 a1 a2 a3:K} {tV:TypeId} (w:D) (hg:w.heap[g]?=J (O cur 76 (0,0))) (hn:n<=4096) (hk:k<n) (hroom:cap<n+1) (hcap:n<=cap)
 (hcs:cur.size=cap*4) (hx:cur.toList.take (n*4)=xs) (h1x:∀u,u ∈ xs->u.oneCell'=kC)
 (hV:w.heap[V]?=J (O #[a0,a1,a2,a3] tV)) (h1:∀u,u ∈ [a0,a1,a2,a3]->u.oneCell'=kC):
 kP I 233 #[Y (J ⟨g,0,B⟩) n cap,R S k,Y (J ⟨V,0,B⟩) 1 1] w fun e w'=>∃G,e=Z (Y (J ⟨w.heap.size,0,B⟩) (n+1) G)/\
  w'.ownsRow 0 76 4 (Y (J ⟨w.heap.size,0,B⟩) (n+1) G) (n+1) (xs.take (k*4)++[a0,a1,a2,a3]++xs.drop (k*4))/\But (fun j=>j=g) w w':=by
 obtain⟨q0,hqi,hz0,hzz1,hzz2⟩:=info_parts jg
 have hsz:(Tryz.prog.info? 76).map (·.size)=J 4:=by rw[hqi];simp[hzz1]
 have hcn:cap=n:=by omega
 subst hcn
 have hxl:xs.length=cap*4:=by rw[<-hx,C,Q,hcs];omega
 have hgw:g<w.heap.size:=(M.1 hg).1;have hVw:V<w.heap.size:=(M.1 hV).1
 have hz2:¬((k:Int)=(cap:Int)):=by omega
 have hw1:IntKind.i64.wrap ((k:Int)+1)=(k:Int)+1:=by rw[IntKind.wrap_i64];omega
 have htn:((k:Int)+1).toNat=k+1:=by omega
 have hb1:(0:Int)<=(k:Int)+1:=by omega
 have hb4:¬(cap=k):=by omega
 have hkn:k<=cap:=by omega
 have hb3:(k:Int)<=(cap:Int)+1:=by omega
 have hb5:(k:Int)<=(cap:Int):=by omega
 have hdl:(xs.drop (k*4)).length=(cap-k)*4:=by rw[T,hxl];omega
 have hcx:∀j u,xs[j]?=J u->w.cell? ⟨g,j,B⟩=J u:=fun j u hu=>by
  rw[cell_of_row w g j cur _ _ hg];rw[<-hx,kR]at hu;split at hu
  ·simpa using hu
  ·cases hu
 obtain⟨G,hG⟩:∃G,G=grownCap w (cap+1) cap 76:=⟨_,rfl⟩
 have hG1:cap+1<=G:=by rw[hG];exact grownCap_ge w _ _ _
 have hG2:G<=9223372036854775807:=by
  have:=grownCap_le_maxLen w (cap+1) cap 76 (by unfold maxLen;omega);rw[<-hG]at this;unfold maxLen at this;omega
 obtain⟨ROW,hROW⟩:∃ROW:Array K,ROW=(xs.take (k*4)).toArray++Builtin.zeroCells (kE #[R S 0,R S 0,R S 0,R S 0]).cells (cap+1-k)++Builtin.zeroCells (kE #[R S 0,R S 0,R S 0,R S 0]).cells (G-(cap+1)):=⟨_,rfl⟩;have hzc:(kE #[R S 0,R S 0,R S 0,R S 0]).cells.size=4:=rfl
 have hRs:ROW.size=G*4:=by
  rw[hROW];simp only[Array.size_append,size_zeroCells,hzc,E,C,hxl];omega
 have hRt:ROW.toList.take (k*4)=xs.take (k*4):=by
  rw[hROW];simp only[Array.toList_append,kD];rw[List.take_append_of_le_length (by simp only[C,hxl];omega),kI (by simp only[C];omega)]
 obtain⟨W1,hW1⟩:∃W1,W1=w.drew.alloc (O ROW 76):=⟨_,rfl⟩
 have hold:(Builtin.firstCells q0.size k (Y (J ⟨g,0,B⟩) k cap)).run I w.drew= .ok (xs.take (k*4)).toArray w.drew:=by
  rw[hzz1]
  exact run_firstCells_some w.drew 4 k ⟨g,0,B⟩ k cap (xs.take (k*4)) (by rw[C];omega) (fun j v hj=>by
   rw[Addr.add_lit,kj];rw[kR]at hj;split at hj
   ·exact hcx j v hj
   ·cases hj)
 have hik:k+(cap+1-k)=cap+1:=by omega
 have hrz:∀ty N,N=((cap+1-k:Nat):Int)->(Builtin.append_ #[99,3] ty #[Y (J ⟨g,0,B⟩) k cap,R S N]).run I w= .ok (Y (J ⟨w.heap.size,0,B⟩) (cap+1) G) W1:=by
  intro ty N hN;have h:=Lib.run_append_grow_zeros w 99 3 ty 76 q0 _ S S Tryz.underlying99 Tryz.underlying3 hqi hz0 (J ⟨g,0,B⟩) k cap (xs.take (k*4)) hold (cap+1-k) (by omega) (by omega) (by omega) (by omega) (by rw[hzz2];omega) (by rw[hzz2,hik];exact growslice_fits hroom (by omega));rw[hik,<-hG,<-hROW,<-hW1]at h;rw[hN];exact h
 have hg1:W1.heap[w.heap.size]?=J (O ROW 76 (0,0)):=by rw[hW1];exact heap_alloc_new w.drew _
 have hV1:W1.heap[V]?=J (O #[a0,a1,a2,a3] tV):=by rw[hW1,Below.heap_alloc w.drew _ _ hVw];exact hV
 have ho1:W1.heap[g]?=J (O cur 76 (0,0)):=by rw[hW1,Below.heap_alloc w.drew _ _ hgw];exact hg
 have hB1:But (fun j=>j=g) w W1:=by rw[hW1];exact(But.refl (fun j=>j=g) w).drew.alloc _
 obtain⟨C1,hC1⟩:∃C1:List K,C1=ROW.toList.take (k*4)++[a0,a1,a2,a3]++ROW.toList.drop (k*4+4):=⟨_,rfl⟩
 have hC1l:C1.length=G*4:=by rw[hC1];simp only[U,C,T,Q,hRs,kY,kF];omega
 obtain⟨W2,hW2⟩:∃W2,W2=W1.setRow w.heap.size C1.toArray:=⟨_,rfl⟩
 have hcp1:∀ty o dl dc,o=k*4->dl=cap+1-k->(Builtin.copy_ #[99,99] ty #[Y (J ⟨w.heap.size,o,B⟩) dl dc,Y (J ⟨V,0,B⟩) 1 1]).run I W1= .ok (goInt 1) W2:=by
  intro ty o dl dc e1 e2;subst e1 e2;have hm:ki 1 (cap+1-k)=1:=kG (by omega)
  have:=xK (P:=I) W1 99 99 ty 76 4 w.heap.size (k*4) (cap+1-k) dc ⟨V,0,B⟩ 1 1 ROW 76 [a0,a1,a2,a3] Tryz.underlying99 hsz hg1 (by rw[hm];rfl)
   (kV hV1) (by simp[hRs];omega) h1
  rw[hm]at this;rw[this,hW2,hC1];rfl
 have hg2:W2.heap[w.heap.size]?=J (O C1.toArray 76 (0,0)):=by rw[hW2];exact setRow_heap W1 w.heap.size _ _ _ _ hg1
 have ho2:W2.heap[g]?=J (O cur 76 (0,0)):=by rw[hW2,setRow_other _ _ _ _ (by omega)];exact ho1
 have hB2:But (fun j=>j=g) w W2:=by rw[hW2];exact hB1.setRow (.inl (kJ _)) _
 have hcx2:∀j u,xs[j]?=J u->W2.drew.cell? ⟨g,j,B⟩=J u:=fun j u hu=>by
  rw[cell_of_row W2.drew g j cur _ _ ho2,<-cell_of_row w g j cur _ _ hg];exact hcx j u hu
 obtain⟨W3,hW3⟩:∃W3,W3=W2.drew.setRow w.heap.size (C1.take ((k+1)*4)++xs.drop (k*4)++C1.drop ((k+1)*4+(xs.drop (k*4)).length)).toArray:=⟨_,rfl⟩
 have hcp2:∀ty o o' dl dc sl sc,o=(k+1)*4->o'=k*4->dl=cap-k->sl=cap-k->(Builtin.copy_ #[99,99] ty #[Y (J ⟨w.heap.size,o,B⟩) dl dc,Y (J ⟨g,o',B⟩) sl sc]).run I W2.drew= .ok (goInt (cap-k:Nat)) W3:=by
  intro ty o o' dl dc sl sc e1 e2 e3 e4;subst e1 e2 e3 e4;have hm:ki (cap-k) (cap-k)=cap-k:=Nat.min_self _
  have:=xK (P:=I) W2.drew 99 99 ty 76 4 w.heap.size ((k+1)*4) (cap-k) dc ⟨g,k*4,B⟩ (cap-k) sc C1.toArray 76 (xs.drop (k*4)) Tryz.underlying99 hsz hg2 (by rw[hm,hdl])
   (fun j u hj=>by rw[Addr.add_lit];exact hcx2 (k*4+j) u (by rwa [kQ]at hj)) (by simp only[E,hdl,hC1l];omega) (fun u hu=>h1x u (kT hu))
  rw[hm]at this;rw[this,hW3]
 have hg3:W3.heap[w.heap.size]?=J (O (C1.take ((k+1)*4)++xs.drop (k*4)++C1.drop ((k+1)*4+(xs.drop (k*4)).length)).toArray 76 (0,0)):=by rw[hW3];exact setRow_heap W2.drew w.heap.size _ _ _ _ hg2
 have HB:H (But (fun j=>j=g) w W3):=by rw[hW3];exact hB2.drew.setRow (.inl (kJ _)) _
 have HO:H (W3.ownsRow 0 76 4 (Y (J ⟨w.heap.size,0,B⟩) (cap+1) G) (cap+1) (xs.take (k*4)++[a0,a1,a2,a3]++xs.drop (k*4))):=by
  have e:=ydo (c:=ROW.toList) (xs:=xs) (news:=[a0,a1,a2,a3]) (z:=4) (n:=cap) (k:=k) hkn (by rw[Q,hRs];omega) hRt hxl rfl;rw[show k*4+[a0,a1,a2,a3].length=k*4+4 from rfl]at e;simp only[<-hC1]at e;refine⟨by rw[<-e];simp only[C,U,T,hC1l,hxl];omega,.inr ⟨w.heap.size,G,_,rfl,kS _,hg3,hG1,by unfold maxLen;omega,?_,?_⟩⟩
  ·simp only[E,C,U,T,hC1l,hxl];omega
  ·exact e
 have hbG:¬(G=k):=by omega
 have hbG1:¬(G=k+1):=by omega
 have hN:IntKind.i64.wrap ((cap:Int)+1-(k:Int))=(cap:Int)+1-(k:Int):=by rw[IntKind.wrap_i64];omega
 clear hg hx h1x hV h1 hcx hC1 hC1l hW1 hg1 hV1 hB1 hW2 hg2 hcs hxl hdl hROW hRs hRt hold hqi hz0 hzz1 hzz2 hG ho1 ho2 hcx2 hB2 hW3 hg3 hzc
 go_enter Tryz.func233,Tryz.ntmps233
 go_wp2_with (first
  | (at_builtin;refine Lib.wpList_append_run _ rfl _ _ 99 3 rfl _ _ rfl rfl _ _ (hrz _ _ (by omega)) ?_)
  | (at_builtin;refine qp _ rfl _ _ 99 99 rfl _ _ rfl rfl (hcp1 _ _ _ _ (by omega) (by omega)) ?_))
 go_region_law (refine qM rfl _ _ 99 99 rfl _ _ (by simp[Act.eval,Act.put]) (by simp[Act.eval,Act.put]) (hcp2 _ _ _ _ _ _ _ (by omega) (by omega) (by omega) (by omega)) ?_)
 go_wp2_with fail
 go_ret
 exact⟨G,rfl,HO.out,HB.out⟩
theorem ydh {vb:K} {k V:Nat} {L:List Pg.Mp} {m:Pg.Mp} {tV:TypeId} (w:D) (hr:w.ownsRow 0 76 4 vb L.length (zC L)) (hn:L.length<=4096) (hk:k<=L.length)
 (hV:w.heap[V]?=J (O #[R S m.p,R S m.s,R S m.f,R S m.r] tV)) (hvV:vb.ownBlock≠J V):
 kP I 233 #[vb,R S k,Y (J ⟨V,0,B⟩) 1 1] w fun e w'=>∃v',e=Z v'/\w'.ownsRow 0 76 4 v' (L.length+1) (zC (L.take k++m::L.drop k))/\But (fun j=>vb.ownBlock=J j) w w'/\∀j,v'.ownBlock=J j->vb.ownBlock=J j\/w.heap.size<=j:=by
 have h1:∀u,u ∈ [kK S m.p,R S m.s,R S m.f,R S m.r]->u.oneCell'=kC:=by
  intro u hu;simp at hu
  rcases hu with rfl|rfl|rfl|rfl<;>rfl
 have hcut:∀j,(zC L).take (j*4)=zC (L.take j)/\(zC L).drop (j*4)=zC (L.drop j):=by
  intro j
  by_cases hj:j<=L.length
  ·have e:zC L=zC (L.take j)++zC (L.drop j):=by rw[<-zH,List.take_append_drop]
   have hl:(zC (L.take j)).length=j*4:=by rw[xy,C];congr 1;omega
   exact⟨by rw[e,List.take_left' hl],by rw[e,List.drop_left' hl]⟩
  ·have hl:=xy L
   rw[kI (by omega),kI (l:=L) (by omega),kN (by omega),kN (show L.length<=j by omega)];exact⟨rfl,rfl⟩
 have hm:zC (L.take k++m::L.drop k)=(zC L).take (k*4)++[kK S m.p,R S m.s,R S m.f,R S m.r]++(zC L).drop (k*4):=by
  rw[(hcut k).1,(hcut k).2,<-vw m,<-zH,<-zH,kD];rfl
 rw[hm]
 by_cases hkn:k=L.length
 ·subst hkn
  have hl:=xy L;rw[kI (by omega),kN (by omega),List.append_nil];exact yaT w hr hn hV h1
 ·obtain⟨_,hrr⟩:=hr
  rcases hrr with ⟨_,e0⟩|⟨g,cap,cur,rfl,_,hg,hc1,hc2,hc3,hc4⟩
  ·omega
  ·have hgV:V≠g:=fun e=>hvV (by rw[e];rfl)
   have hx1:=qJ L;have hlt:g<w.heap.size:=(M.1 hg).1
   by_cases hroom:L.length+1<=cap
   ·refine(yaa w hg hn (by omega) hroom (by unfold maxLen at hc2;omega) hc3 hc4 hx1 hV hgV h1).mono ?_
    rintro e w' ⟨rfl,h2,h3⟩;refine⟨_,rfl,h2,h3.mono fun i _ hi=>by rw[hi];rfl,fun j hj=> .inl hj⟩
   ·refine(vZ w hg hn (by omega) (by omega) hc1 hc3 hc4 hx1 hV h1).mono ?_
    rintro e w' ⟨G,rfl,h2,h3⟩;refine⟨_,rfl,h2,h3.mono fun i _ hi=>by rw[hi];rfl,fun j hj=> .inr ?_⟩;simp only[kM,Option.some.injEq]at hj;omega
theorem yc3 {g cap n k:Nat} {cur:Array K} {xs:List K} (w:D) (hg:w.heap[g]?=J (O cur 76 (0,0))) (hn:n<=4096) (hk:k<n) (hcap0:n<=cap) (hcap:cap<=9223372036854775807)
 (hcs:cur.size=cap*4) (hx:cur.toList.take (n*4)=xs) (h1x:∀u,u ∈ xs->u.oneCell'=kC):
 kP I 235 #[Y (J ⟨g,0,B⟩) n cap,R S k,R S (k+1)] w fun e w'=>e=Z (Y (J ⟨g,0,B⟩) (n-1) cap)/\
  w'.ownsRow 0 76 4 (Y (J ⟨g,0,B⟩) (n-1) cap) (n-1) (xs.take (k*4)++xs.drop ((k+1)*4))/\But (fun j=>j=g) w w':=by
 obtain⟨q0,hqi,hz0,hzz1,hzz2⟩:=info_parts jg
 have hxl:xs.length=n*4:=by rw[<-hx,C,Q,hcs];omega
 have hdl:(xs.drop ((k+1)*4)).length=(n-(k+1))*4:=by rw[T,hxl];omega
 have hcx:∀j u,xs[j]?=J u->w.drew.cell? ⟨g,j,B⟩=J u:=fun j u hu=>by
  rw[cell_of_row w.drew g j cur _ _ hg];rw[<-hx,kR]at hu;split at hu
  ·simpa using hu
  ·cases hu
 obtain⟨C1,hC1⟩:∃C1:List K,C1=cur.toList.take (k*4)++xs.drop ((k+1)*4)++cur.toList.drop (k*4+(xs.drop ((k+1)*4)).length):=⟨_,rfl⟩
 have hC1l:C1.length=cap*4:=by rw[hC1];simp only[U,C,T,Q,hcs,hxl];omega
 obtain⟨W1,hW1⟩:∃W1,W1=w.drew.setRow g C1.toArray:=⟨_,rfl⟩
 have hap:∀ty o l c,l=n-(k+1)->(o=(k+1)*4\/n=k+1)->(Builtin.append_ #[99,99] ty #[Y (J ⟨g,0,B⟩) k cap,Y (J ⟨g,o,B⟩) l c]).run I w.drew= .ok (Y (J ⟨g,0,B⟩) (n-1) cap) W1:=by
  intro ty o l c hl ho;subst hl
  have:=run_append_room (P:=I) w.drew 99 ty 76 q0 Tryz.underlying99 hqi g k cap cur hg ⟨g,o,B⟩ (n-(k+1)) c (xs.drop ((k+1)*4)) (by rw[hdl,hzz1])
   (fun j u hj=>by
     rcases ho with rfl|ho
     ·rw[Addr.add_lit];exact hcx ((k+1)*4+j) u (by rwa [kQ]at hj)
     ·have h0:(xs.drop ((k+1)*4)).length=0:=by rw[hdl];omega
      rw[kU.1 h0]at hj
      simp at hj) (fun u hu=>h1x u (kT hu)) (by omega) (by rw[hdl,hzz1,hcs];omega)
  rw[hzz1,<-hC1,<-hW1,show k+(n-(k+1))=n-1 by omega]at this;exact this
 have hg1:W1.heap[g]?=J (O C1.toArray 76 (0,0)):=by rw[hW1];exact setRow_heap w.drew g cur _ _ _ hg
 have hB1:But (fun j=>j=g) w W1:=by rw[hW1];exact(But.refl (fun j=>j=g) w).drew.setRow (.inr rfl) _
 obtain⟨W2,hW2⟩:∃W2,W2=W1.setRow g (C1.take ((n-1)*4)++[kK S 0,R S 0,R S 0,R S 0]++C1.drop ((n-1)*4+4)).toArray:=⟨_,rfl⟩
 have hclr:∀ty o l c,o=(n-1)*4->l=1->(Builtin.clear_ #[99] ty #[Y (J ⟨g,o,B⟩) l c]).run I W1= .ok (kW #[]) W2:=by
  intro ty o l c ho hl;subst ho hl
  have hzl:(Builtin.zeroCells (kE #[R S 0,R S 0,R S 0,R S 0]).cells 1).toList=[R S 0,R S 0,R S 0,R S 0]:=by kernel_rfl
  have hv:∀w,(zeroValue 76).run I w= .ok (.agg #[R S 0,R S 0,R S 0,R S 0]) w:=fun w=>by simp[zeroValue,typeInfo,hqi,hz0]
  have:=xX (P:=I) W1 99 76 ty 76 _ Tryz.underlying99 hv g ((n-1)*4) 1 c (by decide) C1.toArray hg1 (by
   show(n-1)*4+1*4<=C1.toArray.size
   simp only[E,hC1l]
   omega) (by rw[hzl];decide)
  rw[hzl]at this;rw[this,hW2];rfl
 have hg2:W2.heap[g]?=J (O (C1.take ((n-1)*4)++[kK S 0,R S 0,R S 0,R S 0]++C1.drop ((n-1)*4+4)).toArray 76 (0,0)):=by rw[hW2];exact setRow_heap W1 g _ _ _ _ hg1
 have HB:H (But (fun j=>j=g) w W2):=by rw[hW2];exact hB1.setRow (.inr rfl) _
 have HO:H (W2.ownsRow 0 76 4 (Y (J ⟨g,0,B⟩) (n-1) cap) (n-1) (xs.take (k*4)++xs.drop ((k+1)*4))):=by
  have e:=ycI (c:=cur.toList) (xs:=xs) (zs:=[kK S 0,R S 0,R S 0,R S 0]) (z:=4) (n:=n) (k:=k) hk (by rw[Q,hcs];omega) hx;simp only[<-hC1]at e;refine⟨by rw[U,hdl,C,hxl];omega,.inr ⟨g,cap,_,rfl,kS _,hg2,by omega,by unfold maxLen;omega,?_,?_⟩⟩
  ·simp only[E,C,U,T,hC1l,kY,kF];omega
  ·exact e
 have hb1:(k:Int)+1<=(n:Int):=by omega
 have htn:((k:Int)+1).toNat=k+1:=by omega
 have hb0:(0:Int)<=(k:Int)+1:=by omega
 have hb2:(k:Int)<=(k:Int)+1:=by omega
 have hb3:¬((k:Int)=(k:Int)+1):=by omega
 have hb4:(k:Int)<=(cap:Int):=by omega
 have hb5:k<=cap:=by omega
 have hb6:n-1<=n:=by omega
 have hb7:n-(n-1)=1:=by omega
 have hb8:¬(cap=n-1):=by omega
 clear hg hx h1x hcx hC1 hC1l hW1 hg1 hB1 hW2 hg2 hcs hxl hdl hqi hz0 hzz1 hzz2
 by_cases hck:cap=k+1
 ·obtain rfl:n=k+1:=by omega
  subst hck;have HO':=HO.out;simp only[Nat.add_sub_cancel,Nat.sub_self]at hap hclr HO' ⊢;have HO'':H _:=HO';clear HO HO' hb1 hb2 hb3 hb4 hb5 hb6 hb7 hb8
  have hb2:(k:Int)<=(k:Int)+1:=by omega
  have hb3:¬((k:Int)=(k:Int)+1):=by omega
  have hb4:¬(k+1=k):=by omega
  have hb5:k+1-k=1:=by omega
  go_enter Tryz.func235,Tryz.ntmps235
  go_wp2_with fail
  go_region_law (refine zY rfl (.tmp 22) (.tmp 25) 99 99 rfl (Y (J ⟨g,0,B⟩) k (k+1)) (Y (J ⟨g,0,B⟩) 0 0) (by simp[Act.eval,Act.put]) (by simp[Act.eval,Act.put]) (hap _ _ _ _ rfl (.inr trivial)) ?_)
  go_wp2_with (at_builtin;refine zp _ rfl _ 99 rfl _ rfl (hclr _ _ _ _ (by omega) (by omega)) ?_)
  go_ret
  exact⟨rfl,HO''.out,HB.out⟩
 ·go_enter Tryz.func235,Tryz.ntmps235
  go_wp2_with fail
  go_region_law (refine zY rfl (.tmp 22) (.tmp 25) 99 99 rfl (Y (J ⟨g,0,B⟩) k cap) (Y (J ⟨g,(k+1)*4,B⟩) (n-(k+1)) (cap-(k+1))) (by simp[Act.eval,Act.put]) (by simp[Act.eval,Act.put]) (hap _ _ _ _ rfl (.inl rfl)) ?_)
  go_wp2_with (at_builtin;refine zp _ rfl _ 99 rfl _ rfl (hclr _ _ _ _ (by omega) (by omega)) ?_)
  go_ret
  exact⟨rfl,HO.out,HB.out⟩
end
end Go.Proofs.YtdphiompijbelaaGreatDoor
