import Derived.Test.YtkhnelgommaioaaGreatPlainB
import Derived.Test.YtkhnelgommaioaaGreatChecked
import Derived.Test.YtkhnelgommaioaaGreatMapInfo
import Derived.Test.YtkhnelgommaioaaGreatLineRow
import Derived.Lib.Overlaps
import Derived.Lib.SliceRun
import Derived.Shelf.RegionOpenPlain
import Derived.Test.YtkhnelgommaioaaGreatPageB
import Derived.Deep.LoopGhost
namespace Go.Proofs.YtkhnelgommaioaaGreat
open Go.RowKit
namespace Pg
def cmpI (x y:Int):Int:=if x<y then-1 else if y<x then 1 else 0
def lkP (q:Int) (x:Mp):Int:=if x.has q=true then 0 else cmpI q x.p
def lkM (m x:Mp):Int:=if x.meets m=true then 0 else cmpI m.p x.p
theorem cmpI_pos {x y:Int}:0<cmpI x y ↔ y<x:=by unfold cmpI;split<;>(try split)<;>omega
theorem cmpI_zero {x y:Int}:cmpI x y=0 ↔ y=x:=by unfold cmpI;split<;>(try split)<;>omega
theorem has_iff {x:Mp} {q:Int}:x.has q=true ↔ x.p<=q/\q-x.p<span x.s:=by simp[Mp.has,over]
theorem meets_iff {a b:Mp}:a.meets b=true ↔ (a.p<=b.p/\b.p-a.p<span a.s)\/(b.p<=a.p/\a.p-b.p<span b.s):=by
 unfold Mp.meets;rw[meet_eq];simp
theorem lkP_pos {q:Int} {x:Mp}:0<lkP q x ↔ x.p+span x.s<=q/\x.p<q:=by
 unfold lkP
 by_cases h:x.has q=true
 ·rw[if_pos h]
  have:=has_iff.1 h
  omega
 ·rw[if_neg h,cmpI_pos]
  have:¬(x.p<=q/\q-x.p<span x.s):=fun a=>h (has_iff.2 a)
  have:=(span_bd x.s).1
  omega
theorem lkM_pos {m x:Mp}:0<lkM m x ↔ x.p+span x.s<=m.p/\x.p<m.p:=by
 unfold lkM
 by_cases h:x.meets m=true
 ·rw[if_pos h]
  have:=meets_iff.1 h
  omega
 ·rw[if_neg h,cmpI_pos]
  have:¬((x.p<=m.p/\m.p-x.p<span x.s)\/(m.p<=x.p/\x.p-m.p<span m.s)):=fun a=>h (meets_iff.2 a)
  have:=(span_bd x.s).1
  omega
theorem span_ok {x:Mp} (h:x.code=0):1<=span x.s:=by
 have:=(check_zero h).1
 have:=(span_bd x.s).1
 omega
theorem lkP_zero {q:Int} {x:Mp} (h:x.code=0):lkP q x=0 ↔ x.has q=true:=by
 have hs:=span_ok h
 unfold lkP
 by_cases e:x.has q=true
 ·simp[e]
 ·rw[if_neg e,cmpI_zero]
  constructor
  ·intro h;exact absurd (has_iff.2 ⟨by omega,by omega⟩) e
  ·intro h;exact absurd h e
theorem lkM_zero {m x:Mp} (h:x.code=0):lkM m x=0 ↔ x.meets m=true:=by
 have hs:=span_ok h
 unfold lkM
 by_cases e:x.meets m=true
 ·simp[e]
 ·rw[if_neg e,cmpI_zero]
  constructor
  ·intro h;exact absurd (meets_iff.2 (.inl ⟨by omega,by omega⟩)) e
  ·intro h;exact absurd h e
theorem Good.two {L:List Mp} (h:Good L) {i j:Nat} (hij:i<j) (hj:j<L.length):(L.getD i .zz).p+span (L.getD i .zz).s<=(L.getD j .zz).p/\(L.getD i .zz).p<(L.getD j .zz).p:=by
 have hp:=List.pairwise_iff_getElem.1 h.up i j (by omega) hj hij
 rw[mp_at (by omega),mp_at hj]
 obtain⟨h1,h2⟩:=hp
 have h3:¬((L[i].p<=L[j].p/\L[j].p-L[i].p<span L[i].s)\/(L[j].p<=L[i].p/\L[i].p-L[j].p<span L[j].s)):=fun a=>by
  rw[meets_iff.2 a]at h2;cases h2
 omega
theorem Good.at {L:List Mp} (h:Good L) {i:Nat} (hi:i<L.length):(L.getD i .zz).code=0:=by
 rw[mp_at hi];exact h.ok _ (List.getElem_mem _)
def cut (L:List Mp) (lk:Mp->Int):Nat:=L.findIdx fun m=>decide (lk m<=0)
theorem cut_le (L:List Mp) (lk:Mp->Int):cut L lk<=L.length:=List.findIdx_le_length
theorem cut_ahead {L:List Mp} {lk:Mp->Int} {t:Nat} (h:t<cut L lk):0<lk (L.getD t .zz):=by
 have hl:=cut_le L lk
 have:=List.not_of_lt_findIdx h
 rw[mp_at (by omega)]
 simp at this
 exact this
theorem cut_at {L:List Mp} {lk:Mp->Int} (h:cut L lk<L.length):lk (L.getD (cut L lk) .zz)<=0:=by
 have h1:L.findIdx (fun m=>decide (lk m<=0))<L.length:=h
 have h2:=List.findIdx_getElem (w:=h1)
 rw[mp_at h]
 exact of_decide_eq_true h2
def Falls (L:List Mp) (lk:Mp->Int):Prop:=∀i j,i<j->j<L.length->0<lk (L.getD j .zz)->0<lk (L.getD i .zz)
theorem cut_behind {L:List Mp} {lk:Mp->Int} (hf:Falls L lk) {t:Nat} (h:cut L lk<=t) (ht:t<L.length):lk (L.getD t .zz)<=0:=by
 have h0:=cut_at (L:=L) (lk:=lk) (by omega)
 by_cases e:cut L lk=t
 ·rw[<-e];exact h0
 ·have:=hf (cut L lk) t (by omega) ht
  omega
theorem Good.fallsP {L:List Mp} (h:Good L) (q:Int):Falls L (lkP q):=by
 intro i j hij hj hp
 have:=h.two hij hj
 rw[lkP_pos]at hp ⊢
 have:=(span_bd (L.getD j .zz).s).1
 omega
theorem Good.fallsM {L:List Mp} (h:Good L) (m:Mp):Falls L (lkM m):=by
 intro i j hij hj hp
 have:=h.two hij hj
 rw[lkM_pos]at hp ⊢
 have:=(span_bd (L.getD j .zz).s).1
 omega
def hit (L:List Mp) (lk:Mp->Int):Bool:=decide (cut L lk<L.length)&&(lk (L.getD (cut L lk) .zz)==0)
theorem hit_iff {L:List Mp} {lk:Mp->Int}:hit L lk=true ↔ cut L lk<L.length/\lk (L.getD (cut L lk) .zz)=0:=by simp[hit]
theorem fnd_hit {L:List Mp} (h:Good L) (q:Int):fnd L q=if hit L (lkP q)=true then some (cut L (lkP q))else none:=by
 split
 ·rename_i hh
  obtain⟨h1,h2⟩:=hit_iff.1 hh
  refine fnd_of h1 ((lkP_zero (h.at h1)).1 h2) fun j hj=> ?_
  have h3:=lkP_pos.1 (cut_ahead hj)
  cases e:(L.getD j .zz).has q
  ·rfl
  ·have:=has_iff.1 e;omega
 ·rename_i hh
  refine fnd_no fun j hj=> ?_
  cases e:(L.getD j .zz).has q
  ·rfl
  ·exfalso
   have he:=has_iff.1 e
   have hc:cut L (lkP q)<=j:=by
    refine Nat.le_of_not_lt fun hlt=> ?_
    have:=lkP_pos.1 (cut_ahead hlt)
    omega
   refine hh (hit_iff.2 ⟨by omega,?_⟩)
   have h0:=cut_at (L:=L) (lk:=lkP q) (by omega)
   rw[lkP_zero (h.at (by omega))]
   by_cases e2:cut L (lkP q)=j
   ·rw[e2];exact e
   ·have:=h.two (i:=cut L (lkP q)) (j:=j) (by omega) hj
    have hn:¬0<lkP q (L.getD (cut L (lkP q)) .zz):=by omega
    rw[lkP_pos]at hn
    rw[has_iff]
    omega
theorem any_hit {L:List Mp} (h:Good L) {m:Mp} (hm:m.code=0):(L.any fun x=>x.meets m)=hit L (lkM m):=by
 have hs:=span_ok hm
 cases hh:hit L (lkM m)
 ·rw[List.any_eq_false]
  intro x hx e
  obtain⟨j,hj,rfl⟩:=List.mem_iff_getElem.1 hx
  rw[<-mp_at hj]at e
  have he:=meets_iff.1 e
  have hc:cut L (lkM m)<=j:=by
   refine Nat.le_of_not_lt fun hlt=> ?_
   have:=lkM_pos.1 (cut_ahead hlt)
   omega
  have h0:=cut_at (L:=L) (lk:=lkM m) (by omega)
  have:hit L (lkM m)=true:=by
   refine hit_iff.2 ⟨by omega,?_⟩
   rw[lkM_zero (h.at (by omega))]
   by_cases e2:cut L (lkM m)=j
   ·rw[e2];exact e
   ·have:=h.two (i:=cut L (lkM m)) (j:=j) (by omega) hj
    have hn:¬0<lkM m (L.getD (cut L (lkM m)) .zz):=by omega
    rw[lkM_pos]at hn
    have s1:=span_ok (h.at (i:=cut L (lkM m)) (by omega))
    have s2:=span_ok (h.at hj)
    rw[meets_iff]
    omega
  rw[hh]at this
  cases this
 ·obtain⟨h1,h2⟩:=hit_iff.1 hh
  rw[List.any_eq_true]
  refine⟨L.getD (cut L (lkM m)) .zz,by rw[mp_at h1];exact List.getElem_mem _,(lkM_zero (h.at h1)).1 h2⟩
theorem ins_at {m:Mp}:∀{L:List Mp} {k:Nat},k<=L.length->(∀t,t<k->¬m.p<(L.getD t .zz).p)->(k<L.length->m.p<(L.getD k .zz).p)->ins m L=L.take k++m::L.drop k
 | [],k,hk,_,_=>by
   have:k=0:=by simpa using hk
   subst this
   rfl
 | x::r,0,_,_,h2=>by
   have:m.p<x.p:=by simpa using h2 (by simp)
   simp[ins,this]
 | x::r,k+1,hk,h1,h2=>by
   have h0:¬m.p<x.p:=by simpa using h1 0 (by omega)
   have:=ins_at (m:=m) (L:=r) (k:=k) (by simpa using hk) (fun t ht=>by simpa using h1 (t+1) (by omega)) (fun h=>by simpa using h2 (by simpa using h))
   simp[ins,h0,this]
theorem ins_cut {L:List Mp} (h:Good L) {m:Mp} (hh:hit L (lkM m)=false):ins m L=L.take (cut L (lkM m))++m::L.drop (cut L (lkM m)):=by
 refine ins_at (cut_le _ _) (fun t ht=> ?_) (fun hl=> ?_)
 ·have:=lkM_pos.1 (cut_ahead ht)
  omega
 ·have h0:=cut_at (L:=L) (lk:=lkM m) hl
  have h1:¬lkM m (L.getD (cut L (lkM m)) .zz)=0:=fun e=>by
   rw[hit_iff.2 ⟨hl,e⟩]at hh;cases hh
  have h2:¬0<lkM m (L.getD (cut L (lkM m)) .zz):=by omega
  rw[lkM_zero (h.at hl),meets_iff]at h1
  rw[lkM_pos]at h2
  have:=span_ok (h.at hl)
  omega
end Pg
open Go.RowKit Go.Sort
set_option linter.unusedVariables false
set_option maxRecDepth 100000
theorem clone_any {vb:Value} {L:List Pg.Mp} (w:World) (hr:w.ownsRow 0 39 4 vb L.length (zC L)) (hlen:L.length<=4096):
 Calls Tryz.prog 195 #[vb] w fun e w'=>∃v',e= .returned v'/\w'.ownsRow w.heap.size 39 4 v' L.length (zC L)/\Below w.heap.size w w':=by
 have q58:∀(w:World) (a:Option Addr) (n c n' c':Nat),(binOp .eql 44 (.slice a n c) (.slice none n' c')).run Tryz.prog w= .ok (.bool a.isNone) w:=fun w a n c n' c'=>Lib.run_eql_slice_nil w _ _ a n c n' c' Tryz.underlying44
 rcases hr.2 with ⟨rfl,h0⟩|⟨g,cap,cur,rfl,_,hg,hrest⟩
 ·have hL:L=[]:=List.length_eq_zero_iff.1 h0
  subst hL
  clear hr
  go_enter Tryz.func195,Tryz.ntmps195
  go_wp2_with fail
  go_ret
  exact⟨_,rfl,World.ownsRow_nil _ _ _ _,zR _⟩
 ·obtain⟨q0,hqi,hz0,hz1,hz2⟩:=info_parts infoMap
  have hcells:Hid _:=hr.cells (g:=g) rfl
  have hgl:g<w.heap.size:=(Array.getElem?_eq_some_iff.1 hg).1
  clear hr hg hrest
  go_enter Tryz.func195,Tryz.ntmps195
  go_wp2_with (at_builtin;refine wpList_append_own _ rfl _ _ 44 rfl w.heap.size 39 q0 _ 4 32 Tryz.underlying44 hqi hz0 hz1 hz2 rfl (by decide) _ _ _ rfl (World.ownsRow_made w #[] 0 (Nat.le_refl _) (Nat.zero_le _) (by simp)) ⟨g,0,none⟩ L.length cap (zC L) rfl (mpCells_len L) ?c1 (mpCells_one' L) ?c3 ?c4 ?c5 ?_)
  case c1=>
   intro j u hj
   have:=hcells.out j u hj
   exact(Below.cell (p:=(⟨g,0,none⟩:Addr).add j) (zA (zR w) _) (World.block_lt_of_cell? _ _ this)).trans this
  case c3=>unfold maxLen;omega
  case c4=>omega
  case c5=>simp
  intro v' w1 hown hgrow hnil
  have hown':Hid (w1.ownsRow w.heap.size 39 4 v' L.length (zC L)):=by simpa[Hid]using hown
  have hb:Hid (Below w.heap.size w w1):=((But.refl (fun _=>False) w).alloc _).grown hgrow (fun k hk=> .inl (by simp[Value.ownBlock]at hk;omega))|>.below (Nat.le_refl _) (fun _ h=>h.elim)
  clear hown hgrow hnil
  go_wp2_with fail
  go_ret
  exact⟨v',rfl,hown'.out,hb.out⟩
theorem isNaN_any (x:Int) (w:World):Calls Tryz.prog 233 #[.int .i64 x] w fun e w'=>e= .returned (.bool false)/\w'=w:=by
 go_enter Tryz.func233,Tryz.ntmps233
 go_wp2
 go_ret
 exact⟨ret_bool (by simp),rfl⟩
theorem compare_any (x y:Int) (w:World):Calls Tryz.prog 219 #[.int .i64 x,.int .i64 y] w fun e w'=>e= .returned (.int .i64 (Pg.cmpI x y))/\w'=w:=by
 by_cases h1:x<y
 ·have HC:Hid (Pg.cmpI x y= -1):=by simp[Hid,Pg.cmpI,h1]
  go_enter Tryz.func219,Tryz.ntmps219
  go_wp2_with (go_at_call 233;refine(isNaN_any _ _).mono ?_;rintro e w' ⟨rfl,rfl⟩)
  go_ret
  exact⟨ret_int HC.out.symm,rfl⟩
 ·by_cases h2:y<x
  ·have HC:Hid (Pg.cmpI x y=1):=by simp[Hid,Pg.cmpI,h1,h2]
   go_enter Tryz.func219,Tryz.ntmps219
   go_wp2_with (go_at_call 233;refine(isNaN_any _ _).mono ?_;rintro e w' ⟨rfl,rfl⟩)
   go_ret
   exact⟨ret_int HC.out.symm,rfl⟩
  ·have HC:Hid (Pg.cmpI x y=0):=by simp[Hid,Pg.cmpI,h1,h2]
   go_enter Tryz.func219,Tryz.ntmps219
   go_wp2_with (go_at_call 233;refine(isNaN_any _ _).mono ?_;rintro e w' ⟨rfl,rfl⟩)
   go_ret
   exact⟨ret_int HC.out.symm,rfl⟩
set_option maxHeartbeats 4000000 in
theorem find_any (g:FuncId) (cb:Array Value) (n k:Nat) (c:Nat->Int) (w:World) (eg:∀args w,(callFunc g args).run Tryz.prog w= .ok (.enter g args) w) (hn:n<=4096) (hk:k<=n)
 (h1:∀t,t<k->0<c t) (h2:∀t,k<=t->t<n->c t<=0)
 (hf:∀(i:Nat) (w':World),i<n->Below w.heap.size w w'->Calls Tryz.prog g (#[.int .i64 i]++cb) w' fun e w''=>e= .returned (.int .i64 (c i))/\Below w'.heap.size w' w''):
 Calls Tryz.prog 231 #[.int .i64 n,.func (.func g) #[] cb] w fun e w'=>e= .returned (.tuple #[.int .i64 k,.bool (decide (k<n)&&(c k==0))])/\Below w.heap.size w w':=by
 have HF:Hid _:=hf
 have H1:Hid _:=h1
 have H2:Hid _:=h2
 clear hf h1 h2
 go_enter Tryz.func231,Tryz.ntmps231
 go_wp2_with fail
 go_loopg [4,6] n (fun kx s4 s6 wr=>∃lo hi:Nat,s4= .int .i64 lo/\s6= .int .i64 hi/\lo<=k/\k<=hi/\hi<=n/\hi-lo<=kx/\Hid (Below w.heap.size w wr))
 case atStart=>exact⟨0,n,rfl,rfl,Nat.zero_le _,hk,Nat.le_refl _,by omega,zR w⟩
 case round=>
  obtain⟨lo,hi,rfl,rfl,hlk,hkh,hhn,hm,HB⟩:=hrel
  by_cases hlt:lo<hi
  ·have hc:=HF.out ((lo+hi)/2) wr (by omega) HB.out
   rw[show(((lo+hi)/2:Nat):Int)=((lo:Int)+(hi:Int))/2 by omega]at hc
   have h3:=H1.out ((lo+hi)/2)
   have h4:=H2.out ((lo+hi)/2)
   generalize c ((lo+hi)/2)=x at*
   by_cases hx:0<x
   ·have hlt2:(lo+hi)/2<k:=by omega
    clear h3 h4
    go_wp2_with (go_at_fn g;refine hc.mono ?_;rintro e w' ⟨rfl,hb⟩)
    go_roundg (hi-((lo+hi)/2+1))
    case measure=>omega
    case rel=>exact⟨(lo+hi)/2+1,hi,by rw[show((lo:Int)+(hi:Int))/2+1=(((lo+hi)/2+1:Nat):Int) by omega],rfl,by omega,hkh,hhn,Nat.le_refl _,zT HB.out hb⟩
   ·have hle:k<=(lo+hi)/2:=by omega
    clear h3 h4
    go_wp2_with (go_at_fn g;refine hc.mono ?_;rintro e w' ⟨rfl,hb⟩)
    go_roundg ((lo+hi)/2-lo)
    case measure=>omega
    case rel=>exact⟨lo,(lo+hi)/2,rfl,by rw[show((lo:Int)+(hi:Int))/2=(((lo+hi)/2:Nat):Int) by omega],hlk,hle,by omega,Nat.le_refl _,zT HB.out hb⟩
  ·have e1:lo=k:=by omega
   have e2:hi=k:=by omega
   subst e1 e2
   by_cases hkn:hi<n
   ·have hc:=HF.out hi wr hkn HB.out
    have HE:Hid (decide (hi<n)=true):=by simp[Hid,hkn]
    go_wp2_with (go_at_fn g;refine hc.mono ?_;rintro e w' ⟨rfl,hb⟩)
    go_ret2
    exact⟨by rw[HE.out];rfl,zT HB.out hb⟩
   ·have HE:Hid (decide (hi<n)=false):=by simp[Hid,hkn]
    go_wp2_with fail
    go_ret2
    exact⟨by rw[HE.out];rfl,HB.out⟩
theorem enters_search1:∀args w,(callFunc 232 args).run Tryz.prog w= .ok (.enter 232 args) w:=fun args w=>by simp[go_sem]
structure Dbk (w:World) (b:Nat) (vb:Value) (L:List Pg.Mp):Prop where
 c0:w.cell? ⟨b,0,none⟩=some vb
 fb:∀o,w.frozen? ⟨b,o,none⟩=false
 row:w.ownsRow 0 39 4 vb L.length (zC L)
 nb:vb.ownBlock≠some b
 good:Pg.Good L
namespace Dbk
variable {w w':World} {b:Nat} {vb vb':Value} {L L':List Pg.Mp}
theorem lb (h:Dbk w b vb L):b<w.heap.size:=World.block_lt_of_cell? _ _ h.c0
theorem lt (h:Dbk w b vb L) {k:Nat} (hk:bkF b vb k):k<w.heap.size:=by
 rcases hk with rfl|hk
 ·exact h.lb
 ·exact(h.row.lt k hk).2
theorem keep (h:Dbk w b vb L) {F:Nat->Prop} (hb:But F w w') (hF:∀k,bkF b vb k->¬F k):Dbk w' b vb L:=by
 have kb:=hb.block b h.lb (hF b (.inl rfl))
 exact⟨(World.cell?_of_block kb).trans h.c0,fun o=>(World.frozen?_of_block kb).trans (h.fb o),ownsMaps_but h.row hb fun k hk=>hF k (.inr hk),h.nb,h.good⟩
theorem grow (h:Dbk w b vb L) (hb:Below w.heap.size w w'):Dbk w' b vb L:=h.keep (F:=fun _=>False) (But.of_below hb) (fun _ _=>id)
theorem mp (h:Dbk w b vb L) {j:Nat} (hj:j<L.length):∃g cap,vb= .slice (some ⟨g,0,none⟩) L.length cap/\g<w.heap.size/\MpAt w g (j*4) (L.getD j .zz):=by
 obtain⟨g,cap,rfl,_,hg⟩:=h.row.form (by omega)
 obtain⟨g',e,_,hm⟩:=owns_mapsAt h.row j hj
 cases e
 exact⟨g,cap,rfl,hg,hm⟩
end Dbk
set_option maxHeartbeats 4000000 in
theorem search1_any {b bl bb:Nat} {vb:Value} {L:List Pg.Mp} (f:FuncId) (cb:Array Value) (lk:Pg.Mp->Int) (j:Nat) (w:World) (hD:Dbk w b vb L) (hj:j<L.length)
 (hl:w.cell? ⟨bl,0,none⟩=some (.func (.func f) #[] cb)) (hb:w.cell? ⟨bb,0,none⟩=some (.pointer (some ⟨b,0,none⟩))) (ef:∀args w,(callFunc f args).run Tryz.prog w= .ok (.enter f args) w)
 (hf:∀(m:Pg.Mp) (w':World),Pg.fits m.p->Below w.heap.size w w'->Calls Tryz.prog f (#[m.val]++cb) w' fun e w''=>e= .returned (.int .i64 (lk m))/\Below w'.heap.size w' w''):
 Calls Tryz.prog 232 #[.int .i64 j,.pointer (some ⟨bl,0,none⟩),.pointer (some ⟨bb,0,none⟩)] w fun e w'=>e= .returned (.int .i64 (lk (L.getD j .zz)))/\Below w.heap.size w w':=by
 obtain⟨g,cap,rfl,hg,hm0,hm1,hm2,hm3⟩:=hD.mp hj
 have hc0:=hD.c0
 have hlen:=hD.good.len
 have hfit:=(Pg.ok_fits (hD.good.at hj)).2.2.1
 have i0:(0:Int)<=(j:Int):=by omega
 have i1:(j:Int)<(L.length:Int):=by omega
 have HF:Hid _:=fun w' hb=>hf (L.getD j .zz) w' hfit hb
 clear hf hD
 generalize L.getD j .zz=m at*
 generalize L.length=n at*
 have hcall:∀d os,Calls Tryz.prog f (#[m.val]++cb) (grow (redrawn w d) os) fun e w''=>e= .returned (.int .i64 (lk m))/\Below (grow (redrawn w d) os).heap.size (grow (redrawn w d) os) w'':=fun d os=>HF.out _ (below_regrown w d os)
 obtain⟨mp,ms,mf,mr⟩:=m
 simp only[Pg.Mp.val]at hcall
 simp only at hm0 hm1 hm2 hm3
 generalize lk ⟨mp,ms,mf,mr⟩=x at*
 have C0:=cell_regrown hc0
 have C1:=cell_regrown hl
 have C2:=cell_regrown hb
 have M0:=cell_regrown hm0
 have M1:=cell_regrown hm1
 have M2:=cell_regrown hm2
 have M3:=cell_regrown hm3
 clear hc0 hl hb hm0 hm1 hm2 hm3
 go_enter Tryz.func232,Tryz.ntmps232
 go_wp2_with fail
 refine wp_region_quiet_below (by kernel_rfl) (by kernel_rfl) ?_
 repeat' (first
  | go_big_quiet_step ((go_at_fn f;exact Calls.regrown_of (hcall _ _))))
 refine wpQuiet_nil ?_
 intro _ hw'
 obtain⟨⟨dq,osq⟩,rfl⟩:=hw'
 go_wp2_with fail
 go_ret
 exact⟨rfl,below_regrown w dq osq⟩
set_option maxHeartbeats 4000000 in
theorem search_any {b:Nat} {vb:Value} {L:List Pg.Mp} (f:FuncId) (cb:Array Value) (lk:Pg.Mp->Int) (w:World) (hD:Dbk w b vb L) (hfall:Pg.Falls L lk) (ef:∀args w,(callFunc f args).run Tryz.prog w= .ok (.enter f args) w)
 (hf:∀(m:Pg.Mp) (w':World),Pg.fits m.p->Below w.heap.size w w'->Calls Tryz.prog f (#[m.val]++cb) w' fun e w''=>e= .returned (.int .i64 (lk m))/\Below w'.heap.size w' w''):
 Calls Tryz.prog 217 #[.pointer (some ⟨b,0,none⟩),.func (.func f) #[] cb] w fun e w'=>e= .returned (.tuple #[.int .i64 (Pg.cut L lk),.bool (Pg.hit L lk)])/\Below w.heap.size w w':=by
 have hc0:=hD.c0
 have hlb:=hD.lb
 have hlen:=hD.good.len
 obtain⟨ad,cap,rfl⟩:=zF hD.row
 obtain⟨W,hW⟩:∃W,W=(w.alloc (.cells #[.pointer (some ⟨b,0,none⟩)] 86)).alloc (.cells #[.func (.func f) #[] cb] 151):=⟨_,rfl⟩
 have hB:Below w.heap.size w W:=by rw[hW];exact zA (zA (zR _) _) _
 have k0:W.cell? ⟨b,0,none⟩=some (.slice ad L.length cap):=(hB.cell (p:=⟨b,0,none⟩) hlb).trans hc0
 have k1:W.cell? ⟨w.heap.size,0,none⟩=some (.pointer (some ⟨b,0,none⟩)):=by rw[hW];simp[go_sem]
 have k2:W.cell? ⟨w.heap.size+1,0,none⟩=some (.func (.func f) #[] cb):=by rw[hW];simp[go_sem]
 have hDW:=hD.grow hB
 have HS:Hid _:=find_any 232 #[.pointer (some ⟨w.heap.size+1,0,none⟩),.pointer (some ⟨w.heap.size,0,none⟩)] L.length (Pg.cut L lk) (fun j=>lk (L.getD j .zz)) W enters_search1 hlen (Pg.cut_le _ _) (fun t ht=>Pg.cut_ahead ht) (fun t h1 h2=>Pg.cut_behind hfall h1 h2)
  (fun i w' hi hb=>search1_any f cb lk i w' (hDW.grow hb) hi (cell_later hb k2) (cell_later hb k1) ef (fun m w'' hm hb'=>hf m w'' hm (zT (zT hB hb) hb')))
 have HB:Hid _:=hB
 clear hf hfall hD hDW hB k0 k1 k2
 go_enter Tryz.func217,Tryz.ntmps217
 go_wp2_with fail
 rw[<-hW]
 refine Calls.mono HS.out ?_
 rintro e w1 ⟨rfl,hb1⟩
 go_wp2_with fail
 go_ret2
 exact⟨rfl,zT HB.out hb1⟩
theorem having1_any {bq:Nat} (q:Int) (hq:Pg.fits q) (m:Pg.Mp) (hm:Pg.fits m.p) (w:World) (hc:w.cell? ⟨bq,0,none⟩=some (.int .i64 q)):
 Calls Tryz.prog 222 #[m.val,.pointer (some ⟨bq,0,none⟩)] w fun e w'=>e= .returned (.int .i64 (Pg.lkP q m))/\Below w.heap.size w w':=by
 obtain⟨p,s,f,r⟩:=m
 have hbq:=World.block_lt_of_cell? _ _ hc
 have HL:Hid (Pg.lkP q ⟨p,s,f,r⟩=if Pg.over p s q=true then 0 else Pg.cmpI q p):=rfl
 simp only[Pg.Mp.val]
 cases h:Pg.over p s q
 ·go_enter Tryz.func222,Tryz.ntmps222
  go_wp2_with fail
  refine(over_any _ _ _ _ _ hm hq _).mono ?_
  rintro e w1 ⟨rfl,hb1⟩
  rw[h]
  have hbx:Below w.heap.size w w1:=zT (zA (zR _) _) hb1
  have c1:=cell_later hbx hc
  have c2:w1.cell? ⟨w.heap.size,0,none⟩=some (.int .i64 p):=(hb1.cell (p:=⟨w.heap.size,0,none⟩) (by simp)).trans (by simp[go_sem])
  have HB:Hid _:=hbx
  clear hb1 hbx
  go_wp2_with (go_at_call 219;refine(compare_any _ _ _).mono ?_;rintro e w' ⟨rfl,rfl⟩)
  go_ret
  exact⟨ret_int (by rw[HL.out,h];rfl),HB.out⟩
 ·go_enter Tryz.func222,Tryz.ntmps222
  go_wp2_with fail
  refine(over_any _ _ _ _ _ hm hq _).mono ?_
  rintro e w1 ⟨rfl,hb1⟩
  rw[h]
  have HB:Hid (Below w.heap.size w w1):=zT (zA (zR _) _) hb1
  clear hb1
  go_wp2_with fail
  go_ret
  exact⟨ret_int (by rw[HL.out,h];rfl),HB.out⟩
theorem meeting1_any {bm:Nat} (m x:Pg.Mp) (hm:Pg.fits m.p) (hx:Pg.fits x.p) (w:World) (hc:MpAt w bm 0 m):
 Calls Tryz.prog 218 #[x.val,.pointer (some ⟨bm,0,none⟩)] w fun e w'=>e= .returned (.int .i64 (Pg.lkM m x))/\Below w.heap.size w w':=by
 obtain⟨p,s,f,r⟩:=x
 obtain⟨p',s',f',r'⟩:=m
 obtain⟨c0,c1,c2,c3⟩:=hc
 simp only[Nat.zero_add]at c0 c1 c2 c3
 have hbq:=World.block_lt_of_cell? _ _ c0
 have HL:Hid (Pg.lkM ⟨p',s',f',r'⟩ ⟨p,s,f,r⟩=if Pg.meet p s p' s'=true then 0 else Pg.cmpI p' p):=rfl
 simp only[Pg.Mp.val]
 cases h:Pg.meet p s p' s'
 ·go_enter Tryz.func218,Tryz.ntmps218
  go_wp2_with fail
  refine(meet_any _ _ _ _ _ _ _ _ hx hm _).mono ?_
  rintro e w1 ⟨rfl,hb1⟩
  rw[h]
  have hbx:Below w.heap.size w w1:=zT (zA (zR _) _) hb1
  have c1:=cell_later hbx c0
  have c2:w1.cell? ⟨w.heap.size,0,none⟩=some (.int .i64 p):=(hb1.cell (p:=⟨w.heap.size,0,none⟩) (by simp)).trans (by simp[go_sem])
  have HB:Hid _:=hbx
  clear hb1 hbx
  go_wp2_with (go_at_call 219;refine(compare_any _ _ _).mono ?_;rintro e w' ⟨rfl,rfl⟩)
  go_ret
  exact⟨ret_int (by rw[HL.out,h];rfl),HB.out⟩
 ·go_enter Tryz.func218,Tryz.ntmps218
  go_wp2_with fail
  refine(meet_any _ _ _ _ _ _ _ _ hx hm _).mono ?_
  rintro e w1 ⟨rfl,hb1⟩
  rw[h]
  have HB:Hid (Below w.heap.size w w1):=zT (zA (zR _) _) hb1
  clear hb1
  go_wp2_with fail
  go_ret
  exact⟨ret_int (by rw[HL.out,h];rfl),HB.out⟩
theorem having_any {b:Nat} {vb:Value} {L:List Pg.Mp} (q:Int) (hq:Pg.fits q) (w:World) (hD:Dbk w b vb L):
 Calls Tryz.prog 193 #[.pointer (some ⟨b,0,none⟩),.int .i64 q] w fun e w'=>e= .returned (.tuple #[.int .i64 (Pg.cut L (Pg.lkP q)),.bool (Pg.hit L (Pg.lkP q))])/\Below w.heap.size w w':=by
 obtain⟨W,hW⟩:∃W,W=w.alloc (.cells #[.int .i64 q] 3):=⟨_,rfl⟩
 have hB:Below w.heap.size w W:=by rw[hW];exact zA (zR _) _
 have k1:W.cell? ⟨w.heap.size,0,none⟩=some (.int .i64 q):=by rw[hW];simp[go_sem]
 have HS:Hid _:=search_any 222 #[.pointer (some ⟨w.heap.size,0,none⟩)] (Pg.lkP q) W (hD.grow hB) (hD.good.fallsP q) (fun args w=>by simp[go_sem]) (fun m w' hm hb=>having1_any q hq m hm w' (cell_later hb k1))
 have HB:Hid _:=hB
 clear hD hB k1
 go_enter Tryz.func193,Tryz.ntmps193
 go_wp2_with fail
 rw[<-hW]
 refine Calls.mono HS.out ?_
 rintro e w1 ⟨rfl,hb1⟩
 go_wp2_with fail
 go_ret2
 exact⟨rfl,zT HB.out hb1⟩
theorem meeting_any {b:Nat} {vb:Value} {L:List Pg.Mp} (m:Pg.Mp) (hm:Pg.fits m.p) (w:World) (hD:Dbk w b vb L):
 Calls Tryz.prog 191 #[.pointer (some ⟨b,0,none⟩),m.val] w fun e w'=>e= .returned (.tuple #[.int .i64 (Pg.cut L (Pg.lkM m)),.bool (Pg.hit L (Pg.lkM m))])/\Below w.heap.size w w':=by
 obtain⟨W,hW⟩:∃W,W=w.alloc (.cells #[.int .i64 m.p,.int .i64 m.s,.int .i64 m.f,.int .i64 m.r] 39):=⟨_,rfl⟩
 have hB:Below w.heap.size w W:=by rw[hW];exact zA (zR _) _
 have k1:MpAt W w.heap.size 0 m:=by rw[hW];exact⟨by simp[go_sem],by simp[go_sem],by simp[go_sem],by simp[go_sem]⟩
 have hlt:w.heap.size<W.heap.size:=by rw[hW];simp
 have HS:Hid _:=search_any 218 #[.pointer (some ⟨w.heap.size,0,none⟩)] (Pg.lkM m) W (hD.grow hB) (hD.good.fallsM m) (fun args w=>by simp[go_sem]) (fun x w' hx hb=>meeting1_any m x hm hx w' (k1.below hb hlt))
 have HB:Hid _:=hB
 clear hD hB k1
 obtain⟨mp,ms,mf,mr⟩:=m
 simp only[Pg.Mp.val]
 simp only at hW
 go_enter Tryz.func191,Tryz.ntmps191
 go_wp2_with fail
 rw[<-hW]
 refine Calls.mono HS.out ?_
 rintro e w1 ⟨rfl,hb1⟩
 go_wp2_with fail
 go_ret2
 exact⟨rfl,zT HB.out hb1⟩
end Go.Proofs.YtkhnelgommaioaaGreat
