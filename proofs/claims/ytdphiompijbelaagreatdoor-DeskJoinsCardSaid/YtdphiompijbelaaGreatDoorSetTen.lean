import Derived.Test.YtdphiompijbelaaGreatDoorFrameB
set_option linter.all false
open Int renaming eq_ofNat_of_zero_le->A
open Go.RowKit.Below renaming refl->E,heap_setCell->W
open Go.RowKit renaming Hid->X
open Bool renaming false->O,true->d
open Nat renaming le_refl->U
open Go renaming World->T,Calls->K,Value->L,bodyPost_ret->kI
open Go.Ending renaming returned->R
open Go.Proofs.Tryz renaming prog->C
open Option renaming none->P,some->Y
open Go.IntKind renaming i64->B,u64->Z
open Go.World renaming cell?_of_block->J,cell?_setCell_other->N,frozen?_of_block->M,cell?_setCell_same->D,cell?_setCells_out->kB,block_lt_of_cell?->kP,frozen?_setCells->kS,frozen?->kR
open Go.Value renaming int->I,bool->V,pointer->Q,agg->y,slice->z,ownBlock->kJ,tuple->kC,slice->kN,bool->kY,int->kT
namespace Go.Proofs.YtdphiompijbelaaGreatDoor
open Go.RowKit
section
open Go.Sort
structure zQ (w:T) (b g:Nat) (vb:L) (S:Pg.Fs):Prop where
 c0:w.cell? ⟨b,0,P⟩=Y (z (Y ⟨g,0,P⟩) S.n S.n)
 c1:w.cell? ⟨b,1,P⟩=Y vb
 c2:w.cell? ⟨b,2,P⟩=Y (I B S.next)
 fb:∀o,w.frozen? ⟨b,o,P⟩=O
 f0:∀o,w.frozen? ⟨g,o,P⟩=O
 ci:∀k,k<S.n->w.cell? ⟨g,k*9,P⟩=Y (V (S.inn k))
 cw:∀k i,k<S.n->i<8->w.cell? ⟨g,k*9+1+i,P⟩=Y (I Z (S.word k i))
 own:w.ownsRow 0 3 1 vb S.back.length (yeD S.back)
 l0:g<w.heap.size
 n0:g≠b
 vb0:vb.ownBlock≠Y g
 vbb:vb.ownBlock≠Y b
def frF (b g:Nat) (vb:L):Nat->Prop:=fun k=>k=b\/k=g\/vb.ownBlock=Y k
namespace zQ
variable {w w':T} {b g:Nat} {vb:L} {S:Pg.Fs}
theorem lb (h:zQ w b g vb S):b<w.heap.size:=kP _ _ h.c0
theorem lt (h:zQ w b g vb S) {k:Nat} (hk:frF b g vb k):k<w.heap.size:=by
 rcases hk with rfl|rfl|hk
 ·exact kP _ _ h.c0
 ·exact h.l0
 ·exact(h.own.lt k hk).2
theorem keep (h:zQ w b g vb S) {F:Nat->Prop} (hb:But F w w') (hF:∀k,frF b g vb k->¬F k):zQ w' b g vb S:=by
 have hk:∀k,frF b g vb k->w'.heap[k]?=w.heap[k]?:=fun k hk=>hb.block k (h.lt hk) (hF k hk);have kb:=hk b (.inl rfl);have k0:=hk g (.inr (.inl rfl))
 exact⟨(J kb).trans h.c0,(J kb).trans h.c1,(J kb).trans h.c2,
  fun o=>(M kb).trans (h.fb o),fun o=>(M k0).trans (h.f0 o),
  fun k a=>(J k0).trans (h.ci k a),fun k i a c=>(J k0).trans (h.cw k i a c),
  zc h.own fun k e=>hk k (.inr (.inr e)),Nat.lt_of_lt_of_le h.l0 hb.size,h.n0,h.vb0,h.vbb⟩
theorem drewN (h:zQ w b g vb S) (n:Nat):zQ (w.drewN n) b g vb S:=
 h.keep (F:=fun _=>False) (But.yhl (below_drewN (zR w) n)) (fun _ _=>id)
theorem setNext (h:zQ w b g vb S) (m:Nat):zQ (w.setCell ⟨b,2,P⟩ (I B (m:Int))) b g vb {S with next:=m}:=by
 have hh:∀k,k≠b->(w.setCell ⟨b,2,P⟩ (I B (m:Int))).heap[k]?=w.heap[k]?:=fun k hk=>W _ _ _ _ hk;have k0:=hh g h.n0
 have hs:(w.setCell ⟨b,2,P⟩ (I B (m:Int))).heap.size=w.heap.size:=by simp
 refine⟨?_,?_,D _ _ _ h.c2,fun o=>by simpa using h.fb o,fun o=>by simpa using h.f0 o,
  fun k a=>(J k0).trans (h.ci k a),fun k i a c=>(J k0).trans (h.cw k i a c),
  zc h.own fun k e=>hh k (fun e'=>h.vbb (e'▸e)),hs.symm▸h.l0,h.n0,h.vb0,h.vbb⟩
 ·exact(N _ _ _ _ (by simp)).trans h.c0
 ·exact(N _ _ _ _ (by simp)).trans h.c1
theorem grow (h:zQ w b g vb S) (hs:w.heap.size<=w'.heap.size) (hk:∀k,k=b\/k=g->w'.heap[k]?=w.heap[k]?) {vb':L} {l:List Nat} (ho:w'.ownsRow 0 3 1 vb' l.length (yeD l)) (v0:vb'.ownBlock≠Y g) (v2:vb'.ownBlock≠Y b):
 zQ (w'.setCell ⟨b,1,P⟩ vb') b g vb' {S with back:=l}:=by
 have kb:=hk b (.inl rfl);have k0:=hk g (.inr rfl);have hh:∀k,k≠b->(w'.setCell ⟨b,1,P⟩ vb').heap[k]?=w'.heap[k]?:=fun k hk=>W _ _ _ _ hk;have j0:=(hh g h.n0).trans k0
 have hs':(w'.setCell ⟨b,1,P⟩ vb').heap.size=w'.heap.size:=by simp
 have l0:=h.l0
 refine⟨?_,D _ _ _ ((J kb).trans h.c1),?_,fun o=> ?_,fun o=>(M j0).trans (h.f0 o),
  fun k a=>(J j0).trans (h.ci k a),fun k i a c=>(J j0).trans (h.cw k i a c),
  zc ho fun k e=>hh k (fun e'=>v2 (e'▸e)),by rw[hs'];omega,h.n0,v0,v2⟩
 ·exact(N _ _ _ _ (by simp)).trans ((J kb).trans h.c0)
 ·exact(N _ _ _ _ (by simp)).trans ((J kb).trans h.c2)
 ·rw[World.frozen?_setCell]
  exact(M kb).trans (h.fb o)
theorem setBack (h:zQ w b g vb S) {vb':L} {l:List Nat} (ho:w.ownsRow 0 3 1 vb' l.length (yeD l)) (v0:vb'.ownBlock≠Y g) (v2:vb'.ownBlock≠Y b):
 zQ (w.setCell ⟨b,1,P⟩ vb') b g vb' {S with back:=l}:=h.grow (U _) (fun _ _=>rfl) ho v0 v2
theorem mark (h:zQ w b g vb S) {k:Nat} (hk:k<S.n) (v:Bool) (l:List Nat) (hl:∀j,decide (j ∈ l)=if j=k then v else S.inn j):
 zQ (w.setCell ⟨g,k*9,P⟩ (V v)) b g vb {S with used:=l}:=by
 have hh:∀j,j≠g->(w.setCell ⟨g,k*9,P⟩ (V v)).heap[j]?=w.heap[j]?:=fun j hj=>W _ _ _ _ hj;have kb:=hh b (Ne.symm h.n0)
 have hs:(w.setCell ⟨g,k*9,P⟩ (V v)).heap.size=w.heap.size:=by simp
 refine⟨(J kb).trans h.c0,(J kb).trans h.c1,(J kb).trans h.c2,
  fun o=>by simpa using h.fb o,fun o=>by simpa using h.f0 o,fun j a=> ?_,fun j i a c=> ?_,
  zc h.own fun j e=>hh j (fun e'=>h.vb0 (e'▸e)),hs.symm▸h.l0,h.n0,h.vb0,h.vbb⟩
 ·show _=Y (kY (decide (j ∈ l)))
  rw[hl j]
  by_cases e:j=k
  ·rw[if_pos e,e]
   exact D _ _ _ (h.ci k hk)
  ·rw[if_neg e]
   exact(N _ _ _ _ (fun he=>e (by injection he with _ he;omega))).trans (h.ci j a)
 ·exact(N _ _ _ _ (fun he=>by injection he with _ he;omega)).trans (h.cw j i a c)
theorem fill (h:zQ w b g vb S) {k:Nat} (hk:k<S.n) (zs:List L) (hz:zs.length=9) (h0:zs[0]?=Y (V d)) (hv:∀j:Nat,j<8->zs[j+1]?=Y (I Z 0)):
 zQ (w.setCells g (k*9) zs) b g vb {S with used:=k::S.used,word:=Pg.Fs.clear S.word k}:=by
 have hh:∀j,j≠g->(w.setCells g (k*9) zs).heap[j]?=w.heap[j]?:=fun j hj=>jq _ _ _ _ _ hj;have kb:=hh b (Ne.symm h.n0);have hs:=ju g zs (k*9) w
 have hin:∀i,i<zs.length->(w.setCells g (k*9) zs).cell? ⟨g,k*9+i,P⟩=zs[i]?:=by
  intro i hi
  have:=World.cell?_setCells_in g zs (k*9) w (fun i hi=>by
   match i with
   | 0=>rw[show k*9+0=k*9 from rfl,h.ci k hk];rfl
   | i+1=>rw[show k*9+(i+1)=k*9+1+i by omega,h.cw k i hk (by omega)];rfl) i hi
  rw[this,List.getElem?_eq_getElem hi]
 refine⟨(J kb).trans h.c0,(J kb).trans h.c1,(J kb).trans h.c2,
  fun o=>(kS _ _ _ _ _).trans (h.fb o),fun o=>(kS _ _ _ _ _).trans (h.f0 o),
  fun j a=> ?_,fun j i a c=> ?_,
  zc h.own fun j e=>hh j (fun e'=>h.vb0 (e'▸e)),hs.symm▸h.l0,h.n0,h.vb0,h.vbb⟩
 ·show _=Y (kY (decide (j ∈ k::S.used)))
  by_cases e:j=k
  ·subst e
   have:=hin 0 (by omega);simp only[Nat.add_zero]at this;rw[this,h0];simp
  ·have he:decide (j ∈ k::S.used)=S.inn j:=by simp[Pg.Fs.inn,e]
   rw[he];exact(kB _ _ _ _ _ (fun _ _=>by show j*9<k*9\/k*9+zs.length<=j*9;omega)).trans (h.ci j a)
 ·show _=Y (kT Z (Pg.Fs.clear S.word k j i))
  unfold Pg.Fs.clear
  by_cases e:j=k
  ·rw[if_pos e,e,show k*9+1+i=k*9+(i+1) by omega,hin (i+1) (by omega),hv i c]
  ·rw[if_neg e]
   exact(kB _ _ _ _ _ (fun _ _=>by show j*9+1+i<k*9\/k*9+zs.length<=j*9+1+i;omega)).trans (h.cw j i a c)
theorem put (h:zQ w b g vb S) {k i:Nat} (hk:k<S.n) (hi:i<8) (v:Int):
 zQ (w.setCell ⟨g,k*9+1+i,P⟩ (I Z v)) b g vb {S with word:=Pg.Fs.put S.word k i v}:=by
 have hh:∀j,j≠g->(w.setCell ⟨g,k*9+1+i,P⟩ (I Z v)).heap[j]?=w.heap[j]?:=fun j hj=>W _ _ _ _ hj;have kb:=hh b (Ne.symm h.n0)
 have hs:(w.setCell ⟨g,k*9+1+i,P⟩ (I Z v)).heap.size=w.heap.size:=by simp
 refine⟨(J kb).trans h.c0,(J kb).trans h.c1,(J kb).trans h.c2,
  fun o=>by simpa using h.fb o,fun o=>by simpa using h.f0 o,
  fun j a=>(N _ _ _ _ (fun he=>by injection he with _ he;omega)).trans (h.ci j a),fun j m a c=> ?_,
  zc h.own fun j e=>hh j (fun e'=>h.vb0 (e'▸e)),hs.symm▸h.l0,h.n0,h.vb0,h.vbb⟩
 show _=Y (kT Z (Pg.Fs.put S.word k i v j m))
 unfold Pg.Fs.put
 by_cases e:j=k/\m=i
 ·rw[if_pos e,e.1,e.2]
  exact D _ _ _ (h.cw k i hk hi)
 ·rw[if_neg e]
  exact(N _ _ _ _ (fun he=>e (by injection he with _ he;omega))).trans (h.cw j m a c)
end zQ
def vk:Array L:=#[V O,I Z 0,I Z 0,I Z 0,I Z 0,I Z 0,I Z 0,I Z 0,I Z 0]
theorem yd0 (k:Nat):vk[k*9%vk.size]! =V O:=by
 have:k*9%9=0:=by omega
 show vk[k*9%9]! =_
 rw[this];rfl
theorem yd1 (k i:Nat) (hi:i<8):vk[(k*9+1+i)%vk.size]! =I Z 0:=by
 have:(k*9+1+i)%9=i+1:=by omega
 show vk[(k*9+1+i)%9]! =_
 rw[this]
 match i,hi with
 | 0,_|1,_|2,_|3,_|4,_|5,_|6,_|7,_=>rfl
theorem zQ.made {w:T} {b g n:Nat} {t0 t2:TypeId} (hb:w.heap[b]?=Y (.cells #[z (Y ⟨g,0,P⟩) n n,z P 0 0,I B 0] t2 (0,0)))
 (h0:w.heap[g]?=Y (.cells (madeCells vk (n*9)) t0 (0,0))) (n0:g≠b):zQ w b g (z P 0 0) (Pg.Fs.new n):=by
 refine⟨?_,?_,?_,fun o=>by simp[kR,hb],fun o=>by simp[kR,h0],fun k hk=> ?_,fun k i hk hi=> ?_,World.ownsRow_nil _ _ _ _,(Array.getElem?_eq_some_iff.1 h0).1,n0,by simp[kJ],by simp[kJ]⟩
 ·rw[cell_of_row w b 0 _ _ _ hb];rfl
 ·rw[cell_of_row w b 1 _ _ _ hb];rfl
 ·rw[cell_of_row w b 2 _ _ _ hb];rfl
 ·have hk:k<n:=hk
  have hlt:k*9<n*9:=by omega
  rw[cell_of_row w g _ _ _ _ h0,madeCells];simp only[Array.getElem?_map,Array.getElem?_range,hlt,if_true,Option.map_some,yd0];rfl
 ·have hk:k<n:=hk
  have hlt:k*9+1+i<n*9:=by omega
  rw[cell_of_row w g _ _ _ _ h0,madeCells];simp only[Array.getElem?_map,Array.getElem?_range,hlt,if_true,Option.map_some,yd1 k i hi];rfl
def zh (w:T) (b:Nat) (S:Pg.Fs) (F:Nat->Prop):Prop:=∃g vb,zQ w b g vb S/\S.Ok/\F=frF b g vb
theorem zh.lt {w:T} {b:Nat} {S:Pg.Fs} {F:Nat->Prop} (h:zh w b S F) {k:Nat} (hk:F k):k<w.heap.size:=by
 obtain⟨g,vb,h,_,rfl⟩:=h;exact h.lt hk
theorem zh.ok {w:T} {b:Nat} {S:Pg.Fs} {F:Nat->Prop} (h:zh w b S F):S.Ok:=by
 obtain⟨g,vb,_,h,_⟩:=h;exact h
theorem zh.keep {w w':T} {b:Nat} {S:Pg.Fs} {F G:Nat->Prop} (h:zh w b S F) (hb:But G w w') (hF:∀k,F k->¬G k):zh w' b S F:=by
 obtain⟨g,vb,h,ok,rfl⟩:=h;exact⟨g,vb,h.keep hb hF,ok,rfl⟩
theorem zh.next {w w':T} {b g:Nat} {vb vb':L} {S':Pg.Fs} (h1:zQ w' b g vb' S') (ok:S'.Ok) (hb:But (frF b g vb) w w') (hv:vb'.ownBlock=vb.ownBlock\/∃k,vb'.ownBlock=Y k/\w.heap.size<=k):
 ∃F',zh w' b S' F'/\But (frF b g vb) w w'/\∀k,F' k->frF b g vb k\/w.heap.size<=k:=by
 refine⟨_,⟨g,vb',h1,ok,rfl⟩,hb,fun k hk=> ?_⟩;rcases hk with rfl|rfl|hk
 ·exact .inl (.inl rfl)
 ·exact .inl (.inr (.inl rfl))
 ·rcases hv with e|⟨j,e,hj⟩
  ·exact .inl (.inr (.inr (e▸hk)))
  ·rw[hk]at e
   cases e;exact .inr hj
theorem jv {b g:Nat} {vb:L} {S:Pg.Fs} (k:Int) (w:T) (h:zQ w b g vb S) (ok:S.Ok):
 K C 285 #[Q (Y ⟨b,0,P⟩),I B k] w fun e w'=>e=R (V (S.has k))/\w'=w:=by
 have hc0:=h.c0;have hn:=ok.small
 by_cases h0:0<=k
 ·obtain⟨m,rfl⟩:=A h0
  by_cases h1:m<S.n
  ·have hm:=h.ci m h1
   have HH:X (S.has (m:Int)=S.inn m):=by simp[X,Pg.Fs.has]
   have i0:(0:Int)<=(m:Int):=by omega
   have i1:(m:Int)<(S.n:Int):=by omega
   go_enter Tryz.func285,Tryz.ntmps285
   go_wp2_with fail
   go_ret
   exact⟨xJ HH.out.symm,rfl⟩
  ·have HH:X (S.has (m:Int)=O):=by
    cases hh:S.has (m:Int)
    ·rfl
    ·have:=ok.yiX hh
     omega
   have i1:¬(m:Int)<(S.n:Int):=by omega
   go_enter Tryz.func285,Tryz.ntmps285
   go_wp2_with fail
   go_ret
   exact⟨xJ HH.out.symm,rfl⟩
 ·have HH:X (S.has k=O):=by simp[X,Pg.Fs.has,h0]
  have d0:decide (0<=k)=O:=by simpa using h0
  go_enter Tryz.func285,Tryz.ntmps285
  go_wp2_with fail
  go_ret
  exact⟨xJ HH.out.symm,rfl⟩
theorem yeR {b g:Nat} {vb:L} {S:Pg.Fs} (w:T) (h:zQ w b g vb S) (ok:S.Ok):
 K C 117 #[Q (Y ⟨b,0,P⟩)] w fun e w'=>e=R (I B S.free)/\Below w.heap.size w w':=by
 have hc0:=h.c0;have hc1:=h.c1;have hc2:=h.c2;have hl:=ok.len;have ht:=ok.top;have hs:=ok.small;have HF:X (S.free=S.back.length+S.n-S.next):=rfl
 have hb:S.back.length<=128:=by omega
 have hx:S.next<=128:=by omega
 rcases h.own.2 with ⟨rfl,hlen⟩|⟨g,cap,cur,rfl,hg⟩
 ·rw[hlen]at HF
  clear hl ht hlen hb
  go_enter Tryz.func117,Tryz.ntmps117
  go_wp2_with fail
  go_quiet (fail)
  go_wp2_with fail
  go_ret
  refine⟨?_,below_drewN (zR _) _⟩;rw[HF.out]
  first|rfl|simp
 ·clear hl ht hg
  generalize S.back.length=m at*
  go_enter Tryz.func117,Tryz.ntmps117
  go_wp2_with fail
  go_quiet (fail)
  go_wp2_with fail
  go_ret
  exact⟨xm (by rw[HF.out]),below_drewN (zR _) _⟩
def Pg.Fs.picked (S:Pg.Fs):Pg.Fs:=match S.back.getLast? with
 | some k=>{S with back:=S.back.dropLast}
 | none=>if S.next<S.n then{S with next:=S.next+1}else S
theorem yeX {b g:Nat} {vb:L} {S:Pg.Fs} (w:T) (h:zQ w b g vb S) (ok:S.Ok):
 K C 169 #[Q (Y ⟨b,0,P⟩)] w fun e w'=>e=R (I B S.takeN)/\∃vb',zQ w' b g vb' S.picked/\But (frF b g vb) w w'/\vb'.ownBlock=vb.ownBlock:=by
 have hc0:=h.c0;have hc1:=h.c1;have hc2:=h.c2;have hfb:=h.fb;have hs:=ok.small;have ht:=ok.top
 by_cases hb:S.back=[]
 ·have ho:=h.own
  rw[hb]at ho
  by_cases hn:S.next<S.n
  ·have e1:S.takeN=(S.next:Int):=by simp[Pg.Fs.takeN,Pg.Fs.pick,hb,hn]
   have e2:S.picked={S with next:=S.next+1}:=by simp[Pg.Fs.picked,hb,hn]
   have fin:∀nq,X (∃vb',zQ ((w.drewN nq).setCell ⟨b,2,P⟩ (I B (S.next+1))) b g vb' S.picked/\But (frF b g vb) w ((w.drewN nq).setCell ⟨b,2,P⟩ (I B (S.next+1)))/\vb'.ownBlock=vb.ownBlock):=by
    intro nq;rw[e2];exact⟨vb,(h.drewN nq).setNext (S.next+1),(But.yhl (below_drewN (zR w) nq)).setCell (.inr (.inl rfl)) _,rfl⟩
   rw[e1]
   have i1:((S.next:Int)==(S.n:Int))=O:=by simp;omega
   clear e1 e2;rcases ho.2 with ⟨rfl,hlen⟩|⟨g',cap,cur,rfl,hg⟩
   all_goals
    clear ho h
    go_enter Tryz.func169,Tryz.ntmps169
    go_wp2_with fail
    go_quiet (fail)
    go_wp2_with fail
    go_ret
    exact⟨rfl,(fin _).out⟩
  ·have hnn:S.next=S.n:=by omega
   have e1:S.takeN= -1:=by simp[Pg.Fs.takeN,Pg.Fs.pick,hb,hn]
   have e2:S.picked=S:=by simp[Pg.Fs.picked,hb,hn]
   have fin:∀nq,X (∃vb',zQ (w.drewN nq) b g vb' S.picked/\But (frF b g vb) w (w.drewN nq)/\vb'.ownBlock=vb.ownBlock):=by
    intro nq;rw[e2];exact⟨vb,h.drewN nq,But.yhl (below_drewN (zR w) nq),rfl⟩
   rw[e1]
   have i1:((S.next:Int)==(S.n:Int))=d:=by simp;omega
   clear e1 e2;rcases ho.2 with ⟨rfl,hlen⟩|⟨g',cap,cur,rfl,hg⟩
   all_goals
    clear ho h
    go_enter Tryz.func169,Tryz.ntmps169
    go_wp2_with fail
    go_quiet (fail)
    go_wp2_with fail
    go_ret
    exact⟨rfl,(fin _).out⟩
 ·obtain⟨l,k,hl⟩:∃l k,S.back=l++[k]:=⟨_,_,(List.dropLast_concat_getLast hb).symm⟩
  have hk:k<S.n:=by
   have:=ok.ylm (k:=k) (by rw[hl];simp);omega
  have ho:=h.own
  have hlen:S.back.length=l.length+1:=by rw[hl];simp
  rw[hlen]at ho;obtain⟨g',cap,rfl,_,hgl⟩:=ho.form (by omega)
  have hcap:l.length+1<=cap:=by
   rcases ho.2 with ⟨h',_⟩|⟨g',cap',cur,h',_,_,hle,_⟩
   ·cases h'
   ·cases h';exact hle
  have hbd:S.back.length<=128:=by have:=ok.len;omega
  have hl128:l.length<128:=by omega
  have hck:w.cell? ⟨g',l.length,P⟩=Y (I B k):=by
   rw[ho.cellAt l.length (by omega),yeD,hl];simp
  have hpop:w.ownsRow 0 3 1 (z (Y ⟨g',0,P⟩) l.length cap) l.length (yeD l):=by
   have e:yeD S.back=yeD l++[I B (k:Int)]:=by simp[yeD,hl]
   rw[e]at ho;exact ownsRow_pop (by simp[yeD]) ho
  have e1:S.takeN=(k:Int):=by simp[Pg.Fs.takeN,Pg.Fs.pick,hl]
  have e2:S.picked={S with back:=l}:=by simp[Pg.Fs.picked,hl]
  have fin:X (∃vb',zQ (w.setCell ⟨b,1,P⟩ (z (Y ⟨g',0,P⟩) l.length cap)) b g vb' S.picked/\But (frF b g (z (Y ⟨g',0,P⟩) (l.length+1) cap)) w (w.setCell ⟨b,1,P⟩ (z (Y ⟨g',0,P⟩) l.length cap))/\vb'.ownBlock=(kN (Y ⟨g',0,P⟩) (l.length+1) cap).ownBlock):=by
   rw[e2];exact⟨_,h.setBack hpop h.vb0 h.vbb,(But.refl _ w).setCell (.inr (.inl rfl)) _,rfl⟩
  rw[e1]
  have j1:(l.length:Int)<=(cap:Int):=by omega
  have j0:(0:Int)<=(l.length:Int):=by omega
  clear ho h hpop hlen hl hb e1 e2;generalize l.length=m at*
  go_enter Tryz.func169,Tryz.ntmps169
  go_wp2_with fail
  go_ret
  exact⟨rfl,fin.out⟩
theorem ya0 {b g:Nat} {vb:L} {S:Pg.Fs} (k i:Int) (w:T) (h:zQ w b g vb S) (ok:S.Ok):
 K C 278 #[Q (Y ⟨b,0,P⟩),I B k,I B i] w fun e w'=>e=R (.pointer (bif S.at' k i then Y ⟨g,k.toNat*9+1+i.toNat,P⟩else P))/\w'=w:=by
 have HT:=jv k w h ok;have hc0:=h.c0;have hs:=ok.small;cases e1:S.has k
 ·have HA:X (S.at' k i=O):=by simp[X,Pg.Fs.at',e1]
  rw[HA.out];rw[e1]at HT;clear e1 h
  go_enter Tryz.func278,Tryz.ntmps278
  go_wp2_with (go_at_call 285;refine HT.mono ?_;rintro e w' ⟨rfl,hw⟩;subst w')
  go_ret
  exact⟨rfl,rfl⟩
 ·rw[e1]at HT
  by_cases h0:0<=i
  ·by_cases h8:i<8
   ·have HA:X (S.at' k i=d):=by simp[X,Pg.Fs.at',e1,h0,h8]
    rw[HA.out];obtain⟨k0,k1,_⟩:=ok.yiX e1;obtain⟨a,rfl⟩:=A k0;obtain⟨c,rfl⟩:=A h0
    have i0:(0:Int)<=(a:Int):=by omega
    have i1:(a:Int)<(S.n:Int):=by omega
    have hl:¬(c:Int)<0:=by omega
    have hl8:¬(8:Int)<=(c:Int):=by omega
    clear e1 h
    go_enter Tryz.func278,Tryz.ntmps278
    go_wp2_with (go_at_call 285;refine HT.mono ?_;rintro e w' ⟨rfl,hw⟩;subst w')
    go_ret
    exact⟨rfl,rfl⟩
   ·have HA:X (S.at' k i=O):=by simp[X,Pg.Fs.at',h8]
    rw[HA.out]
    have hl:¬i<0:=by omega
    have hl8:(8:Int)<=i:=by omega
    clear e1 h
    go_enter Tryz.func278,Tryz.ntmps278
    go_wp2_with (go_at_call 285;refine HT.mono ?_;rintro e w' ⟨rfl,hw⟩;subst w')
    go_ret
    exact⟨rfl,rfl⟩
  ·have HA:X (S.at' k i=O):=by simp[X,Pg.Fs.at',h0]
   rw[HA.out]
   have hl:i<0:=by omega
   clear e1 h
   go_enter Tryz.func278,Tryz.ntmps278
   go_wp2_with (go_at_call 285;refine HT.mono ?_;rintro e w' ⟨rfl,hw⟩;subst w')
   go_ret
   exact⟨rfl,rfl⟩
theorem vj {b:Nat} {S:Pg.Fs} {F:Nat->Prop} (k:Int) (w:T) (h:zh w b S F):
 K C 285 #[Q (Y ⟨b,0,P⟩),I B k] w fun e w'=>e=R (V (S.has k))/\Below w.heap.size w w':=by
 obtain⟨g,vb,h,ok,rfl⟩:=h;exact zV (jv k w h ok)
theorem yat {b:Nat} {S:Pg.Fs} {F:Nat->Prop} (w:T) (h:zh w b S F):
 K C 117 #[Q (Y ⟨b,0,P⟩)] w fun e w'=>e=R (I B S.free)/\Below w.heap.size w w':=by
 obtain⟨g,vb,h,ok,rfl⟩:=h;exact yeR w h ok
def yfj:List L:=[V d,I Z 0,I Z 0,I Z 0,I Z 0,I Z 0,I Z 0,I Z 0,I Z 0]
theorem yfk:∀j:Nat,j<8->yfj[j+1]?=Y (I Z 0)
 | 0,_|1,_|2,_|3,_|4,_|5,_|6,_|7,_=>rfl
 | j+8,hj=>absurd hj (by omega)
theorem yav {b:Nat} {S:Pg.Fs} {F:Nat->Prop} (w:T) (h:zh w b S F):
 K C 136 #[Q (Y ⟨b,0,P⟩)] w fun e w'=>e=R (I B S.takeN)/\∃F',zh w' b S.take F'/\But F w w'/\∀k,F' k->F k\/w.heap.size<=k:=by
 obtain⟨g,vb,h,ok,rfl⟩:=h;have HN:=yeX w h ok
 cases hp:S.pick with
 | none=>
   have e1:S.takeN= -1:=by simp[Pg.Fs.takeN,hp]
   have e2:S.picked=S/\S.take=S:=by
    unfold Pg.Fs.pick at hp
    cases hb:S.back.getLast? with
    | some k=>rw[hb]at hp;cases hp
    | none=>
      rw[hb]at hp
      by_cases hn:S.next<S.n
      ·simp[hn]at hp
      ·simp[Pg.Fs.picked,Pg.Fs.take,hb,hn]
   rw[e1]at HN ⊢;rw[e2.1]at HN;rw[e2.2];clear e1 e2 h
   go_enter Tryz.func136,Tryz.ntmps136
   go_wp2_with fail
   refine HN.mono ?_;rintro e w1 ⟨rfl,vb1,h1,hb1,hv1⟩;have fin:X _:=zh.next h1 ok hb1 (.inl hv1);clear h1 hb1 hv1
   go_wp2_with fail
   go_ret
   exact⟨rfl,fin.out⟩
 | some k=>
   have e1:S.takeN=(k:Int):=by simp[Pg.Fs.takeN,hp]
   have hk:=(ok.ylD hp).1
   have e2:S.take={S.picked with used:=k::S.picked.used,word:=Pg.Fs.clear S.picked.word k}/\S.picked.n=S.n:=by
    unfold Pg.Fs.pick at hp
    cases hb:S.back.getLast? with
    | some j=>
      rw[hb]at hp;cases hp;simp[Pg.Fs.picked,Pg.Fs.take,hb]
    | none=>
      rw[hb]at hp
      by_cases hn:S.next<S.n
      ·simp[hn]at hp
       subst hp;simp[Pg.Fs.picked,Pg.Fs.take,hb,hn]
      ·simp[hn]at hp
   have hs:=ok.small
   have i0:(0:Int)<=(k:Int):=by omega
   have i1:(k:Int)<(S.n:Int):=by omega
   have i2:((k:Int)== -1)=O:=by simp
   rw[e1]at HN ⊢;clear e1 h
   go_enter Tryz.func136,Tryz.ntmps136
   go_wp2_with fail
   refine HN.mono ?_;rintro e w1 ⟨rfl,vb1,h1,hb1,hv1⟩;have hc0:=h1.c0;rw[e2.2]at hc0;have hf0:=h1.f0
   have hkp:k<S.picked.n:=by rw[e2.2];exact hk
   have t0:=h1.ci k hkp;have t1:=h1.cw k 0 hkp (by omega);have t2:=h1.cw k 1 hkp (by omega);have t3:=h1.cw k 2 hkp (by omega);have t4:=h1.cw k 3 hkp (by omega);have t5:=h1.cw k 4 hkp (by omega);have t6:=h1.cw k 5 hkp (by omega);have t7:=h1.cw k 6 hkp (by omega);have t8:=h1.cw k 7 hkp (by omega)
   have fin:X (∃F',zh (w1.setCells g (k*9) yfj) b S.take F'/\But (frF b g vb) w (w1.setCells g (k*9) yfj)/\∀k,F' k->frF b g vb k\/w.heap.size<=k):=by
    refine zh.next (vb':=vb1) ?_ ok.take (But.setCells g (.inr (.inr (.inl rfl))) _ _ _ hb1) (.inl hv1);rw[e2.1];exact h1.fill hkp yfj rfl rfl yfk
   clear h1 hb1 hv1 HN e2
   go_wp2_with fail
   go_ret
   exact⟨rfl,fin.out⟩
theorem yeT:(Tryz.prog.info? 3).map (fun i=>(i.zero,i.size,i.bytes))=Y (Y (I B 0),1,8):=by kernel_rfl
theorem yeS {b g:Nat} {vb:L} {S:Pg.Fs} (m:Nat) (w:T) (h:zQ w b g vb S) (ok:S.Ok) (hh:S.has (m:Int)=d):
 K C 264 #[Q (Y ⟨b,0,P⟩),I B (m:Int)] w fun e w'=>e=R (V d)/\∃F',zh w' b (S.give (m:Int)) F'/\But (frF b g vb) w w'/\∀k,F' k->frF b g vb k\/w.heap.size<=k:=by
 have hc0:=h.c0;have hfb:=h.fb;have hf0:=h.f0;have hs:=ok.small;have n0:=h.n0
 have hn:m<S.n:=by have:=ok.yiX hh;omega
 have hi:=h.ci m hn
 have i0:(0:Int)<=(m:Int):=by omega
 have i1:(m:Int)<(S.n:Int):=by omega
 have hT:=jv (m:Int) w h ok;rw[hh]at hT
 have hl:∀j,decide (j ∈ S.used.erase m)=if j=m then O else S.inn j:=by
  intro j;have hnd:S.used.Nodup:=(List.nodup_append.1 ok.nodup).1
  by_cases e:j=m
  ·simp[e,hnd.mem_erase_iff]
  ·simp[e,hnd.mem_erase_iff,Pg.Fs.inn]
 have hM:=h.mark hn O (S.used.erase m) hl
 have hbd:S.back.length<=128:=by have:=ok.len;have:=ok.top;omega
 have hown:=hM.own;have hc1:=hM.c1;have hlb:=hM.lb;obtain⟨q0,hq,hz0,hz1,hz2⟩:=info_parts yeT;have HM:X _:=hM;have HX:X _:=hh;clear hM h hl hh
 go_enter Tryz.func264,Tryz.ntmps264
 go_wp2_with (first
  | (go_at_call 285;refine hT.mono ?_;rintro e w' ⟨rfl,hw⟩;subst w')
  | (at_builtin;refine wpList_append_lies _ rfl _ _ 58 rfl 0 3 q0 (I B 0) 1 8 Tryz.underlying58 hq hz0 hz1 hz2 rfl (by decide) _ _ _ rfl (hown.alloc _) ⟨w.heap.size,0,P⟩ 1 1 [I B (m:Int)] rfl rfl ?c1 ?c2 (by decide) ?c3 ?c4 (Nat.zero_le _) (w.heap.size+1) (by simp) ?_))
 case c1=>
  intro j u hj
  match j,hj with
  | 0,hj=>simp at hj;subst hj;simp[Addr.add,go_sem]
 case c2=>intro u hu;simp at hu;subst hu;rfl
 case c3=>unfold maxLen;omega
 case c4=>omega
 intro g' cap w3 hown3 hgrow hat hlt;have h1:=HM.out
 have hk:∀k,k=b\/k=g->w3.heap[k]?=(w.setCell ⟨g,m*9,P⟩ (V O)).heap[k]?:=by
  intro k hk
  have hkl:k<(w.setCell ⟨g,m*9,P⟩ (V O)).heap.size:=by
   rcases hk with rfl|rfl
   ·exact h1.lb
   ·exact h1.l0
  have hkv:Y k≠vb.ownBlock:=by
   rcases hk with rfl|rfl
   ·exact fun e=>h1.vbb e.symm
   ·exact fun e=>h1.vb0 e.symm
  rw[hgrow.block k (by simp at hkl ⊢;omega) hkv];exact Below.heap_alloc _ _ _ hkl
 have hsz:(w.setCell ⟨g,m*9,P⟩ (V O)).heap.size=w.heap.size:=by simp
 have hne:∀k,k=b\/k=g->(kN (Y ⟨g',0,P⟩) (S.back.length+1) cap).ownBlock≠Y k:=by
  intro k hk e
  have e:g'=k:=by simpa[kJ]using e
  subst e;rcases hat with hat|hat
  ·rcases hk with rfl|rfl
   ·exact h1.vbb hat
   ·exact h1.vb0 hat
  ·have:=h1.lb;have:=h1.l0
   omega
 have hG:=h1.grow (w':=w3) (l:=S.back++[m]) (by have:=hgrow.size;simp at this ⊢;omega) hk (by simpa[yeD]using hown3) (hne g (.inr rfl)) (hne b (.inl rfl));have kc:w3.cell? ⟨b,1,P⟩=Y vb:=(J (hk b (.inl rfl))).trans h1.c1;have kf:w3.frozen? ⟨b,1,P⟩=O:=(M (hk b (.inl rfl))).trans (h1.fb 1)
 have fin:X (∃F',zh (w3.setCell ⟨b,1,P⟩ (z (Y ⟨g',0,P⟩) (S.back.length+1) cap)) b (S.give (m:Int)) F'/\But (frF b g vb) w (w3.setCell ⟨b,1,P⟩ (z (Y ⟨g',0,P⟩) (S.back.length+1) cap))/\∀k,F' k->frF b g vb k\/w.heap.size<=k):=by
  have e:S.give (m:Int)={{S with used:=S.used.erase m}with back:=S.back++[m]}:=by
   simp[Pg.Fs.give,HX.out]
  refine zh.next (vb':=z (Y ⟨g',0,P⟩) (S.back.length+1) cap) (by rw[e];exact hG) (ok.give _) ?_ ?_
  ·refine(((((But.refl _ w).setCell (.inr (.inr (.inl rfl))) _).alloc _).grown hgrow fun k hk=> .inr (.inr (.inr hk)))).setCell (.inr (.inl rfl)) _
  ·rcases hat with hat|hat
   ·exact .inl hat.symm
   ·exact .inr ⟨g',rfl,by omega⟩
 clear hk hne hG h1 hown3 hgrow hown hc1 hat hlt
 go_wp2_with fail
 go_ret
 exact⟨rfl,fin.out⟩
theorem ydf {b:Nat} {S:Pg.Fs} {F:Nat->Prop} (k:Int) (w:T) (h:zh w b S F):
 K C 264 #[Q (Y ⟨b,0,P⟩),I B k] w fun e w'=>e=R (V (S.has k))/\∃F',zh w' b (S.give k) F'/\But F w w'/\∀k,F' k->F k\/w.heap.size<=k:=by
 obtain⟨g,vb,h,ok,rfl⟩:=h;cases hh:S.has k
 ·have hT:=jv k w h ok
  rw[hh]at hT
  have e:S.give k=S:=by simp[Pg.Fs.give,hh]
  rw[e];have fin:X _:=zh.next h ok (But.refl (frF b g vb) w) (.inl rfl);clear h
  go_enter Tryz.func264,Tryz.ntmps264
  go_wp2_with (go_at_call 285;refine hT.mono ?_;rintro e w' ⟨rfl,hw⟩;subst w')
  go_ret
  exact⟨rfl,fin.out⟩
 ·obtain⟨m,rfl⟩:=A (ok.yiX hh).1
  exact yeS m w h ok hh
theorem jf {b:Nat} {S:Pg.Fs} {F:Nat->Prop} (k i:Int) (w:T) (h:zh w b S F):
 K C 247 #[Q (Y ⟨b,0,P⟩),I B k,I B i] w fun e w'=>e=R (kC #[I Z (S.load k i),V (S.at' k i)])/\w'=w:=by
 obtain⟨g,vb,h,ok,rfl⟩:=h;have HW:=ya0 k i w h ok;cases hh:S.at' k i
 ·have e:S.load k i=0:=by simp[Pg.Fs.load,hh]
  rw[e];rw[hh]at HW;simp only[cond]at HW;clear h
  go_enter Tryz.func247,Tryz.ntmps247
  go_wp2_with (go_at_call 278;refine HW.mono ?_;rintro e w' ⟨rfl,hw⟩;subst w')
  go_ret2
  exact⟨rfl,rfl⟩
 ·have e:S.load k i=S.word k.toNat i.toNat:=by simp[Pg.Fs.load,hh]
  rw[e];rw[hh]at HW;simp only[cond]at HW;obtain⟨k0,k1,i0,i8,_⟩:=ok.yl0 hh;have hc:=h.cw k.toNat i.toNat (by omega) (by omega);clear h;generalize S.word k.toNat i.toNat=v at*;generalize k.toNat*9+1+i.toNat=o at*
  go_enter Tryz.func247,Tryz.ntmps247
  go_wp2_with (go_at_call 278;refine HW.mono ?_;rintro e w' ⟨rfl,hw⟩;subst w')
  go_ret2
  exact⟨rfl,rfl⟩
theorem yau {b:Nat} {S:Pg.Fs} {F:Nat->Prop} (k i:Int) (w:T) (h:zh w b S F):
 K C 247 #[Q (Y ⟨b,0,P⟩),I B k,I B i] w fun e w'=>e=R (kC #[I Z (S.load k i),V (S.at' k i)])/\Below w.heap.size w w':=zV (jf k i w h)
theorem ycc {b:Nat} {S:Pg.Fs} {F:Nat->Prop} (k i v:Int) (h0:0<=v) (h1:v<18446744073709551616) (w:T) (h:zh w b S F):
 K C 252 #[Q (Y ⟨b,0,P⟩),I B k,I B i,I Z v] w fun e w'=>e=R (V (S.at' k i))/\∃F',zh w' b (S.store k i v) F'/\But F w w'/\∀k,F' k->F k\/w.heap.size<=k:=by
 obtain⟨g,vb,h,ok,rfl⟩:=h;have HW:=ya0 k i w h ok;cases hh:S.at' k i
 ·have e:S.store k i v=S:=by simp[Pg.Fs.store,hh]
  rw[e];rw[hh]at HW;simp only[cond]at HW;have fin:X _:=zh.next h ok (But.refl (frF b g vb) w) (.inl rfl);clear h
  go_enter Tryz.func252,Tryz.ntmps252
  go_wp2_with (go_at_call 278;refine HW.mono ?_;rintro e w' ⟨rfl,hw⟩;subst w')
  go_ret
  exact⟨rfl,fin.out⟩
 ·have e:S.store k i v={S with word:=Pg.Fs.put S.word k.toNat i.toNat v}:=by simp[Pg.Fs.store,hh]
  have ok':=ok.store k i h0 h1;rw[e]at ok' ⊢;rw[hh]at HW;simp only[cond]at HW;obtain⟨k0,k1,i0,i8,_⟩:=ok.yl0 hh;have hc:=h.cw k.toNat i.toNat (by omega) (by omega);have hf:=h.f0 (k.toNat*9+1+i.toNat)
  have fin:X (∃F',zh (w.setCell ⟨g,k.toNat*9+1+i.toNat,P⟩ (I Z v)) b {S with word:=Pg.Fs.put S.word k.toNat i.toNat v} F'/\But (frF b g vb) w (w.setCell ⟨g,k.toNat*9+1+i.toNat,P⟩ (I Z v))/\∀k,F' k->frF b g vb k\/w.heap.size<=k):=
   zh.next (h.put (by omega) (by omega) v) ok' ((But.refl _ w).setCell (.inr (.inr (.inl rfl))) _) (.inl rfl)
  clear h;generalize k.toNat*9+1+i.toNat=o at*
  go_enter Tryz.func252,Tryz.ntmps252
  go_wp2_with (go_at_call 278;refine HW.mono ?_;rintro e w' ⟨rfl,hw⟩;subst w')
  go_ret
  exact⟨rfl,fin.out⟩
theorem ydg {b:Nat} {S:Pg.Fs} {F:Nat->Prop} (k i old v:Int) (h0:0<=v) (h1:v<18446744073709551616) (w:T) (h:zh w b S F):
 K C 287 #[Q (Y ⟨b,0,P⟩),I B k,I B i,I Z old,I Z v] w fun e w'=>e=R (V (S.swaps k i old))/\∃F',zh w' b (S.swap k i old v) F'/\But F w w'/\∀k,F' k->F k\/w.heap.size<=k:=by
 obtain⟨g,vb,h,ok,rfl⟩:=h;have HW:=ya0 k i w h ok;cases hh:S.at' k i
 ·have es:S.swaps k i old=O:=by simp[Pg.Fs.swaps,hh]
  have e:S.swap k i old v=S:=by simp[Pg.Fs.swap,es]
  rw[e,es];rw[hh]at HW;simp only[cond]at HW;have fin:X _:=zh.next h ok (But.refl (frF b g vb) w) (.inl rfl);clear h
  go_enter Tryz.func287,Tryz.ntmps287
  go_wp2_with (go_at_call 278;refine HW.mono ?_;rintro e w' ⟨rfl,hw⟩;subst w')
  go_ret
  exact⟨rfl,fin.out⟩
 ·rw[hh]at HW
  simp only[cond]at HW;obtain⟨k0,k1,i0,i8,_⟩:=ok.yl0 hh;have hc:=h.cw k.toNat i.toNat (by omega) (by omega);have hf:=h.f0 (k.toNat*9+1+i.toNat)
  by_cases hw:S.word k.toNat i.toNat=old
  ·have es:S.swaps k i old=d:=by simp[Pg.Fs.swaps,hh,hw]
   have e:S.swap k i old v={S with word:=Pg.Fs.put S.word k.toNat i.toNat v}:=by simp[Pg.Fs.swap,es]
   have ok':=ok.swap k i old h0 h1;rw[e]at ok' ⊢;rw[es]
   have fin:X (∃F',zh (w.setCell ⟨g,k.toNat*9+1+i.toNat,P⟩ (I Z v)) b {S with word:=Pg.Fs.put S.word k.toNat i.toNat v} F'/\But (frF b g vb) w (w.setCell ⟨g,k.toNat*9+1+i.toNat,P⟩ (I Z v))/\∀k,F' k->frF b g vb k\/w.heap.size<=k):=
    zh.next (h.put (by omega) (by omega) v) ok' ((But.refl _ w).setCell (.inr (.inr (.inl rfl))) _) (.inl rfl)
   clear h;rw[hw]at hc;generalize k.toNat*9+1+i.toNat=o at*;clear hw
   go_enter Tryz.func287,Tryz.ntmps287
   go_wp2_with (go_at_call 278;refine HW.mono ?_;rintro e w' ⟨rfl,hw⟩;subst w')
   go_ret
   exact⟨rfl,fin.out⟩
  ·have es:S.swaps k i old=O:=by simp[Pg.Fs.swaps,hw]
   have e:S.swap k i old v=S:=by simp[Pg.Fs.swap,es]
   rw[e,es];have fin:X _:=zh.next h ok (But.refl (frF b g vb) w) (.inl rfl);clear h
   have hne:(S.word k.toNat i.toNat==old)=O:=by simpa using hw
   generalize S.word k.toNat i.toNat=x at*;generalize k.toNat*9+1+i.toNat=o at*;clear hw
   go_enter Tryz.func287,Tryz.ntmps287
   go_wp2_with (go_at_call 278;refine HW.mono ?_;rintro e w' ⟨rfl,hw⟩;subst w')
   go_ret
   exact⟨rfl,fin.out⟩
theorem ydZ (n:Int) (hn:n<0\/128<n) (w:T):
 K C 135 #[I B n] w fun e w'=>e=R (kC #[Q P,y #[I B 1,I B (-1)]])/\Below w.heap.size w w':=by
 by_cases h0:n<0
 ·go_enter Tryz.func135,Tryz.ntmps135
  go_wp2_with fail
  refine kI (v:=kC #[Q P,y #[I B 1,I B (-1)]]) ?_ rfl ⟨rfl,?_⟩
  ·simp[results,Tryz.results135,go_sem]
  ·exact zA (zR w) _
 ·have h1:128<n:=by omega
  go_enter Tryz.func135,Tryz.ntmps135
  go_wp2_with fail
  refine kI (v:=kC #[Q P,y #[I B 1,I B (-1)]]) ?_ rfl ⟨rfl,?_⟩
  ·simp[results,Tryz.results135,go_sem]
  ·exact zA (zR w) _
theorem yd4:(Tryz.prog.info? 285).map (fun i=>(i.zero,i.size,i.bytes))=Y (Y (y #[V O,I Z 0,I Z 0,I Z 0,I Z 0,I Z 0,I Z 0,I Z 0,I Z 0]),9,72):=by kernel_rfl
theorem ydY (n:Nat) (hn:n<=128) (w:T):
 K C 135 #[I B (n:Int)] w fun e w'=>∃b F,e=R (kC #[Q (Y ⟨b,0,P⟩),y #[I B 0,I B 0]])/\zh w' b (Pg.Fs.new n) F/\Below w.heap.size w w'/\∀k,F k->w.heap.size<=k:=by
 obtain⟨q0,hq,hz0,hz1,hz2⟩:=info_parts yd4
 have m0:∀w:T,(Instr.makeSlice 259 (I B (n:Int)) (I B (n:Int))).run C w=_:=fun w=>
  run_make w 259 285 q0 _ Tryz.underlying259 hq hz0 B B n n (by omega) (Int.le_refl _) (by rw[hz2];omega) (by omega)
 rw[hz1]at m0;simp only[Int.toNat_natCast]at m0
 have d0:¬(n:Int)<0:=by omega
 have d1:¬(128:Int)<(n:Int):=by omega
 go_enter Tryz.func135,Tryz.ntmps135
 go_wp2_with fail
 refine kI (v:=kC #[Q (Y ⟨w.heap.size+1+1,0,P⟩),y #[I B 0,I B 0]]) ?_ rfl ?_
 ·simp[results,Tryz.results135,go_sem]
 refine⟨w.heap.size+1+1,rfl,frF (w.heap.size+1+1) (w.heap.size+1) (z P 0 0),⟨w.heap.size+1,z P 0 0,?_,Pg.Fs.ylW n hn,rfl⟩,?_,?_⟩
 ·refine zQ.made (t0:=285) (t2:=261) ?_ ?_ (by omega)
  ·exact(ycB w _ _ _).2.2
  ·exact(ycB w _ _ _).2.1
 ·exact zA (zA (zA (zR w) _) _) _
 ·intro k hk
  rcases hk with rfl|rfl|hk
  ·omega
  ·omega
  ·simp[kJ]at hk
end
theorem zn (n e:Int) (w:T):
 K C 246 #[I B n,I B e] w fun r w'=>r=R (V (Pg.below n e))/\w'=w:=by
 by_cases h:0<=n
 ·have hd:decide (0<=n)=d:=by simpa using h
  go_enter Tryz.func246,Tryz.ntmps246
  go_wp2
  go_ret
  exact⟨by simp[Pg.below,hd],rfl⟩
 ·have hd:decide (0<=n)=O:=by simpa using h
  go_enter Tryz.func246,Tryz.ntmps246
  go_wp2
  go_ret
  exact⟨by simp[Pg.below,hd],rfl⟩
theorem xn (s:Int) (w:T):
 K C 174 #[I B s] w fun r w'=>r=R (I B (Pg.span s))/\w'=w:=by
 go_enter Tryz.func174,Tryz.ntmps174
 go_wp2
 all_goals
  go_ret
  exact⟨by simp_all[Pg.span],rfl⟩
theorem zN (n:Int) (w:T):
 K C 208 #[I B n] w fun r w'=>r=R (V (Pg.below n 4096))/\w'=w:=by
 go_enter Tryz.func208,Tryz.ntmps208
 go_wp2_with (go_at_call 246;refine(zn _ _ _).mono ?_;rintro e w' ⟨rfl,rfl⟩)
 go_ret
 exact⟨rfl,rfl⟩
theorem zy (n:Int) (w:T):
 K C 254 #[I B n] w fun r w'=>r=R (V (Pg.below n 8))/\w'=w:=by
 go_enter Tryz.func254,Tryz.ntmps254
 go_wp2_with (go_at_call 246;refine(zn _ _ _).mono ?_;rintro e w' ⟨rfl,rfl⟩)
 go_ret
 exact⟨rfl,rfl⟩
theorem ydi (k:Int) (w:T):
 K C 255 #[I B k] w fun r w'=>r=R (V (Pg.isKind k))/\w'=w:=by
 by_cases h0:(k==0)=d
 ·go_enter Tryz.func255,Tryz.ntmps255
  go_wp2
  go_ret
  exact⟨by simp[Pg.isKind,h0],rfl⟩
 ·have h0:(k==0)=O:=by simpa using h0
  by_cases h1:(k==1)=d
  ·go_enter Tryz.func255,Tryz.ntmps255
   go_wp2
   go_ret
   exact⟨by simp[Pg.isKind,h1],rfl⟩
  ·have h1:(k==1)=O:=by simpa using h1
   go_enter Tryz.func255,Tryz.ntmps255
   go_wp2
   go_ret
   exact⟨by simp[Pg.isKind,h0,h1],rfl⟩
theorem yeI (p k:Int) (u:Bool) (w:T):
 K C 284 #[y #[I B p,I B k,V u]] w fun r w'=>r=R (I B (Pg.asks k u:Int))/\Below w.heap.size w w':=by
 cases u
 all_goals
  go_enter Tryz.func284,Tryz.ntmps284
  go_wp2
  all_goals
   go_ret
   exact⟨by simp_all[Pg.asks]<;>rfl,(E _ _).alloc (U _) _⟩
theorem qS (p s f r q:Int) (hp:Pg.fits p) (hq:Pg.fits q) (w:T):
 K C 258 #[y #[I B p,I B s,I B f,I B r],I B q] w fun e w'=>e=R (V (Pg.over p s q))/\Below w.heap.size w w':=by
 have hs:=Pg.yhP s
 by_cases h:p<=q
 ·have hd:decide (p<=q)=d:=by simpa using h
  go_enter Tryz.func258,Tryz.ntmps258
  go_wp2
  go_quiet ((go_at_call 174;exact Calls.quiet_of_same (xn _ _)))
  go_wp2
  go_ret
  exact⟨by rw[<-Pg.over_yes hp hq h];rfl,below_drewN ((E _ _).alloc (U _) _) _⟩
 ·have hd:decide (p<=q)=O:=by simpa using h
  go_enter Tryz.func258,Tryz.ntmps258
  go_wp2
  go_quiet ((go_at_call 174;exact Calls.quiet_of_same (xn _ _)))
  go_wp2
  go_ret
  exact⟨by rw[Pg.over_no hd];rfl,below_drewN ((E _ _).alloc (U _) _) _⟩
theorem zE (p s f r:Int) (w:T):
 K C 220 #[y #[I B p,I B s,I B f,I B r]] w fun e w'=>e=R (I B (Pg.check p s f r))/\Below w.heap.size w w':=by
 have hs:=Pg.yhP s
 by_cases h0:Pg.span s=0
 ·have hb:(Pg.span s==0)=d:=by simpa using h0
  have H:X (Pg.span s=0):=h0;clear h0
  go_enter Tryz.func220,Tryz.ntmps220
  go_wp2_with (first
   | (go_at_call 174;refine(xn _ _).mono ?_;rintro e w' ⟨rfl,rfl⟩)
   | (go_at_call 208;refine(zN _ _).mono ?_;rintro e w' ⟨rfl,rfl⟩)
   | (go_at_call 246;refine(zn _ _ _).mono ?_;rintro e w' ⟨rfl,rfl⟩)
   | (go_at_call 254;refine(zy _ _).mono ?_;rintro e w' ⟨rfl,rfl⟩))
  go_ret
  exact⟨by rw[Pg.check_kind H.out];rfl,(E _ _).alloc (U _) _⟩
 ·have hb:(Pg.span s==0)=O:=by simpa using h0
  have H:X (Pg.span s≠0):=h0
  have h1:1<=Pg.span s:=by omega
  clear h0
  by_cases hr:(!Pg.below p 4096|| !Pg.below f 1048576|| !Pg.below r 8)=d
  ·have HR:X ((!Pg.below p 4096|| !Pg.below f 1048576|| !Pg.below r 8)=d):=hr
   clear hr;cases b1:Pg.below p 4096
   ·go_enter Tryz.func220,Tryz.ntmps220
    go_wp2_with (first
     | (go_at_call 174;refine(xn _ _).mono ?_;rintro e w' ⟨rfl,rfl⟩)
     | (go_at_call 208;refine(zN _ _).mono ?_;rintro e w' ⟨rfl,rfl⟩)
     | (go_at_call 246;refine(zn _ _ _).mono ?_;rintro e w' ⟨rfl,rfl⟩)
     | (go_at_call 254;refine(zy _ _).mono ?_;rintro e w' ⟨rfl,rfl⟩))
    go_ret
    exact⟨by rw[Pg.yiw H.out HR.out];rfl,(E _ _).alloc (U _) _⟩
   ·cases b2:Pg.below f 1048576
    ·go_enter Tryz.func220,Tryz.ntmps220
     go_wp2_with (first
      | (go_at_call 174;refine(xn _ _).mono ?_;rintro e w' ⟨rfl,rfl⟩)
      | (go_at_call 208;refine(zN _ _).mono ?_;rintro e w' ⟨rfl,rfl⟩)
      | (go_at_call 246;refine(zn _ _ _).mono ?_;rintro e w' ⟨rfl,rfl⟩)
      | (go_at_call 254;refine(zy _ _).mono ?_;rintro e w' ⟨rfl,rfl⟩))
     go_ret
     exact⟨by rw[Pg.yiw H.out HR.out];rfl,(E _ _).alloc (U _) _⟩
    ·cases b3:Pg.below r 8
     ·go_enter Tryz.func220,Tryz.ntmps220
      go_wp2_with (first
       | (go_at_call 174;refine(xn _ _).mono ?_;rintro e w' ⟨rfl,rfl⟩)
       | (go_at_call 208;refine(zN _ _).mono ?_;rintro e w' ⟨rfl,rfl⟩)
       | (go_at_call 246;refine(zn _ _ _).mono ?_;rintro e w' ⟨rfl,rfl⟩)
       | (go_at_call 254;refine(zy _ _).mono ?_;rintro e w' ⟨rfl,rfl⟩))
      go_ret
      exact⟨by rw[Pg.yiw H.out HR.out];rfl,(E _ _).alloc (U _) _⟩
     ·exact absurd HR.out (by simp[b1,b2,b3])
  ·have b1:Pg.below p 4096=d:=by cases h:Pg.below p 4096<;>simp_all
   have b2:Pg.below f 1048576=d:=by cases h:Pg.below f 1048576<;>simp_all
   have b3:Pg.below r 8=d:=by cases h:Pg.below r 8<;>simp_all
   clear hr;have c1:=Pg.zB.1 b1;have c2:=Pg.zB.1 b2;have HA:X (Pg.check p s f r=if p%Pg.span s=0/\f%Pg.span s=0 then 0 else 3):=Pg.yie H.out b1 b2 b3
   by_cases d1:p%Pg.span s=0
   ·have e1:(p%Pg.span s !=0)=O:=by simp[d1]
    have D1:X (p%Pg.span s=0):=d1;clear d1
    by_cases d2:f%Pg.span s=0
    ·have e2:(f%Pg.span s !=0)=O:=by simp[d2]
     have D2:X (f%Pg.span s=0):=d2;clear d2
     go_enter Tryz.func220,Tryz.ntmps220
     go_wp2_with (first
      | (go_at_call 174;refine(xn _ _).mono ?_;rintro e w' ⟨rfl,rfl⟩)
      | (go_at_call 208;refine(zN _ _).mono ?_;rintro e w' ⟨rfl,rfl⟩)
      | (go_at_call 246;refine(zn _ _ _).mono ?_;rintro e w' ⟨rfl,rfl⟩)
      | (go_at_call 254;refine(zy _ _).mono ?_;rintro e w' ⟨rfl,rfl⟩))
     go_ret
     exact⟨by rw[HA.out,if_pos ⟨D1.out,D2.out⟩];rfl,(E _ _).alloc (U _) _⟩
    ·have e2:(f%Pg.span s !=0)=d:=by simp[d2]
     have D2:X (¬f%Pg.span s=0):=d2;clear d2
     go_enter Tryz.func220,Tryz.ntmps220
     go_wp2_with (first
      | (go_at_call 174;refine(xn _ _).mono ?_;rintro e w' ⟨rfl,rfl⟩)
      | (go_at_call 208;refine(zN _ _).mono ?_;rintro e w' ⟨rfl,rfl⟩)
      | (go_at_call 246;refine(zn _ _ _).mono ?_;rintro e w' ⟨rfl,rfl⟩)
      | (go_at_call 254;refine(zy _ _).mono ?_;rintro e w' ⟨rfl,rfl⟩))
     go_ret
     exact⟨by rw[HA.out,if_neg (fun h=>D2.out h.2)];rfl,(E _ _).alloc (U _) _⟩
   ·have e1:(p%Pg.span s !=0)=d:=by simp[d1]
    have D1:X (¬p%Pg.span s=0):=d1;clear d1
    go_enter Tryz.func220,Tryz.ntmps220
    go_wp2_with (first
     | (go_at_call 174;refine(xn _ _).mono ?_;rintro e w' ⟨rfl,rfl⟩)
     | (go_at_call 208;refine(zN _ _).mono ?_;rintro e w' ⟨rfl,rfl⟩)
     | (go_at_call 246;refine(zn _ _ _).mono ?_;rintro e w' ⟨rfl,rfl⟩)
     | (go_at_call 254;refine(zy _ _).mono ?_;rintro e w' ⟨rfl,rfl⟩))
    go_ret
    exact⟨by rw[HA.out,if_neg (fun h=>D1.out h.1)];rfl,(E _ _).alloc (U _) _⟩
theorem yaW (p s f r p' s' f' r':Int) (hp:Pg.fits p) (hq:Pg.fits p') (w:T):
 K C 268 #[y #[I B p,I B s,I B f,I B r],y #[I B p',I B s',I B f',I B r']] w fun e w'=>e=R (V (Pg.meet p s p' s'))/\Below w.heap.size w w':=by
 cases h:Pg.over p s p'
 ·have HM:X (Pg.meet p s p' s'=Pg.over p' s' p):=by simp[X,Pg.meet,h]
  go_enter Tryz.func268,Tryz.ntmps268
  go_wp2_with fail
  refine(qS _ _ _ _ _ hp hq _).mono ?_;rintro e w1 ⟨rfl,hb1⟩;obtain⟨hc1,hf1⟩:=qD hb1
  go_wp2_with fail
  refine(qS _ _ _ _ _ hq hp _).mono ?_;rintro e w2 ⟨rfl,hb2⟩
  go_wp2_with fail
  go_ret
  exact⟨by rw[HM.out];rfl,zT (zT (zA (zA (zR _) _) _) hb1) hb2⟩
 ·have HM:X (Pg.meet p s p' s'=d):=by simp[X,Pg.meet,h]
  go_enter Tryz.func268,Tryz.ntmps268
  go_wp2_with fail
  refine(qS _ _ _ _ _ hp hq _).mono ?_;rintro e w1 ⟨rfl,hb1⟩;obtain⟨hc1,hf1⟩:=qD hb1
  go_wp2_with fail
  go_ret
  exact⟨by rw[HM.out];rfl,zT (zA (zA (zR _) _) _) hb1⟩
theorem yaV (r p k:Int) (u:Bool) (w:T):
 K C 259 #[I B r,y #[I B p,I B k,V u]] w fun e w'=>e=R (V (Pg.may r k u))/\Below w.heap.size w w':=by
 have HM:X _:=Pg.may_eq r k u
 go_enter Tryz.func259,Tryz.ntmps259
 go_wp2_with fail
 refine(yeI _ _ _ _).mono ?_;rintro e w1 ⟨rfl,hb1⟩;generalize ha:Pg.asks k u=a at*;have HA:=ha;clear ha
 go_wp2_with fail
 go_ret
 exact⟨by rw[<-HM.out];rfl,zT (zA (zR _) _) hb1⟩
theorem zw (p k:Int) (u:Bool) (w:T):
 K C 221 #[y #[I B p,I B k,V u]] w fun e w'=>e=R (I B (Pg.zK p k))/\Below w.heap.size w w':=by
 cases h1:Pg.isKind k<;>cases h2:Pg.below p 4096
 all_goals
  go_enter Tryz.func221,Tryz.ntmps221
  go_wp2_with (first
   | (go_at_call 255;refine(ydi _ _).mono ?_;rintro e w' ⟨rfl,rfl⟩)
   | (go_at_call 208;refine(zN _ _).mono ?_;rintro e w' ⟨rfl,rfl⟩))
  go_ret
  exact⟨by simp[Pg.zK,h1,h2],(E _ _).alloc (U _) _⟩
theorem ybW (p s f r q k:Int) (u:Bool) (w:T):
 K C 224 #[y #[I B p,I B s,I B f,I B r],y #[I B q,I B k,V u]] w fun e w'=>
  e=R (if Pg.may r k u=d then y #[I B 0,I B (wrap64 (f+wrap64 (q-p))),I B r]else y #[I B 2,I B 0,I B 0])/\Below w.heap.size w w':=by
 cases h:Pg.may r k u
 ·go_enter Tryz.func224,Tryz.ntmps224
  go_wp2_with fail
  refine(yaV _ _ _ _ _).mono ?_;rintro e w1 ⟨rfl,hb1⟩;obtain⟨hc1,hf1⟩:=qD hb1
  have hz:w.heap.size+2<w1.heap.size:=by have:=hb1.size;simp at this;omega
  go_wp2_with fail
  refine kI (v:=y #[I B 2,I B 0,I B 0]) ?_ rfl ⟨by simp,?_⟩
  ·simp[results,Tryz.results224,go_sem,hc1]
  ·exact(((zT (zA (zA (zA (zR _) _) _) _) hb1).setCell (by simp;omega) _).setCell (by simp;omega) _).setCell (by simp;omega) _
 ·go_enter Tryz.func224,Tryz.ntmps224
  go_wp2_with fail
  refine(yaV _ _ _ _ _).mono ?_;rintro e w1 ⟨rfl,hb1⟩;obtain⟨hc1,hf1⟩:=qD hb1
  have hz:w.heap.size+2<w1.heap.size:=by have:=hb1.size;simp at this;omega
  go_wp2_with fail
  refine kI (v:=y #[I B 0,I B (wrap64 (f+wrap64 (q-p))),I B r]) ?_ rfl ⟨by simp,?_⟩
  ·simp[results,Tryz.results224,go_sem,hc1]
  ·exact(((zT (zA (zA (zA (zR _) _) _) _) hb1).setCell (by simp;omega) _).setCell (by simp;omega) _).setCell (by simp;omega) _
theorem jB (p s f r q k:Int) (u:Bool) (w:T):
 K C 224 #[y #[I B p,I B s,I B f,I B r],y #[I B q,I B k,V u]] w fun e w'=>
  e=R (y #[I B (Pg.aEnd r k u),I B (Pg.yij p f r q k u),I B (Pg.yhV r k u)])/\Below w.heap.size w w':=by
 refine(ybW p s f r q k u w).mono ?_;rintro e w' ⟨rfl,hb⟩;refine⟨?_,hb⟩;unfold Pg.aEnd Pg.yij Pg.yhV
 split<;>rfl
theorem vo (p l:Int) (w:T):
 K C 241 #[I B p,I B l] w fun e w'=>e=R (I B (Pg.index p l))/\w'=w:=by
 cases h1:Pg.below p 4096
 ·have HI:X (Pg.index p l= -1):=by simp[X,Pg.index,h1]
  go_enter Tryz.func241,Tryz.ntmps241
  go_wp2_with (first
   | (go_at_call 246;refine(zn _ _ _).mono ?_;rintro e w' ⟨rfl,rfl⟩)
   | (go_at_call 208;refine(zN _ _).mono ?_;rintro e w' ⟨rfl,rfl⟩))
  go_ret
  exact⟨by rw[HI.out];rfl,rfl⟩
 ·cases h2:Pg.below l 4
  ·have HI:X (Pg.index p l= -1):=by simp[X,Pg.index,h2]
   go_enter Tryz.func241,Tryz.ntmps241
   go_wp2_with (first
    | (go_at_call 246;refine(zn _ _ _).mono ?_;rintro e w' ⟨rfl,rfl⟩)
    | (go_at_call 208;refine(zN _ _).mono ?_;rintro e w' ⟨rfl,rfl⟩))
   go_ret
   exact⟨by rw[HI.out];rfl,rfl⟩
  ·have HI:X (Pg.index p l=p/8^l.toNat%8):=by simp[X,Pg.index,h1,h2]
   have c1:=Pg.zB.1 h1;have c2:=Pg.zB.1 h2
   go_enter Tryz.func241,Tryz.ntmps241
   go_wp2_with (first
    | (go_at_call 246;refine(zn _ _ _).mono ?_;rintro e w' ⟨rfl,rfl⟩)
    | (go_at_call 208;refine(zN _ _).mono ?_;rintro e w' ⟨rfl,rfl⟩))
   go_loop [0,14] (fun a i=>∃(k:Nat) (q:Int),(k:Int)<=l/\i=I B k/\a=I B q/\0<=q/\q<4096/\X (q=p/8^k)) (fun _ i=>(l-intOf i).toNat)
   case atStart=>exact⟨0,p,by omega,rfl,rfl,by omega,by omega,by simp[X]⟩
   case round=>
    obtain⟨k,q,hk,rfl,rfl,q0,q1,HQ⟩:=hrel
    by_cases hlt:(k:Int)<l
    ·go_wp2
     go_round
     case rel=>exact⟨k+1,q/8,by omega,by go_num,rfl,by omega,by omega,by simp only[X];rw[HQ.out,Int.ediv_ediv_of_nonneg (Int.pow_nonneg (by decide)),<-Int.pow_succ]⟩
     case measure=>simp[intOf];omega
    ·go_wp2
     go_ret
     have hkl:l.toNat=k:=by omega
     exact⟨by rw[HI.out,hkl,<-HQ.out];rfl,rfl⟩
theorem yfK {w:T} {r:Nat} {t:TypeId} {c0 c1 c2 c3 c4 c5:L} (h:w.heap[r]?=Y (.cells #[c0,c1,c2,c3,c4,c5] t (0,0))) (x0 x1 x2 x3 x4 x5:L):
 ((((((w.setCell ⟨r,0,P⟩ x0).setCell ⟨r,1,P⟩ x1).setCell ⟨r,2,P⟩ x2).setCell ⟨r,3,P⟩ x3).setCell ⟨r,4,P⟩ x4).setCell ⟨r,5,P⟩ x5).heap[r]?=Y (.cells #[x0,x1,x2,x3,x4,x5] t (0,0)):=by
 have h1:=heap_setCell_same _ r 0 _ t x0 h;have h2:=heap_setCell_same _ r 1 _ t x1 h1;have h3:=heap_setCell_same _ r 2 _ t x2 h2;have h4:=heap_setCell_same _ r 3 _ t x3 h3;have h5:=heap_setCell_same _ r 4 _ t x4 h4;exact heap_setCell_same _ r 5 _ t x5 h5
theorem yf7 {w:T} {r k:Nat} (h:k≠r) (x0 x1 x2 x3 x4 x5:L):
 ((((((w.setCell ⟨r,0,P⟩ x0).setCell ⟨r,1,P⟩ x1).setCell ⟨r,2,P⟩ x2).setCell ⟨r,3,P⟩ x3).setCell ⟨r,4,P⟩ x4).setCell ⟨r,5,P⟩ x5).heap[k]?=w.heap[k]?:=by
 simp only[heap_setCell_other _ _ _ _ (show k≠(⟨r,_,P⟩:Addr).block from h)]
end Go.Proofs.YtdphiompijbelaaGreatDoor
