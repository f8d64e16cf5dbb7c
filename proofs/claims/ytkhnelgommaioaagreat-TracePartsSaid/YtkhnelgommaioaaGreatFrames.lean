import Derived.Test.YtkhnelgommaioaaGreatMemLay
import Derived.Test.YtkhnelgommaioaaGreatChecked
import Derived.Deep.AppendLies
namespace Go.Proofs.YtkhnelgommaioaaGreat
open Go.RowKit Go.Sort
set_option linter.unusedVariables false
structure FrRaw (w:World) (b g:Nat) (vb:Value) (S:Pg.Fs):Prop where
 c0:w.cell? ⟨b,0,none⟩=some (.slice (some ⟨g,0,none⟩) S.n S.n)
 c1:w.cell? ⟨b,1,none⟩=some vb
 c2:w.cell? ⟨b,2,none⟩=some (.int .i64 S.next)
 fb:∀o,w.frozen? ⟨b,o,none⟩=false
 f0:∀o,w.frozen? ⟨g,o,none⟩=false
 ci:∀k,k<S.n->w.cell? ⟨g,k*9,none⟩=some (.bool (S.inn k))
 cw:∀k i,k<S.n->i<8->w.cell? ⟨g,k*9+1+i,none⟩=some (.int .u64 (S.word k i))
 own:w.ownsRow 0 3 1 vb S.back.length (nats S.back)
 l0:g<w.heap.size
 n0:g≠b
 vb0:vb.ownBlock≠some g
 vbb:vb.ownBlock≠some b
def frF (b g:Nat) (vb:Value):Nat->Prop:=fun k=>k=b\/k=g\/vb.ownBlock=some k
namespace FrRaw
variable {w w':World} {b g:Nat} {vb:Value} {S:Pg.Fs}
theorem lb (h:FrRaw w b g vb S):b<w.heap.size:=World.block_lt_of_cell? _ _ h.c0
theorem lt (h:FrRaw w b g vb S) {k:Nat} (hk:frF b g vb k):k<w.heap.size:=by
 rcases hk with rfl|rfl|hk
 ·exact World.block_lt_of_cell? _ _ h.c0
 ·exact h.l0
 ·exact(h.own.lt k hk).2
theorem keep (h:FrRaw w b g vb S) {F:Nat->Prop} (hb:But F w w') (hF:∀k,frF b g vb k->¬F k):FrRaw w' b g vb S:=by
 have hk:∀k,frF b g vb k->w'.heap[k]?=w.heap[k]?:=fun k hk=>hb.block k (h.lt hk) (hF k hk)
 have kb:=hk b (.inl rfl)
 have k0:=hk g (.inr (.inl rfl))
 exact⟨(World.cell?_of_block kb).trans h.c0,(World.cell?_of_block kb).trans h.c1,(World.cell?_of_block kb).trans h.c2,
  fun o=>(World.frozen?_of_block kb).trans (h.fb o),fun o=>(World.frozen?_of_block k0).trans (h.f0 o),
  fun k a=>(World.cell?_of_block k0).trans (h.ci k a),fun k i a c=>(World.cell?_of_block k0).trans (h.cw k i a c),
  owns_of_block h.own fun k e=>hk k (.inr (.inr e)),Nat.lt_of_lt_of_le h.l0 hb.size,h.n0,h.vb0,h.vbb⟩
theorem drewN (h:FrRaw w b g vb S) (n:Nat):FrRaw (w.drewN n) b g vb S:=
 h.keep (F:=fun _=>False) (But.of_below (below_drewN (zR w) n)) (fun _ _=>id)
theorem setNext (h:FrRaw w b g vb S) (m:Nat):FrRaw (w.setCell ⟨b,2,none⟩ (.int .i64 (m:Int))) b g vb {S with next:=m}:=by
 have hh:∀k,k≠b->(w.setCell ⟨b,2,none⟩ (.int .i64 (m:Int))).heap[k]?=w.heap[k]?:=fun k hk=>Below.heap_setCell _ _ _ _ hk
 have k0:=hh g h.n0
 have hs:(w.setCell ⟨b,2,none⟩ (.int .i64 (m:Int))).heap.size=w.heap.size:=by simp
 refine⟨?_,?_,World.cell?_setCell_same _ _ _ h.c2,fun o=>by simpa using h.fb o,fun o=>by simpa using h.f0 o,
  fun k a=>(World.cell?_of_block k0).trans (h.ci k a),fun k i a c=>(World.cell?_of_block k0).trans (h.cw k i a c),
  owns_of_block h.own fun k e=>hh k (fun e'=>h.vbb (e'▸e)),hs.symm▸h.l0,h.n0,h.vb0,h.vbb⟩
 ·exact(World.cell?_setCell_other _ _ _ _ (by simp)).trans h.c0
 ·exact(World.cell?_setCell_other _ _ _ _ (by simp)).trans h.c1
theorem grow (h:FrRaw w b g vb S) (hs:w.heap.size<=w'.heap.size) (hk:∀k,k=b\/k=g->w'.heap[k]?=w.heap[k]?) {vb':Value} {l:List Nat} (ho:w'.ownsRow 0 3 1 vb' l.length (nats l)) (v0:vb'.ownBlock≠some g) (v2:vb'.ownBlock≠some b):
 FrRaw (w'.setCell ⟨b,1,none⟩ vb') b g vb' {S with back:=l}:=by
 have kb:=hk b (.inl rfl)
 have k0:=hk g (.inr rfl)
 have hh:∀k,k≠b->(w'.setCell ⟨b,1,none⟩ vb').heap[k]?=w'.heap[k]?:=fun k hk=>Below.heap_setCell _ _ _ _ hk
 have j0:=(hh g h.n0).trans k0
 have hs':(w'.setCell ⟨b,1,none⟩ vb').heap.size=w'.heap.size:=by simp
 have l0:=h.l0
 refine⟨?_,World.cell?_setCell_same _ _ _ ((World.cell?_of_block kb).trans h.c1),?_,fun o=> ?_,fun o=>(World.frozen?_of_block j0).trans (h.f0 o),
  fun k a=>(World.cell?_of_block j0).trans (h.ci k a),fun k i a c=>(World.cell?_of_block j0).trans (h.cw k i a c),
  owns_of_block ho fun k e=>hh k (fun e'=>v2 (e'▸e)),by rw[hs'];omega,h.n0,v0,v2⟩
 ·exact(World.cell?_setCell_other _ _ _ _ (by simp)).trans ((World.cell?_of_block kb).trans h.c0)
 ·exact(World.cell?_setCell_other _ _ _ _ (by simp)).trans ((World.cell?_of_block kb).trans h.c2)
 ·rw[World.frozen?_setCell]
  exact(World.frozen?_of_block kb).trans (h.fb o)
theorem setBack (h:FrRaw w b g vb S) {vb':Value} {l:List Nat} (ho:w.ownsRow 0 3 1 vb' l.length (nats l)) (v0:vb'.ownBlock≠some g) (v2:vb'.ownBlock≠some b):
 FrRaw (w.setCell ⟨b,1,none⟩ vb') b g vb' {S with back:=l}:=h.grow (Nat.le_refl _) (fun _ _=>rfl) ho v0 v2
theorem mark (h:FrRaw w b g vb S) {k:Nat} (hk:k<S.n) (v:Bool) (l:List Nat) (hl:∀j,decide (j ∈ l)=if j=k then v else S.inn j):
 FrRaw (w.setCell ⟨g,k*9,none⟩ (.bool v)) b g vb {S with used:=l}:=by
 have hh:∀j,j≠g->(w.setCell ⟨g,k*9,none⟩ (.bool v)).heap[j]?=w.heap[j]?:=fun j hj=>Below.heap_setCell _ _ _ _ hj
 have kb:=hh b (Ne.symm h.n0)
 have hs:(w.setCell ⟨g,k*9,none⟩ (.bool v)).heap.size=w.heap.size:=by simp
 refine⟨(World.cell?_of_block kb).trans h.c0,(World.cell?_of_block kb).trans h.c1,(World.cell?_of_block kb).trans h.c2,
  fun o=>by simpa using h.fb o,fun o=>by simpa using h.f0 o,fun j a=> ?_,fun j i a c=> ?_,
  owns_of_block h.own fun j e=>hh j (fun e'=>h.vb0 (e'▸e)),hs.symm▸h.l0,h.n0,h.vb0,h.vbb⟩
 ·show _=some (Value.bool (decide (j ∈ l)))
  rw[hl j]
  by_cases e:j=k
  ·rw[if_pos e,e]
   exact World.cell?_setCell_same _ _ _ (h.ci k hk)
  ·rw[if_neg e]
   exact(World.cell?_setCell_other _ _ _ _ (fun he=>e (by injection he with _ he;omega))).trans (h.ci j a)
 ·exact(World.cell?_setCell_other _ _ _ _ (fun he=>by injection he with _ he;omega)).trans (h.cw j i a c)
theorem fill (h:FrRaw w b g vb S) {k:Nat} (hk:k<S.n) (zs:List Value) (hz:zs.length=9) (h0:zs[0]?=some (.bool true)) (hv:∀j:Nat,j<8->zs[j+1]?=some (.int .u64 0)):
 FrRaw (w.setCells g (k*9) zs) b g vb {S with used:=k::S.used,word:=Pg.Fs.clear S.word k}:=by
 have hh:∀j,j≠g->(w.setCells g (k*9) zs).heap[j]?=w.heap[j]?:=fun j hj=>heap_setCells _ _ _ _ _ hj
 have kb:=hh b (Ne.symm h.n0)
 have hs:=size_setCells g zs (k*9) w
 have hin:∀i,i<zs.length->(w.setCells g (k*9) zs).cell? ⟨g,k*9+i,none⟩=zs[i]?:=by
  intro i hi
  have:=World.cell?_setCells_in g zs (k*9) w (fun i hi=>by
   match i with
   | 0=>rw[show k*9+0=k*9 from rfl,h.ci k hk];rfl
   | i+1=>rw[show k*9+(i+1)=k*9+1+i by omega,h.cw k i hk (by omega)];rfl) i hi
  rw[this,List.getElem?_eq_getElem hi]
 refine⟨(World.cell?_of_block kb).trans h.c0,(World.cell?_of_block kb).trans h.c1,(World.cell?_of_block kb).trans h.c2,
  fun o=>(World.frozen?_setCells _ _ _ _ _).trans (h.fb o),fun o=>(World.frozen?_setCells _ _ _ _ _).trans (h.f0 o),
  fun j a=> ?_,fun j i a c=> ?_,
  owns_of_block h.own fun j e=>hh j (fun e'=>h.vb0 (e'▸e)),hs.symm▸h.l0,h.n0,h.vb0,h.vbb⟩
 ·show _=some (Value.bool (decide (j ∈ k::S.used)))
  by_cases e:j=k
  ·subst e
   have:=hin 0 (by omega)
   simp only[Nat.add_zero]at this
   rw[this,h0]
   simp
  ·have he:decide (j ∈ k::S.used)=S.inn j:=by simp[Pg.Fs.inn,e]
   rw[he]
   exact(World.cell?_setCells_out _ _ _ _ _ (fun _ _=>by show j*9<k*9\/k*9+zs.length<=j*9;omega)).trans (h.ci j a)
 ·show _=some (Value.int .u64 (Pg.Fs.clear S.word k j i))
  unfold Pg.Fs.clear
  by_cases e:j=k
  ·rw[if_pos e,e,show k*9+1+i=k*9+(i+1) by omega,hin (i+1) (by omega),hv i c]
  ·rw[if_neg e]
   exact(World.cell?_setCells_out _ _ _ _ _ (fun _ _=>by show j*9+1+i<k*9\/k*9+zs.length<=j*9+1+i;omega)).trans (h.cw j i a c)
theorem put (h:FrRaw w b g vb S) {k i:Nat} (hk:k<S.n) (hi:i<8) (v:Int):
 FrRaw (w.setCell ⟨g,k*9+1+i,none⟩ (.int .u64 v)) b g vb {S with word:=Pg.Fs.put S.word k i v}:=by
 have hh:∀j,j≠g->(w.setCell ⟨g,k*9+1+i,none⟩ (.int .u64 v)).heap[j]?=w.heap[j]?:=fun j hj=>Below.heap_setCell _ _ _ _ hj
 have kb:=hh b (Ne.symm h.n0)
 have hs:(w.setCell ⟨g,k*9+1+i,none⟩ (.int .u64 v)).heap.size=w.heap.size:=by simp
 refine⟨(World.cell?_of_block kb).trans h.c0,(World.cell?_of_block kb).trans h.c1,(World.cell?_of_block kb).trans h.c2,
  fun o=>by simpa using h.fb o,fun o=>by simpa using h.f0 o,
  fun j a=>(World.cell?_setCell_other _ _ _ _ (fun he=>by injection he with _ he;omega)).trans (h.ci j a),fun j m a c=> ?_,
  owns_of_block h.own fun j e=>hh j (fun e'=>h.vb0 (e'▸e)),hs.symm▸h.l0,h.n0,h.vb0,h.vbb⟩
 show _=some (Value.int .u64 (Pg.Fs.put S.word k i v j m))
 unfold Pg.Fs.put
 by_cases e:j=k/\m=i
 ·rw[if_pos e,e.1,e.2]
  exact World.cell?_setCell_same _ _ _ (h.cw k i hk hi)
 ·rw[if_neg e]
  exact(World.cell?_setCell_other _ _ _ _ (fun he=>e (by injection he with _ he;omega))).trans (h.cw j m a c)
end FrRaw
def frZero:Array Value:=#[.bool false,.int .u64 0,.int .u64 0,.int .u64 0,.int .u64 0,.int .u64 0,.int .u64 0,.int .u64 0,.int .u64 0]
theorem frZero_at (k:Nat):frZero[k*9%frZero.size]! = .bool false:=by
 have:k*9%9=0:=by omega
 show frZero[k*9%9]! =_
 rw[this];rfl
theorem frZero_in (k i:Nat) (hi:i<8):frZero[(k*9+1+i)%frZero.size]! = .int .u64 0:=by
 have:(k*9+1+i)%9=i+1:=by omega
 show frZero[(k*9+1+i)%9]! =_
 rw[this]
 match i,hi with
 | 0,_|1,_|2,_|3,_|4,_|5,_|6,_|7,_=>rfl
theorem FrRaw.made {w:World} {b g n:Nat} {t0 t2:TypeId} (hb:w.heap[b]?=some (.cells #[.slice (some ⟨g,0,none⟩) n n,.slice none 0 0,.int .i64 0] t2 (0,0)))
 (h0:w.heap[g]?=some (.cells (madeCells frZero (n*9)) t0 (0,0))) (n0:g≠b):FrRaw w b g (.slice none 0 0) (Pg.Fs.new n):=by
 refine⟨?_,?_,?_,fun o=>by simp[World.frozen?,hb],fun o=>by simp[World.frozen?,h0],fun k hk=> ?_,fun k i hk hi=> ?_,World.ownsRow_nil _ _ _ _,(Array.getElem?_eq_some_iff.1 h0).1,n0,by simp[Value.ownBlock],by simp[Value.ownBlock]⟩
 ·rw[cell_of_row w b 0 _ _ _ hb];rfl
 ·rw[cell_of_row w b 1 _ _ _ hb];rfl
 ·rw[cell_of_row w b 2 _ _ _ hb];rfl
 ·have hk:k<n:=hk
  have hlt:k*9<n*9:=by omega
  rw[cell_of_row w g _ _ _ _ h0,madeCells]
  simp only[Array.getElem?_map,Array.getElem?_range,hlt,if_true,Option.map_some,frZero_at]
  rfl
 ·have hk:k<n:=hk
  have hlt:k*9+1+i<n*9:=by omega
  rw[cell_of_row w g _ _ _ _ h0,madeCells]
  simp only[Array.getElem?_map,Array.getElem?_range,hlt,if_true,Option.map_some,frZero_in k i hi]
  rfl
def FrAt (w:World) (b:Nat) (S:Pg.Fs) (F:Nat->Prop):Prop:=∃g vb,FrRaw w b g vb S/\S.Ok/\F=frF b g vb
theorem FrAt.lt {w:World} {b:Nat} {S:Pg.Fs} {F:Nat->Prop} (h:FrAt w b S F) {k:Nat} (hk:F k):k<w.heap.size:=by
 obtain⟨g,vb,h,_,rfl⟩:=h
 exact h.lt hk
theorem FrAt.ok {w:World} {b:Nat} {S:Pg.Fs} {F:Nat->Prop} (h:FrAt w b S F):S.Ok:=by
 obtain⟨g,vb,_,h,_⟩:=h
 exact h
theorem FrAt.keep {w w':World} {b:Nat} {S:Pg.Fs} {F G:Nat->Prop} (h:FrAt w b S F) (hb:But G w w') (hF:∀k,F k->¬G k):FrAt w' b S F:=by
 obtain⟨g,vb,h,ok,rfl⟩:=h
 exact⟨g,vb,h.keep hb hF,ok,rfl⟩
theorem FrAt.next {w w':World} {b g:Nat} {vb vb':Value} {S':Pg.Fs} (h1:FrRaw w' b g vb' S') (ok:S'.Ok) (hb:But (frF b g vb) w w') (hv:vb'.ownBlock=vb.ownBlock\/∃k,vb'.ownBlock=some k/\w.heap.size<=k):
 ∃F',FrAt w' b S' F'/\But (frF b g vb) w w'/\∀k,F' k->frF b g vb k\/w.heap.size<=k:=by
 refine⟨_,⟨g,vb',h1,ok,rfl⟩,hb,fun k hk=> ?_⟩
 rcases hk with rfl|rfl|hk
 ·exact .inl (.inl rfl)
 ·exact .inl (.inr (.inl rfl))
 ·rcases hv with e|⟨j,e,hj⟩
  ·exact .inl (.inr (.inr (e▸hk)))
  ·rw[hk]at e
   cases e
   exact .inr hj
theorem taken_raw {b g:Nat} {vb:Value} {S:Pg.Fs} (k:Int) (w:World) (h:FrRaw w b g vb S) (ok:S.Ok):
 Calls Tryz.prog 204 #[.pointer (some ⟨b,0,none⟩),.int .i64 k] w fun e w'=>e= .returned (.bool (S.has k))/\w'=w:=by
 have hc0:=h.c0
 have hn:=ok.small
 by_cases h0:0<=k
 ·obtain⟨m,rfl⟩:=Int.eq_ofNat_of_zero_le h0
  by_cases h1:m<S.n
  ·have hm:=h.ci m h1
   have HH:Hid (S.has (m:Int)=S.inn m):=by simp[Hid,Pg.Fs.has]
   have i0:(0:Int)<=(m:Int):=by omega
   have i1:(m:Int)<(S.n:Int):=by omega
   go_enter Tryz.func204,Tryz.ntmps204
   go_wp2_with fail
   go_ret
   exact⟨ret_bool HH.out.symm,rfl⟩
  ·have HH:Hid (S.has (m:Int)=false):=by
    cases hh:S.has (m:Int)
    ·rfl
    ·have:=ok.has_lt hh
     omega
   have i1:¬(m:Int)<(S.n:Int):=by omega
   go_enter Tryz.func204,Tryz.ntmps204
   go_wp2_with fail
   go_ret
   exact⟨ret_bool HH.out.symm,rfl⟩
 ·have HH:Hid (S.has k=false):=by simp[Hid,Pg.Fs.has,h0]
  have d0:decide (0<=k)=false:=by simpa using h0
  go_enter Tryz.func204,Tryz.ntmps204
  go_wp2_with fail
  go_ret
  exact⟨ret_bool HH.out.symm,rfl⟩
theorem free_raw {b g:Nat} {vb:Value} {S:Pg.Fs} (w:World) (h:FrRaw w b g vb S) (ok:S.Ok):
 Calls Tryz.prog 68 #[.pointer (some ⟨b,0,none⟩)] w fun e w'=>e= .returned (.int .i64 S.free)/\Below w.heap.size w w':=by
 have hc0:=h.c0
 have hc1:=h.c1
 have hc2:=h.c2
 have hl:=ok.len
 have ht:=ok.top
 have hs:=ok.small
 have HF:Hid (S.free=S.back.length+S.n-S.next):=rfl
 have hb:S.back.length<=128:=by omega
 have hx:S.next<=128:=by omega
 rcases h.own.2 with ⟨rfl,hlen⟩|⟨g,cap,cur,rfl,hg⟩
 ·rw[hlen]at HF
  clear hl ht hlen hb
  go_enter Tryz.func68,Tryz.ntmps68
  go_wp2_with fail
  go_quiet (fail)
  go_wp2_with fail
  go_ret
  refine⟨?_,below_drewN (zR _) _⟩
  rw[HF.out]
  first|rfl|simp
 ·clear hl ht hg
  generalize S.back.length=m at*
  go_enter Tryz.func68,Tryz.ntmps68
  go_wp2_with fail
  go_quiet (fail)
  go_wp2_with fail
  go_ret
  exact⟨ret_int (by rw[HF.out]),below_drewN (zR _) _⟩
def Pg.Fs.picked (S:Pg.Fs):Pg.Fs:=match S.back.getLast? with
 | some k=>{S with back:=S.back.dropLast}
 | none=>if S.next<S.n then{S with next:=S.next+1}else S
theorem next_raw {b g:Nat} {vb:Value} {S:Pg.Fs} (w:World) (h:FrRaw w b g vb S) (ok:S.Ok):
 Calls Tryz.prog 86 #[.pointer (some ⟨b,0,none⟩)] w fun e w'=>e= .returned (.int .i64 S.takeN)/\∃vb',FrRaw w' b g vb' S.picked/\But (frF b g vb) w w'/\vb'.ownBlock=vb.ownBlock:=by
 have hc0:=h.c0
 have hc1:=h.c1
 have hc2:=h.c2
 have hfb:=h.fb
 have hs:=ok.small
 have ht:=ok.top
 by_cases hb:S.back=[]
 ·have ho:=h.own
  rw[hb]at ho
  by_cases hn:S.next<S.n
  ·have e1:S.takeN=(S.next:Int):=by simp[Pg.Fs.takeN,Pg.Fs.pick,hb,hn]
   have e2:S.picked={S with next:=S.next+1}:=by simp[Pg.Fs.picked,hb,hn]
   have fin:∀nq,Hid (∃vb',FrRaw ((w.drewN nq).setCell ⟨b,2,none⟩ (.int .i64 (S.next+1))) b g vb' S.picked/\But (frF b g vb) w ((w.drewN nq).setCell ⟨b,2,none⟩ (.int .i64 (S.next+1)))/\vb'.ownBlock=vb.ownBlock):=by
    intro nq
    rw[e2]
    exact⟨vb,(h.drewN nq).setNext (S.next+1),(But.of_below (below_drewN (zR w) nq)).setCell (.inr (.inl rfl)) _,rfl⟩
   rw[e1]
   have i1:((S.next:Int)==(S.n:Int))=false:=by simp;omega
   clear e1 e2
   rcases ho.2 with ⟨rfl,hlen⟩|⟨g',cap,cur,rfl,hg⟩
   all_goals
    clear ho h
    go_enter Tryz.func86,Tryz.ntmps86
    go_wp2_with fail
    go_quiet (fail)
    go_wp2_with fail
    go_ret
    exact⟨rfl,(fin _).out⟩
  ·have hnn:S.next=S.n:=by omega
   have e1:S.takeN= -1:=by simp[Pg.Fs.takeN,Pg.Fs.pick,hb,hn]
   have e2:S.picked=S:=by simp[Pg.Fs.picked,hb,hn]
   have fin:∀nq,Hid (∃vb',FrRaw (w.drewN nq) b g vb' S.picked/\But (frF b g vb) w (w.drewN nq)/\vb'.ownBlock=vb.ownBlock):=by
    intro nq
    rw[e2]
    exact⟨vb,h.drewN nq,But.of_below (below_drewN (zR w) nq),rfl⟩
   rw[e1]
   have i1:((S.next:Int)==(S.n:Int))=true:=by simp;omega
   clear e1 e2
   rcases ho.2 with ⟨rfl,hlen⟩|⟨g',cap,cur,rfl,hg⟩
   all_goals
    clear ho h
    go_enter Tryz.func86,Tryz.ntmps86
    go_wp2_with fail
    go_quiet (fail)
    go_wp2_with fail
    go_ret
    exact⟨rfl,(fin _).out⟩
 ·obtain⟨l,k,hl⟩:∃l k,S.back=l++[k]:=⟨_,_,(List.dropLast_concat_getLast hb).symm⟩
  have hk:k<S.n:=by
   have:=ok.backLt (k:=k) (by rw[hl];simp)
   omega
  have ho:=h.own
  have hlen:S.back.length=l.length+1:=by rw[hl];simp
  rw[hlen]at ho
  obtain⟨g',cap,rfl,_,hgl⟩:=ho.form (by omega)
  have hcap:l.length+1<=cap:=by
   rcases ho.2 with ⟨h',_⟩|⟨g',cap',cur,h',_,_,hle,_⟩
   ·cases h'
   ·cases h';exact hle
  have hbd:S.back.length<=128:=by have:=ok.len;omega
  have hl128:l.length<128:=by omega
  have hck:w.cell? ⟨g',l.length,none⟩=some (.int .i64 k):=by
   rw[ho.cellAt l.length (by omega),nats,hl]
   simp
  have hpop:w.ownsRow 0 3 1 (.slice (some ⟨g',0,none⟩) l.length cap) l.length (nats l):=by
   have e:nats S.back=nats l++[.int .i64 (k:Int)]:=by simp[nats,hl]
   rw[e]at ho
   exact ownsRow_pop (by simp[nats]) ho
  have e1:S.takeN=(k:Int):=by simp[Pg.Fs.takeN,Pg.Fs.pick,hl]
  have e2:S.picked={S with back:=l}:=by simp[Pg.Fs.picked,hl]
  have fin:Hid (∃vb',FrRaw (w.setCell ⟨b,1,none⟩ (.slice (some ⟨g',0,none⟩) l.length cap)) b g vb' S.picked/\But (frF b g (.slice (some ⟨g',0,none⟩) (l.length+1) cap)) w (w.setCell ⟨b,1,none⟩ (.slice (some ⟨g',0,none⟩) l.length cap))/\vb'.ownBlock=(Value.slice (some ⟨g',0,none⟩) (l.length+1) cap).ownBlock):=by
   rw[e2]
   exact⟨_,h.setBack hpop h.vb0 h.vbb,(But.refl _ w).setCell (.inr (.inl rfl)) _,rfl⟩
  rw[e1]
  have j1:(l.length:Int)<=(cap:Int):=by omega
  have j0:(0:Int)<=(l.length:Int):=by omega
  clear ho h hpop hlen hl hb e1 e2
  generalize l.length=m at*
  go_enter Tryz.func86,Tryz.ntmps86
  go_wp2_with fail
  go_ret
  exact⟨rfl,fin.out⟩
theorem word_raw {b g:Nat} {vb:Value} {S:Pg.Fs} (k i:Int) (w:World) (h:FrRaw w b g vb S) (ok:S.Ok):
 Calls Tryz.prog 202 #[.pointer (some ⟨b,0,none⟩),.int .i64 k,.int .i64 i] w fun e w'=>e= .returned (.pointer (bif S.at' k i then some ⟨g,k.toNat*9+1+i.toNat,none⟩else none))/\w'=w:=by
 have HT:=taken_raw k w h ok
 have hc0:=h.c0
 have hs:=ok.small
 cases e1:S.has k
 ·have HA:Hid (S.at' k i=false):=by simp[Hid,Pg.Fs.at',e1]
  rw[HA.out]
  rw[e1]at HT
  clear e1 h
  go_enter Tryz.func202,Tryz.ntmps202
  go_wp2_with (go_at_call 204;refine HT.mono ?_;rintro e w' ⟨rfl,hw⟩;subst w')
  go_ret
  exact⟨rfl,rfl⟩
 ·rw[e1]at HT
  by_cases h0:0<=i
  ·by_cases h8:i<8
   ·have HA:Hid (S.at' k i=true):=by simp[Hid,Pg.Fs.at',e1,h0,h8]
    rw[HA.out]
    obtain⟨k0,k1,_⟩:=ok.has_lt e1
    obtain⟨a,rfl⟩:=Int.eq_ofNat_of_zero_le k0
    obtain⟨c,rfl⟩:=Int.eq_ofNat_of_zero_le h0
    have i0:(0:Int)<=(a:Int):=by omega
    have i1:(a:Int)<(S.n:Int):=by omega
    have hl:¬(c:Int)<0:=by omega
    have hl8:¬(8:Int)<=(c:Int):=by omega
    clear e1 h
    go_enter Tryz.func202,Tryz.ntmps202
    go_wp2_with (go_at_call 204;refine HT.mono ?_;rintro e w' ⟨rfl,hw⟩;subst w')
    go_ret
    exact⟨rfl,rfl⟩
   ·have HA:Hid (S.at' k i=false):=by simp[Hid,Pg.Fs.at',h8]
    rw[HA.out]
    have hl:¬i<0:=by omega
    have hl8:(8:Int)<=i:=by omega
    clear e1 h
    go_enter Tryz.func202,Tryz.ntmps202
    go_wp2_with (go_at_call 204;refine HT.mono ?_;rintro e w' ⟨rfl,hw⟩;subst w')
    go_ret
    exact⟨rfl,rfl⟩
  ·have HA:Hid (S.at' k i=false):=by simp[Hid,Pg.Fs.at',h0]
   rw[HA.out]
   have hl:i<0:=by omega
   clear e1 h
   go_enter Tryz.func202,Tryz.ntmps202
   go_wp2_with (go_at_call 204;refine HT.mono ?_;rintro e w' ⟨rfl,hw⟩;subst w')
   go_ret
   exact⟨rfl,rfl⟩
theorem frTaken_any {b:Nat} {S:Pg.Fs} {F:Nat->Prop} (k:Int) (w:World) (h:FrAt w b S F):
 Calls Tryz.prog 204 #[.pointer (some ⟨b,0,none⟩),.int .i64 k] w fun e w'=>e= .returned (.bool (S.has k))/\Below w.heap.size w w':=by
 obtain⟨g,vb,h,ok,rfl⟩:=h
 exact below_of_same (taken_raw k w h ok)
theorem frFree_any {b:Nat} {S:Pg.Fs} {F:Nat->Prop} (w:World) (h:FrAt w b S F):
 Calls Tryz.prog 68 #[.pointer (some ⟨b,0,none⟩)] w fun e w'=>e= .returned (.int .i64 S.free)/\Below w.heap.size w w':=by
 obtain⟨g,vb,h,ok,rfl⟩:=h
 exact free_raw w h ok
def used9:List Value:=[.bool true,.int .u64 0,.int .u64 0,.int .u64 0,.int .u64 0,.int .u64 0,.int .u64 0,.int .u64 0,.int .u64 0]
theorem used9_at:∀j:Nat,j<8->used9[j+1]?=some (.int .u64 0)
 | 0,_|1,_|2,_|3,_|4,_|5,_|6,_|7,_=>rfl
 | j+8,hj=>absurd hj (by omega)
theorem frTake_any {b:Nat} {S:Pg.Fs} {F:Nat->Prop} (w:World) (h:FrAt w b S F):
 Calls Tryz.prog 47 #[.pointer (some ⟨b,0,none⟩)] w fun e w'=>e= .returned (.int .i64 S.takeN)/\∃F',FrAt w' b S.take F'/\But F w w'/\∀k,F' k->F k\/w.heap.size<=k:=by
 obtain⟨g,vb,h,ok,rfl⟩:=h
 have HN:=next_raw w h ok
 cases hp:S.pick with
 | none=>
   have e1:S.takeN= -1:=by simp[Pg.Fs.takeN,hp]
   have e2:S.picked=S/\S.take=S:=by
    unfold Pg.Fs.pick at hp
    cases hb:S.back.getLast? with
    | some k=>rw[hb]at hp;cases hp
    | none=>
      rw[hb]at hp
      by_cases hn:S.next<S.n
      ·simp[hn]at hp
      ·simp[Pg.Fs.picked,Pg.Fs.take,hb,hn]
   rw[e1]at HN ⊢
   rw[e2.1]at HN
   rw[e2.2]
   clear e1 e2 h
   go_enter Tryz.func47,Tryz.ntmps47
   go_wp2_with fail
   refine HN.mono ?_
   rintro e w1 ⟨rfl,vb1,h1,hb1,hv1⟩
   have fin:Hid _:=FrAt.next h1 ok hb1 (.inl hv1)
   clear h1 hb1 hv1
   go_wp2_with fail
   go_ret
   exact⟨rfl,fin.out⟩
 | some k=>
   have e1:S.takeN=(k:Int):=by simp[Pg.Fs.takeN,hp]
   have hk:=(ok.pick_lt hp).1
   have e2:S.take={S.picked with used:=k::S.picked.used,word:=Pg.Fs.clear S.picked.word k}/\S.picked.n=S.n:=by
    unfold Pg.Fs.pick at hp
    cases hb:S.back.getLast? with
    | some j=>
      rw[hb]at hp
      cases hp
      simp[Pg.Fs.picked,Pg.Fs.take,hb]
    | none=>
      rw[hb]at hp
      by_cases hn:S.next<S.n
      ·simp[hn]at hp
       subst hp
       simp[Pg.Fs.picked,Pg.Fs.take,hb,hn]
      ·simp[hn]at hp
   have hs:=ok.small
   have i0:(0:Int)<=(k:Int):=by omega
   have i1:(k:Int)<(S.n:Int):=by omega
   have i2:((k:Int)== -1)=false:=by simp
   rw[e1]at HN ⊢
   clear e1 h
   go_enter Tryz.func47,Tryz.ntmps47
   go_wp2_with fail
   refine HN.mono ?_
   rintro e w1 ⟨rfl,vb1,h1,hb1,hv1⟩
   have hc0:=h1.c0
   rw[e2.2]at hc0
   have hf0:=h1.f0
   have hkp:k<S.picked.n:=by rw[e2.2];exact hk
   have t0:=h1.ci k hkp
   have t1:=h1.cw k 0 hkp (by omega)
   have t2:=h1.cw k 1 hkp (by omega)
   have t3:=h1.cw k 2 hkp (by omega)
   have t4:=h1.cw k 3 hkp (by omega)
   have t5:=h1.cw k 4 hkp (by omega)
   have t6:=h1.cw k 5 hkp (by omega)
   have t7:=h1.cw k 6 hkp (by omega)
   have t8:=h1.cw k 7 hkp (by omega)
   have fin:Hid (∃F',FrAt (w1.setCells g (k*9) used9) b S.take F'/\But (frF b g vb) w (w1.setCells g (k*9) used9)/\∀k,F' k->frF b g vb k\/w.heap.size<=k):=by
    refine FrAt.next (vb':=vb1) ?_ ok.take (But.setCells g (.inr (.inr (.inl rfl))) _ _ _ hb1) (.inl hv1)
    rw[e2.1]
    exact h1.fill hkp used9 rfl rfl used9_at
   clear h1 hb1 hv1 HN e2
   go_wp2_with fail
   go_ret
   exact⟨rfl,fin.out⟩
theorem infoIntF:(Tryz.prog.info? 3).map (fun i=>(i.zero,i.size,i.bytes))=some (some (.int .i64 0),1,8):=by kernel_rfl
theorem give_yes {b g:Nat} {vb:Value} {S:Pg.Fs} (m:Nat) (w:World) (h:FrRaw w b g vb S) (ok:S.Ok) (hh:S.has (m:Int)=true):
 Calls Tryz.prog 185 #[.pointer (some ⟨b,0,none⟩),.int .i64 (m:Int)] w fun e w'=>e= .returned (.bool true)/\∃F',FrAt w' b (S.give (m:Int)) F'/\But (frF b g vb) w w'/\∀k,F' k->frF b g vb k\/w.heap.size<=k:=by
 have hc0:=h.c0
 have hfb:=h.fb
 have hf0:=h.f0
 have hs:=ok.small
 have n0:=h.n0
 have hn:m<S.n:=by have:=ok.has_lt hh;omega
 have hi:=h.ci m hn
 have i0:(0:Int)<=(m:Int):=by omega
 have i1:(m:Int)<(S.n:Int):=by omega
 have hT:=taken_raw (m:Int) w h ok
 rw[hh]at hT
 have hl:∀j,decide (j ∈ S.used.erase m)=if j=m then false else S.inn j:=by
  intro j
  have hnd:S.used.Nodup:=(List.nodup_append.1 ok.nodup).1
  by_cases e:j=m
  ·simp[e,hnd.mem_erase_iff]
  ·simp[e,hnd.mem_erase_iff,Pg.Fs.inn]
 have hM:=h.mark hn false (S.used.erase m) hl
 have hbd:S.back.length<=128:=by have:=ok.len;have:=ok.top;omega
 have hown:=hM.own
 have hc1:=hM.c1
 have hlb:=hM.lb
 obtain⟨q0,hq,hz0,hz1,hz2⟩:=info_parts infoIntF
 have HM:Hid _:=hM
 have HX:Hid _:=hh
 clear hM h hl hh
 go_enter Tryz.func185,Tryz.ntmps185
 go_wp2_with (first
  | (go_at_call 204;refine hT.mono ?_;rintro e w' ⟨rfl,hw⟩;subst w')
  | (at_builtin;refine wpList_append_lies _ rfl _ _ 45 rfl 0 3 q0 (.int .i64 0) 1 8 Tryz.underlying45 hq hz0 hz1 hz2 rfl (by decide) _ _ _ rfl (hown.alloc _) ⟨w.heap.size,0,none⟩ 1 1 [.int .i64 (m:Int)] rfl rfl ?c1 ?c2 (by decide) ?c3 ?c4 (Nat.zero_le _) (w.heap.size+1) (by simp) ?_))
 case c1=>
  intro j u hj
  match j,hj with
  | 0,hj=>simp at hj;subst hj;simp[Addr.add,go_sem]
 case c2=>intro u hu;simp at hu;subst hu;rfl
 case c3=>unfold maxLen;omega
 case c4=>omega
 intro g' cap w3 hown3 hgrow hat hlt
 have h1:=HM.out
 have hk:∀k,k=b\/k=g->w3.heap[k]?=(w.setCell ⟨g,m*9,none⟩ (.bool false)).heap[k]?:=by
  intro k hk
  have hkl:k<(w.setCell ⟨g,m*9,none⟩ (.bool false)).heap.size:=by
   rcases hk with rfl|rfl
   ·exact h1.lb
   ·exact h1.l0
  have hkv:some k≠vb.ownBlock:=by
   rcases hk with rfl|rfl
   ·exact fun e=>h1.vbb e.symm
   ·exact fun e=>h1.vb0 e.symm
  rw[hgrow.block k (by simp at hkl ⊢;omega) hkv]
  exact Below.heap_alloc _ _ _ hkl
 have hsz:(w.setCell ⟨g,m*9,none⟩ (.bool false)).heap.size=w.heap.size:=by simp
 have hne:∀k,k=b\/k=g->(Value.slice (some ⟨g',0,none⟩) (S.back.length+1) cap).ownBlock≠some k:=by
  intro k hk e
  have e:g'=k:=by simpa[Value.ownBlock]using e
  subst e
  rcases hat with hat|hat
  ·rcases hk with rfl|rfl
   ·exact h1.vbb hat
   ·exact h1.vb0 hat
  ·have:=h1.lb;have:=h1.l0
   omega
 have hG:=h1.grow (w':=w3) (l:=S.back++[m]) (by have:=hgrow.size;simp at this ⊢;omega) hk (by simpa[nats]using hown3) (hne g (.inr rfl)) (hne b (.inl rfl))
 have kc:w3.cell? ⟨b,1,none⟩=some vb:=(World.cell?_of_block (hk b (.inl rfl))).trans h1.c1
 have kf:w3.frozen? ⟨b,1,none⟩=false:=(World.frozen?_of_block (hk b (.inl rfl))).trans (h1.fb 1)
 have fin:Hid (∃F',FrAt (w3.setCell ⟨b,1,none⟩ (.slice (some ⟨g',0,none⟩) (S.back.length+1) cap)) b (S.give (m:Int)) F'/\But (frF b g vb) w (w3.setCell ⟨b,1,none⟩ (.slice (some ⟨g',0,none⟩) (S.back.length+1) cap))/\∀k,F' k->frF b g vb k\/w.heap.size<=k):=by
  have e:S.give (m:Int)={{S with used:=S.used.erase m}with back:=S.back++[m]}:=by
   simp[Pg.Fs.give,HX.out]
  refine FrAt.next (vb':= .slice (some ⟨g',0,none⟩) (S.back.length+1) cap) (by rw[e];exact hG) (ok.give _) ?_ ?_
  ·refine(((((But.refl _ w).setCell (.inr (.inr (.inl rfl))) _).alloc _).grown hgrow fun k hk=> .inr (.inr (.inr hk)))).setCell (.inr (.inl rfl)) _
  ·rcases hat with hat|hat
   ·exact .inl hat.symm
   ·exact .inr ⟨g',rfl,by omega⟩
 clear hk hne hG h1 hown3 hgrow hown hc1 hat hlt
 go_wp2_with fail
 go_ret
 exact⟨rfl,fin.out⟩
theorem frGive_any {b:Nat} {S:Pg.Fs} {F:Nat->Prop} (k:Int) (w:World) (h:FrAt w b S F):
 Calls Tryz.prog 185 #[.pointer (some ⟨b,0,none⟩),.int .i64 k] w fun e w'=>e= .returned (.bool (S.has k))/\∃F',FrAt w' b (S.give k) F'/\But F w w'/\∀k,F' k->F k\/w.heap.size<=k:=by
 obtain⟨g,vb,h,ok,rfl⟩:=h
 cases hh:S.has k
 ·have hT:=taken_raw k w h ok
  rw[hh]at hT
  have e:S.give k=S:=by simp[Pg.Fs.give,hh]
  rw[e]
  have fin:Hid _:=FrAt.next h ok (But.refl (frF b g vb) w) (.inl rfl)
  clear h
  go_enter Tryz.func185,Tryz.ntmps185
  go_wp2_with (go_at_call 204;refine hT.mono ?_;rintro e w' ⟨rfl,hw⟩;subst w')
  go_ret
  exact⟨rfl,fin.out⟩
 ·obtain⟨m,rfl⟩:=Int.eq_ofNat_of_zero_le (ok.has_lt hh).1
  exact give_yes m w h ok hh
theorem frLoad_same {b:Nat} {S:Pg.Fs} {F:Nat->Prop} (k i:Int) (w:World) (h:FrAt w b S F):
 Calls Tryz.prog 172 #[.pointer (some ⟨b,0,none⟩),.int .i64 k,.int .i64 i] w fun e w'=>e= .returned (.tuple #[.int .u64 (S.load k i),.bool (S.at' k i)])/\w'=w:=by
 obtain⟨g,vb,h,ok,rfl⟩:=h
 have HW:=word_raw k i w h ok
 cases hh:S.at' k i
 ·have e:S.load k i=0:=by simp[Pg.Fs.load,hh]
  rw[e]
  rw[hh]at HW
  simp only[cond]at HW
  clear h
  go_enter Tryz.func172,Tryz.ntmps172
  go_wp2_with (go_at_call 202;refine HW.mono ?_;rintro e w' ⟨rfl,hw⟩;subst w')
  go_ret2
  exact⟨rfl,rfl⟩
 ·have e:S.load k i=S.word k.toNat i.toNat:=by simp[Pg.Fs.load,hh]
  rw[e]
  rw[hh]at HW
  simp only[cond]at HW
  obtain⟨k0,k1,i0,i8,_⟩:=ok.at_lt hh
  have hc:=h.cw k.toNat i.toNat (by omega) (by omega)
  clear h
  generalize S.word k.toNat i.toNat=v at*
  generalize k.toNat*9+1+i.toNat=o at*
  go_enter Tryz.func172,Tryz.ntmps172
  go_wp2_with (go_at_call 202;refine HW.mono ?_;rintro e w' ⟨rfl,hw⟩;subst w')
  go_ret2
  exact⟨rfl,rfl⟩
theorem frLoad_any {b:Nat} {S:Pg.Fs} {F:Nat->Prop} (k i:Int) (w:World) (h:FrAt w b S F):
 Calls Tryz.prog 172 #[.pointer (some ⟨b,0,none⟩),.int .i64 k,.int .i64 i] w fun e w'=>e= .returned (.tuple #[.int .u64 (S.load k i),.bool (S.at' k i)])/\Below w.heap.size w w':=below_of_same (frLoad_same k i w h)
theorem frStore_any {b:Nat} {S:Pg.Fs} {F:Nat->Prop} (k i v:Int) (h0:0<=v) (h1:v<18446744073709551616) (w:World) (h:FrAt w b S F):
 Calls Tryz.prog 170 #[.pointer (some ⟨b,0,none⟩),.int .i64 k,.int .i64 i,.int .u64 v] w fun e w'=>e= .returned (.bool (S.at' k i))/\∃F',FrAt w' b (S.store k i v) F'/\But F w w'/\∀k,F' k->F k\/w.heap.size<=k:=by
 obtain⟨g,vb,h,ok,rfl⟩:=h
 have HW:=word_raw k i w h ok
 cases hh:S.at' k i
 ·have e:S.store k i v=S:=by simp[Pg.Fs.store,hh]
  rw[e]
  rw[hh]at HW
  simp only[cond]at HW
  have fin:Hid _:=FrAt.next h ok (But.refl (frF b g vb) w) (.inl rfl)
  clear h
  go_enter Tryz.func170,Tryz.ntmps170
  go_wp2_with (go_at_call 202;refine HW.mono ?_;rintro e w' ⟨rfl,hw⟩;subst w')
  go_ret
  exact⟨rfl,fin.out⟩
 ·have e:S.store k i v={S with word:=Pg.Fs.put S.word k.toNat i.toNat v}:=by simp[Pg.Fs.store,hh]
  have ok':=ok.store k i h0 h1
  rw[e]at ok' ⊢
  rw[hh]at HW
  simp only[cond]at HW
  obtain⟨k0,k1,i0,i8,_⟩:=ok.at_lt hh
  have hc:=h.cw k.toNat i.toNat (by omega) (by omega)
  have hf:=h.f0 (k.toNat*9+1+i.toNat)
  have fin:Hid (∃F',FrAt (w.setCell ⟨g,k.toNat*9+1+i.toNat,none⟩ (.int .u64 v)) b {S with word:=Pg.Fs.put S.word k.toNat i.toNat v} F'/\But (frF b g vb) w (w.setCell ⟨g,k.toNat*9+1+i.toNat,none⟩ (.int .u64 v))/\∀k,F' k->frF b g vb k\/w.heap.size<=k):=
   FrAt.next (h.put (by omega) (by omega) v) ok' ((But.refl _ w).setCell (.inr (.inr (.inl rfl))) _) (.inl rfl)
  clear h
  generalize k.toNat*9+1+i.toNat=o at*
  go_enter Tryz.func170,Tryz.ntmps170
  go_wp2_with (go_at_call 202;refine HW.mono ?_;rintro e w' ⟨rfl,hw⟩;subst w')
  go_ret
  exact⟨rfl,fin.out⟩
theorem frSwap_any {b:Nat} {S:Pg.Fs} {F:Nat->Prop} (k i old v:Int) (h0:0<=v) (h1:v<18446744073709551616) (w:World) (h:FrAt w b S F):
 Calls Tryz.prog 207 #[.pointer (some ⟨b,0,none⟩),.int .i64 k,.int .i64 i,.int .u64 old,.int .u64 v] w fun e w'=>e= .returned (.bool (S.swaps k i old))/\∃F',FrAt w' b (S.swap k i old v) F'/\But F w w'/\∀k,F' k->F k\/w.heap.size<=k:=by
 obtain⟨g,vb,h,ok,rfl⟩:=h
 have HW:=word_raw k i w h ok
 cases hh:S.at' k i
 ·have es:S.swaps k i old=false:=by simp[Pg.Fs.swaps,hh]
  have e:S.swap k i old v=S:=by simp[Pg.Fs.swap,es]
  rw[e,es]
  rw[hh]at HW
  simp only[cond]at HW
  have fin:Hid _:=FrAt.next h ok (But.refl (frF b g vb) w) (.inl rfl)
  clear h
  go_enter Tryz.func207,Tryz.ntmps207
  go_wp2_with (go_at_call 202;refine HW.mono ?_;rintro e w' ⟨rfl,hw⟩;subst w')
  go_ret
  exact⟨rfl,fin.out⟩
 ·rw[hh]at HW
  simp only[cond]at HW
  obtain⟨k0,k1,i0,i8,_⟩:=ok.at_lt hh
  have hc:=h.cw k.toNat i.toNat (by omega) (by omega)
  have hf:=h.f0 (k.toNat*9+1+i.toNat)
  by_cases hw:S.word k.toNat i.toNat=old
  ·have es:S.swaps k i old=true:=by simp[Pg.Fs.swaps,hh,hw]
   have e:S.swap k i old v={S with word:=Pg.Fs.put S.word k.toNat i.toNat v}:=by simp[Pg.Fs.swap,es]
   have ok':=ok.swap k i old h0 h1
   rw[e]at ok' ⊢
   rw[es]
   have fin:Hid (∃F',FrAt (w.setCell ⟨g,k.toNat*9+1+i.toNat,none⟩ (.int .u64 v)) b {S with word:=Pg.Fs.put S.word k.toNat i.toNat v} F'/\But (frF b g vb) w (w.setCell ⟨g,k.toNat*9+1+i.toNat,none⟩ (.int .u64 v))/\∀k,F' k->frF b g vb k\/w.heap.size<=k):=
    FrAt.next (h.put (by omega) (by omega) v) ok' ((But.refl _ w).setCell (.inr (.inr (.inl rfl))) _) (.inl rfl)
   clear h
   rw[hw]at hc
   generalize k.toNat*9+1+i.toNat=o at*
   clear hw
   go_enter Tryz.func207,Tryz.ntmps207
   go_wp2_with (go_at_call 202;refine HW.mono ?_;rintro e w' ⟨rfl,hw⟩;subst w')
   go_ret
   exact⟨rfl,fin.out⟩
  ·have es:S.swaps k i old=false:=by simp[Pg.Fs.swaps,hw]
   have e:S.swap k i old v=S:=by simp[Pg.Fs.swap,es]
   rw[e,es]
   have fin:Hid _:=FrAt.next h ok (But.refl (frF b g vb) w) (.inl rfl)
   clear h
   have hne:(S.word k.toNat i.toNat==old)=false:=by simpa using hw
   generalize S.word k.toNat i.toNat=x at*
   generalize k.toNat*9+1+i.toNat=o at*
   clear hw
   go_enter Tryz.func207,Tryz.ntmps207
   go_wp2_with (go_at_call 202;refine HW.mono ?_;rintro e w' ⟨rfl,hw⟩;subst w')
   go_ret
   exact⟨rfl,fin.out⟩
theorem frNew_bad (n:Int) (hn:n<0\/128<n) (w:World):
 Calls Tryz.prog 46 #[.int .i64 n] w fun e w'=>e= .returned (.tuple #[.pointer none,.agg #[.int .i64 1,.int .i64 (-1)]])/\Below w.heap.size w w':=by
 by_cases h0:n<0
 ·go_enter Tryz.func46,Tryz.ntmps46
  go_wp2_with fail
  refine bodyPost_ret (v:= .tuple #[.pointer none,.agg #[.int .i64 1,.int .i64 (-1)]]) ?_ rfl ⟨rfl,?_⟩
  ·simp[results,Tryz.results46,go_sem]
  ·exact zA (zR w) _
 ·have h1:128<n:=by omega
  go_enter Tryz.func46,Tryz.ntmps46
  go_wp2_with fail
  refine bodyPost_ret (v:= .tuple #[.pointer none,.agg #[.int .i64 1,.int .i64 (-1)]]) ?_ rfl ⟨rfl,?_⟩
  ·simp[results,Tryz.results46,go_sem]
  ·exact zA (zR w) _
theorem infoFrame:(Tryz.prog.info? 168).map (fun i=>(i.zero,i.size,i.bytes))=some (some (.agg #[.bool false,.int .u64 0,.int .u64 0,.int .u64 0,.int .u64 0,.int .u64 0,.int .u64 0,.int .u64 0,.int .u64 0]),9,72):=by kernel_rfl
theorem frNew_any (n:Nat) (hn:n<=128) (w:World):
 Calls Tryz.prog 46 #[.int .i64 (n:Int)] w fun e w'=>∃b F,e= .returned (.tuple #[.pointer (some ⟨b,0,none⟩),.agg #[.int .i64 0,.int .i64 0]])/\FrAt w' b (Pg.Fs.new n) F/\Below w.heap.size w w'/\∀k,F k->w.heap.size<=k:=by
 obtain⟨q0,hq,hz0,hz1,hz2⟩:=info_parts infoFrame
 have m0:∀w:World,(Instr.makeSlice 163 (.int .i64 (n:Int)) (.int .i64 (n:Int))).run Tryz.prog w=_:=fun w=>
  run_make w 163 168 q0 _ Tryz.underlying163 hq hz0 .i64 .i64 n n (by omega) (Int.le_refl _) (by rw[hz2];omega) (by omega)
 rw[hz1]at m0
 simp only[Int.toNat_natCast]at m0
 have d0:¬(n:Int)<0:=by omega
 have d1:¬(128:Int)<(n:Int):=by omega
 go_enter Tryz.func46,Tryz.ntmps46
 go_wp2_with fail
 refine bodyPost_ret (v:= .tuple #[.pointer (some ⟨w.heap.size+1+1,0,none⟩),.agg #[.int .i64 0,.int .i64 0]]) ?_ rfl ?_
 ·simp[results,Tryz.results46,go_sem]
 refine⟨w.heap.size+1+1,rfl,frF (w.heap.size+1+1) (w.heap.size+1) (.slice none 0 0),⟨w.heap.size+1,.slice none 0 0,?_,Pg.Fs.new_ok n hn,rfl⟩,?_,?_⟩
 ·refine FrRaw.made (t0:=168) (t2:=165) ?_ ?_ (by omega)
  ·exact(alloc3 w _ _ _).2.2
  ·exact(alloc3 w _ _ _).2.1
 ·exact zA (zA (zA (zR w) _) _) _
 ·intro k hk
  rcases hk with rfl|rfl|hk
  ·omega
  ·omega
  ·simp[Value.ownBlock]at hk
end Go.Proofs.YtkhnelgommaioaaGreat
