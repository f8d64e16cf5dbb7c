import Derived.Test.YtkhnelgommaioaaGreatHeap
import Derived.OwnWalk
import Derived.Laws.IdiomCopy
namespace Go.Proofs.YtkhnelgommaioaaGreat
open Go.RowKit
namespace Pg
structure Fs where
 n:Nat
 next:Nat
 used:List Nat
 back:List Nat
 word:Nat->Nat->Int
namespace Fs
def new (n:Nat):Fs:=⟨n,0,[],[],fun _ _=>0⟩
structure Ok (S:Fs):Prop where
 perm:(S.used++S.back).Perm (List.range S.next)
 top:S.next<=S.n
 small:S.n<=128
 low:∀k i,0<=S.word k i
 high:∀k i,S.word k i<18446744073709551616
def inn (S:Fs) (k:Nat):Bool:=decide (k ∈ S.used)
def has (S:Fs) (k:Int):Bool:=decide (0<=k)&&S.inn k.toNat
def pick (S:Fs):Option Nat:=match S.back.getLast? with
 | some k=>some k
 | none=>if S.next<S.n then some S.next else none
def put (f:Nat->Nat->Int) (k i:Nat) (v:Int):Nat->Nat->Int:=fun a b=>if a=k/\b=i then v else f a b
def clear (f:Nat->Nat->Int) (k:Nat):Nat->Nat->Int:=fun a b=>if a=k then 0 else f a b
def takeN (S:Fs):Int:=match S.pick with
 | some k=>(k:Int)
 | none=> -1
def take (S:Fs):Fs:=match S.back.getLast? with
 | some k=>{S with used:=k::S.used,back:=S.back.dropLast,word:=clear S.word k}
 | none=>if S.next<S.n then{S with used:=S.next::S.used,next:=S.next+1,word:=clear S.word S.next}else S
def give (S:Fs) (k:Int):Fs:=if S.has k=true then{S with used:=S.used.erase k.toNat,back:=S.back++[k.toNat]}else S
def free (S:Fs):Int:=S.back.length+S.n-S.next
def at' (S:Fs) (k i:Int):Bool:=S.has k&&(decide (0<=i)&&decide (i<8))
def load (S:Fs) (k i:Int):Int:=if S.at' k i=true then S.word k.toNat i.toNat else 0
def store (S:Fs) (k i w:Int):Fs:=if S.at' k i=true then{S with word:=put S.word k.toNat i.toNat w}else S
def swaps (S:Fs) (k i old:Int):Bool:=S.at' k i&&decide (S.word k.toNat i.toNat=old)
def swap (S:Fs) (k i old w:Int):Fs:=if S.swaps k i old=true then{S with word:=put S.word k.toNat i.toNat w}else S
theorem new_ok (n:Nat) (h:n<=128):(new n).Ok:=⟨by simp[new],Nat.zero_le _,h,fun _ _=>by simp[new],fun _ _=>by simp[new]⟩
section
variable {S:Fs}
theorem Ok.len (h:S.Ok):S.used.length+S.back.length=S.next:=by simpa using h.perm.length_eq
theorem Ok.lt (h:S.Ok) {k:Nat} (hk:k ∈ S.used):k<S.next:=by
 have:k ∈ List.range S.next:=h.perm.mem_iff.1 (by simp[hk])
 simpa using this
theorem Ok.backLt (h:S.Ok) {k:Nat} (hk:k ∈ S.back):k<S.next:=by
 have:k ∈ List.range S.next:=h.perm.mem_iff.1 (by simp[hk])
 simpa using this
theorem Ok.nodup (h:S.Ok):(S.used++S.back).Nodup:=h.perm.nodup_iff.2 List.nodup_range
theorem Ok.has_lt (h:S.Ok) {k:Int} (hk:S.has k=true):0<=k/\k<S.n/\k.toNat ∈ S.used:=by
 simp[has,inn]at hk
 have:=h.lt hk.2
 have:=h.top
 exact⟨hk.1,by omega,hk.2⟩
theorem Ok.at_lt (h:S.Ok) {k i:Int} (hk:S.at' k i=true):0<=k/\k<S.n/\0<=i/\i<8/\k.toNat ∈ S.used:=by
 simp only[at',Bool.and_eq_true,decide_eq_true_eq]at hk
 obtain⟨h0,h1,h2⟩:=h.has_lt hk.1
 exact⟨h0,h1,hk.2.1,hk.2.2,h2⟩
theorem Ok.pick_lt (h:S.Ok) {k:Nat} (hk:S.pick=some k):k<S.n/\k ∉ S.used:=by
 unfold pick at hk
 have htop:=h.top
 have hnd:=h.nodup
 split at hk
 ·rename_i j hj
  cases hk
  have hm:=List.mem_of_getLast? hj
  have:=h.backLt hm
  rw[List.nodup_append]at hnd
  exact⟨by omega,fun hu=>hnd.2.2 _ hu _ hm rfl⟩
 ·split at hk
  ·cases hk
   refine⟨by omega,fun hu=> ?_⟩
   have:=h.lt hu
   omega
  ·cases hk
theorem Ok.take (h:S.Ok):S.take.Ok:=by
 unfold Fs.take
 have hp:=h.perm
 split
 ·rename_i k hk
  refine⟨?_,h.top,h.small,fun a b=> ?_,fun a b=> ?_⟩
  ·have e:S.back=S.back.dropLast++[k]:=by
    obtain⟨l,hl⟩:=List.getLast?_eq_some_iff.1 hk
    simp[hl]
   rw[e]at hp
   refine List.Perm.trans ?_ hp
   show(k::S.used++S.back.dropLast).Perm (S.used++(S.back.dropLast++[k]))
   rw[<-List.append_assoc]
   exact(List.perm_append_comm (l₁:=[k]) (l₂:=S.used++S.back.dropLast))
  ·show 0<=clear S.word k a b
   unfold clear;split
   ·exact Int.le_refl _
   ·exact h.low a b
  ·show clear S.word k a b<_
   unfold clear;split
   ·decide
   ·exact h.high a b
 ·rename_i hb
  have hb:S.back=[]:=by simpa using hb
  split
  ·rename_i hlt
   refine⟨?_,hlt,h.small,fun a b=> ?_,fun a b=> ?_⟩
   ·rw[hb,List.append_nil]at hp
    show(S.next::S.used++S.back).Perm (List.range (S.next+1))
    rw[hb,List.append_nil,List.range_succ]
    exact List.Perm.trans (List.Perm.cons _ hp) (List.perm_append_comm (l₁:=[S.next]))
   ·show 0<=clear S.word S.next a b
    unfold clear;split
    ·exact Int.le_refl _
    ·exact h.low a b
   ·show clear S.word S.next a b<_
    unfold clear;split
    ·decide
    ·exact h.high a b
  ·exact h
theorem Ok.give (h:S.Ok) (k:Int):(S.give k).Ok:=by
 unfold Fs.give
 split
 ·rename_i hk
  obtain⟨_,_,hm⟩:=h.has_lt hk
  refine⟨?_,h.top,h.small,h.low,h.high⟩
  show(S.used.erase k.toNat++(S.back++[k.toNat])).Perm (List.range S.next)
  refine List.Perm.trans ?_ h.perm
  refine List.Perm.trans ?_ (List.Perm.append_right S.back (List.perm_cons_erase hm).symm)
  rw[<-List.append_assoc]
  exact(List.perm_append_comm (l₁:=S.used.erase k.toNat++S.back) (l₂:=[k.toNat]))
 ·exact h
theorem put_ok (h:S.Ok) (k i:Nat) {v:Int} (h0:0<=v) (h1:v<18446744073709551616):({S with word:=put S.word k i v}:Fs).Ok:=by
 refine⟨h.perm,h.top,h.small,fun a b=> ?_,fun a b=> ?_⟩
 ·show 0<=put S.word k i v a b
  unfold put;split
  ·exact h0
  ·exact h.low a b
 ·show put S.word k i v a b<_
  unfold put;split
  ·exact h1
  ·exact h.high a b
theorem Ok.store (h:S.Ok) (k i:Int) {v:Int} (h0:0<=v) (h1:v<18446744073709551616):(S.store k i v).Ok:=by
 unfold Fs.store
 split
 ·exact put_ok h _ _ h0 h1
 ·exact h
theorem Ok.swap (h:S.Ok) (k i old:Int) {v:Int} (h0:0<=v) (h1:v<18446744073709551616):(S.swap k i old v).Ok:=by
 unfold Fs.swap
 split
 ·exact put_ok h _ _ h0 h1
 ·exact h
theorem Ok.free_bd (h:S.Ok):0<=S.free/\S.free<=128:=by
 have:=h.len;have:=h.top;have:=h.small
 unfold free
 omega
end
end Fs
end Pg
open Go.RowKit Go.Sort
set_option linter.unusedVariables false
theorem owns_of_block {w w':World} {base e size n:Nat} {v:Value} {xs:List Value} (h:w.ownsRow base e size v n xs) (hk:∀k,v.ownBlock=some k->w'.heap[k]?=w.heap[k]?):w'.ownsRow base e size v n xs:=by
 refine⟨h.1,?_⟩
 rcases h.2 with hn|⟨g,cap,cur,rfl,hb,hgg,rest⟩
 ·exact .inl hn
 ·exact .inr ⟨g,cap,cur,rfl,hb,by rw[hk g rfl];exact hgg,rest⟩
def nats (l:List Nat):List Value:=l.map fun k:Nat=>Value.int .i64 (k:Int)
theorem heap_setCells (b:Nat):∀(vs:List Value) (o:Nat) (w:World) (k:Nat),k≠b->(w.setCells b o vs).heap[k]?=w.heap[k]?
 | [],_,_,_,_=>rfl
 | v::r,o,w,k,h=>by rw[World.setCells,heap_setCells b r (o+1) _ k h,Below.heap_setCell _ _ _ _ h]
theorem size_setCells (b:Nat):∀(vs:List Value) (o:Nat) (w:World),(w.setCells b o vs).heap.size=w.heap.size
 | [],_,_=>rfl
 | v::r,o,w=>by rw[World.setCells,size_setCells b r (o+1)];simp
theorem But.setCells {F:Nat->Prop} {w:World} (b:Nat) (hb:w.heap.size<=b\/F b):∀(vs:List Value) (o:Nat) (w1:World),But F w w1->But F w (w1.setCells b o vs)
 | [],_,_,h=>h
 | v::r,o,w1,h=>But.setCells b hb r (o+1) _ (h.setCell (a:=⟨b,o,none⟩) hb v)
namespace MemRaw
variable {w w':World} {b g0 g1:Nat} {vb:Value} {S:Pg.Fs}
end MemRaw
def zeros:Array Value:=#[.int .u64 0,.int .u64 0,.int .u64 0,.int .u64 0,.int .u64 0,.int .u64 0,.int .u64 0,.int .u64 0]
end Go.Proofs.YtkhnelgommaioaaGreat
