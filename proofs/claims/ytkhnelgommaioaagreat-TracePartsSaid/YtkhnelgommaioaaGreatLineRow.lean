import Derived.Test.YtkhnelgommaioaaGreatHeap
import Derived.Laws.CopyRow
import Derived.Laws.AppendOwn
import Derived.Lib.AppendZerosOnto
import Derived.WalkKit
import Derived.ArgAppend
import Derived.Test.YtkhnelgommaioaaGreatMapInfo
import Derived.Test.YtkhnelgommaioaaGreatPlainKB
namespace Go.Proofs.YtkhnelgommaioaaGreat
open Go.RowKit Go.Sort
set_option linter.unusedVariables false
variable {P:Program}
theorem run_copy_wide (w:World) (dT sT ty elem:TypeId) (size g o dLen dCap:Nat) (a:Addr) (sLen sCap:Nat) (cur:Array Value) (t:TypeId) (cs:List Value)
 (hu:P.underlying dT=some (.slice elem)) (hs:(P.info? elem).map (·.size)=some size)
 (hg:w.heap[g]?=some (.cells cur t (0,0))) (hn:cs.length=Nat.min sLen dLen*size)
 (hsrc:∀j v,cs[j]?=some v->w.cell? (a.add j)=some v) (hfit:o+cs.length<=cur.size) (h1:∀v ∈ cs,v.oneCell'=true):
 (Builtin.copy_ #[dT,sT] ty #[.slice (some ⟨g,o,none⟩) dLen dCap,.slice (some a) sLen sCap]).run P w=
   .ok (goInt (Nat.min sLen dLen)) (w.setRow g (cur.toList.take o++cs++cur.toList.drop (o+cs.length)).toArray):=by
 have hf:=run_firstCells_some (P:=P) w size (Nat.min sLen dLen) a sLen sCap cs hn hsrc
 have hst:=run_storeCells_at P g o t cs 0 cur w hg (by simpa using hfit) h1
 cases hq:P.info? elem with
 | none=>simp[hq]at hs
 | some i=>
   have hi:i.size=size:=by simpa[hq]using hs
   simp[Builtin.copy_,run_underlying hu,Builtin.lenOf,sizeOf,typeInfo,hq,hi,hf,hst]
theorem run_clear_wide (w:World) (t e ty t':TypeId) (z:Value) (ht:P.underlying t=some (.slice e)) (hv:∀w,(zeroValue e).run P w= .ok z w) (g o n c:Nat) (hn:0<n) (cur:Array Value)
 (hg:w.heap[g]?=some (.cells cur t' (0,0))) (hfit:o+n*z.cells.size<=cur.size) (h1:∀v ∈ (Builtin.zeroCells z.cells n).toList,v.oneCell'=true):
 (Builtin.clear_ #[t] ty #[.slice (some ⟨g,o,none⟩) n c]).run P w= .ok (.tuple #[]) (w.setRow g (cur.toList.take o++(Builtin.zeroCells z.cells n).toList++cur.toList.drop (o+n*z.cells.size)).toArray):=by
 have hl:(Builtin.zeroCells z.cells n).toList.length=n*z.cells.size:=by simp[size_zeroCells]
 have hst:=run_storeCells_at P g o t' (Builtin.zeroCells z.cells n).toList 0 cur w hg (by rw[hl];simpa using hfit) h1
 rw[hl]at hst
 simp only[Nat.add_zero]at hst
 obtain⟨m,rfl⟩:∃m,n=m+1:=⟨n-1,by omega⟩
 simp[Builtin.clear_,run_underlying ht,hv,hst]
theorem wp_copy_known (w:World) {o:Oper} {a:Act} {K:Act->World->Prop} {Q:Exit->Act->World->Prop} (d s:Operand) (t t':TypeId)
 (ho:o.op= .call {callee:= .builtin .copy,args:=#[d,s],argTypes:=#[t,t']}) (v u:Value) (hd:a.eval d=v) (hs:a.eval s=u) {v':Value} {w':World}
 (hr:(Builtin.copy_ #[t,t'] o.type #[v,u]).run P w= .ok v' w') (h:K (a.put o.dst v') w'):o.wp P a w K Q:=by
 unfold Oper.wp execOp
 simp only[ho,resolve,invoke,builtin,Sem.run_bind,Sem.run_pure,Result.andThen_ok,List.map_toArray,List.map_cons,List.map_nil,hd,hs,hr]
 exact h
theorem wpList_copy_known (w:World) {ops:Array Oper} {rest:List Oper} {o:Oper} {a:Act} {Q:Exit->Act->World->Prop} (hgd:o.guard=none) (d s:Operand) (t t':TypeId)
 (ho:o.op= .call {callee:= .builtin .copy,args:=#[d,s],argTypes:=#[t,t']}) (v u:Value) (hd:a.eval d=v) (hs:a.eval s=u) {v':Value} {w':World}
 (hr:(Builtin.copy_ #[t,t'] o.type #[v,u]).run P w= .ok v' w') (h:wpList P ops Q rest (a.put o.dst v') w'):wpList P ops Q (o::rest) a w:=
 wpList_plain hgd fun _ hK=>wp_copy_known w d s t t' ho v u hd hs hr (hK _ _ h)
theorem step_copy_known {ops:Array Oper} {o:Oper} {a:Act} {w:World} {K:Act->World->Prop} {Q:Exit->Act->World->Prop} {E:Prop}
 (hg:o.guard=none) (d x:Operand) (dT sT:TypeId) (hop:o.op=Op.call {callee:=Callee.builtin Builtin.copy,args:=#[d,x],argTypes:=#[dT,sT]})
 (v u:Value) (hd:a.eval d=v) (hx:a.eval x=u) {v':Value} {w':World} (hr:(Builtin.copy_ #[dT,sT] o.type #[v,u]).run P w= .ok v' w') (hK:K (a.put o.dst v') w'):
 if Region.wanted o (yielded ops a.tmps)=true then Oper.wp P o a w K Q else E:=by
 have hw:Region.wanted o (yielded ops a.tmps)=true:=by simp[Region.wanted,hg]
 rw[if_pos hw]
 unfold Oper.wp
 simp[execOp,hop,resolve,invoke,builtin,hd,hx,hr,Result.andThen]
 exact hK
theorem step_append_known {ops:Array Oper} {o:Oper} {a:Act} {w:World} {K:Act->World->Prop} {Q:Exit->Act->World->Prop} {E:Prop}
 (hg:o.guard=none) (d x:Operand) (dT sT:TypeId) (hop:o.op=Op.call {callee:=Callee.builtin Builtin.append,args:=#[d,x],argTypes:=#[dT,sT]})
 (v u:Value) (hd:a.eval d=v) (hx:a.eval x=u) {v':Value} {w':World} (hr:(Builtin.append_ #[dT,sT] o.type #[v,u]).run P w= .ok v' w') (hK:K (a.put o.dst v') w'):
 if Region.wanted o (yielded ops a.tmps)=true then Oper.wp P o a w K Q else E:=by
 have hw:Region.wanted o (yielded ops a.tmps)=true:=by simp[Region.wanted,hg]
 rw[if_pos hw]
 unfold Oper.wp
 simp[execOp,hop,resolve,invoke,builtin,hd,hx,hr,Result.andThen]
 exact hK
theorem wp_clear_known (w:World) {o:Oper} {a:Act} {K:Act->World->Prop} {Q:Exit->Act->World->Prop} (d:Operand) (t:TypeId)
 (ho:o.op= .call {callee:= .builtin .clear,args:=#[d],argTypes:=#[t]}) (v:Value) (hd:a.eval d=v) {v':Value} {w':World}
 (hr:(Builtin.clear_ #[t] o.type #[v]).run P w= .ok v' w') (h:K (a.put o.dst v') w'):o.wp P a w K Q:=by
 unfold Oper.wp execOp
 simp only[ho,resolve,invoke,builtin,Sem.run_bind,Sem.run_pure,Result.andThen_ok,List.map_toArray,List.map_cons,List.map_nil,hd,hr]
 exact h
theorem wpList_clear_known (w:World) {ops:Array Oper} {rest:List Oper} {o:Oper} {a:Act} {Q:Exit->Act->World->Prop} (hgd:o.guard=none) (d:Operand) (t:TypeId)
 (ho:o.op= .call {callee:= .builtin .clear,args:=#[d],argTypes:=#[t]}) (v:Value) (hd:a.eval d=v) {v':Value} {w':World}
 (hr:(Builtin.clear_ #[t] o.type #[v]).run P w= .ok v' w') (h:wpList P ops Q rest (a.put o.dst v') w'):wpList P ops Q (o::rest) a w:=
 wpList_plain hgd fun _ hK=>wp_clear_known w d t ho v hd hr (hK _ _ h)
theorem But.setRow {F:Nat->Prop} {w w1:World} (h:But F w w1) {g:Nat} (ha:w.heap.size<=g\/F g) (cs:Array Value):But F w (w1.setRow g cs):=
 ⟨h.os,h.tape,h.output,by simpa using h.size,fun i hi hF=>by
  rw[setRow_other _ _ _ _ (fun e=>by subst e;exact ha.elim (fun h'=>by omega) hF)]
  exact h.block i hi hF⟩
theorem row_opened {c xs news:List Value} {z n k:Nat} (hk:k<=n) (hc:(n+1)*z<=c.length) (hx:c.take (n*z)=xs) (hn:news.length=z):
 let c1:=c.take ((k+1)*z)++xs.drop (k*z)++c.drop ((k+1)*z+(xs.drop (k*z)).length)
 (c1.take (k*z)++news++c1.drop (k*z+news.length)).take ((n+1)*z)=xs.take (k*z)++news++xs.drop (k*z):=by
 intro c1
 have e1:(n+1)*z=n*z+z:=by rw[Nat.add_mul,Nat.one_mul]
 have e2:(k+1)*z=k*z+z:=by rw[Nat.add_mul,Nat.one_mul]
 have e3:k*z<=n*z:=Nat.mul_le_mul_right _ hk
 have hxl:xs.length=n*z:=by rw[<-hx,List.length_take];omega
 have hd:(xs.drop (k*z)).length=n*z-k*z:=by rw[List.length_drop,hxl]
 have ht:(c.take ((k+1)*z)).length=k*z+z:=by rw[List.length_take];omega
 have h1:c1.take (k*z)=xs.take (k*z):=by
  show(c.take ((k+1)*z)++xs.drop (k*z)++_).take (k*z)=_
  rw[List.append_assoc,List.take_append_of_le_length (by omega),List.take_take,<-hx,List.take_take]
  congr 1
  omega
 have h2:c1.drop (k*z+news.length)=xs.drop (k*z)++c.drop ((k+1)*z+(xs.drop (k*z)).length):=by
  show(c.take ((k+1)*z)++xs.drop (k*z)++_).drop (k*z+news.length)=_
  rw[List.append_assoc,List.drop_append_of_le_length (by omega),List.drop_eq_nil_of_le (by omega),List.nil_append]
 have hp:(xs.take (k*z)).length=k*z:=by rw[List.length_take];omega
 rw[h1,h2,<-List.append_assoc,List.take_append_of_le_length (by simp only[List.length_append,hp,hd,hn];omega),List.take_of_length_le (by simp only[List.length_append,hp,hd,hn];omega)]
theorem row_shut {c xs zs:List Value} {z n k:Nat} (hk:k<n) (hc:n*z<=c.length) (hx:c.take (n*z)=xs):
 let c1:=c.take (k*z)++xs.drop ((k+1)*z)++c.drop (k*z+(xs.drop ((k+1)*z)).length)
 (c1.take ((n-1)*z)++zs++c1.drop ((n-1)*z+z)).take ((n-1)*z)=xs.take (k*z)++xs.drop ((k+1)*z):=by
 intro c1
 obtain⟨m,rfl⟩:∃m,n=m+1:=⟨n-1,by omega⟩
 have e1:(m+1)*z=m*z+z:=by rw[Nat.add_mul,Nat.one_mul]
 have e2:(k+1)*z=k*z+z:=by rw[Nat.add_mul,Nat.one_mul]
 have e3:k*z<=m*z:=Nat.mul_le_mul_right _ (by omega)
 simp only[Nat.add_sub_cancel]
 have hxl:xs.length=m*z+z:=by rw[<-hx,List.length_take];omega
 have hd:(xs.drop ((k+1)*z)).length=m*z-k*z:=by rw[List.length_drop,hxl];omega
 have ht:(c.take (k*z)).length=k*z:=by rw[List.length_take];omega
 have h1:c1.take (m*z)=c.take (k*z)++xs.drop ((k+1)*z):=by
  show(c.take (k*z)++xs.drop ((k+1)*z)++_).take (m*z)=_
  rw[List.take_append_of_le_length (by rw[List.length_append,ht,hd];omega),List.take_of_length_le (by rw[List.length_append,ht,hd];omega)]
 have hl:(c1.take (m*z)).length=m*z:=by rw[h1,List.length_append,ht,hd];omega
 rw[List.append_assoc,List.take_append_of_le_length (by omega),List.take_of_length_le (by omega),h1,<-hx,List.take_take]
 congr 2
 omega
theorem row_filled {c xs news:List Value} {z n k:Nat} (hk:k<=n) (hc:(n+1)*z<=c.length) (hx:c.take (k*z)=xs.take (k*z)) (hxl:xs.length=n*z) (hn:news.length=z):
 let c1:=c.take (k*z)++news++c.drop (k*z+news.length)
 (c1.take ((k+1)*z)++xs.drop (k*z)++c1.drop ((k+1)*z+(xs.drop (k*z)).length)).take ((n+1)*z)=xs.take (k*z)++news++xs.drop (k*z):=by
 intro c1
 have e1:(n+1)*z=n*z+z:=by rw[Nat.add_mul,Nat.one_mul]
 have e2:(k+1)*z=k*z+z:=by rw[Nat.add_mul,Nat.one_mul]
 have e3:k*z<=n*z:=Nat.mul_le_mul_right _ hk
 have hd:(xs.drop (k*z)).length=n*z-k*z:=by rw[List.length_drop,hxl]
 have ht:(xs.take (k*z)).length=k*z:=by rw[List.length_take];omega
 have h1:c1.take ((k+1)*z)=xs.take (k*z)++news:=by
  show(c.take (k*z)++news++_).take ((k+1)*z)=_
  rw[hx,List.take_append_of_le_length (by rw[List.length_append,ht,hn];omega),List.take_of_length_le (by rw[List.length_append,ht,hn];omega)]
 rw[h1,List.take_append_of_le_length (by simp only[List.length_append,ht,hn,hd];omega),List.take_of_length_le (by simp only[List.length_append,ht,hn,hd];omega)]
def OwnsAt (w:World) (e:TypeId) (size:Nat) (v:Value) (n:Nat) (xs:List Value):Prop:=
 xs.length=n*size/\((v= .slice none 0 0/\n=0)\/∃g o cap cur,v= .slice (some ⟨g,o,none⟩) n cap/\w.heap[g]?=some (.cells cur e (0,0))/\n<=cap/\cap<=maxLen/\o+cap*size<=cur.size/\(cur.toList.drop o).take (n*size)=xs)
section
variable {w w':World} {e:TypeId} {size n:Nat} {v:Value} {xs:List Value}
theorem OwnsAt.of_row {base:Nat} (h:w.ownsRow base e size v n xs):OwnsAt w e size v n xs:=by
 obtain⟨hl,h⟩:=h
 refine⟨hl,h.imp id ?_⟩
 rintro ⟨g,cap,cur,rfl,_,hg,h1,h2,h3,h4⟩
 exact⟨g,0,cap,cur,rfl,hg,h1,h2,by omega,by simpa using h4⟩
theorem OwnsAt.shape (h:OwnsAt w e size v n xs) (hn:0<n):∃g o cap,v= .slice (some ⟨g,o,none⟩) n cap/\g<w.heap.size/\n<=cap/\cap<=maxLen:=by
 rcases h.2 with ⟨rfl,rfl⟩|⟨g,o,cap,cur,rfl,hg,h1,h2,_⟩
 ·omega
 ·exact⟨g,o,cap,rfl,(Array.getElem?_eq_some_iff.1 hg).1,h1,h2⟩
theorem OwnsAt.cell {g o cap:Nat} (h:OwnsAt w e size (.slice (some ⟨g,o,none⟩) n cap) n xs) {j:Nat} (hj:j<n*size):w.cell? ⟨g,o+j,none⟩=xs[j]?:=by
 rcases h.2 with ⟨e,_⟩|⟨g',o',cap',cur,e,hg,h1,h2,h3,h4⟩
 ·cases e
 ·cases e
  rw[cell_of_row w g (o+j) cur _ _ hg,<-h4,List.getElem?_take,if_pos hj,List.getElem?_drop]
  simp
end
section
variable {P:Program} (w:World)
end
def lnCell (l:Pg.Ln):List Value:=[.int .i64 l.m.p,.int .i64 l.m.s,.int .i64 l.m.f,.int .i64 l.m.r,.bool l.d]
def zL (L:List Pg.Ln):List Value:=L.flatMap lnCell
theorem lnCells_len:∀L:List Pg.Ln,(zL L).length=L.length*5
 | []=>rfl
 | x::r=>by
   have:=lnCells_len r
   simp[zL,lnCell]at this ⊢
   omega
theorem lnCells_cons (x:Pg.Ln) (r:List Pg.Ln):zL (x::r)=lnCell x++zL r:=by simp[zL]
theorem lnCells_append (A B:List Pg.Ln):zL (A++B)=zL A++zL B:=by simp[zL]
theorem lnCells_one (m:Pg.Ln):zL [m]=lnCell m:=by simp[zL]
theorem lnCells_push (A:List Pg.Ln) (m:Pg.Ln):zL (A++[m])=zL A++lnCell m:=by rw[lnCells_append,lnCells_one]
theorem lnCells_at:∀(L:List Pg.Ln) (j i:Nat),j<L.length->i<5->(zL L)[j*5+i]?=(lnCell (L.getD j .zz))[i]?
 | [],j,_,h,_=>by simp at h
 | x::r,0,i,_,hi=>by
   rw[lnCells_cons,List.getElem?_append_left (by simp[lnCell];omega)]
   simp
 | x::r,j+1,i,h,hi=>by
   have:=lnCells_at r j i (by simpa using h) hi
   rw[lnCells_cons,List.getElem?_append_right (by simp[lnCell];omega)]
   rw[show(j+1)*5+i-(lnCell x).length=j*5+i by simp[lnCell];omega,this]
   simp
theorem lnCells_one' (L:List Pg.Ln):∀u,u ∈ zL L->u.oneCell'=true:=by
 intro u hu
 obtain⟨m,_,hm⟩:=List.mem_flatMap.1 hu
 simp[lnCell]at hm
 rcases hm with rfl|rfl|rfl|rfl|rfl<;>rfl
theorem lnCells_cut (L:List Pg.Ln) (j:Nat):(zL L).take (j*5)=zL (L.take j)/\(zL L).drop (j*5)=zL (L.drop j):=by
 by_cases hj:j<=L.length
 ·have e:zL L=zL (L.take j)++zL (L.drop j):=by rw[<-lnCells_append,List.take_append_drop]
  have hl:(zL (L.take j)).length=j*5:=by rw[lnCells_len,List.length_take];congr 1;omega
  exact⟨by rw[e,List.take_left' hl],by rw[e,List.drop_left' hl]⟩
 ·have hl:=lnCells_len L
  rw[List.take_of_length_le (by omega),List.take_of_length_le (l:=L) (by omega),List.drop_eq_nil_of_le (by omega),List.drop_eq_nil_of_le (show L.length<=j by omega)]
  exact⟨rfl,rfl⟩
def LnAt (w:World) (g o:Nat) (l:Pg.Ln):Prop:=
 w.cell? ⟨g,o,none⟩=some (.int .i64 l.m.p)/\w.cell? ⟨g,o+1,none⟩=some (.int .i64 l.m.s)/\w.cell? ⟨g,o+2,none⟩=some (.int .i64 l.m.f)/\w.cell? ⟨g,o+3,none⟩=some (.int .i64 l.m.r)/\w.cell? ⟨g,o+4,none⟩=some (.bool l.d)
theorem LnAt.of {w w':World} {g o:Nat} {l:Pg.Ln} (h:LnAt w g o l) (hc:∀p,w'.cell? ⟨g,p,none⟩=w.cell? ⟨g,p,none⟩):LnAt w' g o l:=
 ⟨(hc _).trans h.1,(hc _).trans h.2.1,(hc _).trans h.2.2.1,(hc _).trans h.2.2.2.1,(hc _).trans h.2.2.2.2⟩
theorem LnAt.below {w w':World} {g o B:Nat} {l:Pg.Ln} (h:LnAt w g o l) (hb:Below B w w') (hg:g<B):LnAt w' g o l:=h.of fun p=>hb.cell (p:=⟨g,p,none⟩) hg
def LinesAt (w:World) (ad:Option Addr) (L:List Pg.Ln):Prop:=∀j,j<L.length->∃g o,ad=some ⟨g,o,none⟩/\g<w.heap.size/\LnAt w g (o+j*5) (L.getD j .zz)
theorem LinesAt.below {w w':World} {ad:Option Addr} {L:List Pg.Ln} (h:LinesAt w ad L) (hb:Below w.heap.size w w'):LinesAt w' ad L:=by
 intro j hj
 obtain⟨g,o,e,hg,hm⟩:=h j hj
 exact⟨g,o,e,Nat.lt_of_lt_of_le hg hb.size,hm.below hb hg⟩
theorem ownsAt_lines {w:World} {e:TypeId} {ad:Option Addr} {n cap:Nat} {L:List Pg.Ln} (h:OwnsAt w e 5 (.slice ad n cap) L.length (zL L)):LinesAt w ad L:=by
 intro j hj
 obtain⟨g,o,cap',e,hg,_⟩:=h.shape (by omega)
 cases e
 have hc:=fun i (hi:i<5)=>(h.cell (j:=j*5+i) (by omega)).trans (lnCells_at L j i hj hi)
 have h0:=hc 0 (by omega)
 have h1:=hc 1 (by omega)
 have h2:=hc 2 (by omega)
 have h3:=hc 3 (by omega)
 have h4:=hc 4 (by omega)
 simp only[lnCell,<-Nat.add_assoc,Nat.add_zero]at h0 h1 h2 h3 h4
 exact⟨g,o,rfl,hg,by simpa using h0,by simpa using h1,by simpa using h2,by simpa using h3,by simpa using h4⟩
end Go.Proofs.YtkhnelgommaioaaGreat
