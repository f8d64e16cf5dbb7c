import Derived.Test.YtkhnelgommaioaaGreatChecked
import Derived.Test.YtkhnelgommaioaaGreatLineRow
import Derived.Lib.Overlaps
import Derived.Lib.SliceRun
import Derived.Shelf.RegionOpenPlain
import Derived.Deep.LoopGhost
namespace Go.Proofs.YtkhnelgommaioaaGreat
open Go.RowKit Go.Sort
set_option linter.unusedVariables false
set_option maxRecDepth 100000
theorem infoLine:(Tryz.prog.info? 141).map (fun i=>(i.zero,i.size,i.bytes))=some (some (.agg #[.int .i64 0,.int .i64 0,.int .i64 0,.int .i64 0,.bool false]),5,40):=by kernel_rfl
theorem lnClone_any {vb:Value} {L:List Pg.Ln} (w:World) (hr:w.ownsRow 0 141 5 vb L.length (zL L)) (hlen:L.length<=6):
 Calls Tryz.prog 120 #[vb] w fun e w'=>∃v',e= .returned v'/\w'.ownsRow w.heap.size 141 5 v' L.length (zL L)/\Below w.heap.size w w':=by
 have q58:∀(w:World) (a:Option Addr) (n c n' c':Nat),(binOp .eql 61 (.slice a n c) (.slice none n' c')).run Tryz.prog w= .ok (.bool a.isNone) w:=fun w a n c n' c'=>Lib.run_eql_slice_nil w _ _ a n c n' c' Tryz.underlying61
 rcases hr.2 with ⟨rfl,h0⟩|⟨g,cap,cur,rfl,_,hg,hrest⟩
 ·have hL:L=[]:=List.length_eq_zero_iff.1 h0
  subst hL
  clear hr
  go_enter Tryz.func120,Tryz.ntmps120
  go_wp2_with fail
  go_ret
  exact⟨_,rfl,World.ownsRow_nil _ _ _ _,zR _⟩
 ·obtain⟨q0,hqi,hz0,hz1,hz2⟩:=info_parts infoLine
  have hcells:Hid _:=hr.cells (g:=g) rfl
  have hgl:g<w.heap.size:=(Array.getElem?_eq_some_iff.1 hg).1
  clear hr hg hrest
  go_enter Tryz.func120,Tryz.ntmps120
  go_wp2_with (at_builtin;refine wpList_append_own _ rfl _ _ 61 rfl w.heap.size 141 q0 _ 5 40 Tryz.underlying61 hqi hz0 hz1 hz2 rfl (by decide) _ _ _ rfl (World.ownsRow_made w #[] 0 (Nat.le_refl _) (Nat.zero_le _) (by simp)) ⟨g,0,none⟩ L.length cap (zL L) rfl (lnCells_len L) ?c1 (lnCells_one' L) ?c3 ?c4 ?c5 ?_)
  case c1=>
   intro j u hj
   have:=hcells.out j u hj
   exact(Below.cell (p:=(⟨g,0,none⟩:Addr).add j) (zA (zR w) _) (World.block_lt_of_cell? _ _ this)).trans this
  case c3=>unfold maxLen;omega
  case c4=>omega
  case c5=>simp
  intro v' w1 hown hgrow hnil
  have hown':Hid (w1.ownsRow w.heap.size 141 5 v' L.length (zL L)):=by simpa[Hid]using hown
  have hb:Hid (Below w.heap.size w w1):=((But.refl (fun _=>False) w).alloc _).grown hgrow (fun k hk=> .inl (by simp[Value.ownBlock]at hk;omega))|>.below (Nat.le_refl _) (fun _ h=>h.elim)
  clear hown hgrow hnil
  go_wp2_with fail
  go_ret
  exact⟨v',rfl,hown'.out,hb.out⟩
set_option maxHeartbeats 2000000 in
theorem idxFunc_any {ad:Option Addr} {cap:Nat} {L:List Pg.Ln} (P:Pg.Ln->Bool) (f:FuncId) (cb:Array Value) (w:World) (hr:LinesAt w ad L) (hlen:L.length<=6) (ef:∀args w,(callFunc f args).run Tryz.prog w= .ok (.enter f args) w)
 (hf:∀(j:Nat) (w':World),j<L.length->Below w.heap.size w w'->Calls Tryz.prog f (#[(L.getD j .zz).val]++cb) w' fun e w''=>e= .returned (.bool (P (L.getD j .zz)))/\Below w'.heap.size w' w''):
 Calls Tryz.prog 177 #[.slice ad L.length cap,.func (.func f) #[] cb] w fun e w'=>e= .returned (.int .i64 (Pg.idxN L P))/\Below w.heap.size w w':=by
 have HR:Hid _:=hr
 have HF:Hid _:=hf
 clear hr hf
 go_enter Tryz.func177,Tryz.ntmps177
 go_wp2_with fail
 go_loopg [5,8] L.length (fun gg _ s8 wr=>∃k:Nat,k<=L.length/\L.length-k<=gg/\s8= .int .i64 k/\Hid (Below w.heap.size w wr/\∀j,j<k->P (L.getD j .zz)=false))
 case atStart=>exact⟨0,Nat.zero_le _,by omega,rfl,zR _,fun j hj=>absurd hj (Nat.not_lt_zero _)⟩
 case round=>
  obtain⟨k,hk,hg,rfl,HB⟩:=hrel
  by_cases hlt:k<L.length
  ·obtain⟨g,o,rfl,hgl,hm⟩:=LinesAt.below HR.out HB.out.1 k hlt
   obtain⟨m0,m1,m2,m3,m4⟩:=hm
   have i0:(0:Int)<=(k:Int):=by omega
   have i1:(k:Int)<(L.length:Int):=by omega
   have hc:=HF.out k wr hlt HB.out.1
   cases hp:P (L.getD k .zz)
   ·have fin:Hid (∀j,j<k+1->P (L.getD j .zz)=false):=fun j hj=>by
     by_cases e:j=k
     ·rw[e];exact hp
     ·exact HB.out.2 j (by omega)
    rw[hp]at hc
    clear hp HF HR
    generalize L.getD k .zz=x at*
    obtain⟨⟨p,s,fr,r⟩,d⟩:=x
    simp only[Pg.Ln.val]at hc
    simp only at m0 m1 m2 m3 m4
    go_wp2_with (go_at_fn f;refine hc.mono ?_;rintro e w' ⟨rfl,hb⟩)
    go_roundg (L.length-(k+1))
    case measure=>omega
    case rel=>exact⟨k+1,by omega,by omega,by go_num,zT HB.out.1 hb,fin.out⟩
   ·have fin:Hid (Pg.idxN L P=(k:Int)):=by
     show Pg.idxN L P=(k:Int)
     unfold Pg.idxN
     rw[Pg.idx_some hlt hp HB.out.2]
    rw[hp]at hc
    clear hp HF HR
    generalize L.getD k .zz=x at*
    obtain⟨⟨p,s,fr,r⟩,d⟩:=x
    simp only[Pg.Ln.val]at hc
    simp only at m0 m1 m2 m3 m4
    go_wp2_with (go_at_fn f;refine hc.mono ?_;rintro e w' ⟨rfl,hb⟩)
    go_ret
    exact⟨ret_int fin.out.symm,zT HB.out.1 hb⟩
  ·have i1:¬(k:Int)<(L.length:Int):=by omega
   have fin:Hid (Pg.idxN L P= -1):=by
    show Pg.idxN L P= -1
    unfold Pg.idxN
    rw[Pg.idx_none fun j hj=>HB.out.2 j (by omega)]
   go_wp2_with fail
   go_ret
   exact⟨ret_int fin.out.symm,HB.out.1⟩
theorem set5 {l:List Value} {o:Nat} (h:o+5<=l.length) (x0 x1 x2 x3 x4:Value):
 ((((l.set o x0).set (o+1) x1).set (o+2) x2).set (o+3) x3).set (o+4) x4=l.take o++[x0,x1,x2,x3,x4]++l.drop (o+5):=by
 have e:l=l.take o++l.drop o:=(List.take_append_drop o l).symm
 have hl:(l.take o).length=o:=by rw[List.length_take];omega
 have hd:5<=(l.drop o).length:=by rw[List.length_drop];omega
 have e5:l.drop (o+5)=(l.drop o).drop 5:=by rw[List.drop_drop]
 rw[e5]
 generalize l.take o=A at*
 generalize l.drop o=B at*
 subst e
 match B,hd with
 | a0::a1::a2::a3::a4::R,_=>simp[List.set_append_right,hl]
theorem cells_set5 {w:World} {g o:Nat} {cu:Array Value} {T:TypeId} (hg:w.heap[g]?=some (.cells cu T (0,0))) (h:o+5<=cu.size) (x0 x1 x2 x3 x4:Value):
 (((((w.setCell ⟨g,o,none⟩ x0).setCell ⟨g,o+1,none⟩ x1).setCell ⟨g,o+2,none⟩ x2).setCell ⟨g,o+3,none⟩ x3).setCell ⟨g,o+4,none⟩ x4).heap[g]?=some (.cells (cu.toList.take o++[x0,x1,x2,x3,x4]++cu.toList.drop (o+5)).toArray T (0,0))/\
 ∀(F:Nat->Prop) (w0:World),But F w0 w->(w0.heap.size<=g\/F g)->But F w0 (((((w.setCell ⟨g,o,none⟩ x0).setCell ⟨g,o+1,none⟩ x1).setCell ⟨g,o+2,none⟩ x2).setCell ⟨g,o+3,none⟩ x3).setCell ⟨g,o+4,none⟩ x4):=by
 refine⟨?_,fun F w0 hb hF=>((((hb.setCell (a:=⟨g,o,none⟩) hF x0).setCell (a:=⟨g,o+1,none⟩) hF x1).setCell (a:=⟨g,o+2,none⟩) hF x2).setCell (a:=⟨g,o+3,none⟩) hF x3).setCell (a:=⟨g,o+4,none⟩) hF x4⟩
 rw[setCell_eq_setRow w g o cu T (0,0) x0 hg]
 rw[setCell_eq_setRow _ g (o+1) _ T (0,0) x1 (setRow_heap w g cu _ T _ hg),setRow_setRow]
 rw[setCell_eq_setRow _ g (o+2) _ T (0,0) x2 (setRow_heap w g cu _ T _ hg),setRow_setRow]
 rw[setCell_eq_setRow _ g (o+3) _ T (0,0) x3 (setRow_heap w g cu _ T _ hg),setRow_setRow]
 rw[setCell_eq_setRow _ g (o+4) _ T (0,0) x4 (setRow_heap w g cu _ T _ hg),setRow_setRow]
 have e:((((cu.setIfInBounds o x0).setIfInBounds (o+1) x1).setIfInBounds (o+2) x2).setIfInBounds (o+3) x3).setIfInBounds (o+4) x4=(cu.toList.take o++[x0,x1,x2,x3,x4]++cu.toList.drop (o+5)).toArray:=by
  apply Array.toList_inj.1
  simp only[Array.toList_setIfInBounds]
  exact set5 (by rw[Array.length_toList];exact h) x0 x1 x2 x3 x4
 rw[e]
 exact setRow_heap w g cu _ T _ hg
theorem row_set {c news:List Value} {i j n:Nat} (hn:news.length=5) (hi:i<=j) (hj:j<n) (hc:n*5<=c.length):
 (c.take (i*5)++news++c.drop (i*5+5)).length=c.length/\(c.take (i*5)++news++c.drop (i*5+5)).take ((i+1)*5)=c.take (i*5)++news/\
 ((c.take (i*5)++news++c.drop (i*5+5)).take (n*5)).drop ((j+1)*5)=(c.take (n*5)).drop ((j+1)*5):=by
 have h1:(c.take (i*5)).length=i*5:=by rw[List.length_take];omega
 have h2:(c.take (i*5)++news).length=i*5+5:=by rw[List.length_append,h1,hn]
 refine⟨by rw[List.length_append,h2,List.length_drop];omega,?_,?_⟩
 ·rw[List.take_append_of_le_length (by omega),List.take_of_length_le (by omega)]
 ·rw[List.drop_take,List.drop_take,List.drop_append,h2,List.drop_eq_nil_of_le (by omega),List.nil_append,List.drop_drop]
  congr 2
  omega
theorem zeros_one (m:Nat):∀v,v ∈ (Builtin.zeroCells (Value.agg #[.int .i64 0,.int .i64 0,.int .i64 0,.int .i64 0,.bool false]).cells m).toList->v.oneCell'=true:=by
 intro v hv
 have e:(Value.agg #[.int .i64 0,.int .i64 0,.int .i64 0,.int .i64 0,.bool false]).cells=#[.int .i64 0,.int .i64 0,.int .i64 0,.int .i64 0,.bool false]:=by kernel_rfl
 rw[e]at hv
 simp only[Builtin.zeroCells,Array.toList_map,List.mem_map]at hv
 obtain⟨t,_,rfl⟩:=hv
 have ht:t%5=0\/t%5=1\/t%5=2\/t%5=3\/t%5=4:=by omega
 show(#[Value.int .i64 0,.int .i64 0,.int .i64 0,.int .i64 0,.bool false]:Array Value)[t%5]!.oneCell'=true
 rcases ht with h|h|h|h|h<;>rw[h]<;>rfl
theorem row_line {w:World} {g cap n j:Nat} {cur:Array Value} {T:TypeId} {L:List Pg.Ln} (hg:w.heap[g]?=some (.cells cur T (0,0))) (hn:n=L.length) (hd:(cur.toList.take (n*5)).drop (j*5)=zL (L.drop j)) (hj:j<n):LnAt w g (j*5) (L.getD j .zz):=by
 have hc:∀i,i<5->w.cell? ⟨g,j*5+i,none⟩=(lnCell (L.getD j .zz))[i]?:=by
  intro i hi
  have h0:(L.drop j).getD 0 .zz=L.getD j .zz:=by simp[List.getD]
  have:=lnCells_at (L.drop j) 0 i (by rw[List.length_drop];omega) hi
  rw[h0,<-hd,List.getElem?_drop,List.getElem?_take,if_pos (by omega)]at this
  rw[cell_of_row w g (j*5+i) cur _ _ hg,<-this]
  simp
 have h0:=hc 0 (by omega)
 have h1:=hc 1 (by omega)
 have h2:=hc 2 (by omega)
 have h3:=hc 3 (by omega)
 have h4:=hc 4 (by omega)
 exact⟨by simpa[lnCell]using h0,by simpa[lnCell]using h1,by simpa[lnCell]using h2,by simpa[lnCell]using h3,by simpa[lnCell]using h4⟩
set_option maxHeartbeats 4000000 in
theorem delFunc_any {ad:Option Addr} {cap:Nat} {L:List Pg.Ln} (P:Pg.Ln->Bool) (f:FuncId) (cb:Array Value) (w:World) (hr:w.ownsRow 0 141 5 (.slice ad L.length cap) L.length (zL L)) (hlen:L.length<=6) (ef:∀args w,(callFunc f args).run Tryz.prog w= .ok (.enter f args) w)
 (hf:∀(j:Nat) (w':World),j<L.length->But (fun k=>(Value.slice ad L.length cap).ownBlock=some k) w w'->Calls Tryz.prog f (#[(L.getD j .zz).val]++cb) w' fun e w''=>e= .returned (.bool (P (L.getD j .zz)))/\Below w'.heap.size w' w''):
 Calls Tryz.prog 211 #[.slice ad L.length cap,.func (.func f) #[] cb] w fun e w'=>e= .returned (.slice ad (L.filter fun l=> !P l).length cap)/\w'.ownsRow 0 141 5 (.slice ad (L.filter fun l=> !P l).length cap) (L.filter fun l=> !P l).length (zL (L.filter fun l=> !P l))/\But (fun k=>(Value.slice ad L.length cap).ownBlock=some k) w w':=by
 have HF:Hid _:=hf
 have HR:Hid (w.ownsRow 0 141 5 (.slice ad L.length cap) L.length (zL L)):=hr
 have hI:=idxFunc_any (cap:=cap) P f cb w (ownsAt_lines (OwnsAt.of_row hr)) hlen ef (fun j w' hj hb=>hf j w' hj (But.of_below hb))
 cases hx:L.findIdx? P with
 | none=>
   have e1:Pg.idxN L P= -1:=by simp only[Pg.idxN,hx]
   have e2:(L.filter fun l=> !P l)=L:=List.filter_eq_self.2 fun l hl=>by simp[Pg.idx_of_none hx l hl]
   rw[e1]at hI
   rw[e2]
   clear e1 e2 hx hf hr HF
   go_enter Tryz.func211,Tryz.ntmps211
   go_wp2_with (go_at_call 177;refine hI.mono ?_;rintro e w1 ⟨rfl,hb1⟩)
   go_ret
   exact⟨rfl,ownsMaps_below HR.out hb1,But.of_below hb1⟩
 | some k=>
   obtain⟨hkl,hk1,hk2⟩:=Pg.idx_of_some hx
   have e1:Pg.idxN L P=(k:Int):=by simp only[Pg.idxN,hx]
   rw[e1]at hI
   obtain⟨g,cap0,cur,hv,_,hg,hc1,hc2,hc3,hc4⟩:∃g cap0 cur,Value.slice ad L.length cap= .slice (some ⟨g,0,none⟩) L.length cap0/\0<=g/\w.heap[g]?=some (.cells cur 141 (0,0))/\L.length<=cap0/\cap0<=maxLen/\cur.size=cap0*5/\cur.toList.take (L.length*5)=zL L:=by
    rcases hr.2 with ⟨_,e0⟩|h
    ·omega
    ·exact h
   cases hv
   have hcm:cap<=9223372036854775807:=by unfold maxLen at hc2;omega
   have hgl:g<w.heap.size:=(Array.getElem?_eq_some_iff.1 hg).1
   have hft:(L.take k).filter (fun l=> !P l)=L.take k:=List.filter_eq_self.2 fun l hl=>by
    obtain⟨t,ht,rfl⟩:=List.mem_iff_getElem.1 hl
    have h2:t<k:=by rw[List.length_take]at ht;omega
    have:=hk2 t h2
    rw[Pg.ln_at (by omega)]at this
    rw[List.getElem_take]
    simp[this]
   have hS:Hid ((L.take (k+1)).filter (fun l=> !P l)=L.take k):=by
    show(L.take (k+1)).filter (fun l=> !P l)=L.take k
    rw[Pg.filter_take_no hkl (by rw[hk1];rfl),hft]
   have hS2:Hid (k=(L.take k).length):=by show k=(L.take k).length;rw[List.length_take];omega
   have hS3:Hid (cur.toList.take (k*5)=zL (L.take k)):=by
    show cur.toList.take (k*5)=zL (L.take k)
    rw[<-(lnCells_cut L k).1,<-hc4,List.take_take];congr 1;omega
   have hS4:Hid ((cur.toList.take (L.length*5)).drop ((k+1)*5)=zL (L.drop (k+1))):=by
    show(cur.toList.take (L.length*5)).drop ((k+1)*5)=zL (L.drop (k+1))
    rw[hc4,(lnCells_cut L (k+1)).2]
   have HG:Hid (w.heap[g]?=some (.cells cur 141 (0,0))/\cur.size=cap*5):=⟨hg,hc3⟩
   have i0:(0:Int)<=(k:Int):=by omega
   have i1:((k:Int)== -1)=false:=by simp
   clear e1 hx hf hr HR hk1 hk2 hft hc4 hg hc3
   go_enter Tryz.func211,Tryz.ntmps211
   go_wp2_with (go_at_call 177;refine hI.mono ?_;rintro e w1 ⟨rfl,hb1⟩)
   have HB1:Hid (But (fun k=>k=g) w w1):=But.of_below hb1
   have HG1:Hid (w1.heap[g]?=some (.cells cur 141 (0,0))/\cur.size=cap*5):=⟨(hb1.block g hgl).trans HG.out.1,HG.out.2⟩
   clear hb1 hI HG
   go_loopg [5,6,7] L.length (fun gg s5 s6 _ wr=>∃i j:Nat,∃cu:Array Value,i<j/\j<=L.length/\L.length-j<=gg/\s5= .int .i64 i/\s6= .int .i64 j/\
    Hid (i=((L.take j).filter (fun l=> !P l)).length/\cu.toList.take (i*5)=zL ((L.take j).filter (fun l=> !P l))/\(cu.toList.take (L.length*5)).drop (j*5)=zL (L.drop j)/\wr.heap[g]?=some (.cells cu 141 (0,0))/\cu.size=cap*5/\But (fun k=>k=g) w wr))
   case atStart=>exact⟨k,k+1,cur,by omega,by omega,by omega,rfl,by go_num,by rw[hS.out];exact hS2.out,by rw[hS.out];exact hS3.out,hS4.out,HG1.out.1,HG1.out.2,HB1.out⟩
   case round=>
    obtain⟨i,j,cu,hij,hjl,hgg,rfl,rfl,HI⟩:=hrel
    clear hS hS2 hS3 hS4 HG1 HB1
    by_cases hlt:j<L.length
    ·obtain⟨m0,m1,m2,m3,m4⟩:=row_line (cap:=cap) HI.out.2.2.2.1 rfl HI.out.2.2.1 hlt
     have j0:(0:Int)<=(j:Int):=by omega
     have j1:(j:Int)<(L.length:Int):=by omega
     have n0:(0:Int)<=(i:Int):=by omega
     have n1:(i:Int)<(L.length:Int):=by omega
     have hc:=fun w' hb=>HF.out j w' hlt hb
     cases hp:P (L.getD j .zz)
     ·rw[hp]at hc
      have HS:Hid _:=Pg.filter_take_yes (P:=fun l=> !P l) hlt (by simp only[hp];rfl)
      clear hp
      generalize L.getD j .zz=x at*
      obtain⟨⟨p,s,fr,r⟩,d⟩:=x
      simp only[Pg.Ln.val]at hc
      simp only at m0 m1 m2 m3 m4
      go_wp2_with fail
      refine(hc _ ?hb).mono ?_
      case hb=>exact((HI.out.2.2.2.2.2).alloc _).mono (fun i _ hi=>by rw[hi];rfl)
      rintro e w2 ⟨rfl,hb2⟩
      have y:∀o,w2.cell? ⟨wr.heap.size,o,none⟩=_:=fun o=>hb2.cell (p:=⟨wr.heap.size,o,none⟩) (by simp)
      have z0:w2.cell? ⟨wr.heap.size,0,none⟩=some (.int .i64 p):=(y 0).trans (by simp[go_sem])
      have z1:w2.cell? ⟨wr.heap.size,1,none⟩=some (.int .i64 s):=(y 1).trans (by simp[go_sem])
      have z2:w2.cell? ⟨wr.heap.size,2,none⟩=some (.int .i64 fr):=(y 2).trans (by simp[go_sem])
      have z3:w2.cell? ⟨wr.heap.size,3,none⟩=some (.int .i64 r):=(y 3).trans (by simp[go_sem])
      have z4:w2.cell? ⟨wr.heap.size,4,none⟩=some (.bool d):=(y 4).trans (by simp[go_sem])
      have hbb:Below wr.heap.size wr w2:=zT (zA (zR _) _) hb2
      have hgr:g<wr.heap.size:=(Array.getElem?_eq_some_iff.1 HI.out.2.2.2.1).1
      have hg2:w2.heap[g]?=some (.cells cu 141 (0,0)):=(hbb.block g hgr).trans HI.out.2.2.2.1
      have HG2:Hid (w2.heap[g]?=some (.cells cu 141 (0,0))):=hg2
      have hB2:Hid (But (fun k=>k=g) w w2):=(HI.out.2.2.2.2.2).trans (But.of_below (F:=fun k=>k=g) hbb) (fun _ _ h=>h)
      have hfr:∀o,w2.frozen? ⟨g,o,none⟩=false:=fun o=>by unfold World.frozen?;simp only[hg2];simp
      have hsz:i*5+4<cu.size:=by rw[HI.out.2.2.2.2.1];omega
      have u:∀t,t<5->w2.cell? ⟨g,i*5+t,none⟩=some (cu.getD (i*5+t) undef):=fun t ht=>by
       rw[cell_of_row w2 g (i*5+t) cu _ _ hg2]
       simp[show i*5+t<cu.size by omega]
      have u0:=u 0 (by omega)
      have u1:=u 1 (by omega)
      have u2:=u 2 (by omega)
      have u3:=u 3 (by omega)
      have u4:=u 4 (by omega)
      simp only[Nat.add_zero]at u0
      clear y hb2 hbb u hg2 hc m0 m1 m2 m3 m4
      have fin:Hid _:=cells_set5 HG2.out (show i*5+5<=cu.size by omega) (.int .i64 p) (.int .i64 s) (.int .i64 fr) (.int .i64 r) (.bool d)
      obtain⟨r1,r2,r3⟩:=row_set (c:=cu.toList) (news:=[.int .i64 p,.int .i64 s,.int .i64 fr,.int .i64 r,.bool d]) (i:=i) (j:=j) (n:=L.length) rfl (by omega) hlt (by have h5:=HI.out.2.2.2.2.1;have h6:cu.toList.length=cu.size:=Array.length_toList;omega)
      have FIN:Hid (i+1=((L.take (j+1)).filter (fun l=> !P l)).length/\(cu.toList.take (i*5)++[Value.int .i64 p,.int .i64 s,.int .i64 fr,.int .i64 r,.bool d]++cu.toList.drop (i*5+5)).toArray.toList.take ((i+1)*5)=zL ((L.take (j+1)).filter (fun l=> !P l))/\((cu.toList.take (i*5)++[Value.int .i64 p,.int .i64 s,.int .i64 fr,.int .i64 r,.bool d]++cu.toList.drop (i*5+5)).toArray.toList.take (L.length*5)).drop ((j+1)*5)=zL (L.drop (j+1))/\(cu.toList.take (i*5)++[Value.int .i64 p,.int .i64 s,.int .i64 fr,.int .i64 r,.bool d]++cu.toList.drop (i*5+5)).toArray.size=cap*5):=by
       have hi:=HI.out.1
       refine⟨?_,?_,?_,?_⟩
       ·rw[HS.out,List.length_append];simp;omega
       ·rw[HS.out,lnCells_push,List.toList_toArray,r2,HI.out.2.1];rfl
       ·rw[List.toList_toArray,r3,show(j+1)*5=j*5+5 by omega,<-List.drop_drop,HI.out.2.2.1]
        have:=(lnCells_cut (L.drop j) 1).2
        rw[List.drop_drop]at this
        exact this
       ·rw[List.size_toArray,r1,Array.length_toList,HI.out.2.2.2.2.1]
      clear r1 r2 r3 HG2 hsz
      go_wp2_with fail
      go_roundg (L.length-(j+1))
      case measure=>omega
      case rel=>exact⟨i+1,j+1,_,by omega,by omega,by omega,by go_num,by go_num,FIN.out.1,FIN.out.2.1,FIN.out.2.2.1,fin.out.1,FIN.out.2.2.2,fin.out.2 _ _ hB2.out (.inr rfl)⟩
     ·rw[hp]at hc
      have HS:Hid _:=Pg.filter_take_no (P:=fun l=> !P l) hlt (by simp only[hp];rfl)
      have HD:Hid ((cu.toList.take (L.length*5)).drop ((j+1)*5)=zL (L.drop (j+1))):=by
       show(cu.toList.take (L.length*5)).drop ((j+1)*5)=zL (L.drop (j+1))
       rw[show(j+1)*5=j*5+5 by omega,<-List.drop_drop,HI.out.2.2.1]
       have:=(lnCells_cut (L.drop j) 1).2
       rw[List.drop_drop]at this
       exact this
      clear hp
      generalize L.getD j .zz=x at*
      obtain⟨⟨p,s,fr,r⟩,d⟩:=x
      simp only[Pg.Ln.val]at hc
      simp only at m0 m1 m2 m3 m4
      go_wp2_with fail
      refine(hc _ ?hb').mono ?_
      case hb'=>exact((HI.out.2.2.2.2.2).alloc _).mono (fun i _ hi=>by rw[hi];rfl)
      rintro e w2 ⟨rfl,hb2⟩
      have hbb:Below wr.heap.size wr w2:=zT (zA (zR _) _) hb2
      have hgr:g<wr.heap.size:=(Array.getElem?_eq_some_iff.1 HI.out.2.2.2.1).1
      have HG2:Hid (w2.heap[g]?=some (.cells cu 141 (0,0))):=(hbb.block g hgr).trans HI.out.2.2.2.1
      have hB2:Hid (But (fun k=>k=g) w w2):=(HI.out.2.2.2.2.2).trans (But.of_below (F:=fun k=>k=g) hbb) (fun _ _ h=>h)
      clear hb2 hbb hc m0 m1 m2 m3 m4
      go_wp2_with fail
      go_roundg (L.length-(j+1))
      case measure=>omega
      case rel=>exact⟨i,j+1,cu,by omega,by omega,by omega,rfl,by go_num,by rw[HS.out];exact HI.out.1,by rw[HS.out];exact HI.out.2.1,HD.out,HG2.out,HI.out.2.2.2.2.1,hB2.out⟩
    ·have j1:¬(j:Int)<(L.length:Int):=by omega
     have hjj:j=L.length:=by omega
     obtain⟨q0,hqi,hz0,hzz1,hzz2⟩:=info_parts infoLine
     have hI1:=HI.out.1
     have hI2:=HI.out.2.1
     rw[hjj,List.take_length]at hI1 hI2
     have hclr:∀ty l c,l=L.length-i->(Builtin.clear_ #[61] ty #[.slice (some ⟨g,i*5,none⟩) l c]).run Tryz.prog wr= .ok (.tuple #[]) (wr.setRow g (cu.toList.take (i*5)++(Builtin.zeroCells (Value.agg #[.int .i64 0,.int .i64 0,.int .i64 0,.int .i64 0,.bool false]).cells (L.length-i)).toList++cu.toList.drop (i*5+(L.length-i)*5)).toArray):=by
      intro ty l c hl
      subst hl
      have hv:∀w,(zeroValue 141).run Tryz.prog w= .ok (.agg #[.int .i64 0,.int .i64 0,.int .i64 0,.int .i64 0,.bool false]) w:=fun w=>by simp[zeroValue,typeInfo,hqi,hz0]
      exact run_clear_wide (P:=Tryz.prog) wr 61 141 ty 141 _ Tryz.underlying61 hv g (i*5) (L.length-i) c (by omega) cu HI.out.2.2.2.1 (by
       show i*5+(L.length-i)*5<=cu.size
       rw[HI.out.2.2.2.2.1];omega) (zeros_one _)
     obtain⟨W2,hW2⟩:∃W2,W2=wr.setRow g (cu.toList.take (i*5)++(Builtin.zeroCells (Value.agg #[.int .i64 0,.int .i64 0,.int .i64 0,.int .i64 0,.bool false]).cells (L.length-i)).toList++cu.toList.drop (i*5+(L.length-i)*5)).toArray:=⟨_,rfl⟩
     rw[<-hW2]at hclr
     have FIN:Hid (W2.ownsRow 0 141 5 (.slice (some ⟨g,0,none⟩) (L.filter fun l=> !P l).length cap) (L.filter fun l=> !P l).length (zL (L.filter fun l=> !P l))/\But (fun k=>k=g) w W2/\i=(L.filter fun l=> !P l).length):=by
      have hzl:(Builtin.zeroCells (Value.agg #[.int .i64 0,.int .i64 0,.int .i64 0,.int .i64 0,.bool false]).cells (L.length-i)).toList.length=(L.length-i)*5:=by rw[Array.length_toList,size_zeroCells];rfl
      have htl:(cu.toList.take (i*5)).length=i*5:=by rw[List.length_take,Array.length_toList,HI.out.2.2.2.2.1];omega
      refine⟨⟨lnCells_len _,.inr ⟨g,cap,_,rfl,Nat.zero_le _,by rw[hW2];exact setRow_heap wr g cu _ _ _ HI.out.2.2.2.1,by omega,hc2,?_,?_⟩⟩,by rw[hW2];exact(HI.out.2.2.2.2.2).setRow (.inr rfl) _,hI1⟩
      ·rw[List.size_toArray,List.length_append,List.length_append,htl,hzl,List.length_drop]
       have h5:=HI.out.2.2.2.2.1
       have h6:cu.toList.length=cu.size:=Array.length_toList
       omega
      ·rw[<-hI1,List.toList_toArray,List.append_assoc,List.take_append_of_le_length (by omega),List.take_of_length_le (by omega),hI2]
     have n0:(0:Int)<=(i:Int):=by omega
     have n1:(i:Int)<=(L.length:Int):=by omega
     have n2:¬(cap=i):=by omega
     have n3:(i:Int)<=(cap:Int):=by omega
     clear hW2 hI1 hI2 hqi hz0 hzz1 hzz2 HI HF
     go_wp2_with (at_builtin;refine wpList_clear_known _ rfl _ 61 rfl _ rfl (hclr _ _ _ rfl) ?_)
     go_ret
     refine⟨?_,FIN.out.1,FIN.out.2.1.mono fun i _ hi=>by rw[hi];rfl⟩
     rw[<-FIN.out.2.2]
     rfl
set_option maxHeartbeats 4000000 in
theorem delFirst_raw {g cap n:Nat} {cur:Array Value} {xs:List Value} (w:World) (hg:w.heap[g]?=some (.cells cur 141 (0,0))) (hn:n<=6) (hk:0<n) (hcap0:n<=cap) (hcap:cap<=9223372036854775807)
 (hcs:cur.size=cap*5) (hx:cur.toList.take (n*5)=xs) (h1x:∀u,u ∈ xs->u.oneCell'=true):
 Calls Tryz.prog 186 #[.slice (some ⟨g,0,none⟩) n cap,.int .i64 0,.int .i64 1] w fun e w'=>e= .returned (.slice (some ⟨g,0,none⟩) (n-1) cap)/\
  w'.ownsRow 0 141 5 (.slice (some ⟨g,0,none⟩) (n-1) cap) (n-1) (xs.drop 5)/\But (fun j=>j=g) w w':=by
 obtain⟨q0,hqi,hz0,hzz1,hzz2⟩:=info_parts infoLine
 have hxl:xs.length=n*5:=by rw[<-hx,List.length_take,Array.length_toList,hcs];omega
 have hdl:(xs.drop 5).length=(n-1)*5:=by rw[List.length_drop,hxl];omega
 have hcx:∀j u,xs[j]?=some u->w.drew.cell? ⟨g,j,none⟩=some u:=fun j u hu=>by
  rw[cell_of_row w.drew g j cur _ _ hg]
  rw[<-hx,List.getElem?_take]at hu
  split at hu
  ·simpa using hu
  ·cases hu
 obtain⟨C1,hC1⟩:∃C1:List Value,C1=cur.toList.take (0*5)++xs.drop 5++cur.toList.drop (0*5+(xs.drop 5).length):=⟨_,rfl⟩
 have hC1l:C1.length=cap*5:=by rw[hC1];simp only[List.length_append,List.length_take,List.length_drop,Array.length_toList,hcs,hxl];omega
 obtain⟨W1,hW1⟩:∃W1,W1=w.drew.setRow g C1.toArray:=⟨_,rfl⟩
 have hap:∀ty o l c,l=n-1->(o=5\/n=1)->(Builtin.append_ #[61,61] ty #[.slice (some ⟨g,0,none⟩) 0 cap,.slice (some ⟨g,o,none⟩) l c]).run Tryz.prog w.drew= .ok (.slice (some ⟨g,0,none⟩) (n-1) cap) W1:=by
  intro ty o l c hl ho
  subst hl
  have:=run_append_room (P:=Tryz.prog) w.drew 61 ty 141 q0 Tryz.underlying61 hqi g 0 cap cur hg ⟨g,o,none⟩ (n-1) c (xs.drop 5) (by rw[hdl,hzz1])
   (fun j u hj=>by
     rcases ho with rfl|ho
     ·rw[Addr.add_lit];exact hcx (5+j) u (by rwa [List.getElem?_drop]at hj)
     ·have h0:(xs.drop 5).length=0:=by rw[hdl];omega
      rw[List.length_eq_zero_iff.1 h0]at hj
      simp at hj) (fun u hu=>h1x u (List.mem_of_mem_drop hu)) (by omega) (by rw[hdl,hzz1,hcs];omega)
  rw[hzz1,<-hC1,<-hW1,show 0+(n-1)=n-1 by omega]at this
  exact this
 have hg1:W1.heap[g]?=some (.cells C1.toArray 141 (0,0)):=by rw[hW1];exact setRow_heap w.drew g cur _ _ _ hg
 have hB1:But (fun j=>j=g) w W1:=by rw[hW1];exact(But.refl (fun j=>j=g) w).drew.setRow (.inr rfl) _
 obtain⟨W2,hW2⟩:∃W2,W2=W1.setRow g (C1.take ((n-1)*5)++[Value.int .i64 0,.int .i64 0,.int .i64 0,.int .i64 0,.bool false]++C1.drop ((n-1)*5+5)).toArray:=⟨_,rfl⟩
 have hclr:∀ty o l c,o=(n-1)*5->l=1->(Builtin.clear_ #[61] ty #[.slice (some ⟨g,o,none⟩) l c]).run Tryz.prog W1= .ok (.tuple #[]) W2:=by
  intro ty o l c ho hl
  subst ho hl
  have hzl:(Builtin.zeroCells (Value.agg #[.int .i64 0,.int .i64 0,.int .i64 0,.int .i64 0,.bool false]).cells 1).toList=[.int .i64 0,.int .i64 0,.int .i64 0,.int .i64 0,.bool false]:=by kernel_rfl
  have hv:∀w,(zeroValue 141).run Tryz.prog w= .ok (.agg #[.int .i64 0,.int .i64 0,.int .i64 0,.int .i64 0,.bool false]) w:=fun w=>by simp[zeroValue,typeInfo,hqi,hz0]
  have:=run_clear_wide (P:=Tryz.prog) W1 61 141 ty 141 _ Tryz.underlying61 hv g ((n-1)*5) 1 c (by decide) C1.toArray hg1 (by
   show(n-1)*5+1*5<=C1.toArray.size
   simp only[List.size_toArray,hC1l]
   omega) (by rw[hzl];decide)
  rw[hzl]at this
  rw[this,hW2]
  rfl
 have hg2:W2.heap[g]?=some (.cells (C1.take ((n-1)*5)++[Value.int .i64 0,.int .i64 0,.int .i64 0,.int .i64 0,.bool false]++C1.drop ((n-1)*5+5)).toArray 141 (0,0)):=by rw[hW2];exact setRow_heap W1 g _ _ _ _ hg1
 have HB:Hid (But (fun j=>j=g) w W2):=by rw[hW2];exact hB1.setRow (.inr rfl) _
 have HO:Hid (W2.ownsRow 0 141 5 (.slice (some ⟨g,0,none⟩) (n-1) cap) (n-1) (xs.drop 5)):=by
  have e:=row_shut (c:=cur.toList) (xs:=xs) (zs:=[Value.int .i64 0,.int .i64 0,.int .i64 0,.int .i64 0,.bool false]) (z:=5) (n:=n) (k:=0) hk (by rw[Array.length_toList,hcs];omega) hx
  simp only[Nat.zero_add,Nat.one_mul]at e hC1
  simp only[<-hC1]at e
  refine⟨hdl,.inr ⟨g,cap,_,rfl,Nat.zero_le _,hg2,by omega,by unfold maxLen;omega,?_,?_⟩⟩
  ·simp only[List.size_toArray,List.length_take,List.length_append,List.length_drop,hC1l,List.length_cons,List.length_nil];omega
  ·rw[List.toList_toArray,e];simp
 have hb1:(1:Int)<=(n:Int):=by omega
 have hb4:(0:Int)<=(cap:Int):=by omega
 have hb6:n-1<=n:=by omega
 have hb7:n-(n-1)=1:=by omega
 have hb8:¬(cap=n-1):=by omega
 clear hg hx h1x hcx hC1 hC1l hW1 hg1 hB1 hW2 hg2 hcs hxl hdl hqi hz0 hzz1 hzz2
 by_cases hck:cap=1
 ·obtain rfl:n=1:=by omega
  subst hck
  have HO':Hid (W2.ownsRow 0 141 5 (.slice (some ⟨g,0,none⟩) 0 1) 0 (xs.drop 5)):=HO.out
  simp only[Nat.sub_self]at hap hclr ⊢
  clear HO hb1 hb4 hb6 hb7 hb8
  go_enter Tryz.func186,Tryz.ntmps186
  go_wp2_with fail
  go_region_law (refine step_append_known rfl (.tmp 22) (.tmp 25) 61 61 rfl (.slice (some ⟨g,0,none⟩) 0 1) (.slice (some ⟨g,0,none⟩) 0 0) (by simp[Act.eval,Act.put]) (by simp[Act.eval,Act.put]) (hap _ _ _ _ rfl (.inr trivial)) ?_)
  go_wp2_with (at_builtin;refine wpList_clear_known _ rfl _ 61 rfl _ rfl (hclr _ _ _ _ (by omega) (by omega)) ?_)
  go_ret
  exact⟨rfl,HO'.out,HB.out⟩
 ·go_enter Tryz.func186,Tryz.ntmps186
  go_wp2_with fail
  go_region_law (refine step_append_known rfl (.tmp 22) (.tmp 25) 61 61 rfl (.slice (some ⟨g,0,none⟩) 0 cap) (.slice (some ⟨g,5,none⟩) (n-1) (cap-1)) (by simp[Act.eval,Act.put]) (by simp[Act.eval,Act.put]) (hap _ _ _ _ rfl (.inl rfl)) ?_)
  go_wp2_with (at_builtin;refine wpList_clear_known _ rfl _ 61 rfl _ rfl (hclr _ _ _ _ (by omega) (by omega)) ?_)
  go_ret
  exact⟨rfl,HO.out,HB.out⟩
theorem delFirst_any {vb:Value} {L:List Pg.Ln} (w:World) (hr:w.ownsRow 0 141 5 vb L.length (zL L)) (hn:L.length<=6) (hk:0<L.length):
 Calls Tryz.prog 186 #[vb,.int .i64 0,.int .i64 1] w fun e w'=>∃g cap,vb= .slice (some ⟨g,0,none⟩) L.length cap/\e= .returned (.slice (some ⟨g,0,none⟩) (L.length-1) cap)/\w'.ownsRow 0 141 5 (.slice (some ⟨g,0,none⟩) (L.length-1) cap) (L.drop 1).length (zL (L.drop 1))/\But (fun j=>vb.ownBlock=some j) w w':=by
 obtain⟨_,hrr⟩:=hr
 rcases hrr with ⟨_,e0⟩|⟨g,cap,cur,rfl,_,hg,hc1,hc2,hc3,hc4⟩
 ·omega
 ·refine(delFirst_raw w hg hn hk hc1 (by unfold maxLen at hc2;omega) hc3 hc4 (lnCells_one' L)).mono ?_
  rintro e w' ⟨rfl,h1,h2⟩
  refine⟨g,cap,rfl,rfl,?_,h2.mono fun i _ hi=>by rw[hi];rfl⟩
  rw[<-(lnCells_cut L 1).2,List.length_drop]
  exact h1
end Go.Proofs.YtkhnelgommaioaaGreat
