import Derived.Test.YtkhnelgommaioaaGreatChecked
import Derived.Test.YtkhnelgommaioaaGreatMapInfo
import Derived.ChangeKeysEq
namespace Go.Proofs.YtkhnelgommaioaaGreat
open Go.RowKit Go.Sort
set_option linter.unusedVariables false
set_option maxRecDepth 100000
namespace Pg
def shOver (f:Nat->Bool):Bool:= !f 0&&(!f 1&&(!f 2&& !f 3))
def shWaits (f:Nat->Bool) (k:Int):Bool:=decide (0<=k)&&(decide (k<4)&&f k.toNat)
def shPost (n:Nat) (f:Nat->Bool):Nat->Bool:=fun j=>decide (j<n)||f j
def shAck (k:Nat) (f:Nat->Bool):Nat->Bool:=fun j=>if j=k then false else f j
theorem shOver_iff {f:Nat->Bool}:shOver f=true ↔ ∀k,k<4->f k=false:=by
 simp only[shOver,Bool.and_eq_true,Bool.not_eq_true']
 constructor
 ·rintro ⟨h0,h1,h2,h3⟩ k hk
  have:k=0\/k=1\/k=2\/k=3:=by omega
  rcases this with rfl|rfl|rfl|rfl<;>assumption
 ·intro h
  exact⟨h 0 (by omega),h 1 (by omega),h 2 (by omega),h 3 (by omega)⟩
end Pg
theorem But.set4 {F:Nat->Prop} {w w1:World} (h:But F w w1) (r:Nat) (hr:w.heap.size<=r\/F r) (v0 v1 v2 v3:Value):
 But F w ((((w1.setCell ⟨r,0,none⟩ v0).setCell ⟨r,1,none⟩ v1).setCell ⟨r,2,none⟩ v2).setCell ⟨r,3,none⟩ v3):=
 (((h.setCell (a:=⟨r,0,none⟩) hr v0).setCell (a:=⟨r,1,none⟩) hr v1).setCell (a:=⟨r,2,none⟩) hr v2).setCell (a:=⟨r,3,none⟩) hr v3
structure ShAt (w:World) (b:Nat) (m:Pg.Mp) (f:Nat->Bool):Prop where
 cm:MpAt w b 0 m
 cw:∀k,k<4->w.cell? ⟨b,4+k,none⟩=some (.bool (f k))
 fz:∀p,w.frozen? ⟨b,p,none⟩=false
namespace ShAt
variable {w w':World} {b:Nat} {m m':Pg.Mp} {f f':Nat->Bool}
theorem lb (h:ShAt w b m f):b<w.heap.size:=World.block_lt_of_cell? _ _ h.cm.1
theorem keep (h:ShAt w b m f) {G:Nat->Prop} (hb:But G w w') (hF:¬G b):ShAt w' b m f:=by
 have kb:=hb.block b h.lb hF
 exact⟨⟨(World.cell?_of_block kb).trans h.cm.1,(World.cell?_of_block kb).trans h.cm.2.1,(World.cell?_of_block kb).trans h.cm.2.2.1,(World.cell?_of_block kb).trans h.cm.2.2.2⟩,fun k hk=>(World.cell?_of_block kb).trans (h.cw k hk),fun p=>(World.frozen?_of_block kb).trans (h.fz p)⟩
theorem grow (h:ShAt w b m f) (hb:Below w.heap.size w w'):ShAt w' b m f:=h.keep (G:=fun _=>False) (But.of_below hb) id
theorem set (h:ShAt w b m f) {k:Nat} (hk:k<4) (v:Bool):ShAt (w.setCell ⟨b,4+k,none⟩ (.bool v)) b m (fun j=>if j=k then v else f j):=by
 have hne:∀o,o<4->(⟨b,4+k,none⟩:Addr)≠⟨b,o,none⟩:=fun o ho e=>by injection e with _ e;omega
 obtain⟨c0,c1,c2,c3⟩:=h.cm
 refine⟨⟨?_,?_,?_,?_⟩,fun j hj=> ?_,fun p=>by simpa using h.fz p⟩
 ·rw[World.cell?_setCell_other _ _ _ _ (hne _ (by omega))];exact c0
 ·rw[World.cell?_setCell_other _ _ _ _ (hne _ (by omega))];exact c1
 ·rw[World.cell?_setCell_other _ _ _ _ (hne _ (by omega))];exact c2
 ·rw[World.cell?_setCell_other _ _ _ _ (hne _ (by omega))];exact c3
 ·by_cases e:j=k
  ·subst e
   rw[World.cell?_setCell_same _ _ _ (h.cw j hj)]
   simp
  ·rw[World.cell?_setCell_other _ _ _ _ (fun x=>e (by injection x with _ x;omega)),if_neg e]
   exact h.cw j hj
theorem told (h:ShAt w b m f) (m':Pg.Mp):ShAt ((((w.setCell ⟨b,0,none⟩ (.int .i64 m'.p)).setCell ⟨b,1,none⟩ (.int .i64 m'.s)).setCell ⟨b,2,none⟩ (.int .i64 m'.f)).setCell ⟨b,3,none⟩ (.int .i64 m'.r)) b m' f:=by
 obtain⟨c0,c1,c2,c3⟩:=h.cm
 refine⟨⟨?_,?_,?_,?_⟩,fun j hj=> ?_,fun p=>by simpa using h.fz p⟩
 ·simp[go_sem,c0]
 ·simp at c1;simp[go_sem,c1]
 ·simp at c2;simp[go_sem,c2]
 ·simp at c3;simp[go_sem,c3]
 ·rw[World.cell?_setCell_other _ _ _ _ (fun x=>by injection x with _ x;omega),World.cell?_setCell_other _ _ _ _ (fun x=>by injection x with _ x;omega),World.cell?_setCell_other _ _ _ _ (fun x=>by injection x with _ x;omega),World.cell?_setCell_other _ _ _ _ (fun x=>by injection x with _ x;omega)]
  exact h.cw j hj
end ShAt
theorem shAt_ext {w:World} {b:Nat} {m:Pg.Mp} {f g:Nat->Bool} (h:ShAt w b m f) (e:∀k,k<4->f k=g k):ShAt w b m g:=⟨h.cm,fun k hk=>(e k hk)▸h.cw k hk,h.fz⟩
theorem shNew_any (w:World):
 Calls Tryz.prog 48 #[] w fun e w'=>∃b,e= .returned (.pointer (some ⟨b,0,none⟩))/\ShAt w' b .zz (fun _=>false)/\Below w.heap.size w w'/\w.heap.size<=b:=by
 go_enter Tryz.func48,Tryz.ntmps48
 go_wp2_with fail
 go_ret
 have hb:=heap_alloc_new w (.cells #[.int .i64 0,.int .i64 0,.int .i64 0,.int .i64 0,.bool false,.bool false,.bool false,.bool false] 172)
 refine⟨_,rfl,⟨⟨?_,?_,?_,?_⟩,fun k hk=> ?_,fun o=> ?_⟩,zA (zR _) _,Nat.le_refl _⟩
 ·exact cell_of_row _ _ 0 _ _ _ hb
 ·exact cell_of_row _ _ 1 _ _ _ hb
 ·exact cell_of_row _ _ 2 _ _ _ hb
 ·exact cell_of_row _ _ 3 _ _ _ hb
 ·rw[cell_of_row _ _ (4+k) _ _ _ hb]
  have:k=0\/k=1\/k=2\/k=3:=by omega
  rcases this with rfl|rfl|rfl|rfl<;>rfl
 ·unfold World.frozen?;simp only[hb];simp
theorem infoBoolS:(Tryz.prog.info? 4).map (fun i=>(i.zero,i.size,i.bytes))=some (some (.bool false),1,1):=by kernel_rfl
theorem run_equal4 (x0 x1 x2 x3:Bool) (w:World):Sem.run Tryz.prog (Op.equalIn 10000 170 (.agg #[.bool x0,.bool x1,.bool x2,.bool x3]) (.agg #[.bool false,.bool false,.bool false,.bool false])) w= .ok (!x0&&(!x1&&(!x2&& !x3))) w:=by
 obtain⟨q0,hq,hz0,hz1,hz2⟩:=info_parts infoBoolS
 have hu:Tryz.prog.underlying 170=some (.array 4 4):=by kernel_rfl
 have hu2:Tryz.prog.underlying 4=some .bool:=by kernel_rfl
 have hp:Tryz.prog.plainKey 4=true:=by kernel_rfl
 have hc:Tryz.prog.cellsOf 4=1:=by kernel_rfl
 have hi:∀(a b:Bool) (w:World),(Op.equalIn 9999 4 (.bool a) (.bool b)).run Tryz.prog w= .ok (a==b) w:=fun a b w=>run_equalIn_bool w 9998 _ _ _ hu2
 have step:∀(xs ys:Array Value) (i:Nat) (a b:Bool) (is:List Nat) (w:World),xs[i*1]?=some (.bool a)->ys[i*1]?=some (.bool b)->
  (Op.eqItems 9999 4 1 xs ys (i::is)).run Tryz.prog w=bif a==b then(Op.eqItems 9999 4 1 xs ys is).run Tryz.prog w else .ok false w:=by
  intro xs ys i a b is w h1 h2
  simp only[Op.eqItems,Sem.run_bind,run_part_plain w hp h1,run_part_plain w hp h2,hi,Result.andThen_ok]
  cases a==b<;>rfl
 rw[show(10000:Nat)=9999+1 from rfl,run_equalIn_array w 9999 _ _ hu hq,hc]
 have hr:List.range 4=[0,1,2,3]:=rfl
 rw[hr,step _ _ 0 x0 false _ _ rfl rfl,step _ _ 1 x1 false _ _ rfl rfl,step _ _ 2 x2 false _ _ rfl rfl,step _ _ 3 x3 false _ _ rfl rfl]
 cases x0<;>cases x1<;>cases x2<;>cases x3<;>rfl
attribute [local go_sem] run_equal4
section
variable {b:Nat} {m:Pg.Mp} {f:Nat->Bool}
theorem shOver_any (w:World) (h:ShAt w b m f):
 Calls Tryz.prog 67 #[.pointer (some ⟨b,0,none⟩)] w fun e w'=>e= .returned (.bool (Pg.shOver f))/\w'=w:=by
 have c0:=h.cw 0 (by omega)
 have c1:=h.cw 1 (by omega)
 have c2:=h.cw 2 (by omega)
 have c3:=h.cw 3 (by omega)
 simp only[Nat.add_zero,Nat.reduceAdd]at c0 c1 c2 c3
 unfold Pg.shOver
 generalize f 0=x0 at*
 generalize f 1=x1 at*
 generalize f 2=x2 at*
 generalize f 3=x3 at*
 clear h
 go_enter Tryz.func67,Tryz.ntmps67
 go_wp2_with fail
 go_ret
 exact⟨rfl,rfl⟩
theorem shWaits_any (k:Int) (w:World) (h:ShAt w b m f):
 Calls Tryz.prog 69 #[.pointer (some ⟨b,0,none⟩),.int .i64 k] w fun e w'=>e= .returned (.bool (Pg.shWaits f k))/\w'=w:=by
 by_cases h0:0<=k
 ·obtain⟨n,rfl⟩:=Int.eq_ofNat_of_zero_le h0
  by_cases h4:n<4
  ·have c:=h.cw n h4
   have HH:Hid (Pg.shWaits f (n:Int)=f n):=by simp[Hid,Pg.shWaits];omega
   have i0:(0:Int)<=(n:Int):=by omega
   have i1:(n:Int)<4:=by omega
   have i2:¬(4:Int)<=(n:Int):=by omega
   have i3:¬(n:Int)<0:=by omega
   rw[HH.out]
   generalize f n=x at*
   clear h HH
   go_enter Tryz.func69,Tryz.ntmps69
   go_wp2_with fail
   go_ret
   exact⟨rfl,rfl⟩
  ·have HH:Hid (Pg.shWaits f (n:Int)=false):=by simp[Hid,Pg.shWaits];omega
   have i0:(0:Int)<=(n:Int):=by omega
   have i1:¬(n:Int)<4:=by omega
   rw[HH.out]
   clear h HH
   go_enter Tryz.func69,Tryz.ntmps69
   go_wp2_with fail
   go_ret
   exact⟨rfl,rfl⟩
 ·have HH:Hid (Pg.shWaits f k=false):=by simp[Hid,Pg.shWaits];omega
  rw[HH.out]
  clear h HH
  go_enter Tryz.func69,Tryz.ntmps69
  go_wp2_with fail
  go_ret
  exact⟨rfl,rfl⟩
theorem shAck_no (k:Int) (w:World) (h:ShAt w b m f) (hk:Pg.shWaits f k=false):
 Calls Tryz.prog 148 #[.pointer (some ⟨b,0,none⟩),.int .i64 k] w fun e w'=>e= .returned (.tuple #[Pg.Mp.zz.val,.bool false])/\Below w.heap.size w w':=by
 have HW:=shWaits_any k _ (h.grow (zA (zR w) (.cells #[.int .i64 0,.int .i64 0,.int .i64 0,.int .i64 0] 39)))
 rw[hk]at HW
 clear h
 go_enter Tryz.func148,Tryz.ntmps148
 go_wp2_with (go_at_call 69;refine HW.mono ?_;rintro e w' ⟨rfl,hw⟩;subst w')
 refine bodyPost_ret (v:= .tuple #[Pg.Mp.zz.val,.bool false]) ?_ rfl ⟨rfl,?_⟩
 ·simp[results,Tryz.results148,go_sem,Pg.Mp.val,Pg.Mp.zz]
 ·exact zA (zR w) _
theorem shAck_yes (k:Nat) (w:World) (h:ShAt w b m f) (hk:k<4) (hf:f k=true):
 Calls Tryz.prog 148 #[.pointer (some ⟨b,0,none⟩),.int .i64 (k:Int)] w fun e w'=>e= .returned (.tuple #[m.val,.bool true])/\ShAt w' b m (Pg.shAck k f)/\But (fun j=>j=b) w w':=by
 obtain⟨W,hW⟩:∃W,W=w.alloc (.cells #[.int .i64 0,.int .i64 0,.int .i64 0,.int .i64 0] 39):=⟨_,rfl⟩
 have hB:Below w.heap.size w W:=by rw[hW];exact zA (zR w) _
 have hh:=h.grow hB
 have HW:=shWaits_any (k:Int) _ hh
 have e1:Pg.shWaits f (k:Int)=true:=by simp[Pg.shWaits,hf];omega
 rw[e1]at HW
 have hfz:=hh.fz (4+k)
 have hlb:=hh.lb
 have hck:=hh.cw k hk
 have HS:Hid _:=hh.set hk false
 have hx:=HS.out.cm
 have i0:(0:Int)<=(k:Int):=by omega
 have i1:(k:Int)<4:=by omega
 have i2:¬(4:Int)<=(k:Int):=by omega
 have i3:¬(k:Int)<0:=by omega
 have hne:¬b=w.heap.size:=by have:=h.lb;omega
 obtain⟨mp,ms,mf,mr⟩:=m
 obtain⟨x0,x1,x2,x3⟩:=hx
 simp only[Nat.zero_add]at x0 x1 x2 x3
 have HB:Hid _:=hB
 have HL:Hid _:=h.lb
 clear h hh hB e1
 have y:∀o,(W.setCell ⟨b,4+k,none⟩ (.bool false)).frozen? ⟨w.heap.size,o,none⟩=false:=fun o=>by simp[hW,go_sem]
 have y0:(W.setCell ⟨b,4+k,none⟩ (.bool false)).cell? ⟨w.heap.size,0,none⟩=some (.int .i64 0):=by rw[World.cell?_setCell_other _ _ _ _ (fun e=>hne (by injection e))];simp[hW,go_sem]
 have y1:(W.setCell ⟨b,4+k,none⟩ (.bool false)).cell? ⟨w.heap.size,1,none⟩=some (.int .i64 0):=by rw[World.cell?_setCell_other _ _ _ _ (fun e=>hne (by injection e))];simp[hW,go_sem]
 have y2:(W.setCell ⟨b,4+k,none⟩ (.bool false)).cell? ⟨w.heap.size,2,none⟩=some (.int .i64 0):=by rw[World.cell?_setCell_other _ _ _ _ (fun e=>hne (by injection e))];simp[hW,go_sem]
 have y3:(W.setCell ⟨b,4+k,none⟩ (.bool false)).cell? ⟨w.heap.size,3,none⟩=some (.int .i64 0):=by rw[World.cell?_setCell_other _ _ _ _ (fun e=>hne (by injection e))];simp[hW,go_sem]
 have fin:Hid (∀v0 v1 v2 v3,ShAt (((((W.setCell ⟨b,4+k,none⟩ (.bool false)).setCell ⟨w.heap.size,0,none⟩ v0).setCell ⟨w.heap.size,1,none⟩ v1).setCell ⟨w.heap.size,2,none⟩ v2).setCell ⟨w.heap.size,3,none⟩ v3) b ⟨mp,ms,mf,mr⟩ (Pg.shAck k f)/\But (fun j=>j=b) w (((((W.setCell ⟨b,4+k,none⟩ (.bool false)).setCell ⟨w.heap.size,0,none⟩ v0).setCell ⟨w.heap.size,1,none⟩ v1).setCell ⟨w.heap.size,2,none⟩ v2).setCell ⟨w.heap.size,3,none⟩ v3)):=by
  intro v0 v1 v2 v3
  refine⟨HS.out.keep (G:=fun j=>j=w.heap.size) (But.set4 (F:=fun j=>j=w.heap.size) (But.refl _ _) w.heap.size (.inr rfl) v0 v1 v2 v3) hne,?_⟩
  have h1:But (fun j=>j=b) w (W.setCell ⟨b,4+k,none⟩ (.bool false)):=But.setCell (F:=fun j=>j=b) (But.of_below HB.out) (a:=⟨b,4+k,none⟩) (.inr rfl) _
  exact h1.set4 w.heap.size (.inl (Nat.le_refl _)) v0 v1 v2 v3
 go_enter Tryz.func148,Tryz.ntmps148
 go_wp2_with fail
 rw[<-hW]
 refine HW.mono ?_
 rintro e w' ⟨rfl,hw⟩
 subst w'
 clear hW HW
 go_wp2_with fail
 refine bodyPost_ret (v:= .tuple #[.agg #[.int .i64 mp,.int .i64 ms,.int .i64 mf,.int .i64 mr],.bool true]) ?_ rfl ⟨rfl,fin.out _ _ _ _⟩
 simp[results,Tryz.results148,go_sem,y0,y1,y2,y3]
theorem shPost_yes (x:Pg.Mp) (n:Nat) (w:World) (h:ShAt w b m f) (ho:Pg.shOver f=true) (h1:1<=n) (h4:n<=4):
 Calls Tryz.prog 139 #[.pointer (some ⟨b,0,none⟩),x.val,.int .i64 (n:Int)] w fun e w'=>e= .returned (.bool true)/\ShAt w' b x (Pg.shPost n f)/\But (fun j=>j=b) w w':=by
 obtain⟨W,hW⟩:∃W,W=w.alloc (.cells #[.int .i64 x.p,.int .i64 x.s,.int .i64 x.f,.int .i64 x.r] 39):=⟨_,rfl⟩
 have hB:Below w.heap.size w W:=by rw[hW];exact zA (zR w) _
 have hh:=h.grow hB
 have HO:=shOver_any _ hh
 rw[ho]at HO
 have HS:Hid _:=hh.told x
 have HB2:Hid (But (fun j=>j=b) w ((((W.setCell ⟨b,0,none⟩ (.int .i64 x.p)).setCell ⟨b,1,none⟩ (.int .i64 x.s)).setCell ⟨b,2,none⟩ (.int .i64 x.f)).setCell ⟨b,3,none⟩ (.int .i64 x.r))):=But.set4 (F:=fun j=>j=b) (But.of_below hB) b (.inr rfl) _ _ _ _
 obtain⟨c0,c1,c2,c3⟩:=hh.cm
 have z0:=hh.fz 0
 have z1:=hh.fz 1
 have z2:=hh.fz 2
 have z3:=hh.fz 3
 simp only[Nat.zero_add]at c1 c2 c3
 have hlb:=hh.lb
 have hne:¬b=w.heap.size:=by have:=h.lb;omega
 have y0:W.cell? ⟨w.heap.size,0,none⟩=some (.int .i64 x.p):=by simp[hW,go_sem]
 have y1:W.cell? ⟨w.heap.size,1,none⟩=some (.int .i64 x.s):=by simp[hW,go_sem]
 have y2:W.cell? ⟨w.heap.size,2,none⟩=some (.int .i64 x.f):=by simp[hW,go_sem]
 have y3:W.cell? ⟨w.heap.size,3,none⟩=some (.int .i64 x.r):=by simp[hW,go_sem]
 have i1:¬(n:Int)<1:=by omega
 have i4:¬(4:Int)<(n:Int):=by omega
 clear h hh hB ho
 obtain⟨xp,xs,xf,xr⟩:=x
 simp only[Pg.Mp.val]at*
 go_enter Tryz.func139,Tryz.ntmps139
 go_wp2_with fail
 rw[<-hW]
 refine HO.mono ?_
 rintro e w' ⟨rfl,hw⟩
 subst w'
 clear hW HO
 go_wp2_with fail
 go_loopw [7,24] (fun _ i wr=>∃j:Nat,j<=n/\i= .int .i64 j/\Hid (ShAt wr b ⟨xp,xs,xf,xr⟩ (Pg.shPost j f)/\But (fun j=>j=b) w wr)) (fun _ i _=>n-(intOf i).toNat)
 case atStart=>exact⟨0,by omega,rfl,shAt_ext HS.out fun k _=>by simp[Pg.shPost],HB2.out⟩
 case round=>
  obtain⟨j,hj,rfl,HR⟩:=hrel
  clear HS HB2 c0 c1 c2 c3 z0 z1 z2 z3 y0 y1 y2 y3
  by_cases hlt:j<n
  ·have fz:=HR.out.1.fz (4+j)
   have hc:=HR.out.1.cw j (by omega)
   have hlb2:=HR.out.1.lb
   have j0:(0:Int)<=(j:Int):=by omega
   have j1:(j:Int)<(n:Int):=by omega
   have j4:(j:Int)<4:=by omega
   have j2:¬(4:Int)<=(j:Int):=by omega
   have j3:¬(j:Int)<0:=by omega
   have fin:Hid (ShAt (wr.setCell ⟨b,4+j,none⟩ (.bool true)) b ⟨xp,xs,xf,xr⟩ (Pg.shPost (j+1) f)/\But (fun j=>j=b) w (wr.setCell ⟨b,4+j,none⟩ (.bool true))):=by
    refine⟨shAt_ext (HR.out.1.set (by omega) true) fun k _=> ?_,But.setCell (F:=fun j=>j=b) HR.out.2 (a:=⟨b,4+j,none⟩) (.inr rfl) _⟩
    by_cases e:k=j
    ·simp[Pg.shPost,e]
    ·simp only[Pg.shPost,e,if_false]
     congr 1
     rw[decide_eq_decide]
     omega
   go_wp2_with fail
   go_roundw
   case rel=>exact⟨j+1,by omega,by go_num,fin.out⟩
   case measure=>simp[intOf];omega
  ·have j1:¬(j:Int)<(n:Int):=by omega
   have e:j=n:=by omega
   go_wp2_with fail
   go_ret
   subst e
   exact⟨rfl,HR.out⟩
end
end Go.Proofs.YtkhnelgommaioaaGreat
