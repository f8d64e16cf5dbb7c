import Derived.Test.YtkhnelgommaioaaGreatHeap
import Derived.Test.YtkhnelgommaioaaGreatChecked
import Derived.WideKeyRuns
import Derived.Laws.StructEq
import Derived.WalkSmall
import Derived.MapKept
import Derived.Test.YtkhnelgommaioaaGreatBook
import Derived.Test.YtkhnelgommaioaaGreatPlainSH
import Derived.Test.YtkhnelgommaioaaGreatSpVal
import Derived.Deep.DeepCutAuto
namespace Go.Proofs.YtkhnelgommaioaaGreat
open Go.RowKit
set_option linter.unusedVariables false
set_option linter.unusedSimpArgs false
set_option maxRecDepth 100000
def anV (a f r:Int):Value:= .agg #[.int .i64 a,.int .i64 f,.int .i64 r]
def AnAt (w:World) (b:Nat) (l:List (Int×Int×Int)):Prop:=
 ∃es clk,w.heap[b]?=some (.map es clk)/\(∀e ∈ es.toList,e.val= .agg #[]/\∃a f r,e.key=anV a f r)/\∀x ∈ l,∃e ∈ es.toList,e.key=anV x.1 x.2.1 x.2.2
section
variable {w w':World} {b:Nat} {l:List (Int×Int×Int)}
theorem AnAt.lt (h:AnAt w b l):b<w.heap.size:=by
 obtain⟨es,clk,hb,_⟩:=h
 exact(Array.getElem?_eq_some_iff.1 hb).1
theorem AnAt.of_block (h:AnAt w b l) (hk:w'.heap[b]?=w.heap[b]?):AnAt w' b l:=by
 obtain⟨es,clk,hb,h⟩:=h
 exact⟨es,clk,hk.trans hb,h⟩
theorem anAt_made (w:World):AnAt (w.alloc (.map #[] 0)) w.heap.size []:=⟨#[],0,heap_alloc_new _ _,by simp,by simp⟩
theorem an_check (em:Bool) (a f r:Int) (w:World):(Instr.checkKey em 10000 34 (anV a f r)).run Tryz.prog w= .ok () w:=by
 unfold anV
 kernel_rfl
theorem an_equal (a f r a' f' r':Int) (w:World):∃x:Bool,(Op.equal 34 (anV a f r) (anV a' f' r')).run Tryz.prog w= .ok x w/\(x=true ↔ anV a f r=anV a' f' r'):=by
 have hd:Op.maxDepth=9999+1:=rfl
 refine⟨a==a'&&(f==f'&&r==r'),?_,?_⟩
 ·unfold Op.equal anV
  rw[hd,run_equalIn_agg w 9999 _ _ _ (by kernel_rfl) (by kernel_rfl)]
  have hf : (Tryz.prog.fieldsOf 34).toList.map (fun x => (x.name, x.type, x.offset)) = [("End", 3, 0), ("Frame", 3, 1), ("Rights", 3, 2)] := by kernel_rfl
  have hi:∀(a b:Int) (w:World),(Op.equalIn 9999 3 (.int .i64 a) (.int .i64 b)).run Tryz.prog w= .ok (a==b) w:=fun a b w=>run_equalIn_int w 9998 _ .i64 .i64 _ _ (by kernel_rfl)
  have hp:Tryz.prog.plainKey 3=true:=by kernel_rfl
  have step : ∀ (xs ys : Array Value) (g : Field) (o : Nat) (a b : Int) (gs : List Field) (w : World), g.name ≠ "_" → g.type = 3 → g.offset = o → xs[o]? = some (.int .i64 a) → ys[o]? = some (.int .i64 b) →
   (Op.eqFields 9999 xs ys (g::gs)).run Tryz.prog w=bif a==b then(Op.eqFields 9999 xs ys gs).run Tryz.prog w else .ok false w:=by
   intro xs ys g o a b gs w h0 h1 h2 h3 h4
   subst h2
   simp only[Op.eqFields,ne_eq,h0,not_false_eq_true,if_true,Sem.run_bind,Sem.run_ite,h1,run_part_plain w hp h3,run_part_plain w hp h4,hi,Result.andThen_ok]
   cases a==b<;>rfl
  generalize (Tryz.prog.fieldsOf 34).toList=fs at hf ⊢
  obtain⟨g0,fs,rfl⟩:∃g gs,fs=g::gs:=by
   cases fs
   ·simp at hf
   ·exact⟨_,_,rfl⟩
  obtain⟨g1,fs,rfl⟩:∃g gs,fs=g::gs:=by
   cases fs
   ·simp at hf
   ·exact⟨_,_,rfl⟩
  obtain⟨g2,fs,rfl⟩:∃g gs,fs=g::gs:=by
   cases fs
   ·simp at hf
   ·exact⟨_,_,rfl⟩
  obtain rfl:fs=[]:=by
   cases fs
   ·rfl
   ·simp at hf
  ·simp only[List.map_cons,List.map_nil,List.cons.injEq,Prod.mk.injEq,and_true]at hf
   obtain⟨⟨a0,a1,a2⟩,⟨b0,b1,b2⟩,⟨c0,c1,c2⟩⟩:=hf
   rw[step _ _ g0 0 a a' _ w (by rw[a0];decide) a1 a2 rfl rfl,step _ _ g1 1 f f' _ w (by rw[b0];decide) b1 b2 rfl rfl,step _ _ g2 2 r r' _ w (by rw[c0];decide) c1 c2 rfl rfl]
   generalize (a==a')=x0
   generalize (f==f')=x1
   generalize (r==r')=x2
   cases x0
   ·rfl
   cases x1
   ·rfl
   cases x2<;>rfl
 ·simp[anV]
theorem an_find {es:List MapEntry} (hes:∀e ∈ es,e.val= .agg #[]/\∃a f r,e.key=anV a f r) (a f r:Int) (w:World):∀i:Nat,
 ((Instr.findAsking 34 (anV a f r) es i).run Tryz.prog w= .ok none w/\∀e ∈ es,e.key≠anV a f r)\/∃j e,(Instr.findAsking 34 (anV a f r) es i).run Tryz.prog w= .ok (some (i+j,.agg #[])) w/\es[j]?=some e/\e.key=anV a f r:=by
 induction es with
 | nil=>exact fun i=> .inl ⟨by simp[Instr.findAsking],by simp⟩
 | cons e es ih=>
   intro i
   obtain⟨hv,a',f',r',hk⟩:=hes e (by simp)
   obtain⟨x,hx,hxe⟩:=an_equal a f r a' f' r' w
   have hs:(Instr.findAsking 34 (anV a f r) (e::es) i).run Tryz.prog w=bif x then .ok (some (i,.agg #[])) w else(Instr.findAsking 34 (anV a f r) es (i+1)).run Tryz.prog w:=by
    simp only[Instr.findAsking,Sem.run_bind,hk,hx,Result.andThen_ok,hv]
    cases x<;>rfl
   cases x
   ·rcases ih (fun e he=>hes e (by simp[he])) (i+1)with ⟨h1,h2⟩|⟨j,e',h1,h2,h3⟩
    ·refine .inl ⟨by rw[hs];exact h1,fun e' he'=> ?_⟩
     rcases List.mem_cons.1 he' with rfl|he'
     ·rw[hk]
      intro h
      exact Bool.noConfusion (hxe.2 h.symm)
     ·exact h2 e' he'
    ·exact .inr ⟨j+1,e',by rw[hs];show(Instr.findAsking _ _ es (i+1)).run _ _=_;rw[h1,show i+1+j=i+(j+1) by omega],by simpa using h2,h3⟩
   ·exact .inr ⟨0,e,by rw[hs];rfl,rfl,by rw[hk];exact(hxe.1 rfl).symm⟩
theorem an_findKey {es:List MapEntry} (hes:∀e ∈ es,e.val= .agg #[]/\∃a f r,e.key=anV a f r) (a f r:Int) (w:World):
 ((Instr.findKey 34 (anV a f r) es).run Tryz.prog w= .ok none w/\∀e ∈ es,e.key≠anV a f r)\/∃j e,(Instr.findKey 34 (anV a f r) es).run Tryz.prog w= .ok (some (j,.agg #[])) w/\es[j]?=some e/\e.key=anV a f r:=by
 rw[run_findKey_eq w (by kernel_rfl)]
 have:=an_find hes a f r w 0
 simpa only[Nat.zero_add]using this
theorem an_stays (a f r:Int) (w:World):(Instr.keyThatStays (anV a f r) (anV a f r)).run Tryz.prog w= .ok (anV a f r) w:=by
 have:Instr.sameBits 10000 (anV a f r) (anV a f r)=true:=by
  show Instr.sameBits (9999+1) _ _=true
  simp[anV,Instr.sameBits]
 unfold Instr.keyThatStays
 rw[this]
 simp
theorem AnAt.put (h:AnAt w b l) (a f r:Int):∃w',(Instr.mapUpdate 88 (.map (some b)) (anV a f r) (.agg #[])).run Tryz.prog w= .ok () w'/\AnAt w' b ((a,f,r)::l)/\But (fun j=>j=b) w w':=by
 obtain⟨es,clk,hb,hes,hl⟩:=h
 have hlt:b<w.heap.size:=(Array.getElem?_eq_some_iff.1 hb).1
 have hu:Tryz.prog.underlying 88=some (.map 34 244):=by kernel_rfl
 have hset:∀o:Obj,But (fun j=>j=b) w {w with heap:=w.heap.setIfInBounds b o}:=fun o=>⟨rfl,rfl,rfl,by simp,fun k _ hk=>Array.getElem?_setIfInBounds_ne (fun e=>hk e.symm)⟩
 have hat:∀o:Obj,({w with heap:=w.heap.setIfInBounds b o}:World).heap[b]?=some o:=fun o=>Array.getElem?_setIfInBounds_self_of_lt hlt
 rcases an_findKey hes a f r w with ⟨h1,h2⟩|⟨j,e,h1,h2,h3⟩
 ·refine⟨{w with heap:=w.heap.setIfInBounds b (.map (es.push {key:=anV a f r,val:= .agg #[],born:=clk}) (clk+1))},?_,⟨_,_,hat _,fun e he=> ?_,fun x hx=> ?_⟩,hset _⟩
  ·simp[Instr.mapUpdate,run_underlying hu,MapKept.run_getObj_map hb,an_check,h1,MapKept.run_setObj_map _ hb,Result.andThen]
  ·simp only[Array.toList_push,List.mem_append,List.mem_singleton]at he
   rcases he with he|rfl
   ·exact hes e he
   ·exact⟨rfl,_,_,_,rfl⟩
  ·rcases List.mem_cons.1 hx with rfl|hx
   ·exact⟨{key:=anV a f r,val:= .agg #[],born:=clk},by simp,rfl⟩
   ·obtain⟨e,he,hk⟩:=hl x hx
    exact⟨e,by simp[he],hk⟩
 ·have hj:j<es.size:=by
   obtain⟨hj,_⟩:=List.getElem?_eq_some_iff.1 h2
   simpa using hj
  have h2':es[j]?=some e:=by rw[<-Array.getElem?_toList];exact h2
  refine⟨{w with heap:=w.heap.setIfInBounds b (.map (es.modify j fun e=>{e with key:=anV a f r,val:= .agg #[]}) clk)},?_,⟨_,_,hat _,fun e' he=> ?_,fun x hx=> ?_⟩,hset _⟩
  ·simp[Instr.mapUpdate,run_underlying hu,MapKept.run_getObj_map hb,an_check,h1,h2',h3,an_stays,MapKept.run_setObj_map _ hb,Result.andThen]
  ·rw[Array.toList_modify]at he
   obtain⟨i,hi⟩:=List.mem_iff_getElem?.1 he
   rw[List.getElem?_modify]at hi
   cases hl':es.toList[i]? with
   | none=>rw[hl']at hi;simp at hi
   | some y=>
     rw[hl']at hi
     have hi:(if j=i then({y with key:=anV a f r,val:= .agg #[]}:MapEntry)else y)=e':=by
      split at hi
      ·next e0=>rw[if_pos e0];exact Option.some.inj hi
      ·next e0=>rw[if_neg e0];exact Option.some.inj hi
     have hy:=hes y (List.mem_of_getElem? hl')
     split at hi
     ·rw[<-hi];exact⟨rfl,_,_,_,rfl⟩
     ·rw[<-hi];exact hy
  ·obtain⟨e1,he1,hk1⟩:∃e ∈ es.toList,e.key=anV x.1 x.2.1 x.2.2:=by
    rcases List.mem_cons.1 hx with rfl|hx
    ·exact⟨e,List.mem_of_getElem? h2,h3⟩
    ·exact hl x hx
   obtain⟨i,hi⟩:=List.mem_iff_getElem?.1 he1
   refine⟨if j=i then{e1 with key:=anV a f r,val:= .agg #[]}else e1,?_,?_⟩
   ·rw[Array.toList_modify]
    refine List.mem_of_getElem? (i:=i) ?_
    rw[List.getElem?_modify,hi]
    split<;>rfl
   ·split
    ·next e0=>
     subst e0
     rw[hi]at h2
     injection h2 with h2
     rw[<-h2]at h3
     rw[<-hk1,h3]
    ·exact hk1
theorem AnAt.look (h:AnAt w b l) {a f r:Int} (hm:(a,f,r) ∈ l):(Instr.lookup 88 (.map (some b)) (anV a f r) true).run Tryz.prog w= .ok (.tuple #[.agg #[],.bool true]) w:=by
 obtain⟨es,clk,hb,hes,hl⟩:=h
 have hu:Tryz.prog.underlying 88=some (.map 34 244):=by kernel_rfl
 obtain⟨e0,he0,hk0⟩:=hl _ hm
 rcases an_findKey hes a f r w with ⟨h1,h2⟩|⟨j,e,h1,h2,h3⟩
 ·exact absurd hk0 (h2 e0 he0)
 ·simp[Instr.lookup,run_underlying hu,MapKept.run_getObj_map hb,an_check,h1,Result.andThen]
end
open Go.RowKit Go.Sort
theorem anAdd_any {m:Nat} {l:List (Int×Int×Int)} (a f r:Int) (w:World) (h:AnAt w m l):
 Calls Tryz.prog 164 #[.map (some m),.agg #[.int .i64 a,.int .i64 f,.int .i64 r]] w fun e w'=>e= .returned (.tuple #[])/\AnAt w' m ((a,f,r)::l)/\But (fun k=>k=m) w w':=by
 obtain⟨W,hW⟩:∃W,W=w.alloc (.cells #[.int .i64 a,.int .i64 f,.int .i64 r] 34):=⟨_,rfl⟩
 have hB:Below w.heap.size w W:=by rw[hW];exact zA (zR _) _
 have x0:W.cell? ⟨w.heap.size,0,none⟩=some (.int .i64 a):=by rw[hW];simp[go_sem]
 have x1:W.cell? ⟨w.heap.size,1,none⟩=some (.int .i64 f):=by rw[hW];simp[go_sem]
 have x2:W.cell? ⟨w.heap.size,2,none⟩=some (.int .i64 r):=by rw[hW];simp[go_sem]
 obtain⟨w',hr,ha,hb⟩:=(h.of_block (hB.block _ h.lt)).put a f r
 unfold anV at hr
 have HA:Hid _:=ha
 have HB:Hid (But (fun k=>k=m) w w'):=(But.of_below (F:=fun k=>k=m) hB).trans hb fun _ _ e=>e
 clear h ha hb hB
 go_enter Tryz.func164,Tryz.ntmps164
 go_upto_region 1 with fail
 rw[<-hW]
 clear hW
 go_wp2_with fail
 go_end0
 exact⟨rfl,HA.out,HB.out⟩
theorem asking1_any {b c:Nat} {L:List Pg.Mp} {F:Nat->Prop} (x:Pg.Sx) (hx:Pg.fits x.m.p) (w:World) (h:DbAt w b L F) (hc:MpAt w c 2 x.m):
 Calls Tryz.prog 157 #[.pointer (some ⟨b,0,none⟩),.pointer (some ⟨c,0,none⟩)] w fun e w'=>e= .returned (.tuple #[])/\∃F',DbAt w' b (Pg.addL L x.m) F'/\But F w w'/\∀k,F' k->F k\/w.heap.size<=k:=by
 have HA:Hid _:=dbAdd_any x.m hx w h
 obtain⟨c0,c1,c2,c3⟩:=hc
 obtain⟨kd,co,⟨p,s,f,r⟩,q,k,u⟩:=x
 simp only[Pg.Mp.val]at HA c0 c1 c2 c3
 clear h
 go_enter Tryz.func157,Tryz.ntmps157
 go_wp2_with fail
 refine Calls.mono HA.out ?_
 rintro e w1 ⟨rfl,F',h1,hb1,hF1⟩
 have H1:Hid _:=(⟨h1,hb1,hF1⟩:_/\_/\_)
 clear h1 hb1 hF1 HA
 go_wp2_with fail
 go_end0
 exact⟨rfl,F',H1.out⟩
theorem asking2_any {b c:Nat} {L:List Pg.Mp} {F:Nat->Prop} (x:Pg.Sx) (hx:Pg.fits x.m.p) (w:World) (h:DbAt w b L F) (hc:MpAt w c 2 x.m):
 Calls Tryz.prog 159 #[.pointer (some ⟨b,0,none⟩),.pointer (some ⟨c,0,none⟩)] w fun e w'=>e= .returned (.tuple #[])/\∃F',DbAt w' b (Pg.dropL L x.m.p) F'/\But F w w'/\∀k,F' k->F k\/w.heap.size<=k:=by
 have HA:Hid _:=dbDrop_any x.m.p hx w h
 obtain⟨c0,c1,c2,c3⟩:=hc
 obtain⟨kd,co,⟨p,s,f,r⟩,q,k,u⟩:=x
 simp only at HA c0 c1 c2 c3
 clear h
 go_enter Tryz.func159,Tryz.ntmps159
 go_wp2_with fail
 refine Calls.mono HA.out ?_
 rintro e w1 ⟨rfl,F',h1,hb1,hF1⟩
 have H1:Hid _:=(⟨h1,hb1,hF1⟩:_/\_/\_)
 clear h1 hb1 hF1 HA
 go_wp2_with fail
 go_end0
 exact⟨rfl,F',H1.out⟩
theorem asking3_any {b c:Nat} {L:List Pg.Mp} {F:Nat->Prop} (x:Pg.Sx) (hx:Pg.fits x.m.p) (w:World) (h:DbAt w b L F) (hc:MpAt w c 2 x.m):
 Calls Tryz.prog 161 #[.pointer (some ⟨b,0,none⟩),.pointer (some ⟨c,0,none⟩)] w fun e w'=>e= .returned (.tuple #[])/\∃F',DbAt w' b (Pg.protL L x.m.p x.m.r) F'/\But F w w'/\∀k,F' k->F k\/w.heap.size<=k:=by
 have HA:Hid _:=dbProtect_any x.m.p x.m.r hx w h
 obtain⟨c0,c1,c2,c3⟩:=hc
 obtain⟨kd,co,⟨p,s,f,r⟩,q,k,u⟩:=x
 simp only at HA c0 c1 c2 c3
 clear h
 go_enter Tryz.func161,Tryz.ntmps161
 go_wp2_with fail
 refine Calls.mono HA.out ?_
 rintro e w1 ⟨rfl,F',h1,hb1,hF1⟩
 have H1:Hid _:=(⟨h1,hb1,hF1⟩:_/\_/\_)
 clear h1 hb1 hF1 HA
 go_wp2_with fail
 go_end0
 exact⟨rfl,F',H1.out⟩
theorem slEqual_any {ad ad':Option Addr} {cap cap':Nat} {L:List Pg.Mp} (w:World) (h:MapsAt w ad L) (h':MapsAt w ad' L) (hl:L.length<=5000):
 Calls Tryz.prog 166 #[.slice ad L.length cap,.slice ad' L.length cap'] w fun e w'=>e= .returned (.bool true)/\Below w.heap.size w w':=by
 have HA:Hid (MapsAt w ad L):=h
 have HB:Hid (MapsAt w ad' L):=h'
 clear h h'
 go_enter Tryz.func166,Tryz.ntmps166
 go_wp2_with fail
 go_loopw [13] (fun i wr=>∃j:Nat,j<=L.length/\i= .int .i64 j/\Hid (Below w.heap.size w wr)) (fun i _=>L.length-(intOf i).toNat)
 case atStart=>exact⟨0,by omega,rfl,zR _⟩
 case round=>
  obtain⟨j,hj,rfl,HR⟩:=hrel
  have i0:(0:Int)<=(j:Int):=by omega
  by_cases hlt:j<L.length
  ·obtain⟨g,rfl,hg,hm⟩:=MapsAt.below HA.out HR.out j hlt
   obtain⟨g',rfl,hg',hm'⟩:=MapsAt.below HB.out HR.out j hlt
   obtain⟨k0,k1,k2,k3⟩:=hm
   obtain⟨m0,m1,m2,m3⟩:=hm'
   have i1:(j:Int)<(L.length:Int):=by omega
   have fin:Hid (∀nq,Below w.heap.size w (wr.drewN nq)):=fun nq=>zT HR.out (below_drewN (zR _) nq)
   generalize L.getD j .zz=x at*
   obtain⟨p,s,f,r⟩:=x
   simp only at k0 k1 k2 k3 m0 m1 m2 m3
   go_wp2_with fail
   go_quiet (fail)
   go_wp2_with fail
   exact⟨⟨j+1,by omega,by go_num,fin.out _⟩,by simp[intOf];omega⟩
  ·have i1:¬(j:Int)<(L.length:Int):=by omega
   go_wp2_with fail
   go_ret
   exact⟨rfl,HR.out⟩
end Go.Proofs.YtkhnelgommaioaaGreat
