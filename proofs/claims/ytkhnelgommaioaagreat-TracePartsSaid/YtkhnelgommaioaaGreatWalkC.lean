import Derived.Test.YtkhnelgommaioaaGreatFrames
import Derived.Test.YtkhnelgommaioaaGreatPageB
import Derived.Test.YtkhnelgommaioaaGreatEntry
import Derived.Test.YtkhnelgommaioaaGreatPlainW
import Derived.Test.YtkhnelgommaioaaGreatMapInfo
namespace Go.Proofs.YtkhnelgommaioaaGreat
open Go.RowKit Go.Sort
set_option linter.unusedVariables false
set_option maxRecDepth 100000
theorem leadsOn_any (e:Pg.En) (w:World):
 Calls Tryz.prog 119 #[e.val] w fun x w'=>x= .returned (.bool e.on)/\Below w.heap.size w w':=by
 obtain⟨t,l,r,u,d,f⟩:=e
 simp only[Pg.En.val,Pg.En.on]
 cases t
 ·go_enter Tryz.func119,Tryz.ntmps119
  go_wp2_with fail
  go_ret
  exact⟨rfl,zA (zR w) _⟩
 ·go_enter Tryz.func119,Tryz.ntmps119
  go_wp2_with fail
  go_ret
  exact⟨rfl,zA (zR w) _⟩
theorem everywhere_any (i lv:Int) (w:World):
 Calls Tryz.prog 114 #[.int .i64 i,.int .i64 lv] w fun x w'=>x= .returned (.bool true)/\w'=w:=by
 go_enter Tryz.func114,Tryz.ntmps114
 go_wp2_with fail
 go_ret
 exact⟨rfl,rfl⟩
theorem wRead_any {b:Nat} {S:Pg.Fs} {F:Nat->Prop} (t:Int) (i lv:Nat) (hi:i<8) (w:World) (h:FrAt w b S F):
 Calls Tryz.prog 189 #[.pointer (some ⟨b,0,none⟩),.int .i64 t,.int .i64 (i:Int),.int .i64 (lv:Int)] w fun x w'=>x= .returned (.tuple #[(Pg.rEn S t i lv).val,.int .i64 (Pg.rCode S t i lv)])/\Below w.heap.size w w':=by
 have hA:FrAt (w.alloc (.cells #[.bool false,.bool false,.int .i64 0,.bool false,.bool false,.int .i64 0] 70)) b S F:=h.keep (F:=F) (G:=fun _=>False) (But.of_below (zA (zR w) _)) (fun _ _=>id)
 have HL:=frLoad_same t (i:Int) _ hA
 have h0:=h.ok.low t.toNat i
 have h1:=h.ok.high t.toNat i
 cases hh:S.has t
 ·have ha:S.at' t (i:Int)=false:=by simp[Pg.Fs.at',hh]
  have e1:Pg.rEn S t i lv=Pg.En.zero:=by simp[Pg.rEn,hh]
  have e2:Pg.rCode S t i lv=12:=by simp[Pg.rCode,hh]
  rw[e1,e2]
  have e3:S.load t (i:Int)=0:=by simp[Pg.Fs.load,ha]
  rw[ha,e3]at HL
  clear h hA
  go_enter Tryz.func189,Tryz.ntmps189
  go_wp2_with fail
  refine HL.mono ?_
  rintro e w' ⟨rfl,hw⟩
  subst w'
  go_wp2_with fail
  refine bodyPost_ret (v:= .tuple #[Pg.En.zero.val,.int .i64 12]) ?_ rfl ⟨rfl,?_⟩
  ·simp[results,Tryz.results189,go_sem,Pg.En.zero,Pg.En.val]
  ·exact zA (zR w) _
 ·have ha:S.at' t (i:Int)=true:=by simp[Pg.Fs.at',hh];omega
  have e1:Pg.rEn S t i lv=Pg.En.of (S.word t.toNat i) lv:=by simp[Pg.rEn,hh]
  have e2:Pg.rCode S t i lv=Pg.dCode (S.word t.toNat i) lv:=by simp[Pg.rCode,hh]
  have e3:S.load t (i:Int)=S.word t.toNat i:=by simp[Pg.Fs.load,ha]
  rw[e1,e2]
  rw[ha,e3]at HL
  clear h hA e1 e2 e3
  generalize S.word t.toNat i=W at*
  have HD:=decode_any W (lv:Int) h0 h1
  rw[Pg.decV_of]at HD
  generalize Pg.En.of W (lv:Int)=e at*
  obtain⟨t',l,r,u,d,f⟩:=e
  simp only[Pg.En.val]at HD ⊢
  generalize Pg.dCode W (lv:Int)=c at*
  go_enter Tryz.func189,Tryz.ntmps189
  go_wp2_with fail
  refine HL.mono ?_
  rintro e w' ⟨rfl,hw⟩
  subst w'
  go_wp2_with fail
  refine(HD _).mono ?_
  rintro e w1 ⟨rfl,hb1⟩
  have hB:Below w.heap.size w w1:=zT (zA (zR w) _) hb1
  obtain⟨hc1,hf1⟩:=bcell hb1
  go_wp2_with fail
  refine bodyPost_ret (v:= .tuple #[.agg #[.bool t',.bool l,.int .i64 r,.bool u,.bool d,.int .i64 f],.int .i64 c]) ?_ rfl ⟨rfl,?_⟩
  ·simp[results,Tryz.results189,go_sem,hc1]
  ·exact(((((hB.setCell (by simp) _).setCell (by simp) _).setCell (by simp) _).setCell (by simp) _).setCell (by simp) _).setCell (by simp) _
def Pg.Sp.val (s:Pg.Sp):Value:= .agg #[.int .i64 s.table,.int .i64 (s.place:Int),.int .i64 (s.level:Int),.int .i64 (s.ahead:Int),.bool s.e.t,.bool s.e.l,.int .i64 s.e.r,.bool s.e.u,.bool s.e.d,.int .i64 s.e.f]
structure Tells (b:Nat) (S:Pg.Fs) (F:Nat->Prop) (g h:FuncId) (ca cb:Array Value) (L:Nat->Nat->Bool) (R:List Pg.Sp->(Nat->Prop)->World->Prop):Prop where
 eg:∀args w,(callFunc g args).run Tryz.prog w= .ok (.enter g args) w
 eh:∀args w,(callFunc h args).run Tryz.prog w= .ok (.enter h args) w
 fr:∀X V w,R X V w->FrAt w b S F
 lt:∀X V w,R X V w->∀k,V k->k<w.heap.size
 grow:∀X V w w',R X V w->Below w.heap.size w w'->R X V w'
 looks:∀(i lv:Nat) X V w,i<8->lv<4->R X V w->Calls Tryz.prog g (#[.int .i64 (i:Int),.int .i64 (lv:Int)]++ca) w fun e w'=>e= .returned (.bool (L i lv))/\Below w.heap.size w w'
 meets:∀(s:Pg.Sp) X V w,s.place<8->s.level<4->s.ahead<4096->X.length<4680->R X V w->Calls Tryz.prog h (#[s.val]++cb) w fun e w'=>e= .returned (.tuple #[])/\∃V',R (X++[s]) V' w'/\But V w w'/\∀k,V' k->V k\/w.heap.size<=k
structure Going (R:List Pg.Sp->(Nat->Prop)->World->Prop) (V:Nat->Prop) (w:World) (v0 v1 v2:Value) (X:List Pg.Sp) (V':Nat->Prop) (wr:World):Prop where
 r:R X V' wr
 but:But V w wr
 new:∀k,V' k->V k\/w.heap.size<k
 c:wr.cell? ⟨w.heap.size,0,none⟩=some v0/\wr.cell? ⟨w.heap.size,1,none⟩=some v1/\wr.cell? ⟨w.heap.size,2,none⟩=some v2
namespace Going
variable {b:Nat} {S:Pg.Fs} {F:Nat->Prop} {g h:FuncId} {ca cb:Array Value} {L:Nat->Nat->Bool} {R:List Pg.Sp->(Nat->Prop)->World->Prop} {V V' V'':Nat->Prop} {w wr wr':World} {v0 v1 v2:Value} {X X':List Pg.Sp}
theorem grow (T:Tells b S F g h ca cb L R) (G:Going R V w v0 v1 v2 X V' wr) (hb:Below wr.heap.size wr wr'):Going R V w v0 v1 v2 X V' wr':=
 ⟨T.grow _ _ _ _ G.r hb,G.but.trans (But.of_below (F:=fun _=>False) hb) (fun _ _ h=>h.elim),G.new,later3 hb G.c⟩
theorem lb (G:Going R V w v0 v1 v2 X V' wr):w.heap.size<wr.heap.size:=World.block_lt_of_cell? _ _ G.c.1
theorem step (hV:∀k,V k->k<w.heap.size) (G:Going R V w v0 v1 v2 X V' wr) (hr:R X' V'' wr') (hb:But V' wr wr') (hn:∀k,V'' k->V' k\/wr.heap.size<=k):Going R V w v0 v1 v2 X' V'' wr':=by
 have hl:=G.lb
 have hbx:¬V' w.heap.size:=fun hk=>by
  rcases G.new _ hk with h1|h1
  ·have:=hV _ h1;omega
  ·omega
 refine⟨hr,G.but.trans hb (fun i hi hk=> ?_),fun k hk=> ?_,?_,?_,?_⟩
 ·rcases G.new i hk with h1|h1
  ·exact h1
  ·omega
 ·rcases hn k hk with h1|h1
  ·exact G.new k h1
  ·exact .inr (by omega)
 ·exact(hb.cell (a:=⟨w.heap.size,0,none⟩) hl hbx).trans G.c.1
 ·exact(hb.cell (a:=⟨w.heap.size,1,none⟩) hl hbx).trans G.c.2.1
 ·exact(hb.cell (a:=⟨w.heap.size,2,none⟩) hl hbx).trans G.c.2.2
theorem box6 (T:Tells b S F g h ca cb L R) (G:Going R V w v0 v1 v2 X V' wr) {u0 u1 u2 u3 u4 u5:Value} {ty:TypeId} (hb:But V' (wr.alloc (.cells #[u0,u1,u2,u3,u4,u5] ty)) wr'):
 wr'.cell? ⟨wr.heap.size,0,none⟩=some u0/\wr'.cell? ⟨wr.heap.size,1,none⟩=some u1/\wr'.cell? ⟨wr.heap.size,2,none⟩=some u2/\wr'.cell? ⟨wr.heap.size,3,none⟩=some u3/\wr'.cell? ⟨wr.heap.size,4,none⟩=some u4/\wr'.cell? ⟨wr.heap.size,5,none⟩=some u5:=by
 have hn:¬V' wr.heap.size:=fun hk=>by have:=T.lt _ _ _ G.r _ hk;omega
 have hk:∀o,wr'.cell? ⟨wr.heap.size,o,none⟩=(wr.alloc (.cells #[u0,u1,u2,u3,u4,u5] ty)).cell? ⟨wr.heap.size,o,none⟩:=fun o=>hb.cell (a:=⟨wr.heap.size,o,none⟩) (by simp) hn
 refine⟨?_,?_,?_,?_,?_,?_⟩<;>rw[hk]<;>simp[go_sem]
theorem done (G:Going R V w v0 v1 v2 X' V' wr) {A:List Pg.Sp} (e:X++A=X'):∃V',R (X++A) V' wr/\But V w wr/\∀k,V' k->V k\/w.heap.size<=k:=
 ⟨V',e▸G.r,G.but,fun k hk=>(G.new k hk).imp id Nat.le_of_lt⟩
end Going
theorem len_step {X:List Pg.Sp} {s:Pg.Sp} {j c:Nat} (hj:j<8) (h:X.length+(8-j)*(1+c)<=4680):X.length<4680/\(X++[s]).length+(8-(j+1))*(1+c)+c<=4680/\(X++[s]).length+c<=4680:=by
 have e:(8-j)*(1+c)=(8-(j+1))*(1+c)+(1+c):=by
  rw[show 8-j=(8-(j+1))+1 by omega,Nat.add_mul,Nat.one_mul]
 rw[e]at h
 rw[List.length_append,List.length_singleton]
 generalize (8-(j+1))*(1+c)=x at*
 omega
theorem scan_step {S:Pg.Fs} {L:Nat->Nat->Bool} {lv:Nat} {rec:Int->Nat->List Pg.Sp×Int} {t:Int} {a j:Nat} (hj:j<8):
 Pg.scan S L lv rec t a (8-j) j=if (Pg.out S L lv rec t a j).2≠0 then Pg.out S L lv rec t a j
  else((Pg.out S L lv rec t a j).1++(Pg.scan S L lv rec t a (8-(j+1)) (j+1)).1,(Pg.scan S L lv rec t a (8-(j+1)) (j+1)).2):=by
 have e:8-j=(8-(j+1))+1:=by omega
 rw[e]
 rfl
set_option maxHeartbeats 4000000 in
theorem through_any {b:Nat} {S:Pg.Fs} {F:Nat->Prop} {g h:FuncId} {ca cb:Array Value} {L:Nat->Nat->Bool} {R:List Pg.Sp->(Nat->Prop)->World->Prop} (T:Tells b S F g h ca cb L R):
 ∀(lv:Nat),lv<4->∀(t:Int) (a:Nat) (X:List Pg.Sp) (V:Nat->Prop) (w:World),a+8<=8^(4-lv)->X.length+Pg.cnt' (lv+1)<=4680->R X V w->
  Calls Tryz.prog 155 #[.agg #[.pointer (some ⟨b,0,none⟩),.func (.func g) #[] ca,.func (.func h) #[] cb],.int .i64 t,.int .i64 (lv:Int),.int .i64 (a:Int)] w fun e w'=>
   e= .returned (.int .i64 (Pg.thr S L lv t a).2)/\∃V',R (X++(Pg.thr S L lv t a).1) V' w'/\But V w w'/\∀k,V' k->V k\/w.heap.size<=k:=by
 intro lv
 induction lv using Nat.strongRecOn with
 | _ lv IH=>
 intro hlv t a X V w ha hX hR
 have hV:=T.lt _ _ _ hR
 rw[Pg.thr_eq]
 have ha':a+8<=4096:=Nat.le_trans ha (by have:=Nat.pow_le_pow_right (n:=8) (by decide) (show 4-lv<=4 by omega);simpa using this)
 have HI:Hid _:=IH
 have HT:Hid _:=T
 have HV:Hid _:=hV
 have HX:Hid _:=hX
 have HA:Hid _:=ha
 have HG:Hid (Going R V w (.pointer (some ⟨b,0,none⟩)) (.func (.func g) #[] ca) (.func (.func h) #[] cb) X V (w.alloc (.cells #[.pointer (some ⟨b,0,none⟩),.func (.func g) #[] ca,.func (.func h) #[] cb] 204))):=
  ⟨T.grow _ _ _ _ hR (zA (zR w) _),But.of_below (zA (zR w) _),fun k hk=> .inl hk,by simp[go_sem],by simp[go_sem],by simp[go_sem]⟩
 clear IH T hV hX ha hR
 go_enter Tryz.func155,Tryz.ntmps155
 go_wp2_with fail
 go_loopw [13] (fun i wr=>∃(j:Nat) (X':List Pg.Sp) (V':Nat->Prop),j<=8/\i= .int .i64 j/\Hid (Going R V w (.pointer (some ⟨b,0,none⟩)) (.func (.func g) #[] ca) (.func (.func h) #[] cb) X' V' wr/\X++(Pg.scan S L lv (Pg.sub S L lv) t a 8 0).1=X'++(Pg.scan S L lv (Pg.sub S L lv) t a (8-j) j).1/\(Pg.scan S L lv (Pg.sub S L lv) t a 8 0).2=(Pg.scan S L lv (Pg.sub S L lv) t a (8-j) j).2/\X'.length+(8-j)*(1+Pg.cnt' lv)<=4680)) (fun i _=>8-(intOf i).toNat)
 case atStart=>exact⟨0,X,V,by omega,rfl,HG.out,rfl,rfl,HX.out⟩
 case round=>
  obtain⟨j,X',V',hj,rfl,HR⟩:=hrel
  clear HG
  have hc:=HR.out.1.c
  obtain⟨c0,c1,c2⟩:=hc
  by_cases hlt:j<8
  ·have hst:=scan_step (S:=S) (L:=L) (lv:=lv) (rec:=Pg.sub S L lv) (t:=t) (a:=a) hlt
   have eg:=HT.out.eg
   have eh:=HT.out.eh
   have hlI:(j:Int)<8:=by omega
   cases hL:L j lv
   ·have HL:=HT.out.looks j lv X' V' wr hlt hlv HR.out.1.r
    rw[hL]at HL
    have ho:Pg.out S L lv (Pg.sub S L lv) t a j=([],0):=by simp[Pg.out,hL]
    have HS:Hid (Pg.scan S L lv (Pg.sub S L lv) t a (8-j) j=Pg.scan S L lv (Pg.sub S L lv) t a (8-(j+1)) (j+1)):=by
     rw[Hid,hst,ho]
     simp
    clear hst ho hL
    go_wp2_with fail
    refine HL.mono ?_
    rintro e w1 ⟨rfl,hb1⟩
    have G1:Hid _:=HR.out.1.grow HT.out hb1
    clear hb1
    go_wp2_with fail
    obtain⟨_,h1,h2,h3⟩:=HR.out
    rw[HS.out]at h1 h2
    refine⟨⟨j+1,X',V',by omega,by go_num,G1.out,h1,h2,?_⟩,?_⟩
    ·have:(8-(j+1))*(1+Pg.cnt' lv)<=(8-j)*(1+Pg.cnt' lv):=Nat.mul_le_mul_right _ (by omega)
     omega
    ·simp[intOf];omega
   ·have HL:=HT.out.looks j lv X' V' wr hlt hlv HR.out.1.r
    rw[hL]at HL
    have HD:=fun w=>wRead_any (b:=b) (S:=S) (F:=F) t j lv hlt w
    have HE:Hid (Pg.spt S t j lv a=⟨t,j,lv,a+j,Pg.rEn S t j lv⟩):=rfl
    have HO:Hid _:= @Pg.rEn_on S t j lv
    by_cases hcd:Pg.rCode S t j lv=0
    ·cases hon:(Pg.rEn S t j lv).on
     ·have ho:Pg.out S L lv (Pg.sub S L lv) t a j=([Pg.spt S t j lv a],0):=by simp[Pg.out,hL,hcd,hon]
      have HS:Hid (Pg.scan S L lv (Pg.sub S L lv) t a (8-j) j=(Pg.spt S t j lv a::(Pg.scan S L lv (Pg.sub S L lv) t a (8-(j+1)) (j+1)).1,(Pg.scan S L lv (Pg.sub S L lv) t a (8-(j+1)) (j+1)).2)):=by
       rw[Hid,hst,ho]
       simp
      rw[hcd]at HD
      clear hst ho hL hcd HO
      generalize Pg.rEn S t j lv=E at*
      generalize Pg.spt S t j lv a=sp at*
      have HLe:=leadsOn_any E
      rw[hon]at HLe
      have HM:=HT.out.meets sp
      rw[HE.out]at HM
      obtain⟨et,el,er,eu,ed,ef⟩:=E
      simp only[Pg.Sp.val,Pg.En.val,Int.natCast_add]at HM HLe HD
      clear hon
      go_wp2_with fail
      refine HL.mono ?_
      rintro e w1 ⟨rfl,hb1⟩
      have G1:Hid _:=HR.out.1.grow HT.out hb1
      clear hb1 HL c0 c1 c2
      obtain⟨c0,c1,c2⟩:=G1.out.c
      go_wp2_with fail
      refine(HD _ (HT.out.fr _ _ _ G1.out.r)).mono ?_
      rintro e w2 ⟨rfl,hb2⟩
      have G2:Hid _:=G1.out.grow HT.out hb2
      clear hb2 HD c0 c1 c2 G1
      obtain⟨c0,c1,c2⟩:=G2.out.c
      have hl2:=G2.out.lb
      go_wp2_with fail
      refine(HM X' V' _ hlt hlv (show a+j<4096 by omega) ?_ (G2.out.grow HT.out (zA (zR w2) _)).r).mono ?_
      ·exact(len_step (s:=sp) hlt HR.out.2.2.2).1
      rintro e w4 ⟨rfl,V4,hr4,hb4,hn4⟩
      have G4:Hid _:=(G2.out.grow HT.out (zA (zR w2) _)).step HV.out hr4 hb4 hn4
      obtain⟨x0,x1,x2,x3,x4,x5⟩:=G2.out.box6 HT.out hb4
      clear c0 c1 c2 hr4 hb4 hn4 HM
      go_wp2_with fail
      refine(HLe _).mono ?_
      rintro e w5 ⟨rfl,hb5⟩
      have G5:Hid _:=G4.out.grow HT.out hb5
      clear hb5 x0 x1 x2 x3 x4 x5 HLe
      go_wp2_with fail
      obtain⟨_,h1,h2,h3⟩:=HR.out
      rw[HS.out]at h1 h2
      refine⟨⟨j+1,X'++[sp],V4,by omega,by go_num,by rw[HE.out];exact G5.out,by simpa using h1,h2,?_⟩,?_⟩
      ·have:=(len_step (s:=sp) hlt HR.out.2.2.2).2.1
       omega
      ·simp[intOf];omega
     ·obtain⟨m,hm⟩:=HO.out hon
      have hsub:Pg.sub S L lv=Pg.thr S L m:=by rw[hm];rfl
      have ho:Pg.out S L lv (Pg.sub S L lv) t a j=(Pg.spt S t j lv a::(Pg.thr S L m (Pg.rEn S t j lv).f ((a+j)*8)).1,(Pg.thr S L m (Pg.rEn S t j lv).f ((a+j)*8)).2):=by simp[Pg.out,hL,hcd,hon,hsub]
      rw[ho]at hst
      rw[hcd]at HD
      have HM1:Hid (lv=m+1):=hm
      have hlm:(lv:Int)-1=(m:Int):=by omega
      have hlm1:(1:Int)<=(lv:Int):=by omega
      clear ho hL hcd HO hm hsub
      generalize Pg.rEn S t j lv=E at*
      generalize Pg.spt S t j lv a=sp at*
      have HLe:=leadsOn_any E
      rw[hon]at HLe
      have HM:=HT.out.meets sp
      rw[HE.out]at HM
      obtain⟨et,el,er,eu,ed,ef⟩:=E
      simp only[Pg.Sp.val,Pg.En.val,Int.natCast_add]at HM HLe HD
      simp only at hst
      clear hon
      have HI2:=HI.out m (by have:=HM1.out;omega) (by have:=HM1.out;omega) ef ((a+j)*8) (X'++[sp])
      have HTL:=Pg.thr_len S L m ef ((a+j)*8)
      generalize hth:Pg.thr S L m ef ((a+j)*8)=th at*
      have HST:Hid _:=hst
      have HLN:Hid (th.1.length<=Pg.cnt' lv):=by
       have:=HM1.out
       rw[Hid,this];exact HTL
      clear hst HTL hth
      simp only[Int.natCast_mul,Int.natCast_add]at HI2
      go_wp2_with fail
      refine HL.mono ?_
      rintro e w1 ⟨rfl,hb1⟩
      have G1:Hid _:=HR.out.1.grow HT.out hb1
      clear hb1 HL c0 c1 c2
      obtain⟨c0,c1,c2⟩:=G1.out.c
      go_wp2_with fail
      refine(HD _ (HT.out.fr _ _ _ G1.out.r)).mono ?_
      rintro e w2 ⟨rfl,hb2⟩
      have G2:Hid _:=G1.out.grow HT.out hb2
      clear hb2 HD c0 c1 c2 G1
      obtain⟨c0,c1,c2⟩:=G2.out.c
      have hl2:=G2.out.lb
      go_wp2_with fail
      refine(HM X' V' _ hlt hlv (show a+j<4096 by omega) ?_ (G2.out.grow HT.out (zA (zR w2) _)).r).mono ?_
      ·exact(len_step (s:=sp) hlt HR.out.2.2.2).1
      rintro e w4 ⟨rfl,V4,hr4,hb4,hn4⟩
      have G4:Hid _:=(G2.out.grow HT.out (zA (zR w2) _)).step HV.out hr4 hb4 hn4
      have X4:Hid _:=G2.out.box6 HT.out hb4
      obtain⟨x0,x1,x2,x3,x4,x5⟩:=X4.out
      clear c0 c1 c2 hr4 hb4 hn4 HM
      go_wp2_with fail
      refine(HLe _).mono ?_
      rintro e w5 ⟨rfl,hb5⟩
      have G5:Hid _:=G4.out.grow HT.out hb5
      have y5:=(later6 hb5 X4.out).2.2.2.2.2
      clear hb5 x0 x1 x2 x3 x4 x5 HLe X4
      obtain⟨c0,c1,c2⟩:=G5.out.c
      go_wp2_with fail
      refine(HI2 V4 w5 ?_ ?_ (by rw[HE.out];exact G5.out.r)).mono ?_
      ·have:=HA.out
       have:=HM1.out
       rw[show 4-m=(4-lv)+1 by omega,Nat.pow_succ]
       omega
      ·have:=(len_step (s:=sp) hlt HR.out.2.2.2).2.2
       rw[<-HM1.out]
       exact this
      rintro e w6 ⟨rfl,V6,hr6,hb6,hn6⟩
      have G6:Hid _:=G5.out.step HV.out hr6 hb6 hn6
      clear hr6 hb6 hn6 HI2 c0 c1 c2
      by_cases hc:th.2=0
      ·have hcb:(th.2 !=0)=false:=by simp[hc]
       go_wp2_with fail
       obtain⟨_,h1,h2,h3⟩:=HR.out
       rw[HST.out,if_neg (by simpa using hc)]at h1 h2
       refine⟨⟨j+1,X'++[sp]++th.1,V6,by omega,by go_num,G6.out,by simpa using h1,h2,?_⟩,?_⟩
       ·have:=(len_step (s:=sp) hlt HR.out.2.2.2).2.1
        have:=HLN.out
        rw[List.length_append]
        omega
       ·simp[intOf];omega
      ·have hcb:(th.2 !=0)=true:=by simp[hc]
       go_wp2_with fail
       go_ret
       obtain⟨_,h1,h2,h3⟩:=HR.out
       rw[HST.out,if_pos (by simpa using hc)]at h1 h2
       exact⟨ret_int h2.symm,G6.out.done (by simpa using h1)⟩
    ·have ho:Pg.out S L lv (Pg.sub S L lv) t a j=([],Pg.rCode S t j lv):=by simp[Pg.out,hL,hcd]
     rw[ho]at hst
     have HST:Hid _:=hst
     have hcb:(Pg.rCode S t j lv !=0)=true:=by simp[hcd]
     have HC:Hid _:=hcd
     clear hst ho hL HO HE hcd
     generalize Pg.rEn S t j lv=E at*
     generalize Pg.rCode S t j lv=c at*
     obtain⟨et,el,er,eu,ed,ef⟩:=E
     simp only[Pg.En.val]at HD
     go_wp2_with fail
     refine HL.mono ?_
     rintro e w1 ⟨rfl,hb1⟩
     have G1:Hid _:=HR.out.1.grow HT.out hb1
     clear hb1 HL c0 c1 c2
     obtain⟨c0,c1,c2⟩:=G1.out.c
     go_wp2_with fail
     refine(HD _ (HT.out.fr _ _ _ G1.out.r)).mono ?_
     rintro e w2 ⟨rfl,hb2⟩
     have G2:Hid _:=G1.out.grow HT.out hb2
     clear hb2 HD c0 c1 c2 G1
     go_wp2_with fail
     go_ret
     obtain⟨_,h1,h2,h3⟩:=HR.out
     rw[HST.out,if_pos (by simpa using HC.out)]at h1 h2
     exact⟨ret_int h2.symm,(G2.out.grow HT.out (zA (zR w2) _)).done (by simpa using h1)⟩
  ·have hj8:j=8:=by omega
   subst hj8
   have hlI:¬((8:Nat):Int)<8:=by omega
   go_wp2_with fail
   go_ret
   obtain⟨G,h1,h2,h3⟩:=HR.out
   exact⟨ret_int h2.symm,G.done (by simpa[Pg.scan]using h1)⟩
theorem from_any {b:Nat} {S:Pg.Fs} {F:Nat->Prop} {g h:FuncId} {ca cb:Array Value} {L:Nat->Nat->Bool} {R:List Pg.Sp->(Nat->Prop)->World->Prop} (T:Tells b S F g h ca cb L R) (t:Int) (V:Nat->Prop) (w:World) (hR:R [] V w):
 Calls Tryz.prog 117 #[.agg #[.pointer (some ⟨b,0,none⟩),.func (.func g) #[] ca,.func (.func h) #[] cb],.int .i64 t] w fun e w'=>
  e= .returned (.int .i64 (Pg.thr S L 3 t 0).2)/\∃V',R (Pg.thr S L 3 t 0).1 V' w'/\But V w w'/\∀k,V' k->V k\/w.heap.size<=k:=by
 have HT:Hid _:=through_any T 3 (by omega) t 0 [] V _ (by decide) (by decide) (T.grow _ _ _ _ hR (zA (zR w) (.cells #[.pointer (some ⟨b,0,none⟩),.func (.func g) #[] ca,.func (.func h) #[] cb] 204)))
 clear hR T
 go_enter Tryz.func117,Tryz.ntmps117
 go_wp2_with fail
 refine Calls.mono HT.out ?_
 rintro e w1 ⟨rfl,V',hr,hb,hn⟩
 have fin:Hid (∃V',R (Pg.thr S L 3 t 0).1 V' w1/\But V w w1/\∀k,V' k->V k\/w.heap.size<=k):=
  ⟨V',hr,((But.refl V w).alloc _).trans hb (fun _ _ h=>h),fun k hk=>(hn k hk).imp id (fun h=>by simp at h;omega)⟩
 clear hr hb hn
 go_wp2_with fail
 go_ret
 exact⟨rfl,fin.out⟩
def ints (l:List Int):List Value:=l.map fun k:Int=>Value.int .i64 k
theorem ints_at (l:List Int) (j:Nat) (hj:j<l.length):(ints l)[j]?=some (.int .i64 (l.getD j 0)):=by
 simp[ints,List.getD,hj]
def IntsAt (w:World) (ad:Option Addr) (L:List Int):Prop:=∀j,j<L.length->∃g,ad=some ⟨g,0,none⟩/\g<w.heap.size/\w.cell? ⟨g,j,none⟩=some (.int .i64 (L.getD j 0))
theorem owns_intsAt {w:World} {base:Nat} {ad:Option Addr} {n cap:Nat} {L:List Int} (h:w.ownsRow base 3 1 (.slice ad n cap) L.length (ints L)):IntsAt w ad L:=by
 intro j hj
 obtain⟨g,cap',e,_,hg⟩:=h.form (by omega)
 cases e
 refine⟨g,rfl,hg,?_⟩
 rw[h.cellAt _ (by omega)]
 exact ints_at L j hj
structure Var (B:Nat) (c o:Nat) (e:TypeId) (size:Nat) (vb:Value) (n:Nat) (xs:List Value) (w:World):Prop where
 cell:w.cell? ⟨c,o,none⟩=some vb
 own:w.ownsRow B e size vb n xs
 ne:vb.ownBlock≠some c
namespace Var
variable {B c o:Nat} {e:TypeId} {size:Nat} {vb:Value} {n:Nat} {xs:List Value} {w w':World}
theorem grow (h:Var B c o e size vb n xs w) (hb:Below w.heap.size w w'):Var B c o e size vb n xs w':=
 ⟨cell_later hb h.cell,ownsMaps_below h.own hb,h.ne⟩
theorem lt (h:Var B c o e size vb n xs w) {k:Nat} (hk:vb.ownBlock=some k):k<w.heap.size:=(h.own.lt k hk).2
theorem lb (h:Var B c o e size vb n xs w):c<w.heap.size:=World.block_lt_of_cell? _ _ h.cell
theorem push {wA w3:World} {g cap n':Nat} {xs':List Value} (h:Var B c o e size vb n xs w) (hA:Below w.heap.size w wA) (hg:wA.grownBy w3 vb.ownBlock)
 (hown:w3.ownsRow B e size (.slice (some ⟨g,0,none⟩) n' cap) n' xs') (hat:vb.ownBlock=some g\/g=wA.heap.size):
 w3.cell? ⟨c,o,none⟩=some vb/\(∀o,w3.frozen? ⟨c,o,none⟩=w.frozen? ⟨c,o,none⟩)/\(∀o,w3.cell? ⟨c,o,none⟩=w.cell? ⟨c,o,none⟩)/\g≠c/\Var B c o e size (.slice (some ⟨g,0,none⟩) n' cap) n' xs' (w3.setCell ⟨c,o,none⟩ (.slice (some ⟨g,0,none⟩) n' cap))/\
  But (fun k=>k=c\/vb.ownBlock=some k) w (w3.setCell ⟨c,o,none⟩ (.slice (some ⟨g,0,none⟩) n' cap))/\(vb.ownBlock=some g\/w.heap.size<=g):=by
 have hl:=h.lb
 have hgc:g≠c:=by
  rintro rfl
  rcases hat with e1|e1
  ·exact h.ne e1
  ·have:=hA.size;omega
 have hB:But (fun k=>k=c\/vb.ownBlock=some k) w w3:=(But.of_below hA).grown hg fun k hk=> .inr (.inr hk)
 have hB2:But (fun k=>vb.ownBlock=some k) w w3:=(But.of_below hA).grown hg fun k hk=> .inr hk
 have hc:w3.cell? ⟨c,o,none⟩=some vb:=(hB2.cell (a:=⟨c,o,none⟩) hl (fun e=>h.ne e)).trans h.cell
 refine⟨hc,fun o=>hB2.frozen (a:=⟨c,o,none⟩) hl (fun e=>h.ne e),fun o=>hB2.cell (a:=⟨c,o,none⟩) hl (fun e=>h.ne e),hgc,⟨World.cell?_setCell_same _ _ _ hc,?_,?_⟩,hB.setCell (.inr (.inl rfl)) _,?_⟩
 ·exact owns_of_block hown fun k hk=>Below.heap_setCell _ _ _ _ (fun e=>hgc ((show g=k by simpa[Value.ownBlock]using hk).trans e))
 ·simpa[Value.ownBlock]using hgc
 ·exact hat.imp id fun e=>by have:=hA.size;omega
end Var
structure Keeps (w0:World) (c:Nat) (e:TypeId) (size:Nat) (len:List Pg.Sp->Nat) (row:List Pg.Sp->List Value) (X:List Pg.Sp) (V:Nat->Prop) (w:World):Prop where
 bel:Below w0.heap.size w0 w
 hi:w0.heap.size<=c
 fz:∀o,w.frozen? ⟨c,o,none⟩=false
 var:∃vb,Var w0.heap.size c 0 e size vb (len X) (row X) w/\V=fun k=>k=c\/vb.ownBlock=some k
namespace Keeps
variable {w0:World} {c:Nat} {e:TypeId} {size:Nat} {len:List Pg.Sp->Nat} {row:List Pg.Sp->List Value} {X X':List Pg.Sp} {V:Nat->Prop} {w w':World}
theorem grow (h:Keeps w0 c e size len row X V w) (hb:Below w.heap.size w w'):Keeps w0 c e size len row X V w':=by
 obtain⟨h1,h2,h3,vb,hv,rfl⟩:=h
 exact⟨h1.trans (hb.mono h1.size),h2,fun o=>(hb.frozen (p:=⟨c,o,none⟩) hv.lb).trans (h3 o),vb,hv.grow hb,rfl⟩
theorem lt (h:Keeps w0 c e size len row X V w) {k:Nat} (hk:V k):k<w.heap.size:=by
 obtain⟨h1,h2,h3,vb,hv,rfl⟩:=h
 rcases hk with rfl|hk
 ·exact hv.lb
 ·exact hv.lt hk
theorem same (h:Keeps w0 c e size len row X V w) (h1:len X'=len X) (h2:row X'=row X):Keeps w0 c e size len row X' V w:=
 ⟨h.bel,h.hi,h.fz,by rw[h1,h2];exact h.var⟩
theorem stay (h:Keeps w0 c e size len row X V w) (hb:Below w.heap.size w w') (h1:len X'=len X) (h2:row X'=row X):∃V',Keeps w0 c e size len row X' V' w'/\But V w w'/\∀k,V' k->V k\/w.heap.size<=k:=
 ⟨V,(h.grow hb).same h1 h2,But.of_below hb,fun k hk=> .inl hk⟩
theorem fr {b:Nat} {S:Pg.Fs} {F:Nat->Prop} (hf:FrAt w0 b S F) (h:Keeps w0 c e size len row X V w):FrAt w b S F:=
 hf.keep (G:=fun k=>w0.heap.size<=k) (w':=w) ⟨h.bel.os,h.bel.tape,h.bel.output,h.bel.size,fun k hk _=>h.bel.block k hk⟩ (fun k hk=>by have:=hf.lt hk;omega)
theorem push (h:Keeps w0 c e size len row X V w) {vb:Value} (hv:Var w0.heap.size c 0 e size vb (len X) (row X) w) (hV:V=fun k=>k=c\/vb.ownBlock=some k) {wA w3:World} {g cap n':Nat} {xs':List Value} (hA:Below w.heap.size w wA) (hg:wA.grownBy w3 vb.ownBlock)
 (hown:w3.ownsRow w0.heap.size e size (.slice (some ⟨g,0,none⟩) n' cap) n' xs') (hat:vb.ownBlock=some g\/g=wA.heap.size) (h1:len X'=n') (h2:row X'=xs'):
 ∃V',Keeps w0 c e size len row X' V' (w3.setCell ⟨c,0,none⟩ (.slice (some ⟨g,0,none⟩) n' cap))/\But V w (w3.setCell ⟨c,0,none⟩ (.slice (some ⟨g,0,none⟩) n' cap))/\∀k,V' k->V k\/w.heap.size<=k:=by
 obtain⟨p1,p2,p2',p3,p4,p5,p6⟩:=hv.push hA hg hown hat
 subst hV
 refine⟨_,⟨?_,h.hi,fun o=>by rw[World.frozen?_setCell,p2];exact h.fz o,_,by rw[h1,h2];exact p4,rfl⟩,p5,fun k hk=> ?_⟩
 ·have hlo:∀k,(k=c\/vb.ownBlock=some k)->w0.heap.size<=k:=fun k hk=>by
   rcases hk with rfl|hk
   ·exact h.hi
   ·exact(hv.own.lt k hk).1
  exact h.bel.trans (p5.below h.bel.size hlo)
 ·rcases hk with rfl|hk
  ·exact .inl (.inl rfl)
  ·have e1:g=k:=by simpa[Value.ownBlock]using hk
   subst e1
   exact p6.imp .inr id
end Keeps
theorem infoIntW:(Tryz.prog.info? 3).map (fun i=>(i.zero,i.size,i.bytes))=some (some (.int .i64 0),1,8):=by kernel_rfl
set_option maxHeartbeats 4000000 in
theorem tables1_any {w0:World} {c:Nat} {t:Int} (s:Pg.Sp) (X:List Pg.Sp) (V:Nat->Prop) (w:World) (hlen:X.length<4680)
 (hR:Keeps w0 c 3 1 (fun X=>(t::Pg.zU X).length) (fun X=>ints (t::Pg.zU X)) X V w):
 Calls Tryz.prog 118 #[s.val,.pointer (some ⟨c,0,none⟩)] w fun e w'=>e= .returned (.tuple #[])/\∃V',Keeps w0 c 3 1 (fun X=>(t::Pg.zU X).length) (fun X=>ints (t::Pg.zU X)) (X++[s]) V' w'/\But V w w'/\∀k,V' k->V k\/w.heap.size<=k:=by
 have HT:Hid (Pg.zU (X++[s])=Pg.zU X++if s.e.on=true then [s.e.f]else []):=by simp[Hid,Pg.zU]
 have HR:Hid _:=hR
 have hl:=Pg.tabsOf_len X
 obtain⟨st,sp,sl,sa,⟨et,el,er,eu,ed,ef⟩⟩:=s
 have HLe:=leadsOn_any ⟨et,el,er,eu,ed,ef⟩
 simp only[Pg.Sp.val,Pg.En.val]at HLe ⊢
 simp only at HT
 cases hon:Pg.En.on ⟨et,el,er,eu,ed,ef⟩
 ·rw[hon]at HLe HT
  clear hR hon
  go_enter Tryz.func118,Tryz.ntmps118
  go_wp2_with fail
  refine(HLe _).mono ?_
  rintro e w1 ⟨rfl,hb1⟩
  have fin:Hid _:=HR.out.stay (X':=X++[⟨st,sp,sl,sa,⟨et,el,er,eu,ed,ef⟩⟩]) (zT (zA (zR w) _) hb1) (by rw[HT.out];simp) (by rw[HT.out];simp)
  clear hb1
  go_wp2_with fail
  go_end0
  exact⟨rfl,fin.out⟩
 ·rw[hon]at HLe HT
  obtain⟨vb,hv,hV⟩:=hR.var
  obtain⟨q0,hq,hz0,hz1,hz2⟩:=info_parts infoIntW
  have HVr:Hid _:=hv
  have hfz:=hR.fz
  have hw0:=hR.bel.size
  have hcl:=hv.lb
  clear hR hon hv
  go_enter Tryz.func118,Tryz.ntmps118
  go_wp2_with fail
  refine(HLe _).mono ?_
  rintro e w1 ⟨rfl,hb1⟩
  have hB:Below w.heap.size w w1:=zT (zA (zR w) _) hb1
  have x9:w1.cell? ⟨w.heap.size,9,none⟩=some (.int .i64 ef):=(hb1.cell (p:=⟨w.heap.size,9,none⟩) (by simp)).trans (by simp[go_sem])
  have v1:=HVr.out.grow hB
  have cc:=v1.cell
  have hl1:w.heap.size<w1.heap.size:=by have:=hb1.size;simp at this;omega
  have hown:=v1.own
  have HB:Hid _:=hB
  clear hb1 hB v1 HLe
  go_wp2_with (first
   | (at_builtin;refine wpList_append_lies _ rfl _ _ 45 rfl w0.heap.size 3 q0 (.int .i64 0) 1 8 Tryz.underlying45 hq hz0 hz1 hz2 rfl (by decide) _ _ _ rfl (hown.alloc _) ⟨w1.heap.size,0,none⟩ 1 1 [.int .i64 ef] rfl rfl ?c1 ?c2 (by decide) ?c3 ?c4 ?c5 (w1.heap.size+1) (by simp) ?_))
  case c1=>
   intro j u hj
   match j,hj with
   | 0,hj=>simp at hj;subst hj;simp[Addr.add,go_sem]
  case c2=>intro u hu;simp at hu;subst hu;rfl
  case c3=>simp[maxLen];omega
  case c4=>simp;omega
  case c5=>have:=HB.out.size;simp;omega
  intro g cap w3 hown3 hgrow hat hlt3
  have hbA:=zA HB.out (.cells #[.int .i64 ef] 3)
  have hat':vb.ownBlock=some g\/g=(w1.alloc (.cells #[.int .i64 ef] 3)).heap.size:=by simpa using hat
  obtain⟨p1,p2,p3,p4,_⟩:=HVr.out.push hbA hgrow hown3 hat'
  have kf:w3.frozen? ⟨c,0,none⟩=false:=(p2 0).trans (hfz 0)
  have fin:Hid _:=HR.out.push (X':=X++[⟨st,sp,sl,sa,⟨et,el,er,eu,ed,ef⟩⟩]) HVr.out hV hbA hgrow hown3 hat' (by rw[HT.out];simp) (by rw[HT.out];simp[ints])
  clear hbA hat' p2 p3 p4 hown3 hgrow hat hlt3 hown hfz HVr HR
  go_wp2_with fail
  go_end0
  exact⟨rfl,fin.out⟩
theorem enters_tables1:∀args w,(callFunc 118 args).run Tryz.prog w= .ok (.enter 118 args) w:=fun args w=>by simp[go_sem]
theorem enters_everywhere:∀args w,(callFunc 114 args).run Tryz.prog w= .ok (.enter 114 args) w:=fun args w=>by simp[go_sem]
theorem tables_tells {b:Nat} {S:Pg.Fs} {F:Nat->Prop} {w0:World} {c:Nat} {t:Int} (h:FrAt w0 b S F):
 Tells b S F 114 118 #[] #[.pointer (some ⟨c,0,none⟩)] Pg.zW (Keeps w0 c 3 1 (fun X=>(t::Pg.zU X).length) (fun X=>ints (t::Pg.zU X))):=
 ⟨enters_everywhere,enters_tables1,fun _ _ _ hR=>hR.fr h,fun _ _ _ hR _ hk=>hR.lt hk,fun _ _ _ _ hR hb=>hR.grow hb,
  fun i lv _ _ w _ _ _=>below_of_same (everywhere_any (i:Int) (lv:Int) w),fun s X V w _ _ _ hl hR=>tables1_any s X V w hl hR⟩
end Go.Proofs.YtkhnelgommaioaaGreat
