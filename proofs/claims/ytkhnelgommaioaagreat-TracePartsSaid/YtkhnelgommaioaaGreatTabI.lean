import Derived.Test.YtkhnelgommaioaaGreatTabD
import Derived.Test.YtkhnelgommaioaaGreatTabH
namespace Go.Proofs.YtkhnelgommaioaaGreat
open Go.RowKit Go.Sort
set_option linter.unusedVariables false
set_option linter.unusedSimpArgs false
set_option maxRecDepth 100000
theorem insW_done (p:Int) (s:Nat) (S:Pg.Fs) (t:Int):Pg.insW p s s S t=(S,t):=by
 cases s with
 | zero=>rfl
 | succ s=>simp[Pg.insW]
theorem insW_more (p:Int) (s m:Nat) (S:Pg.Fs) (t:Int) (h:s<=m):Pg.insW p s (m+1) S t=Pg.insW p s m (S.take.store t (Pg.index p ((m+1:Nat):Int)) (Pg.enc true false 7 false false S.takeN ((m+1:Nat):Int))) S.takeN:=by
 rw[Pg.insW,if_neg (by omega)]
set_option maxHeartbeats 4000000 in
theorem tInsert_any {b:Nat} {S:Pg.Fs} {F:Nat->Prop} (t:Int) (m:Pg.Mp) (w:World) (h:FrAt w b S F):
 Calls Tryz.prog 134 #[.pointer (some ⟨b,0,none⟩),.int .i64 t,m.val] w fun en w'=>en= .returned (.int .i64 (Pg.insC S t m))/\∃F',FrAt w' b (Pg.insS S t m) F'/\But F w w'/\∀k,F' k->F k\/w.heap.size<=k:=by
 obtain⟨p,s,f,r⟩:=m
 have HC:=check_any p s f r
 have eC:Pg.Mp.code ⟨p,s,f,r⟩=Pg.check p s f r:=rfl
 rw[<-eC]at HC
 simp only[Pg.Mp.val]
 have H:Hid (FrAt w b S F):=h
 obtain⟨W1,hW1⟩:∃W1,W1=w.alloc (.cells #[.int .i64 p,.int .i64 s,.int .i64 f,.int .i64 r] 39):=⟨_,rfl⟩
 have hB1:Below w.heap.size w W1:=by rw[hW1];exact zA (zR w) _
 have r4:W1.cell? ⟨w.heap.size,0,none⟩=some (.int .i64 p)/\W1.cell? ⟨w.heap.size,1,none⟩=some (.int .i64 s)/\W1.cell? ⟨w.heap.size,2,none⟩=some (.int .i64 f)/\W1.cell? ⟨w.heap.size,3,none⟩=some (.int .i64 r):=by rw[hW1];simp[go_sem]
 have HB1:Hid _:=hB1
 obtain⟨x0,x1,x2,x3⟩:=r4
 have fin0:Hid (∀w',Below w.heap.size w w'->∃F',FrAt w' b S F'/\But F w w'/\∀k,F' k->F k\/w.heap.size<=k):=fun w' hb=>⟨F,FrAt.keep (G:=fun _=>False) H.out (But.of_below hb) fun _ _=>id,But.of_below hb,fun k hk=> .inl hk⟩
 have HW:=fun w2 (hb:Below w.heap.size w w2)=>newMaker_any t p w2 (h.keep (G:=fun _=>False) (But.of_below hb) fun _ _=>id)
 clear hB1 eC
 by_cases hc:Pg.Mp.code ⟨p,s,f,r⟩=0
 ·rw[hc]at HC
  by_cases hz:fndC S t p=0
  ·obtain⟨Y,sp,lv,hY,W,hsl,hl3,hY3,hpl,hix⟩:=way_split hz
   have hs:0<=s/\s<=2:=by
    have hc':Pg.check p s f r=0:=hc
    have hsp:Pg.span s≠0:=by
     intro e
     rw[Pg.check,if_pos e]at hc'
     omega
    unfold Pg.span at hsp
    by_cases h0:s=0
    ·omega
    ·by_cases h1:s=1
     ·omega
     ·by_cases h2:s=2
      ·omega
      ·simp[h0,h1,h2]at hsp
   obtain⟨sn,rfl⟩:=Int.eq_ofNat_of_zero_le hs.1
   have hs2:sn<=2:=by omega
   have e6:tabs (Y++[sp])=tabs Y++[sp.table]:=by simp[tabs]
   have e7:plcs (Y++[sp])=plcs Y++[(sp.place:Int)]:=by simp[plcs]
   have eI:Pg.insC S t ⟨p,sn,f,r⟩=if sp.e.t=true\/(lv:Int)<(sn:Int)then 4 else if S.free<(lv:Int)-(sn:Int)then 6 else 0:=by
    rw[Pg.insC,if_neg (by simp[hc]),if_neg (by simp[hz]),hY,W.lastE,W.lastL]
   have eS:Pg.insS S t ⟨p,sn,f,r⟩=if Pg.insC S t ⟨p,sn,f,r⟩=0 then(Pg.insW p sn lv S sp.table).1.store (Pg.insW p sn lv S sp.table).2 (Pg.index p (sn:Int)) (Pg.enc true true r false false f (sn:Int))else S:=by
    rw[Pg.insS,hY,W.lastL,W.lastT]
    rfl
   rw[hz,hY,W.lastL,W.lastE,e6,e7,hpl]at HW
   have hlen:(tabs Y).length=(plcs Y).length:=by rw[tabs_len,plcs_len]
   have hlt:(tabs Y).length<=3:=by rw[tabs_len];omega
   have hfree:=h.ok.free_bd
   have HFr:=fun w2 (hb:Below w.heap.size w w2)=>frFree_any w2 (h.keep (G:=fun _=>False) (But.of_below hb) fun _ _=>id)
   clear hc hz W hY hsl hpl hix h e6 e7 hs
   generalize tabs Y=T at*
   generalize plcs Y=P at*
   obtain⟨st,_,_,_,⟨et,el,er,eu,ed,ef⟩⟩:=sp
   simp only at eI eS HW
   clear hY3 Y
   generalize Pg.insC S t ⟨p,sn,f,r⟩=ic at*
   generalize Pg.insS S t ⟨p,sn,f,r⟩=iS at*
   by_cases hE:et=true\/(lv:Int)<(sn:Int)
   ·rw[if_pos hE]at eI
    rw[eI,if_neg (by decide)]at eS
    rw[eI,eS]
    clear eI eS
    cases et
    ·have hlt':(lv:Int)<(sn:Int):=by
      rcases hE with h|h
      ·cases h
      ·exact h
     clear hE
     go_enter Tryz.func134,Tryz.ntmps134
     go_wp2_with fail
     rw[<-hW1]
     clear hW1
     refine(HC _).mono ?_
     rintro en w2 ⟨rfl,hb2⟩
     have y0:=cell_later hb2 x0
     have y1:=cell_later hb2 x1
     have y2:=cell_later hb2 x2
     have y3:=cell_later hb2 x3
     have HB2:Hid (Below w.heap.size w w2):=zT HB1.out hb2
     clear hb2 HC x0 x1 x2 x3
     go_wp2_with fail
     refine(HW _ HB2.out).mono ?_
     rintro en w3 ⟨k,rfl,hS,hb3⟩
     have HS:Hid _:=hS
     have HB3:Hid (Below w.heap.size w w3):=zT HB2.out hb3
     obtain⟨B,v1,v2,F',hM,_,_,_,_,_,_⟩:=hS.body
     have k0:=hM.c0
     have k1:=hM.c1
     have k2:=hM.c2
     simp only at k2
     have z1:=cell_later hb3 y1
     have z2:=cell_later hb3 y2
     have z3:=cell_later hb3 y3
     have hlx:w.heap.size<w2.heap.size:=World.block_lt_of_cell? _ _ y0
     have HZ:Hid _:=And.intro z1 (And.intro z2 z3)
     clear hM hS hb3 HW y0 y1 y2 y3
     go_wp2_with fail
     go_quiet (fail)
     go_wp2_with fail
     go_ret
     exact⟨rfl,fin0.out _ (zT HB3.out (below_drewN (zR _) _))⟩
    ·clear hE
     go_enter Tryz.func134,Tryz.ntmps134
     go_wp2_with fail
     rw[<-hW1]
     clear hW1
     refine(HC _).mono ?_
     rintro en w2 ⟨rfl,hb2⟩
     have y0:=cell_later hb2 x0
     have y1:=cell_later hb2 x1
     have y2:=cell_later hb2 x2
     have y3:=cell_later hb2 x3
     have HB2:Hid (Below w.heap.size w w2):=zT HB1.out hb2
     clear hb2 HC x0 x1 x2 x3
     go_wp2_with fail
     refine(HW _ HB2.out).mono ?_
     rintro en w3 ⟨k,rfl,hS,hb3⟩
     have HS:Hid _:=hS
     have HB3:Hid (Below w.heap.size w w3):=zT HB2.out hb3
     obtain⟨B,v1,v2,F',hM,_,_,_,_,_,_⟩:=hS.body
     have k0:=hM.c0
     have k1:=hM.c1
     have k2:=hM.c2
     simp only at k2
     have z1:=cell_later hb3 y1
     have z2:=cell_later hb3 y2
     have z3:=cell_later hb3 y3
     have hlx:w.heap.size<w2.heap.size:=World.block_lt_of_cell? _ _ y0
     have HZ:Hid _:=And.intro z1 (And.intro z2 z3)
     clear hM hS hb3 HW y0 y1 y2 y3
     go_wp2_with fail
     go_quiet (fail)
     go_wp2_with fail
     go_ret
     exact⟨rfl,fin0.out _ (zT HB3.out (below_drewN (zR _) _))⟩
   ·rw[if_neg hE]at eI
    have hef:et=false:=by
     cases et
     ·rfl
     ·exact absurd (.inl rfl) hE
    have hle:sn<=lv:=by omega
    subst hef
    clear hE
    by_cases hfu:S.free<(lv:Int)-(sn:Int)
    ·rw[if_pos hfu]at eI
     rw[eI,if_neg (by decide)]at eS
     rw[eI,eS]
     clear eI eS
     go_enter Tryz.func134,Tryz.ntmps134
     go_wp2_with fail
     rw[<-hW1]
     clear hW1
     refine(HC _).mono ?_
     rintro en w2 ⟨rfl,hb2⟩
     have y0:=cell_later hb2 x0
     have y1:=cell_later hb2 x1
     have y2:=cell_later hb2 x2
     have y3:=cell_later hb2 x3
     have HB2:Hid (Below w.heap.size w w2):=zT HB1.out hb2
     clear hb2 HC x0 x1 x2 x3
     go_wp2_with fail
     refine(HW _ HB2.out).mono ?_
     rintro en w3 ⟨k,rfl,hS,hb3⟩
     have HS:Hid _:=hS
     have HB3:Hid (Below w.heap.size w w3):=zT HB2.out hb3
     obtain⟨B,v1,v2,F',hM,_,_,_,_,_,_⟩:=hS.body
     have k0:=hM.c0
     have k1:=hM.c1
     have k2:=hM.c2
     simp only at k2
     have z1:=cell_later hb3 y1
     have z2:=cell_later hb3 y2
     have z3:=cell_later hb3 y3
     have hlx:w.heap.size<w2.heap.size:=World.block_lt_of_cell? _ _ y0
     have HZ:Hid _:=And.intro z1 (And.intro z2 z3)
     clear hM hS hb3 HW y0 y1 y2 y3
     go_wp2_with fail
     go_quiet (fail)
     go_wp2_with fail
     refine(HFr _ (zT HB3.out (below_drewN (zR _) _))).mono ?_
     rintro en w4 ⟨rfl,hb4⟩
     have HB4:Hid (Below w.heap.size w w4):=zT (zT HB3.out (below_drewN (zR _) _)) hb4
     clear hb4 HFr
     go_wp2_with fail
     go_ret
     exact⟨rfl,fin0.out _ HB4.out⟩
    ·rw[if_neg hfu]at eI
     rw[eI,if_pos rfl]at eS
     rw[eI,eS]
     clear eI eS
     have dd1:decide ((lv:Int)-(sn:Int)<0)=false:=by simp;omega
     have dd2:decide (S.free<(lv:Int)-(sn:Int))=false:=by simp;omega
     go_enter Tryz.func134,Tryz.ntmps134
     go_wp2_with fail
     rw[<-hW1]
     clear hW1
     refine(HC _).mono ?_
     rintro en w2 ⟨rfl,hb2⟩
     have y0:=cell_later hb2 x0
     have y1:=cell_later hb2 x1
     have y2:=cell_later hb2 x2
     have y3:=cell_later hb2 x3
     have HB2:Hid (Below w.heap.size w w2):=zT HB1.out hb2
     clear hb2 HC x0 x1 x2 x3
     go_wp2_with fail
     refine(HW _ HB2.out).mono ?_
     rintro en w3 ⟨k,rfl,hS,hb3⟩
     have HS:Hid _:=hS
     have HB3:Hid (Below w.heap.size w w3):=zT HB2.out hb3
     obtain⟨B,v1,v2,F',hM,_,_,_,_,_,_⟩:=hS.body
     have k0:=hM.c0
     have k1:=hM.c1
     have k2:=hM.c2
     simp only at k2
     have z1:=cell_later hb3 y1
     have z2:=cell_later hb3 y2
     have z3:=cell_later hb3 y3
     have hlx:w.heap.size<w2.heap.size:=World.block_lt_of_cell? _ _ y0
     have HZ:Hid _:=And.intro z1 (And.intro z2 z3)
     clear hM hS hb3 HW y0 y1 y2 y3
     go_wp2_with fail
     go_quiet (fail)
     go_wp2_with fail
     refine(HFr _ (zT HB3.out (below_drewN (zR _) _))).mono ?_
     rintro en w4 ⟨rfl,hb4⟩
     have HB34:Hid (Below w3.heap.size w3 w4):=zT (below_drewN (zR _) _) hb4
     clear hb4 HFr
     go_wp2_with fail
     try simp only[dd1,dd2]
     go_loopw [53] (fun i wr=>∃(j lvn:Nat) (Si:Pg.Fs) (ei:Pg.En) (ts ps:List Int) (ti:Int),lvn+j=lv/\sn<=lvn/\i= .int .i64 (j:Int)/\ts.length=ps.length/\ts.length=T.length+j/\Hid (St w2 wr k b F Si (lvn:Int) ei (ts++[ti]) (ps++[Pg.index p (lvn:Int)]) p/\Pg.insW p sn lvn Si ti=Pg.insW p sn lv S st)) (fun i _=>lv-(intOf i).toNat)
     case atStart=>exact⟨0,lv,S,_,T,P,st,by omega,by omega,rfl,hlen,rfl,HS.out.grow HB34.out,rfl⟩
     case round=>
      obtain⟨j,lvn,Si,ei,ts,ps,ti,hj,hlvn,rfl,hl1,hl2,HR⟩:=hrel
      have j0:(0:Int)<=(j:Int):=by omega
      by_cases hlt2:sn<lvn
      ·have j1:(j:Int)<(lv:Int)-(sn:Int):=by omega
       have HX:=extend_any HR.out.1 hl1 (by omega) (by omega) (by omega)
       obtain⟨lm,rfl⟩:∃lm,lvn=lm+1:=⟨lvn-1,by omega⟩
       have e9:((lm+1:Nat):Int)-1=(lm:Int):=by omega
       rw[e9]at HX
       have e10:Hid (Pg.insW p sn lm (Si.take.store ti (Pg.index p ((lm+1:Nat):Int)) (Pg.enc true false 7 false false Si.takeN ((lm+1:Nat):Int))) Si.takeN=Pg.insW p sn lv S st):=by rw[Hid,<-insW_more p sn lm Si ti (by omega)];exact HR.out.2
       go_wp2_with fail
       refine HX.mono ?_
       rintro en w5 ⟨rfl,h5⟩
       have H5:Hid _:=h5
       clear h5 HX HR
       go_wp2_with fail
       exact⟨⟨j+1,lm,_,_,_,_,_,by omega,by omega,by go_num,by simp[hl1],by simp[hl2];omega,H5.out,e10.out⟩,by simp[intOf];omega⟩
      ·have hee:lvn=sn:=by omega
       subst hee
       have j1:¬(j:Int)<(lv:Int)-(lvn:Int):=by omega
       have hins:=HR.out.2
       rw[insW_done]at hins
       have HX:=put_any ⟨true,true,r,false,false,f⟩ HR.out.1 hl1 (by omega)
       simp only[Pg.En.val]at HX
       have hbx:wr.heap[w.heap.size]?=w3.heap[w.heap.size]?:=by
        have q1:=HR.out.1.but.block w.heap.size hlx fun hF=>by have:=FrAt.lt H.out hF;omega
        have q2:=HS.out.but.block w.heap.size hlx fun hF=>by have:=FrAt.lt H.out hF;omega
        exact q1.trans q2.symm
       have b2:=(World.cell?_of_block hbx).trans HZ.out.2.1
       have b3:=(World.cell?_of_block hbx).trans HZ.out.2.2
       have HIN:Hid _:=hins
       clear hins hbx z1 z2 z3 k0 k1 k2 HR
       go_wp2_with fail
       refine HX.mono ?_
       rintro en w6 ⟨rfl,h6⟩
       obtain⟨F6,f1,f2,f3⟩:=h6.leaves
       have fin:Hid (∃F',FrAt w6 b ((Pg.insW p lvn lv S st).1.store (Pg.insW p lvn lv S st).2 (Pg.index p (lvn:Int)) (Pg.enc true true r false false f (lvn:Int))) F'/\But F w w6/\∀k,F' k->F k\/w.heap.size<=k):=by
        rw[Hid,<-HIN.out]
        exact⟨F6,f1,(But.of_below HB2.out).trans f2 fun _ _ h=>h,fun j hj=>(f3 j hj).imp id fun h=>by have:=HB2.out.size;omega⟩
       clear h6 f1 f2 f3 HX HIN
       go_wp2_with fail
       go_ret
       exact⟨rfl,fin.out⟩
  ·have e1:Pg.insC S t ⟨p,s,f,r⟩=fndC S t p:=by rw[Pg.insC,if_neg (by simp[hc]),if_pos hz]
   have e2:Pg.insS S t ⟨p,s,f,r⟩=S:=by rw[Pg.insS,e1,if_neg hz]
   rw[e1,e2]
   clear e1 e2 h
   generalize fndC S t p=cc at*
   have hcb:(cc !=0)=true:=by simp[hz]
   clear hz hc
   go_enter Tryz.func134,Tryz.ntmps134
   go_wp2_with fail
   rw[<-hW1]
   clear hW1
   refine(HC _).mono ?_
   rintro en w2 ⟨rfl,hb2⟩
   have y0:=cell_later hb2 x0
   have HB2:Hid (Below w.heap.size w w2):=zT HB1.out hb2
   clear hb2
   go_wp2_with fail
   refine(HW _ HB2.out).mono ?_
   rintro en w3 ⟨k,rfl,_,hb3⟩
   have HB3:Hid (Below w.heap.size w w3):=zT HB2.out hb3
   clear hb3
   go_wp2_with fail
   go_ret
   exact⟨rfl,fin0.out _ HB3.out⟩
 ·have e1:Pg.insC S t ⟨p,s,f,r⟩=Pg.Mp.code ⟨p,s,f,r⟩:=by rw[Pg.insC,if_pos hc]
  have e2:Pg.insS S t ⟨p,s,f,r⟩=S:=by rw[Pg.insS,e1,if_neg hc]
  rw[e1,e2]
  clear e1 e2 h HW
  generalize Pg.Mp.code ⟨p,s,f,r⟩=cc at*
  have hcb:(cc !=0)=true:=by simp[hc]
  clear hc
  go_enter Tryz.func134,Tryz.ntmps134
  go_wp2_with fail
  rw[<-hW1]
  clear hW1
  refine(HC _).mono ?_
  rintro en w2 ⟨rfl,hb2⟩
  have HB2:Hid (Below w.heap.size w w2):=zT HB1.out hb2
  clear hb2
  go_wp2_with fail
  go_ret
  exact⟨rfl,fin0.out _ HB2.out⟩
end Go.Proofs.YtkhnelgommaioaaGreat
