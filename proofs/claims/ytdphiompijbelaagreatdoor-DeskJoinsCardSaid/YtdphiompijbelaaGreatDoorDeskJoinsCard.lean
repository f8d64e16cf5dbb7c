
/-
  DeskJoins: the law answers true for every list of lines and every place to cut it: what lines tell one behind the other they tell together, what was asked again is told again, two desks know nothing of each other (the law asks this of lists of at most api.MaxLines lines and 20000 bytes). Conditions: the row's own, with the package variables that it lists laid as the program's text lays them (the tied card).
-/
import Derived.Test.YtdphiompijbelaaGreatDoorDeskLaid
import Derived.Test.YtdphiompijbelaaGreatDoorDeskJoinsB
import Derived.Test.YtdphiompijbelaaGreatDoorCards
import Derived.Test.YtdphiompijbelaaGreatDoorTie
import Derived.Lay
import Derived.SevenTiedAt
set_option linter.all false
open Go.Proofs.Tryz renaming prog->I
namespace Go.Proofs.YtdphiompijbelaaGreatDoor
open Go.ChangeShapes Go.WideShapes Go.ChangeAt Go.RowKit Go.Joins
set_option maxRecDepth 100000 in
theorem deskJoins_lifted (os:Os) (started:os.Started) (H:Type) (enc:TypeId×Value->H):
 ReturnsInHanded {} Tryz.checked os 4 .any (fun w args=>(Rows.deskJoinsSpec.pre enc I Tryz.f4 [] false w args/\laidMetH I laidAll w)/\sizedMet enc I Tryz.f4 (OpenSpec.ofChange Rows.deskJoinsSpec) false w args)
  (Rows.deskJoinsSpec.post enc I Tryz.f4 false true false false):=by
 refine returnsInHanded_of_change_and (C:=Tryz.checked) (X:=fun w _=>laidMetH I laidAll w) (fun _ _ _ hh h=>h.of_heap hh) own started (by kernel_rfl) Tryz.func4
  (ChangeSpec.witness_shaped (enc:=enc) (C:=Tryz.checked) (os:=os) (X:=fun w _=>laidMetH I laidAll w) false (World.laidAll I os laidAll) #[.slice none 0 0,.int .i64 0] 8 (World.laidAll_os _ _ _)
    (World.shaped_of_ZipB (by kernel_rfl) (by kernel_rfl)) (by kernel_rfl) (by kernel_rfl) (by kernel_rfl)
    (by rw[MakeChecks.laidMetH_plain _ _ _ (by kernel_rfl)];exact laidMet_laidAll _ (by kernel_rfl) (by kernel_rfl))) ?_
 intro W base args ds gs before hval0 hW _ hsz hL _;have hval:∀(j:Nat) t v,Tryz.f4.params[j]?=some t->args[j]?=some v->Value.okWide I W .any base t v:=hval0;have hW':=hW;obtain⟨p,q,hA0,hV,rfl,hfz,hnd⟩:=hW;have hA:DataW.TrodAll enc I W 0 (fun _=>true) true Tryz.f4.params.toList args.toList ds p:=hA0;rw[Tryz.params4]at hA hval hsz;obtain⟨v0,vs0,d0,ds0,p0,q0,hargs,rfl,rfl,h0,r0⟩:=trodAll_cons hA;obtain⟨v1,vs1,d1,ds1,p1,q1,rfl,rfl,rfl,h1,r1⟩:=trodAll_cons r0;obtain⟨rfl,rfl,rfl⟩:=trodAll_nil r1
 obtain rfl:args=#[v0,v1]:=by cases args;simp_all
 obtain⟨rfl,rfl⟩:=trodVars_none hV
 have hz:∀n ∈ d0.weights I 22,n<=reachBytes:=fun n hn=>by
  have:=DataW.weights_mem_each (P:=I) (ts:=[22,3]++Rows.deskJoinsSpec.plain.varTypes I) (ds:=[d0,d1]++[]) (j:=0) rfl rfl n hn;exact of_decide_eq_true (List.all_eq_true.1 hsz n this)
 obtain⟨ad,len,cap,qs,rfl,f1,f2,f3⟩:=yeY (hval 0 22 v0 rfl rfl) h0 hz;obtain⟨x,rfl,_⟩:=yfD (hval 1 3 v1 rfl rfl) h1;clear hA0 hval0 hsz;refine(deskJoins_walk W (ybo hL) ad len cap qs f1 f2 f3 x).mono fun e W' ⟨he,bel⟩=> ?_;subst he;exact⟨_,rfl,_,_,_,[],_,[],hW',trodAll_mk1 (shut_bool Tryz.underlying4 _),(trodAll_cons_mk (yf8 (by kernel_rfl) (of_decide_eq_true (by kernel_rfl)) h0 bel) (trodAll_cons_mk (yf8 (by kernel_rfl) (of_decide_eq_true (by kernel_rfl)) h1 bel) trodAll_mk0)),rfl,bel.frame _,fun h=>by cases h⟩
theorem deskJoins_over:Rows.DeskJoinsSaid:=
 OpenClaim.holds_of_wide 4 Tryz.f4 rfl rfl rfl rfl rfl rfl rfl ⟨rfl,rfl,rfl,rfl,rfl⟩ rfl rfl rfl rfl rfl (by kernel_rfl) Tryz.func4 deskJoins_closed
  (of_decide_eq_true (by kernel_rfl)) (by unfold Func.isWrapper;first|(rw[if_pos (by decide+kernel)];kernel_rfl)|(rw[if_neg (by decide+kernel)];exact⟨rfl,rfl⟩))
  (fun os started H enc _=>deskJoins_lifted os started H enc)
set_option maxHeartbeats 8000000 in
theorem deskJoinsCard_proved:Rows.DeskJoinsCardSaid:=
 Claim7.holds_tied_plain_at .later [] [.data, .data, .data, .data, .sentinel, .sentinel, .pinned] true (true, "55fdf0ecde7b4683b6c2ef235d49e61bd620d165e981ee8d336092ed852e0984") true
  deskJoins_over (fun _ h=>by cases h) (by as_aux_lemma=>kernel_rfl) (fun _ h=>by cases h) deskJoins_row_tie rfl ⟨rfl,rfl⟩ (by as_aux_lemma=>kernel_rfl) rfl
  (fun f fn hf hfn=>by
    obtain rfl : f = 4 := Option.some.inj ((show Tryz.prog.funcNamed "wayleave/wayleavelaw.DeskJoins" = some 4 by kernel_rfl).symm.trans hf) |>.symm;obtain rfl:fn=Tryz.f4:=(Option.some.inj (Tryz.func4.symm.trans hfn)).symm
    exact⟨(by as_aux_lemma=>kernel_rfl),fun j t ht=>by
     rw[Tryz.params4]at ht
     have hm:t ∈ [22,3]:=by simpa using Array.mem_of_getElem? ht
     have hall:([22,3].all fun u=> !Tryz.prog.wantsStandIn u)=true:=by kernel_rfl
     exact(show Tryz.prog.wantsStandIn t=false by simpa using List.all_eq_true.1 hall t hm)⟩)
  (by as_aux_lemma=>kernel_rfl)
#print axioms deskJoinsCard_proved
end Go.Proofs.YtdphiompijbelaaGreatDoor
