import Derived.Test.YtkhnelgommaioaaGreatPlainSH
import Derived.Test.YtkhnelgommaioaaGreatSpVal
import Derived.Deep.DeepCutAuto
import Derived.Deep.RegionHeld3
import Derived.Test.YtkhnelgommaioaaGreatMapInfo
import Derived.Test.YtkhnelgommaioaaGreatLineRow
import Derived.Test.YtkhnelgommaioaaGreatDvK
namespace Go.Proofs.YtkhnelgommaioaaGreat
open Go.RowKit Go.Sort
set_option linter.unusedVariables false
set_option linter.unusedSimpArgs false
set_option maxRecDepth 100000
structure SpFace (P:World->Nat->Pg.Spc->(Nat->Prop)->Prop):Prop where
 lt:∀{w b X F k},P w b X F->F k->k<w.heap.size
 keep:∀{w w':World} {b X F} {G:Nat->Prop},P w b X F->But G w w'->(∀k,F k->¬G k)->P w' b X F
 bad:∀(co n:Int) (w:World),co<1\/4<co\/n<1\/128<n->
  Calls Tryz.prog 10 #[.int .i64 co,.int .i64 n] w fun e w'=>e= .returned (.tuple #[.pointer none,.agg #[.int .i64 1,.int .i64 (-1)]])/\Below w.heap.size w w'
 new:∀(co n:Nat) (w:World),1<=co->co<=4->1<=n->n<=128->
  Calls Tryz.prog 10 #[.int .i64 (co:Int),.int .i64 (n:Int)] w fun e w'=>∃b F,e= .returned (.tuple #[.pointer (some ⟨b,0,none⟩),.agg #[.int .i64 0,.int .i64 0]])/\P w' b (Pg.Spc.new co n) F/\Below w.heap.size w w'/\∀k,F k->w.heap.size<=k
 step:∀(x:Pg.Sx) (w:World) {b X F L L0},SxFits x->Pg.Inv X L L0->P w b X F->
  Calls Tryz.prog 13 #[.pointer (some ⟨b,0,none⟩),x.val] w fun e w'=>e= .returned (X.goE x).val/\∃F',P w' b (X.goN x) F'/\But F w w'/\∀k,F' k->F k\/w.heap.size<=k
 list:∀(w:World) {b X F L L0},Pg.Inv X L L0->P w b X F->
  Calls Tryz.prog 18 #[.pointer (some ⟨b,0,none⟩)] w fun e w'=>∃ad cap,e= .returned (.slice ad X.maps.length cap)/\MapsAt w' ad X.maps/\Below w.heap.size w w'/\∀g,ad=some ⟨g,0,none⟩->w.heap.size<=g
 tables:∀(w:World) {b X F L L0},Pg.Inv X L L0->P w b X F->
  Calls Tryz.prog 20 #[.pointer (some ⟨b,0,none⟩)] w fun e w'=>∃ad cap,e= .returned (.slice ad X.tabs.length cap)/\IntsAt w' ad X.tabs/\X.tabs.length<=cap/\Below w.heap.size w w'
 free:∀(w:World) {b X F},P w b X F->Calls Tryz.prog 22 #[.pointer (some ⟨b,0,none⟩)] w fun e w'=>e= .returned (.int .i64 X.S.free)/\Below w.heap.size w w'
 busy:∀(w:World) {b X F},P w b X F->Calls Tryz.prog 21 #[.pointer (some ⟨b,0,none⟩)] w fun e w'=>e= .returned (.bool X.busy)/\Below w.heap.size w w'
 gone:∀(w:World) {b X F},P w b X F->Calls Tryz.prog 24 #[.pointer (some ⟨b,0,none⟩)] w fun e w'=>e= .returned (.int .i64 X.G.length)/\Below w.heap.size w w'
section
variable {P:World->Nat->Pg.Spc->(Nat->Prop)->Prop}
theorem SpFace.grow (H:SpFace P) {w w':World} {b X F} (h:P w b X F) (hb:Below w.heap.size w w'):P w' b X F:=H.keep (G:=fun _=>False) h (But.of_below hb) (fun _ _=>id)
end
theorem devFace:SpFace DvAt where
 lt:=fun h hk=>h.lt hk
 keep:=fun h hb hF=>h.keep hb hF
 bad:=fun co n w hb=>dvNew_bad co n w hb
 new:=fun co n w h1 h2 h3 h4=>dvNew_any co n w h1 h2 h3 h4
 step:=fun x w _ _ _ _ _ _ _ h=>dvDo_any x w h
 list:=fun w _ _ _ _ _ _ h=>by
  obtain⟨D,h,rfl⟩:=h
  exact dvList_any w h
 tables:=fun w _ _ _ _ _ _ h=>by
  obtain⟨D,h,rfl⟩:=h
  exact dvTables_any w h
 free:=fun w _ _ _ h=>by
  obtain⟨D,h,rfl⟩:=h
  exact dvFree_any w h
 busy:=fun w _ _ _ h=>by
  obtain⟨D,h,rfl⟩:=h
  refine(dvBusy_any w h).mono ?_
  rintro e w' ⟨rfl,rfl⟩
  exact⟨rfl,zR _⟩
 gone:=fun w _ _ _ h=>by
  obtain⟨D,h,rfl⟩:=h
  refine(dvGone_any w h).mono ?_
  rintro e w' ⟨rfl,rfl⟩
  exact⟨rfl,zR _⟩
end Go.Proofs.YtkhnelgommaioaaGreat
