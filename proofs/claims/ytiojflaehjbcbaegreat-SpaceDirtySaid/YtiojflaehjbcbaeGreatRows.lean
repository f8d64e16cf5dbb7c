/-
  No cell of these rows narrows 'for every input' (looked for: loops, veiled, ifaces, maps, wideKeys, modest, calm, conditions, laid).
  DERIVED. THE GIVEN ROWS OF THIS SEAT. 3 by the template 'for every input the law returns true; each argument reads behind the call as it read before'; 0 by the template 'total and deterministic' (their statements: YtiojflaehjbcbaeGreatTotals.lean).
  GIVEN WITH THE SEED: the statements are not yours to turn. If you find one false, say at which input.
  Laid BY PROGRAM, IN A SANDBOX (cutbox-rows.mjs): the forced cells as the released guide's own fill.sh prints them over the translation fc1f976d105be27e… (all of the seat's roots in one cut). By AI agents, Wed Nov 11 2026. No macro, syntax, notation, axiom, sorry.
-/
import Derived.Test.YtiojflaehjbcbaeGreatChecked
import GoSem.Claim
import GoSem.ClaimJoined
import GoSem.ClaimMapViews
import Derived.JoinedTies
import Derived.KernelRfl
namespace Go.Proofs.YtiojflaehjbcbaeGreat
/- THE CELL 'sum', in the pinned program and in every row, IS THE sha256 OF THE DUMP (.gsa) THAT YtiojflaehjbcbaeGreatProg.lean LOADS. Nothing in Lean hashes anything: it is a label: what it is worth is what the hold of that sum in a sandbox is worth. -/
noncomputable def Tryz.pinned : Pinned := { name := "ytiojflaehjbcbaegreat", sum := "fc1f976d105be27e6961bd3b4ee4b48d57b5f9772419c5e18915e0e341f0c2f4", checked := Tryz.checked }
namespace Rows
def none {H : Type} : Left H := { results := [], args := [] }

/-- 'wayleavelaw.SpaceDoes': WHATEVER THE INPUT: true; the input reads as it did. -/
def spaceDoesSpec : ChangeSpec := { name := "spaceDoes", fn := fun _ => fun
  | [d1, d2, d3] => { results := [.lit (.bool true)], args := [d1, d2, d3] }
  | _ => none }
def spaceDoesRow : OpenClaim := { program := "ytiojflaehjbcbaegreat", sum := "fc1f976d105be27e6961bd3b4ee4b48d57b5f9772419c5e18915e0e341f0c2f4", func := "wayleave/wayleavelaw.SpaceDoes", spec := "spaceDoes", unfollowed := true, recurses := true, apart := false }
def SpaceDoesSaid : Prop := spaceDoesRow.holds Tryz.pinned (OpenSpec.ofChange spaceDoesSpec)

/-- ITS FALSE NEIGHBOUR: 'it returns false'. Refute it at one input. -/
def spaceDoesWrong : ChangeSpec := { name := "spaceDoes", fn := fun _ => fun
  | [d1, d2, d3] => { results := [.lit (.bool false)], args := [d1, d2, d3] }
  | _ => none }
def SpaceDoesWrongFalsely : Prop := spaceDoesRow.holds Tryz.pinned (OpenSpec.ofChange spaceDoesWrong)

/-- 'wayleavelaw.SpaceSafe': WHATEVER THE INPUT: true; the input reads as it did. -/
def spaceSafeSpec : ChangeSpec := { name := "spaceSafe", fn := fun _ => fun
  | [d1, d2, d3] => { results := [.lit (.bool true)], args := [d1, d2, d3] }
  | _ => none }
def spaceSafeRow : OpenClaim := { program := "ytiojflaehjbcbaegreat", sum := "fc1f976d105be27e6961bd3b4ee4b48d57b5f9772419c5e18915e0e341f0c2f4", func := "wayleave/wayleavelaw.SpaceSafe", spec := "spaceSafe", unfollowed := true, recurses := true, apart := false }
def SpaceSafeSaid : Prop := spaceSafeRow.holds Tryz.pinned (OpenSpec.ofChange spaceSafeSpec)

/-- ITS FALSE NEIGHBOUR: 'it returns false'. Refute it at one input. -/
def spaceSafeWrong : ChangeSpec := { name := "spaceSafe", fn := fun _ => fun
  | [d1, d2, d3] => { results := [.lit (.bool false)], args := [d1, d2, d3] }
  | _ => none }
def SpaceSafeWrongFalsely : Prop := spaceSafeRow.holds Tryz.pinned (OpenSpec.ofChange spaceSafeWrong)

/-- 'wayleavelaw.SpaceDirty': WHATEVER THE INPUT: true; the input reads as it did. -/
def spaceDirtySpec : ChangeSpec := { name := "spaceDirty", fn := fun _ => fun
  | [d1, d2, d3] => { results := [.lit (.bool true)], args := [d1, d2, d3] }
  | _ => none }
def spaceDirtyRow : OpenClaim := { program := "ytiojflaehjbcbaegreat", sum := "fc1f976d105be27e6961bd3b4ee4b48d57b5f9772419c5e18915e0e341f0c2f4", func := "wayleave/wayleavelaw.SpaceDirty", spec := "spaceDirty", unfollowed := true, recurses := true, apart := false }
def SpaceDirtySaid : Prop := spaceDirtyRow.holds Tryz.pinned (OpenSpec.ofChange spaceDirtySpec)

/-- ITS FALSE NEIGHBOUR: 'it returns false'. Refute it at one input. -/
def spaceDirtyWrong : ChangeSpec := { name := "spaceDirty", fn := fun _ => fun
  | [d1, d2, d3] => { results := [.lit (.bool false)], args := [d1, d2, d3] }
  | _ => none }
def SpaceDirtyWrongFalsely : Prop := spaceDirtyRow.holds Tryz.pinned (OpenSpec.ofChange spaceDirtyWrong)

/- THE SECOND FORM. 'bulk': how many values and letters a reading holds, each counted each time it is reached (what is shared counts as often as it is met; a slice's spare places count too). A statement '..UptoSaid' is the law's where the arguments, and the package variables that the reading takes, are together of bulk at most 1048576: NARROWER than '..Said'. Prove '..Said' where nothing that the law and all that it calls make is longer than what came in: it says more and counts as full. Else prove '..UptoSaid'. A law counts once. -/
mutual
def uptoBulk {H : Type} : DataW H → Nat
  | .lit (.string bytes) => bytes.length + 1
  | .lit _ => 1
  | .nil => 1
  | .ptr d => uptoBulk d + 1
  | .slice elems spare => uptoBulkAll elems + uptoBulkAll spare + 1
  | .agg parts => uptoBulkAll parts + 1
  | .iface _ d => uptoBulk d + 1
  | .map entries => uptoBulkEntries entries + 1
  | .held _ => 1
def uptoBulkAll {H : Type} : List (DataW H) → Nat
  | [] => 0
  | d :: r => uptoBulk d + uptoBulkAll r
def uptoBulkEntries {H : Type} : List (Lit × DataW H) → Nat
  | [] => 0
  | x :: r => uptoBulkEntry x + uptoBulkEntries r
def uptoBulkEntry {H : Type} : Lit × DataW H → Nat
  | (.string bytes, d) => bytes.length + uptoBulk d + 1
  | (_, d) => uptoBulk d + 1
 end
def uptoSmall : (H : Type) → List (DataW H) → Bool := fun _ ds => decide (uptoBulkAll ds ≤ 1048576)
def OpenSpec.upto (s : _root_.Go.ChangeSpec) : _root_.Go.OpenSpec := { _root_.Go.OpenSpec.ofChange s with cond := some uptoSmall }

/-- 'wayleavelaw.SpaceDoes', WHERE WHAT IT READS IS OF BULK AT MOST 1048576: true; the input reads as it did. -/
def spaceDoesUptoRow : OpenClaim := { program := "ytiojflaehjbcbaegreat", sum := "fc1f976d105be27e6961bd3b4ee4b48d57b5f9772419c5e18915e0e341f0c2f4", func := "wayleave/wayleavelaw.SpaceDoes", spec := "spaceDoes", unfollowed := true, recurses := true, apart := false, narrowed := true }
def SpaceDoesUptoSaid : Prop := spaceDoesUptoRow.holds Tryz.pinned (OpenSpec.upto spaceDoesSpec)

/-- 'wayleavelaw.SpaceSafe', WHERE WHAT IT READS IS OF BULK AT MOST 1048576: true; the input reads as it did. -/
def spaceSafeUptoRow : OpenClaim := { program := "ytiojflaehjbcbaegreat", sum := "fc1f976d105be27e6961bd3b4ee4b48d57b5f9772419c5e18915e0e341f0c2f4", func := "wayleave/wayleavelaw.SpaceSafe", spec := "spaceSafe", unfollowed := true, recurses := true, apart := false, narrowed := true }
def SpaceSafeUptoSaid : Prop := spaceSafeUptoRow.holds Tryz.pinned (OpenSpec.upto spaceSafeSpec)

/-- 'wayleavelaw.SpaceDirty', WHERE WHAT IT READS IS OF BULK AT MOST 1048576: true; the input reads as it did. -/
def spaceDirtyUptoRow : OpenClaim := { program := "ytiojflaehjbcbaegreat", sum := "fc1f976d105be27e6961bd3b4ee4b48d57b5f9772419c5e18915e0e341f0c2f4", func := "wayleave/wayleavelaw.SpaceDirty", spec := "spaceDirty", unfollowed := true, recurses := true, apart := false, narrowed := true }
def SpaceDirtyUptoSaid : Prop := spaceDirtyUptoRow.holds Tryz.pinned (OpenSpec.upto spaceDirtySpec)

end Rows
end Go.Proofs.YtiojflaehjbcbaeGreat
