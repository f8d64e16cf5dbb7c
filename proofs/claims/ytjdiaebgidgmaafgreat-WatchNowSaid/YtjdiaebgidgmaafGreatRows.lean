/-
  No cell of these rows narrows 'for every input' (looked for: loops, veiled, ifaces, maps, wideKeys, modest, calm, conditions, laid).
  DERIVED. THE GIVEN ROWS OF THIS SEAT. 6 by the template 'for every input the law returns true; each argument reads behind the call as it read before'; 0 by the template 'total and deterministic' (their statements: YtjdiaebgidgmaafGreatTotals.lean).
  GIVEN WITH THE SEED: the statements are not yours to turn. If you find one false, say at which input.
  Laid BY PROGRAM, IN A SANDBOX (cutbox-rows.mjs): the forced cells as the released guide's own fill.sh prints them over the translation a0d6600ad6c65ee1… (all of the seat's roots in one cut). By AI agents, Wed Nov 11 2026. No macro, syntax, notation, axiom, sorry.
-/
import Derived.Test.YtjdiaebgidgmaafGreatChecked
import GoSem.Claim
import GoSem.ClaimJoined
import GoSem.ClaimMapViews
import Derived.JoinedTies
import Derived.KernelRfl
namespace Go.Proofs.YtjdiaebgidgmaafGreat
/- THE CELL 'sum', in the pinned program and in every row, IS THE sha256 OF THE DUMP (.gsa) THAT YtjdiaebgidgmaafGreatProg.lean LOADS. Nothing in Lean hashes anything: it is a label: what it is worth is what the hold of that sum in a sandbox is worth. -/
noncomputable def Tryz.pinned : Pinned := { name := "ytjdiaebgidgmaafgreat", sum := "a0d6600ad6c65ee1974c548b89efd57c7f3acc04e873f571c70b2f6fdc68a36c", checked := Tryz.checked }
namespace Rows
def none {H : Type} : Left H := { results := [], args := [] }

/-- 'wayleavelaw.SpaceAlone': WHATEVER THE INPUT: true; the input reads as it did. -/
def spaceAloneSpec : ChangeSpec := { name := "spaceAlone", fn := fun _ => fun
  | [d1, d2] => { results := [.lit (.bool true)], args := [d1, d2] }
  | _ => none }
def spaceAloneRow : OpenClaim := { program := "ytjdiaebgidgmaafgreat", sum := "a0d6600ad6c65ee1974c548b89efd57c7f3acc04e873f571c70b2f6fdc68a36c", func := "wayleave/wayleavelaw.SpaceAlone", spec := "spaceAlone", unfollowed := true, recurses := true, plainKeys := false, apart := false }
def SpaceAloneSaid : Prop := spaceAloneRow.holds Tryz.pinned (OpenSpec.ofChange spaceAloneSpec)

/-- ITS FALSE NEIGHBOUR: 'it returns false'. Refute it at one input. -/
def spaceAloneWrong : ChangeSpec := { name := "spaceAlone", fn := fun _ => fun
  | [d1, d2] => { results := [.lit (.bool false)], args := [d1, d2] }
  | _ => none }
def SpaceAloneWrongFalsely : Prop := spaceAloneRow.holds Tryz.pinned (OpenSpec.ofChange spaceAloneWrong)

/-- 'wayleavelaw.SpaceEmpties': WHATEVER THE INPUT: true; the input reads as it did. -/
def spaceEmptiesSpec : ChangeSpec := { name := "spaceEmpties", fn := fun _ => fun
  | [d1, d2, d3] => { results := [.lit (.bool true)], args := [d1, d2, d3] }
  | _ => none }
def spaceEmptiesRow : OpenClaim := { program := "ytjdiaebgidgmaafgreat", sum := "a0d6600ad6c65ee1974c548b89efd57c7f3acc04e873f571c70b2f6fdc68a36c", func := "wayleave/wayleavelaw.SpaceEmpties", spec := "spaceEmpties", unfollowed := true, recurses := true, plainKeys := false, apart := false }
def SpaceEmptiesSaid : Prop := spaceEmptiesRow.holds Tryz.pinned (OpenSpec.ofChange spaceEmptiesSpec)

/-- ITS FALSE NEIGHBOUR: 'it returns false'. Refute it at one input. -/
def spaceEmptiesWrong : ChangeSpec := { name := "spaceEmpties", fn := fun _ => fun
  | [d1, d2, d3] => { results := [.lit (.bool false)], args := [d1, d2, d3] }
  | _ => none }
def SpaceEmptiesWrongFalsely : Prop := spaceEmptiesRow.holds Tryz.pinned (OpenSpec.ofChange spaceEmptiesWrong)

/-- 'wayleavelaw.WatchDoes': WHATEVER THE INPUT: true; the input reads as it did. -/
def watchDoesSpec : ChangeSpec := { name := "watchDoes", fn := fun _ => fun
  | [d1, d2, d3] => { results := [.lit (.bool true)], args := [d1, d2, d3] }
  | _ => none }
def watchDoesRow : OpenClaim := { program := "ytjdiaebgidgmaafgreat", sum := "a0d6600ad6c65ee1974c548b89efd57c7f3acc04e873f571c70b2f6fdc68a36c", func := "wayleave/wayleavelaw.WatchDoes", spec := "watchDoes", inPlace := ["slices.overlaps[wayleave/api.Map]"], unfollowed := true, recurses := true, plainKeys := false, apart := false }
def WatchDoesSaid : Prop := watchDoesRow.holds Tryz.pinned (OpenSpec.ofChange watchDoesSpec)

/-- ITS FALSE NEIGHBOUR: 'it returns false'. Refute it at one input. -/
def watchDoesWrong : ChangeSpec := { name := "watchDoes", fn := fun _ => fun
  | [d1, d2, d3] => { results := [.lit (.bool false)], args := [d1, d2, d3] }
  | _ => none }
def WatchDoesWrongFalsely : Prop := watchDoesRow.holds Tryz.pinned (OpenSpec.ofChange watchDoesWrong)

/-- 'wayleavelaw.WatchTimes': WHATEVER THE INPUT: true; the input reads as it did. -/
def watchTimesSpec : ChangeSpec := { name := "watchTimes", fn := fun _ => fun
  | [d1, d2, d3] => { results := [.lit (.bool true)], args := [d1, d2, d3] }
  | _ => none }
def watchTimesRow : OpenClaim := { program := "ytjdiaebgidgmaafgreat", sum := "a0d6600ad6c65ee1974c548b89efd57c7f3acc04e873f571c70b2f6fdc68a36c", func := "wayleave/wayleavelaw.WatchTimes", spec := "watchTimes", inPlace := ["slices.overlaps[wayleave/api.Map]"], unfollowed := true, recurses := true, plainKeys := false, apart := false }
def WatchTimesSaid : Prop := watchTimesRow.holds Tryz.pinned (OpenSpec.ofChange watchTimesSpec)

/-- ITS FALSE NEIGHBOUR: 'it returns false'. Refute it at one input. -/
def watchTimesWrong : ChangeSpec := { name := "watchTimes", fn := fun _ => fun
  | [d1, d2, d3] => { results := [.lit (.bool false)], args := [d1, d2, d3] }
  | _ => none }
def WatchTimesWrongFalsely : Prop := watchTimesRow.holds Tryz.pinned (OpenSpec.ofChange watchTimesWrong)

/-- 'wayleavelaw.WatchNow': WHATEVER THE INPUT: true; the input reads as it did. -/
def watchNowSpec : ChangeSpec := { name := "watchNow", fn := fun _ => fun
  | [d1, d2, d3] => { results := [.lit (.bool true)], args := [d1, d2, d3] }
  | _ => none }
def watchNowRow : OpenClaim := { program := "ytjdiaebgidgmaafgreat", sum := "a0d6600ad6c65ee1974c548b89efd57c7f3acc04e873f571c70b2f6fdc68a36c", func := "wayleave/wayleavelaw.WatchNow", spec := "watchNow", inPlace := ["slices.overlaps[wayleave/api.Map]"], unfollowed := true, recurses := true, plainKeys := false, apart := false }
def WatchNowSaid : Prop := watchNowRow.holds Tryz.pinned (OpenSpec.ofChange watchNowSpec)

/-- ITS FALSE NEIGHBOUR: 'it returns false'. Refute it at one input. -/
def watchNowWrong : ChangeSpec := { name := "watchNow", fn := fun _ => fun
  | [d1, d2, d3] => { results := [.lit (.bool false)], args := [d1, d2, d3] }
  | _ => none }
def WatchNowWrongFalsely : Prop := watchNowRow.holds Tryz.pinned (OpenSpec.ofChange watchNowWrong)

/-- 'wayleavelaw.WatchSame': WHATEVER THE INPUT: true; the input reads as it did. -/
def watchSameSpec : ChangeSpec := { name := "watchSame", fn := fun _ => fun
  | [d1, d2, d3] => { results := [.lit (.bool true)], args := [d1, d2, d3] }
  | _ => none }
def watchSameRow : OpenClaim := { program := "ytjdiaebgidgmaafgreat", sum := "a0d6600ad6c65ee1974c548b89efd57c7f3acc04e873f571c70b2f6fdc68a36c", func := "wayleave/wayleavelaw.WatchSame", spec := "watchSame", inPlace := ["slices.overlaps[wayleave/api.Map]"], unfollowed := true, recurses := true, plainKeys := false, apart := false }
def WatchSameSaid : Prop := watchSameRow.holds Tryz.pinned (OpenSpec.ofChange watchSameSpec)

/-- ITS FALSE NEIGHBOUR: 'it returns false'. Refute it at one input. -/
def watchSameWrong : ChangeSpec := { name := "watchSame", fn := fun _ => fun
  | [d1, d2, d3] => { results := [.lit (.bool false)], args := [d1, d2, d3] }
  | _ => none }
def WatchSameWrongFalsely : Prop := watchSameRow.holds Tryz.pinned (OpenSpec.ofChange watchSameWrong)

/- THE SECOND FORM. 'bulk': how many values and letters a reading holds, each counted each time it is reached (what is shared counts as often as it is met; a slice's spare places count too). A statement '..UptoSaid' is the law's where the arguments, and the package variables that the reading takes, are together of bulk at most 1048576: NARROWER than '..Said'. Prove '..Said' where nothing that the law and all that it calls make is longer than what came in: it says more and counts as full. Else prove '..UptoSaid'. A law counts once. -/
mutual
def uptoBulk {H : Type} : DataW H → Nat
  | .lit (.string bytes) => bytes.length + 1
  | .lit _ => 1
  | .nil => 1
  | .ptr d => uptoBulk d + 1
  | .slice elems spare => uptoBulkAll elems + uptoBulkAll spare + 1
  | .agg parts => uptoBulkAll parts + 1
  | .iface _ d => uptoBulk d + 1
  | .map entries => uptoBulkEntries entries + 1
  | .held _ => 1
def uptoBulkAll {H : Type} : List (DataW H) → Nat
  | [] => 0
  | d :: r => uptoBulk d + uptoBulkAll r
def uptoBulkEntries {H : Type} : List (Lit × DataW H) → Nat
  | [] => 0
  | x :: r => uptoBulkEntry x + uptoBulkEntries r
def uptoBulkEntry {H : Type} : Lit × DataW H → Nat
  | (.string bytes, d) => bytes.length + uptoBulk d + 1
  | (_, d) => uptoBulk d + 1
 end
def uptoSmall : (H : Type) → List (DataW H) → Bool := fun _ ds => decide (uptoBulkAll ds ≤ 1048576)
def OpenSpec.upto (s : _root_.Go.ChangeSpec) : _root_.Go.OpenSpec := { _root_.Go.OpenSpec.ofChange s with cond := some uptoSmall }

/-- 'wayleavelaw.SpaceAlone', WHERE WHAT IT READS IS OF BULK AT MOST 1048576: true; the input reads as it did. -/
def spaceAloneUptoRow : OpenClaim := { program := "ytjdiaebgidgmaafgreat", sum := "a0d6600ad6c65ee1974c548b89efd57c7f3acc04e873f571c70b2f6fdc68a36c", func := "wayleave/wayleavelaw.SpaceAlone", spec := "spaceAlone", unfollowed := true, recurses := true, plainKeys := false, apart := false, narrowed := true }
def SpaceAloneUptoSaid : Prop := spaceAloneUptoRow.holds Tryz.pinned (OpenSpec.upto spaceAloneSpec)

/-- 'wayleavelaw.SpaceEmpties', WHERE WHAT IT READS IS OF BULK AT MOST 1048576: true; the input reads as it did. -/
def spaceEmptiesUptoRow : OpenClaim := { program := "ytjdiaebgidgmaafgreat", sum := "a0d6600ad6c65ee1974c548b89efd57c7f3acc04e873f571c70b2f6fdc68a36c", func := "wayleave/wayleavelaw.SpaceEmpties", spec := "spaceEmpties", unfollowed := true, recurses := true, plainKeys := false, apart := false, narrowed := true }
def SpaceEmptiesUptoSaid : Prop := spaceEmptiesUptoRow.holds Tryz.pinned (OpenSpec.upto spaceEmptiesSpec)

/-- 'wayleavelaw.WatchDoes', WHERE WHAT IT READS IS OF BULK AT MOST 1048576: true; the input reads as it did. -/
def watchDoesUptoRow : OpenClaim := { program := "ytjdiaebgidgmaafgreat", sum := "a0d6600ad6c65ee1974c548b89efd57c7f3acc04e873f571c70b2f6fdc68a36c", func := "wayleave/wayleavelaw.WatchDoes", spec := "watchDoes", inPlace := ["slices.overlaps[wayleave/api.Map]"], unfollowed := true, recurses := true, plainKeys := false, apart := false, narrowed := true }
def WatchDoesUptoSaid : Prop := watchDoesUptoRow.holds Tryz.pinned (OpenSpec.upto watchDoesSpec)

/-- 'wayleavelaw.WatchTimes', WHERE WHAT IT READS IS OF BULK AT MOST 1048576: true; the input reads as it did. -/
def watchTimesUptoRow : OpenClaim := { program := "ytjdiaebgidgmaafgreat", sum := "a0d6600ad6c65ee1974c548b89efd57c7f3acc04e873f571c70b2f6fdc68a36c", func := "wayleave/wayleavelaw.WatchTimes", spec := "watchTimes", inPlace := ["slices.overlaps[wayleave/api.Map]"], unfollowed := true, recurses := true, plainKeys := false, apart := false, narrowed := true }
def WatchTimesUptoSaid : Prop := watchTimesUptoRow.holds Tryz.pinned (OpenSpec.upto watchTimesSpec)

/-- 'wayleavelaw.WatchNow', WHERE WHAT IT READS IS OF BULK AT MOST 1048576: true; the input reads as it did. -/
def watchNowUptoRow : OpenClaim := { program := "ytjdiaebgidgmaafgreat", sum := "a0d6600ad6c65ee1974c548b89efd57c7f3acc04e873f571c70b2f6fdc68a36c", func := "wayleave/wayleavelaw.WatchNow", spec := "watchNow", inPlace := ["slices.overlaps[wayleave/api.Map]"], unfollowed := true, recurses := true, plainKeys := false, apart := false, narrowed := true }
def WatchNowUptoSaid : Prop := watchNowUptoRow.holds Tryz.pinned (OpenSpec.upto watchNowSpec)

/-- 'wayleavelaw.WatchSame', WHERE WHAT IT READS IS OF BULK AT MOST 1048576: true; the input reads as it did. -/
def watchSameUptoRow : OpenClaim := { program := "ytjdiaebgidgmaafgreat", sum := "a0d6600ad6c65ee1974c548b89efd57c7f3acc04e873f571c70b2f6fdc68a36c", func := "wayleave/wayleavelaw.WatchSame", spec := "watchSame", inPlace := ["slices.overlaps[wayleave/api.Map]"], unfollowed := true, recurses := true, plainKeys := false, apart := false, narrowed := true }
def WatchSameUptoSaid : Prop := watchSameUptoRow.holds Tryz.pinned (OpenSpec.upto watchSameSpec)

end Rows
end Go.Proofs.YtjdiaebgidgmaafGreat
