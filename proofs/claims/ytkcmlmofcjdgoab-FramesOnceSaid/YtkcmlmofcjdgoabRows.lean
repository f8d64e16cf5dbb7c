/-
  No cell of these rows narrows 'for every input' (looked for: loops, veiled, ifaces, maps, wideKeys, modest, calm, conditions, laid).
  DERIVED. THE GIVEN ROWS OF THIS SEAT. 6 by the template 'for every input the law returns true; each argument reads behind the call as it read before'; 0 by the template 'total and deterministic' (their statements: YtkcmlmofcjdgoabTotals.lean).
  GIVEN WITH THE SEED: the statements are not yours to turn. If you find one false, say at which input.
  Laid BY PROGRAM, IN A SANDBOX (cutbox-rows.mjs): the forced cells as the released guide's own fill.sh prints them over the translation 730657927a7f2d75… (all of the seat's roots in one cut). By AI agents, Wed Nov 11 2026. No macro, syntax, notation, axiom, sorry.
-/
import Derived.Test.YtkcmlmofcjdgoabChecked
import GoSem.Claim
import GoSem.ClaimJoined
import GoSem.ClaimMapViews
import Derived.JoinedTies
import Derived.KernelRfl
namespace Go.Proofs.Ytkcmlmofcjdgoab
/- THE CELL 'sum', in the pinned program and in every row, IS THE sha256 OF THE DUMP (.gsa) THAT YtkcmlmofcjdgoabProg.lean LOADS. Nothing in Lean hashes anything: it is a label: what it is worth is what the hold of that sum in a sandbox is worth. -/
noncomputable def Try.pinned : Pinned := { name := "ytkcmlmofcjdgoab", sum := "730657927a7f2d75e7ce1f1821902be2f747ccfddeab6bd96161bd7d8ed5ccfb", checked := Try.checked }
namespace Rows
def none {H : Type} : Left H := { results := [], args := [] }

/-- 'wayleavelaw.EntryMarks': WHATEVER THE INPUT: true; the input reads as it did. -/
def entryMarksSpec : ChangeSpec := { name := "entryMarks", fn := fun _ => fun
  | [d1, d2, d3, d4, d5] => { results := [.lit (.bool true)], args := [d1, d2, d3, d4, d5] }
  | _ => none }
def entryMarksRow : OpenClaim := { program := "ytkcmlmofcjdgoab", sum := "730657927a7f2d75e7ce1f1821902be2f747ccfddeab6bd96161bd7d8ed5ccfb", func := "wayleave/wayleavelaw.EntryMarks", spec := "entryMarks", unfollowed := true, recurses := true, apart := false }
def EntryMarksSaid : Prop := entryMarksRow.holds Try.pinned (OpenSpec.ofChange entryMarksSpec)

/-- ITS FALSE NEIGHBOUR: 'it returns false'. Refute it at one input. -/
def entryMarksWrong : ChangeSpec := { name := "entryMarks", fn := fun _ => fun
  | [d1, d2, d3, d4, d5] => { results := [.lit (.bool false)], args := [d1, d2, d3, d4, d5] }
  | _ => none }
def EntryMarksWrongFalsely : Prop := entryMarksRow.holds Try.pinned (OpenSpec.ofChange entryMarksWrong)

/-- 'wayleavelaw.FramesDoes': WHATEVER THE INPUT: true; the input reads as it did. -/
def framesDoesSpec : ChangeSpec := { name := "framesDoes", fn := fun _ => fun
  | [d1, d2] => { results := [.lit (.bool true)], args := [d1, d2] }
  | _ => none }
def framesDoesRow : OpenClaim := { program := "ytkcmlmofcjdgoab", sum := "730657927a7f2d75e7ce1f1821902be2f747ccfddeab6bd96161bd7d8ed5ccfb", func := "wayleave/wayleavelaw.FramesDoes", spec := "framesDoes", apart := false }
def FramesDoesSaid : Prop := framesDoesRow.holds Try.pinned (OpenSpec.ofChange framesDoesSpec)

/-- ITS FALSE NEIGHBOUR: 'it returns false'. Refute it at one input. -/
def framesDoesWrong : ChangeSpec := { name := "framesDoes", fn := fun _ => fun
  | [d1, d2] => { results := [.lit (.bool false)], args := [d1, d2] }
  | _ => none }
def FramesDoesWrongFalsely : Prop := framesDoesRow.holds Try.pinned (OpenSpec.ofChange framesDoesWrong)

/-- 'wayleavelaw.FramesOnce': WHATEVER THE INPUT: true; the input reads as it did. -/
def framesOnceSpec : ChangeSpec := { name := "framesOnce", fn := fun _ => fun
  | [d1, d2] => { results := [.lit (.bool true)], args := [d1, d2] }
  | _ => none }
def framesOnceRow : OpenClaim := { program := "ytkcmlmofcjdgoab", sum := "730657927a7f2d75e7ce1f1821902be2f747ccfddeab6bd96161bd7d8ed5ccfb", func := "wayleave/wayleavelaw.FramesOnce", spec := "framesOnce", apart := false }
def FramesOnceSaid : Prop := framesOnceRow.holds Try.pinned (OpenSpec.ofChange framesOnceSpec)

/-- ITS FALSE NEIGHBOUR: 'it returns false'. Refute it at one input. -/
def framesOnceWrong : ChangeSpec := { name := "framesOnce", fn := fun _ => fun
  | [d1, d2] => { results := [.lit (.bool false)], args := [d1, d2] }
  | _ => none }
def FramesOnceWrongFalsely : Prop := framesOnceRow.holds Try.pinned (OpenSpec.ofChange framesOnceWrong)

/-- 'wayleavelaw.BookDoes': WHATEVER THE INPUT: true; the input reads as it did. -/
def bookDoesSpec : ChangeSpec := { name := "bookDoes", fn := fun _ => fun
  | [d] => { results := [.lit (.bool true)], args := [d] }
  | _ => none }
def bookDoesRow : OpenClaim := { program := "ytkcmlmofcjdgoab", sum := "730657927a7f2d75e7ce1f1821902be2f747ccfddeab6bd96161bd7d8ed5ccfb", func := "wayleave/wayleavelaw.BookDoes", spec := "bookDoes", inPlace := ["slices.overlaps[wayleave/api.Map]"], unfollowed := true, recurses := true, apart := false }
def BookDoesSaid : Prop := bookDoesRow.holds Try.pinned (OpenSpec.ofChange bookDoesSpec)

/-- ITS FALSE NEIGHBOUR: 'it returns false'. Refute it at one input. -/
def bookDoesWrong : ChangeSpec := { name := "bookDoes", fn := fun _ => fun
  | [d] => { results := [.lit (.bool false)], args := [d] }
  | _ => none }
def BookDoesWrongFalsely : Prop := bookDoesRow.holds Try.pinned (OpenSpec.ofChange bookDoesWrong)

/-- 'wayleavelaw.BookApart': WHATEVER THE INPUT: true; the input reads as it did. -/
def bookApartSpec : ChangeSpec := { name := "bookApart", fn := fun _ => fun
  | [d1, d2] => { results := [.lit (.bool true)], args := [d1, d2] }
  | _ => none }
def bookApartRow : OpenClaim := { program := "ytkcmlmofcjdgoab", sum := "730657927a7f2d75e7ce1f1821902be2f747ccfddeab6bd96161bd7d8ed5ccfb", func := "wayleave/wayleavelaw.BookApart", spec := "bookApart", inPlace := ["slices.overlaps[wayleave/api.Map]"], unfollowed := true, recurses := true, apart := false }
def BookApartSaid : Prop := bookApartRow.holds Try.pinned (OpenSpec.ofChange bookApartSpec)

/-- ITS FALSE NEIGHBOUR: 'it returns false'. Refute it at one input. -/
def bookApartWrong : ChangeSpec := { name := "bookApart", fn := fun _ => fun
  | [d1, d2] => { results := [.lit (.bool false)], args := [d1, d2] }
  | _ => none }
def BookApartWrongFalsely : Prop := bookApartRow.holds Try.pinned (OpenSpec.ofChange bookApartWrong)

/-- 'wayleavelaw.BookTurns': WHATEVER THE INPUT: true; the input reads as it did. -/
def bookTurnsSpec : ChangeSpec := { name := "bookTurns", fn := fun _ => fun
  | [d1, d2] => { results := [.lit (.bool true)], args := [d1, d2] }
  | _ => none }
def bookTurnsRow : OpenClaim := { program := "ytkcmlmofcjdgoab", sum := "730657927a7f2d75e7ce1f1821902be2f747ccfddeab6bd96161bd7d8ed5ccfb", func := "wayleave/wayleavelaw.BookTurns", spec := "bookTurns", inPlace := ["slices.overlaps[wayleave/api.Map]"], unfollowed := true, recurses := true, apart := false }
def BookTurnsSaid : Prop := bookTurnsRow.holds Try.pinned (OpenSpec.ofChange bookTurnsSpec)

/-- ITS FALSE NEIGHBOUR: 'it returns false'. Refute it at one input. -/
def bookTurnsWrong : ChangeSpec := { name := "bookTurns", fn := fun _ => fun
  | [d1, d2] => { results := [.lit (.bool false)], args := [d1, d2] }
  | _ => none }
def BookTurnsWrongFalsely : Prop := bookTurnsRow.holds Try.pinned (OpenSpec.ofChange bookTurnsWrong)

/- THE SECOND FORM. 'bulk': how many values and letters a reading holds, each counted each time it is reached (what is shared counts as often as it is met; a slice's spare places count too). A statement '..UptoSaid' is the law's where the arguments, and the package variables that the reading takes, are together of bulk at most 1048576: NARROWER than '..Said'. Prove '..Said' where nothing that the law and all that it calls make is longer than what came in: it says more and counts as full. Else prove '..UptoSaid'. A law counts once. -/
mutual
def uptoBulk {H : Type} : DataW H → Nat
  | .lit (.string bytes) => bytes.length + 1
  | .lit _ => 1
  | .nil => 1
  | .ptr d => uptoBulk d + 1
  | .slice elems spare => uptoBulkAll elems + uptoBulkAll spare + 1
  | .agg parts => uptoBulkAll parts + 1
  | .iface _ d => uptoBulk d + 1
  | .map entries => uptoBulkEntries entries + 1
  | .held _ => 1
def uptoBulkAll {H : Type} : List (DataW H) → Nat
  | [] => 0
  | d :: r => uptoBulk d + uptoBulkAll r
def uptoBulkEntries {H : Type} : List (Lit × DataW H) → Nat
  | [] => 0
  | x :: r => uptoBulkEntry x + uptoBulkEntries r
def uptoBulkEntry {H : Type} : Lit × DataW H → Nat
  | (.string bytes, d) => bytes.length + uptoBulk d + 1
  | (_, d) => uptoBulk d + 1
 end
def uptoSmall : (H : Type) → List (DataW H) → Bool := fun _ ds => decide (uptoBulkAll ds ≤ 1048576)
def OpenSpec.upto (s : _root_.Go.ChangeSpec) : _root_.Go.OpenSpec := { _root_.Go.OpenSpec.ofChange s with cond := some uptoSmall }

/-- 'wayleavelaw.EntryMarks', WHERE WHAT IT READS IS OF BULK AT MOST 1048576: true; the input reads as it did. -/
def entryMarksUptoRow : OpenClaim := { program := "ytkcmlmofcjdgoab", sum := "730657927a7f2d75e7ce1f1821902be2f747ccfddeab6bd96161bd7d8ed5ccfb", func := "wayleave/wayleavelaw.EntryMarks", spec := "entryMarks", unfollowed := true, recurses := true, apart := false, narrowed := true }
def EntryMarksUptoSaid : Prop := entryMarksUptoRow.holds Try.pinned (OpenSpec.upto entryMarksSpec)

/-- 'wayleavelaw.FramesDoes', WHERE WHAT IT READS IS OF BULK AT MOST 1048576: true; the input reads as it did. -/
def framesDoesUptoRow : OpenClaim := { program := "ytkcmlmofcjdgoab", sum := "730657927a7f2d75e7ce1f1821902be2f747ccfddeab6bd96161bd7d8ed5ccfb", func := "wayleave/wayleavelaw.FramesDoes", spec := "framesDoes", apart := false, narrowed := true }
def FramesDoesUptoSaid : Prop := framesDoesUptoRow.holds Try.pinned (OpenSpec.upto framesDoesSpec)

/-- 'wayleavelaw.FramesOnce', WHERE WHAT IT READS IS OF BULK AT MOST 1048576: true; the input reads as it did. -/
def framesOnceUptoRow : OpenClaim := { program := "ytkcmlmofcjdgoab", sum := "730657927a7f2d75e7ce1f1821902be2f747ccfddeab6bd96161bd7d8ed5ccfb", func := "wayleave/wayleavelaw.FramesOnce", spec := "framesOnce", apart := false, narrowed := true }
def FramesOnceUptoSaid : Prop := framesOnceUptoRow.holds Try.pinned (OpenSpec.upto framesOnceSpec)

/-- 'wayleavelaw.BookDoes', WHERE WHAT IT READS IS OF BULK AT MOST 1048576: true; the input reads as it did. -/
def bookDoesUptoRow : OpenClaim := { program := "ytkcmlmofcjdgoab", sum := "730657927a7f2d75e7ce1f1821902be2f747ccfddeab6bd96161bd7d8ed5ccfb", func := "wayleave/wayleavelaw.BookDoes", spec := "bookDoes", inPlace := ["slices.overlaps[wayleave/api.Map]"], unfollowed := true, recurses := true, apart := false, narrowed := true }
def BookDoesUptoSaid : Prop := bookDoesUptoRow.holds Try.pinned (OpenSpec.upto bookDoesSpec)

/-- 'wayleavelaw.BookApart', WHERE WHAT IT READS IS OF BULK AT MOST 1048576: true; the input reads as it did. -/
def bookApartUptoRow : OpenClaim := { program := "ytkcmlmofcjdgoab", sum := "730657927a7f2d75e7ce1f1821902be2f747ccfddeab6bd96161bd7d8ed5ccfb", func := "wayleave/wayleavelaw.BookApart", spec := "bookApart", inPlace := ["slices.overlaps[wayleave/api.Map]"], unfollowed := true, recurses := true, apart := false, narrowed := true }
def BookApartUptoSaid : Prop := bookApartUptoRow.holds Try.pinned (OpenSpec.upto bookApartSpec)

/-- 'wayleavelaw.BookTurns', WHERE WHAT IT READS IS OF BULK AT MOST 1048576: true; the input reads as it did. -/
def bookTurnsUptoRow : OpenClaim := { program := "ytkcmlmofcjdgoab", sum := "730657927a7f2d75e7ce1f1821902be2f747ccfddeab6bd96161bd7d8ed5ccfb", func := "wayleave/wayleavelaw.BookTurns", spec := "bookTurns", inPlace := ["slices.overlaps[wayleave/api.Map]"], unfollowed := true, recurses := true, apart := false, narrowed := true }
def BookTurnsUptoSaid : Prop := bookTurnsUptoRow.holds Try.pinned (OpenSpec.upto bookTurnsSpec)

end Rows
end Go.Proofs.Ytkcmlmofcjdgoab
