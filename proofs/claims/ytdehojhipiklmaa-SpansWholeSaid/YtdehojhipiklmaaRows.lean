/-
  No cell of these rows narrows 'for every input' (looked for: loops, veiled, ifaces, maps, wideKeys, modest, calm, conditions, laid).
  DERIVED. THE GIVEN ROWS OF THIS SEAT. 6 by the template 'for every input the law returns true; each argument reads behind the call as it read before'; 0 by the template 'total and deterministic' (their statements: YtdehojhipiklmaaTotals.lean).
  GIVEN WITH THE SEED: the statements are not yours to turn. If you find one false, say at which input.
  Laid BY PROGRAM, IN A SANDBOX (cutbox-rows.mjs): the forced cells as the released guide's own fill.sh prints them over the translation b0cfadf5fabc8fa9… (all of the seat's roots in one cut). By AI agents, Wed Nov 11 2026. No macro, syntax, notation, axiom, sorry.
-/
import Derived.Test.YtdehojhipiklmaaChecked
import GoSem.Claim
import GoSem.ClaimJoined
import GoSem.ClaimMapViews
import Derived.JoinedTies
import Derived.KernelRfl
namespace Go.Proofs.Ytdehojhipiklmaa
/- THE CELL 'sum', in the pinned program and in every row, IS THE sha256 OF THE DUMP (.gsa) THAT YtdehojhipiklmaaProg.lean LOADS. Nothing in Lean hashes anything: it is a label: what it is worth is what the hold of that sum in a sandbox is worth. -/
noncomputable def Try.pinned : Pinned := { name := "ytdehojhipiklmaa", sum := "b0cfadf5fabc8fa9a95e002d3fbff9ba539f41201d14e7ad278f11d3070bab8b", checked := Try.checked }
namespace Rows
def none {H : Type} : Left H := { results := [], args := [] }

/-- 'lavabolaw03.SpansPlays': WHATEVER THE INPUT: true; the input reads as it did. -/
def spansPlaysSpec : ChangeSpec := { name := "spansPlays", fn := fun _ => fun
  | [d1, d2, d3] => { results := [.lit (.bool true)], args := [d1, d2, d3] }
  | _ => none }
def spansPlaysRow : OpenClaim := { program := "ytdehojhipiklmaa", sum := "b0cfadf5fabc8fa9a95e002d3fbff9ba539f41201d14e7ad278f11d3070bab8b", func := "lavabo/lavabolaw03.SpansPlays", spec := "spansPlays", inPlace := ["slices.overlaps[lavabo/api.Span]"], unfollowed := true, recurses := true, apart := false }
def SpansPlaysSaid : Prop := spansPlaysRow.holds Try.pinned (OpenSpec.ofChange spansPlaysSpec)

/-- ITS FALSE NEIGHBOUR: 'it returns false'. Refute it at one input. -/
def spansPlaysWrong : ChangeSpec := { name := "spansPlays", fn := fun _ => fun
  | [d1, d2, d3] => { results := [.lit (.bool false)], args := [d1, d2, d3] }
  | _ => none }
def SpansPlaysWrongFalsely : Prop := spansPlaysRow.holds Try.pinned (OpenSpec.ofChange spansPlaysWrong)

/-- 'lavabolaw03.SpansWhole': WHATEVER THE INPUT: true; the input reads as it did. -/
def spansWholeSpec : ChangeSpec := { name := "spansWhole", fn := fun _ => fun
  | [d] => { results := [.lit (.bool true)], args := [d] }
  | _ => none }
def spansWholeRow : OpenClaim := { program := "ytdehojhipiklmaa", sum := "b0cfadf5fabc8fa9a95e002d3fbff9ba539f41201d14e7ad278f11d3070bab8b", func := "lavabo/lavabolaw03.SpansWhole", spec := "spansWhole", inPlace := ["slices.overlaps[lavabo/api.Span]"], unfollowed := true, recurses := true, apart := false }
def SpansWholeSaid : Prop := spansWholeRow.holds Try.pinned (OpenSpec.ofChange spansWholeSpec)

/-- ITS FALSE NEIGHBOUR: 'it returns false'. Refute it at one input. -/
def spansWholeWrong : ChangeSpec := { name := "spansWhole", fn := fun _ => fun
  | [d] => { results := [.lit (.bool false)], args := [d] }
  | _ => none }
def SpansWholeWrongFalsely : Prop := spansWholeRow.holds Try.pinned (OpenSpec.ofChange spansWholeWrong)

/-- 'lavabolaw03.SpansTurns': WHATEVER THE INPUT: true; the input reads as it did. -/
def spansTurnsSpec : ChangeSpec := { name := "spansTurns", fn := fun _ => fun
  | [d1, d2, d3] => { results := [.lit (.bool true)], args := [d1, d2, d3] }
  | _ => none }
def spansTurnsRow : OpenClaim := { program := "ytdehojhipiklmaa", sum := "b0cfadf5fabc8fa9a95e002d3fbff9ba539f41201d14e7ad278f11d3070bab8b", func := "lavabo/lavabolaw03.SpansTurns", spec := "spansTurns", inPlace := ["slices.overlaps[lavabo/api.Span]"], unfollowed := true, recurses := true, apart := false }
def SpansTurnsSaid : Prop := spansTurnsRow.holds Try.pinned (OpenSpec.ofChange spansTurnsSpec)

/-- ITS FALSE NEIGHBOUR: 'it returns false'. Refute it at one input. -/
def spansTurnsWrong : ChangeSpec := { name := "spansTurns", fn := fun _ => fun
  | [d1, d2, d3] => { results := [.lit (.bool false)], args := [d1, d2, d3] }
  | _ => none }
def SpansTurnsWrongFalsely : Prop := spansTurnsRow.holds Try.pinned (OpenSpec.ofChange spansTurnsWrong)

/-- 'lavabolaw03.SpansBack': WHATEVER THE INPUT: true; the input reads as it did. -/
def spansBackSpec : ChangeSpec := { name := "spansBack", fn := fun _ => fun
  | [d1, d2] => { results := [.lit (.bool true)], args := [d1, d2] }
  | _ => none }
def spansBackRow : OpenClaim := { program := "ytdehojhipiklmaa", sum := "b0cfadf5fabc8fa9a95e002d3fbff9ba539f41201d14e7ad278f11d3070bab8b", func := "lavabo/lavabolaw03.SpansBack", spec := "spansBack", inPlace := ["slices.overlaps[lavabo/api.Span]"], unfollowed := true, recurses := true, apart := false }
def SpansBackSaid : Prop := spansBackRow.holds Try.pinned (OpenSpec.ofChange spansBackSpec)

/-- ITS FALSE NEIGHBOUR: 'it returns false'. Refute it at one input. -/
def spansBackWrong : ChangeSpec := { name := "spansBack", fn := fun _ => fun
  | [d1, d2] => { results := [.lit (.bool false)], args := [d1, d2] }
  | _ => none }
def SpansBackWrongFalsely : Prop := spansBackRow.holds Try.pinned (OpenSpec.ofChange spansBackWrong)

/-- 'lavabolaw03.SpansMoves': WHATEVER THE INPUT: true; the input reads as it did. -/
def spansMovesSpec : ChangeSpec := { name := "spansMoves", fn := fun _ => fun
  | [d1, d2] => { results := [.lit (.bool true)], args := [d1, d2] }
  | _ => none }
def spansMovesRow : OpenClaim := { program := "ytdehojhipiklmaa", sum := "b0cfadf5fabc8fa9a95e002d3fbff9ba539f41201d14e7ad278f11d3070bab8b", func := "lavabo/lavabolaw03.SpansMoves", spec := "spansMoves", inPlace := ["slices.overlaps[lavabo/api.Span]"], unfollowed := true, recurses := true, apart := false }
def SpansMovesSaid : Prop := spansMovesRow.holds Try.pinned (OpenSpec.ofChange spansMovesSpec)

/-- ITS FALSE NEIGHBOUR: 'it returns false'. Refute it at one input. -/
def spansMovesWrong : ChangeSpec := { name := "spansMoves", fn := fun _ => fun
  | [d1, d2] => { results := [.lit (.bool false)], args := [d1, d2] }
  | _ => none }
def SpansMovesWrongFalsely : Prop := spansMovesRow.holds Try.pinned (OpenSpec.ofChange spansMovesWrong)

/-- 'lavabolaw03.SpansMeet': WHATEVER THE INPUT: true; the input reads as it did. -/
def spansMeetSpec : ChangeSpec := { name := "spansMeet", fn := fun _ => fun
  | [d1, d2] => { results := [.lit (.bool true)], args := [d1, d2] }
  | _ => none }
def spansMeetRow : OpenClaim := { program := "ytdehojhipiklmaa", sum := "b0cfadf5fabc8fa9a95e002d3fbff9ba539f41201d14e7ad278f11d3070bab8b", func := "lavabo/lavabolaw03.SpansMeet", spec := "spansMeet", inPlace := ["slices.overlaps[lavabo/api.Span]"], unfollowed := true, recurses := true, apart := false }
def SpansMeetSaid : Prop := spansMeetRow.holds Try.pinned (OpenSpec.ofChange spansMeetSpec)

/-- ITS FALSE NEIGHBOUR: 'it returns false'. Refute it at one input. -/
def spansMeetWrong : ChangeSpec := { name := "spansMeet", fn := fun _ => fun
  | [d1, d2] => { results := [.lit (.bool false)], args := [d1, d2] }
  | _ => none }
def SpansMeetWrongFalsely : Prop := spansMeetRow.holds Try.pinned (OpenSpec.ofChange spansMeetWrong)

/- THE SECOND FORM. 'bulk': how many values and letters a reading holds, each counted each time it is reached (what is shared counts as often as it is met; a slice's spare places count too). A statement '..UptoSaid' is the law's where the arguments, and the package variables that the reading takes, are together of bulk at most 1048576: NARROWER than '..Said'. Prove '..Said' where nothing that the law and all that it calls make is longer than what came in: it says more and counts as full. Else prove '..UptoSaid'. A law counts once. -/
mutual
def uptoBulk {H : Type} : DataW H → Nat
  | .lit (.string bytes) => bytes.length + 1
  | .lit _ => 1
  | .nil => 1
  | .ptr d => uptoBulk d + 1
  | .slice elems spare => uptoBulkAll elems + uptoBulkAll spare + 1
  | .agg parts => uptoBulkAll parts + 1
  | .iface _ d => uptoBulk d + 1
  | .map entries => uptoBulkEntries entries + 1
  | .held _ => 1
def uptoBulkAll {H : Type} : List (DataW H) → Nat
  | [] => 0
  | d :: r => uptoBulk d + uptoBulkAll r
def uptoBulkEntries {H : Type} : List (Lit × DataW H) → Nat
  | [] => 0
  | x :: r => uptoBulkEntry x + uptoBulkEntries r
def uptoBulkEntry {H : Type} : Lit × DataW H → Nat
  | (.string bytes, d) => bytes.length + uptoBulk d + 1
  | (_, d) => uptoBulk d + 1
 end
def uptoSmall : (H : Type) → List (DataW H) → Bool := fun _ ds => decide (uptoBulkAll ds ≤ 1048576)
def OpenSpec.upto (s : _root_.Go.ChangeSpec) : _root_.Go.OpenSpec := { _root_.Go.OpenSpec.ofChange s with cond := some uptoSmall }

/-- 'lavabolaw03.SpansPlays', WHERE WHAT IT READS IS OF BULK AT MOST 1048576: true; the input reads as it did. -/
def spansPlaysUptoRow : OpenClaim := { program := "ytdehojhipiklmaa", sum := "b0cfadf5fabc8fa9a95e002d3fbff9ba539f41201d14e7ad278f11d3070bab8b", func := "lavabo/lavabolaw03.SpansPlays", spec := "spansPlays", inPlace := ["slices.overlaps[lavabo/api.Span]"], unfollowed := true, recurses := true, apart := false, narrowed := true }
def SpansPlaysUptoSaid : Prop := spansPlaysUptoRow.holds Try.pinned (OpenSpec.upto spansPlaysSpec)

/-- 'lavabolaw03.SpansWhole', WHERE WHAT IT READS IS OF BULK AT MOST 1048576: true; the input reads as it did. -/
def spansWholeUptoRow : OpenClaim := { program := "ytdehojhipiklmaa", sum := "b0cfadf5fabc8fa9a95e002d3fbff9ba539f41201d14e7ad278f11d3070bab8b", func := "lavabo/lavabolaw03.SpansWhole", spec := "spansWhole", inPlace := ["slices.overlaps[lavabo/api.Span]"], unfollowed := true, recurses := true, apart := false, narrowed := true }
def SpansWholeUptoSaid : Prop := spansWholeUptoRow.holds Try.pinned (OpenSpec.upto spansWholeSpec)

/-- 'lavabolaw03.SpansTurns', WHERE WHAT IT READS IS OF BULK AT MOST 1048576: true; the input reads as it did. -/
def spansTurnsUptoRow : OpenClaim := { program := "ytdehojhipiklmaa", sum := "b0cfadf5fabc8fa9a95e002d3fbff9ba539f41201d14e7ad278f11d3070bab8b", func := "lavabo/lavabolaw03.SpansTurns", spec := "spansTurns", inPlace := ["slices.overlaps[lavabo/api.Span]"], unfollowed := true, recurses := true, apart := false, narrowed := true }
def SpansTurnsUptoSaid : Prop := spansTurnsUptoRow.holds Try.pinned (OpenSpec.upto spansTurnsSpec)

/-- 'lavabolaw03.SpansBack', WHERE WHAT IT READS IS OF BULK AT MOST 1048576: true; the input reads as it did. -/
def spansBackUptoRow : OpenClaim := { program := "ytdehojhipiklmaa", sum := "b0cfadf5fabc8fa9a95e002d3fbff9ba539f41201d14e7ad278f11d3070bab8b", func := "lavabo/lavabolaw03.SpansBack", spec := "spansBack", inPlace := ["slices.overlaps[lavabo/api.Span]"], unfollowed := true, recurses := true, apart := false, narrowed := true }
def SpansBackUptoSaid : Prop := spansBackUptoRow.holds Try.pinned (OpenSpec.upto spansBackSpec)

/-- 'lavabolaw03.SpansMoves', WHERE WHAT IT READS IS OF BULK AT MOST 1048576: true; the input reads as it did. -/
def spansMovesUptoRow : OpenClaim := { program := "ytdehojhipiklmaa", sum := "b0cfadf5fabc8fa9a95e002d3fbff9ba539f41201d14e7ad278f11d3070bab8b", func := "lavabo/lavabolaw03.SpansMoves", spec := "spansMoves", inPlace := ["slices.overlaps[lavabo/api.Span]"], unfollowed := true, recurses := true, apart := false, narrowed := true }
def SpansMovesUptoSaid : Prop := spansMovesUptoRow.holds Try.pinned (OpenSpec.upto spansMovesSpec)

/-- 'lavabolaw03.SpansMeet', WHERE WHAT IT READS IS OF BULK AT MOST 1048576: true; the input reads as it did. -/
def spansMeetUptoRow : OpenClaim := { program := "ytdehojhipiklmaa", sum := "b0cfadf5fabc8fa9a95e002d3fbff9ba539f41201d14e7ad278f11d3070bab8b", func := "lavabo/lavabolaw03.SpansMeet", spec := "spansMeet", inPlace := ["slices.overlaps[lavabo/api.Span]"], unfollowed := true, recurses := true, apart := false, narrowed := true }
def SpansMeetUptoSaid : Prop := spansMeetUptoRow.holds Try.pinned (OpenSpec.upto spansMeetSpec)

end Rows
end Go.Proofs.Ytdehojhipiklmaa
