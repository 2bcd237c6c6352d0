/-
  NARROWER THAN 'FOR EVERY INPUT', by the rows' own cells (each row's printed sentence says how): CrcSums: laid · CrcJoins: laid · CrcParts: laid · CrcMixes: laid · CrcTells: laid · CrcGrows: laid.
  DERIVED. THE GIVEN ROWS OF THIS SEAT. 6 by the template 'for every input the law returns true; each argument reads behind the call as it read before'; 0 by the template 'total and deterministic' (their statements: YtndljmkdgakfcaaDoorTotals.lean).
  GIVEN WITH THE SEED: the statements are not yours to turn. If you find one false, say at which input.
  Laid BY PROGRAM, IN A SANDBOX (cutbox-rows.mjs): the forced cells as the released guide's own fill.sh prints them over the translation c10ab9dda8bda6b3… (all of the seat's roots in one cut). By AI agents, Wed Nov 11 2026. No macro, syntax, notation, axiom, sorry.
-/
import Derived.Test.YtndljmkdgakfcaaDoorChecked
import GoSem.Claim
import GoSem.ClaimJoined
import GoSem.ClaimMapViews
import Derived.JoinedTies
import Derived.KernelRfl
namespace Go.Proofs.YtndljmkdgakfcaaDoor
/- THE CELL 'sum', in the pinned program and in every row, IS THE sha256 OF THE DUMP (.gsa) THAT YtndljmkdgakfcaaDoorProg.lean LOADS. Nothing in Lean hashes anything: it is a label: what it is worth is what the hold of that sum in a sandbox is worth. -/
noncomputable def Tryd.pinned : Pinned := { name := "ytndljmkdgakfcaadoor", sum := "c10ab9dda8bda6b39552be354e0b7772c9bea13c5c50ab541ba55d0a6400a615", checked := Tryd.checked }
namespace Rows
def none {H : Type} : Left H := { results := [], args := [] }

/- WHAT THE LISTED PACKAGE-LEVEL VARIABLES READ AS WHEN THE CALL BEGINS. Each datum BY PROGRAM (the guide's laid-datum.mjs) off the statement by which the dump's own 'gosem.cut.vars' lays the variable. In a bare row this is a premise. The card (YtndljmkdgakfcaaDoorCards.lean) ties it to the program's text. -/
def laid_lavabo_crc_nibbles {H : Type} : DataW H := .agg [.lit (.int .u32 0), .lit (.int .u32 274646895), .lit (.int .u32 549293790), .lit (.int .u32 820201905), .lit (.int .u32 1098587580), .lit (.int .u32 1361435347), .lit (.int .u32 1640403810), .lit (.int .u32 1905808397), .lit (.int .u32 2197175160), .lit (.int .u32 2460548119), .lit (.int .u32 2722870694), .lit (.int .u32 2987750089), .lit (.int .u32 3280807620), .lit (.int .u32 3553878443), .lit (.int .u32 3811616794), .lit (.int .u32 4084100981)]

/-- 'lavabolaw01.CrcSums': WHATEVER THE INPUT: true; the input reads as it did. -/
def crcSumsSpec : ChangeSpec := { name := "crcSums", fn := fun _ => fun
  | [d1, d2] => { results := [.lit (.bool true)], args := [d1, d2] }
  | _ => none }
def crcSumsRow : OpenClaim := { program := "ytndljmkdgakfcaadoor", sum := "c10ab9dda8bda6b39552be354e0b7772c9bea13c5c50ab541ba55d0a6400a615", func := "lavabo/lavabolaw01.CrcSums", spec := "crcSums", unfollowed := true, recurses := true, named := ["lavabo/crc.nibbles"], apart := false, laid := [("lavabo/crc.nibbles", laid_lavabo_crc_nibbles)] }
def CrcSumsSaid : Prop := crcSumsRow.holds Tryd.pinned (OpenSpec.ofChange crcSumsSpec)

/-- ITS FALSE NEIGHBOUR: 'it returns false'. Refute it at one input. -/
def crcSumsWrong : ChangeSpec := { name := "crcSums", fn := fun _ => fun
  | [d1, d2] => { results := [.lit (.bool false)], args := [d1, d2] }
  | _ => none }
def CrcSumsWrongFalsely : Prop := crcSumsRow.holds Tryd.pinned (OpenSpec.ofChange crcSumsWrong)

/-- 'lavabolaw01.CrcJoins': WHATEVER THE INPUT: true; the input reads as it did. -/
def crcJoinsSpec : ChangeSpec := { name := "crcJoins", fn := fun _ => fun
  | [d1, d2, d3] => { results := [.lit (.bool true)], args := [d1, d2, d3] }
  | _ => none }
def crcJoinsRow : OpenClaim := { program := "ytndljmkdgakfcaadoor", sum := "c10ab9dda8bda6b39552be354e0b7772c9bea13c5c50ab541ba55d0a6400a615", func := "lavabo/lavabolaw01.CrcJoins", spec := "crcJoins", unfollowed := true, recurses := true, named := ["lavabo/crc.nibbles"], apart := false, laid := [("lavabo/crc.nibbles", laid_lavabo_crc_nibbles)] }
def CrcJoinsSaid : Prop := crcJoinsRow.holds Tryd.pinned (OpenSpec.ofChange crcJoinsSpec)

/-- ITS FALSE NEIGHBOUR: 'it returns false'. Refute it at one input. -/
def crcJoinsWrong : ChangeSpec := { name := "crcJoins", fn := fun _ => fun
  | [d1, d2, d3] => { results := [.lit (.bool false)], args := [d1, d2, d3] }
  | _ => none }
def CrcJoinsWrongFalsely : Prop := crcJoinsRow.holds Tryd.pinned (OpenSpec.ofChange crcJoinsWrong)

/-- 'lavabolaw01.CrcParts': WHATEVER THE INPUT: true; the input reads as it did. -/
def crcPartsSpec : ChangeSpec := { name := "crcParts", fn := fun _ => fun
  | [d1, d2] => { results := [.lit (.bool true)], args := [d1, d2] }
  | _ => none }
def crcPartsRow : OpenClaim := { program := "ytndljmkdgakfcaadoor", sum := "c10ab9dda8bda6b39552be354e0b7772c9bea13c5c50ab541ba55d0a6400a615", func := "lavabo/lavabolaw01.CrcParts", spec := "crcParts", unfollowed := true, recurses := true, named := ["lavabo/crc.nibbles"], apart := false, laid := [("lavabo/crc.nibbles", laid_lavabo_crc_nibbles)] }
def CrcPartsSaid : Prop := crcPartsRow.holds Tryd.pinned (OpenSpec.ofChange crcPartsSpec)

/-- ITS FALSE NEIGHBOUR: 'it returns false'. Refute it at one input. -/
def crcPartsWrong : ChangeSpec := { name := "crcParts", fn := fun _ => fun
  | [d1, d2] => { results := [.lit (.bool false)], args := [d1, d2] }
  | _ => none }
def CrcPartsWrongFalsely : Prop := crcPartsRow.holds Tryd.pinned (OpenSpec.ofChange crcPartsWrong)

/-- 'lavabolaw01.CrcMixes': WHATEVER THE INPUT: true; the input reads as it did. -/
def crcMixesSpec : ChangeSpec := { name := "crcMixes", fn := fun _ => fun
  | [d] => { results := [.lit (.bool true)], args := [d] }
  | _ => none }
def crcMixesRow : OpenClaim := { program := "ytndljmkdgakfcaadoor", sum := "c10ab9dda8bda6b39552be354e0b7772c9bea13c5c50ab541ba55d0a6400a615", func := "lavabo/lavabolaw01.CrcMixes", spec := "crcMixes", unfollowed := true, recurses := true, named := ["lavabo/crc.nibbles"], apart := false, laid := [("lavabo/crc.nibbles", laid_lavabo_crc_nibbles)] }
def CrcMixesSaid : Prop := crcMixesRow.holds Tryd.pinned (OpenSpec.ofChange crcMixesSpec)

/-- ITS FALSE NEIGHBOUR: 'it returns false'. Refute it at one input. -/
def crcMixesWrong : ChangeSpec := { name := "crcMixes", fn := fun _ => fun
  | [d] => { results := [.lit (.bool false)], args := [d] }
  | _ => none }
def CrcMixesWrongFalsely : Prop := crcMixesRow.holds Tryd.pinned (OpenSpec.ofChange crcMixesWrong)

/-- 'lavabolaw01.CrcTells': WHATEVER THE INPUT: true; the input reads as it did. -/
def crcTellsSpec : ChangeSpec := { name := "crcTells", fn := fun _ => fun
  | [d1, d2, d3] => { results := [.lit (.bool true)], args := [d1, d2, d3] }
  | _ => none }
def crcTellsRow : OpenClaim := { program := "ytndljmkdgakfcaadoor", sum := "c10ab9dda8bda6b39552be354e0b7772c9bea13c5c50ab541ba55d0a6400a615", func := "lavabo/lavabolaw01.CrcTells", spec := "crcTells", unfollowed := true, recurses := true, named := ["lavabo/crc.nibbles"], apart := false, laid := [("lavabo/crc.nibbles", laid_lavabo_crc_nibbles)] }
def CrcTellsSaid : Prop := crcTellsRow.holds Tryd.pinned (OpenSpec.ofChange crcTellsSpec)

/-- ITS FALSE NEIGHBOUR: 'it returns false'. Refute it at one input. -/
def crcTellsWrong : ChangeSpec := { name := "crcTells", fn := fun _ => fun
  | [d1, d2, d3] => { results := [.lit (.bool false)], args := [d1, d2, d3] }
  | _ => none }
def CrcTellsWrongFalsely : Prop := crcTellsRow.holds Tryd.pinned (OpenSpec.ofChange crcTellsWrong)

/-- 'lavabolaw01.CrcGrows': WHATEVER THE INPUT: true; the input reads as it did. -/
def crcGrowsSpec : ChangeSpec := { name := "crcGrows", fn := fun _ => fun
  | [d1, d2] => { results := [.lit (.bool true)], args := [d1, d2] }
  | _ => none }
def crcGrowsRow : OpenClaim := { program := "ytndljmkdgakfcaadoor", sum := "c10ab9dda8bda6b39552be354e0b7772c9bea13c5c50ab541ba55d0a6400a615", func := "lavabo/lavabolaw01.CrcGrows", spec := "crcGrows", unfollowed := true, recurses := true, named := ["lavabo/crc.nibbles"], apart := false, laid := [("lavabo/crc.nibbles", laid_lavabo_crc_nibbles)] }
def CrcGrowsSaid : Prop := crcGrowsRow.holds Tryd.pinned (OpenSpec.ofChange crcGrowsSpec)

/-- ITS FALSE NEIGHBOUR: 'it returns false'. Refute it at one input. -/
def crcGrowsWrong : ChangeSpec := { name := "crcGrows", fn := fun _ => fun
  | [d1, d2] => { results := [.lit (.bool false)], args := [d1, d2] }
  | _ => none }
def CrcGrowsWrongFalsely : Prop := crcGrowsRow.holds Tryd.pinned (OpenSpec.ofChange crcGrowsWrong)

/- THE SECOND FORM. 'bulk': how many values and letters a reading holds, each counted each time it is reached (what is shared counts as often as it is met; a slice's spare places count too). A statement '..UptoSaid' is the law's where the arguments, and the package variables that the reading takes, are together of bulk at most 1048576: NARROWER than '..Said'. Prove '..Said' where nothing that the law and all that it calls make is longer than what came in: it says more and counts as full. Else prove '..UptoSaid'. A law counts once. -/
mutual
def uptoBulk {H : Type} : DataW H → Nat
  | .lit (.string bytes) => bytes.length + 1
  | .lit _ => 1
  | .nil => 1
  | .ptr d => uptoBulk d + 1
  | .slice elems spare => uptoBulkAll elems + uptoBulkAll spare + 1
  | .agg parts => uptoBulkAll parts + 1
  | .iface _ d => uptoBulk d + 1
  | .map entries => uptoBulkEntries entries + 1
  | .held _ => 1
def uptoBulkAll {H : Type} : List (DataW H) → Nat
  | [] => 0
  | d :: r => uptoBulk d + uptoBulkAll r
def uptoBulkEntries {H : Type} : List (Lit × DataW H) → Nat
  | [] => 0
  | x :: r => uptoBulkEntry x + uptoBulkEntries r
def uptoBulkEntry {H : Type} : Lit × DataW H → Nat
  | (.string bytes, d) => bytes.length + uptoBulk d + 1
  | (_, d) => uptoBulk d + 1
 end
def uptoSmall : (H : Type) → List (DataW H) → Bool := fun _ ds => decide (uptoBulkAll ds ≤ 1048576)
def OpenSpec.upto (s : _root_.Go.ChangeSpec) : _root_.Go.OpenSpec := { _root_.Go.OpenSpec.ofChange s with cond := some uptoSmall }

/-- 'lavabolaw01.CrcSums', WHERE WHAT IT READS IS OF BULK AT MOST 1048576: true; the input reads as it did. -/
def crcSumsUptoRow : OpenClaim := { program := "ytndljmkdgakfcaadoor", sum := "c10ab9dda8bda6b39552be354e0b7772c9bea13c5c50ab541ba55d0a6400a615", func := "lavabo/lavabolaw01.CrcSums", spec := "crcSums", unfollowed := true, recurses := true, named := ["lavabo/crc.nibbles"], apart := false, laid := [("lavabo/crc.nibbles", laid_lavabo_crc_nibbles)], narrowed := true }
def CrcSumsUptoSaid : Prop := crcSumsUptoRow.holds Tryd.pinned (OpenSpec.upto crcSumsSpec)

/-- 'lavabolaw01.CrcJoins', WHERE WHAT IT READS IS OF BULK AT MOST 1048576: true; the input reads as it did. -/
def crcJoinsUptoRow : OpenClaim := { program := "ytndljmkdgakfcaadoor", sum := "c10ab9dda8bda6b39552be354e0b7772c9bea13c5c50ab541ba55d0a6400a615", func := "lavabo/lavabolaw01.CrcJoins", spec := "crcJoins", unfollowed := true, recurses := true, named := ["lavabo/crc.nibbles"], apart := false, laid := [("lavabo/crc.nibbles", laid_lavabo_crc_nibbles)], narrowed := true }
def CrcJoinsUptoSaid : Prop := crcJoinsUptoRow.holds Tryd.pinned (OpenSpec.upto crcJoinsSpec)

/-- 'lavabolaw01.CrcParts', WHERE WHAT IT READS IS OF BULK AT MOST 1048576: true; the input reads as it did. -/
def crcPartsUptoRow : OpenClaim := { program := "ytndljmkdgakfcaadoor", sum := "c10ab9dda8bda6b39552be354e0b7772c9bea13c5c50ab541ba55d0a6400a615", func := "lavabo/lavabolaw01.CrcParts", spec := "crcParts", unfollowed := true, recurses := true, named := ["lavabo/crc.nibbles"], apart := false, laid := [("lavabo/crc.nibbles", laid_lavabo_crc_nibbles)], narrowed := true }
def CrcPartsUptoSaid : Prop := crcPartsUptoRow.holds Tryd.pinned (OpenSpec.upto crcPartsSpec)

/-- 'lavabolaw01.CrcMixes', WHERE WHAT IT READS IS OF BULK AT MOST 1048576: true; the input reads as it did. -/
def crcMixesUptoRow : OpenClaim := { program := "ytndljmkdgakfcaadoor", sum := "c10ab9dda8bda6b39552be354e0b7772c9bea13c5c50ab541ba55d0a6400a615", func := "lavabo/lavabolaw01.CrcMixes", spec := "crcMixes", unfollowed := true, recurses := true, named := ["lavabo/crc.nibbles"], apart := false, laid := [("lavabo/crc.nibbles", laid_lavabo_crc_nibbles)], narrowed := true }
def CrcMixesUptoSaid : Prop := crcMixesUptoRow.holds Tryd.pinned (OpenSpec.upto crcMixesSpec)

/-- 'lavabolaw01.CrcTells', WHERE WHAT IT READS IS OF BULK AT MOST 1048576: true; the input reads as it did. -/
def crcTellsUptoRow : OpenClaim := { program := "ytndljmkdgakfcaadoor", sum := "c10ab9dda8bda6b39552be354e0b7772c9bea13c5c50ab541ba55d0a6400a615", func := "lavabo/lavabolaw01.CrcTells", spec := "crcTells", unfollowed := true, recurses := true, named := ["lavabo/crc.nibbles"], apart := false, laid := [("lavabo/crc.nibbles", laid_lavabo_crc_nibbles)], narrowed := true }
def CrcTellsUptoSaid : Prop := crcTellsUptoRow.holds Tryd.pinned (OpenSpec.upto crcTellsSpec)

/-- 'lavabolaw01.CrcGrows', WHERE WHAT IT READS IS OF BULK AT MOST 1048576: true; the input reads as it did. -/
def crcGrowsUptoRow : OpenClaim := { program := "ytndljmkdgakfcaadoor", sum := "c10ab9dda8bda6b39552be354e0b7772c9bea13c5c50ab541ba55d0a6400a615", func := "lavabo/lavabolaw01.CrcGrows", spec := "crcGrows", unfollowed := true, recurses := true, named := ["lavabo/crc.nibbles"], apart := false, laid := [("lavabo/crc.nibbles", laid_lavabo_crc_nibbles)], narrowed := true }
def CrcGrowsUptoSaid : Prop := crcGrowsUptoRow.holds Tryd.pinned (OpenSpec.upto crcGrowsSpec)

end Rows
end Go.Proofs.YtndljmkdgakfcaaDoor
