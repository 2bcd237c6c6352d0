/-
  NARROWER THAN 'FOR EVERY INPUT', by the rows' own cells (each row's printed sentence says how): FieldPuts: laid · FieldSeals: laid · FieldBack: laid · FieldParts: laid · FieldNil: laid · SlotsPlays: laid · SlotsMay: laid · SlotsWhole: laid · SlotsRound: laid · SlotsNil: laid · SlotsTakes: laid.
  DERIVED. THE GIVEN ROWS OF THIS SEAT. 11 by the template 'for every input the law returns true; each argument reads behind the call as it read before'; 0 by the template 'total and deterministic' (their statements: YtopheimplclfcaaDoorTotals.lean).
  GIVEN WITH THE SEED: the statements are not yours to turn. If you find one false, say at which input.
  Laid BY PROGRAM, IN A SANDBOX (cutbox-rows.mjs): the forced cells as the released guide's own fill.sh prints them over the translation 6510a822cbd223bd… (all of the seat's roots in one cut). By AI agents, Wed Nov 11 2026. No macro, syntax, notation, axiom, sorry.
-/
import Derived.Test.YtopheimplclfcaaDoorChecked
import GoSem.Claim
import GoSem.ClaimJoined
import GoSem.ClaimMapViews
import Derived.JoinedTies
import Derived.KernelRfl
namespace Go.Proofs.YtopheimplclfcaaDoor
/- THE CELL 'sum', in the pinned program and in every row, IS THE sha256 OF THE DUMP (.gsa) THAT YtopheimplclfcaaDoorProg.lean LOADS. Nothing in Lean hashes anything: it is a label: what it is worth is what the hold of that sum in a sandbox is worth. -/
noncomputable def Tryd.pinned : Pinned := { name := "ytopheimplclfcaadoor", sum := "6510a822cbd223bd36d37789e3397551dd9f52ef1bfb897513bb4b0bd36938f0", checked := Tryd.checked }
namespace Rows
def none {H : Type} : Left H := { results := [], args := [] }

/- WHAT THE LISTED PACKAGE-LEVEL VARIABLES READ AS WHEN THE CALL BEGINS. Each datum BY PROGRAM (the guide's laid-datum.mjs) off the statement by which the dump's own 'gosem.cut.vars' lays the variable. In a bare row this is a premise. The card (YtopheimplclfcaaDoorCards.lean) ties it to the program's text. -/
def laid_lavabo_crc_nibbles {H : Type} : DataW H := .agg [.lit (.int .u32 0), .lit (.int .u32 274646895), .lit (.int .u32 549293790), .lit (.int .u32 820201905), .lit (.int .u32 1098587580), .lit (.int .u32 1361435347), .lit (.int .u32 1640403810), .lit (.int .u32 1905808397), .lit (.int .u32 2197175160), .lit (.int .u32 2460548119), .lit (.int .u32 2722870694), .lit (.int .u32 2987750089), .lit (.int .u32 3280807620), .lit (.int .u32 3553878443), .lit (.int .u32 3811616794), .lit (.int .u32 4084100981)]
def laid_lavabo_slots_turns {H : Type} : DataW H := .agg [.agg [.lit (.bool false), .lit (.bool true), .lit (.bool false), .lit (.bool false), .lit (.bool false)], .agg [.lit (.bool false), .lit (.bool false), .lit (.bool true), .lit (.bool true), .lit (.bool true)], .agg [.lit (.bool false), .lit (.bool false), .lit (.bool false), .lit (.bool true), .lit (.bool true)], .agg [.lit (.bool true), .lit (.bool false), .lit (.bool false), .lit (.bool false), .lit (.bool true)], .agg [.lit (.bool false), .lit (.bool false), .lit (.bool false), .lit (.bool false), .lit (.bool false)]]

/-- 'lavabolaw04.FieldPuts': WHATEVER THE INPUT: true; the input reads as it did. -/
def fieldPutsSpec : ChangeSpec := { name := "fieldPuts", fn := fun _ => fun
  | [d] => { results := [.lit (.bool true)], args := [d] }
  | _ => none }
def fieldPutsRow : OpenClaim := { program := "ytopheimplclfcaadoor", sum := "6510a822cbd223bd36d37789e3397551dd9f52ef1bfb897513bb4b0bd36938f0", func := "lavabo/lavabolaw04.FieldPuts", spec := "fieldPuts", unfollowed := true, recurses := true, named := ["lavabo/crc.nibbles"], apart := false, laid := [("lavabo/crc.nibbles", laid_lavabo_crc_nibbles)] }
def FieldPutsSaid : Prop := fieldPutsRow.holds Tryd.pinned (OpenSpec.ofChange fieldPutsSpec)

/-- ITS FALSE NEIGHBOUR: 'it returns false'. Refute it at one input. -/
def fieldPutsWrong : ChangeSpec := { name := "fieldPuts", fn := fun _ => fun
  | [d] => { results := [.lit (.bool false)], args := [d] }
  | _ => none }
def FieldPutsWrongFalsely : Prop := fieldPutsRow.holds Tryd.pinned (OpenSpec.ofChange fieldPutsWrong)

/-- 'lavabolaw04.FieldSeals': WHATEVER THE INPUT: true; the input reads as it did. -/
def fieldSealsSpec : ChangeSpec := { name := "fieldSeals", fn := fun _ => fun
  | [d1, d2, d3] => { results := [.lit (.bool true)], args := [d1, d2, d3] }
  | _ => none }
def fieldSealsRow : OpenClaim := { program := "ytopheimplclfcaadoor", sum := "6510a822cbd223bd36d37789e3397551dd9f52ef1bfb897513bb4b0bd36938f0", func := "lavabo/lavabolaw04.FieldSeals", spec := "fieldSeals", unfollowed := true, recurses := true, named := ["lavabo/crc.nibbles"], apart := false, laid := [("lavabo/crc.nibbles", laid_lavabo_crc_nibbles)] }
def FieldSealsSaid : Prop := fieldSealsRow.holds Tryd.pinned (OpenSpec.ofChange fieldSealsSpec)

/-- ITS FALSE NEIGHBOUR: 'it returns false'. Refute it at one input. -/
def fieldSealsWrong : ChangeSpec := { name := "fieldSeals", fn := fun _ => fun
  | [d1, d2, d3] => { results := [.lit (.bool false)], args := [d1, d2, d3] }
  | _ => none }
def FieldSealsWrongFalsely : Prop := fieldSealsRow.holds Tryd.pinned (OpenSpec.ofChange fieldSealsWrong)

/-- 'lavabolaw04.FieldBack': WHATEVER THE INPUT: true; the input reads as it did. -/
def fieldBackSpec : ChangeSpec := { name := "fieldBack", fn := fun _ => fun
  | [d1, d2] => { results := [.lit (.bool true)], args := [d1, d2] }
  | _ => none }
def fieldBackRow : OpenClaim := { program := "ytopheimplclfcaadoor", sum := "6510a822cbd223bd36d37789e3397551dd9f52ef1bfb897513bb4b0bd36938f0", func := "lavabo/lavabolaw04.FieldBack", spec := "fieldBack", unfollowed := true, recurses := true, named := ["lavabo/crc.nibbles"], apart := false, laid := [("lavabo/crc.nibbles", laid_lavabo_crc_nibbles)] }
def FieldBackSaid : Prop := fieldBackRow.holds Tryd.pinned (OpenSpec.ofChange fieldBackSpec)

/-- ITS FALSE NEIGHBOUR: 'it returns false'. Refute it at one input. -/
def fieldBackWrong : ChangeSpec := { name := "fieldBack", fn := fun _ => fun
  | [d1, d2] => { results := [.lit (.bool false)], args := [d1, d2] }
  | _ => none }
def FieldBackWrongFalsely : Prop := fieldBackRow.holds Tryd.pinned (OpenSpec.ofChange fieldBackWrong)

/-- 'lavabolaw04.FieldParts': WHATEVER THE INPUT: true; the input reads as it did. -/
def fieldPartsSpec : ChangeSpec := { name := "fieldParts", fn := fun _ => fun
  | [d1, d2] => { results := [.lit (.bool true)], args := [d1, d2] }
  | _ => none }
def fieldPartsRow : OpenClaim := { program := "ytopheimplclfcaadoor", sum := "6510a822cbd223bd36d37789e3397551dd9f52ef1bfb897513bb4b0bd36938f0", func := "lavabo/lavabolaw04.FieldParts", spec := "fieldParts", unfollowed := true, recurses := true, named := ["lavabo/crc.nibbles"], apart := false, laid := [("lavabo/crc.nibbles", laid_lavabo_crc_nibbles)] }
def FieldPartsSaid : Prop := fieldPartsRow.holds Tryd.pinned (OpenSpec.ofChange fieldPartsSpec)

/-- ITS FALSE NEIGHBOUR: 'it returns false'. Refute it at one input. -/
def fieldPartsWrong : ChangeSpec := { name := "fieldParts", fn := fun _ => fun
  | [d1, d2] => { results := [.lit (.bool false)], args := [d1, d2] }
  | _ => none }
def FieldPartsWrongFalsely : Prop := fieldPartsRow.holds Tryd.pinned (OpenSpec.ofChange fieldPartsWrong)

/-- 'lavabolaw04.FieldNil': WHATEVER THE INPUT: true; the input reads as it did. -/
def fieldNilSpec : ChangeSpec := { name := "fieldNil", fn := fun _ => fun
  | [d1, d2] => { results := [.lit (.bool true)], args := [d1, d2] }
  | _ => none }
def fieldNilRow : OpenClaim := { program := "ytopheimplclfcaadoor", sum := "6510a822cbd223bd36d37789e3397551dd9f52ef1bfb897513bb4b0bd36938f0", func := "lavabo/lavabolaw04.FieldNil", spec := "fieldNil", unfollowed := true, recurses := true, named := ["lavabo/crc.nibbles"], apart := false, laid := [("lavabo/crc.nibbles", laid_lavabo_crc_nibbles)] }
def FieldNilSaid : Prop := fieldNilRow.holds Tryd.pinned (OpenSpec.ofChange fieldNilSpec)

/-- ITS FALSE NEIGHBOUR: 'it returns false'. Refute it at one input. -/
def fieldNilWrong : ChangeSpec := { name := "fieldNil", fn := fun _ => fun
  | [d1, d2] => { results := [.lit (.bool false)], args := [d1, d2] }
  | _ => none }
def FieldNilWrongFalsely : Prop := fieldNilRow.holds Tryd.pinned (OpenSpec.ofChange fieldNilWrong)

/-- 'lavabolaw08.SlotsPlays': WHATEVER THE INPUT: true; the input reads as it did. -/
def slotsPlaysSpec : ChangeSpec := { name := "slotsPlays", fn := fun _ => fun
  | [d1, d2] => { results := [.lit (.bool true)], args := [d1, d2] }
  | _ => none }
def slotsPlaysRow : OpenClaim := { program := "ytopheimplclfcaadoor", sum := "6510a822cbd223bd36d37789e3397551dd9f52ef1bfb897513bb4b0bd36938f0", func := "lavabo/lavabolaw08.SlotsPlays", spec := "slotsPlays", unfollowed := true, recurses := true, named := ["lavabo/slots.turns"], apart := false, laid := [("lavabo/slots.turns", laid_lavabo_slots_turns)] }
def SlotsPlaysSaid : Prop := slotsPlaysRow.holds Tryd.pinned (OpenSpec.ofChange slotsPlaysSpec)

/-- ITS FALSE NEIGHBOUR: 'it returns false'. Refute it at one input. -/
def slotsPlaysWrong : ChangeSpec := { name := "slotsPlays", fn := fun _ => fun
  | [d1, d2] => { results := [.lit (.bool false)], args := [d1, d2] }
  | _ => none }
def SlotsPlaysWrongFalsely : Prop := slotsPlaysRow.holds Tryd.pinned (OpenSpec.ofChange slotsPlaysWrong)

/-- 'lavabolaw08.SlotsMay': WHATEVER THE INPUT: true; the input reads as it did. -/
def slotsMaySpec : ChangeSpec := { name := "slotsMay", fn := fun _ => fun
  | [d1, d2] => { results := [.lit (.bool true)], args := [d1, d2] }
  | _ => none }
def slotsMayRow : OpenClaim := { program := "ytopheimplclfcaadoor", sum := "6510a822cbd223bd36d37789e3397551dd9f52ef1bfb897513bb4b0bd36938f0", func := "lavabo/lavabolaw08.SlotsMay", spec := "slotsMay", named := ["lavabo/slots.turns"], apart := false, laid := [("lavabo/slots.turns", laid_lavabo_slots_turns)] }
def SlotsMaySaid : Prop := slotsMayRow.holds Tryd.pinned (OpenSpec.ofChange slotsMaySpec)

/-- ITS FALSE NEIGHBOUR: 'it returns false'. Refute it at one input. -/
def slotsMayWrong : ChangeSpec := { name := "slotsMay", fn := fun _ => fun
  | [d1, d2] => { results := [.lit (.bool false)], args := [d1, d2] }
  | _ => none }
def SlotsMayWrongFalsely : Prop := slotsMayRow.holds Tryd.pinned (OpenSpec.ofChange slotsMayWrong)

/-- 'lavabolaw08.SlotsWhole': WHATEVER THE INPUT: true; the input reads as it did. -/
def slotsWholeSpec : ChangeSpec := { name := "slotsWhole", fn := fun _ => fun
  | [d1, d2] => { results := [.lit (.bool true)], args := [d1, d2] }
  | _ => none }
def slotsWholeRow : OpenClaim := { program := "ytopheimplclfcaadoor", sum := "6510a822cbd223bd36d37789e3397551dd9f52ef1bfb897513bb4b0bd36938f0", func := "lavabo/lavabolaw08.SlotsWhole", spec := "slotsWhole", unfollowed := true, recurses := true, named := ["lavabo/slots.turns"], apart := false, laid := [("lavabo/slots.turns", laid_lavabo_slots_turns)] }
def SlotsWholeSaid : Prop := slotsWholeRow.holds Tryd.pinned (OpenSpec.ofChange slotsWholeSpec)

/-- ITS FALSE NEIGHBOUR: 'it returns false'. Refute it at one input. -/
def slotsWholeWrong : ChangeSpec := { name := "slotsWhole", fn := fun _ => fun
  | [d1, d2] => { results := [.lit (.bool false)], args := [d1, d2] }
  | _ => none }
def SlotsWholeWrongFalsely : Prop := slotsWholeRow.holds Tryd.pinned (OpenSpec.ofChange slotsWholeWrong)

/-- 'lavabolaw08.SlotsRound': WHATEVER THE INPUT: true; the input reads as it did. -/
def slotsRoundSpec : ChangeSpec := { name := "slotsRound", fn := fun _ => fun
  | [d] => { results := [.lit (.bool true)], args := [d] }
  | _ => none }
def slotsRoundRow : OpenClaim := { program := "ytopheimplclfcaadoor", sum := "6510a822cbd223bd36d37789e3397551dd9f52ef1bfb897513bb4b0bd36938f0", func := "lavabo/lavabolaw08.SlotsRound", spec := "slotsRound", unfollowed := true, recurses := true, named := ["lavabo/slots.turns"], apart := false, laid := [("lavabo/slots.turns", laid_lavabo_slots_turns)] }
def SlotsRoundSaid : Prop := slotsRoundRow.holds Tryd.pinned (OpenSpec.ofChange slotsRoundSpec)

/-- ITS FALSE NEIGHBOUR: 'it returns false'. Refute it at one input. -/
def slotsRoundWrong : ChangeSpec := { name := "slotsRound", fn := fun _ => fun
  | [d] => { results := [.lit (.bool false)], args := [d] }
  | _ => none }
def SlotsRoundWrongFalsely : Prop := slotsRoundRow.holds Tryd.pinned (OpenSpec.ofChange slotsRoundWrong)

/-- 'lavabolaw08.SlotsNil': WHATEVER THE INPUT: true; the input reads as it did. -/
def slotsNilSpec : ChangeSpec := { name := "slotsNil", fn := fun _ => fun
  | [d1, d2] => { results := [.lit (.bool true)], args := [d1, d2] }
  | _ => none }
def slotsNilRow : OpenClaim := { program := "ytopheimplclfcaadoor", sum := "6510a822cbd223bd36d37789e3397551dd9f52ef1bfb897513bb4b0bd36938f0", func := "lavabo/lavabolaw08.SlotsNil", spec := "slotsNil", unfollowed := true, recurses := true, named := ["lavabo/slots.turns"], apart := false, laid := [("lavabo/slots.turns", laid_lavabo_slots_turns)] }
def SlotsNilSaid : Prop := slotsNilRow.holds Tryd.pinned (OpenSpec.ofChange slotsNilSpec)

/-- ITS FALSE NEIGHBOUR: 'it returns false'. Refute it at one input. -/
def slotsNilWrong : ChangeSpec := { name := "slotsNil", fn := fun _ => fun
  | [d1, d2] => { results := [.lit (.bool false)], args := [d1, d2] }
  | _ => none }
def SlotsNilWrongFalsely : Prop := slotsNilRow.holds Tryd.pinned (OpenSpec.ofChange slotsNilWrong)

/-- 'lavabolaw08.SlotsTakes': WHATEVER THE INPUT: true; the input reads as it did. -/
def slotsTakesSpec : ChangeSpec := { name := "slotsTakes", fn := fun _ => fun
  | [d1, d2] => { results := [.lit (.bool true)], args := [d1, d2] }
  | _ => none }
def slotsTakesRow : OpenClaim := { program := "ytopheimplclfcaadoor", sum := "6510a822cbd223bd36d37789e3397551dd9f52ef1bfb897513bb4b0bd36938f0", func := "lavabo/lavabolaw08.SlotsTakes", spec := "slotsTakes", unfollowed := true, recurses := true, named := ["lavabo/slots.turns"], apart := false, laid := [("lavabo/slots.turns", laid_lavabo_slots_turns)] }
def SlotsTakesSaid : Prop := slotsTakesRow.holds Tryd.pinned (OpenSpec.ofChange slotsTakesSpec)

/-- ITS FALSE NEIGHBOUR: 'it returns false'. Refute it at one input. -/
def slotsTakesWrong : ChangeSpec := { name := "slotsTakes", fn := fun _ => fun
  | [d1, d2] => { results := [.lit (.bool false)], args := [d1, d2] }
  | _ => none }
def SlotsTakesWrongFalsely : Prop := slotsTakesRow.holds Tryd.pinned (OpenSpec.ofChange slotsTakesWrong)

/- THE SECOND FORM. 'bulk': how many values and letters a reading holds, each counted each time it is reached (what is shared counts as often as it is met; a slice's spare places count too). A statement '..UptoSaid' is the law's where the arguments, and the package variables that the reading takes, are together of bulk at most 1048576: NARROWER than '..Said'. Prove '..Said' where nothing that the law and all that it calls make is longer than what came in: it says more and counts as full. Else prove '..UptoSaid'. A law counts once. -/
mutual
def uptoBulk {H : Type} : DataW H → Nat
  | .lit (.string bytes) => bytes.length + 1
  | .lit _ => 1
  | .nil => 1
  | .ptr d => uptoBulk d + 1
  | .slice elems spare => uptoBulkAll elems + uptoBulkAll spare + 1
  | .agg parts => uptoBulkAll parts + 1
  | .iface _ d => uptoBulk d + 1
  | .map entries => uptoBulkEntries entries + 1
  | .held _ => 1
def uptoBulkAll {H : Type} : List (DataW H) → Nat
  | [] => 0
  | d :: r => uptoBulk d + uptoBulkAll r
def uptoBulkEntries {H : Type} : List (Lit × DataW H) → Nat
  | [] => 0
  | x :: r => uptoBulkEntry x + uptoBulkEntries r
def uptoBulkEntry {H : Type} : Lit × DataW H → Nat
  | (.string bytes, d) => bytes.length + uptoBulk d + 1
  | (_, d) => uptoBulk d + 1
 end
def uptoSmall : (H : Type) → List (DataW H) → Bool := fun _ ds => decide (uptoBulkAll ds ≤ 1048576)
def OpenSpec.upto (s : _root_.Go.ChangeSpec) : _root_.Go.OpenSpec := { _root_.Go.OpenSpec.ofChange s with cond := some uptoSmall }

/-- 'lavabolaw04.FieldPuts', WHERE WHAT IT READS IS OF BULK AT MOST 1048576: true; the input reads as it did. -/
def fieldPutsUptoRow : OpenClaim := { program := "ytopheimplclfcaadoor", sum := "6510a822cbd223bd36d37789e3397551dd9f52ef1bfb897513bb4b0bd36938f0", func := "lavabo/lavabolaw04.FieldPuts", spec := "fieldPuts", unfollowed := true, recurses := true, named := ["lavabo/crc.nibbles"], apart := false, laid := [("lavabo/crc.nibbles", laid_lavabo_crc_nibbles)], narrowed := true }
def FieldPutsUptoSaid : Prop := fieldPutsUptoRow.holds Tryd.pinned (OpenSpec.upto fieldPutsSpec)

/-- 'lavabolaw04.FieldSeals', WHERE WHAT IT READS IS OF BULK AT MOST 1048576: true; the input reads as it did. -/
def fieldSealsUptoRow : OpenClaim := { program := "ytopheimplclfcaadoor", sum := "6510a822cbd223bd36d37789e3397551dd9f52ef1bfb897513bb4b0bd36938f0", func := "lavabo/lavabolaw04.FieldSeals", spec := "fieldSeals", unfollowed := true, recurses := true, named := ["lavabo/crc.nibbles"], apart := false, laid := [("lavabo/crc.nibbles", laid_lavabo_crc_nibbles)], narrowed := true }
def FieldSealsUptoSaid : Prop := fieldSealsUptoRow.holds Tryd.pinned (OpenSpec.upto fieldSealsSpec)

/-- 'lavabolaw04.FieldBack', WHERE WHAT IT READS IS OF BULK AT MOST 1048576: true; the input reads as it did. -/
def fieldBackUptoRow : OpenClaim := { program := "ytopheimplclfcaadoor", sum := "6510a822cbd223bd36d37789e3397551dd9f52ef1bfb897513bb4b0bd36938f0", func := "lavabo/lavabolaw04.FieldBack", spec := "fieldBack", unfollowed := true, recurses := true, named := ["lavabo/crc.nibbles"], apart := false, laid := [("lavabo/crc.nibbles", laid_lavabo_crc_nibbles)], narrowed := true }
def FieldBackUptoSaid : Prop := fieldBackUptoRow.holds Tryd.pinned (OpenSpec.upto fieldBackSpec)

/-- 'lavabolaw04.FieldParts', WHERE WHAT IT READS IS OF BULK AT MOST 1048576: true; the input reads as it did. -/
def fieldPartsUptoRow : OpenClaim := { program := "ytopheimplclfcaadoor", sum := "6510a822cbd223bd36d37789e3397551dd9f52ef1bfb897513bb4b0bd36938f0", func := "lavabo/lavabolaw04.FieldParts", spec := "fieldParts", unfollowed := true, recurses := true, named := ["lavabo/crc.nibbles"], apart := false, laid := [("lavabo/crc.nibbles", laid_lavabo_crc_nibbles)], narrowed := true }
def FieldPartsUptoSaid : Prop := fieldPartsUptoRow.holds Tryd.pinned (OpenSpec.upto fieldPartsSpec)

/-- 'lavabolaw04.FieldNil', WHERE WHAT IT READS IS OF BULK AT MOST 1048576: true; the input reads as it did. -/
def fieldNilUptoRow : OpenClaim := { program := "ytopheimplclfcaadoor", sum := "6510a822cbd223bd36d37789e3397551dd9f52ef1bfb897513bb4b0bd36938f0", func := "lavabo/lavabolaw04.FieldNil", spec := "fieldNil", unfollowed := true, recurses := true, named := ["lavabo/crc.nibbles"], apart := false, laid := [("lavabo/crc.nibbles", laid_lavabo_crc_nibbles)], narrowed := true }
def FieldNilUptoSaid : Prop := fieldNilUptoRow.holds Tryd.pinned (OpenSpec.upto fieldNilSpec)

/-- 'lavabolaw08.SlotsPlays', WHERE WHAT IT READS IS OF BULK AT MOST 1048576: true; the input reads as it did. -/
def slotsPlaysUptoRow : OpenClaim := { program := "ytopheimplclfcaadoor", sum := "6510a822cbd223bd36d37789e3397551dd9f52ef1bfb897513bb4b0bd36938f0", func := "lavabo/lavabolaw08.SlotsPlays", spec := "slotsPlays", unfollowed := true, recurses := true, named := ["lavabo/slots.turns"], apart := false, laid := [("lavabo/slots.turns", laid_lavabo_slots_turns)], narrowed := true }
def SlotsPlaysUptoSaid : Prop := slotsPlaysUptoRow.holds Tryd.pinned (OpenSpec.upto slotsPlaysSpec)

/-- 'lavabolaw08.SlotsMay', WHERE WHAT IT READS IS OF BULK AT MOST 1048576: true; the input reads as it did. -/
def slotsMayUptoRow : OpenClaim := { program := "ytopheimplclfcaadoor", sum := "6510a822cbd223bd36d37789e3397551dd9f52ef1bfb897513bb4b0bd36938f0", func := "lavabo/lavabolaw08.SlotsMay", spec := "slotsMay", named := ["lavabo/slots.turns"], apart := false, laid := [("lavabo/slots.turns", laid_lavabo_slots_turns)], narrowed := true }
def SlotsMayUptoSaid : Prop := slotsMayUptoRow.holds Tryd.pinned (OpenSpec.upto slotsMaySpec)

/-- 'lavabolaw08.SlotsWhole', WHERE WHAT IT READS IS OF BULK AT MOST 1048576: true; the input reads as it did. -/
def slotsWholeUptoRow : OpenClaim := { program := "ytopheimplclfcaadoor", sum := "6510a822cbd223bd36d37789e3397551dd9f52ef1bfb897513bb4b0bd36938f0", func := "lavabo/lavabolaw08.SlotsWhole", spec := "slotsWhole", unfollowed := true, recurses := true, named := ["lavabo/slots.turns"], apart := false, laid := [("lavabo/slots.turns", laid_lavabo_slots_turns)], narrowed := true }
def SlotsWholeUptoSaid : Prop := slotsWholeUptoRow.holds Tryd.pinned (OpenSpec.upto slotsWholeSpec)

/-- 'lavabolaw08.SlotsRound', WHERE WHAT IT READS IS OF BULK AT MOST 1048576: true; the input reads as it did. -/
def slotsRoundUptoRow : OpenClaim := { program := "ytopheimplclfcaadoor", sum := "6510a822cbd223bd36d37789e3397551dd9f52ef1bfb897513bb4b0bd36938f0", func := "lavabo/lavabolaw08.SlotsRound", spec := "slotsRound", unfollowed := true, recurses := true, named := ["lavabo/slots.turns"], apart := false, laid := [("lavabo/slots.turns", laid_lavabo_slots_turns)], narrowed := true }
def SlotsRoundUptoSaid : Prop := slotsRoundUptoRow.holds Tryd.pinned (OpenSpec.upto slotsRoundSpec)

/-- 'lavabolaw08.SlotsNil', WHERE WHAT IT READS IS OF BULK AT MOST 1048576: true; the input reads as it did. -/
def slotsNilUptoRow : OpenClaim := { program := "ytopheimplclfcaadoor", sum := "6510a822cbd223bd36d37789e3397551dd9f52ef1bfb897513bb4b0bd36938f0", func := "lavabo/lavabolaw08.SlotsNil", spec := "slotsNil", unfollowed := true, recurses := true, named := ["lavabo/slots.turns"], apart := false, laid := [("lavabo/slots.turns", laid_lavabo_slots_turns)], narrowed := true }
def SlotsNilUptoSaid : Prop := slotsNilUptoRow.holds Tryd.pinned (OpenSpec.upto slotsNilSpec)

/-- 'lavabolaw08.SlotsTakes', WHERE WHAT IT READS IS OF BULK AT MOST 1048576: true; the input reads as it did. -/
def slotsTakesUptoRow : OpenClaim := { program := "ytopheimplclfcaadoor", sum := "6510a822cbd223bd36d37789e3397551dd9f52ef1bfb897513bb4b0bd36938f0", func := "lavabo/lavabolaw08.SlotsTakes", spec := "slotsTakes", unfollowed := true, recurses := true, named := ["lavabo/slots.turns"], apart := false, laid := [("lavabo/slots.turns", laid_lavabo_slots_turns)], narrowed := true }
def SlotsTakesUptoSaid : Prop := slotsTakesUptoRow.holds Tryd.pinned (OpenSpec.upto slotsTakesSpec)

end Rows
end Go.Proofs.YtopheimplclfcaaDoor
