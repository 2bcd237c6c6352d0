/-
  NARROWER THAN 'FOR EVERY INPUT', by the rows' own cells (each row's printed sentence says how): FormCaches: laid · FormPages: laid.
  DERIVED. THE GIVEN ROWS OF THIS SEAT. 2 by the template 'for every input the law returns true; each argument reads behind the call as it read before'; 0 by the template 'total and deterministic' (their statements: YtpifiamafgaadaaDoorTotals.lean).
  GIVEN WITH THE SEED: the statements are not yours to turn. If you find one false, say at which input.
  Laid BY PROGRAM, IN A SANDBOX (cutbox-rows.mjs): the forced cells as the released guide's own fill.sh prints them over the translation 63d8e0116bcb97a8… (all of the seat's roots in one cut). By AI agents, Wed Nov 11 2026. No macro, syntax, notation, axiom, sorry.
-/
import Derived.Test.YtpifiamafgaadaaDoorChecked
import GoSem.Claim
import GoSem.ClaimJoined
import GoSem.ClaimMapViews
import Derived.JoinedTies
import Derived.KernelRfl
namespace Go.Proofs.YtpifiamafgaadaaDoor
/- THE CELL 'sum', in the pinned program and in every row, IS THE sha256 OF THE DUMP (.gsa) THAT YtpifiamafgaadaaDoorProg.lean LOADS. Nothing in Lean hashes anything: it is a label: what it is worth is what the hold of that sum in a sandbox is worth. -/
noncomputable def Tryd.pinned : Pinned := { name := "ytpifiamafgaadaadoor", sum := "63d8e0116bcb97a865ef3db522b7dc1aeee05bb6e2ace119e4a8b17c220b4f84", checked := Tryd.checked }
namespace Rows
def none {H : Type} : Left H := { results := [], args := [] }

/- WHAT THE LISTED PACKAGE-LEVEL VARIABLES READ AS WHEN THE CALL BEGINS. Each datum BY PROGRAM (the guide's laid-datum.mjs) off the statement by which the dump's own 'gosem.cut.vars' lays the variable. In a bare row this is a premise. The card (YtpifiamafgaadaaDoorCards.lean) ties it to the program's text. -/
def laid_lavabo_crc_nibbles {H : Type} : DataW H := .agg [.lit (.int .u32 0), .lit (.int .u32 274646895), .lit (.int .u32 549293790), .lit (.int .u32 820201905), .lit (.int .u32 1098587580), .lit (.int .u32 1361435347), .lit (.int .u32 1640403810), .lit (.int .u32 1905808397), .lit (.int .u32 2197175160), .lit (.int .u32 2460548119), .lit (.int .u32 2722870694), .lit (.int .u32 2987750089), .lit (.int .u32 3280807620), .lit (.int .u32 3553878443), .lit (.int .u32 3811616794), .lit (.int .u32 4084100981)]

/-- 'lavabolaw06.FormCaches': WHATEVER THE INPUT: true; the input reads as it did. -/
def formCachesSpec : ChangeSpec := { name := "formCaches", fn := fun _ => fun
  | [d1, d2] => { results := [.lit (.bool true)], args := [d1, d2] }
  | _ => none }
def formCachesRow : OpenClaim := { program := "ytpifiamafgaadaadoor", sum := "63d8e0116bcb97a865ef3db522b7dc1aeee05bb6e2ace119e4a8b17c220b4f84", func := "lavabo/lavabolaw06.FormCaches", spec := "formCaches", unfollowed := true, recurses := true, named := ["lavabo/crc.nibbles"], apart := false, laid := [("lavabo/crc.nibbles", laid_lavabo_crc_nibbles)] }
def FormCachesSaid : Prop := formCachesRow.holds Tryd.pinned (OpenSpec.ofChange formCachesSpec)

/-- ITS FALSE NEIGHBOUR: 'it returns false'. Refute it at one input. -/
def formCachesWrong : ChangeSpec := { name := "formCaches", fn := fun _ => fun
  | [d1, d2] => { results := [.lit (.bool false)], args := [d1, d2] }
  | _ => none }
def FormCachesWrongFalsely : Prop := formCachesRow.holds Tryd.pinned (OpenSpec.ofChange formCachesWrong)

/-- 'lavabolaw06.FormPages': WHATEVER THE INPUT: true; the input reads as it did. -/
def formPagesSpec : ChangeSpec := { name := "formPages", fn := fun _ => fun
  | [d] => { results := [.lit (.bool true)], args := [d] }
  | _ => none }
def formPagesRow : OpenClaim := { program := "ytpifiamafgaadaadoor", sum := "63d8e0116bcb97a865ef3db522b7dc1aeee05bb6e2ace119e4a8b17c220b4f84", func := "lavabo/lavabolaw06.FormPages", spec := "formPages", unfollowed := true, recurses := true, named := ["lavabo/crc.nibbles"], apart := false, laid := [("lavabo/crc.nibbles", laid_lavabo_crc_nibbles)] }
def FormPagesSaid : Prop := formPagesRow.holds Tryd.pinned (OpenSpec.ofChange formPagesSpec)

/-- ITS FALSE NEIGHBOUR: 'it returns false'. Refute it at one input. -/
def formPagesWrong : ChangeSpec := { name := "formPages", fn := fun _ => fun
  | [d] => { results := [.lit (.bool false)], args := [d] }
  | _ => none }
def FormPagesWrongFalsely : Prop := formPagesRow.holds Tryd.pinned (OpenSpec.ofChange formPagesWrong)

/- THE SECOND FORM. 'bulk': how many values and letters a reading holds, each counted each time it is reached (what is shared counts as often as it is met; a slice's spare places count too). A statement '..UptoSaid' is the law's where the arguments, and the package variables that the reading takes, are together of bulk at most 1048576: NARROWER than '..Said'. Prove '..Said' where nothing that the law and all that it calls make is longer than what came in: it says more and counts as full. Else prove '..UptoSaid'. A law counts once. -/
mutual
def uptoBulk {H : Type} : DataW H → Nat
  | .lit (.string bytes) => bytes.length + 1
  | .lit _ => 1
  | .nil => 1
  | .ptr d => uptoBulk d + 1
  | .slice elems spare => uptoBulkAll elems + uptoBulkAll spare + 1
  | .agg parts => uptoBulkAll parts + 1
  | .iface _ d => uptoBulk d + 1
  | .map entries => uptoBulkEntries entries + 1
  | .held _ => 1
def uptoBulkAll {H : Type} : List (DataW H) → Nat
  | [] => 0
  | d :: r => uptoBulk d + uptoBulkAll r
def uptoBulkEntries {H : Type} : List (Lit × DataW H) → Nat
  | [] => 0
  | x :: r => uptoBulkEntry x + uptoBulkEntries r
def uptoBulkEntry {H : Type} : Lit × DataW H → Nat
  | (.string bytes, d) => bytes.length + uptoBulk d + 1
  | (_, d) => uptoBulk d + 1
 end
def uptoSmall : (H : Type) → List (DataW H) → Bool := fun _ ds => decide (uptoBulkAll ds ≤ 1048576)
def OpenSpec.upto (s : _root_.Go.ChangeSpec) : _root_.Go.OpenSpec := { _root_.Go.OpenSpec.ofChange s with cond := some uptoSmall }

/-- 'lavabolaw06.FormCaches', WHERE WHAT IT READS IS OF BULK AT MOST 1048576: true; the input reads as it did. -/
def formCachesUptoRow : OpenClaim := { program := "ytpifiamafgaadaadoor", sum := "63d8e0116bcb97a865ef3db522b7dc1aeee05bb6e2ace119e4a8b17c220b4f84", func := "lavabo/lavabolaw06.FormCaches", spec := "formCaches", unfollowed := true, recurses := true, named := ["lavabo/crc.nibbles"], apart := false, laid := [("lavabo/crc.nibbles", laid_lavabo_crc_nibbles)], narrowed := true }
def FormCachesUptoSaid : Prop := formCachesUptoRow.holds Tryd.pinned (OpenSpec.upto formCachesSpec)

/-- 'lavabolaw06.FormPages', WHERE WHAT IT READS IS OF BULK AT MOST 1048576: true; the input reads as it did. -/
def formPagesUptoRow : OpenClaim := { program := "ytpifiamafgaadaadoor", sum := "63d8e0116bcb97a865ef3db522b7dc1aeee05bb6e2ace119e4a8b17c220b4f84", func := "lavabo/lavabolaw06.FormPages", spec := "formPages", unfollowed := true, recurses := true, named := ["lavabo/crc.nibbles"], apart := false, laid := [("lavabo/crc.nibbles", laid_lavabo_crc_nibbles)], narrowed := true }
def FormPagesUptoSaid : Prop := formPagesUptoRow.holds Tryd.pinned (OpenSpec.upto formPagesSpec)

end Rows
end Go.Proofs.YtpifiamafgaadaaDoor
