/-
  DERIVED. GIVEN WITH THE SEED: THE CARDS: each row of YtopheimplclfcaaDoorRows.lean that lists a variable, with what it lists TIED to the program's text (the seventh form; the later family's looks); each row that meets fmt, with fmt's text TOLD by the authors' own Lean function (tested against real Go, not proved from fmt's source: count such statements apart). THE CARD IS WHAT COUNTS. Prove the row's statement (the work); the ties are given (YtopheimplclfcaaDoorTie.lean); close each card by the builder's one call (the guide's Derived/Test/ToyasCard.lean, 'card_holds'). Laid BY PROGRAM, IN A SANDBOX (cutbox-door.mjs). By AI agents, Wed Nov 11 2026. No macro, syntax, notation, axiom, sorry.
-/
import Derived.Test.YtopheimplclfcaaDoorRows
import GoSem.ClaimSeven
namespace Go.Proofs.YtopheimplclfcaaDoor
namespace Rows

/-- THE TIED CARD OF 'lavabolaw04.FieldPuts'. -/
def fieldPutsCard : Claim7 := { stood := { row := fieldPutsRow, standIns := [], harness := (true, "0c0e3625b9a8b4f3a2235fab0bf1dbd4102e673ffa77fccc8cb029992916d7f0"), looks := false }, kinds := [], alts := [], laidByText := true, laidKinds := [.data], laidTests := true, laidLooks := .later }
def FieldPutsCardSaid : Prop := Claim7.holds Tryd.pinned (.plain (OpenSpec.ofChange fieldPutsSpec)) fieldPutsCard

/-- THE TIED CARD OF 'lavabolaw04.FieldSeals'. -/
def fieldSealsCard : Claim7 := { stood := { row := fieldSealsRow, standIns := [], harness := (true, "0c0e3625b9a8b4f3a2235fab0bf1dbd4102e673ffa77fccc8cb029992916d7f0"), looks := false }, kinds := [], alts := [], laidByText := true, laidKinds := [.data], laidTests := true, laidLooks := .later }
def FieldSealsCardSaid : Prop := Claim7.holds Tryd.pinned (.plain (OpenSpec.ofChange fieldSealsSpec)) fieldSealsCard

/-- THE TIED CARD OF 'lavabolaw04.FieldBack'. -/
def fieldBackCard : Claim7 := { stood := { row := fieldBackRow, standIns := [], harness := (true, "0c0e3625b9a8b4f3a2235fab0bf1dbd4102e673ffa77fccc8cb029992916d7f0"), looks := false }, kinds := [], alts := [], laidByText := true, laidKinds := [.data], laidTests := true, laidLooks := .later }
def FieldBackCardSaid : Prop := Claim7.holds Tryd.pinned (.plain (OpenSpec.ofChange fieldBackSpec)) fieldBackCard

/-- THE TIED CARD OF 'lavabolaw04.FieldParts'. -/
def fieldPartsCard : Claim7 := { stood := { row := fieldPartsRow, standIns := [], harness := (true, "0c0e3625b9a8b4f3a2235fab0bf1dbd4102e673ffa77fccc8cb029992916d7f0"), looks := false }, kinds := [], alts := [], laidByText := true, laidKinds := [.data], laidTests := true, laidLooks := .later }
def FieldPartsCardSaid : Prop := Claim7.holds Tryd.pinned (.plain (OpenSpec.ofChange fieldPartsSpec)) fieldPartsCard

/-- THE TIED CARD OF 'lavabolaw04.FieldNil'. -/
def fieldNilCard : Claim7 := { stood := { row := fieldNilRow, standIns := [], harness := (true, "0c0e3625b9a8b4f3a2235fab0bf1dbd4102e673ffa77fccc8cb029992916d7f0"), looks := false }, kinds := [], alts := [], laidByText := true, laidKinds := [.data], laidTests := true, laidLooks := .later }
def FieldNilCardSaid : Prop := Claim7.holds Tryd.pinned (.plain (OpenSpec.ofChange fieldNilSpec)) fieldNilCard

/-- THE TIED CARD OF 'lavabolaw08.SlotsPlays'. -/
def slotsPlaysCard : Claim7 := { stood := { row := slotsPlaysRow, standIns := [], harness := (true, "0c0e3625b9a8b4f3a2235fab0bf1dbd4102e673ffa77fccc8cb029992916d7f0"), looks := false }, kinds := [], alts := [], laidByText := true, laidKinds := [.data], laidTests := true, laidLooks := .later }
def SlotsPlaysCardSaid : Prop := Claim7.holds Tryd.pinned (.plain (OpenSpec.ofChange slotsPlaysSpec)) slotsPlaysCard

/-- THE TIED CARD OF 'lavabolaw08.SlotsMay'. -/
def slotsMayCard : Claim7 := { stood := { row := slotsMayRow, standIns := [], harness := (true, "0c0e3625b9a8b4f3a2235fab0bf1dbd4102e673ffa77fccc8cb029992916d7f0"), looks := false }, kinds := [], alts := [], laidByText := true, laidKinds := [.data], laidTests := true, laidLooks := .later }
def SlotsMayCardSaid : Prop := Claim7.holds Tryd.pinned (.plain (OpenSpec.ofChange slotsMaySpec)) slotsMayCard

/-- THE TIED CARD OF 'lavabolaw08.SlotsWhole'. -/
def slotsWholeCard : Claim7 := { stood := { row := slotsWholeRow, standIns := [], harness := (true, "0c0e3625b9a8b4f3a2235fab0bf1dbd4102e673ffa77fccc8cb029992916d7f0"), looks := false }, kinds := [], alts := [], laidByText := true, laidKinds := [.data], laidTests := true, laidLooks := .later }
def SlotsWholeCardSaid : Prop := Claim7.holds Tryd.pinned (.plain (OpenSpec.ofChange slotsWholeSpec)) slotsWholeCard

/-- THE TIED CARD OF 'lavabolaw08.SlotsRound'. -/
def slotsRoundCard : Claim7 := { stood := { row := slotsRoundRow, standIns := [], harness := (true, "0c0e3625b9a8b4f3a2235fab0bf1dbd4102e673ffa77fccc8cb029992916d7f0"), looks := false }, kinds := [], alts := [], laidByText := true, laidKinds := [.data], laidTests := true, laidLooks := .later }
def SlotsRoundCardSaid : Prop := Claim7.holds Tryd.pinned (.plain (OpenSpec.ofChange slotsRoundSpec)) slotsRoundCard

/-- THE TIED CARD OF 'lavabolaw08.SlotsNil'. -/
def slotsNilCard : Claim7 := { stood := { row := slotsNilRow, standIns := [], harness := (true, "0c0e3625b9a8b4f3a2235fab0bf1dbd4102e673ffa77fccc8cb029992916d7f0"), looks := false }, kinds := [], alts := [], laidByText := true, laidKinds := [.data], laidTests := true, laidLooks := .later }
def SlotsNilCardSaid : Prop := Claim7.holds Tryd.pinned (.plain (OpenSpec.ofChange slotsNilSpec)) slotsNilCard

/-- THE TIED CARD OF 'lavabolaw08.SlotsTakes'. -/
def slotsTakesCard : Claim7 := { stood := { row := slotsTakesRow, standIns := [], harness := (true, "0c0e3625b9a8b4f3a2235fab0bf1dbd4102e673ffa77fccc8cb029992916d7f0"), looks := false }, kinds := [], alts := [], laidByText := true, laidKinds := [.data], laidTests := true, laidLooks := .later }
def SlotsTakesCardSaid : Prop := Claim7.holds Tryd.pinned (.plain (OpenSpec.ofChange slotsTakesSpec)) slotsTakesCard

/-- THE SECOND FORM's CARD OF 'lavabolaw04.FieldPuts'. -/
def fieldPutsUptoCard : Claim7 := { stood := { row := fieldPutsUptoRow, standIns := [], harness := (true, "0c0e3625b9a8b4f3a2235fab0bf1dbd4102e673ffa77fccc8cb029992916d7f0"), looks := false }, kinds := [], alts := [], laidByText := true, laidKinds := [.data], laidTests := true, laidLooks := .later }
def FieldPutsUptoCardSaid : Prop := Claim7.holds Tryd.pinned (.plain (OpenSpec.upto fieldPutsSpec)) fieldPutsUptoCard

/-- THE SECOND FORM's CARD OF 'lavabolaw04.FieldSeals'. -/
def fieldSealsUptoCard : Claim7 := { stood := { row := fieldSealsUptoRow, standIns := [], harness := (true, "0c0e3625b9a8b4f3a2235fab0bf1dbd4102e673ffa77fccc8cb029992916d7f0"), looks := false }, kinds := [], alts := [], laidByText := true, laidKinds := [.data], laidTests := true, laidLooks := .later }
def FieldSealsUptoCardSaid : Prop := Claim7.holds Tryd.pinned (.plain (OpenSpec.upto fieldSealsSpec)) fieldSealsUptoCard

/-- THE SECOND FORM's CARD OF 'lavabolaw04.FieldBack'. -/
def fieldBackUptoCard : Claim7 := { stood := { row := fieldBackUptoRow, standIns := [], harness := (true, "0c0e3625b9a8b4f3a2235fab0bf1dbd4102e673ffa77fccc8cb029992916d7f0"), looks := false }, kinds := [], alts := [], laidByText := true, laidKinds := [.data], laidTests := true, laidLooks := .later }
def FieldBackUptoCardSaid : Prop := Claim7.holds Tryd.pinned (.plain (OpenSpec.upto fieldBackSpec)) fieldBackUptoCard

/-- THE SECOND FORM's CARD OF 'lavabolaw04.FieldParts'. -/
def fieldPartsUptoCard : Claim7 := { stood := { row := fieldPartsUptoRow, standIns := [], harness := (true, "0c0e3625b9a8b4f3a2235fab0bf1dbd4102e673ffa77fccc8cb029992916d7f0"), looks := false }, kinds := [], alts := [], laidByText := true, laidKinds := [.data], laidTests := true, laidLooks := .later }
def FieldPartsUptoCardSaid : Prop := Claim7.holds Tryd.pinned (.plain (OpenSpec.upto fieldPartsSpec)) fieldPartsUptoCard

/-- THE SECOND FORM's CARD OF 'lavabolaw04.FieldNil'. -/
def fieldNilUptoCard : Claim7 := { stood := { row := fieldNilUptoRow, standIns := [], harness := (true, "0c0e3625b9a8b4f3a2235fab0bf1dbd4102e673ffa77fccc8cb029992916d7f0"), looks := false }, kinds := [], alts := [], laidByText := true, laidKinds := [.data], laidTests := true, laidLooks := .later }
def FieldNilUptoCardSaid : Prop := Claim7.holds Tryd.pinned (.plain (OpenSpec.upto fieldNilSpec)) fieldNilUptoCard

/-- THE SECOND FORM's CARD OF 'lavabolaw08.SlotsPlays'. -/
def slotsPlaysUptoCard : Claim7 := { stood := { row := slotsPlaysUptoRow, standIns := [], harness := (true, "0c0e3625b9a8b4f3a2235fab0bf1dbd4102e673ffa77fccc8cb029992916d7f0"), looks := false }, kinds := [], alts := [], laidByText := true, laidKinds := [.data], laidTests := true, laidLooks := .later }
def SlotsPlaysUptoCardSaid : Prop := Claim7.holds Tryd.pinned (.plain (OpenSpec.upto slotsPlaysSpec)) slotsPlaysUptoCard

/-- THE SECOND FORM's CARD OF 'lavabolaw08.SlotsMay'. -/
def slotsMayUptoCard : Claim7 := { stood := { row := slotsMayUptoRow, standIns := [], harness := (true, "0c0e3625b9a8b4f3a2235fab0bf1dbd4102e673ffa77fccc8cb029992916d7f0"), looks := false }, kinds := [], alts := [], laidByText := true, laidKinds := [.data], laidTests := true, laidLooks := .later }
def SlotsMayUptoCardSaid : Prop := Claim7.holds Tryd.pinned (.plain (OpenSpec.upto slotsMaySpec)) slotsMayUptoCard

/-- THE SECOND FORM's CARD OF 'lavabolaw08.SlotsWhole'. -/
def slotsWholeUptoCard : Claim7 := { stood := { row := slotsWholeUptoRow, standIns := [], harness := (true, "0c0e3625b9a8b4f3a2235fab0bf1dbd4102e673ffa77fccc8cb029992916d7f0"), looks := false }, kinds := [], alts := [], laidByText := true, laidKinds := [.data], laidTests := true, laidLooks := .later }
def SlotsWholeUptoCardSaid : Prop := Claim7.holds Tryd.pinned (.plain (OpenSpec.upto slotsWholeSpec)) slotsWholeUptoCard

/-- THE SECOND FORM's CARD OF 'lavabolaw08.SlotsRound'. -/
def slotsRoundUptoCard : Claim7 := { stood := { row := slotsRoundUptoRow, standIns := [], harness := (true, "0c0e3625b9a8b4f3a2235fab0bf1dbd4102e673ffa77fccc8cb029992916d7f0"), looks := false }, kinds := [], alts := [], laidByText := true, laidKinds := [.data], laidTests := true, laidLooks := .later }
def SlotsRoundUptoCardSaid : Prop := Claim7.holds Tryd.pinned (.plain (OpenSpec.upto slotsRoundSpec)) slotsRoundUptoCard

/-- THE SECOND FORM's CARD OF 'lavabolaw08.SlotsNil'. -/
def slotsNilUptoCard : Claim7 := { stood := { row := slotsNilUptoRow, standIns := [], harness := (true, "0c0e3625b9a8b4f3a2235fab0bf1dbd4102e673ffa77fccc8cb029992916d7f0"), looks := false }, kinds := [], alts := [], laidByText := true, laidKinds := [.data], laidTests := true, laidLooks := .later }
def SlotsNilUptoCardSaid : Prop := Claim7.holds Tryd.pinned (.plain (OpenSpec.upto slotsNilSpec)) slotsNilUptoCard

/-- THE SECOND FORM's CARD OF 'lavabolaw08.SlotsTakes'. -/
def slotsTakesUptoCard : Claim7 := { stood := { row := slotsTakesUptoRow, standIns := [], harness := (true, "0c0e3625b9a8b4f3a2235fab0bf1dbd4102e673ffa77fccc8cb029992916d7f0"), looks := false }, kinds := [], alts := [], laidByText := true, laidKinds := [.data], laidTests := true, laidLooks := .later }
def SlotsTakesUptoCardSaid : Prop := Claim7.holds Tryd.pinned (.plain (OpenSpec.upto slotsTakesSpec)) slotsTakesUptoCard
end Rows
end Go.Proofs.YtopheimplclfcaaDoor
