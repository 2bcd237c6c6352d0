/-
  DERIVED. GIVEN WITH THE SEED: THE CARDS: each row of YtpifiamafgaadaaDoorRows.lean that lists a variable, with what it lists TIED to the program's text (the seventh form; the later family's looks); each row that meets fmt, with fmt's text TOLD by the authors' own Lean function (tested against real Go, not proved from fmt's source: count such statements apart). THE CARD IS WHAT COUNTS. Prove the row's statement (the work); the ties are given (YtpifiamafgaadaaDoorTie.lean); close each card by the builder's one call (the guide's Derived/Test/ToyasCard.lean, 'card_holds'). Laid BY PROGRAM, IN A SANDBOX (cutbox-door.mjs). By AI agents, Wed Nov 11 2026. No macro, syntax, notation, axiom, sorry.
-/
import Derived.Test.YtpifiamafgaadaaDoorRows
import GoSem.ClaimSeven
namespace Go.Proofs.YtpifiamafgaadaaDoor
namespace Rows

/-- THE TIED CARD OF 'lavabolaw06.FormCaches'. -/
def formCachesCard : Claim7 := { stood := { row := formCachesRow, standIns := [], harness := (true, "169b1582cedac44e50effda415e76d4162a8b00fa3f84fc25554068b5a6fbc2b"), looks := false }, kinds := [], alts := [], laidByText := true, laidKinds := [.data], laidTests := true, laidLooks := .later }
def FormCachesCardSaid : Prop := Claim7.holds Tryd.pinned (.plain (OpenSpec.ofChange formCachesSpec)) formCachesCard

/-- THE TIED CARD OF 'lavabolaw06.FormPages'. -/
def formPagesCard : Claim7 := { stood := { row := formPagesRow, standIns := [], harness := (true, "169b1582cedac44e50effda415e76d4162a8b00fa3f84fc25554068b5a6fbc2b"), looks := false }, kinds := [], alts := [], laidByText := true, laidKinds := [.data], laidTests := true, laidLooks := .later }
def FormPagesCardSaid : Prop := Claim7.holds Tryd.pinned (.plain (OpenSpec.ofChange formPagesSpec)) formPagesCard

/-- THE SECOND FORM's CARD OF 'lavabolaw06.FormCaches'. -/
def formCachesUptoCard : Claim7 := { stood := { row := formCachesUptoRow, standIns := [], harness := (true, "169b1582cedac44e50effda415e76d4162a8b00fa3f84fc25554068b5a6fbc2b"), looks := false }, kinds := [], alts := [], laidByText := true, laidKinds := [.data], laidTests := true, laidLooks := .later }
def FormCachesUptoCardSaid : Prop := Claim7.holds Tryd.pinned (.plain (OpenSpec.upto formCachesSpec)) formCachesUptoCard

/-- THE SECOND FORM's CARD OF 'lavabolaw06.FormPages'. -/
def formPagesUptoCard : Claim7 := { stood := { row := formPagesUptoRow, standIns := [], harness := (true, "169b1582cedac44e50effda415e76d4162a8b00fa3f84fc25554068b5a6fbc2b"), looks := false }, kinds := [], alts := [], laidByText := true, laidKinds := [.data], laidTests := true, laidLooks := .later }
def FormPagesUptoCardSaid : Prop := Claim7.holds Tryd.pinned (.plain (OpenSpec.upto formPagesSpec)) formPagesUptoCard
end Rows
end Go.Proofs.YtpifiamafgaadaaDoor
