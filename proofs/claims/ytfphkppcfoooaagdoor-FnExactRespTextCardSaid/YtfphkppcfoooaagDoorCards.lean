/-
  DERIVED. GIVEN WITH THE SEED: THE CARDS: each row of YtfphkppcfoooaagDoorRows.lean that lists a variable, with what it lists TIED to the program's text (the seventh form; the later family's looks); each row that meets fmt, with fmt's text TOLD by the authors' own Lean function (tested against real Go, not proved from fmt's source: count such statements apart). THE CARD IS WHAT COUNTS. Prove the row's statement (the work); the ties are given (YtfphkppcfoooaagDoorTie.lean); close each card by the builder's one call (the guide's Derived/Test/ToyasCard.lean, 'card_holds'). Laid BY PROGRAM, IN A SANDBOX (cutbox-door.mjs). By AI agents, Wed Nov 11 2026. No macro, syntax, notation, axiom, sorry.
-/
import Derived.Test.YtfphkppcfoooaagDoorRows
import GoSem.ClaimSeven
namespace Go.Proofs.YtfphkppcfoooaagDoor
namespace Rows

/-- THE TIED CARD OF 'laws.FnExactRespText'. -/
def fnExactRespTextCard : Claim7 := { stood := { row := fnExactRespTextRow, standIns := [], harness := (true, "801aa5f996c858500cb62588ce399733a3a301bf2357eecd8cb22bac9636471d"), looks := true }, kinds := [], alts := [], laidByText := true, laidKinds := [.data, .data, .data], laidTests := true, laidLooks := .later }
def FnExactRespTextCardSaid : Prop := Claim7.holds Tryd.pinned (.plain (OpenSpec.ofChange fnExactRespTextSpec)) fnExactRespTextCard

/-- THE TIED CARD OF 'laws.FnExactReadResp'. -/
def fnExactReadRespCard : Claim7 := { stood := { row := fnExactReadRespRow, standIns := [], harness := (true, "801aa5f996c858500cb62588ce399733a3a301bf2357eecd8cb22bac9636471d"), looks := true }, kinds := [], alts := [], laidByText := true, laidKinds := [.data, .data, .data, .sentinel, .sentinel], laidTests := true, laidLooks := .later }
def FnExactReadRespCardSaid : Prop := Claim7.holds Tryd.pinned (.plain (OpenSpec.ofChange fnExactReadRespSpec)) fnExactReadRespCard

/-- THE TIED CARD OF 'laws.FnExactRequestText'. -/
def fnExactRequestTextCard : Claim7 := { stood := { row := fnExactRequestTextRow, standIns := [], harness := (true, "801aa5f996c858500cb62588ce399733a3a301bf2357eecd8cb22bac9636471d"), looks := true }, kinds := [], alts := [], laidByText := true, laidKinds := [.data, .data, .data], laidTests := true, laidLooks := .later }
def FnExactRequestTextCardSaid : Prop := Claim7.holds Tryd.pinned (.plain (OpenSpec.ofChange fnExactRequestTextSpec)) fnExactRequestTextCard

/-- THE TIED CARD OF 'laws.FnExactReadRequest'. -/
def fnExactReadRequestCard : Claim7 := { stood := { row := fnExactReadRequestRow, standIns := [], harness := (true, "801aa5f996c858500cb62588ce399733a3a301bf2357eecd8cb22bac9636471d"), looks := true }, kinds := [], alts := [], laidByText := true, laidKinds := [.data, .data, .data, .sentinel, .sentinel], laidTests := true, laidLooks := .later }
def FnExactReadRequestCardSaid : Prop := Claim7.holds Tryd.pinned (.plain (OpenSpec.ofChange fnExactReadRequestSpec)) fnExactReadRequestCard

/-- THE TIED CARD OF 'laws.FnExactFed'. -/
def fnExactFedCard : Claim7 := { stood := { row := fnExactFedRow, standIns := [], harness := (true, "801aa5f996c858500cb62588ce399733a3a301bf2357eecd8cb22bac9636471d"), looks := true }, kinds := [], alts := [], laidByText := true, laidKinds := [.data, .data, .data, .sentinel, .sentinel], laidTests := true, laidLooks := .later }
def FnExactFedCardSaid : Prop := Claim7.holds Tryd.pinned (.plain (OpenSpec.ofChange fnExactFedSpec)) fnExactFedCard

/-- THE SECOND FORM's CARD OF 'laws.FnExactRespText'. -/
def fnExactRespTextUptoCard : Claim7 := { stood := { row := fnExactRespTextUptoRow, standIns := [], harness := (true, "801aa5f996c858500cb62588ce399733a3a301bf2357eecd8cb22bac9636471d"), looks := true }, kinds := [], alts := [], laidByText := true, laidKinds := [.data, .data, .data], laidTests := true, laidLooks := .later }
def FnExactRespTextUptoCardSaid : Prop := Claim7.holds Tryd.pinned (.plain (OpenSpec.upto fnExactRespTextSpec)) fnExactRespTextUptoCard

/-- THE SECOND FORM's CARD OF 'laws.FnExactReadResp'. -/
def fnExactReadRespUptoCard : Claim7 := { stood := { row := fnExactReadRespUptoRow, standIns := [], harness := (true, "801aa5f996c858500cb62588ce399733a3a301bf2357eecd8cb22bac9636471d"), looks := true }, kinds := [], alts := [], laidByText := true, laidKinds := [.data, .data, .data, .sentinel, .sentinel], laidTests := true, laidLooks := .later }
def FnExactReadRespUptoCardSaid : Prop := Claim7.holds Tryd.pinned (.plain (OpenSpec.upto fnExactReadRespSpec)) fnExactReadRespUptoCard

/-- THE SECOND FORM's CARD OF 'laws.FnExactRequestText'. -/
def fnExactRequestTextUptoCard : Claim7 := { stood := { row := fnExactRequestTextUptoRow, standIns := [], harness := (true, "801aa5f996c858500cb62588ce399733a3a301bf2357eecd8cb22bac9636471d"), looks := true }, kinds := [], alts := [], laidByText := true, laidKinds := [.data, .data, .data], laidTests := true, laidLooks := .later }
def FnExactRequestTextUptoCardSaid : Prop := Claim7.holds Tryd.pinned (.plain (OpenSpec.upto fnExactRequestTextSpec)) fnExactRequestTextUptoCard

/-- THE SECOND FORM's CARD OF 'laws.FnExactReadRequest'. -/
def fnExactReadRequestUptoCard : Claim7 := { stood := { row := fnExactReadRequestUptoRow, standIns := [], harness := (true, "801aa5f996c858500cb62588ce399733a3a301bf2357eecd8cb22bac9636471d"), looks := true }, kinds := [], alts := [], laidByText := true, laidKinds := [.data, .data, .data, .sentinel, .sentinel], laidTests := true, laidLooks := .later }
def FnExactReadRequestUptoCardSaid : Prop := Claim7.holds Tryd.pinned (.plain (OpenSpec.upto fnExactReadRequestSpec)) fnExactReadRequestUptoCard

/-- THE SECOND FORM's CARD OF 'laws.FnExactFed'. -/
def fnExactFedUptoCard : Claim7 := { stood := { row := fnExactFedUptoRow, standIns := [], harness := (true, "801aa5f996c858500cb62588ce399733a3a301bf2357eecd8cb22bac9636471d"), looks := true }, kinds := [], alts := [], laidByText := true, laidKinds := [.data, .data, .data, .sentinel, .sentinel], laidTests := true, laidLooks := .later }
def FnExactFedUptoCardSaid : Prop := Claim7.holds Tryd.pinned (.plain (OpenSpec.upto fnExactFedSpec)) fnExactFedUptoCard
end Rows
end Go.Proofs.YtfphkppcfoooaagDoor
