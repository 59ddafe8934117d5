/-
  DERIVED. GIVEN WITH THE SEED: THE CARDS: each row of YtielombpeeelkaaDoorRows.lean that lists a variable, with what it lists TIED to the program's text (the seventh form; the later family's looks); each row that meets fmt, with fmt's text TOLD by the authors' own Lean function (tested against real Go, not proved from fmt's source: count such statements apart). THE CARD IS WHAT COUNTS. Prove the row's statement (the work); the ties are given (YtielombpeeelkaaDoorTie.lean); close each card by the builder's one call (the guide's Derived/Test/ToyasCard.lean, 'card_holds'). Laid BY PROGRAM, IN A SANDBOX (cutbox-door.mjs). By AI agents, Wed Nov 11 2026. No macro, syntax, notation, axiom, sorry.
-/
import Derived.Test.YtielombpeeelkaaDoorRows
import GoSem.ClaimSeven
namespace Go.Proofs.YtielombpeeelkaaDoor
namespace Rows

/-- THE TIED CARD OF 'laws.FnFed'. -/
def fnFedCard : Claim7 := { stood := { row := fnFedRow, standIns := [], harness := (true, "35d4cd7900c1dfa44228f81942d40e88780658936e449bf1f8777b4ac78dad27"), looks := true }, kinds := [], alts := [], laidByText := true, laidKinds := [.data, .data, .data, .sentinel, .sentinel], laidTests := true, laidLooks := .later }
def FnFedCardSaid : Prop := Claim7.holds Tryd.pinned (.plain (OpenSpec.ofChange fnFedSpec)) fnFedCard

/-- THE TIED CARD OF 'laws.FnExactFed'. -/
def fnExactFedCard : Claim7 := { stood := { row := fnExactFedRow, standIns := [], harness := (true, "35d4cd7900c1dfa44228f81942d40e88780658936e449bf1f8777b4ac78dad27"), looks := true }, kinds := [], alts := [], laidByText := true, laidKinds := [.data, .data, .data, .sentinel, .sentinel], laidTests := true, laidLooks := .later }
def FnExactFedCardSaid : Prop := Claim7.holds Tryd.pinned (.plain (OpenSpec.ofChange fnExactFedSpec)) fnExactFedCard

/-- THE TIED CARD OF 'laws.FnExactSessionOk'. -/
def fnExactSessionOkCard : Claim7 := { stood := { row := fnExactSessionOkRow, standIns := [], harness := (true, "35d4cd7900c1dfa44228f81942d40e88780658936e449bf1f8777b4ac78dad27"), looks := true }, kinds := [], alts := [], laidByText := true, laidKinds := [.data, .data, .data, .sentinel, .sentinel], laidTests := true, laidLooks := .later }
def FnExactSessionOkCardSaid : Prop := Claim7.holds Tryd.pinned (.plain (OpenSpec.ofChange fnExactSessionOkSpec)) fnExactSessionOkCard

/-- THE SECOND FORM's CARD OF 'laws.FnFed'. -/
def fnFedUptoCard : Claim7 := { stood := { row := fnFedUptoRow, standIns := [], harness := (true, "35d4cd7900c1dfa44228f81942d40e88780658936e449bf1f8777b4ac78dad27"), looks := true }, kinds := [], alts := [], laidByText := true, laidKinds := [.data, .data, .data, .sentinel, .sentinel], laidTests := true, laidLooks := .later }
def FnFedUptoCardSaid : Prop := Claim7.holds Tryd.pinned (.plain (OpenSpec.upto fnFedSpec)) fnFedUptoCard

/-- THE SECOND FORM's CARD OF 'laws.FnExactFed'. -/
def fnExactFedUptoCard : Claim7 := { stood := { row := fnExactFedUptoRow, standIns := [], harness := (true, "35d4cd7900c1dfa44228f81942d40e88780658936e449bf1f8777b4ac78dad27"), looks := true }, kinds := [], alts := [], laidByText := true, laidKinds := [.data, .data, .data, .sentinel, .sentinel], laidTests := true, laidLooks := .later }
def FnExactFedUptoCardSaid : Prop := Claim7.holds Tryd.pinned (.plain (OpenSpec.upto fnExactFedSpec)) fnExactFedUptoCard

/-- THE SECOND FORM's CARD OF 'laws.FnExactSessionOk'. -/
def fnExactSessionOkUptoCard : Claim7 := { stood := { row := fnExactSessionOkUptoRow, standIns := [], harness := (true, "35d4cd7900c1dfa44228f81942d40e88780658936e449bf1f8777b4ac78dad27"), looks := true }, kinds := [], alts := [], laidByText := true, laidKinds := [.data, .data, .data, .sentinel, .sentinel], laidTests := true, laidLooks := .later }
def FnExactSessionOkUptoCardSaid : Prop := Claim7.holds Tryd.pinned (.plain (OpenSpec.upto fnExactSessionOkSpec)) fnExactSessionOkUptoCard
end Rows
end Go.Proofs.YtielombpeeelkaaDoor
