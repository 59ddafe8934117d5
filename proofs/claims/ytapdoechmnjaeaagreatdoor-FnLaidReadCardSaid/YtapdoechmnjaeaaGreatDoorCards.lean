/-
  DERIVED. GIVEN WITH THE SEED: THE CARDS: each row of YtapdoechmnjaeaaGreatDoorRows.lean that lists a variable, with what it lists TIED to the program's text (the seventh form; the later family's looks); each row that meets fmt, with fmt's text TOLD by the authors' own Lean function (tested against real Go, not proved from fmt's source: count such statements apart). THE CARD IS WHAT COUNTS. Prove the row's statement (the work); the ties are given (YtapdoechmnjaeaaGreatDoorTie.lean); close each card by the builder's one call (the guide's Derived/Test/ToyasCard.lean, 'card_holds'). Laid BY PROGRAM, IN A SANDBOX (cutbox-door.mjs). By AI agents, Wed Nov 11 2026. No macro, syntax, notation, axiom, sorry.
-/
import Derived.Test.YtapdoechmnjaeaaGreatDoorRows
import GoSem.ClaimSeven
namespace Go.Proofs.YtapdoechmnjaeaaGreatDoor
namespace Rows

/-- THE TIED CARD OF 'laws.FnLaidRead'. -/
def fnLaidReadCard : Claim7 := { stood := { row := fnLaidReadRow, standIns := [], harness := (true, "ba49408e46556a78683578e9d0a3b9ab32d9b13a4d62beb387077e1b26b7cc1d"), looks := true }, kinds := [], alts := [], laidByText := true, laidKinds := [.data, .data, .data, .sentinel, .sentinel], laidTests := true, laidLooks := .later }
def FnLaidReadCardSaid : Prop := Claim7.holds Tryz.pinned (.plain (OpenSpec.ofChange fnLaidReadSpec)) fnLaidReadCard

/-- THE TIED CARD OF 'laws.FnExactDbOf'. -/
def fnExactDbOfCard : Claim7 := { stood := { row := fnExactDbOfRow, standIns := [], harness := (true, "ba49408e46556a78683578e9d0a3b9ab32d9b13a4d62beb387077e1b26b7cc1d"), looks := true }, kinds := [], alts := [], laidByText := true, laidKinds := [.data, .data, .data, .sentinel, .sentinel], laidTests := true, laidLooks := .later }
def FnExactDbOfCardSaid : Prop := Claim7.holds Tryz.pinned (.plain (OpenSpec.ofChange fnExactDbOfSpec)) fnExactDbOfCard

/-- THE SECOND FORM's CARD OF 'laws.FnLaidRead'. -/
def fnLaidReadUptoCard : Claim7 := { stood := { row := fnLaidReadUptoRow, standIns := [], harness := (true, "ba49408e46556a78683578e9d0a3b9ab32d9b13a4d62beb387077e1b26b7cc1d"), looks := true }, kinds := [], alts := [], laidByText := true, laidKinds := [.data, .data, .data, .sentinel, .sentinel], laidTests := true, laidLooks := .later }
def FnLaidReadUptoCardSaid : Prop := Claim7.holds Tryz.pinned (.plain (OpenSpec.upto fnLaidReadSpec)) fnLaidReadUptoCard

/-- THE SECOND FORM's CARD OF 'laws.FnExactDbOf'. -/
def fnExactDbOfUptoCard : Claim7 := { stood := { row := fnExactDbOfUptoRow, standIns := [], harness := (true, "ba49408e46556a78683578e9d0a3b9ab32d9b13a4d62beb387077e1b26b7cc1d"), looks := true }, kinds := [], alts := [], laidByText := true, laidKinds := [.data, .data, .data, .sentinel, .sentinel], laidTests := true, laidLooks := .later }
def FnExactDbOfUptoCardSaid : Prop := Claim7.holds Tryz.pinned (.plain (OpenSpec.upto fnExactDbOfSpec)) fnExactDbOfUptoCard
end Rows
end Go.Proofs.YtapdoechmnjaeaaGreatDoor
