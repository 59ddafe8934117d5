/-
  DERIVED. GIVEN WITH THE SEED: THE CARDS: each row of YtibhabajknikcaaGreatDoorRows.lean that lists a variable, with what it lists TIED to the program's text (the seventh form; the later family's looks); each row that meets fmt, with fmt's text TOLD by the authors' own Lean function (tested against real Go, not proved from fmt's source: count such statements apart). THE CARD IS WHAT COUNTS. Prove the row's statement (the work); the ties are given (YtibhabajknikcaaGreatDoorTie.lean); close each card by the builder's one call (the guide's Derived/Test/ToyasCard.lean, 'card_holds'). Laid BY PROGRAM, IN A SANDBOX (cutbox-door.mjs). By AI agents, Wed Nov 11 2026. No macro, syntax, notation, axiom, sorry.
-/
import Derived.Test.YtibhabajknikcaaGreatDoorRows
import GoSem.ClaimSeven
namespace Go.Proofs.YtibhabajknikcaaGreatDoor
namespace Rows

/-- THE TIED CARD OF 'laws.FnDiscarded'. -/
def fnDiscardedCard : Claim7 := { stood := { row := fnDiscardedRow, standIns := [], harness := (true, "1352a90433190fb170125af28a82aae13d96e5f4aa36b3bee9ce4ae9e591e91e"), looks := true }, kinds := [], alts := [], laidByText := true, laidKinds := [.data, .data, .data, .handle, .sentinel, .sentinel, .sentinel, .sentinel, .sentinel, .sentinel, .sentinel, .sentinel, .sentinel, .sentinel, .sentinel, .sentinel, .sentinel], laidTests := true, laidLooks := .later }
def FnDiscardedCardSaid : Prop := Claim7.holds Tryz.pinned (.plain (OpenSpec.ofChange fnDiscardedSpec)) fnDiscardedCard

/-- THE SECOND FORM's CARD OF 'laws.FnDiscarded'. -/
def fnDiscardedUptoCard : Claim7 := { stood := { row := fnDiscardedUptoRow, standIns := [], harness := (true, "1352a90433190fb170125af28a82aae13d96e5f4aa36b3bee9ce4ae9e591e91e"), looks := true }, kinds := [], alts := [], laidByText := true, laidKinds := [.data, .data, .data, .handle, .sentinel, .sentinel, .sentinel, .sentinel, .sentinel, .sentinel, .sentinel, .sentinel, .sentinel, .sentinel, .sentinel, .sentinel, .sentinel], laidTests := true, laidLooks := .later }
def FnDiscardedUptoCardSaid : Prop := Claim7.holds Tryz.pinned (.plain (OpenSpec.upto fnDiscardedSpec)) fnDiscardedUptoCard
end Rows
end Go.Proofs.YtibhabajknikcaaGreatDoor
