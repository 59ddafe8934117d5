/-
  DERIVED. GIVEN WITH THE SEED: THE CARDS: each row of YtjpeglkkkllagaaGreatDoorRows.lean that lists a variable, with what it lists TIED to the program's text (the seventh form; the later family's looks); each row that meets fmt, with fmt's text TOLD by the authors' own Lean function (tested against real Go, not proved from fmt's source: count such statements apart). THE CARD IS WHAT COUNTS. Prove the row's statement (the work); the ties are given (YtjpeglkkkllagaaGreatDoorTie.lean); close each card by the builder's one call (the guide's Derived/Test/ToyasCard.lean, 'card_holds'). Laid BY PROGRAM, IN A SANDBOX (cutbox-door.mjs). By AI agents, Wed Nov 11 2026. No macro, syntax, notation, axiom, sorry.
-/
import Derived.Test.YtjpeglkkkllagaaGreatDoorRows
import GoSem.ClaimSeven
namespace Go.Proofs.YtjpeglkkkllagaaGreatDoor
namespace Rows

/-- THE TIED CARD OF 'laws.FnLaid'. -/
def fnLaidCard : Claim7 := { stood := { row := fnLaidRow, standIns := [], harness := (true, "34060a086c02d7a48fea74ab8d4683d7d7cfd76ab02742f057872704f6dfed3e"), looks := true }, kinds := [], alts := [], laidByText := true, laidKinds := [.data, .data, .data, .sentinel, .sentinel], laidTests := true, laidLooks := .later }
def FnLaidCardSaid : Prop := Claim7.holds Tryz.pinned (.plain (OpenSpec.ofChange fnLaidSpec)) fnLaidCard

/-- THE SECOND FORM's CARD OF 'laws.FnLaid'. -/
def fnLaidUptoCard : Claim7 := { stood := { row := fnLaidUptoRow, standIns := [], harness := (true, "34060a086c02d7a48fea74ab8d4683d7d7cfd76ab02742f057872704f6dfed3e"), looks := true }, kinds := [], alts := [], laidByText := true, laidKinds := [.data, .data, .data, .sentinel, .sentinel], laidTests := true, laidLooks := .later }
def FnLaidUptoCardSaid : Prop := Claim7.holds Tryz.pinned (.plain (OpenSpec.upto fnLaidSpec)) fnLaidUptoCard
end Rows
end Go.Proofs.YtjpeglkkkllagaaGreatDoor
