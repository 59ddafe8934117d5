/-
  DERIVED. GIVEN WITH THE SEED: THE CARDS: each row of YtoicbiinmmhcdaaDoorRows.lean that lists a variable, with what it lists TIED to the program's text (the seventh form; the later family's looks); each row that meets fmt, with fmt's text TOLD by the authors' own Lean function (tested against real Go, not proved from fmt's source: count such statements apart). THE CARD IS WHAT COUNTS. Prove the row's statement (the work); the ties are given (YtoicbiinmmhcdaaDoorTie.lean); close each card by the builder's one call (the guide's Derived/Test/ToyasCard.lean, 'card_holds'). Laid BY PROGRAM, IN A SANDBOX (cutbox-door.mjs). By AI agents, Wed Nov 11 2026. No macro, syntax, notation, axiom, sorry.
-/
import Derived.Test.YtoicbiinmmhcdaaDoorRows
import GoSem.ClaimSeven
namespace Go.Proofs.YtoicbiinmmhcdaaDoor
namespace Rows

/-- THE TIED CARD OF 'laws.FnRequests'. -/
def fnRequestsCard : Claim7 := { stood := { row := fnRequestsRow, standIns := [], harness := (true, "66c53ad9976db021b715791ea0e5adc747f7125dfb89c79d37013f215347101c"), looks := true }, kinds := [], alts := [], laidByText := true, laidKinds := [.data, .data, .data, .sentinel, .sentinel], laidTests := true, laidLooks := .later }
def FnRequestsCardSaid : Prop := Claim7.holds Tryd.pinned (.plain (OpenSpec.ofChange fnRequestsSpec)) fnRequestsCard

/-- THE TIED CARD OF 'laws.FnReadRequests'. -/
def fnReadRequestsCard : Claim7 := { stood := { row := fnReadRequestsRow, standIns := [], harness := (true, "66c53ad9976db021b715791ea0e5adc747f7125dfb89c79d37013f215347101c"), looks := true }, kinds := [], alts := [], laidByText := true, laidKinds := [.data, .data, .data, .sentinel, .sentinel], laidTests := true, laidLooks := .later }
def FnReadRequestsCardSaid : Prop := Claim7.holds Tryd.pinned (.plain (OpenSpec.ofChange fnReadRequestsSpec)) fnReadRequestsCard

/-- THE SECOND FORM's CARD OF 'laws.FnRequests'. -/
def fnRequestsUptoCard : Claim7 := { stood := { row := fnRequestsUptoRow, standIns := [], harness := (true, "66c53ad9976db021b715791ea0e5adc747f7125dfb89c79d37013f215347101c"), looks := true }, kinds := [], alts := [], laidByText := true, laidKinds := [.data, .data, .data, .sentinel, .sentinel], laidTests := true, laidLooks := .later }
def FnRequestsUptoCardSaid : Prop := Claim7.holds Tryd.pinned (.plain (OpenSpec.upto fnRequestsSpec)) fnRequestsUptoCard

/-- THE SECOND FORM's CARD OF 'laws.FnReadRequests'. -/
def fnReadRequestsUptoCard : Claim7 := { stood := { row := fnReadRequestsUptoRow, standIns := [], harness := (true, "66c53ad9976db021b715791ea0e5adc747f7125dfb89c79d37013f215347101c"), looks := true }, kinds := [], alts := [], laidByText := true, laidKinds := [.data, .data, .data, .sentinel, .sentinel], laidTests := true, laidLooks := .later }
def FnReadRequestsUptoCardSaid : Prop := Claim7.holds Tryd.pinned (.plain (OpenSpec.upto fnReadRequestsSpec)) fnReadRequestsUptoCard
end Rows
end Go.Proofs.YtoicbiinmmhcdaaDoor
