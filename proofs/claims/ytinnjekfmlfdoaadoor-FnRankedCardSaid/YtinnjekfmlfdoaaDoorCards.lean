/-
  DERIVED. GIVEN WITH THE SEED: THE CARDS: each row of YtinnjekfmlfdoaaDoorRows.lean that lists a variable, with what it lists TIED to the program's text (the seventh form; the later family's looks); each row that meets fmt, with fmt's text TOLD by the authors' own Lean function (tested against real Go, not proved from fmt's source: count such statements apart). THE CARD IS WHAT COUNTS. Prove the row's statement (the work); the ties are given (YtinnjekfmlfdoaaDoorTie.lean); close each card by the builder's one call (the guide's Derived/Test/ToyasCard.lean, 'card_holds'). Laid BY PROGRAM, IN A SANDBOX (cutbox-door.mjs). By AI agents, Wed Nov 11 2026. No macro, syntax, notation, axiom, sorry.
-/
import Derived.Test.YtinnjekfmlfdoaaDoorRows
import GoSem.ClaimSeven
namespace Go.Proofs.YtinnjekfmlfdoaaDoor
namespace Rows

/-- THE TIED CARD OF 'laws.FnRanked'. -/
def fnRankedCard : Claim7 := { stood := { row := fnRankedRow, standIns := [], harness := (true, "ff391ce5ab5cc8602c8052550685e14c8a47daaf9441635c1275c59b839504ef"), looks := false }, kinds := [], alts := [], laidByText := true, laidKinds := [.data, .data, .data], laidTests := true, laidLooks := .later }
def FnRankedCardSaid : Prop := Claim7.holds Tryd.pinned (.plain (OpenSpec.ofChange fnRankedSpec)) fnRankedCard

/-- THE TIED CARD OF 'laws.FnExactRanked'. -/
def fnExactRankedCard : Claim7 := { stood := { row := fnExactRankedRow, standIns := [], harness := (true, "ff391ce5ab5cc8602c8052550685e14c8a47daaf9441635c1275c59b839504ef"), looks := false }, kinds := [], alts := [], laidByText := true, laidKinds := [.data, .data, .data], laidTests := true, laidLooks := .later }
def FnExactRankedCardSaid : Prop := Claim7.holds Tryd.pinned (.plain (OpenSpec.ofChange fnExactRankedSpec)) fnExactRankedCard

/-- THE SECOND FORM's CARD OF 'laws.FnRanked'. -/
def fnRankedUptoCard : Claim7 := { stood := { row := fnRankedUptoRow, standIns := [], harness := (true, "ff391ce5ab5cc8602c8052550685e14c8a47daaf9441635c1275c59b839504ef"), looks := false }, kinds := [], alts := [], laidByText := true, laidKinds := [.data, .data, .data], laidTests := true, laidLooks := .later }
def FnRankedUptoCardSaid : Prop := Claim7.holds Tryd.pinned (.plain (OpenSpec.upto fnRankedSpec)) fnRankedUptoCard

/-- THE SECOND FORM's CARD OF 'laws.FnExactRanked'. -/
def fnExactRankedUptoCard : Claim7 := { stood := { row := fnExactRankedUptoRow, standIns := [], harness := (true, "ff391ce5ab5cc8602c8052550685e14c8a47daaf9441635c1275c59b839504ef"), looks := false }, kinds := [], alts := [], laidByText := true, laidKinds := [.data, .data, .data], laidTests := true, laidLooks := .later }
def FnExactRankedUptoCardSaid : Prop := Claim7.holds Tryd.pinned (.plain (OpenSpec.upto fnExactRankedSpec)) fnExactRankedUptoCard
end Rows
end Go.Proofs.YtinnjekfmlfdoaaDoor
