/-
  DERIVED. GIVEN WITH THE SEED: THE CARDS: each row of YtcgeafdakaeicaaDoorRows.lean that lists a variable, with what it lists TIED to the program's text (the seventh form; the later family's looks); each row that meets fmt, with fmt's text TOLD by the authors' own Lean function (tested against real Go, not proved from fmt's source: count such statements apart). THE CARD IS WHAT COUNTS. Prove the row's statement (the work); the ties are given (YtcgeafdakaeicaaDoorTie.lean); close each card by the builder's one call (the guide's Derived/Test/ToyasCard.lean, 'card_holds'). Laid BY PROGRAM, IN A SANDBOX (cutbox-door.mjs). By AI agents, Wed Nov 11 2026. No macro, syntax, notation, axiom, sorry.
-/
import Derived.Test.YtcgeafdakaeicaaDoorRows
import GoSem.ClaimSeven
namespace Go.Proofs.YtcgeafdakaeicaaDoor
namespace Rows

/-- THE TIED CARD OF 'laws.FnReplies'. -/
def fnRepliesCard : Claim7 := { stood := { row := fnRepliesRow, standIns := [], harness := (true, "fb9ea76a8ecfd95cc24ed1f98435c2631dce0985cebf3e3a420be162eacc6588"), looks := true }, kinds := [], alts := [], laidByText := true, laidKinds := [.data, .data, .data, .sentinel, .sentinel], laidTests := true, laidLooks := .later }
def FnRepliesCardSaid : Prop := Claim7.holds Tryd.pinned (.plain (OpenSpec.ofChange fnRepliesSpec)) fnRepliesCard

/-- THE TIED CARD OF 'laws.FnReadReplies'. -/
def fnReadRepliesCard : Claim7 := { stood := { row := fnReadRepliesRow, standIns := [], harness := (true, "fb9ea76a8ecfd95cc24ed1f98435c2631dce0985cebf3e3a420be162eacc6588"), looks := true }, kinds := [], alts := [], laidByText := true, laidKinds := [.data, .data, .data, .sentinel, .sentinel], laidTests := true, laidLooks := .later }
def FnReadRepliesCardSaid : Prop := Claim7.holds Tryd.pinned (.plain (OpenSpec.ofChange fnReadRepliesSpec)) fnReadRepliesCard

/-- THE TIED CARD OF 'laws.FnExactRespText'. -/
def fnExactRespTextCard : Claim7 := { stood := { row := fnExactRespTextRow, standIns := [], harness := (true, "fb9ea76a8ecfd95cc24ed1f98435c2631dce0985cebf3e3a420be162eacc6588"), looks := true }, kinds := [], alts := [], laidByText := true, laidKinds := [.data, .data, .data], laidTests := true, laidLooks := .later }
def FnExactRespTextCardSaid : Prop := Claim7.holds Tryd.pinned (.plain (OpenSpec.ofChange fnExactRespTextSpec)) fnExactRespTextCard

/-- THE TIED CARD OF 'laws.FnExactReadResp'. -/
def fnExactReadRespCard : Claim7 := { stood := { row := fnExactReadRespRow, standIns := [], harness := (true, "fb9ea76a8ecfd95cc24ed1f98435c2631dce0985cebf3e3a420be162eacc6588"), looks := true }, kinds := [], alts := [], laidByText := true, laidKinds := [.data, .data, .data, .sentinel, .sentinel], laidTests := true, laidLooks := .later }
def FnExactReadRespCardSaid : Prop := Claim7.holds Tryd.pinned (.plain (OpenSpec.ofChange fnExactReadRespSpec)) fnExactReadRespCard

/-- THE SECOND FORM's CARD OF 'laws.FnReplies'. -/
def fnRepliesUptoCard : Claim7 := { stood := { row := fnRepliesUptoRow, standIns := [], harness := (true, "fb9ea76a8ecfd95cc24ed1f98435c2631dce0985cebf3e3a420be162eacc6588"), looks := true }, kinds := [], alts := [], laidByText := true, laidKinds := [.data, .data, .data, .sentinel, .sentinel], laidTests := true, laidLooks := .later }
def FnRepliesUptoCardSaid : Prop := Claim7.holds Tryd.pinned (.plain (OpenSpec.upto fnRepliesSpec)) fnRepliesUptoCard

/-- THE SECOND FORM's CARD OF 'laws.FnReadReplies'. -/
def fnReadRepliesUptoCard : Claim7 := { stood := { row := fnReadRepliesUptoRow, standIns := [], harness := (true, "fb9ea76a8ecfd95cc24ed1f98435c2631dce0985cebf3e3a420be162eacc6588"), looks := true }, kinds := [], alts := [], laidByText := true, laidKinds := [.data, .data, .data, .sentinel, .sentinel], laidTests := true, laidLooks := .later }
def FnReadRepliesUptoCardSaid : Prop := Claim7.holds Tryd.pinned (.plain (OpenSpec.upto fnReadRepliesSpec)) fnReadRepliesUptoCard

/-- THE SECOND FORM's CARD OF 'laws.FnExactRespText'. -/
def fnExactRespTextUptoCard : Claim7 := { stood := { row := fnExactRespTextUptoRow, standIns := [], harness := (true, "fb9ea76a8ecfd95cc24ed1f98435c2631dce0985cebf3e3a420be162eacc6588"), looks := true }, kinds := [], alts := [], laidByText := true, laidKinds := [.data, .data, .data], laidTests := true, laidLooks := .later }
def FnExactRespTextUptoCardSaid : Prop := Claim7.holds Tryd.pinned (.plain (OpenSpec.upto fnExactRespTextSpec)) fnExactRespTextUptoCard

/-- THE SECOND FORM's CARD OF 'laws.FnExactReadResp'. -/
def fnExactReadRespUptoCard : Claim7 := { stood := { row := fnExactReadRespUptoRow, standIns := [], harness := (true, "fb9ea76a8ecfd95cc24ed1f98435c2631dce0985cebf3e3a420be162eacc6588"), looks := true }, kinds := [], alts := [], laidByText := true, laidKinds := [.data, .data, .data, .sentinel, .sentinel], laidTests := true, laidLooks := .later }
def FnExactReadRespUptoCardSaid : Prop := Claim7.holds Tryd.pinned (.plain (OpenSpec.upto fnExactReadRespSpec)) fnExactReadRespUptoCard
end Rows
end Go.Proofs.YtcgeafdakaeicaaDoor
