/-
  No cell of these rows narrows 'for every input' (looked for: loops, veiled, ifaces, maps, wideKeys, modest, calm, conditions, laid).
  DERIVED. THE GIVEN ROWS OF THIS SEAT. 3 by the template 'for every input the law returns true; each argument reads behind the call as it read before'; 0 by the template 'total and deterministic' (their statements: YtdabpbnmfccogaaTotals.lean).
  GIVEN WITH THE SEED: the statements are not yours to turn. If you find one false, say at which input.
  Laid BY PROGRAM, IN A SANDBOX (cutbox-rows.mjs): the forced cells as the released guide's own fill.sh prints them over the translation 58acc1b51fc2d2fe… (all of the seat's roots in one cut). By AI agents, Wed Nov 11 2026. No macro, syntax, notation, axiom, sorry.
-/
import Derived.Test.YtdabpbnmfccogaaChecked
import GoSem.Claim
import GoSem.ClaimJoined
import GoSem.ClaimMapViews
import Derived.JoinedTies
import Derived.KernelRfl
namespace Go.Proofs.Ytdabpbnmfccogaa
/- THE CELL 'sum', in the pinned program and in every row, IS THE sha256 OF THE DUMP (.gsa) THAT YtdabpbnmfccogaaProg.lean LOADS. Nothing in Lean hashes anything: it is a label: what it is worth is what the hold of that sum in a sandbox is worth. -/
noncomputable def Try.pinned : Pinned := { name := "ytdabpbnmfccogaa", sum := "58acc1b51fc2d2fe0faecb269826adc476c634b4ca4aa79529e696b42fa227ae", checked := Try.checked }
namespace Rows
def none {H : Type} : Left H := { results := [], args := [] }

/-- 'laws.FnEscapes': WHATEVER THE INPUT: true; the input reads as it did. -/
def fnEscapesSpec : ChangeSpec := { name := "fnEscapes", fn := fun _ => fun
  | [d] => { results := [.lit (.bool true)], args := [d] }
  | _ => none }
def fnEscapesRow : OpenClaim := { program := "ytdabpbnmfccogaa", sum := "58acc1b51fc2d2fe0faecb269826adc476c634b4ca4aa79529e696b42fa227ae", func := "loop.example/g00302/laws.FnEscapes", spec := "fnEscapes", inPlace := ["internal/bytealg.IndexByteString"], apart := false }
def FnEscapesSaid : Prop := fnEscapesRow.holds Try.pinned (OpenSpec.ofChange fnEscapesSpec)

/-- ITS FALSE NEIGHBOUR: 'it returns false'. Refute it at one input. -/
def fnEscapesWrong : ChangeSpec := { name := "fnEscapes", fn := fun _ => fun
  | [d] => { results := [.lit (.bool false)], args := [d] }
  | _ => none }
def FnEscapesWrongFalsely : Prop := fnEscapesRow.holds Try.pinned (OpenSpec.ofChange fnEscapesWrong)

/-- 'laws.FnExactEscaped': WHATEVER THE INPUT: true; the input reads as it did. -/
def fnExactEscapedSpec : ChangeSpec := { name := "fnExactEscaped", fn := fun _ => fun
  | [d] => { results := [.lit (.bool true)], args := [d] }
  | _ => none }
def fnExactEscapedRow : OpenClaim := { program := "ytdabpbnmfccogaa", sum := "58acc1b51fc2d2fe0faecb269826adc476c634b4ca4aa79529e696b42fa227ae", func := "loop.example/g00302/laws.FnExactEscaped", spec := "fnExactEscaped", apart := false }
def FnExactEscapedSaid : Prop := fnExactEscapedRow.holds Try.pinned (OpenSpec.ofChange fnExactEscapedSpec)

/-- ITS FALSE NEIGHBOUR: 'it returns false'. Refute it at one input. -/
def fnExactEscapedWrong : ChangeSpec := { name := "fnExactEscaped", fn := fun _ => fun
  | [d] => { results := [.lit (.bool false)], args := [d] }
  | _ => none }
def FnExactEscapedWrongFalsely : Prop := fnExactEscapedRow.holds Try.pinned (OpenSpec.ofChange fnExactEscapedWrong)

/-- 'laws.FnExactUnescaped': WHATEVER THE INPUT: true; the input reads as it did. -/
def fnExactUnescapedSpec : ChangeSpec := { name := "fnExactUnescaped", fn := fun _ => fun
  | [d] => { results := [.lit (.bool true)], args := [d] }
  | _ => none }
def fnExactUnescapedRow : OpenClaim := { program := "ytdabpbnmfccogaa", sum := "58acc1b51fc2d2fe0faecb269826adc476c634b4ca4aa79529e696b42fa227ae", func := "loop.example/g00302/laws.FnExactUnescaped", spec := "fnExactUnescaped", inPlace := ["internal/bytealg.IndexByteString"], apart := false }
def FnExactUnescapedSaid : Prop := fnExactUnescapedRow.holds Try.pinned (OpenSpec.ofChange fnExactUnescapedSpec)

/-- ITS FALSE NEIGHBOUR: 'it returns false'. Refute it at one input. -/
def fnExactUnescapedWrong : ChangeSpec := { name := "fnExactUnescaped", fn := fun _ => fun
  | [d] => { results := [.lit (.bool false)], args := [d] }
  | _ => none }
def FnExactUnescapedWrongFalsely : Prop := fnExactUnescapedRow.holds Try.pinned (OpenSpec.ofChange fnExactUnescapedWrong)

/- THE SECOND FORM. 'bulk': how many values and letters a reading holds, each counted each time it is reached (what is shared counts as often as it is met; a slice's spare places count too). A statement '..UptoSaid' is the law's where the arguments, and the package variables that the reading takes, are together of bulk at most 1048576: NARROWER than '..Said'. Prove '..Said' where nothing that the law and all that it calls make is longer than what came in: it says more and counts as full. Else prove '..UptoSaid'. A law counts once. -/
mutual
def uptoBulk {H : Type} : DataW H → Nat
  | .lit (.string bytes) => bytes.length + 1
  | .lit _ => 1
  | .nil => 1
  | .ptr d => uptoBulk d + 1
  | .slice elems spare => uptoBulkAll elems + uptoBulkAll spare + 1
  | .agg parts => uptoBulkAll parts + 1
  | .iface _ d => uptoBulk d + 1
  | .map entries => uptoBulkEntries entries + 1
  | .held _ => 1
def uptoBulkAll {H : Type} : List (DataW H) → Nat
  | [] => 0
  | d :: r => uptoBulk d + uptoBulkAll r
def uptoBulkEntries {H : Type} : List (Lit × DataW H) → Nat
  | [] => 0
  | x :: r => uptoBulkEntry x + uptoBulkEntries r
def uptoBulkEntry {H : Type} : Lit × DataW H → Nat
  | (.string bytes, d) => bytes.length + uptoBulk d + 1
  | (_, d) => uptoBulk d + 1
 end
def uptoSmall : (H : Type) → List (DataW H) → Bool := fun _ ds => decide (uptoBulkAll ds ≤ 1048576)
def OpenSpec.upto (s : _root_.Go.ChangeSpec) : _root_.Go.OpenSpec := { _root_.Go.OpenSpec.ofChange s with cond := some uptoSmall }

/-- 'laws.FnEscapes', WHERE WHAT IT READS IS OF BULK AT MOST 1048576: true; the input reads as it did. -/
def fnEscapesUptoRow : OpenClaim := { program := "ytdabpbnmfccogaa", sum := "58acc1b51fc2d2fe0faecb269826adc476c634b4ca4aa79529e696b42fa227ae", func := "loop.example/g00302/laws.FnEscapes", spec := "fnEscapes", inPlace := ["internal/bytealg.IndexByteString"], apart := false, narrowed := true }
def FnEscapesUptoSaid : Prop := fnEscapesUptoRow.holds Try.pinned (OpenSpec.upto fnEscapesSpec)

/-- 'laws.FnExactEscaped', WHERE WHAT IT READS IS OF BULK AT MOST 1048576: true; the input reads as it did. -/
def fnExactEscapedUptoRow : OpenClaim := { program := "ytdabpbnmfccogaa", sum := "58acc1b51fc2d2fe0faecb269826adc476c634b4ca4aa79529e696b42fa227ae", func := "loop.example/g00302/laws.FnExactEscaped", spec := "fnExactEscaped", apart := false, narrowed := true }
def FnExactEscapedUptoSaid : Prop := fnExactEscapedUptoRow.holds Try.pinned (OpenSpec.upto fnExactEscapedSpec)

/-- 'laws.FnExactUnescaped', WHERE WHAT IT READS IS OF BULK AT MOST 1048576: true; the input reads as it did. -/
def fnExactUnescapedUptoRow : OpenClaim := { program := "ytdabpbnmfccogaa", sum := "58acc1b51fc2d2fe0faecb269826adc476c634b4ca4aa79529e696b42fa227ae", func := "loop.example/g00302/laws.FnExactUnescaped", spec := "fnExactUnescaped", inPlace := ["internal/bytealg.IndexByteString"], apart := false, narrowed := true }
def FnExactUnescapedUptoSaid : Prop := fnExactUnescapedUptoRow.holds Try.pinned (OpenSpec.upto fnExactUnescapedSpec)

end Rows
end Go.Proofs.Ytdabpbnmfccogaa
