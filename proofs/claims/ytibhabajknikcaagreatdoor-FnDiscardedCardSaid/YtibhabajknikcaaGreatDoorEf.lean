/- The closed facts of the row and of its card. -/
import Derived.Test.YtibhabajknikcaaGreatDoorCards
import Derived.HandedShaped
import Derived.LaidMore
import Derived.Lib.LaidTab
import Derived.SevenTiedAt
import Derived.JoinedOf
import Derived.Shelf.Vars
import Derived.Stop.ErrReads
import Derived.Stop.LaidTwo
import Derived.OpenVars
set_option maxHeartbeats 40000000
set_option maxRecDepth 100000
namespace Go.Proofs.YtibhabajknikcaaGreatDoor.Er
open Go.RowKit
theorem facts3:joinedFacts Tryz.prog 3 Tryz.f3 Rows.fnDiscardedSpec Rows.fnDiscardedRow=true:=by
 unfold joinedFacts;simp only [Bool.and_eq_true];repeat' apply And.intro
 all_goals (as_aux_lemma=>kernel_rfl)
theorem named3:Tryz.prog.funcNamed Rows.fnDiscardedRow.func=some 3:=by kernel_rfl
theorem inst3:Tryz.f3.isInstance Tryz.prog Rows.fnDiscardedRow.origin Rows.fnDiscardedRow.targs:=of_decide_eq_true (by as_aux_lemma=>kernel_rfl)
theorem wrap3:Tryz.f3.isWrapper Tryz.prog Rows.fnDiscardedRow.wrapper Rows.fnDiscardedRow.mainSum:=by
 unfold Func.isWrapper;first|(rw [if_pos (by decide+kernel)];kernel_rfl)|(rw [if_neg (by decide+kernel)];exact ⟨rfl,rfl⟩)
theorem wf3:Rows.fnDiscardedRow.wfByText (OpenSpec.ofChange Rows.fnDiscardedSpec)=true:=by kernel_rfl
theorem main3:Tryz.prog.mainIs=some (true, "1352a90433190fb170125af28a82aae13d96e5f4aa36b3bee9ce4ae9e591e91e".toList):=by kernel_rfl
theorem looks3:true=Tryz.prog.looks []:=by kernel_rfl
theorem goes3:false=Rows.fnDiscardedRow.goesBy Tryz.prog:=by kernel_rfl
end Go.Proofs.YtibhabajknikcaaGreatDoor.Er
