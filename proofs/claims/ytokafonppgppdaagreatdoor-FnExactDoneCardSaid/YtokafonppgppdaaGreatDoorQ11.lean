import Derived.Test.YtokafonppgppdaaGreatDoorCards
import Derived.HandedShaped
import Derived.LaidMore
import Derived.Lib.LaidTab
import Derived.SevenTiedAt
import Derived.Shelf.Vars
import Derived.Stop.ErrReads
import Derived.Stop.LaidTwo
import Derived.OpenVars
set_option maxHeartbeats 40000000
set_option maxRecDepth 100000
namespace Go.Proofs.YtokafonppgppdaaGreatDoor.Ev
open Go.RowKit
theorem yiy:joinedFacts Tryz.prog 11 Tryz.f11 Rows.fnExactDoneSpec Rows.fnExactDoneRow=true:=by
 unfold joinedFacts;simp only [Bool.and_eq_true];repeat' apply And.intro
 all_goals (as_aux_lemma=>kernel_rfl)
theorem yfl:Tryz.prog.funcNamed Rows.fnExactDoneRow.func=some 11:=by kernel_rfl
theorem yjk:Tryz.f11.isInstance Tryz.prog Rows.fnExactDoneRow.origin Rows.fnExactDoneRow.targs:=of_decide_eq_true (by as_aux_lemma=>kernel_rfl)
theorem yji:Tryz.f11.isWrapper Tryz.prog Rows.fnExactDoneRow.wrapper Rows.fnExactDoneRow.mainSum:=by
 unfold Func.isWrapper;first
  |(rw [if_pos (by decide+kernel)];kernel_rfl)
  |(rw [if_neg (by decide+kernel)];exact ⟨rfl,rfl⟩)
theorem wf4:Rows.fnExactDoneRow.wfByText (OpenSpec.ofChange Rows.fnExactDoneSpec)=true:=by kernel_rfl
theorem ykd:Tryz.prog.mainIs=some (true, "69c08158771bc1fd936d6d5fe8cec2f5f125db736789279105a448f9555d6864".toList):=by kernel_rfl
theorem yiu:true=Tryz.prog.looks []:=by kernel_rfl
theorem yj2:false=Rows.fnExactDoneRow.goesBy Tryz.prog:=by kernel_rfl
end Go.Proofs.YtokafonppgppdaaGreatDoor.Ev
