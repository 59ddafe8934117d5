import Derived.Test.YtokafonppgppdaaGreatDoorCards
import Derived.HandedShaped
import Derived.LaidMore
import Derived.Lib.LaidTab
import Derived.SevenTiedAt
import Derived.Shelf.Vars
import Derived.Stop.ErrReads
import Derived.Stop.LaidTwo
import Derived.OpenVars
set_option maxHeartbeats 40000000
set_option maxRecDepth 100000
namespace Go.Proofs.YtokafonppgppdaaGreatDoor.Ev
open Go.RowKit
theorem yiy:joinedFacts Tryz.prog 10 Tryz.f10 Rows.fnExpiresSpec Rows.fnExpiresRow=true:=by
 unfold joinedFacts;simp only [Bool.and_eq_true];repeat' apply And.intro
 all_goals (as_aux_lemma=>kernel_rfl)
theorem yfl:Tryz.prog.funcNamed Rows.fnExpiresRow.func=some 10:=by kernel_rfl
theorem yjk:Tryz.f10.isInstance Tryz.prog Rows.fnExpiresRow.origin Rows.fnExpiresRow.targs:=of_decide_eq_true (by as_aux_lemma=>kernel_rfl)
theorem yji:Tryz.f10.isWrapper Tryz.prog Rows.fnExpiresRow.wrapper Rows.fnExpiresRow.mainSum:=by
 unfold Func.isWrapper;first
  |(rw [if_pos (by decide+kernel)];kernel_rfl)
  |(rw [if_neg (by decide+kernel)];exact ⟨rfl,rfl⟩)
theorem wf4:Rows.fnExpiresRow.wfByText (OpenSpec.ofChange Rows.fnExpiresSpec)=true:=by kernel_rfl
theorem ykd:Tryz.prog.mainIs=some (true, "69c08158771bc1fd936d6d5fe8cec2f5f125db736789279105a448f9555d6864".toList):=by kernel_rfl
theorem yiu:true=Tryz.prog.looks []:=by kernel_rfl
theorem yj2:false=Rows.fnExpiresRow.goesBy Tryz.prog:=by kernel_rfl
end Go.Proofs.YtokafonppgppdaaGreatDoor.Ev
