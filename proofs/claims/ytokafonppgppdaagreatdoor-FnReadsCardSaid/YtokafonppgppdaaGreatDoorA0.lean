import Derived.Below
import Derived.Test.YtokafonppgppdaaGreatDoorProg
namespace Go.Proofs.YtokafonppgppdaaGreatDoor
open Go.RowKit
theorem hid {p:Prop} (h:p):Hid p:=h
abbrev Bl (w W:World):Prop:=RowKit.Below w.heap.size w W
abbrev Cp:=Calls Tryz.prog
theorem Qa {α:Type _} {l:List α} {i:Nat} {a:α}:l.getD i a=l[i]?.getD a:=List.getD_eq_getElem?_getD
theorem Qb (B:Nat) (w:World):RowKit.Below B w w:=Below.refl B w
theorem Qc (n:Nat):n≤n:=Nat.le_refl n
theorem Qd {α:Type _} {l:List α} {i:Nat} (h:i<l.length):l[i]?=some l[i]:=List.getElem?_eq_getElem h
theorem Qe {p:Prop} [Decidable p] (h:p):decide p=true:=decide_eq_true h
theorem Qf {p:Prop} [Decidable p] (h:¬p):decide p=false:=decide_eq_false h
theorem Qg {p:Prop} [Decidable p] (h:decide p=true):p:=of_decide_eq_true h
theorem Qh (a b:Bool):((a&&b)=true)=(a=true∧b=true):=Bool.and_eq_true a b
theorem Qi {α:Type _} {xs ys:List α}:(xs++ys).length=xs.length+ys.length:=List.length_append
theorem Qj {n m k:Nat} (h:n≤m) (h2:m≤k):n≤k:=Nat.le_trans h h2
theorem Qk {α:Type _} {a:α} {l:List α}:(a::l)[0]?=some a:=List.getElem?_cons_zero
theorem Ql {α:Type _} {a:α} {i:Nat} {l:List α}:(a::l)[i+1]?=l[i]?:=List.getElem?_cons_succ
theorem Qm {α:Type _} {xs:List α} {i:Nat}:xs.toArray[i]?=xs[i]?:=List.getElem?_toArray
theorem Qn {α:Type _} {i:Nat} {l:List α}:(l.take i).length=min i l.length:=List.length_take
theorem Qo {α:Type _} {i:Nat} {l:List α} (h:i<l.length):l.take (i+1)=l.take i++ [l[i]]:=List.take_succ_eq_append_getElem h
theorem Qp {α:Type _} {β:Type _} {xs:List α} (f:α→β):(xs.map f).length=xs.length:=List.length_map f
theorem Qq (n:Nat):0+n=n:=Nat.zero_add n
theorem Qr {n m k:Nat} (h:n<m) (h2:m≤k):n<k:=Nat.lt_of_lt_of_le h h2
theorem Qs (n:Nat):0≤n:=Nat.zero_le n
theorem Qt {α:Type _} (p:α→Bool) (l:List α):(l.filter p).length≤l.length:=List.length_filter_le p l
theorem Qu {α:Type _} {i:Nat} {l:List α}:(l.drop i).length=l.length-i:=List.length_drop
theorem Qv {α:Type _} {l:List α} {n:Nat} (h:n<l.length):l[n]∈l:=List.getElem_mem h
theorem Qw {α:Type _} {p:α→Bool} {l:List α}:l.all p=true↔∀x,x∈l→p x=true:=List.all_eq_true
theorem Qy (n:Nat):n+0=n:=Nat.add_zero n
theorem Qz (b:Bool):(true&&b)=b:=Bool.true_and b
theorem Q0 (b:Bool):(false&&b)=false:=Bool.false_and b
theorem Q1 {α:Type _} {a:α} {xs:List α}:(a::xs).length=xs.length+1:=List.length_cons
end Go.Proofs.YtokafonppgppdaaGreatDoor
