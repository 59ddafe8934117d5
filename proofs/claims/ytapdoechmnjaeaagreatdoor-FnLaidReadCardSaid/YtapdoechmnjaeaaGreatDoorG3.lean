import Derived.Test.YtapdoechmnjaeaaGreatDoorG2
import Derived.Test.YtapdoechmnjaeaaGreatDoorWa
import Derived.Lib.QuietBelow
set_option maxHeartbeats 8000000
set_option maxRecDepth 100000
namespace Go.Proofs.YtapdoechmnjaeaaGreatDoor
open Go.RowKit Go.Sort
open Kk (Rk rk0 texL texR decS zea zeb zec OwnR flatR encR zdh)
def okV (L:List KV) (j:Nat):Bool:=kyV L j&&riV L j
theorem all_both (p q:Nat→Bool) (n:Nat):((List.range n).all q&&(List.range n).all p)=(List.range n).all fun j=>p j&&q j:=by
 rw [Bool.eq_iff_iff];simp only [Bool.and_eq_true,List.all_eq_true];exact ⟨fun ⟨h1,h2⟩ x hx=>⟨h2 x hx,h1 x hx⟩,fun h=>⟨fun x hx=> (h x hx).2,fun x hx=> (h x hx).1⟩⟩
theorem dbOk_eq2 (L:List KV) (n:Nat) (h:L.length=n):dbOkB (L.map KV.key)=(decide (n≤20)&&(List.range n).all (okV L)):=by
 rw [dbOk_eq,h,all_both];rfl
theorem l1In_time (t:Int) (w:World):Calls Tryz.prog 77 #[.int .i64 t,.int .i64 0,.int .i64 1000000000] w fun e w'=>e= .returned (.bool (timeB t))∧Below w.heap.size w w':=
 (Hp.l1In_any t 0 1000000000 w).mono fun e w' ⟨he,hw⟩=>⟨by rw [he];exact zae (by unfold timeB;rw [Bool.eq_iff_iff];simp),by rw [hw];exact Below.refl _ _⟩
theorem specDbOk_any (a:Option Addr) (b n c:Nat) (L:List KV) (w:World) (h:DbAt w a b n L) (hs:Small L) (hn:n≤1048577):
  Calls Tryz.prog 37 #[.slice a n c] w fun e w'=>e= .returned (.bool (dbOkB (L.map KV.key)))∧Below w.heap.size w w':=by
 have HE:Hid (dbOkB (L.map KV.key)=(decide (n≤20)&&(List.range n).all (okV L))):=dbOk_eq2 L n h.ks.len;obtain ⟨O,hO⟩:∃O,dbOkB (L.map KV.key)=O:=⟨_,rfl⟩;rw [hO] at HE ⊢;have HD:Hid (DbAt w a b n L):=h;have HS:Hid (Small L):=hs;have HL:Hid (L.length=n):=h.ks.len;clear h hs hO;by_cases h20:n≤20
 ·have hg:decide ((20:Int)<(n:Int))=false:=decide_eq_false (by omega);rw [decide_eq_true h20,Bool.true_and] at HE;go_enter Tryz.func37,Tryz.ntmps37;go_wp2;go_loopw [3] (fun i wr=>∃(k:Nat),k≤n∧i= .int .i64 k∧Hid (∀j,j<k→okV L j=true)∧Below w.heap.size w wr) (fun i _=>n-(intOf i).toNat)
  case atStart=>exact ⟨0,by omega,rfl,(fun j hj=>by omega),Below.refl _ _⟩
  case round=>
   obtain ⟨k,hk,rfl,hp,bk⟩:=hrel;have sk:=bk.size;by_cases hlt:k<n
   ·have HW:=HD.out.below bk;obtain ⟨B,hv⟩:=HW.val k hlt;have hc:=HW.ks.cell k hlt;have hpv:0<k→wr.cell? ⟨b,(k-1)*7,none⟩=some (.string (L.getD (k-1) kv0).key.name):=fun h0=> (HW.ks.cell (k-1) (by omega)).c0;obtain rfl:=HW.ks.addr (by omega);obtain ⟨q1,q2⟩:=HS.out k (by rw [HL.out];exact hlt);have HOK:Hid (okV L k=(decide ((L.getD k kv0).key.name.size≤200)&&(vokB (L.getD k kv0).key.val&&timeB (L.getD k kv0).key.due)&&(decide (k=0)||Op.bytesLess (L.getD (k-1) kv0).key.name.toList (L.getD k kv0).key.name.toList))):=rfl;have HNO:Hid (okV L k=false→O=false):=fun h=>by rw [HE.out];exact Kk.all_no hlt h
    have HP3:Hid (okV L k=true→∀j,j<k+1→okV L j=true):=fun h j hj=>by
     by_cases e:j=k
     ·subst e;exact h
     ·exact hp.out j (by omega)
    clear hp;have cV:∀d os,Calls Tryz.prog 79 #[vlV (L.getD k kv0).key.val.kind (L.getD k kv0).key.val.text (L.getD k kv0).vi (L.getD k kv0).vp (L.getD k kv0).vr] (grow (redrawn wr d) os) fun e w''=>e= .returned (.bool (vokB (L.getD k kv0).key.val))∧∃p:Regrown,w''=grow (redrawn wr p.d) p.os:=fun d os=>Calls.regrown_of (specOk_any _ _ _ _ B _ (hv.below (below_regrown wr d os)) q1.fit);have cI:∀d os,Calls Tryz.prog 77 #[.int .i64 (L.getD k kv0).key.due,.int .i64 0,.int .i64 1000000000] (grow (redrawn wr d) os) fun e w''=>e= .returned (.bool (timeB (L.getD k kv0).key.due))∧∃p:Regrown,w''=grow (redrawn wr p.d) p.os:=fun d os=>Calls.regrown_of (l1In_time _ _);generalize L.getD k kv0=y at*;generalize (L.getD (k-1) kv0).key.name=xn at*;generalize okV L k=ok at*;generalize vokB y.key.val=o2 at*;generalize timeB y.key.due=o3 at*;obtain ⟨c0,c1,c2,c3,c4,c5,c6⟩:=hc;clear HW q1 hv;obtain ⟨⟨nm,⟨kd,t,_,_,_⟩,d⟩,vi,vp,vr⟩:=y;dsimp only at c0 c1 c2 c3 c4 c5 c6 cV cI HOK q2;have kc0:=cell_regrown c0;have kc1:=cell_regrown c1;have kc2:=cell_regrown c2;have kc3:=cell_regrown c3;have kc4:=cell_regrown c4;have kc5:=cell_regrown c5;have kc6:=cell_regrown c6;have hk0:(0:Int)≤(k:Int):=by omega
    have hkn:(k:Int)<(n:Int):=by omega
    clear c0 c1 c2 c3 c4 c5 c6;by_cases h1:nm.size≤200
    ·have g1:decide ((200:Int)<(nm.size:Int))=false:=decide_eq_false (by omega);have g1':decide (200<nm.size)=false:=decide_eq_false (by omega);rw [decide_eq_true h1,Bool.true_and] at HOK;cases o2 with
     |false=>
      have HY:Hid (O=false):=HNO.out (by rw [HOK.out];rfl);clear HOK HNO HP3 hpv h1;go_wp2;refine wp_region_quiet_below (by kernel_rfl) (by kernel_rfl) ?_;repeat (first|go_big_quiet_skip|quiet_step (first|with_reducible exact cV _ _|with_reducible exact cI _ _)|(go_big_quiet_want;go_big_quiet_op;go_big_quiet_on))
      refine wpQuiet_nil ?_;intro _ hw';obtain ⟨⟨dq,osq⟩,hw''⟩:=hw';subst hw'';have bq:=below_regrown wr dq osq;generalize grow (redrawn wr dq) osq=wq at*;go_wp2;go_ret;exact ⟨zae HY.out.symm,bk.trans (bq.mono sk)⟩
     |true=>
      rw [Bool.true_and] at HOK;cases o3 with
      |false=>
       have HY:Hid (O=false):=HNO.out (by rw [HOK.out];rfl);clear HOK HNO HP3 hpv h1;go_wp2;refine wp_region_quiet_below (by kernel_rfl) (by kernel_rfl) ?_;repeat (first|go_big_quiet_skip|quiet_step (first|with_reducible exact cV _ _|with_reducible exact cI _ _)|(go_big_quiet_want;go_big_quiet_op;go_big_quiet_on))
       refine wpQuiet_nil ?_;intro _ hw';obtain ⟨⟨dq,osq⟩,hw''⟩:=hw';subst hw'';have bq:=below_regrown wr dq osq;generalize grow (redrawn wr dq) osq=wq at*;go_wp2;go_ret;exact ⟨zae HY.out.symm,bk.trans (bq.mono sk)⟩
      |true=>
       rw [Bool.true_and] at HOK;by_cases hk1:k=0
       ·have g3:decide ((0:Int)<(k:Int))=false:=decide_eq_false (by omega);have g3':decide (0<k)=false:=decide_eq_false (by omega);have HY:Hid (∀j,j<k+1→okV L j=true):=HP3.out (by rw [HOK.out,decide_eq_true hk1];rfl);clear HOK HNO HP3 hpv h1 hk1;go_wp2;refine wp_region_quiet_below (by kernel_rfl) (by kernel_rfl) ?_;repeat (first|go_big_quiet_skip|quiet_step (first|with_reducible exact cV _ _|with_reducible exact cI _ _)|(go_big_quiet_want;go_big_quiet_op;go_big_quiet_on))
        refine wpQuiet_nil ?_;intro _ hw';obtain ⟨⟨dq,osq⟩,hw''⟩:=hw';subst hw'';have bq:=below_regrown wr dq osq;generalize grow (redrawn wr dq) osq=wq at*;go_wp2;go_roundw
        case rel=>exact ⟨k+1,by omega,by go_num,HY,bk.trans (bq.mono sk)⟩
        case measure=>simp [intOf];omega
       ·have g3:decide ((0:Int)<(k:Int))=true:=decide_eq_true (by omega);have g3':decide (0<k)=true:=decide_eq_true (by omega);have kx0:=cell_regrown (hpv (by omega));have hk2:(1:Int)≤(k:Int):=by omega
        have hk3:(0:Int)≤(k:Int)-1:=by omega
        have hk4:(k:Int)-1<(n:Int):=by omega
        have htn:((k:Int)-1).toNat=k-1:=by omega
        have hw:IntKind.i64.wrap ((k:Int)-1)=(k:Int)-1:=Kk.wrap_small (by omega) (by omega);rw [decide_eq_false hk1,Bool.false_or] at HOK;clear hpv h1 hk1;cases hlss:Op.bytesLess xn.toList nm.toList with
        |true=>
         have HY:Hid (∀j,j<k+1→okV L j=true):=HP3.out (by rw [HOK.out,hlss]);clear HOK HNO HP3;go_wp2;refine wp_region_quiet_below (by kernel_rfl) (by kernel_rfl) ?_;repeat (first|go_big_quiet_skip|quiet_step (first|with_reducible exact cV _ _|with_reducible exact cI _ _)|(go_big_quiet_want;go_big_quiet_op;go_big_quiet_on))
         refine wpQuiet_nil ?_;intro _ hw';obtain ⟨⟨dq,osq⟩,hw''⟩:=hw';subst hw'';have bq:=below_regrown wr dq osq;generalize grow (redrawn wr dq) osq=wq at*;go_wp2;go_roundw
         case rel=>exact ⟨k+1,by omega,by go_num,HY,bk.trans (bq.mono sk)⟩
         case measure=>simp [intOf];omega
        |false=>
         have HY:Hid (O=false):=HNO.out (by rw [HOK.out,hlss]);clear HOK HNO HP3;go_wp2;refine wp_region_quiet_below (by kernel_rfl) (by kernel_rfl) ?_;repeat (first|go_big_quiet_skip|quiet_step (first|with_reducible exact cV _ _|with_reducible exact cI _ _)|(go_big_quiet_want;go_big_quiet_op;go_big_quiet_on))
         refine wpQuiet_nil ?_;intro _ hw';obtain ⟨⟨dq,osq⟩,hw''⟩:=hw';subst hw'';have bq:=below_regrown wr dq osq;generalize grow (redrawn wr dq) osq=wq at*;go_wp2;go_ret;exact ⟨zae HY.out.symm,bk.trans (bq.mono sk)⟩
    ·have g1:decide ((200:Int)<(nm.size:Int))=true:=decide_eq_true (by omega);have g1':decide (200<nm.size)=true:=decide_eq_true (by omega);have HY:Hid (O=false):=HNO.out (by rw [HOK.out,decide_eq_false h1];rfl);clear HOK HNO HP3 hpv h1;go_wp2;refine wp_region_quiet_below (by kernel_rfl) (by kernel_rfl) ?_;repeat (first|go_big_quiet_skip|quiet_step (first|with_reducible exact cV _ _|with_reducible exact cI _ _)|(go_big_quiet_want;go_big_quiet_op;go_big_quiet_on))
     refine wpQuiet_nil ?_;intro _ hw';obtain ⟨⟨dq,osq⟩,hw''⟩:=hw';subst hw'';have bq:=below_regrown wr dq osq;generalize grow (redrawn wr dq) osq=wq at*;go_wp2;go_ret;exact ⟨zae HY.out.symm,bk.trans (bq.mono sk)⟩
   ·have HT:Hid (O=true):=by unfold Hid;rw [HE.out];exact Kk.all_yes fun j hj=>hp.out j (by omega)
    clear hp;go_wp2;go_ret;exact ⟨zae HT.out.symm,bk⟩
 ·have hg:decide ((20:Int)<(n:Int))=true:=decide_eq_true (by omega);have HE2:Hid (O=false):=by unfold Hid;rw [HE.out,decide_eq_false h20];rfl
  go_enter Tryz.func37,Tryz.ntmps37;go_wp2;go_ret;exact ⟨zae HE2.out.symm,Below.refl _ _⟩
end Go.Proofs.YtapdoechmnjaeaaGreatDoor
