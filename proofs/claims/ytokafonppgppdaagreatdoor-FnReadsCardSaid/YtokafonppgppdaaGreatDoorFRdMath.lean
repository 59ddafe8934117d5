import Derived.Test.YtokafonppgppdaaGreatDoorFNum
import Derived.Lib.SmallJoins
import Derived.Lib.MapLaws
set_option maxHeartbeats 1000000
namespace Go.Proofs.YtokafonppgppdaaGreatDoor.Fd
open Go.Lib
def zft:Nat->List UInt8->Option Nat
 |acc,[]=>some acc
 |acc,c::r=>if c.toNat<48\/57<c.toNat\/100000000000000000<acc then none else zft (acc*10+(c.toNat-48)) r
def zjc (l:List UInt8):Bool:=decide (1<l.length)&&decide (l.head?=some 45)
def zd9 (l:List UInt8):List UInt8:=if zjc l then l.tail else l
def zeq (l:List UInt8):Int×Bool:=
 if (zd9 l).length<1\/19<(zd9 l).length\/((zd9 l).head?=some 48/\(1<(zd9 l).length\/zjc l=true)) then (0,false)
 else match zft 0 (zd9 l) with
  |none=> (0,false)
  |some n=> (if zjc l then-(n:Int) else n,zbw (if zjc l then-(n:Int) else n))
theorem zhf (n:Nat) (h:10<=n):Lib.decDigits n=Lib.decDigits (n/10)++ [UInt8.ofNat (48+n%10)]:=by
 rw [Lib.decDigits,dif_neg (by omega)]
theorem zu9 (c:UInt8) (h:¬c.toNat<48) (h2:¬57<c.toNat):UInt8.ofNat (48+(c.toNat-48))=c:=by
 have:48+(c.toNat-48)=c.toNat:=by omega
 rw [this];simp
theorem zzz:∀(l:List UInt8) (acc n:Nat),1<=acc->zft acc l=some n->Lib.decDigits acc++l=Lib.decDigits n
 | [],acc,n,_,h=>by simp only [zft] at h;injection h with h;subst h;simp
 |c::r,acc,n,ha,h=>by
  simp only [zft] at h;split at h
  ·cases h
  ·rename_i hc;have hd:=zhf (acc*10+(c.toNat-48)) (by omega);have e1:(acc*10+(c.toNat-48))/10=acc:=by omega
   have e2:(acc*10+(c.toNat-48))%10=c.toNat-48:=by omega
   rw [e1,e2,zu9 c (by omega) (by omega)] at hd;rw [<-zzz r _ n (by omega) h,hd];simp
theorem yax (l:List UInt8) (n:Nat) (hl:l≠ []) (h0:l.head?=some 48->l.length<=1) (h:zft 0 l=some n):l=Lib.decDigits n:=by
 match l,hl,h0,h with
 |c::r,_,h0,h=>
  simp only [zft] at h;split at h
  ·cases h
  ·rename_i hc;by_cases e:c.toNat=48
   ·have:c=48:=UInt8.toNat_inj.mp (by rw [e];rfl);subst this;have hr:r=[]:=by
     have:=h0 rfl;simpa using this
    subst hr;simp only [zft] at h;injection h with h;subst h;exact (Lib.decDigits_one (i:=0) (by omega)).symm
   ·have hd:Lib.decDigits (0*10+(c.toNat-48))=[c]:=by
     rw [Lib.decDigits_one (by omega)];rw [Nat.zero_mul,Qq,zu9 c (by omega) (by omega)]
    rw [<-zzz r _ n (by omega) h,hd];simp
theorem zp3:∀(l:List UInt8) (c:UInt8) (acc:Nat),zft acc (l++ [c])=(zft acc l).bind fun m=>zft m [c]
 | [],c,acc=>by simp [zft]
 |b::l,c,acc=>by
  simp only [List.cons_append,zft];split
  ·rfl
  ·rw [zp3 l c];rfl
theorem zge (k:Nat) (h:k<10):(UInt8.ofNat (48+k)).toNat=48+k:=by
 simp;omega
theorem yaj (n:Nat) (h:n<=1000000000000000000):zft 0 (Lib.decDigits n)=some n:=by
 induction n using Nat.strongRecOn with
 |_ n ih=>
  by_cases h10:n<10
  ·rw [Lib.decDigits_one h10];simp only [zft];rw [zge n h10,if_neg (by omega)];congr 1;omega
  ·rw [zhf n (by omega),zp3,ih (n/10) (by omega) (by omega)];simp only [Option.bind,zft];rw [zge _ (by omega),if_neg (by omega)];congr 1;omega
theorem yh5 (n:Nat):Lib.decDigits n≠ []:=by
 by_cases h10:n<10
 ·rw [Lib.decDigits_one h10];simp
 ·rw [zhf n (by omega)];simp
theorem zoy (n:Nat) (h:1<=n):∃c r,Lib.decDigits n=c::r/\49<=c.toNat/\c.toNat<=57:=by
 induction n using Nat.strongRecOn with
 |_ n ih=>
  by_cases h10:n<10
  ·exact ⟨_,_,Lib.decDigits_one h10,by rw [zge n h10];omega,by rw [zge n h10];omega⟩
  ·obtain ⟨c,r,e,h1,h2⟩:=ih (n/10) (by omega) (by omega);exact ⟨c,r++ [UInt8.ofNat (48+n%10)],by rw [zhf n (by omega),e];rfl,h1,h2⟩
theorem zru (n:Nat):∃c r,Lib.decDigits n=c::r/\48<=c.toNat/\c.toNat<=57:=by
 by_cases h:1<=n
 ·obtain ⟨c,r,e,h1,h2⟩:=zoy n h;exact ⟨c,r,e,by omega,h2⟩
 ·have:n=0:=by omega
  subst this;exact ⟨48,[],Lib.decDigits_one (by omega),by decide,by decide⟩
theorem zs9:∀(k n:Nat),n<10^(k+1)->(Lib.decDigits n).length<=k+1
 |0,n,h=>by rw [Lib.decDigits_one (by simpa using h)];simp
 |k+1,n,h=>by
  by_cases h10:n<10
  ·rw [Lib.decDigits_one h10];simp
  ·rw [zhf n (by omega)];have:=zs9 k (n/10) (by rw [Nat.pow_succ] at h;omega);simp;omega
theorem zu4 (M:Nat):∀(l:List UInt8) (c:UInt8) (acc m:Nat),Lib.parseUintM M acc l= .ok m->Lib.parseUintM M acc (l++ [c])=Lib.parseUintM M m [c]
 | [],c,acc,m,h=>by simp only [Lib.parseUintM] at h;injection h with h;subst h;rfl
 |b::l,c,acc,m,h=>by
  simp only [Lib.parseUintM] at h;simp only [List.cons_append];rw [Lib.parseUintM];split at h
  ·rename_i h1;rw [if_pos h1];split at h
   ·cases h
   ·rename_i h2;rw [if_neg h2];split at h
    ·cases h
    ·rename_i h3;rw [if_neg h3];exact zu4 M l c _ m h
  ·cases h
theorem yiz (n:Nat) (h:n<=1000000000000000000):Lib.parseUintM 18446744073709551615 0 (Lib.decDigits n)= .ok n:=by
 induction n using Nat.strongRecOn with
 |_ n ih=>
  by_cases h10:n<10
  ·rw [Lib.decDigits_one h10];simp only [Lib.parseUintM];rw [zge n h10,if_pos (by omega),if_neg (by omega),if_neg (by omega)];congr 1;omega
  ·rw [zhf n (by omega),zu4 _ _ _ _ _ (ih (n/10) (by omega) (by omega))];simp only [Lib.parseUintM];rw [zge _ (by omega),if_pos (by omega),if_neg (by omega),if_neg (by omega)];congr 1;omega
theorem yfj (n:Nat) (h:n<=1000000000000000000):Lib.parseUintB 64 (Lib.decDigits n)= .ok n:=by
 unfold Lib.parseUintB;rw [if_neg (yh5 n)];exact yiz n h
theorem ydw (v:Int) (h:zbw v=true):Lib.parseIntB 64 (Lib.itoa v)= .ok v:=by
  have hv: -1000000000000000000<=v/\v<=1000000000000000000:=Qg h;unfold Lib.itoa;by_cases hn:v < 0
  · rw [if_pos hn,Lib.parseIntB_minus,yfj _ (by omega)];simp only [Lib.signedC]
    rw [if_neg (by have:(2:Nat) ^ (64 - 1)=9223372036854775808:=by decide
                   omega)]
    congr 1;omega
  · rw [if_neg hn];obtain ⟨c,r,e,h1,h2⟩:=zru v.toNat;have hp:=yfj v.toNat (by omega);rw [e] at hp ⊢;rw [Lib.parseIntB_plain 64 c r (by omega) (by omega),hp];simp only [Lib.signlessC]
    rw [if_neg (by have:(2:Nat) ^ (64 - 1)=9223372036854775808:=by decide
                   omega)]
    congr 1;omega
theorem zz2 (v:Int) (h:zbw v=true):zql (Lib.itoa v)=some v:=by
 unfold zql;rw [ydw v h];simp [h]
theorem zze (v:Int) (h:zbw v=true):zeq (Lib.itoa v)=(v,true):=by
 have hv:-1000000000000000000<=v/\v<=1000000000000000000:=Qg h;by_cases hn:v<0
 ·have e:Lib.itoa v=45::Lib.decDigits v.natAbs:=by unfold Lib.itoa;rw [if_pos hn]
  obtain ⟨c,r,e2,h1,h2⟩:=zoy v.natAbs (by omega);have hl:=zs9 18 v.natAbs (by omega);have hneg:zjc (Lib.itoa v)=true:=by rw [e,e2];simp [zjc]
  have hb:zd9 (Lib.itoa v)=Lib.decDigits v.natAbs:=by unfold zd9;rw [if_pos hneg,e];rfl
  unfold zeq;rw [hb,hneg,yaj v.natAbs (by omega)];have hc:c≠48:=fun hc=>by subst hc;revert h1;decide
  rw [if_neg (by rw [e2] at hl ⊢;simp [hc] at hl ⊢;omega)];have:-(v.natAbs:Int)=v:=by omega
  simp [this,h]
 ·have e:Lib.itoa v=Lib.decDigits v.toNat:=by unfold Lib.itoa;rw [if_neg hn]
  obtain ⟨c,r,e2,h1,h2⟩:=zru v.toNat;have hl:=zs9 18 v.toNat (by omega);have hc:c≠45:=fun hc=>by subst hc;revert h1;decide
  have hneg:zjc (Lib.itoa v)=false:=by rw [e,e2];simp [zjc,hc]
  have hb:zd9 (Lib.itoa v)=Lib.decDigits v.toNat:=by unfold zd9;rw [hneg,e];rfl
  unfold zeq;rw [hb,hneg,yaj v.toNat (by omega)];have h0:(Lib.decDigits v.toNat).head?=some 48->(Lib.decDigits v.toNat).length<=1:=fun h48=>by
   by_cases hz:1<=v.toNat
   ·obtain ⟨c',r',e3,h3,_⟩:=zoy v.toNat hz;rw [e3] at h48;simp at h48;subst h48;exfalso;revert h3;decide
   ·have:v.toNat=0:=by omega
    rw [this,Lib.decDigits_one (by omega)];simp
  have hne:(Lib.decDigits v.toNat).length≥1:=by rw [e2];simp
  rw [if_neg (by
   rintro (h|h|⟨h,h'|h'⟩)
   ·omega
   ·omega
   ·have:=h0 h;omega
   ·cases h')]
  have:(v.toNat:Int)=v:=by omega
  simp [this,h]
theorem yhb (l:List UInt8) (h:(zeq l).2=true):zbw (zeq l).1=true/\Lib.itoa (zeq l).1=l:=by
 unfold zeq at h ⊢;split at h
 ·cases h
 ·rename_i hc;rw [if_neg hc];cases hd:zft 0 (zd9 l) with
  |none=>rw [hd] at h;cases h
  |some n=>
   rw [hd] at h;refine ⟨h,?_⟩;have hin:zbw (if zjc l=true then-(n:Int) else n)=true:=h
   have hb:zd9 l=Lib.decDigits n:=yax (zd9 l) n (fun e=>hc (by rw [e];simp)) (fun e=>by
    rcases Nat.lt_or_ge 1 (zd9 l).length with h1|h1
    ·exact absurd (Or.inr (Or.inr ⟨e,Or.inl h1⟩)) hc
    ·omega) hd
   show Lib.itoa (if zjc l=true then-(n:Int) else n)=l;cases hneg:zjc l with
   |true=>
    have hl:l=45::zd9 l:=by
     unfold zd9;rw [hneg];unfold zjc at hneg;simp at hneg;obtain ⟨_,h45⟩:=hneg;match l,h45 with
     |c::r,h45=>simp at h45;subst h45;rfl
    have hn0:1<=n:=by
     rcases Nat.eq_zero_or_pos n with e|e
     ·subst e;exfalso;rw [Lib.decDigits_one (by omega)] at hb;exact hc (Or.inr (Or.inr ⟨by rw [hb];rfl,Or.inr hneg⟩))
     ·exact e
    rw [if_pos rfl];unfold Lib.itoa;rw [if_pos (by omega),hl,hb];congr 1;simp
   |false=>
    have hl:zd9 l=l:=by unfold zd9;rw [hneg];rfl
    rw [if_neg (by simp)];unfold Lib.itoa;rw [if_neg (by omega),<-hl,hb];congr 1
theorem yb4 (l:List UInt8):zql l=if (zeq l).2 then some (zeq l).1 else none:=by
 by_cases h:(zeq l).2=true
 ·obtain ⟨h1,h2⟩:=yhb l h;rw [if_pos h];have:=zz2 _ h1;rwa [h2] at this
 ·rw [if_neg h];cases hd:zql l with
  |none=>rfl
  |some v=>
   exfalso;unfold zql at hd;split at hd
   ·split at hd
    ·rename_i hx;injection hd with hd;subst hd;apply h;rw [<-hx.2,zze _ hx.1]
    ·cases hd
   ·cases hd
end Go.Proofs.YtokafonppgppdaaGreatDoor.Fd
