import Derived.Test.YtapdoechmnjaeaaGreatDoorHb
set_option maxHeartbeats 4000000
set_option maxRecDepth 100000
namespace Go.Proofs.YtapdoechmnjaeaaGreatDoor.Hp
open Go.RowKit Go.Sort
section
variable {w2 : World} {n : Nat} {L M : List Cl} {DD : ByteArray} {i j p t : Nat} {l : Array Bool} {g1 Z : Nat} {a1 : Option Addr} {cap1 : Nat} {W : World}
end
def liveS (L:List Cl):List Nat:=stI L L.length
theorem liveS_lt (L:List Cl):∀i∈liveS L,i<L.length:=(st_bound L L.length).2
theorem liveS_len (L:List Cl):(liveS L).length≤L.length:=(st_bound L L.length).1
theorem liveS_at {L:List Cl} {m:Nat} (h:m<(liveS L).length):(liveS L).getD m 0∈liveS L:=by
 rw [List.getD_eq_getElem?_getD,List.getElem?_eq_getElem h];exact List.getElem_mem h
def cutOf (s:ByteArray) (x:Cl):ByteArray:=s.extract x.pos.toNat (x.pos.toNat+x.len.toNat)
def moveC (M:List Cl) (i e:Nat):List Cl:=M.set i ⟨e,(M.getD i cl0).len,(M.getD i cl0).gen,(M.getD i cl0).live⟩
def pkStep (s:ByteArray) (L:List Cl) (st:List Cl×ByteArray) (i:Nat):List Cl×ByteArray:=(moveC st.1 i st.2.size,st.2++cutOf s (clOf L i))
def pkSt (s:ByteArray) (L:List Cl) (m:Nat):List Cl×ByteArray:=((liveS L).take m).foldl (pkStep s L) (L,⟨#[]⟩)
theorem pkSt_next (s:ByteArray) (L:List Cl) {m:Nat} (h:m<(liveS L).length):pkSt s L (m+1)=pkStep s L (pkSt s L m) ((liveS L).getD m 0):=by
 unfold pkSt;rw [List.take_succ_eq_append_getElem h,List.foldl_append,List.getD_eq_getElem?_getD,List.getElem?_eq_getElem h];rfl
theorem pk_len (s:ByteArray) (L:List Cl):∀m,m≤(liveS L).length→(pkSt s L m).1.length=L.length
 |0,_=>rfl
 |m+1,h=>by
  rw [pkSt_next s L (by omega)];show (moveC _ _ _).length=_;unfold moveC;rw [List.length_set,pk_len s L m (by omega)]
def pkN (L:List Cl) (m:Nat):Nat:=(((liveS L).take m).map fun i=> (clOf L i).len.toNat).sum
theorem pkN_next (L:List Cl) {m:Nat} (h:m<(liveS L).length):pkN L (m+1)=pkN L m+(clOf L ((liveS L).getD m 0)).len.toNat:=by
 unfold pkN;rw [List.take_succ_eq_append_getElem h,List.map_append,List.sum_append,List.getD_eq_getElem?_getD,List.getElem?_eq_getElem h];simp
theorem pkN_mono (L:List Cl):∀(m d:Nat),m+d≤(liveS L).length→pkN L m≤pkN L (m+d)
 |m,0,_=>Nat.le_refl _
 |m,d+1,h=>by
  have:=pkN_mono L m d (by omega);have:=pkN_next L (m:=m+d) (by omega);rw [show m+(d+1)=m+d+1 from by omega];omega
theorem sum_ahead (n:Nat):∀(S:List Cl) (e:Nat),Ahead n S e→e+(S.map fun c=>c.len.toNat).sum≤n
 | [],e,h=>by simpa using h.1
 |c::r,e,h=>by
  have f:=h.facts;have:=sum_ahead n r _ h.next;rw [List.map_cons,List.sum_cons];omega
theorem pkN_all {n:Nat} {L:List Cl} {t:Nat→Bool} (h:Right n L t):pkN L (liveS L).length≤n:=by
 have:=sum_ahead n (liveC [] L) 0 h.ahead;rw [live_all L,List.map_map] at this;unfold pkN;rw [List.take_length];have e:(liveS L).map (fun i=> (clOf L i).len.toNat)=(stI L L.length).map ((fun c:Cl=>c.len.toNat) ∘ clOf L):=rfl;rw [e];omega
theorem live_ok {n:Nat} {L:List Cl} {t:Nat→Bool} (h:Right n L t) {i:Nat} (hi:i∈liveS L):Ok n (clOf L i):=
 h.ok _ (by rw [live_all L];exact List.mem_map_of_mem hi)
theorem cut_size {s:ByteArray} {x:Cl} (h:Ok s.size x):(cutOf s x).size=x.len.toNat:=by
 obtain ⟨_,h1,h2,h3⟩:=h;unfold cutOf;rw [ByteArray.size_extract];omega
theorem pk_size {s:ByteArray} {L:List Cl} {t:Nat→Bool} (h:Right s.size L t):∀m,m≤(liveS L).length→(pkSt s L m).2.size=pkN L m
 |0,_=>rfl
 |m+1,hm=>by
  rw [pkSt_next s L (by omega),pkN_next L (by omega)];show (_++cutOf s _).size=_;rw [ByteArray.size_append,pk_size h m (by omega),cut_size (live_ok h (liveS_at (by omega)))]
theorem pk_room {s:ByteArray} {L:List Cl} {t:Nat→Bool} (h:Right s.size L t) {m:Nat} (hm:m<(liveS L).length):pkN L m+(clOf L ((liveS L).getD m 0)).len.toNat≤s.size:=by
 have:=pkN_next L hm;have:=pkN_mono L (m+1) ((liveS L).length-(m+1)) (by omega);rw [show m+1+((liveS L).length-(m+1))=(liveS L).length from by omega] at this;have:=pkN_all h;omega
theorem pk_le {s:ByteArray} {L:List Cl} {t:Nat→Bool} (h:Right s.size L t) {m:Nat} (hm:m≤(liveS L).length):pkN L m≤s.size:=by
 have:=pkN_mono L m ((liveS L).length-m) (by omega);rw [show m+((liveS L).length-m)=(liveS L).length from by omega] at this;have:=pkN_all h;omega
def packD (s:ByteArray) (L:List Cl):ByteArray:=if heapB s L=true then (pkSt s L (liveS L).length).2++dataZ (s.size-(pkSt s L (liveS L).length).2.size) else ⟨#[]⟩
def packL (s:ByteArray) (L:List Cl):List Cl:=if heapB s L=true then (pkSt s L (liveS L).length).1 else []
theorem pack_no {s:ByteArray} {L:List Cl} (h:heapB s L=false):packD s L=⟨#[]⟩∧packL s L=[]:=by
 unfold packD packL;rw [h];exact ⟨rfl,rfl⟩
theorem flatC_move (M:List Cl) (i e:Nat) (h:i < M.length):(flatC M).set (i*4) (.int .i64 e)=flatC (moveC M i e):=by
 have hs:=split_at M i h
 have hl:(flatC (M.take i)).length=i*4:=by rw [flatC_len,List.length_take];omega
 have e2:moveC M i e=M.take i++(⟨e,(M.getD i cl0).len,(M.getD i cl0).gen,(M.getD i cl0).live⟩::M.drop (i+1)):=by
  unfold moveC
  rw [List.set_eq_take_append_cons_drop,if_pos h]
 rw [e2,flatC_app]
 generalize M.getD i cl0=y at*
 conv=>lhs;rw [hs,flatC_app]
 rw [List.set_append_right _ _ (by omega),hl,Nat.sub_self]
 rfl
structure PackK (w:World) (s:ByteArray) (a:Option Addr) (b off n c:Nat) (L:List Cl) (S:List Nat) (B3 A2 cap2:Nat) (wr:World):Prop where
 p0:RowAt wr w.heap.size 26 #[.string s,.slice a n c]
 p2:RowAt wr (w.heap.size+1) 26 #[.string ⟨#[]⟩,.slice none 0 0]
 li:wr.ownsRow B3 3 1 (.slice (some ⟨A2,0,none⟩) S.length cap2) S.length (ints S)
 hc:CellsIn wr a b off n L
 bb:Below w.heap.size w wr
theorem PackK.below {w:World} {s:ByteArray} {a:Option Addr} {b off n c:Nat} {L:List Cl} {S:List Nat} {B3 A2 cap2:Nat} {wr wr':World} (h:PackK w s a b off n c L S B3 A2 cap2 wr) (hb:Below wr.heap.size wr wr'):PackK w s a b off n c L S B3 A2 cap2 wr':=
 ⟨h.p0.below hb h.p0.lt,h.p2.below hb h.p2.lt,zaf h.li hb,zaj h.hc hb,h.bb.trans (hb.mono h.bb.size)⟩
theorem PackK.set {w:World} {s:ByteArray} {a:Option Addr} {b off n c:Nat} {L:List Cl} {S:List Nat} {B3 A2 cap2:Nat} {wr:World} (h:PackK w s a b off n c L S B3 A2 cap2 wr) (hw:0<n→b<w.heap.size) {g j:Nat} {v:Value} (hg:w.heap.size+2≤g) (hgA:g≠A2):PackK w s a b off n c L S B3 A2 cap2 (wr.setCell ⟨g,j,none⟩ v):=by
 refine ⟨(Below.heap_setCell _ _ _ _ (by simp only;omega)).trans h.p0,(Below.heap_setCell _ _ _ _ (by simp only;omega)).trans h.p2,ownsRow_setCell_other h.li (fun e=>hgA (by have:=Option.some.inj e;simpa using this.symm)) _,?_,h.bb.setCell (p:=⟨g,j,none⟩) (by simp only;omega) _⟩;refine ⟨h.hc.len,h.hc.addr,fun h0=>by simpa [World.setCell] using h.hc.low h0,fun i hi=>?_⟩;have hx:=h.hc.cell i hi;have hb:∀k,(wr.setCell ⟨g,j,none⟩ v).cell? ⟨b,k,none⟩=wr.cell? ⟨b,k,none⟩:=fun k=>World.cell?_of_block (w:=wr) (Below.heap_setCell _ _ _ _ (by have:=hw (by omega);simp only;omega));exact ⟨(hb _).trans hx.c0,(hb _).trans hx.c1,(hb _).trans hx.c2,(hb _).trans hx.c3⟩
theorem list_append_run {P:Program} {w w':World} {ops:Array Oper} {rest:List Oper} {o:Oper} {a:Act} {Q:Exit→Act→World→Prop} (hgd:o.guard=none) (s x:Operand) (t:TypeId)
  (ho:o.op=Op.call { callee:=Callee.builtin Builtin.append,args:= #[s,x],argTypes:= #[t,t] }) {v y v':Value} (hs:a.eval s=v) (hx:a.eval x=y) (hr:(Builtin.append_ #[t,t] o.type #[v,y]).run P w= .ok v' w')
  (h:Hid True→wpList P ops Q rest (a.put o.dst v') w'):wpList P ops Q (o::rest) a w:=
 wpList_plain hgd fun _ hK=>by
  unfold Oper.wp;simp [execOp,ho,resolve,invoke,builtin,hs,hx,hr,Result.andThen];exact hK _ _ (h trivial)
theorem ints_at {w:World} {B A cap:Nat} {S:List Nat} (h:w.ownsRow B 3 1 (.slice (some ⟨A,0,none⟩) S.length cap) S.length (ints S)) {m:Nat} (hm:m<S.length):w.cell? ⟨A,m,none⟩=some (.int .i64 (S.getD m 0:Nat)):=by
 have:=h.cells rfl m (.int .i64 (S.getD m 0:Nat)) (by unfold ints;rw [List.getElem?_map,List.getElem?_eq_getElem hm,List.getD_eq_getElem?_getD,List.getElem?_eq_getElem hm];rfl);rwa [Addr.add_lit,Nat.zero_add] at this
theorem specPacked_any (s:ByteArray) (a:Option Addr) (b off n c:Nat) (L:List Cl) (w:World) (h:CellsIn w a b off n L) (hs:s.size≤1048576) (hn:n≤1048576) (hf:∀i,i<n→Fit (L.getD i cl0)):
  Calls Tryz.prog 31 #[.agg #[.string s,.slice a n c]] w (HeapEnd w (packD s L) (packL s L) (heapB s L)):=by
 have hl:=h.len;have HLow:Hid (0<n→b<w.heap.size):=h.low;have bw:Below w.heap.size w ((w.alloc (.cells #[.string s,.slice a n c] 26)).alloc (.cells #[.string ⟨#[]⟩,.slice none 0 0] 26)):=Go.Joins.below_alloc2 _ _ _;have r0:=(RowAt.new w 26 #[.string s,.slice a n c]).below ((Below.refl _ _).alloc (Nat.le_refl _) (.cells #[.string ⟨#[]⟩,.slice none 0 0] 26)) (by simp);have r2:=RowAt.new (w.alloc (.cells #[.string s,.slice a n c] 26)) 26 #[.string ⟨#[]⟩,.slice none 0 0];simp only [World.size_alloc] at r2;have h2:=zaj h bw;have l0:=r0.lt;have l2:=r2.lt;go_enter Tryz.func31,Tryz.ntmps31;go_wp2_with fail;generalize (w.alloc (.cells #[.string s,.slice a n c] 26)).alloc (.cells #[.string ⟨#[]⟩,.slice none 0 0] 26)=w1 at*;refine (specOk_any s a b off n c L w1 h2 hs hn hf).mono ?_;rintro e w2 ⟨rfl,b2⟩;have bb:=bw.trans (b2.mono bw.size);have q0:=r0.below b2 l0;have q2:=r2.below b2 l2;have s2:=b2.size;have h3:=zaj h2 b2;clear r0 r2 h2 bw b2;cases hr:heapB s L with
 |false=>
  have HR:=pack_no hr;have u2:=row_ret (D:= .string ⟨#[]⟩) (v:= .slice none 0 0) q2 rfl;obtain ⟨e0,e1⟩:=zbb q2;obtain ⟨g0,g1⟩:=zbb u2;have f0:=q2.frozen 0;have f1:=q2.frozen 1;have HR1:Hid (packD s L=⟨#[]⟩):=HR.1;have HR2:Hid (packL s L=[]):=HR.2;have HR3:Hid (heapB s L=false):=hr;clear hr hl q0 q2 u2 h3 HR;go_wp2;exact bodyPost_ret (v:= .tuple #[.agg #[.string ⟨#[]⟩,.slice none 0 0],.bool false]) (by simp [results,Tryz.results31,go_sem,g0,g1]) rfl (by rw [HR1.out,HR2.out,HR3.out];exact heap_no ((bb.setCell (p:=⟨w.heap.size+1,0,none⟩) (by simp) _).setCell (p:=⟨w.heap.size+1,1,none⟩) (by simp) _))
 |true=>
  have HH:Hid (heapB s L=true):=hr;have HD:Hid (packD s L=(pkSt s L (liveS L).length).2++dataZ (s.size-(pkSt s L (liveS L).length).2.size)):=if_pos hr;have HM:Hid (packL s L=(pkSt s L (liveS L).length).1):=if_pos hr;obtain ⟨hs3,hL⟩:=heap_small hr;obtain ⟨t,_,hR⟩:=heap_right hr;clear hr;have hn40:n≤40:=by omega
  obtain ⟨e0,e1⟩:=zbb q0;have ba:Below w2.heap.size w2 (w2.alloc (.cells #[] 131)):=(Below.refl _ w2).alloc (Nat.le_refl _) _;have h4:=zaj h3 ba;have e2:=(zbb (q0.below ba q0.lt)).1;have e3:=(zbb (q0.below ba q0.lt)).2;obtain ⟨A,cap,w5,hrun,hown5,hgr5⟩:=append_cells (W:=w2.alloc (.cells #[] 131)) (B0:=w2.heap.size) (B:=w2.heap.size) (c:=c) h4 (RowAt.new w2 131 #[]) (Nat.le_refl _) (by simp) hn40;go_wp2_with (at_builtin;refine list_append_run rfl _ _ 24 rfl rfl rfl hrun ?_);intro _;have b5:Below w2.heap.size w2 w5:=below_grown ba hgr5 (fun y hy=>by simp at hy;omega) (by simp);have p0:=q0.below b5 q0.lt;have p2:=q2.below b5 q2.lt;have h5:=zaj h3 b5;have bb5:=bb.trans (b5.mono bb.size);have s5:=b5.size;clear ba h4 hgr5 hrun e0 e1 e2 e3 q0 q2 h3;have bc:Below w5.heap.size w5 (w5.alloc (.cells #[.string ⟨#[]⟩,.slice (some ⟨A,0,none⟩) n cap] 26)):=(Below.refl _ w5).alloc (Nat.le_refl _) _;have hq:=RowAt.new w5 26 #[.string ⟨#[]⟩,.slice (some ⟨A,0,none⟩) n cap];have ho6:=zaf hown5 bc;have i0':=p0.below bc p0.lt;have i2':=p2.below bc p2.lt;have h6:=zaj h5 bc;have bb6:=bb5.trans (bc.mono bb5.size);have hqlt:=hq.lt;clear p0 p2 h5 hown5;obtain ⟨e0,e1⟩:=zbb i0';go_wp2_with fail;generalize hQ:w5.heap.size=q at*;generalize w5.alloc (.cells #[.string ⟨#[]⟩,.slice (some ⟨A,0,none⟩) n cap] 26)=w6 at*;refine (live_any s a b off n c L w6 h6 hn40).mono ?_;rintro e w7 ⟨A2,cap2,rfl,li,b7⟩;have hst:stI L n=liveS L:=by unfold liveS;rw [hl]
  rw [hst] at li ⊢;have K7:PackK w s a b off n c L (liveS L) w6.heap.size A2 cap2 w7:=⟨i0'.below b7 i0'.lt,i2'.below b7 i2'.lt,li,zaj h6 b7,bb6.trans (b7.mono bb6.size)⟩;have hq7:=hq.below b7 hqlt;have ho7:=zaf ho6 b7;have hA2:w6.heap.size≤A2:=(li.lt A2 rfl).1;have hA:w2.heap.size≤A:=(ho7.lt A rfl).1;have hAq:q≠A:=fun e=>own_ne ho7 hq7 (by decide) (by rw [e];rfl);have hAlt:A<w6.heap.size:=(ho6.lt A rfl).2;clear e0 e1 i0' i2' h6 hq ho6 li;have hqA2:q≠A2:=by omega
  have hAA2:A≠A2:=by omega
  have hq2:w.heap.size+2≤q:=by omega
  have hA3:w.heap.size+2≤A:=by omega
  go_wp2_with fail;go_loopw [6,7] (fun i _ wr=>∃m:Nat,m≤(liveS L).length∧i= .int .i64 m∧RowAt wr q 26 #[.string (pkSt s L m).2,.slice (some ⟨A,0,none⟩) n cap]∧wr.ownsRow w2.heap.size 131 4 (.slice (some ⟨A,0,none⟩) n cap) n (flatC (pkSt s L m).1)∧PackK w s a b off n c L (liveS L) w6.heap.size A2 cap2 wr) (fun i _ _=> (liveS L).length-(intOf i).toNat)
  case atStart=>exact ⟨0,Nat.zero_le _,rfl,hq7,ho7,K7⟩
  case round=>
   obtain ⟨m,hm,rfl,hrow,hown,K⟩:=hrel;have hSl:=liveS_len L;by_cases hlt:m<(liveS L).length
   ·have HNX:Hid (pkSt s L (m+1)=pkStep s L (pkSt s L m) ((liveS L).getD m 0)):=pkSt_next s L hlt;have hmem:=liveS_at hlt;have hiL:=liveS_lt L _ hmem;obtain ⟨_,g1,g2,g3⟩:=live_ok hR hmem;have hroom:=pk_room hR hlt;have hDs:=pk_size hR m hm;have hMl:=pk_len s L m hm;have ci:=ints_at K.li hlt;have hx:=K.hc.cell ((liveS L).getD m 0) (by omega);have HST:Hid (∃i M D x,(liveS L).getD m 0=i∧(pkSt s L m).1=M∧(pkSt s L m).2=D∧clOf L i=x):=⟨_,_,_,_,rfl,rfl,rfl,rfl⟩;obtain ⟨i,M,D,x,hie,hMe,hDe,hxe⟩:=HST.out;have HPE:Hid (pkSt s L (m+1)=(moveC M i D.size,D++cutOf s x)):=by
     unfold Hid;rw [HNX.out,hie];unfold pkStep;rw [hMe,hDe,hxe]
    rw [hie,hxe] at g1 g2 g3 hroom;rw [hie] at hiL ci hx;rw [hDe] at hDs hrow;rw [←hDs] at hroom;clear hDs;rw [hMe] at hMl hown;change ClAt wr b (off+i*4) (clOf L i) at hx;rw [hxe] at hx;have HIE:Hid ((liveS L).getD m 0=i):=hie;clear HNX HST hie hMe hDe hxe hmem;obtain ⟨P,hP⟩:∃P:Nat,x.pos=P:=⟨_,(Int.toNat_of_nonneg g2).symm⟩;obtain ⟨W,hW⟩:∃W:Nat,x.len=W:=⟨_,(Int.toNat_of_nonneg (by omega)).symm⟩;have HCU:Hid (cutOf s x=s.extract P (P+W)):=by unfold Hid cutOf;rw [hP,hW];rfl
    have c0:=hx.c0;have c1:=hx.c1;have c2:=hx.c2;have c3:=hx.c3;rw [hP] at c0 g2 g3;rw [hW] at c1 g1 g3 hroom;rw [Int.toNat_natCast] at hroom;obtain ⟨e0,e1⟩:=zbb K.p0;obtain ⟨k0,k1⟩:=zbb hrow;have hgx:x.gen=x.gen:=rfl;generalize x.gen=gn at*;generalize x.live=lv at*;clear hx hP hW hgx;have hiL':(i:Int)<(n:Int):=by omega
    have ha:=K.hc.addr (by omega);subst ha;have dk:decide ((m:Int)<((liveS L).length:Int))=true:=decide_eq_true (by omega);go_upto_region 8 with fail;go_region_held_law (fun w'=>w'.cell? ⟨w.heap.size,1,none⟩=some (.slice (some ⟨b,off,none⟩) n c)∧w'.cell? ⟨A2,m,none⟩=some (.int .i64 (i:Nat))∧w'.cell? ⟨b,off+i*4,none⟩=some (.int .i64 P)∧w'.cell? ⟨b,off+i*4+1,none⟩=some (.int .i64 W)∧w'.cell? ⟨b,off+i*4+2,none⟩=some (.int .i64 gn)∧w'.cell? ⟨b,off+i*4+3,none⟩=some (.bool lv)) (go_keep) (fail);have bA:Below wr.heap.size wr (wr.alloc (.cells #[.int .i64 P,.int .i64 W,.int .i64 gn,.bool lv] 131)).drew:=((Below.refl _ wr).alloc (Nat.le_refl _) _).drew;have rowc:RowAt (wr.alloc (.cells #[.int .i64 P,.int .i64 W,.int .i64 gn,.bool lv] 131)).drew wr.heap.size 131 #[.int .i64 P,.int .i64 W,.int .i64 gn,.bool lv]:=RowAt.new wr 131 _;have K8:=K.below bA;have hrow8:=hrow.below bA hrow.lt;have hown8:=zaf hown bA;have hqw:=hrow.lt;have hAw:=(hown.lt A rfl).2;have hAcw:A2<wr.heap.size:=(K.li.lt A2 rfl).2;clear c0 c1 c2 c3 e0 e1 k0 k1 ci K hrow hown bA;generalize wr.heap.size=cw at*;generalize (wr.alloc (.cells #[.int .i64 P,.int .i64 W,.int .i64 gn,.bool lv] 131)).drew=w8 at*;obtain ⟨k0,k1⟩:=zbb hrow8;have ci:=ints_at K8.li hlt;rw [HIE.out] at ci;have hiM:i<M.length:=by omega
    have t0:w8.cell? ⟨A,i*4,none⟩=some (.int .i64 (M.getD i cl0).pos):=owns_at (k:=i) (j:=0) hown8 (flatC_at M i 0 hiM (by omega));have z0:=owns_frozen hown8 (i*4);generalize hyp:(M.getD i cl0).pos=yp at*;clear hyp;have hAq':A≠q:=hAq.symm;go_upto_region 9 with fail;go_region_held_law (fun w'=>w'.cell? ⟨q,1,none⟩=some (.slice (some ⟨A,0,none⟩) n cap)∧w'.cell? ⟨A2,m,none⟩=some (.int .i64 (i:Nat))∧w'.cell? ⟨q,0,none⟩=some (.string D)) (go_keep) (fail);have K9:PackK w s (some ⟨b,off,none⟩) b off n c L (liveS L) w6.heap.size A2 cap2 (w8.setCell ⟨A,i*4,none⟩ (.int .i64 D.size)).drew:=(K8.set HLow.out (g:=A) (j:=i*4) (v:= .int .i64 D.size) hA3 hAA2).below (below_drewN _ 1);have hrow9:RowAt (w8.setCell ⟨A,i*4,none⟩ (.int .i64 D.size)).drew q 26 #[.string D,.slice (some ⟨A,0,none⟩) n cap]:=(Below.heap_setCell _ _ _ _ (by simpa using hAq)).trans hrow8;have hown9:(w8.setCell ⟨A,i*4,none⟩ (.int .i64 D.size)).drew.ownsRow w2.heap.size 131 4 (.slice (some ⟨A,0,none⟩) n cap) n (flatC (moveC M i D.size)):=by
     rw [←flatC_move M i D.size hiM];exact zaf (owns_set hown8) (below_drewN _ 1)
    have rowc9:RowAt (w8.setCell ⟨A,i*4,none⟩ (.int .i64 D.size)).drew cw 131 #[.int .i64 P,.int .i64 W,.int .i64 gn,.bool lv]:=(Below.heap_setCell _ _ _ _ (by simp only;omega)).trans rowc;clear t0 z0 k0 k1 ci K8 hrow8 hown8 rowc;generalize (w8.setCell ⟨A,i*4,none⟩ (.int .i64 D.size)).drew=w9 at*;obtain ⟨e0,e1⟩:=zbb K9.p0;obtain ⟨k0,k1⟩:=zbb hrow9;have c0:w9.cell? ⟨cw,0,none⟩=some (.int .i64 P):=rowc9.cell 0;have c1:w9.cell? ⟨cw,1,none⟩=some (.int .i64 W):=rowc9.cell 1;have z0:=hrow9.frozen 0;have hwr:IntKind.i64.wrap ((P:Int)+(W:Int))=(P:Int)+(W:Int):=wrap_small (by omega) (by omega);have htn:((P:Int)+(W:Int)).toNat=P+W:=by omega
    have hPx:(P:Int)+(W:Int)≤(s.size:Int):=by omega
    have hP1:(P:Int)≤(P:Int)+(W:Int):=by omega
    have hP0:(0:Int)≤(P:Int):=by omega
    have hm1:min (P+W) s.size=P+W:=by omega
    have hcs:(s.extract P (P+W)).size=W:=by rw [ByteArray.size_extract];omega
    have hc1:¬9223372036854775807<D.size+(P+W-P):=by omega
    have hc2:¬9223372036854775807<D.size+W:=by omega
    go_upto_region 10 with fail;refine wp_region_inv_at (fun a0 l a' Wd=>l.size=15∧LastUp 14 l∧Wd=(wsel l 14 w9.drew (w9.setCell ⟨q,0,none⟩ (.string (D++s.extract P (P+W)))).drew)∧∃x0 x1 x2 x3 x4 x5 x6 x7 x8 x9 x10 x11 x12 x13,a'={ tmps:=((((((((((((((a0.tmps.setIfInBounds 44 (sd l 0 (.pointer (some ⟨q,0,none⟩)) x0)).setIfInBounds 45 (sd l 1 (.string D) x1)).setIfInBounds 46 (sd l 2 (.pointer (some ⟨w.heap.size,0,none⟩)) x2)).setIfInBounds 47 (sd l 3 (.string s) x3)).setIfInBounds 48 (sd l 4 (.pointer (some ⟨cw,0,none⟩)) x4)).setIfInBounds 49 (sd l 5 (.int .i64 (P:Int)) x5)).setIfInBounds 50 (sd l 6 (.pointer (some ⟨cw,0,none⟩)) x6)).setIfInBounds 51 (sd l 7 (.int .i64 (P:Int)) x7)).setIfInBounds 52 (sd l 8 (.pointer (some ⟨cw,1,none⟩)) x8)).setIfInBounds 53 (sd l 9 (.int .i64 (W:Int)) x9)).setIfInBounds 54 (sd l 10 (.int .i64 ((P:Int)+(W:Int))) x10)).setIfInBounds 55 (sd l 11 (.string (s.extract P (P+W))) x11)).setIfInBounds 56 (sd l 12 (.string (D++s.extract P (P+W))) x12)).setIfInBounds 57 (sd l 13 (.pointer (some ⟨q,0,none⟩)) x13)),defers:=a0.defers }) (by kernel_rfl) ?h0ten ?hsten (by kernel_rfl) ?hdten
    case h0ten=>
     refine ⟨rfl,last_rep,?_,?yten0,?yten1,?yten2,?yten3,?yten4,?yten5,?yten6,?yten7,?yten8,?yten9,?yten10,?yten11,?yten12,?yten13,?eqten⟩
     case eqten=>simp only [List.setIfInBounds_toArray,List.set_cons_zero,List.set_cons_succ,sd_rep];rfl
     simp only [wsel_rep]
    case hsten=>
     rintro l a' Wd i ⟨hsz,hlast,hW,x0,x1,x2,x3,x4,x5,x6,x7,x8,x9,x10,x11,x12,x13,rfl⟩ hi;simp only [List.setIfInBounds_toArray,List.set_cons_zero,List.set_cons_succ];obtain ⟨hlt,hoff,hdep⟩:=ready_mem hi;have hio:=off_of hoff;have hin:i<15:=hlt;clear hi hlt;have hcase:i=0∨i=1∨i=2∨i=3∨i=4∨i=5∨i=6∨i=7∨i=8∨i=9∨i=10∨i=11∨i=12∨i=13∨i=14:=by omega
     clear hin;rcases hcase with rfl|rfl|rfl|rfl|rfl|rfl|rfl|rfl|rfl|rfl|rfl|rfl|rfl|rfl|rfl
     ·
      clear hdep hoff;have hT:=hlast.off (show 0<14 by decide) hio;rw [zag hT] at hW;subst hW;refine wpOp_step rfl (fun K hK=>?_);go_simp;refine hK _ _ ⟨by simp [hsz],hlast.next (by decide) hio,?_,x0,x1,x2,x3,x4,x5,x6,x7,x8,x9,x10,x11,x12,x13,?_⟩
      ·(rw [zbh (show 0≠14 by decide),zag hT];try rfl)
      ·simp only [zdd (show 0<l.size by omega),zab (show 0≠1 by decide),zab (show 0≠2 by decide),zab (show 0≠3 by decide),zab (show 0≠4 by decide),zab (show 0≠5 by decide),zab (show 0≠6 by decide),zab (show 0≠7 by decide),zab (show 0≠8 by decide),zab (show 0≠9 by decide),zab (show 0≠10 by decide),zab (show 0≠11 by decide),zab (show 0≠12 by decide),zab (show 0≠13 by decide)]<;>rfl
     ·
      have d0:l.getD 0 false=true:=by have:=hdep;simp [Region.binds] at this;simp [this]
      clear hdep hoff;have hT:=hlast.off (show 1<14 by decide) hio;rw [zag hT] at hW;subst hW;refine wpOp_step rfl (fun K hK=>?_);simp only [zbj d0];go_simp;refine hK _ _ ⟨by simp [hsz],hlast.next (by decide) hio,?_,x0,x1,x2,x3,x4,x5,x6,x7,x8,x9,x10,x11,x12,x13,?_⟩
      ·(rw [zbh (show 1≠14 by decide),zag hT];try rfl)
      ·simp only [zdd (show 1<l.size by omega),zab (show 1≠0 by decide),zab (show 1≠2 by decide),zab (show 1≠3 by decide),zab (show 1≠4 by decide),zab (show 1≠5 by decide),zab (show 1≠6 by decide),zab (show 1≠7 by decide),zab (show 1≠8 by decide),zab (show 1≠9 by decide),zab (show 1≠10 by decide),zab (show 1≠11 by decide),zab (show 1≠12 by decide),zab (show 1≠13 by decide),zbj d0]<;>rfl
     ·
      clear hdep hoff;have hT:=hlast.off (show 2<14 by decide) hio;rw [zag hT] at hW;subst hW;refine wpOp_step rfl (fun K hK=>?_);go_simp;refine hK _ _ ⟨by simp [hsz],hlast.next (by decide) hio,?_,x0,x1,x2,x3,x4,x5,x6,x7,x8,x9,x10,x11,x12,x13,?_⟩
      ·(rw [zbh (show 2≠14 by decide),zag hT];try rfl)
      ·simp only [zdd (show 2<l.size by omega),zab (show 2≠0 by decide),zab (show 2≠1 by decide),zab (show 2≠3 by decide),zab (show 2≠4 by decide),zab (show 2≠5 by decide),zab (show 2≠6 by decide),zab (show 2≠7 by decide),zab (show 2≠8 by decide),zab (show 2≠9 by decide),zab (show 2≠10 by decide),zab (show 2≠11 by decide),zab (show 2≠12 by decide),zab (show 2≠13 by decide)]<;>rfl
     ·
      have d2:l.getD 2 false=true:=by have:=hdep;simp [Region.binds] at this;simp [this]
      clear hdep hoff;have hT:=hlast.off (show 3<14 by decide) hio;rw [zag hT] at hW;subst hW;refine wpOp_step rfl (fun K hK=>?_);simp only [zbj d2];go_simp;refine hK _ _ ⟨by simp [hsz],hlast.next (by decide) hio,?_,x0,x1,x2,x3,x4,x5,x6,x7,x8,x9,x10,x11,x12,x13,?_⟩
      ·(rw [zbh (show 3≠14 by decide),zag hT];try rfl)
      ·simp only [zdd (show 3<l.size by omega),zab (show 3≠0 by decide),zab (show 3≠1 by decide),zab (show 3≠2 by decide),zab (show 3≠4 by decide),zab (show 3≠5 by decide),zab (show 3≠6 by decide),zab (show 3≠7 by decide),zab (show 3≠8 by decide),zab (show 3≠9 by decide),zab (show 3≠10 by decide),zab (show 3≠11 by decide),zab (show 3≠12 by decide),zab (show 3≠13 by decide),zbj d2]<;>rfl
     ·
      clear hdep hoff;have hT:=hlast.off (show 4<14 by decide) hio;rw [zag hT] at hW;subst hW;refine wpOp_step rfl (fun K hK=>?_);go_simp;refine hK _ _ ⟨by simp [hsz],hlast.next (by decide) hio,?_,x0,x1,x2,x3,x4,x5,x6,x7,x8,x9,x10,x11,x12,x13,?_⟩
      ·(rw [zbh (show 4≠14 by decide),zag hT];try rfl)
      ·simp only [zdd (show 4<l.size by omega),zab (show 4≠0 by decide),zab (show 4≠1 by decide),zab (show 4≠2 by decide),zab (show 4≠3 by decide),zab (show 4≠5 by decide),zab (show 4≠6 by decide),zab (show 4≠7 by decide),zab (show 4≠8 by decide),zab (show 4≠9 by decide),zab (show 4≠10 by decide),zab (show 4≠11 by decide),zab (show 4≠12 by decide),zab (show 4≠13 by decide)]<;>rfl
     ·
      have d4:l.getD 4 false=true:=by have:=hdep;simp [Region.binds] at this;simp [this]
      clear hdep hoff;have hT:=hlast.off (show 5<14 by decide) hio;rw [zag hT] at hW;subst hW;refine wpOp_step rfl (fun K hK=>?_);simp only [zbj d4];go_simp;refine hK _ _ ⟨by simp [hsz],hlast.next (by decide) hio,?_,x0,x1,x2,x3,x4,x5,x6,x7,x8,x9,x10,x11,x12,x13,?_⟩
      ·(rw [zbh (show 5≠14 by decide),zag hT];try rfl)
      ·simp only [zdd (show 5<l.size by omega),zab (show 5≠0 by decide),zab (show 5≠1 by decide),zab (show 5≠2 by decide),zab (show 5≠3 by decide),zab (show 5≠4 by decide),zab (show 5≠6 by decide),zab (show 5≠7 by decide),zab (show 5≠8 by decide),zab (show 5≠9 by decide),zab (show 5≠10 by decide),zab (show 5≠11 by decide),zab (show 5≠12 by decide),zab (show 5≠13 by decide),zbj d4]<;>rfl
     ·
      clear hdep hoff;have hT:=hlast.off (show 6<14 by decide) hio;rw [zag hT] at hW;subst hW;refine wpOp_step rfl (fun K hK=>?_);go_simp;refine hK _ _ ⟨by simp [hsz],hlast.next (by decide) hio,?_,x0,x1,x2,x3,x4,x5,x6,x7,x8,x9,x10,x11,x12,x13,?_⟩
      ·(rw [zbh (show 6≠14 by decide),zag hT];try rfl)
      ·simp only [zdd (show 6<l.size by omega),zab (show 6≠0 by decide),zab (show 6≠1 by decide),zab (show 6≠2 by decide),zab (show 6≠3 by decide),zab (show 6≠4 by decide),zab (show 6≠5 by decide),zab (show 6≠7 by decide),zab (show 6≠8 by decide),zab (show 6≠9 by decide),zab (show 6≠10 by decide),zab (show 6≠11 by decide),zab (show 6≠12 by decide),zab (show 6≠13 by decide)]<;>rfl
     ·
      have d6:l.getD 6 false=true:=by have:=hdep;simp [Region.binds] at this;simp [this]
      clear hdep hoff;have hT:=hlast.off (show 7<14 by decide) hio;rw [zag hT] at hW;subst hW;refine wpOp_step rfl (fun K hK=>?_);simp only [zbj d6];go_simp;refine hK _ _ ⟨by simp [hsz],hlast.next (by decide) hio,?_,x0,x1,x2,x3,x4,x5,x6,x7,x8,x9,x10,x11,x12,x13,?_⟩
      ·(rw [zbh (show 7≠14 by decide),zag hT];try rfl)
      ·simp only [zdd (show 7<l.size by omega),zab (show 7≠0 by decide),zab (show 7≠1 by decide),zab (show 7≠2 by decide),zab (show 7≠3 by decide),zab (show 7≠4 by decide),zab (show 7≠5 by decide),zab (show 7≠6 by decide),zab (show 7≠8 by decide),zab (show 7≠9 by decide),zab (show 7≠10 by decide),zab (show 7≠11 by decide),zab (show 7≠12 by decide),zab (show 7≠13 by decide),zbj d6]<;>rfl
     ·
      clear hdep hoff;have hT:=hlast.off (show 8<14 by decide) hio;rw [zag hT] at hW;subst hW;refine wpOp_step rfl (fun K hK=>?_);go_simp;refine hK _ _ ⟨by simp [hsz],hlast.next (by decide) hio,?_,x0,x1,x2,x3,x4,x5,x6,x7,x8,x9,x10,x11,x12,x13,?_⟩
      ·(rw [zbh (show 8≠14 by decide),zag hT];try rfl)
      ·simp only [zdd (show 8<l.size by omega),zab (show 8≠0 by decide),zab (show 8≠1 by decide),zab (show 8≠2 by decide),zab (show 8≠3 by decide),zab (show 8≠4 by decide),zab (show 8≠5 by decide),zab (show 8≠6 by decide),zab (show 8≠7 by decide),zab (show 8≠9 by decide),zab (show 8≠10 by decide),zab (show 8≠11 by decide),zab (show 8≠12 by decide),zab (show 8≠13 by decide)]<;>rfl
     ·
      have d8:l.getD 8 false=true:=by have:=hdep;simp [Region.binds] at this;simp [this]
      clear hdep hoff;have hT:=hlast.off (show 9<14 by decide) hio;rw [zag hT] at hW;subst hW;refine wpOp_step rfl (fun K hK=>?_);simp only [zbj d8];go_simp;refine hK _ _ ⟨by simp [hsz],hlast.next (by decide) hio,?_,x0,x1,x2,x3,x4,x5,x6,x7,x8,x9,x10,x11,x12,x13,?_⟩
      ·(rw [zbh (show 9≠14 by decide),zag hT];try rfl)
      ·simp only [zdd (show 9<l.size by omega),zab (show 9≠0 by decide),zab (show 9≠1 by decide),zab (show 9≠2 by decide),zab (show 9≠3 by decide),zab (show 9≠4 by decide),zab (show 9≠5 by decide),zab (show 9≠6 by decide),zab (show 9≠7 by decide),zab (show 9≠8 by decide),zab (show 9≠10 by decide),zab (show 9≠11 by decide),zab (show 9≠12 by decide),zab (show 9≠13 by decide),zbj d8]<;>rfl
     ·
      obtain ⟨d7,d9⟩:l.getD 7 false=true∧l.getD 9 false=true:=by have:=hdep;simp [Region.binds] at this;simp [this]
      clear hdep hoff;have hT:=hlast.off (show 10<14 by decide) hio;rw [zag hT] at hW;subst hW;refine wpOp_step rfl (fun K hK=>?_);simp only [zbj d7,zbj d9];go_simp;refine hK _ _ ⟨by simp [hsz],hlast.next (by decide) hio,?_,x0,x1,x2,x3,x4,x5,x6,x7,x8,x9,x10,x11,x12,x13,?_⟩
      ·(rw [zbh (show 10≠14 by decide),zag hT];try rfl)
      ·simp only [zdd (show 10<l.size by omega),zab (show 10≠0 by decide),zab (show 10≠1 by decide),zab (show 10≠2 by decide),zab (show 10≠3 by decide),zab (show 10≠4 by decide),zab (show 10≠5 by decide),zab (show 10≠6 by decide),zab (show 10≠7 by decide),zab (show 10≠8 by decide),zab (show 10≠9 by decide),zab (show 10≠11 by decide),zab (show 10≠12 by decide),zab (show 10≠13 by decide),zbj d7,zbj d9]<;>rfl
     ·
      obtain ⟨d3,d5,d10⟩:l.getD 3 false=true∧l.getD 5 false=true∧l.getD 10 false=true:=by have:=hdep;simp [Region.binds] at this;simp [this]
      clear hdep hoff;have hT:=hlast.off (show 11<14 by decide) hio;rw [zag hT] at hW;subst hW;refine wpOp_step rfl (fun K hK=>?_);simp only [zbj d3,zbj d5,zbj d10];go_simp;refine hK _ _ ⟨by simp [hsz],hlast.next (by decide) hio,?_,x0,x1,x2,x3,x4,x5,x6,x7,x8,x9,x10,x11,x12,x13,?_⟩
      ·(rw [zbh (show 11≠14 by decide),zag hT];try rfl)
      ·simp only [zdd (show 11<l.size by omega),zab (show 11≠0 by decide),zab (show 11≠1 by decide),zab (show 11≠2 by decide),zab (show 11≠3 by decide),zab (show 11≠4 by decide),zab (show 11≠5 by decide),zab (show 11≠6 by decide),zab (show 11≠7 by decide),zab (show 11≠8 by decide),zab (show 11≠9 by decide),zab (show 11≠10 by decide),zab (show 11≠12 by decide),zab (show 11≠13 by decide),zbj d3,zbj d5,zbj d10]<;>rfl
     ·
      obtain ⟨d1,d11⟩:l.getD 1 false=true∧l.getD 11 false=true:=by have:=hdep;simp [Region.binds] at this;simp [this]
      clear hdep hoff;have hT:=hlast.off (show 12<14 by decide) hio;rw [zag hT] at hW;subst hW;refine wpOp_step rfl (fun K hK=>?_);simp only [zbj d1,zbj d11];go_simp;refine hK _ _ ⟨by simp [hsz],hlast.next (by decide) hio,?_,x0,x1,x2,x3,x4,x5,x6,x7,x8,x9,x10,x11,x12,x13,?_⟩
      ·(rw [zbh (show 12≠14 by decide),zag hT];try rfl)
      ·simp only [zdd (show 12<l.size by omega),zab (show 12≠0 by decide),zab (show 12≠1 by decide),zab (show 12≠2 by decide),zab (show 12≠3 by decide),zab (show 12≠4 by decide),zab (show 12≠5 by decide),zab (show 12≠6 by decide),zab (show 12≠7 by decide),zab (show 12≠8 by decide),zab (show 12≠9 by decide),zab (show 12≠10 by decide),zab (show 12≠11 by decide),zab (show 12≠13 by decide),zbj d1,zbj d11]<;>rfl
     ·
      clear hdep hoff;have hT:=hlast.off (show 13<14 by decide) hio;rw [zag hT] at hW;subst hW;refine wpOp_step rfl (fun K hK=>?_);go_simp;refine hK _ _ ⟨by simp [hsz],hlast.next (by decide) hio,?_,x0,x1,x2,x3,x4,x5,x6,x7,x8,x9,x10,x11,x12,x13,?_⟩
      ·(rw [zbh (show 13≠14 by decide),zag hT];try rfl)
      ·simp only [zdd (show 13<l.size by omega),zab (show 13≠0 by decide),zab (show 13≠1 by decide),zab (show 13≠2 by decide),zab (show 13≠3 by decide),zab (show 13≠4 by decide),zab (show 13≠5 by decide),zab (show 13≠6 by decide),zab (show 13≠7 by decide),zab (show 13≠8 by decide),zab (show 13≠9 by decide),zab (show 13≠10 by decide),zab (show 13≠11 by decide),zab (show 13≠12 by decide)]<;>rfl
     ·
      have dall:∀j,j<14→l.getD j false=true:=by
       have hd2:=hdep;simp [Region.binds] at hd2;intro j hj;have hc2:j=0∨j=1∨j=2∨j=3∨j=4∨j=5∨j=6∨j=7∨j=8∨j=9∨j=10∨j=11∨j=12∨j=13:=by omega
       rcases hc2 with rfl|rfl|rfl|rfl|rfl|rfl|rfl|rfl|rfl|rfl|rfl|rfl|rfl|rfl<;>simp [hd2]
      have d12:=dall 12 (by omega);have d13:=dall 13 (by omega);clear hdep hoff;rw [zag hio] at hW;subst hW;refine wpOp_step rfl (fun K hK=>?_);simp only [zbj d12,zbj d13];go_simp;refine hK _ _ ⟨by simp [hsz],LastUp.last dall,?_,x0,x1,x2,x3,x4,x5,x6,x7,x8,x9,x10,x11,x12,x13,?_⟩
      ·(rw [wsel_self (by omega)];try rfl)
      ·simp only [zab (show 14≠0 by decide),zab (show 14≠1 by decide),zab (show 14≠2 by decide),zab (show 14≠3 by decide),zab (show 14≠4 by decide),zab (show 14≠5 by decide),zab (show 14≠6 by decide),zab (show 14≠7 by decide),zab (show 14≠8 by decide),zab (show 14≠9 by decide),zab (show 14≠10 by decide),zab (show 14≠11 by decide),zab (show 14≠12 by decide),zab (show 14≠13 by decide),zbj d12,zbj d13]<;>rfl
    case hdten=>
     rintro l a' Wd ⟨hsz,hlast,hW,x0,x1,x2,x3,x4,x5,x6,x7,x8,x9,x10,x11,x12,x13,rfl⟩ hall0;have hall:∀j,j<15→l.getD j false=true:=fun j hj=>on_of (hall0 j hj) (by omega);simp only [List.setIfInBounds_toArray,List.set_cons_zero,List.set_cons_succ,zbj (hall 0 (by omega)),zbj (hall 1 (by omega)),zbj (hall 2 (by omega)),zbj (hall 3 (by omega)),zbj (hall 4 (by omega)),zbj (hall 5 (by omega)),zbj (hall 6 (by omega)),zbj (hall 7 (by omega)),zbj (hall 8 (by omega)),zbj (hall 9 (by omega)),zbj (hall 10 (by omega)),zbj (hall 11 (by omega)),zbj (hall 12 (by omega)),zbj (hall 13 (by omega))];rw [zdf (hall 14 (by omega))] at hW;subst hW;clear hall hall0 hsz hlast;have K10:PackK w s (some ⟨b,off,none⟩) b off n c L (liveS L) w6.heap.size A2 cap2 (w9.setCell ⟨q,0,none⟩ (.string (D++s.extract P (P+W)))).drew:=(K9.set HLow.out (g:=q) (j:=0) (v:= .string (D++s.extract P (P+W))) hq2 hqA2).below (below_drewN _ 1);have hrow10:RowAt (w9.setCell ⟨q,0,none⟩ (.string (D++s.extract P (P+W)))).drew q 26 #[.string (D++s.extract P (P+W)),.slice (some ⟨A,0,none⟩) n cap]:=by
      have:=hrow9.set 0 (.string (D++s.extract P (P+W)));simp at this;exact this
     have hown10:(w9.setCell ⟨q,0,none⟩ (.string (D++s.extract P (P+W)))).drew.ownsRow w2.heap.size 131 4 (.slice (some ⟨A,0,none⟩) n cap) n (flatC (moveC M i D.size)):=
      zaf (ownsRow_setCell_other hown9 (a:=⟨q,0,none⟩) (fun e=>hAq (by have:=Option.some.inj e;simpa using this.symm)) _) (below_drewN _ 1)
     clear k0 k1 e0 e1 c0 c1 z0 K9 hrow9 hown9 rowc9;generalize (w9.setCell ⟨q,0,none⟩ (.string (D++s.extract P (P+W)))).drew=w10 at*;go_wp2_with fail;go_roundw
     case rel=>exact ⟨m+1,by omega,by go_num,by rw [HPE.out,HCU.out];exact hrow10,by rw [HPE.out];exact hown10,K10⟩
     case measure=>simp [intOf];omega
   ·obtain rfl:m=(liveS L).length:=by omega
    have dk:decide ((((liveS L).length:Nat):Int)<((liveS L).length:Int))=false:=decide_eq_false (by omega);have hDs:=pk_size hR _ hm;have hDle:=pk_le hR hm;have hMl:=pk_len s L _ hm;have HST:Hid (∃M D,(pkSt s L (liveS L).length).1=M∧(pkSt s L (liveS L).length).2=D):=⟨_,_,rfl,rfl⟩;obtain ⟨M,D,hMe,hDe⟩:=HST.out;rw [hDe] at hDs hrow HD;rw [hMe] at hMl hown HM;rw [←hDs] at hDle;clear hDs HST hMe hDe;obtain ⟨zn,hzn⟩:∃zn,s.size-D.size=zn:=⟨_,rfl⟩;rw [hzn] at HD;obtain ⟨Cz,hCz,hmk⟩:=make_bytes zn (by omega);obtain ⟨e0,e1⟩:=zbb K.p0;obtain ⟨k0,k1⟩:=zbb hrow;have z0:=hrow.frozen 0;have hsub:IntKind.i64.wrap ((s.size:Int)-(D.size:Int))=(zn:Int):=by rw [wrap_small (by omega) (by omega)];omega
    have hsub2:(s.size:Int)-(D.size:Int)=(zn:Int):=by omega
    have hdz:(dataZ zn).size=zn:=dataZ_size zn;have hc1:¬9223372036854775807<D.size+(dataZ zn).size:=by omega
    have hqw:=hrow.lt;have hww:=K.p0.lt;have e0b:(wr.drew.alloc (.cells Cz 5)).cell? ⟨w.heap.size,0,none⟩=some (.string s):=(((below_drewN wr 1).alloc (Nat.le_refl _) _).cell (p:=⟨w.heap.size,0,none⟩) hww).trans e0;have k0b:(wr.drew.alloc (.cells Cz 5)).cell? ⟨q,0,none⟩=some (.string D):=(((below_drewN wr 1).alloc (Nat.le_refl _) _).cell (p:=⟨q,0,none⟩) hqw).trans k0;have z0b:(wr.drew.alloc (.cells Cz 5)).frozen? ⟨q,0,none⟩=false:=(hrow.below ((below_drewN wr 1).alloc (Nat.le_refl _) (.cells Cz 5)) hqw).frozen 0;have hcv:(convert 22 9 (.slice (some ⟨wr.heap.size,0,none⟩) zn zn)).run Tryz.prog (wr.drew.alloc (.cells Cz 5))= .ok (.string (dataZ zn)) (wr.drew.alloc (.cells Cz 5)):=by
     have:=run_convert_bytes_back (P:=Tryz.prog) (wr.drew.alloc (.cells Cz 5)) 22 9 5 ⟨wr.heap.size,0,none⟩ zn ((List.range zn).map fun _=>0) Tryz.underlying22 Tryz.underlying5 Tryz.underlying9 ?_
     ·simpa [dataZ] using this
     ·intro j hj;have hj':j<zn:=by simpa using hj
      rw [Addr.add_lit,Nat.zero_add];simpa using ((RowAt.new wr.drew 5 Cz).cell j).trans (hCz j hj')
    have hcv2:(convert 22 9 (.slice (some ⟨wr.heap.size,0,none⟩) zn zn)).run Tryz.prog (wr.alloc (.cells Cz 5)).drew= .ok (.string (dataZ zn)) (wr.alloc (.cells Cz 5)).drew:=hcv;have hc3:¬9223372036854775807<D.size+zn:=by omega
    have hzw:IntKind.i64.wrap (zn:Int)=(zn:Int):=wrap_small (by omega) (by omega);go_upto_region 11 with fail;refine wp_region_inv_at (fun a0 l a' Wd=>l.size=14∧LastUp 13 l∧Wd=(wsel l 13 (wsel l 9 wr.drew (wr.drew.alloc (.cells Cz 5))) ((wr.setCell ⟨q,0,none⟩ (.string (D++dataZ zn))).alloc (.cells Cz 5)).drew)∧∃x0 x1 x2 x3 x4 x5 x6 x7 x8 x9 x10 x11 x12,a'={ tmps:=(((((((((((((a0.tmps.setIfInBounds 58 (sd l 0 (.pointer (some ⟨q,0,none⟩)) x0)).setIfInBounds 59 (sd l 1 (.string D) x1)).setIfInBounds 60 (sd l 2 (.pointer (some ⟨w.heap.size,0,none⟩)) x2)).setIfInBounds 61 (sd l 3 (.string s) x3)).setIfInBounds 62 (sd l 4 (.int .i64 (s.size:Int)) x4)).setIfInBounds 63 (sd l 5 (.pointer (some ⟨q,0,none⟩)) x5)).setIfInBounds 64 (sd l 6 (.string D) x6)).setIfInBounds 65 (sd l 7 (.int .i64 (D.size:Int)) x7)).setIfInBounds 66 (sd l 8 (.int .i64 (zn:Int)) x8)).setIfInBounds 67 (sd l 9 (.slice (some ⟨wr.heap.size,0,none⟩) zn zn) x9)).setIfInBounds 68 (sd l 10 (.string (dataZ zn)) x10)).setIfInBounds 69 (sd l 11 (.string (D++dataZ zn)) x11)).setIfInBounds 70 (sd l 12 (.pointer (some ⟨q,0,none⟩)) x12)),defers:=a0.defers }) (by kernel_rfl) ?h0elev ?hselev (by kernel_rfl) ?hdelev
    case h0elev=>
     refine ⟨rfl,last_rep,?_,?yelev0,?yelev1,?yelev2,?yelev3,?yelev4,?yelev5,?yelev6,?yelev7,?yelev8,?yelev9,?yelev10,?yelev11,?yelev12,?eqelev⟩
     case eqelev=>simp only [List.setIfInBounds_toArray,List.set_cons_zero,List.set_cons_succ,sd_rep];rfl
     simp only [wsel_rep]
    case hselev=>
     rintro l a' Wd i ⟨hsz,hlast,hW,x0,x1,x2,x3,x4,x5,x6,x7,x8,x9,x10,x11,x12,rfl⟩ hi;simp only [List.setIfInBounds_toArray,List.set_cons_zero,List.set_cons_succ];obtain ⟨hlt,hoff,hdep⟩:=ready_mem hi;have hio:=off_of hoff;have hin:i<14:=hlt;clear hi hlt;have hcase:i=0∨i=1∨i=2∨i=3∨i=4∨i=5∨i=6∨i=7∨i=8∨i=9∨i=10∨i=11∨i=12∨i=13:=by omega
     clear hin;rcases hcase with rfl|rfl|rfl|rfl|rfl|rfl|rfl|rfl|rfl|rfl|rfl|rfl|rfl|rfl
     ·
      clear hdep hoff;have hT:=hlast.off (show 0<13 by decide) hio;cases h9:l.getD 9 false with
      |false=>
       rw [zag hT,zag h9] at hW;subst hW;refine wpOp_step rfl (fun K hK=>?_);go_simp;refine hK _ _ ⟨by simp [hsz],hlast.next (by decide) hio,?_,x0,x1,x2,x3,x4,x5,x6,x7,x8,x9,x10,x11,x12,?_⟩
       ·(rw [zbh (show 0≠13 by decide),zag hT,zbh (show 0≠9 by decide),zag h9];try rfl)
       ·simp only [zdd (show 0<l.size by omega),zab (show 0≠1 by decide),zab (show 0≠2 by decide),zab (show 0≠3 by decide),zab (show 0≠4 by decide),zab (show 0≠5 by decide),zab (show 0≠6 by decide),zab (show 0≠7 by decide),zab (show 0≠8 by decide),zab (show 0≠9 by decide),zab (show 0≠10 by decide),zab (show 0≠11 by decide),zab (show 0≠12 by decide)]<;>rfl
      |true=>
       rw [zag hT,zdf h9] at hW;subst hW;refine wpOp_step rfl (fun K hK=>?_);go_simp;refine hK _ _ ⟨by simp [hsz],hlast.next (by decide) hio,?_,x0,x1,x2,x3,x4,x5,x6,x7,x8,x9,x10,x11,x12,?_⟩
       ·(rw [zbh (show 0≠13 by decide),zag hT,zbh (show 0≠9 by decide),zdf h9];try rfl)
       ·simp only [zdd (show 0<l.size by omega),zab (show 0≠1 by decide),zab (show 0≠2 by decide),zab (show 0≠3 by decide),zab (show 0≠4 by decide),zab (show 0≠5 by decide),zab (show 0≠6 by decide),zab (show 0≠7 by decide),zab (show 0≠8 by decide),zab (show 0≠9 by decide),zab (show 0≠10 by decide),zab (show 0≠11 by decide),zab (show 0≠12 by decide)]<;>rfl
     ·
      have d0:l.getD 0 false=true:=by have:=hdep;simp [Region.binds] at this;simp [this]
      clear hdep hoff;have hT:=hlast.off (show 1<13 by decide) hio;cases h9:l.getD 9 false with
      |false=>
       rw [zag hT,zag h9] at hW;subst hW;refine wpOp_step rfl (fun K hK=>?_);simp only [zbj d0];go_simp;refine hK _ _ ⟨by simp [hsz],hlast.next (by decide) hio,?_,x0,x1,x2,x3,x4,x5,x6,x7,x8,x9,x10,x11,x12,?_⟩
       ·(rw [zbh (show 1≠13 by decide),zag hT,zbh (show 1≠9 by decide),zag h9];try rfl)
       ·simp only [zdd (show 1<l.size by omega),zab (show 1≠0 by decide),zab (show 1≠2 by decide),zab (show 1≠3 by decide),zab (show 1≠4 by decide),zab (show 1≠5 by decide),zab (show 1≠6 by decide),zab (show 1≠7 by decide),zab (show 1≠8 by decide),zab (show 1≠9 by decide),zab (show 1≠10 by decide),zab (show 1≠11 by decide),zab (show 1≠12 by decide),zbj d0]<;>rfl
      |true=>
       rw [zag hT,zdf h9] at hW;subst hW;refine wpOp_step rfl (fun K hK=>?_);simp only [zbj d0];go_simp;refine hK _ _ ⟨by simp [hsz],hlast.next (by decide) hio,?_,x0,x1,x2,x3,x4,x5,x6,x7,x8,x9,x10,x11,x12,?_⟩
       ·(rw [zbh (show 1≠13 by decide),zag hT,zbh (show 1≠9 by decide),zdf h9];try rfl)
       ·simp only [zdd (show 1<l.size by omega),zab (show 1≠0 by decide),zab (show 1≠2 by decide),zab (show 1≠3 by decide),zab (show 1≠4 by decide),zab (show 1≠5 by decide),zab (show 1≠6 by decide),zab (show 1≠7 by decide),zab (show 1≠8 by decide),zab (show 1≠9 by decide),zab (show 1≠10 by decide),zab (show 1≠11 by decide),zab (show 1≠12 by decide),zbj d0]<;>rfl
     ·
      clear hdep hoff;have hT:=hlast.off (show 2<13 by decide) hio;cases h9:l.getD 9 false with
      |false=>
       rw [zag hT,zag h9] at hW;subst hW;refine wpOp_step rfl (fun K hK=>?_);go_simp;refine hK _ _ ⟨by simp [hsz],hlast.next (by decide) hio,?_,x0,x1,x2,x3,x4,x5,x6,x7,x8,x9,x10,x11,x12,?_⟩
       ·(rw [zbh (show 2≠13 by decide),zag hT,zbh (show 2≠9 by decide),zag h9];try rfl)
       ·simp only [zdd (show 2<l.size by omega),zab (show 2≠0 by decide),zab (show 2≠1 by decide),zab (show 2≠3 by decide),zab (show 2≠4 by decide),zab (show 2≠5 by decide),zab (show 2≠6 by decide),zab (show 2≠7 by decide),zab (show 2≠8 by decide),zab (show 2≠9 by decide),zab (show 2≠10 by decide),zab (show 2≠11 by decide),zab (show 2≠12 by decide)]<;>rfl
      |true=>
       rw [zag hT,zdf h9] at hW;subst hW;refine wpOp_step rfl (fun K hK=>?_);go_simp;refine hK _ _ ⟨by simp [hsz],hlast.next (by decide) hio,?_,x0,x1,x2,x3,x4,x5,x6,x7,x8,x9,x10,x11,x12,?_⟩
       ·(rw [zbh (show 2≠13 by decide),zag hT,zbh (show 2≠9 by decide),zdf h9];try rfl)
       ·simp only [zdd (show 2<l.size by omega),zab (show 2≠0 by decide),zab (show 2≠1 by decide),zab (show 2≠3 by decide),zab (show 2≠4 by decide),zab (show 2≠5 by decide),zab (show 2≠6 by decide),zab (show 2≠7 by decide),zab (show 2≠8 by decide),zab (show 2≠9 by decide),zab (show 2≠10 by decide),zab (show 2≠11 by decide),zab (show 2≠12 by decide)]<;>rfl
     ·
      have d2:l.getD 2 false=true:=by have:=hdep;simp [Region.binds] at this;simp [this]
      clear hdep hoff;have hT:=hlast.off (show 3<13 by decide) hio;cases h9:l.getD 9 false with
      |false=>
       rw [zag hT,zag h9] at hW;subst hW;refine wpOp_step rfl (fun K hK=>?_);simp only [zbj d2];go_simp;refine hK _ _ ⟨by simp [hsz],hlast.next (by decide) hio,?_,x0,x1,x2,x3,x4,x5,x6,x7,x8,x9,x10,x11,x12,?_⟩
       ·(rw [zbh (show 3≠13 by decide),zag hT,zbh (show 3≠9 by decide),zag h9];try rfl)
       ·simp only [zdd (show 3<l.size by omega),zab (show 3≠0 by decide),zab (show 3≠1 by decide),zab (show 3≠2 by decide),zab (show 3≠4 by decide),zab (show 3≠5 by decide),zab (show 3≠6 by decide),zab (show 3≠7 by decide),zab (show 3≠8 by decide),zab (show 3≠9 by decide),zab (show 3≠10 by decide),zab (show 3≠11 by decide),zab (show 3≠12 by decide),zbj d2]<;>rfl
      |true=>
       rw [zag hT,zdf h9] at hW;subst hW;refine wpOp_step rfl (fun K hK=>?_);simp only [zbj d2];go_simp;refine hK _ _ ⟨by simp [hsz],hlast.next (by decide) hio,?_,x0,x1,x2,x3,x4,x5,x6,x7,x8,x9,x10,x11,x12,?_⟩
       ·(rw [zbh (show 3≠13 by decide),zag hT,zbh (show 3≠9 by decide),zdf h9];try rfl)
       ·simp only [zdd (show 3<l.size by omega),zab (show 3≠0 by decide),zab (show 3≠1 by decide),zab (show 3≠2 by decide),zab (show 3≠4 by decide),zab (show 3≠5 by decide),zab (show 3≠6 by decide),zab (show 3≠7 by decide),zab (show 3≠8 by decide),zab (show 3≠9 by decide),zab (show 3≠10 by decide),zab (show 3≠11 by decide),zab (show 3≠12 by decide),zbj d2]<;>rfl
     ·
      have d3:l.getD 3 false=true:=by have:=hdep;simp [Region.binds] at this;simp [this]
      clear hdep hoff;have hT:=hlast.off (show 4<13 by decide) hio;cases h9:l.getD 9 false with
      |false=>
       rw [zag hT,zag h9] at hW;subst hW;refine wpOp_step rfl (fun K hK=>?_);simp only [zbj d3];go_simp;refine hK _ _ ⟨by simp [hsz],hlast.next (by decide) hio,?_,x0,x1,x2,x3,x4,x5,x6,x7,x8,x9,x10,x11,x12,?_⟩
       ·(rw [zbh (show 4≠13 by decide),zag hT,zbh (show 4≠9 by decide),zag h9];try rfl)
       ·simp only [zdd (show 4<l.size by omega),zab (show 4≠0 by decide),zab (show 4≠1 by decide),zab (show 4≠2 by decide),zab (show 4≠3 by decide),zab (show 4≠5 by decide),zab (show 4≠6 by decide),zab (show 4≠7 by decide),zab (show 4≠8 by decide),zab (show 4≠9 by decide),zab (show 4≠10 by decide),zab (show 4≠11 by decide),zab (show 4≠12 by decide),zbj d3]<;>rfl
      |true=>
       rw [zag hT,zdf h9] at hW;subst hW;refine wpOp_step rfl (fun K hK=>?_);simp only [zbj d3];go_simp;refine hK _ _ ⟨by simp [hsz],hlast.next (by decide) hio,?_,x0,x1,x2,x3,x4,x5,x6,x7,x8,x9,x10,x11,x12,?_⟩
       ·(rw [zbh (show 4≠13 by decide),zag hT,zbh (show 4≠9 by decide),zdf h9];try rfl)
       ·simp only [zdd (show 4<l.size by omega),zab (show 4≠0 by decide),zab (show 4≠1 by decide),zab (show 4≠2 by decide),zab (show 4≠3 by decide),zab (show 4≠5 by decide),zab (show 4≠6 by decide),zab (show 4≠7 by decide),zab (show 4≠8 by decide),zab (show 4≠9 by decide),zab (show 4≠10 by decide),zab (show 4≠11 by decide),zab (show 4≠12 by decide),zbj d3]<;>rfl
     ·
      clear hdep hoff;have hT:=hlast.off (show 5<13 by decide) hio;cases h9:l.getD 9 false with
      |false=>
       rw [zag hT,zag h9] at hW;subst hW;refine wpOp_step rfl (fun K hK=>?_);go_simp;refine hK _ _ ⟨by simp [hsz],hlast.next (by decide) hio,?_,x0,x1,x2,x3,x4,x5,x6,x7,x8,x9,x10,x11,x12,?_⟩
       ·(rw [zbh (show 5≠13 by decide),zag hT,zbh (show 5≠9 by decide),zag h9];try rfl)
       ·simp only [zdd (show 5<l.size by omega),zab (show 5≠0 by decide),zab (show 5≠1 by decide),zab (show 5≠2 by decide),zab (show 5≠3 by decide),zab (show 5≠4 by decide),zab (show 5≠6 by decide),zab (show 5≠7 by decide),zab (show 5≠8 by decide),zab (show 5≠9 by decide),zab (show 5≠10 by decide),zab (show 5≠11 by decide),zab (show 5≠12 by decide)]<;>rfl
      |true=>
       rw [zag hT,zdf h9] at hW;subst hW;refine wpOp_step rfl (fun K hK=>?_);go_simp;refine hK _ _ ⟨by simp [hsz],hlast.next (by decide) hio,?_,x0,x1,x2,x3,x4,x5,x6,x7,x8,x9,x10,x11,x12,?_⟩
       ·(rw [zbh (show 5≠13 by decide),zag hT,zbh (show 5≠9 by decide),zdf h9];try rfl)
       ·simp only [zdd (show 5<l.size by omega),zab (show 5≠0 by decide),zab (show 5≠1 by decide),zab (show 5≠2 by decide),zab (show 5≠3 by decide),zab (show 5≠4 by decide),zab (show 5≠6 by decide),zab (show 5≠7 by decide),zab (show 5≠8 by decide),zab (show 5≠9 by decide),zab (show 5≠10 by decide),zab (show 5≠11 by decide),zab (show 5≠12 by decide)]<;>rfl
     ·
      have d5:l.getD 5 false=true:=by have:=hdep;simp [Region.binds] at this;simp [this]
      clear hdep hoff;have hT:=hlast.off (show 6<13 by decide) hio;cases h9:l.getD 9 false with
      |false=>
       rw [zag hT,zag h9] at hW;subst hW;refine wpOp_step rfl (fun K hK=>?_);simp only [zbj d5];go_simp;refine hK _ _ ⟨by simp [hsz],hlast.next (by decide) hio,?_,x0,x1,x2,x3,x4,x5,x6,x7,x8,x9,x10,x11,x12,?_⟩
       ·(rw [zbh (show 6≠13 by decide),zag hT,zbh (show 6≠9 by decide),zag h9];try rfl)
       ·simp only [zdd (show 6<l.size by omega),zab (show 6≠0 by decide),zab (show 6≠1 by decide),zab (show 6≠2 by decide),zab (show 6≠3 by decide),zab (show 6≠4 by decide),zab (show 6≠5 by decide),zab (show 6≠7 by decide),zab (show 6≠8 by decide),zab (show 6≠9 by decide),zab (show 6≠10 by decide),zab (show 6≠11 by decide),zab (show 6≠12 by decide),zbj d5]<;>rfl
      |true=>
       rw [zag hT,zdf h9] at hW;subst hW;refine wpOp_step rfl (fun K hK=>?_);simp only [zbj d5];go_simp;refine hK _ _ ⟨by simp [hsz],hlast.next (by decide) hio,?_,x0,x1,x2,x3,x4,x5,x6,x7,x8,x9,x10,x11,x12,?_⟩
       ·(rw [zbh (show 6≠13 by decide),zag hT,zbh (show 6≠9 by decide),zdf h9];try rfl)
       ·simp only [zdd (show 6<l.size by omega),zab (show 6≠0 by decide),zab (show 6≠1 by decide),zab (show 6≠2 by decide),zab (show 6≠3 by decide),zab (show 6≠4 by decide),zab (show 6≠5 by decide),zab (show 6≠7 by decide),zab (show 6≠8 by decide),zab (show 6≠9 by decide),zab (show 6≠10 by decide),zab (show 6≠11 by decide),zab (show 6≠12 by decide),zbj d5]<;>rfl
     ·
      have d6:l.getD 6 false=true:=by have:=hdep;simp [Region.binds] at this;simp [this]
      clear hdep hoff;have hT:=hlast.off (show 7<13 by decide) hio;cases h9:l.getD 9 false with
      |false=>
       rw [zag hT,zag h9] at hW;subst hW;refine wpOp_step rfl (fun K hK=>?_);simp only [zbj d6];go_simp;refine hK _ _ ⟨by simp [hsz],hlast.next (by decide) hio,?_,x0,x1,x2,x3,x4,x5,x6,x7,x8,x9,x10,x11,x12,?_⟩
       ·(rw [zbh (show 7≠13 by decide),zag hT,zbh (show 7≠9 by decide),zag h9];try rfl)
       ·simp only [zdd (show 7<l.size by omega),zab (show 7≠0 by decide),zab (show 7≠1 by decide),zab (show 7≠2 by decide),zab (show 7≠3 by decide),zab (show 7≠4 by decide),zab (show 7≠5 by decide),zab (show 7≠6 by decide),zab (show 7≠8 by decide),zab (show 7≠9 by decide),zab (show 7≠10 by decide),zab (show 7≠11 by decide),zab (show 7≠12 by decide),zbj d6]<;>rfl
      |true=>
       rw [zag hT,zdf h9] at hW;subst hW;refine wpOp_step rfl (fun K hK=>?_);simp only [zbj d6];go_simp;refine hK _ _ ⟨by simp [hsz],hlast.next (by decide) hio,?_,x0,x1,x2,x3,x4,x5,x6,x7,x8,x9,x10,x11,x12,?_⟩
       ·(rw [zbh (show 7≠13 by decide),zag hT,zbh (show 7≠9 by decide),zdf h9];try rfl)
       ·simp only [zdd (show 7<l.size by omega),zab (show 7≠0 by decide),zab (show 7≠1 by decide),zab (show 7≠2 by decide),zab (show 7≠3 by decide),zab (show 7≠4 by decide),zab (show 7≠5 by decide),zab (show 7≠6 by decide),zab (show 7≠8 by decide),zab (show 7≠9 by decide),zab (show 7≠10 by decide),zab (show 7≠11 by decide),zab (show 7≠12 by decide),zbj d6]<;>rfl
     ·
      obtain ⟨d4,d7⟩:l.getD 4 false=true∧l.getD 7 false=true:=by have:=hdep;simp [Region.binds] at this;simp [this]
      clear hdep hoff;have hT:=hlast.off (show 8<13 by decide) hio;cases h9:l.getD 9 false with
      |false=>
       rw [zag hT,zag h9] at hW;subst hW;refine wpOp_step rfl (fun K hK=>?_);simp only [zbj d4,zbj d7];go_simp;refine hK _ _ ⟨by simp [hsz],hlast.next (by decide) hio,?_,x0,x1,x2,x3,x4,x5,x6,x7,x8,x9,x10,x11,x12,?_⟩
       ·(rw [zbh (show 8≠13 by decide),zag hT,zbh (show 8≠9 by decide),zag h9];try rfl)
       ·simp only [zdd (show 8<l.size by omega),zab (show 8≠0 by decide),zab (show 8≠1 by decide),zab (show 8≠2 by decide),zab (show 8≠3 by decide),zab (show 8≠4 by decide),zab (show 8≠5 by decide),zab (show 8≠6 by decide),zab (show 8≠7 by decide),zab (show 8≠9 by decide),zab (show 8≠10 by decide),zab (show 8≠11 by decide),zab (show 8≠12 by decide),zbj d4,zbj d7]<;>rfl
      |true=>
       rw [zag hT,zdf h9] at hW;subst hW;refine wpOp_step rfl (fun K hK=>?_);simp only [zbj d4,zbj d7];go_simp;refine hK _ _ ⟨by simp [hsz],hlast.next (by decide) hio,?_,x0,x1,x2,x3,x4,x5,x6,x7,x8,x9,x10,x11,x12,?_⟩
       ·(rw [zbh (show 8≠13 by decide),zag hT,zbh (show 8≠9 by decide),zdf h9];try rfl)
       ·simp only [zdd (show 8<l.size by omega),zab (show 8≠0 by decide),zab (show 8≠1 by decide),zab (show 8≠2 by decide),zab (show 8≠3 by decide),zab (show 8≠4 by decide),zab (show 8≠5 by decide),zab (show 8≠6 by decide),zab (show 8≠7 by decide),zab (show 8≠9 by decide),zab (show 8≠10 by decide),zab (show 8≠11 by decide),zab (show 8≠12 by decide),zbj d4,zbj d7]<;>rfl
     ·
      have d8:l.getD 8 false=true:=by have:=hdep;simp [Region.binds] at this;simp [this]
      clear hdep hoff;have hT:=hlast.off (show 9<13 by decide) hio;rw [zag hT,zag hio] at hW;subst hW;refine wpOp_step rfl (fun K hK=>?_);simp only [zbj d8];go_simp;refine hK _ _ ⟨by simp [hsz],hlast.next (by decide) hio,?_,x0,x1,x2,x3,x4,x5,x6,x7,x8,x9,x10,x11,x12,?_⟩
      ·(rw [zbh (show 9≠13 by decide),zag hT,wsel_self (by omega)];try rfl)
      ·simp only [zdd (show 9<l.size by omega),zab (show 9≠0 by decide),zab (show 9≠1 by decide),zab (show 9≠2 by decide),zab (show 9≠3 by decide),zab (show 9≠4 by decide),zab (show 9≠5 by decide),zab (show 9≠6 by decide),zab (show 9≠7 by decide),zab (show 9≠8 by decide),zab (show 9≠10 by decide),zab (show 9≠11 by decide),zab (show 9≠12 by decide),zbj d8]<;>rfl
     ·
      have d9:l.getD 9 false=true:=by have:=hdep;simp [Region.binds] at this;simp [this]
      clear hdep hoff;have hT:=hlast.off (show 10<13 by decide) hio;rw [zag hT,zdf d9] at hW;subst hW;refine wpOp_step rfl (fun K hK=>?_);simp only [zbj d9];go_simp;refine hK _ _ ⟨by simp [hsz],hlast.next (by decide) hio,?_,x0,x1,x2,x3,x4,x5,x6,x7,x8,x9,x10,x11,x12,?_⟩
      ·(rw [zbh (show 10≠13 by decide),zag hT,zbh (show 10≠9 by decide),zdf d9];try rfl)
      ·simp only [zdd (show 10<l.size by omega),zab (show 10≠0 by decide),zab (show 10≠1 by decide),zab (show 10≠2 by decide),zab (show 10≠3 by decide),zab (show 10≠4 by decide),zab (show 10≠5 by decide),zab (show 10≠6 by decide),zab (show 10≠7 by decide),zab (show 10≠8 by decide),zab (show 10≠9 by decide),zab (show 10≠11 by decide),zab (show 10≠12 by decide),zbj d9]<;>rfl
     ·
      obtain ⟨d1,d10⟩:l.getD 1 false=true∧l.getD 10 false=true:=by have:=hdep;simp [Region.binds] at this;simp [this]
      clear hdep hoff;have hT:=hlast.off (show 11<13 by decide) hio;cases h9:l.getD 9 false with
      |false=>
       rw [zag hT,zag h9] at hW;subst hW;refine wpOp_step rfl (fun K hK=>?_);simp only [zbj d1,zbj d10];go_simp;refine hK _ _ ⟨by simp [hsz],hlast.next (by decide) hio,?_,x0,x1,x2,x3,x4,x5,x6,x7,x8,x9,x10,x11,x12,?_⟩
       ·(rw [zbh (show 11≠13 by decide),zag hT,zbh (show 11≠9 by decide),zag h9];try rfl)
       ·simp only [zdd (show 11<l.size by omega),zab (show 11≠0 by decide),zab (show 11≠1 by decide),zab (show 11≠2 by decide),zab (show 11≠3 by decide),zab (show 11≠4 by decide),zab (show 11≠5 by decide),zab (show 11≠6 by decide),zab (show 11≠7 by decide),zab (show 11≠8 by decide),zab (show 11≠9 by decide),zab (show 11≠10 by decide),zab (show 11≠12 by decide),zbj d1,zbj d10]<;>rfl
      |true=>
       rw [zag hT,zdf h9] at hW;subst hW;refine wpOp_step rfl (fun K hK=>?_);simp only [zbj d1,zbj d10];go_simp;refine hK _ _ ⟨by simp [hsz],hlast.next (by decide) hio,?_,x0,x1,x2,x3,x4,x5,x6,x7,x8,x9,x10,x11,x12,?_⟩
       ·(rw [zbh (show 11≠13 by decide),zag hT,zbh (show 11≠9 by decide),zdf h9];try rfl)
       ·simp only [zdd (show 11<l.size by omega),zab (show 11≠0 by decide),zab (show 11≠1 by decide),zab (show 11≠2 by decide),zab (show 11≠3 by decide),zab (show 11≠4 by decide),zab (show 11≠5 by decide),zab (show 11≠6 by decide),zab (show 11≠7 by decide),zab (show 11≠8 by decide),zab (show 11≠9 by decide),zab (show 11≠10 by decide),zab (show 11≠12 by decide),zbj d1,zbj d10]<;>rfl
     ·
      clear hdep hoff;have hT:=hlast.off (show 12<13 by decide) hio;cases h9:l.getD 9 false with
      |false=>
       rw [zag hT,zag h9] at hW;subst hW;refine wpOp_step rfl (fun K hK=>?_);go_simp;refine hK _ _ ⟨by simp [hsz],hlast.next (by decide) hio,?_,x0,x1,x2,x3,x4,x5,x6,x7,x8,x9,x10,x11,x12,?_⟩
       ·(rw [zbh (show 12≠13 by decide),zag hT,zbh (show 12≠9 by decide),zag h9];try rfl)
       ·simp only [zdd (show 12<l.size by omega),zab (show 12≠0 by decide),zab (show 12≠1 by decide),zab (show 12≠2 by decide),zab (show 12≠3 by decide),zab (show 12≠4 by decide),zab (show 12≠5 by decide),zab (show 12≠6 by decide),zab (show 12≠7 by decide),zab (show 12≠8 by decide),zab (show 12≠9 by decide),zab (show 12≠10 by decide),zab (show 12≠11 by decide)]<;>rfl
      |true=>
       rw [zag hT,zdf h9] at hW;subst hW;refine wpOp_step rfl (fun K hK=>?_);go_simp;refine hK _ _ ⟨by simp [hsz],hlast.next (by decide) hio,?_,x0,x1,x2,x3,x4,x5,x6,x7,x8,x9,x10,x11,x12,?_⟩
       ·(rw [zbh (show 12≠13 by decide),zag hT,zbh (show 12≠9 by decide),zdf h9];try rfl)
       ·simp only [zdd (show 12<l.size by omega),zab (show 12≠0 by decide),zab (show 12≠1 by decide),zab (show 12≠2 by decide),zab (show 12≠3 by decide),zab (show 12≠4 by decide),zab (show 12≠5 by decide),zab (show 12≠6 by decide),zab (show 12≠7 by decide),zab (show 12≠8 by decide),zab (show 12≠9 by decide),zab (show 12≠10 by decide),zab (show 12≠11 by decide)]<;>rfl
     ·
      have dall:∀j,j<13→l.getD j false=true:=by
       have hd2:=hdep;simp [Region.binds] at hd2;intro j hj;have hc2:j=0∨j=1∨j=2∨j=3∨j=4∨j=5∨j=6∨j=7∨j=8∨j=9∨j=10∨j=11∨j=12:=by omega
       rcases hc2 with rfl|rfl|rfl|rfl|rfl|rfl|rfl|rfl|rfl|rfl|rfl|rfl|rfl<;>simp [hd2]
      have d11:=dall 11 (by omega);have d12:=dall 12 (by omega);clear hdep hoff;rw [zag hio,zdf (dall 9 (by omega))] at hW;subst hW;refine wpOp_step rfl (fun K hK=>?_);simp only [zbj d11,zbj d12];go_simp;refine hK _ _ ⟨by simp [hsz],LastUp.last dall,?_,x0,x1,x2,x3,x4,x5,x6,x7,x8,x9,x10,x11,x12,?_⟩
      ·(rw [wsel_self (by omega)];try rfl)
      ·simp only [zab (show 13≠0 by decide),zab (show 13≠1 by decide),zab (show 13≠2 by decide),zab (show 13≠3 by decide),zab (show 13≠4 by decide),zab (show 13≠5 by decide),zab (show 13≠6 by decide),zab (show 13≠7 by decide),zab (show 13≠8 by decide),zab (show 13≠9 by decide),zab (show 13≠10 by decide),zab (show 13≠11 by decide),zab (show 13≠12 by decide),zbj d11,zbj d12]<;>rfl
    case hdelev=>
     rintro l a' Wd ⟨hsz,hlast,hW,x0,x1,x2,x3,x4,x5,x6,x7,x8,x9,x10,x11,x12,rfl⟩ hall0;have hall:∀j,j<14→l.getD j false=true:=fun j hj=>on_of (hall0 j hj) (by omega);simp only [List.setIfInBounds_toArray,List.set_cons_zero,List.set_cons_succ,zbj (hall 0 (by omega)),zbj (hall 1 (by omega)),zbj (hall 2 (by omega)),zbj (hall 3 (by omega)),zbj (hall 4 (by omega)),zbj (hall 5 (by omega)),zbj (hall 6 (by omega)),zbj (hall 7 (by omega)),zbj (hall 8 (by omega)),zbj (hall 9 (by omega)),zbj (hall 10 (by omega)),zbj (hall 11 (by omega)),zbj (hall 12 (by omega))];rw [zdf (hall 13 (by omega))] at hW;subst hW;clear hall hall0 hsz hlast;have b11:Below w.heap.size w ((wr.setCell ⟨q,0,none⟩ (.string (D++dataZ zn))).alloc (.cells Cz 5)).drew:=((K.bb.setCell (p:=⟨q,0,none⟩) (by simp only;omega) _).alloc (by have:=K.bb.size;simpa [World.setCell] using this) _).drew;have bq:Below wr.heap.size (wr.setCell ⟨q,0,none⟩ (.string (D++dataZ zn))) ((wr.setCell ⟨q,0,none⟩ (.string (D++dataZ zn))).alloc (.cells Cz 5)).drew:=((Below.refl _ _).alloc (by simp [World.setCell]) _).drew;have hrow11:RowAt ((wr.setCell ⟨q,0,none⟩ (.string (D++dataZ zn))).alloc (.cells Cz 5)).drew q 26 #[.string (D++dataZ zn),.slice (some ⟨A,0,none⟩) n cap]:=by
      have:=hrow.set 0 (.string (D++dataZ zn));simp at this;exact RowAt.below this bq hqw
     have p11:RowAt ((wr.setCell ⟨q,0,none⟩ (.string (D++dataZ zn))).alloc (.cells Cz 5)).drew (w.heap.size+1) 26 #[.string ⟨#[]⟩,.slice none 0 0]:=RowAt.below ((Below.heap_setCell _ _ _ _ (by simp only;omega)).trans K.p2) bq K.p2.lt;have hown11:((wr.setCell ⟨q,0,none⟩ (.string (D++dataZ zn))).alloc (.cells Cz 5)).drew.ownsRow w2.heap.size 131 4 (.slice (some ⟨A,0,none⟩) n cap) n (flatC M):=
      zaf ((ownsRow_setCell_other hown (a:=⟨q,0,none⟩) (fun e=>hAq (by have:=Option.some.inj e;simpa using this.symm)) _).alloc _) (below_drewN _ 1)
     clear e0 e1 k0 k1 z0 e0b k0b z0b hcv hcv2 hmk hsub hsub2 hrow hown K bq;generalize ((wr.setCell ⟨q,0,none⟩ (.string (D++dataZ zn))).alloc (.cells Cz 5)).drew=w11 at*;have u2:=row_ret (D:= .string (D++dataZ zn)) (v:= .slice (some ⟨A,0,none⟩) n cap) p11 rfl;obtain ⟨k0,k1⟩:=zbb hrow11;obtain ⟨e2,e3⟩:=zbb p11;obtain ⟨g0,g1⟩:=zbb u2;have f2:=p11.frozen 0;have f3:=p11.frozen 1;have o12:=Go.Joins.ownsRow_le (ownsRow_setCell_below (ownsRow_setCell_below hown11 (a:=⟨w.heap.size+1,0,none⟩) (by simp only;omega) (.string (D++dataZ zn))) (a:=⟨w.heap.size+1,1,none⟩) (by simp only;omega) (.slice (some ⟨A,0,none⟩) n cap)) (base':=w.heap.size) (by omega);clear u2 p11 hrow11 hown11;go_wp2;exact bodyPost_ret (v:= .tuple #[.agg #[.string (D++dataZ zn),.slice (some ⟨A,0,none⟩) n cap],.bool true]) (by simp [results,Tryz.results31,go_sem,g0,g1]) rfl (by rw [HH.out,HD.out,HM.out];exact ⟨_,rfl,by rw [hMl,hl];exact o12,(b11.setCell (p:=⟨w.heap.size+1,0,none⟩) (by simp) _).setCell (p:=⟨w.heap.size+1,1,none⟩) (by simp) _⟩)
end Go.Proofs.YtapdoechmnjaeaaGreatDoor.Hp
