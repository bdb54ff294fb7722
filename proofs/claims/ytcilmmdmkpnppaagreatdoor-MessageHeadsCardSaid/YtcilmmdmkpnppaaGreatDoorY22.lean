/-
  Contracts of functions and plain mathematics, text by text, each with its conditions ahead of it:
  Contracts of the program's sections: is a value one of them, which of them is it (slices.IndexFunc), the row of all of them. Memory that was there stays. Conditions: values of bulk at most 2^28.
  Messages, plain: how the program goes through the sections is how the document does. No Go in it but the names of what the contracts speak of.
-/
import Derived.Test.YtcilmmdmkpnppaaGreatDoorY17
import Derived.Test.YtcilmmdmkpnppaaGreatDoorY19
import Derived.Test.YtcilmmdmkpnppaaGreatDoorY21
import Derived.Deep.RegionHeld3
import Derived.Laws.EntriesVeiled
section
namespace Go.Proofs.YtcilmmdmkpnppaaGreatDoor.Me
set_option maxRecDepth 100000
open Go.RowKit Utf Val Fl Oc V
def isB (code:Nat)(nm:ByteArray)(kd:Nat)(v:V):Bool:=decide (v.kind=25)&&(match v.kids with
 | [d,x]=>decide (x.kind=kd)&&calledB d code nm
 | _=>false)
theorem isB_25 {code:Nat}{nm:ByteArray}{kd:Nat}{v:V}(h:v.kind≠25):isB code nm kd v=false:=by unfold isB;rw[decide_eq_false h];rfl
def B4 (w:World)(g:Nat)(x0 x1 x2 x3:Value):Prop:=w.heap[g]? = some (.cells #[x0,x1,x2,x3] 63 (0,0))
section
variable {w w':World} {g:Nat} {x0 x1 x2 x3:Value}
theorem B4.lt (h:B4 w g x0 x1 x2 x3):g < w.heap.size:=(Array.getElem?_eq_some_iff.1 h).1
theorem B4.new (w:World)(x0 x1 x2 x3:Value):B4 (w.alloc (.cells #[x0,x1,x2,x3] 63)) w.heap.size x0 x1 x2 x3:=heap_alloc_new w _
theorem B4.call (h:B4 w g x0 x1 x2 x3)(hb:Below w.heap.size w w'):B4 w' g x0 x1 x2 x3:=(hb.block g h.lt).trans h
theorem B4.all (h:B4 w g x0 x1 x2 x3):w.cell? ⟨g,0,none⟩=some x0∧w.cell? ⟨g,1,none⟩=some x1∧w.cell? ⟨g,2,none⟩=some x2∧w.cell? ⟨g,3,none⟩=some x3∧∀ j,w.frozen? ⟨g,j,none⟩=false:=by
 refine⟨cell_of_row w g 0 _ _ _ h,cell_of_row w g 1 _ _ _ h,cell_of_row w g 2 _ _ _ h,cell_of_row w g 3 _ _ _ h,fun j=>?_⟩;unfold B4 at h;simp[World.frozen?,h]
end
structure IK (w1 wx:World) (g5 g2 k1 n1:Nat) (t1:ByteArray) (A1:Option Addr) (l1 c1 code:Nat) (nm:ByteArray) (kd:Nat) (F:Value):Prop where
 b5:Box wx g5 (.int .u8 (k1:Int)) (.int .u64 (n1:Int)) (.string t1) (.slice A1 l1 c1)
 b2:B4 wx g2 (.int .u64 (code:Int)) (.string nm) (.int .u8 (kd:Int)) F
 low:Below w1.heap.size w1 wx
section
variable {w1 wx w2:World} {g5 g2 k1 n1:Nat} {t1:ByteArray} {A1:Option Addr} {l1 c1 code:Nat} {nm:ByteArray} {kd:Nat} {F:Value}
theorem IK.call (h:IK w1 wx g5 g2 k1 n1 t1 A1 l1 c1 code nm kd F)(hb:Below wx.heap.size wx w2):IK w1 w2 g5 g2 k1 n1 t1 A1 l1 c1 code nm kd F:=⟨h.b5.call hb,h.b2.call hb,below_next h.low hb⟩
theorem IK.cells (h:IK w1 wx g5 g2 k1 n1 t1 A1 l1 c1 code nm kd F):wx.cell? ⟨g5,0,none⟩=some (.int .u8 (k1:Int))∧wx.cell? ⟨g5,1,none⟩=some (.int .u64 (n1:Int))∧wx.cell? ⟨g5,2,none⟩=some (.string t1)∧wx.cell? ⟨g5,3,none⟩=some (.slice A1 l1 c1)∧wx.cell? ⟨g2,0,none⟩=some (.int .u64 (code:Int))∧wx.cell? ⟨g2,1,none⟩=some (.string nm):=by
 obtain⟨a0,a1,a2,a3,_⟩:=h.b5.all;obtain⟨b0,b1,_⟩:=h.b2.all;exact⟨a0,a1,a2,a3,b0,b1⟩
end
set_option maxHeartbeats 2000000 in
theorem is_not (code:Nat)(nm:ByteArray)(kd:Nat)(F:Value)(k n:Nat)(t:ByteArray)(ks:List V)(A:Option Addr)(l c:Nat)(w:World)(hk:k≠25) :
  Calls Tryz.prog 40 #[.agg #[.int .u64 (code:Int),.string nm,.int .u8 (kd:Int),F],.agg #[.int .u8 (k:Int),.int .u64 (n:Int),.string t,.slice A l c]] w (GivesB (isB code nm kd (.mk k n t ks)) w):=by
 have hB:Below w.heap.size w ((w.alloc (.cells #[.int .u64 (code:Int),.string nm,.int .u8 (kd:Int),F] 63)).alloc (.cells #[.int .u8 (k:Int),.int .u64 (n:Int),.string t,.slice A l c] 44)):=two_boxes w _ _;have h3:=Box.new2 w (.cells #[.int .u64 (code:Int),.string nm,.int .u8 (kd:Int),F] 63) (.int .u8 (k:Int)) (.int .u64 (n:Int)) (.string t) (.slice A l c);obtain⟨W,hW⟩:∃ W,(w.alloc (.cells #[.int .u64 (code:Int),.string nm,.int .u8 (kd:Int),F] 63)).alloc (.cells #[.int .u8 (k:Int),.int .u64 (n:Int),.string t,.slice A l c] 44)=W:=⟨_,rfl⟩;rw[hW] at hB h3;obtain⟨d0,d1,d2,d3,df⟩:=h3.all;have HB:=Lib.hid hB;have HR:Hid (isB code nm kd (.mk k n t ks)=false):=Lib.hid (isB_25 hk);have hd:((k:Int)==25)=false:=by rw[beq_eq_false_iff_ne];omega
 have hdn:((k:Int) != 25)=true:=by rw[bne,hd];rfl
 clear hB h3 hk;go_enter Tryz.func40,Tryz.ntmps40;go_wp2_with fail
 try rw[hW]
 go_quiet (fail);go_wp2;go_ret;exact⟨by rw[HR.out];rfl,below_drewN HB.out _⟩
set_option maxHeartbeats 2000000 in
theorem is_25 (code:Nat)(nm:ByteArray)(kd:Nat)(F:Value)(n:Nat)(t:ByteArray)(ks:List V)(d x:V)(A:Option Addr)(l c:Nat)(w:World)(hN:bulkL ks≤268435456)(hK:Kd w ks A l c)(hks:ks=[d,x]) :
  Calls Tryz.prog 40 #[.agg #[.int .u64 (code:Int),.string nm,.int .u8 (kd:Int),F],.agg #[.int .u8 25,.int .u64 (n:Int),.string t,.slice A l c]] w (GivesB (isB code nm kd (.mk 25 n t ks)) w):=by
 have hB:Below w.heap.size w ((w.alloc (.cells #[.int .u64 (code:Int),.string nm,.int .u8 (kd:Int),F] 63)).alloc (.cells #[.int .u8 25,.int .u64 (n:Int),.string t,.slice A l c] 44)):=two_boxes w _ _;obtain⟨b,o,k1,n1,t1,ks1,A1,l1,c1,k2,n2,t2,ks2,A2,l2,c2,rfl,hbl,rfl,rfl,rfl,p0,p1,p2,p3,q0,q1,q2,q3,hk1,hn1,hK1,hk2,hn2,hK2⟩:=kids_pair (hK.call hB) hks;have h2:B4 ((w.alloc (.cells #[.int .u64 (code:Int),.string nm,.int .u8 (kd:Int),F] 63)).alloc (.cells #[.int .u8 25,.int .u64 (n:Int),.string t,.slice (some ⟨b,o,none⟩) 2 c] 44)) w.heap.size (.int .u64 (code:Int)) (.string nm) (.int .u8 (kd:Int)) F:=(B4.new w _ _ _ _).call ((Below.refl _ _).alloc (Nat.le_refl _) _);have h3:=Box.new2 w (.cells #[.int .u64 (code:Int),.string nm,.int .u8 (kd:Int),F] 63) (.int .u8 25) (.int .u64 (n:Int)) (.string t) (.slice (some ⟨b,o,none⟩) 2 c);obtain⟨W,hW⟩:∃ W,(w.alloc (.cells #[.int .u64 (code:Int),.string nm,.int .u8 (kd:Int),F] 63)).alloc (.cells #[.int .u8 25,.int .u64 (n:Int),.string t,.slice (some ⟨b,o,none⟩) 2 c] 44)=W:=⟨_,rfl⟩;rw[hW] at hB h2 h3 p0 p1 p2 p3 q0 hbl hK1;obtain⟨b0,b1,b2,b3,bf⟩:=h2.all;obtain⟨d0,d1,d2,d3,df⟩:=h3.all;have HB:=Lib.hid hB;have H2:=Lib.hid h2;have H3:=Lib.hid h3;have HNK1:Hid (bulkL ks1≤1073741824):=Lib.hid (by rw[hks] at hN;simp only[bulkL,bulk] at hN;omega);have HR:Hid (isB code nm kd (.mk 25 n t ks)=(decide (k2=kd)&&calledB (.mk k1 n1 t1 ks1) code nm)):=Lib.hid (by rw[hks];rfl);have HK1:=Lib.hid hK1;clear hB h2 h3 hK hN hks hK2 hK1 q1 q2 q3;by_cases he:k2=kd
 case neg=>
  have hd:((k2:Int)==(kd:Int))=false:=by rw[beq_eq_false_iff_ne];omega
  have hdn:((k2:Int) != (kd:Int))=true:=by rw[bne,hd];rfl
  rw[decide_eq_false he,Bool.false_and] at HR;clear he p0 p1 p2 p3;go_enter Tryz.func40,Tryz.ntmps40;go_wp2_with fail
  try rw[hW]
  go_quiet (fail);go_wp2;go_ret;exact⟨by rw[HR.out];rfl,below_drewN HB.out _⟩
 case pos=>
  have hd:((k2:Int)==(kd:Int))=true:=by rw[he];simp
  have hdn:((k2:Int) != (kd:Int))=false:=by rw[bne,hd];rfl
  rw[decide_eq_true he,Bool.true_and] at HR;clear he;go_enter Tryz.func40,Tryz.ntmps40;go_wp2_with fail
  try rw[hW]
  go_quiet (fail);generalize hw2:W.drewN _=w1;have hb2:Below W.heap.size W w1:=hw2▸below_drewN (Below.refl _ _) _;have e0:=(hb2.cell (p:=⟨b,o,none⟩) hbl).trans p0;have e1:=(hb2.cell (p:=⟨b,o+1,none⟩) hbl).trans p1;have e2:=(hb2.cell (p:=⟨b,o+2,none⟩) hbl).trans p2;have e3:=(hb2.cell (p:=⟨b,o+3,none⟩) hbl).trans p3;have H21:=Lib.hid (H2.out.call hb2);have H31:=Lib.hid (H3.out.call hb2);have HB1:=Lib.hid (below_next HB.out hb2);have HK2:=Lib.hid (HK1.out.call hb2);obtain⟨f0,f1,f2,f3,ff⟩:=H31.out.all;clear hb2 hw2 p0 p1 p2 p3 q0 b0 b1 b2 b3 bf d0 d1 d2 d3 df HB H2 H3 HK1 hW hbl;go_upto_region 4 with fail
  have HS:Hid (IK w1 (w1.alloc (.cells #[.int .u8 (k1:Int),.int .u64 (n1:Int),.string t1,.slice A1 l1 c1] 44)) w1.heap.size w.heap.size k1 n1 t1 A1 l1 c1 code nm kd F):=Lib.hid ⟨Box.new _ _ _ _ _,H21.out.call ((Below.refl _ _).alloc (Nat.le_refl _) _),(Below.refl _ _).alloc (Nat.le_refl _) _⟩;cases hs1:V.same (.mk k1 n1 t1 ks1) (.mk 6 code ⟨#[]⟩ []) with
  | true=>
   have HS1:=Lib.hid hs1;have HC:Hid (isB code nm kd (.mk 25 n t ks)=true):=Lib.hid (by rw[HR.out];unfold calledB;rw[hs1];rfl);clear hs1 HR;go_upto_region 4 with fail
   refine wp_region_held_drew (S:=fun wx=>IK w1 wx w1.heap.size w.heap.size k1 n1 t1 A1 l1 c1 code nm kd F) (by kernel_rfl) (by exact HS.out.call (Below.refl _ _).drew) (fun hHeld=>?_)
   (refine wpAnyH_take (i:=0) (oi:=⟨some 23,_,_,_,_,_⟩) (v:=?_) rfl (by kernel_rfl) (by kernel_rfl) (by kernel_rfl) (fun _ _ _ h=>h) (Or.inl ⟨by kernel_rfl,?_⟩) (by assumption) ?_;rotate_left 1;(· intro wx hSw;(try dsimp only at hSw);obtain⟨p0,p1,p2,p3,q0,q1⟩:=IK.cells hSw;go_simp;(try with_reducible rfl)))
   try simp only[Act.put,sA,sB,sC]
   (refine wpAnyH_take (i:=1) (oi:=⟨some 24,_,_,_,_,_⟩) (v:=?_) rfl (by kernel_rfl) (by kernel_rfl) (by kernel_rfl) (fun _ _ _ h=>h) (Or.inl ⟨by kernel_rfl,?_⟩) (by assumption) ?_;rotate_left 1;(· intro wx hSw;(try dsimp only at hSw);obtain⟨p0,p1,p2,p3,q0,q1⟩:=IK.cells hSw;go_simp;(try with_reducible rfl)))
   try simp only[Act.put,sA,sB,sC]
   (refine wpAnyH_take (i:=2) (oi:=⟨some 25,_,_,_,_,_⟩) (v:=?_) rfl (by kernel_rfl) (by kernel_rfl) (by kernel_rfl) (fun _ _ _ h=>h) (Or.inl ⟨by kernel_rfl,?_⟩) (by assumption) ?_;rotate_left 1;(· intro wx hSw;(try dsimp only at hSw);obtain⟨p0,p1,p2,p3,q0,q1⟩:=IK.cells hSw;go_simp;(try with_reducible rfl)))
   try simp only[Act.put,sA,sB,sC]
   (refine wpAnyH_ready (rs:=[3]) (by kernel_rfl) (by simp) ?_;refine AllReadyH.cons (o:=⟨some 26,_,_,_,_,_⟩) rfl (fun K hK=>?_) AllReadyH.nil;go_simp;(go_at_call 56;(with_reducible refine(mbycode_any code _).mono ?_);rintro e w2 ⟨rfl,hb2⟩);go_wp2_with fail;refine hK.out _ _ ?_ (fun hHeld=>?_);(· exact IK.call (by with_reducible assumption) (by with_reducible assumption));clear hK K)
   try simp only[Act.put,sA,sB,sC]
   (refine wpAnyH_ready (rs:=[4]) (by kernel_rfl) (by simp) ?_;refine AllReadyH.cons (o:=⟨some 27,_,_,_,_,_⟩) rfl (fun K hK=>?_) AllReadyH.nil;go_simp;(go_at_call 68;(with_reducible refine(same_code k1 n1 t1 ks1 A1 l1 c1 code _ HNK1.out (Kd.call HK2.out (IK.low (by with_reducible assumption))) true HS1.out).mono ?_);rintro e w3 ⟨rfl,hb3⟩);go_wp2_with fail;refine hK.out _ _ ?_ (fun hHeld=>?_);(· exact IK.call (by with_reducible assumption) (by with_reducible assumption));clear hK K)
   try simp only[Act.put,sA,sB,sC]
   (refine wpAnyH_take (i:=5) (oi:=⟨some 28,_,_,_,_,_⟩) (v:=?_) rfl (by kernel_rfl) (by kernel_rfl) (by kernel_rfl) (fun _ _ _ h=>h) (Or.inl ⟨by kernel_rfl,?_⟩) (by assumption) ?_;rotate_left 1;(· intro wx hSw;(try dsimp only at hSw);obtain⟨p0,p1,p2,p3,q0,q1⟩:=IK.cells hSw;go_simp;(try with_reducible rfl)))
   try simp only[Act.put,sA,sB,sC]
   (refine wpAnyH_take (i:=6) (oi:=⟨some 29,_,_,_,_,_⟩) (v:=undef) rfl (by kernel_rfl) (by kernel_rfl) (by kernel_rfl) (fun _ _ _ h=>h) (Or.inr ⟨by kernel_rfl,rfl⟩) (by assumption) ?_)
   try simp only[Act.put,sA,sB,sC]
   (refine wpAnyH_take (i:=7) (oi:=⟨some 30,_,_,_,_,_⟩) (v:=undef) rfl (by kernel_rfl) (by kernel_rfl) (by kernel_rfl) (fun _ _ _ h=>h) (Or.inr ⟨by kernel_rfl,rfl⟩) (by assumption) ?_)
   try simp only[Act.put,sA,sB,sC]
   (refine wpAnyH_take (i:=8) (oi:=⟨some 31,_,_,_,_,_⟩) (v:=undef) rfl (by kernel_rfl) (by kernel_rfl) (by kernel_rfl) (fun _ _ _ h=>h) (Or.inr ⟨by kernel_rfl,rfl⟩) (by assumption) ?_)
   try simp only[Act.put,sA,sB,sC]
   (refine wpAnyH_take (i:=9) (oi:=⟨some 32,_,_,_,_,_⟩) (v:=undef) rfl (by kernel_rfl) (by kernel_rfl) (by kernel_rfl) (fun _ _ _ h=>h) (Or.inr ⟨by kernel_rfl,rfl⟩) (by assumption) ?_)
   try simp only[Act.put,sA,sB,sC]
   (refine wpAnyH_take (i:=10) (oi:=⟨some 33,_,_,_,_,_⟩) (v:=undef) rfl (by kernel_rfl) (by kernel_rfl) (by kernel_rfl) (fun _ _ _ h=>h) (Or.inr ⟨by kernel_rfl,rfl⟩) (by assumption) ?_)
   try simp only[Act.put,sA,sB,sC]
   (refine wpAnyH_take (i:=11) (oi:=⟨some 34,_,_,_,_,_⟩) (v:=?_) rfl (by kernel_rfl) (by kernel_rfl) (by kernel_rfl) (fun _ _ _ h=>h) (Or.inl ⟨by kernel_rfl,?_⟩) (by assumption) ?_;rotate_left 1;(· intro wx hSw;(try dsimp only at hSw);obtain⟨p0,p1,p2,p3,q0,q1⟩:=IK.cells hSw;go_simp;(try with_reducible rfl)))
   try simp only[Act.put,sA,sB,sC]
   (refine wpAnyH_take (i:=12) (oi:=⟨some 4,_,_,_,_,_⟩) (v:=?_) rfl (by kernel_rfl) (by kernel_rfl) (by kernel_rfl) (fun _ _ _ h=>h) (Or.inl ⟨by kernel_rfl,?_⟩) (by assumption) ?_;rotate_left 1;(· intro wx hSw;(try dsimp only at hSw);obtain⟨p0,p1,p2,p3,q0,q1⟩:=IK.cells hSw;go_simp;(try with_reducible rfl)))
   try simp only[Act.put,sA,sB,sC]
   refine wpAnyH_done (by kernel_rfl) ?_ _;go_wp2;go_ret;exact⟨by rw[HC.out];rfl,HB1.out.trans (hHeld.low.mono HB1.out.size)⟩
  | false=>
   have HS1:=Lib.hid hs1;obtain⟨q,hq⟩:∃ q,V.same (.mk k1 n1 t1 ks1) (.mk 21 0 nm [])=q:=⟨_,rfl⟩;have HS2:=Lib.hid hq;have HC:Hid (isB code nm kd (.mk 25 n t ks)=q):=Lib.hid (by rw[HR.out];unfold calledB;rw[hs1,hq];rfl);clear hs1 HR hq;go_upto_region 4 with fail
   refine wp_region_held_drew (S:=fun wx=>IK w1 wx w1.heap.size w.heap.size k1 n1 t1 A1 l1 c1 code nm kd F) (by kernel_rfl) (by exact HS.out.call (Below.refl _ _).drew) (fun hHeld=>?_)
   (refine wpAnyH_take (i:=0) (oi:=⟨some 23,_,_,_,_,_⟩) (v:=?_) rfl (by kernel_rfl) (by kernel_rfl) (by kernel_rfl) (fun _ _ _ h=>h) (Or.inl ⟨by kernel_rfl,?_⟩) (by assumption) ?_;rotate_left 1;(· intro wx hSw;(try dsimp only at hSw);obtain⟨p0,p1,p2,p3,q0,q1⟩:=IK.cells hSw;go_simp;(try with_reducible rfl)))
   try simp only[Act.put,sA,sB,sC]
   (refine wpAnyH_take (i:=1) (oi:=⟨some 24,_,_,_,_,_⟩) (v:=?_) rfl (by kernel_rfl) (by kernel_rfl) (by kernel_rfl) (fun _ _ _ h=>h) (Or.inl ⟨by kernel_rfl,?_⟩) (by assumption) ?_;rotate_left 1;(· intro wx hSw;(try dsimp only at hSw);obtain⟨p0,p1,p2,p3,q0,q1⟩:=IK.cells hSw;go_simp;(try with_reducible rfl)))
   try simp only[Act.put,sA,sB,sC]
   (refine wpAnyH_take (i:=2) (oi:=⟨some 25,_,_,_,_,_⟩) (v:=?_) rfl (by kernel_rfl) (by kernel_rfl) (by kernel_rfl) (fun _ _ _ h=>h) (Or.inl ⟨by kernel_rfl,?_⟩) (by assumption) ?_;rotate_left 1;(· intro wx hSw;(try dsimp only at hSw);obtain⟨p0,p1,p2,p3,q0,q1⟩:=IK.cells hSw;go_simp;(try with_reducible rfl)))
   try simp only[Act.put,sA,sB,sC]
   (refine wpAnyH_ready (rs:=[3]) (by kernel_rfl) (by simp) ?_;refine AllReadyH.cons (o:=⟨some 26,_,_,_,_,_⟩) rfl (fun K hK=>?_) AllReadyH.nil;go_simp;(go_at_call 56;(with_reducible refine(mbycode_any code _).mono ?_);rintro e w2 ⟨rfl,hb2⟩);go_wp2_with fail;refine hK.out _ _ ?_ (fun hHeld=>?_);(· exact IK.call (by with_reducible assumption) (by with_reducible assumption));clear hK K)
   try simp only[Act.put,sA,sB,sC]
   (refine wpAnyH_ready (rs:=[4]) (by kernel_rfl) (by simp) ?_;refine AllReadyH.cons (o:=⟨some 27,_,_,_,_,_⟩) rfl (fun K hK=>?_) AllReadyH.nil;go_simp;(go_at_call 68;(with_reducible refine(same_code k1 n1 t1 ks1 A1 l1 c1 code _ HNK1.out (Kd.call HK2.out (IK.low (by with_reducible assumption))) false HS1.out).mono ?_);rintro e w3 ⟨rfl,hb3⟩);go_wp2_with fail;refine hK.out _ _ ?_ (fun hHeld=>?_);(· exact IK.call (by with_reducible assumption) (by with_reducible assumption));clear hK K)
   try simp only[Act.put,sA,sB,sC]
   (refine wpAnyH_take (i:=5) (oi:=⟨some 28,_,_,_,_,_⟩) (v:=?_) rfl (by kernel_rfl) (by kernel_rfl) (by kernel_rfl) (fun _ _ _ h=>h) (Or.inl ⟨by kernel_rfl,?_⟩) (by assumption) ?_;rotate_left 1;(· intro wx hSw;(try dsimp only at hSw);obtain⟨p0,p1,p2,p3,q0,q1⟩:=IK.cells hSw;go_simp;(try with_reducible rfl)))
   try simp only[Act.put,sA,sB,sC]
   (refine wpAnyH_take (i:=6) (oi:=⟨some 29,_,_,_,_,_⟩) (v:=?_) rfl (by kernel_rfl) (by kernel_rfl) (by kernel_rfl) (fun _ _ _ h=>h) (Or.inl ⟨by kernel_rfl,?_⟩) (by assumption) ?_;rotate_left 1;(· intro wx hSw;(try dsimp only at hSw);obtain⟨p0,p1,p2,p3,q0,q1⟩:=IK.cells hSw;go_simp;(try with_reducible rfl)))
   try simp only[Act.put,sA,sB,sC]
   (refine wpAnyH_take (i:=7) (oi:=⟨some 30,_,_,_,_,_⟩) (v:=?_) rfl (by kernel_rfl) (by kernel_rfl) (by kernel_rfl) (fun _ _ _ h=>h) (Or.inl ⟨by kernel_rfl,?_⟩) (by assumption) ?_;rotate_left 1;(· intro wx hSw;(try dsimp only at hSw);obtain⟨p0,p1,p2,p3,q0,q1⟩:=IK.cells hSw;go_simp;(try with_reducible rfl)))
   try simp only[Act.put,sA,sB,sC]
   (refine wpAnyH_take (i:=8) (oi:=⟨some 31,_,_,_,_,_⟩) (v:=?_) rfl (by kernel_rfl) (by kernel_rfl) (by kernel_rfl) (fun _ _ _ h=>h) (Or.inl ⟨by kernel_rfl,?_⟩) (by assumption) ?_;rotate_left 1;(· intro wx hSw;(try dsimp only at hSw);obtain⟨p0,p1,p2,p3,q0,q1⟩:=IK.cells hSw;go_simp;(try with_reducible rfl)))
   try simp only[Act.put,sA,sB,sC]
   (refine wpAnyH_ready (rs:=[9]) (by kernel_rfl) (by simp) ?_;refine AllReadyH.cons (o:=⟨some 32,_,_,_,_,_⟩) rfl (fun K hK=>?_) AllReadyH.nil;go_simp;(go_at_call 19;(with_reducible refine(text_sym nm _).mono ?_);rintro e w4 ⟨rfl,hb4⟩);go_wp2_with fail;refine hK.out _ _ ?_ (fun hHeld=>?_);(· exact IK.call (by with_reducible assumption) (by with_reducible assumption));clear hK K)
   try simp only[Act.put,sA,sB,sC]
   (refine wpAnyH_ready (rs:=[10]) (by kernel_rfl) (by simp) ?_;refine AllReadyH.cons (o:=⟨some 33,_,_,_,_,_⟩) rfl (fun K hK=>?_) AllReadyH.nil;go_simp;(go_at_call 68;(with_reducible refine(same_name k1 n1 t1 ks1 A1 l1 c1 nm _ HNK1.out (Kd.call HK2.out (IK.low (by with_reducible assumption))) q HS2.out).mono ?_);rintro e w5 ⟨rfl,hb5⟩);go_wp2_with fail;refine hK.out _ _ ?_ (fun hHeld=>?_);(· exact IK.call (by with_reducible assumption) (by with_reducible assumption));clear hK K)
   try simp only[Act.put,sA,sB,sC]
   (refine wpAnyH_take (i:=11) (oi:=⟨some 34,_,_,_,_,_⟩) (v:=?_) rfl (by kernel_rfl) (by kernel_rfl) (by kernel_rfl) (fun _ _ _ h=>h) (Or.inl ⟨by kernel_rfl,?_⟩) (by assumption) ?_;rotate_left 1;(· intro wx hSw;(try dsimp only at hSw);obtain⟨p0,p1,p2,p3,q0,q1⟩:=IK.cells hSw;go_simp;(try with_reducible rfl)))
   try simp only[Act.put,sA,sB,sC]
   (refine wpAnyH_take (i:=12) (oi:=⟨some 4,_,_,_,_,_⟩) (v:=?_) rfl (by kernel_rfl) (by kernel_rfl) (by kernel_rfl) (fun _ _ _ h=>h) (Or.inl ⟨by kernel_rfl,?_⟩) (by assumption) ?_;rotate_left 1;(· intro wx hSw;(try dsimp only at hSw);obtain⟨p0,p1,p2,p3,q0,q1⟩:=IK.cells hSw;go_simp;(try with_reducible rfl)))
   try simp only[Act.put,sA,sB,sC]
   refine wpAnyH_done (by kernel_rfl) ?_ _;go_wp2;go_ret;exact⟨by rw[HC.out];rfl,HB1.out.trans (hHeld.low.mono HB1.out.size)⟩
theorem is_any (code:Nat)(nm:ByteArray)(kd:Nat)(F:Value)(k n:Nat)(t:ByteArray)(ks:List V)(A:Option Addr)(l c:Nat)(w:World)(hN:bulkL ks≤268435456)(hK:Kd w ks A l c)(h25:k=25→∃ d x,ks=[d,x]) :
  Calls Tryz.prog 40 #[.agg #[.int .u64 (code:Int),.string nm,.int .u8 (kd:Int),F],.agg #[.int .u8 (k:Int),.int .u64 (n:Int),.string t,.slice A l c]] w (GivesB (isB code nm kd (.mk k n t ks)) w):=by
 by_cases hk:k=25
 ·subst hk;obtain⟨d,x,hks⟩:=h25 rfl;exact is_25 code nm kd F n t ks d x A l c w hN hK hks
 ·exact is_not code nm kd F k n t ks A l c w hk
theorem getc_any (code:Nat)(nm:ByteArray)(kd:Nat)(F:Value)(k n:Nat)(t:ByteArray)(ks:List V)(A:Option Addr)(l c vb:Nat)(w:World)(hN:bulkL ks≤268435456)(hK:Kd w ks A l c)(h25:k=25→∃ d x,ks=[d,x])(hv:Box w vb (.int .u8 (k:Int)) (.int .u64 (n:Int)) (.string t) (.slice A l c)) :
  Calls Tryz.prog 39 #[.agg #[.int .u64 (code:Int),.string nm,.int .u8 (kd:Int),F],.pointer (some ⟨vb,0,none⟩)] w (GivesB (isB code nm kd (.mk k n t ks)) w):=by
 have hb0:Below w.heap.size w (w.alloc (.cells #[.int .u64 (code:Int),.string nm,.int .u8 (kd:Int),F] 63)):=(Below.refl _ _).alloc (Nat.le_refl _) _;obtain⟨b0,b1,b2,b3,bf⟩:=(B4.new w (.int .u64 (code:Int)) (.string nm) (.int .u8 (kd:Int)) F).all;obtain⟨d0,d1,d2,d3,df⟩:=(hv.call hb0).all;have HI:=Lib.hid (is_any code nm kd F k n t ks A l c _ hN (hK.call hb0) h25);have HB:=Lib.hid hb0;obtain⟨p,hp⟩:∃ p,isB code nm kd (.mk k n t ks)=p:=⟨_,rfl⟩;rw[hp] at HI ⊢;clear hb0 hN hK h25 hv hp;go_enter Tryz.func39,Tryz.ntmps39;go_wp2_with (go_at_call 40;(with_reducible refine HI.out.mono ?_);rintro e w1 ⟨rfl,hb1⟩);go_ret;exact⟨rfl,below_next HB.out hb1⟩
def sidx (q:Nat):Nat:=if q < 6 then q else 8
def skind (q:Nat):Nat:=if q=0∨q=3 then 22 else if q=5 then 19 else 23
def sfn (q:Nat):Nat:=if q=0 then 62 else if q=3 then 64 else if q=5 then 65 else 63
def isS (q:Nat)(v:V):Bool:=isB (112+sidx q) (mname (sidx q)) (skind q) v
def SecAt (w:World)(g p q:Nat):Prop:=w.cell? ⟨g,p,none⟩=some (.int .u64 ((112+sidx q:Nat):Int))∧w.cell? ⟨g,p+1,none⟩=some (.string (mname (sidx q)))∧w.cell? ⟨g,p+2,none⟩=some (.int .u8 ((skind q:Nat):Int))∧w.cell? ⟨g,p+3,none⟩=some (.func (.func (sfn q)) #[] #[])
def Sv (w:World)(g:Nat):Prop:=g < w.heap.size∧∀ q,q < 7→SecAt w g (q * 4) q
theorem SecAt.keep {w w':World}{g p q:Nat}(h:SecAt w g p q)(hk:w'.heap[g]? = w.heap[g]?):SecAt w' g p q:=
 ⟨(World.cell?_of_block (a:=⟨g,p,none⟩) hk).trans h.1,(World.cell?_of_block (a:=⟨g,p+1,none⟩) hk).trans h.2.1,(World.cell?_of_block (a:=⟨g,p+2,none⟩) hk).trans h.2.2.1,(World.cell?_of_block (a:=⟨g,p+3,none⟩) hk).trans h.2.2.2⟩
theorem Sv.keep {w w':World}{g:Nat}(h:Sv w g)(hs:w.heap.size≤w'.heap.size)(hk:w'.heap[g]? = w.heap[g]?):Sv w' g:=⟨Nat.lt_of_lt_of_le h.1 hs,fun q hq=>(h.2 q hq).keep hk⟩
theorem Sv.call {w w':World}{g:Nat}(h:Sv w g)(hb:Below w.heap.size w w'):Sv w' g:=h.keep hb.size (hb.block g h.1)
structure May (w:World) (g:Nat) (A:Option Addr) (n c k:Nat):Prop where
 sv:Sv w g
 sum:k+n=7
 cap:n≤c
 at_:0 < n→A=some ⟨g,k * 4,none⟩
theorem May.call {w w':World}{g:Nat}{A:Option Addr}{n c k:Nat}(h:May w g A n c k)(hb:Below w.heap.size w w'):May w' g A n c k:=⟨h.sv.call hb,h.sum,h.cap,h.at_⟩
def GivesIx (v:V)(k n:Nat)(w:World)(e:Ending)(w':World):Prop:=
 ((∃ j:Nat,j < n∧isS (k+j) v=true∧(∀ i,i < j→isS (k+i) v=false)∧e=.returned (.int .i64 (j:Int)))∨((∀ i,i < n→isS (k+i) v=false)∧e=.returned (.int .i64 (-1))))∧Below w.heap.size w w'
set_option maxHeartbeats 1000000 in
theorem idx_any (vk vn:Nat)(vt:ByteArray)(vks:List V)(vA:Option Addr)(vl vc vb g:Nat)(A:Option Addr)(n c k:Nat)(w:World)(hN:bulkL vks≤268435456)(hK:Kd w vks vA vl vc)(h25:vk=25→∃ d x,vks=[d,x])(hv:Box w vb (.int .u8 (vk:Int)) (.int .u64 (vn:Int)) (.string vt) (.slice vA vl vc))(hM:May w g A n c k) :
  Calls Tryz.prog 38 #[.slice A n c,.func (.func 39) #[] #[.pointer (some ⟨vb,0,none⟩)]] w (GivesIx (.mk vk vn vt vks) k n w):=by
 have HC:=Lib.hid (fun(wx:World) (hb:Below w.heap.size w wx) (q:Nat) (F:Value)=>getc_any (112+sidx q) (mname (sidx q)) (skind q) F vk vn vt vks vA vl vc vb wx hN (hK.call hb) h25 (hv.call hb));have HM:=Lib.hid hM;have hn7:n≤7:=by have:=hM.sum;omega
 have hnc:=hM.cap;clear hN hK h25 hv hM;go_enter Tryz.func38,Tryz.ntmps38;go_wp2;go_loopw [8] (fun s wr=>∃ j:Nat,j≤n∧s=.int .i64 (j:Nat)∧(∀ i,i < j→isS (k+i) (.mk vk vn vt vks)=false)∧Below w.heap.size w wr) (fun s _=>n - (intOf s).toNat)
 case atStart=>exact⟨0,by omega,rfl,fun i h=>by omega,Below.refl _ _⟩
 case round=>
  obtain⟨j,hj,rfl,hno,hB⟩:=hrel;have HNO:=Lib.hid hno;have HB:=Lib.hid hB;clear hno hB;by_cases hlt:j < n
  ·obtain rfl:=HM.out.at_ (by omega);have hsv:=(HM.out.sv.call HB.out).2 (k+j) (by have:=HM.out.sum;omega);obtain⟨c0,c1,c2,c3⟩:=hsv;have hp:(k+j) * 4=k * 4+j * 4:=by omega
   rw[hp] at c0 c1 c2 c3;have HA:=Lib.hid (HC.out wr HB.out (k+j) (.func (.func (sfn (k+j))) #[] #[]));obtain⟨p,hpp⟩:∃ p,isS (k+j) (.mk vk vn vt vks)=p:=⟨_,rfl⟩;have hpp2:isB (112+sidx (k+j)) (mname (sidx (k+j))) (skind (k+j)) (.mk vk vn vt vks)=p:=hpp;rw[hpp2] at HA;obtain⟨cd,hcd⟩:∃ x,112+sidx (k+j)=x:=⟨_,rfl⟩;obtain⟨nm,hnm⟩:∃ x,mname (sidx (k+j))=x:=⟨_,rfl⟩;obtain⟨kd,hkd⟩:∃ x,skind (k+j)=x:=⟨_,rfl⟩;obtain⟨fn,hfn⟩:∃ x,sfn (k+j)=x:=⟨_,rfl⟩;rw[hcd,hnm,hkd,hfn] at HA;rw[hcd] at c0;rw[hnm] at c1;rw[hkd] at c2;rw[hfn] at c3;have HPP:=Lib.hid hpp;have HLT:=Lib.hid hlt;have hgl:=(HM.out.sv.call HB.out).1;clear hp hcd hnm hkd hfn hpp hpp2;cases p with
   | true=>
    go_wp2_with (go_at_call 39;(with_reducible refine HA.out.mono ?_);rintro e w1 ⟨rfl,hb1⟩);go_ret;exact⟨.inl ⟨j,HLT.out,HPP.out,HNO.out,rfl⟩,below_next HB.out hb1⟩
   | false=>
    go_wp2_with (go_at_call 39;(with_reducible refine HA.out.mono ?_);rintro e w1 ⟨rfl,hb1⟩);go_roundw
    case rel=>exact⟨j+1,HLT.out,by go_num,fun i hi=>by (by_cases h:i=j);(· subst h;exact HPP.out);(· exact HNO.out i (by omega)),below_next HB.out hb1⟩
    case measure=>(have:=HLT.out;simp[intOf];omega)
  ·obtain rfl:j=n:=by omega
   clear hlt;go_wp2;go_ret;exact⟨.inr ⟨HNO.out,rfl⟩,HB.out⟩
theorem sv_new (w:World):Sv (w.alloc (.cells #[.int .u64 112,.string ⟨#[97,109,113,112,58,104,101,97,100,101,114,58,108,105,115,116]⟩,.int .u8 22,.func (.func 62) #[] #[],.int .u64 113,.string ⟨#[97,109,113,112,58,100,101,108,105,118,101,114,121,45,97,110,110,111,116,97,116,105,111,110,115,58,109,97,112]⟩,.int .u8 23,.func (.func 63) #[] #[],.int .u64 114,.string ⟨#[97,109,113,112,58,109,101,115,115,97,103,101,45,97,110,110,111,116,97,116,105,111,110,115,58,109,97,112]⟩,.int .u8 23,.func (.func 63) #[] #[],.int .u64 115,.string ⟨#[97,109,113,112,58,112,114,111,112,101,114,116,105,101,115,58,108,105,115,116]⟩,.int .u8 22,.func (.func 64) #[] #[],.int .u64 116,.string ⟨#[97,109,113,112,58,97,112,112,108,105,99,97,116,105,111,110,45,112,114,111,112,101,114,116,105,101,115,58,109,97,112]⟩,.int .u8 23,.func (.func 63) #[] #[],.int .u64 117,.string ⟨#[97,109,113,112,58,100,97,116,97,58,98,105,110,97,114,121]⟩,.int .u8 19,.func (.func 65) #[] #[],.int .u64 120,.string ⟨#[97,109,113,112,58,102,111,111,116,101,114,58,109,97,112]⟩,.int .u8 23,.func (.func 63) #[] #[]] 63)) w.heap.size:=by
 have hc:∀ j,(w.alloc (.cells #[.int .u64 112,.string ⟨#[97,109,113,112,58,104,101,97,100,101,114,58,108,105,115,116]⟩,.int .u8 22,.func (.func 62) #[] #[],.int .u64 113,.string ⟨#[97,109,113,112,58,100,101,108,105,118,101,114,121,45,97,110,110,111,116,97,116,105,111,110,115,58,109,97,112]⟩,.int .u8 23,.func (.func 63) #[] #[],.int .u64 114,.string ⟨#[97,109,113,112,58,109,101,115,115,97,103,101,45,97,110,110,111,116,97,116,105,111,110,115,58,109,97,112]⟩,.int .u8 23,.func (.func 63) #[] #[],.int .u64 115,.string ⟨#[97,109,113,112,58,112,114,111,112,101,114,116,105,101,115,58,108,105,115,116]⟩,.int .u8 22,.func (.func 64) #[] #[],.int .u64 116,.string ⟨#[97,109,113,112,58,97,112,112,108,105,99,97,116,105,111,110,45,112,114,111,112,101,114,116,105,101,115,58,109,97,112]⟩,.int .u8 23,.func (.func 63) #[] #[],.int .u64 117,.string ⟨#[97,109,113,112,58,100,97,116,97,58,98,105,110,97,114,121]⟩,.int .u8 19,.func (.func 65) #[] #[],.int .u64 120,.string ⟨#[97,109,113,112,58,102,111,111,116,101,114,58,109,97,112]⟩,.int .u8 23,.func (.func 63) #[] #[]] 63)).cell? ⟨w.heap.size,j,none⟩=#[.int .u64 112,.string ⟨#[97,109,113,112,58,104,101,97,100,101,114,58,108,105,115,116]⟩,.int .u8 22,.func (.func 62) #[] #[],.int .u64 113,.string ⟨#[97,109,113,112,58,100,101,108,105,118,101,114,121,45,97,110,110,111,116,97,116,105,111,110,115,58,109,97,112]⟩,.int .u8 23,.func (.func 63) #[] #[],.int .u64 114,.string ⟨#[97,109,113,112,58,109,101,115,115,97,103,101,45,97,110,110,111,116,97,116,105,111,110,115,58,109,97,112]⟩,.int .u8 23,.func (.func 63) #[] #[],.int .u64 115,.string ⟨#[97,109,113,112,58,112,114,111,112,101,114,116,105,101,115,58,108,105,115,116]⟩,.int .u8 22,.func (.func 64) #[] #[],.int .u64 116,.string ⟨#[97,109,113,112,58,97,112,112,108,105,99,97,116,105,111,110,45,112,114,111,112,101,114,116,105,101,115,58,109,97,112]⟩,.int .u8 23,.func (.func 63) #[] #[],.int .u64 117,.string ⟨#[97,109,113,112,58,100,97,116,97,58,98,105,110,97,114,121]⟩,.int .u8 19,.func (.func 65) #[] #[],.int .u64 120,.string ⟨#[97,109,113,112,58,102,111,111,116,101,114,58,109,97,112]⟩,.int .u8 23,.func (.func 63) #[] #[]][j]?:=fun j=>World.cell?_alloc_at _ _ _ _ rfl;refine⟨by simp,fun q hq=>?_⟩;have h:q=0∨q=1∨q=2∨q=3∨q=4∨q=5∨q=6:=by omega
 rcases h with rfl | rfl | rfl | rfl | rfl | rfl | rfl
 ·exact⟨hc 0,hc 1,hc 2,hc 3⟩
 ·exact⟨hc 4,hc 5,hc 6,hc 7⟩
 ·exact⟨hc 8,hc 9,hc 10,hc 11⟩
 ·exact⟨hc 12,hc 13,hc 14,hc 15⟩
 ·exact⟨hc 16,hc 17,hc 18,hc 19⟩
 ·exact⟨hc 20,hc 21,hc 22,hc 23⟩
 ·exact⟨hc 24,hc 25,hc 26,hc 27⟩
theorem secs_any (w:World):Calls Tryz.prog 36 #[] w (fun e w'=>∃ g,e=.returned (.slice (some ⟨g,0,none⟩) 7 7)∧w.heap.size≤g∧May w' g (some ⟨g,0,none⟩) 7 7 0∧Below w.heap.size w w'):=by
 have HV:=Lib.hid (sv_new w);have hb0:Below w.heap.size w (w.alloc (.cells #[.int .u64 112,.string ⟨#[97,109,113,112,58,104,101,97,100,101,114,58,108,105,115,116]⟩,.int .u8 22,.func (.func 62) #[] #[],.int .u64 113,.string ⟨#[97,109,113,112,58,100,101,108,105,118,101,114,121,45,97,110,110,111,116,97,116,105,111,110,115,58,109,97,112]⟩,.int .u8 23,.func (.func 63) #[] #[],.int .u64 114,.string ⟨#[97,109,113,112,58,109,101,115,115,97,103,101,45,97,110,110,111,116,97,116,105,111,110,115,58,109,97,112]⟩,.int .u8 23,.func (.func 63) #[] #[],.int .u64 115,.string ⟨#[97,109,113,112,58,112,114,111,112,101,114,116,105,101,115,58,108,105,115,116]⟩,.int .u8 22,.func (.func 64) #[] #[],.int .u64 116,.string ⟨#[97,109,113,112,58,97,112,112,108,105,99,97,116,105,111,110,45,112,114,111,112,101,114,116,105,101,115,58,109,97,112]⟩,.int .u8 23,.func (.func 63) #[] #[],.int .u64 117,.string ⟨#[97,109,113,112,58,100,97,116,97,58,98,105,110,97,114,121]⟩,.int .u8 19,.func (.func 65) #[] #[],.int .u64 120,.string ⟨#[97,109,113,112,58,102,111,111,116,101,114,58,109,97,112]⟩,.int .u8 23,.func (.func 63) #[] #[]] 63)):=(Below.refl _ _).alloc (Nat.le_refl _) _;have HB:=Lib.hid hb0;clear hb0;go_enter Tryz.func36,Tryz.ntmps36;go_wp2;go_ret;exact⟨_,rfl,Nat.le_refl _,⟨HV.out,by omega,by omega,fun _=>rfl⟩,HB.out⟩
end Go.Proofs.YtcilmmdmkpnppaaGreatDoor.Me
end
section
namespace Go.Proofs.YtcilmmdmkpnppaaGreatDoor.Me
set_option maxRecDepth 100000
open Utf Val Fl Oc Dec V
open Enc hiding nullV
noncomputable def readS (q:Nat)(v:V)(m:M):Option M:=if q=0 then headR v m else if q=3 then propR v m else if q=5 then (match v.kids with
  | [_,x]=>dataR x m
  | _=>none) else some m
theorem readS_len {q:Nat}{v:V}{m m':M}(h:m.body.length≤2048)(hr:readS q v m=some m'):m'.body.length≤2048:=by
 unfold readS at hr;by_cases h0:q=0
 ·rw[if_pos h0] at hr;unfold headR at hr
  split at hr
  ·cases hr
  ·split at hr
   ·cases hr
   ·injection hr with hr;subst hr;exact h
 ·rw[if_neg h0] at hr;by_cases h3:q=3
  ·rw[if_pos h3] at hr;unfold propR at hr
   split at hr
   ·cases hr
   ·split at hr
    ·cases hr
    ·injection hr with hr;subst hr;exact h
  ·rw[if_neg h3] at hr;by_cases h5:q=5
   ·rw[if_pos h5] at hr
    split at hr
    ·unfold dataR at hr
     split at hr
     ·rename_i hl;injection hr with hr
      subst hr
      show (m.body++tb _).length≤2048
      rw[List.length_append];simp only[tb,List.length_map,Array.length_toList];exact hl
     ·cases hr
    ·cases hr
   ·rw[if_neg h5] at hr;injection hr with hr;subst hr;exact h
def fnd (v:V):Nat→Nat→Option Nat
 | _,0=>none
 | k,n+1=>if isS k v=true then some k else fnd v (k+1) n
theorem fnd_none {v:V}:∀ {n k:Nat},(∀ i,i < n→isS (k+i) v=false)→fnd v k n=none
 | 0,_,_=>rfl
 | n+1,k,h=>by
  unfold fnd;rw[if_neg (by have:=h 0 (by omega);rw[Nat.add_zero] at this;rw[this];exact Bool.false_ne_true)];exact fnd_none fun i hi=>by have:=h (i+1) (by omega);rwa [show k+1+i=k+(i+1) by omega]
theorem fnd_some {v:V}:∀ {n k j:Nat},j < n→isS (k+j) v=true→(∀ i,i < j→isS (k+i) v=false)→fnd v k n=some (k+j)
 | 0,_,_,hj,_,_=>by omega
 | n+1,k,0,_,h,_=>by
  unfold fnd;rw[Nat.add_zero] at h;rw[if_pos h];rfl
 | n+1,k,j+1,hj,h,hno=>by
  unfold fnd;rw[if_neg (by have:=hno 0 (by omega);rw[Nat.add_zero] at this;rw[this];exact Bool.false_ne_true)];have:=fnd_some (v:=v) (n:=n) (k:=k+1) (j:=j) (by omega) (by rwa [show k+1+j=k+(j+1) by omega]) fun i hi=>by have:=hno (i+1) (by omega);rwa [show k+1+i=k+(i+1) by omega]
  rw[this,show k+1+j=k+(j+1) by omega]
noncomputable def stepQ (k:Nat)(m:M)(bd:Bool)(v:V):Option (Nat×M×Bool):=match fnd v k (7 - k) with
 | none=>none
 | some q=>match readS q v m with
  | none=>none
  | some m'=>some (if q=5 then 5 else q+1,m',bd||q==5)
noncomputable def getQ:Nat→Nat→M→Bool→List Nat→Option M
 | _,_,m,bd,[]=>if bd=true then some m else none
 | 0,_,_,_,_::_=>none
 | N+1,k,m,bd,x::b=>if (decD (x::b)).2.2=0 then (match stepQ k m bd (decD (x::b)).1 with
   | none=>none
   | some (k',m',bd')=>getQ N k' m' bd' ((x::b).drop (decD (x::b)).2.1)) else none
theorem named_called {d:V}(hm:mayB d=true)(hn:nameB d.kind=true)(i:Nat):named d i=calledB d (112+i) (mname i):=by
 rw[called_kind hm hn];simp only[nameB,Bool.or_eq_true,beq_iff_eq] at hn;unfold named;rcases hn with h | h
 ·rw[h,if_pos rfl];simp
 ·rw[h,if_neg (by omega)];simp
theorem mname_inj:∀ i,i < 9→∀ j,j < 9→mname i=mname j→i=j:=by decide +kernel
theorem named_one {d:V}{i j:Nat}(hi:i < 9)(hj:j < 9)(h1:named d i=true)(h2:named d j=true):i=j:=by
 unfold named at h1 h2;simp only[Bool.or_eq_true,Bool.and_eq_true,decide_eq_true_eq] at h1 h2;rcases h1 with ⟨a,b⟩ | ⟨a,b⟩
 ·rcases h2 with ⟨c,e⟩ | ⟨c,e⟩
  ·omega
  ·omega
 ·rcases h2 with ⟨c,e⟩ | ⟨c,e⟩
  ·omega
  ·exact mname_inj i hi j hj (b.symm.trans e)
theorem sidx_lt {q:Nat}(h:q < 7):sidx q < 9:=by
 unfold sidx;by_cases h6:q < 6
 ·rw[if_pos h6];omega
 ·rw[if_neg h6];omega
theorem isS_eq {n:Nat}{t:ByteArray}{d x:V}(hm:mayB d=true)(hn:nameB d.kind=true)(q:Nat):isS q (.mk 25 n t [d,x])=(decide (x.kind=skind q)&&named d (sidx q)):=by
 rw[named_called hm hn];rfl
def Rk (k last:Nat):Prop:=(k=0∧last=0)∨(1≤k∧k≤5∧last=111+k)∨(k=5∧last=117)∨(k=7∧last=120)
theorem newR_kind {n:Nat}{t:ByteArray}{d x:V}{code:Nat}{nm:ByteArray}(h:x.kind≠22):newR (.mk 25 n t [d,x]) code nm=none:=by
 unfold newR;by_cases hc:okB (.mk 25 n t [d,x])=true∧(V.mk 25 n t [d,x]).kind=25
 ·rw[if_pos hc];exact if_neg fun e=>h e.2
 ·exact if_neg hc
theorem sect_find {n:Nat}{t:ByteArray}{d x:V}:sectR (.mk 25 n t [d,x])=((List.range 9).find? (named d)).map fun i=>(i,x):=rfl
def posn (i:Nat):Nat:=if i < 6 then i else 6
theorem isS_at {n:Nat}{t:ByteArray}{d x:V}(hm:mayB d=true)(hn:nameB d.kind=true){i:Nat}(hi:i < 9)(h:named d i=true){q:Nat}(hq:q < 7)(hne:sidx q≠i):isS q (.mk 25 n t [d,x])=false:=by
 rw[isS_eq hm hn];cases hx:named d (sidx q) with
 | false=>exact Bool.and_false _
 | true=>exact absurd (named_one (sidx_lt hq) hi hx h) hne
theorem stepQ_none {v:V}{k:Nat}{m:M}{bd:Bool}(h:fnd v k (7 - k)=none):stepQ k m bd v=none:=by unfold stepQ;rw[h]
theorem stepQ_some {v:V}{k q:Nat}{m:M}{bd:Bool}(h:fnd v k (7 - k)=some q):stepQ k m bd v=(match readS q v m with
  | none=>none
  | some m'=>some (if q=5 then 5 else q+1,m',bd||q==5)):=by unfold stepQ;rw[h]
def Alike (k:Nat)(m:M)(bd:Bool)(s:St)(v:V):Prop:=
 (stepQ k m bd v=none∧(stepM s v=none∨∃ s',stepM s v=some s'∧2048 < s'.m.body.length)) ∨
 (∃ k' m' bd' s',stepQ k m bd v=some (k',m',bd')∧stepM s v=some s'∧s'.m=m'∧s'.body=bd'∧Rk k' s'.last)
theorem alike_go {k q:Nat}{m m':M}{bd:Bool}{s s':St}{v:V}(hf:fnd v k (7 - k)=some q)(hr:readS q v m=some m')(hst:stepM s v=some s')(h1:s'.m=m')(h2:s'.body=(bd||q==5))(h3:Rk (if q=5 then 5 else q+1) s'.last):Alike k m bd s v:=.inr ⟨_,_,_,s',by rw[stepQ_some hf,hr],hst,h1,h2,h3⟩
theorem alike_stop {k q:Nat}{m:M}{bd:Bool}{s:St}{v:V}(hf:fnd v k (7 - k)=some q)(hr:readS q v m=none)(hst:stepM s v=none∨∃ s',stepM s v=some s'∧2048 < s'.m.body.length):Alike k m bd s v:=.inl ⟨by rw[stepQ_some hf,hr],hst⟩
theorem out_iff {k last i:Nat}(hk:Rk k last)(hi:i < 6∨i=8):(112+i < last∨(112+i=last∧i≠5))↔posn i < k:=by
 unfold Rk at hk;unfold posn;by_cases h:i < 6
 ·rw[if_pos h];omega
 ·rw[if_neg h];omega
theorem tb_len (t:ByteArray):(tb t).length=t.size:=by
 unfold tb;rw[List.length_map,Array.length_toList];rfl
theorem step_eq {v:V}(hok:okB v=true){k:Nat}{m:M}{bd:Bool}{s:St}(hs:s.m=m)(hb:s.body=bd)(hk:Rk k s.last):Alike k m bd s v:=by
 obtain⟨vk,n,t,ks⟩:=v;have hnone:∀ {w:V},(∀ q,q < 7→isS q w=false)→fnd w k (7 - k)=none:=fun h=>fnd_none fun i hi=>h _ (by omega);by_cases h25:vk=25
 case neg=>
  refine .inl ⟨stepQ_none (hnone fun q _=>isB_25 h25),.inl ?_⟩;unfold stepM;rw[show sectR (.mk vk n t ks)=none from if_neg h25]
 subst h25;obtain⟨d,x,rfl,hnm,hmd,_⟩:=may_desc (may_of_ok hok);cases hf:(List.range 9).find? (named d) with
 | none=>
  have hno:∀ q,q < 7→isS q (.mk 25 n t [d,x])=false:=fun q hq=>by
   rw[isS_eq hmd hnm];have:=List.find?_eq_none.1 hf (sidx q) (List.mem_range.2 (sidx_lt hq));cases hx:named d (sidx q) with
   | false=>exact Bool.and_false _
   | true=>exact absurd hx this
  refine .inl ⟨stepQ_none (hnone hno),.inl ?_⟩;unfold stepM;rw[sect_find,hf];rfl
 | some i=>
  have hnam:named d i=true:=List.find?_some hf;have hi9:i < 9:=List.mem_range.1 (List.mem_of_find?_eq_some hf);have hsec:sectR (.mk 25 n t [d,x])=some (i,x):=by rw[sect_find,hf];rfl
  have hoth:=fun q (hq:q < 7) (hne:sidx q≠i)=>isS_at (n:=n) (t:=t) (x:=x) hmd hnm hi9 hnam hq hne;by_cases h67:i=6∨i=7
  ·exact .inl ⟨stepQ_none (hnone fun q hq=>hoth q hq (by unfold sidx;by_cases h:q < 6<;>simp[h]<;>omega)),.inl (step_67 hsec h67)⟩
  have hi:i < 6∨i=8:=by omega
  have hpos:posn i < 7:=by unfold posn;by_cases h:i < 6<;>simp[h];omega
  have hsi:sidx (posn i)=i:=by
   unfold sidx posn;by_cases h:i < 6
   ·rw[if_pos h,if_pos h]
   ·rw[if_neg h,if_neg (by omega)];omega
  have huniq:∀ q,q < 7→q≠posn i→isS q (.mk 25 n t [d,x])=false:=fun q hq hne=>hoth q hq fun e=>hne (by
   rw[←e];unfold posn sidx;by_cases h:q < 6
   ·rw[if_pos h,if_pos h]
   ·rw[if_neg h,if_neg (by omega)];omega)
  have hat:isS (posn i) (.mk 25 n t [d,x])=decide (x.kind=skind (posn i)):=by rw[isS_eq hmd hnm,hsi,hnam,Bool.and_true]
  by_cases ho:112+i < s.last∨(112+i=s.last∧i≠5)
  ·have:=(out_iff hk hi).1 ho;exact .inl ⟨stepQ_none (fnd_none fun j hj=>huniq _ (by omega) (by omega)),.inl (step_out hsec ho)⟩
  have hkp:k≤posn i:=by have:=mt (out_iff hk hi).2 ho;omega
  by_cases hkd:x.kind=skind (posn i)
  case neg=>
   rw[decide_eq_false hkd] at hat;refine .inl ⟨stepQ_none (hnone fun q hq=>by (by_cases h:q=posn i);(· rw[h];exact hat);(· exact huniq q hq h)),.inl ?_⟩;unfold stepM;rw[hsec];simp only;rw[if_neg ho];have hc:i=0∨i=1∨i=2∨i=3∨i=4∨i=5∨i=8:=by omega
   rcases hc with rfl | rfl | rfl | rfl | rfl | rfl | rfl
   ·rw[if_pos rfl,newR_kind hkd]
   ·rw[if_neg (by omega),if_neg (by omega),if_neg (by omega),if_neg (by omega)];exact if_neg hkd
   ·rw[if_neg (by omega),if_neg (by omega),if_neg (by omega),if_neg (by omega)];exact if_neg hkd
   ·rw[if_neg (by omega),if_pos rfl,newR_kind hkd]
   ·rw[if_neg (by omega),if_neg (by omega),if_neg (by omega),if_neg (by omega)];exact if_neg hkd
   ·rw[if_neg (by omega),if_neg (by omega),if_pos rfl];exact if_neg hkd
   ·rw[if_neg (by omega),if_neg (by omega),if_neg (by omega),if_neg (by omega)];exact if_neg hkd
  rw[decide_eq_true hkd] at hat;have hfd:fnd (.mk 25 n t [d,x]) k (7 - k)=some (posn i):=by
   have:=fnd_some (v:=.mk 25 n t [d,x]) (n:=7 - k) (k:=k) (j:=posn i - k) (by omega) (by rw[show k+(posn i - k)=posn i by omega];exact hat) fun j hj=>huniq _ (by omega) (by omega)
   rwa [show k+(posn i - k)=posn i by omega] at this
  have hstep:stepM s (.mk 25 n t [d,x])=(if i=0 then (match newR (.mk 25 n t [d,x]) 112 (mname 0) with
   | none=>none
   | some ls=>if hdB ls=true then none else some ⟨{ s.m with p:=(oneR ls 1 3 false false 4 V.num).1,ttl:=(oneR ls 2 5 false false 0 V.num).1,n:=(oneR ls 4 5 false false 0 V.num).1 },112,s.body⟩)
   else if i=3 then (match newR (.mk 25 n t [d,x]) 115 (mname 3) with
   | none=>none
   | some ls=>if prB ls=true then none else some ⟨{ s.m with id:=idR ls },115,s.body⟩)
   else if i=5 then (if x.kind=19 then some ⟨{ s.m with body:=s.m.body++tb x.text },117,true⟩ else none)
   else if i=6∨i=7 then none
   else if x.kind=23 then some ⟨s.m,112+i,s.body⟩ else none):=by
   unfold stepM;rw[hsec];exact if_neg ho
  subst hs hb;have hc:i=0∨i=1∨i=2∨i=3∨i=4∨i=5∨i=8:=by omega
  rcases hc with rfl | rfl | rfl | rfl | rfl | rfl | rfl
  ·rw[if_pos rfl] at hstep;cases hnr:newR (.mk 25 n t [d,x]) 112 (mname 0) with
   | none=>
    rw[hnr] at hstep;exact alike_stop hfd (show headR (.mk 25 n t [d,x]) s.m=none by unfold headR;rw[hnr]) (.inl hstep)
   | some ls=>
    rw[hnr] at hstep;simp only at hstep;have hR:headR (.mk 25 n t [d,x]) s.m=(if hdB ls=true then none else some { s.m with p:=(oneR ls 1 3 false false 4 V.num).1,ttl:=(oneR ls 2 5 false false 0 V.num).1,n:=(oneR ls 4 5 false false 0 V.num).1 }):=by unfold headR;rw[hnr]
    cases hh:hdB ls with
    | true=>
     rw[hh,if_pos rfl] at hstep hR;exact alike_stop hfd hR (.inl hstep)
    | false=>
     rw[hh,if_neg Bool.false_ne_true] at hstep hR;exact alike_go (q:=0) hfd hR hstep rfl (Bool.or_false _).symm (.inr (.inl ⟨by decide,by decide,rfl⟩))
  ·rw[if_neg (by omega),if_neg (by omega),if_neg (by omega),if_neg (by omega),if_pos (show x.kind=23 from hkd)] at hstep;exact alike_go (q:=1) hfd rfl hstep rfl (Bool.or_false _).symm (.inr (.inl ⟨by decide,by decide,rfl⟩))
  ·rw[if_neg (by omega),if_neg (by omega),if_neg (by omega),if_neg (by omega),if_pos (show x.kind=23 from hkd)] at hstep;exact alike_go (q:=2) hfd rfl hstep rfl (Bool.or_false _).symm (.inr (.inl ⟨by decide,by decide,rfl⟩))
  ·rw[if_neg (by omega),if_pos rfl] at hstep;cases hnr:newR (.mk 25 n t [d,x]) 115 (mname 3) with
   | none=>
    rw[hnr] at hstep;exact alike_stop hfd (show propR (.mk 25 n t [d,x]) s.m=none by unfold propR;rw[hnr]) (.inl hstep)
   | some ls=>
    rw[hnr] at hstep;simp only at hstep;have hR:propR (.mk 25 n t [d,x]) s.m=(if prB ls=true then none else some { s.m with id:=idR ls }):=by unfold propR;rw[hnr]
    cases hh:prB ls with
    | true=>
     rw[hh,if_pos rfl] at hstep hR;exact alike_stop hfd hR (.inl hstep)
    | false=>
     rw[hh,if_neg Bool.false_ne_true] at hstep hR;exact alike_go (q:=3) hfd hR hstep rfl (Bool.or_false _).symm (.inr (.inl ⟨by decide,by decide,rfl⟩))
  ·rw[if_neg (by omega),if_neg (by omega),if_neg (by omega),if_neg (by omega),if_pos (show x.kind=23 from hkd)] at hstep;exact alike_go (q:=4) hfd rfl hstep rfl (Bool.or_false _).symm (.inr (.inl ⟨by decide,by decide,rfl⟩))
  ·rw[if_neg (by omega),if_neg (by omega),if_pos rfl,if_pos (show x.kind=19 from hkd)] at hstep;by_cases hl:s.m.body.length+x.text.size≤2048
   ·exact alike_go (q:=5) hfd (show dataR x s.m=_ from if_pos hl) hstep rfl (Bool.or_true _).symm (.inr (.inr (.inl ⟨rfl,rfl⟩)))
   ·refine alike_stop (q:=5) hfd (show dataR x s.m=_ from if_neg hl) (.inr ⟨_,hstep,?_⟩);simp only[List.length_append,tb_len];omega
  ·rw[if_neg (by omega),if_neg (by omega),if_neg (by omega),if_neg (by omega),if_pos (show x.kind=23 from hkd)] at hstep;exact alike_go (q:=6) hfd rfl hstep rfl (Bool.or_false _).symm (.inr (.inr (.inr ⟨rfl,rfl⟩)))
theorem stepM_grows {s s':St}{v:V}(h:stepM s v=some s'):s.m.body.length≤s'.m.body.length:=by
 unfold stepM at h;cases hs:sectR v with
 | none=>rw[hs] at h;cases h
 | some p=>
  obtain⟨i,x⟩:=p;rw[hs] at h;simp only at h
  split at h
  ·cases h
  ·split at h
   ·split at h
    ·cases h
    ·split at h
     ·cases h
     ·injection h with h;subst h;exact Nat.le_refl _
   ·split at h
    ·split at h
     ·cases h
     ·split at h
      ·cases h
      ·injection h with h;subst h;exact Nat.le_refl _
    ·split at h
     ·split at h
      ·injection h with h;subst h;simp
      ·cases h
     ·split at h
      ·cases h
      ·split at h
       ·injection h with h;subst h;exact Nat.le_refl _
       ·cases h
theorem getN_grows:∀ (N:Nat) (s s':St) (b:List Nat),getN N s b=some s'→s.m.body.length≤s'.m.body.length
 | N,s,s',[],h=>by rw[getN_nil] at h;injection h with h;subst h;exact Nat.le_refl _
 | 0,_,_,_::_,h=>by cases h
 | N+1,s,s',x::b,h=>by
  rw[getN_cons N s (by simp)] at h;by_cases hd:(decD (x::b)).2.2=0
  ·rw[if_pos hd] at h;cases hs:stepM s (decD (x::b)).1 with
   | none=>rw[hs] at h;cases h
   | some s2=>
    rw[hs] at h;exact Nat.le_trans (stepM_grows hs) (getN_grows N s2 s' _ h)
  ·rw[if_neg hd] at h;cases h
theorem dec_ok {b:List Nat}(h:(decD b).2.2=0):okB (decD b).1=true:=by
 rcases dec_ways b with ⟨v,it,r,_,hok,hd⟩ | ⟨_,hd⟩ | ⟨_,hd⟩
 ·rw[hd];exact hok
 ·rw[hd] at h;simp at h
 ·rw[hd] at h;simp at h
theorem getQ_eq:∀ (N k:Nat) (m:M) (bd:Bool) (s:St) (b:List Nat),s.m=m→s.body=bd→Rk k s.last→m.body.length≤2048→getQ N k m bd b=(match getN N s b with
  | none=>none
  | some s'=>finM s')
 | N,k,m,bd,s,[],hs,hb,_,hl=>by
  rw[getN_nil];have:getQ N k m bd []=if bd=true then some m else none:=by cases N<;>rfl
  rw[this]
  show _=finM s
  unfold finM;subst hs hb;cases s.body with
  | true=>rw[if_pos rfl,if_pos ⟨rfl,hl⟩]
  | false=>rw[if_neg Bool.false_ne_true,if_neg fun h=>Bool.false_ne_true h.1]
 | 0,_,_,_,_,_::_,_,_,_,_=>rfl
 | N+1,k,m,bd,s,x::b,hs,hb,hk,hl=>by
  rw[getN_cons N s (by simp)]
  show (if (decD (x::b)).2.2=0 then (match stepQ k m bd (decD (x::b)).1 with
   | none=>none
   | some (k',m',bd')=>getQ N k' m' bd' ((x::b).drop (decD (x::b)).2.1)) else none)=_
  by_cases hd:(decD (x::b)).2.2=0
  ·rw[if_pos hd,if_pos hd];rcases step_eq (dec_ok hd) hs hb hk with ⟨h1,h2 | ⟨s',h2,h3⟩⟩ | ⟨k',m',bd',s',h1,h2,h3,h4,h5⟩
   ·rw[h1,h2]
   ·rw[h1,h2];simp only;cases hg:getN N s' ((x::b).drop (decD (x::b)).2.1) with
    | none=>rfl
    | some s2=>
     have:=getN_grows N s' s2 _ hg
     show none=finM s2
     unfold finM;rw[if_neg fun h=>by omega]
   ·rw[h1,h2];simp only;by_cases hl':m'.body.length≤2048
    ·exact getQ_eq N k' m' bd' s' _ h3 h4 h5 hl'
    ·exfalso
     unfold stepQ at h1;cases hf:fnd (decD (x::b)).1 k (7 - k) with
     | none=>rw[hf] at h1;cases h1
     | some q=>
      rw[hf] at h1;simp only at h1;cases hr:readS q (decD (x::b)).1 m with
      | none=>rw[hr] at h1;cases h1
      | some m2=>
       rw[hr] at h1;simp only[Option.some.injEq,Prod.mk.injEq] at h1;obtain⟨_,rfl,_⟩:=h1;exact hl' (readS_len hl hr)
  ·rw[if_neg hd,if_neg hd]
end Go.Proofs.YtcilmmdmkpnppaaGreatDoor.Me
end
