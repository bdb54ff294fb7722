/- Contracts, each with its premises. -/
import Derived.Test.YtbbbanfggcediaaGreatDoorY21
import Derived.Laws.EntriesVeiled
set_option maxRecDepth 100000
set_option maxHeartbeats 8000000
namespace Go.Proofs.YtbbbanfggcediaaGreatDoor
open _root_.Go.Proofs.Tryz
open Nat renaming add_zero→ycM
open Bool renaming and_eq_true→ycI,false_ne_true→ycJ,or_eq_true→ycL
open List renaming length_append→ycH,length_map→ycK
section
open Go Go.RowKit
theorem T4K{P:Program}{md:Region.Mode}{ops:Array Oper}{Q:Exit→Act→World→Prop}{S:World→Prop}(i:Nat)(oi:Oper)(v:Value){fuel:Nat}{listed:Array Bool}{a:Act}{w:World}(hi:ops[i]?=some oi)(hb:(Region.noSelect ops&&(Region.free md ops listed i&&((Region.ready md ops listed).contains i&&Region.wanted oi (yielded ops a.tmps))))=true)(hQ:∀ c a w,Q (.panic c) (a.put oi.dst v) w→Q (.panic c) a w)(hy:∀ w,S w→(execOp a.eval oi).run P w=.ok (.value v) w)(hS:S w)(h:wpAnyH P md ops Q S fuel (listed.setIfInBounds i true) (a.put oi.dst v) w):wpAnyH P md ops Q S (fuel+1) listed a w:=by
 simp only[ycI] at hb
 exact wpAnyH_take hi hb.1 hb.2.1 hb.2.2.1 hQ (Or.inl ⟨hb.2.2.2,hy⟩) hS h
theorem S4K{P:Program}{md:Region.Mode}{ops:Array Oper}{Q:Exit→Act→World→Prop}{S:World→Prop}(i:Nat)(oi:Oper){fuel:Nat}{listed:Array Bool}{a:Act}{w:World}(hi:ops[i]?=some oi)(hb:(Region.noSelect ops&&(Region.free md ops listed i&&((Region.ready md ops listed).contains i&&!Region.wanted oi (yielded ops a.tmps))))=true)(hQ:∀ c a w,Q (.panic c) (a.put oi.dst undef) w→Q (.panic c) a w)(hS:S w)(h:wpAnyH P md ops Q S fuel (listed.setIfInBounds i true) (a.put oi.dst undef) w):wpAnyH P md ops Q S (fuel+1) listed a w:=by
 simp only[ycI,Bool.not_eq_true'] at hb
 exact wpAnyH_take hi hb.1 hb.2.1 hb.2.2.1 hQ (Or.inr ⟨hb.2.2.2,rfl⟩) hS h
end
namespace Me
open Go.RowKit Utf Val Fl Oc V
def isB (code:Nat)(nm:ByteArray)(kd:Nat)(v:V):Bool:=decide (v.kind=25)&&(match v.kids with
 | [d,x]=>decide (x.kind=kd)&&za1 d code nm
 | _=>false)
theorem zop {code:Nat}{nm:ByteArray}{kd:Nat}{v:V}(h:v.kind≠25):isB code nm kd v=false:=by unfold isB;rw[decide_eq_false h];rfl
def B4 (w:World)(g:Nat)(x0 x1 x2 x3:Value):Prop:=w.heap[g]? = some (.cells #[x0,x1,x2,x3] 49 (0,0))
section
variable {w w':World} {g:Nat} {x0 x1 x2 x3:Value}
theorem B4.lt (h:B4 w g x0 x1 x2 x3):g < w.heap.size:=(Array.getElem?_eq_some_iff.1 h).1
theorem B4.new (w:World)(x0 x1 x2 x3:Value):B4 (w.alloc (.cells #[x0,x1,x2,x3] 49)) w.heap.size x0 x1 x2 x3:=heap_alloc_new w _
theorem B4.call (h:B4 w g x0 x1 x2 x3)(hb:Below w.heap.size w w'):B4 w' g x0 x1 x2 x3:=(hb.block g h.lt).trans h
theorem B4.all (h:B4 w g x0 x1 x2 x3):w.cell? ⟨g,0,none⟩=some x0∧w.cell? ⟨g,1,none⟩=some x1∧w.cell? ⟨g,2,none⟩=some x2∧w.cell? ⟨g,3,none⟩=some x3∧∀ j,w.frozen? ⟨g,j,none⟩=false:=by
 refine⟨cell_of_row w g 0 _ _ _ h,cell_of_row w g 1 _ _ _ h,cell_of_row w g 2 _ _ _ h,cell_of_row w g 3 _ _ _ h,fun j=>?_⟩;unfold B4 at h;simp[World.frozen?,h]
end
structure IK (w1 wx:World) (g5 g2 k1 n1:Nat) (t1:ByteArray) (A1:Oz) (l1 c1 code:Nat) (nm:ByteArray) (kd:Nat) (F:Value):Prop where
 b5:Box wx g5 (.int .u8 (k1:Int)) (.int .u64 (n1:Int)) (.string t1) (.slice A1 l1 c1)
 b2:B4 wx g2 (.int .u64 (code:Int)) (.string nm) (.int .u8 (kd:Int)) F
 low:Below w1.heap.size w1 wx
section
variable {w1 wx w2:World} {g5 g2 k1 n1:Nat} {t1:ByteArray} {A1:Oz} {l1 c1 code:Nat} {nm:ByteArray} {kd:Nat} {F:Value}
theorem IK.call (h:IK w1 wx g5 g2 k1 n1 t1 A1 l1 c1 code nm kd F)(hb:Below wx.heap.size wx w2):IK w1 w2 g5 g2 k1 n1 t1 A1 l1 c1 code nm kd F:=⟨h.b5.call hb,h.b2.call hb,zad h.low hb⟩
theorem IK.cells (h:IK w1 wx g5 g2 k1 n1 t1 A1 l1 c1 code nm kd F):wx.cell? ⟨g5,0,none⟩=some (.int .u8 (k1:Int))∧wx.cell? ⟨g5,1,none⟩=some (.int .u64 (n1:Int))∧wx.cell? ⟨g5,2,none⟩=some (.string t1)∧wx.cell? ⟨g5,3,none⟩=some (.slice A1 l1 c1)∧wx.cell? ⟨g2,0,none⟩=some (.int .u64 (code:Int))∧wx.cell? ⟨g2,1,none⟩=some (.string nm):=by
 obtain⟨a0,a1,a2,a3,_⟩:=h.b5.all;obtain⟨b0,b1,_⟩:=h.b2.all;exact⟨a0,a1,a2,a3,b0,b1⟩
end
theorem zup (code:Nat)(nm:ByteArray)(kd:Nat)(F:Value)(k n:Nat)(t:ByteArray)(ks:List V)(A:Oz)(l c:Nat)(w:World)(hk:k≠25) :
  Calls prog 16 #[.agg #[.int .u64 (code:Int),.string nm,.int .u8 (kd:Int),F],.agg #[.int .u8 (k:Int),.int .u64 (n:Int),.string t,.slice A l c]] w (zaj (isB code nm kd (.mk k n t ks)) w):=by
 have hB:Below w.heap.size w ((w.alloc (.cells #[.int .u64 (code:Int),.string nm,.int .u8 (kd:Int),F] 49)).alloc (.cells #[.int .u8 (k:Int),.int .u64 (n:Int),.string t,.slice A l c] 43)):=zaw w _ _;have h3:=Box.new2 w (.cells #[.int .u64 (code:Int),.string nm,.int .u8 (kd:Int),F] 49) (.int .u8 (k:Int)) (.int .u64 (n:Int)) (.string t) (.slice A l c);obtain⟨W,hW⟩:∃ W,(w.alloc (.cells #[.int .u64 (code:Int),.string nm,.int .u8 (kd:Int),F] 49)).alloc (.cells #[.int .u8 (k:Int),.int .u64 (n:Int),.string t,.slice A l c] 43)=W:=⟨_,rfl⟩;rw[hW] at hB h3;obtain⟨d0,d1,d2,d3,df⟩:=h3.all;have HB:=zaa hB;have HR:Hid (isB code nm kd (.mk k n t ks)=false):=zaa (zop hk);have hd:((k:Int)==25)=false:=by rw[zac];omega
 have xB:((k:Int) != 25)=true:=by rw[bne,hd];rfl
 clear hB h3 hk;go_enter func16,ntmps16;go_wp2_with fail
 try rw[hW]
 go_quiet (fail);go_wp2;go_ret;exact⟨by rw[HR.out];rfl,below_drewN HB.out _⟩
theorem zvg (code:Nat)(nm:ByteArray)(kd:Nat)(F:Value)(n:Nat)(t:ByteArray)(ks:List V)(d x:V)(A:Oz)(l c:Nat)(w:World)(hN:zai ks≤268435456)(hK:Kd w ks A l c)(gQ:ks=[d,x]) :
  Calls prog 16 #[.agg #[.int .u64 (code:Int),.string nm,.int .u8 (kd:Int),F],.agg #[.int .u8 25,.int .u64 (n:Int),.string t,.slice A l c]] w (zaj (isB code nm kd (.mk 25 n t ks)) w):=by
 have hB:Below w.heap.size w ((w.alloc (.cells #[.int .u64 (code:Int),.string nm,.int .u8 (kd:Int),F] 49)).alloc (.cells #[.int .u8 25,.int .u64 (n:Int),.string t,.slice A l c] 43)):=zaw w _ _;obtain⟨b,o,k1,n1,t1,ks1,A1,l1,c1,k2,n2,t2,ks2,A2,l2,c2,rfl,KP,rfl,rfl,rfl,p0,p1,p2,p3,q0,q1,q2,q3,gF,Gm,kK,gR,Kk,kE⟩:=zeF (hK.call hB) gQ;have h2:B4 ((w.alloc (.cells #[.int .u64 (code:Int),.string nm,.int .u8 (kd:Int),F] 49)).alloc (.cells #[.int .u8 25,.int .u64 (n:Int),.string t,.slice (some ⟨b,o,none⟩) 2 c] 43)) w.heap.size (.int .u64 (code:Int)) (.string nm) (.int .u8 (kd:Int)) F:=(B4.new w _ _ _ _).call ((za _ _));have h3:=Box.new2 w (.cells #[.int .u64 (code:Int),.string nm,.int .u8 (kd:Int),F] 49) (.int .u8 25) (.int .u64 (n:Int)) (.string t) (.slice (some ⟨b,o,none⟩) 2 c);obtain⟨W,hW⟩:∃ W,(w.alloc (.cells #[.int .u64 (code:Int),.string nm,.int .u8 (kd:Int),F] 49)).alloc (.cells #[.int .u8 25,.int .u64 (n:Int),.string t,.slice (some ⟨b,o,none⟩) 2 c] 43)=W:=⟨_,rfl⟩;rw[hW] at hB h2 h3 p0 p1 p2 p3 q0 KP kK;obtain⟨b0,b1,b2,b3,bf⟩:=h2.all;obtain⟨d0,d1,d2,d3,df⟩:=h3.all;have HB:=zaa hB;have H2:=zaa h2;have H3:=zaa h3;have KH:Hid (zai ks1≤1073741824):=zaa (by rw[gQ] at hN;simp only[zai,bulk] at hN;omega);have HR:Hid (isB code nm kd (.mk 25 n t ks)=(decide (k2=kd)&&za1 (.mk k1 n1 t1 ks1) code nm)):=zaa (by rw[gQ];rfl);have jP:=zaa kK;clear hB h2 h3 hK hN gQ kE kK q1 q2 q3;by_cases he:k2=kd
 case neg=>
  have hd:((k2:Int)==(kd:Int))=false:=by rw[zac];omega
  have xB:((k2:Int) != (kd:Int))=true:=by rw[bne,hd];rfl
  rw[decide_eq_false he,Bool.false_and] at HR;clear he p0 p1 p2 p3;go_enter func16,ntmps16;go_wp2_with fail
  try rw[hW]
  go_quiet (fail);go_wp2;go_ret;exact⟨by rw[HR.out];rfl,below_drewN HB.out _⟩
 case pos=>
  have hd:((k2:Int)==(kd:Int))=true:=by rw[he];simp
  have xB:((k2:Int) != (kd:Int))=false:=by rw[bne,hd];rfl
  rw[decide_eq_true he,Bool.true_and] at HR;clear he;go_enter func16,ntmps16;go_wp2_with fail
  try rw[hW]
  go_quiet (fail);generalize Qd:W.drewN _=w1;have He:Below W.heap.size W w1:=Qd▸below_drewN (Below.refl _ _) _;have e0:=(He.cell (p:=⟨b,o,none⟩) KP).trans p0;have e1:=(He.cell (p:=⟨b,o+1,none⟩) KP).trans p1;have e2:=(He.cell (p:=⟨b,o+2,none⟩) KP).trans p2;have e3:=(He.cell (p:=⟨b,o+3,none⟩) KP).trans p3;have H21:=zaa (H2.out.call He);have H31:=zaa (H3.out.call He);have Hl:=zaa (zad HB.out He);have jr:=zaa (jP.out.call He);obtain⟨f0,f1,f2,f3,ff⟩:=H31.out.all;clear He Qd p0 p1 p2 p3 q0 b0 b1 b2 b3 bf d0 d1 d2 d3 df HB H2 H3 jP hW KP;go_upto_region 4 with fail
  have HS:Hid (IK w1 (w1.alloc (.cells #[.int .u8 (k1:Int),.int .u64 (n1:Int),.string t1,.slice A1 l1 c1] 43)) w1.heap.size w.heap.size k1 n1 t1 A1 l1 c1 code nm kd F):=zaa ⟨Box.new _ _ _ _ _,H21.out.call ((za _ _)),(za _ _)⟩;cases gu:V.same (.mk k1 n1 t1 ks1) (.mk 6 code ⟨#[]⟩ []) with
  | true=>
   have JK:=zaa gu;have HC:Hid (isB code nm kd (.mk 25 n t ks)=true):=zaa (by rw[HR.out];unfold za1;rw[gu];rfl);clear gu HR;go_upto_region 4 with fail
   refine wp_region_held_drew (S:=fun wx=>IK w1 wx w1.heap.size w.heap.size k1 n1 t1 A1 l1 c1 code nm kd F) (by kernel_rfl) (by exact HS.out.call (Below.refl _ _).drew) (fun hHeld=>?_)
   (refine T4K 0 ⟨some 23,_,_,_,_,_⟩ ?_ rfl (by kernel_rfl) (fun _ _ _ h=>h) ?_ (by assumption) ?_;rotate_left 1;(· intro wx Hc;(try dsimp only at Hc);obtain⟨p0,p1,p2,p3,q0,q1⟩:=IK.cells Hc;go_simp;(try with_reducible rfl)))
   try simp only[Act.put,sA,sB,sC]
   (refine T4K 1 ⟨some 24,_,_,_,_,_⟩ ?_ rfl (by kernel_rfl) (fun _ _ _ h=>h) ?_ (by assumption) ?_;rotate_left 1;(· intro wx Hc;(try dsimp only at Hc);obtain⟨p0,p1,p2,p3,q0,q1⟩:=IK.cells Hc;go_simp;(try with_reducible rfl)))
   try simp only[Act.put,sA,sB,sC]
   (refine T4K 2 ⟨some 25,_,_,_,_,_⟩ ?_ rfl (by kernel_rfl) (fun _ _ _ h=>h) ?_ (by assumption) ?_;rotate_left 1;(· intro wx Hc;(try dsimp only at Hc);obtain⟨p0,p1,p2,p3,q0,q1⟩:=IK.cells Hc;go_simp;(try with_reducible rfl)))
   try simp only[Act.put,sA,sB,sC]
   (refine wpAnyH_ready (rs:=[3]) (by kernel_rfl) (by simp) ?_;refine AllReadyH.cons (o:=⟨some 26,_,_,_,_,_⟩) rfl (fun K hK=>?_) AllReadyH.nil;go_simp;(go_at_call 34;(with_reducible refine(zd5 code _).mono ?_);rintro e w2 ⟨rfl,He⟩);go_wp2_with fail;refine hK.out _ _ ?_ (fun hHeld=>?_);(· exact IK.call (by with_reducible assumption) (by with_reducible assumption));clear hK K)
   try simp only[Act.put,sA,sB,sC]
   (refine wpAnyH_ready (rs:=[4]) (by kernel_rfl) (by simp) ?_;refine AllReadyH.cons (o:=⟨some 27,_,_,_,_,_⟩) rfl (fun K hK=>?_) AllReadyH.nil;go_simp;(go_at_call 33;(with_reducible refine(zcr k1 n1 t1 ks1 A1 l1 c1 code _ KH.out (Kd.call jr.out (IK.low (by with_reducible assumption))) true JK.out).mono ?_);rintro e w3 ⟨rfl,Hj⟩);go_wp2_with fail;refine hK.out _ _ ?_ (fun hHeld=>?_);(· exact IK.call (by with_reducible assumption) (by with_reducible assumption));clear hK K)
   try simp only[Act.put,sA,sB,sC]
   (refine T4K 5 ⟨some 28,_,_,_,_,_⟩ ?_ rfl (by kernel_rfl) (fun _ _ _ h=>h) ?_ (by assumption) ?_;rotate_left 1;(· intro wx Hc;(try dsimp only at Hc);obtain⟨p0,p1,p2,p3,q0,q1⟩:=IK.cells Hc;go_simp;(try with_reducible rfl)))
   try simp only[Act.put,sA,sB,sC]
   (refine S4K 6 ⟨some 29,_,_,_,_,_⟩ rfl (by kernel_rfl) (fun _ _ _ h=>h) (by assumption) ?_)
   try simp only[Act.put,sA,sB,sC]
   (refine S4K 7 ⟨some 30,_,_,_,_,_⟩ rfl (by kernel_rfl) (fun _ _ _ h=>h) (by assumption) ?_)
   try simp only[Act.put,sA,sB,sC]
   (refine S4K 8 ⟨some 31,_,_,_,_,_⟩ rfl (by kernel_rfl) (fun _ _ _ h=>h) (by assumption) ?_)
   try simp only[Act.put,sA,sB,sC]
   (refine S4K 9 ⟨some 32,_,_,_,_,_⟩ rfl (by kernel_rfl) (fun _ _ _ h=>h) (by assumption) ?_)
   try simp only[Act.put,sA,sB,sC]
   (refine S4K 10 ⟨some 33,_,_,_,_,_⟩ rfl (by kernel_rfl) (fun _ _ _ h=>h) (by assumption) ?_)
   try simp only[Act.put,sA,sB,sC]
   (refine T4K 11 ⟨some 34,_,_,_,_,_⟩ ?_ rfl (by kernel_rfl) (fun _ _ _ h=>h) ?_ (by assumption) ?_;rotate_left 1;(· intro wx Hc;(try dsimp only at Hc);obtain⟨p0,p1,p2,p3,q0,q1⟩:=IK.cells Hc;go_simp;(try with_reducible rfl)))
   try simp only[Act.put,sA,sB,sC]
   (refine T4K 12 ⟨some 4,_,_,_,_,_⟩ ?_ rfl (by kernel_rfl) (fun _ _ _ h=>h) ?_ (by assumption) ?_;rotate_left 1;(· intro wx Hc;(try dsimp only at Hc);obtain⟨p0,p1,p2,p3,q0,q1⟩:=IK.cells Hc;go_simp;(try with_reducible rfl)))
   try simp only[Act.put,sA,sB,sC]
   refine wpAnyH_done (by kernel_rfl) ?_ _;go_wp2;go_ret;exact⟨by rw[HC.out];rfl,Hl.out.trans (hHeld.low.mono Hl.out.size)⟩
  | false=>
   have JK:=zaa gu;obtain⟨q,hq⟩:∃ q,V.same (.mk k1 n1 t1 ks1) (.mk 21 0 nm [])=q:=⟨_,rfl⟩;have Qo:=zaa hq;have HC:Hid (isB code nm kd (.mk 25 n t ks)=q):=zaa (by rw[HR.out];unfold za1;rw[gu,hq];rfl);clear gu HR hq;go_upto_region 4 with fail
   refine wp_region_held_drew (S:=fun wx=>IK w1 wx w1.heap.size w.heap.size k1 n1 t1 A1 l1 c1 code nm kd F) (by kernel_rfl) (by exact HS.out.call (Below.refl _ _).drew) (fun hHeld=>?_)
   (refine T4K 0 ⟨some 23,_,_,_,_,_⟩ ?_ rfl (by kernel_rfl) (fun _ _ _ h=>h) ?_ (by assumption) ?_;rotate_left 1;(· intro wx Hc;(try dsimp only at Hc);obtain⟨p0,p1,p2,p3,q0,q1⟩:=IK.cells Hc;go_simp;(try with_reducible rfl)))
   try simp only[Act.put,sA,sB,sC]
   (refine T4K 1 ⟨some 24,_,_,_,_,_⟩ ?_ rfl (by kernel_rfl) (fun _ _ _ h=>h) ?_ (by assumption) ?_;rotate_left 1;(· intro wx Hc;(try dsimp only at Hc);obtain⟨p0,p1,p2,p3,q0,q1⟩:=IK.cells Hc;go_simp;(try with_reducible rfl)))
   try simp only[Act.put,sA,sB,sC]
   (refine T4K 2 ⟨some 25,_,_,_,_,_⟩ ?_ rfl (by kernel_rfl) (fun _ _ _ h=>h) ?_ (by assumption) ?_;rotate_left 1;(· intro wx Hc;(try dsimp only at Hc);obtain⟨p0,p1,p2,p3,q0,q1⟩:=IK.cells Hc;go_simp;(try with_reducible rfl)))
   try simp only[Act.put,sA,sB,sC]
   (refine wpAnyH_ready (rs:=[3]) (by kernel_rfl) (by simp) ?_;refine AllReadyH.cons (o:=⟨some 26,_,_,_,_,_⟩) rfl (fun K hK=>?_) AllReadyH.nil;go_simp;(go_at_call 34;(with_reducible refine(zd5 code _).mono ?_);rintro e w2 ⟨rfl,He⟩);go_wp2_with fail;refine hK.out _ _ ?_ (fun hHeld=>?_);(· exact IK.call (by with_reducible assumption) (by with_reducible assumption));clear hK K)
   try simp only[Act.put,sA,sB,sC]
   (refine wpAnyH_ready (rs:=[4]) (by kernel_rfl) (by simp) ?_;refine AllReadyH.cons (o:=⟨some 27,_,_,_,_,_⟩) rfl (fun K hK=>?_) AllReadyH.nil;go_simp;(go_at_call 33;(with_reducible refine(zcr k1 n1 t1 ks1 A1 l1 c1 code _ KH.out (Kd.call jr.out (IK.low (by with_reducible assumption))) false JK.out).mono ?_);rintro e w3 ⟨rfl,Hj⟩);go_wp2_with fail;refine hK.out _ _ ?_ (fun hHeld=>?_);(· exact IK.call (by with_reducible assumption) (by with_reducible assumption));clear hK K)
   try simp only[Act.put,sA,sB,sC]
   (refine T4K 5 ⟨some 28,_,_,_,_,_⟩ ?_ rfl (by kernel_rfl) (fun _ _ _ h=>h) ?_ (by assumption) ?_;rotate_left 1;(· intro wx Hc;(try dsimp only at Hc);obtain⟨p0,p1,p2,p3,q0,q1⟩:=IK.cells Hc;go_simp;(try with_reducible rfl)))
   try simp only[Act.put,sA,sB,sC]
   (refine T4K 6 ⟨some 29,_,_,_,_,_⟩ ?_ rfl (by kernel_rfl) (fun _ _ _ h=>h) ?_ (by assumption) ?_;rotate_left 1;(· intro wx Hc;(try dsimp only at Hc);obtain⟨p0,p1,p2,p3,q0,q1⟩:=IK.cells Hc;go_simp;(try with_reducible rfl)))
   try simp only[Act.put,sA,sB,sC]
   (refine T4K 7 ⟨some 30,_,_,_,_,_⟩ ?_ rfl (by kernel_rfl) (fun _ _ _ h=>h) ?_ (by assumption) ?_;rotate_left 1;(· intro wx Hc;(try dsimp only at Hc);obtain⟨p0,p1,p2,p3,q0,q1⟩:=IK.cells Hc;go_simp;(try with_reducible rfl)))
   try simp only[Act.put,sA,sB,sC]
   (refine T4K 8 ⟨some 31,_,_,_,_,_⟩ ?_ rfl (by kernel_rfl) (fun _ _ _ h=>h) ?_ (by assumption) ?_;rotate_left 1;(· intro wx Hc;(try dsimp only at Hc);obtain⟨p0,p1,p2,p3,q0,q1⟩:=IK.cells Hc;go_simp;(try with_reducible rfl)))
   try simp only[Act.put,sA,sB,sC]
   (refine wpAnyH_ready (rs:=[9]) (by kernel_rfl) (by simp) ?_;refine AllReadyH.cons (o:=⟨some 32,_,_,_,_,_⟩) rfl (fun K hK=>?_) AllReadyH.nil;go_simp;(go_at_call 35;(with_reducible refine(zfE nm _).mono ?_);rintro e w4 ⟨rfl,gl⟩);go_wp2_with fail;refine hK.out _ _ ?_ (fun hHeld=>?_);(· exact IK.call (by with_reducible assumption) (by with_reducible assumption));clear hK K)
   try simp only[Act.put,sA,sB,sC]
   (refine wpAnyH_ready (rs:=[10]) (by kernel_rfl) (by simp) ?_;refine AllReadyH.cons (o:=⟨some 33,_,_,_,_,_⟩) rfl (fun K hK=>?_) AllReadyH.nil;go_simp;(go_at_call 33;(with_reducible refine(zeH k1 n1 t1 ks1 A1 l1 c1 nm _ KH.out (Kd.call jr.out (IK.low (by with_reducible assumption))) q Qo.out).mono ?_);rintro e w5 ⟨rfl,gp⟩);go_wp2_with fail;refine hK.out _ _ ?_ (fun hHeld=>?_);(· exact IK.call (by with_reducible assumption) (by with_reducible assumption));clear hK K)
   try simp only[Act.put,sA,sB,sC]
   (refine T4K 11 ⟨some 34,_,_,_,_,_⟩ ?_ rfl (by kernel_rfl) (fun _ _ _ h=>h) ?_ (by assumption) ?_;rotate_left 1;(· intro wx Hc;(try dsimp only at Hc);obtain⟨p0,p1,p2,p3,q0,q1⟩:=IK.cells Hc;go_simp;(try with_reducible rfl)))
   try simp only[Act.put,sA,sB,sC]
   (refine T4K 12 ⟨some 4,_,_,_,_,_⟩ ?_ rfl (by kernel_rfl) (fun _ _ _ h=>h) ?_ (by assumption) ?_;rotate_left 1;(· intro wx Hc;(try dsimp only at Hc);obtain⟨p0,p1,p2,p3,q0,q1⟩:=IK.cells Hc;go_simp;(try with_reducible rfl)))
   try simp only[Act.put,sA,sB,sC]
   refine wpAnyH_done (by kernel_rfl) ?_ _;go_wp2;go_ret;exact⟨by rw[HC.out];rfl,Hl.out.trans (hHeld.low.mono Hl.out.size)⟩
theorem zuq (code:Nat)(nm:ByteArray)(kd:Nat)(F:Value)(k n:Nat)(t:ByteArray)(ks:List V)(A:Oz)(l c:Nat)(w:World)(hN:zai ks≤268435456)(hK:Kd w ks A l c)(kH:k=25→∃ d x,ks=[d,x]) :
  Calls prog 16 #[.agg #[.int .u64 (code:Int),.string nm,.int .u8 (kd:Int),F],.agg #[.int .u8 (k:Int),.int .u64 (n:Int),.string t,.slice A l c]] w (zaj (isB code nm kd (.mk k n t ks)) w):=by
 by_cases hk:k=25
 ·subst hk;obtain⟨d,x,gQ⟩:=kH rfl;exact zvg code nm kd F n t ks d x A l c w hN hK gQ
 ·exact zup code nm kd F k n t ks A l c w hk
theorem zqR (code:Nat)(nm:ByteArray)(kd:Nat)(F:Value)(k n:Nat)(t:ByteArray)(ks:List V)(A:Oz)(l c vb:Nat)(w:World)(hN:zai ks≤268435456)(hK:Kd w ks A l c)(kH:k=25→∃ d x,ks=[d,x])(hv:Box w vb (.int .u8 (k:Int)) (.int .u64 (n:Int)) (.string t) (.slice A l c)) :
  Calls prog 15 #[.agg #[.int .u64 (code:Int),.string nm,.int .u8 (kd:Int),F],.pointer (some ⟨vb,0,none⟩)] w (zaj (isB code nm kd (.mk k n t ks)) w):=by
 have Hg:Below w.heap.size w (w.alloc (.cells #[.int .u64 (code:Int),.string nm,.int .u8 (kd:Int),F] 49)):=(za _ _);obtain⟨b0,b1,b2,b3,bf⟩:=(B4.new w (.int .u64 (code:Int)) (.string nm) (.int .u8 (kd:Int)) F).all;obtain⟨d0,d1,d2,d3,df⟩:=(hv.call Hg).all;have HI:=zaa (zuq code nm kd F k n t ks A l c _ hN (hK.call Hg) kH);have HB:=zaa Hg;obtain⟨p,hp⟩:∃ p,isB code nm kd (.mk k n t ks)=p:=⟨_,rfl⟩;rw[hp] at HI ⊢;clear Hg hN hK kH hv hp;go_enter func15,ntmps15;go_wp2_with (go_at_call 16;(with_reducible refine HI.out.mono ?_);rintro e w1 ⟨rfl,Ha⟩);go_ret;exact⟨rfl,zad HB.out Ha⟩
def sidx (q:Nat):Nat:=if q < 6 then q else 8
def skind (q:Nat):Nat:=if q=0∨q=3 then 22 else if q=5 then 19 else 23
def sfn (q:Nat):Nat:=if q=0 then 26 else if q=3 then 28 else if q=5 then 29 else 27
def isS (q:Nat)(v:V):Bool:=isB (112+sidx q) (mname (sidx q)) (skind q) v
def zqS (w:World)(g p q:Nat):Prop:=w.cell? ⟨g,p,none⟩=some (.int .u64 ((112+sidx q:Nat):Int))∧w.cell? ⟨g,p+1,none⟩=some (.string (mname (sidx q)))∧w.cell? ⟨g,p+2,none⟩=some (.int .u8 ((skind q:Nat):Int))∧w.cell? ⟨g,p+3,none⟩=some (.func (.func (sfn q)) #[] #[])
def Sv (w:World)(g:Nat):Prop:=g < w.heap.size∧∀ q,q < 7→zqS w g (q * 4) q
theorem zqS.keep {w w':World}{g p q:Nat}(h:zqS w g p q)(hk:w'.heap[g]? = w.heap[g]?):zqS w' g p q:=
 ⟨(World.cell?_of_block (a:=⟨g,p,none⟩) hk).trans h.1,(World.cell?_of_block (a:=⟨g,p+1,none⟩) hk).trans h.2.1,(World.cell?_of_block (a:=⟨g,p+2,none⟩) hk).trans h.2.2.1,(World.cell?_of_block (a:=⟨g,p+3,none⟩) hk).trans h.2.2.2⟩
theorem Sv.keep {w w':World}{g:Nat}(h:Sv w g)(hs:w.heap.size≤w'.heap.size)(hk:w'.heap[g]? = w.heap[g]?):Sv w' g:=⟨Nat.lt_of_lt_of_le h.1 hs,fun q hq=>(h.2 q hq).keep hk⟩
theorem Sv.call {w w':World}{g:Nat}(h:Sv w g)(hb:Below w.heap.size w w'):Sv w' g:=h.keep hb.size (hb.block g h.1)
structure May (w:World) (g:Nat) (A:Oz) (n c k:Nat):Prop where
 sv:Sv w g
 sum:k+n=7
 cap:n≤c
 at_:0 < n→A=some ⟨g,k * 4,none⟩
theorem May.call {w w':World}{g:Nat}{A:Oz}{n c k:Nat}(h:May w g A n c k)(hb:Below w.heap.size w w'):May w' g A n c k:=⟨h.sv.call hb,h.sum,h.cap,h.at_⟩
def zs8 (v:V)(k n:Nat)(w:World)(e:Ending)(w':World):Prop:=
 ((∃ j:Nat,j < n∧isS (k+j) v=true∧(∀ i,i < j→isS (k+i) v=false)∧e=.returned (.int .i64 (j:Int)))∨((∀ i,i < n→isS (k+i) v=false)∧e=.returned (.int .i64 (-1))))∧Below w.heap.size w w'
theorem zs9 (vk vn:Nat)(vt:ByteArray)(vks:List V)(vA:Oz)(vl vc vb g:Nat)(A:Oz)(n c k:Nat)(w:World)(hN:zai vks≤268435456)(hK:Kd w vks vA vl vc)(kH:vk=25→∃ d x,vks=[d,x])(hv:Box w vb (.int .u8 (vk:Int)) (.int .u64 (vn:Int)) (.string vt) (.slice vA vl vc))(hM:May w g A n c k) :
  Calls prog 14 #[.slice A n c,.func (.func 15) #[] #[.pointer (some ⟨vb,0,none⟩)]] w (zs8 (.mk vk vn vt vks) k n w):=by
 have HC:=zaa (fun(wx:World) (hb:Below w.heap.size w wx) (q:Nat) (F:Value)=>zqR (112+sidx q) (mname (sidx q)) (skind q) F vk vn vt vks vA vl vc vb wx hN (hK.call hb) kH (hv.call hb));have HM:=zaa hM;have hn7:n≤7:=by have:=hM.sum;omega
 have kz:=hM.cap;clear hN hK kH hv hM;go_enter func14,ntmps14;go_wp2;go_loopw [8] (fun s wr=>∃ j:Nat,j≤n∧s=.int .i64 (j:Nat)∧(∀ i,i < j→isS (k+i) (.mk vk vn vt vks)=false)∧Below w.heap.size w wr) (fun s _=>n - (intOf s).toNat)
 case atStart=>exact⟨0,by omega,rfl,fun i h=>by omega,Below.refl _ _⟩
 case round=>
  obtain⟨j,hj,rfl,GN,hB⟩:=hrel;have Gd:=zaa GN;have HB:=zaa hB;clear GN hB;by_cases Hi:j < n
  ·obtain rfl:=HM.out.at_ (by omega);have hsv:=(HM.out.sv.call HB.out).2 (k+j) (by have:=HM.out.sum;omega);obtain⟨c0,c1,c2,c3⟩:=hsv;have hp:(k+j) * 4=k * 4+j * 4:=by omega
   rw[hp] at c0 c1 c2 c3;have HA:=zaa (HC.out wr HB.out (k+j) (.func (.func (sfn (k+j))) #[] #[]));obtain⟨p,Yb⟩:∃ p,isS (k+j) (.mk vk vn vt vks)=p:=⟨_,rfl⟩;have u7:isB (112+sidx (k+j)) (mname (sidx (k+j))) (skind (k+j)) (.mk vk vn vt vks)=p:=Yb;rw[u7] at HA;obtain⟨cd,km⟩:∃ x,112+sidx (k+j)=x:=⟨_,rfl⟩;obtain⟨nm,Vh⟩:∃ x,mname (sidx (k+j))=x:=⟨_,rfl⟩;obtain⟨kd,Kf⟩:∃ x,skind (k+j)=x:=⟨_,rfl⟩;obtain⟨fn,qo⟩:∃ x,sfn (k+j)=x:=⟨_,rfl⟩;rw[km,Vh,Kf,qo] at HA;rw[km] at c0;rw[Vh] at c1;rw[Kf] at c2;rw[qo] at c3;have YR:=zaa Yb;have jf:=zaa Hi;have Kz:=(HM.out.sv.call HB.out).1;clear hp km Vh Kf qo Yb u7;cases p with
   | true=>
    go_wp2_with (go_at_call 15;(with_reducible refine HA.out.mono ?_);rintro e w1 ⟨rfl,Ha⟩);go_ret;exact⟨.inl ⟨j,jf.out,YR.out,Gd.out,rfl⟩,zad HB.out Ha⟩
   | false=>
    go_wp2_with (go_at_call 15;(with_reducible refine HA.out.mono ?_);rintro e w1 ⟨rfl,Ha⟩);go_roundw
    case rel=>exact⟨j+1,jf.out,by go_num,fun i hi=>by (by_cases h:i=j);(· subst h;exact YR.out);(· exact Gd.out i (by omega)),zad HB.out Ha⟩
    case measure=>(have:=jf.out;simp[intOf];omega)
  ·obtain rfl:j=n:=by omega
   clear Hi;go_wp2;go_ret;exact⟨.inr ⟨Gd.out,rfl⟩,HB.out⟩
theorem zur (w:World):Sv (w.alloc (.cells #[.int .u64 112,.string ⟨#[97,109,113,112,58,104,101,97,100,101,114,58,108,105,115,116]⟩,.int .u8 22,.func (.func 26) #[] #[],.int .u64 113,.string ⟨#[97,109,113,112,58,100,101,108,105,118,101,114,121,45,97,110,110,111,116,97,116,105,111,110,115,58,109,97,112]⟩,.int .u8 23,.func (.func 27) #[] #[],.int .u64 114,.string ⟨#[97,109,113,112,58,109,101,115,115,97,103,101,45,97,110,110,111,116,97,116,105,111,110,115,58,109,97,112]⟩,.int .u8 23,.func (.func 27) #[] #[],.int .u64 115,.string ⟨#[97,109,113,112,58,112,114,111,112,101,114,116,105,101,115,58,108,105,115,116]⟩,.int .u8 22,.func (.func 28) #[] #[],.int .u64 116,.string ⟨#[97,109,113,112,58,97,112,112,108,105,99,97,116,105,111,110,45,112,114,111,112,101,114,116,105,101,115,58,109,97,112]⟩,.int .u8 23,.func (.func 27) #[] #[],.int .u64 117,.string ⟨#[97,109,113,112,58,100,97,116,97,58,98,105,110,97,114,121]⟩,.int .u8 19,.func (.func 29) #[] #[],.int .u64 120,.string ⟨#[97,109,113,112,58,102,111,111,116,101,114,58,109,97,112]⟩,.int .u8 23,.func (.func 27) #[] #[]] 49)) w.heap.size:=by
 have hc:∀ j,(w.alloc (.cells #[.int .u64 112,.string ⟨#[97,109,113,112,58,104,101,97,100,101,114,58,108,105,115,116]⟩,.int .u8 22,.func (.func 26) #[] #[],.int .u64 113,.string ⟨#[97,109,113,112,58,100,101,108,105,118,101,114,121,45,97,110,110,111,116,97,116,105,111,110,115,58,109,97,112]⟩,.int .u8 23,.func (.func 27) #[] #[],.int .u64 114,.string ⟨#[97,109,113,112,58,109,101,115,115,97,103,101,45,97,110,110,111,116,97,116,105,111,110,115,58,109,97,112]⟩,.int .u8 23,.func (.func 27) #[] #[],.int .u64 115,.string ⟨#[97,109,113,112,58,112,114,111,112,101,114,116,105,101,115,58,108,105,115,116]⟩,.int .u8 22,.func (.func 28) #[] #[],.int .u64 116,.string ⟨#[97,109,113,112,58,97,112,112,108,105,99,97,116,105,111,110,45,112,114,111,112,101,114,116,105,101,115,58,109,97,112]⟩,.int .u8 23,.func (.func 27) #[] #[],.int .u64 117,.string ⟨#[97,109,113,112,58,100,97,116,97,58,98,105,110,97,114,121]⟩,.int .u8 19,.func (.func 29) #[] #[],.int .u64 120,.string ⟨#[97,109,113,112,58,102,111,111,116,101,114,58,109,97,112]⟩,.int .u8 23,.func (.func 27) #[] #[]] 49)).cell? ⟨w.heap.size,j,none⟩=#[.int .u64 112,.string ⟨#[97,109,113,112,58,104,101,97,100,101,114,58,108,105,115,116]⟩,.int .u8 22,.func (.func 26) #[] #[],.int .u64 113,.string ⟨#[97,109,113,112,58,100,101,108,105,118,101,114,121,45,97,110,110,111,116,97,116,105,111,110,115,58,109,97,112]⟩,.int .u8 23,.func (.func 27) #[] #[],.int .u64 114,.string ⟨#[97,109,113,112,58,109,101,115,115,97,103,101,45,97,110,110,111,116,97,116,105,111,110,115,58,109,97,112]⟩,.int .u8 23,.func (.func 27) #[] #[],.int .u64 115,.string ⟨#[97,109,113,112,58,112,114,111,112,101,114,116,105,101,115,58,108,105,115,116]⟩,.int .u8 22,.func (.func 28) #[] #[],.int .u64 116,.string ⟨#[97,109,113,112,58,97,112,112,108,105,99,97,116,105,111,110,45,112,114,111,112,101,114,116,105,101,115,58,109,97,112]⟩,.int .u8 23,.func (.func 27) #[] #[],.int .u64 117,.string ⟨#[97,109,113,112,58,100,97,116,97,58,98,105,110,97,114,121]⟩,.int .u8 19,.func (.func 29) #[] #[],.int .u64 120,.string ⟨#[97,109,113,112,58,102,111,111,116,101,114,58,109,97,112]⟩,.int .u8 23,.func (.func 27) #[] #[]][j]?:=fun j=>World.cell?_alloc_at _ _ _ _ rfl;refine⟨by simp,fun q hq=>?_⟩;have h:q=0∨q=1∨q=2∨q=3∨q=4∨q=5∨q=6:=by omega
 rcases h with rfl | rfl | rfl | rfl | rfl | rfl | rfl
 ·exact⟨hc 0,hc 1,hc 2,hc 3⟩
 ·exact⟨hc 4,hc 5,hc 6,hc 7⟩
 ·exact⟨hc 8,hc 9,hc 10,hc 11⟩
 ·exact⟨hc 12,hc 13,hc 14,hc 15⟩
 ·exact⟨hc 16,hc 17,hc 18,hc 19⟩
 ·exact⟨hc 20,hc 21,hc 22,hc 23⟩
 ·exact⟨hc 24,hc 25,hc 26,hc 27⟩
theorem zqT (w:World):Calls prog 12 #[] w (fun e w'=>∃ g,e=.returned (.slice (some ⟨g,0,none⟩) 7 7)∧w.heap.size≤g∧May w' g (some ⟨g,0,none⟩) 7 7 0∧Below w.heap.size w w'):=by
 have HV:=zaa (zur w);have Hg:Below w.heap.size w (w.alloc (.cells #[.int .u64 112,.string ⟨#[97,109,113,112,58,104,101,97,100,101,114,58,108,105,115,116]⟩,.int .u8 22,.func (.func 26) #[] #[],.int .u64 113,.string ⟨#[97,109,113,112,58,100,101,108,105,118,101,114,121,45,97,110,110,111,116,97,116,105,111,110,115,58,109,97,112]⟩,.int .u8 23,.func (.func 27) #[] #[],.int .u64 114,.string ⟨#[97,109,113,112,58,109,101,115,115,97,103,101,45,97,110,110,111,116,97,116,105,111,110,115,58,109,97,112]⟩,.int .u8 23,.func (.func 27) #[] #[],.int .u64 115,.string ⟨#[97,109,113,112,58,112,114,111,112,101,114,116,105,101,115,58,108,105,115,116]⟩,.int .u8 22,.func (.func 28) #[] #[],.int .u64 116,.string ⟨#[97,109,113,112,58,97,112,112,108,105,99,97,116,105,111,110,45,112,114,111,112,101,114,116,105,101,115,58,109,97,112]⟩,.int .u8 23,.func (.func 27) #[] #[],.int .u64 117,.string ⟨#[97,109,113,112,58,100,97,116,97,58,98,105,110,97,114,121]⟩,.int .u8 19,.func (.func 29) #[] #[],.int .u64 120,.string ⟨#[97,109,113,112,58,102,111,111,116,101,114,58,109,97,112]⟩,.int .u8 23,.func (.func 27) #[] #[]] 49)):=(za _ _);have HB:=zaa Hg;clear Hg;go_enter func12,ntmps12;go_wp2;go_ret;exact⟨_,rfl,zab,⟨HV.out,by omega,by omega,fun _=>rfl⟩,HB.out⟩
end Me
namespace Me
open Utf Val Fl Oc Dec V
open Enc hiding za3
noncomputable def zfd (q:Nat)(v:V)(m:M):Option M:=if q=0 then zcQ v m else if q=3 then zc3 v m else if q=5 then (match v.kids with
  | [_,x]=>zgs x m
  | _=>none) else some m
theorem zjh {q:Nat}{v:V}{m m':M}(h:m.body.length≤2048)(hr:zfd q v m=some m'):m'.body.length≤2048:=by
 unfold zfd at hr;by_cases h0:q=0
 ·rw[if_pos h0] at hr;unfold zcQ at hr
  split at hr
  ·cases hr
  ·split at hr
   ·cases hr
   ·injection hr with hr;subst hr;exact h
 ·rw[if_neg h0] at hr;by_cases h3:q=3
  ·rw[if_pos h3] at hr;unfold zc3 at hr
   split at hr
   ·cases hr
   ·split at hr
    ·cases hr
    ·injection hr with hr;subst hr;exact h
  ·rw[if_neg h3] at hr;by_cases h5:q=5
   ·rw[if_pos h5] at hr
    split at hr
    ·unfold zgs at hr
     split at hr
     ·rename_i hl;injection hr with hr
      subst hr
      show (m.body++tb _).length≤2048
      rw[ycH];simp only[tb,ycK,Array.length_toList];exact hl
     ·cases hr
    ·cases hr
   ·rw[if_neg h5] at hr;injection hr with hr;subst hr;exact h
def fnd (v:V):Nat→Nat→Option Nat
 | _,0=>none
 | k,n+1=>if isS k v=true then some k else fnd v (k+1) n
theorem zfK {v:V}:∀ {n k:Nat},(∀ i,i < n→isS (k+i) v=false)→fnd v k n=none
 | 0,_,_=>rfl
 | n+1,k,h=>by
  unfold fnd;rw[if_neg (by have:=h 0 (by omega);rw[ycM] at this;rw[this];exact ycJ)];exact zfK fun i hi=>by have:=h (i+1) (by omega);rwa [show k+1+i=k+(i+1) by omega]
theorem zh0 {v:V}:∀ {n k j:Nat},j < n→isS (k+j) v=true→(∀ i,i < j→isS (k+i) v=false)→fnd v k n=some (k+j)
 | 0,_,_,hj,_,_=>by omega
 | n+1,k,0,_,h,_=>by
  unfold fnd;rw[ycM] at h;rw[if_pos h];rfl
 | n+1,k,j+1,hj,h,GN=>by
  unfold fnd;rw[if_neg (by have:=GN 0 (by omega);rw[ycM] at this;rw[this];exact ycJ)];have:=zh0 (v:=v) (n:=n) (k:=k+1) (j:=j) (by omega) (by rwa [show k+1+j=k+(j+1) by omega]) fun i hi=>by have:=GN (i+1) (by omega);rwa [show k+1+i=k+(i+1) by omega]
  rw[this,show k+1+j=k+(j+1) by omega]
noncomputable def zc4 (k:Nat)(m:M)(bd:Bool)(v:V):Option (Nat×M×Bool):=match fnd v k (7 - k) with
 | none=>none
 | some q=>match zfd q v m with
  | none=>none
  | some m'=>some (if q=5 then 5 else q+1,m',bd||q==5)
noncomputable def getQ:Nat→Nat→M→Bool→Lz→Option M
 | _,_,m,bd,[]=>if bd=true then some m else none
 | 0,_,_,_,_::_=>none
 | N+1,k,m,bd,x::b=>if (decD (x::b)).2.2=0 then (match zc4 k m bd (decD (x::b)).1 with
   | none=>none
   | some (k',m',bd')=>getQ N k' m' bd' ((x::b).drop (decD (x::b)).2.1)) else none
theorem zji {d:V}(hm:mayB d=true)(hn:zb0 d.kind=true)(i:Nat):named d i=za1 d (112+i) (mname i):=by
 rw[zgl hm hn];simp only[zb0,ycL,beq_iff_eq] at hn;unfold named;rcases hn with h | h
 ·rw[h,if_pos rfl];simp
 ·rw[h,if_neg (by omega)];simp
theorem zoq:∀ i,i < 9→∀ j,j < 9→mname i=mname j→i=j:=by decide +kernel
theorem zor {d:V}{i j:Nat}(hi:i < 9)(hj:j < 9)(h1:named d i=true)(h2:named d j=true):i=j:=by
 unfold named at h1 h2;simp only[ycL,ycI,decide_eq_true_eq] at h1 h2;rcases h1 with ⟨a,b⟩ | ⟨a,b⟩
 ·rcases h2 with ⟨c,e⟩ | ⟨c,e⟩
  ·omega
  ·omega
 ·rcases h2 with ⟨c,e⟩ | ⟨c,e⟩
  ·omega
  ·exact zoq i hi j hj (b.symm.trans e)
theorem zos {q:Nat}(h:q < 7):sidx q < 9:=by
 unfold sidx;by_cases h6:q < 6
 ·rw[if_pos h6];omega
 ·rw[if_neg h6];omega
theorem zot {n:Nat}{t:ByteArray}{d x:V}(hm:mayB d=true)(hn:zb0 d.kind=true)(q:Nat):isS q (.mk 25 n t [d,x])=(decide (x.kind=skind q)&&named d (sidx q)):=by
 rw[zji hm hn];rfl
def Rk (k last:Nat):Prop:=(k=0∧last=0)∨(1≤k∧k≤5∧last=111+k)∨(k=5∧last=117)∨(k=7∧last=120)
theorem zjj {n:Nat}{t:ByteArray}{d x:V}{code:Nat}{nm:ByteArray}(h:x.kind≠22):newR (.mk 25 n t [d,x]) code nm=none:=by
 unfold newR;by_cases hc:okB (.mk 25 n t [d,x])=true∧(V.mk 25 n t [d,x]).kind=25
 ·rw[if_pos hc];exact if_neg fun e=>h e.2
 ·exact if_neg hc
theorem zjk {n:Nat}{t:ByteArray}{d x:V}:zb8 (.mk 25 n t [d,x])=((List.range 9).find? (named d)).map fun i=>(i,x):=rfl
def posn (i:Nat):Nat:=if i < 6 then i else 6
theorem zus {n:Nat}{t:ByteArray}{d x:V}(hm:mayB d=true)(hn:zb0 d.kind=true){i:Nat}(hi:i < 9)(h:named d i=true){q:Nat}(hq:q < 7)(Hp:sidx q≠i):isS q (.mk 25 n t [d,x])=false:=by
 rw[zot hm hn];cases hx:named d (sidx q) with
 | false=>exact Bool.and_false _
 | true=>exact absurd (zor (zos hq) hi hx h) Hp
theorem zcc {v:V}{k:Nat}{m:M}{bd:Bool}(h:fnd v k (7 - k)=none):zc4 k m bd v=none:=by unfold zc4;rw[h]
theorem zcR {v:V}{k q:Nat}{m:M}{bd:Bool}(h:fnd v k (7 - k)=some q):zc4 k m bd v=(match zfd q v m with
  | none=>none
  | some m'=>some (if q=5 then 5 else q+1,m',bd||q==5)):=by unfold zc4;rw[h]
def Alike (k:Nat)(m:M)(bd:Bool)(s:St)(v:V):Prop:=
 (zc4 k m bd v=none∧(za5 s v=none∨∃ s',za5 s v=some s'∧2048 < s'.m.body.length)) ∨
 (∃ k' m' bd' s',zc4 k m bd v=some (k',m',bd')∧za5 s v=some s'∧s'.m=m'∧s'.body=bd'∧Rk k' s'.last)
theorem zc5 {k q:Nat}{m m':M}{bd:Bool}{s s':St}{v:V}(hf:fnd v k (7 - k)=some q)(hr:zfd q v m=some m')(gr:za5 s v=some s')(h1:s'.m=m')(h2:s'.body=(bd||q==5))(h3:Rk (if q=5 then 5 else q+1) s'.last):Alike k m bd s v:=.inr ⟨_,_,_,s',by rw[zcR hf,hr],gr,h1,h2,h3⟩
theorem zcS {k q:Nat}{m:M}{bd:Bool}{s:St}{v:V}(hf:fnd v k (7 - k)=some q)(hr:zfd q v m=none)(gr:za5 s v=none∨∃ s',za5 s v=some s'∧2048 < s'.m.body.length):Alike k m bd s v:=.inl ⟨by rw[zcR hf,hr],gr⟩
theorem zou {k last i:Nat}(hk:Rk k last)(hi:i < 6∨i=8):(112+i < last∨(112+i=last∧i≠5))↔posn i < k:=by
 unfold Rk at hk;unfold posn;by_cases h:i < 6
 ·rw[if_pos h];omega
 ·rw[if_neg h];omega
theorem zov (t:ByteArray):(tb t).length=t.size:=by
 unfold tb;rw[ycK,Array.length_toList];rfl
theorem step_eq {v:V}(Hq:okB v=true){k:Nat}{m:M}{bd:Bool}{s:St}(hs:s.m=m)(hb:s.body=bd)(hk:Rk k s.last):Alike k m bd s v:=by
 obtain⟨vk,n,t,ks⟩:=v;have qF:∀ {w:V},(∀ q,q < 7→isS q w=false)→fnd w k (7 - k)=none:=fun h=>zfK fun i hi=>h _ (by omega);by_cases kH:vk=25
 case neg=>
  refine .inl ⟨zcc (qF fun q _=>zop kH),.inl ?_⟩;unfold za5;rw[show zb8 (.mk vk n t ks)=none from if_neg kH]
 subst kH;obtain⟨d,x,rfl,Vh,cw,_⟩:=zaS (zcs Hq);cases hf:(List.range 9).find? (named d) with
 | none=>
  have GN:∀ q,q < 7→isS q (.mk 25 n t [d,x])=false:=fun q hq=>by
   rw[zot cw Vh];have:=List.find?_eq_none.1 hf (sidx q) (List.mem_range.2 (zos hq));cases hx:named d (sidx q) with
   | false=>exact Bool.and_false _
   | true=>exact absurd hx this
  refine .inl ⟨zcc (qF GN),.inl ?_⟩;unfold za5;rw[zjk,hf];rfl
 | some i=>
  have Ua:named d i=true:=List.find?_some hf;have KT:i < 9:=List.mem_range.1 (List.mem_of_find?_eq_some hf);have KJ:zb8 (.mk 25 n t [d,x])=some (i,x):=by rw[zjk,hf];rfl
  have Ub:=fun q (hq:q < 7) (Hp:sidx q≠i)=>zus (n:=n) (t:=t) (x:=x) cw Vh KT Ua hq Hp;by_cases YI:i=6∨i=7
  ·exact .inl ⟨zcc (qF fun q hq=>Ub q hq (by unfold sidx;by_cases h:q < 6<;>simp[h]<;>omega)),.inl (zj7 KJ YI)⟩
  have hi:i < 6∨i=8:=by omega
  have yv:posn i < 7:=by unfold posn;by_cases h:i < 6<;>simp[h];omega
  have hsi:sidx (posn i)=i:=by
   unfold sidx posn;by_cases h:i < 6
   ·rw[if_pos h,if_pos h]
   ·rw[if_neg h,if_neg (by omega)];omega
  have vN:∀ q,q < 7→q≠posn i→isS q (.mk 25 n t [d,x])=false:=fun q hq Hp=>Ub q hq fun e=>Hp (by
   rw[←e];unfold posn sidx;by_cases h:q < 6
   ·rw[if_pos h,if_pos h]
   ·rw[if_neg h,if_neg (by omega)];omega)
  have gT:isS (posn i) (.mk 25 n t [d,x])=decide (x.kind=skind (posn i)):=by rw[zot cw Vh,hsi,Ua,Bool.and_true]
  by_cases ho:112+i < s.last∨(112+i=s.last∧i≠5)
  ·have:=(zou hk hi).1 ho;exact .inl ⟨zcc (zfK fun j hj=>vN _ (by omega) (by omega)),.inl (zk7 KJ ho)⟩
  have hkp:k≤posn i:=by have:=mt (zou hk hi).2 ho;omega
  by_cases Kf:x.kind=skind (posn i)
  case neg=>
   rw[decide_eq_false Kf] at gT;refine .inl ⟨zcc (qF fun q hq=>by (by_cases h:q=posn i);(· rw[h];exact gT);(· exact vN q hq h)),.inl ?_⟩;unfold za5;rw[KJ];simp only;rw[if_neg ho];have hc:i=0∨i=1∨i=2∨i=3∨i=4∨i=5∨i=8:=by omega
   rcases hc with rfl | rfl | rfl | rfl | rfl | rfl | rfl
   ·rw[if_pos rfl,zjj Kf]
   ·rw[if_neg (by omega),if_neg (by omega),if_neg (by omega),if_neg (by omega)];exact if_neg Kf
   ·rw[if_neg (by omega),if_neg (by omega),if_neg (by omega),if_neg (by omega)];exact if_neg Kf
   ·rw[if_neg (by omega),if_pos rfl,zjj Kf]
   ·rw[if_neg (by omega),if_neg (by omega),if_neg (by omega),if_neg (by omega)];exact if_neg Kf
   ·rw[if_neg (by omega),if_neg (by omega),if_pos rfl];exact if_neg Kf
   ·rw[if_neg (by omega),if_neg (by omega),if_neg (by omega),if_neg (by omega)];exact if_neg Kf
  rw[decide_eq_true Kf] at gT;have qs:fnd (.mk 25 n t [d,x]) k (7 - k)=some (posn i):=by
   have:=zh0 (v:=.mk 25 n t [d,x]) (n:=7 - k) (k:=k) (j:=posn i - k) (by omega) (by rw[show k+(posn i - k)=posn i by omega];exact gT) fun j hj=>vN _ (by omega) (by omega)
   rwa [show k+(posn i - k)=posn i by omega] at this
  have Hh:za5 s (.mk 25 n t [d,x])=(if i=0 then (match newR (.mk 25 n t [d,x]) 112 (mname 0) with
   | none=>none
   | some ls=>if hdB ls=true then none else some ⟨{ s.m with p:=(oneR ls 1 3 false false 4 V.num).1,ttl:=(oneR ls 2 5 false false 0 V.num).1,n:=(oneR ls 4 5 false false 0 V.num).1 },112,s.body⟩)
   else if i=3 then (match newR (.mk 25 n t [d,x]) 115 (mname 3) with
   | none=>none
   | some ls=>if prB ls=true then none else some ⟨{ s.m with id:=idR ls },115,s.body⟩)
   else if i=5 then (if x.kind=19 then some ⟨{ s.m with body:=s.m.body++tb x.text },117,true⟩ else none)
   else if i=6∨i=7 then none
   else if x.kind=23 then some ⟨s.m,112+i,s.body⟩ else none):=by
   unfold za5;rw[KJ];exact if_neg ho
  subst hs hb;have hc:i=0∨i=1∨i=2∨i=3∨i=4∨i=5∨i=8:=by omega
  rcases hc with rfl | rfl | rfl | rfl | rfl | rfl | rfl
  ·rw[if_pos rfl] at Hh;cases GA:newR (.mk 25 n t [d,x]) 112 (mname 0) with
   | none=>
    rw[GA] at Hh;exact zcS qs (show zcQ (.mk 25 n t [d,x]) s.m=none by unfold zcQ;rw[GA]) (.inl Hh)
   | some ls=>
    rw[GA] at Hh;simp only at Hh;have hR:zcQ (.mk 25 n t [d,x]) s.m=(if hdB ls=true then none else some { s.m with p:=(oneR ls 1 3 false false 4 V.num).1,ttl:=(oneR ls 2 5 false false 0 V.num).1,n:=(oneR ls 4 5 false false 0 V.num).1 }):=by unfold zcQ;rw[GA]
    cases hh:hdB ls with
    | true=>
     rw[hh,if_pos rfl] at Hh hR;exact zcS qs hR (.inl Hh)
    | false=>
     rw[hh,if_neg ycJ] at Hh hR;exact zc5 (q:=0) qs hR Hh rfl (Bool.or_false _).symm (.inr (.inl ⟨by decide,by decide,rfl⟩))
  ·rw[if_neg (by omega),if_neg (by omega),if_neg (by omega),if_neg (by omega),if_pos (show x.kind=23 from Kf)] at Hh;exact zc5 (q:=1) qs rfl Hh rfl (Bool.or_false _).symm (.inr (.inl ⟨by decide,by decide,rfl⟩))
  ·rw[if_neg (by omega),if_neg (by omega),if_neg (by omega),if_neg (by omega),if_pos (show x.kind=23 from Kf)] at Hh;exact zc5 (q:=2) qs rfl Hh rfl (Bool.or_false _).symm (.inr (.inl ⟨by decide,by decide,rfl⟩))
  ·rw[if_neg (by omega),if_pos rfl] at Hh;cases GA:newR (.mk 25 n t [d,x]) 115 (mname 3) with
   | none=>
    rw[GA] at Hh;exact zcS qs (show zc3 (.mk 25 n t [d,x]) s.m=none by unfold zc3;rw[GA]) (.inl Hh)
   | some ls=>
    rw[GA] at Hh;simp only at Hh;have hR:zc3 (.mk 25 n t [d,x]) s.m=(if prB ls=true then none else some { s.m with id:=idR ls }):=by unfold zc3;rw[GA]
    cases hh:prB ls with
    | true=>
     rw[hh,if_pos rfl] at Hh hR;exact zcS qs hR (.inl Hh)
    | false=>
     rw[hh,if_neg ycJ] at Hh hR;exact zc5 (q:=3) qs hR Hh rfl (Bool.or_false _).symm (.inr (.inl ⟨by decide,by decide,rfl⟩))
  ·rw[if_neg (by omega),if_neg (by omega),if_neg (by omega),if_neg (by omega),if_pos (show x.kind=23 from Kf)] at Hh;exact zc5 (q:=4) qs rfl Hh rfl (Bool.or_false _).symm (.inr (.inl ⟨by decide,by decide,rfl⟩))
  ·rw[if_neg (by omega),if_neg (by omega),if_pos rfl,if_pos (show x.kind=19 from Kf)] at Hh;by_cases hl:s.m.body.length+x.text.size≤2048
   ·exact zc5 (q:=5) qs (show zgs x s.m=_ from if_pos hl) Hh rfl (Bool.or_true _).symm (.inr (.inr (.inl ⟨rfl,rfl⟩)))
   ·refine zcS (q:=5) qs (show zgs x s.m=_ from if_neg hl) (.inr ⟨_,Hh,?_⟩);simp only[ycH,zov];omega
  ·rw[if_neg (by omega),if_neg (by omega),if_neg (by omega),if_neg (by omega),if_pos (show x.kind=23 from Kf)] at Hh;exact zc5 (q:=6) qs rfl Hh rfl (Bool.or_false _).symm (.inr (.inr (.inr ⟨rfl,rfl⟩)))
theorem zka {s s':St}{v:V}(h:za5 s v=some s'):s.m.body.length≤s'.m.body.length:=by
 unfold za5 at h;cases hs:zb8 v with
 | none=>rw[hs] at h;cases h
 | some p=>
  obtain⟨i,x⟩:=p;rw[hs] at h;simp only at h
  split at h
  ·cases h
  ·split at h
   ·split at h
    ·cases h
    ·split at h
     ·cases h
     ·injection h with h;subst h;exact zab
   ·split at h
    ·split at h
     ·cases h
     ·split at h
      ·cases h
      ·injection h with h;subst h;exact zab
    ·split at h
     ·split at h
      ·injection h with h;subst h;simp
      ·cases h
     ·split at h
      ·cases h
      ·split at h
       ·injection h with h;subst h;exact zab
       ·cases h
theorem zg7:∀ (N:Nat) (s s':St) (b:Lz),getN N s b=some s'→s.m.body.length≤s'.m.body.length
 | N,s,s',[],h=>by rw[zfI] at h;injection h with h;subst h;exact zab
 | 0,_,_,_::_,h=>by cases h
 | N+1,s,s',x::b,h=>by
  rw[zcu N s (by simp)] at h;by_cases hd:(decD (x::b)).2.2=0
  ·rw[if_pos hd] at h;cases hs:za5 s (decD (x::b)).1 with
   | none=>rw[hs] at h;cases h
   | some s2=>
    rw[hs] at h;exact Nat.le_trans (zka hs) (zg7 N s2 s' _ h)
  ·rw[if_neg hd] at h;cases h
theorem ziG {b:Lz}(h:(decD b).2.2=0):okB (decD b).1=true:=by
 rcases zeu b with ⟨v,it,r,_,Hq,hd⟩ | ⟨_,hd⟩ | ⟨_,hd⟩
 ·rw[hd];exact Hq
 ·rw[hd] at h;simp at h
 ·rw[hd] at h;simp at h
theorem zow:∀ (N k:Nat) (m:M) (bd:Bool) (s:St) (b:Lz),s.m=m→s.body=bd→Rk k s.last→m.body.length≤2048→getQ N k m bd b=(match getN N s b with
  | none=>none
  | some s'=>finM s')
 | N,k,m,bd,s,[],hs,hb,_,hl=>by
  rw[zfI];have:getQ N k m bd []=if bd=true then some m else none:=by cases N<;>rfl
  rw[this]
  show _=finM s
  unfold finM;subst hs hb;cases s.body with
  | true=>rw[if_pos rfl,if_pos ⟨rfl,hl⟩]
  | false=>rw[if_neg ycJ,if_neg fun h=>ycJ h.1]
 | 0,_,_,_,_,_::_,_,_,_,_=>rfl
 | N+1,k,m,bd,s,x::b,hs,hb,hk,hl=>by
  rw[zcu N s (by simp)]
  show (if (decD (x::b)).2.2=0 then (match zc4 k m bd (decD (x::b)).1 with
   | none=>none
   | some (k',m',bd')=>getQ N k' m' bd' ((x::b).drop (decD (x::b)).2.1)) else none)=_
  by_cases hd:(decD (x::b)).2.2=0
  ·rw[if_pos hd,if_pos hd];rcases step_eq (ziG hd) hs hb hk with ⟨h1,h2 | ⟨s',h2,h3⟩⟩ | ⟨k',m',bd',s',h1,h2,h3,h4,h5⟩
   ·rw[h1,h2]
   ·rw[h1,h2];simp only;cases hg:getN N s' ((x::b).drop (decD (x::b)).2.1) with
    | none=>rfl
    | some s2=>
     have:=zg7 N s' s2 _ hg
     show none=finM s2
     unfold finM;rw[if_neg fun h=>by omega]
   ·rw[h1,h2];simp only;by_cases qp:m'.body.length≤2048
    ·exact zow N k' m' bd' s' _ h3 h4 h5 qp
    ·exfalso
     unfold zc4 at h1;cases hf:fnd (decD (x::b)).1 k (7 - k) with
     | none=>rw[hf] at h1;cases h1
     | some q=>
      rw[hf] at h1;simp only at h1;cases hr:zfd q (decD (x::b)).1 m with
      | none=>rw[hr] at h1;cases h1
      | some m2=>
       rw[hr] at h1;simp only[Option.some.injEq,Prod.mk.injEq] at h1;obtain⟨_,rfl,_⟩:=h1;exact qp (zjh hl hr)
  ·rw[if_neg hd,if_neg hd]
end Me
end Go.Proofs.YtbbbanfggcediaaGreatDoor
