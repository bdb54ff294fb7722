/-
  Contracts of functions and plain mathematics, text by text, each with its conditions ahead of it:
  Contract of the program's New. Memory that was there stays. Conditions: the table utf.shapes lies as the program's text lays it; values of bulk at most 2^29.
  Plain mathematics of the statement ValueAlike: arrays of values of one kind, maps of unlike keys. No condition.
  Contract of the document's alike, of values that may be. Memory that was there stays. Condition: values of bulk at most 2^30.
  Contract of the document's may and Right. Memory that was there stays. Condition: values of bulk at most 2^30.
  Contract of the document's Right: which values may be. Condition: values of bulk at most 2^20.
  Contracts of the document's New, and of its fields' Has, take, Number, Text, Done. Memory that was there stays, but for the block of the fields. Conditions: values of bulk at most 2^20.
  Contract of the document's fields' Value. Memory that was there stays, but for the block of the fields. Conditions: values of bulk at most 2^30; at most 2^40 kinds.
-/
import Derived.Test.YtcilmmdmkpnppaaGreatDoorY01
import Derived.Test.YtcilmmdmkpnppaaGreatDoorY03
import Derived.Test.YtcilmmdmkpnppaaGreatDoorY06
import Derived.Test.YtcilmmdmkpnppaaGreatDoorY16
import Derived.Deep.RegionHeld3
import Derived.Deep.DeepCutAuto
import Derived.Deep.QuietTactic
import Derived.BigQuiet
import Derived.Deep.RegionWith
section
namespace Go.Proofs.YtcilmmdmkpnppaaGreatDoor.Fl
set_option maxRecDepth 100000
open Go.RowKit Utf Val V
theorem kids_pair {w:World}{ks:List V}{A:Option Addr}{l c:Nat}{x y:V}(h:Kd w ks A l c)(e:ks=[x,y]):∃ b o k n t ks1 A1 l1 c1 k' n' t' ks2 A2 l2 c2,A=some ⟨b,o,none⟩∧b < w.heap.size∧l=2∧x=.mk k n t ks1∧y=.mk k' n' t' ks2 ∧
  w.cell? ⟨b,o,none⟩=some (.int .u8 (k:Int))∧w.cell? ⟨b,o+1,none⟩=some (.int .u64 (n:Int))∧w.cell? ⟨b,o+2,none⟩=some (.string t)∧w.cell? ⟨b,o+3,none⟩=some (.slice A1 l1 c1) ∧
  w.cell? ⟨b,o+4,none⟩=some (.int .u8 (k':Int))∧w.cell? ⟨b,o+4+1,none⟩=some (.int .u64 (n':Int))∧w.cell? ⟨b,o+4+2,none⟩=some (.string t')∧w.cell? ⟨b,o+4+3,none⟩=some (.slice A2 l2 c2) ∧
  k < 256∧n < 18446744073709551616∧Kd w ks1 A1 l1 c1∧k' < 256∧n' < 18446744073709551616∧Kd w ks2 A2 l2 c2:=by
 subst e;have hl:l=2:=h.len;obtain⟨b,o,k,n,t,ks1,A1,l1,c1,e1,hbl,hx,a0,a1,a2,a3,hk,hn,hK⟩:=h.at_ (i:=0) (by omega);obtain⟨b',o',k',n',t',ks2,A2,l2,c2,e2,_,hy,b0,b1,b2,b3,hk',hn',hK'⟩:=h.at_ (i:=1) (by omega);rw[e1] at e2;injection e2 with e2
 injection e2 with q1 q2
 subst q1;subst q2;simp only[List.getElem?_cons_zero,List.getElem?_cons_succ,Option.some.injEq] at hx hy;rw[Nat.zero_mul,Nat.add_zero] at a0 a1 a2 a3;rw[Nat.one_mul] at b0 b1 b2 b3;exact⟨b,o,k,n,t,ks1,A1,l1,c1,k',n',t',ks2,A2,l2,c2,e1,hbl,hl,hx,hy,a0,a1,a2,a3,b0,b1,b2,b3,hk,hn,hK,hk',hn',hK'⟩
def GivesNew (o:Option (List V))(w:World)(e:Ending)(w':World):Prop:=
 match o with
 | none=>e=.returned (.tuple #[.pointer none,.int .i64 6])∧Below w.heap.size w w'
 | some ls=>∃ g A l c,e=.returned (.tuple #[.pointer (some ⟨g,0,none⟩),.int .i64 0])∧w.heap.size≤g∧Fld 167 (fun i=>g≤i) w' g ls A l c false∧g+1=w'.heap.size∧Below w.heap.size w w'
def calledB (d:V)(code:Nat)(name:ByteArray):Bool:=V.same d (.mk 6 code ⟨#[]⟩ [])||V.same d (.mk 21 0 name [])
noncomputable def newR (v:V)(code:Nat)(name:ByteArray):Option (List V):=
 if okB v=true∧v.kind=25 then (match v.kids with
  | [d,b]=>if calledB d code name=true∧b.kind=22 then some b.kids else none
  | _=>none) else none
set_option maxHeartbeats 1000000 in
theorem new_bad (k n:Nat)(t:ByteArray)(ks:List V)(A:Option Addr)(l c code:Nat)(name:ByteArray)(w:World)(hN:bulkL ks≤536870912)(ht:t.size≤536870912)(hn:n < 18446744073709551616)(hK:Kd w ks A l c)(hTab:Tab w)(hv:okB (.mk k n t ks)=false∨¬ k=25) :
  Calls Tryz.prog 107 #[.agg #[.int .u8 (k:Int),.int .u64 (n:Int),.string t,.slice A l c],.int .u64 (code:Int),.string name] w (GivesNew none w):=by
 have hb0:Below w.heap.size w (w.alloc (.cells #[.int .u8 (k:Int),.int .u64 (n:Int),.string t,.slice A l c] 44)):=(Below.refl _ _).alloc (Nat.le_refl _) _;have hx:=Box.new w (.int .u8 (k:Int)) (.int .u64 (n:Int)) (.string t) (.slice A l c);have HR:=Lib.hid (vright_any k n t ks A l c _ (by omega) (by omega) hn (hK.call hb0) (hTab.call hb0));have HX:=Lib.hid hx;have HB:=Lib.hid hb0;cases hok:okB (.mk k n t ks) with
 | false=>
  rw[hok] at HR;clear hN ht hn hK hTab hv hok hx hb0;go_enter Tryz.func107,Tryz.ntmps107;go_wp2_with fail;refine HR.out.mono ?_;rintro e w1 ⟨rfl,hb1⟩;have HB1:=Lib.hid (below_next HB.out hb1);clear hb1;go_wp2;refine bodyPost_ret (v:=.tuple #[.pointer none,.int .i64 6]) (by simp[results,Tryz.results107,go_sem]) rfl ?_;exact⟨rfl,HB1.out⟩
 | true=>
  rw[hok] at HR;have h25:((k:Int)==25)=false:=by rcases hv with h | h;(· rw[h] at hok;cases hok);(· simp;omega)
  clear hN ht hn hK hTab hv hok hx hb0;go_enter Tryz.func107,Tryz.ntmps107;go_wp2_with fail;refine HR.out.mono ?_;rintro e w1 ⟨rfl,hb1⟩;obtain⟨d0,d1,d2,d3,df⟩:=(HX.out.call hb1).all;have HB1:=Lib.hid (below_next HB.out hb1);clear hb1;go_wp2;refine bodyPost_ret (v:=.tuple #[.pointer none,.int .i64 6]) (by simp[results,Tryz.results107,go_sem]) rfl ?_;exact⟨rfl,HB1.out⟩
structure NS (w1 wx:World) (g8 g9 k1 n1:Nat) (t1:ByteArray) (A1:Option Addr) (l1 c1 k2 n2:Nat) (t2:ByteArray) (A2:Option Addr) (l2 c2:Nat):Prop where
 b8:Box wx g8 (.int .u8 (k1:Int)) (.int .u64 (n1:Int)) (.string t1) (.slice A1 l1 c1)
 b9:Box wx g9 (.int .u8 (k2:Int)) (.int .u64 (n2:Int)) (.string t2) (.slice A2 l2 c2)
 low:Below w1.heap.size w1 wx
section
variable {w1 wx w2:World} {g8 g9 k1 n1:Nat} {t1:ByteArray} {A1:Option Addr} {l1 c1 k2 n2:Nat} {t2:ByteArray} {A2:Option Addr} {l2 c2:Nat}
theorem NS.call (h:NS w1 wx g8 g9 k1 n1 t1 A1 l1 c1 k2 n2 t2 A2 l2 c2)(hb:Below wx.heap.size wx w2):NS w1 w2 g8 g9 k1 n1 t1 A1 l1 c1 k2 n2 t2 A2 l2 c2:=⟨h.b8.call hb,h.b9.call hb,below_next h.low hb⟩
theorem NS.cells (h:NS w1 wx g8 g9 k1 n1 t1 A1 l1 c1 k2 n2 t2 A2 l2 c2):wx.cell? ⟨g8,0,none⟩=some (.int .u8 (k1:Int))∧wx.cell? ⟨g8,1,none⟩=some (.int .u64 (n1:Int))∧wx.cell? ⟨g8,2,none⟩=some (.string t1)∧wx.cell? ⟨g8,3,none⟩=some (.slice A1 l1 c1) ∧
  wx.cell? ⟨g9,0,none⟩=some (.int .u8 (k2:Int))∧wx.cell? ⟨g9,1,none⟩=some (.int .u64 (n2:Int))∧wx.cell? ⟨g9,2,none⟩=some (.string t2)∧wx.cell? ⟨g9,3,none⟩=some (.slice A2 l2 c2):=by
 obtain⟨a0,a1,a2,a3,_⟩:=h.b8.all;obtain⟨b0,b1,b2,b3,_⟩:=h.b9.all;exact⟨a0,a1,a2,a3,b0,b1,b2,b3⟩
theorem NS.new1 (w1:World)(k1 n1:Nat)(t1:ByteArray)(A1:Option Addr)(l1 c1 k2 n2:Nat)(t2:ByteArray)(A2:Option Addr)(l2 c2:Nat):NS w1 ((w1.alloc (.cells #[.int .u8 (k1:Int),.int .u64 (n1:Int),.string t1,.slice A1 l1 c1] 44)).alloc (.cells #[.int .u8 (k2:Int),.int .u64 (n2:Int),.string t2,.slice A2 l2 c2] 44)).drew w1.heap.size (w1.heap.size+1) k1 n1 t1 A1 l1 c1 k2 n2 t2 A2 l2 c2:=by
 obtain⟨a,b,c⟩:=boxes2 w1 (.int .u8 (k1:Int)) (.int .u64 (n1:Int)) (.string t1) (.slice A1 l1 c1) (.int .u8 (k2:Int)) (.int .u64 (n2:Int)) (.string t2) (.slice A2 l2 c2);exact⟨a,b,c.drew⟩
theorem NS.new2 (w1:World)(k1 n1:Nat)(t1:ByteArray)(A1:Option Addr)(l1 c1 k2 n2:Nat)(t2:ByteArray)(A2:Option Addr)(l2 c2:Nat):NS w1 ((w1.alloc (.cells #[.int .u8 (k2:Int),.int .u64 (n2:Int),.string t2,.slice A2 l2 c2] 44)).alloc (.cells #[.int .u8 (k1:Int),.int .u64 (n1:Int),.string t1,.slice A1 l1 c1] 44)).drew (w1.heap.size+1) w1.heap.size k1 n1 t1 A1 l1 c1 k2 n2 t2 A2 l2 c2:=by
 obtain⟨a,b,c⟩:=boxes2 w1 (.int .u8 (k2:Int)) (.int .u64 (n2:Int)) (.string t2) (.slice A2 l2 c2) (.int .u8 (k1:Int)) (.int .u64 (n1:Int)) (.string t1) (.slice A1 l1 c1);exact⟨b,a,c.drew⟩
end
theorem same_code (k n:Nat)(t:ByteArray)(ks:List V)(A:Option Addr)(l c code:Nat)(w:World)(hN:bulkL ks≤1073741824)(hK:Kd w ks A l c)(p:Bool)(hp:V.same (.mk k n t ks) (.mk 6 code ⟨#[]⟩ [])=p) :
  Calls Tryz.prog 68 #[.agg #[.int .u8 (k:Int),.int .u64 (n:Int),.string t,.slice A l c],.agg #[.int .u8 6,.int .u64 (code:Int),.string ⟨#[]⟩,.slice none 0 0]] w (GivesB p w):=hp▸vsame_any k n t ks A l c 6 code ⟨#[]⟩ [] none 0 0 w hN hK (Kd.none_ _ _ _)
theorem same_name (k n:Nat)(t:ByteArray)(ks:List V)(A:Option Addr)(l c:Nat)(name:ByteArray)(w:World)(hN:bulkL ks≤1073741824)(hK:Kd w ks A l c)(p:Bool)(hp:V.same (.mk k n t ks) (.mk 21 0 name [])=p) :
  Calls Tryz.prog 68 #[.agg #[.int .u8 (k:Int),.int .u64 (n:Int),.string t,.slice A l c],.agg #[.int .u8 21,.int .u64 0,.string name,.slice none 0 0]] w (GivesB p w):=hp▸vsame_any k n t ks A l c 21 0 name [] none 0 0 w hN hK (Kd.none_ _ _ _)
theorem text_sym (t:ByteArray)(w:World):Calls Tryz.prog 19 #[.int .u8 21,.string t] w fun e w'=>e=.returned (.agg #[.int .u8 21,.int .u64 0,.string t,.slice none 0 0])∧Below w.heap.size w w':=text_any' 21 t w
theorem newR_pair {n:Nat}{t:ByteArray}{ks:List V}{x y:V}{code:Nat}{name:ByteArray}(hok:okB (.mk 25 n t ks)=true)(hks:ks=[x,y]):newR (.mk 25 n t ks) code name=if calledB x code name=true∧y.kind=22 then some y.kids else none:=by
 subst hks;exact if_pos ⟨hok,rfl⟩
set_option maxHeartbeats 1000000 in
theorem new_pair (n:Nat)(t:ByteArray)(ks:List V)(x y:V)(hks:ks=[x,y])(A:Option Addr)(l c code:Nat)(name:ByteArray)(w:World)(hN:bulkL ks≤536870912)(ht:t.size≤536870912)(hn:n < 18446744073709551616)(hK:Kd w ks A l c)(hTab:Tab w)(hok:okB (.mk 25 n t ks)=true) :
  Calls Tryz.prog 107 #[.agg #[.int .u8 25,.int .u64 (n:Int),.string t,.slice A l c],.int .u64 (code:Int),.string name] w (GivesNew (newR (.mk 25 n t ks) code name) w):=by
 have hb0:Below w.heap.size w (w.alloc (.cells #[.int .u8 25,.int .u64 (n:Int),.string t,.slice A l c] 44)):=(Below.refl _ _).alloc (Nat.le_refl _) _;have hx:=Box.new w (.int .u8 25) (.int .u64 (n:Int)) (.string t) (.slice A l c);have HR:Hid (Calls Tryz.prog 23 #[.agg #[.int .u8 25,.int .u64 (n:Int),.string t,.slice A l c]] _ (GivesB (okB (.mk 25 n t ks)) _)):=Lib.hid (vright_any 25 n t ks A l c _ (by omega) (by omega) hn (hK.call hb0) (hTab.call hb0));rw[hok] at HR;have HX:=Lib.hid hx;have HB:=Lib.hid hb0;have HK:=Lib.hid (hK.call hb0);have HN:=Lib.hid hN;have HE:=Lib.hid hks;have HO:=Lib.hid (newR_pair (code:=code) (name:=name) hok hks);clear hN ht hn hK hTab hok hx hb0 hks;go_enter Tryz.func107,Tryz.ntmps107;go_wp2_with fail;refine HR.out.mono ?_;rintro e w1 ⟨rfl,hb1⟩;obtain⟨d0,d1,d2,d3,df⟩:=(HX.out.call hb1).all;have HB1:=Lib.hid (below_next HB.out hb1);obtain⟨b,o,k1,n1,t1,ks1,A1,l1,c1,k2,n2,t2,ks2,A2,l2,c2,rfl,hbl,rfl,rfl,rfl,p0,p1,p2,p3,q0,q1,q2,q3,hk1,hn1,hK1,hk2,hn2,hK2⟩:=kids_pair (HK.out.call hb1) HE.out;have HK1:=Lib.hid hK1;have HK2:=Lib.hid hK2;have hs1:=(HX.out.call hb1).lt;clear hb1 hK1 hK2 HK;go_upto_region 3 with fail
 go_cut [8,9] from 18 to 25 (fun s8 s9 wx=>∃ g8 g9,s8=.pointer (some ⟨g8,0,none⟩)∧s9=.pointer (some ⟨g9,0,none⟩)∧NS w1 wx g8 g9 k1 n1 t1 A1 l1 c1 k2 n2 t2 A2 l2 c2)
 case first=>
  go_region
  all_goals
   go_wp2_with fail;go_meet
   first | exact⟨_,_,rfl,rfl,NS.new1 _ _ _ _ _ _ _ _ _ _ _ _ _⟩ | exact⟨_,_,rfl,rfl,NS.new2 _ _ _ _ _ _ _ _ _ _ _ _ _⟩
 case rest=>
  obtain⟨g8,g9,rfl,rfl,hS⟩:=hcut;have HS:=Lib.hid hS;have hnn:=HN.out;have hEE:=HE.out;have HNK1:Hid (bulkL ks1≤1073741824):=Lib.hid (by rw[hEE] at hnn;simp only[bulkL,bulk] at hnn;omega);have HNK2:Hid (bulkL ks2≤1073741824):=Lib.hid (by rw[hEE] at hnn;simp only[bulkL,bulk] at hnn;omega);have hO:=HO.out;clear HO HN hnn hEE d0 d1 d2 d3 df p0 p1 p2 p3 q0 q1 q2 q3 hS;cases hs1:V.same (.mk k1 n1 t1 ks1) (.mk 6 code ⟨#[]⟩ []) with
  | true=>
   have HS1:=Lib.hid hs1;have hca:calledB (.mk k1 n1 t1 ks1) code name=true:=by unfold calledB;rw[hs1];rfl
   rw[hca] at hO;clear hs1 hca;by_cases h22:k2=22
   ·have hz:((k2:Int)==22)=true:=by rw[h22];rfl
    have HNR:Hid (newR (.mk 25 n t ks) code name=some ks2):=Lib.hid (hO.trans (if_pos ⟨rfl,h22⟩));clear hO h22;go_upto_region 4 with fail
    refine wp_region_held_drew (S:=fun wx=>NS w1 wx g8 g9 k1 n1 t1 A1 l1 c1 k2 n2 t2 A2 l2 c2) (by kernel_rfl) (by exact HS.out.call (Below.refl _ _).drew) (fun hHeld=>?_)
    (refine wpAnyH_take (i:=0) (oi:=⟨some 26,_,_,_,_,_⟩) (v:=?_) rfl (by kernel_rfl) (by kernel_rfl) (by kernel_rfl) (fun _ _ _ h=>h) (Or.inl ⟨by kernel_rfl,?_⟩) (by assumption) ?_;rotate_left 1;(· intro wx hSw;(try dsimp only at hSw);obtain⟨p0,p1,p2,p3,q0,q1,q2,q3⟩:=NS.cells hSw;go_simp;(try with_reducible rfl)))
    try simp only[Act.put,sA,sB,sC]
    (refine wpAnyH_take (i:=1) (oi:=⟨some 27,_,_,_,_,_⟩) (v:=?_) rfl (by kernel_rfl) (by kernel_rfl) (by kernel_rfl) (fun _ _ _ h=>h) (Or.inl ⟨by kernel_rfl,?_⟩) (by assumption) ?_;rotate_left 1;(· intro wx hSw;(try dsimp only at hSw);obtain⟨p0,p1,p2,p3,q0,q1,q2,q3⟩:=NS.cells hSw;go_simp;(try with_reducible rfl)))
    try simp only[Act.put,sA,sB,sC]
    (refine wpAnyH_ready (rs:=[2]) (by kernel_rfl) (by simp) ?_;refine AllReadyH.cons (o:=⟨some 28,_,_,_,_,_⟩) rfl (fun K hK=>?_) AllReadyH.nil;go_simp;(go_at_call 47;(with_reducible refine(bycode_any code _).mono ?_);rintro e w2 ⟨rfl,hb2⟩);go_wp2_with fail;refine hK.out _ _ ?_ (fun hHeld=>?_);(· exact NS.call (by with_reducible assumption) (by with_reducible assumption));clear hK K)
    try simp only[Act.put,sA,sB,sC]
    (refine wpAnyH_ready (rs:=[3]) (by kernel_rfl) (by simp) ?_;refine AllReadyH.cons (o:=⟨some 29,_,_,_,_,_⟩) rfl (fun K hK=>?_) AllReadyH.nil;go_simp;(go_at_call 68;(with_reducible refine(same_code k1 n1 t1 ks1 A1 l1 c1 code _ HNK1.out (Kd.call HK1.out (NS.low (by with_reducible assumption))) true HS1.out).mono ?_);rintro e w3 ⟨rfl,hb3⟩);go_wp2_with fail;refine hK.out _ _ ?_ (fun hHeld=>?_);(· exact NS.call (by with_reducible assumption) (by with_reducible assumption));clear hK K)
    try simp only[Act.put,sA,sB,sC]
    (refine wpAnyH_take (i:=4) (oi:=⟨some 30,_,_,_,_,_⟩) (v:=?_) rfl (by kernel_rfl) (by kernel_rfl) (by kernel_rfl) (fun _ _ _ h=>h) (Or.inl ⟨by kernel_rfl,?_⟩) (by assumption) ?_;rotate_left 1;(· intro wx hSw;(try dsimp only at hSw);obtain⟨p0,p1,p2,p3,q0,q1,q2,q3⟩:=NS.cells hSw;go_simp;(try with_reducible rfl)))
    try simp only[Act.put,sA,sB,sC]
    (refine wpAnyH_take (i:=5) (oi:=⟨some 31,_,_,_,_,_⟩) (v:=?_) rfl (by kernel_rfl) (by kernel_rfl) (by kernel_rfl) (fun _ _ _ h=>h) (Or.inl ⟨by kernel_rfl,?_⟩) (by assumption) ?_;rotate_left 1;(· intro wx hSw;(try dsimp only at hSw);obtain⟨p0,p1,p2,p3,q0,q1,q2,q3⟩:=NS.cells hSw;go_simp;(try with_reducible rfl)))
    try simp only[Act.put,sA,sB,sC]
    (refine wpAnyH_take (i:=6) (oi:=⟨some 32,_,_,_,_,_⟩) (v:=undef) rfl (by kernel_rfl) (by kernel_rfl) (by kernel_rfl) (fun _ _ _ h=>h) (Or.inr ⟨by kernel_rfl,rfl⟩) (by assumption) ?_)
    try simp only[Act.put,sA,sB,sC]
    (refine wpAnyH_take (i:=7) (oi:=⟨some 33,_,_,_,_,_⟩) (v:=undef) rfl (by kernel_rfl) (by kernel_rfl) (by kernel_rfl) (fun _ _ _ h=>h) (Or.inr ⟨by kernel_rfl,rfl⟩) (by assumption) ?_)
    try simp only[Act.put,sA,sB,sC]
    (refine wpAnyH_take (i:=8) (oi:=⟨some 34,_,_,_,_,_⟩) (v:=undef) rfl (by kernel_rfl) (by kernel_rfl) (by kernel_rfl) (fun _ _ _ h=>h) (Or.inr ⟨by kernel_rfl,rfl⟩) (by assumption) ?_)
    try simp only[Act.put,sA,sB,sC]
    (refine wpAnyH_take (i:=9) (oi:=⟨some 35,_,_,_,_,_⟩) (v:=undef) rfl (by kernel_rfl) (by kernel_rfl) (by kernel_rfl) (fun _ _ _ h=>h) (Or.inr ⟨by kernel_rfl,rfl⟩) (by assumption) ?_)
    try simp only[Act.put,sA,sB,sC]
    (refine wpAnyH_take (i:=10) (oi:=⟨some 36,_,_,_,_,_⟩) (v:=undef) rfl (by kernel_rfl) (by kernel_rfl) (by kernel_rfl) (fun _ _ _ h=>h) (Or.inr ⟨by kernel_rfl,rfl⟩) (by assumption) ?_)
    try simp only[Act.put,sA,sB,sC]
    (refine wpAnyH_take (i:=11) (oi:=⟨some 37,_,_,_,_,_⟩) (v:=?_) rfl (by kernel_rfl) (by kernel_rfl) (by kernel_rfl) (fun _ _ _ h=>h) (Or.inl ⟨by kernel_rfl,?_⟩) (by assumption) ?_;rotate_left 1;(· intro wx hSw;(try dsimp only at hSw);obtain⟨p0,p1,p2,p3,q0,q1,q2,q3⟩:=NS.cells hSw;go_simp;(try with_reducible rfl)))
    try simp only[Act.put,sA,sB,sC]
    (refine wpAnyH_take (i:=12) (oi:=⟨some 38,_,_,_,_,_⟩) (v:=?_) rfl (by kernel_rfl) (by kernel_rfl) (by kernel_rfl) (fun _ _ _ h=>h) (Or.inl ⟨by kernel_rfl,?_⟩) (by assumption) ?_;rotate_left 1;(· intro wx hSw;(try dsimp only at hSw);obtain⟨p0,p1,p2,p3,q0,q1,q2,q3⟩:=NS.cells hSw;go_simp;(try with_reducible rfl)))
    try simp only[Act.put,sA,sB,sC]
    (refine wpAnyH_take (i:=13) (oi:=⟨some 39,_,_,_,_,_⟩) (v:=?_) rfl (by kernel_rfl) (by kernel_rfl) (by kernel_rfl) (fun _ _ _ h=>h) (Or.inl ⟨by kernel_rfl,?_⟩) (by assumption) ?_;rotate_left 1;(· intro wx hSw;(try dsimp only at hSw);obtain⟨p0,p1,p2,p3,q0,q1,q2,q3⟩:=NS.cells hSw;go_simp;(try with_reducible rfl)))
    try simp only[Act.put,sA,sB,sC]
    (refine wpAnyH_take (i:=14) (oi:=⟨some 40,_,_,_,_,_⟩) (v:=?_) rfl (by kernel_rfl) (by kernel_rfl) (by kernel_rfl) (fun _ _ _ h=>h) (Or.inl ⟨by kernel_rfl,?_⟩) (by assumption) ?_;rotate_left 1;(· intro wx hSw;(try dsimp only at hSw);obtain⟨p0,p1,p2,p3,q0,q1,q2,q3⟩:=NS.cells hSw;go_simp;(try with_reducible rfl)))
    try simp only[Act.put,sA,sB,sC]
    (refine wpAnyH_take (i:=15) (oi:=⟨some 41,_,_,_,_,_⟩) (v:=?_) rfl (by kernel_rfl) (by kernel_rfl) (by kernel_rfl) (fun _ _ _ h=>h) (Or.inl ⟨by kernel_rfl,?_⟩) (by assumption) ?_;rotate_left 1;(· intro wx hSw;(try dsimp only at hSw);obtain⟨p0,p1,p2,p3,q0,q1,q2,q3⟩:=NS.cells hSw;go_simp;(try with_reducible rfl)))
    try simp only[Act.put,sA,sB,sC]
    (refine wpAnyH_take (i:=16) (oi:=⟨some 42,_,_,_,_,_⟩) (v:=?_) rfl (by kernel_rfl) (by kernel_rfl) (by kernel_rfl) (fun _ _ _ h=>h) (Or.inl ⟨by kernel_rfl,?_⟩) (by assumption) ?_;rotate_left 1;(· intro wx hSw;(try dsimp only at hSw);obtain⟨p0,p1,p2,p3,q0,q1,q2,q3⟩:=NS.cells hSw;go_simp;(try with_reducible rfl)))
    try simp only[Act.put,sA,sB,sC]
    refine wpAnyH_done (by kernel_rfl) ?_ _;clear HR HX HB;have HHH:=Lib.hid hHeld;obtain⟨p0,p1,p2,p3,q0,q1,q2,q3⟩:=HHH.out.cells;clear hHeld;go_wp2_with fail;refine(vcopy_any k2 n2 t2 ks2 A2 l2 c2 _ HNK2.out hk2 hn2 (Kd.call HK2.out HHH.out.low)).mono ?_;rintro e w9 ⟨A3,l3,c3,rfl,hN9,hb9⟩;have HB9:=Lib.hid (HB1.out.trans ((below_next HHH.out.low hb9).mono HB1.out.size));have HN9:=Lib.hid hN9;clear hN9 hb9 p0 p1 p2 p3 q0 q1 q2 q3;have hfd:∀ w:World,(Instr.field 44 (.agg #[.int .u8 (k2:Int),.int .u64 (n2:Int),.string t2,.slice A3 l3 c3]) 3).run Tryz.prog w=.ok (.slice A3 l3 c3) w:=fun _=>by kernel_rfl
    go_wp2;refine bodyPost_ret (v:=.tuple #[.pointer (some ⟨w9.heap.size,0,none⟩),.int .i64 0]) (by simp[results,Tryz.results107,go_sem]) rfl ?_;rw[HNR.out];refine⟨w9.heap.size,A3,l3,c3,rfl,HB9.out.size,⟨heap_alloc_new w9 _,?_,Nat.le_refl _⟩,by simp,HB9.out.alloc HB9.out.size _⟩;exact((Val.Kids.weak HN9.out).keep fun i hi=>Below.heap_alloc _ _ _ hi.2).mono fun i hi=>⟨by have:=hi.2;simp;omega,by have:=hi.2;omega⟩
   ·have hz:((k2:Int)==22)=false:=by simp;omega
    have HNR:Hid (newR (.mk 25 n t ks) code name=none):=Lib.hid (hO.trans (if_neg fun h=>h22 h.2));clear hO h22;go_upto_region 4 with fail
    refine wp_region_held_drew (S:=fun wx=>NS w1 wx g8 g9 k1 n1 t1 A1 l1 c1 k2 n2 t2 A2 l2 c2) (by kernel_rfl) (by exact HS.out.call (Below.refl _ _).drew) (fun hHeld=>?_)
    (refine wpAnyH_take (i:=0) (oi:=⟨some 26,_,_,_,_,_⟩) (v:=?_) rfl (by kernel_rfl) (by kernel_rfl) (by kernel_rfl) (fun _ _ _ h=>h) (Or.inl ⟨by kernel_rfl,?_⟩) (by assumption) ?_;rotate_left 1;(· intro wx hSw;(try dsimp only at hSw);obtain⟨p0,p1,p2,p3,q0,q1,q2,q3⟩:=NS.cells hSw;go_simp;(try with_reducible rfl)))
    try simp only[Act.put,sA,sB,sC]
    (refine wpAnyH_take (i:=1) (oi:=⟨some 27,_,_,_,_,_⟩) (v:=?_) rfl (by kernel_rfl) (by kernel_rfl) (by kernel_rfl) (fun _ _ _ h=>h) (Or.inl ⟨by kernel_rfl,?_⟩) (by assumption) ?_;rotate_left 1;(· intro wx hSw;(try dsimp only at hSw);obtain⟨p0,p1,p2,p3,q0,q1,q2,q3⟩:=NS.cells hSw;go_simp;(try with_reducible rfl)))
    try simp only[Act.put,sA,sB,sC]
    (refine wpAnyH_ready (rs:=[2]) (by kernel_rfl) (by simp) ?_;refine AllReadyH.cons (o:=⟨some 28,_,_,_,_,_⟩) rfl (fun K hK=>?_) AllReadyH.nil;go_simp;(go_at_call 47;(with_reducible refine(bycode_any code _).mono ?_);rintro e w2 ⟨rfl,hb2⟩);go_wp2_with fail;refine hK.out _ _ ?_ (fun hHeld=>?_);(· exact NS.call (by with_reducible assumption) (by with_reducible assumption));clear hK K)
    try simp only[Act.put,sA,sB,sC]
    (refine wpAnyH_ready (rs:=[3]) (by kernel_rfl) (by simp) ?_;refine AllReadyH.cons (o:=⟨some 29,_,_,_,_,_⟩) rfl (fun K hK=>?_) AllReadyH.nil;go_simp;(go_at_call 68;(with_reducible refine(same_code k1 n1 t1 ks1 A1 l1 c1 code _ HNK1.out (Kd.call HK1.out (NS.low (by with_reducible assumption))) true HS1.out).mono ?_);rintro e w3 ⟨rfl,hb3⟩);go_wp2_with fail;refine hK.out _ _ ?_ (fun hHeld=>?_);(· exact NS.call (by with_reducible assumption) (by with_reducible assumption));clear hK K)
    try simp only[Act.put,sA,sB,sC]
    (refine wpAnyH_take (i:=4) (oi:=⟨some 30,_,_,_,_,_⟩) (v:=?_) rfl (by kernel_rfl) (by kernel_rfl) (by kernel_rfl) (fun _ _ _ h=>h) (Or.inl ⟨by kernel_rfl,?_⟩) (by assumption) ?_;rotate_left 1;(· intro wx hSw;(try dsimp only at hSw);obtain⟨p0,p1,p2,p3,q0,q1,q2,q3⟩:=NS.cells hSw;go_simp;(try with_reducible rfl)))
    try simp only[Act.put,sA,sB,sC]
    (refine wpAnyH_take (i:=5) (oi:=⟨some 31,_,_,_,_,_⟩) (v:=?_) rfl (by kernel_rfl) (by kernel_rfl) (by kernel_rfl) (fun _ _ _ h=>h) (Or.inl ⟨by kernel_rfl,?_⟩) (by assumption) ?_;rotate_left 1;(· intro wx hSw;(try dsimp only at hSw);obtain⟨p0,p1,p2,p3,q0,q1,q2,q3⟩:=NS.cells hSw;go_simp;(try with_reducible rfl)))
    try simp only[Act.put,sA,sB,sC]
    (refine wpAnyH_take (i:=6) (oi:=⟨some 32,_,_,_,_,_⟩) (v:=undef) rfl (by kernel_rfl) (by kernel_rfl) (by kernel_rfl) (fun _ _ _ h=>h) (Or.inr ⟨by kernel_rfl,rfl⟩) (by assumption) ?_)
    try simp only[Act.put,sA,sB,sC]
    (refine wpAnyH_take (i:=7) (oi:=⟨some 33,_,_,_,_,_⟩) (v:=undef) rfl (by kernel_rfl) (by kernel_rfl) (by kernel_rfl) (fun _ _ _ h=>h) (Or.inr ⟨by kernel_rfl,rfl⟩) (by assumption) ?_)
    try simp only[Act.put,sA,sB,sC]
    (refine wpAnyH_take (i:=8) (oi:=⟨some 34,_,_,_,_,_⟩) (v:=undef) rfl (by kernel_rfl) (by kernel_rfl) (by kernel_rfl) (fun _ _ _ h=>h) (Or.inr ⟨by kernel_rfl,rfl⟩) (by assumption) ?_)
    try simp only[Act.put,sA,sB,sC]
    (refine wpAnyH_take (i:=9) (oi:=⟨some 35,_,_,_,_,_⟩) (v:=undef) rfl (by kernel_rfl) (by kernel_rfl) (by kernel_rfl) (fun _ _ _ h=>h) (Or.inr ⟨by kernel_rfl,rfl⟩) (by assumption) ?_)
    try simp only[Act.put,sA,sB,sC]
    (refine wpAnyH_take (i:=10) (oi:=⟨some 36,_,_,_,_,_⟩) (v:=undef) rfl (by kernel_rfl) (by kernel_rfl) (by kernel_rfl) (fun _ _ _ h=>h) (Or.inr ⟨by kernel_rfl,rfl⟩) (by assumption) ?_)
    try simp only[Act.put,sA,sB,sC]
    (refine wpAnyH_take (i:=11) (oi:=⟨some 37,_,_,_,_,_⟩) (v:=?_) rfl (by kernel_rfl) (by kernel_rfl) (by kernel_rfl) (fun _ _ _ h=>h) (Or.inl ⟨by kernel_rfl,?_⟩) (by assumption) ?_;rotate_left 1;(· intro wx hSw;(try dsimp only at hSw);obtain⟨p0,p1,p2,p3,q0,q1,q2,q3⟩:=NS.cells hSw;go_simp;(try with_reducible rfl)))
    try simp only[Act.put,sA,sB,sC]
    (refine wpAnyH_take (i:=12) (oi:=⟨some 38,_,_,_,_,_⟩) (v:=?_) rfl (by kernel_rfl) (by kernel_rfl) (by kernel_rfl) (fun _ _ _ h=>h) (Or.inl ⟨by kernel_rfl,?_⟩) (by assumption) ?_;rotate_left 1;(· intro wx hSw;(try dsimp only at hSw);obtain⟨p0,p1,p2,p3,q0,q1,q2,q3⟩:=NS.cells hSw;go_simp;(try with_reducible rfl)))
    try simp only[Act.put,sA,sB,sC]
    (refine wpAnyH_take (i:=13) (oi:=⟨some 39,_,_,_,_,_⟩) (v:=?_) rfl (by kernel_rfl) (by kernel_rfl) (by kernel_rfl) (fun _ _ _ h=>h) (Or.inl ⟨by kernel_rfl,?_⟩) (by assumption) ?_;rotate_left 1;(· intro wx hSw;(try dsimp only at hSw);obtain⟨p0,p1,p2,p3,q0,q1,q2,q3⟩:=NS.cells hSw;go_simp;(try with_reducible rfl)))
    try simp only[Act.put,sA,sB,sC]
    (refine wpAnyH_take (i:=14) (oi:=⟨some 40,_,_,_,_,_⟩) (v:=?_) rfl (by kernel_rfl) (by kernel_rfl) (by kernel_rfl) (fun _ _ _ h=>h) (Or.inl ⟨by kernel_rfl,?_⟩) (by assumption) ?_;rotate_left 1;(· intro wx hSw;(try dsimp only at hSw);obtain⟨p0,p1,p2,p3,q0,q1,q2,q3⟩:=NS.cells hSw;go_simp;(try with_reducible rfl)))
    try simp only[Act.put,sA,sB,sC]
    (refine wpAnyH_take (i:=15) (oi:=⟨some 41,_,_,_,_,_⟩) (v:=?_) rfl (by kernel_rfl) (by kernel_rfl) (by kernel_rfl) (fun _ _ _ h=>h) (Or.inl ⟨by kernel_rfl,?_⟩) (by assumption) ?_;rotate_left 1;(· intro wx hSw;(try dsimp only at hSw);obtain⟨p0,p1,p2,p3,q0,q1,q2,q3⟩:=NS.cells hSw;go_simp;(try with_reducible rfl)))
    try simp only[Act.put,sA,sB,sC]
    (refine wpAnyH_take (i:=16) (oi:=⟨some 42,_,_,_,_,_⟩) (v:=?_) rfl (by kernel_rfl) (by kernel_rfl) (by kernel_rfl) (fun _ _ _ h=>h) (Or.inl ⟨by kernel_rfl,?_⟩) (by assumption) ?_;rotate_left 1;(· intro wx hSw;(try dsimp only at hSw);obtain⟨p0,p1,p2,p3,q0,q1,q2,q3⟩:=NS.cells hSw;go_simp;(try with_reducible rfl)))
    try simp only[Act.put,sA,sB,sC]
    refine wpAnyH_done (by kernel_rfl) ?_ _;clear HK1 HK2 HR HX HB;go_wp2;refine bodyPost_ret (v:=.tuple #[.pointer none,.int .i64 6]) (by simp[results,Tryz.results107,go_sem]) rfl ?_;rw[HNR.out];exact⟨rfl,HB1.out.trans (hHeld.low.mono HB1.out.size)⟩
  | false=>
   have HS1:=Lib.hid hs1;cases hs2:V.same (.mk k1 n1 t1 ks1) (.mk 21 0 name []) with
   | true=>
    have HS2:=Lib.hid hs2;have hca:calledB (.mk k1 n1 t1 ks1) code name=true:=by unfold calledB;rw[hs1,hs2];rfl
    rw[hca] at hO;clear hs1 hs2 hca;by_cases h22:k2=22
    ·have hz:((k2:Int)==22)=true:=by rw[h22];rfl
     have HNR:Hid (newR (.mk 25 n t ks) code name=some ks2):=Lib.hid (hO.trans (if_pos ⟨rfl,h22⟩));clear hO h22;go_upto_region 4 with fail
     refine wp_region_held_drew (S:=fun wx=>NS w1 wx g8 g9 k1 n1 t1 A1 l1 c1 k2 n2 t2 A2 l2 c2) (by kernel_rfl) (by exact HS.out.call (Below.refl _ _).drew) (fun hHeld=>?_)
     (refine wpAnyH_take (i:=0) (oi:=⟨some 26,_,_,_,_,_⟩) (v:=?_) rfl (by kernel_rfl) (by kernel_rfl) (by kernel_rfl) (fun _ _ _ h=>h) (Or.inl ⟨by kernel_rfl,?_⟩) (by assumption) ?_;rotate_left 1;(· intro wx hSw;(try dsimp only at hSw);obtain⟨p0,p1,p2,p3,q0,q1,q2,q3⟩:=NS.cells hSw;go_simp;(try with_reducible rfl)))
     try simp only[Act.put,sA,sB,sC]
     (refine wpAnyH_take (i:=1) (oi:=⟨some 27,_,_,_,_,_⟩) (v:=?_) rfl (by kernel_rfl) (by kernel_rfl) (by kernel_rfl) (fun _ _ _ h=>h) (Or.inl ⟨by kernel_rfl,?_⟩) (by assumption) ?_;rotate_left 1;(· intro wx hSw;(try dsimp only at hSw);obtain⟨p0,p1,p2,p3,q0,q1,q2,q3⟩:=NS.cells hSw;go_simp;(try with_reducible rfl)))
     try simp only[Act.put,sA,sB,sC]
     (refine wpAnyH_ready (rs:=[2]) (by kernel_rfl) (by simp) ?_;refine AllReadyH.cons (o:=⟨some 28,_,_,_,_,_⟩) rfl (fun K hK=>?_) AllReadyH.nil;go_simp;(go_at_call 47;(with_reducible refine(bycode_any code _).mono ?_);rintro e w2 ⟨rfl,hb2⟩);go_wp2_with fail;refine hK.out _ _ ?_ (fun hHeld=>?_);(· exact NS.call (by with_reducible assumption) (by with_reducible assumption));clear hK K)
     try simp only[Act.put,sA,sB,sC]
     (refine wpAnyH_ready (rs:=[3]) (by kernel_rfl) (by simp) ?_;refine AllReadyH.cons (o:=⟨some 29,_,_,_,_,_⟩) rfl (fun K hK=>?_) AllReadyH.nil;go_simp;(go_at_call 68;(with_reducible refine(same_code k1 n1 t1 ks1 A1 l1 c1 code _ HNK1.out (Kd.call HK1.out (NS.low (by with_reducible assumption))) false HS1.out).mono ?_);rintro e w3 ⟨rfl,hb3⟩);go_wp2_with fail;refine hK.out _ _ ?_ (fun hHeld=>?_);(· exact NS.call (by with_reducible assumption) (by with_reducible assumption));clear hK K)
     try simp only[Act.put,sA,sB,sC]
     (refine wpAnyH_take (i:=4) (oi:=⟨some 30,_,_,_,_,_⟩) (v:=?_) rfl (by kernel_rfl) (by kernel_rfl) (by kernel_rfl) (fun _ _ _ h=>h) (Or.inl ⟨by kernel_rfl,?_⟩) (by assumption) ?_;rotate_left 1;(· intro wx hSw;(try dsimp only at hSw);obtain⟨p0,p1,p2,p3,q0,q1,q2,q3⟩:=NS.cells hSw;go_simp;(try with_reducible rfl)))
     try simp only[Act.put,sA,sB,sC]
     (refine wpAnyH_take (i:=5) (oi:=⟨some 31,_,_,_,_,_⟩) (v:=?_) rfl (by kernel_rfl) (by kernel_rfl) (by kernel_rfl) (fun _ _ _ h=>h) (Or.inl ⟨by kernel_rfl,?_⟩) (by assumption) ?_;rotate_left 1;(· intro wx hSw;(try dsimp only at hSw);obtain⟨p0,p1,p2,p3,q0,q1,q2,q3⟩:=NS.cells hSw;go_simp;(try with_reducible rfl)))
     try simp only[Act.put,sA,sB,sC]
     (refine wpAnyH_take (i:=6) (oi:=⟨some 32,_,_,_,_,_⟩) (v:=?_) rfl (by kernel_rfl) (by kernel_rfl) (by kernel_rfl) (fun _ _ _ h=>h) (Or.inl ⟨by kernel_rfl,?_⟩) (by assumption) ?_;rotate_left 1;(· intro wx hSw;(try dsimp only at hSw);obtain⟨p0,p1,p2,p3,q0,q1,q2,q3⟩:=NS.cells hSw;go_simp;(try with_reducible rfl)))
     try simp only[Act.put,sA,sB,sC]
     (refine wpAnyH_take (i:=7) (oi:=⟨some 33,_,_,_,_,_⟩) (v:=?_) rfl (by kernel_rfl) (by kernel_rfl) (by kernel_rfl) (fun _ _ _ h=>h) (Or.inl ⟨by kernel_rfl,?_⟩) (by assumption) ?_;rotate_left 1;(· intro wx hSw;(try dsimp only at hSw);obtain⟨p0,p1,p2,p3,q0,q1,q2,q3⟩:=NS.cells hSw;go_simp;(try with_reducible rfl)))
     try simp only[Act.put,sA,sB,sC]
     (refine wpAnyH_ready (rs:=[8]) (by kernel_rfl) (by simp) ?_;refine AllReadyH.cons (o:=⟨some 34,_,_,_,_,_⟩) rfl (fun K hK=>?_) AllReadyH.nil;go_simp;(go_at_call 19;(with_reducible refine(text_sym name _).mono ?_);rintro e w4 ⟨rfl,hb4⟩);go_wp2_with fail;refine hK.out _ _ ?_ (fun hHeld=>?_);(· exact NS.call (by with_reducible assumption) (by with_reducible assumption));clear hK K)
     try simp only[Act.put,sA,sB,sC]
     (refine wpAnyH_ready (rs:=[9]) (by kernel_rfl) (by simp) ?_;refine AllReadyH.cons (o:=⟨some 35,_,_,_,_,_⟩) rfl (fun K hK=>?_) AllReadyH.nil;go_simp;(go_at_call 68;(with_reducible refine(same_name k1 n1 t1 ks1 A1 l1 c1 name _ HNK1.out (Kd.call HK1.out (NS.low (by with_reducible assumption))) true HS2.out).mono ?_);rintro e w5 ⟨rfl,hb5⟩);go_wp2_with fail;refine hK.out _ _ ?_ (fun hHeld=>?_);(· exact NS.call (by with_reducible assumption) (by with_reducible assumption));clear hK K)
     try simp only[Act.put,sA,sB,sC]
     (refine wpAnyH_take (i:=10) (oi:=⟨some 36,_,_,_,_,_⟩) (v:=?_) rfl (by kernel_rfl) (by kernel_rfl) (by kernel_rfl) (fun _ _ _ h=>h) (Or.inl ⟨by kernel_rfl,?_⟩) (by assumption) ?_;rotate_left 1;(· intro wx hSw;(try dsimp only at hSw);obtain⟨p0,p1,p2,p3,q0,q1,q2,q3⟩:=NS.cells hSw;go_simp;(try with_reducible rfl)))
     try simp only[Act.put,sA,sB,sC]
     (refine wpAnyH_take (i:=11) (oi:=⟨some 37,_,_,_,_,_⟩) (v:=?_) rfl (by kernel_rfl) (by kernel_rfl) (by kernel_rfl) (fun _ _ _ h=>h) (Or.inl ⟨by kernel_rfl,?_⟩) (by assumption) ?_;rotate_left 1;(· intro wx hSw;(try dsimp only at hSw);obtain⟨p0,p1,p2,p3,q0,q1,q2,q3⟩:=NS.cells hSw;go_simp;(try with_reducible rfl)))
     try simp only[Act.put,sA,sB,sC]
     (refine wpAnyH_take (i:=12) (oi:=⟨some 38,_,_,_,_,_⟩) (v:=?_) rfl (by kernel_rfl) (by kernel_rfl) (by kernel_rfl) (fun _ _ _ h=>h) (Or.inl ⟨by kernel_rfl,?_⟩) (by assumption) ?_;rotate_left 1;(· intro wx hSw;(try dsimp only at hSw);obtain⟨p0,p1,p2,p3,q0,q1,q2,q3⟩:=NS.cells hSw;go_simp;(try with_reducible rfl)))
     try simp only[Act.put,sA,sB,sC]
     (refine wpAnyH_take (i:=13) (oi:=⟨some 39,_,_,_,_,_⟩) (v:=?_) rfl (by kernel_rfl) (by kernel_rfl) (by kernel_rfl) (fun _ _ _ h=>h) (Or.inl ⟨by kernel_rfl,?_⟩) (by assumption) ?_;rotate_left 1;(· intro wx hSw;(try dsimp only at hSw);obtain⟨p0,p1,p2,p3,q0,q1,q2,q3⟩:=NS.cells hSw;go_simp;(try with_reducible rfl)))
     try simp only[Act.put,sA,sB,sC]
     (refine wpAnyH_take (i:=14) (oi:=⟨some 40,_,_,_,_,_⟩) (v:=?_) rfl (by kernel_rfl) (by kernel_rfl) (by kernel_rfl) (fun _ _ _ h=>h) (Or.inl ⟨by kernel_rfl,?_⟩) (by assumption) ?_;rotate_left 1;(· intro wx hSw;(try dsimp only at hSw);obtain⟨p0,p1,p2,p3,q0,q1,q2,q3⟩:=NS.cells hSw;go_simp;(try with_reducible rfl)))
     try simp only[Act.put,sA,sB,sC]
     (refine wpAnyH_take (i:=15) (oi:=⟨some 41,_,_,_,_,_⟩) (v:=?_) rfl (by kernel_rfl) (by kernel_rfl) (by kernel_rfl) (fun _ _ _ h=>h) (Or.inl ⟨by kernel_rfl,?_⟩) (by assumption) ?_;rotate_left 1;(· intro wx hSw;(try dsimp only at hSw);obtain⟨p0,p1,p2,p3,q0,q1,q2,q3⟩:=NS.cells hSw;go_simp;(try with_reducible rfl)))
     try simp only[Act.put,sA,sB,sC]
     (refine wpAnyH_take (i:=16) (oi:=⟨some 42,_,_,_,_,_⟩) (v:=?_) rfl (by kernel_rfl) (by kernel_rfl) (by kernel_rfl) (fun _ _ _ h=>h) (Or.inl ⟨by kernel_rfl,?_⟩) (by assumption) ?_;rotate_left 1;(· intro wx hSw;(try dsimp only at hSw);obtain⟨p0,p1,p2,p3,q0,q1,q2,q3⟩:=NS.cells hSw;go_simp;(try with_reducible rfl)))
     try simp only[Act.put,sA,sB,sC]
     refine wpAnyH_done (by kernel_rfl) ?_ _;clear HR HX HB;have HHH:=Lib.hid hHeld;obtain⟨p0,p1,p2,p3,q0,q1,q2,q3⟩:=HHH.out.cells;clear hHeld;go_wp2_with fail;refine(vcopy_any k2 n2 t2 ks2 A2 l2 c2 _ HNK2.out hk2 hn2 (Kd.call HK2.out HHH.out.low)).mono ?_;rintro e w9 ⟨A3,l3,c3,rfl,hN9,hb9⟩;have HB9:=Lib.hid (HB1.out.trans ((below_next HHH.out.low hb9).mono HB1.out.size));have HN9:=Lib.hid hN9;clear hN9 hb9 p0 p1 p2 p3 q0 q1 q2 q3;have hfd:∀ w:World,(Instr.field 44 (.agg #[.int .u8 (k2:Int),.int .u64 (n2:Int),.string t2,.slice A3 l3 c3]) 3).run Tryz.prog w=.ok (.slice A3 l3 c3) w:=fun _=>by kernel_rfl
     go_wp2;refine bodyPost_ret (v:=.tuple #[.pointer (some ⟨w9.heap.size,0,none⟩),.int .i64 0]) (by simp[results,Tryz.results107,go_sem]) rfl ?_;rw[HNR.out];refine⟨w9.heap.size,A3,l3,c3,rfl,HB9.out.size,⟨heap_alloc_new w9 _,?_,Nat.le_refl _⟩,by simp,HB9.out.alloc HB9.out.size _⟩;exact((Val.Kids.weak HN9.out).keep fun i hi=>Below.heap_alloc _ _ _ hi.2).mono fun i hi=>⟨by have:=hi.2;simp;omega,by have:=hi.2;omega⟩
    ·have hz:((k2:Int)==22)=false:=by simp;omega
     have HNR:Hid (newR (.mk 25 n t ks) code name=none):=Lib.hid (hO.trans (if_neg fun h=>h22 h.2));clear hO h22;go_upto_region 4 with fail
     refine wp_region_held_drew (S:=fun wx=>NS w1 wx g8 g9 k1 n1 t1 A1 l1 c1 k2 n2 t2 A2 l2 c2) (by kernel_rfl) (by exact HS.out.call (Below.refl _ _).drew) (fun hHeld=>?_)
     (refine wpAnyH_take (i:=0) (oi:=⟨some 26,_,_,_,_,_⟩) (v:=?_) rfl (by kernel_rfl) (by kernel_rfl) (by kernel_rfl) (fun _ _ _ h=>h) (Or.inl ⟨by kernel_rfl,?_⟩) (by assumption) ?_;rotate_left 1;(· intro wx hSw;(try dsimp only at hSw);obtain⟨p0,p1,p2,p3,q0,q1,q2,q3⟩:=NS.cells hSw;go_simp;(try with_reducible rfl)))
     try simp only[Act.put,sA,sB,sC]
     (refine wpAnyH_take (i:=1) (oi:=⟨some 27,_,_,_,_,_⟩) (v:=?_) rfl (by kernel_rfl) (by kernel_rfl) (by kernel_rfl) (fun _ _ _ h=>h) (Or.inl ⟨by kernel_rfl,?_⟩) (by assumption) ?_;rotate_left 1;(· intro wx hSw;(try dsimp only at hSw);obtain⟨p0,p1,p2,p3,q0,q1,q2,q3⟩:=NS.cells hSw;go_simp;(try with_reducible rfl)))
     try simp only[Act.put,sA,sB,sC]
     (refine wpAnyH_ready (rs:=[2]) (by kernel_rfl) (by simp) ?_;refine AllReadyH.cons (o:=⟨some 28,_,_,_,_,_⟩) rfl (fun K hK=>?_) AllReadyH.nil;go_simp;(go_at_call 47;(with_reducible refine(bycode_any code _).mono ?_);rintro e w2 ⟨rfl,hb2⟩);go_wp2_with fail;refine hK.out _ _ ?_ (fun hHeld=>?_);(· exact NS.call (by with_reducible assumption) (by with_reducible assumption));clear hK K)
     try simp only[Act.put,sA,sB,sC]
     (refine wpAnyH_ready (rs:=[3]) (by kernel_rfl) (by simp) ?_;refine AllReadyH.cons (o:=⟨some 29,_,_,_,_,_⟩) rfl (fun K hK=>?_) AllReadyH.nil;go_simp;(go_at_call 68;(with_reducible refine(same_code k1 n1 t1 ks1 A1 l1 c1 code _ HNK1.out (Kd.call HK1.out (NS.low (by with_reducible assumption))) false HS1.out).mono ?_);rintro e w3 ⟨rfl,hb3⟩);go_wp2_with fail;refine hK.out _ _ ?_ (fun hHeld=>?_);(· exact NS.call (by with_reducible assumption) (by with_reducible assumption));clear hK K)
     try simp only[Act.put,sA,sB,sC]
     (refine wpAnyH_take (i:=4) (oi:=⟨some 30,_,_,_,_,_⟩) (v:=?_) rfl (by kernel_rfl) (by kernel_rfl) (by kernel_rfl) (fun _ _ _ h=>h) (Or.inl ⟨by kernel_rfl,?_⟩) (by assumption) ?_;rotate_left 1;(· intro wx hSw;(try dsimp only at hSw);obtain⟨p0,p1,p2,p3,q0,q1,q2,q3⟩:=NS.cells hSw;go_simp;(try with_reducible rfl)))
     try simp only[Act.put,sA,sB,sC]
     (refine wpAnyH_take (i:=5) (oi:=⟨some 31,_,_,_,_,_⟩) (v:=?_) rfl (by kernel_rfl) (by kernel_rfl) (by kernel_rfl) (fun _ _ _ h=>h) (Or.inl ⟨by kernel_rfl,?_⟩) (by assumption) ?_;rotate_left 1;(· intro wx hSw;(try dsimp only at hSw);obtain⟨p0,p1,p2,p3,q0,q1,q2,q3⟩:=NS.cells hSw;go_simp;(try with_reducible rfl)))
     try simp only[Act.put,sA,sB,sC]
     (refine wpAnyH_take (i:=6) (oi:=⟨some 32,_,_,_,_,_⟩) (v:=?_) rfl (by kernel_rfl) (by kernel_rfl) (by kernel_rfl) (fun _ _ _ h=>h) (Or.inl ⟨by kernel_rfl,?_⟩) (by assumption) ?_;rotate_left 1;(· intro wx hSw;(try dsimp only at hSw);obtain⟨p0,p1,p2,p3,q0,q1,q2,q3⟩:=NS.cells hSw;go_simp;(try with_reducible rfl)))
     try simp only[Act.put,sA,sB,sC]
     (refine wpAnyH_take (i:=7) (oi:=⟨some 33,_,_,_,_,_⟩) (v:=?_) rfl (by kernel_rfl) (by kernel_rfl) (by kernel_rfl) (fun _ _ _ h=>h) (Or.inl ⟨by kernel_rfl,?_⟩) (by assumption) ?_;rotate_left 1;(· intro wx hSw;(try dsimp only at hSw);obtain⟨p0,p1,p2,p3,q0,q1,q2,q3⟩:=NS.cells hSw;go_simp;(try with_reducible rfl)))
     try simp only[Act.put,sA,sB,sC]
     (refine wpAnyH_ready (rs:=[8]) (by kernel_rfl) (by simp) ?_;refine AllReadyH.cons (o:=⟨some 34,_,_,_,_,_⟩) rfl (fun K hK=>?_) AllReadyH.nil;go_simp;(go_at_call 19;(with_reducible refine(text_sym name _).mono ?_);rintro e w4 ⟨rfl,hb4⟩);go_wp2_with fail;refine hK.out _ _ ?_ (fun hHeld=>?_);(· exact NS.call (by with_reducible assumption) (by with_reducible assumption));clear hK K)
     try simp only[Act.put,sA,sB,sC]
     (refine wpAnyH_ready (rs:=[9]) (by kernel_rfl) (by simp) ?_;refine AllReadyH.cons (o:=⟨some 35,_,_,_,_,_⟩) rfl (fun K hK=>?_) AllReadyH.nil;go_simp;(go_at_call 68;(with_reducible refine(same_name k1 n1 t1 ks1 A1 l1 c1 name _ HNK1.out (Kd.call HK1.out (NS.low (by with_reducible assumption))) true HS2.out).mono ?_);rintro e w5 ⟨rfl,hb5⟩);go_wp2_with fail;refine hK.out _ _ ?_ (fun hHeld=>?_);(· exact NS.call (by with_reducible assumption) (by with_reducible assumption));clear hK K)
     try simp only[Act.put,sA,sB,sC]
     (refine wpAnyH_take (i:=10) (oi:=⟨some 36,_,_,_,_,_⟩) (v:=?_) rfl (by kernel_rfl) (by kernel_rfl) (by kernel_rfl) (fun _ _ _ h=>h) (Or.inl ⟨by kernel_rfl,?_⟩) (by assumption) ?_;rotate_left 1;(· intro wx hSw;(try dsimp only at hSw);obtain⟨p0,p1,p2,p3,q0,q1,q2,q3⟩:=NS.cells hSw;go_simp;(try with_reducible rfl)))
     try simp only[Act.put,sA,sB,sC]
     (refine wpAnyH_take (i:=11) (oi:=⟨some 37,_,_,_,_,_⟩) (v:=?_) rfl (by kernel_rfl) (by kernel_rfl) (by kernel_rfl) (fun _ _ _ h=>h) (Or.inl ⟨by kernel_rfl,?_⟩) (by assumption) ?_;rotate_left 1;(· intro wx hSw;(try dsimp only at hSw);obtain⟨p0,p1,p2,p3,q0,q1,q2,q3⟩:=NS.cells hSw;go_simp;(try with_reducible rfl)))
     try simp only[Act.put,sA,sB,sC]
     (refine wpAnyH_take (i:=12) (oi:=⟨some 38,_,_,_,_,_⟩) (v:=?_) rfl (by kernel_rfl) (by kernel_rfl) (by kernel_rfl) (fun _ _ _ h=>h) (Or.inl ⟨by kernel_rfl,?_⟩) (by assumption) ?_;rotate_left 1;(· intro wx hSw;(try dsimp only at hSw);obtain⟨p0,p1,p2,p3,q0,q1,q2,q3⟩:=NS.cells hSw;go_simp;(try with_reducible rfl)))
     try simp only[Act.put,sA,sB,sC]
     (refine wpAnyH_take (i:=13) (oi:=⟨some 39,_,_,_,_,_⟩) (v:=?_) rfl (by kernel_rfl) (by kernel_rfl) (by kernel_rfl) (fun _ _ _ h=>h) (Or.inl ⟨by kernel_rfl,?_⟩) (by assumption) ?_;rotate_left 1;(· intro wx hSw;(try dsimp only at hSw);obtain⟨p0,p1,p2,p3,q0,q1,q2,q3⟩:=NS.cells hSw;go_simp;(try with_reducible rfl)))
     try simp only[Act.put,sA,sB,sC]
     (refine wpAnyH_take (i:=14) (oi:=⟨some 40,_,_,_,_,_⟩) (v:=?_) rfl (by kernel_rfl) (by kernel_rfl) (by kernel_rfl) (fun _ _ _ h=>h) (Or.inl ⟨by kernel_rfl,?_⟩) (by assumption) ?_;rotate_left 1;(· intro wx hSw;(try dsimp only at hSw);obtain⟨p0,p1,p2,p3,q0,q1,q2,q3⟩:=NS.cells hSw;go_simp;(try with_reducible rfl)))
     try simp only[Act.put,sA,sB,sC]
     (refine wpAnyH_take (i:=15) (oi:=⟨some 41,_,_,_,_,_⟩) (v:=?_) rfl (by kernel_rfl) (by kernel_rfl) (by kernel_rfl) (fun _ _ _ h=>h) (Or.inl ⟨by kernel_rfl,?_⟩) (by assumption) ?_;rotate_left 1;(· intro wx hSw;(try dsimp only at hSw);obtain⟨p0,p1,p2,p3,q0,q1,q2,q3⟩:=NS.cells hSw;go_simp;(try with_reducible rfl)))
     try simp only[Act.put,sA,sB,sC]
     (refine wpAnyH_take (i:=16) (oi:=⟨some 42,_,_,_,_,_⟩) (v:=?_) rfl (by kernel_rfl) (by kernel_rfl) (by kernel_rfl) (fun _ _ _ h=>h) (Or.inl ⟨by kernel_rfl,?_⟩) (by assumption) ?_;rotate_left 1;(· intro wx hSw;(try dsimp only at hSw);obtain⟨p0,p1,p2,p3,q0,q1,q2,q3⟩:=NS.cells hSw;go_simp;(try with_reducible rfl)))
     try simp only[Act.put,sA,sB,sC]
     refine wpAnyH_done (by kernel_rfl) ?_ _;clear HK1 HK2 HR HX HB;go_wp2;refine bodyPost_ret (v:=.tuple #[.pointer none,.int .i64 6]) (by simp[results,Tryz.results107,go_sem]) rfl ?_;rw[HNR.out];exact⟨rfl,HB1.out.trans (hHeld.low.mono HB1.out.size)⟩
   | false=>
    have HS2:=Lib.hid hs2;have hca:calledB (.mk k1 n1 t1 ks1) code name=false:=by unfold calledB;rw[hs1,hs2];rfl
    rw[hca] at hO;have HNR:Hid (newR (.mk 25 n t ks) code name=none):=Lib.hid (hO.trans (if_neg fun h=>Bool.false_ne_true h.1));clear hs1 hs2 hca hO;go_upto_region 4 with fail
    refine wp_region_held_drew (S:=fun wx=>NS w1 wx g8 g9 k1 n1 t1 A1 l1 c1 k2 n2 t2 A2 l2 c2) (by kernel_rfl) (by exact HS.out.call (Below.refl _ _).drew) (fun hHeld=>?_)
    (refine wpAnyH_take (i:=0) (oi:=⟨some 26,_,_,_,_,_⟩) (v:=?_) rfl (by kernel_rfl) (by kernel_rfl) (by kernel_rfl) (fun _ _ _ h=>h) (Or.inl ⟨by kernel_rfl,?_⟩) (by assumption) ?_;rotate_left 1;(· intro wx hSw;(try dsimp only at hSw);obtain⟨p0,p1,p2,p3,q0,q1,q2,q3⟩:=NS.cells hSw;go_simp;(try with_reducible rfl)))
    try simp only[Act.put,sA,sB,sC]
    (refine wpAnyH_take (i:=1) (oi:=⟨some 27,_,_,_,_,_⟩) (v:=?_) rfl (by kernel_rfl) (by kernel_rfl) (by kernel_rfl) (fun _ _ _ h=>h) (Or.inl ⟨by kernel_rfl,?_⟩) (by assumption) ?_;rotate_left 1;(· intro wx hSw;(try dsimp only at hSw);obtain⟨p0,p1,p2,p3,q0,q1,q2,q3⟩:=NS.cells hSw;go_simp;(try with_reducible rfl)))
    try simp only[Act.put,sA,sB,sC]
    (refine wpAnyH_ready (rs:=[2]) (by kernel_rfl) (by simp) ?_;refine AllReadyH.cons (o:=⟨some 28,_,_,_,_,_⟩) rfl (fun K hK=>?_) AllReadyH.nil;go_simp;(go_at_call 47;(with_reducible refine(bycode_any code _).mono ?_);rintro e w2 ⟨rfl,hb2⟩);go_wp2_with fail;refine hK.out _ _ ?_ (fun hHeld=>?_);(· exact NS.call (by with_reducible assumption) (by with_reducible assumption));clear hK K)
    try simp only[Act.put,sA,sB,sC]
    (refine wpAnyH_ready (rs:=[3]) (by kernel_rfl) (by simp) ?_;refine AllReadyH.cons (o:=⟨some 29,_,_,_,_,_⟩) rfl (fun K hK=>?_) AllReadyH.nil;go_simp;(go_at_call 68;(with_reducible refine(same_code k1 n1 t1 ks1 A1 l1 c1 code _ HNK1.out (Kd.call HK1.out (NS.low (by with_reducible assumption))) false HS1.out).mono ?_);rintro e w3 ⟨rfl,hb3⟩);go_wp2_with fail;refine hK.out _ _ ?_ (fun hHeld=>?_);(· exact NS.call (by with_reducible assumption) (by with_reducible assumption));clear hK K)
    try simp only[Act.put,sA,sB,sC]
    (refine wpAnyH_take (i:=4) (oi:=⟨some 30,_,_,_,_,_⟩) (v:=?_) rfl (by kernel_rfl) (by kernel_rfl) (by kernel_rfl) (fun _ _ _ h=>h) (Or.inl ⟨by kernel_rfl,?_⟩) (by assumption) ?_;rotate_left 1;(· intro wx hSw;(try dsimp only at hSw);obtain⟨p0,p1,p2,p3,q0,q1,q2,q3⟩:=NS.cells hSw;go_simp;(try with_reducible rfl)))
    try simp only[Act.put,sA,sB,sC]
    (refine wpAnyH_take (i:=5) (oi:=⟨some 31,_,_,_,_,_⟩) (v:=?_) rfl (by kernel_rfl) (by kernel_rfl) (by kernel_rfl) (fun _ _ _ h=>h) (Or.inl ⟨by kernel_rfl,?_⟩) (by assumption) ?_;rotate_left 1;(· intro wx hSw;(try dsimp only at hSw);obtain⟨p0,p1,p2,p3,q0,q1,q2,q3⟩:=NS.cells hSw;go_simp;(try with_reducible rfl)))
    try simp only[Act.put,sA,sB,sC]
    (refine wpAnyH_take (i:=6) (oi:=⟨some 32,_,_,_,_,_⟩) (v:=?_) rfl (by kernel_rfl) (by kernel_rfl) (by kernel_rfl) (fun _ _ _ h=>h) (Or.inl ⟨by kernel_rfl,?_⟩) (by assumption) ?_;rotate_left 1;(· intro wx hSw;(try dsimp only at hSw);obtain⟨p0,p1,p2,p3,q0,q1,q2,q3⟩:=NS.cells hSw;go_simp;(try with_reducible rfl)))
    try simp only[Act.put,sA,sB,sC]
    (refine wpAnyH_take (i:=7) (oi:=⟨some 33,_,_,_,_,_⟩) (v:=?_) rfl (by kernel_rfl) (by kernel_rfl) (by kernel_rfl) (fun _ _ _ h=>h) (Or.inl ⟨by kernel_rfl,?_⟩) (by assumption) ?_;rotate_left 1;(· intro wx hSw;(try dsimp only at hSw);obtain⟨p0,p1,p2,p3,q0,q1,q2,q3⟩:=NS.cells hSw;go_simp;(try with_reducible rfl)))
    try simp only[Act.put,sA,sB,sC]
    (refine wpAnyH_ready (rs:=[8]) (by kernel_rfl) (by simp) ?_;refine AllReadyH.cons (o:=⟨some 34,_,_,_,_,_⟩) rfl (fun K hK=>?_) AllReadyH.nil;go_simp;(go_at_call 19;(with_reducible refine(text_sym name _).mono ?_);rintro e w4 ⟨rfl,hb4⟩);go_wp2_with fail;refine hK.out _ _ ?_ (fun hHeld=>?_);(· exact NS.call (by with_reducible assumption) (by with_reducible assumption));clear hK K)
    try simp only[Act.put,sA,sB,sC]
    (refine wpAnyH_ready (rs:=[9]) (by kernel_rfl) (by simp) ?_;refine AllReadyH.cons (o:=⟨some 35,_,_,_,_,_⟩) rfl (fun K hK=>?_) AllReadyH.nil;go_simp;(go_at_call 68;(with_reducible refine(same_name k1 n1 t1 ks1 A1 l1 c1 name _ HNK1.out (Kd.call HK1.out (NS.low (by with_reducible assumption))) false HS2.out).mono ?_);rintro e w5 ⟨rfl,hb5⟩);go_wp2_with fail;refine hK.out _ _ ?_ (fun hHeld=>?_);(· exact NS.call (by with_reducible assumption) (by with_reducible assumption));clear hK K)
    try simp only[Act.put,sA,sB,sC]
    (refine wpAnyH_take (i:=10) (oi:=⟨some 36,_,_,_,_,_⟩) (v:=?_) rfl (by kernel_rfl) (by kernel_rfl) (by kernel_rfl) (fun _ _ _ h=>h) (Or.inl ⟨by kernel_rfl,?_⟩) (by assumption) ?_;rotate_left 1;(· intro wx hSw;(try dsimp only at hSw);obtain⟨p0,p1,p2,p3,q0,q1,q2,q3⟩:=NS.cells hSw;go_simp;(try with_reducible rfl)))
    try simp only[Act.put,sA,sB,sC]
    (refine wpAnyH_take (i:=11) (oi:=⟨some 37,_,_,_,_,_⟩) (v:=?_) rfl (by kernel_rfl) (by kernel_rfl) (by kernel_rfl) (fun _ _ _ h=>h) (Or.inl ⟨by kernel_rfl,?_⟩) (by assumption) ?_;rotate_left 1;(· intro wx hSw;(try dsimp only at hSw);obtain⟨p0,p1,p2,p3,q0,q1,q2,q3⟩:=NS.cells hSw;go_simp;(try with_reducible rfl)))
    try simp only[Act.put,sA,sB,sC]
    (refine wpAnyH_take (i:=12) (oi:=⟨some 38,_,_,_,_,_⟩) (v:=?_) rfl (by kernel_rfl) (by kernel_rfl) (by kernel_rfl) (fun _ _ _ h=>h) (Or.inl ⟨by kernel_rfl,?_⟩) (by assumption) ?_;rotate_left 1;(· intro wx hSw;(try dsimp only at hSw);obtain⟨p0,p1,p2,p3,q0,q1,q2,q3⟩:=NS.cells hSw;go_simp;(try with_reducible rfl)))
    try simp only[Act.put,sA,sB,sC]
    (refine wpAnyH_take (i:=13) (oi:=⟨some 39,_,_,_,_,_⟩) (v:=undef) rfl (by kernel_rfl) (by kernel_rfl) (by kernel_rfl) (fun _ _ _ h=>h) (Or.inr ⟨by kernel_rfl,rfl⟩) (by assumption) ?_)
    try simp only[Act.put,sA,sB,sC]
    (refine wpAnyH_take (i:=14) (oi:=⟨some 40,_,_,_,_,_⟩) (v:=undef) rfl (by kernel_rfl) (by kernel_rfl) (by kernel_rfl) (fun _ _ _ h=>h) (Or.inr ⟨by kernel_rfl,rfl⟩) (by assumption) ?_)
    try simp only[Act.put,sA,sB,sC]
    (refine wpAnyH_take (i:=15) (oi:=⟨some 41,_,_,_,_,_⟩) (v:=undef) rfl (by kernel_rfl) (by kernel_rfl) (by kernel_rfl) (fun _ _ _ h=>h) (Or.inr ⟨by kernel_rfl,rfl⟩) (by assumption) ?_)
    try simp only[Act.put,sA,sB,sC]
    (refine wpAnyH_take (i:=16) (oi:=⟨some 42,_,_,_,_,_⟩) (v:=?_) rfl (by kernel_rfl) (by kernel_rfl) (by kernel_rfl) (fun _ _ _ h=>h) (Or.inl ⟨by kernel_rfl,?_⟩) (by assumption) ?_;rotate_left 1;(· intro wx hSw;(try dsimp only at hSw);obtain⟨p0,p1,p2,p3,q0,q1,q2,q3⟩:=NS.cells hSw;go_simp;(try with_reducible rfl)))
    try simp only[Act.put,sA,sB,sC]
    refine wpAnyH_done (by kernel_rfl) ?_ _;clear HK1 HK2 HR HX HB;go_wp2;refine bodyPost_ret (v:=.tuple #[.pointer none,.int .i64 6]) (by simp[results,Tryz.results107,go_sem]) rfl ?_;rw[HNR.out];exact⟨rfl,HB1.out.trans (hHeld.low.mono HB1.out.size)⟩
theorem new_any (k n:Nat)(t:ByteArray)(ks:List V)(A:Option Addr)(l c code:Nat)(name:ByteArray)(w:World)(hN:bulkL ks≤536870912)(ht:t.size≤536870912)(hn:n < 18446744073709551616)(hK:Kd w ks A l c)(hTab:Tab w) :
  Calls Tryz.prog 107 #[.agg #[.int .u8 (k:Int),.int .u64 (n:Int),.string t,.slice A l c],.int .u64 (code:Int),.string name] w (GivesNew (newR (.mk k n t ks) code name) w):=by
 cases hok:okB (.mk k n t ks) with
 | false=>
  rw[show newR (.mk k n t ks) code name=none from if_neg fun h=>by rw[hok] at h;exact Bool.false_ne_true h.1];exact new_bad k n t ks A l c code name w hN ht hn hK hTab (.inl hok)
 | true=>
  by_cases h25:k=25
  ·subst h25;have hm:mayB (.mk 25 n t ks)=true:=by
    unfold okB at hok;simp only[Bool.and_eq_true] at hok;exact hok.2
   obtain⟨x,y,hks,_⟩:=may_desc hm;exact new_pair n t ks x y hks A l c code name w hN ht hn hK hTab hok
  ·rw[show newR (.mk k n t ks) code name=none from if_neg fun h=>h25 h.2];exact new_bad k n t ks A l c code name w hN ht hn hK hTab (.inr h25)
end Go.Proofs.YtcilmmdmkpnppaaGreatDoor.Fl
end
section
namespace Go.Proofs.YtcilmmdmkpnppaaGreatDoor.valueAlike
set_option maxRecDepth 100000
open Go.RowKit Utf Val V
def evens:List V→List V
 | []=>[]
 | [x]=>[x]
 | x::_::r=>x::evens r
theorem evens_at:∀ (l:List V) (m:Nat),(evens l)[m]? = l[2 * m]?
 | [],m=>by simp[evens]
 | [x],0=>by simp[evens]
 | [x],m+1=>by simp[evens,show 2 * (m+1)=2 * m+1+1 by omega]
 | x::y::r,0=>by simp[evens]
 | x::y::r,m+1=>by simp[evens,show 2 * (m+1)=2 * m+1+1 by omega,evens_at r m]
theorem evens_length:∀ l:List V,(evens l).length=(l.length+1) / 2
 | []=>by simp[evens]
 | [x]=>by simp[evens]
 | x::y::r=>by simp only[evens,List.length_cons,evens_length r];omega
theorem evens_snoc:∀ (l:List V) (x:V),evens (l++[x])=if l.length % 2=0 then evens l++[x] else evens l
 | [],x=>rfl
 | [y],x=>rfl
 | y::z::r,x=>by
  simp only[List.cons_append,evens,evens_snoc r x,List.length_cons];by_cases h:r.length % 2=0
  ·rw[if_pos h,if_pos (by omega)]
  ·rw[if_neg h,if_neg (by omega)]
theorem evens_keys:∀ l:List V,l.length % 2=0→keysL l=evens l
 | [],_=>rfl
 | [x],h=>by simp at h
 | x::y::r,h=>by
  simp only[List.length_cons] at h;have:=evens_keys r (by omega);simp only[keysL,pairsL,List.map_cons,evens] at this ⊢;rw[this]
def unl (l:List V)(j:Nat):Bool:=noDup (evens (l.take j))
theorem unl_odd {l:List V}{j:Nat}(hj:j < l.length)(h:j % 2=1):unl l (j+1)=unl l j:=by
 unfold unl;have hx:l[j]? = some l[j]:=List.getElem?_eq_getElem hj;rw[take_snoc hx,evens_snoc,if_neg (by simp;omega)]
theorem unl_even {l:List V}{j:Nat}{x:V}(hx:l[j]? = some x)(h:j % 2=0):unl l (j+1)=(unl l j && !(evens (l.take j)).any fun y=>same x y):=by
 unfold unl;have hj:=(List.getElem?_eq_some_iff.1 hx).1;rw[take_snoc hx,evens_snoc,if_pos (by simp;omega),noDup_snoc]
def seen (l:List V)(j m:Nat)(x:V):Bool:=((evens (l.take j)).take m).any fun y=>same x y
theorem seen_zero (l:List V)(j:Nat)(x:V):seen l j 0 x=false:=by simp[seen]
theorem seen_step {l:List V}{j m:Nat}{x y:V}(hy:l[2 * m]? = some y)(h:2 * m < j):seen l j (m+1) x=(seen l j m x||same x y):=by
 have e:(evens (l.take j))[m]? = some y:=by
  rw[evens_at,List.getElem?_take];rw[if_pos h];exact hy
 unfold seen;rw[take_snoc e,List.any_append];simp
theorem seen_all {l:List V}{j m:Nat}{x:V}(h:j≤2 * m):seen l j m x=(evens (l.take j)).any fun y=>same x y:=by
 unfold seen;rw[List.take_of_length_le];rw[evens_length,List.length_take];omega
end Go.Proofs.YtcilmmdmkpnppaaGreatDoor.valueAlike
end
section
namespace Go.Proofs.YtcilmmdmkpnppaaGreatDoor.Val
set_option maxRecDepth 100000
open Go.RowKit Utf V
section
variable {W0 w':World} {g1 g2 b o c b' o' c' n n' xk xn yk yn xk' xn' yk' yn':Nat} {t t' xt yt xt' yt':ByteArray} {xs ys xs' ys':List V} {B1 B2 B1' B2':Option Addr} {l1 c1 l2 c2 l1' c1' l2' c2':Nat}
theorem xal_held (B1x:Box W0 g1 (.int .u8 25) (.int .u64 n) (.string t) (.slice (some ⟨b,o,none⟩) 2 c))(B2x:Box W0 g2 (.int .u8 25) (.int .u64 n') (.string t') (.slice (some ⟨b',o',none⟩) 2 c'))
  (E1:El W0 b o xk xn xt xs B1 l1 c1) (E2:El W0 b (o+4) yk yn yt ys B2 l2 c2) (E1':El W0 b' o' xk' xn' xt' xs' B1' l1' c1') (E2':El W0 b' (o'+4) yk' yn' yt' ys' B2' l2' c2') (hb:Below W0.heap.size W0 w') :
  w'.cell? ⟨g1,0,none⟩=some (.int .u8 25)∧w'.cell? ⟨g1,1,none⟩=some (.int .u64 (n:Int))∧w'.cell? ⟨g1,2,none⟩=some (.string t)∧w'.cell? ⟨g1,3,none⟩=some (.slice (some ⟨b,o,none⟩) 2 c)∧w'.cell? ⟨g2,0,none⟩=some (.int .u8 25)∧w'.cell? ⟨g2,1,none⟩=some (.int .u64 (n':Int))∧w'.cell? ⟨g2,2,none⟩=some (.string t')∧w'.cell? ⟨g2,3,none⟩=some (.slice (some ⟨b',o',none⟩) 2 c')∧w'.cell? ⟨b,o,none⟩=some (.int .u8 (xk:Int))∧w'.cell? ⟨b,o+1,none⟩=some (.int .u64 (xn:Int))∧w'.cell? ⟨b,o+2,none⟩=some (.string xt)∧w'.cell? ⟨b,o+3,none⟩=some (.slice B1 l1 c1)∧w'.cell? ⟨b,o+4,none⟩=some (.int .u8 (yk:Int))∧w'.cell? ⟨b,o+5,none⟩=some (.int .u64 (yn:Int))∧w'.cell? ⟨b,o+6,none⟩=some (.string yt)∧w'.cell? ⟨b,o+7,none⟩=some (.slice B2 l2 c2)∧w'.cell? ⟨b',o',none⟩=some (.int .u8 (xk':Int))∧w'.cell? ⟨b',o'+1,none⟩=some (.int .u64 (xn':Int))∧w'.cell? ⟨b',o'+2,none⟩=some (.string xt')∧w'.cell? ⟨b',o'+3,none⟩=some (.slice B1' l1' c1')∧w'.cell? ⟨b',o'+4,none⟩=some (.int .u8 (yk':Int))∧w'.cell? ⟨b',o'+5,none⟩=some (.int .u64 (yn':Int))∧w'.cell? ⟨b',o'+6,none⟩=some (.string yt')∧w'.cell? ⟨b',o'+7,none⟩=some (.slice B2' l2' c2')∧Below W0.heap.size W0 w':=by
 obtain⟨p0,p1,p2,p3,_⟩:=(B1x.call hb).all;obtain⟨q0,q1,q2,q3,_⟩:=(B2x.call hb).all;obtain⟨a0,a1,a2,a3⟩:=(E1.call hb).cells;obtain⟨d0,d1,d2,d3⟩:=(E2.call hb).cells;obtain⟨r0,r1,r2,r3⟩:=(E1'.call hb).cells;exact⟨p0,p1,p2,p3,q0,q1,q2,q3,a0,a1,a2,a3,d0,d1,d2,d3,r0,r1,r2,r3,E2'.held hb⟩
end
theorem kd_pair {w:World}{xk xn yk yn:Nat}{xt yt:ByteArray}{xs ys:List V}{A:Option Addr}{l c:Nat}(h:Kd w [.mk xk xn xt xs,.mk yk yn yt ys] A l c):l=2∧∃ b o B1 l1 c1 B2 l2 c2,A=some ⟨b,o,none⟩∧El w b o xk xn xt xs B1 l1 c1∧El w b (o+4) yk yn yt ys B2 l2 c2∧xk < 256∧xn < 18446744073709551616:=by
 have hl:l=2:=h.len;subst hl;obtain⟨b,o,k,n,t,ks,B1,l1,c1,rfl,hx,hk,hn,_,E1⟩:=h.el (i:=0) (by omega);obtain⟨b',o',k',n',t',ks',B2,l2,c2,e,hy,_,_,_,E2⟩:=h.el (i:=1) (by omega);simp only[Option.some.injEq,Addr.mk.injEq,and_true] at e;obtain⟨rfl,rfl⟩:=e;simp only[List.getElem?_cons_zero,List.getElem?_cons_succ,Option.some.injEq,V.mk.injEq] at hx hy;obtain⟨rfl,rfl,rfl,rfl⟩:=hx;obtain⟨rfl,rfl,rfl,rfl⟩:=hy;rw[Nat.zero_mul,Nat.add_zero] at E1;rw[Nat.one_mul] at E2;exact⟨rfl,b,o,B1,l1,c1,B2,l2,c2,rfl,E1,E2,hk,hn⟩
set_option maxRecDepth 100000 in
set_option maxHeartbeats 2000000 in
theorem xalike_any (N:Nat):∀ (k n:Nat) (t:ByteArray) (ks:List V) (A:Option Addr) (l c:Nat) (k' n':Nat) (t':ByteArray) (ks':List V) (A':Option Addr) (l' c':Nat) (w:World),bulkL ks≤N→N≤1073741824 →
  mayB (.mk k n t ks)=true→mayB (.mk k' n' t' ks')=true→Kd w ks A l c→Kd w ks' A' l' c' →
  Calls Tryz.prog 134 #[.agg #[.int .u8 k,.int .u64 n,.string t,.slice A l c],.agg #[.int .u8 k',.int .u64 n',.string t',.slice A' l' c']] w (GivesB (alikeB (.mk k n t ks) (.mk k' n' t' ks')) w):=by
 induction N using Nat.strongRecOn with
 | ind N ih=>
 intro k n t ks A l c k' n' t' ks' A' l' c' w hN hN2 hM hM' hK hK';have hB:=two_boxes w (.cells #[.int .u8 k,.int .u64 n,.string t,.slice A l c] 44) (.cells #[.int .u8 k',.int .u64 n',.string t',.slice A' l' c'] 44);by_cases e1:k=k'
 ·subst e1;by_cases e2:k=25
  ·subst e2;obtain⟨⟨xk,xn,xt,xs⟩,⟨yk,yn,yt,ys⟩,rfl,_,hx,hy⟩:=may_desc hM;obtain⟨⟨xk',xn',xt',xs'⟩,⟨yk',yn',yt',ys'⟩,rfl,_,hx',hy'⟩:=may_desc hM';have HA:=Lib.hid (alikeB_desc n n' t t' (.mk xk xn xt xs) (.mk yk yn yt ys) (.mk xk' xn' xt' xs') (.mk yk' yn' yt' ys') [] []);simp only[bulkL,bulk] at hN;obtain⟨rfl,b,o,B1,l1,c1,B2,l2,c2,rfl,E1,E2,hk1,hn1⟩:=kd_pair hK;obtain⟨rfl,b',o',B1',l1',c1',B2',l2',c2',rfl,E1',E2',hk1',hn1'⟩:=kd_pair hK';have B1x:Box ((w.alloc (.cells #[.int .u8 (25:Nat),.int .u64 n,.string t,.slice (some ⟨b,o,none⟩) 2 c] 44)).alloc (.cells #[.int .u8 (25:Nat),.int .u64 n',.string t',.slice (some ⟨b',o',none⟩) 2 c'] 44)) w.heap.size (.int .u8 25) (.int .u64 n) (.string t) (.slice (some ⟨b,o,none⟩) 2 c):=(Box.new w _ _ _ _).alloc _;have B2x:Box ((w.alloc (.cells #[.int .u8 (25:Nat),.int .u64 n,.string t,.slice (some ⟨b,o,none⟩) 2 c] 44)).alloc (.cells #[.int .u8 (25:Nat),.int .u64 n',.string t',.slice (some ⟨b',o',none⟩) 2 c'] 44)) (w.heap.size+1) (.int .u8 25) (.int .u64 n') (.string t') (.slice (some ⟨b',o',none⟩) 2 c'):=Box.new2 w _ _ _ _ _;replace E1:=E1.call hB;replace E2:=E2.call hB;replace E1':=E1'.call hB;replace E2':=E2'.call hB;obtain⟨W0,hW0⟩:∃ W0,(w.alloc (.cells #[.int .u8 (25:Nat),.int .u64 n,.string t,.slice (some ⟨b,o,none⟩) 2 c] 44)).alloc (.cells #[.int .u8 (25:Nat),.int .u64 n',.string t',.slice (some ⟨b',o',none⟩) 2 c'] 44)=W0:=⟨_,rfl⟩;rw[hW0] at B1x B2x E1 E2 E1' E2' hB;have HW0:=Lib.hid hW0;obtain⟨q,hq⟩:∃ q,same (.mk xk xn xt xs) (.mk xk' xn' xt' xs')=q:=⟨_,rfl⟩;obtain⟨r,hr⟩:∃ r,alikeB (.mk yk yn yt ys) (.mk yk' yn' yt' ys')=r:=⟨_,rfl⟩;have HSA:∀ {W:World},Below W0.heap.size W0 W→Calls Tryz.prog 133 #[.agg #[.int .u8 xk,.int .u64 xn,.string xt,.slice B1 l1 c1],.agg #[.int .u8 xk',.int .u64 xn',.string xt',.slice B1' l1' c1']] W (GivesB q W):=fun h=>hq▸xsame_any (bulkL xs) xk xn xt xs B1 l1 c1 xk' xn' xt' xs' B1' l1' c1' _ (Nat.le_refl _) (by omega) hk1 hk1' hn1 hn1' (E1.kd.call h) (E1'.kd.call h);have HAL:∀ {W:World},Below W0.heap.size W0 W→Calls Tryz.prog 134 #[.agg #[.int .u8 yk,.int .u64 yn,.string yt,.slice B2 l2 c2],.agg #[.int .u8 yk',.int .u64 yn',.string yt',.slice B2' l2' c2']] W (GivesB r W):=fun h=>hr▸ih (bulkL ys) (by omega) yk yn yt ys B2 l2 c2 yk' yn' yt' ys' B2' l2' c2' _ (Nat.le_refl _) (by omega) hy hy' (E2.kd.call h) (E2'.kd.call h);rw[hq,hr] at HA;clear ih hM hM' hK hK' hx hx' hy hy' hN hq hr hW0;have hH0:Below W0.heap.size W0 W0.drew:=(Below.refl _ _).drew;simp only[Int.cast_ofNat_Int] at HW0;go_enter Tryz.func134,Tryz.ntmps134;go_upto_region 3 with fail
   rw[HW0.out];obtain⟨g1,hg1⟩:∃ g,w.heap.size=g:=⟨_,rfl⟩;obtain⟨g2,hg2⟩:∃ g,w.heap.size+1=g:=⟨_,rfl⟩;rw[hg2] at B2x;rw[hg1] at B1x;rw[hg2,hg1];go_cut [4] (fun s4 wx=>s4=.bool (q&&r)∧Below W0.heap.size W0 wx)
   case first=>
    cases q
    ·refine wp_region_noPanic ?_;refine wp_region_held_drew (S:=fun wx=>wx.cell? ⟨g1,0,none⟩=some (.int .u8 25)∧wx.cell? ⟨g1,1,none⟩=some (.int .u64 (n:Int))∧wx.cell? ⟨g1,2,none⟩=some (.string t)∧wx.cell? ⟨g1,3,none⟩=some (.slice (some ⟨b,o,none⟩) 2 c)∧wx.cell? ⟨g2,0,none⟩=some (.int .u8 25)∧wx.cell? ⟨g2,1,none⟩=some (.int .u64 (n':Int))∧wx.cell? ⟨g2,2,none⟩=some (.string t')∧wx.cell? ⟨g2,3,none⟩=some (.slice (some ⟨b',o',none⟩) 2 c')∧wx.cell? ⟨b,o,none⟩=some (.int .u8 (xk:Int))∧wx.cell? ⟨b,o+1,none⟩=some (.int .u64 (xn:Int))∧wx.cell? ⟨b,o+2,none⟩=some (.string xt)∧wx.cell? ⟨b,o+3,none⟩=some (.slice B1 l1 c1)∧wx.cell? ⟨b,o+4,none⟩=some (.int .u8 (yk:Int))∧wx.cell? ⟨b,o+5,none⟩=some (.int .u64 (yn:Int))∧wx.cell? ⟨b,o+6,none⟩=some (.string yt)∧wx.cell? ⟨b,o+7,none⟩=some (.slice B2 l2 c2)∧wx.cell? ⟨b',o',none⟩=some (.int .u8 (xk':Int))∧wx.cell? ⟨b',o'+1,none⟩=some (.int .u64 (xn':Int))∧wx.cell? ⟨b',o'+2,none⟩=some (.string xt')∧wx.cell? ⟨b',o'+3,none⟩=some (.slice B1' l1' c1')∧wx.cell? ⟨b',o'+4,none⟩=some (.int .u8 (yk':Int))∧wx.cell? ⟨b',o'+5,none⟩=some (.int .u64 (yn':Int))∧wx.cell? ⟨b',o'+6,none⟩=some (.string yt')∧wx.cell? ⟨b',o'+7,none⟩=some (.slice B2' l2' c2')∧Below W0.heap.size W0 wx) (by kernel_rfl) (by exact xal_held B1x B2x E1 E2 E1' E2' hH0) (fun hHeld=>?_)
     (refine wpAnyH_take (i:=0) (oi:=⟨some 10,_,_,_,_,_⟩) (v:=?_) rfl (by kernel_rfl) (by kernel_rfl) (by kernel_rfl) (fun _ _ _ h=>h) (Or.inl ⟨by kernel_rfl,?_⟩) (by assumption) ?_;rotate_left 1;(· intro w hSw;(try dsimp only at hSw);go_simp;(try with_reducible rfl)))
     try simp only[Act.put,sA,sB,sC]
     (refine wpAnyH_take (i:=1) (oi:=⟨some 11,_,_,_,_,_⟩) (v:=?_) rfl (by kernel_rfl) (by kernel_rfl) (by kernel_rfl) (fun _ _ _ h=>h) (Or.inl ⟨by kernel_rfl,?_⟩) (by assumption) ?_;rotate_left 1;(· intro w hSw;(try dsimp only at hSw);go_simp;(try with_reducible rfl)))
     try simp only[Act.put,sA,sB,sC]
     (refine wpAnyH_take (i:=2) (oi:=⟨some 12,_,_,_,_,_⟩) (v:=?_) rfl (by kernel_rfl) (by kernel_rfl) (by kernel_rfl) (fun _ _ _ h=>h) (Or.inl ⟨by kernel_rfl,?_⟩) (by assumption) ?_;rotate_left 1;(· intro w hSw;(try dsimp only at hSw);go_simp;(try with_reducible rfl)))
     try simp only[Act.put,sA,sB,sC]
     (refine wpAnyH_take (i:=3) (oi:=⟨some 13,_,_,_,_,_⟩) (v:=?_) rfl (by kernel_rfl) (by kernel_rfl) (by kernel_rfl) (fun _ _ _ h=>h) (Or.inl ⟨by kernel_rfl,?_⟩) (by assumption) ?_;rotate_left 1;(· intro w hSw;(try dsimp only at hSw);go_simp;(try with_reducible rfl)))
     try simp only[Act.put,sA,sB,sC]
     (refine wpAnyH_take (i:=4) (oi:=⟨some 14,_,_,_,_,_⟩) (v:=?_) rfl (by kernel_rfl) (by kernel_rfl) (by kernel_rfl) (fun _ _ _ h=>h) (Or.inl ⟨by kernel_rfl,?_⟩) (by assumption) ?_;rotate_left 1;(· intro w hSw;(try dsimp only at hSw);go_simp;(try with_reducible rfl)))
     try simp only[Act.put,sA,sB,sC]
     (refine wpAnyH_take (i:=5) (oi:=⟨some 15,_,_,_,_,_⟩) (v:=?_) rfl (by kernel_rfl) (by kernel_rfl) (by kernel_rfl) (fun _ _ _ h=>h) (Or.inl ⟨by kernel_rfl,?_⟩) (by assumption) ?_;rotate_left 1;(· intro w hSw;(try dsimp only at hSw);go_simp;(try with_reducible rfl)))
     try simp only[Act.put,sA,sB,sC]
     (refine wpAnyH_take (i:=6) (oi:=⟨some 16,_,_,_,_,_⟩) (v:=?_) rfl (by kernel_rfl) (by kernel_rfl) (by kernel_rfl) (fun _ _ _ h=>h) (Or.inl ⟨by kernel_rfl,?_⟩) (by assumption) ?_;rotate_left 1;(· intro w hSw;(try dsimp only at hSw);go_simp;(try with_reducible rfl)))
     try simp only[Act.put,sA,sB,sC]
     (refine wpAnyH_take (i:=7) (oi:=⟨some 17,_,_,_,_,_⟩) (v:=?_) rfl (by kernel_rfl) (by kernel_rfl) (by kernel_rfl) (fun _ _ _ h=>h) (Or.inl ⟨by kernel_rfl,?_⟩) (by assumption) ?_;rotate_left 1;(· intro w hSw;(try dsimp only at hSw);go_simp;(try with_reducible rfl)))
     try simp only[Act.put,sA,sB,sC]
     (refine wpAnyH_take (i:=8) (oi:=⟨some 18,_,_,_,_,_⟩) (v:=?_) rfl (by kernel_rfl) (by kernel_rfl) (by kernel_rfl) (fun _ _ _ h=>h) (Or.inl ⟨by kernel_rfl,?_⟩) (by assumption) ?_;rotate_left 1;(· intro w hSw;(try dsimp only at hSw);go_simp;(try with_reducible rfl)))
     try simp only[Act.put,sA,sB,sC]
     (refine wpAnyH_take (i:=9) (oi:=⟨some 19,_,_,_,_,_⟩) (v:=?_) rfl (by kernel_rfl) (by kernel_rfl) (by kernel_rfl) (fun _ _ _ h=>h) (Or.inl ⟨by kernel_rfl,?_⟩) (by assumption) ?_;rotate_left 1;(· intro w hSw;(try dsimp only at hSw);go_simp;(try with_reducible rfl)))
     try simp only[Act.put,sA,sB,sC]
     (refine wpAnyH_take (i:=10) (oi:=⟨some 20,_,_,_,_,_⟩) (v:=?_) rfl (by kernel_rfl) (by kernel_rfl) (by kernel_rfl) (fun _ _ _ h=>h) (Or.inl ⟨by kernel_rfl,?_⟩) (by assumption) ?_;rotate_left 1;(· intro w hSw;(try dsimp only at hSw);go_simp;(try with_reducible rfl)))
     try simp only[Act.put,sA,sB,sC]
     (refine wpAnyH_take (i:=11) (oi:=⟨some 21,_,_,_,_,_⟩) (v:=?_) rfl (by kernel_rfl) (by kernel_rfl) (by kernel_rfl) (fun _ _ _ h=>h) (Or.inl ⟨by kernel_rfl,?_⟩) (by assumption) ?_;rotate_left 1;(· intro w hSw;(try dsimp only at hSw);go_simp;(try with_reducible rfl)))
     try simp only[Act.put,sA,sB,sC]
     (refine wpAnyH_ready (rs:=[12]) (by kernel_rfl) (by simp) ?_;refine AllReadyH.cons (o:=⟨some 22,_,_,_,_,_⟩) rfl (fun K hK=>?_) AllReadyH.nil;go_simp;(go_at_call 133;(with_reducible refine(HSA hH0).mono ?_);rintro e w1 ⟨rfl,hb1⟩;have hc1:=below_next hH0 hb1);go_wp2_with fail;refine hK.out _ _ ?_ (fun hHeld=>?_);(· exact xal_held B1x B2x E1 E2 E1' E2' hc1);clear hK K)
     try simp only[Act.put,sA,sB,sC]
     (refine wpAnyH_take (i:=13) (oi:=⟨some 23,_,_,_,_,_⟩) (v:=?_) rfl (by kernel_rfl) (by kernel_rfl) (by kernel_rfl) (fun _ _ _ h=>h) (Or.inl ⟨by kernel_rfl,?_⟩) (by assumption) ?_;rotate_left 1;(· intro w hSw;(try dsimp only at hSw);go_simp;(try with_reducible rfl)))
     try simp only[Act.put,sA,sB,sC]
     (refine wpAnyH_take (i:=14) (oi:=⟨some 24,_,_,_,_,_⟩) (v:=undef) rfl (by kernel_rfl) (by kernel_rfl) (by kernel_rfl) (fun _ _ _ h=>h) (Or.inr ⟨by kernel_rfl,rfl⟩) (by assumption) ?_)
     try simp only[Act.put,sA,sB,sC]
     (refine wpAnyH_take (i:=15) (oi:=⟨some 25,_,_,_,_,_⟩) (v:=undef) rfl (by kernel_rfl) (by kernel_rfl) (by kernel_rfl) (fun _ _ _ h=>h) (Or.inr ⟨by kernel_rfl,rfl⟩) (by assumption) ?_)
     try simp only[Act.put,sA,sB,sC]
     (refine wpAnyH_take (i:=16) (oi:=⟨some 26,_,_,_,_,_⟩) (v:=undef) rfl (by kernel_rfl) (by kernel_rfl) (by kernel_rfl) (fun _ _ _ h=>h) (Or.inr ⟨by kernel_rfl,rfl⟩) (by assumption) ?_)
     try simp only[Act.put,sA,sB,sC]
     (refine wpAnyH_take (i:=17) (oi:=⟨some 27,_,_,_,_,_⟩) (v:=undef) rfl (by kernel_rfl) (by kernel_rfl) (by kernel_rfl) (fun _ _ _ h=>h) (Or.inr ⟨by kernel_rfl,rfl⟩) (by assumption) ?_)
     try simp only[Act.put,sA,sB,sC]
     (refine wpAnyH_take (i:=18) (oi:=⟨some 28,_,_,_,_,_⟩) (v:=undef) rfl (by kernel_rfl) (by kernel_rfl) (by kernel_rfl) (fun _ _ _ h=>h) (Or.inr ⟨by kernel_rfl,rfl⟩) (by assumption) ?_)
     try simp only[Act.put,sA,sB,sC]
     (refine wpAnyH_take (i:=19) (oi:=⟨some 29,_,_,_,_,_⟩) (v:=undef) rfl (by kernel_rfl) (by kernel_rfl) (by kernel_rfl) (fun _ _ _ h=>h) (Or.inr ⟨by kernel_rfl,rfl⟩) (by assumption) ?_)
     try simp only[Act.put,sA,sB,sC]
     (refine wpAnyH_take (i:=20) (oi:=⟨some 30,_,_,_,_,_⟩) (v:=undef) rfl (by kernel_rfl) (by kernel_rfl) (by kernel_rfl) (fun _ _ _ h=>h) (Or.inr ⟨by kernel_rfl,rfl⟩) (by assumption) ?_)
     try simp only[Act.put,sA,sB,sC]
     (refine wpAnyH_take (i:=21) (oi:=⟨some 31,_,_,_,_,_⟩) (v:=undef) rfl (by kernel_rfl) (by kernel_rfl) (by kernel_rfl) (fun _ _ _ h=>h) (Or.inr ⟨by kernel_rfl,rfl⟩) (by assumption) ?_)
     try simp only[Act.put,sA,sB,sC]
     (refine wpAnyH_take (i:=22) (oi:=⟨some 32,_,_,_,_,_⟩) (v:=undef) rfl (by kernel_rfl) (by kernel_rfl) (by kernel_rfl) (fun _ _ _ h=>h) (Or.inr ⟨by kernel_rfl,rfl⟩) (by assumption) ?_)
     try simp only[Act.put,sA,sB,sC]
     (refine wpAnyH_take (i:=23) (oi:=⟨some 33,_,_,_,_,_⟩) (v:=?_) rfl (by kernel_rfl) (by kernel_rfl) (by kernel_rfl) (fun _ _ _ h=>h) (Or.inl ⟨by kernel_rfl,?_⟩) (by assumption) ?_;rotate_left 1;(· intro w hSw;(try dsimp only at hSw);go_simp;(try with_reducible rfl)))
     try simp only[Act.put,sA,sB,sC]
     (refine wpAnyH_take (i:=24) (oi:=⟨some 34,_,_,_,_,_⟩) (v:=?_) rfl (by kernel_rfl) (by kernel_rfl) (by kernel_rfl) (fun _ _ _ h=>h) (Or.inl ⟨by kernel_rfl,?_⟩) (by assumption) ?_;rotate_left 1;(· intro w hSw;(try dsimp only at hSw);go_simp;(try with_reducible rfl)))
     try simp only[Act.put,sA,sB,sC]
     (refine wpAnyH_take (i:=25) (oi:=⟨some 4,_,_,_,_,_⟩) (v:=?_) rfl (by kernel_rfl) (by kernel_rfl) (by kernel_rfl) (fun _ _ _ h=>h) (Or.inl ⟨by kernel_rfl,?_⟩) (by assumption) ?_;rotate_left 1;(· intro w hSw;(try dsimp only at hSw);go_simp;(try with_reducible rfl)))
     try simp only[Act.put,sA,sB,sC]
     refine wpAnyH_done (by kernel_rfl) ?_ _;refine NoPanic.normal ?_;go_wp2_with fail;go_meet;exact⟨rfl,hc1⟩
    ·go_region_held3 (fun wx=>wx.cell? ⟨g1,0,none⟩=some (.int .u8 25)∧wx.cell? ⟨g1,1,none⟩=some (.int .u64 (n:Int))∧wx.cell? ⟨g1,2,none⟩=some (.string t)∧wx.cell? ⟨g1,3,none⟩=some (.slice (some ⟨b,o,none⟩) 2 c)∧wx.cell? ⟨g2,0,none⟩=some (.int .u8 25)∧wx.cell? ⟨g2,1,none⟩=some (.int .u64 (n':Int))∧wx.cell? ⟨g2,2,none⟩=some (.string t')∧wx.cell? ⟨g2,3,none⟩=some (.slice (some ⟨b',o',none⟩) 2 c')∧wx.cell? ⟨b,o,none⟩=some (.int .u8 (xk:Int))∧wx.cell? ⟨b,o+1,none⟩=some (.int .u64 (xn:Int))∧wx.cell? ⟨b,o+2,none⟩=some (.string xt)∧wx.cell? ⟨b,o+3,none⟩=some (.slice B1 l1 c1)∧wx.cell? ⟨b,o+4,none⟩=some (.int .u8 (yk:Int))∧wx.cell? ⟨b,o+5,none⟩=some (.int .u64 (yn:Int))∧wx.cell? ⟨b,o+6,none⟩=some (.string yt)∧wx.cell? ⟨b,o+7,none⟩=some (.slice B2 l2 c2)∧wx.cell? ⟨b',o',none⟩=some (.int .u8 (xk':Int))∧wx.cell? ⟨b',o'+1,none⟩=some (.int .u64 (xn':Int))∧wx.cell? ⟨b',o'+2,none⟩=some (.string xt')∧wx.cell? ⟨b',o'+3,none⟩=some (.slice B1' l1' c1')∧wx.cell? ⟨b',o'+4,none⟩=some (.int .u8 (yk':Int))∧wx.cell? ⟨b',o'+5,none⟩=some (.int .u64 (yn':Int))∧wx.cell? ⟨b',o'+6,none⟩=some (.string yt')∧wx.cell? ⟨b',o'+7,none⟩=some (.slice B2' l2' c2')∧Below W0.heap.size W0 wx) (with_reducible first | assumption | exact xal_held B1x B2x E1 E2 E1' E2' hH0 | exact xal_held B1x B2x E1 E2 E1' E2' hc2 | exact xal_held B1x B2x E1 E2 E1' E2' hc1 | fail)
      (first
      | (go_at_call 133;(with_reducible refine(HSA hH0).mono ?_);rintro e w1 ⟨rfl,hb1⟩;have hc1:=below_next hH0 hb1)
      | (go_at_call 134;(with_reducible refine(HAL hc1).mono ?_);rintro e w2 ⟨rfl,hb2⟩;have hc2:=below_next hc1 hb2)
      | fail)
     all_goals
      go_wp2_with fail;go_meet;exact⟨by simp,hc2⟩
   case rest=>
    obtain⟨rfl,hb3⟩:=hcut;go_wp2;go_ret;exact⟨by rw[HA.out];rfl,below_next hB hb3⟩
  ·have HA:=Lib.hid (alikeB_plain (n:=n) (n':=n') (t:=t) (t':=t') (ks:=ks) (ks':=ks') e2);have d1:((k:Int) != 25)=true:=by rw[bne_iff_ne];omega
   clear ih hM hM' e2;go_enter Tryz.func134,Tryz.ntmps134;go_wp2_with fail;go_quiet (fail);go_wp2;go_ret;exact⟨by rw[HA.out];rfl,below_drewN hB _⟩
 ·have HA:=Lib.hid (alikeB_kind (n:=n) (n':=n') (t:=t) (t':=t') (ks:=ks) (ks':=ks') e1);have d1:((k:Int) != (k':Int))=true:=by rw[bne_iff_ne];omega
  clear ih hM hM' e1;go_enter Tryz.func134,Tryz.ntmps134;go_wp2;go_ret;exact⟨by rw[HA.out];rfl,hB⟩
end Go.Proofs.YtcilmmdmkpnppaaGreatDoor.Val
namespace Go.Proofs.YtcilmmdmkpnppaaGreatDoor.Val
set_option maxRecDepth 100000
open Go.RowKit Utf V valueAlike
theorem isEmpty_emptyB (t:ByteArray):t.toList.isEmpty=emptyB t:=by
 by_cases h:t.size=0
 ·rw[empty_eq h,empty_yes];simp
 ·rw[empty_no' h];simp[emptyB,h]
theorem evens_pre (l:List V)(j:Nat):∃ r,evens l=evens (l.take j)++r:=by
 refine⟨(evens l).drop ((j+1) / 2),?_⟩;have:(evens l).take ((j+1) / 2)=evens (l.take j):=by
  apply List.ext_getElem?
  intro i;rw[List.getElem?_take,evens_at,evens_at,List.getElem?_take];by_cases h:i < (j+1) / 2
  ·rw[if_pos h,if_pos (by omega)]
  ·rw[if_neg h,if_neg (by omega)]
 rw[←this,List.take_append_drop]
theorem keys_no {l:List V}{j:Nat}(he:l.length % 2=0)(h:unl l (j+1)=false):noDup (keysL l)=false:=by
 rw[evens_keys l he];obtain⟨r,hr⟩:=evens_pre l (j+1);rw[hr];exact noDup_pre h
theorem may_split (k n:Nat)(t:ByteArray)(ks:List V):mayB (.mk k n t ks)=(mayL ks&&aloneOk k n t ks.length&&kidsOk k ks):=by simp only[mayB]
theorem held_bx {w w':World}{g b p q k1 n1 k2 n2:Nat}{x0 x1 x2 x3:Value}{t1 t2:ByteArray}{ks1 ks2:List V}{A1 A2:Option Addr}{l1 c1 l2 c2:Nat}(hB:Box w g x0 x1 x2 x3)(h1:El w b p k1 n1 t1 ks1 A1 l1 c1)(h2:El w b q k2 n2 t2 ks2 A2 l2 c2)(hb:Below w.heap.size w w') :
  w'.cell? ⟨g,0,none⟩=some x0∧w'.cell? ⟨g,1,none⟩=some x1∧w'.cell? ⟨g,2,none⟩=some x2∧w'.cell? ⟨g,3,none⟩=some x3 ∧
  w'.cell? ⟨b,p,none⟩=some (.int .u8 k1)∧w'.cell? ⟨b,p+1,none⟩=some (.int .u64 n1)∧w'.cell? ⟨b,p+2,none⟩=some (.string t1)∧w'.cell? ⟨b,p+3,none⟩=some (.slice A1 l1 c1) ∧
  w'.cell? ⟨b,q,none⟩=some (.int .u8 k2)∧w'.cell? ⟨b,q+1,none⟩=some (.int .u64 n2)∧w'.cell? ⟨b,q+2,none⟩=some (.string t2)∧w'.cell? ⟨b,q+3,none⟩=some (.slice A2 l2 c2)∧Below w.heap.size w w':=by
 obtain⟨p0,p1,p2,p3,_⟩:=(hB.call hb).all;obtain⟨a0,a1,a2,a3⟩:=(h1.call hb).cells;exact⟨p0,p1,p2,p3,a0,a1,a2,a3,h2.held hb⟩
def allTo:List V→Nat→Bool
 | [],_=>true
 | x::r,j=>((x::r).take j).all fun y=>alikeB x y
theorem allTo_one {l:List V}(h:mayL l=true):allTo l 1=true:=by
 cases l with
 | nil=>rfl
 | cons x r=>
  simp only[mayL,Bool.and_eq_true] at h;simp[allTo,alikeB_refl x h.1]
theorem allTo_step {l:List V}{j:Nat}{x v:V}(h0:l[0]? = some x)(hx:l[j]? = some v):allTo l (j+1)=(allTo l j&&alikeB x v):=by
 cases l with
 | nil=>simp at h0
 | cons y r=>
  simp at h0;subst h0;simp only[allTo];exact all_take hx
theorem allTo_all {l:List V}{j:Nat}(hm:mayL l=true)(hj:l.length≤j):allTo l j=kidsOk 24 l:=by
 rw[kidsOk_24];cases l with
 | nil=>rfl
 | cons x r=>
  simp only[mayL,Bool.and_eq_true] at hm;rw[allB_eq hm.1,allTo,List.take_of_length_le hj]
theorem allTo_no {l:List V}{j:Nat}{x v:V}(hm:mayL l=true)(h0:l[0]? = some x)(hx:l[j]? = some v)(h:alikeB x v=false):kidsOk 24 l=false:=by
 rw[kidsOk_24];cases l with
 | nil=>simp at h0
 | cons y r=>
  simp at h0;subst h0;simp only[mayL,Bool.and_eq_true] at hm;rw[allB_eq hm.1];exact all_no hx h
theorem not_two {ks:List V}{l:Nat}(hl:l=ks.length)(h:l≠2):kidsOk 25 ks=false:=by
 subst hl
 match ks,h with
 | [],_=>rfl
 | [_],_=>rfl
 | [_,_],h=>simp at h
 | _::_::_::_,_=>rfl
set_option maxRecDepth 100000 in
set_option maxHeartbeats 4000000 in
theorem xmay_any (N:Nat):∀ (k n:Nat) (t:ByteArray) (ks:List V) (A:Option Addr) (l c:Nat) (w:World),bulkL ks≤N→N≤1073741824→t.size≤1073741824→n < 18446744073709551616→Kd w ks A l c →
  Calls Tryz.prog 103 #[.agg #[.int .u8 k,.int .u64 n,.string t,.slice A l c]] w (GivesB (mayB (.mk k n t ks)) w):=by
 induction N using Nat.strongRecOn with
 | ind N ih=>
 intro k n t ks A l c w hN hN2 ht hn hK;have IH:=Lib.hid ih;clear ih;have hlen:=hK.len;have HLEN:=Lib.hid hlen;have hll:l≤ks.length:=Nat.le_of_eq hlen;have hll2:ks.length≤l:=Nat.le_of_eq hlen.symm;have hlb:=length_bulk ks;have hl9:l≤1073741824:=by omega
 have hB0:Below w.heap.size w (w.alloc (.cells #[.int .u8 k,.int .u64 n,.string t,.slice A l c] 44)):=(Below.refl _ _).alloc (Nat.le_refl _) _;have b0:=Box.new w (.int .u8 k) (.int .u64 n) (.string t) (.slice A l c);replace hK:=hK.call hB0;have HNN:=Lib.hid hn;have HTT:=Lib.hid ht;clear hn ht hlen;go_enter Tryz.func103,Tryz.ntmps103;go_wp2_with fail;obtain⟨W0,hW0⟩:∃ W0,w.alloc (.cells #[.int .u8 k,.int .u64 n,.string t,.slice A l c] 44)=W0:=⟨_,rfl⟩;obtain⟨g,hg⟩:∃ g,w.heap.size=g:=⟨_,rfl⟩;rw[hW0] at hB0 b0 hK ⊢;rw[hg] at b0 ⊢;clear hW0 hg;go_loopw [3] (fun i wr=>∃ j:Nat,j≤l∧i=.int .i64 j∧Below W0.heap.size W0 wr∧mayL (ks.take j)=true) (fun i _=>l - (intOf i).toNat)
 case atStart=>exact⟨0,Nat.zero_le _,rfl,Below.refl _ _,rfl⟩
 case round=>
  obtain⟨j,hj,rfl,hb,hm⟩:=hrel;have HM:=Lib.hid hm;clear hm;have B:=b0.call hb;have cc:=B.all;obtain⟨p0,p1,p2,p3,pf⟩:=cc;by_cases hlt:j < l
  ·obtain⟨b,o,k1,n1,t1,ks1,A1,l1,c1,rfl,hx,hk1,hn1,hbk,E⟩:=(hK.call hb).el hlt;obtain⟨r,hr⟩:∃ r,mayB (.mk k1 n1 t1 ks1)=r:=⟨_,rfl⟩;have hcall:=fun W (h:Below wr.heap.size wr W)=>IH.out (bulkL ks1) (by simp only[bulk] at hbk;omega) k1 n1 t1 ks1 A1 l1 c1 W (Nat.le_refl _) (by simp only[bulk] at hbk;omega) (by simp only[bulk] at hbk;omega) hn1 (E.kd.call h);rw[hr] at hcall;have HC:=Lib.hid (hcall wr (Below.refl _ _));have HX:=Lib.hid hx;have HR:=Lib.hid hr;have ce:=E.cells;obtain⟨h0,h1,h2,h3⟩:=ce;clear hcall hx hr hn1 hbk;cases r with
   | false=>
    go_wp2_with fail;refine HC.out.mono ?_;rintro e w1 ⟨rfl,hb1⟩;go_wp2;go_ret;exact⟨by rw[may_split,mayL_no HX.out HR.out];rfl,below_next hB0 (below_next hb hb1)⟩
   | true=>
    go_wp2_with fail;refine HC.out.mono ?_;rintro e w1 ⟨rfl,hb1⟩;have hb2:=below_next hb hb1;go_wp2;go_roundw
    case rel=>exact⟨j+1,by omega,by go_num,hb2,by rw[mayL_take HX.out,HM.out,HR.out];rfl⟩
    case measure=>simp[intOf];omega
  ·have HE:Hid (ks.take j=ks):=Lib.hid (List.take_of_length_le (by omega));rw[HE.out] at HM;obtain⟨bn,hbn⟩:∃ bn,((n:Int)==0)=bn:=⟨_,rfl⟩;obtain⟨bt,hbt⟩:∃ bt,t.toList.isEmpty=bt:=⟨_,rfl⟩;have HAO:Hid (22≤k∧k≤25→aloneOk k n t ks.length=(bn&&bt)):=Lib.hid (fun h=>by
    unfold aloneOk;rw[if_neg (by omega),if_neg (by omega),if_neg (by omega),if_pos h,←hbt,isEmpty_emptyB,←hbn]
    congr 1
    rw[Bool.eq_iff_iff,decide_eq_true_eq,beq_iff_eq];omega)
   have HR:Hid (22≤k∧k≤25→kidsOk k ks=true→mayB (.mk k n t ks)=(bn&&bt)):=Lib.hid (fun h h2=>by rw[may_split,HM.out,HAO.out h,h2];simp);have HF:Hid (kidsOk k ks=false→mayB (.mk k n t ks)=false):=Lib.hid (fun h2=>by rw[may_split,h2];simp);clear HAO;have HBN:=Lib.hid hbn;have HBT:=Lib.hid hbt;by_cases h22:k=22
   ·have e22:((k:Int)==22)=true:=by rw[beq_iff_eq];omega
    have HKO:=Lib.hid (show 22≤k∧k≤25 from by omega);have HKK:=Lib.hid (show kidsOk k ks=true from kidsOk_else (by omega) (by omega) (by omega));clear h22;cases bn
    all_goals
     go_wp2;go_ret;exact⟨by rw[HR.out HKO.out HKK.out];rfl,below_next hB0 hb⟩
   ·have e22:((k:Int)==22)=false:=by rw[beq_eq_false_iff_ne];omega
    by_cases h23:k=23
    ·have e23:((k:Int)==23)=true:=by rw[beq_iff_eq];omega
     have HKO:=Lib.hid (show 22≤k∧k≤25 from by omega);have HK3:=Lib.hid h23;clear h22 h23;clear hbn hbt;by_cases hev:l % 2=0
     ·have m1:(l:Int) % 2=0:=by omega
      have m2:Int.tmod (l:Int) 2=0:=by rw[Int.tmod_eq_emod_of_nonneg (by omega)];omega
      go_wp2_with fail;have HEV:=Lib.hid hev;clear m1 m2 hev p0 p1 p2 p3 pf B;go_loopw [5] (fun i wr=>∃ j:Nat,(j % 2=0∧j≤l)∧i=.int .i64 j∧Below W0.heap.size W0 wr∧unl ks j=true) (fun i _=>l - (intOf i).toNat)
      case atStart=>exact⟨0,by omega,rfl,hb,rfl⟩
      case round=>
       obtain⟨j,⟨hj0,hj⟩,rfl,hb,hu⟩:=hrel;have HU:=Lib.hid hu;clear hu;by_cases hlt:j < l
       ·obtain⟨b,o,k1,n1,t1,ks1,A1,l1,c1,rfl,hx,hk1,hn1,hbk,E0⟩:=(hK.call hb).el hlt;have HX:=Lib.hid hx;clear E0;have HJ0:=Lib.hid hj0;clear hj0 hx;go_wp2_with fail;go_loopw [6] (fun i wr=>∃ m:Nat,(m % 2=0∧m≤j)∧i=.int .i64 m∧Below W0.heap.size W0 wr∧valueAlike.seen ks j (m / 2) (.mk k1 n1 t1 ks1)=false) (fun i _=>j - (intOf i).toNat)
        case atStart=>exact⟨0,by omega,rfl,hb,seen_zero _ _ _⟩
        case round=>
         obtain⟨m,⟨hm0,hm⟩,rfl,hb,hs⟩:=hrel;have HS:=Lib.hid hs;clear hs;have hm2:2 * (m / 2)=m:=by omega
         have B:=b0.call hb;by_cases hmj:m < j
         ·obtain⟨b',o',k1',n1',t1',ks1',A1,l1,c1,he1,hx1,_,_,_,E⟩:=(hK.call hb).el hlt;simp only[Option.some.injEq,Addr.mk.injEq,and_true] at he1;obtain⟨rfl,rfl⟩:=he1;have hxx:=hx1.symm.trans HX.out;simp only[Option.some.injEq,V.mk.injEq] at hxx;obtain⟨rfl,rfl,rfl,rfl⟩:=hxx;obtain⟨b',o',k2,n2,t2,ks2,A2,l2,c2,he2,hx2,hk2,hn2,hbk2,E2⟩:=(hK.call hb).el (i:=m) (by omega);simp only[Option.some.injEq,Addr.mk.injEq,and_true] at he2;obtain⟨rfl,rfl⟩:=he2;have HST:=Lib.hid (seen_step (j:=j) (m:=m / 2) (x:=.mk k1' n1' t1' ks1') (by rw[hm2];exact hx2) (by omega));obtain⟨z,hz⟩:∃ z,same (.mk k1' n1' t1' ks1') (.mk k2 n2 t2 ks2)=z:=⟨_,rfl⟩;rw[hz] at HST;have hH0:Below wr.heap.size wr wr.drew:=(Below.refl _ _).drew;have HC:Hid (Calls Tryz.prog 133 #[.agg #[.int .u8 k1',.int .u64 n1',.string t1',.slice A1 l1 c1],.agg #[.int .u8 k2,.int .u64 n2,.string t2,.slice A2 l2 c2]] wr.drew (GivesB z wr.drew)):=Lib.hid (hz▸xsame_any (bulkL ks1') k1' n1' t1' ks1' A1 l1 c1 k2 n2 t2 ks2 A2 l2 c2 _ (Nat.le_refl _) (by simp only[bulk] at hbk;omega) hk1 hk2 hn1 hn2 (E.kd.call hH0) (E2.kd.call hH0));have hml:m < l:=by omega
          have hm5:m+2≤j∧(m+2) % 2=0:=by have:=HJ0.out;omega
          have hbl:=E.lt;have HSN:=Lib.hid (fun(h:z=true)=>show unl ks (j+1)=false by
           rw[unl_even HX.out HJ0.out];have:(evens (ks.take j)).any (fun y=>same (.mk k1' n1' t1' ks1') y)=true:=by
            have e:=HST.out;rw[h,Bool.or_true] at e;unfold valueAlike.seen at e;obtain⟨y,hy,hy2⟩:=List.any_eq_true.1 e;exact List.any_eq_true.2 ⟨y,List.mem_of_mem_take hy,hy2⟩
           rw[this];simp)
          clear hx1 hx2 hz hm2 hn2 hk2 hbk2;have cc:=B.all;obtain⟨p0,p1,p2,p3,pf⟩:=cc;go_wp2_with fail;go_cut [56] (fun s wx=>s=.bool z∧Below W0.heap.size W0 wx)
          case first=>
           go_region_held3 (fun wx=>wx.cell? ⟨g,0,none⟩=some (.int .u8 (k:Int))∧wx.cell? ⟨g,1,none⟩=some (.int .u64 (n:Int))∧wx.cell? ⟨g,2,none⟩=some (.string t)∧wx.cell? ⟨g,3,none⟩=some (.slice (some ⟨b,o,none⟩) l c)∧wx.cell? ⟨b,o+j * 4,none⟩=some (.int .u8 (k1':Int))∧wx.cell? ⟨b,o+j * 4+1,none⟩=some (.int .u64 (n1':Int))∧wx.cell? ⟨b,o+j * 4+2,none⟩=some (.string t1')∧wx.cell? ⟨b,o+j * 4+3,none⟩=some (.slice A1 l1 c1)∧wx.cell? ⟨b,o+m * 4,none⟩=some (.int .u8 (k2:Int))∧wx.cell? ⟨b,o+m * 4+1,none⟩=some (.int .u64 (n2:Int))∧wx.cell? ⟨b,o+m * 4+2,none⟩=some (.string t2)∧wx.cell? ⟨b,o+m * 4+3,none⟩=some (.slice A2 l2 c2)∧Below wr.heap.size wr wx) (with_reducible first | assumption | exact held_bx B E E2 hH0 | exact held_bx B E E2 hc1 | fail)
            (first
            | (go_at_call 133;(with_reducible refine HC.out.mono ?_);rintro e w1 ⟨rfl,hb1⟩;have hc1:=below_next hH0 hb1)
            | fail)
           all_goals
            go_wp2_with fail;go_meet;exact⟨rfl,below_next hb hc1⟩
          case rest=>
           obtain⟨rfl,hb⟩:=hcut;cases z with
           | true=>
            go_wp2;go_ret;exact⟨by rw[HF.out (by rw[HK3.out,kidsOk_23,keys_no (by rw[←HLEN.out];exact HEV.out) (HSN.out (by first | rfl | trivial))];simp)];rfl,below_next hB0 hb⟩
           | false=>
            go_wp2;go_roundw
            case rel=>exact⟨m+2,by omega,by go_num,hb,by rw[show (m+2) / 2=m / 2+1 by omega,HST.out,HS.out];rfl⟩
            case measure=>simp[intOf];omega
         ·have HU2:=Lib.hid (show unl ks (j+2)=true by
           have hj2:j+1 < ks.length:=by have:=HEV.out;have:=HJ0.out;omega
           have hj3:=HJ0.out;rw[unl_odd hj2 (by omega),unl_even HX.out HJ0.out,HU.out,←seen_all (m:=m / 2) (by omega),HS.out];rfl)
          have hj5:j+2≤l∧(j+2) % 2=0:=by have:=HEV.out;have:=HJ0.out;omega
          go_wp2;go_roundw
          case rel=>exact⟨j+2,by omega,by go_num,hb,HU2.out⟩
          case measure=>simp[intOf];omega
       ·have HKK:=Lib.hid (show kidsOk k ks=true by
         have hju:=HU.out;rw[show j=ks.length by omega] at hju;unfold unl at hju;rw[List.take_length] at hju;have he:ks.length % 2=0:=by rw[←HLEN.out];exact HEV.out
         rw[HK3.out,kidsOk_23,evens_keys ks he,hju];simp[he])
        have B:=b0.call hb;have cc:=B.all;obtain⟨p0,p1,p2,p3,pf⟩:=cc;have dN:=HBN.out;have dT:=HBT.out;cases bn
        all_goals
         go_wp2;go_ret;exact⟨by rw[HR.out HKO.out HKK.out];rfl,below_next hB0 hb⟩
     ·have m1:(l:Int) % 2=1:=by omega
      have m2:Int.tmod (l:Int) 2=1:=by rw[Int.tmod_eq_emod_of_nonneg (by omega)];omega
      have HKQ:=Lib.hid (show kidsOk k ks=false by rw[HK3.out,kidsOk_23];have:=HLEN.out;simp;omega);clear hev;go_wp2;go_ret;exact⟨by rw[HF.out HKQ.out];rfl,below_next hB0 hb⟩
    ·have e23:((k:Int)==23)=false:=by rw[beq_eq_false_iff_ne];omega
     by_cases h24:k=24
     ·have e24:((k:Int)==24)=true:=by rw[beq_iff_eq];omega
      have HKO:=Lib.hid (show 22≤k∧k≤25 from by omega);have HK4:=Lib.hid h24;clear h22 h23 h24;clear hbn hbt;go_wp2_with fail;clear p0 p1 p2 p3 pf B;go_loopw [7] (fun i wr=>∃ j:Nat,(1≤j∧(j≤l∨l=0∧j=1))∧i=.int .i64 j∧Below W0.heap.size W0 wr∧allTo ks j=true) (fun i _=>l - (intOf i).toNat)
      case atStart=>exact⟨1,by omega,rfl,hb,allTo_one HM.out⟩
      case round=>
       obtain⟨j,hj,rfl,hb,hall⟩:=hrel;have HALL:=Lib.hid hall;clear hall;have B:=b0.call hb;by_cases hlt:j < l
       ·obtain⟨b,o,k1,n1,t1,ks1,A1,l1,c1,rfl,hx,hk1,hn1,hbk,E⟩:=(hK.call hb).el hlt;obtain⟨b',o',k2,n2,t2,ks2,A2,l2,c2,he2,hx2,hk2,hn2,hbk2,E2⟩:=(hK.call hb).el (i:=0) (by omega);simp only[Option.some.injEq,Addr.mk.injEq,and_true] at he2;obtain⟨rfl,rfl⟩:=he2;rw[Nat.zero_mul,Nat.add_zero] at E2;obtain⟨r,hr⟩:∃ r,alikeB (.mk k2 n2 t2 ks2) (.mk k1 n1 t1 ks1)=r:=⟨_,rfl⟩;have hm2:=mayL_mem HM.out _ (List.mem_of_getElem? hx2);have hm1:=mayL_mem HM.out _ (List.mem_of_getElem? hx);have HST:=Lib.hid (allTo_step hx2 hx);have HNO:=Lib.hid (fun h=>allTo_no HM.out hx2 hx h);rw[hr] at HST HNO;have hH0:Below wr.heap.size wr wr.drew:=(Below.refl _ _).drew;have HC:Hid (Calls Tryz.prog 134 #[.agg #[.int .u8 k2,.int .u64 n2,.string t2,.slice A2 l2 c2],.agg #[.int .u8 k1,.int .u64 n1,.string t1,.slice A1 l1 c1]] wr.drew (GivesB r wr.drew)):=Lib.hid (hr▸xalike_any (bulkL ks2) k2 n2 t2 ks2 A2 l2 c2 k1 n1 t1 ks1 A1 l1 c1 _ (Nat.le_refl _) (by simp only[bulk] at hbk2;omega) hm2 hm1 (E2.kd.call hH0) (E.kd.call hH0));have hl0:0 < l:=by omega
        have hbl:=E.lt;clear hx hx2 hr hm1 hm2 hbk hbk2 hn1 hn2 hk1 hk2;have cc:=B.all;obtain⟨p0,p1,p2,p3,pf⟩:=cc;go_wp2_with fail;go_cut [74] (fun s wx=>s=.bool (!r)∧Below W0.heap.size W0 wx)
        case first=>
         go_region_held3 (fun wx=>wx.cell? ⟨g,0,none⟩=some (.int .u8 (k:Int))∧wx.cell? ⟨g,1,none⟩=some (.int .u64 (n:Int))∧wx.cell? ⟨g,2,none⟩=some (.string t)∧wx.cell? ⟨g,3,none⟩=some (.slice (some ⟨b,o,none⟩) l c)∧wx.cell? ⟨b,o,none⟩=some (.int .u8 (k2:Int))∧wx.cell? ⟨b,o+1,none⟩=some (.int .u64 (n2:Int))∧wx.cell? ⟨b,o+2,none⟩=some (.string t2)∧wx.cell? ⟨b,o+3,none⟩=some (.slice A2 l2 c2)∧wx.cell? ⟨b,o+j * 4,none⟩=some (.int .u8 (k1:Int))∧wx.cell? ⟨b,o+j * 4+1,none⟩=some (.int .u64 (n1:Int))∧wx.cell? ⟨b,o+j * 4+2,none⟩=some (.string t1)∧wx.cell? ⟨b,o+j * 4+3,none⟩=some (.slice A1 l1 c1)∧Below wr.heap.size wr wx) (with_reducible first | assumption | exact held_bx B E2 E hH0 | exact held_bx B E2 E hc1 | fail)
          (first
          | (go_at_call 134;(with_reducible refine HC.out.mono ?_);rintro e w1 ⟨rfl,hb1⟩;have hc1:=below_next hH0 hb1)
          | fail)
         all_goals
          go_wp2_with fail;go_meet;exact⟨by simp,below_next hb hc1⟩
        case rest=>
         obtain⟨rfl,hb⟩:=hcut;cases r with
         | false=>
          go_wp2;go_ret;exact⟨by rw[HF.out (by rw[HK4.out];exact HNO.out (by first | rfl | trivial))];rfl,below_next hB0 hb⟩
         | true=>
          go_wp2;go_roundw
          case rel=>exact⟨j+1,by omega,by go_num,hb,by rw[HST.out,HALL.out];rfl⟩
          case measure=>simp[intOf];omega
       ·have HKK:=Lib.hid (show kidsOk k ks=true by rw[HK4.out,←allTo_all HM.out (by omega:ks.length≤j)];exact HALL.out);have B:=b0.call hb;have cc:=B.all;obtain⟨p0,p1,p2,p3,pf⟩:=cc;have dN:=HBN.out;have dT:=HBT.out;cases bn
        all_goals
         go_wp2;go_ret;exact⟨by rw[HR.out HKO.out HKK.out];rfl,below_next hB0 hb⟩
     ·have e24:((k:Int)==24)=false:=by rw[beq_eq_false_iff_ne];omega
      by_cases h25:k=25
      ·have e25:((k:Int)==25)=true:=by rw[beq_iff_eq];omega
       have HKO:=Lib.hid (show 22≤k∧k≤25 from by omega);have HK5:=Lib.hid h25;clear h22 h23 h24 h25;by_cases h2:l=2
       ·obtain⟨⟨xk,xn,xt,xs⟩,⟨yk,yn,yt,ys⟩,hxy⟩:=two_of (h2.symm.trans HLEN.out);subst hxy;subst h2;obtain⟨_,b,o,B1,l1,c1,B2,l2,c2,rfl,E1,E2,_,_⟩:=kd_pair (hK.call hb);have ce:=E1.cells;obtain⟨h0,h1,h2,h3⟩:=ce;obtain⟨q,hq⟩:∃ q,nameB xk=q:=⟨_,rfl⟩;have HKQ:=Lib.hid (show kidsOk k [.mk xk xn xt xs,.mk yk yn yt ys]=q by rw[HK5.out,←hq];simp[kidsOk,kind]);have hcall:=fun W=>xcalled_any xk xn xt B1 l1 c1 W;rw[hq] at hcall;have HC:=Lib.hid (hcall wr);have hz2:0 < (2:Nat):=by omega
        clear hcall hq hbn hbt;cases q with
        | false=>
         go_wp2_with fail;refine HC.out.mono ?_;rintro e w1 ⟨rfl,hb1⟩;go_wp2;go_ret;exact⟨by rw[HF.out HKQ.out];rfl,below_next hB0 (below_next hb hb1)⟩
        | true=>
         go_wp2_with fail;refine HC.out.mono ?_;rintro e w1 ⟨rfl,hb1⟩;have B:=B.call hb1;have cc:=B.all;obtain⟨p0,p1,p2,p3,pf⟩:=cc;have dN:=HBN.out;have dT:=HBT.out;cases bn
         all_goals
          go_wp2;go_ret;exact⟨by rw[HR.out HKO.out HKQ.out];rfl,below_next hB0 (below_next hb hb1)⟩
       ·have m2:((l:Int) != 2)=true:=by rw[bne_iff_ne];omega
        have HKQ:=Lib.hid (show kidsOk k ks=false by rw[HK5.out];exact not_two HLEN.out h2);clear h2 hbn hbt;go_wp2;go_ret;exact⟨by rw[HF.out HKQ.out];rfl,below_next hB0 hb⟩
      ·have e25:((k:Int)==25)=false:=by rw[beq_eq_false_iff_ne];omega
       have HKK:=Lib.hid (show kidsOk k ks=true from kidsOk_else (by omega) (by omega) (by omega));have HPL:=Lib.hid (show plainOk k n t l=mayB (.mk k n t ks) by
        rw[may_split,HM.out,HKK.out,←HLEN.out];unfold plainOk;by_cases hk:22≤k∧k≤25
        ·omega
        ·rw[if_neg hk];by_cases hz:l=0
         ·simp[hz]
         ·have:aloneOk k n t l=false:=by
           unfold aloneOk
           (repeat' split)<;>simp_all
          rw[this];simp)
       clear h22 h23 h24 h25 hbn hbt;go_wp2_with fail;refine(xplain_any k n t A l c wr HTT.out HNN.out).mono ?_;rw[HPL.out];rintro e w1 ⟨rfl,hb1⟩;go_wp2;go_ret;exact⟨rfl,below_next hB0 (below_next hb hb1)⟩
end Go.Proofs.YtcilmmdmkpnppaaGreatDoor.Val
namespace Go.Proofs.YtcilmmdmkpnppaaGreatDoor.valueRights
open Go.RowKit Utf Val V
theorem le30 {n:Nat}(h:n≤1048576):n≤1073741824:=by omega
theorem ok_parts (k n:Nat)(t:ByteArray)(ks:List V):okB (.mk k n t ks)=(decide (itemsL ks+1≤1024)&&decide (depthL ks+1≤16)&&mayB (.mk k n t ks)):=by
 rw[okB,items_mk,depth_mk]
set_option maxRecDepth 100000 in
set_option maxHeartbeats 800000 in
theorem xright_any (k n:Nat)(t:ByteArray)(ks:List V)(A:Option Addr)(l c:Nat)(w:World)(hN:bulk (.mk k n t ks)≤1048576)(hn:n < 18446744073709551616)(hK:Kd w ks A l c) :
  Calls Tryz.prog 60 #[.agg #[.int .u8 k,.int .u64 n,.string t,.slice A l c]] w (GivesB (okB (.mk k n t ks)) w):=by
 have hB:Below w.heap.size w (w.alloc (.cells #[.int .u8 k,.int .u64 n,.string t,.slice A l c] 44)):=(Below.refl _ _).alloc (Nat.le_refl _) _;have b0:=Box.new w (.int .u8 k) (.int .u64 n) (.string t) (.slice A l c);have hK0:=hK.alloc (.cells #[.int .u8 k,.int .u64 n,.string t,.slice A l c] 44);have hN1:bulkL ks≤1048576:=by simp only[bulk] at hN;omega
 have hN2:t.size≤1048576:=by simp only[bulk] at hN;omega
 have hi:=itemsL_le ks;have hd:=depthL_le ks;have HO:=Lib.hid (ok_parts k n t ks);obtain⟨r,hr⟩:∃ r,mayB (.mk k n t ks)=r:=⟨_,rfl⟩;obtain⟨I,hI⟩:∃ I,itemsL ks+1=I:=⟨_,rfl⟩;obtain⟨D,hD⟩:∃ D,depthL ks+1=D:=⟨_,rfl⟩;rw[hr,hI,hD] at HO;have e1:=dec_nat' I 1024;have e2:=dec_nat' D 16;obtain⟨p,hp⟩:∃ p,decide (I≤1024)=p:=⟨_,rfl⟩;obtain⟨q,hq⟩:∃ q,decide (D≤16)=q:=⟨_,rfl⟩;rw[hp,hq] at HO;rw[hp] at e1;rw[hq] at e2;simp only[Int.cast_ofNat_Int] at e1 e2;have HI:=Lib.hid hI;have HD:=Lib.hid hD;have HR:=Lib.hid hr;have HN1:=Lib.hid hN1;have HN2:=Lib.hid hN2;have HNN:=Lib.hid hn;clear hN hn hr hI hD hp hq hi hd hN1 hN2 hK;have cc:=b0.all;obtain⟨p0,p1,p2,p3,pf⟩:=cc;go_enter Tryz.func60,Tryz.ntmps60;cases p<;>cases q
 all_goals
  go_wp2_with (first
   | (go_at_call 101;(with_reducible refine(xitems_any (bulkL ks) k n t ks A l c _ (Nat.le_refl _) (Nat.le_trans HN1.out (by decide)) hK0).mono ?_);rw[HI.out];rintro e w1 ⟨rfl,hb1⟩;have hK1:=hK0.call hb1;have hB:=below_next hB hb1;have b1:=b0.call hb1;have cc:=b1.all;obtain⟨p0,p1,p2,p3,pf⟩:=cc)
   | (go_at_call 102;(with_reducible refine(xdepth_any (bulkL ks) k n t ks A l c _ (Nat.le_refl _) (Nat.le_trans HN1.out (by decide)) hK1).mono ?_);rw[HD.out];rintro e w2 ⟨rfl,hb2⟩;have hK2:=hK1.call hb2;have hB:=below_next hB hb2;have b2:=b1.call hb2;have cc:=b2.all;obtain⟨p0,p1,p2,p3,pf⟩:=cc)
   | (go_at_call 103;(with_reducible refine(xmay_any (bulkL ks) k n t ks A l c _ (Nat.le_refl _) (le30 HN1.out) (le30 HN2.out) HNN.out hK2).mono ?_);rw[HR.out];rintro e w3 ⟨rfl,hb3⟩;have hB:=below_next hB hb3))
  go_ret;exact⟨by rw[HO.out];rfl,hB⟩
end Go.Proofs.YtcilmmdmkpnppaaGreatDoor.valueRights
end
section
namespace Go.Proofs.YtcilmmdmkpnppaaGreatDoor.Fl
set_option maxRecDepth 100000
open Go.RowKit Utf Val V
theorem called_kind {d:V}{code:Nat}{name:ByteArray}(hm:mayB d=true)(h:nameB d.kind=true):calledB d code name=if d.kind=6 then decide (d.num=code) else decide (d.text=name):=by
 obtain⟨k,n,t,ks⟩:=d;have ha:aloneOk k n t ks.length=true:=by simp only[mayB,Bool.and_eq_true] at hm;exact hm.1.2
 have h:nameB k=true:=h
 show calledB (.mk k n t ks) code name=if k=6 then decide (n=code) else decide (t=name)
 simp only[nameB,Bool.or_eq_true,beq_iff_eq] at h;rcases h with rfl | rfl
 ·rw[if_pos rfl];simp only[aloneOk,show ¬ (6=1) by omega,if_false,show (2≤6∧6≤14) by omega,and_self,if_true,Bool.and_eq_true,decide_eq_true_eq,numB] at ha;obtain⟨⟨h1,h2⟩,_⟩:=ha;have h1:t.size=0:=of_decide_eq_true h1;obtain rfl:=empty_eq h1;obtain rfl:=List.eq_nil_of_length_eq_zero h2;unfold calledB;rw[V.same_no (b:=.mk 21 0 name []) (by intro h;injection h with h;omega),Bool.or_false];by_cases hc:n=code
  ·subst hc;rw[V.same_self];simp
  ·rw[V.same_no (by intro e;injection e with _ e;exact hc e),decide_eq_false hc]
 ·rw[if_neg (by omega)];simp only[aloneOk,show ¬ (21=1) by omega,if_false,show ¬ (2≤21∧21≤14) by omega,show (15≤21∧21≤21) by omega,and_self,if_true,Bool.and_eq_true,decide_eq_true_eq] at ha;obtain⟨⟨rfl,h2⟩,_⟩:=ha;obtain rfl:=List.eq_nil_of_length_eq_zero h2;unfold calledB;rw[V.same_no (b:=.mk 6 code ⟨#[]⟩ []) (by intro h;injection h with h;omega),Bool.false_or];by_cases hc:t=name
  ·subst hc;rw[V.same_self];simp
  ·rw[V.same_no (by intro e;injection e with _ _ e;exact hc e),decide_eq_false hc]
section
variable {X:Nat→Prop} {w:World} {g:Nat} {ls:List V} {A:Option Addr} {l c:Nat} {sp:Bool}
section
variable {wi w':World} {sp':Bool}
end
end
end Go.Proofs.YtcilmmdmkpnppaaGreatDoor.Fl
namespace Go.Proofs.YtcilmmdmkpnppaaGreatDoor.Fl
set_option maxRecDepth 100000
open Go.RowKit Utf Val V
section
variable {X:Nat→Prop} {w wi w':World} {g:Nat} {ls:List V} {A:Option Addr} {l c:Nat} {sp:Bool} {g7 k n:Nat} {t:ByteArray} {ks:List V} {A':Option Addr} {l' c':Nat} {KA:Option Addr} {kl:Nat} {L:List Nat}
end
end Go.Proofs.YtcilmmdmkpnppaaGreatDoor.Fl
end
