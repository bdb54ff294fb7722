/-
  Contracts of functions and plain mathematics, text by text, each with its conditions ahead of it:
  Contract of the program's New. Memory that was there stays. Conditions: the table utf.shapes lies as the program's text lays it; values of bulk at most 2^29.
  Contracts of the document's New, and of its fields' Has, take, Number, Text, Done. Memory that was there stays, but for the block of the fields. Conditions: values of bulk at most 2^20.
  Contract of the document's fields' Value. Memory that was there stays, but for the block of the fields. Conditions: values of bulk at most 2^30; at most 2^40 kinds.
-/
import Derived.Test.YtcilmmdmkpnppaaGreatDoorY01
import Derived.Test.YtcilmmdmkpnppaaGreatDoorY03
import Derived.Test.YtcilmmdmkpnppaaGreatDoorY06
import Derived.Test.YtcilmmdmkpnppaaGreatDoorY16
import Derived.Deep.RegionHeld3
import Derived.Deep.DeepCutAuto
import Derived.Deep.QuietTactic
import Derived.BigQuiet
import Derived.Deep.RegionWith
section
namespace Go.Proofs.YtcilmmdmkpnppaaGreatDoor.Fl
set_option maxRecDepth 100000
open Go.RowKit Utf Val V
theorem kids_pair {w:World}{ks:List V}{A:Option Addr}{l c:Nat}{x y:V}(h:Kd w ks A l c)(e:ks=[x,y]):∃ b o k n t ks1 A1 l1 c1 k' n' t' ks2 A2 l2 c2,A=some ⟨b,o,none⟩∧b < w.heap.size∧l=2∧x=.mk k n t ks1∧y=.mk k' n' t' ks2 ∧
  w.cell? ⟨b,o,none⟩=some (.int .u8 (k:Int))∧w.cell? ⟨b,o+1,none⟩=some (.int .u64 (n:Int))∧w.cell? ⟨b,o+2,none⟩=some (.string t)∧w.cell? ⟨b,o+3,none⟩=some (.slice A1 l1 c1) ∧
  w.cell? ⟨b,o+4,none⟩=some (.int .u8 (k':Int))∧w.cell? ⟨b,o+4+1,none⟩=some (.int .u64 (n':Int))∧w.cell? ⟨b,o+4+2,none⟩=some (.string t')∧w.cell? ⟨b,o+4+3,none⟩=some (.slice A2 l2 c2) ∧
  k < 256∧n < 18446744073709551616∧Kd w ks1 A1 l1 c1∧k' < 256∧n' < 18446744073709551616∧Kd w ks2 A2 l2 c2:=by
 subst e;have hl:l=2:=h.len;obtain⟨b,o,k,n,t,ks1,A1,l1,c1,e1,hbl,hx,a0,a1,a2,a3,hk,hn,hK⟩:=h.at_ (i:=0) (by omega);obtain⟨b',o',k',n',t',ks2,A2,l2,c2,e2,_,hy,b0,b1,b2,b3,hk',hn',hK'⟩:=h.at_ (i:=1) (by omega);rw[e1] at e2;injection e2 with e2
 injection e2 with q1 q2
 subst q1;subst q2;simp only[List.getElem?_cons_zero,List.getElem?_cons_succ,Option.some.injEq] at hx hy;rw[Nat.zero_mul,Nat.add_zero] at a0 a1 a2 a3;rw[Nat.one_mul] at b0 b1 b2 b3;exact⟨b,o,k,n,t,ks1,A1,l1,c1,k',n',t',ks2,A2,l2,c2,e1,hbl,hl,hx,hy,a0,a1,a2,a3,b0,b1,b2,b3,hk,hn,hK,hk',hn',hK'⟩
def GivesNew (o:Option (List V))(w:World)(e:Ending)(w':World):Prop:=
 match o with
 | none=>e=.returned (.tuple #[.pointer none,.int .i64 6])∧Below w.heap.size w w'
 | some ls=>∃ g A l c,e=.returned (.tuple #[.pointer (some ⟨g,0,none⟩),.int .i64 0])∧w.heap.size≤g∧Fld 167 (fun i=>g≤i) w' g ls A l c false∧g+1=w'.heap.size∧Below w.heap.size w w'
def calledB (d:V)(code:Nat)(name:ByteArray):Bool:=V.same d (.mk 6 code ⟨#[]⟩ [])||V.same d (.mk 21 0 name [])
noncomputable def newR (v:V)(code:Nat)(name:ByteArray):Option (List V):=
 if okB v=true∧v.kind=25 then (match v.kids with
  | [d,b]=>if calledB d code name=true∧b.kind=22 then some b.kids else none
  | _=>none) else none
set_option maxHeartbeats 1000000 in
theorem new_bad (k n:Nat)(t:ByteArray)(ks:List V)(A:Option Addr)(l c code:Nat)(name:ByteArray)(w:World)(hN:bulkL ks≤536870912)(ht:t.size≤536870912)(hn:n < 18446744073709551616)(hK:Kd w ks A l c)(hTab:Tab w)(hv:okB (.mk k n t ks)=false∨¬ k=25) :
  Calls Tryz.prog 107 #[.agg #[.int .u8 (k:Int),.int .u64 (n:Int),.string t,.slice A l c],.int .u64 (code:Int),.string name] w (GivesNew none w):=by
 have hb0:Below w.heap.size w (w.alloc (.cells #[.int .u8 (k:Int),.int .u64 (n:Int),.string t,.slice A l c] 44)):=(Below.refl _ _).alloc (Nat.le_refl _) _;have hx:=Box.new w (.int .u8 (k:Int)) (.int .u64 (n:Int)) (.string t) (.slice A l c);have HR:=Lib.hid (vright_any k n t ks A l c _ (by omega) (by omega) hn (hK.call hb0) (hTab.call hb0));have HX:=Lib.hid hx;have HB:=Lib.hid hb0;cases hok:okB (.mk k n t ks) with
 | false=>
  rw[hok] at HR;clear hN ht hn hK hTab hv hok hx hb0;go_enter Tryz.func107,Tryz.ntmps107;go_wp2_with fail;refine HR.out.mono ?_;rintro e w1 ⟨rfl,hb1⟩;have HB1:=Lib.hid (below_next HB.out hb1);clear hb1;go_wp2;refine bodyPost_ret (v:=.tuple #[.pointer none,.int .i64 6]) (by simp[results,Tryz.results107,go_sem]) rfl ?_;exact⟨rfl,HB1.out⟩
 | true=>
  rw[hok] at HR;have h25:((k:Int)==25)=false:=by rcases hv with h | h;(· rw[h] at hok;cases hok);(· simp;omega)
  clear hN ht hn hK hTab hv hok hx hb0;go_enter Tryz.func107,Tryz.ntmps107;go_wp2_with fail;refine HR.out.mono ?_;rintro e w1 ⟨rfl,hb1⟩;obtain⟨d0,d1,d2,d3,df⟩:=(HX.out.call hb1).all;have HB1:=Lib.hid (below_next HB.out hb1);clear hb1;go_wp2;refine bodyPost_ret (v:=.tuple #[.pointer none,.int .i64 6]) (by simp[results,Tryz.results107,go_sem]) rfl ?_;exact⟨rfl,HB1.out⟩
structure NS (w1 wx:World) (g8 g9 k1 n1:Nat) (t1:ByteArray) (A1:Option Addr) (l1 c1 k2 n2:Nat) (t2:ByteArray) (A2:Option Addr) (l2 c2:Nat):Prop where
 b8:Box wx g8 (.int .u8 (k1:Int)) (.int .u64 (n1:Int)) (.string t1) (.slice A1 l1 c1)
 b9:Box wx g9 (.int .u8 (k2:Int)) (.int .u64 (n2:Int)) (.string t2) (.slice A2 l2 c2)
 low:Below w1.heap.size w1 wx
section
variable {w1 wx w2:World} {g8 g9 k1 n1:Nat} {t1:ByteArray} {A1:Option Addr} {l1 c1 k2 n2:Nat} {t2:ByteArray} {A2:Option Addr} {l2 c2:Nat}
theorem NS.call (h:NS w1 wx g8 g9 k1 n1 t1 A1 l1 c1 k2 n2 t2 A2 l2 c2)(hb:Below wx.heap.size wx w2):NS w1 w2 g8 g9 k1 n1 t1 A1 l1 c1 k2 n2 t2 A2 l2 c2:=⟨h.b8.call hb,h.b9.call hb,below_next h.low hb⟩
theorem NS.cells (h:NS w1 wx g8 g9 k1 n1 t1 A1 l1 c1 k2 n2 t2 A2 l2 c2):wx.cell? ⟨g8,0,none⟩=some (.int .u8 (k1:Int))∧wx.cell? ⟨g8,1,none⟩=some (.int .u64 (n1:Int))∧wx.cell? ⟨g8,2,none⟩=some (.string t1)∧wx.cell? ⟨g8,3,none⟩=some (.slice A1 l1 c1) ∧
  wx.cell? ⟨g9,0,none⟩=some (.int .u8 (k2:Int))∧wx.cell? ⟨g9,1,none⟩=some (.int .u64 (n2:Int))∧wx.cell? ⟨g9,2,none⟩=some (.string t2)∧wx.cell? ⟨g9,3,none⟩=some (.slice A2 l2 c2):=by
 obtain⟨a0,a1,a2,a3,_⟩:=h.b8.all;obtain⟨b0,b1,b2,b3,_⟩:=h.b9.all;exact⟨a0,a1,a2,a3,b0,b1,b2,b3⟩
theorem NS.new1 (w1:World)(k1 n1:Nat)(t1:ByteArray)(A1:Option Addr)(l1 c1 k2 n2:Nat)(t2:ByteArray)(A2:Option Addr)(l2 c2:Nat):NS w1 ((w1.alloc (.cells #[.int .u8 (k1:Int),.int .u64 (n1:Int),.string t1,.slice A1 l1 c1] 44)).alloc (.cells #[.int .u8 (k2:Int),.int .u64 (n2:Int),.string t2,.slice A2 l2 c2] 44)).drew w1.heap.size (w1.heap.size+1) k1 n1 t1 A1 l1 c1 k2 n2 t2 A2 l2 c2:=by
 obtain⟨a,b,c⟩:=boxes2 w1 (.int .u8 (k1:Int)) (.int .u64 (n1:Int)) (.string t1) (.slice A1 l1 c1) (.int .u8 (k2:Int)) (.int .u64 (n2:Int)) (.string t2) (.slice A2 l2 c2);exact⟨a,b,c.drew⟩
theorem NS.new2 (w1:World)(k1 n1:Nat)(t1:ByteArray)(A1:Option Addr)(l1 c1 k2 n2:Nat)(t2:ByteArray)(A2:Option Addr)(l2 c2:Nat):NS w1 ((w1.alloc (.cells #[.int .u8 (k2:Int),.int .u64 (n2:Int),.string t2,.slice A2 l2 c2] 44)).alloc (.cells #[.int .u8 (k1:Int),.int .u64 (n1:Int),.string t1,.slice A1 l1 c1] 44)).drew (w1.heap.size+1) w1.heap.size k1 n1 t1 A1 l1 c1 k2 n2 t2 A2 l2 c2:=by
 obtain⟨a,b,c⟩:=boxes2 w1 (.int .u8 (k2:Int)) (.int .u64 (n2:Int)) (.string t2) (.slice A2 l2 c2) (.int .u8 (k1:Int)) (.int .u64 (n1:Int)) (.string t1) (.slice A1 l1 c1);exact⟨b,a,c.drew⟩
end
theorem same_code (k n:Nat)(t:ByteArray)(ks:List V)(A:Option Addr)(l c code:Nat)(w:World)(hN:bulkL ks≤1073741824)(hK:Kd w ks A l c)(p:Bool)(hp:V.same (.mk k n t ks) (.mk 6 code ⟨#[]⟩ [])=p) :
  Calls Tryz.prog 68 #[.agg #[.int .u8 (k:Int),.int .u64 (n:Int),.string t,.slice A l c],.agg #[.int .u8 6,.int .u64 (code:Int),.string ⟨#[]⟩,.slice none 0 0]] w (GivesB p w):=hp▸vsame_any k n t ks A l c 6 code ⟨#[]⟩ [] none 0 0 w hN hK (Kd.none_ _ _ _)
theorem same_name (k n:Nat)(t:ByteArray)(ks:List V)(A:Option Addr)(l c:Nat)(name:ByteArray)(w:World)(hN:bulkL ks≤1073741824)(hK:Kd w ks A l c)(p:Bool)(hp:V.same (.mk k n t ks) (.mk 21 0 name [])=p) :
  Calls Tryz.prog 68 #[.agg #[.int .u8 (k:Int),.int .u64 (n:Int),.string t,.slice A l c],.agg #[.int .u8 21,.int .u64 0,.string name,.slice none 0 0]] w (GivesB p w):=hp▸vsame_any k n t ks A l c 21 0 name [] none 0 0 w hN hK (Kd.none_ _ _ _)
theorem text_sym (t:ByteArray)(w:World):Calls Tryz.prog 19 #[.int .u8 21,.string t] w fun e w'=>e=.returned (.agg #[.int .u8 21,.int .u64 0,.string t,.slice none 0 0])∧Below w.heap.size w w':=text_any' 21 t w
theorem newR_pair {n:Nat}{t:ByteArray}{ks:List V}{x y:V}{code:Nat}{name:ByteArray}(hok:okB (.mk 25 n t ks)=true)(hks:ks=[x,y]):newR (.mk 25 n t ks) code name=if calledB x code name=true∧y.kind=22 then some y.kids else none:=by
 subst hks;exact if_pos ⟨hok,rfl⟩
set_option maxHeartbeats 1000000 in
theorem new_pair (n:Nat)(t:ByteArray)(ks:List V)(x y:V)(hks:ks=[x,y])(A:Option Addr)(l c code:Nat)(name:ByteArray)(w:World)(hN:bulkL ks≤536870912)(ht:t.size≤536870912)(hn:n < 18446744073709551616)(hK:Kd w ks A l c)(hTab:Tab w)(hok:okB (.mk 25 n t ks)=true) :
  Calls Tryz.prog 107 #[.agg #[.int .u8 25,.int .u64 (n:Int),.string t,.slice A l c],.int .u64 (code:Int),.string name] w (GivesNew (newR (.mk 25 n t ks) code name) w):=by
 have hb0:Below w.heap.size w (w.alloc (.cells #[.int .u8 25,.int .u64 (n:Int),.string t,.slice A l c] 44)):=(Below.refl _ _).alloc (Nat.le_refl _) _;have hx:=Box.new w (.int .u8 25) (.int .u64 (n:Int)) (.string t) (.slice A l c);have HR:Hid (Calls Tryz.prog 23 #[.agg #[.int .u8 25,.int .u64 (n:Int),.string t,.slice A l c]] _ (GivesB (okB (.mk 25 n t ks)) _)):=Lib.hid (vright_any 25 n t ks A l c _ (by omega) (by omega) hn (hK.call hb0) (hTab.call hb0));rw[hok] at HR;have HX:=Lib.hid hx;have HB:=Lib.hid hb0;have HK:=Lib.hid (hK.call hb0);have HN:=Lib.hid hN;have HE:=Lib.hid hks;have HO:=Lib.hid (newR_pair (code:=code) (name:=name) hok hks);clear hN ht hn hK hTab hok hx hb0 hks;go_enter Tryz.func107,Tryz.ntmps107;go_wp2_with fail;refine HR.out.mono ?_;rintro e w1 ⟨rfl,hb1⟩;obtain⟨d0,d1,d2,d3,df⟩:=(HX.out.call hb1).all;have HB1:=Lib.hid (below_next HB.out hb1);obtain⟨b,o,k1,n1,t1,ks1,A1,l1,c1,k2,n2,t2,ks2,A2,l2,c2,rfl,hbl,rfl,rfl,rfl,p0,p1,p2,p3,q0,q1,q2,q3,hk1,hn1,hK1,hk2,hn2,hK2⟩:=kids_pair (HK.out.call hb1) HE.out;have HK1:=Lib.hid hK1;have HK2:=Lib.hid hK2;have hs1:=(HX.out.call hb1).lt;clear hb1 hK1 hK2 HK;go_upto_region 3 with fail
 go_cut [8,9] from 18 to 25 (fun s8 s9 wx=>∃ g8 g9,s8=.pointer (some ⟨g8,0,none⟩)∧s9=.pointer (some ⟨g9,0,none⟩)∧NS w1 wx g8 g9 k1 n1 t1 A1 l1 c1 k2 n2 t2 A2 l2 c2)
 case first=>
  go_region
  all_goals
   go_wp2_with fail;go_meet
   first | exact⟨_,_,rfl,rfl,NS.new1 _ _ _ _ _ _ _ _ _ _ _ _ _⟩ | exact⟨_,_,rfl,rfl,NS.new2 _ _ _ _ _ _ _ _ _ _ _ _ _⟩
 case rest=>
  obtain⟨g8,g9,rfl,rfl,hS⟩:=hcut;have HS:=Lib.hid hS;have hnn:=HN.out;have hEE:=HE.out;have HNK1:Hid (bulkL ks1≤1073741824):=Lib.hid (by rw[hEE] at hnn;simp only[bulkL,bulk] at hnn;omega);have HNK2:Hid (bulkL ks2≤1073741824):=Lib.hid (by rw[hEE] at hnn;simp only[bulkL,bulk] at hnn;omega);have hO:=HO.out;clear HO HN hnn hEE d0 d1 d2 d3 df p0 p1 p2 p3 q0 q1 q2 q3 hS;cases hs1:V.same (.mk k1 n1 t1 ks1) (.mk 6 code ⟨#[]⟩ []) with
  | true=>
   have HS1:=Lib.hid hs1;have hca:calledB (.mk k1 n1 t1 ks1) code name=true:=by unfold calledB;rw[hs1];rfl
   rw[hca] at hO;clear hs1 hca;by_cases h22:k2=22
   ·have hz:((k2:Int)==22)=true:=by rw[h22];rfl
    have HNR:Hid (newR (.mk 25 n t ks) code name=some ks2):=Lib.hid (hO.trans (if_pos ⟨rfl,h22⟩));clear hO h22;go_upto_region 4 with fail
    refine wp_region_held_drew (S:=fun wx=>NS w1 wx g8 g9 k1 n1 t1 A1 l1 c1 k2 n2 t2 A2 l2 c2) (by kernel_rfl) (by exact HS.out.call (Below.refl _ _).drew) (fun hHeld=>?_)
    (refine wpAnyH_take (i:=0) (oi:=⟨some 26,_,_,_,_,_⟩) (v:=?_) rfl (by kernel_rfl) (by kernel_rfl) (by kernel_rfl) (fun _ _ _ h=>h) (Or.inl ⟨by kernel_rfl,?_⟩) (by assumption) ?_;rotate_left 1;(· intro wx hSw;(try dsimp only at hSw);obtain⟨p0,p1,p2,p3,q0,q1,q2,q3⟩:=NS.cells hSw;go_simp;(try with_reducible rfl)))
    try simp only[Act.put,sA,sB,sC]
    (refine wpAnyH_take (i:=1) (oi:=⟨some 27,_,_,_,_,_⟩) (v:=?_) rfl (by kernel_rfl) (by kernel_rfl) (by kernel_rfl) (fun _ _ _ h=>h) (Or.inl ⟨by kernel_rfl,?_⟩) (by assumption) ?_;rotate_left 1;(· intro wx hSw;(try dsimp only at hSw);obtain⟨p0,p1,p2,p3,q0,q1,q2,q3⟩:=NS.cells hSw;go_simp;(try with_reducible rfl)))
    try simp only[Act.put,sA,sB,sC]
    (refine wpAnyH_ready (rs:=[2]) (by kernel_rfl) (by simp) ?_;refine AllReadyH.cons (o:=⟨some 28,_,_,_,_,_⟩) rfl (fun K hK=>?_) AllReadyH.nil;go_simp;(go_at_call 47;(with_reducible refine(bycode_any code _).mono ?_);rintro e w2 ⟨rfl,hb2⟩);go_wp2_with fail;refine hK.out _ _ ?_ (fun hHeld=>?_);(· exact NS.call (by with_reducible assumption) (by with_reducible assumption));clear hK K)
    try simp only[Act.put,sA,sB,sC]
    (refine wpAnyH_ready (rs:=[3]) (by kernel_rfl) (by simp) ?_;refine AllReadyH.cons (o:=⟨some 29,_,_,_,_,_⟩) rfl (fun K hK=>?_) AllReadyH.nil;go_simp;(go_at_call 68;(with_reducible refine(same_code k1 n1 t1 ks1 A1 l1 c1 code _ HNK1.out (Kd.call HK1.out (NS.low (by with_reducible assumption))) true HS1.out).mono ?_);rintro e w3 ⟨rfl,hb3⟩);go_wp2_with fail;refine hK.out _ _ ?_ (fun hHeld=>?_);(· exact NS.call (by with_reducible assumption) (by with_reducible assumption));clear hK K)
    try simp only[Act.put,sA,sB,sC]
    (refine wpAnyH_take (i:=4) (oi:=⟨some 30,_,_,_,_,_⟩) (v:=?_) rfl (by kernel_rfl) (by kernel_rfl) (by kernel_rfl) (fun _ _ _ h=>h) (Or.inl ⟨by kernel_rfl,?_⟩) (by assumption) ?_;rotate_left 1;(· intro wx hSw;(try dsimp only at hSw);obtain⟨p0,p1,p2,p3,q0,q1,q2,q3⟩:=NS.cells hSw;go_simp;(try with_reducible rfl)))
    try simp only[Act.put,sA,sB,sC]
    (refine wpAnyH_take (i:=5) (oi:=⟨some 31,_,_,_,_,_⟩) (v:=?_) rfl (by kernel_rfl) (by kernel_rfl) (by kernel_rfl) (fun _ _ _ h=>h) (Or.inl ⟨by kernel_rfl,?_⟩) (by assumption) ?_;rotate_left 1;(· intro wx hSw;(try dsimp only at hSw);obtain⟨p0,p1,p2,p3,q0,q1,q2,q3⟩:=NS.cells hSw;go_simp;(try with_reducible rfl)))
    try simp only[Act.put,sA,sB,sC]
    (refine wpAnyH_take (i:=6) (oi:=⟨some 32,_,_,_,_,_⟩) (v:=undef) rfl (by kernel_rfl) (by kernel_rfl) (by kernel_rfl) (fun _ _ _ h=>h) (Or.inr ⟨by kernel_rfl,rfl⟩) (by assumption) ?_)
    try simp only[Act.put,sA,sB,sC]
    (refine wpAnyH_take (i:=7) (oi:=⟨some 33,_,_,_,_,_⟩) (v:=undef) rfl (by kernel_rfl) (by kernel_rfl) (by kernel_rfl) (fun _ _ _ h=>h) (Or.inr ⟨by kernel_rfl,rfl⟩) (by assumption) ?_)
    try simp only[Act.put,sA,sB,sC]
    (refine wpAnyH_take (i:=8) (oi:=⟨some 34,_,_,_,_,_⟩) (v:=undef) rfl (by kernel_rfl) (by kernel_rfl) (by kernel_rfl) (fun _ _ _ h=>h) (Or.inr ⟨by kernel_rfl,rfl⟩) (by assumption) ?_)
    try simp only[Act.put,sA,sB,sC]
    (refine wpAnyH_take (i:=9) (oi:=⟨some 35,_,_,_,_,_⟩) (v:=undef) rfl (by kernel_rfl) (by kernel_rfl) (by kernel_rfl) (fun _ _ _ h=>h) (Or.inr ⟨by kernel_rfl,rfl⟩) (by assumption) ?_)
    try simp only[Act.put,sA,sB,sC]
    (refine wpAnyH_take (i:=10) (oi:=⟨some 36,_,_,_,_,_⟩) (v:=undef) rfl (by kernel_rfl) (by kernel_rfl) (by kernel_rfl) (fun _ _ _ h=>h) (Or.inr ⟨by kernel_rfl,rfl⟩) (by assumption) ?_)
    try simp only[Act.put,sA,sB,sC]
    (refine wpAnyH_take (i:=11) (oi:=⟨some 37,_,_,_,_,_⟩) (v:=?_) rfl (by kernel_rfl) (by kernel_rfl) (by kernel_rfl) (fun _ _ _ h=>h) (Or.inl ⟨by kernel_rfl,?_⟩) (by assumption) ?_;rotate_left 1;(· intro wx hSw;(try dsimp only at hSw);obtain⟨p0,p1,p2,p3,q0,q1,q2,q3⟩:=NS.cells hSw;go_simp;(try with_reducible rfl)))
    try simp only[Act.put,sA,sB,sC]
    (refine wpAnyH_take (i:=12) (oi:=⟨some 38,_,_,_,_,_⟩) (v:=?_) rfl (by kernel_rfl) (by kernel_rfl) (by kernel_rfl) (fun _ _ _ h=>h) (Or.inl ⟨by kernel_rfl,?_⟩) (by assumption) ?_;rotate_left 1;(· intro wx hSw;(try dsimp only at hSw);obtain⟨p0,p1,p2,p3,q0,q1,q2,q3⟩:=NS.cells hSw;go_simp;(try with_reducible rfl)))
    try simp only[Act.put,sA,sB,sC]
    (refine wpAnyH_take (i:=13) (oi:=⟨some 39,_,_,_,_,_⟩) (v:=?_) rfl (by kernel_rfl) (by kernel_rfl) (by kernel_rfl) (fun _ _ _ h=>h) (Or.inl ⟨by kernel_rfl,?_⟩) (by assumption) ?_;rotate_left 1;(· intro wx hSw;(try dsimp only at hSw);obtain⟨p0,p1,p2,p3,q0,q1,q2,q3⟩:=NS.cells hSw;go_simp;(try with_reducible rfl)))
    try simp only[Act.put,sA,sB,sC]
    (refine wpAnyH_take (i:=14) (oi:=⟨some 40,_,_,_,_,_⟩) (v:=?_) rfl (by kernel_rfl) (by kernel_rfl) (by kernel_rfl) (fun _ _ _ h=>h) (Or.inl ⟨by kernel_rfl,?_⟩) (by assumption) ?_;rotate_left 1;(· intro wx hSw;(try dsimp only at hSw);obtain⟨p0,p1,p2,p3,q0,q1,q2,q3⟩:=NS.cells hSw;go_simp;(try with_reducible rfl)))
    try simp only[Act.put,sA,sB,sC]
    (refine wpAnyH_take (i:=15) (oi:=⟨some 41,_,_,_,_,_⟩) (v:=?_) rfl (by kernel_rfl) (by kernel_rfl) (by kernel_rfl) (fun _ _ _ h=>h) (Or.inl ⟨by kernel_rfl,?_⟩) (by assumption) ?_;rotate_left 1;(· intro wx hSw;(try dsimp only at hSw);obtain⟨p0,p1,p2,p3,q0,q1,q2,q3⟩:=NS.cells hSw;go_simp;(try with_reducible rfl)))
    try simp only[Act.put,sA,sB,sC]
    (refine wpAnyH_take (i:=16) (oi:=⟨some 42,_,_,_,_,_⟩) (v:=?_) rfl (by kernel_rfl) (by kernel_rfl) (by kernel_rfl) (fun _ _ _ h=>h) (Or.inl ⟨by kernel_rfl,?_⟩) (by assumption) ?_;rotate_left 1;(· intro wx hSw;(try dsimp only at hSw);obtain⟨p0,p1,p2,p3,q0,q1,q2,q3⟩:=NS.cells hSw;go_simp;(try with_reducible rfl)))
    try simp only[Act.put,sA,sB,sC]
    refine wpAnyH_done (by kernel_rfl) ?_ _;clear HR HX HB;have HHH:=Lib.hid hHeld;obtain⟨p0,p1,p2,p3,q0,q1,q2,q3⟩:=HHH.out.cells;clear hHeld;go_wp2_with fail;refine(vcopy_any k2 n2 t2 ks2 A2 l2 c2 _ HNK2.out hk2 hn2 (Kd.call HK2.out HHH.out.low)).mono ?_;rintro e w9 ⟨A3,l3,c3,rfl,hN9,hb9⟩;have HB9:=Lib.hid (HB1.out.trans ((below_next HHH.out.low hb9).mono HB1.out.size));have HN9:=Lib.hid hN9;clear hN9 hb9 p0 p1 p2 p3 q0 q1 q2 q3;have hfd:∀ w:World,(Instr.field 44 (.agg #[.int .u8 (k2:Int),.int .u64 (n2:Int),.string t2,.slice A3 l3 c3]) 3).run Tryz.prog w=.ok (.slice A3 l3 c3) w:=fun _=>by kernel_rfl
    go_wp2;refine bodyPost_ret (v:=.tuple #[.pointer (some ⟨w9.heap.size,0,none⟩),.int .i64 0]) (by simp[results,Tryz.results107,go_sem]) rfl ?_;rw[HNR.out];refine⟨w9.heap.size,A3,l3,c3,rfl,HB9.out.size,⟨heap_alloc_new w9 _,?_,Nat.le_refl _⟩,by simp,HB9.out.alloc HB9.out.size _⟩;exact((Val.Kids.weak HN9.out).keep fun i hi=>Below.heap_alloc _ _ _ hi.2).mono fun i hi=>⟨by have:=hi.2;simp;omega,by have:=hi.2;omega⟩
   ·have hz:((k2:Int)==22)=false:=by simp;omega
    have HNR:Hid (newR (.mk 25 n t ks) code name=none):=Lib.hid (hO.trans (if_neg fun h=>h22 h.2));clear hO h22;go_upto_region 4 with fail
    refine wp_region_held_drew (S:=fun wx=>NS w1 wx g8 g9 k1 n1 t1 A1 l1 c1 k2 n2 t2 A2 l2 c2) (by kernel_rfl) (by exact HS.out.call (Below.refl _ _).drew) (fun hHeld=>?_)
    (refine wpAnyH_take (i:=0) (oi:=⟨some 26,_,_,_,_,_⟩) (v:=?_) rfl (by kernel_rfl) (by kernel_rfl) (by kernel_rfl) (fun _ _ _ h=>h) (Or.inl ⟨by kernel_rfl,?_⟩) (by assumption) ?_;rotate_left 1;(· intro wx hSw;(try dsimp only at hSw);obtain⟨p0,p1,p2,p3,q0,q1,q2,q3⟩:=NS.cells hSw;go_simp;(try with_reducible rfl)))
    try simp only[Act.put,sA,sB,sC]
    (refine wpAnyH_take (i:=1) (oi:=⟨some 27,_,_,_,_,_⟩) (v:=?_) rfl (by kernel_rfl) (by kernel_rfl) (by kernel_rfl) (fun _ _ _ h=>h) (Or.inl ⟨by kernel_rfl,?_⟩) (by assumption) ?_;rotate_left 1;(· intro wx hSw;(try dsimp only at hSw);obtain⟨p0,p1,p2,p3,q0,q1,q2,q3⟩:=NS.cells hSw;go_simp;(try with_reducible rfl)))
    try simp only[Act.put,sA,sB,sC]
    (refine wpAnyH_ready (rs:=[2]) (by kernel_rfl) (by simp) ?_;refine AllReadyH.cons (o:=⟨some 28,_,_,_,_,_⟩) rfl (fun K hK=>?_) AllReadyH.nil;go_simp;(go_at_call 47;(with_reducible refine(bycode_any code _).mono ?_);rintro e w2 ⟨rfl,hb2⟩);go_wp2_with fail;refine hK.out _ _ ?_ (fun hHeld=>?_);(· exact NS.call (by with_reducible assumption) (by with_reducible assumption));clear hK K)
    try simp only[Act.put,sA,sB,sC]
    (refine wpAnyH_ready (rs:=[3]) (by kernel_rfl) (by simp) ?_;refine AllReadyH.cons (o:=⟨some 29,_,_,_,_,_⟩) rfl (fun K hK=>?_) AllReadyH.nil;go_simp;(go_at_call 68;(with_reducible refine(same_code k1 n1 t1 ks1 A1 l1 c1 code _ HNK1.out (Kd.call HK1.out (NS.low (by with_reducible assumption))) true HS1.out).mono ?_);rintro e w3 ⟨rfl,hb3⟩);go_wp2_with fail;refine hK.out _ _ ?_ (fun hHeld=>?_);(· exact NS.call (by with_reducible assumption) (by with_reducible assumption));clear hK K)
    try simp only[Act.put,sA,sB,sC]
    (refine wpAnyH_take (i:=4) (oi:=⟨some 30,_,_,_,_,_⟩) (v:=?_) rfl (by kernel_rfl) (by kernel_rfl) (by kernel_rfl) (fun _ _ _ h=>h) (Or.inl ⟨by kernel_rfl,?_⟩) (by assumption) ?_;rotate_left 1;(· intro wx hSw;(try dsimp only at hSw);obtain⟨p0,p1,p2,p3,q0,q1,q2,q3⟩:=NS.cells hSw;go_simp;(try with_reducible rfl)))
    try simp only[Act.put,sA,sB,sC]
    (refine wpAnyH_take (i:=5) (oi:=⟨some 31,_,_,_,_,_⟩) (v:=?_) rfl (by kernel_rfl) (by kernel_rfl) (by kernel_rfl) (fun _ _ _ h=>h) (Or.inl ⟨by kernel_rfl,?_⟩) (by assumption) ?_;rotate_left 1;(· intro wx hSw;(try dsimp only at hSw);obtain⟨p0,p1,p2,p3,q0,q1,q2,q3⟩:=NS.cells hSw;go_simp;(try with_reducible rfl)))
    try simp only[Act.put,sA,sB,sC]
    (refine wpAnyH_take (i:=6) (oi:=⟨some 32,_,_,_,_,_⟩) (v:=undef) rfl (by kernel_rfl) (by kernel_rfl) (by kernel_rfl) (fun _ _ _ h=>h) (Or.inr ⟨by kernel_rfl,rfl⟩) (by assumption) ?_)
    try simp only[Act.put,sA,sB,sC]
    (refine wpAnyH_take (i:=7) (oi:=⟨some 33,_,_,_,_,_⟩) (v:=undef) rfl (by kernel_rfl) (by kernel_rfl) (by kernel_rfl) (fun _ _ _ h=>h) (Or.inr ⟨by kernel_rfl,rfl⟩) (by assumption) ?_)
    try simp only[Act.put,sA,sB,sC]
    (refine wpAnyH_take (i:=8) (oi:=⟨some 34,_,_,_,_,_⟩) (v:=undef) rfl (by kernel_rfl) (by kernel_rfl) (by kernel_rfl) (fun _ _ _ h=>h) (Or.inr ⟨by kernel_rfl,rfl⟩) (by assumption) ?_)
    try simp only[Act.put,sA,sB,sC]
    (refine wpAnyH_take (i:=9) (oi:=⟨some 35,_,_,_,_,_⟩) (v:=undef) rfl (by kernel_rfl) (by kernel_rfl) (by kernel_rfl) (fun _ _ _ h=>h) (Or.inr ⟨by kernel_rfl,rfl⟩) (by assumption) ?_)
    try simp only[Act.put,sA,sB,sC]
    (refine wpAnyH_take (i:=10) (oi:=⟨some 36,_,_,_,_,_⟩) (v:=undef) rfl (by kernel_rfl) (by kernel_rfl) (by kernel_rfl) (fun _ _ _ h=>h) (Or.inr ⟨by kernel_rfl,rfl⟩) (by assumption) ?_)
    try simp only[Act.put,sA,sB,sC]
    (refine wpAnyH_take (i:=11) (oi:=⟨some 37,_,_,_,_,_⟩) (v:=?_) rfl (by kernel_rfl) (by kernel_rfl) (by kernel_rfl) (fun _ _ _ h=>h) (Or.inl ⟨by kernel_rfl,?_⟩) (by assumption) ?_;rotate_left 1;(· intro wx hSw;(try dsimp only at hSw);obtain⟨p0,p1,p2,p3,q0,q1,q2,q3⟩:=NS.cells hSw;go_simp;(try with_reducible rfl)))
    try simp only[Act.put,sA,sB,sC]
    (refine wpAnyH_take (i:=12) (oi:=⟨some 38,_,_,_,_,_⟩) (v:=?_) rfl (by kernel_rfl) (by kernel_rfl) (by kernel_rfl) (fun _ _ _ h=>h) (Or.inl ⟨by kernel_rfl,?_⟩) (by assumption) ?_;rotate_left 1;(· intro wx hSw;(try dsimp only at hSw);obtain⟨p0,p1,p2,p3,q0,q1,q2,q3⟩:=NS.cells hSw;go_simp;(try with_reducible rfl)))
    try simp only[Act.put,sA,sB,sC]
    (refine wpAnyH_take (i:=13) (oi:=⟨some 39,_,_,_,_,_⟩) (v:=?_) rfl (by kernel_rfl) (by kernel_rfl) (by kernel_rfl) (fun _ _ _ h=>h) (Or.inl ⟨by kernel_rfl,?_⟩) (by assumption) ?_;rotate_left 1;(· intro wx hSw;(try dsimp only at hSw);obtain⟨p0,p1,p2,p3,q0,q1,q2,q3⟩:=NS.cells hSw;go_simp;(try with_reducible rfl)))
    try simp only[Act.put,sA,sB,sC]
    (refine wpAnyH_take (i:=14) (oi:=⟨some 40,_,_,_,_,_⟩) (v:=?_) rfl (by kernel_rfl) (by kernel_rfl) (by kernel_rfl) (fun _ _ _ h=>h) (Or.inl ⟨by kernel_rfl,?_⟩) (by assumption) ?_;rotate_left 1;(· intro wx hSw;(try dsimp only at hSw);obtain⟨p0,p1,p2,p3,q0,q1,q2,q3⟩:=NS.cells hSw;go_simp;(try with_reducible rfl)))
    try simp only[Act.put,sA,sB,sC]
    (refine wpAnyH_take (i:=15) (oi:=⟨some 41,_,_,_,_,_⟩) (v:=?_) rfl (by kernel_rfl) (by kernel_rfl) (by kernel_rfl) (fun _ _ _ h=>h) (Or.inl ⟨by kernel_rfl,?_⟩) (by assumption) ?_;rotate_left 1;(· intro wx hSw;(try dsimp only at hSw);obtain⟨p0,p1,p2,p3,q0,q1,q2,q3⟩:=NS.cells hSw;go_simp;(try with_reducible rfl)))
    try simp only[Act.put,sA,sB,sC]
    (refine wpAnyH_take (i:=16) (oi:=⟨some 42,_,_,_,_,_⟩) (v:=?_) rfl (by kernel_rfl) (by kernel_rfl) (by kernel_rfl) (fun _ _ _ h=>h) (Or.inl ⟨by kernel_rfl,?_⟩) (by assumption) ?_;rotate_left 1;(· intro wx hSw;(try dsimp only at hSw);obtain⟨p0,p1,p2,p3,q0,q1,q2,q3⟩:=NS.cells hSw;go_simp;(try with_reducible rfl)))
    try simp only[Act.put,sA,sB,sC]
    refine wpAnyH_done (by kernel_rfl) ?_ _;clear HK1 HK2 HR HX HB;go_wp2;refine bodyPost_ret (v:=.tuple #[.pointer none,.int .i64 6]) (by simp[results,Tryz.results107,go_sem]) rfl ?_;rw[HNR.out];exact⟨rfl,HB1.out.trans (hHeld.low.mono HB1.out.size)⟩
  | false=>
   have HS1:=Lib.hid hs1;cases hs2:V.same (.mk k1 n1 t1 ks1) (.mk 21 0 name []) with
   | true=>
    have HS2:=Lib.hid hs2;have hca:calledB (.mk k1 n1 t1 ks1) code name=true:=by unfold calledB;rw[hs1,hs2];rfl
    rw[hca] at hO;clear hs1 hs2 hca;by_cases h22:k2=22
    ·have hz:((k2:Int)==22)=true:=by rw[h22];rfl
     have HNR:Hid (newR (.mk 25 n t ks) code name=some ks2):=Lib.hid (hO.trans (if_pos ⟨rfl,h22⟩));clear hO h22;go_upto_region 4 with fail
     refine wp_region_held_drew (S:=fun wx=>NS w1 wx g8 g9 k1 n1 t1 A1 l1 c1 k2 n2 t2 A2 l2 c2) (by kernel_rfl) (by exact HS.out.call (Below.refl _ _).drew) (fun hHeld=>?_)
     (refine wpAnyH_take (i:=0) (oi:=⟨some 26,_,_,_,_,_⟩) (v:=?_) rfl (by kernel_rfl) (by kernel_rfl) (by kernel_rfl) (fun _ _ _ h=>h) (Or.inl ⟨by kernel_rfl,?_⟩) (by assumption) ?_;rotate_left 1;(· intro wx hSw;(try dsimp only at hSw);obtain⟨p0,p1,p2,p3,q0,q1,q2,q3⟩:=NS.cells hSw;go_simp;(try with_reducible rfl)))
     try simp only[Act.put,sA,sB,sC]
     (refine wpAnyH_take (i:=1) (oi:=⟨some 27,_,_,_,_,_⟩) (v:=?_) rfl (by kernel_rfl) (by kernel_rfl) (by kernel_rfl) (fun _ _ _ h=>h) (Or.inl ⟨by kernel_rfl,?_⟩) (by assumption) ?_;rotate_left 1;(· intro wx hSw;(try dsimp only at hSw);obtain⟨p0,p1,p2,p3,q0,q1,q2,q3⟩:=NS.cells hSw;go_simp;(try with_reducible rfl)))
     try simp only[Act.put,sA,sB,sC]
     (refine wpAnyH_ready (rs:=[2]) (by kernel_rfl) (by simp) ?_;refine AllReadyH.cons (o:=⟨some 28,_,_,_,_,_⟩) rfl (fun K hK=>?_) AllReadyH.nil;go_simp;(go_at_call 47;(with_reducible refine(bycode_any code _).mono ?_);rintro e w2 ⟨rfl,hb2⟩);go_wp2_with fail;refine hK.out _ _ ?_ (fun hHeld=>?_);(· exact NS.call (by with_reducible assumption) (by with_reducible assumption));clear hK K)
     try simp only[Act.put,sA,sB,sC]
     (refine wpAnyH_ready (rs:=[3]) (by kernel_rfl) (by simp) ?_;refine AllReadyH.cons (o:=⟨some 29,_,_,_,_,_⟩) rfl (fun K hK=>?_) AllReadyH.nil;go_simp;(go_at_call 68;(with_reducible refine(same_code k1 n1 t1 ks1 A1 l1 c1 code _ HNK1.out (Kd.call HK1.out (NS.low (by with_reducible assumption))) false HS1.out).mono ?_);rintro e w3 ⟨rfl,hb3⟩);go_wp2_with fail;refine hK.out _ _ ?_ (fun hHeld=>?_);(· exact NS.call (by with_reducible assumption) (by with_reducible assumption));clear hK K)
     try simp only[Act.put,sA,sB,sC]
     (refine wpAnyH_take (i:=4) (oi:=⟨some 30,_,_,_,_,_⟩) (v:=?_) rfl (by kernel_rfl) (by kernel_rfl) (by kernel_rfl) (fun _ _ _ h=>h) (Or.inl ⟨by kernel_rfl,?_⟩) (by assumption) ?_;rotate_left 1;(· intro wx hSw;(try dsimp only at hSw);obtain⟨p0,p1,p2,p3,q0,q1,q2,q3⟩:=NS.cells hSw;go_simp;(try with_reducible rfl)))
     try simp only[Act.put,sA,sB,sC]
     (refine wpAnyH_take (i:=5) (oi:=⟨some 31,_,_,_,_,_⟩) (v:=?_) rfl (by kernel_rfl) (by kernel_rfl) (by kernel_rfl) (fun _ _ _ h=>h) (Or.inl ⟨by kernel_rfl,?_⟩) (by assumption) ?_;rotate_left 1;(· intro wx hSw;(try dsimp only at hSw);obtain⟨p0,p1,p2,p3,q0,q1,q2,q3⟩:=NS.cells hSw;go_simp;(try with_reducible rfl)))
     try simp only[Act.put,sA,sB,sC]
     (refine wpAnyH_take (i:=6) (oi:=⟨some 32,_,_,_,_,_⟩) (v:=?_) rfl (by kernel_rfl) (by kernel_rfl) (by kernel_rfl) (fun _ _ _ h=>h) (Or.inl ⟨by kernel_rfl,?_⟩) (by assumption) ?_;rotate_left 1;(· intro wx hSw;(try dsimp only at hSw);obtain⟨p0,p1,p2,p3,q0,q1,q2,q3⟩:=NS.cells hSw;go_simp;(try with_reducible rfl)))
     try simp only[Act.put,sA,sB,sC]
     (refine wpAnyH_take (i:=7) (oi:=⟨some 33,_,_,_,_,_⟩) (v:=?_) rfl (by kernel_rfl) (by kernel_rfl) (by kernel_rfl) (fun _ _ _ h=>h) (Or.inl ⟨by kernel_rfl,?_⟩) (by assumption) ?_;rotate_left 1;(· intro wx hSw;(try dsimp only at hSw);obtain⟨p0,p1,p2,p3,q0,q1,q2,q3⟩:=NS.cells hSw;go_simp;(try with_reducible rfl)))
     try simp only[Act.put,sA,sB,sC]
     (refine wpAnyH_ready (rs:=[8]) (by kernel_rfl) (by simp) ?_;refine AllReadyH.cons (o:=⟨some 34,_,_,_,_,_⟩) rfl (fun K hK=>?_) AllReadyH.nil;go_simp;(go_at_call 19;(with_reducible refine(text_sym name _).mono ?_);rintro e w4 ⟨rfl,hb4⟩);go_wp2_with fail;refine hK.out _ _ ?_ (fun hHeld=>?_);(· exact NS.call (by with_reducible assumption) (by with_reducible assumption));clear hK K)
     try simp only[Act.put,sA,sB,sC]
     (refine wpAnyH_ready (rs:=[9]) (by kernel_rfl) (by simp) ?_;refine AllReadyH.cons (o:=⟨some 35,_,_,_,_,_⟩) rfl (fun K hK=>?_) AllReadyH.nil;go_simp;(go_at_call 68;(with_reducible refine(same_name k1 n1 t1 ks1 A1 l1 c1 name _ HNK1.out (Kd.call HK1.out (NS.low (by with_reducible assumption))) true HS2.out).mono ?_);rintro e w5 ⟨rfl,hb5⟩);go_wp2_with fail;refine hK.out _ _ ?_ (fun hHeld=>?_);(· exact NS.call (by with_reducible assumption) (by with_reducible assumption));clear hK K)
     try simp only[Act.put,sA,sB,sC]
     (refine wpAnyH_take (i:=10) (oi:=⟨some 36,_,_,_,_,_⟩) (v:=?_) rfl (by kernel_rfl) (by kernel_rfl) (by kernel_rfl) (fun _ _ _ h=>h) (Or.inl ⟨by kernel_rfl,?_⟩) (by assumption) ?_;rotate_left 1;(· intro wx hSw;(try dsimp only at hSw);obtain⟨p0,p1,p2,p3,q0,q1,q2,q3⟩:=NS.cells hSw;go_simp;(try with_reducible rfl)))
     try simp only[Act.put,sA,sB,sC]
     (refine wpAnyH_take (i:=11) (oi:=⟨some 37,_,_,_,_,_⟩) (v:=?_) rfl (by kernel_rfl) (by kernel_rfl) (by kernel_rfl) (fun _ _ _ h=>h) (Or.inl ⟨by kernel_rfl,?_⟩) (by assumption) ?_;rotate_left 1;(· intro wx hSw;(try dsimp only at hSw);obtain⟨p0,p1,p2,p3,q0,q1,q2,q3⟩:=NS.cells hSw;go_simp;(try with_reducible rfl)))
     try simp only[Act.put,sA,sB,sC]
     (refine wpAnyH_take (i:=12) (oi:=⟨some 38,_,_,_,_,_⟩) (v:=?_) rfl (by kernel_rfl) (by kernel_rfl) (by kernel_rfl) (fun _ _ _ h=>h) (Or.inl ⟨by kernel_rfl,?_⟩) (by assumption) ?_;rotate_left 1;(· intro wx hSw;(try dsimp only at hSw);obtain⟨p0,p1,p2,p3,q0,q1,q2,q3⟩:=NS.cells hSw;go_simp;(try with_reducible rfl)))
     try simp only[Act.put,sA,sB,sC]
     (refine wpAnyH_take (i:=13) (oi:=⟨some 39,_,_,_,_,_⟩) (v:=?_) rfl (by kernel_rfl) (by kernel_rfl) (by kernel_rfl) (fun _ _ _ h=>h) (Or.inl ⟨by kernel_rfl,?_⟩) (by assumption) ?_;rotate_left 1;(· intro wx hSw;(try dsimp only at hSw);obtain⟨p0,p1,p2,p3,q0,q1,q2,q3⟩:=NS.cells hSw;go_simp;(try with_reducible rfl)))
     try simp only[Act.put,sA,sB,sC]
     (refine wpAnyH_take (i:=14) (oi:=⟨some 40,_,_,_,_,_⟩) (v:=?_) rfl (by kernel_rfl) (by kernel_rfl) (by kernel_rfl) (fun _ _ _ h=>h) (Or.inl ⟨by kernel_rfl,?_⟩) (by assumption) ?_;rotate_left 1;(· intro wx hSw;(try dsimp only at hSw);obtain⟨p0,p1,p2,p3,q0,q1,q2,q3⟩:=NS.cells hSw;go_simp;(try with_reducible rfl)))
     try simp only[Act.put,sA,sB,sC]
     (refine wpAnyH_take (i:=15) (oi:=⟨some 41,_,_,_,_,_⟩) (v:=?_) rfl (by kernel_rfl) (by kernel_rfl) (by kernel_rfl) (fun _ _ _ h=>h) (Or.inl ⟨by kernel_rfl,?_⟩) (by assumption) ?_;rotate_left 1;(· intro wx hSw;(try dsimp only at hSw);obtain⟨p0,p1,p2,p3,q0,q1,q2,q3⟩:=NS.cells hSw;go_simp;(try with_reducible rfl)))
     try simp only[Act.put,sA,sB,sC]
     (refine wpAnyH_take (i:=16) (oi:=⟨some 42,_,_,_,_,_⟩) (v:=?_) rfl (by kernel_rfl) (by kernel_rfl) (by kernel_rfl) (fun _ _ _ h=>h) (Or.inl ⟨by kernel_rfl,?_⟩) (by assumption) ?_;rotate_left 1;(· intro wx hSw;(try dsimp only at hSw);obtain⟨p0,p1,p2,p3,q0,q1,q2,q3⟩:=NS.cells hSw;go_simp;(try with_reducible rfl)))
     try simp only[Act.put,sA,sB,sC]
     refine wpAnyH_done (by kernel_rfl) ?_ _;clear HR HX HB;have HHH:=Lib.hid hHeld;obtain⟨p0,p1,p2,p3,q0,q1,q2,q3⟩:=HHH.out.cells;clear hHeld;go_wp2_with fail;refine(vcopy_any k2 n2 t2 ks2 A2 l2 c2 _ HNK2.out hk2 hn2 (Kd.call HK2.out HHH.out.low)).mono ?_;rintro e w9 ⟨A3,l3,c3,rfl,hN9,hb9⟩;have HB9:=Lib.hid (HB1.out.trans ((below_next HHH.out.low hb9).mono HB1.out.size));have HN9:=Lib.hid hN9;clear hN9 hb9 p0 p1 p2 p3 q0 q1 q2 q3;have hfd:∀ w:World,(Instr.field 44 (.agg #[.int .u8 (k2:Int),.int .u64 (n2:Int),.string t2,.slice A3 l3 c3]) 3).run Tryz.prog w=.ok (.slice A3 l3 c3) w:=fun _=>by kernel_rfl
     go_wp2;refine bodyPost_ret (v:=.tuple #[.pointer (some ⟨w9.heap.size,0,none⟩),.int .i64 0]) (by simp[results,Tryz.results107,go_sem]) rfl ?_;rw[HNR.out];refine⟨w9.heap.size,A3,l3,c3,rfl,HB9.out.size,⟨heap_alloc_new w9 _,?_,Nat.le_refl _⟩,by simp,HB9.out.alloc HB9.out.size _⟩;exact((Val.Kids.weak HN9.out).keep fun i hi=>Below.heap_alloc _ _ _ hi.2).mono fun i hi=>⟨by have:=hi.2;simp;omega,by have:=hi.2;omega⟩
    ·have hz:((k2:Int)==22)=false:=by simp;omega
     have HNR:Hid (newR (.mk 25 n t ks) code name=none):=Lib.hid (hO.trans (if_neg fun h=>h22 h.2));clear hO h22;go_upto_region 4 with fail
     refine wp_region_held_drew (S:=fun wx=>NS w1 wx g8 g9 k1 n1 t1 A1 l1 c1 k2 n2 t2 A2 l2 c2) (by kernel_rfl) (by exact HS.out.call (Below.refl _ _).drew) (fun hHeld=>?_)
     (refine wpAnyH_take (i:=0) (oi:=⟨some 26,_,_,_,_,_⟩) (v:=?_) rfl (by kernel_rfl) (by kernel_rfl) (by kernel_rfl) (fun _ _ _ h=>h) (Or.inl ⟨by kernel_rfl,?_⟩) (by assumption) ?_;rotate_left 1;(· intro wx hSw;(try dsimp only at hSw);obtain⟨p0,p1,p2,p3,q0,q1,q2,q3⟩:=NS.cells hSw;go_simp;(try with_reducible rfl)))
     try simp only[Act.put,sA,sB,sC]
     (refine wpAnyH_take (i:=1) (oi:=⟨some 27,_,_,_,_,_⟩) (v:=?_) rfl (by kernel_rfl) (by kernel_rfl) (by kernel_rfl) (fun _ _ _ h=>h) (Or.inl ⟨by kernel_rfl,?_⟩) (by assumption) ?_;rotate_left 1;(· intro wx hSw;(try dsimp only at hSw);obtain⟨p0,p1,p2,p3,q0,q1,q2,q3⟩:=NS.cells hSw;go_simp;(try with_reducible rfl)))
     try simp only[Act.put,sA,sB,sC]
     (refine wpAnyH_ready (rs:=[2]) (by kernel_rfl) (by simp) ?_;refine AllReadyH.cons (o:=⟨some 28,_,_,_,_,_⟩) rfl (fun K hK=>?_) AllReadyH.nil;go_simp;(go_at_call 47;(with_reducible refine(bycode_any code _).mono ?_);rintro e w2 ⟨rfl,hb2⟩);go_wp2_with fail;refine hK.out _ _ ?_ (fun hHeld=>?_);(· exact NS.call (by with_reducible assumption) (by with_reducible assumption));clear hK K)
     try simp only[Act.put,sA,sB,sC]
     (refine wpAnyH_ready (rs:=[3]) (by kernel_rfl) (by simp) ?_;refine AllReadyH.cons (o:=⟨some 29,_,_,_,_,_⟩) rfl (fun K hK=>?_) AllReadyH.nil;go_simp;(go_at_call 68;(with_reducible refine(same_code k1 n1 t1 ks1 A1 l1 c1 code _ HNK1.out (Kd.call HK1.out (NS.low (by with_reducible assumption))) false HS1.out).mono ?_);rintro e w3 ⟨rfl,hb3⟩);go_wp2_with fail;refine hK.out _ _ ?_ (fun hHeld=>?_);(· exact NS.call (by with_reducible assumption) (by with_reducible assumption));clear hK K)
     try simp only[Act.put,sA,sB,sC]
     (refine wpAnyH_take (i:=4) (oi:=⟨some 30,_,_,_,_,_⟩) (v:=?_) rfl (by kernel_rfl) (by kernel_rfl) (by kernel_rfl) (fun _ _ _ h=>h) (Or.inl ⟨by kernel_rfl,?_⟩) (by assumption) ?_;rotate_left 1;(· intro wx hSw;(try dsimp only at hSw);obtain⟨p0,p1,p2,p3,q0,q1,q2,q3⟩:=NS.cells hSw;go_simp;(try with_reducible rfl)))
     try simp only[Act.put,sA,sB,sC]
     (refine wpAnyH_take (i:=5) (oi:=⟨some 31,_,_,_,_,_⟩) (v:=?_) rfl (by kernel_rfl) (by kernel_rfl) (by kernel_rfl) (fun _ _ _ h=>h) (Or.inl ⟨by kernel_rfl,?_⟩) (by assumption) ?_;rotate_left 1;(· intro wx hSw;(try dsimp only at hSw);obtain⟨p0,p1,p2,p3,q0,q1,q2,q3⟩:=NS.cells hSw;go_simp;(try with_reducible rfl)))
     try simp only[Act.put,sA,sB,sC]
     (refine wpAnyH_take (i:=6) (oi:=⟨some 32,_,_,_,_,_⟩) (v:=?_) rfl (by kernel_rfl) (by kernel_rfl) (by kernel_rfl) (fun _ _ _ h=>h) (Or.inl ⟨by kernel_rfl,?_⟩) (by assumption) ?_;rotate_left 1;(· intro wx hSw;(try dsimp only at hSw);obtain⟨p0,p1,p2,p3,q0,q1,q2,q3⟩:=NS.cells hSw;go_simp;(try with_reducible rfl)))
     try simp only[Act.put,sA,sB,sC]
     (refine wpAnyH_take (i:=7) (oi:=⟨some 33,_,_,_,_,_⟩) (v:=?_) rfl (by kernel_rfl) (by kernel_rfl) (by kernel_rfl) (fun _ _ _ h=>h) (Or.inl ⟨by kernel_rfl,?_⟩) (by assumption) ?_;rotate_left 1;(· intro wx hSw;(try dsimp only at hSw);obtain⟨p0,p1,p2,p3,q0,q1,q2,q3⟩:=NS.cells hSw;go_simp;(try with_reducible rfl)))
     try simp only[Act.put,sA,sB,sC]
     (refine wpAnyH_ready (rs:=[8]) (by kernel_rfl) (by simp) ?_;refine AllReadyH.cons (o:=⟨some 34,_,_,_,_,_⟩) rfl (fun K hK=>?_) AllReadyH.nil;go_simp;(go_at_call 19;(with_reducible refine(text_sym name _).mono ?_);rintro e w4 ⟨rfl,hb4⟩);go_wp2_with fail;refine hK.out _ _ ?_ (fun hHeld=>?_);(· exact NS.call (by with_reducible assumption) (by with_reducible assumption));clear hK K)
     try simp only[Act.put,sA,sB,sC]
     (refine wpAnyH_ready (rs:=[9]) (by kernel_rfl) (by simp) ?_;refine AllReadyH.cons (o:=⟨some 35,_,_,_,_,_⟩) rfl (fun K hK=>?_) AllReadyH.nil;go_simp;(go_at_call 68;(with_reducible refine(same_name k1 n1 t1 ks1 A1 l1 c1 name _ HNK1.out (Kd.call HK1.out (NS.low (by with_reducible assumption))) true HS2.out).mono ?_);rintro e w5 ⟨rfl,hb5⟩);go_wp2_with fail;refine hK.out _ _ ?_ (fun hHeld=>?_);(· exact NS.call (by with_reducible assumption) (by with_reducible assumption));clear hK K)
     try simp only[Act.put,sA,sB,sC]
     (refine wpAnyH_take (i:=10) (oi:=⟨some 36,_,_,_,_,_⟩) (v:=?_) rfl (by kernel_rfl) (by kernel_rfl) (by kernel_rfl) (fun _ _ _ h=>h) (Or.inl ⟨by kernel_rfl,?_⟩) (by assumption) ?_;rotate_left 1;(· intro wx hSw;(try dsimp only at hSw);obtain⟨p0,p1,p2,p3,q0,q1,q2,q3⟩:=NS.cells hSw;go_simp;(try with_reducible rfl)))
     try simp only[Act.put,sA,sB,sC]
     (refine wpAnyH_take (i:=11) (oi:=⟨some 37,_,_,_,_,_⟩) (v:=?_) rfl (by kernel_rfl) (by kernel_rfl) (by kernel_rfl) (fun _ _ _ h=>h) (Or.inl ⟨by kernel_rfl,?_⟩) (by assumption) ?_;rotate_left 1;(· intro wx hSw;(try dsimp only at hSw);obtain⟨p0,p1,p2,p3,q0,q1,q2,q3⟩:=NS.cells hSw;go_simp;(try with_reducible rfl)))
     try simp only[Act.put,sA,sB,sC]
     (refine wpAnyH_take (i:=12) (oi:=⟨some 38,_,_,_,_,_⟩) (v:=?_) rfl (by kernel_rfl) (by kernel_rfl) (by kernel_rfl) (fun _ _ _ h=>h) (Or.inl ⟨by kernel_rfl,?_⟩) (by assumption) ?_;rotate_left 1;(· intro wx hSw;(try dsimp only at hSw);obtain⟨p0,p1,p2,p3,q0,q1,q2,q3⟩:=NS.cells hSw;go_simp;(try with_reducible rfl)))
     try simp only[Act.put,sA,sB,sC]
     (refine wpAnyH_take (i:=13) (oi:=⟨some 39,_,_,_,_,_⟩) (v:=?_) rfl (by kernel_rfl) (by kernel_rfl) (by kernel_rfl) (fun _ _ _ h=>h) (Or.inl ⟨by kernel_rfl,?_⟩) (by assumption) ?_;rotate_left 1;(· intro wx hSw;(try dsimp only at hSw);obtain⟨p0,p1,p2,p3,q0,q1,q2,q3⟩:=NS.cells hSw;go_simp;(try with_reducible rfl)))
     try simp only[Act.put,sA,sB,sC]
     (refine wpAnyH_take (i:=14) (oi:=⟨some 40,_,_,_,_,_⟩) (v:=?_) rfl (by kernel_rfl) (by kernel_rfl) (by kernel_rfl) (fun _ _ _ h=>h) (Or.inl ⟨by kernel_rfl,?_⟩) (by assumption) ?_;rotate_left 1;(· intro wx hSw;(try dsimp only at hSw);obtain⟨p0,p1,p2,p3,q0,q1,q2,q3⟩:=NS.cells hSw;go_simp;(try with_reducible rfl)))
     try simp only[Act.put,sA,sB,sC]
     (refine wpAnyH_take (i:=15) (oi:=⟨some 41,_,_,_,_,_⟩) (v:=?_) rfl (by kernel_rfl) (by kernel_rfl) (by kernel_rfl) (fun _ _ _ h=>h) (Or.inl ⟨by kernel_rfl,?_⟩) (by assumption) ?_;rotate_left 1;(· intro wx hSw;(try dsimp only at hSw);obtain⟨p0,p1,p2,p3,q0,q1,q2,q3⟩:=NS.cells hSw;go_simp;(try with_reducible rfl)))
     try simp only[Act.put,sA,sB,sC]
     (refine wpAnyH_take (i:=16) (oi:=⟨some 42,_,_,_,_,_⟩) (v:=?_) rfl (by kernel_rfl) (by kernel_rfl) (by kernel_rfl) (fun _ _ _ h=>h) (Or.inl ⟨by kernel_rfl,?_⟩) (by assumption) ?_;rotate_left 1;(· intro wx hSw;(try dsimp only at hSw);obtain⟨p0,p1,p2,p3,q0,q1,q2,q3⟩:=NS.cells hSw;go_simp;(try with_reducible rfl)))
     try simp only[Act.put,sA,sB,sC]
     refine wpAnyH_done (by kernel_rfl) ?_ _;clear HK1 HK2 HR HX HB;go_wp2;refine bodyPost_ret (v:=.tuple #[.pointer none,.int .i64 6]) (by simp[results,Tryz.results107,go_sem]) rfl ?_;rw[HNR.out];exact⟨rfl,HB1.out.trans (hHeld.low.mono HB1.out.size)⟩
   | false=>
    have HS2:=Lib.hid hs2;have hca:calledB (.mk k1 n1 t1 ks1) code name=false:=by unfold calledB;rw[hs1,hs2];rfl
    rw[hca] at hO;have HNR:Hid (newR (.mk 25 n t ks) code name=none):=Lib.hid (hO.trans (if_neg fun h=>Bool.false_ne_true h.1));clear hs1 hs2 hca hO;go_upto_region 4 with fail
    refine wp_region_held_drew (S:=fun wx=>NS w1 wx g8 g9 k1 n1 t1 A1 l1 c1 k2 n2 t2 A2 l2 c2) (by kernel_rfl) (by exact HS.out.call (Below.refl _ _).drew) (fun hHeld=>?_)
    (refine wpAnyH_take (i:=0) (oi:=⟨some 26,_,_,_,_,_⟩) (v:=?_) rfl (by kernel_rfl) (by kernel_rfl) (by kernel_rfl) (fun _ _ _ h=>h) (Or.inl ⟨by kernel_rfl,?_⟩) (by assumption) ?_;rotate_left 1;(· intro wx hSw;(try dsimp only at hSw);obtain⟨p0,p1,p2,p3,q0,q1,q2,q3⟩:=NS.cells hSw;go_simp;(try with_reducible rfl)))
    try simp only[Act.put,sA,sB,sC]
    (refine wpAnyH_take (i:=1) (oi:=⟨some 27,_,_,_,_,_⟩) (v:=?_) rfl (by kernel_rfl) (by kernel_rfl) (by kernel_rfl) (fun _ _ _ h=>h) (Or.inl ⟨by kernel_rfl,?_⟩) (by assumption) ?_;rotate_left 1;(· intro wx hSw;(try dsimp only at hSw);obtain⟨p0,p1,p2,p3,q0,q1,q2,q3⟩:=NS.cells hSw;go_simp;(try with_reducible rfl)))
    try simp only[Act.put,sA,sB,sC]
    (refine wpAnyH_ready (rs:=[2]) (by kernel_rfl) (by simp) ?_;refine AllReadyH.cons (o:=⟨some 28,_,_,_,_,_⟩) rfl (fun K hK=>?_) AllReadyH.nil;go_simp;(go_at_call 47;(with_reducible refine(bycode_any code _).mono ?_);rintro e w2 ⟨rfl,hb2⟩);go_wp2_with fail;refine hK.out _ _ ?_ (fun hHeld=>?_);(· exact NS.call (by with_reducible assumption) (by with_reducible assumption));clear hK K)
    try simp only[Act.put,sA,sB,sC]
    (refine wpAnyH_ready (rs:=[3]) (by kernel_rfl) (by simp) ?_;refine AllReadyH.cons (o:=⟨some 29,_,_,_,_,_⟩) rfl (fun K hK=>?_) AllReadyH.nil;go_simp;(go_at_call 68;(with_reducible refine(same_code k1 n1 t1 ks1 A1 l1 c1 code _ HNK1.out (Kd.call HK1.out (NS.low (by with_reducible assumption))) false HS1.out).mono ?_);rintro e w3 ⟨rfl,hb3⟩);go_wp2_with fail;refine hK.out _ _ ?_ (fun hHeld=>?_);(· exact NS.call (by with_reducible assumption) (by with_reducible assumption));clear hK K)
    try simp only[Act.put,sA,sB,sC]
    (refine wpAnyH_take (i:=4) (oi:=⟨some 30,_,_,_,_,_⟩) (v:=?_) rfl (by kernel_rfl) (by kernel_rfl) (by kernel_rfl) (fun _ _ _ h=>h) (Or.inl ⟨by kernel_rfl,?_⟩) (by assumption) ?_;rotate_left 1;(· intro wx hSw;(try dsimp only at hSw);obtain⟨p0,p1,p2,p3,q0,q1,q2,q3⟩:=NS.cells hSw;go_simp;(try with_reducible rfl)))
    try simp only[Act.put,sA,sB,sC]
    (refine wpAnyH_take (i:=5) (oi:=⟨some 31,_,_,_,_,_⟩) (v:=?_) rfl (by kernel_rfl) (by kernel_rfl) (by kernel_rfl) (fun _ _ _ h=>h) (Or.inl ⟨by kernel_rfl,?_⟩) (by assumption) ?_;rotate_left 1;(· intro wx hSw;(try dsimp only at hSw);obtain⟨p0,p1,p2,p3,q0,q1,q2,q3⟩:=NS.cells hSw;go_simp;(try with_reducible rfl)))
    try simp only[Act.put,sA,sB,sC]
    (refine wpAnyH_take (i:=6) (oi:=⟨some 32,_,_,_,_,_⟩) (v:=?_) rfl (by kernel_rfl) (by kernel_rfl) (by kernel_rfl) (fun _ _ _ h=>h) (Or.inl ⟨by kernel_rfl,?_⟩) (by assumption) ?_;rotate_left 1;(· intro wx hSw;(try dsimp only at hSw);obtain⟨p0,p1,p2,p3,q0,q1,q2,q3⟩:=NS.cells hSw;go_simp;(try with_reducible rfl)))
    try simp only[Act.put,sA,sB,sC]
    (refine wpAnyH_take (i:=7) (oi:=⟨some 33,_,_,_,_,_⟩) (v:=?_) rfl (by kernel_rfl) (by kernel_rfl) (by kernel_rfl) (fun _ _ _ h=>h) (Or.inl ⟨by kernel_rfl,?_⟩) (by assumption) ?_;rotate_left 1;(· intro wx hSw;(try dsimp only at hSw);obtain⟨p0,p1,p2,p3,q0,q1,q2,q3⟩:=NS.cells hSw;go_simp;(try with_reducible rfl)))
    try simp only[Act.put,sA,sB,sC]
    (refine wpAnyH_ready (rs:=[8]) (by kernel_rfl) (by simp) ?_;refine AllReadyH.cons (o:=⟨some 34,_,_,_,_,_⟩) rfl (fun K hK=>?_) AllReadyH.nil;go_simp;(go_at_call 19;(with_reducible refine(text_sym name _).mono ?_);rintro e w4 ⟨rfl,hb4⟩);go_wp2_with fail;refine hK.out _ _ ?_ (fun hHeld=>?_);(· exact NS.call (by with_reducible assumption) (by with_reducible assumption));clear hK K)
    try simp only[Act.put,sA,sB,sC]
    (refine wpAnyH_ready (rs:=[9]) (by kernel_rfl) (by simp) ?_;refine AllReadyH.cons (o:=⟨some 35,_,_,_,_,_⟩) rfl (fun K hK=>?_) AllReadyH.nil;go_simp;(go_at_call 68;(with_reducible refine(same_name k1 n1 t1 ks1 A1 l1 c1 name _ HNK1.out (Kd.call HK1.out (NS.low (by with_reducible assumption))) false HS2.out).mono ?_);rintro e w5 ⟨rfl,hb5⟩);go_wp2_with fail;refine hK.out _ _ ?_ (fun hHeld=>?_);(· exact NS.call (by with_reducible assumption) (by with_reducible assumption));clear hK K)
    try simp only[Act.put,sA,sB,sC]
    (refine wpAnyH_take (i:=10) (oi:=⟨some 36,_,_,_,_,_⟩) (v:=?_) rfl (by kernel_rfl) (by kernel_rfl) (by kernel_rfl) (fun _ _ _ h=>h) (Or.inl ⟨by kernel_rfl,?_⟩) (by assumption) ?_;rotate_left 1;(· intro wx hSw;(try dsimp only at hSw);obtain⟨p0,p1,p2,p3,q0,q1,q2,q3⟩:=NS.cells hSw;go_simp;(try with_reducible rfl)))
    try simp only[Act.put,sA,sB,sC]
    (refine wpAnyH_take (i:=11) (oi:=⟨some 37,_,_,_,_,_⟩) (v:=?_) rfl (by kernel_rfl) (by kernel_rfl) (by kernel_rfl) (fun _ _ _ h=>h) (Or.inl ⟨by kernel_rfl,?_⟩) (by assumption) ?_;rotate_left 1;(· intro wx hSw;(try dsimp only at hSw);obtain⟨p0,p1,p2,p3,q0,q1,q2,q3⟩:=NS.cells hSw;go_simp;(try with_reducible rfl)))
    try simp only[Act.put,sA,sB,sC]
    (refine wpAnyH_take (i:=12) (oi:=⟨some 38,_,_,_,_,_⟩) (v:=?_) rfl (by kernel_rfl) (by kernel_rfl) (by kernel_rfl) (fun _ _ _ h=>h) (Or.inl ⟨by kernel_rfl,?_⟩) (by assumption) ?_;rotate_left 1;(· intro wx hSw;(try dsimp only at hSw);obtain⟨p0,p1,p2,p3,q0,q1,q2,q3⟩:=NS.cells hSw;go_simp;(try with_reducible rfl)))
    try simp only[Act.put,sA,sB,sC]
    (refine wpAnyH_take (i:=13) (oi:=⟨some 39,_,_,_,_,_⟩) (v:=undef) rfl (by kernel_rfl) (by kernel_rfl) (by kernel_rfl) (fun _ _ _ h=>h) (Or.inr ⟨by kernel_rfl,rfl⟩) (by assumption) ?_)
    try simp only[Act.put,sA,sB,sC]
    (refine wpAnyH_take (i:=14) (oi:=⟨some 40,_,_,_,_,_⟩) (v:=undef) rfl (by kernel_rfl) (by kernel_rfl) (by kernel_rfl) (fun _ _ _ h=>h) (Or.inr ⟨by kernel_rfl,rfl⟩) (by assumption) ?_)
    try simp only[Act.put,sA,sB,sC]
    (refine wpAnyH_take (i:=15) (oi:=⟨some 41,_,_,_,_,_⟩) (v:=undef) rfl (by kernel_rfl) (by kernel_rfl) (by kernel_rfl) (fun _ _ _ h=>h) (Or.inr ⟨by kernel_rfl,rfl⟩) (by assumption) ?_)
    try simp only[Act.put,sA,sB,sC]
    (refine wpAnyH_take (i:=16) (oi:=⟨some 42,_,_,_,_,_⟩) (v:=?_) rfl (by kernel_rfl) (by kernel_rfl) (by kernel_rfl) (fun _ _ _ h=>h) (Or.inl ⟨by kernel_rfl,?_⟩) (by assumption) ?_;rotate_left 1;(· intro wx hSw;(try dsimp only at hSw);obtain⟨p0,p1,p2,p3,q0,q1,q2,q3⟩:=NS.cells hSw;go_simp;(try with_reducible rfl)))
    try simp only[Act.put,sA,sB,sC]
    refine wpAnyH_done (by kernel_rfl) ?_ _;clear HK1 HK2 HR HX HB;go_wp2;refine bodyPost_ret (v:=.tuple #[.pointer none,.int .i64 6]) (by simp[results,Tryz.results107,go_sem]) rfl ?_;rw[HNR.out];exact⟨rfl,HB1.out.trans (hHeld.low.mono HB1.out.size)⟩
theorem new_any (k n:Nat)(t:ByteArray)(ks:List V)(A:Option Addr)(l c code:Nat)(name:ByteArray)(w:World)(hN:bulkL ks≤536870912)(ht:t.size≤536870912)(hn:n < 18446744073709551616)(hK:Kd w ks A l c)(hTab:Tab w) :
  Calls Tryz.prog 107 #[.agg #[.int .u8 (k:Int),.int .u64 (n:Int),.string t,.slice A l c],.int .u64 (code:Int),.string name] w (GivesNew (newR (.mk k n t ks) code name) w):=by
 cases hok:okB (.mk k n t ks) with
 | false=>
  rw[show newR (.mk k n t ks) code name=none from if_neg fun h=>by rw[hok] at h;exact Bool.false_ne_true h.1];exact new_bad k n t ks A l c code name w hN ht hn hK hTab (.inl hok)
 | true=>
  by_cases h25:k=25
  ·subst h25;have hm:mayB (.mk 25 n t ks)=true:=by
    unfold okB at hok;simp only[Bool.and_eq_true] at hok;exact hok.2
   obtain⟨x,y,hks,_⟩:=may_desc hm;exact new_pair n t ks x y hks A l c code name w hN ht hn hK hTab hok
  ·rw[show newR (.mk k n t ks) code name=none from if_neg fun h=>h25 h.2];exact new_bad k n t ks A l c code name w hN ht hn hK hTab (.inr h25)
end Go.Proofs.YtcilmmdmkpnppaaGreatDoor.Fl
end
section
namespace Go.Proofs.YtcilmmdmkpnppaaGreatDoor.Fl
set_option maxRecDepth 100000
open Go.RowKit Utf Val V
theorem called_kind {d:V}{code:Nat}{name:ByteArray}(hm:mayB d=true)(h:nameB d.kind=true):calledB d code name=if d.kind=6 then decide (d.num=code) else decide (d.text=name):=by
 obtain⟨k,n,t,ks⟩:=d;have ha:aloneOk k n t ks.length=true:=by simp only[mayB,Bool.and_eq_true] at hm;exact hm.1.2
 have h:nameB k=true:=h
 show calledB (.mk k n t ks) code name=if k=6 then decide (n=code) else decide (t=name)
 simp only[nameB,Bool.or_eq_true,beq_iff_eq] at h;rcases h with rfl | rfl
 ·rw[if_pos rfl];simp only[aloneOk,show ¬ (6=1) by omega,if_false,show (2≤6∧6≤14) by omega,and_self,if_true,Bool.and_eq_true,decide_eq_true_eq,numB] at ha;obtain⟨⟨h1,h2⟩,_⟩:=ha;have h1:t.size=0:=of_decide_eq_true h1;obtain rfl:=empty_eq h1;obtain rfl:=List.eq_nil_of_length_eq_zero h2;unfold calledB;rw[V.same_no (b:=.mk 21 0 name []) (by intro h;injection h with h;omega),Bool.or_false];by_cases hc:n=code
  ·subst hc;rw[V.same_self];simp
  ·rw[V.same_no (by intro e;injection e with _ e;exact hc e),decide_eq_false hc]
 ·rw[if_neg (by omega)];simp only[aloneOk,show ¬ (21=1) by omega,if_false,show ¬ (2≤21∧21≤14) by omega,show (15≤21∧21≤21) by omega,and_self,if_true,Bool.and_eq_true,decide_eq_true_eq] at ha;obtain⟨⟨rfl,h2⟩,_⟩:=ha;obtain rfl:=List.eq_nil_of_length_eq_zero h2;unfold calledB;rw[V.same_no (b:=.mk 6 code ⟨#[]⟩ []) (by intro h;injection h with h;omega),Bool.false_or];by_cases hc:t=name
  ·subst hc;rw[V.same_self];simp
  ·rw[V.same_no (by intro e;injection e with _ _ e;exact hc e),decide_eq_false hc]
section
variable {X:Nat→Prop} {w:World} {g:Nat} {ls:List V} {A:Option Addr} {l c:Nat} {sp:Bool}
section
variable {wi w':World} {sp':Bool}
end
end
end Go.Proofs.YtcilmmdmkpnppaaGreatDoor.Fl
namespace Go.Proofs.YtcilmmdmkpnppaaGreatDoor.Fl
set_option maxRecDepth 100000
open Go.RowKit Utf Val V
section
variable {X:Nat→Prop} {w wi w':World} {g:Nat} {ls:List V} {A:Option Addr} {l c:Nat} {sp:Bool} {g7 k n:Nat} {t:ByteArray} {ks:List V} {A':Option Addr} {l' c':Nat} {KA:Option Addr} {kl:Nat} {L:List Nat}
end
end Go.Proofs.YtcilmmdmkpnppaaGreatDoor.Fl
end
