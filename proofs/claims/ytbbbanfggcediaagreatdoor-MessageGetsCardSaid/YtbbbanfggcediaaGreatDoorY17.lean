/- Contracts, each with its premises. -/
import Derived.Test.YtbbbanfggcediaaGreatDoorY16
set_option maxRecDepth 100000
set_option maxHeartbeats 8000000
namespace Go.Proofs.YtbbbanfggcediaaGreatDoor
open _root_.Go.Proofs.Tryz
open Go.RowKit.Below renaming heap_alloc→yca
open Option renaming some.injEq→yb7
open Nat renaming le_trans→yb5,one_mul→ycc,add_zero→ycd
open List renaming length_cons→yb4,take_of_length_le→yb6,eq_nil_of_length_eq_zero→yb9
open Bool renaming and_eq_true→yb3,false_ne_true→yb8,or_eq_true→ycb
section
open Go Go.RowKit
theorem T3K{P:Program}{md:Region.Mode}{ops:Array Oper}{Q:Exit→Act→World→Prop}{S:World→Prop}(i:Nat)(oi:Oper)(v:Value){fuel:Nat}{listed:Array Bool}{a:Act}{w:World}(hi:ops[i]?=some oi)(hb:(Region.noSelect ops&&(Region.free md ops listed i&&((Region.ready md ops listed).contains i&&Region.wanted oi (yielded ops a.tmps))))=true)(hQ:∀ c a w,Q (.panic c) (a.put oi.dst v) w→Q (.panic c) a w)(hy:∀ w,S w→(execOp a.eval oi).run P w=.ok (.value v) w)(hS:S w)(h:wpAnyH P md ops Q S fuel (listed.setIfInBounds i true) (a.put oi.dst v) w):wpAnyH P md ops Q S (fuel+1) listed a w:=by
 simp only[yb3] at hb
 exact wpAnyH_take hi hb.1 hb.2.1 hb.2.2.1 hQ (Or.inl ⟨hb.2.2.2,hy⟩) hS h
theorem S3K{P:Program}{md:Region.Mode}{ops:Array Oper}{Q:Exit→Act→World→Prop}{S:World→Prop}(i:Nat)(oi:Oper){fuel:Nat}{listed:Array Bool}{a:Act}{w:World}(hi:ops[i]?=some oi)(hb:(Region.noSelect ops&&(Region.free md ops listed i&&((Region.ready md ops listed).contains i&&!Region.wanted oi (yielded ops a.tmps))))=true)(hQ:∀ c a w,Q (.panic c) (a.put oi.dst undef) w→Q (.panic c) a w)(hS:S w)(h:wpAnyH P md ops Q S fuel (listed.setIfInBounds i true) (a.put oi.dst undef) w):wpAnyH P md ops Q S (fuel+1) listed a w:=by
 simp only[yb3,Bool.not_eq_true'] at hb
 exact wpAnyH_take hi hb.1 hb.2.1 hb.2.2.1 hQ (Or.inr ⟨hb.2.2.2,rfl⟩) hS h
end
namespace Fl
open Go.RowKit Utf Val V
theorem zeF {w:World}{ks:List V}{A:Oz}{l c:Nat}{x y:V}(h:Kd w ks A l c)(e:ks=[x,y]):∃ b o k n t ks1 A1 l1 c1 k' n' t' ks2 A2 l2 c2,A=some ⟨b,o,none⟩∧b < w.heap.size∧l=2∧x=.mk k n t ks1∧y=.mk k' n' t' ks2 ∧
  w.cell? ⟨b,o,none⟩=some (.int .u8 (k:Int))∧w.cell? ⟨b,o+1,none⟩=some (.int .u64 (n:Int))∧w.cell? ⟨b,o+2,none⟩=some (.string t)∧w.cell? ⟨b,o+3,none⟩=some (.slice A1 l1 c1) ∧
  w.cell? ⟨b,o+4,none⟩=some (.int .u8 (k':Int))∧w.cell? ⟨b,o+4+1,none⟩=some (.int .u64 (n':Int))∧w.cell? ⟨b,o+4+2,none⟩=some (.string t')∧w.cell? ⟨b,o+4+3,none⟩=some (.slice A2 l2 c2) ∧
  k < 256∧n < 18446744073709551616∧Kd w ks1 A1 l1 c1∧k' < 256∧n' < 18446744073709551616∧Kd w ks2 A2 l2 c2:=by
 subst e;have hl:l=2:=h.len;obtain⟨b,o,k,n,t,ks1,A1,l1,c1,e1,KP,hx,a0,a1,a2,a3,hk,hn,hK⟩:=h.at_ (i:=0) (by omega);obtain⟨b',o',k',n',t',ks2,A2,l2,c2,e2,_,hy,b0,b1,b2,b3,Gn,k8,gV⟩:=h.at_ (i:=1) (by omega);rw[e1] at e2;injection e2 with e2
 injection e2 with q1 q2
 subst q1;subst q2;simp only[List.getElem?_cons_zero,List.getElem?_cons_succ,yb7] at hx hy;rw[Nat.zero_mul,ycd] at a0 a1 a2 a3;rw[ycc] at b0 b1 b2 b3;exact⟨b,o,k,n,t,ks1,A1,l1,c1,k',n',t',ks2,A2,l2,c2,e1,KP,hl,hx,hy,a0,a1,a2,a3,b0,b1,b2,b3,hk,hn,hK,Gn,k8,gV⟩
def zeG (o:Option (List V))(w:World)(e:Ending)(w':World):Prop:=
 match o with
 | none=>e=.returned (.tuple #[.pointer none,.int .i64 6])∧Below w.heap.size w w'
 | some ls=>∃ g A l c,e=.returned (.tuple #[.pointer (some ⟨g,0,none⟩),.int .i64 0])∧w.heap.size≤g∧Fld 140 (fun i=>g≤i) w' g ls A l c false∧g+1=w'.heap.size∧Below w.heap.size w w'
def za1 (d:V)(code:Nat)(name:ByteArray):Bool:=V.same d (.mk 6 code ⟨#[]⟩ [])||V.same d (.mk 21 0 name [])
noncomputable def newR (v:V)(code:Nat)(name:ByteArray):Option (List V):=
 if okB v=true∧v.kind=25 then (match v.kids with
  | [d,b]=>if za1 d code name=true∧b.kind=22 then some b.kids else none
  | _=>none) else none
theorem znW (k n:Nat)(t:ByteArray)(ks:List V)(A:Oz)(l c code:Nat)(name:ByteArray)(w:World)(hN:zai ks≤536870912)(ht:t.size≤536870912)(hn:n < 18446744073709551616)(hK:Kd w ks A l c)(Ho:Tab w)(hv:okB (.mk k n t ks)=false∨¬ k=25) :
  Calls prog 56 #[.agg #[.int .u8 (k:Int),.int .u64 (n:Int),.string t,.slice A l c],.int .u64 (code:Int),.string name] w (zeG none w):=by
 have Hg:Below w.heap.size w (w.alloc (.cells #[.int .u8 (k:Int),.int .u64 (n:Int),.string t,.slice A l c] 43)):=(za _ _);have hx:=Box.new w (.int .u8 (k:Int)) (.int .u64 (n:Int)) (.string t) (.slice A l c);have HR:=zaa (zcL k n t ks A l c _ (by omega) (by omega) hn (hK.call Hg) (Ho.call Hg));have HX:=zaa hx;have HB:=zaa Hg;cases Hq:okB (.mk k n t ks) with
 | false=>
  rw[Hq] at HR;clear hN ht hn hK Ho hv Hq hx Hg;go_enter func56,ntmps56;go_wp2_with fail;refine HR.out.mono ?_;rintro e w1 ⟨rfl,Ha⟩;have Hl:=zaa (zad HB.out Ha);clear Ha;go_wp2;refine bodyPost_ret (v:=.tuple #[.pointer none,.int .i64 6]) (by simp[results,results56,go_sem]) rfl ?_;exact⟨rfl,Hl.out⟩
 | true=>
  rw[Hq] at HR;have kH:((k:Int)==25)=false:=by rcases hv with h | h;(· rw[h] at Hq;cases Hq);(· simp;omega)
  clear hN ht hn hK Ho hv Hq hx Hg;go_enter func56,ntmps56;go_wp2_with fail;refine HR.out.mono ?_;rintro e w1 ⟨rfl,Ha⟩;obtain⟨d0,d1,d2,d3,df⟩:=(HX.out.call Ha).all;have Hl:=zaa (zad HB.out Ha);clear Ha;go_wp2;refine bodyPost_ret (v:=.tuple #[.pointer none,.int .i64 6]) (by simp[results,results56,go_sem]) rfl ?_;exact⟨rfl,Hl.out⟩
structure NS (w1 wx:World) (g8 g9 k1 n1:Nat) (t1:ByteArray) (A1:Oz) (l1 c1 k2 n2:Nat) (t2:ByteArray) (A2:Oz) (l2 c2:Nat):Prop where
 b8:Box wx g8 (.int .u8 (k1:Int)) (.int .u64 (n1:Int)) (.string t1) (.slice A1 l1 c1)
 b9:Box wx g9 (.int .u8 (k2:Int)) (.int .u64 (n2:Int)) (.string t2) (.slice A2 l2 c2)
 low:Below w1.heap.size w1 wx
section
variable {w1 wx w2:World} {g8 g9 k1 n1:Nat} {t1:ByteArray} {A1:Oz} {l1 c1 k2 n2:Nat} {t2:ByteArray} {A2:Oz} {l2 c2:Nat}
theorem NS.call (h:NS w1 wx g8 g9 k1 n1 t1 A1 l1 c1 k2 n2 t2 A2 l2 c2)(hb:Below wx.heap.size wx w2):NS w1 w2 g8 g9 k1 n1 t1 A1 l1 c1 k2 n2 t2 A2 l2 c2:=⟨h.b8.call hb,h.b9.call hb,zad h.low hb⟩
theorem NS.cells (h:NS w1 wx g8 g9 k1 n1 t1 A1 l1 c1 k2 n2 t2 A2 l2 c2):wx.cell? ⟨g8,0,none⟩=some (.int .u8 (k1:Int))∧wx.cell? ⟨g8,1,none⟩=some (.int .u64 (n1:Int))∧wx.cell? ⟨g8,2,none⟩=some (.string t1)∧wx.cell? ⟨g8,3,none⟩=some (.slice A1 l1 c1) ∧
  wx.cell? ⟨g9,0,none⟩=some (.int .u8 (k2:Int))∧wx.cell? ⟨g9,1,none⟩=some (.int .u64 (n2:Int))∧wx.cell? ⟨g9,2,none⟩=some (.string t2)∧wx.cell? ⟨g9,3,none⟩=some (.slice A2 l2 c2):=by
 obtain⟨a0,a1,a2,a3,_⟩:=h.b8.all;obtain⟨b0,b1,b2,b3,_⟩:=h.b9.all;exact⟨a0,a1,a2,a3,b0,b1,b2,b3⟩
theorem NS.new1 (w1:World)(k1 n1:Nat)(t1:ByteArray)(A1:Oz)(l1 c1 k2 n2:Nat)(t2:ByteArray)(A2:Oz)(l2 c2:Nat):NS w1 ((w1.alloc (.cells #[.int .u8 (k1:Int),.int .u64 (n1:Int),.string t1,.slice A1 l1 c1] 43)).alloc (.cells #[.int .u8 (k2:Int),.int .u64 (n2:Int),.string t2,.slice A2 l2 c2] 43)).drew w1.heap.size (w1.heap.size+1) k1 n1 t1 A1 l1 c1 k2 n2 t2 A2 l2 c2:=by
 obtain⟨a,b,c⟩:=boxes2 w1 (.int .u8 (k1:Int)) (.int .u64 (n1:Int)) (.string t1) (.slice A1 l1 c1) (.int .u8 (k2:Int)) (.int .u64 (n2:Int)) (.string t2) (.slice A2 l2 c2);exact⟨a,b,c.drew⟩
theorem NS.new2 (w1:World)(k1 n1:Nat)(t1:ByteArray)(A1:Oz)(l1 c1 k2 n2:Nat)(t2:ByteArray)(A2:Oz)(l2 c2:Nat):NS w1 ((w1.alloc (.cells #[.int .u8 (k2:Int),.int .u64 (n2:Int),.string t2,.slice A2 l2 c2] 43)).alloc (.cells #[.int .u8 (k1:Int),.int .u64 (n1:Int),.string t1,.slice A1 l1 c1] 43)).drew (w1.heap.size+1) w1.heap.size k1 n1 t1 A1 l1 c1 k2 n2 t2 A2 l2 c2:=by
 obtain⟨a,b,c⟩:=boxes2 w1 (.int .u8 (k2:Int)) (.int .u64 (n2:Int)) (.string t2) (.slice A2 l2 c2) (.int .u8 (k1:Int)) (.int .u64 (n1:Int)) (.string t1) (.slice A1 l1 c1);exact⟨b,a,c.drew⟩
end
theorem zcr (k n:Nat)(t:ByteArray)(ks:List V)(A:Oz)(l c code:Nat)(w:World)(hN:zai ks≤1073741824)(hK:Kd w ks A l c)(p:Bool)(hp:V.same (.mk k n t ks) (.mk 6 code ⟨#[]⟩ [])=p) :
  Calls prog 33 #[.agg #[.int .u8 (k:Int),.int .u64 (n:Int),.string t,.slice A l c],.agg #[.int .u8 6,.int .u64 (code:Int),.string ⟨#[]⟩,.slice none 0 0]] w (zaj p w):=hp▸zej k n t ks A l c 6 code ⟨#[]⟩ [] none 0 0 w hN hK (Kd.none_ _ _ _)
theorem zeH (k n:Nat)(t:ByteArray)(ks:List V)(A:Oz)(l c:Nat)(name:ByteArray)(w:World)(hN:zai ks≤1073741824)(hK:Kd w ks A l c)(p:Bool)(hp:V.same (.mk k n t ks) (.mk 21 0 name [])=p) :
  Calls prog 33 #[.agg #[.int .u8 (k:Int),.int .u64 (n:Int),.string t,.slice A l c],.agg #[.int .u8 21,.int .u64 0,.string name,.slice none 0 0]] w (zaj p w):=hp▸zej k n t ks A l c 21 0 name [] none 0 0 w hN hK (Kd.none_ _ _ _)
theorem zfE (t:ByteArray)(w:World):Calls prog 35 #[.int .u8 21,.string t] w fun e w'=>e=.returned (.agg #[.int .u8 21,.int .u64 0,.string t,.slice none 0 0])∧Below w.heap.size w w':=zaD 21 t w
theorem zgk {n:Nat}{t:ByteArray}{ks:List V}{x y:V}{code:Nat}{name:ByteArray}(Hq:okB (.mk 25 n t ks)=true)(gQ:ks=[x,y]):newR (.mk 25 n t ks) code name=if za1 x code name=true∧y.kind=22 then some y.kids else none:=by
 subst gQ;exact if_pos ⟨Hq,rfl⟩
theorem zqh (n:Nat)(t:ByteArray)(ks:List V)(x y:V)(gQ:ks=[x,y])(A:Oz)(l c code:Nat)(name:ByteArray)(w:World)(hN:zai ks≤536870912)(ht:t.size≤536870912)(hn:n < 18446744073709551616)(hK:Kd w ks A l c)(Ho:Tab w)(Hq:okB (.mk 25 n t ks)=true) :
  Calls prog 56 #[.agg #[.int .u8 25,.int .u64 (n:Int),.string t,.slice A l c],.int .u64 (code:Int),.string name] w (zeG (newR (.mk 25 n t ks) code name) w):=by
 have Hg:Below w.heap.size w (w.alloc (.cells #[.int .u8 25,.int .u64 (n:Int),.string t,.slice A l c] 43)):=(za _ _);have hx:=Box.new w (.int .u8 25) (.int .u64 (n:Int)) (.string t) (.slice A l c);have HR:Hid (Calls prog 32 #[.agg #[.int .u8 25,.int .u64 (n:Int),.string t,.slice A l c]] _ (zaj (okB (.mk 25 n t ks)) _)):=zaa (zcL 25 n t ks A l c _ (by omega) (by omega) hn (hK.call Hg) (Ho.call Hg));rw[Hq] at HR;have HX:=zaa hx;have HB:=zaa Hg;have HK:=zaa (hK.call Hg);have HN:=zaa hN;have HE:=zaa gQ;have HO:=zaa (zgk (code:=code) (name:=name) Hq gQ);clear hN ht hn hK Ho Hq hx Hg gQ;go_enter func56,ntmps56;go_wp2_with fail;refine HR.out.mono ?_;rintro e w1 ⟨rfl,Ha⟩;obtain⟨d0,d1,d2,d3,df⟩:=(HX.out.call Ha).all;have Hl:=zaa (zad HB.out Ha);obtain⟨b,o,k1,n1,t1,ks1,A1,l1,c1,k2,n2,t2,ks2,A2,l2,c2,rfl,KP,rfl,rfl,rfl,p0,p1,p2,p3,q0,q1,q2,q3,gF,Gm,kK,gR,Kk,kE⟩:=zeF (HK.out.call Ha) HE.out;have jP:=zaa kK;have jr:=zaa kE;have gu:=(HX.out.call Ha).lt;clear Ha kK kE HK;go_upto_region 3 with fail
 go_cut [8,9] from 18 to 25 (fun s8 s9 wx=>∃ g8 g9,s8=.pointer (some ⟨g8,0,none⟩)∧s9=.pointer (some ⟨g9,0,none⟩)∧NS w1 wx g8 g9 k1 n1 t1 A1 l1 c1 k2 n2 t2 A2 l2 c2)
 case first=>
  go_region
  all_goals
   go_wp2_with fail;go_meet
   first | exact⟨_,_,rfl,rfl,NS.new1 _ _ _ _ _ _ _ _ _ _ _ _ _⟩ | exact⟨_,_,rfl,rfl,NS.new2 _ _ _ _ _ _ _ _ _ _ _ _ _⟩
 case rest=>
  obtain⟨g8,g9,rfl,rfl,hS⟩:=hcut;have HS:=zaa hS;have JY:=HN.out;have BR:=HE.out;have KH:Hid (zai ks1≤1073741824):=zaa (by rw[BR] at JY;simp only[zai,bulk] at JY;omega);have uX:Hid (zai ks2≤1073741824):=zaa (by rw[BR] at JY;simp only[zai,bulk] at JY;omega);have hO:=HO.out;clear HO HN JY BR d0 d1 d2 d3 df p0 p1 p2 p3 q0 q1 q2 q3 hS;cases gu:V.same (.mk k1 n1 t1 ks1) (.mk 6 code ⟨#[]⟩ []) with
  | true=>
   have JK:=zaa gu;have xz:za1 (.mk k1 n1 t1 ks1) code name=true:=by unfold za1;rw[gu];rfl
   rw[xz] at hO;clear gu xz;by_cases kJ:k2=22
   ·have hz:((k2:Int)==22)=true:=by rw[kJ];rfl
    have VH:Hid (newR (.mk 25 n t ks) code name=some ks2):=zaa (hO.trans (if_pos ⟨rfl,kJ⟩));clear hO kJ;go_upto_region 4 with fail
    refine wp_region_held_drew (S:=fun wx=>NS w1 wx g8 g9 k1 n1 t1 A1 l1 c1 k2 n2 t2 A2 l2 c2) (by kernel_rfl) (by exact HS.out.call (Below.refl _ _).drew) (fun hHeld=>?_)
    (refine T3K 0 ⟨some 26,_,_,_,_,_⟩ ?_ rfl (by kernel_rfl) (fun _ _ _ h=>h) ?_ (by assumption) ?_;rotate_left 1;(· intro wx Hc;(try dsimp only at Hc);obtain⟨p0,p1,p2,p3,q0,q1,q2,q3⟩:=NS.cells Hc;go_simp;(try with_reducible rfl)))
    try simp only[Act.put,sA,sB,sC]
    (refine T3K 1 ⟨some 27,_,_,_,_,_⟩ ?_ rfl (by kernel_rfl) (fun _ _ _ h=>h) ?_ (by assumption) ?_;rotate_left 1;(· intro wx Hc;(try dsimp only at Hc);obtain⟨p0,p1,p2,p3,q0,q1,q2,q3⟩:=NS.cells Hc;go_simp;(try with_reducible rfl)))
    try simp only[Act.put,sA,sB,sC]
    (refine wpAnyH_ready (rs:=[2]) (by kernel_rfl) (by simp) ?_;refine AllReadyH.cons (o:=⟨some 28,_,_,_,_,_⟩) rfl (fun K hK=>?_) AllReadyH.nil;go_simp;(go_at_call 81;(with_reducible refine(zbP code _).mono ?_);rintro e w2 ⟨rfl,He⟩);go_wp2_with fail;refine hK.out _ _ ?_ (fun hHeld=>?_);(· exact NS.call (by with_reducible assumption) (by with_reducible assumption));clear hK K)
    try simp only[Act.put,sA,sB,sC]
    (refine wpAnyH_ready (rs:=[3]) (by kernel_rfl) (by simp) ?_;refine AllReadyH.cons (o:=⟨some 29,_,_,_,_,_⟩) rfl (fun K hK=>?_) AllReadyH.nil;go_simp;(go_at_call 33;(with_reducible refine(zcr k1 n1 t1 ks1 A1 l1 c1 code _ KH.out (Kd.call jP.out (NS.low (by with_reducible assumption))) true JK.out).mono ?_);rintro e w3 ⟨rfl,Hj⟩);go_wp2_with fail;refine hK.out _ _ ?_ (fun hHeld=>?_);(· exact NS.call (by with_reducible assumption) (by with_reducible assumption));clear hK K)
    try simp only[Act.put,sA,sB,sC]
    (refine T3K 4 ⟨some 30,_,_,_,_,_⟩ ?_ rfl (by kernel_rfl) (fun _ _ _ h=>h) ?_ (by assumption) ?_;rotate_left 1;(· intro wx Hc;(try dsimp only at Hc);obtain⟨p0,p1,p2,p3,q0,q1,q2,q3⟩:=NS.cells Hc;go_simp;(try with_reducible rfl)))
    try simp only[Act.put,sA,sB,sC]
    (refine T3K 5 ⟨some 31,_,_,_,_,_⟩ ?_ rfl (by kernel_rfl) (fun _ _ _ h=>h) ?_ (by assumption) ?_;rotate_left 1;(· intro wx Hc;(try dsimp only at Hc);obtain⟨p0,p1,p2,p3,q0,q1,q2,q3⟩:=NS.cells Hc;go_simp;(try with_reducible rfl)))
    try simp only[Act.put,sA,sB,sC]
    (refine S3K 6 ⟨some 32,_,_,_,_,_⟩ rfl (by kernel_rfl) (fun _ _ _ h=>h) (by assumption) ?_)
    try simp only[Act.put,sA,sB,sC]
    (refine S3K 7 ⟨some 33,_,_,_,_,_⟩ rfl (by kernel_rfl) (fun _ _ _ h=>h) (by assumption) ?_)
    try simp only[Act.put,sA,sB,sC]
    (refine S3K 8 ⟨some 34,_,_,_,_,_⟩ rfl (by kernel_rfl) (fun _ _ _ h=>h) (by assumption) ?_)
    try simp only[Act.put,sA,sB,sC]
    (refine S3K 9 ⟨some 35,_,_,_,_,_⟩ rfl (by kernel_rfl) (fun _ _ _ h=>h) (by assumption) ?_)
    try simp only[Act.put,sA,sB,sC]
    (refine S3K 10 ⟨some 36,_,_,_,_,_⟩ rfl (by kernel_rfl) (fun _ _ _ h=>h) (by assumption) ?_)
    try simp only[Act.put,sA,sB,sC]
    (refine T3K 11 ⟨some 37,_,_,_,_,_⟩ ?_ rfl (by kernel_rfl) (fun _ _ _ h=>h) ?_ (by assumption) ?_;rotate_left 1;(· intro wx Hc;(try dsimp only at Hc);obtain⟨p0,p1,p2,p3,q0,q1,q2,q3⟩:=NS.cells Hc;go_simp;(try with_reducible rfl)))
    try simp only[Act.put,sA,sB,sC]
    (refine T3K 12 ⟨some 38,_,_,_,_,_⟩ ?_ rfl (by kernel_rfl) (fun _ _ _ h=>h) ?_ (by assumption) ?_;rotate_left 1;(· intro wx Hc;(try dsimp only at Hc);obtain⟨p0,p1,p2,p3,q0,q1,q2,q3⟩:=NS.cells Hc;go_simp;(try with_reducible rfl)))
    try simp only[Act.put,sA,sB,sC]
    (refine T3K 13 ⟨some 39,_,_,_,_,_⟩ ?_ rfl (by kernel_rfl) (fun _ _ _ h=>h) ?_ (by assumption) ?_;rotate_left 1;(· intro wx Hc;(try dsimp only at Hc);obtain⟨p0,p1,p2,p3,q0,q1,q2,q3⟩:=NS.cells Hc;go_simp;(try with_reducible rfl)))
    try simp only[Act.put,sA,sB,sC]
    (refine T3K 14 ⟨some 40,_,_,_,_,_⟩ ?_ rfl (by kernel_rfl) (fun _ _ _ h=>h) ?_ (by assumption) ?_;rotate_left 1;(· intro wx Hc;(try dsimp only at Hc);obtain⟨p0,p1,p2,p3,q0,q1,q2,q3⟩:=NS.cells Hc;go_simp;(try with_reducible rfl)))
    try simp only[Act.put,sA,sB,sC]
    (refine T3K 15 ⟨some 41,_,_,_,_,_⟩ ?_ rfl (by kernel_rfl) (fun _ _ _ h=>h) ?_ (by assumption) ?_;rotate_left 1;(· intro wx Hc;(try dsimp only at Hc);obtain⟨p0,p1,p2,p3,q0,q1,q2,q3⟩:=NS.cells Hc;go_simp;(try with_reducible rfl)))
    try simp only[Act.put,sA,sB,sC]
    (refine T3K 16 ⟨some 42,_,_,_,_,_⟩ ?_ rfl (by kernel_rfl) (fun _ _ _ h=>h) ?_ (by assumption) ?_;rotate_left 1;(· intro wx Hc;(try dsimp only at Hc);obtain⟨p0,p1,p2,p3,q0,q1,q2,q3⟩:=NS.cells Hc;go_simp;(try with_reducible rfl)))
    try simp only[Act.put,sA,sB,sC]
    refine wpAnyH_done (by kernel_rfl) ?_ _;clear HR HX HB;have Xu:=zaa hHeld;obtain⟨p0,p1,p2,p3,q0,q1,q2,q3⟩:=Xu.out.cells;clear hHeld;go_wp2_with fail;refine(zdf k2 n2 t2 ks2 A2 l2 c2 _ uX.out gR Kk (Kd.call jr.out Xu.out.low)).mono ?_;rintro e w9 ⟨A3,l3,c3,rfl,Y3,kr⟩;have j5:=zaa (Hl.out.trans ((zad Xu.out.low kr).mono Hl.out.size));have Xv:=zaa Y3;clear Y3 kr p0 p1 p2 p3 q0 q1 q2 q3;have qs:∀ w:World,(Instr.field 43 (.agg #[.int .u8 (k2:Int),.int .u64 (n2:Int),.string t2,.slice A3 l3 c3]) 3).run prog w=.ok (.slice A3 l3 c3) w:=fun _=>by kernel_rfl
    go_wp2;refine bodyPost_ret (v:=.tuple #[.pointer (some ⟨w9.heap.size,0,none⟩),.int .i64 0]) (by simp[results,results56,go_sem]) rfl ?_;rw[VH.out];refine⟨w9.heap.size,A3,l3,c3,rfl,j5.out.size,⟨heap_alloc_new w9 _,?_,zab⟩,by simp,j5.out.alloc j5.out.size _⟩;exact((Val.Kids.weak Xv.out).keep fun i hi=>yca _ _ _ hi.2).mono fun i hi=>⟨by have:=hi.2;simp;omega,by have:=hi.2;omega⟩
   ·have hz:((k2:Int)==22)=false:=by simp;omega
    have VH:Hid (newR (.mk 25 n t ks) code name=none):=zaa (hO.trans (if_neg fun h=>kJ h.2));clear hO kJ;go_upto_region 4 with fail
    refine wp_region_held_drew (S:=fun wx=>NS w1 wx g8 g9 k1 n1 t1 A1 l1 c1 k2 n2 t2 A2 l2 c2) (by kernel_rfl) (by exact HS.out.call (Below.refl _ _).drew) (fun hHeld=>?_)
    (refine T3K 0 ⟨some 26,_,_,_,_,_⟩ ?_ rfl (by kernel_rfl) (fun _ _ _ h=>h) ?_ (by assumption) ?_;rotate_left 1;(· intro wx Hc;(try dsimp only at Hc);obtain⟨p0,p1,p2,p3,q0,q1,q2,q3⟩:=NS.cells Hc;go_simp;(try with_reducible rfl)))
    try simp only[Act.put,sA,sB,sC]
    (refine T3K 1 ⟨some 27,_,_,_,_,_⟩ ?_ rfl (by kernel_rfl) (fun _ _ _ h=>h) ?_ (by assumption) ?_;rotate_left 1;(· intro wx Hc;(try dsimp only at Hc);obtain⟨p0,p1,p2,p3,q0,q1,q2,q3⟩:=NS.cells Hc;go_simp;(try with_reducible rfl)))
    try simp only[Act.put,sA,sB,sC]
    (refine wpAnyH_ready (rs:=[2]) (by kernel_rfl) (by simp) ?_;refine AllReadyH.cons (o:=⟨some 28,_,_,_,_,_⟩) rfl (fun K hK=>?_) AllReadyH.nil;go_simp;(go_at_call 81;(with_reducible refine(zbP code _).mono ?_);rintro e w2 ⟨rfl,He⟩);go_wp2_with fail;refine hK.out _ _ ?_ (fun hHeld=>?_);(· exact NS.call (by with_reducible assumption) (by with_reducible assumption));clear hK K)
    try simp only[Act.put,sA,sB,sC]
    (refine wpAnyH_ready (rs:=[3]) (by kernel_rfl) (by simp) ?_;refine AllReadyH.cons (o:=⟨some 29,_,_,_,_,_⟩) rfl (fun K hK=>?_) AllReadyH.nil;go_simp;(go_at_call 33;(with_reducible refine(zcr k1 n1 t1 ks1 A1 l1 c1 code _ KH.out (Kd.call jP.out (NS.low (by with_reducible assumption))) true JK.out).mono ?_);rintro e w3 ⟨rfl,Hj⟩);go_wp2_with fail;refine hK.out _ _ ?_ (fun hHeld=>?_);(· exact NS.call (by with_reducible assumption) (by with_reducible assumption));clear hK K)
    try simp only[Act.put,sA,sB,sC]
    (refine T3K 4 ⟨some 30,_,_,_,_,_⟩ ?_ rfl (by kernel_rfl) (fun _ _ _ h=>h) ?_ (by assumption) ?_;rotate_left 1;(· intro wx Hc;(try dsimp only at Hc);obtain⟨p0,p1,p2,p3,q0,q1,q2,q3⟩:=NS.cells Hc;go_simp;(try with_reducible rfl)))
    try simp only[Act.put,sA,sB,sC]
    (refine T3K 5 ⟨some 31,_,_,_,_,_⟩ ?_ rfl (by kernel_rfl) (fun _ _ _ h=>h) ?_ (by assumption) ?_;rotate_left 1;(· intro wx Hc;(try dsimp only at Hc);obtain⟨p0,p1,p2,p3,q0,q1,q2,q3⟩:=NS.cells Hc;go_simp;(try with_reducible rfl)))
    try simp only[Act.put,sA,sB,sC]
    (refine S3K 6 ⟨some 32,_,_,_,_,_⟩ rfl (by kernel_rfl) (fun _ _ _ h=>h) (by assumption) ?_)
    try simp only[Act.put,sA,sB,sC]
    (refine S3K 7 ⟨some 33,_,_,_,_,_⟩ rfl (by kernel_rfl) (fun _ _ _ h=>h) (by assumption) ?_)
    try simp only[Act.put,sA,sB,sC]
    (refine S3K 8 ⟨some 34,_,_,_,_,_⟩ rfl (by kernel_rfl) (fun _ _ _ h=>h) (by assumption) ?_)
    try simp only[Act.put,sA,sB,sC]
    (refine S3K 9 ⟨some 35,_,_,_,_,_⟩ rfl (by kernel_rfl) (fun _ _ _ h=>h) (by assumption) ?_)
    try simp only[Act.put,sA,sB,sC]
    (refine S3K 10 ⟨some 36,_,_,_,_,_⟩ rfl (by kernel_rfl) (fun _ _ _ h=>h) (by assumption) ?_)
    try simp only[Act.put,sA,sB,sC]
    (refine T3K 11 ⟨some 37,_,_,_,_,_⟩ ?_ rfl (by kernel_rfl) (fun _ _ _ h=>h) ?_ (by assumption) ?_;rotate_left 1;(· intro wx Hc;(try dsimp only at Hc);obtain⟨p0,p1,p2,p3,q0,q1,q2,q3⟩:=NS.cells Hc;go_simp;(try with_reducible rfl)))
    try simp only[Act.put,sA,sB,sC]
    (refine T3K 12 ⟨some 38,_,_,_,_,_⟩ ?_ rfl (by kernel_rfl) (fun _ _ _ h=>h) ?_ (by assumption) ?_;rotate_left 1;(· intro wx Hc;(try dsimp only at Hc);obtain⟨p0,p1,p2,p3,q0,q1,q2,q3⟩:=NS.cells Hc;go_simp;(try with_reducible rfl)))
    try simp only[Act.put,sA,sB,sC]
    (refine T3K 13 ⟨some 39,_,_,_,_,_⟩ ?_ rfl (by kernel_rfl) (fun _ _ _ h=>h) ?_ (by assumption) ?_;rotate_left 1;(· intro wx Hc;(try dsimp only at Hc);obtain⟨p0,p1,p2,p3,q0,q1,q2,q3⟩:=NS.cells Hc;go_simp;(try with_reducible rfl)))
    try simp only[Act.put,sA,sB,sC]
    (refine T3K 14 ⟨some 40,_,_,_,_,_⟩ ?_ rfl (by kernel_rfl) (fun _ _ _ h=>h) ?_ (by assumption) ?_;rotate_left 1;(· intro wx Hc;(try dsimp only at Hc);obtain⟨p0,p1,p2,p3,q0,q1,q2,q3⟩:=NS.cells Hc;go_simp;(try with_reducible rfl)))
    try simp only[Act.put,sA,sB,sC]
    (refine T3K 15 ⟨some 41,_,_,_,_,_⟩ ?_ rfl (by kernel_rfl) (fun _ _ _ h=>h) ?_ (by assumption) ?_;rotate_left 1;(· intro wx Hc;(try dsimp only at Hc);obtain⟨p0,p1,p2,p3,q0,q1,q2,q3⟩:=NS.cells Hc;go_simp;(try with_reducible rfl)))
    try simp only[Act.put,sA,sB,sC]
    (refine T3K 16 ⟨some 42,_,_,_,_,_⟩ ?_ rfl (by kernel_rfl) (fun _ _ _ h=>h) ?_ (by assumption) ?_;rotate_left 1;(· intro wx Hc;(try dsimp only at Hc);obtain⟨p0,p1,p2,p3,q0,q1,q2,q3⟩:=NS.cells Hc;go_simp;(try with_reducible rfl)))
    try simp only[Act.put,sA,sB,sC]
    refine wpAnyH_done (by kernel_rfl) ?_ _;clear jP jr HR HX HB;go_wp2;refine bodyPost_ret (v:=.tuple #[.pointer none,.int .i64 6]) (by simp[results,results56,go_sem]) rfl ?_;rw[VH.out];exact⟨rfl,Hl.out.trans (hHeld.low.mono Hl.out.size)⟩
  | false=>
   have JK:=zaa gu;cases Gw:V.same (.mk k1 n1 t1 ks1) (.mk 21 0 name []) with
   | true=>
    have Qo:=zaa Gw;have xz:za1 (.mk k1 n1 t1 ks1) code name=true:=by unfold za1;rw[gu,Gw];rfl
    rw[xz] at hO;clear gu Gw xz;by_cases kJ:k2=22
    ·have hz:((k2:Int)==22)=true:=by rw[kJ];rfl
     have VH:Hid (newR (.mk 25 n t ks) code name=some ks2):=zaa (hO.trans (if_pos ⟨rfl,kJ⟩));clear hO kJ;go_upto_region 4 with fail
     refine wp_region_held_drew (S:=fun wx=>NS w1 wx g8 g9 k1 n1 t1 A1 l1 c1 k2 n2 t2 A2 l2 c2) (by kernel_rfl) (by exact HS.out.call (Below.refl _ _).drew) (fun hHeld=>?_)
     (refine T3K 0 ⟨some 26,_,_,_,_,_⟩ ?_ rfl (by kernel_rfl) (fun _ _ _ h=>h) ?_ (by assumption) ?_;rotate_left 1;(· intro wx Hc;(try dsimp only at Hc);obtain⟨p0,p1,p2,p3,q0,q1,q2,q3⟩:=NS.cells Hc;go_simp;(try with_reducible rfl)))
     try simp only[Act.put,sA,sB,sC]
     (refine T3K 1 ⟨some 27,_,_,_,_,_⟩ ?_ rfl (by kernel_rfl) (fun _ _ _ h=>h) ?_ (by assumption) ?_;rotate_left 1;(· intro wx Hc;(try dsimp only at Hc);obtain⟨p0,p1,p2,p3,q0,q1,q2,q3⟩:=NS.cells Hc;go_simp;(try with_reducible rfl)))
     try simp only[Act.put,sA,sB,sC]
     (refine wpAnyH_ready (rs:=[2]) (by kernel_rfl) (by simp) ?_;refine AllReadyH.cons (o:=⟨some 28,_,_,_,_,_⟩) rfl (fun K hK=>?_) AllReadyH.nil;go_simp;(go_at_call 81;(with_reducible refine(zbP code _).mono ?_);rintro e w2 ⟨rfl,He⟩);go_wp2_with fail;refine hK.out _ _ ?_ (fun hHeld=>?_);(· exact NS.call (by with_reducible assumption) (by with_reducible assumption));clear hK K)
     try simp only[Act.put,sA,sB,sC]
     (refine wpAnyH_ready (rs:=[3]) (by kernel_rfl) (by simp) ?_;refine AllReadyH.cons (o:=⟨some 29,_,_,_,_,_⟩) rfl (fun K hK=>?_) AllReadyH.nil;go_simp;(go_at_call 33;(with_reducible refine(zcr k1 n1 t1 ks1 A1 l1 c1 code _ KH.out (Kd.call jP.out (NS.low (by with_reducible assumption))) false JK.out).mono ?_);rintro e w3 ⟨rfl,Hj⟩);go_wp2_with fail;refine hK.out _ _ ?_ (fun hHeld=>?_);(· exact NS.call (by with_reducible assumption) (by with_reducible assumption));clear hK K)
     try simp only[Act.put,sA,sB,sC]
     (refine T3K 4 ⟨some 30,_,_,_,_,_⟩ ?_ rfl (by kernel_rfl) (fun _ _ _ h=>h) ?_ (by assumption) ?_;rotate_left 1;(· intro wx Hc;(try dsimp only at Hc);obtain⟨p0,p1,p2,p3,q0,q1,q2,q3⟩:=NS.cells Hc;go_simp;(try with_reducible rfl)))
     try simp only[Act.put,sA,sB,sC]
     (refine T3K 5 ⟨some 31,_,_,_,_,_⟩ ?_ rfl (by kernel_rfl) (fun _ _ _ h=>h) ?_ (by assumption) ?_;rotate_left 1;(· intro wx Hc;(try dsimp only at Hc);obtain⟨p0,p1,p2,p3,q0,q1,q2,q3⟩:=NS.cells Hc;go_simp;(try with_reducible rfl)))
     try simp only[Act.put,sA,sB,sC]
     (refine T3K 6 ⟨some 32,_,_,_,_,_⟩ ?_ rfl (by kernel_rfl) (fun _ _ _ h=>h) ?_ (by assumption) ?_;rotate_left 1;(· intro wx Hc;(try dsimp only at Hc);obtain⟨p0,p1,p2,p3,q0,q1,q2,q3⟩:=NS.cells Hc;go_simp;(try with_reducible rfl)))
     try simp only[Act.put,sA,sB,sC]
     (refine T3K 7 ⟨some 33,_,_,_,_,_⟩ ?_ rfl (by kernel_rfl) (fun _ _ _ h=>h) ?_ (by assumption) ?_;rotate_left 1;(· intro wx Hc;(try dsimp only at Hc);obtain⟨p0,p1,p2,p3,q0,q1,q2,q3⟩:=NS.cells Hc;go_simp;(try with_reducible rfl)))
     try simp only[Act.put,sA,sB,sC]
     (refine wpAnyH_ready (rs:=[8]) (by kernel_rfl) (by simp) ?_;refine AllReadyH.cons (o:=⟨some 34,_,_,_,_,_⟩) rfl (fun K hK=>?_) AllReadyH.nil;go_simp;(go_at_call 35;(with_reducible refine(zfE name _).mono ?_);rintro e w4 ⟨rfl,gl⟩);go_wp2_with fail;refine hK.out _ _ ?_ (fun hHeld=>?_);(· exact NS.call (by with_reducible assumption) (by with_reducible assumption));clear hK K)
     try simp only[Act.put,sA,sB,sC]
     (refine wpAnyH_ready (rs:=[9]) (by kernel_rfl) (by simp) ?_;refine AllReadyH.cons (o:=⟨some 35,_,_,_,_,_⟩) rfl (fun K hK=>?_) AllReadyH.nil;go_simp;(go_at_call 33;(with_reducible refine(zeH k1 n1 t1 ks1 A1 l1 c1 name _ KH.out (Kd.call jP.out (NS.low (by with_reducible assumption))) true Qo.out).mono ?_);rintro e w5 ⟨rfl,gp⟩);go_wp2_with fail;refine hK.out _ _ ?_ (fun hHeld=>?_);(· exact NS.call (by with_reducible assumption) (by with_reducible assumption));clear hK K)
     try simp only[Act.put,sA,sB,sC]
     (refine T3K 10 ⟨some 36,_,_,_,_,_⟩ ?_ rfl (by kernel_rfl) (fun _ _ _ h=>h) ?_ (by assumption) ?_;rotate_left 1;(· intro wx Hc;(try dsimp only at Hc);obtain⟨p0,p1,p2,p3,q0,q1,q2,q3⟩:=NS.cells Hc;go_simp;(try with_reducible rfl)))
     try simp only[Act.put,sA,sB,sC]
     (refine T3K 11 ⟨some 37,_,_,_,_,_⟩ ?_ rfl (by kernel_rfl) (fun _ _ _ h=>h) ?_ (by assumption) ?_;rotate_left 1;(· intro wx Hc;(try dsimp only at Hc);obtain⟨p0,p1,p2,p3,q0,q1,q2,q3⟩:=NS.cells Hc;go_simp;(try with_reducible rfl)))
     try simp only[Act.put,sA,sB,sC]
     (refine T3K 12 ⟨some 38,_,_,_,_,_⟩ ?_ rfl (by kernel_rfl) (fun _ _ _ h=>h) ?_ (by assumption) ?_;rotate_left 1;(· intro wx Hc;(try dsimp only at Hc);obtain⟨p0,p1,p2,p3,q0,q1,q2,q3⟩:=NS.cells Hc;go_simp;(try with_reducible rfl)))
     try simp only[Act.put,sA,sB,sC]
     (refine T3K 13 ⟨some 39,_,_,_,_,_⟩ ?_ rfl (by kernel_rfl) (fun _ _ _ h=>h) ?_ (by assumption) ?_;rotate_left 1;(· intro wx Hc;(try dsimp only at Hc);obtain⟨p0,p1,p2,p3,q0,q1,q2,q3⟩:=NS.cells Hc;go_simp;(try with_reducible rfl)))
     try simp only[Act.put,sA,sB,sC]
     (refine T3K 14 ⟨some 40,_,_,_,_,_⟩ ?_ rfl (by kernel_rfl) (fun _ _ _ h=>h) ?_ (by assumption) ?_;rotate_left 1;(· intro wx Hc;(try dsimp only at Hc);obtain⟨p0,p1,p2,p3,q0,q1,q2,q3⟩:=NS.cells Hc;go_simp;(try with_reducible rfl)))
     try simp only[Act.put,sA,sB,sC]
     (refine T3K 15 ⟨some 41,_,_,_,_,_⟩ ?_ rfl (by kernel_rfl) (fun _ _ _ h=>h) ?_ (by assumption) ?_;rotate_left 1;(· intro wx Hc;(try dsimp only at Hc);obtain⟨p0,p1,p2,p3,q0,q1,q2,q3⟩:=NS.cells Hc;go_simp;(try with_reducible rfl)))
     try simp only[Act.put,sA,sB,sC]
     (refine T3K 16 ⟨some 42,_,_,_,_,_⟩ ?_ rfl (by kernel_rfl) (fun _ _ _ h=>h) ?_ (by assumption) ?_;rotate_left 1;(· intro wx Hc;(try dsimp only at Hc);obtain⟨p0,p1,p2,p3,q0,q1,q2,q3⟩:=NS.cells Hc;go_simp;(try with_reducible rfl)))
     try simp only[Act.put,sA,sB,sC]
     refine wpAnyH_done (by kernel_rfl) ?_ _;clear HR HX HB;have Xu:=zaa hHeld;obtain⟨p0,p1,p2,p3,q0,q1,q2,q3⟩:=Xu.out.cells;clear hHeld;go_wp2_with fail;refine(zdf k2 n2 t2 ks2 A2 l2 c2 _ uX.out gR Kk (Kd.call jr.out Xu.out.low)).mono ?_;rintro e w9 ⟨A3,l3,c3,rfl,Y3,kr⟩;have j5:=zaa (Hl.out.trans ((zad Xu.out.low kr).mono Hl.out.size));have Xv:=zaa Y3;clear Y3 kr p0 p1 p2 p3 q0 q1 q2 q3;have qs:∀ w:World,(Instr.field 43 (.agg #[.int .u8 (k2:Int),.int .u64 (n2:Int),.string t2,.slice A3 l3 c3]) 3).run prog w=.ok (.slice A3 l3 c3) w:=fun _=>by kernel_rfl
     go_wp2;refine bodyPost_ret (v:=.tuple #[.pointer (some ⟨w9.heap.size,0,none⟩),.int .i64 0]) (by simp[results,results56,go_sem]) rfl ?_;rw[VH.out];refine⟨w9.heap.size,A3,l3,c3,rfl,j5.out.size,⟨heap_alloc_new w9 _,?_,zab⟩,by simp,j5.out.alloc j5.out.size _⟩;exact((Val.Kids.weak Xv.out).keep fun i hi=>yca _ _ _ hi.2).mono fun i hi=>⟨by have:=hi.2;simp;omega,by have:=hi.2;omega⟩
    ·have hz:((k2:Int)==22)=false:=by simp;omega
     have VH:Hid (newR (.mk 25 n t ks) code name=none):=zaa (hO.trans (if_neg fun h=>kJ h.2));clear hO kJ;go_upto_region 4 with fail
     refine wp_region_held_drew (S:=fun wx=>NS w1 wx g8 g9 k1 n1 t1 A1 l1 c1 k2 n2 t2 A2 l2 c2) (by kernel_rfl) (by exact HS.out.call (Below.refl _ _).drew) (fun hHeld=>?_)
     (refine T3K 0 ⟨some 26,_,_,_,_,_⟩ ?_ rfl (by kernel_rfl) (fun _ _ _ h=>h) ?_ (by assumption) ?_;rotate_left 1;(· intro wx Hc;(try dsimp only at Hc);obtain⟨p0,p1,p2,p3,q0,q1,q2,q3⟩:=NS.cells Hc;go_simp;(try with_reducible rfl)))
     try simp only[Act.put,sA,sB,sC]
     (refine T3K 1 ⟨some 27,_,_,_,_,_⟩ ?_ rfl (by kernel_rfl) (fun _ _ _ h=>h) ?_ (by assumption) ?_;rotate_left 1;(· intro wx Hc;(try dsimp only at Hc);obtain⟨p0,p1,p2,p3,q0,q1,q2,q3⟩:=NS.cells Hc;go_simp;(try with_reducible rfl)))
     try simp only[Act.put,sA,sB,sC]
     (refine wpAnyH_ready (rs:=[2]) (by kernel_rfl) (by simp) ?_;refine AllReadyH.cons (o:=⟨some 28,_,_,_,_,_⟩) rfl (fun K hK=>?_) AllReadyH.nil;go_simp;(go_at_call 81;(with_reducible refine(zbP code _).mono ?_);rintro e w2 ⟨rfl,He⟩);go_wp2_with fail;refine hK.out _ _ ?_ (fun hHeld=>?_);(· exact NS.call (by with_reducible assumption) (by with_reducible assumption));clear hK K)
     try simp only[Act.put,sA,sB,sC]
     (refine wpAnyH_ready (rs:=[3]) (by kernel_rfl) (by simp) ?_;refine AllReadyH.cons (o:=⟨some 29,_,_,_,_,_⟩) rfl (fun K hK=>?_) AllReadyH.nil;go_simp;(go_at_call 33;(with_reducible refine(zcr k1 n1 t1 ks1 A1 l1 c1 code _ KH.out (Kd.call jP.out (NS.low (by with_reducible assumption))) false JK.out).mono ?_);rintro e w3 ⟨rfl,Hj⟩);go_wp2_with fail;refine hK.out _ _ ?_ (fun hHeld=>?_);(· exact NS.call (by with_reducible assumption) (by with_reducible assumption));clear hK K)
     try simp only[Act.put,sA,sB,sC]
     (refine T3K 4 ⟨some 30,_,_,_,_,_⟩ ?_ rfl (by kernel_rfl) (fun _ _ _ h=>h) ?_ (by assumption) ?_;rotate_left 1;(· intro wx Hc;(try dsimp only at Hc);obtain⟨p0,p1,p2,p3,q0,q1,q2,q3⟩:=NS.cells Hc;go_simp;(try with_reducible rfl)))
     try simp only[Act.put,sA,sB,sC]
     (refine T3K 5 ⟨some 31,_,_,_,_,_⟩ ?_ rfl (by kernel_rfl) (fun _ _ _ h=>h) ?_ (by assumption) ?_;rotate_left 1;(· intro wx Hc;(try dsimp only at Hc);obtain⟨p0,p1,p2,p3,q0,q1,q2,q3⟩:=NS.cells Hc;go_simp;(try with_reducible rfl)))
     try simp only[Act.put,sA,sB,sC]
     (refine T3K 6 ⟨some 32,_,_,_,_,_⟩ ?_ rfl (by kernel_rfl) (fun _ _ _ h=>h) ?_ (by assumption) ?_;rotate_left 1;(· intro wx Hc;(try dsimp only at Hc);obtain⟨p0,p1,p2,p3,q0,q1,q2,q3⟩:=NS.cells Hc;go_simp;(try with_reducible rfl)))
     try simp only[Act.put,sA,sB,sC]
     (refine T3K 7 ⟨some 33,_,_,_,_,_⟩ ?_ rfl (by kernel_rfl) (fun _ _ _ h=>h) ?_ (by assumption) ?_;rotate_left 1;(· intro wx Hc;(try dsimp only at Hc);obtain⟨p0,p1,p2,p3,q0,q1,q2,q3⟩:=NS.cells Hc;go_simp;(try with_reducible rfl)))
     try simp only[Act.put,sA,sB,sC]
     (refine wpAnyH_ready (rs:=[8]) (by kernel_rfl) (by simp) ?_;refine AllReadyH.cons (o:=⟨some 34,_,_,_,_,_⟩) rfl (fun K hK=>?_) AllReadyH.nil;go_simp;(go_at_call 35;(with_reducible refine(zfE name _).mono ?_);rintro e w4 ⟨rfl,gl⟩);go_wp2_with fail;refine hK.out _ _ ?_ (fun hHeld=>?_);(· exact NS.call (by with_reducible assumption) (by with_reducible assumption));clear hK K)
     try simp only[Act.put,sA,sB,sC]
     (refine wpAnyH_ready (rs:=[9]) (by kernel_rfl) (by simp) ?_;refine AllReadyH.cons (o:=⟨some 35,_,_,_,_,_⟩) rfl (fun K hK=>?_) AllReadyH.nil;go_simp;(go_at_call 33;(with_reducible refine(zeH k1 n1 t1 ks1 A1 l1 c1 name _ KH.out (Kd.call jP.out (NS.low (by with_reducible assumption))) true Qo.out).mono ?_);rintro e w5 ⟨rfl,gp⟩);go_wp2_with fail;refine hK.out _ _ ?_ (fun hHeld=>?_);(· exact NS.call (by with_reducible assumption) (by with_reducible assumption));clear hK K)
     try simp only[Act.put,sA,sB,sC]
     (refine T3K 10 ⟨some 36,_,_,_,_,_⟩ ?_ rfl (by kernel_rfl) (fun _ _ _ h=>h) ?_ (by assumption) ?_;rotate_left 1;(· intro wx Hc;(try dsimp only at Hc);obtain⟨p0,p1,p2,p3,q0,q1,q2,q3⟩:=NS.cells Hc;go_simp;(try with_reducible rfl)))
     try simp only[Act.put,sA,sB,sC]
     (refine T3K 11 ⟨some 37,_,_,_,_,_⟩ ?_ rfl (by kernel_rfl) (fun _ _ _ h=>h) ?_ (by assumption) ?_;rotate_left 1;(· intro wx Hc;(try dsimp only at Hc);obtain⟨p0,p1,p2,p3,q0,q1,q2,q3⟩:=NS.cells Hc;go_simp;(try with_reducible rfl)))
     try simp only[Act.put,sA,sB,sC]
     (refine T3K 12 ⟨some 38,_,_,_,_,_⟩ ?_ rfl (by kernel_rfl) (fun _ _ _ h=>h) ?_ (by assumption) ?_;rotate_left 1;(· intro wx Hc;(try dsimp only at Hc);obtain⟨p0,p1,p2,p3,q0,q1,q2,q3⟩:=NS.cells Hc;go_simp;(try with_reducible rfl)))
     try simp only[Act.put,sA,sB,sC]
     (refine T3K 13 ⟨some 39,_,_,_,_,_⟩ ?_ rfl (by kernel_rfl) (fun _ _ _ h=>h) ?_ (by assumption) ?_;rotate_left 1;(· intro wx Hc;(try dsimp only at Hc);obtain⟨p0,p1,p2,p3,q0,q1,q2,q3⟩:=NS.cells Hc;go_simp;(try with_reducible rfl)))
     try simp only[Act.put,sA,sB,sC]
     (refine T3K 14 ⟨some 40,_,_,_,_,_⟩ ?_ rfl (by kernel_rfl) (fun _ _ _ h=>h) ?_ (by assumption) ?_;rotate_left 1;(· intro wx Hc;(try dsimp only at Hc);obtain⟨p0,p1,p2,p3,q0,q1,q2,q3⟩:=NS.cells Hc;go_simp;(try with_reducible rfl)))
     try simp only[Act.put,sA,sB,sC]
     (refine T3K 15 ⟨some 41,_,_,_,_,_⟩ ?_ rfl (by kernel_rfl) (fun _ _ _ h=>h) ?_ (by assumption) ?_;rotate_left 1;(· intro wx Hc;(try dsimp only at Hc);obtain⟨p0,p1,p2,p3,q0,q1,q2,q3⟩:=NS.cells Hc;go_simp;(try with_reducible rfl)))
     try simp only[Act.put,sA,sB,sC]
     (refine T3K 16 ⟨some 42,_,_,_,_,_⟩ ?_ rfl (by kernel_rfl) (fun _ _ _ h=>h) ?_ (by assumption) ?_;rotate_left 1;(· intro wx Hc;(try dsimp only at Hc);obtain⟨p0,p1,p2,p3,q0,q1,q2,q3⟩:=NS.cells Hc;go_simp;(try with_reducible rfl)))
     try simp only[Act.put,sA,sB,sC]
     refine wpAnyH_done (by kernel_rfl) ?_ _;clear jP jr HR HX HB;go_wp2;refine bodyPost_ret (v:=.tuple #[.pointer none,.int .i64 6]) (by simp[results,results56,go_sem]) rfl ?_;rw[VH.out];exact⟨rfl,Hl.out.trans (hHeld.low.mono Hl.out.size)⟩
   | false=>
    have Qo:=zaa Gw;have xz:za1 (.mk k1 n1 t1 ks1) code name=false:=by unfold za1;rw[gu,Gw];rfl
    rw[xz] at hO;have VH:Hid (newR (.mk 25 n t ks) code name=none):=zaa (hO.trans (if_neg fun h=>yb8 h.1));clear gu Gw xz hO;go_upto_region 4 with fail
    refine wp_region_held_drew (S:=fun wx=>NS w1 wx g8 g9 k1 n1 t1 A1 l1 c1 k2 n2 t2 A2 l2 c2) (by kernel_rfl) (by exact HS.out.call (Below.refl _ _).drew) (fun hHeld=>?_)
    (refine T3K 0 ⟨some 26,_,_,_,_,_⟩ ?_ rfl (by kernel_rfl) (fun _ _ _ h=>h) ?_ (by assumption) ?_;rotate_left 1;(· intro wx Hc;(try dsimp only at Hc);obtain⟨p0,p1,p2,p3,q0,q1,q2,q3⟩:=NS.cells Hc;go_simp;(try with_reducible rfl)))
    try simp only[Act.put,sA,sB,sC]
    (refine T3K 1 ⟨some 27,_,_,_,_,_⟩ ?_ rfl (by kernel_rfl) (fun _ _ _ h=>h) ?_ (by assumption) ?_;rotate_left 1;(· intro wx Hc;(try dsimp only at Hc);obtain⟨p0,p1,p2,p3,q0,q1,q2,q3⟩:=NS.cells Hc;go_simp;(try with_reducible rfl)))
    try simp only[Act.put,sA,sB,sC]
    (refine wpAnyH_ready (rs:=[2]) (by kernel_rfl) (by simp) ?_;refine AllReadyH.cons (o:=⟨some 28,_,_,_,_,_⟩) rfl (fun K hK=>?_) AllReadyH.nil;go_simp;(go_at_call 81;(with_reducible refine(zbP code _).mono ?_);rintro e w2 ⟨rfl,He⟩);go_wp2_with fail;refine hK.out _ _ ?_ (fun hHeld=>?_);(· exact NS.call (by with_reducible assumption) (by with_reducible assumption));clear hK K)
    try simp only[Act.put,sA,sB,sC]
    (refine wpAnyH_ready (rs:=[3]) (by kernel_rfl) (by simp) ?_;refine AllReadyH.cons (o:=⟨some 29,_,_,_,_,_⟩) rfl (fun K hK=>?_) AllReadyH.nil;go_simp;(go_at_call 33;(with_reducible refine(zcr k1 n1 t1 ks1 A1 l1 c1 code _ KH.out (Kd.call jP.out (NS.low (by with_reducible assumption))) false JK.out).mono ?_);rintro e w3 ⟨rfl,Hj⟩);go_wp2_with fail;refine hK.out _ _ ?_ (fun hHeld=>?_);(· exact NS.call (by with_reducible assumption) (by with_reducible assumption));clear hK K)
    try simp only[Act.put,sA,sB,sC]
    (refine T3K 4 ⟨some 30,_,_,_,_,_⟩ ?_ rfl (by kernel_rfl) (fun _ _ _ h=>h) ?_ (by assumption) ?_;rotate_left 1;(· intro wx Hc;(try dsimp only at Hc);obtain⟨p0,p1,p2,p3,q0,q1,q2,q3⟩:=NS.cells Hc;go_simp;(try with_reducible rfl)))
    try simp only[Act.put,sA,sB,sC]
    (refine T3K 5 ⟨some 31,_,_,_,_,_⟩ ?_ rfl (by kernel_rfl) (fun _ _ _ h=>h) ?_ (by assumption) ?_;rotate_left 1;(· intro wx Hc;(try dsimp only at Hc);obtain⟨p0,p1,p2,p3,q0,q1,q2,q3⟩:=NS.cells Hc;go_simp;(try with_reducible rfl)))
    try simp only[Act.put,sA,sB,sC]
    (refine T3K 6 ⟨some 32,_,_,_,_,_⟩ ?_ rfl (by kernel_rfl) (fun _ _ _ h=>h) ?_ (by assumption) ?_;rotate_left 1;(· intro wx Hc;(try dsimp only at Hc);obtain⟨p0,p1,p2,p3,q0,q1,q2,q3⟩:=NS.cells Hc;go_simp;(try with_reducible rfl)))
    try simp only[Act.put,sA,sB,sC]
    (refine T3K 7 ⟨some 33,_,_,_,_,_⟩ ?_ rfl (by kernel_rfl) (fun _ _ _ h=>h) ?_ (by assumption) ?_;rotate_left 1;(· intro wx Hc;(try dsimp only at Hc);obtain⟨p0,p1,p2,p3,q0,q1,q2,q3⟩:=NS.cells Hc;go_simp;(try with_reducible rfl)))
    try simp only[Act.put,sA,sB,sC]
    (refine wpAnyH_ready (rs:=[8]) (by kernel_rfl) (by simp) ?_;refine AllReadyH.cons (o:=⟨some 34,_,_,_,_,_⟩) rfl (fun K hK=>?_) AllReadyH.nil;go_simp;(go_at_call 35;(with_reducible refine(zfE name _).mono ?_);rintro e w4 ⟨rfl,gl⟩);go_wp2_with fail;refine hK.out _ _ ?_ (fun hHeld=>?_);(· exact NS.call (by with_reducible assumption) (by with_reducible assumption));clear hK K)
    try simp only[Act.put,sA,sB,sC]
    (refine wpAnyH_ready (rs:=[9]) (by kernel_rfl) (by simp) ?_;refine AllReadyH.cons (o:=⟨some 35,_,_,_,_,_⟩) rfl (fun K hK=>?_) AllReadyH.nil;go_simp;(go_at_call 33;(with_reducible refine(zeH k1 n1 t1 ks1 A1 l1 c1 name _ KH.out (Kd.call jP.out (NS.low (by with_reducible assumption))) false Qo.out).mono ?_);rintro e w5 ⟨rfl,gp⟩);go_wp2_with fail;refine hK.out _ _ ?_ (fun hHeld=>?_);(· exact NS.call (by with_reducible assumption) (by with_reducible assumption));clear hK K)
    try simp only[Act.put,sA,sB,sC]
    (refine T3K 10 ⟨some 36,_,_,_,_,_⟩ ?_ rfl (by kernel_rfl) (fun _ _ _ h=>h) ?_ (by assumption) ?_;rotate_left 1;(· intro wx Hc;(try dsimp only at Hc);obtain⟨p0,p1,p2,p3,q0,q1,q2,q3⟩:=NS.cells Hc;go_simp;(try with_reducible rfl)))
    try simp only[Act.put,sA,sB,sC]
    (refine T3K 11 ⟨some 37,_,_,_,_,_⟩ ?_ rfl (by kernel_rfl) (fun _ _ _ h=>h) ?_ (by assumption) ?_;rotate_left 1;(· intro wx Hc;(try dsimp only at Hc);obtain⟨p0,p1,p2,p3,q0,q1,q2,q3⟩:=NS.cells Hc;go_simp;(try with_reducible rfl)))
    try simp only[Act.put,sA,sB,sC]
    (refine T3K 12 ⟨some 38,_,_,_,_,_⟩ ?_ rfl (by kernel_rfl) (fun _ _ _ h=>h) ?_ (by assumption) ?_;rotate_left 1;(· intro wx Hc;(try dsimp only at Hc);obtain⟨p0,p1,p2,p3,q0,q1,q2,q3⟩:=NS.cells Hc;go_simp;(try with_reducible rfl)))
    try simp only[Act.put,sA,sB,sC]
    (refine S3K 13 ⟨some 39,_,_,_,_,_⟩ rfl (by kernel_rfl) (fun _ _ _ h=>h) (by assumption) ?_)
    try simp only[Act.put,sA,sB,sC]
    (refine S3K 14 ⟨some 40,_,_,_,_,_⟩ rfl (by kernel_rfl) (fun _ _ _ h=>h) (by assumption) ?_)
    try simp only[Act.put,sA,sB,sC]
    (refine S3K 15 ⟨some 41,_,_,_,_,_⟩ rfl (by kernel_rfl) (fun _ _ _ h=>h) (by assumption) ?_)
    try simp only[Act.put,sA,sB,sC]
    (refine T3K 16 ⟨some 42,_,_,_,_,_⟩ ?_ rfl (by kernel_rfl) (fun _ _ _ h=>h) ?_ (by assumption) ?_;rotate_left 1;(· intro wx Hc;(try dsimp only at Hc);obtain⟨p0,p1,p2,p3,q0,q1,q2,q3⟩:=NS.cells Hc;go_simp;(try with_reducible rfl)))
    try simp only[Act.put,sA,sB,sC]
    refine wpAnyH_done (by kernel_rfl) ?_ _;clear jP jr HR HX HB;go_wp2;refine bodyPost_ret (v:=.tuple #[.pointer none,.int .i64 6]) (by simp[results,results56,go_sem]) rfl ?_;rw[VH.out];exact⟨rfl,Hl.out.trans (hHeld.low.mono Hl.out.size)⟩
theorem znX (k n:Nat)(t:ByteArray)(ks:List V)(A:Oz)(l c code:Nat)(name:ByteArray)(w:World)(hN:zai ks≤536870912)(ht:t.size≤536870912)(hn:n < 18446744073709551616)(hK:Kd w ks A l c)(Ho:Tab w) :
  Calls prog 56 #[.agg #[.int .u8 (k:Int),.int .u64 (n:Int),.string t,.slice A l c],.int .u64 (code:Int),.string name] w (zeG (newR (.mk k n t ks) code name) w):=by
 cases Hq:okB (.mk k n t ks) with
 | false=>
  rw[show newR (.mk k n t ks) code name=none from if_neg fun h=>by rw[Hq] at h;exact yb8 h.1];exact znW k n t ks A l c code name w hN ht hn hK Ho (.inl Hq)
 | true=>
  by_cases kH:k=25
  ·subst kH;have hm:mayB (.mk 25 n t ks)=true:=by
    unfold okB at Hq;simp only[yb3] at Hq;exact Hq.2
   obtain⟨x,y,gQ,_⟩:=zaS hm;exact zqh n t ks x y gQ A l c code name w hN ht hn hK Ho Hq
  ·rw[show newR (.mk k n t ks) code name=none from if_neg fun h=>kH h.2];exact znW k n t ks A l c code name w hN ht hn hK Ho (.inr kH)
end Fl
namespace valueAlike
open Go.RowKit Utf Val V
def evens:List V→List V
 | []=>[]
 | [x]=>[x]
 | x::_::r=>x::evens r
theorem zfF:∀ (l:List V) (m:Nat),(evens l)[m]? = l[2 * m]?
 | [],m=>by simp[evens]
 | [x],0=>by simp[evens]
 | [x],m+1=>by simp[evens,show 2 * (m+1)=2 * m+1+1 by omega]
 | x::y::r,0=>by simp[evens]
 | x::y::r,m+1=>by simp[evens,show 2 * (m+1)=2 * m+1+1 by omega,zfF r m]
theorem zfj:∀ l:List V,(evens l).length=(l.length+1) / 2
 | []=>by simp[evens]
 | [x]=>by simp[evens]
 | x::y::r=>by simp only[evens,yb4,zfj r];omega
theorem ze6:∀ (l:List V) (x:V),evens (l++[x])=if l.length % 2=0 then evens l++[x] else evens l
 | [],x=>rfl
 | [y],x=>rfl
 | y::z::r,x=>by
  simp only[List.cons_append,evens,ze6 r x,yb4];by_cases h:r.length % 2=0
  ·rw[if_pos h,if_pos (by omega)]
  ·rw[if_neg h,if_neg (by omega)]
theorem ze7:∀ l:List V,l.length % 2=0→zf4 l=evens l
 | [],_=>rfl
 | [x],h=>by simp at h
 | x::y::r,h=>by
  simp only[yb4] at h;have:=ze7 r (by omega);simp only[zf4,zbJ,List.map_cons,evens] at this ⊢;rw[this]
def unl (l:List V)(j:Nat):Bool:=zcy (evens (l.take j))
theorem zsC {l:List V}{j:Nat}(hj:j < l.length)(h:j % 2=1):unl l (j+1)=unl l j:=by
 unfold unl;have hx:l[j]? = some l[j]:=List.getElem?_eq_getElem hj;rw[zbI hx,ze6,if_neg (by simp;omega)]
theorem zkT {l:List V}{j:Nat}{x:V}(hx:l[j]? = some x)(h:j % 2=0):unl l (j+1)=(unl l j && !(evens (l.take j)).any fun y=>same x y):=by
 unfold unl;have hj:=(List.getElem?_eq_some_iff.1 hx).1;rw[zbI hx,ze6,if_pos (by simp;omega),ze0]
def seen (l:List V)(j m:Nat)(x:V):Bool:=((evens (l.take j)).take m).any fun y=>same x y
theorem znY (l:List V)(j:Nat)(x:V):seen l j 0 x=false:=by simp[seen]
theorem znZ {l:List V}{j m:Nat}{x y:V}(hy:l[2 * m]? = some y)(h:2 * m < j):seen l j (m+1) x=(seen l j m x||same x y):=by
 have e:(evens (l.take j))[m]? = some y:=by
  rw[zfF,List.getElem?_take];rw[if_pos h];exact hy
 unfold seen;rw[zbI e,List.any_append];simp
theorem zqi {l:List V}{j m:Nat}{x:V}(h:j≤2 * m):seen l j m x=(evens (l.take j)).any fun y=>same x y:=by
 unfold seen;rw[yb6];rw[zfj,List.length_take];omega
end valueAlike
namespace Val
open Go.RowKit Utf V
section
variable {W0 w':World} {g1 g2 b o c b' o' c' n n' xk xn yk yn xk' xn' yk' yn':Nat} {t t' xt yt xt' yt':ByteArray} {xs ys xs' ys':List V} {B1 B2 B1' B2':Oz} {l1 c1 l2 c2 l1' c1' l2' c2':Nat}
theorem zeI (B1x:Box W0 g1 (.int .u8 25) (.int .u64 n) (.string t) (.slice (some ⟨b,o,none⟩) 2 c))(B2x:Box W0 g2 (.int .u8 25) (.int .u64 n') (.string t') (.slice (some ⟨b',o',none⟩) 2 c'))
  (E1:El W0 b o xk xn xt xs B1 l1 c1) (E2:El W0 b (o+4) yk yn yt ys B2 l2 c2) (E1':El W0 b' o' xk' xn' xt' xs' B1' l1' c1') (E2':El W0 b' (o'+4) yk' yn' yt' ys' B2' l2' c2') (hb:Below W0.heap.size W0 w') :
  w'.cell? ⟨g1,0,none⟩=some (.int .u8 25)∧w'.cell? ⟨g1,1,none⟩=some (.int .u64 (n:Int))∧w'.cell? ⟨g1,2,none⟩=some (.string t)∧w'.cell? ⟨g1,3,none⟩=some (.slice (some ⟨b,o,none⟩) 2 c)∧w'.cell? ⟨g2,0,none⟩=some (.int .u8 25)∧w'.cell? ⟨g2,1,none⟩=some (.int .u64 (n':Int))∧w'.cell? ⟨g2,2,none⟩=some (.string t')∧w'.cell? ⟨g2,3,none⟩=some (.slice (some ⟨b',o',none⟩) 2 c')∧w'.cell? ⟨b,o,none⟩=some (.int .u8 (xk:Int))∧w'.cell? ⟨b,o+1,none⟩=some (.int .u64 (xn:Int))∧w'.cell? ⟨b,o+2,none⟩=some (.string xt)∧w'.cell? ⟨b,o+3,none⟩=some (.slice B1 l1 c1)∧w'.cell? ⟨b,o+4,none⟩=some (.int .u8 (yk:Int))∧w'.cell? ⟨b,o+5,none⟩=some (.int .u64 (yn:Int))∧w'.cell? ⟨b,o+6,none⟩=some (.string yt)∧w'.cell? ⟨b,o+7,none⟩=some (.slice B2 l2 c2)∧w'.cell? ⟨b',o',none⟩=some (.int .u8 (xk':Int))∧w'.cell? ⟨b',o'+1,none⟩=some (.int .u64 (xn':Int))∧w'.cell? ⟨b',o'+2,none⟩=some (.string xt')∧w'.cell? ⟨b',o'+3,none⟩=some (.slice B1' l1' c1')∧w'.cell? ⟨b',o'+4,none⟩=some (.int .u8 (yk':Int))∧w'.cell? ⟨b',o'+5,none⟩=some (.int .u64 (yn':Int))∧w'.cell? ⟨b',o'+6,none⟩=some (.string yt')∧w'.cell? ⟨b',o'+7,none⟩=some (.slice B2' l2' c2')∧Below W0.heap.size W0 w':=by
 obtain⟨p0,p1,p2,p3,_⟩:=(B1x.call hb).all;obtain⟨q0,q1,q2,q3,_⟩:=(B2x.call hb).all;obtain⟨a0,a1,a2,a3⟩:=(E1.call hb).cells;obtain⟨d0,d1,d2,d3⟩:=(E2.call hb).cells;obtain⟨r0,r1,r2,r3⟩:=(E1'.call hb).cells;exact⟨p0,p1,p2,p3,q0,q1,q2,q3,a0,a1,a2,a3,d0,d1,d2,d3,r0,r1,r2,r3,E2'.held hb⟩
end
theorem zj1 {w:World}{xk xn yk yn:Nat}{xt yt:ByteArray}{xs ys:List V}{A:Oz}{l c:Nat}(h:Kd w [.mk xk xn xt xs,.mk yk yn yt ys] A l c):l=2∧∃ b o B1 l1 c1 B2 l2 c2,A=some ⟨b,o,none⟩∧El w b o xk xn xt xs B1 l1 c1∧El w b (o+4) yk yn yt ys B2 l2 c2∧xk < 256∧xn < 18446744073709551616:=by
 have hl:l=2:=h.len;subst hl;obtain⟨b,o,k,n,t,ks,B1,l1,c1,rfl,hx,hk,hn,_,E1⟩:=h.el (i:=0) (by omega);obtain⟨b',o',k',n',t',ks',B2,l2,c2,e,hy,_,_,_,E2⟩:=h.el (i:=1) (by omega);simp only[yb7,Addr.mk.injEq,and_true] at e;obtain⟨rfl,rfl⟩:=e;simp only[List.getElem?_cons_zero,List.getElem?_cons_succ,yb7,V.mk.injEq] at hx hy;obtain⟨rfl,rfl,rfl,rfl⟩:=hx;obtain⟨rfl,rfl,rfl,rfl⟩:=hy;rw[Nat.zero_mul,ycd] at E1;rw[ycc] at E2;exact⟨rfl,b,o,B1,l1,c1,B2,l2,c2,rfl,E1,E2,hk,hn⟩
theorem zlY (N:Nat):∀ (k n:Nat) (t:ByteArray) (ks:List V) (A:Oz) (l c:Nat) (k' n':Nat) (t':ByteArray) (ks':List V) (A':Oz) (l' c':Nat) (w:World),zai ks≤N→N≤1073741824 →
  mayB (.mk k n t ks)=true→mayB (.mk k' n' t' ks')=true→Kd w ks A l c→Kd w ks' A' l' c' →
  Calls prog 120 #[.agg #[.int .u8 k,.int .u64 n,.string t,.slice A l c],.agg #[.int .u8 k',.int .u64 n',.string t',.slice A' l' c']] w (zaj (zbb (.mk k n t ks) (.mk k' n' t' ks')) w):=by
 induction N using Nat.strongRecOn with
 | ind N ih=>
 intro k n t ks A l c k' n' t' ks' A' l' c' w hN k9 hM Xl hK gV;have hB:=zaw w (.cells #[.int .u8 k,.int .u64 n,.string t,.slice A l c] 43) (.cells #[.int .u8 k',.int .u64 n',.string t',.slice A' l' c'] 43);by_cases e1:k=k'
 ·subst e1;by_cases e2:k=25
  ·subst e2;obtain⟨⟨xk,xn,xt,xs⟩,⟨yk,yn,yt,ys⟩,rfl,_,hx,hy⟩:=zaS hM;obtain⟨⟨xk',xn',xt',xs'⟩,⟨yk',yn',yt',ys'⟩,rfl,_,jm,Yg⟩:=zaS Xl;have HA:=zaa (zck n n' t t' (.mk xk xn xt xs) (.mk yk yn yt ys) (.mk xk' xn' xt' xs') (.mk yk' yn' yt' ys') [] []);simp only[zai,bulk] at hN;obtain⟨rfl,b,o,B1,l1,c1,B2,l2,c2,rfl,E1,E2,gF,Gm⟩:=zj1 hK;obtain⟨rfl,b',o',B1',l1',c1',B2',l2',c2',rfl,E1',E2',Cz,CA⟩:=zj1 gV;have B1x:Box ((w.alloc (.cells #[.int .u8 (25:Nat),.int .u64 n,.string t,.slice (some ⟨b,o,none⟩) 2 c] 43)).alloc (.cells #[.int .u8 (25:Nat),.int .u64 n',.string t',.slice (some ⟨b',o',none⟩) 2 c'] 43)) w.heap.size (.int .u8 25) (.int .u64 n) (.string t) (.slice (some ⟨b,o,none⟩) 2 c):=(Box.new w _ _ _ _).alloc _;have B2x:Box ((w.alloc (.cells #[.int .u8 (25:Nat),.int .u64 n,.string t,.slice (some ⟨b,o,none⟩) 2 c] 43)).alloc (.cells #[.int .u8 (25:Nat),.int .u64 n',.string t',.slice (some ⟨b',o',none⟩) 2 c'] 43)) (w.heap.size+1) (.int .u8 25) (.int .u64 n') (.string t') (.slice (some ⟨b',o',none⟩) 2 c'):=Box.new2 w _ _ _ _ _;replace E1:=E1.call hB;replace E2:=E2.call hB;replace E1':=E1'.call hB;replace E2':=E2'.call hB;obtain⟨W0,Gj⟩:∃ W0,(w.alloc (.cells #[.int .u8 (25:Nat),.int .u64 n,.string t,.slice (some ⟨b,o,none⟩) 2 c] 43)).alloc (.cells #[.int .u8 (25:Nat),.int .u64 n',.string t',.slice (some ⟨b',o',none⟩) 2 c'] 43)=W0:=⟨_,rfl⟩;rw[Gj] at B1x B2x E1 E2 E1' E2' hB;have Kl:=zaa Gj;obtain⟨q,hq⟩:∃ q,same (.mk xk xn xt xs) (.mk xk' xn' xt' xs')=q:=⟨_,rfl⟩;obtain⟨r,hr⟩:∃ r,zbb (.mk yk yn yt ys) (.mk yk' yn' yt' ys')=r:=⟨_,rfl⟩;have HSA:∀ {W:World},Below W0.heap.size W0 W→Calls prog 119 #[.agg #[.int .u8 xk,.int .u64 xn,.string xt,.slice B1 l1 c1],.agg #[.int .u8 xk',.int .u64 xn',.string xt',.slice B1' l1' c1']] W (zaj q W):=fun h=>hq▸zia (zai xs) xk xn xt xs B1 l1 c1 xk' xn' xt' xs' B1' l1' c1' _ zab (by omega) gF Cz Gm CA (E1.kd.call h) (E1'.kd.call h);have Jg:∀ {W:World},Below W0.heap.size W0 W→Calls prog 120 #[.agg #[.int .u8 yk,.int .u64 yn,.string yt,.slice B2 l2 c2],.agg #[.int .u8 yk',.int .u64 yn',.string yt',.slice B2' l2' c2']] W (zaj r W):=fun h=>hr▸ih (zai ys) (by omega) yk yn yt ys B2 l2 c2 yk' yn' yt' ys' B2' l2' c2' _ zab (by omega) hy Yg (E2.kd.call h) (E2'.kd.call h);rw[hq,hr] at HA;clear ih hM Xl hK gV hx jm hy Yg hN hq hr Gj;have jQ:Below W0.heap.size W0 W0.drew:=(Below.refl _ _).drew;simp only[Int.cast_ofNat_Int] at Kl;go_enter func120,ntmps120;go_upto_region 3 with fail
   rw[Kl.out];obtain⟨g1,jq⟩:∃ g,w.heap.size=g:=⟨_,rfl⟩;obtain⟨g2,kA⟩:∃ g,w.heap.size+1=g:=⟨_,rfl⟩;rw[kA] at B2x;rw[jq] at B1x;rw[kA,jq];go_cut [4] (fun s4 wx=>s4=.bool (q&&r)∧Below W0.heap.size W0 wx)
   case first=>
    cases q
    ·refine wp_region_noPanic ?_;refine wp_region_held_drew (S:=fun wx=>wx.cell? ⟨g1,0,none⟩=some (.int .u8 25)∧wx.cell? ⟨g1,1,none⟩=some (.int .u64 (n:Int))∧wx.cell? ⟨g1,2,none⟩=some (.string t)∧wx.cell? ⟨g1,3,none⟩=some (.slice (some ⟨b,o,none⟩) 2 c)∧wx.cell? ⟨g2,0,none⟩=some (.int .u8 25)∧wx.cell? ⟨g2,1,none⟩=some (.int .u64 (n':Int))∧wx.cell? ⟨g2,2,none⟩=some (.string t')∧wx.cell? ⟨g2,3,none⟩=some (.slice (some ⟨b',o',none⟩) 2 c')∧wx.cell? ⟨b,o,none⟩=some (.int .u8 (xk:Int))∧wx.cell? ⟨b,o+1,none⟩=some (.int .u64 (xn:Int))∧wx.cell? ⟨b,o+2,none⟩=some (.string xt)∧wx.cell? ⟨b,o+3,none⟩=some (.slice B1 l1 c1)∧wx.cell? ⟨b,o+4,none⟩=some (.int .u8 (yk:Int))∧wx.cell? ⟨b,o+5,none⟩=some (.int .u64 (yn:Int))∧wx.cell? ⟨b,o+6,none⟩=some (.string yt)∧wx.cell? ⟨b,o+7,none⟩=some (.slice B2 l2 c2)∧wx.cell? ⟨b',o',none⟩=some (.int .u8 (xk':Int))∧wx.cell? ⟨b',o'+1,none⟩=some (.int .u64 (xn':Int))∧wx.cell? ⟨b',o'+2,none⟩=some (.string xt')∧wx.cell? ⟨b',o'+3,none⟩=some (.slice B1' l1' c1')∧wx.cell? ⟨b',o'+4,none⟩=some (.int .u8 (yk':Int))∧wx.cell? ⟨b',o'+5,none⟩=some (.int .u64 (yn':Int))∧wx.cell? ⟨b',o'+6,none⟩=some (.string yt')∧wx.cell? ⟨b',o'+7,none⟩=some (.slice B2' l2' c2')∧Below W0.heap.size W0 wx) (by kernel_rfl) (by exact zeI B1x B2x E1 E2 E1' E2' jQ) (fun hHeld=>?_)
     (refine T3K 0 ⟨some 10,_,_,_,_,_⟩ ?_ rfl (by kernel_rfl) (fun _ _ _ h=>h) ?_ (by assumption) ?_;rotate_left 1;(· intro w Hc;(try dsimp only at Hc);go_simp;(try with_reducible rfl)))
     try simp only[Act.put,sA,sB,sC]
     (refine T3K 1 ⟨some 11,_,_,_,_,_⟩ ?_ rfl (by kernel_rfl) (fun _ _ _ h=>h) ?_ (by assumption) ?_;rotate_left 1;(· intro w Hc;(try dsimp only at Hc);go_simp;(try with_reducible rfl)))
     try simp only[Act.put,sA,sB,sC]
     (refine T3K 2 ⟨some 12,_,_,_,_,_⟩ ?_ rfl (by kernel_rfl) (fun _ _ _ h=>h) ?_ (by assumption) ?_;rotate_left 1;(· intro w Hc;(try dsimp only at Hc);go_simp;(try with_reducible rfl)))
     try simp only[Act.put,sA,sB,sC]
     (refine T3K 3 ⟨some 13,_,_,_,_,_⟩ ?_ rfl (by kernel_rfl) (fun _ _ _ h=>h) ?_ (by assumption) ?_;rotate_left 1;(· intro w Hc;(try dsimp only at Hc);go_simp;(try with_reducible rfl)))
     try simp only[Act.put,sA,sB,sC]
     (refine T3K 4 ⟨some 14,_,_,_,_,_⟩ ?_ rfl (by kernel_rfl) (fun _ _ _ h=>h) ?_ (by assumption) ?_;rotate_left 1;(· intro w Hc;(try dsimp only at Hc);go_simp;(try with_reducible rfl)))
     try simp only[Act.put,sA,sB,sC]
     (refine T3K 5 ⟨some 15,_,_,_,_,_⟩ ?_ rfl (by kernel_rfl) (fun _ _ _ h=>h) ?_ (by assumption) ?_;rotate_left 1;(· intro w Hc;(try dsimp only at Hc);go_simp;(try with_reducible rfl)))
     try simp only[Act.put,sA,sB,sC]
     (refine T3K 6 ⟨some 16,_,_,_,_,_⟩ ?_ rfl (by kernel_rfl) (fun _ _ _ h=>h) ?_ (by assumption) ?_;rotate_left 1;(· intro w Hc;(try dsimp only at Hc);go_simp;(try with_reducible rfl)))
     try simp only[Act.put,sA,sB,sC]
     (refine T3K 7 ⟨some 17,_,_,_,_,_⟩ ?_ rfl (by kernel_rfl) (fun _ _ _ h=>h) ?_ (by assumption) ?_;rotate_left 1;(· intro w Hc;(try dsimp only at Hc);go_simp;(try with_reducible rfl)))
     try simp only[Act.put,sA,sB,sC]
     (refine T3K 8 ⟨some 18,_,_,_,_,_⟩ ?_ rfl (by kernel_rfl) (fun _ _ _ h=>h) ?_ (by assumption) ?_;rotate_left 1;(· intro w Hc;(try dsimp only at Hc);go_simp;(try with_reducible rfl)))
     try simp only[Act.put,sA,sB,sC]
     (refine T3K 9 ⟨some 19,_,_,_,_,_⟩ ?_ rfl (by kernel_rfl) (fun _ _ _ h=>h) ?_ (by assumption) ?_;rotate_left 1;(· intro w Hc;(try dsimp only at Hc);go_simp;(try with_reducible rfl)))
     try simp only[Act.put,sA,sB,sC]
     (refine T3K 10 ⟨some 20,_,_,_,_,_⟩ ?_ rfl (by kernel_rfl) (fun _ _ _ h=>h) ?_ (by assumption) ?_;rotate_left 1;(· intro w Hc;(try dsimp only at Hc);go_simp;(try with_reducible rfl)))
     try simp only[Act.put,sA,sB,sC]
     (refine T3K 11 ⟨some 21,_,_,_,_,_⟩ ?_ rfl (by kernel_rfl) (fun _ _ _ h=>h) ?_ (by assumption) ?_;rotate_left 1;(· intro w Hc;(try dsimp only at Hc);go_simp;(try with_reducible rfl)))
     try simp only[Act.put,sA,sB,sC]
     (refine wpAnyH_ready (rs:=[12]) (by kernel_rfl) (by simp) ?_;refine AllReadyH.cons (o:=⟨some 22,_,_,_,_,_⟩) rfl (fun K hK=>?_) AllReadyH.nil;go_simp;(go_at_call 119;(with_reducible refine(HSA jQ).mono ?_);rintro e w1 ⟨rfl,Ha⟩;have gM:=zad jQ Ha);go_wp2_with fail;refine hK.out _ _ ?_ (fun hHeld=>?_);(· exact zeI B1x B2x E1 E2 E1' E2' gM);clear hK K)
     try simp only[Act.put,sA,sB,sC]
     (refine T3K 13 ⟨some 23,_,_,_,_,_⟩ ?_ rfl (by kernel_rfl) (fun _ _ _ h=>h) ?_ (by assumption) ?_;rotate_left 1;(· intro w Hc;(try dsimp only at Hc);go_simp;(try with_reducible rfl)))
     try simp only[Act.put,sA,sB,sC]
     (refine S3K 14 ⟨some 24,_,_,_,_,_⟩ rfl (by kernel_rfl) (fun _ _ _ h=>h) (by assumption) ?_)
     try simp only[Act.put,sA,sB,sC]
     (refine S3K 15 ⟨some 25,_,_,_,_,_⟩ rfl (by kernel_rfl) (fun _ _ _ h=>h) (by assumption) ?_)
     try simp only[Act.put,sA,sB,sC]
     (refine S3K 16 ⟨some 26,_,_,_,_,_⟩ rfl (by kernel_rfl) (fun _ _ _ h=>h) (by assumption) ?_)
     try simp only[Act.put,sA,sB,sC]
     (refine S3K 17 ⟨some 27,_,_,_,_,_⟩ rfl (by kernel_rfl) (fun _ _ _ h=>h) (by assumption) ?_)
     try simp only[Act.put,sA,sB,sC]
     (refine S3K 18 ⟨some 28,_,_,_,_,_⟩ rfl (by kernel_rfl) (fun _ _ _ h=>h) (by assumption) ?_)
     try simp only[Act.put,sA,sB,sC]
     (refine S3K 19 ⟨some 29,_,_,_,_,_⟩ rfl (by kernel_rfl) (fun _ _ _ h=>h) (by assumption) ?_)
     try simp only[Act.put,sA,sB,sC]
     (refine S3K 20 ⟨some 30,_,_,_,_,_⟩ rfl (by kernel_rfl) (fun _ _ _ h=>h) (by assumption) ?_)
     try simp only[Act.put,sA,sB,sC]
     (refine S3K 21 ⟨some 31,_,_,_,_,_⟩ rfl (by kernel_rfl) (fun _ _ _ h=>h) (by assumption) ?_)
     try simp only[Act.put,sA,sB,sC]
     (refine S3K 22 ⟨some 32,_,_,_,_,_⟩ rfl (by kernel_rfl) (fun _ _ _ h=>h) (by assumption) ?_)
     try simp only[Act.put,sA,sB,sC]
     (refine T3K 23 ⟨some 33,_,_,_,_,_⟩ ?_ rfl (by kernel_rfl) (fun _ _ _ h=>h) ?_ (by assumption) ?_;rotate_left 1;(· intro w Hc;(try dsimp only at Hc);go_simp;(try with_reducible rfl)))
     try simp only[Act.put,sA,sB,sC]
     (refine T3K 24 ⟨some 34,_,_,_,_,_⟩ ?_ rfl (by kernel_rfl) (fun _ _ _ h=>h) ?_ (by assumption) ?_;rotate_left 1;(· intro w Hc;(try dsimp only at Hc);go_simp;(try with_reducible rfl)))
     try simp only[Act.put,sA,sB,sC]
     (refine T3K 25 ⟨some 4,_,_,_,_,_⟩ ?_ rfl (by kernel_rfl) (fun _ _ _ h=>h) ?_ (by assumption) ?_;rotate_left 1;(· intro w Hc;(try dsimp only at Hc);go_simp;(try with_reducible rfl)))
     try simp only[Act.put,sA,sB,sC]
     refine wpAnyH_done (by kernel_rfl) ?_ _;refine NoPanic.normal ?_;go_wp2_with fail;go_meet;exact⟨rfl,gM⟩
    ·go_region_held3 (fun wx=>wx.cell? ⟨g1,0,none⟩=some (.int .u8 25)∧wx.cell? ⟨g1,1,none⟩=some (.int .u64 (n:Int))∧wx.cell? ⟨g1,2,none⟩=some (.string t)∧wx.cell? ⟨g1,3,none⟩=some (.slice (some ⟨b,o,none⟩) 2 c)∧wx.cell? ⟨g2,0,none⟩=some (.int .u8 25)∧wx.cell? ⟨g2,1,none⟩=some (.int .u64 (n':Int))∧wx.cell? ⟨g2,2,none⟩=some (.string t')∧wx.cell? ⟨g2,3,none⟩=some (.slice (some ⟨b',o',none⟩) 2 c')∧wx.cell? ⟨b,o,none⟩=some (.int .u8 (xk:Int))∧wx.cell? ⟨b,o+1,none⟩=some (.int .u64 (xn:Int))∧wx.cell? ⟨b,o+2,none⟩=some (.string xt)∧wx.cell? ⟨b,o+3,none⟩=some (.slice B1 l1 c1)∧wx.cell? ⟨b,o+4,none⟩=some (.int .u8 (yk:Int))∧wx.cell? ⟨b,o+5,none⟩=some (.int .u64 (yn:Int))∧wx.cell? ⟨b,o+6,none⟩=some (.string yt)∧wx.cell? ⟨b,o+7,none⟩=some (.slice B2 l2 c2)∧wx.cell? ⟨b',o',none⟩=some (.int .u8 (xk':Int))∧wx.cell? ⟨b',o'+1,none⟩=some (.int .u64 (xn':Int))∧wx.cell? ⟨b',o'+2,none⟩=some (.string xt')∧wx.cell? ⟨b',o'+3,none⟩=some (.slice B1' l1' c1')∧wx.cell? ⟨b',o'+4,none⟩=some (.int .u8 (yk':Int))∧wx.cell? ⟨b',o'+5,none⟩=some (.int .u64 (yn':Int))∧wx.cell? ⟨b',o'+6,none⟩=some (.string yt')∧wx.cell? ⟨b',o'+7,none⟩=some (.slice B2' l2' c2')∧Below W0.heap.size W0 wx) (with_reducible first | assumption | exact zeI B1x B2x E1 E2 E1' E2' jQ | exact zeI B1x B2x E1 E2 E1' E2' gY | exact zeI B1x B2x E1 E2 E1' E2' gM | fail)
      (first
      | (go_at_call 119;(with_reducible refine(HSA jQ).mono ?_);rintro e w1 ⟨rfl,Ha⟩;have gM:=zad jQ Ha)
      | (go_at_call 120;(with_reducible refine(Jg gM).mono ?_);rintro e w2 ⟨rfl,He⟩;have gY:=zad gM He)
      | fail)
     all_goals
      go_wp2_with fail;go_meet;exact⟨by simp,gY⟩
   case rest=>
    obtain⟨rfl,Hj⟩:=hcut;go_wp2;go_ret;exact⟨by rw[HA.out];rfl,zad hB Hj⟩
  ·have HA:=zaa (zdj (n:=n) (n':=n') (t:=t) (t':=t') (ks:=ks) (ks':=ks') e2);have d1:((k:Int) != 25)=true:=by rw[bne_iff_ne];omega
   clear ih hM Xl e2;go_enter func120,ntmps120;go_wp2_with fail;go_quiet (fail);go_wp2;go_ret;exact⟨by rw[HA.out];rfl,below_drewN hB _⟩
 ·have HA:=zaa (zcj (n:=n) (n':=n') (t:=t) (t':=t') (ks:=ks) (ks':=ks') e1);have d1:((k:Int) != (k':Int))=true:=by rw[bne_iff_ne];omega
  clear ih hM Xl e1;go_enter func120,ntmps120;go_wp2;go_ret;exact⟨by rw[HA.out];rfl,hB⟩
end Val
namespace Val
open Go.RowKit Utf V valueAlike
theorem zgB (t:ByteArray):t.toList.isEmpty=zaW t:=by
 by_cases h:t.size=0
 ·rw[empty_eq h,zdi];simp
 ·rw[zdh h];simp[zaW,h]
theorem zn0 (l:List V)(j:Nat):∃ r,evens l=evens (l.take j)++r:=by
 refine⟨(evens l).drop ((j+1) / 2),?_⟩;have:(evens l).take ((j+1) / 2)=evens (l.take j):=by
  apply List.ext_getElem?
  intro i;rw[List.getElem?_take,zfF,zfF,List.getElem?_take];by_cases h:i < (j+1) / 2
  ·rw[if_pos h,if_pos (by omega)]
  ·rw[if_neg h,if_neg (by omega)]
 rw[←this,List.take_append_drop]
theorem zsD {l:List V}{j:Nat}(he:l.length % 2=0)(h:unl l (j+1)=false):zcy (zf4 l)=false:=by
 rw[ze7 l he];obtain⟨r,hr⟩:=zn0 l (j+1);rw[hr];exact zis h
theorem zeJ (k n:Nat)(t:ByteArray)(ks:List V):mayB (.mk k n t ks)=(mayL ks&&zam k n t ks.length&&zaR k ks):=by simp only[mayB]
theorem zhK {w w':World}{g b p q k1 n1 k2 n2:Nat}{x0 x1 x2 x3:Value}{t1 t2:ByteArray}{ks1 ks2:List V}{A1 A2:Oz}{l1 c1 l2 c2:Nat}(hB:Box w g x0 x1 x2 x3)(h1:El w b p k1 n1 t1 ks1 A1 l1 c1)(h2:El w b q k2 n2 t2 ks2 A2 l2 c2)(hb:Below w.heap.size w w') :
  w'.cell? ⟨g,0,none⟩=some x0∧w'.cell? ⟨g,1,none⟩=some x1∧w'.cell? ⟨g,2,none⟩=some x2∧w'.cell? ⟨g,3,none⟩=some x3 ∧
  w'.cell? ⟨b,p,none⟩=some (.int .u8 k1)∧w'.cell? ⟨b,p+1,none⟩=some (.int .u64 n1)∧w'.cell? ⟨b,p+2,none⟩=some (.string t1)∧w'.cell? ⟨b,p+3,none⟩=some (.slice A1 l1 c1) ∧
  w'.cell? ⟨b,q,none⟩=some (.int .u8 k2)∧w'.cell? ⟨b,q+1,none⟩=some (.int .u64 n2)∧w'.cell? ⟨b,q+2,none⟩=some (.string t2)∧w'.cell? ⟨b,q+3,none⟩=some (.slice A2 l2 c2)∧Below w.heap.size w w':=by
 obtain⟨p0,p1,p2,p3,_⟩:=(hB.call hb).all;obtain⟨a0,a1,a2,a3⟩:=(h1.call hb).cells;exact⟨p0,p1,p2,p3,a0,a1,a2,a3,h2.held hb⟩
def zi3:List V→Nat→Bool
 | [],_=>true
 | x::r,j=>((x::r).take j).all fun y=>zbb x y
theorem zn1 {l:List V}(h:mayL l=true):zi3 l 1=true:=by
 cases l with
 | nil=>rfl
 | cons x r=>
  simp only[mayL,yb3] at h;simp[zi3,zcW x h.1]
theorem zlZ {l:List V}{j:Nat}{x v:V}(h0:l[0]? = some x)(hx:l[j]? = some v):zi3 l (j+1)=(zi3 l j&&zbb x v):=by
 cases l with
 | nil=>simp at h0
 | cons y r=>
  simp at h0;subst h0;simp only[zi3];exact zfw hx
theorem zn2 {l:List V}{j:Nat}(hm:mayL l=true)(hj:l.length≤j):zi3 l j=zaR 24 l:=by
 rw[zf6];cases l with
 | nil=>rfl
 | cons x r=>
  simp only[mayL,yb3] at hm;rw[zhv hm.1,zi3,yb6 hj]
theorem zqj {l:List V}{j:Nat}{x v:V}(hm:mayL l=true)(h0:l[0]? = some x)(hx:l[j]? = some v)(h:zbb x v=false):zaR 24 l=false:=by
 rw[zf6];cases l with
 | nil=>simp at h0
 | cons y r=>
  simp at h0;subst h0;simp only[mayL,yb3] at hm;rw[zhv hm.1];exact zkw hx h
theorem zsE {ks:List V}{l:Nat}(hl:l=ks.length)(h:l≠2):zaR 25 ks=false:=by
 subst hl
 match ks,h with
 | [],_=>rfl
 | [_],_=>rfl
 | [_,_],h=>simp at h
 | _::_::_::_,_=>rfl
theorem zqk (N:Nat):∀ (k n:Nat) (t:ByteArray) (ks:List V) (A:Oz) (l c:Nat) (w:World),zai ks≤N→N≤1073741824→t.size≤1073741824→n < 18446744073709551616→Kd w ks A l c →
  Calls prog 74 #[.agg #[.int .u8 k,.int .u64 n,.string t,.slice A l c]] w (zaj (mayB (.mk k n t ks)) w):=by
 induction N using Nat.strongRecOn with
 | ind N ih=>
 intro k n t ks A l c w hN k9 ht hn hK;have IH:=zaa ih;clear ih;have hlen:=hK.len;have Kh:=zaa hlen;have Qc:l≤ks.length:=Nat.le_of_eq hlen;have hll2:ks.length≤l:=Nat.le_of_eq hlen.symm;have Jb:=za0 ks;have hl9:l≤1073741824:=by omega
 have GK:Below w.heap.size w (w.alloc (.cells #[.int .u8 k,.int .u64 n,.string t,.slice A l c] 43)):=(za _ _);have b0:=Box.new w (.int .u8 k) (.int .u64 n) (.string t) (.slice A l c);replace hK:=hK.call GK;have qq:=zaa hn;have HTT:=zaa ht;clear hn ht hlen;go_enter func74,ntmps74;go_wp2_with fail;obtain⟨W0,Gj⟩:∃ W0,w.alloc (.cells #[.int .u8 k,.int .u64 n,.string t,.slice A l c] 43)=W0:=⟨_,rfl⟩;obtain⟨g,hg⟩:∃ g,w.heap.size=g:=⟨_,rfl⟩;rw[Gj] at GK b0 hK ⊢;rw[hg] at b0 ⊢;clear Gj hg;go_loopw [3] (fun i wr=>∃ j:Nat,j≤l∧i=.int .i64 j∧Below W0.heap.size W0 wr∧mayL (ks.take j)=true) (fun i _=>l - (intOf i).toNat)
 case atStart=>exact⟨0,Nat.zero_le _,rfl,Below.refl _ _,rfl⟩
 case round=>
  obtain⟨j,hj,rfl,hb,hm⟩:=hrel;have HM:=zaa hm;clear hm;have B:=b0.call hb;have cc:=B.all;obtain⟨p0,p1,p2,p3,pf⟩:=cc;by_cases Hi:j < l
  ·obtain⟨b,o,k1,n1,t1,ks1,A1,l1,c1,rfl,hx,gF,Gm,GY,E⟩:=(hK.call hb).el Hi;obtain⟨r,hr⟩:∃ r,mayB (.mk k1 n1 t1 ks1)=r:=⟨_,rfl⟩;have Hx:=fun W (h:Below wr.heap.size wr W)=>IH.out (zai ks1) (by simp only[bulk] at GY;omega) k1 n1 t1 ks1 A1 l1 c1 W zab (by simp only[bulk] at GY;omega) (by simp only[bulk] at GY;omega) Gm (E.kd.call h);rw[hr] at Hx;have HC:=zaa (Hx wr (Below.refl _ _));have HX:=zaa hx;have HR:=zaa hr;have ce:=E.cells;obtain⟨h0,h1,h2,h3⟩:=ce;clear Hx hx hr Gm GY;cases r with
   | false=>
    go_wp2_with fail;refine HC.out.mono ?_;rintro e w1 ⟨rfl,Ha⟩;go_wp2;go_ret;exact⟨by rw[zeJ,zr4 HX.out HR.out];rfl,zad GK (zad hb Ha)⟩
   | true=>
    go_wp2_with fail;refine HC.out.mono ?_;rintro e w1 ⟨rfl,Ha⟩;have He:=zad hb Ha;go_wp2;go_roundw
    case rel=>exact⟨j+1,by omega,by go_num,He,by rw[zio HX.out,HM.out,HR.out];rfl⟩
    case measure=>simp[intOf];omega
  ·have HE:Hid (ks.take j=ks):=zaa (yb6 (by omega));rw[HE.out] at HM;obtain⟨bn,JQ⟩:∃ bn,((n:Int)==0)=bn:=⟨_,rfl⟩;obtain⟨bt,Ku⟩:∃ bt,t.toList.isEmpty=bt:=⟨_,rfl⟩;have HAO:Hid (22≤k∧k≤25→zam k n t ks.length=(bn&&bt)):=zaa (fun h=>by
    unfold zam;rw[if_neg (by omega),if_neg (by omega),if_neg (by omega),if_pos h,←Ku,zgB,←JQ]
    congr 1
    rw[Bool.eq_iff_iff,decide_eq_true_eq,beq_iff_eq];omega)
   have HR:Hid (22≤k∧k≤25→zaR k ks=true→mayB (.mk k n t ks)=(bn&&bt)):=zaa (fun h h2=>by rw[zeJ,HM.out,HAO.out h,h2];simp);have HF:Hid (zaR k ks=false→mayB (.mk k n t ks)=false):=zaa (fun h2=>by rw[zeJ,h2];simp);clear HAO;have xp:=zaa JQ;have BS:=zaa Ku;by_cases kJ:k=22
   ·have e22:((k:Int)==22)=true:=by rw[beq_iff_eq];omega
    have Xw:=zaa (show 22≤k∧k≤25 from by omega);have H':=zaa (show zaR k ks=true from zdW (by omega) (by omega) (by omega));clear kJ;cases bn
    all_goals
     go_wp2;go_ret;exact⟨by rw[HR.out Xw.out H'.out];rfl,zad GK hb⟩
   ·have e22:((k:Int)==22)=false:=by rw[zac];omega
    by_cases xo:k=23
    ·have e23:((k:Int)==23)=true:=by rw[beq_iff_eq];omega
     have Xw:=zaa (show 22≤k∧k≤25 from by omega);have QH:=zaa xo;clear kJ xo;clear JQ Ku;by_cases BU:l % 2=0
     ·have m1:(l:Int) % 2=0:=by omega
      have m2:Int.tmod (l:Int) 2=0:=by rw[Int.tmod_eq_emod_of_nonneg (by omega)];omega
      go_wp2_with fail;have bg:=zaa BU;clear m1 m2 BU p0 p1 p2 p3 pf B;go_loopw [5] (fun i wr=>∃ j:Nat,(j % 2=0∧j≤l)∧i=.int .i64 j∧Below W0.heap.size W0 wr∧unl ks j=true) (fun i _=>l - (intOf i).toNat)
      case atStart=>exact⟨0,by omega,rfl,hb,rfl⟩
      case round=>
       obtain⟨j,⟨xV,hj⟩,rfl,hb,hu⟩:=hrel;have HU:=zaa hu;clear hu;by_cases Hi:j < l
       ·obtain⟨b,o,k1,n1,t1,ks1,A1,l1,c1,rfl,hx,gF,Gm,GY,E0⟩:=(hK.call hb).el Hi;have HX:=zaa hx;clear E0;have Yo:=zaa xV;clear xV hx;go_wp2_with fail;go_loopw [6] (fun i wr=>∃ m:Nat,(m % 2=0∧m≤j)∧i=.int .i64 m∧Below W0.heap.size W0 wr∧valueAlike.seen ks j (m / 2) (.mk k1 n1 t1 ks1)=false) (fun i _=>j - (intOf i).toNat)
        case atStart=>exact⟨0,by omega,rfl,hb,znY _ _ _⟩
        case round=>
         obtain⟨m,⟨qO,hm⟩,rfl,hb,hs⟩:=hrel;have HS:=zaa hs;clear hs;have GP:2 * (m / 2)=m:=by omega
         have B:=b0.call hb;by_cases UU:m < j
         ·obtain⟨b',o',k1',n1',t1',ks1',A1,l1,c1,UK,GJ,_,_,_,E⟩:=(hK.call hb).el Hi;simp only[yb7,Addr.mk.injEq,and_true] at UK;obtain⟨rfl,rfl⟩:=UK;have hxx:=GJ.symm.trans HX.out;simp only[yb7,V.mk.injEq] at hxx;obtain⟨rfl,rfl,rfl,rfl⟩:=hxx;obtain⟨b',o',k2,n2,t2,ks2,A2,l2,c2,yQ,GQ,gR,Kk,VT,E2⟩:=(hK.call hb).el (i:=m) (by omega);simp only[yb7,Addr.mk.injEq,and_true] at yQ;obtain⟨rfl,rfl⟩:=yQ;have Ke:=zaa (znZ (j:=j) (m:=m / 2) (x:=.mk k1' n1' t1' ks1') (by rw[GP];exact GQ) (by omega));obtain⟨z,hz⟩:∃ z,same (.mk k1' n1' t1' ks1') (.mk k2 n2 t2 ks2)=z:=⟨_,rfl⟩;rw[hz] at Ke;have jQ:Below wr.heap.size wr wr.drew:=(Below.refl _ _).drew;have HC:Hid (Calls prog 119 #[.agg #[.int .u8 k1',.int .u64 n1',.string t1',.slice A1 l1 c1],.agg #[.int .u8 k2,.int .u64 n2,.string t2,.slice A2 l2 c2]] wr.drew (zaj z wr.drew)):=zaa (hz▸zia (zai ks1') k1' n1' t1' ks1' A1 l1 c1 k2 n2 t2 ks2 A2 l2 c2 _ zab (by simp only[bulk] at GY;omega) gF gR Gm Kk (E.kd.call jQ) (E2.kd.call jQ));have QF:m < l:=by omega
          have bh:m+2≤j∧(m+2) % 2=0:=by have:=Yo.out;omega
          have KP:=E.lt;have HSN:=zaa (fun(h:z=true)=>show unl ks (j+1)=false by
           rw[zkT HX.out Yo.out];have:(evens (ks.take j)).any (fun y=>same (.mk k1' n1' t1' ks1') y)=true:=by
            have e:=Ke.out;rw[h,Bool.or_true] at e;unfold valueAlike.seen at e;obtain⟨y,hy,Qh⟩:=List.any_eq_true.1 e;exact List.any_eq_true.2 ⟨y,List.mem_of_mem_take hy,Qh⟩
           rw[this];simp)
          clear GJ GQ hz GP Kk gR VT;have cc:=B.all;obtain⟨p0,p1,p2,p3,pf⟩:=cc;go_wp2_with fail;go_cut [56] (fun s wx=>s=.bool z∧Below W0.heap.size W0 wx)
          case first=>
           go_region_held3 (fun wx=>wx.cell? ⟨g,0,none⟩=some (.int .u8 (k:Int))∧wx.cell? ⟨g,1,none⟩=some (.int .u64 (n:Int))∧wx.cell? ⟨g,2,none⟩=some (.string t)∧wx.cell? ⟨g,3,none⟩=some (.slice (some ⟨b,o,none⟩) l c)∧wx.cell? ⟨b,o+j * 4,none⟩=some (.int .u8 (k1':Int))∧wx.cell? ⟨b,o+j * 4+1,none⟩=some (.int .u64 (n1':Int))∧wx.cell? ⟨b,o+j * 4+2,none⟩=some (.string t1')∧wx.cell? ⟨b,o+j * 4+3,none⟩=some (.slice A1 l1 c1)∧wx.cell? ⟨b,o+m * 4,none⟩=some (.int .u8 (k2:Int))∧wx.cell? ⟨b,o+m * 4+1,none⟩=some (.int .u64 (n2:Int))∧wx.cell? ⟨b,o+m * 4+2,none⟩=some (.string t2)∧wx.cell? ⟨b,o+m * 4+3,none⟩=some (.slice A2 l2 c2)∧Below wr.heap.size wr wx) (with_reducible first | assumption | exact zhK B E E2 jQ | exact zhK B E E2 gM | fail)
            (first
            | (go_at_call 119;(with_reducible refine HC.out.mono ?_);rintro e w1 ⟨rfl,Ha⟩;have gM:=zad jQ Ha)
            | fail)
           all_goals
            go_wp2_with fail;go_meet;exact⟨rfl,zad hb gM⟩
          case rest=>
           obtain⟨rfl,hb⟩:=hcut;cases z with
           | true=>
            go_wp2;go_ret;exact⟨by rw[HF.out (by rw[QH.out,zcK,zsD (by rw[←Kh.out];exact bg.out) (HSN.out (by first | rfl | trivial))];simp)];rfl,zad GK hb⟩
           | false=>
            go_wp2;go_roundw
            case rel=>exact⟨m+2,by omega,by go_num,hb,by rw[show (m+2) / 2=m / 2+1 by omega,Ke.out,HS.out];rfl⟩
            case measure=>simp[intOf];omega
         ·have HU2:=zaa (show unl ks (j+2)=true by
           have Ya:j+1 < ks.length:=by have:=bg.out;have:=Yo.out;omega
           have hj3:=Yo.out;rw[zsC Ya (by omega),zkT HX.out Yo.out,HU.out,←zqi (m:=m / 2) (by omega),HS.out];rfl)
          have hj5:j+2≤l∧(j+2) % 2=0:=by have:=bg.out;have:=Yo.out;omega
          go_wp2;go_roundw
          case rel=>exact⟨j+2,by omega,by go_num,hb,HU2.out⟩
          case measure=>simp[intOf];omega
       ·have H':=zaa (show zaR k ks=true by
         have bj:=HU.out;rw[show j=ks.length by omega] at bj;unfold unl at bj;rw[List.take_length] at bj;have he:ks.length % 2=0:=by rw[←Kh.out];exact bg.out
         rw[QH.out,zcK,ze7 ks he,bj];simp[he])
        have B:=b0.call hb;have cc:=B.all;obtain⟨p0,p1,p2,p3,pf⟩:=cc;have dN:=xp.out;have dT:=BS.out;cases bn
        all_goals
         go_wp2;go_ret;exact⟨by rw[HR.out Xw.out H'.out];rfl,zad GK hb⟩
     ·have m1:(l:Int) % 2=1:=by omega
      have m2:Int.tmod (l:Int) 2=1:=by rw[Int.tmod_eq_emod_of_nonneg (by omega)];omega
      have Yp:=zaa (show zaR k ks=false by rw[QH.out,zcK];have:=Kh.out;simp;omega);clear BU;go_wp2;go_ret;exact⟨by rw[HF.out Yp.out];rfl,zad GK hb⟩
    ·have e23:((k:Int)==23)=false:=by rw[zac];omega
     by_cases jJ:k=24
     ·have e24:((k:Int)==24)=true:=by rw[beq_iff_eq];omega
      have Xw:=zaa (show 22≤k∧k≤25 from by omega);have Xx:=zaa jJ;clear kJ xo jJ;clear JQ Ku;go_wp2_with fail;clear p0 p1 p2 p3 pf B;go_loopw [7] (fun i wr=>∃ j:Nat,(1≤j∧(j≤l∨l=0∧j=1))∧i=.int .i64 j∧Below W0.heap.size W0 wr∧zi3 ks j=true) (fun i _=>l - (intOf i).toNat)
      case atStart=>exact⟨1,by omega,rfl,hb,zn1 HM.out⟩
      case round=>
       obtain⟨j,hj,rfl,hb,gm⟩:=hrel;have Kg:=zaa gm;clear gm;have B:=b0.call hb;by_cases Hi:j < l
       ·obtain⟨b,o,k1,n1,t1,ks1,A1,l1,c1,rfl,hx,gF,Gm,GY,E⟩:=(hK.call hb).el Hi;obtain⟨b',o',k2,n2,t2,ks2,A2,l2,c2,yQ,GQ,gR,Kk,VT,E2⟩:=(hK.call hb).el (i:=0) (by omega);simp only[yb7,Addr.mk.injEq,and_true] at yQ;obtain⟨rfl,rfl⟩:=yQ;rw[Nat.zero_mul,ycd] at E2;obtain⟨r,hr⟩:∃ r,zbb (.mk k2 n2 t2 ks2) (.mk k1 n1 t1 ks1)=r:=⟨_,rfl⟩;have GP:=zbj HM.out _ (List.mem_of_getElem? GQ);have Gp:=zbj HM.out _ (List.mem_of_getElem? hx);have Ke:=zaa (zlZ GQ hx);have Gd:=zaa (fun h=>zqj HM.out GQ hx h);rw[hr] at Ke Gd;have jQ:Below wr.heap.size wr wr.drew:=(Below.refl _ _).drew;have HC:Hid (Calls prog 120 #[.agg #[.int .u8 k2,.int .u64 n2,.string t2,.slice A2 l2 c2],.agg #[.int .u8 k1,.int .u64 n1,.string t1,.slice A1 l1 c1]] wr.drew (zaj r wr.drew)):=zaa (hr▸zlY (zai ks2) k2 n2 t2 ks2 A2 l2 c2 k1 n1 t1 ks1 A1 l1 c1 _ zab (by simp only[bulk] at VT;omega) GP Gp (E2.kd.call jQ) (E.kd.call jQ));have jH:0 < l:=by omega
        have KP:=E.lt;clear hx GQ hr Gp GP GY VT Gm Kk gF gR;have cc:=B.all;obtain⟨p0,p1,p2,p3,pf⟩:=cc;go_wp2_with fail;go_cut [74] (fun s wx=>s=.bool (!r)∧Below W0.heap.size W0 wx)
        case first=>
         go_region_held3 (fun wx=>wx.cell? ⟨g,0,none⟩=some (.int .u8 (k:Int))∧wx.cell? ⟨g,1,none⟩=some (.int .u64 (n:Int))∧wx.cell? ⟨g,2,none⟩=some (.string t)∧wx.cell? ⟨g,3,none⟩=some (.slice (some ⟨b,o,none⟩) l c)∧wx.cell? ⟨b,o,none⟩=some (.int .u8 (k2:Int))∧wx.cell? ⟨b,o+1,none⟩=some (.int .u64 (n2:Int))∧wx.cell? ⟨b,o+2,none⟩=some (.string t2)∧wx.cell? ⟨b,o+3,none⟩=some (.slice A2 l2 c2)∧wx.cell? ⟨b,o+j * 4,none⟩=some (.int .u8 (k1:Int))∧wx.cell? ⟨b,o+j * 4+1,none⟩=some (.int .u64 (n1:Int))∧wx.cell? ⟨b,o+j * 4+2,none⟩=some (.string t1)∧wx.cell? ⟨b,o+j * 4+3,none⟩=some (.slice A1 l1 c1)∧Below wr.heap.size wr wx) (with_reducible first | assumption | exact zhK B E2 E jQ | exact zhK B E2 E gM | fail)
          (first
          | (go_at_call 120;(with_reducible refine HC.out.mono ?_);rintro e w1 ⟨rfl,Ha⟩;have gM:=zad jQ Ha)
          | fail)
         all_goals
          go_wp2_with fail;go_meet;exact⟨by simp,zad hb gM⟩
        case rest=>
         obtain⟨rfl,hb⟩:=hcut;cases r with
         | false=>
          go_wp2;go_ret;exact⟨by rw[HF.out (by rw[Xx.out];exact Gd.out (by first | rfl | trivial))];rfl,zad GK hb⟩
         | true=>
          go_wp2;go_roundw
          case rel=>exact⟨j+1,by omega,by go_num,hb,by rw[Ke.out,Kg.out];rfl⟩
          case measure=>simp[intOf];omega
       ·have H':=zaa (show zaR k ks=true by rw[Xx.out,←zn2 HM.out (by omega:ks.length≤j)];exact Kg.out);have B:=b0.call hb;have cc:=B.all;obtain⟨p0,p1,p2,p3,pf⟩:=cc;have dN:=xp.out;have dT:=BS.out;cases bn
        all_goals
         go_wp2;go_ret;exact⟨by rw[HR.out Xw.out H'.out];rfl,zad GK hb⟩
     ·have e24:((k:Int)==24)=false:=by rw[zac];omega
      by_cases kH:k=25
      ·have e25:((k:Int)==25)=true:=by rw[beq_iff_eq];omega
       have Xw:=zaa (show 22≤k∧k≤25 from by omega);have HK5:=zaa kH;clear kJ xo jJ kH;by_cases h2:l=2
       ·obtain⟨⟨xk,xn,xt,xs⟩,⟨yk,yn,yt,ys⟩,qi⟩:=zrh (h2.symm.trans Kh.out);subst qi;subst h2;obtain⟨_,b,o,B1,l1,c1,B2,l2,c2,rfl,E1,E2,_,_⟩:=zj1 (hK.call hb);have ce:=E1.cells;obtain⟨h0,h1,h2,h3⟩:=ce;obtain⟨q,hq⟩:∃ q,zb0 xk=q:=⟨_,rfl⟩;have Yp:=zaa (show zaR k [.mk xk xn xt xs,.mk yk yn yt ys]=q by rw[HK5.out,←hq];simp[zaR,kind]);have Hx:=fun W=>zcU xk xn xt B1 l1 c1 W;rw[hq] at Hx;have HC:=zaa (Hx wr);have gb:0 < (2:Nat):=by omega
        clear Hx hq JQ Ku;cases q with
        | false=>
         go_wp2_with fail;refine HC.out.mono ?_;rintro e w1 ⟨rfl,Ha⟩;go_wp2;go_ret;exact⟨by rw[HF.out Yp.out];rfl,zad GK (zad hb Ha)⟩
        | true=>
         go_wp2_with fail;refine HC.out.mono ?_;rintro e w1 ⟨rfl,Ha⟩;have B:=B.call Ha;have cc:=B.all;obtain⟨p0,p1,p2,p3,pf⟩:=cc;have dN:=xp.out;have dT:=BS.out;cases bn
         all_goals
          go_wp2;go_ret;exact⟨by rw[HR.out Xw.out Yp.out];rfl,zad GK (zad hb Ha)⟩
       ·have m2:((l:Int) != 2)=true:=by rw[bne_iff_ne];omega
        have Yp:=zaa (show zaR k ks=false by rw[HK5.out];exact zsE Kh.out h2);clear h2 JQ Ku;go_wp2;go_ret;exact⟨by rw[HF.out Yp.out];rfl,zad GK hb⟩
      ·have e25:((k:Int)==25)=false:=by rw[zac];omega
       have H':=zaa (show zaR k ks=true from zdW (by omega) (by omega) (by omega));have bl:=zaa (show za2 k n t l=mayB (.mk k n t ks) by
        rw[zeJ,HM.out,H'.out,←Kh.out];unfold za2;by_cases hk:22≤k∧k≤25
        ·omega
        ·rw[if_neg hk];by_cases hz:l=0
         ·simp[hz]
         ·have:zam k n t l=false:=by
           unfold zam
           (repeat' split)<;>simp_all
          rw[this];simp)
       clear kJ xo jJ kH JQ Ku;go_wp2_with fail;refine(zlF k n t A l c wr HTT.out qq.out).mono ?_;rw[bl.out];rintro e w1 ⟨rfl,Ha⟩;go_wp2;go_ret;exact⟨rfl,zad GK (zad hb Ha)⟩
end Val
namespace valueRights
open Go.RowKit Utf Val V
theorem le30 {n:Nat}(h:n≤16777216):n≤1073741824:=by omega
theorem zql (k n:Nat)(t:ByteArray)(ks:List V):okB (.mk k n t ks)=(decide (zah ks+1≤1024)&&decide (zas ks+1≤16)&&mayB (.mk k n t ks)):=by rw[okB,zdE,zdF]
theorem zd4 (k n:Nat)(t:ByteArray)(ks:List V)(A:Oz)(l c:Nat)(w:World)(hN:bulk (.mk k n t ks)≤16777216)(hn:n < 18446744073709551616)(hK:Kd w ks A l c) :
  Calls prog 39 #[.agg #[.int .u8 k,.int .u64 n,.string t,.slice A l c]] w (zaj (okB (.mk k n t ks)) w):=by
 have hB:Below w.heap.size w (w.alloc (.cells #[.int .u8 k,.int .u64 n,.string t,.slice A l c] 43)):=(za _ _);have b0:=Box.new w (.int .u8 k) (.int .u64 n) (.string t) (.slice A l c);have kO:=hK.alloc (.cells #[.int .u8 k,.int .u64 n,.string t,.slice A l c] 43);have JO:zai ks≤16777216:=by simp only[bulk] at hN;omega
 have k9:t.size≤16777216:=by simp only[bulk] at hN;omega
 have hi:=zbU ks;have hd:=zef ks;have HO:=zaa (zql k n t ks);obtain⟨r,hr⟩:∃ r,mayB (.mk k n t ks)=r:=⟨_,rfl⟩;obtain⟨I,hI⟩:∃ I,zah ks+1=I:=⟨_,rfl⟩;obtain⟨D,hD⟩:∃ D,zas ks+1=D:=⟨_,rfl⟩;rw[hr,hI,hD] at HO;have e1:=zhs I 1024;have e2:=zhs D 16;obtain⟨p,hp⟩:∃ p,decide (I≤1024)=p:=⟨_,rfl⟩;obtain⟨q,hq⟩:∃ q,decide (D≤16)=q:=⟨_,rfl⟩;rw[hp,hq] at HO;rw[hp] at e1;rw[hq] at e2;simp only[Int.cast_ofNat_Int] at e1 e2;have HI:=zaa hI;have HD:=zaa hD;have HR:=zaa hr;have QG:=zaa JO;have Vi:=zaa k9;have qq:=zaa hn;clear hN hn hr hI hD hp hq hi hd JO k9 hK;have cc:=b0.all;obtain⟨p0,p1,p2,p3,pf⟩:=cc;go_enter func39,ntmps39;cases p<;>cases q
 all_goals
  go_wp2_with (first
   | (go_at_call 72;(with_reducible refine(zlt (zai ks) k n t ks A l c _ zab (yb5 QG.out (by decide)) kO).mono ?_);rw[HI.out];rintro e w1 ⟨rfl,Ha⟩;have kK:=kO.call Ha;have hB:=zad hB Ha;have b1:=b0.call Ha;have cc:=b1.all;obtain⟨p0,p1,p2,p3,pf⟩:=cc)
   | (go_at_call 73;(with_reducible refine(zlu (zai ks) k n t ks A l c _ zab (yb5 QG.out (by decide)) kK).mono ?_);rw[HD.out];rintro e w2 ⟨rfl,He⟩;have kE:=kK.call He;have hB:=zad hB He;have b2:=b1.call He;have cc:=b2.all;obtain⟨p0,p1,p2,p3,pf⟩:=cc)
   | (go_at_call 74;(with_reducible refine(zqk (zai ks) k n t ks A l c _ zab (le30 QG.out) (le30 Vi.out) qq.out kE).mono ?_);rw[HR.out];rintro e w3 ⟨rfl,Hj⟩;have hB:=zad hB Hj))
  go_ret;exact⟨by rw[HO.out];rfl,hB⟩
end valueRights
namespace Fl
open Go.RowKit Utf Val V
theorem zgl {d:V}{code:Nat}{name:ByteArray}(hm:mayB d=true)(h:zb0 d.kind=true):za1 d code name=if d.kind=6 then decide (d.num=code) else decide (d.text=name):=by
 obtain⟨k,n,t,ks⟩:=d;have ha:zam k n t ks.length=true:=by simp only[mayB,yb3] at hm;exact hm.1.2
 have h:zb0 k=true:=h
 show za1 (.mk k n t ks) code name=if k=6 then decide (n=code) else decide (t=name)
 simp only[zb0,ycb,beq_iff_eq] at h;rcases h with rfl | rfl
 ·rw[if_pos rfl];simp only[zam,show ¬ (6=1) by omega,if_false,show (2≤6∧6≤14) by omega,and_self,if_true,yb3,decide_eq_true_eq,numB] at ha;obtain⟨⟨h1,h2⟩,_⟩:=ha;have h1:t.size=0:=of_decide_eq_true h1;obtain rfl:=empty_eq h1;obtain rfl:=yb9 h2;unfold za1;rw[V.zcH (b:=.mk 21 0 name []) (by intro h;injection h with h;omega),Bool.or_false];by_cases hc:n=code
  ·subst hc;rw[V.zeb];simp
  ·rw[V.zcH (by intro e;injection e with _ e;exact hc e),decide_eq_false hc]
 ·rw[if_neg (by omega)];simp only[zam,show ¬ (21=1) by omega,if_false,show ¬ (2≤21∧21≤14) by omega,show (15≤21∧21≤21) by omega,and_self,if_true,yb3,decide_eq_true_eq] at ha;obtain⟨⟨rfl,h2⟩,_⟩:=ha;obtain rfl:=yb9 h2;unfold za1;rw[V.zcH (b:=.mk 6 code ⟨#[]⟩ []) (by intro h;injection h with h;omega),Bool.false_or];by_cases hc:t=name
  ·subst hc;rw[V.zeb];simp
  ·rw[V.zcH (by intro e;injection e with _ _ e;exact hc e),decide_eq_false hc]
def zds (o:Option (List V))(w:World)(e:Ending)(w':World):Prop:=
 match o with
 | none=>e=.returned (.tuple #[.pointer none,.int .i64 6])∧Below w.heap.size w w'
 | some ls=>∃ g A l c,e=.returned (.tuple #[.pointer (some ⟨g,0,none⟩),.int .i64 0])∧w.heap.size≤g∧Fld 122 (fun i=>g≤i) w' g ls A l c false∧g+1=w'.heap.size∧Below w.heap.size w w'
theorem zkU (k n:Nat)(t:ByteArray)(ks:List V)(A:Oz)(l c code:Nat)(name:ByteArray)(w:World)(hN:bulk (.mk k n t ks)≤16777216)(hn:n < 18446744073709551616)(hK:Kd w ks A l c)(hv:okB (.mk k n t ks)=false∨¬ k=25) :
  Calls prog 40 #[.agg #[.int .u8 (k:Int),.int .u64 (n:Int),.string t,.slice A l c],.int .u64 (code:Int),.string name] w (zds none w):=by
 have Hg:Below w.heap.size w (w.alloc (.cells #[.int .u8 (k:Int),.int .u64 (n:Int),.string t,.slice A l c] 43)):=(za _ _);have HX:=zaa (Box.new w (.int .u8 (k:Int)) (.int .u64 (n:Int)) (.string t) (.slice A l c));have HR:=zaa (valueRights.zd4 k n t ks A l c _ hN hn (hK.call Hg));have HB:=zaa Hg;clear hN hn hK Hg;cases Hq:okB (.mk k n t ks) with
 | false=>
  rw[Hq] at HR;clear Hq hv;go_enter func40,ntmps40;go_wp2_with fail;refine HR.out.mono ?_;rintro e w1 ⟨rfl,Ha⟩;have Hl:=zaa (zad HB.out Ha);clear Ha;go_wp2;refine bodyPost_ret (v:=.tuple #[.pointer none,.int .i64 6]) (by simp[results,results40,go_sem]) rfl ?_;exact⟨rfl,Hl.out⟩
 | true=>
  rw[Hq] at HR;have kH:¬ k=25:=by
   rcases hv with h | h
   ·rw[h] at Hq;cases Hq
   ·exact h
  have hd:((k:Int)==25)=false:=by rw[zac];omega
  have xB:((k:Int) != 25)=true:=by rw[bne,hd];rfl
  have Qp:¬ (k:Int)=25:=by omega
  clear Hq hv kH;go_enter func40,ntmps40;go_wp2_with fail;refine HR.out.mono ?_;rintro e w1 ⟨rfl,Ha⟩;obtain⟨d0,d1,d2,d3,df⟩:=(HX.out.call Ha).all;have Hl:=zaa (zad HB.out Ha);clear Ha;go_wp2;refine bodyPost_ret (v:=.tuple #[.pointer none,.int .i64 6]) (by simp[results,results40,go_sem]) rfl ?_;exact⟨rfl,Hl.out⟩
theorem zn3 (n:Nat)(t:ByteArray)(ks:List V)(x y:V)(gQ:ks=[x,y])(A:Oz)(l c code:Nat)(name:ByteArray)(w:World)(hN:bulk (.mk 25 n t ks)≤16777216)(hn:n < 18446744073709551616)(hK:Kd w ks A l c)(Hq:okB (.mk 25 n t ks)=true)(Vd:mayB x=true)(jR:zb0 x.kind=true) :
  Calls prog 40 #[.agg #[.int .u8 25,.int .u64 (n:Int),.string t,.slice A l c],.int .u64 (code:Int),.string name] w (zds (newR (.mk 25 n t ks) code name) w):=by
 have Hg:Below w.heap.size w (w.alloc (.cells #[.int .u8 25,.int .u64 (n:Int),.string t,.slice A l c] 43)):=(za _ _);have HX:=zaa (Box.new w (.int .u8 25) (.int .u64 (n:Int)) (.string t) (.slice A l c));have HR:Hid (Calls prog 39 #[.agg #[.int .u8 25,.int .u64 (n:Int),.string t,.slice A l c]] _ (zaj (okB (.mk 25 n t ks)) _)):=zaa (valueRights.zd4 25 n t ks A l c _ hN hn (hK.call Hg));rw[Hq] at HR;have HB:=zaa Hg;have HK:=zaa (hK.call Hg);have HN:=zaa hN;have HE:=zaa gQ;have JR:=zgl (code:=code) (name:=name) Vd jR;have ho:=zgk (code:=code) (name:=name) Hq gQ;rw[JR] at ho;simp only[zb0,ycb,beq_iff_eq] at jR;have HNX:=zaa jR;have HO:=zaa ho;clear hN hn hK Hq Hg gQ Vd JR ho jR;obtain⟨o,gB⟩:∃ o,newR (.mk 25 n t ks) code name=o:=⟨_,rfl⟩;rw[gB] at HO ⊢;clear gB;go_enter func40,ntmps40;go_wp2_with fail;refine HR.out.mono ?_;rintro e w1 ⟨rfl,Ha⟩;have hdx:=(HX.out.call Ha).all;have Hl:=zaa (zad HB.out Ha);obtain⟨b,ob,k1,n1,t1,ks1,A1,l1,c1,k2,n2,t2,ks2,A2,l2,c2,rfl,KP,rfl,rfl,rfl,p0,p1,p2,p3,q0,q1,q2,q3,gF,Gm,kK,gR,Kk,kE⟩:=zeF (HK.out.call Ha) HE.out;have gu:=(HX.out.call Ha).lt;obtain⟨d0,d1,d2,d3,df⟩:=hdx;have Hp:¬ b=w1.heap.size:=by omega
 have Qe:¬ w.heap.size=w1.heap.size:=by omega
 have uY:ks=[.mk k1 n1 t1 ks1,.mk k2 n2 t2 ks2]:=HE.out;have bo:=zaa kE;have Xy:=zaa (show zai ks2≤16777216 by have:=HN.out;rw[uY] at this;simp only[bulk,zai] at this;omega);have J2:Hid (o=if (if k1=6 then decide (n1=code) else decide (t1=name))=true∧k2=22 then some ks2 else none):=zaa HO.out;have vh:Hid (k1=6∨k1=21):=zaa HNX.out;clear Ha kK kE HK HO HNX uY HX HR HB;by_cases kJ:k2=22
 case neg=>
  have hd:((k2:Int)==22)=false:=by rw[zac];omega
  have xB:((k2:Int) != 22)=true:=by rw[bne,hd];rfl
  have Qp:¬ (k2:Int)=22:=by omega
  obtain rfl:o=none:=by rw[J2.out];exact if_neg fun h=>kJ h.2
  clear kJ J2;go_wp2;refine bodyPost_ret (v:=.tuple #[.pointer none,.int .i64 6]) (by simp[results,results40,go_sem]) rfl ?_;exact⟨rfl,Hl.out⟩
 case pos=>
  have hd:((k2:Int)==22)=true:=by rw[kJ];rfl
  have xB:((k2:Int) != 22)=false:=by rw[bne,hd];rfl
  have Qp:(k2:Int)=22:=by omega
  rcases vh.out with h6 | h6
  ·have he6:((k1:Int)==6)=true:=by rw[h6];rfl
   have CB:((k1:Int)==21)=false:=by rw[h6];rfl
   by_cases km:n1=code
   ·have hec:((n1:Int)==(code:Int))=true:=by rw[km];simp
    obtain rfl:o=some ks2:=by rw[J2.out,if_pos h6];exact if_pos ⟨decide_eq_true km,kJ⟩
    clear kJ h6 km J2 vh Qp hd;go_wp2_with fail;refine(zdd 16777216 ks2 A2 l2 c2 _ Xy.out (by omega) (bo.out.call ((za _ _)))).mono ?_;rintro e w9 ⟨A3,l3,c3,rfl,Jk,kr⟩;have j5:=zaa (zad (Hl.out.alloc Hl.out.size _) kr);have Xv:=zaa Jk;clear kr Jk;go_wp2;refine bodyPost_ret (v:=.tuple #[.pointer (some ⟨w9.heap.size,0,none⟩),.int .i64 0]) (by simp[results,results40,go_sem]) rfl ?_;refine⟨w9.heap.size,A3,l3,c3,rfl,j5.out.size,⟨heap_alloc_new w9 _,?_,zab⟩,by simp,j5.out.alloc j5.out.size _⟩;exact((Xv.out.kd.keep fun i hi=>yca _ _ _ hi).mono fun i hi=>⟨by simp;omega,by omega⟩)
   ·have hec:((n1:Int)==(code:Int))=false:=by rw[zac];omega
    obtain rfl:o=none:=by rw[J2.out,if_pos h6];exact if_neg fun h=>km (of_decide_eq_true h.1)
    clear kJ h6 km J2 vh Qp hd;go_wp2;refine bodyPost_ret (v:=.tuple #[.pointer none,.int .i64 6]) (by simp[results,results40,go_sem]) rfl ?_;exact⟨rfl,Hl.out.alloc Hl.out.size _⟩
  ·have he6:((k1:Int)==6)=false:=by rw[h6];rfl
   have CB:((k1:Int)==21)=true:=by rw[h6];rfl
   by_cases km:t1=name
   ·obtain rfl:o=some ks2:=by rw[J2.out,if_neg (show ¬ k1=6 by omega)];exact if_pos ⟨decide_eq_true km,kJ⟩
    subst km;clear kJ h6 J2 vh Qp hd;go_wp2_with fail;refine(zdd 16777216 ks2 A2 l2 c2 _ Xy.out (by omega) (bo.out.call ((za _ _)))).mono ?_;rintro e w9 ⟨A3,l3,c3,rfl,Jk,kr⟩;have j5:=zaa (zad (Hl.out.alloc Hl.out.size _) kr);have Xv:=zaa Jk;clear kr Jk;go_wp2;refine bodyPost_ret (v:=.tuple #[.pointer (some ⟨w9.heap.size,0,none⟩),.int .i64 0]) (by simp[results,results40,go_sem]) rfl ?_;refine⟨w9.heap.size,A3,l3,c3,rfl,j5.out.size,⟨heap_alloc_new w9 _,?_,zab⟩,by simp,j5.out.alloc j5.out.size _⟩;exact((Xv.out.kd.keep fun i hi=>yca _ _ _ hi).mono fun i hi=>⟨by simp;omega,by omega⟩)
   ·have VU:¬ t1.toList=name.toList:=fun h=>km (zdc h);have hec:(t1.toList==name.toList)=false:=by rw[zac];exact VU
    obtain rfl:o=none:=by rw[J2.out,if_neg (show ¬ k1=6 by omega)];exact if_neg fun h=>km (of_decide_eq_true h.1)
    clear kJ h6 km J2 vh Qp hd;go_wp2;refine bodyPost_ret (v:=.tuple #[.pointer none,.int .i64 6]) (by simp[results,results40,go_sem]) rfl ?_;exact⟨rfl,Hl.out.alloc Hl.out.size _⟩
theorem zi4 (k n:Nat)(t:ByteArray)(ks:List V)(A:Oz)(l c code:Nat)(name:ByteArray)(w:World)(hN:bulk (.mk k n t ks)≤16777216)(hn:n < 18446744073709551616)(hK:Kd w ks A l c) :
  Calls prog 40 #[.agg #[.int .u8 (k:Int),.int .u64 (n:Int),.string t,.slice A l c],.int .u64 (code:Int),.string name] w (zds (newR (.mk k n t ks) code name) w):=by
 cases Hq:okB (.mk k n t ks) with
 | false=>
  rw[show newR (.mk k n t ks) code name=none from if_neg fun h=>by rw[Hq] at h;exact yb8 h.1];exact zkU k n t ks A l c code name w hN hn hK (.inl Hq)
 | true=>
  by_cases kH:k=25
  ·subst kH;have hm:mayB (.mk 25 n t ks)=true:=by
    unfold okB at Hq;simp only[yb3] at Hq;exact Hq.2
   obtain⟨x,y,gQ,h1,h2,_⟩:=zaS hm;exact zn3 n t ks x y gQ A l c code name w hN hn hK Hq h2 h1
  ·rw[show newR (.mk k n t ks) code name=none from if_neg fun h=>kH h.2];exact zkU k n t ks A l c code name w hN hn hK (.inr kH)
section
variable {X:Nat→Prop} {w:World} {g:Nat} {ls:List V} {A:Oz} {l c:Nat} {sp:Bool}
theorem Fld.setb {T:TypeId}(h:Fld T X w g ls A l c sp)(b:Bool):Fld T X (w.setCell ⟨g,1,none⟩ (.bool b)) g ls A l c b:=by
 refine⟨?_,(h.kd.keep fun i hi=>Below.heap_setCell w ⟨g,1,none⟩ _ i (fun e=>hi.2 (e▸h.mem))).mono fun _ hi=>⟨by simpa using hi.1,hi.2⟩,h.mem⟩;have:=h.obj;simp[World.setCell,Array.getElem?_modify,this]
theorem zqm (h:Fld 122 X w g ls A l c sp)(i:Int):Calls prog 123 #[.pointer (some ⟨g,0,none⟩),.int .i64 i] w (zaj (ask ls i).isSome w):=by
 obtain⟨a0,a1,_⟩:=h.cells;have hl:=h.fkd.len;by_cases h0:i < 0
 ·rw[znP h0];have hd:decide (0≤i)=false:=decide_eq_false (by omega);clear h0 h hl;go_enter func123,ntmps123;go_wp2;go_ret;exact⟨rfl,Below.refl _ _⟩
 ·obtain⟨j,rfl⟩:∃ j:Nat,i=(j:Int):=⟨i.toNat,by omega⟩;have hd:decide (0≤(j:Int))=true:=decide_eq_true (by omega);by_cases h1:j < l
  ·obtain⟨b,o,k,n,t,ks,A',l',c',rfl,hb,hx,e0,e1,e2,e3,hk,hn,hK⟩:=h.fkd.at_ h1;by_cases gF:k=1
   ·have hr:(ask ls (j:Int)).isSome=false:=by subst gF;rw[zeB hx];rfl
    rw[hr];have JU:((k:Int)==1)=true:=by rw[gF];rfl
    have kM:((k:Int) != 1)=false:=by rw[bne,JU];rfl
    clear h0 h hl hr hx gF hk hn hK hb;go_enter func123,ntmps123;go_wp2;go_ret;exact⟨rfl,Below.refl _ _⟩
   ·have hr:(ask ls (j:Int)).isSome=true:=by rw[zeC hx gF];rfl
    rw[hr];have JU:((k:Int)==1)=false:=by rw[zac];omega
    have kM:((k:Int) != 1)=true:=by rw[bne,JU];rfl
    have JF:¬ (k:Int)=1:=by omega
    clear h0 h hl hr hx gF hk hn hK hb;go_enter func123,ntmps123;go_wp2;go_ret;exact⟨rfl,Below.refl _ _⟩
  ·rw[zjY (by omega)];clear h0 h hl;go_enter func123,ntmps123;go_wp2;go_ret;exact⟨rfl,Below.refl _ _⟩
theorem zgm (h:Fld 122 X w g ls A l c sp)(n:Int):Calls prog 43 #[.pointer (some ⟨g,0,none⟩),.int .i64 n] w fun e w'=>e=.returned (.int .i64 (zb7 ls sp n))∧w=w':=by
 obtain⟨a0,a1,hf⟩:=h.cells;unfold zb7;rw[←h.fkd.len];clear h hf;cases sp with
 | true=>
  rw[if_pos (.inl rfl)];go_enter func43,ntmps43;go_wp2;go_ret;exact⟨rfl,rfl⟩
 | false=>
  by_cases hn:n < (l:Int)
  ·rw[if_pos (.inr hn)];have hd:decide (n < (l:Int))=true:=decide_eq_true hn;clear hn;go_enter func43,ntmps43;go_wp2;go_ret;exact⟨rfl,rfl⟩
  ·rw[if_neg (by simp[hn])];have hd:decide (n < (l:Int))=false:=decide_eq_false hn;clear hn;go_enter func43,ntmps43;go_wp2;go_ret;exact⟨rfl,rfl⟩
def zsF (X:Nat→Prop)(g:Nat)(ls:List V)(A:Oz)(l c:Nat)(o:Option V)(sp must:Bool)(w:World)(e:Ending)(w':World):Prop:=
 match o with
 | none=>e=.returned (.tuple #[.agg #[.int .u8 0,.int .u64 0,.string ⟨#[]⟩,.slice none 0 0],.bool false])∧Off (fun i=>i=g) w w'∧Fld 122 X w' g ls A l c (sp||must)
 | some (.mk k n t ks)=>∃ A' l' c',e=.returned (.tuple #[.agg #[.int .u8 (k:Int),.int .u64 (n:Int),.string t,.slice A' l' c'],.bool true])∧k < 256∧n < 18446744073709551616∧Kd w' ks A' l' c'∧Below w.heap.size w w'∧Fld 122 X w' g ls A l c sp
theorem zgn (h:Fld 122 X w g ls A l c sp)(i:Int)(must:Bool):Calls prog 76 #[.pointer (some ⟨g,0,none⟩),.int .i64 i,.bool must] w (zsF X g ls A l c (ask ls i) sp must w):=by
 have Hg:Below w.heap.size w (w.alloc (.cells #[.int .u8 0,.int .u64 0,.string ⟨#[]⟩,.slice none 0 0] 43)):=(za _ _);have HX:=zaa (Box.new w (.int .u8 0) (.int .u64 0) (.string ⟨#[]⟩) (.slice none 0 0));have HB:=zaa Hg;have HF:=zaa h;have HH:=zaa (zqm (h.call Hg) i);have VG:=zaa h.lt;clear Hg;cases ha:ask ls i with
 | none=>
  rw[ha] at HH;clear ha h;go_enter func76,ntmps76;go_wp2_with fail;refine HH.out.mono ?_;rintro e w1 ⟨rfl,Ha⟩;have Y4:=zaa ((HF.out.call HB.out).call Ha);obtain⟨a0,a1,hf⟩:=Y4.out.cells;obtain⟨d0,d1,d2,d3,df⟩:=(HX.out.call Ha).all;have kR:=zaa (HX.out.call Ha);have Hl:=zaa (zad HB.out Ha);have uZ:¬ g=w.heap.size:=by have:=VG.out;omega
  have hgne':¬ w.heap.size=g:=by have:=VG.out;omega
  clear Ha HH;have HFB:=zaa (Y4.out.setb (sp||must));have Qz:=zaa (((Off.of (fun i=>i=g) Hl.out).trans (Off.set w1 1 (.bool (sp||must)) rfl)).set4 zab (.int .u8 0) (.int .u64 0) (.string ⟨#[]⟩) (.slice none 0 0));have BV:=zaa (HF.out.fin Qz.out (zeE HFB.out.obj (by have:=VG.out;omega) _ _ _ _));cases sp<;>cases must
  all_goals
   go_wp2;refine bodyPost_ret (v:=.tuple #[.agg #[.int .u8 0,.int .u64 0,.string ⟨#[]⟩,.slice none 0 0],.bool false]) (by simp[results,results76,go_sem,d0,d1,d2,d3]) rfl ?_;exact⟨rfl,Qz.out,BV.out⟩
 | some v=>
  obtain⟨k,n,t,ks⟩:=v;obtain⟨j,rfl,hj,hx,_⟩:=zcY ha;rw[ha] at HH;have Vq:j < l:=by rw[h.fkd.len];exact hj
  obtain⟨b,o,k',n',t',ks',A',l',c',rfl,hb,jm,e0,e1,e2,e3,hk,hn,hK⟩:=h.fkd.at_ Vq;rw[hx] at jm;injection jm with jm
  injection jm with q1 q2 q3 q4
  subst q1;subst q2;subst q3;subst q4;have HK:=zaa hK;have H':=zaa hk;have qq:=zaa hn;clear ha h hj hx hK hk hn;go_enter func76,ntmps76;go_wp2_with fail;refine HH.out.mono ?_;rintro e w1 ⟨rfl,Ha⟩;have Y4:=zaa ((HF.out.call HB.out).call Ha);obtain⟨a0,a1,hf⟩:=Y4.out.cells;have Hl:=zaa (zad HB.out Ha);have f0:=(Hl.out.cell (p:=⟨b,o+j * 4,none⟩) hb).trans e0;have f1:=(Hl.out.cell (p:=⟨b,o+j * 4+1,none⟩) hb).trans e1;have f2:=(Hl.out.cell (p:=⟨b,o+j * 4+2,none⟩) hb).trans e2;have f3:=(Hl.out.cell (p:=⟨b,o+j * 4+3,none⟩) hb).trans e3;obtain⟨d0,d1,d2,d3,df⟩:=(HX.out.call Ha).all;have Qz:=zaa ((Off.of (fun i=>i=g) Hl.out).set4 zab (.int .u8 (k:Int)) (.int .u64 (n:Int)) (.string t) (.slice A' l' c'));have BV:=zaa (HF.out.fin Qz.out (zeE Y4.out.obj (by have:=VG.out;omega) _ _ _ _));clear Ha HH e0 e1 e2 e3 hb;go_wp2;refine bodyPost_ret (v:=.tuple #[.agg #[.int .u8 (k:Int),.int .u64 (n:Int),.string t,.slice A' l' c'],.bool true]) (by simp[results,results76,go_sem,d0,d1,d2,d3]) rfl ?_;exact⟨A',l',c',rfl,H'.out,qq.out,HK.out.call (zae Hl.out zab _ _ _ _),zae Hl.out zab _ _ _ _,BV.out⟩
structure SX (X:Nat→Prop) (w wi:World) (g:Nat) (ls:List V) (A:Oz) (l c:Nat) (sp:Bool):Prop where
 fld:Fld 122 X wi g ls A l c sp
 off:Off (fun i=>i=g) w wi
section
variable {wi w':World} {sp':Bool}
theorem SX.call (h:SX X w wi g ls A l c sp)(hb:Below wi.heap.size wi w'):SX X w w' g ls A l c sp:=⟨h.fld.call hb,h.off.next hb⟩
theorem SX.alloc (h:SX X w wi g ls A l c sp)(o:Obj):SX X w (wi.alloc o) g ls A l c sp:=h.call ((za _ _))
theorem SX.next (h:SX X w wi g ls A l c sp)(ho:Off (fun i=>i=g) wi w')(hF:Fld 122 X w' g ls A l c sp'):SX X w w' g ls A l c sp':=⟨hF,h.off.trans ho⟩
theorem SX.spoil (h:SX X w wi g ls A l c sp):SX X w (wi.setCell ⟨g,1,none⟩ (.bool true)) g ls A l c true:=h.next (Off.set _ _ _ rfl) h.fld.spoil
end
theorem zbD {sp':Bool}(h:Fld 122 X w g ls A l c sp)(i:Int)(kind:Nat)(must:Bool)(z:Nat)(N:Nat)(hq:oneR ls i kind must sp z V.num=(N,sp')) :
  Calls prog 42 #[.pointer (some ⟨g,0,none⟩),.int .i64 i,.int .u8 (kind:Int),.bool must,.int .u64 (z:Int)] w (zaZ 122 X g ls A l c (fun r _=>r=.int .u64 (N:Int)) sp' w):=by
 have HK:=zaa (zgn h i must);cases ha:ask ls i with
 | none=>
  rw[ha] at HK;rw[zbY ha] at hq;injection hq with e1 e2
  subst e1;subst e2;clear ha h;go_enter func42,ntmps42;go_wp2_with fail;refine HK.out.mono ?_;rintro e w1 ⟨rfl,Ga,G6⟩;have H1:=zaa ((SX.mk G6 Ga).alloc (.cells #[.int .u8 0,.int .u64 0,.string ⟨#[]⟩,.slice none 0 0] 43));clear Ga G6 HK;go_wp2;go_ret;exact⟨_,rfl,rfl,H1.out.off,H1.out.fld⟩
 | some v=>
  obtain⟨k,n,t,ks⟩:=v;rw[ha] at HK;by_cases hk:k=kind
  ·have hd:((k:Int) != (kind:Int))=false:=by rw[hk];simp
   rw[zcF ha hk] at hq;injection hq with e1 e2
   have e1:n=N:=e1;subst e1;subst e2;clear ha h hk;go_enter func42,ntmps42;go_wp2_with fail;refine HK.out.mono ?_;rintro e w1 ⟨A',l',c',rfl,_,_,_,Ku,G6⟩;have Ga:=Off.of (fun i=>i=g) Ku;have H1:=zaa ((SX.mk G6 Ga).alloc (.cells #[.int .u8 (k:Int),.int .u64 (n:Int),.string t,.slice A' l' c'] 43));clear Ga Ku G6 HK;go_wp2;go_ret;exact⟨_,rfl,rfl,H1.out.off,H1.out.fld⟩
  ·have jI:((k:Int)==(kind:Int))=false:=by rw[zac];omega
   have hd:((k:Int) != (kind:Int))=true:=by rw[bne,jI];rfl
   rw[zd3 ha hk] at hq;injection hq with e1 e2
   subst e1;subst e2;clear ha h hk;go_enter func42,ntmps42;go_wp2_with fail;refine HK.out.mono ?_;rintro e w1 ⟨A',l',c',rfl,_,_,_,Ku,G6⟩;have Ga:=Off.of (fun i=>i=g) Ku;have H1:=zaa ((SX.mk G6 Ga).alloc (.cells #[.int .u8 (k:Int),.int .u64 (n:Int),.string t,.slice A' l' c'] 43));have H2:=zaa ((SX.mk G6 Ga).spoil.alloc (.cells #[.int .u8 (k:Int),.int .u64 (n:Int),.string t,.slice A' l' c'] 43));obtain⟨a0,a1,hf⟩:=H1.out.fld.cells;obtain⟨b0,b1,hg⟩:=G6.cells;have Kz:=G6.lt;have uZ:¬ g=w1.heap.size:=by omega
   clear Ga Ku G6 HK;go_wp2;go_ret;exact⟨_,rfl,rfl,H2.out.off,H2.out.fld⟩
theorem zcb {sp':Bool}(h:Fld 122 X w g ls A l c sp)(i:Int)(kind:Nat)(must:Bool)(N:ByteArray)(hq:oneR ls i kind must sp ⟨#[]⟩ V.text=(N,sp')) :
  Calls prog 45 #[.pointer (some ⟨g,0,none⟩),.int .i64 i,.int .u8 (kind:Int),.bool must] w (zaZ 122 X g ls A l c (fun r _=>r=.string N) sp' w):=by
 have HK:=zaa (zgn h i must);cases ha:ask ls i with
 | none=>
  rw[ha] at HK;rw[zbY ha] at hq;injection hq with e1 e2
  subst e1;subst e2;clear ha h;go_enter func45,ntmps45;go_wp2_with fail;refine HK.out.mono ?_;rintro e w1 ⟨rfl,Ga,G6⟩;have H1:=zaa ((SX.mk G6 Ga).alloc (.cells #[.int .u8 0,.int .u64 0,.string ⟨#[]⟩,.slice none 0 0] 43));clear Ga G6 HK;go_wp2;go_ret;exact⟨_,rfl,rfl,H1.out.off,H1.out.fld⟩
 | some v=>
  obtain⟨k,n,t,ks⟩:=v;rw[ha] at HK;by_cases hk:k=kind
  ·have hd:((k:Int) != (kind:Int))=false:=by rw[hk];simp
   rw[zcF ha hk] at hq;injection hq with e1 e2
   have e1:t=N:=e1;subst e1;subst e2;clear ha h hk;go_enter func45,ntmps45;go_wp2_with fail;refine HK.out.mono ?_;rintro e w1 ⟨A',l',c',rfl,_,_,_,Ku,G6⟩;have Ga:=Off.of (fun i=>i=g) Ku;have H1:=zaa ((SX.mk G6 Ga).alloc (.cells #[.int .u8 (k:Int),.int .u64 (n:Int),.string t,.slice A' l' c'] 43));clear Ga Ku G6 HK;go_wp2;go_ret;exact⟨_,rfl,rfl,H1.out.off,H1.out.fld⟩
  ·have jI:((k:Int)==(kind:Int))=false:=by rw[zac];omega
   have hd:((k:Int) != (kind:Int))=true:=by rw[bne,jI];rfl
   rw[zd3 ha hk] at hq;injection hq with e1 e2
   subst e1;subst e2;clear ha h hk;go_enter func45,ntmps45;go_wp2_with fail;refine HK.out.mono ?_;rintro e w1 ⟨A',l',c',rfl,_,_,_,Ku,G6⟩;have Ga:=Off.of (fun i=>i=g) Ku;have H1:=zaa ((SX.mk G6 Ga).alloc (.cells #[.int .u8 (k:Int),.int .u64 (n:Int),.string t,.slice A' l' c'] 43));have H2:=zaa ((SX.mk G6 Ga).spoil.alloc (.cells #[.int .u8 (k:Int),.int .u64 (n:Int),.string t,.slice A' l' c'] 43));obtain⟨a0,a1,hf⟩:=H1.out.fld.cells;obtain⟨b0,b1,hg⟩:=G6.cells;have Kz:=G6.lt;have uZ:¬ g=w1.heap.size:=by omega
   clear Ga Ku G6 HK;go_wp2;go_ret;exact⟨_,rfl,rfl,H2.out.off,H2.out.fld⟩
end
theorem zi5 (w:World):Calls prog 77 #[] w fun e w'=>e=.returned (.agg #[.int .u8 1,.int .u64 0,.string ⟨#[]⟩,.slice none 0 0])∧Below w.heap.size w w':=by
 go_enter func77,ntmps77;go_wp2;exact bodyPost_ret (v:=.agg #[.int .u8 1,.int .u64 0,.string ⟨#[]⟩,.slice none 0 0]) (by simp[results,results77,go_sem]) rfl ⟨rfl,(za _ _)⟩
def fitN (L:Lz)(k j:Nat):Bool:=decide (L.length=0)||decide (k∈L.take j)
theorem zqn {L:Lz}{k j y:Nat}(h:L[j]? = some y):fitN L k (j+1)=(fitN L k j||decide (k=y)):=by
 unfold fitN;rw[List.take_add_one,h];simp only[Option.toList,List.mem_append,List.mem_singleton];by_cases h1:k∈L.take j<;>by_cases h2:k=y<;>by_cases h3:L.length=0<;>simp[h1,h2,h3]
theorem zsG (L:Lz)(k:Nat){j:Nat}(h:L.length≤j):fitN L k j=zdO L k:=by
 unfold fitN zdO;rw[yb6 h]
structure SW (X:Nat→Prop) (w wi:World) (g:Nat) (ls:List V) (A:Oz) (l c:Nat) (sp:Bool) (g7 k n:Nat) (t:ByteArray) (ks:List V) (A':Oz) (l' c':Nat) (KA:Oz) (kl:Nat) (L:Lz):Prop where
 sx:SX X w wi g ls A l c sp
 b6:Box wi w.heap.size (.int .u8 0) (.int .u64 0) (.string ⟨#[]⟩) (.slice none 0 0)
 b7:Box wi g7 (.int .u8 (k:Int)) (.int .u64 (n:Int)) (.string t) (.slice A' l' c')
 kd:Kd wi ks A' l' c'
 ki:Kinds wi KA kl L
 ne:g≠g7∧w.heap.size < g7
section
variable {X:Nat→Prop} {w wi w':World} {g:Nat} {ls:List V} {A:Oz} {l c:Nat} {sp:Bool} {g7 k n:Nat} {t:ByteArray} {ks:List V} {A':Oz} {l' c':Nat} {KA:Oz} {kl:Nat} {L:Lz}
theorem SW.call (h:SW X w wi g ls A l c sp g7 k n t ks A' l' c' KA kl L)(hb:Below wi.heap.size wi w'):SW X w w' g ls A l c sp g7 k n t ks A' l' c' KA kl L:=⟨h.sx.call hb,h.b6.call hb,h.b7.call hb,h.kd.call hb,h.ki.call hb,h.ne⟩
theorem SX.fin {sp0:Bool}(h:SX X w wi g ls A l c sp)(h0:Fld 122 X w g ls A l c sp0)(x y z u:Value):Off (fun i=>i=g) w ((((wi.setCell ⟨w.heap.size,0,none⟩ x).setCell ⟨w.heap.size,1,none⟩ y).setCell ⟨w.heap.size,2,none⟩ z).setCell ⟨w.heap.size,3,none⟩ u) ∧
  Fld 122 X ((((wi.setCell ⟨w.heap.size,0,none⟩ x).setCell ⟨w.heap.size,1,none⟩ y).setCell ⟨w.heap.size,2,none⟩ z).setCell ⟨w.heap.size,3,none⟩ u) g ls A l c sp:=by
 have ho:=h.off.set4 zab x y z u;exact⟨ho,h0.fin ho (zeE h.fld.obj (by have:=h0.lt;omega) _ _ _ _)⟩
end
theorem zbE {X:Nat→Prop}{w:World}{g:Nat}{ls:List V}{A:Oz}{l c:Nat}{sp sp':Bool}{rk rn:Nat}{rt:ByteArray}{rks:List V}{KA:Oz}{kl kc:Nat}{L:Lz}(h:Fld 122 X w g ls A l c sp)(hK:Kinds w KA kl L)(i:Int)(hN:zai ls≤1073741824)(hq:valR ls i L sp=(.mk rk rn rt rks,sp')) :
  Calls prog 44 #[.pointer (some ⟨g,0,none⟩),.int .i64 i,.slice KA kl kc] w (zaZ 122 X g ls A l c (QV w.heap.size rk rn rt rks) sp' w):=by
 have Hg:Below w.heap.size w (w.alloc (.cells #[.int .u8 0,.int .u64 0,.string ⟨#[]⟩,.slice none 0 0] 43)):=(za _ _);have HX:=zaa (Box.new w (.int .u8 0) (.int .u64 0) (.string ⟨#[]⟩) (.slice none 0 0));have HF:=zaa h;have HT:=zaa (zgn (h.call Hg) i false);have Xb:=zaa (show SX X w (w.alloc (.cells #[.int .u8 0,.int .u64 0,.string ⟨#[]⟩,.slice none 0 0] 43)) g ls A l c sp from ⟨h.call Hg,Off.of _ Hg⟩);have VG:=zaa h.lt;have BW:=zaa hK;have HN:=zaa hN;clear Hg h hK hN;cases ha:ask ls i with
 | none=>
  rw[ha] at HT;rw[zgj ha] at hq;injection hq with e1 e2
  unfold za3 at e1;injection e1 with q1 q2 q3 q4
  subst q1;subst q2;subst q3;subst q4;subst e2;clear ha;go_enter func44,ntmps44;go_wp2_with fail;refine HT.out.mono ?_;rintro e w1 ⟨rfl,Ga,G6⟩;rw[Bool.or_false] at G6;have jR:Below w1.heap.size w1 (w1.alloc (.cells #[.int .u8 0,.int .u64 0,.string ⟨#[]⟩,.slice none 0 0] 43)):=(za _ _);have JK:=zaa ((Xb.out.next Ga G6).call jR);have kR:=zaa ((Box.off HX.out Ga (by have:=VG.out;omega)).call jR);clear Ga G6 jR;go_wp2_with fail;refine(zi5 _).mono ?_;rintro e w2 ⟨rfl,He⟩;have Qo:=zaa (JK.out.call He);obtain⟨d0,d1,d2,d3,df⟩:=(kR.out.call He).all;clear He;go_wp2;refine bodyPost_ret (v:=.agg #[.int .u8 1,.int .u64 0,.string ⟨#[]⟩,.slice none 0 0]) (by simp[results,results44,go_sem,d0,d1,d2,d3]) rfl ?_;obtain⟨h1,h2⟩:=Qo.out.fin HF.out (.int .u8 1) (.int .u64 0) (.string ⟨#[]⟩) (.slice none 0 0);exact⟨_,rfl,⟨none,0,0,rfl,Kids.none_ _ _ _ _ _⟩,h1,h2⟩
 | some v=>
  obtain⟨k,n,t,ks⟩:=v;have GY:=zkQ ha;rw[ha] at HT;have Xy:=zaa (show zai ks≤1073741824 by have:=HN.out;simp only[bulk] at GY;omega);have HQ:=zaa (show valR ls i L sp=if zdO L k=true then (.mk k n t ks,sp) else (za3,true) by
   cases hf:zdO L k with
   | true=>rw[if_pos rfl];exact zfD ha hf
   | false=>rw[if_neg yb8];exact zj0 ha hf)
  have Vj:=zaa hq;have xC:=zaa BW.out.rd.len;clear ha GY hq;go_enter func44,ntmps44;go_wp2_with fail;refine HT.out.mono ?_;rintro e w1 ⟨A',l',c',rfl,hk,hn,Yk,Ku,G6⟩;have jR:Below w1.heap.size w1 (w1.alloc (.cells #[.int .u8 (k:Int),.int .u64 (n:Int),.string t,.slice A' l' c'] 43)):=(za _ _);have GJ:=HX.out.call Ku;have gO:w.heap.size < w1.heap.size:=GJ.lt;have CE:g < w1.heap.size:=G6.lt;have hSW:SW X w (w1.alloc (.cells #[.int .u8 (k:Int),.int .u64 (n:Int),.string t,.slice A' l' c'] 43)) g ls A l c sp w1.heap.size k n t ks A' l' c' KA kl L:=
   ⟨(Xb.out.next (Off.of _ Ku) G6).call jR,GJ.call jR,Box.new w1 _ _ _ _,Yk.call jR,(BW.out.call (show Below w.heap.size w (w.alloc (.cells #[.int .u8 0,.int .u64 0,.string ⟨#[]⟩,.slice none 0 0] 43)) from (za _ _))).call Ku |>.call jR,by omega,gO⟩
  have xb:=zaa hSW;have H':=zaa hk;have qq:=zaa hn;have GZ:=BW.out.lim;clear jR GJ gO CE hSW hk hn Yk Ku G6 HX Xb HT;obtain⟨f0,GD⟩:∃ f,((kl:Int)==0)=f:=⟨_,rfl⟩;have HF0:=zaa (show fitN L k 0=f0 by
   rw[←GD];unfold fitN;simp only[List.take_zero,List.not_mem_nil,decide_false,Bool.or_false];rw[xC.out];by_cases h:kl=0
   ·rw[h];rfl
   ·rw[decide_eq_false h];symm;rw[zac];omega)
  obtain⟨W1,Ko⟩:∃ W1,w1.alloc (.cells #[.int .u8 (k:Int),.int .u64 (n:Int),.string t,.slice A' l' c'] 43)=W1:=⟨_,rfl⟩;rw[Ko] at xb;obtain⟨G7,hG7⟩:∃ G7,w1.heap.size=G7:=⟨_,rfl⟩;rw[hG7] at xb;go_wp2_with fail;clear Ko hG7 GD;go_loopw [9,10] (fun s9 s wr=>∃ (j:Nat) (f:Bool),j≤kl∧s9=.bool f∧s=.int .i64 j∧fitN L k j=f∧SW X w wr g ls A l c sp G7 k n t ks A' l' c' KA kl L) (fun _ s _=>kl - (intOf s).toNat)
  case atStart=>exact⟨0,f0,Nat.zero_le _,rfl,rfl,HF0.out,xb.out⟩
  case round=>
   obtain⟨j,f,hj,rfl,rfl,hf,hS⟩:=hrel;have HFN:=zaa hf;have HS:=zaa hS;by_cases Hi:j < kl
   ·obtain⟨b,o,y,rfl,hb,hx,UF,Kx⟩:=hS.ki.rd.at_ Hi;have Ke:=zaa (zqn (k:=k) hx);obtain⟨z0,z1,z2,z3,_⟩:=hS.b7.all;have HJ:=zaa hj;clear hf hS hx xb;cases f with
    | true=>
     go_wp2_with fail;go_quiet (fail);go_wp2_with fail;go_roundw
     case rel=>exact⟨j+1,true,by omega,rfl,by go_num,by rw[Ke.out,HFN.out];rfl,HS.out.call (below_drewN (Below.refl _ _) _)⟩
     case measure=>simp[intOf];omega
    | false=>
     obtain⟨d,hd⟩:∃ d,((y:Int)==(k:Int))=d:=⟨_,rfl⟩;have HD:Hid (decide (k=y)=d):=zaa (by rw[←hd];by_cases h:k=y;(· subst h;simp);(· simp[h];omega));go_wp2_with fail;go_quiet (fail);go_wp2_with fail;go_roundw
     case rel=>exact⟨j+1,d,by omega,rfl,by go_num,by rw[Ke.out,HFN.out,HD.out];rfl,HS.out.call (below_drewN (Below.refl _ _) _)⟩
     case measure=>simp[intOf];omega
   ·have HFE:Hid (zdO L k=f):=zaa (by rw[←zsG L k (j:=j) (by have:=xC.out;omega)];exact hf);obtain⟨z0,z1,z2,z3,_⟩:=hS.b7.all;clear hf hS xb;cases f with
    | true=>
     have hq:=Vj.out;rw[HQ.out,HFE.out,if_pos rfl] at hq;injection hq with e1 e2
     injection e1 with q1 q2 q3 q4
     subst q1;subst q2;subst q3;subst q4;subst e2;go_wp2_with fail;refine(zms k n t ks A' l' c' _ Xy.out HS.out.kd).mono ?_;rintro e w5 ⟨A5,l5,c5,rfl,hN5,gp⟩;have Yq:=zaa (HS.out.call gp);have BY:=zaa hN5;obtain⟨d0,d1,d2,d3,df⟩:=Yq.out.b6.all;have h6l:=HS.out.b6.lt;clear gp hN5 z0 z1 z2 z3;go_wp2;refine bodyPost_ret (v:=.agg #[.int .u8 (k:Int),.int .u64 (n:Int),.string t,.slice A5 l5 c5]) (by simp[results,results44,go_sem,d0,d1,d2,d3]) rfl ?_;obtain⟨h1,h2⟩:=Yq.out.sx.fin HF.out (.int .u8 (k:Int)) (.int .u64 (n:Int)) (.string t) (.slice A5 l5 c5);exact⟨_,rfl,⟨A5,l5,c5,rfl,(BY.out.far4 h6l _ _ _ _).less (by omega)⟩,h1,h2⟩
    | false=>
     have hq:=Vj.out;rw[HQ.out,HFE.out,if_neg yb8] at hq;injection hq with e1 e2
     unfold za3 at e1;injection e1 with q1 q2 q3 q4
     subst q1;subst q2;subst q3;subst q4;subst e2;obtain⟨a0,a1,af⟩:=HS.out.sx.fld.cells;have Yj:=HS.out.sx.spoil;have h6:=HS.out.b6.far (p:=⟨g,1,none⟩) (show w.heap.size≠g by have:=VG.out;omega) (.bool true);have HSP:=zaa Yj;have H6:=zaa h6;clear Yj h6 z0 z1 z2 z3;go_wp2_with fail;refine(zi5 _).mono ?_;rintro e w5 ⟨rfl,gp⟩;have Yq:=zaa (HSP.out.call gp);obtain⟨d0,d1,d2,d3,df⟩:=(H6.out.call gp).all;clear gp a0 a1;go_wp2;refine bodyPost_ret (v:=.agg #[.int .u8 1,.int .u64 0,.string ⟨#[]⟩,.slice none 0 0]) (by simp[results,results44,go_sem,d0,d1,d2,d3]) rfl ?_;obtain⟨h1,h2⟩:=Yq.out.fin HF.out (.int .u8 1) (.int .u64 0) (.string ⟨#[]⟩) (.slice none 0 0);exact⟨_,rfl,⟨none,0,0,rfl,Kids.none_ _ _ _ _ _⟩,h1,h2⟩
theorem zi6 {X:Nat→Prop}{w:World}{g:Nat}{ls:List V}{A:Oz}{l c:Nat}{sp sp':Bool}(h:Fld 122 X w g ls A l c sp)(i:Int)(must:Bool)(N:Nat)(hq:oneR ls i 2 must sp 0 V.num=(N,sp')) :
  Calls prog 42 #[.pointer (some ⟨g,0,none⟩),.int .i64 i,.int .u8 2,.bool must,.int .u64 0] w (zaZ 122 X g ls A l c (fun r _=>r=.int .u64 (N:Int)) sp' w):=zbD h i 2 must 0 N hq
theorem zgZ {X:Nat→Prop}{w:World}{g:Nat}{ls:List V}{A:Oz}{l c:Nat}{sp sp':Bool}(h:Fld 122 X w g ls A l c sp)(i:Int)(must:Bool)(N:Nat)(hq:oneR ls i 2 must sp 0 V.num=(N,sp')) :
  Calls prog 41 #[.pointer (some ⟨g,0,none⟩),.int .i64 i,.bool must] w (zaZ 122 X g ls A l c (fun r _=>r=.bool (decide (N=1))) sp' w):=by
 obtain⟨d,hd⟩:∃ d,decide (N=1)=d:=⟨_,rfl⟩;have BP:((N:Int)==1)=d:=by rw[←hd];by_cases h:N=1<;>simp[h]<;>omega
 have HH:=zaa (zi6 h i must N hq);rw[hd];clear h hq hd;go_enter func41,ntmps41;go_wp2_with fail;refine HH.out.mono ?_;rintro e w1 hF;obtain⟨r,rfl,rfl,ho,hF⟩:=hF;have HF:=zaa hF;have HO:=zaa ho;clear hF ho;go_wp2;go_ret;exact⟨_,rfl,rfl,HO.out,HF.out⟩
end Fl
end Go.Proofs.YtbbbanfggcediaaGreatDoor
