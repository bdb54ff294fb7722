/-
  Contracts of functions and plain mathematics, text by text, each with its conditions ahead of it:
  Contract of what value.keys answers: a map's keys, each with what it has, one by one. Condition: the map's kids lie in memory that no round turns.
  Contract of value.Get: what a map has by a key, in new memory. Memory that was there stays. Condition: values of bulk at most 2^30.
  An append at a step of a region that draws, inside a fence (in a round as anywhere): step_append_lies' kin.
  Contracts of value's alike and allAlike, of values that may be. Memory that was there stays. Condition: values of bulk at most 2^30.
  Contract of value's allAlike, of values that may be. Memory that was there stays. Condition: values of bulk at most 2^30.
  Contract of value's rightKids, given keyTwice's. Memory that was there stays. Condition: values of bulk at most 2^30.
-/
import Derived.Test.YtcilmmdmkpnppaaGreatDoorY02
import Derived.Test.YtcilmmdmkpnppaaGreatDoorY03
import Derived.RangeFuncNested
import Derived.RangeFuncBound
import Derived.RangeFuncCalls
import Derived.RangeFuncLeaves
import Derived.RangeFuncBox
import Derived.Shelf.Abstract
import Derived.Shelf.RegionOpen
import Derived.WalkKit
import Derived.OwnWalkIn
import Derived.TacticsInMore
import Derived.LoopNIn
import Derived.LoopIn
import Derived.RegionIn
import Derived.Deep.AppendLies
import Derived.BigQuiet
import Derived.Deep.QuietTactic
section
namespace Go.Proofs.YtcilmmdmkpnppaaGreatDoor.Val
set_option maxRecDepth 100000
open Go.RowKit Go.Shelf Utf V
attribute [local go_sem] Oper.semAt_some
structure LV where
 k:Nat
 n:Nat
 t:ByteArray
 A:Option Addr
 l:Nat
 c:Nat
 ks:List V
def LV.val (x:LV):Value:=.agg #[.int .u8 x.k,.int .u64 x.n,.string x.t,.slice x.A x.l x.c]
def LV.v (x:LV):V:=.mk x.k x.n x.t x.ks
def LV.ok (w:World)(B:Nat)(x:LV):Prop:=x.k < 256∧x.n < 18446744073709551616∧bulkL x.ks≤1073741824∧Kids false w (fun i=>i < B) x.ks x.A x.l x.c
abbrev KV (w:World) (B:Nat):Type:={ p:LV×LV // p.1.ok w B∧p.2.ok w B }
def KV.vs {w:World}{B:Nat}(p:KV w B):V×V:=(p.1.1.v,p.1.2.v)
set_option maxHeartbeats 1000000 in
theorem keys_in (F:Fence)(n:Nat)(h6:F.fn 165)(hro:F.round=none)(k m:Nat)(t:ByteArray)(A:Option Addr)(l c:Nat)(w:World) :
  CallsIn F n Tryz.prog 165 #[.agg #[.int .u8 k,.int .u64 m,.string t,.slice A l c]] w fun e w'=>e=.returned (.func (.func 182) #[] #[.pointer (some ⟨w.heap.size,0,none⟩)])∧w.alloc (.cells #[.int .u8 k,.int .u64 m,.string t,.slice A l c] 44)=w':=by
 refine callsIn_of_wp Tryz.func165 rfl h6 ?_ hro;simp only[Tryz.ntmps165,List.size_toArray,List.length_cons,List.length_nil,Nat.reduceAdd,Nat.reduceSub,Array.replicate_succ,Array.replicate_zero,List.push_toArray,List.append_toArray,List.nil_append,List.cons_append]
 gi_wp2
 go_ret;exact⟨rfl,rfl⟩
theorem iter_drew (w:World):w.grownBy w.drew none:=⟨rfl,rfl,rfl,Nat.le_refl _,fun _ _ _=>rfl⟩
theorem kid_small {l:List V}{i:Nat}{k n:Nat}{t:ByteArray}{ks:List V}(h:bulkL l≤1073741824)(hx:l[i]? = some (.mk k n t ks)):bulkL ks≤1073741824:=by
 have h1:=at_bulk hx;have h2:=kids_bulk (.mk k n t ks);simp only[kids] at h2;omega
theorem drop_small {l:List V}{i:Nat}(h:bulkL l≤1073741824):bulkL (l.drop i)≤1073741824:=by
 have:=bulkL_append (l.take i) (l.drop i);rw[List.take_append_drop] at this;omega
theorem Kids.drop2 {own:Bool}{w:World}{P:Nat→Prop}{ks:List V}{b o l c:Nat}(h:Kids own w P ks (some ⟨b,o,none⟩) l c)(h2:l ≥ 2) :
  Kids own w P (ks.drop 2) (if c=2 then some ⟨b,o,none⟩ else some ⟨b,o+8,none⟩) (l - 2) (c - 2):=by
 have hc:=h.cap;have hl:=h.len;refine⟨by simp;omega,by omega,fun h0=>?_⟩;rw[if_neg (by omega)];obtain⟨b',o',e,hP,ho,hr⟩:=h.2.2 (by omega);simp only[Option.some.injEq,Addr.mk.injEq,and_true] at e;obtain⟨rfl,rfl⟩:=e;refine⟨b,o+8,rfl,hP,ho,?_⟩
 match ks,hl,hr with
 | [],hl,_=>simp at hl;omega
 | [_],hl,_=>simp at hl;omega
 | _::_::r,_,hr=>exact hr.2.2
theorem pairs_more {w:World}{B:Nat}{l:List (V×V)}{pre:List (KV w B)}{r:List (V×V)}{q:List (V×V)}{x:KV w B}(h:l=pre.map KV.vs++q)(hq:q=KV.vs x::r):l=(pre++[x]).map KV.vs++r:=by
 subst hq;rw[h];simp
theorem pre_more {w:World}{B:Nat}{l:List (V×V)}{pre:List (KV w B)}{r:List (V×V)}{q:List (V×V)}{x:KV w B}(h:l=pre.map KV.vs++q)(hq:q=KV.vs x::r):(pre++[x]).map KV.vs <+: l := 
 ⟨r,(pairs_more h hq).symm⟩
theorem one_way {e:Ending}{X Y:Prop}(h:(e=.returned (.bool true)∧X)∨(e=.returned (.bool false)∧Y)):∃ p:Bool,e=.returned (.bool p)∧(p=true→X)∧(p=false→Y):=by
 rcases h with ⟨h,hx⟩ | ⟨h,hy⟩
 ·exact⟨true,h,fun _=>hx,fun h=>by cases h⟩
 ·exact⟨false,h,fun h=>(by cases h),fun _=>hy⟩
set_option maxRecDepth 100000 in
set_option maxHeartbeats 400000 in
theorem iter_in (F:Fence)(n:Nat)(h6:F.fn 182)(hro:F.round=none)(hn:1≤n)(L Bn B:Nat)(w:World)(ks:List V)(A:Option Addr)(l c:Nat)(hN:bulkL ks≤1073741824)(hK:Kids false w (fun i=>i < B) ks A l c)(J Jx:List (KV w B)→World→Prop)(hJd:∀ pre W,J pre W→J pre W.drew)
  (hY:∀ pre x W,J pre W→pre.length < (pairsL ks).length→YieldAt F (n - 1) Tryz.prog L #[x.1.1.val,x.1.2.val] W fun e W'=>
   (e=.returned (.bool true)∧J (pre++[x]) W'∧Below B W W')∨(e=.returned (.bool false)∧Jx (pre++[x]) W'))
  (W:World) (hBn:W.cell? ⟨Bn,3,none⟩=some (.slice A l c)) (hL:Below B w W) (h0:J [] W) :
  CallsIn F n Tryz.prog 182 #[.func (.yield L) #[] #[],.pointer (some ⟨Bn,0,none⟩)] W fun e W'=>(∃ v,e=.returned v) ∧
   ((∃ ys:List (KV w B),ys.map KV.vs=pairsL ks∧J ys W')∨(∃ pre:List (KV w B),pre.map KV.vs <+: pairsL ks∧Jx pre W')):=by
 refine callsIn_of_wp Tryz.func182 rfl h6 ?_ hro;obtain⟨ffn,frd,fex⟩:=F
 dsimp only at hro
 subst hro;simp only[Tryz.ntmps182,List.size_toArray,List.length_cons,List.length_nil,Nat.reduceAdd,Nat.reduceSub,Array.replicate_succ,Array.replicate_zero,List.push_toArray,List.append_toArray,List.nil_append,List.cons_append]
 gi_wp2
 gi_loopw [3] (fun p wr=>∃ (pre:List (KV w B)) (rest:List V) (A1:Option Addr) (l1 c1:Nat),p=.slice A1 l1 c1∧pairsL ks=pre.map KV.vs++pairsL rest∧bulkL rest≤1073741824∧Kids false w (fun i=>i < B) rest A1 l1 c1∧J pre wr∧Below B w wr) (fun p _=>lenOf p)
 case atStart=>exact⟨[],ks,A,l,c,rfl,rfl,hN,hK,h0,hL⟩
 case round=>
  obtain⟨pre,rest,A1,l1,c1,rfl,hp,hN1,hK1,hJ,hb⟩:=hrel;have HP:=Lib.hid hp;clear hp;rcases Nat.lt_or_ge l1 2 with h2 | h2
  ·have hr:pairsL rest=[]:=by
    have:=hK1.len
    match rest,this with
    | [],_=>rfl
    | [_],_=>rfl
    | _::_::_,h=>simp at h;omega
   have HR:=Lib.hid hr;clear hr
   gi_wp2
   go_end0;exact⟨⟨_,rfl⟩,.inl ⟨pre,by rw[HP.out,HR.out,List.append_nil],hJ⟩⟩
  ·obtain⟨b,o,k1,n1,t1,ks1,B1,m1,d1,rfl,hb1,hx,a0,a1,a2,a3,a4,a5,aK⟩:=Kids.at_ hK1 (i:=0) (by omega);obtain⟨b',o',k2,n2,t2,ks2,B2,m2,d2,hAe,hb2,hy,v0,v1,v2,v3,v4,v5,vK⟩:=Kids.at_ hK1 (i:=1) (by omega);simp only[Option.some.injEq,Addr.mk.injEq,and_true] at hAe;obtain⟨rfl,rfl⟩:=hAe;simp only[Nat.zero_mul,Nat.add_zero,Nat.one_mul] at a0 a1 a2 a3 v0 v1 v2 v3;have hrest:rest=.mk k1 n1 t1 ks1::.mk k2 n2 t2 ks2::rest.drop 2:=by
    have e1:=drop_at hx;have e2:=drop_at hy;rw[List.drop_zero] at e1;rw[e2] at e1;exact e1
   have hpr:pairsL rest=(.mk k1 n1 t1 ks1,.mk k2 n2 t2 ks2)::pairsL (rest.drop 2):=by conv=>lhs;rw[hrest,pairsL]
   obtain⟨x,hx1,hx2,hxv⟩:∃ x:KV w B,x.1.1.val=.agg #[.int .u8 (k1:Int),.int .u64 (n1:Int),.string t1,.slice B1 m1 d1]∧x.1.2.val=.agg #[.int .u8 (k2:Int),.int .u64 (n2:Int),.string t2,.slice B2 m2 d2]∧KV.vs x=(.mk k1 n1 t1 ks1,.mk k2 n2 t2 ks2):=
    ⟨⟨(⟨k1,n1,t1,B1,m1,d1,ks1⟩,⟨k2,n2,t2,B2,m2,d2,ks2⟩),⟨a4,a5,kid_small hN1 hx,aK⟩,⟨v4,v5,kid_small hN1 hy,vK⟩⟩,rfl,rfl,rfl⟩
   rw[←hxv] at hpr;obtain⟨fn,tmps,assign,body,hy1,hR⟩:=hY pre x wr.drew (hJd _ _ hJ) (by rw[HP.out,hpr];simp);have HPR:=Lib.hid hpr;rw[hx1,hx2] at hy1;clear hx1 hx2 hxv;have HR1:=Lib.hid hR;have HY:=Lib.hid @hY;clear hR hY hJ;clear hx hy hrest hpr;have a0':=(hb.cell (p:=⟨b,o,none⟩) hb1).trans a0;have a1':=(hb.cell (p:=⟨b,o+1,none⟩) hb1).trans a1;have a2':=(hb.cell (p:=⟨b,o+2,none⟩) hb1).trans a2;have a3':=(hb.cell (p:=⟨b,o+3,none⟩) hb1).trans a3;have v0':=(hb.cell (p:=⟨b,o+4,none⟩) hb1).trans v0;have v1':=(hb.cell (p:=⟨b,o+4+1,none⟩) hb1).trans v1;have v2':=(hb.cell (p:=⟨b,o+4+2,none⟩) hb1).trans v2;have v3':=(hb.cell (p:=⟨b,o+4+3,none⟩) hb1).trans v3;clear a0 a1 a2 a3 v0 v1 v2 v3
   gi_wp2_with fail
   have hmx:Tryz.prog.follows .mixedOrders=true:=by kernel_rfl
   have HB:=Lib.hid hb;have HN:=Lib.hid (drop_small (i:=2) hN1);clear hN1;have HK:=Lib.hid hK1;clear hb hK1
   gi_region_with_o ((with_reducible (refine RoundIn.mono HR1.out ?_));intro e W3 hpo;obtain⟨p,hpe,hpp⟩:=one_way hpo;subst hpe;have HPP:=Lib.hid hpp;clear hpp hpo hy1 HR1)
   all_goals cases p
   all_goals (gi_wp2_with fail)
   all_goals try
     (have HJ:=HPP.out.1 (by first | exact trivial | rfl)
      obtain⟨hJ3,hb3⟩:=HJ;refine⟨⟨pre++[x],rest.drop 2,_,_,_,rfl,pairs_more HP.out HPR.out,HN.out,Kids.drop2 HK.out h2,hJ3,(HB.out.drew).trans hb3⟩,?_⟩;simp only[lenOf];omega)
   all_goals refine bodyPost_ret (results_none rfl _ _ _) rfl ?_
   all_goals exact⟨⟨_,rfl⟩,.inr ⟨pre++[x],pre_more HP.out HPR.out,HPP.out.2 (by first | exact trivial | rfl)⟩⟩
theorem iter_stops (F:Fence)(n:Nat)(h6:F.fn 182)(hro:F.round=none)(hn:1≤n)(Bn B:Nat)(w:World)(ks:List V)(A:Option Addr)(l c:Nat)(hN:bulkL ks≤1073741824)(hK:Kids false w (fun i=>i < B) ks A l c)
  (hB:B≤w.heap.size) (hb:Bn < w.heap.size) (hc:w.cell? ⟨Bn,3,none⟩=some (.slice A l c)) :
  SeqStopsK F n Tryz.prog 182 #[.pointer (some ⟨Bn,0,none⟩)] (fun x:KV w B=>#[x.1.1.val,x.1.2.val]) (Below B) (fun ys=>ys.map KV.vs=pairsL ks) (fun pre=>pre.map KV.vs <+: pairsL ks) (pairsL ks).length w:=fun L J Jx W hW hJ _ hY h0=>
 iter_in F n h6 hro hn L Bn B w ks A l c hN hK J Jx (fun pre W1 h=>hJ pre W1 W1.drew none h (iter_drew W1) (fun r e=>by cases e)) hY W ((hW.cell (p:=⟨Bn,3,none⟩) hb).trans hc) (hW.mono hB) h0
end Go.Proofs.YtcilmmdmkpnppaaGreatDoor.Val
end
section
namespace Go.Proofs.YtcilmmdmkpnppaaGreatDoor.Val
set_option maxRecDepth 100000
open Go.RowKit Go.Shelf Utf V
attribute [local go_sem] Oper.semAt_some
theorem Box.grown {w w':World}{g:Nat}{x0 x1 x2 x3:Value}{row:Option Nat}(h:Box w g x0 x1 x2 x3)(hg:w.grownBy w' row)(hr:∀ r,row=some r→∃ o:Obj,w.heap[r]? = some o∧o.isCells=false):Box w' g x0 x1 x2 x3:=
 (grownBy_keeps_cells hg hr h rfl).trans h
theorem below_keepsFrom {B:Nat}{W W':World}(h:Below W.heap.size W W'):KeepsFrom B W W':=⟨h.size,fun k _ _ hk _=>(h.block k (Array.getElem?_eq_some_iff.1 hk).1).trans hk⟩
theorem boxed_far {w:World}{g:Nat}{T:TypeId}{v:Value}(h:Boxed w g T v){p:Addr}(hp:g≠p.block)(u:Value):Boxed (w.setCell p u) g T v:=(Below.heap_setCell w p u g hp).trans h
theorem boxed_grown {w w':World}{g:Nat}{T:TypeId}{v:Value}{row:Option Nat}(h:Boxed w g T v)(hg:w.grownBy w' row)(hr:∀ r,row=some r→∃ o:Obj,w.heap[r]? = some o∧o.isCells=false):Boxed w' g T v:=boxed_own _ _ (fun(_:Unit)=>v) () _ _ row h hg hr
theorem boxed_below {B:Nat}{w w':World}{g:Nat}{T:TypeId}{v:Value}(h:Boxed w g T v)(hb:Below B w w')(hg:g < B):Boxed w' g T v:=(hb.block g hg).trans h
end Go.Proofs.YtcilmmdmkpnppaaGreatDoor.Val
namespace Go.Proofs.YtcilmmdmkpnppaaGreatDoor.Val
set_option maxRecDepth 100000
open Go.RowKit Go.Shelf
theorem stepIn_append_lies {F:Fence}{nn:Nat}{P:Program}(w:World){ops:Array Oper}{o:Oper}{a:Act}{K:Act→World→Prop}{Q:Exit→Act→World→Prop}{E:Prop}(hgd:o.guard=none)(s x:Operand)(t:TypeId)
  (ho:o.op=.call { callee:=.builtin .append,args:=#[s,x],argTypes:=#[t,t] })
  (base:Nat) (e:TypeId) (i:TypeInfo) (z:Value) (size bytes:Nat) (ht:P.underlying t=some (.slice e)) (hi:P.info? e=some i) (hz:i.zero=some z)
  (hsize:i.size=size) (hby:i.bytes=bytes) (hzs:z.cells.size=size) (hsz:0 < size)
  (v:Value) (n:Nat) (xs:List Value) (hs:a.eval s=v) (hown:w.ownsRow base e size v n xs)
  (ad:Addr) (m c:Nat) (news:List Value) (hx:a.eval x=.slice (some ad) m c) (hl:news.length=m * size) (hnews:∀ j u,news[j]? = some u→w.cell? (ad.add j)=some u) (h1:∀ u∈news,u.oneCell'=true)
  (hm:0 < m) (h63:n+m≤maxLen) (hbytes:(n+m) * bytes≤140737488355328) (hbase:base≤w.heap.size) (H:Nat) (hH:w.heap.size=H)
  (h:∀ g cap w',w'.ownsRow base e size (.slice (some ⟨g,0,none⟩) (n+m) cap) (n+m) (xs++news)→w.grownBy w' v.ownBlock→(v.ownBlock=some g∨g=H)→g < w'.heap.size→K (a.put o.dst (.slice (some ⟨g,0,none⟩) (n+m) cap)) w') :
  if Region.wanted o (yielded ops a.tmps)=true then Oper.wpIn F nn P o a w K Q else E:=by
 have hw:Region.wanted o (yielded ops a.tmps)=true:=by simp[Region.wanted,hgd]
 rw[if_pos hw];obtain⟨g,cap,w',hr,h2,h3,h4,h5⟩:=run_append_lies (P:=P) w t o.type base e i z size bytes ht hi hz hsize hby hzs hsz v n xs hown ad m c news hl hnews h1 hm h63 hbytes hbase H hH;unfold Oper.wpIn;refine⟨?_,?_⟩
 ·simp[Oper.about,ho,resolve,Target.leads,Sem.run_pure]
 ·rw[Oper.semAt_plain F _ _ (by rw[ho];intro c hc';cases hc')];simp[execOp,ho,resolve,invoke,builtin,hs,hx,hr,Result.andThen];exact h g cap w' h2 h3 h4 h5
end Go.Proofs.YtcilmmdmkpnppaaGreatDoor.Val
end
section
namespace Go.Proofs.YtcilmmdmkpnppaaGreatDoor.Val
set_option maxRecDepth 100000
open Go.RowKit Utf V
theorem Kd.of {w:World}{P:Nat→Prop}{ks:List V}{A:Option Addr}{l c:Nat}(h:Kids false w P ks A l c)(hP:∀ i,P i→i < w.heap.size):Kd w ks A l c:=h.mono hP
theorem Kids.two {own:Bool}{w:World}{P:Nat→Prop}{k n k' n':Nat}{t t':ByteArray}{ks ks':List V}{A:Option Addr}{l c:Nat}(h:Kids own w P [.mk k n t ks,.mk k' n' t' ks'] A l c):l=2∧∃ b o B1 l1 c1 B2 l2 c2,A=some ⟨b,o,none⟩∧P b ∧
  w.cell? ⟨b,o,none⟩=some (.int .u8 (k:Int))∧w.cell? ⟨b,o+1,none⟩=some (.int .u64 (n:Int))∧w.cell? ⟨b,o+2,none⟩=some (.string t)∧w.cell? ⟨b,o+3,none⟩=some (.slice B1 l1 c1)∧k < 256∧n < 18446744073709551616∧Kids own w P ks B1 l1 c1 ∧
  w.cell? ⟨b,o+4,none⟩=some (.int .u8 (k':Int))∧w.cell? ⟨b,o+4+1,none⟩=some (.int .u64 (n':Int))∧w.cell? ⟨b,o+4+2,none⟩=some (.string t')∧w.cell? ⟨b,o+4+3,none⟩=some (.slice B2 l2 c2)∧k' < 256∧n' < 18446744073709551616∧Kids own w P ks' B2 l2 c2:=by
 have hl:l=2:=h.len;subst hl;obtain⟨b,o,rfl,hb,_,hr⟩:=h.2.2 (by omega);obtain⟨r1,r2,_⟩:=hr;obtain⟨B1,l1,c1,a0,a1,a2,a3,a4,a5,a6⟩:=repV_iff.1 r1;obtain⟨B2,l2,c2,d0,d1,d2,d3,d4,d5,d6⟩:=repV_iff.1 r2;exact⟨rfl,b,o,B1,l1,c1,B2,l2,c2,rfl,hb,a0,a1,a2,a3,a4,a5,a6,d0,d1,d2,d3,d4,d5,d6⟩
set_option maxRecDepth 100000 in
set_option maxHeartbeats 1000000 in
theorem valike_any (k n:Nat)(t:ByteArray)(ks:List V)(A:Option Addr)(l c:Nat)(k' n':Nat)(t':ByteArray)(ks':List V)(A':Option Addr)(l' c':Nat)(w:World)(hN:bulkL ks≤1073741824)
  (hM:mayB (.mk k n t ks)=true) (hM':mayB (.mk k' n' t' ks')=true) (hK:Kd w ks A l c) (hK':Kd w ks' A' l' c') :
  Calls Tryz.prog 166 #[.agg #[.int .u8 k,.int .u64 n,.string t,.slice A l c],.agg #[.int .u8 k',.int .u64 n',.string t',.slice A' l' c']] w (GivesB (alikeB (.mk k n t ks) (.mk k' n' t' ks')) w):=by
 have hB:=two_boxes w (.cells #[.int .u8 k,.int .u64 n,.string t,.slice A l c] 44) (.cells #[.int .u8 k',.int .u64 n',.string t',.slice A' l' c'] 44);have hb1:=(Box.new w (.int .u8 k) (.int .u64 n) (.string t) (.slice A l c)).alloc (.cells #[.int .u8 k',.int .u64 n',.string t',.slice A' l' c'] 44);have hb2:=Box.new2 w (.cells #[.int .u8 k,.int .u64 n,.string t,.slice A l c] 44) (.int .u8 k') (.int .u64 n') (.string t') (.slice A' l' c');obtain⟨q,hq⟩:∃ q,alikeB (.mk k n t ks) (.mk k' n' t' ks')=q:=⟨_,rfl⟩;have HQ:=Lib.hid hq;rw[hq];clear hq;go_enter Tryz.func166,Tryz.ntmps166;go_wp2;go_loopg [4] (bulkL ks+1) (fun g s wr=>s=.bool false∧∃ (k1 n1:Nat) (t1:ByteArray) (ks1:List V) (A1:Option Addr) (l1 c1 k2 n2:Nat) (t2:ByteArray) (ks2:List V) (A2:Option Addr) (l2 c2:Nat),
  Box wr w.heap.size (.int .u8 k1) (.int .u64 n1) (.string t1) (.slice A1 l1 c1)∧Box wr (w.heap.size+1) (.int .u8 k2) (.int .u64 n2) (.string t2) (.slice A2 l2 c2)∧Kids false wr (fun i=>i < w.heap.size) ks1 A1 l1 c1∧Kids false wr (fun i=>i < w.heap.size) ks2 A2 l2 c2 ∧
  mayB (.mk k1 n1 t1 ks1)=true∧mayB (.mk k2 n2 t2 ks2)=true∧alikeB (.mk k1 n1 t1 ks1) (.mk k2 n2 t2 ks2)=q∧bulkL ks1 < g∧g≤1073741825∧Below w.heap.size w wr)
 case atStart=>exact⟨rfl,k,n,t,ks,A,l,c,k',n',t',ks',A',l',c',hb1,hb2,Kids.keep hK (fun i hi=>hB.block i hi),Kids.keep hK' (fun i hi=>hB.block i hi),hM,hM',HQ.out,by omega,by omega,hB⟩
 case round=>
  clear hM hM' hK hK' hN hb1 hb2 hB;obtain⟨rfl,k1,n1,t1,ks1,A1,l1,c1,k2,n2,t2,ks2,A2,l2,c2,hx,hy,hKx,hKy,hM1,hM2,hqq,hbk,hgk,hb⟩:=hrel;obtain⟨p0,p1,p2,p3,pf⟩:=hx.all;obtain⟨q0,q1,q2,q3,qf⟩:=hy.all;have hsz:w.heap.size+1 < wr.heap.size:=hy.lt;have HQ1:=Lib.hid hqq;clear hqq;by_cases e1:k1=25
  ·subst e1;by_cases e2:k2=25
   ·subst e2;obtain⟨⟨xk,xn,xt,xs⟩,⟨yk,yn,yt,ys⟩,rfl,_,hxm,hym⟩:=may_desc hM1;obtain⟨⟨xk',xn',xt',xs'⟩,⟨yk',yn',yt',ys'⟩,rfl,_,hxm',hym'⟩:=may_desc hM2;have hal:=HQ1.out;rw[alikeB_desc] at hal;have HAL:=Lib.hid hal;simp only[bulkL,bulk] at hbk;obtain⟨hl1,b,o,B1,m1,d1,B2,m2,d2,hA1,hbb,a0,a1,a2,a3,a4,a5,aK,v0,v1,v2,v3,v4,v5,vK⟩:=hKx.two;obtain⟨hl2,b',o',B1',m1',d1',B2',m2',d2',hA2,hbb',a0',a1',a2',a3',a4',a5',aK',v0',v1',v2',v3',v4',v5',vK'⟩:=hKy.two;subst hl1;subst hl2;subst hA1;subst hA2;have hne1:b≠w.heap.size:=by omega
    have hne2:b≠w.heap.size+1:=by omega
    have hne3:b'≠w.heap.size:=by omega
    have hne4:b'≠w.heap.size+1:=by omega
    have hbw:b < wr.heap.size:=by omega
    have hbw':b' < wr.heap.size:=by omega
    go_wp2_with fail;go_still_tail 8,(by kernel_rfl);go_wp2_with fail;refine(vsame_any xk xn xt xs B1 m1 d1 xk' xn' xt' xs' B1' m1' d1' wr.drew (by omega) (Kd.of aK (fun i hi=>by omega)).drew (Kd.of aK' (fun i hi=>by omega)).drew).mono ?_;rintro e w2 ⟨rfl,hb2⟩;have hx2:=hx.drew.call hb2;have hy2:=hy.drew.call hb2;obtain⟨r0,r1,r2,r3,rf⟩:=hx2.all;obtain⟨s0,s1,s2,s3,sf⟩:=hy2.all;have g0:=box_kept (wr:=wr.drew) v0 hb2 hbw;have g1:=box_kept (wr:=wr.drew) v1 hb2 hbw;have g2:=box_kept (wr:=wr.drew) v2 hb2 hbw;have g3:=box_kept (wr:=wr.drew) v3 hb2 hbw;have g0':=box_kept (wr:=wr.drew) v0' hb2 hbw';have g1':=box_kept (wr:=wr.drew) v1' hb2 hbw';have g2':=box_kept (wr:=wr.drew) v2' hb2 hbw';have g3':=box_kept (wr:=wr.drew) v3' hb2 hbw';have hb3:=below_next (wr:=wr.drew) hb.drew hb2;have hbo:Below w.heap.size wr w2:=((Below.refl _ wr).drew).trans (hb2.mono (by show w.heap.size≤wr.drew.heap.size;simp;omega));cases hs:same (.mk xk xn xt xs) (.mk xk' xn' xt' xs') with
    | false=>
     rw[hs,Bool.false_and] at HAL;clear hs;go_wp2;go_ret;exact⟨by rw[←HAL.out];rfl,hb3⟩
    | true=>
     rw[hs,Bool.true_and] at HAL;clear hs;go_wp2_with fail;go_region;have hb4:∀ (a b c d a' b' c' d':Value),Below w.heap.size w2 ((((((((w2.setCell ⟨w.heap.size,0,none⟩ a).setCell ⟨w.heap.size,1,none⟩ b).setCell ⟨w.heap.size,2,none⟩ c).setCell ⟨w.heap.size,3,none⟩ d).setCell ⟨w.heap.size+1,0,none⟩ a').setCell ⟨w.heap.size+1,1,none⟩ b').setCell ⟨w.heap.size+1,2,none⟩ c').setCell ⟨w.heap.size+1,3,none⟩ d').drew:=fun a b c d a' b' c' d'=>
      (below_set4 (below_set4 (Below.refl _ w2) (Nat.le_refl _) a b c d) (by omega) a' b' c' d').drew
     have hbo4:=fun a b c d a' b' c' d'=>hbo.trans (hb4 a b c d a' b' c' d');go_wp2;go_roundg (gk - 1)
     case measure=>omega
     case rel=>
      exact⟨rfl,yk,yn,yt,ys,B2,m2,d2,yk',yn',yt',ys',B2',m2',d2',((hx2.set4 _ _ _ _).far4 (by omega) _ _ _ _).drew,((hy2.far4 (by omega) _ _ _ _).set4 _ _ _ _).drew,
       vK.keep fun i hi=>(hbo4 _ _ _ _ _ _ _ _).block i hi,vK'.keep fun i hi=>(hbo4 _ _ _ _ _ _ _ _).block i hi,hym,hym',HAL.out,by omega,by omega,hb.trans (hbo4 _ _ _ _ _ _ _ _)⟩
   ·have d2:((k2:Int)==25)=false:=by rw[beq_eq_false_iff_ne];omega
    have d3:((25:Int)==(k2:Int))=false:=by rw[beq_eq_false_iff_ne];omega
    have HA:=Lib.hid (alikeB_kind (n:=n1) (n':=n2) (t:=t1) (t':=t2) (ks:=ks1) (ks':=ks2) (fun e:25=k2=>e2 e.symm));go_wp2;go_ret;exact⟨by rw[←HQ1.out,HA.out];rfl,hb⟩
  ·have d2:((k1:Int)==25)=false:=by rw[beq_eq_false_iff_ne];omega
   by_cases e3:k1=k2
   ·subst e3;have HA:=Lib.hid (alikeB_plain (n:=n1) (n':=n2) (t:=t1) (t':=t2) (ks:=ks1) (ks':=ks2) e1);go_wp2;go_ret;exact⟨by rw[←HQ1.out,HA.out];rfl,hb⟩
   ·have d3:((k1:Int)==(k2:Int))=false:=by rw[beq_eq_false_iff_ne];omega
    have HA:=Lib.hid (alikeB_kind (n:=n1) (n':=n2) (t:=t1) (t':=t2) (ks:=ks1) (ks':=ks2) e3);go_wp2;go_ret;exact⟨by rw[←HQ1.out,HA.out];rfl,hb⟩
end Go.Proofs.YtcilmmdmkpnppaaGreatDoor.Val
namespace Go.Proofs.YtcilmmdmkpnppaaGreatDoor.Val
set_option maxRecDepth 100000
open Go.RowKit Utf V
def allB:List V→Bool
 | []=>true
 | x::r=>r.all fun y=>alikeB x y
theorem allB_eq {x:V}{r:List V}(hx:mayB x=true):allB (x::r)=(x::r).all fun y=>alikeB x y:=by
 simp[allB,alikeB_refl x hx]
theorem all_take {f:V→Bool}{l:List V}{i:Nat}{v:V}(h:l[i]? = some v):(l.take (i+1)).all f=((l.take i).all f&&f v):=by
 rw[take_snoc h];simp
theorem all_no {f:V→Bool}{l:List V}{i:Nat}{v:V}(h:l[i]? = some v)(hv:f v=false):l.all f=false:=by
 cases hl:l.all f with
 | false=>rfl
 | true=>
  rw[List.all_eq_true] at hl;rw[hl v (List.mem_of_getElem? h)] at hv;cases hv
set_option maxRecDepth 100000 in
set_option maxHeartbeats 800000 in
theorem allAlike_any (ks:List V)(A:Option Addr)(l c:Nat)(w:World)(hN:bulkL ks≤1073741824)(hM:mayL ks=true)(hK:Kd w ks A l c) :
  Calls Tryz.prog 129 #[.slice A l c] w (GivesB (allB ks) w):=by
 have hl1:l≤ks.length:=Nat.le_of_eq hK.len;have hl2:ks.length≤l:=Nat.le_of_eq hK.len.symm;have hlb:=length_bulk ks;have HM:=Lib.hid hM;clear hM;go_enter Tryz.func129,Tryz.ntmps129;go_wp2;go_loopw [7] (fun i wr=>∃ j:Nat,j≤l∧i=.int .i64 j∧(∀ x,ks[0]? = some x→(ks.take j).all (fun y=>alikeB x y)=true)∧Below w.heap.size w wr) (fun i _=>l - (intOf i).toNat)
 case atStart=>exact⟨0,Nat.zero_le _,rfl,fun _ _=>rfl,Below.refl _ _⟩
 case round=>
  obtain⟨j,hj,rfl,hall,hb⟩:=hrel;have HALL:=Lib.hid hall;clear hall;by_cases hlt:j < l
  ·obtain⟨b,o,k1,n1,t1,ks1,A1,l1,c1,rfl,hb1,hx,h0,h1,h2,h3,hk1,hn1,hK1⟩:=(hK.call hb).at_ hlt;obtain⟨b',o',k2,n2,t2,ks2,A2,l2,c2,hAe,hb2,hx2,h0',h1',h2',h3',hk2,hn2,hK2⟩:=(hK.call hb).at_ (i:=0) (by omega);simp only[Option.some.injEq,Addr.mk.injEq,and_true] at hAe;obtain⟨rfl,rfl⟩:=hAe;simp only[Nat.zero_mul,Nat.add_zero] at h0' h1' h2' h3';have hbk:=at_bulk hx2;simp only[bulk] at hbk;have HX:=Lib.hid hx;have HX2:=Lib.hid hx2;have HB:=Lib.hid (Box.new wr (.int .u8 k1) (.int .u64 n1) (.string t1) (.slice A1 l1 c1));have hs:=hb.size;have hl0:0 < l:=by omega
   clear hx hx2;obtain⟨W1,hW1⟩:∃ W1,W1=wr.alloc (.cells #[.int .u8 k1,.int .u64 n1,.string t1,.slice A1 l1 c1] 44):=⟨_,rfl⟩;have hbW:Below wr.heap.size wr W1:=by rw[hW1];exact(Below.refl _ _).alloc (Nat.le_refl _) _
   have hBW:=HB.out;rw[←hW1] at hBW;obtain⟨x0,x1,x2,x3,_⟩:=hBW.all;have y0:=box_kept h0' hbW hb2;have y1:=box_kept h1' hbW hb2;have y2:=box_kept h2' hbW hb2;have y3:=box_kept h3' hbW hb2;go_wp2_with fail;rw[←hW1];clear hW1;go_still_tail 4,(by kernel_rfl);go_wp2_with fail;refine(valike_any k2 n2 t2 ks2 A2 l2 c2 k1 n1 t1 ks1 A1 l1 c1 W1.drew (by omega) (mayL_mem HM.out _ (List.mem_of_getElem? HX2.out)) (mayL_mem HM.out _ (List.mem_of_getElem? HX.out)) (hK2.call hbW).drew (hK1.call hbW).drew).mono ?_;rintro e w2 ⟨rfl,hb3⟩;have hb4:=below_next (wr:=W1.drew) ((below_next hb hbW).drew) hb3;cases hq:alikeB (.mk k2 n2 t2 ks2) (.mk k1 n1 t1 ks1) with
   | true=>
    have HQ:=Lib.hid hq;clear hq;go_wp2;go_roundw
    case rel=>
     refine⟨j+1,by omega,by go_num,fun x hx=>?_,hb4⟩;rw[all_take HX.out,HALL.out x hx];rw[HX2.out] at hx;injection hx with hx
     rw[←hx,HQ.out];rfl
    case measure=>simp[intOf];omega
   | false=>
    have HQ:=Lib.hid hq;clear hq;go_wp2;go_ret;refine⟨?_,hb4⟩;cases ks with
    | nil=>have:=HX2.out;simp at this
    | cons x r=>
     have hx0:x=.mk k2 n2 t2 ks2:=by have:=HX2.out;simpa using this
     rw[allB_eq (mayL_mem HM.out x (by simp)),all_no HX.out (by rw[hx0];exact HQ.out)];rfl
  ·have HE:Hid (ks.take j=ks):=Lib.hid (List.take_of_length_le (by omega));go_wp2;go_ret;refine⟨?_,hb⟩;cases ks with
   | nil=>rfl
   | cons x r=>
    have:=HALL.out x rfl;rw[HE.out] at this;rw[allB_eq (mayL_mem HM.out x (by simp)),this];rfl
end Go.Proofs.YtcilmmdmkpnppaaGreatDoor.Val
namespace Go.Proofs.YtcilmmdmkpnppaaGreatDoor.Val
set_option maxRecDepth 100000
open Go.RowKit Utf V
def TwiceAny:Prop:=∀ (k n:Nat) (t:ByteArray) (ks:List V) (A:Option Addr) (l c:Nat) (w:World),bulkL ks≤1073741824→Kd w ks A l c →
  Calls Tryz.prog 128 #[.agg #[.int .u8 k,.int .u64 n,.string t,.slice A l c]] w (GivesB (!noDup (keysL ks)) w)
theorem two_of {ks:List V}(h:2=ks.length):∃ x y,ks=[x,y]:=
 match ks,h with
 | [a,b],_=>⟨a,b,rfl⟩
theorem kidsOk_23 {ks:List V}:kidsOk 23 ks=(decide (ks.length % 2=0)&&noDup (keysL ks)):=by simp[kidsOk]
theorem kidsOk_24 {ks:List V}:kidsOk 24 ks=allB ks:=by
 cases ks<;>simp[kidsOk,allB]
theorem kidsOk_else {k:Nat}{ks:List V}(h1:k≠23)(h2:k≠24)(h3:k≠25):kidsOk k ks=true:=by simp[kidsOk,h1,h2,h3]
set_option maxRecDepth 100000 in
set_option maxHeartbeats 800000 in
theorem rightKids_of (hT:TwiceAny)(k n:Nat)(t:ByteArray)(ks:List V)(A:Option Addr)(l c:Nat)(w:World)(hN:bulkL ks≤1073741824)(hM:mayL ks=true)(hK:Kd w ks A l c) :
  Calls Tryz.prog 97 #[.agg #[.int .u8 k,.int .u64 n,.string t,.slice A l c]] w (GivesB (kidsOk k ks) w):=by
 have hB:Below w.heap.size w (w.alloc (.cells #[.int .u8 k,.int .u64 n,.string t,.slice A l c] 44)):=(Below.refl _ _).alloc (Nat.le_refl _) _;have HL:=Lib.hid hK.len;have hll:l≤ks.length:=Nat.le_of_eq hK.len;have hlb:=length_bulk ks;go_enter Tryz.func97,Tryz.ntmps97;by_cases h23:k=23
 ·subst h23;have HT:=Lib.hid (hT 23 n t ks A l c _ hN (hK.alloc (.cells #[.int .u8 (23:Nat),.int .u64 n,.string t,.slice A l c] 44)));by_cases h2:l % 2=0
  ·have hm:(l:Int) % 2=0:=by omega
   cases hq:noDup (keysL ks) with
   | true=>
    have HQ:=Lib.hid hq;clear hq;go_wp2_with fail;refine HT.out.mono ?_;rw[HQ.out];rintro e w1 ⟨rfl,hb1⟩;have hb2:=below_next hB hb1;go_wp2;go_ret;exact⟨by rw[kidsOk_23,←HL.out,decide_eq_true h2,HQ.out];rfl,hb2⟩
   | false=>
    have HQ:=Lib.hid hq;clear hq;go_wp2_with fail;refine HT.out.mono ?_;rw[HQ.out];rintro e w1 ⟨rfl,hb1⟩;have hb2:=below_next hB hb1;go_wp2;go_ret;exact⟨by rw[kidsOk_23,←HL.out,decide_eq_true h2,HQ.out];rfl,hb2⟩
  ·have hm:((l:Int) % 2==0)=false:=by rw[beq_eq_false_iff_ne];omega
   go_wp2_with fail;go_ret;exact⟨by rw[kidsOk_23,←HL.out,decide_eq_false h2];rfl,hB⟩
 ·by_cases h24:k=24
  ·subst h24;go_wp2_with fail;refine(allAlike_any ks A l c _ hN hM (hK.alloc _)).mono ?_;rintro e w1 ⟨rfl,hb1⟩;go_wp2;go_ret;exact⟨by rw[kidsOk_24];rfl,below_next hB hb1⟩
  ·by_cases h25:k=25
   ·subst h25;by_cases h2:l=2
    ·subst h2;obtain⟨⟨xk,xn,xt,xs⟩,⟨yk,yn,yt,ys⟩,rfl⟩:∃ x y,ks=[x,y]:=two_of HL.out;clear HL hll hlb;obtain⟨_,b,o,B1,l1,c1,B2,l2,c2,rfl,hb,a0,a1,a2,a3,a4,a5,aK,d0,d1,d2,d3,d4,d5,dK⟩:=hK.two;clear d0 d1 d2 d3 dK aK hK;have b0:=Box.new w (.int .u8 (25:Nat)) (.int .u64 n) (.string t) (.slice (some ⟨b,o,none⟩) 2 c);obtain⟨W0,hW0⟩:∃ W0,w.alloc (.cells #[.int .u8 (25:Nat),.int .u64 n,.string t,.slice (some ⟨b,o,none⟩) 2 c] 44)=W0:=⟨_,rfl⟩;rw[hW0] at b0 hB;obtain⟨p0,p1,p2,p3,pf⟩:=b0.all;have y0:=(hB.cell (p:=⟨b,o,none⟩) hb).trans a0;have y1:=(hB.cell (p:=⟨b,o+1,none⟩) hb).trans a1;have y2:=(hB.cell (p:=⟨b,o+2,none⟩) hb).trans a2;have y3:=(hB.cell (p:=⟨b,o+3,none⟩) hb).trans a3;simp only[Int.cast_ofNat_Int] at hW0 p0;have hlt:0 < (2:Nat):=by omega
     go_wp2_with fail;refine(isName_any xk xn xt B1 l1 c1 _).mono ?_;rintro e w1 ⟨rfl,hb1⟩;have hb2:=below_next hB hb1;go_wp2;go_ret;exact⟨by simp[kidsOk,kind],hb2⟩
    ·have hm:((l:Int)==2)=false:=by rw[beq_eq_false_iff_ne];omega
     go_wp2_with fail;go_ret;refine⟨?_,hB⟩;have hlen:=HL.out
     match ks,hlen with
     | [],_=>simp[kidsOk]
     | [_],_=>simp[kidsOk]
     | [_,_],hlen=>simp at hlen;omega
     | _::_::_::_,_=>simp[kidsOk]
   ·have d1:((k:Int)==23)=false:=by simp;omega
    have d2:((k:Int)==24)=false:=by simp;omega
    have d3:((k:Int)==25)=false:=by simp;omega
    go_wp2_with fail;go_ret;exact⟨by rw[kidsOk_else h23 h24 h25];rfl,hB⟩
end Go.Proofs.YtcilmmdmkpnppaaGreatDoor.Val
end
