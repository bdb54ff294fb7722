/- Contracts, each with its premises. -/
import Derived.Test.YtbbbanfggcediaaGreatDoorY02
import Derived.Test.YtbbbanfggcediaaGreatDoorY03
import Derived.RangeFuncNested
import Derived.RangeFuncBound
import Derived.RangeFuncCalls
import Derived.RangeFuncLeaves
import Derived.RangeFuncBox
import Derived.Shelf.Abstract
import Derived.Shelf.RegionOpen
import Derived.OwnWalkIn
import Derived.TacticsInMore
import Derived.LoopNIn
import Derived.LoopIn
import Derived.RegionIn
set_option maxRecDepth 100000
set_option maxHeartbeats 8000000
namespace Go.Proofs.YtbbbanfggcediaaGreatDoor
open _root_.Go.Proofs.Tryz
open Nat renaming add_zero→ya8
open Option renaming some.injEq→ya6
open List renaming length_cons→ya5,length_nil→ya7,cons_append→ya9,nil_append→yba
namespace Val
open Go.RowKit Go.Shelf Utf V
attribute [local go_sem] Oper.semAt_some
structure LV where
 k:Nat
 n:Nat
 t:ByteArray
 A:Oz
 l:Nat
 c:Nat
 ks:List V
def LV.val (x:LV):Value:=.agg #[.int .u8 x.k,.int .u64 x.n,.string x.t,.slice x.A x.l x.c]
def LV.v (x:LV):V:=.mk x.k x.n x.t x.ks
def LV.ok (w:World)(B:Nat)(x:LV):Prop:=x.k < 256∧x.n < 18446744073709551616∧zai x.ks≤1073741824∧Kids false w (fun i=>i < B) x.ks x.A x.l x.c
abbrev KV (w:World) (B:Nat):Type:={ p:LV×LV // p.1.ok w B∧p.2.ok w B }
def KV.vs {w:World}{B:Nat}(p:KV w B):V×V:=(p.1.1.v,p.1.2.v)
theorem zr7 (F:Fence)(n:Nat)(h6:F.fn 153)(qJ:F.round=none)(k m:Nat)(t:ByteArray)(A:Oz)(l c:Nat)(w:World) :
  CallsIn F n prog 153 #[.agg #[.int .u8 k,.int .u64 m,.string t,.slice A l c]] w fun e w'=>e=.returned (.func (.func 158) #[] #[.pointer (some ⟨w.heap.size,0,none⟩)])∧w.alloc (.cells #[.int .u8 k,.int .u64 m,.string t,.slice A l c] 43)=w':=by
 refine callsIn_of_wp func153 rfl h6 ?_ qJ;simp only[ntmps153,List.size_toArray,ya5,ya7,Nat.reduceAdd,Nat.reduceSub,Array.replicate_succ,Array.replicate_zero,List.push_toArray,List.append_toArray,yba,ya9]
 gi_wp2
 go_ret;exact⟨rfl,rfl⟩
theorem zmU (w:World):w.grownBy w.drew none:=⟨rfl,rfl,rfl,zab,fun _ _ _=>rfl⟩
theorem zip {l:List V}{i:Nat}{k n:Nat}{t:ByteArray}{ks:List V}(h:zai l≤1073741824)(hx:l[i]? = some (.mk k n t ks)):zai ks≤1073741824:=by
 have h1:=zcT hx;have h2:=zfP (.mk k n t ks);simp only[kids] at h2;omega
theorem zlG {l:List V}{i:Nat}(h:zai l≤1073741824):zai (l.drop i)≤1073741824:=by
 have:=zh9 (l.take i) (l.drop i);rw[List.take_append_drop] at this;omega
theorem Kids.drop2 {own:Bool}{w:World}{P:Nat→Prop}{ks:List V}{b o l c:Nat}(h:Kids own w P ks (some ⟨b,o,none⟩) l c)(h2:l ≥ 2) :
  Kids own w P (ks.drop 2) (if c=2 then some ⟨b,o,none⟩ else some ⟨b,o+8,none⟩) (l - 2) (c - 2):=by
 have hc:=h.cap;have hl:=h.len;refine⟨by simp;omega,by omega,fun h0=>?_⟩;rw[if_neg (by omega)];obtain⟨b',o',e,hP,ho,hr⟩:=h.2.2 (by omega);simp only[ya6,Addr.mk.injEq,and_true] at e;obtain⟨rfl,rfl⟩:=e;refine⟨b,o+8,rfl,hP,ho,?_⟩
 match ks,hl,hr with
 | [],hl,_=>simp at hl;omega
 | [_],hl,_=>simp at hl;omega
 | _::_::r,_,hr=>exact hr.2.2
theorem zgM {w:World}{B:Nat}{l:List (V×V)}{pre:List (KV w B)}{r:List (V×V)}{q:List (V×V)}{x:KV w B}(h:l=pre.map KV.vs++q)(hq:q=KV.vs x::r):l=(pre++[x]).map KV.vs++r:=by
 subst hq;rw[h];simp
theorem zpN {w:World}{B:Nat}{l:List (V×V)}{pre:List (KV w B)}{r:List (V×V)}{q:List (V×V)}{x:KV w B}(h:l=pre.map KV.vs++q)(hq:q=KV.vs x::r):(pre++[x]).map KV.vs <+: l := 
 ⟨r,(zgM h hq).symm⟩
theorem zr8 {e:Ending}{X Y:Prop}(h:(e=.returned (.bool true)∧X)∨(e=.returned (.bool false)∧Y)):∃ p:Bool,e=.returned (.bool p)∧(p=true→X)∧(p=false→Y):=by
 rcases h with ⟨h,hx⟩ | ⟨h,hy⟩
 ·exact⟨true,h,fun _=>hx,fun h=>by cases h⟩
 ·exact⟨false,h,fun h=>(by cases h),fun _=>hy⟩
theorem zr9 (F:Fence)(n:Nat)(h6:F.fn 158)(qJ:F.round=none)(hn:1≤n)(L Bn B:Nat)(w:World)(ks:List V)(A:Oz)(l c:Nat)(hN:zai ks≤1073741824)(hK:Kids false w (fun i=>i < B) ks A l c)(J Jx:List (KV w B)→World→Prop)(hJd:∀ pre W,J pre W→J pre W.drew)
  (hY:∀ pre x W,J pre W→pre.length < (zbJ ks).length→YieldAt F (n - 1) prog L #[x.1.1.val,x.1.2.val] W fun e W'=>
   (e=.returned (.bool true)∧J (pre++[x]) W'∧Below B W W')∨(e=.returned (.bool false)∧Jx (pre++[x]) W'))
  (W:World) (hBn:W.cell? ⟨Bn,3,none⟩=some (.slice A l c)) (hL:Below B w W) (h0:J [] W) :
  CallsIn F n prog 158 #[.func (.yield L) #[] #[],.pointer (some ⟨Bn,0,none⟩)] W fun e W'=>(∃ v,e=.returned v) ∧
   ((∃ ys:List (KV w B),ys.map KV.vs=zbJ ks∧J ys W')∨(∃ pre:List (KV w B),pre.map KV.vs <+: zbJ ks∧Jx pre W')):=by
 refine callsIn_of_wp func158 rfl h6 ?_ qJ;obtain⟨ffn,frd,fex⟩:=F
 dsimp only at qJ
 subst qJ;simp only[ntmps158,List.size_toArray,ya5,ya7,Nat.reduceAdd,Nat.reduceSub,Array.replicate_succ,Array.replicate_zero,List.push_toArray,List.append_toArray,yba,ya9]
 gi_wp2
 gi_loopw [3] (fun p wr=>∃ (pre:List (KV w B)) (rest:List V) (A1:Oz) (l1 c1:Nat),p=.slice A1 l1 c1∧zbJ ks=pre.map KV.vs++zbJ rest∧zai rest≤1073741824∧Kids false w (fun i=>i < B) rest A1 l1 c1∧J pre wr∧Below B w wr) (fun p _=>lenOf p)
 case atStart=>exact⟨[],ks,A,l,c,rfl,rfl,hN,hK,h0,hL⟩
 case round=>
  obtain⟨pre,rest,A1,l1,c1,rfl,hp,JO,kK,hJ,hb⟩:=hrel;have HP:=zaa hp;clear hp;rcases Nat.lt_or_ge l1 2 with h2 | h2
  ·have hr:zbJ rest=[]:=by
    have:=kK.len
    match rest,this with
    | [],_=>rfl
    | [_],_=>rfl
    | _::_::_,h=>simp at h;omega
   have HR:=zaa hr;clear hr
   gi_wp2
   go_end0;exact⟨⟨_,rfl⟩,.inl ⟨pre,by rw[HP.out,HR.out,List.append_nil],hJ⟩⟩
  ·obtain⟨b,o,k1,n1,t1,ks1,B1,m1,d1,rfl,Ha,hx,a0,a1,a2,a3,a4,a5,aK⟩:=Kids.at_ kK (i:=0) (by omega);obtain⟨b',o',k2,n2,t2,ks2,B2,m2,d2,xj,He,hy,v0,v1,v2,v3,v4,v5,vK⟩:=Kids.at_ kK (i:=1) (by omega);simp only[ya6,Addr.mk.injEq,and_true] at xj;obtain⟨rfl,rfl⟩:=xj;simp only[Nat.zero_mul,ya8,Nat.one_mul] at a0 a1 a2 a3 v0 v1 v2 v3;have gP:rest=.mk k1 n1 t1 ks1::.mk k2 n2 t2 ks2::rest.drop 2:=by
    have e1:=zbB hx;have e2:=zbB hy;rw[List.drop_zero] at e1;rw[e2] at e1;exact e1
   have UY:zbJ rest=(.mk k1 n1 t1 ks1,.mk k2 n2 t2 ks2)::zbJ (rest.drop 2):=by conv=>lhs;rw[gP,zbJ]
   obtain⟨x,GJ,GQ,hxv⟩:∃ x:KV w B,x.1.1.val=.agg #[.int .u8 (k1:Int),.int .u64 (n1:Int),.string t1,.slice B1 m1 d1]∧x.1.2.val=.agg #[.int .u8 (k2:Int),.int .u64 (n2:Int),.string t2,.slice B2 m2 d2]∧KV.vs x=(.mk k1 n1 t1 ks1,.mk k2 n2 t2 ks2):=
    ⟨⟨(⟨k1,n1,t1,B1,m1,d1,ks1⟩,⟨k2,n2,t2,B2,m2,d2,ks2⟩),⟨a4,a5,zip JO hx,aK⟩,⟨v4,v5,zip JO hy,vK⟩⟩,rfl,rfl,rfl⟩
   rw[←hxv] at UY;obtain⟨fn,tmps,assign,body,UZ,hR⟩:=hY pre x wr.drew (hJd _ _ hJ) (by rw[HP.out,UY];simp);have HPR:=zaa UY;rw[GJ,GQ] at UZ;clear GJ GQ hxv;have xm:=zaa hR;have HY:=zaa @hY;clear hR hY hJ;clear hx hy gP UY;have a0':=(hb.cell (p:=⟨b,o,none⟩) Ha).trans a0;have a1':=(hb.cell (p:=⟨b,o+1,none⟩) Ha).trans a1;have a2':=(hb.cell (p:=⟨b,o+2,none⟩) Ha).trans a2;have a3':=(hb.cell (p:=⟨b,o+3,none⟩) Ha).trans a3;have v0':=(hb.cell (p:=⟨b,o+4,none⟩) Ha).trans v0;have v1':=(hb.cell (p:=⟨b,o+4+1,none⟩) Ha).trans v1;have v2':=(hb.cell (p:=⟨b,o+4+2,none⟩) Ha).trans v2;have v3':=(hb.cell (p:=⟨b,o+4+3,none⟩) Ha).trans v3;clear a0 a1 a2 a3 v0 v1 v2 v3
   gi_wp2_with fail
   have Vd:prog.follows .mixedOrders=true:=by kernel_rfl
   have HB:=zaa hb;have HN:=zaa (zlG (i:=2) JO);clear JO;have HK:=zaa kK;clear hb kK
   gi_region_with_o ((with_reducible (refine RoundIn.mono xm.out ?_));intro e W3 hpo;obtain⟨p,hpe,Yb⟩:=zr8 hpo;subst hpe;have YR:=zaa Yb;clear Yb hpo UZ xm)
   all_goals cases p
   all_goals (gi_wp2_with fail)
   all_goals try
     (have HJ:=YR.out.1 (by first | exact trivial | rfl)
      obtain⟨hJ3,Hj⟩:=HJ;refine⟨⟨pre++[x],rest.drop 2,_,_,_,rfl,zgM HP.out HPR.out,HN.out,Kids.drop2 HK.out h2,hJ3,(HB.out.drew).trans Hj⟩,?_⟩;simp only[lenOf];omega)
   all_goals refine bodyPost_ret (results_none rfl _ _ _) rfl ?_
   all_goals exact⟨⟨_,rfl⟩,.inr ⟨pre++[x],zpN HP.out HPR.out,YR.out.2 (by first | exact trivial | rfl)⟩⟩
theorem zlH (F:Fence)(n:Nat)(h6:F.fn 158)(qJ:F.round=none)(hn:1≤n)(Bn B:Nat)(w:World)(ks:List V)(A:Oz)(l c:Nat)(hN:zai ks≤1073741824)(hK:Kids false w (fun i=>i < B) ks A l c)
  (hB:B≤w.heap.size) (hb:Bn < w.heap.size) (hc:w.cell? ⟨Bn,3,none⟩=some (.slice A l c)) :
  SeqStopsK F n prog 158 #[.pointer (some ⟨Bn,0,none⟩)] (fun x:KV w B=>#[x.1.1.val,x.1.2.val]) (Below B) (fun ys=>ys.map KV.vs=zbJ ks) (fun pre=>pre.map KV.vs <+: zbJ ks) (zbJ ks).length w:=fun L J Jx W hW hJ _ hY h0=>
 zr9 F n h6 qJ hn L Bn B w ks A l c hN hK J Jx (fun pre W1 h=>hJ pre W1 W1.drew none h (zmU W1) (fun r e=>by cases e)) hY W ((hW.cell (p:=⟨Bn,3,none⟩) hb).trans hc) (hW.mono hB) h0
attribute [local go_sem] Oper.semAt_some
theorem Box.grown {w w':World}{g:Nat}{x0 x1 x2 x3:Value}{row:Option Nat}(h:Box w g x0 x1 x2 x3)(hg:w.grownBy w' row)(hr:∀ r,row=some r→∃ o:Obj,w.heap[r]? = some o∧o.isCells=false):Box w' g x0 x1 x2 x3:=
 (grownBy_keeps_cells hg hr h rfl).trans h
theorem zcl {B:Nat}{W W':World}(h:Below W.heap.size W W'):KeepsFrom B W W':=⟨h.size,fun k _ _ hk _=>(h.block k (Array.getElem?_eq_some_iff.1 hk).1).trans hk⟩
theorem zan {w:World}{g:Nat}{T:TypeId}{v:Value}(h:Boxed w g T v){p:Addr}(hp:g≠p.block)(u:Value):Boxed (w.setCell p u) g T v:=(Below.heap_setCell w p u g hp).trans h
theorem zjO {w w':World}{g:Nat}{T:TypeId}{v:Value}{row:Option Nat}(h:Boxed w g T v)(hg:w.grownBy w' row)(hr:∀ r,row=some r→∃ o:Obj,w.heap[r]? = some o∧o.isCells=false):Boxed w' g T v:=boxed_own _ _ (fun(_:Unit)=>v) () _ _ row h hg hr
theorem zbp {B:Nat}{w w':World}{g:Nat}{T:TypeId}{v:Value}(h:Boxed w g T v)(hb:Below B w w')(hg:g < B):Boxed w' g T v:=(hb.block g hg).trans h
end Val
namespace Val
open Go.RowKit Go.Shelf
theorem zay {F:Fence}{nn:Nat}{P:Program}(w:World){ops:Array Oper}{o:Oper}{a:Act}{K:Act→World→Prop}{Q:Exit→Act→World→Prop}{E:Prop}(jE:o.guard=none)(s x:Operand)(t:TypeId)
  (ho:o.op=.call { callee:=.builtin .append,args:=#[s,x],argTypes:=#[t,t] })
  (base:Nat) (e:TypeId) (i:TypeInfo) (z:Value) (size bytes:Nat) (ht:P.underlying t=some (.slice e)) (hi:P.info? e=some i) (hz:i.zero=some z)
  (gX:i.size=size) (KO:i.bytes=bytes) (hzs:z.cells.size=size) (Hu:0 < size)
  (v:Value) (n:Nat) (xs:List Value) (hs:a.eval s=v) (Hf:w.ownsRow base e size v n xs)
  (ad:Addr) (m c:Nat) (news:List Value) (hx:a.eval x=.slice (some ad) m c) (hl:news.length=m * size) (kv:∀ j u,news[j]? = some u→w.cell? (ad.add j)=some u) (h1:∀ u∈news,u.oneCell'=true)
  (hm:0 < m) (Qw:n+m≤maxLen) (Gt:(n+m) * bytes≤140737488355328) (Hy:base≤w.heap.size) (H:Nat) (hH:w.heap.size=H)
  (h:∀ g cap w',w'.ownsRow base e size (.slice (some ⟨g,0,none⟩) (n+m) cap) (n+m) (xs++news)→w.grownBy w' v.ownBlock→(v.ownBlock=some g∨g=H)→g < w'.heap.size→K (a.put o.dst (.slice (some ⟨g,0,none⟩) (n+m) cap)) w') :
  if Region.wanted o (yielded ops a.tmps)=true then Oper.wpIn F nn P o a w K Q else E:=by
 have hw:Region.wanted o (yielded ops a.tmps)=true:=by simp[Region.wanted,jE]
 rw[if_pos hw];obtain⟨g,cap,w',hr,h2,h3,h4,h5⟩:=run_append_lies (P:=P) w t o.type base e i z size bytes ht hi hz gX KO hzs Hu v n xs Hf ad m c news hl kv h1 hm Qw Gt Hy H hH;unfold Oper.wpIn;refine⟨?_,?_⟩
 ·simp[Oper.about,ho,resolve,Target.leads,Sem.run_pure]
 ·rw[Oper.semAt_plain F _ _ (by rw[ho];intro c xX;cases xX)];simp[execOp,ho,resolve,invoke,builtin,hs,hx,hr,Result.andThen];exact h g cap w' h2 h3 h4 h5
end Val
namespace Val
open Go.RowKit Utf V
theorem Kd.of {w:World}{P:Nat→Prop}{ks:List V}{A:Oz}{l c:Nat}(h:Kids false w P ks A l c)(hP:∀ i,P i→i < w.heap.size):Kd w ks A l c:=h.mono hP
theorem Kids.two {own:Bool}{w:World}{P:Nat→Prop}{k n k' n':Nat}{t t':ByteArray}{ks ks':List V}{A:Oz}{l c:Nat}(h:Kids own w P [.mk k n t ks,.mk k' n' t' ks'] A l c):l=2∧∃ b o B1 l1 c1 B2 l2 c2,A=some ⟨b,o,none⟩∧P b ∧
  w.cell? ⟨b,o,none⟩=some (.int .u8 (k:Int))∧w.cell? ⟨b,o+1,none⟩=some (.int .u64 (n:Int))∧w.cell? ⟨b,o+2,none⟩=some (.string t)∧w.cell? ⟨b,o+3,none⟩=some (.slice B1 l1 c1)∧k < 256∧n < 18446744073709551616∧Kids own w P ks B1 l1 c1 ∧
  w.cell? ⟨b,o+4,none⟩=some (.int .u8 (k':Int))∧w.cell? ⟨b,o+4+1,none⟩=some (.int .u64 (n':Int))∧w.cell? ⟨b,o+4+2,none⟩=some (.string t')∧w.cell? ⟨b,o+4+3,none⟩=some (.slice B2 l2 c2)∧k' < 256∧n' < 18446744073709551616∧Kids own w P ks' B2 l2 c2:=by
 have hl:l=2:=h.len;subst hl;obtain⟨b,o,rfl,hb,_,hr⟩:=h.2.2 (by omega);obtain⟨r1,r2,_⟩:=hr;obtain⟨B1,l1,c1,a0,a1,a2,a3,a4,a5,a6⟩:=zbd.1 r1;obtain⟨B2,l2,c2,d0,d1,d2,d3,d4,d5,d6⟩:=zbd.1 r2;exact⟨rfl,b,o,B1,l1,c1,B2,l2,c2,rfl,hb,a0,a1,a2,a3,a4,a5,a6,d0,d1,d2,d3,d4,d5,d6⟩
theorem zlI (k n:Nat)(t:ByteArray)(ks:List V)(A:Oz)(l c:Nat)(k' n':Nat)(t':ByteArray)(ks':List V)(A':Oz)(l' c':Nat)(w:World)(hN:zai ks≤1073741824)
  (hM:mayB (.mk k n t ks)=true) (Xl:mayB (.mk k' n' t' ks')=true) (hK:Kd w ks A l c) (gV:Kd w ks' A' l' c') :
  Calls prog 154 #[.agg #[.int .u8 k,.int .u64 n,.string t,.slice A l c],.agg #[.int .u8 k',.int .u64 n',.string t',.slice A' l' c']] w (zaj (zbb (.mk k n t ks) (.mk k' n' t' ks')) w):=by
 have hB:=zaw w (.cells #[.int .u8 k,.int .u64 n,.string t,.slice A l c] 43) (.cells #[.int .u8 k',.int .u64 n',.string t',.slice A' l' c'] 43);have Ha:=(Box.new w (.int .u8 k) (.int .u64 n) (.string t) (.slice A l c)).alloc (.cells #[.int .u8 k',.int .u64 n',.string t',.slice A' l' c'] 43);have He:=Box.new2 w (.cells #[.int .u8 k,.int .u64 n,.string t,.slice A l c] 43) (.int .u8 k') (.int .u64 n') (.string t') (.slice A' l' c');obtain⟨q,hq⟩:∃ q,zbb (.mk k n t ks) (.mk k' n' t' ks')=q:=⟨_,rfl⟩;have HQ:=zaa hq;rw[hq];clear hq;go_enter func154,ntmps154;go_wp2;go_loopg [4] (zai ks+1) (fun g s wr=>s=.bool false∧∃ (k1 n1:Nat) (t1:ByteArray) (ks1:List V) (A1:Oz) (l1 c1 k2 n2:Nat) (t2:ByteArray) (ks2:List V) (A2:Oz) (l2 c2:Nat),
  Box wr w.heap.size (.int .u8 k1) (.int .u64 n1) (.string t1) (.slice A1 l1 c1)∧Box wr (w.heap.size+1) (.int .u8 k2) (.int .u64 n2) (.string t2) (.slice A2 l2 c2)∧Kids false wr (fun i=>i < w.heap.size) ks1 A1 l1 c1∧Kids false wr (fun i=>i < w.heap.size) ks2 A2 l2 c2 ∧
  mayB (.mk k1 n1 t1 ks1)=true∧mayB (.mk k2 n2 t2 ks2)=true∧zbb (.mk k1 n1 t1 ks1) (.mk k2 n2 t2 ks2)=q∧zai ks1 < g∧g≤1073741825∧Below w.heap.size w wr)
 case atStart=>exact⟨rfl,k,n,t,ks,A,l,c,k',n',t',ks',A',l',c',Ha,He,Kids.keep hK (fun i hi=>hB.block i hi),Kids.keep gV (fun i hi=>hB.block i hi),hM,Xl,HQ.out,by omega,by omega,hB⟩
 case round=>
  clear hM Xl hK gV hN Ha He hB;obtain⟨rfl,k1,n1,t1,ks1,A1,l1,c1,k2,n2,t2,ks2,A2,l2,c2,hx,hy,U0,hKy,YS,ji,hqq,GY,JT,hb⟩:=hrel;obtain⟨p0,p1,p2,p3,pf⟩:=hx.all;obtain⟨q0,q1,q2,q3,qf⟩:=hy.all;have Hu:w.heap.size+1 < wr.heap.size:=hy.lt;have Qk:=zaa hqq;clear hqq;by_cases e1:k1=25
  ·subst e1;by_cases e2:k2=25
   ·subst e2;obtain⟨⟨xk,xn,xt,xs⟩,⟨yk,yn,yt,ys⟩,rfl,_,Bq,hym⟩:=zaS YS;obtain⟨⟨xk',xn',xt',xs'⟩,⟨yk',yn',yt',ys'⟩,rfl,_,hxm',Cq⟩:=zaS ji;have JM:=Qk.out;rw[zck] at JM;have Jg:=zaa JM;simp only[zai,bulk] at GY;obtain⟨jv,b,o,B1,m1,d1,B2,m2,d2,hA1,kU,a0,a1,a2,a3,a4,a5,aK,v0,v1,v2,v3,v4,v5,vK⟩:=U0.two;obtain⟨JC,b',o',B1',m1',d1',B2',m2',d2',Xm,VR,a0',a1',a2',a3',a4',a5',aK',v0',v1',v2',v3',v4',v5',vK'⟩:=hKy.two;subst jv;subst JC;subst hA1;subst Xm;have yh:b≠w.heap.size:=by omega
    have uS:b≠w.heap.size+1:=by omega
    have hne3:b'≠w.heap.size:=by omega
    have Cr:b'≠w.heap.size+1:=by omega
    have jG:b < wr.heap.size:=by omega
    have QX:b' < wr.heap.size:=by omega
    go_wp2_with fail;go_still_tail 8,(by kernel_rfl);go_wp2_with fail;refine(zej xk xn xt xs B1 m1 d1 xk' xn' xt' xs' B1' m1' d1' wr.drew (by omega) (Kd.of aK (fun i hi=>by omega)).drew (Kd.of aK' (fun i hi=>by omega)).drew).mono ?_;rintro e w2 ⟨rfl,He⟩;have GQ:=hx.drew.call He;have Qh:=hy.drew.call He;obtain⟨r0,r1,r2,r3,rf⟩:=GQ.all;obtain⟨s0,s1,s2,s3,sf⟩:=Qh.all;have g0:=zaQ (wr:=wr.drew) v0 He jG;have g1:=zaQ (wr:=wr.drew) v1 He jG;have g2:=zaQ (wr:=wr.drew) v2 He jG;have g3:=zaQ (wr:=wr.drew) v3 He jG;have g0':=zaQ (wr:=wr.drew) v0' He QX;have g1':=zaQ (wr:=wr.drew) v1' He QX;have g2':=zaQ (wr:=wr.drew) v2' He QX;have g3':=zaQ (wr:=wr.drew) v3' He QX;have Hj:=zad (wr:=wr.drew) hb.drew He;have JP:Below w.heap.size wr w2:=((Below.refl _ wr).drew).trans (He.mono (by show w.heap.size≤wr.drew.heap.size;simp;omega));cases hs:same (.mk xk xn xt xs) (.mk xk' xn' xt' xs') with
    | false=>
     rw[hs,Bool.false_and] at Jg;clear hs;go_wp2;go_ret;exact⟨by rw[←Jg.out];rfl,Hj⟩
    | true=>
     rw[hs,Bool.true_and] at Jg;clear hs;go_wp2_with fail;go_region;have gl:∀ (a b c d a' b' c' d':Value),Below w.heap.size w2 ((((((((w2.setCell ⟨w.heap.size,0,none⟩ a).setCell ⟨w.heap.size,1,none⟩ b).setCell ⟨w.heap.size,2,none⟩ c).setCell ⟨w.heap.size,3,none⟩ d).setCell ⟨w.heap.size+1,0,none⟩ a').setCell ⟨w.heap.size+1,1,none⟩ b').setCell ⟨w.heap.size+1,2,none⟩ c').setCell ⟨w.heap.size+1,3,none⟩ d').drew:=fun a b c d a' b' c' d'=>
      (zae (zae (Below.refl _ w2) zab a b c d) (by omega) a' b' c' d').drew
     have yi:=fun a b c d a' b' c' d'=>JP.trans (gl a b c d a' b' c' d');go_wp2;go_roundg (gk - 1)
     case measure=>omega
     case rel=>
      exact⟨rfl,yk,yn,yt,ys,B2,m2,d2,yk',yn',yt',ys',B2',m2',d2',((GQ.set4 _ _ _ _).far4 (by omega) _ _ _ _).drew,((Qh.far4 (by omega) _ _ _ _).set4 _ _ _ _).drew,
       vK.keep fun i hi=>(yi _ _ _ _ _ _ _ _).block i hi,vK'.keep fun i hi=>(yi _ _ _ _ _ _ _ _).block i hi,hym,Cq,Jg.out,by omega,by omega,hb.trans (yi _ _ _ _ _ _ _ _)⟩
   ·have d2:((k2:Int)==25)=false:=by rw[zac];omega
    have d3:((25:Int)==(k2:Int))=false:=by rw[zac];omega
    have HA:=zaa (zcj (n:=n1) (n':=n2) (t:=t1) (t':=t2) (ks:=ks1) (ks':=ks2) (fun e:25=k2=>e2 e.symm));go_wp2;go_ret;exact⟨by rw[←Qk.out,HA.out];rfl,hb⟩
  ·have d2:((k1:Int)==25)=false:=by rw[zac];omega
   by_cases e3:k1=k2
   ·subst e3;have HA:=zaa (zdj (n:=n1) (n':=n2) (t:=t1) (t':=t2) (ks:=ks1) (ks':=ks2) e1);go_wp2;go_ret;exact⟨by rw[←Qk.out,HA.out];rfl,hb⟩
   ·have d3:((k1:Int)==(k2:Int))=false:=by rw[zac];omega
    have HA:=zaa (zcj (n:=n1) (n':=n2) (t:=t1) (t':=t2) (ks:=ks1) (ks':=ks2) e3);go_wp2;go_ret;exact⟨by rw[←Qk.out,HA.out];rfl,hb⟩
def allB:List V→Bool
 | []=>true
 | x::r=>r.all fun y=>zbb x y
theorem zhv {x:V}{r:List V}(hx:mayB x=true):allB (x::r)=(x::r).all fun y=>zbb x y:=by simp[allB,zcW x hx]
theorem zfw {f:V→Bool}{l:List V}{i:Nat}{v:V}(h:l[i]? = some v):(l.take (i+1)).all f=((l.take i).all f&&f v):=by
 rw[zbI h];simp
theorem zkw {f:V→Bool}{l:List V}{i:Nat}{v:V}(h:l[i]? = some v)(hv:f v=false):l.all f=false:=by
 cases hl:l.all f with
 | false=>rfl
 | true=>
  rw[List.all_eq_true] at hl;rw[hl v (List.mem_of_getElem? h)] at hv;cases hv
theorem ziq (ks:List V)(A:Oz)(l c:Nat)(w:World)(hN:zai ks≤1073741824)(hM:mayL ks=true)(hK:Kd w ks A l c) :
  Calls prog 140 #[.slice A l c] w (zaj (allB ks) w):=by
 have jv:l≤ks.length:=Nat.le_of_eq hK.len;have JC:ks.length≤l:=Nat.le_of_eq hK.len.symm;have Jb:=za0 ks;have HM:=zaa hM;clear hM;go_enter func140,ntmps140;go_wp2;go_loopw [7] (fun i wr=>∃ j:Nat,j≤l∧i=.int .i64 j∧(∀ x,ks[0]? = some x→(ks.take j).all (fun y=>zbb x y)=true)∧Below w.heap.size w wr) (fun i _=>l - (intOf i).toNat)
 case atStart=>exact⟨0,Nat.zero_le _,rfl,fun _ _=>rfl,Below.refl _ _⟩
 case round=>
  obtain⟨j,hj,rfl,gm,hb⟩:=hrel;have Kg:=zaa gm;clear gm;by_cases Hi:j < l
  ·obtain⟨b,o,k1,n1,t1,ks1,A1,l1,c1,rfl,Ha,hx,h0,h1,h2,h3,gF,Gm,kK⟩:=(hK.call hb).at_ Hi;obtain⟨b',o',k2,n2,t2,ks2,A2,l2,c2,xj,He,GQ,qh,YD,xY,YE,gR,Kk,kE⟩:=(hK.call hb).at_ (i:=0) (by omega);simp only[ya6,Addr.mk.injEq,and_true] at xj;obtain⟨rfl,rfl⟩:=xj;simp only[Nat.zero_mul,ya8] at qh YD xY YE;have GY:=zcT GQ;simp only[bulk] at GY;have HX:=zaa hx;have kL:=zaa GQ;have HB:=zaa (Box.new wr (.int .u8 k1) (.int .u64 n1) (.string t1) (.slice A1 l1 c1));have hs:=hb.size;have jH:0 < l:=by omega
   clear hx GQ;obtain⟨W1,Ko⟩:∃ W1,W1=wr.alloc (.cells #[.int .u8 k1,.int .u64 n1,.string t1,.slice A1 l1 c1] 43):=⟨_,rfl⟩;have Jh:Below wr.heap.size wr W1:=by rw[Ko];exact(za _ _)
   have kh:=HB.out;rw[←Ko] at kh;obtain⟨x0,x1,x2,x3,_⟩:=kh.all;have y0:=zaQ qh Jh He;have y1:=zaQ YD Jh He;have y2:=zaQ xY Jh He;have y3:=zaQ YE Jh He;go_wp2_with fail;rw[←Ko];clear Ko;go_still_tail 4,(by kernel_rfl);go_wp2_with fail;refine(zlI k2 n2 t2 ks2 A2 l2 c2 k1 n1 t1 ks1 A1 l1 c1 W1.drew (by omega) (zbj HM.out _ (List.mem_of_getElem? kL.out)) (zbj HM.out _ (List.mem_of_getElem? HX.out)) (kE.call Jh).drew (kK.call Jh).drew).mono ?_;rintro e w2 ⟨rfl,Hj⟩;have gl:=zad (wr:=W1.drew) ((zad hb Jh).drew) Hj;cases hq:zbb (.mk k2 n2 t2 ks2) (.mk k1 n1 t1 ks1) with
   | true=>
    have HQ:=zaa hq;clear hq;go_wp2;go_roundw
    case rel=>
     refine⟨j+1,by omega,by go_num,fun x hx=>?_,gl⟩;rw[zfw HX.out,Kg.out x hx];rw[kL.out] at hx;injection hx with hx
     rw[←hx,HQ.out];rfl
    case measure=>simp[intOf];omega
   | false=>
    have HQ:=zaa hq;clear hq;go_wp2;go_ret;refine⟨?_,gl⟩;cases ks with
    | nil=>have:=kL.out;simp at this
    | cons x r=>
     have j1:x=.mk k2 n2 t2 ks2:=by have:=kL.out;simpa using this
     rw[zhv (zbj HM.out x (by simp)),zkw HX.out (by rw[j1];exact HQ.out)];rfl
  ·have HE:Hid (ks.take j=ks):=zaa (List.take_of_length_le (by omega));go_wp2;go_ret;refine⟨?_,hb⟩;cases ks with
   | nil=>rfl
   | cons x r=>
    have:=Kg.out x rfl;rw[HE.out] at this;rw[zhv (zbj HM.out x (by simp)),this];rfl
def zfx:Prop:=∀ (k n:Nat) (t:ByteArray) (ks:List V) (A:Oz) (l c:Nat) (w:World),zai ks≤1073741824→Kd w ks A l c →
  Calls prog 139 #[.agg #[.int .u8 k,.int .u64 n,.string t,.slice A l c]] w (zaj (!zcy (zf4 ks)) w)
theorem zrh {ks:List V}(h:2=ks.length):∃ x y,ks=[x,y]:=
 match ks,h with
 | [a,b],_=>⟨a,b,rfl⟩
theorem zcK {ks:List V}:zaR 23 ks=(decide (ks.length % 2=0)&&zcy (zf4 ks)):=by simp[zaR]
theorem zf6 {ks:List V}:zaR 24 ks=allB ks:=by
 cases ks<;>simp[zaR,allB]
theorem zdW {k:Nat}{ks:List V}(h1:k≠23)(h2:k≠24)(h3:k≠25):zaR k ks=true:=by simp[zaR,h1,h2,h3]
theorem zir (hT:zfx)(k n:Nat)(t:ByteArray)(ks:List V)(A:Oz)(l c:Nat)(w:World)(hN:zai ks≤1073741824)(hM:mayL ks=true)(hK:Kd w ks A l c) :
  Calls prog 114 #[.agg #[.int .u8 k,.int .u64 n,.string t,.slice A l c]] w (zaj (zaR k ks) w):=by
 have hB:Below w.heap.size w (w.alloc (.cells #[.int .u8 k,.int .u64 n,.string t,.slice A l c] 43)):=(za _ _);have HL:=zaa hK.len;have Qc:l≤ks.length:=Nat.le_of_eq hK.len;have Jb:=za0 ks;go_enter func114,ntmps114;by_cases xo:k=23
 ·subst xo;have HT:=zaa (hT 23 n t ks A l c _ hN (hK.alloc (.cells #[.int .u8 (23:Nat),.int .u64 n,.string t,.slice A l c] 43)));by_cases h2:l % 2=0
  ·have hm:(l:Int) % 2=0:=by omega
   cases hq:zcy (zf4 ks) with
   | true=>
    have HQ:=zaa hq;clear hq;go_wp2_with fail;refine HT.out.mono ?_;rw[HQ.out];rintro e w1 ⟨rfl,Ha⟩;have He:=zad hB Ha;go_wp2;go_ret;exact⟨by rw[zcK,←HL.out,decide_eq_true h2,HQ.out];rfl,He⟩
   | false=>
    have HQ:=zaa hq;clear hq;go_wp2_with fail;refine HT.out.mono ?_;rw[HQ.out];rintro e w1 ⟨rfl,Ha⟩;have He:=zad hB Ha;go_wp2;go_ret;exact⟨by rw[zcK,←HL.out,decide_eq_true h2,HQ.out];rfl,He⟩
  ·have hm:((l:Int) % 2==0)=false:=by rw[zac];omega
   go_wp2_with fail;go_ret;exact⟨by rw[zcK,←HL.out,decide_eq_false h2];rfl,hB⟩
 ·by_cases jJ:k=24
  ·subst jJ;go_wp2_with fail;refine(ziq ks A l c _ hN hM (hK.alloc _)).mono ?_;rintro e w1 ⟨rfl,Ha⟩;go_wp2;go_ret;exact⟨by rw[zf6];rfl,zad hB Ha⟩
  ·by_cases kH:k=25
   ·subst kH;by_cases h2:l=2
    ·subst h2;obtain⟨⟨xk,xn,xt,xs⟩,⟨yk,yn,yt,ys⟩,rfl⟩:∃ x y,ks=[x,y]:=zrh HL.out;clear HL Qc Jb;obtain⟨_,b,o,B1,l1,c1,B2,l2,c2,rfl,hb,a0,a1,a2,a3,a4,a5,aK,d0,d1,d2,d3,d4,d5,dK⟩:=hK.two;clear d0 d1 d2 d3 dK aK hK;have b0:=Box.new w (.int .u8 (25:Nat)) (.int .u64 n) (.string t) (.slice (some ⟨b,o,none⟩) 2 c);obtain⟨W0,Gj⟩:∃ W0,w.alloc (.cells #[.int .u8 (25:Nat),.int .u64 n,.string t,.slice (some ⟨b,o,none⟩) 2 c] 43)=W0:=⟨_,rfl⟩;rw[Gj] at b0 hB;obtain⟨p0,p1,p2,p3,pf⟩:=b0.all;have y0:=(hB.cell (p:=⟨b,o,none⟩) hb).trans a0;have y1:=(hB.cell (p:=⟨b,o+1,none⟩) hb).trans a1;have y2:=(hB.cell (p:=⟨b,o+2,none⟩) hb).trans a2;have y3:=(hB.cell (p:=⟨b,o+3,none⟩) hb).trans a3;simp only[Int.cast_ofNat_Int] at Gj p0;have Hi:0 < (2:Nat):=by omega
     go_wp2_with fail;refine(zlw xk xn xt B1 l1 c1 _).mono ?_;rintro e w1 ⟨rfl,Ha⟩;have He:=zad hB Ha;go_wp2;go_ret;exact⟨by simp[zaR,kind],He⟩
    ·have hm:((l:Int)==2)=false:=by rw[zac];omega
     go_wp2_with fail;go_ret;refine⟨?_,hB⟩;have hlen:=HL.out
     match ks,hlen with
     | [],_=>simp[zaR]
     | [_],_=>simp[zaR]
     | [_,_],hlen=>simp at hlen;omega
     | _::_::_::_,_=>simp[zaR]
   ·have d1:((k:Int)==23)=false:=by simp;omega
    have d2:((k:Int)==24)=false:=by simp;omega
    have d3:((k:Int)==25)=false:=by simp;omega
    go_wp2_with fail;go_ret;exact⟨by rw[zdW xo jJ kH];rfl,hB⟩
end Val
end Go.Proofs.YtbbbanfggcediaaGreatDoor
