/-
  Contracts of functions and plain mathematics, text by text, each with its conditions ahead of it:
  Words for the walk of encode's plan: what a plan of something called is; what holds while names are gathered, kids are planned, and their bytes are counted. No condition.
  How long plans are, and that their codes are codes of their kinds: plain mathematics, of values that may be.
  Contract of encode's alike: an array's kids by one code, in the row of the call's own; without kids, a null. Conditions: what plans tell of their kids is below 2^50; fewer than 2^40 plans.
  Words for the second half of the walk of encode's plan: what holds while kids are planned, and while their bytes are counted. No condition.
  Bytes tell their values: of two values that may be, neither's bytes are the beginning of the other's with anything behind, if they are not the same. Plain mathematics. Condition: numbers below 2^64, bulk at most 2^26.
  Bytes tell their values, the induction. Plain mathematics. Condition: numbers below 2^64, bulk at most 2^26.
  How long a plan says that it is, and how many bytes it lays: one and the same; which code is the first that can tell all. Plain mathematics, of values that may be.
-/
import Derived.Test.YtcilmmdmkpnppaaGreatDoorY03
import Derived.Test.YtcilmmdmkpnppaaGreatDoorY12
import Derived.Test.YtcilmmdmkpnppaaGreatDoorY13
import Derived.Laws.OwnMore
section
namespace Go.Proofs.YtcilmmdmkpnppaaGreatDoor.Enc
set_option maxRecDepth 100000
open Go.RowKit Utf Val V
def addN (ds:List Pl):Pl→Pl
 | .mk ns k n t c b ks re im=>.mk (ds++ns) k n t c b ks re im
theorem addN_nil (p:Pl):addN [] p=p:=by cases p;rfl
theorem addN_addN (a b:List Pl)(p:Pl):addN a (addN b p)=addN (a++b) p:=by cases p;simp[addN]
theorem plan_desc (n:Nat)(t:ByteArray)(x y:V):plan (.mk 25 n t [x,y])=addN [plan x] (plan y):=by
 rw[plan,if_pos rfl,planL,planL,planL];cases plan y;rfl
theorem plan_core {k:Nat}(n:Nat)(t:ByteArray)(ks:List V)(h:k≠25):plan (.mk k n t ks)=fin [] k n t ks.length (if k=24 then alikeP (planL ks) else planL ks):=by
 rw[plan,if_neg h]
theorem addN_fin (ds:List Pl)(k n:Nat)(t:ByteArray)(m:Nat)(ks:List Pl):addN ds (fin [] k n t m ks)=.mk ds k n t (first [raw ds k n t m ks]) false ks (longK ks) m:=by
 simp only[addN,fin,raw,List.append_nil];rw[first_names]
theorem PR.far {B:Nat}{wr w':World}{A:Option Addr}{n c:Nat}{done:List Pl}{xs:List Value}(h:PR B wr A n c done xs)(hk:∀ i,B≤i→i < wr.heap.size→w'.heap[i]? = wr.heap[i]?)(hs:wr.heap.size≤w'.heap.size):PR B w' A n c done xs:=by
 refine⟨⟨h.own.1,?_⟩,(h.cells.keep fun i hi=>hk i hi.1 hi.2.1).mono fun i hi=>⟨hi.1,Nat.lt_of_lt_of_le hi.2.1 hs,hi.2.2⟩⟩;rcases h.own.2 with hn | ⟨g,cap,cur,hv,hb,hg,hr⟩
 ·exact .inl hn
 ·exact .inr ⟨g,cap,cur,hv,hb,(hk g hb (Array.getElem?_eq_some_iff.1 hg).1).trans hg,hr⟩
theorem PR.setCell {B:Nat}{wr:World}{A:Option Addr}{n c:Nat}{done:List Pl}{xs:List Value}(h:PR B wr A n c done xs){p:Addr}(hp:p.block < B)(u:Value):PR B (wr.setCell p u) A n c done xs:=
 h.far (fun i hi _=>Below.heap_setCell wr p u i (by omega)) (by simp)
theorem Bx.set (w:World)(g:Nat)(x0 x1 x2 x3 x4 x5 x6 x7 x8 u:Value)(h:Bx w g x0 x1 x2 x3 x4 x5 x6 x7 x8) :
  Bx (w.setCell ⟨g,0,none⟩ u) g u x1 x2 x3 x4 x5 x6 x7 x8∧Bx (w.setCell ⟨g,1,none⟩ u) g x0 u x2 x3 x4 x5 x6 x7 x8∧Bx (w.setCell ⟨g,2,none⟩ u) g x0 x1 u x3 x4 x5 x6 x7 x8∧Bx (w.setCell ⟨g,3,none⟩ u) g x0 x1 x2 u x4 x5 x6 x7 x8∧Bx (w.setCell ⟨g,4,none⟩ u) g x0 x1 x2 x3 u x5 x6 x7 x8 ∧
  Bx (w.setCell ⟨g,5,none⟩ u) g x0 x1 x2 x3 x4 u x6 x7 x8∧Bx (w.setCell ⟨g,7,none⟩ u) g x0 x1 x2 x3 x4 x5 x6 u x8∧Bx (w.setCell ⟨g,8,none⟩ u) g x0 x1 x2 x3 x4 x5 x6 x7 u:=by
 unfold Bx at h ⊢;refine⟨?_,?_,?_,?_,?_,?_,?_,?_⟩<;>simp[World.setCell,Array.getElem?_modify,h]
section
variable {w:World} {g:Nat} {x0 x1 x2 x3 x4 x5 x6 x7 x8:Value}
theorem Bx.set0 (h:Bx w g x0 x1 x2 x3 x4 x5 x6 x7 x8)(u:Value):Bx (w.setCell ⟨g,0,none⟩ u) g u x1 x2 x3 x4 x5 x6 x7 x8:=(Bx.set w g _ _ _ _ _ _ _ _ _ u h).1
theorem Bx.set1 (h:Bx w g x0 x1 x2 x3 x4 x5 x6 x7 x8)(u:Value):Bx (w.setCell ⟨g,1,none⟩ u) g x0 u x2 x3 x4 x5 x6 x7 x8:=(Bx.set w g _ _ _ _ _ _ _ _ _ u h).2.1
theorem Bx.set2 (h:Bx w g x0 x1 x2 x3 x4 x5 x6 x7 x8)(u:Value):Bx (w.setCell ⟨g,2,none⟩ u) g x0 x1 u x3 x4 x5 x6 x7 x8:=(Bx.set w g _ _ _ _ _ _ _ _ _ u h).2.2.1
theorem Bx.set3 (h:Bx w g x0 x1 x2 x3 x4 x5 x6 x7 x8)(u:Value):Bx (w.setCell ⟨g,3,none⟩ u) g x0 x1 x2 u x4 x5 x6 x7 x8:=(Bx.set w g _ _ _ _ _ _ _ _ _ u h).2.2.2.1
theorem Bx.set4 (h:Bx w g x0 x1 x2 x3 x4 x5 x6 x7 x8)(u:Value):Bx (w.setCell ⟨g,4,none⟩ u) g x0 x1 x2 x3 u x5 x6 x7 x8:=(Bx.set w g _ _ _ _ _ _ _ _ _ u h).2.2.2.2.1
theorem Bx.set7 (h:Bx w g x0 x1 x2 x3 x4 x5 x6 x7 x8)(u:Value):Bx (w.setCell ⟨g,7,none⟩ u) g x0 x1 x2 x3 x4 x5 x6 u x8:=(Bx.set w g _ _ _ _ _ _ _ _ _ u h).2.2.2.2.2.2.1
theorem Bx.set8 (h:Bx w g x0 x1 x2 x3 x4 x5 x6 x7 x8)(u:Value):Bx (w.setCell ⟨g,8,none⟩ u) g x0 x1 x2 x3 x4 x5 x6 x7 u:=(Bx.set w g _ _ _ _ _ _ _ _ _ u h).2.2.2.2.2.2.2
theorem Bx.grown {w':World}(h:Bx w g x0 x1 x2 x3 x4 x5 x6 x7 x8){row:Option Nat}(hg:w.grownBy w' row)(hne:∀ r,row=some r→g < r):Bx w' g x0 x1 x2 x3 x4 x5 x6 x7 x8:=
 (hg.block g h.lt fun e=>by have:=hne g e.symm;omega).trans h
end
structure P1 (w wr:World) (v:V) (NA:Option Addr) (nl nc:Nat) (done:List Pl) (xs:List Value) (k n:Nat) (t:ByteArray) (ks:List V) (A:Option Addr) (l c:Nat):Prop where
 eq:plan v=addN done (plan (.mk k n t ks))
 may:mayB (.mk k n t ks)=true
 blk:bulk (.mk k n t ks)+done.length≤bulk v
 num:k < 256∧n < 18446744073709551616
 kd:Val.Kids false w (Lo w.heap.size) ks A l c
 box:Bx wr (w.heap.size+1+1) (.slice NA nl nc) (.int .u8 (k:Int)) (.int .u64 (n:Int)) (.string t) (.slice A l c) (.int .u8 0) (.bool false) (.slice none 0 0) (.complex .f64 0 0)
 res:Bx wr (w.heap.size+1) (.slice none 0 0) (.int .u8 0) (.int .u64 0) (.string ⟨#[]⟩) (.slice none 0 0) (.int .u8 0) (.bool false) (.slice none 0 0) (.complex .f64 0 0)
 row:PR (w.heap.size+1+1+1) wr NA nl nc done xs
 low:Below w.heap.size w wr
 sz:w.heap.size+1+1+1≤wr.heap.size
theorem kids_lo {w wr:World}{ks:List V}{A:Option Addr}{l c:Nat}(h:Val.Kids false w (Lo w.heap.size) ks A l c)(hb:Below w.heap.size w wr):Val.Kids false wr (Lo w.heap.size) ks A l c:=h.keep fun i hi=>hb.block i hi
theorem kids_kd {w wr:World}{ks:List V}{A:Option Addr}{l c:Nat}(h:Val.Kids false w (Lo w.heap.size) ks A l c)(hb:Below w.heap.size w wr):Kd wr ks A l c:=(kids_lo h hb).mono fun _ hi=>Nat.lt_of_lt_of_le hi hb.size
theorem P1.step {w wr w1 w9:World}{v:V}{NA:Option Addr}{nl nc:Nat}{done:List Pl}{xs:List Value}{n:Nat}{t:ByteArray}{A:Option Addr}{l c:Nat}{k1 n1:Nat}{t1:ByteArray}{ks1:List V}{k2 n2:Nat}{t2:ByteArray}{ks2:List V}{A2:Option Addr}{l2 c2:Nat}
  (h:P1 w wr v NA nl nc done xs 25 n t [.mk k1 n1 t1 ks1,.mk k2 n2 t2 ks2] A l c) (hk2:k2 < 256∧n2 < 18446744073709551616) (hK2:Val.Kids false w (Lo w.heap.size) ks2 A2 l2 c2)
  (hb1:Below wr.heap.size wr w1) {cs:List Value} (hc:RepC w1 (fun i=>wr.heap.size≤i∧i < w1.heap.size) (plan (.mk k1 n1 t1 ks1)) cs) {g cap:Nat} (o:Obj)
  (hown:w9.ownsRow (w.heap.size+1+1+1) 73 9 (.slice (some ⟨g,0,none⟩) (nl+1) cap) (nl+1) (xs++cs)) (hg:(w1.alloc o).grownBy w9 (Value.slice NA nl nc).ownBlock) (hat:(Value.slice NA nl nc).ownBlock=some g∨w1.heap.size≤g) :
  P1 w (((((w9.setCell ⟨w.heap.size+1+1,0,none⟩ (.slice (some ⟨g,0,none⟩) (nl+1) cap)).setCell ⟨w.heap.size+1+1,1,none⟩ (.int .u8 (k2:Int))).setCell ⟨w.heap.size+1+1,2,none⟩ (.int .u64 (n2:Int))).setCell ⟨w.heap.size+1+1,3,none⟩ (.string t2)).setCell ⟨w.heap.size+1+1,4,none⟩ (.slice A2 l2 c2)) v (some ⟨g,0,none⟩) (nl+1) cap (done++[plan (.mk k1 n1 t1 ks1)]) (xs++cs) k2 n2 t2 ks2 A2 l2 c2:=by
 obtain⟨_,_,e0,_,_,hm2⟩:=may_desc h.may;injection e0 with _ e0
 injection e0 with e0
 subst e0;have hob:=h.row.blk;have hs1:=hb1.size;have hs9:=hg.size;have hsz:=h.sz;have hrow1:=h.row.call hb1;have hcs:=RepC.mono (P':=fun i=>w.heap.size+1+1+1≤i∧i < w1.heap.size∧(Value.slice NA nl nc).ownBlock≠some i) (fun i hi=>⟨by omega,hi.2,fun e=>by have:=hob i e;omega⟩) hc;have hpush:=hrow1.push hcs o rfl hown hg hat;have hfar:∀ r,(Value.slice NA nl nc).ownBlock=some r→w.heap.size+1+1 < r:=fun r e=>by have:=hob r e;omega
 have hfar':∀ r,(Value.slice NA nl nc).ownBlock=some r→w.heap.size+1 < r:=fun r e=>by have:=hob r e;omega
 have hbox:=(((h.box.call hb1).alloc o).grown hg hfar);have hres:=(((h.res.call hb1).alloc o).grown hg hfar');have hlow:Below w.heap.size w w9:=((below_next h.low hb1).alloc (by have:=h.low.size;omega) o).grown hg (by simp;have:=h.low.size;omega) fun r e=>by have:=hob r e;omega
 refine⟨?_,hm2,?_,hk2,hK2,((((hbox.set0 _).set1 _).set2 _).set3 _).set4 _,?_,?_,?_,?_⟩
 ·rw[h.eq,plan_desc,addN_addN]
 ·have:=h.blk;simp only[bulk,bulkL,List.length_append,List.length_cons,List.length_nil] at this ⊢;omega
 ·exact((((hres.far (by simp) _).far (by simp) _).far (by simp) _).far (by simp) _).far (by simp) _
 ·exact((((hpush.setCell (by simp) _).setCell (by simp) _).setCell (by simp) _).setCell (by simp) _).setCell (by simp) _
 ·exact((((hlow.setCell (by simp;omega) _).setCell (by simp;omega) _).setCell (by simp;omega) _).setCell (by simp;omega) _).setCell (by simp;omega) _
 ·simp at hs9 ⊢;omega
end Go.Proofs.YtcilmmdmkpnppaaGreatDoor.Enc
namespace Go.Proofs.YtcilmmdmkpnppaaGreatDoor.Enc
set_option maxRecDepth 100000
open Val V
def cap:Pl→Nat
 | .mk ns _ _ t _ _ _ re _=>longN ns+33+t.size+re
theorem long_cap:∀ p:Pl,long p≤cap p
 | .mk ns k n t c b ks re im=>by
  have:dlong k t c re≤32+t.size+re:=by
   have:=wid_le c;unfold dlong
   split
   ·omega
   ·split
    ·omega
    ·split<;>omega
  simp only[long,cap]
  split<;>omega
theorem cap_setc (c:Nat)(b:Bool)(p:Pl):cap (setc c b p)=cap p:=by cases p;rfl
theorem cap_addN (ds:List Pl)(p:Pl):cap (addN ds p)=longN ds+cap p:=by
 cases p;simp only[addN,cap,longN_append];omega
theorem longK_setc (c:Nat)(M:Nat):∀ l:List Pl,longK (l.map (setc c true))≤(l.map cap).sum
 | []=>by simp[longK]
 | p::r=>by
  have h1:=long_cap (setc c true p);rw[cap_setc] at h1;have h2:=longK_setc c M r;simp only[List.map_cons,longK,List.sum_cons];omega
theorem longK_caps:∀ l:List Pl,longK l≤(l.map cap).sum
 | []=>by simp[longK]
 | p::r=>by
  have h1:=long_cap p;have h2:=longK_caps r;simp only[List.map_cons,longK,List.sum_cons];omega
theorem longK_alike (l:List Pl):longK (alikeP l)≤(l.map cap).sum+1:=by
 cases l with
 | nil=>
  have:longK [null]≤1:=by decide
  simpa [alikeP] using this
 | cons p r=>
  have h1:=long_cap (setc (first (p::r)) false p);rw[cap_setc] at h1;have h2:=longK_setc (first (p::r)) 0 r;simp only[alikeP,longK,List.map_cons,List.sum_cons];omega
mutual
theorem cap_plan:∀ v:V,mayB v=true→cap (plan v)≤40 * bulk v
 | .mk k n t ks,h=>by
  by_cases hk:k=25
  ·subst hk;obtain⟨x,y,rfl,_,hx,hy⟩:=may_desc h;have h1:=cap_planL [x,y] (may_kids h);have h2:=long_cap (plan x);simp only[planL,List.map_cons,List.map_nil,List.sum_cons,List.sum_nil,bulkL] at h1;rw[plan_desc,cap_addN];simp only[longN,bulk,bulkL];omega
  ·have h1:=cap_planL ks (may_kids h);have h2:=longK_alike (planL ks);have h3:=longK_caps (planL ks);rw[plan_core n t ks hk];simp only[fin,cap,longN,bulk]
   split<;>omega
theorem cap_planL:∀ l:List V,mayL l=true→((planL l).map cap).sum≤40 * bulkL l
 | [],_=>by simp[planL,bulkL]
 | v::r,h=>by
  simp only[mayL,Bool.and_eq_true] at h;have h1:=cap_plan v h.1;have h2:=cap_planL r h.2;simp only[planL,List.map_cons,List.sum_cons,bulkL];omega
end
def codesOk (k:Nat):Bool:=(chs k).all fun x=>decide (64≤x.1)&&decide (x.1 < 256)&&(decide (wid x.1≤8)||(decide (15≤k)&&decide (k < 19)))
def lastAll (k:Nat):Bool:=(chs k).any fun x=>match x.2 with
 | .all=>true
 | _=>false
theorem codes_ok:((List.range 25).all fun k=>k==0||(codesOk k&&lastAll k))=true:=by decide +kernel
theorem pick_mem (l:List Pl):∀ cs:List (Nat×Can),(∃ c,(c,Can.all)∈cs)→∃ f,(pick cs l,f)∈cs
 | [],⟨c,h⟩=>by cases h
 | (c0,f0)::r,h=>by
  by_cases hc:l.all (can f0)=true
  ·exact⟨f0,by simp[pick,hc]⟩
  ·obtain⟨c,h⟩:=h;rcases List.mem_cons.1 h with h | h
   ·injection h with _ h
    rw[←h] at hc;exact absurd (List.all_eq_true.2 fun p _=>rfl) hc
   ·obtain⟨f,hf⟩:=pick_mem l r ⟨c,h⟩;exact⟨f,by simp[pick,hc,hf]⟩
theorem pick_ok {k:Nat}(h1:1≤k)(h2:k≤24)(l:List Pl):64≤pick (chs k) l∧pick (chs k) l < 256∧(wid (pick (chs k) l)≤8∨(15≤k∧k < 19)):=by
 have h:=List.all_eq_true.1 codes_ok k (List.mem_range.2 (by omega));simp only[Bool.or_eq_true,beq_iff_eq,Bool.and_eq_true] at h;rcases h with h | ⟨ha,hb⟩
 ·omega
 ·obtain⟨⟨c,f⟩,hx,hf⟩:=List.any_eq_true.1 hb;have hf':f=.all:=by cases f<;>simp_all
  subst hf';obtain⟨f,hm⟩:=pick_mem l (chs k) ⟨c,hx⟩;have:=List.all_eq_true.1 ha _ hm;simp only[Bool.and_eq_true,Bool.or_eq_true,decide_eq_true_eq] at this;exact⟨this.1.1,this.1.2,this.2⟩
theorem plan_kind_of (N:Nat):∀ v:V,bulk v≤N→mayB v=true→(plan v).kind=(core v).kind∧(core v).kind≠25∧mayB (core v)=true:=by
 induction N with
 | zero=>intro v hN;have:=bulk_pos v;omega
 | succ N ih=>
  intro v hN h;obtain⟨k,n,t,ks⟩:=v;by_cases hk:k=25
  ·subst hk;obtain⟨x,y,rfl,_,hx,hy⟩:=may_desc h;have:=ih y (by simp only[bulk,bulkL] at hN;omega) hy;rw[plan_desc,core_desc];refine⟨?_,this.2⟩;rw[←this.1];cases plan y;rfl
  ·rw[plan_core n t ks hk,core_not hk];exact⟨rfl,hk,h⟩
theorem plan_kind (v:V)(h:mayB v=true):(plan v).kind=(core v).kind∧(core v).kind≠25∧mayB (core v)=true:=plan_kind_of _ v (Nat.le_refl _) h
theorem may_kind {k n:Nat}{t:ByteArray}{ks:List V}(h:mayB (.mk k n t ks)=true)(hk:k≠25):1≤k∧k≤24:=by
 simp only[mayB,Bool.and_eq_true] at h;have h2:=h.1.2;unfold aloneOk at h2;by_cases h1:k=1
 ·omega
 by_cases h3:2≤k∧k≤14
 ·omega
 by_cases h4:15≤k∧k≤21
 ·omega
 by_cases h5:22≤k∧k≤25
 ·omega
 rw[if_neg h1,if_neg h3,if_neg h4,if_neg h5] at h2;cases h2
theorem core_kind (v:V)(h:mayB v=true):1≤(core v).kind∧(core v).kind≤24:=by
 obtain⟨_,h2,h3⟩:=plan_kind v h;cases hc:core v with
 | mk k n t ks=>
  rw[hc] at h2 h3;exact may_kind h3 h2
theorem alike_core_of (N:Nat):∀ a b:V,bulk a≤N→mayB a=true→mayB b=true→alikeB a b=true→(core a).kind=(core b).kind:=by
 induction N with
 | zero=>intro v _ hN;have:=bulk_pos v;omega
 | succ N ih=>
  intro a b hN ha hb h;obtain⟨k,n,t,ks⟩:=a;obtain⟨k',n',t',ks'⟩:=b;by_cases hkk:k=k'
  ·subst hkk;by_cases hk:k=25
   ·subst hk;obtain⟨x,y,rfl,_,_,hy⟩:=may_desc ha;obtain⟨x',y',rfl,_,_,hy'⟩:=may_desc hb;rw[alikeB_desc,Bool.and_eq_true] at h;rw[core_desc,core_desc];exact ih y y' (by simp only[bulk,bulkL] at hN;omega) hy hy' h.2
   ·rw[core_not hk,core_not hk];rfl
  ·rw[alikeB_kind hkk] at h;cases h
theorem alike_core (a b:V)(ha:mayB a=true)(hb:mayB b=true)(h:alikeB a b=true):(core a).kind=(core b).kind:=alike_core_of _ a b (Nat.le_refl _) ha hb h
theorem fine_setc {M c:Nat}{b:Bool}{p:Pl}(h:Fine M p)(h1:64≤c∧c < 256)(h2:wid c≤8∨(15≤p.kind∧p.kind < 19)):Fine M (setc c b p):=by
 cases p with
 | mk ns k n t c' b' ks re im=>
  obtain⟨⟨_,_,a3,a4,a5,a6,_⟩,hr⟩:=h;exact⟨⟨h1.1,h1.2,a3,a4,a5,a6,h2⟩,hr⟩
theorem fine_addN {M:Nat}{ds:List Pl}{p:Pl}(h:Fine M p)(hd:FineL M ds)(hl:longN ds+longN p.names≤M):Fine M (addN ds p):=by
 cases p with
 | mk ns k n t c b ks re im=>
  obtain⟨⟨a1,a2,a3,a4,a5,a6,a7⟩,a8,a9,a10⟩:=h;refine⟨⟨a1,a2,a3,a4,a5,by rw[longN_append];exact hl,a7⟩,a8,fineL_mk fun q hq=>?_,a10⟩;rcases List.mem_append.1 hq with hq | hq
  ·exact fineL_mem hd q hq
  ·exact fineL_mem a9 q hq
theorem fine_null (M:Nat):Fine M null:=by
 have h1:wid 64=0:=by decide
 exact⟨⟨by omega,by omega,Nat.zero_le _,Nat.zero_le _,Nat.zero_le _,by simp[longN],.inl (by rw[h1];omega)⟩,Nat.zero_le _,trivial,trivial⟩
theorem names_cap (p:Pl):longN p.names≤cap p:=by
 cases p;simp only[Pl.names,cap];omega
mutual
theorem fine_plan (M:Nat):∀ v:V,mayB v=true→40 * bulk v≤M→Fine M (plan v)
 | .mk k n t ks,h,hM=>by
  by_cases hk:k=25
  ·subst hk;obtain⟨x,y,rfl,_,hx,hy⟩:=may_desc h;have h1:=fine_planL M [x,y] (may_kids h) (by simp only[bulk] at hM;omega);simp only[planL] at h1;rw[plan_desc];have c1:=cap_plan x hx;have c2:=cap_plan y hy;have c3:=long_cap (plan x);have c4:=names_cap (plan y);simp only[bulk,bulkL] at hM;exact fine_addN h1.2.1 ⟨h1.1,trivial⟩ (by simp only[longN];omega)
  ·have hkk:=may_kind h hk;have hks:=may_kids h;simp only[bulk] at hM;have h1:=fine_planL M ks hks (by omega);have hc:=cap_planL ks hks;have h2:=longK_alike (planL ks);have h3:=longK_caps (planL ks);have hlen:=length_bulk ks;rw[plan_core n t ks hk];have hcode:=pick_ok hkk.1 hkk.2 [raw [] k n t ks.length (if k=24 then alikeP (planL ks) else planL ks)];refine⟨⟨hcode.1,hcode.2.1,by omega,by split<;>omega,by omega,by simp[longN],hcode.2.2⟩,?_,trivial,?_⟩
   ·split
    ·cases hkl:planL ks with
     | nil=>simp[alikeP];omega
     | cons p r=>
      have:=planL_length ks;rw[hkl] at this;simp[alikeP] at this ⊢;omega
    ·rw[planL_length];omega
   ·split
    ·rename_i h24;subst h24;refine fineL_mk fun q hq=>?_;cases ks with
     | nil=>
      simp only[planL,alikeP,List.mem_singleton] at hq;rw[hq];exact fine_null M
     | cons a r=>
      have hall:∀ b∈a::r,mayB b=true∧(core b).kind=(core a).kind:=fun b hb=>by
       have hmb:=mayL_mem hks b hb;have hma:=mayL_mem hks a (by simp);refine⟨hmb,?_⟩;simp only[mayB,Bool.and_eq_true] at h;have hko:=h.2;unfold kidsOk at hko;rw[if_neg (by omega),if_pos rfl] at hko;rcases List.mem_cons.1 hb with rfl | hb
       ·rfl
       ·exact(alike_core a b hma hmb (List.all_eq_true.1 hko b hb)).symm
      have hkind:∀ q'∈planL (a::r),q'.kind=(core a).kind:=fun q' hq'=>by
       rw[planL_map] at hq';obtain⟨b,hb,rfl⟩:=List.mem_map.1 hq';rw[(plan_kind b (hall b hb).1).1,(hall b hb).2]
      have hfirst:first (planL (a::r))=pick (chs (core a).kind) (planL (a::r)):=by
       have:=hkind (plan a) (by simp[planL]);simp only[planL,first] at this ⊢;rw[this]
      have hck:=core_kind a (hall a (by simp)).1;have hcd:=pick_ok hck.1 hck.2 (planL (a::r));rw[←hfirst] at hcd;have hset:∀ b,∀ q'∈planL (a::r),Fine M (setc (first (planL (a::r))) b q'):=fun b q' hq'=>
       fine_setc (fineL_mem h1 q' hq') ⟨hcd.1,hcd.2.1⟩ (by rw[hkind q' hq'];exact hcd.2.2)
      simp only[planL,alikeP,List.mem_cons,List.mem_map] at hq hset;rcases hq with rfl | ⟨q',hq',rfl⟩
      ·exact hset false (plan a) (.inl rfl)
      ·exact hset true q' (.inr hq')
    ·exact h1
theorem fine_planL (M:Nat):∀ l:List V,mayL l=true→40 * bulkL l≤M→FineL M (planL l)
 | [],_,_=>trivial
 | v::r,h,hM=>by
  simp only[mayL,Bool.and_eq_true] at h;simp only[bulkL] at hM;exact⟨fine_plan M v h.1 (by omega),fine_planL M r h.2 (by omega)⟩
end
end Go.Proofs.YtcilmmdmkpnppaaGreatDoor.Enc
namespace Go.Proofs.YtcilmmdmkpnppaaGreatDoor.Enc
set_option maxRecDepth 100000
open Go.RowKit Utf Val V
def Part (C:Nat)(done:List Pl)(j:Nat)(dj:List Pl):Prop:=dj.length=done.length∧∀ i p,done[i]? = some p→dj[i]? = some (if i < j then setc C (decide (0 < i)) p else p)
theorem Part.start (C:Nat)(done:List Pl):Part C done 0 done:=⟨rfl,fun i p h=>by simpa using h⟩
theorem Part.step {C j:Nat}{done dj:List Pl}{p:Pl}(h:Part C done j dj)(hp:done[j]? = some p):Part C done (j+1) (dj.set j (setc C (decide (0 < j)) p)):=by
 refine⟨by simp[h.1],fun i q hq=>?_⟩;have hj:=(List.getElem?_eq_some_iff.1 hp).1;by_cases hi:i=j
 ·subst hi;rw[hp] at hq;injection hq with hq
  subst hq;rw[List.getElem?_set_self (by rw[h.1];exact hj),if_pos (by omega)]
 ·rw[List.getElem?_set_ne (Ne.symm hi),h.2 i q hq];by_cases hlt:i < j
  ·rw[if_pos hlt,if_pos (by omega)]
  ·rw[if_neg hlt,if_neg (by omega)]
theorem Part.done {j:Nat}{done dj:List Pl}(h:Part (first done) done j dj)(hj:done.length≤j)(h0:0 < done.length):dj=alikeP done:=by
 cases hd:done with
 | nil=>rw[hd] at h0;cases h0
 | cons p r=>
  refine List.ext_getElem? fun i=>?_;by_cases hi:i < done.length
  ·obtain⟨q,hx⟩:∃ q,done[i]? = some q:=⟨_,List.getElem?_eq_getElem hi⟩;rw[h.2 i _ hx,if_pos (by omega)];rw[hd] at hx hi;simp only[alikeP];cases i with
   | zero=>
    simp only[List.getElem?_cons_zero,Option.some.injEq] at hx ⊢;rw[←hd,hx];rfl
   | succ i=>
    simp only[List.getElem?_cons_succ] at hx ⊢;rw[List.getElem?_map,hx,←hd];rfl
  ·rw[List.getElem?_eq_none (by rw[h.1];omega),List.getElem?_eq_none (by rw[←show (alikeP (p::r)).length=done.length by rw[hd];simp[alikeP]] at hi;omega)]
theorem CellsP.setc {w:World}{P:Nat→Prop}{C:Nat}{b:Bool}{p:Pl}:∀ {ps:List Pl} {xs:List Value} {i:Nat},CellsP w P ps xs→ps[i]? = some p→CellsP w P (ps.set i (setc C b p)) ((xs.set (i * 9+5) (.int .u8 (C:Int))).set (i * 9+6) (.bool b))
 | [],_,_,_,h=>by simp at h
 | q::ps,xs,0,h,hp=>by
  obtain⟨c,ys,rfl,hc,hr⟩:=h;simp only[List.getElem?_cons_zero,Option.some.injEq] at hp;subst hp;obtain⟨ns,k,n,t,code,bb,ks,re,im⟩:=q;obtain⟨NA,nl,nc,VA,vl,vc,KA,kl,kc,rfl,h1,h2⟩:=repC_iff.1 hc;exact⟨_,ys,rfl,repC_iff.2 ⟨NA,nl,nc,VA,vl,vc,KA,kl,kc,rfl,h1,h2⟩,hr⟩
 | q::ps,xs,i+1,h,hp=>by
  obtain⟨c,ys,rfl,hc,hr⟩:=h;have hl:=hc.len;have:=CellsP.setc (C:=C) (b:=b) (i:=i) hr (by simpa using hp);refine⟨c,_,?_,hc,this⟩;rw[List.set_append,if_neg (by omega),List.set_append,if_neg (by omega),hl,show (i+1) * 9+5 - 9=i * 9+5 by omega,show (i+1) * 9+6 - 9=i * 9+6 by omega]
theorem PR.setc {B:Nat}{wr:World}{g n c:Nat}{done:List Pl}{xs:List Value}(h:PR B wr (some ⟨g,0,none⟩) n c done xs){j C:Nat}{b:Bool}{p:Pl}(hp:done[j]? = some p) :
  PR B ((wr.setCell ⟨g,j * 9+5,none⟩ (.int .u8 (C:Int))).setCell ⟨g,j * 9+6,none⟩ (.bool b)) (some ⟨g,0,none⟩) n c (done.set j (setc C b p)) ((xs.set (j * 9+5) (.int .u8 (C:Int))).set (j * 9+6) (.bool b)):=by
 refine⟨((h.own.stored _ _).1.stored _ _).1,CellsP.setc ?_ hp⟩;have hne:∀ i,(Value.slice (some ⟨g,0,none⟩) n c).ownBlock≠some i→i≠g:=fun i hi e=>hi (by subst e;rfl);refine(h.cells.keep fun i hi=>?_).mono fun i hi=>⟨hi.1,by simpa using hi.2.1,hi.2.2⟩;rw[Below.heap_setCell _ _ _ i (hne i hi.2.2),Below.heap_setCell _ _ _ i (hne i hi.2.2)]
def nullV:V:=.mk 1 0 ⟨#[]⟩ []
theorem plan_null:plan nullV=null:=by
 rw[nullV,plan_core 0 _ [] (by decide)];simp[fin,planL,raw,first,pick,chs,Pl.kind,longK,can,null]
def PlanV (v:V):Prop:=v.kind < 256→v.num < 18446744073709551616→∀ (A:Option Addr) (l c bm:Nat) (w:World),CM w bm→Kd w v.kids A l c→Calls Tryz.prog 49 #[.map (some bm),.agg #[.int .u8 (v.kind:Int),.int .u64 (v.num:Int),.string v.text,.slice A l c]] w (GivesP (plan v) w)
def GivesA (B:Nat)(l:List Pl)(w:World)(e:Ending)(w':World):Prop:=∃ A n c,e=.returned (.slice A n c)∧Pn B w' l A n c∧Below B w w'
theorem repC_of {w:World}{P:Nat→Prop}{ns ks:List Pl}{NA:Option Addr}{nl nc k n:Nat}{t:ByteArray}{VA:Option Addr}{vl vc code:Nat}{bb:Bool}{KA:Option Addr}{kl kc re im:Nat}(h1:Ps w P ns NA nl nc)(h2:Ps w P ks KA kl kc):RepC w P (.mk ns k n t code bb ks re im) [.slice NA nl nc,.int .u8 (k:Int),.int .u64 (n:Int),.string t,.slice VA vl vc,.int .u8 (code:Int),.bool bb,.slice KA kl kc,.complex .f64 (fb re) (fb im)]:=repC_iff.2 ⟨NA,nl,nc,VA,vl,vc,KA,kl,kc,rfl,h1,h2⟩
theorem pn_one {w:World}{B:Nat}{p:Pl}{cs:List Value}(hc:RepC w (fun i=>B≤i∧i < w.heap.size) p cs){W':World}(hb:Below w.heap.size w W'){g:Nat}(hg:B≤g∧g < W'.heap.size)(hx:∀ j u,cs[j]? = some u→W'.cell? ⟨g,j,none⟩=some u):Pn B W' [p] (some ⟨g,0,none⟩) 1 1:=by
 refine⟨rfl,Nat.le_refl _,fun _=>⟨g,0,rfl,hg,⟨cs,(hc.keep fun i hi=>hb.block i hi.2).mono fun i hi=>⟨hi.1,Nat.lt_of_lt_of_le hi.2 hb.size⟩,fun j hj=>?_⟩,trivial⟩⟩;have hj':j < cs.length:=by rw[hc.len];exact hj
 have hu:cs[j]? = some cs[j]:=List.getElem?_eq_getElem hj';rw[hu]
 simpa using hx j _ hu
set_option maxHeartbeats 1000000 in
theorem ealike_any (HN:PlanV nullV)(B bm:Nat)(A:Option Addr)(n c:Nat)(done:List Pl)(xs:List Value)(w:World)(hM:CM w bm)(hR:PR B w A n c done xs)(hB:Bnd done)(hbs:B≤w.heap.size)(hm:n≤1099511627776)(hk:∀ p,done[0]? = some p→1≤p.kind∧p.kind≤24) :
  Calls Tryz.prog 92 #[.map (some bm),.slice A n c] w (GivesA B (alikeP done) w):=by
 have hdl:=hR.len;by_cases h0:n=0
 ·subst h0;obtain rfl:=List.eq_nil_of_length_eq_zero hdl;have HV:∀ wx:World,Below w.heap.size w wx→Calls Tryz.prog 49 #[.map (some bm),.agg #[.int .u8 1,.int .u64 0,.string ⟨#[]⟩,.slice none 0 0]] wx (GivesP null wx):=fun wx hb=>plan_null▸HN (by decide) (by decide) none 0 0 bm wx (hM.call hb) (Kd.none_ _ _ _);clear hR hB hk hM;go_enter Tryz.func92,Tryz.ntmps92;go_wp2_with (first
   | (go_at_call 17;refine(null_any _).mono ?_;rintro e w1 ⟨rfl,hb1⟩)
   | (go_at_call 49;(with_reducible refine(HV _ hb1).mono ?_);rintro e w2 ⟨ns',k',n',t',code',bb',ks',re',im',NA',nl',nc',VA',vl',vc',KA',kl',kc',hpl,rfl,hpn,hpk,hb2⟩))
  go_ret;refine⟨_,_,_,rfl,?_,((hb1.mono hbs).trans (hb2.mono (Nat.le_trans hbs hb1.size))).alloc ?_ _⟩
  ·rw[show alikeP []=[null] from rfl,hpl];exact pn_one (repC_of (hpn.less (Nat.le_trans hbs hb1.size)) (hpk.less (Nat.le_trans hbs hb1.size))) ((Below.refl _ _).alloc (Nat.le_refl _) _) ⟨Nat.le_trans hbs (Nat.le_trans hb1.size hb2.size),by simp⟩ fun j u hu=>by have h:=news9 w2 (.slice NA' nl' nc') (.int .u8 (k':Int)) (.int .u64 (n':Int)) (.string t') (.slice VA' vl' vc') (.int .u8 (code':Int)) (.bool bb') (.slice KA' kl' kc') (.complex .f64 (fb re') (fb im')) 73 _ rfl j u hu;rwa [show (⟨w2.heap.size,0,none⟩:Addr).add j=⟨w2.heap.size,j,none⟩ by simp[Addr.add];intro h;exact h.symm] at h
  ·exact Nat.le_trans hbs (Nat.le_trans hb1.size hb2.size)
 ·obtain⟨g,rfl,hgB⟩:∃ g,A=some ⟨g,0,none⟩∧B≤g:=by
   rcases hR.own.2 with ⟨_,h⟩ | ⟨g,cap,cur,hv,hb,_⟩
   ·exact absurd h h0
   ·injection hv with h1 _ _
    exact⟨g,h1,hb⟩
  have hd0:done[0]? = some (done[0]'(by omega)):=List.getElem?_eq_getElem (by omega);have hk0:=hk _ hd0;have HF:Calls Tryz.prog 93 #[.map (some bm),.slice (some ⟨g,0,none⟩) n c] w (GivesC (first done) w):=by
   generalize done[0]'(by omega)=p at hd0 hk0;obtain⟨ns,k,n',t,code,bb,ks,re,im⟩:=p;exact first_any done bm _ n c w hM hR.pn.pd hB hm hd0 hk0.1 hk0.2
  obtain⟨C,hC⟩:∃ C,first done=C:=⟨_,rfl⟩
  rw[hC] at HF;have HC:=Lib.hid hC;have dn:((n:Int)==0)=false:=by rw[beq_eq_false_iff_ne];omega
  have HR:=Lib.hid hR;have HD:=Lib.hid hdl;have H0:=Lib.hid h0;clear hC hR hk hM hk0 hd0 h0 hB hdl;go_enter Tryz.func92,Tryz.ntmps92;go_wp2_with (go_at_call 93;refine HF.mono ?_;rintro e w1 ⟨rfl,hb1⟩);go_loopw [19] (fun i wr=>∃ (j:Nat) (dj:List Pl) (xs':List Value),j≤n∧i=.int .i64 j∧Part C done j dj∧PR B wr (some ⟨g,0,none⟩) n c dj xs'∧Below B w wr) (fun i _=>n - (intOf i).toNat)
  case atStart=>exact⟨0,done,xs,Nat.zero_le _,rfl,Part.start _ _,HR.out.call hb1,hb1.mono hbs⟩
  case round=>
   obtain⟨j,dj,xs',hj,rfl,hp,hr,hb⟩:=hrel;by_cases hlt:j < n
   ·have hx:done[j]? = some (done[j]'(by have:=HD.out;omega)):=List.getElem?_eq_getElem (by have:=HD.out;omega);have hdj:=hp.2 j _ hx;rw[if_neg (by omega)] at hdj;have HX:=Lib.hid hx;have HJ:=Lib.hid hdj;have HP:=Lib.hid hp;have hf1:wr.frozen? ⟨g,j * 9+5,none⟩=false:=hr.own.frozenAt _;have hf2:∀ u,(wr.setCell ⟨g,j * 9+5,none⟩ u).frozen? ⟨g,j * 9+6,none⟩=false:=fun u=>(hr.own.stored (j * 9+5) u).1.frozenAt _;obtain⟨v0,hc0⟩:∃ v0,wr.cell? ⟨g,j * 9+5,none⟩=some v0:=⟨_,(hr.own.cellAt _ (by omega)).trans (List.getElem?_eq_getElem (by rw[hr.own.1];omega))⟩;obtain⟨v1,hc1⟩:∃ v1,wr.cell? ⟨g,j * 9+6,none⟩=some v1:=⟨_,(hr.own.cellAt _ (by omega)).trans (List.getElem?_eq_getElem (by rw[hr.own.1];omega))⟩;have HRR:=Lib.hid hr;clear hx hdj hp hr;go_wp2;go_roundw
    case rel=>exact⟨j+1,_,_,by omega,by go_num,HP.out.step HX.out,HRR.out.setc HJ.out,(hb.setCell (by simpa using hgB) _).setCell (by simpa using hgB) _⟩
    case measure=>simp[intOf];omega
   ·have hp':dj=alikeP done:=by
     have h1:=HC.out;subst h1;exact hp.done (by have:=HD.out;omega) (by have:=HD.out;have:=H0.out;omega)
    have HE:=Lib.hid hp';have HRR:=Lib.hid hr;clear hp hr hp';go_wp2;go_ret;exact⟨_,_,_,rfl,HE.out▸HRR.out.pn,hb⟩
end Go.Proofs.YtcilmmdmkpnppaaGreatDoor.Enc
namespace Go.Proofs.YtcilmmdmkpnppaaGreatDoor.Enc
set_option maxRecDepth 100000
open Go.RowKit Utf Val V
structure P2 (w wr:World) (B:Nat) (ds:List Pl) (NA:Option Addr) (nl nc:Nat) (KA:Option Addr) (kl kc:Nat) (done:List Pl) (xs:List Value) (k n:Nat) (t:ByteArray) (A:Option Addr) (l c:Nat):Prop where
 hB:w.heap.size+1+1+1≤B
 names:Ps wr (fun i=>w.heap.size+1+1+1≤i∧i < B) ds NA nl nc
 box:Bx wr (w.heap.size+1+1) (.slice NA nl nc) (.int .u8 (k:Int)) (.int .u64 (n:Int)) (.string t) (.slice A l c) (.int .u8 0) (.bool false) (.slice KA kl kc) (.complex .f64 (fb 0) (fb l))
 res:Bx wr (w.heap.size+1) (.slice none 0 0) (.int .u8 0) (.int .u64 0) (.string ⟨#[]⟩) (.slice none 0 0) (.int .u8 0) (.bool false) (.slice none 0 0) (.complex .f64 0 0)
 row:PR B wr KA kl kc done xs
 low:Below w.heap.size w wr
 sz:B≤wr.heap.size
theorem P2.start {w wr:World}{v:V}{NA:Option Addr}{nl nc:Nat}{ds:List Pl}{xs:List Value}{k n:Nat}{t:ByteArray}{ks:List V}{A:Option Addr}{l c:Nat}(h:P1 w wr v NA nl nc ds xs k n t ks A l c) :
  P2 w (wr.setCell ⟨w.heap.size+1+1,8,none⟩ (.complex .f64 0 (fb l))) wr.heap.size ds NA nl nc none 0 0 [] [] k n t A l c:=by
 have hb:=h.box.set8 (.complex .f64 0 (fb l));rw[←fb_zero] at hb ⊢;exact⟨h.sz,h.row.pn.keep fun i hi=>Below.heap_setCell _ _ _ i (by simp;omega),hb,h.res.far (by simp) _,PR.nil _ _,h.low.setCell (by simp;omega) _,by simp⟩
theorem P2.step {w wr w1 w9:World}{B:Nat}{ds:List Pl}{NA:Option Addr}{nl nc:Nat}{KA:Option Addr}{kl kc:Nat}{done:List Pl}{xs:List Value}{k n:Nat}{t:ByteArray}{A:Option Addr}{l c:Nat}(h:P2 w wr B ds NA nl nc KA kl kc done xs k n t A l c)
  (hb1:Below wr.heap.size wr w1) {p:Pl} {cs:List Value} (hc:RepC w1 (fun i=>wr.heap.size≤i∧i < w1.heap.size) p cs) {g cap:Nat} (o:Obj)
  (hown:w9.ownsRow B 73 9 (.slice (some ⟨g,0,none⟩) (kl+1) cap) (kl+1) (xs++cs)) (hg:(w1.alloc o).grownBy w9 (Value.slice KA kl kc).ownBlock) (hat:(Value.slice KA kl kc).ownBlock=some g∨w1.heap.size≤g) :
  P2 w (w9.setCell ⟨w.heap.size+1+1,7,none⟩ (.slice (some ⟨g,0,none⟩) (kl+1) cap)) B ds NA nl nc (some ⟨g,0,none⟩) (kl+1) cap (done++[p]) (xs++cs) k n t A l c:=by
 have hob:=h.row.blk;have hs1:=hb1.size;have hs9:=hg.size;have hsz:=h.sz;have hB:=h.hB;have hrow1:=h.row.call hb1;have hcs:=RepC.mono (P':=fun i=>B≤i∧i < w1.heap.size∧(Value.slice KA kl kc).ownBlock≠some i) (fun i hi=>⟨by omega,hi.2,fun e=>by have:=hob i e;omega⟩) hc;have hpush:=hrow1.push hcs o rfl hown hg hat;have hfar:∀ r,(Value.slice KA kl kc).ownBlock=some r→w.heap.size+1+1 < r:=fun r e=>by have:=hob r e;omega
 have hfar':∀ r,(Value.slice KA kl kc).ownBlock=some r→w.heap.size+1 < r:=fun r e=>by have:=hob r e;omega
 have hbox:=(((h.box.call hb1).alloc o).grown hg hfar);have hres:=(((h.res.call hb1).alloc o).grown hg hfar');have hlow:Below w.heap.size w w9:=((below_next h.low hb1).alloc (by have:=h.low.size;omega) o).grown hg (by simp;have:=h.low.size;omega) fun r e=>by have:=hob r e;omega
 refine⟨hB,h.names.keep fun i hi=>?_,hbox.set7 _,hres.far (by simp) _,hpush.setCell (by simp;omega) _,hlow.setCell (by simp;omega) _,?_⟩
 ·have e1:(w9.setCell ⟨w.heap.size+1+1,7,none⟩ (.slice (some ⟨g,0,none⟩) (kl+1) cap)).heap[i]? = w9.heap[i]?:=Below.heap_setCell _ _ _ i (by simp;omega);rw[e1,hg.block i (by simp;omega) fun e=>by have:=hob i e.symm;omega,Below.heap_alloc _ _ _ (by omega)];exact hb1.block i (by omega)
 ·simp at hs9 ⊢;omega
structure P3 (w wr:World) (B:Nat) (ds:List Pl) (NA:Option Addr) (nl nc:Nat) (kids:List Pl) (KA:Option Addr) (kl kc re:Nat) (k n:Nat) (t:ByteArray) (A:Option Addr) (l c:Nat):Prop where
 hB:w.heap.size+1+1+1≤B
 names:Ps wr (fun i=>w.heap.size+1+1+1≤i∧i < B) ds NA nl nc
 box:Bx wr (w.heap.size+1+1) (.slice NA nl nc) (.int .u8 (k:Int)) (.int .u64 (n:Int)) (.string t) (.slice A l c) (.int .u8 0) (.bool false) (.slice KA kl kc) (.complex .f64 (fb re) (fb l))
 res:Bx wr (w.heap.size+1) (.slice none 0 0) (.int .u8 0) (.int .u64 0) (.string ⟨#[]⟩) (.slice none 0 0) (.int .u8 0) (.bool false) (.slice none 0 0) (.complex .f64 0 0)
 row:Pn B wr kids KA kl kc
 low:Below w.heap.size w wr
 sz:B≤wr.heap.size
section
variable {w wr w1:World} {B:Nat} {ds kids:List Pl} {NA:Option Addr} {nl nc:Nat} {KA:Option Addr} {kl kc:Nat} {done:List Pl} {xs:List Value} {k n:Nat} {t:ByteArray} {A:Option Addr} {l c re:Nat}
theorem P2.plain (h:P2 w wr B ds NA nl nc KA kl kc done xs k n t A l c):P3 w wr B ds NA nl nc done KA kl kc 0 k n t A l c:=⟨h.hB,h.names,h.box,h.res,h.row.pn,h.low,h.sz⟩
theorem P2.alike (h:P2 w wr B ds NA nl nc KA kl kc done xs k n t A l c)(hb:Below B wr w1){KA':Option Addr}{kl' kc':Nat}(hk:Pn B w1 kids KA' kl' kc'):P3 w (w1.setCell ⟨w.heap.size+1+1,7,none⟩ (.slice KA' kl' kc')) B ds NA nl nc kids KA' kl' kc' 0 k n t A l c:=by
 have hB:=h.hB;have hsz:=h.sz;have hs1:=hb.size;refine⟨hB,h.names.keep fun i hi=>?_,(h.box.below hb (by omega)).set7 _,(h.res.below hb (by omega)).far (by simp) _,?_,(h.low.trans (hb.mono (by have:=h.low.size;omega))).setCell (by simp;omega) _,by simp;omega⟩
 ·rw[Below.heap_setCell _ _ _ i (by simp;omega)];exact hb.block i hi.2
 ·exact(hk.keep fun i hi=>Below.heap_setCell _ _ _ i (by simp;omega)).mono fun i hi=>⟨hi.1,by simpa using hi.2⟩
theorem P3.step (h:P3 w wr B ds NA nl nc kids KA kl kc re k n t A l c)(hb:Below wr.heap.size wr w1){re':Nat}:P3 w (w1.setCell ⟨w.heap.size+1+1,8,none⟩ (.complex .f64 (fb re') (fb l))) B ds NA nl nc kids KA kl kc re' k n t A l c:=by
 have hB:=h.hB;have hsz:=h.sz;have hs1:=hb.size;refine⟨hB,h.names.keep fun i hi=>?_,(h.box.call hb).set8 _,(h.res.call hb).far (by simp) _,?_,(below_next h.low hb).setCell (by simp;omega) _,by simp;omega⟩
 ·rw[Below.heap_setCell _ _ _ i (by simp;omega)];exact hb.block i (by omega)
 ·exact((h.row.call hb).keep fun i hi=>Below.heap_setCell _ _ _ i (by simp;omega)).mono fun i hi=>⟨hi.1,by simpa using hi.2⟩
theorem P3.finish (h:P3 w wr B ds NA nl nc kids KA kl kc re k n t A l c){w2 W9:World}(hb:Below wr.heap.size wr w2)(hk:∀ i,w.heap.size+1+1+1≤i→W9.heap[i]? = w2.heap[i]?)(hs:w2.heap.size≤W9.heap.size):Pn w.heap.size W9 ds NA nl nc∧Pn w.heap.size W9 kids KA kl kc:=by
 have hB:=h.hB;have hsz:=h.sz;have hs1:=hb.size;refine⟨(h.names.keep fun i hi=>(hk i hi.1).trans (hb.block i (by omega))).mono fun i hi=>⟨by omega,by omega⟩,(h.row.keep fun i hi=>(hk i (by omega)).trans (hb.block i hi.2)).mono fun i hi=>⟨by omega,by omega⟩⟩
end
theorem conv_float (n:Nat)(w:World):(convert 3 114 (.int .i64 (n:Int))).run Tryz.prog w=.ok (.float .f64 (fb n)) w:=
 run_convert_int_float w 3 114 .i64 .f64 (n:Int) (by kernel_rfl) Tryz.underlying114
theorem add_cplx (a b c:Nat)(h:a+c < 2 ^ 53)(h':b < 2 ^ 53)(w:World):(binOp .add 71 (.complex .f64 (fb a) (fb b)) (.complex .f64 (fb c) 0)).run Tryz.prog w=.ok (.complex .f64 (fb (a+c)) (fb b)) w:=by
 have h1:=fb_sum a b c 0 h (by omega);rw[fb_zero] at h1;exact run_complex_sum w .add (.inl rfl) _ _ _ _ _ _ _ _ h1
end Go.Proofs.YtcilmmdmkpnppaaGreatDoor.Enc
end
section
namespace Go.Proofs.YtcilmmdmkpnppaaGreatDoor.Enc
set_option maxRecDepth 100000
open Val V Pl
mutual
def n64:V→Prop
 | .mk _ n _ ks=>n < 18446744073709551616∧n64L ks
def n64L:List V→Prop
 | []=>True
 | v::r=>n64 v∧n64L r
end
def kp (k:Nat)(ks:List V):List Pl:=if k=24 then alikeP (planL ks) else planL ks
def dat (c:Nat):V→List Nat
 | .mk k n t ks=>dlay k n t c (longK (kp k ks)) ks.length (layK (kp k ks))
def rawv:V→Pl
 | .mk k n t ks=>raw [] k n t ks.length (kp k ks)
def datL (c:Nat):List V→List Nat
 | []=>[]
 | v::r=>dat c (core v)++datL c r
theorem lay_core {k n:Nat}{t:ByteArray}{ks:List V}(h:k≠25):lay (plan (.mk k n t ks))=pick (chs k) [rawv (.mk k n t ks)]::dat (pick (chs k) [rawv (.mk k n t ks)]) (.mk k n t ks):=by
 rw[plan_core n t ks h,fin,lay,if_neg (by decide)];rfl
theorem addN_bare (ds:List Pl)(p:Pl):(addN ds p).bare=p.bare:=by cases p;rfl
theorem plan_bare_of (N:Nat):∀ v:V,bulk v≤N→mayB v=true→(plan v).bare=false:=by
 induction N with
 | zero=>intro v hN;have:=bulk_pos v;omega
 | succ N ih=>
  intro v hN h;obtain⟨k,n,t,ks⟩:=v;by_cases hk:k=25
  ·subst hk;obtain⟨x,y,rfl,_,hx,hy⟩:=may_desc h;rw[plan_desc,addN_bare];exact ih y (by simp only[bulk,bulkL] at hN;omega) hy
  ·rw[plan_core n t ks hk];rfl
theorem plan_bare (v:V)(h:mayB v=true):(plan v).bare=false:=plan_bare_of _ v (Nat.le_refl _) h
theorem plan_split_of (N:Nat):∀ v:V,bulk v≤N→mayB v=true→plan v=addN (planL (called v)) (plan (core v)):=by
 induction N with
 | zero=>intro v hN;have:=bulk_pos v;omega
 | succ N ih=>
  intro v hN h;obtain⟨k,n,t,ks⟩:=v;by_cases hk:k=25
  ·subst hk;obtain⟨x,y,rfl,_,hx,hy⟩:=may_desc h;rw[plan_desc,called_desc,core_desc,planL,ih y (by simp only[bulk,bulkL] at hN;omega) hy,addN_addN];rfl
  ·rw[called_not hk,core_not hk,planL,addN_nil]
theorem plan_split (v:V)(h:mayB v=true):plan v=addN (planL (called v)) (plan (core v)):=plan_split_of _ v (Nat.le_refl _) h
theorem core_may (v:V)(h:mayB v=true):mayB (core v)=true:=(plan_kind v h).2.2
theorem core_ne (v:V)(h:mayB v=true):(core v).kind≠25:=(plan_kind v h).2.1
theorem setc_bare (c:Nat)(v:V)(h:mayB v=true):lay (setc c true (plan v))=dat c (core v):=by
 rw[plan_split v h];have hk:=core_ne v h;generalize core v=u at hk ⊢;obtain⟨k,n,t,ks⟩:=u;have hk:k≠25:=hk;rw[plan_core n t ks hk];rfl
theorem setc_whole (c:Nat)(v:V)(h:mayB v=true):lay (setc c false (plan v))=layN (planL (called v))++(c::dat c (core v)):=by
 rw[plan_split v h];have hk:=core_ne v h;generalize core v=u at hk ⊢;obtain⟨k,n,t,ks⟩:=u;have hk:k≠25:=hk;rw[plan_core n t ks hk];simp only[fin,addN,setc,lay,List.append_nil];rfl
theorem can_core (f:Can)(v:V)(h:mayB v=true):can f (plan v)=can f (rawv (core v)):=by
 rw[plan_split v h];have hk:=core_ne v h;generalize core v=u at hk ⊢;obtain⟨k,n,t,ks⟩:=u;have hk:k≠25:=hk;rw[plan_core n t ks hk];exact can_names _ _ _ _ _ _ _ _ _ _ _ _ _ _
theorem layK_bare (c:Nat):∀ l:List V,mayL l=true→layK ((planL l).map (setc c true))=datL c l
 | [],_=>rfl
 | v::r,h=>by
  simp only[mayL,Bool.and_eq_true] at h;simp only[planL,List.map_cons,layK,datL,setc_bare c v h.1,layK_bare c r h.2]
def kcode (ks:List V):Nat:=first (planL ks)
theorem layK_alike (a:V)(r:List V)(h:mayL (a::r)=true):layK (alikeP (planL (a::r)))=layN (planL (called a))++(kcode (a::r)::datL (kcode (a::r)) (a::r)):=by
 simp only[mayL,Bool.and_eq_true] at h;have e:alikeP (planL (a::r))=setc (kcode (a::r)) false (plan a)::(planL r).map (setc (kcode (a::r)) true):=rfl;rw[e,layK,setc_whole _ a h.1,layK_bare _ r h.2];simp[datL]
theorem pick_spec (l:List Pl):∀ cs:List (Nat×Can),(∃ c,(c,Can.all)∈cs)→∃ f,(pick cs l,f)∈cs∧l.all (can f)=true
 | [],⟨c,h⟩=>by cases h
 | (c0,f0)::r,h=>by
  by_cases hc:l.all (can f0)=true
  ·exact⟨f0,by simp[pick,hc],hc⟩
  ·obtain⟨c,h⟩:=h;rcases List.mem_cons.1 h with h | h
   ·injection h with _ h
    rw[←h] at hc;exact absurd (List.all_eq_true.2 fun p _=>rfl) hc
   ·obtain⟨f,hf,ha⟩:=pick_spec l r ⟨c,h⟩;exact⟨f,by simp[pick,hc,hf],ha⟩
theorem pick_all {k:Nat}(h1:1≤k)(h2:k≤24)(l:List Pl):∃ f,(pick (chs k) l,f)∈chs k∧l.all (can f)=true:=by
 have h:=List.all_eq_true.1 codes_ok k (List.mem_range.2 (by omega));simp only[Bool.or_eq_true,beq_iff_eq,Bool.and_eq_true] at h;rcases h with h | ⟨ha,hb⟩
 ·omega
 ·obtain⟨⟨c,f⟩,hx,hf⟩:=List.any_eq_true.1 hb;have hf':f=.all:=by cases f<;>simp_all
  subst hf';exact pick_spec l (chs k) ⟨c,hx⟩
theorem alike_called_of (N:Nat):∀ a b:V,bulk a≤N→mayB a=true→mayB b=true→alikeB a b=true→called a=called b:=by
 induction N with
 | zero=>intro v _ hN;have:=bulk_pos v;omega
 | succ N ih=>
  intro a b hN ha hb h;obtain⟨k,n,t,ks⟩:=a;obtain⟨k',n',t',ks'⟩:=b;by_cases hkk:k=k'
  ·subst hkk;by_cases hk:k=25
   ·subst hk;obtain⟨x,y,rfl,_,_,hy⟩:=may_desc ha;obtain⟨x',y',rfl,_,_,hy'⟩:=may_desc hb;rw[alikeB_desc,Bool.and_eq_true] at h;rw[called_desc,called_desc,ih y y' (by simp only[bulk,bulkL] at hN;omega) hy hy' h.2,(same_iff _ _).1 h.1]
   ·rw[called_not hk,called_not hk]
  ·rw[alikeB_kind hkk] at h;cases h
theorem desc_plain {n:Nat}{t:ByteArray}{ks:List V}(h:mayB (.mk 25 n t ks)=true):n=0∧t=⟨#[]⟩:=by
 simp only[mayB,Bool.and_eq_true] at h;have:=h.1.2;simp[aloneOk,emptyB] at this;exact⟨this.1,(by rw[this.2];rfl)⟩
theorem core_bulk_of (N:Nat):∀ v:V,bulk v≤N→mayB v=true→bulk (core v)+bulkL (called v)≤bulk v:=by
 induction N with
 | zero=>intro v hN;have:=bulk_pos v;omega
 | succ N ih=>
  intro v hN h;obtain⟨k,n,t,ks⟩:=v;by_cases hk:k=25
  ·subst hk;obtain⟨x,y,rfl,_,hx,hy⟩:=may_desc h;have:=ih y (by simp only[bulk,bulkL] at hN;omega) hy;rw[called_desc,core_desc];simp only[bulk,bulkL];omega
  ·rw[called_not hk,core_not hk,bulkL];omega
theorem core_bulk (v:V)(h:mayB v=true):bulk (core v)+bulkL (called v)≤bulk v:=core_bulk_of _ v (Nat.le_refl _) h
theorem core_n64_of (N:Nat):∀ v:V,bulk v≤N→mayB v=true→n64 v→n64 (core v)∧n64L (called v)∧mayL (called v)=true:=by
 induction N with
 | zero=>intro v hN;have:=bulk_pos v;omega
 | succ N ih=>
  intro v hN h h6;obtain⟨k,n,t,ks⟩:=v;by_cases hk:k=25
  ·subst hk;obtain⟨x,y,rfl,_,hx,hy⟩:=may_desc h;have:=ih y (by simp only[bulk,bulkL] at hN;omega) hy h6.2.2.1;rw[called_desc,core_desc];exact⟨this.1,⟨h6.2.1,this.2.1⟩,by rw[mayL,hx,this.2.2];rfl⟩
  ·rw[called_not hk,core_not hk];exact⟨h6,trivial,rfl⟩
end Go.Proofs.YtcilmmdmkpnppaaGreatDoor.Enc
namespace Go.Proofs.YtcilmmdmkpnppaaGreatDoor.Enc
set_option maxRecDepth 100000
open Val V Pl
def Good (v:V):Prop:=mayB v=true∧n64 v∧bulk v≤67108864
def GoodL (l:List V):Prop:=mayL l=true∧n64L l∧bulkL l≤67108864
theorem Good.kids {k n:Nat}{t:ByteArray}{ks:List V}(h:Good (.mk k n t ks)):GoodL ks:=⟨may_kids h.1,h.2.1.2,by have:=h.2.2;simp only[bulk] at this;omega⟩
theorem GoodL.cons {v:V}{r:List V}(h:GoodL (v::r)):Good v∧GoodL r:=by
 obtain⟨h1,h2,h3⟩:=h;simp only[mayL,Bool.and_eq_true] at h1;simp only[bulkL] at h3;exact⟨⟨h1.1,h2.1,by omega⟩,h1.2,h2.2,by omega⟩
theorem Good.core {v:V}(h:Good v):Good (core v):=by
 have h1:=core_bulk v h.1;exact⟨core_may v h.1,(core_n64_of _ v (Nat.le_refl _) h.1 h.2.1).1,by have:=h.2.2;omega⟩
theorem Good.called {v:V}(h:Good v):GoodL (called v):=by
 have h1:=core_bulk v h.1;have h2:=core_n64_of _ v (Nat.le_refl _) h.1 h.2.1;exact⟨h2.2.2,h2.2.1,by have:=h.2.2;omega⟩
def canN (f:Can)(n:Nat):Prop:=match f with
 | .just m=>n=m
 | .upto m=>n≤m
 | .near=>n=sg1 n
 | .all=>True
 | _=>False
theorem sg1_near {n:Nat}(h:n=sg1 n)(h6:n < 18446744073709551616):n < 128∨18446744073709551488≤n:=by
 unfold sg1 at h
 split at h<;>omega
theorem num_inj {k c n n':Nat}{f:Can}(hk:2≤k∧k≤14)(h:(c,f)∈chs k)(hn:numB k n=true)(hn':numB k n'=true)(hf:canN f n)(hf':canN f n')(h6:n < 18446744073709551616)(h6':n' < 18446744073709551616) :
  (wid c=0→n=n')∧(n % 256 ^ wid c=n' % 256 ^ wid c→n=n'):=by
 have:k=2∨k=3∨k=4∨k=5∨k=6∨k=7∨k=8∨k=9∨k=10∨k=11∨k=12∨k=13∨k=14:=by omega
 rcases this with rfl | rfl | rfl | rfl | rfl | rfl | rfl | rfl | rfl | rfl | rfl | rfl | rfl<;>
  simp only[chs,List.mem_cons,Prod.mk.injEq,List.not_mem_nil,or_false] at h<;>
  (try rcases h with ⟨rfl,rfl⟩ | ⟨rfl,rfl⟩ | ⟨rfl,rfl⟩)<;>
  (try rcases h with ⟨rfl,rfl⟩ | ⟨rfl,rfl⟩)<;>
  (try obtain⟨rfl,rfl⟩:=h)<;>
  (try have q1:n < 128∨18446744073709551488≤n:=sg1_near hf h6)<;>(try have q2:n' < 128∨18446744073709551488≤n':=sg1_near hf' h6')<;>
  simp[numB,canN,wid,sgB,Utf.isC] at *<;>omega
theorem alone1 {n:Nat}{t:ByteArray}{ks:List V}(h:mayB (.mk 1 n t ks)=true):n=0∧t=⟨#[]⟩∧ks=[]:=by
 simp only[mayB,Bool.and_eq_true] at h;have:=h.1.2;simp[aloneOk,emptyB] at this;exact⟨this.1.1,(by rw[this.1.2];rfl),this.2⟩
theorem aloneN {k n:Nat}{t:ByteArray}{ks:List V}(hk:2≤k∧k≤14)(h:mayB (.mk k n t ks)=true):t=⟨#[]⟩∧ks=[]∧numB k n=true:=by
 simp only[mayB,Bool.and_eq_true] at h;have:=h.1.2;rw[aloneOk,if_neg (by omega),if_pos hk] at this;simp[emptyB] at this;exact⟨(by rw[this.1.1];rfl),this.1.2,this.2⟩
theorem aloneT {k n:Nat}{t:ByteArray}{ks:List V}(hk:15≤k∧k≤21)(h:mayB (.mk k n t ks)=true):n=0∧ks=[]∧textB k t=true:=by
 simp only[mayB,Bool.and_eq_true] at h;have:=h.1.2;rw[aloneOk,if_neg (by omega),if_neg (by omega),if_pos hk] at this;simp at this;exact⟨this.1.1,this.1.2,this.2⟩
theorem aloneK {k n:Nat}{t:ByteArray}{ks:List V}(hk:22≤k∧k≤25)(h:mayB (.mk k n t ks)=true):n=0∧t=⟨#[]⟩:=by
 simp only[mayB,Bool.and_eq_true] at h;have:=h.1.2;rw[aloneOk,if_neg (by omega),if_neg (by omega),if_neg (by omega),if_pos hk] at this;simp[emptyB] at this;exact⟨this.1,(by rw[this.2];rfl)⟩
theorem code_text {k c:Nat}{f:Can}(hk:15≤k∧k≤18)(h:(c,f)∈chs k):wid c≠0:=by
 have:k=15∨k=16∨k=17∨k=18:=by omega
 rcases this with rfl | rfl | rfl | rfl<;>simp only[chs,List.mem_cons,Prod.mk.injEq,List.not_mem_nil,or_false] at h<;>obtain⟨rfl,rfl⟩:=h<;>decide
theorem code_long {k c:Nat}{f:Can}(hk:19≤k∧k≤21)(h:(c,f)∈chs k):(wid c=1∧f=.short)∨(wid c=4∧f=.all):=by
 have:k=19∨k=20∨k=21:=by omega
 rcases this with rfl | rfl | rfl<;>simp only[chs,List.mem_cons,Prod.mk.injEq,List.not_mem_nil,or_false] at h<;>rcases h with ⟨rfl,rfl⟩ | ⟨rfl,rfl⟩<;>first | exact .inl ⟨by decide,rfl⟩ | exact .inr ⟨by decide,rfl⟩
theorem code_kids {k c:Nat}{f:Can}(hk:22≤k∧k≤24)(h:(c,f)∈chs k):(wid c=0∧f=.none_∧k=22)∨(wid c=1∧f=.small)∨(wid c=4∧f=.all):=by
 have:k=22∨k=23∨k=24:=by omega
 rcases this with rfl | rfl | rfl<;>simp only[chs,List.mem_cons,Prod.mk.injEq,List.not_mem_nil,or_false] at h<;>(repeat' (refine Or.elim h (fun h=>?_) (fun h=>?_)))<;>(obtain⟨rfl,rfl⟩:=h)<;>first | exact .inl ⟨by decide,rfl,rfl⟩ | exact .inr (.inl ⟨by decide,rfl⟩) | exact .inr (.inr ⟨by decide,rfl⟩)
theorem re_bound {k n:Nat}{t:ByteArray}{ks:List V}(h:Good (.mk k n t ks)):longK (kp k ks)≤40 * bulkL ks+1:=by
 have hk:=h.kids;have h1:=cap_planL ks hk.1;have h2:=longK_alike (planL ks);have h3:=longK_caps (planL ks);unfold kp
 split<;>omega
theorem can_num {k n:Nat}{t:ByteArray}{f:Can}{ks:List V}{c:Nat}(hk:2≤k∧k≤14)(h:(c,f)∈chs k)(hc:can f (rawv (.mk k n t ks))=true):canN f n:=by
 have:k=2∨k=3∨k=4∨k=5∨k=6∨k=7∨k=8∨k=9∨k=10∨k=11∨k=12∨k=13∨k=14:=by omega
 rcases this with rfl | rfl | rfl | rfl | rfl | rfl | rfl | rfl | rfl | rfl | rfl | rfl | rfl<;>
  simp only[chs,List.mem_cons,Prod.mk.injEq,List.not_mem_nil,or_false] at h<;>
  (repeat' (refine Or.elim h (fun h=>?_) (fun h=>?_)))<;>
  (obtain⟨rfl,rfl⟩:=h)<;>
  first | exact trivial | (simp only[can,rawv,raw,Pl.num] at hc;simp only[canN];exact of_decide_eq_true hc)
theorem arr_code {n:Nat}{t:ByteArray}{a:V}{r:List V}(h:mayB (.mk 24 n t (a::r))=true):∃ f,(kcode (a::r),f)∈chs (core a).kind∧1≤(core a).kind∧(core a).kind≤24∧∀ b∈a::r,(core b).kind=(core a).kind∧can f (plan b)=true∧called b=called a:=by
 have hks:=may_kids h;have hma:=mayL_mem hks a (by simp);have hck:=core_kind a hma;obtain⟨f,hf,hall⟩:=pick_all hck.1 hck.2 (planL (a::r));have e:kcode (a::r)=pick (chs (core a).kind) (planL (a::r)):=by
  rw[←(plan_kind a hma).1];rfl
 refine⟨f,e▸hf,hck.1,hck.2,fun b hb=>?_⟩;have hmb:=mayL_mem hks b hb;have hal:alikeB a b=true:=by
  simp only[mayB,Bool.and_eq_true] at h;have hko:=h.2;unfold kidsOk at hko;rw[if_neg (by omega),if_pos rfl] at hko;rcases List.mem_cons.1 hb with rfl | hb
  ·exact alikeB_refl b hmb
  ·exact List.all_eq_true.1 hko b hb
 refine⟨(alike_core a b hma hmb hal).symm,List.all_eq_true.1 hall _ ?_,(alike_called_of _ a b (Nat.le_refl _) hma hmb hal).symm⟩;rw[planL_map];exact List.mem_map_of_mem hb
end Go.Proofs.YtcilmmdmkpnppaaGreatDoor.Enc
end
section
namespace Go.Proofs.YtcilmmdmkpnppaaGreatDoor.Enc
set_option maxRecDepth 100000
open Val V Pl
theorem bulkL_mem {l:List V}{v:V}(h:v∈l):bulk v≤bulkL l:=by
 induction l with
 | nil=>cases h
 | cons x r ih=>
  simp only[bulkL];rcases List.mem_cons.1 h with rfl | h
  ·omega
  ·have:=ih h;omega
theorem GoodL.mem {l:List V}{v:V}(hl:GoodL l)(h:v∈l):Good v:=by
 induction l with
 | nil=>cases h
 | cons x r ih=>
  rcases List.mem_cons.1 h with rfl | h
  ·exact hl.cons.1
  ·exact ih hl.cons.2 h
theorem dlong_dlay {k n:Nat}{t:ByteArray}{c re im:Nat}{ks:List Nat}(h1:15≤k→k < 19→wid c≠0→t.size=wid c)(hre:re=ks.length):dlong k t c re=(dlay k n t c re im ks).length:=by
 unfold dlong dlay;by_cases h0:wid c=0
 ·simp[h0]
 rw[if_neg h0,if_neg h0];by_cases ha:k < 15
 ·rw[if_pos (by omega),if_pos ha,be_length]
 rw[if_neg ha];by_cases hb:k < 19
 ·rw[if_pos hb,if_pos hb,tb_length,h1 (by omega) hb h0]
 rw[if_neg hb,if_neg hb];by_cases hc:k≤21
 ·rw[if_pos hc,if_pos hc,List.length_append,be_length,tb_length]
 ·rw[if_neg hc,if_neg hc,List.length_append,List.length_append,be_length,be_length,hre];omega
theorem text_wid {k c:Nat}{f:Can}{t:ByteArray}(hk:15≤k∧k≤18)(h:(c,f)∈chs k)(ht:textB k t=true):t.size=wid c:=by
 have:k=15∨k=16∨k=17∨k=18:=by omega
 rcases this with rfl | rfl | rfl | rfl<;>simp only[chs,List.mem_cons,Prod.mk.injEq,List.not_mem_nil,or_false] at h<;>obtain⟨rfl,rfl⟩:=h<;>simp[textB] at ht<;>rw[ht]<;>decide
def Sz (v:V):Prop:=long (plan v)=(lay (plan v)).length∧∀ c f,(c,f)∈chs (core v).kind→∀ b,long (setc c b (plan v))=(lay (setc c b (plan v))).length
theorem szN:∀ l:List V,(∀ v∈l,Sz v)→longN (planL l)=(layN (planL l)).length
 | [],_=>rfl
 | v::r,h=>by
  have h1:=(h v (by simp)).1;have h2:=szN r fun x hx=>h x (by simp[hx]);simp only[planL,longN,layN,List.length_cons,List.length_append];omega
theorem szK:∀ l:List V,(∀ v∈l,Sz v)→longK (planL l)=(layK (planL l)).length
 | [],_=>rfl
 | v::r,h=>by
  have h1:=(h v (by simp)).1;have h2:=szK r fun x hx=>h x (by simp[hx]);simp only[planL,longK,layK,List.length_append];omega
theorem szB (c:Nat)(f:Can):∀ l:List V,(∀ v∈l,Sz v)→(∀ v∈l,(c,f)∈chs (core v).kind)→longK ((planL l).map (setc c true))=(layK ((planL l).map (setc c true))).length
 | [],_,_=>rfl
 | v::r,h,hc=>by
  have h1:=(h v (by simp)).2 c f (hc v (by simp)) true;have h2:=szB c f r (fun x hx=>h x (by simp[hx])) (fun x hx=>hc x (by simp[hx]));simp only[planL,List.map_cons,longK,layK,List.length_append];omega
theorem kp_sz {k n:Nat}{t:ByteArray}{ks:List V}(hm:mayB (.mk k n t ks)=true)(h:∀ v∈ks,Sz v):longK (kp k ks)=(layK (kp k ks)).length:=by
 unfold kp;by_cases hk:k=24
 ·rw[if_pos hk];subst hk;cases ks with
  | nil=>decide
  | cons a r=>
   obtain⟨f,hf,_,_,hall⟩:=arr_code hm;have e:alikeP (planL (a::r))=setc (kcode (a::r)) false (plan a)::(planL r).map (setc (kcode (a::r)) true):=rfl;have h1:=(h a (by simp)).2 _ f hf false;have h2:=szB _ f r (fun x hx=>h x (by simp[hx])) fun x hx=>by rw[(hall x (by simp[hx])).1];exact hf
   rw[e,longK,layK,List.length_append];omega
 ·rw[if_neg hk];exact szK ks h
theorem good_sz_of (N:Nat):∀ v:V,bulk v≤N→Good v→Sz v:=by
 induction N with
 | zero=>intro v hN;have:=bulk_pos v;omega
 | succ N ih=>
  intro v hN hg;have hcb:=core_bulk v hg.1;have hcg:=hg.core;have hck:=core_kind v hg.1;have hcn:=core_ne v hg.1;have hsp:=plan_split v hg.1;have hnm:longN (planL (called v))=(layN (planL (called v))).length:=szN _ fun x hx=>ih x (by have:=bulkL_mem hx;have:=bulk_pos (core v);omega) (hg.called.mem hx);unfold Sz;obtain⟨k,n,t,ks⟩:∃ x,x=core v:=⟨_,rfl⟩
  revert hcb hcg hck hcn hsp
  generalize core v=w;intro hcb hcg hck hcn hsp;obtain⟨k,n,t,ks⟩:=w;simp only[V.kind] at hck hcn;have hks:∀ x∈ks,Sz x:=fun x hx=>ih x (by have:=bulkL_mem hx;simp only[bulk] at hcb;omega) (hcg.kids.mem hx);have hkp:=kp_sz hcg.1 hks;have hpl:plan v=.mk (planL (called v)) k n t (first [raw [] k n t ks.length (kp k ks)]) false (kp k ks) (longK (kp k ks)) ks.length:=by
   rw[hsp,plan_core n t ks hcn];simp only[fin,addN,List.append_nil];rfl
  have key:∀ c f,(c,f)∈chs k→∀ b,long (.mk (planL (called v)) k n t c b (kp k ks) (longK (kp k ks)) ks.length)=(lay (.mk (planL (called v)) k n t c b (kp k ks) (longK (kp k ks)) ks.length)).length:=fun c f hc b=>by
   have hd:=dlong_dlay (k:=k) (n:=n) (t:=t) (c:=c) (re:=longK (kp k ks)) (im:=ks.length) (fun h15 h19 _=>text_wid ⟨h15,by omega⟩ hc (aloneT ⟨h15,by omega⟩ hcg.1).2.2) hkp;simp only[long,lay];cases b
   ·simp only[Bool.false_eq_true,if_false,List.length_append,List.length_cons];omega
   ·simp only[if_true];exact hd
  rw[hpl];refine⟨?_,fun c f hc b=>key c f hc b⟩;obtain⟨f,hf,_⟩:=pick_all hck.1 hck.2 [raw [] k n t ks.length (kp k ks)];exact key _ f hf false
theorem good_sz {v:V}(h:Good v):Sz v:=good_sz_of _ v (Nat.le_refl _) h
theorem ins_len {k n:Nat}{t:ByteArray}{ks:List V}(h:Good (.mk k n t ks)):longK (kp k ks)=(layK (kp k ks)).length:=kp_sz h.1 fun _ hx=>good_sz (h.kids.mem hx)
theorem kcode_pick {a:V}{r:List V}(h:mayB a=true):kcode (a::r)=pick (chs (core a).kind) (planL (a::r)):=by
 rw[←(plan_kind a h).1];rfl
theorem kcode_one {v:V}(h:mayB v=true):kcode [v]=pick (chs (core v).kind) [rawv (core v)]:=by
 rw[kcode_pick h];have:∀ cs:List (Nat×Can),pick cs (planL [v])=pick cs [rawv (core v)]:=fun cs=>by
  induction cs with
  | nil=>rfl
  | cons x r ih=>simp only[pick,planL,List.all_cons,List.all_nil,can_core x.2 v h] at ih ⊢;rw[ih];rfl
 exact this _
theorem lay_split {v:V}(h:mayB v=true):lay (plan v)=layN (planL (called v))++(kcode [v]::dat (kcode [v]) (core v)):=by
 have h1:=setc_whole (kcode [v]) v h;rw[←h1];have hb:=plan_bare v h;have:setc (kcode [v]) false (plan v)=plan v:=by
  have hf:(plan v).code=kcode [v]:=by
   rw[kcode_one h,plan_split v h];have hn:=core_ne v h
   revert hn
   generalize core v=w;intro hn;obtain⟨k,n,t,ks⟩:=w;simp only[V.kind] at hn;rw[plan_core n t ks hn];rfl
  revert hb hf
  generalize plan v=p;intro hb hf;cases p;simp only[Pl.bare,Pl.code] at hb hf;simp only[setc,hb,hf]
 rw[this]
end Go.Proofs.YtcilmmdmkpnppaaGreatDoor.Enc
end
