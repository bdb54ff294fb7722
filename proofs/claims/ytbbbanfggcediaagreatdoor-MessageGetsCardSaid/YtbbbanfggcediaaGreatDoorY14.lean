/- Contracts, each with its premises. -/
import Derived.Test.YtbbbanfggcediaaGreatDoorY03
import Derived.Test.YtbbbanfggcediaaGreatDoorY12
import Derived.Test.YtbbbanfggcediaaGreatDoorY13
set_option maxRecDepth 100000
set_option maxHeartbeats 8000000
namespace Go.Proofs.YtbbbanfggcediaaGreatDoor
open _root_.Go.Proofs.Tryz
open Prod renaming mk.injEq→ybU
open Option renaming some.injEq→ybT
open Bool renaming and_eq_true→ybQ,or_eq_true→ybW
open Go.RowKit.Below renaming heap_setCell→ybP
open List renaming length_append→ybO,length_cons→ybR,getElem?_eq_getElem→ybV,mem_cons→ybX
open Nat renaming lt_of_lt_of_le→ybN,le_trans→ybS
namespace Enc
open Go.RowKit Utf Val V
def addN (ds:List Pl):Pl→Pl
 | .mk ns k n t c b ks re im=>.mk (ds++ns) k n t c b ks re im
theorem zkI (p:Pl):addN [] p=p:=by cases p;rfl
theorem ziP (a b:List Pl)(p:Pl):addN a (addN b p)=addN (a++b) p:=by cases p;simp[addN]
theorem zcp (n:Nat)(t:ByteArray)(x y:V):plan (.mk 25 n t [x,y])=addN [plan x] (plan y):=by
 rw[plan,if_pos rfl,zar,zar,zar];cases plan y;rfl
theorem zbg {k:Nat}(n:Nat)(t:ByteArray)(ks:List V)(h:k≠25):plan (.mk k n t ks)=fin [] k n t ks.length (if k=24 then zbf (zar ks) else zar ks):=by rw[plan,if_neg h]
theorem zq (ds:List Pl)(k n:Nat)(t:ByteArray)(m:Nat)(ks:List Pl):addN ds (fin [] k n t m ks)=.mk ds k n t (first [raw ds k n t m ks]) false ks (zaV ks) m:=by
 simp only[addN,fin,raw,List.append_nil];rw[zjT]
theorem PR.far {B:Nat}{wr w':World}{A:Oz}{n c:Nat}{done:List Pl}{xs:List Value}(h:PR B wr A n c done xs)(hk:∀ i,B≤i→i < wr.heap.size→w'.heap[i]? = wr.heap[i]?)(hs:wr.heap.size≤w'.heap.size):PR B w' A n c done xs:=by
 refine⟨⟨h.own.1,?_⟩,(h.cells.keep fun i hi=>hk i hi.1 hi.2.1).mono fun i hi=>⟨hi.1,ybN hi.2.1 hs,hi.2.2⟩⟩;rcases h.own.2 with hn | ⟨g,cap,cur,hv,hb,hg,hr⟩
 ·exact .inl hn
 ·exact .inr ⟨g,cap,cur,hv,hb,(hk g hb (Array.getElem?_eq_some_iff.1 hg).1).trans hg,hr⟩
theorem PR.setCell {B:Nat}{wr:World}{A:Oz}{n c:Nat}{done:List Pl}{xs:List Value}(h:PR B wr A n c done xs){p:Addr}(hp:p.block < B)(u:Value):PR B (wr.setCell p u) A n c done xs:=
 h.far (fun i hi _=>ybP wr p u i (by omega)) (by simp)
theorem Bx.set (w:World)(g:Nat)(x0 x1 x2 x3 x4 x5 x6 x7 x8 u:Value)(h:Bx w g x0 x1 x2 x3 x4 x5 x6 x7 x8) :
  Bx (w.setCell ⟨g,0,none⟩ u) g u x1 x2 x3 x4 x5 x6 x7 x8∧Bx (w.setCell ⟨g,1,none⟩ u) g x0 u x2 x3 x4 x5 x6 x7 x8∧Bx (w.setCell ⟨g,2,none⟩ u) g x0 x1 u x3 x4 x5 x6 x7 x8∧Bx (w.setCell ⟨g,3,none⟩ u) g x0 x1 x2 u x4 x5 x6 x7 x8∧Bx (w.setCell ⟨g,4,none⟩ u) g x0 x1 x2 x3 u x5 x6 x7 x8 ∧
  Bx (w.setCell ⟨g,5,none⟩ u) g x0 x1 x2 x3 x4 u x6 x7 x8∧Bx (w.setCell ⟨g,7,none⟩ u) g x0 x1 x2 x3 x4 x5 x6 u x8∧Bx (w.setCell ⟨g,8,none⟩ u) g x0 x1 x2 x3 x4 x5 x6 x7 u:=by
 unfold Bx at h ⊢;refine⟨?_,?_,?_,?_,?_,?_,?_,?_⟩<;>simp[World.setCell,Array.getElem?_modify,h]
section
variable {w:World} {g:Nat} {x0 x1 x2 x3 x4 x5 x6 x7 x8:Value}
theorem Bx.set0 (h:Bx w g x0 x1 x2 x3 x4 x5 x6 x7 x8)(u:Value):Bx (w.setCell ⟨g,0,none⟩ u) g u x1 x2 x3 x4 x5 x6 x7 x8:=(Bx.set w g _ _ _ _ _ _ _ _ _ u h).1
theorem Bx.set1 (h:Bx w g x0 x1 x2 x3 x4 x5 x6 x7 x8)(u:Value):Bx (w.setCell ⟨g,1,none⟩ u) g x0 u x2 x3 x4 x5 x6 x7 x8:=(Bx.set w g _ _ _ _ _ _ _ _ _ u h).2.1
theorem Bx.set2 (h:Bx w g x0 x1 x2 x3 x4 x5 x6 x7 x8)(u:Value):Bx (w.setCell ⟨g,2,none⟩ u) g x0 x1 u x3 x4 x5 x6 x7 x8:=(Bx.set w g _ _ _ _ _ _ _ _ _ u h).2.2.1
theorem Bx.set3 (h:Bx w g x0 x1 x2 x3 x4 x5 x6 x7 x8)(u:Value):Bx (w.setCell ⟨g,3,none⟩ u) g x0 x1 x2 u x4 x5 x6 x7 x8:=(Bx.set w g _ _ _ _ _ _ _ _ _ u h).2.2.2.1
theorem Bx.set4 (h:Bx w g x0 x1 x2 x3 x4 x5 x6 x7 x8)(u:Value):Bx (w.setCell ⟨g,4,none⟩ u) g x0 x1 x2 x3 u x5 x6 x7 x8:=(Bx.set w g _ _ _ _ _ _ _ _ _ u h).2.2.2.2.1
theorem Bx.set7 (h:Bx w g x0 x1 x2 x3 x4 x5 x6 x7 x8)(u:Value):Bx (w.setCell ⟨g,7,none⟩ u) g x0 x1 x2 x3 x4 x5 x6 u x8:=(Bx.set w g _ _ _ _ _ _ _ _ _ u h).2.2.2.2.2.2.1
theorem Bx.set8 (h:Bx w g x0 x1 x2 x3 x4 x5 x6 x7 x8)(u:Value):Bx (w.setCell ⟨g,8,none⟩ u) g x0 x1 x2 x3 x4 x5 x6 x7 u:=(Bx.set w g _ _ _ _ _ _ _ _ _ u h).2.2.2.2.2.2.2
theorem Bx.grown {w':World}(h:Bx w g x0 x1 x2 x3 x4 x5 x6 x7 x8){row:Option Nat}(hg:w.grownBy w' row)(Hp:∀ r,row=some r→g < r):Bx w' g x0 x1 x2 x3 x4 x5 x6 x7 x8:=
 (hg.block g h.lt fun e=>by have:=Hp g e.symm;omega).trans h
end
structure P1 (w wr:World) (v:V) (NA:Oz) (nl nc:Nat) (done:List Pl) (xs:List Value) (k n:Nat) (t:ByteArray) (ks:List V) (A:Oz) (l c:Nat):Prop where
 eq:plan v=addN done (plan (.mk k n t ks))
 may:mayB (.mk k n t ks)=true
 blk:bulk (.mk k n t ks)+done.length≤bulk v
 num:k < 256∧n < 18446744073709551616
 kd:Val.Kids false w (Lo w.heap.size) ks A l c
 box:Bx wr (w.heap.size+1+1) (.slice NA nl nc) (.int .u8 (k:Int)) (.int .u64 (n:Int)) (.string t) (.slice A l c) (.int .u8 0) (.bool false) (.slice none 0 0) (.complex .f64 0 0)
 res:Bx wr (w.heap.size+1) (.slice none 0 0) (.int .u8 0) (.int .u64 0) (.string ⟨#[]⟩) (.slice none 0 0) (.int .u8 0) (.bool false) (.slice none 0 0) (.complex .f64 0 0)
 row:PR (w.heap.size+1+1+1) wr NA nl nc done xs
 low:Below w.heap.size w wr
 sz:w.heap.size+1+1+1≤wr.heap.size
theorem zsu {w wr:World}{ks:List V}{A:Oz}{l c:Nat}(h:Val.Kids false w (Lo w.heap.size) ks A l c)(hb:Below w.heap.size w wr):Val.Kids false wr (Lo w.heap.size) ks A l c:=h.keep fun i hi=>hb.block i hi
theorem znz {w wr:World}{ks:List V}{A:Oz}{l c:Nat}(h:Val.Kids false w (Lo w.heap.size) ks A l c)(hb:Below w.heap.size w wr):Kd wr ks A l c:=(zsu h hb).mono fun _ hi=>ybN hi hb.size
theorem P1.step {w wr w1 w9:World}{v:V}{NA:Oz}{nl nc:Nat}{done:List Pl}{xs:List Value}{n:Nat}{t:ByteArray}{A:Oz}{l c:Nat}{k1 n1:Nat}{t1:ByteArray}{ks1:List V}{k2 n2:Nat}{t2:ByteArray}{ks2:List V}{A2:Oz}{l2 c2:Nat}
  (h:P1 w wr v NA nl nc done xs 25 n t [.mk k1 n1 t1 ks1,.mk k2 n2 t2 ks2] A l c) (gR:k2 < 256∧n2 < 18446744073709551616) (kE:Val.Kids false w (Lo w.heap.size) ks2 A2 l2 c2)
  (Ha:Below wr.heap.size wr w1) {cs:List Value} (hc:RepC w1 (fun i=>wr.heap.size≤i∧i < w1.heap.size) (plan (.mk k1 n1 t1 ks1)) cs) {g cap:Nat} (o:Obj)
  (Hf:w9.ownsRow (w.heap.size+1+1+1) 88 9 (.slice (some ⟨g,0,none⟩) (nl+1) cap) (nl+1) (xs++cs)) (hg:(w1.alloc o).grownBy w9 (Value.slice NA nl nc).ownBlock) (gT:(Value.slice NA nl nc).ownBlock=some g∨w1.heap.size≤g) :
  P1 w (((((w9.setCell ⟨w.heap.size+1+1,0,none⟩ (.slice (some ⟨g,0,none⟩) (nl+1) cap)).setCell ⟨w.heap.size+1+1,1,none⟩ (.int .u8 (k2:Int))).setCell ⟨w.heap.size+1+1,2,none⟩ (.int .u64 (n2:Int))).setCell ⟨w.heap.size+1+1,3,none⟩ (.string t2)).setCell ⟨w.heap.size+1+1,4,none⟩ (.slice A2 l2 c2)) v (some ⟨g,0,none⟩) (nl+1) cap (done++[plan (.mk k1 n1 t1 ks1)]) (xs++cs) k2 n2 t2 ks2 A2 l2 c2:=by
 obtain⟨_,_,e0,_,_,GP⟩:=zaS h.may;injection e0 with _ e0
 injection e0 with e0
 subst e0;have ka:=h.row.blk;have gu:=Ha.size;have qM:=hg.size;have Hu:=h.sz;have jd:=h.row.call Ha;have jl:=RepC.mono (P':=fun i=>w.heap.size+1+1+1≤i∧i < w1.heap.size∧(Value.slice NA nl nc).ownBlock≠some i) (fun i hi=>⟨by omega,hi.2,fun e=>by have:=ka i e;omega⟩) hc;have Ki:=jd.push jl o rfl Hf hg gT;have Jr:∀ r,(Value.slice NA nl nc).ownBlock=some r→w.heap.size+1+1 < r:=fun r e=>by have:=ka r e;omega
 have qB:∀ r,(Value.slice NA nl nc).ownBlock=some r→w.heap.size+1 < r:=fun r e=>by have:=ka r e;omega
 have yp:=(((h.box.call Ha).alloc o).grown hg Jr);have yq:=(((h.res.call Ha).alloc o).grown hg qB);have gO:Below w.heap.size w w9:=((zad h.low Ha).alloc (by have:=h.low.size;omega) o).grown hg (by simp;have:=h.low.size;omega) fun r e=>by have:=ka r e;omega
 refine⟨?_,GP,?_,gR,kE,((((yp.set0 _).set1 _).set2 _).set3 _).set4 _,?_,?_,?_,?_⟩
 ·rw[h.eq,zcp,ziP]
 ·have:=h.blk;simp only[bulk,zai,ybO,ybR,List.length_nil] at this ⊢;omega
 ·exact((((yq.far (by simp) _).far (by simp) _).far (by simp) _).far (by simp) _).far (by simp) _
 ·exact((((Ki.setCell (by simp) _).setCell (by simp) _).setCell (by simp) _).setCell (by simp) _).setCell (by simp) _
 ·exact((((gO.setCell (by simp;omega) _).setCell (by simp;omega) _).setCell (by simp;omega) _).setCell (by simp;omega) _).setCell (by simp;omega) _
 ·simp at qM ⊢;omega
end Enc
namespace Enc
open Val V
def cap:Pl→Nat
 | .mk ns _ _ t _ _ _ re _=>zbq ns+33+t.size+re
theorem zdK:∀ p:Pl,long p≤cap p
 | .mk ns k n t c b ks re im=>by
  have:dlong k t c re≤32+t.size+re:=by
   have:=zkD c;unfold dlong
   split
   ·omega
   ·split
    ·omega
    ·split<;>omega
  simp only[long,cap]
  split<;>omega
theorem zkJ (c:Nat)(b:Bool)(p:Pl):cap (setc c b p)=cap p:=by cases p;rfl
theorem zqa (ds:List Pl)(p:Pl):cap (addN ds p)=zbq ds+cap p:=by
 cases p;simp only[addN,cap,zbX];omega
theorem zgU (c:Nat)(M:Nat):∀ l:List Pl,zaV (l.map (setc c true))≤(l.map cap).sum
 | []=>by simp[zaV]
 | p::r=>by
  have h1:=zdK (setc c true p);rw[zkJ] at h1;have h2:=zgU c M r;simp only[List.map_cons,zaV,List.sum_cons];omega
theorem zdL:∀ l:List Pl,zaV l≤(l.map cap).sum
 | []=>by simp[zaV]
 | p::r=>by
  have h1:=zdK p;have h2:=zdL r;simp only[List.map_cons,zaV,List.sum_cons];omega
theorem zd1 (l:List Pl):zaV (zbf l)≤(l.map cap).sum+1:=by
 cases l with
 | nil=>
  have:zaV [null]≤1:=by decide
  simpa [zbf] using this
 | cons p r=>
  have h1:=zdK (setc (first (p::r)) false p);rw[zkJ] at h1;have h2:=zgU (first (p::r)) 0 r;simp only[zbf,zaV,List.map_cons,List.sum_cons];omega
mutual
theorem zfB:∀ v:V,mayB v=true→cap (plan v)≤40 * bulk v
 | .mk k n t ks,h=>by
  by_cases hk:k=25
  ·subst hk;obtain⟨x,y,rfl,_,hx,hy⟩:=zaS h;have h1:=zdp [x,y] (zbn h);have h2:=zdK (plan x);simp only[zar,List.map_cons,List.map_nil,List.sum_cons,List.sum_nil,zai] at h1;rw[zcp,zqa];simp only[zbq,bulk,zai];omega
  ·have h1:=zdp ks (zbn h);have h2:=zd1 (zar ks);have h3:=zdL (zar ks);rw[zbg n t ks hk];simp only[fin,cap,zbq,bulk]
   split<;>omega
theorem zdp:∀ l:List V,mayL l=true→((zar l).map cap).sum≤40 * zai l
 | [],_=>by simp[zar,zai]
 | v::r,h=>by
  simp only[mayL,ybQ] at h;have h1:=zfB v h.1;have h2:=zdp r h.2;simp only[zar,List.map_cons,List.sum_cons,zai];omega
end
def zsv (k:Nat):Bool:=(chs k).all fun x=>decide (64≤x.1)&&decide (x.1 < 256)&&(decide (wid x.1≤8)||(decide (15≤k)&&decide (k < 19)))
def zsw (k:Nat):Bool:=(chs k).any fun x=>match x.2 with
 | .all=>true
 | _=>false
theorem zkK:((List.range 25).all fun k=>k==0||(zsv k&&zsw k))=true:=by decide +kernel
theorem zkL (l:List Pl):∀ cs:List (Nat×Can),(∃ c,(c,Can.all)∈cs)→∃ f,(pick cs l,f)∈cs
 | [],⟨c,h⟩=>by cases h
 | (c0,f0)::r,h=>by
  by_cases hc:l.all (can f0)=true
  ·exact⟨f0,by simp[pick,hc]⟩
  ·obtain⟨c,h⟩:=h;rcases List.mem_cons.1 h with h | h
   ·injection h with _ h
    rw[←h] at hc;exact absurd (List.all_eq_true.2 fun p _=>rfl) hc
   ·obtain⟨f,hf⟩:=zkL l r ⟨c,h⟩;exact⟨f,by simp[pick,hc,hf]⟩
theorem znA {k:Nat}(h1:1≤k)(h2:k≤24)(l:List Pl):64≤pick (chs k) l∧pick (chs k) l < 256∧(wid (pick (chs k) l)≤8∨(15≤k∧k < 19)):=by
 have h:=List.all_eq_true.1 zkK k (List.mem_range.2 (by omega));simp only[ybW,beq_iff_eq,ybQ] at h;rcases h with h | ⟨ha,hb⟩
 ·omega
 ·obtain⟨⟨c,f⟩,hx,hf⟩:=List.any_eq_true.1 hb;have xy:f=.all:=by cases f<;>simp_all
  subst xy;obtain⟨f,hm⟩:=zkL l (chs k) ⟨c,hx⟩;have:=List.all_eq_true.1 ha _ hm;simp only[ybQ,ybW,decide_eq_true_eq] at this;exact⟨this.1.1,this.1.2,this.2⟩
theorem ziQ (N:Nat):∀ v:V,bulk v≤N→mayB v=true→(plan v).kind=(core v).kind∧(core v).kind≠25∧mayB (core v)=true:=by
 induction N with
 | zero=>intro v hN;have:=zbz v;omega
 | succ N ih=>
  intro v hN h;obtain⟨k,n,t,ks⟩:=v;by_cases hk:k=25
  ·subst hk;obtain⟨x,y,rfl,_,hx,hy⟩:=zaS h;have:=ih y (by simp only[bulk,zai] at hN;omega) hy;rw[zcp,zcn];refine⟨?_,this.2⟩;rw[←this.1];cases plan y;rfl
  ·rw[zbg n t ks hk,zcD hk];exact⟨rfl,hk,h⟩
theorem zcq (v:V)(h:mayB v=true):(plan v).kind=(core v).kind∧(core v).kind≠25∧mayB (core v)=true:=ziQ _ v zab h
theorem zhG {k n:Nat}{t:ByteArray}{ks:List V}(h:mayB (.mk k n t ks)=true)(hk:k≠25):1≤k∧k≤24:=by
 simp only[mayB,ybQ] at h;have h2:=h.1.2;unfold zam at h2;by_cases h1:k=1
 ·omega
 by_cases h3:2≤k∧k≤14
 ·omega
 by_cases h4:15≤k∧k≤21
 ·omega
 by_cases h5:22≤k∧k≤25
 ·omega
 rw[if_neg h1,if_neg h3,if_neg h4,if_neg h5] at h2;cases h2
theorem zcN (v:V)(h:mayB v=true):1≤(core v).kind∧(core v).kind≤24:=by
 obtain⟨_,h2,h3⟩:=zcq v h;cases hc:core v with
 | mk k n t ks=>
  rw[hc] at h2 h3;exact zhG h3 h2
theorem zhH (N:Nat):∀ a b:V,bulk a≤N→mayB a=true→mayB b=true→zbb a b=true→(core a).kind=(core b).kind:=by
 induction N with
 | zero=>intro v _ hN;have:=zbz v;omega
 | succ N ih=>
  intro a b hN ha hb h;obtain⟨k,n,t,ks⟩:=a;obtain⟨k',n',t',ks'⟩:=b;by_cases kq:k=k'
  ·subst kq;by_cases hk:k=25
   ·subst hk;obtain⟨x,y,rfl,_,_,hy⟩:=zaS ha;obtain⟨x',y',rfl,_,_,Yg⟩:=zaS hb;rw[zck,ybQ] at h;rw[zcn,zcn];exact ih y y' (by simp only[bulk,zai] at hN;omega) hy Yg h.2
   ·rw[zcD hk,zcD hk];rfl
  ·rw[zcj kq] at h;cases h
theorem zgV (a b:V)(ha:mayB a=true)(hb:mayB b=true)(h:zbb a b=true):(core a).kind=(core b).kind:=zhH _ a b zab ha hb h
theorem znB {M c:Nat}{b:Bool}{p:Pl}(h:Fine M p)(h1:64≤c∧c < 256)(h2:wid c≤8∨(15≤p.kind∧p.kind < 19)):Fine M (setc c b p):=by
 cases p with
 | mk ns k n t c' b' ks re im=>
  obtain⟨⟨_,_,a3,a4,a5,a6,_⟩,hr⟩:=h;exact⟨⟨h1.1,h1.2,a3,a4,a5,a6,h2⟩,hr⟩
theorem znC {M:Nat}{ds:List Pl}{p:Pl}(h:Fine M p)(hd:zfn M ds)(hl:zbq ds+zbq p.names≤M):Fine M (addN ds p):=by
 cases p with
 | mk ns k n t c b ks re im=>
  obtain⟨⟨a1,a2,a3,a4,a5,a6,a7⟩,a8,a9,a10⟩:=h;refine⟨⟨a1,a2,a3,a4,a5,by rw[zbX];exact hl,a7⟩,a8,zhB fun q hq=>?_,a10⟩;rcases List.mem_append.1 hq with hq | hq
  ·exact zdm hd q hq
  ·exact zdm a9 q hq
theorem znD (M:Nat):Fine M null:=by
 have h1:wid 64=0:=by decide
 exact⟨⟨by omega,by omega,Nat.zero_le _,Nat.zero_le _,Nat.zero_le _,by simp[zbq],.inl (by rw[h1];omega)⟩,Nat.zero_le _,trivial,trivial⟩
theorem znE (p:Pl):zbq p.names≤cap p:=by
 cases p;simp only[Pl.names,cap];omega
mutual
theorem zge (M:Nat):∀ v:V,mayB v=true→40 * bulk v≤M→Fine M (plan v)
 | .mk k n t ks,h,hM=>by
  by_cases hk:k=25
  ·subst hk;obtain⟨x,y,rfl,_,hx,hy⟩:=zaS h;have h1:=zdM M [x,y] (zbn h) (by simp only[bulk] at hM;omega);simp only[zar] at h1;rw[zcp];have c1:=zfB x hx;have c2:=zfB y hy;have c3:=zdK (plan x);have c4:=znE (plan y);simp only[bulk,zai] at hM;exact znC h1.2.1 ⟨h1.1,trivial⟩ (by simp only[zbq];omega)
  ·have kq:=zhG h hk;have gQ:=zbn h;simp only[bulk] at hM;have h1:=zdM M ks gQ (by omega);have hc:=zdp ks gQ;have h2:=zd1 (zar ks);have h3:=zdL (zar ks);have hlen:=za0 ks;rw[zbg n t ks hk];have ky:=znA kq.1 kq.2 [raw [] k n t ks.length (if k=24 then zbf (zar ks) else zar ks)];refine⟨⟨ky.1,ky.2.1,by omega,by split<;>omega,by omega,by simp[zbq],ky.2.2⟩,?_,trivial,?_⟩
   ·split
    ·cases qR:zar ks with
     | nil=>simp[zbf];omega
     | cons p r=>
      have:=zbW ks;rw[qR] at this;simp[zbf] at this ⊢;omega
    ·rw[zbW];omega
   ·split
    ·rename_i jJ;subst jJ;refine zhB fun q hq=>?_;cases ks with
     | nil=>
      simp only[zar,zbf,List.mem_singleton] at hq;rw[hq];exact znD M
     | cons a r=>
      have gm:∀ b∈a::r,mayB b=true∧(core b).kind=(core a).kind:=fun b hb=>by
       have Yh:=zbj gQ b hb;have Yi:=zbj gQ a (by simp);refine⟨Yh,?_⟩;simp only[mayB,ybQ] at h;have Xs:=h.2;unfold zaR at Xs;rw[if_neg (by omega),if_pos rfl] at Xs;rcases List.mem_cons.1 hb with rfl | hb
       ·rfl
       ·exact(zgV a b Yi Yh (List.all_eq_true.1 Xs b hb)).symm
      have xO:∀ q'∈zar (a::r),q'.kind=(core a).kind:=fun q' Vg=>by
       rw[zev] at Vg;obtain⟨b,hb,rfl⟩:=List.mem_map.1 Vg;rw[(zcq b (gm b hb).1).1,(gm b hb).2]
      have yK:first (zar (a::r))=pick (chs (core a).kind) (zar (a::r)):=by
       have:=xO (plan a) (by simp[zar]);simp only[zar,first] at this ⊢;rw[this]
      have Kc:=zcN a (gm a (by simp)).1;have km:=znA Kc.1 Kc.2 (zar (a::r));rw[←yK] at km;have jt:∀ b,∀ q'∈zar (a::r),Fine M (setc (first (zar (a::r))) b q'):=fun b q' Vg=>
       znB (zdm h1 q' Vg) ⟨km.1,km.2.1⟩ (by rw[xO q' Vg];exact km.2.2)
      simp only[zar,zbf,ybX,List.mem_map] at hq jt;rcases hq with rfl | ⟨q',Vg,rfl⟩
      ·exact jt false (plan a) (.inl rfl)
      ·exact jt true q' (.inr Vg)
    ·exact h1
theorem zdM (M:Nat):∀ l:List V,mayL l=true→40 * zai l≤M→zfn M (zar l)
 | [],_,_=>trivial
 | v::r,h,hM=>by
  simp only[mayL,ybQ] at h;simp only[zai] at hM;exact⟨zge M v h.1 (by omega),zdM M r h.2 (by omega)⟩
end
end Enc
namespace Enc
open Go.RowKit Utf Val V
def Part (C:Nat)(done:List Pl)(j:Nat)(dj:List Pl):Prop:=dj.length=done.length∧∀ i p,done[i]? = some p→dj[i]? = some (if i < j then setc C (decide (0 < i)) p else p)
theorem Part.start (C:Nat)(done:List Pl):Part C done 0 done:=⟨rfl,fun i p h=>by simpa using h⟩
theorem Part.step {C j:Nat}{done dj:List Pl}{p:Pl}(h:Part C done j dj)(hp:done[j]? = some p):Part C done (j+1) (dj.set j (setc C (decide (0 < j)) p)):=by
 refine⟨by simp[h.1],fun i q hq=>?_⟩;have hj:=(List.getElem?_eq_some_iff.1 hp).1;by_cases hi:i=j
 ·subst hi;rw[hp] at hq;injection hq with hq
  subst hq;rw[List.getElem?_set_self (by rw[h.1];exact hj),if_pos (by omega)]
 ·rw[List.getElem?_set_ne (Ne.symm hi),h.2 i q hq];by_cases Hi:i < j
  ·rw[if_pos Hi,if_pos (by omega)]
  ·rw[if_neg Hi,if_neg (by omega)]
theorem Part.done {j:Nat}{done dj:List Pl}(h:Part (first done) done j dj)(hj:done.length≤j)(h0:0 < done.length):dj=zbf done:=by
 cases hd:done with
 | nil=>rw[hd] at h0;cases h0
 | cons p r=>
  refine List.ext_getElem? fun i=>?_;by_cases hi:i < done.length
  ·obtain⟨q,hx⟩:∃ q,done[i]? = some q:=⟨_,ybV hi⟩;rw[h.2 i _ hx,if_pos (by omega)];rw[hd] at hx hi;simp only[zbf];cases i with
   | zero=>
    simp only[List.getElem?_cons_zero,ybT] at hx ⊢;rw[←hd,hx];rfl
   | succ i=>
    simp only[List.getElem?_cons_succ] at hx ⊢;rw[List.getElem?_map,hx,←hd];rfl
  ·rw[List.getElem?_eq_none (by rw[h.1];omega),List.getElem?_eq_none (by rw[←show (zbf (p::r)).length=done.length by rw[hd];simp[zbf]] at hi;omega)]
theorem zbx.setc {w:World}{P:Nat→Prop}{C:Nat}{b:Bool}{p:Pl}:∀ {ps:List Pl} {xs:List Value} {i:Nat},zbx w P ps xs→ps[i]? = some p→zbx w P (ps.set i (setc C b p)) ((xs.set (i * 9+5) (.int .u8 (C:Int))).set (i * 9+6) (.bool b))
 | [],_,_,_,h=>by simp at h
 | q::ps,xs,0,h,hp=>by
  obtain⟨c,ys,rfl,hc,hr⟩:=h;simp only[List.getElem?_cons_zero,ybT] at hp;subst hp;obtain⟨ns,k,n,t,code,bb,ks,re,im⟩:=q;obtain⟨NA,nl,nc,VA,vl,vc,KA,kl,kc,rfl,h1,h2⟩:=zey.1 hc;exact⟨_,ys,rfl,zey.2 ⟨NA,nl,nc,VA,vl,vc,KA,kl,kc,rfl,h1,h2⟩,hr⟩
 | q::ps,xs,i+1,h,hp=>by
  obtain⟨c,ys,rfl,hc,hr⟩:=h;have hl:=hc.len;have:=zbx.setc (C:=C) (b:=b) (i:=i) hr (by simpa using hp);refine⟨c,_,?_,hc,this⟩;rw[List.set_append,if_neg (by omega),List.set_append,if_neg (by omega),hl,show (i+1) * 9+5 - 9=i * 9+5 by omega,show (i+1) * 9+6 - 9=i * 9+6 by omega]
theorem PR.setc {B:Nat}{wr:World}{g n c:Nat}{done:List Pl}{xs:List Value}(h:PR B wr (some ⟨g,0,none⟩) n c done xs){j C:Nat}{b:Bool}{p:Pl}(hp:done[j]? = some p) :
  PR B ((wr.setCell ⟨g,j * 9+5,none⟩ (.int .u8 (C:Int))).setCell ⟨g,j * 9+6,none⟩ (.bool b)) (some ⟨g,0,none⟩) n c (done.set j (setc C b p)) ((xs.set (j * 9+5) (.int .u8 (C:Int))).set (j * 9+6) (.bool b)):=by
 refine⟨((h.own.stored _ _).1.stored _ _).1,zbx.setc ?_ hp⟩;have Hp:∀ i,(Value.slice (some ⟨g,0,none⟩) n c).ownBlock≠some i→i≠g:=fun i hi e=>hi (by subst e;rfl);refine(h.cells.keep fun i hi=>?_).mono fun i hi=>⟨hi.1,by simpa using hi.2.1,hi.2.2⟩;rw[ybP _ _ _ i (Hp i hi.2.2),ybP _ _ _ i (Hp i hi.2.2)]
def za3:V:=.mk 1 0 ⟨#[]⟩ []
theorem ziR:plan za3=null:=by
 rw[za3,zbg 0 _ [] (by decide)];simp[fin,zar,raw,first,pick,chs,Pl.kind,zaV,can,null]
def ziS (v:V):Prop:=v.kind < 256→v.num < 18446744073709551616→∀ (A:Oz) (l c bm:Nat) (w:World),CM w bm→Kd w v.kids A l c→Calls prog 53 #[.map (some bm),.agg #[.int .u8 (v.kind:Int),.int .u64 (v.num:Int),.string v.text,.slice A l c]] w (zaT (plan v) w)
def zmt (B:Nat)(l:List Pl)(w:World)(e:Ending)(w':World):Prop:=∃ A n c,e=.returned (.slice A n c)∧Pn B w' l A n c∧Below B w w'
theorem zgf {w:World}{P:Nat→Prop}{ns ks:List Pl}{NA:Oz}{nl nc k n:Nat}{t:ByteArray}{VA:Oz}{vl vc code:Nat}{bb:Bool}{KA:Oz}{kl kc re im:Nat}(h1:Ps w P ns NA nl nc)(h2:Ps w P ks KA kl kc):RepC w P (.mk ns k n t code bb ks re im) [.slice NA nl nc,.int .u8 (k:Int),.int .u64 (n:Int),.string t,.slice VA vl vc,.int .u8 (code:Int),.bool bb,.slice KA kl kc,.complex .f64 (fb re) (fb im)]:=zey.2 ⟨NA,nl,nc,VA,vl,vc,KA,kl,kc,rfl,h1,h2⟩
theorem znF {w:World}{B:Nat}{p:Pl}{cs:List Value}(hc:RepC w (fun i=>B≤i∧i < w.heap.size) p cs){W':World}(hb:Below w.heap.size w W'){g:Nat}(hg:B≤g∧g < W'.heap.size)(hx:∀ j u,cs[j]? = some u→W'.cell? ⟨g,j,none⟩=some u):Pn B W' [p] (some ⟨g,0,none⟩) 1 1:=by
 refine⟨rfl,zab,fun _=>⟨g,0,rfl,hg,⟨cs,(hc.keep fun i hi=>hb.block i hi.2).mono fun i hi=>⟨hi.1,ybN hi.2 hb.size⟩,fun j hj=>?_⟩,trivial⟩⟩;have YZ:j < cs.length:=by rw[hc.len];exact hj
 have hu:cs[j]? = some cs[j]:=ybV YZ;rw[hu]
 simpa using hx j _ hu
theorem zlQ (HN:ziS za3)(B bm:Nat)(A:Oz)(n c:Nat)(done:List Pl)(xs:List Value)(w:World)(hM:CM w bm)(hR:PR B w A n c done xs)(hB:Bnd done)(Xt:B≤w.heap.size)(hm:n≤1099511627776)(hk:∀ p,done[0]? = some p→1≤p.kind∧p.kind≤24) :
  Calls prog 96 #[.map (some bm),.slice A n c] w (zmt B (zbf done) w):=by
 have Jc:=hR.len;by_cases h0:n=0
 ·subst h0;obtain rfl:=List.eq_nil_of_length_eq_zero Jc;have HV:∀ wx:World,Below w.heap.size w wx→Calls prog 53 #[.map (some bm),.agg #[.int .u8 1,.int .u64 0,.string ⟨#[]⟩,.slice none 0 0]] wx (zaT null wx):=fun wx hb=>ziR▸HN (by decide) (by decide) none 0 0 bm wx (hM.call hb) (Kd.none_ _ _ _);clear hR hB hk hM;go_enter func96,ntmps96;go_wp2_with (first
   | (go_at_call 49;refine(zaO _).mono ?_;rintro e w1 ⟨rfl,Ha⟩)
   | (go_at_call 53;(with_reducible refine(HV _ Ha).mono ?_);rintro e w2 ⟨ns',k',n',t',code',bb',ks',re',im',NA',nl',nc',VA',vl',vc',KA',kl',kc',Ji,rfl,J1,Qn,He⟩))
  go_ret;refine⟨_,_,_,rfl,?_,((Ha.mono Xt).trans (He.mono (ybS Xt Ha.size))).alloc ?_ _⟩
  ·rw[show zbf []=[null] from rfl,Ji];exact znF (zgf (J1.less (ybS Xt Ha.size)) (Qn.less (ybS Xt Ha.size))) ((za _ _)) ⟨ybS Xt (ybS Ha.size He.size),by simp⟩ fun j u hu=>by have h:=news9 w2 (.slice NA' nl' nc') (.int .u8 (k':Int)) (.int .u64 (n':Int)) (.string t') (.slice VA' vl' vc') (.int .u8 (code':Int)) (.bool bb') (.slice KA' kl' kc') (.complex .f64 (fb re') (fb im')) 88 _ rfl j u hu;rwa [show (⟨w2.heap.size,0,none⟩:Addr).add j=⟨w2.heap.size,j,none⟩ by simp[Addr.add];intro h;exact h.symm] at h
  ·exact ybS Xt (ybS Ha.size He.size)
 ·obtain⟨g,rfl,hgB⟩:∃ g,A=some ⟨g,0,none⟩∧B≤g:=by
   rcases hR.own.2 with ⟨_,h⟩ | ⟨g,cap,cur,hv,hb,_⟩
   ·exact absurd h h0
   ·injection hv with h1 _ _
    exact⟨g,h1,hb⟩
  have jI:done[0]? = some (done[0]'(by omega)):=ybV (by omega);have kB:=hk _ jI;have HF:Calls prog 97 #[.map (some bm),.slice (some ⟨g,0,none⟩) n c] w (zkF (first done) w):=by
   generalize done[0]'(by omega)=p at jI kB;obtain⟨ns,k,n',t,code,bb,ks,re,im⟩:=p;exact zdg done bm _ n c w hM hR.pn.pd hB hm jI kB.1 kB.2
  obtain⟨C,hC⟩:∃ C,first done=C:=⟨_,rfl⟩
  rw[hC] at HF;have HC:=zaa hC;have dn:((n:Int)==0)=false:=by rw[zac];omega
  have HR:=zaa hR;have HD:=zaa Jc;have H0:=zaa h0;clear hC hR hk hM kB jI h0 hB Jc;go_enter func96,ntmps96;go_wp2_with (go_at_call 97;refine HF.mono ?_;rintro e w1 ⟨rfl,Ha⟩);go_loopw [19] (fun i wr=>∃ (j:Nat) (dj:List Pl) (xs':List Value),j≤n∧i=.int .i64 j∧Part C done j dj∧PR B wr (some ⟨g,0,none⟩) n c dj xs'∧Below B w wr) (fun i _=>n - (intOf i).toNat)
  case atStart=>exact⟨0,done,xs,Nat.zero_le _,rfl,Part.start _ _,HR.out.call Ha,Ha.mono Xt⟩
  case round=>
   obtain⟨j,dj,xs',hj,rfl,hp,hr,hb⟩:=hrel;by_cases Hi:j < n
   ·have hx:done[j]? = some (done[j]'(by have:=HD.out;omega)):=ybV (by have:=HD.out;omega);have BO:=hp.2 j _ hx;rw[if_neg (by omega)] at BO;have HX:=zaa hx;have HJ:=zaa BO;have HP:=zaa hp;have gZ:wr.frozen? ⟨g,j * 9+5,none⟩=false:=hr.own.frozenAt _;have Gk:∀ u,(wr.setCell ⟨g,j * 9+5,none⟩ u).frozen? ⟨g,j * 9+6,none⟩=false:=fun u=>(hr.own.stored (j * 9+5) u).1.frozenAt _;obtain⟨v0,j3⟩:∃ v0,wr.cell? ⟨g,j * 9+5,none⟩=some v0:=⟨_,(hr.own.cellAt _ (by omega)).trans (ybV (by rw[hr.own.1];omega))⟩;obtain⟨v1,gM⟩:∃ v1,wr.cell? ⟨g,j * 9+6,none⟩=some v1:=⟨_,(hr.own.cellAt _ (by omega)).trans (ybV (by rw[hr.own.1];omega))⟩;have VC:=zaa hr;clear hx BO hp hr;go_wp2;go_roundw
    case rel=>exact⟨j+1,_,_,by omega,by go_num,HP.out.step HX.out,VC.out.setc HJ.out,(hb.setCell (by simpa using hgB) _).setCell (by simpa using hgB) _⟩
    case measure=>simp[intOf];omega
   ·have U8:dj=zbf done:=by
     have h1:=HC.out;subst h1;exact hp.done (by have:=HD.out;omega) (by have:=HD.out;have:=H0.out;omega)
    have HE:=zaa U8;have VC:=zaa hr;clear hp hr U8;go_wp2;go_ret;exact⟨_,_,_,rfl,HE.out▸VC.out.pn,hb⟩
structure P2 (w wr:World) (B:Nat) (ds:List Pl) (NA:Oz) (nl nc:Nat) (KA:Oz) (kl kc:Nat) (done:List Pl) (xs:List Value) (k n:Nat) (t:ByteArray) (A:Oz) (l c:Nat):Prop where
 hB:w.heap.size+1+1+1≤B
 names:Ps wr (fun i=>w.heap.size+1+1+1≤i∧i < B) ds NA nl nc
 box:Bx wr (w.heap.size+1+1) (.slice NA nl nc) (.int .u8 (k:Int)) (.int .u64 (n:Int)) (.string t) (.slice A l c) (.int .u8 0) (.bool false) (.slice KA kl kc) (.complex .f64 (fb 0) (fb l))
 res:Bx wr (w.heap.size+1) (.slice none 0 0) (.int .u8 0) (.int .u64 0) (.string ⟨#[]⟩) (.slice none 0 0) (.int .u8 0) (.bool false) (.slice none 0 0) (.complex .f64 0 0)
 row:PR B wr KA kl kc done xs
 low:Below w.heap.size w wr
 sz:B≤wr.heap.size
theorem P2.start {w wr:World}{v:V}{NA:Oz}{nl nc:Nat}{ds:List Pl}{xs:List Value}{k n:Nat}{t:ByteArray}{ks:List V}{A:Oz}{l c:Nat}(h:P1 w wr v NA nl nc ds xs k n t ks A l c) :
  P2 w (wr.setCell ⟨w.heap.size+1+1,8,none⟩ (.complex .f64 0 (fb l))) wr.heap.size ds NA nl nc none 0 0 [] [] k n t A l c:=by
 have hb:=h.box.set8 (.complex .f64 0 (fb l));rw[←znk] at hb ⊢;exact⟨h.sz,h.row.pn.keep fun i hi=>ybP _ _ _ i (by simp;omega),hb,h.res.far (by simp) _,PR.nil _ _,h.low.setCell (by simp;omega) _,by simp⟩
theorem P2.step {w wr w1 w9:World}{B:Nat}{ds:List Pl}{NA:Oz}{nl nc:Nat}{KA:Oz}{kl kc:Nat}{done:List Pl}{xs:List Value}{k n:Nat}{t:ByteArray}{A:Oz}{l c:Nat}(h:P2 w wr B ds NA nl nc KA kl kc done xs k n t A l c)
  (Ha:Below wr.heap.size wr w1) {p:Pl} {cs:List Value} (hc:RepC w1 (fun i=>wr.heap.size≤i∧i < w1.heap.size) p cs) {g cap:Nat} (o:Obj)
  (Hf:w9.ownsRow B 88 9 (.slice (some ⟨g,0,none⟩) (kl+1) cap) (kl+1) (xs++cs)) (hg:(w1.alloc o).grownBy w9 (Value.slice KA kl kc).ownBlock) (gT:(Value.slice KA kl kc).ownBlock=some g∨w1.heap.size≤g) :
  P2 w (w9.setCell ⟨w.heap.size+1+1,7,none⟩ (.slice (some ⟨g,0,none⟩) (kl+1) cap)) B ds NA nl nc (some ⟨g,0,none⟩) (kl+1) cap (done++[p]) (xs++cs) k n t A l c:=by
 have ka:=h.row.blk;have gu:=Ha.size;have qM:=hg.size;have Hu:=h.sz;have hB:=h.hB;have jd:=h.row.call Ha;have jl:=RepC.mono (P':=fun i=>B≤i∧i < w1.heap.size∧(Value.slice KA kl kc).ownBlock≠some i) (fun i hi=>⟨by omega,hi.2,fun e=>by have:=ka i e;omega⟩) hc;have Ki:=jd.push jl o rfl Hf hg gT;have Jr:∀ r,(Value.slice KA kl kc).ownBlock=some r→w.heap.size+1+1 < r:=fun r e=>by have:=ka r e;omega
 have qB:∀ r,(Value.slice KA kl kc).ownBlock=some r→w.heap.size+1 < r:=fun r e=>by have:=ka r e;omega
 have yp:=(((h.box.call Ha).alloc o).grown hg Jr);have yq:=(((h.res.call Ha).alloc o).grown hg qB);have gO:Below w.heap.size w w9:=((zad h.low Ha).alloc (by have:=h.low.size;omega) o).grown hg (by simp;have:=h.low.size;omega) fun r e=>by have:=ka r e;omega
 refine⟨hB,h.names.keep fun i hi=>?_,yp.set7 _,yq.far (by simp) _,Ki.setCell (by simp;omega) _,gO.setCell (by simp;omega) _,?_⟩
 ·have e1:(w9.setCell ⟨w.heap.size+1+1,7,none⟩ (.slice (some ⟨g,0,none⟩) (kl+1) cap)).heap[i]? = w9.heap[i]?:=ybP _ _ _ i (by simp;omega);rw[e1,hg.block i (by simp;omega) fun e=>by have:=ka i e.symm;omega,Below.heap_alloc _ _ _ (by omega)];exact Ha.block i (by omega)
 ·simp at qM ⊢;omega
structure P3 (w wr:World) (B:Nat) (ds:List Pl) (NA:Oz) (nl nc:Nat) (kids:List Pl) (KA:Oz) (kl kc re:Nat) (k n:Nat) (t:ByteArray) (A:Oz) (l c:Nat):Prop where
 hB:w.heap.size+1+1+1≤B
 names:Ps wr (fun i=>w.heap.size+1+1+1≤i∧i < B) ds NA nl nc
 box:Bx wr (w.heap.size+1+1) (.slice NA nl nc) (.int .u8 (k:Int)) (.int .u64 (n:Int)) (.string t) (.slice A l c) (.int .u8 0) (.bool false) (.slice KA kl kc) (.complex .f64 (fb re) (fb l))
 res:Bx wr (w.heap.size+1) (.slice none 0 0) (.int .u8 0) (.int .u64 0) (.string ⟨#[]⟩) (.slice none 0 0) (.int .u8 0) (.bool false) (.slice none 0 0) (.complex .f64 0 0)
 row:Pn B wr kids KA kl kc
 low:Below w.heap.size w wr
 sz:B≤wr.heap.size
section
variable {w wr w1:World} {B:Nat} {ds kids:List Pl} {NA:Oz} {nl nc:Nat} {KA:Oz} {kl kc:Nat} {done:List Pl} {xs:List Value} {k n:Nat} {t:ByteArray} {A:Oz} {l c re:Nat}
theorem P2.plain (h:P2 w wr B ds NA nl nc KA kl kc done xs k n t A l c):P3 w wr B ds NA nl nc done KA kl kc 0 k n t A l c:=⟨h.hB,h.names,h.box,h.res,h.row.pn,h.low,h.sz⟩
theorem P2.alike (h:P2 w wr B ds NA nl nc KA kl kc done xs k n t A l c)(hb:Below B wr w1){KA':Oz}{kl' kc':Nat}(hk:Pn B w1 kids KA' kl' kc'):P3 w (w1.setCell ⟨w.heap.size+1+1,7,none⟩ (.slice KA' kl' kc')) B ds NA nl nc kids KA' kl' kc' 0 k n t A l c:=by
 have hB:=h.hB;have Hu:=h.sz;have gu:=hb.size;refine⟨hB,h.names.keep fun i hi=>?_,(h.box.below hb (by omega)).set7 _,(h.res.below hb (by omega)).far (by simp) _,?_,(h.low.trans (hb.mono (by have:=h.low.size;omega))).setCell (by simp;omega) _,by simp;omega⟩
 ·rw[ybP _ _ _ i (by simp;omega)];exact hb.block i hi.2
 ·exact(hk.keep fun i hi=>ybP _ _ _ i (by simp;omega)).mono fun i hi=>⟨hi.1,by simpa using hi.2⟩
theorem P3.step (h:P3 w wr B ds NA nl nc kids KA kl kc re k n t A l c)(hb:Below wr.heap.size wr w1){re':Nat}:P3 w (w1.setCell ⟨w.heap.size+1+1,8,none⟩ (.complex .f64 (fb re') (fb l))) B ds NA nl nc kids KA kl kc re' k n t A l c:=by
 have hB:=h.hB;have Hu:=h.sz;have gu:=hb.size;refine⟨hB,h.names.keep fun i hi=>?_,(h.box.call hb).set8 _,(h.res.call hb).far (by simp) _,?_,(zad h.low hb).setCell (by simp;omega) _,by simp;omega⟩
 ·rw[ybP _ _ _ i (by simp;omega)];exact hb.block i (by omega)
 ·exact((h.row.call hb).keep fun i hi=>ybP _ _ _ i (by simp;omega)).mono fun i hi=>⟨hi.1,by simpa using hi.2⟩
theorem P3.finish (h:P3 w wr B ds NA nl nc kids KA kl kc re k n t A l c){w2 W9:World}(hb:Below wr.heap.size wr w2)(hk:∀ i,w.heap.size+1+1+1≤i→W9.heap[i]? = w2.heap[i]?)(hs:w2.heap.size≤W9.heap.size):Pn w.heap.size W9 ds NA nl nc∧Pn w.heap.size W9 kids KA kl kc:=by
 have hB:=h.hB;have Hu:=h.sz;have gu:=hb.size;refine⟨(h.names.keep fun i hi=>(hk i hi.1).trans (hb.block i (by omega))).mono fun i hi=>⟨by omega,by omega⟩,(h.row.keep fun i hi=>(hk i (by omega)).trans (hb.block i hi.2)).mono fun i hi=>⟨by omega,by omega⟩⟩
end
theorem zlR (n:Nat)(w:World):(convert 3 136 (.int .i64 (n:Int))).run prog w=.ok (.float .f64 (fb n)) w:=
 run_convert_int_float w 3 136 .i64 .f64 (n:Int) (by kernel_rfl) underlying136
theorem zkM (a b c:Nat)(h:a+c < 2 ^ 53)(h':b < 2 ^ 53)(w:World):(binOp .add 86 (.complex .f64 (fb a) (fb b)) (.complex .f64 (fb c) 0)).run prog w=.ok (.complex .f64 (fb (a+c)) (fb b)) w:=by
 have h1:=ztT a b c 0 h (by omega);rw[znk] at h1;exact run_complex_sum w .add (.inl rfl) _ _ _ _ _ _ _ _ h1
end Enc
namespace Enc
open Val V Pl
mutual
def n64:V→Prop
 | .mk _ n _ ks=>n < 18446744073709551616∧n64L ks
def n64L:List V→Prop
 | []=>True
 | v::r=>n64 v∧n64L r
end
def kp (k:Nat)(ks:List V):List Pl:=if k=24 then zbf (zar ks) else zar ks
def dat (c:Nat):V→Lz
 | .mk k n t ks=>dlay k n t c (zaV (kp k ks)) ks.length (layK (kp k ks))
def rawv:V→Pl
 | .mk k n t ks=>raw [] k n t ks.length (kp k ks)
def datL (c:Nat):List V→Lz
 | []=>[]
 | v::r=>dat c (core v)++datL c r
theorem zqb {k n:Nat}{t:ByteArray}{ks:List V}(h:k≠25):lay (plan (.mk k n t ks))=pick (chs k) [rawv (.mk k n t ks)]::dat (pick (chs k) [rawv (.mk k n t ks)]) (.mk k n t ks):=by
 rw[zbg n t ks h,fin,lay,if_neg (by decide)];rfl
theorem znG (ds:List Pl)(p:Pl):(addN ds p).bare=p.bare:=by cases p;rfl
theorem ziT (N:Nat):∀ v:V,bulk v≤N→mayB v=true→(plan v).bare=false:=by
 induction N with
 | zero=>intro v hN;have:=zbz v;omega
 | succ N ih=>
  intro v hN h;obtain⟨k,n,t,ks⟩:=v;by_cases hk:k=25
  ·subst hk;obtain⟨x,y,rfl,_,hx,hy⟩:=zaS h;rw[zcp,znG];exact ih y (by simp only[bulk,zai] at hN;omega) hy
  ·rw[zbg n t ks hk];rfl
theorem znH (v:V)(h:mayB v=true):(plan v).bare=false:=ziT _ v zab h
theorem zhI (N:Nat):∀ v:V,bulk v≤N→mayB v=true→plan v=addN (zar (called v)) (plan (core v)):=by
 induction N with
 | zero=>intro v hN;have:=zbz v;omega
 | succ N ih=>
  intro v hN h;obtain⟨k,n,t,ks⟩:=v;by_cases hk:k=25
  ·subst hk;obtain⟨x,y,rfl,_,hx,hy⟩:=zaS h;rw[zcp,zbO,zcn,zar,ih y (by simp only[bulk,zai] at hN;omega) hy,ziP];rfl
  ·rw[zb9 hk,zcD hk,zar,zkI]
theorem zcO (v:V)(h:mayB v=true):plan v=addN (zar (called v)) (plan (core v)):=zhI _ v zab h
theorem zqc (v:V)(h:mayB v=true):mayB (core v)=true:=(zcq v h).2.2
theorem zd2 (v:V)(h:mayB v=true):(core v).kind≠25:=(zcq v h).2.1
theorem znI (c:Nat)(v:V)(h:mayB v=true):lay (setc c true (plan v))=dat c (core v):=by
 rw[zcO v h];have hk:=zd2 v h;generalize core v=u at hk ⊢;obtain⟨k,n,t,ks⟩:=u;have hk:k≠25:=hk;rw[zbg n t ks hk];rfl
theorem zgW (c:Nat)(v:V)(h:mayB v=true):lay (setc c false (plan v))=layN (zar (called v))++(c::dat c (core v)):=by
 rw[zcO v h];have hk:=zd2 v h;generalize core v=u at hk ⊢;obtain⟨k,n,t,ks⟩:=u;have hk:k≠25:=hk;rw[zbg n t ks hk];simp only[fin,addN,setc,lay,List.append_nil];rfl
theorem zkN (f:Can)(v:V)(h:mayB v=true):can f (plan v)=can f (rawv (core v)):=by
 rw[zcO v h];have hk:=zd2 v h;generalize core v=u at hk ⊢;obtain⟨k,n,t,ks⟩:=u;have hk:k≠25:=hk;rw[zbg n t ks hk];exact ziH _ _ _ _ _ _ _ _ _ _ _ _ _ _
theorem ziU (c:Nat):∀ l:List V,mayL l=true→layK ((zar l).map (setc c true))=datL c l
 | [],_=>rfl
 | v::r,h=>by
  simp only[mayL,ybQ] at h;simp only[zar,List.map_cons,layK,datL,znI c v h.1,ziU c r h.2]
def kcode (ks:List V):Nat:=first (zar ks)
theorem zlS (a:V)(r:List V)(h:mayL (a::r)=true):layK (zbf (zar (a::r)))=layN (zar (called a))++(kcode (a::r)::datL (kcode (a::r)) (a::r)):=by
 simp only[mayL,ybQ] at h;have e:zbf (zar (a::r))=setc (kcode (a::r)) false (plan a)::(zar r).map (setc (kcode (a::r)) true):=rfl;rw[e,layK,zgW _ a h.1,ziU _ r h.2];simp[datL]
theorem ziV (l:List Pl):∀ cs:List (Nat×Can),(∃ c,(c,Can.all)∈cs)→∃ f,(pick cs l,f)∈cs∧l.all (can f)=true
 | [],⟨c,h⟩=>by cases h
 | (c0,f0)::r,h=>by
  by_cases hc:l.all (can f0)=true
  ·exact⟨f0,by simp[pick,hc],hc⟩
  ·obtain⟨c,h⟩:=h;rcases List.mem_cons.1 h with h | h
   ·injection h with _ h
    rw[←h] at hc;exact absurd (List.all_eq_true.2 fun p _=>rfl) hc
   ·obtain⟨f,hf,ha⟩:=ziV l r ⟨c,h⟩;exact⟨f,by simp[pick,hc,hf],ha⟩
theorem zfC {k:Nat}(h1:1≤k)(h2:k≤24)(l:List Pl):∃ f,(pick (chs k) l,f)∈chs k∧l.all (can f)=true:=by
 have h:=List.all_eq_true.1 zkK k (List.mem_range.2 (by omega));simp only[ybW,beq_iff_eq,ybQ] at h;rcases h with h | ⟨ha,hb⟩
 ·omega
 ·obtain⟨⟨c,f⟩,hx,hf⟩:=List.any_eq_true.1 hb;have xy:f=.all:=by cases f<;>simp_all
  subst xy;exact ziV l (chs k) ⟨c,hx⟩
def znJ:Can→Can→Bool
 | .all,.all=>true
 | .just m,.just n=>m==n
 | .upto m,.upto n=>m==n
 | .short,.short=>true
 | .near,.near=>true
 | .none_,.none_=>true
 | .small,.small=>true
 | _,_=>false
theorem zlT {a b:Can}(h:znJ a b=true):a=b:=by cases a<;>cases b<;>simp_all [znJ]
theorem zjX:((List.range 25).all fun k=>(List.range 25).all fun k'=>(chs k).all fun x=>(chs k').all fun y=>!(x.1==y.1)||((k==k')&&znJ x.2 y.2))=true:=by decide +kernel
theorem ziW {k k' c:Nat}{f f':Can}(hk:k≤24)(Gn:k'≤24)(h:(c,f)∈chs k)(h':(c,f')∈chs k'):k=k'∧f=f':=by
 have h1:=List.all_eq_true.1 (List.all_eq_true.1 (List.all_eq_true.1 (List.all_eq_true.1 zjX k (List.mem_range.2 (by omega))) k' (List.mem_range.2 (by omega))) _ h) _ h';simp only[beq_self_eq_true,Bool.not_true,Bool.false_or,ybQ,beq_iff_eq] at h1;exact⟨h1.1,zlT h1.2⟩
theorem zgg (N:Nat):∀ a b:V,bulk a≤N→mayB a=true→mayB b=true→zbb a b=true→called a=called b:=by
 induction N with
 | zero=>intro v _ hN;have:=zbz v;omega
 | succ N ih=>
  intro a b hN ha hb h;obtain⟨k,n,t,ks⟩:=a;obtain⟨k',n',t',ks'⟩:=b;by_cases kq:k=k'
  ·subst kq;by_cases hk:k=25
   ·subst hk;obtain⟨x,y,rfl,_,_,hy⟩:=zaS ha;obtain⟨x',y',rfl,_,_,Yg⟩:=zaS hb;rw[zck,ybQ] at h;rw[zbO,zbO,ih y y' (by simp only[bulk,zai] at hN;omega) hy Yg h.2,(zcB _ _).1 h.1]
   ·rw[zb9 hk,zb9 hk]
  ·rw[zcj kq] at h;cases h
theorem zlU {n:Nat}{t:ByteArray}{ks:List V}(h:mayB (.mk 25 n t ks)=true):n=0∧t=⟨#[]⟩:=by
 simp only[mayB,ybQ] at h;have:=h.1.2;simp[zam,zaW] at this;exact⟨this.1,(by rw[this.2];rfl)⟩
theorem ziX (N:Nat):∀ v:V,bulk v≤N→mayB v=true→bulk (core v)+zai (called v)≤bulk v:=by
 induction N with
 | zero=>intro v hN;have:=zbz v;omega
 | succ N ih=>
  intro v hN h;obtain⟨k,n,t,ks⟩:=v;by_cases hk:k=25
  ·subst hk;obtain⟨x,y,rfl,_,hx,hy⟩:=zaS h;have:=ih y (by simp only[bulk,zai] at hN;omega) hy;rw[zbO,zcn];simp only[bulk,zai];omega
  ·rw[zb9 hk,zcD hk,zai];omega
theorem zdq (v:V)(h:mayB v=true):bulk (core v)+zai (called v)≤bulk v:=ziX _ v zab h
theorem zgh (N:Nat):∀ v:V,bulk v≤N→mayB v=true→n64 v→n64 (core v)∧n64L (called v)∧mayL (called v)=true:=by
 induction N with
 | zero=>intro v hN;have:=zbz v;omega
 | succ N ih=>
  intro v hN h h6;obtain⟨k,n,t,ks⟩:=v;by_cases hk:k=25
  ·subst hk;obtain⟨x,y,rfl,_,hx,hy⟩:=zaS h;have:=ih y (by simp only[bulk,zai] at hN;omega) hy h6.2.2.1;rw[zbO,zcn];exact⟨this.1,⟨h6.2.1,this.2.1⟩,by rw[mayL,hx,this.2.2];rfl⟩
  ·rw[zb9 hk,zcD hk];exact⟨h6,trivial,rfl⟩
def Good (v:V):Prop:=mayB v=true∧n64 v∧bulk v≤67108864
def zgA (l:List V):Prop:=mayL l=true∧n64L l∧zai l≤67108864
theorem Good.kids {k n:Nat}{t:ByteArray}{ks:List V}(h:Good (.mk k n t ks)):zgA ks:=⟨zbn h.1,h.2.1.2,by have:=h.2.2;simp only[bulk] at this;omega⟩
theorem zgA.cons {v:V}{r:List V}(h:zgA (v::r)):Good v∧zgA r:=by
 obtain⟨h1,h2,h3⟩:=h;simp only[mayL,ybQ] at h1;simp only[zai] at h3;exact⟨⟨h1.1,h2.1,by omega⟩,h1.2,h2.2,by omega⟩
theorem Good.core {v:V}(h:Good v):Good (core v):=by
 have h1:=zdq v h.1;exact⟨zqc v h.1,(zgh _ v zab h.1 h.2.1).1,by have:=h.2.2;omega⟩
theorem Good.called {v:V}(h:Good v):zgA (called v):=by
 have h1:=zdq v h.1;have h2:=zgh _ v zab h.1 h.2.1;exact⟨h2.2.2,h2.2.1,by have:=h.2.2;omega⟩
def canN (f:Can)(n:Nat):Prop:=match f with
 | .just m=>n=m
 | .upto m=>n≤m
 | .near=>n=sg1 n
 | .all=>True
 | _=>False
theorem zhJ {n:Nat}(h:n=sg1 n)(h6:n < 18446744073709551616):n < 128∨18446744073709551488≤n:=by
 unfold sg1 at h
 split at h<;>omega
theorem zu9 {k c n n':Nat}{f:Can}(hk:2≤k∧k≤14)(h:(c,f)∈chs k)(hn:numB k n=true)(k8:numB k n'=true)(hf:canN f n)(xy:canN f n')(h6:n < 18446744073709551616)(h6':n' < 18446744073709551616) :
  (wid c=0→n=n')∧(n % 256 ^ wid c=n' % 256 ^ wid c→n=n'):=by
 have:k=2∨k=3∨k=4∨k=5∨k=6∨k=7∨k=8∨k=9∨k=10∨k=11∨k=12∨k=13∨k=14:=by omega
 rcases this with rfl | rfl | rfl | rfl | rfl | rfl | rfl | rfl | rfl | rfl | rfl | rfl | rfl<;>
  simp only[chs,ybX,ybU,List.not_mem_nil,or_false] at h<;>
  (try rcases h with ⟨rfl,rfl⟩ | ⟨rfl,rfl⟩ | ⟨rfl,rfl⟩)<;>
  (try rcases h with ⟨rfl,rfl⟩ | ⟨rfl,rfl⟩)<;>
  (try obtain⟨rfl,rfl⟩:=h)<;>
  (try have q1:n < 128∨18446744073709551488≤n:=zhJ hf h6)<;>(try have q2:n' < 128∨18446744073709551488≤n':=zhJ xy h6')<;>
  simp[numB,canN,wid,sgB,Utf.isC] at *<;>omega
theorem alone1 {n:Nat}{t:ByteArray}{ks:List V}(h:mayB (.mk 1 n t ks)=true):n=0∧t=⟨#[]⟩∧ks=[]:=by
 simp only[mayB,ybQ] at h;have:=h.1.2;simp[zam,zaW] at this;exact⟨this.1.1,(by rw[this.1.2];rfl),this.2⟩
theorem zrn {k n:Nat}{t:ByteArray}{ks:List V}(hk:2≤k∧k≤14)(h:mayB (.mk k n t ks)=true):t=⟨#[]⟩∧ks=[]∧numB k n=true:=by
 simp only[mayB,ybQ] at h;have:=h.1.2;rw[zam,if_neg (by omega),if_pos hk] at this;simp[zaW] at this;exact⟨(by rw[this.1.1];rfl),this.1.2,this.2⟩
theorem znK {k n:Nat}{t:ByteArray}{ks:List V}(hk:15≤k∧k≤21)(h:mayB (.mk k n t ks)=true):n=0∧ks=[]∧zb1 k t=true:=by
 simp only[mayB,ybQ] at h;have:=h.1.2;rw[zam,if_neg (by omega),if_neg (by omega),if_pos hk] at this;simp at this;exact⟨this.1.1,this.1.2,this.2⟩
theorem zt2 {k n:Nat}{t:ByteArray}{ks:List V}(hk:22≤k∧k≤25)(h:mayB (.mk k n t ks)=true):n=0∧t=⟨#[]⟩:=by
 simp only[mayB,ybQ] at h;have:=h.1.2;rw[zam,if_neg (by omega),if_neg (by omega),if_neg (by omega),if_pos hk] at this;simp[zaW] at this;exact⟨this.1,(by rw[this.2];rfl)⟩
theorem znL {k c:Nat}{f:Can}(hk:15≤k∧k≤18)(h:(c,f)∈chs k):wid c≠0:=by
 have:k=15∨k=16∨k=17∨k=18:=by omega
 rcases this with rfl | rfl | rfl | rfl<;>simp only[chs,ybX,ybU,List.not_mem_nil,or_false] at h<;>obtain⟨rfl,rfl⟩:=h<;>decide
theorem znM {k c:Nat}{f:Can}(hk:19≤k∧k≤21)(h:(c,f)∈chs k):(wid c=1∧f=.short)∨(wid c=4∧f=.all):=by
 have:k=19∨k=20∨k=21:=by omega
 rcases this with rfl | rfl | rfl<;>simp only[chs,ybX,ybU,List.not_mem_nil,or_false] at h<;>rcases h with ⟨rfl,rfl⟩ | ⟨rfl,rfl⟩<;>first | exact .inl ⟨by decide,rfl⟩ | exact .inr ⟨by decide,rfl⟩
theorem znN {k c:Nat}{f:Can}(hk:22≤k∧k≤24)(h:(c,f)∈chs k):(wid c=0∧f=.none_∧k=22)∨(wid c=1∧f=.small)∨(wid c=4∧f=.all):=by
 have:k=22∨k=23∨k=24:=by omega
 rcases this with rfl | rfl | rfl<;>simp only[chs,ybX,ybU,List.not_mem_nil,or_false] at h<;>(repeat' (refine Or.elim h (fun h=>?_) (fun h=>?_)))<;>(obtain⟨rfl,rfl⟩:=h)<;>first | exact .inl ⟨by decide,rfl,rfl⟩ | exact .inr (.inl ⟨by decide,rfl⟩) | exact .inr (.inr ⟨by decide,rfl⟩)
theorem zqd {k n:Nat}{t:ByteArray}{ks:List V}(h:Good (.mk k n t ks)):zaV (kp k ks)≤40 * zai ks+1:=by
 have hk:=h.kids;have h1:=zdp ks hk.1;have h2:=zd1 (zar ks);have h3:=zdL (zar ks);unfold kp
 split<;>omega
theorem zsx {k n:Nat}{t:ByteArray}{f:Can}{ks:List V}{c:Nat}(hk:2≤k∧k≤14)(h:(c,f)∈chs k)(hc:can f (rawv (.mk k n t ks))=true):canN f n:=by
 have:k=2∨k=3∨k=4∨k=5∨k=6∨k=7∨k=8∨k=9∨k=10∨k=11∨k=12∨k=13∨k=14:=by omega
 rcases this with rfl | rfl | rfl | rfl | rfl | rfl | rfl | rfl | rfl | rfl | rfl | rfl | rfl<;>
  simp only[chs,ybX,ybU,List.not_mem_nil,or_false] at h<;>
  (repeat' (refine Or.elim h (fun h=>?_) (fun h=>?_)))<;>
  (obtain⟨rfl,rfl⟩:=h)<;>
  first | exact trivial | (simp only[can,rawv,raw,Pl.num] at hc;simp only[canN];exact of_decide_eq_true hc)
theorem zkO {n:Nat}{t:ByteArray}{a:V}{r:List V}(h:mayB (.mk 24 n t (a::r))=true):∃ f,(kcode (a::r),f)∈chs (core a).kind∧1≤(core a).kind∧(core a).kind≤24∧∀ b∈a::r,(core b).kind=(core a).kind∧can f (plan b)=true∧called b=called a:=by
 have gQ:=zbn h;have Yi:=zbj gQ a (by simp);have Kc:=zcN a Yi;obtain⟨f,hf,gm⟩:=zfC Kc.1 Kc.2 (zar (a::r));have e:kcode (a::r)=pick (chs (core a).kind) (zar (a::r)):=by
  rw[←(zcq a Yi).1];rfl
 refine⟨f,e▸hf,Kc.1,Kc.2,fun b hb=>?_⟩;have Yh:=zbj gQ b hb;have JM:zbb a b=true:=by
  simp only[mayB,ybQ] at h;have Xs:=h.2;unfold zaR at Xs;rw[if_neg (by omega),if_pos rfl] at Xs;rcases List.mem_cons.1 hb with rfl | hb
  ·exact zcW b Yh
  ·exact List.all_eq_true.1 Xs b hb
 refine⟨(zgV a b Yi Yh JM).symm,List.all_eq_true.1 gm _ ?_,(zgg _ a b zab Yi Yh JM).symm⟩;rw[zev];exact List.mem_map_of_mem hb
theorem ziY {l:List V}{v:V}(h:v∈l):bulk v≤zai l:=by
 induction l with
 | nil=>cases h
 | cons x r ih=>
  simp only[zai];rcases List.mem_cons.1 h with rfl | h
  ·omega
  ·have:=ih h;omega
theorem zgA.mem {l:List V}{v:V}(hl:zgA l)(h:v∈l):Good v:=by
 induction l with
 | nil=>cases h
 | cons x r ih=>
  rcases List.mem_cons.1 h with rfl | h
  ·exact hl.cons.1
  ·exact ih hl.cons.2 h
theorem zlV {k n:Nat}{t:ByteArray}{c re im:Nat}{ks:Lz}(h1:15≤k→k < 19→wid c≠0→t.size=wid c)(J0:re=ks.length):dlong k t c re=(dlay k n t c re im ks).length:=by
 unfold dlong dlay;by_cases h0:wid c=0
 ·simp[h0]
 rw[if_neg h0,if_neg h0];by_cases ha:k < 15
 ·rw[if_pos (by omega),if_pos ha,zaF]
 rw[if_neg ha];by_cases hb:k < 19
 ·rw[if_pos hb,if_pos hb,zbK,h1 (by omega) hb h0]
 rw[if_neg hb,if_neg hb];by_cases hc:k≤21
 ·rw[if_pos hc,if_pos hc,ybO,zaF,zbK]
 ·rw[if_neg hc,if_neg hc,ybO,ybO,zaF,zaF,J0];omega
theorem zkP {k c:Nat}{f:Can}{t:ByteArray}(hk:15≤k∧k≤18)(h:(c,f)∈chs k)(ht:zb1 k t=true):t.size=wid c:=by
 have:k=15∨k=16∨k=17∨k=18:=by omega
 rcases this with rfl | rfl | rfl | rfl<;>simp only[chs,ybX,ybU,List.not_mem_nil,or_false] at h<;>obtain⟨rfl,rfl⟩:=h<;>simp[zb1] at ht<;>rw[ht]<;>decide
def Sz (v:V):Prop:=long (plan v)=(lay (plan v)).length∧∀ c f,(c,f)∈chs (core v).kind→∀ b,long (setc c b (plan v))=(lay (setc c b (plan v))).length
theorem szN:∀ l:List V,(∀ v∈l,Sz v)→zbq (zar l)=(layN (zar l)).length
 | [],_=>rfl
 | v::r,h=>by
  have h1:=(h v (by simp)).1;have h2:=szN r fun x hx=>h x (by simp[hx]);simp only[zar,zbq,layN,ybR,ybO];omega
theorem szK:∀ l:List V,(∀ v∈l,Sz v)→zaV (zar l)=(layK (zar l)).length
 | [],_=>rfl
 | v::r,h=>by
  have h1:=(h v (by simp)).1;have h2:=szK r fun x hx=>h x (by simp[hx]);simp only[zar,zaV,layK,ybO];omega
theorem szB (c:Nat)(f:Can):∀ l:List V,(∀ v∈l,Sz v)→(∀ v∈l,(c,f)∈chs (core v).kind)→zaV ((zar l).map (setc c true))=(layK ((zar l).map (setc c true))).length
 | [],_,_=>rfl
 | v::r,h,hc=>by
  have h1:=(h v (by simp)).2 c f (hc v (by simp)) true;have h2:=szB c f r (fun x hx=>h x (by simp[hx])) (fun x hx=>hc x (by simp[hx]));simp only[zar,List.map_cons,zaV,layK,ybO];omega
theorem zt3 {k n:Nat}{t:ByteArray}{ks:List V}(hm:mayB (.mk k n t ks)=true)(h:∀ v∈ks,Sz v):zaV (kp k ks)=(layK (kp k ks)).length:=by
 unfold kp;by_cases hk:k=24
 ·rw[if_pos hk];subst hk;cases ks with
  | nil=>decide
  | cons a r=>
   obtain⟨f,hf,_,_,gm⟩:=zkO hm;have e:zbf (zar (a::r))=setc (kcode (a::r)) false (plan a)::(zar r).map (setc (kcode (a::r)) true):=rfl;have h1:=(h a (by simp)).2 _ f hf false;have h2:=szB _ f r (fun x hx=>h x (by simp[hx])) fun x hx=>by rw[(gm x (by simp[hx])).1];exact hf
   rw[e,zaV,layK,ybO];omega
 ·rw[if_neg hk];exact szK ks h
theorem zlW (N:Nat):∀ v:V,bulk v≤N→Good v→Sz v:=by
 induction N with
 | zero=>intro v hN;have:=zbz v;omega
 | succ N ih=>
  intro v hN hg;have Jf:=zdq v hg.1;have Y0:=hg.core;have Kc:=zcN v hg.1;have JS:=zd2 v hg.1;have Yj:=zcO v hg.1;have Vh:zbq (zar (called v))=(layN (zar (called v))).length:=szN _ fun x hx=>ih x (by have:=ziY hx;have:=zbz (core v);omega) (hg.called.mem hx);unfold Sz;obtain⟨k,n,t,ks⟩:∃ x,x=core v:=⟨_,rfl⟩
  revert Jf Y0 Kc JS Yj
  generalize core v=w;intro Jf Y0 Kc JS Yj;obtain⟨k,n,t,ks⟩:=w;simp only[V.kind] at Kc JS;have gQ:∀ x∈ks,Sz x:=fun x hx=>ih x (by have:=ziY hx;simp only[bulk] at Jf;omega) (Y0.kids.mem hx);have hkp:=zt3 Y0.1 gQ;have Ji:plan v=.mk (zar (called v)) k n t (first [raw [] k n t ks.length (kp k ks)]) false (kp k ks) (zaV (kp k ks)) ks.length:=by
   rw[Yj,zbg n t ks JS];simp only[fin,addN,List.append_nil];rfl
  have key:∀ c f,(c,f)∈chs k→∀ b,long (.mk (zar (called v)) k n t c b (kp k ks) (zaV (kp k ks)) ks.length)=(lay (.mk (zar (called v)) k n t c b (kp k ks) (zaV (kp k ks)) ks.length)).length:=fun c f hc b=>by
   have hd:=zlV (k:=k) (n:=n) (t:=t) (c:=c) (re:=zaV (kp k ks)) (im:=ks.length) (fun JW U9 _=>zkP ⟨JW,by omega⟩ hc (znK ⟨JW,by omega⟩ Y0.1).2.2) hkp;simp only[long,lay];cases b
   ·simp only[Bool.false_eq_true,if_false,ybO,ybR];omega
   ·simp only[if_true];exact hd
  rw[Ji];refine⟨?_,fun c f hc b=>key c f hc b⟩;obtain⟨f,hf,_⟩:=zfC Kc.1 Kc.2 [raw [] k n t ks.length (kp k ks)];exact key _ f hf false
theorem zsy {v:V}(h:Good v):Sz v:=zlW _ v zab h
theorem zsz {k n:Nat}{t:ByteArray}{ks:List V}(h:Good (.mk k n t ks)):zaV (kp k ks)=(layK (kp k ks)).length:=zt3 h.1 fun _ hx=>zsy (h.kids.mem hx)
theorem zlX {a:V}{r:List V}(h:mayB a=true):kcode (a::r)=pick (chs (core a).kind) (zar (a::r)):=by
 rw[←(zcq a h).1];rfl
theorem ziZ {v:V}(h:mayB v=true):kcode [v]=pick (chs (core v).kind) [rawv (core v)]:=by
 rw[zlX h];have:∀ cs:List (Nat×Can),pick cs (zar [v])=pick cs [rawv (core v)]:=fun cs=>by
  induction cs with
  | nil=>rfl
  | cons x r ih=>simp only[pick,zar,List.all_cons,List.all_nil,zkN x.2 v h] at ih ⊢;rw[ih];rfl
 exact this _
theorem znO {v:V}(h:mayB v=true):lay (plan v)=layN (zar (called v))++(kcode [v]::dat (kcode [v]) (core v)):=by
 have h1:=zgW (kcode [v]) v h;rw[←h1];have hb:=znH v h;have:setc (kcode [v]) false (plan v)=plan v:=by
  have hf:(plan v).code=kcode [v]:=by
   rw[ziZ h,zcO v h];have hn:=zd2 v h
   revert hn
   generalize core v=w;intro hn;obtain⟨k,n,t,ks⟩:=w;simp only[V.kind] at hn;rw[zbg n t ks hn];rfl
  revert hb hf
  generalize plan v=p;intro hb hf;cases p;simp only[Pl.bare,Pl.code] at hb hf;simp only[setc,hb,hf]
 rw[this]
end Enc
end Go.Proofs.YtbbbanfggcediaaGreatDoor
