/-
  Contracts of functions and plain mathematics, text by text, each with its conditions ahead of it:
  Contract of (*walk).right, given keyTwice's: may a value be that stands so deep, so many parts having been seen? But for the count, memory that was there stays. Condition: values of bulk at most 2^30.
  Contract of value.Right, given keyTwice's. Memory that was there stays. Condition: values of bulk at most 2^30.
  Contract of value.Right; and, with plain numbers, what the laws' anchor 'works' asks of the values that it makes. Memory that was there stays. Condition of the last: the table of package utf.
  An element of a slice of values, and what value's Right, Depth, Items and Desc say of it. Memory that was there stays. Condition: values of bulk at most 2^21; of Right: the table of package utf.
-/
import Derived.Test.YtcilmmdmkpnppaaGreatDoorY02
import Derived.Test.YtcilmmdmkpnppaaGreatDoorY03
import Derived.Test.YtcilmmdmkpnppaaGreatDoorY04
import Derived.Test.YtcilmmdmkpnppaaGreatDoorY05
import Derived.Deep.RegionWith
import Derived.Deep.RegionHeld3
section
namespace Go.Proofs.YtcilmmdmkpnppaaGreatDoor.Val
set_option maxRecDepth 100000
open Go.RowKit Utf V
noncomputable def okD (c d:Nat)(v:V):Bool:=decide (c+items v≤1024)&&decide (d+depth v≤17)&&mayB v
theorem items_mk (k n:Nat)(t:ByteArray)(ks:List V):items (.mk k n t ks)=itemsL ks+1:=by simp only[items]
theorem depth_mk (k n:Nat)(t:ByteArray)(ks:List V):depth (.mk k n t ks)=depthL ks+1:=by simp only[depth]
theorem okD_one {c d:Nat}{v:V}(h:okD c d v=true):c+items v≤1024∧d+depth v≤17∧mayB v=true:=by
 simp only[okD,Bool.and_eq_true,decide_eq_true_eq] at h;exact⟨h.1.1,h.1.2,h.2⟩
theorem okD_of {c d:Nat}{v:V}(h1:c+items v≤1024)(h2:d+depth v≤17)(h3:mayB v=true):okD c d v=true:=by
 simp only[okD,Bool.and_eq_true,decide_eq_true_eq];exact⟨⟨h1,h2⟩,h3⟩
theorem okD_no {c d:Nat}{v:V}(h:okD c d v=true→False):okD c d v=false:=by
 cases h':okD c d v with
 | false=>rfl
 | true=>exact(h h').elim
theorem okD_deep {c d:Nat}{k n:Nat}{t:ByteArray}{ks:List V}(h:16 < d):okD c d (.mk k n t ks)=false:=
 okD_no fun h'=>by have:=(okD_one h').2.1;rw[depth_mk] at this;omega
theorem okD_many {c d:Nat}{k n:Nat}{t:ByteArray}{ks:List V}(h:1024≤c):okD c d (.mk k n t ks)=false:=
 okD_no fun h'=>by have:=(okD_one h').1;rw[items_mk] at this;omega
theorem may_mk {k n:Nat}{t:ByteArray}{ks:List V}(h:mayB (.mk k n t ks)=true):mayL ks=true∧aloneOk k n t ks.length=true∧kidsOk k ks=true:=by
 simp only[mayB,Bool.and_eq_true] at h;exact⟨h.1.1,h.1.2,h.2⟩
theorem okD_alone {c d:Nat}{k n:Nat}{t:ByteArray}{ks:List V}(h:aloneOk k n t ks.length=false):okD c d (.mk k n t ks)=false:=
 okD_no fun h'=>by have:=(may_mk (okD_one h').2.2).2.1;rw[h] at this;cases this
theorem okD_kid {c d:Nat}{k n i:Nat}{t:ByteArray}{ks:List V}{v:V}(hx:ks[i]? = some v)(h:okD (c+1+itemsL (ks.take i)) (d+1) v=false):okD c d (.mk k n t ks)=false:=
 okD_no fun h'=>by
  obtain⟨a1,a2,a3⟩:=okD_one h';rw[items_mk] at a1;rw[depth_mk] at a2;have h1:=itemsL_take hx;have h2:=itemsL_take_le ks (i+1);have h3:=depthL_take hx;have h4:=depthL_take_le ks (i+1);rw[okD_of (by omega) (by omega) (mayL_mem (may_mk a3).1 _ (List.mem_of_getElem? hx))] at h;cases h
theorem okD_all {c d:Nat}{k n:Nat}{t:ByteArray}{ks:List V}(h1:c+1+itemsL ks≤1024)(h2:d+depthL ks≤16)(h3:mayL ks=true)(h4:aloneOk k n t ks.length=true):okD c d (.mk k n t ks)=kidsOk k ks:=by
 cases hq:kidsOk k ks with
 | true=>exact okD_of (by rw[items_mk];omega) (by rw[depth_mk];omega) (by simp[mayB,h3,h4,hq])
 | false=>exact okD_no fun h'=>by have:=(may_mk (okD_one h').2.2).2.2;rw[hq] at this;cases this
theorem below_grown {w w':World}(h:Below w.heap.size w w')(row:Option Nat):w.grownBy w' row:=⟨h.os,h.tape,h.output,h.size,fun i hi _=>h.block i hi⟩
theorem tab_grown {w w':World}{g:Nat}(h:Tab w)(hg:w.grownBy w' (some g))(h0:0 < g):Tab w':=by
 have hp:=h.pos;obtain⟨t,fr,h⟩:=h;exact⟨t,fr,(hg.block 0 hp (by intro e;cases e;omega)).trans h⟩
def GivesW (p:Bool)(c:Nat)(g:Nat)(w:World)(e:Ending)(w':World):Prop:=∃ c1:Nat,e=.returned (.bool p)∧Boxed w' g 80 (.int .i64 c1)∧(p=true→c1=c)∧w.grownBy w' (some g)
set_option maxRecDepth 100000 in
set_option maxHeartbeats 1000000 in
theorem wright_of (hT:TwiceAny)(N:Nat):∀ (k n:Nat) (t:ByteArray) (ks:List V) (A:Option Addr) (l c d c0 g B:Nat) (w:World),bulkL ks≤N→N≤1073741824→t.size≤1073741824→n < 18446744073709551616→d≤17→c0≤1024 →
  Kids false w (fun i=>i < B) ks A l c→Tab w→0 < B→B≤g→Boxed w g 80 (.int .i64 c0) →
  Calls Tryz.prog 52 #[.pointer (some ⟨g,0,none⟩),.agg #[.int .u8 k,.int .u64 n,.string t,.slice A l c],.int .i64 d] w (GivesW (okD c0 d (.mk k n t ks)) (c0+itemsL ks+1) g w):=by
 induction N using Nat.strongRecOn with
 | ind N ih=>
 intro k n t ks A l c d c0 g B w hN hN2 ht hn hd hc0 hK hTab hB0 hBg hbx;have hgl:g < w.heap.size:=(Array.getElem?_eq_some_iff.1 hbx).1;have HL:=Lib.hid hK.len;have hll:l≤ks.length:=Nat.le_of_eq hK.len;have hlb:=length_bulk ks;have b0:=Box.new (w.setCell ⟨g,0,none⟩ (.int .i64 ((c0:Int)+1))) (.int .u8 k) (.int .u64 n) (.string t) (.slice A l c);have g0:=(hbx.set (.int .i64 ((c0:Int)+1))).alloc (.cells #[.int .u8 k,.int .u64 n,.string t,.slice A l c] 44);have e0:=hbx.cell;have eF:=hbx.frozen;have hgr:w.grownBy ((w.setCell ⟨g,0,none⟩ (.int .i64 ((c0:Int)+1))).alloc (.cells #[.int .u8 k,.int .u64 n,.string t,.slice A l c] 44)) (some g):=(grown_setCell w ⟨g,0,none⟩ _).trans (World.grownBy_alloc _ _ (some g));have hTW:Tab ((w.setCell ⟨g,0,none⟩ (.int .i64 ((c0:Int)+1))).alloc (.cells #[.int .u8 k,.int .u64 n,.string t,.slice A l c] 44)):=hTab.below (B:=B) (((Below.refl B w).setCell (p:=⟨g,0,none⟩) hBg _).alloc (by simp;omega) _) hB0;simp only[World.size_setCell] at b0;have IH:=Lib.hid ih;clear ih;go_enter Tryz.func52,Tryz.ntmps52;go_upto_region 2 with fail
 obtain⟨W1,hW1⟩:∃ W1,(w.setCell ⟨g,0,none⟩ (.int .i64 ((c0:Int)+1))).alloc (.cells #[.int .u8 k,.int .u64 n,.string t,.slice A l c] 44)=W1:=⟨_,rfl⟩;rw[hW1] at b0 g0 hgr hTW ⊢;clear hW1 e0 eF;obtain⟨p0,p1,p2,p3,pf⟩:=b0.all;have e0:=g0.cell;have hsW:=hgr.size;by_cases hd16:d≤16
 ·by_cases hc1:c0 < 1024
  ·cases hal:aloneOk k n t l with
   | false=>
    have HAL:=Lib.hid hal;clear hal;go_wp2_with fail;refine(rightAlone_any k n t A l c W1 hTW ht hn).mono ?_;rw[HAL.out];rintro e w2 ⟨rfl,hb2⟩;go_wp2;go_ret;exact⟨c0+1,by rw[okD_alone (by rw[←HL.out];exact HAL.out)];rfl,boxed_below g0 hb2 (by omega),fun h=>(by rw[okD_alone (by rw[←HL.out];exact HAL.out)] at h;cases h),hgr.trans (below_grown hb2 (some g))⟩
   | true=>
    have HAL:=Lib.hid hal;clear hal;go_wp2_with fail;refine(rightAlone_any k n t A l c W1 hTW ht hn).mono ?_;rw[HAL.out];rintro e w2 ⟨rfl,hb2⟩;replace b0:=b0.call hb2;replace g0:=boxed_below g0 hb2 (by omega);obtain⟨q0,q1,q2,q3,qf⟩:=b0.all;have hgr2:=hgr.trans (below_grown hb2 (some g));go_wp2_with fail;have HTW:=Lib.hid (hTW.call hb2);have HK:=Lib.hid hK;clear hTW hK hTab hbx hgr;go_loopw [33] (fun i wr=>∃ j:Nat,j≤l∧i=.int .i64 j∧Boxed wr g 80 (.int .i64 ((c0+1+itemsL (ks.take j):Nat):Int))∧Box wr w.heap.size (.int .u8 k) (.int .u64 n) (.string t) (.slice A l c)∧Tab wr∧(c0+1+itemsL (ks.take j)≤1024∧d+depthL (ks.take j)≤16∧mayL (ks.take j)=true)∧w.heap.size < wr.heap.size∧w.grownBy wr (some g)) (fun i _=>l - (intOf i).toNat)
    case atStart=>exact⟨0,Nat.zero_le _,rfl,by simpa [itemsL] using g0,b0,HTW.out,⟨by simp only[List.take_zero,itemsL];omega,by simp only[List.take_zero,depthL];omega,rfl⟩,b0.lt,hgr2⟩
    case round=>
     obtain⟨j,hj,rfl,G0,B0,hT1,hok,hsz,hgw⟩:=hrel;have HOK:=Lib.hid hok;obtain⟨ho1,ho2,ho3⟩:=hok;have hKw:Kids false wr (fun i=>i < B) ks A l c:=HK.out.keep fun i hi=>hgw.block i (by omega) (by intro e;cases e;omega);obtain⟨q0,q1,q2,q3,qf⟩:=B0.all;by_cases hlt:j < l
     ·obtain⟨b,o,k',n',t',ks',A',l',c',rfl,hb',hx,h0,h1,h2,h3,hk',hn',hK'⟩:=hKw.at_ hlt;have hbk:=at_bulk hx;simp only[bulk] at hbk;have HX:=Lib.hid hx;clear hx ho3;have hba:Below wr.heap.size wr (wr.alloc (.cells #[.int .u8 k',.int .u64 n',.string t',.slice A' l' c'] 44)):=(Below.refl _ _).alloc (Nat.le_refl _) _;obtain⟨p,hp⟩:∃ p,okD (c0+1+itemsL (ks.take j)) (d+1) (.mk k' n' t' ks')=p:=⟨_,rfl⟩;have hcall:=IH.out (bulkL ks') (by omega) k' n' t' ks' A' l' c' (d+1) (c0+1+itemsL (ks.take j)) g B (wr.alloc (.cells #[.int .u8 k',.int .u64 n',.string t',.slice A' l' c'] 44)) (Nat.le_refl _) (by omega) (by omega) hn' (by omega) ho1 (hK'.keep fun i hi=>hba.block i (by omega)) (hT1.call hba) hB0 hBg (boxed_below G0 hba (by omega));rw[hp] at hcall;have HP:=Lib.hid hp;have HC:=Lib.hid hcall;clear hp hcall hKw hK';cases p with
      | false=>
       go_wp2_with fail;refine HC.out.mono ?_;rintro e w3 ⟨c1,rfl,G3,hc3,hg3⟩;go_wp2;go_ret;exact⟨c1,by rw[okD_kid HX.out HP.out];rfl,G3,fun h=>(by rw[okD_kid HX.out HP.out] at h;cases h),(hgw.trans (below_grown hba (some g))).trans hg3⟩
      | true=>
       go_wp2_with fail;refine HC.out.mono ?_;rintro e w3 ⟨c1,rfl,G3,hc3,hg3⟩;have hg4:=(hgw.trans (below_grown hba (some g))).trans hg3;have hg5:=(below_grown hba (some g)).trans hg3;obtain⟨o1,o2,o3⟩:=okD_one HP.out;rw[items_mk] at o1;rw[depth_mk] at o2;have hit:=itemsL_take HX.out;rw[items_mk] at hit;have hdt:=depthL_take HX.out;rw[depth_mk] at hdt;have hs5:=hg5.size;have hce:c1=c0+1+itemsL (ks.take (j+1)):=by have:=hc3 rfl;omega
       have B3:Box w3 w.heap.size (.int .u8 k) (.int .u64 n) (.string t) (.slice (some ⟨b,o,none⟩) l c):=(hg5.block _ hsz (by intro e;cases e;omega)).trans B0;have hT3:=tab_grown hT1 hg5 (by omega);have HOK2:=Lib.hid (show c0+1+itemsL (ks.take (j+1))≤1024∧d+depthL (ks.take (j+1))≤16∧mayL (ks.take (j+1))=true from ⟨by omega,by omega,by rw[mayL_take HX.out,HOK.out.2.2,o3];rfl⟩);have HCE:=Lib.hid hce;clear hit hdt hce hc3 o1 o2 o3;go_wp2;go_roundw
       case rel=>exact⟨j+1,by omega,by go_num,by rw[←HCE.out];exact G3,B3,hT3,HOK2.out,by omega,hg4⟩
       case measure=>simp[intOf];omega
     ·have HE:Hid (ks.take j=ks):=Lib.hid (List.take_of_length_le (by have:=HL.out;omega));rw[HE.out] at G0 HOK;clear ho1 ho2 ho3;go_wp2_with fail;refine(rightKids_of hT k n t ks A l c wr (by omega) HOK.out.2.2 (hKw.mono fun i hi=>by omega)).mono ?_;rintro e w3 ⟨rfl,hb3⟩;have hg3:=hgw.trans (below_grown hb3 (some g));go_wp2;go_ret;exact⟨c0+1+itemsL ks,by rw[okD_all HOK.out.1 HOK.out.2.1 HOK.out.2.2 (by rw[←HL.out];exact HAL.out)];rfl,boxed_below G0 hb3 (by omega),fun _=>by omega,hg3⟩
  ·go_wp2_with fail;go_ret;exact⟨c0+1,by rw[okD_many (by omega)];rfl,g0,fun h=>(by rw[okD_many (by omega)] at h;cases h),hgr⟩
 ·go_wp2_with fail;go_ret;exact⟨c0+1,by rw[okD_deep (by omega)];rfl,g0,fun h=>(by rw[okD_deep (by omega)] at h;cases h),hgr⟩
end Go.Proofs.YtcilmmdmkpnppaaGreatDoor.Val
namespace Go.Proofs.YtcilmmdmkpnppaaGreatDoor.Val
set_option maxRecDepth 100000
open Go.RowKit Utf V
theorem okD_okB (v:V):okD 0 1 v=okB v:=by
 cases h:okB v with
 | true=>
  simp only[okB,Bool.and_eq_true,decide_eq_true_eq] at h;exact okD_of (by omega) (by omega) h.2
 | false=>
  refine okD_no fun h'=>?_;obtain⟨h1,h2,h3⟩:=okD_one h';have:okB v=true:=by
   simp only[okB,Bool.and_eq_true,decide_eq_true_eq];exact⟨⟨by omega,by omega⟩,h3⟩
  rw[h] at this;cases this
set_option maxRecDepth 100000 in
set_option maxHeartbeats 800000 in
theorem vright_of (hT:TwiceAny)(k n:Nat)(t:ByteArray)(ks:List V)(A:Option Addr)(l c:Nat)(w:World)(hN:bulkL ks≤1073741824)(ht:t.size≤1073741824)(hn:n < 18446744073709551616)(hK:Kd w ks A l c)(hTab:Tab w) :
  Calls Tryz.prog 23 #[.agg #[.int .u8 k,.int .u64 n,.string t,.slice A l c]] w (GivesB (okB (.mk k n t ks)) w):=by
 have hB:=two_boxes w (.cells #[.int .u8 k,.int .u64 n,.string t,.slice A l c] 44) (.cells #[.int .i64 0] 80);have g0:=Boxed.new (w.alloc (.cells #[.int .u8 k,.int .u64 n,.string t,.slice A l c] 44)) 80 (.int .i64 0);simp only[World.size_alloc] at g0;have hp:=hTab.pos;have HT:=Lib.hid hTab;clear hTab;go_enter Tryz.func23,Tryz.ntmps23;go_wp2_with fail;refine(wright_of hT (bulkL ks) k n t ks A l c 1 0 (w.heap.size+1) w.heap.size _ (Nat.le_refl _) hN ht hn (by omega) (by omega) (hK.keep fun i hi=>hB.block i hi) (HT.out.call hB) hp (by omega) g0).mono ?_;rintro e w2 ⟨c1,rfl,_,_,hg⟩;rw[okD_okB];go_wp2;go_ret;exact⟨rfl,hB.grown hg hB.size (fun k e=>by cases e;omega)⟩
end Go.Proofs.YtcilmmdmkpnppaaGreatDoor.Val
end
section
namespace Go.Proofs.YtcilmmdmkpnppaaGreatDoor.Val
set_option maxRecDepth 100000
open Go.RowKit Utf V
theorem vright_any (k n:Nat)(t:ByteArray)(ks:List V)(A:Option Addr)(l c:Nat)(w:World)(hN:bulkL ks≤1073741824)(ht:t.size≤1073741824)(hn:n < 18446744073709551616)(hK:Kd w ks A l c)(hTab:Tab w) :
  Calls Tryz.prog 23 #[.agg #[.int .u8 k,.int .u64 n,.string t,.slice A l c]] w (GivesB (okB (.mk k n t ks)) w):=vright_of ktwice_any k n t ks A l c w hN ht hn hK hTab
def one:V:=.mk 5 1 ⟨#[]⟩ []
def nul:V:=.mk 1 0 ⟨#[]⟩ []
def bks:List V:=[one,one,one,one]
theorem emp0:emptyB ⟨#[]⟩=true:=rfl
section
variable (A:Option Addr) (l c:Nat) (w:World)
theorem nul_new:Calls Tryz.prog 17 #[] w fun e w'=>e=.returned (.agg #[.int .u8 1,.int .u64 0,.string ⟨#[]⟩,.slice none 0 0])∧Below w.heap.size w w':=null_any w
end
end Go.Proofs.YtcilmmdmkpnppaaGreatDoor.Val
end
section
namespace Go.Proofs.YtcilmmdmkpnppaaGreatDoor.Val
set_option maxRecDepth 100000
open Go.RowKit Utf V
section
variable {w w':World} {b p k n:Nat} {t:ByteArray} {ks:List V} {A:Option Addr} {l c:Nat}
end
section
variable {w:World} {k n:Nat} {t:ByteArray} {ks:List V} {A:Option Addr} {l c D I:Nat} {r:Bool}
end
theorem num_any (k n:Int)(w:World):Calls Tryz.prog 20 #[.int .u8 k,.int .u64 n] w fun e w'=>e=.returned (.agg #[.int .u8 k,.int .u64 n,.string ⟨#[]⟩,.slice none 0 0])∧Below w.heap.size w w':=by
 go_enter Tryz.func20,Tryz.ntmps20;go_wp2;exact bodyPost_ret (v:=.agg #[.int .u8 k,.int .u64 n,.string ⟨#[]⟩,.slice none 0 0]) (by simp[results,Tryz.results20,go_sem]) rfl ⟨rfl,(Below.refl _ _).alloc (Nat.le_refl _) _⟩
end Go.Proofs.YtcilmmdmkpnppaaGreatDoor.Val
end
