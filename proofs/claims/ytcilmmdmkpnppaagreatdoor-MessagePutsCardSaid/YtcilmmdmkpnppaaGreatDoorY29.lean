/-
  Contracts of functions and plain mathematics, text by text, each with its conditions ahead of it:
  Contracts of the laws' meet and Apart: two rows of bytes of one's own, in blocks unlike, do not meet; all memory is as it was behind it. No other condition.
  Contract of the laws' Apart, of as many rows of bytes of one's own as you like, in blocks unlike. All memory is as it was behind it. No other condition.
  Contracts of the laws' helpers Roomy, Kept, CopyBytes and Apart: bytes in memory of their own with eleven others behind them; that all are as they were; a copy; that rows of one's own, in blocks unlike, do not meet (as many as you like). Condition: at most 2^20 bytes (Roomy, Kept).
  Apart, of two and of three rows of bytes of one's own. No other condition.
-/
import Derived.Test.YtcilmmdmkpnppaaGreatDoorY01
import Derived.Test.YtcilmmdmkpnppaaGreatDoorY03
import Derived.Deep.RegionHeld3
import Derived.Deep.CutRange
import Derived.Deep.RegionLaw
import Derived.Deep.QuietTactic
import Derived.BigQuiet
import Derived.Laws.OwnMore
section
namespace Go.Proofs.YtcilmmdmkpnppaaGreatDoor.Apt
set_option maxRecDepth 100000
open Go.RowKit Utf Val
structure MR (w wr:World) (g:Nat) (L:List Nat):Prop where
 row:wr.heap[g]? = some (.cells (vs .u8 L).toArray 5 (0,0))
 oth:∀ i,i≠g→wr.heap[i]? = w.heap[i]?
 size:wr.heap.size=w.heap.size
 os:wr.os=w.os
 tape:wr.tape=w.tape
 output:wr.output=w.output
theorem vs_set (L:List Nat)(j y:Nat):(vs .u8 L).toArray.setIfInBounds j (.int .u8 (y:Int))=(vs .u8 (L.set j y)).toArray:=by
 simp[vs,List.map_set]
theorem MR.store {w wr:World}{g j y:Nat}{L:List Nat}(h:MR w wr g L):MR w (wr.setCell ⟨g,j,none⟩ (.int .u8 (y:Int))) g (L.set j y):=by
 refine⟨?_,fun i hi=>(Below.heap_setCell wr ⟨g,j,none⟩ _ i hi).trans (h.oth i hi),by simpa using h.size,h.os,h.tape,h.output⟩;have:=h.row;simp[World.setCell,Array.getElem?_modify,this]
 simpa using vs_set L j y
theorem MR.cell {w wr:World}{g j y:Nat}{L:List Nat}(h:MR w wr g L)(hj:L[j]? = some y):wr.cell? ⟨g,j,none⟩=some (.int .u8 (y:Int)):=by
 rw[cell_of_row wr g j _ _ _ h.row];simp[vs,hj]
theorem MR.frz {w wr:World}{g:Nat}{L:List Nat}(h:MR w wr g L)(j:Nat):wr.frozen? ⟨g,j,none⟩=false:=by
 have:=h.row;simp[World.frozen?,this]
theorem MR.rd {w wr:World}{g B n:Nat}{A:Option Addr}{L l:List Nat}(h:MR w wr g L)(hr:Rd .u8 256 w B A n l)(hne:∀ b o,A=some ⟨b,o,none⟩→b≠g):Rd .u8 256 wr B A n l:=by
 refine⟨hr.1,hr.2.1,fun hn=>?_⟩;obtain⟨b,o,e,hb,hc⟩:=hr.2.2 hn;refine⟨b,o,e,hb,fun k hk=>?_⟩;rw[←hc k hk];simp only[World.cell?,h.oth b (hne b o e)]
theorem MR.below {w wr:World}{g:Nat}{L:List Nat}(h:MR w wr g L)(h0:w.heap[g]? = some (.cells (vs .u8 L).toArray 5 (0,0))):Below w.heap.size w wr:=
 ⟨h.os,h.tape,h.output,Nat.le_of_eq h.size.symm,fun k _=>by
  by_cases hk:k=g
  ·rw[hk,h.row,h0]
  ·exact h.oth k hk⟩
theorem own_all {w:World}{base n c:Nat}{A:Option Addr}{L:List Nat}(h:Utf.Own .u8 256 5 w base A n c L):(A=none∧c=0)∨∃ g CL,A=some ⟨g,0,none⟩∧w.heap[g]? = some (.cells (vs .u8 CL).toArray 5 (0,0))∧CL.length=c∧∀ x∈CL,x < 256:=by
 rcases h.2.1.2 with ⟨e,_⟩ | ⟨g,cap,cur,e,_,hg,_,_,hsz,_⟩
 ·injection e with e1 _ e3
  exact .inl ⟨e1,e3⟩
 ·injection e with e1 _ e3
  subst e3;have hq:=h.2.2 g (by rw[e1];rfl) cur _ _ hg;have:∀ l:List Value,(∀ u∈l,Nb .u8 256 u)→∃ CL:List Nat,l=vs .u8 CL∧∀ x∈CL,x < 256:=by
   intro l
   induction l with
   | nil=>intro _;exact⟨[],rfl,fun _ h=>(by cases h)⟩
   | cons u l ih=>
    intro hl;obtain⟨x,hx,rfl⟩:=hl u (by simp);obtain⟨CL,hCL,hlim⟩:=ih fun v hv=>hl v (by simp[hv]);exact⟨x::CL,by simp[vs,hCL],fun y hy=>by rcases List.mem_cons.1 hy with rfl | hy;exact hx;exact hlim y hy⟩
  obtain⟨CL,hCL,hlim⟩:=this cur.toList hq;refine .inr ⟨g,CL,e1,?_,?_,hlim⟩
  ·rw[hg,←hCL]
  ·have h1:=congrArg List.length hCL;rw[vs_length] at h1;rw[←h1]
   simpa using hsz
def f128 (x:Nat):Nat:=(x+128) % 256
theorem f_f {x:Nat}(h:x < 256):f128 (f128 x)=x:=by unfold f128;omega
def turn (L:List Nat)(j:Nat):List Nat:=(L.take j).map f128++L.drop j
theorem turn_zero (L:List Nat):turn L 0=L:=by simp[turn]
theorem turn_all (L:List Nat):turn L L.length=L.map f128:=by simp[turn]
theorem turn_at {L:List Nat}{j x:Nat}(h:L[j]? = some x):(turn L j)[j]? = some x:=by
 have hj:=(List.getElem?_eq_some_iff.1 h).1;unfold turn;rw[List.getElem?_append_right (by simp;omega)];simp only[List.length_map,List.length_take,List.getElem?_drop];rw[show j+(j - min j L.length)=j by omega];exact h
theorem turn_set {L:List Nat}{j x:Nat}(h:L[j]? = some x):(turn L j).set j (f128 x)=turn L (j+1):=by
 obtain⟨hj,e⟩:=List.getElem?_eq_some_iff.1 h;unfold turn;rw[List.set_append_right _ _ (by simp;omega),List.drop_eq_getElem_cons hj];simp only[List.length_map,List.length_take];rw[show j - min j L.length=0 by omega,List.set_cons_zero,List.take_succ_eq_append_getElem hj,List.map_append,e];simp
theorem back (L:List Nat)(h:∀ x∈L,x < 256):(L.map f128).map f128=L:=by
 rw[List.map_map]
 conv=>rhs;rw[←List.map_id L]
 exact List.map_congr_left fun x hx=>f_f (h x hx)
theorem map_at {L:List Nat}{j:Nat}(h:j < L.length):∃ x,L[j]? = some x∧(L.map f128)[j]? = some (f128 x):=⟨L[j],List.getElem?_eq_getElem h,by simp[List.getElem?_eq_getElem h]⟩
set_option maxHeartbeats 2000000 in
theorem meet_any (base n c:Nat)(A:Option Addr)(L:List Nat)(B' m d:Nat)(A':Option Addr)(l:List Nat)(w:World)(ho:Utf.Own .u8 256 5 w base A n c L)(hr:Rd .u8 256 w B' A' m l)(hne:∀ g b o,A=some ⟨g,0,none⟩→A'=some ⟨b,o,none⟩→b≠g) :
  Calls Tryz.prog 35 #[.slice A c c,.slice A' m d] w (Val.GivesB false w):=by
 have hc:c≤9223372036854775807:=by have:=ho.cap.2;unfold maxLen at this;omega
 rcases own_all ho with ⟨rfl,rfl⟩ | ⟨g,CL,rfl,hrow,hlen,hlim⟩
 ·have hst:=run_str d hr;go_enter Tryz.func35,Tryz.ntmps35;go_wp2;go_loopw [6] (fun i wx=>i=.int .i64 0∧wx=w) (fun _ _=>0)
  case atStart=>exact⟨rfl,rfl⟩
  case round=>
   obtain⟨rfl,rfl⟩:=hrel
   rename World=>wa
   go_wp2;go_loopw [8] (fun i wx=>i=.int .i64 0∧wx=wa) (fun _ _=>0)
   case atStart=>exact⟨rfl,rfl⟩
   case round=>
    obtain⟨rfl,rfl⟩:=hrel;go_wp2;go_ret;exact⟨rfl,Below.refl _ _⟩
 ·have hst:=run_str d hr;have HM0:Hid (MR w w g (turn CL 0)):=Lib.hid ⟨by rw[turn_zero];exact hrow,fun _ _=>rfl,rfl,rfl,rfl,rfl⟩;have HR:=Lib.hid hr;have HNE:=Lib.hid (fun b o e=>hne g b o rfl e);have HROW:=Lib.hid hrow;have HLIM:=Lib.hid hlim;have HLEN:=Lib.hid hlen;clear ho hr hrow hlim hlen hne;go_enter Tryz.func35,Tryz.ntmps35;go_wp2;clear hst;go_loopw [6] (fun i wx=>∃ j:Nat,j≤c∧i=.int .i64 (j:Nat)∧MR w wx g (turn CL j)) (fun i _=>c - (intOf i).toNat)
  case atStart=>exact⟨0,by omega,rfl,HM0.out⟩
  case round=>
   obtain⟨j,hj,rfl,hM⟩:=hrel;clear HM0;by_cases hlt:j < c
   ·obtain⟨x,hx⟩:∃ x,CL[j]? = some x:=⟨_,List.getElem?_eq_getElem (by have:=HLEN.out;omega)⟩;have hx256:x < 256:=HLIM.out x (List.mem_of_getElem? hx);have hcl:=hM.cell (turn_at hx);have hfz:=hM.frz j;have HS:=Lib.hid (hM.store (j:=j) (y:=f128 x));have hfx:((x:Int)+128) % 256=((f128 x:Nat):Int):=by unfold f128;omega
    have HX:=Lib.hid hx;obtain⟨y,hy⟩:∃ y,f128 x=y:=⟨_,rfl⟩;have HY:=Lib.hid hy;rw[hy] at hfx HS;clear hM hx hy;go_wp2;go_roundw
    case rel=>exact⟨j+1,hlt,by go_num,by have:=HS.out;rw[←HY.out,turn_set HX.out,HY.out] at this;exact this⟩
    case measure=>(simp[intOf];omega)
   ·obtain rfl:j=c:=by omega
    rename World=>wa
    have hM1:MR w wa g (CL.map f128):=by rw[←turn_all,HLEN.out];exact hM
    have hst:=run_str d (hM1.rd HR.out HNE.out);have HM1:Hid (MR w wa g (turn (CL.map f128) 0)):=Lib.hid (by rw[turn_zero];exact hM1);clear hM hM1;go_wp2;clear hst;go_loopw [8] (fun i wx=>∃ k:Nat,k≤j∧i=.int .i64 (k:Nat)∧MR w wx g (turn (CL.map f128) k)) (fun i _=>j - (intOf i).toNat)
    case atStart=>exact⟨0,by omega,rfl,HM1.out⟩
    case round=>
     obtain⟨k,hk,rfl,hM⟩:=hrel;clear HM1;by_cases hlt:k < j
     ·obtain⟨z,hz,hx⟩:=map_at (L:=CL) (j:=k) (by have:=HLEN.out;omega);obtain⟨x,hxe⟩:∃ x,f128 z=x:=⟨_,rfl⟩;rw[hxe] at hx;have hx256:x < 256:=by rw[←hxe];unfold f128;omega
      have hcl:=hM.cell (turn_at hx);have hfz:=hM.frz k;have HS:=Lib.hid (hM.store (j:=k) (y:=f128 x));have hfx:((x:Int)+128) % 256=((f128 x:Nat):Int):=by unfold f128;omega
      have HX:=Lib.hid hx;obtain⟨y,hy⟩:∃ y,f128 x=y:=⟨_,rfl⟩;have HY:=Lib.hid hy;rw[hy] at hfx HS;clear hM hx hy hz hxe;go_wp2;go_roundw
      case rel=>exact⟨k+1,hlt,by go_num,by have:=HS.out;rw[←HY.out,turn_set HX.out,HY.out] at this;exact this⟩
      case measure=>(simp[intOf];omega)
     ·obtain rfl:k=j:=by omega
      have hM2:MR w wr g CL:=by
       have h1:=turn_all (CL.map f128);rw[List.length_map,HLEN.out,back CL HLIM.out] at h1;rw[←h1];exact hM
      have HB:=Lib.hid (hM2.below HROW.out);clear hM hM2;go_wp2;go_ret;exact⟨rfl,HB.out⟩
theorem cut_cap (A:Option Addr)(n c:Nat) :
  (∀ (W:World),(Instr.slice 23 (.slice A n c) none (some (.int .i64 (c:Int))) none).run Tryz.prog W=.ok (.slice A c c) W)∧(∀ (W:World),(Instr.sliceAt 23 (.slice A n c) none (some (.int .i64 (c:Int))) none).run Tryz.prog W=.ok (.slice A c c) W):=by
 have h1:∀ (W:World),(Instr.slice 23 (.slice A n c) none (some (.int .i64 (c:Int))) none).run Tryz.prog W=.ok (.slice A c c) W:=fun W=>by
  rw[run_slice_h (P:=Tryz.prog) (w:=W) 23 A n c under22 .i64 (c:Int) (by omega) (by omega),elem22,size5];simp only[Result.andThen,sliced];cases A<;>simp[Addr.add]
 refine⟨h1,fun W=>?_⟩;rw[run_sliceAt_slice (P:=Tryz.prog) (w:=W) 23 _ _ _ _ under22];exact h1 W
end Go.Proofs.YtcilmmdmkpnppaaGreatDoor.Apt
end
section
namespace Go.Proofs.YtcilmmdmkpnppaaGreatDoor.Apt
set_option maxRecDepth 100000
open Go.RowKit Utf Val
structure Mny (w:World) (g m base:Nat) (F:Nat→Option Addr) (N C:Nat→Nat) (L:Nat→List Nat):Prop where
 row:∀ i,i < m→w.cell? ⟨g,i,none⟩=some (.slice (F i) (N i) (C i))
 lt:g < w.heap.size
 own:∀ i,i < m→Utf.Own .u8 256 5 w base (F i) (N i) (C i) (L i)
 ne:∀ i k,i < m→k < m→i≠k→∀ b b' o,F i=some ⟨b,0,none⟩→F k=some ⟨b',o,none⟩→b'≠b
section
variable {w w':World} {g m base:Nat} {F:Nat→Option Addr} {N C:Nat→Nat} {L:Nat→List Nat}
theorem Mny.call (h:Mny w g m base F N C L)(hb:Below w.heap.size w w'):Mny w' g m base F N C L:=
 ⟨fun i hi=>(hb.cell (p:=⟨g,i,none⟩) h.lt).trans (h.row i hi),Nat.lt_of_lt_of_le h.lt hb.size,fun i hi=>(h.own i hi).below hb,h.ne⟩
theorem Mny.held (h:Mny w g m base F N C L){i k:Nat}(hi:i < m)(hk:k < m)(hb:Below w.heap.size w w'):w'.cell? ⟨g,i,none⟩=some (.slice (F i) (N i) (C i))∧w'.cell? ⟨g,k,none⟩=some (.slice (F k) (N k) (C k))∧Below w.heap.size w w':=
 ⟨(h.call hb).row i hi,(h.call hb).row k hk,hb⟩
theorem Mny.meets (h:Mny w g m base F N C L){i k:Nat}(hi:i < m)(hk:k < m)(hne:i≠k):Calls Tryz.prog 35 #[.slice (F i) (C i) (C i),.slice (F k) (N k) (C k)] w (Val.GivesB false w):=
 meet_any base (N i) (C i) (F i) (L i) _ (N k) (C k) (F k) (L k) w (h.own i hi) (h.own k hk).rd fun b b' o e e'=>h.ne i k hi hk hne b b' o e e'
end
set_option maxHeartbeats 2000000 in
theorem apart_many (w:World)(g m c base:Nat)(F:Nat→Option Addr)(N C:Nat→Nat)(L:Nat→List Nat)(h:Mny w g m base F N C L)(hm:m≤1048576):Calls Tryz.prog 13 #[.slice (some ⟨g,0,none⟩) m c] w (Val.GivesB true w):=by
 have s1:=fun i=>(cut_cap (F i) (N i) (C i)).1;have s2:=fun i=>(cut_cap (F i) (N i) (C i)).2;have HH:=Lib.hid h;clear h;go_enter Tryz.func13,Tryz.ntmps13;go_wp2;go_loopw [3] (fun i wx=>∃ j:Nat,j≤m∧i=.int .i64 (j:Nat)∧Below w.heap.size w wx) (fun i _=>m - (intOf i).toNat)
 case atStart=>exact⟨0,by omega,rfl,Below.refl _ _⟩
 case round=>
  obtain⟨j,hj,rfl,hb⟩:=hrel
  rename World=>wa
  have HB:=Lib.hid hb;have HD:=Lib.hid (HH.out.call hb);clear hb;by_cases hlt:j < m
  ·have d1:decide ((j:Int) < (m:Int))=true:=by simp;omega
   have i0:(0:Int)≤(j:Int):=by omega
   have i1:(j:Int) < (m:Int):=by omega
   go_wp2;go_loopw [4] (fun i wx=>∃ k:Nat,k≤m∧i=.int .i64 (k:Nat)∧Below wa.heap.size wa wx) (fun i _=>m - (intOf i).toNat)
   case atStart=>exact⟨0,by omega,rfl,Below.refl _ _⟩
   case round=>
    obtain⟨k,hk,rfl,hb2⟩:=hrel;have HD2:=Lib.hid (HD.out.call hb2);have HB2:=Lib.hid hb2;have hH0:Below wr.heap.size wr wr.drew:=(Below.refl _ _).drew;have hc0:=hH0;clear hb2;by_cases hkm:k < m
    ·have d2:decide ((k:Int) < (m:Int))=true:=by simp;omega
     have k0:(0:Int)≤(k:Int):=by omega
     have k1:(k:Int) < (m:Int):=by omega
     have HK1:=Lib.hid (show k+1≤m by omega);by_cases hjk:j=k
     ·have e1:((j:Int) != (k:Int))=false:=by simp;omega
      have e2:(j != k)=false:=by simp;omega
      clear hjk;go_upto_region 7 with fail
      go_quiet (fail);go_wp2;go_roundw
      case rel=>exact⟨k+1,HK1.out,by go_num,below_drewN HB2.out _⟩
      case measure=>(simp[intOf];omega)
     ·have e1:((j:Int) != (k:Int))=true:=by simp;omega
      have e2:(j != k)=true:=by simp;omega
      have HNE:=Lib.hid hjk;obtain⟨z0,z1,_⟩:=HD2.out.held hlt hkm (Below.refl _ _);clear hjk;go_upto_region 7 with fail
      go_region_held3 (fun wx=>wx.cell? ⟨g,j,none⟩=some (.slice (F j) (N j) (C j))∧wx.cell? ⟨g,k,none⟩=some (.slice (F k) (N k) (C k))∧Below wr.heap.size wr wx) (with_reducible first | assumption | exact Mny.held HD2.out hlt hkm hH0 | exact Mny.held HD2.out hlt hkm hc1 | fail)
       (first
       | (go_at_call 35;(with_reducible refine(Mny.meets (Mny.call HD2.out hc0) hlt hkm HNE.out).mono ?_);rintro e w8 ⟨rfl,hb8⟩;have hc1:=below_next hc0 hb8)
       | fail)
      all_goals
       go_wp2;go_roundw
       case rel=>exact⟨k+1,HK1.out,by go_num,below_next HB2.out hc1⟩
       case measure=>(simp[intOf];omega)
    ·obtain rfl:k=m:=by omega
     have d2:decide ((k:Int) < (k:Int))=false:=by simp
     have HJ1:=Lib.hid (show j+1≤k by omega);go_wp2;go_roundw
     case rel=>exact⟨j+1,HJ1.out,by go_num,below_next HB.out HB2.out⟩
     case measure=>(simp[intOf];omega)
  ·obtain rfl:j=m:=by omega
   have d1:decide ((j:Int) < (j:Int))=false:=by simp
   go_wp2;go_ret;exact⟨rfl,HB.out⟩
end Go.Proofs.YtcilmmdmkpnppaaGreatDoor.Apt
end
section
namespace Go.Proofs.YtcilmmdmkpnppaaGreatDoor.Rm
set_option maxRecDepth 100000
open Go.RowKit Utf
def Ow (w:World)(base:Nat)(A:Option Addr)(n c:Nat)(l:List Nat):Prop:=(∀ x∈l,x < 256)∧w.ownsRow base 5 1 (.slice A n c) n (vs .u8 l)
theorem Ow.eqv {w:World}{base n c:Nat}{A:Option Addr}{l m:List Nat}(h:Ow w base A n c l)(e:l=m):Ow w base A n c m:=e▸h
theorem Ow.own {w:World}{base n:Nat}{A:Option Addr}{l:List Nat}(h:Ow w base A n n l):Own .u8 256 5 w base A n n l:=by
 refine⟨h.1,h.2,fun g hg cur e fz hc u hu=>?_⟩;rcases h.2.2 with ⟨e',_⟩ | ⟨g',cap,cur',e',_,hh,_,_,hs,ht⟩
 ·rw[e'] at hg;cases hg
 ·injection e' with e1 _ e3
  subst e1;subst e3;have:g'=g:=by simpa [Value.ownBlock] using hg
  subst this;rw[hc] at hh;injection hh with hh
  injection hh with hh _ _
  subst hh;rw[List.take_of_length_le (by simp;omega)] at ht;rw[ht] at hu;exact nb_vs h.1 u hu
theorem own_cut {w:World}{base n m c:Nat}{g:Nat}{l s:List Nat}(h:Own .u8 256 5 w base (some ⟨g,0,none⟩) n c (l++s))(hm:l.length=m)(hn:m≤n):Own .u8 256 5 w base (some ⟨g,0,none⟩) m c l:=by
 refine⟨fun x hx=>h.1 x (List.mem_append_left _ hx),⟨by rw[vs_length];omega,?_⟩,h.2.2.len⟩;rcases h.2.1.2 with ⟨e,_⟩ | ⟨g',cap,cur,e,hb,hh,h1,h2,hs,ht⟩
 ·injection e with e _ _;cases e
 ·injection e with e1 _ e3
  subst e3;refine .inr ⟨g',c,cur,by rw[←e1],hb,hh,by omega,h2,hs,?_⟩;have:cur.toList.take (m * 1)=(cur.toList.take (n * 1)).take (m * 1):=by rw[List.take_take,Nat.min_eq_left (by omega)]
  rw[this,ht,vs_append,List.take_append_of_le_length (by rw[vs_length];omega),List.take_of_length_le (by rw[vs_length];omega)]
def spare (n:Nat):List Nat:=(List.range 11).map fun i=>3 * (n+i) % 256
theorem spare_at (n i:Nat)(h:i < 11):(spare n)[i]? = some (3 * (n+i) % 256):=by simp[spare,h]
theorem fill_step {m:List Nat}{N j x:Nat}(hj:m[j]? = some x)(hN:j < N):(m.take j++List.replicate (N - j) 0).set j x=m.take (j+1)++List.replicate (N - (j+1)) 0:=by
 have hl:(m.take j).length=j:=by
  rw[List.length_take];have:=(List.getElem?_eq_some_iff.1 hj).1;omega
 rw[List.set_append_right j x (by omega),hl,Nat.sub_self,show N - j=(N - (j+1))+1 by omega,List.replicate_succ,List.set_cons_zero,List.take_add_one,hj];simp
theorem Ow.stored {w:World}{base g n cap j x:Nat}{L:List Nat}(h:Ow w base (some ⟨g,0,none⟩) n cap L)(hx:x < 256) :
  Ow (w.setCell ⟨g,j,none⟩ (.int .u8 (x:Int))) base (some ⟨g,0,none⟩) n cap (L.set j x):=by
 refine⟨fun y hy=>?_,?_⟩
 ·rcases List.mem_or_eq_of_mem_set hy with h' | rfl
  ·exact h.1 y h'
  ·exact hx
 ·have:=(h.2.stored j (.int .u8 (x:Int))).1
  rwa [show (vs .u8 L).set j (.int .u8 (x:Int))=vs .u8 (L.set j x) by simp[vs,List.map_set]] at this
theorem cut_zero (g m c n:Nat)(hn:n≤m)(hm:m≤c)(W:World):(Instr.slice 23 (.slice (some ⟨g,0,none⟩) m c) (some (.int .i64 0)) (some (.int .i64 (n:Int))) none).run Tryz.prog W=.ok (.slice (some ⟨g,0,none⟩) n c) W:=by
 rw[run_slice_lh (P:=Tryz.prog) (w:=W) 23 _ m c under22 .i64 .i64 (0:Int) (n:Int) (by omega) (by omega) (by omega),elem22,size5];simp[Result.andThen,sliced,Addr.add]
theorem cut_zero' (g m c n:Nat)(hn:n≤m)(hm:m≤c)(W:World):(Instr.sliceAt 23 (.slice (some ⟨g,0,none⟩) m c) (some (.int .i64 0)) (some (.int .i64 (n:Int))) none).run Tryz.prog W=.ok (.slice (some ⟨g,0,none⟩) n c) W:=by
 rw[run_sliceAt_slice (P:=Tryz.prog) (w:=W) 23 _ _ _ _ under22];exact cut_zero g m c n hn hm W
theorem cut_capv (g m c:Nat)(z:Int)(hz:z=(c:Int))(W:World):(Instr.slice 23 (.slice (some ⟨g,0,none⟩) m c) none (some (.int .i64 z)) none).run Tryz.prog W=.ok (.slice (some ⟨g,0,none⟩) c c) W:=by
 subst hz;rw[run_slice_h (P:=Tryz.prog) (w:=W) 23 _ m c under22 .i64 (c:Int) (by omega) (by omega),elem22,size5];simp[Result.andThen,sliced,Addr.add]
theorem cut_capv' (g m c:Nat)(z:Int)(hz:z=(c:Int))(W:World):(Instr.sliceAt 23 (.slice (some ⟨g,0,none⟩) m c) none (some (.int .i64 z)) none).run Tryz.prog W=.ok (.slice (some ⟨g,0,none⟩) c c) W:=by
 rw[run_sliceAt_slice (P:=Tryz.prog) (w:=W) 23 _ _ _ _ under22];exact cut_capv g m c z hz W
def Room (l:List Nat)(n:Nat)(w:World)(e:Ending)(w':World):Prop:=
 ∃ g,e=.returned (.slice (some ⟨g,0,none⟩) n (n+11))∧Ow w' w.heap.size (some ⟨g,0,none⟩) (n+11) (n+11) (l++spare n)∧Below w.heap.size w w'
set_option maxHeartbeats 400000 in
theorem roomy_any (A:Option Addr)(n c:Nat)(l:List Nat)(w:World)(hr:Rd .u8 256 w w.heap.size A n l)(hn:n≤1048576):Calls Tryz.prog 8 #[.slice A n c] w (Room l n w):=by
 obtain⟨i0,hi,hz0,hz1,hz2⟩:=info_parts info5;have hlen:=hr.len;go_enter Tryz.func8,Tryz.ntmps8;go_wp2_with (at_make;refine wpList_make_full w rfl _ _ 23 rfl w.heap.size 5 i0 (.int .u8 0) 1 Tryz.underlying23 hi hz0 hz1 .i64 .i64 ((n:Int)+11) ((n:Int)+11) (n+11) rfl rfl (by omega) (by omega) (by rw[hz2];omega) (by unfold maxLen;omega) (Nat.le_refl _) ?_;intro w1 hown1 hgrow1;have hb1:Below w.heap.size w w1:=(Below.refl _ _).grown hgrow1 (Nat.le_refl _) (fun _ h=>by cases h));have ho1:Ow w1 w.heap.size (some ⟨w.heap.size,0,none⟩) (n+11) (n+11) (List.replicate (n+11) 0):=by
  refine⟨fun x hx=>by rw[List.eq_of_mem_replicate hx];omega,?_⟩;rw[show vs .u8 (List.replicate (n+11) 0)=(madeCells (Value.int .u8 0).cells ((n+11) * 1)).toList from by rw[Nat.mul_one];show _=(madeCells #[.int .u8 0] (n+11)).toList;rw[toList_madeCells_one];simp[vs]];exact hown1
 clear hown1 hgrow1;generalize hg:w.heap.size=g at *;go_loopw [5] (fun i wr=>∃ j:Nat,j≤n+11∧i=.int .i64 j∧Ow wr g (some ⟨g,0,none⟩) (n+11) (n+11) ((l++spare n).take j++List.replicate (n+11 - j) 0)∧Below g w wr) (fun i _=>n+11 - (intOf i).toNat)
 case atStart=>exact⟨0,Nat.zero_le _,rfl,ho1.eqv (by simp),hb1⟩
 case round=>
  clear ho1 hb1;obtain⟨j,hj,rfl,ho,hb⟩:=hrel;have hll:(l++spare n).length=n+11:=by simp[spare,hlen]
  by_cases hlt:j < n+11
  ·have hsl:((l++spare n).take j++List.replicate (n+11 - j) 0).length=n+11:=by simp[hll];omega
   obtain⟨v0,hc0⟩:∃ v0,wr.cell? ⟨g,j,none⟩=some v0:=⟨_,(ho.2.cellAt j (by omega)).trans (vs_at _ _ j (by omega))⟩;have hf0:=ho.2.frozenAt j;obtain⟨z,hz,hz2⟩:∃ z:Nat,(3 * (j:Int)) % 256=(z:Int)∧z=3 * j % 256:=⟨3 * j % 256,by omega,rfl⟩;have hz3:z < 256:=by omega
   have hf1:∀ v,(wr.setCell ⟨g,j,none⟩ v).frozen? ⟨g,j,none⟩=false:=fun v=>(ho.2.stored j v).1.frozenAt j;have hc1:∀ v,(wr.setCell ⟨g,j,none⟩ v).cell? ⟨g,j,none⟩=some v:=fun v=>World.cell?_setCell_same' _ _ _ (by rw[hc0];rfl);by_cases hjn:j < n
   ·obtain⟨b,o,x,rfl,hbb,hx,hx2,hc⟩:=hr.at_ hjn;have hcb:∀ v,(wr.setCell ⟨g,j,none⟩ v).cell? ⟨b,o+j,none⟩=some (.int .u8 (x:Int)):=fun v=>by
     rw[World.cell?_setCell_other _ _ _ _ (by intro e;injection e with e _ _;omega),hb.cell hbb];exact hc
    have HX:Hid ((l++spare n)[j]? = some x):=Lib.hid (by rw[List.getElem?_append_left (by omega)];exact hx);clear hx hz2 hc hsl hll hlen;have hjI:(j:Int) < n:=by omega
    go_wp2;go_roundw
    case rel=>
     refine⟨j+1,by omega,by go_num,((ho.stored (j:=j) hz3).stored (j:=j) hx2).eqv ?_,(hb.setCell (by simp) _).setCell (by simp) _⟩;rw[List.set_set,fill_step HX.out hlt]
    case measure=>simp[intOf];omega
   ·have HX:Hid ((l++spare n)[j]? = some z):=Lib.hid (by rw[List.getElem?_append_right (by omega),hlen,spare_at n (j - n) (by omega),hz2];congr 3;omega);clear hz2 hsl hll hlen;have hjI:decide ((j:Int) < n)=false:=by simp;omega
    go_wp2;go_roundw
    case rel=>
     refine⟨j+1,by omega,by go_num,(ho.stored (j:=j) hz3).eqv ?_,hb.setCell (by simp) _⟩;rw[fill_step HX.out hlt]
    case measure=>simp[intOf];omega
  ·have HE:Hid ((l++spare n).take j++List.replicate (n+11 - j) 0=l++spare n):=Lib.hid (by rw[List.take_of_length_le (by omega),show n+11 - j=0 by omega];simp);have q1:=cut_zero g (n+11) (n+11) n (by omega) (Nat.le_refl _) wr;have q2:=cut_zero' g (n+11) (n+11) n (by omega) (Nat.le_refl _) wr;clear hll hlen;go_wp2;go_ret;exact⟨g,rfl,by rw[hg];exact ho.eqv HE.out,by rw[hg];exact hb⟩
theorem kept_any (g n:Nat)(A:Option Addr)(c:Nat)(l:List Nat)(w:World)(B:Nat)(hr:Rd .u8 256 w B (some ⟨g,0,none⟩) (n+11) (l++spare n))(hr':Rd .u8 256 w B A n l)(hn:n≤1048576) :
  Calls Tryz.prog 12 #[.slice (some ⟨g,0,none⟩) n (n+11),.slice A n c] w fun e w'=>e=.returned (.bool true)∧w=w':=by
 have hlen:=hr'.len;have hrn:Rd .u8 256 w B (some ⟨g,0,none⟩) n l:=(hr.take (k:=n) (by omega)).eqv (by rw[←hlen,List.take_left]);have hs1:=run_str (n+11) hrn;have hs2:=run_str c hr';have q1:=fun z hz=>cut_capv g n (n+11) z hz w;have q2:=fun z hz=>cut_capv' g n (n+11) z hz w;clear hrn;go_enter Tryz.func12,Tryz.ntmps12;go_wp2;go_loop [5] (fun i=>∃ j:Nat,n≤j∧j≤n+11∧i=.int .i64 j) (fun i=>n+11 - (intOf i).toNat)
 case atStart=>exact⟨n,Nat.le_refl _,by omega,rfl⟩
 case round=>
  obtain⟨j,hj1,hj2,rfl⟩:=hrel;by_cases hlt:j < n+11
  ·obtain⟨b,o,x,e,hbb,hx,hx2,hc⟩:=hr.at_ hlt;injection e with e
   injection e with e1 e2
   subst e1;subst e2;rw[List.getElem?_append_right (by omega),hlen,spare_at n (j - n) (by omega)] at hx;injection hx with hx
   rw[Nat.zero_add] at hc;have hz:(3 * (j:Int)) % 256=(x:Int):=by rw[←hx];omega
   clear hx hlen;have hjI:(j:Int) < n+11:=by omega
   have q1':=q1 ((n:Int)+11) (by omega);have q2':=q2 ((n:Int)+11) (by omega);go_wp2;exact⟨⟨j+1,by omega,by omega,by go_num⟩,by simp[intOf];omega⟩
  ·go_wp2;go_ret;exact⟨rfl,rfl⟩
structure Rmy (w:World) (base g n:Nat) (l:List Nat):Prop where
 own:Own .u8 256 5 w base (some ⟨g,0,none⟩) (n+11) (n+11) (l++spare n)
 len:l.length=n
theorem Rmy.below {w w':World}{base g n:Nat}{l:List Nat}(h:Rmy w base g n l)(hb:Below w.heap.size w w'):Rmy w' base g n l:=⟨h.own.below hb,h.len⟩
theorem Rmy.mine {w:World}{base g n:Nat}{l:List Nat}(h:Rmy w base g n l):Own .u8 256 5 w base (some ⟨g,0,none⟩) n (n+11) l:=own_cut h.own h.len (by omega)
theorem Rmy.blk {w:World}{base g n:Nat}{l:List Nat}(h:Rmy w base g n l):base≤g∧g < w.heap.size:=h.own.blk g rfl
def GivesRoom (n:Nat)(l:List Nat)(w:World)(e:Ending)(w':World):Prop:=∃ g,e=.returned (.slice (some ⟨g,0,none⟩) n (n+11))∧Rmy w' w.heap.size g n l∧Below w.heap.size w w'
theorem room (A:Option Addr)(n c:Nat)(l:List Nat)(w:World)(hr:Rd .u8 256 w w.heap.size A n l)(hn:n≤1048576):Calls Tryz.prog 8 #[.slice A n c] w (GivesRoom n l w):=(roomy_any A n c l w hr hn).mono fun _ _ ⟨g,he,ho,hb⟩=>⟨g,he,⟨ho.own,hr.len⟩,hb⟩
theorem kept (base g n:Nat)(A:Option Addr)(c:Nat)(l:List Nat)(w:World)(h:Rmy w base g n l)(hr:Rd .u8 256 w w.heap.size A n l)(hn:n≤1048576):Calls Tryz.prog 12 #[.slice (some ⟨g,0,none⟩) n (n+11),.slice A n c] w fun e w'=>e=.returned (.bool true)∧w=w':=kept_any g n A c l w _ h.own.rd hr hn
end Go.Proofs.YtcilmmdmkpnppaaGreatDoor.Rm
end
section
namespace Go.Proofs.YtcilmmdmkpnppaaGreatDoor.Fr
set_option maxRecDepth 100000
open Go.RowKit Utf Apt
theorem apart3 {w:World}{g base x y:Nat}{A1:Option Addr}{n1 c1:Nat}{L1:List Nat}{A2:Option Addr}{n2 c2:Nat}{L2:List Nat}{A3:Option Addr}{n3 c3:Nat}{L3:List Nat}(row:w.heap[g]? = some (.cells #[.slice A1 n1 c1,.slice A2 n2 c2,.slice A3 n3 c3] 23 (0,0)))(o1:Own .u8 256 5 w base A1 n1 c1 L1)(o2:Own .u8 256 5 w base A2 n2 c2 L2)(o3:Own .u8 256 5 w base A3 n3 c3 L3)
  (h1:∀ b o,A1=some ⟨b,o,none⟩→x≤b∧b < y) (h2:∀ b o,A2=some ⟨b,o,none⟩→y≤b) (h3:∀ b o,A3=some ⟨b,o,none⟩→b < x) (hxy:x≤y):Calls Tryz.prog 13 #[.slice (some ⟨g,0,none⟩) 3 3] w (Val.GivesB true w):=by
 refine apart_many w g 3 3 base (fun i=>if i=0 then A1 else if i=1 then A2 else A3) (fun i=>if i=0 then n1 else if i=1 then n2 else n3) (fun i=>if i=0 then c1 else if i=1 then c2 else c3) (fun i=>if i=0 then L1 else if i=1 then L2 else L3) ⟨?_,(Array.getElem?_eq_some_iff.1 row).1,?_,?_⟩ (by omega)
 ·intro i hi;obtain rfl | rfl | rfl:i=0∨i=1∨i=2:=by omega
  ·exact cell_of_row w g 0 _ _ _ row
  ·exact cell_of_row w g 1 _ _ _ row
  ·exact cell_of_row w g 2 _ _ _ row
 ·intro i hi;obtain rfl | rfl | rfl:i=0∨i=1∨i=2:=by omega
  ·exact o1
  ·exact o2
  ·exact o3
 ·intro i k hi hk hne b b' o e e';have hi3:i=0∨i=1∨i=2:=by omega
  have hk3:k=0∨k=1∨k=2:=by omega
  rcases hi3 with rfl | rfl | rfl<;>rcases hk3 with rfl | rfl | rfl
  ·exact absurd rfl hne
  ·have:=h1 b 0 e;have:=h2 b' o e';omega
  ·have:=h1 b 0 e;have:=h3 b' o e';omega
  ·have:=h2 b 0 e;have:=h1 b' o e';omega
  ·exact absurd rfl hne
  ·have:=h2 b 0 e;have:=h3 b' o e';omega
  ·have:=h3 b 0 e;have:=h1 b' o e';omega
  ·have:=h3 b 0 e;have:=h2 b' o e';omega
  ·exact absurd rfl hne
end Go.Proofs.YtcilmmdmkpnppaaGreatDoor.Fr
end
