/- Contracts, each with its premises. -/
import Derived.Test.YtbbbanfggcediaaGreatDoorY15
set_option maxRecDepth 100000
set_option maxHeartbeats 8000000
namespace Go.Proofs.YtbbbanfggcediaaGreatDoor
open _root_.Go.Proofs.Tryz
open List renaming take_of_length_le→yc0,getElem?_eq_getElem→yc1,length_map→yc2,length_take→yc3,getElem?_append_right→yc4
namespace Enc
open Go.RowKit Utf Val V
def zbc (v:V)(w:World)(e:Ending)(w':World):Prop:=∃ k n t ks A l c,v=.mk k n t ks∧e=.returned (.agg #[.int .u8 (k:Int),.int .u64 (n:Int),.string t,.slice A l c])∧k < 256∧n < 18446744073709551616∧Kd w ks A l c∧Below w.heap.size w w'
def zf9 (L:Lz)(w:World)(e:Ending)(w':World):Prop:=∃ A n c,e=.returned (.slice A n c)∧Rd .u8 256 w' w'.heap.size A n L∧Below w.heap.size w w'
end Enc
namespace Enc
open Go.RowKit Utf Val
theorem zaK (w:World)(l:Lz)(n:Nat)(hn:l.length=n)(hl:∀ x∈l,x < 256)(hm:n≤100)(e:Ending)(he:e=.returned (.slice (some ⟨w.heap.size,0,none⟩) n n)):zaY w.heap.size l w e (w.alloc (.cells (vs .u8 l).toArray 5)):=
 ⟨_,_,_,he,zkj w w.heap.size n l hn hl (by unfold maxLen;omega) zab,(za _ _)⟩
def ze (k:Nat):Lz:=(chs k).map Prod.fst
theorem zvj (w:World):Calls prog 115 #[.int .u8 1] w (zaY w.heap.size [64] w):=by
 have HG:=zaa (zaK w [64] 1 rfl (by decide) (by omega) _ rfl);go_enter func115,ntmps115;go_wp2;go_ret;exact HG.out
theorem zvk (w:World):Calls prog 115 #[.int .u8 2] w (zaY w.heap.size [65,66,86] w):=by
 have HG:=zaa (zaK w [65,66,86] 3 rfl (by decide) (by omega) _ rfl);go_enter func115,ntmps115;go_wp2;go_ret;exact HG.out
theorem zvl (w:World):Calls prog 115 #[.int .u8 3] w (zaY w.heap.size [80] w):=by
 have HG:=zaa (zaK w [80] 1 rfl (by decide) (by omega) _ rfl);go_enter func115,ntmps115;go_wp2;go_ret;exact HG.out
theorem zvm (w:World):Calls prog 115 #[.int .u8 4] w (zaY w.heap.size [96] w):=by
 have HG:=zaa (zaK w [96] 1 rfl (by decide) (by omega) _ rfl);go_enter func115,ntmps115;go_wp2;go_ret;exact HG.out
theorem zvn (w:World):Calls prog 115 #[.int .u8 5] w (zaY w.heap.size [67,82,112] w):=by
 have HG:=zaa (zaK w [67,82,112] 3 rfl (by decide) (by omega) _ rfl);go_enter func115,ntmps115;go_wp2;go_ret;exact HG.out
theorem zvo (w:World):Calls prog 115 #[.int .u8 6] w (zaY w.heap.size [68,83,128] w):=by
 have HG:=zaa (zaK w [68,83,128] 3 rfl (by decide) (by omega) _ rfl);go_enter func115,ntmps115;go_wp2;go_ret;exact HG.out
theorem zvp (w:World):Calls prog 115 #[.int .u8 7] w (zaY w.heap.size [81] w):=by
 have HG:=zaa (zaK w [81] 1 rfl (by decide) (by omega) _ rfl);go_enter func115,ntmps115;go_wp2;go_ret;exact HG.out
theorem zvq (w:World):Calls prog 115 #[.int .u8 8] w (zaY w.heap.size [97] w):=by
 have HG:=zaa (zaK w [97] 1 rfl (by decide) (by omega) _ rfl);go_enter func115,ntmps115;go_wp2;go_ret;exact HG.out
theorem zvr (w:World):Calls prog 115 #[.int .u8 9] w (zaY w.heap.size [84,113] w):=by
 have HG:=zaa (zaK w [84,113] 2 rfl (by decide) (by omega) _ rfl);go_enter func115,ntmps115;go_wp2;go_ret;exact HG.out
theorem zuH (w:World):Calls prog 115 #[.int .u8 10] w (zaY w.heap.size [85,129] w):=by
 have HG:=zaa (zaK w [85,129] 2 rfl (by decide) (by omega) _ rfl);go_enter func115,ntmps115;go_wp2;go_ret;exact HG.out
theorem zuI (w:World):Calls prog 115 #[.int .u8 11] w (zaY w.heap.size [114] w):=by
 have HG:=zaa (zaK w [114] 1 rfl (by decide) (by omega) _ rfl);go_enter func115,ntmps115;go_wp2;go_ret;exact HG.out
theorem zuJ (w:World):Calls prog 115 #[.int .u8 12] w (zaY w.heap.size [130] w):=by
 have HG:=zaa (zaK w [130] 1 rfl (by decide) (by omega) _ rfl);go_enter func115,ntmps115;go_wp2;go_ret;exact HG.out
theorem zuK (w:World):Calls prog 115 #[.int .u8 13] w (zaY w.heap.size [115] w):=by
 have HG:=zaa (zaK w [115] 1 rfl (by decide) (by omega) _ rfl);go_enter func115,ntmps115;go_wp2;go_ret;exact HG.out
theorem zuL (w:World):Calls prog 115 #[.int .u8 14] w (zaY w.heap.size [131] w):=by
 have HG:=zaa (zaK w [131] 1 rfl (by decide) (by omega) _ rfl);go_enter func115,ntmps115;go_wp2;go_ret;exact HG.out
theorem zuM (w:World):Calls prog 115 #[.int .u8 15] w (zaY w.heap.size [152] w):=by
 have HG:=zaa (zaK w [152] 1 rfl (by decide) (by omega) _ rfl);go_enter func115,ntmps115;go_wp2;go_ret;exact HG.out
theorem zuN (w:World):Calls prog 115 #[.int .u8 16] w (zaY w.heap.size [116] w):=by
 have HG:=zaa (zaK w [116] 1 rfl (by decide) (by omega) _ rfl);go_enter func115,ntmps115;go_wp2;go_ret;exact HG.out
theorem zuO (w:World):Calls prog 115 #[.int .u8 17] w (zaY w.heap.size [132] w):=by
 have HG:=zaa (zaK w [132] 1 rfl (by decide) (by omega) _ rfl);go_enter func115,ntmps115;go_wp2;go_ret;exact HG.out
theorem zuP (w:World):Calls prog 115 #[.int .u8 18] w (zaY w.heap.size [148] w):=by
 have HG:=zaa (zaK w [148] 1 rfl (by decide) (by omega) _ rfl);go_enter func115,ntmps115;go_wp2;go_ret;exact HG.out
theorem zuQ (w:World):Calls prog 115 #[.int .u8 19] w (zaY w.heap.size [160,176] w):=by
 have HG:=zaa (zaK w [160,176] 2 rfl (by decide) (by omega) _ rfl);go_enter func115,ntmps115;go_wp2;go_ret;exact HG.out
theorem zuR (w:World):Calls prog 115 #[.int .u8 20] w (zaY w.heap.size [161,177] w):=by
 have HG:=zaa (zaK w [161,177] 2 rfl (by decide) (by omega) _ rfl);go_enter func115,ntmps115;go_wp2;go_ret;exact HG.out
theorem zuS (w:World):Calls prog 115 #[.int .u8 21] w (zaY w.heap.size [163,179] w):=by
 have HG:=zaa (zaK w [163,179] 2 rfl (by decide) (by omega) _ rfl);go_enter func115,ntmps115;go_wp2;go_ret;exact HG.out
theorem zuT (w:World):Calls prog 115 #[.int .u8 22] w (zaY w.heap.size [69,192,208] w):=by
 have HG:=zaa (zaK w [69,192,208] 3 rfl (by decide) (by omega) _ rfl);go_enter func115,ntmps115;go_wp2;go_ret;exact HG.out
theorem zuU (w:World):Calls prog 115 #[.int .u8 23] w (zaY w.heap.size [193,209] w):=by
 have HG:=zaa (zaK w [193,209] 2 rfl (by decide) (by omega) _ rfl);go_enter func115,ntmps115;go_wp2;go_ret;exact HG.out
theorem zuV (w:World):Calls prog 115 #[.int .u8 24] w (zaY w.heap.size [224,240] w):=by
 have HG:=zaa (zaK w [224,240] 2 rfl (by decide) (by omega) _ rfl);go_enter func115,ntmps115;go_wp2;go_ret;exact HG.out
theorem zoL (k:Nat)(h:1≤k∧k≤24)(w:World):Calls prog 115 #[.int .u8 (k:Int)] w (zaY w.heap.size (ze k) w):=by
 have:k=1∨k=2∨k=3∨k=4∨k=5∨k=6∨k=7∨k=8∨k=9∨k=10∨k=11∨k=12∨k=13∨k=14∨k=15∨k=16∨k=17∨k=18∨k=19∨k=20∨k=21∨k=22∨k=23∨k=24:=by omega
 rcases this with rfl | rfl | rfl | rfl | rfl | rfl | rfl | rfl | rfl | rfl | rfl | rfl | rfl | rfl | rfl | rfl | rfl | rfl | rfl | rfl | rfl | rfl | rfl | rfl
 ·exact zvj w
 ·exact zvk w
 ·exact zvl w
 ·exact zvm w
 ·exact zvn w
 ·exact zvo w
 ·exact zvp w
 ·exact zvq w
 ·exact zvr w
 ·exact zuH w
 ·exact zuI w
 ·exact zuJ w
 ·exact zuK w
 ·exact zuL w
 ·exact zuM w
 ·exact zuN w
 ·exact zuO w
 ·exact zuP w
 ·exact zuQ w
 ·exact zuR w
 ·exact zuS w
 ·exact zuT w
 ·exact zuU w
 ·exact zuV w
end Enc
namespace Enc
open Go.RowKit Utf Val V
end Enc
namespace Apt
open Go.RowKit Utf Val
structure MR (w wr:World) (g:Nat) (L:Lz):Prop where
 row:wr.heap[g]? = some (.cells (vs .u8 L).toArray 5 (0,0))
 oth:∀ i,i≠g→wr.heap[i]? = w.heap[i]?
 size:wr.heap.size=w.heap.size
 os:wr.os=w.os
 tape:wr.tape=w.tape
 output:wr.output=w.output
theorem zuW (L:Lz)(j y:Nat):(vs .u8 L).toArray.setIfInBounds j (.int .u8 (y:Int))=(vs .u8 (L.set j y)).toArray:=by simp[vs,List.map_set]
theorem MR.store {w wr:World}{g j y:Nat}{L:Lz}(h:MR w wr g L):MR w (wr.setCell ⟨g,j,none⟩ (.int .u8 (y:Int))) g (L.set j y):=by
 refine⟨?_,fun i hi=>(Below.heap_setCell wr ⟨g,j,none⟩ _ i hi).trans (h.oth i hi),by simpa using h.size,h.os,h.tape,h.output⟩;have:=h.row;simp[World.setCell,Array.getElem?_modify,this]
 simpa using zuW L j y
theorem MR.cell {w wr:World}{g j y:Nat}{L:Lz}(h:MR w wr g L)(hj:L[j]? = some y):wr.cell? ⟨g,j,none⟩=some (.int .u8 (y:Int)):=by
 rw[cell_of_row wr g j _ _ _ h.row];simp[vs,hj]
theorem MR.frz {w wr:World}{g:Nat}{L:Lz}(h:MR w wr g L)(j:Nat):wr.frozen? ⟨g,j,none⟩=false:=by
 have:=h.row;simp[World.frozen?,this]
theorem MR.rd {w wr:World}{g B n:Nat}{A:Oz}{L l:Lz}(h:MR w wr g L)(hr:Rd .u8 256 w B A n l)(Hp:∀ b o,A=some ⟨b,o,none⟩→b≠g):Rd .u8 256 wr B A n l:=by
 refine⟨hr.1,hr.2.1,fun hn=>?_⟩;obtain⟨b,o,e,hb,hc⟩:=hr.2.2 hn;refine⟨b,o,e,hb,fun k hk=>?_⟩;rw[←hc k hk];simp only[World.cell?,h.oth b (Hp b o e)]
theorem MR.below {w wr:World}{g:Nat}{L:Lz}(h:MR w wr g L)(h0:w.heap[g]? = some (.cells (vs .u8 L).toArray 5 (0,0))):Below w.heap.size w wr:=
 ⟨h.os,h.tape,h.output,Nat.le_of_eq h.size.symm,fun k _=>by
  by_cases hk:k=g
  ·rw[hk,h.row,h0]
  ·exact h.oth k hk⟩
theorem ztq {w:World}{base n c:Nat}{A:Oz}{L:Lz}(h:Utf.Own .u8 256 5 w base A n c L):(A=none∧c=0)∨∃ g CL,A=some ⟨g,0,none⟩∧w.heap[g]? = some (.cells (vs .u8 CL).toArray 5 (0,0))∧CL.length=c∧∀ x∈CL,x < 256:=by
 rcases h.2.1.2 with ⟨e,_⟩ | ⟨g,cap,cur,e,_,hg,_,_,Hu,_⟩
 ·injection e with e1 _ e3
  exact .inl ⟨e1,e3⟩
 ·injection e with e1 _ e3
  subst e3;have hq:=h.2.2 g (by rw[e1];rfl) cur _ _ hg;have:∀ l:List Value,(∀ u∈l,Nb .u8 256 u)→∃ CL:Lz,l=vs .u8 CL∧∀ x∈CL,x < 256:=by
   intro l
   induction l with
   | nil=>intro _;exact⟨[],rfl,fun _ h=>(by cases h)⟩
   | cons u l ih=>
    intro hl;obtain⟨x,hx,rfl⟩:=hl u (by simp);obtain⟨CL,bE,GZ⟩:=ih fun v hv=>hl v (by simp[hv]);exact⟨x::CL,by simp[vs,bE],fun y hy=>by rcases List.mem_cons.1 hy with rfl | hy;exact hx;exact GZ y hy⟩
  obtain⟨CL,bE,GZ⟩:=this cur.toList hq;refine .inr ⟨g,CL,e1,?_,?_,GZ⟩
  ·rw[hg,←bE]
  ·have h1:=congrArg List.length bE;rw[zby] at h1;rw[←h1]
   simpa using Hu
def f128 (x:Nat):Nat:=(x+128) % 256
theorem f_f {x:Nat}(h:x < 256):f128 (f128 x)=x:=by unfold f128;omega
def turn (L:Lz)(j:Nat):Lz:=(L.take j).map f128++L.drop j
theorem zjt (L:Lz):turn L 0=L:=by simp[turn]
theorem zli (L:Lz):turn L L.length=L.map f128:=by simp[turn]
theorem zoM {L:Lz}{j x:Nat}(h:L[j]? = some x):(turn L j)[j]? = some x:=by
 have hj:=(List.getElem?_eq_some_iff.1 h).1;unfold turn;rw[yc4 (by simp;omega)];simp only[yc2,yc3,List.getElem?_drop];rw[show j+(j - min j L.length)=j by omega];exact h
theorem zlj {L:Lz}{j x:Nat}(h:L[j]? = some x):(turn L j).set j (f128 x)=turn L (j+1):=by
 obtain⟨hj,e⟩:=List.getElem?_eq_some_iff.1 h;unfold turn;rw[List.set_append_right _ _ (by simp;omega),List.drop_eq_getElem_cons hj];simp only[yc2,yc3];rw[show j - min j L.length=0 by omega,List.set_cons_zero,List.take_succ_eq_append_getElem hj,List.map_append,e];simp
theorem back (L:Lz)(h:∀ x∈L,x < 256):(L.map f128).map f128=L:=by
 rw[List.map_map]
 conv=>rhs;rw[←List.map_id L]
 exact List.map_congr_left fun x hx=>f_f (h x hx)
theorem zuX {L:Lz}{j:Nat}(h:j < L.length):∃ x,L[j]? = some x∧(L.map f128)[j]? = some (f128 x):=⟨L[j],yc1 h,by simp[yc1 h]⟩
theorem zq2 (base n c:Nat)(A:Oz)(L:Lz)(B' m d:Nat)(A':Oz)(l:Lz)(w:World)(ho:Utf.Own .u8 256 5 w base A n c L)(hr:Rd .u8 256 w B' A' m l)(Hp:∀ g b o,A=some ⟨g,0,none⟩→A'=some ⟨b,o,none⟩→b≠g) :
  Calls prog 22 #[.slice A c c,.slice A' m d] w (Val.zaj false w):=by
 have hc:c≤9223372036854775807:=by have:=ho.cap.2;unfold maxLen at this;omega
 rcases ztq ho with ⟨rfl,rfl⟩ | ⟨g,CL,rfl,Hr,hlen,GZ⟩
 ·have gr:=zav d hr;go_enter func22,ntmps22;go_wp2;go_loopw [6] (fun i wx=>i=.int .i64 0∧wx=w) (fun _ _=>0)
  case atStart=>exact⟨rfl,rfl⟩
  case round=>
   obtain⟨rfl,rfl⟩:=hrel
   rename World=>wa
   go_wp2;go_loopw [8] (fun i wx=>i=.int .i64 0∧wx=wa) (fun _ _=>0)
   case atStart=>exact⟨rfl,rfl⟩
   case round=>
    obtain⟨rfl,rfl⟩:=hrel;go_wp2;go_ret;exact⟨rfl,Below.refl _ _⟩
 ·have gr:=zav d hr;have HM0:Hid (MR w w g (turn CL 0)):=zaa ⟨by rw[zjt];exact Hr,fun _ _=>rfl,rfl,rfl,rfl,rfl⟩;have HR:=zaa hr;have Y1:=zaa (fun b o e=>Hp g b o rfl e);have CQ:=zaa Hr;have Uj:=zaa GZ;have Kh:=zaa hlen;clear ho hr Hr GZ hlen Hp;go_enter func22,ntmps22;go_wp2;clear gr;go_loopw [6] (fun i wx=>∃ j:Nat,j≤c∧i=.int .i64 (j:Nat)∧MR w wx g (turn CL j)) (fun i _=>c - (intOf i).toNat)
  case atStart=>exact⟨0,by omega,rfl,HM0.out⟩
  case round=>
   obtain⟨j,hj,rfl,hM⟩:=hrel;clear HM0;by_cases Hi:j < c
   ·obtain⟨x,hx⟩:∃ x,CL[j]? = some x:=⟨_,yc1 (by have:=Kh.out;omega)⟩;have UI:x < 256:=Uj.out x (List.mem_of_getElem? hx);have JR:=hM.cell (zoM hx);have hfz:=hM.frz j;have HS:=zaa (hM.store (j:=j) (y:=f128 x));have cO:((x:Int)+128) % 256=((f128 x:Nat):Int):=by unfold f128;omega
    have HX:=zaa hx;obtain⟨y,hy⟩:∃ y,f128 x=y:=⟨_,rfl⟩;have HY:=zaa hy;rw[hy] at cO HS;clear hM hx hy;go_wp2;go_roundw
    case rel=>exact⟨j+1,Hi,by go_num,by have:=HS.out;rw[←HY.out,zlj HX.out,HY.out] at this;exact this⟩
    case measure=>(simp[intOf];omega)
   ·obtain rfl:j=c:=by omega
    rename World=>wa
    have YS:MR w wa g (CL.map f128):=by rw[←zli,Kh.out];exact hM
    have gr:=zav d (YS.rd HR.out Y1.out);have HM1:Hid (MR w wa g (turn (CL.map f128) 0)):=zaa (by rw[zjt];exact YS);clear hM YS;go_wp2;clear gr;go_loopw [8] (fun i wx=>∃ k:Nat,k≤j∧i=.int .i64 (k:Nat)∧MR w wx g (turn (CL.map f128) k)) (fun i _=>j - (intOf i).toNat)
    case atStart=>exact⟨0,by omega,rfl,HM1.out⟩
    case round=>
     obtain⟨k,hk,rfl,hM⟩:=hrel;clear HM1;by_cases Hi:k < j
     ·obtain⟨z,hz,hx⟩:=zuX (L:=CL) (j:=k) (by have:=Kh.out;omega);obtain⟨x,uC⟩:∃ x,f128 z=x:=⟨_,rfl⟩;rw[uC] at hx;have UI:x < 256:=by rw[←uC];unfold f128;omega
      have JR:=hM.cell (zoM hx);have hfz:=hM.frz k;have HS:=zaa (hM.store (j:=k) (y:=f128 x));have cO:((x:Int)+128) % 256=((f128 x:Nat):Int):=by unfold f128;omega
      have HX:=zaa hx;obtain⟨y,hy⟩:∃ y,f128 x=y:=⟨_,rfl⟩;have HY:=zaa hy;rw[hy] at cO HS;clear hM hx hy hz uC;go_wp2;go_roundw
      case rel=>exact⟨k+1,Hi,by go_num,by have:=HS.out;rw[←HY.out,zlj HX.out,HY.out] at this;exact this⟩
      case measure=>(simp[intOf];omega)
     ·obtain rfl:k=j:=by omega
      have ji:MR w wr g CL:=by
       have h1:=zli (CL.map f128);rw[yc2,Kh.out,back CL Uj.out] at h1;rw[←h1];exact hM
      have HB:=zaa (ji.below CQ.out);clear hM ji;go_wp2;go_ret;exact⟨rfl,HB.out⟩
theorem zoN (A:Oz)(n c:Nat) :
  (∀ (W:World),(Instr.slice 22 (.slice A n c) none (some (.int .i64 (c:Int))) none).run prog W=.ok (.slice A c c) W)∧(∀ (W:World),(Instr.sliceAt 22 (.slice A n c) none (some (.int .i64 (c:Int))) none).run prog W=.ok (.slice A c c) W):=by
 have h1:∀ (W:World),(Instr.slice 22 (.slice A n c) none (some (.int .i64 (c:Int))) none).run prog W=.ok (.slice A c c) W:=fun W=>by
  rw[run_slice_h (P:=prog) (w:=W) 22 A n c under22 .i64 (c:Int) (by omega) (by omega),elem22,size5];simp only[Result.andThen,sliced];cases A<;>simp[Addr.add]
 refine⟨h1,fun W=>?_⟩;rw[run_sliceAt_slice (P:=prog) (w:=W) 22 _ _ _ _ under22];exact h1 W
structure Mny (w:World) (g m base:Nat) (F:Nat→Oz) (N C:Nat→Nat) (L:Nat→Lz):Prop where
 row:∀ i,i < m→w.cell? ⟨g,i,none⟩=some (.slice (F i) (N i) (C i))
 lt:g < w.heap.size
 own:∀ i,i < m→Utf.Own .u8 256 5 w base (F i) (N i) (C i) (L i)
 ne:∀ i k,i < m→k < m→i≠k→∀ b b' o,F i=some ⟨b,0,none⟩→F k=some ⟨b',o,none⟩→b'≠b
section
variable {w w':World} {g m base:Nat} {F:Nat→Oz} {N C:Nat→Nat} {L:Nat→Lz}
theorem Mny.call (h:Mny w g m base F N C L)(hb:Below w.heap.size w w'):Mny w' g m base F N C L:=
 ⟨fun i hi=>(hb.cell (p:=⟨g,i,none⟩) h.lt).trans (h.row i hi),Nat.lt_of_lt_of_le h.lt hb.size,fun i hi=>(h.own i hi).below hb,h.ne⟩
theorem Mny.held (h:Mny w g m base F N C L){i k:Nat}(hi:i < m)(hk:k < m)(hb:Below w.heap.size w w'):w'.cell? ⟨g,i,none⟩=some (.slice (F i) (N i) (C i))∧w'.cell? ⟨g,k,none⟩=some (.slice (F k) (N k) (C k))∧Below w.heap.size w w':=
 ⟨(h.call hb).row i hi,(h.call hb).row k hk,hb⟩
theorem Mny.meets (h:Mny w g m base F N C L){i k:Nat}(hi:i < m)(hk:k < m)(Hp:i≠k):Calls prog 22 #[.slice (F i) (C i) (C i),.slice (F k) (N k) (C k)] w (Val.zaj false w):=
 zq2 base (N i) (C i) (F i) (L i) _ (N k) (C k) (F k) (L k) w (h.own i hi) (h.own k hk).rd fun b b' o e e'=>h.ne i k hi hk Hp b b' o e e'
end
theorem zmb (w:World)(g m c base:Nat)(F:Nat→Oz)(N C:Nat→Nat)(L:Nat→Lz)(h:Mny w g m base F N C L)(hm:m≤1048576):Calls prog 10 #[.slice (some ⟨g,0,none⟩) m c] w (Val.zaj true w):=by
 have s1:=fun i=>(zoN (F i) (N i) (C i)).1;have s2:=fun i=>(zoN (F i) (N i) (C i)).2;have HH:=zaa h;clear h;go_enter func10,ntmps10;go_wp2;go_loopw [3] (fun i wx=>∃ j:Nat,j≤m∧i=.int .i64 (j:Nat)∧Below w.heap.size w wx) (fun i _=>m - (intOf i).toNat)
 case atStart=>exact⟨0,by omega,rfl,Below.refl _ _⟩
 case round=>
  obtain⟨j,hj,rfl,hb⟩:=hrel
  rename World=>wa
  have HB:=zaa hb;have HD:=zaa (HH.out.call hb);clear hb;by_cases Hi:j < m
  ·have d1:decide ((j:Int) < (m:Int))=true:=by simp;omega
   have i0:(0:Int)≤(j:Int):=by omega
   have i1:(j:Int) < (m:Int):=by omega
   go_wp2;go_loopw [4] (fun i wx=>∃ k:Nat,k≤m∧i=.int .i64 (k:Nat)∧Below wa.heap.size wa wx) (fun i _=>m - (intOf i).toNat)
   case atStart=>exact⟨0,by omega,rfl,Below.refl _ _⟩
   case round=>
    obtain⟨k,hk,rfl,He⟩:=hrel;have y9:=zaa (HD.out.call He);have Gb:=zaa He;have jQ:Below wr.heap.size wr wr.drew:=(Below.refl _ _).drew;have j3:=jQ;clear He;by_cases bF:k < m
    ·have d2:decide ((k:Int) < (m:Int))=true:=by simp;omega
     have k0:(0:Int)≤(k:Int):=by omega
     have k1:(k:Int) < (m:Int):=by omega
     have jP:=zaa (show k+1≤m by omega);by_cases YY:j=k
     ·have e1:((j:Int) != (k:Int))=false:=by simp;omega
      have e2:(j != k)=false:=by simp;omega
      clear YY;go_upto_region 7 with fail
      go_quiet (fail);go_wp2;go_roundw
      case rel=>exact⟨k+1,jP.out,by go_num,below_drewN Gb.out _⟩
      case measure=>(simp[intOf];omega)
     ·have e1:((j:Int) != (k:Int))=true:=by simp;omega
      have e2:(j != k)=true:=by simp;omega
      have Y1:=zaa YY;obtain⟨z0,z1,_⟩:=y9.out.held Hi bF (Below.refl _ _);clear YY;go_upto_region 7 with fail
      go_region_held3 (fun wx=>wx.cell? ⟨g,j,none⟩=some (.slice (F j) (N j) (C j))∧wx.cell? ⟨g,k,none⟩=some (.slice (F k) (N k) (C k))∧Below wr.heap.size wr wx) (with_reducible first | assumption | exact Mny.held y9.out Hi bF jQ | exact Mny.held y9.out Hi bF gM | fail)
       (first
       | (go_at_call 22;(with_reducible refine(Mny.meets (Mny.call y9.out j3) Hi bF Y1.out).mono ?_);rintro e w8 ⟨rfl,hb8⟩;have gM:=zad j3 hb8)
       | fail)
      all_goals
       go_wp2;go_roundw
       case rel=>exact⟨k+1,jP.out,by go_num,zad Gb.out gM⟩
       case measure=>(simp[intOf];omega)
    ·obtain rfl:k=m:=by omega
     have d2:decide ((k:Int) < (k:Int))=false:=by simp
     have HJ1:=zaa (show j+1≤k by omega);go_wp2;go_roundw
     case rel=>exact⟨j+1,HJ1.out,by go_num,zad HB.out Gb.out⟩
     case measure=>(simp[intOf];omega)
  ·obtain rfl:j=m:=by omega
   have d1:decide ((j:Int) < (j:Int))=false:=by simp
   go_wp2;go_ret;exact⟨rfl,HB.out⟩
end Apt
namespace Rm
open Go.RowKit Utf
def Ow (w:World)(base:Nat)(A:Oz)(n c:Nat)(l:Lz):Prop:=(∀ x∈l,x < 256)∧w.ownsRow base 5 1 (.slice A n c) n (vs .u8 l)
theorem Ow.eqv {w:World}{base n c:Nat}{A:Oz}{l m:Lz}(h:Ow w base A n c l)(e:l=m):Ow w base A n c m:=e▸h
theorem Ow.own {w:World}{base n:Nat}{A:Oz}{l:Lz}(h:Ow w base A n n l):Utf.Own .u8 256 5 w base A n n l:=by
 refine⟨h.1,h.2,fun g hg cur e fz hc u hu=>?_⟩;rcases h.2.2 with ⟨e',_⟩ | ⟨g',cap,cur',e',_,hh,_,_,hs,ht⟩
 ·rw[e'] at hg;cases hg
 ·injection e' with e1 _ e3
  subst e1;subst e3;have:g'=g:=by simpa [Value.ownBlock] using hg
  subst this;rw[hc] at hh;injection hh with hh
  injection hh with hh _ _
  subst hh;rw[yc0 (by simp;omega)] at ht;rw[ht] at hu;exact zmn h.1 u hu
theorem ztr {w:World}{base n m c:Nat}{g:Nat}{l s:Lz}(h:Utf.Own .u8 256 5 w base (some ⟨g,0,none⟩) n c (l++s))(hm:l.length=m)(hn:m≤n):Utf.Own .u8 256 5 w base (some ⟨g,0,none⟩) m c l:=by
 refine⟨fun x hx=>h.1 x (List.mem_append_left _ hx),⟨by rw[zby];omega,?_⟩,h.2.2.len⟩;rcases h.2.1.2 with ⟨e,_⟩ | ⟨g',cap,cur,e,hb,hh,h1,h2,hs,ht⟩
 ·injection e with e _ _;cases e
 ·injection e with e1 _ e3
  subst e3;refine .inr ⟨g',c,cur,by rw[←e1],hb,hh,by omega,h2,hs,?_⟩;have:cur.toList.take (m * 1)=(cur.toList.take (n * 1)).take (m * 1):=by rw[List.take_take,Nat.min_eq_left (by omega)]
  rw[this,ht,zea,List.take_append_of_le_length (by rw[zby];omega),yc0 (by rw[zby];omega)]
def spare (n:Nat):Lz:=(List.range 11).map fun i=>3 * (n+i) % 256
theorem zlk (n i:Nat)(h:i < 11):(spare n)[i]? = some (3 * (n+i) % 256):=by simp[spare,h]
theorem zju {m:Lz}{N j x:Nat}(hj:m[j]? = some x)(hN:j < N):(m.take j++List.replicate (N - j) 0).set j x=m.take (j+1)++List.replicate (N - (j+1)) 0:=by
 have hl:(m.take j).length=j:=by
  rw[yc3];have:=(List.getElem?_eq_some_iff.1 hj).1;omega
 rw[List.set_append_right j x (by omega),hl,Nat.sub_self,show N - j=(N - (j+1))+1 by omega,List.replicate_succ,List.set_cons_zero,List.take_add_one,hj];simp
theorem Ow.stored {w:World}{base g n cap j x:Nat}{L:Lz}(h:Ow w base (some ⟨g,0,none⟩) n cap L)(hx:x < 256) :
  Ow (w.setCell ⟨g,j,none⟩ (.int .u8 (x:Int))) base (some ⟨g,0,none⟩) n cap (L.set j x):=by
 refine⟨fun y hy=>?_,?_⟩
 ·rcases List.mem_or_eq_of_mem_set hy with h' | rfl
  ·exact h.1 y h'
  ·exact hx
 ·have:=(h.2.stored j (.int .u8 (x:Int))).1
  rwa [show (vs .u8 L).set j (.int .u8 (x:Int))=vs .u8 (L.set j x) by simp[vs,List.map_set]] at this
theorem zfz (g m c n:Nat)(hn:n≤m)(hm:m≤c)(W:World):(Instr.slice 22 (.slice (some ⟨g,0,none⟩) m c) (some (.int .i64 0)) (some (.int .i64 (n:Int))) none).run prog W=.ok (.slice (some ⟨g,0,none⟩) n c) W:=by
 rw[run_slice_lh (P:=prog) (w:=W) 22 _ m c under22 .i64 .i64 (0:Int) (n:Int) (by omega) (by omega) (by omega),elem22,size5];simp[Result.andThen,sliced,Addr.add]
theorem zoO (g m c n:Nat)(hn:n≤m)(hm:m≤c)(W:World):(Instr.sliceAt 22 (.slice (some ⟨g,0,none⟩) m c) (some (.int .i64 0)) (some (.int .i64 (n:Int))) none).run prog W=.ok (.slice (some ⟨g,0,none⟩) n c) W:=by
 rw[run_sliceAt_slice (P:=prog) (w:=W) 22 _ _ _ _ under22];exact zfz g m c n hn hm W
theorem zll (g m c:Nat)(z:Int)(hz:z=(c:Int))(W:World):(Instr.slice 22 (.slice (some ⟨g,0,none⟩) m c) none (some (.int .i64 z)) none).run prog W=.ok (.slice (some ⟨g,0,none⟩) c c) W:=by
 subst hz;rw[run_slice_h (P:=prog) (w:=W) 22 _ m c under22 .i64 (c:Int) (by omega) (by omega),elem22,size5];simp[Result.andThen,sliced,Addr.add]
theorem zoP (g m c:Nat)(z:Int)(hz:z=(c:Int))(W:World):(Instr.sliceAt 22 (.slice (some ⟨g,0,none⟩) m c) none (some (.int .i64 z)) none).run prog W=.ok (.slice (some ⟨g,0,none⟩) c c) W:=by
 rw[run_sliceAt_slice (P:=prog) (w:=W) 22 _ _ _ _ under22];exact zll g m c z hz W
def Room (l:Lz)(n:Nat)(w:World)(e:Ending)(w':World):Prop:=
 ∃ g,e=.returned (.slice (some ⟨g,0,none⟩) n (n+11))∧Ow w' w.heap.size (some ⟨g,0,none⟩) (n+11) (n+11) (l++spare n)∧Below w.heap.size w w'
theorem zoQ (A:Oz)(n c:Nat)(l:Lz)(w:World)(hr:Rd .u8 256 w w.heap.size A n l)(hn:n≤1048576):Calls prog 5 #[.slice A n c] w (Room l n w):=by
 obtain⟨i0,hi,gE,Hn,gb⟩:=info_parts info5;have hlen:=hr.len;go_enter func5,ntmps5;go_wp2_with (at_make;refine wpList_make_full w rfl _ _ 22 rfl w.heap.size 5 i0 (.int .u8 0) 1 underlying22 hi gE Hn .i64 .i64 ((n:Int)+11) ((n:Int)+11) (n+11) rfl rfl (by omega) (by omega) (by rw[gb];omega) (by unfold maxLen;omega) zab ?_;intro w1 kQ jZ;have Ha:Below w.heap.size w w1:=(Below.refl _ _).grown jZ zab (fun _ h=>by cases h));have Ga:Ow w1 w.heap.size (some ⟨w.heap.size,0,none⟩) (n+11) (n+11) (List.replicate (n+11) 0):=by
  refine⟨fun x hx=>by rw[List.eq_of_mem_replicate hx];omega,?_⟩;rw[show vs .u8 (List.replicate (n+11) 0)=(madeCells (Value.int .u8 0).cells ((n+11) * 1)).toList from by rw[Nat.mul_one];show _=(madeCells #[.int .u8 0] (n+11)).toList;rw[toList_madeCells_one];simp[vs]];exact kQ
 clear kQ jZ;generalize hg:w.heap.size=g at *;go_loopw [5] (fun i wr=>∃ j:Nat,j≤n+11∧i=.int .i64 j∧Ow wr g (some ⟨g,0,none⟩) (n+11) (n+11) ((l++spare n).take j++List.replicate (n+11 - j) 0)∧Below g w wr) (fun i _=>n+11 - (intOf i).toNat)
 case atStart=>exact⟨0,Nat.zero_le _,rfl,Ga.eqv (by simp),Ha⟩
 case round=>
  clear Ga Ha;obtain⟨j,hj,rfl,ho,hb⟩:=hrel;have Qc:(l++spare n).length=n+11:=by simp[spare,hlen]
  by_cases Hi:j < n+11
  ·have cP:((l++spare n).take j++List.replicate (n+11 - j) 0).length=n+11:=by simp[Qc];omega
   obtain⟨v0,j3⟩:∃ v0,wr.cell? ⟨g,j,none⟩=some v0:=⟨_,(ho.2.cellAt j (by omega)).trans (zo6 _ _ j (by omega))⟩;have GD:=ho.2.frozenAt j;obtain⟨z,hz,gb⟩:∃ z:Nat,(3 * (j:Int)) % 256=(z:Int)∧z=3 * j % 256:=⟨3 * j % 256,by omega,rfl⟩;have jn:z < 256:=by omega
   have gZ:∀ v,(wr.setCell ⟨g,j,none⟩ v).frozen? ⟨g,j,none⟩=false:=fun v=>(ho.2.stored j v).1.frozenAt j;have gM:∀ v,(wr.setCell ⟨g,j,none⟩ v).cell? ⟨g,j,none⟩=some v:=fun v=>World.cell?_setCell_same' _ _ _ (by rw[j3];rfl);by_cases uD:j < n
   ·obtain⟨b,o,x,rfl,kU,hx,GQ,hc⟩:=hr.at_ uD;have Jf:∀ v,(wr.setCell ⟨g,j,none⟩ v).cell? ⟨b,o+j,none⟩=some (.int .u8 (x:Int)):=fun v=>by
     rw[World.cell?_setCell_other _ _ _ _ (by intro e;injection e with e _ _;omega),hb.cell kU];exact hc
    have HX:Hid ((l++spare n)[j]? = some x):=zaa (by rw[List.getElem?_append_left (by omega)];exact hx);clear hx gb hc cP Qc hlen;have V7:(j:Int) < n:=by omega
    go_wp2;go_roundw
    case rel=>
     refine⟨j+1,by omega,by go_num,((ho.stored (j:=j) jn).stored (j:=j) GQ).eqv ?_,(hb.setCell (by simp) _).setCell (by simp) _⟩;rw[List.set_set,zju HX.out Hi]
    case measure=>simp[intOf];omega
   ·have HX:Hid ((l++spare n)[j]? = some z):=zaa (by rw[yc4 (by omega),hlen,zlk n (j - n) (by omega),gb];congr 3;omega);clear gb cP Qc hlen;have V7:decide ((j:Int) < n)=false:=by simp;omega
    go_wp2;go_roundw
    case rel=>
     refine⟨j+1,by omega,by go_num,(ho.stored (j:=j) jn).eqv ?_,hb.setCell (by simp) _⟩;rw[zju HX.out Hi]
    case measure=>simp[intOf];omega
  ·have HE:Hid ((l++spare n).take j++List.replicate (n+11 - j) 0=l++spare n):=zaa (by rw[yc0 (by omega),show n+11 - j=0 by omega];simp);have q1:=zfz g (n+11) (n+11) n (by omega) zab wr;have q2:=zoO g (n+11) (n+11) n (by omega) zab wr;clear Qc hlen;go_wp2;go_ret;exact⟨g,rfl,by rw[hg];exact ho.eqv HE.out,by rw[hg];exact hb⟩
theorem zq3 (g n:Nat)(A:Oz)(c:Nat)(l:Lz)(w:World)(B:Nat)(hr:Rd .u8 256 w B (some ⟨g,0,none⟩) (n+11) (l++spare n))(ko:Rd .u8 256 w B A n l)(hn:n≤1048576) :
  Calls prog 9 #[.slice (some ⟨g,0,none⟩) n (n+11),.slice A n c] w fun e w'=>e=.returned (.bool true)∧w=w':=by
 have hlen:=ko.len;have J3:Rd .u8 256 w B (some ⟨g,0,none⟩) n l:=(hr.take (k:=n) (by omega)).eqv (by rw[←hlen,List.take_left]);have gu:=zav (n+11) J3;have Gw:=zav c ko;have q1:=fun z hz=>zll g n (n+11) z hz w;have q2:=fun z hz=>zoP g n (n+11) z hz w;clear J3;go_enter func9,ntmps9;go_wp2;go_loop [5] (fun i=>∃ j:Nat,n≤j∧j≤n+11∧i=.int .i64 j) (fun i=>n+11 - (intOf i).toNat)
 case atStart=>exact⟨n,zab,by omega,rfl⟩
 case round=>
  obtain⟨j,Vb,Ya,rfl⟩:=hrel;by_cases Hi:j < n+11
  ·obtain⟨b,o,x,e,kU,hx,GQ,hc⟩:=hr.at_ Hi;injection e with e
   injection e with e1 e2
   subst e1;subst e2;rw[yc4 (by omega),hlen,zlk n (j - n) (by omega)] at hx;injection hx with hx
   rw[Nat.zero_add] at hc;have hz:(3 * (j:Int)) % 256=(x:Int):=by rw[←hx];omega
   clear hx hlen;have V7:(j:Int) < n+11:=by omega
   have q1':=q1 ((n:Int)+11) (by omega);have q2':=q2 ((n:Int)+11) (by omega);go_wp2;exact⟨⟨j+1,by omega,by omega,by go_num⟩,by simp[intOf];omega⟩
  ·go_wp2;go_ret;exact⟨rfl,rfl⟩
structure Rmy (w:World) (base g n:Nat) (l:Lz):Prop where
 own:Utf.Own .u8 256 5 w base (some ⟨g,0,none⟩) (n+11) (n+11) (l++spare n)
 len:l.length=n
theorem Rmy.below {w w':World}{base g n:Nat}{l:Lz}(h:Rmy w base g n l)(hb:Below w.heap.size w w'):Rmy w' base g n l:=⟨h.own.below hb,h.len⟩
theorem Rmy.mine {w:World}{base g n:Nat}{l:Lz}(h:Rmy w base g n l):Utf.Own .u8 256 5 w base (some ⟨g,0,none⟩) n (n+11) l:=ztr h.own h.len (by omega)
theorem Rmy.blk {w:World}{base g n:Nat}{l:Lz}(h:Rmy w base g n l):base≤g∧g < w.heap.size:=h.own.blk g rfl
def zoR (n:Nat)(l:Lz)(w:World)(e:Ending)(w':World):Prop:=∃ g,e=.returned (.slice (some ⟨g,0,none⟩) n (n+11))∧Rmy w' w.heap.size g n l∧Below w.heap.size w w'
theorem room (A:Oz)(n c:Nat)(l:Lz)(w:World)(hr:Rd .u8 256 w w.heap.size A n l)(hn:n≤1048576):Calls prog 5 #[.slice A n c] w (zoR n l w):=(zoQ A n c l w hr hn).mono fun _ _ ⟨g,he,ho,hb⟩=>⟨g,he,⟨ho.own,hr.len⟩,hb⟩
theorem kept (base g n:Nat)(A:Oz)(c:Nat)(l:Lz)(w:World)(h:Rmy w base g n l)(hr:Rd .u8 256 w w.heap.size A n l)(hn:n≤1048576):Calls prog 9 #[.slice (some ⟨g,0,none⟩) n (n+11),.slice A n c] w fun e w'=>e=.returned (.bool true)∧w=w':=zq3 g n A c l w _ h.own.rd hr hn
end Rm
namespace Fr
open Go.RowKit Utf Apt
theorem apart2 {w:World}{g base x:Nat}{A1:Oz}{n1 c1:Nat}{L1:Lz}{A2:Oz}{n2 c2:Nat}{L2:Lz}(row:w.heap[g]? = some (.cells #[.slice A1 n1 c1,.slice A2 n2 c2] 22 (0,0)))(o1:Utf.Own .u8 256 5 w base A1 n1 c1 L1)(o2:Utf.Own .u8 256 5 w base A2 n2 c2 L2)
  (h1:∀ b o,A1=some ⟨b,o,none⟩→x≤b) (h2:∀ b o,A2=some ⟨b,o,none⟩→b < x):Calls prog 10 #[.slice (some ⟨g,0,none⟩) 2 2] w (Val.zaj true w):=by
 refine zmb w g 2 2 base (fun i=>if i=0 then A1 else A2) (fun i=>if i=0 then n1 else n2) (fun i=>if i=0 then c1 else c2) (fun i=>if i=0 then L1 else L2) ⟨?_,(Array.getElem?_eq_some_iff.1 row).1,?_,?_⟩ (by omega)
 ·intro i hi;obtain rfl | rfl:i=0∨i=1:=by omega
  ·exact cell_of_row w g 0 _ _ _ row
  ·exact cell_of_row w g 1 _ _ _ row
 ·intro i hi;obtain rfl | rfl:i=0∨i=1:=by omega
  ·exact o1
  ·exact o2
 ·intro i k hi hk Hp b b' o e e';obtain⟨rfl,rfl⟩ | ⟨rfl,rfl⟩:(i=0∧k=1)∨(i=1∧k=0):=by omega
  ·have:=h1 b 0 e;have:=h2 b' o e';omega
  ·have:=h2 b 0 e;have:=h1 b' o e';omega
end Fr
end Go.Proofs.YtbbbanfggcediaaGreatDoor
