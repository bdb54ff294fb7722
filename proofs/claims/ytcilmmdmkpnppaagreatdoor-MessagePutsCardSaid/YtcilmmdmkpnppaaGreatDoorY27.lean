/-
  Contracts of functions and plain mathematics, text by text, each with its conditions ahead of it:
  Contract of the document's bare: what a value is, whatever it is called. Condition: a value that may be.
  Contract of the document's fits: can a value be told by a code? Conditions: a value that may be, which is not called something; a code of its kind; what 'inside' answers of it is given.
  Contract of the document's data: the bytes of a value that is told by a code. Conditions: a value that may be, which is not called something; a code of its kind that can tell it; what 'inside' answers of it is given.
-/
import Derived.Test.YtcilmmdmkpnppaaGreatDoorY14
import Derived.Test.YtcilmmdmkpnppaaGreatDoorY15
import Derived.Test.YtcilmmdmkpnppaaGreatDoorY26
import Derived.Deep.LoopGhost
import Derived.Deep.RegionLaw
section
namespace Go.Proofs.YtcilmmdmkpnppaaGreatDoor.Enc
set_option maxRecDepth 100000
open Go.RowKit Utf Val V
def GivesR (v:V)(w:World)(e:Ending)(w':World):Prop:=∃ k n t ks A l c,v=.mk k n t ks∧e=.returned (.agg #[.int .u8 (k:Int),.int .u64 (n:Int),.string t,.slice A l c])∧k < 256∧n < 18446744073709551616∧Kd w ks A l c∧Below w.heap.size w w'
structure BR (w wr:World) (v:V) (k n:Nat) (t:ByteArray) (ks:List V) (A:Option Addr) (l c:Nat):Prop where
 eq:core (.mk k n t ks)=core v
 may:mayB (.mk k n t ks)=true
 num:k < 256∧n < 18446744073709551616
 kd:Val.Kids false w (Lo w.heap.size) ks A l c
 box:Box wr w.heap.size (.int .u8 (k:Int)) (.int .u64 (n:Int)) (.string t) (.slice A l c)
 res:Box wr (w.heap.size+1) (.int .u8 0) (.int .u64 0) (.string ⟨#[]⟩) (.slice none 0 0)
 low:Below w.heap.size w wr
set_option maxHeartbeats 1000000 in
theorem xbare_any (k0 n0:Nat)(t0:ByteArray)(ks0:List V)(A0:Option Addr)(l0 c0:Nat)(w:World)(hm0:mayB (.mk k0 n0 t0 ks0)=true)(hk0:k0 < 256)(hn0:n0 < 18446744073709551616)(hK0:Kd w ks0 A0 l0 c0) :
  Calls Tryz.prog 106 #[.agg #[.int .u8 (k0:Int),.int .u64 (n0:Int),.string t0,.slice A0 l0 c0]] w (GivesR (core (.mk k0 n0 t0 ks0)) w):=by
 have hP0:BR w ((w.alloc (.cells #[.int .u8 (k0:Int),.int .u64 (n0:Int),.string t0,.slice A0 l0 c0] 44)).alloc (.cells #[.int .u8 0,.int .u64 0,.string ⟨#[]⟩,.slice none 0 0] 44)) (.mk k0 n0 t0 ks0) k0 n0 t0 ks0 A0 l0 c0:=
  ⟨rfl,hm0,⟨hk0,hn0⟩,hK0,(Box.new w _ _ _ _).alloc _,Box.new2 w _ _ _ _ _,((Below.refl _ _).alloc (Nat.le_refl _) _).alloc (by simp) _⟩
 go_enter Tryz.func106,Tryz.ntmps106;go_wp2;go_loopg [3] (bulk (.mk k0 n0 t0 ks0)) (fun g _ wr=>∃ k n t ks A l c,g=bulk (.mk k n t ks)∧BR w wr (.mk k0 n0 t0 ks0) k n t ks A l c)
 case atStart=>exact⟨_,_,_,_,_,_,_,rfl,hP0⟩
 case round=>
  obtain⟨k,n,t,ks,A,l,c,hg,hP⟩:=hrel;clear hP0;obtain⟨q0,q1,q2,q3,qf⟩:=hP.box.all;by_cases hk:k=25
  ·subst hk;obtain⟨x,y,rfl,hnm,hmx,hmy⟩:=may_desc hP.may;obtain rfl:l=2:=hP.kd.1;obtain⟨b',o',k2,n2,t2,ks2,A2,l2,c2,rfl,hx2,hy,hk2,hn2,hK2⟩:=kid_at hP.kd (i:=1) (by omega);simp only[List.getElem?_cons_zero,List.getElem?_cons_succ,Option.some.injEq] at hx2;subst hx2;rw[Nat.one_mul] at hy;have q0:wr.cell? ⟨w.heap.size,0,none⟩=some (.int .u8 25):=q0;obtain⟨d0,d1,d2,d3⟩:=hy wr hP.low;have HP:=Lib.hid hP;have HG:=Lib.hid hg;clear hP hy hg hnm hmx;go_wp2;go_roundg (bulk (.mk k2 n2 t2 ks2))
   case measure=>have:=HG.out;simp only[bulk,bulkL] at this ⊢;omega
   case rel=>
    have hP:=HP.out;refine⟨_,_,_,_,_,_,_,rfl,⟨by rw[←hP.eq,core_desc],hmy,⟨hk2,hn2⟩,hK2,hP.box.set4 _ _ _ _,hP.res.far4 (by omega) _ _ _ _,below_set4 hP.low (Nat.le_refl _) _ _ _ _⟩⟩
  ·have dk:((k:Int)==25)=false:=by rw[beq_eq_false_iff_ne];omega
   have hcore:=core_not (n:=n) (t:=t) (ks:=ks) hk;obtain⟨r0,r1,r2,r3,rf⟩:=hP.res.all;have HP:=Lib.hid hP;have HC:=Lib.hid hcore;clear hP hcore;go_wp2;have hw5:=HP.out.low.size;refine bodyPost_ret (v:=.agg #[.int .u8 (k:Int),.int .u64 (n:Int),.string t,.slice A l c]) (by simp[results,Tryz.results106,go_sem,r0,r1,r2,r3]) rfl ?_;refine⟨k,n,t,ks,A,l,c,?_,rfl,HP.out.num.1,HP.out.num.2,HP.out.kd,below_set4 HP.out.low (by omega) _ _ _ _⟩;rw[←HP.out.eq,HC.out]
end Go.Proofs.YtcilmmdmkpnppaaGreatDoor.Enc
namespace Go.Proofs.YtcilmmdmkpnppaaGreatDoor.Enc
set_option maxRecDepth 100000
open Go.RowKit Utf Val V
theorem k_of {k c:Nat}{f:Can}(h:(c,f)∈chs k):1≤k∧k≤24:=by
 refine Classical.byContradiction fun hn=>?_;have:chs k=[]:=by
  unfold chs
  split<;>first | rfl | omega
 rw[this] at h;cases h
def codeRow (x:Nat×Can):Bool:=match x.2 with
 | .all=>!([65,66,67,68,69,82,83,84,85,160,161,163,192,193,224].contains x.1)&&decide (x.1 < 256)
 | .just m=>(x.1==65&&m==1)||((x.1==66||x.1==67||x.1==68)&&m==0)
 | .upto m=>(x.1==82||x.1==83)&&m==255
 | .near=>x.1==84||x.1==85
 | .short=>x.1==160||x.1==161||x.1==163
 | .none_=>x.1==69
 | .small=>x.1==192||x.1==193||x.1==224
theorem code_rows:((List.range 25).all fun k=>(chs k).all codeRow)=true:=by decide +kernel
theorem code_row {k c:Nat}{f:Can}(h:(c,f)∈chs k):codeRow (c,f)=true:=List.all_eq_true.1 (List.all_eq_true.1 code_rows k (List.mem_range.2 (by have:=(k_of h).2;omega))) _ h
theorem fits_65 (k n:Nat)(t:ByteArray)(A:Option Addr)(l c:Nat)(w:World):Calls Tryz.prog 138 #[.int .u8 65,.agg #[.int .u8 (k:Int),.int .u64 (n:Int),.string t,.slice A l c]] w (Val.GivesB (decide (n=1)) w):=by
 have hB:Below w.heap.size w (w.alloc (.cells #[.int .u8 (k:Int),.int .u64 (n:Int),.string t,.slice A l c] 44)):=(Below.refl _ _).alloc (Nat.le_refl _) _;have hbx:=Box.new w (.int .u8 (k:Int)) (.int .u64 (n:Int)) (.string t) (.slice A l c);obtain⟨z0,z1,z2,z3,_⟩:=hbx.all;have HE:=eq_nat n 1;simp only[Int.cast_ofNat_Int] at HE;obtain⟨p,hp⟩:∃ p,decide (n=1)=p:=⟨_,rfl⟩;rw[hp] at HE ⊢;clear hp;go_enter Tryz.func138,Tryz.ntmps138;go_wp2;go_ret;exact⟨rfl,hB⟩
theorem fits_66 (k n:Nat)(t:ByteArray)(A:Option Addr)(l c:Nat)(w:World):Calls Tryz.prog 138 #[.int .u8 66,.agg #[.int .u8 (k:Int),.int .u64 (n:Int),.string t,.slice A l c]] w (Val.GivesB (decide (n=0)) w):=by
 have hB:Below w.heap.size w (w.alloc (.cells #[.int .u8 (k:Int),.int .u64 (n:Int),.string t,.slice A l c] 44)):=(Below.refl _ _).alloc (Nat.le_refl _) _;have hbx:=Box.new w (.int .u8 (k:Int)) (.int .u64 (n:Int)) (.string t) (.slice A l c);obtain⟨z0,z1,z2,z3,_⟩:=hbx.all;have HE:=eq_nat n 0;simp only[Int.cast_ofNat_Int] at HE;obtain⟨p,hp⟩:∃ p,decide (n=0)=p:=⟨_,rfl⟩;rw[hp] at HE ⊢;clear hp;go_enter Tryz.func138,Tryz.ntmps138;go_wp2;go_ret;exact⟨rfl,hB⟩
theorem fits_67 (k n:Nat)(t:ByteArray)(A:Option Addr)(l c:Nat)(w:World):Calls Tryz.prog 138 #[.int .u8 67,.agg #[.int .u8 (k:Int),.int .u64 (n:Int),.string t,.slice A l c]] w (Val.GivesB (decide (n=0)) w):=by
 have hB:Below w.heap.size w (w.alloc (.cells #[.int .u8 (k:Int),.int .u64 (n:Int),.string t,.slice A l c] 44)):=(Below.refl _ _).alloc (Nat.le_refl _) _;have hbx:=Box.new w (.int .u8 (k:Int)) (.int .u64 (n:Int)) (.string t) (.slice A l c);obtain⟨z0,z1,z2,z3,_⟩:=hbx.all;have HE:=eq_nat n 0;simp only[Int.cast_ofNat_Int] at HE;obtain⟨p,hp⟩:∃ p,decide (n=0)=p:=⟨_,rfl⟩;rw[hp] at HE ⊢;clear hp;go_enter Tryz.func138,Tryz.ntmps138;go_wp2;go_ret;exact⟨rfl,hB⟩
theorem fits_68 (k n:Nat)(t:ByteArray)(A:Option Addr)(l c:Nat)(w:World):Calls Tryz.prog 138 #[.int .u8 68,.agg #[.int .u8 (k:Int),.int .u64 (n:Int),.string t,.slice A l c]] w (Val.GivesB (decide (n=0)) w):=by
 have hB:Below w.heap.size w (w.alloc (.cells #[.int .u8 (k:Int),.int .u64 (n:Int),.string t,.slice A l c] 44)):=(Below.refl _ _).alloc (Nat.le_refl _) _;have hbx:=Box.new w (.int .u8 (k:Int)) (.int .u64 (n:Int)) (.string t) (.slice A l c);obtain⟨z0,z1,z2,z3,_⟩:=hbx.all;have HE:=eq_nat n 0;simp only[Int.cast_ofNat_Int] at HE;obtain⟨p,hp⟩:∃ p,decide (n=0)=p:=⟨_,rfl⟩;rw[hp] at HE ⊢;clear hp;go_enter Tryz.func138,Tryz.ntmps138;go_wp2;go_ret;exact⟨rfl,hB⟩
theorem fits_82 (k n:Nat)(t:ByteArray)(A:Option Addr)(l c:Nat)(w:World):Calls Tryz.prog 138 #[.int .u8 82,.agg #[.int .u8 (k:Int),.int .u64 (n:Int),.string t,.slice A l c]] w (Val.GivesB (decide (n≤255)) w):=by
 have hB:Below w.heap.size w (w.alloc (.cells #[.int .u8 (k:Int),.int .u64 (n:Int),.string t,.slice A l c] 44)):=(Below.refl _ _).alloc (Nat.le_refl _) _;have hbx:=Box.new w (.int .u8 (k:Int)) (.int .u64 (n:Int)) (.string t) (.slice A l c);obtain⟨z0,z1,z2,z3,_⟩:=hbx.all;have HE:decide ((n:Int) < 256)=decide (n≤255):=by rw[decide_eq_decide];omega
 obtain⟨p,hp⟩:∃ p,decide (n≤255)=p:=⟨_,rfl⟩;rw[hp] at HE ⊢;clear hp;go_enter Tryz.func138,Tryz.ntmps138;go_wp2;go_ret;exact⟨rfl,hB⟩
theorem fits_83 (k n:Nat)(t:ByteArray)(A:Option Addr)(l c:Nat)(w:World):Calls Tryz.prog 138 #[.int .u8 83,.agg #[.int .u8 (k:Int),.int .u64 (n:Int),.string t,.slice A l c]] w (Val.GivesB (decide (n≤255)) w):=by
 have hB:Below w.heap.size w (w.alloc (.cells #[.int .u8 (k:Int),.int .u64 (n:Int),.string t,.slice A l c] 44)):=(Below.refl _ _).alloc (Nat.le_refl _) _;have hbx:=Box.new w (.int .u8 (k:Int)) (.int .u64 (n:Int)) (.string t) (.slice A l c);obtain⟨z0,z1,z2,z3,_⟩:=hbx.all;have HE:decide ((n:Int) < 256)=decide (n≤255):=by rw[decide_eq_decide];omega
 obtain⟨p,hp⟩:∃ p,decide (n≤255)=p:=⟨_,rfl⟩;rw[hp] at HE ⊢;clear hp;go_enter Tryz.func138,Tryz.ntmps138;go_wp2;go_ret;exact⟨rfl,hB⟩
theorem fits_160 (k n:Nat)(t:ByteArray)(A:Option Addr)(l c:Nat)(w:World):Calls Tryz.prog 138 #[.int .u8 160,.agg #[.int .u8 (k:Int),.int .u64 (n:Int),.string t,.slice A l c]] w (Val.GivesB (decide (t.size≤255)) w):=by
 have hB:Below w.heap.size w (w.alloc (.cells #[.int .u8 (k:Int),.int .u64 (n:Int),.string t,.slice A l c] 44)):=(Below.refl _ _).alloc (Nat.le_refl _) _;have hbx:=Box.new w (.int .u8 (k:Int)) (.int .u64 (n:Int)) (.string t) (.slice A l c);obtain⟨z0,z1,z2,z3,_⟩:=hbx.all;have HE:decide ((t.size:Int) < 256)=decide (t.size≤255):=by rw[decide_eq_decide];omega
 obtain⟨p,hp⟩:∃ p,decide (t.size≤255)=p:=⟨_,rfl⟩;rw[hp] at HE ⊢;clear hp;go_enter Tryz.func138,Tryz.ntmps138;go_wp2;go_ret;exact⟨rfl,hB⟩
theorem fits_161 (k n:Nat)(t:ByteArray)(A:Option Addr)(l c:Nat)(w:World):Calls Tryz.prog 138 #[.int .u8 161,.agg #[.int .u8 (k:Int),.int .u64 (n:Int),.string t,.slice A l c]] w (Val.GivesB (decide (t.size≤255)) w):=by
 have hB:Below w.heap.size w (w.alloc (.cells #[.int .u8 (k:Int),.int .u64 (n:Int),.string t,.slice A l c] 44)):=(Below.refl _ _).alloc (Nat.le_refl _) _;have hbx:=Box.new w (.int .u8 (k:Int)) (.int .u64 (n:Int)) (.string t) (.slice A l c);obtain⟨z0,z1,z2,z3,_⟩:=hbx.all;have HE:decide ((t.size:Int) < 256)=decide (t.size≤255):=by rw[decide_eq_decide];omega
 obtain⟨p,hp⟩:∃ p,decide (t.size≤255)=p:=⟨_,rfl⟩;rw[hp] at HE ⊢;clear hp;go_enter Tryz.func138,Tryz.ntmps138;go_wp2;go_ret;exact⟨rfl,hB⟩
theorem fits_163 (k n:Nat)(t:ByteArray)(A:Option Addr)(l c:Nat)(w:World):Calls Tryz.prog 138 #[.int .u8 163,.agg #[.int .u8 (k:Int),.int .u64 (n:Int),.string t,.slice A l c]] w (Val.GivesB (decide (t.size≤255)) w):=by
 have hB:Below w.heap.size w (w.alloc (.cells #[.int .u8 (k:Int),.int .u64 (n:Int),.string t,.slice A l c] 44)):=(Below.refl _ _).alloc (Nat.le_refl _) _;have hbx:=Box.new w (.int .u8 (k:Int)) (.int .u64 (n:Int)) (.string t) (.slice A l c);obtain⟨z0,z1,z2,z3,_⟩:=hbx.all;have HE:decide ((t.size:Int) < 256)=decide (t.size≤255):=by rw[decide_eq_decide];omega
 obtain⟨p,hp⟩:∃ p,decide (t.size≤255)=p:=⟨_,rfl⟩;rw[hp] at HE ⊢;clear hp;go_enter Tryz.func138,Tryz.ntmps138;go_wp2;go_ret;exact⟨rfl,hB⟩
theorem fits_69 (k n:Nat)(t:ByteArray)(A:Option Addr)(l c:Nat)(w:World):Calls Tryz.prog 138 #[.int .u8 69,.agg #[.int .u8 (k:Int),.int .u64 (n:Int),.string t,.slice A l c]] w (Val.GivesB (decide (l=0)) w):=by
 have hB:Below w.heap.size w (w.alloc (.cells #[.int .u8 (k:Int),.int .u64 (n:Int),.string t,.slice A l c] 44)):=(Below.refl _ _).alloc (Nat.le_refl _) _;have hbx:=Box.new w (.int .u8 (k:Int)) (.int .u64 (n:Int)) (.string t) (.slice A l c);obtain⟨z0,z1,z2,z3,_⟩:=hbx.all;have HE:=eq_nat l 0;simp only[Int.cast_ofNat_Int] at HE;obtain⟨p,hp⟩:∃ p,decide (l=0)=p:=⟨_,rfl⟩;rw[hp] at HE ⊢;clear hp;go_enter Tryz.func138,Tryz.ntmps138;go_wp2;go_ret;exact⟨rfl,hB⟩
theorem fits_84 (k n:Nat)(t:ByteArray)(A:Option Addr)(l c:Nat)(w:World)(hn:n < 18446744073709551616):Calls Tryz.prog 138 #[.int .u8 84,.agg #[.int .u8 (k:Int),.int .u64 (n:Int),.string t,.slice A l c]] w (Val.GivesB (decide (n=sg1 n)) w):=by
 have hB:Below w.heap.size w (w.alloc (.cells #[.int .u8 (k:Int),.int .u64 (n:Int),.string t,.slice A l c] 44)):=(Below.refl _ _).alloc (Nat.le_refl _) _;have hbx:=Box.new w (.int .u8 (k:Int)) (.int .u64 (n:Int)) (.string t) (.slice A l c);obtain⟨z0,z1,z2,z3,_⟩:=hbx.all;obtain⟨z,hz⟩:∃ z:Int,IntKind.i64.wrap (n:Int)=z:=⟨_,rfl⟩;have hz2:z=if n < 9223372036854775808 then (n:Int) else (n:Int) - 18446744073709551616:=by
  rw[←hz];simp[IntKind.wrap,IntKind.bits,IntKind.signed]
  split<;>omega
 by_cases hs:n=sg1 n
 ·rw[decide_eq_true hs];have hh:n < 128∨18446744073709551488≤n:=by unfold sg1 at hs;split at hs<;>omega
  have h1:decide ((-128:Int)≤z)=true:=decide_eq_true (by rw[hz2];split<;>omega);have h2:decide (z < 128)=true:=decide_eq_true (by rw[hz2];split<;>omega);clear hs hh hz2 hn;go_enter Tryz.func138,Tryz.ntmps138;go_wp2;go_ret;exact⟨rfl,hB⟩
 ·rw[decide_eq_false hs];have hh:¬ (n < 128∨18446744073709551488≤n):=fun h=>hs (by unfold sg1;split<;>omega);by_cases hneg:(-128:Int)≤z
  ·have h1:decide ((-128:Int)≤z)=true:=decide_eq_true hneg;have h2:decide (z < 128)=false:=decide_eq_false (by rw[hz2] at hneg ⊢;split at hneg<;>omega);clear hs hh hz2 hn hneg;go_enter Tryz.func138,Tryz.ntmps138;go_wp2;go_ret;exact⟨rfl,hB⟩
  ·have h1:decide ((-128:Int)≤z)=false:=decide_eq_false hneg;clear hs hh hz2 hn hneg;go_enter Tryz.func138,Tryz.ntmps138;go_wp2;go_ret;exact⟨rfl,hB⟩
theorem fits_85 (k n:Nat)(t:ByteArray)(A:Option Addr)(l c:Nat)(w:World)(hn:n < 18446744073709551616):Calls Tryz.prog 138 #[.int .u8 85,.agg #[.int .u8 (k:Int),.int .u64 (n:Int),.string t,.slice A l c]] w (Val.GivesB (decide (n=sg1 n)) w):=by
 have hB:Below w.heap.size w (w.alloc (.cells #[.int .u8 (k:Int),.int .u64 (n:Int),.string t,.slice A l c] 44)):=(Below.refl _ _).alloc (Nat.le_refl _) _;have hbx:=Box.new w (.int .u8 (k:Int)) (.int .u64 (n:Int)) (.string t) (.slice A l c);obtain⟨z0,z1,z2,z3,_⟩:=hbx.all;obtain⟨z,hz⟩:∃ z:Int,IntKind.i64.wrap (n:Int)=z:=⟨_,rfl⟩;have hz2:z=if n < 9223372036854775808 then (n:Int) else (n:Int) - 18446744073709551616:=by
  rw[←hz];simp[IntKind.wrap,IntKind.bits,IntKind.signed]
  split<;>omega
 by_cases hs:n=sg1 n
 ·rw[decide_eq_true hs];have hh:n < 128∨18446744073709551488≤n:=by unfold sg1 at hs;split at hs<;>omega
  have h1:decide ((-128:Int)≤z)=true:=decide_eq_true (by rw[hz2];split<;>omega);have h2:decide (z < 128)=true:=decide_eq_true (by rw[hz2];split<;>omega);clear hs hh hz2 hn;go_enter Tryz.func138,Tryz.ntmps138;go_wp2;go_ret;exact⟨rfl,hB⟩
 ·rw[decide_eq_false hs];have hh:¬ (n < 128∨18446744073709551488≤n):=fun h=>hs (by unfold sg1;split<;>omega);by_cases hneg:(-128:Int)≤z
  ·have h1:decide ((-128:Int)≤z)=true:=decide_eq_true hneg;have h2:decide (z < 128)=false:=decide_eq_false (by rw[hz2] at hneg ⊢;split at hneg<;>omega);clear hs hh hz2 hn hneg;go_enter Tryz.func138,Tryz.ntmps138;go_wp2;go_ret;exact⟨rfl,hB⟩
  ·have h1:decide ((-128:Int)≤z)=false:=decide_eq_false hneg;clear hs hh hz2 hn hneg;go_enter Tryz.func138,Tryz.ntmps138;go_wp2;go_ret;exact⟨rfl,hB⟩
theorem fits_192 (k n:Nat)(t:ByteArray)(A:Option Addr)(l c:Nat)(w:World)(L:List Nat)(hL:L.length≤1099511627776)(hIns:∀ wx,Below w.heap.size w wx→Calls Tryz.prog 141 #[.agg #[.int .u8 (k:Int),.int .u64 (n:Int),.string t,.slice A l c]] wx (GivesL wx.heap.size L wx)):Calls Tryz.prog 138 #[.int .u8 192,.agg #[.int .u8 (k:Int),.int .u64 (n:Int),.string t,.slice A l c]] w (Val.GivesB (decide (1+L.length≤255)&&decide (l≤255)) w):=by
 have hB:Below w.heap.size w (w.alloc (.cells #[.int .u8 (k:Int),.int .u64 (n:Int),.string t,.slice A l c] 44)):=(Below.refl _ _).alloc (Nat.le_refl _) _;have hbx:=Box.new w (.int .u8 (k:Int)) (.int .u64 (n:Int)) (.string t) (.slice A l c);obtain⟨z0,z1,z2,z3,_⟩:=hbx.all;by_cases hl:l≤255
 ·rw[decide_eq_true hl,Bool.and_true];have h1:decide ((l:Int) < 256)=true:=decide_eq_true (by omega);have HE:decide (1+(L.length:Int) < 256)=decide (1+L.length≤255):=by rw[decide_eq_decide];omega
  obtain⟨p,hp⟩:∃ p,decide (1+L.length≤255)=p:=⟨_,rfl⟩;rw[hp] at HE ⊢;obtain⟨m,hm⟩:∃ m,L.length=m:=⟨_,rfl⟩;rw[hm] at HE hL;have HM:=Lib.hid hm;clear hp hm hl;go_enter Tryz.func138,Tryz.ntmps138;go_wp2_with (go_at_call 141;(with_reducible refine(hIns _ hB).mono ?_);rintro e w2 ⟨A2,n2,c2,rfl,ho2,hb2⟩;have hl2:=ho2.len;rw[HM.out] at hl2;subst hl2);go_ret;exact⟨rfl,hB.trans (hb2.mono hB.size)⟩
 ·rw[decide_eq_false hl,Bool.and_false];have h1:decide ((l:Int) < 256)=false:=decide_eq_false (by omega);clear hl;go_enter Tryz.func138,Tryz.ntmps138;go_wp2;go_ret;exact⟨rfl,hB⟩
theorem fits_193 (k n:Nat)(t:ByteArray)(A:Option Addr)(l c:Nat)(w:World)(L:List Nat)(hL:L.length≤1099511627776)(hIns:∀ wx,Below w.heap.size w wx→Calls Tryz.prog 141 #[.agg #[.int .u8 (k:Int),.int .u64 (n:Int),.string t,.slice A l c]] wx (GivesL wx.heap.size L wx)):Calls Tryz.prog 138 #[.int .u8 193,.agg #[.int .u8 (k:Int),.int .u64 (n:Int),.string t,.slice A l c]] w (Val.GivesB (decide (1+L.length≤255)&&decide (l≤255)) w):=by
 have hB:Below w.heap.size w (w.alloc (.cells #[.int .u8 (k:Int),.int .u64 (n:Int),.string t,.slice A l c] 44)):=(Below.refl _ _).alloc (Nat.le_refl _) _;have hbx:=Box.new w (.int .u8 (k:Int)) (.int .u64 (n:Int)) (.string t) (.slice A l c);obtain⟨z0,z1,z2,z3,_⟩:=hbx.all;by_cases hl:l≤255
 ·rw[decide_eq_true hl,Bool.and_true];have h1:decide ((l:Int) < 256)=true:=decide_eq_true (by omega);have HE:decide (1+(L.length:Int) < 256)=decide (1+L.length≤255):=by rw[decide_eq_decide];omega
  obtain⟨p,hp⟩:∃ p,decide (1+L.length≤255)=p:=⟨_,rfl⟩;rw[hp] at HE ⊢;obtain⟨m,hm⟩:∃ m,L.length=m:=⟨_,rfl⟩;rw[hm] at HE hL;have HM:=Lib.hid hm;clear hp hm hl;go_enter Tryz.func138,Tryz.ntmps138;go_wp2_with (go_at_call 141;(with_reducible refine(hIns _ hB).mono ?_);rintro e w2 ⟨A2,n2,c2,rfl,ho2,hb2⟩;have hl2:=ho2.len;rw[HM.out] at hl2;subst hl2);go_ret;exact⟨rfl,hB.trans (hb2.mono hB.size)⟩
 ·rw[decide_eq_false hl,Bool.and_false];have h1:decide ((l:Int) < 256)=false:=decide_eq_false (by omega);clear hl;go_enter Tryz.func138,Tryz.ntmps138;go_wp2;go_ret;exact⟨rfl,hB⟩
theorem fits_224 (k n:Nat)(t:ByteArray)(A:Option Addr)(l c:Nat)(w:World)(L:List Nat)(hL:L.length≤1099511627776)(hIns:∀ wx,Below w.heap.size w wx→Calls Tryz.prog 141 #[.agg #[.int .u8 (k:Int),.int .u64 (n:Int),.string t,.slice A l c]] wx (GivesL wx.heap.size L wx)):Calls Tryz.prog 138 #[.int .u8 224,.agg #[.int .u8 (k:Int),.int .u64 (n:Int),.string t,.slice A l c]] w (Val.GivesB (decide (1+L.length≤255)&&decide (l≤255)) w):=by
 have hB:Below w.heap.size w (w.alloc (.cells #[.int .u8 (k:Int),.int .u64 (n:Int),.string t,.slice A l c] 44)):=(Below.refl _ _).alloc (Nat.le_refl _) _;have hbx:=Box.new w (.int .u8 (k:Int)) (.int .u64 (n:Int)) (.string t) (.slice A l c);obtain⟨z0,z1,z2,z3,_⟩:=hbx.all;by_cases hl:l≤255
 ·rw[decide_eq_true hl,Bool.and_true];have h1:decide ((l:Int) < 256)=true:=decide_eq_true (by omega);have HE:decide (1+(L.length:Int) < 256)=decide (1+L.length≤255):=by rw[decide_eq_decide];omega
  obtain⟨p,hp⟩:∃ p,decide (1+L.length≤255)=p:=⟨_,rfl⟩;rw[hp] at HE ⊢;obtain⟨m,hm⟩:∃ m,L.length=m:=⟨_,rfl⟩;rw[hm] at HE hL;have HM:=Lib.hid hm;clear hp hm hl;go_enter Tryz.func138,Tryz.ntmps138;go_wp2_with (go_at_call 141;(with_reducible refine(hIns _ hB).mono ?_);rintro e w2 ⟨A2,n2,c2,rfl,ho2,hb2⟩;have hl2:=ho2.len;rw[HM.out] at hl2;subst hl2);go_ret;exact⟨rfl,hB.trans (hb2.mono hB.size)⟩
 ·rw[decide_eq_false hl,Bool.and_false];have h1:decide ((l:Int) < 256)=false:=decide_eq_false (by omega);clear hl;go_enter Tryz.func138,Tryz.ntmps138;go_wp2;go_ret;exact⟨rfl,hB⟩
theorem fits_all (code:Nat)(k n:Nat)(t:ByteArray)(A:Option Addr)(l c:Nat)(w:World)(h:code≠65∧code≠66∧code≠67∧code≠68∧code≠69∧code≠82∧code≠83∧code≠84∧code≠85∧code≠160∧code≠161∧code≠163∧code≠192∧code≠193∧code≠224):Calls Tryz.prog 138 #[.int .u8 (code:Int),.agg #[.int .u8 (k:Int),.int .u64 (n:Int),.string t,.slice A l c]] w (Val.GivesB true w):=by
 have hB:Below w.heap.size w (w.alloc (.cells #[.int .u8 (k:Int),.int .u64 (n:Int),.string t,.slice A l c] 44)):=(Below.refl _ _).alloc (Nat.le_refl _) _;have hbx:=Box.new w (.int .u8 (k:Int)) (.int .u64 (n:Int)) (.string t) (.slice A l c);obtain⟨z0,z1,z2,z3,_⟩:=hbx.all;have e65:((code:Int)==65)=false:=by rw[beq_eq_false_iff_ne];omega
 have e66:((code:Int)==66)=false:=by rw[beq_eq_false_iff_ne];omega
 have e67:((code:Int)==67)=false:=by rw[beq_eq_false_iff_ne];omega
 have e68:((code:Int)==68)=false:=by rw[beq_eq_false_iff_ne];omega
 have e69:((code:Int)==69)=false:=by rw[beq_eq_false_iff_ne];omega
 have e82:((code:Int)==82)=false:=by rw[beq_eq_false_iff_ne];omega
 have e83:((code:Int)==83)=false:=by rw[beq_eq_false_iff_ne];omega
 have e84:((code:Int)==84)=false:=by rw[beq_eq_false_iff_ne];omega
 have e85:((code:Int)==85)=false:=by rw[beq_eq_false_iff_ne];omega
 have e160:((code:Int)==160)=false:=by rw[beq_eq_false_iff_ne];omega
 have e161:((code:Int)==161)=false:=by rw[beq_eq_false_iff_ne];omega
 have e163:((code:Int)==163)=false:=by rw[beq_eq_false_iff_ne];omega
 have e192:((code:Int)==192)=false:=by rw[beq_eq_false_iff_ne];omega
 have e193:((code:Int)==193)=false:=by rw[beq_eq_false_iff_ne];omega
 have e224:((code:Int)==224)=false:=by rw[beq_eq_false_iff_ne];omega
 clear h;go_enter Tryz.func138,Tryz.ntmps138;go_wp2;go_ret;exact⟨rfl,hB⟩
theorem xfits_any (code:Nat)(f:Can)(k n:Nat)(t:ByteArray)(ks:List V)(A:Option Addr)(l c:Nat)(w:World)(hg:Good (.mk k n t ks))(hcf:(code,f)∈chs k)(hn:n < 18446744073709551616)(hK:Kd w ks A l c)
  (hIns:∀ wx,Below w.heap.size w wx→Calls Tryz.prog 141 #[.agg #[.int .u8 (k:Int),.int .u64 (n:Int),.string t,.slice A l c]] wx (GivesL wx.heap.size (layK (kp k ks)) wx)) :
  Calls Tryz.prog 138 #[.int .u8 (code:Int),.agg #[.int .u8 (k:Int),.int .u64 (n:Int),.string t,.slice A l c]] w (Val.GivesB (can f (rawv (.mk k n t ks))) w):=by
 have hr:=code_row hcf;have hll:l=ks.length:=hK.1;cases f with
 | all=>
  simp[codeRow] at hr;exact fits_all code k n t A l c w (by omega)
 | just m=>
  simp[codeRow] at hr;rcases hr with ⟨rfl,rfl⟩ | ⟨(rfl | rfl) | rfl,rfl⟩
  ·exact fits_65 k n t A l c w
  ·exact fits_66 k n t A l c w
  ·exact fits_67 k n t A l c w
  ·exact fits_68 k n t A l c w
 | upto m=>
  simp[codeRow] at hr;rcases hr with ⟨rfl | rfl,rfl⟩
  ·exact fits_82 k n t A l c w
  ·exact fits_83 k n t A l c w
 | near=>
  simp[codeRow] at hr;rcases hr with rfl | rfl
  ·exact fits_84 k n t A l c w hn
  ·exact fits_85 k n t A l c w hn
 | short=>
  simp[codeRow] at hr;rcases hr with (rfl | rfl) | rfl
  ·exact fits_160 k n t A l c w
  ·exact fits_161 k n t A l c w
  ·exact fits_163 k n t A l c w
 | none_=>
  simp[codeRow] at hr;subst hr;subst hll;exact fits_69 k n t A _ c w
 | small=>
  simp[codeRow] at hr;have hlen:=ins_len hg;have hb:=re_bound hg;have hgb:=hg.2.2;simp only[bulk] at hgb;have hL:(layK (kp k ks)).length≤1099511627776:=by omega
  have e:can .small (rawv (.mk k n t ks))=(decide (1+(layK (kp k ks)).length≤255)&&decide (l≤255)):=by
   rw[←hlen,hll];rfl
  rw[e];rcases hr with (rfl | rfl) | rfl
  ·exact fits_192 k n t A l c w _ hL hIns
  ·exact fits_193 k n t A l c w _ hL hIns
  ·exact fits_224 k n t A l c w _ hL hIns
end Go.Proofs.YtcilmmdmkpnppaaGreatDoor.Enc
end
section
namespace Go.Proofs.YtcilmmdmkpnppaaGreatDoor.Enc
set_option maxRecDepth 100000
open Go.RowKit Utf Val V
def GivesD (L:List Nat)(w:World)(e:Ending)(w':World):Prop:=∃ A n c,e=.returned (.slice A n c)∧Rd .u8 256 w' w'.heap.size A n L∧Below w.heap.size w w'
theorem nb_tb (t:ByteArray):nb t=tb t:=rfl
set_option maxHeartbeats 1000000 in
theorem data_4 (k n:Nat)(t:ByteArray)(A:Option Addr)(l c code:Nat)(w:World)(hd:code / 16=4):Calls Tryz.prog 105 #[.int .u8 (code:Int),.agg #[.int .u8 (k:Int),.int .u64 (n:Int),.string t,.slice A l c]] w (GivesD ([]) w):=by
 have hB0:Below w.heap.size w (w.alloc (.cells #[.int .u8 (k:Int),.int .u64 (n:Int),.string t,.slice A l c] 44)):=(Below.refl _ _).alloc (Nat.le_refl _) _;have hB:Below w.heap.size w ((w.alloc (.cells #[.int .u8 (k:Int),.int .u64 (n:Int),.string t,.slice A l c] 44)).alloc (.cells #[.int .i64 0,.int .i64 1,.int .i64 2,.int .i64 4,.int .i64 8] 3)):=hB0.alloc hB0.size _;have hbx:=(Box.new w (.int .u8 (k:Int)) (.int .u64 (n:Int)) (.string t) (.slice A l c)).alloc (.cells #[.int .i64 0,.int .i64 1,.int .i64 2,.int .i64 4,.int .i64 8] 3);obtain⟨z0,z1,z2,z3,_⟩:=hbx.all;have hd1:(code:Int) / 16=4:=by omega
 have hd2:(code:Int).tdiv 16=4:=by rw[Int.tdiv_eq_ediv_of_nonneg (by omega)];omega
 clear hd;go_enter Tryz.func105,Tryz.ntmps105;go_wp2;go_ret;exact⟨none,0,0,rfl,Rd.zero _ _ _ _ _,hB⟩
set_option maxHeartbeats 1000000 in
theorem data_9 (k n:Nat)(t:ByteArray)(A:Option Addr)(l c code:Nat)(w:World)(hd:code / 16=9):Calls Tryz.prog 105 #[.int .u8 (code:Int),.agg #[.int .u8 (k:Int),.int .u64 (n:Int),.string t,.slice A l c]] w (GivesD (tb t) w):=by
 have hB0:Below w.heap.size w (w.alloc (.cells #[.int .u8 (k:Int),.int .u64 (n:Int),.string t,.slice A l c] 44)):=(Below.refl _ _).alloc (Nat.le_refl _) _;have hB:Below w.heap.size w ((w.alloc (.cells #[.int .u8 (k:Int),.int .u64 (n:Int),.string t,.slice A l c] 44)).alloc (.cells #[.int .i64 0,.int .i64 1,.int .i64 2,.int .i64 4,.int .i64 8] 3)):=hB0.alloc hB0.size _;have hbx:=(Box.new w (.int .u8 (k:Int)) (.int .u64 (n:Int)) (.string t) (.slice A l c)).alloc (.cells #[.int .i64 0,.int .i64 1,.int .i64 2,.int .i64 4,.int .i64 8] 3);obtain⟨z0,z1,z2,z3,_⟩:=hbx.all;have hd1:(code:Int) / 16=9:=by omega
 have hd2:(code:Int).tdiv 16=9:=by rw[Int.tdiv_eq_ediv_of_nonneg (by omega)];omega
 clear hd;obtain⟨w3,c3,hcv,_,hr3,hb3⟩:=conv_str ((w.alloc (.cells #[.int .u8 (k:Int),.int .u64 (n:Int),.string t,.slice A l c] 44)).alloc (.cells #[.int .i64 0,.int .i64 1,.int .i64 2,.int .i64 4,.int .i64 8] 3)) t;have hB3:=below_next hB hb3;rw[nb_tb] at hr3;simp only[World.size_alloc] at hcv hr3;go_enter Tryz.func105,Tryz.ntmps105;go_wp2;go_ret;exact⟨_,_,_,rfl,hr3,hB3⟩
set_option maxHeartbeats 1000000 in
theorem data_10 (k n:Nat)(t:ByteArray)(A:Option Addr)(l c code:Nat)(w:World)(hd:code / 16=10)(hs:t.size≤255):Calls Tryz.prog 105 #[.int .u8 (code:Int),.agg #[.int .u8 (k:Int),.int .u64 (n:Int),.string t,.slice A l c]] w (GivesD (be t.size 1++tb t) w):=by
 have hB0:Below w.heap.size w (w.alloc (.cells #[.int .u8 (k:Int),.int .u64 (n:Int),.string t,.slice A l c] 44)):=(Below.refl _ _).alloc (Nat.le_refl _) _;have hB:Below w.heap.size w ((w.alloc (.cells #[.int .u8 (k:Int),.int .u64 (n:Int),.string t,.slice A l c] 44)).alloc (.cells #[.int .i64 0,.int .i64 1,.int .i64 2,.int .i64 4,.int .i64 8] 3)):=hB0.alloc hB0.size _;have hbx:=(Box.new w (.int .u8 (k:Int)) (.int .u64 (n:Int)) (.string t) (.slice A l c)).alloc (.cells #[.int .i64 0,.int .i64 1,.int .i64 2,.int .i64 4,.int .i64 8] 3);obtain⟨z0,z1,z2,z3,_⟩:=hbx.all;have hd1:(code:Int) / 16=10:=by omega
 have hd2:(code:Int).tdiv 16=10:=by rw[Int.tdiv_eq_ediv_of_nonneg (by omega)];omega
 clear hd;obtain⟨w3,c3,hcv,_,hr3,hb3⟩:=conv_str ((w.alloc (.cells #[.int .u8 (k:Int),.int .u64 (n:Int),.string t,.slice A l c] 44)).alloc (.cells #[.int .i64 0,.int .i64 1,.int .i64 2,.int .i64 4,.int .i64 8] 3)) t;have hB3:=below_next hB hb3;rw[nb_tb] at hr3;simp only[World.size_alloc] at hcv hr3;go_enter Tryz.func105,Tryz.ntmps105;go_wp2_with (go_at_call 139;(with_reducible refine(xlayp_1 _ t.size c3 _ w3 hr3 hs).mono ?_);rintro e w4 ⟨A4,n4,c4,rfl,ho4,hb4⟩);go_ret;exact⟨_,_,_,rfl,ho4.rd,below_next hB3 hb4⟩
set_option maxHeartbeats 1000000 in
theorem data_11 (k n:Nat)(t:ByteArray)(A:Option Addr)(l c code:Nat)(w:World)(hd:code / 16=11)(hs:t.size≤2147483647):Calls Tryz.prog 105 #[.int .u8 (code:Int),.agg #[.int .u8 (k:Int),.int .u64 (n:Int),.string t,.slice A l c]] w (GivesD (be t.size 4++tb t) w):=by
 have hB0:Below w.heap.size w (w.alloc (.cells #[.int .u8 (k:Int),.int .u64 (n:Int),.string t,.slice A l c] 44)):=(Below.refl _ _).alloc (Nat.le_refl _) _;have hB:Below w.heap.size w ((w.alloc (.cells #[.int .u8 (k:Int),.int .u64 (n:Int),.string t,.slice A l c] 44)).alloc (.cells #[.int .i64 0,.int .i64 1,.int .i64 2,.int .i64 4,.int .i64 8] 3)):=hB0.alloc hB0.size _;have hbx:=(Box.new w (.int .u8 (k:Int)) (.int .u64 (n:Int)) (.string t) (.slice A l c)).alloc (.cells #[.int .i64 0,.int .i64 1,.int .i64 2,.int .i64 4,.int .i64 8] 3);obtain⟨z0,z1,z2,z3,_⟩:=hbx.all;have hd1:(code:Int) / 16=11:=by omega
 have hd2:(code:Int).tdiv 16=11:=by rw[Int.tdiv_eq_ediv_of_nonneg (by omega)];omega
 clear hd;obtain⟨w3,c3,hcv,_,hr3,hb3⟩:=conv_str ((w.alloc (.cells #[.int .u8 (k:Int),.int .u64 (n:Int),.string t,.slice A l c] 44)).alloc (.cells #[.int .i64 0,.int .i64 1,.int .i64 2,.int .i64 4,.int .i64 8] 3)) t;have hB3:=below_next hB hb3;rw[nb_tb] at hr3;simp only[World.size_alloc] at hcv hr3;go_enter Tryz.func105,Tryz.ntmps105;go_wp2_with (go_at_call 139;(with_reducible refine(xlayp_4 _ t.size c3 _ w3 hr3 hs).mono ?_);rintro e w4 ⟨A4,n4,c4,rfl,ho4,hb4⟩);go_ret;exact⟨_,_,_,rfl,ho4.rd,below_next hB3 hb4⟩
set_option maxHeartbeats 1000000 in
theorem data_12 (k n:Nat)(t:ByteArray)(A:Option Addr)(l c code:Nat)(w:World)(hd:code / 16=12)(L:List Nat)(hl:l≤1099511627776)(hL:1+L.length≤255)(hIns:∀ wx,Below w.heap.size w wx→Calls Tryz.prog 141 #[.agg #[.int .u8 (k:Int),.int .u64 (n:Int),.string t,.slice A l c]] wx (GivesL wx.heap.size L wx)):Calls Tryz.prog 105 #[.int .u8 (code:Int),.agg #[.int .u8 (k:Int),.int .u64 (n:Int),.string t,.slice A l c]] w (GivesD (be (1+L.length) 1++be l 1++L) w):=by
 have hB0:Below w.heap.size w (w.alloc (.cells #[.int .u8 (k:Int),.int .u64 (n:Int),.string t,.slice A l c] 44)):=(Below.refl _ _).alloc (Nat.le_refl _) _;have hB:Below w.heap.size w ((w.alloc (.cells #[.int .u8 (k:Int),.int .u64 (n:Int),.string t,.slice A l c] 44)).alloc (.cells #[.int .i64 0,.int .i64 1,.int .i64 2,.int .i64 4,.int .i64 8] 3)):=hB0.alloc hB0.size _;have hbx:=(Box.new w (.int .u8 (k:Int)) (.int .u64 (n:Int)) (.string t) (.slice A l c)).alloc (.cells #[.int .i64 0,.int .i64 1,.int .i64 2,.int .i64 4,.int .i64 8] 3);obtain⟨z0,z1,z2,z3,_⟩:=hbx.all;have hd1:(code:Int) / 16=12:=by omega
 have hd2:(code:Int).tdiv 16=12:=by rw[Int.tdiv_eq_ediv_of_nonneg (by omega)];omega
 clear hd;obtain⟨m,hm⟩:∃ m,L.length=m:=⟨_,rfl⟩;rw[hm] at hL ⊢;have HM:=Lib.hid hm;have hI:=hIns _ hB;have hI2:=hIns _ hB.drew;clear hm hIns;have HBX:=Lib.hid hbx;go_enter Tryz.func105,Tryz.ntmps105;go_wp2_with fail;go_region_law (first
  | (go_simp;go_at_call 141;(with_reducible refine hI2.mono ?_);rintro e w2 ⟨A2,n2,c2,rfl,ho2,hb2⟩;have hl2:=ho2.len;rw[HM.out] at hl2;subst hl2;have hB2:=below_next hB.drew hb2;have hr2:=ho2.rd;obtain⟨y0,y1,y2,y3,_⟩:=(show Box w2 _ _ _ _ _ from (HBX.out.drew).call hb2).all)
  | (go_simp;go_at_call 140;(with_reducible refine(xcounted_1 l A2 m c2 L w2 hr2 hl hL).mono ?_);rintro e w5 ⟨A5,n5,c5,rfl,ho5,hb5⟩))
 all_goals
  go_wp2_with fail;go_ret;exact⟨_,_,_,rfl,ho5.rd,below_next hB2 hb5⟩
set_option maxHeartbeats 1000000 in
theorem data_14 (k n:Nat)(t:ByteArray)(A:Option Addr)(l c code:Nat)(w:World)(hd:code / 16=14)(L:List Nat)(hl:l≤1099511627776)(hL:1+L.length≤255)(hIns:∀ wx,Below w.heap.size w wx→Calls Tryz.prog 141 #[.agg #[.int .u8 (k:Int),.int .u64 (n:Int),.string t,.slice A l c]] wx (GivesL wx.heap.size L wx)):Calls Tryz.prog 105 #[.int .u8 (code:Int),.agg #[.int .u8 (k:Int),.int .u64 (n:Int),.string t,.slice A l c]] w (GivesD (be (1+L.length) 1++be l 1++L) w):=by
 have hB0:Below w.heap.size w (w.alloc (.cells #[.int .u8 (k:Int),.int .u64 (n:Int),.string t,.slice A l c] 44)):=(Below.refl _ _).alloc (Nat.le_refl _) _;have hB:Below w.heap.size w ((w.alloc (.cells #[.int .u8 (k:Int),.int .u64 (n:Int),.string t,.slice A l c] 44)).alloc (.cells #[.int .i64 0,.int .i64 1,.int .i64 2,.int .i64 4,.int .i64 8] 3)):=hB0.alloc hB0.size _;have hbx:=(Box.new w (.int .u8 (k:Int)) (.int .u64 (n:Int)) (.string t) (.slice A l c)).alloc (.cells #[.int .i64 0,.int .i64 1,.int .i64 2,.int .i64 4,.int .i64 8] 3);obtain⟨z0,z1,z2,z3,_⟩:=hbx.all;have hd1:(code:Int) / 16=14:=by omega
 have hd2:(code:Int).tdiv 16=14:=by rw[Int.tdiv_eq_ediv_of_nonneg (by omega)];omega
 clear hd;obtain⟨m,hm⟩:∃ m,L.length=m:=⟨_,rfl⟩;rw[hm] at hL ⊢;have HM:=Lib.hid hm;have hI:=hIns _ hB;have hI2:=hIns _ hB.drew;clear hm hIns;have HBX:=Lib.hid hbx;go_enter Tryz.func105,Tryz.ntmps105;go_wp2_with fail;go_region_law (first
  | (go_simp;go_at_call 141;(with_reducible refine hI2.mono ?_);rintro e w2 ⟨A2,n2,c2,rfl,ho2,hb2⟩;have hl2:=ho2.len;rw[HM.out] at hl2;subst hl2;have hB2:=below_next hB.drew hb2;have hr2:=ho2.rd;obtain⟨y0,y1,y2,y3,_⟩:=(show Box w2 _ _ _ _ _ from (HBX.out.drew).call hb2).all)
  | (go_simp;go_at_call 140;(with_reducible refine(xcounted_1 l A2 m c2 L w2 hr2 hl hL).mono ?_);rintro e w5 ⟨A5,n5,c5,rfl,ho5,hb5⟩))
 all_goals
  go_wp2_with fail;go_ret;exact⟨_,_,_,rfl,ho5.rd,below_next hB2 hb5⟩
set_option maxHeartbeats 1000000 in
theorem data_13 (k n:Nat)(t:ByteArray)(A:Option Addr)(l c code:Nat)(w:World)(hd:code / 16=13)(L:List Nat)(hl:l≤1099511627776)(hL:4+L.length≤2147483647)(hIns:∀ wx,Below w.heap.size w wx→Calls Tryz.prog 141 #[.agg #[.int .u8 (k:Int),.int .u64 (n:Int),.string t,.slice A l c]] wx (GivesL wx.heap.size L wx)):Calls Tryz.prog 105 #[.int .u8 (code:Int),.agg #[.int .u8 (k:Int),.int .u64 (n:Int),.string t,.slice A l c]] w (GivesD (be (4+L.length) 4++be l 4++L) w):=by
 have hB0:Below w.heap.size w (w.alloc (.cells #[.int .u8 (k:Int),.int .u64 (n:Int),.string t,.slice A l c] 44)):=(Below.refl _ _).alloc (Nat.le_refl _) _;have hB:Below w.heap.size w ((w.alloc (.cells #[.int .u8 (k:Int),.int .u64 (n:Int),.string t,.slice A l c] 44)).alloc (.cells #[.int .i64 0,.int .i64 1,.int .i64 2,.int .i64 4,.int .i64 8] 3)):=hB0.alloc hB0.size _;have hbx:=(Box.new w (.int .u8 (k:Int)) (.int .u64 (n:Int)) (.string t) (.slice A l c)).alloc (.cells #[.int .i64 0,.int .i64 1,.int .i64 2,.int .i64 4,.int .i64 8] 3);obtain⟨z0,z1,z2,z3,_⟩:=hbx.all;have hd1:(code:Int) / 16=13:=by omega
 have hd2:(code:Int).tdiv 16=13:=by rw[Int.tdiv_eq_ediv_of_nonneg (by omega)];omega
 clear hd;obtain⟨m,hm⟩:∃ m,L.length=m:=⟨_,rfl⟩;rw[hm] at hL ⊢;have HM:=Lib.hid hm;have hI:=hIns _ hB;have hI2:=hIns _ hB.drew;clear hm hIns;have HBX:=Lib.hid hbx;go_enter Tryz.func105,Tryz.ntmps105;go_wp2_with fail;go_region_law (first
  | (go_simp;go_at_call 141;(with_reducible refine hI2.mono ?_);rintro e w2 ⟨A2,n2,c2,rfl,ho2,hb2⟩;have hl2:=ho2.len;rw[HM.out] at hl2;subst hl2;have hB2:=below_next hB.drew hb2;have hr2:=ho2.rd;obtain⟨y0,y1,y2,y3,_⟩:=(show Box w2 _ _ _ _ _ from (HBX.out.drew).call hb2).all)
  | (go_simp;go_at_call 140;(with_reducible refine(xcounted_4 l A2 m c2 L w2 hr2 hl hL).mono ?_);rintro e w5 ⟨A5,n5,c5,rfl,ho5,hb5⟩))
 all_goals
  go_wp2_with fail;go_ret;exact⟨_,_,_,rfl,ho5.rd,below_next hB2 hb5⟩
set_option maxHeartbeats 1000000 in
theorem data_15 (k n:Nat)(t:ByteArray)(A:Option Addr)(l c code:Nat)(w:World)(hd:code / 16=15)(L:List Nat)(hl:l≤1099511627776)(hL:4+L.length≤2147483647)(hIns:∀ wx,Below w.heap.size w wx→Calls Tryz.prog 141 #[.agg #[.int .u8 (k:Int),.int .u64 (n:Int),.string t,.slice A l c]] wx (GivesL wx.heap.size L wx)):Calls Tryz.prog 105 #[.int .u8 (code:Int),.agg #[.int .u8 (k:Int),.int .u64 (n:Int),.string t,.slice A l c]] w (GivesD (be (4+L.length) 4++be l 4++L) w):=by
 have hB0:Below w.heap.size w (w.alloc (.cells #[.int .u8 (k:Int),.int .u64 (n:Int),.string t,.slice A l c] 44)):=(Below.refl _ _).alloc (Nat.le_refl _) _;have hB:Below w.heap.size w ((w.alloc (.cells #[.int .u8 (k:Int),.int .u64 (n:Int),.string t,.slice A l c] 44)).alloc (.cells #[.int .i64 0,.int .i64 1,.int .i64 2,.int .i64 4,.int .i64 8] 3)):=hB0.alloc hB0.size _;have hbx:=(Box.new w (.int .u8 (k:Int)) (.int .u64 (n:Int)) (.string t) (.slice A l c)).alloc (.cells #[.int .i64 0,.int .i64 1,.int .i64 2,.int .i64 4,.int .i64 8] 3);obtain⟨z0,z1,z2,z3,_⟩:=hbx.all;have hd1:(code:Int) / 16=15:=by omega
 have hd2:(code:Int).tdiv 16=15:=by rw[Int.tdiv_eq_ediv_of_nonneg (by omega)];omega
 clear hd;obtain⟨m,hm⟩:∃ m,L.length=m:=⟨_,rfl⟩;rw[hm] at hL ⊢;have HM:=Lib.hid hm;have hI:=hIns _ hB;have hI2:=hIns _ hB.drew;clear hm hIns;have HBX:=Lib.hid hbx;go_enter Tryz.func105,Tryz.ntmps105;go_wp2_with fail;go_region_law (first
  | (go_simp;go_at_call 141;(with_reducible refine hI2.mono ?_);rintro e w2 ⟨A2,n2,c2,rfl,ho2,hb2⟩;have hl2:=ho2.len;rw[HM.out] at hl2;subst hl2;have hB2:=below_next hB.drew hb2;have hr2:=ho2.rd;obtain⟨y0,y1,y2,y3,_⟩:=(show Box w2 _ _ _ _ _ from (HBX.out.drew).call hb2).all)
  | (go_simp;go_at_call 140;(with_reducible refine(xcounted_4 l A2 m c2 L w2 hr2 hl hL).mono ?_);rintro e w5 ⟨A5,n5,c5,rfl,ho5,hb5⟩))
 all_goals
  go_wp2_with fail;go_ret;exact⟨_,_,_,rfl,ho5.rd,below_next hB2 hb5⟩
set_option maxHeartbeats 1000000 in
theorem data_n5 (k n:Nat)(t:ByteArray)(A:Option Addr)(l c code:Nat)(w:World)(hd:code / 16=5)(hk:k≠16∧k≠17)(hn:n < 18446744073709551616):Calls Tryz.prog 105 #[.int .u8 (code:Int),.agg #[.int .u8 (k:Int),.int .u64 (n:Int),.string t,.slice A l c]] w (GivesD (be n 1) w):=by
 have hB0:Below w.heap.size w (w.alloc (.cells #[.int .u8 (k:Int),.int .u64 (n:Int),.string t,.slice A l c] 44)):=(Below.refl _ _).alloc (Nat.le_refl _) _;have hB:Below w.heap.size w ((w.alloc (.cells #[.int .u8 (k:Int),.int .u64 (n:Int),.string t,.slice A l c] 44)).alloc (.cells #[.int .i64 0,.int .i64 1,.int .i64 2,.int .i64 4,.int .i64 8] 3)):=hB0.alloc hB0.size _;have hbx:=(Box.new w (.int .u8 (k:Int)) (.int .u64 (n:Int)) (.string t) (.slice A l c)).alloc (.cells #[.int .i64 0,.int .i64 1,.int .i64 2,.int .i64 4,.int .i64 8] 3);obtain⟨z0,z1,z2,z3,_⟩:=hbx.all;have hd1:(code:Int) / 16=5:=by omega
 have hd2:(code:Int).tdiv 16=5:=by rw[Int.tdiv_eq_ediv_of_nonneg (by omega)];omega
 clear hd;have e16:((k:Int)==16)=false:=by rw[beq_eq_false_iff_ne];omega
 have e17:((k:Int)==17)=false:=by rw[beq_eq_false_iff_ne];omega
 have hX:=(show Calls Tryz.prog 142 #[.slice none 0 0,.int .u64 (n:Int),.int .i64 1] _ _ from xlay_any n 1 (by omega) hn (((w.alloc (.cells #[.int .u8 (k:Int),.int .u64 (n:Int),.string t,.slice A l c] 44)).alloc (.cells #[.int .i64 0,.int .i64 1,.int .i64 2,.int .i64 4,.int .i64 8] 3)).drew));have hX2:=(show Calls Tryz.prog 142 #[.slice none 0 0,.int .u64 (n:Int),.int .i64 1] _ _ from xlay_any n 1 (by omega) hn (((w.alloc (.cells #[.int .u8 (k:Int),.int .u64 (n:Int),.string t,.slice A l c] 44)).alloc (.cells #[.int .i64 0,.int .i64 1,.int .i64 2,.int .i64 4,.int .i64 8] 3))));clear hk;have hu1:IntKind.u8.wrap 5=5:=by decide
 have hu2:IntKind.u8.wrap 1=1:=by decide
 go_enter Tryz.func105,Tryz.ntmps105;go_wp2_with fail;go_region_law (first
  | (go_simp;go_at_call 142;(with_reducible refine hX.mono ?_);rintro e w4 ⟨A4,n4,c4,rfl,ho4,hb4⟩))
 all_goals
  go_wp2_with fail;go_ret;exact⟨_,_,_,rfl,ho4.rd,below_next hB.drew hb4⟩
set_option maxHeartbeats 1000000 in
theorem data_n6 (k n:Nat)(t:ByteArray)(A:Option Addr)(l c code:Nat)(w:World)(hd:code / 16=6)(hk:k≠16∧k≠17)(hn:n < 18446744073709551616):Calls Tryz.prog 105 #[.int .u8 (code:Int),.agg #[.int .u8 (k:Int),.int .u64 (n:Int),.string t,.slice A l c]] w (GivesD (be n 2) w):=by
 have hB0:Below w.heap.size w (w.alloc (.cells #[.int .u8 (k:Int),.int .u64 (n:Int),.string t,.slice A l c] 44)):=(Below.refl _ _).alloc (Nat.le_refl _) _;have hB:Below w.heap.size w ((w.alloc (.cells #[.int .u8 (k:Int),.int .u64 (n:Int),.string t,.slice A l c] 44)).alloc (.cells #[.int .i64 0,.int .i64 1,.int .i64 2,.int .i64 4,.int .i64 8] 3)):=hB0.alloc hB0.size _;have hbx:=(Box.new w (.int .u8 (k:Int)) (.int .u64 (n:Int)) (.string t) (.slice A l c)).alloc (.cells #[.int .i64 0,.int .i64 1,.int .i64 2,.int .i64 4,.int .i64 8] 3);obtain⟨z0,z1,z2,z3,_⟩:=hbx.all;have hd1:(code:Int) / 16=6:=by omega
 have hd2:(code:Int).tdiv 16=6:=by rw[Int.tdiv_eq_ediv_of_nonneg (by omega)];omega
 clear hd;have e16:((k:Int)==16)=false:=by rw[beq_eq_false_iff_ne];omega
 have e17:((k:Int)==17)=false:=by rw[beq_eq_false_iff_ne];omega
 have hX:=(show Calls Tryz.prog 142 #[.slice none 0 0,.int .u64 (n:Int),.int .i64 2] _ _ from xlay_any n 2 (by omega) hn (((w.alloc (.cells #[.int .u8 (k:Int),.int .u64 (n:Int),.string t,.slice A l c] 44)).alloc (.cells #[.int .i64 0,.int .i64 1,.int .i64 2,.int .i64 4,.int .i64 8] 3)).drew));have hX2:=(show Calls Tryz.prog 142 #[.slice none 0 0,.int .u64 (n:Int),.int .i64 2] _ _ from xlay_any n 2 (by omega) hn (((w.alloc (.cells #[.int .u8 (k:Int),.int .u64 (n:Int),.string t,.slice A l c] 44)).alloc (.cells #[.int .i64 0,.int .i64 1,.int .i64 2,.int .i64 4,.int .i64 8] 3))));clear hk;have hu1:IntKind.u8.wrap 6=6:=by decide
 have hu2:IntKind.u8.wrap 2=2:=by decide
 go_enter Tryz.func105,Tryz.ntmps105;go_wp2_with fail;go_region_law (first
  | (go_simp;go_at_call 142;(with_reducible refine hX.mono ?_);rintro e w4 ⟨A4,n4,c4,rfl,ho4,hb4⟩))
 all_goals
  go_wp2_with fail;go_ret;exact⟨_,_,_,rfl,ho4.rd,below_next hB.drew hb4⟩
set_option maxHeartbeats 1000000 in
theorem data_n7 (k n:Nat)(t:ByteArray)(A:Option Addr)(l c code:Nat)(w:World)(hd:code / 16=7)(hk:k≠16∧k≠17)(hn:n < 18446744073709551616):Calls Tryz.prog 105 #[.int .u8 (code:Int),.agg #[.int .u8 (k:Int),.int .u64 (n:Int),.string t,.slice A l c]] w (GivesD (be n 4) w):=by
 have hB0:Below w.heap.size w (w.alloc (.cells #[.int .u8 (k:Int),.int .u64 (n:Int),.string t,.slice A l c] 44)):=(Below.refl _ _).alloc (Nat.le_refl _) _;have hB:Below w.heap.size w ((w.alloc (.cells #[.int .u8 (k:Int),.int .u64 (n:Int),.string t,.slice A l c] 44)).alloc (.cells #[.int .i64 0,.int .i64 1,.int .i64 2,.int .i64 4,.int .i64 8] 3)):=hB0.alloc hB0.size _;have hbx:=(Box.new w (.int .u8 (k:Int)) (.int .u64 (n:Int)) (.string t) (.slice A l c)).alloc (.cells #[.int .i64 0,.int .i64 1,.int .i64 2,.int .i64 4,.int .i64 8] 3);obtain⟨z0,z1,z2,z3,_⟩:=hbx.all;have hd1:(code:Int) / 16=7:=by omega
 have hd2:(code:Int).tdiv 16=7:=by rw[Int.tdiv_eq_ediv_of_nonneg (by omega)];omega
 clear hd;have e16:((k:Int)==16)=false:=by rw[beq_eq_false_iff_ne];omega
 have e17:((k:Int)==17)=false:=by rw[beq_eq_false_iff_ne];omega
 have hX:=(show Calls Tryz.prog 142 #[.slice none 0 0,.int .u64 (n:Int),.int .i64 4] _ _ from xlay_any n 4 (by omega) hn (((w.alloc (.cells #[.int .u8 (k:Int),.int .u64 (n:Int),.string t,.slice A l c] 44)).alloc (.cells #[.int .i64 0,.int .i64 1,.int .i64 2,.int .i64 4,.int .i64 8] 3)).drew));have hX2:=(show Calls Tryz.prog 142 #[.slice none 0 0,.int .u64 (n:Int),.int .i64 4] _ _ from xlay_any n 4 (by omega) hn (((w.alloc (.cells #[.int .u8 (k:Int),.int .u64 (n:Int),.string t,.slice A l c] 44)).alloc (.cells #[.int .i64 0,.int .i64 1,.int .i64 2,.int .i64 4,.int .i64 8] 3))));clear hk;have hu1:IntKind.u8.wrap 7=7:=by decide
 have hu2:IntKind.u8.wrap 3=3:=by decide
 go_enter Tryz.func105,Tryz.ntmps105;go_wp2_with fail;go_region_law (first
  | (go_simp;go_at_call 142;(with_reducible refine hX.mono ?_);rintro e w4 ⟨A4,n4,c4,rfl,ho4,hb4⟩))
 all_goals
  go_wp2_with fail;go_ret;exact⟨_,_,_,rfl,ho4.rd,below_next hB.drew hb4⟩
set_option maxHeartbeats 1000000 in
theorem data_n8 (k n:Nat)(t:ByteArray)(A:Option Addr)(l c code:Nat)(w:World)(hd:code / 16=8)(hk:k≠16∧k≠17)(hn:n < 18446744073709551616):Calls Tryz.prog 105 #[.int .u8 (code:Int),.agg #[.int .u8 (k:Int),.int .u64 (n:Int),.string t,.slice A l c]] w (GivesD (be n 8) w):=by
 have hB0:Below w.heap.size w (w.alloc (.cells #[.int .u8 (k:Int),.int .u64 (n:Int),.string t,.slice A l c] 44)):=(Below.refl _ _).alloc (Nat.le_refl _) _;have hB:Below w.heap.size w ((w.alloc (.cells #[.int .u8 (k:Int),.int .u64 (n:Int),.string t,.slice A l c] 44)).alloc (.cells #[.int .i64 0,.int .i64 1,.int .i64 2,.int .i64 4,.int .i64 8] 3)):=hB0.alloc hB0.size _;have hbx:=(Box.new w (.int .u8 (k:Int)) (.int .u64 (n:Int)) (.string t) (.slice A l c)).alloc (.cells #[.int .i64 0,.int .i64 1,.int .i64 2,.int .i64 4,.int .i64 8] 3);obtain⟨z0,z1,z2,z3,_⟩:=hbx.all;have hd1:(code:Int) / 16=8:=by omega
 have hd2:(code:Int).tdiv 16=8:=by rw[Int.tdiv_eq_ediv_of_nonneg (by omega)];omega
 clear hd;have e16:((k:Int)==16)=false:=by rw[beq_eq_false_iff_ne];omega
 have e17:((k:Int)==17)=false:=by rw[beq_eq_false_iff_ne];omega
 have hX:=(show Calls Tryz.prog 142 #[.slice none 0 0,.int .u64 (n:Int),.int .i64 8] _ _ from xlay_any n 8 (by omega) hn (((w.alloc (.cells #[.int .u8 (k:Int),.int .u64 (n:Int),.string t,.slice A l c] 44)).alloc (.cells #[.int .i64 0,.int .i64 1,.int .i64 2,.int .i64 4,.int .i64 8] 3)).drew));have hX2:=(show Calls Tryz.prog 142 #[.slice none 0 0,.int .u64 (n:Int),.int .i64 8] _ _ from xlay_any n 8 (by omega) hn (((w.alloc (.cells #[.int .u8 (k:Int),.int .u64 (n:Int),.string t,.slice A l c] 44)).alloc (.cells #[.int .i64 0,.int .i64 1,.int .i64 2,.int .i64 4,.int .i64 8] 3))));clear hk;have hu1:IntKind.u8.wrap 8=8:=by decide
 have hu2:IntKind.u8.wrap 4=4:=by decide
 go_enter Tryz.func105,Tryz.ntmps105;go_wp2_with fail;go_region_law (first
  | (go_simp;go_at_call 142;(with_reducible refine hX.mono ?_);rintro e w4 ⟨A4,n4,c4,rfl,ho4,hb4⟩))
 all_goals
  go_wp2_with fail;go_ret;exact⟨_,_,_,rfl,ho4.rd,below_next hB.drew hb4⟩
theorem data_16 (n:Nat)(t:ByteArray)(A:Option Addr)(l c code:Nat)(w:World)(hd:code / 16=7):Calls Tryz.prog 105 #[.int .u8 (code:Int),.agg #[.int .u8 16,.int .u64 (n:Int),.string t,.slice A l c]] w (GivesD (tb t) w):=by
 have hB0:Below w.heap.size w (w.alloc (.cells #[.int .u8 16,.int .u64 (n:Int),.string t,.slice A l c] 44)):=(Below.refl _ _).alloc (Nat.le_refl _) _;have hB:Below w.heap.size w ((w.alloc (.cells #[.int .u8 16,.int .u64 (n:Int),.string t,.slice A l c] 44)).alloc (.cells #[.int .i64 0,.int .i64 1,.int .i64 2,.int .i64 4,.int .i64 8] 3)):=hB0.alloc hB0.size _;have hbx:=(Box.new w (.int .u8 16) (.int .u64 (n:Int)) (.string t) (.slice A l c)).alloc (.cells #[.int .i64 0,.int .i64 1,.int .i64 2,.int .i64 4,.int .i64 8] 3);obtain⟨z0,z1,z2,z3,_⟩:=hbx.all;have hd1:(code:Int) / 16=7:=by omega
 have hd2:(code:Int).tdiv 16=7:=by rw[Int.tdiv_eq_ediv_of_nonneg (by omega)];omega
 obtain⟨w3,c3,hcv,_,hr3,hb3⟩:=conv_str ((w.alloc (.cells #[.int .u8 16,.int .u64 (n:Int),.string t,.slice A l c] 44)).alloc (.cells #[.int .i64 0,.int .i64 1,.int .i64 2,.int .i64 4,.int .i64 8] 3)) t;have hB3:=below_next hB hb3;rw[nb_tb] at hr3;simp only[World.size_alloc] at hcv hr3;clear hd;go_enter Tryz.func105,Tryz.ntmps105;go_wp2;go_ret;exact⟨_,_,_,rfl,hr3,hB3⟩
theorem data_17 (n:Nat)(t:ByteArray)(A:Option Addr)(l c code:Nat)(w:World)(hd:code / 16=8):Calls Tryz.prog 105 #[.int .u8 (code:Int),.agg #[.int .u8 17,.int .u64 (n:Int),.string t,.slice A l c]] w (GivesD (tb t) w):=by
 have hB0:Below w.heap.size w (w.alloc (.cells #[.int .u8 17,.int .u64 (n:Int),.string t,.slice A l c] 44)):=(Below.refl _ _).alloc (Nat.le_refl _) _;have hB:Below w.heap.size w ((w.alloc (.cells #[.int .u8 17,.int .u64 (n:Int),.string t,.slice A l c] 44)).alloc (.cells #[.int .i64 0,.int .i64 1,.int .i64 2,.int .i64 4,.int .i64 8] 3)):=hB0.alloc hB0.size _;have hbx:=(Box.new w (.int .u8 17) (.int .u64 (n:Int)) (.string t) (.slice A l c)).alloc (.cells #[.int .i64 0,.int .i64 1,.int .i64 2,.int .i64 4,.int .i64 8] 3);obtain⟨z0,z1,z2,z3,_⟩:=hbx.all;have hd1:(code:Int) / 16=8:=by omega
 have hd2:(code:Int).tdiv 16=8:=by rw[Int.tdiv_eq_ediv_of_nonneg (by omega)];omega
 obtain⟨w3,c3,hcv,_,hr3,hb3⟩:=conv_str ((w.alloc (.cells #[.int .u8 17,.int .u64 (n:Int),.string t,.slice A l c] 44)).alloc (.cells #[.int .i64 0,.int .i64 1,.int .i64 2,.int .i64 4,.int .i64 8] 3)) t;have hB3:=below_next hB hb3;rw[nb_tb] at hr3;simp only[World.size_alloc] at hcv hr3;clear hd;go_enter Tryz.func105,Tryz.ntmps105;go_wp2;go_ret;exact⟨_,_,_,rfl,hr3,hB3⟩
def digRow (k:Nat)(x:Nat×Can):Bool:=
 let d:=x.1 / 16
 (d==4&&wid x.1==0)||(d==9&&decide (15≤k)&&decide (k < 19)&&wid x.1 != 0)||(d==10&&decide (19≤k)&&decide (k≤21)&&wid x.1==1&&codeEq x.2 .short)||(d==11&&decide (19≤k)&&decide (k≤21)&&wid x.1==4) ||
 ((d==12||d==14)&&decide (22≤k)&&wid x.1==1&&codeEq x.2 .small)||((d==13||d==15)&&decide (22≤k)&&wid x.1==4) ||
 (decide (5≤d)&&decide (d≤8)&&wid x.1==2 ^ (d - 5)&&(decide (k < 15)||(k==16&&d==7)||(k==17&&d==8)))
theorem dig_rows:((List.range 25).all fun k=>(chs k).all (digRow k))=true:=by decide +kernel
theorem dig_row {k c:Nat}{f:Can}(h:(c,f)∈chs k):digRow k (c,f)=true:=List.all_eq_true.1 (List.all_eq_true.1 dig_rows k (List.mem_range.2 (by have:=(k_of h).2;omega))) _ h
theorem xdata_any (code:Nat)(f:Can)(k n:Nat)(t:ByteArray)(ks:List V)(A:Option Addr)(l c:Nat)(w:World)(hg:Good (.mk k n t ks))(hcf:(code,f)∈chs k)(hcan:can f (rawv (.mk k n t ks))=true)(hbk:bulk (.mk k n t ks)≤33554432)(hn:n < 18446744073709551616)(hK:Kd w ks A l c)
  (hIns:∀ wx,Below w.heap.size w wx→Calls Tryz.prog 141 #[.agg #[.int .u8 (k:Int),.int .u64 (n:Int),.string t,.slice A l c]] wx (GivesL wx.heap.size (layK (kp k ks)) wx)) :
  Calls Tryz.prog 105 #[.int .u8 (code:Int),.agg #[.int .u8 (k:Int),.int .u64 (n:Int),.string t,.slice A l c]] w (GivesD (dat code (.mk k n t ks)) w):=by
 have hr:=dig_row hcf;have hll:l=ks.length:=hK.1;have hlen:=ins_len hg;have hb:=re_bound hg;have hlk:=length_bulk ks;have hbk2:=hbk;simp only[bulk] at hbk2;simp only[digRow,Bool.or_eq_true,Bool.and_eq_true,beq_iff_eq,bne_iff_ne,decide_eq_true_eq] at hr;simp only[dat,dlay];rcases hr with (((((⟨hd,hw⟩ | ⟨⟨⟨hd,h15⟩,h19⟩,hw⟩) | ⟨⟨⟨⟨hd,h19⟩,h21⟩,hw⟩,hf⟩) | ⟨⟨⟨hd,h19⟩,h21⟩,hw⟩) | ⟨⟨⟨hd,h22⟩,hw⟩,hf⟩) | ⟨⟨hd,h22⟩,hw⟩) | ⟨⟨⟨hd5,hd8⟩,hw⟩,hk⟩
 ·rw[if_pos hw];exact data_4 k n t A l c code w hd
 ·rw[if_neg hw,if_neg (by omega),if_pos h19];exact data_9 k n t A l c code w hd
 ·rw[if_neg (by omega),if_neg (by omega),if_neg (by omega),if_pos h21,hw];have hf2:=codeEq_iff hf;subst hf2;exact data_10 k n t A l c code w hd (of_decide_eq_true hcan)
 ·rw[if_neg (by omega),if_neg (by omega),if_neg (by omega),if_pos h21,hw];exact data_11 k n t A l c code w hd (by omega)
 ·rw[if_neg (by omega),if_neg (by omega),if_neg (by omega),if_neg (by omega),hw,hlen,←hll];have hf2:=codeEq_iff hf;subst hf2;have e:can .small (rawv (.mk k n t ks))=(decide (1+longK (kp k ks)≤255)&&decide (ks.length≤255)):=rfl;rw[e,Bool.and_eq_true,decide_eq_true_eq,decide_eq_true_eq,hlen] at hcan;rcases hd with hd | hd
  ·exact data_12 k n t A l c code w hd _ (by omega) hcan.1 hIns
  ·exact data_14 k n t A l c code w hd _ (by omega) hcan.1 hIns
 ·rw[if_neg (by omega),if_neg (by omega),if_neg (by omega),if_neg (by omega),hw,hlen,←hll];rcases hd with hd | hd
  ·exact data_13 k n t A l c code w hd _ (by omega) (by omega) hIns
  ·exact data_15 k n t A l c code w hd _ (by omega) (by omega) hIns
 ·have hw0:wid code≠0:=by
   rw[hw];have:=Nat.two_pow_pos (code / 16 - 5);omega
  rw[if_neg hw0];rcases hk with (hk | ⟨hk,hd⟩) | ⟨hk,hd⟩
  ·rw[if_pos hk,hw];have:code / 16=5∨code / 16=6∨code / 16=7∨code / 16=8:=by omega
   rcases this with hd | hd | hd | hd
   all_goals rw[hd]
   ·exact data_n5 k n t A l c code w hd ⟨by omega,by omega⟩ hn
   ·exact data_n6 k n t A l c code w hd ⟨by omega,by omega⟩ hn
   ·exact data_n7 k n t A l c code w hd ⟨by omega,by omega⟩ hn
   ·exact data_n8 k n t A l c code w hd ⟨by omega,by omega⟩ hn
  ·rw[if_neg (by omega),if_pos (by omega)];subst hk;exact data_16 n t A l c code w hd
  ·rw[if_neg (by omega),if_pos (by omega)];subst hk;exact data_17 n t A l c code w hd
end Go.Proofs.YtcilmmdmkpnppaaGreatDoor.Enc
end
