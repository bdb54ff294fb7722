/-
  Contracts of functions and plain mathematics, text by text, each with its conditions ahead of it:
  Contracts of utf.Char and the document's Char, utf.further, utf.lead: no condition but that the table of package utf is as its text lays it.
  Contract of utf.first: the character with which bytes begin, and how many they are; 0 and 0, if they begin with none. Memory that was there stays.
  Contracts of utf.count, utf.Right and utf.Chars: the characters of bytes in new memory, or that they are no text. Memory that was there stays. Condition: at most 2^40 bytes.
  Contracts of the laws' helpers: same (characters), EqBytes, and of utf.Ascii and the document's Ascii. Conditions: at most 2^40 of them.
  Which numbers may stand in which kinds: contracts of rightNumber and of the document's within.
  Contract of rightNumber.
  Which texts may stand in which kinds: contract of rightText. Condition: the table of package utf; a text of at most 2^30 bytes.
  Contract of rightAlone: has a value what its kind has, whatever its kids are? Condition: the table of package utf; a text of at most 2^30 bytes.
  Which values may be, as plain mathematics.
  What the rows' condition says: the table of package utf lies in memory as its text lays it; how arguments []byte and []uint32 are opened.
-/
import Derived.Test.YtcilmmdmkpnppaaGreatDoorY01
import Derived.LoopN
import Derived.BigQuiet
import Derived.Deep.QuietTactic
import Derived.Laws.BitsAllLaws
import Derived.ScopeJumps
import Derived.WalkMore
import Derived.Laws.MakeOwn
import Derived.WalkLawsBesides
import Derived.Lib.ConvBytes
import Derived.Test.YtcilmmdmkpnppaaGreatDoorTie
import Derived.Test.YtcilmmdmkpnppaaGreatDoorCards
import Derived.ProofKit
import Derived.LaidMore
import Derived.OpenShut
import Derived.Carry
import Derived.Stop.Joined
import Derived.SevenTiedAt
import Derived.Deep.Strs
section
namespace Go.Proofs.YtcilmmdmkpnppaaGreatDoor.Utf
open Go.RowKit
theorem char_any (n:Nat)(w:World):Calls Tryz.prog 163 #[.int .u64 n] w fun e w'=>e=.returned (.bool (isC n))∧w=w':=by
 by_cases h1:n < 55296
 ·have e:isC n=true:=isC_iff.2 (by omega);rw[e];clear e;have d1:decide ((n:Int) < 55296)=true:=by simp;omega
  clear h1;go_enter Tryz.func163,Tryz.ntmps163;go_wp2;go_ret;exact⟨rfl,rfl⟩
 by_cases h2:n≤57343
 ·have e:isC n=false:=by simp[isC];omega
  rw[e];clear e;have d1:decide ((n:Int) < 55296)=false:=by simp;omega
  have d2:decide (57343 < (n:Int))=false:=by simp;omega
  clear h1 h2;go_enter Tryz.func163,Tryz.ntmps163;go_wp2;go_ret;exact⟨rfl,rfl⟩
 by_cases h3:n≤1114111
 ·have e:isC n=true:=isC_iff.2 (by omega);rw[e];clear e;have d1:decide ((n:Int) < 55296)=false:=by simp;omega
  have d2:decide (57343 < (n:Int))=true:=by simp;omega
  have d3:decide ((n:Int)≤1114111)=true:=by simp;omega
  clear h1 h2 h3;go_enter Tryz.func163,Tryz.ntmps163;go_wp2;go_ret;exact⟨rfl,rfl⟩
 ·have e:isC n=false:=by simp[isC];omega
  rw[e];clear e;have d1:decide ((n:Int) < 55296)=false:=by simp;omega
  have d2:decide (57343 < (n:Int))=true:=by simp;omega
  have d3:decide ((n:Int)≤1114111)=false:=by simp;omega
  clear h1 h2 h3;go_enter Tryz.func163,Tryz.ntmps163;go_wp2;go_ret;exact⟨rfl,rfl⟩
theorem further_any (c:Nat)(w:World)(ht:Tab w):Calls Tryz.prog 168 #[.int .u32 c] w fun e w'=>e=.returned (.int .i64 (fu c))∧w=w':=by
 have c0:w.cell? ⟨0,0,none⟩=some (.int .u32 127):=ht.cell 0;have c1:w.cell? ⟨0,3,none⟩=some (.int .u32 2047):=ht.cell 3;have c2:w.cell? ⟨0,6,none⟩=some (.int .u32 65535):=ht.cell 6;clear ht;by_cases h1:c≤127
 ·have e:fu c=0:=by simp[fu,h1]
  rw[e];clear e;have d0:decide (127 < (c:Int))=false:=by simp;omega
  clear h1;go_enter Tryz.func168,Tryz.ntmps168;go_wp2;refine wp_loop_rounds 1 ?_;rw[rounds_succ];go_wp2;go_ret;exact⟨rfl,rfl⟩
 by_cases h2:c≤2047
 ·have e:fu c=1:=by simp[fu,h1,h2]
  rw[e];clear e;have d0:decide (127 < (c:Int))=true:=by simp;omega
  have d1:decide (2047 < (c:Int))=false:=by simp;omega
  clear h1 h2;go_enter Tryz.func168,Tryz.ntmps168;go_wp2;refine wp_loop_rounds 2 ?_;rw[rounds_succ];go_wp2;rw[rounds_succ];go_wp2;go_ret;exact⟨rfl,rfl⟩
 by_cases h3:c≤65535
 ·have e:fu c=2:=by simp[fu,h1,h2,h3]
  rw[e];clear e;have d0:decide (127 < (c:Int))=true:=by simp;omega
  have d1:decide (2047 < (c:Int))=true:=by simp;omega
  have d2:decide (65535 < (c:Int))=false:=by simp;omega
  clear h1 h2 h3;go_enter Tryz.func168,Tryz.ntmps168;go_wp2;refine wp_loop_rounds 3 ?_;rw[rounds_succ];go_wp2;rw[rounds_succ];go_wp2;rw[rounds_succ];go_wp2;go_ret;exact⟨rfl,rfl⟩
 ·have e:fu c=3:=by simp[fu,h1,h2,h3]
  rw[e];clear e;have d0:decide (127 < (c:Int))=true:=by simp;omega
  have d1:decide (2047 < (c:Int))=true:=by simp;omega
  have d2:decide (65535 < (c:Int))=true:=by simp;omega
  clear h1 h2 h3;go_enter Tryz.func168,Tryz.ntmps168;go_wp2;refine wp_loop_rounds 4 ?_;rw[rounds_succ];go_wp2;rw[rounds_succ];go_wp2;rw[rounds_succ];go_wp2;rw[rounds_succ];go_wp2;go_ret;exact⟨rfl,rfl⟩
theorem an (o m:Nat)(ho:o < 256)(hm:m < 256):bits .andNot .u8 (o:Int) (m:Int)=((o &&& (255 - m):Nat):Int):=u8_andNot_nat o m ho hm
theorem aw (o m:Nat)(ho:o < 256)(hm:m < 256):bits .and .u8 (o:Int) (m:Int)=((o &&& m:Nat):Int):=u8_and_nat o m ho hm
theorem fa0:∀ o:Fin 256,((o.val &&& (255 - 127))==0)=decide (o.val < 128):=by decide +kernel
theorem fa1:∀ o:Fin 256,((o.val &&& (255 - 31))==192)=(decide (192≤o.val)&&decide (o.val < 224)):=by decide +kernel
theorem fa2:∀ o:Fin 256,((o.val &&& (255 - 15))==224)=(decide (224≤o.val)&&decide (o.val < 240)):=by decide +kernel
theorem fa3:∀ o:Fin 256,((o.val &&& (255 - 7))==240)=(decide (240≤o.val)&&decide (o.val < 248)):=by decide +kernel
theorem fm0:∀ o:Fin 256,o.val < 128→(o.val &&& 127)=o.val:=by decide +kernel
theorem fm1:∀ o:Fin 256,192≤o.val→o.val < 224→(o.val &&& 31)=o.val - 192:=by decide +kernel
theorem fm2:∀ o:Fin 256,224≤o.val→o.val < 240→(o.val &&& 15)=o.val - 224:=by decide +kernel
theorem fm3:∀ o:Fin 256,240≤o.val→o.val < 248→(o.val &&& 7)=o.val - 240:=by decide +kernel
theorem eqb (a b:Nat):(((a:Nat):Int)==((b:Nat):Int))=(a==b):=by
 rw[Bool.eq_iff_iff];simp;omega
theorem ea0 (o:Nat)(h:o < 256):(bits .andNot .u8 (o:Int) 127==0)=decide (o < 128):=by
 rw[show (127:Int)=((127:Nat):Int) from rfl,an o 127 h (by omega),show (0:Int)=((0:Nat):Int) from rfl,eqb];exact fa0 ⟨o,h⟩
theorem ea1 (o:Nat)(h:o < 256):(bits .andNot .u8 (o:Int) 31==192)=(decide (192≤o)&&decide (o < 224)):=by
 rw[show (31:Int)=((31:Nat):Int) from rfl,an o 31 h (by omega),show (192:Int)=((192:Nat):Int) from rfl,eqb];exact fa1 ⟨o,h⟩
theorem ea2 (o:Nat)(h:o < 256):(bits .andNot .u8 (o:Int) 15==224)=(decide (224≤o)&&decide (o < 240)):=by
 rw[show (15:Int)=((15:Nat):Int) from rfl,an o 15 h (by omega),show (224:Int)=((224:Nat):Int) from rfl,eqb];exact fa2 ⟨o,h⟩
theorem ea3 (o:Nat)(h:o < 256):(bits .andNot .u8 (o:Int) 7==240)=(decide (240≤o)&&decide (o < 248)):=by
 rw[show (7:Int)=((7:Nat):Int) from rfl,an o 7 h (by omega),show (240:Int)=((240:Nat):Int) from rfl,eqb];exact fa3 ⟨o,h⟩
theorem newly {w w':World}(h:Below w.heap.size w w')(o:Obj):Below w.heap.size w (w'.alloc o):=h.alloc h.size o
theorem drewly {B:Nat}{w w':World}(h:Below B w w')(k:Nat):Below B w (w'.drewN k):=⟨h.os,h.tape,h.output,h.size,h.block⟩
def leadv (o:Nat):Value:=match ld o with
 | none=>.tuple #[.int .i64 0,.int .u32 0,.bool false]
 | some (n,c)=>.tuple #[.int .i64 (n:Nat),.int .u32 (c:Nat),.bool true]
theorem idx0:∀ W:World,(Instr.index 202 (.agg #[.int .u32 127,.int .u8 0,.int .u8 127,.int .u32 2047,.int .u8 192,.int .u8 31,.int .u32 65535,.int .u8 224,.int .u8 15,.int .u32 1114111,.int .u8 240,.int .u8 7]) (.int .i64 0)).run Tryz.prog W=.ok (.agg #[.int .u32 127,.int .u8 0,.int .u8 127]) W:=fun W=>by kernel_rfl
theorem idx1:∀ W:World,(Instr.index 202 (.agg #[.int .u32 127,.int .u8 0,.int .u8 127,.int .u32 2047,.int .u8 192,.int .u8 31,.int .u32 65535,.int .u8 224,.int .u8 15,.int .u32 1114111,.int .u8 240,.int .u8 7]) (.int .i64 1)).run Tryz.prog W=.ok (.agg #[.int .u32 2047,.int .u8 192,.int .u8 31]) W:=fun W=>by kernel_rfl
theorem idx2:∀ W:World,(Instr.index 202 (.agg #[.int .u32 127,.int .u8 0,.int .u8 127,.int .u32 2047,.int .u8 192,.int .u8 31,.int .u32 65535,.int .u8 224,.int .u8 15,.int .u32 1114111,.int .u8 240,.int .u8 7]) (.int .i64 2)).run Tryz.prog W=.ok (.agg #[.int .u32 65535,.int .u8 224,.int .u8 15]) W:=fun W=>by kernel_rfl
theorem idx3:∀ W:World,(Instr.index 202 (.agg #[.int .u32 127,.int .u8 0,.int .u8 127,.int .u32 2047,.int .u8 192,.int .u8 31,.int .u32 65535,.int .u8 224,.int .u8 15,.int .u32 1114111,.int .u8 240,.int .u8 7]) (.int .i64 3)).run Tryz.prog W=.ok (.agg #[.int .u32 1114111,.int .u8 240,.int .u8 7]) W:=fun W=>by kernel_rfl
theorem lead_0 (o:Nat)(ho:o < 256)(h:o < 128)(w:World)(ht:Tab w):Calls Tryz.prog 167 #[.int .u8 o] w fun e w'=>e=.returned (leadv o)∧Below w.heap.size w w':=by
 have c0:w.cell? ⟨0,0,none⟩=some (.int .u32 127):=ht.cell 0;have c1:w.cell? ⟨0,1,none⟩=some (.int .u8 0):=ht.cell 1;have c2:w.cell? ⟨0,2,none⟩=some (.int .u8 127):=ht.cell 2;have c3:w.cell? ⟨0,3,none⟩=some (.int .u32 2047):=ht.cell 3;have c4:w.cell? ⟨0,4,none⟩=some (.int .u8 192):=ht.cell 4;have c5:w.cell? ⟨0,5,none⟩=some (.int .u8 31):=ht.cell 5;have c6:w.cell? ⟨0,6,none⟩=some (.int .u32 65535):=ht.cell 6;have c7:w.cell? ⟨0,7,none⟩=some (.int .u8 224):=ht.cell 7;have c8:w.cell? ⟨0,8,none⟩=some (.int .u8 15):=ht.cell 8;have c9:w.cell? ⟨0,9,none⟩=some (.int .u32 1114111):=ht.cell 9;have c10:w.cell? ⟨0,10,none⟩=some (.int .u8 240):=ht.cell 10;have c11:w.cell? ⟨0,11,none⟩=some (.int .u8 7):=ht.cell 11;clear ht;have x0:=idx0;have hv:leadv o=.tuple #[.int .i64 0,.int .u32 (o:Nat),.bool true]:=by
  have:ld o=some (0,o):=by unfold ld;simp[h]
  simp[leadv,this]
 have hm:bits .and .u8 (o:Int) 127=((o:Nat):Int):=by rw[show (127:Int)=((127:Nat):Int) from rfl,aw o 127 ho (by omega)];exact congrArg Nat.cast (fm0 ⟨o,ho⟩ h)
 rw[hv];clear hv;have b0:(bits .andNot .u8 (o:Int) 127==0)=true:=by rw[ea0 o ho];simp;omega
 clear h;go_enter Tryz.func167,Tryz.ntmps167;go_wp2;refine wp_loop_rounds 1 ?_;rw[rounds_succ];go_wp2;go_quiet (fail);go_wp2;go_ret3;exact⟨rfl,drewly (newly (Below.refl _ w) _) _⟩
theorem lead_1 (o:Nat)(ho:o < 256)(h:192≤o∧o < 224)(w:World)(ht:Tab w):Calls Tryz.prog 167 #[.int .u8 o] w fun e w'=>e=.returned (leadv o)∧Below w.heap.size w w':=by
 have c0:w.cell? ⟨0,0,none⟩=some (.int .u32 127):=ht.cell 0;have c1:w.cell? ⟨0,1,none⟩=some (.int .u8 0):=ht.cell 1;have c2:w.cell? ⟨0,2,none⟩=some (.int .u8 127):=ht.cell 2;have c3:w.cell? ⟨0,3,none⟩=some (.int .u32 2047):=ht.cell 3;have c4:w.cell? ⟨0,4,none⟩=some (.int .u8 192):=ht.cell 4;have c5:w.cell? ⟨0,5,none⟩=some (.int .u8 31):=ht.cell 5;have c6:w.cell? ⟨0,6,none⟩=some (.int .u32 65535):=ht.cell 6;have c7:w.cell? ⟨0,7,none⟩=some (.int .u8 224):=ht.cell 7;have c8:w.cell? ⟨0,8,none⟩=some (.int .u8 15):=ht.cell 8;have c9:w.cell? ⟨0,9,none⟩=some (.int .u32 1114111):=ht.cell 9;have c10:w.cell? ⟨0,10,none⟩=some (.int .u8 240):=ht.cell 10;have c11:w.cell? ⟨0,11,none⟩=some (.int .u8 7):=ht.cell 11;clear ht;have x0:=idx0;have x1:=idx1;have hv:leadv o=.tuple #[.int .i64 1,.int .u32 ((o - 192):Nat),.bool true]:=by
  have:ld o=some (1,(o - 192)):=by unfold ld;rw[if_neg (by omega),if_neg (by omega),if_pos (by omega)]
  simp[leadv,this]
 have hm:bits .and .u8 (o:Int) 31=(((o - 192):Nat):Int):=by rw[show (31:Int)=((31:Nat):Int) from rfl,aw o 31 ho (by omega)];exact congrArg Nat.cast (fm1 ⟨o,ho⟩ h.1 h.2)
 rw[hv];clear hv;have b0:(bits .andNot .u8 (o:Int) 127==0)=false:=by rw[ea0 o ho];simp;omega
 have b1:(bits .andNot .u8 (o:Int) 31==192)=true:=by rw[ea1 o ho];simp;omega
 clear h;go_enter Tryz.func167,Tryz.ntmps167;go_wp2;refine wp_loop_rounds 2 ?_;rw[rounds_succ];go_wp2;rw[rounds_succ];go_wp2;go_quiet (fail);go_wp2;go_ret3;exact⟨rfl,drewly (newly (newly (Below.refl _ w) _) _) _⟩
theorem lead_2 (o:Nat)(ho:o < 256)(h:224≤o∧o < 240)(w:World)(ht:Tab w):Calls Tryz.prog 167 #[.int .u8 o] w fun e w'=>e=.returned (leadv o)∧Below w.heap.size w w':=by
 have c0:w.cell? ⟨0,0,none⟩=some (.int .u32 127):=ht.cell 0;have c1:w.cell? ⟨0,1,none⟩=some (.int .u8 0):=ht.cell 1;have c2:w.cell? ⟨0,2,none⟩=some (.int .u8 127):=ht.cell 2;have c3:w.cell? ⟨0,3,none⟩=some (.int .u32 2047):=ht.cell 3;have c4:w.cell? ⟨0,4,none⟩=some (.int .u8 192):=ht.cell 4;have c5:w.cell? ⟨0,5,none⟩=some (.int .u8 31):=ht.cell 5;have c6:w.cell? ⟨0,6,none⟩=some (.int .u32 65535):=ht.cell 6;have c7:w.cell? ⟨0,7,none⟩=some (.int .u8 224):=ht.cell 7;have c8:w.cell? ⟨0,8,none⟩=some (.int .u8 15):=ht.cell 8;have c9:w.cell? ⟨0,9,none⟩=some (.int .u32 1114111):=ht.cell 9;have c10:w.cell? ⟨0,10,none⟩=some (.int .u8 240):=ht.cell 10;have c11:w.cell? ⟨0,11,none⟩=some (.int .u8 7):=ht.cell 11;clear ht;have x0:=idx0;have x1:=idx1;have x2:=idx2;have hv:leadv o=.tuple #[.int .i64 2,.int .u32 ((o - 224):Nat),.bool true]:=by
  have:ld o=some (2,(o - 224)):=by unfold ld;rw[if_neg (by omega),if_neg (by omega),if_neg (by omega),if_pos (by omega)]
  simp[leadv,this]
 have hm:bits .and .u8 (o:Int) 15=(((o - 224):Nat):Int):=by rw[show (15:Int)=((15:Nat):Int) from rfl,aw o 15 ho (by omega)];exact congrArg Nat.cast (fm2 ⟨o,ho⟩ h.1 h.2)
 rw[hv];clear hv;have b0:(bits .andNot .u8 (o:Int) 127==0)=false:=by rw[ea0 o ho];simp;omega
 have b1:(bits .andNot .u8 (o:Int) 31==192)=false:=by rw[ea1 o ho];simp;omega
 have b2:(bits .andNot .u8 (o:Int) 15==224)=true:=by rw[ea2 o ho];simp;omega
 clear h;go_enter Tryz.func167,Tryz.ntmps167;go_wp2;refine wp_loop_rounds 3 ?_;rw[rounds_succ];go_wp2;rw[rounds_succ];go_wp2;rw[rounds_succ];go_wp2;go_quiet (fail);go_wp2;go_ret3;exact⟨rfl,drewly (newly (newly (newly (Below.refl _ w) _) _) _) _⟩
theorem lead_3 (o:Nat)(ho:o < 256)(h:240≤o∧o < 248)(w:World)(ht:Tab w):Calls Tryz.prog 167 #[.int .u8 o] w fun e w'=>e=.returned (leadv o)∧Below w.heap.size w w':=by
 have c0:w.cell? ⟨0,0,none⟩=some (.int .u32 127):=ht.cell 0;have c1:w.cell? ⟨0,1,none⟩=some (.int .u8 0):=ht.cell 1;have c2:w.cell? ⟨0,2,none⟩=some (.int .u8 127):=ht.cell 2;have c3:w.cell? ⟨0,3,none⟩=some (.int .u32 2047):=ht.cell 3;have c4:w.cell? ⟨0,4,none⟩=some (.int .u8 192):=ht.cell 4;have c5:w.cell? ⟨0,5,none⟩=some (.int .u8 31):=ht.cell 5;have c6:w.cell? ⟨0,6,none⟩=some (.int .u32 65535):=ht.cell 6;have c7:w.cell? ⟨0,7,none⟩=some (.int .u8 224):=ht.cell 7;have c8:w.cell? ⟨0,8,none⟩=some (.int .u8 15):=ht.cell 8;have c9:w.cell? ⟨0,9,none⟩=some (.int .u32 1114111):=ht.cell 9;have c10:w.cell? ⟨0,10,none⟩=some (.int .u8 240):=ht.cell 10;have c11:w.cell? ⟨0,11,none⟩=some (.int .u8 7):=ht.cell 11;clear ht;have x0:=idx0;have x1:=idx1;have x2:=idx2;have x3:=idx3;have hv:leadv o=.tuple #[.int .i64 3,.int .u32 ((o - 240):Nat),.bool true]:=by
  have:ld o=some (3,(o - 240)):=by unfold ld;rw[if_neg (by omega),if_neg (by omega),if_neg (by omega),if_neg (by omega),if_pos (by omega)]
  simp[leadv,this]
 have hm:bits .and .u8 (o:Int) 7=(((o - 240):Nat):Int):=by rw[show (7:Int)=((7:Nat):Int) from rfl,aw o 7 ho (by omega)];exact congrArg Nat.cast (fm3 ⟨o,ho⟩ h.1 h.2)
 rw[hv];clear hv;have b0:(bits .andNot .u8 (o:Int) 127==0)=false:=by rw[ea0 o ho];simp;omega
 have b1:(bits .andNot .u8 (o:Int) 31==192)=false:=by rw[ea1 o ho];simp;omega
 have b2:(bits .andNot .u8 (o:Int) 15==224)=false:=by rw[ea2 o ho];simp;omega
 have b3:(bits .andNot .u8 (o:Int) 7==240)=true:=by rw[ea3 o ho];simp;omega
 clear h;go_enter Tryz.func167,Tryz.ntmps167;go_wp2;refine wp_loop_rounds 4 ?_;rw[rounds_succ];go_wp2;rw[rounds_succ];go_wp2;rw[rounds_succ];go_wp2;rw[rounds_succ];go_wp2;go_quiet (fail);go_wp2;go_ret3;exact⟨rfl,drewly (newly (newly (newly (newly (Below.refl _ w) _) _) _) _) _⟩
theorem lead_4 (o:Nat)(ho:o < 256)(h:(128≤o∧o < 192)∨248≤o)(w:World)(ht:Tab w):Calls Tryz.prog 167 #[.int .u8 o] w fun e w'=>e=.returned (leadv o)∧Below w.heap.size w w':=by
 have c0:w.cell? ⟨0,0,none⟩=some (.int .u32 127):=ht.cell 0;have c1:w.cell? ⟨0,1,none⟩=some (.int .u8 0):=ht.cell 1;have c2:w.cell? ⟨0,2,none⟩=some (.int .u8 127):=ht.cell 2;have c3:w.cell? ⟨0,3,none⟩=some (.int .u32 2047):=ht.cell 3;have c4:w.cell? ⟨0,4,none⟩=some (.int .u8 192):=ht.cell 4;have c5:w.cell? ⟨0,5,none⟩=some (.int .u8 31):=ht.cell 5;have c6:w.cell? ⟨0,6,none⟩=some (.int .u32 65535):=ht.cell 6;have c7:w.cell? ⟨0,7,none⟩=some (.int .u8 224):=ht.cell 7;have c8:w.cell? ⟨0,8,none⟩=some (.int .u8 15):=ht.cell 8;have c9:w.cell? ⟨0,9,none⟩=some (.int .u32 1114111):=ht.cell 9;have c10:w.cell? ⟨0,10,none⟩=some (.int .u8 240):=ht.cell 10;have c11:w.cell? ⟨0,11,none⟩=some (.int .u8 7):=ht.cell 11;clear ht;have x0:=idx0;have x1:=idx1;have x2:=idx2;have x3:=idx3;have hv:leadv o=.tuple #[.int .i64 0,.int .u32 0,.bool false]:=by
  have:ld o=none:=by
   unfold ld;by_cases h2:o < 192
   ·rw[if_neg (by omega),if_pos h2]
   ·rw[if_neg (by omega),if_neg (by omega),if_neg (by omega),if_neg (by omega),if_neg (by omega)]
  simp[leadv,this]
 rw[hv];clear hv;have b0:(bits .andNot .u8 (o:Int) 127==0)=false:=by rw[ea0 o ho];simp;omega
 have b1:(bits .andNot .u8 (o:Int) 31==192)=false:=by rw[ea1 o ho];simp;omega
 have b2:(bits .andNot .u8 (o:Int) 15==224)=false:=by rw[ea2 o ho];simp;omega
 have b3:(bits .andNot .u8 (o:Int) 7==240)=false:=by rw[ea3 o ho];simp;omega
 clear h;go_enter Tryz.func167,Tryz.ntmps167;go_wp2;refine wp_loop_rounds 5 ?_;rw[rounds_succ];go_wp2;rw[rounds_succ];go_wp2;rw[rounds_succ];go_wp2;rw[rounds_succ];go_wp2;rw[rounds_succ];go_wp2;go_ret3;exact⟨rfl,(newly (newly (newly (newly (Below.refl _ w) _) _) _) _)⟩
theorem lead_any (o:Nat)(ho:o < 256)(w:World)(ht:Tab w):Calls Tryz.prog 167 #[.int .u8 o] w fun e w'=>e=.returned (leadv o)∧Below w.heap.size w w':=by
 by_cases h0:o < 128
 ·exact lead_0 o ho h0 w ht
 by_cases h1:192≤o∧o < 224
 ·exact lead_1 o ho h1 w ht
 by_cases h2:224≤o∧o < 240
 ·exact lead_2 o ho h2 w ht
 by_cases h3:240≤o∧o < 248
 ·exact lead_3 o ho h3 w ht
 ·exact lead_4 o ho (by omega) w ht
end Go.Proofs.YtcilmmdmkpnppaaGreatDoor.Utf
namespace Go.Proofs.YtcilmmdmkpnppaaGreatDoor.Utf
open Go.RowKit
theorem fc63:∀ x:Fin 256,((x.val &&& (255 - 63))==128)=cont x.val:=by decide +kernel
theorem fm63:∀ x:Fin 256,cont x.val=true→(x.val &&& 63)=x.val - 128:=by decide +kernel
theorem ne63 (x:Nat)(h:x < 256):(bits .andNot .u8 (x:Int) 63 != 128) = !cont x:=by
 have:(bits .andNot .u8 (x:Int) 63==128)=cont x:=by
  rw[show (63:Int)=((63:Nat):Int) from rfl,an x 63 h (by omega),show (128:Int)=((128:Nat):Int) from rfl,eqb];exact fc63 ⟨x,h⟩
 rw[bne,this]
theorem and63 (x:Nat)(h:x < 256)(hc:cont x=true):bits .and .u8 (x:Int) 63=((x - 128:Nat):Int):=by
 rw[show (63:Int)=((63:Nat):Int) from rfl,aw x 63 h (by omega)];exact congrArg Nat.cast (fm63 ⟨x,h⟩ hc)
theorem or6 (c y:Nat)(hc:c < 67108864)(hy:y < 64):bits .or .u32 ((c:Int) * 64) (y:Int)=((c * 64+y:Nat):Int):=by
 have e:(c:Int) * 64=((c * 64:Nat):Int):=by simp
 rw[e,u32_or_nat _ _ (by omega) (by omega),nat_join 6 (c * 64) y (by omega) hy]
theorem cont_lt {x:Nat}(h:cont x=true):128≤x∧x < 192:=by simpa [cont] using h
def fv (l:List Nat):Value:=match dec l with
 | none=>.tuple #[.int .u32 0,.int .i64 0]
 | some (c,m)=>.tuple #[.int .u32 (c:Nat),.int .i64 (m:Nat)]
theorem fv_none {l:List Nat}(h:dec l=none):fv l=.tuple #[.int .u32 0,.int .i64 0]:=by simp[fv,h]
theorem fv_some {l:List Nat}{c m:Nat}(h:dec l=some (c,m)):fv l=.tuple #[.int .u32 (c:Nat),.int .i64 (m:Nat)]:=by simp[fv,h]
theorem dec_lead {o:Nat}{r:List Nat}(h:ld o=none):dec (o::r)=none:=by simp[dec,h]
theorem dec_gon_none {o n c:Nat}{r:List Nat}(h:ld o=some (n,c))(hg:gon n c r=none):dec (o::r)=none:=by
 simp only[dec,h,hg]
theorem dec_gon_some {o n c d:Nat}{r:List Nat}(h:ld o=some (n,c))(hg:gon n c r=some d):dec (o::r)=if fits n d then some (d,n+1) else none:=by
 simp only[dec,h,hg]
theorem ld_bound {o n c:Nat}(h:ld o=some (n,c))(ho:o < 256):n≤3∧c < 128∧(n=0∨c < 32):=by
 unfold ld at h
 split at h
 ·cases h;omega
 split at h
 ·cases h
 split at h
 ·cases h;omega
 split at h
 ·cases h;omega
 split at h
 ·cases h;omega
 ·cases h
theorem gon_short:∀ (n c:Nat) (r:List Nat),r.length < n→gon n c r=none
 | 0,_,_,h=>by omega
 | n+1,c,[],_=>rfl
 | n+1,c,x::r,h=>by
  unfold gon
  split
  ·exact gon_short n _ r (by simp at h;omega)
  ·rfl
theorem gon_step {n c x:Nat}{r:List Nat}(h:cont x=true):gon (n+1) c (x::r)=gon n (c * 64+(x - 128)) r:=by simp[gon,h]
theorem gon_stop {n c x:Nat}{r:List Nat}(h:cont x=false):gon (n+1) c (x::r)=none:=by simp[gon,h]
theorem drop_at {l:List Nat}{k x:Nat}(h:l[k]? = some x):l.drop k=x::l.drop (k+1):=by
 obtain⟨hk,rfl⟩:=List.getElem?_eq_some_iff.1 h;exact List.drop_eq_getElem_cons hk
def Jmp (w:World)(b o n c x:Nat)(l:List Nat)(a':Act)(w':World):Prop:=
 ∃ m c0 j c1:Nat,ld x=some (m,c0)∧m < n∧j≤m∧(m=0∨c1 < 32 * 64 ^ j)∧c1 < 8388608∧gon m c0 (l.drop 1)=gon (m - j) c1 (l.drop (j+1))∧Rd .u8 256 w' w.heap.size (some ⟨b,o,none⟩) n l∧Tab w'∧Below w.heap.size w w' ∧
  ∃ u1 u2 u3 u6 u8 u9 u10 u11 u12 u13 u14 u15 u16 u17 u18 u19 u20 u21 u22 u23 u24 u25 u26 u27 u28 u29 u30 u31 u32 u33 u34 u35 u36 u37 u38 u39 u40 u41 u42 u43 u44 u45 u46 u47 u48 u49 u50 u51 u52 u53 u54 u55 u56:Value,a'={ tmps:=#[.slice (some ⟨b,o,none⟩) n c,u1,u2,u3,.int .i64 (m:Nat),.int .u32 (c1:Nat),u6,.int .i64 ((j:Int)+1),u8,u9,u10,u11,u12,u13,u14,u15,u16,u17,u18,u19,u20,u21,u22,u23,u24,u25,u26,u27,u28,u29,u30,u31,u32,u33,u34,u35,u36,u37,u38,u39,u40,u41,u42,u43,u44,u45,u46,u47,u48,u49,u50,u51,u52,u53,u54,u55,u56],defers:=[] }
def slotJ (a':Act):Nat:=5 - (intOf (a'.tmps.getD 7 undef)).toNat
theorem wp_scope_to {P:Program}{a:Act}{w:World}{Q:Exit→Act→World→Prop}{c rest:Code}(l:Nat)(J:Act→World→Prop)(μ:Act→World→Nat)(hf:findLabel c l=some (Code.skip.seq rest))
  (pass:∀ a w,J a w→rest.wp P (Exit.jump l (fun a' w'=>J a' w'∧μ a' w' < μ a w) Q) a w)
  (first:(∀ a w,J a w→rest.wp P (Exit.jump l J Q) a w)→c.wp P (Exit.jump l J Q) a w):(Code.scope c).wp P Q a w:=
 wp_scope_jumps l J μ hf (first fun a w h=>wp_mono (pass a w h) fun e a' w' hq=>by
  cases e with
  | goto l'=>exact⟨hq.1,hq.2.1⟩
  | _=>exact hq) fun a w h=>wp_seq (wp_skip (pass a w h))
theorem jump_ret {l:Nat}{J:Act→World→Prop}{Q:Exit→Act→World→Prop}{a:Act}{w:World}:Exit.jump l J Q .ret a w=Q .ret a w:=rfl
theorem step_bound {m j c1 y:Nat}(hm:m≤3)(hj:j < m)(h:m=0∨c1 < 32 * 64 ^ j)(hy:y < 64):c1 < 131072∧(m=0∨c1 * 64+y < 32 * 64 ^ (j+1))∧c1 * 64+y < 8388608:=by
 have h':c1 < 32 * 64 ^ j:=by omega
 have:j=0∨j=1∨j=2:=by omega
 rcases this with rfl | rfl | rfl<;>simp at h' ⊢<;>omega
set_option maxRecDepth 1000000 in
theorem first_x (b o n c:Nat)(l:List Nat)(w:World)(ht:Tab w)(hr:Rd .u8 256 w w.heap.size (some ⟨b,o,none⟩) n l)(hn:0 < n)(hn2:n≤4611686018427387904):Calls Tryz.prog 131 #[.slice (some ⟨b,o,none⟩) n c] w fun e w'=>e=.returned (fv l)∧Below w.heap.size w w':=by
 obtain⟨b',o',x,e,hb,hx,hx2,hc⟩:=hr.at_ hn;injection e with e
 injection e with e1 e2
 subst e1;subst e2;have hl:l=x::l.drop 1:=by simpa using drop_at hx
 have HL:=Lib.hid hl;have hlen:=hr.len;clear hx;rw[Nat.add_zero] at hc;go_enter Tryz.func131,Tryz.ntmps131;go_wp2;refine wp_scope_to 0 (Jmp w b o n c x l) (fun a' _=>slotJ a') rfl ?_ ?_
 ·rintro a' w' ⟨m,c0,j,c1,hld,hmn,hj,hcb,hc23,hg,hr',ht',hb',u1,u2,u3,u6,u8,u9,u10,u11,u12,u13,u14,u15,u16,u17,u18,u19,u20,u21,u22,u23,u24,u25,u26,u27,u28,u29,u30,u31,u32,u33,u34,u35,u36,u37,u38,u39,u40,u41,u42,u43,u44,u45,u46,u47,u48,u49,u50,u51,u52,u53,u54,u55,u56,rfl⟩;clear hc;have hm3:=ld_bound hld hx2;by_cases hjm:j < m
  ·obtain⟨b',o',y,e,hby,hy,hy2,hcy⟩:=hr'.at_ (k:=j+1) (by omega);injection e with e
   injection e with e1 e2
   subst e1;subst e2;have hne:=ne63 y hy2;have hD:=drop_at hy;have hmj:m - j=(m - j - 1)+1:=by omega
   rw[hD,hmj] at hg;by_cases hcont:cont y=true
   ·rw[hcont] at hne;have hand:=and63 y hy2 hcont;rw[gon_step hcont] at hg;obtain⟨z,hz⟩:∃ z,y - 128=z:=⟨_,rfl⟩;have hz64:z < 64:=by have:=cont_lt hcont;omega
    rw[hz] at hand hg;obtain⟨hc17,hc1',hc23'⟩:=step_bound hm3.1 hjm hcb hz64;have HO:=Lib.hid (or6 c1 z (by omega) hz64);have HG:Hid (gon m c0 (List.drop 1 l)=gon (m - (j+1)) (c1 * 64+z) (l.drop (j+1+1))):=Lib.hid (by rw[hg,Nat.sub_sub]);have HB:=Lib.hid hc1';have HE:=Lib.hid hld;clear hc1' hz hg hD hmj hcb hy hcont hld;have hm9:m≤3:=hm3.1;clear hm3;go_wp2;go_step3;rw[HO.out];refine⟨rfl,⟨m,c0,j+1,c1 * 64+z,HE.out,hmn,by omega,HB.out,by omega,HG.out,hr',ht',hb',_,_,_,_,_,_,_,_,_,_,_,_,_,_,_,_,_,_,_,_,_,_,_,_,_,_,_,_,_,_,_,_,_,_,_,_,_,_,_,_,_,_,_,_,_,_,_,_,_,_,_,_,_,rfl⟩,?_⟩;simp[slotJ,intOf];omega
   ·have hcf:cont y=false:=by simpa using hcont
    rw[hcf] at hne;rw[gon_stop hcf] at hg;have HV:Hid (fv l=.tuple #[.int .u32 0,.int .i64 0]):=Lib.hid (fv_none (by rw[hl];exact dec_gon_none hld hg));clear hg hD hmj hcb hy hcont hcf hld;have hm9:m≤3:=hm3.1;clear hm3;go_wp2;rw[jump_ret];go_ret2;exact⟨by rw[HV.out];rfl,hb'⟩
  ·have hjm':j=m:=by omega
   subst hjm';rw[Nat.sub_self] at hg;simp only[gon] at hg;have hd:=dec_gon_some (r:=l.drop 1) hld hg;rw[←hl] at hd;have hm9:j≤3:=hm3.1;clear hm3 hg hcb hld;by_cases hC:isC c1=true
   ·by_cases hF:fu c1=j
    ·have HV:Hid (fv l=.tuple #[.int .u32 (c1:Nat),.int .i64 ((j:Int)+1)]):=Lib.hid (by
      have hfit:fits j c1=true:=by simp[fits,hC,hF]
      rw[hfit,if_pos rfl] at hd;rw[fv_some hd];simp)
     clear hd;go_wp2_with fail;refine(char_any c1 w').mono ?_;rw[hC];rintro e w2 ⟨rfl,rfl⟩;go_wp2_with fail;refine(further_any c1 w' ht').mono ?_;rw[hF];rintro e w2 ⟨rfl,rfl⟩;clear hC hF;go_wp2;rw[jump_ret];go_ret2;exact⟨by rw[HV.out];rfl,hb'⟩
    ·have HV:Hid (fv l=.tuple #[.int .u32 0,.int .i64 0]):=Lib.hid (fv_none (by rw[hd,if_neg (by simp[fits,hF])]));have hne:(((fu c1:Nat):Int) != (j:Int))=true:=by simp;omega
     clear hd hF;go_wp2_with fail;refine(char_any c1 w').mono ?_;rw[hC];rintro e w2 ⟨rfl,rfl⟩;go_wp2_with fail;refine(further_any c1 w' ht').mono ?_;rintro e w2 ⟨rfl,rfl⟩;clear hC;generalize fu c1=f at *;go_wp2;rw[jump_ret];go_ret2;exact⟨by rw[HV.out];rfl,hb'⟩
   ·have hCf:isC c1=false:=by simpa using hC
    have HV:Hid (fv l=.tuple #[.int .u32 0,.int .i64 0]):=Lib.hid (fv_none (by rw[hd,if_neg (by simp[fits,hCf])]));clear hd hC;go_wp2_with fail;refine(char_any c1 w').mono ?_;rw[hCf];rintro e w2 ⟨rfl,rfl⟩;clear hCf;go_wp2;rw[jump_ret];go_ret2;exact⟨by rw[HV.out];rfl,hb'⟩
 ·intro HJ;have HJ':=Lib.hid HJ;clear HJ hl;go_wp2_with fail;refine(lead_any x hx2 w ht).mono ?_;rintro e w1 ⟨rfl,hb1⟩;have hr1:=hr.below hb1;have ht1:=ht.call hb1;cases hld:ld x with
  | none=>
   have hlv:leadv x=.tuple #[.int .i64 0,.int .u32 0,.bool false]:=by simp[leadv,hld]
   have HV:Hid (fv l=.tuple #[.int .u32 0,.int .i64 0]):=Lib.hid (fv_none (by rw[HL.out];exact dec_lead hld));rw[hlv];clear hlv hld;go_wp2;rw[jump_ret];go_ret2;exact⟨by rw[HV.out];rfl,hb1⟩
  | some p=>
   obtain⟨m,c0⟩:=p;have hlv:leadv x=.tuple #[.int .i64 (m:Nat),.int .u32 (c0:Nat),.bool true]:=by simp[leadv,hld]
   have hm3:=ld_bound hld hx2;by_cases hmn:n≤m
   ·have HV:Hid (fv l=.tuple #[.int .u32 0,.int .i64 0]):=Lib.hid (fv_none (by rw[HL.out];exact dec_gon_none hld (gon_short _ _ _ (by rw[List.length_drop];omega))));rw[hlv];clear hlv hld hm3;go_wp2;rw[jump_ret];go_ret2;exact⟨by rw[HV.out];rfl,hb1⟩
   ·rw[hlv];clear hlv;have HLD:=Lib.hid hld;have hm9:m≤3:=hm3.1;have HB:Hid (m=0∨c0 < 32 * 64 ^ 0):=Lib.hid (by simp;exact hm3.2.2);have hc128:c0 < 128:=hm3.2.1;clear hld hm3;go_wp2;go_step3;rename_i hK;refine hK _ _ (HJ'.out _ _ ?_);exact⟨m,c0,0,c0,HLD.out,by omega,by omega,HB.out,by omega,rfl,hr1,ht1,hb1,_,_,_,_,_,_,_,_,_,_,_,_,_,_,_,_,_,_,_,_,_,_,_,_,_,_,_,_,_,_,_,_,_,_,_,_,_,_,_,_,_,_,_,_,_,_,_,_,_,_,_,_,_,rfl⟩
theorem first_any (A:Option Addr)(n c:Nat)(l:List Nat)(w:World)(ht:Tab w)(hr:Rd .u8 256 w w.heap.size A n l)(hn:0 < n)(hn2:n≤4611686018427387904):Calls Tryz.prog 131 #[.slice A n c] w fun e w'=>e=.returned (fv l)∧Below w.heap.size w w':=by
 obtain⟨b,o,_,rfl,_⟩:=hr.at_ hn;exact first_x b o n c l w ht hr hn hn2
end Go.Proofs.YtcilmmdmkpnppaaGreatDoor.Utf
end
section
namespace Go.Proofs.YtcilmmdmkpnppaaGreatDoor.Utf
open Go.RowKit
def lenOf:Value→Nat
 | .slice _ n _=>n
 | _=>0
def NoT (l:List Nat):Prop:=∀ cs,¬ IsT l cs
def GivesCnt (l:List Nat)(w:World)(e:Ending)(w':World):Prop:=
 ((∃ cs,IsT l cs∧e=.returned (.tuple #[.int .i64 (cs.length:Nat),.bool true]))∨(NoT l∧e=.returned (.tuple #[.int .i64 0,.bool false])))∧Below w.heap.size w w'
theorem en_append_len {c:Nat}{r r':List Nat}(h:r=en c++r'):fu c+1≤r.length∧r.drop (fu c+1)=r':=by
 subst h;rw[List.length_append,en_length];refine⟨by omega,?_⟩;rw[←en_length,List.drop_left]
theorem count_any (A:Option Addr)(n c:Nat)(l:List Nat)(w:World)(ht:Tab w)(hr:Rd .u8 256 w w.heap.size A n l)(hnc:n≤c)(hn:n≤1099511627776) :
  Calls Tryz.prog 98 #[.slice A n c] w (GivesCnt l w):=by
 go_enter Tryz.func98,Tryz.ntmps98;go_wp2;go_loopw [0,4] (fun b i wr=>∃ A' n' c' d r,n'≤c'∧n'+d.length≤n∧b=.slice A' n' c'∧i=.int .i64 (d.length:Nat)∧AllC d∧l=txt d++r∧Rd .u8 256 wr w.heap.size A' n' r∧Below w.heap.size w wr) (fun b _ _=>lenOf b)
 case atStart=>exact⟨A,n,c,[],l,hnc,by simp,rfl,rfl,allC_nil,rfl,hr,Below.refl _ _⟩
 case round=>
  obtain⟨A',n',c',d,r,hnc',hnd,rfl,rfl,hd,hl,hr',hb⟩:=hrel;have HL:=Lib.hid hl;have HD:=Lib.hid hd;clear hl hd;by_cases h0:n'=0
  ·subst h0;have hr0:r=[]:=List.eq_nil_of_length_eq_zero hr'.1;subst hr0;go_wp2;go_ret2;exact⟨.inl ⟨d,⟨HD.out,by rw[HL.out,List.append_nil]⟩,rfl⟩,hb⟩
  ·have ht':=ht.below hb ht.pos;have hr2:=hr'.mono hb.size;go_wp2_with fail;refine(first_any A' n' c' r wr ht' hr2 (by omega) (by omega)).mono ?_;rintro e w2 ⟨rfl,hb2⟩;have hb3:=hb.trans (hb2.mono hb.size);have hr3:=hr'.below (hb2.mono hb.size);cases hdec:dec r with
   | none=>
    rw[fv_none hdec];have HN:Hid (NoT l):=Lib.hid (by rw[HL.out];exact no_text HD.out (fun h=>h0 (by rw[←hr'.1,h];rfl)) hdec);clear hdec;go_wp2;go_ret2;exact⟨.inr ⟨HN.out,rfl⟩,hb3⟩
   | some p=>
    obtain⟨ch,m⟩:=p;rw[fv_some hdec];obtain⟨hC,rfl,r',hrr⟩:=dec_inv hdec;obtain⟨hlen,hdrop⟩:=en_append_len hrr;rw[hr'.1] at hlen;obtain⟨A1,c1,hc1,_,hs1,hs2,hrd⟩:=cut_from A' n' c' (fu ch+1) hlen hnc';have hr4:=hrd _ _ _ hr3;rw[hdrop] at hr4;have HL2:Hid (l=txt (d++[ch])++r'):=Lib.hid (by rw[HL.out,hrr,txt_append,txt_cons,txt_nil,List.append_nil,List.append_assoc]);have HD2:Hid (AllC (d++[ch])):=Lib.hid (HD.out.append (AllC.one hC));have hf3:=fu_le ch;have hne:(((fu ch+1:Nat):Int)==0)=false:=by simp;omega
    have hm0:0 < fu ch+1:=by omega
    clear hdec hrr hdrop hrd HL HD hC;generalize fu ch+1=m at *;have hs1':=hs1 w2 (m:Int) rfl;have hs2':=hs2 w2 (m:Int) rfl;clear hs1 hs2;go_wp2;go_roundw
    case rel=>exact⟨A1,n' - m,c1,d++[ch],r',hc1,by simp;omega,rfl,by simp,HD2.out,HL2.out,hr4,hb3⟩
    case measure=>simp[lenOf];omega
theorem right_any (A:Option Addr)(n c:Nat)(l:List Nat)(w:World)(ht:Tab w)(hr:Rd .u8 256 w w.heap.size A n l)(hnc:n≤c)(hn:n≤1099511627776) :
  Calls Tryz.prog 54 #[.slice A n c] w fun e w'=>(((∃ cs,IsT l cs)∧e=.returned (.bool true))∨(NoT l∧e=.returned (.bool false)))∧Below w.heap.size w w':=by
 go_enter Tryz.func54,Tryz.ntmps54;go_wp2_with fail;refine(count_any A n c l w ht hr hnc hn).mono ?_;rintro e w1 ⟨⟨cs,hT,rfl⟩ | ⟨hN,rfl⟩,hb⟩
 ·have HT:=Lib.hid hT;clear hT;go_wp2;go_ret;exact⟨.inl ⟨⟨cs,HT.out⟩,rfl⟩,hb⟩
 ·have HN:=Lib.hid hN;clear hN;go_wp2;go_ret;exact⟨.inr ⟨HN.out,rfl⟩,hb⟩
end Go.Proofs.YtcilmmdmkpnppaaGreatDoor.Utf
namespace Go.Proofs.YtcilmmdmkpnppaaGreatDoor.Utf
set_option maxRecDepth 100000
open Go.RowKit
theorem eqbytes_same (B B':Nat)(A A':Option Addr)(n c c':Nat)(l:List Nat)(w:World)(hr:Rd .u8 256 w B A n l)(hr':Rd .u8 256 w B' A' n l) :
  Calls Tryz.prog 11 #[.slice A n c,.slice A' n c'] w fun e w'=>e=.returned (.bool true)∧w=w':=by
 have hs1:=run_str c hr;have hs2:=run_str c' hr';go_enter Tryz.func11,Tryz.ntmps11;go_wp2;go_ret;exact⟨rfl,rfl⟩
def asc (l:List Nat):Bool:=l.all fun x=>decide (x < 128)
theorem asc_step {l:List Nat}{k x:Nat}(h:l[k]? = some x):asc (l.drop k)=(decide (x < 128)&&asc (l.drop (k+1))):=by
 rw[drop_at h];simp[asc]
theorem ascii_any (B:Nat)(A:Option Addr)(n c:Nat)(l:List Nat)(w:World)(hr:Rd .u8 256 w B A n l)(hn:n≤1099511627776) :
  Calls Tryz.prog 164 #[.slice A n c] w fun e w'=>e=.returned (.bool (asc l))∧w=w':=by
 go_enter Tryz.func164,Tryz.ntmps164;go_wp2;go_loop [7] (fun i=>∃ k:Nat,k≤n∧i=.int .i64 k∧asc l=asc (l.drop k)) (fun i=>n - (intOf i).toNat)
 case atStart=>exact⟨0,Nat.zero_le _,rfl,rfl⟩
 case round=>
  obtain⟨k,hk,rfl,ha⟩:=hrel;by_cases hlt:k < n
  ·obtain⟨b,o,x,rfl,hb,hx,hx2,hc⟩:=hr.at_ hlt;rw[asc_step hx] at ha;clear hx;by_cases h8:x < 128
   ·have HA:Hid (asc l=asc (l.drop (k+1))):=Lib.hid (by rw[ha];simp[h8]);clear ha;have d8:decide (128≤(x:Int))=false:=by simp;omega
    go_wp2;exact⟨⟨k+1,by omega,by go_num,HA.out⟩,by simp[intOf];omega⟩
   ·have HA:Hid (asc l=false):=Lib.hid (by rw[ha];simp[h8]);clear ha;have d8:decide (128≤(x:Int))=true:=by simp;omega
    go_wp2;go_ret;exact⟨by rw[HA.out];rfl,rfl⟩
  ·have HA:Hid (asc l=true):=Lib.hid (by rw[ha,List.drop_of_length_le (by rw[hr.len];omega)];rfl);clear ha;go_wp2;go_ret;exact⟨by rw[HA.out];rfl,rfl⟩
end Go.Proofs.YtcilmmdmkpnppaaGreatDoor.Utf
end
section
namespace Go.Proofs.YtcilmmdmkpnppaaGreatDoor.Val
open Go.RowKit Utf V
def sgB (half n:Nat):Bool:=decide (n < half)||decide (18446744073709551616 - half≤n)
theorem conv8 (n:Nat)(hn:n < 18446744073709551616):((n:Int)==IntKind.u64.wrap (IntKind.i8.wrap n))=sgB 128 n:=by
 rw[Bool.eq_iff_iff];simp only[beq_iff_eq,sgB,Bool.or_eq_true,decide_eq_true_eq,IntKind.wrap,IntKind.bits,IntKind.signed,Bool.true_and,Bool.false_and];simp
 split<;>omega
theorem conv16 (n:Nat)(hn:n < 18446744073709551616):((n:Int)==IntKind.u64.wrap (IntKind.i16.wrap n))=sgB 32768 n:=by
 rw[Bool.eq_iff_iff];simp only[beq_iff_eq,sgB,Bool.or_eq_true,decide_eq_true_eq,IntKind.wrap,IntKind.bits,IntKind.signed,Bool.true_and,Bool.false_and];simp
 split<;>omega
theorem conv32 (n:Nat)(hn:n < 18446744073709551616):((n:Int)==IntKind.u64.wrap (IntKind.i32.wrap n))=sgB 2147483648 n:=by
 rw[Bool.eq_iff_iff];simp only[beq_iff_eq,sgB,Bool.or_eq_true,decide_eq_true_eq,IntKind.wrap,IntKind.bits,IntKind.signed,Bool.true_and,Bool.false_and];simp
 split<;>omega
theorem conv32' (n:Nat)(hn:n < 18446744073709551616):((n:Int)==IntKind.u64.wrap (wrap32 n))=sgB 2147483648 n:=by
 rw[←conv32 n hn,show wrap32 (n:Int)=IntKind.i32.wrap n by unfold wrap32 IntKind.wrap;simp only[IntKind.bits,IntKind.signed,Bool.true_and];simp;split<;>omega]
def numB (k n:Nat):Bool:=
 if k=2 then decide (n≤1) else if k=3 then decide (n < 256) else if k=4 then decide (n < 65536) else if k=5∨k=11 then decide (n < 4294967296) else
 if k=7 then sgB 128 n else if k=8 then sgB 32768 n else if k=9 then sgB 2147483648 n else if k=13 then isC n else true
theorem dec_nat (n m:Nat):decide ((n:Int) < (m:Int))=decide (n < m):=by simp
theorem dec_nat' (n m:Nat):decide ((n:Int)≤(m:Int))=decide (n≤m):=by simp
end Go.Proofs.YtcilmmdmkpnppaaGreatDoor.Val
namespace Go.Proofs.YtcilmmdmkpnppaaGreatDoor.Val
open Go.RowKit Utf V
theorem rn2 (n:Nat)(w:World):Calls Tryz.prog 126 #[.int .u8 2,.int .u64 n] w (GivesB (decide (n≤1)) w):=by
 have HE:=Lib.hid (dec_nat' n 1);go_enter Tryz.func126,Tryz.ntmps126;go_wp2;go_ret;exact⟨congrArg (fun b=>Ending.returned (.bool b)) HE.out,Below.refl _ _⟩
theorem rn3 (n:Nat)(w:World):Calls Tryz.prog 126 #[.int .u8 3,.int .u64 n] w (GivesB (decide (n < 256)) w):=by
 have HE:=Lib.hid (dec_nat n 256);go_enter Tryz.func126,Tryz.ntmps126;go_wp2;go_ret;exact⟨congrArg (fun b=>Ending.returned (.bool b)) HE.out,Below.refl _ _⟩
theorem rn4 (n:Nat)(w:World):Calls Tryz.prog 126 #[.int .u8 4,.int .u64 n] w (GivesB (decide (n < 65536)) w):=by
 have HE:=Lib.hid (dec_nat n 65536);go_enter Tryz.func126,Tryz.ntmps126;go_wp2;go_ret;exact⟨congrArg (fun b=>Ending.returned (.bool b)) HE.out,Below.refl _ _⟩
theorem rn5 (n:Nat)(w:World):Calls Tryz.prog 126 #[.int .u8 5,.int .u64 n] w (GivesB (decide (n < 4294967296)) w):=by
 have HE:=Lib.hid (dec_nat n 4294967296);go_enter Tryz.func126,Tryz.ntmps126;go_wp2;go_ret;exact⟨congrArg (fun b=>Ending.returned (.bool b)) HE.out,Below.refl _ _⟩
theorem rn11 (n:Nat)(w:World):Calls Tryz.prog 126 #[.int .u8 11,.int .u64 n] w (GivesB (decide (n < 4294967296)) w):=by
 have HE:=Lib.hid (dec_nat n 4294967296);go_enter Tryz.func126,Tryz.ntmps126;go_wp2;go_ret;exact⟨congrArg (fun b=>Ending.returned (.bool b)) HE.out,Below.refl _ _⟩
theorem rn7 (n:Nat)(hn:n < 18446744073709551616)(w:World):Calls Tryz.prog 126 #[.int .u8 7,.int .u64 n] w (GivesB (sgB 128 n) w):=by
 have HE:=Lib.hid (conv8 n hn);clear hn;go_enter Tryz.func126,Tryz.ntmps126;go_wp2;go_ret;exact⟨congrArg (fun b=>Ending.returned (.bool b)) HE.out,Below.refl _ _⟩
theorem rn8 (n:Nat)(hn:n < 18446744073709551616)(w:World):Calls Tryz.prog 126 #[.int .u8 8,.int .u64 n] w (GivesB (sgB 32768 n) w):=by
 have HE:=Lib.hid (conv16 n hn);clear hn;go_enter Tryz.func126,Tryz.ntmps126;go_wp2;go_ret;exact⟨congrArg (fun b=>Ending.returned (.bool b)) HE.out,Below.refl _ _⟩
theorem rn9 (n:Nat)(hn:n < 18446744073709551616)(w:World):Calls Tryz.prog 126 #[.int .u8 9,.int .u64 n] w (GivesB (sgB 2147483648 n) w):=by
 have HE:=Lib.hid (conv32' n hn);clear hn;go_enter Tryz.func126,Tryz.ntmps126;go_wp2;go_ret;exact⟨congrArg (fun b=>Ending.returned (.bool b)) HE.out,Below.refl _ _⟩
theorem rn13 (n:Nat)(w:World):Calls Tryz.prog 126 #[.int .u8 13,.int .u64 n] w (GivesB (isC n) w):=by
 go_enter Tryz.func126,Tryz.ntmps126;go_wp2_with fail;refine(char_any n _).mono ?_;rintro e w1 ⟨rfl,rfl⟩;go_wp2;go_ret;exact⟨rfl,Below.refl _ _⟩
theorem rnx (k n:Nat)(w:World)(h:k≠2∧k≠3∧k≠4∧k≠5∧k≠11∧k≠7∧k≠8∧k≠9∧k≠13):Calls Tryz.prog 126 #[.int .u8 k,.int .u64 n] w (GivesB true w):=by
 have d2:((k:Int)==2)=false:=by rw[beq_eq_false_iff_ne];omega
 have d3:((k:Int)==3)=false:=by rw[beq_eq_false_iff_ne];omega
 have d4:((k:Int)==4)=false:=by rw[beq_eq_false_iff_ne];omega
 have d5:((k:Int)==5)=false:=by rw[beq_eq_false_iff_ne];omega
 have d11:((k:Int)==11)=false:=by rw[beq_eq_false_iff_ne];omega
 have d7:((k:Int)==7)=false:=by rw[beq_eq_false_iff_ne];omega
 have d8:((k:Int)==8)=false:=by rw[beq_eq_false_iff_ne];omega
 have d9:((k:Int)==9)=false:=by rw[beq_eq_false_iff_ne];omega
 have d13:((k:Int)==13)=false:=by rw[beq_eq_false_iff_ne];omega
 clear h;go_enter Tryz.func126,Tryz.ntmps126;go_wp2;go_ret;exact⟨rfl,Below.refl _ _⟩
theorem rightNumber_any (k n:Nat)(hn:n < 18446744073709551616)(w:World):Calls Tryz.prog 126 #[.int .u8 k,.int .u64 n] w (GivesB (numB k n) w):=by
 unfold numB;by_cases h2:k=2
 ·subst h2;exact rn2 n w
 rw[if_neg h2];by_cases h3:k=3
 ·subst h3;exact rn3 n w
 rw[if_neg h3];by_cases h4:k=4
 ·subst h4;exact rn4 n w
 rw[if_neg h4];by_cases h5:k=5∨k=11
 ·rw[if_pos h5];rcases h5 with rfl | rfl
  ·exact rn5 n w
  ·exact rn11 n w
 rw[if_neg h5];by_cases h7:k=7
 ·subst h7;exact rn7 n hn w
 rw[if_neg h7];by_cases h8:k=8
 ·subst h8;exact rn8 n hn w
 rw[if_neg h8];by_cases h9:k=9
 ·subst h9;exact rn9 n hn w
 rw[if_neg h9];by_cases h13:k=13
 ·subst h13;exact rn13 n w
 rw[if_neg h13];exact rnx k n w ⟨h2,h3,h4,fun h=>h5 (.inl h),fun h=>h5 (.inr h),h7,h8,h9,h13⟩
end Go.Proofs.YtcilmmdmkpnppaaGreatDoor.Val
namespace Go.Proofs.YtcilmmdmkpnppaaGreatDoor.Val
open Go.RowKit Utf V
def nb (t:ByteArray):List Nat:=t.data.toList.map UInt8.toNat
theorem nb_len (t:ByteArray):(nb t).length=t.size:=by simp[nb]
theorem conv_str (w:World)(t:ByteArray):∃ w' c,(convert 9 23 (.string t)).run Tryz.prog w=.ok (.slice (some ⟨w.heap.size,0,none⟩) t.size c) w'∧t.size≤c ∧
  Rd .u8 256 w' w'.heap.size (some ⟨w.heap.size,0,none⟩) t.size (nb t)∧Below w.heap.size w w':=by
 refine⟨_,_,Lib.run_convert_string_bytes w 9 23 5 t under9 Tryz.underlying23 Tryz.underlying5,?_,⟨nb_len t,?_,fun _=>⟨w.heap.size,0,rfl,?_,fun k hk=>?_⟩⟩,?_⟩
 ·have:=grownCap_ge w t.size 0 5;omega
 ·intro x hx;obtain⟨y,_,rfl⟩:=List.mem_map.1 hx;exact UInt8.toNat_lt y
 ·rw[Lib.bytesWorld_size];omega
 ·have hk':k < t.size:=by rw[nb_len] at hk;exact hk
  rw[Nat.zero_add,Lib.bytesWorld_cell w _ t k hk'];have hl:k < t.data.toList.length:=by simpa using hk'
  simp only[nb,List.getElem_map];rw[List.getD_eq_getElem?_getD,List.getElem?_eq_getElem hl];rfl
 ·exact⟨rfl,rfl,rfl,by rw[Lib.bytesWorld_size];omega,fun k hk=>Lib.bytesWorld_at_old w _ t k hk⟩
noncomputable def utfB (t:ByteArray):Bool:=@decide (∃ cs,IsT (nb t) cs) (Classical.propDecidable _)
theorem utfB_yes {t:ByteArray}(h:∃ cs,IsT (nb t) cs):utfB t=true:=by simp only[utfB,decide_eq_true_eq];exact h
theorem utfB_no {t:ByteArray}(h:NoT (nb t)):utfB t=false:=by
 simp only[utfB,decide_eq_false_iff_not];rintro⟨cs,hc⟩;exact h cs hc
noncomputable def textB (k:Nat)(t:ByteArray):Bool:=
 if k=15∨k=18 then decide (t.size=16) else if k=16 then decide (t.size=4) else if k=17 then decide (t.size=8) else if k=20 then utfB t else if k=21 then asc (nb t) else true
theorem eq_nat (n m:Nat):((n:Int)==(m:Int))=decide (n=m):=by
 by_cases h:n=m
 ·subst h;simp
 ·rw[decide_eq_false h,beq_eq_false_iff_ne];omega
theorem rt15 (t:ByteArray)(w:World):Calls Tryz.prog 127 #[.int .u8 15,.string t] w (GivesB (decide (t.size=16)) w):=by
 have HE:=Lib.hid (eq_nat t.size 16);go_enter Tryz.func127,Tryz.ntmps127;go_wp2;go_ret;exact⟨congrArg (fun b=>Ending.returned (.bool b)) HE.out,Below.refl _ _⟩
theorem rt18 (t:ByteArray)(w:World):Calls Tryz.prog 127 #[.int .u8 18,.string t] w (GivesB (decide (t.size=16)) w):=by
 have HE:=Lib.hid (eq_nat t.size 16);go_enter Tryz.func127,Tryz.ntmps127;go_wp2;go_ret;exact⟨congrArg (fun b=>Ending.returned (.bool b)) HE.out,Below.refl _ _⟩
theorem rt16 (t:ByteArray)(w:World):Calls Tryz.prog 127 #[.int .u8 16,.string t] w (GivesB (decide (t.size=4)) w):=by
 have HE:=Lib.hid (eq_nat t.size 4);go_enter Tryz.func127,Tryz.ntmps127;go_wp2;go_ret;exact⟨congrArg (fun b=>Ending.returned (.bool b)) HE.out,Below.refl _ _⟩
theorem rt17 (t:ByteArray)(w:World):Calls Tryz.prog 127 #[.int .u8 17,.string t] w (GivesB (decide (t.size=8)) w):=by
 have HE:=Lib.hid (eq_nat t.size 8);go_enter Tryz.func127,Tryz.ntmps127;go_wp2;go_ret;exact⟨congrArg (fun b=>Ending.returned (.bool b)) HE.out,Below.refl _ _⟩
theorem rt20 (t:ByteArray)(w:World)(ht:Tab w)(hs:t.size≤1073741824):Calls Tryz.prog 127 #[.int .u8 20,.string t] w (GivesB (utfB t) w):=by
 obtain⟨w1,c,hrun,hc,hr,hb⟩:=conv_str w t;have ht1:=ht.call hb;go_enter Tryz.func127,Tryz.ntmps127;go_wp2_with fail;refine(right_any _ _ _ _ w1 ht1 hr hc (by omega)).mono ?_;rintro e w2 ⟨⟨hT,rfl⟩ | ⟨hN,rfl⟩,hb2⟩
 ·have HB:=Lib.hid (utfB_yes hT);clear hT;go_wp2;go_ret;exact⟨by rw[HB.out];rfl,below_next hb hb2⟩
 ·have HB:=Lib.hid (utfB_no hN);clear hN;go_wp2;go_ret;exact⟨by rw[HB.out];rfl,below_next hb hb2⟩
theorem rt21 (t:ByteArray)(w:World)(hs:t.size≤1073741824):Calls Tryz.prog 127 #[.int .u8 21,.string t] w (GivesB (asc (nb t)) w):=by
 obtain⟨w1,c,hrun,hc,hr,hb⟩:=conv_str w t;go_enter Tryz.func127,Tryz.ntmps127;go_wp2_with fail;refine(ascii_any _ _ _ _ _ w1 hr (by omega)).mono ?_;rintro e w2 ⟨rfl,rfl⟩;go_wp2;go_ret;exact⟨rfl,hb⟩
theorem rtx (k:Nat)(t:ByteArray)(w:World)(h:k≠15∧k≠18∧k≠16∧k≠17∧k≠20∧k≠21):Calls Tryz.prog 127 #[.int .u8 k,.string t] w (GivesB true w):=by
 have d15:((k:Int)==15)=false:=by rw[beq_eq_false_iff_ne];omega
 have d18:((k:Int)==18)=false:=by rw[beq_eq_false_iff_ne];omega
 have d16:((k:Int)==16)=false:=by rw[beq_eq_false_iff_ne];omega
 have d17:((k:Int)==17)=false:=by rw[beq_eq_false_iff_ne];omega
 have d20:((k:Int)==20)=false:=by rw[beq_eq_false_iff_ne];omega
 have d21:((k:Int)==21)=false:=by rw[beq_eq_false_iff_ne];omega
 clear h;go_enter Tryz.func127,Tryz.ntmps127;go_wp2;go_ret;exact⟨rfl,Below.refl _ _⟩
theorem rightText_any (k:Nat)(t:ByteArray)(w:World)(ht:Tab w)(hs:t.size≤1073741824):Calls Tryz.prog 127 #[.int .u8 k,.string t] w (GivesB (textB k t) w):=by
 unfold textB;by_cases h15:k=15∨k=18
 ·rw[if_pos h15];rcases h15 with rfl | rfl
  ·exact rt15 t w
  ·exact rt18 t w
 rw[if_neg h15];by_cases h16:k=16
 ·subst h16;exact rt16 t w
 rw[if_neg h16];by_cases h17:k=17
 ·subst h17;exact rt17 t w
 rw[if_neg h17];by_cases h20:k=20
 ·subst h20;exact rt20 t w ht hs
 rw[if_neg h20];by_cases h21:k=21
 ·subst h21;exact rt21 t w hs
 rw[if_neg h21];exact rtx k t w ⟨fun h=>h15 (.inl h),fun h=>h15 (.inr h),h16,h17,h20,h21⟩
end Go.Proofs.YtcilmmdmkpnppaaGreatDoor.Val
namespace Go.Proofs.YtcilmmdmkpnppaaGreatDoor.Val
open Go.RowKit Utf V
def emptyB (t:ByteArray):Bool:=decide (t.size=0)
theorem empty_eq {t:ByteArray}(h:t.size=0):t=⟨#[]⟩:=by
 obtain⟨a⟩:=t;have:a=#[]:=by apply Array.eq_empty_of_size_eq_zero;exact h
 rw[this]
theorem empty_no {t:ByteArray}(h:¬ t.size=0):¬ t.toList=[]:=fun e=>h (by
 have e2:t=⟨#[]⟩:=ba_toList (t:=⟨#[]⟩) (by rw[e];simp);rw[e2];rfl)
noncomputable def aloneOk (k n:Nat)(t:ByteArray)(l:Nat):Bool:=
 if k=1 then decide (n=0)&&emptyB t&&decide (l=0)
 else if 2≤k∧k≤14 then emptyB t&&decide (l=0)&&numB k n
 else if 15≤k∧k≤21 then decide (n=0)&&decide (l=0)&&textB k t
 else if 22≤k∧k≤25 then decide (n=0)&&emptyB t else false
theorem empty_no' {t:ByteArray}(h:¬ t.size=0):t.toList.isEmpty=false:=by
 have:=empty_no h;cases hl:t.toList with
 | nil=>exact absurd hl this
 | cons=>rfl
theorem empty_yes:emptyB ⟨#[]⟩=true:=by simp[emptyB];rfl
theorem ra1 (n:Nat)(t:ByteArray)(A:Option Addr)(l c:Nat)(w:World) :
  Calls Tryz.prog 96 #[.agg #[.int .u8 1,.int .u64 n,.string t,.slice A l c]] w (GivesB (decide (n=0)&&emptyB t&&decide (l=0)) w):=by
 by_cases h0:n=0
 ·subst h0;by_cases h1:t.size=0
  ·obtain rfl:=empty_eq h1;clear h1;have HE:=Lib.hid (eq_nat l 0);go_enter Tryz.func96,Tryz.ntmps96;go_wp2;go_ret;exact⟨by rw[empty_yes,←HE.out];rfl,(Below.refl _ _).alloc (Nat.le_refl _) _⟩
  ·have d4:=empty_no h1;have HB:Hid (emptyB t=false):=Lib.hid (by simpa [emptyB] using h1);clear h1;go_enter Tryz.func96,Tryz.ntmps96;go_wp2;go_ret;exact⟨by rw[HB.out];rfl,(Below.refl _ _).alloc (Nat.le_refl _) _⟩
 ·have d4:((n:Int)==0)=false:=by rw[beq_eq_false_iff_ne];omega
  have HB:Hid (decide (n=0)=false):=Lib.hid (by simpa using h0);clear h0;go_enter Tryz.func96,Tryz.ntmps96;go_wp2;go_ret;exact⟨by rw[HB.out];rfl,(Below.refl _ _).alloc (Nat.le_refl _) _⟩
theorem ra2 (k n:Nat)(t:ByteArray)(A:Option Addr)(l c:Nat)(w:World)(hn:n < 18446744073709551616)(hk:2≤k∧k≤14) :
  Calls Tryz.prog 96 #[.agg #[.int .u8 k,.int .u64 n,.string t,.slice A l c]] w (GivesB (emptyB t&&decide (l=0)&&numB k n) w):=by
 have d1:((k:Int)==1)=false:=by rw[beq_eq_false_iff_ne];omega
 have d2:decide (2≤(k:Int))=true:=by simp;omega
 have d3:decide ((k:Int)≤14)=true:=by simp;omega
 clear hk;by_cases h1:t.size=0
 ·obtain rfl:=empty_eq h1;clear h1;by_cases h2:l=0
  ·subst h2;have HN:=Lib.hid hn;clear hn;go_enter Tryz.func96,Tryz.ntmps96;go_wp2_with fail;refine(rightNumber_any k n HN.out _).mono ?_;rintro e w1 ⟨rfl,hb⟩;have hb2:=below_next ((Below.refl _ _).alloc (Nat.le_refl _) _) hb;go_wp2;go_ret;exact⟨by rw[empty_yes];rfl,hb2⟩
  ·have d4:((l:Int)==0)=false:=by rw[beq_eq_false_iff_ne];omega
   have HB:Hid (decide (l=0)=false):=Lib.hid (by simpa using h2);clear h2 hn;go_enter Tryz.func96,Tryz.ntmps96;go_wp2;go_ret;exact⟨by rw[HB.out,Bool.and_false];rfl,(Below.refl _ _).alloc (Nat.le_refl _) _⟩
 ·have d4:=empty_no h1;have HB:Hid (emptyB t=false):=Lib.hid (by simpa [emptyB] using h1);clear h1 hn;go_enter Tryz.func96,Tryz.ntmps96;go_wp2;go_ret;exact⟨by rw[HB.out];rfl,(Below.refl _ _).alloc (Nat.le_refl _) _⟩
theorem ra3 (k n:Nat)(t:ByteArray)(A:Option Addr)(l c:Nat)(w:World)(ht:Tab w)(hs:t.size≤1073741824)(hk:15≤k∧k≤21) :
  Calls Tryz.prog 96 #[.agg #[.int .u8 k,.int .u64 n,.string t,.slice A l c]] w (GivesB (decide (n=0)&&decide (l=0)&&textB k t) w):=by
 have d1:((k:Int)==1)=false:=by rw[beq_eq_false_iff_ne];omega
 have d2:decide (2≤(k:Int))=true:=by simp;omega
 have d3:decide ((k:Int)≤14)=false:=by simp;omega
 have d5:decide (15≤(k:Int))=true:=by simp;omega
 have d6:decide ((k:Int)≤21)=true:=by simp;omega
 clear hk;by_cases h1:n=0
 ·subst h1;by_cases h2:l=0
  ·subst h2;go_enter Tryz.func96,Tryz.ntmps96;go_wp2_with fail;refine(rightText_any k t _ (ht.call ((Below.refl _ _).alloc (Nat.le_refl _) _)) hs).mono ?_;rintro e w1 ⟨rfl,hb⟩;have hb2:=below_next ((Below.refl _ _).alloc (Nat.le_refl _) _) hb;go_wp2;go_ret;exact⟨rfl,hb2⟩
  ·have d4:((l:Int)==0)=false:=by rw[beq_eq_false_iff_ne];omega
   have HB:Hid (decide (l=0)=false):=Lib.hid (by simpa using h2);clear h2;go_enter Tryz.func96,Tryz.ntmps96;go_wp2;go_ret;exact⟨by rw[HB.out,Bool.and_false];rfl,(Below.refl _ _).alloc (Nat.le_refl _) _⟩
 ·have d4:((n:Int)==0)=false:=by rw[beq_eq_false_iff_ne];omega
  have HB:Hid (decide (n=0)=false):=Lib.hid (by simpa using h1);clear h1;go_enter Tryz.func96,Tryz.ntmps96;go_wp2;go_ret;exact⟨by rw[HB.out];rfl,(Below.refl _ _).alloc (Nat.le_refl _) _⟩
theorem ra4 (k n:Nat)(t:ByteArray)(A:Option Addr)(l c:Nat)(w:World)(hk:22≤k∧k≤25) :
  Calls Tryz.prog 96 #[.agg #[.int .u8 k,.int .u64 n,.string t,.slice A l c]] w (GivesB (decide (n=0)&&emptyB t) w):=by
 have d1:((k:Int)==1)=false:=by rw[beq_eq_false_iff_ne];omega
 have d2:decide (2≤(k:Int))=true:=by simp;omega
 have d3:decide ((k:Int)≤14)=false:=by simp;omega
 have d5:decide (15≤(k:Int))=true:=by simp;omega
 have d6:decide ((k:Int)≤21)=false:=by simp;omega
 have d7:decide (22≤(k:Int))=true:=by simp;omega
 have d8:decide ((k:Int)≤25)=true:=by simp;omega
 clear hk;by_cases h1:n=0
 ·subst h1;by_cases h2:t.size=0
  ·obtain rfl:=empty_eq h2;clear h2;go_enter Tryz.func96,Tryz.ntmps96;go_wp2;go_ret;exact⟨by rw[empty_yes];rfl,(Below.refl _ _).alloc (Nat.le_refl _) _⟩
  ·have d4:=empty_no' h2;have HB:Hid (emptyB t=false):=Lib.hid (by simpa [emptyB] using h2);clear h2;go_enter Tryz.func96,Tryz.ntmps96;go_wp2;go_ret;exact⟨by rw[HB.out,Bool.and_false];rfl,(Below.refl _ _).alloc (Nat.le_refl _) _⟩
 ·have d4:((n:Int)==0)=false:=by rw[beq_eq_false_iff_ne];omega
  have HB:Hid (decide (n=0)=false):=Lib.hid (by simpa using h1);clear h1;go_enter Tryz.func96,Tryz.ntmps96;go_wp2;go_ret;exact⟨by rw[HB.out];rfl,(Below.refl _ _).alloc (Nat.le_refl _) _⟩
theorem ra0 (n:Nat)(t:ByteArray)(A:Option Addr)(l c:Nat)(w:World) :
  Calls Tryz.prog 96 #[.agg #[.int .u8 0,.int .u64 n,.string t,.slice A l c]] w (GivesB false w):=by
 go_enter Tryz.func96,Tryz.ntmps96;go_wp2;go_ret;exact⟨rfl,(Below.refl _ _).alloc (Nat.le_refl _) _⟩
theorem rax (k n:Nat)(t:ByteArray)(A:Option Addr)(l c:Nat)(w:World)(hk:26≤k) :
  Calls Tryz.prog 96 #[.agg #[.int .u8 k,.int .u64 n,.string t,.slice A l c]] w (GivesB false w):=by
 have d1:((k:Int)==1)=false:=by rw[beq_eq_false_iff_ne];omega
 have d2:decide (2≤(k:Int))=true:=by simp;omega
 have d3:decide ((k:Int)≤14)=false:=by simp;omega
 have d5:decide (15≤(k:Int))=true:=by simp;omega
 have d6:decide ((k:Int)≤21)=false:=by simp;omega
 have d7:decide (22≤(k:Int))=true:=by simp;omega
 have d8:decide ((k:Int)≤25)=false:=by simp;omega
 clear hk;go_enter Tryz.func96,Tryz.ntmps96;go_wp2;go_ret;exact⟨rfl,(Below.refl _ _).alloc (Nat.le_refl _) _⟩
theorem rightAlone_any (k n:Nat)(t:ByteArray)(A:Option Addr)(l c:Nat)(w:World)(ht:Tab w)(hs:t.size≤1073741824)(hn:n < 18446744073709551616) :
  Calls Tryz.prog 96 #[.agg #[.int .u8 k,.int .u64 n,.string t,.slice A l c]] w (GivesB (aloneOk k n t l) w):=by
 unfold aloneOk;by_cases h1:k=1
 ·subst h1;exact ra1 n t A l c w
 rw[if_neg h1];by_cases h2:2≤k∧k≤14
 ·rw[if_pos h2];exact ra2 k n t A l c w hn h2
 rw[if_neg h2];by_cases h3:15≤k∧k≤21
 ·rw[if_pos h3];exact ra3 k n t A l c w ht hs h3
 rw[if_neg h3];by_cases h4:22≤k∧k≤25
 ·rw[if_pos h4];exact ra4 k n t A l c w h4
 rw[if_neg h4];by_cases h0:k=0
 ·subst h0;exact ra0 n t A l c w
 ·exact rax k n t A l c w (by omega)
end Go.Proofs.YtcilmmdmkpnppaaGreatDoor.Val
end
section
namespace Go.Proofs.YtcilmmdmkpnppaaGreatDoor.Val
set_option maxRecDepth 100000
open Utf V
mutual
def alikeB:V→V→Bool
 | .mk k _ _ ks,b=>decide (k=b.kind)&&(decide (k≠25)||alikeL ks b.kids)
def alikeL:List V→List V→Bool
 | x::r,x'::r'=>same x x'&&alikeT r r'
 | _,_=>false
def alikeT:List V→List V→Bool
 | y::_,y'::_=>alikeB y y'
 | _,_=>false
end
theorem alikeB_kind {k n k' n':Nat}{t t':ByteArray}{ks ks':List V}(h:k≠k'):alikeB (.mk k n t ks) (.mk k' n' t' ks')=false:=by simp[alikeB,kind,h]
theorem alikeB_plain {k n n':Nat}{t t':ByteArray}{ks ks':List V}(h:k≠25):alikeB (.mk k n t ks) (.mk k n' t' ks')=true:=by simp[alikeB,kind,h]
theorem alikeB_desc (n n':Nat)(t t':ByteArray)(x y x' y':V)(r r':List V):alikeB (.mk 25 n t (x::y::r)) (.mk 25 n' t' (x'::y'::r'))=(same x x'&&alikeB y y'):=by simp[alikeB,alikeL,alikeT,kind,kids]
def pairsL:List V→List (V×V)
 | k::v::r=>(k,v)::pairsL r
 | _=>[]
def keysL (l:List V):List V:=(pairsL l).map (·.1)
def noDup:List V→Bool
 | []=>true
 | x::r=>noDup r && !r.any fun y=>same x y
def kidsOk (k:Nat)(ks:List V):Bool:=
 if k=23 then decide (ks.length % 2=0)&&noDup (keysL ks)
 else if k=24 then (match ks with
  | []=>true
  | x::r=>r.all fun y=>alikeB x y)
 else if k=25 then (match ks with
  | [x,_]=>nameB x.kind
  | _=>false)
 else true
mutual
noncomputable def mayB:V→Bool
 | .mk k n t ks=>mayL ks&&aloneOk k n t ks.length&&kidsOk k ks
noncomputable def mayL:List V→Bool
 | []=>true
 | v::vs=>mayB v&&mayL vs
end
noncomputable def okB (v:V):Bool:=decide (items v≤1024)&&decide (depth v≤16)&&mayB v
theorem mayL_append (a b:List V):mayL (a++b)=(mayL a&&mayL b):=by
 induction a with
 | nil=>simp[mayL]
 | cons x a ih=>simp[mayL,ih,Bool.and_assoc]
theorem mayL_take {l:List V}{i:Nat}{v:V}(h:l[i]? = some v):mayL (l.take (i+1))=(mayL (l.take i)&&mayB v):=by
 rw[take_snoc h,mayL_append];simp[mayL]
theorem mayL_mem {l:List V}(h:mayL l=true):∀ v∈l,mayB v=true:=by
 induction l with
 | nil=>intro v hv;cases hv
 | cons x l ih=>
  simp only[mayL,Bool.and_eq_true] at h;intro v hv;rcases List.mem_cons.1 hv with rfl | hv
  ·exact h.1
  ·exact ih h.2 v hv
theorem may_desc {n:Nat}{t:ByteArray}{ks:List V}(h:mayB (.mk 25 n t ks)=true):∃ x y,ks=[x,y]∧nameB x.kind=true∧mayB x=true∧mayB y=true:=by
 simp only[mayB,kidsOk,Bool.and_eq_true] at h;obtain⟨⟨h1,_⟩,h2⟩:=h;rw[if_neg (by decide),if_neg (by decide),if_pos trivial] at h2
 match ks,h1,h2 with
 | [x,y],h1,h2=>
  simp only[mayL,Bool.and_eq_true] at h1;exact⟨x,y,rfl,h2,h1.1,h1.2.1⟩
theorem may_kids {k n:Nat}{t:ByteArray}{ks:List V}(h:mayB (.mk k n t ks)=true):mayL ks=true:=by
 simp only[mayB,Bool.and_eq_true] at h;exact h.1.1
mutual
theorem alikeB_refl:∀ v:V,mayB v=true→alikeB v v=true
 | .mk k n t ks,h=>by
  by_cases hk:k=25
  ·subst hk;obtain⟨x,y,rfl,_,_,hy⟩:=may_desc h;rw[alikeB_desc,same_self,alikeB_reflL [x,y] (may_kids h) y (by simp),Bool.and_self]
  ·exact alikeB_plain hk
theorem alikeB_reflL:∀ l:List V,mayL l=true→∀ v∈l,alikeB v v=true
 | [],_,_,h=>by cases h
 | x::l,hl,v,h=>by
  simp only[mayL,Bool.and_eq_true] at hl;rcases List.mem_cons.1 h with h | h
  ·rw[h];exact alikeB_refl x hl.1
  ·exact alikeB_reflL l hl.2 v h
end
end Go.Proofs.YtcilmmdmkpnppaaGreatDoor.Val
end
section
namespace Go.Proofs.YtcilmmdmkpnppaaGreatDoor.Utf
set_option maxRecDepth 100000
open Go.ChangeShapes Go.WideShapes Go.ChangeAt Go.RowKit
theorem own:ownKnob Tryz.prog.godebug=none:=by kernel_rfl
theorem gShapes : Tryz.prog.globalNamed "bellwether/utf.shapes" = some 0 := by kernel_rfl
theorem tShapes:(Tryz.prog.globals[0]?).map (·.type)=some 202:=by kernel_rfl
theorem cells5:Tryz.prog.cellsOf 5=1:=by kernel_rfl
theorem cells36:Tryz.prog.cellsOf 22=1:=by kernel_rfl
theorem cells54:Tryz.prog.cellsOf 201=3:=by kernel_rfl
theorem cells55:Tryz.prog.cellsOf 202=12:=by kernel_rfl
abbrev laid : List (String × DataW Unit) := [("bellwether/utf.shapes", Rows.laid_bellwether_utf_shapes)]
theorem door_met (os:Os)(args:Array Value):laidMetH Tryz.prog laid ((World.doorLaid Tryz.prog 400 os).forCall (fun _ _=>0) ⟨#[],args,[]⟩).memory:=
 laidMetH_of_parts3 (fuel:=8) (laidMet_of_run' 8 (by kernel_rfl) (by kernel_rfl)) (by kernel_rfl) (by kernel_rfl)
theorem shape_of {W:World}{m:Nat}{a b c:Value}{y:DataW Unit×List MemPlace}{x0 x1 x2:Int}(h:DataW.trod (fun _=>()) Tryz.prog W 0 (fun _=>true) false m 201 [a,b,c]=some y)
  (e:y.1=.agg [.lit (.int .u32 x0),.lit (.int .u8 x1),.lit (.int .u8 x2)]):a=.int .u32 x0∧b=.int .u8 x1∧c=.int .u8 x2:=by
 obtain⟨y0,y1,y2,n,rfl,_,h0,h1,h2⟩:=Go.Deep.trod_struct3 Tryz.underlying201 h;simp only[cells36,cells5] at h0 h1 h2;obtain⟨k0,e0,f0,_⟩:=DataW.trod_int Tryz.underlying22 h0;obtain⟨k1,e1,f1,_⟩:=DataW.trod_int Tryz.underlying5 h1;obtain⟨k2,e2,f2,_⟩:=DataW.trod_int Tryz.underlying5 h2;subst f0;subst f1;subst f2;simp at e e0 e1 e2;obtain⟨rfl,rfl,rfl⟩:=e;exact⟨e0,e1,e2⟩
theorem of_laid {W:World}(h:laidMetH Tryz.prog laid W):Tab W:=by
 rw[MakeChecks.laidMetH_plain _ _ _ (by kernel_rfl)] at h;obtain⟨ps,⟨g0,t0,cs0,f0,p0,q0,hg0,ht0,hv0,hd0,_⟩,_,_⟩:=h;obtain rfl:=Option.some.inj (gShapes.symm.trans hg0);obtain rfl:=Option.some.inj (tShapes.symm.trans ht0);obtain⟨xs,m1,e1,hx1,hlen,hn3,hel⟩:=DataW.trod_array Tryz.underlying202 hd0;rw[cells55] at hlen;simp only[cells54] at hel;have hx:=congrArg Prod.fst hx1;simp only[Rows.laid_bellwether_utf_shapes,DataW.agg.injEq] at hx;obtain⟨l0⟩:=cs0;have hh0:=hel 0 (by decide);have hh1:=hel 1 (by decide);have hh2:=hel 2 (by decide);have hh3:=hel 3 (by decide);have htab:l0=tab.toList:=by
  match l0,hlen,xs,hn3,hx,hh0,hh1,hh2,hh3 with
  | [a0,a1,a2,a3,a4,a5,a6,a7,a8,a9,a10,a11],_,[y0,y1,y2,y3],_,hx,hh0,hh1,hh2,hh3=>
   simp only[List.map_cons,List.map_nil,List.cons.injEq,and_true] at hx;obtain⟨r0,r1,r2⟩:=shape_of (show DataW.trod _ Tryz.prog W 0 _ false m1 201 [a0,a1,a2]=some y0 from hh0) hx.1.symm;obtain⟨r3,r4,r5⟩:=shape_of (show DataW.trod _ Tryz.prog W 0 _ false m1 201 [a3,a4,a5]=some y1 from hh1) hx.2.1.symm;obtain⟨r6,r7,r8⟩:=shape_of (show DataW.trod _ Tryz.prog W 0 _ false m1 201 [a6,a7,a8]=some y2 from hh2) hx.2.2.1.symm;obtain⟨r9,r10,r11⟩:=shape_of (show DataW.trod _ Tryz.prog W 0 _ false m1 201 [a9,a10,a11]=some y3 from hh3) hx.2.2.2.symm;subst r0;subst r1;subst r2;subst r3;subst r4;subst r5;subst r6;subst r7;subst r8;subst r9;subst r10;subst r11;rfl
 subst htab;unfold World.var? at hv0;rw[gShapes] at hv0;simp only[Option.bind_some] at hv0
 split at hv0
 ·rename_i cs t fr hh;injection hv0 with hv0
  subst hv0;exact⟨t,fr,hh⟩
 ·cases hv0
section
variable {H:Type} {enc:TypeId×Value→H}
theorem u8_of_wf {z:Int}(h:(Lit.int .u8 z).wf=true):0≤z∧z.toNat < 256:=by
 have:0≤z∧z≤255:=by simpa [Lit.wf,IntKind.min,IntKind.max,IntKind.signed,IntKind.bits] using h
 omega
theorem open_nums {K:IntKind}{M:Nat}{t et:TypeId}(ht:Tryz.prog.underlying t=some (.slice et))(he:Tryz.prog.underlying et=some (.int K))(hce:Tryz.prog.cellsOf et=1)(hwf:∀ z:Int,(Lit.int K z).wf=true→0≤z∧z.toNat < M)
  {W:World} {r:Reach} {b0:Nat} {v:Value} {d:DataW H} {p:List MemPlace} (hval:Value.okWide Tryz.prog W r b0 t v) (h:DataW.Trod enc Tryz.prog W 0 (fun _=>true) true t v d p) (hlt:∀ x∈p,x.block < W.heap.size) :
  ∃ A n c l,v=.slice A n c∧n≤c∧c≤maxLen∧Rd K M W W.heap.size A n l:=by
 obtain⟨a0,len,cap,rfl⟩:=okWide_slice ht hval;obtain⟨fuel,hf⟩:=h;rcases open_ints ht he hce hf with ⟨hcs,hx⟩ | ⟨a,len',cap',zs,hcs,_,hl,hm,hz,hx,hcell,hwz⟩
 ·simp[Value.cells] at hcs;obtain⟨rfl,rfl,rfl⟩:=hcs;exact⟨none,0,0,[],rfl,Nat.le_refl _,by unfold maxLen;omega,Rd.zero _ _ _ _ _⟩
 ·simp[Value.cells] at hcs;obtain⟨rfl,rfl,rfl⟩:=hcs;simp only[Prod.mk.injEq] at hx;obtain⟨rfl,rfl⟩:=hx;simp only[if_true] at hz;refine⟨some a,len,cap,(zs.take len).map fun z=>z.toNat,rfl,hl,hm,by simp;omega,?_,fun hn=>?_⟩
  ·intro x hx;obtain⟨z,hz',rfl⟩:=List.mem_map.1 hx;exact(hwf z (hwz z (List.mem_of_mem_take hz'))).2
  obtain⟨b,off,spot⟩:=a;have hspot:spot=none:=by simpa [Addr.add] using World.cell?_spot (hcell 0 (by omega))
  subst hspot;refine⟨b,off,rfl,hlt (.cell b off) (MemPlace.mem_row.2 ⟨0,by omega,by simp⟩),fun k hk=>?_⟩;have hk':k < len:=by simp at hk;omega
  have hkz:k < zs.length:=by omega
  have:=hcell k hkz;rw[add_plain] at this;rw[this,List.getD_eq_getElem?_getD,List.getElem?_eq_getElem hkz,Option.getD_some,List.getElem_map,List.getElem_take];have h0:=(hwf _ (hwz _ (List.getElem_mem hkz))).1;rw[Int.toNat_of_nonneg h0]
end
theorem laidOut:laidOutB Tryz.prog=true:=by kernel_rfl
end Go.Proofs.YtcilmmdmkpnppaaGreatDoor.Utf
end
