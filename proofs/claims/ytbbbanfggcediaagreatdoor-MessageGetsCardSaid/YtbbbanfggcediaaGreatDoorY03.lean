/- Contracts, each with its premises. -/
import Derived.Test.YtbbbanfggcediaaGreatDoorY01
import Derived.LoopN
import Derived.BigQuiet
import Derived.Deep.QuietTactic
import Derived.ScopeJumps
import Derived.WalkMore
import Derived.Lib.ConvBytes
import Derived.Test.YtbbbanfggcediaaGreatDoorTie
import Derived.Test.YtbbbanfggcediaaGreatDoorCards
import Derived.ProofKit
import Derived.LaidMore
import Derived.OpenShut
import Derived.Carry
import Derived.Stop.Joined
import Derived.SevenTiedAt
import Derived.Deep.Strs
set_option maxRecDepth 1000000
set_option maxHeartbeats 8000000
namespace Go.Proofs.YtbbbanfggcediaaGreatDoor
open _root_.Go.Proofs.Tryz
open List renaming length_drop→yaY,take_of_length_le→yaZ,getElem?_eq_getElem→ya0,append_assoc→ya1,cons_append→ya3,getD_eq_getElem?_getD→ya4
open Bool renaming and_eq_true→yaX,or_eq_true→ya2
namespace Utf
open Go.RowKit
theorem zfr (n:Nat)(w:World):Calls prog 148 #[.int .u64 n] w fun e w'=>e=.returned (.bool (isC n))∧w=w':=by
 by_cases h1:n < 55296
 ·have e:isC n=true:=zfN.2 (by omega);rw[e];clear e;have d1:decide ((n:Int) < 55296)=true:=by simp;omega
  clear h1;go_enter func148,ntmps148;go_wp2;go_ret;exact⟨rfl,rfl⟩
 by_cases h2:n≤57343
 ·have e:isC n=false:=by simp[isC];omega
  rw[e];clear e;have d1:decide ((n:Int) < 55296)=false:=by simp;omega
  have d2:decide (57343 < (n:Int))=false:=by simp;omega
  clear h1 h2;go_enter func148,ntmps148;go_wp2;go_ret;exact⟨rfl,rfl⟩
 by_cases h3:n≤1114111
 ·have e:isC n=true:=zfN.2 (by omega);rw[e];clear e;have d1:decide ((n:Int) < 55296)=false:=by simp;omega
  have d2:decide (57343 < (n:Int))=true:=by simp;omega
  have d3:decide ((n:Int)≤1114111)=true:=by simp;omega
  clear h1 h2 h3;go_enter func148,ntmps148;go_wp2;go_ret;exact⟨rfl,rfl⟩
 ·have e:isC n=false:=by simp[isC];omega
  rw[e];clear e;have d1:decide ((n:Int) < 55296)=false:=by simp;omega
  have d2:decide (57343 < (n:Int))=true:=by simp;omega
  have d3:decide ((n:Int)≤1114111)=false:=by simp;omega
  clear h1 h2 h3;go_enter func148,ntmps148;go_wp2;go_ret;exact⟨rfl,rfl⟩
theorem zf0 (n:Nat)(w:World):Calls prog 144 #[.int .u64 n] w fun e w'=>e=.returned (.bool (isC n))∧w=w':=by
 by_cases h1:n < 55296
 ·have e:isC n=true:=zfN.2 (by omega);rw[e];clear e;have d1:decide ((n:Int) < 55296)=true:=by simp;omega
  clear h1;go_enter func144,ntmps144;go_wp2;go_ret;exact⟨rfl,rfl⟩
 by_cases h2:n≤57343
 ·have e:isC n=false:=by simp[isC];omega
  rw[e];clear e;have d1:decide ((n:Int) < 55296)=false:=by simp;omega
  have d2:decide (57343 < (n:Int))=false:=by simp;omega
  clear h1 h2;go_enter func144,ntmps144;go_wp2;go_ret;exact⟨rfl,rfl⟩
 by_cases h3:n≤1114111
 ·have e:isC n=true:=zfN.2 (by omega);rw[e];clear e;have d1:decide ((n:Int) < 55296)=false:=by simp;omega
  have d2:decide (57343 < (n:Int))=true:=by simp;omega
  have d3:decide ((n:Int)≤1114111)=true:=by simp;omega
  clear h1 h2 h3;go_enter func144,ntmps144;go_wp2;go_ret;exact⟨rfl,rfl⟩
 ·have e:isC n=false:=by simp[isC];omega
  rw[e];clear e;have d1:decide ((n:Int) < 55296)=false:=by simp;omega
  have d2:decide (57343 < (n:Int))=true:=by simp;omega
  have d3:decide ((n:Int)≤1114111)=false:=by simp;omega
  clear h1 h2 h3;go_enter func144,ntmps144;go_wp2;go_ret;exact⟨rfl,rfl⟩
theorem zf1 (c:Nat)(w:World)(ht:Tab w):Calls prog 149 #[.int .u32 c] w fun e w'=>e=.returned (.int .i64 (fu c))∧w=w':=by
 have c0:w.cell? ⟨0,0,none⟩=some (.int .u32 127):=ht.cell 0;have c1:w.cell? ⟨0,3,none⟩=some (.int .u32 2047):=ht.cell 3;have c2:w.cell? ⟨0,6,none⟩=some (.int .u32 65535):=ht.cell 6;clear ht;by_cases h1:c≤127
 ·have e:fu c=0:=by simp[fu,h1]
  rw[e];clear e;have d0:decide (127 < (c:Int))=false:=by simp;omega
  clear h1;go_enter func149,ntmps149;go_wp2;refine wp_loop_rounds 1 ?_;rw[rounds_succ];go_wp2;go_ret;exact⟨rfl,rfl⟩
 by_cases h2:c≤2047
 ·have e:fu c=1:=by simp[fu,h1,h2]
  rw[e];clear e;have d0:decide (127 < (c:Int))=true:=by simp;omega
  have d1:decide (2047 < (c:Int))=false:=by simp;omega
  clear h1 h2;go_enter func149,ntmps149;go_wp2;refine wp_loop_rounds 2 ?_;rw[rounds_succ];go_wp2;rw[rounds_succ];go_wp2;go_ret;exact⟨rfl,rfl⟩
 by_cases h3:c≤65535
 ·have e:fu c=2:=by simp[fu,h1,h2,h3]
  rw[e];clear e;have d0:decide (127 < (c:Int))=true:=by simp;omega
  have d1:decide (2047 < (c:Int))=true:=by simp;omega
  have d2:decide (65535 < (c:Int))=false:=by simp;omega
  clear h1 h2 h3;go_enter func149,ntmps149;go_wp2;refine wp_loop_rounds 3 ?_;rw[rounds_succ];go_wp2;rw[rounds_succ];go_wp2;rw[rounds_succ];go_wp2;go_ret;exact⟨rfl,rfl⟩
 ·have e:fu c=3:=by simp[fu,h1,h2,h3]
  rw[e];clear e;have d0:decide (127 < (c:Int))=true:=by simp;omega
  have d1:decide (2047 < (c:Int))=true:=by simp;omega
  have d2:decide (65535 < (c:Int))=true:=by simp;omega
  clear h1 h2 h3;go_enter func149,ntmps149;go_wp2;refine wp_loop_rounds 4 ?_;rw[rounds_succ];go_wp2;rw[rounds_succ];go_wp2;rw[rounds_succ];go_wp2;rw[rounds_succ];go_wp2;go_ret;exact⟨rfl,rfl⟩
theorem an (o m:Nat)(ho:o < 256)(hm:m < 256):bits .andNot .u8 (o:Int) (m:Int)=((o &&& (255 - m):Nat):Int):=u8_andNot_nat o m ho hm
theorem aw (o m:Nat)(ho:o < 256)(hm:m < 256):bits .and .u8 (o:Int) (m:Int)=((o &&& m:Nat):Int):=u8_and_nat o m ho hm
theorem fa0:∀ o:Fin 256,((o.val &&& (255 - 127))==0)=decide (o.val < 128):=by decide +kernel
theorem fa1:∀ o:Fin 256,((o.val &&& (255 - 31))==192)=(decide (192≤o.val)&&decide (o.val < 224)):=by decide +kernel
theorem fa2:∀ o:Fin 256,((o.val &&& (255 - 15))==224)=(decide (224≤o.val)&&decide (o.val < 240)):=by decide +kernel
theorem fa3:∀ o:Fin 256,((o.val &&& (255 - 7))==240)=(decide (240≤o.val)&&decide (o.val < 248)):=by decide +kernel
theorem fm0:∀ o:Fin 256,o.val < 128→(o.val &&& 127)=o.val:=by decide +kernel
theorem fm1:∀ o:Fin 256,192≤o.val→o.val < 224→(o.val &&& 31)=o.val - 192:=by decide +kernel
theorem fm2:∀ o:Fin 256,224≤o.val→o.val < 240→(o.val &&& 15)=o.val - 224:=by decide +kernel
theorem fm3:∀ o:Fin 256,240≤o.val→o.val < 248→(o.val &&& 7)=o.val - 240:=by decide +kernel
theorem eqb (a b:Nat):(((a:Nat):Int)==((b:Nat):Int))=(a==b):=by
 rw[Bool.eq_iff_iff];simp;omega
theorem ea0 (o:Nat)(h:o < 256):(bits .andNot .u8 (o:Int) 127==0)=decide (o < 128):=by
 rw[show (127:Int)=((127:Nat):Int) from rfl,an o 127 h (by omega),show (0:Int)=((0:Nat):Int) from rfl,eqb];exact fa0 ⟨o,h⟩
theorem ea1 (o:Nat)(h:o < 256):(bits .andNot .u8 (o:Int) 31==192)=(decide (192≤o)&&decide (o < 224)):=by
 rw[show (31:Int)=((31:Nat):Int) from rfl,an o 31 h (by omega),show (192:Int)=((192:Nat):Int) from rfl,eqb];exact fa1 ⟨o,h⟩
theorem ea2 (o:Nat)(h:o < 256):(bits .andNot .u8 (o:Int) 15==224)=(decide (224≤o)&&decide (o < 240)):=by
 rw[show (15:Int)=((15:Nat):Int) from rfl,an o 15 h (by omega),show (224:Int)=((224:Nat):Int) from rfl,eqb];exact fa2 ⟨o,h⟩
theorem ea3 (o:Nat)(h:o < 256):(bits .andNot .u8 (o:Int) 7==240)=(decide (240≤o)&&decide (o < 248)):=by
 rw[show (7:Int)=((7:Nat):Int) from rfl,an o 7 h (by omega),show (240:Int)=((240:Nat):Int) from rfl,eqb];exact fa3 ⟨o,h⟩
theorem newly {w w':World}(h:Below w.heap.size w w')(o:Obj):Below w.heap.size w (w'.alloc o):=h.alloc h.size o
theorem drewly {B:Nat}{w w':World}(h:Below B w w')(k:Nat):Below B w (w'.drewN k):=⟨h.os,h.tape,h.output,h.size,h.block⟩
def leadv (o:Nat):Value:=match ld o with
 | none=>.tuple #[.int .i64 0,.int .u32 0,.bool false]
 | some (n,c)=>.tuple #[.int .i64 (n:Nat),.int .u32 (c:Nat),.bool true]
theorem idx0:∀ W:World,(Instr.index 186 (.agg #[.int .u32 127,.int .u8 0,.int .u8 127,.int .u32 2047,.int .u8 192,.int .u8 31,.int .u32 65535,.int .u8 224,.int .u8 15,.int .u32 1114111,.int .u8 240,.int .u8 7]) (.int .i64 0)).run prog W=.ok (.agg #[.int .u32 127,.int .u8 0,.int .u8 127]) W:=fun W=>by kernel_rfl
theorem idx1:∀ W:World,(Instr.index 186 (.agg #[.int .u32 127,.int .u8 0,.int .u8 127,.int .u32 2047,.int .u8 192,.int .u8 31,.int .u32 65535,.int .u8 224,.int .u8 15,.int .u32 1114111,.int .u8 240,.int .u8 7]) (.int .i64 1)).run prog W=.ok (.agg #[.int .u32 2047,.int .u8 192,.int .u8 31]) W:=fun W=>by kernel_rfl
theorem idx2:∀ W:World,(Instr.index 186 (.agg #[.int .u32 127,.int .u8 0,.int .u8 127,.int .u32 2047,.int .u8 192,.int .u8 31,.int .u32 65535,.int .u8 224,.int .u8 15,.int .u32 1114111,.int .u8 240,.int .u8 7]) (.int .i64 2)).run prog W=.ok (.agg #[.int .u32 65535,.int .u8 224,.int .u8 15]) W:=fun W=>by kernel_rfl
theorem idx3:∀ W:World,(Instr.index 186 (.agg #[.int .u32 127,.int .u8 0,.int .u8 127,.int .u32 2047,.int .u8 192,.int .u8 31,.int .u32 65535,.int .u8 224,.int .u8 15,.int .u32 1114111,.int .u8 240,.int .u8 7]) (.int .i64 3)).run prog W=.ok (.agg #[.int .u32 1114111,.int .u8 240,.int .u8 7]) W:=fun W=>by kernel_rfl
theorem ztI (o:Nat)(ho:o < 256)(h:o < 128)(w:World)(ht:Tab w):Calls prog 147 #[.int .u8 o] w fun e w'=>e=.returned (leadv o)∧Below w.heap.size w w':=by
 have c0:w.cell? ⟨0,0,none⟩=some (.int .u32 127):=ht.cell 0;have c1:w.cell? ⟨0,1,none⟩=some (.int .u8 0):=ht.cell 1;have c2:w.cell? ⟨0,2,none⟩=some (.int .u8 127):=ht.cell 2;have c3:w.cell? ⟨0,3,none⟩=some (.int .u32 2047):=ht.cell 3;have c4:w.cell? ⟨0,4,none⟩=some (.int .u8 192):=ht.cell 4;have c5:w.cell? ⟨0,5,none⟩=some (.int .u8 31):=ht.cell 5;have c6:w.cell? ⟨0,6,none⟩=some (.int .u32 65535):=ht.cell 6;have c7:w.cell? ⟨0,7,none⟩=some (.int .u8 224):=ht.cell 7;have c8:w.cell? ⟨0,8,none⟩=some (.int .u8 15):=ht.cell 8;have c9:w.cell? ⟨0,9,none⟩=some (.int .u32 1114111):=ht.cell 9;have c10:w.cell? ⟨0,10,none⟩=some (.int .u8 240):=ht.cell 10;have c11:w.cell? ⟨0,11,none⟩=some (.int .u8 7):=ht.cell 11;clear ht;have x0:=idx0;have hv:leadv o=.tuple #[.int .i64 0,.int .u32 (o:Nat),.bool true]:=by
  have:ld o=some (0,o):=by unfold ld;simp[h]
  simp[leadv,this]
 have hm:bits .and .u8 (o:Int) 127=((o:Nat):Int):=by rw[show (127:Int)=((127:Nat):Int) from rfl,aw o 127 ho (by omega)];exact congrArg Nat.cast (fm0 ⟨o,ho⟩ h)
 rw[hv];clear hv;have b0:(bits .andNot .u8 (o:Int) 127==0)=true:=by rw[ea0 o ho];simp;omega
 clear h;go_enter func147,ntmps147;go_wp2;refine wp_loop_rounds 1 ?_;rw[rounds_succ];go_wp2;go_quiet (fail);go_wp2;go_ret3;exact⟨rfl,drewly (newly (Below.refl _ w) _) _⟩
theorem ztJ (o:Nat)(ho:o < 256)(h:192≤o∧o < 224)(w:World)(ht:Tab w):Calls prog 147 #[.int .u8 o] w fun e w'=>e=.returned (leadv o)∧Below w.heap.size w w':=by
 have c0:w.cell? ⟨0,0,none⟩=some (.int .u32 127):=ht.cell 0;have c1:w.cell? ⟨0,1,none⟩=some (.int .u8 0):=ht.cell 1;have c2:w.cell? ⟨0,2,none⟩=some (.int .u8 127):=ht.cell 2;have c3:w.cell? ⟨0,3,none⟩=some (.int .u32 2047):=ht.cell 3;have c4:w.cell? ⟨0,4,none⟩=some (.int .u8 192):=ht.cell 4;have c5:w.cell? ⟨0,5,none⟩=some (.int .u8 31):=ht.cell 5;have c6:w.cell? ⟨0,6,none⟩=some (.int .u32 65535):=ht.cell 6;have c7:w.cell? ⟨0,7,none⟩=some (.int .u8 224):=ht.cell 7;have c8:w.cell? ⟨0,8,none⟩=some (.int .u8 15):=ht.cell 8;have c9:w.cell? ⟨0,9,none⟩=some (.int .u32 1114111):=ht.cell 9;have c10:w.cell? ⟨0,10,none⟩=some (.int .u8 240):=ht.cell 10;have c11:w.cell? ⟨0,11,none⟩=some (.int .u8 7):=ht.cell 11;clear ht;have x0:=idx0;have x1:=idx1;have hv:leadv o=.tuple #[.int .i64 1,.int .u32 ((o - 192):Nat),.bool true]:=by
  have:ld o=some (1,(o - 192)):=by unfold ld;rw[if_neg (by omega),if_neg (by omega),if_pos (by omega)]
  simp[leadv,this]
 have hm:bits .and .u8 (o:Int) 31=(((o - 192):Nat):Int):=by rw[show (31:Int)=((31:Nat):Int) from rfl,aw o 31 ho (by omega)];exact congrArg Nat.cast (fm1 ⟨o,ho⟩ h.1 h.2)
 rw[hv];clear hv;have b0:(bits .andNot .u8 (o:Int) 127==0)=false:=by rw[ea0 o ho];simp;omega
 have b1:(bits .andNot .u8 (o:Int) 31==192)=true:=by rw[ea1 o ho];simp;omega
 clear h;go_enter func147,ntmps147;go_wp2;refine wp_loop_rounds 2 ?_;rw[rounds_succ];go_wp2;rw[rounds_succ];go_wp2;go_quiet (fail);go_wp2;go_ret3;exact⟨rfl,drewly (newly (newly (Below.refl _ w) _) _) _⟩
theorem ztK (o:Nat)(ho:o < 256)(h:224≤o∧o < 240)(w:World)(ht:Tab w):Calls prog 147 #[.int .u8 o] w fun e w'=>e=.returned (leadv o)∧Below w.heap.size w w':=by
 have c0:w.cell? ⟨0,0,none⟩=some (.int .u32 127):=ht.cell 0;have c1:w.cell? ⟨0,1,none⟩=some (.int .u8 0):=ht.cell 1;have c2:w.cell? ⟨0,2,none⟩=some (.int .u8 127):=ht.cell 2;have c3:w.cell? ⟨0,3,none⟩=some (.int .u32 2047):=ht.cell 3;have c4:w.cell? ⟨0,4,none⟩=some (.int .u8 192):=ht.cell 4;have c5:w.cell? ⟨0,5,none⟩=some (.int .u8 31):=ht.cell 5;have c6:w.cell? ⟨0,6,none⟩=some (.int .u32 65535):=ht.cell 6;have c7:w.cell? ⟨0,7,none⟩=some (.int .u8 224):=ht.cell 7;have c8:w.cell? ⟨0,8,none⟩=some (.int .u8 15):=ht.cell 8;have c9:w.cell? ⟨0,9,none⟩=some (.int .u32 1114111):=ht.cell 9;have c10:w.cell? ⟨0,10,none⟩=some (.int .u8 240):=ht.cell 10;have c11:w.cell? ⟨0,11,none⟩=some (.int .u8 7):=ht.cell 11;clear ht;have x0:=idx0;have x1:=idx1;have x2:=idx2;have hv:leadv o=.tuple #[.int .i64 2,.int .u32 ((o - 224):Nat),.bool true]:=by
  have:ld o=some (2,(o - 224)):=by unfold ld;rw[if_neg (by omega),if_neg (by omega),if_neg (by omega),if_pos (by omega)]
  simp[leadv,this]
 have hm:bits .and .u8 (o:Int) 15=(((o - 224):Nat):Int):=by rw[show (15:Int)=((15:Nat):Int) from rfl,aw o 15 ho (by omega)];exact congrArg Nat.cast (fm2 ⟨o,ho⟩ h.1 h.2)
 rw[hv];clear hv;have b0:(bits .andNot .u8 (o:Int) 127==0)=false:=by rw[ea0 o ho];simp;omega
 have b1:(bits .andNot .u8 (o:Int) 31==192)=false:=by rw[ea1 o ho];simp;omega
 have b2:(bits .andNot .u8 (o:Int) 15==224)=true:=by rw[ea2 o ho];simp;omega
 clear h;go_enter func147,ntmps147;go_wp2;refine wp_loop_rounds 3 ?_;rw[rounds_succ];go_wp2;rw[rounds_succ];go_wp2;rw[rounds_succ];go_wp2;go_quiet (fail);go_wp2;go_ret3;exact⟨rfl,drewly (newly (newly (newly (Below.refl _ w) _) _) _) _⟩
theorem ztL (o:Nat)(ho:o < 256)(h:240≤o∧o < 248)(w:World)(ht:Tab w):Calls prog 147 #[.int .u8 o] w fun e w'=>e=.returned (leadv o)∧Below w.heap.size w w':=by
 have c0:w.cell? ⟨0,0,none⟩=some (.int .u32 127):=ht.cell 0;have c1:w.cell? ⟨0,1,none⟩=some (.int .u8 0):=ht.cell 1;have c2:w.cell? ⟨0,2,none⟩=some (.int .u8 127):=ht.cell 2;have c3:w.cell? ⟨0,3,none⟩=some (.int .u32 2047):=ht.cell 3;have c4:w.cell? ⟨0,4,none⟩=some (.int .u8 192):=ht.cell 4;have c5:w.cell? ⟨0,5,none⟩=some (.int .u8 31):=ht.cell 5;have c6:w.cell? ⟨0,6,none⟩=some (.int .u32 65535):=ht.cell 6;have c7:w.cell? ⟨0,7,none⟩=some (.int .u8 224):=ht.cell 7;have c8:w.cell? ⟨0,8,none⟩=some (.int .u8 15):=ht.cell 8;have c9:w.cell? ⟨0,9,none⟩=some (.int .u32 1114111):=ht.cell 9;have c10:w.cell? ⟨0,10,none⟩=some (.int .u8 240):=ht.cell 10;have c11:w.cell? ⟨0,11,none⟩=some (.int .u8 7):=ht.cell 11;clear ht;have x0:=idx0;have x1:=idx1;have x2:=idx2;have x3:=idx3;have hv:leadv o=.tuple #[.int .i64 3,.int .u32 ((o - 240):Nat),.bool true]:=by
  have:ld o=some (3,(o - 240)):=by unfold ld;rw[if_neg (by omega),if_neg (by omega),if_neg (by omega),if_neg (by omega),if_pos (by omega)]
  simp[leadv,this]
 have hm:bits .and .u8 (o:Int) 7=(((o - 240):Nat):Int):=by rw[show (7:Int)=((7:Nat):Int) from rfl,aw o 7 ho (by omega)];exact congrArg Nat.cast (fm3 ⟨o,ho⟩ h.1 h.2)
 rw[hv];clear hv;have b0:(bits .andNot .u8 (o:Int) 127==0)=false:=by rw[ea0 o ho];simp;omega
 have b1:(bits .andNot .u8 (o:Int) 31==192)=false:=by rw[ea1 o ho];simp;omega
 have b2:(bits .andNot .u8 (o:Int) 15==224)=false:=by rw[ea2 o ho];simp;omega
 have b3:(bits .andNot .u8 (o:Int) 7==240)=true:=by rw[ea3 o ho];simp;omega
 clear h;go_enter func147,ntmps147;go_wp2;refine wp_loop_rounds 4 ?_;rw[rounds_succ];go_wp2;rw[rounds_succ];go_wp2;rw[rounds_succ];go_wp2;rw[rounds_succ];go_wp2;go_quiet (fail);go_wp2;go_ret3;exact⟨rfl,drewly (newly (newly (newly (newly (Below.refl _ w) _) _) _) _) _⟩
theorem ztM (o:Nat)(ho:o < 256)(h:(128≤o∧o < 192)∨248≤o)(w:World)(ht:Tab w):Calls prog 147 #[.int .u8 o] w fun e w'=>e=.returned (leadv o)∧Below w.heap.size w w':=by
 have c0:w.cell? ⟨0,0,none⟩=some (.int .u32 127):=ht.cell 0;have c1:w.cell? ⟨0,1,none⟩=some (.int .u8 0):=ht.cell 1;have c2:w.cell? ⟨0,2,none⟩=some (.int .u8 127):=ht.cell 2;have c3:w.cell? ⟨0,3,none⟩=some (.int .u32 2047):=ht.cell 3;have c4:w.cell? ⟨0,4,none⟩=some (.int .u8 192):=ht.cell 4;have c5:w.cell? ⟨0,5,none⟩=some (.int .u8 31):=ht.cell 5;have c6:w.cell? ⟨0,6,none⟩=some (.int .u32 65535):=ht.cell 6;have c7:w.cell? ⟨0,7,none⟩=some (.int .u8 224):=ht.cell 7;have c8:w.cell? ⟨0,8,none⟩=some (.int .u8 15):=ht.cell 8;have c9:w.cell? ⟨0,9,none⟩=some (.int .u32 1114111):=ht.cell 9;have c10:w.cell? ⟨0,10,none⟩=some (.int .u8 240):=ht.cell 10;have c11:w.cell? ⟨0,11,none⟩=some (.int .u8 7):=ht.cell 11;clear ht;have x0:=idx0;have x1:=idx1;have x2:=idx2;have x3:=idx3;have hv:leadv o=.tuple #[.int .i64 0,.int .u32 0,.bool false]:=by
  have:ld o=none:=by
   unfold ld;by_cases h2:o < 192
   ·rw[if_neg (by omega),if_pos h2]
   ·rw[if_neg (by omega),if_neg (by omega),if_neg (by omega),if_neg (by omega),if_neg (by omega)]
  simp[leadv,this]
 rw[hv];clear hv;have b0:(bits .andNot .u8 (o:Int) 127==0)=false:=by rw[ea0 o ho];simp;omega
 have b1:(bits .andNot .u8 (o:Int) 31==192)=false:=by rw[ea1 o ho];simp;omega
 have b2:(bits .andNot .u8 (o:Int) 15==224)=false:=by rw[ea2 o ho];simp;omega
 have b3:(bits .andNot .u8 (o:Int) 7==240)=false:=by rw[ea3 o ho];simp;omega
 clear h;go_enter func147,ntmps147;go_wp2;refine wp_loop_rounds 5 ?_;rw[rounds_succ];go_wp2;rw[rounds_succ];go_wp2;rw[rounds_succ];go_wp2;rw[rounds_succ];go_wp2;rw[rounds_succ];go_wp2;go_ret3;exact⟨rfl,(newly (newly (newly (newly (Below.refl _ w) _) _) _) _)⟩
theorem zpC (o:Nat)(ho:o < 256)(w:World)(ht:Tab w):Calls prog 147 #[.int .u8 o] w fun e w'=>e=.returned (leadv o)∧Below w.heap.size w w':=by
 by_cases h0:o < 128
 ·exact ztI o ho h0 w ht
 by_cases h1:192≤o∧o < 224
 ·exact ztJ o ho h1 w ht
 by_cases h2:224≤o∧o < 240
 ·exact ztK o ho h2 w ht
 by_cases h3:240≤o∧o < 248
 ·exact ztL o ho h3 w ht
 ·exact ztM o ho (by omega) w ht
theorem fc63:∀ x:Fin 256,((x.val &&& (255 - 63))==128)=cont x.val:=by decide +kernel
theorem fm63:∀ x:Fin 256,cont x.val=true→(x.val &&& 63)=x.val - 128:=by decide +kernel
theorem ne63 (x:Nat)(h:x < 256):(bits .andNot .u8 (x:Int) 63 != 128) = !cont x:=by
 have:(bits .andNot .u8 (x:Int) 63==128)=cont x:=by
  rw[show (63:Int)=((63:Nat):Int) from rfl,an x 63 h (by omega),show (128:Int)=((128:Nat):Int) from rfl,eqb];exact fc63 ⟨x,h⟩
 rw[bne,this]
theorem and63 (x:Nat)(h:x < 256)(hc:cont x=true):bits .and .u8 (x:Int) 63=((x - 128:Nat):Int):=by
 rw[show (63:Int)=((63:Nat):Int) from rfl,aw x 63 h (by omega)];exact congrArg Nat.cast (fm63 ⟨x,h⟩ hc)
theorem or6 (c y:Nat)(hc:c < 67108864)(hy:y < 64):bits .or .u32 ((c:Int) * 64) (y:Int)=((c * 64+y:Nat):Int):=by
 have e:(c:Int) * 64=((c * 64:Nat):Int):=by simp
 rw[e,u32_or_nat _ _ (by omega) (by omega),nat_join 6 (c * 64) y (by omega) hy]
theorem zrZ {x:Nat}(h:cont x=true):128≤x∧x < 192:=by simpa [cont] using h
def fv (l:Lz):Value:=match dec l with
 | none=>.tuple #[.int .u32 0,.int .i64 0]
 | some (c,m)=>.tuple #[.int .u32 (c:Nat),.int .i64 (m:Nat)]
theorem zeZ {l:Lz}(h:dec l=none):fv l=.tuple #[.int .u32 0,.int .i64 0]:=by simp[fv,h]
theorem zmK {l:Lz}{c m:Nat}(h:dec l=some (c,m)):fv l=.tuple #[.int .u32 (c:Nat),.int .i64 (m:Nat)]:=by simp[fv,h]
theorem zpD {o:Nat}{r:Lz}(h:ld o=none):dec (o::r)=none:=by simp[dec,h]
theorem zfe {o n c:Nat}{r:Lz}(h:ld o=some (n,c))(hg:gon n c r=none):dec (o::r)=none:=by simp only[dec,h,hg]
theorem zil {o n c d:Nat}{r:Lz}(h:ld o=some (n,c))(hg:gon n c r=some d):dec (o::r)=if fits n d then some (d,n+1) else none:=by simp only[dec,h,hg]
theorem zkt {o n c:Nat}(h:ld o=some (n,c))(ho:o < 256):n≤3∧c < 128∧(n=0∨c < 32):=by
 unfold ld at h
 split at h
 ·cases h;omega
 split at h
 ·cases h
 split at h
 ·cases h;omega
 split at h
 ·cases h;omega
 split at h
 ·cases h;omega
 ·cases h
theorem zim:∀ (n c:Nat) (r:Lz),r.length < n→gon n c r=none
 | 0,_,_,h=>by omega
 | n+1,c,[],_=>rfl
 | n+1,c,x::r,h=>by
  unfold gon
  split
  ·exact zim n _ r (by simp at h;omega)
  ·rfl
theorem zpE {n c x:Nat}{r:Lz}(h:cont x=true):gon (n+1) c (x::r)=gon n (c * 64+(x - 128)) r:=by simp[gon,h]
theorem zpF {n c x:Nat}{r:Lz}(h:cont x=false):gon (n+1) c (x::r)=none:=by simp[gon,h]
theorem zbB {l:Lz}{k x:Nat}(h:l[k]? = some x):l.drop k=x::l.drop (k+1):=by
 obtain⟨hk,rfl⟩:=List.getElem?_eq_some_iff.1 h;exact List.drop_eq_getElem_cons hk
def Jmp (w:World)(b o n c x:Nat)(l:Lz)(a':Act)(w':World):Prop:=
 ∃ m c0 j c1:Nat,ld x=some (m,c0)∧m < n∧j≤m∧(m=0∨c1 < 32 * 64 ^ j)∧c1 < 8388608∧gon m c0 (l.drop 1)=gon (m - j) c1 (l.drop (j+1))∧Rd .u8 256 w' w.heap.size (some ⟨b,o,none⟩) n l∧Tab w'∧Below w.heap.size w w' ∧
  ∃ u1 u2 u3 u6 u8 u9 u10 u11 u12 u13 u14 u15 u16 u17 u18 u19 u20 u21 u22 u23 u24 u25 u26 u27 u28 u29 u30 u31 u32 u33 u34 u35 u36 u37 u38 u39 u40 u41 u42 u43 u44 u45 u46 u47 u48 u49 u50 u51 u52 u53 u54 u55 u56:Value,a'={ tmps:=#[.slice (some ⟨b,o,none⟩) n c,u1,u2,u3,.int .i64 (m:Nat),.int .u32 (c1:Nat),u6,.int .i64 ((j:Int)+1),u8,u9,u10,u11,u12,u13,u14,u15,u16,u17,u18,u19,u20,u21,u22,u23,u24,u25,u26,u27,u28,u29,u30,u31,u32,u33,u34,u35,u36,u37,u38,u39,u40,u41,u42,u43,u44,u45,u46,u47,u48,u49,u50,u51,u52,u53,u54,u55,u56],defers:=[] }
def ztN (a':Act):Nat:=5 - (intOf (a'.tmps.getD 7 undef)).toNat
theorem zjM {P:Program}{a:Act}{w:World}{Q:Exit→Act→World→Prop}{c rest:Code}(l:Nat)(J:Act→World→Prop)(μ:Act→World→Nat)(hf:findLabel c l=some (Code.skip.seq rest))
  (pass:∀ a w,J a w→rest.wp P (Exit.jump l (fun a' w'=>J a' w'∧μ a' w' < μ a w) Q) a w)
  (first:(∀ a w,J a w→rest.wp P (Exit.jump l J Q) a w)→c.wp P (Exit.jump l J Q) a w):(Code.scope c).wp P Q a w:=
 wp_scope_jumps l J μ hf (first fun a w h=>wp_mono (pass a w h) fun e a' w' hq=>by
  cases e with
  | goto l'=>exact⟨hq.1,hq.2.1⟩
  | _=>exact hq) fun a w h=>wp_seq (wp_skip (pass a w h))
theorem zdD {l:Nat}{J:Act→World→Prop}{Q:Exit→Act→World→Prop}{a:Act}{w:World}:Exit.jump l J Q .ret a w=Q .ret a w:=rfl
theorem zlA {m j c1 y:Nat}(hm:m≤3)(hj:j < m)(h:m=0∨c1 < 32 * 64 ^ j)(hy:y < 64):c1 < 131072∧(m=0∨c1 * 64+y < 32 * 64 ^ (j+1))∧c1 * 64+y < 8388608:=by
 have h':c1 < 32 * 64 ^ j:=by omega
 have:j=0∨j=1∨j=2:=by omega
 rcases this with rfl | rfl | rfl<;>simp at h' ⊢<;>omega
theorem zr0 (b o n c:Nat)(l:Lz)(w:World)(ht:Tab w)(hr:Rd .u8 256 w w.heap.size (some ⟨b,o,none⟩) n l)(hn:0 < n)(Kk:n≤4611686018427387904):Calls prog 124 #[.slice (some ⟨b,o,none⟩) n c] w fun e w'=>e=.returned (fv l)∧Below w.heap.size w w':=by
 obtain⟨b',o',x,e,hb,hx,GQ,hc⟩:=hr.at_ hn;injection e with e
 injection e with e1 e2
 subst e1;subst e2;have hl:l=x::l.drop 1:=by simpa using zbB hx
 have HL:=zaa hl;have hlen:=hr.len;clear hx;rw[Nat.add_zero] at hc;go_enter func124,ntmps124;go_wp2;refine zjM 0 (Jmp w b o n c x l) (fun a' _=>ztN a') rfl ?_ ?_
 ·rintro a' w' ⟨m,c0,j,c1,jF,YH,hj,Jf,hc23,hg,ko,YO,j0,u1,u2,u3,u6,u8,u9,u10,u11,u12,u13,u14,u15,u16,u17,u18,u19,u20,u21,u22,u23,u24,u25,u26,u27,u28,u29,u30,u31,u32,u33,u34,u35,u36,u37,u38,u39,u40,u41,u42,u43,u44,u45,u46,u47,u48,u49,u50,u51,u52,u53,u54,u55,u56,rfl⟩;clear hc;have kS:=zkt jF GQ;by_cases xh:j < m
  ·obtain⟨b',o',y,e,KO,hy,Qh,UT⟩:=ko.at_ (k:=j+1) (by omega);injection e with e
   injection e with e1 e2
   subst e1;subst e2;have Hp:=ne63 y Qh;have hD:=zbB hy;have UU:m - j=(m - j - 1)+1:=by omega
   rw[hD,UU] at hg;by_cases ja:cont y=true
   ·rw[ja] at Hp;have hand:=and63 y Qh ja;rw[zpE ja] at hg;obtain⟨z,hz⟩:∃ z,y - 128=z:=⟨_,rfl⟩;have uR:z < 64:=by have:=zrZ ja;omega
    rw[hz] at hand hg;obtain⟨hc17,Js,hc23'⟩:=zlA kS.1 xh Jf uR;have HO:=zaa (or6 c1 z (by omega) uR);have HG:Hid (gon m c0 (List.drop 1 l)=gon (m - (j+1)) (c1 * 64+z) (l.drop (j+1+1))):=zaa (by rw[hg,Nat.sub_sub]);have HB:=zaa Js;have HE:=zaa jF;clear Js hz hg hD UU Jf hy ja jF;have Qi:m≤3:=kS.1;clear kS;go_wp2;go_step3;rw[HO.out];refine⟨rfl,⟨m,c0,j+1,c1 * 64+z,HE.out,YH,by omega,HB.out,by omega,HG.out,ko,YO,j0,_,_,_,_,_,_,_,_,_,_,_,_,_,_,_,_,_,_,_,_,_,_,_,_,_,_,_,_,_,_,_,_,_,_,_,_,_,_,_,_,_,_,_,_,_,_,_,_,_,_,_,_,_,rfl⟩,?_⟩;simp[ztN,intOf];omega
   ·have JZ:cont y=false:=by simpa using ja
    rw[JZ] at Hp;rw[zpF JZ] at hg;have HV:Hid (fv l=.tuple #[.int .u32 0,.int .i64 0]):=zaa (zeZ (by rw[hl];exact zfe jF hg));clear hg hD UU Jf hy ja JZ jF;have Qi:m≤3:=kS.1;clear kS;go_wp2;rw[zdD];go_ret2;exact⟨by rw[HV.out];rfl,j0⟩
  ·have Cn:j=m:=by omega
   subst Cn;rw[Nat.sub_self] at hg;simp only[gon] at hg;have hd:=zil (r:=l.drop 1) jF hg;rw[←hl] at hd;have Qi:j≤3:=kS.1;clear kS hg Jf jF;by_cases hC:isC c1=true
   ·by_cases hF:fu c1=j
    ·have HV:Hid (fv l=.tuple #[.int .u32 (c1:Nat),.int .i64 ((j:Int)+1)]):=zaa (by
      have XM:fits j c1=true:=by simp[fits,hC,hF]
      rw[XM,if_pos rfl] at hd;rw[zmK hd];simp)
     clear hd;go_wp2_with fail;refine(zfr c1 w').mono ?_;rw[hC];rintro e w2 ⟨rfl,rfl⟩;go_wp2_with fail;refine(zf1 c1 w' YO).mono ?_;rw[hF];rintro e w2 ⟨rfl,rfl⟩;clear hC hF;go_wp2;rw[zdD];go_ret2;exact⟨by rw[HV.out];rfl,j0⟩
    ·have HV:Hid (fv l=.tuple #[.int .u32 0,.int .i64 0]):=zaa (zeZ (by rw[hd,if_neg (by simp[fits,hF])]));have Hp:(((fu c1:Nat):Int) != (j:Int))=true:=by simp;omega
     clear hd hF;go_wp2_with fail;refine(zfr c1 w').mono ?_;rw[hC];rintro e w2 ⟨rfl,rfl⟩;go_wp2_with fail;refine(zf1 c1 w' YO).mono ?_;rintro e w2 ⟨rfl,rfl⟩;clear hC;generalize fu c1=f at *;go_wp2;rw[zdD];go_ret2;exact⟨by rw[HV.out];rfl,j0⟩
   ·have Br:isC c1=false:=by simpa using hC
    have HV:Hid (fv l=.tuple #[.int .u32 0,.int .i64 0]):=zaa (zeZ (by rw[hd,if_neg (by simp[fits,Br])]));clear hd hC;go_wp2_with fail;refine(zfr c1 w').mono ?_;rw[Br];rintro e w2 ⟨rfl,rfl⟩;clear Br;go_wp2;rw[zdD];go_ret2;exact⟨by rw[HV.out];rfl,j0⟩
 ·intro HJ;have HJ':=zaa HJ;clear HJ hl;go_wp2_with fail;refine(zpC x GQ w ht).mono ?_;rintro e w1 ⟨rfl,Ha⟩;have Gc:=hr.below Ha;have GM:=ht.call Ha;cases jF:ld x with
  | none=>
   have Xh:leadv x=.tuple #[.int .i64 0,.int .u32 0,.bool false]:=by simp[leadv,jF]
   have HV:Hid (fv l=.tuple #[.int .u32 0,.int .i64 0]):=zaa (zeZ (by rw[HL.out];exact zpD jF));rw[Xh];clear Xh jF;go_wp2;rw[zdD];go_ret2;exact⟨by rw[HV.out];rfl,Ha⟩
  | some p=>
   obtain⟨m,c0⟩:=p;have Xh:leadv x=.tuple #[.int .i64 (m:Nat),.int .u32 (c0:Nat),.bool true]:=by simp[leadv,jF]
   have kS:=zkt jF GQ;by_cases YH:n≤m
   ·have HV:Hid (fv l=.tuple #[.int .u32 0,.int .i64 0]):=zaa (zeZ (by rw[HL.out];exact zfe jF (zim _ _ _ (by rw[yaY];omega))));rw[Xh];clear Xh jF kS;go_wp2;rw[zdD];go_ret2;exact⟨by rw[HV.out];rfl,Ha⟩
   ·rw[Xh];clear Xh;have HLD:=zaa jF;have Qi:m≤3:=kS.1;have HB:Hid (m=0∨c0 < 32 * 64 ^ 0):=zaa (by simp;exact kS.2.2);have hc128:c0 < 128:=kS.2.1;clear jF kS;go_wp2;go_step3;rename_i hK;refine hK _ _ (HJ'.out _ _ ?_);exact⟨m,c0,0,c0,HLD.out,by omega,by omega,HB.out,by omega,rfl,Gc,GM,Ha,_,_,_,_,_,_,_,_,_,_,_,_,_,_,_,_,_,_,_,_,_,_,_,_,_,_,_,_,_,_,_,_,_,_,_,_,_,_,_,_,_,_,_,_,_,_,_,_,_,_,_,_,_,rfl⟩
theorem zdg (A:Oz)(n c:Nat)(l:Lz)(w:World)(ht:Tab w)(hr:Rd .u8 256 w w.heap.size A n l)(hn:0 < n)(Kk:n≤4611686018427387904):Calls prog 124 #[.slice A n c] w fun e w'=>e=.returned (fv l)∧Below w.heap.size w w':=by
 obtain⟨b,o,_,rfl,_⟩:=hr.at_ hn;exact zr0 b o n c l w ht hr hn Kk
def lenOf:Value→Nat
 | .slice _ n _=>n
 | _=>0
def NoT (l:Lz):Prop:=∀ cs,¬ IsT l cs
def zpG (l:Lz)(w:World)(e:Ending)(w':World):Prop:=
 ((∃ cs,IsT l cs∧e=.returned (.tuple #[.int .i64 (cs.length:Nat),.bool true]))∨(NoT l∧e=.returned (.tuple #[.int .i64 0,.bool false])))∧Below w.heap.size w w'
theorem zho {c:Nat}{r r':Lz}(h:r=en c++r'):fu c+1≤r.length∧r.drop (fu c+1)=r':=by
 subst h;rw[List.length_append,zda];refine⟨by omega,?_⟩;rw[←zda,List.drop_left]
theorem zmL (A:Oz)(n c:Nat)(l:Lz)(w:World)(ht:Tab w)(hr:Rd .u8 256 w w.heap.size A n l)(kz:n≤c)(hn:n≤1099511627776) :
  Calls prog 79 #[.slice A n c] w (zpG l w):=by
 go_enter func79,ntmps79;go_wp2;go_loopw [0,4] (fun b i wr=>∃ A' n' c' d r,n'≤c'∧n'+d.length≤n∧b=.slice A' n' c'∧i=.int .i64 (d.length:Nat)∧AllC d∧l=txt d++r∧Rd .u8 256 wr w.heap.size A' n' r∧Below w.heap.size w wr) (fun b _ _=>lenOf b)
 case atStart=>exact⟨A,n,c,[],l,kz,by simp,rfl,rfl,zkg,rfl,hr,Below.refl _ _⟩
 case round=>
  obtain⟨A',n',c',d,r,Co,ql,rfl,rfl,hd,hl,ko,hb⟩:=hrel;have HL:=zaa hl;have HD:=zaa hd;clear hl hd;by_cases h0:n'=0
  ·subst h0;have Qf:r=[]:=List.eq_nil_of_length_eq_zero ko.1;subst Qf;go_wp2;go_ret2;exact⟨.inl ⟨d,⟨HD.out,by rw[HL.out,List.append_nil]⟩,rfl⟩,hb⟩
  ·have YO:=ht.below hb ht.pos;have qG:=ko.mono hb.size;go_wp2_with fail;refine(zdg A' n' c' r wr YO qG (by omega) (by omega)).mono ?_;rintro e w2 ⟨rfl,He⟩;have Hj:=hb.trans (He.mono hb.size);have kT:=ko.below (He.mono hb.size);cases G9:dec r with
   | none=>
    rw[zeZ G9];have HN:Hid (NoT l):=zaa (by rw[HL.out];exact zrC HD.out (fun h=>h0 (by rw[←ko.1,h];rfl)) G9);clear G9;go_wp2;go_ret2;exact⟨.inr ⟨HN.out,rfl⟩,Hj⟩
   | some p=>
    obtain⟨ch,m⟩:=p;rw[zmK G9];obtain⟨hC,rfl,r',kG⟩:=zrB G9;obtain⟨hlen,xN⟩:=zho kG;rw[ko.1] at hlen;obtain⟨A1,c1,gM,_,gu,Gw,xi⟩:=zb A' n' c' (fu ch+1) hlen Co;have UW:=xi _ _ _ kT;rw[xN] at UW;have YP:Hid (l=txt (d++[ch])++r'):=zaa (by rw[HL.out,kG,zgC,zcz,zhe,List.append_nil,ya1]);have y9:Hid (AllC (d++[ch])):=zaa (HD.out.append (AllC.one hC));have YG:=ztB ch;have Hp:(((fu ch+1:Nat):Int)==0)=false:=by simp;omega
    have qO:0 < fu ch+1:=by omega
    clear G9 kG xN xi HL HD hC;generalize fu ch+1=m at *;have uH:=gu w2 (m:Int) rfl;have uI:=Gw w2 (m:Int) rfl;clear gu Gw;go_wp2;go_roundw
    case rel=>exact⟨A1,n' - m,c1,d++[ch],r',gM,by simp;omega,rfl,by simp,y9.out,YP.out,UW,Hj⟩
    case measure=>simp[lenOf];omega
theorem zin (A:Oz)(n c:Nat)(l:Lz)(w:World)(ht:Tab w)(hr:Rd .u8 256 w w.heap.size A n l)(kz:n≤c)(hn:n≤1099511627776) :
  Calls prog 47 #[.slice A n c] w fun e w'=>(((∃ cs,IsT l cs)∧e=.returned (.bool true))∨(NoT l∧e=.returned (.bool false)))∧Below w.heap.size w w':=by
 go_enter func47,ntmps47;go_wp2_with fail;refine(zmL A n c l w ht hr kz hn).mono ?_;rintro e w1 ⟨⟨cs,hT,rfl⟩ | ⟨hN,rfl⟩,hb⟩
 ·have HT:=zaa hT;clear hT;go_wp2;go_ret;exact⟨.inl ⟨⟨cs,HT.out⟩,rfl⟩,hb⟩
 ·have HN:=zaa hN;clear hN;go_wp2;go_ret;exact⟨.inr ⟨HN.out,rfl⟩,hb⟩
def zlB (l:Lz)(w:World)(e:Ending)(w':World):Prop:=
 ((∃ cs A n c,IsT l cs∧e=.returned (.tuple #[.slice A n c,.bool true])∧Own .u32 4294967296 25 w' w.heap.size A n c cs)∨(NoT l∧e=.returned (.tuple #[.slice none 0 0,.bool false])))∧Below w.heap.size w w'
theorem zku:∀ (l m:List UInt8),Op.bytesLess l m=true→Op.bytesLess m l=false
 | [],[],_=>by simp[Op.bytesLess]
 | [],_::_,_=>by simp[Op.bytesLess]
 | _::_,[],h=>by simp[Op.bytesLess] at h
 | a::l,b::m,h=>by
  simp only[Op.bytesLess,ya2,yaX,decide_eq_true_eq,beq_iff_eq] at h;rcases h with h | ⟨rfl,h⟩
  ·have h1:¬ b < a:=fun h2=>by have:=UInt8.lt_trans h h2;simp at this
   have h2:¬ b=a:=fun h2=>by subst h2;simp at h
   simp[Op.bytesLess,h1,h2]
  ·simp[Op.bytesLess,zku l m h]
theorem zmM (l:Lz):(sb l).toList=l.map UInt8.ofNat:=by simp[sb]
theorem zpH {x y:List UInt8}(h:x≠y):((Op.bytesLess x y||x==y)&&(Op.bytesLess y x||y==x))=false:=by
 have h1:(x==y)=false:=by simpa using h
 have h2:(y==x)=false:=by simpa using fun e=>h (Eq.symm e)
 rw[h1,h2];cases hl:Op.bytesLess x y with
 | false=>rfl
 | true=>rw[zku x y hl];rfl
theorem zff (B B':Nat)(A A':Oz)(n c c':Nat)(l:Lz)(w:World)(hr:Rd .u8 256 w B A n l)(ko:Rd .u8 256 w B' A' n l) :
  Calls prog 21 #[.slice A n c,.slice A' n c'] w fun e w'=>e=.returned (.bool true)∧w=w':=by
 have gu:=zav c hr;have Gw:=zav c' ko;go_enter func21,ntmps21;go_wp2;go_ret;exact⟨rfl,rfl⟩
theorem zhp (B B':Nat)(A A':Oz)(n n' c c':Nat)(l l':Lz)(w:World)(hr:Rd .u8 256 w B A n l)(ko:Rd .u8 256 w B' A' n' l')(Hp:l≠l') :
  Calls prog 21 #[.slice A n c,.slice A' n' c'] w fun e w'=>e=.returned (.bool false)∧w=w':=by
 have gu:=zav c hr;have Gw:=zav c' ko;have hX:(sb l).toList≠(sb l').toList:=fun h=>Hp (by
  rw[zmM,zmM] at h;refine ztC hr.lim ko.lim ?_;simp[sb,h])
 have HB:=zaa (zpH hX);clear hX;go_enter func21,ntmps21;go_wp2
 all_goals
  go_ret
  first | exact⟨rfl,rfl⟩ | exact⟨congrArg (fun b=>Ending.returned (.bool b)) HB.out,rfl⟩
def asc (l:Lz):Bool:=l.all fun x=>decide (x < 128)
theorem zkv {l:Lz}{k x:Nat}(h:l[k]? = some x):asc (l.drop k)=(decide (x < 128)&&asc (l.drop (k+1))):=by
 rw[zbB h];simp[asc]
theorem zmN (B:Nat)(A:Oz)(n c:Nat)(l:Lz)(w:World)(hr:Rd .u8 256 w B A n l)(hn:n≤1099511627776) :
  Calls prog 152 #[.slice A n c] w fun e w'=>e=.returned (.bool (asc l))∧w=w':=by
 go_enter func152,ntmps152;go_wp2;go_loop [7] (fun i=>∃ k:Nat,k≤n∧i=.int .i64 k∧asc l=asc (l.drop k)) (fun i=>n - (intOf i).toNat)
 case atStart=>exact⟨0,Nat.zero_le _,rfl,rfl⟩
 case round=>
  obtain⟨k,hk,rfl,ha⟩:=hrel;by_cases Hi:k < n
  ·obtain⟨b,o,x,rfl,hb,hx,GQ,hc⟩:=hr.at_ Hi;rw[zkv hx] at ha;clear hx;by_cases h8:x < 128
   ·have HA:Hid (asc l=asc (l.drop (k+1))):=zaa (by rw[ha];simp[h8]);clear ha;have d8:decide (128≤(x:Int))=false:=by simp;omega
    go_wp2;exact⟨⟨k+1,by omega,by go_num,HA.out⟩,by simp[intOf];omega⟩
   ·have HA:Hid (asc l=false):=zaa (by rw[ha];simp[h8]);clear ha;have d8:decide (128≤(x:Int))=true:=by simp;omega
    go_wp2;go_ret;exact⟨by rw[HA.out];rfl,rfl⟩
  ·have HA:Hid (asc l=true):=zaa (by rw[ha,List.drop_of_length_le (by rw[hr.len];omega)];rfl);clear ha;go_wp2;go_ret;exact⟨by rw[HA.out];rfl,rfl⟩
theorem zlC (B:Nat)(A:Oz)(n c:Nat)(l:Lz)(w:World)(hr:Rd .u8 256 w B A n l)(hn:n≤1099511627776) :
  Calls prog 146 #[.slice A n c] w fun e w'=>e=.returned (.bool (asc l))∧w=w':=by
 go_enter func146,ntmps146;go_wp2;go_loop [3] (fun i=>∃ k:Nat,k≤n∧i=.int .i64 k∧asc l=asc (l.drop k)) (fun i=>n - (intOf i).toNat)
 case atStart=>exact⟨0,Nat.zero_le _,rfl,rfl⟩
 case round=>
  obtain⟨k,hk,rfl,ha⟩:=hrel;by_cases Hi:k < n
  ·obtain⟨b,o,x,rfl,hb,hx,GQ,hc⟩:=hr.at_ Hi;rw[zkv hx] at ha;clear hx;by_cases h8:x < 128
   ·have HA:Hid (asc l=asc (l.drop (k+1))):=zaa (by rw[ha];simp[h8]);clear ha;have d8:decide (127 < (x:Int))=false:=by simp;omega
    go_wp2;exact⟨⟨k+1,by omega,by go_num,HA.out⟩,by simp[intOf];omega⟩
   ·have HA:Hid (asc l=false):=zaa (by rw[ha];simp[h8]);clear ha;have d8:decide (127 < (x:Int))=true:=by simp;omega
    go_wp2;go_ret;exact⟨by rw[HA.out];rfl,rfl⟩
  ·have HA:Hid (asc l=true):=zaa (by rw[ha,List.drop_of_length_le (by rw[hr.len];omega)];rfl);clear ha;go_wp2;go_ret;exact⟨by rw[HA.out];rfl,rfl⟩
theorem zmO {l:Lz}{k x:Nat}(h:AllC (l.take k))(hx:l[k]? = some x)(hC:isC x=true):AllC (l.take (k+1)):=by
 rw[List.take_add_one,hx];exact h.append (AllC.one hC)
theorem zpI {l:Lz}{k x:Nat}(hx:l[k]? = some x)(hC:isC x=false):¬ AllC l:=fun h=>by
 obtain⟨hk,rfl⟩:=List.getElem?_eq_some_iff.1 hx;have:=h _ (List.getElem_mem hk);rw[hC] at this;cases this
theorem zpJ {l:Lz}{k x:Nat}(hx:l[k]? = some x):txt (l.take (k+1))=txt (l.take k)++en x:=by
 rw[List.take_add_one,hx,zgC];simp[zcz,zhe]
def zmP (l:Lz)(w:World)(e:Ending)(w':World):Prop:=
 ((∃ A n c,AllC l∧e=.returned (.tuple #[.slice A n c,.bool true])∧Own .u8 256 5 w' w.heap.size A n c (txt l))∨(¬ AllC l∧e=.returned (.tuple #[.slice none 0 0,.bool false])))∧Below w.heap.size w w'
theorem zfs (w:World)(n:Nat)(zs:List Int)(l:Lz)(hz:zs=l.map fun(x:Nat)=>(x:Int))(hn:l.length=n)(hl:∀ x∈l,x < 256)(hm:n≤maxLen):Own .u8 256 5 (w.alloc (.cells (zs.map (Value.int .u8)).toArray 5)) w.heap.size (some ⟨w.heap.size,0,none⟩) n n l:=by
 subst hz;have h:=zkj w w.heap.size n l hn hl hm zab;have e:(l.map fun(x:Nat)=>(x:Int)).map (Value.int .u8)=vs .u8 l:=by simp[vs]
 rw[e];exact h
def zpK (c:Nat)(w:World)(e:Ending)(w':World):Prop:=∃ A n cc,e=.returned (.slice A n cc)∧Own .u8 256 5 w' w.heap.size A n cc (en c)∧n≤4∧Below w.heap.size w w'
theorem zr1 (c:Nat)(w:World)(hc:c≤1114111):Calls prog 160 #[.int .u32 c] w (zpK c w):=by
 have hB:=zrA hc;have hL:=zda c;by_cases h1:c < 128
 ·have d1:decide ((c:Int) < 128)=true:=by simp;omega
  have e:en c=[c]:=by unfold en;rw[if_pos h1]
  have H1:=zaa h1;have HB:=zaa hB;clear h1 hc hL hB;go_enter func160,ntmps160;go_wp2;go_ret;refine⟨_,1,1,rfl,zfs w 1 [_] (en c) (by rw[e];have:=H1.out;simp<;>omega) (by rw[e];rfl) HB.out (by unfold maxLen;omega),by omega,(za _ _)⟩
 by_cases h2:c < 2048
 ·have d1:decide ((c:Int) < 128)=false:=by simp;omega
  have d2:decide ((c:Int) < 2048)=true:=by simp;omega
  have e:en c=[192+c / 64,128+c % 64]:=by unfold en;rw[if_neg h1,if_pos h2]
  have H1:=zaa h2;have HB:=zaa hB;clear h1 h2 hc hL hB;go_enter func160,ntmps160;go_wp2;go_ret;refine⟨_,2,2,rfl,zfs w 2 [_,_] (en c) (by rw[e];have:=H1.out;simp<;>omega) (by rw[e];rfl) HB.out (by unfold maxLen;omega),by omega,(za _ _)⟩
 by_cases h3:c < 65536
 ·have d1:decide ((c:Int) < 128)=false:=by simp;omega
  have d2:decide ((c:Int) < 2048)=false:=by simp;omega
  have d3:decide ((c:Int) < 65536)=true:=by simp;omega
  have e:en c=[224+c / 4096,128+c / 64 % 64,128+c % 64]:=by unfold en;rw[if_neg h1,if_neg h2,if_pos h3]
  have H1:=zaa h3;have HB:=zaa hB;clear h1 h2 h3 hc hL hB;go_enter func160,ntmps160;go_wp2;go_ret;refine⟨_,3,3,rfl,zfs w 3 [_,_,_] (en c) (by rw[e];have:=H1.out;simp<;>omega) (by rw[e];rfl) HB.out (by unfold maxLen;omega),by omega,(za _ _)⟩
 ·have d1:decide ((c:Int) < 128)=false:=by simp;omega
  have d2:decide ((c:Int) < 2048)=false:=by simp;omega
  have d3:decide ((c:Int) < 65536)=false:=by simp;omega
  have e:en c=[240+c / 262144,128+c / 4096 % 64,128+c / 64 % 64,128+c % 64]:=by unfold en;rw[if_neg h1,if_neg h2,if_neg h3]
  have H1:=zaa hc;have HB:=zaa hB;clear h1 h2 h3 hc hL hB;go_enter func160,ntmps160;go_wp2;go_ret;refine⟨_,4,4,rfl,zfs w 4 [_,_,_,_] (en c) (by rw[e];have:=H1.out;simp<;>omega) (by rw[e];rfl) HB.out (by unfold maxLen;omega),by omega,(za _ _)⟩
theorem zmQ (A:Oz)(n c:Nat)(l:Lz)(w:World)(hr:Rd .u32 4294967296 w w.heap.size A n l)(hn:n≤1099511627776) :
  Calls prog 159 #[.slice A n c] w (zmP l w):=by
 go_enter func159,ntmps159;go_wp2;go_loopw [4,5] (fun b i wr=>∃ A2 n2 c2,∃ j:Nat,j≤n∧b=.slice A2 n2 c2∧i=.int .i64 j∧Own .u8 256 5 wr w.heap.size A2 n2 c2 (txt (l.take j))∧AllC (l.take j)∧Below w.heap.size w wr) (fun _ i _=>n - (intOf i).toNat)
 case atStart=>exact⟨none,0,0,0,Nat.zero_le _,rfl,rfl,Own.nil _ _ _ _ _,zkg,Below.refl _ _⟩
 case round=>
  obtain⟨A2,n2,c2,j,hj,rfl,rfl,ho,hA,hb⟩:=hrel;have HA:=zaa hA;clear hA;have UC:=(zrD (l.take j)).2;rw[ho.len,List.length_take,Nat.min_eq_left (by rw[hr.len];omega)] at UC;by_cases Hi:j < n
  ·have qG:=hr.below hb;obtain⟨b,o,x,rfl,j0,hx,GQ,hc⟩:=qG.at_ Hi;cases hC:isC x with
   | true=>
    have HT:=zaa (zpJ hx);have HA2:=zaa (zmO HA.out hx hC);have hle:=zmk hC;clear hx;go_wp2_with fail;refine(zf0 x wr).mono ?_;rw[hC];rintro e w3 ⟨rfl,rfl⟩;clear hC;have hs:=hb.size;go_wp2_with (first
     | (go_at_call 160;refine(zr1 x wr hle).mono ?_;rintro e w4 ⟨A4,n4,c4,rfl,jo,hn4,gl⟩;have GR:=ho.below gl;have gp:=hb.trans (gl.mono hs);have Jd:=gp.size)
     | (at_builtin;refine zcd (l:=en x) (B:=w4.heap.size) rfl _ _ rfl rfl GR rfl jo.rd (by omega) Jd ?_;intro A6 c6 w6 KQ hg6;have qm:=gp.trans (zau GR hg6 Jd)))
    go_roundw
    case rel=>exact⟨A6,n2+n4,c6,j+1,by omega,rfl,by go_num,KQ.eqv HT.out.symm,HA2.out,qm⟩
    case measure=>simp[intOf];omega
   | false=>
    have HN:=zaa (zpI hx hC);clear hx;go_wp2_with fail;refine(zf0 x wr).mono ?_;rw[hC];rintro e w3 ⟨rfl,rfl⟩;clear hC;go_wp2;go_ret2;exact⟨.inr ⟨HN.out,rfl⟩,hb⟩
  ·have e1:l.take j=l:=yaZ (by rw[hr.len];omega);have HE:=zaa e1;clear e1;go_wp2;go_ret2;exact⟨.inl ⟨A2,n2,c2,by have:=HA.out;rwa [HE.out] at this,rfl,ho.eqv (by rw[HE.out])⟩,hb⟩
def kf (o:Nat):Nat:=if 240≤o then 3 else if 224≤o then 2 else if 192≤o then 1 else 0
def ini (o:Nat):Nat:=if 240≤o then o % 8 else if 224≤o then o % 16 else if 192≤o then o % 32 else o
def fl (x:Nat)(t:Lz):Nat:=t.foldl (fun x y=>64 * x+y % 64) x
theorem zr2 (x:Nat)(t:Lz)(y:Nat):fl x (t++[y])=64 * fl x t+y % 64:=by simp[fl]
def lx:Lz→Lz
 | []=>[]
 | o::r=>fl (ini o) (r.take (kf o))::lx (r.drop (kf o))
termination_by b=>b.length
decreasing_by simp;omega
theorem zrd:lx []=[]:=by rw[lx]
theorem zf2 (o:Nat)(r:Lz):lx (o::r)=fl (ini o) (r.take (kf o))::lx (r.drop (kf o)):=by rw[lx]
theorem zu6 {c:Nat}(h:isC c=true)(r:Lz):lx (en c++r)=c::lx r:=by
 have hl:=zmk h;by_cases h1:c < 128
 ·have e:en c=[c]:=by unfold en;rw[if_pos h1]
  have k:kf c=0:=by unfold kf;rw[if_neg (by omega),if_neg (by omega),if_neg (by omega)]
  have i:ini c=c:=by unfold ini;rw[if_neg (by omega),if_neg (by omega),if_neg (by omega)]
  rw[e,List.singleton_append,zf2,k,i];simp[fl]
 by_cases h2:c < 2048
 ·have e:en c=[192+c / 64,128+c % 64]:=by unfold en;rw[if_neg h1,if_pos h2]
  have k:kf (192+c / 64)=1:=by unfold kf;rw[if_neg (by omega),if_neg (by omega),if_pos (by omega)]
  have i:ini (192+c / 64)=c / 64:=by unfold ini;rw[if_neg (by omega),if_neg (by omega),if_pos (by omega)];omega
  rw[e,ya3,zf2,k,i];simp[fl];omega
 by_cases h3:c < 65536
 ·have e:en c=[224+c / 4096,128+c / 64 % 64,128+c % 64]:=by unfold en;rw[if_neg h1,if_neg h2,if_pos h3]
  have k:kf (224+c / 4096)=2:=by unfold kf;rw[if_neg (by omega),if_pos (by omega)]
  have i:ini (224+c / 4096)=c / 4096:=by unfold ini;rw[if_neg (by omega),if_pos (by omega)];omega
  rw[e,ya3,zf2,k,i];simp[fl];omega
 ·have e:en c=[240+c / 262144,128+c / 4096 % 64,128+c / 64 % 64,128+c % 64]:=by unfold en;rw[if_neg h1,if_neg h2,if_neg h3]
  have k:kf (240+c / 262144)=3:=by unfold kf;rw[if_pos (by omega)]
  have i:ini (240+c / 262144)=c / 262144:=by unfold ini;rw[if_pos (by omega)];omega
  rw[e,ya3,zf2,k,i];simp[fl];omega
theorem zmR:∀ {cs:Lz},AllC cs→lx (txt cs)=cs
 | [],_=>by rw[zhe,zrd]
 | c::cs,h=>by rw[zcz,zu6 (h c (by simp)),zmR fun x hx=>h x (by simp[hx])]
theorem zr3 {l:Lz}{p o:Nat}(h:l[p]? = some o):lx (l.drop p)=fl (ini o) ((l.drop (p+1)).take (kf o))::lx (l.drop (p+(kf o+1))):=by
 rw[zbB h,zf2,List.drop_drop]
 congr 3
 omega
theorem zhq {l:Lz}{p j y x:Nat}(hj:1≤j)(h:l[p+j]? = some y):fl x ((l.drop (p+1)).take (j+1 - 1))=64 * fl x ((l.drop (p+1)).take (j - 1))+y % 64:=by
 rw[←zr2]
 congr 1
 have e:(l.drop (p+1))[j - 1]? = some y:=by rw[List.getElem?_drop,show p+1+(j - 1)=p+j by omega];exact h
 rw[show j+1 - 1=(j - 1)+1 by omega,List.take_add_one,e];rfl
theorem zft {l:Lz}{n p j k:Nat}(hl:l.length=n)(h:k≤j - 1∧j - 1≤k∨(j - 1≤k∧n≤p+j)):(l.drop (p+1)).take (j - 1)=(l.drop (p+1)).take k:=by
 rcases h with h | h
 ·rw[show j - 1=k by omega]
 ·rw[yaZ (by rw[yaY];omega),yaZ (by rw[yaY];omega)]
def Bd (j X:Nat):Prop:=(j=1→X < 256)∧(j=2→X < 16384)∧(j=3→X < 1048576)∧(j=4→X < 67108864)
theorem zlD (A:Oz)(n c:Nat)(l:Lz)(w:World)(hr:Rd .u8 256 w w.heap.size A n l)(hn:n≤1073741824) :
  Calls prog 155 #[.slice A n c] w (zlB l w):=by
 have hlen:=hr.len;go_enter func155,ntmps155;go_wp2;go_loopw [4,5] (fun q i wr=>∃ A2 n2 c2 d,∃ p:Nat,p≤n+3∧n2≤p∧q=.slice A2 n2 c2∧i=.int .i64 p∧Own .u32 4294967296 25 wr w.heap.size A2 n2 c2 d∧lx l=d++lx (l.drop p)∧Below w.heap.size w wr) (fun _ i _=>n+4 - (intOf i).toNat)
 case atStart=>exact⟨none,0,0,[],0,Nat.zero_le _,zab,rfl,rfl,Own.nil _ _ _ _ _,rfl,Below.refl _ _⟩
 case round=>
  obtain⟨A2,n2,c2,d,p,hp,hnp,rfl,rfl,ho,hl,hb⟩:=hrel;have HL:=zaa hl;clear hl;by_cases Hi:p < n
  ·have qG:=hr.below hb;obtain⟨b,o,x,rfl,kU,hx,GQ,hc⟩:=qG.at_ Hi;have HS:=zaa (zr3 hx);have hs:=hb.size;have hpI:(p:Int) < n:=by omega
   clear hx;by_cases h1:240≤x
   ·have d0:decide (240≤(x:Int))=true:=by simp;omega
    have k0:kf x=3:=by unfold kf;rw[if_pos (by omega)]
    have k1:ini x=x % 8:=by unfold ini;rw[if_pos (by omega)]
    obtain⟨I,hI,hI1,hI2,hIb⟩:∃ I:Nat,ini x=I∧(x:Int).tmod 8=I∧(x:Int) % 8=I∧I < 256:=⟨ini x,rfl,by rw[k1,Int.tmod_eq_emod_of_nonneg (Int.natCast_nonneg x)];omega,by rw[k1];omega,by rw[k1];omega⟩;rw[k0,hI] at HS;clear k0 k1 hI h1;go_wp2;go_loop [7,8] (fun q i=>∃ j X:Nat,1≤j∧j≤4∧i=.int .i64 j∧q=.int .u32 X∧X=fl I ((l.drop (p+1)).take (j - 1))∧Bd j X) (fun _ i=>5 - (intOf i).toNat)
    case atStart=>exact⟨1,I,by omega,by omega,rfl,rfl,by simp[fl],⟨fun _=>by omega,fun h=>by omega,fun h=>by omega,fun h=>by omega⟩⟩
    case round=>
     obtain⟨j,X,Vb,Ya,rfl,rfl,hX,hB⟩:=hrel;have Qj:X < 67108864:=by
      obtain⟨q1,q2,q3,q4⟩:=hB;omega
     have HX:=zaa hX;clear hX;by_cases QD:j < 4∧p+j < n
     ·obtain⟨b',o',y,e,VR,hy,Qh,UT⟩:=qG.at_ QD.2;injection e with e
      injection e with e1 e2
      subst e1;subst e2;have HN:=zaa (zhq (x:=I) Vb hy);obtain⟨Y,hY,Bs,Bt,Bu⟩:∃ Y:Nat,y % 64=Y∧(y:Int).tmod 64=Y∧(y:Int) % 64=Y∧Y < 64:=⟨y % 64,rfl,by rw[Int.tmod_eq_emod_of_nonneg (Int.natCast_nonneg y)];omega,by omega,by omega⟩;rw[hY] at HN;have G5:Hid (Bd (j+1) (64 * X+Y)):=zaa (by
       obtain⟨q1,q2,q3,q4⟩:=hB;exact⟨fun h=>by omega,fun h=>by omega,fun h=>by omega,fun h=>by omega⟩)
      have Bv:(p:Int)+j < n:=by omega
      have V7:(j:Int) < 4:=by omega
      clear hy hY hB;go_wp2;exact⟨⟨j+1,64 * X+Y,by omega,by omega,by go_num,by go_num,by rw[HN.out,←HX.out],G5.out⟩,by simp[intOf];omega⟩
     ·have HT:Hid (lx l=(d++[X])++lx (l.drop (p+4))):=zaa (by rw[HL.out,HS.out,HX.out,zft hlen (k:=3) (by omega),ya1];rfl);clear hB;have Xi:∀ z∈[X],z < 4294967296:=fun z hz=>by simp at hz;omega
      have jb:(decide ((j:Int) < 4)=false)∨(decide ((j:Int) < 4)=true∧decide ((p:Int)+j < n)=false):=by simp;omega
      obtain g1 | ⟨g1,g2⟩:=jb
      all_goals
       clear QD;go_wp2_with (at_builtin;refine zcA (l:=[X]) (B:=wr.heap.size+1) rfl _ _ rfl rfl (ho.alloc _) rfl (zfq wr [X] 1 rfl Xi) (by omega) (by simp;omega) ?_;intro A3 c3 w3 Gi GH;have gl:Below w.heap.size w w3:=(hb.alloc hs _).trans (zau (ho.alloc _) GH (by simp;omega)));go_roundw
       case rel=>exact⟨A3,n2+1,c3,d++[X],p+4,by omega,by omega,rfl,by go_num,Gi,HT.out,gl⟩
       case measure=>simp[intOf];omega
   by_cases h2:224≤x
   ·have d0:decide (240≤(x:Int))=false:=by simp;omega
    have d1:decide (224≤(x:Int))=true:=by simp;omega
    have k0:kf x=2:=by unfold kf;rw[if_neg (by omega),if_pos (by omega)]
    have k1:ini x=x % 16:=by unfold ini;rw[if_neg (by omega),if_pos (by omega)]
    obtain⟨I,hI,hI1,hI2,hIb⟩:∃ I:Nat,ini x=I∧(x:Int).tmod 16=I∧(x:Int) % 16=I∧I < 256:=⟨ini x,rfl,by rw[k1,Int.tmod_eq_emod_of_nonneg (Int.natCast_nonneg x)];omega,by rw[k1];omega,by rw[k1];omega⟩;rw[k0,hI] at HS;clear k0 k1 hI h1 h2;go_wp2;go_loop [7,8] (fun q i=>∃ j X:Nat,1≤j∧j≤3∧i=.int .i64 j∧q=.int .u32 X∧X=fl I ((l.drop (p+1)).take (j - 1))∧Bd j X) (fun _ i=>5 - (intOf i).toNat)
    case atStart=>exact⟨1,I,by omega,by omega,rfl,rfl,by simp[fl],⟨fun _=>by omega,fun h=>by omega,fun h=>by omega,fun h=>by omega⟩⟩
    case round=>
     obtain⟨j,X,Vb,Ya,rfl,rfl,hX,hB⟩:=hrel;have Qj:X < 67108864:=by
      obtain⟨q1,q2,q3,q4⟩:=hB;omega
     have HX:=zaa hX;clear hX;by_cases QD:j < 3∧p+j < n
     ·obtain⟨b',o',y,e,VR,hy,Qh,UT⟩:=qG.at_ QD.2;injection e with e
      injection e with e1 e2
      subst e1;subst e2;have HN:=zaa (zhq (x:=I) Vb hy);obtain⟨Y,hY,Bs,Bt,Bu⟩:∃ Y:Nat,y % 64=Y∧(y:Int).tmod 64=Y∧(y:Int) % 64=Y∧Y < 64:=⟨y % 64,rfl,by rw[Int.tmod_eq_emod_of_nonneg (Int.natCast_nonneg y)];omega,by omega,by omega⟩;rw[hY] at HN;have G5:Hid (Bd (j+1) (64 * X+Y)):=zaa (by
       obtain⟨q1,q2,q3,q4⟩:=hB;exact⟨fun h=>by omega,fun h=>by omega,fun h=>by omega,fun h=>by omega⟩)
      have Bv:(p:Int)+j < n:=by omega
      have V7:(j:Int) < 3:=by omega
      clear hy hY hB;go_wp2;exact⟨⟨j+1,64 * X+Y,by omega,by omega,by go_num,by go_num,by rw[HN.out,←HX.out],G5.out⟩,by simp[intOf];omega⟩
     ·have HT:Hid (lx l=(d++[X])++lx (l.drop (p+3))):=zaa (by rw[HL.out,HS.out,HX.out,zft hlen (k:=2) (by omega),ya1];rfl);clear hB;have Xi:∀ z∈[X],z < 4294967296:=fun z hz=>by simp at hz;omega
      have jb:(decide ((j:Int) < 3)=false)∨(decide ((j:Int) < 3)=true∧decide ((p:Int)+j < n)=false):=by simp;omega
      obtain g1 | ⟨g1,g2⟩:=jb
      all_goals
       clear QD;go_wp2_with (at_builtin;refine zcA (l:=[X]) (B:=wr.heap.size+1) rfl _ _ rfl rfl (ho.alloc _) rfl (zfq wr [X] 1 rfl Xi) (by omega) (by simp;omega) ?_;intro A3 c3 w3 Gi GH;have gl:Below w.heap.size w w3:=(hb.alloc hs _).trans (zau (ho.alloc _) GH (by simp;omega)));go_roundw
       case rel=>exact⟨A3,n2+1,c3,d++[X],p+3,by omega,by omega,rfl,by go_num,Gi,HT.out,gl⟩
       case measure=>simp[intOf];omega
   by_cases h3:192≤x
   ·have d0:decide (240≤(x:Int))=false:=by simp;omega
    have d1:decide (224≤(x:Int))=false:=by simp;omega
    have d2:decide (192≤(x:Int))=true:=by simp;omega
    have k0:kf x=1:=by unfold kf;rw[if_neg (by omega),if_neg (by omega),if_pos (by omega)]
    have k1:ini x=x % 32:=by unfold ini;rw[if_neg (by omega),if_neg (by omega),if_pos (by omega)]
    obtain⟨I,hI,hI1,hI2,hIb⟩:∃ I:Nat,ini x=I∧(x:Int).tmod 32=I∧(x:Int) % 32=I∧I < 256:=⟨ini x,rfl,by rw[k1,Int.tmod_eq_emod_of_nonneg (Int.natCast_nonneg x)];omega,by rw[k1];omega,by rw[k1];omega⟩;rw[k0,hI] at HS;clear k0 k1 hI h1 h2 h3;go_wp2;go_loop [7,8] (fun q i=>∃ j X:Nat,1≤j∧j≤2∧i=.int .i64 j∧q=.int .u32 X∧X=fl I ((l.drop (p+1)).take (j - 1))∧Bd j X) (fun _ i=>5 - (intOf i).toNat)
    case atStart=>exact⟨1,I,by omega,by omega,rfl,rfl,by simp[fl],⟨fun _=>by omega,fun h=>by omega,fun h=>by omega,fun h=>by omega⟩⟩
    case round=>
     obtain⟨j,X,Vb,Ya,rfl,rfl,hX,hB⟩:=hrel;have Qj:X < 67108864:=by
      obtain⟨q1,q2,q3,q4⟩:=hB;omega
     have HX:=zaa hX;clear hX;by_cases QD:j < 2∧p+j < n
     ·obtain⟨b',o',y,e,VR,hy,Qh,UT⟩:=qG.at_ QD.2;injection e with e
      injection e with e1 e2
      subst e1;subst e2;have HN:=zaa (zhq (x:=I) Vb hy);obtain⟨Y,hY,Bs,Bt,Bu⟩:∃ Y:Nat,y % 64=Y∧(y:Int).tmod 64=Y∧(y:Int) % 64=Y∧Y < 64:=⟨y % 64,rfl,by rw[Int.tmod_eq_emod_of_nonneg (Int.natCast_nonneg y)];omega,by omega,by omega⟩;rw[hY] at HN;have G5:Hid (Bd (j+1) (64 * X+Y)):=zaa (by
       obtain⟨q1,q2,q3,q4⟩:=hB;exact⟨fun h=>by omega,fun h=>by omega,fun h=>by omega,fun h=>by omega⟩)
      have Bv:(p:Int)+j < n:=by omega
      have V7:(j:Int) < 2:=by omega
      clear hy hY hB;go_wp2;exact⟨⟨j+1,64 * X+Y,by omega,by omega,by go_num,by go_num,by rw[HN.out,←HX.out],G5.out⟩,by simp[intOf];omega⟩
     ·have HT:Hid (lx l=(d++[X])++lx (l.drop (p+2))):=zaa (by rw[HL.out,HS.out,HX.out,zft hlen (k:=1) (by omega),ya1];rfl);clear hB;have Xi:∀ z∈[X],z < 4294967296:=fun z hz=>by simp at hz;omega
      have jb:(decide ((j:Int) < 2)=false)∨(decide ((j:Int) < 2)=true∧decide ((p:Int)+j < n)=false):=by simp;omega
      obtain g1 | ⟨g1,g2⟩:=jb
      all_goals
       clear QD;go_wp2_with (at_builtin;refine zcA (l:=[X]) (B:=wr.heap.size+1) rfl _ _ rfl rfl (ho.alloc _) rfl (zfq wr [X] 1 rfl Xi) (by omega) (by simp;omega) ?_;intro A3 c3 w3 Gi GH;have gl:Below w.heap.size w w3:=(hb.alloc hs _).trans (zau (ho.alloc _) GH (by simp;omega)));go_roundw
       case rel=>exact⟨A3,n2+1,c3,d++[X],p+2,by omega,by omega,rfl,by go_num,Gi,HT.out,gl⟩
       case measure=>simp[intOf];omega
   have d0:decide (240≤(x:Int))=false:=by simp;omega
   have d1:decide (224≤(x:Int))=false:=by simp;omega
   have d2:decide (192≤(x:Int))=false:=by simp;omega
   have k0:kf x=0:=by unfold kf;rw[if_neg (by omega),if_neg (by omega),if_neg (by omega)]
   have k1:ini x=x:=by unfold ini;rw[if_neg (by omega),if_neg (by omega),if_neg (by omega)]
   rw[k0,k1] at HS;clear k0 k1 h1 h2 h3;go_wp2;go_loop [7,8] (fun q i=>∃ j X:Nat,1≤j∧j≤1∧i=.int .i64 j∧q=.int .u32 X∧X=fl x ((l.drop (p+1)).take (j - 1))∧Bd j X) (fun _ i=>5 - (intOf i).toNat)
   case atStart=>exact⟨1,x,by omega,by omega,rfl,rfl,by simp[fl],⟨fun _=>by omega,fun h=>by omega,fun h=>by omega,fun h=>by omega⟩⟩
   case round=>
    obtain⟨j,X,Vb,Ya,rfl,rfl,hX,hB⟩:=hrel;have Qj:X < 67108864:=by
     obtain⟨q1,q2,q3,q4⟩:=hB;omega
    have HX:=zaa hX;clear hX;by_cases QD:j < 1∧p+j < n
    ·obtain⟨b',o',y,e,VR,hy,Qh,UT⟩:=qG.at_ QD.2;injection e with e
     injection e with e1 e2
     subst e1;subst e2;have HN:=zaa (zhq (x:=x) Vb hy);obtain⟨Y,hY,Bs,Bt,Bu⟩:∃ Y:Nat,y % 64=Y∧(y:Int).tmod 64=Y∧(y:Int) % 64=Y∧Y < 64:=⟨y % 64,rfl,by rw[Int.tmod_eq_emod_of_nonneg (Int.natCast_nonneg y)];omega,by omega,by omega⟩;rw[hY] at HN;have G5:Hid (Bd (j+1) (64 * X+Y)):=zaa (by
      obtain⟨q1,q2,q3,q4⟩:=hB;exact⟨fun h=>by omega,fun h=>by omega,fun h=>by omega,fun h=>by omega⟩)
     have Bv:(p:Int)+j < n:=by omega
     have V7:(j:Int) < 1:=by omega
     clear hy hY hB;go_wp2;exact⟨⟨j+1,64 * X+Y,by omega,by omega,by go_num,by go_num,by rw[HN.out,←HX.out],G5.out⟩,by simp[intOf];omega⟩
    ·have HT:Hid (lx l=(d++[X])++lx (l.drop (p+1))):=zaa (by rw[HL.out,HS.out,HX.out,zft hlen (k:=0) (by omega),ya1];rfl);clear hB;have Xi:∀ z∈[X],z < 4294967296:=fun z hz=>by simp at hz;omega
     have jb:(decide ((j:Int) < 1)=false)∨(decide ((j:Int) < 1)=true∧decide ((p:Int)+j < n)=false):=by simp;omega
     obtain g1 | ⟨g1,g2⟩:=jb
     all_goals
      clear QD;go_wp2_with (at_builtin;refine zcA (l:=[X]) (B:=wr.heap.size+1) rfl _ _ rfl rfl (ho.alloc _) rfl (zfq wr [X] 1 rfl Xi) (by omega) (by simp;omega) ?_;intro A3 c3 w3 Gi GH;have gl:Below w.heap.size w w3:=(hb.alloc hs _).trans (zau (ho.alloc _) GH (by simp;omega)));go_roundw
      case rel=>exact⟨A3,n2+1,c3,d++[X],p+1,by omega,by omega,rfl,by go_num,Gi,HT.out,gl⟩
      case measure=>simp[intOf];omega
  ·have jI:l.drop p=[]:=List.drop_of_length_le (by omega);have HD:Hid (lx l=d):=zaa (by rw[HL.out,jI,zrd,List.append_nil]);clear jI HL;have hpI:decide ((p:Int) < n)=false:=by simp;omega
   have Kk:=ho.len;have hs:=hb.size;go_wp2_with fail;refine(zmQ A2 n2 c2 d wr ho.rd (by omega)).mono ?_;rintro e w3 ⟨⟨A3,n3,c3,hC,rfl,Km⟩ | ⟨hC,rfl⟩,Hj⟩
   ·have Kr:=hb.trans (Hj.mono hs);have kT:=hr.below Kr;have v7:=ho.below Hj;by_cases hE:txt d=l
    ·have Vy:n3=n:=by rw[←Km.len,hE,hlen]
     subst Vy;have UW:=Km.rd.eqv hE;go_wp2_with fail;refine(zff w3.heap.size w.heap.size A3 A n3 c3 c l w3 UW kT).mono ?_;rintro e w4 ⟨rfl,rfl⟩;go_wp2;go_ret2;exact⟨.inl ⟨d,A2,n2,c2,⟨hC,hE.symm⟩,rfl,v7⟩,Kr⟩
    ·have HN:Hid (NoT l):=zaa fun cs h=>hE (by
      have e1:=HD.out;rw[h.2,zmR h.1] at e1;rw[←e1,←h.2])
     go_wp2_with fail;refine(zhp w3.heap.size w.heap.size A3 A n3 n c3 c (txt d) l w3 Km.rd kT hE).mono ?_;rintro e w4 ⟨rfl,rfl⟩;clear hE;go_wp2;go_ret2;exact⟨.inr ⟨HN.out,rfl⟩,Kr⟩
   ·have Kr:=hb.trans (Hj.mono hs);have HN:Hid (NoT l):=zaa fun cs h=>hC (by
     have e1:=HD.out;rw[h.2,zmR h.1] at e1;rw[←e1];exact h.1)
    clear hC;go_wp2;go_ret2;exact⟨.inr ⟨HN.out,rfl⟩,Kr⟩
theorem zlE (A:Oz)(n c:Nat)(l:Lz)(w:World)(hr:Rd .u8 256 w w.heap.size A n l)(hn:n≤1073741824) :
  Calls prog 145 #[.slice A n c] w fun e w'=>(((∃ cs,IsT l cs)∧e=.returned (.bool true))∨(NoT l∧e=.returned (.bool false)))∧Below w.heap.size w w':=by
 go_enter func145,ntmps145;go_wp2_with fail;refine(zlD A n c l w hr hn).mono ?_;rintro e w1 ⟨⟨cs,A1,n1,c1,hT,rfl,_⟩ | ⟨hN,rfl⟩,hb⟩
 ·have HT:=zaa hT;clear hT;go_wp2;go_ret;exact⟨.inl ⟨⟨cs,HT.out⟩,rfl⟩,hb⟩
 ·have HN:=zaa hN;clear hN;go_wp2;go_ret;exact⟨.inr ⟨HN.out,rfl⟩,hb⟩
end Utf
namespace Val
open Go.RowKit Utf V
def sgB (half n:Nat):Bool:=decide (n < half)||decide (18446744073709551616 - half≤n)
theorem sg64 (n:Nat)(hn:n < 18446744073709551616):∃ x:Int,wrap64 (n:Int)=x ∧ -9223372036854775808≤x∧x < 9223372036854775808∧(x=n∨x=(n:Int) - 18446744073709551616):=by
 refine⟨wrap64 n,rfl,?_,?_,?_⟩<;>simp only[wrap64]<;>omega
theorem within8 (n:Nat)(hn:n < 18446744073709551616)(w:World):Calls prog 143 #[.int .u64 n,.int .i64 8] w (zaj (sgB 128 n) w):=by
 obtain⟨x,hx,h1,h2,h3⟩:=sg64 n hn;have hS:sgB 128 n=(decide (-128≤x)&&decide (x < 128)):=by
  rw[Bool.eq_iff_iff];simp only[sgB,ya2,yaX,decide_eq_true_eq];omega
 have HS:=zaa hS;clear hn h1 h2 h3 hS;by_cases hA : -128≤x
 ·have dA:decide (-128≤x)=true:=by simpa using hA
  by_cases hB:x < 128
  ·have dB:decide (x < 128)=true:=by simpa using hB
   go_enter func143,ntmps143;go_wp2;go_ret;exact⟨by rw[HS.out,dA,dB];rfl,Below.refl _ _⟩
  ·have dB:decide (x < 128)=false:=by simpa using hB
   go_enter func143,ntmps143;go_wp2;go_ret;exact⟨by rw[HS.out,dA,dB];rfl,Below.refl _ _⟩
 ·have dA:decide (-128≤x)=false:=by simpa using hA
  go_enter func143,ntmps143;go_wp2;go_ret;exact⟨by rw[HS.out,dA];rfl,Below.refl _ _⟩
theorem within16 (n:Nat)(hn:n < 18446744073709551616)(w:World):Calls prog 143 #[.int .u64 n,.int .i64 16] w (zaj (sgB 32768 n) w):=by
 obtain⟨x,hx,h1,h2,h3⟩:=sg64 n hn;have hS:sgB 32768 n=(decide (-32768≤x)&&decide (x < 32768)):=by
  rw[Bool.eq_iff_iff];simp only[sgB,ya2,yaX,decide_eq_true_eq];omega
 have HS:=zaa hS;clear hn h1 h2 h3 hS;by_cases hA : -32768≤x
 ·have dA:decide (-32768≤x)=true:=by simpa using hA
  by_cases hB:x < 32768
  ·have dB:decide (x < 32768)=true:=by simpa using hB
   go_enter func143,ntmps143;go_wp2;go_ret;exact⟨by rw[HS.out,dA,dB];rfl,Below.refl _ _⟩
  ·have dB:decide (x < 32768)=false:=by simpa using hB
   go_enter func143,ntmps143;go_wp2;go_ret;exact⟨by rw[HS.out,dA,dB];rfl,Below.refl _ _⟩
 ·have dA:decide (-32768≤x)=false:=by simpa using hA
  go_enter func143,ntmps143;go_wp2;go_ret;exact⟨by rw[HS.out,dA];rfl,Below.refl _ _⟩
theorem within32 (n:Nat)(hn:n < 18446744073709551616)(w:World):Calls prog 143 #[.int .u64 n,.int .i64 32] w (zaj (sgB 2147483648 n) w):=by
 obtain⟨x,hx,h1,h2,h3⟩:=sg64 n hn;have hS:sgB 2147483648 n=(decide (-2147483648≤x)&&decide (x < 2147483648)):=by
  rw[Bool.eq_iff_iff];simp only[sgB,ya2,yaX,decide_eq_true_eq];omega
 have HS:=zaa hS;clear hn h1 h2 h3 hS;by_cases hA : -2147483648≤x
 ·have dA:decide (-2147483648≤x)=true:=by simpa using hA
  by_cases hB:x < 2147483648
  ·have dB:decide (x < 2147483648)=true:=by simpa using hB
   go_enter func143,ntmps143;go_wp2;go_ret;exact⟨by rw[HS.out,dA,dB];rfl,Below.refl _ _⟩
  ·have dB:decide (x < 2147483648)=false:=by simpa using hB
   go_enter func143,ntmps143;go_wp2;go_ret;exact⟨by rw[HS.out,dA,dB];rfl,Below.refl _ _⟩
 ·have dA:decide (-2147483648≤x)=false:=by simpa using hA
  go_enter func143,ntmps143;go_wp2;go_ret;exact⟨by rw[HS.out,dA];rfl,Below.refl _ _⟩
theorem conv8 (n:Nat)(hn:n < 18446744073709551616):((n:Int)==IntKind.u64.wrap (IntKind.i8.wrap n))=sgB 128 n:=by
 rw[Bool.eq_iff_iff];simp only[beq_iff_eq,sgB,ya2,decide_eq_true_eq,IntKind.wrap,IntKind.bits,IntKind.signed,Bool.true_and,Bool.false_and];simp
 split<;>omega
theorem conv16 (n:Nat)(hn:n < 18446744073709551616):((n:Int)==IntKind.u64.wrap (IntKind.i16.wrap n))=sgB 32768 n:=by
 rw[Bool.eq_iff_iff];simp only[beq_iff_eq,sgB,ya2,decide_eq_true_eq,IntKind.wrap,IntKind.bits,IntKind.signed,Bool.true_and,Bool.false_and];simp
 split<;>omega
theorem conv32 (n:Nat)(hn:n < 18446744073709551616):((n:Int)==IntKind.u64.wrap (IntKind.i32.wrap n))=sgB 2147483648 n:=by
 rw[Bool.eq_iff_iff];simp only[beq_iff_eq,sgB,ya2,decide_eq_true_eq,IntKind.wrap,IntKind.bits,IntKind.signed,Bool.true_and,Bool.false_and];simp
 split<;>omega
theorem conv32' (n:Nat)(hn:n < 18446744073709551616):((n:Int)==IntKind.u64.wrap (wrap32 n))=sgB 2147483648 n:=by
 rw[←conv32 n hn,show wrap32 (n:Int)=IntKind.i32.wrap n by unfold wrap32 IntKind.wrap;simp only[IntKind.bits,IntKind.signed,Bool.true_and];simp;split<;>omega]
def numB (k n:Nat):Bool:=
 if k=2 then decide (n≤1) else if k=3 then decide (n < 256) else if k=4 then decide (n < 65536) else if k=5∨k=11 then decide (n < 4294967296) else
 if k=7 then sgB 128 n else if k=8 then sgB 32768 n else if k=9 then sgB 2147483648 n else if k=13 then isC n else true
theorem zhr (n m:Nat):decide ((n:Int) < (m:Int))=decide (n < m):=by simp
theorem zhs (n m:Nat):decide ((n:Int)≤(m:Int))=decide (n≤m):=by simp
theorem rn2 (n:Nat)(w:World):Calls prog 137 #[.int .u8 2,.int .u64 n] w (zaj (decide (n≤1)) w):=by
 have HE:=zaa (zhs n 1);go_enter func137,ntmps137;go_wp2;go_ret;exact⟨congrArg (fun b=>Ending.returned (.bool b)) HE.out,Below.refl _ _⟩
theorem rn3 (n:Nat)(w:World):Calls prog 137 #[.int .u8 3,.int .u64 n] w (zaj (decide (n < 256)) w):=by
 have HE:=zaa (zhr n 256);go_enter func137,ntmps137;go_wp2;go_ret;exact⟨congrArg (fun b=>Ending.returned (.bool b)) HE.out,Below.refl _ _⟩
theorem rn4 (n:Nat)(w:World):Calls prog 137 #[.int .u8 4,.int .u64 n] w (zaj (decide (n < 65536)) w):=by
 have HE:=zaa (zhr n 65536);go_enter func137,ntmps137;go_wp2;go_ret;exact⟨congrArg (fun b=>Ending.returned (.bool b)) HE.out,Below.refl _ _⟩
theorem rn5 (n:Nat)(w:World):Calls prog 137 #[.int .u8 5,.int .u64 n] w (zaj (decide (n < 4294967296)) w):=by
 have HE:=zaa (zhr n 4294967296);go_enter func137,ntmps137;go_wp2;go_ret;exact⟨congrArg (fun b=>Ending.returned (.bool b)) HE.out,Below.refl _ _⟩
theorem rn11 (n:Nat)(w:World):Calls prog 137 #[.int .u8 11,.int .u64 n] w (zaj (decide (n < 4294967296)) w):=by
 have HE:=zaa (zhr n 4294967296);go_enter func137,ntmps137;go_wp2;go_ret;exact⟨congrArg (fun b=>Ending.returned (.bool b)) HE.out,Below.refl _ _⟩
theorem rn7 (n:Nat)(hn:n < 18446744073709551616)(w:World):Calls prog 137 #[.int .u8 7,.int .u64 n] w (zaj (sgB 128 n) w):=by
 have HE:=zaa (conv8 n hn);clear hn;go_enter func137,ntmps137;go_wp2;go_ret;exact⟨congrArg (fun b=>Ending.returned (.bool b)) HE.out,Below.refl _ _⟩
theorem rn8 (n:Nat)(hn:n < 18446744073709551616)(w:World):Calls prog 137 #[.int .u8 8,.int .u64 n] w (zaj (sgB 32768 n) w):=by
 have HE:=zaa (conv16 n hn);clear hn;go_enter func137,ntmps137;go_wp2;go_ret;exact⟨congrArg (fun b=>Ending.returned (.bool b)) HE.out,Below.refl _ _⟩
theorem rn9 (n:Nat)(hn:n < 18446744073709551616)(w:World):Calls prog 137 #[.int .u8 9,.int .u64 n] w (zaj (sgB 2147483648 n) w):=by
 have HE:=zaa (conv32' n hn);clear hn;go_enter func137,ntmps137;go_wp2;go_ret;exact⟨congrArg (fun b=>Ending.returned (.bool b)) HE.out,Below.refl _ _⟩
theorem rn13 (n:Nat)(w:World):Calls prog 137 #[.int .u8 13,.int .u64 n] w (zaj (isC n) w):=by
 go_enter func137,ntmps137;go_wp2_with fail;refine(zfr n _).mono ?_;rintro e w1 ⟨rfl,rfl⟩;go_wp2;go_ret;exact⟨rfl,Below.refl _ _⟩
theorem rnx (k n:Nat)(w:World)(h:k≠2∧k≠3∧k≠4∧k≠5∧k≠11∧k≠7∧k≠8∧k≠9∧k≠13):Calls prog 137 #[.int .u8 k,.int .u64 n] w (zaj true w):=by
 have d2:((k:Int)==2)=false:=by rw[zac];omega
 have d3:((k:Int)==3)=false:=by rw[zac];omega
 have d4:((k:Int)==4)=false:=by rw[zac];omega
 have d5:((k:Int)==5)=false:=by rw[zac];omega
 have d11:((k:Int)==11)=false:=by rw[zac];omega
 have d7:((k:Int)==7)=false:=by rw[zac];omega
 have d8:((k:Int)==8)=false:=by rw[zac];omega
 have d9:((k:Int)==9)=false:=by rw[zac];omega
 have d13:((k:Int)==13)=false:=by rw[zac];omega
 clear h;go_enter func137,ntmps137;go_wp2;go_ret;exact⟨rfl,Below.refl _ _⟩
theorem zf3 (k n:Nat)(hn:n < 18446744073709551616)(w:World):Calls prog 137 #[.int .u8 k,.int .u64 n] w (zaj (numB k n) w):=by
 unfold numB;by_cases h2:k=2
 ·subst h2;exact rn2 n w
 rw[if_neg h2];by_cases h3:k=3
 ·subst h3;exact rn3 n w
 rw[if_neg h3];by_cases h4:k=4
 ·subst h4;exact rn4 n w
 rw[if_neg h4];by_cases h5:k=5∨k=11
 ·rw[if_pos h5];rcases h5 with rfl | rfl
  ·exact rn5 n w
  ·exact rn11 n w
 rw[if_neg h5];by_cases h7:k=7
 ·subst h7;exact rn7 n hn w
 rw[if_neg h7];by_cases h8:k=8
 ·subst h8;exact rn8 n hn w
 rw[if_neg h8];by_cases h9:k=9
 ·subst h9;exact rn9 n hn w
 rw[if_neg h9];by_cases yU:k=13
 ·subst yU;exact rn13 n w
 rw[if_neg yU];exact rnx k n w ⟨h2,h3,h4,fun h=>h5 (.inl h),fun h=>h5 (.inr h),h7,h8,h9,yU⟩
def nb (t:ByteArray):Lz:=t.data.toList.map UInt8.toNat
theorem zre (t:ByteArray):(nb t).length=t.size:=by simp[nb]
theorem zen (w:World)(t:ByteArray):∃ w' c,(convert 9 22 (.string t)).run prog w=.ok (.slice (some ⟨w.heap.size,0,none⟩) t.size c) w'∧t.size≤c ∧
  Rd .u8 256 w' w'.heap.size (some ⟨w.heap.size,0,none⟩) t.size (nb t)∧Below w.heap.size w w':=by
 refine⟨_,_,Lib.run_convert_string_bytes w 9 22 5 t under9 underlying22 underlying5,?_,⟨zre t,?_,fun _=>⟨w.heap.size,0,rfl,?_,fun k hk=>?_⟩⟩,?_⟩
 ·have:=grownCap_ge w t.size 0 5;omega
 ·intro x hx;obtain⟨y,_,rfl⟩:=List.mem_map.1 hx;exact UInt8.toNat_lt y
 ·rw[Lib.bytesWorld_size];omega
 ·have Gn:k < t.size:=by rw[zre] at hk;exact hk
  rw[Nat.zero_add,Lib.bytesWorld_cell w _ t k Gn];have hl:k < t.data.toList.length:=by simpa using Gn
  simp only[nb,List.getElem_map];rw[ya4,ya0 hl];rfl
 ·exact⟨rfl,rfl,rfl,by rw[Lib.bytesWorld_size];omega,fun k hk=>Lib.bytesWorld_at_old w _ t k hk⟩
noncomputable def utfB (t:ByteArray):Bool:=@decide (∃ cs,IsT (nb t) cs) (Classical.propDecidable _)
theorem zfu {t:ByteArray}(h:∃ cs,IsT (nb t) cs):utfB t=true:=by simp only[utfB,decide_eq_true_eq];exact h
theorem zjN {t:ByteArray}(h:NoT (nb t)):utfB t=false:=by
 simp only[utfB,decide_eq_false_iff_not];rintro⟨cs,hc⟩;exact h cs hc
noncomputable def zb1 (k:Nat)(t:ByteArray):Bool:=
 if k=15∨k=18 then decide (t.size=16) else if k=16 then decide (t.size=4) else if k=17 then decide (t.size=8) else if k=20 then utfB t else if k=21 then asc (nb t) else true
theorem zeo (n m:Nat):((n:Int)==(m:Int))=decide (n=m):=by
 by_cases h:n=m
 ·subst h;simp
 ·rw[decide_eq_false h,zac];omega
theorem rt15 (t:ByteArray)(w:World):Calls prog 138 #[.int .u8 15,.string t] w (zaj (decide (t.size=16)) w):=by
 have HE:=zaa (zeo t.size 16);go_enter func138,ntmps138;go_wp2;go_ret;exact⟨congrArg (fun b=>Ending.returned (.bool b)) HE.out,Below.refl _ _⟩
theorem rt18 (t:ByteArray)(w:World):Calls prog 138 #[.int .u8 18,.string t] w (zaj (decide (t.size=16)) w):=by
 have HE:=zaa (zeo t.size 16);go_enter func138,ntmps138;go_wp2;go_ret;exact⟨congrArg (fun b=>Ending.returned (.bool b)) HE.out,Below.refl _ _⟩
theorem rt16 (t:ByteArray)(w:World):Calls prog 138 #[.int .u8 16,.string t] w (zaj (decide (t.size=4)) w):=by
 have HE:=zaa (zeo t.size 4);go_enter func138,ntmps138;go_wp2;go_ret;exact⟨congrArg (fun b=>Ending.returned (.bool b)) HE.out,Below.refl _ _⟩
theorem rt17 (t:ByteArray)(w:World):Calls prog 138 #[.int .u8 17,.string t] w (zaj (decide (t.size=8)) w):=by
 have HE:=zaa (zeo t.size 8);go_enter func138,ntmps138;go_wp2;go_ret;exact⟨congrArg (fun b=>Ending.returned (.bool b)) HE.out,Below.refl _ _⟩
theorem rt20 (t:ByteArray)(w:World)(ht:Tab w)(hs:t.size≤1073741824):Calls prog 138 #[.int .u8 20,.string t] w (zaj (utfB t) w):=by
 obtain⟨w1,c,gw,hc,hr,hb⟩:=zen w t;have GM:=ht.call hb;go_enter func138,ntmps138;go_wp2_with fail;refine(zin _ _ _ _ w1 GM hr hc (by omega)).mono ?_;rintro e w2 ⟨⟨hT,rfl⟩ | ⟨hN,rfl⟩,He⟩
 ·have HB:=zaa (zfu hT);clear hT;go_wp2;go_ret;exact⟨by rw[HB.out];rfl,zad hb He⟩
 ·have HB:=zaa (zjN hN);clear hN;go_wp2;go_ret;exact⟨by rw[HB.out];rfl,zad hb He⟩
theorem rt21 (t:ByteArray)(w:World)(hs:t.size≤1073741824):Calls prog 138 #[.int .u8 21,.string t] w (zaj (asc (nb t)) w):=by
 obtain⟨w1,c,gw,hc,hr,hb⟩:=zen w t;go_enter func138,ntmps138;go_wp2_with fail;refine(zmN _ _ _ _ _ w1 hr (by omega)).mono ?_;rintro e w2 ⟨rfl,rfl⟩;go_wp2;go_ret;exact⟨rfl,hb⟩
theorem rtx (k:Nat)(t:ByteArray)(w:World)(h:k≠15∧k≠18∧k≠16∧k≠17∧k≠20∧k≠21):Calls prog 138 #[.int .u8 k,.string t] w (zaj true w):=by
 have d15:((k:Int)==15)=false:=by rw[zac];omega
 have d18:((k:Int)==18)=false:=by rw[zac];omega
 have d16:((k:Int)==16)=false:=by rw[zac];omega
 have d17:((k:Int)==17)=false:=by rw[zac];omega
 have d20:((k:Int)==20)=false:=by rw[zac];omega
 have d21:((k:Int)==21)=false:=by rw[zac];omega
 clear h;go_enter func138,ntmps138;go_wp2;go_ret;exact⟨rfl,Below.refl _ _⟩
theorem zht (k:Nat)(t:ByteArray)(w:World)(ht:Tab w)(hs:t.size≤1073741824):Calls prog 138 #[.int .u8 k,.string t] w (zaj (zb1 k t) w):=by
 unfold zb1;by_cases JW:k=15∨k=18
 ·rw[if_pos JW];rcases JW with rfl | rfl
  ·exact rt15 t w
  ·exact rt18 t w
 rw[if_neg JW];by_cases YK:k=16
 ·subst YK;exact rt16 t w
 rw[if_neg YK];by_cases Bw:k=17
 ·subst Bw;exact rt17 t w
 rw[if_neg Bw];by_cases jh:k=20
 ·subst jh;exact rt20 t w ht hs
 rw[if_neg jh];by_cases JD:k=21
 ·subst JD;exact rt21 t w hs
 rw[if_neg JD];exact rtx k t w ⟨fun h=>JW (.inl h),fun h=>JW (.inr h),YK,Bw,jh,JD⟩
def zaW (t:ByteArray):Bool:=decide (t.size=0)
theorem empty_eq {t:ByteArray}(h:t.size=0):t=⟨#[]⟩:=by
 obtain⟨a⟩:=t;have:a=#[]:=by apply Array.eq_empty_of_size_eq_zero;exact h
 rw[this]
theorem zhu {t:ByteArray}(h:¬ t.size=0):¬ t.toList=[]:=fun e=>h (by
 have e2:t=⟨#[]⟩:=zdc (t:=⟨#[]⟩) (by rw[e];simp);rw[e2];rfl)
noncomputable def zam (k n:Nat)(t:ByteArray)(l:Nat):Bool:=
 if k=1 then decide (n=0)&&zaW t&&decide (l=0)
 else if 2≤k∧k≤14 then zaW t&&decide (l=0)&&numB k n
 else if 15≤k∧k≤21 then decide (n=0)&&decide (l=0)&&zb1 k t
 else if 22≤k∧k≤25 then decide (n=0)&&zaW t else false
theorem zdh {t:ByteArray}(h:¬ t.size=0):t.toList.isEmpty=false:=by
 have:=zhu h;cases hl:t.toList with
 | nil=>exact absurd hl this
 | cons=>rfl
theorem zdi:zaW ⟨#[]⟩=true:=by simp[zaW];rfl
theorem ra1 (n:Nat)(t:ByteArray)(A:Oz)(l c:Nat)(w:World) :
  Calls prog 113 #[.agg #[.int .u8 1,.int .u64 n,.string t,.slice A l c]] w (zaj (decide (n=0)&&zaW t&&decide (l=0)) w):=by
 by_cases h0:n=0
 ·subst h0;by_cases h1:t.size=0
  ·obtain rfl:=empty_eq h1;clear h1;have HE:=zaa (zeo l 0);go_enter func113,ntmps113;go_wp2;go_ret;exact⟨by rw[zdi,←HE.out];rfl,(za _ _)⟩
  ·have d4:=zhu h1;have HB:Hid (zaW t=false):=zaa (by simpa [zaW] using h1);clear h1;go_enter func113,ntmps113;go_wp2;go_ret;exact⟨by rw[HB.out];rfl,(za _ _)⟩
 ·have d4:((n:Int)==0)=false:=by rw[zac];omega
  have HB:Hid (decide (n=0)=false):=zaa (by simpa using h0);clear h0;go_enter func113,ntmps113;go_wp2;go_ret;exact⟨by rw[HB.out];rfl,(za _ _)⟩
theorem ra2 (k n:Nat)(t:ByteArray)(A:Oz)(l c:Nat)(w:World)(hn:n < 18446744073709551616)(hk:2≤k∧k≤14) :
  Calls prog 113 #[.agg #[.int .u8 k,.int .u64 n,.string t,.slice A l c]] w (zaj (zaW t&&decide (l=0)&&numB k n) w):=by
 have d1:((k:Int)==1)=false:=by rw[zac];omega
 have d2:decide (2≤(k:Int))=true:=by simp;omega
 have d3:decide ((k:Int)≤14)=true:=by simp;omega
 clear hk;by_cases h1:t.size=0
 ·obtain rfl:=empty_eq h1;clear h1;by_cases h2:l=0
  ·subst h2;have HN:=zaa hn;clear hn;go_enter func113,ntmps113;go_wp2_with fail;refine(zf3 k n HN.out _).mono ?_;rintro e w1 ⟨rfl,hb⟩;have He:=zad ((za _ _)) hb;go_wp2;go_ret;exact⟨by rw[zdi];rfl,He⟩
  ·have d4:((l:Int)==0)=false:=by rw[zac];omega
   have HB:Hid (decide (l=0)=false):=zaa (by simpa using h2);clear h2 hn;go_enter func113,ntmps113;go_wp2;go_ret;exact⟨by rw[HB.out,Bool.and_false];rfl,(za _ _)⟩
 ·have d4:=zhu h1;have HB:Hid (zaW t=false):=zaa (by simpa [zaW] using h1);clear h1 hn;go_enter func113,ntmps113;go_wp2;go_ret;exact⟨by rw[HB.out];rfl,(za _ _)⟩
theorem ra3 (k n:Nat)(t:ByteArray)(A:Oz)(l c:Nat)(w:World)(ht:Tab w)(hs:t.size≤1073741824)(hk:15≤k∧k≤21) :
  Calls prog 113 #[.agg #[.int .u8 k,.int .u64 n,.string t,.slice A l c]] w (zaj (decide (n=0)&&decide (l=0)&&zb1 k t) w):=by
 have d1:((k:Int)==1)=false:=by rw[zac];omega
 have d2:decide (2≤(k:Int))=true:=by simp;omega
 have d3:decide ((k:Int)≤14)=false:=by simp;omega
 have d5:decide (15≤(k:Int))=true:=by simp;omega
 have d6:decide ((k:Int)≤21)=true:=by simp;omega
 clear hk;by_cases h1:n=0
 ·subst h1;by_cases h2:l=0
  ·subst h2;go_enter func113,ntmps113;go_wp2_with fail;refine(zht k t _ (ht.call ((za _ _))) hs).mono ?_;rintro e w1 ⟨rfl,hb⟩;have He:=zad ((za _ _)) hb;go_wp2;go_ret;exact⟨rfl,He⟩
  ·have d4:((l:Int)==0)=false:=by rw[zac];omega
   have HB:Hid (decide (l=0)=false):=zaa (by simpa using h2);clear h2;go_enter func113,ntmps113;go_wp2;go_ret;exact⟨by rw[HB.out,Bool.and_false];rfl,(za _ _)⟩
 ·have d4:((n:Int)==0)=false:=by rw[zac];omega
  have HB:Hid (decide (n=0)=false):=zaa (by simpa using h1);clear h1;go_enter func113,ntmps113;go_wp2;go_ret;exact⟨by rw[HB.out];rfl,(za _ _)⟩
theorem ra4 (k n:Nat)(t:ByteArray)(A:Oz)(l c:Nat)(w:World)(hk:22≤k∧k≤25) :
  Calls prog 113 #[.agg #[.int .u8 k,.int .u64 n,.string t,.slice A l c]] w (zaj (decide (n=0)&&zaW t) w):=by
 have d1:((k:Int)==1)=false:=by rw[zac];omega
 have d2:decide (2≤(k:Int))=true:=by simp;omega
 have d3:decide ((k:Int)≤14)=false:=by simp;omega
 have d5:decide (15≤(k:Int))=true:=by simp;omega
 have d6:decide ((k:Int)≤21)=false:=by simp;omega
 have d7:decide (22≤(k:Int))=true:=by simp;omega
 have d8:decide ((k:Int)≤25)=true:=by simp;omega
 clear hk;by_cases h1:n=0
 ·subst h1;by_cases h2:t.size=0
  ·obtain rfl:=empty_eq h2;clear h2;go_enter func113,ntmps113;go_wp2;go_ret;exact⟨by rw[zdi];rfl,(za _ _)⟩
  ·have d4:=zdh h2;have HB:Hid (zaW t=false):=zaa (by simpa [zaW] using h2);clear h2;go_enter func113,ntmps113;go_wp2;go_ret;exact⟨by rw[HB.out,Bool.and_false];rfl,(za _ _)⟩
 ·have d4:((n:Int)==0)=false:=by rw[zac];omega
  have HB:Hid (decide (n=0)=false):=zaa (by simpa using h1);clear h1;go_enter func113,ntmps113;go_wp2;go_ret;exact⟨by rw[HB.out];rfl,(za _ _)⟩
theorem ra0 (n:Nat)(t:ByteArray)(A:Oz)(l c:Nat)(w:World) :
  Calls prog 113 #[.agg #[.int .u8 0,.int .u64 n,.string t,.slice A l c]] w (zaj false w):=by
 go_enter func113,ntmps113;go_wp2;go_ret;exact⟨rfl,(za _ _)⟩
theorem rax (k n:Nat)(t:ByteArray)(A:Oz)(l c:Nat)(w:World)(hk:26≤k) :
  Calls prog 113 #[.agg #[.int .u8 k,.int .u64 n,.string t,.slice A l c]] w (zaj false w):=by
 have d1:((k:Int)==1)=false:=by rw[zac];omega
 have d2:decide (2≤(k:Int))=true:=by simp;omega
 have d3:decide ((k:Int)≤14)=false:=by simp;omega
 have d5:decide (15≤(k:Int))=true:=by simp;omega
 have d6:decide ((k:Int)≤21)=false:=by simp;omega
 have d7:decide (22≤(k:Int))=true:=by simp;omega
 have d8:decide ((k:Int)≤25)=false:=by simp;omega
 clear hk;go_enter func113,ntmps113;go_wp2;go_ret;exact⟨rfl,(za _ _)⟩
theorem zdP (k n:Nat)(t:ByteArray)(A:Oz)(l c:Nat)(w:World)(ht:Tab w)(hs:t.size≤1073741824)(hn:n < 18446744073709551616) :
  Calls prog 113 #[.agg #[.int .u8 k,.int .u64 n,.string t,.slice A l c]] w (zaj (zam k n t l) w):=by
 unfold zam;by_cases h1:k=1
 ·subst h1;exact ra1 n t A l c w
 rw[if_neg h1];by_cases h2:2≤k∧k≤14
 ·rw[if_pos h2];exact ra2 k n t A l c w hn h2
 rw[if_neg h2];by_cases h3:15≤k∧k≤21
 ·rw[if_pos h3];exact ra3 k n t A l c w ht hs h3
 rw[if_neg h3];by_cases h4:22≤k∧k≤25
 ·rw[if_pos h4];exact ra4 k n t A l c w h4
 rw[if_neg h4];by_cases h0:k=0
 ·subst h0;exact ra0 n t A l c w
 ·exact rax k n t A l c w (by omega)
theorem zaU (t:ByteArray):t.toList.isEmpty=zaW t:=by
 by_cases h:t.size=0
 ·obtain rfl:=empty_eq h;rw[zdi];simp
 ·rw[zdh h];exact(show zaW t=false by simpa [zaW] using h).symm
theorem zaJ (w:World)(o:Obj):Below w.heap.size w (w.alloc o):=(za _ _)
theorem pl1 (n:Nat)(t:ByteArray)(A:Oz)(c:Nat)(w:World) :
  Calls prog 122 #[.agg #[.int .u8 1,.int .u64 n,.string t,.slice A 0 c]] w (zaj (decide (n=0)&&zaW t) w):=by
 have HT:=zaa (zaU t);by_cases hP:n=0
 ·have d:((n:Int)==0)=true:=by rw[beq_iff_eq];omega
  have HP:=zaa (decide_eq_true hP);clear hP;go_enter func122,ntmps122;go_wp2;go_ret;exact⟨by rw[HP.out,Bool.true_and,←HT.out];rfl,zaJ _ _⟩
 ·have d:((n:Int)==0)=false:=by rw[zac];omega
  have HP:=zaa (decide_eq_false hP);clear hP;go_enter func122,ntmps122;go_wp2;go_ret;exact⟨by rw[HP.out];rfl,zaJ _ _⟩
theorem pl2 (n:Nat)(t:ByteArray)(A:Oz)(c:Nat)(w:World) :
  Calls prog 122 #[.agg #[.int .u8 2,.int .u64 n,.string t,.slice A 0 c]] w (zaj (decide (n≤1)&&zaW t) w):=by
 have HT:=zaa (zaU t);by_cases hP:n≤1
 ·have d:decide ((n:Int)≤1)=true:=by simp;omega
  have HP:=zaa (decide_eq_true hP);clear hP;go_enter func122,ntmps122;go_wp2;go_ret;exact⟨by rw[HP.out,Bool.true_and,←HT.out];rfl,zaJ _ _⟩
 ·have d:decide ((n:Int)≤1)=false:=by simp;omega
  have HP:=zaa (decide_eq_false hP);clear hP;go_enter func122,ntmps122;go_wp2;go_ret;exact⟨by rw[HP.out];rfl,zaJ _ _⟩
theorem pl3 (n:Nat)(t:ByteArray)(A:Oz)(c:Nat)(w:World) :
  Calls prog 122 #[.agg #[.int .u8 3,.int .u64 n,.string t,.slice A 0 c]] w (zaj (decide (n < 256)&&zaW t) w):=by
 have HT:=zaa (zaU t);by_cases hP:n < 256
 ·have d:decide ((n:Int) < 256)=true:=by simp;omega
  have HP:=zaa (decide_eq_true hP);clear hP;go_enter func122,ntmps122;go_wp2;go_ret;exact⟨by rw[HP.out,Bool.true_and,←HT.out];rfl,zaJ _ _⟩
 ·have d:decide ((n:Int) < 256)=false:=by simp;omega
  have HP:=zaa (decide_eq_false hP);clear hP;go_enter func122,ntmps122;go_wp2;go_ret;exact⟨by rw[HP.out];rfl,zaJ _ _⟩
theorem pl4 (n:Nat)(t:ByteArray)(A:Oz)(c:Nat)(w:World) :
  Calls prog 122 #[.agg #[.int .u8 4,.int .u64 n,.string t,.slice A 0 c]] w (zaj (decide (n < 65536)&&zaW t) w):=by
 have HT:=zaa (zaU t);by_cases hP:n < 65536
 ·have d:decide ((n:Int) < 65536)=true:=by simp;omega
  have HP:=zaa (decide_eq_true hP);clear hP;go_enter func122,ntmps122;go_wp2;go_ret;exact⟨by rw[HP.out,Bool.true_and,←HT.out];rfl,zaJ _ _⟩
 ·have d:decide ((n:Int) < 65536)=false:=by simp;omega
  have HP:=zaa (decide_eq_false hP);clear hP;go_enter func122,ntmps122;go_wp2;go_ret;exact⟨by rw[HP.out];rfl,zaJ _ _⟩
theorem pl5 (n:Nat)(t:ByteArray)(A:Oz)(c:Nat)(w:World) :
  Calls prog 122 #[.agg #[.int .u8 5,.int .u64 n,.string t,.slice A 0 c]] w (zaj (decide (n < 4294967296)&&zaW t) w):=by
 have HT:=zaa (zaU t);by_cases hP:n < 4294967296
 ·have d:decide ((n:Int) < 4294967296)=true:=by simp;omega
  have HP:=zaa (decide_eq_true hP);clear hP;go_enter func122,ntmps122;go_wp2;go_ret;exact⟨by rw[HP.out,Bool.true_and,←HT.out];rfl,zaJ _ _⟩
 ·have d:decide ((n:Int) < 4294967296)=false:=by simp;omega
  have HP:=zaa (decide_eq_false hP);clear hP;go_enter func122,ntmps122;go_wp2;go_ret;exact⟨by rw[HP.out];rfl,zaJ _ _⟩
theorem pl11 (n:Nat)(t:ByteArray)(A:Oz)(c:Nat)(w:World) :
  Calls prog 122 #[.agg #[.int .u8 11,.int .u64 n,.string t,.slice A 0 c]] w (zaj (decide (n < 4294967296)&&zaW t) w):=by
 have HT:=zaa (zaU t);by_cases hP:n < 4294967296
 ·have d:decide ((n:Int) < 4294967296)=true:=by simp;omega
  have HP:=zaa (decide_eq_true hP);clear hP;go_enter func122,ntmps122;go_wp2;go_ret;exact⟨by rw[HP.out,Bool.true_and,←HT.out];rfl,zaJ _ _⟩
 ·have d:decide ((n:Int) < 4294967296)=false:=by simp;omega
  have HP:=zaa (decide_eq_false hP);clear hP;go_enter func122,ntmps122;go_wp2;go_ret;exact⟨by rw[HP.out];rfl,zaJ _ _⟩
theorem pl7 (n:Nat)(t:ByteArray)(A:Oz)(c:Nat)(w:World)(hn:n < 18446744073709551616) :
  Calls prog 122 #[.agg #[.int .u8 7,.int .u64 n,.string t,.slice A 0 c]] w (zaj (sgB 128 n&&zaW t) w):=by
 have HT:=zaa (zaU t);have HN:=zaa hn;clear hn;go_enter func122,ntmps122;go_wp2_with fail;refine(within8 n HN.out _).mono ?_;rintro e w1 ⟨rfl,hb⟩;have He:=zad (zaJ _ _) hb;have h2:w1.cell? ⟨w.heap.size,2,none⟩=some (.string t):=zaQ (by simp) hb (by simp);cases hq:sgB 128 n with
 | true=>
  go_wp2;go_ret;exact⟨by rw[hq,←HT.out];rfl,He⟩
 | false=>
  go_wp2;go_ret;exact⟨by rw[hq];rfl,He⟩
theorem pl8 (n:Nat)(t:ByteArray)(A:Oz)(c:Nat)(w:World)(hn:n < 18446744073709551616) :
  Calls prog 122 #[.agg #[.int .u8 8,.int .u64 n,.string t,.slice A 0 c]] w (zaj (sgB 32768 n&&zaW t) w):=by
 have HT:=zaa (zaU t);have HN:=zaa hn;clear hn;go_enter func122,ntmps122;go_wp2_with fail;refine(within16 n HN.out _).mono ?_;rintro e w1 ⟨rfl,hb⟩;have He:=zad (zaJ _ _) hb;have h2:w1.cell? ⟨w.heap.size,2,none⟩=some (.string t):=zaQ (by simp) hb (by simp);cases hq:sgB 32768 n with
 | true=>
  go_wp2;go_ret;exact⟨by rw[hq,←HT.out];rfl,He⟩
 | false=>
  go_wp2;go_ret;exact⟨by rw[hq];rfl,He⟩
theorem pl9 (n:Nat)(t:ByteArray)(A:Oz)(c:Nat)(w:World)(hn:n < 18446744073709551616) :
  Calls prog 122 #[.agg #[.int .u8 9,.int .u64 n,.string t,.slice A 0 c]] w (zaj (sgB 2147483648 n&&zaW t) w):=by
 have HT:=zaa (zaU t);have HN:=zaa hn;clear hn;go_enter func122,ntmps122;go_wp2_with fail;refine(within32 n HN.out _).mono ?_;rintro e w1 ⟨rfl,hb⟩;have He:=zad (zaJ _ _) hb;have h2:w1.cell? ⟨w.heap.size,2,none⟩=some (.string t):=zaQ (by simp) hb (by simp);cases hq:sgB 2147483648 n with
 | true=>
  go_wp2;go_ret;exact⟨by rw[hq,←HT.out];rfl,He⟩
 | false=>
  go_wp2;go_ret;exact⟨by rw[hq];rfl,He⟩
theorem pl6 (n:Nat)(t:ByteArray)(A:Oz)(c:Nat)(w:World) :
  Calls prog 122 #[.agg #[.int .u8 6,.int .u64 n,.string t,.slice A 0 c]] w (zaj (zaW t) w):=by
 have HT:=zaa (zaU t);go_enter func122,ntmps122;go_wp2;go_ret;exact⟨by rw[←HT.out];rfl,zaJ _ _⟩
theorem pl10 (n:Nat)(t:ByteArray)(A:Oz)(c:Nat)(w:World) :
  Calls prog 122 #[.agg #[.int .u8 10,.int .u64 n,.string t,.slice A 0 c]] w (zaj (zaW t) w):=by
 have HT:=zaa (zaU t);go_enter func122,ntmps122;go_wp2;go_ret;exact⟨by rw[←HT.out];rfl,zaJ _ _⟩
theorem pl12 (n:Nat)(t:ByteArray)(A:Oz)(c:Nat)(w:World) :
  Calls prog 122 #[.agg #[.int .u8 12,.int .u64 n,.string t,.slice A 0 c]] w (zaj (zaW t) w):=by
 have HT:=zaa (zaU t);go_enter func122,ntmps122;go_wp2;go_ret;exact⟨by rw[←HT.out];rfl,zaJ _ _⟩
theorem pl14 (n:Nat)(t:ByteArray)(A:Oz)(c:Nat)(w:World) :
  Calls prog 122 #[.agg #[.int .u8 14,.int .u64 n,.string t,.slice A 0 c]] w (zaj (zaW t) w):=by
 have HT:=zaa (zaU t);go_enter func122,ntmps122;go_wp2;go_ret;exact⟨by rw[←HT.out];rfl,zaJ _ _⟩
theorem pl13 (n:Nat)(t:ByteArray)(A:Oz)(c:Nat)(w:World) :
  Calls prog 122 #[.agg #[.int .u8 13,.int .u64 n,.string t,.slice A 0 c]] w (zaj (isC n&&zaW t) w):=by
 have HT:=zaa (zaU t);go_enter func122,ntmps122;go_wp2_with fail;refine(zf0 n _).mono ?_;rintro e w1 ⟨rfl,rfl⟩;cases hq:isC n with
 | true=>
  go_wp2;go_ret;exact⟨by rw[hq,←HT.out];rfl,zaJ _ _⟩
 | false=>
  go_wp2;go_ret;exact⟨by rw[hq];rfl,zaJ _ _⟩
theorem pl15 (n:Nat)(t:ByteArray)(A:Oz)(c:Nat)(w:World) :
  Calls prog 122 #[.agg #[.int .u8 15,.int .u64 n,.string t,.slice A 0 c]] w (zaj (decide (n=0)&&decide (t.size=16)) w):=by
 by_cases hP:n=0
 ·subst hP;have HE:=zaa (zeo t.size 16);go_enter func122,ntmps122;go_wp2;go_ret;exact⟨congrArg (fun b=>Ending.returned (.bool b)) HE.out,zaJ _ _⟩
 ·have d:((n:Int)==0)=false:=by rw[zac];omega
  have HP:=zaa (decide_eq_false hP);clear hP;go_enter func122,ntmps122;go_wp2;go_ret;exact⟨by rw[HP.out];rfl,zaJ _ _⟩
theorem pl18 (n:Nat)(t:ByteArray)(A:Oz)(c:Nat)(w:World) :
  Calls prog 122 #[.agg #[.int .u8 18,.int .u64 n,.string t,.slice A 0 c]] w (zaj (decide (n=0)&&decide (t.size=16)) w):=by
 by_cases hP:n=0
 ·subst hP;have HE:=zaa (zeo t.size 16);go_enter func122,ntmps122;go_wp2;go_ret;exact⟨congrArg (fun b=>Ending.returned (.bool b)) HE.out,zaJ _ _⟩
 ·have d:((n:Int)==0)=false:=by rw[zac];omega
  have HP:=zaa (decide_eq_false hP);clear hP;go_enter func122,ntmps122;go_wp2;go_ret;exact⟨by rw[HP.out];rfl,zaJ _ _⟩
theorem pl16 (n:Nat)(t:ByteArray)(A:Oz)(c:Nat)(w:World) :
  Calls prog 122 #[.agg #[.int .u8 16,.int .u64 n,.string t,.slice A 0 c]] w (zaj (decide (n=0)&&decide (t.size=4)) w):=by
 by_cases hP:n=0
 ·subst hP;have HE:=zaa (zeo t.size 4);go_enter func122,ntmps122;go_wp2;go_ret;exact⟨congrArg (fun b=>Ending.returned (.bool b)) HE.out,zaJ _ _⟩
 ·have d:((n:Int)==0)=false:=by rw[zac];omega
  have HP:=zaa (decide_eq_false hP);clear hP;go_enter func122,ntmps122;go_wp2;go_ret;exact⟨by rw[HP.out];rfl,zaJ _ _⟩
theorem pl17 (n:Nat)(t:ByteArray)(A:Oz)(c:Nat)(w:World) :
  Calls prog 122 #[.agg #[.int .u8 17,.int .u64 n,.string t,.slice A 0 c]] w (zaj (decide (n=0)&&decide (t.size=8)) w):=by
 by_cases hP:n=0
 ·subst hP;have HE:=zaa (zeo t.size 8);go_enter func122,ntmps122;go_wp2;go_ret;exact⟨congrArg (fun b=>Ending.returned (.bool b)) HE.out,zaJ _ _⟩
 ·have d:((n:Int)==0)=false:=by rw[zac];omega
  have HP:=zaa (decide_eq_false hP);clear hP;go_enter func122,ntmps122;go_wp2;go_ret;exact⟨by rw[HP.out];rfl,zaJ _ _⟩
theorem pl19 (n:Nat)(t:ByteArray)(A:Oz)(c:Nat)(w:World) :
  Calls prog 122 #[.agg #[.int .u8 19,.int .u64 n,.string t,.slice A 0 c]] w (zaj (decide (n=0)&&true) w):=by
 by_cases hP:n=0
 ·subst hP;go_enter func122,ntmps122;go_wp2;go_ret;exact⟨rfl,zaJ _ _⟩
 ·have d:((n:Int)==0)=false:=by rw[zac];omega
  have HP:=zaa (decide_eq_false hP);clear hP;go_enter func122,ntmps122;go_wp2;go_ret;exact⟨by rw[HP.out];rfl,zaJ _ _⟩
theorem pl20 (n:Nat)(t:ByteArray)(A:Oz)(c:Nat)(w:World)(hs:t.size≤1073741824) :
  Calls prog 122 #[.agg #[.int .u8 20,.int .u64 n,.string t,.slice A 0 c]] w (zaj (decide (n=0)&&utfB t) w):=by
 by_cases hP:n=0
 ·subst hP;obtain⟨w1,c1,gw,hc,hr,hb⟩:=zen (w.alloc (.cells #[.int .u8 20,.int .u64 0,.string t,.slice A 0 c] 43)) t;simp only[World.size_alloc] at gw hr;go_enter func122,ntmps122;go_wp2_with fail;refine(zlE _ _ _ _ w1 hr (by omega)).mono ?_;rintro e w2 ⟨⟨hT,rfl⟩ | ⟨hN,rfl⟩,He⟩
  ·have HB:=zaa (zfu hT);clear hT;go_wp2;go_ret;exact⟨by rw[HB.out];rfl,zad (zad (zaJ _ _) hb) He⟩
  ·have HB:=zaa (zjN hN);clear hN;go_wp2;go_ret;exact⟨by rw[HB.out];rfl,zad (zad (zaJ _ _) hb) He⟩
 ·have d:((n:Int)==0)=false:=by rw[zac];omega
  have HP:=zaa (decide_eq_false hP);clear hP;go_enter func122,ntmps122;go_wp2;go_ret;exact⟨by rw[HP.out];rfl,zaJ _ _⟩
theorem pl21 (n:Nat)(t:ByteArray)(A:Oz)(c:Nat)(w:World)(hs:t.size≤1073741824) :
  Calls prog 122 #[.agg #[.int .u8 21,.int .u64 n,.string t,.slice A 0 c]] w (zaj (decide (n=0)&&asc (nb t)) w):=by
 by_cases hP:n=0
 ·subst hP;obtain⟨w1,c1,gw,hc,hr,hb⟩:=zen (w.alloc (.cells #[.int .u8 21,.int .u64 0,.string t,.slice A 0 c] 43)) t;simp only[World.size_alloc] at gw hr;go_enter func122,ntmps122;go_wp2_with fail;refine(zlC _ _ _ _ _ w1 hr (by omega)).mono ?_;rintro e w2 ⟨rfl,rfl⟩;go_wp2;go_ret;exact⟨rfl,zad (zaJ _ _) hb⟩
 ·have d:((n:Int)==0)=false:=by rw[zac];omega
  have HP:=zaa (decide_eq_false hP);clear hP;go_enter func122,ntmps122;go_wp2;go_ret;exact⟨by rw[HP.out];rfl,zaJ _ _⟩
theorem plx (k n:Nat)(t:ByteArray)(A:Oz)(c:Nat)(w:World)(h:k=0∨22≤k) :
  Calls prog 122 #[.agg #[.int .u8 k,.int .u64 n,.string t,.slice A 0 c]] w (zaj false w):=by
 have d1:((k:Int)==1)=false:=by rw[zac];omega
 have d2:((k:Int)==2)=false:=by rw[zac];omega
 have d3:((k:Int)==3)=false:=by rw[zac];omega
 have d4:((k:Int)==4)=false:=by rw[zac];omega
 have d5:((k:Int)==5)=false:=by rw[zac];omega
 have d6:((k:Int)==6)=false:=by rw[zac];omega
 have d7:((k:Int)==7)=false:=by rw[zac];omega
 have d8:((k:Int)==8)=false:=by rw[zac];omega
 have d9:((k:Int)==9)=false:=by rw[zac];omega
 have d10:((k:Int)==10)=false:=by rw[zac];omega
 have d11:((k:Int)==11)=false:=by rw[zac];omega
 have d12:((k:Int)==12)=false:=by rw[zac];omega
 have d13:((k:Int)==13)=false:=by rw[zac];omega
 have d14:((k:Int)==14)=false:=by rw[zac];omega
 have d15:((k:Int)==15)=false:=by rw[zac];omega
 have d16:((k:Int)==16)=false:=by rw[zac];omega
 have d17:((k:Int)==17)=false:=by rw[zac];omega
 have d18:((k:Int)==18)=false:=by rw[zac];omega
 have d19:((k:Int)==19)=false:=by rw[zac];omega
 have d20:((k:Int)==20)=false:=by rw[zac];omega
 have d21:((k:Int)==21)=false:=by rw[zac];omega
 clear h;go_enter func122,ntmps122;go_wp2;go_ret;exact⟨rfl,zaJ _ _⟩
theorem pll (k n:Nat)(t:ByteArray)(A:Oz)(l c:Nat)(w:World)(h:0 < l) :
  Calls prog 122 #[.agg #[.int .u8 k,.int .u64 n,.string t,.slice A l c]] w (zaj false w):=by
 have d:decide ((0:Int) < l)=true:=by simp;omega
 go_enter func122,ntmps122;go_wp2;go_ret;exact⟨rfl,zaJ _ _⟩
noncomputable def za2 (k n:Nat)(t:ByteArray)(l:Nat):Bool:=if 22≤k∧k≤25 then false else decide (l=0)&&zam k n t l
theorem zaH {f:FuncId}{xs:Array Value}{p q:Bool}{w:World}(h:Calls prog f xs w (zaj p w))(hq:p=q):Calls prog f xs w (zaj q w):=hq▸h
theorem zlF (k n:Nat)(t:ByteArray)(A:Oz)(l c:Nat)(w:World)(hs:t.size≤1073741824)(hn:n < 18446744073709551616) :
  Calls prog 122 #[.agg #[.int .u8 k,.int .u64 n,.string t,.slice A l c]] w (zaj (za2 k n t l) w):=by
 rcases Nat.eq_zero_or_pos l with rfl | hl
 ·by_cases hx:k=0∨22≤k
  ·refine zaH (plx k n t A c w hx) ?_;simp only[za2,zam];rcases hx with rfl | hx
   ·simp
   ·by_cases h2:k≤25
    ·rw[if_pos ⟨hx,h2⟩]
    ·rw[if_neg (fun h=>h2 h.2),if_neg (by omega),if_neg (by omega),if_neg (by omega),if_neg (by omega),Bool.and_false]
  ·obtain rfl | rfl | rfl | rfl | rfl | rfl | rfl | rfl | rfl | rfl | rfl | rfl | rfl | rfl | rfl | rfl | rfl | rfl | rfl | rfl | rfl:k=1∨k=2∨k=3∨k=4∨k=5∨k=6∨k=7∨k=8∨k=9∨k=10∨k=11∨k=12∨k=13∨k=14∨k=15∨k=16∨k=17∨k=18∨k=19∨k=20∨k=21:=by omega
   ·exact zaH (pl1 n t A c w) (by simp[za2,zam,Bool.and_comm])
   ·exact zaH (pl2 n t A c w) (by simp[za2,zam,numB,Bool.and_comm])
   ·exact zaH (pl3 n t A c w) (by simp[za2,zam,numB,Bool.and_comm])
   ·exact zaH (pl4 n t A c w) (by simp[za2,zam,numB,Bool.and_comm])
   ·exact zaH (pl5 n t A c w) (by simp[za2,zam,numB,Bool.and_comm])
   ·exact zaH (pl6 n t A c w) (by simp[za2,zam,numB,Bool.and_comm])
   ·exact zaH (pl7 n t A c w hn) (by simp[za2,zam,numB,Bool.and_comm])
   ·exact zaH (pl8 n t A c w hn) (by simp[za2,zam,numB,Bool.and_comm])
   ·exact zaH (pl9 n t A c w hn) (by simp[za2,zam,numB,Bool.and_comm])
   ·exact zaH (pl10 n t A c w) (by simp[za2,zam,numB,Bool.and_comm])
   ·exact zaH (pl11 n t A c w) (by simp[za2,zam,numB,Bool.and_comm])
   ·exact zaH (pl12 n t A c w) (by simp[za2,zam,numB,Bool.and_comm])
   ·exact zaH (pl13 n t A c w) (by simp[za2,zam,numB,Bool.and_comm])
   ·exact zaH (pl14 n t A c w) (by simp[za2,zam,numB,Bool.and_comm])
   ·exact zaH (pl15 n t A c w) (by simp[za2,zam,zb1,Bool.and_comm])
   ·exact zaH (pl16 n t A c w) (by simp[za2,zam,zb1,Bool.and_comm])
   ·exact zaH (pl17 n t A c w) (by simp[za2,zam,zb1,Bool.and_comm])
   ·exact zaH (pl18 n t A c w) (by simp[za2,zam,zb1,Bool.and_comm])
   ·exact zaH (pl19 n t A c w) (by simp[za2,zam,zb1,Bool.and_comm])
   ·exact zaH (pl20 n t A c w hs) (by simp[za2,zam,zb1,Bool.and_comm])
   ·exact zaH (pl21 n t A c w hs) (by simp[za2,zam,zb1,Bool.and_comm])
 ·refine zaH (pll k n t A l c w hl) ?_;have h0:decide (l=0)=false:=by simp;omega
  simp[za2,h0]
end Val
namespace Val
open Utf V
mutual
def zbb:V→V→Bool
 | .mk k _ _ ks,b=>decide (k=b.kind)&&(decide (k≠25)||zrf ks b.kids)
def zrf:List V→List V→Bool
 | x::r,x'::r'=>same x x'&&zrg r r'
 | _,_=>false
def zrg:List V→List V→Bool
 | y::_,y'::_=>zbb y y'
 | _,_=>false
end
theorem zcj {k n k' n':Nat}{t t':ByteArray}{ks ks':List V}(h:k≠k'):zbb (.mk k n t ks) (.mk k' n' t' ks')=false:=by simp[zbb,kind,h]
theorem zdj {k n n':Nat}{t t':ByteArray}{ks ks':List V}(h:k≠25):zbb (.mk k n t ks) (.mk k n' t' ks')=true:=by simp[zbb,kind,h]
theorem zck (n n':Nat)(t t':ByteArray)(x y x' y':V)(r r':List V):zbb (.mk 25 n t (x::y::r)) (.mk 25 n' t' (x'::y'::r'))=(same x x'&&zbb y y'):=by simp[zbb,zrf,zrg,kind,kids]
def zbJ:List V→List (V×V)
 | k::v::r=>(k,v)::zbJ r
 | _=>[]
def zf4 (l:List V):List V:=(zbJ l).map (·.1)
def zcy:List V→Bool
 | []=>true
 | x::r=>zcy r && !r.any fun y=>same x y
def zaR (k:Nat)(ks:List V):Bool:=
 if k=23 then decide (ks.length % 2=0)&&zcy (zf4 ks)
 else if k=24 then (match ks with
  | []=>true
  | x::r=>r.all fun y=>zbb x y)
 else if k=25 then (match ks with
  | [x,_]=>zb0 x.kind
  | _=>false)
 else true
mutual
noncomputable def mayB:V→Bool
 | .mk k n t ks=>mayL ks&&zam k n t ks.length&&zaR k ks
noncomputable def mayL:List V→Bool
 | []=>true
 | v::vs=>mayB v&&mayL vs
end
noncomputable def okB (v:V):Bool:=decide (items v≤1024)&&decide (depth v≤16)&&mayB v
theorem zf5 (a b:List V):mayL (a++b)=(mayL a&&mayL b):=by
 induction a with
 | nil=>simp[mayL]
 | cons x a ih=>simp[mayL,ih,Bool.and_assoc]
theorem zio {l:List V}{i:Nat}{v:V}(h:l[i]? = some v):mayL (l.take (i+1))=(mayL (l.take i)&&mayB v):=by
 rw[zbI h,zf5];simp[mayL]
theorem zbj {l:List V}(h:mayL l=true):∀ v∈l,mayB v=true:=by
 induction l with
 | nil=>intro v hv;cases hv
 | cons x l ih=>
  simp only[mayL,yaX] at h;intro v hv;rcases List.mem_cons.1 hv with rfl | hv
  ·exact h.1
  ·exact ih h.2 v hv
theorem zr4 {l:List V}{i:Nat}{v:V}(h:l[i]? = some v)(hv:mayB v=false):mayL l=false:=by
 cases hl:mayL l with
 | false=>rfl
 | true=>rw[zbj hl v (List.mem_of_getElem? h)] at hv;cases hv
theorem zaS {n:Nat}{t:ByteArray}{ks:List V}(h:mayB (.mk 25 n t ks)=true):∃ x y,ks=[x,y]∧zb0 x.kind=true∧mayB x=true∧mayB y=true:=by
 simp only[mayB,zaR,yaX] at h;obtain⟨⟨h1,_⟩,h2⟩:=h;rw[if_neg (by decide),if_neg (by decide),if_pos trivial] at h2
 match ks,h1,h2 with
 | [x,y],h1,h2=>
  simp only[mayL,yaX] at h1;exact⟨x,y,rfl,h2,h1.1,h1.2.1⟩
theorem zbn {k n:Nat}{t:ByteArray}{ks:List V}(h:mayB (.mk k n t ks)=true):mayL ks=true:=by
 simp only[mayB,yaX] at h;exact h.1.1
mutual
theorem zcW:∀ v:V,mayB v=true→zbb v v=true
 | .mk k n t ks,h=>by
  by_cases hk:k=25
  ·subst hk;obtain⟨x,y,rfl,_,_,hy⟩:=zaS h;rw[zck,zeb,zfg [x,y] (zbn h) y (by simp),Bool.and_self]
  ·exact zdj hk
theorem zfg:∀ l:List V,mayL l=true→∀ v∈l,zbb v v=true
 | [],_,_,h=>by cases h
 | x::l,hl,v,h=>by
  simp only[mayL,yaX] at hl;rcases List.mem_cons.1 h with h | h
  ·rw[h];exact zcW x hl.1
  ·exact zfg l hl.2 v h
end
end Val
namespace Utf
open Go.ChangeShapes Go.WideShapes Go.ChangeAt Go.RowKit
theorem own:ownKnob prog.godebug=none:=by kernel_rfl
theorem zmS : prog.globalNamed "bellwether/utf.shapes" = some 0 := by kernel_rfl
theorem zr5:(prog.globals[0]?).map (·.type)=some 186:=by kernel_rfl
theorem cells5:prog.cellsOf 5=1:=by kernel_rfl
theorem cells36:prog.cellsOf 25=1:=by kernel_rfl
theorem cells54:prog.cellsOf 185=3:=by kernel_rfl
theorem cells55:prog.cellsOf 186=12:=by kernel_rfl
abbrev laid : List (String × DataW Unit) := [("bellwether/utf.shapes", Rows.laid_bellwether_utf_shapes)]
theorem zpL (os:Os)(args:Array Value):laidMetH prog laid ((World.doorLaid prog 400 os).forCall (fun _ _=>0) ⟨#[],args,[]⟩).memory:=
 laidMetH_of_parts3 (fuel:=8) (laidMet_of_run' 8 (by kernel_rfl) (by kernel_rfl)) (by kernel_rfl) (by kernel_rfl)
theorem zfv {W:World}{m:Nat}{a b c:Value}{y:DataW Unit×List MemPlace}{x0 x1 x2:Int}(h:DataW.trod (fun _=>()) prog W 0 (fun _=>true) false m 185 [a,b,c]=some y)
  (e:y.1=.agg [.lit (.int .u32 x0),.lit (.int .u8 x1),.lit (.int .u8 x2)]):a=.int .u32 x0∧b=.int .u8 x1∧c=.int .u8 x2:=by
 obtain⟨y0,y1,y2,n,rfl,_,h0,h1,h2⟩:=Go.Deep.trod_struct3 underlying185 h;simp only[cells36,cells5] at h0 h1 h2;obtain⟨k0,e0,f0,_⟩:=DataW.trod_int underlying25 h0;obtain⟨k1,e1,f1,_⟩:=DataW.trod_int underlying5 h1;obtain⟨k2,e2,f2,_⟩:=DataW.trod_int underlying5 h2;subst f0;subst f1;subst f2;simp at e e0 e1 e2;obtain⟨rfl,rfl,rfl⟩:=e;exact⟨e0,e1,e2⟩
theorem zr6 {W:World}(h:laidMetH prog laid W):Tab W:=by
 rw[MakeChecks.laidMetH_plain _ _ _ (by kernel_rfl)] at h;obtain⟨ps,⟨g0,t0,cs0,f0,p0,q0,hg0,ht0,Vc,jI,_⟩,_,_⟩:=h;obtain rfl:=Option.some.inj (zmS.symm.trans hg0);obtain rfl:=Option.some.inj (zr5.symm.trans ht0);obtain⟨xs,m1,e1,GJ,hlen,Vy,YQ⟩:=DataW.trod_array underlying186 jI;rw[cells55] at hlen;simp only[cells54] at YQ;have hx:=congrArg Prod.fst GJ;simp only[Rows.laid_bellwether_utf_shapes,DataW.agg.injEq] at hx;obtain⟨l0⟩:=cs0;have By:=YQ 0 (by decide);have Bz:=YQ 1 (by decide);have BB:=YQ 2 (by decide);have BC:=YQ 3 (by decide);have Cp:l0=tab.toList:=by
  match l0,hlen,xs,Vy,hx,By,Bz,BB,BC with
  | [a0,a1,a2,a3,a4,a5,a6,a7,a8,a9,a10,a11],_,[y0,y1,y2,y3],_,hx,By,Bz,BB,BC=>
   simp only[List.map_cons,List.map_nil,List.cons.injEq,and_true] at hx;obtain⟨r0,r1,r2⟩:=zfv (show DataW.trod _ prog W 0 _ false m1 185 [a0,a1,a2]=some y0 from By) hx.1.symm;obtain⟨r3,r4,r5⟩:=zfv (show DataW.trod _ prog W 0 _ false m1 185 [a3,a4,a5]=some y1 from Bz) hx.2.1.symm;obtain⟨r6,r7,r8⟩:=zfv (show DataW.trod _ prog W 0 _ false m1 185 [a6,a7,a8]=some y2 from BB) hx.2.2.1.symm;obtain⟨r9,r10,r11⟩:=zfv (show DataW.trod _ prog W 0 _ false m1 185 [a9,a10,a11]=some y3 from BC) hx.2.2.2.symm;subst r0;subst r1;subst r2;subst r3;subst r4;subst r5;subst r6;subst r7;subst r8;subst r9;subst r10;subst r11;rfl
 subst Cp;unfold World.var? at Vc;rw[zmS] at Vc;simp only[Option.bind_some] at Vc
 split at Vc
 ·rename_i cs t fr hh;injection Vc with Vc
  subst Vc;exact⟨t,fr,hh⟩
 ·cases Vc
section
variable {H:Type} {enc:TypeId×Value→H}
theorem zpM {z:Int}(h:(Lit.int .u8 z).wf=true):0≤z∧z.toNat < 256:=by
 have:0≤z∧z≤255:=by simpa [Lit.wf,IntKind.min,IntKind.max,IntKind.signed,IntKind.bits] using h
 omega
theorem zmT {K:IntKind}{M:Nat}{t et:TypeId}(ht:prog.underlying t=some (.slice et))(he:prog.underlying et=some (.int K))(UX:prog.cellsOf et=1)(hwf:∀ z:Int,(Lit.int K z).wf=true→0≤z∧z.toNat < M)
  {W:World} {r:Reach} {b0:Nat} {v:Value} {d:DataW H} {p:List MemPlace} (Jt:Value.okWide prog W r b0 t v) (h:DataW.Trod enc prog W 0 (fun _=>true) true t v d p) (Hi:∀ x∈p,x.block < W.heap.size) :
  ∃ A n c l,v=.slice A n c∧n≤c∧c≤maxLen∧Rd K M W W.heap.size A n l:=by
 obtain⟨a0,len,cap,rfl⟩:=okWide_slice ht Jt;obtain⟨fuel,hf⟩:=h;rcases open_ints ht he UX hf with ⟨jl,hx⟩ | ⟨a,len',cap',zs,jl,_,hl,hm,hz,hx,Kx,vZ⟩
 ·simp[Value.cells] at jl;obtain⟨rfl,rfl,rfl⟩:=jl;exact⟨none,0,0,[],rfl,zab,by unfold maxLen;omega,Rd.zero _ _ _ _ _⟩
 ·simp[Value.cells] at jl;obtain⟨rfl,rfl,rfl⟩:=jl;simp only[Prod.mk.injEq] at hx;obtain⟨rfl,rfl⟩:=hx;simp only[if_true] at hz;refine⟨some a,len,cap,(zs.take len).map fun z=>z.toNat,rfl,hl,hm,by simp;omega,?_,fun hn=>?_⟩
  ·intro x hx;obtain⟨z,hz',rfl⟩:=List.mem_map.1 hx;exact(hwf z (vZ z (List.mem_of_mem_take hz'))).2
  obtain⟨b,off,spot⟩:=a;have UD:spot=none:=by simpa [Addr.add] using World.cell?_spot (Kx 0 (by omega))
  subst UD;refine⟨b,off,rfl,Hi (.cell b off) (MemPlace.mem_row.2 ⟨0,by omega,by simp⟩),fun k hk=>?_⟩;have Gn:k < len:=by simp at hk;omega
  have Xj:k < zs.length:=by omega
  have:=Kx k Xj;rw[add_plain] at this;rw[this,ya4,ya0 Xj,Option.getD_some,List.getElem_map,List.getElem_take];have h0:=(hwf _ (vZ _ (List.getElem_mem Xj))).1;rw[Int.toNat_of_nonneg h0]
end
theorem laidOut:laidOutB prog=true:=by kernel_rfl
end Utf
end Go.Proofs.YtbbbanfggcediaaGreatDoor
