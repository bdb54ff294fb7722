/-
  Contracts of functions and plain mathematics, text by text, each with its conditions ahead of it:
  Contracts of the program's message functions beneath Put: what is left out, what a section is called, whether a message may be. Memory that was there stays. Conditions: names of at most 2^30 bytes; of mayBe the table utf.shapes as the program's text lays it.
  Contract of the program's told: the sections of a message that may be. Memory that was there stays. Conditions: names and bodies of at most 2^27 bytes.
  Contract of the program's message Put. Memory that was there stays. Conditions: the table utf.shapes as the program's text lays it; names and bodies of at most 2^27 bytes.
-/
import Derived.Test.YtcilmmdmkpnppaaGreatDoorY02
import Derived.Test.YtcilmmdmkpnppaaGreatDoorY06
import Derived.Test.YtcilmmdmkpnppaaGreatDoorY17
import Derived.Test.YtcilmmdmkpnppaaGreatDoorY19
import Derived.Test.YtcilmmdmkpnppaaGreatDoorY15
import Derived.Deep.RegionHeld3
import Derived.Deep.DeepCutAuto
section
namespace Go.Proofs.YtcilmmdmkpnppaaGreatDoor.Me
set_option maxRecDepth 100000
open Go.RowKit Utf Val Fl Oc V
def BxM (w:World)(g:Nat)(x0 x1 x2 x3 x4:Value):Prop:=w.heap[g]? = some (.cells #[x0,x1,x2,x3,x4] 25 (0,0))
section
variable {w w':World} {g:Nat} {x0 x1 x2 x3 x4:Value}
theorem BxM.lt (h:BxM w g x0 x1 x2 x3 x4):g < w.heap.size:=(Array.getElem?_eq_some_iff.1 h).1
theorem BxM.new (w:World)(x0 x1 x2 x3 x4:Value):BxM (w.alloc (.cells #[x0,x1,x2,x3,x4] 25)) w.heap.size x0 x1 x2 x3 x4:=heap_alloc_new w _
theorem BxM.call (h:BxM w g x0 x1 x2 x3 x4)(hb:Below w.heap.size w w'):BxM w' g x0 x1 x2 x3 x4:=(hb.block g h.lt).trans h
theorem BxM.alloc (h:BxM w g x0 x1 x2 x3 x4)(o:Obj):BxM (w.alloc o) g x0 x1 x2 x3 x4:=h.call ((Below.refl _ _).alloc (Nat.le_refl _) _)
theorem BxM.off {X:Nat→Prop}(h:BxM w g x0 x1 x2 x3 x4)(ho:Off X w w')(hX:¬ X g):BxM w' g x0 x1 x2 x3 x4:=(ho.block g h.lt hX).trans h
theorem BxM.all (h:BxM w g x0 x1 x2 x3 x4):w.cell? ⟨g,0,none⟩=some x0∧w.cell? ⟨g,1,none⟩=some x1∧w.cell? ⟨g,2,none⟩=some x2∧w.cell? ⟨g,3,none⟩=some x3∧w.cell? ⟨g,4,none⟩=some x4∧∀ j,w.frozen? ⟨g,j,none⟩=false:=by
 refine⟨cell_of_row w g 0 _ _ _ h,cell_of_row w g 1 _ _ _ h,cell_of_row w g 2 _ _ _ h,cell_of_row w g 3 _ _ _ h,cell_of_row w g 4 _ _ _ h,fun j=>?_⟩;unfold BxM at h;simp[World.frozen?,h]
end
def mV (p ttl n:Nat)(id:ByteArray)(A:Option Addr)(l c:Nat):Value:=.agg #[.int .u8 (p:Int),.int .u32 (ttl:Int),.int .u32 (n:Int),.string id,.slice A l c]
def GivesW (v:V)(w:World)(e:Ending)(w':World):Prop:=∃ k n:Nat,v=.mk k n ⟨#[]⟩ []∧k < 256∧n < 18446744073709551616∧e=.returned (.agg #[.int .u8 (k:Int),.int .u64 (n:Int),.string ⟨#[]⟩,.slice none 0 0])∧Below w.heap.size w w'
theorem unless_any (z k n:Nat)(w:World)(hk:k < 256)(hn:n < 18446744073709551616):Calls Tryz.prog 55 #[.int .u64 (z:Int),.int .u8 (k:Int),.int .u64 (n:Int)] w (GivesW (wantV (n==z) (.mk k n ⟨#[]⟩ [])) w):=by
 have hx:=Box.new w (.int .u8 0) (.int .u64 0) (.string ⟨#[]⟩) (.slice none 0 0);have hb0:Below w.heap.size w (w.alloc (.cells #[.int .u8 0,.int .u64 0,.string ⟨#[]⟩,.slice none 0 0] 44)):=(Below.refl _ _).alloc (Nat.le_refl _) _;have HX:=Lib.hid hx;have HB:=Lib.hid hb0;have HK:=Lib.hid hk;have HN:=Lib.hid hn;clear hx hb0 hk hn;by_cases h0:n=z
 ·have HF:Hid (wantV (n==z) (.mk k n ⟨#[]⟩ [])=nullV):=Lib.hid (by unfold wantV;rw[if_pos (by simpa using h0)]);have hd:((n:Int)==(z:Int))=true:=by rw[h0];simp
  clear h0;go_enter Tryz.func55,Tryz.ntmps55;go_wp2_with fail
  (with_reducible refine(nul_new _).mono ?_)
  rintro e w1 ⟨rfl,hb1⟩;obtain⟨d0,d1,d2,d3,df⟩:=(HX.out.call hb1).all;have HB1:=Lib.hid (below_next HB.out hb1);clear hb1;go_wp2;refine bodyPost_ret (v:=.agg #[.int .u8 1,.int .u64 0,.string ⟨#[]⟩,.slice none 0 0]) (by simp[results,Tryz.results55,go_sem,d0,d1,d2,d3]) rfl ?_;exact⟨1,0,HF.out,by omega,by omega,rfl,below_set4 HB1.out (by omega) _ _ _ _⟩
 ·have HF:Hid (wantV (n==z) (.mk k n ⟨#[]⟩ [])=.mk k n ⟨#[]⟩ []):=Lib.hid (by unfold wantV;rw[if_neg (by simpa using h0)]);have hd:((n:Int)==(z:Int))=false:=by rw[beq_eq_false_iff_ne];omega
  clear h0;go_enter Tryz.func55,Tryz.ntmps55;go_wp2_with fail
  (with_reducible refine(num_any k n _).mono ?_)
  rintro e w1 ⟨rfl,hb1⟩;obtain⟨d0,d1,d2,d3,df⟩:=(HX.out.call hb1).all;have HB1:=Lib.hid (below_next HB.out hb1);clear hb1;go_wp2;refine bodyPost_ret (v:=.agg #[.int .u8 (k:Int),.int .u64 (n:Int),.string ⟨#[]⟩,.slice none 0 0]) (by simp[results,Tryz.results55,go_sem,d0,d1,d2,d3]) rfl ?_;exact⟨k,n,HF.out,HK.out,HN.out,rfl,below_set4 HB1.out (by omega) _ _ _ _⟩
theorem mbycode_any (code:Nat)(w:World):Calls Tryz.prog 56 #[.int .u64 (code:Int)] w fun e w'=>e=.returned (.agg #[.int .u8 6,.int .u64 (code:Int),.string ⟨#[]⟩,.slice none 0 0])∧Below w.heap.size w w':=by
 have hb0:Below w.heap.size w (w.alloc (.cells #[.int .u8 0,.int .u64 0,.string ⟨#[]⟩,.slice none 0 0] 44)):=(Below.refl _ _).alloc (Nat.le_refl _) _;have hx:=Box.new w (.int .u8 0) (.int .u64 0) (.string ⟨#[]⟩) (.slice none 0 0);have hnum:∀ w,Calls Tryz.prog 20 #[.int .u8 6,.int .u64 (code:Int)] w fun e w'=>e=.returned (.agg #[.int .u8 6,.int .u64 (code:Int),.string ⟨#[]⟩,.slice none 0 0])∧Below w.heap.size w w':=fun w=>Val.number_any 6 code w;go_enter Tryz.func56,Tryz.ntmps56;go_wp2_with fail;refine(hnum _).mono ?_;rintro e w1 ⟨rfl,hb1⟩;obtain⟨d0,d1,d2,d3,df⟩:=(hx.call hb1).all;have HB:=Lib.hid (below_next hb0 hb1);clear hx hb0 hb1 hnum;go_wp2;refine bodyPost_ret (v:=.agg #[.int .u8 6,.int .u64 (code:Int),.string ⟨#[]⟩,.slice none 0 0]) (by simp[results,Tryz.results56,go_sem,d0,d1,d2,d3]) rfl ?_;exact⟨rfl,below_set4 HB.out (by omega) _ _ _ _⟩
theorem isid_any (id:ByteArray)(d:Bool)(hd:decide (id.size≤64)=d)(w:World):Calls Tryz.prog 53 #[.string id] w (GivesB d w):=by
 have hd':decide ((id.size:Int)≤64)=d:=by rw[←hd];simp;omega
 clear hd;go_enter Tryz.func53,Tryz.ntmps53;go_wp2;go_ret;exact⟨rfl,Below.refl _ _⟩
theorem text20 (t:ByteArray):textB 20 t=utfB t:=by
 unfold textB;rw[if_neg (by omega),if_neg (by omega),if_neg (by omega),if_pos rfl]
theorem mayM_eq (p ttl n:Nat)(id:ByteArray)(b:List Nat):mayM ⟨p,ttl,n,id,b⟩=(decide (p≤9)&&(decide (id.size≤64)&&(utfB id&&decide (b.length≤2048)))):=by
 unfold mayM;simp only[text20]
set_option maxHeartbeats 1000000 in
theorem mmay_any (p ttl n:Nat)(id:ByteArray)(A:Option Addr)(l c:Nat)(b:List Nat)(w:World)(hs:id.size≤1073741824)(hl:b.length=l)(hTab:Tab w):Calls Tryz.prog 25 #[mV p ttl n id A l c] w (GivesB (mayM ⟨p,ttl,n,id,b⟩) w):=by
 have hb0:Below w.heap.size w (w.alloc (.cells #[.int .u8 (p:Int),.int .u32 (ttl:Int),.int .u32 (n:Int),.string id,.slice A l c] 25)):=(Below.refl _ _).alloc (Nat.le_refl _) _;have HX:=Lib.hid (BxM.new w (.int .u8 (p:Int)) (.int .u32 (ttl:Int)) (.int .u32 (n:Int)) (.string id) (.slice A l c));have HM:=Lib.hid (mayM_eq p ttl n id b);have HT:=Lib.hid (hTab.call hb0);have HB:=Lib.hid hb0;obtain⟨d,hd⟩:∃ d,decide (id.size≤64)=d:=⟨_,rfl⟩;obtain⟨q,hq⟩:∃ q,decide ((l:Int)≤2048)=q:=⟨_,rfl⟩;rw[hd,hl,show decide (l≤2048)=q by rw[←hq];simp;omega] at HM;have HI:=Lib.hid (fun w=>isid_any id d hd w);have HS:=Lib.hid hs;clear hb0 hd hl hs hTab;unfold mV;by_cases hp:p≤9
 case neg=>
  rw[decide_eq_false hp] at HM;have hd:decide ((p:Int)≤9)=false:=decide_eq_false (by omega);clear hp;go_enter Tryz.func25,Tryz.ntmps25;go_wp2;go_ret;exact⟨by rw[HM.out];rfl,HB.out⟩
 case pos=>
  rw[decide_eq_true hp,Bool.true_and] at HM;have hd:decide ((p:Int)≤9)=true:=decide_eq_true (by omega);clear hp;cases d with
  | false=>
   go_enter Tryz.func25,Tryz.ntmps25;go_wp2_with (go_at_call 53;(with_reducible refine(HI.out _).mono ?_);rintro e w1 ⟨rfl,hb1⟩);go_ret;exact⟨by rw[HM.out];rfl,below_next HB.out hb1⟩
  | true=>
   rw[Bool.true_and] at HM;go_enter Tryz.func25,Tryz.ntmps25;go_wp2_with fail
   (with_reducible refine(HI.out _).mono ?_)
   rintro e w1 ⟨rfl,hb1⟩;obtain⟨e0,e1,e2,e3,e4,ef⟩:=(HX.out.call hb1).all;have HB1:=Lib.hid (below_next HB.out hb1);have HT1:=Lib.hid (HT.out.call hb1);have HX1:=Lib.hid (HX.out.call hb1);obtain⟨w2,cc,hrun,hcc,hr,hb2⟩:=conv_str w1 id;have HB2:=Lib.hid (below_next HB1.out hb2);have HT2:=Lib.hid (HT1.out.call hb2);have HR2:=Lib.hid (right_any (some ⟨w1.heap.size,0,none⟩) id.size cc (nb id) w2 HT2.out hr hcc (by have:=HS.out;omega));have HX2:=Lib.hid (HX1.out.call hb2);clear hb1 hb2 hr hcc;go_wp2_with fail
   (with_reducible refine HR2.out.mono ?_)
   rintro e w3 ⟨⟨hT,rfl⟩ | ⟨hN,rfl⟩,hb3⟩
   ·have HU:=Lib.hid (utfB_yes hT);obtain⟨f0,f1,f2,f3,f4,ff⟩:=(HX2.out.call hb3).all;have HB3:=Lib.hid (below_next HB2.out hb3);clear hT hb3;go_wp2;go_ret;exact⟨by rw[HM.out,HU.out];rfl,HB3.out⟩
   ·have HU:=Lib.hid (utfB_no hN);have HB3:=Lib.hid (below_next HB2.out hb3);clear hN hb3;go_wp2;go_ret;exact⟨by rw[HM.out,HU.out];rfl,HB3.out⟩
end Go.Proofs.YtcilmmdmkpnppaaGreatDoor.Me
end
section
namespace Go.Proofs.YtcilmmdmkpnppaaGreatDoor.Me
set_option maxRecDepth 100000
open Go.RowKit Utf Val Fl Oc V
def GivesS (vs:List V)(w:World)(e:Ending)(w':World):Prop:=∃ A l c,e=.returned (.slice A l c)∧Nw w.heap.size w' vs A l c∧Below w.heap.size w w'
theorem hid_beq (p z:Nat):((p:Int)==(z:Int))=(p==z):=by
 by_cases h:p=z
 ·subst h;simp
 ·have h2:¬ (p:Int)=(z:Int):=by omega
  rw[beq_eq_false_iff_ne.2 h,beq_eq_false_iff_ne.2 h2]
structure TM (w wi:World) (x0 x1 x2 x3 x4:Value):Prop where
 bx:BxM wi w.heap.size x0 x1 x2 x3 x4
 low:Below w.heap.size w wi
section
variable {w wi w':World} {x0 x1 x2 x3 x4:Value}
theorem TM.call (h:TM w wi x0 x1 x2 x3 x4)(hb:Below wi.heap.size wi w'):TM w w' x0 x1 x2 x3 x4:=⟨h.bx.call hb,below_next h.low hb⟩
theorem TM.alloc (h:TM w wi x0 x1 x2 x3 x4)(o:Obj):TM w (wi.alloc o) x0 x1 x2 x3 x4:=h.call ((Below.refl _ _).alloc (Nat.le_refl _) _)
theorem TM.drew (h:TM w wi x0 x1 x2 x3 x4):TM w wi.drew x0 x1 x2 x3 x4:=h.call (Below.refl _ _).drew
theorem TM.c3 (h:TM w wi x0 x1 x2 x3 x4):wi.cell? ⟨w.heap.size,0,none⟩=some x0∧wi.cell? ⟨w.heap.size,1,none⟩=some x1∧wi.cell? ⟨w.heap.size,2,none⟩=some x2∧TM w wi x0 x1 x2 x3 x4:=⟨h.bx.all.1,h.bx.all.2.1,h.bx.all.2.2.1,h⟩
theorem TM.new (w:World)(x0 x1 x2 x3 x4:Value):TM w (w.alloc (.cells #[x0,x1,x2,x3,x4] 25)) x0 x1 x2 x3 x4:=⟨BxM.new _ _ _ _ _ _,(Below.refl _ _).alloc (Nat.le_refl _) _⟩
theorem TM.of3 {p:Prop}{q:Prop}{r:Prop}(h:p∧q∧r∧TM w wi x0 x1 x2 x3 x4):TM w wi x0 x1 x2 x3 x4:=h.2.2.2
theorem TM.grown {A:Option Addr}{n c:Nat}{xs:List Value}(h:TM w wi x0 x1 x2 x3 x4)(hown:wi.ownsRow (w.heap.size+1) 44 4 (.slice A n c) n xs)(hg:wi.grownBy w' (Value.slice A n c).ownBlock):TM w w' x0 x1 x2 x3 x4:=by
 have hb:Below (w.heap.size+1) wi w':=(Below.refl _ _).grown hg (by have:=h.bx.lt;omega) fun k hk=>(hown.lt k hk).1;exact⟨(hb.block _ (by omega)).trans h.bx,h.low.trans (hb.mono (by omega))⟩
end
theorem put112 (ls:List V)(A:Option Addr)(l c:Nat)(w:World)(hN:bulkL ls≤536870912)(hK:Kd w ls A l c):Calls Tryz.prog 21 #[.int .u64 112,.slice A l c] w (GivesU 112 (trim ls) w):=put_any 112 ls A l c w hN (by omega) hK
theorem put115 (ls:List V)(A:Option Addr)(l c:Nat)(w:World)(hN:bulkL ls≤536870912)(hK:Kd w ls A l c):Calls Tryz.prog 21 #[.int .u64 115,.slice A l c] w (GivesU 115 (trim ls) w):=put_any 115 ls A l c w hN (by omega) hK
theorem code117 (w:World):Calls Tryz.prog 56 #[.int .u64 117] w fun e w'=>e=.returned (.agg #[.int .u8 6,.int .u64 117,.string ⟨#[]⟩,.slice none 0 0])∧Below w.heap.size w w':=mbycode_any 117 w
theorem str_new (t:ByteArray)(w:World):Calls Tryz.prog 19 #[.int .u8 20,.string t] w (fun e w'=>e=.returned (.agg #[.int .u8 20,.int .u64 0,.string t,.slice none 0 0])∧Below w.heap.size w w'):=text_any' 20 t w
theorem bin_new (t:ByteArray)(w:World):Calls Tryz.prog 19 #[.int .u8 19,.string t] w (fun e w'=>e=.returned (.agg #[.int .u8 19,.int .u64 0,.string t,.slice none 0 0])∧Below w.heap.size w w'):=text_any' 19 t w
theorem desc_da (t:ByteArray)(w:World)(ht:t.size≤536870912):Calls Tryz.prog 46 #[.agg #[.int .u8 6,.int .u64 117,.string ⟨#[]⟩,.slice none 0 0],.agg #[.int .u8 19,.int .u64 0,.string t,.slice none 0 0]] w (fun e w'=>∃ A1 l1 c1,e=.returned (.agg #[.int .u8 25,.int .u64 0,.string ⟨#[]⟩,.slice A1 l1 c1])∧Nw w.heap.size w' [.mk 6 117 ⟨#[]⟩ [],.mk 19 0 t []] A1 l1 c1∧Below w.heap.size w w'):=
 vdesc_any 6 117 ⟨#[]⟩ [] none 0 0 19 0 t [] none 0 0 w (by simp only[bulkL,bulk,sz0];omega) (by omega) (by omega) (by omega) (by omega) (Kd.none_ _ _ _) (Kd.none_ _ _ _)
theorem unl4 (n:Nat)(w:World)(hn:n < 256):Calls Tryz.prog 55 #[.int .u64 4,.int .u8 3,.int .u64 (n:Int)] w (GivesW (wantV (n==4) (.mk 3 n ⟨#[]⟩ [])) w):=unless_any 4 3 n w (by omega) (by omega)
theorem unl0 (n:Nat)(w:World)(hn:n < 4294967296):Calls Tryz.prog 55 #[.int .u64 0,.int .u8 5,.int .u64 (n:Int)] w (GivesW (wantV (n==0) (.mk 5 n ⟨#[]⟩ [])) w):=unless_any 0 5 n w (by omega) (by omega)
theorem kd_five (w:World)(g:Nat)(hg:w.heap.size=g){k1 n1 k2 n2 k3 n3:Nat}(hk1:k1 < 256)(hn1:n1 < 18446744073709551616)(hk2:k2 < 256)(hn2:n2 < 18446744073709551616)(hk3:k3 < 256)(hn3:n3 < 18446744073709551616) :
  Kd (w.alloc (.cells #[.int .u8 1,.int .u64 0,.string ⟨#[]⟩,.slice none 0 0,.int .u8 (k1:Int),.int .u64 (n1:Int),.string ⟨#[]⟩,.slice none 0 0,.int .u8 (k2:Int),.int .u64 (n2:Int),.string ⟨#[]⟩,.slice none 0 0,.int .u8 1,.int .u64 0,.string ⟨#[]⟩,.slice none 0 0,.int .u8 (k3:Int),.int .u64 (n3:Int),.string ⟨#[]⟩,.slice none 0 0] 44)) [nullV,.mk k1 n1 ⟨#[]⟩ [],.mk k2 n2 ⟨#[]⟩ [],nullV,.mk k3 n3 ⟨#[]⟩ []] (some ⟨g,0,none⟩) 5 5:=by
 subst hg;have hc:∀ j,(w.alloc (.cells #[.int .u8 1,.int .u64 0,.string ⟨#[]⟩,.slice none 0 0,.int .u8 (k1:Int),.int .u64 (n1:Int),.string ⟨#[]⟩,.slice none 0 0,.int .u8 (k2:Int),.int .u64 (n2:Int),.string ⟨#[]⟩,.slice none 0 0,.int .u8 1,.int .u64 0,.string ⟨#[]⟩,.slice none 0 0,.int .u8 (k3:Int),.int .u64 (n3:Int),.string ⟨#[]⟩,.slice none 0 0] 44)).cell? ⟨w.heap.size,j,none⟩=#[Value.int .u8 1,.int .u64 0,.string ⟨#[]⟩,.slice none 0 0,.int .u8 (k1:Int),.int .u64 (n1:Int),.string ⟨#[]⟩,.slice none 0 0,.int .u8 (k2:Int),.int .u64 (n2:Int),.string ⟨#[]⟩,.slice none 0 0,.int .u8 1,.int .u64 0,.string ⟨#[]⟩,.slice none 0 0,.int .u8 (k3:Int),.int .u64 (n3:Int),.string ⟨#[]⟩,.slice none 0 0][j]?:=fun j=>World.cell?_alloc_at _ _ _ _ rfl;refine⟨rfl,Nat.le_refl _,fun _=>⟨w.heap.size,0,rfl,by simp,(fun h=>by cases h),?_⟩⟩;refine⟨repV_iff.2 ⟨none,0,0,hc 0,hc 1,hc 2,hc 3,by omega,by omega,Val.Kids.none_ _ _ _ _ _⟩,repV_iff.2 ⟨none,0,0,hc 4,hc 5,hc 6,hc 7,hk1,hn1,Val.Kids.none_ _ _ _ _ _⟩,repV_iff.2 ⟨none,0,0,hc 8,hc 9,hc 10,hc 11,hk2,hn2,Val.Kids.none_ _ _ _ _ _⟩,repV_iff.2 ⟨none,0,0,hc 12,hc 13,hc 14,hc 15,by omega,by omega,Val.Kids.none_ _ _ _ _ _⟩,repV_iff.2 ⟨none,0,0,hc 16,hc 17,hc 18,hc 19,hk3,hn3,Val.Kids.none_ _ _ _ _ _⟩,trivial⟩
theorem trim_str (t:ByteArray):trim [.mk 20 0 t []]=[.mk 20 0 t []]:=trim_one (by simp[kind])
theorem kid20 (t:ByteArray)(w:World)(g:Nat)(hg:w.heap.size=g):Kd (w.alloc (.cells #[.int .u8 20,.int .u64 0,.string t,.slice none 0 0] 44)) [.mk 20 0 t []] (some ⟨g,0,none⟩) 1 1:=by
 subst hg;exact kid1 (k:=20) (n:=0) (by omega) (by omega) (Kd.none_ _ _ _)
theorem bulk_five (n1 n2 n3 k1 k2 k3:Nat):bulkL [nullV,.mk k1 n1 ⟨#[]⟩ [],.mk k2 n2 ⟨#[]⟩ [],nullV,.mk k3 n3 ⟨#[]⟩ []]≤536870912:=by
 simp only[nullV,bulkL,bulk,sz0];omega
theorem bulk_id {id:ByteArray}(h:id.size≤134217728):bulkL [.mk 20 0 id []]≤536870912:=by
 simp only[bulkL,bulk];omega
theorem sb_lim {w:World}{A:Option Addr}{l:Nat}{b:List Nat}{B:Nat}(h:Rd .u8 256 w B A l b)(hl:l≤134217728):(sb b).size≤536870912:=by
 rw[sb_size,h.len];omega
theorem TM.c4 {w wi:World}{x0 x1 x2 x3 x4:Value}{q:Prop}(h:TM w wi x0 x1 x2 x3 x4)(hq:q):wi.cell? ⟨w.heap.size,4,none⟩=some x4∧q∧TM w wi x0 x1 x2 x3 x4:=⟨h.bx.all.2.2.2.2.1,hq,h⟩
theorem _root_.Go.Proofs.YtcilmmdmkpnppaaGreatDoor.Val.CS.alloc {B:Nat}{wr:World}{A:Option Addr}{n c:Nat}{done:List V}{xs:List Value}(h:CS B wr A n c done xs)(o:Obj):CS B (wr.alloc o) A n c done xs:=h.call ((Below.refl _ _).alloc (Nat.le_refl _) _)
theorem _root_.Go.Proofs.YtcilmmdmkpnppaaGreatDoor.Val.CS.blk {B:Nat}{wr:World}{A:Option Addr}{n c:Nat}{done:List V}{xs:List Value}(h:CS B wr A n c done xs):∀ g,(Value.slice A n c).ownBlock=some g→g < wr.heap.size:=fun g hg=>(h.own.lt g hg).2
theorem cs_snoc {w w2 w3 w9:World}{A:Option Addr}{n c:Nat}{done:List V}{xs:List Value}(hg2:w.heap.size < w2.heap.size)(h:CS (w.heap.size+1) w3 A n c done xs)(hblk:∀ g,(Value.slice A n c).ownBlock=some g→g < w2.heap.size){us:List V}{A3:Option Addr}{l3 c3:Nat}(hN:Nw w2.heap.size w3 us A3 l3 c3){o:Obj}{g cap:Nat}
  (hown:w9.ownsRow (w.heap.size+1) 44 4 (.slice (some ⟨g,0,none⟩) (n+1) cap) (n+1) (xs++[.int .u8 25,.int .u64 0,.string ⟨#[]⟩,.slice A3 l3 c3])) (hg:(w3.alloc o).grownBy w9 (Value.slice A n c).ownBlock) (hat:(Value.slice A n c).ownBlock=some g∨g=(w3.alloc o).heap.size) :
  CS (w.heap.size+1) w9 (some ⟨g,0,none⟩) (n+1) cap (done++[.mk 25 0 ⟨#[]⟩ us]) (xs++[.int .u8 25,.int .u64 0,.string ⟨#[]⟩,.slice A3 l3 c3]):=by
 have:=CS.push (k:=25) (m:=0) (t:=⟨#[]⟩) h (by omega) (by omega) (hN.mono fun i hi=>⟨by have:=hi.1;omega,hi.2,fun e=>by have:=hblk i e;have:=hi.1;omega⟩) o rfl (by simpa using hown) hg (hat.imp id fun h=>by simp at h;omega)
 simpa using this
theorem cs_more {w w2 w3 w9:World}{A:Option Addr}{n c:Nat}{done:List V}{xs:List Value}{b:List Nat}(hg2:w.heap.size < w2.heap.size)(h:CS (w.heap.size+1) w3 A n c done xs)(hblk:∀ g,(Value.slice A n c).ownBlock=some g→g < w2.heap.size)(_:w2.heap.size≤w3.heap.size){A3:Option Addr}{l3 c3:Nat}(hN:Nw w2.heap.size w3 [.mk 6 117 ⟨#[]⟩ [],.mk 19 0 (sb b) []] A3 l3 c3){o:Obj}{g cap:Nat}
  (hown:w9.ownsRow (w.heap.size+1) 44 4 (.slice (some ⟨g,0,none⟩) (n+1) cap) (n+1) (xs++[.int .u8 25,.int .u64 0,.string ⟨#[]⟩,.slice A3 l3 c3])) (hg:(w3.alloc o).grownBy w9 (Value.slice A n c).ownBlock) (hat:(Value.slice A n c).ownBlock=some g∨g=(w3.alloc o).heap.size) :
  CS (w.heap.size+1) w9 (some ⟨g,0,none⟩) (n+1) cap (done++[daV b]) (xs++[.int .u8 25,.int .u64 0,.string ⟨#[]⟩,.slice A3 l3 c3]):=cs_snoc hg2 h hblk hN hown hg hat
theorem cs_pr {w w2 w3 w9:World}{A:Option Addr}{n c:Nat}{done:List V}{xs:List Value}{id:ByteArray}(hg2:w.heap.size < w2.heap.size)(h:CS (w.heap.size+1) w3 A n c done xs)(hblk:∀ g,(Value.slice A n c).ownBlock=some g→g < w2.heap.size)(_:w2.heap.size≤w3.heap.size){A3:Option Addr}{l3 c3:Nat}(hN:Nw w2.heap.size w3 (putL 115 (trim [.mk 20 0 id []])) A3 l3 c3){o:Obj}{g cap:Nat}
  (hown:w9.ownsRow (w.heap.size+1) 44 4 (.slice (some ⟨g,0,none⟩) (n+1) cap) (n+1) (xs++[.int .u8 25,.int .u64 0,.string ⟨#[]⟩,.slice A3 l3 c3])) (hg:(w3.alloc o).grownBy w9 (Value.slice A n c).ownBlock) (hat:(Value.slice A n c).ownBlock=some g∨g=(w3.alloc o).heap.size) :
  CS (w.heap.size+1) w9 (some ⟨g,0,none⟩) (n+1) cap (done++[prV id]) (xs++[.int .u8 25,.int .u64 0,.string ⟨#[]⟩,.slice A3 l3 c3]):=by
 rw[trim_str] at hN;exact cs_snoc hg2 h hblk hN hown hg hat
theorem TM.size6 {w w5 w6:World}{x0 x1 x2 x3 x4:Value}{o:Obj}(h:TM w w5 x0 x1 x2 x3 x4)(_:Below (w5.alloc o).heap.size (w5.alloc o) w6):w.heap.size < (w5.alloc o).heap.size:=by have:=h.bx.lt;simp;omega
theorem cs_one {w w5 w6 w9:World}{x0 x1 x2 x3 x4:Value}{v:V}(_:w.heap.size < w5.heap.size){o5:Obj}(hg2:w.heap.size < (w5.alloc o5).heap.size)(_:TM w w6 x0 x1 x2 x3 x4){us:List V}{A3:Option Addr}{l3 c3:Nat}(hN:Nw (w5.alloc o5).heap.size w6 us A3 l3 c3){o:Obj}{g cap:Nat}
  (hown:w9.ownsRow (w.heap.size+1) 44 4 (.slice (some ⟨g,0,none⟩) (0+1) cap) (0+1) ([]++[.int .u8 25,.int .u64 0,.string ⟨#[]⟩,.slice A3 l3 c3])) (hg:(w6.alloc o).grownBy w9 (Value.slice none 0 0).ownBlock) (hat:(Value.slice none 0 0).ownBlock=some g∨g=(w6.alloc o).heap.size) (hv:v=.mk 25 0 ⟨#[]⟩ us) :
  CS (w.heap.size+1) w9 (some ⟨g,0,none⟩) 1 cap [v] [.int .u8 25,.int .u64 0,.string ⟨#[]⟩,.slice A3 l3 c3]:=by
 subst hv;exact cs_snoc (A:=none) (n:=0) (c:=0) hg2 (CS.nil _ _) (fun g h=>by cases h) hN hown hg hat
theorem hd_of {p ttl n:Nat}{id:ByteArray}{b:List Nat}{k1 n1 k2 n2 k3 n3:Nat}(h1:wantV (p==4) (.mk 3 p ⟨#[]⟩ [])=.mk k1 n1 ⟨#[]⟩ [])(h2:wantV (ttl==0) (.mk 5 ttl ⟨#[]⟩ [])=.mk k2 n2 ⟨#[]⟩ [])(h3:wantV (n==0) (.mk 5 n ⟨#[]⟩ [])=.mk k3 n3 ⟨#[]⟩ []) :
  hdV ⟨p,ttl,n,id,b⟩=.mk 25 0 ⟨#[]⟩ (putL 112 (trim [nullV,.mk k1 n1 ⟨#[]⟩ [],.mk k2 n2 ⟨#[]⟩ [],nullV,.mk k3 n3 ⟨#[]⟩ []])):=by
 unfold hdV hdL;rw[h1,h2,h3]
theorem told_fin {w w9:World}{A:Option Addr}{n c:Nat}{vs us:List V}{xs:List Value}(h:CS (w.heap.size+1) w9 A n c vs xs)(hb:Below w.heap.size w w9)(he:vs=us):GivesS us w (.returned (.slice A n c)) w9:=by
 subst he;exact⟨A,n,c,rfl,h.nw.less (by omega),hb⟩
set_option maxHeartbeats 2000000 in
theorem told_any (p ttl n:Nat)(id:ByteArray)(A:Option Addr)(l c:Nat)(b:List Nat)(w:World)(hp:p < 256)(ht:ttl < 4294967296)(hn:n < 4294967296)(hs:id.size≤134217728)(hl:l≤134217728)(hr:Rd .u8 256 w w.heap.size A l b):Calls Tryz.prog 26 #[mV p ttl n id A l c] w (GivesS (secM ⟨p,ttl,n,id,b⟩) w):=by
 have HT:=Lib.hid (TM.new w (.int .u8 (p:Int)) (.int .u32 (ttl:Int)) (.int .u32 (n:Int)) (.string id) (.slice A l c));have HP:=Lib.hid hp;have HTL:=Lib.hid ht;have HNN:=Lib.hid hn;have HS:=Lib.hid hs;have HL:=Lib.hid hl;have HRD:=Lib.hid hr;have g1:IntKind.u64.wrap (p:Int)=(p:Int):=by rw[IntKind.wrap_u64];omega
 have g2:IntKind.u64.wrap (ttl:Int)=(ttl:Int):=by rw[IntKind.wrap_u64];omega
 have g3:IntKind.u64.wrap (n:Int)=(n:Int):=by rw[IntKind.wrap_u64];omega
 obtain⟨d1,hd1⟩:∃ d,(p==4)=d:=⟨_,rfl⟩;obtain⟨d2,hd2⟩:∃ d,(ttl==0)=d:=⟨_,rfl⟩;obtain⟨d3,hd3⟩:∃ d,(n==0)=d:=⟨_,rfl⟩;have HH:Hid (hasH ⟨p,ttl,n,id,b⟩=(!d1||(!d2 || !d3))):=Lib.hid (by unfold hasH;rw[hd1,hd2,hd3]);have e1:((p:Int)==4)=d1:=by rw[←hd1];exact hid_beq p 4
 have e2:((ttl:Int)==0)=d2:=by rw[←hd2];exact hid_beq ttl 0
 have e3:((n:Int)==0)=d3:=by rw[←hd3];exact hid_beq n 0
 have f1:((p:Int) != 4) = !d1:=by rw[bne,e1]
 have f2:((ttl:Int) != 0) = !d2:=by rw[bne,e2]
 have f3:((n:Int) != 0) = !d3:=by rw[bne,e3]
 clear hp ht hn hs hl hr hd1 hd2 hd3;unfold mV;go_enter Tryz.func26,Tryz.ntmps26;go_upto_region 2 with fail
 go_cut [16] (fun s wx=>s=.bool (hasH ⟨p,ttl,n,id,b⟩)∧TM w wx (.int .u8 (p:Int)) (.int .u32 (ttl:Int)) (.int .u32 (n:Int)) (.string id) (.slice A l c))
 case first=>
  cases d1<;>cases d2<;>cases d3<;>(go_wp2_with fail;go_meet;exact⟨by rw[HH.out];rfl,HT.out⟩)
 case rest=>
  obtain⟨rfl,hT⟩:=hcut;replace HT:=Lib.hid hT;clear hT e1 e2 e3 f1 f2 f3;cases hh:hasH ⟨p,ttl,n,id,b⟩ with
  | true=>
   go_upto_region 3 with fail
   obtain⟨i0,hi,hz0,hz1,hz2⟩:=info_parts infoV;go_cut [3] (fun s wx=>∃ A9 c9 xs9,s=.slice A9 1 c9∧CS (w.heap.size+1) wx A9 1 c9 [hdV ⟨p,ttl,n,id,b⟩] xs9∧TM w wx (.int .u8 (p:Int)) (.int .u32 (ttl:Int)) (.int .u32 (n:Int)) (.string id) (.slice A l c))
   case first=>
    have hT0:=HT.out.drew;go_region_held3 (fun wx=>wx.cell? ⟨w.heap.size,0,none⟩=some (.int .u8 (p:Int))∧wx.cell? ⟨w.heap.size,1,none⟩=some (.int .u32 (ttl:Int))∧wx.cell? ⟨w.heap.size,2,none⟩=some (.int .u32 (n:Int))∧TM w wx (.int .u8 (p:Int)) (.int .u32 (ttl:Int)) (.int .u32 (n:Int)) (.string id) (.slice A l c)) (with_reducible first | assumption | exact TM.c3 hT0 | exact TM.c3 HT.out | exact TM.c3 ht1 | exact TM.c3 ht2 | exact TM.c3 ht3 | exact TM.c3 ht4 | exact TM.c3 ht5 | exact TM.c3 (TM.alloc ht5 _) | exact TM.c3 ht6 | exact TM.c3 (TM.alloc ht6 _) | exact TM.c3 ht7 | fail)
     (first
     | (go_at_call 17;(with_reducible refine(nul_new _).mono ?_);rintro e w4 ⟨rfl,hb4⟩;have ht4:=TM.call ht3 hb4)
     | (go_at_call 17;(with_reducible refine(nul_new _).mono ?_);rintro e w1 ⟨rfl,hb1⟩;have ht1:=TM.call (TM.of3 (by with_reducible assumption)) hb1)
     | (go_at_call 55;(with_reducible refine(unl4 p _ HP.out).mono ?_);rintro e w2 ⟨k1,n1,hv1,hk1,hn1,rfl,hb2⟩;have HV1:=Lib.hid hv1;have HK1:=Lib.hid hk1;have HN1:=Lib.hid hn1;clear hv1 hk1 hn1;have ht2:=TM.call ht1 hb2)
     | (go_at_call 55;(with_reducible refine(unl0 n _ HNN.out).mono ?_);rintro e w5 ⟨k3,n3,hv3,hk3,hn3,rfl,hb5⟩;have HV3:=Lib.hid hv3;have HK3:=Lib.hid hk3;have HN3:=Lib.hid hn3;clear hv3 hk3 hn3;have ht5:=TM.call ht4 hb5)
     | (go_at_call 55;(with_reducible refine(unl0 ttl _ HTL.out).mono ?_);rintro e w3 ⟨k2,n2,hv2,hk2,hn2,rfl,hb3⟩;have HV2:=Lib.hid hv2;have HK2:=Lib.hid hk2;have HN2:=Lib.hid hn2;clear hv2 hk2 hn2;have ht3:=TM.call ht2 hb3)
     | (go_at_call 21;(with_reducible refine(put112 [nullV,.mk k1 n1 ⟨#[]⟩ [],.mk k2 n2 ⟨#[]⟩ [],nullV,.mk k3 n3 ⟨#[]⟩ []] _ 5 5 _ (bulk_five n1 n2 n3 k1 k2 k3) (kd_five w5 _ rfl HK1.out HN1.out HK2.out HN2.out HK3.out HN3.out)).mono ?_);rintro e w6 ⟨A6,l6,c6,rfl,hN6,hb6⟩;have ht6:=TM.call (TM.alloc ht5 (.cells #[.int .u8 1,.int .u64 0,.string ⟨#[]⟩,.slice none 0 0,.int .u8 (k1:Int),.int .u64 (n1:Int),.string ⟨#[]⟩,.slice none 0 0,.int .u8 (k2:Int),.int .u64 (n2:Int),.string ⟨#[]⟩,.slice none 0 0,.int .u8 1,.int .u64 0,.string ⟨#[]⟩,.slice none 0 0,.int .u8 (k3:Int),.int .u64 (n3:Int),.string ⟨#[]⟩,.slice none 0 0] 44)) hb6;have hge6:=True.intro)
     | (refine step_append_lies _ rfl _ _ 42 rfl (w.heap.size+1) 44 i0 _ 4 56 Tryz.underlying42 hi hz0 hz1 hz2 rfl (by omega) _ _ _ rfl (by exact World.ownsRow_nil _ _ _ _) ⟨w6.heap.size,0,none⟩ 1 1 [.int .u8 25,.int .u64 0,.string ⟨#[]⟩,.slice A6 l6 c6] rfl rfl (by exact Val.news4 _ _ _ _ _ _ _ rfl) (fun u hu=>(by simp at hu;rcases hu with rfl | rfl | rfl | rfl<;>rfl)) (by omega) (by unfold maxLen;omega) (by omega) (by have:=(TM.bx ht6).lt;simp;omega) _ rfl ?_;intro g9 cap9 w9 hown9 hgrow9 hat9 hlt9;have ht7:=TM.grown (TM.alloc ht6 _) (A:=none) (n:=0) (c:=0) (World.ownsRow_nil _ _ _ _) hgrow9)
     | fail)
    all_goals
     go_wp2_with fail;go_meet;refine⟨_,_,_,rfl,cs_one (TM.bx ht5).lt (TM.size6 ht5 hb6) ht6 hN6 hown9 hgrow9 hat9 (hd_of HV1.out HV2.out HV3.out),ht7⟩
   case rest=>
    obtain⟨A9,c9,xs9,rfl,hCS,hT⟩:=hcut;have HCS:=Lib.hid hCS;replace HT:=Lib.hid hT;clear hT hCS;obtain⟨x0,x1,x2,x3,x4,xf⟩:=HT.out.bx.all;by_cases h0:id.size=0
    case pos=>
     have HSEC:Hid ([hdV ⟨p,ttl,n,id,b⟩]++[daV b]=secM ⟨p,ttl,n,id,b⟩):=Lib.hid (by unfold secM;rw[hh];(first | rw[if_pos rfl] | rw[if_neg Bool.false_ne_true]);rw[if_pos h0];rfl);have hd:id.toList.isEmpty=true:=by rw[empty_of h0];simp
     clear h0;have hncap:=own_cap HCS.out.own;have hol:=HCS.out.own.lt;go_upto_region 6 with fail
     have hT0:=HT.out.drew;have HRN:=Lib.hid (fun wx (h:TM w wx (.int .u8 (p:Int)) (.int .u32 (ttl:Int)) (.int .u32 (n:Int)) (.string id) (.slice A l c))=>run_str c (HRD.out.call h.low));obtain⟨i0,hi,hz0,hz1,hz2⟩:=info_parts infoV;go_region_held3 (fun wx=>wx.cell? ⟨w.heap.size,4,none⟩=some (.slice A l c)∧(convert 23 9 (.slice A l c)).run Tryz.prog wx=.ok (.string (sb b)) wx∧TM w wx (.int .u8 (p:Int)) (.int .u32 (ttl:Int)) (.int .u32 (n:Int)) (.string id) (.slice A l c)) (with_reducible first | assumption | exact TM.c4 hT0 (HRN.out _ hT0) | exact TM.c4 ht1 (HRN.out _ ht1) | exact TM.c4 ht2 (HRN.out _ ht2) | exact TM.c4 ht3 (HRN.out _ ht3) | exact TM.c4 (TM.alloc ht3 _) (HRN.out _ (TM.alloc ht3 _)) | exact TM.c4 ht7 (HRN.out _ ht7) | fail)
      (first
      | (go_at_call 56;(with_reducible refine(code117 _).mono ?_);rintro e w1 ⟨rfl,hb1⟩;have ht1:=TM.call hT0 hb1;have hc1:=CS.call (CS.drew HCS.out) hb1)
      | (go_at_call 19;(with_reducible refine(bin_new (sb b) _).mono ?_);rintro e w2 ⟨rfl,hb2⟩;have ht2:=TM.call ht1 hb2;have hc2:=CS.call hc1 hb2)
      | (go_at_call 46;(with_reducible refine(desc_da (sb b) _ (sb_lim HRD.out HL.out)).mono ?_);rintro e w3 ⟨A3,l3,c3,rfl,hN3,hb3⟩;have ht3:=TM.call ht2 hb3;have hc3:=CS.call hc2 hb3)
      | (refine step_append_lies _ rfl _ _ 42 rfl (w.heap.size+1) 44 i0 _ 4 56 Tryz.underlying42 hi hz0 hz1 hz2 rfl (by omega) _ _ _ rfl (by exact World.ownsRow.alloc (CS.own hc3) _) ⟨w3.heap.size,0,none⟩ 1 1 [.int .u8 25,.int .u64 0,.string ⟨#[]⟩,.slice A3 l3 c3] rfl rfl (by exact Val.news4 _ _ _ _ _ _ _ rfl) (fun u hu=>(by simp at hu;rcases hu with rfl | rfl | rfl | rfl<;>rfl)) (by omega) (by unfold maxLen;omega) (by omega) (by have:=(TM.bx ht3).lt;simp;omega) _ rfl ?_;intro g9 cap9 w9 hown9 hgrow9 hat9 hlt9;have ht7:=TM.grown (TM.alloc ht3 _) (World.ownsRow.alloc (CS.own hc3) _) hgrow9)
      | fail)
     all_goals
      go_wp2_with fail;go_ret;exact told_fin (cs_more (TM.bx ht2).lt hc3 hc2.blk hb3.size hN3 hown9 hgrow9 hat9) ht7.low (HSEC.out)
    case neg=>
     have hd:id.toList.isEmpty=false:=empty_no' h0;have HSEC:Hid (([hdV ⟨p,ttl,n,id,b⟩]++[prV id])++[daV b]=secM ⟨p,ttl,n,id,b⟩):=Lib.hid (by unfold secM;rw[hh];(first | rw[if_pos rfl] | rw[if_neg Bool.false_ne_true]);rw[if_neg h0];rfl);clear h0;have hncap:=own_cap HCS.out.own;have hlow:=HT.out.low.size;go_upto_region 5 with fail
     obtain⟨i0,hi,hz0,hz1,hz2⟩:=info_parts infoV;go_cut [3] (fun s wx=>∃ A8 c8 xs8,s=.slice A8 (1+1) c8∧CS (w.heap.size+1) wx A8 (1+1) c8 ([hdV ⟨p,ttl,n,id,b⟩]++[prV id]) xs8∧TM w wx (.int .u8 (p:Int)) (.int .u32 (ttl:Int)) (.int .u32 (n:Int)) (.string id) (.slice A l c))
     case first=>
      go_wp2_with (first
       | (go_at_call 19;(with_reducible refine(str_new id _).mono ?_);rintro e w1 ⟨rfl,hb1⟩;have ht1:=TM.call HT.out hb1;have hc1:=CS.call HCS.out hb1)
       | (go_at_call 21;(with_reducible refine(put115 [.mk 20 0 id []] _ 1 1 _ (bulk_id HS.out) (kid20 id w1 _ rfl)).mono ?_);rintro e w2 ⟨A2,l2,c2,rfl,hN2,hb2⟩;have ht2:=TM.call (TM.alloc ht1 (.cells #[.int .u8 20,.int .u64 0,.string id,.slice none 0 0] 44)) hb2;have hc2:=CS.call (CS.alloc hc1 (.cells #[.int .u8 20,.int .u64 0,.string id,.slice none 0 0] 44)) hb2)
       | (at_builtin;refine wpList_append_lies _ rfl _ _ 42 rfl (w.heap.size+1) 44 i0 _ 4 56 Tryz.underlying42 hi hz0 hz1 hz2 rfl (by omega) _ _ _ rfl (World.ownsRow.alloc (CS.own hc2) _) ⟨w2.heap.size,0,none⟩ 1 1 [.int .u8 25,.int .u64 0,.string ⟨#[]⟩,.slice A2 l2 c2] rfl rfl (Val.news4 _ _ _ _ _ _ _ rfl) (fun u hu=>(by simp at hu;rcases hu with rfl | rfl | rfl | rfl<;>rfl)) (by omega) (by unfold maxLen;omega) (by omega) (by have:=(TM.bx ht2).lt;simp;omega) _ rfl ?_;intro g9 cap9 w9 hown9 hgrow9 hat9 hlt9;have ht7:=TM.grown (TM.alloc ht2 _) (World.ownsRow.alloc (CS.own hc2) _) hgrow9)
       | fail)
      go_meet;exact⟨_,_,_,rfl,cs_pr (TM.bx (TM.alloc ht1 (.cells #[.int .u8 20,.int .u64 0,.string id,.slice none 0 0] 44))).lt hc2 (CS.alloc hc1 _).blk hb2.size hN2 hown9 hgrow9 hat9,ht7⟩
     case rest=>
      obtain⟨A8,c8,xs8,rfl,hCS,hT⟩:=hcut;replace HCS:=Lib.hid hCS;replace HT:=Lib.hid hT;clear hT hCS;have hncap:=own_cap HCS.out.own;have hol:=HCS.out.own.lt;go_upto_region 6 with fail
      have hT0:=HT.out.drew;have HRN:=Lib.hid (fun wx (h:TM w wx (.int .u8 (p:Int)) (.int .u32 (ttl:Int)) (.int .u32 (n:Int)) (.string id) (.slice A l c))=>run_str c (HRD.out.call h.low));obtain⟨i0,hi,hz0,hz1,hz2⟩:=info_parts infoV;go_region_held3 (fun wx=>wx.cell? ⟨w.heap.size,4,none⟩=some (.slice A l c)∧(convert 23 9 (.slice A l c)).run Tryz.prog wx=.ok (.string (sb b)) wx∧TM w wx (.int .u8 (p:Int)) (.int .u32 (ttl:Int)) (.int .u32 (n:Int)) (.string id) (.slice A l c)) (with_reducible first | assumption | exact TM.c4 hT0 (HRN.out _ hT0) | exact TM.c4 ht1 (HRN.out _ ht1) | exact TM.c4 ht2 (HRN.out _ ht2) | exact TM.c4 ht3 (HRN.out _ ht3) | exact TM.c4 (TM.alloc ht3 _) (HRN.out _ (TM.alloc ht3 _)) | exact TM.c4 ht7 (HRN.out _ ht7) | fail)
       (first
       | (go_at_call 56;(with_reducible refine(code117 _).mono ?_);rintro e w1 ⟨rfl,hb1⟩;have ht1:=TM.call hT0 hb1;have hc1:=CS.call (CS.drew HCS.out) hb1)
       | (go_at_call 19;(with_reducible refine(bin_new (sb b) _).mono ?_);rintro e w2 ⟨rfl,hb2⟩;have ht2:=TM.call ht1 hb2;have hc2:=CS.call hc1 hb2)
       | (go_at_call 46;(with_reducible refine(desc_da (sb b) _ (sb_lim HRD.out HL.out)).mono ?_);rintro e w3 ⟨A3,l3,c3,rfl,hN3,hb3⟩;have ht3:=TM.call ht2 hb3;have hc3:=CS.call hc2 hb3)
       | (refine step_append_lies _ rfl _ _ 42 rfl (w.heap.size+1) 44 i0 _ 4 56 Tryz.underlying42 hi hz0 hz1 hz2 rfl (by omega) _ _ _ rfl (by exact World.ownsRow.alloc (CS.own hc3) _) ⟨w3.heap.size,0,none⟩ 1 1 [.int .u8 25,.int .u64 0,.string ⟨#[]⟩,.slice A3 l3 c3] rfl rfl (by exact Val.news4 _ _ _ _ _ _ _ rfl) (fun u hu=>(by simp at hu;rcases hu with rfl | rfl | rfl | rfl<;>rfl)) (by omega) (by unfold maxLen;omega) (by omega) (by have:=(TM.bx ht3).lt;simp;omega) _ rfl ?_;intro g9 cap9 w9 hown9 hgrow9 hat9 hlt9;have ht7:=TM.grown (TM.alloc ht3 _) (World.ownsRow.alloc (CS.own hc3) _) hgrow9)
       | fail)
      all_goals
       go_wp2_with fail;go_ret;exact told_fin (cs_more (TM.bx ht2).lt hc3 hc2.blk hb3.size hN3 hown9 hgrow9 hat9) ht7.low (HSEC.out)
  | false=>
   have HCS:=Lib.hid (CS.nil (w.heap.size+1) wc);obtain⟨x0,x1,x2,x3,x4,xf⟩:=HT.out.bx.all;by_cases h0:id.size=0
   case pos=>
    have HSEC:Hid ([]++[daV b]=secM ⟨p,ttl,n,id,b⟩):=Lib.hid (by unfold secM;rw[hh];(first | rw[if_pos rfl] | rw[if_neg Bool.false_ne_true]);rw[if_pos h0];rfl);have hd:id.toList.isEmpty=true:=by rw[empty_of h0];simp
    clear h0;have hncap:=own_cap HCS.out.own;have hol:=HCS.out.own.lt;go_upto_region 6 with fail
    have hT0:=HT.out.drew;have HRN:=Lib.hid (fun wx (h:TM w wx (.int .u8 (p:Int)) (.int .u32 (ttl:Int)) (.int .u32 (n:Int)) (.string id) (.slice A l c))=>run_str c (HRD.out.call h.low));obtain⟨i0,hi,hz0,hz1,hz2⟩:=info_parts infoV;go_region_held3 (fun wx=>wx.cell? ⟨w.heap.size,4,none⟩=some (.slice A l c)∧(convert 23 9 (.slice A l c)).run Tryz.prog wx=.ok (.string (sb b)) wx∧TM w wx (.int .u8 (p:Int)) (.int .u32 (ttl:Int)) (.int .u32 (n:Int)) (.string id) (.slice A l c)) (with_reducible first | assumption | exact TM.c4 hT0 (HRN.out _ hT0) | exact TM.c4 ht1 (HRN.out _ ht1) | exact TM.c4 ht2 (HRN.out _ ht2) | exact TM.c4 ht3 (HRN.out _ ht3) | exact TM.c4 (TM.alloc ht3 _) (HRN.out _ (TM.alloc ht3 _)) | exact TM.c4 ht7 (HRN.out _ ht7) | fail)
     (first
     | (go_at_call 56;(with_reducible refine(code117 _).mono ?_);rintro e w1 ⟨rfl,hb1⟩;have ht1:=TM.call hT0 hb1;have hc1:=CS.call (CS.drew HCS.out) hb1)
     | (go_at_call 19;(with_reducible refine(bin_new (sb b) _).mono ?_);rintro e w2 ⟨rfl,hb2⟩;have ht2:=TM.call ht1 hb2;have hc2:=CS.call hc1 hb2)
     | (go_at_call 46;(with_reducible refine(desc_da (sb b) _ (sb_lim HRD.out HL.out)).mono ?_);rintro e w3 ⟨A3,l3,c3,rfl,hN3,hb3⟩;have ht3:=TM.call ht2 hb3;have hc3:=CS.call hc2 hb3)
     | (refine step_append_lies _ rfl _ _ 42 rfl (w.heap.size+1) 44 i0 _ 4 56 Tryz.underlying42 hi hz0 hz1 hz2 rfl (by omega) _ _ _ rfl (by exact World.ownsRow.alloc (CS.own hc3) _) ⟨w3.heap.size,0,none⟩ 1 1 [.int .u8 25,.int .u64 0,.string ⟨#[]⟩,.slice A3 l3 c3] rfl rfl (by exact Val.news4 _ _ _ _ _ _ _ rfl) (fun u hu=>(by simp at hu;rcases hu with rfl | rfl | rfl | rfl<;>rfl)) (by omega) (by unfold maxLen;omega) (by omega) (by have:=(TM.bx ht3).lt;simp;omega) _ rfl ?_;intro g9 cap9 w9 hown9 hgrow9 hat9 hlt9;have ht7:=TM.grown (TM.alloc ht3 _) (World.ownsRow.alloc (CS.own hc3) _) hgrow9)
     | fail)
    all_goals
     go_wp2_with fail;go_ret;exact told_fin (cs_more (TM.bx ht2).lt hc3 hc2.blk hb3.size hN3 hown9 hgrow9 hat9) ht7.low (HSEC.out)
   case neg=>
    have hd:id.toList.isEmpty=false:=empty_no' h0;have HSEC:Hid (([]++[prV id])++[daV b]=secM ⟨p,ttl,n,id,b⟩):=Lib.hid (by unfold secM;rw[hh];(first | rw[if_pos rfl] | rw[if_neg Bool.false_ne_true]);rw[if_neg h0];rfl);clear h0;have hncap:=own_cap HCS.out.own;have hlow:=HT.out.low.size;go_upto_region 5 with fail
    obtain⟨i0,hi,hz0,hz1,hz2⟩:=info_parts infoV;go_cut [3] (fun s wx=>∃ A8 c8 xs8,s=.slice A8 (0+1) c8∧CS (w.heap.size+1) wx A8 (0+1) c8 ([]++[prV id]) xs8∧TM w wx (.int .u8 (p:Int)) (.int .u32 (ttl:Int)) (.int .u32 (n:Int)) (.string id) (.slice A l c))
    case first=>
     go_wp2_with (first
      | (go_at_call 19;(with_reducible refine(str_new id _).mono ?_);rintro e w1 ⟨rfl,hb1⟩;have ht1:=TM.call HT.out hb1;have hc1:=CS.call HCS.out hb1)
      | (go_at_call 21;(with_reducible refine(put115 [.mk 20 0 id []] _ 1 1 _ (bulk_id HS.out) (kid20 id w1 _ rfl)).mono ?_);rintro e w2 ⟨A2,l2,c2,rfl,hN2,hb2⟩;have ht2:=TM.call (TM.alloc ht1 (.cells #[.int .u8 20,.int .u64 0,.string id,.slice none 0 0] 44)) hb2;have hc2:=CS.call (CS.alloc hc1 (.cells #[.int .u8 20,.int .u64 0,.string id,.slice none 0 0] 44)) hb2)
      | (at_builtin;refine wpList_append_lies _ rfl _ _ 42 rfl (w.heap.size+1) 44 i0 _ 4 56 Tryz.underlying42 hi hz0 hz1 hz2 rfl (by omega) _ _ _ rfl (World.ownsRow.alloc (CS.own hc2) _) ⟨w2.heap.size,0,none⟩ 1 1 [.int .u8 25,.int .u64 0,.string ⟨#[]⟩,.slice A2 l2 c2] rfl rfl (Val.news4 _ _ _ _ _ _ _ rfl) (fun u hu=>(by simp at hu;rcases hu with rfl | rfl | rfl | rfl<;>rfl)) (by omega) (by unfold maxLen;omega) (by omega) (by have:=(TM.bx ht2).lt;simp;omega) _ rfl ?_;intro g9 cap9 w9 hown9 hgrow9 hat9 hlt9;have ht7:=TM.grown (TM.alloc ht2 _) (World.ownsRow.alloc (CS.own hc2) _) hgrow9)
      | fail)
     go_meet;exact⟨_,_,_,rfl,cs_pr (TM.bx (TM.alloc ht1 (.cells #[.int .u8 20,.int .u64 0,.string id,.slice none 0 0] 44))).lt hc2 (CS.alloc hc1 _).blk hb2.size hN2 hown9 hgrow9 hat9,ht7⟩
    case rest=>
     obtain⟨A8,c8,xs8,rfl,hCS,hT⟩:=hcut;replace HCS:=Lib.hid hCS;replace HT:=Lib.hid hT;clear hT hCS;have hncap:=own_cap HCS.out.own;have hol:=HCS.out.own.lt;go_upto_region 6 with fail
     have hT0:=HT.out.drew;have HRN:=Lib.hid (fun wx (h:TM w wx (.int .u8 (p:Int)) (.int .u32 (ttl:Int)) (.int .u32 (n:Int)) (.string id) (.slice A l c))=>run_str c (HRD.out.call h.low));obtain⟨i0,hi,hz0,hz1,hz2⟩:=info_parts infoV;go_region_held3 (fun wx=>wx.cell? ⟨w.heap.size,4,none⟩=some (.slice A l c)∧(convert 23 9 (.slice A l c)).run Tryz.prog wx=.ok (.string (sb b)) wx∧TM w wx (.int .u8 (p:Int)) (.int .u32 (ttl:Int)) (.int .u32 (n:Int)) (.string id) (.slice A l c)) (with_reducible first | assumption | exact TM.c4 hT0 (HRN.out _ hT0) | exact TM.c4 ht1 (HRN.out _ ht1) | exact TM.c4 ht2 (HRN.out _ ht2) | exact TM.c4 ht3 (HRN.out _ ht3) | exact TM.c4 (TM.alloc ht3 _) (HRN.out _ (TM.alloc ht3 _)) | exact TM.c4 ht7 (HRN.out _ ht7) | fail)
      (first
      | (go_at_call 56;(with_reducible refine(code117 _).mono ?_);rintro e w1 ⟨rfl,hb1⟩;have ht1:=TM.call hT0 hb1;have hc1:=CS.call (CS.drew HCS.out) hb1)
      | (go_at_call 19;(with_reducible refine(bin_new (sb b) _).mono ?_);rintro e w2 ⟨rfl,hb2⟩;have ht2:=TM.call ht1 hb2;have hc2:=CS.call hc1 hb2)
      | (go_at_call 46;(with_reducible refine(desc_da (sb b) _ (sb_lim HRD.out HL.out)).mono ?_);rintro e w3 ⟨A3,l3,c3,rfl,hN3,hb3⟩;have ht3:=TM.call ht2 hb3;have hc3:=CS.call hc2 hb3)
      | (refine step_append_lies _ rfl _ _ 42 rfl (w.heap.size+1) 44 i0 _ 4 56 Tryz.underlying42 hi hz0 hz1 hz2 rfl (by omega) _ _ _ rfl (by exact World.ownsRow.alloc (CS.own hc3) _) ⟨w3.heap.size,0,none⟩ 1 1 [.int .u8 25,.int .u64 0,.string ⟨#[]⟩,.slice A3 l3 c3] rfl rfl (by exact Val.news4 _ _ _ _ _ _ _ rfl) (fun u hu=>(by simp at hu;rcases hu with rfl | rfl | rfl | rfl<;>rfl)) (by omega) (by unfold maxLen;omega) (by omega) (by have:=(TM.bx ht3).lt;simp;omega) _ rfl ?_;intro g9 cap9 w9 hown9 hgrow9 hat9 hlt9;have ht7:=TM.grown (TM.alloc ht3 _) (World.ownsRow.alloc (CS.own hc3) _) hgrow9)
      | fail)
     all_goals
      go_wp2_with fail;go_ret;exact told_fin (cs_more (TM.bx ht2).lt hc3 hc2.blk hb3.size hN3 hown9 hgrow9 hat9) ht7.low (HSEC.out)
end Go.Proofs.YtcilmmdmkpnppaaGreatDoor.Me
end
section
namespace Go.Proofs.YtcilmmdmkpnppaaGreatDoor.Me
set_option maxRecDepth 100000
open Go.RowKit Utf Val Fl Oc V
open Enc hiding nullV
def GivesPut (o:Option (List Nat))(w:World)(e:Ending)(w':World):Prop:=
 match o with
 | none=>e=.returned (.tuple #[.slice none 0 0,.int .i64 1])∧Below w.heap.size w w'
 | some bs=>∃ A m c,e=.returned (.tuple #[.slice A m c,.int .i64 0])∧Utf.Own .u8 256 5 w' w.heap.size A m c bs∧Below w.heap.size w w'
theorem sec_bulk {m:M}(h:mayM m=true):∀ v∈secM m,bulk v≤4096:=by
 obtain⟨h1,h2,h3,h4⟩:=may_parts h;intro v hv;unfold secM at hv;rcases List.mem_append.1 hv with hv | hv
 ·cases hh:hasH m with
  | true=>
   rw[hh,if_pos rfl] at hv;rw[List.mem_singleton.1 hv];have h:=hdL_size m;have h2:=bulk_take (hdL m) (cutN (hdL m) (hdL m).length);simp only[hdV,putL,bulk,bulkL,trim,sz0];omega
  | false=>rw[hh,if_neg Bool.false_ne_true] at hv;cases hv
 ·rcases List.mem_append.1 hv with hv | hv
  ·by_cases hi:m.id.size=0
   ·rw[if_pos hi] at hv;cases hv
   ·rw[if_neg hi] at hv;rw[List.mem_singleton.1 hv];simp only[prV,putL,bulk,bulkL,sz0];omega
  ·rw[List.mem_singleton.1 hv];simp only[daV,bulk,bulkL,sz0,sb_size];omega
theorem sec_len (m:M):(secM m).length≤3:=by
 unfold secM;cases hasH m<;>by_cases h:m.id.size=0<;>simp[h]
theorem layL_snoc (vs:List V){j:Nat}{v:V}(h:vs[j]? = some v):layL (vs.take (j+1))=layL (vs.take j)++lay (plan v):=by
 rw[List.take_add_one,h,layL_append]
 show layL (vs.take j)++(lay (plan v)++[])=_
 rw[List.append_nil]
theorem layL_len {vs:List V}(h:∀ v∈vs,bulk v≤4096)(hm:∀ v∈vs,mayB v=true):(layL vs).length≤409600 * vs.length:=by
 induction vs with
 | nil=>simp[layL]
 | cons v vs ih=>
  have h1:=ih (fun x hx=>h x (List.mem_cons_of_mem _ hx)) (fun x hx=>hm x (List.mem_cons_of_mem _ hx));have h2:=lay_bulk v (hm v (by simp));have h3:=h v (by simp)
  show (lay (plan v)++layL vs).length≤_
  simp only[List.length_append,List.length_cons];omega
theorem le_lay {v:V}{m:Nat}(h:(lay (plan v)).length=m)(hm:mayB v=true)(hb:bulk v≤4096):m≤409600:=by
 have:=lay_bulk v hm;omega
structure PL (w W wr:World) (vs:List V) (A1:Option Addr) (l1 c1:Nat) (A:Option Addr) (n c j:Nat):Prop where
 own:Utf.Own .u8 256 5 wr W.heap.size A n c (layL (vs.take j))
 low:Below W.heap.size W wr
set_option maxHeartbeats 1000000 in
theorem mput_any (p ttl n:Nat)(id:ByteArray)(A:Option Addr)(l c:Nat)(b:List Nat)(w:World)(hp:p < 256)(ht:ttl < 4294967296)(hn:n < 4294967296)(hs:id.size≤134217728)(hl:l≤134217728)(hr:Rd .u8 256 w w.heap.size A l b)(hTab:Tab w):Calls Tryz.prog 9 #[mV p ttl n id A l c] w (GivesPut (putM ⟨p,ttl,n,id,b⟩) w):=by
 have hb0:Below w.heap.size w (w.alloc (.cells #[.int .u8 (p:Int),.int .u32 (ttl:Int),.int .u32 (n:Int),.string id,.slice A l c] 25)):=(Below.refl _ _).alloc (Nat.le_refl _) _;have HX:=Lib.hid (BxM.new w (.int .u8 (p:Int)) (.int .u32 (ttl:Int)) (.int .u32 (n:Int)) (.string id) (.slice A l c));have HMB:=Lib.hid (mmay_any p ttl n id A l c b (w.alloc (.cells #[.int .u8 (p:Int),.int .u32 (ttl:Int),.int .u32 (n:Int),.string id,.slice A l c] 25)) (by omega) hr.len (hTab.call hb0));have HTO:=Lib.hid (fun wx (h:Below w.heap.size w wx)=>told_any p ttl n id A l c b wx hp ht hn hs hl (hr.call h));have HT:=Lib.hid hTab;have HB:=Lib.hid hb0;have HTT:=Lib.hid ht;have HNN:=Lib.hid hn;unfold mV at HMB HTO ⊢;cases hm:mayM ⟨p,ttl,n,id,b⟩ with
 | false=>
  have HE:Hid (putM ⟨p,ttl,n,id,b⟩=none):=Lib.hid (if_neg (by rw[hm];exact Bool.false_ne_true));rw[hm] at HMB;clear hb0 hp ht hn hs hl hr hTab hm;go_enter Tryz.func9,Tryz.ntmps9;go_wp2_with fail
  (with_reducible refine HMB.out.mono ?_)
  rintro e w1 ⟨rfl,hb1⟩;have HB1:=Lib.hid (below_next HB.out hb1);clear hb1;go_wp2;refine bodyPost_ret (v:=.tuple #[.slice none 0 0,.int .i64 1]) (by simp[results,Tryz.results9,go_sem]) rfl ?_;rw[HE.out];exact⟨rfl,HB1.out⟩
 | true=>
  have HE:Hid (putM ⟨p,ttl,n,id,b⟩=some (layL (secM ⟨p,ttl,n,id,b⟩))):=Lib.hid (if_pos hm);rw[hm] at HMB;have HSG:=Lib.hid (sec_good hm ht hn);have HSB:=Lib.hid (sec_bulk hm);have HSL:=Lib.hid (sec_len ⟨p,ttl,n,id,b⟩);have HLL:Hid (∀ j,(layL ((secM ⟨p,ttl,n,id,b⟩).take j)).length≤1228800):=Lib.hid (fun j=>by
   have h1:=layL_len (vs:=(secM ⟨p,ttl,n,id,b⟩).take j) (fun v hv=>sec_bulk hm v (List.mem_of_mem_take hv)) (fun v hv=>(sec_good hm ht hn v (List.mem_of_mem_take hv)).1.1);have h2:=sec_len ⟨p,ttl,n,id,b⟩;rw[List.length_take] at h1;omega)
  obtain⟨vs,hvs⟩:∃ vs,secM ⟨p,ttl,n,id,b⟩=vs:=⟨_,rfl⟩;rw[hvs] at HE HSG HSB HSL HLL HTO;clear hb0 hp ht hn hs hl hr hTab hm hvs;go_enter Tryz.func9,Tryz.ntmps9;go_wp2_with fail
  (with_reducible refine HMB.out.mono ?_)
  rintro e w1 ⟨rfl,hb1⟩;obtain⟨x0,x1,x2,x3,x4,xf⟩:=(HX.out.call hb1).all;have HB1:=Lib.hid (below_next HB.out hb1);clear hb1;go_wp2_with fail
  (with_reducible refine(HTO.out _ HB1.out).mono ?_)
  rintro e W ⟨A1,l1,c1,rfl,hN,hbW⟩;have hlen:=hN.len;have HN:=Lib.hid hN.kd;have HBW:=Lib.hid (below_next HB1.out hbW);have HTW:=Lib.hid (HT.out.call (below_next HB1.out hbW));have hl3:l1≤3:=by rw[hlen];exact HSL.out
  have HLV:=Lib.hid hlen;clear hbW hN hlen x0 x1 x2 x3 x4 xf;go_wp2_with fail;go_loopw [4,15] (fun s4 s15 wr=>∃ (j:Nat) (A4:Option Addr) (n4 c4:Nat),j≤l1∧s15=.int .i64 (j:Nat)∧s4=.slice A4 n4 c4∧PL w W wr vs A1 l1 c1 A4 n4 c4 j) (fun _ i _=>l1 - (intOf i).toNat)
  case atStart=>exact⟨0,none,0,0,by omega,rfl,rfl,⟨Utf.Own.nil _ _ _ _ _,Below.refl _ _⟩⟩
  case round=>
   obtain⟨j,A4,n4,c4,hj,rfl,rfl,hP⟩:=hrel;have HP:=Lib.hid hP;by_cases hlt:j < l1
   ·obtain⟨g,o,k,m,t,ks,A',l',c',rfl,hgl,hx,y0,y1,y2,y3,hk,hm,hK⟩:=(HN.out.call hP.low).at_ hlt;have hmem:V.mk k m t ks∈vs:=List.mem_of_getElem? hx;have HG:=Lib.hid (HSG.out _ hmem);have HBK:=Lib.hid (HSB.out _ hmem);have HKK:=Lib.hid hk;have HMM:=Lib.hid hm;have HK:=Lib.hid hK;have HXX:=Lib.hid hx;have HLT:=Lib.hid hlt;have HLN:Hid (n4≤1228800):=Lib.hid (by rw[←hP.own.len];exact HLL.out j);have HTR:=Lib.hid (HTW.out.call hP.low);have hlow:=hP.low.size;clear hmem hk hm hK hx hP;go_wp2_with (first
     | (go_at_call 22;(with_reducible refine(encv_yes k m t ks A' l' c' _ HG.out.2 (Nat.le_trans HBK.out (by omega)) HKK.out HMM.out (HK.out.call ((Below.refl _ _).alloc (Nat.le_refl _) _)) (HTR.out.call ((Below.refl _ _).alloc (Nat.le_refl _) _))).mono ?_);rintro e w3 ⟨A3,m3,c3,rfl,hO3,hb3⟩;have hm3:m3≤409600:=le_lay hO3.len HG.out.1.1 HBK.out;have hb4:Below wr.heap.size wr w3:=((Below.refl _ _).alloc (Nat.le_refl _) _).trans (hb3.mono (by simp)))
     | (at_builtin;refine wpList_app8 (base:=W.heap.size) rfl _ _ rfl rfl (HP.out.own.below hb4) rfl hO3.rd (by have:=HLN.out;omega) (by have:=hb4.size;omega) ?_;intro A5 c5 w5 hO5 hg5)
     | fail)
    go_roundw
    case rel=>
     refine⟨j+1,A5,n4+m3,c5,HLT.out,by go_num,rfl,⟨?_,?_⟩⟩
     ·rw[layL_snoc vs HXX.out];exact hO5
     ·exact(HP.out.low.trans (hb4.mono hlow)).trans (below_grown (HP.out.own.below hb4) hg5 (by have:=hb4.size;omega))
    case measure=>(have:=HLT.out;simp[intOf];omega)
   ·have hjl:j=l1:=by omega
    have HO:Hid (Utf.Own .u8 256 5 wr w.heap.size A4 n4 c4 (layL vs)):=Lib.hid (by
     have h1:=hP.own;rw[List.take_of_length_le (by have:=HLV.out;omega)] at h1;exact h1.mono HBW.out.size)
    have HLW:=Lib.hid (HBW.out.trans (hP.low.mono HBW.out.size));clear hP hjl;go_wp2;refine bodyPost_ret (v:=.tuple #[.slice A4 n4 c4,.int .i64 0]) (by simp[results,Tryz.results9,go_sem]) rfl ?_;rw[HE.out];exact⟨A4,n4,c4,rfl,HO.out,HLW.out⟩
end Go.Proofs.YtcilmmdmkpnppaaGreatDoor.Me
end
