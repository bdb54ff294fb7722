/-
  Contracts of functions and plain mathematics, text by text, each with its conditions ahead of it:
  Contracts beneath the document's Put of messages: encode of a value that may be told, whether a message may be; the callees at the literals that Put gives them; two boxes that are kept while rows grow behind them.
  Contract of the document's Put of messages. Memory that was there stays. Conditions: names and bodies of at most 2^27 bytes.
  The statement MessagePuts, walked: it answers true. Memory that was there stays. Condition: the table utf.shapes lies as the program's text lays it.
  The statement MessagePuts: the bytes of any message, in new memory, or that it may not be; it stays Condition, as the card has it: the table utf.shapes lies as the program's text lays it.
-/
import Derived.Test.YtcilmmdmkpnppaaGreatDoorY03
import Derived.Test.YtcilmmdmkpnppaaGreatDoorY17
import Derived.Test.YtcilmmdmkpnppaaGreatDoorY20
import Derived.Test.YtcilmmdmkpnppaaGreatDoorY26
import Derived.Test.YtcilmmdmkpnppaaGreatDoorY28
import Derived.Test.YtcilmmdmkpnppaaGreatDoorY23
import Derived.Test.YtcilmmdmkpnppaaGreatDoorY29
import Derived.Test.YtcilmmdmkpnppaaGreatDoorY24
import Derived.Deep.RegionHeld3
import Derived.Deep.DeepCutAuto
section
namespace Go.Proofs.YtcilmmdmkpnppaaGreatDoor.Me
set_option maxRecDepth 100000
open Go.RowKit Utf Val Fl Oc V
open Enc hiding nullV
theorem xenc_yes (k n:Nat)(t:ByteArray)(ks:List V)(A:Option Addr)(l c:Nat)(w:World)(hok:okB (.mk k n t ks)=true)(hN:bulk (.mk k n t ks)≤1048576)(hk:k < 256)(hn:n < 18446744073709551616)(hK:Kd w ks A l c) :
  Calls Tryz.prog 34 #[.agg #[.int .u8 (k:Int),.int .u64 (n:Int),.string t,.slice A l c]] w (GivesV (.mk k n t ks) w):=by
 have hB:Below w.heap.size w (w.alloc (.cells #[.int .u8 (k:Int),.int .u64 (n:Int),.string t,.slice A l c] 44)):=(Below.refl _ _).alloc (Nat.le_refl _) _;have hR:=valueRights.xright_any k n t ks A l c (w.alloc (.cells #[.int .u8 (k:Int),.int .u64 (n:Int),.string t,.slice A l c] 44)) hN hn (hK.alloc _);rw[hok] at hR;have hW:=xwrite_any (good_of hok hn hK (by omega)) (by omega);have hx:=Box.new w (.int .u8 (k:Int)) (.int .u64 (n:Int)) (.string t) (.slice A l c);have HX:=Lib.hid hx;have HK:=Lib.hid (hK.call hB);have HB:=Lib.hid hB;obtain⟨z0,z1,z2,z3,_⟩:=hx.all;clear hx hK;go_enter Tryz.func34,Tryz.ntmps34;go_wp2_with fail;refine hR.mono ?_;rintro e w1 ⟨rfl,hb1⟩;obtain⟨y0,y1,y2,y3,_⟩:=(HX.out.call hb1).all;have HB1:=Lib.hid (below_next HB.out hb1);go_wp2_with fail;refine(WriteC.call hW hk hn (HK.out.call hb1)).mono ?_;rintro e w2 ⟨A2,m2,c2,rfl,ho2,hb2⟩;have HO:=Lib.hid (ho2.mono (base':=w.heap.size) HB1.out.size);have HB2:=Lib.hid (below_next HB1.out hb2);clear ho2 hb2 hb1 hR hB;go_wp2;go_ret2;exact⟨A2,m2,c2,rfl,HO.out,HB2.out⟩
set_option maxHeartbeats 1000000 in
theorem xmmay_any (p ttl n:Nat)(id:ByteArray)(A:Option Addr)(l c:Nat)(b:List Nat)(w:World)(hs:id.size≤1073741824)(hl:b.length=l):Calls Tryz.prog 27 #[mV p ttl n id A l c] w (Val.GivesB (mayM ⟨p,ttl,n,id,b⟩) w):=by
 have hb0:Below w.heap.size w (w.alloc (.cells #[.int .u8 (p:Int),.int .u32 (ttl:Int),.int .u32 (n:Int),.string id,.slice A l c] 25)):=(Below.refl _ _).alloc (Nat.le_refl _) _;have HX:=Lib.hid (BxM.new w (.int .u8 (p:Int)) (.int .u32 (ttl:Int)) (.int .u32 (n:Int)) (.string id) (.slice A l c));obtain⟨W0,hW0⟩:∃ W0,w.alloc (.cells #[.int .u8 (p:Int),.int .u32 (ttl:Int),.int .u32 (n:Int),.string id,.slice A l c] 25)=W0:=⟨_,rfl⟩;have HM:=Lib.hid (mayM_eq p ttl n id b);have HB:=Lib.hid (hW0▸hb0);replace HX:=Lib.hid (hW0▸HX.out);obtain⟨q,hq⟩:∃ q,decide ((l:Int)≤2048)=q:=⟨_,rfl⟩;rw[hl,show decide (l≤2048)=q by rw[←hq];simp;omega] at HM;have HS:=Lib.hid hs;obtain⟨e0,e1,e2,e3,e4,ef⟩:=HX.out.all;clear hb0 hl hs;unfold mV;by_cases hp:p≤9
 case neg=>
  rw[decide_eq_false hp] at HM;have hd:decide ((p:Int)≤9)=false:=decide_eq_false (by omega);clear hp;go_enter Tryz.func27,Tryz.ntmps27;go_wp2;go_ret;exact⟨by rw[HM.out];rfl,HB.out⟩
 case pos=>
  rw[decide_eq_true hp,Bool.true_and] at HM;have hd:decide ((p:Int)≤9)=true:=decide_eq_true (by omega);clear hp;by_cases h2:id.size≤64
  case neg=>
   rw[decide_eq_false h2] at HM;have hd2:decide ((id.size:Int)≤64)=false:=decide_eq_false (by omega);clear h2;go_enter Tryz.func27,Tryz.ntmps27;go_wp2;go_ret;exact⟨by rw[HM.out];rfl,HB.out⟩
  case pos=>
   rw[decide_eq_true h2,Bool.true_and] at HM;have hd2:decide ((id.size:Int)≤64)=true:=decide_eq_true (by omega);clear h2;obtain⟨w2,cc,hrun,hcc,hr,hb2⟩:=conv_str W0 id;have HB2:=Lib.hid (below_next HB.out hb2);have HR2:=Lib.hid (rright_any (some ⟨W0.heap.size,0,none⟩) id.size cc (nb id) w2 hr (by have:=HS.out;omega));have HX2:=Lib.hid (HX.out.call hb2);clear hb2 hr hcc;go_enter Tryz.func27,Tryz.ntmps27;go_wp2_with fail
   (with_reducible refine HR2.out.mono ?_)
   rintro e w3 ⟨⟨hT,rfl⟩ | ⟨hN,rfl⟩,hb3⟩
   ·have HU:=Lib.hid (utfB_yes hT);obtain⟨f0,f1,f2,f3,f4,ff⟩:=(HX2.out.call hb3).all;have HB3:=Lib.hid (below_next HB2.out hb3);clear hT hb3;go_wp2;go_ret;exact⟨by rw[HM.out,HU.out];rfl,HB3.out⟩
   ·have HU:=Lib.hid (utfB_no hN);have HB3:=Lib.hid (below_next HB2.out hb3);clear hN hb3;go_wp2;go_ret;exact⟨by rw[HM.out,HU.out];rfl,HB3.out⟩
theorem xput112 (ls:List V)(A:Option Addr)(l c:Nat)(w:World)(hN:bulkL ls≤536870912)(hK:Kd w ls A l c):Calls Tryz.prog 29 #[.int .u64 112,.slice A l c] w (GivesU 112 (trim ls) w):=Fl.xput_any 112 ls A l c w hN (by omega) hK
theorem xput115 (ls:List V)(A:Option Addr)(l c:Nat)(w:World)(hN:bulkL ls≤536870912)(hK:Kd w ls A l c):Calls Tryz.prog 29 #[.int .u64 115,.slice A l c] w (GivesU 115 (trim ls) w):=Fl.xput_any 115 ls A l c w hN (by omega) hK
theorem xcode117 (w:World):Calls Tryz.prog 33 #[.int .u8 6,.int .u64 117] w fun e w'=>e=.returned (.agg #[.int .u8 6,.int .u64 117,.string ⟨#[]⟩,.slice none 0 0])∧Below w.heap.size w w':=Fl.xnum6 117 w
theorem xstr_new (t:ByteArray)(w:World):Calls Tryz.prog 31 #[.int .u8 20,.string t] w (fun e w'=>e=.returned (.agg #[.int .u8 20,.int .u64 0,.string t,.slice none 0 0])∧Below w.heap.size w w'):=by
 go_enter Tryz.func31,Tryz.ntmps31;go_wp2;exact bodyPost_ret (v:=.agg #[.int .u8 20,.int .u64 0,.string t,.slice none 0 0]) (by simp[results,Tryz.results31,go_sem]) rfl ⟨rfl,(Below.refl _ _).alloc (Nat.le_refl _) _⟩
theorem xbin_new (t:ByteArray)(w:World):Calls Tryz.prog 31 #[.int .u8 19,.string t] w (fun e w'=>e=.returned (.agg #[.int .u8 19,.int .u64 0,.string t,.slice none 0 0])∧Below w.heap.size w w'):=by
 go_enter Tryz.func31,Tryz.ntmps31;go_wp2;exact bodyPost_ret (v:=.agg #[.int .u8 19,.int .u64 0,.string t,.slice none 0 0]) (by simp[results,Tryz.results31,go_sem]) rfl ⟨rfl,(Below.refl _ _).alloc (Nat.le_refl _) _⟩
theorem xdesc_da (t:ByteArray)(w:World):Calls Tryz.prog 32 #[.agg #[.int .u8 6,.int .u64 117,.string ⟨#[]⟩,.slice none 0 0],.agg #[.int .u8 19,.int .u64 0,.string t,.slice none 0 0]] w (fun e w'=>∃ A1 l1 c1,e=.returned (.agg #[.int .u8 25,.int .u64 0,.string ⟨#[]⟩,.slice A1 l1 c1])∧Nw w.heap.size w' [.mk 6 117 ⟨#[]⟩ [],.mk 19 0 t []] A1 l1 c1∧Below w.heap.size w w'):=
 xdesc_any 6 117 ⟨#[]⟩ [] none 0 0 19 0 t [] none 0 0 w (by simp[bulkL]) (by simp only[bulkL];omega) (by omega) (by omega) (by omega) (by omega) (Kd.none_ _ _ _) (Kd.none_ _ _ _)
theorem want_get (b:Bool)(k n:Nat):wantV b (.mk k n ⟨#[]⟩ [])=.mk (if b=true then 1 else k) (if b=true then 0 else n) ⟨#[]⟩ []:=by cases b<;>rfl
theorem xnum_w (k n z:Nat)(b:Bool)(hb:(n==z)=b)(w:World)(hk:k < 256)(hn:n < 18446744073709551616):Calls Tryz.prog 30 #[.int .u8 (k:Int),.int .u64 (n:Int),.bool b] w (GivesW (wantV (n==z) (.mk k n ⟨#[]⟩ [])) w):=by
 refine(Msg.xmnum_any k n b w).mono ?_;rintro e w' ⟨rfl,h⟩;rw[hb];exact⟨_,_,want_get b k n,by cases b<;>simp;omega,by cases b<;>simp;omega,rfl,h⟩
theorem xn4 (n:Nat)(b:Bool)(hb:(n==4)=b)(w:World)(hn:n < 256):Calls Tryz.prog 30 #[.int .u8 3,.int .u64 (n:Int),.bool b] w (GivesW (wantV (n==4) (.mk 3 n ⟨#[]⟩ [])) w):=xnum_w 3 n 4 b hb w (by omega) (by omega)
theorem xn0 (n:Nat)(b:Bool)(hb:(n==0)=b)(w:World)(hn:n < 4294967296):Calls Tryz.prog 30 #[.int .u8 5,.int .u64 (n:Int),.bool b] w (GivesW (wantV (n==0) (.mk 5 n ⟨#[]⟩ [])) w):=xnum_w 5 n 0 b hb w (by omega) (by omega)
structure TX (W wi:World) (gm gn:Nat) (x0 x1 x2 x3 x4:Value):Prop where
 bx:BxM wi gm x0 x1 x2 x3 x4
 nb:Box wi gn (.int .u8 1) (.int .u64 0) (.string ⟨#[]⟩) (.slice none 0 0)
 lm:gm < W.heap.size
 ln:gn < W.heap.size
 low:Below W.heap.size W wi
section
variable {W wi w':World} {gm gn:Nat} {x0 x1 x2 x3 x4:Value}
theorem TX.call (h:TX W wi gm gn x0 x1 x2 x3 x4)(hb:Below wi.heap.size wi w'):TX W w' gm gn x0 x1 x2 x3 x4:=⟨h.bx.call hb,h.nb.call hb,h.lm,h.ln,below_next h.low hb⟩
theorem TX.alloc (h:TX W wi gm gn x0 x1 x2 x3 x4)(o:Obj):TX W (wi.alloc o) gm gn x0 x1 x2 x3 x4:=h.call ((Below.refl _ _).alloc (Nat.le_refl _) _)
theorem TX.drew (h:TX W wi gm gn x0 x1 x2 x3 x4):TX W wi.drew gm gn x0 x1 x2 x3 x4:=h.call (Below.refl _ _).drew
theorem TX.c7 (h:TX W wi gm gn x0 x1 x2 x3 x4):wi.cell? ⟨gm,0,none⟩=some x0∧wi.cell? ⟨gm,1,none⟩=some x1∧wi.cell? ⟨gm,2,none⟩=some x2∧wi.cell? ⟨gn,0,none⟩=some (.int .u8 1)∧wi.cell? ⟨gn,1,none⟩=some (.int .u64 0)∧wi.cell? ⟨gn,2,none⟩=some (.string ⟨#[]⟩)∧wi.cell? ⟨gn,3,none⟩=some (.slice none 0 0)∧TX W wi gm gn x0 x1 x2 x3 x4:=⟨h.bx.all.1,h.bx.all.2.1,h.bx.all.2.2.1,h.nb.all.1,h.nb.all.2.1,h.nb.all.2.2.1,h.nb.all.2.2.2.1,h⟩
theorem TX.c4 {q:Prop}(h:TX W wi gm gn x0 x1 x2 x3 x4)(hq:q):wi.cell? ⟨gm,4,none⟩=some x4∧q∧TX W wi gm gn x0 x1 x2 x3 x4:=⟨h.bx.all.2.2.2.2.1,hq,h⟩
theorem TX.grown {A:Option Addr}{n c:Nat}{xs:List Value}(h:TX W wi gm gn x0 x1 x2 x3 x4)(hown:wi.ownsRow W.heap.size 44 4 (.slice A n c) n xs)(hg:wi.grownBy w' (Value.slice A n c).ownBlock):TX W w' gm gn x0 x1 x2 x3 x4:=by
 have hb:Below W.heap.size wi w':=(Below.refl _ _).grown hg h.low.size fun k hk=>(hown.lt k hk).1;exact⟨(hb.block _ h.lm).trans h.bx,(hb.block _ h.ln).trans h.nb,h.lm,h.ln,h.low.trans hb⟩
end
theorem xcs_snoc {B:Nat}{w2 w3 w9:World}{A:Option Addr}{n c:Nat}{done:List V}{xs:List Value}(hg2:B≤w2.heap.size)(h:CS B w3 A n c done xs)(hblk:∀ g,(Value.slice A n c).ownBlock=some g→g < w2.heap.size){us:List V}{A3:Option Addr}{l3 c3:Nat}(hN:Nw w2.heap.size w3 us A3 l3 c3){o:Obj}{g cap:Nat}
  (hown:w9.ownsRow B 44 4 (.slice (some ⟨g,0,none⟩) (n+1) cap) (n+1) (xs++[.int .u8 25,.int .u64 0,.string ⟨#[]⟩,.slice A3 l3 c3])) (hg:(w3.alloc o).grownBy w9 (Value.slice A n c).ownBlock) (hat:(Value.slice A n c).ownBlock=some g∨g=(w3.alloc o).heap.size) :
  CS B w9 (some ⟨g,0,none⟩) (n+1) cap (done++[.mk 25 0 ⟨#[]⟩ us]) (xs++[.int .u8 25,.int .u64 0,.string ⟨#[]⟩,.slice A3 l3 c3]):=by
 have:=CS.push (k:=25) (m:=0) (t:=⟨#[]⟩) h (by omega) (by omega) (hN.mono fun i hi=>⟨by have:=hi.1;omega,hi.2,fun e=>by have:=hblk i e;have:=hi.1;omega⟩) o rfl (by simpa using hown) hg (hat.imp id fun h=>by simp at h;omega)
 simpa using this
theorem xcs_more {B:Nat}{w2 w3 w9:World}{A:Option Addr}{n c:Nat}{done:List V}{xs:List Value}{b:List Nat}(hg2:B≤w2.heap.size)(h:CS B w3 A n c done xs)(hblk:∀ g,(Value.slice A n c).ownBlock=some g→g < w2.heap.size){A3:Option Addr}{l3 c3:Nat}(hN:Nw w2.heap.size w3 [.mk 6 117 ⟨#[]⟩ [],.mk 19 0 (sb b) []] A3 l3 c3){o:Obj}{g cap:Nat}
  (hown:w9.ownsRow B 44 4 (.slice (some ⟨g,0,none⟩) (n+1) cap) (n+1) (xs++[.int .u8 25,.int .u64 0,.string ⟨#[]⟩,.slice A3 l3 c3])) (hg:(w3.alloc o).grownBy w9 (Value.slice A n c).ownBlock) (hat:(Value.slice A n c).ownBlock=some g∨g=(w3.alloc o).heap.size) :
  CS B w9 (some ⟨g,0,none⟩) (n+1) cap (done++[daV b]) (xs++[.int .u8 25,.int .u64 0,.string ⟨#[]⟩,.slice A3 l3 c3]):=xcs_snoc hg2 h hblk hN hown hg hat
theorem xcs_pr {B:Nat}{w2 w3 w9:World}{A:Option Addr}{n c:Nat}{done:List V}{xs:List Value}{id:ByteArray}(hg2:B≤w2.heap.size)(h:CS B w3 A n c done xs)(hblk:∀ g,(Value.slice A n c).ownBlock=some g→g < w2.heap.size){A3:Option Addr}{l3 c3:Nat}(hN:Nw w2.heap.size w3 (putL 115 (trim [.mk 20 0 id []])) A3 l3 c3){o:Obj}{g cap:Nat}
  (hown:w9.ownsRow B 44 4 (.slice (some ⟨g,0,none⟩) (n+1) cap) (n+1) (xs++[.int .u8 25,.int .u64 0,.string ⟨#[]⟩,.slice A3 l3 c3])) (hg:(w3.alloc o).grownBy w9 (Value.slice A n c).ownBlock) (hat:(Value.slice A n c).ownBlock=some g∨g=(w3.alloc o).heap.size) :
  CS B w9 (some ⟨g,0,none⟩) (n+1) cap (done++[prV id]) (xs++[.int .u8 25,.int .u64 0,.string ⟨#[]⟩,.slice A3 l3 c3]):=by
 rw[trim_str] at hN;exact xcs_snoc hg2 h hblk hN hown hg hat
theorem xcs_one {B:Nat}{w5 w6 w9:World}{v:V}{o5:Obj}(hg2:B≤(w5.alloc o5).heap.size){us:List V}{A3:Option Addr}{l3 c3:Nat}(hN:Nw (w5.alloc o5).heap.size w6 us A3 l3 c3){o:Obj}{g cap:Nat}
  (hown:w9.ownsRow B 44 4 (.slice (some ⟨g,0,none⟩) (0+1) cap) (0+1) ([]++[.int .u8 25,.int .u64 0,.string ⟨#[]⟩,.slice A3 l3 c3])) (hg:(w6.alloc o).grownBy w9 (Value.slice none 0 0).ownBlock) (hat:(Value.slice none 0 0).ownBlock=some g∨g=(w6.alloc o).heap.size) (hv:v=.mk 25 0 ⟨#[]⟩ us) :
  CS B w9 (some ⟨g,0,none⟩) 1 cap [v] [.int .u8 25,.int .u64 0,.string ⟨#[]⟩,.slice A3 l3 c3]:=by
 subst hv;exact xcs_snoc (A:=none) (n:=0) (c:=0) hg2 (CS.nil _ _) (fun g h=>by cases h) hN hown hg hat
end Go.Proofs.YtcilmmdmkpnppaaGreatDoor.Me
end
section
namespace Go.Proofs.YtcilmmdmkpnppaaGreatDoor.Me
set_option maxRecDepth 100000
open Go.RowKit Utf Val Fl Oc V
open Enc hiding nullV
set_option maxHeartbeats 4000000 in
theorem xmput_any (p ttl n:Nat)(id:ByteArray)(A:Option Addr)(l c:Nat)(b:List Nat)(w:World)(hp:p < 256)(ht:ttl < 4294967296)(hn:n < 4294967296)(hs:id.size≤134217728)(hl:l≤134217728)(hr:Rd .u8 256 w w.heap.size A l b):Calls Tryz.prog 10 #[mV p ttl n id A l c] w (GivesPut (putM ⟨p,ttl,n,id,b⟩) w):=by
 have hb0:Below w.heap.size w (w.alloc (.cells #[.int .u8 (p:Int),.int .u32 (ttl:Int),.int .u32 (n:Int),.string id,.slice A l c] 25)):=(Below.refl _ _).alloc (Nat.le_refl _) _;have HX:=Lib.hid (BxM.new w (.int .u8 (p:Int)) (.int .u32 (ttl:Int)) (.int .u32 (n:Int)) (.string id) (.slice A l c));have HMB:=Lib.hid (xmmay_any p ttl n id A l c b (w.alloc (.cells #[.int .u8 (p:Int),.int .u32 (ttl:Int),.int .u32 (n:Int),.string id,.slice A l c] 25)) (by omega) hr.len);have HRD:=Lib.hid hr;have HB:=Lib.hid hb0;have HP:=Lib.hid hp;have HTL:=Lib.hid ht;have HNN:=Lib.hid hn;have HS:=Lib.hid hs;have HL:=Lib.hid hl;unfold mV at HMB ⊢;cases hm:mayM ⟨p,ttl,n,id,b⟩ with
 | false=>
  have HE:Hid (putM ⟨p,ttl,n,id,b⟩=none):=Lib.hid (if_neg (by rw[hm];exact Bool.false_ne_true));rw[hm] at HMB;clear hb0 hp ht hn hs hl hr hm;go_enter Tryz.func10,Tryz.ntmps10;go_wp2_with fail
  (with_reducible refine HMB.out.mono ?_)
  rintro e w1 ⟨rfl,hb1⟩;have HB1:=Lib.hid (below_next HB.out hb1);clear hb1;go_wp2;refine bodyPost_ret (v:=.tuple #[.slice none 0 0,.int .i64 1]) (by simp[results,Tryz.results10,go_sem]) rfl ?_;rw[HE.out];exact⟨rfl,HB1.out⟩
 | true=>
  have HE:Hid (putM ⟨p,ttl,n,id,b⟩=some (layL (secM ⟨p,ttl,n,id,b⟩))):=Lib.hid (if_pos hm);rw[hm] at HMB;have HSG:=Lib.hid (sec_good hm ht hn);have HSB:=Lib.hid (sec_bulk hm);have HSL:=Lib.hid (sec_len ⟨p,ttl,n,id,b⟩);have HLL:Hid (∀ j,(layL ((secM ⟨p,ttl,n,id,b⟩).take j)).length≤1228800):=Lib.hid (fun j=>by
   have h1:=layL_len (vs:=(secM ⟨p,ttl,n,id,b⟩).take j) (fun v hv=>sec_bulk hm v (List.mem_of_mem_take hv)) (fun v hv=>(sec_good hm ht hn v (List.mem_of_mem_take hv)).1.1);have h2:=sec_len ⟨p,ttl,n,id,b⟩;rw[List.length_take] at h1;omega)
  have g1:IntKind.u64.wrap (p:Int)=(p:Int):=by rw[IntKind.wrap_u64];omega
  have g2:IntKind.u64.wrap (ttl:Int)=(ttl:Int):=by rw[IntKind.wrap_u64];omega
  have g3:IntKind.u64.wrap (n:Int)=(n:Int):=by rw[IntKind.wrap_u64];omega
  obtain⟨d1,hd1⟩:∃ d,(p==4)=d:=⟨_,rfl⟩;obtain⟨d2,hd2⟩:∃ d,(ttl==0)=d:=⟨_,rfl⟩;obtain⟨d3,hd3⟩:∃ d,(n==0)=d:=⟨_,rfl⟩;have HH:Hid (hasH ⟨p,ttl,n,id,b⟩=(!d1||(!d2 || !d3))):=Lib.hid (by unfold hasH;rw[hd1,hd2,hd3]);have e1:((p:Int)==4)=d1:=by rw[←hd1];exact hid_beq p 4
  have e2:((ttl:Int)==0)=d2:=by rw[←hd2];exact hid_beq ttl 0
  have e3:((n:Int)==0)=d3:=by rw[←hd3];exact hid_beq n 0
  have f1:((p:Int) != 4) = !d1:=by rw[bne,e1]
  have f2:((ttl:Int) != 0) = !d2:=by rw[bne,e2]
  have f3:((n:Int) != 0) = !d3:=by rw[bne,e3]
  have HD1:=Lib.hid hd1;have HD2:=Lib.hid hd2;have HD3:=Lib.hid hd3;clear hb0 hp ht hn hs hl hr hm hd1 hd2 hd3;go_enter Tryz.func10,Tryz.ntmps10;go_wp2_with fail
  (with_reducible refine HMB.out.mono ?_)
  rintro e w1 ⟨rfl,hb1⟩;have HX1:=Lib.hid (HX.out.call hb1);have HB1:=Lib.hid (below_next HB.out hb1);clear hb1 HB HX HMB;go_wp2_with fail
  (with_reducible refine(Msg.xnull_ _).mono ?_)
  rintro e w2 ⟨rfl,hb2⟩;have HX2:=Lib.hid (HX1.out.call hb2);have HB2:=Lib.hid (below_next HB1.out hb2);clear hb2 HB1 HX1;go_upto_region 5 with fail
  obtain⟨W,hW⟩:∃ W,w2.alloc (.cells #[.int .u8 1,.int .u64 0,.string ⟨#[]⟩,.slice none 0 0] 44)=W:=⟨_,rfl⟩;have hTX:TX W W w.heap.size w2.heap.size (.int .u8 (p:Int)) (.int .u32 (ttl:Int)) (.int .u32 (n:Int)) (.string id) (.slice A l c):=by
   rw[←hW];exact⟨HX2.out.alloc _,Box.new _ _ _ _ _,by have:=HX2.out.lt;simp;omega,by simp,Below.refl _ _⟩
  have HBW:Hid (Below w.heap.size w W):=Lib.hid (hW▸HB2.out.alloc (Nat.le_trans (Nat.le_refl _) HB2.out.size) _);have HT:=Lib.hid hTX;rw[hW];clear hW HX2 HB2 hTX;obtain⟨gn,hgn⟩:∃ gn,w2.heap.size=gn:=⟨_,rfl⟩;rw[hgn] at HT ⊢;clear hgn w2;obtain⟨x0,x1,x2,x3,x4,xf⟩:=HT.out.bx.all;go_cut [26] (fun s wx=>s=.bool (hasH ⟨p,ttl,n,id,b⟩)∧W=wx)
  case first=>
   cases d1<;>cases d2<;>cases d3<;>(go_wp2_with fail;go_meet;exact⟨by rw[HH.out];rfl,rfl⟩)
  case rest=>
   obtain⟨hu,hw⟩:=hcut;subst hu;subst hw;rename_i hK;refine hK _ _ ?_;clear hK;obtain⟨i0,hi,hz0,hz1,hz2⟩:=info_parts infoV;go_cut [4] (fun s wx=>∃ A9 n9 c9 xs9 L,n9≤1∧s=.slice A9 n9 c9∧CS W.heap.size wx A9 n9 c9 L xs9∧L=(if hasH ⟨p,ttl,n,id,b⟩=true then [hdV ⟨p,ttl,n,id,b⟩] else [])∧TX W wx w.heap.size gn (.int .u8 (p:Int)) (.int .u32 (ttl:Int)) (.int .u32 (n:Int)) (.string id) (.slice A l c))
   case first=>
    cases hh:hasH ⟨p,ttl,n,id,b⟩ with
    | false=>
     go_wp2_with fail;go_meet;exact⟨_,_,_,_,_,by omega,rfl,CS.nil _ _,by rw[hh];rfl,HT.out⟩
    | true=>
     go_upto_region 6 with fail
     have hT0:=HT.out.drew;go_region_held3 (fun wx=>wx.cell? ⟨w.heap.size,0,none⟩=some (.int .u8 (p:Int))∧wx.cell? ⟨w.heap.size,1,none⟩=some (.int .u32 (ttl:Int))∧wx.cell? ⟨w.heap.size,2,none⟩=some (.int .u32 (n:Int))∧wx.cell? ⟨gn,0,none⟩=some (.int .u8 1)∧wx.cell? ⟨gn,1,none⟩=some (.int .u64 0)∧wx.cell? ⟨gn,2,none⟩=some (.string ⟨#[]⟩)∧wx.cell? ⟨gn,3,none⟩=some (.slice none 0 0)∧TX W wx w.heap.size gn (.int .u8 (p:Int)) (.int .u32 (ttl:Int)) (.int .u32 (n:Int)) (.string id) (.slice A l c)) (with_reducible first | assumption | exact TX.c7 hT0 | exact TX.c7 HT.out | exact TX.c7 ht1 | exact TX.c7 ht2 | exact TX.c7 ht3 | exact TX.c7 (TX.alloc ht3 _) | exact TX.c7 ht6 | exact TX.c7 (TX.alloc ht6 _) | exact TX.c7 ht7 | fail)
      (first
      | (go_at_call 30;(with_reducible refine(xn4 p d1 HD1.out _ HP.out).mono ?_);rintro e w1 ⟨k1,n1,hv1,hk1,hn1,rfl,hb1⟩;have HV1:=Lib.hid hv1;have HK1:=Lib.hid hk1;have HN1:=Lib.hid hn1;clear hv1 hk1 hn1;have ht1:=TX.call hT0 hb1)
      | (go_at_call 30;(with_reducible refine(xn0 n d3 HD3.out _ HNN.out).mono ?_);rintro e w3 ⟨k3,n3,hv3,hk3,hn3,rfl,hb3⟩;have HV3:=Lib.hid hv3;have HK3:=Lib.hid hk3;have HN3:=Lib.hid hn3;clear hv3 hk3 hn3;have ht3:=TX.call ht2 hb3)
      | (go_at_call 30;(with_reducible refine(xn0 ttl d2 HD2.out _ HTL.out).mono ?_);rintro e w2 ⟨k2,n2,hv2,hk2,hn2,rfl,hb2⟩;have HV2:=Lib.hid hv2;have HK2:=Lib.hid hk2;have HN2:=Lib.hid hn2;clear hv2 hk2 hn2;have ht2:=TX.call ht1 hb2)
      | (go_at_call 29;(with_reducible refine(xput112 [nullV,.mk k1 n1 ⟨#[]⟩ [],.mk k2 n2 ⟨#[]⟩ [],nullV,.mk k3 n3 ⟨#[]⟩ []] _ 5 5 _ (bulk_five n1 n2 n3 k1 k2 k3) (kd_five w3 _ rfl HK1.out HN1.out HK2.out HN2.out HK3.out HN3.out)).mono ?_);rintro e w6 ⟨A6,l6,c6,rfl,hN6,hb6⟩;have ht6:=TX.call (TX.alloc ht3 (.cells #[.int .u8 1,.int .u64 0,.string ⟨#[]⟩,.slice none 0 0,.int .u8 (k1:Int),.int .u64 (n1:Int),.string ⟨#[]⟩,.slice none 0 0,.int .u8 (k2:Int),.int .u64 (n2:Int),.string ⟨#[]⟩,.slice none 0 0,.int .u8 1,.int .u64 0,.string ⟨#[]⟩,.slice none 0 0,.int .u8 (k3:Int),.int .u64 (n3:Int),.string ⟨#[]⟩,.slice none 0 0] 44)) hb6)
      | (refine step_append_lies _ rfl _ _ 42 rfl W.heap.size 44 i0 _ 4 56 Tryz.underlying42 hi hz0 hz1 hz2 rfl (by omega) _ _ _ rfl (by exact World.ownsRow_nil _ _ _ _) ⟨w6.heap.size,0,none⟩ 1 1 [.int .u8 25,.int .u64 0,.string ⟨#[]⟩,.slice A6 l6 c6] rfl rfl (by exact Val.news4 _ _ _ _ _ _ _ rfl) (fun u hu=>(by simp at hu;rcases hu with rfl | rfl | rfl | rfl<;>rfl)) (by omega) (by unfold maxLen;omega) (by omega) (by have:=(TX.low ht6).size;simp;omega) _ rfl ?_;intro g9 cap9 w9 hown9 hgrow9 hat9 hlt9;have ht7:=TX.grown (TX.alloc ht6 _) (A:=none) (n:=0) (c:=0) (World.ownsRow_nil _ _ _ _) hgrow9)
      | fail)
     all_goals
      go_wp2_with fail;go_meet;exact⟨_,_,_,_,_,Nat.le_refl _,rfl,xcs_one (Nat.le_trans (TX.low ht3).size (by simp)) hN6 hown9 hgrow9 hat9 (hd_of HV1.out HV2.out HV3.out),by rw[hh];rfl,ht7⟩
   case rest=>
    obtain⟨A9,n9,c9,xs9,L,h9,rfl,hCS,hL,hT⟩:=hcut;have HCS:=Lib.hid hCS;replace HT:=Lib.hid hT;have HL9:=Lib.hid hL;clear hT hCS hL e1 e2 e3 f1 f2 f3 g1 g2 g3 x0 x1 x2 x3 x4 xf HD1 HD2 HD3 HH
    rename ∀ (_:Act) (_:World),_→_=>hK
    refine hK _ _ ?_;clear hK;go_step;obtain⟨x0,x1,x2,x3,x4,xf⟩:=HT.out.bx.all;have hncap:=own_cap HCS.out.own;go_cut [4] (fun s wx=>∃ A9 n9 c9 xs9 L,n9≤2∧s=.slice A9 n9 c9∧CS W.heap.size wx A9 n9 c9 L xs9∧L++[daV b]=secM ⟨p,ttl,n,id,b⟩∧TX W wx w.heap.size gn (.int .u8 (p:Int)) (.int .u32 (ttl:Int)) (.int .u32 (n:Int)) (.string id) (.slice A l c))
    case first=>
     by_cases h0:id.size=0
     ·have hd:id.toList.isEmpty=true:=by rw[empty_of h0];simp
      have HSEC:Hid (L++[daV b]=secM ⟨p,ttl,n,id,b⟩):=Lib.hid (by rw[HL9.out];unfold secM;rw[if_pos h0];rfl);clear h0;go_wp2_with fail;go_meet;exact⟨_,_,_,_,_,by omega,rfl,HCS.out,HSEC.out,HT.out⟩
     ·have hd:id.toList.isEmpty=false:=empty_no' h0;have HSEC:Hid ((L++[prV id])++[daV b]=secM ⟨p,ttl,n,id,b⟩):=Lib.hid (by rw[HL9.out];unfold secM;rw[if_neg h0,List.append_assoc]);clear h0;go_wp2_with (first
       | (go_at_call 31;(with_reducible refine(xstr_new id _).mono ?_);rintro e w1 ⟨rfl,hb1⟩;have ht1:=TX.call HT.out hb1;have hc1:=CS.call HCS.out hb1)
       | (go_at_call 29;(with_reducible refine(xput115 [.mk 20 0 id []] _ 1 1 _ (bulk_id HS.out) (kid20 id w1 _ rfl)).mono ?_);rintro e w2 ⟨A2,l2,c2,rfl,hN2,hb2⟩;have ht2:=TX.call (TX.alloc ht1 (.cells #[.int .u8 20,.int .u64 0,.string id,.slice none 0 0] 44)) hb2;have hc2:=CS.call (CS.alloc hc1 (.cells #[.int .u8 20,.int .u64 0,.string id,.slice none 0 0] 44)) hb2)
       | (at_builtin;refine wpList_append_lies _ rfl _ _ 42 rfl W.heap.size 44 i0 _ 4 56 Tryz.underlying42 hi hz0 hz1 hz2 rfl (by omega) _ _ _ rfl (World.ownsRow.alloc (CS.own hc2) _) ⟨w2.heap.size,0,none⟩ 1 1 [.int .u8 25,.int .u64 0,.string ⟨#[]⟩,.slice A2 l2 c2] rfl rfl (Val.news4 _ _ _ _ _ _ _ rfl) (fun u hu=>(by simp at hu;rcases hu with rfl | rfl | rfl | rfl<;>rfl)) (by omega) (by unfold maxLen;omega) (by omega) (by have:=(TX.low ht2).size;simp;omega) _ rfl ?_;intro g9 cap9 w9 hown9 hgrow9 hat9 hlt9;have ht7:=TX.grown (TX.alloc ht2 _) (World.ownsRow.alloc (CS.own hc2) _) hgrow9)
       | fail)
      go_meet;exact⟨_,_,_,_,_,by omega,rfl,xcs_pr (TX.low (TX.alloc ht1 (.cells #[.int .u8 20,.int .u64 0,.string id,.slice none 0 0] 44))).size hc2 (CS.alloc hc1 _).blk hN2 hown9 hgrow9 hat9,HSEC.out,ht7⟩
    case rest=>
     clear HCS HT HL9 h9 hncap x0 x1 x2 x3 x4 xf;obtain⟨A8,n8,c8,xs8,L8,h8,rfl,hCS,hSEC,hT⟩:=hcut;have HCS:=Lib.hid hCS;have HT:=Lib.hid hT;have HSEC:=Lib.hid hSEC;clear hT hCS hSEC;have hncap:=own_cap HCS.out.own;have hol:=HCS.out.own.lt;have hT0:=HT.out.drew;have HRN:=Lib.hid (fun wx (h:TX W wx w.heap.size gn (.int .u8 (p:Int)) (.int .u32 (ttl:Int)) (.int .u32 (n:Int)) (.string id) (.slice A l c))=>run_str c (HRD.out.call (below_next HBW.out h.low)));go_upto_region 9 with fail
     go_cut [4] (fun s wx=>∃ A9 n9 c9 xs9,n9≤3∧s=.slice A9 n9 c9∧CS W.heap.size wx A9 n9 c9 (secM ⟨p,ttl,n,id,b⟩) xs9∧TX W wx w.heap.size gn (.int .u8 (p:Int)) (.int .u32 (ttl:Int)) (.int .u32 (n:Int)) (.string id) (.slice A l c))
     case first=>
      go_region_held3 (fun wx=>wx.cell? ⟨w.heap.size,4,none⟩=some (.slice A l c)∧(convert 23 9 (.slice A l c)).run Tryz.prog wx=.ok (.string (sb b)) wx∧TX W wx w.heap.size gn (.int .u8 (p:Int)) (.int .u32 (ttl:Int)) (.int .u32 (n:Int)) (.string id) (.slice A l c)) (with_reducible first | assumption | exact TX.c4 hT0 (HRN.out _ hT0) | exact TX.c4 ht1 (HRN.out _ ht1) | exact TX.c4 ht2 (HRN.out _ ht2) | exact TX.c4 ht3 (HRN.out _ ht3) | exact TX.c4 (TX.alloc ht3 _) (HRN.out _ (TX.alloc ht3 _)) | exact TX.c4 ht7 (HRN.out _ ht7) | fail)
       (first
       | (go_at_call 33;(with_reducible refine(xcode117 _).mono ?_);rintro e w1 ⟨rfl,hb1⟩;have ht1:=TX.call hT0 hb1;have hc1:=CS.call (CS.drew HCS.out) hb1)
       | (go_at_call 31;(with_reducible refine(xbin_new (sb b) _).mono ?_);rintro e w2 ⟨rfl,hb2⟩;have ht2:=TX.call ht1 hb2;have hc2:=CS.call hc1 hb2)
       | (go_at_call 32;(with_reducible refine(xdesc_da (sb b) _).mono ?_);rintro e w3 ⟨A3,l3,c3,rfl,hN3,hb3⟩;have ht3:=TX.call ht2 hb3;have hc3:=CS.call hc2 hb3)
       | (refine step_append_lies _ rfl _ _ 42 rfl W.heap.size 44 i0 _ 4 56 Tryz.underlying42 hi hz0 hz1 hz2 rfl (by omega) _ _ _ rfl (by exact World.ownsRow.alloc (CS.own hc3) _) ⟨w3.heap.size,0,none⟩ 1 1 [.int .u8 25,.int .u64 0,.string ⟨#[]⟩,.slice A3 l3 c3] rfl rfl (by exact Val.news4 _ _ _ _ _ _ _ rfl) (fun u hu=>(by simp at hu;rcases hu with rfl | rfl | rfl | rfl<;>rfl)) (by omega) (by unfold maxLen;omega) (by omega) (by have:=(TX.low ht3).size;simp;omega) _ rfl ?_;intro g9 cap9 w9 hown9 hgrow9 hat9 hlt9;have ht7:=TX.grown (TX.alloc ht3 _) (World.ownsRow.alloc (CS.own hc3) _) hgrow9)
       | fail)
      all_goals
       go_wp2_with fail;go_meet;exact⟨_,_,_,_,by omega,rfl,(xcs_more (TX.low ht2).size hc3 hc2.blk hN3 hown9 hgrow9 hat9).cast HSEC.out,ht7⟩
     case rest=>
      clear HCS HT hncap hol hT0 HRN HSEC h8 hi hz0 hz1 hz2 i0;obtain⟨A1,l1,c1,xs1,hl3,rfl,hCS,hT⟩:=hcut;have hN:=hCS.nw;obtain⟨vs,hvs⟩:∃ vs,secM ⟨p,ttl,n,id,b⟩=vs:=⟨_,rfl⟩;rw[hvs] at hN HE HSG HSB HSL HLL;have hlen:=hN.len;have HN:=Lib.hid hN.kd;have HLV:=Lib.hid hlen;have HBW2:=Lib.hid (HBW.out.trans (hT.low.mono HBW.out.size));clear hN hlen hCS hT hvs HBW;go_wp2_with fail;go_loopw [6,7] (fun s4 s15 wr=>∃ (j:Nat) (A4:Option Addr) (n4 c4:Nat),j≤l1∧s15=.int .i64 (j:Nat)∧s4=.slice A4 n4 c4∧PL w wc wr vs A1 l1 c1 A4 n4 c4 j) (fun _ i _=>l1 - (intOf i).toNat)
      case atStart=>exact⟨0,none,0,0,by omega,rfl,rfl,⟨Utf.Own.nil _ _ _ _ _,Below.refl _ _⟩⟩
      case round=>
       obtain⟨j,A4,n4,c4,hj,rfl,rfl,hP⟩:=hrel;have HP:=Lib.hid hP;by_cases hlt:j < l1
       ·obtain⟨g,o,k,m,t,ks,A',l',c',rfl,hgl,hx,y0,y1,y2,y3,hk,hm,hK⟩:=(HN.out.call hP.low).at_ hlt;have hmem:V.mk k m t ks∈vs:=List.mem_of_getElem? hx;have HG:=Lib.hid (HSG.out _ hmem);have HBK:=Lib.hid (HSB.out _ hmem);have HKK:=Lib.hid hk;have HMM:=Lib.hid hm;have HK:=Lib.hid hK;have HXX:=Lib.hid hx;have HLT:=Lib.hid hlt;have HLN:Hid (n4≤1228800):=Lib.hid (by rw[←hP.own.len];exact HLL.out j);have hlow:=hP.low.size;clear hmem hk hm hK hx hP;go_wp2_with (first
         | (go_at_call 34;(with_reducible refine(xenc_yes k m t ks A' l' c' _ HG.out.2 (Nat.le_trans HBK.out (by omega)) HKK.out HMM.out HK.out).mono ?_);rintro e w3 ⟨A3,m3,c3,rfl,hO3,hb4⟩;have hm3:m3≤409600:=le_lay hO3.len HG.out.1.1 HBK.out)
         | (at_builtin;refine wpList_app8 (base:=wc.heap.size) rfl _ _ rfl rfl (HP.out.own.below hb4) rfl hO3.rd (by have:=HLN.out;omega) (by have:=hb4.size;omega) ?_;intro A5 c5 w5 hO5 hg5)
         | fail)
        go_roundw
        case rel=>
         refine⟨j+1,A5,n4+m3,c5,HLT.out,by go_num,rfl,⟨?_,?_⟩⟩
         ·rw[layL_snoc vs HXX.out];exact hO5
         ·exact(HP.out.low.trans (hb4.mono hlow)).trans (below_grown (HP.out.own.below hb4) hg5 (by have:=hb4.size;omega))
        case measure=>(have:=HLT.out;simp[intOf];omega)
       ·have hjl:j=l1:=by omega
        have HO:Hid (Utf.Own .u8 256 5 wr w.heap.size A4 n4 c4 (layL vs)):=Lib.hid (by
         have h1:=hP.own;rw[List.take_of_length_le (by have:=HLV.out;omega)] at h1;exact h1.mono HBW2.out.size)
        have HLW:=Lib.hid (HBW2.out.trans (hP.low.mono HBW2.out.size));clear hP hjl;go_wp2;refine bodyPost_ret (v:=.tuple #[.slice A4 n4 c4,.int .i64 0]) (by simp[results,Tryz.results10,go_sem]) rfl ?_;rw[HE.out];exact⟨A4,n4,c4,rfl,HO.out,HLW.out⟩
end Go.Proofs.YtcilmmdmkpnppaaGreatDoor.Me
end
section
namespace Go.Proofs.YtcilmmdmkpnppaaGreatDoor.messagePuts
set_option maxRecDepth 100000
open Go.RowKit Utf Val Fl Me V
def GP (er:Int)(m:Nat)(bs:List Nat)(w:World)(e:Ending)(w':World):Prop:=∃ A c,e=.returned (.tuple #[.slice A m c,.int .i64 er])∧Utf.Own .u8 256 5 w' w.heap.size A m c bs∧Below w.heap.size w w'
theorem gp_of {o:Option (List Nat)}:∃ (er:Int) (m:Nat) (bs:List Nat),∀ w e w',GivesPut o w e w'→GP er m bs w e w':=by
 cases o with
 | none=>exact⟨1,0,[],fun w e w' ⟨h1,h2⟩=>⟨none,0,h1,Utf.Own.nil _ _ _ _ _,h2⟩⟩
 | some bs=>
  refine⟨0,bs.length,bs,fun w e w' ⟨A,m,c,h1,h2,h3⟩=>?_⟩;obtain rfl:bs.length=m:=h2.len;exact⟨A,c,h1,h2,h3⟩
theorem bx_set {w:World}{g:Nat}{x0 x1 x2 x3 x4 v:Value}(h:BxM w g x0 x1 x2 x3 x4):BxM (w.setCell ⟨g,4,none⟩ v) g x0 x1 x2 x3 v:=by
 unfold BxM at h ⊢;rw[setCell_eq_setRow w g 4 _ _ _ _ h,setRow_heap w g _ _ _ _ h];rfl
theorem bx_far {w:World}{g g' j:Nat}{x0 x1 x2 x3 x4 v:Value}(h:BxM w g x0 x1 x2 x3 x4)(hg:g≠g'):BxM (w.setCell ⟨g',j,none⟩ v) g x0 x1 x2 x3 x4:=by
 unfold BxM at h ⊢;rw[Below.heap_setCell w ⟨g',j,none⟩ v g hg];exact h
theorem own_sb {w:World}{base n c:Nat}{A:Option Addr}{l:List Nat}(h:Utf.Own .u8 256 5 w base A n c l){g j:Nat}(hg:g < base)(v:Value):Utf.Own .u8 256 5 (w.setCell ⟨g,j,none⟩ v) base A n c l:=
 ⟨h.1,ownsRow_setCell_below h.2.1 (a:=⟨g,j,none⟩) hg v,h.2.2.keep fun k hk=>Below.heap_setCell w ⟨g,j,none⟩ v k (by have:=(h.blk k hk).1;show k≠g;omega)⟩
set_option maxHeartbeats 4000000 in
theorem walk (p ttl n:Nat)(id:ByteArray)(A:Option Addr)(l c:Nat)(b:List Nat)(w:World)(hTab:Tab w)(hp:p < 256)(ht:ttl < 4294967296)(hn:n < 4294967296)(hr:Rd .u8 256 w w.heap.size A l b) :
  Calls Tryz.prog 3 #[mV p ttl n id A l c] w (GivesB true w):=by
 have hb0:Below w.heap.size w (w.alloc (.cells #[.int .u8 (p:Int),.int .u32 (ttl:Int),.int .u32 (n:Int),.string id,.slice A l c] 25)):=(Below.refl _ _).alloc (Nat.le_refl _) _;have HB0:=Lib.hid hb0;have HX0:=Lib.hid (BxM.new w (.int .u8 (p:Int)) (.int .u32 (ttl:Int)) (.int .u32 (n:Int)) (.string id) (.slice A l c));have HRB:=Lib.hid hr;have HTW:=Lib.hid hTab;obtain⟨d,hd⟩:∃ d,(decide (4096 < id.size)||decide (8192 < l))=d:=⟨_,rfl⟩;have HLG:=Lib.hid (fun wx=>mlarge_any p ttl n id A l c wx d hd);have HWK:=Lib.hid (fun wx (h:Tab wx)=>works10_any wx h);obtain⟨er,m,bs,hG⟩:=gp_of (o:=putM ⟨p,ttl,n,id,b⟩);have HG:=Lib.hid hG;clear hG;cases d with
 | true=>
  unfold mV at HLG ⊢;clear hd hb0 hr hTab hp ht hn;go_enter Tryz.func3,Tryz.ntmps3;go_wp2_with (first
  | (go_at_call 7;(with_reducible refine(HWK.out _ H1.out.2.2.1).mono ?_);rintro e w2 ⟨rfl,hb2⟩)
  | (go_at_call 6;(with_reducible refine(HLG.out _).mono ?_);rintro e w1 ⟨rfl,hb1⟩;have hbl:=below_next HB0.out hb1;have H1:=Lib.hid (And.intro (HX0.out.call hb1) (And.intro (HRB.out.call hbl) (And.intro (HTW.out.call hbl) hbl)));obtain⟨t0,t1,t2,t3,t4,tf⟩:=H1.out.1.all;clear hb1 hbl)
   | fail)
  go_ret;exact⟨rfl,below_next H1.out.2.2.2 hb2⟩
 | false=>
  have hs:id.size≤4096∧l≤8192:=by simp at hd;omega
  have HS:=Lib.hid hs;have HP1:=Lib.hid (fun(A:Option Addr) (c:Nat) (w:World) (hr:Rd .u8 256 w w.heap.size A l b) (hT:Tab w)=>(mput_any p ttl n id A l c b w hp ht hn (by omega) (by omega) hr hT).mono (fun e w' h=>HG.out w e w' h));have HP2:=Lib.hid (fun(A:Option Addr) (c:Nat) (w:World) (hr:Rd .u8 256 w w.heap.size A l b)=>(xmput_any p ttl n id A l c b w hp ht hn (by omega) (by omega) hr).mono (fun e w' h=>HG.out w e w' h));unfold mV at HLG HP1 HP2 ⊢;clear hd hb0 hr hTab hp ht hn hs;go_enter Tryz.func3,Tryz.ntmps3;go_wp2_with fail
  (with_reducible refine(HLG.out _).mono ?_)
  rintro e w1 ⟨rfl,hb1⟩;have HX1:=Lib.hid (HX0.out.call hb1);have HB1:=Lib.hid (below_next HB0.out hb1);obtain⟨t0,t1,t2,t3,t4,tf⟩:=HX1.out.all;clear hb1 HX0 HB0;have HBN:=Lib.hid (BxM.new w1 (.int .u8 (p:Int)) (.int .u32 (ttl:Int)) (.int .u32 (n:Int)) (.string id) (.slice A l c));have HB2:=Lib.hid (HB1.out.alloc HB1.out.size (.cells #[.int .u8 (p:Int),.int .u32 (ttl:Int),.int .u32 (n:Int),.string id,.slice A l c] 25));have HX2:=Lib.hid (HX1.out.alloc (.cells #[.int .u8 (p:Int),.int .u32 (ttl:Int),.int .u32 (n:Int),.string id,.slice A l c] 25));generalize hW2:w1.alloc (.cells #[.int .u8 (p:Int),.int .u32 (ttl:Int),.int .u32 (n:Int),.string id,.slice A l c] 25)=W2 at HBN HB2 HX2;obtain⟨u0,u1,u2,u3,u4,uf⟩:=HX2.out.all;go_wp2_with fail
  (with_reducible refine(Rm.room A l c b _ (HRB.out.call HB2.out) (by have:=HS.out;omega)).mono ?_)
  rintro e w3 ⟨g,rfl,hy3,hb3⟩;have HB3:=Lib.hid (below_next HB2.out hb3);have HX3:=Lib.hid (HX2.out.call hb3);have HN3:=Lib.hid (HBN.out.call hb3);have HY3:=Lib.hid hy3;clear hb3 hy3 HB2 HX2 HBN t0 t1 t2 t3 t4 tf u0 u1 u2 u3 u4 uf;obtain⟨n0,n1,n2,n3,n4,nf⟩:=HN3.out.all;go_upto_region 5 with fail
  have hsz:w1.heap.size < W2.heap.size:=by rw[←hW2];simp
  have hgm:w.heap.size < w1.heap.size:=HX1.out.lt;obtain⟨W4,hW4⟩:∃ W4,w3.setCell ⟨w1.heap.size,4,none⟩ (.slice (some ⟨g,0,none⟩) l (l+11))=W4:=⟨_,rfl⟩;have HX4:Hid (BxM W4 w.heap.size (.int .u8 (p:Int)) (.int .u32 (ttl:Int)) (.int .u32 (n:Int)) (.string id) (.slice A l c)):=Lib.hid (hW4▸bx_far HX3.out (by omega));have HN4:Hid (BxM W4 w1.heap.size (.int .u8 (p:Int)) (.int .u32 (ttl:Int)) (.int .u32 (n:Int)) (.string id) (.slice (some ⟨g,0,none⟩) l (l+11))):=Lib.hid (hW4▸bx_set HN3.out);have HY4:Hid (Rm.Rmy W4 w.heap.size g l b):=Lib.hid (hW4▸⟨Utf.Own.mono (own_sb HY3.out.own hsz _) (by omega),HY3.out.len⟩);have HB4:Hid (Below w.heap.size w W4):=Lib.hid (hW4▸HB3.out.setCell (p:=⟨w1.heap.size,4,none⟩) (by show w.heap.size≤w1.heap.size;omega) _);have hgl:g < W4.heap.size:=HY4.out.blk.2;rw[hW4];clear hW4 HX3 HN3 HY3 HB3 hW2 n0 n1 n2 n3 n4 nf hsz hgm HX1 HB1;obtain⟨n0,n1,n2,n3,n4,nf⟩:=HN4.out.all;go_wp2_with fail
  (with_reducible refine(HP1.out (some ⟨g,0,none⟩) (l+11) _ HY4.out.mine.rd (HTW.out.call HB4.out)).mono ?_)
  rintro e w5 ⟨A5,c5,rfl,ho5,hb5⟩;have HB5:=Lib.hid (below_next HB4.out hb5);have HX5:=Lib.hid (HX4.out.call hb5);have HN5:=Lib.hid (HN4.out.call hb5);have HY5:=Lib.hid (HY4.out.below hb5);have HO5:=Lib.hid ho5;have hg5:=ho5.blk;have hs5:=hb5.size;clear ho5 hb5 n0 n1 n2 n3 n4 nf;obtain⟨n0,n1,n2,n3,n4,nf⟩:=HX5.out.all;go_wp2_with fail
  (with_reducible refine(HP2.out A c _ (HRB.out.call HB5.out)).mono ?_)
  rintro e w6 ⟨A6,c6,rfl,ho6,hb6⟩;have HB6:=Lib.hid (below_next HB5.out hb6);have HX6:=Lib.hid (HX5.out.call hb6);have HN6:=Lib.hid (HN5.out.call hb6);have HY6:=Lib.hid (HY5.out.below hb6);have HO6:=Lib.hid (HO5.out.below hb6);have HR6:=Lib.hid ho6.rd;have hs6:=hb6.size;clear ho6 hb6 n0 n1 n2 n3 n4 nf;obtain⟨n0,n1,n2,n3,n4,nf⟩:=HX6.out.all;obtain⟨m0,m1,m2,m3,m4,mf⟩:=HN6.out.all;have HKP:=Lib.hid (Rm.kept _ g l A c b w6 HY6.out (HRB.out.call HB6.out) (by have:=HS.out;omega));have hee:(er != er)=false:=by simp
  go_wp2_with (first
   | (go_at_call 11;(with_reducible refine(eqbytes_same _ _ A5 A6 m c5 c6 _ w6 HO6.out.rd HR6.out).mono ?_);rintro e w7 ⟨rfl,rfl⟩)
   | (go_at_call 12;(with_reducible refine HKP.out.mono ?_);rintro e w7 ⟨rfl,rfl⟩)
   | fail)
  (with_reducible refine(HP1.out (some ⟨g,0,none⟩) (l+11) _ HY6.out.mine.rd (HTW.out.call HB6.out)).mono ?_)
  rintro e w8 ⟨A8,c8,rfl,ho8,hb8⟩;have HB8:=Lib.hid (below_next HB6.out hb8);have HN8:=Lib.hid (HN6.out.call hb8);have HY8:=Lib.hid (HY6.out.below hb8);have HO8:=Lib.hid (HO6.out.below hb8);have HP8:=Lib.hid ho8;clear hb8 ho8 n0 n1 n2 n3 n4 nf m0 m1 m2 m3 m4 mf;obtain⟨m0,m1,m2,m3,m4,mf⟩:=HN8.out.all;have hrow:(w8.alloc (.cells #[.slice A5 m c5,.slice A8 m c8,.slice (some ⟨g,0,none⟩) l (l+11)] 23)).heap[w8.heap.size]? = some (.cells #[.slice A5 m c5,.slice A8 m c8,.slice (some ⟨g,0,none⟩) l (l+11)] 23 (0,0)):=heap_alloc_new w8 _;have hbb:Below w8.heap.size w8 (w8.alloc (.cells #[.slice A5 m c5,.slice A8 m c8,.slice (some ⟨g,0,none⟩) l (l+11)] 23)):=(Below.refl _ _).alloc (Nat.le_refl _) _;have HA:=Lib.hid (Fr.apart3 (base:=w.heap.size) (x:=W4.heap.size) (y:=w6.heap.size) hrow (Utf.Own.mono (HO8.out.below hbb) HB4.out.size) (Utf.Own.mono (HP8.out.below hbb) HB6.out.size) (HY8.out.below hbb).mine (fun b o e=>by have:=hg5 b (by rw[e];rfl);omega) (fun b o e=>(HP8.out.blk b (by rw[e];rfl)).1) (fun b o e=>by injection e with e;injection e with e1 _;omega) (Nat.le_trans hs5 hs6));have HB9:=Lib.hid (below_next HB8.out hbb);clear hrow hbb hg5 hs5 hs6 hgl;go_wp2_with (first
   | (go_at_call 13;(with_reducible refine HA.out.mono ?_);rintro e w9 ⟨rfl,hb9⟩;have HBX:=Lib.hid (below_next HB9.out hb9);clear hb9)
   | (go_at_call 7;(with_reducible refine(HWK.out _ (HTW.out.call HBX.out)).mono ?_);rintro e w10 ⟨rfl,hb10⟩)
   | fail)
  go_ret;exact⟨rfl,below_next HBX.out hb10⟩
end Go.Proofs.YtcilmmdmkpnppaaGreatDoor.messagePuts
end
section
namespace Go.Proofs.YtcilmmdmkpnppaaGreatDoor.messagePuts
open Go.ChangeShapes Go.WideShapes Go.ChangeAt Go.RowKit Utf Val Fl Me
set_option maxRecDepth 100000 in
theorem lifted (os:Os)(started:os.Started)(H:Type)(enc:TypeId×Value→H) :
  ReturnsInHanded {} Tryz.checked os 3 .any (fun w args=>(Rows.messagePutsSpec.pre enc Tryz.prog Tryz.f3 [] false w args∧laidMetH Tryz.prog laid w)∧sizedMet enc Tryz.prog Tryz.f3 (OpenSpec.ofChange Rows.messagePutsSpec) false w args)
   (Rows.messagePutsSpec.post enc Tryz.prog Tryz.f3 false true false false):=by
 refine returnsInHanded_of_change_and (C:=Tryz.checked) (X:=fun w _=>laidMetH Tryz.prog laid w) (fun _ _ _ hh h=>h.of_heap hh) own started (by kernel_rfl) Tryz.func3
  (ChangeSpec.witness_shaped (enc:=enc) (C:=Tryz.checked) (os:=os) (X:=fun w _=>laidMetH Tryz.prog laid w) false (World.doorLaid Tryz.prog 400 os) #[.agg #[.int .u8 0,.int .u32 0,.int .u32 0,.string ⟨#[]⟩,.slice none 0 0]] 8 rfl (World.shaped_of_RefB (by kernel_rfl) (by kernel_rfl)) (by kernel_rfl) (by kernel_rfl) (by kernel_rfl) (door_met os _)) ?_
 intro W base args ds gs before hval0 hW _ _ hL _;have hval:∀ (j:Nat) t v,Tryz.f3.params[j]? = some t→args[j]? = some v→Value.okWide Tryz.prog W .any base t v:=hval0;have hW':=hW;obtain⟨p,q,hA0,hV,rfl,hfz,hnd⟩:=hW;have hA:DataW.TrodAll enc Tryz.prog W 0 (fun _=>true) true Tryz.f3.params.toList args.toList ds p:=hA0;rw[Tryz.params3] at hA hval;obtain⟨v0,vs0,d0,ds0,p0,q0,hargs,rfl,rfl,h0,r0⟩:=trodAll_cons hA;obtain⟨rfl,rfl,rfl⟩:=trodAll_nil r0;obtain rfl:args=#[v0]:=by cases args;simp_all
 obtain⟨rfl,rfl⟩:=trodVars_none hV;have hT:=of_laid hL;clear hA0 hval0;simp only[List.append_nil] at hW';have hlt0:∀ x∈p0,x.block < W.heap.size:=fun x hx=>hW'.lt x (by simp[hx]);obtain⟨p0,e0,n0,s0,A0,l0,c0,b0,rfl,hp0,he0,hn0,hr0,hc0,hm0⟩:=open_msg (hval 0 25 v0 rfl rfl) h0 hlt0;refine(walk p0 e0 n0 s0 A0 l0 c0 b0 W hT hp0 he0 hn0 hr0).mono fun e W' ⟨he,hb⟩=>?_;subst he;exact⟨_,rfl,_,_,_,[],_,[],hW',trodAll_mk1 (shut_bool Tryz.underlying4 _),trodAll_cons_mk (Below.trod laidOut (by kernel_rfl) (of_decide_eq_true (by kernel_rfl)) h0 hb hlt0) trodAll_mk0,rfl,hb.frame _,fun h=>by cases h⟩
theorem over:Rows.messagePutsRow.holds Tryz.pinned (OpenSpec.ofChange Rows.messagePutsSpec):=
 OpenClaim.holds_of_wide 3 Tryz.f3 rfl rfl rfl rfl rfl rfl rfl ⟨rfl,rfl,rfl,rfl,rfl⟩ rfl rfl rfl rfl rfl (by kernel_rfl) Tryz.func3 (by kernel_rfl)
  (of_decide_eq_true (by kernel_rfl)) (by unfold Func.isWrapper;first | (rw[if_pos (by decide +kernel)];kernel_rfl) | (rw[if_neg (by decide +kernel)];exact⟨rfl,rfl⟩))
  (fun os started H enc _=>lifted os started H enc)
theorem proved:Rows.MessagePutsCardSaid:=
 Claim7.holds_tied_plain_at .later [] [.data] true (true, "474700eed4b796bf6d5897fb54557755235e15c97c33196842b3215d164d9905") true
  over (fun _ h=>by cases h) (by kernel_rfl) (fun _ h=>by cases h) messagePuts_row_tie rfl ⟨rfl,rfl⟩ (by kernel_rfl) rfl
  (fun f fn hf hfn=>by
   obtain rfl : f = 3 := Option.some.inj ((show Tryz.prog.funcNamed "bellwether/bellwetherlaw10.MessagePuts" = some 3 by kernel_rfl).symm.trans hf) |>.symm
   obtain rfl:fn=Tryz.f3:=(Option.some.inj (Tryz.func3.symm.trans hfn)).symm;exact⟨by kernel_rfl,fun j t ht=>by
    rw[Tryz.params3] at ht;have hm:t∈[25]:=by simpa using Array.mem_of_getElem? ht
    have hall:([25].all fun u=>!Tryz.prog.wantsStandIn u)=true:=by kernel_rfl
    exact(show Tryz.prog.wantsStandIn t=false by simpa using List.all_eq_true.1 hall t hm)⟩)
  (by kernel_rfl)
end Go.Proofs.YtcilmmdmkpnppaaGreatDoor.messagePuts
end
