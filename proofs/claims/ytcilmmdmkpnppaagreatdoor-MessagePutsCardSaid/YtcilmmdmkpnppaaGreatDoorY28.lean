/-
  Contract of the document's Codes: the codes of a kind, in new memory. No condition but that it is a kind.
  Contract of the document's cons: the constructor of values of one array, or of one value. Conditions: values that may be, of one kind; what 'inside' and 'write' answer of lesser ones is given.
  Contracts of the document's write and inside: the bytes of a value, and what stands in a list, a map or an array. Conditions: values that may be, of bulk at most 2^25.
-/
import Derived.Test.YtcilmmdmkpnppaaGreatDoorY14
import Derived.Test.YtcilmmdmkpnppaaGreatDoorY15
import Derived.Test.YtcilmmdmkpnppaaGreatDoorY27
import Derived.Deep.RegionHeld3
import Derived.Deep.RegionLaw
namespace Go.Proofs.YtcilmmdmkpnppaaGreatDoor.Enc
set_option maxRecDepth 100000
open Go.RowKit Utf Val
theorem gives_lit (w:World)(l:List Nat)(n:Nat)(hn:l.length=n)(hl:∀ x∈l,x < 256)(hm:n≤100)(e:Ending)(he:e=.returned (.slice (some ⟨w.heap.size,0,none⟩) n n)):GivesL w.heap.size l w e (w.alloc (.cells (vs .u8 l).toArray 5)):=
 ⟨_,_,_,he,own_lit8 w w.heap.size n l hn hl (by unfold maxLen;omega) (Nat.le_refl _),(Below.refl _ _).alloc (Nat.le_refl _) _⟩
def codesOf (k:Nat):List Nat:=(chs k).map Prod.fst
theorem cod_1 (w:World):Calls Tryz.prog 137 #[.int .u8 1] w (GivesL w.heap.size [64] w):=by
 have HG:=Lib.hid (gives_lit w [64] 1 rfl (by decide) (by omega) _ rfl);go_enter Tryz.func137,Tryz.ntmps137;go_wp2;go_ret;exact HG.out
theorem cod_2 (w:World):Calls Tryz.prog 137 #[.int .u8 2] w (GivesL w.heap.size [65,66,86] w):=by
 have HG:=Lib.hid (gives_lit w [65,66,86] 3 rfl (by decide) (by omega) _ rfl);go_enter Tryz.func137,Tryz.ntmps137;go_wp2;go_ret;exact HG.out
theorem cod_3 (w:World):Calls Tryz.prog 137 #[.int .u8 3] w (GivesL w.heap.size [80] w):=by
 have HG:=Lib.hid (gives_lit w [80] 1 rfl (by decide) (by omega) _ rfl);go_enter Tryz.func137,Tryz.ntmps137;go_wp2;go_ret;exact HG.out
theorem cod_4 (w:World):Calls Tryz.prog 137 #[.int .u8 4] w (GivesL w.heap.size [96] w):=by
 have HG:=Lib.hid (gives_lit w [96] 1 rfl (by decide) (by omega) _ rfl);go_enter Tryz.func137,Tryz.ntmps137;go_wp2;go_ret;exact HG.out
theorem cod_5 (w:World):Calls Tryz.prog 137 #[.int .u8 5] w (GivesL w.heap.size [67,82,112] w):=by
 have HG:=Lib.hid (gives_lit w [67,82,112] 3 rfl (by decide) (by omega) _ rfl);go_enter Tryz.func137,Tryz.ntmps137;go_wp2;go_ret;exact HG.out
theorem cod_6 (w:World):Calls Tryz.prog 137 #[.int .u8 6] w (GivesL w.heap.size [68,83,128] w):=by
 have HG:=Lib.hid (gives_lit w [68,83,128] 3 rfl (by decide) (by omega) _ rfl);go_enter Tryz.func137,Tryz.ntmps137;go_wp2;go_ret;exact HG.out
theorem cod_7 (w:World):Calls Tryz.prog 137 #[.int .u8 7] w (GivesL w.heap.size [81] w):=by
 have HG:=Lib.hid (gives_lit w [81] 1 rfl (by decide) (by omega) _ rfl);go_enter Tryz.func137,Tryz.ntmps137;go_wp2;go_ret;exact HG.out
theorem cod_8 (w:World):Calls Tryz.prog 137 #[.int .u8 8] w (GivesL w.heap.size [97] w):=by
 have HG:=Lib.hid (gives_lit w [97] 1 rfl (by decide) (by omega) _ rfl);go_enter Tryz.func137,Tryz.ntmps137;go_wp2;go_ret;exact HG.out
theorem cod_9 (w:World):Calls Tryz.prog 137 #[.int .u8 9] w (GivesL w.heap.size [84,113] w):=by
 have HG:=Lib.hid (gives_lit w [84,113] 2 rfl (by decide) (by omega) _ rfl);go_enter Tryz.func137,Tryz.ntmps137;go_wp2;go_ret;exact HG.out
theorem cod_10 (w:World):Calls Tryz.prog 137 #[.int .u8 10] w (GivesL w.heap.size [85,129] w):=by
 have HG:=Lib.hid (gives_lit w [85,129] 2 rfl (by decide) (by omega) _ rfl);go_enter Tryz.func137,Tryz.ntmps137;go_wp2;go_ret;exact HG.out
theorem cod_11 (w:World):Calls Tryz.prog 137 #[.int .u8 11] w (GivesL w.heap.size [114] w):=by
 have HG:=Lib.hid (gives_lit w [114] 1 rfl (by decide) (by omega) _ rfl);go_enter Tryz.func137,Tryz.ntmps137;go_wp2;go_ret;exact HG.out
theorem cod_12 (w:World):Calls Tryz.prog 137 #[.int .u8 12] w (GivesL w.heap.size [130] w):=by
 have HG:=Lib.hid (gives_lit w [130] 1 rfl (by decide) (by omega) _ rfl);go_enter Tryz.func137,Tryz.ntmps137;go_wp2;go_ret;exact HG.out
theorem cod_13 (w:World):Calls Tryz.prog 137 #[.int .u8 13] w (GivesL w.heap.size [115] w):=by
 have HG:=Lib.hid (gives_lit w [115] 1 rfl (by decide) (by omega) _ rfl);go_enter Tryz.func137,Tryz.ntmps137;go_wp2;go_ret;exact HG.out
theorem cod_14 (w:World):Calls Tryz.prog 137 #[.int .u8 14] w (GivesL w.heap.size [131] w):=by
 have HG:=Lib.hid (gives_lit w [131] 1 rfl (by decide) (by omega) _ rfl);go_enter Tryz.func137,Tryz.ntmps137;go_wp2;go_ret;exact HG.out
theorem cod_15 (w:World):Calls Tryz.prog 137 #[.int .u8 15] w (GivesL w.heap.size [152] w):=by
 have HG:=Lib.hid (gives_lit w [152] 1 rfl (by decide) (by omega) _ rfl);go_enter Tryz.func137,Tryz.ntmps137;go_wp2;go_ret;exact HG.out
theorem cod_16 (w:World):Calls Tryz.prog 137 #[.int .u8 16] w (GivesL w.heap.size [116] w):=by
 have HG:=Lib.hid (gives_lit w [116] 1 rfl (by decide) (by omega) _ rfl);go_enter Tryz.func137,Tryz.ntmps137;go_wp2;go_ret;exact HG.out
theorem cod_17 (w:World):Calls Tryz.prog 137 #[.int .u8 17] w (GivesL w.heap.size [132] w):=by
 have HG:=Lib.hid (gives_lit w [132] 1 rfl (by decide) (by omega) _ rfl);go_enter Tryz.func137,Tryz.ntmps137;go_wp2;go_ret;exact HG.out
theorem cod_18 (w:World):Calls Tryz.prog 137 #[.int .u8 18] w (GivesL w.heap.size [148] w):=by
 have HG:=Lib.hid (gives_lit w [148] 1 rfl (by decide) (by omega) _ rfl);go_enter Tryz.func137,Tryz.ntmps137;go_wp2;go_ret;exact HG.out
theorem cod_19 (w:World):Calls Tryz.prog 137 #[.int .u8 19] w (GivesL w.heap.size [160,176] w):=by
 have HG:=Lib.hid (gives_lit w [160,176] 2 rfl (by decide) (by omega) _ rfl);go_enter Tryz.func137,Tryz.ntmps137;go_wp2;go_ret;exact HG.out
theorem cod_20 (w:World):Calls Tryz.prog 137 #[.int .u8 20] w (GivesL w.heap.size [161,177] w):=by
 have HG:=Lib.hid (gives_lit w [161,177] 2 rfl (by decide) (by omega) _ rfl);go_enter Tryz.func137,Tryz.ntmps137;go_wp2;go_ret;exact HG.out
theorem cod_21 (w:World):Calls Tryz.prog 137 #[.int .u8 21] w (GivesL w.heap.size [163,179] w):=by
 have HG:=Lib.hid (gives_lit w [163,179] 2 rfl (by decide) (by omega) _ rfl);go_enter Tryz.func137,Tryz.ntmps137;go_wp2;go_ret;exact HG.out
theorem cod_22 (w:World):Calls Tryz.prog 137 #[.int .u8 22] w (GivesL w.heap.size [69,192,208] w):=by
 have HG:=Lib.hid (gives_lit w [69,192,208] 3 rfl (by decide) (by omega) _ rfl);go_enter Tryz.func137,Tryz.ntmps137;go_wp2;go_ret;exact HG.out
theorem cod_23 (w:World):Calls Tryz.prog 137 #[.int .u8 23] w (GivesL w.heap.size [193,209] w):=by
 have HG:=Lib.hid (gives_lit w [193,209] 2 rfl (by decide) (by omega) _ rfl);go_enter Tryz.func137,Tryz.ntmps137;go_wp2;go_ret;exact HG.out
theorem cod_24 (w:World):Calls Tryz.prog 137 #[.int .u8 24] w (GivesL w.heap.size [224,240] w):=by
 have HG:=Lib.hid (gives_lit w [224,240] 2 rfl (by decide) (by omega) _ rfl);go_enter Tryz.func137,Tryz.ntmps137;go_wp2;go_ret;exact HG.out
theorem codes_any (k:Nat)(h:1≤k∧k≤24)(w:World):Calls Tryz.prog 137 #[.int .u8 (k:Int)] w (GivesL w.heap.size (codesOf k) w):=by
 have:k=1∨k=2∨k=3∨k=4∨k=5∨k=6∨k=7∨k=8∨k=9∨k=10∨k=11∨k=12∨k=13∨k=14∨k=15∨k=16∨k=17∨k=18∨k=19∨k=20∨k=21∨k=22∨k=23∨k=24:=by omega
 rcases this with rfl | rfl | rfl | rfl | rfl | rfl | rfl | rfl | rfl | rfl | rfl | rfl | rfl | rfl | rfl | rfl | rfl | rfl | rfl | rfl | rfl | rfl | rfl | rfl
 ·exact cod_1 w
 ·exact cod_2 w
 ·exact cod_3 w
 ·exact cod_4 w
 ·exact cod_5 w
 ·exact cod_6 w
 ·exact cod_7 w
 ·exact cod_8 w
 ·exact cod_9 w
 ·exact cod_10 w
 ·exact cod_11 w
 ·exact cod_12 w
 ·exact cod_13 w
 ·exact cod_14 w
 ·exact cod_15 w
 ·exact cod_16 w
 ·exact cod_17 w
 ·exact cod_18 w
 ·exact cod_19 w
 ·exact cod_20 w
 ·exact cod_21 w
 ·exact cod_22 w
 ·exact cod_23 w
 ·exact cod_24 w
end Go.Proofs.YtcilmmdmkpnppaaGreatDoor.Enc
namespace Go.Proofs.YtcilmmdmkpnppaaGreatDoor.Enc
set_option maxRecDepth 100000
open Go.RowKit Utf Val V
theorem step_app8 {w:World}{ops:Array Oper}{o:Oper}{a:Act}{KK:Act→World→Prop}{Q:Exit→Act→World→Prop}{E:Prop}(hgd:o.guard=none)(s x:Operand)
  (ho:o.op=.call { callee:=.builtin .append,args:=#[s,x],argTypes:=#[23,23] })
  {base n c:Nat} {A:Option Addr} {L:List Nat} (hs:a.eval s=.slice A n c) (hown:Utf.Own .u8 256 5 w base A n c L)
  {B m d:Nat} {ad:Addr} {l:List Nat} (hx:a.eval x=.slice (some ad) m d) (hr:Rd .u8 256 w B (some ad) m l) (hm0:0 < m) (hsz:n+m≤17592186044416) (hbase:base≤w.heap.size)
  (h:∀ A2 c2 w',Utf.Own .u8 256 5 w' base A2 (n+m) c2 (L++l)→w.grownBy w' (Value.slice A n c).ownBlock→KK (a.put o.dst (.slice A2 (n+m) c2)) w') :
  if Region.wanted o (yielded ops a.tmps)=true then Oper.wp Tryz.prog o a w KK Q else E:=by
 have hw:Region.wanted o (yielded ops a.tmps)=true:=by simp[Region.wanted,hgd]
 rw[if_pos hw];obtain⟨i0,hi,hz0,hz1,hz2⟩:=info_parts info5;have hl:l.length=m:=hr.1;have hvl:(vs .u8 l).length=m * 1:=by rw[vs_length,hl];omega
 have hnews:∀ j u,(vs .u8 l)[j]? = some u→w.cell? (ad.add j)=some u:=by
  intro j u hu;have hj:j < l.length:=by
   have:=(List.getElem?_eq_some_iff.1 hu).1
   rwa [vs_length] at this
  obtain⟨b,o',e,_,hc⟩:=hr.2.2 hm0;injection e with e
  subst e;rw[vs_at _ l j hj] at hu;injection hu with hu
  subst hu;have:=hc j hj;rw[←this];unfold Addr.add
  split
  ·rename_i h0;subst h0;rfl
  ·rfl
 obtain⟨v',w',hrun,h2,h3,_⟩:=run_append_own (P:=Tryz.prog) w base 23 o.type 5 i0 (.int .u8 0) 1 1 Tryz.underlying23 hi hz0 hz1 hz2 rfl (by omega) (.slice A n c) n (vs .u8 L) hown.2.1 ad m d (vs .u8 l) hvl hnews (vs_one _ _) (by unfold maxLen;omega) (by omega) hbase;have h6:=typ_append (P:=Tryz.prog) (Q:=Nb .u8 256) 23 o.type 5 i0 (.int .u8 0) 1 Tryz.underlying23 hi hz0 hz1 hz2 rfl ⟨0,by omega,rfl⟩ base (.slice A n c) n (vs .u8 L) hown.2.1 hown.2.2 ad m d (vs .u8 l) hvl hnews (vs_one _ _) (nb_vs hr.2.1) (by unfold maxLen;omega) (by omega) hrun;rw[←vs_append] at h2;obtain⟨A2,c2,rfl,ho2⟩:=own_of_row (fun y hy=>(List.mem_append.1 hy).elim (hown.1 y) (hr.2.1 y)) h2 h6;unfold Oper.wp execOp;simp only[ho,resolve,invoke,builtin,Sem.run_bind,Sem.run_pure,Result.andThen_ok,List.map_toArray,List.map_cons,List.map_nil,hs,hx,hrun];exact h A2 c2 w' ho2 h3
def WriteC (v:V):Prop:=∀ (k n:Nat) (t:ByteArray) (ks:List V) (A:Option Addr) (l c:Nat) (w:World),v=.mk k n t ks→k < 256→n < 18446744073709551616→Kd w ks A l c →
 Calls Tryz.prog 61 #[.agg #[.int .u8 (k:Int),.int .u64 (n:Int),.string t,.slice A l c]] w (GivesL w.heap.size (lay (plan v)) w)
def InsC (v:V):Prop:=∀ (k n:Nat) (t:ByteArray) (ks:List V) (A:Option Addr) (l c:Nat) (w:World),v=.mk k n t ks→k < 256→n < 18446744073709551616→Kd w ks A l c →
 Calls Tryz.prog 141 #[.agg #[.int .u8 (k:Int),.int .u64 (n:Int),.string t,.slice A l c]] w (GivesL w.heap.size (layK (kp k ks)) w)
theorem WriteC.call {k n:Nat}{t:ByteArray}{ks:List V}(h:WriteC (.mk k n t ks)){A:Option Addr}{l c:Nat}{w:World}(hk:k < 256)(hn:n < 18446744073709551616)(hK:Kd w ks A l c) :
  Calls Tryz.prog 61 #[.agg #[.int .u8 (k:Int),.int .u64 (n:Int),.string t,.slice A l c]] w (GivesL w.heap.size (lay (plan (.mk k n t ks))) w):=h k n t ks A l c w rfl hk hn hK
def GivesK (L:List Nat)(code:Nat)(w:World)(e:Ending)(w':World):Prop:=∃ A n c,e=.returned (.tuple #[.slice A n c,.int .u8 (code:Int)])∧Utf.Own .u8 256 5 w' w.heap.size A n c L∧Below w.heap.size w w'
structure CR (w wr:World) (v:V) (k n:Nat) (t:ByteArray) (ks:List V) (A:Option Addr) (l c:Nat) (B:Option Addr) (m d:Nat) (L:List Nat):Prop where
 eq:core (.mk k n t ks)=core v
 nm:L++layN (planL (called (.mk k n t ks)))=layN (planL (called v))
 sub:∀ x∈called (.mk k n t ks),x∈called v
 may:mayB (.mk k n t ks)=true
 num:k < 256∧n < 18446744073709551616
 kd:Val.Kids false w (Lo w.heap.size) ks A l c
 box:Box wr w.heap.size (.int .u8 (k:Int)) (.int .u64 (n:Int)) (.string t) (.slice A l c)
 own:Utf.Own .u8 256 5 wr (w.heap.size+1) B m d L
 low:Below w.heap.size w wr
structure SC (w wx:World) (vs:List V) (A:Option Addr) (l c:Nat) (B:Option Addr) (m d:Nat) (L:List Nat) (A5:Option Addr) (m5:Nat) (CL:List Nat):Prop where
 kd:Kd wx vs A l c
 own:Utf.Own .u8 256 5 wx (w.heap.size+1) B m d L
 rd:Rd .u8 256 wx wx.heap.size A5 m5 CL
 low:Below w.heap.size w wx
 size:w.heap.size+1≤wx.heap.size
 far:∀ g b o,(Value.slice B m d).ownBlock=some g→A5=some ⟨b,o,none⟩→b≠g
theorem SC.call {w w1 w2:World}{vs:List V}{A:Option Addr}{l c:Nat}{B:Option Addr}{m d:Nat}{L:List Nat}{A5:Option Addr}{m5:Nat}{CL:List Nat}(h:SC w w1 vs A l c B m d L A5 m5 CL)(hb:Below w1.heap.size w1 w2):SC w w2 vs A l c B m d L A5 m5 CL:=
 ⟨h.kd.call hb,h.own.below hb,h.rd.call hb,below_next h.low hb,Nat.le_trans h.size hb.size,h.far⟩
theorem fits_of {x:V}{k k8 n8 code:Nat}{t8:ByteArray}{ks8:List V}{A8:Option Addr}{l8 c8:Nat}{f:Can}{w:World}(he:core x=.mk k8 n8 t8 ks8)(hg:Good x)(hI:InsC (core x))(hk:(core x).kind=k)(hm:(code,f)∈chs k)(hk8:k8 < 256)(hn8:n8 < 18446744073709551616)(hK:Kd w ks8 A8 l8 c8) :
  Calls Tryz.prog 138 #[.int .u8 (code:Int),.agg #[.int .u8 (k8:Int),.int .u64 (n8:Int),.string t8,.slice A8 l8 c8]] w (Val.GivesB (can f (rawv (core x))) w):=by
 have hgc:=hg.core;rw[he] at hgc hI hk ⊢;simp only[V.kind] at hk;subst hk;exact xfits_any code f k8 n8 t8 ks8 A8 l8 c8 w hgc hm hn8 hK fun wx hb=>hI k8 n8 t8 ks8 A8 l8 c8 wx rfl hk8 hn8 (hK.call hb)
theorem cell_grown {w w':World}{row:Option Nat}{b o:Nat}(hg:w.grownBy w' row)(hb:b < w.heap.size)(hr:row≠some b):w'.cell? ⟨b,o,none⟩=w.cell? ⟨b,o,none⟩:=by
 have:=hg.block b hb fun e=>hr e.symm;simp only[World.cell?,this]
theorem own_past {w:World}{base n c:Nat}{A:Option Addr}{L:List Nat}(h:Utf.Own .u8 256 5 w base A n c L){g:Nat}(hg:g < base)(x0 x1 x2 x3:Value):Utf.Own .u8 256 5 ((((w.setCell ⟨g,0,none⟩ x0).setCell ⟨g,1,none⟩ x1).setCell ⟨g,2,none⟩ x2).setCell ⟨g,3,none⟩ x3) base A n c L:=by
 have hne:∀ g',(Value.slice A n c).ownBlock=some g'→g'≠g:=fun g' hg'=>by have:=(h.blk g' hg').1;omega
 refine⟨h.1,own_far4 h.2.1 (fun e=>hne g e rfl) x0 x1 x2 x3,h.2.2.keep fun g' hg'=>?_⟩;have:=hne g' hg';rw[Below.heap_setCell _ ⟨g,3,none⟩ _ g' this,Below.heap_setCell _ ⟨g,2,none⟩ _ g' this,Below.heap_setCell _ ⟨g,1,none⟩ _ g' this,Below.heap_setCell _ ⟨g,0,none⟩ _ g' this]
theorem layN_len_le {a b:List Nat}{L:List Nat}(h:L++a=b):L.length≤b.length:=by rw[←h,List.length_append];omega
set_option maxHeartbeats 4000000 in
theorem xcons_any (v:V)(r:List V)(A:Option Addr)(l c:Nat)(w:World)(hg:GoodL (v::r))(hkind:∀ x∈v::r,(core x).kind=(core v).kind)(hW:∀ x∈called v,WriteC x)(hI:∀ x∈v::r,InsC (core x))(hK:Kd w (v::r) A l c) :
  Calls Tryz.prog 104 #[.slice A l c] w (GivesK (layN (planL (called v))++[kcode (v::r)]) (kcode (v::r)) w):=by
 have hgv:=hg.cons.1;have hK0:Val.Kids false w (Lo w.heap.size) (v::r) A l c:=hK;have hll:l=r.length+1:=hK.len;obtain⟨b0,o0,k0,n0,t0,ks0,A0,l0,c0,rfl,hx0,hy0,hk0,hn0,hK00⟩:=kid_at hK0 (i:=0) (by omega);simp only[List.getElem?_cons_zero,Option.some.injEq] at hx0;subst hx0;rw[Nat.zero_mul,Nat.add_zero] at hy0;obtain⟨d0,d1,d2,d3⟩:=hy0 w (Below.refl _ _);have hP0:CR w (w.alloc (.cells #[.int .u8 (k0:Int),.int .u64 (n0:Int),.string t0,.slice A0 l0 c0] 44)) (.mk k0 n0 t0 ks0) k0 n0 t0 ks0 A0 l0 c0 none 0 0 []:=
  ⟨rfl,by simp,fun _ h=>h,hgv.1,⟨hk0,hn0⟩,hK00,Box.new w _ _ _ _,Utf.Own.nil _ _ _ _ _,(Below.refl _ _).alloc (Nat.le_refl _) _⟩
 have HP0:=Lib.hid hP0;have hlenN:(layN (planL (called (.mk k0 n0 t0 ks0)))).length≤100 * 67108864:=by
  have h1:=lay_bulk _ hgv.1;rw[lay_split hgv.1,List.length_append] at h1;have:=hgv.2.2;omega
 have HLN:=Lib.hid hlenN;have HG:=Lib.hid hg;have HLL:=Lib.hid hll;have h0l:0 < l:=by omega
 clear hy0 hP0 hlenN hll;go_enter Tryz.func104,Tryz.ntmps104;go_wp2_with fail;go_loopg [4] (bulk (.mk k0 n0 t0 ks0)) (fun g s4 wr=>∃ k n t ks A l c B m d L,g=bulk (.mk k n t ks)∧s4=.slice B m d∧CR w wr (.mk k0 n0 t0 ks0) k n t ks A l c B m d L)
 case atStart=>exact⟨_,_,_,_,_,_,_,_,_,_,_,rfl,rfl,HP0.out⟩
 case round=>
  obtain⟨k,n,t,ks,A1,l1,c1,B,m,d,L,hgb,rfl,hP⟩:=hrel;clear HP0 d0 d1 d2 d3;obtain⟨q0,q1,q2,q3,qf⟩:=hP.box.all;by_cases hk:k=25
  ·subst hk;obtain⟨x,y,rfl,hnm,hmx,hmy⟩:=may_desc hP.may;obtain rfl:l1=2:=hP.kd.1;obtain⟨b',o',k1,n1,t1,ks1,A2,l2,c2,rfl,hx1,hyx,hk1,hn1,hK1⟩:=kid_at hP.kd (i:=0) (by omega);obtain⟨b'',o'',k2,n2,t2,ks2,A3,l3,c3,hbo,hx2,hyy,hk2,hn2,hK2⟩:=kid_at hP.kd (i:=1) (by omega);obtain⟨rfl,rfl,_⟩:b'=b''∧o'=o''∧True:=by simpa using hbo
   simp only[List.getElem?_cons_zero,List.getElem?_cons_succ,Option.some.injEq] at hx1 hx2;subst hx1 hx2;rw[Nat.one_mul] at hyy;rw[Nat.zero_mul,Nat.add_zero] at hyx;have q0:wr.cell? ⟨w.heap.size,0,none⟩=some (.int .u8 25):=q0;have HP:=Lib.hid hP;have HGB:=Lib.hid hgb;have HYX:=Lib.hid hyx;have HYY:=Lib.hid hyy;have HWX:=Lib.hid (hW (.mk k1 n1 t1 ks1) (hP.sub _ (by rw[called_desc];simp)));have hmL:m≤100 * 67108864:=by have:=layN_len_le hP.nm;rw[hP.own.len] at this;have:=HLN.out;omega
   have hR0:Rd .u8 256 (wr.alloc (.cells #[.int .u8 0] 5)) (wr.heap.size+1) (some ⟨wr.heap.size,0,none⟩) 1 [0]:=rd_lit8 wr [0] 1 rfl (by decide);have HR0:=Lib.hid hR0;have hO1:=hP.own.alloc (.cells #[.int .u8 0] 5);have HO1:=Lib.hid hO1;have hP':w.heap.size < wr.heap.size∧w.heap.size≤wr.heap.size:=⟨hP.box.lt,hP.low.size⟩;clear hP hyx hyy hgb hnm hmx hR0 hO1 hbo;have hws:=hP'.1;have hwl:=hP'.2;clear hP';go_wp2_with (at_builtin;refine wpList_app8 (base:=w.heap.size+1) rfl _ _ rfl rfl HO1.out rfl HR0.out (by omega) (by simp;omega) ?_;intro A4 c4 w4 ho4 hg4;have HO4:=Lib.hid ho4;have HB4:Hid (Below (w.heap.size+1) wr w4):=Lib.hid (((Below.refl _ _).alloc (by omega) _).trans (below_grown HO1.out hg4 (by simp;omega)));have HBX:=Lib.hid (HP.out.box.below HB4.out (by omega));obtain⟨p0,p1,p2,p3,_⟩:=HBX.out.all;have HL4:Hid (Below w.heap.size w w4):=Lib.hid (HP.out.low.trans (HB4.out.mono (by omega)));obtain⟨y0,y1,y2,y3⟩:=HYX.out w4 HL4.out;clear ho4 hg4);refine(WriteC.call HWX.out hk1 hn1 (kids_kd hK1 HL4.out)).mono ?_;rintro e w5 ⟨A5,m5,c5,rfl,ho5,hb5⟩;have HO5:=Lib.hid ho5;have HS5:=Lib.hid hb5;have hm5:m5≤100 * 67108864:=by
    have h0:=HP.out.nm;rw[called_desc] at h0;have h1:=layN_len_le (L:=L++(0::lay (plan (.mk k1 n1 t1 ks1)))) (a:=layN (planL (called (.mk k2 n2 t2 ks2)))) (b:=layN (planL (called (.mk k0 n0 t0 ks0)))) (by rw[←h0];simp[planL,layN]);have h2:=HLN.out;rw[←ho5.len];simp only[List.length_append,List.length_cons] at h1;omega
   clear ho5 hb5;go_wp2_with (at_builtin;refine wpList_app8 (base:=w.heap.size+1) rfl _ _ rfl rfl (HO4.out.below HS5.out) rfl HO5.out.rd (by omega) (by have:=HB4.out.size;have:=HS5.out.size;omega) ?_;intro A6 c6 w6 ho6 hg6;have HO6:=Lib.hid ho6;have HB6:Hid (Below (w.heap.size+1) wr w6):=Lib.hid ((HB4.out.trans (HS5.out.mono (by have:=HB4.out.size;omega))).trans (below_grown (HO4.out.below HS5.out) hg6 (by have:=HB4.out.size;have:=HS5.out.size;omega)));have HX6:=Lib.hid (HP.out.box.below HB6.out (by omega));obtain⟨r0,r1,r2,r3,_⟩:=HX6.out.all;have HL6:Hid (Below w.heap.size w w6):=Lib.hid (HP.out.low.trans (HB6.out.mono (by omega)));obtain⟨z0,z1,z2,z3⟩:=HYY.out w6 HL6.out;clear ho6 hg6);go_roundg (bulk (.mk k2 n2 t2 ks2))
   case measure=>have:=HGB.out;simp only[bulk,bulkL] at this ⊢;omega
   case rel=>
    have hP:=HP.out;refine⟨_,_,_,_,_,_,_,_,_,_,L++[0]++lay (plan (.mk k1 n1 t1 ks1)),rfl,rfl,⟨by rw[←hP.eq,core_desc],?_,fun x hx=>hP.sub x (by rw[called_desc];simp[hx]),hmy,⟨hk2,hn2⟩,hK2,HX6.out.set4 _ _ _ _,own_past HO6.out (by omega) _ _ _ _,below_set4 HL6.out (Nat.le_refl _) _ _ _ _⟩⟩;rw[←hP.nm,called_desc];simp[planL,layN]
  ·have dk:((k:Int)==25)=false:=by rw[beq_eq_false_iff_ne];omega
   have hcore:=core_not (n:=n) (t:=t) (ks:=ks) hk;have hck:=core_kind _ hgv.1;have heq:=hP.eq;rw[hcore] at heq;have hkind:∀ x∈V.mk k0 n0 t0 ks0::r,(core x).kind=k:=fun x hx=>by rw[hkind x hx,←heq];rfl
   rw[←heq] at hck;simp only[V.kind] at hck;have hLe:L=layN (planL (called (.mk k0 n0 t0 ks0))):=by
    have:=hP.nm;rw[called_not hk] at this
    simpa [planL,layN] using this
   obtain⟨CODE,hCODE⟩:∃ x,kcode (V.mk k0 n0 t0 ks0::r)=x:=⟨_,rfl⟩;obtain⟨PS,hPS⟩:∃ x,planL (V.mk k0 n0 t0 ks0::r)=x:=⟨_,rfl⟩;have hpick:pick ((chs k).drop 0) PS=CODE:=by
    rw[List.drop_zero,←hPS,←hCODE,kcode_pick hgv.1,←heq];rfl
   have hall:∀ f:Can,PS.all (can f)=(V.mk k0 n0 t0 ks0::r).all fun x=>can f (rawv (core x)):=fun f=>by rw[←hPS];exact all_core f _ hg.1
   have HCODE:=Lib.hid hCODE;have hkid:=kids_kd hK0 hP.low;have HPK:=Lib.hid hpick;have HPK0:=Lib.hid hpick;have HAL:=Lib.hid hall;have HCK:=Lib.hid hck;have HKN:=Lib.hid hkind;have HPP:=Lib.hid hP;have HKD:=Lib.hid hkid;have HLE:=Lib.hid hLe;clear hP hcore hLe hCODE hpick hall hck hkind hkid heq hPS hgb hK0 hK00;go_wp2_with fail;refine(codes_any k HCK.out wr).mono ?_;rintro e w5 ⟨A5,m5,c5,rfl,ho5,hb5⟩;have hm5:m5=(chs k).length:=by rw[←ho5.len];simp[codesOf]
   have HM5:=Lib.hid hm5;have HS5:Hid (SC w w5 (.mk k0 n0 t0 ks0::r) (some ⟨b0,o0,none⟩) l c B m d L A5 m5 (codesOf k)):=Lib.hid ⟨HKD.out.call hb5,HPP.out.own.below hb5,ho5.rd,HPP.out.low.trans (hb5.mono HPP.out.low.size),by have:=HPP.out.box.lt;have:=hb5.size;omega,fun g b o hg hb=>by have h1:=(HPP.out.own.blk g hg).2;have h2:=(ho5.blk b (by rw[hb];simp[Value.ownBlock])).1;omega⟩;clear ho5 hb5 hm5 q0 q1 q2 q3 qf;go_wp2_with fail
   rename World=>wq
   clear HPP HKD hW hk dk;go_loopw [7] (fun i wx=>∃ j:Nat,j≤m5∧i=.int .i64 (j:Nat)∧pick ((chs k).drop j) PS=CODE∧Below wq.heap.size wq wx) (fun i _=>m5 - (intOf i).toNat)
   case atStart=>exact⟨0,Nat.zero_le _,rfl,HPK.out,Below.refl _ _⟩
   case round=>
    obtain⟨j,hj,rfl,hpk,hb⟩:=hrel;clear HPK;by_cases hlt:j < m5
    ·have HS:=Lib.hid (HS5.out.call hb);have hjl:j < (chs k).length:=by have:=HM5.out;omega
     obtain⟨⟨cc,f⟩,hcf⟩:∃ x,(chs k)[j]? = some x:=⟨_,List.getElem?_eq_getElem hjl⟩;have hmem:(cc,f)∈chs k:=List.mem_of_getElem? hcf;obtain⟨b1,o1,y,rfl,hb1,hy,hy256,hcl⟩:=HS.out.rd.at_ hlt;obtain rfl:y=cc:=by
      unfold codesOf at hy;rw[List.getElem?_map,hcf] at hy
      simpa using hy.symm
     have HCF:=Lib.hid hcf;have HME:=Lib.hid hmem;have HPK:=Lib.hid hpk;have HB:=Lib.hid hb;have hm5:m5≤3:=by
      have h1:=HM5.out;have h2:∀ k < 25,(chs k).length≤3:=by decide
      have:=h2 k (by have:=HCK.out;omega);omega
     clear hcf hmem hpk hb hy hjl
     rename World=>wp
     go_wp2_with fail;go_loopw [8,9] (fun s8 s9 wx=>∃ i:Nat,i≤l∧s9=.int .i64 (i:Nat)∧s8=.bool (((V.mk k0 n0 t0 ks0::r).take i).all fun x=>can f (rawv (core x)))∧Below wp.heap.size wp wx) (fun _ s9 _=>l - (intOf s9).toNat)
     case atStart=>exact⟨0,Nat.zero_le _,rfl,rfl,Below.refl _ _⟩
     case round=>
      obtain⟨i,hi,rfl,rfl,hbi⟩:=hrel;by_cases hil:i < l
      ·have HT:=Lib.hid (HS.out.call hbi);obtain⟨b2,o2,k',n',t',ks',A',l',c',hbo,hb2,hx,h0,h1,h2,h3,hk',hn',hK'⟩:=HT.out.kd.at_ hil;obtain⟨rfl,rfl,_⟩:b0=b2∧o0=o2∧True:=by simpa using hbo
       obtain⟨b3,o3,y',hbo',hb3,hy',_,hcl'⟩:=HT.out.rd.at_ hlt;obtain⟨rfl,rfl,_⟩:b1=b3∧o1=o3∧True:=by simpa using hbo'
       obtain rfl:y'=y:=by
        have hcf:=HCF.out;unfold codesOf at hy';rw[List.getElem?_map,hcf] at hy'
        simpa using hy'.symm
       have hmemx:=List.mem_of_getElem? hx;have hsn:(V.mk k0 n0 t0 ks0::r).take (i+1)=(V.mk k0 n0 t0 ks0::r).take i++[.mk k' n' t' ks']:=take_snoc hx;have hgx:=HG.out.mem hmemx;have HGX:=Lib.hid hgx;have HMX:=Lib.hid hgx.1;have HSN:=Lib.hid hsn;have HIX:=Lib.hid (hI _ hmemx);have HKX:=Lib.hid (HKN.out _ hmemx);have HK':=Lib.hid hK';have HBI:=Lib.hid hbi;have HCELL:=Lib.hid (show ∀ wx:World,Below wr.heap.size wr wx→wx.cell? ⟨b1,o1+j,none⟩=some (.int .u8 (y':Int))∧wx.cell? ⟨b0,o0+i * 4,none⟩=some (.int .u8 (k':Int))∧wx.cell? ⟨b0,o0+i * 4+1,none⟩=some (.int .u64 (n':Int))∧wx.cell? ⟨b0,o0+i * 4+2,none⟩=some (.string t')∧wx.cell? ⟨b0,o0+i * 4+3,none⟩=some (.slice A' l' c')∧Below wr.heap.size wr wx from
        fun wx hb=>⟨(hb.cell (p:=⟨b1,o1+j,none⟩) hb3).trans hcl',(hb.cell (p:=⟨b0,o0+i * 4,none⟩) hb2).trans h0,(hb.cell (p:=⟨b0,o0+i * 4+1,none⟩) hb2).trans h1,(hb.cell (p:=⟨b0,o0+i * 4+2,none⟩) hb2).trans h2,(hb.cell (p:=⟨b0,o0+i * 4+3,none⟩) hb2).trans h3,hb⟩)
       clear hx hbo hbo' hy' hmemx hsn hgx hK' hbi hcl;obtain⟨p,hp⟩:∃ p,(((V.mk k0 n0 t0 ks0::r).take i).all fun x=>can f (rawv (core x)))=p:=⟨_,rfl⟩;have HP:=Lib.hid hp;rw[hp];clear hp;have HL20:Hid (l≤67108864):=Lib.hid (by have h1:=HT.out.kd.len;have h2:=length_bulk (V.mk k0 n0 t0 ks0::r);have h3:=HG.out.2.2;omega);have hl20:=HL20.out;have hH0:Below wr.heap.size wr wr.drew:=(Below.refl _ _).drew;have hc0:=hH0;cases p with
       | false=>
        go_upto_region 15 with fail
        go_quiet (fail);go_wp2;go_roundw
        case rel=>exact⟨i+1,by omega,by go_num,by rw[HSN.out,List.all_append,HP.out];rfl,below_drewN HBI.out _⟩
        case measure=>(simp[intOf];omega)
       | true=>
        go_upto_region 15 with fail
        go_region_held3 (fun wx=>wx.cell? ⟨b1,o1+j,none⟩=some (.int .u8 (y':Int))∧wx.cell? ⟨b0,o0+i * 4,none⟩=some (.int .u8 (k':Int))∧wx.cell? ⟨b0,o0+i * 4+1,none⟩=some (.int .u64 (n':Int))∧wx.cell? ⟨b0,o0+i * 4+2,none⟩=some (.string t')∧wx.cell? ⟨b0,o0+i * 4+3,none⟩=some (.slice A' l' c')∧Below wr.heap.size wr wx) (with_reducible first | assumption | exact HCELL.out _ hH0 | exact HCELL.out _ hc1 | exact HCELL.out _ hc2 | fail)
         (first
         | (go_at_call 106;(with_reducible refine(xbare_any k' n' t' ks' A' l' c' _ HMX.out hk' hn' (HK'.out.call hc0)).mono ?_);rintro e w8 ⟨k8,n8,t8,ks8,A8,l8,c8,he8,rfl,hk8,hn8,hK8,hb8⟩;have hc1:=below_next hc0 hb8;have HK8:=Lib.hid (hK8.call hb8))
         | (go_at_call 138;(with_reducible refine(fits_of he8 HGX.out HIX.out HKX.out HME.out hk8 hn8 HK8.out).mono ?_);rintro e w9 ⟨rfl,hb9⟩;have hc2:=below_next hc1 hb9)
         | fail)
        all_goals
         go_wp2;go_roundw
         case rel=>exact⟨i+1,by omega,by go_num,by rw[HSN.out,List.all_append,HP.out];simp[he8],below_next HBI.out hc2⟩
         case measure=>(simp[intOf];omega)
      ·obtain rfl:i=l:=by omega
       have htk:(V.mk k0 n0 t0 ks0::r).take i=V.mk k0 n0 t0 ks0::r:=List.take_of_length_le (by have:=HLL.out;simp;omega);rw[htk,←HAL.out f];have HT:=Lib.hid (HS.out.call hbi);cases hp:PS.all (can f) with
       | true=>
        have hres:=pick_hit HCF.out hp;rw[HPK.out] at hres;obtain rfl:=hres;have hmL:m≤6710886400:=by have h1:=HT.out.own.len;have h2:=HLE.out;have h3:=HLN.out;rw[←h2] at h3;omega
        obtain⟨b3,o3,y',hbo',hb3,hy',_,hcl'⟩:=HT.out.rd.at_ hlt;obtain⟨rfl,rfl,_⟩:b1=b3∧o1=o3∧True:=by simpa using hbo'
        obtain rfl:y'=CODE:=by
         have hcf:=HCF.out;unfold codesOf at hy';rw[List.getElem?_map,hcf] at hy'
         simpa using hy'.symm
        have HR1:=Lib.hid (show Rd .u8 256 (wr.drew.alloc (.cells #[.int .u8 (y':Int)] 5)) (wr.heap.size+1) (some ⟨wr.heap.size,0,none⟩) 1 [y'] from rd_lit8 wr.drew [y'] 1 rfl (by simpa using hy256));have HOD:Hid (Utf.Own .u8 256 5 wr.drew (w.heap.size+1) B m d L):=Lib.hid HT.out.own;have HO1:=Lib.hid (HOD.out.alloc (.cells #[.int .u8 (y':Int)] 5));have hsz:=HT.out.size;have HB1:Hid (Below wr.heap.size wr (wr.drew.alloc (.cells #[.int .u8 (y':Int)] 5))):=Lib.hid (((Below.refl wr.heap.size wr).drew).alloc (Nat.le_refl _) _);clear hy' hbo' hcl hbi hp;go_upto_region 17 with fail
        go_region_law (first
         | (refine step_app8 rfl _ _ rfl (base:=w.heap.size+1) rfl (by exact HO1.out) rfl (by exact HR1.out) (by omega) (by omega) (by simp;omega) ?_;intro A9 c9 w9 ho9 hg9;have hcl9:w9.cell? ⟨b1,o1+j,none⟩=some (.int .u8 (y':Int)):=(cell_grown hg9 (Nat.lt_of_lt_of_le hb3 HB1.out.size) (fun e=>HT.out.far b1 b1 o1 e rfl rfl)).trans ((HB1.out.cell (p:=⟨b1,o1+j,none⟩) hb3).trans hcl')))
        all_goals
         have HO9:=Lib.hid (Utf.Own.mono ho9 (base':=w.heap.size) (by omega));have HL9:Hid (Below w.heap.size w w9):=Lib.hid ((below_next HT.out.low HB1.out).trans ((below_grown HO1.out hg9 (by simp;omega)).mono (by omega)));clear ho9 hg9;go_wp2;go_ret2;rw[HCODE.out,←HLE.out];exact⟨A9,_,c9,rfl,HO9.out,HL9.out⟩
       | false=>
        have hres:=pick_miss HCF.out hp;rw[HPK.out] at hres;have HRES:=Lib.hid hres;have HBI:=Lib.hid hbi;clear hres hbi;go_wp2_with fail;go_roundw
        case rel=>exact⟨j+1,hlt,by go_num,HRES.out.symm,below_next HB.out HBI.out⟩
        case measure=>(simp[intOf];omega)
    ·exfalso
     have h1:(chs k).drop j=[]:=List.drop_of_length_le (by have:=HM5.out;omega);rw[h1] at hpk;obtain⟨f,hf,_⟩:=pick_all HCK.out.1 HCK.out.2 PS;have h0:=HPK0.out;rw[List.drop_zero] at h0;rw[h0,←hpk] at hf;have h2:∀ k < 25,(chs k).all (fun x=>decide (x.1≠0))=true:=by decide
     have h3:=List.all_eq_true.1 (h2 k (by have:=HCK.out;omega)) _ hf;simp[pick] at h3
end Go.Proofs.YtcilmmdmkpnppaaGreatDoor.Enc
namespace Go.Proofs.YtcilmmdmkpnppaaGreatDoor.Enc
set_option maxRecDepth 100000
open Go.RowKit Utf Val V
theorem kd_one {w:World}{k n:Nat}{t:ByteArray}{ks:List V}{A:Option Addr}{l c:Nat}(hk:k < 256)(hn:n < 18446744073709551616)(hK:Kd w ks A l c):Kd (w.alloc (.cells #[.int .u8 k,.int .u64 n,.string t,.slice A l c] 44)) [.mk k n t ks] (some ⟨w.heap.size,0,none⟩) 1 1:=by
 refine⟨rfl,Nat.le_refl _,fun _=>⟨w.heap.size,0,rfl,by simp,fun h=>(by cases h),?_⟩⟩;exact⟨repV_iff.2 ⟨A,l,c,by simp,by simp,by simp,by simp,hk,hn,hK.alloc _⟩,trivial⟩
theorem data_of {x:V}{code k8 n8:Nat}{t8:ByteArray}{ks8:List V}{A8:Option Addr}{l8 c8:Nat}{f:Can}{w:World}(he:core x=.mk k8 n8 t8 ks8)(hg:Good x)(hb:bulk x≤33554432)(hI:InsC (core x))(hm:(code,f)∈chs (core x).kind)(hc:can f (rawv (core x))=true)(hk8:k8 < 256)(hn8:n8 < 18446744073709551616)(hK:Kd w ks8 A8 l8 c8) :
  Calls Tryz.prog 105 #[.int .u8 (code:Int),.agg #[.int .u8 (k8:Int),.int .u64 (n8:Int),.string t8,.slice A8 l8 c8]] w (GivesD (dat code (core x)) w):=by
 have hgc:=hg.core;have hcb:=core_bulk x hg.1;rw[he] at hgc hI hm hc hcb ⊢;exact xdata_any code f k8 n8 t8 ks8 A8 l8 c8 w hgc hm hc (by omega) hn8 hK fun wx hb=>hI k8 n8 t8 ks8 A8 l8 c8 wx rfl hk8 hn8 (hK.call hb)
set_option maxHeartbeats 2000000 in
theorem write_of {v:V}(hg:Good v)(hb:bulk v≤33554432)(hW:∀ x∈called v,WriteC x)(hI:InsC (core v)):WriteC v:=by
 rintro k n t ks A l c w rfl hk hn hK;have hB1:Below w.heap.size w (w.alloc (.cells #[.int .u8 (k:Int),.int .u64 (n:Int),.string t,.slice A l c] 44)):=(Below.refl _ _).alloc (Nat.le_refl _) _;have hx1:=Box.new w (.int .u8 (k:Int)) (.int .u64 (n:Int)) (.string t) (.slice A l c);have hK1:=hK.call hB1;obtain⟨w1,hw1⟩:∃ x,w.alloc (.cells #[.int .u8 (k:Int),.int .u64 (n:Int),.string t,.slice A l c] 44)=x:=⟨_,rfl⟩;rw[hw1] at hB1 hx1 hK1;have hB2:=hB1.alloc hB1.size (.cells #[.int .u8 (k:Int),.int .u64 (n:Int),.string t,.slice A l c] 44);have hK2:=kd_one (t:=t) hk hn hK1;have hc:=xcons_any (.mk k n t ks) [] (some ⟨w1.heap.size,0,none⟩) 1 1 _ ⟨by simp[mayL,hg.1],⟨hg.2.1,trivial⟩,by simp only[bulkL];omega⟩ (fun x hx=>by rw[List.mem_singleton] at hx;rw[hx]) hW (fun x hx=>by rw[List.mem_singleton] at hx;rw[hx];exact hI) hK2;have hlb:=lay_bulk _ hg.1;have hsp:=lay_split hg.1;have hck:=core_kind _ hg.1;obtain⟨f,hf,hcan⟩:=pick_all hck.1 hck.2 [rawv (core (.mk k n t ks))];rw[←kcode_one hg.1] at hf;simp only[List.all_cons,List.all_nil,Bool.and_true] at hcan;obtain⟨C,hC⟩:∃ C,kcode [V.mk k n t ks]=C:=⟨_,rfl⟩;rw[hC] at hc hsp hf;have HF:=Lib.hid hf;have HC:=Lib.hid hcan;have HSP:=Lib.hid hsp;have HCC:=Lib.hid hc;have HX1:=Lib.hid hx1;have HB2:=Lib.hid hB2;have HK1:=Lib.hid hK1;have HLB:=Lib.hid hlb;have HG:=Lib.hid hg;have HBK:=Lib.hid hb;obtain⟨a0,a1,a2,a3,_⟩:=hx1.all;clear hc hlb hsp hck hf hcan hB2 hK2 hx1 hK1 hB1 hg hb;go_enter Tryz.func61,Tryz.ntmps61;go_wp2_with fail;refine HCC.out.mono ?_;rintro e w3 ⟨A3,m3,c3,rfl,ho3,hb3⟩;have hl3:=ho3.len;have hm3:m3≤3355443200:=by
  have h1:=HSP.out;have h2:=HLB.out;have h3:=HBK.out;rw[h1] at h2;simp only[List.length_append,List.length_cons,List.length_nil] at h2 hl3;omega
 have HB3:=Lib.hid (below_next HB2.out hb3);have HX3:=Lib.hid ((HX1.out.alloc (.cells #[.int .u8 (k:Int),.int .u64 (n:Int),.string t,.slice A l c] 44)).call hb3);have HK3:=Lib.hid ((HK1.out.alloc (.cells #[.int .u8 (k:Int),.int .u64 (n:Int),.string t,.slice A l c] 44)).call hb3);have HO3:=Lib.hid (ho3.mono (base':=w.heap.size) HB2.out.size);obtain⟨b0,b1,b2,b3,_⟩:=HX3.out.all;clear ho3 hb3 hl3 a0 a1 a2 a3;go_wp2_with fail;refine(xbare_any k n t ks A l c w3 HG.out.1 hk hn HK3.out).mono ?_;rintro e w4 ⟨k8,n8,t8,ks8,A8,l8,c8,he8,rfl,hk8,hn8,hK8,hb4⟩;go_wp2_with fail;refine(data_of he8 HG.out HBK.out hI HF.out HC.out hk8 hn8 (hK8.call hb4)).mono ?_;rintro e w5 ⟨A5,m5,c5,rfl,hr5,hb5⟩;have hm5:m5≤3355443200:=by
  have h1:=HSP.out;have h2:=HLB.out;have h3:=HBK.out;have h4:=hr5.len;rw[h1] at h2;simp only[List.length_append,List.length_cons] at h2;omega
 have HO5:=Lib.hid ((HO3.out.below hb4).below hb5);have HB5:=Lib.hid (below_next (below_next HB3.out hb4) hb5);go_wp2_with (at_builtin;refine wpList_app8 (base:=w.heap.size) rfl _ _ rfl rfl HO5.out rfl hr5 (by omega) HB5.out.size ?_;intro A6 c6 w6 ho6 hg6);go_ret;refine⟨A6,_,c6,rfl,?_,HB5.out.trans (below_grown HO5.out hg6 HB5.out.size)⟩;rw[HSP.out]
 simpa using ho6
theorem layK_snoc (l:List V)(v:V):layK (planL (l++[v]))=layK (planL l)++lay (plan v):=by
 rw[planL_append,layK_append];simp[planL,layK]
theorem may_take {l:List V}(h:mayL l=true)(j:Nat):mayL (l.take j)=true:=by
 have e:mayL (l.take j++l.drop j)=true:=by rw[List.take_append_drop];exact h
 rw[mayL_append,Bool.and_eq_true] at e;exact e.1
theorem datL_snoc (c:Nat):∀ (l:List V) (v:V),datL c (l++[v])=datL c l++dat c (core v)
 | [],v=>by simp[datL]
 | x::l,v=>by simp[datL,datL_snoc c l v]
theorem layK_le:∀ l:List V,mayL l=true→(layK (planL l)).length≤100 * bulkL l
 | [],_=>by simp[planL,layK]
 | v::l,h=>by
  simp only[mayL,Bool.and_eq_true] at h;have h1:=layK_le l h.2;have h2:=lay_bulk v h.1;simp only[planL,layK,List.length_append,bulkL];omega
structure SI (w wx:World) (k n:Nat) (t:ByteArray) (ks:List V) (A:Option Addr) (l c:Nat) (B:Option Addr) (m d:Nat) (L:List Nat):Prop where
 box:Box wx w.heap.size (.int .u8 (k:Int)) (.int .u64 (n:Int)) (.string t) (.slice A l c)
 kd:Kd wx ks A l c
 own:Utf.Own .u8 256 5 wx (w.heap.size+1) B m d L
 low:Below w.heap.size w wx
 size:w.heap.size+1≤wx.heap.size
theorem SI.call {w w1 w2:World}{k n:Nat}{t:ByteArray}{ks:List V}{A:Option Addr}{l c:Nat}{B:Option Addr}{m d:Nat}{L:List Nat}(h:SI w w1 k n t ks A l c B m d L)(hb:Below w1.heap.size w1 w2):SI w w2 k n t ks A l c B m d L:=
 ⟨h.box.call hb,h.kd.call hb,h.own.below hb,below_next h.low hb,Nat.le_trans h.size hb.size⟩
theorem SI.more {w w1 w2:World}{k n:Nat}{t:ByteArray}{ks:List V}{A:Option Addr}{l c:Nat}{B B':Option Addr}{m d m' d':Nat}{L L':List Nat}(h:SI w w1 k n t ks A l c B m d L)(hg:w1.grownBy w2 (Value.slice B m d).ownBlock)(ho:Utf.Own .u8 256 5 w2 (w.heap.size+1) B' m' d' L')(hlo:Val.Kids false w (Lo w.heap.size) ks A l c):SI w w2 k n t ks A l c B' m' d' L':=by
 have hb:Below (w.heap.size+1) w1 w2:=below_grown h.own hg h.size;have hl:=h.low.trans (hb.mono (by omega));exact⟨h.box.below hb (by omega),kids_kd hlo hl,ho,hl,Nat.le_trans h.size hb.size⟩
set_option maxHeartbeats 2000000 in
theorem ins_row {k n:Nat}{t:ByteArray}{ks:List V}(hg:Good (.mk k n t ks))(hb:bulk (.mk k n t ks)≤33554432)(hk24:k≠24)(hW:∀ x∈ks,WriteC x):InsC (.mk k n t ks):=by
 rintro k' n' t' ks' A l c w e hk hn hK;injection e with e1 e2 e3 e4
 subst e1 e2 e3 e4;have hkp:kp k ks=planL ks:=by unfold kp;rw[if_neg hk24]
 have hS0:SI w (w.alloc (.cells #[.int .u8 (k:Int),.int .u64 (n:Int),.string t,.slice A l c] 44)) k n t ks A l c none 0 0 (layK (planL (ks.take 0))):=⟨Box.new w _ _ _ _,hK.alloc _,by simpa [planL,layK] using Utf.Own.nil _ _ _ _ _,(Below.refl _ _).alloc (Nat.le_refl _) _,by simp⟩;have HS0:=Lib.hid hS0;have HG:=Lib.hid hg;have HLB:=Lib.hid (layK_le ks hg.kids.1);have hl20:l≤33554432:=by have h1:=hK.len;have h2:=length_bulk ks;simp only[bulk] at hb;omega
 have HBK:Hid (bulkL ks≤33554432):=Lib.hid (by simp only[bulk] at hb;omega);have HKL:=Lib.hid (show Val.Kids false w (Lo w.heap.size) ks A l c from hK);have dk:((k:Int) != 24)=true:=by rw[bne_iff_ne];omega
 obtain⟨a0,a1,a2,a3,_⟩:=hS0.box.all;clear hg hb hS0;go_enter Tryz.func141,Tryz.ntmps141;go_wp2_with fail;clear a0 a1 a2 a3;go_loopw [3,4] (fun s3 i wx=>∃ (j:Nat) (B:Option Addr) (m d:Nat),j≤l∧i=.int .i64 (j:Nat)∧s3=.slice B m d∧SI w wx k n t ks A l c B m d (layK (planL (ks.take j)))) (fun _ i _=>l - (intOf i).toNat)
 case atStart=>exact⟨0,none,0,0,Nat.zero_le _,rfl,rfl,HS0.out⟩
 case round=>
  obtain⟨j,B,m,d,hj,rfl,rfl,hS⟩:=hrel;clear HS0;obtain⟨a0,a1,a2,a3,_⟩:=hS.box.all;have hmB:m≤3355443200:=by
   have h1:=hS.own.len;have h2:=layK_le (ks.take j) (may_take HG.out.kids.1 j);have h3:=bulkL_take_le ks j;have h4:=HBK.out;omega
  by_cases hlt:j < l
  ·obtain⟨b1,o1,k1,n1,t1,ks1,A1,l1,c1,rfl,hb1,hx,h0,h1,h2,h3,hk1,hn1,hK1⟩:=hS.kd.at_ hlt;have hmem:=List.mem_of_getElem? hx;have hgx:=HG.out.kids.mem hmem;have hlx:=lay_bulk _ hgx.1;have hbx:=bulkL_mem hmem;have HX:=Lib.hid hx;have HS:=Lib.hid hS;have hlb:(lay (plan (.mk k1 n1 t1 ks1))).length≤3355443200:=by have:=HBK.out;omega
   have HLX:=Lib.hid hlb;have HWX:=Lib.hid (hW _ hmem);clear hx hS hmem hgx hlx hbx hlb;go_wp2_with fail;refine(WriteC.call HWX.out hk1 hn1 hK1).mono ?_;rintro e w5 ⟨A5,m5,c5,rfl,ho5,hb5⟩;have hm5:m5≤3355443200:=by rw[←ho5.len];exact HLX.out
   have HS5:=Lib.hid (HS.out.call hb5);have HO5:=Lib.hid ho5;clear ho5 hb5 a0 a1 a2 a3;obtain⟨a0,a1,a2,a3,_⟩:=HS5.out.box.all;go_wp2_with (at_builtin;refine wpList_app8 (base:=w.heap.size+1) rfl _ _ rfl rfl HS5.out.own rfl HO5.out.rd (by omega) HS5.out.size ?_;intro A6 c6 w6 ho6 hg6;have HS6:=Lib.hid (HS5.out.more hg6 ho6 HKL.out);clear ho6 hg6;obtain⟨p0,p1,p2,p3,_⟩:=HS6.out.box.all);go_roundw
   case rel=>
    refine⟨j+1,A6,_,c6,hlt,by go_num,rfl,?_⟩;rw[take_snoc HX.out,layK_snoc];exact HS6.out
   case measure=>(simp[intOf];omega)
  ·obtain rfl:j=l:=by omega
   have htk:ks.take j=ks:=List.take_of_length_le (by have:=hS.kd.len;omega);rw[htk] at hS;have HS:=Lib.hid hS;clear hS;go_wp2;go_ret;rw[hkp];exact⟨B,m,d,rfl,HS.out.own.mono (by omega),HS.out.low⟩
set_option maxHeartbeats 2000000 in
theorem ins_none {n:Nat}{t:ByteArray}:InsC (.mk 24 n t []):=by
 rintro k' n' t' ks' A l c w e hk hn hK;injection e with e1 e2 e3 e4
 subst e1 e2 e3 e4;have hl:l=0:=hK.len;subst hl;have hB:Below w.heap.size w (w.alloc (.cells #[.int .u8 24,.int .u64 (n:Int),.string t,.slice A 0 c] 44)):=(Below.refl _ _).alloc (Nat.le_refl _) _;obtain⟨a0,a1,a2,a3,_⟩:=(Box.new w (.int .u8 24) (.int .u64 (n:Int)) (.string t) (.slice A 0 c)).all;have ho:=own_lit8 (w.alloc (.cells #[.int .u8 24,.int .u64 (n:Int),.string t,.slice A 0 c] 44)) w.heap.size 1 [64] rfl (by decide) (by decide) hB.size;have HO:=Lib.hid ho;have HB:=Lib.hid (hB.alloc hB.size (.cells (vs .u8 [64]).toArray 5));have hkp:layK (kp 24 [])=[64]:=by decide
 clear ho hB;go_enter Tryz.func141,Tryz.ntmps141;go_wp2;go_ret;rw[hkp];exact⟨some ⟨w.heap.size+1,0,none⟩,1,1,rfl,by simpa [vs,World.size_alloc] using HO.out,by simpa [vs] using HB.out⟩
theorem datL_append (c:Nat):∀ a b:List V,datL c (a++b)=datL c a++datL c b
 | [],_=>by simp[datL]
 | x::a,b=>by simp[datL,datL_append c a b]
theorem datL_take (c:Nat)(l:List V)(j:Nat):(datL c (l.take j)).length≤(datL c l).length:=by
 have h:=congrArg List.length (datL_append c (l.take j) (l.drop j));rw[List.take_append_drop,List.length_append] at h;omega
theorem ins_le {n:Nat}{t:ByteArray}{ks:List V}(hm:mayB (.mk 24 n t ks)=true):(layK (kp 24 ks)).length≤100 * bulk (.mk 24 n t ks):=by
 have h1:=lay_bulk _ hm;rw[lay_split hm] at h1;have hc:core (.mk 24 n t ks)=.mk 24 n t ks:=core_not (by omega);obtain⟨f,hf,_⟩:=pick_all (k:=24) (by omega) (by omega) [rawv (core (.mk 24 n t ks))];have hk:=kcode_one hm;have hkind:(core (.mk 24 n t ks)).kind=24:=by rw[hc];rfl
 rw[hkind] at hk;rw[←hk] at hf;have hcode:kcode [V.mk 24 n t ks]=224∨kcode [V.mk 24 n t ks]=240:=by
  simp only[chs,List.mem_cons,Prod.mk.injEq,List.not_mem_nil,or_false] at hf;omega
 rw[hc] at h1;have hw:wid (kcode [V.mk 24 n t ks])≠0:=by rcases hcode with h | h<;>rw[h]<;>decide
 simp only[List.length_append,List.length_cons,dat,dlay,if_neg hw] at h1;rw[if_neg (by omega),if_neg (by omega),if_neg (by omega)] at h1;simp only[List.length_append] at h1;omega
set_option maxHeartbeats 4000000 in
theorem ins_arr {n:Nat}{t:ByteArray}{a:V}{r:List V}(hg:Good (.mk 24 n t (a::r)))(hb:bulk (.mk 24 n t (a::r))≤33554432)(hW:∀ x∈called a,WriteC x)(hI:∀ x∈a::r,InsC (core x)):InsC (.mk 24 n t (a::r)):=by
 rintro k' n' t' ks' A l c w e hk hn hK;injection e with e1 e2 e3 e4
 subst e1 e2 e3 e4;obtain⟨f,hf,hk1,hk2,hall⟩:=arr_code hg.1;have hal:=layK_alike a r hg.kids.1;have hkp:kp 24 (a::r)=alikeP (planL (a::r)):=by unfold kp;rw[if_pos rfl]
 have htot:=ins_le hg.1;rw[hkp,hal] at htot;have hxc:=xcons_any a r A l c;obtain⟨C,hC⟩:∃ C,kcode (a::r)=C:=⟨_,rfl⟩;obtain⟨H,hH⟩:∃ H,layN (planL (called a))=H:=⟨_,rfl⟩;rw[hC,hH] at hxc;rw[hC,hH] at htot hal;rw[hC] at hf;have HTOT:Hid (H.length+1+(datL C (a::r)).length≤3355443200):=Lib.hid (by simp only[List.length_append,List.length_cons] at htot;omega);have HX1:=Lib.hid (Box.new w (.int .u8 24) (.int .u64 (n:Int)) (.string t) (.slice A l c));have HB1:Hid (Below w.heap.size w (w.alloc (.cells #[.int .u8 24,.int .u64 (n:Int),.string t,.slice A l c] 44))):=Lib.hid ((Below.refl _ _).alloc (Nat.le_refl _) _);have HG:=Lib.hid hg;have HAL:=Lib.hid hal;have HKP:=Lib.hid hkp;have HF:=Lib.hid hf;have HALL:=Lib.hid hall;have hll:l=r.length+1:=hK.len;have HLL:=Lib.hid hll;have hl0:((l:Int)==0)=false:=by rw[beq_eq_false_iff_ne];omega
 have hl20:l≤33554432:=by have h2:=length_bulk (a::r);simp only[bulk] at hb;simp only[List.length_cons] at h2;omega
 have HBK:Hid (bulkL (a::r)≤33554432):=Lib.hid (by simp only[bulk] at hb;omega);have HKL:=Lib.hid (show Val.Kids false w (Lo w.heap.size) (a::r) A l c from hK);have HKD:=Lib.hid hK;have HXC:=Lib.hid (hxc _ hg.kids (fun x hx=>(hall x hx).1) hW hI (HKD.out.call HB1.out));obtain⟨a0,a1,a2,a3,_⟩:=HX1.out.all;clear hf hk1 hk2 hall hal hkp htot hxc hC hH hll hb hK hg;go_enter Tryz.func141,Tryz.ntmps141;go_wp2_with fail;refine HXC.out.mono ?_;rintro e w3 ⟨A3,m3,c3,rfl,ho3,hb3⟩;have hm3:m3=H.length+1:=by have:=ho3.len;simpa using this.symm
 have HS3:Hid (SI w w3 24 n t (a::r) A l c none 0 0 []):=Lib.hid ⟨HX1.out.call hb3,(HKD.out.call HB1.out).call hb3,Utf.Own.nil _ _ _ _ _,below_next HB1.out hb3,by have:=HX1.out.lt;have:=hb3.size;omega⟩;have HO3:=Lib.hid ho3;have hm3b:m3≤3355443200:=by have:=HTOT.out;omega
 clear ho3 hb3 hm3 a0 a1 a2 a3;obtain⟨a0,a1,a2,a3,_⟩:=HS3.out.box.all;go_wp2_with (at_builtin;refine wpList_app8 (base:=w.heap.size+1) rfl _ _ rfl rfl HS3.out.own rfl HO3.out.rd (by omega) HS3.out.size ?_;intro A4 c4 w4 ho4 hg4;have HS4:=Lib.hid (HS3.out.more hg4 ho4 HKL.out);clear ho4 hg4;obtain⟨p0,p1,p2,p3,_⟩:=HS4.out.box.all);clear a0 a1 a2 a3 p0 p1 p2 p3;go_loopw [3,7] (fun s3 i wx=>∃ (j:Nat) (B:Option Addr) (m d:Nat),j≤l∧i=.int .i64 (j:Nat)∧s3=.slice B m d∧SI w wx 24 n t (a::r) A l c B m d (H++[C]++datL C ((a::r).take j))) (fun _ i _=>l - (intOf i).toNat)
 case atStart=>exact⟨0,A4,_,c4,Nat.zero_le _,rfl,rfl,by simpa [datL] using HS4.out⟩
 case round=>
  obtain⟨j,B,m,d,hj,rfl,rfl,hS⟩:=hrel;clear HS4 HS3;obtain⟨a0,a1,a2,a3,_⟩:=hS.box.all;have hmB:m≤3355443200:=by
   have h1:=hS.own.len;have h2:=datL_take C (a::r) j;have h3:=HTOT.out;simp only[List.length_append,List.length_cons,List.length_nil] at h1;omega
  by_cases hlt:j < l
  ·obtain⟨b1,o1,k1,n1,t1,ks1,A1,l1,c1,rfl,hb1,hx,h0,h1,h2,h3,hk1,hn1,hK1⟩:=hS.kd.at_ hlt;have hmem:=List.mem_of_getElem? hx;have hgx:=HG.out.kids.mem hmem;have hbx:=bulkL_mem hmem;have hax:=HALL.out _ hmem;have hcan:=hax.2.1;rw[can_core f _ hgx.1] at hcan;have hdl:(dat C (core (.mk k1 n1 t1 ks1))).length≤3355443200:=by
    have e1:=datL_take C (a::r) (j+1);have e2:=HTOT.out;rw[take_snoc hx,datL_snoc,List.length_append] at e1;omega
   have HX:=Lib.hid hx;have HS:=Lib.hid hS;have HGX:=Lib.hid hgx;have HMX:=Lib.hid hgx.1;have HCX:=Lib.hid hcan;have HDL:=Lib.hid hdl;have HFX:Hid ((C,f)∈chs (core (V.mk k1 n1 t1 ks1)).kind):=Lib.hid (by rw[hax.1];exact HF.out);have HIX:=Lib.hid (hI _ hmem);have HBX:Hid (bulk (V.mk k1 n1 t1 ks1)≤33554432):=Lib.hid (by have:=HBK.out;omega);clear hx hS hmem hgx hbx hax hcan hdl;go_wp2_with fail;refine(xbare_any k1 n1 t1 ks1 A1 l1 c1 wr HMX.out hk1 hn1 hK1).mono ?_;rintro e w4 ⟨k8,n8,t8,ks8,A8,l8,c8,he8,rfl,hk8,hn8,hK8,hb4⟩;go_wp2_with fail;refine(data_of he8 HGX.out HBX.out HIX.out HFX.out HCX.out hk8 hn8 (hK8.call hb4)).mono ?_;rintro e w5 ⟨A5,m5,c5,rfl,hr5,hb5⟩;have hm5:m5≤3355443200:=by rw[←hr5.len];exact HDL.out
   have HS5:=Lib.hid ((HS.out.call hb4).call hb5);have HR5:=Lib.hid hr5;clear hr5 hb4 hb5 a0 a1 a2 a3;obtain⟨a0,a1,a2,a3,_⟩:=HS5.out.box.all;go_wp2_with (at_builtin;refine wpList_app8 (base:=w.heap.size+1) rfl _ _ rfl rfl HS5.out.own rfl HR5.out (by omega) HS5.out.size ?_;intro A6 c6 w6 ho6 hg6;have HS6:=Lib.hid (HS5.out.more hg6 ho6 HKL.out);clear ho6 hg6;obtain⟨p0,p1,p2,p3,_⟩:=HS6.out.box.all);go_roundw
   case rel=>
    refine⟨j+1,A6,_,c6,hlt,by go_num,rfl,?_⟩;rw[take_snoc HX.out,datL_snoc,←List.append_assoc];exact HS6.out
   case measure=>(simp[intOf];omega)
  ·obtain rfl:j=l:=by omega
   have htk:(a::r).take j=a::r:=List.take_of_length_le (by have:=HLL.out;simp only[List.length_cons];omega);rw[htk] at hS;have HS:=Lib.hid hS;clear hS;go_wp2;go_ret;rw[HKP.out,HAL.out];exact⟨B,m,d,rfl,by have:=HS.out.own.mono (base':=w.heap.size) (by omega);simpa using this,HS.out.low⟩
theorem enc_both (N:Nat):∀ v:V,bulk v≤N→Good v→bulk v≤33554432→WriteC v∧InsC (core v):=by
 induction N with
 | zero=>intro v hN;have:=bulk_pos v;omega
 | succ N ih=>
  have hins:∀ v:V,bulk v≤N+1→Good v→bulk v≤33554432→v.kind≠25→InsC v:=by
   rintro⟨k,n,t,ks⟩ hN hg hb hk;have hk:k≠25:=hk;have hkid:∀ x∈ks,WriteC x∧InsC (core x):=fun x hx=>by
    have:=bulkL_mem hx;simp only[bulk] at hN hb;exact ih x (by omega) (hg.kids.mem hx) (by omega)
   by_cases h24:k=24
   ·subst h24;cases ks with
    | nil=>exact ins_none
    | cons a r=>
     refine ins_arr hg hb (fun x hx=>?_) fun x hx=>(hkid x hx).2;have hga:=hg.kids.mem (v:=a) (by simp);have h1:=core_bulk a hga.1;have h2:=bulkL_mem hx;have h3:=bulkL_mem (show a∈a::r by simp);have h4:=bulk_pos (core a);simp only[bulk] at hN hb;exact(ih x (by omega) (hga.called.mem hx) (by omega)).1
   ·exact ins_row hg hb h24 fun x hx=>(hkid x hx).1
  intro v hN hg hb;have h1:=core_bulk v hg.1;have hcore:=hins (core v) (by omega) hg.core (by omega) (core_ne v hg.1);refine⟨write_of hg hb (fun x hx=>?_) hcore,hcore⟩;have h2:=bulkL_mem hx;have h4:=bulk_pos (core v);exact(ih x (by omega) (hg.called.mem hx) (by omega)).1
theorem xwrite_any {v:V}(hg:Good v)(hb:bulk v≤33554432):WriteC v:=(enc_both _ v (Nat.le_refl _) hg hb).1
end Go.Proofs.YtcilmmdmkpnppaaGreatDoor.Enc
