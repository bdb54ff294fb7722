/-
  Contracts of functions and plain mathematics, text by text, each with its conditions ahead of it:
  Fields in memory, and contracts of the program's Has, Spoil, Done and of what asks them. Memory that was there stays, but for the block of the fields. No other condition.
  Contracts of the program's ask at its four types, given what the function that it is given does. Memory that was there stays, but for the block of the fields. No other condition.
  Contracts of the functions that tell a field (a number, a text, a value, symbols), and of slices.Contains over bytes. Memory that was there stays. Conditions: values of bulk at most 2^30.
  Contract of the program's symbols: the texts of one symbol, or of an array of nothing else. Memory that was there stays. Condition: values of bulk at most 2^30.
  Contracts of the methods of the program's fields: Number, Bool, Text, Value, Symbols, of fields and of none. Memory that was there stays, but for the block of the fields. Condition: values of bulk at most 2^30.
  Contracts of the methods Bool, Value, Symbols of the program's fields, of fields and of none. Memory that was there stays, but for the block of the fields. Conditions: values of bulk at most 2^30; at most 2^40 kinds.
  Contracts of the program's byCode and Put. Memory that was there stays. Conditions: values of bulk at most 2^29.
-/
import Derived.Test.YtcilmmdmkpnppaaGreatDoorY02
import Derived.Test.YtcilmmdmkpnppaaGreatDoorY06
import Derived.BigQuiet
import Derived.Deep.QuietTactic
import Derived.Deep.RegionHeld3
import Derived.Deep.RegionWith
import Derived.Deep.AppendLies
import Derived.Deep.DeepCutAuto
section
namespace Go.Proofs.YtcilmmdmkpnppaaGreatDoor.Fl
set_option maxRecDepth 100000
open Go.RowKit Utf Val V
structure Off (X:Nat→Prop) (w w':World):Prop where
 os:w'.os=w.os
 tape:w'.tape=w.tape
 output:w'.output=w.output
 size:w.heap.size≤w'.heap.size
 block:∀ i,i < w.heap.size→¬ X i→w'.heap[i]? = w.heap[i]?
section
variable {X Y:Nat→Prop} {w w1 w2:World}
theorem Off.refl (X:Nat→Prop)(w:World):Off X w w:=⟨rfl,rfl,rfl,Nat.le_refl _,fun _ _ _=>rfl⟩
theorem Off.trans (h:Off X w w1)(h':Off X w1 w2):Off X w w2:=
 ⟨h'.os.trans h.os,h'.tape.trans h.tape,h'.output.trans h.output,Nat.le_trans h.size h'.size,fun i hi hx=>(h'.block i (Nat.lt_of_lt_of_le hi h.size) hx).trans (h.block i hi hx)⟩
theorem Off.mono (h:Off X w w1)(hx:∀ i,X i→Y i):Off Y w w1:=⟨h.os,h.tape,h.output,h.size,fun i hi hn=>h.block i hi fun hX=>hn (hx i hX)⟩
theorem Off.of (X:Nat→Prop)(h:Below w.heap.size w w1):Off X w w1:=⟨h.os,h.tape,h.output,h.size,fun i hi _=>h.block i hi⟩
theorem Off.next (h:Off X w w1)(hb:Below w1.heap.size w1 w2):Off X w w2:=h.trans (Off.of X hb)
theorem Off.below {B:Nat}(h:Off X w w1)(hB:B≤w.heap.size)(hx:∀ i,i < B→¬ X i):Below B w w1:=⟨h.os,h.tape,h.output,h.size,fun i hi=>h.block i (Nat.lt_of_lt_of_le hi hB) (hx i hi)⟩
theorem Off.set (w:World){g:Nat}(j:Nat)(v:Value)(hx:X g):Off X w (w.setCell ⟨g,j,none⟩ v):=⟨rfl,rfl,rfl,by simp,fun i _ hn=>Below.heap_setCell w ⟨g,j,none⟩ v i (fun e=>hn (e▸hx))⟩
end
structure Fld (T:TypeId) (X:Nat→Prop) (w:World) (g:Nat) (ls:List V) (A:Option Addr) (l c:Nat) (sp:Bool):Prop where
 obj:w.heap[g]? = some (.cells #[.slice A l c,.bool sp] T (0,0))
 kd:Val.Kids false w (fun i=>i < w.heap.size∧¬ X i) ls A l c
 mem:X g
section
variable {T:TypeId} {X Y:Nat→Prop} {w w1:World} {g:Nat} {ls:List V} {A:Option Addr} {l c:Nat} {sp:Bool}
theorem Fld.lt (h:Fld T X w g ls A l c sp):g < w.heap.size:=(Array.getElem?_eq_some_iff.1 h.obj).1
theorem Fld.fkd (h:Fld T X w g ls A l c sp):Kd w ls A l c:=h.kd.mono fun _ hi=>hi.1
theorem Fld.off (h:Fld T X w g ls A l c sp)(ho:Off Y w w1)(hY:∀ i,Y i→X i)(hg:¬ Y g):Fld T X w1 g ls A l c sp:=
 ⟨(ho.block g h.lt hg).trans h.obj,(h.kd.keep fun i hi=>ho.block i hi.1 fun hy=>hi.2 (hY i hy)).mono fun _ hi=>⟨Nat.lt_of_lt_of_le hi.1 ho.size,hi.2⟩,h.mem⟩
theorem Fld.call (h:Fld T X w g ls A l c sp)(hb:Below w.heap.size w w1):Fld T X w1 g ls A l c sp:=h.off (Y:=fun _=>False) (Off.of _ hb) (fun _ h=>h.elim) (fun h=>h)
theorem Fld.spoil (h:Fld T X w g ls A l c sp):Fld T X (w.setCell ⟨g,1,none⟩ (.bool true)) g ls A l c true:=by
 refine⟨?_,(h.kd.keep fun i hi=>Below.heap_setCell w ⟨g,1,none⟩ _ i (fun e=>hi.2 (e▸h.mem))).mono fun _ hi=>⟨by simpa using hi.1,hi.2⟩,h.mem⟩;have:=h.obj;simp[World.setCell,Array.getElem?_modify,this]
theorem Fld.cells (h:Fld T X w g ls A l c sp):w.cell? ⟨g,0,none⟩=some (.slice A l c)∧w.cell? ⟨g,1,none⟩=some (.bool sp)∧∀ j,w.frozen? ⟨g,j,none⟩=false:=by
 refine⟨cell_of_row w g 0 _ _ _ h.obj,cell_of_row w g 1 _ _ _ h.obj,fun j=>?_⟩;simp[World.frozen?,h.obj]
end
def ask (ls:List V)(i:Int):Option V:=if 0≤i then (ls[i.toNat]?).filter (fun v=>v.kind != 1) else none
theorem ask_neg {ls:List V}{i:Int}(h:i < 0):ask ls i=none:=if_neg (by omega)
theorem ask_far {ls:List V}{j:Nat}(h:ls.length≤j):ask ls (j:Int)=none:=by
 unfold ask;rw[if_pos (by omega),Int.toNat_natCast,List.getElem?_eq_none h];rfl
theorem ask_null {ls:List V}{j n:Nat}{t:ByteArray}{ks:List V}(h:ls[j]? = some (.mk 1 n t ks)):ask ls (j:Int)=none:=by
 unfold ask;rw[if_pos (by omega),Int.toNat_natCast,h];rfl
theorem ask_there {ls:List V}{j k n:Nat}{t:ByteArray}{ks:List V}(h:ls[j]? = some (.mk k n t ks))(hk:k≠1):ask ls (j:Int)=some (.mk k n t ks):=by
 unfold ask;rw[if_pos (by omega),Int.toNat_natCast,h];simp[Option.filter,V.kind,hk]
theorem ask_some {ls:List V}{i:Int}{v:V}(h:ask ls i=some v):∃ j:Nat,i=(j:Int)∧j < ls.length∧ls[j]? = some v∧v.kind≠1:=by
 unfold ask at h;by_cases hi:0≤i
 ·rw[if_pos hi] at h;obtain⟨h1,h2⟩:=Option.filter_eq_some_iff.1 h;refine⟨i.toNat,by omega,(List.getElem?_eq_some_iff.1 h1).1,h1,by simpa using h2⟩
 ·rw[if_neg hi] at h;cases h
theorem ask_bulk {ls:List V}{i:Int}{v:V}(h:ask ls i=some v):bulk v≤bulkL ls:=by
 obtain⟨j,_,_,h,_⟩:=ask_some h;exact at_bulk h
section
variable {T:TypeId} {X:Nat→Prop} {w:World} {g:Nat} {ls:List V} {A:Option Addr} {l c:Nat} {sp:Bool}
theorem isnull_any (k n:Nat)(t:ByteArray)(A:Option Addr)(l c:Nat)(w:World):Calls Tryz.prog 45 #[.agg #[.int .u8 (k:Int),.int .u64 (n:Int),.string t,.slice A l c]] w (GivesB (decide (k=1)) w):=by
 obtain⟨d,hd⟩:∃ d,decide (k=1)=d:=⟨_,rfl⟩;have hd':((k:Int)==1)=d:=by rw[←hd];by_cases h:k=1<;>simp[h]<;>omega
 rw[hd];clear hd;go_enter Tryz.func45,Tryz.ntmps45;go_wp2;go_ret;exact⟨rfl,(Below.refl _ _).alloc (Nat.le_refl _) _⟩
theorem has_any (h:Fld 167 X w g ls A l c sp)(i:Int):Calls Tryz.prog 173 #[.pointer (some ⟨g,0,none⟩),.int .i64 i] w (GivesB (ask ls i).isSome w):=by
 obtain⟨a0,a1,_⟩:=h.cells;have hl:=h.fkd.len;by_cases h0:i < 0
 ·rw[ask_neg h0];have hd:decide (0≤i)=false:=decide_eq_false (by omega);clear h0 h hl;go_enter Tryz.func173,Tryz.ntmps173;go_wp2;go_ret;exact⟨rfl,Below.refl _ _⟩
 ·obtain⟨j,rfl⟩:∃ j:Nat,i=(j:Int):=⟨i.toNat,by omega⟩;have hd:decide (0≤(j:Int))=true:=decide_eq_true (by omega);by_cases h1:j < l
  ·obtain⟨b,o,k,n,t,ks,A',l',c',rfl,hb,hx,e0,e1,e2,e3,hk,hn,hK⟩:=h.fkd.at_ h1;have hr:(ask ls (j:Int)).isSome = !decide (k=1):=by
    by_cases hk1:k=1
    ·subst hk1;rw[ask_null hx];rfl
    ·rw[ask_there hx hk1];simp[hk1]
   rw[hr];obtain⟨d,hd1⟩:∃ d,decide (k=1)=d:=⟨_,rfl⟩;have HN:=isnull_any k n t A' l' c' w;rw[hd1] at HN ⊢;have HH:=Lib.hid HN;clear h0 h hl hr hx hd1 HN hk hn hK hb;go_enter Tryz.func173,Tryz.ntmps173;go_wp2_with (go_at_call 45;refine HH.out.mono ?_;rintro e w1 ⟨rfl,hb1⟩);go_ret;exact⟨rfl,hb1⟩
  ·rw[ask_far (by omega)];clear h0 h hl;go_enter Tryz.func173,Tryz.ntmps173;go_wp2;go_ret;exact⟨rfl,Below.refl _ _⟩
theorem spoil_any (h:Fld 167 X w g ls A l c sp):Calls Tryz.prog 110 #[.pointer (some ⟨g,0,none⟩)] w fun e w'=>(∃ v,e=.returned v)∧w.setCell ⟨g,1,none⟩ (.bool true)=w':=by
 obtain⟨a0,a1,hf⟩:=h.cells;clear h;go_enter Tryz.func110,Tryz.ntmps110;go_wp2;go_end0;exact⟨⟨_,rfl⟩,rfl⟩
def doneN (ls:List V)(sp:Bool)(n:Int):Int:=if sp=true∨n < (ls.length:Int) then 6 else 0
theorem done_any (h:Fld 167 X w g ls A l c sp)(n:Int):Calls Tryz.prog 111 #[.pointer (some ⟨g,0,none⟩),.int .i64 n] w fun e w'=>e=.returned (.int .i64 (doneN ls sp n))∧w=w':=by
 obtain⟨a0,a1,hf⟩:=h.cells;unfold doneN;rw[←h.fkd.len];clear h hf;cases sp with
 | true=>
  rw[if_pos (.inl rfl)];go_enter Tryz.func111,Tryz.ntmps111;go_wp2;go_ret;exact⟨rfl,rfl⟩
 | false=>
  by_cases hn:n < (l:Int)
  ·rw[if_pos (.inr hn)];have hd:decide (n < (l:Int))=true:=decide_eq_true hn;clear hn;go_enter Tryz.func111,Tryz.ntmps111;go_wp2;go_ret;exact⟨rfl,rfl⟩
  ·rw[if_neg (by simp[hn])];have hd:decide (n < (l:Int))=false:=decide_eq_false hn;clear hn;go_enter Tryz.func111,Tryz.ntmps111;go_wp2;go_ret;exact⟨rfl,rfl⟩
end
end Go.Proofs.YtcilmmdmkpnppaaGreatDoor.Fl
end
section
namespace Go.Proofs.YtcilmmdmkpnppaaGreatDoor.Fl
set_option maxRecDepth 100000
open Go.RowKit Utf Val V
def GivesP (Q:Value→World→Prop)(b:Bool)(w:World)(e:Ending)(w':World):Prop:=∃ r,e=.returned (.tuple #[r,.bool b])∧Q r w'∧Below w.heap.size w w'
def GivesF (T:TypeId)(X:Nat→Prop)(g:Nat)(ls:List V)(A:Option Addr)(l c:Nat)(Q:Value→World→Prop)(sp':Bool)(w:World)(e:Ending)(w':World):Prop:=
 ∃ r,e=.returned r∧Q r w'∧Off (fun i=>i=g) w w'∧Fld T X w' g ls A l c sp'
section
variable {X:Nat→Prop} {w:World} {g:Nat} {ls:List V} {A:Option Addr} {l c:Nat} {sp:Bool}
theorem askU_none (h:Fld 167 X w g ls A l c sp)(i:Int)(must:Bool)(z:Nat)(hq:ask ls i=none)(kb:Nat):
  Calls Tryz.prog 146 #[.pointer (some ⟨g,0,none⟩),.int .i64 i,.bool must,.int .u64 (z:Int),.func (.func 147) #[] #[.pointer (some ⟨kb,0,none⟩)]] w (GivesF 167 X g ls A l c (fun r _=>r=.int .u64 (z:Int)) (sp||must) w):=by
 have HH:=has_any h i;rw[hq] at HH;have HF:=Lib.hid h;have HG:=Lib.hid HH;clear hq h HH;cases must with
 | false=>
  rw[Bool.or_false];go_enter Tryz.func146,Tryz.ntmps146;go_wp2_with (go_at_call 173;refine HG.out.mono ?_;rintro e w1 ⟨rfl,hb1⟩);go_ret;exact⟨_,rfl,rfl,Off.of _ hb1,HF.out.call hb1⟩
 | true=>
  rw[Bool.or_true];go_enter Tryz.func146,Tryz.ntmps146;go_wp2_with (first
   | (go_at_call 173;refine HG.out.mono ?_;rintro e w1 ⟨rfl,hb1⟩;have H1:=Lib.hid (HF.out.call hb1))
   | (go_at_call 110;refine(spoil_any H1.out).mono ?_;rintro e w2 ⟨⟨v,rfl⟩,rfl⟩))
  go_ret;exact⟨_,rfl,rfl,(Off.of _ hb1).trans (Off.set _ _ _ rfl),H1.out.spoil⟩
theorem askU_yes {Q:Value→World→Prop}{k n:Nat}{t:ByteArray}{ks:List V}(h:Fld 167 X w g ls A l c sp)(i:Int)(must:Bool)(z:Nat)(hq:ask ls i=some (.mk k n t ks))(kb:Nat)
  (cl:∀ A' l' c' w',Below w.heap.size w w'→Kd w' ks A' l' c'→k < 256→n < 18446744073709551616→Calls Tryz.prog 147 #[.agg #[.int .u8 (k:Int),.int .u64 (n:Int),.string t,.slice A' l' c'],.pointer (some ⟨kb,0,none⟩)] w' (GivesP Q true w')) :
  Calls Tryz.prog 146 #[.pointer (some ⟨g,0,none⟩),.int .i64 i,.bool must,.int .u64 (z:Int),.func (.func 147) #[] #[.pointer (some ⟨kb,0,none⟩)]] w (GivesF 167 X g ls A l c Q sp w):=by
 obtain⟨j,rfl,hj,hx,_⟩:=ask_some hq;have HH:=has_any h (j:Int);rw[hq] at HH;have hl:=h.fkd.len;have HF:=Lib.hid h;have HG:=Lib.hid HH;have HC:=Lib.hid cl;have HX:=Lib.hid hx;clear hq h HH cl hx;go_enter Tryz.func146,Tryz.ntmps146;go_wp2_with (go_at_call 173;refine HG.out.mono ?_;rintro e w1 ⟨rfl,hb1⟩;have H1:=Lib.hid (HF.out.call hb1);obtain⟨a0,a1,_⟩:=H1.out.cells;obtain⟨b,o,k',n',t',ks',A',l',c',rfl,hb,hx',e0,e1,e2,e3,hk,hn,hK⟩:=H1.out.fkd.at_ (i:=j) (by omega);have hv:=HX.out.symm.trans hx';injection hv with hv;injection hv with q1 q2 q3 q4;subst q1;subst q2;subst q3;subst q4;have HC1:=Lib.hid (HC.out A' l' c' w1 hb1 hK hk hn);have HB1:=Lib.hid hb1;clear HC HG HX hx' hK hb1 hk hn);refine HC1.out.mono ?_;rintro e w2 ⟨r,rfl,hQ,hb2⟩;have HQ:=Lib.hid hQ;clear hQ;go_wp2;go_ret;exact⟨_,rfl,HQ.out,(Off.of _ HB1.out).next hb2,H1.out.call hb2⟩
theorem askU_no {Q:Value→World→Prop}{k n:Nat}{t:ByteArray}{ks:List V}(h:Fld 167 X w g ls A l c sp)(i:Int)(must:Bool)(z:Nat)(hq:ask ls i=some (.mk k n t ks))(kb:Nat)
  (cl:∀ A' l' c' w',Below w.heap.size w w'→Kd w' ks A' l' c'→k < 256→n < 18446744073709551616→Calls Tryz.prog 147 #[.agg #[.int .u8 (k:Int),.int .u64 (n:Int),.string t,.slice A' l' c'],.pointer (some ⟨kb,0,none⟩)] w' (GivesP Q false w')) :
  Calls Tryz.prog 146 #[.pointer (some ⟨g,0,none⟩),.int .i64 i,.bool must,.int .u64 (z:Int),.func (.func 147) #[] #[.pointer (some ⟨kb,0,none⟩)]] w (GivesF 167 X g ls A l c (fun r _=>r=.int .u64 (z:Int)) true w):=by
 obtain⟨j,rfl,hj,hx,_⟩:=ask_some hq;have HH:=has_any h (j:Int);rw[hq] at HH;have hl:=h.fkd.len;have HF:=Lib.hid h;have HG:=Lib.hid HH;have HC:=Lib.hid cl;have HX:=Lib.hid hx;clear hq h HH cl hx;go_enter Tryz.func146,Tryz.ntmps146;go_wp2_with (go_at_call 173;refine HG.out.mono ?_;rintro e w1 ⟨rfl,hb1⟩;have H1:=Lib.hid (HF.out.call hb1);obtain⟨a0,a1,_⟩:=H1.out.cells;obtain⟨b,o,k',n',t',ks',A',l',c',rfl,hb,hx',e0,e1,e2,e3,hk,hn,hK⟩:=H1.out.fkd.at_ (i:=j) (by omega);have hv:=HX.out.symm.trans hx';injection hv with hv;injection hv with q1 q2 q3 q4;subst q1;subst q2;subst q3;subst q4;have HC1:=Lib.hid (HC.out A' l' c' w1 hb1 hK hk hn);have HB1:=Lib.hid hb1;clear HC HG HX hx' hK hb1 hk hn);refine HC1.out.mono ?_;rintro e w2 ⟨r,rfl,_,hb2⟩;have H2:=Lib.hid (H1.out.call hb2);clear a0 a1;go_wp2_with (go_at_call 110;refine(spoil_any H2.out).mono ?_;rintro e w3 ⟨⟨v,rfl⟩,rfl⟩);go_ret;exact⟨_,rfl,rfl,((Off.of _ HB1.out).next hb2).trans (Off.set _ _ _ rfl),H2.out.spoil⟩
def GivesPV (k n:Nat)(t:ByteArray)(ks:List V)(b:Bool)(w:World)(e:Ending)(w':World):Prop:=∃ A2 l2 c2,e=.returned (.tuple #[.agg #[.int .u8 (k:Int),.int .u64 (n:Int),.string t,.slice A2 l2 c2],.bool b])∧Nw w.heap.size w' ks A2 l2 c2∧Below w.heap.size w w'
def QV (B k n:Nat)(t:ByteArray)(ks:List V)(r:Value)(w':World):Prop:=∃ A2 l2 c2,r=.agg #[.int .u8 (k:Int),.int .u64 (n:Int),.string t,.slice A2 l2 c2]∧Nw B w' ks A2 l2 c2
theorem Off.set4 {X:Nat→Prop}{w w1:World}(h:Off X w w1){g:Nat}(hg:w.heap.size≤g)(x y z u:Value):Off X w ((((w1.setCell ⟨g,0,none⟩ x).setCell ⟨g,1,none⟩ y).setCell ⟨g,2,none⟩ z).setCell ⟨g,3,none⟩ u):=
 have k:∀ (v:World) (j:Nat) (q:Value),Off X w v→Off X w (v.setCell ⟨g,j,none⟩ q):=fun v j q hv=>
  ⟨hv.os,hv.tape,hv.output,by simpa using hv.size,fun i hi hx=>(Below.heap_setCell v ⟨g,j,none⟩ q i (by simp;omega)).trans (hv.block i hi hx)⟩
 k _ _ _ (k _ _ _ (k _ _ _ (k _ _ _ h)))
theorem Fld.fin {T:TypeId}{w':World}{sp':Bool}(h:Fld T X w g ls A l c sp)(ho:Off (fun i=>i=g) w w')(hobj:w'.heap[g]? = some (.cells #[.slice A l c,.bool sp'] T (0,0))):Fld T X w' g ls A l c sp':=
 ⟨hobj,(h.kd.keep fun i hi=>ho.block i hi.1 fun e=>hi.2 (e▸h.mem)).mono fun _ hi=>⟨Nat.lt_of_lt_of_le hi.1 ho.size,hi.2⟩,h.mem⟩
theorem obj_far4 {T:TypeId}{g g0:Nat}{A:Option Addr}{l c:Nat}{sp:Bool}{w:World}(h:w.heap[g]? = some (.cells #[.slice A l c,.bool sp] T (0,0)))(hg:g≠g0)(x y z u:Value) :
  ((((w.setCell ⟨g0,0,none⟩ x).setCell ⟨g0,1,none⟩ y).setCell ⟨g0,2,none⟩ z).setCell ⟨g0,3,none⟩ u).heap[g]? = some (.cells #[.slice A l c,.bool sp] T (0,0)):=
 have k:∀ (v:World) (j:Nat) (q:Value),v.heap[g]? = some (.cells #[.slice A l c,.bool sp] T (0,0))→(v.setCell ⟨g0,j,none⟩ q).heap[g]? = some (.cells #[.slice A l c,.bool sp] T (0,0)):=fun v j q hv=>(Below.heap_setCell v ⟨g0,j,none⟩ q g hg).trans hv
 k _ _ _ (k _ _ _ (k _ _ _ (k _ _ _ h)))
theorem Box.off {X:Nat→Prop}{w w':World}{g:Nat}{x0 x1 x2 x3:Value}(h:Box w g x0 x1 x2 x3)(ho:Off X w w')(hX:¬ X g):Box w' g x0 x1 x2 x3:=(ho.block g h.lt hX).trans h
theorem boxes2 (w:World)(x0 x1 x2 x3 y0 y1 y2 y3:Value):Box ((w.alloc (.cells #[x0,x1,x2,x3] 44)).alloc (.cells #[y0,y1,y2,y3] 44)) w.heap.size x0 x1 x2 x3∧Box ((w.alloc (.cells #[x0,x1,x2,x3] 44)).alloc (.cells #[y0,y1,y2,y3] 44)) (w.heap.size+1) y0 y1 y2 y3 ∧
  Below w.heap.size w ((w.alloc (.cells #[x0,x1,x2,x3] 44)).alloc (.cells #[y0,y1,y2,y3] 44)):=⟨(Box.new w _ _ _ _).alloc _,Box.new2 w _ _ _ _ _,two_boxes w _ _⟩
structure SV (X:Nat→Prop) (w wi:World) (g:Nat) (ls:List V) (A:Option Addr) (l c:Nat) (sp:Bool):Prop where
 fld:Fld 167 X wi g ls A l c sp
 off:Off (fun i=>i=g) w wi
 b8:Box wi w.heap.size (.int .u8 1) (.int .u64 0) (.string ⟨#[]⟩) (.slice none 0 0)
 b10:Box wi (w.heap.size+1) (.int .u8 0) (.int .u64 0) (.string ⟨#[]⟩) (.slice none 0 0)
 lt:g < w.heap.size
theorem SV.call {w wi w':World}{g:Nat}{ls:List V}{A:Option Addr}{l c:Nat}{sp:Bool}(h:SV X w wi g ls A l c sp)(hb:Below wi.heap.size wi w'):SV X w w' g ls A l c sp:=⟨h.fld.call hb,h.off.next hb,h.b8.call hb,h.b10.call hb,h.lt⟩
theorem SV.spoil {w wi:World}{g:Nat}{ls:List V}{A:Option Addr}{l c:Nat}{sp:Bool}(h:SV X w wi g ls A l c sp):SV X w (wi.setCell ⟨g,1,none⟩ (.bool true)) g ls A l c true:=
 ⟨h.fld.spoil,h.off.trans (Off.set _ _ _ rfl),h.b8.far (by have:=h.lt;simp;omega) _,h.b10.far (by have:=h.lt;simp;omega) _,h.lt⟩
theorem SV.all {w wi:World}{g:Nat}{ls:List V}{A:Option Addr}{l c:Nat}{sp:Bool}(h:SV X w wi g ls A l c sp):wi.cell? ⟨w.heap.size,0,none⟩=some (.int .u8 1)∧wi.cell? ⟨w.heap.size,1,none⟩=some (.int .u64 0)∧wi.cell? ⟨w.heap.size,2,none⟩=some (.string ⟨#[]⟩)∧wi.cell? ⟨w.heap.size,3,none⟩=some (.slice none 0 0) ∧
  wi.cell? ⟨w.heap.size+1,0,none⟩=some (.int .u8 0)∧wi.cell? ⟨w.heap.size+1,1,none⟩=some (.int .u64 0)∧wi.cell? ⟨w.heap.size+1,2,none⟩=some (.string ⟨#[]⟩)∧wi.cell? ⟨w.heap.size+1,3,none⟩=some (.slice none 0 0)∧∀ j,wi.frozen? ⟨w.heap.size+1,j,none⟩=false:=by
 obtain⟨a0,a1,a2,a3,_⟩:=h.b8.all;obtain⟨b0,b1,b2,b3,b4⟩:=h.b10.all;exact⟨a0,a1,a2,a3,b0,b1,b2,b3,b4⟩
theorem SV.new (h:Fld 167 X w g ls A l c sp):SV X w ((w.alloc (.cells #[.int .u8 1,.int .u64 0,.string ⟨#[]⟩,.slice none 0 0] 44)).alloc (.cells #[.int .u8 0,.int .u64 0,.string ⟨#[]⟩,.slice none 0 0] 44)) g ls A l c sp:=by
 obtain⟨b8,b10,hB⟩:=boxes2 w (.int .u8 1) (.int .u64 0) (.string ⟨#[]⟩) (.slice none 0 0) (.int .u8 0) (.int .u64 0) (.string ⟨#[]⟩) (.slice none 0 0);exact⟨h.call hB,Off.of _ hB,b8,b10,h.lt⟩
theorem SV.fin {w wi:World}{g:Nat}{ls:List V}{A:Option Addr}{l c:Nat}{sp sp0:Bool}{k n:Nat}{t:ByteArray}{ks:List V}{A2:Option Addr}{l2 c2:Nat}(h:SV X w wi g ls A l c sp)(h0:Fld 167 X w g ls A l c sp0)(hN:Nw (w.heap.size+2) wi ks A2 l2 c2)(x y z u:Value) :
  GivesF 167 X g ls A l c (QV w.heap.size k n t ks) sp w (.returned (.agg #[.int .u8 (k:Int),.int .u64 (n:Int),.string t,.slice A2 l2 c2])) ((((wi.setCell ⟨w.heap.size+1,0,none⟩ x).setCell ⟨w.heap.size+1,1,none⟩ y).setCell ⟨w.heap.size+1,2,none⟩ z).setCell ⟨w.heap.size+1,3,none⟩ u):=by
 have ho:=Off.set4 h.off (g:=w.heap.size+1) (by omega) x y z u;exact⟨_,rfl,⟨A2,l2,c2,rfl,(hN.far4 (by omega) _ _ _ _).less (by omega)⟩,ho,h0.fin ho (obj_far4 h.fld.obj (by have:=h.lt;omega) _ _ _ _)⟩
theorem askV_none (h:Fld 167 X w g ls A l c sp)(i:Int)(must:Bool)(hq:ask ls i=none)(kb:Nat) :
  Calls Tryz.prog 143 #[.pointer (some ⟨g,0,none⟩),.int .i64 i,.bool must,.agg #[.int .u8 1,.int .u64 0,.string ⟨#[]⟩,.slice none 0 0],.func (.func 144) #[] #[.pointer (some ⟨kb,0,none⟩)]] w (GivesF 167 X g ls A l c (QV w.heap.size 1 0 ⟨#[]⟩ []) (sp||must) w):=by
 have hS:=SV.new h;have HH:=has_any hS.fld i;rw[hq] at HH;have HF:=Lib.hid h;have HG:=Lib.hid HH;have HS:=Lib.hid hS;clear hq h HH hS;cases must with
 | false=>
  rw[Bool.or_false];go_enter Tryz.func143,Tryz.ntmps143;go_wp2_with fail;refine HG.out.mono ?_;rintro e w1 ⟨rfl,hb1⟩;have H1:=Lib.hid (HS.out.call hb1);obtain⟨f0,f1,f2,f3,d0,d1,d2,d3,df⟩:=H1.out.all;clear hb1;go_wp2;refine bodyPost_ret (v:=.agg #[.int .u8 1,.int .u64 0,.string ⟨#[]⟩,.slice none 0 0]) (by simp[results,Tryz.results143,go_sem,d0,d1,d2,d3]) rfl ?_;exact H1.out.fin HF.out (Kids.none_ _ _ _ _ _) _ _ _ _
 | true=>
  rw[Bool.or_true];go_enter Tryz.func143,Tryz.ntmps143;go_wp2_with fail;refine HG.out.mono ?_;rintro e w1 ⟨rfl,hb1⟩;have H1:=Lib.hid (HS.out.call hb1);clear hb1;go_wp2_with fail;refine(spoil_any H1.out.fld).mono ?_;rintro e w2 ⟨⟨v,rfl⟩,hw2⟩;have hS2:=H1.out.spoil;rw[hw2] at hS2;have H2:=Lib.hid hS2;obtain⟨f0,f1,f2,f3,d0,d1,d2,d3,df⟩:=hS2.all;clear hw2 hS2;go_wp2;refine bodyPost_ret (v:=.agg #[.int .u8 1,.int .u64 0,.string ⟨#[]⟩,.slice none 0 0]) (by simp[results,Tryz.results143,go_sem,d0,d1,d2,d3]) rfl ?_;exact H2.out.fin HF.out (Kids.none_ _ _ _ _ _) _ _ _ _
theorem askV_yes {k n:Nat}{t:ByteArray}{ks:List V}(h:Fld 167 X w g ls A l c sp)(i:Int)(must:Bool)(hq:ask ls i=some (.mk k n t ks))(kb:Nat)
  (cl:∀ A' l' c' w',Below w.heap.size w w'→Kd w' ks A' l' c'→k < 256→n < 18446744073709551616→Calls Tryz.prog 144 #[.agg #[.int .u8 (k:Int),.int .u64 (n:Int),.string t,.slice A' l' c'],.pointer (some ⟨kb,0,none⟩)] w' (GivesPV k n t ks true w')) :
  Calls Tryz.prog 143 #[.pointer (some ⟨g,0,none⟩),.int .i64 i,.bool must,.agg #[.int .u8 1,.int .u64 0,.string ⟨#[]⟩,.slice none 0 0],.func (.func 144) #[] #[.pointer (some ⟨kb,0,none⟩)]] w (GivesF 167 X g ls A l c (QV w.heap.size k n t ks) sp w):=by
 obtain⟨j,rfl,hj,hx,_⟩:=ask_some hq;have hS:=SV.new h;have HH:=has_any hS.fld (j:Int);rw[hq] at HH;have hl:=h.fkd.len;have hB:=two_boxes w (.cells #[.int .u8 1,.int .u64 0,.string ⟨#[]⟩,.slice none 0 0] 44) (.cells #[.int .u8 0,.int .u64 0,.string ⟨#[]⟩,.slice none 0 0] 44);have HF:=Lib.hid h;have HG:=Lib.hid HH;have HS:=Lib.hid hS;have HC:=Lib.hid cl;have HX:=Lib.hid hx;have HB:=Lib.hid hB;clear hq h HH cl hx hS hB;go_enter Tryz.func143,Tryz.ntmps143;go_wp2_with fail;refine HG.out.mono ?_;rintro e w1 ⟨rfl,hb1⟩;have H1:=Lib.hid (HS.out.call hb1);obtain⟨a0,a1,_⟩:=H1.out.fld.cells;obtain⟨b,o,k',n',t',ks',A',l',c',rfl,hb,hx',e0,e1,e2,e3,hk,hn,hK⟩:=H1.out.fld.fkd.at_ (i:=j) (by omega);have hv:=HX.out.symm.trans hx';injection hv with hv
 injection hv with q1 q2 q3 q4
 subst q1;subst q2;subst q3;subst q4;have HC1:=Lib.hid (HC.out A' l' c' w1 (below_next HB.out hb1) hK hk hn);have HSZ:=Lib.hid (show w.heap.size+2≤w1.heap.size by have:=hb1.size;simp at this;omega);clear HC HG HX hx' hK hb1 hk hn HB;go_wp2_with fail;refine HC1.out.mono ?_;rintro e w2 ⟨A2,l2,c2,rfl,hN2,hb2⟩;have H2:=Lib.hid (H1.out.call hb2);have HN2:=Lib.hid hN2;clear hN2 hb2 a0 a1 e0 e1 e2 e3 HC1;have hb3:Below w2.heap.size w2 (w2.alloc (.cells #[.int .u8 (k:Int),.int .u64 (n:Int),.string t,.slice A2 l2 c2] 44)):=(Below.refl _ _).alloc (Nat.le_refl _) _;have H3:=Lib.hid (H2.out.call hb3);have HN3:=Lib.hid (HN2.out.call hb3);obtain⟨z0,z1,z2,z3,_⟩:=(Box.new w2 (.int .u8 (k:Int)) (.int .u64 (n:Int)) (.string t) (.slice A2 l2 c2)).all;obtain⟨f0,f1,f2,f3,d0,d1,d2,d3,df⟩:=H3.out.all;clear hb3;go_wp2;refine bodyPost_ret (v:=.agg #[.int .u8 (k:Int),.int .u64 (n:Int),.string t,.slice A2 l2 c2]) (by simp[results,Tryz.results143,go_sem,d0,d1,d2,d3]) rfl ?_;exact H3.out.fin HF.out (HN3.out.less HSZ.out) _ _ _ _
theorem askV_no {k n:Nat}{t:ByteArray}{ks:List V}(h:Fld 167 X w g ls A l c sp)(i:Int)(must:Bool)(hq:ask ls i=some (.mk k n t ks))(kb:Nat)
  (cl:∀ A' l' c' w',Below w.heap.size w w'→Kd w' ks A' l' c'→k < 256→n < 18446744073709551616→Calls Tryz.prog 144 #[.agg #[.int .u8 (k:Int),.int .u64 (n:Int),.string t,.slice A' l' c'],.pointer (some ⟨kb,0,none⟩)] w' (GivesPV k n t ks false w')) :
  Calls Tryz.prog 143 #[.pointer (some ⟨g,0,none⟩),.int .i64 i,.bool must,.agg #[.int .u8 1,.int .u64 0,.string ⟨#[]⟩,.slice none 0 0],.func (.func 144) #[] #[.pointer (some ⟨kb,0,none⟩)]] w (GivesF 167 X g ls A l c (QV w.heap.size 1 0 ⟨#[]⟩ []) true w):=by
 obtain⟨j,rfl,hj,hx,_⟩:=ask_some hq;have hS:=SV.new h;have HH:=has_any hS.fld (j:Int);rw[hq] at HH;have hl:=h.fkd.len;have hB:=two_boxes w (.cells #[.int .u8 1,.int .u64 0,.string ⟨#[]⟩,.slice none 0 0] 44) (.cells #[.int .u8 0,.int .u64 0,.string ⟨#[]⟩,.slice none 0 0] 44);have HF:=Lib.hid h;have HG:=Lib.hid HH;have HS:=Lib.hid hS;have HC:=Lib.hid cl;have HX:=Lib.hid hx;have HB:=Lib.hid hB;clear hq h HH cl hx hS hB;go_enter Tryz.func143,Tryz.ntmps143;go_wp2_with fail;refine HG.out.mono ?_;rintro e w1 ⟨rfl,hb1⟩;have H1:=Lib.hid (HS.out.call hb1);obtain⟨a0,a1,_⟩:=H1.out.fld.cells;obtain⟨b,o,k',n',t',ks',A',l',c',rfl,hb,hx',e0,e1,e2,e3,hk,hn,hK⟩:=H1.out.fld.fkd.at_ (i:=j) (by omega);have hv:=HX.out.symm.trans hx';injection hv with hv
 injection hv with q1 q2 q3 q4
 subst q1;subst q2;subst q3;subst q4;have HC1:=Lib.hid (HC.out A' l' c' w1 (below_next HB.out hb1) hK hk hn);have HSZ:=Lib.hid (show w.heap.size+2≤w1.heap.size by have:=hb1.size;simp at this;omega);clear HC HG HX hx' hK hb1 hk hn HB;go_wp2_with fail;refine HC1.out.mono ?_;rintro e w2 ⟨A2,l2,c2,rfl,hN2,hb2⟩;have H2:=Lib.hid (H1.out.call hb2);have HN2:=Lib.hid hN2;clear hN2 hb2 a0 a1 e0 e1 e2 e3 HC1;have hb3:Below w2.heap.size w2 (w2.alloc (.cells #[.int .u8 (k:Int),.int .u64 (n:Int),.string t,.slice A2 l2 c2] 44)):=(Below.refl _ _).alloc (Nat.le_refl _) _;have H3:=Lib.hid (H2.out.call hb3);clear hb3;go_wp2_with fail;refine(spoil_any H3.out.fld).mono ?_;rintro e w4 ⟨⟨v,rfl⟩,hw4⟩;have hS4:=H3.out.spoil;rw[hw4] at hS4;have H4:=Lib.hid hS4;obtain⟨f0,f1,f2,f3,d0,d1,d2,d3,df⟩:=hS4.all;clear hw4 hS4;go_wp2;refine bodyPost_ret (v:=.agg #[.int .u8 1,.int .u64 0,.string ⟨#[]⟩,.slice none 0 0]) (by simp[results,Tryz.results143,go_sem,d0,d1,d2,d3]) rfl ?_;exact H4.out.fin HF.out (Kids.none_ _ _ _ _ _) _ _ _ _
end
end Go.Proofs.YtcilmmdmkpnppaaGreatDoor.Fl
end
section
namespace Go.Proofs.YtcilmmdmkpnppaaGreatDoor.Fl
set_option maxRecDepth 100000
open Go.RowKit Utf Val V
theorem eq_dec (k m:Nat):((k:Int)==(m:Int))=decide (k=m):=by
 by_cases h:k=m
 ·subst h;simp
 ·simp[h];omega
theorem number1_any (k n:Nat)(t:ByteArray)(A:Option Addr)(l c kb kind:Nat)(w:World)(hk:w.cell? ⟨kb,0,none⟩=some (.int .u8 (kind:Int)))(hb:kb < w.heap.size)(b:Bool)(hd:decide (k=kind)=b) :
  Calls Tryz.prog 147 #[.agg #[.int .u8 (k:Int),.int .u64 (n:Int),.string t,.slice A l c],.pointer (some ⟨kb,0,none⟩)] w (GivesP (fun r _=>r=.int .u64 (n:Int)) b w):=by
 have hd':((k:Int)==(kind:Int))=b:=by rw[eq_dec,hd]
 have hB:Below w.heap.size w (w.alloc (.cells #[.int .u8 (k:Int),.int .u64 (n:Int),.string t,.slice A l c] 44)):=(Below.refl _ _).alloc (Nat.le_refl _) _;obtain⟨a0,a1,a2,a3,_⟩:=(Box.new w (.int .u8 (k:Int)) (.int .u64 (n:Int)) (.string t) (.slice A l c)).all;have hk1:=(hB.cell (p:=⟨kb,0,none⟩) hb).trans hk;obtain⟨w1,hw1⟩:∃ x,w.alloc (.cells #[.int .u8 (k:Int),.int .u64 (n:Int),.string t,.slice A l c] 44)=x:=⟨_,rfl⟩;obtain⟨gg,hgg⟩:∃ x,w.heap.size=x:=⟨_,rfl⟩;rw[hw1] at a0 a1 a2 a3 hk1 hB;rw[hgg] at a0 a1 a2 a3;have HB:=Lib.hid hB;clear hd hB hk;go_enter Tryz.func147,Tryz.ntmps147;go_wp2_with fail;go_quiet (fail);go_wp2;refine bodyPost_ret (v:=.tuple #[.int .u64 (n:Int),.bool b]) (by simp[results,Tryz.results147,go_sem]) rfl ?_;exact⟨_,rfl,rfl,below_drewN HB.out _⟩
theorem index_any {B:Nat}{A:Option Addr}{n c x:Nat}{L:List Nat}{w:World}(hr:Rd .u8 256 w B A n L)(hc:n≤1099511627776) :
  Calls Tryz.prog 174 #[.slice A n c,.int .u8 (x:Int)] w fun e w'=>(∃ z:Int,e=.returned (.int .i64 z)∧decide (0≤z)=decide (x∈L))∧w=w':=by
 have HR:=Lib.hid hr;have hlen:=hr.len;clear hr;go_enter Tryz.func174,Tryz.ntmps174;go_wp2;go_loopw [8] (fun i wr=>∃ j:Nat,j≤n∧i=.int .i64 j∧x ∉ L.take j∧w=wr) (fun i _=>n - (intOf i).toNat)
 case atStart=>exact⟨0,Nat.zero_le _,rfl,by simp,rfl⟩
 case round=>
  obtain⟨j,hj,rfl,hy,rfl⟩:=hrel;by_cases hlt:j < n
  ·obtain⟨b,o,y,rfl,hb,hx,hy256,hcell⟩:=HR.out.at_ hlt;have HY:=Lib.hid hy;have HX:=Lib.hid hx;by_cases hxy:x=y
   ·subst hxy;clear hy hx;go_wp2;go_ret;exact⟨⟨_,rfl,by rw[decide_eq_true (List.mem_of_getElem? HX.out)];exact decide_eq_true (Int.natCast_nonneg _)⟩,rfl⟩
   ·have he:((x:Int)==(y:Int))=false:=by rw[eq_dec];exact decide_eq_false hxy
    have HNE:=Lib.hid hxy;clear hxy hy hx;go_wp2;go_roundw
    case rel=>exact⟨j+1,by omega,by go_num,(by rw[List.take_add_one,HX.out];simp only[Option.toList,List.mem_append,List.mem_singleton,not_or];exact⟨HY.out,HNE.out⟩),by trivial⟩
    case measure=>simp[intOf];omega
  ·have HE:Hid (x ∉ L):=Lib.hid (by rwa [List.take_of_length_le (by omega)] at hy);clear hy;go_wp2;go_ret;exact⟨⟨_,rfl,by have:=HE.out;simp[this]⟩,rfl⟩
theorem contains_any {B:Nat}{A:Option Addr}{n c x:Nat}{L:List Nat}{w:World}(hr:Rd .u8 256 w B A n L)(hc:n≤1099511627776) :
  Calls Tryz.prog 145 #[.slice A n c,.int .u8 (x:Int)] w fun e w'=>e=.returned (.bool (decide (x∈L)))∧w=w':=by
 have HI:=Lib.hid (index_any (x:=x) (c:=c) hr hc);clear hr;obtain⟨d,hd⟩:∃ d,decide (x∈L)=d:=⟨_,rfl⟩;rw[hd] at HI ⊢;clear hd;go_enter Tryz.func145,Tryz.ntmps145;go_wp2_with (go_at_call 174;refine HI.out.mono ?_;rintro e w1 ⟨⟨z,rfl,hz⟩,rfl⟩);go_ret;exact⟨rfl,rfl⟩
def fitsB (L:List Nat)(k:Nat):Bool:=decide (L.length=0)||decide (k∈L)
structure SR (w wx:World) (k n:Nat) (t:ByteArray) (A:Option Addr) (l c:Nat):Prop where
 b2:Box wx w.heap.size (.int .u8 (k:Int)) (.int .u64 (n:Int)) (.string t) (.slice A l c)
 b3:∃ y0 y1 y2 y3,Box wx (w.heap.size+1) y0 y1 y2 y3
 low:Below w.heap.size w wx
section
variable {w wx w1:World} {k n:Nat} {t:ByteArray} {A:Option Addr} {l c:Nat}
theorem SR.call (h:SR w wx k n t A l c)(hb:Below wx.heap.size wx w1):SR w w1 k n t A l c:=⟨h.b2.call hb,by obtain⟨y0,y1,y2,y3,h⟩:=h.b3;exact⟨y0,y1,y2,y3,h.call hb⟩,below_next h.low hb⟩
theorem SR.drew (h:SR w wx k n t A l c):SR w wx.drew k n t A l c:=h.call (Below.refl _ _).drew
theorem SR.kd {ks:List V}{A':Option Addr}{l' c':Nat}(h:SR w wx k n t A l c)(hK:Kd w ks A' l' c'):Kd wx ks A' l' c':=hK.call h.low
theorem SR.rd {B:Nat}{A':Option Addr}{n':Nat}{L:List Nat}(h:SR w wx k n t A l c)(hB:B≤w.heap.size)(hr:Rd .u8 256 w B A' n' L):Rd .u8 256 wx B A' n' L:=hr.below (h.low.mono hB)
theorem SR.size (h:SR w wx k n t A l c):w.heap.size+2≤wx.heap.size:=by
 obtain⟨_,_,_,_,h⟩:=h.b3;have:=h.lt;omega
theorem SR.nw {ks:List V}{A':Option Addr}{l' c':Nat}(h:SR w wx k n t A l c)(hN:Nw wx.heap.size w1 ks A' l' c'):Nw (w.heap.size+2) w1 ks A' l' c':=hN.less h.size
theorem SR.cells {kb:Nat}{u:Value}(h:SR w wx k n t A l c)(hkb:kb < w.heap.size)(hu:w.cell? ⟨kb,0,none⟩=some u):wx.cell? ⟨w.heap.size,0,none⟩=some (.int .u8 (k:Int))∧wx.cell? ⟨w.heap.size,1,none⟩=some (.int .u64 (n:Int))∧wx.cell? ⟨w.heap.size,2,none⟩=some (.string t)∧wx.cell? ⟨w.heap.size,3,none⟩=some (.slice A l c)∧wx.cell? ⟨kb,0,none⟩=some u:=by
 obtain⟨a0,a1,a2,a3,_⟩:=h.b2.all;exact⟨a0,a1,a2,a3,(h.low.cell (p:=⟨kb,0,none⟩) hkb).trans hu⟩
theorem SR.set4 (h:SR w wx k n t A l c)(x y z u:Value):SR w ((((wx.setCell ⟨w.heap.size+1,0,none⟩ x).setCell ⟨w.heap.size+1,1,none⟩ y).setCell ⟨w.heap.size+1,2,none⟩ z).setCell ⟨w.heap.size+1,3,none⟩ u) k n t A l c:=
 ⟨h.b2.far4 (by omega) _ _ _ _,by obtain⟨y0,y1,y2,y3,h⟩:=h.b3;exact⟨_,_,_,_,h.set4 _ _ _ _⟩,below_set4 h.low (by omega) _ _ _ _⟩
end
set_option maxHeartbeats 1000000 in
theorem value1_any (k n:Nat)(t:ByteArray)(ks:List V)(A:Option Addr)(l c kb:Nat)(KA:Option Addr)(kl kc B:Nat)(L:List Nat)(w:World)(hK0:w.cell? ⟨kb,0,none⟩=some (.slice KA kl kc))(hkb:kb < w.heap.size)(hr:Rd .u8 256 w B KA kl L)(hB:B≤w.heap.size)(hkl:kl≤1099511627776)
  (hN:bulkL ks≤1073741824) (hk:k < 256) (hn:n < 18446744073709551616) (hK:Kd w ks A l c) (b:Bool) (hd:fitsB L k=b) :
  Calls Tryz.prog 144 #[.agg #[.int .u8 (k:Int),.int .u64 (n:Int),.string t,.slice A l c],.pointer (some ⟨kb,0,none⟩)] w (GivesPV k n t ks b w):=by
 obtain⟨b2,b3,hB2⟩:=boxes2 w (.int .u8 (k:Int)) (.int .u64 (n:Int)) (.string t) (.slice A l c) (.int .u8 0) (.int .u64 0) (.string ⟨#[]⟩) (.slice none 0 0);have hS:SR w ((w.alloc (.cells #[.int .u8 (k:Int),.int .u64 (n:Int),.string t,.slice A l c] 44)).alloc (.cells #[.int .u8 0,.int .u64 0,.string ⟨#[]⟩,.slice none 0 0] 44)) k n t A l c:=⟨b2,⟨_,_,_,_,b3⟩,hB2⟩;obtain⟨W0,hW0⟩:∃ W0,(w.alloc (.cells #[.int .u8 (k:Int),.int .u64 (n:Int),.string t,.slice A l c] 44)).alloc (.cells #[.int .u8 0,.int .u64 0,.string ⟨#[]⟩,.slice none 0 0] 44)=W0:=⟨_,rfl⟩;rw[hW0] at hS;have hlen:=hr.len;have HN:=Lib.hid hN;have HK:=Lib.hid hK;have HR:=Lib.hid hr;have HS:=Lib.hid hS;clear hN hK hr hB2 b2 b3 hS;by_cases h0:kl=0
 ·have hb:b=true:=by rw[←hd];unfold fitsB;rw[hlen,h0];rfl
  subst hb;subst h0;clear hd;go_enter Tryz.func144,Tryz.ntmps144;go_upto_region 1 with fail
  clear hW0;refine wp_region_held_drew (S:=fun wx=>SR w wx k n t A l c) (by kernel_rfl) (by exact HS.out.drew) (fun hHeld=>?_)
  (refine wpAnyH_take (i:=0) (oi:=⟨some 5,_,_,_,_,_⟩) (v:=?_) rfl (by kernel_rfl) (by kernel_rfl) (by kernel_rfl) (fun _ _ _ h=>h) (Or.inl ⟨by kernel_rfl,?_⟩) (by assumption) ?_;rotate_left 1;(· intro wx hSw;(try dsimp only at hSw);obtain⟨p0,p1,p2,p3,pk⟩:=SR.cells hSw hkb hK0;go_simp;(try with_reducible rfl)))
  try simp only[Act.put,sA,sB,sC]
  (refine wpAnyH_take (i:=2) (oi:=⟨some 7,_,_,_,_,_⟩) (v:=?_) rfl (by kernel_rfl) (by kernel_rfl) (by kernel_rfl) (fun _ _ _ h=>h) (Or.inl ⟨by kernel_rfl,?_⟩) (by assumption) ?_;rotate_left 1;(· intro wx hSw;(try dsimp only at hSw);obtain⟨p0,p1,p2,p3,pk⟩:=SR.cells hSw hkb hK0;go_simp;(try with_reducible rfl)))
  try simp only[Act.put,sA,sB,sC]
  (refine wpAnyH_take (i:=3) (oi:=⟨some 8,_,_,_,_,_⟩) (v:=?_) rfl (by kernel_rfl) (by kernel_rfl) (by kernel_rfl) (fun _ _ _ h=>h) (Or.inl ⟨by kernel_rfl,?_⟩) (by assumption) ?_;rotate_left 1;(· intro wx hSw;(try dsimp only at hSw);obtain⟨p0,p1,p2,p3,pk⟩:=SR.cells hSw hkb hK0;go_simp;(try with_reducible rfl)))
  try simp only[Act.put,sA,sB,sC]
  (refine wpAnyH_take (i:=4) (oi:=⟨some 9,_,_,_,_,_⟩) (v:=?_) rfl (by kernel_rfl) (by kernel_rfl) (by kernel_rfl) (fun _ _ _ h=>h) (Or.inl ⟨by kernel_rfl,?_⟩) (by assumption) ?_;rotate_left 1;(· intro wx hSw;(try dsimp only at hSw);obtain⟨p0,p1,p2,p3,pk⟩:=SR.cells hSw hkb hK0;go_simp;(try with_reducible rfl)))
  try simp only[Act.put,sA,sB,sC]
  (refine wpAnyH_ready (rs:=[1]) (by kernel_rfl) (by simp) ?_;refine AllReadyH.cons (o:=⟨some 6,_,_,_,_,_⟩) rfl (fun K hK=>?_) AllReadyH.nil;go_simp;(go_at_call 122;(with_reducible refine(vcopy_any k n t ks A l c _ HN.out hk hn (SR.kd (by with_reducible assumption) HK.out)).mono ?_);rintro e w1 ⟨A1,l1,c1,rfl,hNw1,hb1⟩;have HN1:=Lib.hid (SR.nw (by with_reducible assumption) hNw1);clear hNw1);go_wp2_with fail;refine hK.out _ _ ?_ (fun hHeld=>?_);(· exact SR.call (by with_reducible assumption) (by with_reducible assumption));clear hK K)
  try simp only[Act.put,sA,sB,sC]
  (refine wpAnyH_take (i:=5) (oi:=⟨some 10,_,_,_,_,_⟩) (v:=?_) rfl (by kernel_rfl) (by kernel_rfl) (by kernel_rfl) (fun _ _ _ h=>h) (Or.inl ⟨by kernel_rfl,?_⟩) (by assumption) ?_;rotate_left 1;(· intro wx hSw;(try dsimp only at hSw);obtain⟨p0,p1,p2,p3,pk⟩:=SR.cells hSw hkb hK0;go_simp;(try with_reducible rfl)))
  try simp only[Act.put,sA,sB,sC]
  (refine wpAnyH_take (i:=6) (oi:=⟨some 11,_,_,_,_,_⟩) (v:=undef) rfl (by kernel_rfl) (by kernel_rfl) (by kernel_rfl) (fun _ _ _ h=>h) (Or.inr ⟨by kernel_rfl,rfl⟩) (by assumption) ?_)
  try simp only[Act.put,sA,sB,sC]
  (refine wpAnyH_take (i:=7) (oi:=⟨some 12,_,_,_,_,_⟩) (v:=undef) rfl (by kernel_rfl) (by kernel_rfl) (by kernel_rfl) (fun _ _ _ h=>h) (Or.inr ⟨by kernel_rfl,rfl⟩) (by assumption) ?_)
  try simp only[Act.put,sA,sB,sC]
  (refine wpAnyH_take (i:=8) (oi:=⟨some 13,_,_,_,_,_⟩) (v:=undef) rfl (by kernel_rfl) (by kernel_rfl) (by kernel_rfl) (fun _ _ _ h=>h) (Or.inr ⟨by kernel_rfl,rfl⟩) (by assumption) ?_)
  try simp only[Act.put,sA,sB,sC]
  (refine wpAnyH_take (i:=9) (oi:=⟨some 14,_,_,_,_,_⟩) (v:=undef) rfl (by kernel_rfl) (by kernel_rfl) (by kernel_rfl) (fun _ _ _ h=>h) (Or.inr ⟨by kernel_rfl,rfl⟩) (by assumption) ?_)
  try simp only[Act.put,sA,sB,sC]
  (refine wpAnyH_take (i:=10) (oi:=⟨some 15,_,_,_,_,_⟩) (v:=?_) rfl (by kernel_rfl) (by kernel_rfl) (by kernel_rfl) (fun _ _ _ h=>h) (Or.inl ⟨by kernel_rfl,?_⟩) (by assumption) ?_;rotate_left 1;(· intro wx hSw;(try dsimp only at hSw);obtain⟨p0,p1,p2,p3,pk⟩:=SR.cells hSw hkb hK0;go_simp;(try with_reducible rfl)))
  try simp only[Act.put,sA,sB,sC]
  (refine wpAnyH_ready (rs:=[11]) (by kernel_rfl) (by simp) ?_;refine AllReadyH.cons (o:=⟨none,_,_,_,_,_⟩) rfl (fun K hK=>?_) AllReadyH.nil;go_simp;obtain⟨y0,y1,y2,y3,hb3⟩:=SR.b3 hHeld;obtain⟨d0,d1,d2,d3,df⟩:=hb3.all;go_wp2_with fail;all_goals (obtain⟨y0,y1,y2,y3,hb3⟩:=SR.b3 hHeld;have HBX:=Lib.hid (hb3.set4 (.int .u8 (k:Int)) (.int .u64 (n:Int)) (.string t) (.slice A1 l1 c1));refine hK.out _ _ ?_ (fun hHeld=>?_);(· exact SR.set4 (by with_reducible assumption) _ _ _ _);clear hK K))
  try simp only[Act.put,sA,sB,sC]
  all_goals (refine wpAnyH_take (i:=12) (oi:=⟨some 4,_,_,_,_,_⟩) (v:=?_) rfl (by kernel_rfl) (by kernel_rfl) (by kernel_rfl) (fun _ _ _ h=>h) (Or.inl ⟨by kernel_rfl,?_⟩) (by assumption) ?_;rotate_left 1;(· intro wx hSw;(try dsimp only at hSw);obtain⟨p0,p1,p2,p3,pk⟩:=SR.cells hSw hkb hK0;go_simp;(try with_reducible rfl)))
  try simp only[Act.put,sA,sB,sC]
  all_goals refine wpAnyH_done (by kernel_rfl) ?_ _
  all_goals
   obtain⟨f0,f1,f2,f3,_⟩:=HBX.out.all;go_wp2_with fail;refine bodyPost_ret (v:=.tuple #[.agg #[.int .u8 (k:Int),.int .u64 (n:Int),.string t,.slice A1 l1 c1],.bool true]) (by simp[results,Tryz.results144,go_sem,f0,f1,f2,f3]) rfl ?_;exact⟨A1,l1,c1,rfl,(HN1.out.far4 (by omega) _ _ _ _).less (by omega),hHeld.low⟩
 ·have hb:decide (k∈L)=b:=by rw[←hd];unfold fitsB;rw[hlen,decide_eq_false h0];rfl
  have hz:((kl:Int)==0)=false:=by simp;omega
  rw[←hb];clear hd hb h0;go_enter Tryz.func144,Tryz.ntmps144;go_upto_region 1 with fail
  clear hW0;refine wp_region_held_drew (S:=fun wx=>SR w wx k n t A l c) (by kernel_rfl) (by exact HS.out.drew) (fun hHeld=>?_)
  (refine wpAnyH_take (i:=0) (oi:=⟨some 5,_,_,_,_,_⟩) (v:=?_) rfl (by kernel_rfl) (by kernel_rfl) (by kernel_rfl) (fun _ _ _ h=>h) (Or.inl ⟨by kernel_rfl,?_⟩) (by assumption) ?_;rotate_left 1;(· intro wx hSw;(try dsimp only at hSw);obtain⟨p0,p1,p2,p3,pk⟩:=SR.cells hSw hkb hK0;go_simp;(try with_reducible rfl)))
  try simp only[Act.put,sA,sB,sC]
  (refine wpAnyH_take (i:=2) (oi:=⟨some 7,_,_,_,_,_⟩) (v:=?_) rfl (by kernel_rfl) (by kernel_rfl) (by kernel_rfl) (fun _ _ _ h=>h) (Or.inl ⟨by kernel_rfl,?_⟩) (by assumption) ?_;rotate_left 1;(· intro wx hSw;(try dsimp only at hSw);obtain⟨p0,p1,p2,p3,pk⟩:=SR.cells hSw hkb hK0;go_simp;(try with_reducible rfl)))
  try simp only[Act.put,sA,sB,sC]
  (refine wpAnyH_take (i:=3) (oi:=⟨some 8,_,_,_,_,_⟩) (v:=?_) rfl (by kernel_rfl) (by kernel_rfl) (by kernel_rfl) (fun _ _ _ h=>h) (Or.inl ⟨by kernel_rfl,?_⟩) (by assumption) ?_;rotate_left 1;(· intro wx hSw;(try dsimp only at hSw);obtain⟨p0,p1,p2,p3,pk⟩:=SR.cells hSw hkb hK0;go_simp;(try with_reducible rfl)))
  try simp only[Act.put,sA,sB,sC]
  (refine wpAnyH_take (i:=4) (oi:=⟨some 9,_,_,_,_,_⟩) (v:=?_) rfl (by kernel_rfl) (by kernel_rfl) (by kernel_rfl) (fun _ _ _ h=>h) (Or.inl ⟨by kernel_rfl,?_⟩) (by assumption) ?_;rotate_left 1;(· intro wx hSw;(try dsimp only at hSw);obtain⟨p0,p1,p2,p3,pk⟩:=SR.cells hSw hkb hK0;go_simp;(try with_reducible rfl)))
  try simp only[Act.put,sA,sB,sC]
  (refine wpAnyH_ready (rs:=[1]) (by kernel_rfl) (by simp) ?_;refine AllReadyH.cons (o:=⟨some 6,_,_,_,_,_⟩) rfl (fun K hK=>?_) AllReadyH.nil;go_simp;(go_at_call 122;(with_reducible refine(vcopy_any k n t ks A l c _ HN.out hk hn (SR.kd (by with_reducible assumption) HK.out)).mono ?_);rintro e w1 ⟨A1,l1,c1,rfl,hNw1,hb1⟩;have HN1:=Lib.hid (SR.nw (by with_reducible assumption) hNw1);clear hNw1);go_wp2_with fail;refine hK.out _ _ ?_ (fun hHeld=>?_);(· exact SR.call (by with_reducible assumption) (by with_reducible assumption));clear hK K)
  try simp only[Act.put,sA,sB,sC]
  (refine wpAnyH_take (i:=5) (oi:=⟨some 10,_,_,_,_,_⟩) (v:=?_) rfl (by kernel_rfl) (by kernel_rfl) (by kernel_rfl) (fun _ _ _ h=>h) (Or.inl ⟨by kernel_rfl,?_⟩) (by assumption) ?_;rotate_left 1;(· intro wx hSw;(try dsimp only at hSw);obtain⟨p0,p1,p2,p3,pk⟩:=SR.cells hSw hkb hK0;go_simp;(try with_reducible rfl)))
  try simp only[Act.put,sA,sB,sC]
  (refine wpAnyH_take (i:=6) (oi:=⟨some 11,_,_,_,_,_⟩) (v:=?_) rfl (by kernel_rfl) (by kernel_rfl) (by kernel_rfl) (fun _ _ _ h=>h) (Or.inl ⟨by kernel_rfl,?_⟩) (by assumption) ?_;rotate_left 1;(· intro wx hSw;(try dsimp only at hSw);obtain⟨p0,p1,p2,p3,pk⟩:=SR.cells hSw hkb hK0;go_simp;(try with_reducible rfl)))
  try simp only[Act.put,sA,sB,sC]
  (refine wpAnyH_take (i:=7) (oi:=⟨some 12,_,_,_,_,_⟩) (v:=?_) rfl (by kernel_rfl) (by kernel_rfl) (by kernel_rfl) (fun _ _ _ h=>h) (Or.inl ⟨by kernel_rfl,?_⟩) (by assumption) ?_;rotate_left 1;(· intro wx hSw;(try dsimp only at hSw);obtain⟨p0,p1,p2,p3,pk⟩:=SR.cells hSw hkb hK0;go_simp;(try with_reducible rfl)))
  try simp only[Act.put,sA,sB,sC]
  (refine wpAnyH_take (i:=8) (oi:=⟨some 13,_,_,_,_,_⟩) (v:=?_) rfl (by kernel_rfl) (by kernel_rfl) (by kernel_rfl) (fun _ _ _ h=>h) (Or.inl ⟨by kernel_rfl,?_⟩) (by assumption) ?_;rotate_left 1;(· intro wx hSw;(try dsimp only at hSw);obtain⟨p0,p1,p2,p3,pk⟩:=SR.cells hSw hkb hK0;go_simp;(try with_reducible rfl)))
  try simp only[Act.put,sA,sB,sC]
  (refine wpAnyH_ready (rs:=[9]) (by kernel_rfl) (by simp) ?_;refine AllReadyH.cons (o:=⟨some 14,_,_,_,_,_⟩) rfl (fun K hK=>?_) AllReadyH.nil;go_simp;(go_at_call 145;(with_reducible refine(contains_any (SR.rd (by with_reducible assumption) hB HR.out) hkl).mono ?_);rintro e w2 ⟨rfl,rfl⟩);go_wp2_with fail;refine hK.out _ _ ?_ (fun hHeld=>?_);(· exact(by with_reducible assumption));clear hK K)
  try simp only[Act.put,sA,sB,sC]
  (refine wpAnyH_take (i:=10) (oi:=⟨some 15,_,_,_,_,_⟩) (v:=?_) rfl (by kernel_rfl) (by kernel_rfl) (by kernel_rfl) (fun _ _ _ h=>h) (Or.inl ⟨by kernel_rfl,?_⟩) (by assumption) ?_;rotate_left 1;(· intro wx hSw;(try dsimp only at hSw);obtain⟨p0,p1,p2,p3,pk⟩:=SR.cells hSw hkb hK0;go_simp;(try with_reducible rfl)))
  try simp only[Act.put,sA,sB,sC]
  (refine wpAnyH_ready (rs:=[11]) (by kernel_rfl) (by simp) ?_;refine AllReadyH.cons (o:=⟨none,_,_,_,_,_⟩) rfl (fun K hK=>?_) AllReadyH.nil;go_simp;obtain⟨y0,y1,y2,y3,hb3⟩:=SR.b3 hHeld;obtain⟨d0,d1,d2,d3,df⟩:=hb3.all;go_wp2_with fail;all_goals (obtain⟨y0,y1,y2,y3,hb3⟩:=SR.b3 hHeld;have HBX:=Lib.hid (hb3.set4 (.int .u8 (k:Int)) (.int .u64 (n:Int)) (.string t) (.slice A1 l1 c1));refine hK.out _ _ ?_ (fun hHeld=>?_);(· exact SR.set4 (by with_reducible assumption) _ _ _ _);clear hK K))
  try simp only[Act.put,sA,sB,sC]
  all_goals (refine wpAnyH_take (i:=12) (oi:=⟨some 4,_,_,_,_,_⟩) (v:=?_) rfl (by kernel_rfl) (by kernel_rfl) (by kernel_rfl) (fun _ _ _ h=>h) (Or.inl ⟨by kernel_rfl,?_⟩) (by assumption) ?_;rotate_left 1;(· intro wx hSw;(try dsimp only at hSw);obtain⟨p0,p1,p2,p3,pk⟩:=SR.cells hSw hkb hK0;go_simp;(try with_reducible rfl)))
  try simp only[Act.put,sA,sB,sC]
  all_goals refine wpAnyH_done (by kernel_rfl) ?_ _
  all_goals
   obtain⟨f0,f1,f2,f3,_⟩:=HBX.out.all;go_wp2_with fail;refine bodyPost_ret (v:=.tuple #[.agg #[.int .u8 (k:Int),.int .u64 (n:Int),.string t,.slice A1 l1 c1],.bool (decide (k∈L))]) (by simp[results,Tryz.results144,go_sem,f0,f1,f2,f3]) rfl ?_;exact⟨A1,l1,c1,rfl,(HN1.out.far4 (by omega) _ _ _ _).less (by omega),hHeld.low⟩
end Go.Proofs.YtcilmmdmkpnppaaGreatDoor.Fl
end
section
namespace Go.Proofs.YtcilmmdmkpnppaaGreatDoor.Fl
set_option maxRecDepth 100000
open Go.RowKit Utf Val V
section
variable {B B':Nat} {w w1:World} {A:Option Addr} {n c:Nat} {ts:List ByteArray}
end
theorem kid1 {w:World}{k n:Nat}{t:ByteArray}{ks:List V}{A:Option Addr}{l c:Nat}(hk:k < 256)(hn:n < 18446744073709551616)(hK:Kd w ks A l c):Kd (w.alloc (.cells #[.int .u8 k,.int .u64 n,.string t,.slice A l c] 44)) [.mk k n t ks] (some ⟨w.heap.size,0,none⟩) 1 1:=by
 refine⟨rfl,Nat.le_refl _,fun _=>⟨w.heap.size,0,rfl,by simp,fun h=>(by cases h),?_⟩⟩;exact⟨repV_iff.2 ⟨A,l,c,by simp,by simp,by simp,by simp,hk,hn,hK.alloc _⟩,trivial⟩
end Go.Proofs.YtcilmmdmkpnppaaGreatDoor.Fl
end
section
namespace Go.Proofs.YtcilmmdmkpnppaaGreatDoor.Fl
set_option maxRecDepth 100000
open Go.RowKit Utf Val V
theorem GivesF.back {T:TypeId}{X:Nat→Prop}{g:Nat}{ls:List V}{A:Option Addr}{l c:Nat}{Q Q':Value→World→Prop}{sp:Bool}{w w1 w':World}{e:Ending}(h:GivesF T X g ls A l c Q sp w1 e w')(hb:Below w.heap.size w w1)(hq:∀ r,Q r w'→Q' r w'):GivesF T X g ls A l c Q' sp w e w':=by
 obtain⟨r,h1,h2,h3,h4⟩:=h;exact⟨r,h1,hq r h2,(Off.of _ hb).trans h3,h4⟩
def oneR {α:Type}(ls:List V)(i:Int)(kind:Nat)(must sp:Bool)(z:α)(f:V→α):α×Bool:=
 match ask ls i with
 | none=>(z,sp||must)
 | some v=>if v.kind=kind then (f v,sp) else (z,true)
section
variable {α:Type} {ls:List V} {i:Int} {kind:Nat} {must sp:Bool} {z:α} {f:V→α} {v:V}
theorem oneR_none (h:ask ls i=none):oneR ls i kind must sp z f=(z,sp||must):=by unfold oneR;rw[h]
theorem oneR_yes (h:ask ls i=some v)(hk:v.kind=kind):oneR ls i kind must sp z f=(f v,sp):=by unfold oneR;rw[h];exact if_pos hk
theorem oneR_no (h:ask ls i=some v)(hk:¬ v.kind=kind):oneR ls i kind must sp z f=(z,true):=by unfold oneR;rw[h];exact if_neg hk
end
theorem number_any {X:Nat→Prop}{w:World}{g:Nat}{ls:List V}{A:Option Addr}{l c:Nat}{sp sp':Bool}(h:Fld 167 X w g ls A l c sp)(i:Int)(kind:Nat)(must:Bool)(z:Nat)(N:Nat)(hq:oneR ls i kind must sp z V.num=(N,sp')) :
  Calls Tryz.prog 109 #[.pointer (some ⟨g,0,none⟩),.int .i64 i,.int .u8 (kind:Int),.bool must,.int .u64 (z:Int)] w (GivesF 167 X g ls A l c (fun r _=>r=.int .u64 (N:Int)) sp' w):=by
 have hB:Below w.heap.size w (w.alloc (.cells #[.int .u8 (kind:Int)] 5)):=(Below.refl _ _).alloc (Nat.le_refl _) _;have hkc:(w.alloc (.cells #[.int .u8 (kind:Int)] 5)).cell? ⟨w.heap.size,0,none⟩=some (.int .u8 (kind:Int)):=by simp
 have hs:w.heap.size < (w.alloc (.cells #[.int .u8 (kind:Int)] 5)).heap.size:=by simp
 have HA:Calls Tryz.prog 146 #[.pointer (some ⟨g,0,none⟩),.int .i64 i,.bool must,.int .u64 (z:Int),.func (.func 147) #[] #[.pointer (some ⟨w.heap.size,0,none⟩)]] (w.alloc (.cells #[.int .u8 (kind:Int)] 5)) (GivesF 167 X g ls A l c (fun r _=>r=.int .u64 (N:Int)) sp' (w.alloc (.cells #[.int .u8 (kind:Int)] 5))):=by
  cases ha:ask ls i with
  | none=>
   rw[oneR_none ha] at hq;injection hq with e1 e2
   subst e1;subst e2;exact askU_none (h.call hB) i must z ha _
  | some v=>
   obtain⟨k,n,t,ks⟩:=v;by_cases hk:k=kind
   ·rw[oneR_yes ha hk] at hq;injection hq with e1 e2
    subst e1;subst e2;refine(askU_yes (Q:=fun r _=>r=.int .u64 (n:Int)) (h.call hB) i must z ha w.heap.size fun A' l' c' w' hb _ _ _=>number1_any k n t A' l' c' w.heap.size kind w' ((hb.cell (p:=⟨w.heap.size,0,none⟩) hs).trans hkc) (Nat.lt_of_lt_of_le hs hb.size) true (decide_eq_true hk))
   ·rw[oneR_no ha hk] at hq;injection hq with e1 e2
    subst e1;subst e2;refine(askU_no (Q:=fun r _=>r=.int .u64 (n:Int)) (h.call hB) i must z ha w.heap.size fun A' l' c' w' hb _ _ _=>number1_any k n t A' l' c' w.heap.size kind w' ((hb.cell (p:=⟨w.heap.size,0,none⟩) hs).trans hkc) (Nat.lt_of_lt_of_le hs hb.size) false (decide_eq_false hk))
 have HH:=Lib.hid HA;have HB:=Lib.hid hB;clear HA hB hkc hs h hq;go_enter Tryz.func109,Tryz.ntmps109;go_wp2_with fail;refine HH.out.mono ?_;rintro e w1 hF;obtain⟨r,rfl,rfl,_⟩:=id hF;have HF:=Lib.hid (hF.back (Q':=fun r _=>r=.int .u64 (N:Int)) HB.out fun r hr=>hr);clear hF;go_wp2;go_ret;exact HF.out
end Go.Proofs.YtcilmmdmkpnppaaGreatDoor.Fl
end
section
namespace Go.Proofs.YtcilmmdmkpnppaaGreatDoor.Fl
set_option maxRecDepth 100000
open Go.RowKit Utf Val V
def nullV:V:=.mk 1 0 ⟨#[]⟩ []
def valR (ls:List V)(i:Int)(L:List Nat)(sp:Bool):V×Bool:=
 match ask ls i with
 | none=>(nullV,sp)
 | some v=>if fitsB L v.kind=true then (v,sp) else (nullV,true)
theorem valR_none {ls:List V}{i:Int}{L:List Nat}{sp:Bool}(h:ask ls i=none):valR ls i L sp=(nullV,sp):=by unfold valR;rw[h]
theorem valR_yes {ls:List V}{i:Int}{L:List Nat}{sp:Bool}{v:V}(h:ask ls i=some v)(hk:fitsB L v.kind=true):valR ls i L sp=(v,sp):=by unfold valR;rw[h];exact if_pos hk
theorem valR_no {ls:List V}{i:Int}{L:List Nat}{sp:Bool}{v:V}(h:ask ls i=some v)(hk:fitsB L v.kind=false):valR ls i L sp=(nullV,true):=by unfold valR;rw[h];exact if_neg (by rw[hk];exact Bool.false_ne_true)
structure Kinds (w:World) (KA:Option Addr) (kl:Nat) (L:List Nat):Prop where
 rd:Rd .u8 256 w w.heap.size KA kl L
 lim:kl≤1099511627776
theorem Kinds.call {w w1:World}{KA:Option Addr}{kl:Nat}{L:List Nat}(h:Kinds w KA kl L)(hb:Below w.heap.size w w1):Kinds w1 KA kl L:=⟨h.rd.call hb,h.lim⟩
theorem askV_all {X:Nat→Prop}{w:World}{g:Nat}{ls:List V}{A:Option Addr}{l c:Nat}{sp sp':Bool}{k n:Nat}{t:ByteArray}{ks:List V}{KA:Option Addr}{kl kc kb:Nat}{L:List Nat}(h:Fld 167 X w g ls A l c sp)(hK:Kinds w KA kl L)(hkb:w.cell? ⟨kb,0,none⟩=some (.slice KA kl kc))(hkl:kb < w.heap.size)(i:Int)(hN:bulkL ls≤1073741824)(hq:valR ls i L sp=(.mk k n t ks,sp')) :
  Calls Tryz.prog 143 #[.pointer (some ⟨g,0,none⟩),.int .i64 i,.bool false,.agg #[.int .u8 1,.int .u64 0,.string ⟨#[]⟩,.slice none 0 0],.func (.func 144) #[] #[.pointer (some ⟨kb,0,none⟩)]] w (GivesF 167 X g ls A l c (QV w.heap.size k n t ks) sp' w):=by
 cases ha:ask ls i with
 | none=>
  rw[valR_none ha] at hq;injection hq with e1 e2
  unfold nullV at e1;injection e1 with q1 q2 q3 q4
  subst q1;subst q2;subst q3;subst q4;subst e2;have:=askV_none h i false ha kb;rw[Bool.or_false] at this;exact this
 | some v=>
  obtain⟨k',n',t',ks'⟩:=v;have hbk:=ask_bulk ha;simp only[bulk] at hbk;cases hk:fitsB L (V.mk k' n' t' ks').kind with
  | true=>
   rw[valR_yes ha hk] at hq;injection hq with e1 e2
   injection e1 with q1 q2 q3 q4
   subst q1;subst q2;subst q3;subst q4;subst e2;exact askV_yes h i false ha kb fun A' l' c' w' hb hKd hkk hnn=>value1_any k' n' t' ks' A' l' c' kb KA kl kc w.heap.size L w' ((hb.cell (p:=⟨kb,0,none⟩) hkl).trans hkb) (Nat.lt_of_lt_of_le hkl hb.size) (hK.rd.below hb) hb.size hK.lim (by omega) hkk hnn hKd true hk
  | false=>
   rw[valR_no ha hk] at hq;injection hq with e1 e2
   unfold nullV at e1;injection e1 with q1 q2 q3 q4
   subst q1;subst q2;subst q3;subst q4;subst e2;exact askV_no h i false ha kb fun A' l' c' w' hb hKd hkk hnn=>value1_any k' n' t' ks' A' l' c' kb KA kl kc w.heap.size L w' ((hb.cell (p:=⟨kb,0,none⟩) hkl).trans hkb) (Nat.lt_of_lt_of_le hkl hb.size) (hK.rd.below hb) hb.size hK.lim (by omega) hkk hnn hKd false hk
theorem fvalue_any {X:Nat→Prop}{w:World}{g:Nat}{ls:List V}{A:Option Addr}{l c:Nat}{sp sp':Bool}{k n:Nat}{t:ByteArray}{ks:List V}{KA:Option Addr}{kl kc:Nat}{L:List Nat}(h:Fld 167 X w g ls A l c sp)(hK:Kinds w KA kl L)(i:Int)(hN:bulkL ls≤1073741824)(hq:valR ls i L sp=(.mk k n t ks,sp')) :
  Calls Tryz.prog 108 #[.pointer (some ⟨g,0,none⟩),.int .i64 i,.slice KA kl kc] w (GivesF 167 X g ls A l c (QV w.heap.size k n t ks) sp' w):=by
 have hB:Below w.heap.size w ((w.alloc (.cells #[.slice KA kl kc] 23)).alloc (.cells #[.int .u8 0,.int .u64 0,.string ⟨#[]⟩,.slice none 0 0] 44)):=two_boxes w _ _;have hkb:((w.alloc (.cells #[.slice KA kl kc] 23)).alloc (.cells #[.int .u8 0,.int .u64 0,.string ⟨#[]⟩,.slice none 0 0] 44)).cell? ⟨w.heap.size,0,none⟩=some (.slice KA kl kc):=by simp
 have hbx:=Box.new2 w (.cells #[.slice KA kl kc] 23) (.int .u8 0) (.int .u64 0) (.string ⟨#[]⟩) (.slice none 0 0);have hF0:=h.call hB;have hK0:=hK.call hB;have hsz:w.heap.size < ((w.alloc (.cells #[.slice KA kl kc] 23)).alloc (.cells #[.int .u8 0,.int .u64 0,.string ⟨#[]⟩,.slice none 0 0] 44)).heap.size:=by simp;omega
 have HB:=Lib.hid hB;have HF:=Lib.hid h;have HBX:=Lib.hid hbx;have HA:=Lib.hid (fun w1 (hb1:Below _ _ w1)=>askV_all (hF0.call hb1) (hK0.call hb1) ((hb1.cell (p:=⟨w.heap.size,0,none⟩) hsz).trans hkb) (Nat.lt_of_lt_of_le hsz hb1.size) i hN hq);clear hB hkb hbx hF0 hK0 hsz h hK hq hN;go_enter Tryz.func108,Tryz.ntmps108;go_wp2_with fail;refine(nul_new _).mono ?_;rintro e w1 ⟨rfl,hb1⟩;have HA1:=Lib.hid (HA.out w1 hb1);have HB1:=Lib.hid (below_next HB.out hb1);have HBX1:=Lib.hid (HBX.out.call hb1);clear hb1 HA HBX;go_wp2_with fail;refine HA1.out.mono ?_;rintro e w2 ⟨r,rfl,⟨A2,l2,c2,rfl,hN2⟩,ho,hF2⟩;have hgl:=HF.out.lt;have hbx2:=Box.off HBX1.out ho (show ¬ (w.heap.size+1=g) by omega);obtain⟨f0,f1,f2,f3,ff⟩:=hbx2.all;have HN2:=Lib.hid (hN2.less (B':=w.heap.size+2) (by have:=HBX1.out.lt;omega));have HO2:=Lib.hid ((Off.of _ HB1.out).trans ho);have HF2:=Lib.hid hF2.obj;have HGL:=Lib.hid hgl;clear ho hF2 hN2 hbx2 hgl;go_wp2;refine bodyPost_ret (v:=.agg #[.int .u8 (k:Int),.int .u64 (n:Int),.string t,.slice A2 l2 c2]) (by simp[results,Tryz.results108,go_sem,f0,f1,f2,f3]) rfl ?_;have ho:=Off.set4 HO2.out (g:=w.heap.size+1) (by omega) (.int .u8 (k:Int)) (.int .u64 (n:Int)) (.string t) (.slice A2 l2 c2);exact⟨_,rfl,⟨A2,l2,c2,rfl,(HN2.out.far4 (by omega) _ _ _ _).less (by omega)⟩,ho,HF.out.fin ho (obj_far4 HF2.out (by have:=HGL.out;omega) _ _ _ _)⟩
end Go.Proofs.YtcilmmdmkpnppaaGreatDoor.Fl
end
section
namespace Go.Proofs.YtcilmmdmkpnppaaGreatDoor.Fl
set_option maxRecDepth 100000
open Go.RowKit Utf Val V
def nulAt (ls:List V)(n:Nat):Bool:=match ls[n]? with | some v=>decide (v.kind=1) | none=>false
def cutN (ls:List V):Nat→Nat
 | 0=>0
 | n+1=>if nulAt ls n=true then cutN ls n else n+1
def trim (ls:List V):List V:=ls.take (cutN ls ls.length)
theorem cutN_null {ls:List V}{i k n:Nat}{t:ByteArray}{ks:List V}(hx:ls[i]? = some (.mk k n t ks))(hk:k=1):cutN ls (i+1)=cutN ls i:=by
 show (if nulAt ls i=true then _ else _)=_
 rw[if_pos (by unfold nulAt;rw[hx];exact decide_eq_true hk)]
theorem cutN_some {ls:List V}{i k n:Nat}{t:ByteArray}{ks:List V}(hx:ls[i]? = some (.mk k n t ks))(hk:¬ k=1):cutN ls (i+1)=i+1:=by
 show (if nulAt ls i=true then _ else _)=_
 rw[if_neg (by unfold nulAt;rw[hx];exact fun h=>hk (of_decide_eq_true h))]
theorem rowL_take {own:Bool}{w:World}{P:Nat→Prop}:∀ {ks:List V} {b o j:Nat},RowL own w P ks b o→RowL own w P (ks.take j) b o
 | [],_,_,_,_=>by simp[RowL]
 | _::_,_,_,0,_=>trivial
 | x::ks,b,o,j+1,h=>⟨h.1,rowL_take h.2⟩
theorem kids_take {own:Bool}{w:World}{P:Nat→Prop}{ks:List V}{A:Option Addr}{l c j:Nat}(h:Val.Kids own w P ks A l c)(hj:j≤l):Val.Kids own w P (ks.take j) A j c:=by
 refine⟨by rw[List.length_take,←h.len];omega,Nat.le_trans hj h.cap,fun h0=>?_⟩;obtain⟨b,o,e,hP,ho,hr⟩:=h.2.2 (by omega);exact⟨b,o,e,hP,ho,rowL_take hr⟩
theorem bulk_take:∀ (ks:List V) (j:Nat),bulkL (ks.take j)≤bulkL ks
 | [],_=>by simp
 | _::_,0=>by simp[bulkL]
 | x::ks,j+1=>by
  have:=bulk_take ks j;simp only[List.take_succ_cons,bulkL];omega
theorem bycode_any (code:Nat)(w:World):Calls Tryz.prog 47 #[.int .u64 (code:Int)] w fun e w'=>e=.returned (.agg #[.int .u8 6,.int .u64 (code:Int),.string ⟨#[]⟩,.slice none 0 0])∧Below w.heap.size w w':=by
 have hb0:Below w.heap.size w (w.alloc (.cells #[.int .u8 0,.int .u64 0,.string ⟨#[]⟩,.slice none 0 0] 44)):=(Below.refl _ _).alloc (Nat.le_refl _) _;have hx:=Box.new w (.int .u8 0) (.int .u64 0) (.string ⟨#[]⟩) (.slice none 0 0);have hnum:∀ w,Calls Tryz.prog 20 #[.int .u8 6,.int .u64 (code:Int)] w fun e w'=>e=.returned (.agg #[.int .u8 6,.int .u64 (code:Int),.string ⟨#[]⟩,.slice none 0 0])∧Below w.heap.size w w':=fun w=>Val.number_any 6 code w;go_enter Tryz.func47,Tryz.ntmps47;go_wp2_with fail;refine(hnum _).mono ?_;rintro e w1 ⟨rfl,hb1⟩;obtain⟨d0,d1,d2,d3,df⟩:=(hx.call hb1).all;have HB:=Lib.hid (below_next hb0 hb1);clear hx hb0 hb1 hnum;go_wp2;refine bodyPost_ret (v:=.agg #[.int .u8 6,.int .u64 (code:Int),.string ⟨#[]⟩,.slice none 0 0]) (by simp[results,Tryz.results47,go_sem,d0,d1,d2,d3]) rfl ?_;exact⟨rfl,below_set4 HB.out (by omega) _ _ _ _⟩
def putL (code:Nat)(ks:List V):List V:=[.mk 6 code ⟨#[]⟩ [],.mk 22 0 ⟨#[]⟩ ks]
def GivesU (code:Nat)(ks:List V)(w:World)(e:Ending)(w':World):Prop:=∃ A1 l1 c1,e=.returned (.agg #[.int .u8 25,.int .u64 0,.string ⟨#[]⟩,.slice A1 l1 c1])∧Nw w.heap.size w' (putL code ks) A1 l1 c1∧Below w.heap.size w w'
theorem desc_put (code:Nat)(ks:List V)(A:Option Addr)(l c:Nat)(w:World)(hN:bulkL ks≤536870912)(hcode:code < 18446744073709551616)(hK:Kd w ks A l c) :
  Calls Tryz.prog 46 #[.agg #[.int .u8 6,.int .u64 (code:Int),.string ⟨#[]⟩,.slice none 0 0],.agg #[.int .u8 22,.int .u64 0,.string ⟨#[]⟩,.slice A l c]] w (GivesU code ks w):=
 vdesc_any 6 code ⟨#[]⟩ [] none 0 0 22 0 ⟨#[]⟩ ks A l c w (by simp only[bulkL,bulk,ByteArray.size];simp;omega) (by omega) hcode (by omega) (by omega) (Kd.none_ _ _ _) hK
set_option maxHeartbeats 1000000 in
theorem put_any (code:Nat)(ls:List V)(A:Option Addr)(l c:Nat)(w:World)(hN:bulkL ls≤536870912)(hcode:code < 18446744073709551616)(hK:Kd w ls A l c) :
  Calls Tryz.prog 21 #[.int .u64 (code:Int),.slice A l c] w (GivesU code (trim ls) w):=by
 have hx:=Box.new w (.int .u8 0) (.int .u64 0) (.string ⟨#[]⟩) (.slice none 0 0);have hb0:Below w.heap.size w (w.alloc (.cells #[.int .u8 0,.int .u64 0,.string ⟨#[]⟩,.slice none 0 0] 44)):=(Below.refl _ _).alloc (Nat.le_refl _) _;have HT:=Lib.hid (show trim ls=ls.take (cutN ls l) by unfold trim;rw[hK.len]);have HCUT:=Lib.hid (fun(n j:Nat) (h1:j≤n) (h2:n≤l)=>(cut_top (T:=42) (e:=44) (size:=4) Tryz.underlying42 rfl rfl A n c j h1 (Nat.le_trans h2 hK.cap)));have hlb:=length_bulk ls;have hlen:=hK.len;have HL:=Lib.hid (show l≤536870912 by omega);have HN:=Lib.hid hN;have HC:=Lib.hid hcode;have HK:=Lib.hid (hK.call hb0);have HX:=Lib.hid hx;have HB:=Lib.hid hb0;have hcap:=Lib.hid hK.cap;clear hN hcode hK hx hb0 hlb hlen;go_enter Tryz.func21,Tryz.ntmps21;go_wp2;obtain⟨W,hW⟩:∃ W,w.alloc (.cells #[.int .u8 0,.int .u64 0,.string ⟨#[]⟩,.slice none 0 0] 44)=W:=⟨_,rfl⟩;have HWK:Hid (Kd W ls A l c):=Lib.hid (hW▸HK.out);have HWB:Hid (Below w.heap.size w W):=Lib.hid (hW▸HB.out);have HWX:Hid (Box W w.heap.size (.int .u8 0) (.int .u64 0) (.string ⟨#[]⟩) (.slice none 0 0)):=Lib.hid (hW▸HX.out);clear HK HB HX;rw[hW];clear hW;go_loopw [1] (fun s wr=>∃ j:Nat,j≤l∧s=.slice A j c∧cutN ls j=cutN ls l∧Below W.heap.size W wr) (fun s _=>match s with | .slice _ n _=>n | _=>0)
 case atStart=>exact⟨l,Nat.le_refl _,rfl,rfl,Below.refl _ _⟩
 case round=>
  obtain⟨j,hj,rfl,hq,hb⟩:=hrel;have HQ:=Lib.hid hq;have HBW:=Lib.hid hb;have hL:=HL.out;cases j with
  | zero=>
   clear hq hb;have HKJ:=Lib.hid (kids_take (HWK.out.call HBW.out) hj);have HE:Hid (ls.take 0=trim ls):=Lib.hid (by rw[HT.out,←HQ.out];rfl);go_wp2_with (first
     | (go_at_call 47;refine(bycode_any code _).mono ?_;rintro e w2 ⟨rfl,hb2⟩;have HB2:=Lib.hid hb2)
     | (go_at_call 46;refine(desc_put code _ _ _ _ _ (by have:=HN.out;have:=bulk_take ls 0;omega) HC.out (Kd.call HKJ.out HB2.out)).mono ?_;rintro e w3 ⟨A1,l1,c1,rfl,hN3,hb3⟩;have HN3:=Lib.hid hN3;have HB3:=Lib.hid (HWB.out.trans ((below_next HBW.out (below_next HB2.out hb3)).mono HWB.out.size));obtain⟨d0,d1,d2,d3,df⟩:=(HWX.out.call (below_next HBW.out (below_next HB2.out hb3))).all))
   refine bodyPost_ret (v:=.agg #[.int .u8 25,.int .u64 0,.string ⟨#[]⟩,.slice A1 l1 c1]) (by simp[results,Tryz.results21,go_sem,d0,d1,d2,d3]) rfl ?_;exact⟨A1,l1,c1,rfl,by rw[←HE.out];exact(HN3.out.far4 (by have:=HWX.out.lt;have:=HBW.out.size;have:=HB2.out.size;omega) _ _ _ _).less (by have:=HWB.out.size;have:=HBW.out.size;have:=HB2.out.size;omega),below_set4 HB3.out (by omega) _ _ _ _⟩
  | succ i=>
   obtain⟨bb,oo,k',n',t',ks',A',l',c',hAA,hb',hx,h0,h1,h2,h3,hk',hn',hK'⟩:=(HWK.out.call hb).at_ (i:=i) (by omega);subst hAA;have HX:=Lib.hid hx;have hHN:=isnull_any k' n' t' A' l' c' wr;by_cases hk1:k'=1
   ·rw[decide_eq_true hk1] at hHN;have HHN:=Lib.hid hHN;have HE:Hid (cutN ls i=cutN ls l):=Lib.hid (by rw[←HQ.out,cutN_null HX.out hk1]);have hct:=(HCUT.out (i+1) i (by omega) hj).1;have hct2:=(HCUT.out (i+1) i (by omega) hj).2;clear hq hb hx hHN hk1 hK';go_wp2_with (go_at_call 45;refine HHN.out.mono ?_;rintro e w1 ⟨rfl,hb1⟩);go_roundw
    case rel=>exact⟨i,by omega,rfl,HE.out,HBW.out.trans (hb1.mono HBW.out.size)⟩
    case measure=>simp
   ·rw[decide_eq_false hk1] at hHN;have HHN:=Lib.hid hHN;have HE:Hid (ls.take (i+1)=trim ls):=Lib.hid (by rw[HT.out,←HQ.out,cutN_some HX.out hk1]);have HKJ:=Lib.hid (kids_take (HWK.out.call HBW.out) hj);clear hq hb hx hHN hk1 hK';go_wp2_with (first
     | (go_at_call 45;refine HHN.out.mono ?_;rintro e w1 ⟨rfl,hb1⟩;have HB1:=Lib.hid hb1)
     | (go_at_call 47;refine(bycode_any code _).mono ?_;rintro e w2 ⟨rfl,hb2⟩;have HB2:=Lib.hid (below_next HB1.out hb2))
     | (go_at_call 46;refine(desc_put code _ _ _ _ _ (by have:=HN.out;have:=bulk_take ls (i+1);omega) HC.out (Kd.call HKJ.out HB2.out)).mono ?_;rintro e w3 ⟨A1,l1,c1,rfl,hN3,hb3⟩;have HN3:=Lib.hid hN3;have HB3:=Lib.hid (HWB.out.trans ((below_next HBW.out (below_next HB2.out hb3)).mono HWB.out.size));obtain⟨d0,d1,d2,d3,df⟩:=(HWX.out.call (below_next HBW.out (below_next HB2.out hb3))).all))
    refine bodyPost_ret (v:=.agg #[.int .u8 25,.int .u64 0,.string ⟨#[]⟩,.slice A1 l1 c1]) (by simp[results,Tryz.results21,go_sem,d0,d1,d2,d3]) rfl ?_;exact⟨A1,l1,c1,rfl,by rw[←HE.out];exact(HN3.out.far4 (by have:=HWX.out.lt;have:=HBW.out.size;have:=HB2.out.size;omega) _ _ _ _).less (by have:=HWB.out.size;have:=HBW.out.size;have:=HB2.out.size;omega),below_set4 HB3.out (by omega) _ _ _ _⟩
end Go.Proofs.YtcilmmdmkpnppaaGreatDoor.Fl
end
