/- Contracts, each with its premises. -/
import Derived.Test.YtbbbanfggcediaaGreatDoorY06
set_option maxRecDepth 100000
set_option maxHeartbeats 8000000
namespace Go.Proofs.YtbbbanfggcediaaGreatDoor
open _root_.Go.Proofs.Tryz
open Int renaming toNat_natCast→yb2
open Bool renaming and_eq_true→yb0
open Go.RowKit.Below renaming heap_setCell→ybZ
open Nat renaming lt_of_lt_of_le→ybY,le_trans→yb1
section
open Go Go.RowKit
theorem T2K{P:Program}{md:Region.Mode}{ops:Array Oper}{Q:Exit→Act→World→Prop}{S:World→Prop}(i:Nat)(oi:Oper)(v:Value){fuel:Nat}{listed:Array Bool}{a:Act}{w:World}(hi:ops[i]?=some oi)(hb:(Region.noSelect ops&&(Region.free md ops listed i&&((Region.ready md ops listed).contains i&&Region.wanted oi (yielded ops a.tmps))))=true)(hQ:∀ c a w,Q (.panic c) (a.put oi.dst v) w→Q (.panic c) a w)(hy:∀ w,S w→(execOp a.eval oi).run P w=.ok (.value v) w)(hS:S w)(h:wpAnyH P md ops Q S fuel (listed.setIfInBounds i true) (a.put oi.dst v) w):wpAnyH P md ops Q S (fuel+1) listed a w:=by
 simp only[yb0] at hb
 exact wpAnyH_take hi hb.1 hb.2.1 hb.2.2.1 hQ (Or.inl ⟨hb.2.2.2,hy⟩) hS h
theorem S2K{P:Program}{md:Region.Mode}{ops:Array Oper}{Q:Exit→Act→World→Prop}{S:World→Prop}(i:Nat)(oi:Oper){fuel:Nat}{listed:Array Bool}{a:Act}{w:World}(hi:ops[i]?=some oi)(hb:(Region.noSelect ops&&(Region.free md ops listed i&&((Region.ready md ops listed).contains i&&!Region.wanted oi (yielded ops a.tmps))))=true)(hQ:∀ c a w,Q (.panic c) (a.put oi.dst undef) w→Q (.panic c) a w)(hS:S w)(h:wpAnyH P md ops Q S fuel (listed.setIfInBounds i true) (a.put oi.dst undef) w):wpAnyH P md ops Q S (fuel+1) listed a w:=by
 simp only[yb0,Bool.not_eq_true'] at hb
 exact wpAnyH_take hi hb.1 hb.2.1 hb.2.2.1 hQ (Or.inr ⟨hb.2.2.2,rfl⟩) hS h
end
namespace Fl
open Go.RowKit Utf Val V
structure Off (X:Nat→Prop) (w w':World):Prop where
 os:w'.os=w.os
 tape:w'.tape=w.tape
 output:w'.output=w.output
 size:w.heap.size≤w'.heap.size
 block:∀ i,i < w.heap.size→¬ X i→w'.heap[i]? = w.heap[i]?
section
variable {X Y:Nat→Prop} {w w1 w2:World}
theorem Off.refl (X:Nat→Prop)(w:World):Off X w w:=⟨rfl,rfl,rfl,zab,fun _ _ _=>rfl⟩
theorem Off.trans (h:Off X w w1)(h':Off X w1 w2):Off X w w2:=
 ⟨h'.os.trans h.os,h'.tape.trans h.tape,h'.output.trans h.output,yb1 h.size h'.size,fun i hi hx=>(h'.block i (ybY hi h.size) hx).trans (h.block i hi hx)⟩
theorem Off.mono (h:Off X w w1)(hx:∀ i,X i→Y i):Off Y w w1:=⟨h.os,h.tape,h.output,h.size,fun i hi hn=>h.block i hi fun hX=>hn (hx i hX)⟩
theorem Off.of (X:Nat→Prop)(h:Below w.heap.size w w1):Off X w w1:=⟨h.os,h.tape,h.output,h.size,fun i hi _=>h.block i hi⟩
theorem Off.next (h:Off X w w1)(hb:Below w1.heap.size w1 w2):Off X w w2:=h.trans (Off.of X hb)
theorem Off.below {B:Nat}(h:Off X w w1)(hB:B≤w.heap.size)(hx:∀ i,i < B→¬ X i):Below B w w1:=⟨h.os,h.tape,h.output,h.size,fun i hi=>h.block i (ybY hi hB) (hx i hi)⟩
theorem Off.set (w:World){g:Nat}(j:Nat)(v:Value)(hx:X g):Off X w (w.setCell ⟨g,j,none⟩ v):=⟨rfl,rfl,rfl,by simp,fun i _ hn=>ybZ w ⟨g,j,none⟩ v i (fun e=>hn (e▸hx))⟩
end
structure Fld (T:TypeId) (X:Nat→Prop) (w:World) (g:Nat) (ls:List V) (A:Oz) (l c:Nat) (sp:Bool):Prop where
 obj:w.heap[g]? = some (.cells #[.slice A l c,.bool sp] T (0,0))
 kd:Val.Kids false w (fun i=>i < w.heap.size∧¬ X i) ls A l c
 mem:X g
section
variable {T:TypeId} {X Y:Nat→Prop} {w w1:World} {g:Nat} {ls:List V} {A:Oz} {l c:Nat} {sp:Bool}
theorem Fld.lt (h:Fld T X w g ls A l c sp):g < w.heap.size:=(Array.getElem?_eq_some_iff.1 h.obj).1
theorem Fld.fkd (h:Fld T X w g ls A l c sp):Kd w ls A l c:=h.kd.mono fun _ hi=>hi.1
theorem Fld.off (h:Fld T X w g ls A l c sp)(ho:Off Y w w1)(hY:∀ i,Y i→X i)(hg:¬ Y g):Fld T X w1 g ls A l c sp:=
 ⟨(ho.block g h.lt hg).trans h.obj,(h.kd.keep fun i hi=>ho.block i hi.1 fun hy=>hi.2 (hY i hy)).mono fun _ hi=>⟨ybY hi.1 ho.size,hi.2⟩,h.mem⟩
theorem Fld.call (h:Fld T X w g ls A l c sp)(hb:Below w.heap.size w w1):Fld T X w1 g ls A l c sp:=h.off (Y:=fun _=>False) (Off.of _ hb) (fun _ h=>h.elim) (fun h=>h)
theorem Fld.spoil (h:Fld T X w g ls A l c sp):Fld T X (w.setCell ⟨g,1,none⟩ (.bool true)) g ls A l c true:=by
 refine⟨?_,(h.kd.keep fun i hi=>ybZ w ⟨g,1,none⟩ _ i (fun e=>hi.2 (e▸h.mem))).mono fun _ hi=>⟨by simpa using hi.1,hi.2⟩,h.mem⟩;have:=h.obj;simp[World.setCell,Array.getElem?_modify,this]
theorem Fld.cells (h:Fld T X w g ls A l c sp):w.cell? ⟨g,0,none⟩=some (.slice A l c)∧w.cell? ⟨g,1,none⟩=some (.bool sp)∧∀ j,w.frozen? ⟨g,j,none⟩=false:=by
 refine⟨cell_of_row w g 0 _ _ _ h.obj,cell_of_row w g 1 _ _ _ h.obj,fun j=>?_⟩;simp[World.frozen?,h.obj]
end
def ask (ls:List V)(i:Int):Option V:=if 0≤i then (ls[i.toNat]?).filter (fun v=>v.kind != 1) else none
theorem znP {ls:List V}{i:Int}(h:i < 0):ask ls i=none:=if_neg (by omega)
theorem zjY {ls:List V}{j:Nat}(h:ls.length≤j):ask ls (j:Int)=none:=by
 unfold ask;rw[if_pos (by omega),yb2,List.getElem?_eq_none h];rfl
theorem zeB {ls:List V}{j n:Nat}{t:ByteArray}{ks:List V}(h:ls[j]? = some (.mk 1 n t ks)):ask ls (j:Int)=none:=by
 unfold ask;rw[if_pos (by omega),yb2,h];rfl
theorem zeC {ls:List V}{j k n:Nat}{t:ByteArray}{ks:List V}(h:ls[j]? = some (.mk k n t ks))(hk:k≠1):ask ls (j:Int)=some (.mk k n t ks):=by
 unfold ask;rw[if_pos (by omega),yb2,h];simp[Option.filter,V.kind,hk]
theorem zcY {ls:List V}{i:Int}{v:V}(h:ask ls i=some v):∃ j:Nat,i=(j:Int)∧j < ls.length∧ls[j]? = some v∧v.kind≠1:=by
 unfold ask at h;by_cases hi:0≤i
 ·rw[if_pos hi] at h;obtain⟨h1,h2⟩:=Option.filter_eq_some_iff.1 h;refine⟨i.toNat,by omega,(List.getElem?_eq_some_iff.1 h1).1,h1,by simpa using h2⟩
 ·rw[if_neg hi] at h;cases h
theorem zkQ {ls:List V}{i:Int}{v:V}(h:ask ls i=some v):bulk v≤zai ls:=by
 obtain⟨j,_,_,h,_⟩:=zcY h;exact zcT h
section
variable {T:TypeId} {X:Nat→Prop} {w:World} {g:Nat} {ls:List V} {A:Oz} {l c:Nat} {sp:Bool}
theorem zgX (k n:Nat)(t:ByteArray)(A:Oz)(l c:Nat)(w:World):Calls prog 80 #[.agg #[.int .u8 (k:Int),.int .u64 (n:Int),.string t,.slice A l c]] w (zaj (decide (k=1)) w):=by
 obtain⟨d,hd⟩:∃ d,decide (k=1)=d:=⟨_,rfl⟩;have BP:((k:Int)==1)=d:=by rw[←hd];by_cases h:k=1<;>simp[h]<;>omega
 rw[hd];clear hd;go_enter func80,ntmps80;go_wp2;go_ret;exact⟨rfl,(za _ _)⟩
theorem ze5 (h:Fld 140 X w g ls A l c sp)(i:Int):Calls prog 131 #[.pointer (some ⟨g,0,none⟩),.int .i64 i] w (zaj (ask ls i).isSome w):=by
 obtain⟨a0,a1,_⟩:=h.cells;have hl:=h.fkd.len;by_cases h0:i < 0
 ·rw[znP h0];have hd:decide (0≤i)=false:=decide_eq_false (by omega);clear h0 h hl;go_enter func131,ntmps131;go_wp2;go_ret;exact⟨rfl,Below.refl _ _⟩
 ·obtain⟨j,rfl⟩:∃ j:Nat,i=(j:Int):=⟨i.toNat,by omega⟩;have hd:decide (0≤(j:Int))=true:=decide_eq_true (by omega);by_cases h1:j < l
  ·obtain⟨b,o,k,n,t,ks,A',l',c',rfl,hb,hx,e0,e1,e2,e3,hk,hn,hK⟩:=h.fkd.at_ h1;have hr:(ask ls (j:Int)).isSome = !decide (k=1):=by
    by_cases gF:k=1
    ·subst gF;rw[zeB hx];rfl
    ·rw[zeC hx gF];simp[gF]
   rw[hr];obtain⟨d,JU⟩:∃ d,decide (k=1)=d:=⟨_,rfl⟩;have HN:=zgX k n t A' l' c' w;rw[JU] at HN ⊢;have HH:=zaa HN;clear h0 h hl hr hx JU HN hk hn hK hb;go_enter func131,ntmps131;go_wp2_with (go_at_call 80;refine HH.out.mono ?_;rintro e w1 ⟨rfl,Ha⟩);go_ret;exact⟨rfl,Ha⟩
  ·rw[zjY (by omega)];clear h0 h hl;go_enter func131,ntmps131;go_wp2;go_ret;exact⟨rfl,Below.refl _ _⟩
theorem zcP (h:Fld 140 X w g ls A l c sp):Calls prog 59 #[.pointer (some ⟨g,0,none⟩)] w fun e w'=>(∃ v,e=.returned v)∧w.setCell ⟨g,1,none⟩ (.bool true)=w':=by
 obtain⟨a0,a1,hf⟩:=h.cells;clear h;go_enter func59,ntmps59;go_wp2;go_end0;exact⟨⟨_,rfl⟩,rfl⟩
def zb7 (ls:List V)(sp:Bool)(n:Int):Int:=if sp=true∨n < (ls.length:Int) then 6 else 0
theorem zeD (h:Fld 140 X w g ls A l c sp)(n:Int):Calls prog 60 #[.pointer (some ⟨g,0,none⟩),.int .i64 n] w fun e w'=>e=.returned (.int .i64 (zb7 ls sp n))∧w=w':=by
 obtain⟨a0,a1,hf⟩:=h.cells;unfold zb7;rw[←h.fkd.len];clear h hf;cases sp with
 | true=>
  rw[if_pos (.inl rfl)];go_enter func60,ntmps60;go_wp2;go_ret;exact⟨rfl,rfl⟩
 | false=>
  by_cases hn:n < (l:Int)
  ·rw[if_pos (.inr hn)];have hd:decide (n < (l:Int))=true:=decide_eq_true hn;clear hn;go_enter func60,ntmps60;go_wp2;go_ret;exact⟨rfl,rfl⟩
  ·rw[if_neg (by simp[hn])];have hd:decide (n < (l:Int))=false:=decide_eq_false hn;clear hn;go_enter func60,ntmps60;go_wp2;go_ret;exact⟨rfl,rfl⟩
end
def zaT (Q:Value→World→Prop)(b:Bool)(w:World)(e:Ending)(w':World):Prop:=∃ r,e=.returned (.tuple #[r,.bool b])∧Q r w'∧Below w.heap.size w w'
def zaZ (T:TypeId)(X:Nat→Prop)(g:Nat)(ls:List V)(A:Oz)(l c:Nat)(Q:Value→World→Prop)(sp':Bool)(w:World)(e:Ending)(w':World):Prop:=
 ∃ r,e=.returned r∧Q r w'∧Off (fun i=>i=g) w w'∧Fld T X w' g ls A l c sp'
section
variable {X:Nat→Prop} {w:World} {g:Nat} {ls:List V} {A:Oz} {l c:Nat} {sp:Bool}
theorem znQ (h:Fld 140 X w g ls A l c sp)(i:Int)(must:Bool)(z:Nat)(hq:ask ls i=none)(kb:Nat):
  Calls prog 104 #[.pointer (some ⟨g,0,none⟩),.int .i64 i,.bool must,.int .u64 (z:Int),.func (.func 105) #[] #[.pointer (some ⟨kb,0,none⟩)]] w (zaZ 140 X g ls A l c (fun r _=>r=.int .u64 (z:Int)) (sp||must) w):=by
 have HH:=ze5 h i;rw[hq] at HH;have HF:=zaa h;have HG:=zaa HH;clear hq h HH;cases must with
 | false=>
  rw[Bool.or_false];go_enter func104,ntmps104;go_wp2_with (go_at_call 131;refine HG.out.mono ?_;rintro e w1 ⟨rfl,Ha⟩);go_ret;exact⟨_,rfl,rfl,Off.of _ Ha,HF.out.call Ha⟩
 | true=>
  rw[Bool.or_true];go_enter func104,ntmps104;go_wp2_with (first
   | (go_at_call 131;refine HG.out.mono ?_;rintro e w1 ⟨rfl,Ha⟩;have H1:=zaa (HF.out.call Ha))
   | (go_at_call 59;refine(zcP H1.out).mono ?_;rintro e w2 ⟨⟨v,rfl⟩,rfl⟩))
  go_ret;exact⟨_,rfl,rfl,(Off.of _ Ha).trans (Off.set _ _ _ rfl),H1.out.spoil⟩
theorem zqe {Q:Value→World→Prop}{k n:Nat}{t:ByteArray}{ks:List V}(h:Fld 140 X w g ls A l c sp)(i:Int)(must:Bool)(z:Nat)(hq:ask ls i=some (.mk k n t ks))(kb:Nat)
  (cl:∀ A' l' c' w',Below w.heap.size w w'→Kd w' ks A' l' c'→k < 256→n < 18446744073709551616→Calls prog 105 #[.agg #[.int .u8 (k:Int),.int .u64 (n:Int),.string t,.slice A' l' c'],.pointer (some ⟨kb,0,none⟩)] w' (zaT Q true w')) :
  Calls prog 104 #[.pointer (some ⟨g,0,none⟩),.int .i64 i,.bool must,.int .u64 (z:Int),.func (.func 105) #[] #[.pointer (some ⟨kb,0,none⟩)]] w (zaZ 140 X g ls A l c Q sp w):=by
 obtain⟨j,rfl,hj,hx,_⟩:=zcY hq;have HH:=ze5 h (j:Int);rw[hq] at HH;have hl:=h.fkd.len;have HF:=zaa h;have HG:=zaa HH;have HC:=zaa cl;have HX:=zaa hx;clear hq h HH cl hx;go_enter func104,ntmps104;go_wp2_with (go_at_call 131;refine HG.out.mono ?_;rintro e w1 ⟨rfl,Ha⟩;have H1:=zaa (HF.out.call Ha);obtain⟨a0,a1,_⟩:=H1.out.cells;obtain⟨b,o,k',n',t',ks',A',l',c',rfl,hb,jm,e0,e1,e2,e3,hk,hn,hK⟩:=H1.out.fkd.at_ (i:=j) (by omega);have hv:=HX.out.symm.trans jm;injection hv with hv;injection hv with q1 q2 q3 q4;subst q1;subst q2;subst q3;subst q4;have VD:=zaa (HC.out A' l' c' w1 Ha hK hk hn);have Hl:=zaa Ha;clear HC HG HX jm hK Ha hk hn);refine VD.out.mono ?_;rintro e w2 ⟨r,rfl,hQ,He⟩;have HQ:=zaa hQ;clear hQ;go_wp2;go_ret;exact⟨_,rfl,HQ.out,(Off.of _ Hl.out).next He,H1.out.call He⟩
theorem zsA {Q:Value→World→Prop}{k n:Nat}{t:ByteArray}{ks:List V}(h:Fld 140 X w g ls A l c sp)(i:Int)(must:Bool)(z:Nat)(hq:ask ls i=some (.mk k n t ks))(kb:Nat)
  (cl:∀ A' l' c' w',Below w.heap.size w w'→Kd w' ks A' l' c'→k < 256→n < 18446744073709551616→Calls prog 105 #[.agg #[.int .u8 (k:Int),.int .u64 (n:Int),.string t,.slice A' l' c'],.pointer (some ⟨kb,0,none⟩)] w' (zaT Q false w')) :
  Calls prog 104 #[.pointer (some ⟨g,0,none⟩),.int .i64 i,.bool must,.int .u64 (z:Int),.func (.func 105) #[] #[.pointer (some ⟨kb,0,none⟩)]] w (zaZ 140 X g ls A l c (fun r _=>r=.int .u64 (z:Int)) true w):=by
 obtain⟨j,rfl,hj,hx,_⟩:=zcY hq;have HH:=ze5 h (j:Int);rw[hq] at HH;have hl:=h.fkd.len;have HF:=zaa h;have HG:=zaa HH;have HC:=zaa cl;have HX:=zaa hx;clear hq h HH cl hx;go_enter func104,ntmps104;go_wp2_with (go_at_call 131;refine HG.out.mono ?_;rintro e w1 ⟨rfl,Ha⟩;have H1:=zaa (HF.out.call Ha);obtain⟨a0,a1,_⟩:=H1.out.cells;obtain⟨b,o,k',n',t',ks',A',l',c',rfl,hb,jm,e0,e1,e2,e3,hk,hn,hK⟩:=H1.out.fkd.at_ (i:=j) (by omega);have hv:=HX.out.symm.trans jm;injection hv with hv;injection hv with q1 q2 q3 q4;subst q1;subst q2;subst q3;subst q4;have VD:=zaa (HC.out A' l' c' w1 Ha hK hk hn);have Hl:=zaa Ha;clear HC HG HX jm hK Ha hk hn);refine VD.out.mono ?_;rintro e w2 ⟨r,rfl,_,He⟩;have H2:=zaa (H1.out.call He);clear a0 a1;go_wp2_with (go_at_call 59;refine(zcP H2.out).mono ?_;rintro e w3 ⟨⟨v,rfl⟩,rfl⟩);go_ret;exact⟨_,rfl,rfl,((Off.of _ Hl.out).next He).trans (Off.set _ _ _ rfl),H2.out.spoil⟩
def zjZ (k n:Nat)(t:ByteArray)(ks:List V)(b:Bool)(w:World)(e:Ending)(w':World):Prop:=∃ A2 l2 c2,e=.returned (.tuple #[.agg #[.int .u8 (k:Int),.int .u64 (n:Int),.string t,.slice A2 l2 c2],.bool b])∧Nw w.heap.size w' ks A2 l2 c2∧Below w.heap.size w w'
def QV (B k n:Nat)(t:ByteArray)(ks:List V)(r:Value)(w':World):Prop:=∃ A2 l2 c2,r=.agg #[.int .u8 (k:Int),.int .u64 (n:Int),.string t,.slice A2 l2 c2]∧Nw B w' ks A2 l2 c2
theorem Off.set4 {X:Nat→Prop}{w w1:World}(h:Off X w w1){g:Nat}(hg:w.heap.size≤g)(x y z u:Value):Off X w ((((w1.setCell ⟨g,0,none⟩ x).setCell ⟨g,1,none⟩ y).setCell ⟨g,2,none⟩ z).setCell ⟨g,3,none⟩ u):=
 have k:∀ (v:World) (j:Nat) (q:Value),Off X w v→Off X w (v.setCell ⟨g,j,none⟩ q):=fun v j q hv=>
  ⟨hv.os,hv.tape,hv.output,by simpa using hv.size,fun i hi hx=>(ybZ v ⟨g,j,none⟩ q i (by simp;omega)).trans (hv.block i hi hx)⟩
 k _ _ _ (k _ _ _ (k _ _ _ (k _ _ _ h)))
theorem Fld.fin {T:TypeId}{w':World}{sp':Bool}(h:Fld T X w g ls A l c sp)(ho:Off (fun i=>i=g) w w')(Cy:w'.heap[g]? = some (.cells #[.slice A l c,.bool sp'] T (0,0))):Fld T X w' g ls A l c sp':=
 ⟨Cy,(h.kd.keep fun i hi=>ho.block i hi.1 fun e=>hi.2 (e▸h.mem)).mono fun _ hi=>⟨ybY hi.1 ho.size,hi.2⟩,h.mem⟩
theorem zeE {T:TypeId}{g g0:Nat}{A:Oz}{l c:Nat}{sp:Bool}{w:World}(h:w.heap[g]? = some (.cells #[.slice A l c,.bool sp] T (0,0)))(hg:g≠g0)(x y z u:Value) :
  ((((w.setCell ⟨g0,0,none⟩ x).setCell ⟨g0,1,none⟩ y).setCell ⟨g0,2,none⟩ z).setCell ⟨g0,3,none⟩ u).heap[g]? = some (.cells #[.slice A l c,.bool sp] T (0,0)):=
 have k:∀ (v:World) (j:Nat) (q:Value),v.heap[g]? = some (.cells #[.slice A l c,.bool sp] T (0,0))→(v.setCell ⟨g0,j,none⟩ q).heap[g]? = some (.cells #[.slice A l c,.bool sp] T (0,0)):=fun v j q hv=>(ybZ v ⟨g0,j,none⟩ q g hg).trans hv
 k _ _ _ (k _ _ _ (k _ _ _ (k _ _ _ h)))
theorem Box.off {X:Nat→Prop}{w w':World}{g:Nat}{x0 x1 x2 x3:Value}(h:Box w g x0 x1 x2 x3)(ho:Off X w w')(hX:¬ X g):Box w' g x0 x1 x2 x3:=(ho.block g h.lt hX).trans h
theorem boxes2 (w:World)(x0 x1 x2 x3 y0 y1 y2 y3:Value):Box ((w.alloc (.cells #[x0,x1,x2,x3] 43)).alloc (.cells #[y0,y1,y2,y3] 43)) w.heap.size x0 x1 x2 x3∧Box ((w.alloc (.cells #[x0,x1,x2,x3] 43)).alloc (.cells #[y0,y1,y2,y3] 43)) (w.heap.size+1) y0 y1 y2 y3 ∧
  Below w.heap.size w ((w.alloc (.cells #[x0,x1,x2,x3] 43)).alloc (.cells #[y0,y1,y2,y3] 43)):=⟨(Box.new w _ _ _ _).alloc _,Box.new2 w _ _ _ _ _,zaw w _ _⟩
structure SV (X:Nat→Prop) (w wi:World) (g:Nat) (ls:List V) (A:Oz) (l c:Nat) (sp:Bool):Prop where
 fld:Fld 140 X wi g ls A l c sp
 off:Off (fun i=>i=g) w wi
 b8:Box wi w.heap.size (.int .u8 1) (.int .u64 0) (.string ⟨#[]⟩) (.slice none 0 0)
 b10:Box wi (w.heap.size+1) (.int .u8 0) (.int .u64 0) (.string ⟨#[]⟩) (.slice none 0 0)
 lt:g < w.heap.size
theorem SV.call {w wi w':World}{g:Nat}{ls:List V}{A:Oz}{l c:Nat}{sp:Bool}(h:SV X w wi g ls A l c sp)(hb:Below wi.heap.size wi w'):SV X w w' g ls A l c sp:=⟨h.fld.call hb,h.off.next hb,h.b8.call hb,h.b10.call hb,h.lt⟩
theorem SV.spoil {w wi:World}{g:Nat}{ls:List V}{A:Oz}{l c:Nat}{sp:Bool}(h:SV X w wi g ls A l c sp):SV X w (wi.setCell ⟨g,1,none⟩ (.bool true)) g ls A l c true:=
 ⟨h.fld.spoil,h.off.trans (Off.set _ _ _ rfl),h.b8.far (by have:=h.lt;simp;omega) _,h.b10.far (by have:=h.lt;simp;omega) _,h.lt⟩
theorem SV.all {w wi:World}{g:Nat}{ls:List V}{A:Oz}{l c:Nat}{sp:Bool}(h:SV X w wi g ls A l c sp):wi.cell? ⟨w.heap.size,0,none⟩=some (.int .u8 1)∧wi.cell? ⟨w.heap.size,1,none⟩=some (.int .u64 0)∧wi.cell? ⟨w.heap.size,2,none⟩=some (.string ⟨#[]⟩)∧wi.cell? ⟨w.heap.size,3,none⟩=some (.slice none 0 0) ∧
  wi.cell? ⟨w.heap.size+1,0,none⟩=some (.int .u8 0)∧wi.cell? ⟨w.heap.size+1,1,none⟩=some (.int .u64 0)∧wi.cell? ⟨w.heap.size+1,2,none⟩=some (.string ⟨#[]⟩)∧wi.cell? ⟨w.heap.size+1,3,none⟩=some (.slice none 0 0)∧∀ j,wi.frozen? ⟨w.heap.size+1,j,none⟩=false:=by
 obtain⟨a0,a1,a2,a3,_⟩:=h.b8.all;obtain⟨b0,b1,b2,b3,b4⟩:=h.b10.all;exact⟨a0,a1,a2,a3,b0,b1,b2,b3,b4⟩
theorem SV.new (h:Fld 140 X w g ls A l c sp):SV X w ((w.alloc (.cells #[.int .u8 1,.int .u64 0,.string ⟨#[]⟩,.slice none 0 0] 43)).alloc (.cells #[.int .u8 0,.int .u64 0,.string ⟨#[]⟩,.slice none 0 0] 43)) g ls A l c sp:=by
 obtain⟨b8,b10,hB⟩:=boxes2 w (.int .u8 1) (.int .u64 0) (.string ⟨#[]⟩) (.slice none 0 0) (.int .u8 0) (.int .u64 0) (.string ⟨#[]⟩) (.slice none 0 0);exact⟨h.call hB,Off.of _ hB,b8,b10,h.lt⟩
theorem SV.fin {w wi:World}{g:Nat}{ls:List V}{A:Oz}{l c:Nat}{sp sp0:Bool}{k n:Nat}{t:ByteArray}{ks:List V}{A2:Oz}{l2 c2:Nat}(h:SV X w wi g ls A l c sp)(h0:Fld 140 X w g ls A l c sp0)(hN:Nw (w.heap.size+2) wi ks A2 l2 c2)(x y z u:Value) :
  zaZ 140 X g ls A l c (QV w.heap.size k n t ks) sp w (.returned (.agg #[.int .u8 (k:Int),.int .u64 (n:Int),.string t,.slice A2 l2 c2])) ((((wi.setCell ⟨w.heap.size+1,0,none⟩ x).setCell ⟨w.heap.size+1,1,none⟩ y).setCell ⟨w.heap.size+1,2,none⟩ z).setCell ⟨w.heap.size+1,3,none⟩ u):=by
 have ho:=Off.set4 h.off (g:=w.heap.size+1) (by omega) x y z u;exact⟨_,rfl,⟨A2,l2,c2,rfl,(hN.far4 (by omega) _ _ _ _).less (by omega)⟩,ho,h0.fin ho (zeE h.fld.obj (by have:=h.lt;omega) _ _ _ _)⟩
theorem znR (h:Fld 140 X w g ls A l c sp)(i:Int)(must:Bool)(hq:ask ls i=none)(kb:Nat) :
  Calls prog 101 #[.pointer (some ⟨g,0,none⟩),.int .i64 i,.bool must,.agg #[.int .u8 1,.int .u64 0,.string ⟨#[]⟩,.slice none 0 0],.func (.func 102) #[] #[.pointer (some ⟨kb,0,none⟩)]] w (zaZ 140 X g ls A l c (QV w.heap.size 1 0 ⟨#[]⟩ []) (sp||must) w):=by
 have hS:=SV.new h;have HH:=ze5 hS.fld i;rw[hq] at HH;have HF:=zaa h;have HG:=zaa HH;have HS:=zaa hS;clear hq h HH hS;cases must with
 | false=>
  rw[Bool.or_false];go_enter func101,ntmps101;go_wp2_with fail;refine HG.out.mono ?_;rintro e w1 ⟨rfl,Ha⟩;have H1:=zaa (HS.out.call Ha);obtain⟨f0,f1,f2,f3,d0,d1,d2,d3,df⟩:=H1.out.all;clear Ha;go_wp2;refine bodyPost_ret (v:=.agg #[.int .u8 1,.int .u64 0,.string ⟨#[]⟩,.slice none 0 0]) (by simp[results,results101,go_sem,d0,d1,d2,d3]) rfl ?_;exact H1.out.fin HF.out (Kids.none_ _ _ _ _ _) _ _ _ _
 | true=>
  rw[Bool.or_true];go_enter func101,ntmps101;go_wp2_with fail;refine HG.out.mono ?_;rintro e w1 ⟨rfl,Ha⟩;have H1:=zaa (HS.out.call Ha);clear Ha;go_wp2_with fail;refine(zcP H1.out.fld).mono ?_;rintro e w2 ⟨⟨v,rfl⟩,Qd⟩;have vX:=H1.out.spoil;rw[Qd] at vX;have H2:=zaa vX;obtain⟨f0,f1,f2,f3,d0,d1,d2,d3,df⟩:=vX.all;clear Qd vX;go_wp2;refine bodyPost_ret (v:=.agg #[.int .u8 1,.int .u64 0,.string ⟨#[]⟩,.slice none 0 0]) (by simp[results,results101,go_sem,d0,d1,d2,d3]) rfl ?_;exact H2.out.fin HF.out (Kids.none_ _ _ _ _ _) _ _ _ _
theorem zqf {k n:Nat}{t:ByteArray}{ks:List V}(h:Fld 140 X w g ls A l c sp)(i:Int)(must:Bool)(hq:ask ls i=some (.mk k n t ks))(kb:Nat)
  (cl:∀ A' l' c' w',Below w.heap.size w w'→Kd w' ks A' l' c'→k < 256→n < 18446744073709551616→Calls prog 102 #[.agg #[.int .u8 (k:Int),.int .u64 (n:Int),.string t,.slice A' l' c'],.pointer (some ⟨kb,0,none⟩)] w' (zjZ k n t ks true w')) :
  Calls prog 101 #[.pointer (some ⟨g,0,none⟩),.int .i64 i,.bool must,.agg #[.int .u8 1,.int .u64 0,.string ⟨#[]⟩,.slice none 0 0],.func (.func 102) #[] #[.pointer (some ⟨kb,0,none⟩)]] w (zaZ 140 X g ls A l c (QV w.heap.size k n t ks) sp w):=by
 obtain⟨j,rfl,hj,hx,_⟩:=zcY hq;have hS:=SV.new h;have HH:=ze5 hS.fld (j:Int);rw[hq] at HH;have hl:=h.fkd.len;have hB:=zaw w (.cells #[.int .u8 1,.int .u64 0,.string ⟨#[]⟩,.slice none 0 0] 43) (.cells #[.int .u8 0,.int .u64 0,.string ⟨#[]⟩,.slice none 0 0] 43);have HF:=zaa h;have HG:=zaa HH;have HS:=zaa hS;have HC:=zaa cl;have HX:=zaa hx;have HB:=zaa hB;clear hq h HH cl hx hS hB;go_enter func101,ntmps101;go_wp2_with fail;refine HG.out.mono ?_;rintro e w1 ⟨rfl,Ha⟩;have H1:=zaa (HS.out.call Ha);obtain⟨a0,a1,_⟩:=H1.out.fld.cells;obtain⟨b,o,k',n',t',ks',A',l',c',rfl,hb,jm,e0,e1,e2,e3,hk,hn,hK⟩:=H1.out.fld.fkd.at_ (i:=j) (by omega);have hv:=HX.out.symm.trans jm;injection hv with hv
 injection hv with q1 q2 q3 q4
 subst q1;subst q2;subst q3;subst q4;have VD:=zaa (HC.out A' l' c' w1 (zad HB.out Ha) hK hk hn);have HSZ:=zaa (show w.heap.size+2≤w1.heap.size by have:=Ha.size;simp at this;omega);clear HC HG HX jm hK Ha hk hn HB;go_wp2_with fail;refine VD.out.mono ?_;rintro e w2 ⟨A2,l2,c2,rfl,k9,He⟩;have H2:=zaa (H1.out.call He);have Vi:=zaa k9;clear k9 He a0 a1 e0 e1 e2 e3 VD;have Hj:Below w2.heap.size w2 (w2.alloc (.cells #[.int .u8 (k:Int),.int .u64 (n:Int),.string t,.slice A2 l2 c2] 43)):=(za _ _);have H3:=zaa (H2.out.call Hj);have VF:=zaa (Vi.out.call Hj);obtain⟨z0,z1,z2,z3,_⟩:=(Box.new w2 (.int .u8 (k:Int)) (.int .u64 (n:Int)) (.string t) (.slice A2 l2 c2)).all;obtain⟨f0,f1,f2,f3,d0,d1,d2,d3,df⟩:=H3.out.all;clear Hj;go_wp2;refine bodyPost_ret (v:=.agg #[.int .u8 (k:Int),.int .u64 (n:Int),.string t,.slice A2 l2 c2]) (by simp[results,results101,go_sem,d0,d1,d2,d3]) rfl ?_;exact H3.out.fin HF.out (VF.out.less HSZ.out) _ _ _ _
theorem zsB {k n:Nat}{t:ByteArray}{ks:List V}(h:Fld 140 X w g ls A l c sp)(i:Int)(must:Bool)(hq:ask ls i=some (.mk k n t ks))(kb:Nat)
  (cl:∀ A' l' c' w',Below w.heap.size w w'→Kd w' ks A' l' c'→k < 256→n < 18446744073709551616→Calls prog 102 #[.agg #[.int .u8 (k:Int),.int .u64 (n:Int),.string t,.slice A' l' c'],.pointer (some ⟨kb,0,none⟩)] w' (zjZ k n t ks false w')) :
  Calls prog 101 #[.pointer (some ⟨g,0,none⟩),.int .i64 i,.bool must,.agg #[.int .u8 1,.int .u64 0,.string ⟨#[]⟩,.slice none 0 0],.func (.func 102) #[] #[.pointer (some ⟨kb,0,none⟩)]] w (zaZ 140 X g ls A l c (QV w.heap.size 1 0 ⟨#[]⟩ []) true w):=by
 obtain⟨j,rfl,hj,hx,_⟩:=zcY hq;have hS:=SV.new h;have HH:=ze5 hS.fld (j:Int);rw[hq] at HH;have hl:=h.fkd.len;have hB:=zaw w (.cells #[.int .u8 1,.int .u64 0,.string ⟨#[]⟩,.slice none 0 0] 43) (.cells #[.int .u8 0,.int .u64 0,.string ⟨#[]⟩,.slice none 0 0] 43);have HF:=zaa h;have HG:=zaa HH;have HS:=zaa hS;have HC:=zaa cl;have HX:=zaa hx;have HB:=zaa hB;clear hq h HH cl hx hS hB;go_enter func101,ntmps101;go_wp2_with fail;refine HG.out.mono ?_;rintro e w1 ⟨rfl,Ha⟩;have H1:=zaa (HS.out.call Ha);obtain⟨a0,a1,_⟩:=H1.out.fld.cells;obtain⟨b,o,k',n',t',ks',A',l',c',rfl,hb,jm,e0,e1,e2,e3,hk,hn,hK⟩:=H1.out.fld.fkd.at_ (i:=j) (by omega);have hv:=HX.out.symm.trans jm;injection hv with hv
 injection hv with q1 q2 q3 q4
 subst q1;subst q2;subst q3;subst q4;have VD:=zaa (HC.out A' l' c' w1 (zad HB.out Ha) hK hk hn);have HSZ:=zaa (show w.heap.size+2≤w1.heap.size by have:=Ha.size;simp at this;omega);clear HC HG HX jm hK Ha hk hn HB;go_wp2_with fail;refine VD.out.mono ?_;rintro e w2 ⟨A2,l2,c2,rfl,k9,He⟩;have H2:=zaa (H1.out.call He);have Vi:=zaa k9;clear k9 He a0 a1 e0 e1 e2 e3 VD;have Hj:Below w2.heap.size w2 (w2.alloc (.cells #[.int .u8 (k:Int),.int .u64 (n:Int),.string t,.slice A2 l2 c2] 43)):=(za _ _);have H3:=zaa (H2.out.call Hj);clear Hj;go_wp2_with fail;refine(zcP H3.out.fld).mono ?_;rintro e w4 ⟨⟨v,rfl⟩,hw4⟩;have U':=H3.out.spoil;rw[hw4] at U';have H4:=zaa U';obtain⟨f0,f1,f2,f3,d0,d1,d2,d3,df⟩:=U'.all;clear hw4 U';go_wp2;refine bodyPost_ret (v:=.agg #[.int .u8 1,.int .u64 0,.string ⟨#[]⟩,.slice none 0 0]) (by simp[results,results101,go_sem,d0,d1,d2,d3]) rfl ?_;exact H4.out.fin HF.out (Kids.none_ _ _ _ _ _) _ _ _ _
end
theorem zro (k m:Nat):((k:Int)==(m:Int))=decide (k=m):=by
 by_cases h:k=m
 ·subst h;simp
 ·simp[h];omega
theorem zgi (k n:Nat)(t:ByteArray)(A:Oz)(l c kb kind:Nat)(w:World)(hk:w.cell? ⟨kb,0,none⟩=some (.int .u8 (kind:Int)))(hb:kb < w.heap.size)(b:Bool)(hd:decide (k=kind)=b) :
  Calls prog 105 #[.agg #[.int .u8 (k:Int),.int .u64 (n:Int),.string t,.slice A l c],.pointer (some ⟨kb,0,none⟩)] w (zaT (fun r _=>r=.int .u64 (n:Int)) b w):=by
 have BP:((k:Int)==(kind:Int))=b:=by rw[zro,hd]
 have hB:Below w.heap.size w (w.alloc (.cells #[.int .u8 (k:Int),.int .u64 (n:Int),.string t,.slice A l c] 43)):=(za _ _);obtain⟨a0,a1,a2,a3,_⟩:=(Box.new w (.int .u8 (k:Int)) (.int .u64 (n:Int)) (.string t) (.slice A l c)).all;have gF:=(hB.cell (p:=⟨kb,0,none⟩) hb).trans hk;obtain⟨w1,xg⟩:∃ x,w.alloc (.cells #[.int .u8 (k:Int),.int .u64 (n:Int),.string t,.slice A l c] 43)=x:=⟨_,rfl⟩;obtain⟨gg,xa⟩:∃ x,w.heap.size=x:=⟨_,rfl⟩;rw[xg] at a0 a1 a2 a3 gF hB;rw[xa] at a0 a1 a2 a3;have HB:=zaa hB;clear hd hB hk;go_enter func105,ntmps105;go_wp2_with fail;go_quiet (fail);go_wp2;refine bodyPost_ret (v:=.tuple #[.int .u64 (n:Int),.bool b]) (by simp[results,results105,go_sem]) rfl ?_;exact⟨_,rfl,rfl,below_drewN HB.out _⟩
theorem znS {B:Nat}{A:Oz}{n c x:Nat}{L:Lz}{w:World}(hr:Rd .u8 256 w B A n L)(hc:n≤1099511627776) :
  Calls prog 132 #[.slice A n c,.int .u8 (x:Int)] w fun e w'=>(∃ z:Int,e=.returned (.int .i64 z)∧decide (0≤z)=decide (x∈L))∧w=w':=by
 have HR:=zaa hr;have hlen:=hr.len;clear hr;go_enter func132,ntmps132;go_wp2;go_loopw [8] (fun i wr=>∃ j:Nat,j≤n∧i=.int .i64 j∧x ∉ L.take j∧w=wr) (fun i _=>n - (intOf i).toNat)
 case atStart=>exact⟨0,Nat.zero_le _,rfl,by simp,rfl⟩
 case round=>
  obtain⟨j,hj,rfl,hy,rfl⟩:=hrel;by_cases Hi:j < n
  ·obtain⟨b,o,y,rfl,hb,hx,UF,Kx⟩:=HR.out.at_ Hi;have HY:=zaa hy;have HX:=zaa hx;by_cases qi:x=y
   ·subst qi;clear hy hx;go_wp2;go_ret;exact⟨⟨_,rfl,by rw[decide_eq_true (List.mem_of_getElem? HX.out)];exact decide_eq_true (Int.natCast_nonneg _)⟩,rfl⟩
   ·have he:((x:Int)==(y:Int))=false:=by rw[zro];exact decide_eq_false qi
    have Y1:=zaa qi;clear qi hy hx;go_wp2;go_roundw
    case rel=>exact⟨j+1,by omega,by go_num,(by rw[List.take_add_one,HX.out];simp only[Option.toList,List.mem_append,List.mem_singleton,not_or];exact⟨HY.out,Y1.out⟩),by trivial⟩
    case measure=>simp[intOf];omega
  ·have HE:Hid (x ∉ L):=zaa (by rwa [List.take_of_length_le (by omega)] at hy);clear hy;go_wp2;go_ret;exact⟨⟨_,rfl,by have:=HE.out;simp[this]⟩,rfl⟩
theorem zi0 {B:Nat}{A:Oz}{n c x:Nat}{L:Lz}{w:World}(hr:Rd .u8 256 w B A n L)(hc:n≤1099511627776) :
  Calls prog 103 #[.slice A n c,.int .u8 (x:Int)] w fun e w'=>e=.returned (.bool (decide (x∈L)))∧w=w':=by
 have HI:=zaa (znS (x:=x) (c:=c) hr hc);clear hr;obtain⟨d,hd⟩:∃ d,decide (x∈L)=d:=⟨_,rfl⟩;rw[hd] at HI ⊢;clear hd;go_enter func103,ntmps103;go_wp2_with (go_at_call 132;refine HI.out.mono ?_;rintro e w1 ⟨⟨z,rfl,hz⟩,rfl⟩);go_ret;exact⟨rfl,rfl⟩
def zdO (L:Lz)(k:Nat):Bool:=decide (L.length=0)||decide (k∈L)
structure SR (w wx:World) (k n:Nat) (t:ByteArray) (A:Oz) (l c:Nat):Prop where
 b2:Box wx w.heap.size (.int .u8 (k:Int)) (.int .u64 (n:Int)) (.string t) (.slice A l c)
 b3:∃ y0 y1 y2 y3,Box wx (w.heap.size+1) y0 y1 y2 y3
 low:Below w.heap.size w wx
section
variable {w wx w1:World} {k n:Nat} {t:ByteArray} {A:Oz} {l c:Nat}
theorem SR.call (h:SR w wx k n t A l c)(hb:Below wx.heap.size wx w1):SR w w1 k n t A l c:=⟨h.b2.call hb,by obtain⟨y0,y1,y2,y3,h⟩:=h.b3;exact⟨y0,y1,y2,y3,h.call hb⟩,zad h.low hb⟩
theorem SR.drew (h:SR w wx k n t A l c):SR w wx.drew k n t A l c:=h.call (Below.refl _ _).drew
theorem SR.kd {ks:List V}{A':Oz}{l' c':Nat}(h:SR w wx k n t A l c)(hK:Kd w ks A' l' c'):Kd wx ks A' l' c':=hK.call h.low
theorem SR.rd {B:Nat}{A':Oz}{n':Nat}{L:Lz}(h:SR w wx k n t A l c)(hB:B≤w.heap.size)(hr:Rd .u8 256 w B A' n' L):Rd .u8 256 wx B A' n' L:=hr.below (h.low.mono hB)
theorem SR.size (h:SR w wx k n t A l c):w.heap.size+2≤wx.heap.size:=by
 obtain⟨_,_,_,_,h⟩:=h.b3;have:=h.lt;omega
theorem SR.nw {ks:List V}{A':Oz}{l' c':Nat}(h:SR w wx k n t A l c)(hN:Nw wx.heap.size w1 ks A' l' c'):Nw (w.heap.size+2) w1 ks A' l' c':=hN.less h.size
theorem SR.cells {kb:Nat}{u:Value}(h:SR w wx k n t A l c)(ke:kb < w.heap.size)(hu:w.cell? ⟨kb,0,none⟩=some u):wx.cell? ⟨w.heap.size,0,none⟩=some (.int .u8 (k:Int))∧wx.cell? ⟨w.heap.size,1,none⟩=some (.int .u64 (n:Int))∧wx.cell? ⟨w.heap.size,2,none⟩=some (.string t)∧wx.cell? ⟨w.heap.size,3,none⟩=some (.slice A l c)∧wx.cell? ⟨kb,0,none⟩=some u:=by
 obtain⟨a0,a1,a2,a3,_⟩:=h.b2.all;exact⟨a0,a1,a2,a3,(h.low.cell (p:=⟨kb,0,none⟩) ke).trans hu⟩
theorem SR.set4 (h:SR w wx k n t A l c)(x y z u:Value):SR w ((((wx.setCell ⟨w.heap.size+1,0,none⟩ x).setCell ⟨w.heap.size+1,1,none⟩ y).setCell ⟨w.heap.size+1,2,none⟩ z).setCell ⟨w.heap.size+1,3,none⟩ u) k n t A l c:=
 ⟨h.b2.far4 (by omega) _ _ _ _,by obtain⟨y0,y1,y2,y3,h⟩:=h.b3;exact⟨_,_,_,_,h.set4 _ _ _ _⟩,zae h.low (by omega) _ _ _ _⟩
end
theorem zgY (k n:Nat)(t:ByteArray)(ks:List V)(A:Oz)(l c kb:Nat)(KA:Oz)(kl kc B:Nat)(L:Lz)(w:World)(kO:w.cell? ⟨kb,0,none⟩=some (.slice KA kl kc))(ke:kb < w.heap.size)(hr:Rd .u8 256 w B KA kl L)(hB:B≤w.heap.size)(qR:kl≤1099511627776)
  (hN:zai ks≤1073741824) (hk:k < 256) (hn:n < 18446744073709551616) (hK:Kd w ks A l c) (b:Bool) (hd:zdO L k=b) :
  Calls prog 102 #[.agg #[.int .u8 (k:Int),.int .u64 (n:Int),.string t,.slice A l c],.pointer (some ⟨kb,0,none⟩)] w (zjZ k n t ks b w):=by
 obtain⟨b2,b3,G5⟩:=boxes2 w (.int .u8 (k:Int)) (.int .u64 (n:Int)) (.string t) (.slice A l c) (.int .u8 0) (.int .u64 0) (.string ⟨#[]⟩) (.slice none 0 0);have hS:SR w ((w.alloc (.cells #[.int .u8 (k:Int),.int .u64 (n:Int),.string t,.slice A l c] 43)).alloc (.cells #[.int .u8 0,.int .u64 0,.string ⟨#[]⟩,.slice none 0 0] 43)) k n t A l c:=⟨b2,⟨_,_,_,_,b3⟩,G5⟩;obtain⟨W0,Gj⟩:∃ W0,(w.alloc (.cells #[.int .u8 (k:Int),.int .u64 (n:Int),.string t,.slice A l c] 43)).alloc (.cells #[.int .u8 0,.int .u64 0,.string ⟨#[]⟩,.slice none 0 0] 43)=W0:=⟨_,rfl⟩;rw[Gj] at hS;have hlen:=hr.len;have HN:=zaa hN;have HK:=zaa hK;have HR:=zaa hr;have HS:=zaa hS;clear hN hK hr G5 b2 b3 hS;by_cases h0:kl=0
 ·have hb:b=true:=by rw[←hd];unfold zdO;rw[hlen,h0];rfl
  subst hb;subst h0;clear hd;go_enter func102,ntmps102;go_upto_region 1 with fail
  clear Gj;refine wp_region_held_drew (S:=fun wx=>SR w wx k n t A l c) (by kernel_rfl) (by exact HS.out.drew) (fun hHeld=>?_)
  (refine T2K 0 ⟨some 5,_,_,_,_,_⟩ ?_ rfl (by kernel_rfl) (fun _ _ _ h=>h) ?_ (by assumption) ?_;rotate_left 1;(· intro wx Hc;(try dsimp only at Hc);obtain⟨p0,p1,p2,p3,pk⟩:=SR.cells Hc ke kO;go_simp;(try with_reducible rfl)))
  try simp only[Act.put,sA,sB,sC]
  (refine T2K 2 ⟨some 7,_,_,_,_,_⟩ ?_ rfl (by kernel_rfl) (fun _ _ _ h=>h) ?_ (by assumption) ?_;rotate_left 1;(· intro wx Hc;(try dsimp only at Hc);obtain⟨p0,p1,p2,p3,pk⟩:=SR.cells Hc ke kO;go_simp;(try with_reducible rfl)))
  try simp only[Act.put,sA,sB,sC]
  (refine T2K 3 ⟨some 8,_,_,_,_,_⟩ ?_ rfl (by kernel_rfl) (fun _ _ _ h=>h) ?_ (by assumption) ?_;rotate_left 1;(· intro wx Hc;(try dsimp only at Hc);obtain⟨p0,p1,p2,p3,pk⟩:=SR.cells Hc ke kO;go_simp;(try with_reducible rfl)))
  try simp only[Act.put,sA,sB,sC]
  (refine T2K 4 ⟨some 9,_,_,_,_,_⟩ ?_ rfl (by kernel_rfl) (fun _ _ _ h=>h) ?_ (by assumption) ?_;rotate_left 1;(· intro wx Hc;(try dsimp only at Hc);obtain⟨p0,p1,p2,p3,pk⟩:=SR.cells Hc ke kO;go_simp;(try with_reducible rfl)))
  try simp only[Act.put,sA,sB,sC]
  (refine wpAnyH_ready (rs:=[1]) (by kernel_rfl) (by simp) ?_;refine AllReadyH.cons (o:=⟨some 6,_,_,_,_,_⟩) rfl (fun K hK=>?_) AllReadyH.nil;go_simp;(go_at_call 100;(with_reducible refine(zdf k n t ks A l c _ HN.out hk hn (SR.kd (by with_reducible assumption) HK.out)).mono ?_);rintro e w1 ⟨A1,l1,c1,rfl,vg,Ha⟩;have QG:=zaa (SR.nw (by with_reducible assumption) vg);clear vg);go_wp2_with fail;refine hK.out _ _ ?_ (fun hHeld=>?_);(· exact SR.call (by with_reducible assumption) (by with_reducible assumption));clear hK K)
  try simp only[Act.put,sA,sB,sC]
  (refine T2K 5 ⟨some 10,_,_,_,_,_⟩ ?_ rfl (by kernel_rfl) (fun _ _ _ h=>h) ?_ (by assumption) ?_;rotate_left 1;(· intro wx Hc;(try dsimp only at Hc);obtain⟨p0,p1,p2,p3,pk⟩:=SR.cells Hc ke kO;go_simp;(try with_reducible rfl)))
  try simp only[Act.put,sA,sB,sC]
  (refine S2K 6 ⟨some 11,_,_,_,_,_⟩ rfl (by kernel_rfl) (fun _ _ _ h=>h) (by assumption) ?_)
  try simp only[Act.put,sA,sB,sC]
  (refine S2K 7 ⟨some 12,_,_,_,_,_⟩ rfl (by kernel_rfl) (fun _ _ _ h=>h) (by assumption) ?_)
  try simp only[Act.put,sA,sB,sC]
  (refine S2K 8 ⟨some 13,_,_,_,_,_⟩ rfl (by kernel_rfl) (fun _ _ _ h=>h) (by assumption) ?_)
  try simp only[Act.put,sA,sB,sC]
  (refine S2K 9 ⟨some 14,_,_,_,_,_⟩ rfl (by kernel_rfl) (fun _ _ _ h=>h) (by assumption) ?_)
  try simp only[Act.put,sA,sB,sC]
  (refine T2K 10 ⟨some 15,_,_,_,_,_⟩ ?_ rfl (by kernel_rfl) (fun _ _ _ h=>h) ?_ (by assumption) ?_;rotate_left 1;(· intro wx Hc;(try dsimp only at Hc);obtain⟨p0,p1,p2,p3,pk⟩:=SR.cells Hc ke kO;go_simp;(try with_reducible rfl)))
  try simp only[Act.put,sA,sB,sC]
  (refine wpAnyH_ready (rs:=[11]) (by kernel_rfl) (by simp) ?_;refine AllReadyH.cons (o:=⟨none,_,_,_,_,_⟩) rfl (fun K hK=>?_) AllReadyH.nil;go_simp;obtain⟨y0,y1,y2,y3,Hj⟩:=SR.b3 hHeld;obtain⟨d0,d1,d2,d3,df⟩:=Hj.all;go_wp2_with fail;all_goals (obtain⟨y0,y1,y2,y3,Hj⟩:=SR.b3 hHeld;have kI:=zaa (Hj.set4 (.int .u8 (k:Int)) (.int .u64 (n:Int)) (.string t) (.slice A1 l1 c1));refine hK.out _ _ ?_ (fun hHeld=>?_);(· exact SR.set4 (by with_reducible assumption) _ _ _ _);clear hK K))
  try simp only[Act.put,sA,sB,sC]
  all_goals (refine T2K 12 ⟨some 4,_,_,_,_,_⟩ ?_ rfl (by kernel_rfl) (fun _ _ _ h=>h) ?_ (by assumption) ?_;rotate_left 1;(· intro wx Hc;(try dsimp only at Hc);obtain⟨p0,p1,p2,p3,pk⟩:=SR.cells Hc ke kO;go_simp;(try with_reducible rfl)))
  try simp only[Act.put,sA,sB,sC]
  all_goals refine wpAnyH_done (by kernel_rfl) ?_ _
  all_goals
   obtain⟨f0,f1,f2,f3,_⟩:=kI.out.all;go_wp2_with fail;refine bodyPost_ret (v:=.tuple #[.agg #[.int .u8 (k:Int),.int .u64 (n:Int),.string t,.slice A1 l1 c1],.bool true]) (by simp[results,results102,go_sem,f0,f1,f2,f3]) rfl ?_;exact⟨A1,l1,c1,rfl,(QG.out.far4 (by omega) _ _ _ _).less (by omega),hHeld.low⟩
 ·have hb:decide (k∈L)=b:=by rw[←hd];unfold zdO;rw[hlen,decide_eq_false h0];rfl
  have hz:((kl:Int)==0)=false:=by simp;omega
  rw[←hb];clear hd hb h0;go_enter func102,ntmps102;go_upto_region 1 with fail
  clear Gj;refine wp_region_held_drew (S:=fun wx=>SR w wx k n t A l c) (by kernel_rfl) (by exact HS.out.drew) (fun hHeld=>?_)
  (refine T2K 0 ⟨some 5,_,_,_,_,_⟩ ?_ rfl (by kernel_rfl) (fun _ _ _ h=>h) ?_ (by assumption) ?_;rotate_left 1;(· intro wx Hc;(try dsimp only at Hc);obtain⟨p0,p1,p2,p3,pk⟩:=SR.cells Hc ke kO;go_simp;(try with_reducible rfl)))
  try simp only[Act.put,sA,sB,sC]
  (refine T2K 2 ⟨some 7,_,_,_,_,_⟩ ?_ rfl (by kernel_rfl) (fun _ _ _ h=>h) ?_ (by assumption) ?_;rotate_left 1;(· intro wx Hc;(try dsimp only at Hc);obtain⟨p0,p1,p2,p3,pk⟩:=SR.cells Hc ke kO;go_simp;(try with_reducible rfl)))
  try simp only[Act.put,sA,sB,sC]
  (refine T2K 3 ⟨some 8,_,_,_,_,_⟩ ?_ rfl (by kernel_rfl) (fun _ _ _ h=>h) ?_ (by assumption) ?_;rotate_left 1;(· intro wx Hc;(try dsimp only at Hc);obtain⟨p0,p1,p2,p3,pk⟩:=SR.cells Hc ke kO;go_simp;(try with_reducible rfl)))
  try simp only[Act.put,sA,sB,sC]
  (refine T2K 4 ⟨some 9,_,_,_,_,_⟩ ?_ rfl (by kernel_rfl) (fun _ _ _ h=>h) ?_ (by assumption) ?_;rotate_left 1;(· intro wx Hc;(try dsimp only at Hc);obtain⟨p0,p1,p2,p3,pk⟩:=SR.cells Hc ke kO;go_simp;(try with_reducible rfl)))
  try simp only[Act.put,sA,sB,sC]
  (refine wpAnyH_ready (rs:=[1]) (by kernel_rfl) (by simp) ?_;refine AllReadyH.cons (o:=⟨some 6,_,_,_,_,_⟩) rfl (fun K hK=>?_) AllReadyH.nil;go_simp;(go_at_call 100;(with_reducible refine(zdf k n t ks A l c _ HN.out hk hn (SR.kd (by with_reducible assumption) HK.out)).mono ?_);rintro e w1 ⟨A1,l1,c1,rfl,vg,Ha⟩;have QG:=zaa (SR.nw (by with_reducible assumption) vg);clear vg);go_wp2_with fail;refine hK.out _ _ ?_ (fun hHeld=>?_);(· exact SR.call (by with_reducible assumption) (by with_reducible assumption));clear hK K)
  try simp only[Act.put,sA,sB,sC]
  (refine T2K 5 ⟨some 10,_,_,_,_,_⟩ ?_ rfl (by kernel_rfl) (fun _ _ _ h=>h) ?_ (by assumption) ?_;rotate_left 1;(· intro wx Hc;(try dsimp only at Hc);obtain⟨p0,p1,p2,p3,pk⟩:=SR.cells Hc ke kO;go_simp;(try with_reducible rfl)))
  try simp only[Act.put,sA,sB,sC]
  (refine T2K 6 ⟨some 11,_,_,_,_,_⟩ ?_ rfl (by kernel_rfl) (fun _ _ _ h=>h) ?_ (by assumption) ?_;rotate_left 1;(· intro wx Hc;(try dsimp only at Hc);obtain⟨p0,p1,p2,p3,pk⟩:=SR.cells Hc ke kO;go_simp;(try with_reducible rfl)))
  try simp only[Act.put,sA,sB,sC]
  (refine T2K 7 ⟨some 12,_,_,_,_,_⟩ ?_ rfl (by kernel_rfl) (fun _ _ _ h=>h) ?_ (by assumption) ?_;rotate_left 1;(· intro wx Hc;(try dsimp only at Hc);obtain⟨p0,p1,p2,p3,pk⟩:=SR.cells Hc ke kO;go_simp;(try with_reducible rfl)))
  try simp only[Act.put,sA,sB,sC]
  (refine T2K 8 ⟨some 13,_,_,_,_,_⟩ ?_ rfl (by kernel_rfl) (fun _ _ _ h=>h) ?_ (by assumption) ?_;rotate_left 1;(· intro wx Hc;(try dsimp only at Hc);obtain⟨p0,p1,p2,p3,pk⟩:=SR.cells Hc ke kO;go_simp;(try with_reducible rfl)))
  try simp only[Act.put,sA,sB,sC]
  (refine wpAnyH_ready (rs:=[9]) (by kernel_rfl) (by simp) ?_;refine AllReadyH.cons (o:=⟨some 14,_,_,_,_,_⟩) rfl (fun K hK=>?_) AllReadyH.nil;go_simp;(go_at_call 103;(with_reducible refine(zi0 (SR.rd (by with_reducible assumption) hB HR.out) qR).mono ?_);rintro e w2 ⟨rfl,rfl⟩);go_wp2_with fail;refine hK.out _ _ ?_ (fun hHeld=>?_);(· exact(by with_reducible assumption));clear hK K)
  try simp only[Act.put,sA,sB,sC]
  (refine T2K 10 ⟨some 15,_,_,_,_,_⟩ ?_ rfl (by kernel_rfl) (fun _ _ _ h=>h) ?_ (by assumption) ?_;rotate_left 1;(· intro wx Hc;(try dsimp only at Hc);obtain⟨p0,p1,p2,p3,pk⟩:=SR.cells Hc ke kO;go_simp;(try with_reducible rfl)))
  try simp only[Act.put,sA,sB,sC]
  (refine wpAnyH_ready (rs:=[11]) (by kernel_rfl) (by simp) ?_;refine AllReadyH.cons (o:=⟨none,_,_,_,_,_⟩) rfl (fun K hK=>?_) AllReadyH.nil;go_simp;obtain⟨y0,y1,y2,y3,Hj⟩:=SR.b3 hHeld;obtain⟨d0,d1,d2,d3,df⟩:=Hj.all;go_wp2_with fail;all_goals (obtain⟨y0,y1,y2,y3,Hj⟩:=SR.b3 hHeld;have kI:=zaa (Hj.set4 (.int .u8 (k:Int)) (.int .u64 (n:Int)) (.string t) (.slice A1 l1 c1));refine hK.out _ _ ?_ (fun hHeld=>?_);(· exact SR.set4 (by with_reducible assumption) _ _ _ _);clear hK K))
  try simp only[Act.put,sA,sB,sC]
  all_goals (refine T2K 12 ⟨some 4,_,_,_,_,_⟩ ?_ rfl (by kernel_rfl) (fun _ _ _ h=>h) ?_ (by assumption) ?_;rotate_left 1;(· intro wx Hc;(try dsimp only at Hc);obtain⟨p0,p1,p2,p3,pk⟩:=SR.cells Hc ke kO;go_simp;(try with_reducible rfl)))
  try simp only[Act.put,sA,sB,sC]
  all_goals refine wpAnyH_done (by kernel_rfl) ?_ _
  all_goals
   obtain⟨f0,f1,f2,f3,_⟩:=kI.out.all;go_wp2_with fail;refine bodyPost_ret (v:=.tuple #[.agg #[.int .u8 (k:Int),.int .u64 (n:Int),.string t,.slice A1 l1 c1],.bool (decide (k∈L))]) (by simp[results,results102,go_sem,f0,f1,f2,f3]) rfl ?_;exact⟨A1,l1,c1,rfl,(QG.out.far4 (by omega) _ _ _ _).less (by omega),hHeld.low⟩
section
variable {B B':Nat} {w w1:World} {A:Oz} {n c:Nat} {ts:List ByteArray}
end
theorem kid1 {w:World}{k n:Nat}{t:ByteArray}{ks:List V}{A:Oz}{l c:Nat}(hk:k < 256)(hn:n < 18446744073709551616)(hK:Kd w ks A l c):Kd (w.alloc (.cells #[.int .u8 k,.int .u64 n,.string t,.slice A l c] 43)) [.mk k n t ks] (some ⟨w.heap.size,0,none⟩) 1 1:=by
 refine⟨rfl,zab,fun _=>⟨w.heap.size,0,rfl,by simp,fun h=>(by cases h),?_⟩⟩;exact⟨zbd.2 ⟨A,l,c,by simp,by simp,by simp,by simp,hk,hn,hK.alloc _⟩,trivial⟩
theorem zaZ.back {T:TypeId}{X:Nat→Prop}{g:Nat}{ls:List V}{A:Oz}{l c:Nat}{Q Q':Value→World→Prop}{sp:Bool}{w w1 w':World}{e:Ending}(h:zaZ T X g ls A l c Q sp w1 e w')(hb:Below w.heap.size w w1)(hq:∀ r,Q r w'→Q' r w'):zaZ T X g ls A l c Q' sp w e w':=by
 obtain⟨r,h1,h2,h3,h4⟩:=h;exact⟨r,h1,hq r h2,(Off.of _ hb).trans h3,h4⟩
def oneR {α:Type}(ls:List V)(i:Int)(kind:Nat)(must sp:Bool)(z:α)(f:V→α):α×Bool:=
 match ask ls i with
 | none=>(z,sp||must)
 | some v=>if v.kind=kind then (f v,sp) else (z,true)
section
variable {α:Type} {ls:List V} {i:Int} {kind:Nat} {must sp:Bool} {z:α} {f:V→α} {v:V}
theorem zbY (h:ask ls i=none):oneR ls i kind must sp z f=(z,sp||must):=by unfold oneR;rw[h]
theorem zcF (h:ask ls i=some v)(hk:v.kind=kind):oneR ls i kind must sp z f=(f v,sp):=by unfold oneR;rw[h];exact if_pos hk
theorem zd3 (h:ask ls i=some v)(hk:¬ v.kind=kind):oneR ls i kind must sp z f=(z,true):=by unfold oneR;rw[h];exact if_neg hk
end
theorem zaq {X:Nat→Prop}{w:World}{g:Nat}{ls:List V}{A:Oz}{l c:Nat}{sp sp':Bool}(h:Fld 140 X w g ls A l c sp)(i:Int)(kind:Nat)(must:Bool)(z:Nat)(N:Nat)(hq:oneR ls i kind must sp z V.num=(N,sp')) :
  Calls prog 58 #[.pointer (some ⟨g,0,none⟩),.int .i64 i,.int .u8 (kind:Int),.bool must,.int .u64 (z:Int)] w (zaZ 140 X g ls A l c (fun r _=>r=.int .u64 (N:Int)) sp' w):=by
 have hB:Below w.heap.size w (w.alloc (.cells #[.int .u8 (kind:Int)] 5)):=(za _ _);have qQ:(w.alloc (.cells #[.int .u8 (kind:Int)] 5)).cell? ⟨w.heap.size,0,none⟩=some (.int .u8 (kind:Int)):=by simp
 have hs:w.heap.size < (w.alloc (.cells #[.int .u8 (kind:Int)] 5)).heap.size:=by simp
 have HA:Calls prog 104 #[.pointer (some ⟨g,0,none⟩),.int .i64 i,.bool must,.int .u64 (z:Int),.func (.func 105) #[] #[.pointer (some ⟨w.heap.size,0,none⟩)]] (w.alloc (.cells #[.int .u8 (kind:Int)] 5)) (zaZ 140 X g ls A l c (fun r _=>r=.int .u64 (N:Int)) sp' (w.alloc (.cells #[.int .u8 (kind:Int)] 5))):=by
  cases ha:ask ls i with
  | none=>
   rw[zbY ha] at hq;injection hq with e1 e2
   subst e1;subst e2;exact znQ (h.call hB) i must z ha _
  | some v=>
   obtain⟨k,n,t,ks⟩:=v;by_cases hk:k=kind
   ·rw[zcF ha hk] at hq;injection hq with e1 e2
    subst e1;subst e2;refine(zqe (Q:=fun r _=>r=.int .u64 (n:Int)) (h.call hB) i must z ha w.heap.size fun A' l' c' w' hb _ _ _=>zgi k n t A' l' c' w.heap.size kind w' ((hb.cell (p:=⟨w.heap.size,0,none⟩) hs).trans qQ) (ybY hs hb.size) true (decide_eq_true hk))
   ·rw[zd3 ha hk] at hq;injection hq with e1 e2
    subst e1;subst e2;refine(zsA (Q:=fun r _=>r=.int .u64 (n:Int)) (h.call hB) i must z ha w.heap.size fun A' l' c' w' hb _ _ _=>zgi k n t A' l' c' w.heap.size kind w' ((hb.cell (p:=⟨w.heap.size,0,none⟩) hs).trans qQ) (ybY hs hb.size) false (decide_eq_false hk))
 have HH:=zaa HA;have HB:=zaa hB;clear HA hB qQ hs h hq;go_enter func58,ntmps58;go_wp2_with fail;refine HH.out.mono ?_;rintro e w1 hF;obtain⟨r,rfl,rfl,_⟩:=id hF;have HF:=zaa (hF.back (Q':=fun r _=>r=.int .u64 (N:Int)) HB.out fun r hr=>hr);clear hF;go_wp2;go_ret;exact HF.out
def za3:V:=.mk 1 0 ⟨#[]⟩ []
def valR (ls:List V)(i:Int)(L:Lz)(sp:Bool):V×Bool:=
 match ask ls i with
 | none=>(za3,sp)
 | some v=>if zdO L v.kind=true then (v,sp) else (za3,true)
theorem zgj {ls:List V}{i:Int}{L:Lz}{sp:Bool}(h:ask ls i=none):valR ls i L sp=(za3,sp):=by unfold valR;rw[h]
theorem zfD {ls:List V}{i:Int}{L:Lz}{sp:Bool}{v:V}(h:ask ls i=some v)(hk:zdO L v.kind=true):valR ls i L sp=(v,sp):=by unfold valR;rw[h];exact if_pos hk
theorem zj0 {ls:List V}{i:Int}{L:Lz}{sp:Bool}{v:V}(h:ask ls i=some v)(hk:zdO L v.kind=false):valR ls i L sp=(za3,true):=by unfold valR;rw[h];exact if_neg (by rw[hk];exact Bool.false_ne_true)
structure Kinds (w:World) (KA:Oz) (kl:Nat) (L:Lz):Prop where
 rd:Rd .u8 256 w w.heap.size KA kl L
 lim:kl≤1099511627776
theorem Kinds.call {w w1:World}{KA:Oz}{kl:Nat}{L:Lz}(h:Kinds w KA kl L)(hb:Below w.heap.size w w1):Kinds w1 KA kl L:=⟨h.rd.call hb,h.lim⟩
theorem zqg {X:Nat→Prop}{w:World}{g:Nat}{ls:List V}{A:Oz}{l c:Nat}{sp sp':Bool}{k n:Nat}{t:ByteArray}{ks:List V}{KA:Oz}{kl kc kb:Nat}{L:Lz}(h:Fld 140 X w g ls A l c sp)(hK:Kinds w KA kl L)(ke:w.cell? ⟨kb,0,none⟩=some (.slice KA kl kc))(qR:kb < w.heap.size)(i:Int)(hN:zai ls≤1073741824)(hq:valR ls i L sp=(.mk k n t ks,sp')) :
  Calls prog 101 #[.pointer (some ⟨g,0,none⟩),.int .i64 i,.bool false,.agg #[.int .u8 1,.int .u64 0,.string ⟨#[]⟩,.slice none 0 0],.func (.func 102) #[] #[.pointer (some ⟨kb,0,none⟩)]] w (zaZ 140 X g ls A l c (QV w.heap.size k n t ks) sp' w):=by
 cases ha:ask ls i with
 | none=>
  rw[zgj ha] at hq;injection hq with e1 e2
  unfold za3 at e1;injection e1 with q1 q2 q3 q4
  subst q1;subst q2;subst q3;subst q4;subst e2;have:=znR h i false ha kb;rw[Bool.or_false] at this;exact this
 | some v=>
  obtain⟨k',n',t',ks'⟩:=v;have GY:=zkQ ha;simp only[bulk] at GY;cases hk:zdO L (V.mk k' n' t' ks').kind with
  | true=>
   rw[zfD ha hk] at hq;injection hq with e1 e2
   injection e1 with q1 q2 q3 q4
   subst q1;subst q2;subst q3;subst q4;subst e2;exact zqf h i false ha kb fun A' l' c' w' hb Yk kq JY=>zgY k' n' t' ks' A' l' c' kb KA kl kc w.heap.size L w' ((hb.cell (p:=⟨kb,0,none⟩) qR).trans ke) (ybY qR hb.size) (hK.rd.below hb) hb.size hK.lim (by omega) kq JY Yk true hk
  | false=>
   rw[zj0 ha hk] at hq;injection hq with e1 e2
   unfold za3 at e1;injection e1 with q1 q2 q3 q4
   subst q1;subst q2;subst q3;subst q4;subst e2;exact zsB h i false ha kb fun A' l' c' w' hb Yk kq JY=>zgY k' n' t' ks' A' l' c' kb KA kl kc w.heap.size L w' ((hb.cell (p:=⟨kb,0,none⟩) qR).trans ke) (ybY qR hb.size) (hK.rd.below hb) hb.size hK.lim (by omega) kq JY Yk false hk
theorem zca {X:Nat→Prop}{w:World}{g:Nat}{ls:List V}{A:Oz}{l c:Nat}{sp sp':Bool}{k n:Nat}{t:ByteArray}{ks:List V}{KA:Oz}{kl kc:Nat}{L:Lz}(h:Fld 140 X w g ls A l c sp)(hK:Kinds w KA kl L)(i:Int)(hN:zai ls≤1073741824)(hq:valR ls i L sp=(.mk k n t ks,sp')) :
  Calls prog 57 #[.pointer (some ⟨g,0,none⟩),.int .i64 i,.slice KA kl kc] w (zaZ 140 X g ls A l c (QV w.heap.size k n t ks) sp' w):=by
 have hB:Below w.heap.size w ((w.alloc (.cells #[.slice KA kl kc] 22)).alloc (.cells #[.int .u8 0,.int .u64 0,.string ⟨#[]⟩,.slice none 0 0] 43)):=zaw w _ _;have ke:((w.alloc (.cells #[.slice KA kl kc] 22)).alloc (.cells #[.int .u8 0,.int .u64 0,.string ⟨#[]⟩,.slice none 0 0] 43)).cell? ⟨w.heap.size,0,none⟩=some (.slice KA kl kc):=by simp
 have Hz:=Box.new2 w (.cells #[.slice KA kl kc] 22) (.int .u8 0) (.int .u64 0) (.string ⟨#[]⟩) (.slice none 0 0);have hF0:=h.call hB;have kO:=hK.call hB;have Hu:w.heap.size < ((w.alloc (.cells #[.slice KA kl kc] 22)).alloc (.cells #[.int .u8 0,.int .u64 0,.string ⟨#[]⟩,.slice none 0 0] 43)).heap.size:=by simp;omega
 have HB:=zaa hB;have HF:=zaa h;have kI:=zaa Hz;have HA:=zaa (fun w1 (Ha:Below _ _ w1)=>zqg (hF0.call Ha) (kO.call Ha) ((Ha.cell (p:=⟨w.heap.size,0,none⟩) Hu).trans ke) (ybY Hu Ha.size) i hN hq);clear hB ke Hz hF0 kO Hu h hK hq hN;go_enter func57,ntmps57;go_wp2_with fail;refine(zhw _).mono ?_;rintro e w1 ⟨rfl,Ha⟩;have HA1:=zaa (HA.out w1 Ha);have Hl:=zaa (zad HB.out Ha);have uV:=zaa (kI.out.call Ha);clear Ha HA kI;go_wp2_with fail;refine HA1.out.mono ?_;rintro e w2 ⟨r,rfl,⟨A2,l2,c2,rfl,k9⟩,ho,jz⟩;have Kz:=HF.out.lt;have yo:=Box.off uV.out ho (show ¬ (w.heap.size+1=g) by omega);obtain⟨f0,f1,f2,f3,ff⟩:=yo.all;have Vi:=zaa (k9.less (B':=w.heap.size+2) (by have:=uV.out.lt;omega));have J2:=zaa ((Off.of _ Hl.out).trans ho);have HF2:=zaa jz.obj;have VG:=zaa Kz;clear ho jz k9 yo Kz;go_wp2;refine bodyPost_ret (v:=.agg #[.int .u8 (k:Int),.int .u64 (n:Int),.string t,.slice A2 l2 c2]) (by simp[results,results57,go_sem,f0,f1,f2,f3]) rfl ?_;have ho:=Off.set4 J2.out (g:=w.heap.size+1) (by omega) (.int .u8 (k:Int)) (.int .u64 (n:Int)) (.string t) (.slice A2 l2 c2);exact⟨_,rfl,⟨A2,l2,c2,rfl,(Vi.out.far4 (by omega) _ _ _ _).less (by omega)⟩,ho,HF.out.fin ho (zeE HF2.out (by have:=VG.out;omega) _ _ _ _)⟩
def zfo (ls:List V)(n:Nat):Bool:=match ls[n]? with | some v=>decide (v.kind=1) | none=>false
def cutN (ls:List V):Nat→Nat
 | 0=>0
 | n+1=>if zfo ls n=true then cutN ls n else n+1
def trim (ls:List V):List V:=ls.take (cutN ls ls.length)
theorem znT {ls:List V}{i k n:Nat}{t:ByteArray}{ks:List V}(hx:ls[i]? = some (.mk k n t ks))(hk:k=1):cutN ls (i+1)=cutN ls i:=by
 show (if zfo ls i=true then _ else _)=_
 rw[if_pos (by unfold zfo;rw[hx];exact decide_eq_true hk)]
theorem znU {ls:List V}{i k n:Nat}{t:ByteArray}{ks:List V}(hx:ls[i]? = some (.mk k n t ks))(hk:¬ k=1):cutN ls (i+1)=i+1:=by
 show (if zfo ls i=true then _ else _)=_
 rw[if_neg (by unfold zfo;rw[hx];exact fun h=>hk (of_decide_eq_true h))]
theorem zi1 {own:Bool}{w:World}{P:Nat→Prop}:∀ {ks:List V} {b o j:Nat},RowL own w P ks b o→RowL own w P (ks.take j) b o
 | [],_,_,_,_=>by simp[RowL]
 | _::_,_,_,0,_=>trivial
 | x::ks,b,o,j+1,h=>⟨h.1,zi1 h.2⟩
theorem zi2 {own:Bool}{w:World}{P:Nat→Prop}{ks:List V}{A:Oz}{l c j:Nat}(h:Val.Kids own w P ks A l c)(hj:j≤l):Val.Kids own w P (ks.take j) A j c:=by
 refine⟨by rw[List.length_take,←h.len];omega,yb1 hj h.cap,fun h0=>?_⟩;obtain⟨b,o,e,hP,ho,hr⟩:=h.2.2 (by omega);exact⟨b,o,e,hP,ho,zi1 hr⟩
theorem zdr:∀ (ks:List V) (j:Nat),zai (ks.take j)≤zai ks
 | [],_=>by simp
 | _::_,0=>by simp[zai]
 | x::ks,j+1=>by
  have:=zdr ks j;simp only[List.take_succ_cons,zai];omega
theorem zbP (code:Nat)(w:World):Calls prog 81 #[.int .u64 (code:Int)] w fun e w'=>e=.returned (.agg #[.int .u8 6,.int .u64 (code:Int),.string ⟨#[]⟩,.slice none 0 0])∧Below w.heap.size w w':=by
 have Hg:Below w.heap.size w (w.alloc (.cells #[.int .u8 0,.int .u64 0,.string ⟨#[]⟩,.slice none 0 0] 43)):=(za _ _);have hx:=Box.new w (.int .u8 0) (.int .u64 0) (.string ⟨#[]⟩) (.slice none 0 0);have K7:∀ w,Calls prog 67 #[.int .u8 6,.int .u64 (code:Int)] w fun e w'=>e=.returned (.agg #[.int .u8 6,.int .u64 (code:Int),.string ⟨#[]⟩,.slice none 0 0])∧Below w.heap.size w w':=fun w=>Val.zaq 6 code w;go_enter func81,ntmps81;go_wp2_with fail;refine(K7 _).mono ?_;rintro e w1 ⟨rfl,Ha⟩;obtain⟨d0,d1,d2,d3,df⟩:=(hx.call Ha).all;have HB:=zaa (zad Hg Ha);clear hx Hg Ha K7;go_wp2;refine bodyPost_ret (v:=.agg #[.int .u8 6,.int .u64 (code:Int),.string ⟨#[]⟩,.slice none 0 0]) (by simp[results,results81,go_sem,d0,d1,d2,d3]) rfl ?_;exact⟨rfl,zae HB.out (by omega) _ _ _ _⟩
def putL (code:Nat)(ks:List V):List V:=[.mk 6 code ⟨#[]⟩ [],.mk 22 0 ⟨#[]⟩ ks]
def zkR (code:Nat)(ks:List V)(w:World)(e:Ending)(w':World):Prop:=∃ A1 l1 c1,e=.returned (.agg #[.int .u8 25,.int .u64 0,.string ⟨#[]⟩,.slice A1 l1 c1])∧Nw w.heap.size w' (putL code ks) A1 l1 c1∧Below w.heap.size w w'
theorem zkS (code:Nat)(ks:List V)(A:Oz)(l c:Nat)(w:World)(hN:zai ks≤536870912)(ky:code < 18446744073709551616)(hK:Kd w ks A l c) :
  Calls prog 51 #[.agg #[.int .u8 6,.int .u64 (code:Int),.string ⟨#[]⟩,.slice none 0 0],.agg #[.int .u8 22,.int .u64 0,.string ⟨#[]⟩,.slice A l c]] w (zkR code ks w):=
 zie 6 code ⟨#[]⟩ [] none 0 0 22 0 ⟨#[]⟩ ks A l c w (by simp only[zai,bulk,ByteArray.size];simp;omega) (by omega) ky (by omega) (by omega) (Kd.none_ _ _ _) hK
theorem znV (code:Nat)(ls:List V)(A:Oz)(l c:Nat)(w:World)(hN:zai ls≤536870912)(ky:code < 18446744073709551616)(hK:Kd w ls A l c) :
  Calls prog 48 #[.int .u64 (code:Int),.slice A l c] w (zkR code (trim ls) w):=by
 have hx:=Box.new w (.int .u8 0) (.int .u64 0) (.string ⟨#[]⟩) (.slice none 0 0);have Hg:Below w.heap.size w (w.alloc (.cells #[.int .u8 0,.int .u64 0,.string ⟨#[]⟩,.slice none 0 0] 43)):=(za _ _);have HT:=zaa (show trim ls=ls.take (cutN ls l) by unfold trim;rw[hK.len]);have uW:=zaa (fun(n j:Nat) (h1:j≤n) (h2:n≤l)=>(zjI (T:=41) (e:=43) (size:=4) underlying41 rfl rfl A n c j h1 (yb1 h2 hK.cap)));have Jb:=za0 ls;have hlen:=hK.len;have HL:=zaa (show l≤536870912 by omega);have HN:=zaa hN;have HC:=zaa ky;have HK:=zaa (hK.call Hg);have HX:=zaa hx;have HB:=zaa Hg;have KX:=zaa hK.cap;clear hN ky hK hx Hg Jb hlen;go_enter func48,ntmps48;go_wp2;obtain⟨W,hW⟩:∃ W,w.alloc (.cells #[.int .u8 0,.int .u64 0,.string ⟨#[]⟩,.slice none 0 0] 43)=W:=⟨_,rfl⟩;have Yl:Hid (Kd W ls A l c):=zaa (hW▸HK.out);have Ym:Hid (Below w.heap.size w W):=zaa (hW▸HB.out);have ba:Hid (Box W w.heap.size (.int .u8 0) (.int .u64 0) (.string ⟨#[]⟩) (.slice none 0 0)):=zaa (hW▸HX.out);clear HK HB HX;rw[hW];clear hW;go_loopw [1] (fun s wr=>∃ j:Nat,j≤l∧s=.slice A j c∧cutN ls j=cutN ls l∧Below W.heap.size W wr) (fun s _=>match s with | .slice _ n _=>n | _=>0)
 case atStart=>exact⟨l,zab,rfl,rfl,Below.refl _ _⟩
 case round=>
  obtain⟨j,hj,rfl,hq,hb⟩:=hrel;have HQ:=zaa hq;have gC:=zaa hb;have hL:=HL.out;cases j with
  | zero=>
   clear hq hb;have Y2:=zaa (zi2 (Yl.out.call gC.out) hj);have HE:Hid (ls.take 0=trim ls):=zaa (by rw[HT.out,←HQ.out];rfl);go_wp2_with (first
     | (go_at_call 81;refine(zbP code _).mono ?_;rintro e w2 ⟨rfl,He⟩;have Gb:=zaa He)
     | (go_at_call 51;refine(zkS code _ _ _ _ _ (by have:=HN.out;have:=zdr ls 0;omega) HC.out (Kd.call Y2.out Gb.out)).mono ?_;rintro e w3 ⟨A1,l1,c1,rfl,Jk,Hj⟩;have VF:=zaa Jk;have Gv:=zaa (Ym.out.trans ((zad gC.out (zad Gb.out Hj)).mono Ym.out.size));obtain⟨d0,d1,d2,d3,df⟩:=(ba.out.call (zad gC.out (zad Gb.out Hj))).all))
   refine bodyPost_ret (v:=.agg #[.int .u8 25,.int .u64 0,.string ⟨#[]⟩,.slice A1 l1 c1]) (by simp[results,results48,go_sem,d0,d1,d2,d3]) rfl ?_;exact⟨A1,l1,c1,rfl,by rw[←HE.out];exact(VF.out.far4 (by have:=ba.out.lt;have:=gC.out.size;have:=Gb.out.size;omega) _ _ _ _).less (by have:=Ym.out.size;have:=gC.out.size;have:=Gb.out.size;omega),zae Gv.out (by omega) _ _ _ _⟩
  | succ i=>
   obtain⟨bb,oo,k',n',t',ks',A',l',c',hAA,j0,hx,h0,h1,h2,h3,Gn,k8,gV⟩:=(Yl.out.call hb).at_ (i:=i) (by omega);subst hAA;have HX:=zaa hx;have Yn:=zgX k' n' t' A' l' c' wr;by_cases gF:k'=1
   ·rw[decide_eq_true gF] at Yn;have BQ:=zaa Yn;have HE:Hid (cutN ls i=cutN ls l):=zaa (by rw[←HQ.out,znT HX.out gF]);have bc:=(uW.out (i+1) i (by omega) hj).1;have hct2:=(uW.out (i+1) i (by omega) hj).2;clear hq hb hx Yn gF gV;go_wp2_with (go_at_call 80;refine BQ.out.mono ?_;rintro e w1 ⟨rfl,Ha⟩);go_roundw
    case rel=>exact⟨i,by omega,rfl,HE.out,gC.out.trans (Ha.mono gC.out.size)⟩
    case measure=>simp
   ·rw[decide_eq_false gF] at Yn;have BQ:=zaa Yn;have HE:Hid (ls.take (i+1)=trim ls):=zaa (by rw[HT.out,←HQ.out,znU HX.out gF]);have Y2:=zaa (zi2 (Yl.out.call gC.out) hj);clear hq hb hx Yn gF gV;go_wp2_with (first
     | (go_at_call 80;refine BQ.out.mono ?_;rintro e w1 ⟨rfl,Ha⟩;have Hl:=zaa Ha)
     | (go_at_call 81;refine(zbP code _).mono ?_;rintro e w2 ⟨rfl,He⟩;have Gb:=zaa (zad Hl.out He))
     | (go_at_call 51;refine(zkS code _ _ _ _ _ (by have:=HN.out;have:=zdr ls (i+1);omega) HC.out (Kd.call Y2.out Gb.out)).mono ?_;rintro e w3 ⟨A1,l1,c1,rfl,Jk,Hj⟩;have VF:=zaa Jk;have Gv:=zaa (Ym.out.trans ((zad gC.out (zad Gb.out Hj)).mono Ym.out.size));obtain⟨d0,d1,d2,d3,df⟩:=(ba.out.call (zad gC.out (zad Gb.out Hj))).all))
    refine bodyPost_ret (v:=.agg #[.int .u8 25,.int .u64 0,.string ⟨#[]⟩,.slice A1 l1 c1]) (by simp[results,results48,go_sem,d0,d1,d2,d3]) rfl ?_;exact⟨A1,l1,c1,rfl,by rw[←HE.out];exact(VF.out.far4 (by have:=ba.out.lt;have:=gC.out.size;have:=Gb.out.size;omega) _ _ _ _).less (by have:=Ym.out.size;have:=gC.out.size;have:=Gb.out.size;omega),zae Gv.out (by omega) _ _ _ _⟩
end Fl
end Go.Proofs.YtbbbanfggcediaaGreatDoor
