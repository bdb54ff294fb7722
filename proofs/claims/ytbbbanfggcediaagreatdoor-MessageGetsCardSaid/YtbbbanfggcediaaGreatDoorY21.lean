/- Contracts, each with its premises. -/
import Derived.Test.YtbbbanfggcediaaGreatDoorY20
set_option maxRecDepth 100000
set_option maxHeartbeats 8000000
namespace Go.Proofs.YtbbbanfggcediaaGreatDoor
open _root_.Go.Proofs.Tryz
open Bool renaming false_ne_true→ycG
open Go.RowKit.Below renaming heap_setCell→ycE
open Nat renaming lt_of_lt_of_le→ycD,le_trans→ycF
namespace Me
open Go.RowKit Utf Val Fl Oc V
mutual
theorem zoo {w:World}{g:Nat}{P:Nat→Prop}{p ttl n:Int}{s:ByteArray}{x4:Value}(h:BxM w g (.int .u8 p) (.int .u32 ttl) (.int .u32 n) (.string s) x4):∀ {v:V} {b o:Nat},RepV false w P v b o→RepV false w (fun i=>P i∧i≠g) v b o
 | .mk _ _ _ ks,_,_,hr=>by
  obtain⟨A,l,c,h0,h1,h2,h3,Gn,hn,hl,xW,Hr⟩:=hr;refine⟨A,l,c,h0,h1,h2,h3,Gn,hn,hl,xW,fun h9=>?_⟩;obtain⟨b',o',e,hP,_,hR⟩:=Hr h9;have Hp:b'≠g:=zjf h (by rw[hl] at h9;exact h9) hR;exact⟨b',o',e,⟨hP,Hp⟩,(fun h=>by cases h),zfc h hR⟩
theorem zjf {w:World}{g:Nat}{P:Nat→Prop}{p ttl n:Int}{s:ByteArray}{x4:Value}(h:BxM w g (.int .u8 p) (.int .u32 ttl) (.int .u32 n) (.string s) x4):∀ {vs:List V} {b o:Nat},0 < vs.length→RowL false w P vs b o→b≠g
 | .mk _ _ _ _::_,b,o,_,hr=>by
  obtain⟨A,l,c,h0,h1,_⟩:=hr.1;intro e;subst e;have hc:∀ j,w.cell? ⟨b,j,none⟩=#[Value.int .u8 p,.int .u32 ttl,.int .u32 n,.string s,x4][j]?:=fun j=>by
   unfold World.cell?;rw[h];rfl
  rw[hc] at h0 h1;by_cases ho:o=0
  ·subst ho;simp at h1
  ·by_cases h9:o=1
   ·subst h9;simp at h0
   ·by_cases h8:o=2
    ·subst h8;simp at h0
    ·by_cases h7:o=3
     ·subst h7;simp at h0
     ·by_cases h6:o=4
      ·subst h6;simp at h1
      ·rw[Array.getElem?_eq_none (by simp;omega)] at h0;cases h0
theorem zfc {w:World}{g:Nat}{P:Nat→Prop}{p ttl n:Int}{s:ByteArray}{x4:Value}(h:BxM w g (.int .u8 p) (.int .u32 ttl) (.int .u32 n) (.string s) x4):∀ {vs:List V} {b o:Nat},RowL false w P vs b o→RowL false w (fun i=>P i∧i≠g) vs b o
 | [],_,_,_=>trivial
 | _::_,_,_,hr=>⟨zoo h hr.1,zfc h hr.2⟩
end
theorem zg5 {w:World}{g:Nat}{P:Nat→Prop}{p ttl n:Int}{s:ByteArray}{x4:Value}(h:BxM w g (.int .u8 p) (.int .u32 ttl) (.int .u32 n) (.string s) x4){ks:List V}{A:Oz}{l c:Nat}(hK:Val.Kids false w P ks A l c):Val.Kids false w (fun i=>P i∧i≠g) ks A l c:=by
 refine⟨hK.1,hK.2.1,fun h9=>?_⟩;obtain⟨b',o',e,hP,_,hR⟩:=hK.2.2 h9;exact⟨b',o',e,⟨hP,zjf h (by rw[hK.1] at h9;exact h9) hR⟩,(fun h=>by cases h),zfc h hR⟩
theorem zd6 {K:IntKind}{Mx:Nat}{T:TypeId}{w w':World}{base n c:Nat}{A:Oz}{l:Lz}{X:Nat→Prop}(h:Utf.Own K Mx T w base A n c l)(ho:Off X w w')(hX:∀ i,base≤i→¬ X i):Utf.Own K Mx T w' base A n c l:=by
 have hk:∀ g,base≤g→g < w.heap.size→w'.heap[g]? = w.heap[g]?:=fun g h1 h2=>ho.block g h2 (hX g h1);refine⟨h.1,⟨h.2.1.1,?_⟩,h.2.2.keep fun g hg=>hk g (h.blk g hg).1 (h.blk g hg).2⟩;rcases h.2.1.2 with h | ⟨g,cap,cur,h1,h2,h3,h4⟩
 ·exact .inl h
 ·exact .inr ⟨g,cap,cur,h1,h2,(hk g h2 (Array.getElem?_eq_some_iff.1 h3).1).trans h3,h4⟩
def MG (w:World)(base g:Nat)(m:M):Prop:=g < base∧base≤w.heap.size∧∃ Ab nb cb,BxM w g (.int .u8 (m.p:Int)) (.int .u32 (m.ttl:Int)) (.int .u32 (m.n:Int)) (.string m.id) (.slice Ab nb cb)∧Utf.Own .u8 256 5 w base Ab nb cb m.body
theorem MG.call {w w':World}{base g:Nat}{m:M}(h:MG w base g m)(hb:Below w.heap.size w w'):MG w' base g m:=by
 obtain⟨h1,h2,Ab,nb,cb,h3,h4⟩:=h;exact⟨h1,ycF h2 hb.size,Ab,nb,cb,h3.call hb,h4.below hb⟩
def zb5 (base g:Nat)(o:Option M)(w:World)(e:Ending)(w':World):Prop:=
 match o with
 | none=>e=.returned (.bool false)∧Off (fun i=>i=g∨base≤i) w w'
 | some m=>e=.returned (.bool true)∧Off (fun i=>i=g∨base≤i) w w'∧MG w' base g m
theorem zcG {w w':World}{base g:Nat}(h:Off (fun i=>i=g) w w'):Off (fun i=>i=g∨base≤i) w w':=h.mono fun _ h=>.inl h
theorem zeR (k n:Nat)(t:ByteArray)(A:Oz)(l c g base:Nat)(m:M)(w:World)(h:MG w base g m):Calls prog 27 #[.agg #[.int .u8 (k:Int),.int .u64 (n:Int),.string t,.slice A l c],.pointer (some ⟨g,0,none⟩)] w (zb5 base g (some m) w):=by
 have Hg:Below w.heap.size w (w.alloc (.cells #[.int .u8 (k:Int),.int .u64 (n:Int),.string t,.slice A l c] 43)):=(za _ _);have H:=zaa (h.call Hg);have HB:=zaa Hg;clear h Hg;go_enter func27,ntmps27;go_wp2;go_ret;exact⟨rfl,Off.of _ HB.out,H.out⟩
theorem zhL {v:V}{code:Nat}{nm:ByteArray}{ls:List V}(h:newR v code nm=some ls):mayL ls=true:=by
 unfold newR at h;by_cases hc:okB v=true∧v.kind=25
 ·rw[if_pos hc] at h;obtain⟨k,n,t,ks⟩:=v;have hm:=zcs hc.1;have QF:=zbn hm
  match ks,h,QF with
  | [d,b],h,QF=>
   dsimp only[V.kids] at h
   by_cases hq:za1 d code nm=true∧b.kind=22
   ·rw[if_pos hq] at h;injection h with h
    subst h;obtain⟨bk,bn,bt,bks⟩:=b;simp only[mayL,Bool.and_eq_true] at QF;exact zbn QF.2.1
   ·rw[if_neg hq] at h;cases h
  | [],h,_=>cases h
  | [_],h,_=>cases h
  | _::_::_::_,h,_=>cases h
 ·rw[if_neg hc] at h;cases h
theorem zgr {v:V}{code:Nat}{nm:ByteArray}{ls:List V}(h:newR v code nm=some ls):zai ls≤zai v.kids:=by
 unfold newR at h;by_cases hc:okB v=true∧v.kind=25
 ·rw[if_pos hc] at h;obtain⟨k,n,t,ks⟩:=v
  match ks,h with
  | [d,b],h=>
   dsimp only[V.kids] at h
   by_cases hq:za1 d code nm=true∧b.kind=22
   ·rw[if_pos hq] at h;injection h with h
    subst h;obtain⟨bk,bn,bt,bks⟩:=b;simp only[V.kids,zai,bulk];omega
   ·rw[if_neg hq] at h;cases h
  | [],h=>cases h
  | [_],h=>cases h
  | _::_::_::_,h=>cases h
 ·rw[if_neg hc] at h;cases h
noncomputable def zcQ (v:V)(m:M):Option M:=match newR v 112 (mname 0) with
 | none=>none
 | some ls=>if hdB ls=true then none else some { m with p:=(oneR ls 1 3 false false 4 V.num).1,ttl:=(oneR ls 2 5 false false 0 V.num).1,n:=(oneR ls 4 5 false false 0 V.num).1 }
structure HQ (w wi:World) (g:Nat) (y0 y1 y2:Int) (y3:ByteArray) (y4:Value) (f:Nat) (ls:List V) (A:Oz) (l c:Nat) (sp:Bool):Prop where
 fld:Fld 140 (fun i=>f≤i) wi f ls A l c sp
 bx:BxM wi g (.int .u8 y0) (.int .u32 y1) (.int .u32 y2) (.string y3) y4
 off:Off (fun i=>i=g) w wi
 ge:w.heap.size≤f
 lt:g < w.heap.size
section
variable {w wi w':World} {g:Nat} {y0 y1 y2:Int} {y3:ByteArray} {y4:Value} {f:Nat} {ls:List V} {A:Oz} {l c:Nat} {sp sp':Bool}
theorem HQ.call (h:HQ w wi g y0 y1 y2 y3 y4 f ls A l c sp)(hb:Below wi.heap.size wi w'):HQ w w' g y0 y1 y2 y3 y4 f ls A l c sp:=⟨h.fld.call hb,h.bx.call hb,h.off.next hb,h.ge,h.lt⟩
theorem HQ.alloc (h:HQ w wi g y0 y1 y2 y3 y4 f ls A l c sp)(o:Obj):HQ w (wi.alloc o) g y0 y1 y2 y3 y4 f ls A l c sp:=h.call ((za _ _))
theorem HQ.next (h:HQ w wi g y0 y1 y2 y3 y4 f ls A l c sp)(ho:Off (fun i=>i=f) wi w')(hF:Fld 140 (fun i=>f≤i) w' f ls A l c sp'):HQ w w' g y0 y1 y2 y3 y4 f ls A l c sp':=by
 have Hp:g≠f:=by have:=h.ge;have:=h.lt;omega
 refine⟨hF,h.bx.off ho Hp,?_,h.ge,h.lt⟩;exact⟨ho.os.trans h.off.os,ho.tape.trans h.off.tape,ho.output.trans h.off.output,ycF h.off.size ho.size,fun i hi hx=>(ho.block i (ycD hi h.off.size) (by have:=h.ge;omega)).trans (h.off.block i hi hx)⟩
theorem HQ.spoil (h:HQ w wi g y0 y1 y2 y3 y4 f ls A l c sp):HQ w (wi.setCell ⟨f,1,none⟩ (.bool true)) g y0 y1 y2 y3 y4 f ls A l c true:=h.next (Off.set _ _ _ rfl) h.fld.spoil
theorem HQ.far (h:HQ w wi g y0 y1 y2 y3 y4 f ls A l c sp)(j:Nat)(v:Value):Fld 140 (fun i=>f≤i) (wi.setCell ⟨g,j,none⟩ v) f ls A l c sp∧Off (fun i=>i=g) w (wi.setCell ⟨g,j,none⟩ v):=by
 have Hp:f≠g:=by have:=h.ge;have:=h.lt;omega
 refine⟨⟨(ycE wi ⟨g,j,none⟩ v f Hp).trans h.fld.obj,?_,h.fld.mem⟩,h.off.trans (Off.set _ _ _ rfl)⟩;exact((zg5 h.bx h.fld.kd).keep fun i hi=>ycE wi ⟨g,j,none⟩ v i hi.2).mono fun i hi=>⟨by simpa using hi.1.1,hi.1.2⟩
theorem HQ.set0 (h:HQ w wi g y0 y1 y2 y3 y4 f ls A l c sp)(v:Int):HQ w (wi.setCell ⟨g,0,none⟩ (.int .u8 v)) g v y1 y2 y3 y4 f ls A l c sp:=by
 refine⟨(h.far 0 _).1,?_,(h.far 0 _).2,h.ge,h.lt⟩;have:=h.bx;unfold BxM at this ⊢;simp[World.setCell,Array.getElem?_modify,this]
theorem HQ.set1 (h:HQ w wi g y0 y1 y2 y3 y4 f ls A l c sp)(v:Int):HQ w (wi.setCell ⟨g,1,none⟩ (.int .u32 v)) g y0 v y2 y3 y4 f ls A l c sp:=by
 refine⟨(h.far 1 _).1,?_,(h.far 1 _).2,h.ge,h.lt⟩;have:=h.bx;unfold BxM at this ⊢;simp[World.setCell,Array.getElem?_modify,this]
theorem HQ.set2 (h:HQ w wi g y0 y1 y2 y3 y4 f ls A l c sp)(v:Int):HQ w (wi.setCell ⟨g,2,none⟩ (.int .u32 v)) g y0 y1 v y3 y4 f ls A l c sp:=by
 refine⟨(h.far 2 _).1,?_,(h.far 2 _).2,h.ge,h.lt⟩;have:=h.bx;unfold BxM at this ⊢;simp[World.setCell,Array.getElem?_modify,this]
theorem HQ.set3 (h:HQ w wi g y0 y1 y2 y3 y4 f ls A l c sp)(v:ByteArray):HQ w (wi.setCell ⟨g,3,none⟩ (.string v)) g y0 y1 y2 v y4 f ls A l c sp:=by
 refine⟨(h.far 3 _).1,?_,(h.far 3 _).2,h.ge,h.lt⟩;have:=h.bx;unfold BxM at this ⊢;simp[World.setCell,Array.getElem?_modify,this]
end
theorem zjg (x:Nat)(w:World)(hx:x < 256)(g:Nat)(hg:w.heap.size=g):Kinds (w.alloc (.cells #[.int .u8 (x:Int)] 5)) (some ⟨g,0,none⟩) 1 [x]:=by
 subst hg;exact⟨by have:=zjF w [x] 1 rfl (by simpa using hx);simpa [vs] using this,by omega⟩
theorem zqP {ls:List V}{v0 v3:V}{s0 s1 s2 s3 s4 s5:Bool}{N1 N2 N3:Nat}(h0:valR ls 0 [2] false=(v0,s0))(h3:valR ls 3 [2] s0=(v3,s1))(h1:oneR ls 1 3 false s1 4 V.num=(N1,s2))(hs:s3=(s2||decide (9 < N1)))
  (h2:oneR ls 2 5 false s3 0 V.num=(N2,s4)) (h4:oneR ls 4 5 false s4 0 V.num=(N3,s5)):(oneR ls 1 3 false false 4 V.num).1=N1∧(oneR ls 2 5 false false 0 V.num).1=N2∧(oneR ls 4 5 false false 0 V.num).1=N3∧hdB ls=(s5||decide (5 < ls.length)):=by
 have e0:=congrArg Prod.snd h0;have e3:=congrArg Prod.snd h3;have e1:=congrArg Prod.snd h1;have e2:=congrArg Prod.snd h2;have e4:=congrArg Prod.snd h4;have f1:=congrArg Prod.fst h1;have f2:=congrArg Prod.fst h2;have f4:=congrArg Prod.fst h4;rw[zc1,zk4] at e0 e3;rw[zbM] at e1 e2 e4;rw[zk3] at f1 f2 f4;simp only at e0 e3 e1 e2 e4 f1 f2 f4;refine⟨f1,f2,f4,?_⟩;unfold hdB;rw[f1,←e4,←e2,hs,←e1,←e3,←e0];cases b1 ls 0 2 false<;>cases b1 ls 1 3 false<;>cases b1 ls 2 5 false<;>cases b1 ls 3 2 false<;>cases b1 ls 4 5 false<;>cases decide (9 < N1)<;>cases decide (5 < ls.length)<;>rfl
theorem zhY {ls:List V}{sp:Bool}{n:Nat}:(zb7 ls sp (n:Int)==0) = !(sp||decide (n < ls.length)):=by
 unfold zb7;cases sp with
 | true=>rw[if_pos (.inl rfl)];rfl
 | false=>
  by_cases h:n < ls.length
  ·rw[if_pos (.inr (by omega)),decide_eq_true h];rfl
  ·rw[if_neg (by simp;omega),decide_eq_false h];rfl
section
variable {X:Nat→Prop} {w:World} {g:Nat} {ls:List V} {A:Oz} {l c:Nat} {sp sp':Bool} {N:Nat}
theorem zui (h:Fld 140 X w g ls A l c sp)(hq:oneR ls 1 3 false sp 4 V.num=(N,sp')):Calls prog 58 #[.pointer (some ⟨g,0,none⟩),.int .i64 1,.int .u8 3,.bool false,.int .u64 4] w (zaZ 140 X g ls A l c (fun r _=>r=.int .u64 (N:Int)) sp' w):=Fl.zaq h 1 3 false 4 N hq
theorem zuj (h:Fld 140 X w g ls A l c sp)(hq:oneR ls 2 5 false sp 0 V.num=(N,sp')):Calls prog 58 #[.pointer (some ⟨g,0,none⟩),.int .i64 2,.int .u8 5,.bool false,.int .u64 0] w (zaZ 140 X g ls A l c (fun r _=>r=.int .u64 (N:Int)) sp' w):=Fl.zaq h 2 5 false 0 N hq
theorem zuk (h:Fld 140 X w g ls A l c sp)(hq:oneR ls 4 5 false sp 0 V.num=(N,sp')):Calls prog 58 #[.pointer (some ⟨g,0,none⟩),.int .i64 4,.int .u8 5,.bool false,.int .u64 0] w (zaZ 140 X g ls A l c (fun r _=>r=.int .u64 (N:Int)) sp' w):=Fl.zaq h 4 5 false 0 N hq
theorem lit2 (w:World)(x:Nat)(hx:x < 256)(v:Int)(hv:v=(x:Int))(g:Nat)(hg:w.heap.size=g):Kinds (w.alloc (.cells #[.int .u8 v] 5)) (some ⟨g,0,none⟩) 1 [x]:=by
 subst hv;exact zjg x w hx g hg
end
theorem zhZ (w:World)(g:Nat)(hg:w.heap.size=g):Kinds (w.alloc (.cells #[.int .u8 2] 5)) (some ⟨g,0,none⟩) 1 [2]:=lit2 w 2 (by omega) 2 rfl g hg
theorem zlb {n:Nat}(h:n < 4294967296):IntKind.u32.wrap (n:Int)=(n:Int):=by rw[IntKind.wrap_u32];omega
theorem zul {n:Nat}(h:n < 256):IntKind.u8.wrap (n:Int)=(n:Int):=by rw[IntKind.wrap_u8];omega
theorem zum {w wi:World}{base g:Nat}{m:M}{ls:List V}{N1 N2 N3 f:Nat}{P1 P2 P3:Int}{A:Oz}{l c:Nat}{sp:Bool}{Ab:Oz}{nb cb:Nat}(hG:g < base∧base≤w.heap.size)(hO:Utf.Own .u8 256 5 w base Ab nb cb m.body)(h:HQ w wi g P1 P2 P3 m.id (.slice Ab nb cb) f ls A l c sp)(QL:IntKind.u8.wrap (N1:Int)=P1)(Jn:IntKind.u32.wrap (N2:Int)=P2)(VK:IntKind.u32.wrap (N3:Int)=P3)
  (hm:mayL ls=true) (hc:(oneR ls 1 3 false false 4 V.num).1=N1∧(oneR ls 2 5 false false 0 V.num).1=N2∧(oneR ls 4 5 false false 0 V.num).1=N3∧hdB ls=(sp||decide (5 < ls.length))) :
  zb5 base g (if hdB ls=true then none else some { m with p:=(oneR ls 1 3 false false 4 V.num).1,ttl:=(oneR ls 2 5 false false 0 V.num).1,n:=(oneR ls 4 5 false false 0 V.num).1 }) w (.returned (.bool (zb7 ls sp 5==0))) wi:=by
 have hd:(zb7 ls sp 5==0) = !hdB ls:=by rw[hc.2.2.2];exact zhY (n:=5)
 rw[hd];cases hb:hdB ls with
 | true=>rw[if_pos rfl];exact⟨rfl,zcG h.off⟩
 | false=>
  rw[if_neg ycG];refine⟨rfl,zcG h.off,hG.1,ycF hG.2 h.off.size,Ab,nb,cb,?_,zd6 hO h.off fun i hi e=>by have:=hG.1;omega⟩;have h9:¬ 9 < N1:=fun h9=>by
   unfold hdB at hb;rw[hc.1,decide_eq_true h9] at hb;simp at hb
  have h2:=zk6 hm 2;have h4:=zk6 hm 4
  show BxM wi g (.int .u8 ((oneR ls 1 3 false false 4 V.num).1:Int)) (.int .u32 ((oneR ls 2 5 false false 0 V.num).1:Int)) (.int .u32 ((oneR ls 4 5 false false 0 V.num).1:Int)) _ _
  rw[hc.1,hc.2.1,hc.2.2.1];rw[hc.2.1] at h2;rw[hc.2.2.1] at h4;rw[←zul (show N1 < 256 by omega),←zlb h2,←zlb h4,QL,Jn,VK];exact h.bx
theorem zs4 (k n:Nat)(t:ByteArray)(ks:List V)(A:Oz)(l c g base:Nat)(m:M)(w:World)(hN:zai ks≤268435456)(ht:t.size≤268435456)(hn:n < 18446744073709551616)(hK:Kd w ks A l c)(Ho:Tab w)(hG:MG w base g m) :
  Calls prog 26 #[.agg #[.int .u8 (k:Int),.int .u64 (n:Int),.string t,.slice A l c],.pointer (some ⟨g,0,none⟩)] w (zb5 base g (zcQ (.mk k n t ks) m) w):=by
 have Hg:Below w.heap.size w (w.alloc (.cells #[.int .u8 (k:Int),.int .u64 (n:Int),.string t,.slice A l c] 43)):=(za _ _);have Kp:Hid (Calls prog 56 #[.agg #[.int .u8 (k:Int),.int .u64 (n:Int),.string t,.slice A l c],.int .u64 112,.string ⟨#[97,109,113,112,58,104,101,97,100,101,114,58,108,105,115,116]⟩] (w.alloc (.cells #[.int .u8 (k:Int),.int .u64 (n:Int),.string t,.slice A l c] 43)) (zeG (newR (.mk k n t ks) 112 (mname 0)) (w.alloc (.cells #[.int .u8 (k:Int),.int .u64 (n:Int),.string t,.slice A l c] 43)))):=
  zaa (znX k n t ks A l c 112 (mname 0) _ (by omega) (by omega) hn (hK.call Hg) (Ho.call Hg))
 have HB:=zaa Hg;obtain⟨jq,kA,Ab,nb,cb,Hz,Hf⟩:=hG;have HO:=zaa Hf;have kI:=zaa Hz;have HG:=zaa (And.intro jq kA);obtain⟨o,ho⟩:∃ o,zcQ (.mk k n t ks) m=o:=⟨_,rfl⟩;rw[ho];cases GA:newR (.mk k n t ks) 112 (mname 0) with
 | none=>
  rw[GA] at Kp;obtain rfl:o=none:=by rw[←ho];unfold zcQ;rw[GA]
  clear ho;clear Hg hN ht hn hK Ho Hf Hz jq kA GA;go_enter func26,ntmps26;go_wp2_with fail
  (with_reducible refine Kp.out.mono ?_)
  rintro e w1 ⟨rfl,Ha⟩;have Hl:=zaa (zad HB.out Ha);clear Ha;go_wp2;go_ret;exact⟨rfl,Off.of _ Hl.out⟩
 | some ls=>
  rw[GA] at Kp;have ct:=zaa (zhL GA);have jT:Hid (zai ls≤1073741824):=zaa (by have:=zgr GA;simp only[V.kids] at this;omega);obtain⟨⟨⟨k0,n0,t0,ks0⟩,s0⟩,j6⟩:∃ r,valR ls 0 [2] false=r:=⟨_,rfl⟩;obtain⟨⟨⟨k3,n3,t3,ks3⟩,s1⟩,QM⟩:∃ r,valR ls 3 [2] s0=r:=⟨_,rfl⟩;obtain⟨⟨N1,s2⟩,KU⟩:∃ r,oneR ls 1 3 false s1 4 V.num=r:=⟨_,rfl⟩;obtain⟨s3,jg⟩:∃ s,(s2||decide (9 < N1))=s:=⟨_,rfl⟩;obtain⟨⟨N2,s4⟩,JV⟩:∃ r,oneR ls 2 5 false s3 0 V.num=r:=⟨_,rfl⟩;obtain⟨⟨N3,s5⟩,QN⟩:∃ r,oneR ls 4 5 false s4 0 V.num=r:=⟨_,rfl⟩;obtain⟨P1,QL⟩:∃ P,IntKind.u8.wrap (N1:Int)=P:=⟨_,rfl⟩;obtain⟨P2,Jn⟩:∃ P,IntKind.u32.wrap (N2:Int)=P:=⟨_,rfl⟩;obtain⟨P3,VK⟩:∃ P,IntKind.u32.wrap (N3:Int)=P:=⟨_,rfl⟩;have XD:=zaa (zqP j6 QM KU jg.symm JV QN);obtain⟨D,hD⟩:∃ D,(zb7 ls s5 5==0)=D:=⟨_,rfl⟩;have GS:=zaa (fun(wi:World) (f:Nat) (A:Oz) (l c:Nat) (h:HQ w wi g P1 P2 P3 m.id (.slice Ab nb cb) f ls A l c s5)=>zum HG.out HO.out h QL Jn VK ct.out XD.out);have Gh:(if hdB ls=true then none else some { m with p:=(oneR ls 1 3 false false 4 V.num).1,ttl:=(oneR ls 2 5 false false 0 V.num).1,n:=(oneR ls 4 5 false false 0 V.num).1 })=o:=by rw[←ho];unfold zcQ;rw[GA]
  rw[hD,Gh] at GS;clear ho Gh;have xD:=zaa j6;have XE:=zaa QM;have Qk:=zaa KU;have Vj:=zaa JV;have XF:=zaa QN;have yZ:=zaa jg;clear Hg hN ht hn hK Ho Hf Hz jq kA GA j6 QM KU JV QN jg;go_enter func26,ntmps26;go_wp2_with fail
  (with_reducible refine Kp.out.mono ?_)
  rintro e w1 ⟨f,A1,l1,c1,rfl,hf,hF,_,Ha⟩;have H1:Hid (HQ w w1 g (m.p:Int) (m.ttl:Int) (m.n:Int) m.id (.slice Ab nb cb) f ls A1 l1 c1 false):=zaa ⟨hF,kI.out.call (zad HB.out Ha),Off.of _ (zad HB.out Ha),by simp at hf;omega,kI.out.lt⟩;clear Ha hF hf Kp;have gP:∀ (b9:Bool),decide (9 < N1)=b9→decide ((9:Int) < (N1:Int))=b9:=fun b9 h=>by rw[←h];simp;omega
  cases h9:decide (9 < N1) with
  | true=>
   have hd9:=gP _ h9;have hs:s3=true:=by rw[←yZ.out,h9,Bool.or_true]
   subst hs;clear gP h9;go_wp2_with (first
    | (go_at_call 57;(with_reducible refine(zca (HQ.fld (HQ.alloc H1.out _)) (zhZ _ _ rfl) 0 jT.out xD.out).mono ?_);rintro e w2 ⟨r2,rfl,⟨A2,l2,c2,rfl,_⟩,Gh,jz⟩;have H2:=zaa (HQ.next (HQ.alloc H1.out _) Gh jz);clear Gh jz)
    | (go_at_call 57;(with_reducible refine(zca (HQ.fld (HQ.alloc H2.out _)) (zhZ _ _ rfl) 3 jT.out XE.out).mono ?_);rintro e w3 ⟨r3,rfl,⟨A3,l3,c3,rfl,_⟩,Km,Jo⟩;have H3:=zaa (HQ.next (HQ.alloc H2.out _) Km Jo);clear Km Jo)
    | (go_at_call 58;(with_reducible refine(zui (HQ.fld H3.out) Qk.out).mono ?_);rintro e w4 ⟨r4,rfl,rfl,jo,Jp⟩;have H4:=zaa (HQ.next H3.out jo Jp);clear jo Jp)
    | (go_at_call 59;(with_reducible refine(zcP (HQ.fld H4.out)).mono ?_);rintro e w5 ⟨⟨v5,rfl⟩,rfl⟩;have H5:=zaa (HQ.set0 (HQ.spoil H4.out) P1);obtain⟨z0,z1,z2,z3,z4,zf⟩:=(HQ.spoil H4.out).bx.all)
    | (go_at_call 58;(with_reducible refine(zuj (HQ.fld H5.out) Vj.out).mono ?_);rintro e w6 ⟨r6,rfl,rfl,KQ,qt⟩;have H6:=zaa (HQ.next H5.out KQ qt);obtain⟨y0,y1,y2,y3,y4,yf⟩:=H6.out.bx.all;clear KQ qt)
    | (go_at_call 58;(with_reducible refine(zuk (HQ.fld (HQ.set1 H6.out P2)) XF.out).mono ?_);rintro e w7 ⟨r7,rfl,rfl,Jq,qu⟩;have H7:=zaa (HQ.next (HQ.set1 H6.out P2) Jq qu);obtain⟨u0,u1,u2,u3,u4,uf⟩:=H7.out.bx.all;clear Jq qu)
    | (go_at_call 60;(with_reducible refine(zeD (HQ.fld (HQ.set2 H7.out P3)) 5).mono ?_);rintro e w8 ⟨rfl,rfl⟩)
    | fail)
   go_ret;exact GS.out _ _ _ _ _ (HQ.set2 H7.out P3)
  | false=>
   have hd9:=gP _ h9;have hs:s3=s2:=by rw[←yZ.out,h9,Bool.or_false]
   subst hs;clear gP h9;go_wp2_with (first
    | (go_at_call 57;(with_reducible refine(zca (HQ.fld (HQ.alloc H1.out _)) (zhZ _ _ rfl) 0 jT.out xD.out).mono ?_);rintro e w2 ⟨r2,rfl,⟨A2,l2,c2,rfl,_⟩,Gh,jz⟩;have H2:=zaa (HQ.next (HQ.alloc H1.out _) Gh jz);clear Gh jz)
    | (go_at_call 57;(with_reducible refine(zca (HQ.fld (HQ.alloc H2.out _)) (zhZ _ _ rfl) 3 jT.out XE.out).mono ?_);rintro e w3 ⟨r3,rfl,⟨A3,l3,c3,rfl,_⟩,Km,Jo⟩;have H3:=zaa (HQ.next (HQ.alloc H2.out _) Km Jo);clear Km Jo)
    | (go_at_call 58;(with_reducible refine(zui (HQ.fld H3.out) Qk.out).mono ?_);rintro e w4 ⟨r4,rfl,rfl,jo,Jp⟩;have H4:=zaa (HQ.next H3.out jo Jp);have H5:=zaa (HQ.set0 H4.out P1);obtain⟨z0,z1,z2,z3,z4,zf⟩:=H4.out.bx.all;clear jo Jp)
    | (go_at_call 58;(with_reducible refine(zuj (HQ.fld H5.out) Vj.out).mono ?_);rintro e w6 ⟨r6,rfl,rfl,KQ,qt⟩;have H6:=zaa (HQ.next H5.out KQ qt);obtain⟨y0,y1,y2,y3,y4,yf⟩:=H6.out.bx.all;clear KQ qt)
    | (go_at_call 58;(with_reducible refine(zuk (HQ.fld (HQ.set1 H6.out P2)) XF.out).mono ?_);rintro e w7 ⟨r7,rfl,rfl,Jq,qu⟩;have H7:=zaa (HQ.next (HQ.set1 H6.out P2) Jq qu);obtain⟨u0,u1,u2,u3,u4,uf⟩:=H7.out.bx.all;clear Jq qu)
    | (go_at_call 60;(with_reducible refine(zeD (HQ.fld (HQ.set2 H7.out P3)) 5).mono ?_);rintro e w8 ⟨rfl,rfl⟩)
    | fail)
   go_ret;exact GS.out _ _ _ _ _ (HQ.set2 H7.out P3)
end Me
namespace Me
open Go.RowKit Utf Val Fl Oc V
open Enc hiding za3
noncomputable def zgs (x:V)(m:M):Option M:=if m.body.length+x.text.size≤2048 then some { m with body:=m.body++tb x.text } else none
theorem MG.set4 {w':World}{base g:Nat}{m:M}{y:Value}{A2:Oz}{n2 c2:Nat}{L:Lz}(hg:g < base)(hb:base≤w'.heap.size)(h:BxM w' g (.int .u8 (m.p:Int)) (.int .u32 (m.ttl:Int)) (.int .u32 (m.n:Int)) (.string m.id) y)(ho:Utf.Own .u8 256 5 w' base A2 n2 c2 L):MG (w'.setCell ⟨g,4,none⟩ (.slice A2 n2 c2)) base g { m with body:=L }:=by
 refine⟨hg,by simpa using hb,A2,n2,c2,?_,zd6 ho (Off.set (X:=fun i=>i=g) w' 4 _ rfl) fun i hi e=>by omega⟩;unfold BxM at h ⊢;simp[World.setCell,Array.getElem?_modify,h]
theorem zeS {w w':World}{base g:Nat}(h:Below base w w'):Off (fun i=>i=g∨base≤i) w w':=⟨h.os,h.tape,h.output,h.size,fun i _ hx=>h.block i (by omega)⟩
theorem zs5 (k n:Nat)(t:ByteArray)(ks:List V)(d x:V)(A:Oz)(l c g base:Nat)(m:M)(w:World)(gQ:ks=[d,x])(hx:x.text.size≤268435456)(hK:Kd w ks A l c)(hm:m.body.length≤2048)(hG:MG w base g m) :
  Calls prog 29 #[.agg #[.int .u8 (k:Int),.int .u64 (n:Int),.string t,.slice A l c],.pointer (some ⟨g,0,none⟩)] w (zb5 base g (zgs x m) w):=by
 have Hg:Below w.heap.size w (w.alloc (.cells #[.int .u8 (k:Int),.int .u64 (n:Int),.string t,.slice A l c] 43)):=(za _ _);obtain⟨b,o,k1,n1,t1,ks1,A1,l1,c1,k2,n2,t2,ks2,A2,l2,c2,rfl,KP,rfl,rfl,rfl,p0,p1,p2,p3,q0,q1,q2,q3,_⟩:=zeF (hK.call Hg) gQ;obtain⟨jq,kA,Ab,nb,cb,Hz,Hf⟩:=hG;have hX:t2.size≤268435456:=hx;have hlen:=Hf.len;have HO:=zaa (Hf.below Hg);have kI:=zaa (Hz.call Hg);have HB:=zaa Hg;obtain⟨y0,y1,y2,y3,y4,yf⟩:=kI.out.all;obtain⟨z0,z1,z2,z3,zf⟩:=(Box.new w (.int .u8 (k:Int)) (.int .u64 (n:Int)) (.string t) (.slice (some ⟨b,o,none⟩) 2 c)).all;have hnb:nb≤2048:=by rw[←hlen];exact hm
 have ud:=zaa (And.intro jq kA);clear Hg Hz Hf hx hm hK gQ p0 p1 p2 p3 q0 q1 q3;by_cases hs:nb+t2.size≤2048
 ·have HE:Hid (zgs (.mk k2 n2 t2 ks2) m=some { m with body:=m.body++tb t2 }):=zaa (by unfold zgs;rw[hlen];exact if_pos hs);have hd:decide ((2048:Int) < (nb:Int)+(t2.size:Int))=false:=decide_eq_false (by omega);clear hlen;go_enter func29,ntmps29;go_wp2_with (first
   | (at_builtin;refine zbC (base:=base) (t:=t2) rfl _ _ rfl rfl HO.out rfl (by omega) (by have:=ud.out.2;simp;omega) ?_;intro A5 c5 w5 VJ j4;have gp:=(Below.refl base _).grown j4 (by have:=ud.out.2;simp;omega) (fun k hk=>(HO.out.blk k hk).1);have Qt:BxM w5 g _ _ _ _ _:=(gp.block g ud.out.1).trans kI.out;obtain⟨v0,v1,v2,v3,v4,vf⟩:=Qt.all)
   | fail)
  go_ret;rw[HE.out];refine⟨rfl,?_,MG.set4 ud.out.1 (ycF (by have:=ud.out.2;simp;omega) gp.size) Qt VJ⟩;exact((Off.of _ HB.out).trans (zeS gp)).trans (Off.set w5 4 _ (.inl rfl))
 ·have HE:Hid (zgs (.mk k2 n2 t2 ks2) m=none):=zaa (by unfold zgs;rw[hlen];exact if_neg hs);have hd:decide ((2048:Int) < (nb:Int)+(t2.size:Int))=true:=decide_eq_true (by omega);clear hlen;go_enter func29,ntmps29;go_wp2;go_ret;rw[HE.out];exact⟨rfl,Off.of _ HB.out⟩
end Me
namespace Me
open Go.RowKit Utf Val Fl Oc V
def pkL:List Lz:=[[6,15,19,20],[19],[20],[20],[20],[6,15,19,20],[21],[21],[14],[14],[20],[5],[20]]
def PK (w:World)(G:Nat):Prop:=G < w.heap.size∧∀ j L,pkL[j]? = some L→∃ KA kl kc,w.cell? ⟨G,j,none⟩=some (.slice KA kl kc)∧Kinds w KA kl L
theorem PK.call {w w':World}{G:Nat}(h:PK w G)(hb:Below w.heap.size w w'):PK w' G:=by
 refine⟨ycD h.1 hb.size,fun j L hj=>?_⟩;obtain⟨KA,kl,kc,h1,h2⟩:=h.2 j L hj;exact⟨KA,kl,kc,(hb.cell (p:=⟨G,j,none⟩) h.1).trans h1,h2.call hb⟩
theorem PK.off {T:TypeId}{X:Nat→Prop}{w w':World}{G f:Nat}{ls:List V}{A:Oz}{l c:Nat}{sp:Bool}(h:PK w G)(hF:Fld T X w f ls A l c sp)(ho:Off (fun i=>i=f) w w'):PK w' G:=by
 have JZ:∀ j,w.cell? ⟨f,j,none⟩=#[Value.slice A l c,.bool sp][j]?:=fun j=>by
  unfold World.cell?;rw[hF.obj];rfl
 have hG:G≠f:=fun e=>by
  obtain⟨KA,kl,kc,h1,_⟩:=h.2 1 [19] rfl;rw[e,JZ] at h1;simp at h1
 refine⟨ycD h.1 ho.size,fun j L hj=>?_⟩;obtain⟨KA,kl,kc,h1,h2⟩:=h.2 j L hj;refine⟨KA,kl,kc,(World.cell?_of_block (ho.block G h.1 hG)).trans h1,⟨⟨h2.rd.1,h2.rd.2.1,fun hn=>?_⟩,h2.lim⟩⟩;obtain⟨b,o,e,hb,hc⟩:=h2.rd.2.2 hn;have YT:b≠f:=fun e=>by
  have hl:0 < L.length:=by have:=h2.rd.1;omega
  have:=hc 0 hl;rw[e,JZ] at this;by_cases h0:o+0=0
  ·rw[h0] at this;simp at this
  ·by_cases h1:o+0=1
   ·rw[h1] at this;simp at this
   ·rw[Array.getElem?_eq_none (by simp;omega)] at this;cases this
 exact⟨b,o,e,ycD hb ho.size,fun k hk=>(World.cell?_of_block (a:=⟨b,o+k,none⟩) (ho.block b hb YT)).trans (hc k hk)⟩
theorem zg6 (w:World)(L:Lz)(h:∀ x∈L,x < 256)(hl:L.length≤1000)(n:Nat)(hn:L.length=n):Kinds (w.alloc (.cells (vs .u8 L).toArray 5)) (some ⟨w.heap.size,0,none⟩) n L:=
 ⟨by have:=zjF w L n hn h;simpa using this,by omega⟩
theorem zun (w:World):PK (((((((w.alloc (.cells #[.int .u8 6,.int .u8 15,.int .u8 19,.int .u8 20] 5)).alloc (.cells #[.int .u8 20] 5)).alloc (.cells #[.int .u8 21] 5)).alloc (.cells #[.int .u8 14] 5)).alloc (.cells #[.int .u8 19] 5)).alloc (.cells #[.int .u8 5] 5)).alloc (.cells #[.slice (some ⟨w.heap.size,0,none⟩) 4 4,.slice (some ⟨w.heap.size+1+1+1+1,0,none⟩) 1 1,.slice (some ⟨w.heap.size+1,0,none⟩) 1 1,.slice (some ⟨w.heap.size+1,0,none⟩) 1 1,.slice (some ⟨w.heap.size+1,0,none⟩) 1 1,.slice (some ⟨w.heap.size,0,none⟩) 4 4,.slice (some ⟨w.heap.size+1+1,0,none⟩) 1 1,.slice (some ⟨w.heap.size+1+1,0,none⟩) 1 1,.slice (some ⟨w.heap.size+1+1+1,0,none⟩) 1 1,.slice (some ⟨w.heap.size+1+1+1,0,none⟩) 1 1,.slice (some ⟨w.heap.size+1,0,none⟩) 1 1,.slice (some ⟨w.heap.size+1+1+1+1+1,0,none⟩) 1 1,.slice (some ⟨w.heap.size+1,0,none⟩) 1 1] 22)) (w.heap.size+1+1+1+1+1+1):=by
 have K0:Kinds (((((((w.alloc (.cells #[.int .u8 6,.int .u8 15,.int .u8 19,.int .u8 20] 5)).alloc (.cells #[.int .u8 20] 5)).alloc (.cells #[.int .u8 21] 5)).alloc (.cells #[.int .u8 14] 5)).alloc (.cells #[.int .u8 19] 5)).alloc (.cells #[.int .u8 5] 5)).alloc (.cells #[.slice (some ⟨w.heap.size,0,none⟩) 4 4,.slice (some ⟨w.heap.size+1+1+1+1,0,none⟩) 1 1,.slice (some ⟨w.heap.size+1,0,none⟩) 1 1,.slice (some ⟨w.heap.size+1,0,none⟩) 1 1,.slice (some ⟨w.heap.size+1,0,none⟩) 1 1,.slice (some ⟨w.heap.size,0,none⟩) 4 4,.slice (some ⟨w.heap.size+1+1,0,none⟩) 1 1,.slice (some ⟨w.heap.size+1+1,0,none⟩) 1 1,.slice (some ⟨w.heap.size+1+1+1,0,none⟩) 1 1,.slice (some ⟨w.heap.size+1+1+1,0,none⟩) 1 1,.slice (some ⟨w.heap.size+1,0,none⟩) 1 1,.slice (some ⟨w.heap.size+1+1+1+1+1,0,none⟩) 1 1,.slice (some ⟨w.heap.size+1,0,none⟩) 1 1] 22)) (some ⟨w.heap.size,0,none⟩) 4 [6,15,19,20]:=by have:=(Kinds.call (Kinds.call (Kinds.call (Kinds.call (Kinds.call (Kinds.call (zg6 w [6,15,19,20] (by simp) (by simp) 4 rfl) ((Below.refl _ _).alloc zab (.cells #[.int .u8 20] 5))) ((Below.refl _ _).alloc zab (.cells #[.int .u8 21] 5))) ((Below.refl _ _).alloc zab (.cells #[.int .u8 14] 5))) ((Below.refl _ _).alloc zab (.cells #[.int .u8 19] 5))) ((Below.refl _ _).alloc zab (.cells #[.int .u8 5] 5))) ((Below.refl _ _).alloc zab (.cells #[.slice (some ⟨w.heap.size,0,none⟩) 4 4,.slice (some ⟨w.heap.size+1+1+1+1,0,none⟩) 1 1,.slice (some ⟨w.heap.size+1,0,none⟩) 1 1,.slice (some ⟨w.heap.size+1,0,none⟩) 1 1,.slice (some ⟨w.heap.size+1,0,none⟩) 1 1,.slice (some ⟨w.heap.size,0,none⟩) 4 4,.slice (some ⟨w.heap.size+1+1,0,none⟩) 1 1,.slice (some ⟨w.heap.size+1+1,0,none⟩) 1 1,.slice (some ⟨w.heap.size+1+1+1,0,none⟩) 1 1,.slice (some ⟨w.heap.size+1+1+1,0,none⟩) 1 1,.slice (some ⟨w.heap.size+1,0,none⟩) 1 1,.slice (some ⟨w.heap.size+1+1+1+1+1,0,none⟩) 1 1,.slice (some ⟨w.heap.size+1,0,none⟩) 1 1] 22)));simpa [vs] using this
 have K1:Kinds (((((((w.alloc (.cells #[.int .u8 6,.int .u8 15,.int .u8 19,.int .u8 20] 5)).alloc (.cells #[.int .u8 20] 5)).alloc (.cells #[.int .u8 21] 5)).alloc (.cells #[.int .u8 14] 5)).alloc (.cells #[.int .u8 19] 5)).alloc (.cells #[.int .u8 5] 5)).alloc (.cells #[.slice (some ⟨w.heap.size,0,none⟩) 4 4,.slice (some ⟨w.heap.size+1+1+1+1,0,none⟩) 1 1,.slice (some ⟨w.heap.size+1,0,none⟩) 1 1,.slice (some ⟨w.heap.size+1,0,none⟩) 1 1,.slice (some ⟨w.heap.size+1,0,none⟩) 1 1,.slice (some ⟨w.heap.size,0,none⟩) 4 4,.slice (some ⟨w.heap.size+1+1,0,none⟩) 1 1,.slice (some ⟨w.heap.size+1+1,0,none⟩) 1 1,.slice (some ⟨w.heap.size+1+1+1,0,none⟩) 1 1,.slice (some ⟨w.heap.size+1+1+1,0,none⟩) 1 1,.slice (some ⟨w.heap.size+1,0,none⟩) 1 1,.slice (some ⟨w.heap.size+1+1+1+1+1,0,none⟩) 1 1,.slice (some ⟨w.heap.size+1,0,none⟩) 1 1] 22)) (some ⟨w.heap.size+1,0,none⟩) 1 [20]:=by have:=(Kinds.call (Kinds.call (Kinds.call (Kinds.call (Kinds.call (zg6 (w.alloc (.cells #[.int .u8 6,.int .u8 15,.int .u8 19,.int .u8 20] 5)) [20] (by simp) (by simp) 1 rfl) ((Below.refl _ _).alloc zab (.cells #[.int .u8 21] 5))) ((Below.refl _ _).alloc zab (.cells #[.int .u8 14] 5))) ((Below.refl _ _).alloc zab (.cells #[.int .u8 19] 5))) ((Below.refl _ _).alloc zab (.cells #[.int .u8 5] 5))) ((Below.refl _ _).alloc zab (.cells #[.slice (some ⟨w.heap.size,0,none⟩) 4 4,.slice (some ⟨w.heap.size+1+1+1+1,0,none⟩) 1 1,.slice (some ⟨w.heap.size+1,0,none⟩) 1 1,.slice (some ⟨w.heap.size+1,0,none⟩) 1 1,.slice (some ⟨w.heap.size+1,0,none⟩) 1 1,.slice (some ⟨w.heap.size,0,none⟩) 4 4,.slice (some ⟨w.heap.size+1+1,0,none⟩) 1 1,.slice (some ⟨w.heap.size+1+1,0,none⟩) 1 1,.slice (some ⟨w.heap.size+1+1+1,0,none⟩) 1 1,.slice (some ⟨w.heap.size+1+1+1,0,none⟩) 1 1,.slice (some ⟨w.heap.size+1,0,none⟩) 1 1,.slice (some ⟨w.heap.size+1+1+1+1+1,0,none⟩) 1 1,.slice (some ⟨w.heap.size+1,0,none⟩) 1 1] 22)));simpa [vs] using this
 have K2:Kinds (((((((w.alloc (.cells #[.int .u8 6,.int .u8 15,.int .u8 19,.int .u8 20] 5)).alloc (.cells #[.int .u8 20] 5)).alloc (.cells #[.int .u8 21] 5)).alloc (.cells #[.int .u8 14] 5)).alloc (.cells #[.int .u8 19] 5)).alloc (.cells #[.int .u8 5] 5)).alloc (.cells #[.slice (some ⟨w.heap.size,0,none⟩) 4 4,.slice (some ⟨w.heap.size+1+1+1+1,0,none⟩) 1 1,.slice (some ⟨w.heap.size+1,0,none⟩) 1 1,.slice (some ⟨w.heap.size+1,0,none⟩) 1 1,.slice (some ⟨w.heap.size+1,0,none⟩) 1 1,.slice (some ⟨w.heap.size,0,none⟩) 4 4,.slice (some ⟨w.heap.size+1+1,0,none⟩) 1 1,.slice (some ⟨w.heap.size+1+1,0,none⟩) 1 1,.slice (some ⟨w.heap.size+1+1+1,0,none⟩) 1 1,.slice (some ⟨w.heap.size+1+1+1,0,none⟩) 1 1,.slice (some ⟨w.heap.size+1,0,none⟩) 1 1,.slice (some ⟨w.heap.size+1+1+1+1+1,0,none⟩) 1 1,.slice (some ⟨w.heap.size+1,0,none⟩) 1 1] 22)) (some ⟨w.heap.size+1+1,0,none⟩) 1 [21]:=by have:=(Kinds.call (Kinds.call (Kinds.call (Kinds.call (zg6 ((w.alloc (.cells #[.int .u8 6,.int .u8 15,.int .u8 19,.int .u8 20] 5)).alloc (.cells #[.int .u8 20] 5)) [21] (by simp) (by simp) 1 rfl) ((Below.refl _ _).alloc zab (.cells #[.int .u8 14] 5))) ((Below.refl _ _).alloc zab (.cells #[.int .u8 19] 5))) ((Below.refl _ _).alloc zab (.cells #[.int .u8 5] 5))) ((Below.refl _ _).alloc zab (.cells #[.slice (some ⟨w.heap.size,0,none⟩) 4 4,.slice (some ⟨w.heap.size+1+1+1+1,0,none⟩) 1 1,.slice (some ⟨w.heap.size+1,0,none⟩) 1 1,.slice (some ⟨w.heap.size+1,0,none⟩) 1 1,.slice (some ⟨w.heap.size+1,0,none⟩) 1 1,.slice (some ⟨w.heap.size,0,none⟩) 4 4,.slice (some ⟨w.heap.size+1+1,0,none⟩) 1 1,.slice (some ⟨w.heap.size+1+1,0,none⟩) 1 1,.slice (some ⟨w.heap.size+1+1+1,0,none⟩) 1 1,.slice (some ⟨w.heap.size+1+1+1,0,none⟩) 1 1,.slice (some ⟨w.heap.size+1,0,none⟩) 1 1,.slice (some ⟨w.heap.size+1+1+1+1+1,0,none⟩) 1 1,.slice (some ⟨w.heap.size+1,0,none⟩) 1 1] 22)));simpa [vs] using this
 have K3:Kinds (((((((w.alloc (.cells #[.int .u8 6,.int .u8 15,.int .u8 19,.int .u8 20] 5)).alloc (.cells #[.int .u8 20] 5)).alloc (.cells #[.int .u8 21] 5)).alloc (.cells #[.int .u8 14] 5)).alloc (.cells #[.int .u8 19] 5)).alloc (.cells #[.int .u8 5] 5)).alloc (.cells #[.slice (some ⟨w.heap.size,0,none⟩) 4 4,.slice (some ⟨w.heap.size+1+1+1+1,0,none⟩) 1 1,.slice (some ⟨w.heap.size+1,0,none⟩) 1 1,.slice (some ⟨w.heap.size+1,0,none⟩) 1 1,.slice (some ⟨w.heap.size+1,0,none⟩) 1 1,.slice (some ⟨w.heap.size,0,none⟩) 4 4,.slice (some ⟨w.heap.size+1+1,0,none⟩) 1 1,.slice (some ⟨w.heap.size+1+1,0,none⟩) 1 1,.slice (some ⟨w.heap.size+1+1+1,0,none⟩) 1 1,.slice (some ⟨w.heap.size+1+1+1,0,none⟩) 1 1,.slice (some ⟨w.heap.size+1,0,none⟩) 1 1,.slice (some ⟨w.heap.size+1+1+1+1+1,0,none⟩) 1 1,.slice (some ⟨w.heap.size+1,0,none⟩) 1 1] 22)) (some ⟨w.heap.size+1+1+1,0,none⟩) 1 [14]:=by have:=(Kinds.call (Kinds.call (Kinds.call (zg6 (((w.alloc (.cells #[.int .u8 6,.int .u8 15,.int .u8 19,.int .u8 20] 5)).alloc (.cells #[.int .u8 20] 5)).alloc (.cells #[.int .u8 21] 5)) [14] (by simp) (by simp) 1 rfl) ((Below.refl _ _).alloc zab (.cells #[.int .u8 19] 5))) ((Below.refl _ _).alloc zab (.cells #[.int .u8 5] 5))) ((Below.refl _ _).alloc zab (.cells #[.slice (some ⟨w.heap.size,0,none⟩) 4 4,.slice (some ⟨w.heap.size+1+1+1+1,0,none⟩) 1 1,.slice (some ⟨w.heap.size+1,0,none⟩) 1 1,.slice (some ⟨w.heap.size+1,0,none⟩) 1 1,.slice (some ⟨w.heap.size+1,0,none⟩) 1 1,.slice (some ⟨w.heap.size,0,none⟩) 4 4,.slice (some ⟨w.heap.size+1+1,0,none⟩) 1 1,.slice (some ⟨w.heap.size+1+1,0,none⟩) 1 1,.slice (some ⟨w.heap.size+1+1+1,0,none⟩) 1 1,.slice (some ⟨w.heap.size+1+1+1,0,none⟩) 1 1,.slice (some ⟨w.heap.size+1,0,none⟩) 1 1,.slice (some ⟨w.heap.size+1+1+1+1+1,0,none⟩) 1 1,.slice (some ⟨w.heap.size+1,0,none⟩) 1 1] 22)));simpa [vs] using this
 have K4:Kinds (((((((w.alloc (.cells #[.int .u8 6,.int .u8 15,.int .u8 19,.int .u8 20] 5)).alloc (.cells #[.int .u8 20] 5)).alloc (.cells #[.int .u8 21] 5)).alloc (.cells #[.int .u8 14] 5)).alloc (.cells #[.int .u8 19] 5)).alloc (.cells #[.int .u8 5] 5)).alloc (.cells #[.slice (some ⟨w.heap.size,0,none⟩) 4 4,.slice (some ⟨w.heap.size+1+1+1+1,0,none⟩) 1 1,.slice (some ⟨w.heap.size+1,0,none⟩) 1 1,.slice (some ⟨w.heap.size+1,0,none⟩) 1 1,.slice (some ⟨w.heap.size+1,0,none⟩) 1 1,.slice (some ⟨w.heap.size,0,none⟩) 4 4,.slice (some ⟨w.heap.size+1+1,0,none⟩) 1 1,.slice (some ⟨w.heap.size+1+1,0,none⟩) 1 1,.slice (some ⟨w.heap.size+1+1+1,0,none⟩) 1 1,.slice (some ⟨w.heap.size+1+1+1,0,none⟩) 1 1,.slice (some ⟨w.heap.size+1,0,none⟩) 1 1,.slice (some ⟨w.heap.size+1+1+1+1+1,0,none⟩) 1 1,.slice (some ⟨w.heap.size+1,0,none⟩) 1 1] 22)) (some ⟨w.heap.size+1+1+1+1,0,none⟩) 1 [19]:=by have:=(Kinds.call (Kinds.call (zg6 ((((w.alloc (.cells #[.int .u8 6,.int .u8 15,.int .u8 19,.int .u8 20] 5)).alloc (.cells #[.int .u8 20] 5)).alloc (.cells #[.int .u8 21] 5)).alloc (.cells #[.int .u8 14] 5)) [19] (by simp) (by simp) 1 rfl) ((Below.refl _ _).alloc zab (.cells #[.int .u8 5] 5))) ((Below.refl _ _).alloc zab (.cells #[.slice (some ⟨w.heap.size,0,none⟩) 4 4,.slice (some ⟨w.heap.size+1+1+1+1,0,none⟩) 1 1,.slice (some ⟨w.heap.size+1,0,none⟩) 1 1,.slice (some ⟨w.heap.size+1,0,none⟩) 1 1,.slice (some ⟨w.heap.size+1,0,none⟩) 1 1,.slice (some ⟨w.heap.size,0,none⟩) 4 4,.slice (some ⟨w.heap.size+1+1,0,none⟩) 1 1,.slice (some ⟨w.heap.size+1+1,0,none⟩) 1 1,.slice (some ⟨w.heap.size+1+1+1,0,none⟩) 1 1,.slice (some ⟨w.heap.size+1+1+1,0,none⟩) 1 1,.slice (some ⟨w.heap.size+1,0,none⟩) 1 1,.slice (some ⟨w.heap.size+1+1+1+1+1,0,none⟩) 1 1,.slice (some ⟨w.heap.size+1,0,none⟩) 1 1] 22)));simpa [vs] using this
 have K5:Kinds (((((((w.alloc (.cells #[.int .u8 6,.int .u8 15,.int .u8 19,.int .u8 20] 5)).alloc (.cells #[.int .u8 20] 5)).alloc (.cells #[.int .u8 21] 5)).alloc (.cells #[.int .u8 14] 5)).alloc (.cells #[.int .u8 19] 5)).alloc (.cells #[.int .u8 5] 5)).alloc (.cells #[.slice (some ⟨w.heap.size,0,none⟩) 4 4,.slice (some ⟨w.heap.size+1+1+1+1,0,none⟩) 1 1,.slice (some ⟨w.heap.size+1,0,none⟩) 1 1,.slice (some ⟨w.heap.size+1,0,none⟩) 1 1,.slice (some ⟨w.heap.size+1,0,none⟩) 1 1,.slice (some ⟨w.heap.size,0,none⟩) 4 4,.slice (some ⟨w.heap.size+1+1,0,none⟩) 1 1,.slice (some ⟨w.heap.size+1+1,0,none⟩) 1 1,.slice (some ⟨w.heap.size+1+1+1,0,none⟩) 1 1,.slice (some ⟨w.heap.size+1+1+1,0,none⟩) 1 1,.slice (some ⟨w.heap.size+1,0,none⟩) 1 1,.slice (some ⟨w.heap.size+1+1+1+1+1,0,none⟩) 1 1,.slice (some ⟨w.heap.size+1,0,none⟩) 1 1] 22)) (some ⟨w.heap.size+1+1+1+1+1,0,none⟩) 1 [5]:=by have:=(Kinds.call (zg6 (((((w.alloc (.cells #[.int .u8 6,.int .u8 15,.int .u8 19,.int .u8 20] 5)).alloc (.cells #[.int .u8 20] 5)).alloc (.cells #[.int .u8 21] 5)).alloc (.cells #[.int .u8 14] 5)).alloc (.cells #[.int .u8 19] 5)) [5] (by simp) (by simp) 1 rfl) ((Below.refl _ _).alloc zab (.cells #[.slice (some ⟨w.heap.size,0,none⟩) 4 4,.slice (some ⟨w.heap.size+1+1+1+1,0,none⟩) 1 1,.slice (some ⟨w.heap.size+1,0,none⟩) 1 1,.slice (some ⟨w.heap.size+1,0,none⟩) 1 1,.slice (some ⟨w.heap.size+1,0,none⟩) 1 1,.slice (some ⟨w.heap.size,0,none⟩) 4 4,.slice (some ⟨w.heap.size+1+1,0,none⟩) 1 1,.slice (some ⟨w.heap.size+1+1,0,none⟩) 1 1,.slice (some ⟨w.heap.size+1+1+1,0,none⟩) 1 1,.slice (some ⟨w.heap.size+1+1+1,0,none⟩) 1 1,.slice (some ⟨w.heap.size+1,0,none⟩) 1 1,.slice (some ⟨w.heap.size+1+1+1+1+1,0,none⟩) 1 1,.slice (some ⟨w.heap.size+1,0,none⟩) 1 1] 22)));simpa [vs] using this
 have hc:∀ j,World.cell? (((((((w.alloc (.cells #[.int .u8 6,.int .u8 15,.int .u8 19,.int .u8 20] 5)).alloc (.cells #[.int .u8 20] 5)).alloc (.cells #[.int .u8 21] 5)).alloc (.cells #[.int .u8 14] 5)).alloc (.cells #[.int .u8 19] 5)).alloc (.cells #[.int .u8 5] 5)).alloc (.cells #[.slice (some ⟨w.heap.size,0,none⟩) 4 4,.slice (some ⟨w.heap.size+1+1+1+1,0,none⟩) 1 1,.slice (some ⟨w.heap.size+1,0,none⟩) 1 1,.slice (some ⟨w.heap.size+1,0,none⟩) 1 1,.slice (some ⟨w.heap.size+1,0,none⟩) 1 1,.slice (some ⟨w.heap.size,0,none⟩) 4 4,.slice (some ⟨w.heap.size+1+1,0,none⟩) 1 1,.slice (some ⟨w.heap.size+1+1,0,none⟩) 1 1,.slice (some ⟨w.heap.size+1+1+1,0,none⟩) 1 1,.slice (some ⟨w.heap.size+1+1+1,0,none⟩) 1 1,.slice (some ⟨w.heap.size+1,0,none⟩) 1 1,.slice (some ⟨w.heap.size+1+1+1+1+1,0,none⟩) 1 1,.slice (some ⟨w.heap.size+1,0,none⟩) 1 1] 22)) ⟨w.heap.size+1+1+1+1+1+1,j,none⟩=(#[.slice (some ⟨w.heap.size,0,none⟩) 4 4,.slice (some ⟨w.heap.size+1+1+1+1,0,none⟩) 1 1,.slice (some ⟨w.heap.size+1,0,none⟩) 1 1,.slice (some ⟨w.heap.size+1,0,none⟩) 1 1,.slice (some ⟨w.heap.size+1,0,none⟩) 1 1,.slice (some ⟨w.heap.size,0,none⟩) 4 4,.slice (some ⟨w.heap.size+1+1,0,none⟩) 1 1,.slice (some ⟨w.heap.size+1+1,0,none⟩) 1 1,.slice (some ⟨w.heap.size+1+1+1,0,none⟩) 1 1,.slice (some ⟨w.heap.size+1+1+1,0,none⟩) 1 1,.slice (some ⟨w.heap.size+1,0,none⟩) 1 1,.slice (some ⟨w.heap.size+1+1+1+1+1,0,none⟩) 1 1,.slice (some ⟨w.heap.size+1,0,none⟩) 1 1]:Array Value)[j]?:=fun j=>World.cell?_alloc_at _ _ _ _ (by simp);refine⟨by simp,fun j L hj=>?_⟩;exact match j,hj with
 | 0,h=>by injection h with h;subst h;exact⟨_,_,_,hc 0,K0⟩
 | 1,h=>by injection h with h;subst h;exact⟨_,_,_,hc 1,K4⟩
 | 2,h=>by injection h with h;subst h;exact⟨_,_,_,hc 2,K1⟩
 | 3,h=>by injection h with h;subst h;exact⟨_,_,_,hc 3,K1⟩
 | 4,h=>by injection h with h;subst h;exact⟨_,_,_,hc 4,K1⟩
 | 5,h=>by injection h with h;subst h;exact⟨_,_,_,hc 5,K0⟩
 | 6,h=>by injection h with h;subst h;exact⟨_,_,_,hc 6,K2⟩
 | 7,h=>by injection h with h;subst h;exact⟨_,_,_,hc 7,K2⟩
 | 8,h=>by injection h with h;subst h;exact⟨_,_,_,hc 8,K3⟩
 | 9,h=>by injection h with h;subst h;exact⟨_,_,_,hc 9,K3⟩
 | 10,h=>by injection h with h;subst h;exact⟨_,_,_,hc 10,K1⟩
 | 11,h=>by injection h with h;subst h;exact⟨_,_,_,hc 11,K5⟩
 | 12,h=>by injection h with h;subst h;exact⟨_,_,_,hc 12,K1⟩
 | _+13,h=>by cases h
theorem zs6 (w:World):Calls prog 61 #[] w (fun e w'=>∃ G,e=.returned (.slice (some ⟨G,0,none⟩) 13 13)∧PK w' G∧Below w.heap.size w w'):=by
 have HK:=zaa (zun w);go_enter func61,ntmps61;go_wp2;go_ret;refine⟨_,rfl,HK.out,?_⟩;exact(((((((za _ _)).alloc (by simp only[World.size_alloc];omega) _).alloc (by simp only[World.size_alloc];omega) _).alloc (by simp only[World.size_alloc];omega) _).alloc (by simp only[World.size_alloc];omega) _).alloc (by simp only[World.size_alloc];omega) _).alloc (by simp only[World.size_alloc];omega) _
def spP (ls:List V):Nat→Bool
 | 0=>false
 | j+1=>spP ls j||bv ls (j:Int) (pkL.getD j [])
theorem zlc (ls:List V)(j:Nat){L:Lz}(h:pkL[j]? = some L):(valR ls (j:Int) L (spP ls j)).2=spP ls (j+1):=by
 rw[zc1]
 show _=(spP ls j||bv ls (j:Int) (pkL.getD j []))
 rw[List.getD_eq_getElem?_getD,h];rfl
theorem zqQ (ls:List V):prB ls=((spP ls 13||decide (64 < (idR ls).size))||decide (13 < ls.length)):=by
 unfold prB;simp only[spP,pkL,List.getD_cons_zero,List.getD_cons_succ,zk4,Bool.false_or];generalize decide (13 < ls.length)=z1;generalize decide (64 < (idR ls).size)=z2
 show (bv ls ((0:Nat):Int) idsL||(b1 ls ((1:Nat):Int) 19 false||(b1 ls ((2:Nat):Int) 20 false||(b1 ls ((3:Nat):Int) 20 false||(b1 ls ((4:Nat):Int) 20 false||(bv ls ((5:Nat):Int) idsL||(b1 ls ((6:Nat):Int) 21 false||(b1 ls ((7:Nat):Int) 21 false||(b1 ls ((8:Nat):Int) 14 false||(b1 ls ((9:Nat):Int) 14 false||(b1 ls ((10:Nat):Int) 20 false||(b1 ls ((11:Nat):Int) 5 false||(b1 ls ((12:Nat):Int) 20 false||(z1||z2))))))))))))))=_
 simp only[Bool.or_assoc];rw[Bool.or_comm z1 z2];rfl
noncomputable def zc3 (v:V)(m:M):Option M:=match newR v 115 (mname 3) with
 | none=>none
 | some ls=>if prB ls=true then none else some { m with id:=idR ls }
structure PR (w wi:World) (g:Nat) (y0 y1 y2:Int) (y3:ByteArray) (y4:Value) (f:Nat) (ls:List V) (A:Oz) (l c:Nat) (sp:Bool) (G q:Nat) (x0 x1 x2 x3:Value):Prop where
 hq:HQ w wi g y0 y1 y2 y3 y4 f ls A l c sp
 pk:PK wi G
 bx:Box wi q x0 x1 x2 x3
 nf:q≠f
 ng:q≠g
section
variable {w wi w':World} {g:Nat} {y0 y1 y2:Int} {y3:ByteArray} {y4:Value} {f:Nat} {ls:List V} {A:Oz} {l c:Nat} {sp sp':Bool} {G q:Nat} {x0 x1 x2 x3:Value}
theorem PR.next (h:PR w wi g y0 y1 y2 y3 y4 f ls A l c sp G q x0 x1 x2 x3)(ho:Off (fun i=>i=f) wi w')(hF:Fld 140 (fun i=>f≤i) w' f ls A l c sp'):PR w w' g y0 y1 y2 y3 y4 f ls A l c sp' G q x0 x1 x2 x3:=
 ⟨h.hq.next ho hF,h.pk.off h.hq.fld ho,Box.off h.bx ho h.nf,h.nf,h.ng⟩
end
theorem zuo {w wi:World}{base g:Nat}{m:M}{ls:List V}{f:Nat}{P1 P2 P3:Int}{A:Oz}{l c:Nat}{sp:Bool}{Ab:Oz}{nb cb:Nat}(hG:g < base∧base≤w.heap.size)(hO:Utf.Own .u8 256 5 w base Ab nb cb m.body)(h:HQ w wi g P1 P2 P3 (if (valR ls 0 idsL false).1.kind=20 then idR ls else m.id) (.slice Ab nb cb) f ls A l c sp)(QL:(m.p:Int)=P1)(Jn:(m.ttl:Int)=P2)(VK:(m.n:Int)=P3)
  (hs:sp=(spP ls 13||decide (64 < (idR ls).size))) (hid:m.id=⟨#[]⟩) :
  zb5 base g (if prB ls=true then none else some { m with id:=idR ls }) w (.returned (.bool (zb7 ls sp 13==0))) wi:=by
 have hd:(zb7 ls sp 13==0) = !prB ls:=by rw[zqQ,←hs];exact zhY (n:=13)
 rw[hd];cases hb:prB ls with
 | true=>rw[if_pos rfl];exact⟨rfl,zcG h.off⟩
 | false=>
  rw[if_neg ycG];refine⟨rfl,zcG h.off,hG.1,ycF hG.2 h.off.size,Ab,nb,cb,?_,zd6 hO h.off fun i hi e=>by have:=hG.1;omega⟩;have hx:(if (valR ls 0 idsL false).1.kind=20 then idR ls else m.id)=idR ls:=by
   by_cases hk:(valR ls 0 idsL false).1.kind=20
   ·rw[if_pos hk]
   ·rw[if_neg hk,hid];unfold idR;rw[if_neg hk]
  have:=h.bx;rw[hx,←QL,←Jn,←VK] at this;exact this
theorem zvf {X:Nat→Prop}{w:World}{g:Nat}{ls:List V}{A:Oz}{l c:Nat}{sp':Bool}{k n:Nat}{t:ByteArray}{ks:List V}{KA:Oz}{kl kc:Nat}(h:Fld 140 X w g ls A l c false)(hK:Kinds w KA kl idsL)(hN:zai ls≤1073741824)(hq:valR ls 0 idsL false=(.mk k n t ks,sp')) :
  Calls prog 57 #[.pointer (some ⟨g,0,none⟩),.int .i64 0,.slice KA kl kc] w (zaZ 140 X g ls A l c (QV w.heap.size k n t ks) sp' w):=zca h hK 0 hN hq
theorem zs7 (k n:Nat)(t:ByteArray)(ks:List V)(A:Oz)(l c g base:Nat)(m:M)(w:World)(hN:zai ks≤268435456)(ht:t.size≤268435456)(hn:n < 18446744073709551616)(hK:Kd w ks A l c)(Ho:Tab w)(hid:m.id=⟨#[]⟩)(hG:MG w base g m) :
  Calls prog 28 #[.agg #[.int .u8 (k:Int),.int .u64 (n:Int),.string t,.slice A l c],.pointer (some ⟨g,0,none⟩)] w (zb5 base g (zc3 (.mk k n t ks) m) w):=by
 have Hg:Below w.heap.size w (w.alloc (.cells #[.int .u8 (k:Int),.int .u64 (n:Int),.string t,.slice A l c] 43)):=(za _ _);have Kp:Hid (Calls prog 56 #[.agg #[.int .u8 (k:Int),.int .u64 (n:Int),.string t,.slice A l c],.int .u64 115,.string ⟨#[97,109,113,112,58,112,114,111,112,101,114,116,105,101,115,58,108,105,115,116]⟩] (w.alloc (.cells #[.int .u8 (k:Int),.int .u64 (n:Int),.string t,.slice A l c] 43)) (zeG (newR (.mk k n t ks) 115 (mname 3)) (w.alloc (.cells #[.int .u8 (k:Int),.int .u64 (n:Int),.string t,.slice A l c] 43)))):=
  zaa (znX k n t ks A l c 115 (mname 3) _ (by omega) (by omega) hn (hK.call Hg) (Ho.call Hg))
 have HB:=zaa Hg;obtain⟨jq,kA,Ab,nb,cb,Hz,Hf⟩:=hG;have HO:=zaa Hf;have kI:=zaa Hz;have HG:=zaa (And.intro jq kA);obtain⟨o,ho⟩:∃ o,zc3 (.mk k n t ks) m=o:=⟨_,rfl⟩;rw[ho];cases GA:newR (.mk k n t ks) 115 (mname 3) with
 | none=>
  rw[GA] at Kp;obtain rfl:o=none:=by rw[←ho];unfold zc3;rw[GA]
  clear ho;clear Hg hN ht hn hK Ho Hf Hz jq kA GA;go_enter func28,ntmps28;go_wp2_with fail
  (with_reducible refine Kp.out.mono ?_)
  rintro e w1 ⟨rfl,Ha⟩;have Hl:=zaa (zad HB.out Ha);clear Ha;go_wp2;go_ret;exact⟨rfl,Off.of _ Hl.out⟩
 | some ls=>
  rw[GA] at Kp;have jT:Hid (zai ls≤1073741824):=zaa (by have:=zgr GA;simp only[V.kids] at this;omega);obtain⟨⟨⟨k0,n0,t0,ks0⟩,s0⟩,j6⟩:∃ r,valR ls 0 idsL false=r:=⟨_,rfl⟩;have kN:s0=spP ls 1:=by have:=zlc ls 0 (L:=idsL) rfl;rw[←this];show s0=(valR ls 0 idsL false).2;rw[j6]
  subst kN;have Gh:(if prB ls=true then none else some { m with id:=idR ls })=o:=by rw[←ho];unfold zc3;rw[GA]
  have vo:Hid (idR ls=if k0=20 then t0 else ⟨#[]⟩):=zaa (by unfold idR;rw[j6];rfl);have GS:=zaa (fun(wi:World) (sp:Bool) (f:Nat) (A:Oz) (l c:Nat) (h:HQ w wi g (m.p:Int) (m.ttl:Int) (m.n:Int) (if k0=20 then t0 else m.id) (.slice Ab nb cb) f ls A l c sp) (hs:sp=(spP ls 13||decide (64 < (if k0=20 then t0 else ⟨#[]⟩).size)))=>by
   refine zuo (m:=m) (sp:=sp) HG.out HO.out (?_:HQ w wi g (m.p:Int) (m.ttl:Int) (m.n:Int) (if (valR ls 0 idsL false).1.kind=20 then idR ls else m.id) (.slice Ab nb cb) f ls A l c sp) rfl rfl rfl (by rw[vo.out];exact hs) hid;rw[j6]
   show HQ w wi g _ _ _ (if k0=20 then idR ls else m.id) _ f ls A l c sp
   by_cases jh:k0=20
   ·rw[if_pos jh,vo.out,if_pos jh];rw[if_pos jh] at h;exact h
   ·rw[if_neg jh];rw[if_neg jh] at h;exact h)
  rw[Gh] at GS;clear ho Gh;have xD:=zaa j6;clear Hg hN ht hn hK Ho Hf Hz jq kA GA j6;go_enter func28,ntmps28;go_wp2_with fail
  (with_reducible refine Kp.out.mono ?_)
  rintro e w1 ⟨f,A1,l1,c1,rfl,hf,hF,_,Ha⟩;have H1:Hid (HQ w w1 g (m.p:Int) (m.ttl:Int) (m.n:Int) m.id (.slice Ab nb cb) f ls A1 l1 c1 false):=zaa ⟨hF,kI.out.call (zad HB.out Ha),Off.of _ (zad HB.out Ha),by simp at hf;omega,kI.out.lt⟩;clear Ha hF hf Kp;go_wp2_with fail
  (with_reducible refine(zs6 _).mono ?_)
  rintro e w2 ⟨G,rfl,cu,He⟩;have H2:=zaa (HQ.call H1.out He);obtain⟨KA,kl,kc,g0,kO⟩:=cu.2 0 idsL rfl;have HPK:=zaa cu;have HK0:=zaa kO;clear He cu kO H1;go_wp2_with fail
  (with_reducible refine(zvf (HQ.fld H2.out) HK0.out jT.out xD.out).mono ?_)
  rintro e w3 ⟨r3,rfl,⟨A0,l0,c0,rfl,_⟩,Km,Jo⟩;have H3:PR w (w3.alloc (.cells #[.int .u8 (k0:Int),.int .u64 (n0:Int),.string t0,.slice A0 l0 c0] 43)) g (m.p:Int) (m.ttl:Int) (m.n:Int) m.id (.slice Ab nb cb) f ls A1 l1 c1 (spP ls 1) G w3.heap.size (.int .u8 (k0:Int)) (.int .u64 (n0:Int)) (.string t0) (.slice A0 l0 c0):=by
   have h:=HQ.next H2.out Km Jo;refine⟨h.alloc _,(HPK.out.off (HQ.fld H2.out) Km).call ((za _ _)),Box.new _ _ _ _ _,?_,?_⟩
   ·have:=h.fld.lt;omega
   ·have:=h.bx.lt;omega
  have H3:=zaa H3;clear Km Jo HPK HK0 H2 g0;go_wp2_with fail;go_loopw [9] (fun s9 wr=>∃ j:Nat,1≤j∧j≤13∧s9=.int .i64 (j:Nat)∧PR w wr g (m.p:Int) (m.ttl:Int) (m.n:Int) m.id (.slice Ab nb cb) f ls A1 l1 c1 (spP ls j) G w3.heap.size (.int .u8 (k0:Int)) (.int .u64 (n0:Int)) (.string t0) (.slice A0 l0 c0)) (fun s _=>13 - (intOf s).toNat)
  case atStart=>exact⟨1,by omega,by omega,rfl,H3.out⟩
  case round=>
   obtain⟨j,Vb,hj,rfl,hP⟩:=hrel;have HP:=zaa hP;by_cases Hi:j < 13
   ·obtain⟨L,hL⟩:∃ L,pkL[j]? = some L:=⟨_,List.getElem?_eq_getElem (show j < pkL.length from Hi)⟩;obtain⟨KA,kl,kc,gj,hKj⟩:=hP.pk.2 j L hL;obtain⟨⟨⟨kj,nj,tj,ksj⟩,sj⟩,ue⟩:∃ r,valR ls (j:Int) L (spP ls j)=r:=⟨_,rfl⟩;have hsj:sj=spP ls (j+1):=by rw[←zlc ls j hL,ue]
    subst hsj;have Y2:=zaa hKj;have HQJ:=zaa ue;have jf:=zaa Hi;have Vt:=hP.pk.1;clear hL hKj ue hP;go_wp2_with (first
     | (go_at_call 57;(with_reducible refine(zca (PR.hq HP.out).fld Y2.out (j:Int) jT.out HQJ.out).mono ?_);rintro e w4 ⟨r4,rfl,_,jo,Jp⟩;have H4:=zaa (PR.next HP.out jo Jp);clear jo Jp)
     | fail)
    go_roundw
    case rel=>exact⟨j+1,by omega,jf.out,by go_num,H4.out⟩
    case measure=>(have:=jf.out;simp[intOf];omega)
   ·obtain rfl:j=13:=by omega
    clear Hi Vb hj;simp only[Int.cast_ofNat_Int];obtain⟨q0,q1,q2,q3,qf⟩:=hP.bx.all;obtain⟨z0,z1,z2,z3,z4,zf⟩:=hP.hq.bx.all;clear hP H3;by_cases jh:k0=20
    ·have CN:((k0:Int)==20)=true:=by rw[jh];rfl
     simp only[if_pos jh] at GS;have HI:=zaa (fun w=>zk8 t0 (decide (t0.size≤64)) rfl w);by_cases qK:t0.size≤64
     ·rw[decide_eq_true qK] at HI;have HS:Hid (spP ls 13=(spP ls 13||decide (64 < t0.size))):=zaa (by rw[decide_eq_false (show ¬ 64 < t0.size by omega),Bool.or_false]);obtain⟨D,hD⟩:∃ D,(zb7 ls (spP ls 13) 13==0)=D:=⟨_,rfl⟩;have Ky:=zaa (fun wi f A l c h=>GS.out wi (spP ls 13) f A l c h HS.out);rw[hD] at Ky;clear jh qK GS;go_wp2_with (first
       | (go_at_call 46;(with_reducible refine(HI.out _).mono ?_);rintro e w5 ⟨rfl,gp⟩;have H5:=zaa (HQ.call (PR.hq HP.out) gp);have J8:=(PR.bx HP.out).call gp;obtain⟨v0,v1,v2,v3,vf⟩:=J8.all;obtain⟨y0,y1,y2,y3,y4,yf⟩:=H5.out.bx.all;clear gp)
       | (go_at_call 60;(with_reducible refine(zeD (HQ.fld (HQ.set3 H5.out t0)) 13).mono ?_);rintro e w8 ⟨rfl,rfl⟩)
       | fail)
      go_ret;exact Ky.out _ _ _ _ _ (HQ.set3 H5.out t0)
     ·rw[decide_eq_false qK] at HI;have HS:Hid (true=(spP ls 13||decide (64 < t0.size))):=zaa (by rw[decide_eq_true (show 64 < t0.size by omega),Bool.or_true]);obtain⟨D,hD⟩:∃ D,(zb7 ls true 13==0)=D:=⟨_,rfl⟩;have Ky:=zaa (fun wi f A l c h=>GS.out wi true f A l c h HS.out);rw[hD] at Ky;clear jh qK GS;go_wp2_with (first
       | (go_at_call 46;(with_reducible refine(HI.out _).mono ?_);rintro e w5 ⟨rfl,gp⟩;have H5:=zaa (HQ.call (PR.hq HP.out) gp);have J8:=(PR.bx HP.out).call gp;clear gp)
       | (go_at_call 59;(with_reducible refine(zcP (HQ.fld H5.out)).mono ?_);rintro e w6 ⟨⟨v6,rfl⟩,rfl⟩;have H6:=zaa (HQ.spoil H5.out);obtain⟨v0,v1,v2,v3,vf⟩:=(Box.far J8 (p:=⟨f,1,none⟩) (PR.nf HP.out) (.bool true)).all;obtain⟨y0,y1,y2,y3,y4,yf⟩:=H6.out.bx.all)
       | (go_at_call 60;(with_reducible refine(zeD (HQ.fld (HQ.set3 H6.out t0)) 13).mono ?_);rintro e w8 ⟨rfl,rfl⟩)
       | fail)
      go_ret;exact Ky.out _ _ _ _ _ (HQ.set3 H6.out t0)
    ·have CN:((k0:Int)==20)=false:=by rw[zac];omega
     simp only[if_neg jh] at GS;have HS:Hid (spP ls 13=(spP ls 13||decide (64 < (⟨#[]⟩:ByteArray).size))):=zaa (by rw[decide_eq_false (show ¬ 64 < (⟨#[]⟩:ByteArray).size by rw[sz0];omega),Bool.or_false]);obtain⟨D,hD⟩:∃ D,(zb7 ls (spP ls 13) 13==0)=D:=⟨_,rfl⟩;have Ky:=zaa (fun wi f A l c h=>GS.out wi (spP ls 13) f A l c h HS.out);rw[hD] at Ky;clear jh GS;go_wp2_with (first
      | (go_at_call 60;(with_reducible refine(zeD (PR.hq HP.out).fld 13).mono ?_);rintro e w8 ⟨rfl,rfl⟩)
      | fail)
     go_ret;exact Ky.out _ _ _ _ _ (PR.hq HP.out)
end Me
end Go.Proofs.YtbbbanfggcediaaGreatDoor
