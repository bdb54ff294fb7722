/- Contracts, each with its premises. -/
import Derived.Test.YtbbbanfggcediaaGreatDoorY04
set_option maxRecDepth 100000
set_option maxHeartbeats 8000000
namespace Go.Proofs.YtbbbanfggcediaaGreatDoor
open _root_.Go.Proofs.Tryz
open Nat renaming add_zero→ybf
open List renaming length_append→ybb,length_cons→ybc,length_nil→ybd,getElem?_append_right→ybe,cons_append→ybg
namespace Val
open Go.RowKit Go.Shelf Utf V
attribute [local go_sem] Oper.semAt_some
theorem zmV (a b:V):same a b=same b a:=by
 cases h:same a b with
 | true=>
  have:=(zcB a b).1 h;subst this;exact h.symm
 | false=>
  cases h':same b a with
  | false=>rfl
  | true=>
   have:=(zcB b a).1 h';subst this;rw[h] at h';cases h'
theorem ze0 (l:List V)(x:V):zcy (l++[x])=(zcy l && !l.any fun y=>same x y):=by
 induction l with
 | nil=>simp[zcy]
 | cons y l ih=>
  simp only[ybg,zcy,ih,List.any_append,List.any_cons,List.any_nil,Bool.or_false,zmV y x];cases zcy l<;>cases (l.any fun z=>same x z)<;>cases (l.any fun z=>same y z)<;>cases same x y<;>rfl
theorem zis {l r:List V}(h:zcy l=false):zcy (l++r)=false:=by
 induction l with
 | nil=>cases h
 | cons y l ih=>
  simp only[ybg,zcy,List.any_append];simp only[zcy,Bool.and_eq_false_iff] at h;rcases h with h | h
  ·rw[ih h];rfl
  ·simp only[Bool.not_eq_false'] at h;rw[h];simp
def kcells {w:World}{B:Nat}(x:KV w B):List Value:=[.int .u8 x.1.1.k,.int .u64 x.1.1.n,.string x.1.1.t,.slice x.1.1.A x.1.1.l x.1.1.c]
def kflat {w:World}{B:Nat}:List (KV w B)→List Value
 | []=>[]
 | x::r=>kcells x++kflat r
theorem zlJ {w:World}{B:Nat}(l:List (KV w B))(x:KV w B):kflat (l++[x])=kflat l++kcells x:=by
 induction l with
 | nil=>simp[kflat]
 | cons y l ih=>simp only[ybg,kflat,ih,List.append_assoc]
theorem zdk {w:World}{B:Nat}(l:List (KV w B)):(kflat l).length=l.length * 4:=by
 induction l with
 | nil=>rfl
 | cons y l ih=>simp only[kflat,ybb,ih,kcells,ybc,ybd];omega
theorem zep {w:World}{B:Nat}:∀ {l:List (KV w B)} {i:Nat} {x:KV w B} (r:Nat),r < 4→l[i]? = some x→(kflat l)[i * 4+r]? = (kcells x)[r]?
 | [],_,_,_,_,h=>by simp at h
 | y::l,0,x,r,hr,h=>by
  simp at h;subst h;rw[kflat,Nat.zero_mul,Nat.zero_add,List.getElem?_append_left (by simp[kcells];omega)]
 | y::l,i+1,x,r,hr,h=>by
  rw[kflat,ybe (by simp[kcells];omega)];have:=zep (i:=i) r hr (by simpa using h);rw[←this]
  congr 1
  simp[kcells];omega
def zcm {w:World}{B:Nat}(pre:List (KV w B)):List V:=(pre.map KV.vs).map (·.1)
theorem zmW {w:World}{base:Nat}{e:TypeId}{size n:Nat}{v:Value}{xs:List Value}(h:w.ownsRow base e size v n xs):v.ownBlock≠some w.heap.size:=by
 rcases h.2 with ⟨rfl,_⟩ | ⟨g,cap,cur,rfl,_,hg,_⟩
 ·simp[Value.ownBlock]
 ·have:=(Array.getElem?_eq_some_iff.1 hg).1;simp[Value.ownBlock];omega
theorem zmX {w:World}{base:Nat}{e:TypeId}{size n:Nat}{v:Value}{xs:List Value}(h:w.ownsRow base e size v n xs):∃ A l c,v=.slice A l c∧l=n:=by
 rcases h.2 with ⟨rfl,h0⟩ | ⟨g,cap,cur,rfl,_⟩
 ·exact⟨none,0,0,rfl,h0.symm⟩
 ·exact⟨_,n,cap,rfl,rfl⟩
theorem zit:∀ ks:List V,(zbJ ks).length≤ks.length
 | []=>by simp[zbJ]
 | [_]=>by simp[zbJ]
 | _::_::r=>by have:=zit r;simp only[zbJ,ybc];omega
theorem zf7 {w:World}{B:Nat}(l:List (KV w B))(x:KV w B):zcm (l++[x])=zcm l++[x.1.1.v]:=by simp[zcm,KV.vs]
theorem ziu {w:World}{B:Nat}{l:List (KV w B)}{i:Nat}{x:KV w B}(h:l[i]? = some x):(zcm l)[i]? = some x.1.1.v:=by simp[zcm,h,KV.vs]
theorem ztO {w:World}{B:Nat}{l:List (KV w B)}{i:Nat}{x y:KV w B}(h:l[i]? = some y)(hs:same x.1.1.v y.1.1.v=true):zcy (zcm (l++[x]))=false:=by
 rw[zf7,ze0];have:(zcm l).any (fun z=>same x.1.1.v z)=true:=List.any_eq_true.2 ⟨_,List.mem_of_getElem? (ziu h),hs⟩;rw[this];simp
theorem ztP {w:World}{B:Nat}{l:List (KV w B)}{i:Nat}{y:KV w B}{x:V}(h:l[i]? = some y)(hn:((zcm l).take i).any (fun z=>same x z)=false)(hs:same x y.1.1.v=false):((zcm l).take (i+1)).any (fun z=>same x z)=false:=by
 rw[zbI (ziu h),List.any_append,hn];simp[hs]
theorem zpO {w:World}{g:Nat}{T:TypeId}{v v':Value}(h:Boxed w g T v)(h':Boxed w g T v'):v'=v:=by
 have:=h'.symm.trans h;simp at this;exact this
theorem zb2 {wr w9:World}{o:Obj}{row:Option Nat}{g:Nat}{x0 x1 x2 x3:Value}(hg:(wr.drew.alloc o).grownBy w9 row)(h:Box wr g x0 x1 x2 x3)(Hp:row≠some g):Box w9 g x0 x1 x2 x3:=by
 have hl:g < wr.heap.size:=h.lt;have h1:Box (wr.drew.alloc o) g x0 x1 x2 x3:=Box.alloc (w:=wr.drew) h o;exact(hg.block g h1.lt (fun e=>Hp e.symm)).trans h1
theorem zb3 {wr w9:World}{o:Obj}{base size n g:Nat}{v u:Value}{xs:List Value}(hg:(wr.drew.alloc o).grownBy w9 v.ownBlock)(h:Boxed wr g 41 u)(hr:wr.ownsRow base 43 size v n xs):Boxed w9 g 41 u:=by
 have h1:Boxed (wr.drew.alloc o) g 41 u:=Boxed.alloc (W:=wr.drew) h o;exact h1.kept hg (h.not_row (by decide) hr)
theorem zbA {wr w9:World}{o:Obj}{base size n g:Nat}{v u:Value}{xs:List Value}(hg:(wr.drew.alloc o).grownBy w9 v.ownBlock)(h:Boxed wr g 4 u)(hr:wr.ownsRow base 43 size v n xs):Boxed w9 g 4 u:=by
 have h1:Boxed (wr.drew.alloc o) g 4 u:=Boxed.alloc (W:=wr.drew) h o;exact h1.kept hg (h.not_row (by decide) hr)
theorem zb4 {w:World}{base n cap g B:Nat}{u:Value}{xs:List Value}(h:Boxed w B 4 u)(hr:w.ownsRow base 43 4 (.slice (some ⟨g,0,none⟩) n cap) n xs):g≠B:=by
 intro e;have:=h.not_row (by decide) hr;simp[Value.ownBlock,e] at this
theorem zc7 {w:World}{base n cap g:Nat}{xs:List Value}(h:w.ownsRow base 43 4 (.slice (some ⟨g,0,none⟩) (n+1) cap) (n+1) xs):base≤g:=by
 obtain⟨g',e,hb,_⟩:=zhg h (by omega);simp at e;omega
def set4x (w:World)(g m:Nat)(a b c d:Value):World:=(((w.setCell ⟨g,m * 4,none⟩ a).setCell ⟨g,m * 4+1,none⟩ b).setCell ⟨g,m * 4+2,none⟩ c).setCell ⟨g,m * 4+3,none⟩ d
theorem zak (w:World)(g m:Nat)(a b c d:Value):KeepsOthers w (set4x w g m a b c d):=(((KeepsOthers.setCell _ _ _).trans (KeepsOthers.setCell _ _ _)).trans (KeepsOthers.setCell _ _ _)).trans (KeepsOthers.setCell _ _ _)
theorem zal {B:Nat}{w w1:World}(h:Below B w w1){g:Nat}(hg:B≤g)(m:Nat)(a b c d:Value):Below B w (set4x w1 g m a b c d):=
 (((h.setCell (p:=⟨g,m * 4,none⟩) hg _).setCell (p:=⟨g,m * 4+1,none⟩) hg _).setCell (p:=⟨g,m * 4+2,none⟩) hg _).setCell (p:=⟨g,m * 4+3,none⟩) hg _
theorem zaf {w:World}{g B m:Nat}{T:TypeId}{v:Value}(h:Boxed w B T v)(Hp:g≠B)(a b c d:Value):Boxed (set4x w g m a b c d) B T v:=
 zan (p:=⟨g,m * 4+3,none⟩) (zan (p:=⟨g,m * 4+2,none⟩) (zan (p:=⟨g,m * 4+1,none⟩) (zan (p:=⟨g,m * 4,none⟩) h Hp.symm a) Hp.symm b) Hp.symm c) Hp.symm d
theorem zaB {w:World}{base size n m c g B:Nat}{e:TypeId}{xs:List Value}(h:w.ownsRow base e size (.slice (some ⟨g,0,none⟩) m c) n xs)(Hp:g≠B)(u:Value):(w.setCell ⟨B,0,none⟩ u).ownsRow base e size (.slice (some ⟨g,0,none⟩) m c) n xs:=
 zdU (p:=⟨B,0,none⟩) h (by simp[Value.ownBlock];exact Hp) u
theorem zao {w0 w:World}{B base m cap g:Nat}{l:List (KV w0 B)}{a b c d:Value}(h:w.ownsRow base 43 4 (.slice (some ⟨g,0,none⟩) (m+1) cap) (m+1) (kflat l++[a,b,c,d]))(hm:m=l.length)(r:Nat)(hr:r < 4):w.cell? ⟨g,m * 4+r,none⟩=[a,b,c,d][r]?:=by
 rw[World.ownsRow.cellAt h _ (by omega),ybe (by rw[zdk];omega),zdk,hm]
 congr 1
 omega
theorem zc8 {w:World}{base n cap g B:Nat}{u:Value}{xs:List Value}(h:Boxed w B 41 u)(hr:w.ownsRow base 43 4 (.slice (some ⟨g,0,none⟩) n cap) n xs):g≠B:=by
 intro e;have:=h.not_row (by decide) hr;simp[Value.ownBlock,e] at this
theorem za9 {w:World}{base n cap g:Nat}{xs:List Value}(h:w.ownsRow base 43 4 (.slice (some ⟨g,0,none⟩) n cap) n xs)(j:Nat):w.frozen? ⟨g,j,none⟩=false:=World.ownsRow.frozenAt h j
theorem zaM {w0 w9:World}{B base m cap g:Nat}{l:List (KV w0 B)}{z0 z1 z2 z3:Value}(h:w9.ownsRow base 43 4 (.slice (some ⟨g,0,none⟩) (m+1) cap) (m+1) (kflat l++[z0,z1,z2,z3]))(hm:m=l.length)(a b c d:Value) :
  ((((w9.setCell ⟨g,m * 4,none⟩ a).setCell ⟨g,m * 4+1,none⟩ b).setCell ⟨g,m * 4+2,none⟩ c).setCell ⟨g,m * 4+3,none⟩ d).ownsRow base 43 4 (.slice (some ⟨g,0,none⟩) (m+1) cap) (m+1) (kflat l++[a,b,c,d]):=by
 have h4:=((((h.stored (m * 4) a).1.stored (m * 4+1) b).1.stored (m * 4+2) c).1.stored (m * 4+3) d).1;have e:((((kflat l++[z0,z1,z2,z3]).set (m * 4) a).set (m * 4+1) b).set (m * 4+2) c).set (m * 4+3) d=kflat l++[a,b,c,d]:=by
  have hl:(kflat l).length=m * 4:=by rw[zdk,hm]
  rw[List.set_append_right _ _ (by omega),List.set_append_right _ _ (by omega),List.set_append_right _ _ (by omega),List.set_append_right _ _ (by omega),hl];simp[show m * 4+1 - m * 4=1 by omega,show m * 4+2 - m * 4=2 by omega,show m * 4+3 - m * 4=3 by omega]
 rw[e] at h4;exact h4
theorem zbk {wr w9:World}{C:Array Value}{T:TypeId}{base size n:Nat}{v:Value}{xs:List Value}(hr:wr.ownsRow base 43 size v n xs)(hg:(wr.drew.alloc (.cells C T)).grownBy w9 v.ownBlock)(hB:base≤wr.heap.size):KeepsOthers wr w9∧Below base wr w9:=by
 have Gc:(wr.drew.alloc (.cells C T)).ownsRow base 43 size v n xs:=World.ownsRow.alloc (w:=wr.drew) hr (.cells C T);refine⟨((KeepsOthers.drew wr).trans (KeepsOthers.alloc _ _)).trans (KeepsOthers.of_grownBy hg fun j o ej hj=>?_),(((Below.refl base wr).drew).alloc hB _).grown hg (Nat.le_trans hB (by simp)) fun k e=>?_⟩
 ·rcases Gc.2 with ⟨rfl,_⟩ | ⟨g,cap,cur,rfl,_,hgb,_⟩
  ·simp[Value.ownBlock] at ej
  ·simp[Value.ownBlock] at ej;subst ej;rw[hgb] at hj;cases hj;rfl
 ·rcases Gc.2 with ⟨rfl,_⟩ | ⟨g,cap,cur,rfl,hb,_⟩
  ·simp[Value.ownBlock] at e
  ·simp[Value.ownBlock] at e;omega
def Ik (w W0:World)(pre:List (KV W0 w.heap.size))(W:World):Prop:=
 ((∃ v,Boxed W (w.heap.size+2) 41 v∧W.ownsRow w.heap.size 43 4 v pre.length (kflat pre)∧True)∧Boxed W (w.heap.size+1) 4 (.bool false))∧(zcy (zcm pre)=true∧Below w.heap.size W0 W)
def Xk (w W0:World)(c:Code)(pre:List (KV W0 w.heap.size))(W:World):Prop:=
 ((c=.ret∧zcy (zcm pre)=false)∧Boxed W (w.heap.size+1) 4 (.bool true))∧Below w.heap.size W0 W
theorem Ik.own (w W0:World)(h:w.heap.size≤W0.heap.size):OwnFrom W0.heap.size (Ik w W0):=
 OwnFrom.and (OwnFrom.and (Own.from (holdsRow_own _ _ _ _ _ _ _ _) _) (Own.from (boxed_own _ _ _) _)) (OwnFrom.and (ownFrom_pure _ _) (ownFrom_below h h))
theorem Xk.own (w W0:World)(c:Code)(h:w.heap.size≤W0.heap.size):OwnFrom W0.heap.size (Xk w W0 c):=
 OwnFrom.and (OwnFrom.and (ownFrom_pure _ _) (Own.from (boxed_own _ _ _) _)) (ownFrom_below h h)
theorem zaN {w W0 W wr Wf:World}{pre:List (KV W0 w.heap.size)}{x:KV W0 w.heap.size}{g m cap:Nat}(hm:m=pre.length)(ql:zcy (zcm pre)=true)(GN:((zcm pre).take m).any (fun y=>same x.1.1.v y)=false)(gH:Below w.heap.size W0 W)(hb:Below W.heap.size W wr)(hs:w.heap.size≤W.heap.size)
  (hk:KeepsOthers wr Wf) (YT:Below w.heap.size wr Wf) (Hr:Wf.ownsRow w.heap.size 43 4 (.slice (some ⟨g,0,none⟩) (m+1) cap) (m+1) (kflat pre++kcells x)) (hv:Boxed Wf (w.heap.size+2) 41 (.slice (some ⟨g,0,none⟩) (m+1) cap)) (Ha:Boxed Wf (w.heap.size+1) 4 (.bool false)) :
  KeepsFrom W0.heap.size W Wf∧Below w.heap.size W Wf∧Ik w W0 (pre++[x]) Wf:=by
 have kU:Below w.heap.size W Wf:=(hb.mono hs).trans YT;refine⟨(zcl hb).trans (hk.from _),kU,⟨⟨_,hv,?_,trivial⟩,Ha⟩,?_,gH.trans kU⟩
 ·rw[zlJ,ybb,←hm];exact Hr
 ·rw[zf7,ze0,ql];rw[List.take_of_length_le (by simp[zcm,hm])] at GN;rw[GN];rfl
theorem zlK:zfx:=by
 intro k n t ks A l c w hN hK;refine(callsIn_wide (n:=6)).1 ?_;refine callsIn_of_wp_marks func139 rfl trivial ?_ rfl;simp only[ntmps139,List.size_toArray,ybc,ybd,Nat.reduceAdd,Nat.reduceSub,Array.replicate_succ,Array.replicate_zero,List.push_toArray,List.append_toArray,List.nil_append,ybg];have b1:=((Boxed.new (w.alloc (.cells #[.int .u8 k,.int .u64 n,.string t,.slice A l c] 43)) 4 (.bool false)).alloc (.cells #[.slice none 0 0] 41)).alloc (.cells #[.int .u8 k,.int .u64 n,.string t,.slice A l c] 43);have b2:=(Boxed.new ((w.alloc (.cells #[.int .u8 k,.int .u64 n,.string t,.slice A l c] 43)).alloc (.cells #[.bool false] 4)) 41 (.slice none 0 0)).alloc (.cells #[.int .u8 k,.int .u64 n,.string t,.slice A l c] 43);have b3:=Box.new (((w.alloc (.cells #[.int .u8 k,.int .u64 n,.string t,.slice A l c] 43)).alloc (.cells #[.bool false] 4)).alloc (.cells #[.slice none 0 0] 41)) (.int .u8 k) (.int .u64 n) (.string t) (.slice A l c);have bb:Below w.heap.size w ((((w.alloc (.cells #[.int .u8 k,.int .u64 n,.string t,.slice A l c] 43)).alloc (.cells #[.bool false] 4)).alloc (.cells #[.slice none 0 0] 41)).alloc (.cells #[.int .u8 k,.int .u64 n,.string t,.slice A l c] 43)):=((zaw w _ _).alloc (by simp;omega) _).alloc (by simp;omega) _;have Hu:((((w.alloc (.cells #[.int .u8 k,.int .u64 n,.string t,.slice A l c] 43)).alloc (.cells #[.bool false] 4)).alloc (.cells #[.slice none 0 0] 41)).alloc (.cells #[.int .u8 k,.int .u64 n,.string t,.slice A l c] 43)).heap.size=w.heap.size+4:=by simp
 gi_wp2_with (refine⟨trivial,?_⟩;gi_at_call 153;refine(zr7 Fence.wide (6 - 1) trivial rfl _ _ _ _ _ _ _).mono ?_;rintro e w' ⟨rfl,rfl⟩)
 obtain⟨W0,Gj⟩:∃ W0,(((w.alloc (.cells #[.int .u8 k,.int .u64 n,.string t,.slice A l c] 43)).alloc (.cells #[.bool false] 4)).alloc (.cells #[.slice none 0 0] 41)).alloc (.cells #[.int .u8 k,.int .u64 n,.string t,.slice A l c] 43)=W0:=⟨_,rfl⟩;rw[Gj] at b1 b2 b3 bb Hu ⊢;simp only[World.size_alloc] at b1 b2 b3;clear Gj;have qn:Kids false W0 (fun i=>i < w.heap.size) ks A l c:=hK.keep fun i hi=>bb.block i hi;have c3:=b3.all.2.2.2.1;refine wpIn_rangeFunc_ownH rfl (by omega) (gf:=158) (lb:=#[.pointer (some ⟨w.heap.size+1+1+1,0,none⟩)]) rfl trivial (enters_of func158 (by kernel_rfl) rfl)
  (zlH Fence.wide (6 - 1) trivial rfl (by omega) (w.heap.size+1+1+1) w.heap.size W0 ks A l c hN qn (by omega) (by omega) c3) belowK_t (belowK_b (by omega)) (Below.refl _ _) (fun _=>rfl)
  (Ik w W0) (Xk w W0) (Ik.own w W0 (by omega)) (fun d=>Xk.own w W0 d (by omega)) ⟨⟨⟨_,b2,World.ownsRow_nil _ _ _ _,trivial⟩,b1⟩,rfl,Below.refl _ _⟩
  (fun x a' W=>∃ Bx,(W0.heap.size≤Bx∧∃ v,Boxed W (w.heap.size+2) 41 v∧v.ownBlock≠some Bx)∧Box W Bx (.int .u8 x.1.1.k) (.int .u64 x.1.1.n) (.string x.1.1.t) (.slice x.1.1.A x.1.1.l x.1.1.c) ∧
   a'={ tmps:=#[.agg #[.int .u8 k,.int .u64 n,.string t,.slice A l c],.pointer (some ⟨w.heap.size,0,none⟩),.pointer (some ⟨w.heap.size+1,0,none⟩),.pointer (some ⟨w.heap.size+1+1,0,none⟩),.pointer (some ⟨Bx,0,none⟩),undef,undef,.agg #[.int .u8 k,.int .u64 n,.string t,.slice A l c],.func (.func 158) #[] #[.pointer (some ⟨w.heap.size+1+1+1,0,none⟩)],x.1.1.val,x.1.2.val,undef,undef,undef,undef,undef,undef,undef,undef,undef,undef,undef,undef,undef,undef,undef,undef],defers:=[] })
  (fun x a' _ X Y row hs hg hr=>by obtain⟨Bx,⟨e1,v,e2,e3⟩,e4,e5⟩:=hs;exact⟨Bx,⟨e1,v,zjO e2 hg (fun r e=>(hr r e).2),e3⟩,e4.grown hg (fun r e=>(hr r e).2),e5⟩)
  ?assign ?body ?done ?stop
 case assign=>
  rintro L pre ⟨⟨⟨k1,n1,t1,A1,l1,c1,ks1⟩,⟨k2,n2,t2,A2,l2,c2,ks2⟩⟩,GJ,GQ⟩ W K ⟨⟨⟨v,hv,Hr,_⟩,JP⟩,ql,gH⟩ hK;have gu:=gH.size;simp only[LV.val]
  gi_wp2
  have qP:Below W.heap.size W (W.alloc (.cells #[.int .u8 k1,.int .u64 n1,.string t1,.slice A1 l1 c1] 43)):=(za _ _);exact hK _ _ (zcl qP) (qP.mono (by omega)) ⟨⟨⟨v,hv.alloc _,Hr.alloc _,trivial⟩,JP.alloc _⟩,ql,gH.trans (qP.mono (by omega))⟩ ⟨W.heap.size,⟨gu,v,hv.alloc _,zmW Hr⟩,Box.new W _ _ _ _,rfl⟩
 case body=>
  rintro L pre ⟨⟨⟨k1,n1,t1,A1,l1,c1,ks1⟩,⟨k2,n2,t2,A2,l2,c2,ks2⟩⟩,GJ,GQ⟩ a' W hl ⟨r,hr⟩ ⟨⟨⟨v,hv,Hr,_⟩,JP⟩,ql,gH⟩ ⟨Bx,⟨hBx,v',YU,YJ⟩,bX,rfl⟩ Hi;have gu:=gH.size;obtain⟨e0,e1,e2,e3,ef⟩:=bX.all;have i2:=hv.cell;have i2F:=hv.frozen;have hKX:Kd W ks1 A1 l1 c1:=(GJ.2.2.2.keep fun i hi=>gH.block i hi).mono fun i hi=>by omega
  have JO:=GJ.2.2.1;have kR:=zaa GJ;have GW:=zaa ql;have HHV:=zaa YU;clear ql YU;simp only[LV.val] at *;obtain⟨A9,m9,c9,hv9⟩:∃ A9 m9 c9,v=.slice A9 m9 c9∧m9=pre.length:=zmX Hr;obtain⟨rfl,Qi⟩:=hv9;rw[←Qi] at Hr;have Gp:m9≤pre.length:=Nat.le_of_eq Qi;have Hs:=zaa Qi;have Ji:m9≤1073741824:=by have:=zit ks;have:=za0 ks;omega
  clear Qi
  gi_wp2
  gi_loopw [13] (fun i wr=>∃ j:Nat,j≤m9∧i=.int .i64 j∧((zcm pre).take j).any (fun y=>same (.mk k1 n1 t1 ks1) y)=false∧Below W.heap.size W wr) (fun i _=>m9 - (intOf i).toNat)
  case atStart=>exact⟨0,Nat.zero_le _,rfl,rfl,Below.refl _ _⟩
  case round=>
   obtain⟨j,hj,rfl,GN,hb⟩:=hrel;have Gd:=zaa GN;clear GN;have hsr:=hb.size;by_cases hltj:j < m9
   ·obtain⟨y,hy⟩:∃ y,pre[j]? = some y:=⟨pre[j]'(by omega),List.getElem?_eq_getElem (by omega)⟩;have HY:=zaa hy;obtain⟨g,rfl,jq,kA⟩:=zhg Hr (by omega);have r0:=(hb.cell (p:=⟨g,j * 4+0,none⟩) kA).trans ((World.ownsRow.cellAt Hr (j * 4+0) (by omega)).trans (zep 0 (by omega) hy));have r1:=(hb.cell (p:=⟨g,j * 4+1,none⟩) kA).trans ((World.ownsRow.cellAt Hr (j * 4+1) (by omega)).trans (zep 1 (by omega) hy));have r2:=(hb.cell (p:=⟨g,j * 4+2,none⟩) kA).trans ((World.ownsRow.cellAt Hr (j * 4+2) (by omega)).trans (zep 2 (by omega) hy));have r3:=(hb.cell (p:=⟨g,j * 4+3,none⟩) kA).trans ((World.ownsRow.cellAt Hr (j * 4+3) (by omega)).trans (zep 3 (by omega) hy));clear hy;obtain⟨⟨⟨k3,n3,t3,A3,l3,c3',ks3⟩,⟨k4,n4,t4,A4,l4,c4,ks4⟩⟩,UZ,Qh⟩:=y;simp only[kcells,List.getElem?_cons_zero,List.getElem?_cons_succ,ybf] at r0 r1 r2 r3;have hKY:Kd wr ks3 A3 l3 c3':=(UZ.2.2.2.keep fun i hi=>(hb.block i (by omega)).trans (gH.block i hi)).mono fun i hi=>by omega
    have B0:=bX.below hb bX.lt;obtain⟨u0,u1,u2,u3,uf⟩:=B0.all;have Cs:Bx < wr.heap.size:=B0.lt;have G1:=zbp JP hb (by omega);have g1:=G1.cell;have g1F:=G1.frozen;obtain⟨q,hq⟩:∃ q,same (.mk k1 n1 t1 ks1) (.mk k3 n3 t3 ks3)=q:=⟨_,rfl⟩;have Hx:=zej k1 n1 t1 ks1 A1 l1 c1 k3 n3 t3 ks3 A3 l3 c3' (wr.alloc (.cells #[.int .u8 k3,.int .u64 n3,.string t3,.slice A3 l3 c3'] 43)) JO ((hKX.call hb).alloc _) (hKY.alloc _);rw[hq] at Hx;have HC:=zaa Hx;have HQ:=zaa hq;have qP:Below wr.heap.size wr (wr.alloc (.cells #[.int .u8 k3,.int .u64 n3,.string t3,.slice A3 l3 c3'] 43)):=(za _ _);clear Hx hq hKY;cases q with
    | true=>
     gi_wp2_with (refine⟨trivial,?_⟩;gi_at_call 33;refine(CallsIn.inRound L (callsIn_wide.2 HC.out)).mono ?_;rintro e W1 ⟨rfl,Ha⟩;have He:=zad qP Ha;have G2:=zbp G1 He (by omega);have g2:=G2.cell;have g2F:=G2.frozen)
     have Hj:=zad hb He;refine⟨(zcl Hj).trans ((KeepsOthers.setCell _ _ _).from _),⟨⟨rfl,?_⟩,G2.set _⟩,(gH.trans (Hj.mono (by omega))).setCell (p:=⟨w.heap.size+1,0,none⟩) (by show w.heap.size≤w.heap.size+1;omega) _⟩;exact ztO HY.out HQ.out
    | false=>
     gi_wp2_with (refine⟨trivial,?_⟩;gi_at_call 33;refine(CallsIn.inRound L (callsIn_wide.2 HC.out)).mono ?_;rintro e W1 ⟨rfl,Ha⟩;have He:=zad qP Ha)
     have Hj:=zad hb He;go_roundw
     case rel=>exact⟨j+1,by omega,by go_num,ztP HY.out Gd.out HQ.out,Hj⟩
     case measure=>simp[intOf];omega
   ·gi_wp2_with fail
    have B0:=bX.below hb bX.lt;have V2:=zbp hv hb hv.lt;obtain⟨u0,u1,u2,u3,uf⟩:=B0.all;have v2:=V2.cell;have v2F:=V2.frozen;have G1:=zbp JP hb (by omega);have xh:j=m9:=by omega
    have gA:=zaa (xh▸Gd.out);clear xh;have Vd:prog.follows .mixedOrders=true:=by kernel_rfl
    obtain⟨i0,hi,gE,Hn,gb⟩:=info_parts zdb;have Hm:=Hr.kept (show W.grownBy wr (some W.heap.size) from ⟨hb.os,hb.tape,hb.output,hb.size,fun i hi _=>hb.block i hi⟩) (.inr (zmW Hr));have KG:w.heap.size≤wr.heap.size:=by omega
    have KC:=zaa (show (Value.slice A9 m9 c9).ownBlock≠some Bx from zpO hv HHV.out▸YJ);have hii:(m9:Int) < (m9:Int)+1:=by omega
    have hiN:m9 < m9+1:=by omega
    have Cs:Bx < wr.heap.size:=B0.lt;have vX:w.heap.size+1+1 < wr.heap.size:=by omega
    have BA:=Box.alloc (w:=wr.drew) B0 (.cells #[.int .u8 0,.int .u64 0,.string ⟨#[]⟩,.slice none 0 0] 43);obtain⟨w0',w1',w2',w3',wf'⟩:=BA.all;have vA:=(Boxed.alloc (W:=wr.drew) V2 (.cells #[.int .u8 0,.int .u64 0,.string ⟨#[]⟩,.slice none 0 0] 43)).cell;refine wpIn_region_any Vd ?_
    change wpAnyIn _ _ _ _ _ _ _ _ _ (World.drew _)
    refine wpAnyIn_ready (rs:=[0,1,3]) (by kernel_rfl) (by simp) ?_;refine AllReadyIn.cons rfl (fun K hK=>?_) ?_
    ·go_simp;refine hK _ _ ?_;clear hK K;refine wpAnyIn_ready (rs:=[1,2,3]) (by kernel_rfl) (by simp) ?_;refine AllReadyIn.cons rfl (fun K hK=>?_) ?_
     ·go_simp;refine hK _ _ ?_;clear hK K;refine wpAnyIn_ready (rs:=[2,3]) (by kernel_rfl) (by simp) ?_;refine AllReadyIn.cons rfl (fun K hK=>?_) ?_
      ·go_simp;refine hK _ _ ?_;clear hK K;refine wpAnyIn_ready (rs:=[3]) (by kernel_rfl) (by simp) ?_;refine AllReadyIn.cons rfl (fun K hK=>?_) ?_
       ·go_simp;refine hK _ _ ?_;clear hK K;refine wpAnyIn_ready (rs:=[4]) (by kernel_rfl) (by simp) ?_;refine AllReadyIn.cons rfl (fun K hK=>?_) ?_
        ·refine zay _ rfl _ _ 41 rfl w.heap.size 43 i0 _ 4 56 underlying41 hi gE Hn gb rfl (by omega) _ _ _ rfl (by exact Hm.alloc _) ⟨wr.heap.size,0,none⟩ 1 1 [.int .u8 0,.int .u64 0,.string ⟨#[]⟩,.slice none 0 0] rfl rfl (by exact news4 _ _ _ _ _ _ _ rfl) (fun u hu=>(by simp at hu;rcases hu with rfl | rfl | rfl | rfl<;>rfl)) (by omega) (by unfold maxLen;omega) (by omega) (by simp;omega) _ rfl ?_;intro g9 cap9 w9 Hb Ht Hv Gl;have f0:=zb2 Ht B0 KC.out;obtain⟨y0,y1,y2,y3,yf⟩:=f0.all;have V9:=zb3 Ht V2 Hm;have z2:=V9.cell;have z2F:=V9.frozen;have c0:=zao Hb Hs.out 0 (by omega);have c1':=zao Hb Hs.out 1 (by omega);have c2':=zao Hb Hs.out 2 (by omega);have c3':=zao Hb Hs.out 3 (by omega);have Jj:=za9 Hb;have Hk:=zc8 V9 Hb;have V9b:=zbA Ht G1 Hm;have ga:=zb4 V9b Hb;have Ge:=zc7 Hb;have H':=zaa (zbk Hm Ht KG);have K6:=Hk.symm;simp only[List.getElem?_cons_zero,List.getElem?_cons_succ,ybf] at c0 c1' c2' c3'
         try go_simp
         refine hK _ _ ?_;clear hK K;refine wpAnyIn_ready (rs:=[5,7]) (by kernel_rfl) (by simp) ?_;refine AllReadyIn.cons rfl (fun K hK=>?_) ?_
         ·go_simp;refine hK _ _ ?_;clear hK K;refine wpAnyIn_ready (rs:=[6,7]) (by kernel_rfl) (by simp) ?_;refine AllReadyIn.cons rfl (fun K hK=>?_) ?_
          ·go_simp;refine hK _ _ ?_;clear hK K;refine wpAnyIn_ready (rs:=[7]) (by kernel_rfl) (by simp) ?_;refine AllReadyIn.cons rfl (fun K hK=>?_) ?_
           ·go_simp;refine hK _ _ ?_;clear hK K;refine wpAnyIn_done (by kernel_rfl) ?_ _
            gi_wp2
            exact zaN Hs.out GW.out gA.out gH hb (by omega) ((H'.out.1.trans (zak w9 g9 m9 _ _ _ _)).trans (KeepsOthers.setCell _ _ _)) ((zal H'.out.2 Ge m9 _ _ _ _).setCell (p:=⟨w.heap.size+1+1,0,none⟩) (by show w.heap.size≤w.heap.size+1+1;omega) _) (zaB (zaM Hb Hs.out _ _ _ _) Hk _) ((zaf V9 Hk _ _ _ _).set _) (zan (p:=⟨w.heap.size+1+1,0,none⟩) (zaf V9b ga _ _ _ _) (by show w.heap.size+1≠w.heap.size+1+1;omega) _)
           exact AllReadyIn.nil
          refine AllReadyIn.cons rfl (fun K hK=>?_) ?_
          ·go_simp;refine hK _ _ ?_;clear hK K;refine wpAnyIn_ready (rs:=[6]) (by kernel_rfl) (by simp) ?_;refine AllReadyIn.cons rfl (fun K hK=>?_) ?_
           ·go_simp;refine hK _ _ ?_;clear hK K;refine wpAnyIn_done (by kernel_rfl) ?_ _
            gi_wp2
            exact zaN Hs.out GW.out gA.out gH hb (by omega) ((H'.out.1.trans (KeepsOthers.setCell _ _ _)).trans (zak _ g9 m9 _ _ _ _)) (zal (H'.out.2.setCell (p:=⟨w.heap.size+1+1,0,none⟩) (by show w.heap.size≤w.heap.size+1+1;omega) _) Ge m9 _ _ _ _) (zaM (zaB Hb Hk _) Hs.out _ _ _ _) (zaf (V9.set _) Hk _ _ _ _) (zaf (zan (p:=⟨w.heap.size+1+1,0,none⟩) V9b (by show w.heap.size+1≠w.heap.size+1+1;omega) _) ga _ _ _ _)
           exact AllReadyIn.nil
          exact AllReadyIn.nil
         refine AllReadyIn.cons rfl (fun K hK=>?_) ?_
         ·go_simp;refine hK _ _ ?_;clear hK K;refine wpAnyIn_ready (rs:=[5]) (by kernel_rfl) (by simp) ?_;refine AllReadyIn.cons rfl (fun K hK=>?_) ?_
          ·go_simp;refine hK _ _ ?_;clear hK K;refine wpAnyIn_ready (rs:=[6]) (by kernel_rfl) (by simp) ?_;refine AllReadyIn.cons rfl (fun K hK=>?_) ?_
           ·go_simp;refine hK _ _ ?_;clear hK K;refine wpAnyIn_done (by kernel_rfl) ?_ _
            gi_wp2
            exact zaN Hs.out GW.out gA.out gH hb (by omega) ((H'.out.1.trans (KeepsOthers.setCell _ _ _)).trans (zak _ g9 m9 _ _ _ _)) (zal (H'.out.2.setCell (p:=⟨w.heap.size+1+1,0,none⟩) (by show w.heap.size≤w.heap.size+1+1;omega) _) Ge m9 _ _ _ _) (zaM (zaB Hb Hk _) Hs.out _ _ _ _) (zaf (V9.set _) Hk _ _ _ _) (zaf (zan (p:=⟨w.heap.size+1+1,0,none⟩) V9b (by show w.heap.size+1≠w.heap.size+1+1;omega) _) ga _ _ _ _)
           exact AllReadyIn.nil
          exact AllReadyIn.nil
         exact AllReadyIn.nil
        exact AllReadyIn.nil
       exact AllReadyIn.nil
      refine AllReadyIn.cons rfl (fun K hK=>?_) ?_
      ·go_simp;refine hK _ _ ?_;clear hK K;refine wpAnyIn_ready (rs:=[2]) (by kernel_rfl) (by simp) ?_;refine AllReadyIn.cons rfl (fun K hK=>?_) ?_
       ·go_simp;refine hK _ _ ?_;clear hK K;refine wpAnyIn_ready (rs:=[4]) (by kernel_rfl) (by simp) ?_;refine AllReadyIn.cons rfl (fun K hK=>?_) ?_
        ·refine zay _ rfl _ _ 41 rfl w.heap.size 43 i0 _ 4 56 underlying41 hi gE Hn gb rfl (by omega) _ _ _ rfl (by exact Hm.alloc _) ⟨wr.heap.size,0,none⟩ 1 1 [.int .u8 0,.int .u64 0,.string ⟨#[]⟩,.slice none 0 0] rfl rfl (by exact news4 _ _ _ _ _ _ _ rfl) (fun u hu=>(by simp at hu;rcases hu with rfl | rfl | rfl | rfl<;>rfl)) (by omega) (by unfold maxLen;omega) (by omega) (by simp;omega) _ rfl ?_;intro g9 cap9 w9 Hb Ht Hv Gl;have f0:=zb2 Ht B0 KC.out;obtain⟨y0,y1,y2,y3,yf⟩:=f0.all;have V9:=zb3 Ht V2 Hm;have z2:=V9.cell;have z2F:=V9.frozen;have c0:=zao Hb Hs.out 0 (by omega);have c1':=zao Hb Hs.out 1 (by omega);have c2':=zao Hb Hs.out 2 (by omega);have c3':=zao Hb Hs.out 3 (by omega);have Jj:=za9 Hb;have Hk:=zc8 V9 Hb;have V9b:=zbA Ht G1 Hm;have ga:=zb4 V9b Hb;have Ge:=zc7 Hb;have H':=zaa (zbk Hm Ht KG);have K6:=Hk.symm;simp only[List.getElem?_cons_zero,List.getElem?_cons_succ,ybf] at c0 c1' c2' c3'
         try go_simp
         refine hK _ _ ?_;clear hK K;refine wpAnyIn_ready (rs:=[5,7]) (by kernel_rfl) (by simp) ?_;refine AllReadyIn.cons rfl (fun K hK=>?_) ?_
         ·go_simp;refine hK _ _ ?_;clear hK K;refine wpAnyIn_ready (rs:=[6,7]) (by kernel_rfl) (by simp) ?_;refine AllReadyIn.cons rfl (fun K hK=>?_) ?_
          ·go_simp;refine hK _ _ ?_;clear hK K;refine wpAnyIn_ready (rs:=[7]) (by kernel_rfl) (by simp) ?_;refine AllReadyIn.cons rfl (fun K hK=>?_) ?_
           ·go_simp;refine hK _ _ ?_;clear hK K;refine wpAnyIn_done (by kernel_rfl) ?_ _
            gi_wp2
            exact zaN Hs.out GW.out gA.out gH hb (by omega) ((H'.out.1.trans (zak w9 g9 m9 _ _ _ _)).trans (KeepsOthers.setCell _ _ _)) ((zal H'.out.2 Ge m9 _ _ _ _).setCell (p:=⟨w.heap.size+1+1,0,none⟩) (by show w.heap.size≤w.heap.size+1+1;omega) _) (zaB (zaM Hb Hs.out _ _ _ _) Hk _) ((zaf V9 Hk _ _ _ _).set _) (zan (p:=⟨w.heap.size+1+1,0,none⟩) (zaf V9b ga _ _ _ _) (by show w.heap.size+1≠w.heap.size+1+1;omega) _)
           exact AllReadyIn.nil
          refine AllReadyIn.cons rfl (fun K hK=>?_) ?_
          ·go_simp;refine hK _ _ ?_;clear hK K;refine wpAnyIn_ready (rs:=[6]) (by kernel_rfl) (by simp) ?_;refine AllReadyIn.cons rfl (fun K hK=>?_) ?_
           ·go_simp;refine hK _ _ ?_;clear hK K;refine wpAnyIn_done (by kernel_rfl) ?_ _
            gi_wp2
            exact zaN Hs.out GW.out gA.out gH hb (by omega) ((H'.out.1.trans (KeepsOthers.setCell _ _ _)).trans (zak _ g9 m9 _ _ _ _)) (zal (H'.out.2.setCell (p:=⟨w.heap.size+1+1,0,none⟩) (by show w.heap.size≤w.heap.size+1+1;omega) _) Ge m9 _ _ _ _) (zaM (zaB Hb Hk _) Hs.out _ _ _ _) (zaf (V9.set _) Hk _ _ _ _) (zaf (zan (p:=⟨w.heap.size+1+1,0,none⟩) V9b (by show w.heap.size+1≠w.heap.size+1+1;omega) _) ga _ _ _ _)
           exact AllReadyIn.nil
          exact AllReadyIn.nil
         refine AllReadyIn.cons rfl (fun K hK=>?_) ?_
         ·go_simp;refine hK _ _ ?_;clear hK K;refine wpAnyIn_ready (rs:=[5]) (by kernel_rfl) (by simp) ?_;refine AllReadyIn.cons rfl (fun K hK=>?_) ?_
          ·go_simp;refine hK _ _ ?_;clear hK K;refine wpAnyIn_ready (rs:=[6]) (by kernel_rfl) (by simp) ?_;refine AllReadyIn.cons rfl (fun K hK=>?_) ?_
           ·go_simp;refine hK _ _ ?_;clear hK K;refine wpAnyIn_done (by kernel_rfl) ?_ _
            gi_wp2
            exact zaN Hs.out GW.out gA.out gH hb (by omega) ((H'.out.1.trans (KeepsOthers.setCell _ _ _)).trans (zak _ g9 m9 _ _ _ _)) (zal (H'.out.2.setCell (p:=⟨w.heap.size+1+1,0,none⟩) (by show w.heap.size≤w.heap.size+1+1;omega) _) Ge m9 _ _ _ _) (zaM (zaB Hb Hk _) Hs.out _ _ _ _) (zaf (V9.set _) Hk _ _ _ _) (zaf (zan (p:=⟨w.heap.size+1+1,0,none⟩) V9b (by show w.heap.size+1≠w.heap.size+1+1;omega) _) ga _ _ _ _)
           exact AllReadyIn.nil
          exact AllReadyIn.nil
         exact AllReadyIn.nil
        exact AllReadyIn.nil
       exact AllReadyIn.nil
      exact AllReadyIn.nil
     refine AllReadyIn.cons rfl (fun K hK=>?_) ?_
     ·go_simp;refine hK _ _ ?_;clear hK K;refine wpAnyIn_ready (rs:=[1,3]) (by kernel_rfl) (by simp) ?_;refine AllReadyIn.cons rfl (fun K hK=>?_) ?_
      ·go_simp;refine hK _ _ ?_;clear hK K;refine wpAnyIn_ready (rs:=[3]) (by kernel_rfl) (by simp) ?_;refine AllReadyIn.cons rfl (fun K hK=>?_) ?_
       ·go_simp;refine hK _ _ ?_;clear hK K;refine wpAnyIn_ready (rs:=[4]) (by kernel_rfl) (by simp) ?_;refine AllReadyIn.cons rfl (fun K hK=>?_) ?_
        ·refine zay _ rfl _ _ 41 rfl w.heap.size 43 i0 _ 4 56 underlying41 hi gE Hn gb rfl (by omega) _ _ _ rfl (by exact Hm.alloc _) ⟨wr.heap.size,0,none⟩ 1 1 [.int .u8 0,.int .u64 0,.string ⟨#[]⟩,.slice none 0 0] rfl rfl (by exact news4 _ _ _ _ _ _ _ rfl) (fun u hu=>(by simp at hu;rcases hu with rfl | rfl | rfl | rfl<;>rfl)) (by omega) (by unfold maxLen;omega) (by omega) (by simp;omega) _ rfl ?_;intro g9 cap9 w9 Hb Ht Hv Gl;have f0:=zb2 Ht B0 KC.out;obtain⟨y0,y1,y2,y3,yf⟩:=f0.all;have V9:=zb3 Ht V2 Hm;have z2:=V9.cell;have z2F:=V9.frozen;have c0:=zao Hb Hs.out 0 (by omega);have c1':=zao Hb Hs.out 1 (by omega);have c2':=zao Hb Hs.out 2 (by omega);have c3':=zao Hb Hs.out 3 (by omega);have Jj:=za9 Hb;have Hk:=zc8 V9 Hb;have V9b:=zbA Ht G1 Hm;have ga:=zb4 V9b Hb;have Ge:=zc7 Hb;have H':=zaa (zbk Hm Ht KG);have K6:=Hk.symm;simp only[List.getElem?_cons_zero,List.getElem?_cons_succ,ybf] at c0 c1' c2' c3'
         try go_simp
         refine hK _ _ ?_;clear hK K;refine wpAnyIn_ready (rs:=[5,7]) (by kernel_rfl) (by simp) ?_;refine AllReadyIn.cons rfl (fun K hK=>?_) ?_
         ·go_simp;refine hK _ _ ?_;clear hK K;refine wpAnyIn_ready (rs:=[6,7]) (by kernel_rfl) (by simp) ?_;refine AllReadyIn.cons rfl (fun K hK=>?_) ?_
          ·go_simp;refine hK _ _ ?_;clear hK K;refine wpAnyIn_ready (rs:=[7]) (by kernel_rfl) (by simp) ?_;refine AllReadyIn.cons rfl (fun K hK=>?_) ?_
           ·go_simp;refine hK _ _ ?_;clear hK K;refine wpAnyIn_done (by kernel_rfl) ?_ _
            gi_wp2
            exact zaN Hs.out GW.out gA.out gH hb (by omega) ((H'.out.1.trans (zak w9 g9 m9 _ _ _ _)).trans (KeepsOthers.setCell _ _ _)) ((zal H'.out.2 Ge m9 _ _ _ _).setCell (p:=⟨w.heap.size+1+1,0,none⟩) (by show w.heap.size≤w.heap.size+1+1;omega) _) (zaB (zaM Hb Hs.out _ _ _ _) Hk _) ((zaf V9 Hk _ _ _ _).set _) (zan (p:=⟨w.heap.size+1+1,0,none⟩) (zaf V9b ga _ _ _ _) (by show w.heap.size+1≠w.heap.size+1+1;omega) _)
           exact AllReadyIn.nil
          refine AllReadyIn.cons rfl (fun K hK=>?_) ?_
          ·go_simp;refine hK _ _ ?_;clear hK K;refine wpAnyIn_ready (rs:=[6]) (by kernel_rfl) (by simp) ?_;refine AllReadyIn.cons rfl (fun K hK=>?_) ?_
           ·go_simp;refine hK _ _ ?_;clear hK K;refine wpAnyIn_done (by kernel_rfl) ?_ _
            gi_wp2
            exact zaN Hs.out GW.out gA.out gH hb (by omega) ((H'.out.1.trans (KeepsOthers.setCell _ _ _)).trans (zak _ g9 m9 _ _ _ _)) (zal (H'.out.2.setCell (p:=⟨w.heap.size+1+1,0,none⟩) (by show w.heap.size≤w.heap.size+1+1;omega) _) Ge m9 _ _ _ _) (zaM (zaB Hb Hk _) Hs.out _ _ _ _) (zaf (V9.set _) Hk _ _ _ _) (zaf (zan (p:=⟨w.heap.size+1+1,0,none⟩) V9b (by show w.heap.size+1≠w.heap.size+1+1;omega) _) ga _ _ _ _)
           exact AllReadyIn.nil
          exact AllReadyIn.nil
         refine AllReadyIn.cons rfl (fun K hK=>?_) ?_
         ·go_simp;refine hK _ _ ?_;clear hK K;refine wpAnyIn_ready (rs:=[5]) (by kernel_rfl) (by simp) ?_;refine AllReadyIn.cons rfl (fun K hK=>?_) ?_
          ·go_simp;refine hK _ _ ?_;clear hK K;refine wpAnyIn_ready (rs:=[6]) (by kernel_rfl) (by simp) ?_;refine AllReadyIn.cons rfl (fun K hK=>?_) ?_
           ·go_simp;refine hK _ _ ?_;clear hK K;refine wpAnyIn_done (by kernel_rfl) ?_ _
            gi_wp2
            exact zaN Hs.out GW.out gA.out gH hb (by omega) ((H'.out.1.trans (KeepsOthers.setCell _ _ _)).trans (zak _ g9 m9 _ _ _ _)) (zal (H'.out.2.setCell (p:=⟨w.heap.size+1+1,0,none⟩) (by show w.heap.size≤w.heap.size+1+1;omega) _) Ge m9 _ _ _ _) (zaM (zaB Hb Hk _) Hs.out _ _ _ _) (zaf (V9.set _) Hk _ _ _ _) (zaf (zan (p:=⟨w.heap.size+1+1,0,none⟩) V9b (by show w.heap.size+1≠w.heap.size+1+1;omega) _) ga _ _ _ _)
           exact AllReadyIn.nil
          exact AllReadyIn.nil
         exact AllReadyIn.nil
        exact AllReadyIn.nil
       exact AllReadyIn.nil
      refine AllReadyIn.cons rfl (fun K hK=>?_) ?_
      ·go_simp;refine hK _ _ ?_;clear hK K;refine wpAnyIn_ready (rs:=[1]) (by kernel_rfl) (by simp) ?_;refine AllReadyIn.cons rfl (fun K hK=>?_) ?_
       ·go_simp;refine hK _ _ ?_;clear hK K;refine wpAnyIn_ready (rs:=[4]) (by kernel_rfl) (by simp) ?_;refine AllReadyIn.cons rfl (fun K hK=>?_) ?_
        ·refine zay _ rfl _ _ 41 rfl w.heap.size 43 i0 _ 4 56 underlying41 hi gE Hn gb rfl (by omega) _ _ _ rfl (by exact Hm.alloc _) ⟨wr.heap.size,0,none⟩ 1 1 [.int .u8 0,.int .u64 0,.string ⟨#[]⟩,.slice none 0 0] rfl rfl (by exact news4 _ _ _ _ _ _ _ rfl) (fun u hu=>(by simp at hu;rcases hu with rfl | rfl | rfl | rfl<;>rfl)) (by omega) (by unfold maxLen;omega) (by omega) (by simp;omega) _ rfl ?_;intro g9 cap9 w9 Hb Ht Hv Gl;have f0:=zb2 Ht B0 KC.out;obtain⟨y0,y1,y2,y3,yf⟩:=f0.all;have V9:=zb3 Ht V2 Hm;have z2:=V9.cell;have z2F:=V9.frozen;have c0:=zao Hb Hs.out 0 (by omega);have c1':=zao Hb Hs.out 1 (by omega);have c2':=zao Hb Hs.out 2 (by omega);have c3':=zao Hb Hs.out 3 (by omega);have Jj:=za9 Hb;have Hk:=zc8 V9 Hb;have V9b:=zbA Ht G1 Hm;have ga:=zb4 V9b Hb;have Ge:=zc7 Hb;have H':=zaa (zbk Hm Ht KG);have K6:=Hk.symm;simp only[List.getElem?_cons_zero,List.getElem?_cons_succ,ybf] at c0 c1' c2' c3'
         try go_simp
         refine hK _ _ ?_;clear hK K;refine wpAnyIn_ready (rs:=[5,7]) (by kernel_rfl) (by simp) ?_;refine AllReadyIn.cons rfl (fun K hK=>?_) ?_
         ·go_simp;refine hK _ _ ?_;clear hK K;refine wpAnyIn_ready (rs:=[6,7]) (by kernel_rfl) (by simp) ?_;refine AllReadyIn.cons rfl (fun K hK=>?_) ?_
          ·go_simp;refine hK _ _ ?_;clear hK K;refine wpAnyIn_ready (rs:=[7]) (by kernel_rfl) (by simp) ?_;refine AllReadyIn.cons rfl (fun K hK=>?_) ?_
           ·go_simp;refine hK _ _ ?_;clear hK K;refine wpAnyIn_done (by kernel_rfl) ?_ _
            gi_wp2
            exact zaN Hs.out GW.out gA.out gH hb (by omega) ((H'.out.1.trans (zak w9 g9 m9 _ _ _ _)).trans (KeepsOthers.setCell _ _ _)) ((zal H'.out.2 Ge m9 _ _ _ _).setCell (p:=⟨w.heap.size+1+1,0,none⟩) (by show w.heap.size≤w.heap.size+1+1;omega) _) (zaB (zaM Hb Hs.out _ _ _ _) Hk _) ((zaf V9 Hk _ _ _ _).set _) (zan (p:=⟨w.heap.size+1+1,0,none⟩) (zaf V9b ga _ _ _ _) (by show w.heap.size+1≠w.heap.size+1+1;omega) _)
           exact AllReadyIn.nil
          refine AllReadyIn.cons rfl (fun K hK=>?_) ?_
          ·go_simp;refine hK _ _ ?_;clear hK K;refine wpAnyIn_ready (rs:=[6]) (by kernel_rfl) (by simp) ?_;refine AllReadyIn.cons rfl (fun K hK=>?_) ?_
           ·go_simp;refine hK _ _ ?_;clear hK K;refine wpAnyIn_done (by kernel_rfl) ?_ _
            gi_wp2
            exact zaN Hs.out GW.out gA.out gH hb (by omega) ((H'.out.1.trans (KeepsOthers.setCell _ _ _)).trans (zak _ g9 m9 _ _ _ _)) (zal (H'.out.2.setCell (p:=⟨w.heap.size+1+1,0,none⟩) (by show w.heap.size≤w.heap.size+1+1;omega) _) Ge m9 _ _ _ _) (zaM (zaB Hb Hk _) Hs.out _ _ _ _) (zaf (V9.set _) Hk _ _ _ _) (zaf (zan (p:=⟨w.heap.size+1+1,0,none⟩) V9b (by show w.heap.size+1≠w.heap.size+1+1;omega) _) ga _ _ _ _)
           exact AllReadyIn.nil
          exact AllReadyIn.nil
         refine AllReadyIn.cons rfl (fun K hK=>?_) ?_
         ·go_simp;refine hK _ _ ?_;clear hK K;refine wpAnyIn_ready (rs:=[5]) (by kernel_rfl) (by simp) ?_;refine AllReadyIn.cons rfl (fun K hK=>?_) ?_
          ·go_simp;refine hK _ _ ?_;clear hK K;refine wpAnyIn_ready (rs:=[6]) (by kernel_rfl) (by simp) ?_;refine AllReadyIn.cons rfl (fun K hK=>?_) ?_
           ·go_simp;refine hK _ _ ?_;clear hK K;refine wpAnyIn_done (by kernel_rfl) ?_ _
            gi_wp2
            exact zaN Hs.out GW.out gA.out gH hb (by omega) ((H'.out.1.trans (KeepsOthers.setCell _ _ _)).trans (zak _ g9 m9 _ _ _ _)) (zal (H'.out.2.setCell (p:=⟨w.heap.size+1+1,0,none⟩) (by show w.heap.size≤w.heap.size+1+1;omega) _) Ge m9 _ _ _ _) (zaM (zaB Hb Hk _) Hs.out _ _ _ _) (zaf (V9.set _) Hk _ _ _ _) (zaf (zan (p:=⟨w.heap.size+1+1,0,none⟩) V9b (by show w.heap.size+1≠w.heap.size+1+1;omega) _) ga _ _ _ _)
           exact AllReadyIn.nil
          exact AllReadyIn.nil
         exact AllReadyIn.nil
        exact AllReadyIn.nil
       exact AllReadyIn.nil
      exact AllReadyIn.nil
     refine AllReadyIn.cons rfl (fun K hK=>?_) ?_
     ·go_simp;refine hK _ _ ?_;clear hK K;refine wpAnyIn_ready (rs:=[1,2]) (by kernel_rfl) (by simp) ?_;refine AllReadyIn.cons rfl (fun K hK=>?_) ?_
      ·go_simp;refine hK _ _ ?_;clear hK K;refine wpAnyIn_ready (rs:=[2]) (by kernel_rfl) (by simp) ?_;refine AllReadyIn.cons rfl (fun K hK=>?_) ?_
       ·go_simp;refine hK _ _ ?_;clear hK K;refine wpAnyIn_ready (rs:=[4]) (by kernel_rfl) (by simp) ?_;refine AllReadyIn.cons rfl (fun K hK=>?_) ?_
        ·refine zay _ rfl _ _ 41 rfl w.heap.size 43 i0 _ 4 56 underlying41 hi gE Hn gb rfl (by omega) _ _ _ rfl (by exact Hm.alloc _) ⟨wr.heap.size,0,none⟩ 1 1 [.int .u8 0,.int .u64 0,.string ⟨#[]⟩,.slice none 0 0] rfl rfl (by exact news4 _ _ _ _ _ _ _ rfl) (fun u hu=>(by simp at hu;rcases hu with rfl | rfl | rfl | rfl<;>rfl)) (by omega) (by unfold maxLen;omega) (by omega) (by simp;omega) _ rfl ?_;intro g9 cap9 w9 Hb Ht Hv Gl;have f0:=zb2 Ht B0 KC.out;obtain⟨y0,y1,y2,y3,yf⟩:=f0.all;have V9:=zb3 Ht V2 Hm;have z2:=V9.cell;have z2F:=V9.frozen;have c0:=zao Hb Hs.out 0 (by omega);have c1':=zao Hb Hs.out 1 (by omega);have c2':=zao Hb Hs.out 2 (by omega);have c3':=zao Hb Hs.out 3 (by omega);have Jj:=za9 Hb;have Hk:=zc8 V9 Hb;have V9b:=zbA Ht G1 Hm;have ga:=zb4 V9b Hb;have Ge:=zc7 Hb;have H':=zaa (zbk Hm Ht KG);have K6:=Hk.symm;simp only[List.getElem?_cons_zero,List.getElem?_cons_succ,ybf] at c0 c1' c2' c3'
         try go_simp
         refine hK _ _ ?_;clear hK K;refine wpAnyIn_ready (rs:=[5,7]) (by kernel_rfl) (by simp) ?_;refine AllReadyIn.cons rfl (fun K hK=>?_) ?_
         ·go_simp;refine hK _ _ ?_;clear hK K;refine wpAnyIn_ready (rs:=[6,7]) (by kernel_rfl) (by simp) ?_;refine AllReadyIn.cons rfl (fun K hK=>?_) ?_
          ·go_simp;refine hK _ _ ?_;clear hK K;refine wpAnyIn_ready (rs:=[7]) (by kernel_rfl) (by simp) ?_;refine AllReadyIn.cons rfl (fun K hK=>?_) ?_
           ·go_simp;refine hK _ _ ?_;clear hK K;refine wpAnyIn_done (by kernel_rfl) ?_ _
            gi_wp2
            exact zaN Hs.out GW.out gA.out gH hb (by omega) ((H'.out.1.trans (zak w9 g9 m9 _ _ _ _)).trans (KeepsOthers.setCell _ _ _)) ((zal H'.out.2 Ge m9 _ _ _ _).setCell (p:=⟨w.heap.size+1+1,0,none⟩) (by show w.heap.size≤w.heap.size+1+1;omega) _) (zaB (zaM Hb Hs.out _ _ _ _) Hk _) ((zaf V9 Hk _ _ _ _).set _) (zan (p:=⟨w.heap.size+1+1,0,none⟩) (zaf V9b ga _ _ _ _) (by show w.heap.size+1≠w.heap.size+1+1;omega) _)
           exact AllReadyIn.nil
          refine AllReadyIn.cons rfl (fun K hK=>?_) ?_
          ·go_simp;refine hK _ _ ?_;clear hK K;refine wpAnyIn_ready (rs:=[6]) (by kernel_rfl) (by simp) ?_;refine AllReadyIn.cons rfl (fun K hK=>?_) ?_
           ·go_simp;refine hK _ _ ?_;clear hK K;refine wpAnyIn_done (by kernel_rfl) ?_ _
            gi_wp2
            exact zaN Hs.out GW.out gA.out gH hb (by omega) ((H'.out.1.trans (KeepsOthers.setCell _ _ _)).trans (zak _ g9 m9 _ _ _ _)) (zal (H'.out.2.setCell (p:=⟨w.heap.size+1+1,0,none⟩) (by show w.heap.size≤w.heap.size+1+1;omega) _) Ge m9 _ _ _ _) (zaM (zaB Hb Hk _) Hs.out _ _ _ _) (zaf (V9.set _) Hk _ _ _ _) (zaf (zan (p:=⟨w.heap.size+1+1,0,none⟩) V9b (by show w.heap.size+1≠w.heap.size+1+1;omega) _) ga _ _ _ _)
           exact AllReadyIn.nil
          exact AllReadyIn.nil
         refine AllReadyIn.cons rfl (fun K hK=>?_) ?_
         ·go_simp;refine hK _ _ ?_;clear hK K;refine wpAnyIn_ready (rs:=[5]) (by kernel_rfl) (by simp) ?_;refine AllReadyIn.cons rfl (fun K hK=>?_) ?_
          ·go_simp;refine hK _ _ ?_;clear hK K;refine wpAnyIn_ready (rs:=[6]) (by kernel_rfl) (by simp) ?_;refine AllReadyIn.cons rfl (fun K hK=>?_) ?_
           ·go_simp;refine hK _ _ ?_;clear hK K;refine wpAnyIn_done (by kernel_rfl) ?_ _
            gi_wp2
            exact zaN Hs.out GW.out gA.out gH hb (by omega) ((H'.out.1.trans (KeepsOthers.setCell _ _ _)).trans (zak _ g9 m9 _ _ _ _)) (zal (H'.out.2.setCell (p:=⟨w.heap.size+1+1,0,none⟩) (by show w.heap.size≤w.heap.size+1+1;omega) _) Ge m9 _ _ _ _) (zaM (zaB Hb Hk _) Hs.out _ _ _ _) (zaf (V9.set _) Hk _ _ _ _) (zaf (zan (p:=⟨w.heap.size+1+1,0,none⟩) V9b (by show w.heap.size+1≠w.heap.size+1+1;omega) _) ga _ _ _ _)
           exact AllReadyIn.nil
          exact AllReadyIn.nil
         exact AllReadyIn.nil
        exact AllReadyIn.nil
       exact AllReadyIn.nil
      refine AllReadyIn.cons rfl (fun K hK=>?_) ?_
      ·go_simp;refine hK _ _ ?_;clear hK K;refine wpAnyIn_ready (rs:=[1]) (by kernel_rfl) (by simp) ?_;refine AllReadyIn.cons rfl (fun K hK=>?_) ?_
       ·go_simp;refine hK _ _ ?_;clear hK K;refine wpAnyIn_ready (rs:=[4]) (by kernel_rfl) (by simp) ?_;refine AllReadyIn.cons rfl (fun K hK=>?_) ?_
        ·refine zay _ rfl _ _ 41 rfl w.heap.size 43 i0 _ 4 56 underlying41 hi gE Hn gb rfl (by omega) _ _ _ rfl (by exact Hm.alloc _) ⟨wr.heap.size,0,none⟩ 1 1 [.int .u8 0,.int .u64 0,.string ⟨#[]⟩,.slice none 0 0] rfl rfl (by exact news4 _ _ _ _ _ _ _ rfl) (fun u hu=>(by simp at hu;rcases hu with rfl | rfl | rfl | rfl<;>rfl)) (by omega) (by unfold maxLen;omega) (by omega) (by simp;omega) _ rfl ?_;intro g9 cap9 w9 Hb Ht Hv Gl;have f0:=zb2 Ht B0 KC.out;obtain⟨y0,y1,y2,y3,yf⟩:=f0.all;have V9:=zb3 Ht V2 Hm;have z2:=V9.cell;have z2F:=V9.frozen;have c0:=zao Hb Hs.out 0 (by omega);have c1':=zao Hb Hs.out 1 (by omega);have c2':=zao Hb Hs.out 2 (by omega);have c3':=zao Hb Hs.out 3 (by omega);have Jj:=za9 Hb;have Hk:=zc8 V9 Hb;have V9b:=zbA Ht G1 Hm;have ga:=zb4 V9b Hb;have Ge:=zc7 Hb;have H':=zaa (zbk Hm Ht KG);have K6:=Hk.symm;simp only[List.getElem?_cons_zero,List.getElem?_cons_succ,ybf] at c0 c1' c2' c3'
         try go_simp
         refine hK _ _ ?_;clear hK K;refine wpAnyIn_ready (rs:=[5,7]) (by kernel_rfl) (by simp) ?_;refine AllReadyIn.cons rfl (fun K hK=>?_) ?_
         ·go_simp;refine hK _ _ ?_;clear hK K;refine wpAnyIn_ready (rs:=[6,7]) (by kernel_rfl) (by simp) ?_;refine AllReadyIn.cons rfl (fun K hK=>?_) ?_
          ·go_simp;refine hK _ _ ?_;clear hK K;refine wpAnyIn_ready (rs:=[7]) (by kernel_rfl) (by simp) ?_;refine AllReadyIn.cons rfl (fun K hK=>?_) ?_
           ·go_simp;refine hK _ _ ?_;clear hK K;refine wpAnyIn_done (by kernel_rfl) ?_ _
            gi_wp2
            exact zaN Hs.out GW.out gA.out gH hb (by omega) ((H'.out.1.trans (zak w9 g9 m9 _ _ _ _)).trans (KeepsOthers.setCell _ _ _)) ((zal H'.out.2 Ge m9 _ _ _ _).setCell (p:=⟨w.heap.size+1+1,0,none⟩) (by show w.heap.size≤w.heap.size+1+1;omega) _) (zaB (zaM Hb Hs.out _ _ _ _) Hk _) ((zaf V9 Hk _ _ _ _).set _) (zan (p:=⟨w.heap.size+1+1,0,none⟩) (zaf V9b ga _ _ _ _) (by show w.heap.size+1≠w.heap.size+1+1;omega) _)
           exact AllReadyIn.nil
          refine AllReadyIn.cons rfl (fun K hK=>?_) ?_
          ·go_simp;refine hK _ _ ?_;clear hK K;refine wpAnyIn_ready (rs:=[6]) (by kernel_rfl) (by simp) ?_;refine AllReadyIn.cons rfl (fun K hK=>?_) ?_
           ·go_simp;refine hK _ _ ?_;clear hK K;refine wpAnyIn_done (by kernel_rfl) ?_ _
            gi_wp2
            exact zaN Hs.out GW.out gA.out gH hb (by omega) ((H'.out.1.trans (KeepsOthers.setCell _ _ _)).trans (zak _ g9 m9 _ _ _ _)) (zal (H'.out.2.setCell (p:=⟨w.heap.size+1+1,0,none⟩) (by show w.heap.size≤w.heap.size+1+1;omega) _) Ge m9 _ _ _ _) (zaM (zaB Hb Hk _) Hs.out _ _ _ _) (zaf (V9.set _) Hk _ _ _ _) (zaf (zan (p:=⟨w.heap.size+1+1,0,none⟩) V9b (by show w.heap.size+1≠w.heap.size+1+1;omega) _) ga _ _ _ _)
           exact AllReadyIn.nil
          exact AllReadyIn.nil
         refine AllReadyIn.cons rfl (fun K hK=>?_) ?_
         ·go_simp;refine hK _ _ ?_;clear hK K;refine wpAnyIn_ready (rs:=[5]) (by kernel_rfl) (by simp) ?_;refine AllReadyIn.cons rfl (fun K hK=>?_) ?_
          ·go_simp;refine hK _ _ ?_;clear hK K;refine wpAnyIn_ready (rs:=[6]) (by kernel_rfl) (by simp) ?_;refine AllReadyIn.cons rfl (fun K hK=>?_) ?_
           ·go_simp;refine hK _ _ ?_;clear hK K;refine wpAnyIn_done (by kernel_rfl) ?_ _
            gi_wp2
            exact zaN Hs.out GW.out gA.out gH hb (by omega) ((H'.out.1.trans (KeepsOthers.setCell _ _ _)).trans (zak _ g9 m9 _ _ _ _)) (zal (H'.out.2.setCell (p:=⟨w.heap.size+1+1,0,none⟩) (by show w.heap.size≤w.heap.size+1+1;omega) _) Ge m9 _ _ _ _) (zaM (zaB Hb Hk _) Hs.out _ _ _ _) (zaf (V9.set _) Hk _ _ _ _) (zaf (zan (p:=⟨w.heap.size+1+1,0,none⟩) V9b (by show w.heap.size+1≠w.heap.size+1+1;omega) _) ga _ _ _ _)
           exact AllReadyIn.nil
          exact AllReadyIn.nil
         exact AllReadyIn.nil
        exact AllReadyIn.nil
       exact AllReadyIn.nil
      exact AllReadyIn.nil
     exact AllReadyIn.nil
    refine AllReadyIn.cons rfl (fun K hK=>?_) ?_
    ·go_simp;refine hK _ _ ?_;clear hK K;refine wpAnyIn_ready (rs:=[0,3]) (by kernel_rfl) (by simp) ?_;refine AllReadyIn.cons rfl (fun K hK=>?_) ?_
     ·go_simp;refine hK _ _ ?_;clear hK K;refine wpAnyIn_ready (rs:=[2,3]) (by kernel_rfl) (by simp) ?_;refine AllReadyIn.cons rfl (fun K hK=>?_) ?_
      ·go_simp;refine hK _ _ ?_;clear hK K;refine wpAnyIn_ready (rs:=[3]) (by kernel_rfl) (by simp) ?_;refine AllReadyIn.cons rfl (fun K hK=>?_) ?_
       ·go_simp;refine hK _ _ ?_;clear hK K;refine wpAnyIn_ready (rs:=[4]) (by kernel_rfl) (by simp) ?_;refine AllReadyIn.cons rfl (fun K hK=>?_) ?_
        ·refine zay _ rfl _ _ 41 rfl w.heap.size 43 i0 _ 4 56 underlying41 hi gE Hn gb rfl (by omega) _ _ _ rfl (by exact Hm.alloc _) ⟨wr.heap.size,0,none⟩ 1 1 [.int .u8 0,.int .u64 0,.string ⟨#[]⟩,.slice none 0 0] rfl rfl (by exact news4 _ _ _ _ _ _ _ rfl) (fun u hu=>(by simp at hu;rcases hu with rfl | rfl | rfl | rfl<;>rfl)) (by omega) (by unfold maxLen;omega) (by omega) (by simp;omega) _ rfl ?_;intro g9 cap9 w9 Hb Ht Hv Gl;have f0:=zb2 Ht B0 KC.out;obtain⟨y0,y1,y2,y3,yf⟩:=f0.all;have V9:=zb3 Ht V2 Hm;have z2:=V9.cell;have z2F:=V9.frozen;have c0:=zao Hb Hs.out 0 (by omega);have c1':=zao Hb Hs.out 1 (by omega);have c2':=zao Hb Hs.out 2 (by omega);have c3':=zao Hb Hs.out 3 (by omega);have Jj:=za9 Hb;have Hk:=zc8 V9 Hb;have V9b:=zbA Ht G1 Hm;have ga:=zb4 V9b Hb;have Ge:=zc7 Hb;have H':=zaa (zbk Hm Ht KG);have K6:=Hk.symm;simp only[List.getElem?_cons_zero,List.getElem?_cons_succ,ybf] at c0 c1' c2' c3'
         try go_simp
         refine hK _ _ ?_;clear hK K;refine wpAnyIn_ready (rs:=[5,7]) (by kernel_rfl) (by simp) ?_;refine AllReadyIn.cons rfl (fun K hK=>?_) ?_
         ·go_simp;refine hK _ _ ?_;clear hK K;refine wpAnyIn_ready (rs:=[6,7]) (by kernel_rfl) (by simp) ?_;refine AllReadyIn.cons rfl (fun K hK=>?_) ?_
          ·go_simp;refine hK _ _ ?_;clear hK K;refine wpAnyIn_ready (rs:=[7]) (by kernel_rfl) (by simp) ?_;refine AllReadyIn.cons rfl (fun K hK=>?_) ?_
           ·go_simp;refine hK _ _ ?_;clear hK K;refine wpAnyIn_done (by kernel_rfl) ?_ _
            gi_wp2
            exact zaN Hs.out GW.out gA.out gH hb (by omega) ((H'.out.1.trans (zak w9 g9 m9 _ _ _ _)).trans (KeepsOthers.setCell _ _ _)) ((zal H'.out.2 Ge m9 _ _ _ _).setCell (p:=⟨w.heap.size+1+1,0,none⟩) (by show w.heap.size≤w.heap.size+1+1;omega) _) (zaB (zaM Hb Hs.out _ _ _ _) Hk _) ((zaf V9 Hk _ _ _ _).set _) (zan (p:=⟨w.heap.size+1+1,0,none⟩) (zaf V9b ga _ _ _ _) (by show w.heap.size+1≠w.heap.size+1+1;omega) _)
           exact AllReadyIn.nil
          refine AllReadyIn.cons rfl (fun K hK=>?_) ?_
          ·go_simp;refine hK _ _ ?_;clear hK K;refine wpAnyIn_ready (rs:=[6]) (by kernel_rfl) (by simp) ?_;refine AllReadyIn.cons rfl (fun K hK=>?_) ?_
           ·go_simp;refine hK _ _ ?_;clear hK K;refine wpAnyIn_done (by kernel_rfl) ?_ _
            gi_wp2
            exact zaN Hs.out GW.out gA.out gH hb (by omega) ((H'.out.1.trans (KeepsOthers.setCell _ _ _)).trans (zak _ g9 m9 _ _ _ _)) (zal (H'.out.2.setCell (p:=⟨w.heap.size+1+1,0,none⟩) (by show w.heap.size≤w.heap.size+1+1;omega) _) Ge m9 _ _ _ _) (zaM (zaB Hb Hk _) Hs.out _ _ _ _) (zaf (V9.set _) Hk _ _ _ _) (zaf (zan (p:=⟨w.heap.size+1+1,0,none⟩) V9b (by show w.heap.size+1≠w.heap.size+1+1;omega) _) ga _ _ _ _)
           exact AllReadyIn.nil
          exact AllReadyIn.nil
         refine AllReadyIn.cons rfl (fun K hK=>?_) ?_
         ·go_simp;refine hK _ _ ?_;clear hK K;refine wpAnyIn_ready (rs:=[5]) (by kernel_rfl) (by simp) ?_;refine AllReadyIn.cons rfl (fun K hK=>?_) ?_
          ·go_simp;refine hK _ _ ?_;clear hK K;refine wpAnyIn_ready (rs:=[6]) (by kernel_rfl) (by simp) ?_;refine AllReadyIn.cons rfl (fun K hK=>?_) ?_
           ·go_simp;refine hK _ _ ?_;clear hK K;refine wpAnyIn_done (by kernel_rfl) ?_ _
            gi_wp2
            exact zaN Hs.out GW.out gA.out gH hb (by omega) ((H'.out.1.trans (KeepsOthers.setCell _ _ _)).trans (zak _ g9 m9 _ _ _ _)) (zal (H'.out.2.setCell (p:=⟨w.heap.size+1+1,0,none⟩) (by show w.heap.size≤w.heap.size+1+1;omega) _) Ge m9 _ _ _ _) (zaM (zaB Hb Hk _) Hs.out _ _ _ _) (zaf (V9.set _) Hk _ _ _ _) (zaf (zan (p:=⟨w.heap.size+1+1,0,none⟩) V9b (by show w.heap.size+1≠w.heap.size+1+1;omega) _) ga _ _ _ _)
           exact AllReadyIn.nil
          exact AllReadyIn.nil
         exact AllReadyIn.nil
        exact AllReadyIn.nil
       exact AllReadyIn.nil
      refine AllReadyIn.cons rfl (fun K hK=>?_) ?_
      ·go_simp;refine hK _ _ ?_;clear hK K;refine wpAnyIn_ready (rs:=[2]) (by kernel_rfl) (by simp) ?_;refine AllReadyIn.cons rfl (fun K hK=>?_) ?_
       ·go_simp;refine hK _ _ ?_;clear hK K;refine wpAnyIn_ready (rs:=[4]) (by kernel_rfl) (by simp) ?_;refine AllReadyIn.cons rfl (fun K hK=>?_) ?_
        ·refine zay _ rfl _ _ 41 rfl w.heap.size 43 i0 _ 4 56 underlying41 hi gE Hn gb rfl (by omega) _ _ _ rfl (by exact Hm.alloc _) ⟨wr.heap.size,0,none⟩ 1 1 [.int .u8 0,.int .u64 0,.string ⟨#[]⟩,.slice none 0 0] rfl rfl (by exact news4 _ _ _ _ _ _ _ rfl) (fun u hu=>(by simp at hu;rcases hu with rfl | rfl | rfl | rfl<;>rfl)) (by omega) (by unfold maxLen;omega) (by omega) (by simp;omega) _ rfl ?_;intro g9 cap9 w9 Hb Ht Hv Gl;have f0:=zb2 Ht B0 KC.out;obtain⟨y0,y1,y2,y3,yf⟩:=f0.all;have V9:=zb3 Ht V2 Hm;have z2:=V9.cell;have z2F:=V9.frozen;have c0:=zao Hb Hs.out 0 (by omega);have c1':=zao Hb Hs.out 1 (by omega);have c2':=zao Hb Hs.out 2 (by omega);have c3':=zao Hb Hs.out 3 (by omega);have Jj:=za9 Hb;have Hk:=zc8 V9 Hb;have V9b:=zbA Ht G1 Hm;have ga:=zb4 V9b Hb;have Ge:=zc7 Hb;have H':=zaa (zbk Hm Ht KG);have K6:=Hk.symm;simp only[List.getElem?_cons_zero,List.getElem?_cons_succ,ybf] at c0 c1' c2' c3'
         try go_simp
         refine hK _ _ ?_;clear hK K;refine wpAnyIn_ready (rs:=[5,7]) (by kernel_rfl) (by simp) ?_;refine AllReadyIn.cons rfl (fun K hK=>?_) ?_
         ·go_simp;refine hK _ _ ?_;clear hK K;refine wpAnyIn_ready (rs:=[6,7]) (by kernel_rfl) (by simp) ?_;refine AllReadyIn.cons rfl (fun K hK=>?_) ?_
          ·go_simp;refine hK _ _ ?_;clear hK K;refine wpAnyIn_ready (rs:=[7]) (by kernel_rfl) (by simp) ?_;refine AllReadyIn.cons rfl (fun K hK=>?_) ?_
           ·go_simp;refine hK _ _ ?_;clear hK K;refine wpAnyIn_done (by kernel_rfl) ?_ _
            gi_wp2
            exact zaN Hs.out GW.out gA.out gH hb (by omega) ((H'.out.1.trans (zak w9 g9 m9 _ _ _ _)).trans (KeepsOthers.setCell _ _ _)) ((zal H'.out.2 Ge m9 _ _ _ _).setCell (p:=⟨w.heap.size+1+1,0,none⟩) (by show w.heap.size≤w.heap.size+1+1;omega) _) (zaB (zaM Hb Hs.out _ _ _ _) Hk _) ((zaf V9 Hk _ _ _ _).set _) (zan (p:=⟨w.heap.size+1+1,0,none⟩) (zaf V9b ga _ _ _ _) (by show w.heap.size+1≠w.heap.size+1+1;omega) _)
           exact AllReadyIn.nil
          refine AllReadyIn.cons rfl (fun K hK=>?_) ?_
          ·go_simp;refine hK _ _ ?_;clear hK K;refine wpAnyIn_ready (rs:=[6]) (by kernel_rfl) (by simp) ?_;refine AllReadyIn.cons rfl (fun K hK=>?_) ?_
           ·go_simp;refine hK _ _ ?_;clear hK K;refine wpAnyIn_done (by kernel_rfl) ?_ _
            gi_wp2
            exact zaN Hs.out GW.out gA.out gH hb (by omega) ((H'.out.1.trans (KeepsOthers.setCell _ _ _)).trans (zak _ g9 m9 _ _ _ _)) (zal (H'.out.2.setCell (p:=⟨w.heap.size+1+1,0,none⟩) (by show w.heap.size≤w.heap.size+1+1;omega) _) Ge m9 _ _ _ _) (zaM (zaB Hb Hk _) Hs.out _ _ _ _) (zaf (V9.set _) Hk _ _ _ _) (zaf (zan (p:=⟨w.heap.size+1+1,0,none⟩) V9b (by show w.heap.size+1≠w.heap.size+1+1;omega) _) ga _ _ _ _)
           exact AllReadyIn.nil
          exact AllReadyIn.nil
         refine AllReadyIn.cons rfl (fun K hK=>?_) ?_
         ·go_simp;refine hK _ _ ?_;clear hK K;refine wpAnyIn_ready (rs:=[5]) (by kernel_rfl) (by simp) ?_;refine AllReadyIn.cons rfl (fun K hK=>?_) ?_
          ·go_simp;refine hK _ _ ?_;clear hK K;refine wpAnyIn_ready (rs:=[6]) (by kernel_rfl) (by simp) ?_;refine AllReadyIn.cons rfl (fun K hK=>?_) ?_
           ·go_simp;refine hK _ _ ?_;clear hK K;refine wpAnyIn_done (by kernel_rfl) ?_ _
            gi_wp2
            exact zaN Hs.out GW.out gA.out gH hb (by omega) ((H'.out.1.trans (KeepsOthers.setCell _ _ _)).trans (zak _ g9 m9 _ _ _ _)) (zal (H'.out.2.setCell (p:=⟨w.heap.size+1+1,0,none⟩) (by show w.heap.size≤w.heap.size+1+1;omega) _) Ge m9 _ _ _ _) (zaM (zaB Hb Hk _) Hs.out _ _ _ _) (zaf (V9.set _) Hk _ _ _ _) (zaf (zan (p:=⟨w.heap.size+1+1,0,none⟩) V9b (by show w.heap.size+1≠w.heap.size+1+1;omega) _) ga _ _ _ _)
           exact AllReadyIn.nil
          exact AllReadyIn.nil
         exact AllReadyIn.nil
        exact AllReadyIn.nil
       exact AllReadyIn.nil
      exact AllReadyIn.nil
     refine AllReadyIn.cons rfl (fun K hK=>?_) ?_
     ·go_simp;refine hK _ _ ?_;clear hK K;refine wpAnyIn_ready (rs:=[0]) (by kernel_rfl) (by simp) ?_;refine AllReadyIn.cons rfl (fun K hK=>?_) ?_
      ·go_simp;refine hK _ _ ?_;clear hK K;refine wpAnyIn_ready (rs:=[2]) (by kernel_rfl) (by simp) ?_;refine AllReadyIn.cons rfl (fun K hK=>?_) ?_
       ·go_simp;refine hK _ _ ?_;clear hK K;refine wpAnyIn_ready (rs:=[4]) (by kernel_rfl) (by simp) ?_;refine AllReadyIn.cons rfl (fun K hK=>?_) ?_
        ·refine zay _ rfl _ _ 41 rfl w.heap.size 43 i0 _ 4 56 underlying41 hi gE Hn gb rfl (by omega) _ _ _ rfl (by exact Hm.alloc _) ⟨wr.heap.size,0,none⟩ 1 1 [.int .u8 0,.int .u64 0,.string ⟨#[]⟩,.slice none 0 0] rfl rfl (by exact news4 _ _ _ _ _ _ _ rfl) (fun u hu=>(by simp at hu;rcases hu with rfl | rfl | rfl | rfl<;>rfl)) (by omega) (by unfold maxLen;omega) (by omega) (by simp;omega) _ rfl ?_;intro g9 cap9 w9 Hb Ht Hv Gl;have f0:=zb2 Ht B0 KC.out;obtain⟨y0,y1,y2,y3,yf⟩:=f0.all;have V9:=zb3 Ht V2 Hm;have z2:=V9.cell;have z2F:=V9.frozen;have c0:=zao Hb Hs.out 0 (by omega);have c1':=zao Hb Hs.out 1 (by omega);have c2':=zao Hb Hs.out 2 (by omega);have c3':=zao Hb Hs.out 3 (by omega);have Jj:=za9 Hb;have Hk:=zc8 V9 Hb;have V9b:=zbA Ht G1 Hm;have ga:=zb4 V9b Hb;have Ge:=zc7 Hb;have H':=zaa (zbk Hm Ht KG);have K6:=Hk.symm;simp only[List.getElem?_cons_zero,List.getElem?_cons_succ,ybf] at c0 c1' c2' c3'
         try go_simp
         refine hK _ _ ?_;clear hK K;refine wpAnyIn_ready (rs:=[5,7]) (by kernel_rfl) (by simp) ?_;refine AllReadyIn.cons rfl (fun K hK=>?_) ?_
         ·go_simp;refine hK _ _ ?_;clear hK K;refine wpAnyIn_ready (rs:=[6,7]) (by kernel_rfl) (by simp) ?_;refine AllReadyIn.cons rfl (fun K hK=>?_) ?_
          ·go_simp;refine hK _ _ ?_;clear hK K;refine wpAnyIn_ready (rs:=[7]) (by kernel_rfl) (by simp) ?_;refine AllReadyIn.cons rfl (fun K hK=>?_) ?_
           ·go_simp;refine hK _ _ ?_;clear hK K;refine wpAnyIn_done (by kernel_rfl) ?_ _
            gi_wp2
            exact zaN Hs.out GW.out gA.out gH hb (by omega) ((H'.out.1.trans (zak w9 g9 m9 _ _ _ _)).trans (KeepsOthers.setCell _ _ _)) ((zal H'.out.2 Ge m9 _ _ _ _).setCell (p:=⟨w.heap.size+1+1,0,none⟩) (by show w.heap.size≤w.heap.size+1+1;omega) _) (zaB (zaM Hb Hs.out _ _ _ _) Hk _) ((zaf V9 Hk _ _ _ _).set _) (zan (p:=⟨w.heap.size+1+1,0,none⟩) (zaf V9b ga _ _ _ _) (by show w.heap.size+1≠w.heap.size+1+1;omega) _)
           exact AllReadyIn.nil
          refine AllReadyIn.cons rfl (fun K hK=>?_) ?_
          ·go_simp;refine hK _ _ ?_;clear hK K;refine wpAnyIn_ready (rs:=[6]) (by kernel_rfl) (by simp) ?_;refine AllReadyIn.cons rfl (fun K hK=>?_) ?_
           ·go_simp;refine hK _ _ ?_;clear hK K;refine wpAnyIn_done (by kernel_rfl) ?_ _
            gi_wp2
            exact zaN Hs.out GW.out gA.out gH hb (by omega) ((H'.out.1.trans (KeepsOthers.setCell _ _ _)).trans (zak _ g9 m9 _ _ _ _)) (zal (H'.out.2.setCell (p:=⟨w.heap.size+1+1,0,none⟩) (by show w.heap.size≤w.heap.size+1+1;omega) _) Ge m9 _ _ _ _) (zaM (zaB Hb Hk _) Hs.out _ _ _ _) (zaf (V9.set _) Hk _ _ _ _) (zaf (zan (p:=⟨w.heap.size+1+1,0,none⟩) V9b (by show w.heap.size+1≠w.heap.size+1+1;omega) _) ga _ _ _ _)
           exact AllReadyIn.nil
          exact AllReadyIn.nil
         refine AllReadyIn.cons rfl (fun K hK=>?_) ?_
         ·go_simp;refine hK _ _ ?_;clear hK K;refine wpAnyIn_ready (rs:=[5]) (by kernel_rfl) (by simp) ?_;refine AllReadyIn.cons rfl (fun K hK=>?_) ?_
          ·go_simp;refine hK _ _ ?_;clear hK K;refine wpAnyIn_ready (rs:=[6]) (by kernel_rfl) (by simp) ?_;refine AllReadyIn.cons rfl (fun K hK=>?_) ?_
           ·go_simp;refine hK _ _ ?_;clear hK K;refine wpAnyIn_done (by kernel_rfl) ?_ _
            gi_wp2
            exact zaN Hs.out GW.out gA.out gH hb (by omega) ((H'.out.1.trans (KeepsOthers.setCell _ _ _)).trans (zak _ g9 m9 _ _ _ _)) (zal (H'.out.2.setCell (p:=⟨w.heap.size+1+1,0,none⟩) (by show w.heap.size≤w.heap.size+1+1;omega) _) Ge m9 _ _ _ _) (zaM (zaB Hb Hk _) Hs.out _ _ _ _) (zaf (V9.set _) Hk _ _ _ _) (zaf (zan (p:=⟨w.heap.size+1+1,0,none⟩) V9b (by show w.heap.size+1≠w.heap.size+1+1;omega) _) ga _ _ _ _)
           exact AllReadyIn.nil
          exact AllReadyIn.nil
         exact AllReadyIn.nil
        exact AllReadyIn.nil
       exact AllReadyIn.nil
      exact AllReadyIn.nil
     exact AllReadyIn.nil
    refine AllReadyIn.cons rfl (fun K hK=>?_) ?_
    ·go_simp;refine hK _ _ ?_;clear hK K;refine wpAnyIn_ready (rs:=[0,1]) (by kernel_rfl) (by simp) ?_;refine AllReadyIn.cons rfl (fun K hK=>?_) ?_
     ·go_simp;refine hK _ _ ?_;clear hK K;refine wpAnyIn_ready (rs:=[1,2]) (by kernel_rfl) (by simp) ?_;refine AllReadyIn.cons rfl (fun K hK=>?_) ?_
      ·go_simp;refine hK _ _ ?_;clear hK K;refine wpAnyIn_ready (rs:=[2]) (by kernel_rfl) (by simp) ?_;refine AllReadyIn.cons rfl (fun K hK=>?_) ?_
       ·go_simp;refine hK _ _ ?_;clear hK K;refine wpAnyIn_ready (rs:=[4]) (by kernel_rfl) (by simp) ?_;refine AllReadyIn.cons rfl (fun K hK=>?_) ?_
        ·refine zay _ rfl _ _ 41 rfl w.heap.size 43 i0 _ 4 56 underlying41 hi gE Hn gb rfl (by omega) _ _ _ rfl (by exact Hm.alloc _) ⟨wr.heap.size,0,none⟩ 1 1 [.int .u8 0,.int .u64 0,.string ⟨#[]⟩,.slice none 0 0] rfl rfl (by exact news4 _ _ _ _ _ _ _ rfl) (fun u hu=>(by simp at hu;rcases hu with rfl | rfl | rfl | rfl<;>rfl)) (by omega) (by unfold maxLen;omega) (by omega) (by simp;omega) _ rfl ?_;intro g9 cap9 w9 Hb Ht Hv Gl;have f0:=zb2 Ht B0 KC.out;obtain⟨y0,y1,y2,y3,yf⟩:=f0.all;have V9:=zb3 Ht V2 Hm;have z2:=V9.cell;have z2F:=V9.frozen;have c0:=zao Hb Hs.out 0 (by omega);have c1':=zao Hb Hs.out 1 (by omega);have c2':=zao Hb Hs.out 2 (by omega);have c3':=zao Hb Hs.out 3 (by omega);have Jj:=za9 Hb;have Hk:=zc8 V9 Hb;have V9b:=zbA Ht G1 Hm;have ga:=zb4 V9b Hb;have Ge:=zc7 Hb;have H':=zaa (zbk Hm Ht KG);have K6:=Hk.symm;simp only[List.getElem?_cons_zero,List.getElem?_cons_succ,ybf] at c0 c1' c2' c3'
         try go_simp
         refine hK _ _ ?_;clear hK K;refine wpAnyIn_ready (rs:=[5,7]) (by kernel_rfl) (by simp) ?_;refine AllReadyIn.cons rfl (fun K hK=>?_) ?_
         ·go_simp;refine hK _ _ ?_;clear hK K;refine wpAnyIn_ready (rs:=[6,7]) (by kernel_rfl) (by simp) ?_;refine AllReadyIn.cons rfl (fun K hK=>?_) ?_
          ·go_simp;refine hK _ _ ?_;clear hK K;refine wpAnyIn_ready (rs:=[7]) (by kernel_rfl) (by simp) ?_;refine AllReadyIn.cons rfl (fun K hK=>?_) ?_
           ·go_simp;refine hK _ _ ?_;clear hK K;refine wpAnyIn_done (by kernel_rfl) ?_ _
            gi_wp2
            exact zaN Hs.out GW.out gA.out gH hb (by omega) ((H'.out.1.trans (zak w9 g9 m9 _ _ _ _)).trans (KeepsOthers.setCell _ _ _)) ((zal H'.out.2 Ge m9 _ _ _ _).setCell (p:=⟨w.heap.size+1+1,0,none⟩) (by show w.heap.size≤w.heap.size+1+1;omega) _) (zaB (zaM Hb Hs.out _ _ _ _) Hk _) ((zaf V9 Hk _ _ _ _).set _) (zan (p:=⟨w.heap.size+1+1,0,none⟩) (zaf V9b ga _ _ _ _) (by show w.heap.size+1≠w.heap.size+1+1;omega) _)
           exact AllReadyIn.nil
          refine AllReadyIn.cons rfl (fun K hK=>?_) ?_
          ·go_simp;refine hK _ _ ?_;clear hK K;refine wpAnyIn_ready (rs:=[6]) (by kernel_rfl) (by simp) ?_;refine AllReadyIn.cons rfl (fun K hK=>?_) ?_
           ·go_simp;refine hK _ _ ?_;clear hK K;refine wpAnyIn_done (by kernel_rfl) ?_ _
            gi_wp2
            exact zaN Hs.out GW.out gA.out gH hb (by omega) ((H'.out.1.trans (KeepsOthers.setCell _ _ _)).trans (zak _ g9 m9 _ _ _ _)) (zal (H'.out.2.setCell (p:=⟨w.heap.size+1+1,0,none⟩) (by show w.heap.size≤w.heap.size+1+1;omega) _) Ge m9 _ _ _ _) (zaM (zaB Hb Hk _) Hs.out _ _ _ _) (zaf (V9.set _) Hk _ _ _ _) (zaf (zan (p:=⟨w.heap.size+1+1,0,none⟩) V9b (by show w.heap.size+1≠w.heap.size+1+1;omega) _) ga _ _ _ _)
           exact AllReadyIn.nil
          exact AllReadyIn.nil
         refine AllReadyIn.cons rfl (fun K hK=>?_) ?_
         ·go_simp;refine hK _ _ ?_;clear hK K;refine wpAnyIn_ready (rs:=[5]) (by kernel_rfl) (by simp) ?_;refine AllReadyIn.cons rfl (fun K hK=>?_) ?_
          ·go_simp;refine hK _ _ ?_;clear hK K;refine wpAnyIn_ready (rs:=[6]) (by kernel_rfl) (by simp) ?_;refine AllReadyIn.cons rfl (fun K hK=>?_) ?_
           ·go_simp;refine hK _ _ ?_;clear hK K;refine wpAnyIn_done (by kernel_rfl) ?_ _
            gi_wp2
            exact zaN Hs.out GW.out gA.out gH hb (by omega) ((H'.out.1.trans (KeepsOthers.setCell _ _ _)).trans (zak _ g9 m9 _ _ _ _)) (zal (H'.out.2.setCell (p:=⟨w.heap.size+1+1,0,none⟩) (by show w.heap.size≤w.heap.size+1+1;omega) _) Ge m9 _ _ _ _) (zaM (zaB Hb Hk _) Hs.out _ _ _ _) (zaf (V9.set _) Hk _ _ _ _) (zaf (zan (p:=⟨w.heap.size+1+1,0,none⟩) V9b (by show w.heap.size+1≠w.heap.size+1+1;omega) _) ga _ _ _ _)
           exact AllReadyIn.nil
          exact AllReadyIn.nil
         exact AllReadyIn.nil
        exact AllReadyIn.nil
       exact AllReadyIn.nil
      refine AllReadyIn.cons rfl (fun K hK=>?_) ?_
      ·go_simp;refine hK _ _ ?_;clear hK K;refine wpAnyIn_ready (rs:=[1]) (by kernel_rfl) (by simp) ?_;refine AllReadyIn.cons rfl (fun K hK=>?_) ?_
       ·go_simp;refine hK _ _ ?_;clear hK K;refine wpAnyIn_ready (rs:=[4]) (by kernel_rfl) (by simp) ?_;refine AllReadyIn.cons rfl (fun K hK=>?_) ?_
        ·refine zay _ rfl _ _ 41 rfl w.heap.size 43 i0 _ 4 56 underlying41 hi gE Hn gb rfl (by omega) _ _ _ rfl (by exact Hm.alloc _) ⟨wr.heap.size,0,none⟩ 1 1 [.int .u8 0,.int .u64 0,.string ⟨#[]⟩,.slice none 0 0] rfl rfl (by exact news4 _ _ _ _ _ _ _ rfl) (fun u hu=>(by simp at hu;rcases hu with rfl | rfl | rfl | rfl<;>rfl)) (by omega) (by unfold maxLen;omega) (by omega) (by simp;omega) _ rfl ?_;intro g9 cap9 w9 Hb Ht Hv Gl;have f0:=zb2 Ht B0 KC.out;obtain⟨y0,y1,y2,y3,yf⟩:=f0.all;have V9:=zb3 Ht V2 Hm;have z2:=V9.cell;have z2F:=V9.frozen;have c0:=zao Hb Hs.out 0 (by omega);have c1':=zao Hb Hs.out 1 (by omega);have c2':=zao Hb Hs.out 2 (by omega);have c3':=zao Hb Hs.out 3 (by omega);have Jj:=za9 Hb;have Hk:=zc8 V9 Hb;have V9b:=zbA Ht G1 Hm;have ga:=zb4 V9b Hb;have Ge:=zc7 Hb;have H':=zaa (zbk Hm Ht KG);have K6:=Hk.symm;simp only[List.getElem?_cons_zero,List.getElem?_cons_succ,ybf] at c0 c1' c2' c3'
         try go_simp
         refine hK _ _ ?_;clear hK K;refine wpAnyIn_ready (rs:=[5,7]) (by kernel_rfl) (by simp) ?_;refine AllReadyIn.cons rfl (fun K hK=>?_) ?_
         ·go_simp;refine hK _ _ ?_;clear hK K;refine wpAnyIn_ready (rs:=[6,7]) (by kernel_rfl) (by simp) ?_;refine AllReadyIn.cons rfl (fun K hK=>?_) ?_
          ·go_simp;refine hK _ _ ?_;clear hK K;refine wpAnyIn_ready (rs:=[7]) (by kernel_rfl) (by simp) ?_;refine AllReadyIn.cons rfl (fun K hK=>?_) ?_
           ·go_simp;refine hK _ _ ?_;clear hK K;refine wpAnyIn_done (by kernel_rfl) ?_ _
            gi_wp2
            exact zaN Hs.out GW.out gA.out gH hb (by omega) ((H'.out.1.trans (zak w9 g9 m9 _ _ _ _)).trans (KeepsOthers.setCell _ _ _)) ((zal H'.out.2 Ge m9 _ _ _ _).setCell (p:=⟨w.heap.size+1+1,0,none⟩) (by show w.heap.size≤w.heap.size+1+1;omega) _) (zaB (zaM Hb Hs.out _ _ _ _) Hk _) ((zaf V9 Hk _ _ _ _).set _) (zan (p:=⟨w.heap.size+1+1,0,none⟩) (zaf V9b ga _ _ _ _) (by show w.heap.size+1≠w.heap.size+1+1;omega) _)
           exact AllReadyIn.nil
          refine AllReadyIn.cons rfl (fun K hK=>?_) ?_
          ·go_simp;refine hK _ _ ?_;clear hK K;refine wpAnyIn_ready (rs:=[6]) (by kernel_rfl) (by simp) ?_;refine AllReadyIn.cons rfl (fun K hK=>?_) ?_
           ·go_simp;refine hK _ _ ?_;clear hK K;refine wpAnyIn_done (by kernel_rfl) ?_ _
            gi_wp2
            exact zaN Hs.out GW.out gA.out gH hb (by omega) ((H'.out.1.trans (KeepsOthers.setCell _ _ _)).trans (zak _ g9 m9 _ _ _ _)) (zal (H'.out.2.setCell (p:=⟨w.heap.size+1+1,0,none⟩) (by show w.heap.size≤w.heap.size+1+1;omega) _) Ge m9 _ _ _ _) (zaM (zaB Hb Hk _) Hs.out _ _ _ _) (zaf (V9.set _) Hk _ _ _ _) (zaf (zan (p:=⟨w.heap.size+1+1,0,none⟩) V9b (by show w.heap.size+1≠w.heap.size+1+1;omega) _) ga _ _ _ _)
           exact AllReadyIn.nil
          exact AllReadyIn.nil
         refine AllReadyIn.cons rfl (fun K hK=>?_) ?_
         ·go_simp;refine hK _ _ ?_;clear hK K;refine wpAnyIn_ready (rs:=[5]) (by kernel_rfl) (by simp) ?_;refine AllReadyIn.cons rfl (fun K hK=>?_) ?_
          ·go_simp;refine hK _ _ ?_;clear hK K;refine wpAnyIn_ready (rs:=[6]) (by kernel_rfl) (by simp) ?_;refine AllReadyIn.cons rfl (fun K hK=>?_) ?_
           ·go_simp;refine hK _ _ ?_;clear hK K;refine wpAnyIn_done (by kernel_rfl) ?_ _
            gi_wp2
            exact zaN Hs.out GW.out gA.out gH hb (by omega) ((H'.out.1.trans (KeepsOthers.setCell _ _ _)).trans (zak _ g9 m9 _ _ _ _)) (zal (H'.out.2.setCell (p:=⟨w.heap.size+1+1,0,none⟩) (by show w.heap.size≤w.heap.size+1+1;omega) _) Ge m9 _ _ _ _) (zaM (zaB Hb Hk _) Hs.out _ _ _ _) (zaf (V9.set _) Hk _ _ _ _) (zaf (zan (p:=⟨w.heap.size+1+1,0,none⟩) V9b (by show w.heap.size+1≠w.heap.size+1+1;omega) _) ga _ _ _ _)
           exact AllReadyIn.nil
          exact AllReadyIn.nil
         exact AllReadyIn.nil
        exact AllReadyIn.nil
       exact AllReadyIn.nil
      exact AllReadyIn.nil
     refine AllReadyIn.cons rfl (fun K hK=>?_) ?_
     ·go_simp;refine hK _ _ ?_;clear hK K;refine wpAnyIn_ready (rs:=[0]) (by kernel_rfl) (by simp) ?_;refine AllReadyIn.cons rfl (fun K hK=>?_) ?_
      ·go_simp;refine hK _ _ ?_;clear hK K;refine wpAnyIn_ready (rs:=[2]) (by kernel_rfl) (by simp) ?_;refine AllReadyIn.cons rfl (fun K hK=>?_) ?_
       ·go_simp;refine hK _ _ ?_;clear hK K;refine wpAnyIn_ready (rs:=[4]) (by kernel_rfl) (by simp) ?_;refine AllReadyIn.cons rfl (fun K hK=>?_) ?_
        ·refine zay _ rfl _ _ 41 rfl w.heap.size 43 i0 _ 4 56 underlying41 hi gE Hn gb rfl (by omega) _ _ _ rfl (by exact Hm.alloc _) ⟨wr.heap.size,0,none⟩ 1 1 [.int .u8 0,.int .u64 0,.string ⟨#[]⟩,.slice none 0 0] rfl rfl (by exact news4 _ _ _ _ _ _ _ rfl) (fun u hu=>(by simp at hu;rcases hu with rfl | rfl | rfl | rfl<;>rfl)) (by omega) (by unfold maxLen;omega) (by omega) (by simp;omega) _ rfl ?_;intro g9 cap9 w9 Hb Ht Hv Gl;have f0:=zb2 Ht B0 KC.out;obtain⟨y0,y1,y2,y3,yf⟩:=f0.all;have V9:=zb3 Ht V2 Hm;have z2:=V9.cell;have z2F:=V9.frozen;have c0:=zao Hb Hs.out 0 (by omega);have c1':=zao Hb Hs.out 1 (by omega);have c2':=zao Hb Hs.out 2 (by omega);have c3':=zao Hb Hs.out 3 (by omega);have Jj:=za9 Hb;have Hk:=zc8 V9 Hb;have V9b:=zbA Ht G1 Hm;have ga:=zb4 V9b Hb;have Ge:=zc7 Hb;have H':=zaa (zbk Hm Ht KG);have K6:=Hk.symm;simp only[List.getElem?_cons_zero,List.getElem?_cons_succ,ybf] at c0 c1' c2' c3'
         try go_simp
         refine hK _ _ ?_;clear hK K;refine wpAnyIn_ready (rs:=[5,7]) (by kernel_rfl) (by simp) ?_;refine AllReadyIn.cons rfl (fun K hK=>?_) ?_
         ·go_simp;refine hK _ _ ?_;clear hK K;refine wpAnyIn_ready (rs:=[6,7]) (by kernel_rfl) (by simp) ?_;refine AllReadyIn.cons rfl (fun K hK=>?_) ?_
          ·go_simp;refine hK _ _ ?_;clear hK K;refine wpAnyIn_ready (rs:=[7]) (by kernel_rfl) (by simp) ?_;refine AllReadyIn.cons rfl (fun K hK=>?_) ?_
           ·go_simp;refine hK _ _ ?_;clear hK K;refine wpAnyIn_done (by kernel_rfl) ?_ _
            gi_wp2
            exact zaN Hs.out GW.out gA.out gH hb (by omega) ((H'.out.1.trans (zak w9 g9 m9 _ _ _ _)).trans (KeepsOthers.setCell _ _ _)) ((zal H'.out.2 Ge m9 _ _ _ _).setCell (p:=⟨w.heap.size+1+1,0,none⟩) (by show w.heap.size≤w.heap.size+1+1;omega) _) (zaB (zaM Hb Hs.out _ _ _ _) Hk _) ((zaf V9 Hk _ _ _ _).set _) (zan (p:=⟨w.heap.size+1+1,0,none⟩) (zaf V9b ga _ _ _ _) (by show w.heap.size+1≠w.heap.size+1+1;omega) _)
           exact AllReadyIn.nil
          refine AllReadyIn.cons rfl (fun K hK=>?_) ?_
          ·go_simp;refine hK _ _ ?_;clear hK K;refine wpAnyIn_ready (rs:=[6]) (by kernel_rfl) (by simp) ?_;refine AllReadyIn.cons rfl (fun K hK=>?_) ?_
           ·go_simp;refine hK _ _ ?_;clear hK K;refine wpAnyIn_done (by kernel_rfl) ?_ _
            gi_wp2
            exact zaN Hs.out GW.out gA.out gH hb (by omega) ((H'.out.1.trans (KeepsOthers.setCell _ _ _)).trans (zak _ g9 m9 _ _ _ _)) (zal (H'.out.2.setCell (p:=⟨w.heap.size+1+1,0,none⟩) (by show w.heap.size≤w.heap.size+1+1;omega) _) Ge m9 _ _ _ _) (zaM (zaB Hb Hk _) Hs.out _ _ _ _) (zaf (V9.set _) Hk _ _ _ _) (zaf (zan (p:=⟨w.heap.size+1+1,0,none⟩) V9b (by show w.heap.size+1≠w.heap.size+1+1;omega) _) ga _ _ _ _)
           exact AllReadyIn.nil
          exact AllReadyIn.nil
         refine AllReadyIn.cons rfl (fun K hK=>?_) ?_
         ·go_simp;refine hK _ _ ?_;clear hK K;refine wpAnyIn_ready (rs:=[5]) (by kernel_rfl) (by simp) ?_;refine AllReadyIn.cons rfl (fun K hK=>?_) ?_
          ·go_simp;refine hK _ _ ?_;clear hK K;refine wpAnyIn_ready (rs:=[6]) (by kernel_rfl) (by simp) ?_;refine AllReadyIn.cons rfl (fun K hK=>?_) ?_
           ·go_simp;refine hK _ _ ?_;clear hK K;refine wpAnyIn_done (by kernel_rfl) ?_ _
            gi_wp2
            exact zaN Hs.out GW.out gA.out gH hb (by omega) ((H'.out.1.trans (KeepsOthers.setCell _ _ _)).trans (zak _ g9 m9 _ _ _ _)) (zal (H'.out.2.setCell (p:=⟨w.heap.size+1+1,0,none⟩) (by show w.heap.size≤w.heap.size+1+1;omega) _) Ge m9 _ _ _ _) (zaM (zaB Hb Hk _) Hs.out _ _ _ _) (zaf (V9.set _) Hk _ _ _ _) (zaf (zan (p:=⟨w.heap.size+1+1,0,none⟩) V9b (by show w.heap.size+1≠w.heap.size+1+1;omega) _) ga _ _ _ _)
           exact AllReadyIn.nil
          exact AllReadyIn.nil
         exact AllReadyIn.nil
        exact AllReadyIn.nil
       exact AllReadyIn.nil
      exact AllReadyIn.nil
     exact AllReadyIn.nil
    exact AllReadyIn.nil
 case done=>
  rintro D zs W hD hz ⟨⟨⟨v,hv,Hr,_⟩,JP⟩,ql,gH⟩ hK;have i0:=JP.cell;have iF:=JP.frozen;have GW:=zaa ql;clear ql
  gi_wp2
  have gV:=(KeepsOthers.setCell W ⟨w.heap.size+1,0,none⟩ (.bool false)).same D _ hK rfl;refine⟨by simp,.inl ⟨_,_,rfl,run_takeDeferred gV,?_⟩⟩;have BD:=cell_kept (JP.set (.bool false)).cell (grownBy_putObj' _ D (.deferred none)) (fun r e=>by cases e;exact⟨_,gV,rfl⟩);refine⟨.bool false,by simp[results,Tryz.f139,go_sem,BD],?_,((bb.trans gH).setCell (p:=⟨w.heap.size+1,0,none⟩) (by show w.heap.size≤w.heap.size+1;omega) _).trans (belowK_b (w:=w) zab _ D _ _ (by omega) gV rfl rfl)⟩;have:zcy (zf4 ks)=true:=by rw[zf4,←hz];exact GW.out
  rw[this];rfl
 case stop=>
  rintro D d pre W hD Ct ⟨⟨⟨rfl,ql⟩,JP⟩,gH⟩ hK;have GW:=zaa ql;clear ql
  gi_wp2
  refine⟨by simp,.inl ⟨_,_,rfl,run_takeDeferred hK,?_⟩⟩;have BD:=cell_kept JP.cell (grownBy_putObj' _ D (.deferred none)) (fun r e=>by cases e;exact⟨_,hK,rfl⟩);refine⟨.bool true,by simp[results,Tryz.f139,go_sem,BD],?_,(bb.trans gH).trans (belowK_b (w:=w) zab W D _ _ (by omega) hK rfl rfl)⟩;have:zcy (zf4 ks)=false:=by
   obtain⟨r,hr⟩:=Ct;rw[zf4,←hr,List.map_append];exact zis GW.out
  rw[this];rfl
end Val
end Go.Proofs.YtbbbanfggcediaaGreatDoor
