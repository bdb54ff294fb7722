/-
  Contract of value's keyTwice: are two of a map's keys the same? Memory that was there stays. Condition: values of bulk at most 2^30.
-/
import Derived.Test.YtcilmmdmkpnppaaGreatDoorY04
namespace Go.Proofs.YtcilmmdmkpnppaaGreatDoor.Val
set_option maxRecDepth 100000
open Go.RowKit Go.Shelf Utf V
attribute [local go_sem] Oper.semAt_some
theorem same_symm (a b:V):same a b=same b a:=by
 cases h:same a b with
 | true=>
  have:=(same_iff a b).1 h;subst this;exact h.symm
 | false=>
  cases h':same b a with
  | false=>rfl
  | true=>
   have:=(same_iff b a).1 h';subst this;rw[h] at h';cases h'
theorem noDup_snoc (l:List V)(x:V):noDup (l++[x])=(noDup l && !l.any fun y=>same x y):=by
 induction l with
 | nil=>simp[noDup]
 | cons y l ih=>
  simp only[List.cons_append,noDup,ih,List.any_append,List.any_cons,List.any_nil,Bool.or_false,same_symm y x];cases noDup l<;>cases (l.any fun z=>same x z)<;>cases (l.any fun z=>same y z)<;>cases same x y<;>rfl
theorem noDup_pre {l r:List V}(h:noDup l=false):noDup (l++r)=false:=by
 induction l with
 | nil=>cases h
 | cons y l ih=>
  simp only[List.cons_append,noDup,List.any_append];simp only[noDup,Bool.and_eq_false_iff] at h;rcases h with h | h
  ·rw[ih h];rfl
  ·simp only[Bool.not_eq_false'] at h;rw[h];simp
def kcells {w:World}{B:Nat}(x:KV w B):List Value:=[.int .u8 x.1.1.k,.int .u64 x.1.1.n,.string x.1.1.t,.slice x.1.1.A x.1.1.l x.1.1.c]
def kflat {w:World}{B:Nat}:List (KV w B)→List Value
 | []=>[]
 | x::r=>kcells x++kflat r
theorem kflat_snoc {w:World}{B:Nat}(l:List (KV w B))(x:KV w B):kflat (l++[x])=kflat l++kcells x:=by
 induction l with
 | nil=>simp[kflat]
 | cons y l ih=>simp only[List.cons_append,kflat,ih,List.append_assoc]
theorem kflat_length {w:World}{B:Nat}(l:List (KV w B)):(kflat l).length=l.length * 4:=by
 induction l with
 | nil=>rfl
 | cons y l ih=>simp only[kflat,List.length_append,ih,kcells,List.length_cons,List.length_nil];omega
theorem kflat_at {w:World}{B:Nat}:∀ {l:List (KV w B)} {i:Nat} {x:KV w B} (r:Nat),r < 4→l[i]? = some x→(kflat l)[i * 4+r]? = (kcells x)[r]?
 | [],_,_,_,_,h=>by simp at h
 | y::l,0,x,r,hr,h=>by
  simp at h;subst h;rw[kflat,Nat.zero_mul,Nat.zero_add,List.getElem?_append_left (by simp[kcells];omega)]
 | y::l,i+1,x,r,hr,h=>by
  rw[kflat,List.getElem?_append_right (by simp[kcells];omega)];have:=kflat_at (i:=i) r hr (by simpa using h);rw[←this]
  congr 1
  simp[kcells];omega
def keysOf {w:World}{B:Nat}(pre:List (KV w B)):List V:=(pre.map KV.vs).map (·.1)
theorem own_old {w:World}{base:Nat}{e:TypeId}{size n:Nat}{v:Value}{xs:List Value}(h:w.ownsRow base e size v n xs):v.ownBlock≠some w.heap.size:=by
 rcases h.2 with ⟨rfl,_⟩ | ⟨g,cap,cur,rfl,_,hg,_⟩
 ·simp[Value.ownBlock]
 ·have:=(Array.getElem?_eq_some_iff.1 hg).1;simp[Value.ownBlock];omega
theorem own_slice {w:World}{base:Nat}{e:TypeId}{size n:Nat}{v:Value}{xs:List Value}(h:w.ownsRow base e size v n xs):∃ A l c,v=.slice A l c∧l=n:=by
 rcases h.2 with ⟨rfl,h0⟩ | ⟨g,cap,cur,rfl,_⟩
 ·exact⟨none,0,0,rfl,h0.symm⟩
 ·exact⟨_,n,cap,rfl,rfl⟩
theorem pairs_len:∀ ks:List V,(pairsL ks).length≤ks.length
 | []=>by simp[pairsL]
 | [_]=>by simp[pairsL]
 | _::_::r=>by have:=pairs_len r;simp only[pairsL,List.length_cons];omega
theorem keysOf_snoc {w:World}{B:Nat}(l:List (KV w B))(x:KV w B):keysOf (l++[x])=keysOf l++[x.1.1.v]:=by simp[keysOf,KV.vs]
theorem keysOf_at {w:World}{B:Nat}{l:List (KV w B)}{i:Nat}{x:KV w B}(h:l[i]? = some x):(keysOf l)[i]? = some x.1.1.v:=by simp[keysOf,h,KV.vs]
theorem dup_of {w:World}{B:Nat}{l:List (KV w B)}{i:Nat}{x y:KV w B}(h:l[i]? = some y)(hs:same x.1.1.v y.1.1.v=true):noDup (keysOf (l++[x]))=false:=by
 rw[keysOf_snoc,noDup_snoc];have:(keysOf l).any (fun z=>same x.1.1.v z)=true:=List.any_eq_true.2 ⟨_,List.mem_of_getElem? (keysOf_at h),hs⟩;rw[this];simp
theorem any_no {w:World}{B:Nat}{l:List (KV w B)}{i:Nat}{y:KV w B}{x:V}(h:l[i]? = some y)(hn:((keysOf l).take i).any (fun z=>same x z)=false)(hs:same x y.1.1.v=false):((keysOf l).take (i+1)).any (fun z=>same x z)=false:=by
 rw[take_snoc (keysOf_at h),List.any_append,hn];simp[hs]
theorem boxed_eq {w:World}{g:Nat}{T:TypeId}{v v':Value}(h:Boxed w g T v)(h':Boxed w g T v'):v'=v:=by
 have:=h'.symm.trans h;simp at this;exact this
theorem ktw_far {wr w9:World}{o:Obj}{row:Option Nat}{g:Nat}{x0 x1 x2 x3:Value}(hg:(wr.drew.alloc o).grownBy w9 row)(h:Box wr g x0 x1 x2 x3)(hne:row≠some g):Box w9 g x0 x1 x2 x3:=by
 have hl:g < wr.heap.size:=h.lt;have h1:Box (wr.drew.alloc o) g x0 x1 x2 x3:=Box.alloc (w:=wr.drew) h o;exact(hg.block g h1.lt (fun e=>hne e.symm)).trans h1
theorem ktw_box {wr w9:World}{o:Obj}{base size n g:Nat}{v u:Value}{xs:List Value}(hg:(wr.drew.alloc o).grownBy w9 v.ownBlock)(h:Boxed wr g 42 u)(hr:wr.ownsRow base 44 size v n xs):Boxed w9 g 42 u:=by
 have h1:Boxed (wr.drew.alloc o) g 42 u:=Boxed.alloc (W:=wr.drew) h o;exact h1.kept hg (h.not_row (by decide) hr)
theorem ktw_boxb {wr w9:World}{o:Obj}{base size n g:Nat}{v u:Value}{xs:List Value}(hg:(wr.drew.alloc o).grownBy w9 v.ownBlock)(h:Boxed wr g 4 u)(hr:wr.ownsRow base 44 size v n xs):Boxed w9 g 4 u:=by
 have h1:Boxed (wr.drew.alloc o) g 4 u:=Boxed.alloc (W:=wr.drew) h o;exact h1.kept hg (h.not_row (by decide) hr)
theorem ktw_neb {w:World}{base n cap g B:Nat}{u:Value}{xs:List Value}(h:Boxed w B 4 u)(hr:w.ownsRow base 44 4 (.slice (some ⟨g,0,none⟩) n cap) n xs):g≠B:=by
 intro e;have:=h.not_row (by decide) hr;simp[Value.ownBlock,e] at this
theorem ktw_le {w:World}{base n cap g:Nat}{xs:List Value}(h:w.ownsRow base 44 4 (.slice (some ⟨g,0,none⟩) (n+1) cap) (n+1) xs):base≤g:=by
 obtain⟨g',e,hb,_⟩:=own_form h (by omega);simp at e;omega
def set4x (w:World)(g m:Nat)(a b c d:Value):World:=(((w.setCell ⟨g,m * 4,none⟩ a).setCell ⟨g,m * 4+1,none⟩ b).setCell ⟨g,m * 4+2,none⟩ c).setCell ⟨g,m * 4+3,none⟩ d
theorem set4x_keeps (w:World)(g m:Nat)(a b c d:Value):KeepsOthers w (set4x w g m a b c d):=(((KeepsOthers.setCell _ _ _).trans (KeepsOthers.setCell _ _ _)).trans (KeepsOthers.setCell _ _ _)).trans (KeepsOthers.setCell _ _ _)
theorem set4x_below {B:Nat}{w w1:World}(h:Below B w w1){g:Nat}(hg:B≤g)(m:Nat)(a b c d:Value):Below B w (set4x w1 g m a b c d):=
 (((h.setCell (p:=⟨g,m * 4,none⟩) hg _).setCell (p:=⟨g,m * 4+1,none⟩) hg _).setCell (p:=⟨g,m * 4+2,none⟩) hg _).setCell (p:=⟨g,m * 4+3,none⟩) hg _
theorem set4x_boxed {w:World}{g B m:Nat}{T:TypeId}{v:Value}(h:Boxed w B T v)(hne:g≠B)(a b c d:Value):Boxed (set4x w g m a b c d) B T v:=
 boxed_far (p:=⟨g,m * 4+3,none⟩) (boxed_far (p:=⟨g,m * 4+2,none⟩) (boxed_far (p:=⟨g,m * 4+1,none⟩) (boxed_far (p:=⟨g,m * 4,none⟩) h hne.symm a) hne.symm b) hne.symm c) hne.symm d
theorem own_farx {w:World}{base size n m c g B:Nat}{e:TypeId}{xs:List Value}(h:w.ownsRow base e size (.slice (some ⟨g,0,none⟩) m c) n xs)(hne:g≠B)(u:Value):(w.setCell ⟨B,0,none⟩ u).ownsRow base e size (.slice (some ⟨g,0,none⟩) m c) n xs:=
 own_far (p:=⟨B,0,none⟩) h (by simp[Value.ownBlock];exact hne) u
theorem ktw_cell {w0 w:World}{B base m cap g:Nat}{l:List (KV w0 B)}{a b c d:Value}(h:w.ownsRow base 44 4 (.slice (some ⟨g,0,none⟩) (m+1) cap) (m+1) (kflat l++[a,b,c,d]))(hm:m=l.length)(r:Nat)(hr:r < 4):w.cell? ⟨g,m * 4+r,none⟩=[a,b,c,d][r]?:=by
 rw[World.ownsRow.cellAt h _ (by omega),List.getElem?_append_right (by rw[kflat_length];omega),kflat_length,hm]
 congr 1
 omega
theorem ktw_ne {w:World}{base n cap g B:Nat}{u:Value}{xs:List Value}(h:Boxed w B 42 u)(hr:w.ownsRow base 44 4 (.slice (some ⟨g,0,none⟩) n cap) n xs):g≠B:=by
 intro e;have:=h.not_row (by decide) hr;simp[Value.ownBlock,e] at this
theorem ktw_frozen {w:World}{base n cap g:Nat}{xs:List Value}(h:w.ownsRow base 44 4 (.slice (some ⟨g,0,none⟩) n cap) n xs)(j:Nat):w.frozen? ⟨g,j,none⟩=false:=World.ownsRow.frozenAt h j
theorem ktw_row {w0 w9:World}{B base m cap g:Nat}{l:List (KV w0 B)}{z0 z1 z2 z3:Value}(h:w9.ownsRow base 44 4 (.slice (some ⟨g,0,none⟩) (m+1) cap) (m+1) (kflat l++[z0,z1,z2,z3]))(hm:m=l.length)(a b c d:Value) :
  ((((w9.setCell ⟨g,m * 4,none⟩ a).setCell ⟨g,m * 4+1,none⟩ b).setCell ⟨g,m * 4+2,none⟩ c).setCell ⟨g,m * 4+3,none⟩ d).ownsRow base 44 4 (.slice (some ⟨g,0,none⟩) (m+1) cap) (m+1) (kflat l++[a,b,c,d]):=by
 have h4:=((((h.stored (m * 4) a).1.stored (m * 4+1) b).1.stored (m * 4+2) c).1.stored (m * 4+3) d).1;have e:((((kflat l++[z0,z1,z2,z3]).set (m * 4) a).set (m * 4+1) b).set (m * 4+2) c).set (m * 4+3) d=kflat l++[a,b,c,d]:=by
  have hl:(kflat l).length=m * 4:=by rw[kflat_length,hm]
  rw[List.set_append_right _ _ (by omega),List.set_append_right _ _ (by omega),List.set_append_right _ _ (by omega),List.set_append_right _ _ (by omega),hl];simp[show m * 4+1 - m * 4=1 by omega,show m * 4+2 - m * 4=2 by omega,show m * 4+3 - m * 4=3 by omega]
 rw[e] at h4;exact h4
theorem ktw_keeps {wr w9:World}{C:Array Value}{T:TypeId}{base size n:Nat}{v:Value}{xs:List Value}(hr:wr.ownsRow base 44 size v n xs)(hg:(wr.drew.alloc (.cells C T)).grownBy w9 v.ownBlock)(hB:base≤wr.heap.size):KeepsOthers wr w9∧Below base wr w9:=by
 have hr1:(wr.drew.alloc (.cells C T)).ownsRow base 44 size v n xs:=World.ownsRow.alloc (w:=wr.drew) hr (.cells C T);refine⟨((KeepsOthers.drew wr).trans (KeepsOthers.alloc _ _)).trans (KeepsOthers.of_grownBy hg fun j o ej hj=>?_),(((Below.refl base wr).drew).alloc hB _).grown hg (Nat.le_trans hB (by simp)) fun k e=>?_⟩
 ·rcases hr1.2 with ⟨rfl,_⟩ | ⟨g,cap,cur,rfl,_,hgb,_⟩
  ·simp[Value.ownBlock] at ej
  ·simp[Value.ownBlock] at ej;subst ej;rw[hgb] at hj;cases hj;rfl
 ·rcases hr1.2 with ⟨rfl,_⟩ | ⟨g,cap,cur,rfl,hb,_⟩
  ·simp[Value.ownBlock] at e
  ·simp[Value.ownBlock] at e;omega
def Ik (w W0:World)(pre:List (KV W0 w.heap.size))(W:World):Prop:=
 ((∃ v,Boxed W (w.heap.size+2) 42 v∧W.ownsRow w.heap.size 44 4 v pre.length (kflat pre)∧True)∧Boxed W (w.heap.size+1) 4 (.bool false))∧(noDup (keysOf pre)=true∧Below w.heap.size W0 W)
def Xk (w W0:World)(c:Code)(pre:List (KV W0 w.heap.size))(W:World):Prop:=
 ((c=.ret∧noDup (keysOf pre)=false)∧Boxed W (w.heap.size+1) 4 (.bool true))∧Below w.heap.size W0 W
theorem Ik.own (w W0:World)(h:w.heap.size≤W0.heap.size):OwnFrom W0.heap.size (Ik w W0):=
 OwnFrom.and (OwnFrom.and (Own.from (holdsRow_own _ _ _ _ _ _ _ _) _) (Own.from (boxed_own _ _ _) _)) (OwnFrom.and (ownFrom_pure _ _) (ownFrom_below h h))
theorem Xk.own (w W0:World)(c:Code)(h:w.heap.size≤W0.heap.size):OwnFrom W0.heap.size (Xk w W0 c):=
 OwnFrom.and (OwnFrom.and (ownFrom_pure _ _) (Own.from (boxed_own _ _ _) _)) (ownFrom_below h h)
theorem ktw_end {w W0 W wr Wf:World}{pre:List (KV W0 w.heap.size)}{x:KV W0 w.heap.size}{g m cap:Nat}(hm:m=pre.length)(hnd:noDup (keysOf pre)=true)(hno:((keysOf pre).take m).any (fun y=>same x.1.1.v y)=false)(hB1:Below w.heap.size W0 W)(hb:Below W.heap.size W wr)(hs:w.heap.size≤W.heap.size)
  (hk:KeepsOthers wr Wf) (hbf:Below w.heap.size wr Wf) (hrow:Wf.ownsRow w.heap.size 44 4 (.slice (some ⟨g,0,none⟩) (m+1) cap) (m+1) (kflat pre++kcells x)) (hv:Boxed Wf (w.heap.size+2) 42 (.slice (some ⟨g,0,none⟩) (m+1) cap)) (hb1:Boxed Wf (w.heap.size+1) 4 (.bool false)) :
  KeepsFrom W0.heap.size W Wf∧Below w.heap.size W Wf∧Ik w W0 (pre++[x]) Wf:=by
 have hbb:Below w.heap.size W Wf:=(hb.mono hs).trans hbf;refine⟨(below_keepsFrom hb).trans (hk.from _),hbb,⟨⟨_,hv,?_,trivial⟩,hb1⟩,?_,hB1.trans hbb⟩
 ·rw[kflat_snoc,List.length_append,←hm];exact hrow
 ·rw[keysOf_snoc,noDup_snoc,hnd];rw[List.take_of_length_le (by simp[keysOf,hm])] at hno;rw[hno];rfl
set_option maxRecDepth 100000 in
set_option maxHeartbeats 8000000 in
theorem ktwice_any:TwiceAny:=by
 intro k n t ks A l c w hN hK;refine(callsIn_wide (n:=6)).1 ?_;refine callsIn_of_wp_marks Tryz.func128 rfl trivial ?_ rfl;simp only[Tryz.ntmps128,List.size_toArray,List.length_cons,List.length_nil,Nat.reduceAdd,Nat.reduceSub,Array.replicate_succ,Array.replicate_zero,List.push_toArray,List.append_toArray,List.nil_append,List.cons_append];have b1:=((Boxed.new (w.alloc (.cells #[.int .u8 k,.int .u64 n,.string t,.slice A l c] 44)) 4 (.bool false)).alloc (.cells #[.slice none 0 0] 42)).alloc (.cells #[.int .u8 k,.int .u64 n,.string t,.slice A l c] 44);have b2:=(Boxed.new ((w.alloc (.cells #[.int .u8 k,.int .u64 n,.string t,.slice A l c] 44)).alloc (.cells #[.bool false] 4)) 42 (.slice none 0 0)).alloc (.cells #[.int .u8 k,.int .u64 n,.string t,.slice A l c] 44);have b3:=Box.new (((w.alloc (.cells #[.int .u8 k,.int .u64 n,.string t,.slice A l c] 44)).alloc (.cells #[.bool false] 4)).alloc (.cells #[.slice none 0 0] 42)) (.int .u8 k) (.int .u64 n) (.string t) (.slice A l c);have bb:Below w.heap.size w ((((w.alloc (.cells #[.int .u8 k,.int .u64 n,.string t,.slice A l c] 44)).alloc (.cells #[.bool false] 4)).alloc (.cells #[.slice none 0 0] 42)).alloc (.cells #[.int .u8 k,.int .u64 n,.string t,.slice A l c] 44)):=((two_boxes w _ _).alloc (by simp;omega) _).alloc (by simp;omega) _;have hsz:((((w.alloc (.cells #[.int .u8 k,.int .u64 n,.string t,.slice A l c] 44)).alloc (.cells #[.bool false] 4)).alloc (.cells #[.slice none 0 0] 42)).alloc (.cells #[.int .u8 k,.int .u64 n,.string t,.slice A l c] 44)).heap.size=w.heap.size+4:=by simp
 gi_wp2_with (refine⟨trivial,?_⟩;gi_at_call 165;refine(keys_in Fence.wide (6 - 1) trivial rfl _ _ _ _ _ _ _).mono ?_;rintro e w' ⟨rfl,rfl⟩)
 obtain⟨W0,hW0⟩:∃ W0,(((w.alloc (.cells #[.int .u8 k,.int .u64 n,.string t,.slice A l c] 44)).alloc (.cells #[.bool false] 4)).alloc (.cells #[.slice none 0 0] 42)).alloc (.cells #[.int .u8 k,.int .u64 n,.string t,.slice A l c] 44)=W0:=⟨_,rfl⟩;rw[hW0] at b1 b2 b3 bb hsz ⊢;simp only[World.size_alloc] at b1 b2 b3;clear hW0;have hKB:Kids false W0 (fun i=>i < w.heap.size) ks A l c:=hK.keep fun i hi=>bb.block i hi;have c3:=b3.all.2.2.2.1;refine wpIn_rangeFunc_ownH rfl (by omega) (gf:=182) (lb:=#[.pointer (some ⟨w.heap.size+1+1+1,0,none⟩)]) rfl trivial (enters_of Tryz.func182 (by kernel_rfl) rfl)
  (iter_stops Fence.wide (6 - 1) trivial rfl (by omega) (w.heap.size+1+1+1) w.heap.size W0 ks A l c hN hKB (by omega) (by omega) c3) belowK_t (belowK_b (by omega)) (Below.refl _ _) (fun _=>rfl)
  (Ik w W0) (Xk w W0) (Ik.own w W0 (by omega)) (fun d=>Xk.own w W0 d (by omega)) ⟨⟨⟨_,b2,World.ownsRow_nil _ _ _ _,trivial⟩,b1⟩,rfl,Below.refl _ _⟩
  (fun x a' W=>∃ Bx,(W0.heap.size≤Bx∧∃ v,Boxed W (w.heap.size+2) 42 v∧v.ownBlock≠some Bx)∧Box W Bx (.int .u8 x.1.1.k) (.int .u64 x.1.1.n) (.string x.1.1.t) (.slice x.1.1.A x.1.1.l x.1.1.c) ∧
   a'={ tmps:=#[.agg #[.int .u8 k,.int .u64 n,.string t,.slice A l c],.pointer (some ⟨w.heap.size,0,none⟩),.pointer (some ⟨w.heap.size+1,0,none⟩),.pointer (some ⟨w.heap.size+1+1,0,none⟩),.pointer (some ⟨Bx,0,none⟩),undef,undef,.agg #[.int .u8 k,.int .u64 n,.string t,.slice A l c],.func (.func 182) #[] #[.pointer (some ⟨w.heap.size+1+1+1,0,none⟩)],x.1.1.val,x.1.2.val,undef,undef,undef,undef,undef,undef,undef,undef,undef,undef,undef,undef,undef,undef,undef,undef],defers:=[] })
  (fun x a' _ X Y row hs hg hr=>by obtain⟨Bx,⟨e1,v,e2,e3⟩,e4,e5⟩:=hs;exact⟨Bx,⟨e1,v,boxed_grown e2 hg (fun r e=>(hr r e).2),e3⟩,e4.grown hg (fun r e=>(hr r e).2),e5⟩)
  ?assign ?body ?done ?stop
 case assign=>
  rintro L pre ⟨⟨⟨k1,n1,t1,A1,l1,c1,ks1⟩,⟨k2,n2,t2,A2,l2,c2,ks2⟩⟩,hx1,hx2⟩ W K ⟨⟨⟨v,hv,hrow,_⟩,hbo⟩,hnd,hB1⟩ hK;have hs1:=hB1.size;simp only[LV.val]
  gi_wp2
  have hba:Below W.heap.size W (W.alloc (.cells #[.int .u8 k1,.int .u64 n1,.string t1,.slice A1 l1 c1] 44)):=(Below.refl _ _).alloc (Nat.le_refl _) _;exact hK _ _ (below_keepsFrom hba) (hba.mono (by omega)) ⟨⟨⟨v,hv.alloc _,hrow.alloc _,trivial⟩,hbo.alloc _⟩,hnd,hB1.trans (hba.mono (by omega))⟩ ⟨W.heap.size,⟨hs1,v,hv.alloc _,own_old hrow⟩,Box.new W _ _ _ _,rfl⟩
 case body=>
  rintro L pre ⟨⟨⟨k1,n1,t1,A1,l1,c1,ks1⟩,⟨k2,n2,t2,A2,l2,c2,ks2⟩⟩,hx1,hx2⟩ a' W hl ⟨r,hr⟩ ⟨⟨⟨v,hv,hrow,_⟩,hbo⟩,hnd,hB1⟩ ⟨Bx,⟨hBx,v',hv',hvb⟩,bX,rfl⟩ hlt;have hs1:=hB1.size;obtain⟨e0,e1,e2,e3,ef⟩:=bX.all;have i2:=hv.cell;have i2F:=hv.frozen;have hKX:Kd W ks1 A1 l1 c1:=(hx1.2.2.2.keep fun i hi=>hB1.block i hi).mono fun i hi=>by omega
  have hN1:=hx1.2.2.1;have HX1:=Lib.hid hx1;have HND:=Lib.hid hnd;have HHV:=Lib.hid hv';clear hnd hv';simp only[LV.val] at *;obtain⟨A9,m9,c9,hv9⟩:∃ A9 m9 c9,v=.slice A9 m9 c9∧m9=pre.length:=own_slice hrow;obtain⟨rfl,hm9⟩:=hv9;rw[←hm9] at hrow;have hm1:m9≤pre.length:=Nat.le_of_eq hm9;have HM9:=Lib.hid hm9;have hpl:m9≤1073741824:=by have:=pairs_len ks;have:=length_bulk ks;omega
  clear hm9
  gi_wp2
  gi_loopw [13] (fun i wr=>∃ j:Nat,j≤m9∧i=.int .i64 j∧((keysOf pre).take j).any (fun y=>same (.mk k1 n1 t1 ks1) y)=false∧Below W.heap.size W wr) (fun i _=>m9 - (intOf i).toNat)
  case atStart=>exact⟨0,Nat.zero_le _,rfl,rfl,Below.refl _ _⟩
  case round=>
   obtain⟨j,hj,rfl,hno,hb⟩:=hrel;have HNO:=Lib.hid hno;clear hno;have hsr:=hb.size;by_cases hltj:j < m9
   ·obtain⟨y,hy⟩:∃ y,pre[j]? = some y:=⟨pre[j]'(by omega),List.getElem?_eq_getElem (by omega)⟩;have HY:=Lib.hid hy;obtain⟨g,rfl,hg1,hg2⟩:=own_form hrow (by omega);have r0:=(hb.cell (p:=⟨g,j * 4+0,none⟩) hg2).trans ((World.ownsRow.cellAt hrow (j * 4+0) (by omega)).trans (kflat_at 0 (by omega) hy));have r1:=(hb.cell (p:=⟨g,j * 4+1,none⟩) hg2).trans ((World.ownsRow.cellAt hrow (j * 4+1) (by omega)).trans (kflat_at 1 (by omega) hy));have r2:=(hb.cell (p:=⟨g,j * 4+2,none⟩) hg2).trans ((World.ownsRow.cellAt hrow (j * 4+2) (by omega)).trans (kflat_at 2 (by omega) hy));have r3:=(hb.cell (p:=⟨g,j * 4+3,none⟩) hg2).trans ((World.ownsRow.cellAt hrow (j * 4+3) (by omega)).trans (kflat_at 3 (by omega) hy));clear hy;obtain⟨⟨⟨k3,n3,t3,A3,l3,c3',ks3⟩,⟨k4,n4,t4,A4,l4,c4,ks4⟩⟩,hy1,hy2⟩:=y;simp only[kcells,List.getElem?_cons_zero,List.getElem?_cons_succ,Nat.add_zero] at r0 r1 r2 r3;have hKY:Kd wr ks3 A3 l3 c3':=(hy1.2.2.2.keep fun i hi=>(hb.block i (by omega)).trans (hB1.block i hi)).mono fun i hi=>by omega
    have B0:=bX.below hb bX.lt;obtain⟨u0,u1,u2,u3,uf⟩:=B0.all;have hBxl:Bx < wr.heap.size:=B0.lt;have G1:=boxed_below hbo hb (by omega);have g1:=G1.cell;have g1F:=G1.frozen;obtain⟨q,hq⟩:∃ q,same (.mk k1 n1 t1 ks1) (.mk k3 n3 t3 ks3)=q:=⟨_,rfl⟩;have hcall:=vsame_any k1 n1 t1 ks1 A1 l1 c1 k3 n3 t3 ks3 A3 l3 c3' (wr.alloc (.cells #[.int .u8 k3,.int .u64 n3,.string t3,.slice A3 l3 c3'] 44)) hN1 ((hKX.call hb).alloc _) (hKY.alloc _);rw[hq] at hcall;have HC:=Lib.hid hcall;have HQ:=Lib.hid hq;have hba:Below wr.heap.size wr (wr.alloc (.cells #[.int .u8 k3,.int .u64 n3,.string t3,.slice A3 l3 c3'] 44)):=(Below.refl _ _).alloc (Nat.le_refl _) _;clear hcall hq hKY;cases q with
    | true=>
     gi_wp2_with (refine⟨trivial,?_⟩;gi_at_call 68;refine(CallsIn.inRound L (callsIn_wide.2 HC.out)).mono ?_;rintro e W1 ⟨rfl,hb1⟩;have hb2:=below_next hba hb1;have G2:=boxed_below G1 hb2 (by omega);have g2:=G2.cell;have g2F:=G2.frozen)
     have hb3:=below_next hb hb2;refine⟨(below_keepsFrom hb3).trans ((KeepsOthers.setCell _ _ _).from _),⟨⟨rfl,?_⟩,G2.set _⟩,(hB1.trans (hb3.mono (by omega))).setCell (p:=⟨w.heap.size+1,0,none⟩) (by show w.heap.size≤w.heap.size+1;omega) _⟩;exact dup_of HY.out HQ.out
    | false=>
     gi_wp2_with (refine⟨trivial,?_⟩;gi_at_call 68;refine(CallsIn.inRound L (callsIn_wide.2 HC.out)).mono ?_;rintro e W1 ⟨rfl,hb1⟩;have hb2:=below_next hba hb1)
     have hb3:=below_next hb hb2;go_roundw
     case rel=>exact⟨j+1,by omega,by go_num,any_no HY.out HNO.out HQ.out,hb3⟩
     case measure=>simp[intOf];omega
   ·gi_wp2_with fail
    have B0:=bX.below hb bX.lt;have V2:=boxed_below hv hb hv.lt;obtain⟨u0,u1,u2,u3,uf⟩:=B0.all;have v2:=V2.cell;have v2F:=V2.frozen;have G1:=boxed_below hbo hb (by omega);have hjm:j=m9:=by omega
    have HNO9:=Lib.hid (hjm▸HNO.out);clear hjm;have hmx:Tryz.prog.follows .mixedOrders=true:=by kernel_rfl
    obtain⟨i0,hi,hz0,hz1,hz2⟩:=info_parts infoV;have hrow2:=hrow.kept (show W.grownBy wr (some W.heap.size) from ⟨hb.os,hb.tape,hb.output,hb.size,fun i hi _=>hb.block i hi⟩) (.inr (own_old hrow));have hsr2:w.heap.size≤wr.heap.size:=by omega
    have HVB:=Lib.hid (show (Value.slice A9 m9 c9).ownBlock≠some Bx from boxed_eq hv HHV.out▸hvb);have hii:(m9:Int) < (m9:Int)+1:=by omega
    have hiN:m9 < m9+1:=by omega
    have hBxl:Bx < wr.heap.size:=B0.lt;have hS2:w.heap.size+1+1 < wr.heap.size:=by omega
    have BA:=Box.alloc (w:=wr.drew) B0 (.cells #[.int .u8 0,.int .u64 0,.string ⟨#[]⟩,.slice none 0 0] 44);obtain⟨w0',w1',w2',w3',wf'⟩:=BA.all;have vA:=(Boxed.alloc (W:=wr.drew) V2 (.cells #[.int .u8 0,.int .u64 0,.string ⟨#[]⟩,.slice none 0 0] 44)).cell;refine wpIn_region_any hmx ?_
    change wpAnyIn _ _ _ _ _ _ _ _ _ (World.drew _)
    refine wpAnyIn_ready (rs:=[0,1,3]) (by kernel_rfl) (by simp) ?_;refine AllReadyIn.cons rfl (fun K hK=>?_) ?_
    ·go_simp;refine hK _ _ ?_;clear hK K;refine wpAnyIn_ready (rs:=[1,2,3]) (by kernel_rfl) (by simp) ?_;refine AllReadyIn.cons rfl (fun K hK=>?_) ?_
     ·go_simp;refine hK _ _ ?_;clear hK K;refine wpAnyIn_ready (rs:=[2,3]) (by kernel_rfl) (by simp) ?_;refine AllReadyIn.cons rfl (fun K hK=>?_) ?_
      ·go_simp;refine hK _ _ ?_;clear hK K;refine wpAnyIn_ready (rs:=[3]) (by kernel_rfl) (by simp) ?_;refine AllReadyIn.cons rfl (fun K hK=>?_) ?_
       ·go_simp;refine hK _ _ ?_;clear hK K;refine wpAnyIn_ready (rs:=[4]) (by kernel_rfl) (by simp) ?_;refine AllReadyIn.cons rfl (fun K hK=>?_) ?_
        ·refine stepIn_append_lies _ rfl _ _ 42 rfl w.heap.size 44 i0 _ 4 56 Tryz.underlying42 hi hz0 hz1 hz2 rfl (by omega) _ _ _ rfl (by exact hrow2.alloc _) ⟨wr.heap.size,0,none⟩ 1 1 [.int .u8 0,.int .u64 0,.string ⟨#[]⟩,.slice none 0 0] rfl rfl (by exact news4 _ _ _ _ _ _ _ rfl) (fun u hu=>(by simp at hu;rcases hu with rfl | rfl | rfl | rfl<;>rfl)) (by omega) (by unfold maxLen;omega) (by omega) (by simp;omega) _ rfl ?_;intro g9 cap9 w9 hown9 hgr9 hat9 hlt9;have f0:=ktw_far hgr9 B0 HVB.out;obtain⟨y0,y1,y2,y3,yf⟩:=f0.all;have V9:=ktw_box hgr9 V2 hrow2;have z2:=V9.cell;have z2F:=V9.frozen;have c0:=ktw_cell hown9 HM9.out 0 (by omega);have c1':=ktw_cell hown9 HM9.out 1 (by omega);have c2':=ktw_cell hown9 HM9.out 2 (by omega);have c3':=ktw_cell hown9 HM9.out 3 (by omega);have hF9:=ktw_frozen hown9;have hg92:=ktw_ne V9 hown9;have V9b:=ktw_boxb hgr9 G1 hrow2;have hg91:=ktw_neb V9b hown9;have hgS:=ktw_le hown9;have HKK:=Lib.hid (ktw_keeps hrow2 hgr9 hsr2);have hg93:=hg92.symm;simp only[List.getElem?_cons_zero,List.getElem?_cons_succ,Nat.add_zero] at c0 c1' c2' c3'
         try go_simp
         refine hK _ _ ?_;clear hK K;refine wpAnyIn_ready (rs:=[5,7]) (by kernel_rfl) (by simp) ?_;refine AllReadyIn.cons rfl (fun K hK=>?_) ?_
         ·go_simp;refine hK _ _ ?_;clear hK K;refine wpAnyIn_ready (rs:=[6,7]) (by kernel_rfl) (by simp) ?_;refine AllReadyIn.cons rfl (fun K hK=>?_) ?_
          ·go_simp;refine hK _ _ ?_;clear hK K;refine wpAnyIn_ready (rs:=[7]) (by kernel_rfl) (by simp) ?_;refine AllReadyIn.cons rfl (fun K hK=>?_) ?_
           ·go_simp;refine hK _ _ ?_;clear hK K;refine wpAnyIn_done (by kernel_rfl) ?_ _
            gi_wp2
            exact ktw_end HM9.out HND.out HNO9.out hB1 hb (by omega) ((HKK.out.1.trans (set4x_keeps w9 g9 m9 _ _ _ _)).trans (KeepsOthers.setCell _ _ _)) ((set4x_below HKK.out.2 hgS m9 _ _ _ _).setCell (p:=⟨w.heap.size+1+1,0,none⟩) (by show w.heap.size≤w.heap.size+1+1;omega) _) (own_farx (ktw_row hown9 HM9.out _ _ _ _) hg92 _) ((set4x_boxed V9 hg92 _ _ _ _).set _) (boxed_far (p:=⟨w.heap.size+1+1,0,none⟩) (set4x_boxed V9b hg91 _ _ _ _) (by show w.heap.size+1≠w.heap.size+1+1;omega) _)
           exact AllReadyIn.nil
          refine AllReadyIn.cons rfl (fun K hK=>?_) ?_
          ·go_simp;refine hK _ _ ?_;clear hK K;refine wpAnyIn_ready (rs:=[6]) (by kernel_rfl) (by simp) ?_;refine AllReadyIn.cons rfl (fun K hK=>?_) ?_
           ·go_simp;refine hK _ _ ?_;clear hK K;refine wpAnyIn_done (by kernel_rfl) ?_ _
            gi_wp2
            exact ktw_end HM9.out HND.out HNO9.out hB1 hb (by omega) ((HKK.out.1.trans (KeepsOthers.setCell _ _ _)).trans (set4x_keeps _ g9 m9 _ _ _ _)) (set4x_below (HKK.out.2.setCell (p:=⟨w.heap.size+1+1,0,none⟩) (by show w.heap.size≤w.heap.size+1+1;omega) _) hgS m9 _ _ _ _) (ktw_row (own_farx hown9 hg92 _) HM9.out _ _ _ _) (set4x_boxed (V9.set _) hg92 _ _ _ _) (set4x_boxed (boxed_far (p:=⟨w.heap.size+1+1,0,none⟩) V9b (by show w.heap.size+1≠w.heap.size+1+1;omega) _) hg91 _ _ _ _)
           exact AllReadyIn.nil
          exact AllReadyIn.nil
         refine AllReadyIn.cons rfl (fun K hK=>?_) ?_
         ·go_simp;refine hK _ _ ?_;clear hK K;refine wpAnyIn_ready (rs:=[5]) (by kernel_rfl) (by simp) ?_;refine AllReadyIn.cons rfl (fun K hK=>?_) ?_
          ·go_simp;refine hK _ _ ?_;clear hK K;refine wpAnyIn_ready (rs:=[6]) (by kernel_rfl) (by simp) ?_;refine AllReadyIn.cons rfl (fun K hK=>?_) ?_
           ·go_simp;refine hK _ _ ?_;clear hK K;refine wpAnyIn_done (by kernel_rfl) ?_ _
            gi_wp2
            exact ktw_end HM9.out HND.out HNO9.out hB1 hb (by omega) ((HKK.out.1.trans (KeepsOthers.setCell _ _ _)).trans (set4x_keeps _ g9 m9 _ _ _ _)) (set4x_below (HKK.out.2.setCell (p:=⟨w.heap.size+1+1,0,none⟩) (by show w.heap.size≤w.heap.size+1+1;omega) _) hgS m9 _ _ _ _) (ktw_row (own_farx hown9 hg92 _) HM9.out _ _ _ _) (set4x_boxed (V9.set _) hg92 _ _ _ _) (set4x_boxed (boxed_far (p:=⟨w.heap.size+1+1,0,none⟩) V9b (by show w.heap.size+1≠w.heap.size+1+1;omega) _) hg91 _ _ _ _)
           exact AllReadyIn.nil
          exact AllReadyIn.nil
         exact AllReadyIn.nil
        exact AllReadyIn.nil
       exact AllReadyIn.nil
      refine AllReadyIn.cons rfl (fun K hK=>?_) ?_
      ·go_simp;refine hK _ _ ?_;clear hK K;refine wpAnyIn_ready (rs:=[2]) (by kernel_rfl) (by simp) ?_;refine AllReadyIn.cons rfl (fun K hK=>?_) ?_
       ·go_simp;refine hK _ _ ?_;clear hK K;refine wpAnyIn_ready (rs:=[4]) (by kernel_rfl) (by simp) ?_;refine AllReadyIn.cons rfl (fun K hK=>?_) ?_
        ·refine stepIn_append_lies _ rfl _ _ 42 rfl w.heap.size 44 i0 _ 4 56 Tryz.underlying42 hi hz0 hz1 hz2 rfl (by omega) _ _ _ rfl (by exact hrow2.alloc _) ⟨wr.heap.size,0,none⟩ 1 1 [.int .u8 0,.int .u64 0,.string ⟨#[]⟩,.slice none 0 0] rfl rfl (by exact news4 _ _ _ _ _ _ _ rfl) (fun u hu=>(by simp at hu;rcases hu with rfl | rfl | rfl | rfl<;>rfl)) (by omega) (by unfold maxLen;omega) (by omega) (by simp;omega) _ rfl ?_;intro g9 cap9 w9 hown9 hgr9 hat9 hlt9;have f0:=ktw_far hgr9 B0 HVB.out;obtain⟨y0,y1,y2,y3,yf⟩:=f0.all;have V9:=ktw_box hgr9 V2 hrow2;have z2:=V9.cell;have z2F:=V9.frozen;have c0:=ktw_cell hown9 HM9.out 0 (by omega);have c1':=ktw_cell hown9 HM9.out 1 (by omega);have c2':=ktw_cell hown9 HM9.out 2 (by omega);have c3':=ktw_cell hown9 HM9.out 3 (by omega);have hF9:=ktw_frozen hown9;have hg92:=ktw_ne V9 hown9;have V9b:=ktw_boxb hgr9 G1 hrow2;have hg91:=ktw_neb V9b hown9;have hgS:=ktw_le hown9;have HKK:=Lib.hid (ktw_keeps hrow2 hgr9 hsr2);have hg93:=hg92.symm;simp only[List.getElem?_cons_zero,List.getElem?_cons_succ,Nat.add_zero] at c0 c1' c2' c3'
         try go_simp
         refine hK _ _ ?_;clear hK K;refine wpAnyIn_ready (rs:=[5,7]) (by kernel_rfl) (by simp) ?_;refine AllReadyIn.cons rfl (fun K hK=>?_) ?_
         ·go_simp;refine hK _ _ ?_;clear hK K;refine wpAnyIn_ready (rs:=[6,7]) (by kernel_rfl) (by simp) ?_;refine AllReadyIn.cons rfl (fun K hK=>?_) ?_
          ·go_simp;refine hK _ _ ?_;clear hK K;refine wpAnyIn_ready (rs:=[7]) (by kernel_rfl) (by simp) ?_;refine AllReadyIn.cons rfl (fun K hK=>?_) ?_
           ·go_simp;refine hK _ _ ?_;clear hK K;refine wpAnyIn_done (by kernel_rfl) ?_ _
            gi_wp2
            exact ktw_end HM9.out HND.out HNO9.out hB1 hb (by omega) ((HKK.out.1.trans (set4x_keeps w9 g9 m9 _ _ _ _)).trans (KeepsOthers.setCell _ _ _)) ((set4x_below HKK.out.2 hgS m9 _ _ _ _).setCell (p:=⟨w.heap.size+1+1,0,none⟩) (by show w.heap.size≤w.heap.size+1+1;omega) _) (own_farx (ktw_row hown9 HM9.out _ _ _ _) hg92 _) ((set4x_boxed V9 hg92 _ _ _ _).set _) (boxed_far (p:=⟨w.heap.size+1+1,0,none⟩) (set4x_boxed V9b hg91 _ _ _ _) (by show w.heap.size+1≠w.heap.size+1+1;omega) _)
           exact AllReadyIn.nil
          refine AllReadyIn.cons rfl (fun K hK=>?_) ?_
          ·go_simp;refine hK _ _ ?_;clear hK K;refine wpAnyIn_ready (rs:=[6]) (by kernel_rfl) (by simp) ?_;refine AllReadyIn.cons rfl (fun K hK=>?_) ?_
           ·go_simp;refine hK _ _ ?_;clear hK K;refine wpAnyIn_done (by kernel_rfl) ?_ _
            gi_wp2
            exact ktw_end HM9.out HND.out HNO9.out hB1 hb (by omega) ((HKK.out.1.trans (KeepsOthers.setCell _ _ _)).trans (set4x_keeps _ g9 m9 _ _ _ _)) (set4x_below (HKK.out.2.setCell (p:=⟨w.heap.size+1+1,0,none⟩) (by show w.heap.size≤w.heap.size+1+1;omega) _) hgS m9 _ _ _ _) (ktw_row (own_farx hown9 hg92 _) HM9.out _ _ _ _) (set4x_boxed (V9.set _) hg92 _ _ _ _) (set4x_boxed (boxed_far (p:=⟨w.heap.size+1+1,0,none⟩) V9b (by show w.heap.size+1≠w.heap.size+1+1;omega) _) hg91 _ _ _ _)
           exact AllReadyIn.nil
          exact AllReadyIn.nil
         refine AllReadyIn.cons rfl (fun K hK=>?_) ?_
         ·go_simp;refine hK _ _ ?_;clear hK K;refine wpAnyIn_ready (rs:=[5]) (by kernel_rfl) (by simp) ?_;refine AllReadyIn.cons rfl (fun K hK=>?_) ?_
          ·go_simp;refine hK _ _ ?_;clear hK K;refine wpAnyIn_ready (rs:=[6]) (by kernel_rfl) (by simp) ?_;refine AllReadyIn.cons rfl (fun K hK=>?_) ?_
           ·go_simp;refine hK _ _ ?_;clear hK K;refine wpAnyIn_done (by kernel_rfl) ?_ _
            gi_wp2
            exact ktw_end HM9.out HND.out HNO9.out hB1 hb (by omega) ((HKK.out.1.trans (KeepsOthers.setCell _ _ _)).trans (set4x_keeps _ g9 m9 _ _ _ _)) (set4x_below (HKK.out.2.setCell (p:=⟨w.heap.size+1+1,0,none⟩) (by show w.heap.size≤w.heap.size+1+1;omega) _) hgS m9 _ _ _ _) (ktw_row (own_farx hown9 hg92 _) HM9.out _ _ _ _) (set4x_boxed (V9.set _) hg92 _ _ _ _) (set4x_boxed (boxed_far (p:=⟨w.heap.size+1+1,0,none⟩) V9b (by show w.heap.size+1≠w.heap.size+1+1;omega) _) hg91 _ _ _ _)
           exact AllReadyIn.nil
          exact AllReadyIn.nil
         exact AllReadyIn.nil
        exact AllReadyIn.nil
       exact AllReadyIn.nil
      exact AllReadyIn.nil
     refine AllReadyIn.cons rfl (fun K hK=>?_) ?_
     ·go_simp;refine hK _ _ ?_;clear hK K;refine wpAnyIn_ready (rs:=[1,3]) (by kernel_rfl) (by simp) ?_;refine AllReadyIn.cons rfl (fun K hK=>?_) ?_
      ·go_simp;refine hK _ _ ?_;clear hK K;refine wpAnyIn_ready (rs:=[3]) (by kernel_rfl) (by simp) ?_;refine AllReadyIn.cons rfl (fun K hK=>?_) ?_
       ·go_simp;refine hK _ _ ?_;clear hK K;refine wpAnyIn_ready (rs:=[4]) (by kernel_rfl) (by simp) ?_;refine AllReadyIn.cons rfl (fun K hK=>?_) ?_
        ·refine stepIn_append_lies _ rfl _ _ 42 rfl w.heap.size 44 i0 _ 4 56 Tryz.underlying42 hi hz0 hz1 hz2 rfl (by omega) _ _ _ rfl (by exact hrow2.alloc _) ⟨wr.heap.size,0,none⟩ 1 1 [.int .u8 0,.int .u64 0,.string ⟨#[]⟩,.slice none 0 0] rfl rfl (by exact news4 _ _ _ _ _ _ _ rfl) (fun u hu=>(by simp at hu;rcases hu with rfl | rfl | rfl | rfl<;>rfl)) (by omega) (by unfold maxLen;omega) (by omega) (by simp;omega) _ rfl ?_;intro g9 cap9 w9 hown9 hgr9 hat9 hlt9;have f0:=ktw_far hgr9 B0 HVB.out;obtain⟨y0,y1,y2,y3,yf⟩:=f0.all;have V9:=ktw_box hgr9 V2 hrow2;have z2:=V9.cell;have z2F:=V9.frozen;have c0:=ktw_cell hown9 HM9.out 0 (by omega);have c1':=ktw_cell hown9 HM9.out 1 (by omega);have c2':=ktw_cell hown9 HM9.out 2 (by omega);have c3':=ktw_cell hown9 HM9.out 3 (by omega);have hF9:=ktw_frozen hown9;have hg92:=ktw_ne V9 hown9;have V9b:=ktw_boxb hgr9 G1 hrow2;have hg91:=ktw_neb V9b hown9;have hgS:=ktw_le hown9;have HKK:=Lib.hid (ktw_keeps hrow2 hgr9 hsr2);have hg93:=hg92.symm;simp only[List.getElem?_cons_zero,List.getElem?_cons_succ,Nat.add_zero] at c0 c1' c2' c3'
         try go_simp
         refine hK _ _ ?_;clear hK K;refine wpAnyIn_ready (rs:=[5,7]) (by kernel_rfl) (by simp) ?_;refine AllReadyIn.cons rfl (fun K hK=>?_) ?_
         ·go_simp;refine hK _ _ ?_;clear hK K;refine wpAnyIn_ready (rs:=[6,7]) (by kernel_rfl) (by simp) ?_;refine AllReadyIn.cons rfl (fun K hK=>?_) ?_
          ·go_simp;refine hK _ _ ?_;clear hK K;refine wpAnyIn_ready (rs:=[7]) (by kernel_rfl) (by simp) ?_;refine AllReadyIn.cons rfl (fun K hK=>?_) ?_
           ·go_simp;refine hK _ _ ?_;clear hK K;refine wpAnyIn_done (by kernel_rfl) ?_ _
            gi_wp2
            exact ktw_end HM9.out HND.out HNO9.out hB1 hb (by omega) ((HKK.out.1.trans (set4x_keeps w9 g9 m9 _ _ _ _)).trans (KeepsOthers.setCell _ _ _)) ((set4x_below HKK.out.2 hgS m9 _ _ _ _).setCell (p:=⟨w.heap.size+1+1,0,none⟩) (by show w.heap.size≤w.heap.size+1+1;omega) _) (own_farx (ktw_row hown9 HM9.out _ _ _ _) hg92 _) ((set4x_boxed V9 hg92 _ _ _ _).set _) (boxed_far (p:=⟨w.heap.size+1+1,0,none⟩) (set4x_boxed V9b hg91 _ _ _ _) (by show w.heap.size+1≠w.heap.size+1+1;omega) _)
           exact AllReadyIn.nil
          refine AllReadyIn.cons rfl (fun K hK=>?_) ?_
          ·go_simp;refine hK _ _ ?_;clear hK K;refine wpAnyIn_ready (rs:=[6]) (by kernel_rfl) (by simp) ?_;refine AllReadyIn.cons rfl (fun K hK=>?_) ?_
           ·go_simp;refine hK _ _ ?_;clear hK K;refine wpAnyIn_done (by kernel_rfl) ?_ _
            gi_wp2
            exact ktw_end HM9.out HND.out HNO9.out hB1 hb (by omega) ((HKK.out.1.trans (KeepsOthers.setCell _ _ _)).trans (set4x_keeps _ g9 m9 _ _ _ _)) (set4x_below (HKK.out.2.setCell (p:=⟨w.heap.size+1+1,0,none⟩) (by show w.heap.size≤w.heap.size+1+1;omega) _) hgS m9 _ _ _ _) (ktw_row (own_farx hown9 hg92 _) HM9.out _ _ _ _) (set4x_boxed (V9.set _) hg92 _ _ _ _) (set4x_boxed (boxed_far (p:=⟨w.heap.size+1+1,0,none⟩) V9b (by show w.heap.size+1≠w.heap.size+1+1;omega) _) hg91 _ _ _ _)
           exact AllReadyIn.nil
          exact AllReadyIn.nil
         refine AllReadyIn.cons rfl (fun K hK=>?_) ?_
         ·go_simp;refine hK _ _ ?_;clear hK K;refine wpAnyIn_ready (rs:=[5]) (by kernel_rfl) (by simp) ?_;refine AllReadyIn.cons rfl (fun K hK=>?_) ?_
          ·go_simp;refine hK _ _ ?_;clear hK K;refine wpAnyIn_ready (rs:=[6]) (by kernel_rfl) (by simp) ?_;refine AllReadyIn.cons rfl (fun K hK=>?_) ?_
           ·go_simp;refine hK _ _ ?_;clear hK K;refine wpAnyIn_done (by kernel_rfl) ?_ _
            gi_wp2
            exact ktw_end HM9.out HND.out HNO9.out hB1 hb (by omega) ((HKK.out.1.trans (KeepsOthers.setCell _ _ _)).trans (set4x_keeps _ g9 m9 _ _ _ _)) (set4x_below (HKK.out.2.setCell (p:=⟨w.heap.size+1+1,0,none⟩) (by show w.heap.size≤w.heap.size+1+1;omega) _) hgS m9 _ _ _ _) (ktw_row (own_farx hown9 hg92 _) HM9.out _ _ _ _) (set4x_boxed (V9.set _) hg92 _ _ _ _) (set4x_boxed (boxed_far (p:=⟨w.heap.size+1+1,0,none⟩) V9b (by show w.heap.size+1≠w.heap.size+1+1;omega) _) hg91 _ _ _ _)
           exact AllReadyIn.nil
          exact AllReadyIn.nil
         exact AllReadyIn.nil
        exact AllReadyIn.nil
       exact AllReadyIn.nil
      refine AllReadyIn.cons rfl (fun K hK=>?_) ?_
      ·go_simp;refine hK _ _ ?_;clear hK K;refine wpAnyIn_ready (rs:=[1]) (by kernel_rfl) (by simp) ?_;refine AllReadyIn.cons rfl (fun K hK=>?_) ?_
       ·go_simp;refine hK _ _ ?_;clear hK K;refine wpAnyIn_ready (rs:=[4]) (by kernel_rfl) (by simp) ?_;refine AllReadyIn.cons rfl (fun K hK=>?_) ?_
        ·refine stepIn_append_lies _ rfl _ _ 42 rfl w.heap.size 44 i0 _ 4 56 Tryz.underlying42 hi hz0 hz1 hz2 rfl (by omega) _ _ _ rfl (by exact hrow2.alloc _) ⟨wr.heap.size,0,none⟩ 1 1 [.int .u8 0,.int .u64 0,.string ⟨#[]⟩,.slice none 0 0] rfl rfl (by exact news4 _ _ _ _ _ _ _ rfl) (fun u hu=>(by simp at hu;rcases hu with rfl | rfl | rfl | rfl<;>rfl)) (by omega) (by unfold maxLen;omega) (by omega) (by simp;omega) _ rfl ?_;intro g9 cap9 w9 hown9 hgr9 hat9 hlt9;have f0:=ktw_far hgr9 B0 HVB.out;obtain⟨y0,y1,y2,y3,yf⟩:=f0.all;have V9:=ktw_box hgr9 V2 hrow2;have z2:=V9.cell;have z2F:=V9.frozen;have c0:=ktw_cell hown9 HM9.out 0 (by omega);have c1':=ktw_cell hown9 HM9.out 1 (by omega);have c2':=ktw_cell hown9 HM9.out 2 (by omega);have c3':=ktw_cell hown9 HM9.out 3 (by omega);have hF9:=ktw_frozen hown9;have hg92:=ktw_ne V9 hown9;have V9b:=ktw_boxb hgr9 G1 hrow2;have hg91:=ktw_neb V9b hown9;have hgS:=ktw_le hown9;have HKK:=Lib.hid (ktw_keeps hrow2 hgr9 hsr2);have hg93:=hg92.symm;simp only[List.getElem?_cons_zero,List.getElem?_cons_succ,Nat.add_zero] at c0 c1' c2' c3'
         try go_simp
         refine hK _ _ ?_;clear hK K;refine wpAnyIn_ready (rs:=[5,7]) (by kernel_rfl) (by simp) ?_;refine AllReadyIn.cons rfl (fun K hK=>?_) ?_
         ·go_simp;refine hK _ _ ?_;clear hK K;refine wpAnyIn_ready (rs:=[6,7]) (by kernel_rfl) (by simp) ?_;refine AllReadyIn.cons rfl (fun K hK=>?_) ?_
          ·go_simp;refine hK _ _ ?_;clear hK K;refine wpAnyIn_ready (rs:=[7]) (by kernel_rfl) (by simp) ?_;refine AllReadyIn.cons rfl (fun K hK=>?_) ?_
           ·go_simp;refine hK _ _ ?_;clear hK K;refine wpAnyIn_done (by kernel_rfl) ?_ _
            gi_wp2
            exact ktw_end HM9.out HND.out HNO9.out hB1 hb (by omega) ((HKK.out.1.trans (set4x_keeps w9 g9 m9 _ _ _ _)).trans (KeepsOthers.setCell _ _ _)) ((set4x_below HKK.out.2 hgS m9 _ _ _ _).setCell (p:=⟨w.heap.size+1+1,0,none⟩) (by show w.heap.size≤w.heap.size+1+1;omega) _) (own_farx (ktw_row hown9 HM9.out _ _ _ _) hg92 _) ((set4x_boxed V9 hg92 _ _ _ _).set _) (boxed_far (p:=⟨w.heap.size+1+1,0,none⟩) (set4x_boxed V9b hg91 _ _ _ _) (by show w.heap.size+1≠w.heap.size+1+1;omega) _)
           exact AllReadyIn.nil
          refine AllReadyIn.cons rfl (fun K hK=>?_) ?_
          ·go_simp;refine hK _ _ ?_;clear hK K;refine wpAnyIn_ready (rs:=[6]) (by kernel_rfl) (by simp) ?_;refine AllReadyIn.cons rfl (fun K hK=>?_) ?_
           ·go_simp;refine hK _ _ ?_;clear hK K;refine wpAnyIn_done (by kernel_rfl) ?_ _
            gi_wp2
            exact ktw_end HM9.out HND.out HNO9.out hB1 hb (by omega) ((HKK.out.1.trans (KeepsOthers.setCell _ _ _)).trans (set4x_keeps _ g9 m9 _ _ _ _)) (set4x_below (HKK.out.2.setCell (p:=⟨w.heap.size+1+1,0,none⟩) (by show w.heap.size≤w.heap.size+1+1;omega) _) hgS m9 _ _ _ _) (ktw_row (own_farx hown9 hg92 _) HM9.out _ _ _ _) (set4x_boxed (V9.set _) hg92 _ _ _ _) (set4x_boxed (boxed_far (p:=⟨w.heap.size+1+1,0,none⟩) V9b (by show w.heap.size+1≠w.heap.size+1+1;omega) _) hg91 _ _ _ _)
           exact AllReadyIn.nil
          exact AllReadyIn.nil
         refine AllReadyIn.cons rfl (fun K hK=>?_) ?_
         ·go_simp;refine hK _ _ ?_;clear hK K;refine wpAnyIn_ready (rs:=[5]) (by kernel_rfl) (by simp) ?_;refine AllReadyIn.cons rfl (fun K hK=>?_) ?_
          ·go_simp;refine hK _ _ ?_;clear hK K;refine wpAnyIn_ready (rs:=[6]) (by kernel_rfl) (by simp) ?_;refine AllReadyIn.cons rfl (fun K hK=>?_) ?_
           ·go_simp;refine hK _ _ ?_;clear hK K;refine wpAnyIn_done (by kernel_rfl) ?_ _
            gi_wp2
            exact ktw_end HM9.out HND.out HNO9.out hB1 hb (by omega) ((HKK.out.1.trans (KeepsOthers.setCell _ _ _)).trans (set4x_keeps _ g9 m9 _ _ _ _)) (set4x_below (HKK.out.2.setCell (p:=⟨w.heap.size+1+1,0,none⟩) (by show w.heap.size≤w.heap.size+1+1;omega) _) hgS m9 _ _ _ _) (ktw_row (own_farx hown9 hg92 _) HM9.out _ _ _ _) (set4x_boxed (V9.set _) hg92 _ _ _ _) (set4x_boxed (boxed_far (p:=⟨w.heap.size+1+1,0,none⟩) V9b (by show w.heap.size+1≠w.heap.size+1+1;omega) _) hg91 _ _ _ _)
           exact AllReadyIn.nil
          exact AllReadyIn.nil
         exact AllReadyIn.nil
        exact AllReadyIn.nil
       exact AllReadyIn.nil
      exact AllReadyIn.nil
     refine AllReadyIn.cons rfl (fun K hK=>?_) ?_
     ·go_simp;refine hK _ _ ?_;clear hK K;refine wpAnyIn_ready (rs:=[1,2]) (by kernel_rfl) (by simp) ?_;refine AllReadyIn.cons rfl (fun K hK=>?_) ?_
      ·go_simp;refine hK _ _ ?_;clear hK K;refine wpAnyIn_ready (rs:=[2]) (by kernel_rfl) (by simp) ?_;refine AllReadyIn.cons rfl (fun K hK=>?_) ?_
       ·go_simp;refine hK _ _ ?_;clear hK K;refine wpAnyIn_ready (rs:=[4]) (by kernel_rfl) (by simp) ?_;refine AllReadyIn.cons rfl (fun K hK=>?_) ?_
        ·refine stepIn_append_lies _ rfl _ _ 42 rfl w.heap.size 44 i0 _ 4 56 Tryz.underlying42 hi hz0 hz1 hz2 rfl (by omega) _ _ _ rfl (by exact hrow2.alloc _) ⟨wr.heap.size,0,none⟩ 1 1 [.int .u8 0,.int .u64 0,.string ⟨#[]⟩,.slice none 0 0] rfl rfl (by exact news4 _ _ _ _ _ _ _ rfl) (fun u hu=>(by simp at hu;rcases hu with rfl | rfl | rfl | rfl<;>rfl)) (by omega) (by unfold maxLen;omega) (by omega) (by simp;omega) _ rfl ?_;intro g9 cap9 w9 hown9 hgr9 hat9 hlt9;have f0:=ktw_far hgr9 B0 HVB.out;obtain⟨y0,y1,y2,y3,yf⟩:=f0.all;have V9:=ktw_box hgr9 V2 hrow2;have z2:=V9.cell;have z2F:=V9.frozen;have c0:=ktw_cell hown9 HM9.out 0 (by omega);have c1':=ktw_cell hown9 HM9.out 1 (by omega);have c2':=ktw_cell hown9 HM9.out 2 (by omega);have c3':=ktw_cell hown9 HM9.out 3 (by omega);have hF9:=ktw_frozen hown9;have hg92:=ktw_ne V9 hown9;have V9b:=ktw_boxb hgr9 G1 hrow2;have hg91:=ktw_neb V9b hown9;have hgS:=ktw_le hown9;have HKK:=Lib.hid (ktw_keeps hrow2 hgr9 hsr2);have hg93:=hg92.symm;simp only[List.getElem?_cons_zero,List.getElem?_cons_succ,Nat.add_zero] at c0 c1' c2' c3'
         try go_simp
         refine hK _ _ ?_;clear hK K;refine wpAnyIn_ready (rs:=[5,7]) (by kernel_rfl) (by simp) ?_;refine AllReadyIn.cons rfl (fun K hK=>?_) ?_
         ·go_simp;refine hK _ _ ?_;clear hK K;refine wpAnyIn_ready (rs:=[6,7]) (by kernel_rfl) (by simp) ?_;refine AllReadyIn.cons rfl (fun K hK=>?_) ?_
          ·go_simp;refine hK _ _ ?_;clear hK K;refine wpAnyIn_ready (rs:=[7]) (by kernel_rfl) (by simp) ?_;refine AllReadyIn.cons rfl (fun K hK=>?_) ?_
           ·go_simp;refine hK _ _ ?_;clear hK K;refine wpAnyIn_done (by kernel_rfl) ?_ _
            gi_wp2
            exact ktw_end HM9.out HND.out HNO9.out hB1 hb (by omega) ((HKK.out.1.trans (set4x_keeps w9 g9 m9 _ _ _ _)).trans (KeepsOthers.setCell _ _ _)) ((set4x_below HKK.out.2 hgS m9 _ _ _ _).setCell (p:=⟨w.heap.size+1+1,0,none⟩) (by show w.heap.size≤w.heap.size+1+1;omega) _) (own_farx (ktw_row hown9 HM9.out _ _ _ _) hg92 _) ((set4x_boxed V9 hg92 _ _ _ _).set _) (boxed_far (p:=⟨w.heap.size+1+1,0,none⟩) (set4x_boxed V9b hg91 _ _ _ _) (by show w.heap.size+1≠w.heap.size+1+1;omega) _)
           exact AllReadyIn.nil
          refine AllReadyIn.cons rfl (fun K hK=>?_) ?_
          ·go_simp;refine hK _ _ ?_;clear hK K;refine wpAnyIn_ready (rs:=[6]) (by kernel_rfl) (by simp) ?_;refine AllReadyIn.cons rfl (fun K hK=>?_) ?_
           ·go_simp;refine hK _ _ ?_;clear hK K;refine wpAnyIn_done (by kernel_rfl) ?_ _
            gi_wp2
            exact ktw_end HM9.out HND.out HNO9.out hB1 hb (by omega) ((HKK.out.1.trans (KeepsOthers.setCell _ _ _)).trans (set4x_keeps _ g9 m9 _ _ _ _)) (set4x_below (HKK.out.2.setCell (p:=⟨w.heap.size+1+1,0,none⟩) (by show w.heap.size≤w.heap.size+1+1;omega) _) hgS m9 _ _ _ _) (ktw_row (own_farx hown9 hg92 _) HM9.out _ _ _ _) (set4x_boxed (V9.set _) hg92 _ _ _ _) (set4x_boxed (boxed_far (p:=⟨w.heap.size+1+1,0,none⟩) V9b (by show w.heap.size+1≠w.heap.size+1+1;omega) _) hg91 _ _ _ _)
           exact AllReadyIn.nil
          exact AllReadyIn.nil
         refine AllReadyIn.cons rfl (fun K hK=>?_) ?_
         ·go_simp;refine hK _ _ ?_;clear hK K;refine wpAnyIn_ready (rs:=[5]) (by kernel_rfl) (by simp) ?_;refine AllReadyIn.cons rfl (fun K hK=>?_) ?_
          ·go_simp;refine hK _ _ ?_;clear hK K;refine wpAnyIn_ready (rs:=[6]) (by kernel_rfl) (by simp) ?_;refine AllReadyIn.cons rfl (fun K hK=>?_) ?_
           ·go_simp;refine hK _ _ ?_;clear hK K;refine wpAnyIn_done (by kernel_rfl) ?_ _
            gi_wp2
            exact ktw_end HM9.out HND.out HNO9.out hB1 hb (by omega) ((HKK.out.1.trans (KeepsOthers.setCell _ _ _)).trans (set4x_keeps _ g9 m9 _ _ _ _)) (set4x_below (HKK.out.2.setCell (p:=⟨w.heap.size+1+1,0,none⟩) (by show w.heap.size≤w.heap.size+1+1;omega) _) hgS m9 _ _ _ _) (ktw_row (own_farx hown9 hg92 _) HM9.out _ _ _ _) (set4x_boxed (V9.set _) hg92 _ _ _ _) (set4x_boxed (boxed_far (p:=⟨w.heap.size+1+1,0,none⟩) V9b (by show w.heap.size+1≠w.heap.size+1+1;omega) _) hg91 _ _ _ _)
           exact AllReadyIn.nil
          exact AllReadyIn.nil
         exact AllReadyIn.nil
        exact AllReadyIn.nil
       exact AllReadyIn.nil
      refine AllReadyIn.cons rfl (fun K hK=>?_) ?_
      ·go_simp;refine hK _ _ ?_;clear hK K;refine wpAnyIn_ready (rs:=[1]) (by kernel_rfl) (by simp) ?_;refine AllReadyIn.cons rfl (fun K hK=>?_) ?_
       ·go_simp;refine hK _ _ ?_;clear hK K;refine wpAnyIn_ready (rs:=[4]) (by kernel_rfl) (by simp) ?_;refine AllReadyIn.cons rfl (fun K hK=>?_) ?_
        ·refine stepIn_append_lies _ rfl _ _ 42 rfl w.heap.size 44 i0 _ 4 56 Tryz.underlying42 hi hz0 hz1 hz2 rfl (by omega) _ _ _ rfl (by exact hrow2.alloc _) ⟨wr.heap.size,0,none⟩ 1 1 [.int .u8 0,.int .u64 0,.string ⟨#[]⟩,.slice none 0 0] rfl rfl (by exact news4 _ _ _ _ _ _ _ rfl) (fun u hu=>(by simp at hu;rcases hu with rfl | rfl | rfl | rfl<;>rfl)) (by omega) (by unfold maxLen;omega) (by omega) (by simp;omega) _ rfl ?_;intro g9 cap9 w9 hown9 hgr9 hat9 hlt9;have f0:=ktw_far hgr9 B0 HVB.out;obtain⟨y0,y1,y2,y3,yf⟩:=f0.all;have V9:=ktw_box hgr9 V2 hrow2;have z2:=V9.cell;have z2F:=V9.frozen;have c0:=ktw_cell hown9 HM9.out 0 (by omega);have c1':=ktw_cell hown9 HM9.out 1 (by omega);have c2':=ktw_cell hown9 HM9.out 2 (by omega);have c3':=ktw_cell hown9 HM9.out 3 (by omega);have hF9:=ktw_frozen hown9;have hg92:=ktw_ne V9 hown9;have V9b:=ktw_boxb hgr9 G1 hrow2;have hg91:=ktw_neb V9b hown9;have hgS:=ktw_le hown9;have HKK:=Lib.hid (ktw_keeps hrow2 hgr9 hsr2);have hg93:=hg92.symm;simp only[List.getElem?_cons_zero,List.getElem?_cons_succ,Nat.add_zero] at c0 c1' c2' c3'
         try go_simp
         refine hK _ _ ?_;clear hK K;refine wpAnyIn_ready (rs:=[5,7]) (by kernel_rfl) (by simp) ?_;refine AllReadyIn.cons rfl (fun K hK=>?_) ?_
         ·go_simp;refine hK _ _ ?_;clear hK K;refine wpAnyIn_ready (rs:=[6,7]) (by kernel_rfl) (by simp) ?_;refine AllReadyIn.cons rfl (fun K hK=>?_) ?_
          ·go_simp;refine hK _ _ ?_;clear hK K;refine wpAnyIn_ready (rs:=[7]) (by kernel_rfl) (by simp) ?_;refine AllReadyIn.cons rfl (fun K hK=>?_) ?_
           ·go_simp;refine hK _ _ ?_;clear hK K;refine wpAnyIn_done (by kernel_rfl) ?_ _
            gi_wp2
            exact ktw_end HM9.out HND.out HNO9.out hB1 hb (by omega) ((HKK.out.1.trans (set4x_keeps w9 g9 m9 _ _ _ _)).trans (KeepsOthers.setCell _ _ _)) ((set4x_below HKK.out.2 hgS m9 _ _ _ _).setCell (p:=⟨w.heap.size+1+1,0,none⟩) (by show w.heap.size≤w.heap.size+1+1;omega) _) (own_farx (ktw_row hown9 HM9.out _ _ _ _) hg92 _) ((set4x_boxed V9 hg92 _ _ _ _).set _) (boxed_far (p:=⟨w.heap.size+1+1,0,none⟩) (set4x_boxed V9b hg91 _ _ _ _) (by show w.heap.size+1≠w.heap.size+1+1;omega) _)
           exact AllReadyIn.nil
          refine AllReadyIn.cons rfl (fun K hK=>?_) ?_
          ·go_simp;refine hK _ _ ?_;clear hK K;refine wpAnyIn_ready (rs:=[6]) (by kernel_rfl) (by simp) ?_;refine AllReadyIn.cons rfl (fun K hK=>?_) ?_
           ·go_simp;refine hK _ _ ?_;clear hK K;refine wpAnyIn_done (by kernel_rfl) ?_ _
            gi_wp2
            exact ktw_end HM9.out HND.out HNO9.out hB1 hb (by omega) ((HKK.out.1.trans (KeepsOthers.setCell _ _ _)).trans (set4x_keeps _ g9 m9 _ _ _ _)) (set4x_below (HKK.out.2.setCell (p:=⟨w.heap.size+1+1,0,none⟩) (by show w.heap.size≤w.heap.size+1+1;omega) _) hgS m9 _ _ _ _) (ktw_row (own_farx hown9 hg92 _) HM9.out _ _ _ _) (set4x_boxed (V9.set _) hg92 _ _ _ _) (set4x_boxed (boxed_far (p:=⟨w.heap.size+1+1,0,none⟩) V9b (by show w.heap.size+1≠w.heap.size+1+1;omega) _) hg91 _ _ _ _)
           exact AllReadyIn.nil
          exact AllReadyIn.nil
         refine AllReadyIn.cons rfl (fun K hK=>?_) ?_
         ·go_simp;refine hK _ _ ?_;clear hK K;refine wpAnyIn_ready (rs:=[5]) (by kernel_rfl) (by simp) ?_;refine AllReadyIn.cons rfl (fun K hK=>?_) ?_
          ·go_simp;refine hK _ _ ?_;clear hK K;refine wpAnyIn_ready (rs:=[6]) (by kernel_rfl) (by simp) ?_;refine AllReadyIn.cons rfl (fun K hK=>?_) ?_
           ·go_simp;refine hK _ _ ?_;clear hK K;refine wpAnyIn_done (by kernel_rfl) ?_ _
            gi_wp2
            exact ktw_end HM9.out HND.out HNO9.out hB1 hb (by omega) ((HKK.out.1.trans (KeepsOthers.setCell _ _ _)).trans (set4x_keeps _ g9 m9 _ _ _ _)) (set4x_below (HKK.out.2.setCell (p:=⟨w.heap.size+1+1,0,none⟩) (by show w.heap.size≤w.heap.size+1+1;omega) _) hgS m9 _ _ _ _) (ktw_row (own_farx hown9 hg92 _) HM9.out _ _ _ _) (set4x_boxed (V9.set _) hg92 _ _ _ _) (set4x_boxed (boxed_far (p:=⟨w.heap.size+1+1,0,none⟩) V9b (by show w.heap.size+1≠w.heap.size+1+1;omega) _) hg91 _ _ _ _)
           exact AllReadyIn.nil
          exact AllReadyIn.nil
         exact AllReadyIn.nil
        exact AllReadyIn.nil
       exact AllReadyIn.nil
      exact AllReadyIn.nil
     exact AllReadyIn.nil
    refine AllReadyIn.cons rfl (fun K hK=>?_) ?_
    ·go_simp;refine hK _ _ ?_;clear hK K;refine wpAnyIn_ready (rs:=[0,3]) (by kernel_rfl) (by simp) ?_;refine AllReadyIn.cons rfl (fun K hK=>?_) ?_
     ·go_simp;refine hK _ _ ?_;clear hK K;refine wpAnyIn_ready (rs:=[2,3]) (by kernel_rfl) (by simp) ?_;refine AllReadyIn.cons rfl (fun K hK=>?_) ?_
      ·go_simp;refine hK _ _ ?_;clear hK K;refine wpAnyIn_ready (rs:=[3]) (by kernel_rfl) (by simp) ?_;refine AllReadyIn.cons rfl (fun K hK=>?_) ?_
       ·go_simp;refine hK _ _ ?_;clear hK K;refine wpAnyIn_ready (rs:=[4]) (by kernel_rfl) (by simp) ?_;refine AllReadyIn.cons rfl (fun K hK=>?_) ?_
        ·refine stepIn_append_lies _ rfl _ _ 42 rfl w.heap.size 44 i0 _ 4 56 Tryz.underlying42 hi hz0 hz1 hz2 rfl (by omega) _ _ _ rfl (by exact hrow2.alloc _) ⟨wr.heap.size,0,none⟩ 1 1 [.int .u8 0,.int .u64 0,.string ⟨#[]⟩,.slice none 0 0] rfl rfl (by exact news4 _ _ _ _ _ _ _ rfl) (fun u hu=>(by simp at hu;rcases hu with rfl | rfl | rfl | rfl<;>rfl)) (by omega) (by unfold maxLen;omega) (by omega) (by simp;omega) _ rfl ?_;intro g9 cap9 w9 hown9 hgr9 hat9 hlt9;have f0:=ktw_far hgr9 B0 HVB.out;obtain⟨y0,y1,y2,y3,yf⟩:=f0.all;have V9:=ktw_box hgr9 V2 hrow2;have z2:=V9.cell;have z2F:=V9.frozen;have c0:=ktw_cell hown9 HM9.out 0 (by omega);have c1':=ktw_cell hown9 HM9.out 1 (by omega);have c2':=ktw_cell hown9 HM9.out 2 (by omega);have c3':=ktw_cell hown9 HM9.out 3 (by omega);have hF9:=ktw_frozen hown9;have hg92:=ktw_ne V9 hown9;have V9b:=ktw_boxb hgr9 G1 hrow2;have hg91:=ktw_neb V9b hown9;have hgS:=ktw_le hown9;have HKK:=Lib.hid (ktw_keeps hrow2 hgr9 hsr2);have hg93:=hg92.symm;simp only[List.getElem?_cons_zero,List.getElem?_cons_succ,Nat.add_zero] at c0 c1' c2' c3'
         try go_simp
         refine hK _ _ ?_;clear hK K;refine wpAnyIn_ready (rs:=[5,7]) (by kernel_rfl) (by simp) ?_;refine AllReadyIn.cons rfl (fun K hK=>?_) ?_
         ·go_simp;refine hK _ _ ?_;clear hK K;refine wpAnyIn_ready (rs:=[6,7]) (by kernel_rfl) (by simp) ?_;refine AllReadyIn.cons rfl (fun K hK=>?_) ?_
          ·go_simp;refine hK _ _ ?_;clear hK K;refine wpAnyIn_ready (rs:=[7]) (by kernel_rfl) (by simp) ?_;refine AllReadyIn.cons rfl (fun K hK=>?_) ?_
           ·go_simp;refine hK _ _ ?_;clear hK K;refine wpAnyIn_done (by kernel_rfl) ?_ _
            gi_wp2
            exact ktw_end HM9.out HND.out HNO9.out hB1 hb (by omega) ((HKK.out.1.trans (set4x_keeps w9 g9 m9 _ _ _ _)).trans (KeepsOthers.setCell _ _ _)) ((set4x_below HKK.out.2 hgS m9 _ _ _ _).setCell (p:=⟨w.heap.size+1+1,0,none⟩) (by show w.heap.size≤w.heap.size+1+1;omega) _) (own_farx (ktw_row hown9 HM9.out _ _ _ _) hg92 _) ((set4x_boxed V9 hg92 _ _ _ _).set _) (boxed_far (p:=⟨w.heap.size+1+1,0,none⟩) (set4x_boxed V9b hg91 _ _ _ _) (by show w.heap.size+1≠w.heap.size+1+1;omega) _)
           exact AllReadyIn.nil
          refine AllReadyIn.cons rfl (fun K hK=>?_) ?_
          ·go_simp;refine hK _ _ ?_;clear hK K;refine wpAnyIn_ready (rs:=[6]) (by kernel_rfl) (by simp) ?_;refine AllReadyIn.cons rfl (fun K hK=>?_) ?_
           ·go_simp;refine hK _ _ ?_;clear hK K;refine wpAnyIn_done (by kernel_rfl) ?_ _
            gi_wp2
            exact ktw_end HM9.out HND.out HNO9.out hB1 hb (by omega) ((HKK.out.1.trans (KeepsOthers.setCell _ _ _)).trans (set4x_keeps _ g9 m9 _ _ _ _)) (set4x_below (HKK.out.2.setCell (p:=⟨w.heap.size+1+1,0,none⟩) (by show w.heap.size≤w.heap.size+1+1;omega) _) hgS m9 _ _ _ _) (ktw_row (own_farx hown9 hg92 _) HM9.out _ _ _ _) (set4x_boxed (V9.set _) hg92 _ _ _ _) (set4x_boxed (boxed_far (p:=⟨w.heap.size+1+1,0,none⟩) V9b (by show w.heap.size+1≠w.heap.size+1+1;omega) _) hg91 _ _ _ _)
           exact AllReadyIn.nil
          exact AllReadyIn.nil
         refine AllReadyIn.cons rfl (fun K hK=>?_) ?_
         ·go_simp;refine hK _ _ ?_;clear hK K;refine wpAnyIn_ready (rs:=[5]) (by kernel_rfl) (by simp) ?_;refine AllReadyIn.cons rfl (fun K hK=>?_) ?_
          ·go_simp;refine hK _ _ ?_;clear hK K;refine wpAnyIn_ready (rs:=[6]) (by kernel_rfl) (by simp) ?_;refine AllReadyIn.cons rfl (fun K hK=>?_) ?_
           ·go_simp;refine hK _ _ ?_;clear hK K;refine wpAnyIn_done (by kernel_rfl) ?_ _
            gi_wp2
            exact ktw_end HM9.out HND.out HNO9.out hB1 hb (by omega) ((HKK.out.1.trans (KeepsOthers.setCell _ _ _)).trans (set4x_keeps _ g9 m9 _ _ _ _)) (set4x_below (HKK.out.2.setCell (p:=⟨w.heap.size+1+1,0,none⟩) (by show w.heap.size≤w.heap.size+1+1;omega) _) hgS m9 _ _ _ _) (ktw_row (own_farx hown9 hg92 _) HM9.out _ _ _ _) (set4x_boxed (V9.set _) hg92 _ _ _ _) (set4x_boxed (boxed_far (p:=⟨w.heap.size+1+1,0,none⟩) V9b (by show w.heap.size+1≠w.heap.size+1+1;omega) _) hg91 _ _ _ _)
           exact AllReadyIn.nil
          exact AllReadyIn.nil
         exact AllReadyIn.nil
        exact AllReadyIn.nil
       exact AllReadyIn.nil
      refine AllReadyIn.cons rfl (fun K hK=>?_) ?_
      ·go_simp;refine hK _ _ ?_;clear hK K;refine wpAnyIn_ready (rs:=[2]) (by kernel_rfl) (by simp) ?_;refine AllReadyIn.cons rfl (fun K hK=>?_) ?_
       ·go_simp;refine hK _ _ ?_;clear hK K;refine wpAnyIn_ready (rs:=[4]) (by kernel_rfl) (by simp) ?_;refine AllReadyIn.cons rfl (fun K hK=>?_) ?_
        ·refine stepIn_append_lies _ rfl _ _ 42 rfl w.heap.size 44 i0 _ 4 56 Tryz.underlying42 hi hz0 hz1 hz2 rfl (by omega) _ _ _ rfl (by exact hrow2.alloc _) ⟨wr.heap.size,0,none⟩ 1 1 [.int .u8 0,.int .u64 0,.string ⟨#[]⟩,.slice none 0 0] rfl rfl (by exact news4 _ _ _ _ _ _ _ rfl) (fun u hu=>(by simp at hu;rcases hu with rfl | rfl | rfl | rfl<;>rfl)) (by omega) (by unfold maxLen;omega) (by omega) (by simp;omega) _ rfl ?_;intro g9 cap9 w9 hown9 hgr9 hat9 hlt9;have f0:=ktw_far hgr9 B0 HVB.out;obtain⟨y0,y1,y2,y3,yf⟩:=f0.all;have V9:=ktw_box hgr9 V2 hrow2;have z2:=V9.cell;have z2F:=V9.frozen;have c0:=ktw_cell hown9 HM9.out 0 (by omega);have c1':=ktw_cell hown9 HM9.out 1 (by omega);have c2':=ktw_cell hown9 HM9.out 2 (by omega);have c3':=ktw_cell hown9 HM9.out 3 (by omega);have hF9:=ktw_frozen hown9;have hg92:=ktw_ne V9 hown9;have V9b:=ktw_boxb hgr9 G1 hrow2;have hg91:=ktw_neb V9b hown9;have hgS:=ktw_le hown9;have HKK:=Lib.hid (ktw_keeps hrow2 hgr9 hsr2);have hg93:=hg92.symm;simp only[List.getElem?_cons_zero,List.getElem?_cons_succ,Nat.add_zero] at c0 c1' c2' c3'
         try go_simp
         refine hK _ _ ?_;clear hK K;refine wpAnyIn_ready (rs:=[5,7]) (by kernel_rfl) (by simp) ?_;refine AllReadyIn.cons rfl (fun K hK=>?_) ?_
         ·go_simp;refine hK _ _ ?_;clear hK K;refine wpAnyIn_ready (rs:=[6,7]) (by kernel_rfl) (by simp) ?_;refine AllReadyIn.cons rfl (fun K hK=>?_) ?_
          ·go_simp;refine hK _ _ ?_;clear hK K;refine wpAnyIn_ready (rs:=[7]) (by kernel_rfl) (by simp) ?_;refine AllReadyIn.cons rfl (fun K hK=>?_) ?_
           ·go_simp;refine hK _ _ ?_;clear hK K;refine wpAnyIn_done (by kernel_rfl) ?_ _
            gi_wp2
            exact ktw_end HM9.out HND.out HNO9.out hB1 hb (by omega) ((HKK.out.1.trans (set4x_keeps w9 g9 m9 _ _ _ _)).trans (KeepsOthers.setCell _ _ _)) ((set4x_below HKK.out.2 hgS m9 _ _ _ _).setCell (p:=⟨w.heap.size+1+1,0,none⟩) (by show w.heap.size≤w.heap.size+1+1;omega) _) (own_farx (ktw_row hown9 HM9.out _ _ _ _) hg92 _) ((set4x_boxed V9 hg92 _ _ _ _).set _) (boxed_far (p:=⟨w.heap.size+1+1,0,none⟩) (set4x_boxed V9b hg91 _ _ _ _) (by show w.heap.size+1≠w.heap.size+1+1;omega) _)
           exact AllReadyIn.nil
          refine AllReadyIn.cons rfl (fun K hK=>?_) ?_
          ·go_simp;refine hK _ _ ?_;clear hK K;refine wpAnyIn_ready (rs:=[6]) (by kernel_rfl) (by simp) ?_;refine AllReadyIn.cons rfl (fun K hK=>?_) ?_
           ·go_simp;refine hK _ _ ?_;clear hK K;refine wpAnyIn_done (by kernel_rfl) ?_ _
            gi_wp2
            exact ktw_end HM9.out HND.out HNO9.out hB1 hb (by omega) ((HKK.out.1.trans (KeepsOthers.setCell _ _ _)).trans (set4x_keeps _ g9 m9 _ _ _ _)) (set4x_below (HKK.out.2.setCell (p:=⟨w.heap.size+1+1,0,none⟩) (by show w.heap.size≤w.heap.size+1+1;omega) _) hgS m9 _ _ _ _) (ktw_row (own_farx hown9 hg92 _) HM9.out _ _ _ _) (set4x_boxed (V9.set _) hg92 _ _ _ _) (set4x_boxed (boxed_far (p:=⟨w.heap.size+1+1,0,none⟩) V9b (by show w.heap.size+1≠w.heap.size+1+1;omega) _) hg91 _ _ _ _)
           exact AllReadyIn.nil
          exact AllReadyIn.nil
         refine AllReadyIn.cons rfl (fun K hK=>?_) ?_
         ·go_simp;refine hK _ _ ?_;clear hK K;refine wpAnyIn_ready (rs:=[5]) (by kernel_rfl) (by simp) ?_;refine AllReadyIn.cons rfl (fun K hK=>?_) ?_
          ·go_simp;refine hK _ _ ?_;clear hK K;refine wpAnyIn_ready (rs:=[6]) (by kernel_rfl) (by simp) ?_;refine AllReadyIn.cons rfl (fun K hK=>?_) ?_
           ·go_simp;refine hK _ _ ?_;clear hK K;refine wpAnyIn_done (by kernel_rfl) ?_ _
            gi_wp2
            exact ktw_end HM9.out HND.out HNO9.out hB1 hb (by omega) ((HKK.out.1.trans (KeepsOthers.setCell _ _ _)).trans (set4x_keeps _ g9 m9 _ _ _ _)) (set4x_below (HKK.out.2.setCell (p:=⟨w.heap.size+1+1,0,none⟩) (by show w.heap.size≤w.heap.size+1+1;omega) _) hgS m9 _ _ _ _) (ktw_row (own_farx hown9 hg92 _) HM9.out _ _ _ _) (set4x_boxed (V9.set _) hg92 _ _ _ _) (set4x_boxed (boxed_far (p:=⟨w.heap.size+1+1,0,none⟩) V9b (by show w.heap.size+1≠w.heap.size+1+1;omega) _) hg91 _ _ _ _)
           exact AllReadyIn.nil
          exact AllReadyIn.nil
         exact AllReadyIn.nil
        exact AllReadyIn.nil
       exact AllReadyIn.nil
      exact AllReadyIn.nil
     refine AllReadyIn.cons rfl (fun K hK=>?_) ?_
     ·go_simp;refine hK _ _ ?_;clear hK K;refine wpAnyIn_ready (rs:=[0]) (by kernel_rfl) (by simp) ?_;refine AllReadyIn.cons rfl (fun K hK=>?_) ?_
      ·go_simp;refine hK _ _ ?_;clear hK K;refine wpAnyIn_ready (rs:=[2]) (by kernel_rfl) (by simp) ?_;refine AllReadyIn.cons rfl (fun K hK=>?_) ?_
       ·go_simp;refine hK _ _ ?_;clear hK K;refine wpAnyIn_ready (rs:=[4]) (by kernel_rfl) (by simp) ?_;refine AllReadyIn.cons rfl (fun K hK=>?_) ?_
        ·refine stepIn_append_lies _ rfl _ _ 42 rfl w.heap.size 44 i0 _ 4 56 Tryz.underlying42 hi hz0 hz1 hz2 rfl (by omega) _ _ _ rfl (by exact hrow2.alloc _) ⟨wr.heap.size,0,none⟩ 1 1 [.int .u8 0,.int .u64 0,.string ⟨#[]⟩,.slice none 0 0] rfl rfl (by exact news4 _ _ _ _ _ _ _ rfl) (fun u hu=>(by simp at hu;rcases hu with rfl | rfl | rfl | rfl<;>rfl)) (by omega) (by unfold maxLen;omega) (by omega) (by simp;omega) _ rfl ?_;intro g9 cap9 w9 hown9 hgr9 hat9 hlt9;have f0:=ktw_far hgr9 B0 HVB.out;obtain⟨y0,y1,y2,y3,yf⟩:=f0.all;have V9:=ktw_box hgr9 V2 hrow2;have z2:=V9.cell;have z2F:=V9.frozen;have c0:=ktw_cell hown9 HM9.out 0 (by omega);have c1':=ktw_cell hown9 HM9.out 1 (by omega);have c2':=ktw_cell hown9 HM9.out 2 (by omega);have c3':=ktw_cell hown9 HM9.out 3 (by omega);have hF9:=ktw_frozen hown9;have hg92:=ktw_ne V9 hown9;have V9b:=ktw_boxb hgr9 G1 hrow2;have hg91:=ktw_neb V9b hown9;have hgS:=ktw_le hown9;have HKK:=Lib.hid (ktw_keeps hrow2 hgr9 hsr2);have hg93:=hg92.symm;simp only[List.getElem?_cons_zero,List.getElem?_cons_succ,Nat.add_zero] at c0 c1' c2' c3'
         try go_simp
         refine hK _ _ ?_;clear hK K;refine wpAnyIn_ready (rs:=[5,7]) (by kernel_rfl) (by simp) ?_;refine AllReadyIn.cons rfl (fun K hK=>?_) ?_
         ·go_simp;refine hK _ _ ?_;clear hK K;refine wpAnyIn_ready (rs:=[6,7]) (by kernel_rfl) (by simp) ?_;refine AllReadyIn.cons rfl (fun K hK=>?_) ?_
          ·go_simp;refine hK _ _ ?_;clear hK K;refine wpAnyIn_ready (rs:=[7]) (by kernel_rfl) (by simp) ?_;refine AllReadyIn.cons rfl (fun K hK=>?_) ?_
           ·go_simp;refine hK _ _ ?_;clear hK K;refine wpAnyIn_done (by kernel_rfl) ?_ _
            gi_wp2
            exact ktw_end HM9.out HND.out HNO9.out hB1 hb (by omega) ((HKK.out.1.trans (set4x_keeps w9 g9 m9 _ _ _ _)).trans (KeepsOthers.setCell _ _ _)) ((set4x_below HKK.out.2 hgS m9 _ _ _ _).setCell (p:=⟨w.heap.size+1+1,0,none⟩) (by show w.heap.size≤w.heap.size+1+1;omega) _) (own_farx (ktw_row hown9 HM9.out _ _ _ _) hg92 _) ((set4x_boxed V9 hg92 _ _ _ _).set _) (boxed_far (p:=⟨w.heap.size+1+1,0,none⟩) (set4x_boxed V9b hg91 _ _ _ _) (by show w.heap.size+1≠w.heap.size+1+1;omega) _)
           exact AllReadyIn.nil
          refine AllReadyIn.cons rfl (fun K hK=>?_) ?_
          ·go_simp;refine hK _ _ ?_;clear hK K;refine wpAnyIn_ready (rs:=[6]) (by kernel_rfl) (by simp) ?_;refine AllReadyIn.cons rfl (fun K hK=>?_) ?_
           ·go_simp;refine hK _ _ ?_;clear hK K;refine wpAnyIn_done (by kernel_rfl) ?_ _
            gi_wp2
            exact ktw_end HM9.out HND.out HNO9.out hB1 hb (by omega) ((HKK.out.1.trans (KeepsOthers.setCell _ _ _)).trans (set4x_keeps _ g9 m9 _ _ _ _)) (set4x_below (HKK.out.2.setCell (p:=⟨w.heap.size+1+1,0,none⟩) (by show w.heap.size≤w.heap.size+1+1;omega) _) hgS m9 _ _ _ _) (ktw_row (own_farx hown9 hg92 _) HM9.out _ _ _ _) (set4x_boxed (V9.set _) hg92 _ _ _ _) (set4x_boxed (boxed_far (p:=⟨w.heap.size+1+1,0,none⟩) V9b (by show w.heap.size+1≠w.heap.size+1+1;omega) _) hg91 _ _ _ _)
           exact AllReadyIn.nil
          exact AllReadyIn.nil
         refine AllReadyIn.cons rfl (fun K hK=>?_) ?_
         ·go_simp;refine hK _ _ ?_;clear hK K;refine wpAnyIn_ready (rs:=[5]) (by kernel_rfl) (by simp) ?_;refine AllReadyIn.cons rfl (fun K hK=>?_) ?_
          ·go_simp;refine hK _ _ ?_;clear hK K;refine wpAnyIn_ready (rs:=[6]) (by kernel_rfl) (by simp) ?_;refine AllReadyIn.cons rfl (fun K hK=>?_) ?_
           ·go_simp;refine hK _ _ ?_;clear hK K;refine wpAnyIn_done (by kernel_rfl) ?_ _
            gi_wp2
            exact ktw_end HM9.out HND.out HNO9.out hB1 hb (by omega) ((HKK.out.1.trans (KeepsOthers.setCell _ _ _)).trans (set4x_keeps _ g9 m9 _ _ _ _)) (set4x_below (HKK.out.2.setCell (p:=⟨w.heap.size+1+1,0,none⟩) (by show w.heap.size≤w.heap.size+1+1;omega) _) hgS m9 _ _ _ _) (ktw_row (own_farx hown9 hg92 _) HM9.out _ _ _ _) (set4x_boxed (V9.set _) hg92 _ _ _ _) (set4x_boxed (boxed_far (p:=⟨w.heap.size+1+1,0,none⟩) V9b (by show w.heap.size+1≠w.heap.size+1+1;omega) _) hg91 _ _ _ _)
           exact AllReadyIn.nil
          exact AllReadyIn.nil
         exact AllReadyIn.nil
        exact AllReadyIn.nil
       exact AllReadyIn.nil
      exact AllReadyIn.nil
     exact AllReadyIn.nil
    refine AllReadyIn.cons rfl (fun K hK=>?_) ?_
    ·go_simp;refine hK _ _ ?_;clear hK K;refine wpAnyIn_ready (rs:=[0,1]) (by kernel_rfl) (by simp) ?_;refine AllReadyIn.cons rfl (fun K hK=>?_) ?_
     ·go_simp;refine hK _ _ ?_;clear hK K;refine wpAnyIn_ready (rs:=[1,2]) (by kernel_rfl) (by simp) ?_;refine AllReadyIn.cons rfl (fun K hK=>?_) ?_
      ·go_simp;refine hK _ _ ?_;clear hK K;refine wpAnyIn_ready (rs:=[2]) (by kernel_rfl) (by simp) ?_;refine AllReadyIn.cons rfl (fun K hK=>?_) ?_
       ·go_simp;refine hK _ _ ?_;clear hK K;refine wpAnyIn_ready (rs:=[4]) (by kernel_rfl) (by simp) ?_;refine AllReadyIn.cons rfl (fun K hK=>?_) ?_
        ·refine stepIn_append_lies _ rfl _ _ 42 rfl w.heap.size 44 i0 _ 4 56 Tryz.underlying42 hi hz0 hz1 hz2 rfl (by omega) _ _ _ rfl (by exact hrow2.alloc _) ⟨wr.heap.size,0,none⟩ 1 1 [.int .u8 0,.int .u64 0,.string ⟨#[]⟩,.slice none 0 0] rfl rfl (by exact news4 _ _ _ _ _ _ _ rfl) (fun u hu=>(by simp at hu;rcases hu with rfl | rfl | rfl | rfl<;>rfl)) (by omega) (by unfold maxLen;omega) (by omega) (by simp;omega) _ rfl ?_;intro g9 cap9 w9 hown9 hgr9 hat9 hlt9;have f0:=ktw_far hgr9 B0 HVB.out;obtain⟨y0,y1,y2,y3,yf⟩:=f0.all;have V9:=ktw_box hgr9 V2 hrow2;have z2:=V9.cell;have z2F:=V9.frozen;have c0:=ktw_cell hown9 HM9.out 0 (by omega);have c1':=ktw_cell hown9 HM9.out 1 (by omega);have c2':=ktw_cell hown9 HM9.out 2 (by omega);have c3':=ktw_cell hown9 HM9.out 3 (by omega);have hF9:=ktw_frozen hown9;have hg92:=ktw_ne V9 hown9;have V9b:=ktw_boxb hgr9 G1 hrow2;have hg91:=ktw_neb V9b hown9;have hgS:=ktw_le hown9;have HKK:=Lib.hid (ktw_keeps hrow2 hgr9 hsr2);have hg93:=hg92.symm;simp only[List.getElem?_cons_zero,List.getElem?_cons_succ,Nat.add_zero] at c0 c1' c2' c3'
         try go_simp
         refine hK _ _ ?_;clear hK K;refine wpAnyIn_ready (rs:=[5,7]) (by kernel_rfl) (by simp) ?_;refine AllReadyIn.cons rfl (fun K hK=>?_) ?_
         ·go_simp;refine hK _ _ ?_;clear hK K;refine wpAnyIn_ready (rs:=[6,7]) (by kernel_rfl) (by simp) ?_;refine AllReadyIn.cons rfl (fun K hK=>?_) ?_
          ·go_simp;refine hK _ _ ?_;clear hK K;refine wpAnyIn_ready (rs:=[7]) (by kernel_rfl) (by simp) ?_;refine AllReadyIn.cons rfl (fun K hK=>?_) ?_
           ·go_simp;refine hK _ _ ?_;clear hK K;refine wpAnyIn_done (by kernel_rfl) ?_ _
            gi_wp2
            exact ktw_end HM9.out HND.out HNO9.out hB1 hb (by omega) ((HKK.out.1.trans (set4x_keeps w9 g9 m9 _ _ _ _)).trans (KeepsOthers.setCell _ _ _)) ((set4x_below HKK.out.2 hgS m9 _ _ _ _).setCell (p:=⟨w.heap.size+1+1,0,none⟩) (by show w.heap.size≤w.heap.size+1+1;omega) _) (own_farx (ktw_row hown9 HM9.out _ _ _ _) hg92 _) ((set4x_boxed V9 hg92 _ _ _ _).set _) (boxed_far (p:=⟨w.heap.size+1+1,0,none⟩) (set4x_boxed V9b hg91 _ _ _ _) (by show w.heap.size+1≠w.heap.size+1+1;omega) _)
           exact AllReadyIn.nil
          refine AllReadyIn.cons rfl (fun K hK=>?_) ?_
          ·go_simp;refine hK _ _ ?_;clear hK K;refine wpAnyIn_ready (rs:=[6]) (by kernel_rfl) (by simp) ?_;refine AllReadyIn.cons rfl (fun K hK=>?_) ?_
           ·go_simp;refine hK _ _ ?_;clear hK K;refine wpAnyIn_done (by kernel_rfl) ?_ _
            gi_wp2
            exact ktw_end HM9.out HND.out HNO9.out hB1 hb (by omega) ((HKK.out.1.trans (KeepsOthers.setCell _ _ _)).trans (set4x_keeps _ g9 m9 _ _ _ _)) (set4x_below (HKK.out.2.setCell (p:=⟨w.heap.size+1+1,0,none⟩) (by show w.heap.size≤w.heap.size+1+1;omega) _) hgS m9 _ _ _ _) (ktw_row (own_farx hown9 hg92 _) HM9.out _ _ _ _) (set4x_boxed (V9.set _) hg92 _ _ _ _) (set4x_boxed (boxed_far (p:=⟨w.heap.size+1+1,0,none⟩) V9b (by show w.heap.size+1≠w.heap.size+1+1;omega) _) hg91 _ _ _ _)
           exact AllReadyIn.nil
          exact AllReadyIn.nil
         refine AllReadyIn.cons rfl (fun K hK=>?_) ?_
         ·go_simp;refine hK _ _ ?_;clear hK K;refine wpAnyIn_ready (rs:=[5]) (by kernel_rfl) (by simp) ?_;refine AllReadyIn.cons rfl (fun K hK=>?_) ?_
          ·go_simp;refine hK _ _ ?_;clear hK K;refine wpAnyIn_ready (rs:=[6]) (by kernel_rfl) (by simp) ?_;refine AllReadyIn.cons rfl (fun K hK=>?_) ?_
           ·go_simp;refine hK _ _ ?_;clear hK K;refine wpAnyIn_done (by kernel_rfl) ?_ _
            gi_wp2
            exact ktw_end HM9.out HND.out HNO9.out hB1 hb (by omega) ((HKK.out.1.trans (KeepsOthers.setCell _ _ _)).trans (set4x_keeps _ g9 m9 _ _ _ _)) (set4x_below (HKK.out.2.setCell (p:=⟨w.heap.size+1+1,0,none⟩) (by show w.heap.size≤w.heap.size+1+1;omega) _) hgS m9 _ _ _ _) (ktw_row (own_farx hown9 hg92 _) HM9.out _ _ _ _) (set4x_boxed (V9.set _) hg92 _ _ _ _) (set4x_boxed (boxed_far (p:=⟨w.heap.size+1+1,0,none⟩) V9b (by show w.heap.size+1≠w.heap.size+1+1;omega) _) hg91 _ _ _ _)
           exact AllReadyIn.nil
          exact AllReadyIn.nil
         exact AllReadyIn.nil
        exact AllReadyIn.nil
       exact AllReadyIn.nil
      refine AllReadyIn.cons rfl (fun K hK=>?_) ?_
      ·go_simp;refine hK _ _ ?_;clear hK K;refine wpAnyIn_ready (rs:=[1]) (by kernel_rfl) (by simp) ?_;refine AllReadyIn.cons rfl (fun K hK=>?_) ?_
       ·go_simp;refine hK _ _ ?_;clear hK K;refine wpAnyIn_ready (rs:=[4]) (by kernel_rfl) (by simp) ?_;refine AllReadyIn.cons rfl (fun K hK=>?_) ?_
        ·refine stepIn_append_lies _ rfl _ _ 42 rfl w.heap.size 44 i0 _ 4 56 Tryz.underlying42 hi hz0 hz1 hz2 rfl (by omega) _ _ _ rfl (by exact hrow2.alloc _) ⟨wr.heap.size,0,none⟩ 1 1 [.int .u8 0,.int .u64 0,.string ⟨#[]⟩,.slice none 0 0] rfl rfl (by exact news4 _ _ _ _ _ _ _ rfl) (fun u hu=>(by simp at hu;rcases hu with rfl | rfl | rfl | rfl<;>rfl)) (by omega) (by unfold maxLen;omega) (by omega) (by simp;omega) _ rfl ?_;intro g9 cap9 w9 hown9 hgr9 hat9 hlt9;have f0:=ktw_far hgr9 B0 HVB.out;obtain⟨y0,y1,y2,y3,yf⟩:=f0.all;have V9:=ktw_box hgr9 V2 hrow2;have z2:=V9.cell;have z2F:=V9.frozen;have c0:=ktw_cell hown9 HM9.out 0 (by omega);have c1':=ktw_cell hown9 HM9.out 1 (by omega);have c2':=ktw_cell hown9 HM9.out 2 (by omega);have c3':=ktw_cell hown9 HM9.out 3 (by omega);have hF9:=ktw_frozen hown9;have hg92:=ktw_ne V9 hown9;have V9b:=ktw_boxb hgr9 G1 hrow2;have hg91:=ktw_neb V9b hown9;have hgS:=ktw_le hown9;have HKK:=Lib.hid (ktw_keeps hrow2 hgr9 hsr2);have hg93:=hg92.symm;simp only[List.getElem?_cons_zero,List.getElem?_cons_succ,Nat.add_zero] at c0 c1' c2' c3'
         try go_simp
         refine hK _ _ ?_;clear hK K;refine wpAnyIn_ready (rs:=[5,7]) (by kernel_rfl) (by simp) ?_;refine AllReadyIn.cons rfl (fun K hK=>?_) ?_
         ·go_simp;refine hK _ _ ?_;clear hK K;refine wpAnyIn_ready (rs:=[6,7]) (by kernel_rfl) (by simp) ?_;refine AllReadyIn.cons rfl (fun K hK=>?_) ?_
          ·go_simp;refine hK _ _ ?_;clear hK K;refine wpAnyIn_ready (rs:=[7]) (by kernel_rfl) (by simp) ?_;refine AllReadyIn.cons rfl (fun K hK=>?_) ?_
           ·go_simp;refine hK _ _ ?_;clear hK K;refine wpAnyIn_done (by kernel_rfl) ?_ _
            gi_wp2
            exact ktw_end HM9.out HND.out HNO9.out hB1 hb (by omega) ((HKK.out.1.trans (set4x_keeps w9 g9 m9 _ _ _ _)).trans (KeepsOthers.setCell _ _ _)) ((set4x_below HKK.out.2 hgS m9 _ _ _ _).setCell (p:=⟨w.heap.size+1+1,0,none⟩) (by show w.heap.size≤w.heap.size+1+1;omega) _) (own_farx (ktw_row hown9 HM9.out _ _ _ _) hg92 _) ((set4x_boxed V9 hg92 _ _ _ _).set _) (boxed_far (p:=⟨w.heap.size+1+1,0,none⟩) (set4x_boxed V9b hg91 _ _ _ _) (by show w.heap.size+1≠w.heap.size+1+1;omega) _)
           exact AllReadyIn.nil
          refine AllReadyIn.cons rfl (fun K hK=>?_) ?_
          ·go_simp;refine hK _ _ ?_;clear hK K;refine wpAnyIn_ready (rs:=[6]) (by kernel_rfl) (by simp) ?_;refine AllReadyIn.cons rfl (fun K hK=>?_) ?_
           ·go_simp;refine hK _ _ ?_;clear hK K;refine wpAnyIn_done (by kernel_rfl) ?_ _
            gi_wp2
            exact ktw_end HM9.out HND.out HNO9.out hB1 hb (by omega) ((HKK.out.1.trans (KeepsOthers.setCell _ _ _)).trans (set4x_keeps _ g9 m9 _ _ _ _)) (set4x_below (HKK.out.2.setCell (p:=⟨w.heap.size+1+1,0,none⟩) (by show w.heap.size≤w.heap.size+1+1;omega) _) hgS m9 _ _ _ _) (ktw_row (own_farx hown9 hg92 _) HM9.out _ _ _ _) (set4x_boxed (V9.set _) hg92 _ _ _ _) (set4x_boxed (boxed_far (p:=⟨w.heap.size+1+1,0,none⟩) V9b (by show w.heap.size+1≠w.heap.size+1+1;omega) _) hg91 _ _ _ _)
           exact AllReadyIn.nil
          exact AllReadyIn.nil
         refine AllReadyIn.cons rfl (fun K hK=>?_) ?_
         ·go_simp;refine hK _ _ ?_;clear hK K;refine wpAnyIn_ready (rs:=[5]) (by kernel_rfl) (by simp) ?_;refine AllReadyIn.cons rfl (fun K hK=>?_) ?_
          ·go_simp;refine hK _ _ ?_;clear hK K;refine wpAnyIn_ready (rs:=[6]) (by kernel_rfl) (by simp) ?_;refine AllReadyIn.cons rfl (fun K hK=>?_) ?_
           ·go_simp;refine hK _ _ ?_;clear hK K;refine wpAnyIn_done (by kernel_rfl) ?_ _
            gi_wp2
            exact ktw_end HM9.out HND.out HNO9.out hB1 hb (by omega) ((HKK.out.1.trans (KeepsOthers.setCell _ _ _)).trans (set4x_keeps _ g9 m9 _ _ _ _)) (set4x_below (HKK.out.2.setCell (p:=⟨w.heap.size+1+1,0,none⟩) (by show w.heap.size≤w.heap.size+1+1;omega) _) hgS m9 _ _ _ _) (ktw_row (own_farx hown9 hg92 _) HM9.out _ _ _ _) (set4x_boxed (V9.set _) hg92 _ _ _ _) (set4x_boxed (boxed_far (p:=⟨w.heap.size+1+1,0,none⟩) V9b (by show w.heap.size+1≠w.heap.size+1+1;omega) _) hg91 _ _ _ _)
           exact AllReadyIn.nil
          exact AllReadyIn.nil
         exact AllReadyIn.nil
        exact AllReadyIn.nil
       exact AllReadyIn.nil
      exact AllReadyIn.nil
     refine AllReadyIn.cons rfl (fun K hK=>?_) ?_
     ·go_simp;refine hK _ _ ?_;clear hK K;refine wpAnyIn_ready (rs:=[0]) (by kernel_rfl) (by simp) ?_;refine AllReadyIn.cons rfl (fun K hK=>?_) ?_
      ·go_simp;refine hK _ _ ?_;clear hK K;refine wpAnyIn_ready (rs:=[2]) (by kernel_rfl) (by simp) ?_;refine AllReadyIn.cons rfl (fun K hK=>?_) ?_
       ·go_simp;refine hK _ _ ?_;clear hK K;refine wpAnyIn_ready (rs:=[4]) (by kernel_rfl) (by simp) ?_;refine AllReadyIn.cons rfl (fun K hK=>?_) ?_
        ·refine stepIn_append_lies _ rfl _ _ 42 rfl w.heap.size 44 i0 _ 4 56 Tryz.underlying42 hi hz0 hz1 hz2 rfl (by omega) _ _ _ rfl (by exact hrow2.alloc _) ⟨wr.heap.size,0,none⟩ 1 1 [.int .u8 0,.int .u64 0,.string ⟨#[]⟩,.slice none 0 0] rfl rfl (by exact news4 _ _ _ _ _ _ _ rfl) (fun u hu=>(by simp at hu;rcases hu with rfl | rfl | rfl | rfl<;>rfl)) (by omega) (by unfold maxLen;omega) (by omega) (by simp;omega) _ rfl ?_;intro g9 cap9 w9 hown9 hgr9 hat9 hlt9;have f0:=ktw_far hgr9 B0 HVB.out;obtain⟨y0,y1,y2,y3,yf⟩:=f0.all;have V9:=ktw_box hgr9 V2 hrow2;have z2:=V9.cell;have z2F:=V9.frozen;have c0:=ktw_cell hown9 HM9.out 0 (by omega);have c1':=ktw_cell hown9 HM9.out 1 (by omega);have c2':=ktw_cell hown9 HM9.out 2 (by omega);have c3':=ktw_cell hown9 HM9.out 3 (by omega);have hF9:=ktw_frozen hown9;have hg92:=ktw_ne V9 hown9;have V9b:=ktw_boxb hgr9 G1 hrow2;have hg91:=ktw_neb V9b hown9;have hgS:=ktw_le hown9;have HKK:=Lib.hid (ktw_keeps hrow2 hgr9 hsr2);have hg93:=hg92.symm;simp only[List.getElem?_cons_zero,List.getElem?_cons_succ,Nat.add_zero] at c0 c1' c2' c3'
         try go_simp
         refine hK _ _ ?_;clear hK K;refine wpAnyIn_ready (rs:=[5,7]) (by kernel_rfl) (by simp) ?_;refine AllReadyIn.cons rfl (fun K hK=>?_) ?_
         ·go_simp;refine hK _ _ ?_;clear hK K;refine wpAnyIn_ready (rs:=[6,7]) (by kernel_rfl) (by simp) ?_;refine AllReadyIn.cons rfl (fun K hK=>?_) ?_
          ·go_simp;refine hK _ _ ?_;clear hK K;refine wpAnyIn_ready (rs:=[7]) (by kernel_rfl) (by simp) ?_;refine AllReadyIn.cons rfl (fun K hK=>?_) ?_
           ·go_simp;refine hK _ _ ?_;clear hK K;refine wpAnyIn_done (by kernel_rfl) ?_ _
            gi_wp2
            exact ktw_end HM9.out HND.out HNO9.out hB1 hb (by omega) ((HKK.out.1.trans (set4x_keeps w9 g9 m9 _ _ _ _)).trans (KeepsOthers.setCell _ _ _)) ((set4x_below HKK.out.2 hgS m9 _ _ _ _).setCell (p:=⟨w.heap.size+1+1,0,none⟩) (by show w.heap.size≤w.heap.size+1+1;omega) _) (own_farx (ktw_row hown9 HM9.out _ _ _ _) hg92 _) ((set4x_boxed V9 hg92 _ _ _ _).set _) (boxed_far (p:=⟨w.heap.size+1+1,0,none⟩) (set4x_boxed V9b hg91 _ _ _ _) (by show w.heap.size+1≠w.heap.size+1+1;omega) _)
           exact AllReadyIn.nil
          refine AllReadyIn.cons rfl (fun K hK=>?_) ?_
          ·go_simp;refine hK _ _ ?_;clear hK K;refine wpAnyIn_ready (rs:=[6]) (by kernel_rfl) (by simp) ?_;refine AllReadyIn.cons rfl (fun K hK=>?_) ?_
           ·go_simp;refine hK _ _ ?_;clear hK K;refine wpAnyIn_done (by kernel_rfl) ?_ _
            gi_wp2
            exact ktw_end HM9.out HND.out HNO9.out hB1 hb (by omega) ((HKK.out.1.trans (KeepsOthers.setCell _ _ _)).trans (set4x_keeps _ g9 m9 _ _ _ _)) (set4x_below (HKK.out.2.setCell (p:=⟨w.heap.size+1+1,0,none⟩) (by show w.heap.size≤w.heap.size+1+1;omega) _) hgS m9 _ _ _ _) (ktw_row (own_farx hown9 hg92 _) HM9.out _ _ _ _) (set4x_boxed (V9.set _) hg92 _ _ _ _) (set4x_boxed (boxed_far (p:=⟨w.heap.size+1+1,0,none⟩) V9b (by show w.heap.size+1≠w.heap.size+1+1;omega) _) hg91 _ _ _ _)
           exact AllReadyIn.nil
          exact AllReadyIn.nil
         refine AllReadyIn.cons rfl (fun K hK=>?_) ?_
         ·go_simp;refine hK _ _ ?_;clear hK K;refine wpAnyIn_ready (rs:=[5]) (by kernel_rfl) (by simp) ?_;refine AllReadyIn.cons rfl (fun K hK=>?_) ?_
          ·go_simp;refine hK _ _ ?_;clear hK K;refine wpAnyIn_ready (rs:=[6]) (by kernel_rfl) (by simp) ?_;refine AllReadyIn.cons rfl (fun K hK=>?_) ?_
           ·go_simp;refine hK _ _ ?_;clear hK K;refine wpAnyIn_done (by kernel_rfl) ?_ _
            gi_wp2
            exact ktw_end HM9.out HND.out HNO9.out hB1 hb (by omega) ((HKK.out.1.trans (KeepsOthers.setCell _ _ _)).trans (set4x_keeps _ g9 m9 _ _ _ _)) (set4x_below (HKK.out.2.setCell (p:=⟨w.heap.size+1+1,0,none⟩) (by show w.heap.size≤w.heap.size+1+1;omega) _) hgS m9 _ _ _ _) (ktw_row (own_farx hown9 hg92 _) HM9.out _ _ _ _) (set4x_boxed (V9.set _) hg92 _ _ _ _) (set4x_boxed (boxed_far (p:=⟨w.heap.size+1+1,0,none⟩) V9b (by show w.heap.size+1≠w.heap.size+1+1;omega) _) hg91 _ _ _ _)
           exact AllReadyIn.nil
          exact AllReadyIn.nil
         exact AllReadyIn.nil
        exact AllReadyIn.nil
       exact AllReadyIn.nil
      exact AllReadyIn.nil
     exact AllReadyIn.nil
    exact AllReadyIn.nil
 case done=>
  rintro D zs W hD hz ⟨⟨⟨v,hv,hrow,_⟩,hbo⟩,hnd,hB1⟩ hK;have i0:=hbo.cell;have iF:=hbo.frozen;have HND:=Lib.hid hnd;clear hnd
  gi_wp2
  have hK':=(KeepsOthers.setCell W ⟨w.heap.size+1,0,none⟩ (.bool false)).same D _ hK rfl;refine⟨by simp,.inl ⟨_,_,rfl,run_takeDeferred hK',?_⟩⟩;have hc5:=cell_kept (hbo.set (.bool false)).cell (grownBy_putObj' _ D (.deferred none)) (fun r e=>by cases e;exact⟨_,hK',rfl⟩);refine⟨.bool false,by simp[results,Tryz.f128,go_sem,hc5],?_,((bb.trans hB1).setCell (p:=⟨w.heap.size+1,0,none⟩) (by show w.heap.size≤w.heap.size+1;omega) _).trans (belowK_b (w:=w) (Nat.le_refl _) _ D _ _ (by omega) hK' rfl rfl)⟩;have:noDup (keysL ks)=true:=by rw[keysL,←hz];exact HND.out
  rw[this];rfl
 case stop=>
  rintro D d pre W hD hpre ⟨⟨⟨rfl,hnd⟩,hbo⟩,hB1⟩ hK;have HND:=Lib.hid hnd;clear hnd
  gi_wp2
  refine⟨by simp,.inl ⟨_,_,rfl,run_takeDeferred hK,?_⟩⟩;have hc5:=cell_kept hbo.cell (grownBy_putObj' _ D (.deferred none)) (fun r e=>by cases e;exact⟨_,hK,rfl⟩);refine⟨.bool true,by simp[results,Tryz.f128,go_sem,hc5],?_,(bb.trans hB1).trans (belowK_b (w:=w) (Nat.le_refl _) W D _ _ (by omega) hK rfl rfl)⟩;have:noDup (keysL ks)=false:=by
   obtain⟨r,hr⟩:=hpre;rw[keysL,←hr,List.map_append];exact noDup_pre HND.out
  rw[this];rfl
end Go.Proofs.YtcilmmdmkpnppaaGreatDoor.Val
