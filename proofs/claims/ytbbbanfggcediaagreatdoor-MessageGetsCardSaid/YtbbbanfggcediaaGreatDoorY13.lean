/- Contracts, each with its premises. -/
import Derived.Test.YtbbbanfggcediaaGreatDoorY11
import Derived.Lib.AppendStr
set_option maxRecDepth 100000
set_option maxHeartbeats 8000000
namespace Go.Proofs.YtbbbanfggcediaaGreatDoor
open _root_.Go.Proofs.Tryz
open Nat renaming le_trans→ybJ
open List renaming length_append→ybH,length_cons→ybI,take_of_length_le→ybK,mem_append→ybL,append_assoc→ybM
namespace Enc
open Go.RowKit Utf Val
def KB (w w':World):Prop:=∀ g x0 x1 x2 x3 x4 x5 x6 x7 x8,Bx w g x0 x1 x2 x3 x4 x5 x6 x7 x8→Bx w' g x0 x1 x2 x3 x4 x5 x6 x7 x8
theorem KB.refl (w:World):KB w w:=fun _ _ _ _ _ _ _ _ _ _ h=>h
theorem KB.trans {w w1 w2:World}(h:KB w w1)(h':KB w1 w2):KB w w2:=fun _ _ _ _ _ _ _ _ _ _ hb=>h' _ _ _ _ _ _ _ _ _ _ (h _ _ _ _ _ _ _ _ _ _ hb)
theorem KB.below {w w':World}(h:Below w.heap.size w w'):KB w w':=fun _ _ _ _ _ _ _ _ _ _ hb=>hb.call h
theorem KB.alloc {w w1:World}(h:KB w w1)(o:Obj):KB w (w1.alloc o):=h.trans (KB.below ((za _ _)))
theorem KB.grown {w w':World}{base n c:Nat}{A:Oz}{l:Lz}(h:Own .u8 256 5 w base A n c l)(hg:w.grownBy w' (Value.slice A n c).ownBlock):KB w w':=by
 intro g x0 x1 x2 x3 x4 x5 x6 x7 x8 hb;refine(hg.block g hb.lt fun e=>?_).trans hb;rcases h.2.1.2 with ⟨e1,_⟩ | ⟨g',cap,cur,e1,_,vW,_⟩
 ·rw[e1] at e;cases e
 ·rw[e1] at e;have e2:g=g':=by simpa [Value.ownBlock] using e
  subst e2;unfold Bx at hb;rw[hb] at vW;simp at vW
theorem Bx.kb {w w':World}{g:Nat}{x0 x1 x2 x3 x4 x5 x6 x7 x8:Value}(h:Bx w g x0 x1 x2 x3 x4 x5 x6 x7 x8)(hk:KB w w'):Bx w' g x0 x1 x2 x3 x4 x5 x6 x7 x8:=hk _ _ _ _ _ _ _ _ _ _ h
theorem KB.drew (w:World):KB w w.drew:=fun _ _ _ _ _ _ _ _ _ _ h=>h
theorem zkG (w:World)(z:Value)(T:TypeId)(g:Nat)(hg:g=w.heap.size):∀ j u,[z][j]? = some u→(w.alloc (.cells #[z] T)).cell? (Addr.add ⟨g,0,none⟩ j)=some u:=by
 subst hg;intro j u hj
 match j,hj with
 | 0,hj=>
  simp at hj;subst hj;simp[Addr.add]
 | j+1,hj=>simp at hj
def za6 (base:Nat)(l:Lz)(w:World)(e:Ending)(w':World):Prop:=∃ A n c,e=.returned (.slice A n c)∧Own .u8 256 5 w' base A n c l∧Below base w w'∧KB w w'
theorem za6.mk {base n c:Nat}{A:Oz}{l l':Lz}{w w':World}{e:Ending}(he:e=.returned (.slice A n c))(hl:l'=l)(ho:Own .u8 256 5 w' base A n c l')(hb:Below base w w')(hk:KB w w'):za6 base l w e w':=by
 subst hl;exact⟨A,n,c,he,ho,hb,hk⟩
theorem zt0 (t:ByteArray):vs .u8 (tb t)=Lib.strCells t:=by simp[vs,tb,Lib.strCells,Function.comp_def]
theorem zkH:(prog.info? 5).map (fun i=>(i.zero,i.size,i.bytes))=some (some (.int .u8 0),1,1):=by kernel_rfl
theorem zgz {P:Program}{Q:Value→Prop}{w:World}(t u ty e:TypeId)(i:TypeInfo)(ht:P.underlying t=some (.slice e))(hu:P.underlying u=some .string)(hi:P.info? e=some i)(hz:i.zero=some (.int .u8 0))
  (gX:i.size=1) (KO:i.bytes=1) (YB:Q (.int .u8 0)) (base:Nat) (v:Value) (n:Nat) (xs:List Value) (Hf:w.ownsRow base e 1 v n xs) (hT:Typ Q w v) (s:ByteArray) (hq:∀ u∈Lib.strCells s,Q u)
  (Qw:n+s.size≤maxLen) (Gt:n+s.size≤140737488355328) {v':Value} {w':World} (gw:(Builtin.append_ #[t,u] ty #[v,.string s]).run P w=.ok v' w'):Typ Q w' v':=by
 have yI:n+s.size≤9223372036854775807:=by simp only[maxLen] at Qw;omega
 have yP:xs.length=n:=by simpa using Hf.1
 have e1:(s.data.map fun b=>Value.int .u8 b.toNat)=(Lib.strCells s).toArray:=by
  apply Array.ext'
  simp[Lib.strCells]
 rcases Hf.2 with ⟨rfl,rfl⟩ | ⟨g,cap,cur,rfl,_,hg,kz,_,jl,K9⟩
 ·by_cases hm:s.size=0
  ·have hf:=Lib.run_firstCells_string (P:=P) w 1 s;rw[hm] at hf;have hr:(Builtin.append_ #[t,u] ty #[.slice none 0 0,.string s]).run P w=.ok (.slice none 0 0) w:=by simp[Builtin.append_,run_underlying ht,run_underlying hu,sizeOf,typeInfo,hi,gX,Builtin.lenOf,hm,hf]
   rw[hr] at gw;injection gw with e1 e2
   subst e1;exact Typ.nil _ _ _ _
  ·have hr:=run_append_nil_string (P:=P) w t u ty e i (.int .u8 0) ht hu hi hz s (by omega) (by omega) (by rw[KO];omega);rw[hr,e1] at gw;injection gw with e1 e2
   subst e1 e2;refine Typ.new w.drew _ _ _ _ fun u hu=>?_;rw[Array.toList_append,ybL] at hu;rcases hu with hu | hu
   ·exact hq u (by simpa using hu)
   ·exact zdA rfl YB _ u hu
 ·have xU:∀ u∈cur.toList,Q u:=hT g rfl cur e (0,0) hg;have bJ:∀ u∈xs,Q u:=fun u hu=>xU u (List.mem_of_mem_take (by rw[K9];exact hu));by_cases qz:n+s.size≤cap
  ·have hcs':cur.size=cap:=by simpa using jl
   have hr:=Lib.run_append_room_string (P:=P) w t u ty e i ht hu hi gX g n cap cur hg s qz (by omega);rw[hr] at gw;injection gw with e1 e2
   subst e1 e2;intro g' vW cur' e' fz hc u hu;have:g=g':=by simpa [Value.ownBlock] using vW
   subst this;rw[setRow_heap w g cur _ e _ hg] at hc;injection hc with hc
   injection hc with hc _ _
   subst hc;simp only[ybL] at hu;rcases hu with (hu | hu) | hu
   ·exact xU u (List.mem_of_mem_take hu)
   ·exact hq u hu
   ·exact xU u (List.mem_of_mem_drop hu)
  ·have holds:∀ j u,xs[j]? = some u→w.cell? ((⟨g,0,none⟩:Addr).add j)=some u:=Hf.cells (g:=g) rfl;have hr:=Lib.run_append_grow_string (P:=P) w t u ty e i (.int .u8 0) ht hu hi hz ⟨g,0,none⟩ n cap xs (by rw[gX];simpa using yP) holds s (by omega) (by omega) (by rw[KO];exact growslice_fits (by omega) (by omega));rw[hr] at gw;injection gw with e1 e2
   subst e1 e2;refine Typ.new w.drew _ _ _ _ fun u hu=>?_;rw[Array.toList_append,Array.toList_append,ybL,ybL] at hu;rcases hu with (hu | hu) | hu
   ·exact bJ u (by simpa using hu)
   ·exact hq u (by simpa using hu)
   ·exact zdA rfl YB _ u hu
theorem zbC {w:World}{ops:Array Oper}{rest:List Oper}{o:Oper}{a:Act}{Q:Exit→Act→World→Prop}(jE:o.guard=none)(s x:Operand)
  (ho:o.op=.call { callee:=.builtin .append,args:=#[s,x],argTypes:=#[22,9] })
  {base n c:Nat} {A:Oz} {L:Lz} (hs:a.eval s=.slice A n c) (Hf:Own .u8 256 5 w base A n c L)
  {t:ByteArray} (hx:a.eval x=.string t) (Hu:n+t.size≤17592186044416) (Hy:base≤w.heap.size)
  (h:∀ A2 c2 w',Own .u8 256 5 w' base A2 (n+t.size) c2 (L++tb t)→w.grownBy w' (Value.slice A n c).ownBlock→wpList prog ops Q rest (a.put o.dst (.slice A2 (n+t.size) c2)) w') :
  wpList prog ops Q (o::rest) a w:=by
 obtain⟨i0,hi,gE,Hn,gb⟩:=info_parts zkH;have hbound:∀ y∈L++tb t,y < 256:=fun y hy=>by
  rcases List.mem_append.1 hy with h | h
  ·exact Hf.1 y h
  ·exact znc t y h
 refine wpList_plain jE fun K hK=>?_;obtain⟨v',w',gw,h2,h3,_⟩:=Lib.run_append_own_string (P:=prog) w base 22 9 o.type 5 i0 underlying22 underlying9 hi gE Hn gb (.slice A n c) n (vs .u8 L) Hf.2.1 t (by unfold maxLen;omega) (by omega) Hy;have h6:=zgz (P:=prog) (Q:=Nb .u8 256) 22 9 o.type 5 i0 underlying22 underlying9 hi gE Hn gb ⟨0,by omega,rfl⟩ base (.slice A n c) n (vs .u8 L) Hf.2.1 Hf.2.2 t (by rw[←zt0];exact zmn (znc t)) (by unfold maxLen;omega) (by omega) gw;rw[←zt0,←zea] at h2;obtain⟨A2,c2,rfl,Gh⟩:=zgF hbound h2 h6;unfold Oper.wp execOp;simp only[ho,resolve,invoke,builtin,Sem.run_bind,Sem.run_pure,Result.andThen_ok,List.map_toArray,List.map_cons,List.map_nil,hs,hx,gw];exact hK _ _ (h A2 c2 w' Gh h3)
theorem zdJ (base:Nat)(A:Oz)(n c:Nat)(l:Lz)(X k:Nat)(hk:k≤8)(w:World)(Hf:Own .u8 256 5 w base A n c l)(Hy:base≤w.heap.size)(hn:n≤1099511627776) :
  Calls prog 127 #[.slice A n c,.int .u64 X,.int .i64 k] w (za6 base (l++be X k) w):=by
 go_enter func127,ntmps127;go_wp2_with (first
  | (go_at_call 150;refine(zrE X k hk _).mono ?_;rintro e w1 ⟨A1,n1,c1,rfl,Ga,Ha⟩;have jv:=Ga.len;have v7:=Hf.below Ha;have gu:=Ha.size;rw[zaF] at jv)
  | (at_builtin;refine zcd (l:=be X k) (L:=l) rfl _ _ rfl rfl v7 rfl Ga.rd (by omega) (by omega) ?_;intro A2 c2 w2 GB Gu))
 go_ret;exact za6.mk rfl rfl GB ((Ha.mono Hy).trans (zau v7 Gu (by omega))) ((KB.below Ha).trans (KB.grown v7 Gu))
def Lo (base:Nat):Nat→Prop:=fun i=>i < base
theorem ziO {w w':World}{base:Nat}{l:List Pl}{A:Oz}{n c:Nat}(h:Ps w (Lo base) l A n c)(hb:Below base w w'):Ps w' (Lo base) l A n c:=h.keep fun i hi=>hb.block i hi
def LayC (N:Nat):Prop:=∀ (ns ks:List Pl) (NA:Oz) (nl nc k n:Nat) (t:ByteArray) (VA:Oz) (vl vc code:Nat) (bb:Bool) (KA:Oz) (kl kc re im:Nat) (base:Nat) (A:Oz) (m c:Nat) (l:Lz) (w:World),rank (.mk ns k n t code bb ks re im)≤N→Fine 1099511627776 (.mk ns k n t code bb ks re im)→Ps w (Lo base) ns NA nl nc→Ps w (Lo base) ks KA kl kc →
 Own .u8 256 5 w base A m c l→base≤w.heap.size→m+(lay (.mk ns k n t code bb ks re im)).length≤1099511627776→Calls prog 54 #[.agg #[.slice NA nl nc,.int .u8 (k:Int),.int .u64 (n:Int),.string t,.slice VA vl vc,.int .u8 (code:Int),.bool bb,.slice KA kl kc,.complex .f64 (fb re) (fb im)],.slice A m c] w (za6 base (l++lay (.mk ns k n t code bb ks re im)) w)
theorem zsq (NA:Oz)(nl nc k n:Nat)(t:ByteArray)(VA:Oz)(vl vc code:Nat)(bb:Bool)(KA:Oz)(kl kc re im:Nat)(W base:Nat)(A:Oz)(m c:Nat)(l:Lz)(w:World)(HW:∀ wx:World,Calls prog 126 #[.int .u8 (code:Int)] wx fun e w'=>e=.returned (.int .i64 (W:Nat))∧w'=wx)(Hf:Own .u8 256 5 w base A m c l)(Hy:base≤w.heap.size)(hW:W=0) :
  Calls prog 98 #[.agg #[.slice NA nl nc,.int .u8 (k:Int),.int .u64 (n:Int),.string t,.slice VA vl vc,.int .u8 (code:Int),.bool bb,.slice KA kl kc,.complex .f64 (fb re) (fb im)],.slice A m c] w (za6 base (l++([])) w):=by
 have Hz:=Bx.new w (.slice NA nl nc) (.int .u8 (k:Int)) (.int .u64 (n:Int)) (.string t) (.slice VA vl vc) (.int .u8 (code:Int)) (.bool bb) (.slice KA kl kc) (.complex .f64 (fb re) (fb im));have hB:Below base w (w.alloc (.cells #[.slice NA nl nc,.int .u8 (k:Int),.int .u64 (n:Int),.string t,.slice VA vl vc,.int .u8 (code:Int),.bool bb,.slice KA kl kc,.complex .f64 (fb re) (fb im)] 88)):=(Below.refl _ _).alloc Hy _;have qn:KB w (w.alloc (.cells #[.slice NA nl nc,.int .u8 (k:Int),.int .u64 (n:Int),.string t,.slice VA vl vc,.int .u8 (code:Int),.bool bb,.slice KA kl kc,.complex .f64 (fb re) (fb im)] 88)):=(KB.refl _).alloc _;have Ga:=Hf.alloc (.cells #[.slice NA nl nc,.int .u8 (k:Int),.int .u64 (n:Int),.string t,.slice VA vl vc,.int .u8 (code:Int),.bool bb,.slice KA kl kc,.complex .f64 (fb re) (fb im)] 88);have QF:=Hf.len;have kN:base≤(w.alloc (.cells #[.slice NA nl nc,.int .u8 (k:Int),.int .u64 (n:Int),.string t,.slice VA vl vc,.int .u8 (code:Int),.bool bb,.slice KA kl kc,.complex .f64 (fb re) (fb im)] 88)).heap.size:=by simp;omega
 have vY:=zbm;have HX:=zaa Hz;clear Hz;clear HX;subst hW;rw[List.append_nil];go_enter func98,ntmps98;go_wp2_with (go_at_call 126;refine(HW _).mono ?_;rintro e w1 ⟨rfl,rfl⟩);go_ret;exact za6.mk rfl rfl Ga hB qn
theorem zt1 (NA:Oz)(nl nc k n:Nat)(t:ByteArray)(VA:Oz)(vl vc code:Nat)(bb:Bool)(KA:Oz)(kl kc re im:Nat)(W base:Nat)(A:Oz)(m c:Nat)(l:Lz)(w:World)(HW:∀ wx:World,Calls prog 126 #[.int .u8 (code:Int)] wx fun e w'=>e=.returned (.int .i64 (W:Nat))∧w'=wx)(Hf:Own .u8 256 5 w base A m c l)(Hy:base≤w.heap.size)(hW:0 < W∧W≤8)(hk:k < 15)(hm:m≤1099511627776) :
  Calls prog 98 #[.agg #[.slice NA nl nc,.int .u8 (k:Int),.int .u64 (n:Int),.string t,.slice VA vl vc,.int .u8 (code:Int),.bool bb,.slice KA kl kc,.complex .f64 (fb re) (fb im)],.slice A m c] w (za6 base (l++(be n W)) w):=by
 have Hz:=Bx.new w (.slice NA nl nc) (.int .u8 (k:Int)) (.int .u64 (n:Int)) (.string t) (.slice VA vl vc) (.int .u8 (code:Int)) (.bool bb) (.slice KA kl kc) (.complex .f64 (fb re) (fb im));have hB:Below base w (w.alloc (.cells #[.slice NA nl nc,.int .u8 (k:Int),.int .u64 (n:Int),.string t,.slice VA vl vc,.int .u8 (code:Int),.bool bb,.slice KA kl kc,.complex .f64 (fb re) (fb im)] 88)):=(Below.refl _ _).alloc Hy _;have qn:KB w (w.alloc (.cells #[.slice NA nl nc,.int .u8 (k:Int),.int .u64 (n:Int),.string t,.slice VA vl vc,.int .u8 (code:Int),.bool bb,.slice KA kl kc,.complex .f64 (fb re) (fb im)] 88)):=(KB.refl _).alloc _;have Ga:=Hf.alloc (.cells #[.slice NA nl nc,.int .u8 (k:Int),.int .u64 (n:Int),.string t,.slice VA vl vc,.int .u8 (code:Int),.bool bb,.slice KA kl kc,.complex .f64 (fb re) (fb im)] 88);have QF:=Hf.len;have kN:base≤(w.alloc (.cells #[.slice NA nl nc,.int .u8 (k:Int),.int .u64 (n:Int),.string t,.slice VA vl vc,.int .u8 (code:Int),.bool bb,.slice KA kl kc,.complex .f64 (fb re) (fb im)] 88)).heap.size:=by simp;omega
 have vY:=zbm;have HX:=zaa Hz;clear Hz;clear HX;obtain⟨h0,h8⟩:=hW;have d0:((W:Int)==0)=false:=by rw[zac];omega
 have d1:decide ((k:Int) < 15)=true:=by simp;omega
 clear hk h0;go_enter func98,ntmps98;go_wp2_with (first
  | (go_at_call 126;refine(HW _).mono ?_;rintro e w1 ⟨rfl,rfl⟩)
  | (go_at_call 127;refine(zdJ base A m c l n W h8 _ Ga kN (by omega)).mono ?_;rintro e w2 ⟨A2,n2,c2,rfl,Gh,He,gR⟩))
 go_ret;exact za6.mk rfl rfl Gh (hB.trans He) (qn.trans gR)
theorem zsr (NA:Oz)(nl nc k n:Nat)(t:ByteArray)(VA:Oz)(vl vc code:Nat)(bb:Bool)(KA:Oz)(kl kc re im:Nat)(W base:Nat)(A:Oz)(m c:Nat)(l:Lz)(w:World)(HW:∀ wx:World,Calls prog 126 #[.int .u8 (code:Int)] wx fun e w'=>e=.returned (.int .i64 (W:Nat))∧w'=wx)(Hf:Own .u8 256 5 w base A m c l)(Hy:base≤w.heap.size)(hW:0 < W)(hk:15≤k∧k < 19)(hm:m+t.size≤1099511627776) :
  Calls prog 98 #[.agg #[.slice NA nl nc,.int .u8 (k:Int),.int .u64 (n:Int),.string t,.slice VA vl vc,.int .u8 (code:Int),.bool bb,.slice KA kl kc,.complex .f64 (fb re) (fb im)],.slice A m c] w (za6 base (l++(tb t)) w):=by
 have Hz:=Bx.new w (.slice NA nl nc) (.int .u8 (k:Int)) (.int .u64 (n:Int)) (.string t) (.slice VA vl vc) (.int .u8 (code:Int)) (.bool bb) (.slice KA kl kc) (.complex .f64 (fb re) (fb im));have hB:Below base w (w.alloc (.cells #[.slice NA nl nc,.int .u8 (k:Int),.int .u64 (n:Int),.string t,.slice VA vl vc,.int .u8 (code:Int),.bool bb,.slice KA kl kc,.complex .f64 (fb re) (fb im)] 88)):=(Below.refl _ _).alloc Hy _;have qn:KB w (w.alloc (.cells #[.slice NA nl nc,.int .u8 (k:Int),.int .u64 (n:Int),.string t,.slice VA vl vc,.int .u8 (code:Int),.bool bb,.slice KA kl kc,.complex .f64 (fb re) (fb im)] 88)):=(KB.refl _).alloc _;have Ga:=Hf.alloc (.cells #[.slice NA nl nc,.int .u8 (k:Int),.int .u64 (n:Int),.string t,.slice VA vl vc,.int .u8 (code:Int),.bool bb,.slice KA kl kc,.complex .f64 (fb re) (fb im)] 88);have QF:=Hf.len;have kN:base≤(w.alloc (.cells #[.slice NA nl nc,.int .u8 (k:Int),.int .u64 (n:Int),.string t,.slice VA vl vc,.int .u8 (code:Int),.bool bb,.slice KA kl kc,.complex .f64 (fb re) (fb im)] 88)).heap.size:=by simp;omega
 have vY:=zbm;have HX:=zaa Hz;clear Hz;clear HX;have d0:((W:Int)==0)=false:=by rw[zac];omega
 have d1:decide ((k:Int) < 15)=false:=by simp;omega
 have d2:decide ((k:Int) < 19)=true:=by simp;omega
 clear hk hW;go_enter func98,ntmps98;go_wp2_with (first
  | (go_at_call 126;refine(HW _).mono ?_;rintro e w1 ⟨rfl,rfl⟩)
  | (at_builtin;refine zbC rfl _ _ rfl rfl Ga rfl (by omega) kN ?_;intro A2 c2 w2 GB Gu))
 go_ret;exact za6.mk rfl rfl GB (hB.trans (zau Ga Gu kN)) (qn.trans (KB.grown Ga Gu))
theorem zss (NA:Oz)(nl nc k n:Nat)(t:ByteArray)(VA:Oz)(vl vc code:Nat)(bb:Bool)(KA:Oz)(kl kc re im:Nat)(W base:Nat)(A:Oz)(m c:Nat)(l:Lz)(w:World)(HW:∀ wx:World,Calls prog 126 #[.int .u8 (code:Int)] wx fun e w'=>e=.returned (.int .i64 (W:Nat))∧w'=wx)(Hf:Own .u8 256 5 w base A m c l)(Hy:base≤w.heap.size)(hW:0 < W∧W≤8)(hk:19≤k∧k≤21)(hm:m+W+t.size≤1099511627776) :
  Calls prog 98 #[.agg #[.slice NA nl nc,.int .u8 (k:Int),.int .u64 (n:Int),.string t,.slice VA vl vc,.int .u8 (code:Int),.bool bb,.slice KA kl kc,.complex .f64 (fb re) (fb im)],.slice A m c] w (za6 base (l++(be t.size W++tb t)) w):=by
 have Hz:=Bx.new w (.slice NA nl nc) (.int .u8 (k:Int)) (.int .u64 (n:Int)) (.string t) (.slice VA vl vc) (.int .u8 (code:Int)) (.bool bb) (.slice KA kl kc) (.complex .f64 (fb re) (fb im));have hB:Below base w (w.alloc (.cells #[.slice NA nl nc,.int .u8 (k:Int),.int .u64 (n:Int),.string t,.slice VA vl vc,.int .u8 (code:Int),.bool bb,.slice KA kl kc,.complex .f64 (fb re) (fb im)] 88)):=(Below.refl _ _).alloc Hy _;have qn:KB w (w.alloc (.cells #[.slice NA nl nc,.int .u8 (k:Int),.int .u64 (n:Int),.string t,.slice VA vl vc,.int .u8 (code:Int),.bool bb,.slice KA kl kc,.complex .f64 (fb re) (fb im)] 88)):=(KB.refl _).alloc _;have Ga:=Hf.alloc (.cells #[.slice NA nl nc,.int .u8 (k:Int),.int .u64 (n:Int),.string t,.slice VA vl vc,.int .u8 (code:Int),.bool bb,.slice KA kl kc,.complex .f64 (fb re) (fb im)] 88);have QF:=Hf.len;have kN:base≤(w.alloc (.cells #[.slice NA nl nc,.int .u8 (k:Int),.int .u64 (n:Int),.string t,.slice VA vl vc,.int .u8 (code:Int),.bool bb,.slice KA kl kc,.complex .f64 (fb re) (fb im)] 88)).heap.size:=by simp;omega
 have vY:=zbm;have HX:=zaa Hz;clear Hz;obtain⟨h0,h8⟩:=hW;have d0:((W:Int)==0)=false:=by rw[zac];omega
 have d1:decide ((k:Int) < 15)=false:=by simp;omega
 have d2:decide ((k:Int) < 19)=false:=by simp;omega
 have d3:decide ((k:Int)≤21)=true:=by simp;omega
 clear hk h0;go_enter func98,ntmps98;go_wp2_with (first
  | (go_at_call 126;refine(HW _).mono ?_;rintro e w1 ⟨rfl,rfl⟩)
  | (go_at_call 127;refine(zdJ base A m c l t.size W h8 _ Ga kN (by omega)).mono ?_;rintro e w2 ⟨A2,n2,c2,rfl,Gh,He,gR⟩;obtain⟨c0,c1,c2',c3,c4,c5,c6,c7,c8,cf⟩:=(HX.out.kb gR).all;have Gw:=ybJ kN He.size;have JC:=Gh.len;rw[ybH,zaF] at JC)
  | (at_builtin;refine zbC rfl _ _ rfl rfl Gh rfl (by omega) Gw ?_;intro A3 c3' w3 Gi GH))
 go_ret;exact za6.mk rfl (ybM _ _ _) Gi ((hB.trans He).trans (zau Gh GH Gw)) ((qn.trans gR).trans (KB.grown Gh GH))
theorem zst (NA:Oz)(nl nc k n:Nat)(t:ByteArray)(VA:Oz)(vl vc code:Nat)(bb:Bool)(KA:Oz)(kl kc re im:Nat)(W base:Nat)(A:Oz)(m c:Nat)(l:Lz)(w:World)(HW:∀ wx:World,Calls prog 126 #[.int .u8 (code:Int)] wx fun e w'=>e=.returned (.int .i64 (W:Nat))∧w'=wx)(Hf:Own .u8 256 5 w base A m c l)(Hy:base≤w.heap.size)(N:Nat)(IH:LayC N)(ks:List Pl)(hN:zg ks≤N)(JB:ks.length≤1099511627776)(J0:re≤1099511627776)(xu:im≤1099511627776)(Ye:zfn 1099511627776 ks)(xx:Ps w (Lo base) ks KA kl kc)(hW:0 < W∧W≤8)(hk:22≤k)(hm:m+(W+W+(layK ks).length)≤1099511627776) :
  Calls prog 98 #[.agg #[.slice NA nl nc,.int .u8 (k:Int),.int .u64 (n:Int),.string t,.slice VA vl vc,.int .u8 (code:Int),.bool bb,.slice KA kl kc,.complex .f64 (fb re) (fb im)],.slice A m c] w (za6 base (l++(be (W+re) W++be im W++layK ks)) w):=by
 have Hz:=Bx.new w (.slice NA nl nc) (.int .u8 (k:Int)) (.int .u64 (n:Int)) (.string t) (.slice VA vl vc) (.int .u8 (code:Int)) (.bool bb) (.slice KA kl kc) (.complex .f64 (fb re) (fb im));have hB:Below base w (w.alloc (.cells #[.slice NA nl nc,.int .u8 (k:Int),.int .u64 (n:Int),.string t,.slice VA vl vc,.int .u8 (code:Int),.bool bb,.slice KA kl kc,.complex .f64 (fb re) (fb im)] 88)):=(Below.refl _ _).alloc Hy _;have qn:KB w (w.alloc (.cells #[.slice NA nl nc,.int .u8 (k:Int),.int .u64 (n:Int),.string t,.slice VA vl vc,.int .u8 (code:Int),.bool bb,.slice KA kl kc,.complex .f64 (fb re) (fb im)] 88)):=(KB.refl _).alloc _;have Ga:=Hf.alloc (.cells #[.slice NA nl nc,.int .u8 (k:Int),.int .u64 (n:Int),.string t,.slice VA vl vc,.int .u8 (code:Int),.bool bb,.slice KA kl kc,.complex .f64 (fb re) (fb im)] 88);have QF:=Hf.len;have kN:base≤(w.alloc (.cells #[.slice NA nl nc,.int .u8 (k:Int),.int .u64 (n:Int),.string t,.slice VA vl vc,.int .u8 (code:Int),.bool bb,.slice KA kl kc,.complex .f64 (fb re) (fb im)] 88)).heap.size:=by simp;omega
 have vY:=zbm;have HX:=zaa Hz;clear Hz;obtain⟨h0,h8⟩:=hW;have d0:((W:Int)==0)=false:=by rw[zac];omega
 have d1:decide ((k:Int) < 15)=false:=by simp;omega
 have d2:decide ((k:Int) < 19)=false:=by simp;omega
 have d3:decide ((k:Int)≤21)=false:=by simp;omega
 have HP:∀ wx:World,Calls prog 88 #[.agg #[.slice NA nl nc,.int .u8 (k:Int),.int .u64 (n:Int),.string t,.slice VA vl vc,.int .u8 (code:Int),.bool bb,.slice KA kl kc,.complex .f64 (fb re) (fb im)],.int .i64 W] wx (zcE (W+re) wx):=fun wx=>zgb NA nl nc k n t VA vl vc code bb KA kl kc re im W wx (by omega) (by omega);have HC:∀ wx:World,Calls prog 85 #[.agg #[.slice NA nl nc,.int .u8 (k:Int),.int .u64 (n:Int),.string t,.slice VA vl vc,.int .u8 (code:Int),.bool bb,.slice KA kl kc,.complex .f64 (fb re) (fb im)]] wx (zcE im wx):=fun wx=>ze4 NA nl nc k n t VA vl vc code bb KA kl kc re im wx (by omega);obtain⟨Z,hZ⟩:∃ Z,W+re=Z:=⟨_,rfl⟩;have hZ2:Z≤2199023255552:=by omega
 simp only[hZ] at HP ⊢;clear hk h0 hZ J0;have jv:kl≤ks.length:=Nat.le_of_eq xx.1;have JC:ks.length≤kl:=Nat.le_of_eq xx.1.symm;go_enter func98,ntmps98;go_wp2_with (first
  | (go_at_call 126;refine(HW _).mono ?_;rintro e w1 ⟨rfl,rfl⟩)
  | (go_at_call 88;(with_reducible refine(HP _).mono ?_);rintro e w2 ⟨rfl,He⟩;have Gh:=Ga.below He;have G5:=hB.trans (He.mono kN);have kE:=qn.trans (KB.below He);have Gw:=ybJ kN He.size)
  | (go_at_call 127;(with_reducible refine(zdJ base A m c l Z W h8 _ Gh Gw (by omega)).mono ?_);rintro e w3 ⟨A3,n3,c3',rfl,Km,Hj,JX⟩;have Vz:=G5.trans Hj;have hK3:=kE.trans JX;have jg:=ybJ Gw Hj.size;have hl3:=Km.len;rw[ybH,zaF] at hl3;obtain⟨c0,c1,c2',c3,c4,c5,c6,c7,c8,cf⟩:=(HX.out.kb ((KB.below He).trans JX)).all)
  | (go_at_call 85;(with_reducible refine(HC _).mono ?_);rintro e w4 ⟨rfl,gl⟩;have jo:=Km.below gl;have Vf:=Vz.trans (gl.mono jg);have hK4:=hK3.trans (KB.below gl);have Va:=ybJ jg gl.size)
  | (go_at_call 127;(with_reducible refine(zdJ base A3 n3 c3' (l++be Z W) im W h8 _ jo Va (by omega)).mono ?_);rintro e w5 ⟨A5,n5,c5',rfl,GR,gp,hk5⟩;have j2:=Vf.trans gp;have hK5:=hK4.trans hk5;have hl5:=GR.len;rw[ybH,ybH,zaF,zaF] at hl5;clear c0 c1 c2' c3 c4 c5 c6 c7 c8 cf;obtain⟨c0,c1,c2',c3,c4,c5,c6,c7,c8,cf⟩:=(HX.out.kb (((KB.below He).trans JX).trans ((KB.below gl).trans hk5))).all))
 go_loopw [1,70] (fun v i wr=>∃ j A' n' c':_,j≤kl∧i=.int .i64 (j:Nat)∧v=.slice A' n' c'∧Own .u8 256 5 wr base A' n' c' (l++be Z W++be im W++layK (ks.take j))∧Below base w wr∧KB w wr) (fun _ i _=>kl - (intOf i).toNat)
 case atStart=>exact⟨0,A5,n5,c5',Nat.zero_le _,rfl,rfl,by simpa [layK] using GR,j2,hK5⟩
 case round=>
  clear c0 c1 c2' c3 c4 c5 c6 c7 c8 cf;obtain⟨j,A',n',c',hj,rfl,rfl,ho,hb,ke⟩:=hrel;have hs:=hb.size;by_cases Hi:j < kl
  ·obtain⟨b,o,ns',k',n'',t',code',bb',ks',re',im',NA',nl',nc',VA',vl',vc',KA',kl',kc',rfl,j0,hx,⟨a0,a1,a2,a3,a4,a5,a6,a7,a8⟩,JN,gV⟩:=(ziO xx hb).at_ Hi;have jN:=zfy hx;have qo:=zdI Ye hx;have HT:=zaa (zng hx);have Qx:=ziI ks (j+1);have jy:=ho.len;simp only[ybH,zaF] at jy;obtain⟨LP,KR⟩:∃ LP,lay (.mk ns' k' n'' t' code' bb' ks' re' im')=LP:=⟨_,rfl⟩;have qj:=congrArg List.length HT.out;rw[ybH,KR] at qj;have Hx:∀ wx:World,Ps wx (Lo base) ns' NA' nl' nc'→Ps wx (Lo base) ks' KA' kl' kc'→Own .u8 256 5 wx base A' n' c' (l++be Z W++be im W++layK (ks.take j))→base≤wx.heap.size→Calls prog 54 #[.agg #[.slice NA' nl' nc',.int .u8 (k':Int),.int .u64 (n'':Int),.string t',.slice VA' vl' vc',.int .u8 (code':Int),.bool bb',.slice KA' kl' kc',.complex .f64 (fb re') (fb im')],.slice A' n' c'] wx (za6 base (l++be Z W++be im W++layK (ks.take j)++LP) wx):=fun wx x1 x2 x3 x4=>
    KR▸IH ns' ks' NA' nl' nc' k' n'' t' VA' vl' vc' code' bb' KA' kl' kc' re' im' base A' n' c' _ wx (by omega) qo x1 x2 x3 x4 (by rw[KR];omega)
   have Yd:Hid (layK (ks.take (j+1))=layK (ks.take j)++LP):=zaa (by rw[HT.out,KR]);have Qj:Below base wr (wr.alloc (.cells #[.slice NA' nl' nc',.int .u8 (k':Int),.int .u64 (n'':Int),.string t',.slice VA' vl' vc',.int .u8 (code':Int),.bool bb',.slice KA' kl' kc',.complex .f64 (fb re') (fb im')] 88)):=(Below.refl _ _).alloc (by omega) _;clear KR HT qo jN Qx qj jy hx;go_wp2_with (go_at_call 54;refine(Hx _ (ziO JN Qj) (ziO gV Qj) (ho.alloc _) (by simp;omega)).mono ?_;rintro e w6 ⟨A6,n6,c6',rfl,KQ,qm,Ql⟩;have jM:=(hb.trans Qj).trans qm;have U3:=(ke.alloc _).trans Ql);go_roundw
   case rel=>exact⟨j+1,A6,n6,c6',by omega,by go_num,rfl,by rw[Yd.out,←ybM];exact KQ,jM,U3⟩
   case measure=>simp[intOf];omega
  ·have HE:Hid (ks.take j=ks):=zaa (ybK (by omega));go_wp2;go_ret;exact za6.mk rfl (by rw[HE.out,ybM,ybM,ybM]) ho hb ke
theorem zgd (N:Nat)(IH:LayC N)(ks:List Pl)(NA:Oz)(nl nc k n:Nat)(t:ByteArray)(VA:Oz)(vl vc code:Nat)(bb:Bool)(KA:Oz)(kl kc re im:Nat)(base:Nat)(A:Oz)(m c:Nat)(l:Lz)(w:World)(hN:zg ks≤N)(JB:ks.length≤1099511627776)(ky:64≤code∧code < 256)(J0:re≤1099511627776)(xu:im≤1099511627776)
  (Yf:wid code≤8∨(15≤k∧k < 19)) (Ye:zfn 1099511627776 ks) (xx:Ps w (Lo base) ks KA kl kc) (Hf:Own .u8 256 5 w base A m c l) (Hy:base≤w.heap.size) (hm:m+(dlay k n t code re im (layK ks)).length≤1099511627776) :
  Calls prog 98 #[.agg #[.slice NA nl nc,.int .u8 (k:Int),.int .u64 (n:Int),.string t,.slice VA vl vc,.int .u8 (code:Int),.bool bb,.slice KA kl kc,.complex .f64 (fb re) (fb im)],.slice A m c] w (za6 base (l++dlay k n t code re im (layK ks)) w):=by
 have HW:∀ wx:World,Calls prog 126 #[.int .u8 (code:Int)] wx fun e w'=>e=.returned (.int .i64 (wid code:Nat))∧w'=wx:=fun wx=>zh8 code ky.1 ky.2 wx;unfold dlay at hm ⊢;by_cases h0:wid code=0
 ·rw[if_pos h0];exact zsq NA nl nc k n t VA vl vc code bb KA kl kc re im _ base A m c l w HW Hf Hy h0
 rw[if_neg h0] at hm ⊢;by_cases gF:k < 15
 ·rw[if_pos gF] at hm ⊢;exact zt1 NA nl nc k n t VA vl vc code bb KA kl kc re im _ base A m c l w HW Hf Hy (by omega) gF (by omega)
 rw[if_neg gF] at hm ⊢;by_cases gR:k < 19
 ·rw[if_pos gR] at hm ⊢;rw[zbK] at hm;exact zsr NA nl nc k n t VA vl vc code bb KA kl kc re im _ base A m c l w HW Hf Hy (by omega) (by omega) (by omega)
 rw[if_neg gR] at hm ⊢;by_cases JX:k≤21
 ·rw[if_pos JX] at hm ⊢;rw[ybH,zbK,zaF] at hm;exact zss NA nl nc k n t VA vl vc code bb KA kl kc re im _ base A m c l w HW Hf Hy (by omega) (by omega) (by omega)
 rw[if_neg JX] at hm ⊢;rw[ybH,ybH,zaF,zaF] at hm;exact zst NA nl nc k n t VA vl vc code bb KA kl kc re im _ base A m c l w HW Hf Hy N IH ks hN JB J0 xu Ye xx (by omega) (by omega) (by omega)
theorem zp7 (ns ks:List Pl)(k n:Nat)(t:ByteArray)(code re im:Nat):lay (.mk ns k n t code true ks re im)=dlay k n t code re im (layK ks):=by rw[lay,if_pos rfl]
theorem zny (ns ks:List Pl)(k n:Nat)(t:ByteArray)(code re im:Nat):lay (.mk ns k n t code false ks re im)=layN ns++(code::dlay k n t code re im (layK ks)):=by rw[lay,if_neg (by decide)]
theorem bnd (x:Nat)(hx:x < 256):∀ y∈[x],y < 256:=by intro y hy;simp at hy;omega
theorem zp8 (N:Nat)(IH:∀ M,M < N→LayC M):LayC N:=by
 intro ns ks NA nl nc k n t VA vl vc code bb KA kl kc re im base A m c l w hN hF Xp xx Hf Hy hm;obtain⟨⟨h1,h2,ht,J0,xu,qC,Yf⟩,JB,BH,Ye⟩:=hF;simp only[rank] at hN;have Hz:=Bx.new w (.slice NA nl nc) (.int .u8 (k:Int)) (.int .u64 (n:Int)) (.string t) (.slice VA vl vc) (.int .u8 (code:Int)) (.bool bb) (.slice KA kl kc) (.complex .f64 (fb re) (fb im));have hB:Below base w (w.alloc (.cells #[.slice NA nl nc,.int .u8 (k:Int),.int .u64 (n:Int),.string t,.slice VA vl vc,.int .u8 (code:Int),.bool bb,.slice KA kl kc,.complex .f64 (fb re) (fb im)] 88)):=(Below.refl _ _).alloc Hy _;have qn:KB w (w.alloc (.cells #[.slice NA nl nc,.int .u8 (k:Int),.int .u64 (n:Int),.string t,.slice VA vl vc,.int .u8 (code:Int),.bool bb,.slice KA kl kc,.complex .f64 (fb re) (fb im)] 88)):=(KB.refl _).alloc _;have kN:base≤(w.alloc (.cells #[.slice NA nl nc,.int .u8 (k:Int),.int .u64 (n:Int),.string t,.slice VA vl vc,.int .u8 (code:Int),.bool bb,.slice KA kl kc,.complex .f64 (fb re) (fb im)] 88)).heap.size:=by simp;omega
 have vY:=zbm;have HX:=zaa Hz;clear Hz;cases bb
 ·rw[zny] at hm ⊢;have jv:nl≤ns.length:=Nat.le_of_eq Xp.1;have JC:ns.length≤nl:=Nat.le_of_eq Xp.1.symm;have yW:nl≤1099511627776:=by have:=ziK ns;omega
  obtain⟨DL,U6⟩:∃ DL,dlay k n t code re im (layK ks)=DL:=⟨_,rfl⟩;have QF:=Hf.len;rw[U6] at hm ⊢;simp only[ybH,ybI] at hm;have HD:∀ (A':Oz) (m' c':Nat) (l':Lz) (wx:World),Below base w wx→Own .u8 256 5 wx base A' m' c' l'→base≤wx.heap.size→m'+DL.length≤1099511627776→Calls prog 98 #[.agg #[.slice NA nl nc,.int .u8 (k:Int),.int .u64 (n:Int),.string t,.slice VA vl vc,.int .u8 (code:Int),.bool false,.slice KA kl kc,.complex .f64 (fb re) (fb im)],.slice A' m' c'] wx (za6 base (l'++DL) wx):=fun A' m' c' l' wx hb ho hs Xf=>
   U6▸zgd (zg ks) (IH _ (by omega)) ks NA nl nc k n t VA vl vc code false KA kl kc re im base A' m' c' l' wx zab JB ⟨h1,h2⟩ J0 xu Yf Ye (ziO xx hb) ho hs (by rw[U6];exact Xf)
  clear U6;have GP:m+((layN ns).length+(DL.length+1))≤1099511627776:=hm;clear hm;go_enter func54,ntmps54;go_wp2;go_loopw [1,15] (fun v i wr=>∃ j A' n' c':_,j≤nl∧i=.int .i64 (j:Nat)∧v=.slice A' n' c'∧Own .u8 256 5 wr base A' n' c' (l++layN (ns.take j))∧Below base w wr∧KB w wr∧Bx wr w.heap.size (.slice NA nl nc) (.int .u8 (k:Int)) (.int .u64 (n:Int)) (.string t) (.slice VA vl vc) (.int .u8 (code:Int)) (.bool false) (.slice KA kl kc) (.complex .f64 (fb re) (fb im))) (fun _ i _=>nl - (intOf i).toNat)
  case atStart=>exact⟨0,A,m,c,Nat.zero_le _,rfl,rfl,by simpa [layN] using Hf.alloc _,hB,qn,HX.out⟩
  case round=>
   obtain⟨j,A',n',c',hj,rfl,rfl,ho,hb,ke,hX⟩:=hrel;have hs:base≤wr.heap.size:=ybJ Hy hb.size;have BK:=zaa hX;by_cases Hi:j < nl
   ·clear hX;obtain⟨b,o,ns',k',n'',t',code',bb',ks',re',im',NA',nl',nc',VA',vl',vc',KA',kl',kc',rfl,j0,hx,⟨a0,a1,a2,a3,a4,a5,a6,a7,a8⟩,JN,gV⟩:=(ziO Xp hb).at_ Hi;have jN:=zfy hx;have qo:=zdI BH hx;have HT:=zaa (znf hx);have Qx:=ziJ ns (j+1);have jy:=ho.len;simp only[ybH] at jy;obtain⟨LP,KR⟩:∃ LP,lay (.mk ns' k' n'' t' code' bb' ks' re' im')=LP:=⟨_,rfl⟩;have qj:=congrArg List.length HT.out;rw[ybH,KR,ybI] at qj;have Hx:∀ (A1:Oz) (n1 c1:Nat) (wx:World),Below base wr wx→Own .u8 256 5 wx base A1 n1 c1 (l++layN (ns.take j)++[0])→base≤wx.heap.size→Calls prog 54 #[.agg #[.slice NA' nl' nc',.int .u8 (k':Int),.int .u64 (n'':Int),.string t',.slice VA' vl' vc',.int .u8 (code':Int),.bool bb',.slice KA' kl' kc',.complex .f64 (fb re') (fb im')],.slice A1 n1 c1] wx (za6 base (l++layN (ns.take j)++[0]++LP) wx):=fun A1 n1 c1 wx x1 x2 x3=>
     KR▸IH (zg ns) (by omega) ns' ks' NA' nl' nc' k' n'' t' VA' vl' vc' code' bb' KA' kl' kc' re' im' base A1 n1 c1 _ wx jN qo (ziO JN x1) (ziO gV x1) x2 x3 (by have:=x2.len;simp only[ybH,ybI,List.length_nil] at this;rw[KR];omega)
    have Gm:n'+1≤17592186044416:=by omega
    have Yd:Hid (layN (ns.take (j+1))=layN (ns.take j)++(0::LP)):=zaa (by rw[HT.out,KR]);have Qj:Below base wr (wr.alloc (.cells #[.slice NA' nl' nc',.int .u8 (k':Int),.int .u64 (n'':Int),.string t',.slice VA' vl' vc',.int .u8 (code':Int),.bool bb',.slice KA' kl' kc',.complex .f64 (fb re') (fb im')] 88)):=(Below.refl _ _).alloc hs _;have BL:KB wr (wr.alloc (.cells #[.slice NA' nl' nc',.int .u8 (k':Int),.int .u64 (n'':Int),.string t',.slice VA' vl' vc',.int .u8 (code':Int),.bool bb',.slice KA' kl' kc',.complex .f64 (fb re') (fb im')] 88)):=(KB.refl _).alloc _;have xv:=Bx.new wr (.slice NA' nl' nc') (.int .u8 (k':Int)) (.int .u64 (n'':Int)) (.string t') (.slice VA' vl' vc') (.int .u8 (code':Int)) (.bool bb') (.slice KA' kl' kc') (.complex .f64 (fb re') (fb im'));obtain⟨WA,BM⟩:∃ WA,wr.alloc (.cells #[.slice NA' nl' nc',.int .u8 (k':Int),.int .u64 (n'':Int),.string t',.slice VA' vl' vc',.int .u8 (code':Int),.bool bb',.slice KA' kl' kc',.complex .f64 (fb re') (fb im')] 88)=WA:=⟨_,rfl⟩;obtain⟨H,hH⟩:∃ H,wr.heap.size=H:=⟨_,rfl⟩;have U7:=ho.alloc (.cells #[.slice NA' nl' nc',.int .u8 (k':Int),.int .u64 (n'':Int),.string t',.slice VA' vl' vc',.int .u8 (code':Int),.bool bb',.slice KA' kl' kc',.complex .f64 (fb re') (fb im')] 88);simp only[BM,hH] at Qj BL xv U7;have hsA:base≤WA.heap.size:=ybJ hs Qj.size;clear KR HT qo jN Qx qj jy hx GP;obtain⟨i0,hi,gE,Hn,gb⟩:=info_parts zkH;have kL:=zaa xv;obtain⟨c0,c1,c2,c3,c4,c5,c6,c7,c8,cf⟩:=xv.all;obtain⟨q0,q1,q2,q3,q4,q5,q6,q7,q8,qf⟩:=(kL.out.alloc (.cells #[.int .u8 0] 5)).all;have HWA:=zaa BM;have Vu:=zaa hH;clear xv;go_wp2_with fail;clear BM hH;go_region_law (first
     | (refine zki (K:=.u8) (M:=256) rfl _ _ 22 rfl i0 1 underlying22 hi gE (by omega) Hn gb rfl (by exact(U7.alloc _)) ⟨WA.heap.size,0,none⟩ 1 1 [0] rfl rfl (by simp) (by exact zkG _ _ _ _ (by simp)) (by omega) (by unfold maxLen;omega) (by omega) (by simp;omega) _ rfl ?_;intro g9 cap9 w9 VB Hd _ Gl;have Kn:KB WA w9:=((KB.drew WA).alloc (.cells #[.int .u8 0] 5)).trans (KB.grown (show Own .u8 256 5 (WA.drew.alloc (.cells #[.int .u8 0] 5)) base A' n' c' _ from U7.alloc _) Hd);have kr:Below base WA w9:=(((Below.refl base WA).drew).alloc hsA (.cells #[.int .u8 0] 5)).trans (zau (show Own .u8 256 5 (WA.drew.alloc (.cells #[.int .u8 0] 5)) base A' n' c' _ from U7.alloc _) Hd (by simp;omega));have qM:=ybJ hsA kr.size;clear c0 c1 c2 c3 c4 c5 c6 c7 c8 cf;obtain⟨c0,c1,c2,c3,c4,c5,c6,c7,c8,cf⟩:=(kL.out.kb Kn).all)
     | (go_simp;go_at_call 54;(with_reducible refine(Hx (some ⟨g9,0,none⟩) (n'+1) cap9 w9 (Qj.trans kr) VB qM).mono ?_);rintro e w6 ⟨A6,n6,c6',rfl,KQ,qm,Ql⟩))
    all_goals
     go_wp2_with fail;go_roundw
     case rel=>exact⟨j+1,A6,n6,c6',by omega,by go_num,rfl,KQ.eqv (by rw[Yd.out];simp),((hb.trans Qj).trans kr).trans qm,((ke.trans BL).trans Kn).trans Ql,BK.out.kb ((BL.trans Kn).trans Ql)⟩
     case measure=>simp[intOf];omega
   ·have HE:Hid (ns.take j=ns):=zaa (ybK (by omega));have jy:=ho.len;rw[HE.out,ybH] at jy;have Gm:n'+1≤17592186044416:=by omega
    have Kk:n'+1+DL.length≤1099511627776:=by omega
    obtain⟨i0,hi,gE,Hn,gb⟩:=info_parts zkH;obtain⟨c0,c1,c2,c3,c4,c5,c6,c7,c8,cf⟩:=hX.all;obtain⟨q0,q1,q2,q3,q4,q5,q6,q7,q8,qf⟩:=(BK.out.alloc (.cells #[.int .u8 (code:Int)] 5)).all;clear hX GP jy;go_wp2_with fail;go_region_law (first
     | (refine zki (K:=.u8) (M:=256) rfl _ _ 22 rfl i0 1 underlying22 hi gE (by omega) Hn gb rfl (by exact(ho.alloc _)) ⟨wr.heap.size,0,none⟩ 1 1 [code] rfl rfl (bnd code h2) (by exact zkG _ _ _ _ (by simp)) (by omega) (by unfold maxLen;omega) (by omega) (by simp;omega) _ rfl ?_;intro g9 cap9 w9 VB Hd _ Gl;have Kn:KB wr w9:=((KB.drew wr).alloc (.cells #[.int .u8 (code:Int)] 5)).trans (KB.grown (show Own .u8 256 5 (wr.drew.alloc (.cells #[.int .u8 (code:Int)] 5)) base A' n' c' _ from ho.alloc _) Hd);have kr:Below base wr w9:=(((Below.refl base wr).drew).alloc hs (.cells #[.int .u8 (code:Int)] 5)).trans (zau (show Own .u8 256 5 (wr.drew.alloc (.cells #[.int .u8 (code:Int)] 5)) base A' n' c' _ from ho.alloc _) Hd (by simp;omega));have qM:=ybJ hs kr.size;clear c0 c1 c2 c3 c4 c5 c6 c7 c8 cf;obtain⟨c0,c1,c2,c3,c4,c5,c6,c7,c8,cf⟩:=(BK.out.kb Kn).all)
     | (go_simp;go_at_call 98;(with_reducible refine(HD (some ⟨g9,0,none⟩) (n'+1) cap9 _ w9 (hb.trans kr) VB qM Kk).mono ?_);rintro e w6 ⟨A6,n6,c6',rfl,KQ,qm,Ql⟩))
    all_goals
     go_wp2_with fail;go_ret;exact za6.mk rfl (by rw[HE.out];simp) KQ ((hb.trans kr).trans qm) ((ke.trans Kn).trans Ql)
 ·rw[zp7] at hm ⊢;have HD:∀ (wx:World),Below base w wx→Own .u8 256 5 wx base A m c l→base≤wx.heap.size→Calls prog 98 #[.agg #[.slice NA nl nc,.int .u8 (k:Int),.int .u64 (n:Int),.string t,.slice VA vl vc,.int .u8 (code:Int),.bool true,.slice KA kl kc,.complex .f64 (fb re) (fb im)],.slice A m c] wx (za6 base (l++dlay k n t code re im (layK ks)) wx):=fun wx hb ho hs=>
   zgd (zg ks) (IH _ (by omega)) ks NA nl nc k n t VA vl vc code true KA kl kc re im base A m c l wx zab JB ⟨h1,h2⟩ J0 xu Yf Ye (ziO xx hb) ho hs hm
  clear hm Yf ht J0 xu qC h1 h2;go_enter func54,ntmps54;go_wp2_with (go_at_call 98;(with_reducible refine(HD _ hB (Hf.alloc _) kN).mono ?_);rintro e w2 ⟨A2,n2,c2,rfl,Gh,He,gR⟩);go_ret;exact za6.mk rfl rfl Gh (hB.trans He) (qn.trans gR)
theorem zp9 (N:Nat):LayC N:=by
 induction N using Nat.strongRecOn with
 | ind N ih=>exact zp8 N ih
end Enc
end Go.Proofs.YtbbbanfggcediaaGreatDoor
