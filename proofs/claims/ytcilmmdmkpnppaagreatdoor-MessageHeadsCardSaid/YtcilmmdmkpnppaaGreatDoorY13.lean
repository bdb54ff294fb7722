/-
  Words for the walks of encode's lay and layData: boxes of plans are kept where bytes are appended; a string's bytes appended. No condition.
  Contracts of encode's layData and lay: the bytes that a plan lays, behind bytes of the call's own. Memory below these, and boxes of plans, stay. Condition: at most 2^40 bytes.
  Contract of encode's lay: the bytes that a plan lays, behind bytes of the call's own. Memory below these, and boxes of plans, stay. Condition: at most 2^40 bytes.
-/
import Derived.Test.YtcilmmdmkpnppaaGreatDoorY11
import Derived.Lib.AppendStr
import Derived.Deep.RegionWith
import Derived.Deep.RegionLaw
namespace Go.Proofs.YtcilmmdmkpnppaaGreatDoor.Enc
set_option maxRecDepth 100000
open Go.RowKit Utf Val
def KB (w w':World):Prop:=∀ g x0 x1 x2 x3 x4 x5 x6 x7 x8,Bx w g x0 x1 x2 x3 x4 x5 x6 x7 x8→Bx w' g x0 x1 x2 x3 x4 x5 x6 x7 x8
theorem KB.refl (w:World):KB w w:=fun _ _ _ _ _ _ _ _ _ _ h=>h
theorem KB.trans {w w1 w2:World}(h:KB w w1)(h':KB w1 w2):KB w w2:=fun _ _ _ _ _ _ _ _ _ _ hb=>h' _ _ _ _ _ _ _ _ _ _ (h _ _ _ _ _ _ _ _ _ _ hb)
theorem KB.below {w w':World}(h:Below w.heap.size w w'):KB w w':=fun _ _ _ _ _ _ _ _ _ _ hb=>hb.call h
theorem KB.alloc {w w1:World}(h:KB w w1)(o:Obj):KB w (w1.alloc o):=h.trans (KB.below ((Below.refl _ _).alloc (Nat.le_refl _) _))
theorem KB.grown {w w':World}{base n c:Nat}{A:Option Addr}{l:List Nat}(h:Own .u8 256 5 w base A n c l)(hg:w.grownBy w' (Value.slice A n c).ownBlock):KB w w':=by
 intro g x0 x1 x2 x3 x4 x5 x6 x7 x8 hb;refine(hg.block g hb.lt fun e=>?_).trans hb;rcases h.2.1.2 with ⟨e1,_⟩ | ⟨g',cap,cur,e1,_,hg',_⟩
 ·rw[e1] at e;cases e
 ·rw[e1] at e;have e2:g=g':=by simpa [Value.ownBlock] using e
  subst e2;unfold Bx at hb;rw[hb] at hg';simp at hg'
theorem Bx.kb {w w':World}{g:Nat}{x0 x1 x2 x3 x4 x5 x6 x7 x8:Value}(h:Bx w g x0 x1 x2 x3 x4 x5 x6 x7 x8)(hk:KB w w'):Bx w' g x0 x1 x2 x3 x4 x5 x6 x7 x8:=hk _ _ _ _ _ _ _ _ _ _ h
theorem KB.drew (w:World):KB w w.drew:=fun _ _ _ _ _ _ _ _ _ _ h=>h
theorem news_one (w:World)(z:Value)(T:TypeId)(g:Nat)(hg:g=w.heap.size):∀ j u,[z][j]? = some u→(w.alloc (.cells #[z] T)).cell? (Addr.add ⟨g,0,none⟩ j)=some u:=by
 subst hg;intro j u hj
 match j,hj with
 | 0,hj=>
  simp at hj;subst hj;simp[Addr.add]
 | j+1,hj=>simp at hj
def GivesL2 (base:Nat)(l:List Nat)(w:World)(e:Ending)(w':World):Prop:=∃ A n c,e=.returned (.slice A n c)∧Own .u8 256 5 w' base A n c l∧Below base w w'∧KB w w'
theorem GivesL2.mk {base n c:Nat}{A:Option Addr}{l l':List Nat}{w w':World}{e:Ending}(he:e=.returned (.slice A n c))(hl:l'=l)(ho:Own .u8 256 5 w' base A n c l')(hb:Below base w w')(hk:KB w w'):GivesL2 base l w e w':=by
 subst hl;exact⟨A,n,c,he,ho,hb,hk⟩
theorem vs_tb (t:ByteArray):vs .u8 (tb t)=Lib.strCells t:=by
 simp[vs,tb,Lib.strCells,Function.comp_def]
theorem infoU8:(Tryz.prog.info? 5).map (fun i=>(i.zero,i.size,i.bytes))=some (some (.int .u8 0),1,1):=by kernel_rfl
theorem typ_append_str {P:Program}{Q:Value→Prop}{w:World}(t u ty e:TypeId)(i:TypeInfo)(ht:P.underlying t=some (.slice e))(hu:P.underlying u=some .string)(hi:P.info? e=some i)(hz:i.zero=some (.int .u8 0))
  (hsize:i.size=1) (hby:i.bytes=1) (hzq:Q (.int .u8 0)) (base:Nat) (v:Value) (n:Nat) (xs:List Value) (hown:w.ownsRow base e 1 v n xs) (hT:Typ Q w v) (s:ByteArray) (hq:∀ u∈Lib.strCells s,Q u)
  (h63:n+s.size≤maxLen) (hbytes:n+s.size≤140737488355328) {v':Value} {w':World} (hrun:(Builtin.append_ #[t,u] ty #[v,.string s]).run P w=.ok v' w'):Typ Q w' v':=by
 have hsmall:n+s.size≤9223372036854775807:=by simp only[maxLen] at h63;omega
 have hxl:xs.length=n:=by simpa using hown.1
 have e1:(s.data.map fun b=>Value.int .u8 b.toNat)=(Lib.strCells s).toArray:=by
  apply Array.ext'
  simp[Lib.strCells]
 rcases hown.2 with ⟨rfl,rfl⟩ | ⟨g,cap,cur,rfl,_,hg,hnc,_,hcs,htake⟩
 ·by_cases hm:s.size=0
  ·have hf:=Lib.run_firstCells_string (P:=P) w 1 s;rw[hm] at hf;have hr:(Builtin.append_ #[t,u] ty #[.slice none 0 0,.string s]).run P w=.ok (.slice none 0 0) w:=by
    simp[Builtin.append_,run_underlying ht,run_underlying hu,sizeOf,typeInfo,hi,hsize,Builtin.lenOf,hm,hf]
   rw[hr] at hrun;injection hrun with e1 e2
   subst e1;exact Typ.nil _ _ _ _
  ·have hr:=run_append_nil_string (P:=P) w t u ty e i (.int .u8 0) ht hu hi hz s (by omega) (by omega) (by rw[hby];omega);rw[hr,e1] at hrun;injection hrun with e1 e2
   subst e1 e2;refine Typ.new w.drew _ _ _ _ fun u hu=>?_;rw[Array.toList_append,List.mem_append] at hu;rcases hu with hu | hu
   ·exact hq u (by simpa using hu)
   ·exact zero_cells rfl hzq _ u hu
 ·have hcq:∀ u∈cur.toList,Q u:=hT g rfl cur e (0,0) hg;have hxq:∀ u∈xs,Q u:=fun u hu=>hcq u (List.mem_of_mem_take (by rw[htake];exact hu));by_cases hroom:n+s.size≤cap
  ·have hcs':cur.size=cap:=by simpa using hcs
   have hr:=Lib.run_append_room_string (P:=P) w t u ty e i ht hu hi hsize g n cap cur hg s hroom (by omega);rw[hr] at hrun;injection hrun with e1 e2
   subst e1 e2;intro g' hg' cur' e' fz hc u hu;have:g=g':=by simpa [Value.ownBlock] using hg'
   subst this;rw[setRow_heap w g cur _ e _ hg] at hc;injection hc with hc
   injection hc with hc _ _
   subst hc;simp only[List.mem_append] at hu;rcases hu with (hu | hu) | hu
   ·exact hcq u (List.mem_of_mem_take hu)
   ·exact hq u hu
   ·exact hcq u (List.mem_of_mem_drop hu)
  ·have holds:∀ j u,xs[j]? = some u→w.cell? ((⟨g,0,none⟩:Addr).add j)=some u:=hown.cells (g:=g) rfl;have hr:=Lib.run_append_grow_string (P:=P) w t u ty e i (.int .u8 0) ht hu hi hz ⟨g,0,none⟩ n cap xs (by rw[hsize];simpa using hxl) holds s (by omega) (by omega) (by rw[hby];exact growslice_fits (by omega) (by omega));rw[hr] at hrun;injection hrun with e1 e2
   subst e1 e2;refine Typ.new w.drew _ _ _ _ fun u hu=>?_;rw[Array.toList_append,Array.toList_append,List.mem_append,List.mem_append] at hu;rcases hu with (hu | hu) | hu
   ·exact hxq u (by simpa using hu)
   ·exact hq u (by simpa using hu)
   ·exact zero_cells rfl hzq _ u hu
theorem wpList_appS {w:World}{ops:Array Oper}{rest:List Oper}{o:Oper}{a:Act}{Q:Exit→Act→World→Prop}(hgd:o.guard=none)(s x:Operand)
  (ho:o.op=.call { callee:=.builtin .append,args:=#[s,x],argTypes:=#[23,9] })
  {base n c:Nat} {A:Option Addr} {L:List Nat} (hs:a.eval s=.slice A n c) (hown:Own .u8 256 5 w base A n c L)
  {t:ByteArray} (hx:a.eval x=.string t) (hsz:n+t.size≤17592186044416) (hbase:base≤w.heap.size)
  (h:∀ A2 c2 w',Own .u8 256 5 w' base A2 (n+t.size) c2 (L++tb t)→w.grownBy w' (Value.slice A n c).ownBlock→wpList Tryz.prog ops Q rest (a.put o.dst (.slice A2 (n+t.size) c2)) w') :
  wpList Tryz.prog ops Q (o::rest) a w:=by
 obtain⟨i0,hi,hz0,hz1,hz2⟩:=info_parts infoU8;have hbound:∀ y∈L++tb t,y < 256:=fun y hy=>by
  rcases List.mem_append.1 hy with h | h
  ·exact hown.1 y h
  ·exact tb_byte t y h
 refine wpList_plain hgd fun K hK=>?_;obtain⟨v',w',hrun,h2,h3,_⟩:=Lib.run_append_own_string (P:=Tryz.prog) w base 23 9 o.type 5 i0 Tryz.underlying23 Tryz.underlying9 hi hz0 hz1 hz2 (.slice A n c) n (vs .u8 L) hown.2.1 t (by unfold maxLen;omega) (by omega) hbase;have h6:=typ_append_str (P:=Tryz.prog) (Q:=Nb .u8 256) 23 9 o.type 5 i0 Tryz.underlying23 Tryz.underlying9 hi hz0 hz1 hz2 ⟨0,by omega,rfl⟩ base (.slice A n c) n (vs .u8 L) hown.2.1 hown.2.2 t (by rw[←vs_tb];exact nb_vs (tb_byte t)) (by unfold maxLen;omega) (by omega) hrun;rw[←vs_tb,←vs_append] at h2;obtain⟨A2,c2,rfl,ho2⟩:=own_of_row hbound h2 h6;unfold Oper.wp execOp;simp only[ho,resolve,invoke,builtin,Sem.run_bind,Sem.run_pure,Result.andThen_ok,List.map_toArray,List.map_cons,List.map_nil,hs,hx,hrun];exact hK _ _ (h A2 c2 w' ho2 h3)
theorem elayn2_any (base:Nat)(A:Option Addr)(n c:Nat)(l:List Nat)(X k:Nat)(hk:k≤8)(w:World)(hown:Own .u8 256 5 w base A n c l)(hbase:base≤w.heap.size)(hn:n≤1099511627776) :
  Calls Tryz.prog 125 #[.slice A n c,.int .u64 X,.int .i64 k] w (GivesL2 base (l++be X k) w):=by
 go_enter Tryz.func125,Tryz.ntmps125;go_wp2_with (first
  | (go_at_call 162;refine(lay_any X k hk _).mono ?_;rintro e w1 ⟨A1,n1,c1,rfl,ho1,hb1⟩;have hl1:=ho1.len;have ho':=hown.below hb1;have hs1:=hb1.size;rw[be_length] at hl1)
  | (at_builtin;refine wpList_app8 (l:=be X k) (L:=l) rfl _ _ rfl rfl ho' rfl ho1.rd (by omega) (by omega) ?_;intro A2 c2 w2 hown2 hgrow2))
 go_ret;exact GivesL2.mk rfl rfl hown2 ((hb1.mono hbase).trans (below_grown ho' hgrow2 (by omega))) ((KB.below hb1).trans (KB.grown ho' hgrow2))
end Go.Proofs.YtcilmmdmkpnppaaGreatDoor.Enc
namespace Go.Proofs.YtcilmmdmkpnppaaGreatDoor.Enc
set_option maxRecDepth 100000
open Go.RowKit Utf Val
def Lo (base:Nat):Nat→Prop:=fun i=>i < base
theorem ps_lo {w w':World}{base:Nat}{l:List Pl}{A:Option Addr}{n c:Nat}(h:Ps w (Lo base) l A n c)(hb:Below base w w'):Ps w' (Lo base) l A n c:=h.keep fun i hi=>hb.block i hi
def LayC (N:Nat):Prop:=∀ (ns ks:List Pl) (NA:Option Addr) (nl nc k n:Nat) (t:ByteArray) (VA:Option Addr) (vl vc code:Nat) (bb:Bool) (KA:Option Addr) (kl kc re im:Nat) (base:Nat) (A:Option Addr) (m c:Nat) (l:List Nat) (w:World),rank (.mk ns k n t code bb ks re im)≤N→Fine 1099511627776 (.mk ns k n t code bb ks re im)→Ps w (Lo base) ns NA nl nc→Ps w (Lo base) ks KA kl kc →
 Own .u8 256 5 w base A m c l→base≤w.heap.size→m+(lay (.mk ns k n t code bb ks re im)).length≤1099511627776→Calls Tryz.prog 50 #[.agg #[.slice NA nl nc,.int .u8 (k:Int),.int .u64 (n:Int),.string t,.slice VA vl vc,.int .u8 (code:Int),.bool bb,.slice KA kl kc,.complex .f64 (fb re) (fb im)],.slice A m c] w (GivesL2 base (l++lay (.mk ns k n t code bb ks re im)) w)
set_option maxHeartbeats 1000000 in
theorem ld_none (NA:Option Addr)(nl nc k n:Nat)(t:ByteArray)(VA:Option Addr)(vl vc code:Nat)(bb:Bool)(KA:Option Addr)(kl kc re im:Nat)(W base:Nat)(A:Option Addr)(m c:Nat)(l:List Nat)(w:World)(HW:∀ wx:World,Calls Tryz.prog 124 #[.int .u8 (code:Int)] wx fun e w'=>e=.returned (.int .i64 (W:Nat))∧w'=wx)(hown:Own .u8 256 5 w base A m c l)(hbase:base≤w.heap.size)(hW:W=0) :
  Calls Tryz.prog 94 #[.agg #[.slice NA nl nc,.int .u8 (k:Int),.int .u64 (n:Int),.string t,.slice VA vl vc,.int .u8 (code:Int),.bool bb,.slice KA kl kc,.complex .f64 (fb re) (fb im)],.slice A m c] w (GivesL2 base (l++([])) w):=by
 have hbx:=Bx.new w (.slice NA nl nc) (.int .u8 (k:Int)) (.int .u64 (n:Int)) (.string t) (.slice VA vl vc) (.int .u8 (code:Int)) (.bool bb) (.slice KA kl kc) (.complex .f64 (fb re) (fb im));have hB:Below base w (w.alloc (.cells #[.slice NA nl nc,.int .u8 (k:Int),.int .u64 (n:Int),.string t,.slice VA vl vc,.int .u8 (code:Int),.bool bb,.slice KA kl kc,.complex .f64 (fb re) (fb im)] 73)):=(Below.refl _ _).alloc hbase _;have hKB:KB w (w.alloc (.cells #[.slice NA nl nc,.int .u8 (k:Int),.int .u64 (n:Int),.string t,.slice VA vl vc,.int .u8 (code:Int),.bool bb,.slice KA kl kc,.complex .f64 (fb re) (fb im)] 73)):=(KB.refl _).alloc _;have ho1:=hown.alloc (.cells #[.slice NA nl nc,.int .u8 (k:Int),.int .u64 (n:Int),.string t,.slice VA vl vc,.int .u8 (code:Int),.bool bb,.slice KA kl kc,.complex .f64 (fb re) (fb im)] 73);have hml:=hown.len;have hs0:base≤(w.alloc (.cells #[.slice NA nl nc,.int .u8 (k:Int),.int .u64 (n:Int),.string t,.slice VA vl vc,.int .u8 (code:Int),.bool bb,.slice KA kl kc,.complex .f64 (fb re) (fb im)] 73)).heap.size:=by simp;omega
 have hsc:=store_cplx;have HX:=Lib.hid hbx;clear hbx;clear HX;subst hW;rw[List.append_nil];go_enter Tryz.func94,Tryz.ntmps94;go_wp2_with (go_at_call 124;refine(HW _).mono ?_;rintro e w1 ⟨rfl,rfl⟩);go_ret;exact GivesL2.mk rfl rfl ho1 hB hKB
set_option maxHeartbeats 1000000 in
theorem ld_num (NA:Option Addr)(nl nc k n:Nat)(t:ByteArray)(VA:Option Addr)(vl vc code:Nat)(bb:Bool)(KA:Option Addr)(kl kc re im:Nat)(W base:Nat)(A:Option Addr)(m c:Nat)(l:List Nat)(w:World)(HW:∀ wx:World,Calls Tryz.prog 124 #[.int .u8 (code:Int)] wx fun e w'=>e=.returned (.int .i64 (W:Nat))∧w'=wx)(hown:Own .u8 256 5 w base A m c l)(hbase:base≤w.heap.size)(hW:0 < W∧W≤8)(hk:k < 15)(hm:m≤1099511627776) :
  Calls Tryz.prog 94 #[.agg #[.slice NA nl nc,.int .u8 (k:Int),.int .u64 (n:Int),.string t,.slice VA vl vc,.int .u8 (code:Int),.bool bb,.slice KA kl kc,.complex .f64 (fb re) (fb im)],.slice A m c] w (GivesL2 base (l++(be n W)) w):=by
 have hbx:=Bx.new w (.slice NA nl nc) (.int .u8 (k:Int)) (.int .u64 (n:Int)) (.string t) (.slice VA vl vc) (.int .u8 (code:Int)) (.bool bb) (.slice KA kl kc) (.complex .f64 (fb re) (fb im));have hB:Below base w (w.alloc (.cells #[.slice NA nl nc,.int .u8 (k:Int),.int .u64 (n:Int),.string t,.slice VA vl vc,.int .u8 (code:Int),.bool bb,.slice KA kl kc,.complex .f64 (fb re) (fb im)] 73)):=(Below.refl _ _).alloc hbase _;have hKB:KB w (w.alloc (.cells #[.slice NA nl nc,.int .u8 (k:Int),.int .u64 (n:Int),.string t,.slice VA vl vc,.int .u8 (code:Int),.bool bb,.slice KA kl kc,.complex .f64 (fb re) (fb im)] 73)):=(KB.refl _).alloc _;have ho1:=hown.alloc (.cells #[.slice NA nl nc,.int .u8 (k:Int),.int .u64 (n:Int),.string t,.slice VA vl vc,.int .u8 (code:Int),.bool bb,.slice KA kl kc,.complex .f64 (fb re) (fb im)] 73);have hml:=hown.len;have hs0:base≤(w.alloc (.cells #[.slice NA nl nc,.int .u8 (k:Int),.int .u64 (n:Int),.string t,.slice VA vl vc,.int .u8 (code:Int),.bool bb,.slice KA kl kc,.complex .f64 (fb re) (fb im)] 73)).heap.size:=by simp;omega
 have hsc:=store_cplx;have HX:=Lib.hid hbx;clear hbx;clear HX;obtain⟨h0,h8⟩:=hW;have d0:((W:Int)==0)=false:=by rw[beq_eq_false_iff_ne];omega
 have d1:decide ((k:Int) < 15)=true:=by simp;omega
 clear hk h0;go_enter Tryz.func94,Tryz.ntmps94;go_wp2_with (first
  | (go_at_call 124;refine(HW _).mono ?_;rintro e w1 ⟨rfl,rfl⟩)
  | (go_at_call 125;refine(elayn2_any base A m c l n W h8 _ ho1 hs0 (by omega)).mono ?_;rintro e w2 ⟨A2,n2,c2,rfl,ho2,hb2,hk2⟩))
 go_ret;exact GivesL2.mk rfl rfl ho2 (hB.trans hb2) (hKB.trans hk2)
set_option maxHeartbeats 1000000 in
theorem ld_text (NA:Option Addr)(nl nc k n:Nat)(t:ByteArray)(VA:Option Addr)(vl vc code:Nat)(bb:Bool)(KA:Option Addr)(kl kc re im:Nat)(W base:Nat)(A:Option Addr)(m c:Nat)(l:List Nat)(w:World)(HW:∀ wx:World,Calls Tryz.prog 124 #[.int .u8 (code:Int)] wx fun e w'=>e=.returned (.int .i64 (W:Nat))∧w'=wx)(hown:Own .u8 256 5 w base A m c l)(hbase:base≤w.heap.size)(hW:0 < W)(hk:15≤k∧k < 19)(hm:m+t.size≤1099511627776) :
  Calls Tryz.prog 94 #[.agg #[.slice NA nl nc,.int .u8 (k:Int),.int .u64 (n:Int),.string t,.slice VA vl vc,.int .u8 (code:Int),.bool bb,.slice KA kl kc,.complex .f64 (fb re) (fb im)],.slice A m c] w (GivesL2 base (l++(tb t)) w):=by
 have hbx:=Bx.new w (.slice NA nl nc) (.int .u8 (k:Int)) (.int .u64 (n:Int)) (.string t) (.slice VA vl vc) (.int .u8 (code:Int)) (.bool bb) (.slice KA kl kc) (.complex .f64 (fb re) (fb im));have hB:Below base w (w.alloc (.cells #[.slice NA nl nc,.int .u8 (k:Int),.int .u64 (n:Int),.string t,.slice VA vl vc,.int .u8 (code:Int),.bool bb,.slice KA kl kc,.complex .f64 (fb re) (fb im)] 73)):=(Below.refl _ _).alloc hbase _;have hKB:KB w (w.alloc (.cells #[.slice NA nl nc,.int .u8 (k:Int),.int .u64 (n:Int),.string t,.slice VA vl vc,.int .u8 (code:Int),.bool bb,.slice KA kl kc,.complex .f64 (fb re) (fb im)] 73)):=(KB.refl _).alloc _;have ho1:=hown.alloc (.cells #[.slice NA nl nc,.int .u8 (k:Int),.int .u64 (n:Int),.string t,.slice VA vl vc,.int .u8 (code:Int),.bool bb,.slice KA kl kc,.complex .f64 (fb re) (fb im)] 73);have hml:=hown.len;have hs0:base≤(w.alloc (.cells #[.slice NA nl nc,.int .u8 (k:Int),.int .u64 (n:Int),.string t,.slice VA vl vc,.int .u8 (code:Int),.bool bb,.slice KA kl kc,.complex .f64 (fb re) (fb im)] 73)).heap.size:=by simp;omega
 have hsc:=store_cplx;have HX:=Lib.hid hbx;clear hbx;clear HX;have d0:((W:Int)==0)=false:=by rw[beq_eq_false_iff_ne];omega
 have d1:decide ((k:Int) < 15)=false:=by simp;omega
 have d2:decide ((k:Int) < 19)=true:=by simp;omega
 clear hk hW;go_enter Tryz.func94,Tryz.ntmps94;go_wp2_with (first
  | (go_at_call 124;refine(HW _).mono ?_;rintro e w1 ⟨rfl,rfl⟩)
  | (at_builtin;refine wpList_appS rfl _ _ rfl rfl ho1 rfl (by omega) hs0 ?_;intro A2 c2 w2 hown2 hgrow2))
 go_ret;exact GivesL2.mk rfl rfl hown2 (hB.trans (below_grown ho1 hgrow2 hs0)) (hKB.trans (KB.grown ho1 hgrow2))
set_option maxHeartbeats 1000000 in
theorem ld_long (NA:Option Addr)(nl nc k n:Nat)(t:ByteArray)(VA:Option Addr)(vl vc code:Nat)(bb:Bool)(KA:Option Addr)(kl kc re im:Nat)(W base:Nat)(A:Option Addr)(m c:Nat)(l:List Nat)(w:World)(HW:∀ wx:World,Calls Tryz.prog 124 #[.int .u8 (code:Int)] wx fun e w'=>e=.returned (.int .i64 (W:Nat))∧w'=wx)(hown:Own .u8 256 5 w base A m c l)(hbase:base≤w.heap.size)(hW:0 < W∧W≤8)(hk:19≤k∧k≤21)(hm:m+W+t.size≤1099511627776) :
  Calls Tryz.prog 94 #[.agg #[.slice NA nl nc,.int .u8 (k:Int),.int .u64 (n:Int),.string t,.slice VA vl vc,.int .u8 (code:Int),.bool bb,.slice KA kl kc,.complex .f64 (fb re) (fb im)],.slice A m c] w (GivesL2 base (l++(be t.size W++tb t)) w):=by
 have hbx:=Bx.new w (.slice NA nl nc) (.int .u8 (k:Int)) (.int .u64 (n:Int)) (.string t) (.slice VA vl vc) (.int .u8 (code:Int)) (.bool bb) (.slice KA kl kc) (.complex .f64 (fb re) (fb im));have hB:Below base w (w.alloc (.cells #[.slice NA nl nc,.int .u8 (k:Int),.int .u64 (n:Int),.string t,.slice VA vl vc,.int .u8 (code:Int),.bool bb,.slice KA kl kc,.complex .f64 (fb re) (fb im)] 73)):=(Below.refl _ _).alloc hbase _;have hKB:KB w (w.alloc (.cells #[.slice NA nl nc,.int .u8 (k:Int),.int .u64 (n:Int),.string t,.slice VA vl vc,.int .u8 (code:Int),.bool bb,.slice KA kl kc,.complex .f64 (fb re) (fb im)] 73)):=(KB.refl _).alloc _;have ho1:=hown.alloc (.cells #[.slice NA nl nc,.int .u8 (k:Int),.int .u64 (n:Int),.string t,.slice VA vl vc,.int .u8 (code:Int),.bool bb,.slice KA kl kc,.complex .f64 (fb re) (fb im)] 73);have hml:=hown.len;have hs0:base≤(w.alloc (.cells #[.slice NA nl nc,.int .u8 (k:Int),.int .u64 (n:Int),.string t,.slice VA vl vc,.int .u8 (code:Int),.bool bb,.slice KA kl kc,.complex .f64 (fb re) (fb im)] 73)).heap.size:=by simp;omega
 have hsc:=store_cplx;have HX:=Lib.hid hbx;clear hbx;obtain⟨h0,h8⟩:=hW;have d0:((W:Int)==0)=false:=by rw[beq_eq_false_iff_ne];omega
 have d1:decide ((k:Int) < 15)=false:=by simp;omega
 have d2:decide ((k:Int) < 19)=false:=by simp;omega
 have d3:decide ((k:Int)≤21)=true:=by simp;omega
 clear hk h0;go_enter Tryz.func94,Tryz.ntmps94;go_wp2_with (first
  | (go_at_call 124;refine(HW _).mono ?_;rintro e w1 ⟨rfl,rfl⟩)
  | (go_at_call 125;refine(elayn2_any base A m c l t.size W h8 _ ho1 hs0 (by omega)).mono ?_;rintro e w2 ⟨A2,n2,c2,rfl,ho2,hb2,hk2⟩;obtain⟨c0,c1,c2',c3,c4,c5,c6,c7,c8,cf⟩:=(HX.out.kb hk2).all;have hs2:=Nat.le_trans hs0 hb2.size;have hl2:=ho2.len;rw[List.length_append,be_length] at hl2)
  | (at_builtin;refine wpList_appS rfl _ _ rfl rfl ho2 rfl (by omega) hs2 ?_;intro A3 c3' w3 hown3 hgrow3))
 go_ret;exact GivesL2.mk rfl (List.append_assoc _ _ _) hown3 ((hB.trans hb2).trans (below_grown ho2 hgrow3 hs2)) ((hKB.trans hk2).trans (KB.grown ho2 hgrow3))
set_option maxHeartbeats 1000000 in
theorem ld_kids (NA:Option Addr)(nl nc k n:Nat)(t:ByteArray)(VA:Option Addr)(vl vc code:Nat)(bb:Bool)(KA:Option Addr)(kl kc re im:Nat)(W base:Nat)(A:Option Addr)(m c:Nat)(l:List Nat)(w:World)(HW:∀ wx:World,Calls Tryz.prog 124 #[.int .u8 (code:Int)] wx fun e w'=>e=.returned (.int .i64 (W:Nat))∧w'=wx)(hown:Own .u8 256 5 w base A m c l)(hbase:base≤w.heap.size)(N:Nat)(IH:LayC N)(ks:List Pl)(hN:rankL ks≤N)(hkn:ks.length≤1099511627776)(hre:re≤1099511627776)(him:im≤1099511627776)(hFk:FineL 1099511627776 ks)(hKs:Ps w (Lo base) ks KA kl kc)(hW:0 < W∧W≤8)(hk:22≤k)(hm:m+(W+W+(layK ks).length)≤1099511627776) :
  Calls Tryz.prog 94 #[.agg #[.slice NA nl nc,.int .u8 (k:Int),.int .u64 (n:Int),.string t,.slice VA vl vc,.int .u8 (code:Int),.bool bb,.slice KA kl kc,.complex .f64 (fb re) (fb im)],.slice A m c] w (GivesL2 base (l++(be (W+re) W++be im W++layK ks)) w):=by
 have hbx:=Bx.new w (.slice NA nl nc) (.int .u8 (k:Int)) (.int .u64 (n:Int)) (.string t) (.slice VA vl vc) (.int .u8 (code:Int)) (.bool bb) (.slice KA kl kc) (.complex .f64 (fb re) (fb im));have hB:Below base w (w.alloc (.cells #[.slice NA nl nc,.int .u8 (k:Int),.int .u64 (n:Int),.string t,.slice VA vl vc,.int .u8 (code:Int),.bool bb,.slice KA kl kc,.complex .f64 (fb re) (fb im)] 73)):=(Below.refl _ _).alloc hbase _;have hKB:KB w (w.alloc (.cells #[.slice NA nl nc,.int .u8 (k:Int),.int .u64 (n:Int),.string t,.slice VA vl vc,.int .u8 (code:Int),.bool bb,.slice KA kl kc,.complex .f64 (fb re) (fb im)] 73)):=(KB.refl _).alloc _;have ho1:=hown.alloc (.cells #[.slice NA nl nc,.int .u8 (k:Int),.int .u64 (n:Int),.string t,.slice VA vl vc,.int .u8 (code:Int),.bool bb,.slice KA kl kc,.complex .f64 (fb re) (fb im)] 73);have hml:=hown.len;have hs0:base≤(w.alloc (.cells #[.slice NA nl nc,.int .u8 (k:Int),.int .u64 (n:Int),.string t,.slice VA vl vc,.int .u8 (code:Int),.bool bb,.slice KA kl kc,.complex .f64 (fb re) (fb im)] 73)).heap.size:=by simp;omega
 have hsc:=store_cplx;have HX:=Lib.hid hbx;clear hbx;obtain⟨h0,h8⟩:=hW;have d0:((W:Int)==0)=false:=by rw[beq_eq_false_iff_ne];omega
 have d1:decide ((k:Int) < 15)=false:=by simp;omega
 have d2:decide ((k:Int) < 19)=false:=by simp;omega
 have d3:decide ((k:Int)≤21)=false:=by simp;omega
 have HP:∀ wx:World,Calls Tryz.prog 84 #[.agg #[.slice NA nl nc,.int .u8 (k:Int),.int .u64 (n:Int),.string t,.slice VA vl vc,.int .u8 (code:Int),.bool bb,.slice KA kl kc,.complex .f64 (fb re) (fb im)],.int .i64 W] wx (GivesI (W+re) wx):=fun wx=>psize_any NA nl nc k n t VA vl vc code bb KA kl kc re im W wx (by omega) (by omega);have HC:∀ wx:World,Calls Tryz.prog 81 #[.agg #[.slice NA nl nc,.int .u8 (k:Int),.int .u64 (n:Int),.string t,.slice VA vl vc,.int .u8 (code:Int),.bool bb,.slice KA kl kc,.complex .f64 (fb re) (fb im)]] wx (GivesI im wx):=fun wx=>pcount_any NA nl nc k n t VA vl vc code bb KA kl kc re im wx (by omega);obtain⟨Z,hZ⟩:∃ Z,W+re=Z:=⟨_,rfl⟩;have hZ2:Z≤2199023255552:=by omega
 simp only[hZ] at HP ⊢;clear hk h0 hZ hre;have hl1:kl≤ks.length:=Nat.le_of_eq hKs.1;have hl2:ks.length≤kl:=Nat.le_of_eq hKs.1.symm;go_enter Tryz.func94,Tryz.ntmps94;go_wp2_with (first
  | (go_at_call 124;refine(HW _).mono ?_;rintro e w1 ⟨rfl,rfl⟩)
  | (go_at_call 84;(with_reducible refine(HP _).mono ?_);rintro e w2 ⟨rfl,hb2⟩;have ho2:=ho1.below hb2;have hB2:=hB.trans (hb2.mono hs0);have hK2:=hKB.trans (KB.below hb2);have hs2:=Nat.le_trans hs0 hb2.size)
  | (go_at_call 125;(with_reducible refine(elayn2_any base A m c l Z W h8 _ ho2 hs2 (by omega)).mono ?_);rintro e w3 ⟨A3,n3,c3',rfl,ho3,hb3,hk3⟩;have hB3:=hB2.trans hb3;have hK3:=hK2.trans hk3;have hs3:=Nat.le_trans hs2 hb3.size;have hl3:=ho3.len;rw[List.length_append,be_length] at hl3;obtain⟨c0,c1,c2',c3,c4,c5,c6,c7,c8,cf⟩:=(HX.out.kb ((KB.below hb2).trans hk3)).all)
  | (go_at_call 81;(with_reducible refine(HC _).mono ?_);rintro e w4 ⟨rfl,hb4⟩;have ho4:=ho3.below hb4;have hB4:=hB3.trans (hb4.mono hs3);have hK4:=hK3.trans (KB.below hb4);have hs4:=Nat.le_trans hs3 hb4.size)
  | (go_at_call 125;(with_reducible refine(elayn2_any base A3 n3 c3' (l++be Z W) im W h8 _ ho4 hs4 (by omega)).mono ?_);rintro e w5 ⟨A5,n5,c5',rfl,ho5,hb5,hk5⟩;have hB5:=hB4.trans hb5;have hK5:=hK4.trans hk5;have hl5:=ho5.len;rw[List.length_append,List.length_append,be_length,be_length] at hl5;clear c0 c1 c2' c3 c4 c5 c6 c7 c8 cf;obtain⟨c0,c1,c2',c3,c4,c5,c6,c7,c8,cf⟩:=(HX.out.kb (((KB.below hb2).trans hk3).trans ((KB.below hb4).trans hk5))).all))
 go_loopw [1,70] (fun v i wr=>∃ j A' n' c':_,j≤kl∧i=.int .i64 (j:Nat)∧v=.slice A' n' c'∧Own .u8 256 5 wr base A' n' c' (l++be Z W++be im W++layK (ks.take j))∧Below base w wr∧KB w wr) (fun _ i _=>kl - (intOf i).toNat)
 case atStart=>exact⟨0,A5,n5,c5',Nat.zero_le _,rfl,rfl,by simpa [layK] using ho5,hB5,hK5⟩
 case round=>
  clear c0 c1 c2' c3 c4 c5 c6 c7 c8 cf;obtain⟨j,A',n',c',hj,rfl,rfl,ho,hb,hkb⟩:=hrel;have hs:=hb.size;by_cases hlt:j < kl
  ·obtain⟨b,o,ns',k',n'',t',code',bb',ks',re',im',NA',nl',nc',VA',vl',vc',KA',kl',kc',rfl,hb',hx,⟨a0,a1,a2,a3,a4,a5,a6,a7,a8⟩,hN',hK'⟩:=(ps_lo hKs hb).at_ hlt;have hrk:=rankL_at hx;have hfn:=fineL_at hFk hx;have HT:=Lib.hid (layK_take hx);have htl:=layK_take_le ks (j+1);have hln:=ho.len;simp only[List.length_append,be_length] at hln;obtain⟨LP,hLP⟩:∃ LP,lay (.mk ns' k' n'' t' code' bb' ks' re' im')=LP:=⟨_,rfl⟩;have hT2:=congrArg List.length HT.out;rw[List.length_append,hLP] at hT2;have hcall:∀ wx:World,Ps wx (Lo base) ns' NA' nl' nc'→Ps wx (Lo base) ks' KA' kl' kc'→Own .u8 256 5 wx base A' n' c' (l++be Z W++be im W++layK (ks.take j))→base≤wx.heap.size→Calls Tryz.prog 50 #[.agg #[.slice NA' nl' nc',.int .u8 (k':Int),.int .u64 (n'':Int),.string t',.slice VA' vl' vc',.int .u8 (code':Int),.bool bb',.slice KA' kl' kc',.complex .f64 (fb re') (fb im')],.slice A' n' c'] wx (GivesL2 base (l++be Z W++be im W++layK (ks.take j)++LP) wx):=fun wx x1 x2 x3 x4=>
    hLP▸IH ns' ks' NA' nl' nc' k' n'' t' VA' vl' vc' code' bb' KA' kl' kc' re' im' base A' n' c' _ wx (by omega) hfn x1 x2 x3 x4 (by rw[hLP];omega)
   have HT':Hid (layK (ks.take (j+1))=layK (ks.take j)++LP):=Lib.hid (by rw[HT.out,hLP]);have hB':Below base wr (wr.alloc (.cells #[.slice NA' nl' nc',.int .u8 (k':Int),.int .u64 (n'':Int),.string t',.slice VA' vl' vc',.int .u8 (code':Int),.bool bb',.slice KA' kl' kc',.complex .f64 (fb re') (fb im')] 73)):=(Below.refl _ _).alloc (by omega) _;clear hLP HT hfn hrk htl hT2 hln hx;go_wp2_with (go_at_call 50;refine(hcall _ (ps_lo hN' hB') (ps_lo hK' hB') (ho.alloc _) (by simp;omega)).mono ?_;rintro e w6 ⟨A6,n6,c6',rfl,ho6,hb6,hk6⟩;have hb7:=(hb.trans hB').trans hb6;have hk7:=(hkb.alloc _).trans hk6);go_roundw
   case rel=>exact⟨j+1,A6,n6,c6',by omega,by go_num,rfl,by rw[HT'.out,←List.append_assoc];exact ho6,hb7,hk7⟩
   case measure=>simp[intOf];omega
  ·have HE:Hid (ks.take j=ks):=Lib.hid (List.take_of_length_le (by omega));go_wp2;go_ret;exact GivesL2.mk rfl (by rw[HE.out,List.append_assoc,List.append_assoc,List.append_assoc]) ho hb hkb
theorem layData_any (N:Nat)(IH:LayC N)(ks:List Pl)(NA:Option Addr)(nl nc k n:Nat)(t:ByteArray)(VA:Option Addr)(vl vc code:Nat)(bb:Bool)(KA:Option Addr)(kl kc re im:Nat)(base:Nat)(A:Option Addr)(m c:Nat)(l:List Nat)(w:World)(hN:rankL ks≤N)(hkn:ks.length≤1099511627776)(hcode:64≤code∧code < 256)(hre:re≤1099511627776)(him:im≤1099511627776)
  (hw8:wid code≤8∨(15≤k∧k < 19)) (hFk:FineL 1099511627776 ks) (hKs:Ps w (Lo base) ks KA kl kc) (hown:Own .u8 256 5 w base A m c l) (hbase:base≤w.heap.size) (hm:m+(dlay k n t code re im (layK ks)).length≤1099511627776) :
  Calls Tryz.prog 94 #[.agg #[.slice NA nl nc,.int .u8 (k:Int),.int .u64 (n:Int),.string t,.slice VA vl vc,.int .u8 (code:Int),.bool bb,.slice KA kl kc,.complex .f64 (fb re) (fb im)],.slice A m c] w (GivesL2 base (l++dlay k n t code re im (layK ks)) w):=by
 have HW:∀ wx:World,Calls Tryz.prog 124 #[.int .u8 (code:Int)] wx fun e w'=>e=.returned (.int .i64 (wid code:Nat))∧w'=wx:=fun wx=>width_any code hcode.1 hcode.2 wx;unfold dlay at hm ⊢;by_cases h0:wid code=0
 ·rw[if_pos h0];exact ld_none NA nl nc k n t VA vl vc code bb KA kl kc re im _ base A m c l w HW hown hbase h0
 rw[if_neg h0] at hm ⊢;by_cases hk1:k < 15
 ·rw[if_pos hk1] at hm ⊢;exact ld_num NA nl nc k n t VA vl vc code bb KA kl kc re im _ base A m c l w HW hown hbase (by omega) hk1 (by omega)
 rw[if_neg hk1] at hm ⊢;by_cases hk2:k < 19
 ·rw[if_pos hk2] at hm ⊢;rw[tb_length] at hm;exact ld_text NA nl nc k n t VA vl vc code bb KA kl kc re im _ base A m c l w HW hown hbase (by omega) (by omega) (by omega)
 rw[if_neg hk2] at hm ⊢;by_cases hk3:k≤21
 ·rw[if_pos hk3] at hm ⊢;rw[List.length_append,tb_length,be_length] at hm;exact ld_long NA nl nc k n t VA vl vc code bb KA kl kc re im _ base A m c l w HW hown hbase (by omega) (by omega) (by omega)
 rw[if_neg hk3] at hm ⊢;rw[List.length_append,List.length_append,be_length,be_length] at hm;exact ld_kids NA nl nc k n t VA vl vc code bb KA kl kc re im _ base A m c l w HW hown hbase N IH ks hN hkn hre him hFk hKs (by omega) (by omega) (by omega)
end Go.Proofs.YtcilmmdmkpnppaaGreatDoor.Enc
namespace Go.Proofs.YtcilmmdmkpnppaaGreatDoor.Enc
set_option maxRecDepth 100000
open Go.RowKit Utf Val
theorem lay_bare (ns ks:List Pl)(k n:Nat)(t:ByteArray)(code re im:Nat):lay (.mk ns k n t code true ks re im)=dlay k n t code re im (layK ks):=by rw[lay,if_pos rfl]
theorem lay_whole (ns ks:List Pl)(k n:Nat)(t:ByteArray)(code re im:Nat):lay (.mk ns k n t code false ks re im)=layN ns++(code::dlay k n t code re im (layK ks)):=by rw[lay,if_neg (by decide)]
theorem bnd (x:Nat)(hx:x < 256):∀ y∈[x],y < 256:=by intro y hy;simp at hy;omega
set_option maxHeartbeats 1000000 in
theorem lay_step (N:Nat)(IH:∀ M,M < N→LayC M):LayC N:=by
 intro ns ks NA nl nc k n t VA vl vc code bb KA kl kc re im base A m c l w hN hF hNs hKs hown hbase hm;obtain⟨⟨h1,h2,ht,hre,him,hlong,hw8⟩,hkn,hFn,hFk⟩:=hF;simp only[rank] at hN;have hbx:=Bx.new w (.slice NA nl nc) (.int .u8 (k:Int)) (.int .u64 (n:Int)) (.string t) (.slice VA vl vc) (.int .u8 (code:Int)) (.bool bb) (.slice KA kl kc) (.complex .f64 (fb re) (fb im));have hB:Below base w (w.alloc (.cells #[.slice NA nl nc,.int .u8 (k:Int),.int .u64 (n:Int),.string t,.slice VA vl vc,.int .u8 (code:Int),.bool bb,.slice KA kl kc,.complex .f64 (fb re) (fb im)] 73)):=(Below.refl _ _).alloc hbase _;have hKB:KB w (w.alloc (.cells #[.slice NA nl nc,.int .u8 (k:Int),.int .u64 (n:Int),.string t,.slice VA vl vc,.int .u8 (code:Int),.bool bb,.slice KA kl kc,.complex .f64 (fb re) (fb im)] 73)):=(KB.refl _).alloc _;have hs0:base≤(w.alloc (.cells #[.slice NA nl nc,.int .u8 (k:Int),.int .u64 (n:Int),.string t,.slice VA vl vc,.int .u8 (code:Int),.bool bb,.slice KA kl kc,.complex .f64 (fb re) (fb im)] 73)).heap.size:=by simp;omega
 have hsc:=store_cplx;have HX:=Lib.hid hbx;clear hbx;cases bb
 ·rw[lay_whole] at hm ⊢;have hl1:nl≤ns.length:=Nat.le_of_eq hNs.1;have hl2:ns.length≤nl:=Nat.le_of_eq hNs.1.symm;have hnl:nl≤1099511627776:=by have:=longN_len ns;omega
  obtain⟨DL,hDL⟩:∃ DL,dlay k n t code re im (layK ks)=DL:=⟨_,rfl⟩;have hml:=hown.len;rw[hDL] at hm ⊢;simp only[List.length_append,List.length_cons] at hm;have HD:∀ (A':Option Addr) (m' c':Nat) (l':List Nat) (wx:World),Below base w wx→Own .u8 256 5 wx base A' m' c' l'→base≤wx.heap.size→m'+DL.length≤1099511627776→Calls Tryz.prog 94 #[.agg #[.slice NA nl nc,.int .u8 (k:Int),.int .u64 (n:Int),.string t,.slice VA vl vc,.int .u8 (code:Int),.bool false,.slice KA kl kc,.complex .f64 (fb re) (fb im)],.slice A' m' c'] wx (GivesL2 base (l'++DL) wx):=fun A' m' c' l' wx hb ho hs hm'=>
   hDL▸layData_any (rankL ks) (IH _ (by omega)) ks NA nl nc k n t VA vl vc code false KA kl kc re im base A' m' c' l' wx (Nat.le_refl _) hkn ⟨h1,h2⟩ hre him hw8 hFk (ps_lo hKs hb) ho hs (by rw[hDL];exact hm')
  clear hDL;have hm2:m+((layN ns).length+(DL.length+1))≤1099511627776:=hm;clear hm;go_enter Tryz.func50,Tryz.ntmps50;go_wp2;go_loopw [1,15] (fun v i wr=>∃ j A' n' c':_,j≤nl∧i=.int .i64 (j:Nat)∧v=.slice A' n' c'∧Own .u8 256 5 wr base A' n' c' (l++layN (ns.take j))∧Below base w wr∧KB w wr∧Bx wr w.heap.size (.slice NA nl nc) (.int .u8 (k:Int)) (.int .u64 (n:Int)) (.string t) (.slice VA vl vc) (.int .u8 (code:Int)) (.bool false) (.slice KA kl kc) (.complex .f64 (fb re) (fb im))) (fun _ i _=>nl - (intOf i).toNat)
  case atStart=>exact⟨0,A,m,c,Nat.zero_le _,rfl,rfl,by simpa [layN] using hown.alloc _,hB,hKB,HX.out⟩
  case round=>
   obtain⟨j,A',n',c',hj,rfl,rfl,ho,hb,hkb,hX⟩:=hrel;have hs:base≤wr.heap.size:=Nat.le_trans hbase hb.size;have HX':=Lib.hid hX;by_cases hlt:j < nl
   ·clear hX;obtain⟨b,o,ns',k',n'',t',code',bb',ks',re',im',NA',nl',nc',VA',vl',vc',KA',kl',kc',rfl,hb',hx,⟨a0,a1,a2,a3,a4,a5,a6,a7,a8⟩,hN',hK'⟩:=(ps_lo hNs hb).at_ hlt;have hrk:=rankL_at hx;have hfn:=fineL_at hFn hx;have HT:=Lib.hid (layN_take hx);have htl:=layN_take_le ns (j+1);have hln:=ho.len;simp only[List.length_append] at hln;obtain⟨LP,hLP⟩:∃ LP,lay (.mk ns' k' n'' t' code' bb' ks' re' im')=LP:=⟨_,rfl⟩;have hT2:=congrArg List.length HT.out;rw[List.length_append,hLP,List.length_cons] at hT2;have hcall:∀ (A1:Option Addr) (n1 c1:Nat) (wx:World),Below base wr wx→Own .u8 256 5 wx base A1 n1 c1 (l++layN (ns.take j)++[0])→base≤wx.heap.size→Calls Tryz.prog 50 #[.agg #[.slice NA' nl' nc',.int .u8 (k':Int),.int .u64 (n'':Int),.string t',.slice VA' vl' vc',.int .u8 (code':Int),.bool bb',.slice KA' kl' kc',.complex .f64 (fb re') (fb im')],.slice A1 n1 c1] wx (GivesL2 base (l++layN (ns.take j)++[0]++LP) wx):=fun A1 n1 c1 wx x1 x2 x3=>
     hLP▸IH (rankL ns) (by omega) ns' ks' NA' nl' nc' k' n'' t' VA' vl' vc' code' bb' KA' kl' kc' re' im' base A1 n1 c1 _ wx hrk hfn (ps_lo hN' x1) (ps_lo hK' x1) x2 x3 (by have:=x2.len;simp only[List.length_append,List.length_cons,List.length_nil] at this;rw[hLP];omega)
    have hn1:n'+1≤17592186044416:=by omega
    have HT':Hid (layN (ns.take (j+1))=layN (ns.take j)++(0::LP)):=Lib.hid (by rw[HT.out,hLP]);have hB':Below base wr (wr.alloc (.cells #[.slice NA' nl' nc',.int .u8 (k':Int),.int .u64 (n'':Int),.string t',.slice VA' vl' vc',.int .u8 (code':Int),.bool bb',.slice KA' kl' kc',.complex .f64 (fb re') (fb im')] 73)):=(Below.refl _ _).alloc hs _;have hkB:KB wr (wr.alloc (.cells #[.slice NA' nl' nc',.int .u8 (k':Int),.int .u64 (n'':Int),.string t',.slice VA' vl' vc',.int .u8 (code':Int),.bool bb',.slice KA' kl' kc',.complex .f64 (fb re') (fb im')] 73)):=(KB.refl _).alloc _;have hX2:=Bx.new wr (.slice NA' nl' nc') (.int .u8 (k':Int)) (.int .u64 (n'':Int)) (.string t') (.slice VA' vl' vc') (.int .u8 (code':Int)) (.bool bb') (.slice KA' kl' kc') (.complex .f64 (fb re') (fb im'));obtain⟨WA,hWA⟩:∃ WA,wr.alloc (.cells #[.slice NA' nl' nc',.int .u8 (k':Int),.int .u64 (n'':Int),.string t',.slice VA' vl' vc',.int .u8 (code':Int),.bool bb',.slice KA' kl' kc',.complex .f64 (fb re') (fb im')] 73)=WA:=⟨_,rfl⟩;obtain⟨H,hH⟩:∃ H,wr.heap.size=H:=⟨_,rfl⟩;have hoA:=ho.alloc (.cells #[.slice NA' nl' nc',.int .u8 (k':Int),.int .u64 (n'':Int),.string t',.slice VA' vl' vc',.int .u8 (code':Int),.bool bb',.slice KA' kl' kc',.complex .f64 (fb re') (fb im')] 73);simp only[hWA,hH] at hB' hkB hX2 hoA;have hsA:base≤WA.heap.size:=Nat.le_trans hs hB'.size;clear hLP HT hfn hrk htl hT2 hln hx hm2;obtain⟨i0,hi,hz0,hz1,hz2⟩:=info_parts infoU8;have HX2:=Lib.hid hX2;obtain⟨c0,c1,c2,c3,c4,c5,c6,c7,c8,cf⟩:=hX2.all;obtain⟨q0,q1,q2,q3,q4,q5,q6,q7,q8,qf⟩:=(HX2.out.alloc (.cells #[.int .u8 0] 5)).all;have HWA:=Lib.hid hWA;have HHS:=Lib.hid hH;clear hX2;go_wp2_with fail;clear hWA hH;go_region_law (first
     | (refine step_own (K:=.u8) (M:=256) rfl _ _ 23 rfl i0 1 Tryz.underlying23 hi hz0 (by omega) hz1 hz2 rfl (by exact(hoA.alloc _)) ⟨WA.heap.size,0,none⟩ 1 1 [0] rfl rfl (by simp) (by exact news_one _ _ _ _ (by simp)) (by omega) (by unfold maxLen;omega) (by omega) (by simp;omega) _ rfl ?_;intro g9 cap9 w9 ho9 hgrow9 _ hlt9;have hk9:KB WA w9:=((KB.drew WA).alloc (.cells #[.int .u8 0] 5)).trans (KB.grown (show Own .u8 256 5 (WA.drew.alloc (.cells #[.int .u8 0] 5)) base A' n' c' _ from hoA.alloc _) hgrow9);have hb9:Below base WA w9:=(((Below.refl base WA).drew).alloc hsA (.cells #[.int .u8 0] 5)).trans (below_grown (show Own .u8 256 5 (WA.drew.alloc (.cells #[.int .u8 0] 5)) base A' n' c' _ from hoA.alloc _) hgrow9 (by simp;omega));have hs9:=Nat.le_trans hsA hb9.size;clear c0 c1 c2 c3 c4 c5 c6 c7 c8 cf;obtain⟨c0,c1,c2,c3,c4,c5,c6,c7,c8,cf⟩:=(HX2.out.kb hk9).all)
     | (go_simp;go_at_call 50;(with_reducible refine(hcall (some ⟨g9,0,none⟩) (n'+1) cap9 w9 (hB'.trans hb9) ho9 hs9).mono ?_);rintro e w6 ⟨A6,n6,c6',rfl,ho6,hb6,hk6⟩))
    all_goals
     go_wp2_with fail;go_roundw
     case rel=>exact⟨j+1,A6,n6,c6',by omega,by go_num,rfl,ho6.eqv (by rw[HT'.out];simp),((hb.trans hB').trans hb9).trans hb6,((hkb.trans hkB).trans hk9).trans hk6,HX'.out.kb ((hkB.trans hk9).trans hk6)⟩
     case measure=>simp[intOf];omega
   ·have HE:Hid (ns.take j=ns):=Lib.hid (List.take_of_length_le (by omega));have hln:=ho.len;rw[HE.out,List.length_append] at hln;have hn1:n'+1≤17592186044416:=by omega
    have hn2:n'+1+DL.length≤1099511627776:=by omega
    obtain⟨i0,hi,hz0,hz1,hz2⟩:=info_parts infoU8;obtain⟨c0,c1,c2,c3,c4,c5,c6,c7,c8,cf⟩:=hX.all;obtain⟨q0,q1,q2,q3,q4,q5,q6,q7,q8,qf⟩:=(HX'.out.alloc (.cells #[.int .u8 (code:Int)] 5)).all;clear hX hm2 hln;go_wp2_with fail;go_region_law (first
     | (refine step_own (K:=.u8) (M:=256) rfl _ _ 23 rfl i0 1 Tryz.underlying23 hi hz0 (by omega) hz1 hz2 rfl (by exact(ho.alloc _)) ⟨wr.heap.size,0,none⟩ 1 1 [code] rfl rfl (bnd code h2) (by exact news_one _ _ _ _ (by simp)) (by omega) (by unfold maxLen;omega) (by omega) (by simp;omega) _ rfl ?_;intro g9 cap9 w9 ho9 hgrow9 _ hlt9;have hk9:KB wr w9:=((KB.drew wr).alloc (.cells #[.int .u8 (code:Int)] 5)).trans (KB.grown (show Own .u8 256 5 (wr.drew.alloc (.cells #[.int .u8 (code:Int)] 5)) base A' n' c' _ from ho.alloc _) hgrow9);have hb9:Below base wr w9:=(((Below.refl base wr).drew).alloc hs (.cells #[.int .u8 (code:Int)] 5)).trans (below_grown (show Own .u8 256 5 (wr.drew.alloc (.cells #[.int .u8 (code:Int)] 5)) base A' n' c' _ from ho.alloc _) hgrow9 (by simp;omega));have hs9:=Nat.le_trans hs hb9.size;clear c0 c1 c2 c3 c4 c5 c6 c7 c8 cf;obtain⟨c0,c1,c2,c3,c4,c5,c6,c7,c8,cf⟩:=(HX'.out.kb hk9).all)
     | (go_simp;go_at_call 94;(with_reducible refine(HD (some ⟨g9,0,none⟩) (n'+1) cap9 _ w9 (hb.trans hb9) ho9 hs9 hn2).mono ?_);rintro e w6 ⟨A6,n6,c6',rfl,ho6,hb6,hk6⟩))
    all_goals
     go_wp2_with fail;go_ret;exact GivesL2.mk rfl (by rw[HE.out];simp) ho6 ((hb.trans hb9).trans hb6) ((hkb.trans hk9).trans hk6)
 ·rw[lay_bare] at hm ⊢;have HD:∀ (wx:World),Below base w wx→Own .u8 256 5 wx base A m c l→base≤wx.heap.size→Calls Tryz.prog 94 #[.agg #[.slice NA nl nc,.int .u8 (k:Int),.int .u64 (n:Int),.string t,.slice VA vl vc,.int .u8 (code:Int),.bool true,.slice KA kl kc,.complex .f64 (fb re) (fb im)],.slice A m c] wx (GivesL2 base (l++dlay k n t code re im (layK ks)) wx):=fun wx hb ho hs=>
   layData_any (rankL ks) (IH _ (by omega)) ks NA nl nc k n t VA vl vc code true KA kl kc re im base A m c l wx (Nat.le_refl _) hkn ⟨h1,h2⟩ hre him hw8 hFk (ps_lo hKs hb) ho hs hm
  clear hm hw8 ht hre him hlong h1 h2;go_enter Tryz.func50,Tryz.ntmps50;go_wp2_with (go_at_call 94;(with_reducible refine(HD _ hB (hown.alloc _) hs0).mono ?_);rintro e w2 ⟨A2,n2,c2,rfl,ho2,hb2,hk2⟩);go_ret;exact GivesL2.mk rfl rfl ho2 (hB.trans hb2) (hKB.trans hk2)
theorem lay2_any (N:Nat):LayC N:=by
 induction N using Nat.strongRecOn with
 | ind N ih=>exact lay_step N ih
end Go.Proofs.YtcilmmdmkpnppaaGreatDoor.Enc
