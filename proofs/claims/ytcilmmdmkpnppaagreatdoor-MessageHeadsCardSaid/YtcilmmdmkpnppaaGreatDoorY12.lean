/-
  Contracts of functions and plain mathematics, text by text, each with its conditions ahead of it:
  A region that draws its order, by an invariant: what holds of the operations done holds when one more is done, whichever may be next; then it holds of all. No condition.
  encode.allCodes' great region, whose operations may be done in any order that they allow: what each of them leaves, told by a table; a check of the table against the operations; the invariant. No condition.
  The invariant of encode.allCodes' great region: kept by each operation. No condition.
  Each operation of encode.allCodes' great region keeps the invariant, whichever is next. No condition.
  Each operation of encode.allCodes' great region keeps the invariant, whichever is next. No condition.
  Contract of encode.allCodes: a map of all kinds' choices, in new memory. No condition.
  Contracts of encode.canAll and first: the first code that can tell all. Memory that was there stays. Condition: what plans tell of their kids is below 2^50.
  Rows of plans that the call itself makes: what lies in them, and how one more is appended. No condition.
-/
import Derived.Test.YtcilmmdmkpnppaaGreatDoorY11
import Derived.Orders
section
namespace Go.Proofs.YtcilmmdmkpnppaaGreatDoor.Enc
section
variable {P:Program} {md:Region.Mode} {ops:Array Oper} {Q:Exit→Act→World→Prop}
theorem ready_mem {listed:Array Bool}{i:Nat}(h:i∈Region.ready md ops listed):i < ops.size∧listed.getD i true=false∧∃ o,ops[i]? = some o∧∀ e∈o.after,Region.binds md e=true→listed.getD e.on false=true:=by
 simp only[Region.ready,List.mem_filter,List.mem_range,Bool.and_eq_true,Bool.not_eq_true'] at h;obtain⟨h1,h2,h3⟩:=h;refine⟨h1,h2,ops[i],Array.getElem?_eq_getElem h1,fun e he hb=>?_⟩;rw[Array.getElem?_eq_getElem h1] at h3;simp only[Option.map_some,Option.getD_some,Array.all_eq_true',Bool.or_eq_true,Bool.not_eq_true'] at h3;rcases h3 e he with h | h
 ·rw[h] at hb;cases hb
 ·exact h
theorem ready_of {listed:Array Bool}{i:Nat}{o:Oper}(hi:ops[i]? = some o)(h0:listed.getD i true=false)(h:∀ e∈o.after,listed.getD e.on false=true):i∈Region.ready md ops listed:=by
 have h1:=(Array.getElem?_eq_some_iff.1 hi).1;simp only[Region.ready,List.mem_filter,List.mem_range,Bool.and_eq_true,Bool.not_eq_true'];refine⟨h1,h0,?_⟩;rw[hi];simp only[Option.map_some,Option.getD_some,Array.all_eq_true',Bool.or_eq_true,Bool.not_eq_true'];exact fun e he=>.inr (h e he)
theorem all_done {listed:Array Bool}(hs:listed.size=ops.size)(hr:Region.ready md ops listed=[])(hlow:∀ (i:Nat) (o:Oper),ops[i]? = some o→∀ e∈o.after,e.on < i):∀ i,i < ops.size→listed.getD i false=true:=by
 intro i
 induction i using Nat.strongRecOn with
 | ind i ih=>
  intro hi;cases hl:listed.getD i false with
  | true=>rfl
  | false=>
   exfalso
   have hl':listed.getD i true=false:=by
    simp only[Array.getD,hs,hi,dif_pos] at hl ⊢;exact hl
   have:=ready_of (md:=md) (Array.getElem?_eq_getElem hi) hl' fun e he=>by
    have hlt:=hlow i _ (Array.getElem?_eq_getElem hi) e he;exact ih e.on hlt (by omega)
   rw[hr] at this;cases this
theorem count_less {l:Array Bool}{i:Nat}(hi:i < l.size)(h:l.getD i true=false):(l.setIfInBounds i true).toList.count false+1=l.toList.count false:=by
 have hi':i < l.toList.length:=by simpa using hi
 have e:l.toList[i]=false:=by
  simp only[Array.getD,hi,dif_pos] at h
  simpa using h
 have hm:false∈l.toList:=e▸List.getElem_mem hi';have hp:0 < l.toList.count false:=List.count_pos_iff.2 hm;rw[Array.toList_setIfInBounds,List.count_set hi',e];have e1:(if (false==false)=true then 1 else 0)=1:=rfl;have e2:(if (true==false)=true then 1 else 0)=0:=rfl;rw[e1,e2];omega
theorem wpAny_inv (I:Array Bool→Act→World→Prop)(hsz:∀ listed a w,I listed a w→listed.size=ops.size)
  (step:∀ listed a w i,I listed a w→i∈Region.ready md ops listed→wpOp P ops Q i (fun a' w'=>I (listed.setIfInBounds i true) a' w') a w)
  (done:∀ listed a w,I listed a w→Region.ready md ops listed=[]→Q .normal a w) :
  ∀ fuel listed a w,I listed a w→listed.toList.count false≤fuel→wpAny P md ops Q fuel listed a w:=by
 intro fuel
 induction fuel with
 | zero=>
  intro listed a w hI hc;have hr:Region.ready md ops listed=[]:=by
   rw[Region.ready,List.filter_eq_nil_iff];intro i hi h;have hi':i < listed.size:=by rw[hsz _ _ _ hI];exact List.mem_range.1 hi
   simp only[Bool.and_eq_true,Bool.not_eq_true'] at h;have:=count_less hi' h.1;omega
  exact⟨hr,done _ _ _ hI hr⟩
 | succ fuel ih=>
  intro listed a w hI hc;refine⟨fun h=>done _ _ _ hI h,fun i hi=>?_⟩;obtain⟨h1,h2,_⟩:=ready_mem hi;have:=count_less (by rw[hsz _ _ _ hI];exact h1) h2;exact wpOp_mono (fun a' w' h=>ih _ _ _ h (by omega)) (step _ _ _ i hI hi)
theorem wp_region_inv {id:Nat}{a:Act}{w:World}(hm:P.follows .mixedOrders=true)(I:Array Bool→Act→World→Prop)(hsz:∀ listed a w,I listed a w→listed.size=ops.size)
  (step:∀ listed a w i,I listed a w→i∈Region.ready .any ops listed→wpOp P ops Q i (fun a' w'=>I (listed.setIfInBounds i true) a' w') a w)
  (done:∀ listed a w,I listed a w→Region.ready .any ops listed=[]→Q .normal a w) (h0:I (Array.replicate ops.size false) a { w with drawn:=w.drawn+1 }):(Code.region id ops true).wp P Q a w:=
 wp_region_any hm (wpAny_inv I hsz step done _ _ _ _ h0 (by simp))
end
end Go.Proofs.YtcilmmdmkpnppaaGreatDoor.Enc
namespace Go.Proofs.YtcilmmdmkpnppaaGreatDoor.Enc
set_option maxRecDepth 100000
open Go.RowKit Utf Val
def Can.eqb:Can→Can→Bool
 | .all,.all=>true
 | .just m,.just n=>m==n
 | .upto m,.upto n=>m==n
 | .short,.short=>true
 | .near,.near=>true
 | .none_,.none_=>true
 | .small,.small=>true
 | _,_=>false
theorem Can.eqb_iff {a b:Can}(h:a.eqb b=true):a=b:=by
 cases a<;>cases b<;>simp_all [Can.eqb]
inductive Sp where
 | can (f:Can) | maker (m:Nat) | cho (c:Nat) (f:Can) | ent (k:Nat) | map | ins (k:Nat)
def Sp.eqb:Sp→Sp→Bool
 | .can f,.can g=>f.eqb g
 | .maker m,.maker n=>m==n
 | .cho c f,.cho d g=>c==d&&f.eqb g
 | .ent k,.ent l=>k==l
 | .map,.map=>true
 | .ins k,.ins l=>k==l
 | _,_=>false
theorem Sp.eqb_iff {a b:Sp}(h:a.eqb b=true):a=b:=by
 cases a<;>cases b<;>simp_all [Sp.eqb]<;>first | exact Can.eqb_iff h | exact Can.eqb_iff h.2
def mkr (g:Nat)(m:Nat):Value:=if m=0 then .func (.func 87) #[] #[] else if m=1 then .func (.func 89) #[] #[] else .func (.func 91) #[] #[.pointer (some ⟨g,0,none⟩)]
def SlotOk (g:Nat)(w:World):Sp→Value→Prop
 | .can f,x=>CanV w f x
 | .maker m,x=>x=mkr g m
 | .cho c f,x=>∃ v,x=.agg #[.int .u8 (c:Int),v]∧CanV w f v
 | .ent k,x=>EntV w k x
 | .map,_=>True
 | .ins _,_=>True
theorem SlotOk.keep {g:Nat}{w w':World}(hk:Keep w w'):∀ {p:Sp} {x:Value},SlotOk g w p x→SlotOk g w' p x
 | .can _,_,h=>CanV.keep h hk.1 fun g hg o _=>hk.2 g hg o _
 | .maker _,_,h=>h
 | .cho _ _,_,⟨v,e,h⟩=>⟨v,e,h.keep hk.1 fun g hg o _=>hk.2 g hg o _⟩
 | .ent _,_,h=>EntV.keep h hk.1 hk.2
 | .map,_,_=>trivial
 | .ins _,_,_=>trivial
def tbl:List (Option Nat×Sp):=[(some 10,.map),(some 11,.maker 2),(some 12,.ent 1),(none,.ins 1),(some 13,.maker 0),(some 14,.can (.just 1)),(some 15,.cho 65 (.just 1)),(some 16,.maker 0),(some 17,.can (.just 0)),(some 18,.cho 66 (.just 0)),(some 19,.can .all),(some 20,.cho 86 (.all)),(some 21,.ent 2),(none,.ins 2),(some 22,.maker 2),(some 23,.ent 3),(none,.ins 3),(some 24,.maker 2),(some 25,.ent 4),(none,.ins 4),(some 26,.maker 0),(some 27,.can (.just 0)),(some 28,.cho 67 (.just 0)),(some 29,.maker 1),(some 30,.can (.upto 255)),(some 31,.cho 82 (.upto 255)),(some 32,.can .all),(some 33,.cho 112 (.all)),(some 34,.ent 5),(none,.ins 5),(some 35,.maker 0),(some 36,.can (.just 0)),(some 37,.cho 68 (.just 0)),(some 38,.maker 1),(some 39,.can (.upto 255)),(some 40,.cho 83 (.upto 255)),(some 41,.can .all),(some 42,.cho 128 (.all)),(some 43,.ent 6),(none,.ins 6),(some 44,.maker 2),(some 45,.ent 7),(none,.ins 7),(some 46,.maker 2),(some 47,.ent 8),(none,.ins 8),(some 48,.can .near),(some 49,.cho 84 (.near)),(some 50,.can .all),(some 51,.cho 113 (.all)),(some 52,.ent 9),(none,.ins 9),(some 53,.can .near),(some 54,.cho 85 (.near)),(some 55,.can .all),(some 56,.cho 129 (.all)),(some 57,.ent 10),(none,.ins 10),(some 58,.maker 2),(some 59,.ent 11),(none,.ins 11),(some 60,.maker 2),(some 61,.ent 12),(none,.ins 12),(some 62,.maker 2),(some 63,.ent 13),(none,.ins 13),(some 64,.maker 2),(some 65,.ent 14),(none,.ins 14),(some 66,.maker 2),(some 67,.ent 15),(none,.ins 15),(some 68,.maker 2),(some 69,.ent 16),(none,.ins 16),(some 70,.maker 2),(some 71,.ent 17),(none,.ins 17),(some 72,.maker 2),(some 73,.ent 18),(none,.ins 18),(some 74,.can .short),(some 75,.cho 160 (.short)),(some 76,.can .all),(some 77,.cho 176 (.all)),(some 78,.ent 19),(none,.ins 19),(some 79,.can .short),(some 80,.cho 161 (.short)),(some 81,.can .all),(some 82,.cho 177 (.all)),(some 83,.ent 20),(none,.ins 20),(some 84,.can .short),(some 85,.cho 163 (.short)),(some 86,.can .all),(some 87,.cho 179 (.all)),(some 88,.ent 21),(none,.ins 21),(some 89,.can .none_),(some 90,.cho 69 (.none_)),(some 91,.can .small),(some 92,.cho 192 (.small)),(some 93,.can .all),(some 94,.cho 208 (.all)),(some 95,.ent 22),(none,.ins 22),(some 96,.can .small),(some 97,.cho 193 (.small)),(some 98,.can .all),(some 99,.cho 209 (.all)),(some 100,.ent 23),(none,.ins 23),(some 101,.can .small),(some 102,.cho 224 (.small)),(some 103,.can .all),(some 104,.cho 240 (.all)),(some 105,.ent 24),(none,.ins 24),(some 106,.map),(some 0,.map)]
def depB (o:Oper)(s:Nat)(p:Sp):Bool:=o.after.any fun e=>Region.binds .any e&&(match tbl[e.on]? with
 | some (some d,q)=>d==s&&q.eqb p
 | _=>false)
def kfn (s:Nat)(f:Can):Bool:=(s==2&&f.eqb .none_)||(s==3&&f.eqb .short)||(s==4&&f.eqb .small)||(s==5&&f.eqb .near)
def onlyIn (k:Nat)(z:Int):Bool:=match chs k with
 | [(c,f)]=>f.eqb .all&&(z==(c:Int))
 | _=>false
def partsIn (o:Oper)(k n:Nat):List (Nat×Operand)→Bool
 | [(0,.tmp s0),(1,.tmp s1)]=>n==2&&(match chs k with
  | [(c0,f0),(c1,f1)]=>depB o s0 (.cho c0 f0)&&depB o s1 (.cho c1 f1)
  | _=>false)
 | [(0,.tmp s0),(1,.tmp s1),(2,.tmp s2)]=>n==3&&(match chs k with
  | [(c0,f0),(c1,f1),(c2,f2)]=>depB o s0 (.cho c0 f0)&&depB o s1 (.cho c1 f1)&&depB o s2 (.cho c2 f2)
  | _=>false)
 | _=>false
def okOp (i:Nat)(o:Oper):Bool:=o.guard.isNone&&(match tbl[i]? with
 | none=>false
 | some (d,p)=>o.dst==d&&(match p,o.op with
  | .map,.makeMap t none=>i==0&&t==75
  | .map,.move (.tmp s)=>depB o s .map&&depB o 10 .map
  | .map,.assign (.tmp s)=>depB o s .map&&depB o 10 .map
  | .can f,.move (.tmp s)=>kfn s f
  | .maker m,.move (.tmp s)=>s==m+6&&decide (m < 3)
  | .can f,.load t (.tmp s)=>t==106&&s==1&&f.eqb .all
  | .ent k,.call c=>(match c.callee,c.args.toList with
   | .value (.tmp s),[.const (.int .u8 z)]=>depB o s (.maker 2)&&onlyIn k z
   | _,_=>false)
  | .can (.just n),.call c=>(match c.callee,c.args.toList with
   | .value (.tmp s),[.const (.int .u64 z)]=>depB o s (.maker 0)&&(z==(n:Int))
   | _,_=>false)
  | .can (.upto n),.call c=>(match c.callee,c.args.toList with
   | .value (.tmp s),[.const (.int .u64 z)]=>depB o s (.maker 1)&&(z==(n:Int))
   | _,_=>false)
  | .cho c f,.build t parts=>t==112&&(match parts.toList with
   | [(0,.const (.int .u8 z)),(1,.tmp s)]=>(z==(c:Int))&&depB o s (.can f)
   | _=>false)
  | .ent k,.buildSlice t n parts=>t==110&&partsIn o k n parts.toList
  | .ins k,.insert t (.tmp m) (.const (.int .u8 z)) (.tmp s)=>t==75&&m==10&&(z==(k:Int))&&depB o 10 .map&&depB o s (.ent k)
  | _,_=>false))
def okAll (l:List Oper):Bool:=l.length==122&&(List.range 122).all fun i=>match l[i]? with
 | none=>false
 | some o=>okOp i o&&o.after.all fun e=>decide (e.on < i)
def tblOk:Bool:=tbl.length==122&&(List.range 122).all fun i=>match tbl[i]? with
 | some (some d,_)=>(decide (9 < d)||(d==0))&&decide (d < 107)&&(List.range 122).all fun j=>(j==i)||(match tbl[j]? with
  | some (some d',_)=>!(d'==d)
  | _=>true)
 | some (none,.ins k)=>decide (1≤k)&&decide (k≤24)&&(List.range 122).all fun j=>(j==i)||(match tbl[j]? with
  | some (none,.ins k')=>!(k'==k)
  | _=>true)
 | _=>false
theorem tbl_ok:tblOk=true:=by decide +kernel
end Go.Proofs.YtcilmmdmkpnppaaGreatDoor.Enc
namespace Go.Proofs.YtcilmmdmkpnppaaGreatDoor.Enc
set_option maxRecDepth 100000
open Go.RowKit Utf Val
theorem getD_set (t:Array Value)(d:Nat)(x:Value)(e:Nat)(u:Value)(hd:d < t.size):(t.setIfInBounds d x).getD e u=if e=d then x else t.getD e u:=by
 by_cases h:e=d
 ·subst h;simp[Array.getD,hd]
 ·rw[if_neg h];by_cases he:e < t.size
  ·simp[Array.getD,he,Ne.symm h]
  ·simp[Array.getD,he]
theorem getB_set (t:Array Bool)(d e:Nat)(hd:d < t.size):(t.setIfInBounds d true).getD e false=if e=d then true else t.getD e false:=by
 by_cases h:e=d
 ·subst h;simp[Array.getD,hd]
 ·rw[if_neg h];by_cases he:e < t.size
  ·simp[Array.getD,he,Ne.symm h]
  ·simp[Array.getD,he]
theorem tbl_slot {i d:Nat}{p:Sp}(ht:tbl[i]? = some (some d,p)):(9 < d∨d=0)∧d < 107∧∀ j d' q,j≠i→tbl[j]? = some (some d',q)→d'≠d:=by
 have hok:=tbl_ok;simp only[tblOk,Bool.and_eq_true,beq_iff_eq] at hok;obtain⟨hl,hall⟩:=hok;have hi:i < 122:=by rw[←hl];exact(List.getElem?_eq_some_iff.1 ht).1
 have h1:=List.all_eq_true.1 hall i (List.mem_range.2 hi);rw[ht] at h1;simp only[Bool.and_eq_true,Bool.or_eq_true,decide_eq_true_eq,beq_iff_eq] at h1;refine⟨h1.1.1,h1.1.2,fun j d' q hj hq=>?_⟩;have hj':j < 122:=by rw[←hl];exact(List.getElem?_eq_some_iff.1 hq).1
 have h2:=List.all_eq_true.1 h1.2 j (List.mem_range.2 hj');rw[hq] at h2;simp only[Bool.or_eq_true,beq_iff_eq,Bool.not_eq_true',beq_eq_false_iff_ne] at h2;rcases h2 with h2 | h2
 ·exact absurd h2 hj
 ·exact h2
theorem tbl_ins {i k:Nat}(ht:tbl[i]? = some (none,.ins k)):1≤k∧k≤24∧∀ j,j≠i→tbl[j]? ≠ some (none,.ins k):=by
 have hok:=tbl_ok;simp only[tblOk,Bool.and_eq_true,beq_iff_eq] at hok;obtain⟨hl,hall⟩:=hok;have hi:i < 122:=by rw[←hl];exact(List.getElem?_eq_some_iff.1 ht).1
 have h1:=List.all_eq_true.1 hall i (List.mem_range.2 hi);rw[ht] at h1;simp only[Bool.and_eq_true,decide_eq_true_eq] at h1;refine⟨h1.1.1,h1.1.2,fun j hj hq=>?_⟩;have hj':j < 122:=by rw[←hl];exact(List.getElem?_eq_some_iff.1 hq).1
 have h2:=List.all_eq_true.1 h1.2 j (List.mem_range.2 hj');rw[hq] at h2;simp only[Bool.or_eq_true,beq_iff_eq,beq_self_eq_true,Bool.not_true,Bool.false_eq_true,or_false] at h2;exact hj h2
theorem tbl_0:tbl[0]? = some (some 10,.map):=rfl
theorem tbl_none:∀ {i:Nat} {p:Sp},tbl[i]? = some (none,p)→∃ k,p=.ins k:=by
 intro i p ht;have hok:=tbl_ok;simp only[tblOk,Bool.and_eq_true,beq_iff_eq] at hok;obtain⟨hl,hall⟩:=hok;have hi:i < 122:=by rw[←hl];exact(List.getElem?_eq_some_iff.1 ht).1
 have h1:=List.all_eq_true.1 hall i (List.mem_range.2 hi);rw[ht] at h1;cases p with
 | ins k=>exact⟨k,rfl⟩
 | _=>simp at h1
def Sp.later:Sp→Bool
 | .map=>true
 | .ins _=>true
 | _=>false
structure Inv (W:World) (listed:Array Bool) (a:Act) (w:World):Prop where
 size:listed.size=122
 tms:a.tmps.size=107
 df:a.defers=[]
 stay:a.tmps.getD 1 undef=.pointer (some ⟨W.heap.size,0,none⟩)∧a.tmps.getD 2 undef=.func (.func 80) #[] #[]∧a.tmps.getD 3 undef=.func (.func 82) #[] #[]∧a.tmps.getD 4 undef=.func (.func 83) #[] #[]∧a.tmps.getD 5 undef=.func (.func 85) #[] #[] ∧
  a.tmps.getD 6 undef=mkr W.heap.size 0∧a.tmps.getD 7 undef=mkr W.heap.size 1∧a.tmps.getD 8 undef=mkr W.heap.size 2
 slots:∀ i d p,listed.getD i false=true→tbl[i]? = some (some d,p)→SlotOk W.heap.size w p (a.tmps.getD d undef)
 all:w.cell? ⟨W.heap.size,0,none⟩=some (.func (.func 79) #[] #[])
 low:Below W.heap.size W w
 lt:W.heap.size < w.heap.size
 map:listed.getD 0 false=true→∃ bm,W.heap.size < bm∧(∀ i d,listed.getD i false=true→tbl[i]? = some (some d,.map)→a.tmps.getD d undef=.map (some bm))∧MapS (fun k=>∃ i,listed.getD i false=true∧tbl[i]? = some (none,.ins k)) w bm
 early:listed.getD 0 false=false→∀ i d p,listed.getD i false=true→tbl[i]? = some (d,p)→p.later=false
section
variable {W:World} {listed:Array Bool} {a:Act} {w w':World} {i:Nat}
theorem stay_put {d:Nat}{x:Value}(h:Inv W listed a w)(hd:9 < d∨d=0)(hd2:d < 107):(a.put (some d) x).tmps.size=107∧(a.put (some d) x).defers=[]∧∀ e,1≤e→e≤9→(a.put (some d) x).tmps.getD e undef=a.tmps.getD e undef:=by
 refine⟨by simp[Act.put,h.tms],h.df,fun e h1 h2=>?_⟩;simp only[Act.put];rw[getD_set _ _ _ _ _ (by rw[h.tms];exact hd2),if_neg (by omega)]
theorem Inv.put (h:Inv W listed a w)(hi:i < 122){d:Nat}{p:Sp}(ht:tbl[i]? = some (some d,p))(hp:p.later=false){x:Value}(hb:Below w.heap.size w w')(hs:SlotOk W.heap.size w' p x):Inv W (listed.setIfInBounds i true) (a.put (some d) x) w':=by
 obtain⟨hd,hd2,hun⟩:=tbl_slot ht;obtain⟨e1,e2,e3⟩:=stay_put (x:=x) h hd hd2;have hk:=Keep.of_below hb;have hls:i < listed.size:=by rw[h.size];exact hi
 have hdt:d < a.tmps.size:=by rw[h.tms];exact hd2
 have hi0:i≠0:=fun e=>by subst e;rw[tbl_0] at ht;injection ht with ht;injection ht with _ ht;subst ht;cases hp
 have hslot:∀ j d' q,j≠i→tbl[j]? = some (some d',q)→(a.put (some d) x).tmps.getD d' undef=a.tmps.getD d' undef:=fun j d' q hj hq=>by
  simp only[Act.put];rw[getD_set _ _ _ _ _ hdt,if_neg (hun j d' q hj hq)]
 refine⟨by simp[h.size],e1,e2,?_,?_,hk.2 _ h.lt _ _ h.all,h.low.trans (hb.mono (Nat.le_of_lt h.lt)),Nat.lt_of_lt_of_le h.lt hb.size,?_,?_⟩
 ·obtain⟨s1,s2,s3,s4,s5,s6,s7,s8⟩:=h.stay;exact⟨(e3 1 (by omega) (by omega)).trans s1,(e3 2 (by omega) (by omega)).trans s2,(e3 3 (by omega) (by omega)).trans s3,(e3 4 (by omega) (by omega)).trans s4,(e3 5 (by omega) (by omega)).trans s5,(e3 6 (by omega) (by omega)).trans s6,(e3 7 (by omega) (by omega)).trans s7,(e3 8 (by omega) (by omega)).trans s8⟩
 ·intro j d' q hj hq;by_cases hji:j=i
  ·subst hji;rw[ht] at hq;injection hq with hq
   injection hq with h1 h2
   injection h1 with h1
   subst h1 h2;simp only[Act.put];rw[getD_set _ _ _ _ _ hdt,if_pos rfl];exact hs
  ·rw[getB_set _ _ _ hls,if_neg hji] at hj;rw[hslot j d' q hji hq];exact(h.slots j d' q hj hq).keep hk
 ·intro h0;rw[getB_set _ _ _ hls,if_neg (Ne.symm hi0)] at h0;obtain⟨bm,hbm,hm1,hm2⟩:=h.map h0;refine⟨bm,hbm,fun j d' hj hq=>?_,(hm2.call hb).same fun k=>?_⟩
  ·have hji:j≠i:=fun e=>by
    subst e;rw[ht] at hq;injection hq with hq
    injection hq with _ h2
    rw[h2] at hp;cases hp
   rw[getB_set _ _ _ hls,if_neg hji] at hj;rw[hslot j d' _ hji hq];exact hm1 j d' hj hq
  ·constructor
   ·rintro⟨j,hj,hq⟩;exact⟨j,by rw[getB_set _ _ _ hls];split<;>simp_all,hq⟩
   ·rintro⟨j,hj,hq⟩;have hji:j≠i:=fun e=>by subst e;rw[ht] at hq;cases hq
    rw[getB_set _ _ _ hls,if_neg hji] at hj;exact⟨j,hj,hq⟩
 ·intro h0 j d' q hj hq;rw[getB_set _ _ _ hls,if_neg (Ne.symm hi0)] at h0;by_cases hji:j=i
  ·subst hji;rw[ht] at hq;injection hq with hq
   injection hq with _ h2
   rw[←h2];exact hp
  ·rw[getB_set _ _ _ hls,if_neg hji] at hj;exact h.early h0 j d' q hj hq
theorem Inv.made (h:Inv W listed a w)(h0:listed.getD 0 false=false):Inv W (listed.setIfInBounds 0 true) (a.put (some 10) (.map (some w.heap.size))) (w.alloc (.map #[] 0)):=by
 obtain⟨hd,hd2,hun⟩:=tbl_slot tbl_0;obtain⟨e1,e2,e3⟩:=stay_put (x:=.map (some w.heap.size)) h hd hd2;have hb:Below w.heap.size w (w.alloc (.map #[] 0)):=(Below.refl _ _).alloc (Nat.le_refl _) _;have hk:=Keep.of_below hb;have hls:0 < listed.size:=by rw[h.size];omega
 have hdt:10 < a.tmps.size:=by rw[h.tms];omega
 have hslot:∀ j d' q,j≠0→tbl[j]? = some (some d',q)→(a.put (some 10) (.map (some w.heap.size))).tmps.getD d' undef=a.tmps.getD d' undef:=fun j d' q hj hq=>by
  simp only[Act.put];rw[getD_set _ _ _ _ _ hdt,if_neg (hun j d' q hj hq)]
 refine⟨by simp[h.size],e1,e2,?_,?_,hk.2 _ h.lt _ _ h.all,h.low.trans (hb.mono (Nat.le_of_lt h.lt)),Nat.lt_of_lt_of_le h.lt hb.size,?_,?_⟩
 ·obtain⟨s1,s2,s3,s4,s5,s6,s7,s8⟩:=h.stay;exact⟨(e3 1 (by omega) (by omega)).trans s1,(e3 2 (by omega) (by omega)).trans s2,(e3 3 (by omega) (by omega)).trans s3,(e3 4 (by omega) (by omega)).trans s4,(e3 5 (by omega) (by omega)).trans s5,(e3 6 (by omega) (by omega)).trans s6,(e3 7 (by omega) (by omega)).trans s7,(e3 8 (by omega) (by omega)).trans s8⟩
 ·intro j d' q hj hq;by_cases hji:j=0
  ·subst hji;rw[tbl_0] at hq;injection hq with hq
   injection hq with h1 h2
   subst h2
   trivial
  ·rw[getB_set _ _ _ hls,if_neg hji] at hj;rw[hslot j d' q hji hq];exact(h.slots j d' q hj hq).keep hk
 ·intro _;refine⟨w.heap.size,h.lt,fun j d' hj hq=>?_,(mapS_new w).same fun k=>⟨fun h=>h.elim,?_⟩⟩
  ·by_cases hji:j=0
   ·subst hji;rw[tbl_0] at hq;injection hq with hq
    injection hq with h1 h2
    injection h1 with h1
    subst h1;simp only[Act.put];rw[getD_set _ _ _ _ _ hdt,if_pos rfl]
   ·rw[getB_set _ _ _ hls,if_neg hji] at hj;have:=h.early h0 j _ _ hj hq;cases this
  ·rintro⟨j,hj,hq⟩;have hji:j≠0:=fun e=>by subst e;rw[tbl_0] at hq;cases hq
   rw[getB_set _ _ _ hls,if_neg hji] at hj;have:=h.early h0 j _ _ hj hq;cases this
 ·intro h0';rw[getB_set _ _ _ hls,if_pos rfl] at h0';cases h0'
theorem Inv.hand (h:Inv W listed a w)(hi:i < 122)(hi0:i≠0){d:Nat}(ht:tbl[i]? = some (some d,.map))(h0:listed.getD 0 false=true){x:Value}(hx:∀ bm,(∀ j d',listed.getD j false=true→tbl[j]? = some (some d',.map)→a.tmps.getD d' undef=.map (some bm))→x=.map (some bm)):Inv W (listed.setIfInBounds i true) (a.put (some d) x) w:=by
 obtain⟨hd,hd2,hun⟩:=tbl_slot ht;obtain⟨e1,e2,e3⟩:=stay_put (x:=x) h hd hd2;have hls:i < listed.size:=by rw[h.size];exact hi
 have hdt:d < a.tmps.size:=by rw[h.tms];exact hd2
 have hslot:∀ j d' q,j≠i→tbl[j]? = some (some d',q)→(a.put (some d) x).tmps.getD d' undef=a.tmps.getD d' undef:=fun j d' q hj hq=>by
  simp only[Act.put];rw[getD_set _ _ _ _ _ hdt,if_neg (hun j d' q hj hq)]
 obtain⟨bm,hbm,hm1,hm2⟩:=h.map h0;have hxb:=hx bm hm1;refine⟨by simp[h.size],e1,e2,?_,?_,h.all,h.low,h.lt,?_,?_⟩
 ·obtain⟨s1,s2,s3,s4,s5,s6,s7,s8⟩:=h.stay;exact⟨(e3 1 (by omega) (by omega)).trans s1,(e3 2 (by omega) (by omega)).trans s2,(e3 3 (by omega) (by omega)).trans s3,(e3 4 (by omega) (by omega)).trans s4,(e3 5 (by omega) (by omega)).trans s5,(e3 6 (by omega) (by omega)).trans s6,(e3 7 (by omega) (by omega)).trans s7,(e3 8 (by omega) (by omega)).trans s8⟩
 ·intro j d' q hj hq;by_cases hji:j=i
  ·subst hji;rw[ht] at hq;injection hq with hq
   injection hq with h1 h2
   subst h2
   trivial
  ·rw[getB_set _ _ _ hls,if_neg hji] at hj;rw[hslot j d' q hji hq];exact h.slots j d' q hj hq
 ·intro _;refine⟨bm,hbm,fun j d' hj hq=>?_,hm2.same fun k=>?_⟩
  ·by_cases hji:j=i
   ·subst hji;rw[ht] at hq;injection hq with hq
    injection hq with h1 h2
    injection h1 with h1
    subst h1;simp only[Act.put];rw[getD_set _ _ _ _ _ hdt,if_pos rfl];exact hxb
   ·rw[getB_set _ _ _ hls,if_neg hji] at hj;rw[hslot j d' _ hji hq];exact hm1 j d' hj hq
  ·constructor
   ·rintro⟨j,hj,hq⟩;exact⟨j,by rw[getB_set _ _ _ hls];split<;>simp_all,hq⟩
   ·rintro⟨j,hj,hq⟩;have hji:j≠i:=fun e=>by subst e;rw[ht] at hq;cases hq
    rw[getB_set _ _ _ hls,if_neg hji] at hj;exact⟨j,hj,hq⟩
 ·intro h0';rw[getB_set _ _ _ hls,if_neg (Ne.symm hi0),h0] at h0';cases h0'
theorem Inv.laid (h:Inv W listed a w)(hi:i < 122){k:Nat}(ht:tbl[i]? = some (none,.ins k))(h0:listed.getD 0 false=true){bm:Nat}(hbm:W.heap.size < bm)(hm1:∀ j d',listed.getD j false=true→tbl[j]? = some (some d',.map)→a.tmps.getD d' undef=.map (some bm))
  (hm:MapS (fun j=>j=k∨∃ i,listed.getD i false=true∧tbl[i]? = some (none,.ins j)) w' bm) (hg:w.grownBy w' (some bm)) (hk:Keep w w') {x:Value}:Inv W (listed.setIfInBounds i true) (a.put none x) w':=by
 have hls:i < listed.size:=by rw[h.size];exact hi
 have hi0:i≠0:=fun e=>by subst e;rw[tbl_0] at ht;cases ht
 refine⟨by simp[h.size],h.tms,h.df,h.stay,?_,hk.2 _ h.lt _ _ h.all,?_,Nat.lt_of_lt_of_le h.lt hg.size,?_,?_⟩
 ·intro j d' q hj hq;have hji:j≠i:=fun e=>by subst e;rw[ht] at hq;cases hq
  rw[getB_set _ _ _ hls,if_neg hji] at hj;exact(h.slots j d' q hj hq).keep hk
 ·exact h.low.grown hg h.low.size fun j hj=>by injection hj with hj;omega
 ·intro _;refine⟨bm,hbm,fun j d' hj hq=>?_,hm.same fun j=>?_⟩
  ·have hji:j≠i:=fun e=>by subst e;rw[ht] at hq;cases hq
   rw[getB_set _ _ _ hls,if_neg hji] at hj;exact hm1 j d' hj hq
  ·constructor
   ·rintro(rfl | ⟨n,hn,hq⟩)
    ·exact⟨i,by rw[getB_set _ _ _ hls,if_pos rfl],ht⟩
    ·exact⟨n,by rw[getB_set _ _ _ hls];split<;>simp_all,hq⟩
   ·rintro⟨n,hn,hq⟩;by_cases hni:n=i
    ·subst hni;rw[ht] at hq;injection hq with hq
     injection hq with _ hq
     injection hq with hq
     exact .inl hq.symm
    ·rw[getB_set _ _ _ hls,if_neg hni] at hn;exact .inr ⟨n,hn,hq⟩
 ·intro h0';rw[getB_set _ _ _ hls,if_neg (Ne.symm hi0),h0] at h0';cases h0'
end
end Go.Proofs.YtcilmmdmkpnppaaGreatDoor.Enc
namespace Go.Proofs.YtcilmmdmkpnppaaGreatDoor.Enc
set_option maxRecDepth 100000
open Go.RowKit Utf Val
theorem load_fn (w:World)(g:Nat)(h:w.cell? ⟨g,0,none⟩=some (.func (.func 79) #[] #[])):(Instr.loadAt 106 (.pointer (some ⟨g,0,none⟩))).run Tryz.prog w=.ok (.func (.func 79) #[] #[]) w:=by
 go_simp
theorem build_cho (w:World)(z:Int)(fn:Fn)(c:Array Value):(Instr.build 112 #[(0,.int .u8 z),(1,.func fn #[] c)]).run Tryz.prog w=.ok (.agg #[.int .u8 z,.func fn #[] c]) w:=by
 go_simp
theorem slice_2 (w:World)(z0 z1:Int)(f0 f1:Fn)(c0 c1:Array Value):(Instr.buildSlice 110 2 #[(0,.agg #[.int .u8 z0,.func f0 #[] c0]),(1,.agg #[.int .u8 z1,.func f1 #[] c1])]).run Tryz.prog w=.ok (.slice (some ⟨w.heap.size,0,none⟩) 2 2) (w.alloc (.cells #[.int .u8 z0,.func f0 #[] c0,.int .u8 z1,.func f1 #[] c1] 112)):=by
 go_simp
theorem slice_3 (w:World)(z0 z1 z2:Int)(f0 f1 f2:Fn)(c0 c1 c2:Array Value):(Instr.buildSlice 110 3 #[(0,.agg #[.int .u8 z0,.func f0 #[] c0]),(1,.agg #[.int .u8 z1,.func f1 #[] c1]),(2,.agg #[.int .u8 z2,.func f2 #[] c2])]).run Tryz.prog w=.ok (.slice (some ⟨w.heap.size,0,none⟩) 3 3) (w.alloc (.cells #[.int .u8 z0,.func f0 #[] c0,.int .u8 z1,.func f1 #[] c1,.int .u8 z2,.func f2 #[] c2] 112)):=by
 go_simp
theorem canV_form {w:World}{f:Can}{v:Value}(h:CanV w f v):∃ fn c,v=.func fn #[] c:=by
 cases f with
 | just n=>obtain⟨g,e,_⟩:=h;exact⟨_,_,e⟩
 | upto n=>obtain⟨g,e,_⟩:=h;exact⟨_,_,e⟩
 | all=>exact⟨_,_,h⟩
 | short=>exact⟨_,_,h⟩
 | near=>exact⟨_,_,h⟩
 | none_=>exact⟨_,_,h⟩
 | small=>exact⟨_,_,h⟩
theorem ent1 {w:World}{k c0:Nat}{z0:Int}{f0:Can}{v0:Value}{g:Nat}(hg:g=w.heap.size)(hk:chs k=[(c0,f0)])(e0:z0=(c0:Int))(h0:CanV w f0 v0):EntV (w.alloc (.cells #[.int .u8 z0,v0] 112)) k (.slice (some ⟨g,0,none⟩) 1 1):=by
 subst hg e0;refine⟨w.heap.size,1,by rw[hk];rfl,by simp,?_⟩;rw[hk];exact⟨⟨by simp,v0,by simp,h0.alloc _⟩,trivial⟩
theorem ent2 {w:World}{k c0 c1:Nat}{z0 z1:Int}{f0 f1:Can}{v0 v1:Value}{g:Nat}(hg:g=w.heap.size)(hk:chs k=[(c0,f0),(c1,f1)])(e0:z0=(c0:Int))(e1:z1=(c1:Int))(h0:CanV w f0 v0)(h1:CanV w f1 v1):EntV (w.alloc (.cells #[.int .u8 z0,v0,.int .u8 z1,v1] 112)) k (.slice (some ⟨g,0,none⟩) 2 2):=by
 subst hg e0 e1;refine⟨w.heap.size,2,by rw[hk];rfl,by simp,?_⟩;rw[hk];exact⟨⟨by simp,v0,by simp,h0.alloc _⟩,⟨by simp,v1,by simp,h1.alloc _⟩,trivial⟩
theorem ent3 {w:World}{k c0 c1 c2:Nat}{z0 z1 z2:Int}{f0 f1 f2:Can}{v0 v1 v2:Value}{g:Nat}(hg:g=w.heap.size)(hk:chs k=[(c0,f0),(c1,f1),(c2,f2)])(e0:z0=(c0:Int))(e1:z1=(c1:Int))(e2:z2=(c2:Int))(h0:CanV w f0 v0)(h1:CanV w f1 v1)(h2:CanV w f2 v2):EntV (w.alloc (.cells #[.int .u8 z0,v0,.int .u8 z1,v1,.int .u8 z2,v2] 112)) k (.slice (some ⟨g,0,none⟩) 3 3):=by
 subst hg e0 e1 e2;refine⟨w.heap.size,3,by rw[hk];rfl,by simp,?_⟩;rw[hk];exact⟨⟨by simp,v0,by simp,h0.alloc _⟩,⟨by simp,v1,by simp,h1.alloc _⟩,⟨by simp,v2,by simp,h2.alloc _⟩,trivial⟩
def GivesFn (f:Can)(w:World)(e:Ending)(w':World):Prop:=∃ v,e=.returned v∧CanV w' f v∧Below w.heap.size w w'
def GivesE (z:Int)(w:World)(e:Ending)(w':World):Prop:=∃ v,e=.returned v∧(∀ k c,chs k=[(c,.all)]→z=((c:Nat):Int)→EntV w' k v)∧Below w.heap.size w w'
theorem mkf (fn:Fn)(first cap:Array Value)(w:World):(Instr.makeFunc fn first cap).run Tryz.prog w=.ok (.func fn first cap) w:=rfl
theorem store_func (w:World)(a:Addr)(fn:Fn)(x y:Array Value)(m:Mode):(store a (.func fn x y) m).run Tryz.prog w=stored Tryz.prog w a (.func fn x y) m:=run_store Tryz.prog w a _ m rfl
theorem just_any (n:Nat)(w:World):Calls Tryz.prog 87 #[.int .u64 (n:Int)] w (GivesFn (.just n) w):=by
 have hmf:=mkf;go_enter Tryz.func87,Tryz.ntmps87;go_wp2;go_ret;exact⟨_,rfl,⟨w.heap.size,rfl,by simp,by simp⟩,(Below.refl _ _).alloc (Nat.le_refl _) _⟩
theorem upto_any (n:Nat)(w:World):Calls Tryz.prog 89 #[.int .u64 (n:Int)] w (GivesFn (.upto n) w):=by
 have hmf:=mkf;go_enter Tryz.func89,Tryz.ntmps89;go_wp2;go_ret;exact⟨_,rfl,⟨w.heap.size,rfl,by simp,by simp⟩,(Below.refl _ _).alloc (Nat.le_refl _) _⟩
theorem only_any (c:Int)(g:Nat)(w:World)(hg:w.cell? ⟨g,0,none⟩=some (.func (.func 79) #[] #[])):Calls Tryz.prog 91 #[.int .u8 c,.pointer (some ⟨g,0,none⟩)] w (GivesE c w):=by
 go_enter Tryz.func91,Tryz.ntmps91;go_wp2;go_ret;exact⟨_,rfl,fun k _ hk hz=>ent1 rfl hk hz rfl,(Below.refl _ _).alloc (Nat.le_refl _) _⟩
section
variable {W:World} {listed:Array Bool} {a:Act} {w:World} {i:Nat} {o:Oper} {K:Act→World→Prop} {Q:Exit→Act→World→Prop} {ops:Array Oper}
theorem wpOp_of (ho:ops[i]? = some o)(hg:o.guard=none)(h:o.wp Tryz.prog a w K Q):wpOp Tryz.prog ops Q i K a w:=by
 unfold wpOp;rw[ho];simp only[Region.wanted,hg,if_true];exact .inl h
theorem wp_val {v:Value}{w':World}(hr:(execOp a.eval o).run Tryz.prog w=.ok (.value v) w')(hK:K (a.put o.dst v) w'):o.wp Tryz.prog a w K Q:=by
 unfold Oper.wp;rw[hr];exact hK
theorem wp_skip {w':World}(hr:(execOp a.eval o).run Tryz.prog w=.ok .skip w')(hK:K (a.put o.dst undef) w'):o.wp Tryz.prog a w K Q:=by
 unfold Oper.wp;rw[hr];exact hK
theorem wp_call {f:FuncId}{args:Array Value}(hr:(execOp a.eval o).run Tryz.prog w=.ok (.enter f args) w){R:Ending→World→Prop}(hc:Calls Tryz.prog f args w R)(hK:∀ e w',R e w'→∃ v,e=.returned v∧K (a.put o.dst v) w'):o.wp Tryz.prog a w K Q:=by
 unfold Oper.wp;rw[hr];refine hc.mono fun e w' hR=>?_;obtain⟨v,rfl,hk⟩:=hK e w' hR;exact hk
theorem depB_spec {s:Nat}{p:Sp}(h:depB o s p=true):∃ e∈o.after,Region.binds .any e=true∧tbl[e.on]? = some (some s,p):=by
 simp only[depB] at h;obtain⟨e,he,hb⟩:=Array.any_eq_true'.1 h;simp only[Bool.and_eq_true] at hb;refine⟨e,he,hb.1,?_⟩;have h2:=hb.2
 split at h2
 ·rename_i d q hq;simp only[Bool.and_eq_true,beq_iff_eq] at h2;rw[hq,h2.1,Sp.eqb_iff h2.2]
 ·cases h2
theorem Inv.dep (h:Inv W listed a w)(hd:∀ e∈o.after,Region.binds .any e=true→listed.getD e.on false=true){s:Nat}{p:Sp}(hb:depB o s p=true):SlotOk W.heap.size w p (a.tmps.getD s undef):=by
 obtain⟨e,he,h1,h2⟩:=depB_spec hb;exact h.slots _ _ _ (hd e he h1) h2
theorem Inv.dep0 (hd:∀ e∈o.after,Region.binds .any e=true→listed.getD e.on false=true)(hb:depB o 10 .map=true):listed.getD 0 false=true:=by
 obtain⟨e,he,h1,h2⟩:=depB_spec hb;have:=hd e he h1;by_cases h0:e.on=0
 ·rw[h0] at this;exact this
 ·exact absurd rfl ((tbl_slot tbl_0).2.2 _ _ _ h0 h2)
end
end Go.Proofs.YtcilmmdmkpnppaaGreatDoor.Enc
namespace Go.Proofs.YtcilmmdmkpnppaaGreatDoor.Enc
set_option maxRecDepth 100000
open Go.RowKit Utf Val
theorem kfn_can {W:World}{listed:Array Bool}{a:Act}{w:World}(h:Inv W listed a w){s:Nat}{f:Can}(hk:kfn s f=true):CanV w f (a.eval (.tmp s)):=by
 obtain⟨s1,s2,s3,s4,s5,s6,s7,s8⟩:=h.stay;simp only[kfn,Bool.or_eq_true,Bool.and_eq_true,beq_iff_eq] at hk;rcases hk with ((⟨rfl,hf⟩ | ⟨rfl,hf⟩) | ⟨rfl,hf⟩) | ⟨rfl,hf⟩
 ·rw[Can.eqb_iff hf];exact s2
 ·rw[Can.eqb_iff hf];exact s3
 ·rw[Can.eqb_iff hf];exact s4
 ·rw[Can.eqb_iff hf];exact s5
theorem mk_slot {W:World}{listed:Array Bool}{a:Act}{w:World}(h:Inv W listed a w){m:Nat}(hm:m < 3):a.eval (.tmp (m+6))=mkr W.heap.size m:=by
 obtain⟨s1,s2,s3,s4,s5,s6,s7,s8⟩:=h.stay
 match m,hm with
 | 0,_=>exact s6
 | 1,_=>exact s7
 | 2,_=>exact s8
def someOk:Bool:=tbl.all fun x=>match x with
 | (some _,.ins _)=>false
 | _=>true
theorem some_ok:someOk=true:=by decide +kernel
theorem tbl_some (i d k:Nat):tbl[i]? ≠ some (some d,.ins k):=fun h=>by
 have:=List.all_eq_true.1 some_ok _ (List.mem_of_getElem? h);cases this
set_option maxHeartbeats 1000000 in
theorem step_any (l:List Oper)(hok:okAll l=true){W:World}{listed:Array Bool}{a:Act}{w:World}{i:Nat}{Q:Exit→Act→World→Prop}(h:Inv W listed a w)(hr:i∈Region.ready .any l.toArray listed) :
  wpOp Tryz.prog l.toArray Q i (fun a' w'=>Inv W (listed.setIfInBounds i true) a' w') a w:=by
 obtain⟨hi,hun,o,ho,hdeps⟩:=ready_mem hr;simp only[okAll,Bool.and_eq_true,beq_iff_eq] at hok;obtain⟨hl,hall⟩:=hok;have hi':i < 122:=by rw[←hl];simpa using hi
 have h1:=List.all_eq_true.1 hall i (List.mem_range.2 hi');have ho':l[i]? = some o:=by simpa using ho
 rw[ho'] at h1;simp only[Bool.and_eq_true] at h1;obtain⟨hoo,_⟩:=h1;have hun':listed.getD i false=false:=by
  have:i < listed.size:=by rw[h.size];exact hi'
  simp only[Array.getD,this,dif_pos] at hun ⊢;exact hun
 unfold okOp at hoo;rw[Bool.and_eq_true] at hoo;obtain⟨hg,hoo⟩:=hoo;have hg':o.guard=none:=by simpa using hg
 split at hoo
 ·cases hoo
 rename_i d p ht;rw[Bool.and_eq_true,beq_iff_eq] at hoo;obtain⟨hd,hoo⟩:=hoo;refine wpOp_of ho hg' ?_
 split at hoo
 ·-- the map is made
  rename_i t hop;simp only[Bool.and_eq_true,beq_iff_eq] at hoo;obtain⟨rfl,rfl⟩:=hoo;rw[tbl_0] at ht;injection ht with ht
  injection ht with ht _
  refine wp_val (v:=.map (some w.heap.size)) (w':=w.alloc (.map #[] 0)) ?_ ?_
  ·simp[execOp,hop,run_makeMap,Result.andThen]
  ·rw[hd,←ht];exact h.made hun'
 ·rename_i s hop;simp only[Bool.and_eq_true] at hoo;have h0:=Inv.dep0 hdeps hoo.2;cases d with
  | none=>obtain⟨_,e⟩:=tbl_none ht;cases e
  | some d=>
   refine wp_val (v:=a.eval (.tmp s)) (w':=w) (by simp[execOp,hop]) ?_;rw[hd];refine h.hand hi' (fun e=>by rw[e,h0] at hun';cases hun') ht h0 fun bm hb=>?_;obtain⟨e,he,h1,h2⟩:=depB_spec hoo.1;exact hb _ _ (hdeps e he h1) h2
 ·rename_i s hop;simp only[Bool.and_eq_true] at hoo;have h0:=Inv.dep0 hdeps hoo.2;cases d with
  | none=>obtain⟨_,e⟩:=tbl_none ht;cases e
  | some d=>
   refine wp_val (v:=a.eval (.tmp s)) (w':=w) (by simp[execOp,hop]) ?_;rw[hd];refine h.hand hi' (fun e=>by rw[e,h0] at hun';cases hun') ht h0 fun bm hb=>?_;obtain⟨e,he,h1,h2⟩:=depB_spec hoo.1;exact hb _ _ (hdeps e he h1) h2
 ·rename_i f s hop;cases d with
  | none=>obtain⟨_,e⟩:=tbl_none ht;cases e
  | some d=>
   refine wp_val (v:=a.eval (.tmp s)) (w':=w) (by simp[execOp,hop]) ?_;rw[hd];exact h.put hi' ht rfl (Below.refl _ _) (kfn_can h hoo)
 ·rename_i m s hop;simp only[Bool.and_eq_true,beq_iff_eq,decide_eq_true_eq] at hoo;obtain⟨rfl,hm⟩:=hoo;cases d with
  | none=>obtain⟨_,e⟩:=tbl_none ht;cases e
  | some d=>
   refine wp_val (v:=a.eval (.tmp (m+6))) (w':=w) (by simp[execOp,hop]) ?_;rw[hd];exact h.put hi' ht rfl (Below.refl _ _) (mk_slot h hm)
 ·rename_i f t s hop;simp only[Bool.and_eq_true,beq_iff_eq] at hoo;obtain⟨⟨rfl,rfl⟩,hf⟩:=hoo;have hf:=Can.eqb_iff hf;subst hf;cases d with
  | none=>obtain⟨_,e⟩:=tbl_none ht;cases e
  | some d=>
   refine wp_val (v:=.func (.func 79) #[] #[]) (w':=w) (by simp[execOp,hop,Act.eval,h.stay.1,load_fn w _ h.all,Result.andThen]) ?_;rw[hd];exact h.put hi' ht rfl (Below.refl _ _) rfl
 ·rename_i k c hop
  split at hoo
  ·rename_i s z hcal hargs;simp only[Bool.and_eq_true] at hoo;have hs:a.tmps.getD s undef=mkr W.heap.size 2:=h.dep hdeps hoo.1;have hz:∃ c0:Nat,chs k=[(c0,.all)]∧z=(c0:Int):=by
    have:=hoo.2;unfold onlyIn at this
    split at this
    ·rename_i c0 f hc;simp only[Bool.and_eq_true,beq_iff_eq] at this;exact⟨c0,by rw[hc,Can.eqb_iff this.1],this.2⟩
    ·cases this
   obtain⟨c0,hc0,hz⟩:=hz;have ha:c.args=#[.const (.int .u8 z)]:=Array.toList_inj.1 hargs;cases d with
   | none=>obtain⟨_,e⟩:=tbl_none ht;cases e
   | some d=>
    refine wp_call (f:=91) (args:=#[.int .u8 z,.pointer (some ⟨W.heap.size,0,none⟩)]) (by simp[execOp,hop,resolve,hcal,ha,Act.eval,hs,mkr,Deferred.ofValue,invoke,Tryz.call91]) (only_any z W.heap.size w h.all) fun e w' hR=>?_;obtain⟨v,rfl,hE,hb⟩:=hR;exact⟨v,rfl,by rw[hd];exact h.put hi' ht rfl hb (hE _ _ hc0 hz)⟩
  ·cases hoo
 ·rename_i n c hop
  split at hoo
  ·rename_i s z hcal hargs;simp only[Bool.and_eq_true,beq_iff_eq] at hoo;obtain⟨hdp,rfl⟩:=hoo;have hs:a.tmps.getD s undef=mkr W.heap.size 0:=h.dep hdeps hdp;have ha:c.args=#[.const (.int .u64 (n:Int))]:=Array.toList_inj.1 hargs;cases d with
   | none=>obtain⟨_,e⟩:=tbl_none ht;cases e
   | some d=>
    refine wp_call (f:=87) (args:=#[.int .u64 (n:Int)]) (by simp[execOp,hop,resolve,hcal,ha,Act.eval,hs,mkr,Deferred.ofValue,invoke,Tryz.call87]) (just_any n w) fun e w' hR=>?_;obtain⟨v,rfl,hE,hb⟩:=hR;exact⟨v,rfl,by rw[hd];exact h.put hi' ht rfl hb hE⟩
  ·cases hoo
 ·rename_i n c hop
  split at hoo
  ·rename_i s z hcal hargs;simp only[Bool.and_eq_true,beq_iff_eq] at hoo;obtain⟨hdp,rfl⟩:=hoo;have hs:a.tmps.getD s undef=mkr W.heap.size 1:=h.dep hdeps hdp;have ha:c.args=#[.const (.int .u64 (n:Int))]:=Array.toList_inj.1 hargs;cases d with
   | none=>obtain⟨_,e⟩:=tbl_none ht;cases e
   | some d=>
    refine wp_call (f:=89) (args:=#[.int .u64 (n:Int)]) (by simp[execOp,hop,resolve,hcal,ha,Act.eval,hs,mkr,Deferred.ofValue,invoke,Tryz.call89]) (upto_any n w) fun e w' hR=>?_;obtain⟨v,rfl,hE,hb⟩:=hR;exact⟨v,rfl,by rw[hd];exact h.put hi' ht rfl hb hE⟩
  ·cases hoo
 ·rename_i c f t parts hop;simp only[Bool.and_eq_true,beq_iff_eq] at hoo;obtain⟨rfl,hoo⟩:=hoo
  split at hoo
  ·rename_i z s hp;simp only[Bool.and_eq_true,beq_iff_eq] at hoo;obtain⟨rfl,hdp⟩:=hoo;have hs:CanV w f (a.tmps.getD s undef):=h.dep hdeps hdp;obtain⟨fn,cp,hv⟩:=canV_form hs;have hv':=hv;rw[Array.getD_eq_getD_getElem?] at hv';have ha:parts=#[(0,.const (.int .u8 (c:Int))),(1,.tmp s)]:=Array.toList_inj.1 hp;cases d with
   | none=>obtain⟨_,e⟩:=tbl_none ht;cases e
   | some d=>
    refine wp_val (v:=.agg #[.int .u8 (c:Int),.func fn #[] cp]) (w':=w) (by simp[execOp,hop,ha,Act.eval,hv',build_cho w,Result.andThen]) ?_;rw[hd];exact h.put hi' ht rfl (Below.refl _ _) ⟨_,rfl,hv▸hs⟩
  ·cases hoo
 ·rename_i k t n parts hop;simp only[Bool.and_eq_true,beq_iff_eq] at hoo;obtain⟨rfl,hoo⟩:=hoo;unfold partsIn at hoo
  split at hoo
  ·rename_i s0 s1 hp;simp only[Bool.and_eq_true,beq_iff_eq] at hoo;obtain⟨rfl,hoo⟩:=hoo
   split at hoo
   ·rename_i c0 f0 c1 f1 hc;simp only[Bool.and_eq_true] at hoo;obtain⟨v0,e0,q0⟩:=h.dep hdeps hoo.1;obtain⟨v1,e1,q1⟩:=h.dep hdeps hoo.2;rw[Array.getD_eq_getD_getElem?] at e0 e1;obtain⟨fn0,cp0,rfl⟩:=canV_form q0;obtain⟨fn1,cp1,rfl⟩:=canV_form q1;have ha:parts=#[(0,.tmp s0),(1,.tmp s1)]:=Array.toList_inj.1 hp;cases d with
    | none=>obtain⟨_,e⟩:=tbl_none ht;cases e
    | some d=>
     refine wp_val (v:=.slice (some ⟨w.heap.size,0,none⟩) 2 2) (w':=w.alloc (.cells #[.int .u8 (c0:Int),.func fn0 #[] cp0,.int .u8 (c1:Int),.func fn1 #[] cp1] 112)) (by simp[execOp,hop,ha,Act.eval,e0,e1,slice_2 w,Result.andThen]) ?_;rw[hd];exact h.put hi' ht rfl ((Below.refl _ _).alloc (Nat.le_refl _) _) (ent2 rfl hc rfl rfl q0 q1)
   ·cases hoo
  ·rename_i s0 s1 s2 hp;simp only[Bool.and_eq_true,beq_iff_eq] at hoo;obtain⟨rfl,hoo⟩:=hoo
   split at hoo
   ·rename_i c0 f0 c1 f1 c2 f2 hc;simp only[Bool.and_eq_true] at hoo;obtain⟨v0,e0,q0⟩:=h.dep hdeps hoo.1.1;obtain⟨v1,e1,q1⟩:=h.dep hdeps hoo.1.2;obtain⟨v2,e2,q2⟩:=h.dep hdeps hoo.2;rw[Array.getD_eq_getD_getElem?] at e0 e1 e2;obtain⟨fn0,cp0,rfl⟩:=canV_form q0;obtain⟨fn1,cp1,rfl⟩:=canV_form q1;obtain⟨fn2,cp2,rfl⟩:=canV_form q2;have ha:parts=#[(0,.tmp s0),(1,.tmp s1),(2,.tmp s2)]:=Array.toList_inj.1 hp;cases d with
    | none=>obtain⟨_,e⟩:=tbl_none ht;cases e
    | some d=>
     refine wp_val (v:=.slice (some ⟨w.heap.size,0,none⟩) 3 3) (w':=w.alloc (.cells #[.int .u8 (c0:Int),.func fn0 #[] cp0,.int .u8 (c1:Int),.func fn1 #[] cp1,.int .u8 (c2:Int),.func fn2 #[] cp2] 112)) (by simp[execOp,hop,ha,Act.eval,e0,e1,e2,slice_3 w,Result.andThen]) ?_;rw[hd];exact h.put hi' ht rfl ((Below.refl _ _).alloc (Nat.le_refl _) _) (ent3 rfl hc rfl rfl rfl q0 q1 q2)
   ·cases hoo
  ·cases hoo
 ·rename_i k t m z s hop;simp only[Bool.and_eq_true,beq_iff_eq] at hoo;obtain⟨⟨⟨⟨rfl,rfl⟩,rfl⟩,hd0⟩,hds⟩:=hoo;have h0:=Inv.dep0 hdeps hd0;obtain⟨bm,hbm,hm1,hm2⟩:=h.map h0;have hE:EntV w k (a.tmps.getD s undef):=h.dep hdeps hds;have hm10:a.tmps.getD 10 undef=.map (some bm):=hm1 0 10 h0 tbl_0;cases d with
  | some d=>
   exact absurd ht (tbl_some i d k)
  | none=>
   obtain⟨hk1,hk2,hun2⟩:=tbl_ins ht;have hno:¬ ∃ j,listed.getD j false=true∧tbl[j]? = some (none,.ins k):=fun⟨j,hj,hq⟩=>by
    by_cases hji:j=i
    ·rw[hji,hun'] at hj;cases hj
    ·exact hun2 j hji hq
   obtain⟨w',hrun,r1,r2,r3⟩:=run_insert hm2 hno hE;rw[Array.getD_eq_getD_getElem?] at hrun hm10;refine wp_skip (w':=w') (by simp[execOp,hop,Act.eval,hm10,hrun,Result.andThen]) ?_;rw[hd];exact h.laid hi' ht h0 hbm hm1 r1 r2 r3
 ·cases hoo
end Go.Proofs.YtcilmmdmkpnppaaGreatDoor.Enc
namespace Go.Proofs.YtcilmmdmkpnppaaGreatDoor.Enc
set_option maxRecDepth 100000
open Go.RowKit Utf Val
theorem rep_false {i:Nat}(h:(Array.replicate 122 false).getD i false=true):False:=by
 rw[Array.getD_eq_getD_getElem?,Array.getElem?_replicate] at h
 split at h<;>cases h
def GivesM (w:World)(e:Ending)(w':World):Prop:=∃ bm,e=.returned (.map (some bm))∧CM w' bm∧Below w.heap.size w w'
def insAll:Bool:=(List.range 24).all fun k=>tbl.any fun x=>match x with
 | (none,.ins j)=>j==k+1
 | _=>false
theorem ins_all:insAll=true:=by decide +kernel
theorem ins_at {k:Nat}(h1:1≤k)(h2:k≤24):∃ i,i < 122∧tbl[i]? = some (none,.ins k):=by
 have h:=List.all_eq_true.1 ins_all (k - 1) (List.mem_range.2 (by omega));obtain⟨x,hx,hb⟩:=List.any_eq_true.1 h;obtain⟨i,hi⟩:=List.mem_iff_getElem?.1 hx;have hl:tbl.length=122:=rfl;refine⟨i,by rw[←hl];exact(List.getElem?_eq_some_iff.1 hi).1,?_⟩;rw[hi]
 split at hb
 ·rename_i j;rw[beq_iff_eq] at hb;rw[hb,Nat.sub_add_cancel h1]
 ·cases hb
theorem wp_codes {l:List Oper}{id:Nat}{a:Act}{w W:World}{Q:Exit→Act→World→Prop}(hok:okAll l=true)(hI:Inv W (Array.replicate 122 false) a w.drew)(hm:Tryz.prog.follows .mixedOrders=true)
  (h:∀ a' w' bm,a'.defers=[]→a'.tmps.getD 0 undef=.map (some bm)→CM w' bm→Below W.heap.size W w'→Q .normal a' w'):(Code.region id l.toArray true).wp Tryz.prog Q a w:=by
 have hok2:=hok;simp only[okAll,Bool.and_eq_true,beq_iff_eq] at hok2;obtain⟨hl,hall⟩:=hok2;have hls:l.toArray.size=122:=by simpa using hl
 refine wp_region_inv hm (Inv W) (fun listed a w h=>by rw[h.size,hls]) (fun listed a w i h hr=>step_any l hok h hr) (fun listed a' w' hI' hr=>?_) (by rw[hls];exact hI);have hdone:=all_done (by rw[hI'.size,hls]) hr fun i o ho e he=>by
  have hi:i < 122:=by rw[←hls];exact(Array.getElem?_eq_some_iff.1 ho).1
  have h1:=List.all_eq_true.1 hall i (List.mem_range.2 hi);have ho':l[i]? = some o:=by simpa using ho
  rw[ho'] at h1;simp only[Bool.and_eq_true] at h1;exact of_decide_eq_true (Array.all_eq_true'.1 h1.2 e he)
 rw[hls] at hdone;obtain⟨bm,_,hm1,hm2⟩:=hI'.map (hdone 0 (by omega));refine h a' w' bm hI'.df (hm1 121 0 (hdone 121 (by omega)) rfl) (hm2.same fun k=>⟨fun⟨i,_,hi⟩=>?_,fun hk=>?_⟩) hI'.low
 ·obtain⟨h1,h2,_⟩:=tbl_ins hi;exact⟨h1,h2⟩
 ·obtain⟨i,hi,ht⟩:=ins_at hk.1 hk.2;exact⟨i,hdone i hi,ht⟩
set_option maxHeartbeats 1000000 in
theorem allCodes_any (W:World):Calls Tryz.prog 48 #[] W (GivesM W):=by
 have hmf:=mkf;have hsf:=store_func;have hmx:Tryz.prog.follows .mixedOrders=true:=by kernel_rfl
 have hB:Below W.heap.size W (W.alloc (.cells #[.func (.func 79) #[] #[]] 106)):=(Below.refl _ _).alloc (Nat.le_refl _) _;go_enter Tryz.func48,Tryz.ntmps48;go_wp2_with fail;refine wp_codes (W:=W) (by kernel_rfl) ?_ hmx ?_
 ·refine⟨rfl,rfl,rfl,⟨rfl,rfl,rfl,rfl,rfl,rfl,rfl,rfl⟩,fun i d p h=>(rep_false h).elim,?_,hB.drew,by simp,fun h=>(rep_false h).elim,fun _ i d p h=>(rep_false h).elim⟩
  show (W.alloc (.cells #[.func (.func 79) #[] #[]] 106)).cell? _=_
  simp
 ·intro a' w' bm hd hs hc hb;obtain⟨tm,df⟩:=a';simp only at hd hs;subst hd;go_wp2;go_ret;exact⟨bm,congrArg Ending.returned hs,hc,hb⟩
end Go.Proofs.YtcilmmdmkpnppaaGreatDoor.Enc
end
section
namespace Go.Proofs.YtcilmmdmkpnppaaGreatDoor.Enc
set_option maxRecDepth 100000
open Go.RowKit Utf Val
def Bnd (l:List Pl):Prop:=∀ p∈l,p.re < 2 ^ 50∧p.im < 2 ^ 50
def Says (w:World)(f:Can)(fn:FuncId)(cap:Array Value):Prop:=∀ (ns ks:List Pl) (NA:Option Addr) (nl nc k n:Nat) (t:ByteArray) (VA:Option Addr) (vl vc code:Nat) (bb:Bool) (KA:Option Addr) (kl kc re im:Nat) (wx:World),Below w.heap.size w wx→re < 2 ^ 50→im < 2 ^ 50→Calls Tryz.prog fn (#[.agg #[.slice NA nl nc,.int .u8 (k:Int),.int .u64 (n:Int),.string t,.slice VA vl vc,.int .u8 (code:Int),.bool bb,.slice KA kl kc,.complex .f64 (fb re) (fb im)]]++cap) wx (GivesB (can f (.mk ns k n t code bb ks re im)) wx)
theorem all_take {f:Can}{l:List Pl}{j:Nat}{p:Pl}(h:l[j]? = some p)(ht:(l.take j).all (can f)=true)(hp:can f p=true):(l.take (j+1)).all (can f)=true:=by
 rw[takeP_snoc h,List.all_append,ht];simp[hp]
theorem all_no {f:Can}{l:List Pl}{j:Nat}{p:Pl}(h:l[j]? = some p)(hp:can f p=false):l.all (can f)=false:=by
 cases ha:l.all (can f) with
 | false=>rfl
 | true=>rw[List.all_eq_true.1 ha p (List.mem_of_getElem? h)] at hp;cases hp
set_option maxHeartbeats 1000000 in
theorem canAll_any (f:Can)(fv:Value)(l:List Pl)(A:Option Addr)(m c:Nat)(w:World)(hf:CanV w f fv)(hL:Pd w l A m c)(hB:Bnd l)(hm:m≤1099511627776):Calls Tryz.prog 123 #[fv,.slice A m c] w (GivesB (l.all (can f)) w):=by
 have hl1:m≤l.length:=Nat.le_of_eq hL.len;have hl2:l.length≤m:=Nat.le_of_eq hL.len.symm;have hsc:=store_cplx;have hF:∃ fn cap,fv=.func (.func fn) #[] cap∧Says w f fn cap:=by
  cases f with
  | all=>exact⟨_,_,hf,fun ns ks NA nl nc k n t VA vl vc code bb KA kl kc re im wx _ _ _=>all_any NA nl nc k n t VA vl vc code bb KA kl kc re im wx⟩
  | just x=>
   obtain⟨g,e,hg,hc⟩:=hf;exact⟨_,_,e,fun ns ks NA nl nc k n t VA vl vc code bb KA kl kc re im wx hb _ _=>just_said NA nl nc k n t VA vl vc code bb KA kl kc re im wx x g ((hb.cell (p:=⟨g,0,none⟩) hg).trans hc) (Nat.lt_of_lt_of_le hg hb.size)⟩
  | upto x=>
   obtain⟨g,e,hg,hc⟩:=hf;exact⟨_,_,e,fun ns ks NA nl nc k n t VA vl vc code bb KA kl kc re im wx hb _ _=>upto_said NA nl nc k n t VA vl vc code bb KA kl kc re im wx x g ((hb.cell (p:=⟨g,0,none⟩) hg).trans hc) (Nat.lt_of_lt_of_le hg hb.size)⟩
  | short=>exact⟨_,_,hf,fun ns ks NA nl nc k n t VA vl vc code bb KA kl kc re im wx _ _ _=>short_any NA nl nc k n t VA vl vc code bb KA kl kc re im wx⟩
  | near=>exact⟨_,_,hf,fun ns ks NA nl nc k n t VA vl vc code bb KA kl kc re im wx _ _ _=>near_any NA nl nc k n t VA vl vc code bb KA kl kc re im wx⟩
  | none_=>exact⟨_,_,hf,fun ns ks NA nl nc k n t VA vl vc code bb KA kl kc re im wx _ _ h=>none_any NA nl nc k n t VA vl vc code bb KA kl kc re im wx h⟩
  | small=>exact⟨_,_,hf,fun ns ks NA nl nc k n t VA vl vc code bb KA kl kc re im wx _ h h'=>small_any NA nl nc k n t VA vl vc code bb KA kl kc re im wx h h'⟩
 have hcase:∃ fn cap,fv=.func (.func fn) #[] cap∧Says w f fn cap∧(∀ args wx,(callFunc fn args).run Tryz.prog wx=.ok (.enter fn args) wx):=by
  cases f with
  | all=>obtain⟨fn,cap,e,h⟩:=hF;rw[hf] at e;injection e with e1 _ e2;injection e1 with e1;subst e1 e2;exact⟨_,_,hf,h,fun args wx=>Tryz.call79 args wx⟩
  | just x=>obtain⟨fn,cap,e,h⟩:=hF;obtain⟨g,e',hg,hc⟩:=hf;rw[e'] at e;injection e with e1 _ e2;injection e1 with e1;subst e1 e2;exact⟨_,_,e',h,fun args wx=>Tryz.call88 args wx⟩
  | upto x=>obtain⟨fn,cap,e,h⟩:=hF;obtain⟨g,e',hg,hc⟩:=hf;rw[e'] at e;injection e with e1 _ e2;injection e1 with e1;subst e1 e2;exact⟨_,_,e',h,fun args wx=>Tryz.call90 args wx⟩
  | short=>obtain⟨fn,cap,e,h⟩:=hF;rw[hf] at e;injection e with e1 _ e2;injection e1 with e1;subst e1 e2;exact⟨_,_,hf,h,fun args wx=>Tryz.call82 args wx⟩
  | near=>obtain⟨fn,cap,e,h⟩:=hF;rw[hf] at e;injection e with e1 _ e2;injection e1 with e1;subst e1 e2;exact⟨_,_,hf,h,fun args wx=>Tryz.call85 args wx⟩
  | none_=>obtain⟨fn,cap,e,h⟩:=hF;rw[hf] at e;injection e with e1 _ e2;injection e1 with e1;subst e1 e2;exact⟨_,_,hf,h,fun args wx=>Tryz.call80 args wx⟩
  | small=>obtain⟨fn,cap,e,h⟩:=hF;rw[hf] at e;injection e with e1 _ e2;injection e1 with e1;subst e1 e2;exact⟨_,_,hf,h,fun args wx=>Tryz.call83 args wx⟩
 clear hF hf;obtain⟨fn,cap,rfl,hsay,hcall⟩:=hcase;have HS:=Lib.hid hsay;clear hsay;go_enter Tryz.func123,Tryz.ntmps123;go_wp2;go_loopw [9] (fun i wr=>∃ j:Nat,j≤m∧i=.int .i64 j∧(l.take j).all (can f)=true∧Below w.heap.size w wr) (fun i _=>m - (intOf i).toNat)
 case atStart=>exact⟨0,Nat.zero_le _,rfl,by simp,Below.refl _ _⟩
 case round=>
  obtain⟨j,hj,rfl,ht,hb⟩:=hrel;have HT:=Lib.hid ht;clear ht;by_cases hlt:j < m
  ·obtain⟨b,o,ns,k,n,t,code,bb,ks,re,im,NA,nl,nc,VA,vl,vc,KA,kl,kc,rfl,hb',hx,⟨a0,a1,a2,a3,a4,a5,a6,a7,a8⟩,hN',hK'⟩:=(hL.call hb).at_ hlt;have hbn:=hB _ (List.mem_of_getElem? hx);have hb3:=hb.alloc hb.size (.cells #[.slice NA nl nc,.int .u8 (k:Int),.int .u64 (n:Int),.string t,.slice VA vl vc,.int .u8 (code:Int),.bool bb,.slice KA kl kc,.complex .f64 (fb re) (fb im)] 73);have hcl:=HS.out ns ks NA nl nc k n t VA vl vc code bb KA kl kc re im (wr.alloc (.cells #[.slice NA nl nc,.int .u8 (k:Int),.int .u64 (n:Int),.string t,.slice VA vl vc,.int .u8 (code:Int),.bool bb,.slice KA kl kc,.complex .f64 (fb re) (fb im)] 73)) hb3 hbn.1 hbn.2;obtain⟨r,hr⟩:∃ r,can f (.mk ns k n t code bb ks re im)=r:=⟨_,rfl⟩;rw[hr] at hcl;have HX:=Lib.hid hx;have HR:=Lib.hid hr;clear hx hr hbn;cases r with
   | true=>
    go_wp2_with fail;refine hcl.mono ?_;rintro e w2 ⟨rfl,hb2⟩;have hb4:=below_next hb3 hb2;go_wp2;go_roundw
    case rel=>exact⟨j+1,by omega,by go_num,all_take HX.out HT.out HR.out,hb4⟩
    case measure=>simp[intOf];omega
   | false=>
    have hno:Hid (l.all (can f)=false):=Lib.hid (all_no HX.out HR.out);go_wp2_with fail;refine hcl.mono ?_;rintro e w2 ⟨rfl,hb2⟩;have hb4:=below_next hb3 hb2;go_wp2;go_ret;rw[hno.out];exact⟨rfl,hb4⟩
  ·have HE:Hid (l.take j=l):=Lib.hid (List.take_of_length_le (by omega));go_wp2;go_ret;have hA:l.all (can f)=true:=HE.out▸HT.out;rw[hA];exact⟨rfl,hb⟩
def GivesC (n:Nat)(w:World)(e:Ending)(w':World):Prop:=e=.returned (.int .u8 (n:Int))∧Below w.heap.size w w'
theorem pick_step {cs:List (Nat×Can)}{l:List Pl}{j c:Nat}{f:Can}(h:cs[j]? = some (c,f))(hf:l.all (can f)=false):pick (cs.drop j) l=pick (cs.drop (j+1)) l:=by
 obtain⟨hj,e⟩:=List.getElem?_eq_some_iff.1 h;rw[List.drop_eq_getElem_cons hj,e];simp[pick,hf]
theorem pick_here {cs:List (Nat×Can)}{l:List Pl}{j c:Nat}{f:Can}(h:cs[j]? = some (c,f))(hf:l.all (can f)=true):pick (cs.drop j) l=c:=by
 obtain⟨hj,e⟩:=List.getElem?_eq_some_iff.1 h;rw[List.drop_eq_getElem_cons hj,e];simp[pick,hf]
theorem chs_len (k:Nat):(chs k).length≤3:=by
 unfold chs
 split<;>decide
set_option maxHeartbeats 1000000 in
theorem first_any (l:List Pl)(bm:Nat)(A:Option Addr)(m c:Nat)(w:World)(hM:CM w bm)(hL:Pd w l A m c)(hB:Bnd l)(hm:m≤1099511627776){ns ks:List Pl}{k n:Nat}{t:ByteArray}{code:Nat}{bb:Bool}{re im:Nat}(h0:l[0]? = some (.mk ns k n t code bb ks re im))(hk1:1≤k)(hk2:k≤24) :
  Calls Tryz.prog 93 #[.map (some bm),.slice A m c] w (GivesC (first l) w):=by
 have hfl:first l=pick (chs k) l:=by
  cases l with
  | nil=>cases h0
  | cons p r=>
   simp at h0;subst h0;rfl
 have hm0:0 < m:=by
  rw[hL.len];exact(List.getElem?_eq_some_iff.1 h0).1
 obtain⟨v,hrun,⟨b,cc,rfl,hbl,hch⟩⟩:=run_kind hM hk1 hk2;obtain⟨lb,lo,ns',k',n',t',code',bb',ks',re',im',NA,nl,nc,VA,vl,vc,KA,kl,kc,rfl,hb',hx,⟨a0,a1,a2,a3,a4,a5,a6,a7,a8⟩,hN',hK'⟩:=hL.at_ hm0;rw[h0] at hx;injection hx with hx
 injection hx with _ hx
 subst hx;rw[Nat.zero_mul,Nat.add_zero] at a0 a1 a2 a3 a4 a5 a6 a7 a8;have hN:=chs_len k;obtain⟨N,hNN⟩:∃ N,(chs k).length=N:=⟨_,rfl⟩;rw[hNN] at hrun hN;have HNN:=Lib.hid hNN;have HH:=Lib.hid hch;have HL:=Lib.hid hL;rw[hfl];have hmI:(0:Int) < (m:Int):=by omega
 have hsf:=store_func;clear hNN hch hL hfl h0 hN' hK' hM;go_enter Tryz.func93,Tryz.ntmps93;go_wp2;go_loopw [15] (fun i wr=>∃ j:Nat,j≤N∧i=.int .i64 j∧pick (chs k) l=pick ((chs k).drop j) l∧Below w.heap.size w wr) (fun i _=>N - (intOf i).toNat)
 case atStart=>exact⟨0,Nat.zero_le _,rfl,by simp,Below.refl _ _⟩
 case round=>
  obtain⟨j,hj,rfl,ht,hb⟩:=hrel;have HT:=Lib.hid ht;clear ht;by_cases hlt:j < N
  ·have hjl:j < (chs k).length:=by rw[HNN.out];exact hlt
   obtain⟨⟨c0,f0⟩,hcj⟩:∃ x,(chs k)[j]? = some x:=⟨_,List.getElem?_eq_getElem hjl⟩;obtain⟨q0,fv,q1,q2⟩:=chV_at (HH.out.keep hb.size (fun g hg o _ hc=>(hb.cell (p:=⟨g,o,none⟩) hg).trans hc) hbl) hcj;rw[Nat.zero_add] at q0 q1;obtain⟨fn,cap,rfl⟩:=canV_form q2;have hb3:=hb.alloc hb.size (.cells #[.int .u8 (c0:Int),.func fn #[] cap] 112);have hcl:=canAll_any f0 (.func fn #[] cap) l (some ⟨lb,lo,none⟩) m c (wr.alloc (.cells #[.int .u8 (c0:Int),.func fn #[] cap] 112)) (q2.alloc _) ((HL.out.call hb).alloc _) hB hm;obtain⟨r,hr⟩:∃ r,l.all (can f0)=r:=⟨_,rfl⟩;rw[hr] at hcl;have HX:=Lib.hid hcj;have HR:=Lib.hid hr;have hbx:(wr.alloc (.cells #[.int .u8 (c0:Int),.func fn #[] cap] 112)).cell? ⟨wr.heap.size,0,none⟩=some (.int .u8 (c0:Int)):=by simp
   clear hcj hr;cases r with
   | true=>
    go_wp2_with (go_at_call 123;(with_reducible refine hcl.mono ?_);rintro e w2 ⟨rfl,hb2⟩;have hb4:=below_next hb3 hb2;have hbx2:=(hb2.cell (p:=⟨wr.heap.size,0,none⟩) (by simp)).trans hbx);go_ret;rw[HT.out,pick_here HX.out HR.out];exact⟨rfl,hb4⟩
   | false=>
    go_wp2_with (go_at_call 123;(with_reducible refine hcl.mono ?_);rintro e w2 ⟨rfl,hb2⟩;have hb4:=below_next hb3 hb2);go_roundw
    case rel=>exact⟨j+1,by omega,by go_num,by rw[HT.out,pick_step HX.out HR.out],hb4⟩
    case measure=>simp[intOf];omega
  ·have HE:Hid (pick (chs k) l=0):=Lib.hid (by rw[HT.out,List.drop_eq_nil_of_le (by rw[HNN.out];omega)];rfl);go_wp2;go_ret;rw[HE.out];exact⟨rfl,hb⟩
end Go.Proofs.YtcilmmdmkpnppaaGreatDoor.Enc
end
section
namespace Go.Proofs.YtcilmmdmkpnppaaGreatDoor.Enc
set_option maxRecDepth 100000
open Go.RowKit Utf Val
theorem infoP:(Tryz.prog.info? 73).map (fun i=>(i.zero,i.size,i.bytes))=some (some (.agg #[.slice none 0 0,.int .u8 0,.int .u64 0,.string ⟨#[]⟩,.slice none 0 0,.int .u8 0,.bool false,.slice none 0 0,.complex .f64 0 0]),9,128):=by kernel_rfl
def CellsP (w:World)(P:Nat→Prop):List Pl→List Value→Prop
 | [],xs=>xs=[]
 | p::ps,xs=>∃ c ys,xs=c++ys∧RepC w P p c∧CellsP w P ps ys
theorem CellsP.len {w:World}{P:Nat→Prop}:∀ {ps:List Pl} {xs:List Value},CellsP w P ps xs→xs.length=ps.length * 9
 | [],xs,h=>by rw[show xs=[] from h];rfl
 | p::ps,xs,h=>by
  obtain⟨c,ys,rfl,hc,hr⟩:=h;simp[hr.len,hc.len];omega
theorem CellsP.keep {w w':World}{P:Nat→Prop}(hk:∀ i,P i→w'.heap[i]? = w.heap[i]?):∀ {ps:List Pl} {xs:List Value},CellsP w P ps xs→CellsP w' P ps xs
 | [],_,h=>h
 | _::_,_,h=>by
  obtain⟨c,ys,e,hc,hr⟩:=h;exact⟨c,ys,e,hc.keep hk,hr.keep hk⟩
theorem CellsP.mono {w:World}{P P':Nat→Prop}(hk:∀ i,P i→P' i):∀ {ps:List Pl} {xs:List Value},CellsP w P ps xs→CellsP w P' ps xs
 | [],_,h=>h
 | _::_,_,h=>by
  obtain⟨c,ys,e,hc,hr⟩:=h;exact⟨c,ys,e,hc.mono hk,hr.mono hk⟩
theorem CellsP.snoc {w:World}{P:Nat→Prop}{p:Pl}{c:List Value}(hc:RepC w P p c):∀ {ps:List Pl} {xs:List Value},CellsP w P ps xs→CellsP w P (ps++[p]) (xs++c)
 | [],xs,h=>by
  rw[show xs=[] from h];exact⟨c,[],by simp,hc,rfl⟩
 | _::_,_,h=>by
  obtain⟨c',ys,rfl,hc',hr⟩:=h;exact⟨c',ys++c,by simp,hc',CellsP.snoc hc hr⟩
theorem CellsP.row {w:World}{P:Nat→Prop}{b:Nat}:∀ {ps:List Pl} {xs:List Value} {o:Nat},(∀ j u,xs[j]? = some u→w.cell? ⟨b,o+j,none⟩=some u)→CellsP w P ps xs→RowC w P ps b o
 | [],_,_,_,_=>trivial
 | p::ps,_,o,hx,h=>by
  obtain⟨c,ys,rfl,hc,hr⟩:=h;refine⟨⟨c,hc,fun j hj=>?_⟩,hr.row fun j u hu=>?_⟩
  ·have hl:=hc.len;have hu:c[j]? = some c[j]:=List.getElem?_eq_getElem (by omega);rw[hu];exact hx j _ (by rw[List.getElem?_append_left (by omega)];exact hu)
  ·have:=hx (9+j) u (by rw[List.getElem?_append_right (by rw[hc.len];omega),hc.len,show 9+j - 9=j by omega];exact hu)
   rwa [←Nat.add_assoc] at this
structure PR (B:Nat) (wr:World) (A:Option Addr) (n c:Nat) (done:List Pl) (xs:List Value):Prop where
 own:wr.ownsRow B 73 9 (.slice A n c) n xs
 cells:CellsP wr (fun i=>B≤i∧i < wr.heap.size∧(Value.slice A n c).ownBlock≠some i) done xs
theorem PR.len {B:Nat}{wr:World}{A:Option Addr}{n c:Nat}{done:List Pl}{xs:List Value}(h:PR B wr A n c done xs):done.length=n:=by
 have:=h.own.1;have:=h.cells.len;omega
theorem PR.nil (B:Nat)(wr:World):PR B wr none 0 0 [] []:=⟨World.ownsRow_nil _ _ _ _,rfl⟩
theorem PR.call {B:Nat}{wr w':World}{A:Option Addr}{n c:Nat}{done:List Pl}{xs:List Value}(h:PR B wr A n c done xs)(hb:Below wr.heap.size wr w'):PR B w' A n c done xs:=
 ⟨h.own.kept (grown_of_below hb) (by cases hv:(Value.slice A n c).ownBlock<;>simp),(h.cells.keep fun i hi=>hb.block i hi.2.1).mono fun i hi=>⟨hi.1,Nat.lt_of_lt_of_le hi.2.1 hb.size,hi.2.2⟩⟩
theorem PR.pn {B:Nat}{wr:World}{A:Option Addr}{n c:Nat}{done:List Pl}{xs:List Value}(h:PR B wr A n c done xs):Pn B wr done A n c:=by
 refine⟨h.len.symm,own_cap h.own,fun hn=>?_⟩;rcases h.own.2 with ⟨_,h0⟩ | ⟨g,cap,cur,hv,hb,hg,hnc,hcm,hcs,htake⟩
 ·omega
 ·injection hv with h1 _ h3
  subst h1;subst h3;refine⟨g,0,rfl,⟨hb,(Array.getElem?_eq_some_iff.1 hg).1⟩,(h.cells.mono fun i hi=>⟨hi.1,hi.2.1⟩).row fun j u hu=>?_⟩;rw[Nat.zero_add,h.own.cellAt j (by rw[←h.own.1];exact(List.getElem?_eq_some_iff.1 hu).1),hu]
theorem PR.blk {B:Nat}{wr:World}{A:Option Addr}{n c:Nat}{done:List Pl}{xs:List Value}(h:PR B wr A n c done xs):∀ g,(Value.slice A n c).ownBlock=some g→B≤g∧g < wr.heap.size:=h.own.lt
theorem PR.push {B:Nat}{wr w2 w3:World}{A:Option Addr}{n c:Nat}{done:List Pl}{xs:List Value}(h:PR B w2 A n c done xs){p:Pl}{cs:List Value}
  (hK:RepC w2 (fun i=>B≤i∧i < w2.heap.size∧(Value.slice A n c).ownBlock≠some i) p cs) {g cap:Nat} (o:Obj) (hr:wr=w2.alloc o)
  (hown:w3.ownsRow B 73 9 (.slice (some ⟨g,0,none⟩) (n+1) cap) (n+1) (xs++cs)) (hg:wr.grownBy w3 (Value.slice A n c).ownBlock) (hat:(Value.slice A n c).ownBlock=some g∨w2.heap.size≤g) :
  PR B w3 (some ⟨g,0,none⟩) (n+1) cap (done++[p]) (xs++cs):=by
 subst hr;have hk1:∀ i,(B≤i∧i < w2.heap.size∧(Value.slice A n c).ownBlock≠some i)→w3.heap[i]? = w2.heap[i]?:=fun i hi=>
  (hg.block i (by simp;omega) (fun e=>hi.2.2 e.symm)).trans (Below.heap_alloc _ _ _ hi.2.1)
 have hk2:∀ i,(B≤i∧i < w2.heap.size∧(Value.slice A n c).ownBlock≠some i)→(B≤i∧i < w3.heap.size∧(Value.slice (some ⟨g,0,none⟩) (n+1) cap).ownBlock≠some i):=fun i hi=>by
  refine⟨hi.1,?_,fun e=>?_⟩
  ·have:=hg.size;simp at this;omega
  ·have e2:g=i:=by simpa [Value.ownBlock] using e
   subst e2;rcases hat with ha | ha
   ·exact hi.2.2 ha
   ·omega
 exact⟨hown,CellsP.snoc ((hK.keep hk1).mono hk2) ((h.cells.keep hk1).mono hk2)⟩
theorem news9 (w:World)(x0 x1 x2 x3 x4 x5 x6 x7 x8:Value)(e:TypeId)(H:Nat)(hH:w.heap.size=H):∀ j a,[x0,x1,x2,x3,x4,x5,x6,x7,x8][j]? = some a→(w.alloc (.cells #[x0,x1,x2,x3,x4,x5,x6,x7,x8] e)).cell? ((⟨H,0,none⟩:Addr).add j)=some a:=by
 subst hH;intro j a hv;have hj:j < 9:=(List.getElem?_eq_some_iff.1 hv).1
 match j,hj,hv with
 | 0,_,hv=>simpa [Addr.add] using hv
 | 1,_,hv=>simpa [Addr.add] using hv
 | 2,_,hv=>simpa [Addr.add] using hv
 | 3,_,hv=>simpa [Addr.add] using hv
 | 4,_,hv=>simpa [Addr.add] using hv
 | 5,_,hv=>simpa [Addr.add] using hv
 | 6,_,hv=>simpa [Addr.add] using hv
 | 7,_,hv=>simpa [Addr.add] using hv
 | 8,_,hv=>simpa [Addr.add] using hv
def GivesP (p:Pl)(w:World)(e:Ending)(w':World):Prop:=∃ ns k n t code bb ks re im NA nl nc VA vl vc KA kl kc,p=.mk ns k n t code bb ks re im∧e=.returned (.agg #[.slice NA nl nc,.int .u8 (k:Int),.int .u64 (n:Int),.string t,.slice VA vl vc,.int .u8 (code:Int),.bool bb,.slice KA kl kc,.complex .f64 (fb re) (fb im)])∧Pn w.heap.size w' ns NA nl nc∧Pn w.heap.size w' ks KA kl kc∧Below w.heap.size w w'
end Go.Proofs.YtcilmmdmkpnppaaGreatDoor.Enc
end
