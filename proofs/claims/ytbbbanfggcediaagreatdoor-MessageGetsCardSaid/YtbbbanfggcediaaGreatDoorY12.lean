/- Contracts, each with its premises. -/
import Derived.Test.YtbbbanfggcediaaGreatDoorY11
import Derived.Orders
set_option maxRecDepth 100000
set_option maxHeartbeats 8000000
namespace Go.Proofs.YtbbbanfggcediaaGreatDoor
open _root_.Go.Proofs.Tryz
open List renaming getElem?_eq_getElem→ybD
open Bool renaming and_eq_true→ybC,or_eq_true→ybF
open Nat renaming lt_of_lt_of_le→ybB,le_of_lt→ybE,zero_add→ybG
namespace Enc
section
variable {P:Program} {md:Region.Mode} {ops:Array Oper} {Q:Exit→Act→World→Prop}
theorem ziN {listed:Array Bool}{i:Nat}(h:i∈Region.ready md ops listed):i < ops.size∧listed.getD i true=false∧∃ o,ops[i]? = some o∧∀ e∈o.after,Region.binds md e=true→listed.getD e.on false=true:=by
 simp only[Region.ready,List.mem_filter,List.mem_range,ybC,Bool.not_eq_true'] at h;obtain⟨h1,h2,h3⟩:=h;refine⟨h1,h2,ops[i],Array.getElem?_eq_getElem h1,fun e he hb=>?_⟩;rw[Array.getElem?_eq_getElem h1] at h3;simp only[Option.map_some,Option.getD_some,Array.all_eq_true',ybF,Bool.not_eq_true'] at h3;rcases h3 e he with h | h
 ·rw[h] at hb;cases hb
 ·exact h
theorem zpY {listed:Array Bool}{i:Nat}{o:Oper}(hi:ops[i]? = some o)(h0:listed.getD i true=false)(h:∀ e∈o.after,listed.getD e.on false=true):i∈Region.ready md ops listed:=by
 have h1:=(Array.getElem?_eq_some_iff.1 hi).1;simp only[Region.ready,List.mem_filter,List.mem_range,ybC,Bool.not_eq_true'];refine⟨h1,h0,?_⟩;rw[hi];simp only[Option.map_some,Option.getD_some,Array.all_eq_true',ybF,Bool.not_eq_true'];exact fun e he=>.inr (h e he)
theorem zpZ {listed:Array Bool}(hs:listed.size=ops.size)(hr:Region.ready md ops listed=[])(gO:∀ (i:Nat) (o:Oper),ops[i]? = some o→∀ e∈o.after,e.on < i):∀ i,i < ops.size→listed.getD i false=true:=by
 intro i
 induction i using Nat.strongRecOn with
 | ind i ih=>
  intro hi;cases hl:listed.getD i false with
  | true=>rfl
  | false=>
   exfalso
   have qp:listed.getD i true=false:=by
    simp only[Array.getD,hs,hi,dif_pos] at hl ⊢;exact hl
   have:=zpY (md:=md) (Array.getElem?_eq_getElem hi) qp fun e he=>by
    have Hi:=gO i _ (Array.getElem?_eq_getElem hi) e he;exact ih e.on Hi (by omega)
   rw[hr] at this;cases this
theorem zgR {l:Array Bool}{i:Nat}(hi:i < l.size)(h:l.getD i true=false):(l.setIfInBounds i true).toList.count false+1=l.toList.count false:=by
 have jO:i < l.toList.length:=by simpa using hi
 have e:l.toList[i]=false:=by
  simp only[Array.getD,hi,dif_pos] at h
  simpa using h
 have hm:false∈l.toList:=e▸List.getElem_mem jO;have hp:0 < l.toList.count false:=List.count_pos_iff.2 hm;rw[Array.toList_setIfInBounds,List.count_set jO,e];have e1:(if (false==false)=true then 1 else 0)=1:=rfl;have e2:(if (true==false)=true then 1 else 0)=0:=rfl;rw[e1,e2];omega
theorem znq (I:Array Bool→Act→World→Prop)(Hu:∀ listed a w,I listed a w→listed.size=ops.size)
  (step:∀ listed a w i,I listed a w→i∈Region.ready md ops listed→wpOp P ops Q i (fun a' w'=>I (listed.setIfInBounds i true) a' w') a w)
  (done:∀ listed a w,I listed a w→Region.ready md ops listed=[]→Q .normal a w) :
  ∀ fuel listed a w,I listed a w→listed.toList.count false≤fuel→wpAny P md ops Q fuel listed a w:=by
 intro fuel
 induction fuel with
 | zero=>
  intro listed a w hI hc;have hr:Region.ready md ops listed=[]:=by
   rw[Region.ready,List.filter_eq_nil_iff];intro i hi h;have jO:i < listed.size:=by rw[Hu _ _ _ hI];exact List.mem_range.1 hi
   simp only[ybC,Bool.not_eq_true'] at h;have:=zgR jO h.1;omega
  exact⟨hr,done _ _ _ hI hr⟩
 | succ fuel ih=>
  intro listed a w hI hc;refine⟨fun h=>done _ _ _ hI h,fun i hi=>?_⟩;obtain⟨h1,h2,_⟩:=ziN hi;have:=zgR (by rw[Hu _ _ _ hI];exact h1) h2;exact wpOp_mono (fun a' w' h=>ih _ _ _ h (by omega)) (step _ _ _ i hI hi)
theorem zhD {id:Nat}{a:Act}{w:World}(hm:P.follows .mixedOrders=true)(I:Array Bool→Act→World→Prop)(Hu:∀ listed a w,I listed a w→listed.size=ops.size)
  (step:∀ listed a w i,I listed a w→i∈Region.ready .any ops listed→wpOp P ops Q i (fun a' w'=>I (listed.setIfInBounds i true) a' w') a w)
  (done:∀ listed a w,I listed a w→Region.ready .any ops listed=[]→Q .normal a w) (h0:I (Array.replicate ops.size false) a { w with drawn:=w.drawn+1 }):(Code.region id ops true).wp P Q a w:=
 wp_region_any hm (znq I Hu step done _ _ _ _ h0 (by simp))
end
end Enc
namespace Enc
open Go.RowKit Utf Val
def Can.eqb:Can→Can→Bool
 | .all,.all=>true
 | .just m,.just n=>m==n
 | .upto m,.upto n=>m==n
 | .short,.short=>true
 | .near,.near=>true
 | .none_,.none_=>true
 | .small,.small=>true
 | _,_=>false
theorem Can.eqb_iff {a b:Can}(h:a.eqb b=true):a=b:=by
 cases a<;>cases b<;>simp_all [Can.eqb]
inductive Sp where
 | can (f:Can) | maker (m:Nat) | cho (c:Nat) (f:Can) | ent (k:Nat) | map | ins (k:Nat)
def Sp.eqb:Sp→Sp→Bool
 | .can f,.can g=>f.eqb g
 | .maker m,.maker n=>m==n
 | .cho c f,.cho d g=>c==d&&f.eqb g
 | .ent k,.ent l=>k==l
 | .map,.map=>true
 | .ins k,.ins l=>k==l
 | _,_=>false
theorem Sp.eqb_iff {a b:Sp}(h:a.eqb b=true):a=b:=by
 cases a<;>cases b<;>simp_all [Sp.eqb]<;>first | exact Can.eqb_iff h | exact Can.eqb_iff h.2
def mkr (g:Nat)(m:Nat):Value:=if m=0 then .func (.func 91) #[] #[] else if m=1 then .func (.func 93) #[] #[] else .func (.func 95) #[] #[.pointer (some ⟨g,0,none⟩)]
def zgS (g:Nat)(w:World):Sp→Value→Prop
 | .can f,x=>CanV w f x
 | .maker m,x=>x=mkr g m
 | .cho c f,x=>∃ v,x=.agg #[.int .u8 (c:Int),v]∧CanV w f v
 | .ent k,x=>EntV w k x
 | .map,_=>True
 | .ins _,_=>True
theorem zgS.keep {g:Nat}{w w':World}(hk:Keep w w'):∀ {p:Sp} {x:Value},zgS g w p x→zgS g w' p x
 | .can _,_,h=>CanV.keep h hk.1 fun g hg o _=>hk.2 g hg o _
 | .maker _,_,h=>h
 | .cho _ _,_,⟨v,e,h⟩=>⟨v,e,h.keep hk.1 fun g hg o _=>hk.2 g hg o _⟩
 | .ent _,_,h=>EntV.keep h hk.1 hk.2
 | .map,_,_=>trivial
 | .ins _,_,_=>trivial
def tbl:List (Option Nat×Sp):=[(some 10,.map),(some 11,.maker 2),(some 12,.ent 1),(none,.ins 1),(some 13,.maker 0),(some 14,.can (.just 1)),(some 15,.cho 65 (.just 1)),(some 16,.maker 0),(some 17,.can (.just 0)),(some 18,.cho 66 (.just 0)),(some 19,.can .all),(some 20,.cho 86 (.all)),(some 21,.ent 2),(none,.ins 2),(some 22,.maker 2),(some 23,.ent 3),(none,.ins 3),(some 24,.maker 2),(some 25,.ent 4),(none,.ins 4),(some 26,.maker 0),(some 27,.can (.just 0)),(some 28,.cho 67 (.just 0)),(some 29,.maker 1),(some 30,.can (.upto 255)),(some 31,.cho 82 (.upto 255)),(some 32,.can .all),(some 33,.cho 112 (.all)),(some 34,.ent 5),(none,.ins 5),(some 35,.maker 0),(some 36,.can (.just 0)),(some 37,.cho 68 (.just 0)),(some 38,.maker 1),(some 39,.can (.upto 255)),(some 40,.cho 83 (.upto 255)),(some 41,.can .all),(some 42,.cho 128 (.all)),(some 43,.ent 6),(none,.ins 6),(some 44,.maker 2),(some 45,.ent 7),(none,.ins 7),(some 46,.maker 2),(some 47,.ent 8),(none,.ins 8),(some 48,.can .near),(some 49,.cho 84 (.near)),(some 50,.can .all),(some 51,.cho 113 (.all)),(some 52,.ent 9),(none,.ins 9),(some 53,.can .near),(some 54,.cho 85 (.near)),(some 55,.can .all),(some 56,.cho 129 (.all)),(some 57,.ent 10),(none,.ins 10),(some 58,.maker 2),(some 59,.ent 11),(none,.ins 11),(some 60,.maker 2),(some 61,.ent 12),(none,.ins 12),(some 62,.maker 2),(some 63,.ent 13),(none,.ins 13),(some 64,.maker 2),(some 65,.ent 14),(none,.ins 14),(some 66,.maker 2),(some 67,.ent 15),(none,.ins 15),(some 68,.maker 2),(some 69,.ent 16),(none,.ins 16),(some 70,.maker 2),(some 71,.ent 17),(none,.ins 17),(some 72,.maker 2),(some 73,.ent 18),(none,.ins 18),(some 74,.can .short),(some 75,.cho 160 (.short)),(some 76,.can .all),(some 77,.cho 176 (.all)),(some 78,.ent 19),(none,.ins 19),(some 79,.can .short),(some 80,.cho 161 (.short)),(some 81,.can .all),(some 82,.cho 177 (.all)),(some 83,.ent 20),(none,.ins 20),(some 84,.can .short),(some 85,.cho 163 (.short)),(some 86,.can .all),(some 87,.cho 179 (.all)),(some 88,.ent 21),(none,.ins 21),(some 89,.can .none_),(some 90,.cho 69 (.none_)),(some 91,.can .small),(some 92,.cho 192 (.small)),(some 93,.can .all),(some 94,.cho 208 (.all)),(some 95,.ent 22),(none,.ins 22),(some 96,.can .small),(some 97,.cho 193 (.small)),(some 98,.can .all),(some 99,.cho 209 (.all)),(some 100,.ent 23),(none,.ins 23),(some 101,.can .small),(some 102,.cho 224 (.small)),(some 103,.can .all),(some 104,.cho 240 (.all)),(some 105,.ent 24),(none,.ins 24),(some 106,.map),(some 0,.map)]
def depB (o:Oper)(s:Nat)(p:Sp):Bool:=o.after.any fun e=>Region.binds .any e&&(match tbl[e.on]? with
 | some (some d,q)=>d==s&&q.eqb p
 | _=>false)
def kfn (s:Nat)(f:Can):Bool:=(s==2&&f.eqb .none_)||(s==3&&f.eqb .short)||(s==4&&f.eqb .small)||(s==5&&f.eqb .near)
def zrm (k:Nat)(z:Int):Bool:=match chs k with
 | [(c,f)]=>f.eqb .all&&(z==(c:Int))
 | _=>false
def znr (o:Oper)(k n:Nat):List (Nat×Operand)→Bool
 | [(0,.tmp s0),(1,.tmp s1)]=>n==2&&(match chs k with
  | [(c0,f0),(c1,f1)]=>depB o s0 (.cho c0 f0)&&depB o s1 (.cho c1 f1)
  | _=>false)
 | [(0,.tmp s0),(1,.tmp s1),(2,.tmp s2)]=>n==3&&(match chs k with
  | [(c0,f0),(c1,f1),(c2,f2)]=>depB o s0 (.cho c0 f0)&&depB o s1 (.cho c1 f1)&&depB o s2 (.cho c2 f2)
  | _=>false)
 | _=>false
def okOp (i:Nat)(o:Oper):Bool:=o.guard.isNone&&(match tbl[i]? with
 | none=>false
 | some (d,p)=>o.dst==d&&(match p,o.op with
  | .map,.makeMap t none=>i==0&&t==90
  | .map,.move (.tmp s)=>depB o s .map&&depB o 10 .map
  | .map,.assign (.tmp s)=>depB o s .map&&depB o 10 .map
  | .can f,.move (.tmp s)=>kfn s f
  | .maker m,.move (.tmp s)=>s==m+6&&decide (m < 3)
  | .can f,.load t (.tmp s)=>t==128&&s==1&&f.eqb .all
  | .ent k,.call c=>(match c.callee,c.args.toList with
   | .value (.tmp s),[.const (.int .u8 z)]=>depB o s (.maker 2)&&zrm k z
   | _,_=>false)
  | .can (.just n),.call c=>(match c.callee,c.args.toList with
   | .value (.tmp s),[.const (.int .u64 z)]=>depB o s (.maker 0)&&(z==(n:Int))
   | _,_=>false)
  | .can (.upto n),.call c=>(match c.callee,c.args.toList with
   | .value (.tmp s),[.const (.int .u64 z)]=>depB o s (.maker 1)&&(z==(n:Int))
   | _,_=>false)
  | .cho c f,.build t parts=>t==134&&(match parts.toList with
   | [(0,.const (.int .u8 z)),(1,.tmp s)]=>(z==(c:Int))&&depB o s (.can f)
   | _=>false)
  | .ent k,.buildSlice t n parts=>t==132&&znr o k n parts.toList
  | .ins k,.insert t (.tmp m) (.const (.int .u8 z)) (.tmp s)=>t==90&&m==10&&(z==(k:Int))&&depB o 10 .map&&depB o s (.ent k)
  | _,_=>false))
def zp0 (l:List Oper):Bool:=l.length==122&&(List.range 122).all fun i=>match l[i]? with
 | none=>false
 | some o=>okOp i o&&o.after.all fun e=>decide (e.on < i)
def zp1:Bool:=tbl.length==122&&(List.range 122).all fun i=>match tbl[i]? with
 | some (some d,_)=>(decide (9 < d)||(d==0))&&decide (d < 107)&&(List.range 122).all fun j=>(j==i)||(match tbl[j]? with
  | some (some d',_)=>!(d'==d)
  | _=>true)
 | some (none,.ins k)=>decide (1≤k)&&decide (k≤24)&&(List.range 122).all fun j=>(j==i)||(match tbl[j]? with
  | some (none,.ins k')=>!(k'==k)
  | _=>true)
 | _=>false
theorem zns:zp1=true:=by decide +kernel
theorem zcX (t:Array Value)(d:Nat)(x:Value)(e:Nat)(u:Value)(hd:d < t.size):(t.setIfInBounds d x).getD e u=if e=d then x else t.getD e u:=by
 by_cases h:e=d
 ·subst h;simp[Array.getD,hd]
 ·rw[if_neg h];by_cases he:e < t.size
  ·simp[Array.getD,he,Ne.symm h]
  ·simp[Array.getD,he]
theorem zaX (t:Array Bool)(d e:Nat)(hd:d < t.size):(t.setIfInBounds d true).getD e false=if e=d then true else t.getD e false:=by
 by_cases h:e=d
 ·subst h;simp[Array.getD,hd]
 ·rw[if_neg h];by_cases he:e < t.size
  ·simp[Array.getD,he,Ne.symm h]
  ·simp[Array.getD,he]
theorem zfA {i d:Nat}{p:Sp}(ht:tbl[i]? = some (some d,p)):(9 < d∨d=0)∧d < 107∧∀ j d' q,j≠i→tbl[j]? = some (some d',q)→d'≠d:=by
 have Hq:=zns;simp only[zp1,ybC,beq_iff_eq] at Hq;obtain⟨hl,gm⟩:=Hq;have hi:i < 122:=by rw[←hl];exact(List.getElem?_eq_some_iff.1 ht).1
 have h1:=List.all_eq_true.1 gm i (List.mem_range.2 hi);rw[ht] at h1;simp only[ybC,ybF,decide_eq_true_eq,beq_iff_eq] at h1;refine⟨h1.1.1,h1.1.2,fun j d' q hj hq=>?_⟩;have YZ:j < 122:=by rw[←hl];exact(List.getElem?_eq_some_iff.1 hq).1
 have h2:=List.all_eq_true.1 h1.2 j (List.mem_range.2 YZ);rw[hq] at h2;simp only[ybF,beq_iff_eq,Bool.not_eq_true',zac] at h2;rcases h2 with h2 | h2
 ·exact absurd h2 hj
 ·exact h2
theorem znt {i k:Nat}(ht:tbl[i]? = some (none,.ins k)):1≤k∧k≤24∧∀ j,j≠i→tbl[j]? ≠ some (none,.ins k):=by
 have Hq:=zns;simp only[zp1,ybC,beq_iff_eq] at Hq;obtain⟨hl,gm⟩:=Hq;have hi:i < 122:=by rw[←hl];exact(List.getElem?_eq_some_iff.1 ht).1
 have h1:=List.all_eq_true.1 gm i (List.mem_range.2 hi);rw[ht] at h1;simp only[ybC,decide_eq_true_eq] at h1;refine⟨h1.1.1,h1.1.2,fun j hj hq=>?_⟩;have YZ:j < 122:=by rw[←hl];exact(List.getElem?_eq_some_iff.1 hq).1
 have h2:=List.all_eq_true.1 h1.2 j (List.mem_range.2 YZ);rw[hq] at h2;simp only[ybF,beq_iff_eq,beq_self_eq_true,Bool.not_true,Bool.false_eq_true,or_false] at h2;exact hj h2
theorem zhE:tbl[0]? = some (some 10,.map):=rfl
theorem zbL:∀ {i:Nat} {p:Sp},tbl[i]? = some (none,p)→∃ k,p=.ins k:=by
 intro i p ht;have Hq:=zns;simp only[zp1,ybC,beq_iff_eq] at Hq;obtain⟨hl,gm⟩:=Hq;have hi:i < 122:=by rw[←hl];exact(List.getElem?_eq_some_iff.1 ht).1
 have h1:=List.all_eq_true.1 gm i (List.mem_range.2 hi);rw[ht] at h1;cases p with
 | ins k=>exact⟨k,rfl⟩
 | _=>simp at h1
def Sp.later:Sp→Bool
 | .map=>true
 | .ins _=>true
 | _=>false
structure Inv (W:World) (listed:Array Bool) (a:Act) (w:World):Prop where
 size:listed.size=122
 tms:a.tmps.size=107
 df:a.defers=[]
 stay:a.tmps.getD 1 undef=.pointer (some ⟨W.heap.size,0,none⟩)∧a.tmps.getD 2 undef=.func (.func 84) #[] #[]∧a.tmps.getD 3 undef=.func (.func 86) #[] #[]∧a.tmps.getD 4 undef=.func (.func 87) #[] #[]∧a.tmps.getD 5 undef=.func (.func 89) #[] #[] ∧
  a.tmps.getD 6 undef=mkr W.heap.size 0∧a.tmps.getD 7 undef=mkr W.heap.size 1∧a.tmps.getD 8 undef=mkr W.heap.size 2
 slots:∀ i d p,listed.getD i false=true→tbl[i]? = some (some d,p)→zgS W.heap.size w p (a.tmps.getD d undef)
 all:w.cell? ⟨W.heap.size,0,none⟩=some (.func (.func 83) #[] #[])
 low:Below W.heap.size W w
 lt:W.heap.size < w.heap.size
 map:listed.getD 0 false=true→∃ bm,W.heap.size < bm∧(∀ i d,listed.getD i false=true→tbl[i]? = some (some d,.map)→a.tmps.getD d undef=.map (some bm))∧MapS (fun k=>∃ i,listed.getD i false=true∧tbl[i]? = some (none,.ins k)) w bm
 early:listed.getD 0 false=false→∀ i d p,listed.getD i false=true→tbl[i]? = some (d,p)→p.later=false
section
variable {W:World} {listed:Array Bool} {a:Act} {w w':World} {i:Nat}
theorem zhF {d:Nat}{x:Value}(h:Inv W listed a w)(hd:9 < d∨d=0)(kM:d < 107):(a.put (some d) x).tmps.size=107∧(a.put (some d) x).defers=[]∧∀ e,1≤e→e≤9→(a.put (some d) x).tmps.getD e undef=a.tmps.getD e undef:=by
 refine⟨by simp[Act.put,h.tms],h.df,fun e h1 h2=>?_⟩;simp only[Act.put];rw[zcX _ _ _ _ _ (by rw[h.tms];exact kM),if_neg (by omega)]
theorem Inv.put (h:Inv W listed a w)(hi:i < 122){d:Nat}{p:Sp}(ht:tbl[i]? = some (some d,p))(hp:p.later=false){x:Value}(hb:Below w.heap.size w w')(hs:zgS W.heap.size w' p x):Inv W (listed.setIfInBounds i true) (a.put (some d) x) w':=by
 obtain⟨hd,kM,xw⟩:=zfA ht;obtain⟨e1,e2,e3⟩:=zhF (x:=x) h hd kM;have hk:=Keep.of_below hb;have kV:i < listed.size:=by rw[h.size];exact hi
 have QE:d < a.tmps.size:=by rw[h.tms];exact kM
 have Qm:i≠0:=fun e=>by subst e;rw[zhE] at ht;injection ht with ht;injection ht with _ ht;subst ht;cases hp
 have jc:∀ j d' q,j≠i→tbl[j]? = some (some d',q)→(a.put (some d) x).tmps.getD d' undef=a.tmps.getD d' undef:=fun j d' q hj hq=>by
  simp only[Act.put];rw[zcX _ _ _ _ _ QE,if_neg (xw j d' q hj hq)]
 refine⟨by simp[h.size],e1,e2,?_,?_,hk.2 _ h.lt _ _ h.all,h.low.trans (hb.mono (ybE h.lt)),ybB h.lt hb.size,?_,?_⟩
 ·obtain⟨s1,s2,s3,s4,s5,s6,s7,s8⟩:=h.stay;exact⟨(e3 1 (by omega) (by omega)).trans s1,(e3 2 (by omega) (by omega)).trans s2,(e3 3 (by omega) (by omega)).trans s3,(e3 4 (by omega) (by omega)).trans s4,(e3 5 (by omega) (by omega)).trans s5,(e3 6 (by omega) (by omega)).trans s6,(e3 7 (by omega) (by omega)).trans s7,(e3 8 (by omega) (by omega)).trans s8⟩
 ·intro j d' q hj hq;by_cases GC:j=i
  ·subst GC;rw[ht] at hq;injection hq with hq
   injection hq with h1 h2
   injection h1 with h1
   subst h1 h2;simp only[Act.put];rw[zcX _ _ _ _ _ QE,if_pos rfl];exact hs
  ·rw[zaX _ _ _ kV,if_neg GC] at hj;rw[jc j d' q GC hq];exact(h.slots j d' q hj hq).keep hk
 ·intro h0;rw[zaX _ _ _ kV,if_neg (Ne.symm Qm)] at h0;obtain⟨bm,QA,Gp,GP⟩:=h.map h0;refine⟨bm,QA,fun j d' hj hq=>?_,(GP.call hb).same fun k=>?_⟩
  ·have GC:j≠i:=fun e=>by
    subst e;rw[ht] at hq;injection hq with hq
    injection hq with _ h2
    rw[h2] at hp;cases hp
   rw[zaX _ _ _ kV,if_neg GC] at hj;rw[jc j d' _ GC hq];exact Gp j d' hj hq
  ·constructor
   ·rintro⟨j,hj,hq⟩;exact⟨j,by rw[zaX _ _ _ kV];split<;>simp_all,hq⟩
   ·rintro⟨j,hj,hq⟩;have GC:j≠i:=fun e=>by subst e;rw[ht] at hq;cases hq
    rw[zaX _ _ _ kV,if_neg GC] at hj;exact⟨j,hj,hq⟩
 ·intro h0 j d' q hj hq;rw[zaX _ _ _ kV,if_neg (Ne.symm Qm)] at h0;by_cases GC:j=i
  ·subst GC;rw[ht] at hq;injection hq with hq
   injection hq with _ h2
   rw[←h2];exact hp
  ·rw[zaX _ _ _ kV,if_neg GC] at hj;exact h.early h0 j d' q hj hq
theorem Inv.made (h:Inv W listed a w)(h0:listed.getD 0 false=false):Inv W (listed.setIfInBounds 0 true) (a.put (some 10) (.map (some w.heap.size))) (w.alloc (.map #[] 0)):=by
 obtain⟨hd,kM,xw⟩:=zfA zhE;obtain⟨e1,e2,e3⟩:=zhF (x:=.map (some w.heap.size)) h hd kM;have hb:Below w.heap.size w (w.alloc (.map #[] 0)):=(za _ _);have hk:=Keep.of_below hb;have kV:0 < listed.size:=by rw[h.size];omega
 have QE:10 < a.tmps.size:=by rw[h.tms];omega
 have jc:∀ j d' q,j≠0→tbl[j]? = some (some d',q)→(a.put (some 10) (.map (some w.heap.size))).tmps.getD d' undef=a.tmps.getD d' undef:=fun j d' q hj hq=>by
  simp only[Act.put];rw[zcX _ _ _ _ _ QE,if_neg (xw j d' q hj hq)]
 refine⟨by simp[h.size],e1,e2,?_,?_,hk.2 _ h.lt _ _ h.all,h.low.trans (hb.mono (ybE h.lt)),ybB h.lt hb.size,?_,?_⟩
 ·obtain⟨s1,s2,s3,s4,s5,s6,s7,s8⟩:=h.stay;exact⟨(e3 1 (by omega) (by omega)).trans s1,(e3 2 (by omega) (by omega)).trans s2,(e3 3 (by omega) (by omega)).trans s3,(e3 4 (by omega) (by omega)).trans s4,(e3 5 (by omega) (by omega)).trans s5,(e3 6 (by omega) (by omega)).trans s6,(e3 7 (by omega) (by omega)).trans s7,(e3 8 (by omega) (by omega)).trans s8⟩
 ·intro j d' q hj hq;by_cases GC:j=0
  ·subst GC;rw[zhE] at hq;injection hq with hq
   injection hq with h1 h2
   subst h2
   trivial
  ·rw[zaX _ _ _ kV,if_neg GC] at hj;rw[jc j d' q GC hq];exact(h.slots j d' q hj hq).keep hk
 ·intro _;refine⟨w.heap.size,h.lt,fun j d' hj hq=>?_,(zpU w).same fun k=>⟨fun h=>h.elim,?_⟩⟩
  ·by_cases GC:j=0
   ·subst GC;rw[zhE] at hq;injection hq with hq
    injection hq with h1 h2
    injection h1 with h1
    subst h1;simp only[Act.put];rw[zcX _ _ _ _ _ QE,if_pos rfl]
   ·rw[zaX _ _ _ kV,if_neg GC] at hj;have:=h.early h0 j _ _ hj hq;cases this
  ·rintro⟨j,hj,hq⟩;have GC:j≠0:=fun e=>by subst e;rw[zhE] at hq;cases hq
   rw[zaX _ _ _ kV,if_neg GC] at hj;have:=h.early h0 j _ _ hj hq;cases this
 ·intro qh;rw[zaX _ _ _ kV,if_pos rfl] at qh;cases qh
theorem Inv.hand (h:Inv W listed a w)(hi:i < 122)(Qm:i≠0){d:Nat}(ht:tbl[i]? = some (some d,.map))(h0:listed.getD 0 false=true){x:Value}(hx:∀ bm,(∀ j d',listed.getD j false=true→tbl[j]? = some (some d',.map)→a.tmps.getD d' undef=.map (some bm))→x=.map (some bm)):Inv W (listed.setIfInBounds i true) (a.put (some d) x) w:=by
 obtain⟨hd,kM,xw⟩:=zfA ht;obtain⟨e1,e2,e3⟩:=zhF (x:=x) h hd kM;have kV:i < listed.size:=by rw[h.size];exact hi
 have QE:d < a.tmps.size:=by rw[h.tms];exact kM
 have jc:∀ j d' q,j≠i→tbl[j]? = some (some d',q)→(a.put (some d) x).tmps.getD d' undef=a.tmps.getD d' undef:=fun j d' q hj hq=>by
  simp only[Act.put];rw[zcX _ _ _ _ _ QE,if_neg (xw j d' q hj hq)]
 obtain⟨bm,QA,Gp,GP⟩:=h.map h0;have hxb:=hx bm Gp;refine⟨by simp[h.size],e1,e2,?_,?_,h.all,h.low,h.lt,?_,?_⟩
 ·obtain⟨s1,s2,s3,s4,s5,s6,s7,s8⟩:=h.stay;exact⟨(e3 1 (by omega) (by omega)).trans s1,(e3 2 (by omega) (by omega)).trans s2,(e3 3 (by omega) (by omega)).trans s3,(e3 4 (by omega) (by omega)).trans s4,(e3 5 (by omega) (by omega)).trans s5,(e3 6 (by omega) (by omega)).trans s6,(e3 7 (by omega) (by omega)).trans s7,(e3 8 (by omega) (by omega)).trans s8⟩
 ·intro j d' q hj hq;by_cases GC:j=i
  ·subst GC;rw[ht] at hq;injection hq with hq
   injection hq with h1 h2
   subst h2
   trivial
  ·rw[zaX _ _ _ kV,if_neg GC] at hj;rw[jc j d' q GC hq];exact h.slots j d' q hj hq
 ·intro _;refine⟨bm,QA,fun j d' hj hq=>?_,GP.same fun k=>?_⟩
  ·by_cases GC:j=i
   ·subst GC;rw[ht] at hq;injection hq with hq
    injection hq with h1 h2
    injection h1 with h1
    subst h1;simp only[Act.put];rw[zcX _ _ _ _ _ QE,if_pos rfl];exact hxb
   ·rw[zaX _ _ _ kV,if_neg GC] at hj;rw[jc j d' _ GC hq];exact Gp j d' hj hq
  ·constructor
   ·rintro⟨j,hj,hq⟩;exact⟨j,by rw[zaX _ _ _ kV];split<;>simp_all,hq⟩
   ·rintro⟨j,hj,hq⟩;have GC:j≠i:=fun e=>by subst e;rw[ht] at hq;cases hq
    rw[zaX _ _ _ kV,if_neg GC] at hj;exact⟨j,hj,hq⟩
 ·intro qh;rw[zaX _ _ _ kV,if_neg (Ne.symm Qm),h0] at qh;cases qh
theorem Inv.laid (h:Inv W listed a w)(hi:i < 122){k:Nat}(ht:tbl[i]? = some (none,.ins k))(h0:listed.getD 0 false=true){bm:Nat}(QA:W.heap.size < bm)(Gp:∀ j d',listed.getD j false=true→tbl[j]? = some (some d',.map)→a.tmps.getD d' undef=.map (some bm))
  (hm:MapS (fun j=>j=k∨∃ i,listed.getD i false=true∧tbl[i]? = some (none,.ins j)) w' bm) (hg:w.grownBy w' (some bm)) (hk:Keep w w') {x:Value}:Inv W (listed.setIfInBounds i true) (a.put none x) w':=by
 have kV:i < listed.size:=by rw[h.size];exact hi
 have Qm:i≠0:=fun e=>by subst e;rw[zhE] at ht;cases ht
 refine⟨by simp[h.size],h.tms,h.df,h.stay,?_,hk.2 _ h.lt _ _ h.all,?_,ybB h.lt hg.size,?_,?_⟩
 ·intro j d' q hj hq;have GC:j≠i:=fun e=>by subst e;rw[ht] at hq;cases hq
  rw[zaX _ _ _ kV,if_neg GC] at hj;exact(h.slots j d' q hj hq).keep hk
 ·exact h.low.grown hg h.low.size fun j hj=>by injection hj with hj;omega
 ·intro _;refine⟨bm,QA,fun j d' hj hq=>?_,hm.same fun j=>?_⟩
  ·have GC:j≠i:=fun e=>by subst e;rw[ht] at hq;cases hq
   rw[zaX _ _ _ kV,if_neg GC] at hj;exact Gp j d' hj hq
  ·constructor
   ·rintro(rfl | ⟨n,hn,hq⟩)
    ·exact⟨i,by rw[zaX _ _ _ kV,if_pos rfl],ht⟩
    ·exact⟨n,by rw[zaX _ _ _ kV];split<;>simp_all,hq⟩
   ·rintro⟨n,hn,hq⟩;by_cases Xq:n=i
    ·subst Xq;rw[ht] at hq;injection hq with hq
     injection hq with _ hq
     injection hq with hq
     exact .inl hq.symm
    ·rw[zaX _ _ _ kV,if_neg Xq] at hn;exact .inr ⟨n,hn,hq⟩
 ·intro qh;rw[zaX _ _ _ kV,if_neg (Ne.symm Qm),h0] at qh;cases qh
end
theorem zsh (w:World)(g:Nat)(h:w.cell? ⟨g,0,none⟩=some (.func (.func 83) #[] #[])):(Instr.loadAt 128 (.pointer (some ⟨g,0,none⟩))).run prog w=.ok (.func (.func 83) #[] #[]) w:=by go_simp
theorem znu (w:World)(z:Int)(fn:Fn)(c:Array Value):(Instr.build 134 #[(0,.int .u8 z),(1,.func fn #[] c)]).run prog w=.ok (.agg #[.int .u8 z,.func fn #[] c]) w:=by go_simp
theorem zsi (w:World)(z0 z1:Int)(f0 f1:Fn)(c0 c1:Array Value):(Instr.buildSlice 132 2 #[(0,.agg #[.int .u8 z0,.func f0 #[] c0]),(1,.agg #[.int .u8 z1,.func f1 #[] c1])]).run prog w=.ok (.slice (some ⟨w.heap.size,0,none⟩) 2 2) (w.alloc (.cells #[.int .u8 z0,.func f0 #[] c0,.int .u8 z1,.func f1 #[] c1] 134)):=by go_simp
theorem zsj (w:World)(z0 z1 z2:Int)(f0 f1 f2:Fn)(c0 c1 c2:Array Value):(Instr.buildSlice 132 3 #[(0,.agg #[.int .u8 z0,.func f0 #[] c0]),(1,.agg #[.int .u8 z1,.func f1 #[] c1]),(2,.agg #[.int .u8 z2,.func f2 #[] c2])]).run prog w=.ok (.slice (some ⟨w.heap.size,0,none⟩) 3 3) (w.alloc (.cells #[.int .u8 z0,.func f0 #[] c0,.int .u8 z1,.func f1 #[] c1,.int .u8 z2,.func f2 #[] c2] 134)):=by go_simp
theorem zco {w:World}{f:Can}{v:Value}(h:CanV w f v):∃ fn c,v=.func fn #[] c:=by
 cases f with
 | just n=>obtain⟨g,e,_⟩:=h;exact⟨_,_,e⟩
 | upto n=>obtain⟨g,e,_⟩:=h;exact⟨_,_,e⟩
 | all=>exact⟨_,_,h⟩
 | short=>exact⟨_,_,h⟩
 | near=>exact⟨_,_,h⟩
 | none_=>exact⟨_,_,h⟩
 | small=>exact⟨_,_,h⟩
theorem ent1 {w:World}{k c0:Nat}{z0:Int}{f0:Can}{v0:Value}{g:Nat}(hg:g=w.heap.size)(hk:chs k=[(c0,f0)])(e0:z0=(c0:Int))(h0:CanV w f0 v0):EntV (w.alloc (.cells #[.int .u8 z0,v0] 134)) k (.slice (some ⟨g,0,none⟩) 1 1):=by
 subst hg e0;refine⟨w.heap.size,1,by rw[hk];rfl,by simp,?_⟩;rw[hk];exact⟨⟨by simp,v0,by simp,h0.alloc _⟩,trivial⟩
theorem ent2 {w:World}{k c0 c1:Nat}{z0 z1:Int}{f0 f1:Can}{v0 v1:Value}{g:Nat}(hg:g=w.heap.size)(hk:chs k=[(c0,f0),(c1,f1)])(e0:z0=(c0:Int))(e1:z1=(c1:Int))(h0:CanV w f0 v0)(h1:CanV w f1 v1):EntV (w.alloc (.cells #[.int .u8 z0,v0,.int .u8 z1,v1] 134)) k (.slice (some ⟨g,0,none⟩) 2 2):=by
 subst hg e0 e1;refine⟨w.heap.size,2,by rw[hk];rfl,by simp,?_⟩;rw[hk];exact⟨⟨by simp,v0,by simp,h0.alloc _⟩,⟨by simp,v1,by simp,h1.alloc _⟩,trivial⟩
theorem ent3 {w:World}{k c0 c1 c2:Nat}{z0 z1 z2:Int}{f0 f1 f2:Can}{v0 v1 v2:Value}{g:Nat}(hg:g=w.heap.size)(hk:chs k=[(c0,f0),(c1,f1),(c2,f2)])(e0:z0=(c0:Int))(e1:z1=(c1:Int))(e2:z2=(c2:Int))(h0:CanV w f0 v0)(h1:CanV w f1 v1)(h2:CanV w f2 v2):EntV (w.alloc (.cells #[.int .u8 z0,v0,.int .u8 z1,v1,.int .u8 z2,v2] 134)) k (.slice (some ⟨g,0,none⟩) 3 3):=by
 subst hg e0 e1 e2;refine⟨w.heap.size,3,by rw[hk];rfl,by simp,?_⟩;rw[hk];exact⟨⟨by simp,v0,by simp,h0.alloc _⟩,⟨by simp,v1,by simp,h1.alloc _⟩,⟨by simp,v2,by simp,h2.alloc _⟩,trivial⟩
def znv (f:Can)(w:World)(e:Ending)(w':World):Prop:=∃ v,e=.returned v∧CanV w' f v∧Below w.heap.size w w'
def ztU (z:Int)(w:World)(e:Ending)(w':World):Prop:=∃ v,e=.returned v∧(∀ k c,chs k=[(c,.all)]→z=((c:Nat):Int)→EntV w' k v)∧Below w.heap.size w w'
theorem mkf (fn:Fn)(first cap:Array Value)(w:World):(Instr.makeFunc fn first cap).run prog w=.ok (.func fn first cap) w:=rfl
theorem zgT (w:World)(a:Addr)(fn:Fn)(x y:Array Value)(m:Mode):(store a (.func fn x y) m).run prog w=stored prog w a (.func fn x y) m:=run_store prog w a _ m rfl
theorem zp2 (n:Nat)(w:World):Calls prog 91 #[.int .u64 (n:Int)] w (znv (.just n) w):=by
 have U2:=mkf;go_enter func91,ntmps91;go_wp2;go_ret;exact⟨_,rfl,⟨w.heap.size,rfl,by simp,by simp⟩,(za _ _)⟩
theorem zp3 (n:Nat)(w:World):Calls prog 93 #[.int .u64 (n:Int)] w (znv (.upto n) w):=by
 have U2:=mkf;go_enter func93,ntmps93;go_wp2;go_ret;exact⟨_,rfl,⟨w.heap.size,rfl,by simp,by simp⟩,(za _ _)⟩
theorem zhk (c:Int)(g:Nat)(w:World)(hg:w.cell? ⟨g,0,none⟩=some (.func (.func 83) #[] #[])):Calls prog 95 #[.int .u8 c,.pointer (some ⟨g,0,none⟩)] w (ztU c w):=by
 go_enter func95,ntmps95;go_wp2;go_ret;exact⟨_,rfl,fun k _ hk hz=>ent1 rfl hk hz rfl,(za _ _)⟩
section
variable {W:World} {listed:Array Bool} {a:Act} {w:World} {i:Nat} {o:Oper} {K:Act→World→Prop} {Q:Exit→Act→World→Prop} {ops:Array Oper}
theorem zsk (ho:ops[i]? = some o)(hg:o.guard=none)(h:o.wp prog a w K Q):wpOp prog ops Q i K a w:=by
 unfold wpOp;rw[ho];simp only[Region.wanted,hg,if_true];exact .inl h
theorem zez {v:Value}{w':World}(hr:(execOp a.eval o).run prog w=.ok (.value v) w')(hK:K (a.put o.dst v) w'):o.wp prog a w K Q:=by
 unfold Oper.wp;rw[hr];exact hK
theorem wp_skip {w':World}(hr:(execOp a.eval o).run prog w=.ok .skip w')(hK:K (a.put o.dst undef) w'):o.wp prog a w K Q:=by
 unfold Oper.wp;rw[hr];exact hK
theorem zjW {f:FuncId}{args:Array Value}(hr:(execOp a.eval o).run prog w=.ok (.enter f args) w){R:Ending→World→Prop}(hc:Calls prog f args w R)(hK:∀ e w',R e w'→∃ v,e=.returned v∧K (a.put o.dst v) w'):o.wp prog a w K Q:=by
 unfold Oper.wp;rw[hr];refine hc.mono fun e w' hR=>?_;obtain⟨v,rfl,hk⟩:=hK e w' hR;exact hk
theorem zeA {s:Nat}{p:Sp}(h:depB o s p=true):∃ e∈o.after,Region.binds .any e=true∧tbl[e.on]? = some (some s,p):=by
 simp only[depB] at h;obtain⟨e,he,hb⟩:=Array.any_eq_true'.1 h;simp only[ybC] at hb;refine⟨e,he,hb.1,?_⟩;have h2:=hb.2
 split at h2
 ·rename_i d q hq;simp only[ybC,beq_iff_eq] at h2;rw[hq,h2.1,Sp.eqb_iff h2.2]
 ·cases h2
theorem Inv.dep (h:Inv W listed a w)(hd:∀ e∈o.after,Region.binds .any e=true→listed.getD e.on false=true){s:Nat}{p:Sp}(hb:depB o s p=true):zgS W.heap.size w p (a.tmps.getD s undef):=by
 obtain⟨e,he,h1,h2⟩:=zeA hb;exact h.slots _ _ _ (hd e he h1) h2
theorem Inv.dep0 (hd:∀ e∈o.after,Region.binds .any e=true→listed.getD e.on false=true)(hb:depB o 10 .map=true):listed.getD 0 false=true:=by
 obtain⟨e,he,h1,h2⟩:=zeA hb;have:=hd e he h1;by_cases h0:e.on=0
 ·rw[h0] at this;exact this
 ·exact absurd rfl ((zfA zhE).2.2 _ _ _ h0 h2)
end
theorem zsl {W:World}{listed:Array Bool}{a:Act}{w:World}(h:Inv W listed a w){s:Nat}{f:Can}(hk:kfn s f=true):CanV w f (a.eval (.tmp s)):=by
 obtain⟨s1,s2,s3,s4,s5,s6,s7,s8⟩:=h.stay;simp only[kfn,ybF,ybC,beq_iff_eq] at hk;rcases hk with ((⟨rfl,hf⟩ | ⟨rfl,hf⟩) | ⟨rfl,hf⟩) | ⟨rfl,hf⟩
 ·rw[Can.eqb_iff hf];exact s2
 ·rw[Can.eqb_iff hf];exact s3
 ·rw[Can.eqb_iff hf];exact s4
 ·rw[Can.eqb_iff hf];exact s5
theorem zsm {W:World}{listed:Array Bool}{a:Act}{w:World}(h:Inv W listed a w){m:Nat}(hm:m < 3):a.eval (.tmp (m+6))=mkr W.heap.size m:=by
 obtain⟨s1,s2,s3,s4,s5,s6,s7,s8⟩:=h.stay
 match m,hm with
 | 0,_=>exact s6
 | 1,_=>exact s7
 | 2,_=>exact s8
def ztV:Bool:=tbl.all fun x=>match x with
 | (some _,.ins _)=>false
 | _=>true
theorem zsn:ztV=true:=by decide +kernel
theorem zp4 (i d k:Nat):tbl[i]? ≠ some (some d,.ins k):=fun h=>by
 have:=List.all_eq_true.1 zsn _ (List.mem_of_getElem? h);cases this
theorem zp5 (l:List Oper)(Hq:zp0 l=true){W:World}{listed:Array Bool}{a:Act}{w:World}{i:Nat}{Q:Exit→Act→World→Prop}(h:Inv W listed a w)(hr:i∈Region.ready .any l.toArray listed) :
  wpOp prog l.toArray Q i (fun a' w'=>Inv W (listed.setIfInBounds i true) a' w') a w:=by
 obtain⟨hi,xw,o,ho,Gr⟩:=ziN hr;simp only[zp0,ybC,beq_iff_eq] at Hq;obtain⟨hl,gm⟩:=Hq;have jO:i < 122:=by rw[←hl];simpa using hi
 have h1:=List.all_eq_true.1 gm i (List.mem_range.2 jO);have v7:l[i]? = some o:=by simpa using ho
 rw[v7] at h1;simp only[ybC] at h1;obtain⟨gB,_⟩:=h1;have qU:listed.getD i false=false:=by
  have:i < listed.size:=by rw[h.size];exact jO
  simp only[Array.getD,this,dif_pos] at xw ⊢;exact xw
 unfold okOp at gB;rw[ybC] at gB;obtain⟨hg,gB⟩:=gB;have vW:o.guard=none:=by simpa using hg
 split at gB
 ·cases gB
 rename_i d p ht;rw[ybC,beq_iff_eq] at gB;obtain⟨hd,gB⟩:=gB;refine zsk ho vW ?_
 split at gB
 ·-- the map is made
  rename_i t Kt;simp only[ybC,beq_iff_eq] at gB;obtain⟨rfl,rfl⟩:=gB;rw[zhE] at ht;injection ht with ht
  injection ht with ht _
  refine zez (v:=.map (some w.heap.size)) (w':=w.alloc (.map #[] 0)) ?_ ?_
  ·simp[execOp,Kt,run_makeMap,Result.andThen]
  ·rw[hd,←ht];exact h.made qU
 ·rename_i s Kt;simp only[ybC] at gB;have h0:=Inv.dep0 Gr gB.2;cases d with
  | none=>obtain⟨_,e⟩:=zbL ht;cases e
  | some d=>
   refine zez (v:=a.eval (.tmp s)) (w':=w) (by simp[execOp,Kt]) ?_;rw[hd];refine h.hand jO (fun e=>by rw[e,h0] at qU;cases qU) ht h0 fun bm hb=>?_;obtain⟨e,he,h1,h2⟩:=zeA gB.1;exact hb _ _ (Gr e he h1) h2
 ·rename_i s Kt;simp only[ybC] at gB;have h0:=Inv.dep0 Gr gB.2;cases d with
  | none=>obtain⟨_,e⟩:=zbL ht;cases e
  | some d=>
   refine zez (v:=a.eval (.tmp s)) (w':=w) (by simp[execOp,Kt]) ?_;rw[hd];refine h.hand jO (fun e=>by rw[e,h0] at qU;cases qU) ht h0 fun bm hb=>?_;obtain⟨e,he,h1,h2⟩:=zeA gB.1;exact hb _ _ (Gr e he h1) h2
 ·rename_i f s Kt;cases d with
  | none=>obtain⟨_,e⟩:=zbL ht;cases e
  | some d=>
   refine zez (v:=a.eval (.tmp s)) (w':=w) (by simp[execOp,Kt]) ?_;rw[hd];exact h.put jO ht rfl (Below.refl _ _) (zsl h gB)
 ·rename_i m s Kt;simp only[ybC,beq_iff_eq,decide_eq_true_eq] at gB;obtain⟨rfl,hm⟩:=gB;cases d with
  | none=>obtain⟨_,e⟩:=zbL ht;cases e
  | some d=>
   refine zez (v:=a.eval (.tmp (m+6))) (w':=w) (by simp[execOp,Kt]) ?_;rw[hd];exact h.put jO ht rfl (Below.refl _ _) (zsm h hm)
 ·rename_i f t s Kt;simp only[ybC,beq_iff_eq] at gB;obtain⟨⟨rfl,rfl⟩,hf⟩:=gB;have hf:=Can.eqb_iff hf;subst hf;cases d with
  | none=>obtain⟨_,e⟩:=zbL ht;cases e
  | some d=>
   refine zez (v:=.func (.func 83) #[] #[]) (w':=w) (by simp[execOp,Kt,Act.eval,h.stay.1,zsh w _ h.all,Result.andThen]) ?_;rw[hd];exact h.put jO ht rfl (Below.refl _ _) rfl
 ·rename_i k c Kt
  split at gB
  ·rename_i s z vd jB;simp only[ybC] at gB;have hs:a.tmps.getD s undef=mkr W.heap.size 2:=h.dep Gr gB.1;have hz:∃ c0:Nat,chs k=[(c0,.all)]∧z=(c0:Int):=by
    have:=gB.2;unfold zrm at this
    split at this
    ·rename_i c0 f hc;simp only[ybC,beq_iff_eq] at this;exact⟨c0,by rw[hc,Can.eqb_iff this.1],this.2⟩
    ·cases this
   obtain⟨c0,j3,hz⟩:=hz;have ha:c.args=#[.const (.int .u8 z)]:=Array.toList_inj.1 jB;cases d with
   | none=>obtain⟨_,e⟩:=zbL ht;cases e
   | some d=>
    refine zjW (f:=95) (args:=#[.int .u8 z,.pointer (some ⟨W.heap.size,0,none⟩)]) (by simp[execOp,Kt,resolve,vd,ha,Act.eval,hs,mkr,Deferred.ofValue,invoke,call95]) (zhk z W.heap.size w h.all) fun e w' hR=>?_;obtain⟨v,rfl,hE,hb⟩:=hR;exact⟨v,rfl,by rw[hd];exact h.put jO ht rfl hb (hE _ _ j3 hz)⟩
  ·cases gB
 ·rename_i n c Kt
  split at gB
  ·rename_i s z vd jB;simp only[ybC,beq_iff_eq] at gB;obtain⟨Xr,rfl⟩:=gB;have hs:a.tmps.getD s undef=mkr W.heap.size 0:=h.dep Gr Xr;have ha:c.args=#[.const (.int .u64 (n:Int))]:=Array.toList_inj.1 jB;cases d with
   | none=>obtain⟨_,e⟩:=zbL ht;cases e
   | some d=>
    refine zjW (f:=91) (args:=#[.int .u64 (n:Int)]) (by simp[execOp,Kt,resolve,vd,ha,Act.eval,hs,mkr,Deferred.ofValue,invoke,call91]) (zp2 n w) fun e w' hR=>?_;obtain⟨v,rfl,hE,hb⟩:=hR;exact⟨v,rfl,by rw[hd];exact h.put jO ht rfl hb hE⟩
  ·cases gB
 ·rename_i n c Kt
  split at gB
  ·rename_i s z vd jB;simp only[ybC,beq_iff_eq] at gB;obtain⟨Xr,rfl⟩:=gB;have hs:a.tmps.getD s undef=mkr W.heap.size 1:=h.dep Gr Xr;have ha:c.args=#[.const (.int .u64 (n:Int))]:=Array.toList_inj.1 jB;cases d with
   | none=>obtain⟨_,e⟩:=zbL ht;cases e
   | some d=>
    refine zjW (f:=93) (args:=#[.int .u64 (n:Int)]) (by simp[execOp,Kt,resolve,vd,ha,Act.eval,hs,mkr,Deferred.ofValue,invoke,call93]) (zp3 n w) fun e w' hR=>?_;obtain⟨v,rfl,hE,hb⟩:=hR;exact⟨v,rfl,by rw[hd];exact h.put jO ht rfl hb hE⟩
  ·cases gB
 ·rename_i c f t parts Kt;simp only[ybC,beq_iff_eq] at gB;obtain⟨rfl,gB⟩:=gB
  split at gB
  ·rename_i z s hp;simp only[ybC,beq_iff_eq] at gB;obtain⟨rfl,Xr⟩:=gB;have hs:CanV w f (a.tmps.getD s undef):=h.dep Gr Xr;obtain⟨fn,cp,hv⟩:=zco hs;have YU:=hv;rw[Array.getD_eq_getD_getElem?] at YU;have ha:parts=#[(0,.const (.int .u8 (c:Int))),(1,.tmp s)]:=Array.toList_inj.1 hp;cases d with
   | none=>obtain⟨_,e⟩:=zbL ht;cases e
   | some d=>
    refine zez (v:=.agg #[.int .u8 (c:Int),.func fn #[] cp]) (w':=w) (by simp[execOp,Kt,ha,Act.eval,YU,znu w,Result.andThen]) ?_;rw[hd];exact h.put jO ht rfl (Below.refl _ _) ⟨_,rfl,hv▸hs⟩
  ·cases gB
 ·rename_i k t n parts Kt;simp only[ybC,beq_iff_eq] at gB;obtain⟨rfl,gB⟩:=gB;unfold znr at gB
  split at gB
  ·rename_i s0 s1 hp;simp only[ybC,beq_iff_eq] at gB;obtain⟨rfl,gB⟩:=gB
   split at gB
   ·rename_i c0 f0 c1 f1 hc;simp only[ybC] at gB;obtain⟨v0,e0,q0⟩:=h.dep Gr gB.1;obtain⟨v1,e1,q1⟩:=h.dep Gr gB.2;rw[Array.getD_eq_getD_getElem?] at e0 e1;obtain⟨fn0,cp0,rfl⟩:=zco q0;obtain⟨fn1,cp1,rfl⟩:=zco q1;have ha:parts=#[(0,.tmp s0),(1,.tmp s1)]:=Array.toList_inj.1 hp;cases d with
    | none=>obtain⟨_,e⟩:=zbL ht;cases e
    | some d=>
     refine zez (v:=.slice (some ⟨w.heap.size,0,none⟩) 2 2) (w':=w.alloc (.cells #[.int .u8 (c0:Int),.func fn0 #[] cp0,.int .u8 (c1:Int),.func fn1 #[] cp1] 134)) (by simp[execOp,Kt,ha,Act.eval,e0,e1,zsi w,Result.andThen]) ?_;rw[hd];exact h.put jO ht rfl ((za _ _)) (ent2 rfl hc rfl rfl q0 q1)
   ·cases gB
  ·rename_i s0 s1 s2 hp;simp only[ybC,beq_iff_eq] at gB;obtain⟨rfl,gB⟩:=gB
   split at gB
   ·rename_i c0 f0 c1 f1 c2 f2 hc;simp only[ybC] at gB;obtain⟨v0,e0,q0⟩:=h.dep Gr gB.1.1;obtain⟨v1,e1,q1⟩:=h.dep Gr gB.1.2;obtain⟨v2,e2,q2⟩:=h.dep Gr gB.2;rw[Array.getD_eq_getD_getElem?] at e0 e1 e2;obtain⟨fn0,cp0,rfl⟩:=zco q0;obtain⟨fn1,cp1,rfl⟩:=zco q1;obtain⟨fn2,cp2,rfl⟩:=zco q2;have ha:parts=#[(0,.tmp s0),(1,.tmp s1),(2,.tmp s2)]:=Array.toList_inj.1 hp;cases d with
    | none=>obtain⟨_,e⟩:=zbL ht;cases e
    | some d=>
     refine zez (v:=.slice (some ⟨w.heap.size,0,none⟩) 3 3) (w':=w.alloc (.cells #[.int .u8 (c0:Int),.func fn0 #[] cp0,.int .u8 (c1:Int),.func fn1 #[] cp1,.int .u8 (c2:Int),.func fn2 #[] cp2] 134)) (by simp[execOp,Kt,ha,Act.eval,e0,e1,e2,zsj w,Result.andThen]) ?_;rw[hd];exact h.put jO ht rfl ((za _ _)) (ent3 rfl hc rfl rfl rfl q0 q1 q2)
   ·cases gB
  ·cases gB
 ·rename_i k t m z s Kt;simp only[ybC,beq_iff_eq] at gB;obtain⟨⟨⟨⟨rfl,rfl⟩,rfl⟩,jI⟩,hds⟩:=gB;have h0:=Inv.dep0 Gr jI;obtain⟨bm,QA,Gp,GP⟩:=h.map h0;have hE:EntV w k (a.tmps.getD s undef):=h.dep Gr hds;have uT:a.tmps.getD 10 undef=.map (some bm):=Gp 0 10 h0 zhE;cases d with
  | some d=>
   exact absurd ht (zp4 i d k)
  | none=>
   obtain⟨gF,gR,Cx⟩:=znt ht;have GN:¬ ∃ j,listed.getD j false=true∧tbl[j]? = some (none,.ins k):=fun⟨j,hj,hq⟩=>by
    by_cases GC:j=i
    ·rw[GC,qU] at hj;cases hj
    ·exact Cx j GC hq
   obtain⟨w',gw,r1,r2,r3⟩:=zlO GP GN hE;rw[Array.getD_eq_getD_getElem?] at gw uT;refine wp_skip (w':=w') (by simp[execOp,Kt,Act.eval,uT,gw,Result.andThen]) ?_;rw[hd];exact h.laid jO ht h0 QA Gp r1 r2 r3
 ·cases gB
theorem zgc {i:Nat}(h:(Array.replicate 122 false).getD i false=true):False:=by
 rw[Array.getD_eq_getD_getElem?,Array.getElem?_replicate] at h
 split at h<;>cases h
def ztW (w:World)(e:Ending)(w':World):Prop:=∃ bm,e=.returned (.map (some bm))∧CM w' bm∧Below w.heap.size w w'
def ztX:Bool:=(List.range 24).all fun k=>tbl.any fun x=>match x with
 | (none,.ins j)=>j==k+1
 | _=>false
theorem zso:ztX=true:=by decide +kernel
theorem ztY {k:Nat}(h1:1≤k)(h2:k≤24):∃ i,i < 122∧tbl[i]? = some (none,.ins k):=by
 have h:=List.all_eq_true.1 zso (k - 1) (List.mem_range.2 (by omega));obtain⟨x,hx,hb⟩:=List.any_eq_true.1 h;obtain⟨i,hi⟩:=List.mem_iff_getElem?.1 hx;have hl:tbl.length=122:=rfl;refine⟨i,by rw[←hl];exact(List.getElem?_eq_some_iff.1 hi).1,?_⟩;rw[hi]
 split at hb
 ·rename_i j;rw[beq_iff_eq] at hb;rw[hb,Nat.sub_add_cancel h1]
 ·cases hb
theorem zp6 {l:List Oper}{id:Nat}{a:Act}{w W:World}{Q:Exit→Act→World→Prop}(Hq:zp0 l=true)(hI:Inv W (Array.replicate 122 false) a w.drew)(hm:prog.follows .mixedOrders=true)
  (h:∀ a' w' bm,a'.defers=[]→a'.tmps.getD 0 undef=.map (some bm)→CM w' bm→Below W.heap.size W w'→Q .normal a' w'):(Code.region id l.toArray true).wp prog Q a w:=by
 have ve:=Hq;simp only[zp0,ybC,beq_iff_eq] at ve;obtain⟨hl,gm⟩:=ve;have kV:l.toArray.size=122:=by simpa using hl
 refine zhD hm (Inv W) (fun listed a w h=>by rw[h.size,kV]) (fun listed a w i h hr=>zp5 l Hq h hr) (fun listed a' w' U5 hr=>?_) (by rw[kV];exact hI);have qD:=zpZ (by rw[U5.size,kV]) hr fun i o ho e he=>by
  have hi:i < 122:=by rw[←kV];exact(Array.getElem?_eq_some_iff.1 ho).1
  have h1:=List.all_eq_true.1 gm i (List.mem_range.2 hi);have v7:l[i]? = some o:=by simpa using ho
  rw[v7] at h1;simp only[ybC] at h1;exact of_decide_eq_true (Array.all_eq_true'.1 h1.2 e he)
 rw[kV] at qD;obtain⟨bm,_,Gp,GP⟩:=U5.map (qD 0 (by omega));refine h a' w' bm U5.df (Gp 121 0 (qD 121 (by omega)) rfl) (GP.same fun k=>⟨fun⟨i,_,hi⟩=>?_,fun hk=>?_⟩) U5.low
 ·obtain⟨h1,h2,_⟩:=znt hi;exact⟨h1,h2⟩
 ·obtain⟨i,hi,ht⟩:=ztY hk.1 hk.2;exact⟨i,qD i hi,ht⟩
theorem zfi (W:World):Calls prog 52 #[] W (ztW W):=by
 have U2:=mkf;have hsf:=zgT;have Vd:prog.follows .mixedOrders=true:=by kernel_rfl
 have hB:Below W.heap.size W (W.alloc (.cells #[.func (.func 83) #[] #[]] 128)):=(za _ _);go_enter func52,ntmps52;go_wp2_with fail;refine zp6 (W:=W) (by kernel_rfl) ?_ Vd ?_
 ·refine⟨rfl,rfl,rfl,⟨rfl,rfl,rfl,rfl,rfl,rfl,rfl,rfl⟩,fun i d p h=>(zgc h).elim,?_,hB.drew,by simp,fun h=>(zgc h).elim,fun _ i d p h=>(zgc h).elim⟩
  show (W.alloc (.cells #[.func (.func 83) #[] #[]] 128)).cell? _=_
  simp
 ·intro a' w' bm hd hs hc hb;obtain⟨tm,df⟩:=a';simp only at hd hs;subst hd;go_wp2;go_ret;exact⟨bm,congrArg Ending.returned hs,hc,hb⟩
def Bnd (l:List Pl):Prop:=∀ p∈l,p.re < 2 ^ 50∧p.im < 2 ^ 50
def Says (w:World)(f:Can)(fn:FuncId)(cap:Array Value):Prop:=∀ (ns ks:List Pl) (NA:Oz) (nl nc k n:Nat) (t:ByteArray) (VA:Oz) (vl vc code:Nat) (bb:Bool) (KA:Oz) (kl kc re im:Nat) (wx:World),Below w.heap.size w wx→re < 2 ^ 50→im < 2 ^ 50→Calls prog fn (#[.agg #[.slice NA nl nc,.int .u8 (k:Int),.int .u64 (n:Int),.string t,.slice VA vl vc,.int .u8 (code:Int),.bool bb,.slice KA kl kc,.complex .f64 (fb re) (fb im)]]++cap) wx (zaj (can f (.mk ns k n t code bb ks re im)) wx)
theorem zfw {f:Can}{l:List Pl}{j:Nat}{p:Pl}(h:l[j]? = some p)(ht:(l.take j).all (can f)=true)(hp:can f p=true):(l.take (j+1)).all (can f)=true:=by
 rw[zcM h,List.all_append,ht];simp[hp]
theorem zkw {f:Can}{l:List Pl}{j:Nat}{p:Pl}(h:l[j]? = some p)(hp:can f p=false):l.all (can f)=false:=by
 cases ha:l.all (can f) with
 | false=>rfl
 | true=>rw[List.all_eq_true.1 ha p (List.mem_of_getElem? h)] at hp;cases hp
theorem zlP (f:Can)(fv:Value)(l:List Pl)(A:Oz)(m c:Nat)(w:World)(hf:CanV w f fv)(hL:Pd w l A m c)(hB:Bnd l)(hm:m≤1099511627776):Calls prog 125 #[fv,.slice A m c] w (zaj (l.all (can f)) w):=by
 have jv:m≤l.length:=Nat.le_of_eq hL.len;have JC:l.length≤m:=Nat.le_of_eq hL.len.symm;have vY:=zbm;have hF:∃ fn cap,fv=.func (.func fn) #[] cap∧Says w f fn cap:=by
  cases f with
  | all=>exact⟨_,_,hf,fun ns ks NA nl nc k n t VA vl vc code bb KA kl kc re im wx _ _ _=>zsg NA nl nc k n t VA vl vc code bb KA kl kc re im wx⟩
  | just x=>
   obtain⟨g,e,hg,hc⟩:=hf;exact⟨_,_,e,fun ns ks NA nl nc k n t VA vl vc code bb KA kl kc re im wx hb _ _=>zno NA nl nc k n t VA vl vc code bb KA kl kc re im wx x g ((hb.cell (p:=⟨g,0,none⟩) hg).trans hc) (ybB hg hb.size)⟩
  | upto x=>
   obtain⟨g,e,hg,hc⟩:=hf;exact⟨_,_,e,fun ns ks NA nl nc k n t VA vl vc code bb KA kl kc re im wx hb _ _=>znp NA nl nc k n t VA vl vc code bb KA kl kc re im wx x g ((hb.cell (p:=⟨g,0,none⟩) hg).trans hc) (ybB hg hb.size)⟩
  | short=>exact⟨_,_,hf,fun ns ks NA nl nc k n t VA vl vc code bb KA kl kc re im wx _ _ _=>znm NA nl nc k n t VA vl vc code bb KA kl kc re im wx⟩
  | near=>exact⟨_,_,hf,fun ns ks NA nl nc k n t VA vl vc code bb KA kl kc re im wx _ _ _=>zpX NA nl nc k n t VA vl vc code bb KA kl kc re im wx⟩
  | none_=>exact⟨_,_,hf,fun ns ks NA nl nc k n t VA vl vc code bb KA kl kc re im wx _ _ h=>zpW NA nl nc k n t VA vl vc code bb KA kl kc re im wx h⟩
  | small=>exact⟨_,_,hf,fun ns ks NA nl nc k n t VA vl vc code bb KA kl kc re im wx _ h h'=>znn NA nl nc k n t VA vl vc code bb KA kl kc re im wx h h'⟩
 have vM:∃ fn cap,fv=.func (.func fn) #[] cap∧Says w f fn cap∧(∀ args wx,(callFunc fn args).run prog wx=.ok (.enter fn args) wx):=by
  cases f with
  | all=>obtain⟨fn,cap,e,h⟩:=hF;rw[hf] at e;injection e with e1 _ e2;injection e1 with e1;subst e1 e2;exact⟨_,_,hf,h,fun args wx=>call83 args wx⟩
  | just x=>obtain⟨fn,cap,e,h⟩:=hF;obtain⟨g,e',hg,hc⟩:=hf;rw[e'] at e;injection e with e1 _ e2;injection e1 with e1;subst e1 e2;exact⟨_,_,e',h,fun args wx=>call92 args wx⟩
  | upto x=>obtain⟨fn,cap,e,h⟩:=hF;obtain⟨g,e',hg,hc⟩:=hf;rw[e'] at e;injection e with e1 _ e2;injection e1 with e1;subst e1 e2;exact⟨_,_,e',h,fun args wx=>call94 args wx⟩
  | short=>obtain⟨fn,cap,e,h⟩:=hF;rw[hf] at e;injection e with e1 _ e2;injection e1 with e1;subst e1 e2;exact⟨_,_,hf,h,fun args wx=>call86 args wx⟩
  | near=>obtain⟨fn,cap,e,h⟩:=hF;rw[hf] at e;injection e with e1 _ e2;injection e1 with e1;subst e1 e2;exact⟨_,_,hf,h,fun args wx=>call89 args wx⟩
  | none_=>obtain⟨fn,cap,e,h⟩:=hF;rw[hf] at e;injection e with e1 _ e2;injection e1 with e1;subst e1 e2;exact⟨_,_,hf,h,fun args wx=>call84 args wx⟩
  | small=>obtain⟨fn,cap,e,h⟩:=hF;rw[hf] at e;injection e with e1 _ e2;injection e1 with e1;subst e1 e2;exact⟨_,_,hf,h,fun args wx=>call87 args wx⟩
 clear hF hf;obtain⟨fn,cap,rfl,uU,Hx⟩:=vM;have HS:=zaa uU;clear uU;go_enter func125,ntmps125;go_wp2;go_loopw [9] (fun i wr=>∃ j:Nat,j≤m∧i=.int .i64 j∧(l.take j).all (can f)=true∧Below w.heap.size w wr) (fun i _=>m - (intOf i).toNat)
 case atStart=>exact⟨0,Nat.zero_le _,rfl,by simp,Below.refl _ _⟩
 case round=>
  obtain⟨j,hj,rfl,ht,hb⟩:=hrel;have HT:=zaa ht;clear ht;by_cases Hi:j < m
  ·obtain⟨b,o,ns,k,n,t,code,bb,ks,re,im,NA,nl,nc,VA,vl,vc,KA,kl,kc,rfl,j0,hx,⟨a0,a1,a2,a3,a4,a5,a6,a7,a8⟩,JN,gV⟩:=(hL.call hb).at_ Hi;have JQ:=hB _ (List.mem_of_getElem? hx);have Hj:=hb.alloc hb.size (.cells #[.slice NA nl nc,.int .u8 (k:Int),.int .u64 (n:Int),.string t,.slice VA vl vc,.int .u8 (code:Int),.bool bb,.slice KA kl kc,.complex .f64 (fb re) (fb im)] 88);have JR:=HS.out ns ks NA nl nc k n t VA vl vc code bb KA kl kc re im (wr.alloc (.cells #[.slice NA nl nc,.int .u8 (k:Int),.int .u64 (n:Int),.string t,.slice VA vl vc,.int .u8 (code:Int),.bool bb,.slice KA kl kc,.complex .f64 (fb re) (fb im)] 88)) Hj JQ.1 JQ.2;obtain⟨r,hr⟩:∃ r,can f (.mk ns k n t code bb ks re im)=r:=⟨_,rfl⟩;rw[hr] at JR;have HX:=zaa hx;have HR:=zaa hr;clear hx hr JQ;cases r with
   | true=>
    go_wp2_with fail;refine JR.mono ?_;rintro e w2 ⟨rfl,He⟩;have gl:=zad Hj He;go_wp2;go_roundw
    case rel=>exact⟨j+1,by omega,by go_num,zfw HX.out HT.out HR.out,gl⟩
    case measure=>simp[intOf];omega
   | false=>
    have GN:Hid (l.all (can f)=false):=zaa (zkw HX.out HR.out);go_wp2_with fail;refine JR.mono ?_;rintro e w2 ⟨rfl,He⟩;have gl:=zad Hj He;go_wp2;go_ret;rw[GN.out];exact⟨rfl,gl⟩
  ·have HE:Hid (l.take j=l):=zaa (List.take_of_length_le (by omega));go_wp2;go_ret;have hA:l.all (can f)=true:=HE.out▸HT.out;rw[hA];exact⟨rfl,hb⟩
def zkF (n:Nat)(w:World)(e:Ending)(w':World):Prop:=e=.returned (.int .u8 (n:Int))∧Below w.heap.size w w'
theorem znw {cs:List (Nat×Can)}{l:List Pl}{j c:Nat}{f:Can}(h:cs[j]? = some (c,f))(hf:l.all (can f)=false):pick (cs.drop j) l=pick (cs.drop (j+1)) l:=by
 obtain⟨hj,e⟩:=List.getElem?_eq_some_iff.1 h;rw[List.drop_eq_getElem_cons hj,e];simp[pick,hf]
theorem znx {cs:List (Nat×Can)}{l:List Pl}{j c:Nat}{f:Can}(h:cs[j]? = some (c,f))(hf:l.all (can f)=true):pick (cs.drop j) l=c:=by
 obtain⟨hj,e⟩:=List.getElem?_eq_some_iff.1 h;rw[List.drop_eq_getElem_cons hj,e];simp[pick,hf]
theorem zsp (k:Nat):(chs k).length≤3:=by
 unfold chs
 split<;>decide
theorem zdg (l:List Pl)(bm:Nat)(A:Oz)(m c:Nat)(w:World)(hM:CM w bm)(hL:Pd w l A m c)(hB:Bnd l)(hm:m≤1099511627776){ns ks:List Pl}{k n:Nat}{t:ByteArray}{code:Nat}{bb:Bool}{re im:Nat}(h0:l[0]? = some (.mk ns k n t code bb ks re im))(gF:1≤k)(gR:k≤24) :
  Calls prog 97 #[.map (some bm),.slice A m c] w (zkF (first l) w):=by
 have GV:first l=pick (chs k) l:=by
  cases l with
  | nil=>cases h0
  | cons p r=>
   simp at h0;subst h0;rfl
 have qO:0 < m:=by
  rw[hL.len];exact(List.getElem?_eq_some_iff.1 h0).1
 obtain⟨v,gw,⟨b,cc,rfl,KP,hch⟩⟩:=zpV hM gF gR;obtain⟨lb,lo,ns',k',n',t',code',bb',ks',re',im',NA,nl,nc,VA,vl,vc,KA,kl,kc,rfl,j0,hx,⟨a0,a1,a2,a3,a4,a5,a6,a7,a8⟩,JN,gV⟩:=hL.at_ qO;rw[h0] at hx;injection hx with hx
 injection hx with _ hx
 subst hx;rw[Nat.zero_mul,Nat.add_zero] at a0 a1 a2 a3 a4 a5 a6 a7 a8;have hN:=zsp k;obtain⟨N,BI⟩:∃ N,(chs k).length=N:=⟨_,rfl⟩;rw[BI] at gw hN;have qq:=zaa BI;have HH:=zaa hch;have HL:=zaa hL;rw[GV];have hmI:(0:Int) < (m:Int):=by omega
 have hsf:=zgT;clear BI hch hL GV h0 JN gV hM;go_enter func97,ntmps97;go_wp2;go_loopw [15] (fun i wr=>∃ j:Nat,j≤N∧i=.int .i64 j∧pick (chs k) l=pick ((chs k).drop j) l∧Below w.heap.size w wr) (fun i _=>N - (intOf i).toNat)
 case atStart=>exact⟨0,Nat.zero_le _,rfl,by simp,Below.refl _ _⟩
 case round=>
  obtain⟨j,hj,rfl,ht,hb⟩:=hrel;have HT:=zaa ht;clear ht;by_cases Hi:j < N
  ·have Vq:j < (chs k).length:=by rw[qq.out];exact Hi
   obtain⟨⟨c0,f0⟩,BJ⟩:∃ x,(chs k)[j]? = some x:=⟨_,ybD Vq⟩;obtain⟨q0,fv,q1,q2⟩:=zrl (HH.out.keep hb.size (fun g hg o _ hc=>(hb.cell (p:=⟨g,o,none⟩) hg).trans hc) KP) BJ;rw[ybG] at q0 q1;obtain⟨fn,cap,rfl⟩:=zco q2;have Hj:=hb.alloc hb.size (.cells #[.int .u8 (c0:Int),.func fn #[] cap] 134);have JR:=zlP f0 (.func fn #[] cap) l (some ⟨lb,lo,none⟩) m c (wr.alloc (.cells #[.int .u8 (c0:Int),.func fn #[] cap] 134)) (q2.alloc _) ((HL.out.call hb).alloc _) hB hm;obtain⟨r,hr⟩:∃ r,l.all (can f0)=r:=⟨_,rfl⟩;rw[hr] at JR;have HX:=zaa BJ;have HR:=zaa hr;have Hz:(wr.alloc (.cells #[.int .u8 (c0:Int),.func fn #[] cap] 134)).cell? ⟨wr.heap.size,0,none⟩=some (.int .u8 (c0:Int)):=by simp
   clear BJ hr;cases r with
   | true=>
    go_wp2_with (go_at_call 125;(with_reducible refine JR.mono ?_);rintro e w2 ⟨rfl,He⟩;have gl:=zad Hj He;have yo:=(He.cell (p:=⟨wr.heap.size,0,none⟩) (by simp)).trans Hz);go_ret;rw[HT.out,znx HX.out HR.out];exact⟨rfl,gl⟩
   | false=>
    go_wp2_with (go_at_call 125;(with_reducible refine JR.mono ?_);rintro e w2 ⟨rfl,He⟩;have gl:=zad Hj He);go_roundw
    case rel=>exact⟨j+1,by omega,by go_num,by rw[HT.out,znw HX.out HR.out],gl⟩
    case measure=>simp[intOf];omega
  ·have HE:Hid (pick (chs k) l=0):=zaa (by rw[HT.out,List.drop_eq_nil_of_le (by rw[qq.out];omega)];rfl);go_wp2;go_ret;rw[HE.out];exact⟨rfl,hb⟩
theorem ztZ:(prog.info? 88).map (fun i=>(i.zero,i.size,i.bytes))=some (some (.agg #[.slice none 0 0,.int .u8 0,.int .u64 0,.string ⟨#[]⟩,.slice none 0 0,.int .u8 0,.bool false,.slice none 0 0,.complex .f64 0 0]),9,128):=by kernel_rfl
def zbx (w:World)(P:Nat→Prop):List Pl→List Value→Prop
 | [],xs=>xs=[]
 | p::ps,xs=>∃ c ys,xs=c++ys∧RepC w P p c∧zbx w P ps ys
theorem zbx.len {w:World}{P:Nat→Prop}:∀ {ps:List Pl} {xs:List Value},zbx w P ps xs→xs.length=ps.length * 9
 | [],xs,h=>by rw[show xs=[] from h];rfl
 | p::ps,xs,h=>by
  obtain⟨c,ys,rfl,hc,hr⟩:=h;simp[hr.len,hc.len];omega
theorem zbx.keep {w w':World}{P:Nat→Prop}(hk:∀ i,P i→w'.heap[i]? = w.heap[i]?):∀ {ps:List Pl} {xs:List Value},zbx w P ps xs→zbx w' P ps xs
 | [],_,h=>h
 | _::_,_,h=>by
  obtain⟨c,ys,e,hc,hr⟩:=h;exact⟨c,ys,e,hc.keep hk,hr.keep hk⟩
theorem zbx.mono {w:World}{P P':Nat→Prop}(hk:∀ i,P i→P' i):∀ {ps:List Pl} {xs:List Value},zbx w P ps xs→zbx w P' ps xs
 | [],_,h=>h
 | _::_,_,h=>by
  obtain⟨c,ys,e,hc,hr⟩:=h;exact⟨c,ys,e,hc.mono hk,hr.mono hk⟩
theorem zbx.snoc {w:World}{P:Nat→Prop}{p:Pl}{c:List Value}(hc:RepC w P p c):∀ {ps:List Pl} {xs:List Value},zbx w P ps xs→zbx w P (ps++[p]) (xs++c)
 | [],xs,h=>by
  rw[show xs=[] from h];exact⟨c,[],by simp,hc,rfl⟩
 | _::_,_,h=>by
  obtain⟨c',ys,rfl,xX,hr⟩:=h;exact⟨c',ys++c,by simp,xX,zbx.snoc hc hr⟩
theorem zbx.row {w:World}{P:Nat→Prop}{b:Nat}:∀ {ps:List Pl} {xs:List Value} {o:Nat},(∀ j u,xs[j]? = some u→w.cell? ⟨b,o+j,none⟩=some u)→zbx w P ps xs→RowC w P ps b o
 | [],_,_,_,_=>trivial
 | p::ps,_,o,hx,h=>by
  obtain⟨c,ys,rfl,hc,hr⟩:=h;refine⟨⟨c,hc,fun j hj=>?_⟩,hr.row fun j u hu=>?_⟩
  ·have hl:=hc.len;have hu:c[j]? = some c[j]:=ybD (by omega);rw[hu];exact hx j _ (by rw[List.getElem?_append_left (by omega)];exact hu)
  ·have:=hx (9+j) u (by rw[List.getElem?_append_right (by rw[hc.len];omega),hc.len,show 9+j - 9=j by omega];exact hu)
   rwa [←Nat.add_assoc] at this
structure PR (B:Nat) (wr:World) (A:Oz) (n c:Nat) (done:List Pl) (xs:List Value):Prop where
 own:wr.ownsRow B 88 9 (.slice A n c) n xs
 cells:zbx wr (fun i=>B≤i∧i < wr.heap.size∧(Value.slice A n c).ownBlock≠some i) done xs
theorem PR.len {B:Nat}{wr:World}{A:Oz}{n c:Nat}{done:List Pl}{xs:List Value}(h:PR B wr A n c done xs):done.length=n:=by
 have:=h.own.1;have:=h.cells.len;omega
theorem PR.nil (B:Nat)(wr:World):PR B wr none 0 0 [] []:=⟨World.ownsRow_nil _ _ _ _,rfl⟩
theorem PR.call {B:Nat}{wr w':World}{A:Oz}{n c:Nat}{done:List Pl}{xs:List Value}(h:PR B wr A n c done xs)(hb:Below wr.heap.size wr w'):PR B w' A n c done xs:=
 ⟨h.own.kept (zbR hb) (by cases hv:(Value.slice A n c).ownBlock<;>simp),(h.cells.keep fun i hi=>hb.block i hi.2.1).mono fun i hi=>⟨hi.1,ybB hi.2.1 hb.size,hi.2.2⟩⟩
theorem PR.pn {B:Nat}{wr:World}{A:Oz}{n c:Nat}{done:List Pl}{xs:List Value}(h:PR B wr A n c done xs):Pn B wr done A n c:=by
 refine⟨h.len.symm,zbi h.own,fun hn=>?_⟩;rcases h.own.2 with ⟨_,h0⟩ | ⟨g,cap,cur,hv,hb,hg,kz,bL,jl,K9⟩
 ·omega
 ·injection hv with h1 _ h3
  subst h1;subst h3;refine⟨g,0,rfl,⟨hb,(Array.getElem?_eq_some_iff.1 hg).1⟩,(h.cells.mono fun i hi=>⟨hi.1,hi.2.1⟩).row fun j u hu=>?_⟩;rw[ybG,h.own.cellAt j (by rw[←h.own.1];exact(List.getElem?_eq_some_iff.1 hu).1),hu]
theorem PR.blk {B:Nat}{wr:World}{A:Oz}{n c:Nat}{done:List Pl}{xs:List Value}(h:PR B wr A n c done xs):∀ g,(Value.slice A n c).ownBlock=some g→B≤g∧g < wr.heap.size:=h.own.lt
theorem PR.push {B:Nat}{wr w2 w3:World}{A:Oz}{n c:Nat}{done:List Pl}{xs:List Value}(h:PR B w2 A n c done xs){p:Pl}{cs:List Value}
  (hK:RepC w2 (fun i=>B≤i∧i < w2.heap.size∧(Value.slice A n c).ownBlock≠some i) p cs) {g cap:Nat} (o:Obj) (hr:wr=w2.alloc o)
  (Hf:w3.ownsRow B 88 9 (.slice (some ⟨g,0,none⟩) (n+1) cap) (n+1) (xs++cs)) (hg:wr.grownBy w3 (Value.slice A n c).ownBlock) (gT:(Value.slice A n c).ownBlock=some g∨w2.heap.size≤g) :
  PR B w3 (some ⟨g,0,none⟩) (n+1) cap (done++[p]) (xs++cs):=by
 subst hr;have gF:∀ i,(B≤i∧i < w2.heap.size∧(Value.slice A n c).ownBlock≠some i)→w3.heap[i]? = w2.heap[i]?:=fun i hi=>
  (hg.block i (by simp;omega) (fun e=>hi.2.2 e.symm)).trans (Below.heap_alloc _ _ _ hi.2.1)
 have gR:∀ i,(B≤i∧i < w2.heap.size∧(Value.slice A n c).ownBlock≠some i)→(B≤i∧i < w3.heap.size∧(Value.slice (some ⟨g,0,none⟩) (n+1) cap).ownBlock≠some i):=fun i hi=>by
  refine⟨hi.1,?_,fun e=>?_⟩
  ·have:=hg.size;simp at this;omega
  ·have e2:g=i:=by simpa [Value.ownBlock] using e
   subst e2;rcases gT with ha | ha
   ·exact hi.2.2 ha
   ·omega
 exact⟨Hf,zbx.snoc ((hK.keep gF).mono gR) ((h.cells.keep gF).mono gR)⟩
theorem news9 (w:World)(x0 x1 x2 x3 x4 x5 x6 x7 x8:Value)(e:TypeId)(H:Nat)(hH:w.heap.size=H):∀ j a,[x0,x1,x2,x3,x4,x5,x6,x7,x8][j]? = some a→(w.alloc (.cells #[x0,x1,x2,x3,x4,x5,x6,x7,x8] e)).cell? ((⟨H,0,none⟩:Addr).add j)=some a:=by
 subst hH;intro j a hv;have hj:j < 9:=(List.getElem?_eq_some_iff.1 hv).1
 match j,hj,hv with
 | 0,_,hv=>simpa [Addr.add] using hv
 | 1,_,hv=>simpa [Addr.add] using hv
 | 2,_,hv=>simpa [Addr.add] using hv
 | 3,_,hv=>simpa [Addr.add] using hv
 | 4,_,hv=>simpa [Addr.add] using hv
 | 5,_,hv=>simpa [Addr.add] using hv
 | 6,_,hv=>simpa [Addr.add] using hv
 | 7,_,hv=>simpa [Addr.add] using hv
 | 8,_,hv=>simpa [Addr.add] using hv
def zaT (p:Pl)(w:World)(e:Ending)(w':World):Prop:=∃ ns k n t code bb ks re im NA nl nc VA vl vc KA kl kc,p=.mk ns k n t code bb ks re im∧e=.returned (.agg #[.slice NA nl nc,.int .u8 (k:Int),.int .u64 (n:Int),.string t,.slice VA vl vc,.int .u8 (code:Int),.bool bb,.slice KA kl kc,.complex .f64 (fb re) (fb im)])∧Pn w.heap.size w' ns NA nl nc∧Pn w.heap.size w' ks KA kl kc∧Below w.heap.size w w'
end Enc
end Go.Proofs.YtbbbanfggcediaaGreatDoor
