/-
  Contracts of functions and plain mathematics, text by text, each with its conditions ahead of it:
  Outcomes as values, as plain mathematics: what Put, Get, PutCond, GetCond tell, that what is put is got as it was, and that what is got may be put. No Go in it.
  Outcomes as values, as plain mathematics: what is put may be a value, and is got as it was; by its name as by its code; with a field more not at all. No Go in it.
-/
import Derived.Test.YtcilmmdmkpnppaaGreatDoorY17
section
namespace Go.Proofs.YtcilmmdmkpnppaaGreatDoor.Oc
set_option maxRecDepth 100000
open Utf Val Fl V
structure O where
 k:Nat
 a:Nat
 b:Nat
 c:ByteArray
def cOk (c:ByteArray):Bool:=asc (Val.nb c)
def mayO (o:O):Bool:=
 decide (o.k≤5)&&cOk o.c&&(decide (o.c.size=0)||decide (o.k=3)) &&
  (if o.k=1 then decide (o.a < 4294967296) else if o.k=5 then decide (o.a≤1)&&decide (o.b≤1) else decide (o.a=0)&&decide (o.b=0))
def oname:Nat→ByteArray
 | 1=>⟨#[97,109,113,112,58,114,101,99,101,105,118,101,100,58,108,105,115,116]⟩
 | 2=>⟨#[97,109,113,112,58,97,99,99,101,112,116,101,100,58,108,105,115,116]⟩
 | 3=>⟨#[97,109,113,112,58,114,101,106,101,99,116,101,100,58,108,105,115,116]⟩
 | 4=>⟨#[97,109,113,112,58,114,101,108,101,97,115,101,100,58,108,105,115,116]⟩
 | 5=>⟨#[97,109,113,112,58,109,111,100,105,102,105,101,100,58,108,105,115,116]⟩
 | _=>⟨#[]⟩
def ename:ByteArray:=⟨#[97,109,113,112,58,101,114,114,111,114,58,108,105,115,116]⟩
def errV (c:ByteArray):V:=if c.size=0 then nullV else .mk 25 0 ⟨#[]⟩ (putL 29 [.mk 21 0 c []])
def flagV (n:Nat):V:=if n=0 then nullV else .mk 2 1 ⟨#[]⟩ []
def tellO (o:O):List V:=
 if o.k=1 then [.mk 5 o.a ⟨#[]⟩ [],.mk 6 o.b ⟨#[]⟩ []] else if o.k=3 then [errV o.c] else if o.k=5 then [flagV o.a,flagV o.b] else []
def putO (o:O):V:=if o.k=0 then nullV else .mk 25 0 ⟨#[]⟩ (putL (34+o.k) (trim (tellO o)))
def erR (ls:List V):ByteArray×Bool:=
 ((oneR ls 0 21 true false ⟨#[]⟩ V.text).1,(valR ls 2 [23] (oneR ls 1 20 false (oneR ls 0 21 true false ⟨#[]⟩ V.text).2 ⟨#[]⟩ V.text).2).2)
noncomputable def condR (v:V):Option ByteArray:=
 if v.kind=1 then some ⟨#[]⟩ else match newR v 29 ename with
  | none=>none
  | some ls=>if doneN ls (erR ls).2 3=0 then some (erR ls).1 else none
def mostN (k:Nat):Int:=if k=1 then 2 else if k=3 then 1 else if k=5 then 3 else 0
noncomputable def rdR (k:Nat)(ls:List V):O×Bool:=
 if k=1 then (⟨1,(oneR ls 0 5 true false 0 V.num).1,(oneR ls 1 6 true (oneR ls 0 5 true false 0 V.num).2 0 V.num).1,⟨#[]⟩⟩,(oneR ls 1 6 true (oneR ls 0 5 true false 0 V.num).2 0 V.num).2)
 else if k=3 then (match condR (valR ls 0 [] false).1 with
  | some c=>(⟨3,0,0,c⟩,(valR ls 0 [] false).2)
  | none=>(⟨3,0,0,⟨#[]⟩⟩,true))
 else if k=5 then (⟨5,(oneR ls 0 2 false (valR ls 2 [23] false).2 0 V.num).1,(oneR ls 1 2 false (oneR ls 0 2 false (valR ls 2 [23] false).2 0 V.num).2 0 V.num).1,⟨#[]⟩⟩,(oneR ls 1 2 false (oneR ls 0 2 false (valR ls 2 [23] false).2 0 V.num).2 0 V.num).2)
 else (⟨k,0,0,⟨#[]⟩⟩,false)
noncomputable def readO (k:Nat)(ls:List V):Option O:=if doneN ls (rdR k ls).2 (mostN k)=0 then some (rdR k ls).1 else none
noncomputable def firstR (v:V):List Nat→Option (Nat×List V)
 | []=>none
 | k::r=>match newR v (34+k) (oname k) with
  | some ls=>some (k,ls)
  | none=>firstR v r
noncomputable def getR (v:V):Option O:=
 if v.kind=1 then some ⟨0,0,0,⟨#[]⟩⟩ else match firstR v [1,2,3,4,5] with
  | none=>none
  | some (k,ls)=>readO k ls
theorem called_code (m code:Nat)(nm:ByteArray):calledB (.mk 6 m ⟨#[]⟩ []) code nm=decide (m=code):=by
 unfold calledB;rw[V.same_no (b:=.mk 21 0 nm []) (by intro h;injection h with h;omega),Bool.or_false];by_cases h:m=code
 ·subst h;rw[V.same_self];simp
 ·rw[V.same_no (by intro e;injection e with _ e;exact h e),decide_eq_false h]
theorem newR_list {d:V}{n n':Nat}{t t':ByteArray}{ls:List V}{code:Nat}{nm:ByteArray}(hok:okB (.mk 25 n t [d,.mk 22 n' t' ls])=true):newR (.mk 25 n t [d,.mk 22 n' t' ls]) code nm=if calledB d code nm=true then some ls else none:=by
 rw[newR_pair hok rfl];by_cases h:calledB d code nm=true
 ·rw[if_pos ⟨h,rfl⟩,if_pos h];rfl
 ·rw[if_neg h,if_neg fun e=>h e.1]
theorem newR_some {v:V}{code:Nat}{nm:ByteArray}{ls:List V}(h:newR v code nm=some ls):∃ n t d n' t',v=.mk 25 n t [d,.mk 22 n' t' ls]∧okB v=true∧calledB d code nm=true:=by
 unfold newR at h;by_cases hc:okB v=true∧v.kind=25
 ·rw[if_pos hc] at h;obtain⟨k,n,t,ks⟩:=v;obtain⟨hok,hk⟩:=hc;have hk:k=25:=hk;subst hk
  match ks,h,hok with
  | [d,.mk kb n' t' us],h,hok=>
   simp only[kids] at h;by_cases hb:calledB d code nm=true∧(V.mk kb n' t' us).kind=22
   ·rw[if_pos hb] at h;obtain⟨hb1,hb2⟩:=hb;have hb2:kb=22:=hb2;subst hb2;injection h with h
    subst h;exact⟨n,t,d,n',t',rfl,hok,hb1⟩
   ·rw[if_neg hb] at h;cases h
 ·rw[if_neg hc] at h;cases h
theorem may_of_ok {v:V}(h:okB v=true):mayB v=true:=by
 unfold okB at h;simp only[Bool.and_eq_true] at h;exact h.2
theorem newR_may {v:V}{code:Nat}{nm:ByteArray}{ls:List V}(h:newR v code nm=some ls):mayL ls=true:=by
 obtain⟨n,t,d,n',t',rfl,hok,_⟩:=newR_some h;have hm:=may_kids (may_of_ok hok);simp only[mayL,Bool.and_eq_true] at hm;exact may_kids hm.2.1
theorem ask_mem {ls:List V}{i:Int}{v:V}(h:Fl.ask ls i=some v):v∈ls:=by
 obtain⟨j,_,_,h,_⟩:=ask_some h;exact List.mem_of_getElem? h
theorem ask_may {ls:List V}{i:Int}{v:V}(hm:mayL ls=true)(h:Fl.ask ls i=some v):mayB v=true:=mayL_mem hm v (ask_mem h)
theorem may_alone {k n:Nat}{t:ByteArray}{ks:List V}(h:mayB (.mk k n t ks)=true):aloneOk k n t ks.length=true:=by
 simp only[mayB,Bool.and_eq_true] at h;exact h.1.2
theorem may_uint {n:Nat}{t:ByteArray}{ks:List V}(h:mayB (.mk 5 n t ks)=true):n < 4294967296:=by
 have:=may_alone h;simp[aloneOk,numB] at this;exact this.2
mutual
def n64:V→Prop
 | .mk k n _ ks=>k < 256∧n < 18446744073709551616∧n64L ks
def n64L:List V→Prop
 | []=>True
 | v::vs=>n64 v∧n64L vs
end
end Go.Proofs.YtcilmmdmkpnppaaGreatDoor.Oc
end
section
namespace Go.Proofs.YtcilmmdmkpnppaaGreatDoor.Oc
set_option maxRecDepth 100000
open Utf Val Fl V
theorem empty_of {c:ByteArray}(h:c.size=0):c=⟨#[]⟩:=by
 cases c with
 | mk d=>
  have:d=#[]:=Array.eq_empty_of_size_eq_zero h;rw[this]
theorem desc_ne {n:Nat}{t:ByteArray}{ks:List V}:¬ (V.mk 25 n t ks).kind=1:=by show ¬ (25=1);omega
theorem trim_one {x:V}(h:x.kind≠1):trim [x]=[x]:=by
 have:nulAt [x] 0=false:=by simp[nulAt,h]
 simp[trim,cutN,this]
theorem trim_two {x y:V}(h:y.kind≠1):trim [x,y]=[x,y]:=by
 have:nulAt [x,y] 1=false:=by simp[nulAt,h]
 simp[trim,cutN,this]
theorem err_kind {c:ByteArray}(h:c.size≠0):errV c=.mk 25 0 ⟨#[]⟩ (putL 29 [.mk 21 0 c []]):=if_neg h
theorem err_null {c:ByteArray}(h:c.size=0):errV c=nullV:=if_pos h
theorem cok_text {c:ByteArray}(h:cOk c=true):textB 21 c=true:=by
 unfold textB;simp only[show ¬ (21=15∨21=18) by omega,show ¬ (21=16) by omega,show ¬ (21=17) by omega,show ¬ (21=20) by omega,if_false,if_true];exact h
theorem may_list {ks:List V}(h:mayL ks=true):mayB (.mk 22 0 ⟨#[]⟩ ks)=true:=by
 have:aloneOk 22 0 ⟨#[]⟩ ks.length=true:=by simp[aloneOk,emp0]
 simp only[mayB,h,this,kidsOk];rfl
theorem may_pair {d y:V}(hd:mayB d=true)(hk:nameB d.kind=true)(hy:mayB y=true):mayB (.mk 25 0 ⟨#[]⟩ [d,y])=true:=by
 simp[mayB,mayL,hd,hy,aloneOk,emp0,kidsOk,hk]
theorem may_ulong (n:Nat):mayB (.mk 6 n ⟨#[]⟩ [])=true:=by
 simp[mayB,mayL,aloneOk,emp0,numB,kidsOk]
theorem may_symb {c:ByteArray}(h:cOk c=true):mayB (.mk 21 0 c [])=true:=by
 have h1:aloneOk 21 0 c 0=true:=by
  unfold aloneOk;rw[if_neg (by omega),if_neg (by omega),if_pos (by omega),cok_text h];rfl
 simp[mayB,mayL,h1,kidsOk]
theorem may_null:mayB nullV=true:=by simp[nullV,mayB,mayL,aloneOk,emp0,kidsOk]
theorem may_true:mayB (.mk 2 1 ⟨#[]⟩ [])=true:=by simp[mayB,mayL,aloneOk,emp0,numB,kidsOk]
theorem may_u32 {n:Nat}(h:n < 4294967296):mayB (.mk 5 n ⟨#[]⟩ [])=true:=by simp[mayB,mayL,aloneOk,emp0,numB,kidsOk,h]
theorem may_err {c:ByteArray}(h:cOk c=true):mayB (errV c)=true:=by
 by_cases hc:c.size=0
 ·rw[err_null hc];exact may_null
 ·rw[err_kind hc];exact may_pair (may_ulong 29) rfl (may_list (by simp[mayL,may_symb h]))
theorem may_flag (n:Nat):mayB (flagV n)=true:=by
 unfold flagV;by_cases h:n=0
 ·rw[if_pos h];exact may_null
 ·rw[if_neg h];exact may_true
theorem size_err (c:ByteArray):items (errV c)≤5∧depth (errV c)≤3:=by
 by_cases hc:c.size=0
 ·rw[err_null hc];simp[nullV,items,itemsL,depth,depthL]
 ·rw[err_kind hc];simp[putL,items,itemsL,depth,depthL]
theorem size_flag (n:Nat):items (flagV n)=1∧depth (flagV n)=1:=by
 unfold flagV;by_cases h:n=0
 ·rw[if_pos h];simp[nullV,items,itemsL,depth,depthL]
 ·rw[if_neg h];simp[items,itemsL,depth,depthL]
theorem tell_ok {o:O}(h:mayO o=true):mayL (tellO o)=true∧itemsL (tellO o)≤5∧depthL (tellO o)≤3:=by
 unfold mayO at h;simp only[Bool.and_eq_true] at h;obtain⟨⟨⟨h1,h2⟩,h3⟩,h4⟩:=h;unfold tellO;by_cases e1:o.k=1
 ·rw[if_pos e1] at h4 ⊢;have h4:=of_decide_eq_true h4;simp[mayL,may_u32 h4,may_ulong,items,itemsL,depth,depthL]
 ·rw[if_neg e1];by_cases e3:o.k=3
  ·rw[if_pos e3];have:=size_err o.c;simp[mayL,may_err h2,itemsL,depthL,this]
  ·rw[if_neg e3];by_cases e5:o.k=5
   ·rw[if_pos e5];have:=size_flag o.a;have:=size_flag o.b;simp[mayL,may_flag,itemsL,depthL,size_flag]
   ·rw[if_neg e5];simp[mayL,itemsL,depthL]
theorem trim_sub (ls:List V):∃ j,trim ls=ls.take j:=⟨_,rfl⟩
theorem mayL_tk {ls:List V}(h:mayL ls=true)(j:Nat):mayL (ls.take j)=true:=by
 have e:=mayL_append (ls.take j) (ls.drop j);rw[List.take_append_drop,h] at e;cases hj:mayL (ls.take j) with
 | true=>rfl
 | false=>rw[hj] at e;simp at e
theorem fields_ok {d:V}{ls:List V}(hd:mayB d=true)(hk:nameB d.kind=true)(hi:items d=1)(hdp:depth d=1)(h:mayL ls=true)(h1:itemsL ls≤1000)(h2:depthL ls≤10):okB (.mk 25 0 ⟨#[]⟩ [d,.mk 22 0 ⟨#[]⟩ ls])=true:=by
 have hm:=may_pair hd hk (may_list h);unfold okB;rw[hm,decide_eq_true (by simp[items,itemsL,hi];omega),decide_eq_true (by simp[depth,depthL,hdp];omega)];rfl
theorem trim_ok {o:O}(h:mayO o=true):mayL (trim (tellO o))=true∧itemsL (trim (tellO o))≤5∧depthL (trim (tellO o))≤3:=by
 obtain⟨h1,h2,h3⟩:=tell_ok h;obtain⟨j,e⟩:=trim_sub (tellO o);rw[e];exact⟨mayL_tk h1 j,Nat.le_trans (itemsL_take_le _ _) h2,Nat.le_trans (depthL_take_le _ _) h3⟩
theorem put_ok {o:O}(h:mayO o=true):okB (putO o)=true:=by
 unfold putO;by_cases h0:o.k=0
 ·rw[if_pos h0];simp[nullV,okB,items,itemsL,depth,depthL,mayB,mayL,aloneOk,emp0,kidsOk]
 ·rw[if_neg h0];obtain⟨h1,h2,h3⟩:=trim_ok h;exact fields_ok (may_ulong _) rfl (by simp[items,itemsL]) (by simp[depth,depthL]) h1 (by omega) (by omega)
theorem cond_err {c:ByteArray}(h:cOk c=true):condR (errV c)=some c:=by
 by_cases hc:c.size=0
 ·rw[err_null hc,empty_of hc];rfl
 ·rw[err_kind hc];have hok:okB (.mk 25 0 ⟨#[]⟩ (putL 29 [.mk 21 0 c []]))=true:=fields_ok (may_ulong _) rfl (by simp[items,itemsL]) (by simp[depth,depthL]) (by simp[mayL,may_symb h]) (by simp[items,itemsL]) (by simp[depth,depthL]);have hn:newR (.mk 25 0 ⟨#[]⟩ (putL 29 [.mk 21 0 c []])) 29 ename=some [.mk 21 0 c []]:=by
   unfold putL at hok ⊢;rw[newR_list hok,called_code,decide_eq_true rfl,if_pos rfl]
  unfold condR;rw[if_neg desc_ne,hn];exact if_pos rfl
theorem name_ne {i j:Nat}(hi:i∈[1,2,3,4,5])(hj:j∈[1,2,3,4,5]):decide (oname i=oname j)=decide (i=j):=by
 simp only[List.mem_cons,List.not_mem_nil,or_false] at hi hj;rcases hi with rfl | rfl | rfl | rfl | rfl<;>rcases hj with rfl | rfl | rfl | rfl | rfl<;>decide
theorem first_is {v:V}{k:Nat}{ls:List V}:∀ {l:List Nat},(∀ j∈l,newR v (34+j) (oname j)=if k=j then some ls else none)→k∈l→firstR v l=some (k,ls)
 | x::l,h,hk=>by
  unfold firstR;rw[h x (by simp)];by_cases e:k=x
  ·subst e;rw[if_pos rfl]
  ·rw[if_neg e];exact first_is (fun j hj=>h j (by simp[hj])) ((List.mem_cons.1 hk).resolve_left e)
theorem get_fields {d:V}{k:Nat}{ls:List V}(hk:k∈[1,2,3,4,5])(hok:okB (.mk 25 0 ⟨#[]⟩ [d,.mk 22 0 ⟨#[]⟩ ls])=true)(hd:∀ j∈[1,2,3,4,5],calledB d (34+j) (oname j)=decide (k=j)):getR (.mk 25 0 ⟨#[]⟩ [d,.mk 22 0 ⟨#[]⟩ ls])=readO k ls:=by
 unfold getR;rw[if_neg desc_ne,first_is (k:=k) (ls:=ls) (fun j hj=>?_) hk];rw[newR_list hok,hd j hj];by_cases e:k=j
 ·rw[decide_eq_true e,if_pos rfl,if_pos e]
 ·rw[decide_eq_false e,if_neg Bool.false_ne_true,if_neg e]
theorem called_five {k:Nat}:∀ j∈[1,2,3,4,5],calledB (.mk 6 (34+k) ⟨#[]⟩ []) (34+j) (oname j)=decide (k=j):=by
 intro j _;rw[called_code];by_cases e:k=j
 ·rw[decide_eq_true e,decide_eq_true (by omega)]
 ·rw[decide_eq_false e,decide_eq_false (by omega)]
theorem may_five {o:O}(h:mayO o=true)(h0:o.k≠0):o.k∈[1,2,3,4,5]:=by
 unfold mayO at h;simp only[Bool.and_eq_true] at h;have:=of_decide_eq_true h.1.1.1;simp only[List.mem_cons,List.not_mem_nil,or_false];omega
theorem read_tell {o:O}(h:mayO o=true)(h0:o.k≠0):readO o.k (trim (tellO o))=some o:=by
 have h5:=may_five h h0;obtain⟨k,a,b,c⟩:=o;unfold mayO at h;simp only[Bool.and_eq_true] at h h5;obtain⟨⟨⟨h1,h2⟩,h3⟩,h4⟩:=h;simp only[List.mem_cons,List.not_mem_nil,or_false] at h5;rcases h5 with rfl | rfl | rfl | rfl | rfl
 ·have hc:c=⟨#[]⟩:=empty_of (by simpa using h3);subst hc;rw[show tellO ⟨1,a,b,⟨#[]⟩⟩=[.mk 5 a ⟨#[]⟩ [],.mk 6 b ⟨#[]⟩ []] from rfl,trim_two (by simp[kind])];exact if_pos rfl
 ·have hc:c=⟨#[]⟩:=empty_of (by simpa using h3);simp at h4;obtain⟨rfl,rfl⟩:=h4;subst hc;exact if_pos rfl
 ·simp at h4;obtain⟨rfl,rfl⟩:=h4;have hcd:=cond_err h2;rw[show tellO ⟨3,0,0,c⟩=[errV c] from rfl];by_cases hc:c.size=0
  ·rw[err_null hc,empty_of hc];rfl
  ·have hk:(errV c).kind≠1:=by rw[err_kind hc];simp[kind]
   rw[trim_one hk];have hv:valR [errV c] 0 [] false=(errV c,false):=by
    rw[err_kind hc];rfl
   have hr:rdR 3 [errV c]=(⟨3,0,0,c⟩,false):=by
    show (match condR (valR [errV c] 0 [] false).1 with | some c=>_ | none=>_:O×Bool)=_
    rw[hv,hcd]
   unfold readO;rw[hr];exact if_pos rfl
 ·have hc:c=⟨#[]⟩:=empty_of (by simpa using h3);simp at h4;obtain⟨rfl,rfl⟩:=h4;subst hc;exact if_pos rfl
 ·have hc:c=⟨#[]⟩:=empty_of (by simpa using h3);subst hc;simp at h4;obtain⟨ha,hb⟩:=h4;have ha':a=0∨a=1:=by omega
  have hb':b=0∨b=1:=by omega
  rcases ha' with rfl | rfl<;>rcases hb' with rfl | rfl<;>rfl
theorem get_put {o:O}(h:mayO o=true):getR (putO o)=some o:=by
 by_cases h0:o.k=0
 ·have e:putO o=nullV:=if_pos h0;rw[e];obtain⟨k,a,b,c⟩:=o;have h0:k=0:=h0;subst h0;unfold mayO at h;simp[Bool.and_eq_true] at h;obtain⟨⟨_,h3⟩,rfl,rfl⟩:=h;have hc:c=⟨#[]⟩:=by first | exact h3 | exact empty_of h3
  rw[hc];rfl
 ·have hp:=put_ok h;have e:putO o=.mk 25 0 ⟨#[]⟩ [.mk 6 (34+o.k) ⟨#[]⟩ [],.mk 22 0 ⟨#[]⟩ (trim (tellO o))]:=if_neg h0;rw[e] at hp ⊢;rw[get_fields (may_five h h0) hp called_five];exact read_tell h h0
end Go.Proofs.YtcilmmdmkpnppaaGreatDoor.Oc
end
