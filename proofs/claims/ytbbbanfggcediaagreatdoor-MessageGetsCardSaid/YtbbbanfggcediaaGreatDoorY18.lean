/- Contracts, each with its premises. -/
import Derived.Test.YtbbbanfggcediaaGreatDoorY17
set_option maxRecDepth 100000
set_option maxHeartbeats 8000000
namespace Go.Proofs.YtbbbanfggcediaaGreatDoor
open _root_.Go.Proofs.Tryz
open List renaming mem_cons→ycg
open Nat renaming le_trans→ycf
open Bool renaming and_eq_true→yce
namespace Oc
open Utf Val Fl V
structure O where
 k:Nat
 a:Nat
 b:Nat
 c:ByteArray
def cOk (c:ByteArray):Bool:=asc (Val.nb c)
def mayO (o:O):Bool:=
 decide (o.k≤5)&&cOk o.c&&(decide (o.c.size=0)||decide (o.k=3)) &&
  (if o.k=1 then decide (o.a < 4294967296) else if o.k=5 then decide (o.a≤1)&&decide (o.b≤1) else decide (o.a=0)&&decide (o.b=0))
def oname:Nat→ByteArray
 | 1=>⟨#[97,109,113,112,58,114,101,99,101,105,118,101,100,58,108,105,115,116]⟩
 | 2=>⟨#[97,109,113,112,58,97,99,99,101,112,116,101,100,58,108,105,115,116]⟩
 | 3=>⟨#[97,109,113,112,58,114,101,106,101,99,116,101,100,58,108,105,115,116]⟩
 | 4=>⟨#[97,109,113,112,58,114,101,108,101,97,115,101,100,58,108,105,115,116]⟩
 | 5=>⟨#[97,109,113,112,58,109,111,100,105,102,105,101,100,58,108,105,115,116]⟩
 | _=>⟨#[]⟩
def ename:ByteArray:=⟨#[97,109,113,112,58,101,114,114,111,114,58,108,105,115,116]⟩
def errV (c:ByteArray):V:=if c.size=0 then za3 else .mk 25 0 ⟨#[]⟩ (putL 29 [.mk 21 0 c []])
def zj2 (n:Nat):V:=if n=0 then za3 else .mk 2 1 ⟨#[]⟩ []
def ze8 (o:O):List V:=
 if o.k=1 then [.mk 5 o.a ⟨#[]⟩ [],.mk 6 o.b ⟨#[]⟩ []] else if o.k=3 then [errV o.c] else if o.k=5 then [zj2 o.a,zj2 o.b] else []
def putO (o:O):V:=if o.k=0 then za3 else .mk 25 0 ⟨#[]⟩ (putL (34+o.k) (trim (ze8 o)))
def erR (ls:List V):ByteArray×Bool:=
 ((oneR ls 0 21 true false ⟨#[]⟩ V.text).1,(valR ls 2 [23] (oneR ls 1 20 false (oneR ls 0 21 true false ⟨#[]⟩ V.text).2 ⟨#[]⟩ V.text).2).2)
noncomputable def zqo (v:V):Option ByteArray:=
 if v.kind=1 then some ⟨#[]⟩ else match newR v 29 ename with
  | none=>none
  | some ls=>if zb7 ls (erR ls).2 3=0 then some (erR ls).1 else none
def zv (k:Nat):Int:=if k=1 then 2 else if k=3 then 1 else if k=5 then 3 else 0
noncomputable def rdR (k:Nat)(ls:List V):O×Bool:=
 if k=1 then (⟨1,(oneR ls 0 5 true false 0 V.num).1,(oneR ls 1 6 true (oneR ls 0 5 true false 0 V.num).2 0 V.num).1,⟨#[]⟩⟩,(oneR ls 1 6 true (oneR ls 0 5 true false 0 V.num).2 0 V.num).2)
 else if k=3 then (match zqo (valR ls 0 [] false).1 with
  | some c=>(⟨3,0,0,c⟩,(valR ls 0 [] false).2)
  | none=>(⟨3,0,0,⟨#[]⟩⟩,true))
 else if k=5 then (⟨5,(oneR ls 0 2 false (valR ls 2 [23] false).2 0 V.num).1,(oneR ls 1 2 false (oneR ls 0 2 false (valR ls 2 [23] false).2 0 V.num).2 0 V.num).1,⟨#[]⟩⟩,(oneR ls 1 2 false (oneR ls 0 2 false (valR ls 2 [23] false).2 0 V.num).2 0 V.num).2)
 else (⟨k,0,0,⟨#[]⟩⟩,false)
noncomputable def zqp (k:Nat)(ls:List V):Option O:=if zb7 ls (rdR k ls).2 (zv k)=0 then some (rdR k ls).1 else none
noncomputable def zkV (v:V):Lz→Option (Nat×List V)
 | []=>none
 | k::r=>match newR v (34+k) (oname k) with
  | some ls=>some (k,ls)
  | none=>zkV v r
noncomputable def getR (v:V):Option O:=
 if v.kind=1 then some ⟨0,0,0,⟨#[]⟩⟩ else match zkV v [1,2,3,4,5] with
  | none=>none
  | some (k,ls)=>zqp k ls
theorem zcZ (m code:Nat)(nm:ByteArray):za1 (.mk 6 m ⟨#[]⟩ []) code nm=decide (m=code):=by
 unfold za1;rw[V.zcH (b:=.mk 21 0 nm []) (by intro h;injection h with h;omega),Bool.or_false];by_cases h:m=code
 ·subst h;rw[V.zeb];simp
 ·rw[V.zcH (by intro e;injection e with _ e;exact h e),decide_eq_false h]
theorem zeK {d:V}{n n':Nat}{t t':ByteArray}{ls:List V}{code:Nat}{nm:ByteArray}(Hq:okB (.mk 25 n t [d,.mk 22 n' t' ls])=true):newR (.mk 25 n t [d,.mk 22 n' t' ls]) code nm=if za1 d code nm=true then some ls else none:=by
 rw[zgk Hq rfl];by_cases h:za1 d code nm=true
 ·rw[if_pos ⟨h,rfl⟩,if_pos h];rfl
 ·rw[if_neg h,if_neg fun e=>h e.1]
theorem zn4 {v:V}{code:Nat}{nm:ByteArray}{ls:List V}(h:newR v code nm=some ls):∃ n t d n' t',v=.mk 25 n t [d,.mk 22 n' t' ls]∧okB v=true∧za1 d code nm=true:=by
 unfold newR at h;by_cases hc:okB v=true∧v.kind=25
 ·rw[if_pos hc] at h;obtain⟨k,n,t,ks⟩:=v;obtain⟨Hq,hk⟩:=hc;have hk:k=25:=hk;subst hk
  match ks,h,Hq with
  | [d,.mk kb n' t' us],h,Hq=>
   simp only[kids] at h;by_cases hb:za1 d code nm=true∧(V.mk kb n' t' us).kind=22
   ·rw[if_pos hb] at h;obtain⟨Ha,He⟩:=hb;have He:kb=22:=He;subst He;injection h with h
    subst h;exact⟨n,t,d,n',t',rfl,Hq,Ha⟩
   ·rw[if_neg hb] at h;cases h
 ·rw[if_neg hc] at h;cases h
theorem zcs {v:V}(h:okB v=true):mayB v=true:=by
 unfold okB at h;simp only[yce] at h;exact h.2
theorem zhL {v:V}{code:Nat}{nm:ByteArray}{ls:List V}(h:newR v code nm=some ls):mayL ls=true:=by
 obtain⟨n,t,d,n',t',rfl,Hq,_⟩:=zn4 h;have hm:=zbn (zcs Hq);simp only[mayL,yce] at hm;exact zbn hm.2.1
theorem zsH {ls:List V}{i:Int}{v:V}(h:Fl.ask ls i=some v):v∈ls:=by
 obtain⟨j,_,_,h,_⟩:=zcY h;exact List.mem_of_getElem? h
theorem zsI {ls:List V}{i:Int}{v:V}(hm:mayL ls=true)(h:Fl.ask ls i=some v):mayB v=true:=zbj hm v (zsH h)
theorem zn5 {k n:Nat}{t:ByteArray}{ks:List V}(h:mayB (.mk k n t ks)=true):zam k n t ks.length=true:=by
 simp only[mayB,yce] at h;exact h.1.2
theorem zqq {n:Nat}{t:ByteArray}{ks:List V}(h:mayB (.mk 5 n t ks)=true):n < 4294967296:=by
 have:=zn5 h;simp[zam,numB] at this;exact this.2
mutual
def n64:V→Prop
 | .mk k n _ ks=>k < 256∧n < 18446744073709551616∧n64L ks
def n64L:List V→Prop
 | []=>True
 | v::vs=>n64 v∧n64L vs
end
theorem zbT {c:ByteArray}(h:c.size=0):c=⟨#[]⟩:=by
 cases c with
 | mk d=>
  have:d=#[]:=Array.eq_empty_of_size_eq_zero h;rw[this]
theorem zn6 {n:Nat}{t:ByteArray}{ks:List V}:¬ (V.mk 25 n t ks).kind=1:=by show ¬ (25=1);omega
theorem zkW {x:V}(h:x.kind≠1):trim [x]=[x]:=by
 have:zfo [x] 0=false:=by simp[zfo,h]
 simp[trim,cutN,this]
theorem zqr {x y:V}(h:y.kind≠1):trim [x,y]=[x,y]:=by
 have:zfo [x,y] 1=false:=by simp[zfo,h]
 simp[trim,cutN,this]
theorem zeL {c:ByteArray}(h:c.size≠0):errV c=.mk 25 0 ⟨#[]⟩ (putL 29 [.mk 21 0 c []]):=if_neg h
theorem zfG {c:ByteArray}(h:c.size=0):errV c=za3:=if_pos h
theorem zqs {c:ByteArray}(h:cOk c=true):zb1 21 c=true:=by
 unfold zb1;simp only[show ¬ (21=15∨21=18) by omega,show ¬ (21=16) by omega,show ¬ (21=17) by omega,show ¬ (21=20) by omega,if_false,if_true];exact h
theorem zkX {ks:List V}(h:mayL ks=true):mayB (.mk 22 0 ⟨#[]⟩ ks)=true:=by
 have:zam 22 0 ⟨#[]⟩ ks.length=true:=by simp[zam,emp0]
 simp only[mayB,h,this,zaR];rfl
theorem zhM {d y:V}(hd:mayB d=true)(hk:zb0 d.kind=true)(hy:mayB y=true):mayB (.mk 25 0 ⟨#[]⟩ [d,y])=true:=by simp[mayB,mayL,hd,hy,zam,emp0,zaR,hk]
theorem zct (n:Nat):mayB (.mk 6 n ⟨#[]⟩ [])=true:=by simp[mayB,mayL,zam,emp0,numB,zaR]
theorem zkY {c:ByteArray}(h:cOk c=true):mayB (.mk 21 0 c [])=true:=by
 have h1:zam 21 0 c 0=true:=by
  unfold zam;rw[if_neg (by omega),if_neg (by omega),if_pos (by omega),zqs h];rfl
 simp[mayB,mayL,h1,zaR]
theorem zfH:mayB za3=true:=by simp[za3,mayB,mayL,zam,emp0,zaR]
theorem zqt:mayB (.mk 2 1 ⟨#[]⟩ [])=true:=by simp[mayB,mayL,zam,emp0,numB,zaR]
theorem zj3 {n:Nat}(h:n < 4294967296):mayB (.mk 5 n ⟨#[]⟩ [])=true:=by simp[mayB,mayL,zam,emp0,numB,zaR,h]
theorem zsJ {c:ByteArray}(h:cOk c=true):mayB (errV c)=true:=by
 by_cases hc:c.size=0
 ·rw[zfG hc];exact zfH
 ·rw[zeL hc];exact zhM (zct 29) rfl (zkX (by simp[mayL,zkY h]))
theorem zqu (n:Nat):mayB (zj2 n)=true:=by
 unfold zj2;by_cases h:n=0
 ·rw[if_pos h];exact zfH
 ·rw[if_neg h];exact zqt
theorem zqv (c:ByteArray):items (errV c)≤5∧depth (errV c)≤3:=by
 by_cases hc:c.size=0
 ·rw[zfG hc];simp[za3,items,zah,depth,zas]
 ·rw[zeL hc];simp[putL,items,zah,depth,zas]
theorem zgo (n:Nat):items (zj2 n)=1∧depth (zj2 n)=1:=by
 unfold zj2;by_cases h:n=0
 ·rw[if_pos h];simp[za3,items,zah,depth,zas]
 ·rw[if_neg h];simp[items,zah,depth,zas]
theorem zsK {o:O}(h:mayO o=true):mayL (ze8 o)=true∧zah (ze8 o)≤5∧zas (ze8 o)≤3:=by
 unfold mayO at h;simp only[yce] at h;obtain⟨⟨⟨h1,h2⟩,h3⟩,h4⟩:=h;unfold ze8;by_cases e1:o.k=1
 ·rw[if_pos e1] at h4 ⊢;have h4:=of_decide_eq_true h4;simp[mayL,zj3 h4,zct,items,zah,depth,zas]
 ·rw[if_neg e1];by_cases e3:o.k=3
  ·rw[if_pos e3];have:=zqv o.c;simp[mayL,zsJ h2,zah,zas,this]
  ·rw[if_neg e3];by_cases e5:o.k=5
   ·rw[if_pos e5];have:=zgo o.a;have:=zgo o.b;simp[mayL,zqu,zah,zas,zgo]
   ·rw[if_neg e5];simp[mayL,zah,zas]
theorem zqw (ls:List V):∃ j,trim ls=ls.take j:=⟨_,rfl⟩
theorem zn7 {ls:List V}(h:mayL ls=true)(j:Nat):mayL (ls.take j)=true:=by
 have e:=zf5 (ls.take j) (ls.drop j);rw[List.take_append_drop,h] at e;cases hj:mayL (ls.take j) with
 | true=>rfl
 | false=>rw[hj] at e;simp at e
theorem zeM {d:V}{ls:List V}(hd:mayB d=true)(hk:zb0 d.kind=true)(hi:items d=1)(Xr:depth d=1)(h:mayL ls=true)(h1:zah ls≤1000)(h2:zas ls≤10):okB (.mk 25 0 ⟨#[]⟩ [d,.mk 22 0 ⟨#[]⟩ ls])=true:=by
 have hm:=zhM hd hk (zkX h);unfold okB;rw[hm,decide_eq_true (by simp[items,zah,hi];omega),decide_eq_true (by simp[depth,zas,Xr];omega)];rfl
theorem zsL {o:O}(h:mayO o=true):mayL (trim (ze8 o))=true∧zah (trim (ze8 o))≤5∧zas (trim (ze8 o))≤3:=by
 obtain⟨h1,h2,h3⟩:=zsK h;obtain⟨j,e⟩:=zqw (ze8 o);rw[e];exact⟨zn7 h1 j,ycf (zbQ _ _) h2,ycf (zbl _ _) h3⟩
theorem zt4 {o:O}(h:mayO o=true):okB (putO o)=true:=by
 unfold putO;by_cases h0:o.k=0
 ·rw[if_pos h0];simp[za3,okB,items,zah,depth,zas,mayB,mayL,zam,emp0,zaR]
 ·rw[if_neg h0];obtain⟨h1,h2,h3⟩:=zsL h;exact zeM (zct _) rfl (by simp[items,zah]) (by simp[depth,zas]) h1 (by omega) (by omega)
theorem zqx {c:ByteArray}(h:cOk c=true):zqo (errV c)=some c:=by
 by_cases hc:c.size=0
 ·rw[zfG hc,zbT hc];rfl
 ·rw[zeL hc];have Hq:okB (.mk 25 0 ⟨#[]⟩ (putL 29 [.mk 21 0 c []]))=true:=zeM (zct _) rfl (by simp[items,zah]) (by simp[depth,zas]) (by simp[mayL,zkY h]) (by simp[items,zah]) (by simp[depth,zas]);have hn:newR (.mk 25 0 ⟨#[]⟩ (putL 29 [.mk 21 0 c []])) 29 ename=some [.mk 21 0 c []]:=by
   unfold putL at Hq ⊢;rw[zeK Hq,zcZ,decide_eq_true rfl,if_pos rfl]
  unfold zqo;rw[if_neg zn6,hn];exact if_pos rfl
theorem zva {i j:Nat}(hi:i∈[1,2,3,4,5])(hj:j∈[1,2,3,4,5]):decide (oname i=oname j)=decide (i=j):=by
 simp only[ycg,List.not_mem_nil,or_false] at hi hj;rcases hi with rfl | rfl | rfl | rfl | rfl<;>rcases hj with rfl | rfl | rfl | rfl | rfl<;>decide
theorem zkZ {v:V}{k:Nat}{ls:List V}:∀ {l:Lz},(∀ j∈l,newR v (34+j) (oname j)=if k=j then some ls else none)→k∈l→zkV v l=some (k,ls)
 | x::l,h,hk=>by
  unfold zkV;rw[h x (by simp)];by_cases e:k=x
  ·subst e;rw[if_pos rfl]
  ·rw[if_neg e];exact zkZ (fun j hj=>h j (by simp[hj])) ((List.mem_cons.1 hk).resolve_left e)
theorem zl0 {d:V}{k:Nat}{ls:List V}(hk:k∈[1,2,3,4,5])(Hq:okB (.mk 25 0 ⟨#[]⟩ [d,.mk 22 0 ⟨#[]⟩ ls])=true)(hd:∀ j∈[1,2,3,4,5],za1 d (34+j) (oname j)=decide (k=j)):getR (.mk 25 0 ⟨#[]⟩ [d,.mk 22 0 ⟨#[]⟩ ls])=zqp k ls:=by
 unfold getR;rw[if_neg zn6,zkZ (k:=k) (ls:=ls) (fun j hj=>?_) hk];rw[zeK Hq,hd j hj];by_cases e:k=j
 ·rw[decide_eq_true e,if_pos rfl,if_pos e]
 ·rw[decide_eq_false e,if_neg Bool.false_ne_true,if_neg e]
theorem zj4 {k:Nat}:∀ j∈[1,2,3,4,5],za1 (.mk 6 (34+k) ⟨#[]⟩ []) (34+j) (oname j)=decide (k=j):=by
 intro j _;rw[zcZ];by_cases e:k=j
 ·rw[decide_eq_true e,decide_eq_true (by omega)]
 ·rw[decide_eq_false e,decide_eq_false (by omega)]
theorem zk0 {o:O}(h:mayO o=true)(h0:o.k≠0):o.k∈[1,2,3,4,5]:=by
 unfold mayO at h;simp only[yce] at h;have:=of_decide_eq_true h.1.1.1;simp only[ycg,List.not_mem_nil,or_false];omega
theorem zn8 {o:O}(h:mayO o=true)(h0:o.k≠0):zqp o.k (trim (ze8 o))=some o:=by
 have h5:=zk0 h h0;obtain⟨k,a,b,c⟩:=o;unfold mayO at h;simp only[yce] at h h5;obtain⟨⟨⟨h1,h2⟩,h3⟩,h4⟩:=h;simp only[ycg,List.not_mem_nil,or_false] at h5;rcases h5 with rfl | rfl | rfl | rfl | rfl
 ·have hc:c=⟨#[]⟩:=zbT (by simpa using h3);subst hc;rw[show ze8 ⟨1,a,b,⟨#[]⟩⟩=[.mk 5 a ⟨#[]⟩ [],.mk 6 b ⟨#[]⟩ []] from rfl,zqr (by simp[kind])];exact if_pos rfl
 ·have hc:c=⟨#[]⟩:=zbT (by simpa using h3);simp at h4;obtain⟨rfl,rfl⟩:=h4;subst hc;exact if_pos rfl
 ·simp at h4;obtain⟨rfl,rfl⟩:=h4;have km:=zqx h2;rw[show ze8 ⟨3,0,0,c⟩=[errV c] from rfl];by_cases hc:c.size=0
  ·rw[zfG hc,zbT hc];rfl
  ·have hk:(errV c).kind≠1:=by rw[zeL hc];simp[kind]
   rw[zkW hk];have hv:valR [errV c] 0 [] false=(errV c,false):=by
    rw[zeL hc];rfl
   have hr:rdR 3 [errV c]=(⟨3,0,0,c⟩,false):=by
    show (match zqo (valR [errV c] 0 [] false).1 with | some c=>_ | none=>_:O×Bool)=_
    rw[hv,km]
   unfold zqp;rw[hr];exact if_pos rfl
 ·have hc:c=⟨#[]⟩:=zbT (by simpa using h3);simp at h4;obtain⟨rfl,rfl⟩:=h4;subst hc;exact if_pos rfl
 ·have hc:c=⟨#[]⟩:=zbT (by simpa using h3);subst hc;simp at h4;obtain⟨ha,hb⟩:=h4;have ha':a=0∨a=1:=by omega
  have j0:b=0∨b=1:=by omega
  rcases ha' with rfl | rfl<;>rcases j0 with rfl | rfl<;>rfl
theorem zn9 {o:O}(h:mayO o=true):getR (putO o)=some o:=by
 by_cases h0:o.k=0
 ·have e:putO o=za3:=if_pos h0;rw[e];obtain⟨k,a,b,c⟩:=o;have h0:k=0:=h0;subst h0;unfold mayO at h;simp[yce] at h;obtain⟨⟨_,h3⟩,rfl,rfl⟩:=h;have hc:c=⟨#[]⟩:=by first | exact h3 | exact zbT h3
  rw[hc];rfl
 ·have hp:=zt4 h;have e:putO o=.mk 25 0 ⟨#[]⟩ [.mk 6 (34+o.k) ⟨#[]⟩ [],.mk 22 0 ⟨#[]⟩ (trim (ze8 o))]:=if_neg h0;rw[e] at hp ⊢;rw[zl0 (zk0 h h0) hp zj4];exact zn8 h h0
end Oc
end Go.Proofs.YtbbbanfggcediaaGreatDoor
