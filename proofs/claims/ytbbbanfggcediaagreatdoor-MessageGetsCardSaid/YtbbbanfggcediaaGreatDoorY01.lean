/- Contracts, each with its premises. -/
import Derived.WalkKit
import Derived.Test.YtbbbanfggcediaaGreatDoorRows
import Derived.Deep.AppendLies
import Derived.Laws.MakeOwn
import Derived.Laws.OwnMore
import Derived.Below
import Derived.OwnWalk
import Derived.Laws.AppendOwnNone
import Derived.Maps.AppendAt
import Derived.Laws.BytesArg
import Derived.Deep.Draws
import Derived.Lib.Hide
import Derived.Outline
import Derived.Laws.BitsAllLaws
import Derived.WalkLawsBesides
import Derived.StillTailTactics
set_option maxRecDepth 100000
set_option maxHeartbeats 8000000
namespace Go.Proofs.YtbbbanfggcediaaGreatDoor
open _root_.Go.Proofs.Tryz
abbrev Oz:=Option Go.Addr
abbrev Lz:=List Nat
open Int renaming toNat_natCast→yat
open Prod renaming mk.injEq→yag
open Option renaming some.injEq→yaf
open List renaming length_drop→yac,take_of_length_le→yae,eq_nil_of_length_eq_zero→yah,getElem?_eq_getElem→yai,mem_append→yaj,length_map→yak,length_take→yal,take_append_drop→yam,append_assoc→yan,cons_append→yar,nil_append→yas
open Bool renaming and_eq_true→yab
open Nat renaming lt_of_lt_of_le→yaa,le_trans→yad,mul_le_mul_right→yao,mul_one→yap,zero_add→yaq
section
open Go Go.RowKit
theorem za(w:World)(o:Obj):Below w.heap.size w (w.alloc o):=(Below.refl _ _).alloc (Nat.le_refl _) _
theorem zaa{p:Prop}(h:p):Hid p:=Lib.hid h
theorem zab{n:Nat}:n≤n:=Nat.le_refl n
theorem zac{α:Type}[BEq α][LawfulBEq α]{a b:α}:(a==b)=false↔a≠b:=beq_eq_false_iff_ne
end
theorem sA {α}(l:List α)(i:Nat)(a:α):l.toArray.setIfInBounds i a=(l.set i a).toArray:=by simp
theorem sB {α}(x:α)(l:List α)(a:α):(x::l).set 0 a=a::l:=rfl
theorem sC {α}(x:α)(l:List α)(n:Nat)(a:α):(x::l).set (n+1) a=x::l.set n a:=rfl
namespace Utf
def isC (c:Nat):Bool:=decide (c < 55296)||(decide (57343 < c)&&decide (c≤1114111))
theorem zfN {c:Nat}:isC c=true↔(c < 55296∨(57343 < c∧c≤1114111)):=by simp[isC]
theorem zmk {c:Nat}(h:isC c=true):c≤1114111:=by have:=zfN.1 h;omega
def fu (c:Nat):Nat:=if c≤127 then 0 else if c≤2047 then 1 else if c≤65535 then 2 else 3
def en (c:Nat):Lz:=
 if c < 128 then [c] else if c < 2048 then [192+c / 64,128+c % 64]
 else if c < 65536 then [224+c / 4096,128+c / 64 % 64,128+c % 64]
 else [240+c / 262144,128+c / 4096 % 64,128+c / 64 % 64,128+c % 64]
def ld (o:Nat):Option (Nat×Nat):=
 if o < 128 then some (0,o) else if o < 192 then none else if o < 224 then some (1,o - 192)
 else if o < 240 then some (2,o - 224) else if o < 248 then some (3,o - 240) else none
def cont (x:Nat):Bool:=decide (128≤x)&&decide (x < 192)
def gon:Nat→Nat→Lz→Option Nat
 | 0,c,_=>some c
 | _+1,_,[]=>none
 | n+1,c,x::r=>if cont x then gon n (c * 64+(x - 128)) r else none
def fits (n:Nat)(c:Nat):Bool:=isC c&&(fu c==n)
def dec:Lz→Option (Nat×Nat)
 | []=>none
 | o::r=>match ld o with
  | none=>none
  | some (n,c)=>match gon n c r with
   | none=>none
   | some d=>if fits n d then some (d,n+1) else none
theorem zda (c:Nat):(en c).length=fu c+1:=by
 by_cases h1:c < 128
 ·simp[en,fu,h1,show c≤127 by omega]
 by_cases h2:c < 2048
 ·simp[en,fu,h1,h2,show ¬ c≤127 by omega,show c≤2047 by omega]
 by_cases h3:c < 65536
 ·simp[en,fu,h1,h2,h3,show ¬ c≤127 by omega,show ¬ c≤2047 by omega,show c≤65535 by omega]
 ·simp[en,fu,h1,h2,h3,show ¬ c≤127 by omega,show ¬ c≤2047 by omega,show ¬ c≤65535 by omega]
theorem ztB (c:Nat):fu c≤3:=by unfold fu;split<;>(try split)<;>(try split)<;>omega
theorem zrA {c:Nat}(h:c≤1114111):∀ x∈en c,x < 256:=by
 intro x hx;unfold en at hx
 split at hx
 ·simp at hx;omega
 ·split at hx
  ·simp at hx;omega
  ·split at hx
   ·simp at hx;omega
   ·simp at hx;omega
theorem zml {c:Nat}(h:isC c=true)(r:Lz):dec (en c++r)=some (c,fu c+1):=by
 have hl:=zmk h;by_cases h1:c < 128
 ·have e:en c=[c]:=by unfold en;rw[if_pos h1]
  have f:fu c=0:=by unfold fu;rw[if_pos (by omega)]
  simp[e,f,dec,ld,h1,gon,fits,h]
 by_cases h2:c < 2048
 ·have e:en c=[192+c / 64,128+c % 64]:=by unfold en;rw[if_neg h1,if_pos h2]
  have f:fu c=1:=by unfold fu;rw[if_neg (by omega),if_pos (by omega)]
  have l:ld (192+c / 64)=some (1,c / 64):=by unfold ld;rw[if_neg (by omega),if_neg (by omega),if_pos (by omega)];simp
  have k1:cont (128+c % 64)=true:=by simp[cont];omega
  have g:c / 64 * 64+(128+c % 64 - 128)=c:=by omega
  simp only[e,dec,l,gon,k1,g,fits,yar];simp[h,f]
 by_cases h3:c < 65536
 ·have e:en c=[224+c / 4096,128+c / 64 % 64,128+c % 64]:=by unfold en;rw[if_neg h1,if_neg h2,if_pos h3]
  have f:fu c=2:=by unfold fu;rw[if_neg (by omega),if_neg (by omega),if_pos (by omega)]
  have l:ld (224+c / 4096)=some (2,c / 4096):=by unfold ld;rw[if_neg (by omega),if_neg (by omega),if_neg (by omega),if_pos (by omega)];simp
  have k1:cont (128+c % 64)=true:=by simp[cont];omega
  have k2:cont (128+c / 64 % 64)=true:=by simp[cont];omega
  have g:(c / 4096 * 64+(128+c / 64 % 64 - 128)) * 64+(128+c % 64 - 128)=c:=by omega
  simp only[e,dec,l,gon,k1,k2,g,fits,yar];simp[h,f]
 ·have e:en c=[240+c / 262144,128+c / 4096 % 64,128+c / 64 % 64,128+c % 64]:=by unfold en;rw[if_neg h1,if_neg h2,if_neg h3]
  have f:fu c=3:=by unfold fu;rw[if_neg (by omega),if_neg (by omega),if_neg (by omega)]
  have l:ld (240+c / 262144)=some (3,c / 262144):=by unfold ld;rw[if_neg (by omega),if_neg (by omega),if_neg (by omega),if_neg (by omega),if_pos (by omega)];simp
  have k1:cont (128+c % 64)=true:=by simp[cont];omega
  have k2:cont (128+c / 64 % 64)=true:=by simp[cont];omega
  have k3:cont (128+c / 4096 % 64)=true:=by simp[cont];omega
  have g:((c / 262144 * 64+(128+c / 4096 % 64 - 128)) * 64+(128+c / 64 % 64 - 128)) * 64+(128+c % 64 - 128)=c:=by omega
  simp only[e,dec,l,gon,k1,k2,k3,g,fits,yar];simp[h,f]
theorem zdz {n c d:Nat}{r:Lz}(h:gon (n+1) c r=some d):∃ x r',r=x::r'∧128≤x∧x < 192∧gon n (c * 64+(x - 128)) r'=some d:=by
 cases r with
 | nil=>simp[gon] at h
 | cons x r=>
  by_cases k:cont x=true
  ·simp only[gon,k,if_true] at h;simp only[cont,yab,decide_eq_true_eq] at k;exact⟨x,r,rfl,k.1,k.2,h⟩
  ·simp[gon,k] at h
theorem zrB {b:Lz}{c m:Nat}(h:dec b=some (c,m)):isC c=true∧m=fu c+1∧∃ r,b=en c++r:=by
 cases b with
 | nil=>simp[dec] at h
 | cons o r=>
  unfold dec at h;cases hl:ld o with
  | none=>simp[hl] at h
  | some p=>
   obtain⟨n,c0⟩:=p;simp only[hl] at h;cases hg:gon n c0 r with
   | none=>simp[hg] at h
   | some d=>
    simp only[hg] at h;by_cases hf:fits n d=true
    ·simp only[hf,if_true,yaf,yag] at h;obtain⟨rfl,rfl⟩:=h;simp only[fits,yab,beq_iff_eq] at hf;obtain⟨hc,rfl⟩:=hf;refine⟨hc,rfl,?_⟩;unfold ld at hl
     split at hl
     ·simp only[yaf,yag] at hl;obtain⟨hn,rfl⟩:=hl;rw[←hn] at hg;simp only[gon,yaf] at hg;subst hg;exact⟨r,by unfold en;rw[if_pos (by omega)];rfl⟩
     split at hl
     ·cases hl
     split at hl
     ·simp only[yaf,yag] at hl;obtain⟨hn,rfl⟩:=hl;rw[←hn] at hg;obtain⟨x1,r1,rfl,a1,b1,g1⟩:=zdz hg;simp only[gon,yaf] at g1;subst g1;have h1:¬ (o - 192) * 64+(x1 - 128)≤127:=fun hh=>by unfold fu at hn;rw[if_pos hh] at hn;omega
      refine⟨r1,?_⟩;unfold en;rw[if_neg (by omega),if_pos (by omega)];simp only[yar,yas,List.cons.injEq,and_true];omega
     split at hl
     ·simp only[yaf,yag] at hl;obtain⟨hn,rfl⟩:=hl;rw[←hn] at hg;obtain⟨x1,r1,rfl,a1,b1,g1⟩:=zdz hg;obtain⟨x2,r2,rfl,a2,b2,g2⟩:=zdz g1;simp only[gon,yaf] at g2;subst g2;have h1:¬ ((o - 224) * 64+(x1 - 128)) * 64+(x2 - 128)≤2047:=fun hh=>by
       unfold fu at hn;split at hn
       ·omega
       ·omega
      refine⟨r2,?_⟩;unfold en;rw[if_neg (by omega),if_neg (by omega),if_pos (by omega)];simp only[yar,yas,List.cons.injEq,and_true];omega
     split at hl
     ·simp only[yaf,yag] at hl;obtain⟨hn,rfl⟩:=hl;rw[←hn] at hg;obtain⟨x1,r1,rfl,a1,b1,g1⟩:=zdz hg;obtain⟨x2,r2,rfl,a2,b2,g2⟩:=zdz g1;obtain⟨x3,r3,rfl,a3,b3,g3⟩:=zdz g2;simp only[gon,yaf] at g3;subst g3;have h1:¬ (((o - 240) * 64+(x1 - 128)) * 64+(x2 - 128)) * 64+(x3 - 128)≤65535:=fun hh=>by
       unfold fu at hn;split at hn
       ·omega
       ·split at hn
        ·omega
        ·omega
      refine⟨r3,?_⟩;unfold en;rw[if_neg (by omega),if_neg (by omega),if_neg (by omega)];simp only[yar,yas,List.cons.injEq,and_true];omega
     ·cases hl
    ·simp[hf] at h
def txt (l:Lz):Lz:=l.flatMap en
def AllC (l:Lz):Prop:=∀ c∈l,isC c=true
def IsT (b l:Lz):Prop:=AllC l∧b=txt l
theorem zhe:txt []=[]:=rfl
theorem zcz (c:Nat)(l:Lz):txt (c::l)=en c++txt l:=by simp[txt]
theorem zgC (l m:Lz):txt (l++m)=txt l++txt m:=by simp[txt]
theorem zmm:∀ {d l:Lz} {r:Lz},AllC d→AllC l→txt d++r=txt l→∃ m,l=d++m∧r=txt m
 | [],l,r,_,_,h=>⟨l,rfl,h⟩
 | c::d,[],r,_,_,h=>by
  rw[zcz,zhe] at h;have:=congrArg List.length h;simp[zda] at this
 | c::d,e::l,r,hd,hl,h=>by
  rw[zcz,zcz,yan] at h;have h1:=zml (hd c (by simp)) (txt d++r);have h2:=zml (hl e (by simp)) (txt l);rw[h,h2] at h1;simp only[yaf,yag] at h1;obtain⟨rfl,_⟩:=h1;obtain⟨m,rfl,rfl⟩:=zmm (fun x hx=>hd x (by simp[hx])) (fun x hx=>hl x (by simp[hx])) (List.append_cancel_left h);exact⟨m,rfl,rfl⟩
theorem zrC {d r:Lz}(hd:AllC d)(hr:r≠[])(h:dec r=none):∀ l,¬ IsT (txt d++r) l:=by
 rintro l ⟨hl,e⟩;obtain⟨m,rfl,rfl⟩:=zmm hd hl e;cases m with
 | nil=>exact hr rfl
 | cons c m=>
  rw[zcz,zml (hl c (by simp))] at h;cases h
theorem AllC.append {l m:Lz}(hl:AllC l)(hm:AllC m):AllC (l++m):=fun c hc=>by
 rcases List.mem_append.1 hc with h | h
 ·exact hl c h
 ·exact hm c h
theorem AllC.one {c:Nat}(h:isC c=true):AllC [c]:=fun x hx=>by simp at hx;rwa [hx]
theorem zkg:AllC []:=fun _ h=>by cases h
theorem zrD (l:Lz):l.length≤(txt l).length∧(txt l).length≤4 * l.length:=by
 induction l with
 | nil=>simp[txt]
 | cons c l ih=>
  rw[zcz,List.length_append,zda,List.length_cons];have:=ztB c;omega
end Utf
namespace Utf
open Go
def Typ (Q:Value→Prop)(w:World)(v:Value):Prop:=∀ g,v.ownBlock=some g→∀ cur e fz,w.heap[g]? = some (.cells cur e fz)→∀ u∈cur.toList,Q u
section
variable {Q:Value→Prop} {w w':World} {v:Value}
theorem Typ.nil (Q:Value→Prop)(w:World)(n c:Nat):Typ Q w (.slice none n c):=fun _ h=>by cases h
theorem Typ.keep (h:Typ Q w v)(hk:∀ g,v.ownBlock=some g→w'.heap[g]? = w.heap[g]?):Typ Q w' v:=fun g hg cur e fz hc=>h g hg cur e fz ((hk g hg)▸hc)
theorem Typ.len {A:Oz}{n n' c c':Nat}(h:Typ Q w (.slice A n c)):Typ Q w (.slice A n' c'):=fun g hg=>h g (by cases A<;>exact hg)
theorem Typ.new (w:World)(cs:Array Value)(e:TypeId)(n c:Nat)(h:∀ u∈cs.toList,Q u):Typ Q (w.alloc (.cells cs e)) (.slice (some ⟨w.heap.size,0,none⟩) n c):=fun g hg cur e' fz hc=>by
 have:w.heap.size=g:=by simpa [Value.ownBlock] using hg
 subst this;rw[heap_alloc_new] at hc;injection hc with hc
 injection hc with hc _ _
 subst hc;exact h
end
theorem zdA {Q:Value→Prop}{z:Value}(hz:z.cells=#[z])(h:Q z)(k:Nat):∀ u∈(Builtin.zeroCells z.cells k).toList,Q u:=fun u hu=>by
 rw[hz] at hu;simp[Builtin.zeroCells,Nat.mod_one] at hu;obtain⟨_,_,rfl⟩:=hu;exact h
theorem zgD {Q:Value→Prop}{z:Value}(hz:z.cells=#[z])(h:Q z)(k:Nat):∀ u∈(madeCells z.cells k).toList,Q u:=fun u hu=>by
 rw[hz] at hu;simp[madeCells,Nat.mod_one] at hu;obtain⟨_,_,rfl⟩:=hu;exact h
theorem zgE {P:Program}{Q:Value→Prop}{w:World}(t ty e:TypeId)(i:TypeInfo)(z:Value)(bytes:Nat)(ht:P.underlying t=some (.slice e))(hi:P.info? e=some i)(hz:i.zero=some z)
  (gX:i.size=1) (KO:i.bytes=bytes) (hzc:z.cells=#[z]) (YB:Q z)
  (base:Nat) (v:Value) (n:Nat) (xs:List Value) (Hf:w.ownsRow base e 1 v n xs) (hT:Typ Q w v)
  (a:Addr) (m c:Nat) (news:List Value) (hl:news.length=m * 1) (kv:∀ j u,news[j]? = some u→w.cell? (a.add j)=some u) (h1:∀ u∈news,u.oneCell'=true) (hq:∀ u∈news,Q u)
  (Qw:n+m≤maxLen) (Gt:(n+m) * bytes≤140737488355328) {v':Value} {w':World} (gw:(Builtin.append_ #[t,t] ty #[v,.slice (some a) m c]).run P w=.ok v' w'):Typ Q w' v':=by
 have yI:n+m≤9223372036854775807:=by simp only[maxLen] at Qw;omega
 subst KO;rcases Hf.2 with ⟨rfl,rfl⟩ | ⟨g,cap,cur,rfl,_,hg,kz,_,jl,K9⟩
 ·by_cases hm:m=0
  ·subst hm;have hn:news=[]:=yah (by simpa using hl);subst hn;have hr:(Builtin.append_ #[t,t] ty #[.slice none 0 0,.slice (some a) 0 c]).run P w=.ok (.slice none 0 0) w:=by simp[Builtin.append_,run_underlying ht,sizeOf,typeInfo,hi,Builtin.lenOf,Builtin.firstCells,loadCells,loadCellsFrom]
   rw[hr] at gw;injection gw with e1 e2
   subst e1;exact Typ.nil _ _ _ _
  ·have hr:=run_append_nil (P:=P) w t ty e i z ht hi hz a m c news (by rw[gX];exact hl) kv (by omega) (by omega) (by have hb:=Gt;simp only[yaq] at hb;omega);rw[hr] at gw;injection gw with e1 e2
   subst e1 e2;refine Typ.new w.drew _ _ _ _ fun u hu=>?_;rw[Array.toList_append,yaj] at hu;rcases hu with hu | hu
   ·exact hq u (by simpa using hu)
   ·exact zdA hzc YB _ u hu
 ·have xU:∀ u∈cur.toList,Q u:=hT g rfl cur e (0,0) hg;have bJ:∀ u∈xs,Q u:=fun u hu=>xU u (List.mem_of_mem_take (by rw[K9];exact hu));by_cases qz:n+m≤cap
  ·have XM:n * i.size+news.length≤cur.size:=by rw[hl,jl,gX,←Nat.add_mul];exact yao _ qz
   have hr:=run_append_room (P:=P) w t ty e i ht hi g n cap cur hg a m c news (by rw[gX];exact hl) kv h1 qz XM;rw[hr] at gw;injection gw with e1 e2
   subst e1 e2;intro g' vW cur' e' fz hc u hu;have:g=g':=by simpa [Value.ownBlock] using vW
   subst this;rw[setRow_heap w g cur _ e _ hg] at hc;injection hc with hc
   injection hc with hc _ _
   subst hc;simp only[yaj] at hu;rcases hu with (hu | hu) | hu
   ·exact xU u (List.mem_of_mem_take hu)
   ·exact hq u hu
   ·exact xU u (List.mem_of_mem_drop hu)
  ·have holds:∀ j u,xs[j]? = some u→w.cell? ((⟨g,0,none⟩:Addr).add j)=some u:=Hf.cells (g:=g) rfl;have hr:=run_append_grow (P:=P) w t ty e i z ht hi hz ⟨g,0,none⟩ n cap xs (by rw[gX];exact Hf.1) holds a m c news (by rw[gX];exact hl) kv (by omega) (by omega) (growslice_fits (by omega) Gt);rw[hr] at gw;injection gw with e1 e2
   subst e1 e2;refine Typ.new w.drew _ _ _ _ fun u hu=>?_;rw[Array.toList_append,Array.toList_append,yaj,yaj] at hu;rcases hu with (hu | hu) | hu
   ·exact bJ u (by simpa using hu)
   ·exact hq u (by simpa using hu)
   ·exact zdA hzc YB _ u hu
end Utf
namespace Utf
open Go.RowKit
theorem info5:(prog.info? 5).map (fun i=>(i.zero,i.size,i.bytes))=some (some (.int .u8 0),1,1):=by kernel_rfl
theorem info36:(prog.info? 25).map (fun i=>(i.zero,i.size,i.bytes))=some (some (.int .u32 0),1,4):=by kernel_rfl
def vs (k:IntKind)(l:Lz):List Value:=l.map fun(c:Nat)=>.int k (c:Int)
theorem zby (k:IntKind)(l:Lz):(vs k l).length=l.length:=by simp[vs]
theorem zea (k:IntKind)(l m:Lz):vs k (l++m)=vs k l++vs k m:=by simp[vs]
theorem zkh (k:IntKind)(l:Lz):∀ u∈vs k l,u.oneCell'=true:=by
 intro u hu;obtain⟨c,_,rfl⟩:=List.mem_map.1 hu;rfl
theorem zo6 (k:IntKind)(l:Lz)(j:Nat)(h:j < l.length):(vs k l)[j]? = some (.int k (l[j]:Int)):=by simp[vs,yai h]
def Rd (K:IntKind)(M:Nat)(w:World)(B:Nat)(A:Oz)(n:Nat)(l:Lz):Prop:=
 l.length=n∧(∀ x∈l,x < M)∧(0 < n→∃ b o,A=some ⟨b,o,none⟩∧b < B∧∀ k (h:k < l.length),w.cell? ⟨b,o+k,none⟩=some (.int K (l[k]:Int)))
def Nb (K:IntKind)(M:Nat)(u:Value):Prop:=∃ x:Nat,x < M∧u=.int K (x:Int)
def Own (K:IntKind)(M:Nat)(T:TypeId)(w:World)(base:Nat)(A:Oz)(n c:Nat)(l:Lz):Prop:=(∀ x∈l,x < M)∧w.ownsRow base T 1 (.slice A n c) n (vs K l)∧Typ (Nb K M) w (.slice A n c)
theorem zmn {K:IntKind}{M:Nat}{l:Lz}(h:∀ x∈l,x < M):∀ u∈vs K l,Nb K M u:=fun u hu=>by
 obtain⟨c,hc,rfl⟩:=List.mem_map.1 hu;exact⟨c,h c hc,rfl⟩
section
variable {K:IntKind} {M:Nat} {T:TypeId} {w w':World} {B B' base n c:Nat} {A:Oz} {l:Lz}
theorem Rd.len (h:Rd K M w B A n l):l.length=n:=h.1
theorem Rd.lim (h:Rd K M w B A n l):∀ x∈l,x < M:=h.2.1
theorem Rd.zero (K:IntKind)(M:Nat)(w:World)(B:Nat)(A:Oz):Rd K M w B A 0 []:=⟨rfl,fun _ h=>(by cases h),fun h=>absurd h (by omega)⟩
theorem Rd.at_ (h:Rd K M w B A n l){k:Nat}(hk:k < n):∃ b o c,A=some ⟨b,o,none⟩∧b < B∧l[k]? = some c∧c < M∧w.cell? ⟨b,o+k,none⟩=some (.int K (c:Int)):=by
 obtain⟨b,o,e,hb,hc⟩:=h.2.2 (by omega);have hl:k < l.length:=by rw[h.1];exact hk
 exact⟨b,o,l[k],e,hb,yai hl,h.2.1 _ (List.getElem_mem hl),hc k hl⟩
theorem Rd.keep (h:Rd K M w B A n l)(hk:∀ p:Addr,p.block < B→w'.cell? p=w.cell? p):Rd K M w' B A n l:=
 ⟨h.1,h.2.1,fun hn=>by
  obtain⟨b,o,e,hb,hc⟩:=h.2.2 hn;exact⟨b,o,e,hb,fun k Gn=>(hk ⟨b,o+k,none⟩ hb).trans (hc k Gn)⟩⟩
theorem Rd.mono (h:Rd K M w B A n l)(hB:B≤B'):Rd K M w B' A n l:=
 ⟨h.1,h.2.1,fun hn=>by
  obtain⟨b,o,e,hb,hc⟩:=h.2.2 hn;exact⟨b,o,e,by omega,hc⟩⟩
theorem Rd.below (h:Rd K M w B A n l)(hb:Below B w w'):Rd K M w' B A n l:=h.keep fun _ hp=>hb.cell hp
theorem Rd.call (h:Rd K M w w.heap.size A n l)(hb:Below w.heap.size w w'):Rd K M w' w'.heap.size A n l:=(h.below hb).mono hb.size
theorem Rd.alloc (h:Rd K M w B A n l)(hB:B≤w.heap.size)(o:Obj):Rd K M (w.alloc o) B A n l:=h.below ((Below.refl _ _).alloc hB o)
theorem Rd.take (h:Rd K M w B A n l){k:Nat}(hk:k≤n):Rd K M w B A k (l.take k):=by
 refine⟨by rw[yal,h.1];omega,fun x hx=>h.2.1 x (List.mem_of_mem_take hx),fun hn=>?_⟩;obtain⟨b,o,e,hb,hc⟩:=h.2.2 (by omega);refine⟨b,o,e,hb,fun j hj=>?_⟩;rw[yal] at hj;rw[hc j (by omega)];simp
theorem Rd.drop (h:Rd K M w B A n l){k:Nat}(hk:k≤n)(hn:n≤c):Rd K M w B (if c=k then A else A.map (·.add k)) (n - k) (l.drop k):=by
 refine⟨by rw[yac,h.1],fun x hx=>h.2.1 x (List.mem_of_mem_drop hx),fun hp=>?_⟩;obtain⟨b,o,rfl,hb,hc⟩:=h.2.2 (by omega);rw[if_neg (by omega)];refine⟨b,o+k,?_,hb,fun j hj=>?_⟩
 ·simp only[Option.map_some,Addr.add]
  split
  ·rename_i h0;simp[h0]
  ·rfl
 ·rw[yac] at hj;rw[Nat.add_assoc,hc (k+j) (by omega)];simp
theorem Rd.eqv {m:Lz}(h:Rd K M w B A n l)(e:l=m):Rd K M w B A n m:=e▸h
theorem Own.len (h:Own K M T w base A n c l):l.length=n:=by have:=h.2.1.1;rw[zby] at this;omega
theorem Own.cap (h:Own K M T w base A n c l):n≤c∧c≤maxLen:=by
 rcases h.2.1.2 with ⟨e,h0⟩ | ⟨g,cap,cur,e,_,_,h1,h2,_,_⟩
 ·injection e with _ _ e;subst e;subst h0;exact⟨zab,by unfold maxLen;omega⟩
 ·injection e with _ _ e;subst e;exact⟨h1,h2⟩
theorem Own.rd (h:Own K M T w base A n c l):Rd K M w w.heap.size A n l:=by
 refine⟨h.len,h.1,fun hn=>?_⟩;obtain⟨g,cap,hv,hb,Hi⟩:=h.2.1.form hn;injection hv with hA _ hc
 subst hA;subst hc;refine⟨g,0,rfl,Hi,fun k hk=>?_⟩;have JB:k < n:=by rw[←h.len];exact hk
 rw[yaq,World.ownsRow.cellAt h.2.1 k (by omega)];exact zo6 K l k hk
theorem Own.blk (h:Own K M T w base A n c l):∀ g,(Value.slice A n c).ownBlock=some g→base≤g∧g < w.heap.size:=h.2.1.lt
theorem Own.below (h:Own K M T w base A n c l)(hb:Below w.heap.size w w'):Own K M T w' base A n c l:=
 ⟨h.1,h.2.1.kept (row:=none) ⟨hb.os,hb.tape,hb.output,hb.size,fun k hk _=>hb.block k hk⟩ (by
  cases hv:(Value.slice A n c).ownBlock with
  | none=>exact .inl rfl
  | some g=>exact .inr (by simp)),h.2.2.keep fun g hg=>hb.block g (h.blk g hg).2⟩
theorem Own.alloc (h:Own K M T w base A n c l)(o:Obj):Own K M T (w.alloc o) base A n c l:=⟨h.1,World.ownsRow.alloc h.2.1 o,h.2.2.keep fun g hg=>Below.heap_alloc _ _ _ (h.blk g hg).2⟩
theorem Own.mono {base':Nat}(h:Own K M T w base A n c l)(hb:base'≤base):Own K M T w base' A n c l:=by
 refine⟨h.1,⟨h.2.1.1,?_⟩,h.2.2⟩;rcases h.2.1.2 with h | ⟨g,cap,cur,h1,h2,h3⟩
 ·exact .inl h
 ·exact .inr ⟨g,cap,cur,h1,by omega,h3⟩
theorem Own.eqv {m:Lz}(h:Own K M T w base A n c l)(e:l=m):Own K M T w base A n c m:=e▸h
theorem Own.nil (K:IntKind)(M:Nat)(T:TypeId)(w:World)(base:Nat):Own K M T w base none 0 0 []:=⟨fun _ h=>(by cases h),⟨rfl,.inl ⟨rfl,rfl⟩⟩,Typ.nil _ _ _ _⟩
end
theorem zgF {K:IntKind}{M:Nat}{T:TypeId}{w:World}{base n:Nat}{v:Value}{l:Lz}(hl:∀ x∈l,x < M)(h:w.ownsRow base T 1 v n (vs K l))(hT:Typ (Nb K M) w v):∃ A c,v=.slice A n c∧Own K M T w base A n c l:=by
 rcases h.2 with ⟨rfl,rfl⟩ | ⟨g,cap,cur,rfl,_⟩
 ·exact⟨none,0,rfl,hl,h,hT⟩
 ·exact⟨_,_,rfl,hl,h,hT⟩
theorem zau {K:IntKind}{M:Nat}{T:TypeId}{w w':World}{base A n c l}(h:Own K M T w base A n c l)(hg:w.grownBy w' (Value.slice A n c).ownBlock)(hb:base≤w.heap.size):Below base w w':=
 (Below.refl _ _).grown hg hb fun k hk=>(h.blk k hk).1
theorem zgy {P:Program}(w:World){K:IntKind}{M:Nat}{T:TypeId}{ops:Array Oper}{rest:List Oper}{o:Oper}{a:Act}{Q:Exit→Act→World→Prop}
  (hg:o.guard=none) (l c:Operand) (t:TypeId) (Kt:o.op=Op.makeSlice t l c)
  (base:Nat) (i:TypeInfo) (h1:P.underlying t=some (.slice T)) (h2:P.info? T=some i) (h3:i.zero=some (.int K 0)) (hM:0 < M) (h4:i.size=1)
  (kl kc:IntKind) (C:Int) (n:Nat) (hl:a.eval l=.int kl 0) (hc:a.eval c=.int kc C) (hC:C=(n:Int)) (b2:i.bytes * n≤281474976710656) (b3:n≤maxLen) (b4:base≤w.heap.size)
  (hK:∀ w',Own K M T w' base (some ⟨w.heap.size,0,none⟩) 0 n []→w.grownBy w' none→wpList P ops Q rest (a.put o.dst (.slice (some ⟨w.heap.size,0,none⟩) 0 n)) w') :
  wpList P ops Q (o::rest) a w:=by
 refine wpList_plain hg fun KK gV=>?_;have b5:(n:Int)≤9223372036854775807:=by
  have h:=b3;simp[maxLen] at h;omega
 have b6:(i.bytes:Int) * (n:Int)≤281474976710656:=by
  have h:((i.bytes * n:Nat):Int)≤281474976710656:=by omega
  rwa [Int.natCast_mul] at h
 have hr:=run_make (P:=P) w t T i (.int K 0) h1 h2 h3 kl kc 0 n (Int.le_refl _) (by omega) b6 b5;simp only[Int.toNat_zero,yat] at hr;subst hC;unfold Oper.wp;simp[execOp,Kt,hl,hc,hr,Result.andThen];exact gV _ _ (hK _ ⟨fun _ h=>(by cases h),World.ownsRow_made w _ n b4 b3 (by rw[size_madeCells,h4]),Typ.new _ _ _ _ _ (zgD rfl ⟨0,hM,rfl⟩ _)⟩ (World.grownBy_alloc w _ none))
theorem zki {P:Program}{w:World}{K:IntKind}{M:Nat}{T:TypeId}{ops:Array Oper}{o:Oper}{a:Act}{KK:Act→World→Prop}{Q:Exit→Act→World→Prop}{E:Prop}(jE:o.guard=none)(s x:Operand)(t:TypeId)
  (ho:o.op=.call { callee:=.builtin .append,args:=#[s,x],argTypes:=#[t,t] }) (i:TypeInfo) (bytes:Nat) (ht:P.underlying t=some (.slice T)) (hi:P.info? T=some i) (hz:i.zero=some (.int K 0)) (hM:0 < M)
  (gX:i.size=1) (KO:i.bytes=bytes) {base n c:Nat} {A:Oz} {L:Lz} (hs:a.eval s=.slice A n c) (Hf:Own K M T w base A n c L)
  (ad:Addr) (m d:Nat) (l:Lz) (hx:a.eval x=.slice (some ad) m d) (hl:l.length=m) (GZ:∀ y∈l,y < M) (kv:∀ j u,(vs K l)[j]? = some u→w.cell? (ad.add j)=some u)
  (hm:0 < m) (Qw:n+m≤maxLen) (Gt:(n+m) * bytes≤140737488355328) (Hy:base≤w.heap.size) (H:Nat) (hH:w.heap.size=H)
  (h:∀ g cap w',Own K M T w' base (some ⟨g,0,none⟩) (n+m) cap (L++l)→w.grownBy w' (Value.slice A n c).ownBlock→((Value.slice A n c).ownBlock=some g∨g=H)→g < w'.heap.size→KK (a.put o.dst (.slice (some ⟨g,0,none⟩) (n+m) cap)) w') :
  if Region.wanted o (yielded ops a.tmps)=true then Oper.wp P o a w KK Q else E:=by
 have hw:Region.wanted o (yielded ops a.tmps)=true:=by simp[Region.wanted,jE]
 rw[if_pos hw];have YC:(vs K l).length=m * 1:=by rw[zby,hl];omega
 obtain⟨g,cap,w',hr,h2,h3,h4,h5⟩:=run_append_lies (P:=P) w t o.type base T i (.int K 0) 1 bytes ht hi hz gX KO rfl (by omega) (.slice A n c) n (vs K L) Hf.2.1 ad m d (vs K l) YC kv (zkh _ _) hm Qw Gt Hy H hH;have h6:=zgE (P:=P) (Q:=Nb K M) t o.type T i (.int K 0) bytes ht hi hz gX KO rfl ⟨0,hM,rfl⟩ base (.slice A n c) n (vs K L) Hf.2.1 Hf.2.2 ad m d (vs K l) YC kv (zkh _ _) (zmn GZ) Qw Gt hr;rw[←zea] at h2;unfold Oper.wp execOp;simp only[ho,resolve,invoke,builtin,Sem.run_bind,Sem.run_pure,Result.andThen_ok,List.map_toArray,List.map_cons,List.map_nil,hs,hx,hr];exact h g cap w' ⟨fun y hy=>(List.mem_append.1 hy).elim (Hf.1 y) (GZ y),h2,h6⟩ h3 h4 h5
theorem zgG {P:Program}{w:World}{K:IntKind}{M:Nat}{T:TypeId}{ops:Array Oper}{rest:List Oper}{o:Oper}{a:Act}{Q:Exit→Act→World→Prop}(jE:o.guard=none)(s x:Operand)(t:TypeId)
  (ho:o.op=.call { callee:=.builtin .append,args:=#[s,x],argTypes:=#[t,t] }) (i:TypeInfo) (bytes:Nat) (ht:P.underlying t=some (.slice T)) (hi:P.info? T=some i) (hz:i.zero=some (.int K 0)) (hM:0 < M)
  (gX:i.size=1) (KO:i.bytes=bytes) {base n c:Nat} {A:Oz} {L:Lz} (hs:a.eval s=.slice A n c) (Hf:Own K M T w base A n c L)
  (ad:Addr) (m d:Nat) (l:Lz) (hx:a.eval x=.slice (some ad) m d) (hl:l.length=m) (GZ:∀ y∈l,y < M) (kv:∀ j u,(vs K l)[j]? = some u→w.cell? (ad.add j)=some u)
  (Qw:n+m≤maxLen) (Gt:(n+m) * bytes≤140737488355328) (Hy:base≤w.heap.size)
  (h:∀ A2 c2 w',Own K M T w' base A2 (n+m) c2 (L++l)→w.grownBy w' (Value.slice A n c).ownBlock→wpList P ops Q rest (a.put o.dst (.slice A2 (n+m) c2)) w') :
  wpList P ops Q (o::rest) a w:=by
 refine wpList_plain jE fun KK hK=>?_;have YC:(vs K l).length=m * 1:=by rw[zby,hl];omega
 obtain⟨v',w',hr,h2,h3,_⟩:=run_append_own (P:=P) w base t o.type T i (.int K 0) 1 bytes ht hi hz gX KO rfl (by omega) (.slice A n c) n (vs K L) Hf.2.1 ad m d (vs K l) YC kv (zkh _ _) Qw Gt Hy;have h6:=zgE (P:=P) (Q:=Nb K M) t o.type T i (.int K 0) bytes ht hi hz gX KO rfl ⟨0,hM,rfl⟩ base (.slice A n c) n (vs K L) Hf.2.1 Hf.2.2 ad m d (vs K l) YC kv (zkh _ _) (zmn GZ) Qw Gt hr;rw[←zea] at h2;obtain⟨A2,c2,rfl,Gh⟩:=zgF (fun y hy=>(List.mem_append.1 hy).elim (Hf.1 y) (GZ y)) h2 h6;unfold Oper.wp execOp;simp only[ho,resolve,invoke,builtin,Sem.run_bind,Sem.run_pure,Result.andThen_ok,List.map_toArray,List.map_cons,List.map_nil,hs,hx,hr];exact hK _ _ (h A2 c2 w' Gh h3)
theorem zcd {w:World}{ops:Array Oper}{rest:List Oper}{o:Oper}{a:Act}{Q:Exit→Act→World→Prop}(jE:o.guard=none)(s x:Operand)
  (ho:o.op=.call { callee:=.builtin .append,args:=#[s,x],argTypes:=#[22,22] })
  {base n c:Nat} {A:Oz} {L:Lz} (hs:a.eval s=.slice A n c) (Hf:Own .u8 256 5 w base A n c L)
  {B m d:Nat} {A':Oz} {l:Lz} (hx:a.eval x=.slice A' m d) (hr:Rd .u8 256 w B A' m l) (Hu:n+m≤17592186044416) (Hy:base≤w.heap.size)
  (h:∀ A2 c2 w',Own .u8 256 5 w' base A2 (n+m) c2 (L++l)→w.grownBy w' (Value.slice A n c).ownBlock→wpList prog ops Q rest (a.put o.dst (.slice A2 (n+m) c2)) w') :
  wpList prog ops Q (o::rest) a w:=by
 obtain⟨i0,hi,gE,Hn,gb⟩:=info_parts info5;rcases A' with _ | ad
 ·have hm:m=0:=by
   rcases Nat.eq_zero_or_pos m with h0 | h0
   ·exact h0
   ·obtain⟨_,_,e,_⟩:=hr.2.2 h0;cases e
  subst hm;have hl:l=[]:=yah hr.1;subst hl;refine wpList_plain jE fun K hK=>?_;have gw:(Builtin.append_ #[22,22] o.type #[.slice A n c,.slice none 0 d]).run prog w=.ok (.slice A n c) w:=by
   rcases Hf.2.1.2 with ⟨e,rfl⟩ | ⟨g,cap,cur,e,_,_,kz,_⟩
   ·injection e with e1 _ e3;subst e1;subst e3
    simp[Builtin.append_,run_underlying underlying22,sizeOf,typeInfo,hi,Builtin.lenOf,Builtin.firstCells]
   ·injection e with e1 _ e3;subst e1;subst e3
    simp[Builtin.append_,run_underlying underlying22,sizeOf,typeInfo,hi,Builtin.lenOf,Builtin.firstCells,kz,storeCells]
  unfold Oper.wp execOp;simp only[ho,resolve,invoke,builtin,Sem.run_bind,Sem.run_pure,Result.andThen_ok,List.map_toArray,List.map_cons,List.map_nil,hs,hx,gw];exact hK _ _ (h A c w (by simpa using Hf) (World.grownBy.refl w _))
 ·refine zgG (P:=prog) jE s x 22 ho i0 1 underlying22 hi gE (by omega) Hn gb hs Hf ad m d l hx hr.1 hr.2.1 ?_ (by unfold maxLen;omega) (by omega) Hy h
  ·intro j u hu;have hj:j < l.length:=by
    have:=(List.getElem?_eq_some_iff.1 hu).1
    rwa [zby] at this
   obtain⟨b,o',e,_,hc⟩:=hr.2.2 (by rw[←hr.1];omega);injection e with e
   subst e;rw[zo6 _ l j hj] at hu;injection hu with hu
   subst hu;have:=hc j hj;rw[←this];unfold Addr.add
   split
   ·rename_i h0;subst h0;rfl
   ·rfl
theorem zjF (w:World)(l:Lz)(n:Nat)(hn:l.length=n)(hl:∀ x∈l,x < 256):Rd .u8 256 (w.alloc (.cells (vs .u8 l).toArray 5)) (w.heap.size+1) (some ⟨w.heap.size,0,none⟩) n l:=by
 refine⟨hn,hl,fun _=>⟨w.heap.size,0,rfl,by omega,fun k hk=>?_⟩⟩;rw[World.cell?_alloc_at _ _ _ _ rfl];simp[vs,yai hk]
theorem zkj (w:World)(base n:Nat)(l:Lz)(hn:l.length=n)(hl:∀ x∈l,x < 256)(hm:n≤maxLen)(hb:base≤w.heap.size):Own .u8 256 5 (w.alloc (.cells (vs .u8 l).toArray 5)) base (some ⟨w.heap.size,0,none⟩) n n l:=by
 have h:=World.ownsRow_lit (e:=5) (size:=1) (base:=base) w (vs .u8 l).toArray n hb hm (by simp[zby,hn]);exact⟨hl,by simpa using h,Typ.new _ _ _ _ _ (by simpa using zmn hl)⟩
theorem zcA {w:World}{ops:Array Oper}{rest:List Oper}{o:Oper}{a:Act}{Q:Exit→Act→World→Prop}(jE:o.guard=none)(s x:Operand)
  (ho:o.op=.call { callee:=.builtin .append,args:=#[s,x],argTypes:=#[181,181] })
  {base n c:Nat} {A:Oz} {L:Lz} (hs:a.eval s=.slice A n c) (Hf:Own .u32 4294967296 25 w base A n c L)
  {B m d:Nat} {A':Oz} {l:Lz} (hx:a.eval x=.slice A' m d) (hr:Rd .u32 4294967296 w B A' m l) (Hu:n+m≤17592186044416) (Hy:base≤w.heap.size)
  (h:∀ A2 c2 w',Own .u32 4294967296 25 w' base A2 (n+m) c2 (L++l)→w.grownBy w' (Value.slice A n c).ownBlock→wpList prog ops Q rest (a.put o.dst (.slice A2 (n+m) c2)) w') :
  wpList prog ops Q (o::rest) a w:=by
 obtain⟨i0,hi,gE,Hn,gb⟩:=info_parts info36;rcases A' with _ | ad
 ·have hm:m=0:=by
   rcases Nat.eq_zero_or_pos m with h0 | h0
   ·exact h0
   ·obtain⟨_,_,e,_⟩:=hr.2.2 h0;cases e
  subst hm;have hl:l=[]:=yah hr.1;subst hl;refine wpList_plain jE fun K hK=>?_;have gw:(Builtin.append_ #[181,181] o.type #[.slice A n c,.slice none 0 d]).run prog w=.ok (.slice A n c) w:=by
   rcases Hf.2.1.2 with ⟨e,rfl⟩ | ⟨g,cap,cur,e,_,_,kz,_⟩
   ·injection e with e1 _ e3;subst e1;subst e3
    simp[Builtin.append_,run_underlying underlying181,sizeOf,typeInfo,hi,Builtin.lenOf,Builtin.firstCells]
   ·injection e with e1 _ e3;subst e1;subst e3
    simp[Builtin.append_,run_underlying underlying181,sizeOf,typeInfo,hi,Builtin.lenOf,Builtin.firstCells,kz,storeCells]
  unfold Oper.wp execOp;simp only[ho,resolve,invoke,builtin,Sem.run_bind,Sem.run_pure,Result.andThen_ok,List.map_toArray,List.map_cons,List.map_nil,hs,hx,gw];exact hK _ _ (h A c w (by simpa using Hf) (World.grownBy.refl w _))
 ·refine zgG (P:=prog) jE s x 181 ho i0 4 underlying181 hi gE (by omega) Hn gb hs Hf ad m d l hx hr.1 hr.2.1 ?_ (by unfold maxLen;omega) (by omega) Hy h
  ·intro j u hu;have hj:j < l.length:=by
    have:=(List.getElem?_eq_some_iff.1 hu).1
    rwa [zby] at this
   obtain⟨b,o',e,_,hc⟩:=hr.2.2 (by rw[←hr.1];omega);injection e with e
   subst e;rw[zo6 _ l j hj] at hu;injection hu with hu
   subst hu;have:=hc j hj;rw[←this];unfold Addr.add
   split
   ·rename_i h0;subst h0;rfl
   ·rfl
theorem zfq (w:World)(l:Lz)(n:Nat)(hn:l.length=n)(hl:∀ x∈l,x < 4294967296):Rd .u32 4294967296 (w.alloc (.cells (vs .u32 l).toArray 25)) (w.heap.size+1) (some ⟨w.heap.size,0,none⟩) n l:=by
 refine⟨hn,hl,fun _=>⟨w.heap.size,0,rfl,by omega,fun k hk=>?_⟩⟩;rw[World.cell?_alloc_at _ _ _ _ rfl];simp[vs,yai hk]
theorem elem22:prog.elem 22=5:=by kernel_rfl
theorem under22:prog.underlying 22=some (.slice (prog.elem 22)):=by rw[elem22];exact underlying22
theorem size5 (W:World):(sizeOf 5).run prog W=.ok 1 W:=by
 obtain⟨i0,hi,_,Hn,_⟩:=info_parts info5;simp[sizeOf,typeInfo,hi,Hn]
theorem zhf (A:Oz)(n c k t:Nat)(hkt:k+t≤n)(kz:n≤c):∃ A1 c1,t≤c1∧c1≤c ∧
  (∀ W:World,(Instr.slice 22 (.slice A n c) (some (.int .i64 k)) (some (.int .i64 (k+t))) none).run prog W=.ok (.slice A1 t c1) W)∧(∀ W:World,(Instr.sliceAt 22 (.slice A n c) (some (.int .i64 k)) (some (.int .i64 (k+t))) none).run prog W=.ok (.slice A1 t c1) W) ∧
  ∀ w B l,Rd .u8 256 w B A n l→Rd .u8 256 w B A1 t ((l.drop k).take t):=by
 have h1:∀ W:World,(Instr.slice 22 (.slice A n c) (some (.int .i64 k)) (some (.int .i64 (k+t))) none).run prog W=.ok (.slice (if c=k then A else A.map (·.add k)) t (c - k)) W:=fun W=>by
  rw[run_slice_lh (P:=prog) (w:=W) 22 A n c under22 .i64 .i64 (k:Int) (k+t:Int) (by omega) (by omega) (by omega),elem22,size5];have e1:((k:Int)+t).toNat - k=t:=by omega
  simp only[Result.andThen,sliced,e1,yat,yap]
 refine⟨_,_,?_,?_,h1,fun W=>?_,fun w B l hr=>?_⟩
 ·omega
 ·omega
 ·rw[run_sliceAt_slice (P:=prog) (w:=W) 22 _ _ _ _ under22];exact h1 W
 ·exact(hr.drop (c:=c) (k:=k) (by omega) kz).take (by omega)
theorem zb (A:Oz)(n c k:Nat)(hk:k≤n)(kz:n≤c):∃ A1 c1,n - k≤c1∧c1≤c ∧
  (∀ (W:World) (i:Int),i=k→(Instr.slice 22 (.slice A n c) (some (.int .i64 i)) none none).run prog W=.ok (.slice A1 (n - k) c1) W)∧(∀ (W:World) (i:Int),i=k→(Instr.sliceAt 22 (.slice A n c) (some (.int .i64 i)) none none).run prog W=.ok (.slice A1 (n - k) c1) W) ∧
  ∀ w B l,Rd .u8 256 w B A n l→Rd .u8 256 w B A1 (n - k) (l.drop k):=by
 have h1:∀ (W:World) (i:Int),i=k→(Instr.slice 22 (.slice A n c) (some (.int .i64 i)) none none).run prog W=.ok (.slice (if c=k then A else A.map (·.add k)) (n - k) (c - k)) W:=fun W i hi=>by
  subst hi;rw[run_slice_l (P:=prog) (w:=W) 22 A n c under22 .i64 (k:Int) (by omega) (by omega),elem22,size5];simp only[Result.andThen,sliced,yat,yap]
 refine⟨_,_,?_,?_,h1,fun W i hi=>?_,fun w B l hr=>hr.drop hk kz⟩
 ·omega
 ·omega
 ·rw[run_sliceAt_slice (P:=prog) (w:=W) 22 _ _ _ _ under22];exact h1 W i hi
theorem zr (A:Oz)(n c k:Nat)(hk:k≤n)(kz:n≤c) :
  (∀ (W:World) (i:Int),i=k→(Instr.slice 22 (.slice A n c) none (some (.int .i64 i)) none).run prog W=.ok (.slice A k c) W)∧(∀ (W:World) (i:Int),i=k→(Instr.sliceAt 22 (.slice A n c) none (some (.int .i64 i)) none).run prog W=.ok (.slice A k c) W):=by
 have h1:∀ (W:World) (i:Int),i=k→(Instr.slice 22 (.slice A n c) none (some (.int .i64 i)) none).run prog W=.ok (.slice A k c) W:=fun W i hi=>by
  subst hi;rw[run_slice_h (P:=prog) (w:=W) 22 A n c under22 .i64 (k:Int) (by omega) (by omega),elem22,size5];simp only[Result.andThen,sliced];cases A<;>simp[Addr.add]
 refine⟨h1,fun W i hi=>?_⟩;rw[run_sliceAt_slice (P:=prog) (w:=W) 22 _ _ _ _ under22];exact h1 W i hi
theorem under5:prog.underlying 5=some (.int .u8):=underlying5
theorem under9:prog.underlying 9=some .string:=underlying9
def sb (l:Lz):ByteArray:=⟨(l.map UInt8.ofNat).toArray⟩
theorem ztC {l m:Lz}(hl:∀ x∈l,x < 256)(hm:∀ x∈m,x < 256)(h:sb l=sb m):l=m:=by
 have h1:l.map UInt8.ofNat=m.map UInt8.ofNat:=by
  have:=congrArg (fun b=>b.data.toList) h
  simpa [sb] using this
 have h2:=congrArg (List.map UInt8.toNat) h1;rw[List.map_map,List.map_map] at h2;have back:∀ k:Lz,(∀ x∈k,x < 256)→k.map (UInt8.toNat ∘ UInt8.ofNat)=k:=fun k hk=>by
  conv=>rhs;rw[←List.map_id k]
  apply List.map_congr_left
  intro x hx;have:=hk x hx;simp;omega
 rw[back l hl,back m hm] at h2;exact h2
theorem zav {w:World}{B n:Nat}{A:Oz}{l:Lz}(c:Nat)(h:Rd .u8 256 w B A n l):(convert 22 9 (.slice A n c)).run prog w=.ok (.string (sb l)) w:=by
 rcases A with _ | ad
 ·have hn:n=0:=by
   rcases Nat.eq_zero_or_pos n with h0 | h0
   ·exact h0
   ·obtain⟨_,_,e,_⟩:=h.2.2 h0;cases e
  subst hn;have hl:l=[]:=yah h.1;subst hl;rw[run_convert_bytes_nil w 22 5 underlying22 under5 0 c 9 under9];rfl
 ·have jF:(loadCells ad n).run prog w=.ok ((l.map fun(c:Nat)=>(c:Int)).map (Value.int .u8)).toArray w:=by
   have hh:=run_loadCells_list (P:=prog) w ad ((l.map fun(c:Nat)=>(c:Int)).map (Value.int .u8)) (fun j v hj=>by
    have Vq:j < l.length:=by
     have:=(List.getElem?_eq_some_iff.1 hj).1
     simpa using this
    obtain⟨b,o',e,_,hc⟩:=h.2.2 (by rw[←h.1];omega);injection e with e
    subst e;have:=hc j Vq;simp[yai Vq] at hj;subst hj;rw[←this];unfold Addr.add
    split
    ·rename_i h0;subst h0;rfl
    ·rfl)
   rw[yak,yak,h.1] at hh;exact hh
  rw[run_convert_bytes_string w 22 9 5 (some ad) n c underlying22 under5 under9,run_bytesToString w ad n c _ jF,foldl_push_bytes];have e:(l.map fun(c:Nat)=>(c:Int)).map (fun n=>UInt8.ofNat n.toNat)=l.map UInt8.ofNat:=by
   rw[List.map_map]
   apply List.map_congr_left
   intro x _;simp
  rw[e];simp[sb]
def tab:Array Value:=#[.int .u32 127,.int .u8 0,.int .u8 127,.int .u32 2047,.int .u8 192,.int .u8 31,.int .u32 65535,.int .u8 224,.int .u8 15,.int .u32 1114111,.int .u8 240,.int .u8 7]
def Tab (w:World):Prop:=∃ t fr,w.heap[0]? = some (.cells tab t fr)
theorem Tab.pos {w:World}(h:Tab w):0 < w.heap.size:=by
 obtain⟨t,fr,h⟩:=h;exact(Array.getElem?_eq_some_iff.1 h).1
theorem Tab.below {w w':World}{B:Nat}(h:Tab w)(hb:Below B w w')(h0:0 < B):Tab w':=by
 obtain⟨t,fr,h⟩:=h;exact⟨t,fr,(hb.block 0 h0).trans h⟩
theorem Tab.call {w w':World}(h:Tab w)(hb:Below w.heap.size w w'):Tab w':=h.below hb h.pos
theorem Tab.cell {w:World}(h:Tab w)(k:Nat):w.cell? ⟨0,k,none⟩=tab[k]?:=by
 obtain⟨t,fr,h⟩:=h;exact cell_of_row w 0 k tab t fr h
end Utf
namespace Enc
open Go.RowKit Utf
def be (X:Nat):Nat→Lz
 | 0=>[]
 | k+1=>X / 256 ^ k % 256::be X k
theorem zaF (X:Nat):∀ k,(be X k).length=k
 | 0=>rfl
 | k+1=>by simp[be,zaF X k]
def zaY (base:Nat)(l:Lz)(w:World)(e:Ending)(w':World):Prop:=∃ A n c,e=.returned (.slice A n c)∧Own .u8 256 5 w' base A n c l∧Below base w w'
theorem zaY.mk {base n c:Nat}{A:Oz}{l l':Lz}{w w':World}{e:Ending}(he:e=.returned (.slice A n c))(hl:l'=l)(ho:Own .u8 256 5 w' base A n c l')(hb:Below base w w'):zaY base l w e w':=by
 subst hl;exact⟨A,n,c,he,ho,hb⟩
theorem pow256 (k:Nat):256 ^ k=2 ^ (8 * k):=by rw[show (256:Nat)=2 ^ 8 from rfl,←Nat.pow_mul]
theorem zo7 (X j:Nat):((X:Int) / 2 ^ (8 * j)) % 256=((X / 256 ^ j % 256:Nat):Int):=by
 rw[pow256];have h:((X:Int) / 2 ^ (8 * j))=((X / 2 ^ (8 * j):Nat):Int):=by simp
 rw[h];simp
theorem ztD (w:World)(z:Int)(b:Nat)(hb:b < 256)(h:z=(b:Int)):Rd .u8 256 (w.alloc (.cells #[.int .u8 z] 5)) (w.heap.size+1) (some ⟨w.heap.size,0,none⟩) 1 [b]:=by
 subst h;exact zjF w [b] 1 rfl (by intro x hx;simp at hx;omega)
theorem zo8 (k:Nat)(w:World)(hk:k≤70368744177664) :
  Calls prog 157 #[.slice none 0 0,.int .i64 k] w (zaY w.heap.size [] w):=by
 obtain⟨i0,hi,gE,Hn,gb⟩:=info_parts info5;have hr:Rd .u8 256 w w.heap.size none 0 []:=Rd.zero _ _ _ _ _;go_enter func157,ntmps157;go_wp2_with (first
  | (at_make;refine zgy (K:=.u8) (M:=256) w rfl _ _ 22 rfl w.heap.size i0 underlying22 hi gE (by omega) Hn .i64 .i64 (k:Int) k rfl rfl (by omega) (by rw[gb];omega) (by unfold maxLen;omega) zab ?_;intro w1 vT jZ;have Ha:Below w.heap.size w w1:=(Below.refl _ _).grown jZ zab (fun _ h=>by cases h);have Gc:=hr.below Ha;have gu:=Ha.size)
  | (at_builtin;refine zcd (l:=[]) (L:=[]) rfl _ _ rfl rfl vT rfl Gc (by omega) gu ?_;intro A2 c2 w2 GB Gu))
 go_ret;simp only[yaq,yas] at GB;exact zaY.mk rfl rfl GB (Ha.trans (zau vT Gu gu))
theorem zo9 (base:Nat)(A:Oz)(n c:Nat)(l:Lz)(X k:Nat)(w:World)(Hf:Own .u8 256 5 w base A n c l)(Hy:base≤w.heap.size)(hn:n≤1048576)(hk:k≤8) :
  Calls prog 156 #[.slice A n c,.int .u64 X,.int .i64 k] w (zaY base (l++be X k) w):=by
 go_enter func156,ntmps156;go_wp2;go_loopw [0,7] (fun b i wr=>∃ A' n' c' L j,j≤k∧n'+j=n+k∧b=.slice A' n' c'∧i=.int .i64 ((j:Int) - 1)∧Own .u8 256 5 wr base A' n' c' L∧L++be X j=l++be X k∧Below base w wr) (fun _ i _=>(intOf i+1).toNat)
 case atStart=>exact⟨A,n,c,l,k,zab,rfl,rfl,rfl,Hf,rfl,Below.refl _ _⟩
 case round=>
  obtain⟨A',n',c',L,j,hj,bK,rfl,rfl,ho,hL,hb⟩:=hrel;have HL:=zaa hL;have HN:=zaa bK;have k8:n'≤2097152:=by omega
  clear hL bK;by_cases xV:j=0
  ·subst xV;go_wp2;go_ret;exact zaY.mk rfl (by simpa [be] using HL.out) ho hb
  ·obtain⟨i,rfl⟩:∃ i,j=i+1:=⟨j - 1,by omega⟩;have hsb:=zo7 X i;have HS:=zaa hsb;clear hsb xV;have gu:=hb.size;go_wp2_with (at_builtin;refine zcd (l:=[X / 256 ^ i % 256]) (B:=wr.heap.size+1) rfl _ _ rfl rfl (ho.alloc _) rfl (ztD _ _ _ (Nat.mod_lt _ (by omega)) HS.out) (by omega) (by simp;omega) ?_;intro A2 c2 w2 GB Gu);go_roundw
   case rel=>
    have hN:=HN.out;refine⟨A2,n'+1,c2,_,i,by omega,by omega,rfl,?_,GB,?_,?_⟩
    ·congr 1
    ·rw[←HL.out,be,yan];rfl
    ·exact(hb.alloc (by omega) _).trans (zau (ho.alloc _) Gu (by simp;omega))
   case measure=>simp[intOf]
theorem zrE (X k:Nat)(hk:k≤8)(w:World):Calls prog 150 #[.slice none 0 0,.int .u64 X,.int .i64 k] w (zaY w.heap.size (be X k) w):=by
 go_enter func150,ntmps150;go_wp2_with fail;refine(zo8 k _ (by omega)).mono ?_;rintro e w1 ⟨A1,n1,c1,rfl,ho,hb⟩;go_wp2_with fail;refine(zo9 w.heap.size A1 n1 c1 [] X k w1 ho hb.size (by have:=ho.len;simp at this;omega) (by omega)).mono ?_;rintro e w2 ⟨A2,n2,c2,rfl,Gh,He⟩;go_wp2;go_ret;exact zaY.mk rfl (by simp) Gh (hb.trans He)
def sg1 (X:Nat):Nat:=if X % 256 < 128 then X % 256 else X % 256+18446744073709551360
theorem ztE (X:Nat):(IntKind.u64.wrap (wrap64 (IntKind.u64.wrap (X * 2 ^ 56)) / 2 ^ 56))=(sg1 X:Int):=by
 unfold wrap64;simp only[IntKind.wrap,IntKind.bits,IntKind.signed];unfold sg1;by_cases h:X % 256 < 128
 ·rw[if_pos h];simp;omega
 ·rw[if_neg h];simp;omega
theorem zrF (X:Nat)(w:World) :
  Calls prog 90 #[.int .u64 X,.int .i64 1] w fun e w'=>e=.returned (.int .u64 (sg1 X:Nat))∧w'=w:=by
 have E:=zaa (ztE X);go_enter func90,ntmps90;go_wp2;go_ret;exact⟨congrArg (fun z=>Ending.returned (.int .u64 z)) E.out,rfl⟩
def wid (c:Nat):Nat:=if c / 16=4 then 0 else if c / 16 < 10 then 2 ^ (c / 16 - 5) else if c / 16 % 2=0 then 1 else 4
theorem zh8 (c:Nat)(h1:64≤c)(h2:c < 256)(w:World):Calls prog 126 #[.int .u8 c] w fun e w'=>e=.returned (.int .i64 (wid c:Nat))∧w'=w:=by
 have hd:((c:Int) / 16)=((c / 16:Nat):Int):=by omega
 obtain⟨d,gI⟩:∃ d,d=c / 16:=⟨_,rfl⟩;have hw:wid c=if d=4 then 0 else if d < 10 then 2 ^ (d - 5) else if d % 2=0 then 1 else 4:=by rw[gI];rfl
 have hr:4≤d∧d < 16:=by omega
 rw[hw];rw[←gI] at hd;clear hw gI;obtain⟨Gc,qG⟩:=hr;have:d=4∨d=5∨d=6∨d=7∨d=8∨d=9∨d=10∨d=11∨d=12∨d=13∨d=14∨d=15:=by omega
 clear Gc qG h1 h2;rcases this with rfl | rfl | rfl | rfl | rfl | rfl | rfl | rfl | rfl | rfl | rfl | rfl
 all_goals
  go_enter func126,ntmps126;go_wp2;go_ret;exact⟨rfl,rfl⟩
end Enc
namespace Val
inductive V where
 | mk (k n:Nat) (t:ByteArray) (kids:List V)
namespace V
def kind:V→Nat | .mk k _ _ _=>k
def num:V→Nat | .mk _ n _ _=>n
def text:V→ByteArray | .mk _ _ t _=>t
def kids:V→List V | .mk _ _ _ ks=>ks
theorem eta (v:V):v=.mk v.kind v.num v.text v.kids:=by cases v;rfl
mutual
def items:V→Nat
 | .mk _ _ _ ks=>zah ks+1
def zah:List V→Nat
 | []=>0
 | v::vs=>items v+zah vs
end
mutual
def depth:V→Nat
 | .mk _ _ _ ks=>zas ks+1
def zas:List V→Nat
 | []=>0
 | v::vs=>max (depth v) (zas vs)
end
mutual
def bulk:V→Nat
 | .mk _ _ t ks=>zai ks+t.size+1
def zai:List V→Nat
 | []=>0
 | v::vs=>bulk v+zai vs
end
mutual
def same:V→V→Bool
 | .mk k n t ks,.mk k' n' t' ks'=>k==k'&&n==n'&&t.data.toList==t'.data.toList&&zbZ ks ks'
def zbZ:List V→List V→Bool
 | [],[]=>true
 | a::ar,b::bs=>same a b&&zbZ ar bs
 | _,_=>false
end
theorem zmo {s t:ByteArray}:s.data.toList=t.data.toList↔s=t:=
 ⟨fun h=>by cases s;cases t;simp at h;simp[h],fun h=>by rw[h]⟩
mutual
theorem zcB:∀ a b:V,same a b=true↔a=b
 | .mk k n t ks,.mk k' n' t' ks'=>by simp only[same,yab,beq_iff_eq,zfO ks ks',zmo,V.mk.injEq,and_assoc]
theorem zfO:∀ a b:List V,zbZ a b=true↔a=b
 | [],[]=>by simp[zbZ]
 | [],_::_=>by simp[zbZ]
 | _::_,[]=>by simp[zbZ]
 | a::ar,b::bs=>by simp[zbZ,zcB a b,zfO ar bs]
end
theorem zeb (a:V):same a a=true:=(zcB a a).2 rfl
theorem zcH {a b:V}(h:a≠b):same a b=false:=by
 cases hs:same a b with
 | false=>rfl
 | true=>exact absurd ((zcB a b).1 hs) h
instance:DecidableEq V:=fun a b=>if h:same a b=true then isTrue ((zcB a b).1 h) else isFalse fun e=>h ((zcB a b).2 e)
theorem zmp (v:V):0 < items v:=by cases v;simp[items]
theorem zec (v:V):0 < depth v:=by cases v;simp[depth]
theorem zbz (v:V):0 < bulk v:=by cases v;simp[bulk]
theorem zed (a b:List V):zah (a++b)=zah a+zah b:=by
 induction a with
 | nil=>simp[zah]
 | cons x a ih=>simp[zah,ih];omega
theorem zee (a b:List V):zas (a++b)=max (zas a) (zas b):=by
 induction a with
 | nil=>simp[zas]
 | cons x a ih=>simp[zas,ih]
theorem zh9 (a b:List V):zai (a++b)=zai a+zai b:=by
 induction a with
 | nil=>simp[zai]
 | cons x a ih=>simp[zai,ih];omega
mutual
theorem zp:∀ v:V,items v≤bulk v
 | .mk _ _ t ks=>by have:=zbU ks;simp only[items,bulk];omega
theorem zbU:∀ l:List V,zah l≤zai l
 | []=>by simp[zah,zai]
 | v::vs=>by have:=zp v;have:=zbU vs;simp only[zah,zai];omega
end
mutual
theorem zpa:∀ v:V,depth v≤items v
 | .mk _ _ t ks=>by have:=zef ks;simp only[items,depth];omega
theorem zef:∀ l:List V,zas l≤zah l
 | []=>by simp[zah,zas]
 | v::vs=>by have:=zpa v;have:=zef vs;simp only[zah,zas];omega
end
theorem length_le (l:List V):l.length≤zah l:=by
 induction l with
 | nil=>simp[zah]
 | cons x l ih=>have:=zmp x;simp[zah];omega
theorem za0 (l:List V):l.length≤zai l:=yad (length_le l) (zbU l)
theorem zkk {v:V}{l:List V}(h:v∈l):bulk v≤zai l:=by
 induction l with
 | nil=>cases h
 | cons x l ih=>
  rcases List.mem_cons.1 h with rfl | h
  ·simp[zai]
  ·have:=ih h;simp[zai];omega
theorem zcT {v:V}{l:List V}{i:Nat}(h:l[i]? = some v):bulk v≤zai l:=zkk (List.mem_of_getElem? h)
theorem zfP (v:V):zai v.kids < bulk v:=by cases v;simp[kids,bulk];omega
theorem zi (v:V):v.text.size < bulk v:=by cases v;simp[text,bulk];omega
theorem zbI {l:List V}{i:Nat}{v:V}(h:l[i]? = some v):l.take (i+1)=l.take i++[v]:=by
 rw[List.take_add_one,h];rfl
theorem zbB {l:List V}{i:Nat}{v:V}(h:l[i]? = some v):l.drop i=v::l.drop (i+1):=by
 obtain⟨hi,rfl⟩:=List.getElem?_eq_some_iff.1 h;exact List.drop_eq_getElem_cons hi
theorem zdS {l:List V}{i:Nat}{v:V}(h:l[i]? = some v):zah (l.take (i+1))=zah (l.take i)+items v:=by
 rw[zbI h,zed];simp[zah]
theorem zdT {l:List V}{i:Nat}{v:V}(h:l[i]? = some v):zas (l.take (i+1))=max (zas (l.take i)) (depth v):=by
 rw[zbI h,zee];simp[zas]
theorem zbQ (l:List V)(i:Nat):zah (l.take i)≤zah l:=by
 have:=zed (l.take i) (l.drop i);rw[yam] at this;omega
theorem zbl (l:List V)(i:Nat):zas (l.take i)≤zas l:=by
 have:=zee (l.take i) (l.drop i);rw[yam] at this;omega
end V
end Val
namespace Val
open Go.RowKit Utf V
theorem zdb:(prog.info? 43).map (fun i=>(i.zero,i.size,i.bytes))=some (some (.agg #[.int .u8 0,.int .u64 0,.string ⟨#[]⟩,.slice none 0 0]),4,56):=by kernel_rfl
mutual
def RepV (own:Bool)(w:World)(P:Nat→Prop):V→Nat→Nat→Prop
 | .mk k n t ks,b,o=>∃ A l c,w.cell? ⟨b,o,none⟩=some (.int .u8 (k:Int))∧w.cell? ⟨b,o+1,none⟩=some (.int .u64 (n:Int))∧w.cell? ⟨b,o+2,none⟩=some (.string t)∧w.cell? ⟨b,o+3,none⟩=some (.slice A l c) ∧
   k < 256∧n < 18446744073709551616∧l=ks.length∧l≤c∧(0 < l→∃ b' o',A=some ⟨b',o',none⟩∧P b'∧(own=true→∃ C,w.heap[b']? = some (.cells C 43 (0,0)))∧RowL own w P ks b' o')
def RowL (own:Bool)(w:World)(P:Nat→Prop):List V→Nat→Nat→Prop
 | [],_,_=>True
 | v::vs,b,o=>RepV own w P v b o∧RowL own w P vs b (o+4)
end
def Kids (own:Bool)(w:World)(P:Nat→Prop)(ks:List V)(A:Oz)(l c:Nat):Prop:=
 l=ks.length∧l≤c∧(0 < l→∃ b' o',A=some ⟨b',o',none⟩∧P b'∧(own=true→∃ C,w.heap[b']? = some (.cells C 43 (0,0)))∧RowL own w P ks b' o')
theorem zbd {own:Bool}{w:World}{P:Nat→Prop}{k n:Nat}{t:ByteArray}{ks:List V}{b o:Nat}:RepV own w P (.mk k n t ks) b o ↔
  ∃ A l c,w.cell? ⟨b,o,none⟩=some (.int .u8 (k:Int))∧w.cell? ⟨b,o+1,none⟩=some (.int .u64 (n:Int))∧w.cell? ⟨b,o+2,none⟩=some (.string t)∧w.cell? ⟨b,o+3,none⟩=some (.slice A l c) ∧
   k < 256∧n < 18446744073709551616∧Kids own w P ks A l c:=by
 simp only[RepV,Kids]
theorem zjG {own:Bool}{w:World}{P:Nat→Prop}:∀ {ks:List V} {b o i:Nat} {v:V},RowL own w P ks b o→ks[i]? = some v→RepV own w P v b (o+i * 4)
 | [],_,_,_,_,_,h=>by simp at h
 | x::ks,b,o,0,v,hr,h=>by
  simp at h;subst h
  simpa using hr.1
 | x::ks,b,o,i+1,v,hr,h=>by
  have:=zjG (i:=i) hr.2 (by simpa using h)
  rwa [show o+(i+1) * 4=o+4+i * 4 by omega]
theorem zmq {own:Bool}{w:World}{P:Nat→Prop}:∀ {ks:List V} {b o:Nat},(∀ i v,ks[i]? = some v→RepV own w P v b (o+i * 4))→RowL own w P ks b o
 | [],_,_,_=>trivial
 | x::ks,b,o,h=>⟨by simpa using h 0 x rfl,zmq fun i v hi=>by
  have:=h (i+1) v (by simpa using hi)
  rwa [show o+(i+1) * 4=o+4+i * 4 by omega] at this⟩
mutual
theorem RepV.keep {own:Bool}{w w':World}{P:Nat→Prop}(hk:∀ i,P i→w'.heap[i]? = w.heap[i]?):∀ {v:V} {b o:Nat},(∀ j,j < 4→w'.cell? ⟨b,o+j,none⟩=w.cell? ⟨b,o+j,none⟩)→RepV own w P v b o→RepV own w' P v b o
 | .mk _ _ _ _,_,_,hb,h=>by
  obtain⟨A,l,c,h0,h1,h2,h3,Gn,hn,hl,xW,hr⟩:=h;refine⟨A,l,c,(hb 0 (by omega)).trans h0,(hb 1 (by omega)).trans h1,(hb 2 (by omega)).trans h2,(hb 3 (by omega)).trans h3,Gn,hn,hl,xW,fun h=>?_⟩;obtain⟨b',o',e,hP,ho,Hr⟩:=hr h;exact⟨b',o',e,hP,fun h=>by rw[hk b' hP];exact ho h,Hr.keep hk hP⟩
theorem RowL.keep {own:Bool}{w w':World}{P:Nat→Prop}(hk:∀ i,P i→w'.heap[i]? = w.heap[i]?):∀ {ks:List V} {b o:Nat},P b→RowL own w P ks b o→RowL own w' P ks b o
 | [],_,_,_,_=>trivial
 | _::_,b,_,hP,h=>⟨RepV.keep hk (fun _ _=>World.cell?_of_block (hk b hP)) h.1,RowL.keep hk hP h.2⟩
end
mutual
theorem RepV.mono {own:Bool}{w:World}{P P':Nat→Prop}(hk:∀ i,P i→P' i):∀ {v:V} {b o:Nat},RepV own w P v b o→RepV own w P' v b o
 | .mk _ _ _ _,_,_,h=>by
  obtain⟨A,l,c,h0,h1,h2,h3,Gn,hn,hl,xW,hr⟩:=h;refine⟨A,l,c,h0,h1,h2,h3,Gn,hn,hl,xW,fun h=>?_⟩;obtain⟨b',o',e,hP,ho,Hr⟩:=hr h;exact⟨b',o',e,hk _ hP,ho,Hr.mono hk⟩
theorem RowL.mono {own:Bool}{w:World}{P P':Nat→Prop}(hk:∀ i,P i→P' i):∀ {ks:List V} {b o:Nat},RowL own w P ks b o→RowL own w P' ks b o
 | [],_,_,_=>trivial
 | _::_,_,_,h=>⟨h.1.mono hk,h.2.mono hk⟩
end
mutual
theorem RepV.weak {own:Bool}{w:World}{P:Nat→Prop}:∀ {v:V} {b o:Nat},RepV own w P v b o→RepV false w P v b o
 | .mk _ _ _ _,_,_,h=>by
  obtain⟨A,l,c,h0,h1,h2,h3,Gn,hn,hl,xW,hr⟩:=h;refine⟨A,l,c,h0,h1,h2,h3,Gn,hn,hl,xW,fun h=>?_⟩;obtain⟨b',o',e,hP,ho,Hr⟩:=hr h;exact⟨b',o',e,hP,fun h=>(by cases h),Hr.weak⟩
theorem RowL.weak {own:Bool}{w:World}{P:Nat→Prop}:∀ {ks:List V} {b o:Nat},RowL own w P ks b o→RowL false w P ks b o
 | [],_,_,_=>trivial
 | _::_,_,_,h=>⟨h.1.weak,h.2.weak⟩
end
section
variable {own:Bool} {w w':World} {P P':Nat→Prop} {ks:List V} {A:Oz} {l c:Nat}
theorem Kids.len (h:Kids own w P ks A l c):l=ks.length:=h.1
theorem Kids.cap (h:Kids own w P ks A l c):l≤c:=h.2.1
theorem Kids.none_ (own:Bool)(w:World)(P:Nat→Prop)(A:Oz)(c:Nat):Kids own w P [] A 0 c:=⟨rfl,Nat.zero_le _,fun h=>absurd h (by omega)⟩
theorem Kids.keep (h:Kids own w P ks A l c)(hk:∀ i,P i→w'.heap[i]? = w.heap[i]?):Kids own w' P ks A l c:=
 ⟨h.1,h.2.1,fun hl=>by
  obtain⟨b',o',e,hP,ho,Hr⟩:=h.2.2 hl;exact⟨b',o',e,hP,fun h=>by rw[hk b' hP];exact ho h,Hr.keep hk hP⟩⟩
theorem Kids.mono (h:Kids own w P ks A l c)(hk:∀ i,P i→P' i):Kids own w P' ks A l c:=
 ⟨h.1,h.2.1,fun hl=>by
  obtain⟨b',o',e,hP,ho,Hr⟩:=h.2.2 hl;exact⟨b',o',e,hk _ hP,ho,Hr.mono hk⟩⟩
theorem Kids.weak (h:Kids own w P ks A l c):Kids false w P ks A l c:=
 ⟨h.1,h.2.1,fun hl=>by
  obtain⟨b',o',e,hP,ho,Hr⟩:=h.2.2 hl;exact⟨b',o',e,hP,fun h=>(by cases h),Hr.weak⟩⟩
theorem Kids.at_ (h:Kids own w P ks A l c){i:Nat}(hi:i < l):∃ b o k n t ks' A' l' c',A=some ⟨b,o,none⟩∧P b∧ks[i]? = some (.mk k n t ks') ∧
  w.cell? ⟨b,o+i * 4,none⟩=some (.int .u8 (k:Int))∧w.cell? ⟨b,o+i * 4+1,none⟩=some (.int .u64 (n:Int))∧w.cell? ⟨b,o+i * 4+2,none⟩=some (.string t)∧w.cell? ⟨b,o+i * 4+3,none⟩=some (.slice A' l' c') ∧
  k < 256∧n < 18446744073709551616∧Kids own w P ks' A' l' c':=by
 obtain⟨b,o,e,hP,_,Hr⟩:=h.2.2 (by omega);have Qb:i < ks.length:=by rw[←h.1];exact hi
 have hx:ks[i]? = some ks[i]:=yai Qb;have hr:=zjG Hr hx;cases hv:ks[i] with
 | mk k n t ks'=>
  rw[hv] at hx hr;obtain⟨A',l',c',h0,h1,h2,h3,Gn,hn,hK⟩:=zbd.1 hr;exact⟨b,o,k,n,t,ks',A',l',c',e,hP,hx,h0,h1,h2,h3,Gn,hn,hK⟩
end
theorem below_drewN {B:Nat}{a w:World}(h:Below B a w)(n:Nat):Below B a (w.drewN n):=⟨h.os,h.tape,h.output,h.size,h.block⟩
def Kd (w:World)(ks:List V)(A:Oz)(l c:Nat):Prop:=Kids false w (fun i=>i < w.heap.size) ks A l c
def Nw (B:Nat)(w:World)(ks:List V)(A:Oz)(l c:Nat):Prop:=Kids true w (fun i=>B≤i∧i < w.heap.size) ks A l c
section
variable {w w':World} {B B':Nat} {ks:List V} {A:Oz} {l c:Nat}
theorem Kd.len (h:Kd w ks A l c):l=ks.length:=h.1
theorem Kd.cap (h:Kd w ks A l c):l≤c:=h.2.1
theorem Kd.none_ (w:World)(A:Oz)(c:Nat):Kd w [] A 0 c:=Kids.none_ _ _ _ _ _
theorem Kd.at_ (h:Kd w ks A l c){i:Nat}(hi:i < l):∃ b o k n t ks' A' l' c',A=some ⟨b,o,none⟩∧b < w.heap.size∧ks[i]? = some (.mk k n t ks') ∧
  w.cell? ⟨b,o+i * 4,none⟩=some (.int .u8 (k:Int))∧w.cell? ⟨b,o+i * 4+1,none⟩=some (.int .u64 (n:Int))∧w.cell? ⟨b,o+i * 4+2,none⟩=some (.string t)∧w.cell? ⟨b,o+i * 4+3,none⟩=some (.slice A' l' c') ∧
  k < 256∧n < 18446744073709551616∧Kd w ks' A' l' c':=Kids.at_ h hi
theorem Kd.call (h:Kd w ks A l c)(hb:Below w.heap.size w w'):Kd w' ks A l c:=(h.keep fun i hi=>hb.block i hi).mono fun _ hi=>yaa hi hb.size
theorem Kd.alloc (h:Kd w ks A l c)(o:Obj):Kd (w.alloc o) ks A l c:=h.call ((za _ _))
theorem Kd.drew (h:Kd w ks A l c):Kd w.drew ks A l c:=h.call ((Below.refl _ _).drew)
theorem Nw.kd (h:Nw B w ks A l c):Kd w ks A l c:=h.weak.mono fun _ hi=>hi.2
theorem Nw.len (h:Nw B w ks A l c):l=ks.length:=h.1
theorem Nw.call (h:Nw B w ks A l c)(hb:Below w.heap.size w w'):Nw B w' ks A l c:=(h.keep fun i hi=>hb.block i hi.2).mono fun _ hi=>⟨hi.1,yaa hi.2 hb.size⟩
theorem Nw.less (h:Nw B w ks A l c)(hB:B'≤B):Nw B' w ks A l c:=h.mono fun _ hi=>⟨yad hB hi.1,hi.2⟩
end
theorem zaQ {wr w':World}{b o:Nat}{v:Value}(h:wr.cell? ⟨b,o,none⟩=some v)(hb:Below wr.heap.size wr w')(Hi:b < wr.heap.size):w'.cell? ⟨b,o,none⟩=some v:=(hb.cell (p:=⟨b,o,none⟩) Hi).trans h
theorem zjH {k:IntKind}{a b:Int}(h:a=b):Ending.returned (.int k a)=.returned (.int k b):=by rw[h]
theorem zad {w wr w':World}(hb:Below w.heap.size w wr)(h:Below wr.heap.size wr w'):Below w.heap.size w w':=hb.trans (h.mono hb.size)
theorem zlt (N:Nat):∀ (k n:Nat) (t:ByteArray) (ks:List V) (A:Oz) (l c:Nat) (w:World),zai ks≤N→N≤1099511627776→Kd w ks A l c →
  Calls prog 72 #[.agg #[.int .u8 k,.int .u64 n,.string t,.slice A l c]] w fun e w'=>e=.returned (.int .i64 ((zah ks+1:Nat):Int))∧Below w.heap.size w w':=by
 induction N using Nat.strongRecOn with
 | ind N ih=>
 intro k n t ks A l c w hN k9 hK;have jv:l≤ks.length:=Nat.le_of_eq hK.len;have JC:ks.length≤l:=Nat.le_of_eq hK.len.symm;have Jb:=za0 ks;have Qb:=zbU ks;have IH:=zaa ih;clear ih;go_enter func72,ntmps72;go_wp2;go_loopw [3,4] (fun m i wr=>∃ j:Nat,j≤l∧i=.int .i64 j∧m=.int .i64 ((zah (ks.take j)+1:Nat):Int)∧wr.cell? ⟨w.heap.size,3,none⟩=some (.slice A l c)∧w.heap.size < wr.heap.size∧Below w.heap.size w wr) (fun _ i _=>l - (intOf i).toNat)
 case atStart=>
  exact⟨0,Nat.zero_le _,rfl,rfl,by simp,by simp,(za _ _)⟩
 case round=>
  obtain⟨j,hj,rfl,rfl,hc,Hu,hb⟩:=hrel;by_cases Hi:j < l
  ·have kE:=hK.call hb;obtain⟨b,o,k',n',t',ks',A',l',c',rfl,j0,hx,h0,h1,h2,h3,_,_,gV⟩:=kE.at_ Hi;have GY:=zcT hx;simp only[bulk] at GY;have HT:=zaa (zdS hx);have Qx:=zbQ ks (j+1);have VP:zah (ks.take j)+zah ks'+1≤zah ks:=by have:=HT.out;simp only[items] at this;omega
   clear hx;go_wp2_with fail;refine(IH.out (zai ks') (by omega) k' n' t' ks' A' l' c' wr zab (by omega) gV).mono ?_;rintro e w2 ⟨rfl,He⟩;have gY:=zaQ hc He Hu;have Hj:=zad hb He;have Gw:=He.size;go_wp2;go_roundw
   case rel=>exact⟨j+1,by omega,by go_num,by rw[HT.out];simp only[items];go_num,gY,by omega,Hj⟩
   case measure=>simp[intOf];omega
  ·have HE:Hid (ks.take j=ks):=zaa (yae (by omega));go_wp2;go_ret;exact⟨by rw[HE.out];rfl,hb⟩
theorem zlu (N:Nat):∀ (k n:Nat) (t:ByteArray) (ks:List V) (A:Oz) (l c:Nat) (w:World),zai ks≤N→N≤1099511627776→Kd w ks A l c →
  Calls prog 73 #[.agg #[.int .u8 k,.int .u64 n,.string t,.slice A l c]] w fun e w'=>e=.returned (.int .i64 ((zas ks+1:Nat):Int))∧Below w.heap.size w w':=by
 induction N using Nat.strongRecOn with
 | ind N ih=>
 intro k n t ks A l c w hN k9 hK;have jv:l≤ks.length:=Nat.le_of_eq hK.len;have JC:ks.length≤l:=Nat.le_of_eq hK.len.symm;have Jb:=za0 ks;have Qb:=zbU ks;have Jc:=zef ks;have IH:=zaa ih;clear ih;go_enter func73,ntmps73;go_wp2;go_loopw [3,4] (fun m i wr=>∃ j:Nat,j≤l∧i=.int .i64 j∧m=.int .i64 ((zas (ks.take j):Nat):Int)∧wr.cell? ⟨w.heap.size,3,none⟩=some (.slice A l c)∧w.heap.size < wr.heap.size∧Below w.heap.size w wr) (fun _ i _=>l - (intOf i).toNat)
 case atStart=>
  exact⟨0,Nat.zero_le _,rfl,rfl,by simp,by simp,(za _ _)⟩
 case round=>
  obtain⟨j,hj,rfl,rfl,hc,Hu,hb⟩:=hrel;by_cases Hi:j < l
  ·have kE:=hK.call hb;obtain⟨b,o,k',n',t',ks',A',l',c',rfl,j0,hx,h0,h1,h2,h3,_,_,gV⟩:=kE.at_ Hi;have GY:=zcT hx;simp only[bulk] at GY;have HT:=zaa (zdT hx);have Qx:=zbl ks (j+1);have VP:zas ks'+1≤zas ks:=by have:=HT.out;simp only[depth] at this;omega
   have htl3:=zbl ks j;clear hx;go_wp2_with fail;refine(IH.out (zai ks') (by omega) k' n' t' ks' A' l' c' wr zab (by omega) gV).mono ?_;rintro e w2 ⟨rfl,He⟩;have gY:=zaQ hc He Hu;have Hj:=zad hb He;have Gw:=He.size;go_wp2;go_roundw
   case rel=>exact⟨j+1,by omega,by go_num,by rw[HT.out];simp only[depth];go_num,gY,by omega,Hj⟩
   case measure=>simp[intOf];omega
  ·have HE:Hid (ks.take j=ks):=zaa (yae (by omega));have hq:zas (ks.take j)≤1099511627776:=by have:=zbl ks j;omega
   go_wp2;go_ret;exact⟨zjH (by rw[HE.out];omega),hb⟩
theorem zdc {s t:ByteArray}(h:s.toList=t.toList):s=t:=by
 obtain⟨⟨a⟩⟩:=s;obtain⟨⟨b⟩⟩:=t
 simpa using h
def zaj (p:Bool)(w:World)(e:Ending)(w':World):Prop:=e=.returned (.bool p)∧Below w.heap.size w w'
theorem zia (N:Nat):∀ (k n:Nat) (t:ByteArray) (ks:List V) (A:Oz) (l c:Nat) (k' n':Nat) (t':ByteArray) (ks':List V) (A':Oz) (l' c':Nat) (w:World),zai ks≤N→N≤1099511627776 →
  k < 256→k' < 256→n < 18446744073709551616→n' < 18446744073709551616→Kd w ks A l c→Kd w ks' A' l' c' →
  Calls prog 119 #[.agg #[.int .u8 k,.int .u64 n,.string t,.slice A l c],.agg #[.int .u8 k',.int .u64 n',.string t',.slice A' l' c']] w (zaj (same (.mk k n t ks) (.mk k' n' t' ks')) w):=by
 induction N using Nat.strongRecOn with
 | ind N ih=>
 intro k n t ks A l c k' n' t' ks' A' l' c' w hN k9 hk Gn hn k8 hK gV;have jv:l≤ks.length:=Nat.le_of_eq hK.len;have JC:ks.length≤l:=Nat.le_of_eq hK.len.symm;have Gp:l'≤ks'.length:=Nat.le_of_eq gV.len;have GP:ks'.length≤l':=Nat.le_of_eq gV.len.symm;have Jb:=za0 ks;have IH:=zaa ih;clear ih;by_cases e1:k=k'
 ·subst e1;by_cases e2:n=n'
  ·subst e2;by_cases e3:t=t'
   ·subst e3;by_cases e4:l=l'
    ·subst e4;go_enter func119,ntmps119;go_wp2;go_loopw [5] (fun i wr=>∃ j:Nat,j≤l∧i=.int .i64 j∧zbZ ks ks'=zbZ (ks.drop j) (ks'.drop j)∧wr.cell? ⟨w.heap.size,3,none⟩=some (.slice A l c)∧wr.cell? ⟨w.heap.size+1,3,none⟩=some (.slice A' l c')∧w.heap.size+1 < wr.heap.size∧Below w.heap.size w wr) (fun i _=>l - (intOf i).toNat)
     case atStart=>exact⟨0,Nat.zero_le _,rfl,rfl,by simp,by simp,by simp,((za _ _)).alloc (by simp) _⟩
     case round=>
      obtain⟨j,hj,rfl,hs,hc,xX,Hu,hb⟩:=hrel;by_cases Hi:j < l
      ·obtain⟨b,o,k1,n1,t1,ks1,A1,l1,c1,rfl,Ha,hx,h0,h1,h2,h3,gF,Gm,kK⟩:=(hK.call hb).at_ Hi;obtain⟨b',o',k2,n2,t2,ks2,A2,l2,c2,rfl,He,jm,qh,YD,xY,YE,gR,Kk,kE⟩:=(gV.call hb).at_ Hi;have GY:=zcT hx;simp only[bulk] at GY;rw[zbB hx,zbB jm,zbZ] at hs;have HS:=zaa hs;clear hx jm hs;have V7:(j:Int) < (l:Int):=by omega
       go_wp2_with fail;go_still_tail 10,(by kernel_rfl);go_wp2_with fail;refine(IH.out (zai ks1) (by omega) k1 n1 t1 ks1 A1 l1 c1 k2 n2 t2 ks2 A2 l2 c2 wr.drew zab (by omega) gF gR Gm Kk kK.drew kE.drew).mono ?_;rintro e w2 ⟨rfl,gl⟩;have gY:=zaQ (wr:=wr.drew) hc gl (by simp;omega);have XN:=zaQ (wr:=wr.drew) xX gl (by simp;omega);have Hj:=zad (wr:=wr.drew) hb.drew gl;have Gw:wr.heap.size≤w2.heap.size:=gl.size;cases hq:same (.mk k1 n1 t1 ks1) (.mk k2 n2 t2 ks2) with
       | true=>
        rw[hq,Bool.true_and] at HS;clear hq;go_wp2;go_roundw
        case rel=>exact⟨j+1,by omega,by go_num,HS.out,gY,XN,by omega,Hj⟩
        case measure=>simp[intOf];omega
       | false=>
        rw[hq,Bool.false_and] at HS;clear hq;go_wp2;go_ret;exact⟨by simp only[same,HS.out,Bool.and_false];rfl,Hj⟩
      ·have HE:Hid (zbZ ks ks'=true):=zaa (by rw[hs,List.drop_of_length_le (by omega),List.drop_of_length_le (by omega)];rfl);clear hs;go_wp2;go_ret;exact⟨by simp only[same,HE.out,beq_self_eq_true,Bool.and_self];rfl,hb⟩
    ·have hB:=zaa (zcH (a:=.mk k n t ks) (b:=.mk k n t ks') (fun h=>e4 (by injection h with _ _ _ h;rw[hK.len,gV.len,h])));have hd:((l:Int) != (l':Int))=true:=by rw[bne_iff_ne];omega
     go_enter func119,ntmps119;go_wp2;go_ret;exact⟨by rw[hB.out];rfl,((za _ _)).alloc (by simp) _⟩
   ·have hB:=zaa (zcH (a:=.mk k n t ks) (b:=.mk k n t' ks') (fun h=>e3 (by injection h)));have hd:¬ t.toList=t'.toList:=fun h=>e3 (zdc h);go_enter func119,ntmps119;go_wp2;go_ret;exact⟨by rw[hB.out];rfl,((za _ _)).alloc (by simp) _⟩
  ·have hB:=zaa (zcH (a:=.mk k n t ks) (b:=.mk k n' t' ks') (fun h=>e2 (by injection h)));have hd:((n:Int) != (n':Int))=true:=by rw[bne_iff_ne];omega
   go_enter func119,ntmps119;go_wp2;go_ret;exact⟨by rw[hB.out];rfl,((za _ _)).alloc (by simp) _⟩
 ·have hB:=zaa (zcH (a:=.mk k n t ks) (b:=.mk k' n' t' ks') (fun h=>e1 (by injection h)));have hd:((k:Int) != (k':Int))=true:=by rw[bne_iff_ne];omega
  go_enter func119,ntmps119;go_wp2;go_ret;exact⟨by rw[hB.out];rfl,((za _ _)).alloc (by simp) _⟩
def zce (k k' n n':Nat)(t t':ByteArray)(l l':Nat):Bool:=k==k'&&n==n'&&t.data.toList==t'.data.toList&&l==l'
theorem zeg {k k' n n':Nat}{t t':ByteArray}{l l':Nat}(h:¬ (k=k'∧n=n'∧t=t'∧l=l')):zce k k' n n' t t' l l'=false:=by
 cases hb:zce k k' n n' t t' l l' with
 | false=>rfl
 | true=>
  simp only[zce,yab,beq_iff_eq,zmo] at hb;exact absurd ⟨hb.1.1.1,hb.1.1.2,hb.1.2,hb.2⟩ h
theorem zlv (k n:Nat)(t:ByteArray)(l:Nat):zce k k n n t t l l=true:=by simp[zce]
theorem zgH {k k' n n':Nat}{t t':ByteArray}{l l':Nat}(h:zce k k' n n' t t' l l'=true):k=k'∧n=n'∧t=t'∧l=l':=by
 simp only[zce,yab,beq_iff_eq,zmo] at h;exact⟨h.1.1.1,h.1.1.2,h.1.2,h.2⟩
theorem zaw (w:World)(o o':Obj):Below w.heap.size w ((w.alloc o).alloc o'):=((za _ _)).alloc (by simp) _
theorem zeh (k n:Nat)(t:ByteArray)(A:Oz)(l c:Nat)(k' n':Nat)(t':ByteArray)(A':Oz)(l' c':Nat)(w:World) :
  Calls prog 66 #[.agg #[.int .u8 k,.int .u64 n,.string t,.slice A l c],.agg #[.int .u8 k',.int .u64 n',.string t',.slice A' l' c']] w (zaj (zce k k' n n' t t' l l') w):=by
 by_cases e1:k=k'
 ·subst e1;by_cases e2:n=n'
  ·subst e2;by_cases e3:t=t'
   ·subst e3;by_cases e4:l=l'
    ·subst e4;have hB:=zaa (zlv k n t l);go_enter func66,ntmps66;go_wp2;go_ret;exact⟨by rw[hB.out];rfl,zaw _ _ _⟩
    ·have hB:=zaa (zeg (k:=k) (k':=k) (n:=n) (n':=n) (t:=t) (t':=t) (fun h=>e4 h.2.2.2));have hd:((l:Int)==(l':Int))=false:=by rw[zac];omega
     go_enter func66,ntmps66;go_wp2;go_ret;exact⟨by rw[hB.out];rfl,zaw _ _ _⟩
   ·have hB:=zaa (zeg (k:=k) (k':=k) (n:=n) (n':=n) (l:=l) (l':=l') (fun h=>e3 h.2.2.1));have hd:¬ t.toList=t'.toList:=fun h=>e3 (zdc h);go_enter func66,ntmps66;go_wp2;go_ret;exact⟨by rw[hB.out];rfl,zaw _ _ _⟩
  ·have hB:=zaa (zeg (k:=k) (k':=k) (t:=t) (t':=t') (l:=l) (l':=l') (fun h=>e2 h.2.1));have hd:((n:Int)==(n':Int))=false:=by rw[zac];omega
   go_enter func66,ntmps66;go_wp2;go_ret;exact⟨by rw[hB.out];rfl,zaw _ _ _⟩
 ·have hB:=zaa (zeg (n:=n) (n':=n') (t:=t) (t':=t') (l:=l) (l':=l') (fun h=>e1 h.1));have hd:((k:Int)==(k':Int))=false:=by rw[zac];omega
  go_enter func66,ntmps66;go_wp2;go_ret;exact⟨by rw[hB.out];rfl,zaw _ _ _⟩
def zb0 (k:Nat):Bool:=k==6||k==21
theorem zlw (k n:Nat)(t:ByteArray)(A:Oz)(l c:Nat)(w:World) :
  Calls prog 141 #[.agg #[.int .u8 k,.int .u64 n,.string t,.slice A l c]] w (zaj (zb0 k) w):=by
 by_cases h6:k=6
 ·subst h6;go_enter func141,ntmps141;go_wp2;go_ret;exact⟨rfl,(za _ _)⟩
 ·have d6:((k:Int)==6)=false:=by rw[zac];omega
  by_cases JD:k=21
  ·subst JD;go_enter func141,ntmps141;go_wp2;go_ret;exact⟨rfl,(za _ _)⟩
  ·have d21:((k:Int)==21)=false:=by rw[zac];omega
   have hB:Hid (zb0 k=false):=zaa (by simp[zb0,h6,JD]);go_enter func141,ntmps141;go_wp2;go_ret;exact⟨by rw[hB.out];rfl,(za _ _)⟩
theorem zcU (k n:Nat)(t:ByteArray)(A:Oz)(l c:Nat)(w:World) :
  Calls prog 121 #[.agg #[.int .u8 k,.int .u64 n,.string t,.slice A l c]] w (zaj (zb0 k) w):=by
 by_cases h6:k=6
 ·subst h6;go_enter func121,ntmps121;go_wp2;go_ret;exact⟨rfl,(za _ _)⟩
 ·have d6:((k:Int)==6)=false:=by rw[zac];omega
  by_cases JD:k=21
  ·subst JD;go_enter func121,ntmps121;go_wp2;go_ret;exact⟨rfl,(za _ _)⟩
  ·have d21:((k:Int)==21)=false:=by rw[zac];omega
   have hB:Hid (zb0 k=false):=zaa (by simp[zb0,h6,JD]);go_enter func121,ntmps121;go_wp2;go_ret;exact⟨by rw[hB.out];rfl,(za _ _)⟩
def zib (k n:Nat)(t:ByteArray)(w:World)(e:Ending)(w':World):Prop:=e=.returned (.agg #[.int .u8 k,.int .u64 n,.string t,.slice none 0 0])∧Below w.heap.size w w'
theorem zaq (k n:Nat)(w:World):Calls prog 67 #[.int .u8 k,.int .u64 n] w (zib k n ⟨#[]⟩ w):=by
 go_enter func67,ntmps67;go_wp2;exact bodyPost_ret (v:=.agg #[.int .u8 k,.int .u64 n,.string ⟨#[]⟩,.slice none 0 0]) (by simp[results,results67,go_sem]) rfl ⟨rfl,(za _ _)⟩
theorem zaD (k:Nat)(t:ByteArray)(w:World):Calls prog 35 #[.int .u8 k,.string t] w (zib k 0 t w):=by
 go_enter func35,ntmps35;go_wp2;exact bodyPost_ret (v:=.agg #[.int .u8 k,.int .u64 0,.string t,.slice none 0 0]) (by simp[results,results35,go_sem]) rfl ⟨rfl,(za _ _)⟩
theorem zaO (w:World):Calls prog 49 #[] w (zib 1 0 ⟨#[]⟩ w):=by
 go_enter func49,ntmps49;go_wp2;exact bodyPost_ret (v:=.agg #[.int .u8 1,.int .u64 0,.string ⟨#[]⟩,.slice none 0 0]) (by simp[results,results49,go_sem]) rfl ⟨rfl,(za _ _)⟩
def Box (w:World)(g:Nat)(x0 x1 x2 x3:Value):Prop:=w.heap[g]? = some (.cells #[x0,x1,x2,x3] 43 (0,0))
section
variable {w w':World} {g B:Nat} {x0 x1 x2 x3:Value}
theorem Box.lt (h:Box w g x0 x1 x2 x3):g < w.heap.size:=(Array.getElem?_eq_some_iff.1 h).1
theorem Box.new (w:World)(x0 x1 x2 x3:Value):Box (w.alloc (.cells #[x0,x1,x2,x3] 43)) w.heap.size x0 x1 x2 x3:=heap_alloc_new w _
theorem Box.below (h:Box w g x0 x1 x2 x3)(hb:Below B w w')(hg:g < B):Box w' g x0 x1 x2 x3:=(hb.block g hg).trans h
theorem Box.call (h:Box w g x0 x1 x2 x3)(hb:Below w.heap.size w w'):Box w' g x0 x1 x2 x3:=h.below hb h.lt
theorem Box.alloc (h:Box w g x0 x1 x2 x3)(o:Obj):Box (w.alloc o) g x0 x1 x2 x3:=h.call ((za _ _))
theorem Box.all (h:Box w g x0 x1 x2 x3):w.cell? ⟨g,0,none⟩=some x0∧w.cell? ⟨g,1,none⟩=some x1∧w.cell? ⟨g,2,none⟩=some x2∧w.cell? ⟨g,3,none⟩=some x3∧∀ j,w.frozen? ⟨g,j,none⟩=false:=by
 refine⟨cell_of_row w g 0 _ _ _ h,cell_of_row w g 1 _ _ _ h,cell_of_row w g 2 _ _ _ h,cell_of_row w g 3 _ _ _ h,fun j=>?_⟩;unfold Box at h;simp[World.frozen?,h]
end
theorem zae {B:Nat}{w w1:World}(h:Below B w w1){g:Nat}(hg:B≤g)(a b c d:Value):Below B w ((((w1.setCell ⟨g,0,none⟩ a).setCell ⟨g,1,none⟩ b).setCell ⟨g,2,none⟩ c).setCell ⟨g,3,none⟩ d):=
 (((h.setCell (p:=⟨g,0,none⟩) hg _).setCell (p:=⟨g,1,none⟩) hg _).setCell (p:=⟨g,2,none⟩) hg _).setCell (p:=⟨g,3,none⟩) hg _
theorem Box.set4 {w:World}{g:Nat}{x0 x1 x2 x3:Value}(h:Box w g x0 x1 x2 x3)(a b c d:Value):Box ((((w.setCell ⟨g,0,none⟩ a).setCell ⟨g,1,none⟩ b).setCell ⟨g,2,none⟩ c).setCell ⟨g,3,none⟩ d) g a b c d:=by
 unfold Box at h ⊢;simp[World.setCell,Array.getElem?_modify,h]
theorem Box.far {w:World}{g:Nat}{x0 x1 x2 x3:Value}(h:Box w g x0 x1 x2 x3){p:Addr}(hp:g≠p.block)(u:Value):Box (w.setCell p u) g x0 x1 x2 x3:=(Below.heap_setCell w p u g hp).trans h
theorem Box.far4 {w:World}{g g':Nat}{x0 x1 x2 x3:Value}(h:Box w g x0 x1 x2 x3)(hp:g≠g')(a b c d:Value):Box ((((w.setCell ⟨g',0,none⟩ a).setCell ⟨g',1,none⟩ b).setCell ⟨g',2,none⟩ c).setCell ⟨g',3,none⟩ d) g x0 x1 x2 x3:=
 (((h.far (p:=⟨g',0,none⟩) hp _).far (p:=⟨g',1,none⟩) hp _).far (p:=⟨g',2,none⟩) hp _).far (p:=⟨g',3,none⟩) hp _
theorem zmr {w:World}{base:Nat}{e:TypeId}{size n m c:Nat}{A:Oz}{xs ys:List Value}(h:w.ownsRow base e size (.slice A n c) n (xs++ys))(hx:xs.length=m * size)(hm:m < n) :
  w.ownsRow base e size (.slice A m c) m xs:=by
 refine⟨hx,?_⟩;rcases h.2 with ⟨_,h0⟩ | ⟨g,cap,cur,hv,hb,hg,kz,bL,jl,K9⟩
 ·omega
 ·injection hv with h1 _ h3
  subst h1;subst h3;refine .inr ⟨g,c,cur,rfl,hb,hg,by omega,bL,jl,?_⟩;have hle:m * size≤n * size:=yao _ (by omega);have:=congrArg (List.take (m * size)) K9;have e2:(xs++ys).take (m * size)=xs:=by rw[←hx];simp
  rw[List.take_take,Nat.min_eq_left hle,e2] at this;exact this
theorem zhg {w:World}{base:Nat}{e:TypeId}{size n c:Nat}{A:Oz}{xs:List Value}(h:w.ownsRow base e size (.slice A n c) n xs)(hn:0 < n):∃ g,A=some ⟨g,0,none⟩∧base≤g∧g < w.heap.size:=by
 obtain⟨g,cap,hv,hb,Hi⟩:=h.form hn;injection hv with h1
 exact⟨g,h1,hb,Hi⟩
theorem zbi {w:World}{base:Nat}{e:TypeId}{size n c:Nat}{A:Oz}{xs:List Value}(h:w.ownsRow base e size (.slice A n c) n xs):n≤c:=by
 rcases h.2 with ⟨e,h0⟩ | ⟨g,cap,cur,hv,hb,hg,kz,_⟩
 ·omega
 ·injection hv with _ _ h3
  omega
theorem zjI {T e:TypeId}{size:Nat}(hT:prog.underlying T=some (.slice e))(he:prog.elem T=e)(hi:(prog.info? e).map (·.size)=some size)(A:Oz)(n c k:Nat)(hk:k≤n)(kz:n≤c) :
  (∀ (W:World) (i:Int),i=k→(Instr.slice T (.slice A n c) none (some (.int .i64 i)) none).run prog W=.ok (.slice A k c) W)∧(∀ (W:World) (i:Int),i=k→(Instr.sliceAt T (.slice A n c) none (some (.int .i64 i)) none).run prog W=.ok (.slice A k c) W):=by
 have V8:prog.underlying T=some (.slice (prog.elem T)):=by rw[he];exact hT
 have Hu:∀ W:World,(sizeOf e).run prog W=.ok size W:=fun W=>by
  cases hq:prog.info? e with
  | none=>rw[hq] at hi;cases hi
  | some x=>rw[hq] at hi;injection hi with hi;simp[sizeOf,typeInfo,hq,hi]
 have h1:∀ (W:World) (i:Int),i=k→(Instr.slice T (.slice A n c) none (some (.int .i64 i)) none).run prog W=.ok (.slice A k c) W:=fun W i hi=>by
  subst hi;rw[run_slice_h (P:=prog) (w:=W) T A n c V8 .i64 (k:Int) (by omega) (by omega),he,Hu];simp only[Result.andThen,sliced];cases A<;>simp[Addr.add]
 refine⟨h1,fun W i hi=>?_⟩;rw[run_sliceAt_slice (P:=prog) (w:=W) T _ _ _ _ V8];exact h1 W i hi
theorem zkl:prog.elem 41=43:=by kernel_rfl
theorem zrG:(prog.info? 43).map (·.size)=some 4:=by kernel_rfl
theorem zhh (A:Oz)(n c k:Nat)(hk:k≤n)(kz:n≤c):∃ A1 c1,n - k≤c1 ∧
  (∀ (W:World) (i:Int),i=k→(Instr.slice 41 (.slice A n c) (some (.int .i64 i)) none none).run prog W=.ok (.slice A1 (n - k) c1) W)∧(∀ (W:World) (i:Int),i=k→(Instr.sliceAt 41 (.slice A n c) (some (.int .i64 i)) none none).run prog W=.ok (.slice A1 (n - k) c1) W) ∧
  ∀ own w P ks,Kids own w P ks A n c→Kids own w P (ks.drop k) A1 (n - k) c1:=by
 have V8:prog.underlying 41=some (.slice (prog.elem 41)):=by rw[zkl];exact underlying41
 have Hu:∀ W:World,(sizeOf 43).run prog W=.ok 4 W:=fun W=>by
  have hi:=zrG;cases hq:prog.info? 43 with
  | none=>rw[hq] at hi;cases hi
  | some x=>rw[hq] at hi;injection hi with hi;simp[sizeOf,typeInfo,hq,hi]
 have h1:∀ (W:World) (i:Int),i=k→(Instr.slice 41 (.slice A n c) (some (.int .i64 i)) none none).run prog W=.ok (.slice (if c=k then A else A.map (·.add (k * 4))) (n - k) (c - k)) W:=fun W i hi=>by
  subst hi;rw[run_slice_l (P:=prog) (w:=W) 41 A n c V8 .i64 (k:Int) (by omega) (by omega),zkl,Hu];simp only[Result.andThen,sliced,yat]
 refine⟨_,_,?_,h1,fun W i hi=>?_,fun own w P ks h=>⟨by rw[yac,←h.1],?_,fun hl=>?_⟩⟩
 ·omega
 ·rw[run_sliceAt_slice (P:=prog) (w:=W) 41 _ _ _ _ V8];exact h1 W i hi
 ·omega
 ·obtain⟨b,o,rfl,hP,ho,Hr⟩:=h.2.2 (by omega);rw[if_neg (by omega)];refine⟨b,o+k * 4,?_,hP,ho,zmq fun i v hi=>?_⟩
  ·simp only[Option.map_some];unfold Addr.add
   split
   ·rename_i h0;rw[h0];rfl
   ·rfl
  ·rw[List.getElem?_drop] at hi;have:=zjG Hr hi
   rwa [show o+(k+i) * 4=o+k * 4+i * 4 by omega] at this
end Val
end Go.Proofs.YtbbbanfggcediaaGreatDoor
