/-
  Contracts of functions and plain mathematics, text by text, each with its conditions ahead of it:
  Characters and their bytes, as plain numbers: 'en' (the bytes of a character), 'dec' (the character with which bytes begin), texts. No program, no condition.
  What stands in all places of a row of one's own, the spare ones too: laws of append and of make that keep it. No condition.
  Words for slices of bytes and of uint32s: one that is read ('Rd'), one of the call's own ('Own'), the laws of append and of cutting over them, string(..) of bytes, and the table of package utf ('Tab'). No other condition.
  Contracts of octet.Lay, octet.Signed (of one byte), encode.layNumber, encode.width: the bytes of a number, in new memory. Condition: fewer than 2^46 bytes come in.
  Values as trees, as plain mathematics: how many parts one has, how deep it is, whether two are the same. No Go in it.
  Values in memory: a slice of values that is read ('Kids', 'Kd'), and one that the call itself made ('Kids true', 'Nw'). No other condition.
  Contracts of the document's Items and Depth of a value. Memory that was there stays. Condition: a value of bulk at most 2^40.
  Contract of the document's Same of two values. Memory that was there stays. Condition: a value of bulk at most 2^40.
  Contracts of small calls: sameAlone; isName and the document's Called; Null, Number, Text, Bool. Memory that was there stays.
  A slice that the call itself made, used as a stack: its top, taking it off; cutting slices of values from the front. No condition.
-/
import Derived.WalkKit
import Derived.Test.YtcilmmdmkpnppaaGreatDoorRows
import Derived.Deep.AppendLies
import Derived.Laws.MakeOwn
import Derived.Laws.OwnMore
import Derived.Below
import Derived.OwnWalk
import Derived.Laws.AppendOwnNone
import Derived.Maps.AppendAt
import Derived.Laws.BytesArg
import Derived.Deep.Draws
import Derived.Lib.Hide
import Derived.Outline
import Derived.Laws.BitsAllLaws
import Derived.WalkLawsBesides
import Derived.StillTailTactics
namespace Go.Proofs.YtcilmmdmkpnppaaGreatDoor
theorem sA {α}(l:List α)(i:Nat)(a:α):l.toArray.setIfInBounds i a=(l.set i a).toArray:=by simp
theorem sB {α}(x:α)(l:List α)(a:α):(x::l).set 0 a=a::l:=rfl
theorem sC {α}(x:α)(l:List α)(n:Nat)(a:α):(x::l).set (n+1) a=x::l.set n a:=rfl
end Go.Proofs.YtcilmmdmkpnppaaGreatDoor
section
namespace Go.Proofs.YtcilmmdmkpnppaaGreatDoor.Utf
def isC (c:Nat):Bool:=decide (c < 55296)||(decide (57343 < c)&&decide (c≤1114111))
theorem isC_iff {c:Nat}:isC c=true↔(c < 55296∨(57343 < c∧c≤1114111)):=by simp[isC]
theorem isC_lt {c:Nat}(h:isC c=true):c≤1114111:=by have:=isC_iff.1 h;omega
def fu (c:Nat):Nat:=if c≤127 then 0 else if c≤2047 then 1 else if c≤65535 then 2 else 3
def en (c:Nat):List Nat:=
 if c < 128 then [c] else if c < 2048 then [192+c / 64,128+c % 64]
 else if c < 65536 then [224+c / 4096,128+c / 64 % 64,128+c % 64]
 else [240+c / 262144,128+c / 4096 % 64,128+c / 64 % 64,128+c % 64]
def ld (o:Nat):Option (Nat×Nat):=
 if o < 128 then some (0,o) else if o < 192 then none else if o < 224 then some (1,o - 192)
 else if o < 240 then some (2,o - 224) else if o < 248 then some (3,o - 240) else none
def cont (x:Nat):Bool:=decide (128≤x)&&decide (x < 192)
def gon:Nat→Nat→List Nat→Option Nat
 | 0,c,_=>some c
 | _+1,_,[]=>none
 | n+1,c,x::r=>if cont x then gon n (c * 64+(x - 128)) r else none
def fits (n:Nat)(c:Nat):Bool:=isC c&&(fu c==n)
def dec:List Nat→Option (Nat×Nat)
 | []=>none
 | o::r=>match ld o with
  | none=>none
  | some (n,c)=>match gon n c r with
   | none=>none
   | some d=>if fits n d then some (d,n+1) else none
theorem en_length (c:Nat):(en c).length=fu c+1:=by
 by_cases h1:c < 128
 ·simp[en,fu,h1,show c≤127 by omega]
 by_cases h2:c < 2048
 ·simp[en,fu,h1,h2,show ¬ c≤127 by omega,show c≤2047 by omega]
 by_cases h3:c < 65536
 ·simp[en,fu,h1,h2,h3,show ¬ c≤127 by omega,show ¬ c≤2047 by omega,show c≤65535 by omega]
 ·simp[en,fu,h1,h2,h3,show ¬ c≤127 by omega,show ¬ c≤2047 by omega,show ¬ c≤65535 by omega]
theorem fu_le (c:Nat):fu c≤3:=by unfold fu;split<;>(try split)<;>(try split)<;>omega
theorem dec_en {c:Nat}(h:isC c=true)(r:List Nat):dec (en c++r)=some (c,fu c+1):=by
 have hl:=isC_lt h;by_cases h1:c < 128
 ·have e:en c=[c]:=by unfold en;rw[if_pos h1]
  have f:fu c=0:=by unfold fu;rw[if_pos (by omega)]
  simp[e,f,dec,ld,h1,gon,fits,h]
 by_cases h2:c < 2048
 ·have e:en c=[192+c / 64,128+c % 64]:=by unfold en;rw[if_neg h1,if_pos h2]
  have f:fu c=1:=by unfold fu;rw[if_neg (by omega),if_pos (by omega)]
  have l:ld (192+c / 64)=some (1,c / 64):=by unfold ld;rw[if_neg (by omega),if_neg (by omega),if_pos (by omega)];simp
  have k1:cont (128+c % 64)=true:=by simp[cont];omega
  have g:c / 64 * 64+(128+c % 64 - 128)=c:=by omega
  simp only[e,dec,l,gon,k1,g,fits,List.cons_append];simp[h,f]
 by_cases h3:c < 65536
 ·have e:en c=[224+c / 4096,128+c / 64 % 64,128+c % 64]:=by unfold en;rw[if_neg h1,if_neg h2,if_pos h3]
  have f:fu c=2:=by unfold fu;rw[if_neg (by omega),if_neg (by omega),if_pos (by omega)]
  have l:ld (224+c / 4096)=some (2,c / 4096):=by unfold ld;rw[if_neg (by omega),if_neg (by omega),if_neg (by omega),if_pos (by omega)];simp
  have k1:cont (128+c % 64)=true:=by simp[cont];omega
  have k2:cont (128+c / 64 % 64)=true:=by simp[cont];omega
  have g:(c / 4096 * 64+(128+c / 64 % 64 - 128)) * 64+(128+c % 64 - 128)=c:=by omega
  simp only[e,dec,l,gon,k1,k2,g,fits,List.cons_append];simp[h,f]
 ·have e:en c=[240+c / 262144,128+c / 4096 % 64,128+c / 64 % 64,128+c % 64]:=by unfold en;rw[if_neg h1,if_neg h2,if_neg h3]
  have f:fu c=3:=by unfold fu;rw[if_neg (by omega),if_neg (by omega),if_neg (by omega)]
  have l:ld (240+c / 262144)=some (3,c / 262144):=by unfold ld;rw[if_neg (by omega),if_neg (by omega),if_neg (by omega),if_neg (by omega),if_pos (by omega)];simp
  have k1:cont (128+c % 64)=true:=by simp[cont];omega
  have k2:cont (128+c / 64 % 64)=true:=by simp[cont];omega
  have k3:cont (128+c / 4096 % 64)=true:=by simp[cont];omega
  have g:((c / 262144 * 64+(128+c / 4096 % 64 - 128)) * 64+(128+c / 64 % 64 - 128)) * 64+(128+c % 64 - 128)=c:=by omega
  simp only[e,dec,l,gon,k1,k2,k3,g,fits,List.cons_append];simp[h,f]
theorem gon_some {n c d:Nat}{r:List Nat}(h:gon (n+1) c r=some d):∃ x r',r=x::r'∧128≤x∧x < 192∧gon n (c * 64+(x - 128)) r'=some d:=by
 cases r with
 | nil=>simp[gon] at h
 | cons x r=>
  by_cases k:cont x=true
  ·simp only[gon,k,if_true] at h;simp only[cont,Bool.and_eq_true,decide_eq_true_eq] at k;exact⟨x,r,rfl,k.1,k.2,h⟩
  ·simp[gon,k] at h
theorem dec_inv {b:List Nat}{c m:Nat}(h:dec b=some (c,m)):isC c=true∧m=fu c+1∧∃ r,b=en c++r:=by
 cases b with
 | nil=>simp[dec] at h
 | cons o r=>
  unfold dec at h;cases hl:ld o with
  | none=>simp[hl] at h
  | some p=>
   obtain⟨n,c0⟩:=p;simp only[hl] at h;cases hg:gon n c0 r with
   | none=>simp[hg] at h
   | some d=>
    simp only[hg] at h;by_cases hf:fits n d=true
    ·simp only[hf,if_true,Option.some.injEq,Prod.mk.injEq] at h;obtain⟨rfl,rfl⟩:=h;simp only[fits,Bool.and_eq_true,beq_iff_eq] at hf;obtain⟨hc,rfl⟩:=hf;refine⟨hc,rfl,?_⟩;unfold ld at hl
     split at hl
     ·simp only[Option.some.injEq,Prod.mk.injEq] at hl;obtain⟨hn,rfl⟩:=hl;rw[←hn] at hg;simp only[gon,Option.some.injEq] at hg;subst hg;exact⟨r,by unfold en;rw[if_pos (by omega)];rfl⟩
     split at hl
     ·cases hl
     split at hl
     ·simp only[Option.some.injEq,Prod.mk.injEq] at hl;obtain⟨hn,rfl⟩:=hl;rw[←hn] at hg;obtain⟨x1,r1,rfl,a1,b1,g1⟩:=gon_some hg;simp only[gon,Option.some.injEq] at g1;subst g1;have h1:¬ (o - 192) * 64+(x1 - 128)≤127:=fun hh=>by unfold fu at hn;rw[if_pos hh] at hn;omega
      refine⟨r1,?_⟩;unfold en;rw[if_neg (by omega),if_pos (by omega)];simp only[List.cons_append,List.nil_append,List.cons.injEq,and_true];omega
     split at hl
     ·simp only[Option.some.injEq,Prod.mk.injEq] at hl;obtain⟨hn,rfl⟩:=hl;rw[←hn] at hg;obtain⟨x1,r1,rfl,a1,b1,g1⟩:=gon_some hg;obtain⟨x2,r2,rfl,a2,b2,g2⟩:=gon_some g1;simp only[gon,Option.some.injEq] at g2;subst g2;have h1:¬ ((o - 224) * 64+(x1 - 128)) * 64+(x2 - 128)≤2047:=fun hh=>by
       unfold fu at hn;split at hn
       ·omega
       ·omega
      refine⟨r2,?_⟩;unfold en;rw[if_neg (by omega),if_neg (by omega),if_pos (by omega)];simp only[List.cons_append,List.nil_append,List.cons.injEq,and_true];omega
     split at hl
     ·simp only[Option.some.injEq,Prod.mk.injEq] at hl;obtain⟨hn,rfl⟩:=hl;rw[←hn] at hg;obtain⟨x1,r1,rfl,a1,b1,g1⟩:=gon_some hg;obtain⟨x2,r2,rfl,a2,b2,g2⟩:=gon_some g1;obtain⟨x3,r3,rfl,a3,b3,g3⟩:=gon_some g2;simp only[gon,Option.some.injEq] at g3;subst g3;have h1:¬ (((o - 240) * 64+(x1 - 128)) * 64+(x2 - 128)) * 64+(x3 - 128)≤65535:=fun hh=>by
       unfold fu at hn;split at hn
       ·omega
       ·split at hn
        ·omega
        ·omega
      refine⟨r3,?_⟩;unfold en;rw[if_neg (by omega),if_neg (by omega),if_neg (by omega)];simp only[List.cons_append,List.nil_append,List.cons.injEq,and_true];omega
     ·cases hl
    ·simp[hf] at h
def txt (l:List Nat):List Nat:=l.flatMap en
def AllC (l:List Nat):Prop:=∀ c∈l,isC c=true
def IsT (b l:List Nat):Prop:=AllC l∧b=txt l
theorem txt_nil:txt []=[]:=rfl
theorem txt_cons (c:Nat)(l:List Nat):txt (c::l)=en c++txt l:=by simp[txt]
theorem txt_append (l m:List Nat):txt (l++m)=txt l++txt m:=by simp[txt]
theorem txt_cut:∀ {d l:List Nat} {r:List Nat},AllC d→AllC l→txt d++r=txt l→∃ m,l=d++m∧r=txt m
 | [],l,r,_,_,h=>⟨l,rfl,h⟩
 | c::d,[],r,_,_,h=>by
  rw[txt_cons,txt_nil] at h;have:=congrArg List.length h;simp[en_length] at this
 | c::d,e::l,r,hd,hl,h=>by
  rw[txt_cons,txt_cons,List.append_assoc] at h;have h1:=dec_en (hd c (by simp)) (txt d++r);have h2:=dec_en (hl e (by simp)) (txt l);rw[h,h2] at h1;simp only[Option.some.injEq,Prod.mk.injEq] at h1;obtain⟨rfl,_⟩:=h1;obtain⟨m,rfl,rfl⟩:=txt_cut (fun x hx=>hd x (by simp[hx])) (fun x hx=>hl x (by simp[hx])) (List.append_cancel_left h);exact⟨m,rfl,rfl⟩
theorem no_text {d r:List Nat}(hd:AllC d)(hr:r≠[])(h:dec r=none):∀ l,¬ IsT (txt d++r) l:=by
 rintro l ⟨hl,e⟩;obtain⟨m,rfl,rfl⟩:=txt_cut hd hl e;cases m with
 | nil=>exact hr rfl
 | cons c m=>
  rw[txt_cons,dec_en (hl c (by simp))] at h;cases h
theorem AllC.append {l m:List Nat}(hl:AllC l)(hm:AllC m):AllC (l++m):=fun c hc=>by
 rcases List.mem_append.1 hc with h | h
 ·exact hl c h
 ·exact hm c h
theorem AllC.one {c:Nat}(h:isC c=true):AllC [c]:=fun x hx=>by simp at hx;rwa [hx]
theorem allC_nil:AllC []:=fun _ h=>by cases h
end Go.Proofs.YtcilmmdmkpnppaaGreatDoor.Utf
end
section
namespace Go.Proofs.YtcilmmdmkpnppaaGreatDoor.Utf
open Go
def Typ (Q:Value→Prop)(w:World)(v:Value):Prop:=∀ g,v.ownBlock=some g→∀ cur e fz,w.heap[g]? = some (.cells cur e fz)→∀ u∈cur.toList,Q u
section
variable {Q:Value→Prop} {w w':World} {v:Value}
theorem Typ.nil (Q:Value→Prop)(w:World)(n c:Nat):Typ Q w (.slice none n c):=fun _ h=>by cases h
theorem Typ.keep (h:Typ Q w v)(hk:∀ g,v.ownBlock=some g→w'.heap[g]? = w.heap[g]?):Typ Q w' v:=fun g hg cur e fz hc=>h g hg cur e fz ((hk g hg)▸hc)
theorem Typ.new (w:World)(cs:Array Value)(e:TypeId)(n c:Nat)(h:∀ u∈cs.toList,Q u):Typ Q (w.alloc (.cells cs e)) (.slice (some ⟨w.heap.size,0,none⟩) n c):=fun g hg cur e' fz hc=>by
 have:w.heap.size=g:=by simpa [Value.ownBlock] using hg
 subst this;rw[heap_alloc_new] at hc;injection hc with hc
 injection hc with hc _ _
 subst hc;exact h
end
theorem zero_cells {Q:Value→Prop}{z:Value}(hz:z.cells=#[z])(h:Q z)(k:Nat):∀ u∈(Builtin.zeroCells z.cells k).toList,Q u:=fun u hu=>by
 rw[hz] at hu;simp[Builtin.zeroCells,Nat.mod_one] at hu;obtain⟨_,_,rfl⟩:=hu;exact h
theorem made_cells {Q:Value→Prop}{z:Value}(hz:z.cells=#[z])(h:Q z)(k:Nat):∀ u∈(madeCells z.cells k).toList,Q u:=fun u hu=>by
 rw[hz] at hu;simp[madeCells,Nat.mod_one] at hu;obtain⟨_,_,rfl⟩:=hu;exact h
theorem typ_append {P:Program}{Q:Value→Prop}{w:World}(t ty e:TypeId)(i:TypeInfo)(z:Value)(bytes:Nat)(ht:P.underlying t=some (.slice e))(hi:P.info? e=some i)(hz:i.zero=some z)
  (hsize:i.size=1) (hby:i.bytes=bytes) (hzc:z.cells=#[z]) (hzq:Q z)
  (base:Nat) (v:Value) (n:Nat) (xs:List Value) (hown:w.ownsRow base e 1 v n xs) (hT:Typ Q w v)
  (a:Addr) (m c:Nat) (news:List Value) (hl:news.length=m * 1) (hnews:∀ j u,news[j]? = some u→w.cell? (a.add j)=some u) (h1:∀ u∈news,u.oneCell'=true) (hq:∀ u∈news,Q u)
  (h63:n+m≤maxLen) (hbytes:(n+m) * bytes≤140737488355328) {v':Value} {w':World} (hrun:(Builtin.append_ #[t,t] ty #[v,.slice (some a) m c]).run P w=.ok v' w'):Typ Q w' v':=by
 have hsmall:n+m≤9223372036854775807:=by simp only[maxLen] at h63;omega
 subst hby;rcases hown.2 with ⟨rfl,rfl⟩ | ⟨g,cap,cur,rfl,_,hg,hnc,_,hcs,htake⟩
 ·by_cases hm:m=0
  ·subst hm;have hn:news=[]:=List.eq_nil_of_length_eq_zero (by simpa using hl);subst hn;have hr:(Builtin.append_ #[t,t] ty #[.slice none 0 0,.slice (some a) 0 c]).run P w=.ok (.slice none 0 0) w:=by
    simp[Builtin.append_,run_underlying ht,sizeOf,typeInfo,hi,Builtin.lenOf,Builtin.firstCells,loadCells,loadCellsFrom]
   rw[hr] at hrun;injection hrun with e1 e2
   subst e1;exact Typ.nil _ _ _ _
  ·have hr:=run_append_nil (P:=P) w t ty e i z ht hi hz a m c news (by rw[hsize];exact hl) hnews (by omega) (by omega) (by have hb:=hbytes;simp only[Nat.zero_add] at hb;omega);rw[hr] at hrun;injection hrun with e1 e2
   subst e1 e2;refine Typ.new w.drew _ _ _ _ fun u hu=>?_;rw[Array.toList_append,List.mem_append] at hu;rcases hu with hu | hu
   ·exact hq u (by simpa using hu)
   ·exact zero_cells hzc hzq _ u hu
 ·have hcq:∀ u∈cur.toList,Q u:=hT g rfl cur e (0,0) hg;have hxq:∀ u∈xs,Q u:=fun u hu=>hcq u (List.mem_of_mem_take (by rw[htake];exact hu));by_cases hroom:n+m≤cap
  ·have hfit:n * i.size+news.length≤cur.size:=by rw[hl,hcs,hsize,←Nat.add_mul];exact Nat.mul_le_mul_right _ hroom
   have hr:=run_append_room (P:=P) w t ty e i ht hi g n cap cur hg a m c news (by rw[hsize];exact hl) hnews h1 hroom hfit;rw[hr] at hrun;injection hrun with e1 e2
   subst e1 e2;intro g' hg' cur' e' fz hc u hu;have:g=g':=by simpa [Value.ownBlock] using hg'
   subst this;rw[setRow_heap w g cur _ e _ hg] at hc;injection hc with hc
   injection hc with hc _ _
   subst hc;simp only[List.mem_append] at hu;rcases hu with (hu | hu) | hu
   ·exact hcq u (List.mem_of_mem_take hu)
   ·exact hq u hu
   ·exact hcq u (List.mem_of_mem_drop hu)
  ·have holds:∀ j u,xs[j]? = some u→w.cell? ((⟨g,0,none⟩:Addr).add j)=some u:=hown.cells (g:=g) rfl;have hr:=run_append_grow (P:=P) w t ty e i z ht hi hz ⟨g,0,none⟩ n cap xs (by rw[hsize];exact hown.1) holds a m c news (by rw[hsize];exact hl) hnews (by omega) (by omega) (growslice_fits (by omega) hbytes);rw[hr] at hrun;injection hrun with e1 e2
   subst e1 e2;refine Typ.new w.drew _ _ _ _ fun u hu=>?_;rw[Array.toList_append,Array.toList_append,List.mem_append,List.mem_append] at hu;rcases hu with (hu | hu) | hu
   ·exact hxq u (by simpa using hu)
   ·exact hq u (by simpa using hu)
   ·exact zero_cells hzc hzq _ u hu
end Go.Proofs.YtcilmmdmkpnppaaGreatDoor.Utf
end
section
namespace Go.Proofs.YtcilmmdmkpnppaaGreatDoor.Utf
open Go.RowKit
theorem info5:(Tryz.prog.info? 5).map (fun i=>(i.zero,i.size,i.bytes))=some (some (.int .u8 0),1,1):=by kernel_rfl
def vs (k:IntKind)(l:List Nat):List Value:=l.map fun(c:Nat)=>.int k (c:Int)
theorem vs_length (k:IntKind)(l:List Nat):(vs k l).length=l.length:=by simp[vs]
theorem vs_append (k:IntKind)(l m:List Nat):vs k (l++m)=vs k l++vs k m:=by simp[vs]
theorem vs_one (k:IntKind)(l:List Nat):∀ u∈vs k l,u.oneCell'=true:=by
 intro u hu;obtain⟨c,_,rfl⟩:=List.mem_map.1 hu;rfl
theorem vs_at (k:IntKind)(l:List Nat)(j:Nat)(h:j < l.length):(vs k l)[j]? = some (.int k (l[j]:Int)):=by
 simp[vs,List.getElem?_eq_getElem h]
def Rd (K:IntKind)(M:Nat)(w:World)(B:Nat)(A:Option Addr)(n:Nat)(l:List Nat):Prop:=
 l.length=n∧(∀ x∈l,x < M)∧(0 < n→∃ b o,A=some ⟨b,o,none⟩∧b < B∧∀ k (h:k < l.length),w.cell? ⟨b,o+k,none⟩=some (.int K (l[k]:Int)))
def Nb (K:IntKind)(M:Nat)(u:Value):Prop:=∃ x:Nat,x < M∧u=.int K (x:Int)
def Own (K:IntKind)(M:Nat)(T:TypeId)(w:World)(base:Nat)(A:Option Addr)(n c:Nat)(l:List Nat):Prop:=(∀ x∈l,x < M)∧w.ownsRow base T 1 (.slice A n c) n (vs K l)∧Typ (Nb K M) w (.slice A n c)
theorem nb_vs {K:IntKind}{M:Nat}{l:List Nat}(h:∀ x∈l,x < M):∀ u∈vs K l,Nb K M u:=fun u hu=>by
 obtain⟨c,hc,rfl⟩:=List.mem_map.1 hu;exact⟨c,h c hc,rfl⟩
section
variable {K:IntKind} {M:Nat} {T:TypeId} {w w':World} {B B' base n c:Nat} {A:Option Addr} {l:List Nat}
theorem Rd.len (h:Rd K M w B A n l):l.length=n:=h.1
theorem Rd.lim (h:Rd K M w B A n l):∀ x∈l,x < M:=h.2.1
theorem Rd.zero (K:IntKind)(M:Nat)(w:World)(B:Nat)(A:Option Addr):Rd K M w B A 0 []:=⟨rfl,fun _ h=>(by cases h),fun h=>absurd h (by omega)⟩
theorem Rd.at_ (h:Rd K M w B A n l){k:Nat}(hk:k < n):∃ b o c,A=some ⟨b,o,none⟩∧b < B∧l[k]? = some c∧c < M∧w.cell? ⟨b,o+k,none⟩=some (.int K (c:Int)):=by
 obtain⟨b,o,e,hb,hc⟩:=h.2.2 (by omega);have hl:k < l.length:=by rw[h.1];exact hk
 exact⟨b,o,l[k],e,hb,List.getElem?_eq_getElem hl,h.2.1 _ (List.getElem_mem hl),hc k hl⟩
theorem Rd.keep (h:Rd K M w B A n l)(hk:∀ p:Addr,p.block < B→w'.cell? p=w.cell? p):Rd K M w' B A n l:=
 ⟨h.1,h.2.1,fun hn=>by
  obtain⟨b,o,e,hb,hc⟩:=h.2.2 hn;exact⟨b,o,e,hb,fun k hk'=>(hk ⟨b,o+k,none⟩ hb).trans (hc k hk')⟩⟩
theorem Rd.mono (h:Rd K M w B A n l)(hB:B≤B'):Rd K M w B' A n l:=
 ⟨h.1,h.2.1,fun hn=>by
  obtain⟨b,o,e,hb,hc⟩:=h.2.2 hn;exact⟨b,o,e,by omega,hc⟩⟩
theorem Rd.below (h:Rd K M w B A n l)(hb:Below B w w'):Rd K M w' B A n l:=h.keep fun _ hp=>hb.cell hp
theorem Rd.call (h:Rd K M w w.heap.size A n l)(hb:Below w.heap.size w w'):Rd K M w' w'.heap.size A n l:=(h.below hb).mono hb.size
theorem Rd.alloc (h:Rd K M w B A n l)(hB:B≤w.heap.size)(o:Obj):Rd K M (w.alloc o) B A n l:=h.below ((Below.refl _ _).alloc hB o)
theorem Rd.take (h:Rd K M w B A n l){k:Nat}(hk:k≤n):Rd K M w B A k (l.take k):=by
 refine⟨by rw[List.length_take,h.1];omega,fun x hx=>h.2.1 x (List.mem_of_mem_take hx),fun hn=>?_⟩;obtain⟨b,o,e,hb,hc⟩:=h.2.2 (by omega);refine⟨b,o,e,hb,fun j hj=>?_⟩;rw[List.length_take] at hj;rw[hc j (by omega)];simp
theorem Rd.drop (h:Rd K M w B A n l){k:Nat}(hk:k≤n)(hn:n≤c):Rd K M w B (if c=k then A else A.map (·.add k)) (n - k) (l.drop k):=by
 refine⟨by rw[List.length_drop,h.1],fun x hx=>h.2.1 x (List.mem_of_mem_drop hx),fun hp=>?_⟩;obtain⟨b,o,rfl,hb,hc⟩:=h.2.2 (by omega);rw[if_neg (by omega)];refine⟨b,o+k,?_,hb,fun j hj=>?_⟩
 ·simp only[Option.map_some,Addr.add]
  split
  ·rename_i h0;simp[h0]
  ·rfl
 ·rw[List.length_drop] at hj;rw[Nat.add_assoc,hc (k+j) (by omega)];simp
theorem Own.len (h:Own K M T w base A n c l):l.length=n:=by have:=h.2.1.1;rw[vs_length] at this;omega
theorem Own.cap (h:Own K M T w base A n c l):n≤c∧c≤maxLen:=by
 rcases h.2.1.2 with ⟨e,h0⟩ | ⟨g,cap,cur,e,_,_,h1,h2,_,_⟩
 ·injection e with _ _ e;subst e;subst h0;exact⟨Nat.le_refl _,by unfold maxLen;omega⟩
 ·injection e with _ _ e;subst e;exact⟨h1,h2⟩
theorem Own.rd (h:Own K M T w base A n c l):Rd K M w w.heap.size A n l:=by
 refine⟨h.len,h.1,fun hn=>?_⟩;obtain⟨g,cap,hv,hb,hlt⟩:=h.2.1.form hn;injection hv with hA _ hc
 subst hA;subst hc;refine⟨g,0,rfl,hlt,fun k hk=>?_⟩;have hkn:k < n:=by rw[←h.len];exact hk
 rw[Nat.zero_add,World.ownsRow.cellAt h.2.1 k (by omega)];exact vs_at K l k hk
theorem Own.blk (h:Own K M T w base A n c l):∀ g,(Value.slice A n c).ownBlock=some g→base≤g∧g < w.heap.size:=h.2.1.lt
theorem Own.below (h:Own K M T w base A n c l)(hb:Below w.heap.size w w'):Own K M T w' base A n c l:=
 ⟨h.1,h.2.1.kept (row:=none) ⟨hb.os,hb.tape,hb.output,hb.size,fun k hk _=>hb.block k hk⟩ (by
  cases hv:(Value.slice A n c).ownBlock with
  | none=>exact .inl rfl
  | some g=>exact .inr (by simp)),h.2.2.keep fun g hg=>hb.block g (h.blk g hg).2⟩
theorem Own.alloc (h:Own K M T w base A n c l)(o:Obj):Own K M T (w.alloc o) base A n c l:=⟨h.1,World.ownsRow.alloc h.2.1 o,h.2.2.keep fun g hg=>Below.heap_alloc _ _ _ (h.blk g hg).2⟩
theorem Own.mono {base':Nat}(h:Own K M T w base A n c l)(hb:base'≤base):Own K M T w base' A n c l:=by
 refine⟨h.1,⟨h.2.1.1,?_⟩,h.2.2⟩;rcases h.2.1.2 with h | ⟨g,cap,cur,h1,h2,h3⟩
 ·exact .inl h
 ·exact .inr ⟨g,cap,cur,h1,by omega,h3⟩
theorem Own.eqv {m:List Nat}(h:Own K M T w base A n c l)(e:l=m):Own K M T w base A n c m:=e▸h
theorem Own.nil (K:IntKind)(M:Nat)(T:TypeId)(w:World)(base:Nat):Own K M T w base none 0 0 []:=⟨fun _ h=>(by cases h),⟨rfl,.inl ⟨rfl,rfl⟩⟩,Typ.nil _ _ _ _⟩
end
theorem own_of_row {K:IntKind}{M:Nat}{T:TypeId}{w:World}{base n:Nat}{v:Value}{l:List Nat}(hl:∀ x∈l,x < M)(h:w.ownsRow base T 1 v n (vs K l))(hT:Typ (Nb K M) w v):∃ A c,v=.slice A n c∧Own K M T w base A n c l:=by
 rcases h.2 with ⟨rfl,rfl⟩ | ⟨g,cap,cur,rfl,_⟩
 ·exact⟨none,0,rfl,hl,h,hT⟩
 ·exact⟨_,_,rfl,hl,h,hT⟩
theorem below_grown {K:IntKind}{M:Nat}{T:TypeId}{w w':World}{base A n c l}(h:Own K M T w base A n c l)(hg:w.grownBy w' (Value.slice A n c).ownBlock)(hb:base≤w.heap.size):Below base w w':=
 (Below.refl _ _).grown hg hb fun k hk=>(h.blk k hk).1
theorem wpList_make_nb {P:Program}(w:World){K:IntKind}{M:Nat}{T:TypeId}{ops:Array Oper}{rest:List Oper}{o:Oper}{a:Act}{Q:Exit→Act→World→Prop}
  (hg:o.guard=none) (l c:Operand) (t:TypeId) (hop:o.op=Op.makeSlice t l c)
  (base:Nat) (i:TypeInfo) (h1:P.underlying t=some (.slice T)) (h2:P.info? T=some i) (h3:i.zero=some (.int K 0)) (hM:0 < M) (h4:i.size=1)
  (kl kc:IntKind) (C:Int) (n:Nat) (hl:a.eval l=.int kl 0) (hc:a.eval c=.int kc C) (hC:C=(n:Int)) (b2:i.bytes * n≤281474976710656) (b3:n≤maxLen) (b4:base≤w.heap.size)
  (hK:∀ w',Own K M T w' base (some ⟨w.heap.size,0,none⟩) 0 n []→w.grownBy w' none→wpList P ops Q rest (a.put o.dst (.slice (some ⟨w.heap.size,0,none⟩) 0 n)) w') :
  wpList P ops Q (o::rest) a w:=by
 refine wpList_plain hg fun KK hK'=>?_;have b5:(n:Int)≤9223372036854775807:=by
  have h:=b3;simp[maxLen] at h;omega
 have b6:(i.bytes:Int) * (n:Int)≤281474976710656:=by
  have h:((i.bytes * n:Nat):Int)≤281474976710656:=by omega
  rwa [Int.natCast_mul] at h
 have hr:=run_make (P:=P) w t T i (.int K 0) h1 h2 h3 kl kc 0 n (Int.le_refl _) (by omega) b6 b5;simp only[Int.toNat_zero,Int.toNat_natCast] at hr;subst hC;unfold Oper.wp;simp[execOp,hop,hl,hc,hr,Result.andThen];exact hK' _ _ (hK _ ⟨fun _ h=>(by cases h),World.ownsRow_made w _ n b4 b3 (by rw[size_madeCells,h4]),Typ.new _ _ _ _ _ (made_cells rfl ⟨0,hM,rfl⟩ _)⟩ (World.grownBy_alloc w _ none))
theorem step_own {P:Program}{w:World}{K:IntKind}{M:Nat}{T:TypeId}{ops:Array Oper}{o:Oper}{a:Act}{KK:Act→World→Prop}{Q:Exit→Act→World→Prop}{E:Prop}(hgd:o.guard=none)(s x:Operand)(t:TypeId)
  (ho:o.op=.call { callee:=.builtin .append,args:=#[s,x],argTypes:=#[t,t] }) (i:TypeInfo) (bytes:Nat) (ht:P.underlying t=some (.slice T)) (hi:P.info? T=some i) (hz:i.zero=some (.int K 0)) (hM:0 < M)
  (hsize:i.size=1) (hby:i.bytes=bytes) {base n c:Nat} {A:Option Addr} {L:List Nat} (hs:a.eval s=.slice A n c) (hown:Own K M T w base A n c L)
  (ad:Addr) (m d:Nat) (l:List Nat) (hx:a.eval x=.slice (some ad) m d) (hl:l.length=m) (hlim:∀ y∈l,y < M) (hnews:∀ j u,(vs K l)[j]? = some u→w.cell? (ad.add j)=some u)
  (hm:0 < m) (h63:n+m≤maxLen) (hbytes:(n+m) * bytes≤140737488355328) (hbase:base≤w.heap.size) (H:Nat) (hH:w.heap.size=H)
  (h:∀ g cap w',Own K M T w' base (some ⟨g,0,none⟩) (n+m) cap (L++l)→w.grownBy w' (Value.slice A n c).ownBlock→((Value.slice A n c).ownBlock=some g∨g=H)→g < w'.heap.size→KK (a.put o.dst (.slice (some ⟨g,0,none⟩) (n+m) cap)) w') :
  if Region.wanted o (yielded ops a.tmps)=true then Oper.wp P o a w KK Q else E:=by
 have hw:Region.wanted o (yielded ops a.tmps)=true:=by simp[Region.wanted,hgd]
 rw[if_pos hw];have hvl:(vs K l).length=m * 1:=by rw[vs_length,hl];omega
 obtain⟨g,cap,w',hr,h2,h3,h4,h5⟩:=run_append_lies (P:=P) w t o.type base T i (.int K 0) 1 bytes ht hi hz hsize hby rfl (by omega) (.slice A n c) n (vs K L) hown.2.1 ad m d (vs K l) hvl hnews (vs_one _ _) hm h63 hbytes hbase H hH;have h6:=typ_append (P:=P) (Q:=Nb K M) t o.type T i (.int K 0) bytes ht hi hz hsize hby rfl ⟨0,hM,rfl⟩ base (.slice A n c) n (vs K L) hown.2.1 hown.2.2 ad m d (vs K l) hvl hnews (vs_one _ _) (nb_vs hlim) h63 hbytes hr;rw[←vs_append] at h2;unfold Oper.wp execOp;simp only[ho,resolve,invoke,builtin,Sem.run_bind,Sem.run_pure,Result.andThen_ok,List.map_toArray,List.map_cons,List.map_nil,hs,hx,hr];exact h g cap w' ⟨fun y hy=>(List.mem_append.1 hy).elim (hown.1 y) (hlim y),h2,h6⟩ h3 h4 h5
theorem wpList_own {P:Program}{w:World}{K:IntKind}{M:Nat}{T:TypeId}{ops:Array Oper}{rest:List Oper}{o:Oper}{a:Act}{Q:Exit→Act→World→Prop}(hgd:o.guard=none)(s x:Operand)(t:TypeId)
  (ho:o.op=.call { callee:=.builtin .append,args:=#[s,x],argTypes:=#[t,t] }) (i:TypeInfo) (bytes:Nat) (ht:P.underlying t=some (.slice T)) (hi:P.info? T=some i) (hz:i.zero=some (.int K 0)) (hM:0 < M)
  (hsize:i.size=1) (hby:i.bytes=bytes) {base n c:Nat} {A:Option Addr} {L:List Nat} (hs:a.eval s=.slice A n c) (hown:Own K M T w base A n c L)
  (ad:Addr) (m d:Nat) (l:List Nat) (hx:a.eval x=.slice (some ad) m d) (hl:l.length=m) (hlim:∀ y∈l,y < M) (hnews:∀ j u,(vs K l)[j]? = some u→w.cell? (ad.add j)=some u)
  (h63:n+m≤maxLen) (hbytes:(n+m) * bytes≤140737488355328) (hbase:base≤w.heap.size)
  (h:∀ A2 c2 w',Own K M T w' base A2 (n+m) c2 (L++l)→w.grownBy w' (Value.slice A n c).ownBlock→wpList P ops Q rest (a.put o.dst (.slice A2 (n+m) c2)) w') :
  wpList P ops Q (o::rest) a w:=by
 refine wpList_plain hgd fun KK hK=>?_;have hvl:(vs K l).length=m * 1:=by rw[vs_length,hl];omega
 obtain⟨v',w',hr,h2,h3,_⟩:=run_append_own (P:=P) w base t o.type T i (.int K 0) 1 bytes ht hi hz hsize hby rfl (by omega) (.slice A n c) n (vs K L) hown.2.1 ad m d (vs K l) hvl hnews (vs_one _ _) h63 hbytes hbase;have h6:=typ_append (P:=P) (Q:=Nb K M) t o.type T i (.int K 0) bytes ht hi hz hsize hby rfl ⟨0,hM,rfl⟩ base (.slice A n c) n (vs K L) hown.2.1 hown.2.2 ad m d (vs K l) hvl hnews (vs_one _ _) (nb_vs hlim) h63 hbytes hr;rw[←vs_append] at h2;obtain⟨A2,c2,rfl,ho2⟩:=own_of_row (fun y hy=>(List.mem_append.1 hy).elim (hown.1 y) (hlim y)) h2 h6;unfold Oper.wp execOp;simp only[ho,resolve,invoke,builtin,Sem.run_bind,Sem.run_pure,Result.andThen_ok,List.map_toArray,List.map_cons,List.map_nil,hs,hx,hr];exact hK _ _ (h A2 c2 w' ho2 h3)
set_option maxRecDepth 100000 in
theorem wpList_app8 {w:World}{ops:Array Oper}{rest:List Oper}{o:Oper}{a:Act}{Q:Exit→Act→World→Prop}(hgd:o.guard=none)(s x:Operand)
  (ho:o.op=.call { callee:=.builtin .append,args:=#[s,x],argTypes:=#[23,23] })
  {base n c:Nat} {A:Option Addr} {L:List Nat} (hs:a.eval s=.slice A n c) (hown:Own .u8 256 5 w base A n c L)
  {B m d:Nat} {A':Option Addr} {l:List Nat} (hx:a.eval x=.slice A' m d) (hr:Rd .u8 256 w B A' m l) (hsz:n+m≤17592186044416) (hbase:base≤w.heap.size)
  (h:∀ A2 c2 w',Own .u8 256 5 w' base A2 (n+m) c2 (L++l)→w.grownBy w' (Value.slice A n c).ownBlock→wpList Tryz.prog ops Q rest (a.put o.dst (.slice A2 (n+m) c2)) w') :
  wpList Tryz.prog ops Q (o::rest) a w:=by
 obtain⟨i0,hi,hz0,hz1,hz2⟩:=info_parts info5;rcases A' with _ | ad
 ·have hm:m=0:=by
   rcases Nat.eq_zero_or_pos m with h0 | h0
   ·exact h0
   ·obtain⟨_,_,e,_⟩:=hr.2.2 h0;cases e
  subst hm;have hl:l=[]:=List.eq_nil_of_length_eq_zero hr.1;subst hl;refine wpList_plain hgd fun K hK=>?_;have hrun:(Builtin.append_ #[23,23] o.type #[.slice A n c,.slice none 0 d]).run Tryz.prog w=.ok (.slice A n c) w:=by
   rcases hown.2.1.2 with ⟨e,rfl⟩ | ⟨g,cap,cur,e,_,_,hnc,_⟩
   ·injection e with e1 _ e3;subst e1;subst e3
    simp[Builtin.append_,run_underlying Tryz.underlying23,sizeOf,typeInfo,hi,Builtin.lenOf,Builtin.firstCells]
   ·injection e with e1 _ e3;subst e1;subst e3
    simp[Builtin.append_,run_underlying Tryz.underlying23,sizeOf,typeInfo,hi,Builtin.lenOf,Builtin.firstCells,hnc,storeCells]
  unfold Oper.wp execOp;simp only[ho,resolve,invoke,builtin,Sem.run_bind,Sem.run_pure,Result.andThen_ok,List.map_toArray,List.map_cons,List.map_nil,hs,hx,hrun];exact hK _ _ (h A c w (by simpa using hown) (World.grownBy.refl w _))
 ·refine wpList_own (P:=Tryz.prog) hgd s x 23 ho i0 1 Tryz.underlying23 hi hz0 (by omega) hz1 hz2 hs hown ad m d l hx hr.1 hr.2.1 ?_ (by unfold maxLen;omega) (by omega) hbase h
  ·intro j u hu;have hj:j < l.length:=by
    have:=(List.getElem?_eq_some_iff.1 hu).1
    rwa [vs_length] at this
   obtain⟨b,o',e,_,hc⟩:=hr.2.2 (by rw[←hr.1];omega);injection e with e
   subst e;rw[vs_at _ l j hj] at hu;injection hu with hu
   subst hu;have:=hc j hj;rw[←this];unfold Addr.add
   split
   ·rename_i h0;subst h0;rfl
   ·rfl
theorem rd_lit8 (w:World)(l:List Nat)(n:Nat)(hn:l.length=n)(hl:∀ x∈l,x < 256):Rd .u8 256 (w.alloc (.cells (vs .u8 l).toArray 5)) (w.heap.size+1) (some ⟨w.heap.size,0,none⟩) n l:=by
 refine⟨hn,hl,fun _=>⟨w.heap.size,0,rfl,by omega,fun k hk=>?_⟩⟩;rw[World.cell?_alloc_at _ _ _ _ rfl];simp[vs,List.getElem?_eq_getElem hk]
theorem elem22:Tryz.prog.elem 23=5:=by kernel_rfl
theorem under22:Tryz.prog.underlying 23=some (.slice (Tryz.prog.elem 23)):=by rw[elem22];exact Tryz.underlying23
theorem size5 (W:World):(sizeOf 5).run Tryz.prog W=.ok 1 W:=by
 obtain⟨i0,hi,_,hz1,_⟩:=info_parts info5;simp[sizeOf,typeInfo,hi,hz1]
theorem cut_from (A:Option Addr)(n c k:Nat)(hk:k≤n)(hnc:n≤c):∃ A1 c1,n - k≤c1∧c1≤c ∧
  (∀ (W:World) (i:Int),i=k→(Instr.slice 23 (.slice A n c) (some (.int .i64 i)) none none).run Tryz.prog W=.ok (.slice A1 (n - k) c1) W)∧(∀ (W:World) (i:Int),i=k→(Instr.sliceAt 23 (.slice A n c) (some (.int .i64 i)) none none).run Tryz.prog W=.ok (.slice A1 (n - k) c1) W) ∧
  ∀ w B l,Rd .u8 256 w B A n l→Rd .u8 256 w B A1 (n - k) (l.drop k):=by
 have h1:∀ (W:World) (i:Int),i=k→(Instr.slice 23 (.slice A n c) (some (.int .i64 i)) none none).run Tryz.prog W=.ok (.slice (if c=k then A else A.map (·.add k)) (n - k) (c - k)) W:=fun W i hi=>by
  subst hi;rw[run_slice_l (P:=Tryz.prog) (w:=W) 23 A n c under22 .i64 (k:Int) (by omega) (by omega),elem22,size5];simp only[Result.andThen,sliced,Int.toNat_natCast,Nat.mul_one]
 refine⟨_,_,?_,?_,h1,fun W i hi=>?_,fun w B l hr=>hr.drop hk hnc⟩
 ·omega
 ·omega
 ·rw[run_sliceAt_slice (P:=Tryz.prog) (w:=W) 23 _ _ _ _ under22];exact h1 W i hi
theorem under5:Tryz.prog.underlying 5=some (.int .u8):=Tryz.underlying5
theorem under9:Tryz.prog.underlying 9=some .string:=Tryz.underlying9
def sb (l:List Nat):ByteArray:=⟨(l.map UInt8.ofNat).toArray⟩
theorem run_str {w:World}{B n:Nat}{A:Option Addr}{l:List Nat}(c:Nat)(h:Rd .u8 256 w B A n l):(convert 23 9 (.slice A n c)).run Tryz.prog w=.ok (.string (sb l)) w:=by
 rcases A with _ | ad
 ·have hn:n=0:=by
   rcases Nat.eq_zero_or_pos n with h0 | h0
   ·exact h0
   ·obtain⟨_,_,e,_⟩:=h.2.2 h0;cases e
  subst hn;have hl:l=[]:=List.eq_nil_of_length_eq_zero h.1;subst hl;rw[run_convert_bytes_nil w 23 5 Tryz.underlying23 under5 0 c 9 under9];rfl
 ·have hld:(loadCells ad n).run Tryz.prog w=.ok ((l.map fun(c:Nat)=>(c:Int)).map (Value.int .u8)).toArray w:=by
   have hh:=run_loadCells_list (P:=Tryz.prog) w ad ((l.map fun(c:Nat)=>(c:Int)).map (Value.int .u8)) (fun j v hj=>by
    have hjl:j < l.length:=by
     have:=(List.getElem?_eq_some_iff.1 hj).1
     simpa using this
    obtain⟨b,o',e,_,hc⟩:=h.2.2 (by rw[←h.1];omega);injection e with e
    subst e;have:=hc j hjl;simp[List.getElem?_eq_getElem hjl] at hj;subst hj;rw[←this];unfold Addr.add
    split
    ·rename_i h0;subst h0;rfl
    ·rfl)
   rw[List.length_map,List.length_map,h.1] at hh;exact hh
  rw[run_convert_bytes_string w 23 9 5 (some ad) n c Tryz.underlying23 under5 under9,run_bytesToString w ad n c _ hld,foldl_push_bytes];have e:(l.map fun(c:Nat)=>(c:Int)).map (fun n=>UInt8.ofNat n.toNat)=l.map UInt8.ofNat:=by
   rw[List.map_map]
   apply List.map_congr_left
   intro x _;simp
  rw[e];simp[sb]
def tab:Array Value:=#[.int .u32 127,.int .u8 0,.int .u8 127,.int .u32 2047,.int .u8 192,.int .u8 31,.int .u32 65535,.int .u8 224,.int .u8 15,.int .u32 1114111,.int .u8 240,.int .u8 7]
def Tab (w:World):Prop:=∃ t fr,w.heap[0]? = some (.cells tab t fr)
theorem Tab.pos {w:World}(h:Tab w):0 < w.heap.size:=by
 obtain⟨t,fr,h⟩:=h;exact(Array.getElem?_eq_some_iff.1 h).1
theorem Tab.below {w w':World}{B:Nat}(h:Tab w)(hb:Below B w w')(h0:0 < B):Tab w':=by
 obtain⟨t,fr,h⟩:=h;exact⟨t,fr,(hb.block 0 h0).trans h⟩
theorem Tab.call {w w':World}(h:Tab w)(hb:Below w.heap.size w w'):Tab w':=h.below hb h.pos
theorem Tab.cell {w:World}(h:Tab w)(k:Nat):w.cell? ⟨0,k,none⟩=tab[k]?:=by
 obtain⟨t,fr,h⟩:=h;exact cell_of_row w 0 k tab t fr h
end Go.Proofs.YtcilmmdmkpnppaaGreatDoor.Utf
end
section
namespace Go.Proofs.YtcilmmdmkpnppaaGreatDoor.Enc
open Go.RowKit Utf
def be (X:Nat):Nat→List Nat
 | 0=>[]
 | k+1=>X / 256 ^ k % 256::be X k
theorem be_length (X:Nat):∀ k,(be X k).length=k
 | 0=>rfl
 | k+1=>by simp[be,be_length X k]
def GivesL (base:Nat)(l:List Nat)(w:World)(e:Ending)(w':World):Prop:=∃ A n c,e=.returned (.slice A n c)∧Own .u8 256 5 w' base A n c l∧Below base w w'
theorem GivesL.mk {base n c:Nat}{A:Option Addr}{l l':List Nat}{w w':World}{e:Ending}(he:e=.returned (.slice A n c))(hl:l'=l)(ho:Own .u8 256 5 w' base A n c l')(hb:Below base w w'):GivesL base l w e w':=by
 subst hl;exact⟨A,n,c,he,ho,hb⟩
theorem pow256 (k:Nat):256 ^ k=2 ^ (8 * k):=by rw[show (256:Nat)=2 ^ 8 from rfl,←Nat.pow_mul]
theorem shr_byte (X j:Nat):((X:Int) / 2 ^ (8 * j)) % 256=((X / 256 ^ j % 256:Nat):Int):=by
 rw[pow256];have h:((X:Int) / 2 ^ (8 * j))=((X / 2 ^ (8 * j):Nat):Int):=by simp
 rw[h];simp
theorem rd_new (w:World)(z:Int)(b:Nat)(hb:b < 256)(h:z=(b:Int)):Rd .u8 256 (w.alloc (.cells #[.int .u8 z] 5)) (w.heap.size+1) (some ⟨w.heap.size,0,none⟩) 1 [b]:=by
 subst h;exact rd_lit8 w [b] 1 rfl (by intro x hx;simp at hx;omega)
set_option maxRecDepth 100000 in
theorem room_any (k:Nat)(w:World)(hk:k≤70368744177664) :
  Calls Tryz.prog 181 #[.slice none 0 0,.int .i64 k] w (GivesL w.heap.size [] w):=by
 obtain⟨i0,hi,hz0,hz1,hz2⟩:=info_parts info5;have hr:Rd .u8 256 w w.heap.size none 0 []:=Rd.zero _ _ _ _ _;go_enter Tryz.func181,Tryz.ntmps181;go_wp2_with (first
  | (at_make;refine wpList_make_nb (K:=.u8) (M:=256) w rfl _ _ 23 rfl w.heap.size i0 Tryz.underlying23 hi hz0 (by omega) hz1 .i64 .i64 (k:Int) k rfl rfl (by omega) (by rw[hz2];omega) (by unfold maxLen;omega) (Nat.le_refl _) ?_;intro w1 hown1' hgrow1;have hb1:Below w.heap.size w w1:=(Below.refl _ _).grown hgrow1 (Nat.le_refl _) (fun _ h=>by cases h);have hr1:=hr.below hb1;have hs1:=hb1.size)
  | (at_builtin;refine wpList_app8 (l:=[]) (L:=[]) rfl _ _ rfl rfl hown1' rfl hr1 (by omega) hs1 ?_;intro A2 c2 w2 hown2 hgrow2))
 go_ret;simp only[Nat.zero_add,List.nil_append] at hown2;exact GivesL.mk rfl rfl hown2 (hb1.trans (below_grown hown1' hgrow2 hs1))
set_option maxRecDepth 100000 in
theorem layn_any (base:Nat)(A:Option Addr)(n c:Nat)(l:List Nat)(X k:Nat)(w:World)(hown:Own .u8 256 5 w base A n c l)(hbase:base≤w.heap.size)(hn:n≤1048576)(hk:k≤8) :
  Calls Tryz.prog 180 #[.slice A n c,.int .u64 X,.int .i64 k] w (GivesL base (l++be X k) w):=by
 go_enter Tryz.func180,Tryz.ntmps180;go_wp2;go_loopw [0,7] (fun b i wr=>∃ A' n' c' L j,j≤k∧n'+j=n+k∧b=.slice A' n' c'∧i=.int .i64 ((j:Int) - 1)∧Own .u8 256 5 wr base A' n' c' L∧L++be X j=l++be X k∧Below base w wr) (fun _ i _=>(intOf i+1).toNat)
 case atStart=>exact⟨A,n,c,l,k,Nat.le_refl _,rfl,rfl,rfl,hown,rfl,Below.refl _ _⟩
 case round=>
  obtain⟨A',n',c',L,j,hj,hnj,rfl,rfl,ho,hL,hb⟩:=hrel;have HL:=Lib.hid hL;have HN:=Lib.hid hnj;have hn':n'≤2097152:=by omega
  clear hL hnj;by_cases hj0:j=0
  ·subst hj0;go_wp2;go_ret;exact GivesL.mk rfl (by simpa [be] using HL.out) ho hb
  ·obtain⟨i,rfl⟩:∃ i,j=i+1:=⟨j - 1,by omega⟩;have hsb:=shr_byte X i;have HS:=Lib.hid hsb;clear hsb hj0;have hs1:=hb.size;go_wp2_with (at_builtin;refine wpList_app8 (l:=[X / 256 ^ i % 256]) (B:=wr.heap.size+1) rfl _ _ rfl rfl (ho.alloc _) rfl (rd_new _ _ _ (Nat.mod_lt _ (by omega)) HS.out) (by omega) (by simp;omega) ?_;intro A2 c2 w2 hown2 hgrow2);go_roundw
   case rel=>
    have hN:=HN.out;refine⟨A2,n'+1,c2,_,i,by omega,by omega,rfl,?_,hown2,?_,?_⟩
    ·congr 1
    ·rw[←HL.out,be,List.append_assoc];rfl
    ·exact(hb.alloc (by omega) _).trans (below_grown (ho.alloc _) hgrow2 (by simp;omega))
   case measure=>simp[intOf]
theorem lay_any (X k:Nat)(hk:k≤8)(w:World):Calls Tryz.prog 162 #[.slice none 0 0,.int .u64 X,.int .i64 k] w (GivesL w.heap.size (be X k) w):=by
 go_enter Tryz.func162,Tryz.ntmps162;go_wp2_with fail;refine(room_any k _ (by omega)).mono ?_;rintro e w1 ⟨A1,n1,c1,rfl,ho,hb⟩;go_wp2_with fail;refine(layn_any w.heap.size A1 n1 c1 [] X k w1 ho hb.size (by have:=ho.len;simp at this;omega) (by omega)).mono ?_;rintro e w2 ⟨A2,n2,c2,rfl,ho2,hb2⟩;go_wp2;go_ret;exact GivesL.mk rfl (by simp) ho2 (hb.trans hb2)
def sg1 (X:Nat):Nat:=if X % 256 < 128 then X % 256 else X % 256+18446744073709551360
theorem sg_lit (X:Nat):(IntKind.u64.wrap (wrap64 (IntKind.u64.wrap (X * 2 ^ 56)) / 2 ^ 56))=(sg1 X:Int):=by
 unfold wrap64;simp only[IntKind.wrap,IntKind.bits,IntKind.signed];unfold sg1;by_cases h:X % 256 < 128
 ·rw[if_pos h];simp;omega
 ·rw[if_neg h];simp;omega
theorem sgn_any (X:Nat)(w:World) :
  Calls Tryz.prog 86 #[.int .u64 X,.int .i64 1] w fun e w'=>e=.returned (.int .u64 (sg1 X:Nat))∧w'=w:=by
 have E:=Lib.hid (sg_lit X);go_enter Tryz.func86,Tryz.ntmps86;go_wp2;go_ret;exact⟨congrArg (fun z=>Ending.returned (.int .u64 z)) E.out,rfl⟩
def wid (c:Nat):Nat:=if c / 16=4 then 0 else if c / 16 < 10 then 2 ^ (c / 16 - 5) else if c / 16 % 2=0 then 1 else 4
theorem width_any (c:Nat)(h1:64≤c)(h2:c < 256)(w:World):Calls Tryz.prog 124 #[.int .u8 c] w fun e w'=>e=.returned (.int .i64 (wid c:Nat))∧w'=w:=by
 have hd:((c:Int) / 16)=((c / 16:Nat):Int):=by omega
 obtain⟨d,hdd⟩:∃ d,d=c / 16:=⟨_,rfl⟩;have hw:wid c=if d=4 then 0 else if d < 10 then 2 ^ (d - 5) else if d % 2=0 then 1 else 4:=by rw[hdd];rfl
 have hr:4≤d∧d < 16:=by omega
 rw[hw];rw[←hdd] at hd;clear hw hdd;obtain⟨hr1,hr2⟩:=hr;have:d=4∨d=5∨d=6∨d=7∨d=8∨d=9∨d=10∨d=11∨d=12∨d=13∨d=14∨d=15:=by omega
 clear hr1 hr2 h1 h2;rcases this with rfl | rfl | rfl | rfl | rfl | rfl | rfl | rfl | rfl | rfl | rfl | rfl
 all_goals
  go_enter Tryz.func124,Tryz.ntmps124;go_wp2;go_ret;exact⟨rfl,rfl⟩
end Go.Proofs.YtcilmmdmkpnppaaGreatDoor.Enc
end
section
namespace Go.Proofs.YtcilmmdmkpnppaaGreatDoor.Val
inductive V where
 | mk (k n:Nat) (t:ByteArray) (kids:List V)
namespace V
def kind:V→Nat | .mk k _ _ _=>k
def num:V→Nat | .mk _ n _ _=>n
def text:V→ByteArray | .mk _ _ t _=>t
def kids:V→List V | .mk _ _ _ ks=>ks
theorem eta (v:V):v=.mk v.kind v.num v.text v.kids:=by cases v;rfl
mutual
def items:V→Nat
 | .mk _ _ _ ks=>itemsL ks+1
def itemsL:List V→Nat
 | []=>0
 | v::vs=>items v+itemsL vs
end
mutual
def depth:V→Nat
 | .mk _ _ _ ks=>depthL ks+1
def depthL:List V→Nat
 | []=>0
 | v::vs=>max (depth v) (depthL vs)
end
mutual
def bulk:V→Nat
 | .mk _ _ t ks=>bulkL ks+t.size+1
def bulkL:List V→Nat
 | []=>0
 | v::vs=>bulk v+bulkL vs
end
mutual
def same:V→V→Bool
 | .mk k n t ks,.mk k' n' t' ks'=>k==k'&&n==n'&&t.data.toList==t'.data.toList&&sameL ks ks'
def sameL:List V→List V→Bool
 | [],[]=>true
 | a::ar,b::bs=>same a b&&sameL ar bs
 | _,_=>false
end
theorem ba_ext {s t:ByteArray}:s.data.toList=t.data.toList↔s=t:=
 ⟨fun h=>by cases s;cases t;simp at h;simp[h],fun h=>by rw[h]⟩
mutual
theorem same_iff:∀ a b:V,same a b=true↔a=b
 | .mk k n t ks,.mk k' n' t' ks'=>by
  simp only[same,Bool.and_eq_true,beq_iff_eq,sameL_iff ks ks',ba_ext,V.mk.injEq,and_assoc]
theorem sameL_iff:∀ a b:List V,sameL a b=true↔a=b
 | [],[]=>by simp[sameL]
 | [],_::_=>by simp[sameL]
 | _::_,[]=>by simp[sameL]
 | a::ar,b::bs=>by simp[sameL,same_iff a b,sameL_iff ar bs]
end
theorem same_self (a:V):same a a=true:=(same_iff a a).2 rfl
theorem same_no {a b:V}(h:a≠b):same a b=false:=by
 cases hs:same a b with
 | false=>rfl
 | true=>exact absurd ((same_iff a b).1 hs) h
instance:DecidableEq V:=fun a b=>if h:same a b=true then isTrue ((same_iff a b).1 h) else isFalse fun e=>h ((same_iff a b).2 e)
theorem items_pos (v:V):0 < items v:=by cases v;simp[items]
theorem depth_pos (v:V):0 < depth v:=by cases v;simp[depth]
theorem bulk_pos (v:V):0 < bulk v:=by cases v;simp[bulk]
theorem itemsL_append (a b:List V):itemsL (a++b)=itemsL a+itemsL b:=by
 induction a with
 | nil=>simp[itemsL]
 | cons x a ih=>simp[itemsL,ih];omega
theorem depthL_append (a b:List V):depthL (a++b)=max (depthL a) (depthL b):=by
 induction a with
 | nil=>simp[depthL]
 | cons x a ih=>simp[depthL,ih]
theorem bulkL_append (a b:List V):bulkL (a++b)=bulkL a+bulkL b:=by
 induction a with
 | nil=>simp[bulkL]
 | cons x a ih=>simp[bulkL,ih];omega
mutual
theorem items_le:∀ v:V,items v≤bulk v
 | .mk _ _ t ks=>by have:=itemsL_le ks;simp only[items,bulk];omega
theorem itemsL_le:∀ l:List V,itemsL l≤bulkL l
 | []=>by simp[itemsL,bulkL]
 | v::vs=>by have:=items_le v;have:=itemsL_le vs;simp only[itemsL,bulkL];omega
end
theorem length_le (l:List V):l.length≤itemsL l:=by
 induction l with
 | nil=>simp[itemsL]
 | cons x l ih=>have:=items_pos x;simp[itemsL];omega
theorem length_bulk (l:List V):l.length≤bulkL l:=Nat.le_trans (length_le l) (itemsL_le l)
theorem mem_bulk {v:V}{l:List V}(h:v∈l):bulk v≤bulkL l:=by
 induction l with
 | nil=>cases h
 | cons x l ih=>
  rcases List.mem_cons.1 h with rfl | h
  ·simp[bulkL]
  ·have:=ih h;simp[bulkL];omega
theorem at_bulk {v:V}{l:List V}{i:Nat}(h:l[i]? = some v):bulk v≤bulkL l:=mem_bulk (List.mem_of_getElem? h)
theorem kids_bulk (v:V):bulkL v.kids < bulk v:=by cases v;simp[kids,bulk];omega
theorem text_bulk (v:V):v.text.size < bulk v:=by cases v;simp[text,bulk];omega
theorem take_snoc {l:List V}{i:Nat}{v:V}(h:l[i]? = some v):l.take (i+1)=l.take i++[v]:=by
 rw[List.take_add_one,h];rfl
theorem drop_at {l:List V}{i:Nat}{v:V}(h:l[i]? = some v):l.drop i=v::l.drop (i+1):=by
 obtain⟨hi,rfl⟩:=List.getElem?_eq_some_iff.1 h;exact List.drop_eq_getElem_cons hi
theorem itemsL_take {l:List V}{i:Nat}{v:V}(h:l[i]? = some v):itemsL (l.take (i+1))=itemsL (l.take i)+items v:=by
 rw[take_snoc h,itemsL_append];simp[itemsL]
theorem depthL_take {l:List V}{i:Nat}{v:V}(h:l[i]? = some v):depthL (l.take (i+1))=max (depthL (l.take i)) (depth v):=by
 rw[take_snoc h,depthL_append];simp[depthL]
theorem itemsL_take_le (l:List V)(i:Nat):itemsL (l.take i)≤itemsL l:=by
 have:=itemsL_append (l.take i) (l.drop i);rw[List.take_append_drop] at this;omega
theorem depthL_take_le (l:List V)(i:Nat):depthL (l.take i)≤depthL l:=by
 have:=depthL_append (l.take i) (l.drop i);rw[List.take_append_drop] at this;omega
end V
end Go.Proofs.YtcilmmdmkpnppaaGreatDoor.Val
end
section
namespace Go.Proofs.YtcilmmdmkpnppaaGreatDoor.Val
open Go.RowKit Utf V
theorem infoV:(Tryz.prog.info? 44).map (fun i=>(i.zero,i.size,i.bytes))=some (some (.agg #[.int .u8 0,.int .u64 0,.string ⟨#[]⟩,.slice none 0 0]),4,56):=by kernel_rfl
mutual
def RepV (own:Bool)(w:World)(P:Nat→Prop):V→Nat→Nat→Prop
 | .mk k n t ks,b,o=>∃ A l c,w.cell? ⟨b,o,none⟩=some (.int .u8 (k:Int))∧w.cell? ⟨b,o+1,none⟩=some (.int .u64 (n:Int))∧w.cell? ⟨b,o+2,none⟩=some (.string t)∧w.cell? ⟨b,o+3,none⟩=some (.slice A l c) ∧
   k < 256∧n < 18446744073709551616∧l=ks.length∧l≤c∧(0 < l→∃ b' o',A=some ⟨b',o',none⟩∧P b'∧(own=true→∃ C,w.heap[b']? = some (.cells C 44 (0,0)))∧RowL own w P ks b' o')
def RowL (own:Bool)(w:World)(P:Nat→Prop):List V→Nat→Nat→Prop
 | [],_,_=>True
 | v::vs,b,o=>RepV own w P v b o∧RowL own w P vs b (o+4)
end
def Kids (own:Bool)(w:World)(P:Nat→Prop)(ks:List V)(A:Option Addr)(l c:Nat):Prop:=
 l=ks.length∧l≤c∧(0 < l→∃ b' o',A=some ⟨b',o',none⟩∧P b'∧(own=true→∃ C,w.heap[b']? = some (.cells C 44 (0,0)))∧RowL own w P ks b' o')
theorem repV_iff {own:Bool}{w:World}{P:Nat→Prop}{k n:Nat}{t:ByteArray}{ks:List V}{b o:Nat}:RepV own w P (.mk k n t ks) b o ↔
  ∃ A l c,w.cell? ⟨b,o,none⟩=some (.int .u8 (k:Int))∧w.cell? ⟨b,o+1,none⟩=some (.int .u64 (n:Int))∧w.cell? ⟨b,o+2,none⟩=some (.string t)∧w.cell? ⟨b,o+3,none⟩=some (.slice A l c) ∧
   k < 256∧n < 18446744073709551616∧Kids own w P ks A l c:=by
 simp only[RepV,Kids]
theorem rowL_at {own:Bool}{w:World}{P:Nat→Prop}:∀ {ks:List V} {b o i:Nat} {v:V},RowL own w P ks b o→ks[i]? = some v→RepV own w P v b (o+i * 4)
 | [],_,_,_,_,_,h=>by simp at h
 | x::ks,b,o,0,v,hr,h=>by
  simp at h;subst h
  simpa using hr.1
 | x::ks,b,o,i+1,v,hr,h=>by
  have:=rowL_at (i:=i) hr.2 (by simpa using h)
  rwa [show o+(i+1) * 4=o+4+i * 4 by omega]
theorem rowL_mk {own:Bool}{w:World}{P:Nat→Prop}:∀ {ks:List V} {b o:Nat},(∀ i v,ks[i]? = some v→RepV own w P v b (o+i * 4))→RowL own w P ks b o
 | [],_,_,_=>trivial
 | x::ks,b,o,h=>⟨by simpa using h 0 x rfl,rowL_mk fun i v hi=>by
  have:=h (i+1) v (by simpa using hi)
  rwa [show o+(i+1) * 4=o+4+i * 4 by omega] at this⟩
mutual
theorem RepV.keep {own:Bool}{w w':World}{P:Nat→Prop}(hk:∀ i,P i→w'.heap[i]? = w.heap[i]?):∀ {v:V} {b o:Nat},(∀ j,j < 4→w'.cell? ⟨b,o+j,none⟩=w.cell? ⟨b,o+j,none⟩)→RepV own w P v b o→RepV own w' P v b o
 | .mk _ _ _ _,_,_,hb,h=>by
  obtain⟨A,l,c,h0,h1,h2,h3,hk',hn,hl,hlc,hr⟩:=h;refine⟨A,l,c,(hb 0 (by omega)).trans h0,(hb 1 (by omega)).trans h1,(hb 2 (by omega)).trans h2,(hb 3 (by omega)).trans h3,hk',hn,hl,hlc,fun h=>?_⟩;obtain⟨b',o',e,hP,ho,hrow⟩:=hr h;exact⟨b',o',e,hP,fun h=>by rw[hk b' hP];exact ho h,hrow.keep hk hP⟩
theorem RowL.keep {own:Bool}{w w':World}{P:Nat→Prop}(hk:∀ i,P i→w'.heap[i]? = w.heap[i]?):∀ {ks:List V} {b o:Nat},P b→RowL own w P ks b o→RowL own w' P ks b o
 | [],_,_,_,_=>trivial
 | _::_,b,_,hP,h=>⟨RepV.keep hk (fun _ _=>World.cell?_of_block (hk b hP)) h.1,RowL.keep hk hP h.2⟩
end
mutual
theorem RepV.mono {own:Bool}{w:World}{P P':Nat→Prop}(hk:∀ i,P i→P' i):∀ {v:V} {b o:Nat},RepV own w P v b o→RepV own w P' v b o
 | .mk _ _ _ _,_,_,h=>by
  obtain⟨A,l,c,h0,h1,h2,h3,hk',hn,hl,hlc,hr⟩:=h;refine⟨A,l,c,h0,h1,h2,h3,hk',hn,hl,hlc,fun h=>?_⟩;obtain⟨b',o',e,hP,ho,hrow⟩:=hr h;exact⟨b',o',e,hk _ hP,ho,hrow.mono hk⟩
theorem RowL.mono {own:Bool}{w:World}{P P':Nat→Prop}(hk:∀ i,P i→P' i):∀ {ks:List V} {b o:Nat},RowL own w P ks b o→RowL own w P' ks b o
 | [],_,_,_=>trivial
 | _::_,_,_,h=>⟨h.1.mono hk,h.2.mono hk⟩
end
mutual
theorem RepV.weak {own:Bool}{w:World}{P:Nat→Prop}:∀ {v:V} {b o:Nat},RepV own w P v b o→RepV false w P v b o
 | .mk _ _ _ _,_,_,h=>by
  obtain⟨A,l,c,h0,h1,h2,h3,hk',hn,hl,hlc,hr⟩:=h;refine⟨A,l,c,h0,h1,h2,h3,hk',hn,hl,hlc,fun h=>?_⟩;obtain⟨b',o',e,hP,ho,hrow⟩:=hr h;exact⟨b',o',e,hP,fun h=>(by cases h),hrow.weak⟩
theorem RowL.weak {own:Bool}{w:World}{P:Nat→Prop}:∀ {ks:List V} {b o:Nat},RowL own w P ks b o→RowL false w P ks b o
 | [],_,_,_=>trivial
 | _::_,_,_,h=>⟨h.1.weak,h.2.weak⟩
end
section
variable {own:Bool} {w w':World} {P P':Nat→Prop} {ks:List V} {A:Option Addr} {l c:Nat}
theorem Kids.len (h:Kids own w P ks A l c):l=ks.length:=h.1
theorem Kids.cap (h:Kids own w P ks A l c):l≤c:=h.2.1
theorem Kids.none_ (own:Bool)(w:World)(P:Nat→Prop)(A:Option Addr)(c:Nat):Kids own w P [] A 0 c:=⟨rfl,Nat.zero_le _,fun h=>absurd h (by omega)⟩
theorem Kids.keep (h:Kids own w P ks A l c)(hk:∀ i,P i→w'.heap[i]? = w.heap[i]?):Kids own w' P ks A l c:=
 ⟨h.1,h.2.1,fun hl=>by
  obtain⟨b',o',e,hP,ho,hrow⟩:=h.2.2 hl;exact⟨b',o',e,hP,fun h=>by rw[hk b' hP];exact ho h,hrow.keep hk hP⟩⟩
theorem Kids.mono (h:Kids own w P ks A l c)(hk:∀ i,P i→P' i):Kids own w P' ks A l c:=
 ⟨h.1,h.2.1,fun hl=>by
  obtain⟨b',o',e,hP,ho,hrow⟩:=h.2.2 hl;exact⟨b',o',e,hk _ hP,ho,hrow.mono hk⟩⟩
theorem Kids.weak (h:Kids own w P ks A l c):Kids false w P ks A l c:=
 ⟨h.1,h.2.1,fun hl=>by
  obtain⟨b',o',e,hP,ho,hrow⟩:=h.2.2 hl;exact⟨b',o',e,hP,fun h=>(by cases h),hrow.weak⟩⟩
theorem Kids.at_ (h:Kids own w P ks A l c){i:Nat}(hi:i < l):∃ b o k n t ks' A' l' c',A=some ⟨b,o,none⟩∧P b∧ks[i]? = some (.mk k n t ks') ∧
  w.cell? ⟨b,o+i * 4,none⟩=some (.int .u8 (k:Int))∧w.cell? ⟨b,o+i * 4+1,none⟩=some (.int .u64 (n:Int))∧w.cell? ⟨b,o+i * 4+2,none⟩=some (.string t)∧w.cell? ⟨b,o+i * 4+3,none⟩=some (.slice A' l' c') ∧
  k < 256∧n < 18446744073709551616∧Kids own w P ks' A' l' c':=by
 obtain⟨b,o,e,hP,_,hrow⟩:=h.2.2 (by omega);have hil:i < ks.length:=by rw[←h.1];exact hi
 have hx:ks[i]? = some ks[i]:=List.getElem?_eq_getElem hil;have hr:=rowL_at hrow hx;cases hv:ks[i] with
 | mk k n t ks'=>
  rw[hv] at hx hr;obtain⟨A',l',c',h0,h1,h2,h3,hk',hn,hK⟩:=repV_iff.1 hr;exact⟨b,o,k,n,t,ks',A',l',c',e,hP,hx,h0,h1,h2,h3,hk',hn,hK⟩
end
theorem below_drewN {B:Nat}{a w:World}(h:Below B a w)(n:Nat):Below B a (w.drewN n):=⟨h.os,h.tape,h.output,h.size,h.block⟩
def Kd (w:World)(ks:List V)(A:Option Addr)(l c:Nat):Prop:=Kids false w (fun i=>i < w.heap.size) ks A l c
def Nw (B:Nat)(w:World)(ks:List V)(A:Option Addr)(l c:Nat):Prop:=Kids true w (fun i=>B≤i∧i < w.heap.size) ks A l c
section
variable {w w':World} {B B':Nat} {ks:List V} {A:Option Addr} {l c:Nat}
theorem Kd.len (h:Kd w ks A l c):l=ks.length:=h.1
theorem Kd.cap (h:Kd w ks A l c):l≤c:=h.2.1
theorem Kd.none_ (w:World)(A:Option Addr)(c:Nat):Kd w [] A 0 c:=Kids.none_ _ _ _ _ _
theorem Kd.at_ (h:Kd w ks A l c){i:Nat}(hi:i < l):∃ b o k n t ks' A' l' c',A=some ⟨b,o,none⟩∧b < w.heap.size∧ks[i]? = some (.mk k n t ks') ∧
  w.cell? ⟨b,o+i * 4,none⟩=some (.int .u8 (k:Int))∧w.cell? ⟨b,o+i * 4+1,none⟩=some (.int .u64 (n:Int))∧w.cell? ⟨b,o+i * 4+2,none⟩=some (.string t)∧w.cell? ⟨b,o+i * 4+3,none⟩=some (.slice A' l' c') ∧
  k < 256∧n < 18446744073709551616∧Kd w ks' A' l' c':=Kids.at_ h hi
theorem Kd.call (h:Kd w ks A l c)(hb:Below w.heap.size w w'):Kd w' ks A l c:=(h.keep fun i hi=>hb.block i hi).mono fun _ hi=>Nat.lt_of_lt_of_le hi hb.size
theorem Kd.alloc (h:Kd w ks A l c)(o:Obj):Kd (w.alloc o) ks A l c:=h.call ((Below.refl _ _).alloc (Nat.le_refl _) _)
theorem Kd.drew (h:Kd w ks A l c):Kd w.drew ks A l c:=h.call ((Below.refl _ _).drew)
theorem Nw.kd (h:Nw B w ks A l c):Kd w ks A l c:=h.weak.mono fun _ hi=>hi.2
theorem Nw.len (h:Nw B w ks A l c):l=ks.length:=h.1
theorem Nw.call (h:Nw B w ks A l c)(hb:Below w.heap.size w w'):Nw B w' ks A l c:=(h.keep fun i hi=>hb.block i hi.2).mono fun _ hi=>⟨hi.1,Nat.lt_of_lt_of_le hi.2 hb.size⟩
theorem Nw.less (h:Nw B w ks A l c)(hB:B'≤B):Nw B' w ks A l c:=h.mono fun _ hi=>⟨Nat.le_trans hB hi.1,hi.2⟩
end
end Go.Proofs.YtcilmmdmkpnppaaGreatDoor.Val
end
section
namespace Go.Proofs.YtcilmmdmkpnppaaGreatDoor.Val
open Go.RowKit Utf V
theorem box_kept {wr w':World}{b o:Nat}{v:Value}(h:wr.cell? ⟨b,o,none⟩=some v)(hb:Below wr.heap.size wr w')(hlt:b < wr.heap.size):w'.cell? ⟨b,o,none⟩=some v:=(hb.cell (p:=⟨b,o,none⟩) hlt).trans h
theorem ret_int {k:IntKind}{a b:Int}(h:a=b):Ending.returned (.int k a)=.returned (.int k b):=by rw[h]
theorem below_next {w wr w':World}(hb:Below w.heap.size w wr)(h:Below wr.heap.size wr w'):Below w.heap.size w w':=hb.trans (h.mono hb.size)
end Go.Proofs.YtcilmmdmkpnppaaGreatDoor.Val
namespace Go.Proofs.YtcilmmdmkpnppaaGreatDoor.Val
open Go.RowKit Utf V
theorem ba_toList {s t:ByteArray}(h:s.toList=t.toList):s=t:=by
 obtain⟨⟨a⟩⟩:=s;obtain⟨⟨b⟩⟩:=t
 simpa using h
def GivesB (p:Bool)(w:World)(e:Ending)(w':World):Prop:=e=.returned (.bool p)∧Below w.heap.size w w'
end Go.Proofs.YtcilmmdmkpnppaaGreatDoor.Val
namespace Go.Proofs.YtcilmmdmkpnppaaGreatDoor.Val
open Go.RowKit Utf V
def aloneB (k k' n n':Nat)(t t':ByteArray)(l l':Nat):Bool:=k==k'&&n==n'&&t.data.toList==t'.data.toList&&l==l'
theorem aloneB_no {k k' n n':Nat}{t t':ByteArray}{l l':Nat}(h:¬ (k=k'∧n=n'∧t=t'∧l=l')):aloneB k k' n n' t t' l l'=false:=by
 cases hb:aloneB k k' n n' t t' l l' with
 | false=>rfl
 | true=>
  simp only[aloneB,Bool.and_eq_true,beq_iff_eq,ba_ext] at hb;exact absurd ⟨hb.1.1.1,hb.1.1.2,hb.1.2,hb.2⟩ h
theorem aloneB_yes (k n:Nat)(t:ByteArray)(l:Nat):aloneB k k n n t t l l=true:=by simp[aloneB]
theorem aloneB_iff {k k' n n':Nat}{t t':ByteArray}{l l':Nat}(h:aloneB k k' n n' t t' l l'=true):k=k'∧n=n'∧t=t'∧l=l':=by
 simp only[aloneB,Bool.and_eq_true,beq_iff_eq,ba_ext] at h;exact⟨h.1.1.1,h.1.1.2,h.1.2,h.2⟩
theorem two_boxes (w:World)(o o':Obj):Below w.heap.size w ((w.alloc o).alloc o'):=((Below.refl _ _).alloc (Nat.le_refl _) _).alloc (by simp) _
set_option maxHeartbeats 800000 in
theorem sameAlone_any (k n:Nat)(t:ByteArray)(A:Option Addr)(l c:Nat)(k' n':Nat)(t':ByteArray)(A':Option Addr)(l' c':Nat)(w:World) :
  Calls Tryz.prog 116 #[.agg #[.int .u8 k,.int .u64 n,.string t,.slice A l c],.agg #[.int .u8 k',.int .u64 n',.string t',.slice A' l' c']] w (GivesB (aloneB k k' n n' t t' l l') w):=by
 by_cases e1:k=k'
 ·subst e1;by_cases e2:n=n'
  ·subst e2;by_cases e3:t=t'
   ·subst e3;by_cases e4:l=l'
    ·subst e4;have hB:=Lib.hid (aloneB_yes k n t l);go_enter Tryz.func116,Tryz.ntmps116;go_wp2;go_ret;exact⟨by rw[hB.out];rfl,two_boxes _ _ _⟩
    ·have hB:=Lib.hid (aloneB_no (k:=k) (k':=k) (n:=n) (n':=n) (t:=t) (t':=t) (fun h=>e4 h.2.2.2));have hd:((l:Int)==(l':Int))=false:=by rw[beq_eq_false_iff_ne];omega
     go_enter Tryz.func116,Tryz.ntmps116;go_wp2;go_ret;exact⟨by rw[hB.out];rfl,two_boxes _ _ _⟩
   ·have hB:=Lib.hid (aloneB_no (k:=k) (k':=k) (n:=n) (n':=n) (l:=l) (l':=l') (fun h=>e3 h.2.2.1));have hd:¬ t.toList=t'.toList:=fun h=>e3 (ba_toList h);go_enter Tryz.func116,Tryz.ntmps116;go_wp2;go_ret;exact⟨by rw[hB.out];rfl,two_boxes _ _ _⟩
  ·have hB:=Lib.hid (aloneB_no (k:=k) (k':=k) (t:=t) (t':=t') (l:=l) (l':=l') (fun h=>e2 h.2.1));have hd:((n:Int)==(n':Int))=false:=by rw[beq_eq_false_iff_ne];omega
   go_enter Tryz.func116,Tryz.ntmps116;go_wp2;go_ret;exact⟨by rw[hB.out];rfl,two_boxes _ _ _⟩
 ·have hB:=Lib.hid (aloneB_no (n:=n) (n':=n') (t:=t) (t':=t') (l:=l) (l':=l') (fun h=>e1 h.1));have hd:((k:Int)==(k':Int))=false:=by rw[beq_eq_false_iff_ne];omega
  go_enter Tryz.func116,Tryz.ntmps116;go_wp2;go_ret;exact⟨by rw[hB.out];rfl,two_boxes _ _ _⟩
def nameB (k:Nat):Bool:=k==6||k==21
theorem isName_any (k n:Nat)(t:ByteArray)(A:Option Addr)(l c:Nat)(w:World) :
  Calls Tryz.prog 130 #[.agg #[.int .u8 k,.int .u64 n,.string t,.slice A l c]] w (GivesB (nameB k) w):=by
 by_cases h6:k=6
 ·subst h6;go_enter Tryz.func130,Tryz.ntmps130;go_wp2;go_ret;exact⟨rfl,(Below.refl _ _).alloc (Nat.le_refl _) _⟩
 ·have d6:((k:Int)==6)=false:=by rw[beq_eq_false_iff_ne];omega
  by_cases h21:k=21
  ·subst h21;go_enter Tryz.func130,Tryz.ntmps130;go_wp2;go_ret;exact⟨rfl,(Below.refl _ _).alloc (Nat.le_refl _) _⟩
  ·have d21:((k:Int)==21)=false:=by rw[beq_eq_false_iff_ne];omega
   have hB:Hid (nameB k=false):=Lib.hid (by simp[nameB,h6,h21]);go_enter Tryz.func130,Tryz.ntmps130;go_wp2;go_ret;exact⟨by rw[hB.out];rfl,(Below.refl _ _).alloc (Nat.le_refl _) _⟩
def GivesV (k n:Nat)(t:ByteArray)(w:World)(e:Ending)(w':World):Prop:=e=.returned (.agg #[.int .u8 k,.int .u64 n,.string t,.slice none 0 0])∧Below w.heap.size w w'
theorem number_any (k n:Nat)(w:World):Calls Tryz.prog 20 #[.int .u8 k,.int .u64 n] w (GivesV k n ⟨#[]⟩ w):=by
 go_enter Tryz.func20,Tryz.ntmps20;go_wp2;exact bodyPost_ret (v:=.agg #[.int .u8 k,.int .u64 n,.string ⟨#[]⟩,.slice none 0 0]) (by simp[results,Tryz.results20,go_sem]) rfl ⟨rfl,(Below.refl _ _).alloc (Nat.le_refl _) _⟩
theorem text_any' (k:Nat)(t:ByteArray)(w:World):Calls Tryz.prog 19 #[.int .u8 k,.string t] w (GivesV k 0 t w):=by
 go_enter Tryz.func19,Tryz.ntmps19;go_wp2;exact bodyPost_ret (v:=.agg #[.int .u8 k,.int .u64 0,.string t,.slice none 0 0]) (by simp[results,Tryz.results19,go_sem]) rfl ⟨rfl,(Below.refl _ _).alloc (Nat.le_refl _) _⟩
theorem null_any (w:World):Calls Tryz.prog 17 #[] w (GivesV 1 0 ⟨#[]⟩ w):=by
 go_enter Tryz.func17,Tryz.ntmps17;go_wp2;exact bodyPost_ret (v:=.agg #[.int .u8 1,.int .u64 0,.string ⟨#[]⟩,.slice none 0 0]) (by simp[results,Tryz.results17,go_sem]) rfl ⟨rfl,(Below.refl _ _).alloc (Nat.le_refl _) _⟩
def Box (w:World)(g:Nat)(x0 x1 x2 x3:Value):Prop:=w.heap[g]? = some (.cells #[x0,x1,x2,x3] 44 (0,0))
section
variable {w w':World} {g B:Nat} {x0 x1 x2 x3:Value}
theorem Box.lt (h:Box w g x0 x1 x2 x3):g < w.heap.size:=(Array.getElem?_eq_some_iff.1 h).1
theorem Box.new (w:World)(x0 x1 x2 x3:Value):Box (w.alloc (.cells #[x0,x1,x2,x3] 44)) w.heap.size x0 x1 x2 x3:=heap_alloc_new w _
theorem Box.below (h:Box w g x0 x1 x2 x3)(hb:Below B w w')(hg:g < B):Box w' g x0 x1 x2 x3:=(hb.block g hg).trans h
theorem Box.call (h:Box w g x0 x1 x2 x3)(hb:Below w.heap.size w w'):Box w' g x0 x1 x2 x3:=h.below hb h.lt
theorem Box.alloc (h:Box w g x0 x1 x2 x3)(o:Obj):Box (w.alloc o) g x0 x1 x2 x3:=h.call ((Below.refl _ _).alloc (Nat.le_refl _) _)
theorem Box.all (h:Box w g x0 x1 x2 x3):w.cell? ⟨g,0,none⟩=some x0∧w.cell? ⟨g,1,none⟩=some x1∧w.cell? ⟨g,2,none⟩=some x2∧w.cell? ⟨g,3,none⟩=some x3∧∀ j,w.frozen? ⟨g,j,none⟩=false:=by
 refine⟨cell_of_row w g 0 _ _ _ h,cell_of_row w g 1 _ _ _ h,cell_of_row w g 2 _ _ _ h,cell_of_row w g 3 _ _ _ h,fun j=>?_⟩;unfold Box at h;simp[World.frozen?,h]
end
theorem below_set4 {B:Nat}{w w1:World}(h:Below B w w1){g:Nat}(hg:B≤g)(a b c d:Value):Below B w ((((w1.setCell ⟨g,0,none⟩ a).setCell ⟨g,1,none⟩ b).setCell ⟨g,2,none⟩ c).setCell ⟨g,3,none⟩ d):=
 (((h.setCell (p:=⟨g,0,none⟩) hg _).setCell (p:=⟨g,1,none⟩) hg _).setCell (p:=⟨g,2,none⟩) hg _).setCell (p:=⟨g,3,none⟩) hg _
theorem Box.set4 {w:World}{g:Nat}{x0 x1 x2 x3:Value}(h:Box w g x0 x1 x2 x3)(a b c d:Value):Box ((((w.setCell ⟨g,0,none⟩ a).setCell ⟨g,1,none⟩ b).setCell ⟨g,2,none⟩ c).setCell ⟨g,3,none⟩ d) g a b c d:=by
 unfold Box at h ⊢;simp[World.setCell,Array.getElem?_modify,h]
theorem Box.far {w:World}{g:Nat}{x0 x1 x2 x3:Value}(h:Box w g x0 x1 x2 x3){p:Addr}(hp:g≠p.block)(u:Value):Box (w.setCell p u) g x0 x1 x2 x3:=(Below.heap_setCell w p u g hp).trans h
theorem Box.far4 {w:World}{g g':Nat}{x0 x1 x2 x3:Value}(h:Box w g x0 x1 x2 x3)(hp:g≠g')(a b c d:Value):Box ((((w.setCell ⟨g',0,none⟩ a).setCell ⟨g',1,none⟩ b).setCell ⟨g',2,none⟩ c).setCell ⟨g',3,none⟩ d) g x0 x1 x2 x3:=
 (((h.far (p:=⟨g',0,none⟩) hp _).far (p:=⟨g',1,none⟩) hp _).far (p:=⟨g',2,none⟩) hp _).far (p:=⟨g',3,none⟩) hp _
theorem bool_any (p:Bool)(w:World):Calls Tryz.prog 18 #[.bool p] w (GivesV 2 (if p then 1 else 0) ⟨#[]⟩ w):=by
 have h0:=Box.new w (.int .u8 0) (.int .u64 0) (.string ⟨#[]⟩) (.slice none 0 0);have hb0:Below w.heap.size w (w.alloc (.cells #[.int .u8 0,.int .u64 0,.string ⟨#[]⟩,.slice none 0 0] 44)):=(Below.refl _ _).alloc (Nat.le_refl _) _;cases p
 ·go_enter Tryz.func18,Tryz.ntmps18;go_wp2_with fail;refine(number_any 2 0 _).mono ?_;rintro e w1 ⟨rfl,hb⟩;have hb1:=below_next hb0 hb;obtain⟨c0,c1,c2,c3,f⟩:=(h0.call hb).all;go_wp2;exact bodyPost_ret (v:=.agg #[.int .u8 2,.int .u64 0,.string ⟨#[]⟩,.slice none 0 0]) (by simp[results,Tryz.results18,go_sem,c0,c1,c2,c3]) rfl ⟨rfl,below_set4 hb1 (Nat.le_refl _) _ _ _ _⟩
 ·go_enter Tryz.func18,Tryz.ntmps18;go_wp2_with fail;refine(number_any 2 1 _).mono ?_;rintro e w1 ⟨rfl,hb⟩;have hb1:=below_next hb0 hb;obtain⟨c0,c1,c2,c3,f⟩:=(h0.call hb).all;go_wp2;exact bodyPost_ret (v:=.agg #[.int .u8 2,.int .u64 1,.string ⟨#[]⟩,.slice none 0 0]) (by simp[results,Tryz.results18,go_sem,c0,c1,c2,c3]) rfl ⟨rfl,below_set4 hb1 (Nat.le_refl _) _ _ _ _⟩
end Go.Proofs.YtcilmmdmkpnppaaGreatDoor.Val
namespace Go.Proofs.YtcilmmdmkpnppaaGreatDoor.Val
set_option maxRecDepth 100000
open Go.RowKit Utf V
theorem own_pop {w:World}{base:Nat}{e:TypeId}{size n m c:Nat}{A:Option Addr}{xs ys:List Value}(h:w.ownsRow base e size (.slice A n c) n (xs++ys))(hx:xs.length=m * size)(hm:m < n) :
  w.ownsRow base e size (.slice A m c) m xs:=by
 refine⟨hx,?_⟩;rcases h.2 with ⟨_,h0⟩ | ⟨g,cap,cur,hv,hb,hg,hnc,hcm,hcs,htake⟩
 ·omega
 ·injection hv with h1 _ h3
  subst h1;subst h3;refine .inr ⟨g,c,cur,rfl,hb,hg,by omega,hcm,hcs,?_⟩;have hle:m * size≤n * size:=Nat.mul_le_mul_right _ (by omega);have:=congrArg (List.take (m * size)) htake;have e2:(xs++ys).take (m * size)=xs:=by rw[←hx];simp
  rw[List.take_take,Nat.min_eq_left hle,e2] at this;exact this
theorem own_form {w:World}{base:Nat}{e:TypeId}{size n c:Nat}{A:Option Addr}{xs:List Value}(h:w.ownsRow base e size (.slice A n c) n xs)(hn:0 < n):∃ g,A=some ⟨g,0,none⟩∧base≤g∧g < w.heap.size:=by
 obtain⟨g,cap,hv,hb,hlt⟩:=h.form hn;injection hv with h1
 exact⟨g,h1,hb,hlt⟩
theorem own_cap {w:World}{base:Nat}{e:TypeId}{size n c:Nat}{A:Option Addr}{xs:List Value}(h:w.ownsRow base e size (.slice A n c) n xs):n≤c:=by
 rcases h.2 with ⟨e,h0⟩ | ⟨g,cap,cur,hv,hb,hg,hnc,_⟩
 ·omega
 ·injection hv with _ _ h3
  omega
theorem cut_top {T e:TypeId}{size:Nat}(hT:Tryz.prog.underlying T=some (.slice e))(he:Tryz.prog.elem T=e)(hi:(Tryz.prog.info? e).map (·.size)=some size)(A:Option Addr)(n c k:Nat)(hk:k≤n)(hnc:n≤c) :
  (∀ (W:World) (i:Int),i=k→(Instr.slice T (.slice A n c) none (some (.int .i64 i)) none).run Tryz.prog W=.ok (.slice A k c) W)∧(∀ (W:World) (i:Int),i=k→(Instr.sliceAt T (.slice A n c) none (some (.int .i64 i)) none).run Tryz.prog W=.ok (.slice A k c) W):=by
 have hT':Tryz.prog.underlying T=some (.slice (Tryz.prog.elem T)):=by rw[he];exact hT
 have hsz:∀ W:World,(sizeOf e).run Tryz.prog W=.ok size W:=fun W=>by
  cases hq:Tryz.prog.info? e with
  | none=>rw[hq] at hi;cases hi
  | some x=>rw[hq] at hi;injection hi with hi;simp[sizeOf,typeInfo,hq,hi]
 have h1:∀ (W:World) (i:Int),i=k→(Instr.slice T (.slice A n c) none (some (.int .i64 i)) none).run Tryz.prog W=.ok (.slice A k c) W:=fun W i hi=>by
  subst hi;rw[run_slice_h (P:=Tryz.prog) (w:=W) T A n c hT' .i64 (k:Int) (by omega) (by omega),he,hsz];simp only[Result.andThen,sliced];cases A<;>simp[Addr.add]
 refine⟨h1,fun W i hi=>?_⟩;rw[run_sliceAt_slice (P:=Tryz.prog) (w:=W) T _ _ _ _ hT'];exact h1 W i hi
theorem elemVals:Tryz.prog.elem 42=44:=by kernel_rfl
theorem sizeVal:(Tryz.prog.info? 44).map (·.size)=some 4:=by kernel_rfl
theorem cut_vals (A:Option Addr)(n c k:Nat)(hk:k≤n)(hnc:n≤c):∃ A1 c1,n - k≤c1 ∧
  (∀ (W:World) (i:Int),i=k→(Instr.slice 42 (.slice A n c) (some (.int .i64 i)) none none).run Tryz.prog W=.ok (.slice A1 (n - k) c1) W)∧(∀ (W:World) (i:Int),i=k→(Instr.sliceAt 42 (.slice A n c) (some (.int .i64 i)) none none).run Tryz.prog W=.ok (.slice A1 (n - k) c1) W) ∧
  ∀ own w P ks,Kids own w P ks A n c→Kids own w P (ks.drop k) A1 (n - k) c1:=by
 have hT':Tryz.prog.underlying 42=some (.slice (Tryz.prog.elem 42)):=by rw[elemVals];exact Tryz.underlying42
 have hsz:∀ W:World,(sizeOf 44).run Tryz.prog W=.ok 4 W:=fun W=>by
  have hi:=sizeVal;cases hq:Tryz.prog.info? 44 with
  | none=>rw[hq] at hi;cases hi
  | some x=>rw[hq] at hi;injection hi with hi;simp[sizeOf,typeInfo,hq,hi]
 have h1:∀ (W:World) (i:Int),i=k→(Instr.slice 42 (.slice A n c) (some (.int .i64 i)) none none).run Tryz.prog W=.ok (.slice (if c=k then A else A.map (·.add (k * 4))) (n - k) (c - k)) W:=fun W i hi=>by
  subst hi;rw[run_slice_l (P:=Tryz.prog) (w:=W) 42 A n c hT' .i64 (k:Int) (by omega) (by omega),elemVals,hsz];simp only[Result.andThen,sliced,Int.toNat_natCast]
 refine⟨_,_,?_,h1,fun W i hi=>?_,fun own w P ks h=>⟨by rw[List.length_drop,←h.1],?_,fun hl=>?_⟩⟩
 ·omega
 ·rw[run_sliceAt_slice (P:=Tryz.prog) (w:=W) 42 _ _ _ _ hT'];exact h1 W i hi
 ·omega
 ·obtain⟨b,o,rfl,hP,ho,hrow⟩:=h.2.2 (by omega);rw[if_neg (by omega)];refine⟨b,o+k * 4,?_,hP,ho,rowL_mk fun i v hi=>?_⟩
  ·simp only[Option.map_some];unfold Addr.add
   split
   ·rename_i h0;rw[h0];rfl
   ·rfl
  ·rw[List.getElem?_drop] at hi;have:=rowL_at hrow hi
   rwa [show o+(k+i) * 4=o+k * 4+i * 4 by omega] at this
end Go.Proofs.YtcilmmdmkpnppaaGreatDoor.Val
end
