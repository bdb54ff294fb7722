/- Contracts, each with its premises. -/
import Derived.Test.YtbbbanfggcediaaGreatDoorY19
set_option maxRecDepth 100000
set_option maxHeartbeats 8000000
namespace Go.Proofs.YtbbbanfggcediaaGreatDoor
open _root_.Go.Proofs.Tryz
open Nat renaming add_assoc→ycY,add_mul→ycZ
open Prod renaming mk.injEq→ycW
open Option renaming some.injEq→ycV
open List renaming length_cons→ycT,length_drop→ycU,length_nil→ycX
namespace Dec
open Val V Utf
def zbF (step:Lz→Option (V×Lz)):Nat→Lz→Option (List V×Lz)
 | 0,l=>some ([],l)
 | n+1,l=>match step l with
  | none=>none
  | some (v,r)=>match zbF step n r with
   | none=>none
   | some (vs,r')=>some (v::vs,r')
def zeT (tl:List V→Nat→Lz→Option V)(l:Lz):Option (V×Lz):=
 match headD l with
 | .error _=>none
 | .ok (ns,c,r)=>match zaC c r with
  | none=>none
  | some (d,r')=>match tl ns c d with
   | none=>none
   | some v=>some (v,r')
def zc9 (tl:List V→Nat→Lz→Option V)(ns:List V)(c:Nat)(l:Lz):Option (V×Lz):=
 match zaC c l with
 | none=>none
 | some (d,r')=>match tl ns c d with
  | none=>none
  | some v=>some (v,r')
def endX:Option (List V×Lz)→Option (List V)
 | some (vs,[])=>some vs
 | _=>none
def zbH (tl:List V→Nat→Lz→Option V)(c:Nat)(d:Lz):Option (List V):=
 if d.length < sw c then none
 else if 1024 < tn (d.take (sw c)) then none
 else if kof c=24 then (match headD (d.drop (sw c)) with
  | .error _=>none
  | .ok (ns,c',r)=>endX (zbF (zc9 tl ns c') (tn (d.take (sw c))) r))
 else endX (zbF (zeT tl) (tn (d.take (sw c))) (d.drop (sw c)))
def zaI:Nat→List V→Nat→Lz→Option V
 | 0,_,_,_=>none
 | F+1,ns,c,d=>
  if kof c < 22 then some (zap ns (zag c d))
  else match zbH (zaI F) c d with
   | none=>none
   | some vs=>some (zap ns (.mk (kof c) 0 ⟨#[]⟩ vs))
def valX (tl:List V→Nat→Lz→Option V)(l:Lz):Except Bool (V×Lz):=
 match headD l with
 | .error s=>.error s
 | .ok (ns,c,r)=>match zaC c r with
  | none=>.error true
  | some (d,r')=>match tl ns c d with
   | none=>.error false
   | some v=>.ok (v,r')
noncomputable def decX (b:Lz):V×Nat×Nat:=match valX (zaI b.length) b with
 | .error s=>(zeroV,0,sel s 7)
 | .ok (v,r)=>if okB v=true then (v,b.length - r.length,0) else (zeroV,0,6)
theorem zec (v:V):1≤depth v:=by cases v;simp only[depth];omega
theorem zdw:∀ (ns:List V) (v:V),ns.length+1≤depth (zap ns v)
 | [],v=>zec v
 | x::r,v=>by
  have h:=zdw r v;have e:depth (zap (x::r) v)=1+zas [x,zap r v]:=by simp only[zap,depth];omega
  rw[e];simp only[zas,ycT];omega
theorem zh3:∀ (ns:List V) (v:V),depth v≤depth (zap ns v)
 | [],_=>zab
 | x::r,v=>by
  have h:=zh3 r v;have e:depth (zap (x::r) v)=1+zas [x,zap r v]:=by simp only[zap,depth];omega
  rw[e];simp only[zas];omega
theorem zgt:∀ (ns:List V) (v:V),(∀ x∈ns,x.kids=[])→items (zap ns v)=items v+2 * ns.length
 | [],_,_=>by simp[zap]
 | x::r,v,h=>by
  have h1:=zgt r v fun y hy=>h y (List.mem_cons_of_mem _ hy);have hx:items x=1:=by
   have:=h x (by simp);cases x with
   | mk k n t ks=>
    have e:ks=[]:=this;subst e;rfl
  have e:items (zap (x::r) v)=1+zah [x,zap r v]:=by simp only[zap,items];omega
  rw[e];simp only[zah,h1,hx,ycT];omega
theorem zkc (c:Nat)(d:Lz):items (zag c d)=1:=by
 have:=zbv c d;rcases hp:zag c d with ⟨k,n,t,ks⟩
 rw[hp] at this;have e:ks=[]:=this;subst e;rfl
theorem zoF {l r:Lz}{v:V}(h:za8 l=.ok (v,r)):v.kids=[]:=by
 cases l with
 | nil=>cases h
 | cons c l=>
  simp only[za8] at h;by_cases hk:kof c=6∨kof c=21
  ·rw[if_pos hk] at h;cases hd:zaC c l with
   | none=>rw[hd] at h;cases h
   | some p=>
    obtain⟨d,r'⟩:=p;rw[hd] at h;injection h with h
    injection h with h1 h2
    rw[←h1];exact zbv c d
  ·rw[if_neg hk] at h;cases h
theorem zg8:∀ (N:Nat) (l:Lz) (ns:List V) (c:Nat) (r:Lz),zaL N l=.ok (ns,c,r)→∀ x∈ns,x.kids=[]
 | 0,_,_,_,_,h=>by simp[zaL] at h
 | _+1,[],_,_,_,h=>by simp[zaL] at h
 | N+1,c::l,ns,c',r,h=>by
  rw[zaL] at h;by_cases hc:c=0
  ·rw[if_pos hc] at h;cases hn:za8 l with
   | error s=>rw[hn] at h;cases h
   | ok p=>
    obtain⟨v,r1⟩:=p;rw[hn] at h;simp only at h;cases h2:zaL N r1 with
    | error s=>rw[h2] at h;cases h
    | ok q=>
     obtain⟨ns2,c2,r2⟩:=q;rw[h2] at h;injection h with h
     injection h with h3 h4
     intro x hx;rw[←h3] at hx;rcases List.mem_cons.1 hx with rfl | hx
     ·exact zoF hn
     ·exact zg8 N r1 ns2 c2 r2 h2 x hx
  ·rw[if_neg hc] at h;by_cases hk:kof c=0
   ·rw[if_pos hk] at h;cases h
   ·rw[if_neg hk] at h;injection h with h
    injection h with h3 h4
    rw[←h3];intro x hx;cases hx
theorem zdx {l:Lz}{ns:List V}{c:Nat}{r:Lz}(h:headD l=.ok (ns,c,r)):∀ x∈ns,x.kids=[]:=zg8 _ _ _ _ _ h
theorem zd7 {F it it':Nat}{ns:List V}{c:Nat}{d:Lz}{v:V}(h:zaG F it ns c d=some (v,it')):∃ u,v=zap ns u:=by
 cases F with
 | zero=>cases h
 | succ F=>
  rw[zaG] at h;by_cases h1:1024 < it+1+2 * ns.length
  ·rw[if_pos h1] at h;cases h
  rw[if_neg h1] at h;by_cases h2:kof c < 22
  ·rw[if_pos h2] at h;injection h with h
   injection h with h3
   exact⟨_,h3.symm⟩
  ·rw[if_neg h2] at h;cases hk:zcx (zaG F) c (it+1+2 * ns.length) d with
   | none=>rw[hk] at h;cases h
   | some p=>
    obtain⟨vs,it2⟩:=p;rw[hk] at h;injection h with h
    injection h with h3
    exact⟨_,h3.symm⟩
theorem zdy {F:Nat}{ns:List V}{c:Nat}{d:Lz}{v:V}(h:zaI F ns c d=some v):∃ u,v=zap ns u:=by
 cases F with
 | zero=>cases h
 | succ F=>
  rw[zaI] at h;by_cases h2:kof c < 22
  ·rw[if_pos h2] at h;injection h with h3
   exact⟨_,h3.symm⟩
  ·rw[if_neg h2] at h;cases hk:zbH (zaI F) c d with
   | none=>rw[hk] at h;cases h
   | some vs=>
    rw[hk] at h;injection h with h3
    exact⟨_,h3.symm⟩
theorem take16 {ns:List V}(h:ns.length≤16):ns.take 16=ns:=List.take_of_length_le h
theorem zd8 {ns:List V}{v u:V}(h:16 < ns.length)(hv:v=zap (ns.take 16) u):16 < depth v:=by
 have:=zdw (ns.take 16) u;rw[hv];simp only[List.length_take] at this;omega
def AX (F:Nat):Prop:=∀ (it:Nat) (ns:List V) (c:Nat) (d:Lz) (v:V),(∀ x∈ns,x.kids=[])→zaI F ns c d=some v→it+items v≤1024→depth v≤16→zaG F it ns c d=some (v,it+items v)
theorem ztg {F:Nat}{sN:Nat→Lz→Option (V×Nat×Lz)}{sX:Lz→Option (V×Lz)}(hs:∀ it l v r,sX l=some (v,r)→it+items v≤1024→depth v≤16→sN it l=some (v,it+items v,r)):∀ (n it:Nat) (l:Lz) (vs:List V) (r:Lz),zbF sX n l=some (vs,r)→it+zah vs≤1024→zas vs≤16→zbe sN n it l=some (vs,it+zah vs,r)
 | 0,it,l,vs,r,h,_,_=>by
  rw[zbF] at h;injection h with h
  injection h with h1 h2
  subst h1 h2;rfl
 | n+1,it,l,vs,r,h,hi,hd=>by
  rw[zbF] at h;cases h1:sX l with
  | none=>rw[h1] at h;cases h
  | some p=>
   obtain⟨v,r1⟩:=p;rw[h1] at h;simp only at h;cases h2:zbF sX n r1 with
   | none=>rw[h2] at h;cases h
   | some q=>
    obtain⟨vs2,r2⟩:=q;rw[h2] at h;injection h with h
    injection h with h3 h4
    subst h3 h4;simp only[zah,zas] at hi hd;rw[zbe,hs it l v r1 h1 (by omega) (by omega)];simp only;rw[ztg (F:=F) hs n (it+items v) r1 vs2 r2 h2 (by omega) (by omega)];simp only[zah,ycY]
theorem zth {F:Nat}(h:AX F)(it:Nat)(l:Lz)(v:V)(r:Lz)(hx:zeT (zaI F) l=some (v,r))(hi:it+items v≤1024)(hd:depth v≤16):zcg (zaG F) it l=some (v,it+items v,r):=by
 unfold zeT at hx;unfold zcg;cases hh:headD l with
 | error s=>rw[hh] at hx;cases hx
 | ok p=>
  obtain⟨ns,c,r1⟩:=p;rw[hh] at hx;simp only at hx ⊢;cases gI:zaC c r1 with
  | none=>rw[gI] at hx;cases hx
  | some q=>
   obtain⟨d,r2⟩:=q;rw[gI] at hx;simp only at hx ⊢;cases ht:zaI F ns c d with
   | none=>rw[ht] at hx;cases hx
   | some v2=>
    rw[ht] at hx;injection hx with hx
    injection hx with h1 h2
    subst h1 h2;obtain⟨u,hu⟩:=zdy ht;have hl:=zdw ns u;rw[←hu] at hl;rw[take16 (by omega),h it ns c d v2 (zdx hh) ht hi hd]
theorem zti {F:Nat}(h:AX F){ns:List V}(hn:∀ x∈ns,x.kids=[])(c it:Nat)(l:Lz)(v:V)(r:Lz)(hx:zc9 (zaI F) ns c l=some (v,r))(hi:it+items v≤1024)(hd:depth v≤16):zch (zaG F) (ns.take 16) c it l=some (v,it+items v,r):=by
 unfold zc9 at hx;unfold zch;cases gI:zaC c l with
 | none=>rw[gI] at hx;cases hx
 | some q=>
  obtain⟨d,r2⟩:=q;rw[gI] at hx;simp only at hx ⊢;cases ht:zaI F ns c d with
  | none=>rw[ht] at hx;cases hx
  | some v2=>
   rw[ht] at hx;injection hx with hx
   injection hx with h1 h2
   subst h1 h2;obtain⟨u,hu⟩:=zdy ht;have hl:=zdw ns u;rw[←hu] at hl;rw[take16 (by omega),h it ns c d v2 hn ht hi hd]
theorem zjq {o:Option (List V×Lz)}{vs:List V}(h:endX o=some vs):o=some (vs,[]):=by
 match o,h with
 | some (vs',[]),h=>injection h with h;rw[h]
 | some (_,_::_),h=>cases h
 | none,h=>cases h
theorem zrv:∀ F,AX F
 | 0=>fun _ _ _ _ _ _ h _ _=>by cases h
 | F+1=>fun it ns c d v hn h hi hd=>by
  have ih:=zrv F;rw[zaI] at h;rw[zaG];by_cases h2:kof c < 22
  ·rw[if_pos h2] at h;injection h with h
   subst h;have e:=zgt ns (zag c d) hn;rw[zkc] at e;rw[e] at hi ⊢;rw[if_neg (by omega),if_pos h2];simp only[ycY]
  ·rw[if_neg h2] at h;cases hk:zbH (zaI F) c d with
   | none=>rw[hk] at h;cases h
   | some vs=>
    rw[hk] at h;injection h with h
    subst h;have e:=zgt ns (.mk (kof c) 0 ⟨#[]⟩ vs) hn;have ei:items (.mk (kof c) 0 ⟨#[]⟩ vs)=1+zah vs:=by simp only[items];omega
    rw[ei] at e;have ed:=zh3 ns (.mk (kof c) 0 ⟨#[]⟩ vs);have ed2:depth (.mk (kof c) 0 ⟨#[]⟩ vs)=1+zas vs:=by simp only[depth];omega
    rw[ed2] at ed;rw[e] at hi ⊢;rw[if_neg (by omega),if_neg h2];have Kf:zcx (zaG F) c (it+1+2 * ns.length) d=some (vs,it+1+2 * ns.length+zah vs):=by
     unfold zbH at hk;unfold zcx;by_cases c1:d.length < sw c
     ·rw[if_pos c1] at hk;cases hk
     rw[if_neg c1] at hk ⊢;by_cases c2:1024 < tn (d.take (sw c))
     ·rw[if_pos c2] at hk;cases hk
     rw[if_neg c2] at hk ⊢;by_cases c3:kof c=24
     ·rw[if_pos c3] at hk ⊢;cases hh:headD (d.drop (sw c)) with
      | error s=>rw[hh] at hk;cases hk
      | ok p=>
       obtain⟨ns2,c2,r2⟩:=p;rw[hh] at hk;simp only at hk ⊢;have hl:=zjq hk;rw[ztg (F:=F) (fun it l v r=>zti ih (zdx hh) c2 it l v r) _ _ _ _ _ hl (by omega) (by omega)]
     ·rw[if_neg c3] at hk ⊢;have hl:=zjq hk;rw[ztg (F:=F) (fun it l v r=>zth ih it l v r) _ _ _ _ _ hl (by omega) (by omega)]
    rw[Kf];simp only[ycV,ycW,true_and];omega
def BX (F:Nat):Prop:=∀ (it:Nat) (ns:List V) (c:Nat) (d:Lz) (v:V) (it':Nat),zaG F it ns c d=some (v,it')→zaI F ns c d=some v∨16 < depth v
theorem ztj {sN:Nat→Lz→Option (V×Nat×Lz)}{sX:Lz→Option (V×Lz)}(hs:∀ it l v it' r,sN it l=some (v,it',r)→sX l=some (v,r)∨16 < depth v):∀ (n it:Nat) (l:Lz) (vs:List V) (it':Nat) (r:Lz),zbe sN n it l=some (vs,it',r)→zbF sX n l=some (vs,r)∨16 < zas vs
 | 0,it,l,vs,it',r,h=>by
  rw[zbe] at h;injection h with h
  injection h with h1 h2
  injection h2 with h2 h3
  subst h1 h3;exact .inl rfl
 | n+1,it,l,vs,it',r,h=>by
  rw[zbe] at h;cases h1:sN it l with
  | none=>rw[h1] at h;cases h
  | some p=>
   obtain⟨v,it1,r1⟩:=p;rw[h1] at h;simp only at h;cases h2:zbe sN n it1 r1 with
   | none=>rw[h2] at h;cases h
   | some q=>
    obtain⟨vs2,it2,r2⟩:=q;rw[h2] at h;injection h with h
    injection h with h3 h4
    injection h4 with h4 h5
    subst h3 h5;rcases hs it l v it1 r1 h1 with h6 | h6
    ·rcases ztj hs n it1 r1 vs2 it2 r2 h2 with h7 | h7
     ·left
      rw[zbF,h6];simp only;rw[h7]
     ·right;simp only[zas];omega
    ·right;simp only[zas];omega
theorem ztk {F:Nat}(h:BX F)(it:Nat)(l:Lz)(v:V)(it':Nat)(r:Lz)(hx:zcg (zaG F) it l=some (v,it',r)):zeT (zaI F) l=some (v,r)∨16 < depth v:=by
 unfold zcg at hx;unfold zeT;cases hh:headD l with
 | error s=>rw[hh] at hx;cases hx
 | ok p=>
  obtain⟨ns,c,r1⟩:=p;rw[hh] at hx;simp only at hx ⊢;cases gI:zaC c r1 with
  | none=>rw[gI] at hx;cases hx
  | some q=>
   obtain⟨d,r2⟩:=q;rw[gI] at hx;simp only at hx ⊢;cases ht:zaG F it (ns.take 16) c d with
   | none=>rw[ht] at hx;cases hx
   | some p2=>
    obtain⟨v2,it2⟩:=p2;rw[ht] at hx;injection hx with hx
    injection hx with h1 h2
    injection h2 with h2 h3
    subst h1 h3;by_cases hl:ns.length≤16
    ·rw[take16 hl] at ht;rcases h it ns c d v2 it2 ht with h4 | h4
     ·left;rw[h4]
     ·exact .inr h4
    ·obtain⟨u,hu⟩:=zd7 ht;exact .inr (zd8 (by omega) hu)
theorem ztl {F:Nat}(h:BX F)(ns:List V)(c it:Nat)(l:Lz)(v:V)(it':Nat)(r:Lz)(hx:zch (zaG F) (ns.take 16) c it l=some (v,it',r)):zc9 (zaI F) ns c l=some (v,r)∨16 < depth v:=by
 unfold zch at hx;unfold zc9;cases gI:zaC c l with
 | none=>rw[gI] at hx;cases hx
 | some q=>
  obtain⟨d,r2⟩:=q;rw[gI] at hx;simp only at hx ⊢;cases ht:zaG F it (ns.take 16) c d with
  | none=>rw[ht] at hx;cases hx
  | some p2=>
   obtain⟨v2,it2⟩:=p2;rw[ht] at hx;injection hx with hx
   injection hx with h1 h2
   injection h2 with h2 h3
   subst h1 h3;by_cases hl:ns.length≤16
   ·rw[take16 hl] at ht;rcases h it ns c d v2 it2 ht with h4 | h4
    ·left;rw[h4]
    ·exact .inr h4
   ·obtain⟨u,hu⟩:=zd7 ht;exact .inr (zd8 (by omega) hu)
theorem zlg {o:Option (List V×Nat×Lz)}{vs:List V}{it:Nat}(h:(match o with | some (vs,it',[])=>some (vs,it') | _=>none:Option (List V×Nat))=some (vs,it)):o=some (vs,it,[]):=by
 match o,h with
 | some (vs',it',[]),h=>injection h with h;injection h with h1 h2;rw[h1,h2]
 | some (_,_,_::_),h=>cases h
 | none,h=>cases h
theorem zrw:∀ F,BX F
 | 0=>fun _ _ _ _ _ _ h=>by cases h
 | F+1=>fun it ns c d v it' h=>by
  have ih:=zrw F;rw[zaG] at h;rw[zaI];by_cases h1:1024 < it+1+2 * ns.length
  ·rw[if_pos h1] at h;cases h
  rw[if_neg h1] at h;by_cases h2:kof c < 22
  ·rw[if_pos h2] at h ⊢;injection h with h
   injection h with h3
   rw[h3];exact .inl rfl
  ·rw[if_neg h2] at h ⊢;cases hk:zcx (zaG F) c (it+1+2 * ns.length) d with
   | none=>rw[hk] at h;cases h
   | some p=>
    obtain⟨vs,it2⟩:=p;rw[hk] at h;injection h with h
    injection h with h3 h4
    subst h3;have ed:=zh3 ns (.mk (kof c) 0 ⟨#[]⟩ vs);have ed2:depth (.mk (kof c) 0 ⟨#[]⟩ vs)=1+zas vs:=by simp only[depth];omega
    rw[ed2] at ed;have jU:zbH (zaI F) c d=some vs∨16 < zas vs:=by
     unfold zcx at hk;unfold zbH;by_cases c1:d.length < sw c
     ·rw[if_pos c1] at hk;cases hk
     rw[if_neg c1] at hk ⊢;by_cases c2:1024 < tn (d.take (sw c))
     ·rw[if_pos c2] at hk;cases hk
     rw[if_neg c2] at hk ⊢;by_cases c3:kof c=24
     ·rw[if_pos c3] at hk ⊢;cases hh:headD (d.drop (sw c)) with
      | error s=>rw[hh] at hk;cases hk
      | ok p=>
       obtain⟨ns2,c2,r2⟩:=p;rw[hh] at hk;simp only at hk ⊢;rcases ztj (fun it l v it' r=>ztl ih ns2 c2 it l v it' r) _ _ _ _ _ _ (zlg hk) with h5 | h5
       ·left;rw[h5];rfl
       ·exact .inr h5
     ·rw[if_neg c3] at hk ⊢;rcases ztj (fun it l v it' r=>ztk ih it l v it' r) _ _ _ _ _ _ (zlg hk) with h5 | h5
      ·left;rw[h5];rfl
      ·exact .inr h5
    rcases jU with h5 | h5
    ·left;rw[h5]
    ·exact .inr (by omega)
theorem zoG {v:V}(h:okB v=true):items v≤1024∧depth v≤16:=by
 unfold okB at h;simp only[Bool.and_eq_true] at h;exact⟨of_decide_eq_true h.1.1,of_decide_eq_true h.1.2⟩
theorem zoH (b:Lz):decX b=decD b:=by
 unfold decX decD valX valD;cases hh:headD b with
 | error s=>rfl
 | ok p=>
  obtain⟨ns,c,r⟩:=p;simp only;cases hd:zaC c r with
  | none=>rfl
  | some q=>
   obtain⟨d,r'⟩:=q;simp only;have hB:∀ v it,zaG b.length 0 (ns.take 16) c d=some (v,it)→okB v=true→zaI b.length ns c d=some v:=fun v it ht Hq=>by
    have hl:=zoG Hq;by_cases hn:ns.length≤16
    ·rw[take16 hn] at ht;exact(zrw _ 0 ns c d v it ht).resolve_right (by omega)
    ·obtain⟨u,hu⟩:=zd7 ht;have:=zd8 (by omega) hu;omega
   have hA:∀ v,zaI b.length ns c d=some v→okB v=true→zaG b.length 0 (ns.take 16) c d=some (v,items v):=fun v ht Hq=>by
    have hl:=zoG Hq;obtain⟨u,hu⟩:=zdy ht;have h1:=zdw ns u;rw[←hu] at h1;rw[take16 (by omega)];have:=zrv _ 0 ns c d v (zdx hh) ht (by omega) hl.2
    rwa [Nat.zero_add] at this
   cases hx:zaI b.length ns c d with
   | none=>
    simp only;cases hn:zaG b.length 0 (ns.take 16) c d with
    | none=>rfl
    | some p2=>
     obtain⟨v,it⟩:=p2;simp only;rw[if_neg (fun Hq=>by have:=hB v it hn Hq;rw[hx] at this;cases this)];rfl
   | some v=>
    simp only;by_cases Hq:okB v=true
    ·rw[hA v hx Hq]
    ·rw[if_neg Hq];cases hn:zaG b.length 0 (ns.take 16) c d with
     | none=>rfl
     | some p2=>
      obtain⟨v2,it⟩:=p2;simp only;rw[if_neg (fun ve=>by
       have:=hB v2 it hn ve;rw[hx] at this;injection this with this
       rw[this] at Hq;exact Hq ve)]
def cost:List V→Nat
 | []=>0
 | x::r=>bulk x+1+cost r
theorem sz00:ByteArray.size ⟨#[]⟩=0:=rfl
theorem zd9:∀ (ns:List V) (v:V),bulk (zap ns v)=cost ns+bulk v
 | [],v=>by simp[zap,cost]
 | x::r,v=>by
  have h:=zd9 r v;simp only[zap,bulk,zai,cost,h,sz00];omega
theorem zg9 (c:Nat)(d:Lz):bulk (zag c d)≤1+d.length:=by
 have h1:=zbv c d;have h2:=ze1 c d;rcases hp:zag c d with ⟨k,n,t,ks⟩
 rw[hp] at h1 h2;have e:ks=[]:=h1;subst e;have h3:t.size≤d.length:=h2;simp only[bulk,zai];omega
theorem zoI {l r:Lz}{v:V}(h:za8 l=.ok (v,r)):bulk v+r.length≤l.length:=by
 cases l with
 | nil=>cases h
 | cons c l=>
  simp only[za8] at h
  split at h
  ·cases hd:zaC c l with
   | none=>rw[hd] at h;cases h
   | some q=>
    obtain⟨d,q⟩:=q;rw[hd] at h;simp only[Except.ok.injEq,ycW] at h;obtain⟨rfl,rfl⟩:=h;have h1:=za4 hd;have h2:=zg9 c d;simp only[ycT];omega
  ·cases h
theorem zeU:∀ (N:Nat) (l:Lz) (ns:List V) (c:Nat) (r:Lz),zaL N l=.ok (ns,c,r)→cost ns+1+r.length≤l.length
 | 0,_,_,_,_,h=>by simp[zaL] at h
 | _+1,[],_,_,_,h=>by simp[zaL] at h
 | N+1,c::l,ns,c',r,h=>by
  rw[zaL] at h;by_cases hc:c=0
  ·rw[if_pos hc] at h;cases hn:za8 l with
   | error s=>rw[hn] at h;cases h
   | ok p=>
    obtain⟨v,r1⟩:=p;rw[hn] at h;have f1:=zoI hn;simp only at h;cases h2:zaL N r1 with
    | error s=>rw[h2] at h;cases h
    | ok p=>
     obtain⟨ns2,c2,r2⟩:=p;rw[h2] at h;simp only[Except.ok.injEq,ycW] at h;obtain⟨rfl,rfl,rfl⟩:=h;have f2:=zeU N r1 _ _ _ h2;simp only[cost,ycT];omega
  ·rw[if_neg hc] at h
   split at h
   ·cases h
   ·simp only[Except.ok.injEq,ycW] at h;obtain⟨rfl,rfl,rfl⟩:=h;simp only[cost,ycT];omega
theorem zgu {step:Lz→Option (V×Lz)}{K:Nat}(hs:∀ l v r,step l=some (v,r)→bulk v+1024 * r.length≤1024 * l.length+K):∀ (n:Nat) (l:Lz) (vs:List V) (r:Lz),zbF step n l=some (vs,r)→zai vs+1024 * r.length≤1024 * l.length+n * K
 | 0,l,vs,r,h=>by
  simp only[zbF,ycV,ycW] at h;obtain⟨rfl,rfl⟩:=h;simp[zai]
 | n+1,l,vs,r,h=>by
  rw[zbF] at h;cases h1:step l with
  | none=>rw[h1] at h;cases h
  | some p=>
   obtain⟨v,r1⟩:=p;have f1:=hs _ _ _ h1;rw[h1] at h;simp only at h;cases h2:zbF step n r1 with
   | none=>rw[h2] at h;cases h
   | some q=>
    obtain⟨vs2,r2⟩:=q;rw[h2] at h;simp only[ycV,ycW] at h;obtain⟨rfl,rfl⟩:=h;have f2:=zgu hs n r1 _ _ h2;simp only[zai,ycZ];omega
theorem zlh {o:Option (List V×Lz)}{vs:List V}(h:endX o=some vs):o=some (vs,[]):=by
 match o,h with
 | none,h=>cases h
 | some (ws,[]),h=>simp only[endX,ycV] at h;rw[h]
 | some (ws,x::r),h=>cases h
def Cheap (tl:List V→Nat→Lz→Option V):Prop:=∀ ns c d v,tl ns c d=some v→bulk v≤cost ns+1+1024 * d.length
theorem zl8 {tl:List V→Nat→Lz→Option V}(ht:Cheap tl)(l:Lz)(v:V)(r:Lz)(h:zeT tl l=some (v,r)):bulk v+1024 * r.length≤1024 * l.length:=by
 unfold zeT at h;cases h1:headD l with
 | error s=>rw[h1] at h;cases h
 | ok p=>
  obtain⟨ns,c,r1⟩:=p;have f1:=zeU _ _ _ _ _ h1;rw[h1] at h;simp only at h;cases h2:zaC c r1 with
  | none=>rw[h2] at h;cases h
  | some q=>
   obtain⟨d,r2⟩:=q;have f2:=za4 h2;rw[h2] at h;simp only at h;cases h3:tl ns c d with
   | none=>rw[h3] at h;cases h
   | some x=>
    rw[h3] at h;simp only[ycV,ycW] at h;obtain⟨rfl,rfl⟩:=h;have f3:=ht _ _ _ _ h3;omega
theorem zl9 {tl:List V→Nat→Lz→Option V}(ht:Cheap tl)(ns:List V)(c:Nat)(l:Lz)(v:V)(r:Lz)(h:zc9 tl ns c l=some (v,r)):bulk v+1024 * r.length≤1024 * l.length+(cost ns+1):=by
 unfold zc9 at h;cases h2:zaC c l with
 | none=>rw[h2] at h;cases h
 | some q=>
  obtain⟨d,r2⟩:=q;have f2:=za4 h2;rw[h2] at h;simp only at h;cases h3:tl ns c d with
  | none=>rw[h3] at h;cases h
  | some x=>
   rw[h3] at h;simp only[ycV,ycW] at h;obtain⟨rfl,rfl⟩:=h;have f3:=ht _ _ _ _ h3;omega
theorem zma {tl:List V→Nat→Lz→Option V}(ht:Cheap tl)(c:Nat)(d:Lz)(vs:List V)(h:zbH tl c d=some vs):zai vs≤1024 * d.length:=by
 unfold zbH at h;by_cases h1:d.length < sw c
 ·rw[if_pos h1] at h;cases h
 ·rw[if_neg h1] at h;by_cases h2:1024 < tn (d.take (sw c))
  ·rw[if_pos h2] at h;cases h
  ·rw[if_neg h2] at h;have hd:(d.drop (sw c)).length≤d.length:=by simp
   by_cases h3:kof c=24
   ·rw[if_pos h3] at h;cases h4:headD (d.drop (sw c)) with
    | error s=>rw[h4] at h;cases h
    | ok p=>
     obtain⟨ns,c',r⟩:=p;have f1:=zeU _ _ _ _ _ h4;rw[h4] at h;have f2:=zgu (zl9 ht ns c') _ _ _ _ (zlh h);have f3:tn (d.take (sw c)) * (cost ns+1)≤1024 * (cost ns+1):=Nat.mul_le_mul (by omega) zab;simp only[ycX] at f2;omega
   ·rw[if_neg h3] at h;have f2:=zgu (K:=0) (zl8 ht) _ _ _ _ (zlh h);simp only[ycX] at f2;omega
theorem zjr:∀ F,Cheap (zaI F)
 | 0=>fun ns c d v h=>by cases h
 | F+1=>fun ns c d v h=>by
  rw[zaI] at h;by_cases hk:kof c < 22
  ·rw[if_pos hk] at h;simp only[ycV] at h;subst h;have:=zg9 c d;rw[zd9];omega
  ·rw[if_neg hk] at h;cases h2:zbH (zaI F) c d with
   | none=>rw[h2] at h;cases h
   | some vs=>
    rw[h2] at h;simp only[ycV] at h;subst h;have:=zma (zjr F) c d vs h2;rw[zd9];simp only[bulk,sz00];omega
theorem zjs {F:Nat}{l r:Lz}{v:V}(h:valX (zaI F) l=.ok (v,r)):bulk v≤1024 * l.length:=by
 unfold valX at h;cases h1:headD l with
 | error s=>rw[h1] at h;cases h
 | ok p=>
  obtain⟨ns,c,r1⟩:=p;have f1:=zeU _ _ _ _ _ h1;rw[h1] at h;simp only at h;cases h2:zaC c r1 with
  | none=>rw[h2] at h;cases h
  | some q=>
   obtain⟨d,r2⟩:=q;have f2:=za4 h2;rw[h2] at h;simp only at h;cases h3:zaI F ns c d with
   | none=>rw[h3] at h;cases h
   | some x=>
    rw[h3] at h;simp only[Except.ok.injEq,ycW] at h;obtain⟨rfl,rfl⟩:=h;have f3:=zjr F _ _ _ _ h3;omega
end Dec
namespace Dec
open Go.RowKit Utf Val V
theorem ztm (l:Lz)(j c:Nat)(h:l[j]? = some c):nb (l.drop j)=c * 256 ^ (l.length - (j+1))+nb (l.drop (j+1)):=by
 obtain⟨hj,rfl⟩:=List.getElem?_eq_some_iff.1 h;rw[List.drop_eq_getElem_cons hj,zo,ycU]
theorem ztn (p t c:Nat)(hc:c < 256)(hp:p≤72057594037927936)(ht:t < p):IntKind.u64.wrap ((t:Int)+IntKind.u64.wrap ((p:Int) * (c:Int)))=((c * p+t:Nat):Int):=by
 have h1:c * p≤255 * 72057594037927936:=Nat.mul_le_mul (by omega) hp;have h2:(p:Int) * (c:Int)=((c * p:Nat):Int):=by rw[Nat.mul_comm];simp
 have h3:c * p+t < 18446744073709551616:=by
  have:c * p+p≤256 * p:=by
   have:=Nat.mul_le_mul_right p (show c+1≤256 by omega);rw[ycZ] at this;omega
  omega
 rw[h2];generalize c * p=q at *;simp only[IntKind.wrap,IntKind.bits,IntKind.signed];simp;omega
theorem zax (B:Nat)(A:Oz)(n c:Nat)(l:Lz)(w:World)(hr:Rd .u8 256 w B A n l) :
  Calls prog 70 #[.slice A n c] w fun e w'=>(∃ p:Value,e=.returned (.tuple #[.int .u64 (tn l:Nat),p]))∧w=w':=by
 by_cases h8:8 < n
 ·have e:tn l=0:=by unfold tn;rw[if_neg (by rw[hr.len];omega)]
  rw[e];clear e;go_enter func70,ntmps70;go_wp2;go_ret2;exact⟨⟨_,rfl⟩,rfl⟩
 ·have e:tn l=nb l:=by unfold tn;rw[if_pos (by rw[hr.len];omega)]
  rw[e];clear e;have d:decide (8 < (n:Int))=false:=by simp;omega
  go_enter func70,ntmps70;go_wp2;go_loop [4,5,6] (fun x y i=>∃ j m:Nat,j+m=n∧i=.int .i64 ((j:Int) - 1)∧x=.int .u64 (nb (l.drop j):Nat)∧∃ p:Int,y=.int .u64 p∧(m < 8→p=(256 ^ m:Nat))) (fun _ _ i=>(intOf i+1).toNat)
  case atStart=>exact⟨n,0,rfl,rfl,by rw[List.drop_of_length_le (by rw[hr.len];omega)];rfl,1,rfl,fun _=>by simp⟩
  case round=>
   obtain⟨j,m,xh,rfl,rfl,p,rfl,hp⟩:=hrel;have HJM:=zaa xh;have hm:j≤n:=by omega
   by_cases hj:j=0
   ·subst hj;clear xh hp;go_wp2;go_ret2;exact⟨⟨.bool true,by simp⟩,rfl⟩
   ·obtain⟨i,rfl⟩:∃ i,j=i+1:=⟨j - 1,by omega⟩;have U8:=hp (by omega);subst U8;obtain⟨b,o,c',rfl,hb,hx,xd,hc⟩:=hr.at_ (k:=i) (by omega);have HT:=zaa (ztm l i c' hx);have ht:nb (l.drop (i+1)) < 256 ^ m:=by
     have h1:=zjJ (l.drop (i+1)) fun x hx=>hr.lim x (List.mem_of_mem_drop hx);have e:l.length - (i+1)=m:=by rw[hr.len];omega
     rw[ycU,e] at h1;exact h1
    have hpm:=zfS m (by omega);have HE:Hid (l.length - (i+1)=m):=zaa (by rw[hr.len];omega);have HP:Hid (∀ q,q=256 ^ m→256 * q=256 ^ (m+1)):=zaa (fun q hq=>by rw[hq,Nat.pow_succ,Nat.mul_comm]);clear hx xh hj hp;generalize hq:256 ^ m=q at *;have HQ:=zaa hq;clear hq;generalize nb (l.drop (i+1))=t at *;have HS:=zaa (ztn q t c' xd hpm ht);have HW:Hid (m+1 < 8→IntKind.u64.wrap (256 * (q:Int))=((256 ^ (m+1):Nat):Int)):=zaa (fun h=>by
     have h1:=zfS (m+1) h;rw[←HP.out q rfl] at h1 ⊢;simp only[IntKind.wrap,IntKind.bits,IntKind.signed];simp;omega)
    go_wp2;refine⟨⟨i,m+1,by have:=HJM.out;omega,rfl,?_,_,rfl,HW.out⟩,by simp[intOf]⟩;rw[HS.out,HT.out,HE.out,HQ.out]
def sgb (X k:Nat):Nat:=if 1≤k∧k≤7 then ((BitVec.ofNat (8 * k) X).signExtend 64).toNat else X
theorem zrx (X k:Nat)(h:X < 18446744073709551616):sgb X k < 18446744073709551616:=by
 unfold sgb
 split
 ·exact BitVec.isLt _
 ·exact h
theorem zto (X k:Nat)(h1:1≤k)(h2:k≤7) :
  sgb X k=if X % 2 ^ (8 * k) < 2 ^ (8 * k - 1) then X % 2 ^ (8 * k) else X % 2 ^ (8 * k)+(2 ^ 64 - 2 ^ (8 * k)):=by
 unfold sgb;rw[if_pos ⟨h1,h2⟩,BitVec.toNat_signExtend];simp only[BitVec.toNat_setWidth,BitVec.toNat_ofNat,BitVec.msb_eq_decide];have hp:(2:Nat) ^ (8 * k)≤2 ^ 64:=Nat.pow_le_pow_right (by omega) (by omega);have hm:X % 2 ^ (8 * k) % 2 ^ 64=X % 2 ^ (8 * k):=Nat.mod_eq_of_lt (Nat.lt_of_lt_of_le (Nat.mod_lt _ (Nat.two_pow_pos _)) hp);rw[hm];by_cases hb:X % 2 ^ (8 * k) < 2 ^ (8 * k - 1)
 ·rw[if_pos hb,if_neg (by simp;omega)];omega
 ·rw[if_neg hb,if_pos (by simp;omega)]
theorem ztp (X k i:Nat)(h1:1≤k)(h2:k≤7)(hi:i < 64):(sgb X k).testBit i=X.testBit (min i (8 * k - 1)):=by
 unfold sgb;rw[if_pos ⟨h1,h2⟩,BitVec.testBit_toNat,BitVec.getLsbD_signExtend,BitVec.msb_eq_getLsbD_last];simp only[BitVec.getLsbD_ofNat,hi,decide_true,Bool.true_and];by_cases Hi:i < 8 * k
 ·rw[if_pos Hi,Nat.min_eq_left (by omega)];simp[Hi]
 ·rw[if_neg Hi,Nat.min_eq_right (by omega)];simp;omega
theorem zq1 (X k i:Nat)(h1:1≤k)(h2:k≤7)(hi:i < 64) :
  sgb X k % 2 ^ (i+1)=sgb X k % 2 ^ i+2 ^ i * (X / 2 ^ (min i (8 * k - 1)) % 2):=by
 have h:=ztp X k i h1 h2 hi;rw[Nat.testBit_eq_decide_div_mod_eq,Nat.testBit_eq_decide_div_mod_eq,decide_eq_decide] at h;have e:sgb X k / 2 ^ i % 2=X / 2 ^ (min i (8 * k - 1)) % 2:=by omega
 rw[Nat.mod_pow_succ,e]
theorem zvh (X k:Nat):sgb X k=sgw X k:=by
 by_cases h:1≤k∧k≤7
 ·rw[zto X k h.1 h.2];unfold sgw;rw[if_pos h];obtain⟨h1,h2⟩:=h;have hk:k=1∨k=2∨k=3∨k=4∨k=5∨k=6∨k=7:=by omega
  rcases hk with rfl | rfl | rfl | rfl | rfl | rfl | rfl<;>rfl
 ·unfold sgb sgw;rw[if_neg h,if_neg h]
theorem zoJ (X j:Nat):((X:Int) / 2 ^ j).tmod 2=((X / 2 ^ j % 2:Nat):Int):=by
 have h:((X:Int) / 2 ^ j)=((X / 2 ^ j:Nat):Int):=by simp
 rw[h];generalize X / 2 ^ j=a;rw[Int.tmod_eq_emod_of_nonneg (Int.natCast_nonneg a)];omega
theorem zoK (X n m j:Nat)(hX:X < 18446744073709551616)(Hi:m < 64)(gr:sgb X n % 2 ^ (m+1)=sgb X n % 2 ^ m+2 ^ m * (X / 2 ^ j % 2))(h:(((X:Int) / 2 ^ j).tmod 2==1)=true) :
  IntKind.u64.wrap ((sgb X n:Int) % 2 ^ m+IntKind.u64.wrap (2 ^ m))=((sgb X n % 2 ^ (m+1):Nat):Int):=by
 rw[zoJ,beq_iff_eq] at h;have h':X / 2 ^ j % 2=1:=by omega
 rw[h',Nat.mul_one] at gr;have hp:(2:Nat) ^ m < 2 ^ 64:=Nat.pow_lt_pow_right (by omega) Hi;have hle:=zrx X n hX;have hm:=Nat.mod_le (sgb X n) (2 ^ (m+1));have e1:((sgb X n:Int) % 2 ^ m)=((sgb X n % 2 ^ m:Nat):Int):=by simp
 have e2:(2:Int) ^ m=((2 ^ m:Nat):Int):=by simp
 rw[gr] at hm;rw[gr,e1,e2];generalize sgb X n % 2 ^ m=a at *;generalize (2:Nat) ^ m=b at *;simp only[IntKind.wrap,IntKind.bits,IntKind.signed];simp;omega
theorem zry (X n m j:Nat)(gr:sgb X n % 2 ^ (m+1)=sgb X n % 2 ^ m+2 ^ m * (X / 2 ^ j % 2))(h:(((X:Int) / 2 ^ j).tmod 2==1)=false):sgb X n % 2 ^ m=sgb X n % 2 ^ (m+1):=by
 rw[zoJ,zac] at h;have h':X / 2 ^ j % 2=0:=by omega
 rw[h',Nat.mul_zero,Nat.add_zero] at gr;exact gr.symm
theorem zvi {k:IntKind}{a b:Int}(h:a=b):Ending.returned (.int k a)=.returned (.int k b):=by rw[h]
theorem zcv (X:Nat)(k:Int)(w:World)(h:X < 18446744073709551616) :
  Calls prog 116 #[.int .u64 X,.int .i64 k] w fun e w'=>e=.returned (.int .u64 (sgw X k.toNat:Nat))∧w=w':=by
 rw[←zvh];by_cases h1:k < 1
 ·have e:sgb X k.toNat=X:=by unfold sgb;rw[if_neg (by omega)]
  rw[e];go_enter func116,ntmps116;go_wp2;go_ret;exact⟨rfl,rfl⟩
 by_cases h2:7 < k
 ·have e:sgb X k.toNat=X:=by unfold sgb;rw[if_neg (by omega)]
  rw[e];go_enter func116,ntmps116;go_wp2;go_ret;exact⟨rfl,rfl⟩
 obtain⟨n,rfl⟩:=Int.eq_ofNat_of_zero_le (a:=k) (by omega);rw[Int.toNat_natCast];have d1:decide ((n:Int) < 1)=false:=by simp;omega
 have d2:decide (7 < (n:Int))=false:=by simp;omega
 go_enter func116,ntmps116;go_wp2;go_loop [5,6] (fun o i=>∃ m:Nat,m≤64∧i=.int .i64 m∧o=.int .u64 (sgb X n % 2 ^ m:Nat)) (fun _ i=>64 - (intOf i).toNat)
 case atStart=>exact⟨0,by omega,rfl,by simp[Nat.mod_one]⟩
 case round=>
  obtain⟨m,hm,rfl,rfl⟩:=hrel;by_cases Hi:m < 64
  ·have gr:=zq1 X n m (by omega) (by omega) Hi;by_cases CP:m≤8 * n - 1
   ·rw[Nat.min_eq_left CP] at gr;have HS:=zaa gr;clear gr;go_wp2
    ·exact⟨⟨m+1,by omega,by go_num,by rw[zoK X n m m h Hi HS.out (by assumption)]⟩,by simp[intOf];omega⟩
    ·exact⟨⟨m+1,by omega,by go_num,by rw[zry X n m m HS.out (by assumption)]⟩,by simp[intOf];omega⟩
   ·rw[Nat.min_eq_right (by omega)] at gr;have HS:=zaa gr;clear gr;go_wp2
    ·exact⟨⟨m+1,by omega,by go_num,by rw[zoK X n m (8 * n - 1) h Hi HS.out (by assumption)]⟩,by simp[intOf];omega⟩
    ·exact⟨⟨m+1,by omega,by go_num,by rw[zry X n m (8 * n - 1) HS.out (by assumption)]⟩,by simp[intOf];omega⟩
  ·have e:(sgb X n:Int) % 2 ^ m=sgb X n:=by
    obtain rfl:m=64:=by omega
    have:=zrx X n h;omega
   have E:=zaa e;clear e;go_wp2;go_ret;exact⟨zvi E.out,rfl⟩
end Dec
end Go.Proofs.YtbbbanfggcediaaGreatDoor
