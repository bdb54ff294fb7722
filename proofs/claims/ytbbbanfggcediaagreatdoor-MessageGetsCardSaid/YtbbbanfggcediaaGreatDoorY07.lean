/- Contracts, each with its premises. -/
import Derived.Test.YtbbbanfggcediaaGreatDoorY02
set_option maxRecDepth 100000
set_option maxHeartbeats 8000000
namespace Go.Proofs.YtbbbanfggcediaaGreatDoor
open _root_.Go.Proofs.Tryz
open Prod renaming mk.injEq→yaI
open List renaming length_cons→yaG
open Nat renaming lt_of_lt_of_le→yaF,le_trans→yaH
namespace Dec
open Val V Utf
def kof2 (c:Nat):Nat:=
 if c=80 then 3 else if c=96 then 4 else if c=81 then 7 else if c=97 then 8 else if c=114 then 11 else if c=130 then 12 else if c=115 then 13
 else if c=131 then 14 else if c=152 then 15 else if c=116 then 16 else if c=132 then 17 else if c=148 then 18 else 0
def kof (c:Nat):Nat:=
 if c=64 then 1 else if c=65 then 2 else if c=66 then 2 else if c=86 then 2 else if c=67 then 5 else if c=82 then 5 else if c=112 then 5
 else if c=68 then 6 else if c=83 then 6 else if c=128 then 6 else if c=84 then 9 else if c=113 then 9 else if c=85 then 10 else if c=129 then 10
 else if c=160 then 19 else if c=176 then 19 else if c=161 then 20 else if c=177 then 20 else if c=163 then 21 else if c=179 then 21
 else if c=69 then 22 else if c=192 then 22 else if c=208 then 22 else if c=193 then 23 else if c=209 then 23 else if c=224 then 24 else if c=240 then 24
 else kof2 c
def sw (c:Nat):Nat:=if c / 16=10∨c / 16=12∨c / 16=14 then 1 else if c / 16=11∨c / 16=13∨c / 16=15 then 4 else 0
def lg (c:Nat):Nat:=if c / 16=5 then 1 else if c / 16=6 then 2 else if c / 16=7 then 4 else if c / 16=8 then 8 else if c / 16=9 then 16 else 0
theorem ztF {p:Prop}[Decidable p]{a b M:Nat}(ha:a≤M)(hb:b≤M):(if p then a else b)≤M:=by split<;>assumption
theorem zgL (c:Nat):kof c≤24:=by
 unfold kof kof2
 repeat' apply ztF
 all_goals decide
def nb (l:Lz):Nat:=l.foldl (fun x o=>x * 256+o) 0
theorem zrH (l:Lz)(c:Nat):nb (l++[c])=nb l * 256+c:=by simp[nb]
theorem zrI (l:Lz)(k c:Nat)(h:l[k]? = some c):nb (l.take (k+1))=nb (l.take k) * 256+c:=by
 rw[List.take_add_one,h];exact zrH _ _
theorem zrJ (l:Lz):∀ x:Nat,(∀ y∈l,y < 256)→l.foldl (fun x o=>x * 256+o) x < (x+1) * 256 ^ l.length:=by
 induction l with
 | nil=>intro x _;simp
 | cons c l ih=>
  intro x h;have h1:=ih (x * 256+c) fun y hy=>h y (by simp[hy]);have h2:=h c (by simp);have h3:(x * 256+c+1) * 256 ^ l.length≤((x+1) * 256) * 256 ^ l.length:=Nat.mul_le_mul_right _ (by omega);simp only[List.foldl_cons,yaG,Nat.pow_succ]
  calc _ < _:=h1
   _≤_:=h3
   _=_:=by rw[Nat.mul_assoc,Nat.mul_comm 256]
theorem zjJ (l:Lz)(h:∀ x∈l,x < 256):nb l < 256 ^ l.length:=by
 have:=zrJ l 0 h
 simpa [nb] using this
def tn (l:Lz):Nat:=if l.length≤8 then nb l else 0
theorem zif (l:Lz)(h:∀ x∈l,x < 256):tn l < 18446744073709551616:=by
 unfold tn
 split
 ·have h1:=zjJ l h;have h2:256 ^ l.length≤256 ^ 8:=Nat.pow_le_pow_right (by omega) (by omega);omega
 ·omega
def sgw (X k:Nat):Nat:=if 1≤k∧k≤7 then (if X % 256 ^ k < 256 ^ k / 2 then X % 256 ^ k else X % 256 ^ k+(18446744073709551616 - 256 ^ k)) else X
def zag (c:Nat)(d:Lz):V:=
 if kof c=1 then .mk 1 0 ⟨#[]⟩ []
 else if kof c=2 then .mk 2 (if c=65 then 1 else tn d) ⟨#[]⟩ []
 else if kof c=7∨kof c=8∨kof c=9∨kof c=10∨kof c=14 then .mk (kof c) (sgw (tn d) d.length) ⟨#[]⟩ []
 else if 15≤kof c∧kof c≤21 then .mk (kof c) 0 (sb d) []
 else .mk (kof c) (tn d) ⟨#[]⟩ []
def zaC (c:Nat)(l:Lz):Option (Lz×Lz):=
 if sw c=0 then (if lg c≤l.length then some (l.take (lg c),l.drop (lg c)) else none)
 else if sw c≤l.length then
  (if tn (l.take (sw c))≤(l.drop (sw c)).length then some ((l.drop (sw c)).take (tn (l.take (sw c))),(l.drop (sw c)).drop (tn (l.take (sw c)))) else none)
 else none
def za8:Lz→Except Bool (V×Lz)
 | []=>.error true
 | c::l=>if kof c=6∨kof c=21 then (match zaC c l with
  | none=>.error true
  | some (d,r)=>.ok (zag c d,r)) else .error false
def zaL:Nat→Lz→Except Bool (List V×Nat×Lz)
 | 0,_=>.error true
 | _,[]=>.error true
 | N+1,c::l=>if c=0 then (match za8 l with
   | .error s=>.error s
   | .ok (v,r)=>match zaL N r with
    | .error s=>.error s
    | .ok (ns,c',r')=>.ok (v::ns,c',r'))
  else if kof c=0 then .error false else .ok ([],c,l)
def headD (l:Lz):Except Bool (List V×Nat×Lz):=zaL (l.length+1) l
def zap:List V→V→V
 | [],v=>v
 | x::r,v=>.mk 25 0 ⟨#[]⟩ [x,zap r v]
def zbe (step:Nat→Lz→Option (V×Nat×Lz)):Nat→Nat→Lz→Option (List V×Nat×Lz)
 | 0,it,l=>some ([],it,l)
 | n+1,it,l=>match step it l with
  | none=>none
  | some (v,it',r)=>match zbe step n it' r with
   | none=>none
   | some (vs,it'',r')=>some (v::vs,it'',r')
def zcg (tl:Nat→List V→Nat→Lz→Option (V×Nat))(it:Nat)(l:Lz):Option (V×Nat×Lz):=
 match headD l with
 | .error _=>none
 | .ok (ns,c,r)=>match zaC c r with
  | none=>none
  | some (d,r')=>match tl it (ns.take 16) c d with
   | none=>none
   | some (v,it')=>some (v,it',r')
def zch (tl:Nat→List V→Nat→Lz→Option (V×Nat))(ns:List V)(c:Nat)(it:Nat)(l:Lz):Option (V×Nat×Lz):=
 match zaC c l with
 | none=>none
 | some (d,r')=>match tl it ns c d with
  | none=>none
  | some (v,it')=>some (v,it',r')
def zcx (tl:Nat→List V→Nat→Lz→Option (V×Nat))(c it:Nat)(d:Lz):Option (List V×Nat):=
 if d.length < sw c then none
 else if 1024 < tn (d.take (sw c)) then none
 else if kof c=24 then (match headD (d.drop (sw c)) with
  | .error _=>none
  | .ok (ns,c',r)=>match zbe (zch tl (ns.take 16) c') (tn (d.take (sw c))) it r with
   | some (vs,it',[])=>some (vs,it')
   | _=>none)
 else (match zbe (zcg tl) (tn (d.take (sw c))) it (d.drop (sw c)) with
   | some (vs,it',[])=>some (vs,it')
   | _=>none)
def zaG:Nat→Nat→List V→Nat→Lz→Option (V×Nat)
 | 0,_,_,_,_=>none
 | F+1,it,ns,c,d=>
  if 1024 < it+1+2 * ns.length then none
  else if kof c < 22 then some (zap ns (zag c d),it+1+2 * ns.length)
  else match zcx (zaG F) c (it+1+2 * ns.length) d with
   | none=>none
   | some (vs,it')=>some (zap ns (.mk (kof c) 0 ⟨#[]⟩ vs),it')
theorem zbu:∀ (N:Nat) (l:Lz) (ns:List V) (c:Nat) (r:Lz),zaL N l=.ok (ns,c,r)→r.length < l.length∧c≠0∧kof c≠0
 | 0,_,_,_,_,h=>by simp[zaL] at h
 | _+1,[],_,_,_,h=>by simp[zaL] at h
 | N+1,c::l,ns,c',r,h=>by
  rw[zaL] at h;by_cases hc:c=0
  ·rw[if_pos hc] at h;cases hn:za8 l with
   | error s=>rw[hn] at h;cases h
   | ok p=>
    obtain⟨v,r1⟩:=p;rw[hn] at h;have hl:r1.length≤l.length:=by
     cases l with
     | nil=>simp[za8] at hn
     | cons c1 l1=>
      simp only[za8] at hn
      split at hn
      ·cases hd:zaC c1 l1 with
       | none=>rw[hd] at hn;cases hn
       | some q=>
        rw[hd] at hn;obtain⟨d,q⟩:=q;simp only[Except.ok.injEq,yaI] at hn;obtain⟨_,rfl⟩:=hn;unfold zaC at hd
        (repeat' split at hd)<;>first | (cases hd;done) | (injection hd with hd;injection hd with _ hd;subst hd;simp only[List.length_drop,yaG];omega)
      ·cases hn
    simp only at h;cases h2:zaL N r1 with
    | error s=>rw[h2] at h;cases h
    | ok p=>
     obtain⟨ns2,c2,r2⟩:=p;rw[h2] at h;simp only[Except.ok.injEq,yaI] at h;obtain⟨_,rfl,rfl⟩:=h;have:=zbu N r1 _ _ _ h2;simp only[yaG];exact⟨by omega,this.2⟩
  ·rw[if_neg hc] at h
   split at h
   ·cases h
   ·simp only[Except.ok.injEq,yaI] at h;obtain⟨_,rfl,rfl⟩:=h;exact⟨by simp,hc,by assumption⟩
end Dec
namespace Dec
open Go.RowKit Utf Val V
structure Up (a b:Nat) (w w':World):Prop where
 os:w'.os=w.os
 tape:w'.tape=w.tape
 output:w'.output=w.output
 size:w.heap.size≤w'.heap.size
 block:∀ i,i < w.heap.size→i≠a→i≠b→w'.heap[i]? = w.heap[i]?
section
variable {a b B:Nat} {w w1 w':World}
theorem Up.refl (a b:Nat)(w:World):Up a b w w:=⟨rfl,rfl,rfl,zab,fun _ _ _ _=>rfl⟩
theorem Up.trans (h:Up a b w w1)(h':Up a b w1 w'):Up a b w w':=
 ⟨h'.os.trans h.os,h'.tape.trans h.tape,h'.output.trans h.output,yaH h.size h'.size,fun i hi ha hb=>(h'.block i (yaF hi h.size) ha hb).trans (h.block i hi ha hb)⟩
theorem Up.of (h:Below w.heap.size w w'):Up a b w w':=⟨h.os,h.tape,h.output,h.size,fun i hi _ _=>h.block i hi⟩
theorem Up.call (h:Up a b w w1)(h':Below w1.heap.size w1 w'):Up a b w w':=h.trans (Up.of h')
theorem Up.setA (h:Up a b w w1)(j:Nat)(u:Value):Up a b w (w1.setCell ⟨a,j,none⟩ u):=
 h.trans ⟨rfl,rfl,rfl,by simp,fun i _ ha _=>Below.heap_setCell _ _ _ _ ha⟩
theorem Up.below (h:Up a b w w')(ha:B≤a)(hb:B≤b)(hB:B≤w.heap.size):Below B w w':=
 ⟨h.os,h.tape,h.output,h.size,fun i hi=>h.block i (yaF hi hB) (fun e=>by omega) (fun e=>by omega)⟩
theorem Up.inner (h0:Up b b w w1)(h:Up a b w1 w')(ha:w.heap.size≤a):Up b b w w':=
 ⟨h.os.trans h0.os,h.tape.trans h0.tape,h.output.trans h0.output,yaH h0.size h.size,fun i hi hb _=>(h.block i (yaF hi h0.size) (fun e=>by omega) hb).trans (h0.block i hi hb hb)⟩
theorem Up.wide (h:Up b b w w'):Up a b w w':=⟨h.os,h.tape,h.output,h.size,fun i hi _ hb=>h.block i hi hb hb⟩
theorem Up.cell (h:Up a b w w'){g:Nat}(hg:g < w.heap.size)(ha:g≠a)(hb:g≠b)(j:Nat):w'.cell? ⟨g,j,none⟩=w.cell? ⟨g,j,none⟩:=World.cell?_of_block (w:=w) (h.block g hg ha hb)
end
structure Rdr (w:World) (rb ib B:Nat) (A:Oz) (n c:Nat) (L:Lz) (sh it:Nat):Prop where
 left:w.cell? ⟨rb,0,none⟩=some (.slice A n c)
 short:w.cell? ⟨rb,1,none⟩=some (.int .i64 (sh:Int))
 ptr:w.cell? ⟨rb,2,none⟩=some (.pointer (some ⟨ib,0,none⟩))
 item:w.cell? ⟨ib,0,none⟩=some (.int .i64 (it:Int))
 fr:∀ j,w.frozen? ⟨rb,j,none⟩=false
 fi:∀ j,w.frozen? ⟨ib,j,none⟩=false
 rd:Rd .u8 256 w B A n L
 cap:n≤c
 lim:n≤1099511627776
 hr:B≤rb
 hi:B≤ib
 ne:rb≠ib
 lr:rb < w.heap.size
 li:ib < w.heap.size
section
variable {w w':World} {rb ib B n c sh it:Nat} {A:Oz} {L:Lz}
theorem Rdr.low (h:Rdr w rb ib B A n c L sh it):B≤w.heap.size:=Nat.le_of_lt (Nat.lt_of_le_of_lt h.hr h.lr)
theorem Rdr.call (h:Rdr w rb ib B A n c L sh it)(hb:Below w.heap.size w w'):Rdr w' rb ib B A n c L sh it:=
 ⟨(hb.cell (p:=⟨rb,0,none⟩) h.lr).trans h.left,(hb.cell (p:=⟨rb,1,none⟩) h.lr).trans h.short,(hb.cell (p:=⟨rb,2,none⟩) h.lr).trans h.ptr,(hb.cell (p:=⟨ib,0,none⟩) h.li).trans h.item,
  fun j=>(hb.frozen (p:=⟨rb,j,none⟩) h.lr).trans (h.fr j),fun j=>(hb.frozen (p:=⟨ib,j,none⟩) h.li).trans (h.fi j),h.rd.below (hb.mono h.low),h.cap,h.lim,h.hr,h.hi,h.ne,yaF h.lr hb.size,yaF h.li hb.size⟩
theorem Rdr.setLeft (h:Rdr w rb ib B A n c L sh it){A':Oz}{n' c':Nat}{L':Lz}(hr:Rd .u8 256 w B A' n' L')(hc:n'≤c')(hn:n'≤1099511627776) :
  Rdr (w.setCell ⟨rb,0,none⟩ (.slice A' n' c')) rb ib B A' n' c' L' sh it:=
 ⟨World.cell?_setCell_same' w _ _ (by rw[h.left];rfl),by rw[World.cell?_setCell_other _ _ _ _ (by simp)];exact h.short,by rw[World.cell?_setCell_other _ _ _ _ (by simp)];exact h.ptr,
  by rw[World.cell?_setCell_other _ _ _ _ (by simp[h.ne])];exact h.item,fun j=>(World.frozen?_setCell _ _ _ _).trans (h.fr j),fun j=>(World.frozen?_setCell _ _ _ _).trans (h.fi j),
  hr.keep fun p hp=>by rw[World.cell?_setCell_other _ _ _ _ (fun e=>by rw[←e] at hp;have:=h.hr;simp at hp;omega)],hc,hn,h.hr,h.hi,h.ne,by simpa using h.lr,by simpa using h.li⟩
theorem Rdr.setItem (h:Rdr w rb ib B A n c L sh it)(it':Nat):Rdr (w.setCell ⟨ib,0,none⟩ (.int .i64 it')) rb ib B A n c L sh it':=
 ⟨by rw[World.cell?_setCell_other _ _ _ _ (by simp[Ne.symm h.ne])];exact h.left,by rw[World.cell?_setCell_other _ _ _ _ (by simp)];exact h.short,by rw[World.cell?_setCell_other _ _ _ _ (by simp)];exact h.ptr,
  World.cell?_setCell_same' w _ _ (by rw[h.item];rfl),fun j=>(World.frozen?_setCell _ _ _ _).trans (h.fr j),fun j=>(World.frozen?_setCell _ _ _ _).trans (h.fi j),
  h.rd.keep fun p hp=>by rw[World.cell?_setCell_other _ _ _ _ (fun e=>by rw[←e] at hp;have:=h.hi;simp at hp;omega)],h.cap,h.lim,h.hr,h.hi,h.ne,by simpa using h.lr,by simpa using h.li⟩
end
def Fails (x rb ib:Nat)(w:World)(e:Ending)(w':World):Prop:=e=.panicked [{ v:=.iface 28 (.int .i64 (x:Int)),recovered:=false }]∧Up rb ib w w'
def Took (rb ib B sh it:Nat)(l L':Lz)(w:World)(e:Ending)(w':World):Prop:=
 ∃ A1 m c1 A2 n2 c2,e=.returned (.slice A1 m c1)∧m≤c1∧Rd .u8 256 w' B A1 m l∧Rdr w' rb ib B A2 n2 c2 L' sh it∧Up rb ib w w'
theorem zrK (A:Oz)(n c k:Nat)(hk:k≤n)(kz:n≤c) :
  ∀ (W:World),(Instr.slice 22 (.slice A n c) none (some (.int .u64 (k:Int))) none).run prog W=.ok (.slice A k c) W:=by
 intro W;rw[run_slice_h (P:=prog) (w:=W) 22 A n c under22 .u64 (k:Int) (by omega) (by omega),elem22,size5];simp only[Result.andThen,sliced];cases A<;>simp[Addr.add]
theorem zmy (A:Oz)(n c k:Nat)(hk:k≤n)(kz:n≤c):∃ A1 c1,n - k≤c1∧c1≤c ∧
  (∀ (W:World),(Instr.slice 22 (.slice A n c) (some (.int .u64 (k:Int))) none none).run prog W=.ok (.slice A1 (n - k) c1) W) ∧
  ∀ w B l,Rd .u8 256 w B A n l→Rd .u8 256 w B A1 (n - k) (l.drop k):=by
 refine⟨if c=k then A else A.map (·.add k),c - k,by omega,by omega,fun W=>?_,fun w B l hr=>hr.drop hk kz⟩;rw[run_slice_l (P:=prog) (w:=W) 22 A n c under22 .u64 (k:Int) (by omega) (by omega),elem22,size5];simp only[Result.andThen,sliced,Int.toNat_natCast,Nat.mul_one]
section
variable {w:World} {rb ib B n c sh it:Nat} {A:Oz} {L:Lz}
theorem zhi (h:Rdr w rb ib B A n c L sh it)(m:Nat)(hm:m≤L.length) :
  Calls prog 106 #[.pointer (some ⟨rb,0,none⟩),.int .u64 (m:Int)] w (Took rb ib B sh it (L.take m) (L.drop m) w):=by
 have hn:=h.rd.len;have hl:=h.lim;have KX:=h.cap;have x0:=h.left;have f0:=h.fr 0;have gu:=zrK A n c m (by omega) h.cap;obtain⟨A1,c1,gM,gY,gZ,YG⟩:=zmy A n c m (by omega) h.cap;have hw:IntKind.u64.wrap (n:Int)=(n:Int):=by rw[IntKind.wrap_u64];omega
 have d:decide ((n:Int) < (m:Int))=false:=by simp;omega
 have hR:=(h.rd.take (k:=m) (by omega));have hD:=YG _ _ _ h.rd;have YH:m≤n:=by omega
 have HN:=zaa hn;clear hn YG;go_enter func106,ntmps106;go_wp2;go_ret;exact⟨A,m,c,A1,n - m,c1,rfl,by omega,(h.setLeft hD gM (by omega)).rd.below (Below.refl _ _) |> fun _=>(hR.keep fun p hp=>by rw[World.cell?_setCell_other _ _ _ _ (fun e=>by rw[←e] at hp;have:=h.hr;simp at hp;omega)]),h.setLeft hD gM (by omega),(Up.refl _ _ _).setA 0 _⟩
theorem zhj (h:Rdr w rb ib B A n c L sh it)(m:Nat)(hm:L.length < m) :
  Calls prog 106 #[.pointer (some ⟨rb,0,none⟩),.int .u64 (m:Int)] w (Fails sh rb ib w):=by
 have hn:=h.rd.len;have hl:=h.lim;have x0:=h.left;have x1:=h.short;have hw:IntKind.u64.wrap (n:Int)=(n:Int):=by rw[IntKind.wrap_u64];omega
 have d:(n:Int) < (m:Int):=by omega
 clear hn;go_enter func106,ntmps106;go_wp2;exact⟨rfl,rfl,Up.refl _ _ _⟩
end
theorem zhk (c:Nat)(w:World):Calls prog 134 #[.int .u8 (c:Int)] w fun e w'=>e=.returned (.int .u8 (kof2 c:Nat))∧w'=w:=by
 by_cases bT:c=80
 ·subst bT;go_enter func134,ntmps134;go_wp2;go_ret;exact⟨rfl,rfl⟩
 by_cases bU:c=96
 ·subst bU;go_enter func134,ntmps134;go_wp2;go_ret;exact⟨rfl,rfl⟩
 by_cases bV:c=81
 ·subst bV;go_enter func134,ntmps134;go_wp2;go_ret;exact⟨rfl,rfl⟩
 by_cases bW:c=97
 ·subst bW;go_enter func134,ntmps134;go_wp2;go_ret;exact⟨rfl,rfl⟩
 by_cases XT:c=114
 ·subst XT;go_enter func134,ntmps134;go_wp2;go_ret;exact⟨rfl,rfl⟩
 by_cases XU:c=130
 ·subst XU;go_enter func134,ntmps134;go_wp2;go_ret;exact⟨rfl,rfl⟩
 by_cases XV:c=115
 ·subst XV;go_enter func134,ntmps134;go_wp2;go_ret;exact⟨rfl,rfl⟩
 by_cases XW:c=131
 ·subst XW;go_enter func134,ntmps134;go_wp2;go_ret;exact⟨rfl,rfl⟩
 by_cases XX:c=152
 ·subst XX;go_enter func134,ntmps134;go_wp2;go_ret;exact⟨rfl,rfl⟩
 by_cases XY:c=116
 ·subst XY;go_enter func134,ntmps134;go_wp2;go_ret;exact⟨rfl,rfl⟩
 by_cases XZ:c=132
 ·subst XZ;go_enter func134,ntmps134;go_wp2;go_ret;exact⟨rfl,rfl⟩
 by_cases X0:c=148
 ·subst X0;go_enter func134,ntmps134;go_wp2;go_ret;exact⟨rfl,rfl⟩
 have hk:kof2 c=0:=by
  unfold kof2;rw[if_neg bT,if_neg bU,if_neg bV,if_neg bW,if_neg XT,if_neg XU,if_neg XV,if_neg XW,if_neg XX,if_neg XY,if_neg XZ,if_neg X0]
 rw[hk];have d80:((c:Int)==80)=false:=by simp;omega
 have d96:((c:Int)==96)=false:=by simp;omega
 have d81:((c:Int)==81)=false:=by simp;omega
 have d97:((c:Int)==97)=false:=by simp;omega
 have d114:((c:Int)==114)=false:=by simp;omega
 have d130:((c:Int)==130)=false:=by simp;omega
 have d115:((c:Int)==115)=false:=by simp;omega
 have d131:((c:Int)==131)=false:=by simp;omega
 have d152:((c:Int)==152)=false:=by simp;omega
 have d116:((c:Int)==116)=false:=by simp;omega
 have d132:((c:Int)==132)=false:=by simp;omega
 have d148:((c:Int)==148)=false:=by simp;omega
 clear hk bT bU bV bW XT XU XV XW XX XY XZ X0;go_enter func134,ntmps134;go_wp2;go_ret;exact⟨rfl,rfl⟩
theorem zaz (c:Nat)(w:World):Calls prog 108 #[.int .u8 (c:Int)] w fun e w'=>e=.returned (.int .u8 (kof c:Nat))∧w'=w:=by
 by_cases qK:c=64
 ·subst qK;go_enter func108,ntmps108;go_wp2;go_ret;exact⟨rfl,rfl⟩
 by_cases qL:c=65
 ·subst qL;go_enter func108,ntmps108;go_wp2;go_ret;exact⟨rfl,rfl⟩
 by_cases bY:c=66
 ·subst bY;go_enter func108,ntmps108;go_wp2;go_ret;exact⟨rfl,rfl⟩
 by_cases bZ:c=86
 ·subst bZ;go_enter func108,ntmps108;go_wp2;go_ret;exact⟨rfl,rfl⟩
 by_cases YI:c=67
 ·subst YI;go_enter func108,ntmps108;go_wp2;go_ret;exact⟨rfl,rfl⟩
 by_cases Ba:c=82
 ·subst Ba;go_enter func108,ntmps108;go_wp2;go_ret;exact⟨rfl,rfl⟩
 by_cases X1:c=112
 ·subst X1;go_enter func108,ntmps108;go_wp2;go_ret;exact⟨rfl,rfl⟩
 by_cases Bb:c=68
 ·subst Bb;go_enter func108,ntmps108;go_wp2;go_ret;exact⟨rfl,rfl⟩
 by_cases Bc:c=83
 ·subst Bc;go_enter func108,ntmps108;go_wp2;go_ret;exact⟨rfl,rfl⟩
 by_cases X2:c=128
 ·subst X2;go_enter func108,ntmps108;go_wp2;go_ret;exact⟨rfl,rfl⟩
 by_cases Be:c=84
 ·subst Be;go_enter func108,ntmps108;go_wp2;go_ret;exact⟨rfl,rfl⟩
 by_cases X3:c=113
 ·subst X3;go_enter func108,ntmps108;go_wp2;go_ret;exact⟨rfl,rfl⟩
 by_cases Bf:c=85
 ·subst Bf;go_enter func108,ntmps108;go_wp2;go_ret;exact⟨rfl,rfl⟩
 by_cases X4:c=129
 ·subst X4;go_enter func108,ntmps108;go_wp2;go_ret;exact⟨rfl,rfl⟩
 by_cases J6:c=160
 ·subst J6;go_enter func108,ntmps108;go_wp2;go_ret;exact⟨rfl,rfl⟩
 by_cases GF:c=176
 ·subst GF;go_enter func108,ntmps108;go_wp2;go_ret;exact⟨rfl,rfl⟩
 by_cases X5:c=161
 ·subst X5;go_enter func108,ntmps108;go_wp2;go_ret;exact⟨rfl,rfl⟩
 by_cases X6:c=177
 ·subst X6;go_enter func108,ntmps108;go_wp2;go_ret;exact⟨rfl,rfl⟩
 by_cases X7:c=163
 ·subst X7;go_enter func108,ntmps108;go_wp2;go_ret;exact⟨rfl,rfl⟩
 by_cases X8:c=179
 ·subst X8;go_enter func108,ntmps108;go_wp2;go_ret;exact⟨rfl,rfl⟩
 by_cases Je:c=69
 ·subst Je;go_enter func108,ntmps108;go_wp2;go_ret;exact⟨rfl,rfl⟩
 by_cases jX:c=192
 ·subst jX;go_enter func108,ntmps108;go_wp2;go_ret;exact⟨rfl,rfl⟩
 by_cases X9:c=208
 ·subst X9;go_enter func108,ntmps108;go_wp2;go_ret;exact⟨rfl,rfl⟩
 by_cases X':c=193
 ·subst X';go_enter func108,ntmps108;go_wp2;go_ret;exact⟨rfl,rfl⟩
 by_cases ya:c=209
 ·subst ya;go_enter func108,ntmps108;go_wp2;go_ret;exact⟨rfl,rfl⟩
 by_cases yb:c=224
 ·subst yb;go_enter func108,ntmps108;go_wp2;go_ret;exact⟨rfl,rfl⟩
 by_cases yd:c=240
 ·subst yd;go_enter func108,ntmps108;go_wp2;go_ret;exact⟨rfl,rfl⟩
 have hk:kof c=kof2 c:=by
  unfold kof;rw[if_neg qK,if_neg qL,if_neg bY,if_neg bZ,if_neg YI,if_neg Ba,if_neg X1,if_neg Bb,if_neg Bc,if_neg X2,if_neg Be,if_neg X3,if_neg Bf,if_neg X4,if_neg J6,if_neg GF,if_neg X5,if_neg X6,if_neg X7,if_neg X8,if_neg Je,if_neg jX,if_neg X9,if_neg X',if_neg ya,if_neg yb,if_neg yd]
 rw[hk];have d64:((c:Int)==64)=false:=by simp;omega
 have d65:((c:Int)==65)=false:=by simp;omega
 have d66:((c:Int)==66)=false:=by simp;omega
 have d86:((c:Int)==86)=false:=by simp;omega
 have d67:((c:Int)==67)=false:=by simp;omega
 have d82:((c:Int)==82)=false:=by simp;omega
 have d112:((c:Int)==112)=false:=by simp;omega
 have d68:((c:Int)==68)=false:=by simp;omega
 have d83:((c:Int)==83)=false:=by simp;omega
 have d128:((c:Int)==128)=false:=by simp;omega
 have d84:((c:Int)==84)=false:=by simp;omega
 have d113:((c:Int)==113)=false:=by simp;omega
 have d85:((c:Int)==85)=false:=by simp;omega
 have d129:((c:Int)==129)=false:=by simp;omega
 have d160:((c:Int)==160)=false:=by simp;omega
 have d176:((c:Int)==176)=false:=by simp;omega
 have d161:((c:Int)==161)=false:=by simp;omega
 have d177:((c:Int)==177)=false:=by simp;omega
 have d163:((c:Int)==163)=false:=by simp;omega
 have d179:((c:Int)==179)=false:=by simp;omega
 have d69:((c:Int)==69)=false:=by simp;omega
 have d192:((c:Int)==192)=false:=by simp;omega
 have d208:((c:Int)==208)=false:=by simp;omega
 have d193:((c:Int)==193)=false:=by simp;omega
 have d209:((c:Int)==209)=false:=by simp;omega
 have d224:((c:Int)==224)=false:=by simp;omega
 have d240:((c:Int)==240)=false:=by simp;omega
 clear hk qK qL bY bZ YI Ba X1 Bb Bc X2 Be X3 Bf X4 J6 GF X5 X6 X7 X8 Je jX X9 X' ya yb yd;go_enter func108,ntmps108;go_wp2_with (go_at_call 134;refine(zhk c w).mono ?_;rintro e w' ⟨rfl,rfl⟩)
 all_goals first | (go_ret;exact⟨rfl,rfl⟩) | skip
theorem zbS (c:Nat)(w:World):Calls prog 110 #[.int .u8 (c:Int)] w fun e w'=>e=.returned (.int .u64 (sw c:Nat))∧w'=w:=by
 have hq:(c:Int) / 2 ^ 4=((c / 16:Nat):Int):=by omega
 unfold sw;obtain⟨q,hQ⟩:∃ q,c / 16=q:=⟨_,rfl⟩;rw[hQ] at hq ⊢;clear hQ;by_cases UO:q=10
 ·subst UO;go_enter func110,ntmps110;go_wp2;go_ret;exact⟨rfl,rfl⟩
 by_cases UP:q=12
 ·subst UP;go_enter func110,ntmps110;go_wp2;go_ret;exact⟨rfl,rfl⟩
 by_cases h14:q=14
 ·subst h14;go_enter func110,ntmps110;go_wp2;go_ret;exact⟨rfl,rfl⟩
 by_cases UQ:q=11
 ·subst UQ;go_enter func110,ntmps110;go_wp2;go_ret;exact⟨rfl,rfl⟩
 by_cases yU:q=13
 ·subst yU;go_enter func110,ntmps110;go_wp2;go_ret;exact⟨rfl,rfl⟩
 by_cases JW:q=15
 ·subst JW;go_enter func110,ntmps110;go_wp2;go_ret;exact⟨rfl,rfl⟩
 have d10:((q:Int)==10)=false:=by simp;omega
 have d12:((q:Int)==12)=false:=by simp;omega
 have d14:((q:Int)==14)=false:=by simp;omega
 have d11:((q:Int)==11)=false:=by simp;omega
 have d13:((q:Int)==13)=false:=by simp;omega
 have d15:((q:Int)==15)=false:=by simp;omega
 rw[if_neg (by omega),if_neg (by omega)];clear UO UP h14 UQ yU JW;go_enter func110,ntmps110;go_wp2;go_ret;exact⟨rfl,rfl⟩
theorem zdC (c:Nat)(w:World):Calls prog 112 #[.int .u8 (c:Int)] w fun e w'=>e=.returned (.int .u64 (lg c:Nat))∧w'=w:=by
 have hq:(c:Int) / 2 ^ 4=((c / 16:Nat):Int):=by omega
 unfold lg;obtain⟨q,hQ⟩:∃ q,c / 16=q:=⟨_,rfl⟩;rw[hQ] at hq ⊢;clear hQ;by_cases h5:q=5
 ·subst h5;go_enter func112,ntmps112;go_wp2;go_ret;exact⟨rfl,rfl⟩
 by_cases h6:q=6
 ·subst h6;go_enter func112,ntmps112;go_wp2;go_ret;exact⟨rfl,rfl⟩
 by_cases h7:q=7
 ·subst h7;go_enter func112,ntmps112;go_wp2;go_ret;exact⟨rfl,rfl⟩
 by_cases h8:q=8
 ·subst h8;go_enter func112,ntmps112;go_wp2;go_ret;exact⟨rfl,rfl⟩
 by_cases h9:q=9
 ·subst h9;go_enter func112,ntmps112;go_wp2;go_ret;exact⟨rfl,rfl⟩
 have d5:((q:Int)==5)=false:=by simp;omega
 have d6:((q:Int)==6)=false:=by simp;omega
 have d7:((q:Int)==7)=false:=by simp;omega
 have d8:((q:Int)==8)=false:=by simp;omega
 have d9:((q:Int)==9)=false:=by simp;omega
 rw[if_neg h5,if_neg h6,if_neg h7,if_neg h8,if_neg h9];clear h5 h6 h7 h8 h9;go_enter func112,ntmps112;go_wp2;go_ret;exact⟨rfl,rfl⟩
theorem zfS (k:Nat)(h:k < 8):256 ^ k≤72057594037927936:=by
 have:(256:Nat) ^ k≤256 ^ 7:=Nat.pow_le_pow_right (by omega) (by omega);omega
theorem zu2 (t c:Nat)(ht:t < 72057594037927936)(hc:c < 256):bits .or .u64 ((t:Int) * 256) (c:Int)=((t * 256+c:Nat):Int):=by
 have e:(t:Int) * 256=((t * 256:Nat):Int):=by simp
 rw[e,u64_or_nat _ _ (by omega) (by omega),nat_join 8 (t * 256) c (by omega) hc]
theorem zaP (B:Nat)(A:Oz)(n c:Nat)(l:Lz)(w:World)(hr:Rd .u8 256 w B A n l) :
  Calls prog 136 #[.slice A n c] w fun e w'=>(∃ p:Value,e=.returned (.tuple #[.int .u64 (tn l:Nat),p]))∧w'=w:=by
 by_cases h8:8 < n
 ·have e:tn l=0:=by unfold tn;rw[if_neg (by rw[hr.len];omega)]
  rw[e];clear e;go_enter func136,ntmps136;go_wp2;go_ret2;exact⟨⟨_,rfl⟩,rfl⟩
 ·have e:tn l=nb l:=by unfold tn;rw[if_pos (by rw[hr.len];omega)]
  rw[e];clear e;have d:decide (8 < (n:Int))=false:=by simp;omega
  go_enter func136,ntmps136;go_wp2;go_loop [4,12] (fun x i=>∃ k:Nat,k≤n∧i=.int .i64 k∧x=.int .u64 (nb (l.take k):Nat)) (fun _ i=>n - (intOf i).toNat)
  case atStart=>exact⟨0,Nat.zero_le _,rfl,rfl⟩
  case round=>
   obtain⟨k,hk,rfl,rfl⟩:=hrel;by_cases Hi:k < n
   ·obtain⟨b,o,c',rfl,hb,hx,xd,hc⟩:=hr.at_ Hi;have HT:=zaa (zrI l k c' hx);have ht:nb (l.take k) < 72057594037927936:=by
     have h1:=zjJ (l.take k) fun x hx=>hr.lim x (List.mem_of_mem_take hx);have h2:=zfS k (by omega);rw[List.length_take,Nat.min_eq_left (by rw[hr.len];omega)] at h1;omega
    generalize nb (l.take k)=t at *;have HS:=zaa (zu2 t c' ht xd);clear hx;go_wp2;exact⟨⟨k+1,by omega,by go_num,by rw[HT.out,HS.out]⟩,by simp[intOf];omega⟩
   ·have e:nb (l.take k)=nb l:=by rw[List.take_of_length_le (by rw[hr.len];omega)]
    have E:=zaa e;clear e;go_wp2;go_ret2;exact⟨⟨.bool true,by rw[E.out];rfl⟩,rfl⟩
theorem zrL (X:Nat)(k:Nat)(h1:1≤k)(h2:k≤7):(IntKind.u64.wrap (wrap64 (IntKind.u64.wrap (X * 2 ^ (8 * (8 - k)))) / 2 ^ (8 * (8 - k))))=(sgw X k:Int):=by
 unfold sgw;rw[if_pos ⟨h1,h2⟩];unfold wrap64;simp only[IntKind.wrap,IntKind.bits,IntKind.signed];obtain rfl | rfl | rfl | rfl | rfl | rfl | rfl:k=1∨k=2∨k=3∨k=4∨k=5∨k=6∨k=7:=by omega
 all_goals simp
 all_goals (repeat' split)<;>omega
theorem zaA (X k:Nat)(w:World) :
  Calls prog 90 #[.int .u64 X,.int .i64 k] w fun e w'=>e=.returned (.int .u64 (sgw X k:Nat))∧w'=w:=by
 by_cases h1:k < 1
 ·have e:sgw X k=X:=by unfold sgw;rw[if_neg (by omega)]
  rw[e];clear e;have d:(k:Int) < 1:=by omega
  go_enter func90,ntmps90;go_wp2;go_ret;exact⟨rfl,rfl⟩
 by_cases h2:8≤k
 ·have e:sgw X k=X:=by unfold sgw;rw[if_neg (by omega)]
  rw[e];clear e;go_enter func90,ntmps90;go_wp2;go_ret;exact⟨rfl,rfl⟩
 have e:=zrL X k (by omega) (by omega);have E:=zaa e;clear e;go_enter func90,ntmps90;go_wp2;go_ret;exact⟨congrArg (fun z=>Ending.returned (.int .u64 z)) E.out,rfl⟩
def zaT (v:V)(w:World)(e:Ending)(w':World):Prop:=e=.returned (.agg #[.int .u8 (v.kind:Int),.int .u64 (v.num:Int),.string v.text,.slice none 0 0])∧Below w.heap.size w w'
theorem zrM {B:Nat}{A:Oz}{n cc c:Nat}{d:Lz}{w:World}(hr:Rd .u8 256 w B A n d)(hB:B≤w.heap.size)(hk:kof c=1) :
  Calls prog 133 #[.int .u8 (c:Int),.slice A n cc] w (zaT (zag c d) w):=by
 have hv:zag c d=.mk 1 0 ⟨#[]⟩ []:=by unfold zag;rw[if_pos hk]
 have h0:=Box.new w (.int .u8 0) (.int .u64 0) (.string ⟨#[]⟩) (.slice none 0 0);have Hg:Below w.heap.size w (w.alloc (.cells #[.int .u8 0,.int .u64 0,.string ⟨#[]⟩,.slice none 0 0] 43)):=(za _ _);have hR:=hr.alloc hB (.cells #[.int .u8 0,.int .u64 0,.string ⟨#[]⟩,.slice none 0 0] 43);have gr:=zav cc hR;have hK:=zaa hk;have hl:=hr.len;have HL:=zaa hl;clear hk hl;go_enter func133,ntmps133;go_wp2_with (first
  | (go_at_call 136;refine(zaP B A n cc d _ hR).mono ?_;rintro e w' ⟨⟨p,rfl⟩,rfl⟩)
  | (go_at_call 108;refine(zaz c _).mono ?_;rintro e w' ⟨rfl,rfl⟩;rw[hK.out])
  | (go_at_call 90;refine(zaA (tn d) n _).mono ?_;rintro e w' ⟨rfl,rfl⟩)
  | (go_at_call 49;refine(zaO _).mono ?_;rintro e w1 ⟨rfl,hb⟩;have Ha:=zad Hg hb;obtain⟨c0,c1,c2,c3,f⟩:=(h0.call hb).all)
  | (go_at_call 67;refine(zaq 1 0 _).mono ?_;rintro e w1 ⟨rfl,hb⟩;have Ha:=zad Hg hb;obtain⟨c0,c1,c2,c3,f⟩:=(h0.call hb).all)
  | (go_at_call 35;refine(zaD 1 (sb d) _).mono ?_;rintro e w1 ⟨rfl,hb⟩;have Ha:=zad Hg hb;obtain⟨c0,c1,c2,c3,f⟩:=(h0.call hb).all))
 exact bodyPost_ret (v:=.agg #[.int .u8 1,.int .u64 0,.string ⟨#[]⟩,.slice none 0 0]) (by simp[results,results133,go_sem,c0,c1,c2,c3]) rfl ⟨by rw[hv];rfl,zae Ha zab _ _ _ _⟩
theorem zpe {B:Nat}{A:Oz}{n cc c:Nat}{d:Lz}{w:World}(hr:Rd .u8 256 w B A n d)(hB:B≤w.heap.size)(hk:kof c=2)(hc:c=65) :
  Calls prog 133 #[.int .u8 (c:Int),.slice A n cc] w (zaT (zag c d) w):=by
 have hv:zag c d=.mk 2 1 ⟨#[]⟩ []:=by unfold zag;rw[if_neg (by omega),if_pos hk,if_pos hc]
 have hd:((c:Int)==65)=true:=by simp;omega
 clear hc;have h0:=Box.new w (.int .u8 0) (.int .u64 0) (.string ⟨#[]⟩) (.slice none 0 0);have Hg:Below w.heap.size w (w.alloc (.cells #[.int .u8 0,.int .u64 0,.string ⟨#[]⟩,.slice none 0 0] 43)):=(za _ _);have hR:=hr.alloc hB (.cells #[.int .u8 0,.int .u64 0,.string ⟨#[]⟩,.slice none 0 0] 43);have gr:=zav cc hR;have hK:=zaa hk;have hl:=hr.len;have HL:=zaa hl;clear hk hl;go_enter func133,ntmps133;go_wp2_with (first
  | (go_at_call 136;refine(zaP B A n cc d _ hR).mono ?_;rintro e w' ⟨⟨p,rfl⟩,rfl⟩)
  | (go_at_call 108;refine(zaz c _).mono ?_;rintro e w' ⟨rfl,rfl⟩;rw[hK.out])
  | (go_at_call 90;refine(zaA (tn d) n _).mono ?_;rintro e w' ⟨rfl,rfl⟩)
  | (go_at_call 49;refine(zaO _).mono ?_;rintro e w1 ⟨rfl,hb⟩;have Ha:=zad Hg hb;obtain⟨c0,c1,c2,c3,f⟩:=(h0.call hb).all)
  | (go_at_call 67;refine(zaq 2 1 _).mono ?_;rintro e w1 ⟨rfl,hb⟩;have Ha:=zad Hg hb;obtain⟨c0,c1,c2,c3,f⟩:=(h0.call hb).all)
  | (go_at_call 35;refine(zaD 2 (sb d) _).mono ?_;rintro e w1 ⟨rfl,hb⟩;have Ha:=zad Hg hb;obtain⟨c0,c1,c2,c3,f⟩:=(h0.call hb).all))
 exact bodyPost_ret (v:=.agg #[.int .u8 2,.int .u64 1,.string ⟨#[]⟩,.slice none 0 0]) (by simp[results,results133,go_sem,c0,c1,c2,c3]) rfl ⟨by rw[hv];rfl,zae Ha zab _ _ _ _⟩
theorem zpf {B:Nat}{A:Oz}{n cc c:Nat}{d:Lz}{w:World}(hr:Rd .u8 256 w B A n d)(hB:B≤w.heap.size)(hk:kof c=2)(hc:c≠65) :
  Calls prog 133 #[.int .u8 (c:Int),.slice A n cc] w (zaT (zag c d) w):=by
 have hv:zag c d=.mk 2 (tn d) ⟨#[]⟩ []:=by unfold zag;rw[if_neg (by omega),if_pos hk,if_neg hc]
 have hd:((c:Int)==65)=false:=by simp;omega
 clear hc;have h0:=Box.new w (.int .u8 0) (.int .u64 0) (.string ⟨#[]⟩) (.slice none 0 0);have Hg:Below w.heap.size w (w.alloc (.cells #[.int .u8 0,.int .u64 0,.string ⟨#[]⟩,.slice none 0 0] 43)):=(za _ _);have hR:=hr.alloc hB (.cells #[.int .u8 0,.int .u64 0,.string ⟨#[]⟩,.slice none 0 0] 43);have gr:=zav cc hR;have hK:=zaa hk;have hl:=hr.len;have HL:=zaa hl;clear hk hl;go_enter func133,ntmps133;go_wp2_with (first
  | (go_at_call 136;refine(zaP B A n cc d _ hR).mono ?_;rintro e w' ⟨⟨p,rfl⟩,rfl⟩)
  | (go_at_call 108;refine(zaz c _).mono ?_;rintro e w' ⟨rfl,rfl⟩;rw[hK.out])
  | (go_at_call 90;refine(zaA (tn d) n _).mono ?_;rintro e w' ⟨rfl,rfl⟩)
  | (go_at_call 49;refine(zaO _).mono ?_;rintro e w1 ⟨rfl,hb⟩;have Ha:=zad Hg hb;obtain⟨c0,c1,c2,c3,f⟩:=(h0.call hb).all)
  | (go_at_call 67;refine(zaq 2 (tn d) _).mono ?_;rintro e w1 ⟨rfl,hb⟩;have Ha:=zad Hg hb;obtain⟨c0,c1,c2,c3,f⟩:=(h0.call hb).all)
  | (go_at_call 35;refine(zaD 2 (sb d) _).mono ?_;rintro e w1 ⟨rfl,hb⟩;have Ha:=zad Hg hb;obtain⟨c0,c1,c2,c3,f⟩:=(h0.call hb).all))
 exact bodyPost_ret (v:=.agg #[.int .u8 2,.int .u64 (tn d:Nat),.string ⟨#[]⟩,.slice none 0 0]) (by simp[results,results133,go_sem,c0,c1,c2,c3]) rfl ⟨by rw[hv];rfl,zae Ha zab _ _ _ _⟩
theorem zrN {B:Nat}{A:Oz}{n cc c:Nat}{d:Lz}{w:World}(hr:Rd .u8 256 w B A n d)(hB:B≤w.heap.size)(hk:kof c=7) :
  Calls prog 133 #[.int .u8 (c:Int),.slice A n cc] w (zaT (zag c d) w):=by
 have hv:zag c d=.mk 7 (sgw (tn d) n) ⟨#[]⟩ []:=by unfold zag;rw[if_neg (by omega),if_neg (by omega),if_pos (by omega),hk,hr.len]
 have h0:=Box.new w (.int .u8 0) (.int .u64 0) (.string ⟨#[]⟩) (.slice none 0 0);have Hg:Below w.heap.size w (w.alloc (.cells #[.int .u8 0,.int .u64 0,.string ⟨#[]⟩,.slice none 0 0] 43)):=(za _ _);have hR:=hr.alloc hB (.cells #[.int .u8 0,.int .u64 0,.string ⟨#[]⟩,.slice none 0 0] 43);have gr:=zav cc hR;have hK:=zaa hk;have hl:=hr.len;have HL:=zaa hl;clear hk hl;go_enter func133,ntmps133;go_wp2_with (first
  | (go_at_call 136;refine(zaP B A n cc d _ hR).mono ?_;rintro e w' ⟨⟨p,rfl⟩,rfl⟩)
  | (go_at_call 108;refine(zaz c _).mono ?_;rintro e w' ⟨rfl,rfl⟩;rw[hK.out])
  | (go_at_call 90;refine(zaA (tn d) n _).mono ?_;rintro e w' ⟨rfl,rfl⟩)
  | (go_at_call 49;refine(zaO _).mono ?_;rintro e w1 ⟨rfl,hb⟩;have Ha:=zad Hg hb;obtain⟨c0,c1,c2,c3,f⟩:=(h0.call hb).all)
  | (go_at_call 67;refine(zaq 7 (sgw (tn d) n) _).mono ?_;rintro e w1 ⟨rfl,hb⟩;have Ha:=zad Hg hb;obtain⟨c0,c1,c2,c3,f⟩:=(h0.call hb).all)
  | (go_at_call 35;refine(zaD 7 (sb d) _).mono ?_;rintro e w1 ⟨rfl,hb⟩;have Ha:=zad Hg hb;obtain⟨c0,c1,c2,c3,f⟩:=(h0.call hb).all))
 exact bodyPost_ret (v:=.agg #[.int .u8 7,.int .u64 (sgw (tn d) n:Nat),.string ⟨#[]⟩,.slice none 0 0]) (by simp[results,results133,go_sem,c0,c1,c2,c3]) rfl ⟨by rw[hv];rfl,zae Ha zab _ _ _ _⟩
theorem zrO {B:Nat}{A:Oz}{n cc c:Nat}{d:Lz}{w:World}(hr:Rd .u8 256 w B A n d)(hB:B≤w.heap.size)(hk:kof c=8) :
  Calls prog 133 #[.int .u8 (c:Int),.slice A n cc] w (zaT (zag c d) w):=by
 have hv:zag c d=.mk 8 (sgw (tn d) n) ⟨#[]⟩ []:=by unfold zag;rw[if_neg (by omega),if_neg (by omega),if_pos (by omega),hk,hr.len]
 have h0:=Box.new w (.int .u8 0) (.int .u64 0) (.string ⟨#[]⟩) (.slice none 0 0);have Hg:Below w.heap.size w (w.alloc (.cells #[.int .u8 0,.int .u64 0,.string ⟨#[]⟩,.slice none 0 0] 43)):=(za _ _);have hR:=hr.alloc hB (.cells #[.int .u8 0,.int .u64 0,.string ⟨#[]⟩,.slice none 0 0] 43);have gr:=zav cc hR;have hK:=zaa hk;have hl:=hr.len;have HL:=zaa hl;clear hk hl;go_enter func133,ntmps133;go_wp2_with (first
  | (go_at_call 136;refine(zaP B A n cc d _ hR).mono ?_;rintro e w' ⟨⟨p,rfl⟩,rfl⟩)
  | (go_at_call 108;refine(zaz c _).mono ?_;rintro e w' ⟨rfl,rfl⟩;rw[hK.out])
  | (go_at_call 90;refine(zaA (tn d) n _).mono ?_;rintro e w' ⟨rfl,rfl⟩)
  | (go_at_call 49;refine(zaO _).mono ?_;rintro e w1 ⟨rfl,hb⟩;have Ha:=zad Hg hb;obtain⟨c0,c1,c2,c3,f⟩:=(h0.call hb).all)
  | (go_at_call 67;refine(zaq 8 (sgw (tn d) n) _).mono ?_;rintro e w1 ⟨rfl,hb⟩;have Ha:=zad Hg hb;obtain⟨c0,c1,c2,c3,f⟩:=(h0.call hb).all)
  | (go_at_call 35;refine(zaD 8 (sb d) _).mono ?_;rintro e w1 ⟨rfl,hb⟩;have Ha:=zad Hg hb;obtain⟨c0,c1,c2,c3,f⟩:=(h0.call hb).all))
 exact bodyPost_ret (v:=.agg #[.int .u8 8,.int .u64 (sgw (tn d) n:Nat),.string ⟨#[]⟩,.slice none 0 0]) (by simp[results,results133,go_sem,c0,c1,c2,c3]) rfl ⟨by rw[hv];rfl,zae Ha zab _ _ _ _⟩
theorem zrP {B:Nat}{A:Oz}{n cc c:Nat}{d:Lz}{w:World}(hr:Rd .u8 256 w B A n d)(hB:B≤w.heap.size)(hk:kof c=9) :
  Calls prog 133 #[.int .u8 (c:Int),.slice A n cc] w (zaT (zag c d) w):=by
 have hv:zag c d=.mk 9 (sgw (tn d) n) ⟨#[]⟩ []:=by unfold zag;rw[if_neg (by omega),if_neg (by omega),if_pos (by omega),hk,hr.len]
 have h0:=Box.new w (.int .u8 0) (.int .u64 0) (.string ⟨#[]⟩) (.slice none 0 0);have Hg:Below w.heap.size w (w.alloc (.cells #[.int .u8 0,.int .u64 0,.string ⟨#[]⟩,.slice none 0 0] 43)):=(za _ _);have hR:=hr.alloc hB (.cells #[.int .u8 0,.int .u64 0,.string ⟨#[]⟩,.slice none 0 0] 43);have gr:=zav cc hR;have hK:=zaa hk;have hl:=hr.len;have HL:=zaa hl;clear hk hl;go_enter func133,ntmps133;go_wp2_with (first
  | (go_at_call 136;refine(zaP B A n cc d _ hR).mono ?_;rintro e w' ⟨⟨p,rfl⟩,rfl⟩)
  | (go_at_call 108;refine(zaz c _).mono ?_;rintro e w' ⟨rfl,rfl⟩;rw[hK.out])
  | (go_at_call 90;refine(zaA (tn d) n _).mono ?_;rintro e w' ⟨rfl,rfl⟩)
  | (go_at_call 49;refine(zaO _).mono ?_;rintro e w1 ⟨rfl,hb⟩;have Ha:=zad Hg hb;obtain⟨c0,c1,c2,c3,f⟩:=(h0.call hb).all)
  | (go_at_call 67;refine(zaq 9 (sgw (tn d) n) _).mono ?_;rintro e w1 ⟨rfl,hb⟩;have Ha:=zad Hg hb;obtain⟨c0,c1,c2,c3,f⟩:=(h0.call hb).all)
  | (go_at_call 35;refine(zaD 9 (sb d) _).mono ?_;rintro e w1 ⟨rfl,hb⟩;have Ha:=zad Hg hb;obtain⟨c0,c1,c2,c3,f⟩:=(h0.call hb).all))
 exact bodyPost_ret (v:=.agg #[.int .u8 9,.int .u64 (sgw (tn d) n:Nat),.string ⟨#[]⟩,.slice none 0 0]) (by simp[results,results133,go_sem,c0,c1,c2,c3]) rfl ⟨by rw[hv];rfl,zae Ha zab _ _ _ _⟩
theorem zpg {B:Nat}{A:Oz}{n cc c:Nat}{d:Lz}{w:World}(hr:Rd .u8 256 w B A n d)(hB:B≤w.heap.size)(hk:kof c=10) :
  Calls prog 133 #[.int .u8 (c:Int),.slice A n cc] w (zaT (zag c d) w):=by
 have hv:zag c d=.mk 10 (sgw (tn d) n) ⟨#[]⟩ []:=by unfold zag;rw[if_neg (by omega),if_neg (by omega),if_pos (by omega),hk,hr.len]
 have h0:=Box.new w (.int .u8 0) (.int .u64 0) (.string ⟨#[]⟩) (.slice none 0 0);have Hg:Below w.heap.size w (w.alloc (.cells #[.int .u8 0,.int .u64 0,.string ⟨#[]⟩,.slice none 0 0] 43)):=(za _ _);have hR:=hr.alloc hB (.cells #[.int .u8 0,.int .u64 0,.string ⟨#[]⟩,.slice none 0 0] 43);have gr:=zav cc hR;have hK:=zaa hk;have hl:=hr.len;have HL:=zaa hl;clear hk hl;go_enter func133,ntmps133;go_wp2_with (first
  | (go_at_call 136;refine(zaP B A n cc d _ hR).mono ?_;rintro e w' ⟨⟨p,rfl⟩,rfl⟩)
  | (go_at_call 108;refine(zaz c _).mono ?_;rintro e w' ⟨rfl,rfl⟩;rw[hK.out])
  | (go_at_call 90;refine(zaA (tn d) n _).mono ?_;rintro e w' ⟨rfl,rfl⟩)
  | (go_at_call 49;refine(zaO _).mono ?_;rintro e w1 ⟨rfl,hb⟩;have Ha:=zad Hg hb;obtain⟨c0,c1,c2,c3,f⟩:=(h0.call hb).all)
  | (go_at_call 67;refine(zaq 10 (sgw (tn d) n) _).mono ?_;rintro e w1 ⟨rfl,hb⟩;have Ha:=zad Hg hb;obtain⟨c0,c1,c2,c3,f⟩:=(h0.call hb).all)
  | (go_at_call 35;refine(zaD 10 (sb d) _).mono ?_;rintro e w1 ⟨rfl,hb⟩;have Ha:=zad Hg hb;obtain⟨c0,c1,c2,c3,f⟩:=(h0.call hb).all))
 exact bodyPost_ret (v:=.agg #[.int .u8 10,.int .u64 (sgw (tn d) n:Nat),.string ⟨#[]⟩,.slice none 0 0]) (by simp[results,results133,go_sem,c0,c1,c2,c3]) rfl ⟨by rw[hv];rfl,zae Ha zab _ _ _ _⟩
theorem zph {B:Nat}{A:Oz}{n cc c:Nat}{d:Lz}{w:World}(hr:Rd .u8 256 w B A n d)(hB:B≤w.heap.size)(hk:kof c=14) :
  Calls prog 133 #[.int .u8 (c:Int),.slice A n cc] w (zaT (zag c d) w):=by
 have hv:zag c d=.mk 14 (sgw (tn d) n) ⟨#[]⟩ []:=by unfold zag;rw[if_neg (by omega),if_neg (by omega),if_pos (by omega),hk,hr.len]
 have h0:=Box.new w (.int .u8 0) (.int .u64 0) (.string ⟨#[]⟩) (.slice none 0 0);have Hg:Below w.heap.size w (w.alloc (.cells #[.int .u8 0,.int .u64 0,.string ⟨#[]⟩,.slice none 0 0] 43)):=(za _ _);have hR:=hr.alloc hB (.cells #[.int .u8 0,.int .u64 0,.string ⟨#[]⟩,.slice none 0 0] 43);have gr:=zav cc hR;have hK:=zaa hk;have hl:=hr.len;have HL:=zaa hl;clear hk hl;go_enter func133,ntmps133;go_wp2_with (first
  | (go_at_call 136;refine(zaP B A n cc d _ hR).mono ?_;rintro e w' ⟨⟨p,rfl⟩,rfl⟩)
  | (go_at_call 108;refine(zaz c _).mono ?_;rintro e w' ⟨rfl,rfl⟩;rw[hK.out])
  | (go_at_call 90;refine(zaA (tn d) n _).mono ?_;rintro e w' ⟨rfl,rfl⟩)
  | (go_at_call 49;refine(zaO _).mono ?_;rintro e w1 ⟨rfl,hb⟩;have Ha:=zad Hg hb;obtain⟨c0,c1,c2,c3,f⟩:=(h0.call hb).all)
  | (go_at_call 67;refine(zaq 14 (sgw (tn d) n) _).mono ?_;rintro e w1 ⟨rfl,hb⟩;have Ha:=zad Hg hb;obtain⟨c0,c1,c2,c3,f⟩:=(h0.call hb).all)
  | (go_at_call 35;refine(zaD 14 (sb d) _).mono ?_;rintro e w1 ⟨rfl,hb⟩;have Ha:=zad Hg hb;obtain⟨c0,c1,c2,c3,f⟩:=(h0.call hb).all))
 exact bodyPost_ret (v:=.agg #[.int .u8 14,.int .u64 (sgw (tn d) n:Nat),.string ⟨#[]⟩,.slice none 0 0]) (by simp[results,results133,go_sem,c0,c1,c2,c3]) rfl ⟨by rw[hv];rfl,zae Ha zab _ _ _ _⟩
theorem zpi {B:Nat}{A:Oz}{n cc c:Nat}{d:Lz}{w:World}(hr:Rd .u8 256 w B A n d)(hB:B≤w.heap.size)(hk:kof c=15) :
  Calls prog 133 #[.int .u8 (c:Int),.slice A n cc] w (zaT (zag c d) w):=by
 have hv:zag c d=.mk 15 0 (sb d) []:=by unfold zag;rw[if_neg (by omega),if_neg (by omega),if_neg (by omega),if_pos (by omega),hk]
 have h0:=Box.new w (.int .u8 0) (.int .u64 0) (.string ⟨#[]⟩) (.slice none 0 0);have Hg:Below w.heap.size w (w.alloc (.cells #[.int .u8 0,.int .u64 0,.string ⟨#[]⟩,.slice none 0 0] 43)):=(za _ _);have hR:=hr.alloc hB (.cells #[.int .u8 0,.int .u64 0,.string ⟨#[]⟩,.slice none 0 0] 43);have gr:=zav cc hR;have hK:=zaa hk;have hl:=hr.len;have HL:=zaa hl;clear hk hl;go_enter func133,ntmps133;go_wp2_with (first
  | (go_at_call 136;refine(zaP B A n cc d _ hR).mono ?_;rintro e w' ⟨⟨p,rfl⟩,rfl⟩)
  | (go_at_call 108;refine(zaz c _).mono ?_;rintro e w' ⟨rfl,rfl⟩;rw[hK.out])
  | (go_at_call 90;refine(zaA (tn d) n _).mono ?_;rintro e w' ⟨rfl,rfl⟩)
  | (go_at_call 49;refine(zaO _).mono ?_;rintro e w1 ⟨rfl,hb⟩;have Ha:=zad Hg hb;obtain⟨c0,c1,c2,c3,f⟩:=(h0.call hb).all)
  | (go_at_call 67;refine(zaq 15 0 _).mono ?_;rintro e w1 ⟨rfl,hb⟩;have Ha:=zad Hg hb;obtain⟨c0,c1,c2,c3,f⟩:=(h0.call hb).all)
  | (go_at_call 35;refine(zaD 15 (sb d) _).mono ?_;rintro e w1 ⟨rfl,hb⟩;have Ha:=zad Hg hb;obtain⟨c0,c1,c2,c3,f⟩:=(h0.call hb).all))
 exact bodyPost_ret (v:=.agg #[.int .u8 15,.int .u64 0,.string (sb d),.slice none 0 0]) (by simp[results,results133,go_sem,c0,c1,c2,c3]) rfl ⟨by rw[hv];rfl,zae Ha zab _ _ _ _⟩
theorem zpj {B:Nat}{A:Oz}{n cc c:Nat}{d:Lz}{w:World}(hr:Rd .u8 256 w B A n d)(hB:B≤w.heap.size)(hk:kof c=16) :
  Calls prog 133 #[.int .u8 (c:Int),.slice A n cc] w (zaT (zag c d) w):=by
 have hv:zag c d=.mk 16 0 (sb d) []:=by unfold zag;rw[if_neg (by omega),if_neg (by omega),if_neg (by omega),if_pos (by omega),hk]
 have h0:=Box.new w (.int .u8 0) (.int .u64 0) (.string ⟨#[]⟩) (.slice none 0 0);have Hg:Below w.heap.size w (w.alloc (.cells #[.int .u8 0,.int .u64 0,.string ⟨#[]⟩,.slice none 0 0] 43)):=(za _ _);have hR:=hr.alloc hB (.cells #[.int .u8 0,.int .u64 0,.string ⟨#[]⟩,.slice none 0 0] 43);have gr:=zav cc hR;have hK:=zaa hk;have hl:=hr.len;have HL:=zaa hl;clear hk hl;go_enter func133,ntmps133;go_wp2_with (first
  | (go_at_call 136;refine(zaP B A n cc d _ hR).mono ?_;rintro e w' ⟨⟨p,rfl⟩,rfl⟩)
  | (go_at_call 108;refine(zaz c _).mono ?_;rintro e w' ⟨rfl,rfl⟩;rw[hK.out])
  | (go_at_call 90;refine(zaA (tn d) n _).mono ?_;rintro e w' ⟨rfl,rfl⟩)
  | (go_at_call 49;refine(zaO _).mono ?_;rintro e w1 ⟨rfl,hb⟩;have Ha:=zad Hg hb;obtain⟨c0,c1,c2,c3,f⟩:=(h0.call hb).all)
  | (go_at_call 67;refine(zaq 16 0 _).mono ?_;rintro e w1 ⟨rfl,hb⟩;have Ha:=zad Hg hb;obtain⟨c0,c1,c2,c3,f⟩:=(h0.call hb).all)
  | (go_at_call 35;refine(zaD 16 (sb d) _).mono ?_;rintro e w1 ⟨rfl,hb⟩;have Ha:=zad Hg hb;obtain⟨c0,c1,c2,c3,f⟩:=(h0.call hb).all))
 exact bodyPost_ret (v:=.agg #[.int .u8 16,.int .u64 0,.string (sb d),.slice none 0 0]) (by simp[results,results133,go_sem,c0,c1,c2,c3]) rfl ⟨by rw[hv];rfl,zae Ha zab _ _ _ _⟩
theorem zpk {B:Nat}{A:Oz}{n cc c:Nat}{d:Lz}{w:World}(hr:Rd .u8 256 w B A n d)(hB:B≤w.heap.size)(hk:kof c=17) :
  Calls prog 133 #[.int .u8 (c:Int),.slice A n cc] w (zaT (zag c d) w):=by
 have hv:zag c d=.mk 17 0 (sb d) []:=by unfold zag;rw[if_neg (by omega),if_neg (by omega),if_neg (by omega),if_pos (by omega),hk]
 have h0:=Box.new w (.int .u8 0) (.int .u64 0) (.string ⟨#[]⟩) (.slice none 0 0);have Hg:Below w.heap.size w (w.alloc (.cells #[.int .u8 0,.int .u64 0,.string ⟨#[]⟩,.slice none 0 0] 43)):=(za _ _);have hR:=hr.alloc hB (.cells #[.int .u8 0,.int .u64 0,.string ⟨#[]⟩,.slice none 0 0] 43);have gr:=zav cc hR;have hK:=zaa hk;have hl:=hr.len;have HL:=zaa hl;clear hk hl;go_enter func133,ntmps133;go_wp2_with (first
  | (go_at_call 136;refine(zaP B A n cc d _ hR).mono ?_;rintro e w' ⟨⟨p,rfl⟩,rfl⟩)
  | (go_at_call 108;refine(zaz c _).mono ?_;rintro e w' ⟨rfl,rfl⟩;rw[hK.out])
  | (go_at_call 90;refine(zaA (tn d) n _).mono ?_;rintro e w' ⟨rfl,rfl⟩)
  | (go_at_call 49;refine(zaO _).mono ?_;rintro e w1 ⟨rfl,hb⟩;have Ha:=zad Hg hb;obtain⟨c0,c1,c2,c3,f⟩:=(h0.call hb).all)
  | (go_at_call 67;refine(zaq 17 0 _).mono ?_;rintro e w1 ⟨rfl,hb⟩;have Ha:=zad Hg hb;obtain⟨c0,c1,c2,c3,f⟩:=(h0.call hb).all)
  | (go_at_call 35;refine(zaD 17 (sb d) _).mono ?_;rintro e w1 ⟨rfl,hb⟩;have Ha:=zad Hg hb;obtain⟨c0,c1,c2,c3,f⟩:=(h0.call hb).all))
 exact bodyPost_ret (v:=.agg #[.int .u8 17,.int .u64 0,.string (sb d),.slice none 0 0]) (by simp[results,results133,go_sem,c0,c1,c2,c3]) rfl ⟨by rw[hv];rfl,zae Ha zab _ _ _ _⟩
theorem zpl {B:Nat}{A:Oz}{n cc c:Nat}{d:Lz}{w:World}(hr:Rd .u8 256 w B A n d)(hB:B≤w.heap.size)(hk:kof c=18) :
  Calls prog 133 #[.int .u8 (c:Int),.slice A n cc] w (zaT (zag c d) w):=by
 have hv:zag c d=.mk 18 0 (sb d) []:=by unfold zag;rw[if_neg (by omega),if_neg (by omega),if_neg (by omega),if_pos (by omega),hk]
 have h0:=Box.new w (.int .u8 0) (.int .u64 0) (.string ⟨#[]⟩) (.slice none 0 0);have Hg:Below w.heap.size w (w.alloc (.cells #[.int .u8 0,.int .u64 0,.string ⟨#[]⟩,.slice none 0 0] 43)):=(za _ _);have hR:=hr.alloc hB (.cells #[.int .u8 0,.int .u64 0,.string ⟨#[]⟩,.slice none 0 0] 43);have gr:=zav cc hR;have hK:=zaa hk;have hl:=hr.len;have HL:=zaa hl;clear hk hl;go_enter func133,ntmps133;go_wp2_with (first
  | (go_at_call 136;refine(zaP B A n cc d _ hR).mono ?_;rintro e w' ⟨⟨p,rfl⟩,rfl⟩)
  | (go_at_call 108;refine(zaz c _).mono ?_;rintro e w' ⟨rfl,rfl⟩;rw[hK.out])
  | (go_at_call 90;refine(zaA (tn d) n _).mono ?_;rintro e w' ⟨rfl,rfl⟩)
  | (go_at_call 49;refine(zaO _).mono ?_;rintro e w1 ⟨rfl,hb⟩;have Ha:=zad Hg hb;obtain⟨c0,c1,c2,c3,f⟩:=(h0.call hb).all)
  | (go_at_call 67;refine(zaq 18 0 _).mono ?_;rintro e w1 ⟨rfl,hb⟩;have Ha:=zad Hg hb;obtain⟨c0,c1,c2,c3,f⟩:=(h0.call hb).all)
  | (go_at_call 35;refine(zaD 18 (sb d) _).mono ?_;rintro e w1 ⟨rfl,hb⟩;have Ha:=zad Hg hb;obtain⟨c0,c1,c2,c3,f⟩:=(h0.call hb).all))
 exact bodyPost_ret (v:=.agg #[.int .u8 18,.int .u64 0,.string (sb d),.slice none 0 0]) (by simp[results,results133,go_sem,c0,c1,c2,c3]) rfl ⟨by rw[hv];rfl,zae Ha zab _ _ _ _⟩
theorem zpm {B:Nat}{A:Oz}{n cc c:Nat}{d:Lz}{w:World}(hr:Rd .u8 256 w B A n d)(hB:B≤w.heap.size)(hk:kof c=19) :
  Calls prog 133 #[.int .u8 (c:Int),.slice A n cc] w (zaT (zag c d) w):=by
 have hv:zag c d=.mk 19 0 (sb d) []:=by unfold zag;rw[if_neg (by omega),if_neg (by omega),if_neg (by omega),if_pos (by omega),hk]
 have h0:=Box.new w (.int .u8 0) (.int .u64 0) (.string ⟨#[]⟩) (.slice none 0 0);have Hg:Below w.heap.size w (w.alloc (.cells #[.int .u8 0,.int .u64 0,.string ⟨#[]⟩,.slice none 0 0] 43)):=(za _ _);have hR:=hr.alloc hB (.cells #[.int .u8 0,.int .u64 0,.string ⟨#[]⟩,.slice none 0 0] 43);have gr:=zav cc hR;have hK:=zaa hk;have hl:=hr.len;have HL:=zaa hl;clear hk hl;go_enter func133,ntmps133;go_wp2_with (first
  | (go_at_call 136;refine(zaP B A n cc d _ hR).mono ?_;rintro e w' ⟨⟨p,rfl⟩,rfl⟩)
  | (go_at_call 108;refine(zaz c _).mono ?_;rintro e w' ⟨rfl,rfl⟩;rw[hK.out])
  | (go_at_call 90;refine(zaA (tn d) n _).mono ?_;rintro e w' ⟨rfl,rfl⟩)
  | (go_at_call 49;refine(zaO _).mono ?_;rintro e w1 ⟨rfl,hb⟩;have Ha:=zad Hg hb;obtain⟨c0,c1,c2,c3,f⟩:=(h0.call hb).all)
  | (go_at_call 67;refine(zaq 19 0 _).mono ?_;rintro e w1 ⟨rfl,hb⟩;have Ha:=zad Hg hb;obtain⟨c0,c1,c2,c3,f⟩:=(h0.call hb).all)
  | (go_at_call 35;refine(zaD 19 (sb d) _).mono ?_;rintro e w1 ⟨rfl,hb⟩;have Ha:=zad Hg hb;obtain⟨c0,c1,c2,c3,f⟩:=(h0.call hb).all))
 exact bodyPost_ret (v:=.agg #[.int .u8 19,.int .u64 0,.string (sb d),.slice none 0 0]) (by simp[results,results133,go_sem,c0,c1,c2,c3]) rfl ⟨by rw[hv];rfl,zae Ha zab _ _ _ _⟩
theorem zpn {B:Nat}{A:Oz}{n cc c:Nat}{d:Lz}{w:World}(hr:Rd .u8 256 w B A n d)(hB:B≤w.heap.size)(hk:kof c=20) :
  Calls prog 133 #[.int .u8 (c:Int),.slice A n cc] w (zaT (zag c d) w):=by
 have hv:zag c d=.mk 20 0 (sb d) []:=by unfold zag;rw[if_neg (by omega),if_neg (by omega),if_neg (by omega),if_pos (by omega),hk]
 have h0:=Box.new w (.int .u8 0) (.int .u64 0) (.string ⟨#[]⟩) (.slice none 0 0);have Hg:Below w.heap.size w (w.alloc (.cells #[.int .u8 0,.int .u64 0,.string ⟨#[]⟩,.slice none 0 0] 43)):=(za _ _);have hR:=hr.alloc hB (.cells #[.int .u8 0,.int .u64 0,.string ⟨#[]⟩,.slice none 0 0] 43);have gr:=zav cc hR;have hK:=zaa hk;have hl:=hr.len;have HL:=zaa hl;clear hk hl;go_enter func133,ntmps133;go_wp2_with (first
  | (go_at_call 136;refine(zaP B A n cc d _ hR).mono ?_;rintro e w' ⟨⟨p,rfl⟩,rfl⟩)
  | (go_at_call 108;refine(zaz c _).mono ?_;rintro e w' ⟨rfl,rfl⟩;rw[hK.out])
  | (go_at_call 90;refine(zaA (tn d) n _).mono ?_;rintro e w' ⟨rfl,rfl⟩)
  | (go_at_call 49;refine(zaO _).mono ?_;rintro e w1 ⟨rfl,hb⟩;have Ha:=zad Hg hb;obtain⟨c0,c1,c2,c3,f⟩:=(h0.call hb).all)
  | (go_at_call 67;refine(zaq 20 0 _).mono ?_;rintro e w1 ⟨rfl,hb⟩;have Ha:=zad Hg hb;obtain⟨c0,c1,c2,c3,f⟩:=(h0.call hb).all)
  | (go_at_call 35;refine(zaD 20 (sb d) _).mono ?_;rintro e w1 ⟨rfl,hb⟩;have Ha:=zad Hg hb;obtain⟨c0,c1,c2,c3,f⟩:=(h0.call hb).all))
 exact bodyPost_ret (v:=.agg #[.int .u8 20,.int .u64 0,.string (sb d),.slice none 0 0]) (by simp[results,results133,go_sem,c0,c1,c2,c3]) rfl ⟨by rw[hv];rfl,zae Ha zab _ _ _ _⟩
theorem zpo {B:Nat}{A:Oz}{n cc c:Nat}{d:Lz}{w:World}(hr:Rd .u8 256 w B A n d)(hB:B≤w.heap.size)(hk:kof c=21) :
  Calls prog 133 #[.int .u8 (c:Int),.slice A n cc] w (zaT (zag c d) w):=by
 have hv:zag c d=.mk 21 0 (sb d) []:=by unfold zag;rw[if_neg (by omega),if_neg (by omega),if_neg (by omega),if_pos (by omega),hk]
 have h0:=Box.new w (.int .u8 0) (.int .u64 0) (.string ⟨#[]⟩) (.slice none 0 0);have Hg:Below w.heap.size w (w.alloc (.cells #[.int .u8 0,.int .u64 0,.string ⟨#[]⟩,.slice none 0 0] 43)):=(za _ _);have hR:=hr.alloc hB (.cells #[.int .u8 0,.int .u64 0,.string ⟨#[]⟩,.slice none 0 0] 43);have gr:=zav cc hR;have hK:=zaa hk;have hl:=hr.len;have HL:=zaa hl;clear hk hl;go_enter func133,ntmps133;go_wp2_with (first
  | (go_at_call 136;refine(zaP B A n cc d _ hR).mono ?_;rintro e w' ⟨⟨p,rfl⟩,rfl⟩)
  | (go_at_call 108;refine(zaz c _).mono ?_;rintro e w' ⟨rfl,rfl⟩;rw[hK.out])
  | (go_at_call 90;refine(zaA (tn d) n _).mono ?_;rintro e w' ⟨rfl,rfl⟩)
  | (go_at_call 49;refine(zaO _).mono ?_;rintro e w1 ⟨rfl,hb⟩;have Ha:=zad Hg hb;obtain⟨c0,c1,c2,c3,f⟩:=(h0.call hb).all)
  | (go_at_call 67;refine(zaq 21 0 _).mono ?_;rintro e w1 ⟨rfl,hb⟩;have Ha:=zad Hg hb;obtain⟨c0,c1,c2,c3,f⟩:=(h0.call hb).all)
  | (go_at_call 35;refine(zaD 21 (sb d) _).mono ?_;rintro e w1 ⟨rfl,hb⟩;have Ha:=zad Hg hb;obtain⟨c0,c1,c2,c3,f⟩:=(h0.call hb).all))
 exact bodyPost_ret (v:=.agg #[.int .u8 21,.int .u64 0,.string (sb d),.slice none 0 0]) (by simp[results,results133,go_sem,c0,c1,c2,c3]) rfl ⟨by rw[hv];rfl,zae Ha zab _ _ _ _⟩
theorem zrQ {B:Nat}{A:Oz}{n cc c:Nat}{d:Lz}{w:World}(hr:Rd .u8 256 w B A n d)(hB:B≤w.heap.size)(hk:kof c=0) :
  Calls prog 133 #[.int .u8 (c:Int),.slice A n cc] w (zaT (zag c d) w):=by
 have hv:zag c d=.mk 0 (tn d) ⟨#[]⟩ []:=by unfold zag;rw[if_neg (by omega),if_neg (by omega),if_neg (by omega),if_neg (by omega),hk]
 have h0:=Box.new w (.int .u8 0) (.int .u64 0) (.string ⟨#[]⟩) (.slice none 0 0);have Hg:Below w.heap.size w (w.alloc (.cells #[.int .u8 0,.int .u64 0,.string ⟨#[]⟩,.slice none 0 0] 43)):=(za _ _);have hR:=hr.alloc hB (.cells #[.int .u8 0,.int .u64 0,.string ⟨#[]⟩,.slice none 0 0] 43);have gr:=zav cc hR;have hK:=zaa hk;have hl:=hr.len;have HL:=zaa hl;clear hk hl;go_enter func133,ntmps133;go_wp2_with (first
  | (go_at_call 136;refine(zaP B A n cc d _ hR).mono ?_;rintro e w' ⟨⟨p,rfl⟩,rfl⟩)
  | (go_at_call 108;refine(zaz c _).mono ?_;rintro e w' ⟨rfl,rfl⟩;rw[hK.out])
  | (go_at_call 90;refine(zaA (tn d) n _).mono ?_;rintro e w' ⟨rfl,rfl⟩)
  | (go_at_call 49;refine(zaO _).mono ?_;rintro e w1 ⟨rfl,hb⟩;have Ha:=zad Hg hb;obtain⟨c0,c1,c2,c3,f⟩:=(h0.call hb).all)
  | (go_at_call 67;refine(zaq 0 (tn d) _).mono ?_;rintro e w1 ⟨rfl,hb⟩;have Ha:=zad Hg hb;obtain⟨c0,c1,c2,c3,f⟩:=(h0.call hb).all)
  | (go_at_call 35;refine(zaD 0 (sb d) _).mono ?_;rintro e w1 ⟨rfl,hb⟩;have Ha:=zad Hg hb;obtain⟨c0,c1,c2,c3,f⟩:=(h0.call hb).all))
 exact bodyPost_ret (v:=.agg #[.int .u8 0,.int .u64 (tn d:Nat),.string ⟨#[]⟩,.slice none 0 0]) (by simp[results,results133,go_sem,c0,c1,c2,c3]) rfl ⟨by rw[hv];rfl,zae Ha zab _ _ _ _⟩
theorem zrR {B:Nat}{A:Oz}{n cc c:Nat}{d:Lz}{w:World}(hr:Rd .u8 256 w B A n d)(hB:B≤w.heap.size)(hk:kof c=3) :
  Calls prog 133 #[.int .u8 (c:Int),.slice A n cc] w (zaT (zag c d) w):=by
 have hv:zag c d=.mk 3 (tn d) ⟨#[]⟩ []:=by unfold zag;rw[if_neg (by omega),if_neg (by omega),if_neg (by omega),if_neg (by omega),hk]
 have h0:=Box.new w (.int .u8 0) (.int .u64 0) (.string ⟨#[]⟩) (.slice none 0 0);have Hg:Below w.heap.size w (w.alloc (.cells #[.int .u8 0,.int .u64 0,.string ⟨#[]⟩,.slice none 0 0] 43)):=(za _ _);have hR:=hr.alloc hB (.cells #[.int .u8 0,.int .u64 0,.string ⟨#[]⟩,.slice none 0 0] 43);have gr:=zav cc hR;have hK:=zaa hk;have hl:=hr.len;have HL:=zaa hl;clear hk hl;go_enter func133,ntmps133;go_wp2_with (first
  | (go_at_call 136;refine(zaP B A n cc d _ hR).mono ?_;rintro e w' ⟨⟨p,rfl⟩,rfl⟩)
  | (go_at_call 108;refine(zaz c _).mono ?_;rintro e w' ⟨rfl,rfl⟩;rw[hK.out])
  | (go_at_call 90;refine(zaA (tn d) n _).mono ?_;rintro e w' ⟨rfl,rfl⟩)
  | (go_at_call 49;refine(zaO _).mono ?_;rintro e w1 ⟨rfl,hb⟩;have Ha:=zad Hg hb;obtain⟨c0,c1,c2,c3,f⟩:=(h0.call hb).all)
  | (go_at_call 67;refine(zaq 3 (tn d) _).mono ?_;rintro e w1 ⟨rfl,hb⟩;have Ha:=zad Hg hb;obtain⟨c0,c1,c2,c3,f⟩:=(h0.call hb).all)
  | (go_at_call 35;refine(zaD 3 (sb d) _).mono ?_;rintro e w1 ⟨rfl,hb⟩;have Ha:=zad Hg hb;obtain⟨c0,c1,c2,c3,f⟩:=(h0.call hb).all))
 exact bodyPost_ret (v:=.agg #[.int .u8 3,.int .u64 (tn d:Nat),.string ⟨#[]⟩,.slice none 0 0]) (by simp[results,results133,go_sem,c0,c1,c2,c3]) rfl ⟨by rw[hv];rfl,zae Ha zab _ _ _ _⟩
theorem zrS {B:Nat}{A:Oz}{n cc c:Nat}{d:Lz}{w:World}(hr:Rd .u8 256 w B A n d)(hB:B≤w.heap.size)(hk:kof c=4) :
  Calls prog 133 #[.int .u8 (c:Int),.slice A n cc] w (zaT (zag c d) w):=by
 have hv:zag c d=.mk 4 (tn d) ⟨#[]⟩ []:=by unfold zag;rw[if_neg (by omega),if_neg (by omega),if_neg (by omega),if_neg (by omega),hk]
 have h0:=Box.new w (.int .u8 0) (.int .u64 0) (.string ⟨#[]⟩) (.slice none 0 0);have Hg:Below w.heap.size w (w.alloc (.cells #[.int .u8 0,.int .u64 0,.string ⟨#[]⟩,.slice none 0 0] 43)):=(za _ _);have hR:=hr.alloc hB (.cells #[.int .u8 0,.int .u64 0,.string ⟨#[]⟩,.slice none 0 0] 43);have gr:=zav cc hR;have hK:=zaa hk;have hl:=hr.len;have HL:=zaa hl;clear hk hl;go_enter func133,ntmps133;go_wp2_with (first
  | (go_at_call 136;refine(zaP B A n cc d _ hR).mono ?_;rintro e w' ⟨⟨p,rfl⟩,rfl⟩)
  | (go_at_call 108;refine(zaz c _).mono ?_;rintro e w' ⟨rfl,rfl⟩;rw[hK.out])
  | (go_at_call 90;refine(zaA (tn d) n _).mono ?_;rintro e w' ⟨rfl,rfl⟩)
  | (go_at_call 49;refine(zaO _).mono ?_;rintro e w1 ⟨rfl,hb⟩;have Ha:=zad Hg hb;obtain⟨c0,c1,c2,c3,f⟩:=(h0.call hb).all)
  | (go_at_call 67;refine(zaq 4 (tn d) _).mono ?_;rintro e w1 ⟨rfl,hb⟩;have Ha:=zad Hg hb;obtain⟨c0,c1,c2,c3,f⟩:=(h0.call hb).all)
  | (go_at_call 35;refine(zaD 4 (sb d) _).mono ?_;rintro e w1 ⟨rfl,hb⟩;have Ha:=zad Hg hb;obtain⟨c0,c1,c2,c3,f⟩:=(h0.call hb).all))
 exact bodyPost_ret (v:=.agg #[.int .u8 4,.int .u64 (tn d:Nat),.string ⟨#[]⟩,.slice none 0 0]) (by simp[results,results133,go_sem,c0,c1,c2,c3]) rfl ⟨by rw[hv];rfl,zae Ha zab _ _ _ _⟩
theorem zrT {B:Nat}{A:Oz}{n cc c:Nat}{d:Lz}{w:World}(hr:Rd .u8 256 w B A n d)(hB:B≤w.heap.size)(hk:kof c=5) :
  Calls prog 133 #[.int .u8 (c:Int),.slice A n cc] w (zaT (zag c d) w):=by
 have hv:zag c d=.mk 5 (tn d) ⟨#[]⟩ []:=by unfold zag;rw[if_neg (by omega),if_neg (by omega),if_neg (by omega),if_neg (by omega),hk]
 have h0:=Box.new w (.int .u8 0) (.int .u64 0) (.string ⟨#[]⟩) (.slice none 0 0);have Hg:Below w.heap.size w (w.alloc (.cells #[.int .u8 0,.int .u64 0,.string ⟨#[]⟩,.slice none 0 0] 43)):=(za _ _);have hR:=hr.alloc hB (.cells #[.int .u8 0,.int .u64 0,.string ⟨#[]⟩,.slice none 0 0] 43);have gr:=zav cc hR;have hK:=zaa hk;have hl:=hr.len;have HL:=zaa hl;clear hk hl;go_enter func133,ntmps133;go_wp2_with (first
  | (go_at_call 136;refine(zaP B A n cc d _ hR).mono ?_;rintro e w' ⟨⟨p,rfl⟩,rfl⟩)
  | (go_at_call 108;refine(zaz c _).mono ?_;rintro e w' ⟨rfl,rfl⟩;rw[hK.out])
  | (go_at_call 90;refine(zaA (tn d) n _).mono ?_;rintro e w' ⟨rfl,rfl⟩)
  | (go_at_call 49;refine(zaO _).mono ?_;rintro e w1 ⟨rfl,hb⟩;have Ha:=zad Hg hb;obtain⟨c0,c1,c2,c3,f⟩:=(h0.call hb).all)
  | (go_at_call 67;refine(zaq 5 (tn d) _).mono ?_;rintro e w1 ⟨rfl,hb⟩;have Ha:=zad Hg hb;obtain⟨c0,c1,c2,c3,f⟩:=(h0.call hb).all)
  | (go_at_call 35;refine(zaD 5 (sb d) _).mono ?_;rintro e w1 ⟨rfl,hb⟩;have Ha:=zad Hg hb;obtain⟨c0,c1,c2,c3,f⟩:=(h0.call hb).all))
 exact bodyPost_ret (v:=.agg #[.int .u8 5,.int .u64 (tn d:Nat),.string ⟨#[]⟩,.slice none 0 0]) (by simp[results,results133,go_sem,c0,c1,c2,c3]) rfl ⟨by rw[hv];rfl,zae Ha zab _ _ _ _⟩
theorem zrU {B:Nat}{A:Oz}{n cc c:Nat}{d:Lz}{w:World}(hr:Rd .u8 256 w B A n d)(hB:B≤w.heap.size)(hk:kof c=6) :
  Calls prog 133 #[.int .u8 (c:Int),.slice A n cc] w (zaT (zag c d) w):=by
 have hv:zag c d=.mk 6 (tn d) ⟨#[]⟩ []:=by unfold zag;rw[if_neg (by omega),if_neg (by omega),if_neg (by omega),if_neg (by omega),hk]
 have h0:=Box.new w (.int .u8 0) (.int .u64 0) (.string ⟨#[]⟩) (.slice none 0 0);have Hg:Below w.heap.size w (w.alloc (.cells #[.int .u8 0,.int .u64 0,.string ⟨#[]⟩,.slice none 0 0] 43)):=(za _ _);have hR:=hr.alloc hB (.cells #[.int .u8 0,.int .u64 0,.string ⟨#[]⟩,.slice none 0 0] 43);have gr:=zav cc hR;have hK:=zaa hk;have hl:=hr.len;have HL:=zaa hl;clear hk hl;go_enter func133,ntmps133;go_wp2_with (first
  | (go_at_call 136;refine(zaP B A n cc d _ hR).mono ?_;rintro e w' ⟨⟨p,rfl⟩,rfl⟩)
  | (go_at_call 108;refine(zaz c _).mono ?_;rintro e w' ⟨rfl,rfl⟩;rw[hK.out])
  | (go_at_call 90;refine(zaA (tn d) n _).mono ?_;rintro e w' ⟨rfl,rfl⟩)
  | (go_at_call 49;refine(zaO _).mono ?_;rintro e w1 ⟨rfl,hb⟩;have Ha:=zad Hg hb;obtain⟨c0,c1,c2,c3,f⟩:=(h0.call hb).all)
  | (go_at_call 67;refine(zaq 6 (tn d) _).mono ?_;rintro e w1 ⟨rfl,hb⟩;have Ha:=zad Hg hb;obtain⟨c0,c1,c2,c3,f⟩:=(h0.call hb).all)
  | (go_at_call 35;refine(zaD 6 (sb d) _).mono ?_;rintro e w1 ⟨rfl,hb⟩;have Ha:=zad Hg hb;obtain⟨c0,c1,c2,c3,f⟩:=(h0.call hb).all))
 exact bodyPost_ret (v:=.agg #[.int .u8 6,.int .u64 (tn d:Nat),.string ⟨#[]⟩,.slice none 0 0]) (by simp[results,results133,go_sem,c0,c1,c2,c3]) rfl ⟨by rw[hv];rfl,zae Ha zab _ _ _ _⟩
theorem zpp {B:Nat}{A:Oz}{n cc c:Nat}{d:Lz}{w:World}(hr:Rd .u8 256 w B A n d)(hB:B≤w.heap.size)(hk:kof c=11) :
  Calls prog 133 #[.int .u8 (c:Int),.slice A n cc] w (zaT (zag c d) w):=by
 have hv:zag c d=.mk 11 (tn d) ⟨#[]⟩ []:=by unfold zag;rw[if_neg (by omega),if_neg (by omega),if_neg (by omega),if_neg (by omega),hk]
 have h0:=Box.new w (.int .u8 0) (.int .u64 0) (.string ⟨#[]⟩) (.slice none 0 0);have Hg:Below w.heap.size w (w.alloc (.cells #[.int .u8 0,.int .u64 0,.string ⟨#[]⟩,.slice none 0 0] 43)):=(za _ _);have hR:=hr.alloc hB (.cells #[.int .u8 0,.int .u64 0,.string ⟨#[]⟩,.slice none 0 0] 43);have gr:=zav cc hR;have hK:=zaa hk;have hl:=hr.len;have HL:=zaa hl;clear hk hl;go_enter func133,ntmps133;go_wp2_with (first
  | (go_at_call 136;refine(zaP B A n cc d _ hR).mono ?_;rintro e w' ⟨⟨p,rfl⟩,rfl⟩)
  | (go_at_call 108;refine(zaz c _).mono ?_;rintro e w' ⟨rfl,rfl⟩;rw[hK.out])
  | (go_at_call 90;refine(zaA (tn d) n _).mono ?_;rintro e w' ⟨rfl,rfl⟩)
  | (go_at_call 49;refine(zaO _).mono ?_;rintro e w1 ⟨rfl,hb⟩;have Ha:=zad Hg hb;obtain⟨c0,c1,c2,c3,f⟩:=(h0.call hb).all)
  | (go_at_call 67;refine(zaq 11 (tn d) _).mono ?_;rintro e w1 ⟨rfl,hb⟩;have Ha:=zad Hg hb;obtain⟨c0,c1,c2,c3,f⟩:=(h0.call hb).all)
  | (go_at_call 35;refine(zaD 11 (sb d) _).mono ?_;rintro e w1 ⟨rfl,hb⟩;have Ha:=zad Hg hb;obtain⟨c0,c1,c2,c3,f⟩:=(h0.call hb).all))
 exact bodyPost_ret (v:=.agg #[.int .u8 11,.int .u64 (tn d:Nat),.string ⟨#[]⟩,.slice none 0 0]) (by simp[results,results133,go_sem,c0,c1,c2,c3]) rfl ⟨by rw[hv];rfl,zae Ha zab _ _ _ _⟩
theorem zpq {B:Nat}{A:Oz}{n cc c:Nat}{d:Lz}{w:World}(hr:Rd .u8 256 w B A n d)(hB:B≤w.heap.size)(hk:kof c=12) :
  Calls prog 133 #[.int .u8 (c:Int),.slice A n cc] w (zaT (zag c d) w):=by
 have hv:zag c d=.mk 12 (tn d) ⟨#[]⟩ []:=by unfold zag;rw[if_neg (by omega),if_neg (by omega),if_neg (by omega),if_neg (by omega),hk]
 have h0:=Box.new w (.int .u8 0) (.int .u64 0) (.string ⟨#[]⟩) (.slice none 0 0);have Hg:Below w.heap.size w (w.alloc (.cells #[.int .u8 0,.int .u64 0,.string ⟨#[]⟩,.slice none 0 0] 43)):=(za _ _);have hR:=hr.alloc hB (.cells #[.int .u8 0,.int .u64 0,.string ⟨#[]⟩,.slice none 0 0] 43);have gr:=zav cc hR;have hK:=zaa hk;have hl:=hr.len;have HL:=zaa hl;clear hk hl;go_enter func133,ntmps133;go_wp2_with (first
  | (go_at_call 136;refine(zaP B A n cc d _ hR).mono ?_;rintro e w' ⟨⟨p,rfl⟩,rfl⟩)
  | (go_at_call 108;refine(zaz c _).mono ?_;rintro e w' ⟨rfl,rfl⟩;rw[hK.out])
  | (go_at_call 90;refine(zaA (tn d) n _).mono ?_;rintro e w' ⟨rfl,rfl⟩)
  | (go_at_call 49;refine(zaO _).mono ?_;rintro e w1 ⟨rfl,hb⟩;have Ha:=zad Hg hb;obtain⟨c0,c1,c2,c3,f⟩:=(h0.call hb).all)
  | (go_at_call 67;refine(zaq 12 (tn d) _).mono ?_;rintro e w1 ⟨rfl,hb⟩;have Ha:=zad Hg hb;obtain⟨c0,c1,c2,c3,f⟩:=(h0.call hb).all)
  | (go_at_call 35;refine(zaD 12 (sb d) _).mono ?_;rintro e w1 ⟨rfl,hb⟩;have Ha:=zad Hg hb;obtain⟨c0,c1,c2,c3,f⟩:=(h0.call hb).all))
 exact bodyPost_ret (v:=.agg #[.int .u8 12,.int .u64 (tn d:Nat),.string ⟨#[]⟩,.slice none 0 0]) (by simp[results,results133,go_sem,c0,c1,c2,c3]) rfl ⟨by rw[hv];rfl,zae Ha zab _ _ _ _⟩
theorem zpr {B:Nat}{A:Oz}{n cc c:Nat}{d:Lz}{w:World}(hr:Rd .u8 256 w B A n d)(hB:B≤w.heap.size)(hk:kof c=13) :
  Calls prog 133 #[.int .u8 (c:Int),.slice A n cc] w (zaT (zag c d) w):=by
 have hv:zag c d=.mk 13 (tn d) ⟨#[]⟩ []:=by unfold zag;rw[if_neg (by omega),if_neg (by omega),if_neg (by omega),if_neg (by omega),hk]
 have h0:=Box.new w (.int .u8 0) (.int .u64 0) (.string ⟨#[]⟩) (.slice none 0 0);have Hg:Below w.heap.size w (w.alloc (.cells #[.int .u8 0,.int .u64 0,.string ⟨#[]⟩,.slice none 0 0] 43)):=(za _ _);have hR:=hr.alloc hB (.cells #[.int .u8 0,.int .u64 0,.string ⟨#[]⟩,.slice none 0 0] 43);have gr:=zav cc hR;have hK:=zaa hk;have hl:=hr.len;have HL:=zaa hl;clear hk hl;go_enter func133,ntmps133;go_wp2_with (first
  | (go_at_call 136;refine(zaP B A n cc d _ hR).mono ?_;rintro e w' ⟨⟨p,rfl⟩,rfl⟩)
  | (go_at_call 108;refine(zaz c _).mono ?_;rintro e w' ⟨rfl,rfl⟩;rw[hK.out])
  | (go_at_call 90;refine(zaA (tn d) n _).mono ?_;rintro e w' ⟨rfl,rfl⟩)
  | (go_at_call 49;refine(zaO _).mono ?_;rintro e w1 ⟨rfl,hb⟩;have Ha:=zad Hg hb;obtain⟨c0,c1,c2,c3,f⟩:=(h0.call hb).all)
  | (go_at_call 67;refine(zaq 13 (tn d) _).mono ?_;rintro e w1 ⟨rfl,hb⟩;have Ha:=zad Hg hb;obtain⟨c0,c1,c2,c3,f⟩:=(h0.call hb).all)
  | (go_at_call 35;refine(zaD 13 (sb d) _).mono ?_;rintro e w1 ⟨rfl,hb⟩;have Ha:=zad Hg hb;obtain⟨c0,c1,c2,c3,f⟩:=(h0.call hb).all))
 exact bodyPost_ret (v:=.agg #[.int .u8 13,.int .u64 (tn d:Nat),.string ⟨#[]⟩,.slice none 0 0]) (by simp[results,results133,go_sem,c0,c1,c2,c3]) rfl ⟨by rw[hv];rfl,zae Ha zab _ _ _ _⟩
theorem zps {B:Nat}{A:Oz}{n cc c:Nat}{d:Lz}{w:World}(hr:Rd .u8 256 w B A n d)(hB:B≤w.heap.size)(hk:kof c=22) :
  Calls prog 133 #[.int .u8 (c:Int),.slice A n cc] w (zaT (zag c d) w):=by
 have hv:zag c d=.mk 22 (tn d) ⟨#[]⟩ []:=by unfold zag;rw[if_neg (by omega),if_neg (by omega),if_neg (by omega),if_neg (by omega),hk]
 have h0:=Box.new w (.int .u8 0) (.int .u64 0) (.string ⟨#[]⟩) (.slice none 0 0);have Hg:Below w.heap.size w (w.alloc (.cells #[.int .u8 0,.int .u64 0,.string ⟨#[]⟩,.slice none 0 0] 43)):=(za _ _);have hR:=hr.alloc hB (.cells #[.int .u8 0,.int .u64 0,.string ⟨#[]⟩,.slice none 0 0] 43);have gr:=zav cc hR;have hK:=zaa hk;have hl:=hr.len;have HL:=zaa hl;clear hk hl;go_enter func133,ntmps133;go_wp2_with (first
  | (go_at_call 136;refine(zaP B A n cc d _ hR).mono ?_;rintro e w' ⟨⟨p,rfl⟩,rfl⟩)
  | (go_at_call 108;refine(zaz c _).mono ?_;rintro e w' ⟨rfl,rfl⟩;rw[hK.out])
  | (go_at_call 90;refine(zaA (tn d) n _).mono ?_;rintro e w' ⟨rfl,rfl⟩)
  | (go_at_call 49;refine(zaO _).mono ?_;rintro e w1 ⟨rfl,hb⟩;have Ha:=zad Hg hb;obtain⟨c0,c1,c2,c3,f⟩:=(h0.call hb).all)
  | (go_at_call 67;refine(zaq 22 (tn d) _).mono ?_;rintro e w1 ⟨rfl,hb⟩;have Ha:=zad Hg hb;obtain⟨c0,c1,c2,c3,f⟩:=(h0.call hb).all)
  | (go_at_call 35;refine(zaD 22 (sb d) _).mono ?_;rintro e w1 ⟨rfl,hb⟩;have Ha:=zad Hg hb;obtain⟨c0,c1,c2,c3,f⟩:=(h0.call hb).all))
 exact bodyPost_ret (v:=.agg #[.int .u8 22,.int .u64 (tn d:Nat),.string ⟨#[]⟩,.slice none 0 0]) (by simp[results,results133,go_sem,c0,c1,c2,c3]) rfl ⟨by rw[hv];rfl,zae Ha zab _ _ _ _⟩
theorem zpt {B:Nat}{A:Oz}{n cc c:Nat}{d:Lz}{w:World}(hr:Rd .u8 256 w B A n d)(hB:B≤w.heap.size)(hk:kof c=23) :
  Calls prog 133 #[.int .u8 (c:Int),.slice A n cc] w (zaT (zag c d) w):=by
 have hv:zag c d=.mk 23 (tn d) ⟨#[]⟩ []:=by unfold zag;rw[if_neg (by omega),if_neg (by omega),if_neg (by omega),if_neg (by omega),hk]
 have h0:=Box.new w (.int .u8 0) (.int .u64 0) (.string ⟨#[]⟩) (.slice none 0 0);have Hg:Below w.heap.size w (w.alloc (.cells #[.int .u8 0,.int .u64 0,.string ⟨#[]⟩,.slice none 0 0] 43)):=(za _ _);have hR:=hr.alloc hB (.cells #[.int .u8 0,.int .u64 0,.string ⟨#[]⟩,.slice none 0 0] 43);have gr:=zav cc hR;have hK:=zaa hk;have hl:=hr.len;have HL:=zaa hl;clear hk hl;go_enter func133,ntmps133;go_wp2_with (first
  | (go_at_call 136;refine(zaP B A n cc d _ hR).mono ?_;rintro e w' ⟨⟨p,rfl⟩,rfl⟩)
  | (go_at_call 108;refine(zaz c _).mono ?_;rintro e w' ⟨rfl,rfl⟩;rw[hK.out])
  | (go_at_call 90;refine(zaA (tn d) n _).mono ?_;rintro e w' ⟨rfl,rfl⟩)
  | (go_at_call 49;refine(zaO _).mono ?_;rintro e w1 ⟨rfl,hb⟩;have Ha:=zad Hg hb;obtain⟨c0,c1,c2,c3,f⟩:=(h0.call hb).all)
  | (go_at_call 67;refine(zaq 23 (tn d) _).mono ?_;rintro e w1 ⟨rfl,hb⟩;have Ha:=zad Hg hb;obtain⟨c0,c1,c2,c3,f⟩:=(h0.call hb).all)
  | (go_at_call 35;refine(zaD 23 (sb d) _).mono ?_;rintro e w1 ⟨rfl,hb⟩;have Ha:=zad Hg hb;obtain⟨c0,c1,c2,c3,f⟩:=(h0.call hb).all))
 exact bodyPost_ret (v:=.agg #[.int .u8 23,.int .u64 (tn d:Nat),.string ⟨#[]⟩,.slice none 0 0]) (by simp[results,results133,go_sem,c0,c1,c2,c3]) rfl ⟨by rw[hv];rfl,zae Ha zab _ _ _ _⟩
theorem zpu {B:Nat}{A:Oz}{n cc c:Nat}{d:Lz}{w:World}(hr:Rd .u8 256 w B A n d)(hB:B≤w.heap.size)(hk:kof c=24) :
  Calls prog 133 #[.int .u8 (c:Int),.slice A n cc] w (zaT (zag c d) w):=by
 have hv:zag c d=.mk 24 (tn d) ⟨#[]⟩ []:=by unfold zag;rw[if_neg (by omega),if_neg (by omega),if_neg (by omega),if_neg (by omega),hk]
 have h0:=Box.new w (.int .u8 0) (.int .u64 0) (.string ⟨#[]⟩) (.slice none 0 0);have Hg:Below w.heap.size w (w.alloc (.cells #[.int .u8 0,.int .u64 0,.string ⟨#[]⟩,.slice none 0 0] 43)):=(za _ _);have hR:=hr.alloc hB (.cells #[.int .u8 0,.int .u64 0,.string ⟨#[]⟩,.slice none 0 0] 43);have gr:=zav cc hR;have hK:=zaa hk;have hl:=hr.len;have HL:=zaa hl;clear hk hl;go_enter func133,ntmps133;go_wp2_with (first
  | (go_at_call 136;refine(zaP B A n cc d _ hR).mono ?_;rintro e w' ⟨⟨p,rfl⟩,rfl⟩)
  | (go_at_call 108;refine(zaz c _).mono ?_;rintro e w' ⟨rfl,rfl⟩;rw[hK.out])
  | (go_at_call 90;refine(zaA (tn d) n _).mono ?_;rintro e w' ⟨rfl,rfl⟩)
  | (go_at_call 49;refine(zaO _).mono ?_;rintro e w1 ⟨rfl,hb⟩;have Ha:=zad Hg hb;obtain⟨c0,c1,c2,c3,f⟩:=(h0.call hb).all)
  | (go_at_call 67;refine(zaq 24 (tn d) _).mono ?_;rintro e w1 ⟨rfl,hb⟩;have Ha:=zad Hg hb;obtain⟨c0,c1,c2,c3,f⟩:=(h0.call hb).all)
  | (go_at_call 35;refine(zaD 24 (sb d) _).mono ?_;rintro e w1 ⟨rfl,hb⟩;have Ha:=zad Hg hb;obtain⟨c0,c1,c2,c3,f⟩:=(h0.call hb).all))
 exact bodyPost_ret (v:=.agg #[.int .u8 24,.int .u64 (tn d:Nat),.string ⟨#[]⟩,.slice none 0 0]) (by simp[results,results133,go_sem,c0,c1,c2,c3]) rfl ⟨by rw[hv];rfl,zae Ha zab _ _ _ _⟩
theorem zig {B:Nat}{A:Oz}{n cc c:Nat}{d:Lz}{w:World}(hr:Rd .u8 256 w B A n d)(hB:B≤w.heap.size) :
  Calls prog 133 #[.int .u8 (c:Int),.slice A n cc] w (zaT (zag c d) w):=by
 have hk:=zgL c;obtain h | h | h | h | h | h | h | h | h | h | h | h | h | h | h | h | h | h | h | h | h | h | h | h | h:kof c=0∨kof c=1∨kof c=2∨kof c=3∨kof c=4∨kof c=5∨kof c=6∨kof c=7∨kof c=8∨kof c=9∨kof c=10∨kof c=11∨kof c=12∨kof c=13∨kof c=14∨kof c=15∨kof c=16∨kof c=17∨kof c=18∨kof c=19∨kof c=20∨kof c=21∨kof c=22∨kof c=23∨kof c=24:=by omega
 ·exact zrQ hr hB h
 ·exact zrM hr hB h
 ·by_cases hc:c=65
  ·exact zpe hr hB h hc
  ·exact zpf hr hB h hc
 ·exact zrR hr hB h
 ·exact zrS hr hB h
 ·exact zrT hr hB h
 ·exact zrU hr hB h
 ·exact zrN hr hB h
 ·exact zrO hr hB h
 ·exact zrP hr hB h
 ·exact zpg hr hB h
 ·exact zpp hr hB h
 ·exact zpq hr hB h
 ·exact zpr hr hB h
 ·exact zph hr hB h
 ·exact zpi hr hB h
 ·exact zpj hr hB h
 ·exact zpk hr hB h
 ·exact zpl hr hB h
 ·exact zpm hr hB h
 ·exact zpn hr hB h
 ·exact zpo hr hB h
 ·exact zps hr hB h
 ·exact zpt hr hB h
 ·exact zpu hr hB h
theorem zbv (c:Nat)(d:Lz):(zag c d).kids=[]:=by
 unfold zag
 (repeat' split)<;>rfl
end Dec
end Go.Proofs.YtbbbanfggcediaaGreatDoor
