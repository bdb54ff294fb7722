/-
  What bytes tell, as plain mathematics: codes, constructors, data, values. No Go in it.
  The reader in memory, and contracts of what it stands on: taking bytes off, numbers. Condition: at most 2^40 bytes.
  Contracts of decode's tables: a code's kind, how many bytes tell its size, how many its data have. For every byte.
  Contracts of octet.Tell, octet.Signed for every width, and of decode's plain: the value without kids that a code's data tell. Condition: at most 2^40 bytes.
  Contract of decode's plain: the value without kids that a code's data tell. For all bytes.
-/
import Derived.Test.YtcilmmdmkpnppaaGreatDoorY01
import Derived.Test.YtcilmmdmkpnppaaGreatDoorY02
import Derived.Outline
import Derived.Laws.BitsAllLaws
namespace Go.Proofs.YtcilmmdmkpnppaaGreatDoor.Dec
open Val V Utf
def kof2 (c:Nat):Nat:=
 if c=80 then 3 else if c=96 then 4 else if c=81 then 7 else if c=97 then 8 else if c=114 then 11 else if c=130 then 12 else if c=115 then 13
 else if c=131 then 14 else if c=152 then 15 else if c=116 then 16 else if c=132 then 17 else if c=148 then 18 else 0
def kof (c:Nat):Nat:=
 if c=64 then 1 else if c=65 then 2 else if c=66 then 2 else if c=86 then 2 else if c=67 then 5 else if c=82 then 5 else if c=112 then 5
 else if c=68 then 6 else if c=83 then 6 else if c=128 then 6 else if c=84 then 9 else if c=113 then 9 else if c=85 then 10 else if c=129 then 10
 else if c=160 then 19 else if c=176 then 19 else if c=161 then 20 else if c=177 then 20 else if c=163 then 21 else if c=179 then 21
 else if c=69 then 22 else if c=192 then 22 else if c=208 then 22 else if c=193 then 23 else if c=209 then 23 else if c=224 then 24 else if c=240 then 24
 else kof2 c
def sw (c:Nat):Nat:=if c / 16=10∨c / 16=12∨c / 16=14 then 1 else if c / 16=11∨c / 16=13∨c / 16=15 then 4 else 0
def lg (c:Nat):Nat:=if c / 16=5 then 1 else if c / 16=6 then 2 else if c / 16=7 then 4 else if c / 16=8 then 8 else if c / 16=9 then 16 else 0
theorem ite_le {p:Prop}[Decidable p]{a b M:Nat}(ha:a≤M)(hb:b≤M):(if p then a else b)≤M:=by split<;>assumption
theorem kof_le (c:Nat):kof c≤24:=by
 unfold kof kof2
 repeat' apply ite_le
 all_goals decide
def nb (l:List Nat):Nat:=l.foldl (fun x o=>x * 256+o) 0
theorem nb_snoc (l:List Nat)(c:Nat):nb (l++[c])=nb l * 256+c:=by simp[nb]
theorem nb_take (l:List Nat)(k c:Nat)(h:l[k]? = some c):nb (l.take (k+1))=nb (l.take k) * 256+c:=by
 rw[List.take_add_one,h];exact nb_snoc _ _
theorem nb_fold (l:List Nat):∀ x:Nat,(∀ y∈l,y < 256)→l.foldl (fun x o=>x * 256+o) x < (x+1) * 256 ^ l.length:=by
 induction l with
 | nil=>intro x _;simp
 | cons c l ih=>
  intro x h;have h1:=ih (x * 256+c) fun y hy=>h y (by simp[hy]);have h2:=h c (by simp);have h3:(x * 256+c+1) * 256 ^ l.length≤((x+1) * 256) * 256 ^ l.length:=Nat.mul_le_mul_right _ (by omega);simp only[List.foldl_cons,List.length_cons,Nat.pow_succ]
  calc _ < _:=h1
   _≤_:=h3
   _=_:=by rw[Nat.mul_assoc,Nat.mul_comm 256]
theorem nb_lt (l:List Nat)(h:∀ x∈l,x < 256):nb l < 256 ^ l.length:=by
 have:=nb_fold l 0 h
 simpa [nb] using this
def tn (l:List Nat):Nat:=if l.length≤8 then nb l else 0
theorem tn_lt (l:List Nat)(h:∀ x∈l,x < 256):tn l < 18446744073709551616:=by
 unfold tn
 split
 ·have h1:=nb_lt l h;have h2:256 ^ l.length≤256 ^ 8:=Nat.pow_le_pow_right (by omega) (by omega);omega
 ·omega
def sgw (X k:Nat):Nat:=if 1≤k∧k≤7 then (if X % 256 ^ k < 256 ^ k / 2 then X % 256 ^ k else X % 256 ^ k+(18446744073709551616 - 256 ^ k)) else X
def plainV (c:Nat)(d:List Nat):V:=
 if kof c=1 then .mk 1 0 ⟨#[]⟩ []
 else if kof c=2 then .mk 2 (if c=65 then 1 else tn d) ⟨#[]⟩ []
 else if kof c=7∨kof c=8∨kof c=9∨kof c=10∨kof c=14 then .mk (kof c) (sgw (tn d) d.length) ⟨#[]⟩ []
 else if 15≤kof c∧kof c≤21 then .mk (kof c) 0 (sb d) []
 else .mk (kof c) (tn d) ⟨#[]⟩ []
def dataD (c:Nat)(l:List Nat):Option (List Nat×List Nat):=
 if sw c=0 then (if lg c≤l.length then some (l.take (lg c),l.drop (lg c)) else none)
 else if sw c≤l.length then
  (if tn (l.take (sw c))≤(l.drop (sw c)).length then some ((l.drop (sw c)).take (tn (l.take (sw c))),(l.drop (sw c)).drop (tn (l.take (sw c)))) else none)
 else none
def nameD:List Nat→Except Bool (V×List Nat)
 | []=>.error true
 | c::l=>if kof c=6∨kof c=21 then (match dataD c l with
  | none=>.error true
  | some (d,r)=>.ok (plainV c d,r)) else .error false
def headN:Nat→List Nat→Except Bool (List V×Nat×List Nat)
 | 0,_=>.error true
 | _,[]=>.error true
 | N+1,c::l=>if c=0 then (match nameD l with
   | .error s=>.error s
   | .ok (v,r)=>match headN N r with
    | .error s=>.error s
    | .ok (ns,c',r')=>.ok (v::ns,c',r'))
  else if kof c=0 then .error false else .ok ([],c,l)
def headD (l:List Nat):Except Bool (List V×Nat×List Nat):=headN (l.length+1) l
def calledV:List V→V→V
 | [],v=>v
 | x::r,v=>.mk 25 0 ⟨#[]⟩ [x,calledV r v]
def loopN (step:Nat→List Nat→Option (V×Nat×List Nat)):Nat→Nat→List Nat→Option (List V×Nat×List Nat)
 | 0,it,l=>some ([],it,l)
 | n+1,it,l=>match step it l with
  | none=>none
  | some (v,it',r)=>match loopN step n it' r with
   | none=>none
   | some (vs,it'',r')=>some (v::vs,it'',r')
def stepV (tl:Nat→List V→Nat→List Nat→Option (V×Nat))(it:Nat)(l:List Nat):Option (V×Nat×List Nat):=
 match headD l with
 | .error _=>none
 | .ok (ns,c,r)=>match dataD c r with
  | none=>none
  | some (d,r')=>match tl it (ns.take 16) c d with
   | none=>none
   | some (v,it')=>some (v,it',r')
def stepA (tl:Nat→List V→Nat→List Nat→Option (V×Nat))(ns:List V)(c:Nat)(it:Nat)(l:List Nat):Option (V×Nat×List Nat):=
 match dataD c l with
 | none=>none
 | some (d,r')=>match tl it ns c d with
  | none=>none
  | some (v,it')=>some (v,it',r')
def kidsD (tl:Nat→List V→Nat→List Nat→Option (V×Nat))(c it:Nat)(d:List Nat):Option (List V×Nat):=
 if d.length < sw c then none
 else if 1024 < tn (d.take (sw c)) then none
 else if kof c=24 then (match headD (d.drop (sw c)) with
  | .error _=>none
  | .ok (ns,c',r)=>match loopN (stepA tl (ns.take 16) c') (tn (d.take (sw c))) it r with
   | some (vs,it',[])=>some (vs,it')
   | _=>none)
 else (match loopN (stepV tl) (tn (d.take (sw c))) it (d.drop (sw c)) with
   | some (vs,it',[])=>some (vs,it')
   | _=>none)
def toldN:Nat→Nat→List V→Nat→List Nat→Option (V×Nat)
 | 0,_,_,_,_=>none
 | F+1,it,ns,c,d=>
  if 1024 < it+1+2 * ns.length then none
  else if kof c < 22 then some (calledV ns (plainV c d),it+1+2 * ns.length)
  else match kidsD (toldN F) c (it+1+2 * ns.length) d with
   | none=>none
   | some (vs,it')=>some (calledV ns (.mk (kof c) 0 ⟨#[]⟩ vs),it')
theorem headN_lt:∀ (N:Nat) (l:List Nat) (ns:List V) (c:Nat) (r:List Nat),headN N l=.ok (ns,c,r)→r.length < l.length∧c≠0∧kof c≠0
 | 0,_,_,_,_,h=>by simp[headN] at h
 | _+1,[],_,_,_,h=>by simp[headN] at h
 | N+1,c::l,ns,c',r,h=>by
  rw[headN] at h;by_cases hc:c=0
  ·rw[if_pos hc] at h;cases hn:nameD l with
   | error s=>rw[hn] at h;cases h
   | ok p=>
    obtain⟨v,r1⟩:=p;rw[hn] at h;have hl:r1.length≤l.length:=by
     cases l with
     | nil=>simp[nameD] at hn
     | cons c1 l1=>
      simp only[nameD] at hn
      split at hn
      ·cases hd:dataD c1 l1 with
       | none=>rw[hd] at hn;cases hn
       | some q=>
        rw[hd] at hn;obtain⟨d,q⟩:=q;simp only[Except.ok.injEq,Prod.mk.injEq] at hn;obtain⟨_,rfl⟩:=hn;unfold dataD at hd
        (repeat' split at hd)<;>first | (cases hd;done) | (injection hd with hd;injection hd with _ hd;subst hd;simp only[List.length_drop,List.length_cons];omega)
      ·cases hn
    simp only at h;cases h2:headN N r1 with
    | error s=>rw[h2] at h;cases h
    | ok p=>
     obtain⟨ns2,c2,r2⟩:=p;rw[h2] at h;simp only[Except.ok.injEq,Prod.mk.injEq] at h;obtain⟨_,rfl,rfl⟩:=h;have:=headN_lt N r1 _ _ _ h2;simp only[List.length_cons];exact⟨by omega,this.2⟩
  ·rw[if_neg hc] at h
   split at h
   ·cases h
   ·simp only[Except.ok.injEq,Prod.mk.injEq] at h;obtain⟨_,rfl,rfl⟩:=h;exact⟨by simp,hc,by assumption⟩
end Go.Proofs.YtcilmmdmkpnppaaGreatDoor.Dec
namespace Go.Proofs.YtcilmmdmkpnppaaGreatDoor.Dec
set_option maxRecDepth 100000
open Go.RowKit Utf Val V
structure Up (a b:Nat) (w w':World):Prop where
 os:w'.os=w.os
 tape:w'.tape=w.tape
 output:w'.output=w.output
 size:w.heap.size≤w'.heap.size
 block:∀ i,i < w.heap.size→i≠a→i≠b→w'.heap[i]? = w.heap[i]?
section
variable {a b B:Nat} {w w1 w':World}
theorem Up.refl (a b:Nat)(w:World):Up a b w w:=⟨rfl,rfl,rfl,Nat.le_refl _,fun _ _ _ _=>rfl⟩
theorem Up.trans (h:Up a b w w1)(h':Up a b w1 w'):Up a b w w':=
 ⟨h'.os.trans h.os,h'.tape.trans h.tape,h'.output.trans h.output,Nat.le_trans h.size h'.size,fun i hi ha hb=>(h'.block i (Nat.lt_of_lt_of_le hi h.size) ha hb).trans (h.block i hi ha hb)⟩
theorem Up.of (h:Below w.heap.size w w'):Up a b w w':=⟨h.os,h.tape,h.output,h.size,fun i hi _ _=>h.block i hi⟩
theorem Up.call (h:Up a b w w1)(h':Below w1.heap.size w1 w'):Up a b w w':=h.trans (Up.of h')
theorem Up.setA (h:Up a b w w1)(j:Nat)(u:Value):Up a b w (w1.setCell ⟨a,j,none⟩ u):=
 h.trans ⟨rfl,rfl,rfl,by simp,fun i _ ha _=>Below.heap_setCell _ _ _ _ ha⟩
theorem Up.below (h:Up a b w w')(ha:B≤a)(hb:B≤b)(hB:B≤w.heap.size):Below B w w':=
 ⟨h.os,h.tape,h.output,h.size,fun i hi=>h.block i (Nat.lt_of_lt_of_le hi hB) (fun e=>by omega) (fun e=>by omega)⟩
theorem Up.inner (h0:Up b b w w1)(h:Up a b w1 w')(ha:w.heap.size≤a):Up b b w w':=
 ⟨h.os.trans h0.os,h.tape.trans h0.tape,h.output.trans h0.output,Nat.le_trans h0.size h.size,fun i hi hb _=>(h.block i (Nat.lt_of_lt_of_le hi h0.size) (fun e=>by omega) hb).trans (h0.block i hi hb hb)⟩
theorem Up.wide (h:Up b b w w'):Up a b w w':=⟨h.os,h.tape,h.output,h.size,fun i hi _ hb=>h.block i hi hb hb⟩
theorem Up.cell (h:Up a b w w'){g:Nat}(hg:g < w.heap.size)(ha:g≠a)(hb:g≠b)(j:Nat):w'.cell? ⟨g,j,none⟩=w.cell? ⟨g,j,none⟩:=World.cell?_of_block (w:=w) (h.block g hg ha hb)
end
structure Rdr (w:World) (rb ib B:Nat) (A:Option Addr) (n c:Nat) (L:List Nat) (sh it:Nat):Prop where
 left:w.cell? ⟨rb,0,none⟩=some (.slice A n c)
 short:w.cell? ⟨rb,1,none⟩=some (.int .i64 (sh:Int))
 ptr:w.cell? ⟨rb,2,none⟩=some (.pointer (some ⟨ib,0,none⟩))
 item:w.cell? ⟨ib,0,none⟩=some (.int .i64 (it:Int))
 fr:∀ j,w.frozen? ⟨rb,j,none⟩=false
 fi:∀ j,w.frozen? ⟨ib,j,none⟩=false
 rd:Rd .u8 256 w B A n L
 cap:n≤c
 lim:n≤1099511627776
 hr:B≤rb
 hi:B≤ib
 ne:rb≠ib
 lr:rb < w.heap.size
 li:ib < w.heap.size
section
variable {w w':World} {rb ib B n c sh it:Nat} {A:Option Addr} {L:List Nat}
theorem Rdr.low (h:Rdr w rb ib B A n c L sh it):B≤w.heap.size:=Nat.le_of_lt (Nat.lt_of_le_of_lt h.hr h.lr)
theorem Rdr.call (h:Rdr w rb ib B A n c L sh it)(hb:Below w.heap.size w w'):Rdr w' rb ib B A n c L sh it:=
 ⟨(hb.cell (p:=⟨rb,0,none⟩) h.lr).trans h.left,(hb.cell (p:=⟨rb,1,none⟩) h.lr).trans h.short,(hb.cell (p:=⟨rb,2,none⟩) h.lr).trans h.ptr,(hb.cell (p:=⟨ib,0,none⟩) h.li).trans h.item,
  fun j=>(hb.frozen (p:=⟨rb,j,none⟩) h.lr).trans (h.fr j),fun j=>(hb.frozen (p:=⟨ib,j,none⟩) h.li).trans (h.fi j),h.rd.below (hb.mono h.low),h.cap,h.lim,h.hr,h.hi,h.ne,Nat.lt_of_lt_of_le h.lr hb.size,Nat.lt_of_lt_of_le h.li hb.size⟩
theorem Rdr.setLeft (h:Rdr w rb ib B A n c L sh it){A':Option Addr}{n' c':Nat}{L':List Nat}(hr:Rd .u8 256 w B A' n' L')(hc:n'≤c')(hn:n'≤1099511627776) :
  Rdr (w.setCell ⟨rb,0,none⟩ (.slice A' n' c')) rb ib B A' n' c' L' sh it:=
 ⟨World.cell?_setCell_same' w _ _ (by rw[h.left];rfl),by rw[World.cell?_setCell_other _ _ _ _ (by simp)];exact h.short,by rw[World.cell?_setCell_other _ _ _ _ (by simp)];exact h.ptr,
  by rw[World.cell?_setCell_other _ _ _ _ (by simp[h.ne])];exact h.item,fun j=>(World.frozen?_setCell _ _ _ _).trans (h.fr j),fun j=>(World.frozen?_setCell _ _ _ _).trans (h.fi j),
  hr.keep fun p hp=>by rw[World.cell?_setCell_other _ _ _ _ (fun e=>by rw[←e] at hp;have:=h.hr;simp at hp;omega)],hc,hn,h.hr,h.hi,h.ne,by simpa using h.lr,by simpa using h.li⟩
theorem Rdr.setItem (h:Rdr w rb ib B A n c L sh it)(it':Nat):Rdr (w.setCell ⟨ib,0,none⟩ (.int .i64 it')) rb ib B A n c L sh it':=
 ⟨by rw[World.cell?_setCell_other _ _ _ _ (by simp[Ne.symm h.ne])];exact h.left,by rw[World.cell?_setCell_other _ _ _ _ (by simp)];exact h.short,by rw[World.cell?_setCell_other _ _ _ _ (by simp)];exact h.ptr,
  World.cell?_setCell_same' w _ _ (by rw[h.item];rfl),fun j=>(World.frozen?_setCell _ _ _ _).trans (h.fr j),fun j=>(World.frozen?_setCell _ _ _ _).trans (h.fi j),
  h.rd.keep fun p hp=>by rw[World.cell?_setCell_other _ _ _ _ (fun e=>by rw[←e] at hp;have:=h.hi;simp at hp;omega)],h.cap,h.lim,h.hr,h.hi,h.ne,by simpa using h.lr,by simpa using h.li⟩
end
def Fails (x rb ib:Nat)(w:World)(e:Ending)(w':World):Prop:=e=.panicked [{ v:=.iface 29 (.int .i64 (x:Int)),recovered:=false }]∧Up rb ib w w'
def Took (rb ib B sh it:Nat)(l L':List Nat)(w:World)(e:Ending)(w':World):Prop:=
 ∃ A1 m c1 A2 n2 c2,e=.returned (.slice A1 m c1)∧m≤c1∧Rd .u8 256 w' B A1 m l∧Rdr w' rb ib B A2 n2 c2 L' sh it∧Up rb ib w w'
theorem cutu_to (A:Option Addr)(n c k:Nat)(hk:k≤n)(hnc:n≤c) :
  ∀ (W:World),(Instr.slice 23 (.slice A n c) none (some (.int .u64 (k:Int))) none).run Tryz.prog W=.ok (.slice A k c) W:=by
 intro W;rw[run_slice_h (P:=Tryz.prog) (w:=W) 23 A n c under22 .u64 (k:Int) (by omega) (by omega),elem22,size5];simp only[Result.andThen,sliced];cases A<;>simp[Addr.add]
theorem cutu_from (A:Option Addr)(n c k:Nat)(hk:k≤n)(hnc:n≤c):∃ A1 c1,n - k≤c1∧c1≤c ∧
  (∀ (W:World),(Instr.slice 23 (.slice A n c) (some (.int .u64 (k:Int))) none none).run Tryz.prog W=.ok (.slice A1 (n - k) c1) W) ∧
  ∀ w B l,Rd .u8 256 w B A n l→Rd .u8 256 w B A1 (n - k) (l.drop k):=by
 refine⟨if c=k then A else A.map (·.add k),c - k,by omega,by omega,fun W=>?_,fun w B l hr=>hr.drop hk hnc⟩;rw[run_slice_l (P:=Tryz.prog) (w:=W) 23 A n c under22 .u64 (k:Int) (by omega) (by omega),elem22,size5];simp only[Result.andThen,sliced,Int.toNat_natCast,Nat.mul_one]
section
variable {w:World} {rb ib B n c sh it:Nat} {A:Option Addr} {L:List Nat}
theorem take_ok (h:Rdr w rb ib B A n c L sh it)(m:Nat)(hm:m≤L.length) :
  Calls Tryz.prog 148 #[.pointer (some ⟨rb,0,none⟩),.int .u64 (m:Int)] w (Took rb ib B sh it (L.take m) (L.drop m) w):=by
 have hn:=h.rd.len;have hl:=h.lim;have hcap:=h.cap;have x0:=h.left;have f0:=h.fr 0;have hs1:=cutu_to A n c m (by omega) h.cap;obtain⟨A1,c1,hc1,hc2,hf1,hf3⟩:=cutu_from A n c m (by omega) h.cap;have hw:IntKind.u64.wrap (n:Int)=(n:Int):=by rw[IntKind.wrap_u64];omega
 have d:decide ((n:Int) < (m:Int))=false:=by simp;omega
 have hR:=(h.rd.take (k:=m) (by omega));have hD:=hf3 _ _ _ h.rd;have hmn:m≤n:=by omega
 have HN:=Lib.hid hn;clear hn hf3;go_enter Tryz.func148,Tryz.ntmps148;go_wp2;go_ret;exact⟨A,m,c,A1,n - m,c1,rfl,by omega,(h.setLeft hD hc1 (by omega)).rd.below (Below.refl _ _) |> fun _=>(hR.keep fun p hp=>by rw[World.cell?_setCell_other _ _ _ _ (fun e=>by rw[←e] at hp;have:=h.hr;simp at hp;omega)]),h.setLeft hD hc1 (by omega),(Up.refl _ _ _).setA 0 _⟩
theorem take_no (h:Rdr w rb ib B A n c L sh it)(m:Nat)(hm:L.length < m) :
  Calls Tryz.prog 148 #[.pointer (some ⟨rb,0,none⟩),.int .u64 (m:Int)] w (Fails sh rb ib w):=by
 have hn:=h.rd.len;have hl:=h.lim;have x0:=h.left;have x1:=h.short;have hw:IntKind.u64.wrap (n:Int)=(n:Int):=by rw[IntKind.wrap_u64];omega
 have d:(n:Int) < (m:Int):=by omega
 clear hn;go_enter Tryz.func148,Tryz.ntmps148;go_wp2;exact⟨rfl,rfl,Up.refl _ _ _⟩
end
end Go.Proofs.YtcilmmdmkpnppaaGreatDoor.Dec
namespace Go.Proofs.YtcilmmdmkpnppaaGreatDoor.Dec
set_option maxRecDepth 100000
open Go.RowKit Utf Val V
set_option maxHeartbeats 4000000 in
theorem only_any (c:Nat)(w:World):Calls Tryz.prog 176 #[.int .u8 (c:Int)] w fun e w'=>e=.returned (.int .u8 (kof2 c:Nat))∧w'=w:=by
 by_cases h80:c=80
 ·subst h80;go_enter Tryz.func176,Tryz.ntmps176;go_wp2;go_ret;exact⟨rfl,rfl⟩
 by_cases h96:c=96
 ·subst h96;go_enter Tryz.func176,Tryz.ntmps176;go_wp2;go_ret;exact⟨rfl,rfl⟩
 by_cases h81:c=81
 ·subst h81;go_enter Tryz.func176,Tryz.ntmps176;go_wp2;go_ret;exact⟨rfl,rfl⟩
 by_cases h97:c=97
 ·subst h97;go_enter Tryz.func176,Tryz.ntmps176;go_wp2;go_ret;exact⟨rfl,rfl⟩
 by_cases h114:c=114
 ·subst h114;go_enter Tryz.func176,Tryz.ntmps176;go_wp2;go_ret;exact⟨rfl,rfl⟩
 by_cases h130:c=130
 ·subst h130;go_enter Tryz.func176,Tryz.ntmps176;go_wp2;go_ret;exact⟨rfl,rfl⟩
 by_cases h115:c=115
 ·subst h115;go_enter Tryz.func176,Tryz.ntmps176;go_wp2;go_ret;exact⟨rfl,rfl⟩
 by_cases h131:c=131
 ·subst h131;go_enter Tryz.func176,Tryz.ntmps176;go_wp2;go_ret;exact⟨rfl,rfl⟩
 by_cases h152:c=152
 ·subst h152;go_enter Tryz.func176,Tryz.ntmps176;go_wp2;go_ret;exact⟨rfl,rfl⟩
 by_cases h116:c=116
 ·subst h116;go_enter Tryz.func176,Tryz.ntmps176;go_wp2;go_ret;exact⟨rfl,rfl⟩
 by_cases h132:c=132
 ·subst h132;go_enter Tryz.func176,Tryz.ntmps176;go_wp2;go_ret;exact⟨rfl,rfl⟩
 by_cases h148:c=148
 ·subst h148;go_enter Tryz.func176,Tryz.ntmps176;go_wp2;go_ret;exact⟨rfl,rfl⟩
 have hk:kof2 c=0:=by
  unfold kof2;rw[if_neg h80,if_neg h96,if_neg h81,if_neg h97,if_neg h114,if_neg h130,if_neg h115,if_neg h131,if_neg h152,if_neg h116,if_neg h132,if_neg h148]
 rw[hk];have d80:((c:Int)==80)=false:=by simp;omega
 have d96:((c:Int)==96)=false:=by simp;omega
 have d81:((c:Int)==81)=false:=by simp;omega
 have d97:((c:Int)==97)=false:=by simp;omega
 have d114:((c:Int)==114)=false:=by simp;omega
 have d130:((c:Int)==130)=false:=by simp;omega
 have d115:((c:Int)==115)=false:=by simp;omega
 have d131:((c:Int)==131)=false:=by simp;omega
 have d152:((c:Int)==152)=false:=by simp;omega
 have d116:((c:Int)==116)=false:=by simp;omega
 have d132:((c:Int)==132)=false:=by simp;omega
 have d148:((c:Int)==148)=false:=by simp;omega
 clear hk h80 h96 h81 h97 h114 h130 h115 h131 h152 h116 h132 h148;go_enter Tryz.func176,Tryz.ntmps176;go_wp2;go_ret;exact⟨rfl,rfl⟩
set_option maxHeartbeats 4000000 in
theorem kind_any (c:Nat)(w:World):Calls Tryz.prog 150 #[.int .u8 (c:Int)] w fun e w'=>e=.returned (.int .u8 (kof c:Nat))∧w'=w:=by
 by_cases h64:c=64
 ·subst h64;go_enter Tryz.func150,Tryz.ntmps150;go_wp2;go_ret;exact⟨rfl,rfl⟩
 by_cases h65:c=65
 ·subst h65;go_enter Tryz.func150,Tryz.ntmps150;go_wp2;go_ret;exact⟨rfl,rfl⟩
 by_cases h66:c=66
 ·subst h66;go_enter Tryz.func150,Tryz.ntmps150;go_wp2;go_ret;exact⟨rfl,rfl⟩
 by_cases h86:c=86
 ·subst h86;go_enter Tryz.func150,Tryz.ntmps150;go_wp2;go_ret;exact⟨rfl,rfl⟩
 by_cases h67:c=67
 ·subst h67;go_enter Tryz.func150,Tryz.ntmps150;go_wp2;go_ret;exact⟨rfl,rfl⟩
 by_cases h82:c=82
 ·subst h82;go_enter Tryz.func150,Tryz.ntmps150;go_wp2;go_ret;exact⟨rfl,rfl⟩
 by_cases h112:c=112
 ·subst h112;go_enter Tryz.func150,Tryz.ntmps150;go_wp2;go_ret;exact⟨rfl,rfl⟩
 by_cases h68:c=68
 ·subst h68;go_enter Tryz.func150,Tryz.ntmps150;go_wp2;go_ret;exact⟨rfl,rfl⟩
 by_cases h83:c=83
 ·subst h83;go_enter Tryz.func150,Tryz.ntmps150;go_wp2;go_ret;exact⟨rfl,rfl⟩
 by_cases h128:c=128
 ·subst h128;go_enter Tryz.func150,Tryz.ntmps150;go_wp2;go_ret;exact⟨rfl,rfl⟩
 by_cases h84:c=84
 ·subst h84;go_enter Tryz.func150,Tryz.ntmps150;go_wp2;go_ret;exact⟨rfl,rfl⟩
 by_cases h113:c=113
 ·subst h113;go_enter Tryz.func150,Tryz.ntmps150;go_wp2;go_ret;exact⟨rfl,rfl⟩
 by_cases h85:c=85
 ·subst h85;go_enter Tryz.func150,Tryz.ntmps150;go_wp2;go_ret;exact⟨rfl,rfl⟩
 by_cases h129:c=129
 ·subst h129;go_enter Tryz.func150,Tryz.ntmps150;go_wp2;go_ret;exact⟨rfl,rfl⟩
 by_cases h160:c=160
 ·subst h160;go_enter Tryz.func150,Tryz.ntmps150;go_wp2;go_ret;exact⟨rfl,rfl⟩
 by_cases h176:c=176
 ·subst h176;go_enter Tryz.func150,Tryz.ntmps150;go_wp2;go_ret;exact⟨rfl,rfl⟩
 by_cases h161:c=161
 ·subst h161;go_enter Tryz.func150,Tryz.ntmps150;go_wp2;go_ret;exact⟨rfl,rfl⟩
 by_cases h177:c=177
 ·subst h177;go_enter Tryz.func150,Tryz.ntmps150;go_wp2;go_ret;exact⟨rfl,rfl⟩
 by_cases h163:c=163
 ·subst h163;go_enter Tryz.func150,Tryz.ntmps150;go_wp2;go_ret;exact⟨rfl,rfl⟩
 by_cases h179:c=179
 ·subst h179;go_enter Tryz.func150,Tryz.ntmps150;go_wp2;go_ret;exact⟨rfl,rfl⟩
 by_cases h69:c=69
 ·subst h69;go_enter Tryz.func150,Tryz.ntmps150;go_wp2;go_ret;exact⟨rfl,rfl⟩
 by_cases h192:c=192
 ·subst h192;go_enter Tryz.func150,Tryz.ntmps150;go_wp2;go_ret;exact⟨rfl,rfl⟩
 by_cases h208:c=208
 ·subst h208;go_enter Tryz.func150,Tryz.ntmps150;go_wp2;go_ret;exact⟨rfl,rfl⟩
 by_cases h193:c=193
 ·subst h193;go_enter Tryz.func150,Tryz.ntmps150;go_wp2;go_ret;exact⟨rfl,rfl⟩
 by_cases h209:c=209
 ·subst h209;go_enter Tryz.func150,Tryz.ntmps150;go_wp2;go_ret;exact⟨rfl,rfl⟩
 by_cases h224:c=224
 ·subst h224;go_enter Tryz.func150,Tryz.ntmps150;go_wp2;go_ret;exact⟨rfl,rfl⟩
 by_cases h240:c=240
 ·subst h240;go_enter Tryz.func150,Tryz.ntmps150;go_wp2;go_ret;exact⟨rfl,rfl⟩
 have hk:kof c=kof2 c:=by
  unfold kof;rw[if_neg h64,if_neg h65,if_neg h66,if_neg h86,if_neg h67,if_neg h82,if_neg h112,if_neg h68,if_neg h83,if_neg h128,if_neg h84,if_neg h113,if_neg h85,if_neg h129,if_neg h160,if_neg h176,if_neg h161,if_neg h177,if_neg h163,if_neg h179,if_neg h69,if_neg h192,if_neg h208,if_neg h193,if_neg h209,if_neg h224,if_neg h240]
 rw[hk];have d64:((c:Int)==64)=false:=by simp;omega
 have d65:((c:Int)==65)=false:=by simp;omega
 have d66:((c:Int)==66)=false:=by simp;omega
 have d86:((c:Int)==86)=false:=by simp;omega
 have d67:((c:Int)==67)=false:=by simp;omega
 have d82:((c:Int)==82)=false:=by simp;omega
 have d112:((c:Int)==112)=false:=by simp;omega
 have d68:((c:Int)==68)=false:=by simp;omega
 have d83:((c:Int)==83)=false:=by simp;omega
 have d128:((c:Int)==128)=false:=by simp;omega
 have d84:((c:Int)==84)=false:=by simp;omega
 have d113:((c:Int)==113)=false:=by simp;omega
 have d85:((c:Int)==85)=false:=by simp;omega
 have d129:((c:Int)==129)=false:=by simp;omega
 have d160:((c:Int)==160)=false:=by simp;omega
 have d176:((c:Int)==176)=false:=by simp;omega
 have d161:((c:Int)==161)=false:=by simp;omega
 have d177:((c:Int)==177)=false:=by simp;omega
 have d163:((c:Int)==163)=false:=by simp;omega
 have d179:((c:Int)==179)=false:=by simp;omega
 have d69:((c:Int)==69)=false:=by simp;omega
 have d192:((c:Int)==192)=false:=by simp;omega
 have d208:((c:Int)==208)=false:=by simp;omega
 have d193:((c:Int)==193)=false:=by simp;omega
 have d209:((c:Int)==209)=false:=by simp;omega
 have d224:((c:Int)==224)=false:=by simp;omega
 have d240:((c:Int)==240)=false:=by simp;omega
 clear hk h64 h65 h66 h86 h67 h82 h112 h68 h83 h128 h84 h113 h85 h129 h160 h176 h161 h177 h163 h179 h69 h192 h208 h193 h209 h224 h240;go_enter Tryz.func150,Tryz.ntmps150;go_wp2_with (go_at_call 176;refine(only_any c w).mono ?_;rintro e w' ⟨rfl,rfl⟩)
 all_goals first | (go_ret;exact⟨rfl,rfl⟩) | skip
set_option maxHeartbeats 4000000 in
theorem size_any (c:Nat)(w:World):Calls Tryz.prog 152 #[.int .u8 (c:Int)] w fun e w'=>e=.returned (.int .u64 (sw c:Nat))∧w'=w:=by
 have hq:(c:Int) / 2 ^ 4=((c / 16:Nat):Int):=by omega
 unfold sw;obtain⟨q,hQ⟩:∃ q,c / 16=q:=⟨_,rfl⟩;rw[hQ] at hq ⊢;clear hQ;by_cases h10:q=10
 ·subst h10;go_enter Tryz.func152,Tryz.ntmps152;go_wp2;go_ret;exact⟨rfl,rfl⟩
 by_cases h12:q=12
 ·subst h12;go_enter Tryz.func152,Tryz.ntmps152;go_wp2;go_ret;exact⟨rfl,rfl⟩
 by_cases h14:q=14
 ·subst h14;go_enter Tryz.func152,Tryz.ntmps152;go_wp2;go_ret;exact⟨rfl,rfl⟩
 by_cases h11:q=11
 ·subst h11;go_enter Tryz.func152,Tryz.ntmps152;go_wp2;go_ret;exact⟨rfl,rfl⟩
 by_cases h13:q=13
 ·subst h13;go_enter Tryz.func152,Tryz.ntmps152;go_wp2;go_ret;exact⟨rfl,rfl⟩
 by_cases h15:q=15
 ·subst h15;go_enter Tryz.func152,Tryz.ntmps152;go_wp2;go_ret;exact⟨rfl,rfl⟩
 have d10:((q:Int)==10)=false:=by simp;omega
 have d12:((q:Int)==12)=false:=by simp;omega
 have d14:((q:Int)==14)=false:=by simp;omega
 have d11:((q:Int)==11)=false:=by simp;omega
 have d13:((q:Int)==13)=false:=by simp;omega
 have d15:((q:Int)==15)=false:=by simp;omega
 rw[if_neg (by omega),if_neg (by omega)];clear h10 h12 h14 h11 h13 h15;go_enter Tryz.func152,Tryz.ntmps152;go_wp2;go_ret;exact⟨rfl,rfl⟩
set_option maxHeartbeats 4000000 in
theorem long_any (c:Nat)(w:World):Calls Tryz.prog 154 #[.int .u8 (c:Int)] w fun e w'=>e=.returned (.int .u64 (lg c:Nat))∧w'=w:=by
 have hq:(c:Int) / 2 ^ 4=((c / 16:Nat):Int):=by omega
 unfold lg;obtain⟨q,hQ⟩:∃ q,c / 16=q:=⟨_,rfl⟩;rw[hQ] at hq ⊢;clear hQ;by_cases h5:q=5
 ·subst h5;go_enter Tryz.func154,Tryz.ntmps154;go_wp2;go_ret;exact⟨rfl,rfl⟩
 by_cases h6:q=6
 ·subst h6;go_enter Tryz.func154,Tryz.ntmps154;go_wp2;go_ret;exact⟨rfl,rfl⟩
 by_cases h7:q=7
 ·subst h7;go_enter Tryz.func154,Tryz.ntmps154;go_wp2;go_ret;exact⟨rfl,rfl⟩
 by_cases h8:q=8
 ·subst h8;go_enter Tryz.func154,Tryz.ntmps154;go_wp2;go_ret;exact⟨rfl,rfl⟩
 by_cases h9:q=9
 ·subst h9;go_enter Tryz.func154,Tryz.ntmps154;go_wp2;go_ret;exact⟨rfl,rfl⟩
 have d5:((q:Int)==5)=false:=by simp;omega
 have d6:((q:Int)==6)=false:=by simp;omega
 have d7:((q:Int)==7)=false:=by simp;omega
 have d8:((q:Int)==8)=false:=by simp;omega
 have d9:((q:Int)==9)=false:=by simp;omega
 rw[if_neg h5,if_neg h6,if_neg h7,if_neg h8,if_neg h9];clear h5 h6 h7 h8 h9;go_enter Tryz.func154,Tryz.ntmps154;go_wp2;go_ret;exact⟨rfl,rfl⟩
end Go.Proofs.YtcilmmdmkpnppaaGreatDoor.Dec
namespace Go.Proofs.YtcilmmdmkpnppaaGreatDoor.Dec
set_option maxRecDepth 100000
open Go.RowKit Utf Val V
theorem pow_small (k:Nat)(h:k < 8):256 ^ k≤72057594037927936:=by
 have:(256:Nat) ^ k≤256 ^ 7:=Nat.pow_le_pow_right (by omega) (by omega);omega
theorem nb_or (t c:Nat)(ht:t < 72057594037927936)(hc:c < 256):bits .or .u64 ((t:Int) * 256) (c:Int)=((t * 256+c:Nat):Int):=by
 have e:(t:Int) * 256=((t * 256:Nat):Int):=by simp
 rw[e,u64_or_nat _ _ (by omega) (by omega),nat_join 8 (t * 256) c (by omega) hc]
theorem tell_any (B:Nat)(A:Option Addr)(n c:Nat)(l:List Nat)(w:World)(hr:Rd .u8 256 w B A n l) :
  Calls Tryz.prog 178 #[.slice A n c] w fun e w'=>(∃ p:Value,e=.returned (.tuple #[.int .u64 (tn l:Nat),p]))∧w'=w:=by
 by_cases h8:8 < n
 ·have e:tn l=0:=by unfold tn;rw[if_neg (by rw[hr.len];omega)]
  rw[e];clear e;go_enter Tryz.func178,Tryz.ntmps178;go_wp2;go_ret2;exact⟨⟨_,rfl⟩,rfl⟩
 ·have e:tn l=nb l:=by unfold tn;rw[if_pos (by rw[hr.len];omega)]
  rw[e];clear e;have d:decide (8 < (n:Int))=false:=by simp;omega
  go_enter Tryz.func178,Tryz.ntmps178;go_wp2;go_loop [4,12] (fun x i=>∃ k:Nat,k≤n∧i=.int .i64 k∧x=.int .u64 (nb (l.take k):Nat)) (fun _ i=>n - (intOf i).toNat)
  case atStart=>exact⟨0,Nat.zero_le _,rfl,rfl⟩
  case round=>
   obtain⟨k,hk,rfl,rfl⟩:=hrel;by_cases hlt:k < n
   ·obtain⟨b,o,c',rfl,hb,hx,hcc,hc⟩:=hr.at_ hlt;have HT:=Lib.hid (nb_take l k c' hx);have ht:nb (l.take k) < 72057594037927936:=by
     have h1:=nb_lt (l.take k) fun x hx=>hr.lim x (List.mem_of_mem_take hx);have h2:=pow_small k (by omega);rw[List.length_take,Nat.min_eq_left (by rw[hr.len];omega)] at h1;omega
    generalize nb (l.take k)=t at *;have HS:=Lib.hid (nb_or t c' ht hcc);clear hx;go_wp2;exact⟨⟨k+1,by omega,by go_num,by rw[HT.out,HS.out]⟩,by simp[intOf];omega⟩
   ·have e:nb (l.take k)=nb l:=by rw[List.take_of_length_le (by rw[hr.len];omega)]
    have E:=Lib.hid e;clear e;go_wp2;go_ret2;exact⟨⟨.bool true,by rw[E.out];rfl⟩,rfl⟩
theorem sgw_lit (X:Nat)(k:Nat)(h1:1≤k)(h2:k≤7):(IntKind.u64.wrap (wrap64 (IntKind.u64.wrap (X * 2 ^ (8 * (8 - k)))) / 2 ^ (8 * (8 - k))))=(sgw X k:Int):=by
 unfold sgw;rw[if_pos ⟨h1,h2⟩];unfold wrap64;simp only[IntKind.wrap,IntKind.bits,IntKind.signed];obtain rfl | rfl | rfl | rfl | rfl | rfl | rfl:k=1∨k=2∨k=3∨k=4∨k=5∨k=6∨k=7:=by omega
 all_goals simp
 all_goals (repeat' split)<;>omega
theorem signed_any (X k:Nat)(w:World) :
  Calls Tryz.prog 86 #[.int .u64 X,.int .i64 k] w fun e w'=>e=.returned (.int .u64 (sgw X k:Nat))∧w'=w:=by
 by_cases h1:k < 1
 ·have e:sgw X k=X:=by unfold sgw;rw[if_neg (by omega)]
  rw[e];clear e;have d:(k:Int) < 1:=by omega
  go_enter Tryz.func86,Tryz.ntmps86;go_wp2;go_ret;exact⟨rfl,rfl⟩
 by_cases h2:8≤k
 ·have e:sgw X k=X:=by unfold sgw;rw[if_neg (by omega)]
  rw[e];clear e;go_enter Tryz.func86,Tryz.ntmps86;go_wp2;go_ret;exact⟨rfl,rfl⟩
 have e:=sgw_lit X k (by omega) (by omega);have E:=Lib.hid e;clear e;go_enter Tryz.func86,Tryz.ntmps86;go_wp2;go_ret;exact⟨congrArg (fun z=>Ending.returned (.int .u64 z)) E.out,rfl⟩
def GivesP (v:V)(w:World)(e:Ending)(w':World):Prop:=e=.returned (.agg #[.int .u8 (v.kind:Int),.int .u64 (v.num:Int),.string v.text,.slice none 0 0])∧Below w.heap.size w w'
end Go.Proofs.YtcilmmdmkpnppaaGreatDoor.Dec
namespace Go.Proofs.YtcilmmdmkpnppaaGreatDoor.Dec
set_option maxRecDepth 100000
open Go.RowKit Utf Val V
set_option maxHeartbeats 1000000 in
theorem plain_1 {B:Nat}{A:Option Addr}{n cc c:Nat}{d:List Nat}{w:World}(hr:Rd .u8 256 w B A n d)(hB:B≤w.heap.size)(hk:kof c=1) :
  Calls Tryz.prog 175 #[.int .u8 (c:Int),.slice A n cc] w (GivesP (plainV c d) w):=by
 have hv:plainV c d=.mk 1 0 ⟨#[]⟩ []:=by unfold plainV;rw[if_pos hk]
 have h0:=Box.new w (.int .u8 0) (.int .u64 0) (.string ⟨#[]⟩) (.slice none 0 0);have hb0:Below w.heap.size w (w.alloc (.cells #[.int .u8 0,.int .u64 0,.string ⟨#[]⟩,.slice none 0 0] 44)):=(Below.refl _ _).alloc (Nat.le_refl _) _;have hR:=hr.alloc hB (.cells #[.int .u8 0,.int .u64 0,.string ⟨#[]⟩,.slice none 0 0] 44);have hst:=run_str cc hR;have hK:=Lib.hid hk;have hl:=hr.len;have HL:=Lib.hid hl;clear hk hl;go_enter Tryz.func175,Tryz.ntmps175;go_wp2_with (first
  | (go_at_call 178;refine(tell_any B A n cc d _ hR).mono ?_;rintro e w' ⟨⟨p,rfl⟩,rfl⟩)
  | (go_at_call 150;refine(kind_any c _).mono ?_;rintro e w' ⟨rfl,rfl⟩;rw[hK.out])
  | (go_at_call 86;refine(signed_any (tn d) n _).mono ?_;rintro e w' ⟨rfl,rfl⟩)
  | (go_at_call 17;refine(null_any _).mono ?_;rintro e w1 ⟨rfl,hb⟩;have hb1:=below_next hb0 hb;obtain⟨c0,c1,c2,c3,f⟩:=(h0.call hb).all)
  | (go_at_call 20;refine(number_any 1 0 _).mono ?_;rintro e w1 ⟨rfl,hb⟩;have hb1:=below_next hb0 hb;obtain⟨c0,c1,c2,c3,f⟩:=(h0.call hb).all)
  | (go_at_call 19;refine(text_any' 1 (sb d) _).mono ?_;rintro e w1 ⟨rfl,hb⟩;have hb1:=below_next hb0 hb;obtain⟨c0,c1,c2,c3,f⟩:=(h0.call hb).all))
 exact bodyPost_ret (v:=.agg #[.int .u8 1,.int .u64 0,.string ⟨#[]⟩,.slice none 0 0]) (by simp[results,Tryz.results175,go_sem,c0,c1,c2,c3]) rfl ⟨by rw[hv];rfl,below_set4 hb1 (Nat.le_refl _) _ _ _ _⟩
set_option maxHeartbeats 1000000 in
theorem plain_2t {B:Nat}{A:Option Addr}{n cc c:Nat}{d:List Nat}{w:World}(hr:Rd .u8 256 w B A n d)(hB:B≤w.heap.size)(hk:kof c=2)(hc:c=65) :
  Calls Tryz.prog 175 #[.int .u8 (c:Int),.slice A n cc] w (GivesP (plainV c d) w):=by
 have hv:plainV c d=.mk 2 1 ⟨#[]⟩ []:=by unfold plainV;rw[if_neg (by omega),if_pos hk,if_pos hc]
 have hd:((c:Int)==65)=true:=by simp;omega
 clear hc;have h0:=Box.new w (.int .u8 0) (.int .u64 0) (.string ⟨#[]⟩) (.slice none 0 0);have hb0:Below w.heap.size w (w.alloc (.cells #[.int .u8 0,.int .u64 0,.string ⟨#[]⟩,.slice none 0 0] 44)):=(Below.refl _ _).alloc (Nat.le_refl _) _;have hR:=hr.alloc hB (.cells #[.int .u8 0,.int .u64 0,.string ⟨#[]⟩,.slice none 0 0] 44);have hst:=run_str cc hR;have hK:=Lib.hid hk;have hl:=hr.len;have HL:=Lib.hid hl;clear hk hl;go_enter Tryz.func175,Tryz.ntmps175;go_wp2_with (first
  | (go_at_call 178;refine(tell_any B A n cc d _ hR).mono ?_;rintro e w' ⟨⟨p,rfl⟩,rfl⟩)
  | (go_at_call 150;refine(kind_any c _).mono ?_;rintro e w' ⟨rfl,rfl⟩;rw[hK.out])
  | (go_at_call 86;refine(signed_any (tn d) n _).mono ?_;rintro e w' ⟨rfl,rfl⟩)
  | (go_at_call 17;refine(null_any _).mono ?_;rintro e w1 ⟨rfl,hb⟩;have hb1:=below_next hb0 hb;obtain⟨c0,c1,c2,c3,f⟩:=(h0.call hb).all)
  | (go_at_call 20;refine(number_any 2 1 _).mono ?_;rintro e w1 ⟨rfl,hb⟩;have hb1:=below_next hb0 hb;obtain⟨c0,c1,c2,c3,f⟩:=(h0.call hb).all)
  | (go_at_call 19;refine(text_any' 2 (sb d) _).mono ?_;rintro e w1 ⟨rfl,hb⟩;have hb1:=below_next hb0 hb;obtain⟨c0,c1,c2,c3,f⟩:=(h0.call hb).all))
 exact bodyPost_ret (v:=.agg #[.int .u8 2,.int .u64 1,.string ⟨#[]⟩,.slice none 0 0]) (by simp[results,Tryz.results175,go_sem,c0,c1,c2,c3]) rfl ⟨by rw[hv];rfl,below_set4 hb1 (Nat.le_refl _) _ _ _ _⟩
set_option maxHeartbeats 1000000 in
theorem plain_2f {B:Nat}{A:Option Addr}{n cc c:Nat}{d:List Nat}{w:World}(hr:Rd .u8 256 w B A n d)(hB:B≤w.heap.size)(hk:kof c=2)(hc:c≠65) :
  Calls Tryz.prog 175 #[.int .u8 (c:Int),.slice A n cc] w (GivesP (plainV c d) w):=by
 have hv:plainV c d=.mk 2 (tn d) ⟨#[]⟩ []:=by unfold plainV;rw[if_neg (by omega),if_pos hk,if_neg hc]
 have hd:((c:Int)==65)=false:=by simp;omega
 clear hc;have h0:=Box.new w (.int .u8 0) (.int .u64 0) (.string ⟨#[]⟩) (.slice none 0 0);have hb0:Below w.heap.size w (w.alloc (.cells #[.int .u8 0,.int .u64 0,.string ⟨#[]⟩,.slice none 0 0] 44)):=(Below.refl _ _).alloc (Nat.le_refl _) _;have hR:=hr.alloc hB (.cells #[.int .u8 0,.int .u64 0,.string ⟨#[]⟩,.slice none 0 0] 44);have hst:=run_str cc hR;have hK:=Lib.hid hk;have hl:=hr.len;have HL:=Lib.hid hl;clear hk hl;go_enter Tryz.func175,Tryz.ntmps175;go_wp2_with (first
  | (go_at_call 178;refine(tell_any B A n cc d _ hR).mono ?_;rintro e w' ⟨⟨p,rfl⟩,rfl⟩)
  | (go_at_call 150;refine(kind_any c _).mono ?_;rintro e w' ⟨rfl,rfl⟩;rw[hK.out])
  | (go_at_call 86;refine(signed_any (tn d) n _).mono ?_;rintro e w' ⟨rfl,rfl⟩)
  | (go_at_call 17;refine(null_any _).mono ?_;rintro e w1 ⟨rfl,hb⟩;have hb1:=below_next hb0 hb;obtain⟨c0,c1,c2,c3,f⟩:=(h0.call hb).all)
  | (go_at_call 20;refine(number_any 2 (tn d) _).mono ?_;rintro e w1 ⟨rfl,hb⟩;have hb1:=below_next hb0 hb;obtain⟨c0,c1,c2,c3,f⟩:=(h0.call hb).all)
  | (go_at_call 19;refine(text_any' 2 (sb d) _).mono ?_;rintro e w1 ⟨rfl,hb⟩;have hb1:=below_next hb0 hb;obtain⟨c0,c1,c2,c3,f⟩:=(h0.call hb).all))
 exact bodyPost_ret (v:=.agg #[.int .u8 2,.int .u64 (tn d:Nat),.string ⟨#[]⟩,.slice none 0 0]) (by simp[results,Tryz.results175,go_sem,c0,c1,c2,c3]) rfl ⟨by rw[hv];rfl,below_set4 hb1 (Nat.le_refl _) _ _ _ _⟩
set_option maxHeartbeats 1000000 in
theorem plain_7 {B:Nat}{A:Option Addr}{n cc c:Nat}{d:List Nat}{w:World}(hr:Rd .u8 256 w B A n d)(hB:B≤w.heap.size)(hk:kof c=7) :
  Calls Tryz.prog 175 #[.int .u8 (c:Int),.slice A n cc] w (GivesP (plainV c d) w):=by
 have hv:plainV c d=.mk 7 (sgw (tn d) n) ⟨#[]⟩ []:=by unfold plainV;rw[if_neg (by omega),if_neg (by omega),if_pos (by omega),hk,hr.len]
 have h0:=Box.new w (.int .u8 0) (.int .u64 0) (.string ⟨#[]⟩) (.slice none 0 0);have hb0:Below w.heap.size w (w.alloc (.cells #[.int .u8 0,.int .u64 0,.string ⟨#[]⟩,.slice none 0 0] 44)):=(Below.refl _ _).alloc (Nat.le_refl _) _;have hR:=hr.alloc hB (.cells #[.int .u8 0,.int .u64 0,.string ⟨#[]⟩,.slice none 0 0] 44);have hst:=run_str cc hR;have hK:=Lib.hid hk;have hl:=hr.len;have HL:=Lib.hid hl;clear hk hl;go_enter Tryz.func175,Tryz.ntmps175;go_wp2_with (first
  | (go_at_call 178;refine(tell_any B A n cc d _ hR).mono ?_;rintro e w' ⟨⟨p,rfl⟩,rfl⟩)
  | (go_at_call 150;refine(kind_any c _).mono ?_;rintro e w' ⟨rfl,rfl⟩;rw[hK.out])
  | (go_at_call 86;refine(signed_any (tn d) n _).mono ?_;rintro e w' ⟨rfl,rfl⟩)
  | (go_at_call 17;refine(null_any _).mono ?_;rintro e w1 ⟨rfl,hb⟩;have hb1:=below_next hb0 hb;obtain⟨c0,c1,c2,c3,f⟩:=(h0.call hb).all)
  | (go_at_call 20;refine(number_any 7 (sgw (tn d) n) _).mono ?_;rintro e w1 ⟨rfl,hb⟩;have hb1:=below_next hb0 hb;obtain⟨c0,c1,c2,c3,f⟩:=(h0.call hb).all)
  | (go_at_call 19;refine(text_any' 7 (sb d) _).mono ?_;rintro e w1 ⟨rfl,hb⟩;have hb1:=below_next hb0 hb;obtain⟨c0,c1,c2,c3,f⟩:=(h0.call hb).all))
 exact bodyPost_ret (v:=.agg #[.int .u8 7,.int .u64 (sgw (tn d) n:Nat),.string ⟨#[]⟩,.slice none 0 0]) (by simp[results,Tryz.results175,go_sem,c0,c1,c2,c3]) rfl ⟨by rw[hv];rfl,below_set4 hb1 (Nat.le_refl _) _ _ _ _⟩
set_option maxHeartbeats 1000000 in
theorem plain_8 {B:Nat}{A:Option Addr}{n cc c:Nat}{d:List Nat}{w:World}(hr:Rd .u8 256 w B A n d)(hB:B≤w.heap.size)(hk:kof c=8) :
  Calls Tryz.prog 175 #[.int .u8 (c:Int),.slice A n cc] w (GivesP (plainV c d) w):=by
 have hv:plainV c d=.mk 8 (sgw (tn d) n) ⟨#[]⟩ []:=by unfold plainV;rw[if_neg (by omega),if_neg (by omega),if_pos (by omega),hk,hr.len]
 have h0:=Box.new w (.int .u8 0) (.int .u64 0) (.string ⟨#[]⟩) (.slice none 0 0);have hb0:Below w.heap.size w (w.alloc (.cells #[.int .u8 0,.int .u64 0,.string ⟨#[]⟩,.slice none 0 0] 44)):=(Below.refl _ _).alloc (Nat.le_refl _) _;have hR:=hr.alloc hB (.cells #[.int .u8 0,.int .u64 0,.string ⟨#[]⟩,.slice none 0 0] 44);have hst:=run_str cc hR;have hK:=Lib.hid hk;have hl:=hr.len;have HL:=Lib.hid hl;clear hk hl;go_enter Tryz.func175,Tryz.ntmps175;go_wp2_with (first
  | (go_at_call 178;refine(tell_any B A n cc d _ hR).mono ?_;rintro e w' ⟨⟨p,rfl⟩,rfl⟩)
  | (go_at_call 150;refine(kind_any c _).mono ?_;rintro e w' ⟨rfl,rfl⟩;rw[hK.out])
  | (go_at_call 86;refine(signed_any (tn d) n _).mono ?_;rintro e w' ⟨rfl,rfl⟩)
  | (go_at_call 17;refine(null_any _).mono ?_;rintro e w1 ⟨rfl,hb⟩;have hb1:=below_next hb0 hb;obtain⟨c0,c1,c2,c3,f⟩:=(h0.call hb).all)
  | (go_at_call 20;refine(number_any 8 (sgw (tn d) n) _).mono ?_;rintro e w1 ⟨rfl,hb⟩;have hb1:=below_next hb0 hb;obtain⟨c0,c1,c2,c3,f⟩:=(h0.call hb).all)
  | (go_at_call 19;refine(text_any' 8 (sb d) _).mono ?_;rintro e w1 ⟨rfl,hb⟩;have hb1:=below_next hb0 hb;obtain⟨c0,c1,c2,c3,f⟩:=(h0.call hb).all))
 exact bodyPost_ret (v:=.agg #[.int .u8 8,.int .u64 (sgw (tn d) n:Nat),.string ⟨#[]⟩,.slice none 0 0]) (by simp[results,Tryz.results175,go_sem,c0,c1,c2,c3]) rfl ⟨by rw[hv];rfl,below_set4 hb1 (Nat.le_refl _) _ _ _ _⟩
set_option maxHeartbeats 1000000 in
theorem plain_9 {B:Nat}{A:Option Addr}{n cc c:Nat}{d:List Nat}{w:World}(hr:Rd .u8 256 w B A n d)(hB:B≤w.heap.size)(hk:kof c=9) :
  Calls Tryz.prog 175 #[.int .u8 (c:Int),.slice A n cc] w (GivesP (plainV c d) w):=by
 have hv:plainV c d=.mk 9 (sgw (tn d) n) ⟨#[]⟩ []:=by unfold plainV;rw[if_neg (by omega),if_neg (by omega),if_pos (by omega),hk,hr.len]
 have h0:=Box.new w (.int .u8 0) (.int .u64 0) (.string ⟨#[]⟩) (.slice none 0 0);have hb0:Below w.heap.size w (w.alloc (.cells #[.int .u8 0,.int .u64 0,.string ⟨#[]⟩,.slice none 0 0] 44)):=(Below.refl _ _).alloc (Nat.le_refl _) _;have hR:=hr.alloc hB (.cells #[.int .u8 0,.int .u64 0,.string ⟨#[]⟩,.slice none 0 0] 44);have hst:=run_str cc hR;have hK:=Lib.hid hk;have hl:=hr.len;have HL:=Lib.hid hl;clear hk hl;go_enter Tryz.func175,Tryz.ntmps175;go_wp2_with (first
  | (go_at_call 178;refine(tell_any B A n cc d _ hR).mono ?_;rintro e w' ⟨⟨p,rfl⟩,rfl⟩)
  | (go_at_call 150;refine(kind_any c _).mono ?_;rintro e w' ⟨rfl,rfl⟩;rw[hK.out])
  | (go_at_call 86;refine(signed_any (tn d) n _).mono ?_;rintro e w' ⟨rfl,rfl⟩)
  | (go_at_call 17;refine(null_any _).mono ?_;rintro e w1 ⟨rfl,hb⟩;have hb1:=below_next hb0 hb;obtain⟨c0,c1,c2,c3,f⟩:=(h0.call hb).all)
  | (go_at_call 20;refine(number_any 9 (sgw (tn d) n) _).mono ?_;rintro e w1 ⟨rfl,hb⟩;have hb1:=below_next hb0 hb;obtain⟨c0,c1,c2,c3,f⟩:=(h0.call hb).all)
  | (go_at_call 19;refine(text_any' 9 (sb d) _).mono ?_;rintro e w1 ⟨rfl,hb⟩;have hb1:=below_next hb0 hb;obtain⟨c0,c1,c2,c3,f⟩:=(h0.call hb).all))
 exact bodyPost_ret (v:=.agg #[.int .u8 9,.int .u64 (sgw (tn d) n:Nat),.string ⟨#[]⟩,.slice none 0 0]) (by simp[results,Tryz.results175,go_sem,c0,c1,c2,c3]) rfl ⟨by rw[hv];rfl,below_set4 hb1 (Nat.le_refl _) _ _ _ _⟩
set_option maxHeartbeats 1000000 in
theorem plain_10 {B:Nat}{A:Option Addr}{n cc c:Nat}{d:List Nat}{w:World}(hr:Rd .u8 256 w B A n d)(hB:B≤w.heap.size)(hk:kof c=10) :
  Calls Tryz.prog 175 #[.int .u8 (c:Int),.slice A n cc] w (GivesP (plainV c d) w):=by
 have hv:plainV c d=.mk 10 (sgw (tn d) n) ⟨#[]⟩ []:=by unfold plainV;rw[if_neg (by omega),if_neg (by omega),if_pos (by omega),hk,hr.len]
 have h0:=Box.new w (.int .u8 0) (.int .u64 0) (.string ⟨#[]⟩) (.slice none 0 0);have hb0:Below w.heap.size w (w.alloc (.cells #[.int .u8 0,.int .u64 0,.string ⟨#[]⟩,.slice none 0 0] 44)):=(Below.refl _ _).alloc (Nat.le_refl _) _;have hR:=hr.alloc hB (.cells #[.int .u8 0,.int .u64 0,.string ⟨#[]⟩,.slice none 0 0] 44);have hst:=run_str cc hR;have hK:=Lib.hid hk;have hl:=hr.len;have HL:=Lib.hid hl;clear hk hl;go_enter Tryz.func175,Tryz.ntmps175;go_wp2_with (first
  | (go_at_call 178;refine(tell_any B A n cc d _ hR).mono ?_;rintro e w' ⟨⟨p,rfl⟩,rfl⟩)
  | (go_at_call 150;refine(kind_any c _).mono ?_;rintro e w' ⟨rfl,rfl⟩;rw[hK.out])
  | (go_at_call 86;refine(signed_any (tn d) n _).mono ?_;rintro e w' ⟨rfl,rfl⟩)
  | (go_at_call 17;refine(null_any _).mono ?_;rintro e w1 ⟨rfl,hb⟩;have hb1:=below_next hb0 hb;obtain⟨c0,c1,c2,c3,f⟩:=(h0.call hb).all)
  | (go_at_call 20;refine(number_any 10 (sgw (tn d) n) _).mono ?_;rintro e w1 ⟨rfl,hb⟩;have hb1:=below_next hb0 hb;obtain⟨c0,c1,c2,c3,f⟩:=(h0.call hb).all)
  | (go_at_call 19;refine(text_any' 10 (sb d) _).mono ?_;rintro e w1 ⟨rfl,hb⟩;have hb1:=below_next hb0 hb;obtain⟨c0,c1,c2,c3,f⟩:=(h0.call hb).all))
 exact bodyPost_ret (v:=.agg #[.int .u8 10,.int .u64 (sgw (tn d) n:Nat),.string ⟨#[]⟩,.slice none 0 0]) (by simp[results,Tryz.results175,go_sem,c0,c1,c2,c3]) rfl ⟨by rw[hv];rfl,below_set4 hb1 (Nat.le_refl _) _ _ _ _⟩
set_option maxHeartbeats 1000000 in
theorem plain_14 {B:Nat}{A:Option Addr}{n cc c:Nat}{d:List Nat}{w:World}(hr:Rd .u8 256 w B A n d)(hB:B≤w.heap.size)(hk:kof c=14) :
  Calls Tryz.prog 175 #[.int .u8 (c:Int),.slice A n cc] w (GivesP (plainV c d) w):=by
 have hv:plainV c d=.mk 14 (sgw (tn d) n) ⟨#[]⟩ []:=by unfold plainV;rw[if_neg (by omega),if_neg (by omega),if_pos (by omega),hk,hr.len]
 have h0:=Box.new w (.int .u8 0) (.int .u64 0) (.string ⟨#[]⟩) (.slice none 0 0);have hb0:Below w.heap.size w (w.alloc (.cells #[.int .u8 0,.int .u64 0,.string ⟨#[]⟩,.slice none 0 0] 44)):=(Below.refl _ _).alloc (Nat.le_refl _) _;have hR:=hr.alloc hB (.cells #[.int .u8 0,.int .u64 0,.string ⟨#[]⟩,.slice none 0 0] 44);have hst:=run_str cc hR;have hK:=Lib.hid hk;have hl:=hr.len;have HL:=Lib.hid hl;clear hk hl;go_enter Tryz.func175,Tryz.ntmps175;go_wp2_with (first
  | (go_at_call 178;refine(tell_any B A n cc d _ hR).mono ?_;rintro e w' ⟨⟨p,rfl⟩,rfl⟩)
  | (go_at_call 150;refine(kind_any c _).mono ?_;rintro e w' ⟨rfl,rfl⟩;rw[hK.out])
  | (go_at_call 86;refine(signed_any (tn d) n _).mono ?_;rintro e w' ⟨rfl,rfl⟩)
  | (go_at_call 17;refine(null_any _).mono ?_;rintro e w1 ⟨rfl,hb⟩;have hb1:=below_next hb0 hb;obtain⟨c0,c1,c2,c3,f⟩:=(h0.call hb).all)
  | (go_at_call 20;refine(number_any 14 (sgw (tn d) n) _).mono ?_;rintro e w1 ⟨rfl,hb⟩;have hb1:=below_next hb0 hb;obtain⟨c0,c1,c2,c3,f⟩:=(h0.call hb).all)
  | (go_at_call 19;refine(text_any' 14 (sb d) _).mono ?_;rintro e w1 ⟨rfl,hb⟩;have hb1:=below_next hb0 hb;obtain⟨c0,c1,c2,c3,f⟩:=(h0.call hb).all))
 exact bodyPost_ret (v:=.agg #[.int .u8 14,.int .u64 (sgw (tn d) n:Nat),.string ⟨#[]⟩,.slice none 0 0]) (by simp[results,Tryz.results175,go_sem,c0,c1,c2,c3]) rfl ⟨by rw[hv];rfl,below_set4 hb1 (Nat.le_refl _) _ _ _ _⟩
set_option maxHeartbeats 1000000 in
theorem plain_15 {B:Nat}{A:Option Addr}{n cc c:Nat}{d:List Nat}{w:World}(hr:Rd .u8 256 w B A n d)(hB:B≤w.heap.size)(hk:kof c=15) :
  Calls Tryz.prog 175 #[.int .u8 (c:Int),.slice A n cc] w (GivesP (plainV c d) w):=by
 have hv:plainV c d=.mk 15 0 (sb d) []:=by unfold plainV;rw[if_neg (by omega),if_neg (by omega),if_neg (by omega),if_pos (by omega),hk]
 have h0:=Box.new w (.int .u8 0) (.int .u64 0) (.string ⟨#[]⟩) (.slice none 0 0);have hb0:Below w.heap.size w (w.alloc (.cells #[.int .u8 0,.int .u64 0,.string ⟨#[]⟩,.slice none 0 0] 44)):=(Below.refl _ _).alloc (Nat.le_refl _) _;have hR:=hr.alloc hB (.cells #[.int .u8 0,.int .u64 0,.string ⟨#[]⟩,.slice none 0 0] 44);have hst:=run_str cc hR;have hK:=Lib.hid hk;have hl:=hr.len;have HL:=Lib.hid hl;clear hk hl;go_enter Tryz.func175,Tryz.ntmps175;go_wp2_with (first
  | (go_at_call 178;refine(tell_any B A n cc d _ hR).mono ?_;rintro e w' ⟨⟨p,rfl⟩,rfl⟩)
  | (go_at_call 150;refine(kind_any c _).mono ?_;rintro e w' ⟨rfl,rfl⟩;rw[hK.out])
  | (go_at_call 86;refine(signed_any (tn d) n _).mono ?_;rintro e w' ⟨rfl,rfl⟩)
  | (go_at_call 17;refine(null_any _).mono ?_;rintro e w1 ⟨rfl,hb⟩;have hb1:=below_next hb0 hb;obtain⟨c0,c1,c2,c3,f⟩:=(h0.call hb).all)
  | (go_at_call 20;refine(number_any 15 0 _).mono ?_;rintro e w1 ⟨rfl,hb⟩;have hb1:=below_next hb0 hb;obtain⟨c0,c1,c2,c3,f⟩:=(h0.call hb).all)
  | (go_at_call 19;refine(text_any' 15 (sb d) _).mono ?_;rintro e w1 ⟨rfl,hb⟩;have hb1:=below_next hb0 hb;obtain⟨c0,c1,c2,c3,f⟩:=(h0.call hb).all))
 exact bodyPost_ret (v:=.agg #[.int .u8 15,.int .u64 0,.string (sb d),.slice none 0 0]) (by simp[results,Tryz.results175,go_sem,c0,c1,c2,c3]) rfl ⟨by rw[hv];rfl,below_set4 hb1 (Nat.le_refl _) _ _ _ _⟩
set_option maxHeartbeats 1000000 in
theorem plain_16 {B:Nat}{A:Option Addr}{n cc c:Nat}{d:List Nat}{w:World}(hr:Rd .u8 256 w B A n d)(hB:B≤w.heap.size)(hk:kof c=16) :
  Calls Tryz.prog 175 #[.int .u8 (c:Int),.slice A n cc] w (GivesP (plainV c d) w):=by
 have hv:plainV c d=.mk 16 0 (sb d) []:=by unfold plainV;rw[if_neg (by omega),if_neg (by omega),if_neg (by omega),if_pos (by omega),hk]
 have h0:=Box.new w (.int .u8 0) (.int .u64 0) (.string ⟨#[]⟩) (.slice none 0 0);have hb0:Below w.heap.size w (w.alloc (.cells #[.int .u8 0,.int .u64 0,.string ⟨#[]⟩,.slice none 0 0] 44)):=(Below.refl _ _).alloc (Nat.le_refl _) _;have hR:=hr.alloc hB (.cells #[.int .u8 0,.int .u64 0,.string ⟨#[]⟩,.slice none 0 0] 44);have hst:=run_str cc hR;have hK:=Lib.hid hk;have hl:=hr.len;have HL:=Lib.hid hl;clear hk hl;go_enter Tryz.func175,Tryz.ntmps175;go_wp2_with (first
  | (go_at_call 178;refine(tell_any B A n cc d _ hR).mono ?_;rintro e w' ⟨⟨p,rfl⟩,rfl⟩)
  | (go_at_call 150;refine(kind_any c _).mono ?_;rintro e w' ⟨rfl,rfl⟩;rw[hK.out])
  | (go_at_call 86;refine(signed_any (tn d) n _).mono ?_;rintro e w' ⟨rfl,rfl⟩)
  | (go_at_call 17;refine(null_any _).mono ?_;rintro e w1 ⟨rfl,hb⟩;have hb1:=below_next hb0 hb;obtain⟨c0,c1,c2,c3,f⟩:=(h0.call hb).all)
  | (go_at_call 20;refine(number_any 16 0 _).mono ?_;rintro e w1 ⟨rfl,hb⟩;have hb1:=below_next hb0 hb;obtain⟨c0,c1,c2,c3,f⟩:=(h0.call hb).all)
  | (go_at_call 19;refine(text_any' 16 (sb d) _).mono ?_;rintro e w1 ⟨rfl,hb⟩;have hb1:=below_next hb0 hb;obtain⟨c0,c1,c2,c3,f⟩:=(h0.call hb).all))
 exact bodyPost_ret (v:=.agg #[.int .u8 16,.int .u64 0,.string (sb d),.slice none 0 0]) (by simp[results,Tryz.results175,go_sem,c0,c1,c2,c3]) rfl ⟨by rw[hv];rfl,below_set4 hb1 (Nat.le_refl _) _ _ _ _⟩
set_option maxHeartbeats 1000000 in
theorem plain_17 {B:Nat}{A:Option Addr}{n cc c:Nat}{d:List Nat}{w:World}(hr:Rd .u8 256 w B A n d)(hB:B≤w.heap.size)(hk:kof c=17) :
  Calls Tryz.prog 175 #[.int .u8 (c:Int),.slice A n cc] w (GivesP (plainV c d) w):=by
 have hv:plainV c d=.mk 17 0 (sb d) []:=by unfold plainV;rw[if_neg (by omega),if_neg (by omega),if_neg (by omega),if_pos (by omega),hk]
 have h0:=Box.new w (.int .u8 0) (.int .u64 0) (.string ⟨#[]⟩) (.slice none 0 0);have hb0:Below w.heap.size w (w.alloc (.cells #[.int .u8 0,.int .u64 0,.string ⟨#[]⟩,.slice none 0 0] 44)):=(Below.refl _ _).alloc (Nat.le_refl _) _;have hR:=hr.alloc hB (.cells #[.int .u8 0,.int .u64 0,.string ⟨#[]⟩,.slice none 0 0] 44);have hst:=run_str cc hR;have hK:=Lib.hid hk;have hl:=hr.len;have HL:=Lib.hid hl;clear hk hl;go_enter Tryz.func175,Tryz.ntmps175;go_wp2_with (first
  | (go_at_call 178;refine(tell_any B A n cc d _ hR).mono ?_;rintro e w' ⟨⟨p,rfl⟩,rfl⟩)
  | (go_at_call 150;refine(kind_any c _).mono ?_;rintro e w' ⟨rfl,rfl⟩;rw[hK.out])
  | (go_at_call 86;refine(signed_any (tn d) n _).mono ?_;rintro e w' ⟨rfl,rfl⟩)
  | (go_at_call 17;refine(null_any _).mono ?_;rintro e w1 ⟨rfl,hb⟩;have hb1:=below_next hb0 hb;obtain⟨c0,c1,c2,c3,f⟩:=(h0.call hb).all)
  | (go_at_call 20;refine(number_any 17 0 _).mono ?_;rintro e w1 ⟨rfl,hb⟩;have hb1:=below_next hb0 hb;obtain⟨c0,c1,c2,c3,f⟩:=(h0.call hb).all)
  | (go_at_call 19;refine(text_any' 17 (sb d) _).mono ?_;rintro e w1 ⟨rfl,hb⟩;have hb1:=below_next hb0 hb;obtain⟨c0,c1,c2,c3,f⟩:=(h0.call hb).all))
 exact bodyPost_ret (v:=.agg #[.int .u8 17,.int .u64 0,.string (sb d),.slice none 0 0]) (by simp[results,Tryz.results175,go_sem,c0,c1,c2,c3]) rfl ⟨by rw[hv];rfl,below_set4 hb1 (Nat.le_refl _) _ _ _ _⟩
set_option maxHeartbeats 1000000 in
theorem plain_18 {B:Nat}{A:Option Addr}{n cc c:Nat}{d:List Nat}{w:World}(hr:Rd .u8 256 w B A n d)(hB:B≤w.heap.size)(hk:kof c=18) :
  Calls Tryz.prog 175 #[.int .u8 (c:Int),.slice A n cc] w (GivesP (plainV c d) w):=by
 have hv:plainV c d=.mk 18 0 (sb d) []:=by unfold plainV;rw[if_neg (by omega),if_neg (by omega),if_neg (by omega),if_pos (by omega),hk]
 have h0:=Box.new w (.int .u8 0) (.int .u64 0) (.string ⟨#[]⟩) (.slice none 0 0);have hb0:Below w.heap.size w (w.alloc (.cells #[.int .u8 0,.int .u64 0,.string ⟨#[]⟩,.slice none 0 0] 44)):=(Below.refl _ _).alloc (Nat.le_refl _) _;have hR:=hr.alloc hB (.cells #[.int .u8 0,.int .u64 0,.string ⟨#[]⟩,.slice none 0 0] 44);have hst:=run_str cc hR;have hK:=Lib.hid hk;have hl:=hr.len;have HL:=Lib.hid hl;clear hk hl;go_enter Tryz.func175,Tryz.ntmps175;go_wp2_with (first
  | (go_at_call 178;refine(tell_any B A n cc d _ hR).mono ?_;rintro e w' ⟨⟨p,rfl⟩,rfl⟩)
  | (go_at_call 150;refine(kind_any c _).mono ?_;rintro e w' ⟨rfl,rfl⟩;rw[hK.out])
  | (go_at_call 86;refine(signed_any (tn d) n _).mono ?_;rintro e w' ⟨rfl,rfl⟩)
  | (go_at_call 17;refine(null_any _).mono ?_;rintro e w1 ⟨rfl,hb⟩;have hb1:=below_next hb0 hb;obtain⟨c0,c1,c2,c3,f⟩:=(h0.call hb).all)
  | (go_at_call 20;refine(number_any 18 0 _).mono ?_;rintro e w1 ⟨rfl,hb⟩;have hb1:=below_next hb0 hb;obtain⟨c0,c1,c2,c3,f⟩:=(h0.call hb).all)
  | (go_at_call 19;refine(text_any' 18 (sb d) _).mono ?_;rintro e w1 ⟨rfl,hb⟩;have hb1:=below_next hb0 hb;obtain⟨c0,c1,c2,c3,f⟩:=(h0.call hb).all))
 exact bodyPost_ret (v:=.agg #[.int .u8 18,.int .u64 0,.string (sb d),.slice none 0 0]) (by simp[results,Tryz.results175,go_sem,c0,c1,c2,c3]) rfl ⟨by rw[hv];rfl,below_set4 hb1 (Nat.le_refl _) _ _ _ _⟩
set_option maxHeartbeats 1000000 in
theorem plain_19 {B:Nat}{A:Option Addr}{n cc c:Nat}{d:List Nat}{w:World}(hr:Rd .u8 256 w B A n d)(hB:B≤w.heap.size)(hk:kof c=19) :
  Calls Tryz.prog 175 #[.int .u8 (c:Int),.slice A n cc] w (GivesP (plainV c d) w):=by
 have hv:plainV c d=.mk 19 0 (sb d) []:=by unfold plainV;rw[if_neg (by omega),if_neg (by omega),if_neg (by omega),if_pos (by omega),hk]
 have h0:=Box.new w (.int .u8 0) (.int .u64 0) (.string ⟨#[]⟩) (.slice none 0 0);have hb0:Below w.heap.size w (w.alloc (.cells #[.int .u8 0,.int .u64 0,.string ⟨#[]⟩,.slice none 0 0] 44)):=(Below.refl _ _).alloc (Nat.le_refl _) _;have hR:=hr.alloc hB (.cells #[.int .u8 0,.int .u64 0,.string ⟨#[]⟩,.slice none 0 0] 44);have hst:=run_str cc hR;have hK:=Lib.hid hk;have hl:=hr.len;have HL:=Lib.hid hl;clear hk hl;go_enter Tryz.func175,Tryz.ntmps175;go_wp2_with (first
  | (go_at_call 178;refine(tell_any B A n cc d _ hR).mono ?_;rintro e w' ⟨⟨p,rfl⟩,rfl⟩)
  | (go_at_call 150;refine(kind_any c _).mono ?_;rintro e w' ⟨rfl,rfl⟩;rw[hK.out])
  | (go_at_call 86;refine(signed_any (tn d) n _).mono ?_;rintro e w' ⟨rfl,rfl⟩)
  | (go_at_call 17;refine(null_any _).mono ?_;rintro e w1 ⟨rfl,hb⟩;have hb1:=below_next hb0 hb;obtain⟨c0,c1,c2,c3,f⟩:=(h0.call hb).all)
  | (go_at_call 20;refine(number_any 19 0 _).mono ?_;rintro e w1 ⟨rfl,hb⟩;have hb1:=below_next hb0 hb;obtain⟨c0,c1,c2,c3,f⟩:=(h0.call hb).all)
  | (go_at_call 19;refine(text_any' 19 (sb d) _).mono ?_;rintro e w1 ⟨rfl,hb⟩;have hb1:=below_next hb0 hb;obtain⟨c0,c1,c2,c3,f⟩:=(h0.call hb).all))
 exact bodyPost_ret (v:=.agg #[.int .u8 19,.int .u64 0,.string (sb d),.slice none 0 0]) (by simp[results,Tryz.results175,go_sem,c0,c1,c2,c3]) rfl ⟨by rw[hv];rfl,below_set4 hb1 (Nat.le_refl _) _ _ _ _⟩
set_option maxHeartbeats 1000000 in
theorem plain_20 {B:Nat}{A:Option Addr}{n cc c:Nat}{d:List Nat}{w:World}(hr:Rd .u8 256 w B A n d)(hB:B≤w.heap.size)(hk:kof c=20) :
  Calls Tryz.prog 175 #[.int .u8 (c:Int),.slice A n cc] w (GivesP (plainV c d) w):=by
 have hv:plainV c d=.mk 20 0 (sb d) []:=by unfold plainV;rw[if_neg (by omega),if_neg (by omega),if_neg (by omega),if_pos (by omega),hk]
 have h0:=Box.new w (.int .u8 0) (.int .u64 0) (.string ⟨#[]⟩) (.slice none 0 0);have hb0:Below w.heap.size w (w.alloc (.cells #[.int .u8 0,.int .u64 0,.string ⟨#[]⟩,.slice none 0 0] 44)):=(Below.refl _ _).alloc (Nat.le_refl _) _;have hR:=hr.alloc hB (.cells #[.int .u8 0,.int .u64 0,.string ⟨#[]⟩,.slice none 0 0] 44);have hst:=run_str cc hR;have hK:=Lib.hid hk;have hl:=hr.len;have HL:=Lib.hid hl;clear hk hl;go_enter Tryz.func175,Tryz.ntmps175;go_wp2_with (first
  | (go_at_call 178;refine(tell_any B A n cc d _ hR).mono ?_;rintro e w' ⟨⟨p,rfl⟩,rfl⟩)
  | (go_at_call 150;refine(kind_any c _).mono ?_;rintro e w' ⟨rfl,rfl⟩;rw[hK.out])
  | (go_at_call 86;refine(signed_any (tn d) n _).mono ?_;rintro e w' ⟨rfl,rfl⟩)
  | (go_at_call 17;refine(null_any _).mono ?_;rintro e w1 ⟨rfl,hb⟩;have hb1:=below_next hb0 hb;obtain⟨c0,c1,c2,c3,f⟩:=(h0.call hb).all)
  | (go_at_call 20;refine(number_any 20 0 _).mono ?_;rintro e w1 ⟨rfl,hb⟩;have hb1:=below_next hb0 hb;obtain⟨c0,c1,c2,c3,f⟩:=(h0.call hb).all)
  | (go_at_call 19;refine(text_any' 20 (sb d) _).mono ?_;rintro e w1 ⟨rfl,hb⟩;have hb1:=below_next hb0 hb;obtain⟨c0,c1,c2,c3,f⟩:=(h0.call hb).all))
 exact bodyPost_ret (v:=.agg #[.int .u8 20,.int .u64 0,.string (sb d),.slice none 0 0]) (by simp[results,Tryz.results175,go_sem,c0,c1,c2,c3]) rfl ⟨by rw[hv];rfl,below_set4 hb1 (Nat.le_refl _) _ _ _ _⟩
set_option maxHeartbeats 1000000 in
theorem plain_21 {B:Nat}{A:Option Addr}{n cc c:Nat}{d:List Nat}{w:World}(hr:Rd .u8 256 w B A n d)(hB:B≤w.heap.size)(hk:kof c=21) :
  Calls Tryz.prog 175 #[.int .u8 (c:Int),.slice A n cc] w (GivesP (plainV c d) w):=by
 have hv:plainV c d=.mk 21 0 (sb d) []:=by unfold plainV;rw[if_neg (by omega),if_neg (by omega),if_neg (by omega),if_pos (by omega),hk]
 have h0:=Box.new w (.int .u8 0) (.int .u64 0) (.string ⟨#[]⟩) (.slice none 0 0);have hb0:Below w.heap.size w (w.alloc (.cells #[.int .u8 0,.int .u64 0,.string ⟨#[]⟩,.slice none 0 0] 44)):=(Below.refl _ _).alloc (Nat.le_refl _) _;have hR:=hr.alloc hB (.cells #[.int .u8 0,.int .u64 0,.string ⟨#[]⟩,.slice none 0 0] 44);have hst:=run_str cc hR;have hK:=Lib.hid hk;have hl:=hr.len;have HL:=Lib.hid hl;clear hk hl;go_enter Tryz.func175,Tryz.ntmps175;go_wp2_with (first
  | (go_at_call 178;refine(tell_any B A n cc d _ hR).mono ?_;rintro e w' ⟨⟨p,rfl⟩,rfl⟩)
  | (go_at_call 150;refine(kind_any c _).mono ?_;rintro e w' ⟨rfl,rfl⟩;rw[hK.out])
  | (go_at_call 86;refine(signed_any (tn d) n _).mono ?_;rintro e w' ⟨rfl,rfl⟩)
  | (go_at_call 17;refine(null_any _).mono ?_;rintro e w1 ⟨rfl,hb⟩;have hb1:=below_next hb0 hb;obtain⟨c0,c1,c2,c3,f⟩:=(h0.call hb).all)
  | (go_at_call 20;refine(number_any 21 0 _).mono ?_;rintro e w1 ⟨rfl,hb⟩;have hb1:=below_next hb0 hb;obtain⟨c0,c1,c2,c3,f⟩:=(h0.call hb).all)
  | (go_at_call 19;refine(text_any' 21 (sb d) _).mono ?_;rintro e w1 ⟨rfl,hb⟩;have hb1:=below_next hb0 hb;obtain⟨c0,c1,c2,c3,f⟩:=(h0.call hb).all))
 exact bodyPost_ret (v:=.agg #[.int .u8 21,.int .u64 0,.string (sb d),.slice none 0 0]) (by simp[results,Tryz.results175,go_sem,c0,c1,c2,c3]) rfl ⟨by rw[hv];rfl,below_set4 hb1 (Nat.le_refl _) _ _ _ _⟩
set_option maxHeartbeats 1000000 in
theorem plain_0 {B:Nat}{A:Option Addr}{n cc c:Nat}{d:List Nat}{w:World}(hr:Rd .u8 256 w B A n d)(hB:B≤w.heap.size)(hk:kof c=0) :
  Calls Tryz.prog 175 #[.int .u8 (c:Int),.slice A n cc] w (GivesP (plainV c d) w):=by
 have hv:plainV c d=.mk 0 (tn d) ⟨#[]⟩ []:=by unfold plainV;rw[if_neg (by omega),if_neg (by omega),if_neg (by omega),if_neg (by omega),hk]
 have h0:=Box.new w (.int .u8 0) (.int .u64 0) (.string ⟨#[]⟩) (.slice none 0 0);have hb0:Below w.heap.size w (w.alloc (.cells #[.int .u8 0,.int .u64 0,.string ⟨#[]⟩,.slice none 0 0] 44)):=(Below.refl _ _).alloc (Nat.le_refl _) _;have hR:=hr.alloc hB (.cells #[.int .u8 0,.int .u64 0,.string ⟨#[]⟩,.slice none 0 0] 44);have hst:=run_str cc hR;have hK:=Lib.hid hk;have hl:=hr.len;have HL:=Lib.hid hl;clear hk hl;go_enter Tryz.func175,Tryz.ntmps175;go_wp2_with (first
  | (go_at_call 178;refine(tell_any B A n cc d _ hR).mono ?_;rintro e w' ⟨⟨p,rfl⟩,rfl⟩)
  | (go_at_call 150;refine(kind_any c _).mono ?_;rintro e w' ⟨rfl,rfl⟩;rw[hK.out])
  | (go_at_call 86;refine(signed_any (tn d) n _).mono ?_;rintro e w' ⟨rfl,rfl⟩)
  | (go_at_call 17;refine(null_any _).mono ?_;rintro e w1 ⟨rfl,hb⟩;have hb1:=below_next hb0 hb;obtain⟨c0,c1,c2,c3,f⟩:=(h0.call hb).all)
  | (go_at_call 20;refine(number_any 0 (tn d) _).mono ?_;rintro e w1 ⟨rfl,hb⟩;have hb1:=below_next hb0 hb;obtain⟨c0,c1,c2,c3,f⟩:=(h0.call hb).all)
  | (go_at_call 19;refine(text_any' 0 (sb d) _).mono ?_;rintro e w1 ⟨rfl,hb⟩;have hb1:=below_next hb0 hb;obtain⟨c0,c1,c2,c3,f⟩:=(h0.call hb).all))
 exact bodyPost_ret (v:=.agg #[.int .u8 0,.int .u64 (tn d:Nat),.string ⟨#[]⟩,.slice none 0 0]) (by simp[results,Tryz.results175,go_sem,c0,c1,c2,c3]) rfl ⟨by rw[hv];rfl,below_set4 hb1 (Nat.le_refl _) _ _ _ _⟩
set_option maxHeartbeats 1000000 in
theorem plain_3 {B:Nat}{A:Option Addr}{n cc c:Nat}{d:List Nat}{w:World}(hr:Rd .u8 256 w B A n d)(hB:B≤w.heap.size)(hk:kof c=3) :
  Calls Tryz.prog 175 #[.int .u8 (c:Int),.slice A n cc] w (GivesP (plainV c d) w):=by
 have hv:plainV c d=.mk 3 (tn d) ⟨#[]⟩ []:=by unfold plainV;rw[if_neg (by omega),if_neg (by omega),if_neg (by omega),if_neg (by omega),hk]
 have h0:=Box.new w (.int .u8 0) (.int .u64 0) (.string ⟨#[]⟩) (.slice none 0 0);have hb0:Below w.heap.size w (w.alloc (.cells #[.int .u8 0,.int .u64 0,.string ⟨#[]⟩,.slice none 0 0] 44)):=(Below.refl _ _).alloc (Nat.le_refl _) _;have hR:=hr.alloc hB (.cells #[.int .u8 0,.int .u64 0,.string ⟨#[]⟩,.slice none 0 0] 44);have hst:=run_str cc hR;have hK:=Lib.hid hk;have hl:=hr.len;have HL:=Lib.hid hl;clear hk hl;go_enter Tryz.func175,Tryz.ntmps175;go_wp2_with (first
  | (go_at_call 178;refine(tell_any B A n cc d _ hR).mono ?_;rintro e w' ⟨⟨p,rfl⟩,rfl⟩)
  | (go_at_call 150;refine(kind_any c _).mono ?_;rintro e w' ⟨rfl,rfl⟩;rw[hK.out])
  | (go_at_call 86;refine(signed_any (tn d) n _).mono ?_;rintro e w' ⟨rfl,rfl⟩)
  | (go_at_call 17;refine(null_any _).mono ?_;rintro e w1 ⟨rfl,hb⟩;have hb1:=below_next hb0 hb;obtain⟨c0,c1,c2,c3,f⟩:=(h0.call hb).all)
  | (go_at_call 20;refine(number_any 3 (tn d) _).mono ?_;rintro e w1 ⟨rfl,hb⟩;have hb1:=below_next hb0 hb;obtain⟨c0,c1,c2,c3,f⟩:=(h0.call hb).all)
  | (go_at_call 19;refine(text_any' 3 (sb d) _).mono ?_;rintro e w1 ⟨rfl,hb⟩;have hb1:=below_next hb0 hb;obtain⟨c0,c1,c2,c3,f⟩:=(h0.call hb).all))
 exact bodyPost_ret (v:=.agg #[.int .u8 3,.int .u64 (tn d:Nat),.string ⟨#[]⟩,.slice none 0 0]) (by simp[results,Tryz.results175,go_sem,c0,c1,c2,c3]) rfl ⟨by rw[hv];rfl,below_set4 hb1 (Nat.le_refl _) _ _ _ _⟩
set_option maxHeartbeats 1000000 in
theorem plain_4 {B:Nat}{A:Option Addr}{n cc c:Nat}{d:List Nat}{w:World}(hr:Rd .u8 256 w B A n d)(hB:B≤w.heap.size)(hk:kof c=4) :
  Calls Tryz.prog 175 #[.int .u8 (c:Int),.slice A n cc] w (GivesP (plainV c d) w):=by
 have hv:plainV c d=.mk 4 (tn d) ⟨#[]⟩ []:=by unfold plainV;rw[if_neg (by omega),if_neg (by omega),if_neg (by omega),if_neg (by omega),hk]
 have h0:=Box.new w (.int .u8 0) (.int .u64 0) (.string ⟨#[]⟩) (.slice none 0 0);have hb0:Below w.heap.size w (w.alloc (.cells #[.int .u8 0,.int .u64 0,.string ⟨#[]⟩,.slice none 0 0] 44)):=(Below.refl _ _).alloc (Nat.le_refl _) _;have hR:=hr.alloc hB (.cells #[.int .u8 0,.int .u64 0,.string ⟨#[]⟩,.slice none 0 0] 44);have hst:=run_str cc hR;have hK:=Lib.hid hk;have hl:=hr.len;have HL:=Lib.hid hl;clear hk hl;go_enter Tryz.func175,Tryz.ntmps175;go_wp2_with (first
  | (go_at_call 178;refine(tell_any B A n cc d _ hR).mono ?_;rintro e w' ⟨⟨p,rfl⟩,rfl⟩)
  | (go_at_call 150;refine(kind_any c _).mono ?_;rintro e w' ⟨rfl,rfl⟩;rw[hK.out])
  | (go_at_call 86;refine(signed_any (tn d) n _).mono ?_;rintro e w' ⟨rfl,rfl⟩)
  | (go_at_call 17;refine(null_any _).mono ?_;rintro e w1 ⟨rfl,hb⟩;have hb1:=below_next hb0 hb;obtain⟨c0,c1,c2,c3,f⟩:=(h0.call hb).all)
  | (go_at_call 20;refine(number_any 4 (tn d) _).mono ?_;rintro e w1 ⟨rfl,hb⟩;have hb1:=below_next hb0 hb;obtain⟨c0,c1,c2,c3,f⟩:=(h0.call hb).all)
  | (go_at_call 19;refine(text_any' 4 (sb d) _).mono ?_;rintro e w1 ⟨rfl,hb⟩;have hb1:=below_next hb0 hb;obtain⟨c0,c1,c2,c3,f⟩:=(h0.call hb).all))
 exact bodyPost_ret (v:=.agg #[.int .u8 4,.int .u64 (tn d:Nat),.string ⟨#[]⟩,.slice none 0 0]) (by simp[results,Tryz.results175,go_sem,c0,c1,c2,c3]) rfl ⟨by rw[hv];rfl,below_set4 hb1 (Nat.le_refl _) _ _ _ _⟩
set_option maxHeartbeats 1000000 in
theorem plain_5 {B:Nat}{A:Option Addr}{n cc c:Nat}{d:List Nat}{w:World}(hr:Rd .u8 256 w B A n d)(hB:B≤w.heap.size)(hk:kof c=5) :
  Calls Tryz.prog 175 #[.int .u8 (c:Int),.slice A n cc] w (GivesP (plainV c d) w):=by
 have hv:plainV c d=.mk 5 (tn d) ⟨#[]⟩ []:=by unfold plainV;rw[if_neg (by omega),if_neg (by omega),if_neg (by omega),if_neg (by omega),hk]
 have h0:=Box.new w (.int .u8 0) (.int .u64 0) (.string ⟨#[]⟩) (.slice none 0 0);have hb0:Below w.heap.size w (w.alloc (.cells #[.int .u8 0,.int .u64 0,.string ⟨#[]⟩,.slice none 0 0] 44)):=(Below.refl _ _).alloc (Nat.le_refl _) _;have hR:=hr.alloc hB (.cells #[.int .u8 0,.int .u64 0,.string ⟨#[]⟩,.slice none 0 0] 44);have hst:=run_str cc hR;have hK:=Lib.hid hk;have hl:=hr.len;have HL:=Lib.hid hl;clear hk hl;go_enter Tryz.func175,Tryz.ntmps175;go_wp2_with (first
  | (go_at_call 178;refine(tell_any B A n cc d _ hR).mono ?_;rintro e w' ⟨⟨p,rfl⟩,rfl⟩)
  | (go_at_call 150;refine(kind_any c _).mono ?_;rintro e w' ⟨rfl,rfl⟩;rw[hK.out])
  | (go_at_call 86;refine(signed_any (tn d) n _).mono ?_;rintro e w' ⟨rfl,rfl⟩)
  | (go_at_call 17;refine(null_any _).mono ?_;rintro e w1 ⟨rfl,hb⟩;have hb1:=below_next hb0 hb;obtain⟨c0,c1,c2,c3,f⟩:=(h0.call hb).all)
  | (go_at_call 20;refine(number_any 5 (tn d) _).mono ?_;rintro e w1 ⟨rfl,hb⟩;have hb1:=below_next hb0 hb;obtain⟨c0,c1,c2,c3,f⟩:=(h0.call hb).all)
  | (go_at_call 19;refine(text_any' 5 (sb d) _).mono ?_;rintro e w1 ⟨rfl,hb⟩;have hb1:=below_next hb0 hb;obtain⟨c0,c1,c2,c3,f⟩:=(h0.call hb).all))
 exact bodyPost_ret (v:=.agg #[.int .u8 5,.int .u64 (tn d:Nat),.string ⟨#[]⟩,.slice none 0 0]) (by simp[results,Tryz.results175,go_sem,c0,c1,c2,c3]) rfl ⟨by rw[hv];rfl,below_set4 hb1 (Nat.le_refl _) _ _ _ _⟩
set_option maxHeartbeats 1000000 in
theorem plain_6 {B:Nat}{A:Option Addr}{n cc c:Nat}{d:List Nat}{w:World}(hr:Rd .u8 256 w B A n d)(hB:B≤w.heap.size)(hk:kof c=6) :
  Calls Tryz.prog 175 #[.int .u8 (c:Int),.slice A n cc] w (GivesP (plainV c d) w):=by
 have hv:plainV c d=.mk 6 (tn d) ⟨#[]⟩ []:=by unfold plainV;rw[if_neg (by omega),if_neg (by omega),if_neg (by omega),if_neg (by omega),hk]
 have h0:=Box.new w (.int .u8 0) (.int .u64 0) (.string ⟨#[]⟩) (.slice none 0 0);have hb0:Below w.heap.size w (w.alloc (.cells #[.int .u8 0,.int .u64 0,.string ⟨#[]⟩,.slice none 0 0] 44)):=(Below.refl _ _).alloc (Nat.le_refl _) _;have hR:=hr.alloc hB (.cells #[.int .u8 0,.int .u64 0,.string ⟨#[]⟩,.slice none 0 0] 44);have hst:=run_str cc hR;have hK:=Lib.hid hk;have hl:=hr.len;have HL:=Lib.hid hl;clear hk hl;go_enter Tryz.func175,Tryz.ntmps175;go_wp2_with (first
  | (go_at_call 178;refine(tell_any B A n cc d _ hR).mono ?_;rintro e w' ⟨⟨p,rfl⟩,rfl⟩)
  | (go_at_call 150;refine(kind_any c _).mono ?_;rintro e w' ⟨rfl,rfl⟩;rw[hK.out])
  | (go_at_call 86;refine(signed_any (tn d) n _).mono ?_;rintro e w' ⟨rfl,rfl⟩)
  | (go_at_call 17;refine(null_any _).mono ?_;rintro e w1 ⟨rfl,hb⟩;have hb1:=below_next hb0 hb;obtain⟨c0,c1,c2,c3,f⟩:=(h0.call hb).all)
  | (go_at_call 20;refine(number_any 6 (tn d) _).mono ?_;rintro e w1 ⟨rfl,hb⟩;have hb1:=below_next hb0 hb;obtain⟨c0,c1,c2,c3,f⟩:=(h0.call hb).all)
  | (go_at_call 19;refine(text_any' 6 (sb d) _).mono ?_;rintro e w1 ⟨rfl,hb⟩;have hb1:=below_next hb0 hb;obtain⟨c0,c1,c2,c3,f⟩:=(h0.call hb).all))
 exact bodyPost_ret (v:=.agg #[.int .u8 6,.int .u64 (tn d:Nat),.string ⟨#[]⟩,.slice none 0 0]) (by simp[results,Tryz.results175,go_sem,c0,c1,c2,c3]) rfl ⟨by rw[hv];rfl,below_set4 hb1 (Nat.le_refl _) _ _ _ _⟩
set_option maxHeartbeats 1000000 in
theorem plain_11 {B:Nat}{A:Option Addr}{n cc c:Nat}{d:List Nat}{w:World}(hr:Rd .u8 256 w B A n d)(hB:B≤w.heap.size)(hk:kof c=11) :
  Calls Tryz.prog 175 #[.int .u8 (c:Int),.slice A n cc] w (GivesP (plainV c d) w):=by
 have hv:plainV c d=.mk 11 (tn d) ⟨#[]⟩ []:=by unfold plainV;rw[if_neg (by omega),if_neg (by omega),if_neg (by omega),if_neg (by omega),hk]
 have h0:=Box.new w (.int .u8 0) (.int .u64 0) (.string ⟨#[]⟩) (.slice none 0 0);have hb0:Below w.heap.size w (w.alloc (.cells #[.int .u8 0,.int .u64 0,.string ⟨#[]⟩,.slice none 0 0] 44)):=(Below.refl _ _).alloc (Nat.le_refl _) _;have hR:=hr.alloc hB (.cells #[.int .u8 0,.int .u64 0,.string ⟨#[]⟩,.slice none 0 0] 44);have hst:=run_str cc hR;have hK:=Lib.hid hk;have hl:=hr.len;have HL:=Lib.hid hl;clear hk hl;go_enter Tryz.func175,Tryz.ntmps175;go_wp2_with (first
  | (go_at_call 178;refine(tell_any B A n cc d _ hR).mono ?_;rintro e w' ⟨⟨p,rfl⟩,rfl⟩)
  | (go_at_call 150;refine(kind_any c _).mono ?_;rintro e w' ⟨rfl,rfl⟩;rw[hK.out])
  | (go_at_call 86;refine(signed_any (tn d) n _).mono ?_;rintro e w' ⟨rfl,rfl⟩)
  | (go_at_call 17;refine(null_any _).mono ?_;rintro e w1 ⟨rfl,hb⟩;have hb1:=below_next hb0 hb;obtain⟨c0,c1,c2,c3,f⟩:=(h0.call hb).all)
  | (go_at_call 20;refine(number_any 11 (tn d) _).mono ?_;rintro e w1 ⟨rfl,hb⟩;have hb1:=below_next hb0 hb;obtain⟨c0,c1,c2,c3,f⟩:=(h0.call hb).all)
  | (go_at_call 19;refine(text_any' 11 (sb d) _).mono ?_;rintro e w1 ⟨rfl,hb⟩;have hb1:=below_next hb0 hb;obtain⟨c0,c1,c2,c3,f⟩:=(h0.call hb).all))
 exact bodyPost_ret (v:=.agg #[.int .u8 11,.int .u64 (tn d:Nat),.string ⟨#[]⟩,.slice none 0 0]) (by simp[results,Tryz.results175,go_sem,c0,c1,c2,c3]) rfl ⟨by rw[hv];rfl,below_set4 hb1 (Nat.le_refl _) _ _ _ _⟩
set_option maxHeartbeats 1000000 in
theorem plain_12 {B:Nat}{A:Option Addr}{n cc c:Nat}{d:List Nat}{w:World}(hr:Rd .u8 256 w B A n d)(hB:B≤w.heap.size)(hk:kof c=12) :
  Calls Tryz.prog 175 #[.int .u8 (c:Int),.slice A n cc] w (GivesP (plainV c d) w):=by
 have hv:plainV c d=.mk 12 (tn d) ⟨#[]⟩ []:=by unfold plainV;rw[if_neg (by omega),if_neg (by omega),if_neg (by omega),if_neg (by omega),hk]
 have h0:=Box.new w (.int .u8 0) (.int .u64 0) (.string ⟨#[]⟩) (.slice none 0 0);have hb0:Below w.heap.size w (w.alloc (.cells #[.int .u8 0,.int .u64 0,.string ⟨#[]⟩,.slice none 0 0] 44)):=(Below.refl _ _).alloc (Nat.le_refl _) _;have hR:=hr.alloc hB (.cells #[.int .u8 0,.int .u64 0,.string ⟨#[]⟩,.slice none 0 0] 44);have hst:=run_str cc hR;have hK:=Lib.hid hk;have hl:=hr.len;have HL:=Lib.hid hl;clear hk hl;go_enter Tryz.func175,Tryz.ntmps175;go_wp2_with (first
  | (go_at_call 178;refine(tell_any B A n cc d _ hR).mono ?_;rintro e w' ⟨⟨p,rfl⟩,rfl⟩)
  | (go_at_call 150;refine(kind_any c _).mono ?_;rintro e w' ⟨rfl,rfl⟩;rw[hK.out])
  | (go_at_call 86;refine(signed_any (tn d) n _).mono ?_;rintro e w' ⟨rfl,rfl⟩)
  | (go_at_call 17;refine(null_any _).mono ?_;rintro e w1 ⟨rfl,hb⟩;have hb1:=below_next hb0 hb;obtain⟨c0,c1,c2,c3,f⟩:=(h0.call hb).all)
  | (go_at_call 20;refine(number_any 12 (tn d) _).mono ?_;rintro e w1 ⟨rfl,hb⟩;have hb1:=below_next hb0 hb;obtain⟨c0,c1,c2,c3,f⟩:=(h0.call hb).all)
  | (go_at_call 19;refine(text_any' 12 (sb d) _).mono ?_;rintro e w1 ⟨rfl,hb⟩;have hb1:=below_next hb0 hb;obtain⟨c0,c1,c2,c3,f⟩:=(h0.call hb).all))
 exact bodyPost_ret (v:=.agg #[.int .u8 12,.int .u64 (tn d:Nat),.string ⟨#[]⟩,.slice none 0 0]) (by simp[results,Tryz.results175,go_sem,c0,c1,c2,c3]) rfl ⟨by rw[hv];rfl,below_set4 hb1 (Nat.le_refl _) _ _ _ _⟩
set_option maxHeartbeats 1000000 in
theorem plain_13 {B:Nat}{A:Option Addr}{n cc c:Nat}{d:List Nat}{w:World}(hr:Rd .u8 256 w B A n d)(hB:B≤w.heap.size)(hk:kof c=13) :
  Calls Tryz.prog 175 #[.int .u8 (c:Int),.slice A n cc] w (GivesP (plainV c d) w):=by
 have hv:plainV c d=.mk 13 (tn d) ⟨#[]⟩ []:=by unfold plainV;rw[if_neg (by omega),if_neg (by omega),if_neg (by omega),if_neg (by omega),hk]
 have h0:=Box.new w (.int .u8 0) (.int .u64 0) (.string ⟨#[]⟩) (.slice none 0 0);have hb0:Below w.heap.size w (w.alloc (.cells #[.int .u8 0,.int .u64 0,.string ⟨#[]⟩,.slice none 0 0] 44)):=(Below.refl _ _).alloc (Nat.le_refl _) _;have hR:=hr.alloc hB (.cells #[.int .u8 0,.int .u64 0,.string ⟨#[]⟩,.slice none 0 0] 44);have hst:=run_str cc hR;have hK:=Lib.hid hk;have hl:=hr.len;have HL:=Lib.hid hl;clear hk hl;go_enter Tryz.func175,Tryz.ntmps175;go_wp2_with (first
  | (go_at_call 178;refine(tell_any B A n cc d _ hR).mono ?_;rintro e w' ⟨⟨p,rfl⟩,rfl⟩)
  | (go_at_call 150;refine(kind_any c _).mono ?_;rintro e w' ⟨rfl,rfl⟩;rw[hK.out])
  | (go_at_call 86;refine(signed_any (tn d) n _).mono ?_;rintro e w' ⟨rfl,rfl⟩)
  | (go_at_call 17;refine(null_any _).mono ?_;rintro e w1 ⟨rfl,hb⟩;have hb1:=below_next hb0 hb;obtain⟨c0,c1,c2,c3,f⟩:=(h0.call hb).all)
  | (go_at_call 20;refine(number_any 13 (tn d) _).mono ?_;rintro e w1 ⟨rfl,hb⟩;have hb1:=below_next hb0 hb;obtain⟨c0,c1,c2,c3,f⟩:=(h0.call hb).all)
  | (go_at_call 19;refine(text_any' 13 (sb d) _).mono ?_;rintro e w1 ⟨rfl,hb⟩;have hb1:=below_next hb0 hb;obtain⟨c0,c1,c2,c3,f⟩:=(h0.call hb).all))
 exact bodyPost_ret (v:=.agg #[.int .u8 13,.int .u64 (tn d:Nat),.string ⟨#[]⟩,.slice none 0 0]) (by simp[results,Tryz.results175,go_sem,c0,c1,c2,c3]) rfl ⟨by rw[hv];rfl,below_set4 hb1 (Nat.le_refl _) _ _ _ _⟩
set_option maxHeartbeats 1000000 in
theorem plain_22 {B:Nat}{A:Option Addr}{n cc c:Nat}{d:List Nat}{w:World}(hr:Rd .u8 256 w B A n d)(hB:B≤w.heap.size)(hk:kof c=22) :
  Calls Tryz.prog 175 #[.int .u8 (c:Int),.slice A n cc] w (GivesP (plainV c d) w):=by
 have hv:plainV c d=.mk 22 (tn d) ⟨#[]⟩ []:=by unfold plainV;rw[if_neg (by omega),if_neg (by omega),if_neg (by omega),if_neg (by omega),hk]
 have h0:=Box.new w (.int .u8 0) (.int .u64 0) (.string ⟨#[]⟩) (.slice none 0 0);have hb0:Below w.heap.size w (w.alloc (.cells #[.int .u8 0,.int .u64 0,.string ⟨#[]⟩,.slice none 0 0] 44)):=(Below.refl _ _).alloc (Nat.le_refl _) _;have hR:=hr.alloc hB (.cells #[.int .u8 0,.int .u64 0,.string ⟨#[]⟩,.slice none 0 0] 44);have hst:=run_str cc hR;have hK:=Lib.hid hk;have hl:=hr.len;have HL:=Lib.hid hl;clear hk hl;go_enter Tryz.func175,Tryz.ntmps175;go_wp2_with (first
  | (go_at_call 178;refine(tell_any B A n cc d _ hR).mono ?_;rintro e w' ⟨⟨p,rfl⟩,rfl⟩)
  | (go_at_call 150;refine(kind_any c _).mono ?_;rintro e w' ⟨rfl,rfl⟩;rw[hK.out])
  | (go_at_call 86;refine(signed_any (tn d) n _).mono ?_;rintro e w' ⟨rfl,rfl⟩)
  | (go_at_call 17;refine(null_any _).mono ?_;rintro e w1 ⟨rfl,hb⟩;have hb1:=below_next hb0 hb;obtain⟨c0,c1,c2,c3,f⟩:=(h0.call hb).all)
  | (go_at_call 20;refine(number_any 22 (tn d) _).mono ?_;rintro e w1 ⟨rfl,hb⟩;have hb1:=below_next hb0 hb;obtain⟨c0,c1,c2,c3,f⟩:=(h0.call hb).all)
  | (go_at_call 19;refine(text_any' 22 (sb d) _).mono ?_;rintro e w1 ⟨rfl,hb⟩;have hb1:=below_next hb0 hb;obtain⟨c0,c1,c2,c3,f⟩:=(h0.call hb).all))
 exact bodyPost_ret (v:=.agg #[.int .u8 22,.int .u64 (tn d:Nat),.string ⟨#[]⟩,.slice none 0 0]) (by simp[results,Tryz.results175,go_sem,c0,c1,c2,c3]) rfl ⟨by rw[hv];rfl,below_set4 hb1 (Nat.le_refl _) _ _ _ _⟩
set_option maxHeartbeats 1000000 in
theorem plain_23 {B:Nat}{A:Option Addr}{n cc c:Nat}{d:List Nat}{w:World}(hr:Rd .u8 256 w B A n d)(hB:B≤w.heap.size)(hk:kof c=23) :
  Calls Tryz.prog 175 #[.int .u8 (c:Int),.slice A n cc] w (GivesP (plainV c d) w):=by
 have hv:plainV c d=.mk 23 (tn d) ⟨#[]⟩ []:=by unfold plainV;rw[if_neg (by omega),if_neg (by omega),if_neg (by omega),if_neg (by omega),hk]
 have h0:=Box.new w (.int .u8 0) (.int .u64 0) (.string ⟨#[]⟩) (.slice none 0 0);have hb0:Below w.heap.size w (w.alloc (.cells #[.int .u8 0,.int .u64 0,.string ⟨#[]⟩,.slice none 0 0] 44)):=(Below.refl _ _).alloc (Nat.le_refl _) _;have hR:=hr.alloc hB (.cells #[.int .u8 0,.int .u64 0,.string ⟨#[]⟩,.slice none 0 0] 44);have hst:=run_str cc hR;have hK:=Lib.hid hk;have hl:=hr.len;have HL:=Lib.hid hl;clear hk hl;go_enter Tryz.func175,Tryz.ntmps175;go_wp2_with (first
  | (go_at_call 178;refine(tell_any B A n cc d _ hR).mono ?_;rintro e w' ⟨⟨p,rfl⟩,rfl⟩)
  | (go_at_call 150;refine(kind_any c _).mono ?_;rintro e w' ⟨rfl,rfl⟩;rw[hK.out])
  | (go_at_call 86;refine(signed_any (tn d) n _).mono ?_;rintro e w' ⟨rfl,rfl⟩)
  | (go_at_call 17;refine(null_any _).mono ?_;rintro e w1 ⟨rfl,hb⟩;have hb1:=below_next hb0 hb;obtain⟨c0,c1,c2,c3,f⟩:=(h0.call hb).all)
  | (go_at_call 20;refine(number_any 23 (tn d) _).mono ?_;rintro e w1 ⟨rfl,hb⟩;have hb1:=below_next hb0 hb;obtain⟨c0,c1,c2,c3,f⟩:=(h0.call hb).all)
  | (go_at_call 19;refine(text_any' 23 (sb d) _).mono ?_;rintro e w1 ⟨rfl,hb⟩;have hb1:=below_next hb0 hb;obtain⟨c0,c1,c2,c3,f⟩:=(h0.call hb).all))
 exact bodyPost_ret (v:=.agg #[.int .u8 23,.int .u64 (tn d:Nat),.string ⟨#[]⟩,.slice none 0 0]) (by simp[results,Tryz.results175,go_sem,c0,c1,c2,c3]) rfl ⟨by rw[hv];rfl,below_set4 hb1 (Nat.le_refl _) _ _ _ _⟩
set_option maxHeartbeats 1000000 in
theorem plain_24 {B:Nat}{A:Option Addr}{n cc c:Nat}{d:List Nat}{w:World}(hr:Rd .u8 256 w B A n d)(hB:B≤w.heap.size)(hk:kof c=24) :
  Calls Tryz.prog 175 #[.int .u8 (c:Int),.slice A n cc] w (GivesP (plainV c d) w):=by
 have hv:plainV c d=.mk 24 (tn d) ⟨#[]⟩ []:=by unfold plainV;rw[if_neg (by omega),if_neg (by omega),if_neg (by omega),if_neg (by omega),hk]
 have h0:=Box.new w (.int .u8 0) (.int .u64 0) (.string ⟨#[]⟩) (.slice none 0 0);have hb0:Below w.heap.size w (w.alloc (.cells #[.int .u8 0,.int .u64 0,.string ⟨#[]⟩,.slice none 0 0] 44)):=(Below.refl _ _).alloc (Nat.le_refl _) _;have hR:=hr.alloc hB (.cells #[.int .u8 0,.int .u64 0,.string ⟨#[]⟩,.slice none 0 0] 44);have hst:=run_str cc hR;have hK:=Lib.hid hk;have hl:=hr.len;have HL:=Lib.hid hl;clear hk hl;go_enter Tryz.func175,Tryz.ntmps175;go_wp2_with (first
  | (go_at_call 178;refine(tell_any B A n cc d _ hR).mono ?_;rintro e w' ⟨⟨p,rfl⟩,rfl⟩)
  | (go_at_call 150;refine(kind_any c _).mono ?_;rintro e w' ⟨rfl,rfl⟩;rw[hK.out])
  | (go_at_call 86;refine(signed_any (tn d) n _).mono ?_;rintro e w' ⟨rfl,rfl⟩)
  | (go_at_call 17;refine(null_any _).mono ?_;rintro e w1 ⟨rfl,hb⟩;have hb1:=below_next hb0 hb;obtain⟨c0,c1,c2,c3,f⟩:=(h0.call hb).all)
  | (go_at_call 20;refine(number_any 24 (tn d) _).mono ?_;rintro e w1 ⟨rfl,hb⟩;have hb1:=below_next hb0 hb;obtain⟨c0,c1,c2,c3,f⟩:=(h0.call hb).all)
  | (go_at_call 19;refine(text_any' 24 (sb d) _).mono ?_;rintro e w1 ⟨rfl,hb⟩;have hb1:=below_next hb0 hb;obtain⟨c0,c1,c2,c3,f⟩:=(h0.call hb).all))
 exact bodyPost_ret (v:=.agg #[.int .u8 24,.int .u64 (tn d:Nat),.string ⟨#[]⟩,.slice none 0 0]) (by simp[results,Tryz.results175,go_sem,c0,c1,c2,c3]) rfl ⟨by rw[hv];rfl,below_set4 hb1 (Nat.le_refl _) _ _ _ _⟩
theorem plain_any {B:Nat}{A:Option Addr}{n cc c:Nat}{d:List Nat}{w:World}(hr:Rd .u8 256 w B A n d)(hB:B≤w.heap.size) :
  Calls Tryz.prog 175 #[.int .u8 (c:Int),.slice A n cc] w (GivesP (plainV c d) w):=by
 have hk:=kof_le c;obtain h | h | h | h | h | h | h | h | h | h | h | h | h | h | h | h | h | h | h | h | h | h | h | h | h:kof c=0∨kof c=1∨kof c=2∨kof c=3∨kof c=4∨kof c=5∨kof c=6∨kof c=7∨kof c=8∨kof c=9∨kof c=10∨kof c=11∨kof c=12∨kof c=13∨kof c=14∨kof c=15∨kof c=16∨kof c=17∨kof c=18∨kof c=19∨kof c=20∨kof c=21∨kof c=22∨kof c=23∨kof c=24:=by omega
 ·exact plain_0 hr hB h
 ·exact plain_1 hr hB h
 ·by_cases hc:c=65
  ·exact plain_2t hr hB h hc
  ·exact plain_2f hr hB h hc
 ·exact plain_3 hr hB h
 ·exact plain_4 hr hB h
 ·exact plain_5 hr hB h
 ·exact plain_6 hr hB h
 ·exact plain_7 hr hB h
 ·exact plain_8 hr hB h
 ·exact plain_9 hr hB h
 ·exact plain_10 hr hB h
 ·exact plain_11 hr hB h
 ·exact plain_12 hr hB h
 ·exact plain_13 hr hB h
 ·exact plain_14 hr hB h
 ·exact plain_15 hr hB h
 ·exact plain_16 hr hB h
 ·exact plain_17 hr hB h
 ·exact plain_18 hr hB h
 ·exact plain_19 hr hB h
 ·exact plain_20 hr hB h
 ·exact plain_21 hr hB h
 ·exact plain_22 hr hB h
 ·exact plain_23 hr hB h
 ·exact plain_24 hr hB h
theorem plain_kids (c:Nat)(d:List Nat):(plainV c d).kids=[]:=by
 unfold plainV
 (repeat' split)<;>rfl
end Go.Proofs.YtcilmmdmkpnppaaGreatDoor.Dec
