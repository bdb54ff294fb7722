/-
  How many parts there are in what is told, and how much. No Go in it.
  Contract of decode.Value: the value with which bytes begin, how many it has, what is wrong. Condition: at most 2^19 bytes; the table of utf.
  What decode.Value answers by the first byte. No Go in it.
  What is read hangs on its own bytes alone. No Go in it.
  The anchor of decode's statements: it answers true. Condition: the table of utf.
-/
import Derived.Test.YtcilmmdmkpnppaaGreatDoorY09
import Derived.Test.YtcilmmdmkpnppaaGreatDoorY06
import Derived.Defers
import Derived.Recover
namespace Go.Proofs.YtcilmmdmkpnppaaGreatDoor.Dec
open Val V Utf
theorem sb_size (d:List Nat):(sb d).size=d.length:=by simp[sb,ByteArray.size]
theorem plain_text (c:Nat)(d:List Nat):(plainV c d).text.size≤d.length:=by
 unfold plainV
 (repeat' split)<;>simp only[V.text]<;>first | exact Nat.zero_le _ | exact Nat.le_of_eq (sb_size d)
theorem name_txt {l r:List Nat}{v:V}(h:nameD l=.ok (v,r)):v.kids=[]∧v.text.size≤l.length∧r.length≤l.length:=by
 cases l with
 | nil=>cases h
 | cons c l=>
  simp only[nameD] at h
  split at h
  ·cases hd:dataD c l with
   | none=>rw[hd] at h;cases h
   | some q=>
    obtain⟨d,q⟩:=q;rw[hd] at h;simp only[Except.ok.injEq,Prod.mk.injEq] at h;obtain⟨rfl,rfl⟩:=h;have h1:=data_len hd;have h2:=plain_text c d;exact⟨plain_kids c d,by simp only[List.length_cons];omega,by simp only[List.length_cons];omega⟩
  ·cases h
theorem head_txt:∀ (N:Nat) (l:List Nat) (ns:List V) (c:Nat) (r:List Nat),headN N l=.ok (ns,c,r)→∀ v∈ns,v.kids=[]∧v.text.size≤l.length
 | 0,_,_,_,_,h=>by simp[headN] at h
 | _+1,[],_,_,_,h=>by simp[headN] at h
 | N+1,c::l,ns,c',r,h=>by
  rw[headN] at h;by_cases hc:c=0
  ·rw[if_pos hc] at h;cases hn:nameD l with
   | error s=>rw[hn] at h;cases h
   | ok p=>
    obtain⟨v,r1⟩:=p;rw[hn] at h;obtain⟨f1,f2,f3⟩:=name_txt hn;simp only at h;cases h2:headN N r1 with
    | error s=>rw[h2] at h;cases h
    | ok p=>
     obtain⟨ns2,c2,r2⟩:=p;rw[h2] at h;simp only[Except.ok.injEq,Prod.mk.injEq] at h;obtain⟨rfl,rfl,rfl⟩:=h;intro x hx;rcases List.mem_cons.1 hx with rfl | hx
     ·exact⟨f1,by simp only[List.length_cons];omega⟩
     ·have:=head_txt N r1 _ _ _ h2 x hx;exact⟨this.1,by simp only[List.length_cons];omega⟩
  ·rw[if_neg hc] at h
   split at h
   ·cases h
   ·simp only[Except.ok.injEq,Prod.mk.injEq] at h;obtain⟨rfl,rfl,rfl⟩:=h;intro v hv;cases hv
def Fit (M it:Nat)(v:V)(it':Nat):Prop:=items v+it=it'∧bulk v≤items v * (M+1)
theorem leaf_fit {v:V}{M:Nat}(h:v.kids=[])(ht:v.text.size≤M):items v=1∧bulk v≤M+1:=by
 obtain⟨k,n,t,ks⟩:=v;simp only[V.kids] at h;subst h;simp only[V.text] at ht;exact⟨by simp[items,itemsL],by simp only[bulk,bulkL];omega⟩
theorem called_fit {M:Nat}{v:V}:∀ {ns:List V},(∀ x∈ns,x.kids=[]∧x.text.size≤M)→bulk v≤items v * (M+1)→items (calledV ns v)=items v+2 * ns.length∧bulk (calledV ns v)≤items (calledV ns v) * (M+1)
 | [],_,hb=>⟨rfl,hb⟩
 | x::ns,h,hb=>by
  obtain⟨h1,h2⟩:=called_fit (ns:=ns) (fun y hy=>h y (by simp[hy])) hb;obtain⟨h3,h4⟩:=leaf_fit (h x (by simp)).1 (h x (by simp)).2;have e:items (calledV (x::ns) v)=items (calledV ns v)+2:=by simp only[calledV,items,itemsL,h3];omega
  refine⟨by rw[e,h1];simp only[List.length_cons];omega,?_⟩;rw[e];simp only[calledV,bulk,bulkL];have h5:(items (calledV ns v)+2) * (M+1)=items (calledV ns v) * (M+1)+2 * (M+1):=Nat.add_mul _ _ _;have h6:(ByteArray.mk #[]).size=0:=rfl;omega
theorem loop_fit {step:Nat→List Nat→Option (V×Nat×List Nat)}{M:Nat}(hs:∀ it l v it' r,l.length≤M→step it l=some (v,it',r)→Fit M it v it'∧r.length≤l.length) :
  ∀ (n it:Nat) (l:List Nat) (vs:List V) (it':Nat) (r:List Nat),l.length≤M→loopN step n it l=some (vs,it',r)→itemsL vs+it=it'∧bulkL vs≤itemsL vs * (M+1)
 | 0,it,l,vs,it',r,_,h=>by
  simp only[loopN,Option.some.injEq,Prod.mk.injEq] at h;obtain⟨rfl,rfl,_⟩:=h;exact⟨by simp[itemsL],by simp[bulkL]⟩
 | n+1,it,l,vs,it',r,hl,h=>by
  rw[loopN] at h;cases h1:step it l with
  | none=>rw[h1] at h;cases h
  | some p=>
   obtain⟨v,it1,r1⟩:=p;obtain⟨⟨f1,f2⟩,f3⟩:=hs _ _ _ _ _ hl h1;rw[h1] at h;simp only at h;cases h2:loopN step n it1 r1 with
   | none=>rw[h2] at h;cases h
   | some q=>
    obtain⟨vs2,it2,r2⟩:=q;rw[h2] at h;simp only[Option.some.injEq,Prod.mk.injEq] at h;obtain⟨rfl,rfl,rfl⟩:=h;obtain⟨g1,g2⟩:=loop_fit hs n it1 r1 vs2 it2 r2 (by omega) h2;refine⟨by simp only[itemsL];omega,?_⟩;simp only[itemsL,bulkL,Nat.add_mul];omega
theorem stepV_fit {tl:Nat→List V→Nat→List Nat→Option (V×Nat)}{M:Nat}(ht:∀ it ns c d v it',(∀ x∈ns,x.kids=[]∧x.text.size≤M)→d.length≤M→tl it ns c d=some (v,it')→Fit M it v it')
  (it:Nat) (l:List Nat) (v:V) (it':Nat) (r:List Nat) (hl:l.length≤M) (h:stepV tl it l=some (v,it',r)):Fit M it v it'∧r.length≤l.length:=by
 refine⟨?_,stepV_len h⟩;unfold stepV at h;cases hh:headD l with
 | error s=>rw[hh] at h;cases h
 | ok p=>
  obtain⟨ns,c,r1⟩:=p;have h1:=(headN_lt _ _ _ _ _ hh).1;have h4:=head_txt _ _ _ _ _ hh;rw[hh] at h;simp only at h;cases hd:dataD c r1 with
  | none=>rw[hd] at h;cases h
  | some q=>
   obtain⟨d,r2⟩:=q;have h2:=data_len hd;rw[hd] at h;simp only at h;cases h3:tl it (ns.take 16) c d with
   | none=>rw[h3] at h;cases h
   | some q=>
    obtain⟨v2,it2⟩:=q;rw[h3] at h;simp only[Option.some.injEq,Prod.mk.injEq] at h;obtain⟨rfl,rfl,_⟩:=h;exact ht _ _ _ _ _ _ (fun x hx=>⟨(h4 x (List.mem_of_mem_take hx)).1,Nat.le_trans (h4 x (List.mem_of_mem_take hx)).2 hl⟩) (by omega) h3
theorem stepA_fit {tl:Nat→List V→Nat→List Nat→Option (V×Nat)}{M:Nat}(ht:∀ it ns c d v it',(∀ x∈ns,x.kids=[]∧x.text.size≤M)→d.length≤M→tl it ns c d=some (v,it')→Fit M it v it')
  {ns:List V} (hn:∀ x∈ns,x.kids=[]∧x.text.size≤M) {c:Nat} (it:Nat) (l:List Nat) (v:V) (it':Nat) (r:List Nat) (hl:l.length≤M) (h:stepA tl ns c it l=some (v,it',r)):Fit M it v it'∧r.length≤l.length:=by
 refine⟨?_,stepA_len h⟩;unfold stepA at h;cases hd:dataD c l with
 | none=>rw[hd] at h;cases h
 | some q=>
  obtain⟨d,r2⟩:=q;have h2:=data_len hd;rw[hd] at h;simp only at h;cases h3:tl it ns c d with
  | none=>rw[h3] at h;cases h
  | some q=>
   obtain⟨v2,it2⟩:=q;rw[h3] at h;simp only[Option.some.injEq,Prod.mk.injEq] at h;obtain⟨rfl,rfl,_⟩:=h;exact ht _ _ _ _ _ _ hn (by omega) h3
theorem endL_some {R:Option (List V×Nat×List Nat)}{vs:List V}{it:Nat}(h:endL R=some (vs,it)):R=some (vs,it,[]):=by
 unfold endL at h
 split at h
 ·simp only[Option.some.injEq,Prod.mk.injEq] at h;obtain⟨rfl,rfl⟩:=h;rfl
 ·cases h
theorem kids_some {tl:Nat→List V→Nat→List Nat→Option (V×Nat)}{c it it':Nat}{d:List Nat}{vs:List V}(h:kidsD tl c it d=some (vs,it')):sw c≤d.length∧tn (d.take (sw c))≤1024 ∧
  ((kof c=24∧∃ ns c' r,headD (d.drop (sw c))=.ok (ns,c',r)∧loopN (stepA tl (ns.take 16) c') (tn (d.take (sw c))) it r=some (vs,it',[])) ∨
   (kof c≠24∧loopN (stepV tl) (tn (d.take (sw c))) it (d.drop (sw c))=some (vs,it',[]))):=by
 unfold kidsD at h;by_cases h0:d.length < sw c
 ·rw[if_pos h0] at h;cases h
 rw[if_neg h0] at h;by_cases h1:1024 < tn (d.take (sw c))
 ·rw[if_pos h1] at h;cases h
 rw[if_neg h1] at h;refine⟨by omega,by omega,?_⟩;by_cases hk:kof c=24
 ·rw[if_pos hk] at h;cases hH:headD (d.drop (sw c)) with
  | error s=>rw[hH] at h;cases h
  | ok p=>
   obtain⟨ns,k,L0⟩:=p;rw[hH] at h;exact .inl ⟨hk,ns,k,L0,rfl,endL_some h⟩
 ·rw[if_neg hk] at h;exact .inr ⟨hk,endL_some h⟩
theorem told_fit (M:Nat):∀ (F it:Nat) (ns:List V) (c:Nat) (d:List Nat) (v:V) (it':Nat),(∀ x∈ns,x.kids=[]∧x.text.size≤M)→d.length≤M→toldN F it ns c d=some (v,it')→Fit M it v it'
 | 0,_,_,_,_,_,_,_,_,h=>by simp[toldN] at h
 | F+1,it,ns,c,d,v,it',hn,hd,h=>by
  rw[told_succ] at h;by_cases hm:1024 < it+1+2 * ns.length
  ·rw[if_pos hm] at h;cases h
  rw[if_neg hm] at h;unfold aloneD at h;by_cases hk:kof c < 22
  ·rw[if_pos hk] at h;simp only[Option.some.injEq,Prod.mk.injEq] at h;obtain⟨rfl,rfl⟩:=h;obtain⟨h1,h2⟩:=leaf_fit (plain_kids c d) (Nat.le_trans (plain_text c d) hd);obtain⟨h3,h4⟩:=called_fit hn (v:=plainV c d) (by rw[h1];omega);exact⟨by omega,h4⟩
  ·rw[if_neg hk] at h;cases hK:kidsD (toldN F) c (it+1+2 * ns.length) d with
   | none=>rw[hK] at h;cases h
   | some p=>
    obtain⟨vs,it2⟩:=p;rw[hK] at h;simp only[Option.some.injEq,Prod.mk.injEq] at h;obtain⟨rfl,rfl⟩:=h;obtain⟨hw,_,hcase⟩:=kids_some hK;have hT:=told_fit M F;have hL:(d.drop (sw c)).length≤M:=by rw[List.length_drop];omega
    have hfin:itemsL vs+(it+1+2 * ns.length)=it2∧bulkL vs≤itemsL vs * (M+1):=by
     rcases hcase with ⟨_,ns',c',r,hH,hl⟩ | ⟨_,hl⟩
     ·have h1:=(headN_lt _ _ _ _ _ hH).1;have h4:=head_txt _ _ _ _ _ hH;exact loop_fit (stepA_fit hT fun x hx=>⟨(h4 x (List.mem_of_mem_take hx)).1,Nat.le_trans (h4 x (List.mem_of_mem_take hx)).2 hL⟩) _ _ _ _ _ _ (by omega) hl
     ·exact loop_fit (stepV_fit hT) _ _ _ _ _ _ hL hl
    have h6:(ByteArray.mk #[]).size=0:=rfl;obtain⟨h3,h4⟩:=called_fit hn (v:=.mk (kof c) 0 ⟨#[]⟩ vs) (by simp only[bulk,items,Nat.add_mul];omega);refine⟨?_,h4⟩;rw[h3];simp only[items];omega
theorem val_fit {F it it':Nat}{l r:List Nat}{v:V}(h:valD (toldN F) it l=.ok (v,it',r)):Fit l.length it v it'∧r.length≤l.length:=by
 have hs:stepV (toldN F) it l=some (v,it',r):=by rw[step_val,h]
 exact stepV_fit (told_fit l.length F) it l v it' r (Nat.le_refl _) hs
end Go.Proofs.YtcilmmdmkpnppaaGreatDoor.Dec
namespace Go.Proofs.YtcilmmdmkpnppaaGreatDoor.Dec
set_option maxRecDepth 100000
open Go.RowKit Utf Val V
@[go_sem] theorem asrt_errno (v:Value) (w:World):(Instr.typeAssert (.iface 29 v) 20 29 false).run Tryz.prog w=.ok v w:=by kernel_rfl
theorem catch_wrong (p:Addr)(x y:Int)(older:List PanicEntry)(w:World)(hc:w.cell? p=some (.int .i64 y))(hz:w.frozen? p=false) :
  CallsD Tryz.prog 66 #[.pointer (some p)] (.panicking ({ v:=.iface 29 (.int .i64 x),recovered:=false }::older)) w fun e u' w'=>
   e=.returned (.tuple #[])∧u'=.panicking ({ v:=.iface 29 (.int .i64 x),recovered:=true }::older)∧w'=w.setCell p (.int .i64 x):=by
 refine callsD_of_wpS Tryz.func66 rfl fun c₀ cs hu=>?_
 apply wpS_seq
 apply wpS_region
 simp[wpOpsS,go_sem,recoverD,hu,Tryz.ntmps66,Exit.thenS]
 apply wpS_seq
 apply wpS_region
 simp[wpOpsS,go_sem,Exit.thenS];refine wpS_cond (t:=true) (by simp[Act.eval]) ?_;simp only[if_true]
 apply wpS_region
 simp[wpOpsS,go_sem,hc,hz,bodyPostS,results,Tryz.results66]
theorem catch_idle (p:Addr)(w:World) :
  CallsD Tryz.prog 66 #[.pointer (some p)] .returning w fun e u' w'=>e=.returned (.tuple #[])∧u'=.returning∧w'=w:=by
 refine callsD_of_wpS Tryz.func66 rfl fun c₀ cs hu=>?_
 apply wpS_seq
 apply wpS_region
 simp[wpOpsS,go_sem,recoverD,hu,Tryz.ntmps66,Exit.thenS]
 apply wpS_seq
 apply wpS_region
 simp[wpOpsS,go_sem,Exit.thenS];refine wpS_cond (t:=false) (by simp[Act.eval]) ?_;simp only[Bool.false_eq_true,if_false];refine wpS_of_wp (wp_skip ?_);cases c₀
 simp_all [bodyPostS,results,Tryz.results66]
def zeroV:V:=.mk 0 0 ⟨#[]⟩ []
noncomputable def decD (b:List Nat):V×Nat×Nat:=match valD (toldN b.length) 0 b with
 | .error s=>(zeroV,0,sel s 7)
 | .ok (v,_,r)=>if okB v=true then (v,b.length - r.length,0) else (zeroV,0,6)
def GivesD (R:V×Nat×Nat)(w:World)(e:Ending)(w':World):Prop:=
 ∃ A l c,e=.returned (.tuple #[.agg #[.int .u8 (R.1.kind:Int),.int .u64 (R.1.num:Int),.string R.1.text,.slice A l c],.int .i64 (R.2.1:Int),.int .i64 (R.2.2:Int)])∧R.1.kind < 256∧R.1.num < 18446744073709551616∧Nw w.heap.size w' R.1.kids A l c∧Below w.heap.size w w'
def startW (w:World)(A:Option Addr)(n c:Nat):World:=
 (((w.alloc (.cells #[.int .u8 0,.int .u64 0,.string ⟨#[]⟩,.slice none 0 0] 44)).alloc (.cells #[.int .i64 0] 29)).alloc (.cells #[.int .i64 0] 3)).alloc (.cells #[.slice A n c,.int .i64 7,.pointer (some ⟨w.heap.size+2,0,none⟩)] 89)
section
variable {w:World} {A:Option Addr} {n c:Nat} {b:List Nat}
theorem start_below:Below w.heap.size w (startW w A n c):=((((Below.refl _ w).alloc (Nat.le_refl _) _).alloc (by simp) _).alloc (by simp;omega) _).alloc (by simp;omega) _
theorem start_size:(startW w A n c).heap.size=w.heap.size+4:=by simp[startW]
theorem start_3:(startW w A n c).heap[w.heap.size+3]? = some (.cells #[.slice A n c,.int .i64 7,.pointer (some ⟨w.heap.size+2,0,none⟩)] 89 (0,0)):=by
 have:=heap_alloc_new (((w.alloc (.cells #[.int .u8 0,.int .u64 0,.string ⟨#[]⟩,.slice none 0 0] 44)).alloc (.cells #[.int .i64 0] 29)).alloc (.cells #[.int .i64 0] 3)) (.cells #[.slice A n c,.int .i64 7,.pointer (some ⟨w.heap.size+2,0,none⟩)] 89)
 simpa [startW] using this
theorem start_2:(startW w A n c).heap[w.heap.size+2]? = some (.cells #[.int .i64 0] 3 (0,0)):=by
 have:=heap_alloc_new ((w.alloc (.cells #[.int .u8 0,.int .u64 0,.string ⟨#[]⟩,.slice none 0 0] 44)).alloc (.cells #[.int .i64 0] 29)) (.cells #[.int .i64 0] 3);rw[startW,Below.heap_alloc _ _ _ (by simp)]
 simpa using this
theorem start_1:(startW w A n c).heap[w.heap.size+1]? = some (.cells #[.int .i64 0] 29 (0,0)):=by
 have:=heap_alloc_new (w.alloc (.cells #[.int .u8 0,.int .u64 0,.string ⟨#[]⟩,.slice none 0 0] 44)) (.cells #[.int .i64 0] 29);rw[startW,Below.heap_alloc _ _ _ (by simp),Below.heap_alloc _ _ _ (by simp)]
 simpa using this
theorem start_0:Box (startW w A n c) w.heap.size (.int .u8 0) (.int .u64 0) (.string ⟨#[]⟩) (.slice none 0 0):=by
 have:=heap_alloc_new w (.cells #[.int .u8 0,.int .u64 0,.string ⟨#[]⟩,.slice none 0 0] 44);unfold Box;rw[startW,Below.heap_alloc _ _ _ (by simp;omega),Below.heap_alloc _ _ _ (by simp;omega),Below.heap_alloc _ _ _ (by simp)];exact this
theorem cells_of {w:World}{g:Nat}{a:Array Value}{t:TypeId}(h:w.heap[g]? = some (.cells a t (0,0))):(∀ j,w.cell? ⟨g,j,none⟩=a[j]?)∧∀ j,w.frozen? ⟨g,j,none⟩=false:=
 ⟨fun j=>by simp[World.cell?,h],fun j=>by simp[World.frozen?,h]⟩
theorem start_rdr (h:Rd .u8 256 w w.heap.size A n b)(hc:n≤c)(hn:n≤1099511627776):Rdr (startW w A n c) (w.heap.size+3) (w.heap.size+2) w.heap.size A n c b 7 0:=by
 obtain⟨a1,a2⟩:=cells_of (start_3 (w:=w) (A:=A) (n:=n) (c:=c));obtain⟨b1,b2⟩:=cells_of (start_2 (w:=w) (A:=A) (n:=n) (c:=c));exact⟨by rw[a1];rfl,by rw[a1];rfl,by rw[a1];rfl,by rw[b1];rfl,a2,b2,h.below start_below,hc,hn,by omega,by omega,by omega,by rw[start_size];omega,by rw[start_size];omega⟩
set_option maxHeartbeats 2000000 in
theorem dec_wrong (h:Rd .u8 256 w w.heap.size A n b)(hc:n≤c)(hn:n≤1099511627776){s:Bool}(hv:valD (toldN b.length) 0 b=.error s):Calls Tryz.prog 37 #[.slice A n c] w (GivesD (zeroV,0,sel s 7) w):=by
 have hmf:∀ (fn:Fn) (first cap:Array Value) (w:World),(Instr.makeFunc fn first cap).run Tryz.prog w=.ok (.func fn first cap) w:=fun _ _ _ _=>rfl;obtain⟨W4,hW4⟩:∃ W4,startW w A n c=W4:=⟨_,rfl⟩;have hA:=value_any (told_any b.length) (hW4▸start_rdr h hc (by omega)) (by omega) (Nat.le_refl _);rw[hv] at hA;have hB:Below w.heap.size w W4:=hW4▸start_below;have hs:W4.heap.size=w.heap.size+4:=hW4▸start_size;have h0:Box W4 w.heap.size (.int .u8 0) (.int .u64 0) (.string ⟨#[]⟩) (.slice none 0 0):=hW4▸start_0;have h1:W4.heap[w.heap.size+1]? = some (.cells #[.int .i64 0] 29 (0,0)):=hW4▸start_1;unfold startW at hW4;go_enter_defers Tryz.func37,Tryz.ntmps37;go_wp2_with ((go_at_call 67;refine hA.mono ?_;rintro e w5 ⟨rfl,hu5⟩));have hs5:=hu5.size;have h5:w5.heap[w.heap.size+1]? = some (.cells #[.int .i64 0] 29 (0,0)):=(hu5.block _ (by omega) (by omega) (by omega)).trans h1;have hb5:=Box.up h0 hu5 (by omega) (by omega);obtain⟨c5,f5⟩:=cells_of h5;refine leaves_cons (f:=66) (args:=#[.pointer (some ⟨w.heap.size+1,0,none⟩)]) (by simp) (by simp[go_sem]) ?_;refine(catch_wrong ⟨w.heap.size+1,0,none⟩ _ 0 [] _ (by rw[c5];rfl) (f5 0)).mono ?_;rintro e u' w6 ⟨rfl,rfl,rfl⟩;have hb6:=hb5.far (p:=⟨w.heap.size+1,0,none⟩) (by simp) (.int .i64 (sel s 7:Int));obtain⟨z0,z1,z2,z3,zf⟩:=hb6.all;have hup:Below w.heap.size w (w5.setCell ⟨w.heap.size+1,0,none⟩ (.int .i64 (sel s 7:Int))):=(((Up.of hB).trans hu5).far (by omega) 0 _).below (by omega) (by omega) (Nat.le_refl _);have z9:(w5.setCell ⟨w.heap.size+1,0,none⟩ (.int .i64 (sel s 7:Int))).cell? ⟨w.heap.size+1,0,none⟩=some (.int .i64 (sel s 7:Int)):=World.cell?_setCell_same' _ _ _ (by rw[c5];rfl);simp[Leaves,settle,results,Tryz.results37,go_sem,z0,z1,z2,z3,z9];exact⟨none,0,0,rfl,(by show 0 < 256;omega),(by show 0 < 18446744073709551616;omega),Val.Kids.none_ _ _ _ _ _,hup⟩
theorem dec_up {W4 w5:World}(hB:Below w.heap.size w W4)(hu5:Up (w.heap.size+3) (w.heap.size+2) W4 w5)(x y z u:Value):Below w.heap.size w ((((w5.setCell ⟨w.heap.size,0,none⟩ x).setCell ⟨w.heap.size,1,none⟩ y).setCell ⟨w.heap.size,2,none⟩ z).setCell ⟨w.heap.size,3,none⟩ u):=
 (up_set4 ((Up.of hB).trans hu5) (Nat.le_refl _) x y z u).below (by omega) (by omega) (Nat.le_refl _)
theorem dec_bulk {M it:Nat}{v:V}(h1:items v+0=it)(h2:bulk v≤items v * (M+1))(hit:it≤1024)(hM:M≤524288):bulk v≤1073741824:=by
 have:items v * (M+1)≤1024 * 524289:=Nat.mul_le_mul (by omega) (by omega);omega
theorem dec_errno {W4 w5 w7:World}(h1:W4.heap[w.heap.size+1]? = some (.cells #[.int .i64 0] 29 (0,0)))(hs:W4.heap.size=w.heap.size+4)(hu5:Up (w.heap.size+3) (w.heap.size+2) W4 w5)(x y z u:Value)
  (hb:Below ((((w5.setCell ⟨w.heap.size,0,none⟩ x).setCell ⟨w.heap.size,1,none⟩ y).setCell ⟨w.heap.size,2,none⟩ z).setCell ⟨w.heap.size,3,none⟩ u).heap.size ((((w5.setCell ⟨w.heap.size,0,none⟩ x).setCell ⟨w.heap.size,1,none⟩ y).setCell ⟨w.heap.size,2,none⟩ z).setCell ⟨w.heap.size,3,none⟩ u) w7) :
  w7.heap[w.heap.size+1]? = some (.cells #[.int .i64 0] 29 (0,0)):=by
 have:=hu5.size;rw[hb.block _ (by rw[size_four];omega),heap_four _ _ _ _ _ _ _ (by omega),hu5.block _ (by omega) (by omega) (by omega)];exact h1
def endW (w w7:World)(x y z u:Value)(m:Int):World:=
 ((((w7.setCell ⟨w.heap.size,0,none⟩ x).setCell ⟨w.heap.size,1,none⟩ y).setCell ⟨w.heap.size,2,none⟩ z).setCell ⟨w.heap.size,3,none⟩ u).setCell ⟨w.heap.size+1,0,none⟩ (.int .i64 m)
theorem dec_end {w7:World}{a0 a1 a2 a3:Value}(hb:Box w7 w.heap.size a0 a1 a2 a3)(he:w7.heap[w.heap.size+1]? = some (.cells #[.int .i64 0] 29 (0,0)))(hB:Below w.heap.size w w7)(x y z u:Value)(m:Int) :
  Box (endW w w7 x y z u m) w.heap.size x y z u∧(endW w w7 x y z u m).cell? ⟨w.heap.size+1,0,none⟩=some (.int .i64 m)∧Below w.heap.size w (endW w w7 x y z u m) ∧
   ∀ S ks A l c,w.heap.size+1 < S→Nw S w7 ks A l c→Nw w.heap.size (endW w w7 x y z u m) ks A l c:=by
 have e1:((((w7.setCell ⟨w.heap.size,0,none⟩ x).setCell ⟨w.heap.size,1,none⟩ y).setCell ⟨w.heap.size,2,none⟩ z).setCell ⟨w.heap.size,3,none⟩ u).heap[w.heap.size+1]? = some (.cells #[.int .i64 0] 29 (0,0)):=(heap_four _ _ _ _ _ _ _ (by omega)).trans he;refine⟨(hb.set4 x y z u).far (p:=⟨w.heap.size+1,0,none⟩) (by simp) _,World.cell?_setCell_same' _ _ _ (by rw[(cells_of e1).1];rfl),?_,fun S ks A l c hS hk=>?_⟩
 ·have h1:Up w.heap.size (w.heap.size+1) w w7:=Up.of hB;exact((up_set4 h1 (Nat.le_refl _) x y z u).far (by omega) 0 _).below (by omega) (by omega) (Nat.le_refl _)
 ·have h2:=Nw_four hk (show w.heap.size < S by omega) x y z u;exact(h2.keep fun i hi=>Below.heap_setCell _ _ _ _ (by simp;omega)).mono fun i hi=>⟨by omega,by rw[endW];simpa using hi.2⟩
set_option maxHeartbeats 4000000 in
theorem dec_read (h:Rd .u8 256 w w.heap.size A n b)(hc:n≤c)(hn:n≤1099511627776)(hTab:Tab w){v:V}{it:Nat}{r:List Nat}(hv:valD (toldN b.length) 0 b=.ok (v,it,r))(hbulk:it≤1024→bulk v≤1073741824) :
  Calls Tryz.prog 37 #[.slice A n c] w (GivesD (if okB v=true then (v,b.length - r.length,0) else (zeroV,0,6)) w):=by
 have hmf:∀ (fn:Fn) (first cap:Array Value) (w:World),(Instr.makeFunc fn first cap).run Tryz.prog w=.ok (.func fn first cap) w:=fun _ _ _ _=>rfl;obtain⟨W4,hW4⟩:∃ W4,startW w A n c=W4:=⟨_,rfl⟩;have hA:=value_any (told_any b.length) (hW4▸start_rdr h hc (by omega)) (by omega) (Nat.le_refl _);rw[hv] at hA;have hB:Below w.heap.size w W4:=hW4▸start_below;have hs:W4.heap.size=w.heap.size+4:=hW4▸start_size;have h0:Box W4 w.heap.size (.int .u8 0) (.int .u64 0) (.string ⟨#[]⟩) (.slice none 0 0):=hW4▸start_0;have h1:W4.heap[w.heap.size+1]? = some (.cells #[.int .i64 0] 29 (0,0)):=hW4▸start_1;obtain⟨_,hrl⟩:=val_fit hv;have hbn:b.length=n:=h.len;have hT4:Tab W4:=hTab.call hB;unfold startW at hW4;have HS:=Lib.hid hs;have HBN:=Lib.hid hbn;clear hs hbn;by_cases hok:okB v=true
 ·rw[if_pos hok];obtain⟨N,hN⟩:∃ N,b.length - r.length=N:=⟨_,rfl⟩;rw[hN];have HN:=Lib.hid hN;have HRL:=Lib.hid hrl;have HOK:=Lib.hid hok;clear hN hrl hok;go_enter_defers Tryz.func37,Tryz.ntmps37;go_wp2_with (first
   | (go_at_call 67;refine hA.mono ?_;rintro e w5 ⟨⟨Av,lv,cv,rfl,hvk,hvn,hnv⟩,hit5,⟨A5,n5,c5,hR5⟩,hu5⟩;have hb5:=Box.up h0 hu5 (by omega) (by omega);obtain⟨y0,y1,y2,y3,yf⟩:=hb5.all;have hs5:=hu5.size;have hup6:=dec_up hB hu5 (.int .u8 (v.kind:Int)) (.int .u64 (v.num:Int)) (.string v.text) (.slice Av lv cv);have hbk:=hbulk hit5;have hk6:=Nw_four hnv (show w.heap.size < W4.heap.size by have:=HS.out;omega) (.int .u8 (v.kind:Int)) (.int .u64 (v.num:Int)) (.string v.text) (.slice Av lv cv))
   | (go_at_call 23;refine(vright_any v.kind v.num v.text v.kids Av lv cv _ (Nat.le_trans (Nat.le_of_lt (kids_bulk v)) hbk) (Nat.le_trans (Nat.le_of_lt (text_bulk v)) hbk) hvn hk6.kd (hTab.call hup6)).mono ?_;rintro e w7 ⟨rfl,hb7⟩;rw[←eta,HOK.out];have hR7:=(hR5.far4 (show w.heap.size≤w.heap.size from Nat.le_refl _) (show w.heap.size≠w.heap.size+3 by omega) (show w.heap.size≠w.heap.size+2 by omega) (.int .u8 (v.kind:Int)) (.int .u64 (v.num:Int)) (.string v.text) (.slice Av lv cv)).call hb7;have hx7:=hR7.left;have h57:=dec_errno h1 HS.out hu5 (.int .u8 (v.kind:Int)) (.int .u64 (v.num:Int)) (.string v.text) (.slice Av lv cv) hb7;obtain⟨c7,f7⟩:=cells_of h57;have hb7x:=(Box.set4 hb5 (.int .u8 (v.kind:Int)) (.int .u64 (v.num:Int)) (.string v.text) (.slice Av lv cv)).call hb7;obtain⟨z0,z1,z2,z3,zf⟩:=hb7x.all;have hup7:=below_next hup6 hb7;have hk7:=hk6.call hb7;have hn5:n5=r.length:=hR5.rd.len.symm;have f70:=f7 0;have c70:=c7 0))
  have hwn:IntKind.i64.wrap ((n:Int) - (n5:Int))=(N:Int):=by have:=HN.out;have:=HRL.out;have:=HBN.out;rw[IntKind.wrap_i64];omega
  clear hn5;go_region;obtain⟨q0,q1,q2,q3⟩:=dec_end hb7x h57 hup7 (.int .u8 (v.kind:Int)) (.int .u64 (v.num:Int)) (.string v.text) (.slice Av lv cv) 0;obtain⟨p0,p1,p2,p3,pf⟩:=q0.all;go_wp2;refine leaves_cons (f:=66) (args:=#[.pointer (some ⟨w.heap.size+1,0,none⟩)]) (by simp) (by simp[go_sem]) ?_;refine(catch_idle ⟨w.heap.size+1,0,none⟩ _).mono ?_;rintro e u' w9 ⟨rfl,rfl,rfl⟩;unfold endW at p0 p1 p2 p3 q1;simp[Leaves,settle,results,Tryz.results37,go_sem,p0,p1,p2,p3,q1];exact⟨Av,lv,cv,rfl,hvk,hvn,(q3 _ _ _ _ _ (by have:=HS.out;omega) hk7).call (Below.refl _ _).drew,q2.drew⟩
 ·rw[if_neg hok];have hok:okB v=false:=by simpa using hok
  have HOK:=Lib.hid hok;clear hok;go_enter_defers Tryz.func37,Tryz.ntmps37;go_wp2_with (first
   | (go_at_call 67;refine hA.mono ?_;rintro e w5 ⟨⟨Av,lv,cv,rfl,hvk,hvn,hnv⟩,hit5,⟨A5,n5,c5,hR5⟩,hu5⟩;have hb5:=Box.up h0 hu5 (by omega) (by omega);obtain⟨y0,y1,y2,y3,yf⟩:=hb5.all;have hs5:=hu5.size;have hup6:=dec_up hB hu5 (.int .u8 (v.kind:Int)) (.int .u64 (v.num:Int)) (.string v.text) (.slice Av lv cv);have hbk:=hbulk hit5;have hk6:=Nw_four hnv (show w.heap.size < W4.heap.size by have:=HS.out;omega) (.int .u8 (v.kind:Int)) (.int .u64 (v.num:Int)) (.string v.text) (.slice Av lv cv))
   | (go_at_call 23;refine(vright_any v.kind v.num v.text v.kids Av lv cv _ (Nat.le_trans (Nat.le_of_lt (kids_bulk v)) hbk) (Nat.le_trans (Nat.le_of_lt (text_bulk v)) hbk) hvn hk6.kd (hTab.call hup6)).mono ?_;rintro e w7 ⟨rfl,hb7⟩;rw[←eta,HOK.out];have hR7:=(hR5.far4 (show w.heap.size≤w.heap.size from Nat.le_refl _) (show w.heap.size≠w.heap.size+3 by omega) (show w.heap.size≠w.heap.size+2 by omega) (.int .u8 (v.kind:Int)) (.int .u64 (v.num:Int)) (.string v.text) (.slice Av lv cv)).call hb7;have hx7:=hR7.left;have h57:=dec_errno h1 HS.out hu5 (.int .u8 (v.kind:Int)) (.int .u64 (v.num:Int)) (.string v.text) (.slice Av lv cv) hb7;obtain⟨c7,f7⟩:=cells_of h57;have hb7x:=(Box.set4 hb5 (.int .u8 (v.kind:Int)) (.int .u64 (v.num:Int)) (.string v.text) (.slice Av lv cv)).call hb7;obtain⟨z0,z1,z2,z3,zf⟩:=hb7x.all;have hup7:=below_next hup6 hb7;have hk7:=hk6.call hb7;have hn5:n5=r.length:=hR5.rd.len.symm;have f70:=f7 0;have c70:=c7 0))
  obtain⟨q0,q1,q2,q3⟩:=dec_end hb7x h57 hup7 (.int .u8 0) (.int .u64 0) (.string ⟨#[]⟩) (.slice none 0 0) 6;obtain⟨p0,p1,p2,p3,pf⟩:=q0.all;refine leaves_cons (f:=66) (args:=#[.pointer (some ⟨w.heap.size+1,0,none⟩)]) (by simp) (by simp[go_sem]) ?_;refine(catch_idle ⟨w.heap.size+1,0,none⟩ _).mono ?_;rintro e u' w9 ⟨rfl,rfl,rfl⟩;unfold endW at p0 p1 p2 p3 q1;simp[Leaves,settle,results,Tryz.results37,go_sem,p0,p1,p2,p3,q1];exact⟨none,0,0,rfl,(by show 0 < 256;omega),(by show 0 < 18446744073709551616;omega),Val.Kids.none_ _ _ _ _ _,q2⟩
theorem dec_wide (h:Rd .u8 256 w w.heap.size A n b)(hc:n≤c)(hn:n≤1099511627776)(hTab:Tab w)(hbulk:∀ v it r,valD (toldN b.length) 0 b=.ok (v,it,r)→it≤1024→bulk v≤1073741824):Calls Tryz.prog 37 #[.slice A n c] w (GivesD (decD b) w):=by
 unfold decD;cases hv:valD (toldN b.length) 0 b with
 | error s=>exact dec_wrong h hc hn hv
 | ok p=>
  obtain⟨v,it,r⟩:=p;exact dec_read h hc hn hTab hv (hbulk v it r hv)
theorem dec_any (h:Rd .u8 256 w w.heap.size A n b)(hc:n≤c)(hn:n≤524288)(hTab:Tab w):Calls Tryz.prog 37 #[.slice A n c] w (GivesD (decD b) w):=
 dec_wide h hc (by omega) hTab fun v it r hv hit=>by
  obtain⟨⟨h1,h2⟩,_⟩:=val_fit hv;exact dec_bulk h1 h2 hit (by rw[h.len];exact hn)
end
end Go.Proofs.YtcilmmdmkpnppaaGreatDoor.Dec
namespace Go.Proofs.YtcilmmdmkpnppaaGreatDoor.Dec
set_option maxRecDepth 100000
open Val V Utf
theorem dec_of_error {b:List Nat}{s:Bool}(h:valD (toldN b.length) 0 b=.error s):decD b=(zeroV,0,sel s 7):=by unfold decD;rw[h]
theorem dec_of_ok {b r:List Nat}{v:V}{it:Nat}(h:valD (toldN b.length) 0 b=.ok (v,it,r)):decD b=if okB v=true then (v,b.length - r.length,0) else (zeroV,0,6):=by unfold decD;rw[h]
end Go.Proofs.YtcilmmdmkpnppaaGreatDoor.Dec
namespace Go.Proofs.YtcilmmdmkpnppaaGreatDoor.Dec
open Val V Utf
theorem loop_congr {s s':Nat→List Nat→Option (V×Nat×List Nat)}{M:Nat}(h:∀ it l,l.length≤M→s it l=s' it l)(hl:∀ it l v it' r,s it l=some (v,it',r)→r.length≤l.length):∀ (n it:Nat) (l:List Nat),l.length≤M→loopN s n it l=loopN s' n it l
 | 0,_,_,_=>rfl
 | n+1,it,l,hm=>by
  rw[loopN,loopN,←h it l hm];cases hs:s it l with
  | none=>rfl
  | some p=>
   obtain⟨v,it',r⟩:=p;simp only;rw[loop_congr h hl n it' r (Nat.le_trans (hl _ _ _ _ _ hs) hm)]
theorem stepV_congr {tl tl':Nat→List V→Nat→List Nat→Option (V×Nat)}{M:Nat}(h:∀ it ns c d,d.length < M→tl it ns c d=tl' it ns c d)(it:Nat)(l:List Nat)(hl:l.length≤M):stepV tl it l=stepV tl' it l:=by
 unfold stepV;cases hh:headD l with
 | error s=>rfl
 | ok p=>
  obtain⟨ns,c,r⟩:=p;have h1:=(headN_lt _ _ _ _ _ hh).1;simp only;cases hd:dataD c r with
  | none=>rfl
  | some q=>
   obtain⟨d,r'⟩:=q;have h2:=data_len hd;simp only;rw[h _ _ _ _ (by omega)]
theorem stepA_congr {tl tl':Nat→List V→Nat→List Nat→Option (V×Nat)}{M:Nat}(h:∀ it ns c d,d.length < M→tl it ns c d=tl' it ns c d)(ns:List V)(c it:Nat)(l:List Nat)(hl:l.length < M):stepA tl ns c it l=stepA tl' ns c it l:=by
 unfold stepA;cases hd:dataD c l with
 | none=>rfl
 | some q=>
  obtain⟨d,r'⟩:=q;have h2:=data_len hd;simp only;rw[h _ _ _ _ (by omega)]
theorem kids_congr {tl tl':Nat→List V→Nat→List Nat→Option (V×Nat)}{c it:Nat}{d:List Nat}(h:∀ it ns c d',d'.length < d.length→tl it ns c d'=tl' it ns c d'):kidsD tl c it d=kidsD tl' c it d:=by
 unfold kidsD;have hL:(d.drop (sw c)).length≤d.length:=by rw[List.length_drop];omega
 by_cases h0:d.length < sw c
 ·rw[if_pos h0,if_pos h0]
 rw[if_neg h0,if_neg h0];by_cases h1:1024 < tn (d.take (sw c))
 ·rw[if_pos h1,if_pos h1]
 rw[if_neg h1,if_neg h1];by_cases hk:kof c=24
 ·rw[if_pos hk,if_pos hk];cases hH:headD (d.drop (sw c)) with
  | error s=>rfl
  | ok p=>
   obtain⟨ns,k,L0⟩:=p;have h2:=(headN_lt _ _ _ _ _ hH).1;simp only;rw[loop_congr (s':=stepA tl' (ns.take 16) k) (M:=d.length - 1) (fun it l hl=>stepA_congr h _ _ it l (by omega)) (fun it l v it' r=>stepA_len) _ _ _ (by omega)]
 ·rw[if_neg hk,if_neg hk];rw[loop_congr (s':=stepV tl') (M:=d.length) (fun it l hl=>stepV_congr h it l hl) (fun it l v it' r=>stepV_len) _ _ _ hL]
theorem told_fuel:∀ (F F' it:Nat) (ns:List V) (c:Nat) (d:List Nat),d.length < F→d.length < F'→toldN F it ns c d=toldN F' it ns c d
 | 0,_,_,_,_,_,h,_=>absurd h (Nat.not_lt_zero _)
 | _+1,0,_,_,_,_,_,h=>absurd h (Nat.not_lt_zero _)
 | F+1,F'+1,it,ns,c,d,h,h'=>by
  have e:∀ it',aloneD (toldN F) it' c d=aloneD (toldN F') it' c d:=fun it'=>by
   unfold aloneD;rw[kids_congr fun it2 ns2 c2 d2 h2=>told_fuel F F' it2 ns2 c2 d2 (by omega) (by omega)]
  rw[told_succ,told_succ,e]
theorem data_more {c:Nat}{l d r:List Nat}(h:dataD c l=some (d,r))(m:List Nat):dataD c (l++m)=some (d,r++m):=by
 unfold dataD at h ⊢;by_cases h0:sw c=0
 ·rw[if_pos h0] at h ⊢;by_cases h1:lg c≤l.length
  ·rw[if_pos h1] at h;injection h with h
   injection h with e1 e2
   subst e1 e2;rw[if_pos (by rw[List.length_append];omega),List.take_append_of_le_length h1,List.drop_append_of_le_length h1]
  ·rw[if_neg h1] at h;cases h
 ·rw[if_neg h0] at h ⊢;by_cases h1:sw c≤l.length
  ·rw[if_pos h1] at h;rw[if_pos (by rw[List.length_append];omega),List.take_append_of_le_length h1,List.drop_append_of_le_length h1];by_cases h2:tn (l.take (sw c))≤(l.drop (sw c)).length
   ·rw[if_pos h2] at h;injection h with h
    injection h with e1 e2
    subst e1 e2;rw[if_pos (by rw[List.length_append];omega),List.take_append_of_le_length h2,List.drop_append_of_le_length h2]
   ·rw[if_neg h2] at h;cases h
  ·rw[if_neg h1] at h;cases h
theorem data_less {c:Nat}{l m d r:List Nat}(h:dataD c (l++m)=some (d,r))(hr:m.length≤r.length):∃ r',r=r'++m∧dataD c l=some (d,r'):=by
 cases hd:dataD c l with
 | some q=>
  obtain⟨d1,r1⟩:=q;have:=data_more hd m;rw[h] at this;simp only[Option.some.injEq,Prod.mk.injEq] at this;obtain⟨rfl,rfl⟩:=this;exact⟨r1,rfl,rfl⟩
 | none=>
  exfalso
  unfold dataD at h hd;by_cases h0:sw c=0
  ·rw[if_pos h0] at h hd;by_cases h1:lg c≤l.length
   ·rw[if_pos h1] at hd;cases hd
   ·by_cases h2:lg c≤(l++m).length
    ·rw[if_pos h2] at h;simp only[Option.some.injEq,Prod.mk.injEq] at h;obtain⟨_,rfl⟩:=h;rw[List.length_drop,List.length_append] at hr;rw[List.length_append] at h2;omega
    ·rw[if_neg h2] at h;cases h
  ·rw[if_neg h0] at h hd;by_cases h1:sw c≤l.length
   ·rw[if_pos h1] at hd;rw[if_pos (by rw[List.length_append];omega),List.take_append_of_le_length h1,List.drop_append_of_le_length h1] at h;by_cases h2:tn (l.take (sw c))≤(l.drop (sw c)).length
    ·rw[if_pos h2] at hd;cases hd
    ·by_cases h3:tn (l.take (sw c))≤(l.drop (sw c)++m).length
     ·rw[if_pos h3] at h;simp only[Option.some.injEq,Prod.mk.injEq] at h;obtain⟨_,rfl⟩:=h;rw[List.length_drop,List.length_append] at hr;rw[List.length_append] at h3;omega
     ·rw[if_neg h3] at h;cases h
   ·by_cases h2:sw c≤(l++m).length
    ·rw[if_pos h2] at h;by_cases h3:tn ((l++m).take (sw c))≤((l++m).drop (sw c)).length
     ·rw[if_pos h3] at h;simp only[Option.some.injEq,Prod.mk.injEq] at h;obtain⟨_,rfl⟩:=h;rw[List.length_drop,List.length_drop,List.length_append] at hr;rw[List.length_append] at h2;omega
     ·rw[if_neg h3] at h;cases h
    ·rw[if_neg h2] at h;cases h
theorem name_more {l r:List Nat}{v:V}(h:nameD l=.ok (v,r))(m:List Nat):nameD (l++m)=.ok (v,r++m):=by
 cases l with
 | nil=>cases h
 | cons c l=>
  simp only[nameD,List.cons_append] at h ⊢;by_cases hk:kof c=6∨kof c=21
  ·rw[if_pos hk] at h ⊢;cases hd:dataD c l with
   | none=>rw[hd] at h;cases h
   | some q=>
    obtain⟨d,q⟩:=q;rw[hd] at h;rw[data_more hd m];simp only[Except.ok.injEq,Prod.mk.injEq] at h ⊢;obtain⟨rfl,rfl⟩:=h;exact⟨rfl,rfl⟩
  ·rw[if_neg hk] at h;cases h
theorem name_form {l:List Nat}(h:nameD l=.error false)(m:List Nat):nameD (l++m)=.error false:=by
 cases l with
 | nil=>cases h
 | cons c l=>
  simp only[nameD,List.cons_append] at h ⊢;by_cases hk:kof c=6∨kof c=21
  ·rw[if_pos hk] at h;cases hd:dataD c l with
   | none=>rw[hd] at h;cases h
   | some q=>rw[hd] at h;cases h
  ·rw[if_neg hk]
theorem name_less {l m r:List Nat}{v:V}(h:nameD (l++m)=.ok (v,r))(hr:m.length≤r.length):∃ r',r=r'++m∧nameD l=.ok (v,r'):=by
 cases l with
 | nil=>
  have:=(name_txt h).2.2;simp only[List.nil_append] at h this;cases m with
  | nil=>cases h
  | cons c l=>
   exfalso
   simp only[nameD] at h;by_cases hk:kof c=6∨kof c=21
   ·rw[if_pos hk] at h;cases hd:dataD c l with
    | none=>rw[hd] at h;cases h
    | some q=>
     obtain⟨d,q⟩:=q;have:=data_len hd;rw[hd] at h;simp only[Except.ok.injEq,Prod.mk.injEq] at h;obtain⟨_,rfl⟩:=h;simp only[List.length_cons] at hr;omega
   ·rw[if_neg hk] at h;cases h
 | cons c l=>
  simp only[nameD,List.cons_append] at h ⊢;by_cases hk:kof c=6∨kof c=21
  ·rw[if_pos hk] at h ⊢;cases hd:dataD c (l++m) with
   | none=>rw[hd] at h;cases h
   | some q=>
    obtain⟨d,q⟩:=q;rw[hd] at h;simp only[Except.ok.injEq,Prod.mk.injEq] at h;obtain⟨rfl,rfl⟩:=h;obtain⟨r',rfl,h2⟩:=data_less hd hr;exact⟨r',rfl,by rw[h2]⟩
  ·rw[if_neg hk] at h;cases h
theorem name_long {l r:List Nat}{v:V}(h:nameD l=.ok (v,r)):r.length < l.length:=by
 obtain⟨r',h1,h2⟩ | h1:(∃ r',r=r'++l∧nameD []=.ok (v,r'))∨r.length < l.length:=by
  by_cases hl:l.length≤r.length
  ·exact .inl (name_less (l:=[]) h hl)
  ·exact .inr (by omega)
 ·cases h2
 ·exact h1
theorem head_more:∀ (N N':Nat) (l m:List Nat),l.length < N→(l++m).length < N' →
  (∀ ns c r,headN N l=.ok (ns,c,r)→headN N' (l++m)=.ok (ns,c,r++m))∧(headN N l=.error false→headN N' (l++m)=.error false)
 | 0,_,_,_,h,_=>absurd h (Nat.not_lt_zero _)
 | _+1,0,_,_,_,h=>absurd h (Nat.not_lt_zero _)
 | N+1,N'+1,[],m,_,_=>⟨fun ns c r h=>(by cases h),fun h=>(by cases h)⟩
 | N+1,N'+1,c::l,m,h,h'=>by
  simp only[List.length_cons,List.length_append] at h h';rw[List.cons_append,headN,headN];by_cases hc:c=0
  ·rw[if_pos hc,if_pos hc];cases hn:nameD l with
   | error s=>
    refine⟨fun ns c' r hh=>(by cases hh),fun hh=>?_⟩;simp only[Except.error.injEq] at hh;subst hh;rw[name_form hn m]
   | ok p=>
    obtain⟨v,r1⟩:=p;have h1:=name_long hn;rw[name_more hn m];simp only;obtain⟨i1,i2⟩:=head_more N N' r1 m (by omega) (by simp only[List.length_append];omega);cases h2:headN N r1 with
    | error s=>
     refine⟨fun ns c' r hh=>(by cases hh),fun hh=>?_⟩;simp only[Except.error.injEq] at hh;subst hh;rw[i2 h2]
    | ok p=>
     obtain⟨ns2,c2,r2⟩:=p;refine⟨fun ns c' r hh=>?_,fun hh=>(by cases hh)⟩;simp only[Except.ok.injEq,Prod.mk.injEq] at hh;obtain⟨rfl,rfl,rfl⟩:=hh;rw[i1 _ _ _ h2]
  ·rw[if_neg hc,if_neg hc];by_cases hk:kof c=0
   ·rw[if_pos hk,if_pos hk];exact⟨fun ns c' r hh=>(by cases hh),fun _=>rfl⟩
   ·rw[if_neg hk,if_neg hk];refine⟨fun ns c' r hh=>?_,fun hh=>(by cases hh)⟩;simp only[Except.ok.injEq,Prod.mk.injEq] at hh ⊢;obtain⟨rfl,rfl,rfl⟩:=hh;exact⟨rfl,rfl,rfl⟩
theorem head_less:∀ (N N':Nat) (l m:List Nat) (ns:List V) (c:Nat) (r:List Nat),l.length < N→(l++m).length < N'→headN N' (l++m)=.ok (ns,c,r)→m.length≤r.length→∃ r',r=r'++m∧headN N l=.ok (ns,c,r')
 | 0,_,_,_,_,_,_,h,_,_,_=>absurd h (Nat.not_lt_zero _)
 | _+1,0,_,_,_,_,_,_,h,_,_=>absurd h (Nat.not_lt_zero _)
 | N+1,N'+1,[],m,ns,c,r,_,_,hh,hr=>by
  have:=(headN_lt _ _ _ _ _ hh).1;rw[List.nil_append] at this;omega
 | N+1,N'+1,c::l,m,ns,c',r,h,h',hh,hr=>by
  simp only[List.length_cons,List.length_append] at h h';rw[List.cons_append,headN] at hh;rw[headN];by_cases hc:c=0
  ·rw[if_pos hc] at hh ⊢;cases hn:nameD (l++m) with
   | error s=>rw[hn] at hh;cases hh
   | ok p=>
    obtain⟨v,r1⟩:=p;have h1:=name_long hn;rw[List.length_append] at h1;rw[hn] at hh;simp only at hh;cases h2:headN N' r1 with
    | error s=>rw[h2] at hh;cases hh
    | ok p=>
     obtain⟨ns2,c2,r2⟩:=p;have h3:=(headN_lt _ _ _ _ _ h2).1;rw[h2] at hh;simp only[Except.ok.injEq,Prod.mk.injEq] at hh;obtain⟨rfl,rfl,rfl⟩:=hh;obtain⟨r1',rfl,hn'⟩:=name_less hn (by omega);have h4:=name_long hn';obtain⟨r',rfl,h5⟩:=head_less N N' r1' m _ _ _ (by omega) (by omega) h2 hr;exact⟨r',rfl,by rw[hn'];simp only;rw[h5]⟩
  ·rw[if_neg hc] at hh ⊢;by_cases hk:kof c=0
   ·rw[if_pos hk] at hh;cases hh
   ·rw[if_neg hk] at hh ⊢;simp only[Except.ok.injEq,Prod.mk.injEq] at hh ⊢;obtain⟨rfl,rfl,rfl⟩:=hh;exact⟨l,rfl,rfl,rfl,rfl⟩
theorem val_more {b:List Nat}{v:V}{it:Nat}{r:List Nat}(h:valD (toldN b.length) 0 b=.ok (v,it,r))(m:List Nat):valD (toldN (b++m).length) 0 (b++m)=.ok (v,it,r++m):=by
 unfold valD at h ⊢;cases hh:headD b with
 | error s=>rw[hh] at h;cases h
 | ok p=>
  obtain⟨ns,c,r1⟩:=p;have h1:=(headN_lt _ _ _ _ _ hh).1;have h2:headD (b++m)=.ok (ns,c,r1++m):=(head_more _ _ b m (Nat.lt_succ_self _) (Nat.lt_succ_self _)).1 _ _ _ hh;rw[hh] at h;rw[h2];simp only at h ⊢;cases hd:dataD c r1 with
  | none=>rw[hd] at h;cases h
  | some q=>
   obtain⟨d,r2⟩:=q;have h3:=data_len hd;rw[hd] at h;rw[data_more hd m];simp only at h ⊢;rw[told_fuel (b++m).length b.length _ _ _ _ (by rw[List.length_append];omega) (by omega)];cases ht:toldN b.length 0 (ns.take 16) c d with
   | none=>rw[ht] at h;cases h
   | some q=>
    obtain⟨v2,it2⟩:=q;rw[ht] at h;simp only[Except.ok.injEq,Prod.mk.injEq] at h ⊢;obtain⟨rfl,rfl,rfl⟩:=h;exact⟨rfl,rfl,rfl⟩
theorem val_form {b:List Nat}(h:valD (toldN b.length) 0 b=.error false)(m:List Nat):valD (toldN (b++m).length) 0 (b++m)=.error false:=by
 unfold valD at h ⊢;cases hh:headD b with
 | error s=>
  rw[hh] at h;simp only[Except.error.injEq] at h;subst h;rw[show headD (b++m)=.error false from (head_more _ _ b m (Nat.lt_succ_self _) (Nat.lt_succ_self _)).2 hh]
 | ok p=>
  obtain⟨ns,c,r1⟩:=p;have h1:=(headN_lt _ _ _ _ _ hh).1;have h2:headD (b++m)=.ok (ns,c,r1++m):=(head_more _ _ b m (Nat.lt_succ_self _) (Nat.lt_succ_self _)).1 _ _ _ hh;rw[hh] at h;rw[h2];simp only at h ⊢;cases hd:dataD c r1 with
  | none=>rw[hd] at h;cases h
  | some q=>
   obtain⟨d,r2⟩:=q;have h3:=data_len hd;rw[hd] at h;rw[data_more hd m];simp only at h ⊢;rw[told_fuel (b++m).length b.length _ _ _ _ (by rw[List.length_append];omega) (by omega)];cases ht:toldN b.length 0 (ns.take 16) c d with
   | none=>rfl
   | some q=>rw[ht] at h;cases h
theorem val_less {b m:List Nat}{v:V}{it:Nat}{r:List Nat}(h:valD (toldN (b++m).length) 0 (b++m)=.ok (v,it,r))(hr:m.length≤r.length):∃ r',r=r'++m∧valD (toldN b.length) 0 b=.ok (v,it,r'):=by
 unfold valD at h;cases hh:headD (b++m) with
 | error s=>rw[hh] at h;cases h
 | ok p=>
  obtain⟨ns,c,r1⟩:=p;rw[hh] at h;simp only at h;cases hd:dataD c r1 with
  | none=>rw[hd] at h;cases h
  | some q=>
   obtain⟨d,r2⟩:=q;have h3:=data_len hd;rw[hd] at h;simp only at h;cases ht:toldN (b++m).length 0 (ns.take 16) c d with
   | none=>rw[ht] at h;cases h
   | some q=>
    obtain⟨v2,it2⟩:=q;rw[ht] at h;simp only[Except.ok.injEq,Prod.mk.injEq] at h;obtain⟨rfl,rfl,rfl⟩:=h;obtain⟨r1',rfl,h4⟩:=head_less (b.length+1) _ b m _ _ _ (Nat.lt_succ_self _) (Nat.lt_succ_self _) hh (by omega);obtain⟨r2',rfl,h5⟩:=data_less hd hr;have h6:=(headN_lt _ _ _ _ _ h4).1;have h7:=data_len h5;refine⟨r2',rfl,?_⟩;unfold valD;rw[show headD b=.ok (ns,c,r1') from h4];simp only;rw[h5];simp only;rw[told_fuel b.length (b++m).length _ _ _ _ (by omega) (by rw[List.length_append];omega),ht]
theorem val_long {F it:Nat}{b r:List Nat}{v:V}{it':Nat}(h:valD (toldN F) it b=.ok (v,it',r)):r.length < b.length:=by
 unfold valD at h;cases hh:headD b with
 | error s=>rw[hh] at h;cases h
 | ok p=>
  obtain⟨ns,c,r1⟩:=p;have h1:=(headN_lt _ _ _ _ _ hh).1;rw[hh] at h;simp only at h;cases hd:dataD c r1 with
  | none=>rw[hd] at h;cases h
  | some q=>
   obtain⟨d,r2⟩:=q;have h3:=data_len hd;rw[hd] at h;simp only at h;cases ht:toldN F it (ns.take 16) c d with
   | none=>rw[ht] at h;cases h
   | some q=>
    rw[ht] at h;simp only[Except.ok.injEq,Prod.mk.injEq] at h;obtain⟨_,_,rfl⟩:=h;omega
end Go.Proofs.YtcilmmdmkpnppaaGreatDoor.Dec
namespace Go.Proofs.YtcilmmdmkpnppaaGreatDoor.Dec
open Val V Utf
theorem dec_ways (b:List Nat):(∃ v it r,valD (toldN b.length) 0 b=.ok (v,it,r)∧okB v=true∧decD b=(v,b.length - r.length,0)) ∨
  (((∃ v it r,valD (toldN b.length) 0 b=.ok (v,it,r)∧¬ okB v=true)∨valD (toldN b.length) 0 b=.error false)∧decD b=(zeroV,0,6))∨(valD (toldN b.length) 0 b=.error true∧decD b=(zeroV,0,7)):=by
 cases h:valD (toldN b.length) 0 b with
 | error s=>
  rw[dec_of_error h];cases s with
  | true=>exact .inr (.inr ⟨rfl,rfl⟩)
  | false=>exact .inr (.inl ⟨.inr rfl,rfl⟩)
 | ok p=>
  obtain⟨v,it,r⟩:=p;rw[dec_of_ok h];by_cases hok:okB v=true
  ·exact .inl ⟨v,it,r,rfl,hok,by rw[if_pos hok]⟩
  ·exact .inr (.inl ⟨.inl ⟨v,it,r,rfl,hok⟩,by rw[if_neg hok]⟩)
theorem dec_ok {b r:List Nat}{v:V}{it:Nat}(h:valD (toldN b.length) 0 b=.ok (v,it,r))(hok:okB v=true):decD b=(v,b.length - r.length,0):=by rw[dec_of_ok h,if_pos hok]
theorem own_ok {b:List Nat}{v:V}{n:Nat}(h:decD b=(v,n,0)):1≤n∧n≤b.length∧(∀ m,decD (b++m)=(v,n,0))∧decD (b.take n)=(v,n,0)∧decD (b.take (n - 1))=(zeroV,0,7):=by
 rcases dec_ways b with ⟨v',it,r,hv,hok,hd⟩ | ⟨_,hd⟩ | ⟨_,hd⟩
 ·rw[hd] at h;simp only[Prod.mk.injEq,and_true] at h;obtain⟨rfl,hn⟩:=h;have hr:=val_long hv;have hsplit:b=b.take n++r:=by
   have h1:b=b++[]:=(List.append_nil b).symm;have hv2:valD (toldN (b.take n++b.drop n).length) 0 (b.take n++b.drop n)=.ok (v',it,r):=by rw[List.take_append_drop];exact hv
   obtain⟨r',hr',_⟩:=val_less hv2 (by rw[List.length_drop];omega);have hl:r'=[]:=List.eq_nil_of_length_eq_zero (by have:=congrArg List.length hr';rw[List.length_append,List.length_drop] at this;omega);subst hl;rw[List.nil_append] at hr';rw[hr',List.take_append_drop]
  have hcut:valD (toldN (b.take n).length) 0 (b.take n)=.ok (v',it,[]):=by
   obtain⟨r',h1,h2⟩:=val_less (b:=b.take n) (m:=r) (by rw[←hsplit];exact hv) (Nat.le_refl _);have hl:r'=[]:=List.eq_nil_of_length_eq_zero (by have:=congrArg List.length h1;rw[List.length_append] at this;omega);subst hl;exact h2
  have htl:(b.take n).length=n:=by rw[List.length_take];omega
  refine⟨by omega,by omega,fun m=>?_,?_,?_⟩
  ·rw[dec_ok (val_more hv m) hok];simp only[Prod.mk.injEq,and_true,true_and,List.length_append];omega
  ·rw[dec_ok hcut hok,htl];simp
  ·have e:b.take n=b.take (n - 1)++(b.take n).drop (n - 1):=by
    have h1:=(List.take_append_drop (n - 1) (b.take n)).symm
    rwa [List.take_take,Nat.min_eq_left (by omega)] at h1
   have hl1:(b.take (n - 1)).length=n - 1:=by rw[List.length_take];omega
   rcases dec_ways (b.take (n - 1)) with ⟨v2,it2,r2,hv2,_,_⟩ | ⟨⟨v2,it2,r2,hv2,_⟩ | hf,_⟩ | ⟨_,hd2⟩
   ·have h3:=val_more hv2 ((b.take n).drop (n - 1));rw[←e,hcut] at h3;simp only[Except.ok.injEq,Prod.mk.injEq] at h3;have h4:=congrArg List.length h3.2.2;rw[List.length_append,List.length_drop,htl] at h4;simp at h4;omega
   ·have h3:=val_more hv2 ((b.take n).drop (n - 1));rw[←e,hcut] at h3;simp only[Except.ok.injEq,Prod.mk.injEq] at h3;have h4:=congrArg List.length h3.2.2;rw[List.length_append,List.length_drop,htl] at h4;simp at h4;omega
   ·have h3:=val_form hf ((b.take n).drop (n - 1));rw[←e,hcut] at h3;cases h3
   ·exact hd2
 ·rw[hd] at h;simp at h
 ·rw[hd] at h;simp at h
end Go.Proofs.YtcilmmdmkpnppaaGreatDoor.Dec
namespace Go.Proofs.YtcilmmdmkpnppaaGreatDoor.Dec
set_option maxRecDepth 100000
open Go.RowKit Utf Val V
end Go.Proofs.YtcilmmdmkpnppaaGreatDoor.Dec
