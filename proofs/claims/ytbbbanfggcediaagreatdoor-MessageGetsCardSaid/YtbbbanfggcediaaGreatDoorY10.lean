/- Contracts, each with its premises. -/
import Derived.Test.YtbbbanfggcediaaGreatDoorY09
import Derived.Test.YtbbbanfggcediaaGreatDoorY06
import Derived.Defers
import Derived.Recover
set_option maxRecDepth 100000
set_option maxHeartbeats 8000000
namespace Go.Proofs.YtbbbanfggcediaaGreatDoor
open _root_.Go.Proofs.Tryz
open Go.RowKit.Below renaming heap_alloc→ybp
open Prod renaming mk.injEq→ybn
open Option renaming some.injEq→ybm
open Nat renaming le_trans→ybl,le_of_lt→ybq,add_mul→ybt
open List renaming length_append→ybi,length_cons→ybj,length_drop→ybk,eq_nil_of_length_eq_zero→ybo,length_take→ybr,take_append_drop→ybs,cons_append→ybu,nil_append→ybv
namespace Dec
open Val V Utf
theorem zf8 (d:Lz):(sb d).size=d.length:=by simp[sb,ByteArray.size]
theorem ze1 (c:Nat)(d:Lz):(zag c d).text.size≤d.length:=by
 unfold zag
 (repeat' split)<;>simp only[V.text]<;>first | exact Nat.zero_le _ | exact Nat.le_of_eq (zf8 d)
theorem zkz {l r:Lz}{v:V}(h:za8 l=.ok (v,r)):v.kids=[]∧v.text.size≤l.length∧r.length≤l.length:=by
 cases l with
 | nil=>cases h
 | cons c l=>
  simp only[za8] at h
  split at h
  ·cases hd:zaC c l with
   | none=>rw[hd] at h;cases h
   | some q=>
    obtain⟨d,q⟩:=q;rw[hd] at h;simp only[Except.ok.injEq,ybn] at h;obtain⟨rfl,rfl⟩:=h;have h1:=za4 hd;have h2:=ze1 c d;exact⟨zbv c d,by simp only[ybj];omega,by simp only[ybj];omega⟩
  ·cases h
theorem zhx:∀ (N:Nat) (l:Lz) (ns:List V) (c:Nat) (r:Lz),zaL N l=.ok (ns,c,r)→∀ v∈ns,v.kids=[]∧v.text.size≤l.length
 | 0,_,_,_,_,h=>by simp[zaL] at h
 | _+1,[],_,_,_,h=>by simp[zaL] at h
 | N+1,c::l,ns,c',r,h=>by
  rw[zaL] at h;by_cases hc:c=0
  ·rw[if_pos hc] at h;cases hn:za8 l with
   | error s=>rw[hn] at h;cases h
   | ok p=>
    obtain⟨v,r1⟩:=p;rw[hn] at h;obtain⟨f1,f2,f3⟩:=zkz hn;simp only at h;cases h2:zaL N r1 with
    | error s=>rw[h2] at h;cases h
    | ok p=>
     obtain⟨ns2,c2,r2⟩:=p;rw[h2] at h;simp only[Except.ok.injEq,ybn] at h;obtain⟨rfl,rfl,rfl⟩:=h;intro x hx;rcases List.mem_cons.1 hx with rfl | hx
     ·exact⟨f1,by simp only[ybj];omega⟩
     ·have:=zhx N r1 _ _ _ h2 x hx;exact⟨this.1,by simp only[ybj];omega⟩
  ·rw[if_neg hc] at h
   split at h
   ·cases h
   ·simp only[Except.ok.injEq,ybn] at h;obtain⟨rfl,rfl,rfl⟩:=h;intro v hv;cases hv
def Fit (M it:Nat)(v:V)(it':Nat):Prop:=items v+it=it'∧bulk v≤items v * (M+1)
theorem zkA {v:V}{M:Nat}(h:v.kids=[])(ht:v.text.size≤M):items v=1∧bulk v≤M+1:=by
 obtain⟨k,n,t,ks⟩:=v;simp only[V.kids] at h;subst h;simp only[V.text] at ht;exact⟨by simp[items,zah],by simp only[bulk,zai];omega⟩
theorem ze2 {M:Nat}{v:V}:∀ {ns:List V},(∀ x∈ns,x.kids=[]∧x.text.size≤M)→bulk v≤items v * (M+1)→items (zap ns v)=items v+2 * ns.length∧bulk (zap ns v)≤items (zap ns v) * (M+1)
 | [],_,hb=>⟨rfl,hb⟩
 | x::ns,h,hb=>by
  obtain⟨h1,h2⟩:=ze2 (ns:=ns) (fun y hy=>h y (by simp[hy])) hb;obtain⟨h3,h4⟩:=zkA (h x (by simp)).1 (h x (by simp)).2;have e:items (zap (x::ns) v)=items (zap ns v)+2:=by simp only[zap,items,zah,h3];omega
  refine⟨by rw[e,h1];simp only[ybj];omega,?_⟩;rw[e];simp only[zap,bulk,zai];have h5:(items (zap ns v)+2) * (M+1)=items (zap ns v) * (M+1)+2 * (M+1):=ybt _ _ _;have h6:(ByteArray.mk #[]).size=0:=rfl;omega
theorem zhy {step:Nat→Lz→Option (V×Nat×Lz)}{M:Nat}(hs:∀ it l v it' r,l.length≤M→step it l=some (v,it',r)→Fit M it v it'∧r.length≤l.length) :
  ∀ (n it:Nat) (l:Lz) (vs:List V) (it':Nat) (r:Lz),l.length≤M→zbe step n it l=some (vs,it',r)→zah vs+it=it'∧zai vs≤zah vs * (M+1)
 | 0,it,l,vs,it',r,_,h=>by
  simp only[zbe,ybm,ybn] at h;obtain⟨rfl,rfl,_⟩:=h;exact⟨by simp[zah],by simp[zai]⟩
 | n+1,it,l,vs,it',r,hl,h=>by
  rw[zbe] at h;cases h1:step it l with
  | none=>rw[h1] at h;cases h
  | some p=>
   obtain⟨v,it1,r1⟩:=p;obtain⟨⟨f1,f2⟩,f3⟩:=hs _ _ _ _ _ hl h1;rw[h1] at h;simp only at h;cases h2:zbe step n it1 r1 with
   | none=>rw[h2] at h;cases h
   | some q=>
    obtain⟨vs2,it2,r2⟩:=q;rw[h2] at h;simp only[ybm,ybn] at h;obtain⟨rfl,rfl,rfl⟩:=h;obtain⟨g1,g2⟩:=zhy hs n it1 r1 vs2 it2 r2 (by omega) h2;refine⟨by simp only[zah];omega,?_⟩;simp only[zah,zai,ybt];omega
theorem zix {tl:Nat→List V→Nat→Lz→Option (V×Nat)}{M:Nat}(ht:∀ it ns c d v it',(∀ x∈ns,x.kids=[]∧x.text.size≤M)→d.length≤M→tl it ns c d=some (v,it')→Fit M it v it')
  (it:Nat) (l:Lz) (v:V) (it':Nat) (r:Lz) (hl:l.length≤M) (h:zcg tl it l=some (v,it',r)):Fit M it v it'∧r.length≤l.length:=by
 refine⟨?_,zfW h⟩;unfold zcg at h;cases hh:headD l with
 | error s=>rw[hh] at h;cases h
 | ok p=>
  obtain⟨ns,c,r1⟩:=p;have h1:=(zbu _ _ _ _ _ hh).1;have h4:=zhx _ _ _ _ _ hh;rw[hh] at h;simp only at h;cases hd:zaC c r1 with
  | none=>rw[hd] at h;cases h
  | some q=>
   obtain⟨d,r2⟩:=q;have h2:=za4 hd;rw[hd] at h;simp only at h;cases h3:tl it (ns.take 16) c d with
   | none=>rw[h3] at h;cases h
   | some q=>
    obtain⟨v2,it2⟩:=q;rw[h3] at h;simp only[ybm,ybn] at h;obtain⟨rfl,rfl,_⟩:=h;exact ht _ _ _ _ _ _ (fun x hx=>⟨(h4 x (List.mem_of_mem_take hx)).1,ybl (h4 x (List.mem_of_mem_take hx)).2 hl⟩) (by omega) h3
theorem zm4 {tl:Nat→List V→Nat→Lz→Option (V×Nat)}{M:Nat}(ht:∀ it ns c d v it',(∀ x∈ns,x.kids=[]∧x.text.size≤M)→d.length≤M→tl it ns c d=some (v,it')→Fit M it v it')
  {ns:List V} (hn:∀ x∈ns,x.kids=[]∧x.text.size≤M) {c:Nat} (it:Nat) (l:Lz) (v:V) (it':Nat) (r:Lz) (hl:l.length≤M) (h:zch tl ns c it l=some (v,it',r)):Fit M it v it'∧r.length≤l.length:=by
 refine⟨?_,zfX h⟩;unfold zch at h;cases hd:zaC c l with
 | none=>rw[hd] at h;cases h
 | some q=>
  obtain⟨d,r2⟩:=q;have h2:=za4 hd;rw[hd] at h;simp only at h;cases h3:tl it ns c d with
  | none=>rw[h3] at h;cases h
  | some q=>
   obtain⟨v2,it2⟩:=q;rw[h3] at h;simp only[ybm,ybn] at h;obtain⟨rfl,rfl,_⟩:=h;exact ht _ _ _ _ _ _ hn (by omega) h3
theorem ziy {R:Option (List V×Nat×Lz)}{vs:List V}{it:Nat}(h:endL R=some (vs,it)):R=some (vs,it,[]):=by
 unfold endL at h
 split at h
 ·simp only[ybm,ybn] at h;obtain⟨rfl,rfl⟩:=h;rfl
 ·cases h
theorem zm5 {tl:Nat→List V→Nat→Lz→Option (V×Nat)}{c it it':Nat}{d:Lz}{vs:List V}(h:zcx tl c it d=some (vs,it')):sw c≤d.length∧tn (d.take (sw c))≤1024 ∧
  ((kof c=24∧∃ ns c' r,headD (d.drop (sw c))=.ok (ns,c',r)∧zbe (zch tl (ns.take 16) c') (tn (d.take (sw c))) it r=some (vs,it',[])) ∨
   (kof c≠24∧zbe (zcg tl) (tn (d.take (sw c))) it (d.drop (sw c))=some (vs,it',[]))):=by
 unfold zcx at h;by_cases h0:d.length < sw c
 ·rw[if_pos h0] at h;cases h
 rw[if_neg h0] at h;by_cases h1:1024 < tn (d.take (sw c))
 ·rw[if_pos h1] at h;cases h
 rw[if_neg h1] at h;refine⟨by omega,by omega,?_⟩;by_cases hk:kof c=24
 ·rw[if_pos hk] at h;cases hH:headD (d.drop (sw c)) with
  | error s=>rw[hH] at h;cases h
  | ok p=>
   obtain⟨ns,k,L0⟩:=p;rw[hH] at h;exact .inl ⟨hk,ns,k,L0,rfl,ziy h⟩
 ·rw[if_neg hk] at h;exact .inr ⟨hk,ziy h⟩
theorem zkB (M:Nat):∀ (F it:Nat) (ns:List V) (c:Nat) (d:Lz) (v:V) (it':Nat),(∀ x∈ns,x.kids=[]∧x.text.size≤M)→d.length≤M→zaG F it ns c d=some (v,it')→Fit M it v it'
 | 0,_,_,_,_,_,_,_,_,h=>by simp[zaG] at h
 | F+1,it,ns,c,d,v,it',hn,hd,h=>by
  rw[zcJ] at h;by_cases hm:1024 < it+1+2 * ns.length
  ·rw[if_pos hm] at h;cases h
  rw[if_neg hm] at h;unfold zc6 at h;by_cases hk:kof c < 22
  ·rw[if_pos hk] at h;simp only[ybm,ybn] at h;obtain⟨rfl,rfl⟩:=h;obtain⟨h1,h2⟩:=zkA (zbv c d) (ybl (ze1 c d) hd);obtain⟨h3,h4⟩:=ze2 hn (v:=zag c d) (by rw[h1];omega);exact⟨by omega,h4⟩
  ·rw[if_neg hk] at h;cases hK:zcx (zaG F) c (it+1+2 * ns.length) d with
   | none=>rw[hK] at h;cases h
   | some p=>
    obtain⟨vs,it2⟩:=p;rw[hK] at h;simp only[ybm,ybn] at h;obtain⟨rfl,rfl⟩:=h;obtain⟨hw,_,vM⟩:=zm5 hK;have hT:=zkB M F;have hL:(d.drop (sw c)).length≤M:=by rw[ybk];omega
    have Gy:zah vs+(it+1+2 * ns.length)=it2∧zai vs≤zah vs * (M+1):=by
     rcases vM with ⟨_,ns',c',r,hH,hl⟩ | ⟨_,hl⟩
     ·have h1:=(zbu _ _ _ _ _ hH).1;have h4:=zhx _ _ _ _ _ hH;exact zhy (zm4 hT fun x hx=>⟨(h4 x (List.mem_of_mem_take hx)).1,ybl (h4 x (List.mem_of_mem_take hx)).2 hL⟩) _ _ _ _ _ _ (by omega) hl
     ·exact zhy (zix hT) _ _ _ _ _ _ hL hl
    have h6:(ByteArray.mk #[]).size=0:=rfl;obtain⟨h3,h4⟩:=ze2 hn (v:=.mk (kof c) 0 ⟨#[]⟩ vs) (by simp only[bulk,items,ybt];omega);refine⟨?_,h4⟩;rw[h3];simp only[items];omega
theorem zjP {F it it':Nat}{l r:Lz}{v:V}(h:valD (zaG F) it l=.ok (v,it',r)):Fit l.length it v it'∧r.length≤l.length:=by
 have hs:zcg (zaG F) it l=some (v,it',r):=by rw[zhn,h]
 exact zix (zkB l.length F) it l v it' r zab hs
end Dec
namespace Dec
open Go.RowKit Utf Val V
@[go_sem] theorem asrt_errno (v:Value) (w:World):(Instr.typeAssert (.iface 28 v) 20 28 false).run prog w=.ok v w:=by kernel_rfl
theorem zjQ (p:Addr)(x y:Int)(older:List PanicEntry)(w:World)(hc:w.cell? p=some (.int .i64 y))(hz:w.frozen? p=false) :
  CallsD prog 30 #[.pointer (some p)] (.panicking ({ v:=.iface 28 (.int .i64 x),recovered:=false }::older)) w fun e u' w'=>
   e=.returned (.tuple #[])∧u'=.panicking ({ v:=.iface 28 (.int .i64 x),recovered:=true }::older)∧w'=w.setCell p (.int .i64 x):=by
 refine callsD_of_wpS func30 rfl fun c₀ cs hu=>?_
 apply wpS_seq
 apply wpS_region
 simp[wpOpsS,go_sem,recoverD,hu,ntmps30,Exit.thenS]
 apply wpS_seq
 apply wpS_region
 simp[wpOpsS,go_sem,Exit.thenS];refine wpS_cond (t:=true) (by simp[Act.eval]) ?_;simp only[if_true]
 apply wpS_region
 simp[wpOpsS,go_sem,hc,hz,bodyPostS,results,results30]
theorem zgO (p:Addr)(w:World) :
  CallsD prog 30 #[.pointer (some p)] .returning w fun e u' w'=>e=.returned (.tuple #[])∧u'=.returning∧w'=w:=by
 refine callsD_of_wpS func30 rfl fun c₀ cs hu=>?_
 apply wpS_seq
 apply wpS_region
 simp[wpOpsS,go_sem,recoverD,hu,ntmps30,Exit.thenS]
 apply wpS_seq
 apply wpS_region
 simp[wpOpsS,go_sem,Exit.thenS];refine wpS_cond (t:=false) (by simp[Act.eval]) ?_;simp only[Bool.false_eq_true,if_false];refine wpS_of_wp (wp_skip ?_);cases c₀
 simp_all [bodyPostS,results,results30]
def zeroV:V:=.mk 0 0 ⟨#[]⟩ []
noncomputable def decD (b:Lz):V×Nat×Nat:=match valD (zaG b.length) 0 b with
 | .error s=>(zeroV,0,sel s 7)
 | .ok (v,_,r)=>if okB v=true then (v,b.length - r.length,0) else (zeroV,0,6)
def zf9 (R:V×Nat×Nat)(w:World)(e:Ending)(w':World):Prop:=
 ∃ A l c,e=.returned (.tuple #[.agg #[.int .u8 (R.1.kind:Int),.int .u64 (R.1.num:Int),.string R.1.text,.slice A l c],.int .i64 (R.2.1:Int),.int .i64 (R.2.2:Int)])∧R.1.kind < 256∧R.1.num < 18446744073709551616∧Nw w.heap.size w' R.1.kids A l c∧Below w.heap.size w w'
def zb6 (w:World)(A:Oz)(n c:Nat):World:=
 (((w.alloc (.cells #[.int .u8 0,.int .u64 0,.string ⟨#[]⟩,.slice none 0 0] 43)).alloc (.cells #[.int .i64 0] 28)).alloc (.cells #[.int .i64 0] 3)).alloc (.cells #[.slice A n c,.int .i64 7,.pointer (some ⟨w.heap.size+2,0,none⟩)] 61)
section
variable {w:World} {A:Oz} {n c:Nat} {b:Lz}
theorem zdY:Below w.heap.size w (zb6 w A n c):=((((Below.refl _ w).alloc zab _).alloc (by simp) _).alloc (by simp;omega) _).alloc (by simp;omega) _
theorem zdG:(zb6 w A n c).heap.size=w.heap.size+4:=by simp[zb6]
theorem zsd:(zb6 w A n c).heap[w.heap.size+3]? = some (.cells #[.slice A n c,.int .i64 7,.pointer (some ⟨w.heap.size+2,0,none⟩)] 61 (0,0)):=by
 have:=heap_alloc_new (((w.alloc (.cells #[.int .u8 0,.int .u64 0,.string ⟨#[]⟩,.slice none 0 0] 43)).alloc (.cells #[.int .i64 0] 28)).alloc (.cells #[.int .i64 0] 3)) (.cells #[.slice A n c,.int .i64 7,.pointer (some ⟨w.heap.size+2,0,none⟩)] 61)
 simpa [zb6] using this
theorem zse:(zb6 w A n c).heap[w.heap.size+2]? = some (.cells #[.int .i64 0] 3 (0,0)):=by
 have:=heap_alloc_new ((w.alloc (.cells #[.int .u8 0,.int .u64 0,.string ⟨#[]⟩,.slice none 0 0] 43)).alloc (.cells #[.int .i64 0] 28)) (.cells #[.int .i64 0] 3);rw[zb6,ybp _ _ _ (by simp)]
 simpa using this
theorem zm6:(zb6 w A n c).heap[w.heap.size+1]? = some (.cells #[.int .i64 0] 28 (0,0)):=by
 have:=heap_alloc_new (w.alloc (.cells #[.int .u8 0,.int .u64 0,.string ⟨#[]⟩,.slice none 0 0] 43)) (.cells #[.int .i64 0] 28);rw[zb6,ybp _ _ _ (by simp),ybp _ _ _ (by simp)]
 simpa using this
theorem zm7:Box (zb6 w A n c) w.heap.size (.int .u8 0) (.int .u64 0) (.string ⟨#[]⟩) (.slice none 0 0):=by
 have:=heap_alloc_new w (.cells #[.int .u8 0,.int .u64 0,.string ⟨#[]⟩,.slice none 0 0] 43);unfold Box;rw[zb6,ybp _ _ _ (by simp;omega),ybp _ _ _ (by simp;omega),ybp _ _ _ (by simp)];exact this
theorem zdH {w:World}{g:Nat}{a:Array Value}{t:TypeId}(h:w.heap[g]? = some (.cells a t (0,0))):(∀ j,w.cell? ⟨g,j,none⟩=a[j]?)∧∀ j,w.frozen? ⟨g,j,none⟩=false:=
 ⟨fun j=>by simp[World.cell?,h],fun j=>by simp[World.frozen?,h]⟩
theorem ziz (h:Rd .u8 256 w w.heap.size A n b)(hc:n≤c)(hn:n≤1099511627776):Rdr (zb6 w A n c) (w.heap.size+3) (w.heap.size+2) w.heap.size A n c b 7 0:=by
 obtain⟨a1,a2⟩:=zdH (zsd (w:=w) (A:=A) (n:=n) (c:=c));obtain⟨b1,b2⟩:=zdH (zse (w:=w) (A:=A) (n:=n) (c:=c));exact⟨by rw[a1];rfl,by rw[a1];rfl,by rw[a1];rfl,by rw[b1];rfl,a2,b2,h.below zdY,hc,hn,by omega,by omega,by omega,by rw[zdG];omega,by rw[zdG];omega⟩
theorem zm8 (h:Rd .u8 256 w w.heap.size A n b)(hc:n≤c)(hn:n≤1099511627776){s:Bool}(hv:valD (zaG b.length) 0 b=.error s):Calls prog 13 #[.slice A n c] w (zf9 (zeroV,0,sel s 7) w):=by
 have U2:∀ (fn:Fn) (first cap:Array Value) (w:World),(Instr.makeFunc fn first cap).run prog w=.ok (.func fn first cap) w:=fun _ _ _ _=>rfl;obtain⟨W4,jj⟩:∃ W4,zb6 w A n c=W4:=⟨_,rfl⟩;have hA:=zfV (zem b.length) (jj▸ziz h hc (by omega)) (by omega) zab;rw[hv] at hA;have hB:Below w.heap.size w W4:=jj▸zdY;have hs:W4.heap.size=w.heap.size+4:=jj▸zdG;have h0:Box W4 w.heap.size (.int .u8 0) (.int .u64 0) (.string ⟨#[]⟩) (.slice none 0 0):=jj▸zm7;have h1:W4.heap[w.heap.size+1]? = some (.cells #[.int .i64 0] 28 (0,0)):=jj▸zm6;unfold zb6 at jj;go_enter_defers func13,ntmps13;go_wp2_with ((go_at_call 31;refine hA.mono ?_;rintro e w5 ⟨rfl,jL⟩));have Jd:=jL.size;have h5:w5.heap[w.heap.size+1]? = some (.cells #[.int .i64 0] 28 (0,0)):=(jL.block _ (by omega) (by omega) (by omega)).trans h1;have gp:=Box.up h0 jL (by omega) (by omega);obtain⟨c5,f5⟩:=zdH h5;refine leaves_cons (f:=30) (args:=#[.pointer (some ⟨w.heap.size+1,0,none⟩)]) (by simp) (by simp[go_sem]) ?_;refine(zjQ ⟨w.heap.size+1,0,none⟩ _ 0 [] _ (by rw[c5];rfl) (f5 0)).mono ?_;rintro e u' w6 ⟨rfl,rfl,rfl⟩;have qm:=gp.far (p:=⟨w.heap.size+1,0,none⟩) (by simp) (.int .i64 (sel s 7:Int));obtain⟨z0,z1,z2,z3,zf⟩:=qm.all;have yY:Below w.heap.size w (w5.setCell ⟨w.heap.size+1,0,none⟩ (.int .i64 (sel s 7:Int))):=(((Up.of hB).trans jL).far (by omega) 0 _).below (by omega) (by omega) zab;have z9:(w5.setCell ⟨w.heap.size+1,0,none⟩ (.int .i64 (sel s 7:Int))).cell? ⟨w.heap.size+1,0,none⟩=some (.int .i64 (sel s 7:Int)):=World.cell?_setCell_same' _ _ _ (by rw[c5];rfl);simp[Leaves,settle,results,results13,go_sem,z0,z1,z2,z3,z9];exact⟨none,0,0,rfl,(by show 0 < 256;omega),(by show 0 < 18446744073709551616;omega),Val.Kids.none_ _ _ _ _ _,yY⟩
theorem zri {W4 w5:World}(hB:Below w.heap.size w W4)(jL:Up (w.heap.size+3) (w.heap.size+2) W4 w5)(x y z u:Value):Below w.heap.size w ((((w5.setCell ⟨w.heap.size,0,none⟩ x).setCell ⟨w.heap.size,1,none⟩ y).setCell ⟨w.heap.size,2,none⟩ z).setCell ⟨w.heap.size,3,none⟩ u):=
 (zcV ((Up.of hB).trans jL) zab x y z u).below (by omega) (by omega) zab
theorem zhz {M it:Nat}{v:V}(h1:items v+0=it)(h2:bulk v≤items v * (M+1))(Gx:it≤1024)(hM:M≤524288):bulk v≤1073741824:=by
 have:items v * (M+1)≤1024 * 524289:=Nat.mul_le_mul (by omega) (by omega);omega
theorem ziA {W4 w5 w7:World}(h1:W4.heap[w.heap.size+1]? = some (.cells #[.int .i64 0] 28 (0,0)))(hs:W4.heap.size=w.heap.size+4)(jL:Up (w.heap.size+3) (w.heap.size+2) W4 w5)(x y z u:Value)
  (hb:Below ((((w5.setCell ⟨w.heap.size,0,none⟩ x).setCell ⟨w.heap.size,1,none⟩ y).setCell ⟨w.heap.size,2,none⟩ z).setCell ⟨w.heap.size,3,none⟩ u).heap.size ((((w5.setCell ⟨w.heap.size,0,none⟩ x).setCell ⟨w.heap.size,1,none⟩ y).setCell ⟨w.heap.size,2,none⟩ z).setCell ⟨w.heap.size,3,none⟩ u) w7) :
  w7.heap[w.heap.size+1]? = some (.cells #[.int .i64 0] 28 (0,0)):=by
 have:=jL.size;rw[hb.block _ (by rw[zek];omega),zci _ _ _ _ _ _ _ (by omega),jL.block _ (by omega) (by omega) (by omega)];exact h1
def endW (w w7:World)(x y z u:Value)(m:Int):World:=
 ((((w7.setCell ⟨w.heap.size,0,none⟩ x).setCell ⟨w.heap.size,1,none⟩ y).setCell ⟨w.heap.size,2,none⟩ z).setCell ⟨w.heap.size,3,none⟩ u).setCell ⟨w.heap.size+1,0,none⟩ (.int .i64 m)
theorem zm9 {w7:World}{a0 a1 a2 a3:Value}(hb:Box w7 w.heap.size a0 a1 a2 a3)(he:w7.heap[w.heap.size+1]? = some (.cells #[.int .i64 0] 28 (0,0)))(hB:Below w.heap.size w w7)(x y z u:Value)(m:Int) :
  Box (endW w w7 x y z u m) w.heap.size x y z u∧(endW w w7 x y z u m).cell? ⟨w.heap.size+1,0,none⟩=some (.int .i64 m)∧Below w.heap.size w (endW w w7 x y z u m) ∧
   ∀ S ks A l c,w.heap.size+1 < S→Nw S w7 ks A l c→Nw w.heap.size (endW w w7 x y z u m) ks A l c:=by
 have e1:((((w7.setCell ⟨w.heap.size,0,none⟩ x).setCell ⟨w.heap.size,1,none⟩ y).setCell ⟨w.heap.size,2,none⟩ z).setCell ⟨w.heap.size,3,none⟩ u).heap[w.heap.size+1]? = some (.cells #[.int .i64 0] 28 (0,0)):=(zci _ _ _ _ _ _ _ (by omega)).trans he;refine⟨(hb.set4 x y z u).far (p:=⟨w.heap.size+1,0,none⟩) (by simp) _,World.cell?_setCell_same' _ _ _ (by rw[(zdH e1).1];rfl),?_,fun S ks A l c hS hk=>?_⟩
 ·have h1:Up w.heap.size (w.heap.size+1) w w7:=Up.of hB;exact((zcV h1 zab x y z u).far (by omega) 0 _).below (by omega) (by omega) zab
 ·have h2:=zeY hk (show w.heap.size < S by omega) x y z u;exact(h2.keep fun i hi=>Below.heap_setCell _ _ _ _ (by simp;omega)).mono fun i hi=>⟨by omega,by rw[endW];simpa using hi.2⟩
theorem zpP (h:Rd .u8 256 w w.heap.size A n b)(hc:n≤c)(hn:n≤1099511627776)(Ho:Tab w){v:V}{it:Nat}{r:Lz}(hv:valD (zaG b.length) 0 b=.ok (v,it,r))(Kj:it≤1024→bulk v≤1073741824) :
  Calls prog 13 #[.slice A n c] w (zf9 (if okB v=true then (v,b.length - r.length,0) else (zeroV,0,6)) w):=by
 have U2:∀ (fn:Fn) (first cap:Array Value) (w:World),(Instr.makeFunc fn first cap).run prog w=.ok (.func fn first cap) w:=fun _ _ _ _=>rfl;obtain⟨W4,jj⟩:∃ W4,zb6 w A n c=W4:=⟨_,rfl⟩;have hA:=zfV (zem b.length) (jj▸ziz h hc (by omega)) (by omega) zab;rw[hv] at hA;have hB:Below w.heap.size w W4:=jj▸zdY;have hs:W4.heap.size=w.heap.size+4:=jj▸zdG;have h0:Box W4 w.heap.size (.int .u8 0) (.int .u64 0) (.string ⟨#[]⟩) (.slice none 0 0):=jj▸zm7;have h1:W4.heap[w.heap.size+1]? = some (.cells #[.int .i64 0] 28 (0,0)):=jj▸zm6;obtain⟨_,JI⟩:=zjP hv;have JQ:b.length=n:=h.len;have hT4:Tab W4:=Ho.call hB;unfold zb6 at jj;have HS:=zaa hs;have xp:=zaa JQ;clear hs JQ;by_cases Hq:okB v=true
 ·rw[if_pos Hq];obtain⟨N,hN⟩:∃ N,b.length - r.length=N:=⟨_,rfl⟩;rw[hN];have HN:=zaa hN;have qN:=zaa JI;have Ve:=zaa Hq;clear hN JI Hq;go_enter_defers func13,ntmps13;go_wp2_with (first
   | (go_at_call 31;refine hA.mono ?_;rintro e w5 ⟨⟨Av,lv,cv,rfl,Kb,kC,JJ⟩,yj,⟨A5,n5,c5,YW⟩,jL⟩;have gp:=Box.up h0 jL (by omega) (by omega);obtain⟨y0,y1,y2,y3,yf⟩:=gp.all;have Jd:=jL.size;have Q8:=zri hB jL (.int .u8 (v.kind:Int)) (.int .u64 (v.num:Int)) (.string v.text) (.slice Av lv cv);have GY:=Kj yj;have Ql:=zeY JJ (show w.heap.size < W4.heap.size by have:=HS.out;omega) (.int .u8 (v.kind:Int)) (.int .u64 (v.num:Int)) (.string v.text) (.slice Av lv cv))
   | (go_at_call 32;refine(zcL v.kind v.num v.text v.kids Av lv cv _ (ybl (ybq (zfP v)) GY) (ybl (ybq (zi v)) GY) kC Ql.kd (Ho.call Q8)).mono ?_;rintro e w7 ⟨rfl,jM⟩;rw[←eta,Ve.out];have BF:=(YW.far4 (show w.heap.size≤w.heap.size from zab) (show w.heap.size≠w.heap.size+3 by omega) (show w.heap.size≠w.heap.size+2 by omega) (.int .u8 (v.kind:Int)) (.int .u64 (v.num:Int)) (.string v.text) (.slice Av lv cv)).call jM;have hx7:=BF.left;have YX:=ziA h1 HS.out jL (.int .u8 (v.kind:Int)) (.int .u64 (v.num:Int)) (.string v.text) (.slice Av lv cv) jM;obtain⟨c7,f7⟩:=zdH YX;have Q9:=(Box.set4 gp (.int .u8 (v.kind:Int)) (.int .u64 (v.num:Int)) (.string v.text) (.slice Av lv cv)).call jM;obtain⟨z0,z1,z2,z3,zf⟩:=Q9.all;have ym:=zad Q8 jM;have U3:=Ql.call jM;have hn5:n5=r.length:=YW.rd.len.symm;have f70:=f7 0;have c70:=c7 0))
  have hwn:IntKind.i64.wrap ((n:Int) - (n5:Int))=(N:Int):=by have:=HN.out;have:=qN.out;have:=xp.out;rw[IntKind.wrap_i64];omega
  clear hn5;go_region;obtain⟨q0,q1,q2,q3⟩:=zm9 Q9 YX ym (.int .u8 (v.kind:Int)) (.int .u64 (v.num:Int)) (.string v.text) (.slice Av lv cv) 0;obtain⟨p0,p1,p2,p3,pf⟩:=q0.all;go_wp2;refine leaves_cons (f:=30) (args:=#[.pointer (some ⟨w.heap.size+1,0,none⟩)]) (by simp) (by simp[go_sem]) ?_;refine(zgO ⟨w.heap.size+1,0,none⟩ _).mono ?_;rintro e u' w9 ⟨rfl,rfl,rfl⟩;unfold endW at p0 p1 p2 p3 q1;simp[Leaves,settle,results,results13,go_sem,p0,p1,p2,p3,q1];exact⟨Av,lv,cv,rfl,Kb,kC,(q3 _ _ _ _ _ (by have:=HS.out;omega) U3).call (Below.refl _ _).drew,q2.drew⟩
 ·rw[if_neg Hq];have Hq:okB v=false:=by simpa using Hq
  have Ve:=zaa Hq;clear Hq;go_enter_defers func13,ntmps13;go_wp2_with (first
   | (go_at_call 31;refine hA.mono ?_;rintro e w5 ⟨⟨Av,lv,cv,rfl,Kb,kC,JJ⟩,yj,⟨A5,n5,c5,YW⟩,jL⟩;have gp:=Box.up h0 jL (by omega) (by omega);obtain⟨y0,y1,y2,y3,yf⟩:=gp.all;have Jd:=jL.size;have Q8:=zri hB jL (.int .u8 (v.kind:Int)) (.int .u64 (v.num:Int)) (.string v.text) (.slice Av lv cv);have GY:=Kj yj;have Ql:=zeY JJ (show w.heap.size < W4.heap.size by have:=HS.out;omega) (.int .u8 (v.kind:Int)) (.int .u64 (v.num:Int)) (.string v.text) (.slice Av lv cv))
   | (go_at_call 32;refine(zcL v.kind v.num v.text v.kids Av lv cv _ (ybl (ybq (zfP v)) GY) (ybl (ybq (zi v)) GY) kC Ql.kd (Ho.call Q8)).mono ?_;rintro e w7 ⟨rfl,jM⟩;rw[←eta,Ve.out];have BF:=(YW.far4 (show w.heap.size≤w.heap.size from zab) (show w.heap.size≠w.heap.size+3 by omega) (show w.heap.size≠w.heap.size+2 by omega) (.int .u8 (v.kind:Int)) (.int .u64 (v.num:Int)) (.string v.text) (.slice Av lv cv)).call jM;have hx7:=BF.left;have YX:=ziA h1 HS.out jL (.int .u8 (v.kind:Int)) (.int .u64 (v.num:Int)) (.string v.text) (.slice Av lv cv) jM;obtain⟨c7,f7⟩:=zdH YX;have Q9:=(Box.set4 gp (.int .u8 (v.kind:Int)) (.int .u64 (v.num:Int)) (.string v.text) (.slice Av lv cv)).call jM;obtain⟨z0,z1,z2,z3,zf⟩:=Q9.all;have ym:=zad Q8 jM;have U3:=Ql.call jM;have hn5:n5=r.length:=YW.rd.len.symm;have f70:=f7 0;have c70:=c7 0))
  obtain⟨q0,q1,q2,q3⟩:=zm9 Q9 YX ym (.int .u8 0) (.int .u64 0) (.string ⟨#[]⟩) (.slice none 0 0) 6;obtain⟨p0,p1,p2,p3,pf⟩:=q0.all;refine leaves_cons (f:=30) (args:=#[.pointer (some ⟨w.heap.size+1,0,none⟩)]) (by simp) (by simp[go_sem]) ?_;refine(zgO ⟨w.heap.size+1,0,none⟩ _).mono ?_;rintro e u' w9 ⟨rfl,rfl,rfl⟩;unfold endW at p0 p1 p2 p3 q1;simp[Leaves,settle,results,results13,go_sem,p0,p1,p2,p3,q1];exact⟨none,0,0,rfl,(by show 0 < 256;omega),(by show 0 < 18446744073709551616;omega),Val.Kids.none_ _ _ _ _ _,q2⟩
theorem zpQ (h:Rd .u8 256 w w.heap.size A n b)(hc:n≤c)(hn:n≤1099511627776)(Ho:Tab w)(Kj:∀ v it r,valD (zaG b.length) 0 b=.ok (v,it,r)→it≤1024→bulk v≤1073741824):Calls prog 13 #[.slice A n c] w (zf9 (decD b) w):=by
 unfold decD;cases hv:valD (zaG b.length) 0 b with
 | error s=>exact zm8 h hc hn hv
 | ok p=>
  obtain⟨v,it,r⟩:=p;exact zpP h hc hn Ho hv (Kj v it r hv)
theorem zsf (h:Rd .u8 256 w w.heap.size A n b)(hc:n≤c)(hn:n≤524288)(Ho:Tab w):Calls prog 13 #[.slice A n c] w (zf9 (decD b) w):=
 zpQ h hc (by omega) Ho fun v it r hv Gx=>by
  obtain⟨⟨h1,h2⟩,_⟩:=zjP hv;exact zhz h1 h2 Gx (by rw[h.len];exact hn)
end
end Dec
namespace Dec
open Val V Utf
theorem ziB {b:Lz}{s:Bool}(h:valD (zaG b.length) 0 b=.error s):decD b=(zeroV,0,sel s 7):=by unfold decD;rw[h]
theorem ziC {b r:Lz}{v:V}{it:Nat}(h:valD (zaG b.length) 0 b=.ok (v,it,r)):decD b=if okB v=true then (v,b.length - r.length,0) else (zeroV,0,6):=by unfold decD;rw[h]
theorem ze3 {s s':Nat→Lz→Option (V×Nat×Lz)}{M:Nat}(h:∀ it l,l.length≤M→s it l=s' it l)(hl:∀ it l v it' r,s it l=some (v,it',r)→r.length≤l.length):∀ (n it:Nat) (l:Lz),l.length≤M→zbe s n it l=zbe s' n it l
 | 0,_,_,_=>rfl
 | n+1,it,l,hm=>by
  rw[zbe,zbe,←h it l hm];cases hs:s it l with
  | none=>rfl
  | some p=>
   obtain⟨v,it',r⟩:=p;simp only;rw[ze3 h hl n it' r (ybl (hl _ _ _ _ _ hs) hm)]
theorem zjR {tl tl':Nat→List V→Nat→Lz→Option (V×Nat)}{M:Nat}(h:∀ it ns c d,d.length < M→tl it ns c d=tl' it ns c d)(it:Nat)(l:Lz)(hl:l.length≤M):zcg tl it l=zcg tl' it l:=by
 unfold zcg;cases hh:headD l with
 | error s=>rfl
 | ok p=>
  obtain⟨ns,c,r⟩:=p;have h1:=(zbu _ _ _ _ _ hh).1;simp only;cases hd:zaC c r with
  | none=>rfl
  | some q=>
   obtain⟨d,r'⟩:=q;have h2:=za4 hd;simp only;rw[h _ _ _ _ (by omega)]
theorem zjS {tl tl':Nat→List V→Nat→Lz→Option (V×Nat)}{M:Nat}(h:∀ it ns c d,d.length < M→tl it ns c d=tl' it ns c d)(ns:List V)(c it:Nat)(l:Lz)(hl:l.length < M):zch tl ns c it l=zch tl' ns c it l:=by
 unfold zch;cases hd:zaC c l with
 | none=>rfl
 | some q=>
  obtain⟨d,r'⟩:=q;have h2:=za4 hd;simp only;rw[h _ _ _ _ (by omega)]
theorem zlL {tl tl':Nat→List V→Nat→Lz→Option (V×Nat)}{c it:Nat}{d:Lz}(h:∀ it ns c d',d'.length < d.length→tl it ns c d'=tl' it ns c d'):zcx tl c it d=zcx tl' c it d:=by
 unfold zcx;have hL:(d.drop (sw c)).length≤d.length:=by rw[ybk];omega
 by_cases h0:d.length < sw c
 ·rw[if_pos h0,if_pos h0]
 rw[if_neg h0,if_neg h0];by_cases h1:1024 < tn (d.take (sw c))
 ·rw[if_pos h1,if_pos h1]
 rw[if_neg h1,if_neg h1];by_cases hk:kof c=24
 ·rw[if_pos hk,if_pos hk];cases hH:headD (d.drop (sw c)) with
  | error s=>rfl
  | ok p=>
   obtain⟨ns,k,L0⟩:=p;have h2:=(zbu _ _ _ _ _ hH).1;simp only;rw[ze3 (s':=zch tl' (ns.take 16) k) (M:=d.length - 1) (fun it l hl=>zjS h _ _ it l (by omega)) (fun it l v it' r=>zfX) _ _ _ (by omega)]
 ·rw[if_neg hk,if_neg hk];rw[ze3 (s':=zcg tl') (M:=d.length) (fun it l hl=>zjR h it l hl) (fun it l v it' r=>zfW) _ _ _ hL]
theorem zeq:∀ (F F' it:Nat) (ns:List V) (c:Nat) (d:Lz),d.length < F→d.length < F'→zaG F it ns c d=zaG F' it ns c d
 | 0,_,_,_,_,_,h,_=>absurd h (Nat.not_lt_zero _)
 | _+1,0,_,_,_,_,_,h=>absurd h (Nat.not_lt_zero _)
 | F+1,F'+1,it,ns,c,d,h,h'=>by
  have e:∀ it',zc6 (zaG F) it' c d=zc6 (zaG F') it' c d:=fun it'=>by
   unfold zc6;rw[zlL fun it2 ns2 c2 d2 h2=>zeq F F' it2 ns2 c2 d2 (by omega) (by omega)]
  rw[zcJ,zcJ,e]
theorem zer {c:Nat}{l d r:Lz}(h:zaC c l=some (d,r))(m:Lz):zaC c (l++m)=some (d,r++m):=by
 unfold zaC at h ⊢;by_cases h0:sw c=0
 ·rw[if_pos h0] at h ⊢;by_cases h1:lg c≤l.length
  ·rw[if_pos h1] at h;injection h with h
   injection h with e1 e2
   subst e1 e2;rw[if_pos (by rw[ybi];omega),List.take_append_of_le_length h1,List.drop_append_of_le_length h1]
  ·rw[if_neg h1] at h;cases h
 ·rw[if_neg h0] at h ⊢;by_cases h1:sw c≤l.length
  ·rw[if_pos h1] at h;rw[if_pos (by rw[ybi];omega),List.take_append_of_le_length h1,List.drop_append_of_le_length h1];by_cases h2:tn (l.take (sw c))≤(l.drop (sw c)).length
   ·rw[if_pos h2] at h;injection h with h
    injection h with e1 e2
    subst e1 e2;rw[if_pos (by rw[ybi];omega),List.take_append_of_le_length h2,List.drop_append_of_le_length h2]
   ·rw[if_neg h2] at h;cases h
  ·rw[if_neg h1] at h;cases h
theorem ziD {c:Nat}{l m d r:Lz}(h:zaC c (l++m)=some (d,r))(hr:m.length≤r.length):∃ r',r=r'++m∧zaC c l=some (d,r'):=by
 cases hd:zaC c l with
 | some q=>
  obtain⟨d1,r1⟩:=q;have:=zer hd m;rw[h] at this;simp only[ybm,ybn] at this;obtain⟨rfl,rfl⟩:=this;exact⟨r1,rfl,rfl⟩
 | none=>
  exfalso
  unfold zaC at h hd;by_cases h0:sw c=0
  ·rw[if_pos h0] at h hd;by_cases h1:lg c≤l.length
   ·rw[if_pos h1] at hd;cases hd
   ·by_cases h2:lg c≤(l++m).length
    ·rw[if_pos h2] at h;simp only[ybm,ybn] at h;obtain⟨_,rfl⟩:=h;rw[ybk,ybi] at hr;rw[ybi] at h2;omega
    ·rw[if_neg h2] at h;cases h
  ·rw[if_neg h0] at h hd;by_cases h1:sw c≤l.length
   ·rw[if_pos h1] at hd;rw[if_pos (by rw[ybi];omega),List.take_append_of_le_length h1,List.drop_append_of_le_length h1] at h;by_cases h2:tn (l.take (sw c))≤(l.drop (sw c)).length
    ·rw[if_pos h2] at hd;cases hd
    ·by_cases h3:tn (l.take (sw c))≤(l.drop (sw c)++m).length
     ·rw[if_pos h3] at h;simp only[ybm,ybn] at h;obtain⟨_,rfl⟩:=h;rw[ybk,ybi] at hr;rw[ybi] at h3;omega
     ·rw[if_neg h3] at h;cases h
   ·by_cases h2:sw c≤(l++m).length
    ·rw[if_pos h2] at h;by_cases h3:tn ((l++m).take (sw c))≤((l++m).drop (sw c)).length
     ·rw[if_pos h3] at h;simp only[ybm,ybn] at h;obtain⟨_,rfl⟩:=h;rw[ybk,ybk,ybi] at hr;rw[ybi] at h2;omega
     ·rw[if_neg h3] at h;cases h
    ·rw[if_neg h2] at h;cases h
theorem zna {l r:Lz}{v:V}(h:za8 l=.ok (v,r))(m:Lz):za8 (l++m)=.ok (v,r++m):=by
 cases l with
 | nil=>cases h
 | cons c l=>
  simp only[za8,ybu] at h ⊢;by_cases hk:kof c=6∨kof c=21
  ·rw[if_pos hk] at h ⊢;cases hd:zaC c l with
   | none=>rw[hd] at h;cases h
   | some q=>
    obtain⟨d,q⟩:=q;rw[hd] at h;rw[zer hd m];simp only[Except.ok.injEq,ybn] at h ⊢;obtain⟨rfl,rfl⟩:=h;exact⟨rfl,rfl⟩
  ·rw[if_neg hk] at h;cases h
theorem znb {l:Lz}(h:za8 l=.error false)(m:Lz):za8 (l++m)=.error false:=by
 cases l with
 | nil=>cases h
 | cons c l=>
  simp only[za8,ybu] at h ⊢;by_cases hk:kof c=6∨kof c=21
  ·rw[if_pos hk] at h;cases hd:zaC c l with
   | none=>rw[hd] at h;cases h
   | some q=>rw[hd] at h;cases h
  ·rw[if_neg hk]
theorem ziE {l m r:Lz}{v:V}(h:za8 (l++m)=.ok (v,r))(hr:m.length≤r.length):∃ r',r=r'++m∧za8 l=.ok (v,r'):=by
 cases l with
 | nil=>
  have:=(zkz h).2.2;simp only[ybv] at h this;cases m with
  | nil=>cases h
  | cons c l=>
   exfalso
   simp only[za8] at h;by_cases hk:kof c=6∨kof c=21
   ·rw[if_pos hk] at h;cases hd:zaC c l with
    | none=>rw[hd] at h;cases h
    | some q=>
     obtain⟨d,q⟩:=q;have:=za4 hd;rw[hd] at h;simp only[Except.ok.injEq,ybn] at h;obtain⟨_,rfl⟩:=h;simp only[ybj] at hr;omega
   ·rw[if_neg hk] at h;cases h
 | cons c l=>
  simp only[za8,ybu] at h ⊢;by_cases hk:kof c=6∨kof c=21
  ·rw[if_pos hk] at h ⊢;cases hd:zaC c (l++m) with
   | none=>rw[hd] at h;cases h
   | some q=>
    obtain⟨d,q⟩:=q;rw[hd] at h;simp only[Except.ok.injEq,ybn] at h;obtain⟨rfl,rfl⟩:=h;obtain⟨r',rfl,h2⟩:=ziD hd hr;exact⟨r',rfl,by rw[h2]⟩
  ·rw[if_neg hk] at h;cases h
theorem zes {l r:Lz}{v:V}(h:za8 l=.ok (v,r)):r.length < l.length:=by
 obtain⟨r',h1,h2⟩ | h1:(∃ r',r=r'++l∧za8 []=.ok (v,r'))∨r.length < l.length:=by
  by_cases hl:l.length≤r.length
  ·exact .inl (ziE (l:=[]) h hl)
  ·exact .inr (by omega)
 ·cases h2
 ·exact h1
theorem zet:∀ (N N':Nat) (l m:Lz),l.length < N→(l++m).length < N' →
  (∀ ns c r,zaL N l=.ok (ns,c,r)→zaL N' (l++m)=.ok (ns,c,r++m))∧(zaL N l=.error false→zaL N' (l++m)=.error false)
 | 0,_,_,_,h,_=>absurd h (Nat.not_lt_zero _)
 | _+1,0,_,_,_,h=>absurd h (Nat.not_lt_zero _)
 | N+1,N'+1,[],m,_,_=>⟨fun ns c r h=>(by cases h),fun h=>(by cases h)⟩
 | N+1,N'+1,c::l,m,h,h'=>by
  simp only[ybj,ybi] at h h';rw[ybu,zaL,zaL];by_cases hc:c=0
  ·rw[if_pos hc,if_pos hc];cases hn:za8 l with
   | error s=>
    refine⟨fun ns c' r hh=>(by cases hh),fun hh=>?_⟩;simp only[Except.error.injEq] at hh;subst hh;rw[znb hn m]
   | ok p=>
    obtain⟨v,r1⟩:=p;have h1:=zes hn;rw[zna hn m];simp only;obtain⟨i1,i2⟩:=zet N N' r1 m (by omega) (by simp only[ybi];omega);cases h2:zaL N r1 with
    | error s=>
     refine⟨fun ns c' r hh=>(by cases hh),fun hh=>?_⟩;simp only[Except.error.injEq] at hh;subst hh;rw[i2 h2]
    | ok p=>
     obtain⟨ns2,c2,r2⟩:=p;refine⟨fun ns c' r hh=>?_,fun hh=>(by cases hh)⟩;simp only[Except.ok.injEq,ybn] at hh;obtain⟨rfl,rfl,rfl⟩:=hh;rw[i1 _ _ _ h2]
  ·rw[if_neg hc,if_neg hc];by_cases hk:kof c=0
   ·rw[if_pos hk,if_pos hk];exact⟨fun ns c' r hh=>(by cases hh),fun _=>rfl⟩
   ·rw[if_neg hk,if_neg hk];refine⟨fun ns c' r hh=>?_,fun hh=>(by cases hh)⟩;simp only[Except.ok.injEq,ybn] at hh ⊢;obtain⟨rfl,rfl,rfl⟩:=hh;exact⟨rfl,rfl,rfl⟩
theorem ziF:∀ (N N':Nat) (l m:Lz) (ns:List V) (c:Nat) (r:Lz),l.length < N→(l++m).length < N'→zaL N' (l++m)=.ok (ns,c,r)→m.length≤r.length→∃ r',r=r'++m∧zaL N l=.ok (ns,c,r')
 | 0,_,_,_,_,_,_,h,_,_,_=>absurd h (Nat.not_lt_zero _)
 | _+1,0,_,_,_,_,_,_,h,_,_=>absurd h (Nat.not_lt_zero _)
 | N+1,N'+1,[],m,ns,c,r,_,_,hh,hr=>by
  have:=(zbu _ _ _ _ _ hh).1;rw[ybv] at this;omega
 | N+1,N'+1,c::l,m,ns,c',r,h,h',hh,hr=>by
  simp only[ybj,ybi] at h h';rw[ybu,zaL] at hh;rw[zaL];by_cases hc:c=0
  ·rw[if_pos hc] at hh ⊢;cases hn:za8 (l++m) with
   | error s=>rw[hn] at hh;cases hh
   | ok p=>
    obtain⟨v,r1⟩:=p;have h1:=zes hn;rw[ybi] at h1;rw[hn] at hh;simp only at hh;cases h2:zaL N' r1 with
    | error s=>rw[h2] at hh;cases hh
    | ok p=>
     obtain⟨ns2,c2,r2⟩:=p;have h3:=(zbu _ _ _ _ _ h2).1;rw[h2] at hh;simp only[Except.ok.injEq,ybn] at hh;obtain⟨rfl,rfl,rfl⟩:=hh;obtain⟨r1',rfl,k8⟩:=ziE hn (by omega);have h4:=zes k8;obtain⟨r',rfl,h5⟩:=ziF N N' r1' m _ _ _ (by omega) (by omega) h2 hr;exact⟨r',rfl,by rw[k8];simp only;rw[h5]⟩
  ·rw[if_neg hc] at hh ⊢;by_cases hk:kof c=0
   ·rw[if_pos hk] at hh;cases hh
   ·rw[if_neg hk] at hh ⊢;simp only[Except.ok.injEq,ybn] at hh ⊢;obtain⟨rfl,rfl,rfl⟩:=hh;exact⟨l,rfl,rfl,rfl,rfl⟩
theorem zhA {b:Lz}{v:V}{it:Nat}{r:Lz}(h:valD (zaG b.length) 0 b=.ok (v,it,r))(m:Lz):valD (zaG (b++m).length) 0 (b++m)=.ok (v,it,r++m):=by
 unfold valD at h ⊢;cases hh:headD b with
 | error s=>rw[hh] at h;cases h
 | ok p=>
  obtain⟨ns,c,r1⟩:=p;have h1:=(zbu _ _ _ _ _ hh).1;have h2:headD (b++m)=.ok (ns,c,r1++m):=(zet _ _ b m (Nat.lt_succ_self _) (Nat.lt_succ_self _)).1 _ _ _ hh;rw[hh] at h;rw[h2];simp only at h ⊢;cases hd:zaC c r1 with
  | none=>rw[hd] at h;cases h
  | some q=>
   obtain⟨d,r2⟩:=q;have h3:=za4 hd;rw[hd] at h;rw[zer hd m];simp only at h ⊢;rw[zeq (b++m).length b.length _ _ _ _ (by rw[ybi];omega) (by omega)];cases ht:zaG b.length 0 (ns.take 16) c d with
   | none=>rw[ht] at h;cases h
   | some q=>
    obtain⟨v2,it2⟩:=q;rw[ht] at h;simp only[Except.ok.injEq,ybn] at h ⊢;obtain⟨rfl,rfl,rfl⟩:=h;exact⟨rfl,rfl,rfl⟩
theorem zpR {b:Lz}(h:valD (zaG b.length) 0 b=.error false)(m:Lz):valD (zaG (b++m).length) 0 (b++m)=.error false:=by
 unfold valD at h ⊢;cases hh:headD b with
 | error s=>
  rw[hh] at h;simp only[Except.error.injEq] at h;subst h;rw[show headD (b++m)=.error false from (zet _ _ b m (Nat.lt_succ_self _) (Nat.lt_succ_self _)).2 hh]
 | ok p=>
  obtain⟨ns,c,r1⟩:=p;have h1:=(zbu _ _ _ _ _ hh).1;have h2:headD (b++m)=.ok (ns,c,r1++m):=(zet _ _ b m (Nat.lt_succ_self _) (Nat.lt_succ_self _)).1 _ _ _ hh;rw[hh] at h;rw[h2];simp only at h ⊢;cases hd:zaC c r1 with
  | none=>rw[hd] at h;cases h
  | some q=>
   obtain⟨d,r2⟩:=q;have h3:=za4 hd;rw[hd] at h;rw[zer hd m];simp only at h ⊢;rw[zeq (b++m).length b.length _ _ _ _ (by rw[ybi];omega) (by omega)];cases ht:zaG b.length 0 (ns.take 16) c d with
   | none=>rfl
   | some q=>rw[ht] at h;cases h
theorem zkC {b m:Lz}{v:V}{it:Nat}{r:Lz}(h:valD (zaG (b++m).length) 0 (b++m)=.ok (v,it,r))(hr:m.length≤r.length):∃ r',r=r'++m∧valD (zaG b.length) 0 b=.ok (v,it,r'):=by
 unfold valD at h;cases hh:headD (b++m) with
 | error s=>rw[hh] at h;cases h
 | ok p=>
  obtain⟨ns,c,r1⟩:=p;rw[hh] at h;simp only at h;cases hd:zaC c r1 with
  | none=>rw[hd] at h;cases h
  | some q=>
   obtain⟨d,r2⟩:=q;have h3:=za4 hd;rw[hd] at h;simp only at h;cases ht:zaG (b++m).length 0 (ns.take 16) c d with
   | none=>rw[ht] at h;cases h
   | some q=>
    obtain⟨v2,it2⟩:=q;rw[ht] at h;simp only[Except.ok.injEq,ybn] at h;obtain⟨rfl,rfl,rfl⟩:=h;obtain⟨r1',rfl,h4⟩:=ziF (b.length+1) _ b m _ _ _ (Nat.lt_succ_self _) (Nat.lt_succ_self _) hh (by omega);obtain⟨r2',rfl,h5⟩:=ziD hd hr;have h6:=(zbu _ _ _ _ _ h4).1;have h7:=za4 h5;refine⟨r2',rfl,?_⟩;unfold valD;rw[show headD b=.ok (ns,c,r1') from h4];simp only;rw[h5];simp only;rw[zeq b.length (b++m).length _ _ _ _ (by omega) (by rw[ybi];omega),ht]
theorem zpS {F it:Nat}{b r:Lz}{v:V}{it':Nat}(h:valD (zaG F) it b=.ok (v,it',r)):r.length < b.length:=by
 unfold valD at h;cases hh:headD b with
 | error s=>rw[hh] at h;cases h
 | ok p=>
  obtain⟨ns,c,r1⟩:=p;have h1:=(zbu _ _ _ _ _ hh).1;rw[hh] at h;simp only at h;cases hd:zaC c r1 with
  | none=>rw[hd] at h;cases h
  | some q=>
   obtain⟨d,r2⟩:=q;have h3:=za4 hd;rw[hd] at h;simp only at h;cases ht:zaG F it (ns.take 16) c d with
   | none=>rw[ht] at h;cases h
   | some q=>
    rw[ht] at h;simp only[Except.ok.injEq,ybn] at h;obtain⟨_,_,rfl⟩:=h;omega
theorem zeu (b:Lz):(∃ v it r,valD (zaG b.length) 0 b=.ok (v,it,r)∧okB v=true∧decD b=(v,b.length - r.length,0)) ∨
  (((∃ v it r,valD (zaG b.length) 0 b=.ok (v,it,r)∧¬ okB v=true)∨valD (zaG b.length) 0 b=.error false)∧decD b=(zeroV,0,6))∨(valD (zaG b.length) 0 b=.error true∧decD b=(zeroV,0,7)):=by
 cases h:valD (zaG b.length) 0 b with
 | error s=>
  rw[ziB h];cases s with
  | true=>exact .inr (.inr ⟨rfl,rfl⟩)
  | false=>exact .inr (.inl ⟨.inr rfl,rfl⟩)
 | ok p=>
  obtain⟨v,it,r⟩:=p;rw[ziC h];by_cases Hq:okB v=true
  ·exact .inl ⟨v,it,r,rfl,Hq,by rw[if_pos Hq]⟩
  ·exact .inr (.inl ⟨.inl ⟨v,it,r,rfl,Hq⟩,by rw[if_neg Hq]⟩)
theorem ziG {b r:Lz}{v:V}{it:Nat}(h:valD (zaG b.length) 0 b=.ok (v,it,r))(Hq:okB v=true):decD b=(v,b.length - r.length,0):=by rw[ziC h,if_pos Hq]
theorem zrj {b:Lz}{v:V}{n:Nat}(h:decD b=(v,n,0)):1≤n∧n≤b.length∧(∀ m,decD (b++m)=(v,n,0))∧decD (b.take n)=(v,n,0)∧decD (b.take (n - 1))=(zeroV,0,7):=by
 rcases zeu b with ⟨v',it,r,hv,Hq,hd⟩ | ⟨_,hd⟩ | ⟨_,hd⟩
 ·rw[hd] at h;simp only[ybn,and_true] at h;obtain⟨rfl,hn⟩:=h;have hr:=zpS hv;have yJ:b=b.take n++r:=by
   have h1:b=b++[]:=(List.append_nil b).symm;have xr:valD (zaG (b.take n++b.drop n).length) 0 (b.take n++b.drop n)=.ok (v',it,r):=by rw[ybs];exact hv
   obtain⟨r',ko,_⟩:=zkC xr (by rw[ybk];omega);have hl:r'=[]:=ybo (by have:=congrArg List.length ko;rw[ybi,ybk] at this;omega);subst hl;rw[ybv] at ko;rw[ko,ybs]
  have hcut:valD (zaG (b.take n).length) 0 (b.take n)=.ok (v',it,[]):=by
   obtain⟨r',h1,h2⟩:=zkC (b:=b.take n) (m:=r) (by rw[←yJ];exact hv) zab;have hl:r'=[]:=ybo (by have:=congrArg List.length h1;rw[ybi] at this;omega);subst hl;exact h2
  have Qx:(b.take n).length=n:=by rw[ybr];omega
  refine⟨by omega,by omega,fun m=>?_,?_,?_⟩
  ·rw[ziG (zhA hv m) Hq];simp only[ybn,and_true,true_and,ybi];omega
  ·rw[ziG hcut Hq,Qx];simp
  ·have e:b.take n=b.take (n - 1)++(b.take n).drop (n - 1):=by
    have h1:=(ybs (n - 1) (b.take n)).symm
    rwa [List.take_take,Nat.min_eq_left (by omega)] at h1
   have jv:(b.take (n - 1)).length=n - 1:=by rw[ybr];omega
   rcases zeu (b.take (n - 1)) with ⟨v2,it2,r2,xr,_,_⟩ | ⟨⟨v2,it2,r2,xr,_⟩ | hf,_⟩ | ⟨_,kM⟩
   ·have h3:=zhA xr ((b.take n).drop (n - 1));rw[←e,hcut] at h3;simp only[Except.ok.injEq,ybn] at h3;have h4:=congrArg List.length h3.2.2;rw[ybi,ybk,Qx] at h4;simp at h4;omega
   ·have h3:=zhA xr ((b.take n).drop (n - 1));rw[←e,hcut] at h3;simp only[Except.ok.injEq,ybn] at h3;have h4:=congrArg List.length h3.2.2;rw[ybi,ybk,Qx] at h4;simp at h4;omega
   ·have h3:=zpR hf ((b.take n).drop (n - 1));rw[←e,hcut] at h3;cases h3
   ·exact kM
 ·rw[hd] at h;simp at h
 ·rw[hd] at h;simp at h
end Dec
namespace Dec
open Go.RowKit Utf Val V
end Dec
end Go.Proofs.YtbbbanfggcediaaGreatDoor
