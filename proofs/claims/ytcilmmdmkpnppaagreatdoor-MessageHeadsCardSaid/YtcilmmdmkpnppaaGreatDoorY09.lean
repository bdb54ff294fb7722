/-
  Contract of the reader's kids: what a list, a map or an array is made of, given what the reader's told does. Condition: at most 2^40 bytes.
  Contract of the reader's alone: a value, whatever it is called, given what the reader's told does. Condition: at most 2^40 bytes.
  Contract of the reader's told: what a constructor and data tell, so deep at most; by induction on that. Condition: at most 2^40 bytes.
-/
import Derived.Test.YtcilmmdmkpnppaaGreatDoorY08
namespace Go.Proofs.YtcilmmdmkpnppaaGreatDoor.Dec
set_option maxRecDepth 100000
open Go.RowKit Utf Val V
def GotL (S:Nat)(vs:List V)(e:Ending)(w':World):Prop:=∃ Ak nk ck,e=.returned (.slice Ak nk ck)∧Nw S w' vs Ak nk ck
def KidsR (ib:Nat)(R:Option (List V×Nat))(w:World)(e:Ending)(w':World):Prop:=
 match R with
 | none=>Fails 6 ib ib w e w'
 | some (vs,it')=>GotL w.heap.size vs e w'∧it'≤1024∧w'.cell? ⟨ib,0,none⟩=some (.int .i64 (it':Int))∧(∀ j,w'.frozen? ⟨ib,j,none⟩=false)∧Up ib ib w w'
def endL (R:Option (List V×Nat×List Nat)):Option (List V×Nat):=match R with | some (vs,it',[])=>some (vs,it') | _=>none
def preL (done:List V)(R:Option (List V×Nat×List Nat)):Option (List V×Nat×List Nat):=R.map fun p=>(done++p.1,p.2.1,p.2.2)
theorem preL_nil (R:Option (List V×Nat×List Nat)):preL [] R=R:=by cases R<;>rfl
theorem loop_none {step:Nat→List Nat→Option (V×Nat×List Nat)}{m it:Nat}{l:List Nat}(h:step it l=none)(done:List V):preL done (loopN step (m+1) it l)=none:=by
 rw[loopN,h];rfl
theorem loop_some {step:Nat→List Nat→Option (V×Nat×List Nat)}{m it it':Nat}{l r:List Nat}{v:V}(h:step it l=some (v,it',r))(done:List V):preL done (loopN step (m+1) it l)=preL (done++[v]) (loopN step m it' r):=by
 rw[loopN,h];simp only;cases loopN step m it' r with
 | none=>rfl
 | some p=>obtain⟨a,b,c⟩:=p;simp[preL]
theorem loop_end {step:Nat→List Nat→Option (V×Nat×List Nat)}{it:Nat}{l:List Nat}(done:List V):preL done (loopN step 0 it l)=some (done,it,l):=by simp[loopN,preL]
theorem data_len {c:Nat}{l d r:List Nat}(h:dataD c l=some (d,r)):d.length+r.length≤l.length:=by
 obtain⟨p,e⟩:=data_parts h;subst e;simp only[List.length_append];omega
theorem stepV_len {tl:Nat→List V→Nat→List Nat→Option (V×Nat)}{it it':Nat}{l r:List Nat}{v:V}(h:stepV tl it l=some (v,it',r)):r.length≤l.length:=by
 unfold stepV at h;cases hh:headD l with
 | error s=>rw[hh] at h;cases h
 | ok p=>
  obtain⟨ns,c,r1⟩:=p;have h1:=(headN_lt _ _ _ _ _ hh).1;rw[hh] at h;simp only at h;cases hd:dataD c r1 with
  | none=>rw[hd] at h;cases h
  | some q=>
   obtain⟨d,r2⟩:=q;have h2:=data_len hd;rw[hd] at h;simp only at h;cases ht:tl it (ns.take 16) c d with
   | none=>rw[ht] at h;cases h
   | some q=>
    rw[ht] at h;injection h with h
    injection h with _ h
    injection h with _ h
    subst h;omega
theorem stepA_len {tl:Nat→List V→Nat→List Nat→Option (V×Nat)}{ns:List V}{c it it':Nat}{l r:List Nat}{v:V}(h:stepA tl ns c it l=some (v,it',r)):r.length≤l.length:=by
 unfold stepA at h;cases hd:dataD c l with
 | none=>rw[hd] at h;cases h
 | some q=>
  obtain⟨d,r2⟩:=q;have h2:=data_len hd;rw[hd] at h;simp only at h;cases ht:tl it ns c d with
  | none=>rw[ht] at h;cases h
  | some q=>
   rw[ht] at h;injection h with h
   injection h with _ h
   injection h with _ h
   subst h;omega
structure KS (rb ib B S:Nat) (w5 wr:World) (done:List V) (L:List Nat) (it M:Nat) (Ak:Option Addr) (j ck:Nat) (xs:List Value):Prop where
 row:CS S wr Ak j ck done xs
 rdr:∃ A n c,Rdr wr rb ib B A n c L 6 it
 few:it≤1024
 up:Up rb ib w5 wr
 sz:S=w5.heap.size
 low:rb < S∧ib < S
 len:L.length≤M
theorem KS.more {rb ib B S it it' M j ck:Nat}{w5 wr w2 w9:World}{done:List V}{L r:List Nat}{Ak:Option Addr}{xs:List Value}(h:KS rb ib B S w5 wr done L it M Ak j ck xs)
  (hu:Up rb ib wr w2) (hit:it'≤1024) (hR:∃ A n c,Rdr w2 rb ib B A n c r 6 it') (hr:r.length≤L.length) {v:V} {Av:Option Addr} {lv cv:Nat} (hvk:v.kind < 256) (hvn:v.num < 18446744073709551616) (hnv:Nw wr.heap.size w2 v.kids Av lv cv)
  {g cap:Nat} (o:Obj) (hown:w9.ownsRow S 44 4 (.slice (some ⟨g,0,none⟩) (j+1) cap) (j+1) (xs++[.int .u8 (v.kind:Int),.int .u64 (v.num:Int),.string v.text,.slice Av lv cv])) (hg:(w2.alloc o).grownBy w9 (Value.slice Ak j ck).ownBlock) (hat:(Value.slice Ak j ck).ownBlock=some g∨w2.heap.size≤g) :
  KS rb ib B S w5 w9 (done++[v]) r it' M (some ⟨g,0,none⟩) (j+1) cap (xs++[.int .u8 (v.kind:Int),.int .u64 (v.num:Int),.string v.text,.slice Av lv cv]):=by
 obtain⟨vk,vn,vt,vks⟩:=v;have hl:=h.low;have hsz:=h.sz;have h5:=h.up.size;have h2:=hu.size;have hrow:=h.row.own.lt;have hold:∀ i,i < S→w9.heap[i]? = w2.heap[i]?:=fun i hi=>by
  rw[hg.block i (by simp;omega) (fun e=>by have:=hrow i e.symm;omega)];exact Below.heap_alloc _ _ _ (by omega)
 have hs9:=hg.size;simp at hs9;have hK:Val.Kids true w2 (fun i=>S≤i∧i < w2.heap.size∧(Value.slice Ak j ck).ownBlock≠some i) vks Av lv cv:=Val.Kids.mono hnv fun i hi=>⟨by omega,hi.2,fun e=>by have:=hrow i e;omega⟩;refine⟨(h.row.up hu hl.1 hl.2).push hvk hvn hK o rfl hown hg hat,?_,hit,?_,hsz,hl,Nat.le_trans hr h.len⟩
 ·obtain⟨A,n,c,hr⟩:=hR;exact⟨A,n,c,hr.keep (fun i hi=>hold i (by have:=hr.hr;rcases hi with rfl | rfl | hi<;>omega)) (by omega)⟩
 ·exact((h.up.trans hu).call ((Below.refl _ _).alloc (Nat.le_refl _) o)).grown hg (fun i e=>by have:=hrow i e;omega)
theorem Rdr.inner {w:World}{rb ib B n c sh it nd cd:Nat}{A Ad:Option Addr}{L d:List Nat}(h:Rdr w rb ib B A n c L sh it)(hr:Rd .u8 256 w B Ad nd d)(hc:nd≤cd)(hl:nd≤1099511627776) :
  Rdr (w.alloc (.cells #[.slice Ad nd cd,.int .i64 6,.pointer (some ⟨ib,0,none⟩)] 89)) w.heap.size ib B Ad nd cd d 6 it:=by
 have hb:Below w.heap.size w (w.alloc (.cells #[.slice Ad nd cd,.int .i64 6,.pointer (some ⟨ib,0,none⟩)] 89)):=(Below.refl _ _).alloc (Nat.le_refl _) _;have hli:=h.li;have hnew:=heap_alloc_new w (.cells #[.slice Ad nd cd,.int .i64 6,.pointer (some ⟨ib,0,none⟩)] 89);have hz:∀ (W:World) (b:Nat) (a:Array Value) (t:TypeId),W.heap[b]? = some (.cells a t (0,0))→∀ j,W.frozen? ⟨b,j,none⟩=false:=fun W b a t h j=>by simp[World.frozen?,h]
 exact⟨by simp,by simp,by simp,(hb.cell (p:=⟨ib,0,none⟩) hli).trans h.item,fun j=>hz _ _ _ _ hnew j,fun j=>(hb.frozen (p:=⟨ib,j,none⟩) hli).trans (h.fi j),hr.below (hb.mono h.low),hc,hl,h.low,h.hi,by omega,by simp,by simp;omega⟩
set_option maxHeartbeats 4000000 in
theorem kids_few {w:World}{rb ib B n c sh it:Nat}{A:Option Addr}{L:List Nat}(h:Rdr w rb ib B A n c L sh it){code nd cd:Nat}{d:List Nat}{Ad:Option Addr}
  (hr:Rd .u8 256 w B Ad nd d) (hc:nd≤cd) (hl:nd≤1099511627776) (hlt:d.length < sw code) :
  Calls Tryz.prog 177 #[.pointer (some ⟨rb,0,none⟩),.int .u8 (code:Int),.slice Ad nd cd] w (Fails 6 ib ib w):=by
 have h1:=h.inner hr hc hl;have hp:=h.ptr;obtain⟨W1,hW1⟩:∃ W1,w.alloc (.cells #[.slice Ad nd cd,.int .i64 6,.pointer (some ⟨ib,0,none⟩)] 89)=W1:=⟨_,rfl⟩;have hB1:Below w.heap.size w W1:=by rw[←hW1];exact(Below.refl _ _).alloc (Nat.le_refl _) _
 rw[hW1] at h1;go_enter Tryz.func177,Tryz.ntmps177;go_wp2_with (first
  | (go_at_call 152;refine(size_any code _).mono ?_;rintro e W1 ⟨rfl,rfl⟩)
  | (go_at_call 153;refine(number_no h1 (sw code) hlt).mono ?_;rintro e w2 ⟨rfl,hu2⟩))
 exact⟨rfl,rfl,Up.inner (Up.of hB1) hu2 (Nat.le_refl _)⟩
set_option maxHeartbeats 4000000 in
theorem kids_many {w:World}{rb ib B n c sh it:Nat}{A:Option Addr}{L:List Nat}(h:Rdr w rb ib B A n c L sh it){code nd cd:Nat}{d:List Nat}{Ad:Option Addr}
  (hr:Rd .u8 256 w B Ad nd d) (hc:nd≤cd) (hl:nd≤1099511627776) (hle:sw code≤d.length) (hlt:1024 < tn (d.take (sw code))) :
  Calls Tryz.prog 177 #[.pointer (some ⟨rb,0,none⟩),.int .u8 (code:Int),.slice Ad nd cd] w (Fails 6 ib ib w):=by
 have h1:=h.inner hr hc hl;have hp:=h.ptr;obtain⟨cnt,hcnt⟩:∃ cnt,tn (d.take (sw code))=cnt:=⟨_,rfl⟩;have hd:(cnt:Int) > 1024:=by omega
 have HC:=Lib.hid hcnt;obtain⟨W1,hW1⟩:∃ W1,w.alloc (.cells #[.slice Ad nd cd,.int .i64 6,.pointer (some ⟨ib,0,none⟩)] 89)=W1:=⟨_,rfl⟩;have hB1:Below w.heap.size w W1:=by rw[←hW1];exact(Below.refl _ _).alloc (Nat.le_refl _) _
 rw[hW1] at h1;clear hcnt hlt;go_enter Tryz.func177,Tryz.ntmps177;go_wp2_with (first
  | (go_at_call 152;refine(size_any code _).mono ?_;rintro e W1 ⟨rfl,rfl⟩)
  | (go_at_call 153;refine(number_ok h1 (sw code) hle).mono ?_;rintro e w2 ⟨A2,n2,c2,rfl,hR2,hu2⟩;rw[HC.out]))
 exact⟨rfl,rfl,Up.inner (Up.of hB1) hu2 (Nat.le_refl _)⟩
set_option maxHeartbeats 4000000 in
theorem kids_flat {F:Nat}(hT:Told F){w:World}{rb ib B n c sh it:Nat}{A:Option Addr}{L:List Nat}(h:Rdr w rb ib B A n c L sh it)(hit:it≤1024){code nd cd cnt:Nat}{d L0:List Nat}{Ad:Option Addr}
  (hr:Rd .u8 256 w B Ad nd d) (hc:nd≤cd) (hl:nd≤1099511627776) (hle:sw code≤d.length) (hcnt:tn (d.take (sw code))=cnt) (hL0:d.drop (sw code)=L0) (hlt:cnt≤1024) (hk:kof code≠24) (hF:d.length≤F) {R:Option (List V×Nat×List Nat)} (hR:loopN (stepV (toldN F)) cnt it L0=R) :
  Calls Tryz.prog 177 #[.pointer (some ⟨rb,0,none⟩),.int .u8 (code:Int),.slice Ad nd cd] w (KidsR ib (endL R) w):=by
 have h1:=h.inner hr hc hl;have hp:=h.ptr;have hdc:¬ (cnt:Int) > 1024:=by omega
 have hdk:((kof code:Int)==24)=false:=by simp;omega
 have hli:=h.li;have HC:=Lib.hid hcnt;have HR:=Lib.hid hR;obtain⟨M,hM⟩:∃ M,M=L0.length:=⟨_,rfl⟩;have hMF:M≤F:=by have:=congrArg List.length hL0;rw[List.length_drop] at this;omega
 have HL0:=Lib.hid hL0;obtain⟨W1,hW1⟩:∃ W1,w.alloc (.cells #[.slice Ad nd cd,.int .i64 6,.pointer (some ⟨ib,0,none⟩)] 89)=W1:=⟨_,rfl⟩;have hB1:Below w.heap.size w W1:=by rw[←hW1];exact(Below.refl _ _).alloc (Nat.le_refl _) _
 have hs1:W1.heap.size=w.heap.size+1:=by rw[←hW1];simp
 rw[hW1] at h1;have HS1:=Lib.hid hs1;have HMM:=Lib.hid hM;clear hcnt hk hR hL0 hs1 hM;go_enter Tryz.func177,Tryz.ntmps177;go_wp2_with (first
  | (go_at_call 152;refine(size_any code _).mono ?_;rintro e W1 ⟨rfl,rfl⟩)
  | (go_at_call 153;refine(number_ok h1 (sw code) hle).mono ?_;rintro e w2 ⟨A2,n2,c2,rfl,hR2,hu2⟩;rw[HC.out])
  | (go_at_call 150;refine(kind_any code _).mono ?_;rintro e w2 ⟨rfl,rfl⟩))
 rw[HL0.out] at hR2;obtain⟨W5,hW5⟩:∃ W5,w2=W5:=⟨_,rfl⟩;rw[hW5];rw[hW5] at hR2 hu2;clear hW5;obtain⟨S,hS5⟩:∃ S,S=W5.heap.size:=⟨_,rfl⟩;have hs5:=hu2.size;have hs1:=HS1.out;have hK0:KS w.heap.size ib B S W5 W5 [] L0 it M none 0 0 []:=⟨CS.nil _ _,⟨_,_,_,hR2⟩,hit,Up.refl _ _ _,hS5,by omega,Nat.le_of_eq HMM.out.symm⟩;have hUP:∀ w',Up w.heap.size ib W5 w'→Up ib ib w w':=fun w' hu=>Up.inner (Up.of hB1) (hu2.trans hu) (Nat.le_refl _);have hSS:w.heap.size≤S:=by omega
 clear hs1 hs5;go_loopg [11,31] cnt (fun g s11 s31 wr=>∃ j done it' L' Ak ck xs,j≤cnt∧g=cnt - j∧s31=.int .u64 j∧s11=.slice Ak j ck∧KS w.heap.size ib B S W5 wr done L' it' M Ak j ck xs∧R=preL done (loopN (stepV (toldN F)) (cnt - j) it' L'))
 case atStart=>exact⟨0,[],it,L0,none,0,[],Nat.zero_le _,rfl,rfl,rfl,hK0,by rw[preL_nil];exact HR.out.symm⟩
 case round=>
  obtain⟨j,done,it',L',Ak,ck,xs,hj,hgk,rfl,rfl,hS,hRL⟩:=hrel;obtain⟨A1,n1,c1,hr1⟩:=hS.rdr;have hfew:=hS.few;have hlen':=hS.len;have hlow':=hS.low;have hsz':=hS.sz;have hup':=hS.up;by_cases hlt:j < cnt
  ·have hd:(j:Int) < (cnt:Int):=by omega
   obtain⟨m,hm⟩:∃ m,cnt - j=m+1:=⟨cnt - j - 1,by omega⟩;rw[hm] at hRL;have hgk':m < gk:=by omega
   have hm':cnt - (j+1)=m:=by omega
   have HM:=Lib.hid hm';clear hm hm';have hA:=kid0_any hT hr1 hfew (Nat.le_trans hlen' hMF);cases hst:stepV (toldN F) it' L' with
   | none=>
    rw[loop_none hst] at hRL;have hRe:R=none:=hRL;have HRE:=Lib.hid hRe;rw[hst] at hA;clear hRL hRe hgk' hgk;go_wp2_with ((go_at_call 67;refine hA.mono ?_;rintro e w4 ⟨rfl,hu4⟩));rw[HRE.out];exact⟨rfl,rfl,hUP _ (hup'.trans hu4)⟩
   | some q=>
    obtain⟨v,it2,r⟩:=q;rw[loop_some hst] at hRL;rw[hst] at hA;have hrl:=stepV_len hst;have HRL:=Lib.hid hRL;have HGK:=Lib.hid hgk';have hncap:=own_cap hS.row.own;obtain⟨i0,hi,hz0,hz1,hz2⟩:=info_parts infoV;have HHS:=Lib.hid hS;have HLT:=Lib.hid hlt;clear hRL hgk' hgk hS hlt;go_wp2_with (first
     | (go_at_call 67;refine hA.mono ?_;rintro e w2 ⟨⟨Av,lv,cv,rfl,hvk,hvn,hnv⟩,hit2,hR2,hu2⟩;have hs2:=hu2.size;have hrow2:=HHS.out.row.up hu2 hlow'.1 hlow'.2)
     | (at_builtin;refine wpList_append_lies _ rfl _ _ 42 rfl S 44 i0 _ 4 56 Tryz.underlying42 hi hz0 hz1 hz2 rfl (by omega) _ _ _ rfl (hrow2.own.alloc _) ⟨w2.heap.size,0,none⟩ 1 1 [.int .u8 (v.kind:Int),.int .u64 (v.num:Int),.string v.text,.slice Av lv cv] rfl rfl (news4 _ _ _ _ _ _ _ (by simp)) (fun u hu=>(by simp at hu;rcases hu with rfl | rfl | rfl | rfl<;>rfl)) (by omega) (by unfold maxLen;omega) (by omega) (by simp;have:=hup'.size;omega) _ rfl ?_;intro g9 cap9 w9 hown9 hgrow9 hat9 _))
    go_roundg m
    case measure=>exact HGK.out
    case rel=>exact⟨j+1,done++[v],it2,r,_,_,_,HLT.out,HM.out.symm,by go_num,rfl,HHS.out.more hu2 hit2 hR2 hrl hvk hvn hnv _ hown9 hgrow9 (hat9.imp id fun h=>by simp at h;omega),by rw[HM.out];exact HRL.out⟩
  ·have hd:¬ (j:Int) < (cnt:Int):=by omega
   have hm:cnt - j=0:=by omega
   have hjc:j=cnt:=by omega
   rw[hm,loop_end] at hRL;have x9:=hr1.left;have hn1:=hr1.rd.len;clear hm hgk hlt;cases L' with
   | nil=>
    have h0:n1=0:=hn1.symm;subst h0;have HRL:=Lib.hid hRL;clear hRL hjc hn1;go_wp2;go_ret;rw[HRL.out];exact⟨⟨Ak,j,ck,rfl,hS.row.nw.less hSS⟩,hfew,hr1.item,hr1.fi,hUP _ hup'⟩
   | cons y l=>
    have hp:(n1:Int) > 0:=by simp only[List.length_cons] at hn1;omega
    have HRL:=Lib.hid hRL;clear hRL hjc hn1;go_wp2;rw[HRL.out];exact⟨rfl,rfl,hUP _ hup'⟩
set_option maxHeartbeats 4000000 in
theorem kids_head {w:World}{rb ib B n c sh it:Nat}{A:Option Addr}{L:List Nat}(h:Rdr w rb ib B A n c L sh it){code nd cd cnt:Nat}{d L1:List Nat}{Ad:Option Addr}{s:Bool}
  (hr:Rd .u8 256 w B Ad nd d) (hc:nd≤cd) (hl:nd≤1099511627776) (hle:sw code≤d.length) (hcnt:tn (d.take (sw code))=cnt) (hL1:d.drop (sw code)=L1) (hlt:cnt≤1024) (hk:kof code=24) (hH:headD L1=.error s) :
  Calls Tryz.prog 177 #[.pointer (some ⟨rb,0,none⟩),.int .u8 (code:Int),.slice Ad nd cd] w (Fails 6 ib ib w):=by
 have h1:=h.inner hr hc hl;have hp:=h.ptr;have hdc:¬ (cnt:Int) > 1024:=by omega
 have HK:=Lib.hid hk;have HC:=Lib.hid hcnt;have HL1:=Lib.hid hL1;obtain⟨W1,hW1⟩:∃ W1,w.alloc (.cells #[.slice Ad nd cd,.int .i64 6,.pointer (some ⟨ib,0,none⟩)] 89)=W1:=⟨_,rfl⟩;have hB1:Below w.heap.size w W1:=by rw[←hW1];exact(Below.refl _ _).alloc (Nat.le_refl _) _
 rw[hW1] at h1;clear hcnt hk hL1;go_enter Tryz.func177,Tryz.ntmps177;go_wp2_with (first
  | (go_at_call 152;refine(size_any code _).mono ?_;rintro e W1 ⟨rfl,rfl⟩)
  | (go_at_call 153;refine(number_ok h1 (sw code) hle).mono ?_;rintro e w2 ⟨A2,n2,c2,rfl,hR2,hu2⟩;rw[HC.out];rw[HL1.out] at hR2;have hA:=head_any hR2;rw[hH] at hA)
  | (go_at_call 150;refine(kind_any code _).mono ?_;rintro e w2 ⟨rfl,rfl⟩;rw[HK.out])
  | (go_at_call 113;refine hA.mono ?_;rintro e w3 ⟨rfl,hu3⟩))
 rw[sel_six];exact⟨rfl,rfl,Up.inner (Up.of hB1) (hu2.trans hu3) (Nat.le_refl _)⟩
set_option maxHeartbeats 4000000 in
theorem kids_array {F:Nat}(hT:Told F){w:World}{rb ib B n c sh it:Nat}{A:Option Addr}{L:List Nat}(h:Rdr w rb ib B A n c L sh it)(hit:it≤1024){code nd cd cnt:Nat}{d L1 L0:List Nat}{Ad:Option Addr}{ns ms:List V}{k:Nat}
  (hr:Rd .u8 256 w B Ad nd d) (hc:nd≤cd) (hl:nd≤1099511627776) (hle:sw code≤d.length) (hcnt:tn (d.take (sw code))=cnt) (hL1:d.drop (sw code)=L1) (hlt:cnt≤1024) (hk:kof code=24) (hH:headD L1=.ok (ns,k,L0)) (hms:ns.take 16=ms) (hF:d.length≤F) {R:Option (List V×Nat×List Nat)} (hR:loopN (stepA (toldN F) ms k) cnt it L0=R) :
  Calls Tryz.prog 177 #[.pointer (some ⟨rb,0,none⟩),.int .u8 (code:Int),.slice Ad nd cd] w (KidsR ib (endL R) w):=by
 have h1:=h.inner hr hc hl;have hp:=h.ptr;have hdc:¬ (cnt:Int) > 1024:=by omega
 have hli:=h.li;have HK:=Lib.hid hk;have HC:=Lib.hid hcnt;have HR:=Lib.hid hR;have HMS:=Lib.hid hms;obtain⟨M,hM⟩:∃ M,M=L0.length:=⟨_,rfl⟩;obtain⟨hfl,hkb,hrb,hrl⟩:=head_fl _ _ _ _ _ hH fun x hx=>hr.lim x (List.mem_of_mem_drop (hL1▸hx));have hMF:M < F:=by have:=congrArg List.length hL1;rw[List.length_drop] at this;omega
 have hfl16:∀ v∈ms,Fl v:=fun v hv=>hfl v (List.mem_of_mem_take (hms▸hv));have hln16:ms.length≤16:=by rw[←hms,List.length_take];omega
 have HL1:=Lib.hid hL1;obtain⟨W1,hW1⟩:∃ W1,w.alloc (.cells #[.slice Ad nd cd,.int .i64 6,.pointer (some ⟨ib,0,none⟩)] 89)=W1:=⟨_,rfl⟩;have hB1:Below w.heap.size w W1:=by rw[←hW1];exact(Below.refl _ _).alloc (Nat.le_refl _) _
 have hs1:W1.heap.size=w.heap.size+1:=by rw[←hW1];simp
 rw[hW1] at h1;have HS1:=Lib.hid hs1;have HMM:=Lib.hid hM;clear hcnt hk hR hL1 hs1 hM hms hfl;go_enter Tryz.func177,Tryz.ntmps177;go_wp2_with (first
  | (go_at_call 152;refine(size_any code _).mono ?_;rintro e W1 ⟨rfl,rfl⟩)
  | (go_at_call 153;refine(number_ok h1 (sw code) hle).mono ?_;rintro e w2 ⟨A2,n2,c2,rfl,hR2,hu2⟩;rw[HC.out];rw[HL1.out] at hR2;have hA:=head_any hR2;rw[hH] at hA)
  | (go_at_call 150;refine(kind_any code _).mono ?_;rintro e w2 ⟨rfl,rfl⟩;rw[HK.out])
  | (go_at_call 113;refine hA.mono ?_;rintro e w3 ⟨An,nn,cn,A3,n3,c3,rfl,hnw3,hR3,hu3⟩;rw[HMS.out] at hnw3))
 obtain⟨W5,hW5⟩:∃ W5,w3.alloc (.cells #[.slice An nn cn,.int .u8 (k:Int)] 134)=W5:=⟨_,rfl⟩;have hB5:Below w3.heap.size w3 W5:=by rw[←hW5];exact(Below.refl _ _).alloc (Nat.le_refl _) _
 have hbx5:HBox W5 w3.heap.size (.slice An nn cn) (.int .u8 (k:Int)):=by rw[←hW5];exact HBox.new _ _ _
 have hs5:W5.heap.size=w3.heap.size+1:=by rw[←hW5];simp
 rw[hW5];clear hW5;obtain⟨S,hS5⟩:∃ S,S=W5.heap.size:=⟨_,rfl⟩;obtain⟨G,hG⟩:∃ G,w3.heap.size=G:=⟨_,rfl⟩;rw[hG] at hbx5 hs5;rw[hG];have hs2:=hu2.size;have hs3:=hu3.size;have hs1:=HS1.out;have hnm5:Nms W5 w.heap.size ib ms An nn cn:=Nms.of hnw3 (by omega) (by omega) (fun i hi _ _=>hB5.block i hi) hB5.size hfl16 hln16;have hK0:KS w.heap.size ib B S W5 W5 [] L0 it M none 0 0 []:=⟨CS.nil _ _,⟨_,_,_,hR3.call hB5⟩,hit,Up.refl _ _ _,hS5,by omega,Nat.le_of_eq HMM.out.symm⟩;have hUP:∀ w',Up w.heap.size ib W5 w'→Up ib ib w w':=fun w' hu=>Up.inner (Up.of hB1) (((hu2.trans hu3).call hB5).trans hu) (Nat.le_refl _);have hSS:w.heap.size≤S:=by omega
 have hGs:G≠w.heap.size∧G≠ib∧G < S:=by omega
 have hNM:∀ {w'},Up w.heap.size ib W5 w'→Nms w' w.heap.size ib ms An nn cn:=fun {w'} hu=>⟨(hnm5.kids.keep fun i hi=>hu.block i hi.1 hi.2.1 hi.2.2).mono fun i hi=>⟨Nat.lt_of_lt_of_le hi.1 hu.size,hi.2⟩,hfl16,hnm5.few⟩;clear hs1 hs2 hs3 hG hnm5;go_loopg [11,31] cnt (fun g s11 s31 wr=>∃ j done it' L' Ak ck xs,j≤cnt∧g=cnt - j∧s31=.int .u64 j∧s11=.slice Ak j ck∧KS w.heap.size ib B S W5 wr done L' it' M Ak j ck xs∧R=preL done (loopN (stepA (toldN F) ms k) (cnt - j) it' L'))
 case atStart=>exact⟨0,[],it,L0,none,0,[],Nat.zero_le _,rfl,rfl,rfl,hK0,by rw[preL_nil];exact HR.out.symm⟩
 case round=>
  obtain⟨j,done,it',L',Ak,ck,xs,hj,hgk,rfl,rfl,hS,hRL⟩:=hrel;obtain⟨A1,n1,c1,hr1⟩:=hS.rdr;have hfew:=hS.few;have hlen':=hS.len;have hlow':=hS.low;have hsz':=hS.sz;have hup':=hS.up;by_cases hlt:j < cnt
  ·have hd:(j:Int) < (cnt:Int):=by omega
   obtain⟨m,hm⟩:∃ m,cnt - j=m+1:=⟨cnt - j - 1,by omega⟩;rw[hm] at hRL;have hgk':m < gk:=by omega
   have hm':cnt - (j+1)=m:=by omega
   have HM:=Lib.hid hm';clear hm hm';have hA:=kid1_any hT hr1 hfew (Nat.lt_of_le_of_lt hlen' hMF) (hbx5.keep (hup'.block _ hbx5.lt hGs.1 hGs.2.1)) hGs.1 hGs.2.1 (hNM hup') hkb;cases hst:stepA (toldN F) ms k it' L' with
   | none=>
    rw[loop_none hst] at hRL;have hRe:R=none:=hRL;have HRE:=Lib.hid hRe;rw[hst] at hA;clear hRL hRe hgk' hgk;go_wp2_with ((go_at_call 183;refine hA.mono ?_;rintro e w4 ⟨rfl,hu4⟩));rw[HRE.out];exact⟨rfl,rfl,hUP _ (hup'.trans hu4)⟩
   | some q=>
    obtain⟨v,it2,r⟩:=q;rw[loop_some hst] at hRL;rw[hst] at hA;have hrl:=stepA_len hst;have HRL:=Lib.hid hRL;have HGK:=Lib.hid hgk';have hncap:=own_cap hS.row.own;obtain⟨i0,hi,hz0,hz1,hz2⟩:=info_parts infoV;have HHS:=Lib.hid hS;have HLT:=Lib.hid hlt;clear hRL hgk' hgk hS hlt;go_wp2_with (first
     | (go_at_call 183;refine hA.mono ?_;rintro e w2 ⟨⟨Av,lv,cv,rfl,hvk,hvn,hnv⟩,hit2,hR2,hu2⟩;have hs2:=hu2.size;have hrow2:=HHS.out.row.up hu2 hlow'.1 hlow'.2)
     | (at_builtin;refine wpList_append_lies _ rfl _ _ 42 rfl S 44 i0 _ 4 56 Tryz.underlying42 hi hz0 hz1 hz2 rfl (by omega) _ _ _ rfl (hrow2.own.alloc _) ⟨w2.heap.size,0,none⟩ 1 1 [.int .u8 (v.kind:Int),.int .u64 (v.num:Int),.string v.text,.slice Av lv cv] rfl rfl (news4 _ _ _ _ _ _ _ (by simp)) (fun u hu=>(by simp at hu;rcases hu with rfl | rfl | rfl | rfl<;>rfl)) (by omega) (by unfold maxLen;omega) (by omega) (by simp;have:=hup'.size;omega) _ rfl ?_;intro g9 cap9 w9 hown9 hgrow9 hat9 _))
    go_roundg m
    case measure=>exact HGK.out
    case rel=>exact⟨j+1,done++[v],it2,r,_,_,_,HLT.out,HM.out.symm,by go_num,rfl,HHS.out.more hu2 hit2 hR2 hrl hvk hvn hnv _ hown9 hgrow9 (hat9.imp id fun h=>by simp at h;omega),by rw[HM.out];exact HRL.out⟩
  ·have hd:¬ (j:Int) < (cnt:Int):=by omega
   have hm:cnt - j=0:=by omega
   have hjc:j=cnt:=by omega
   rw[hm,loop_end] at hRL;have x9:=hr1.left;have hn1:=hr1.rd.len;clear hm hgk hlt;cases L' with
   | nil=>
    have h0:n1=0:=hn1.symm;subst h0;have HRL:=Lib.hid hRL;clear hRL hjc hn1;go_wp2;go_ret;rw[HRL.out];exact⟨⟨Ak,j,ck,rfl,hS.row.nw.less hSS⟩,hfew,hr1.item,hr1.fi,hUP _ hup'⟩
   | cons y l=>
    have hp:(n1:Int) > 0:=by simp only[List.length_cons] at hn1;omega
    have HRL:=Lib.hid hRL;clear hRL hjc hn1;go_wp2;rw[HRL.out];exact⟨rfl,rfl,hUP _ hup'⟩
theorem kids_any {F:Nat}(hT:Told F){w:World}{rb ib B n c sh it:Nat}{A:Option Addr}{L:List Nat}(h:Rdr w rb ib B A n c L sh it)(hit:it≤1024){code nd cd:Nat}{d:List Nat}{Ad:Option Addr}
  (hr:Rd .u8 256 w B Ad nd d) (hc:nd≤cd) (hl:nd≤1099511627776) (hF:d.length≤F) :
  Calls Tryz.prog 177 #[.pointer (some ⟨rb,0,none⟩),.int .u8 (code:Int),.slice Ad nd cd] w (KidsR ib (kidsD (toldN F) code it d) w):=by
 unfold kidsD;by_cases h0:d.length < sw code
 ·rw[if_pos h0];exact kids_few h hr hc hl h0
 rw[if_neg h0];by_cases h1:1024 < tn (d.take (sw code))
 ·rw[if_pos h1];exact kids_many h hr hc hl (by omega) h1
 rw[if_neg h1];by_cases hk:kof code=24
 ·rw[if_pos hk];cases hH:headD (d.drop (sw code)) with
  | error s=>exact kids_head h hr hc hl (by omega) rfl rfl (by omega) hk hH
  | ok p=>
   obtain⟨ns,k,L0⟩:=p;exact kids_array hT h hit hr hc hl (by omega) rfl rfl (by omega) hk hH rfl hF rfl
 ·rw[if_neg hk];exact kids_flat hT h hit hr hc hl (by omega) rfl rfl (by omega) hk hF rfl
end Go.Proofs.YtcilmmdmkpnppaaGreatDoor.Dec
namespace Go.Proofs.YtcilmmdmkpnppaaGreatDoor.Dec
set_option maxRecDepth 100000
open Go.RowKit Utf Val V
def aloneD (tl:Nat→List V→Nat→List Nat→Option (V×Nat))(it c:Nat)(d:List Nat):Option (V×Nat):=
 if kof c < 22 then some (plainV c d,it)
 else match kidsD tl c it d with
  | none=>none
  | some (vs,it')=>some (.mk (kof c) 0 ⟨#[]⟩ vs,it')
theorem told_succ (F it:Nat)(ns:List V)(c:Nat)(d:List Nat):toldN (F+1) it ns c d=if 1024 < it+1+2 * ns.length then none else match aloneD (toldN F) (it+1+2 * ns.length) c d with
  | none=>none
  | some (v,it')=>some (calledV ns v,it'):=by
 rw[toldN];unfold aloneD;by_cases h:1024 < it+1+2 * ns.length
 ·rw[if_pos h,if_pos h]
 ·rw[if_neg h,if_neg h];by_cases hk:kof c < 22
  ·rw[if_pos hk,if_pos hk]
  ·rw[if_neg hk,if_neg hk];cases kidsD (toldN F) c (it+1+2 * ns.length) d with
   | none=>rfl
   | some p=>rfl
def AloneR (ib:Nat)(R:Option (V×Nat))(w:World)(e:Ending)(w':World):Prop:=
 match R with
 | none=>Fails 6 ib ib w e w'
 | some (v,it')=>GotV w.heap.size v e w'∧it'≤1024∧w'.cell? ⟨ib,0,none⟩=some (.int .i64 (it':Int))∧(∀ j,w'.frozen? ⟨ib,j,none⟩=false)∧Up ib ib w w'
theorem cell_far4 {w:World}{g p:Nat}(h:p≠g)(a b c d:Value)(j:Nat):((((w.setCell ⟨g,0,none⟩ a).setCell ⟨g,1,none⟩ b).setCell ⟨g,2,none⟩ c).setCell ⟨g,3,none⟩ d).cell? ⟨p,j,none⟩=w.cell? ⟨p,j,none⟩:=
 World.cell?_of_block (heap_four w g a b c d p h)
theorem frozen_far4 {w:World}{g p:Nat}(h:p≠g)(a b c d:Value)(j:Nat):((((w.setCell ⟨g,0,none⟩ a).setCell ⟨g,1,none⟩ b).setCell ⟨g,2,none⟩ c).setCell ⟨g,3,none⟩ d).frozen? ⟨p,j,none⟩=w.frozen? ⟨p,j,none⟩:=
 World.frozen?_of_block (heap_four w g a b c d p h)
set_option maxHeartbeats 2000000 in
theorem alone_any {F:Nat}(hT:Told F){w:World}{rb ib B n c sh it:Nat}{A:Option Addr}{L:List Nat}(h:Rdr w rb ib B A n c L sh it)(hit:it≤1024){code nd cd:Nat}{d:List Nat}{Ad:Option Addr}
  (hr:Rd .u8 256 w B Ad nd d) (hc:nd≤cd) (hl:nd≤1099511627776) (hF:d.length≤F) :
  Calls Tryz.prog 151 #[.pointer (some ⟨rb,0,none⟩),.int .u8 (code:Int),.slice Ad nd cd] w (AloneR ib (aloneD (toldN F) it code d) w):=by
 have hlr:=h.lr;have hli:=h.li;have hlow:=h.low;obtain⟨W0,hW0⟩:∃ W0,w.alloc (.cells #[.int .u8 0,.int .u64 0,.string ⟨#[]⟩,.slice none 0 0] 44)=W0:=⟨_,rfl⟩;have hB0:Below w.heap.size w W0:=by rw[←hW0];exact(Below.refl _ _).alloc (Nat.le_refl _) _
 have hbr:Box W0 w.heap.size (.int .u8 0) (.int .u64 0) (.string ⟨#[]⟩) (.slice none 0 0):=by rw[←hW0];exact Box.new _ _ _ _ _
 have hs0:W0.heap.size=w.heap.size+1:=by rw[←hW0];simp
 have h0:=h.call hB0;have hr0:=hr.below (hB0.mono hlow);have hU0:Up ib ib w W0:=Up.of hB0;have HS0:=Lib.hid hs0;unfold aloneD;by_cases hk:kof code < 22
 ·rw[if_pos hk];have hdk:¬ ((kof code:Int) ≥ 22):=by omega
  have hfl:=plain_fl code d hr.lim;clear hk hs0;go_enter Tryz.func151,Tryz.ntmps151;go_wp2_with (first
   | (go_at_call 150;refine(kind_any code _).mono ?_;rintro e w' ⟨rfl,rfl⟩)
   | (go_at_call 175;refine(plain_any (cc:=cd) hr0 h0.low).mono ?_;rintro e w3 ⟨rfl,hb3⟩;have hbz:=hbr.call hb3;obtain⟨z0,z1,z2,z3,zf⟩:=hbz.all))
  have hs0:=HS0.out;have hs3:=hb3.size;have hr3:=h0.call hb3;refine bodyPost_ret (v:=.agg #[.int .u8 ((plainV code d).kind:Int),.int .u64 ((plainV code d).num:Int),.string (plainV code d).text,.slice none 0 0]) (by simp[results,Tryz.results151,go_sem,z0,z1,z2,z3]) rfl ?_;exact⟨⟨none,0,0,rfl,hfl.kind,hfl.num,by rw[hfl.kids];exact Val.Kids.none_ _ _ _ _ _⟩,hit,(cell_far4 (by omega) _ _ _ _ _).trans hr3.item,fun j=>(frozen_far4 (by omega) _ _ _ _ _).trans (hr3.fi j),up_set4 (hU0.call hb3) (Nat.le_refl _) _ _ _ _⟩
 ·rw[if_neg hk];have hdk:(kof code:Int) ≥ 22:=by omega
  have hk24:=kof_le code;have hA:=kids_any hT h0 hit (code:=code) hr0 hc hl hF;clear hk hs0;cases hR:kidsD (toldN F) code it d with
  | none=>
   rw[hR] at hA;simp only;go_enter Tryz.func151,Tryz.ntmps151;go_wp2_with (first
    | (go_at_call 150;refine(kind_any code _).mono ?_;rintro e w' ⟨rfl,rfl⟩)
    | (go_at_call 177;refine hA.mono ?_;rintro e w3 ⟨rfl,hu3⟩))
   exact⟨rfl,rfl,hU0.trans hu3⟩
  | some p=>
   obtain⟨vs,it'⟩:=p;rw[hR] at hA;simp only;go_enter Tryz.func151,Tryz.ntmps151;go_wp2_with (first
    | (go_at_call 150;refine(kind_any code _).mono ?_;rintro e w' ⟨rfl,rfl⟩)
    | (go_at_call 177;refine hA.mono ?_;rintro e w3 ⟨⟨Ak,nk,ck,rfl,hnw⟩,hit3,hi3,hf3,hu3⟩;have hbz:=Box.up hbr hu3 (by omega) (by omega);obtain⟨z0,z1,z2,z3,zf⟩:=hbz.all))
   have hs0:=HS0.out;have hs3:=hu3.size;refine bodyPost_ret (v:=.agg #[.int .u8 (kof code:Int),.int .u64 0,.string ⟨#[]⟩,.slice Ak nk ck]) (by simp[results,Tryz.results151,go_sem,z0,z1,z2,z3]) rfl ?_;exact⟨⟨Ak,nk,ck,rfl,(by show kof code < 256;omega),(by show 0 < 18446744073709551616;omega),Nw.less (Nw_four hnw (by omega) _ _ _ _) (by omega)⟩,hit3,(cell_far4 (by omega) _ _ _ _ _).trans hi3,fun j=>(frozen_far4 (by omega) _ _ _ _ _).trans (hf3 j),up_set4 (hU0.trans hu3) (Nat.le_refl _) _ _ _ _⟩
end Go.Proofs.YtcilmmdmkpnppaaGreatDoor.Dec
namespace Go.Proofs.YtcilmmdmkpnppaaGreatDoor.Dec
set_option maxRecDepth 100000
open Go.RowKit Utf Val V
theorem called_snoc:∀ (l:List V) (x v:V),calledV (l++[x]) v=calledV l (.mk 25 0 ⟨#[]⟩ [x,v])
 | [],_,_=>rfl
 | y::l,x,v=>by simp only[List.cons_append,calledV,called_snoc l x v]
theorem Rdr.items {w w':World}{rb ib B n c sh it it':Nat}{A:Option Addr}{L:List Nat}(h:Rdr w rb ib B A n c L sh it)(hu:Up ib ib w w')(hi:w'.cell? ⟨ib,0,none⟩=some (.int .i64 (it':Int)))(hf:∀ j,w'.frozen? ⟨ib,j,none⟩=false):Rdr w' rb ib B A n c L sh it':=by
 have hlr:=h.lr;have hli:=h.li;have hne:=h.ne;have hib:=h.hi;have c1:∀ j,w'.cell? ⟨rb,j,none⟩=w.cell? ⟨rb,j,none⟩:=fun j=>hu.cell hlr hne hne j;exact⟨(c1 0).trans h.left,(c1 1).trans h.short,(c1 2).trans h.ptr,hi,fun j=>(World.frozen?_of_block (w:=w) (hu.block rb hlr hne hne)).trans (h.fr j),hf,
  h.rd.keep fun p hp=>World.cell?_of_block (w:=w) (hu.block p.block (by have:=h.low;omega) (by omega) (by omega)),h.cap,h.lim,h.hr,h.hi,h.ne,Nat.lt_of_lt_of_le h.lr hu.size,Nat.lt_of_lt_of_le h.li hu.size⟩
theorem pair_new {w w':World}{P Q:Nat→Prop}{k n k' n':Nat}{t t':ByteArray}{ks ks':List V}{A A':Option Addr}{l c l' c' g:Nat}(hk:k < 256)(hn:n < 18446744073709551616)(hk':k' < 256)(hn':n' < 18446744073709551616)
  (hK:Val.Kids true w P ks A l c) (hK':Val.Kids true w P ks' A' l' c') (hkeep:∀ i,P i→w'.heap[i]? = w.heap[i]?) (hPQ:∀ i,P i→Q i) (hg:Q g)
  (hnew:w'.heap[g]? = some (.cells #[.int .u8 k,.int .u64 n,.string t,.slice A l c,.int .u8 k',.int .u64 n',.string t',.slice A' l' c'] 44 (0,0))) :
  Val.Kids true w' Q [.mk k n t ks,.mk k' n' t' ks'] (some ⟨g,0,none⟩) 2 2:=by
 have hc:∀ j,w'.cell? ⟨g,j,none⟩=(#[.int .u8 k,.int .u64 n,.string t,.slice A l c,.int .u8 k',.int .u64 n',.string t',.slice A' l' c']:Array Value)[j]?:=fun j=>by simp[World.cell?,hnew]
 refine⟨rfl,Nat.le_refl _,fun _=>⟨g,0,rfl,hg,fun _=>⟨_,hnew⟩,?_⟩⟩;exact⟨repV_iff.2 ⟨A,l,c,by rw[hc];rfl,by rw[hc];rfl,by rw[hc];rfl,by rw[hc];rfl,hk,hn,(hK.keep hkeep).mono hPQ⟩,repV_iff.2 ⟨A',l',c',by rw[hc];rfl,by rw[hc];rfl,by rw[hc];rfl,by rw[hc];rfl,hk',hn',(hK'.keep hkeep).mono hPQ⟩,trivial⟩
structure TS (w wr:World) (ib it G:Nat) (ns:List V) (An:Option Addr) (nn cn code:Nat) (v:V) (Av:Option Addr) (lv cv:Nat):Prop where
 hd:HBox wr w.heap.size (.slice An nn cn) (.int .u8 (code:Int))
 res:Box wr (w.heap.size+1) (.int .u8 0) (.int .u64 0) (.string ⟨#[]⟩) (.slice none 0 0)
 box:Box wr G (.int .u8 (v.kind:Int)) (.int .u64 (v.num:Int)) (.string v.text) (.slice Av lv cv)
 far:w.heap.size+1 < G
 kd:v.kind < 256
 nm:v.num < 18446744073709551616
 kids:Val.Kids true wr (fun i=>w.heap.size+2≤i∧i < wr.heap.size∧i≠G) v.kids Av lv cv
 item:wr.cell? ⟨ib,0,none⟩=some (.int .i64 (it:Int))
 fi:∀ j,wr.frozen? ⟨ib,j,none⟩=false
 up:Up ib ib w wr
 low:ib < w.heap.size
theorem TS.more {w wr:World}{ib it G:Nat}{ns:List V}{An:Option Addr}{nn cn code:Nat}{v:V}{Av:Option Addr}{lv cv:Nat}(h:TS w wr ib it G ns An nn cn code v Av lv cv){k n:Nat}{t:ByteArray}{A':Option Addr}{c':Nat}(hk:k < 256)(hn:n < 18446744073709551616) :
  TS w (((((wr.setCell ⟨G,0,none⟩ (.int .u8 25)).setCell ⟨G,1,none⟩ (.int .u64 0)).setCell ⟨G,2,none⟩ (.string ⟨#[]⟩)).setCell ⟨G,3,none⟩ (.slice (some ⟨wr.heap.size,0,none⟩) 2 2)).alloc (.cells #[.int .u8 k,.int .u64 n,.string t,.slice A' 0 c',.int .u8 (v.kind:Int),.int .u64 (v.num:Int),.string v.text,.slice Av lv cv] 44)).drew ib it G ns An nn cn code (.mk 25 0 ⟨#[]⟩ [.mk k n t [],v]) (some ⟨wr.heap.size,0,none⟩) 2 2:=by
 have hf:=h.far;have hl:=h.low;have hg:=h.box.lt;have hs:=h.up.size;obtain⟨w1,hw1⟩:∃ w1,(((wr.setCell ⟨G,0,none⟩ (.int .u8 25)).setCell ⟨G,1,none⟩ (.int .u64 0)).setCell ⟨G,2,none⟩ (.string ⟨#[]⟩)).setCell ⟨G,3,none⟩ (.slice (some ⟨wr.heap.size,0,none⟩) 2 2)=w1:=⟨_,rfl⟩;have hs1:w1.heap.size=wr.heap.size:=by rw[←hw1];exact size_four _ _ _ _ _ _
 have h1:∀ i,i≠G→w1.heap[i]? = wr.heap[i]?:=fun i hi=>by rw[←hw1];exact heap_four _ _ _ _ _ _ i hi
 have hbx:Box w1 G (.int .u8 25) (.int .u64 0) (.string ⟨#[]⟩) (.slice (some ⟨wr.heap.size,0,none⟩) 2 2):=by rw[←hw1];exact Box.set4 h.box _ _ _ _
 have hup:Up ib ib w w1:=by rw[←hw1];exact up_set4 h.up (by omega) _ _ _ _
 rw[hw1];obtain⟨w2,hw2⟩:∃ w2,(w1.alloc (.cells #[.int .u8 k,.int .u64 n,.string t,.slice A' 0 c',.int .u8 (v.kind:Int),.int .u64 (v.num:Int),.string v.text,.slice Av lv cv] 44)).drew=w2:=⟨_,rfl⟩;have hb2:Below w1.heap.size w1 w2:=by subst hw2;exact((Below.refl _ _).alloc (Nat.le_refl _) _).drew
 have hs2:w2.heap.size=wr.heap.size+1:=by subst hw2;show (w1.alloc _).heap.size=_;simp[hs1]
 have hold:∀ i,i < wr.heap.size→i≠G→w2.heap[i]? = wr.heap[i]?:=fun i hi hG=>(hb2.block i (by omega)).trans (h1 i hG);have hnew:w2.heap[wr.heap.size]? = some (.cells #[.int .u8 k,.int .u64 n,.string t,.slice A' 0 c',.int .u8 (v.kind:Int),.int .u64 (v.num:Int),.string v.text,.slice Av lv cv] 44 (0,0)):=by subst hw2;rw[←hs1];exact heap_alloc_new w1 _
 rw[hw2];obtain⟨vk,vn,vt,vks⟩:=v;refine⟨h.hd.keep (hold _ h.hd.lt (by omega)),(hold _ h.res.lt (by omega)).trans h.res,(hb2.block _ (by omega)).trans hbx,hf,(by show 25 < 256;omega),(by show 0 < 18446744073709551616;omega),?_,?_,?_,hup.call hb2,hl⟩
 ·exact pair_new (w:=wr) hk hn h.kd h.nm (Val.Kids.none_ _ _ _ _ _) h.kids (fun i hi=>hold i hi.2.1 hi.2.2) (fun i hi=>⟨hi.1,by omega,hi.2.2⟩) ⟨by omega,by omega,by omega⟩ hnew
 ·exact(World.cell?_of_block (w:=wr) (hold ib (by omega) (by omega))).trans h.item
 ·exact fun j=>(World.frozen?_of_block (w:=wr) (hold ib (by omega) (by omega))).trans (h.fi j)
section
variable {w:World} {rb ib B n c sh it:Nat} {A:Option Addr} {L:List Nat} {ns:List V} {An:Option Addr} {nn cn code:Nat} {d:List Nat} {Ad:Option Addr} {nd cd:Nat}
def cntW (w:World)(ib T:Nat)(An:Option Addr)(nn cn code:Nat):World:=
 (((w.alloc (.cells #[.slice An nn cn,.int .u8 (code:Int)] 134)).alloc (.cells #[.int .u8 0,.int .u64 0,.string ⟨#[]⟩,.slice none 0 0] 44)).setCell ⟨ib,0,none⟩ (.int .i64 (T:Int))).drew
theorem cnt_size (w:World)(ib T:Nat)(An:Option Addr)(nn cn code:Nat):(cntW w ib T An nn cn code).heap.size=w.heap.size+2:=by simp[cntW]
theorem cnt_below (w:World)(An:Option Addr)(nn cn code:Nat):Below w.heap.size w ((w.alloc (.cells #[.slice An nn cn,.int .u8 (code:Int)] 134)).alloc (.cells #[.int .u8 0,.int .u64 0,.string ⟨#[]⟩,.slice none 0 0] 44)):=
 ((Below.refl _ w).alloc (Nat.le_refl _) _).alloc (by simp) _
theorem cnt_rdr (h:Rdr w rb ib B A n c L sh it)(T:Nat):Rdr (cntW w ib T An nn cn code) rb ib B A n c L sh T:=((h.call (cnt_below w An nn cn code)).setItem T).call (Below.refl _ _).drew
theorem cnt_up (T:Nat):Up ib ib w (cntW w ib T An nn cn code):=((Up.of (cnt_below w An nn cn code)).setA 0 _).call (Below.refl _ _).drew
theorem cnt_hd (h:ib < w.heap.size)(T:Nat):HBox (cntW w ib T An nn cn code) w.heap.size (.slice An nn cn) (.int .u8 (code:Int)):=
 ((HBox.new w (.slice An nn cn) (.int .u8 (code:Int))).keep (w':=(w.alloc (.cells #[.slice An nn cn,.int .u8 (code:Int)] 134)).alloc (.cells #[.int .u8 0,.int .u64 0,.string ⟨#[]⟩,.slice none 0 0] 44)) (Below.heap_alloc _ _ _ (by simp))).keep (Below.heap_setCell _ ⟨ib,0,none⟩ (.int .i64 (T:Int)) _ (by simp;omega))
theorem cnt_res (h:ib < w.heap.size)(T:Nat):Box (cntW w ib T An nn cn code) (w.heap.size+1) (.int .u8 0) (.int .u64 0) (.string ⟨#[]⟩) (.slice none 0 0):=
 (Below.heap_setCell ((w.alloc (.cells #[.slice An nn cn,.int .u8 (code:Int)] 134)).alloc (.cells #[.int .u8 0,.int .u64 0,.string ⟨#[]⟩,.slice none 0 0] 44)) ⟨ib,0,none⟩ (.int .i64 (T:Int)) _ (by simp;omega)).trans (Box.new2 w _ _ _ _ _)
set_option maxHeartbeats 2000000 in
theorem told_many (h:Rdr w rb ib B A n c L sh it)(hit:it≤1024)(hn16:nn≤16)(hm:1024 < it+1+2 * nn) :
  Calls Tryz.prog 114 #[.pointer (some ⟨rb,0,none⟩),.agg #[.slice An nn cn,.int .u8 (code:Int)],.slice Ad nd cd] w (Fails 6 ib ib w):=by
 obtain⟨T,hT⟩:∃ T:Nat,it+1+2 * nn=T:=⟨_,rfl⟩;obtain⟨W3,hW3⟩:∃ W3,(((w.alloc (.cells #[.slice An nn cn,.int .u8 (code:Int)] 134)).alloc (.cells #[.int .u8 0,.int .u64 0,.string ⟨#[]⟩,.slice none 0 0] 44)).setCell ⟨ib,0,none⟩ (.int .i64 (T:Int))).drew=W3:=⟨_,rfl⟩;have hR:Rdr W3 rb ib B A n c L sh T:=hW3▸cnt_rdr h T;have hU:Up ib ib w W3:=hW3▸cnt_up T;have hH:=h.call (cnt_below w An nn cn code).drew;have e1:IntKind.i64.wrap (2 * (nn:Int))=2 * (nn:Int):=by rw[IntKind.wrap_i64];omega
 have e2:IntKind.i64.wrap (1+2 * (nn:Int))=1+2 * (nn:Int):=by rw[IntKind.wrap_i64];omega
 have e3:IntKind.i64.wrap ((it:Int)+(1+2 * (nn:Int)))=(T:Int):=by rw[IntKind.wrap_i64];omega
 have hgt:(T:Int) > 1024:=by omega
 have x0:=hH.ptr;have x1:=hH.item;have x2:=hH.fi 0;have y0:=hR.ptr;have y1:=hR.item;have HW:=Lib.hid hW3;clear hT hm hH hit hn16 hW3;go_enter Tryz.func114,Tryz.ntmps114;go_wp2;go_region;rw[HW.out];go_wp2;exact⟨rfl,rfl,hU⟩
set_option maxHeartbeats 4000000 in
theorem told_ok {F:Nat}(hT:Told F)(h:Rdr w rb ib B A n c L sh it)(hN:Nms w rb ib ns An nn cn)(hr:Rd .u8 256 w B Ad nd d)(hc:nd≤cd)(hl:nd≤1099511627776)(hF:d.length≤F){T:Nat}(hTn:it+1+2 * ns.length=T)(hT1024:T≤1024) :
  Calls Tryz.prog 114 #[.pointer (some ⟨rb,0,none⟩),.agg #[.slice An nn cn,.int .u8 (code:Int)],.slice Ad nd cd] w (ToldR rb ib B A n c L sh (match aloneD (toldN F) T code d with | none=>none | some (v,it')=>some (calledV ns v,it')) w):=by
 obtain⟨W3,hW3⟩:∃ W3,(((w.alloc (.cells #[.slice An nn cn,.int .u8 (code:Int)] 134)).alloc (.cells #[.int .u8 0,.int .u64 0,.string ⟨#[]⟩,.slice none 0 0] 44)).setCell ⟨ib,0,none⟩ (.int .i64 (T:Int))).drew=W3:=⟨_,rfl⟩;have hnl:nn=ns.length:=hN.kids.len;have hn16:=hN.few;have hli:=h.li;have hlr:=h.lr;have hlow:=h.low;have hR:Rdr W3 rb ib B A n c L sh T:=hW3▸cnt_rdr h T;have hU:Up ib ib w W3:=hW3▸cnt_up T;have hbh:HBox W3 w.heap.size (.slice An nn cn) (.int .u8 (code:Int)):=hW3▸cnt_hd hli T;have hbz:Box W3 (w.heap.size+1) (.int .u8 0) (.int .u64 0) (.string ⟨#[]⟩) (.slice none 0 0):=hW3▸cnt_res hli T;have hs3:W3.heap.size=w.heap.size+2:=hW3▸cnt_size w ib T An nn cn code;have hr3:Rd .u8 256 W3 B Ad nd d:=hr.below (hU.below h.hi h.hi hlow);have hH:=h.call (cnt_below w An nn cn code).drew;have e1:IntKind.i64.wrap (2 * (nn:Int))=2 * (nn:Int):=by rw[IntKind.wrap_i64];omega
 have e2:IntKind.i64.wrap (1+2 * (nn:Int))=1+2 * (nn:Int):=by rw[IntKind.wrap_i64];omega
 have e3:IntKind.i64.wrap ((it:Int)+(1+2 * (nn:Int)))=(T:Int):=by rw[IntKind.wrap_i64];omega
 have hgt:¬ (T:Int) > 1024:=by omega
 have x0:=hH.ptr;have x1:=hH.item;have x2:=hH.fi 0;have y0:=hR.ptr;have y1:=hR.item;obtain⟨y3,y4,_⟩:=hbh.all;have hA:=alone_any hT hR hT1024 (code:=code) hr3 hc hl hF;have HW:=Lib.hid hW3;have HS3:=Lib.hid hs3;have HNL:=Lib.hid hnl;clear hTn hT1024 hH hW3 hs3 hnl hli hlr hlow;cases hal:aloneD (toldN F) T code d with
 | none=>
  rw[hal] at hA;go_enter Tryz.func114,Tryz.ntmps114;go_wp2;go_region;rw[HW.out];go_wp2_with ((go_at_call 151;refine hA.mono ?_;rintro e w4 ⟨rfl,hu4⟩));exact⟨rfl,rfl,hU.trans hu4⟩
 | some p=>
  obtain⟨v0,it'⟩:=p;rw[hal] at hA;obtain⟨VV,hVV⟩:∃ VV,calledV ns v0=VV:=⟨_,rfl⟩
  show Calls _ _ _ _ (ToldR rb ib B A n c L sh (some (calledV ns v0,it')) w)
  rw[hVV];have HVV:Hid (calledV (ns.take nn) v0=VV):=Lib.hid (by rw[List.take_of_length_le (by have:=HNL.out;omega)];exact hVV);clear hVV;have hw0:IntKind.i64.wrap ((nn:Int) - 1)=(nn:Int) - 1:=by rw[IntKind.wrap_i64];omega
  go_enter Tryz.func114,Tryz.ntmps114;go_wp2;go_region;rw[HW.out];go_wp2_with ((go_at_call 151;refine hA.mono ?_;rintro e w4 ⟨⟨Av,lv,cv,rfl,hvk,hvn,hnv⟩,hit4,hi4,hf4,hu4⟩;have hb4:=(HBox.up hbh hu4 (Nat.ne_of_gt h.li) (Nat.ne_of_gt h.li)).keep (w':=w4.alloc (.cells #[.int .u8 (v0.kind:Int),.int .u64 (v0.num:Int),.string v0.text,.slice Av lv cv] 44)) (Below.heap_alloc _ _ _ (by have:=hbh.lt;have:=hu4.size;omega));obtain⟨y5,y6,_⟩:=hb4.all));have hs4:=hu4.size;have hs3:=HS3.out;have hli:=h.li;have hlr:=h.lr;have hlow:=h.low;obtain⟨W5,hW5⟩:∃ W5,w4.alloc (.cells #[.int .u8 (v0.kind:Int),.int .u64 (v0.num:Int),.string v0.text,.slice Av lv cv] 44)=W5:=⟨_,rfl⟩;obtain⟨G,hG⟩:∃ G,w4.heap.size=G:=⟨_,rfl⟩;have hB5:Below w4.heap.size w4 W5:=by rw[←hW5];exact(Below.refl _ _).alloc (Nat.le_refl _) _
  have hs5:W5.heap.size=G+1:=by rw[←hW5,←hG];simp
  have hTS:TS w W5 ib it' G ns An nn cn code v0 Av lv cv:=
   ⟨by rw[←hW5];exact hb4,(hB5.block _ (by omega)).trans (Box.up hbz hu4 (by omega) (by omega)),by rw[←hW5,←hG];exact Box.new _ _ _ _ _,by omega,hvk,hvn,(hnv.keep fun i hi=>hB5.block i hi.2).mono fun i hi=>⟨by omega,by omega,by omega⟩,(hB5.cell (p:=⟨ib,0,none⟩) (by show ib < _;omega)).trans hi4,fun j=>(hB5.frozen (p:=⟨ib,j,none⟩) (by show ib < _;omega)).trans (hf4 j),(hU.trans hu4).call hB5,hli⟩
  rw[hW5,hG];clear hW5 hG hb4 y5 y6 hs3 hs4 hB5 hnv hi4 hf4 hvk hvn hli hlr hlow;go_loopg [8] nn (fun g s8 wr=>∃ (v:V) (Av:Option Addr) (lv cv:Nat),g≤nn∧s8=.int .i64 ((g:Int) - 1)∧TS w wr ib it' G ns An nn cn code v Av lv cv∧calledV (ns.take g) v=VV)
  case atStart=>exact⟨v0,Av,lv,cv,Nat.le_refl _,rfl,hTS,HVV.out⟩
  case round=>
   obtain⟨v,Av,lv,cv,hgn,rfl,hS,hV⟩:=hrel;have hlow:=hS.low;have HLOW:=Lib.hid hlow;clear hlow;clear hTS;obtain⟨z0,z1,_⟩:=hS.hd.all;obtain⟨b0,b1,b2,b3,bf⟩:=hS.box.all;obtain⟨q0,q1,q2,q3,qf⟩:=hS.res.all;have hGl:=hS.box.lt;have hfar:=hS.far;cases gk with
   | zero=>
    rw[List.take_zero] at hV;have hV:v=VV:=hV;subst hV;have hfar':G≠w.heap.size+1:=by omega
    go_wp2;refine bodyPost_ret (v:=.agg #[.int .u8 (v.kind:Int),.int .u64 (v.num:Int),.string v.text,.slice Av lv cv]) (by simp[results,Tryz.results114,go_sem,q0,q1,q2,q3]) rfl ?_;have hlow:=HLOW.out;have hup:=up_set4 (hS.up) (g:=w.heap.size+1) (by omega) (.int .u8 (v.kind:Int)) (.int .u64 (v.num:Int)) (.string v.text) (.slice Av lv cv);refine⟨⟨Av,lv,cv,rfl,hS.kd,hS.nm,?_⟩,hit4,h.items hup ((cell_far4 (by omega) _ _ _ _ _).trans hS.item) fun j=>(frozen_far4 (by omega) _ _ _ _ _).trans (hS.fi j),hup⟩;exact(hS.kids.keep fun i hi=>heap_four _ _ _ _ _ _ i (by omega)).mono fun i hi=>⟨by omega,by rw[size_four];exact hi.2.1⟩
   | succ m=>
    have hmn:m < nn:=by omega
    have em:(((m+1:Nat):Int)) - 1=(m:Int):=by omega
    rw[em];have hm0:(m:Int) ≥ 0:=by omega
    have hN':Val.Kids true wr (fun i=>i < w.heap.size∧i≠rb∧i≠ib) ns An nn cn:=hN.kids.keep fun i hi=>hS.up.block i hi.1 hi.2.2 hi.2.2;obtain⟨b,o,k,n',t,ks',A',l',c',hAn,hP,hx,h0,h1,h2,h3,hk',hn',hK'⟩:=hN'.at_ hmn;subst hAn;have hks:ks'=[]:=(hN.fl _ (List.mem_of_getElem? hx)).kids;subst hks;have hl0:l'=0:=hK'.len;subst hl0;have hxm:calledV (ns.take m) (.mk 25 0 ⟨#[]⟩ [.mk k n' t [],v])=VV:=by rw[←called_snoc,←hV];congr 1;rw[List.take_add_one,hx];rfl
    have HX:=Lib.hid hxm;have hw1:IntKind.i64.wrap ((m:Int) - 1)=(m:Int) - 1:=by rw[IntKind.wrap_i64];omega
    have hmi:(m:Int) < (nn:Int):=by omega
    clear hxm hV em hx;go_wp2;go_region;go_wp2;go_roundg m
    case measure=>omega
    case rel=>exact⟨_,_,_,_,by omega,rfl,hS.more hk' hn',HX.out⟩
theorem told_step {F:Nat}(hT:Told F):Told (F+1):=⟨fun w rb ib B n c sh it A L ns An nn cn code d Ad nd cd h hit hN _ hr hc hl hF=>by
 rw[told_succ];have hnl:nn=ns.length:=hN.kids.len;by_cases hm:1024 < it+1+2 * ns.length
 ·rw[if_pos hm];exact told_many h hit hN.few (by omega)
 ·rw[if_neg hm];exact told_ok hT h hN hr hc hl (by omega) rfl (by omega)⟩
end
theorem told_any:∀ F:Nat,Told F
 | 0=>⟨fun _ _ _ _ _ _ _ _ _ _ _ _ _ _ _ _ _ _ _ _ _ _ _ _ _ _ hF=>absurd hF (Nat.not_lt_zero _)⟩
 | F+1=>told_step (told_any F)
end Go.Proofs.YtcilmmdmkpnppaaGreatDoor.Dec
