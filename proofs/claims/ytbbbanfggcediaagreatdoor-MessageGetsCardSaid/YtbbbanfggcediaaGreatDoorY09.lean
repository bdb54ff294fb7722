/- Contracts, each with its premises. -/
import Derived.Test.YtbbbanfggcediaaGreatDoorY08
set_option maxRecDepth 100000
set_option maxHeartbeats 8000000
namespace Go.Proofs.YtbbbanfggcediaaGreatDoor
open _root_.Go.Proofs.Tryz
open List renaming length_cons→yaT,length_drop→yaU
open Go.RowKit.Below renaming heap_setCell→yaS,heap_alloc→yaW
open Nat renaming lt_of_lt_of_le→yaR,le_trans→yaV
namespace Dec
open Go.RowKit Utf Val V
def GotL (S:Nat)(vs:List V)(e:Ending)(w':World):Prop:=∃ Ak nk ck,e=.returned (.slice Ak nk ck)∧Nw S w' vs Ak nk ck
def zrW (ib:Nat)(R:Option (List V×Nat))(w:World)(e:Ending)(w':World):Prop:=
 match R with
 | none=>Fails 6 ib ib w e w'
 | some (vs,it')=>GotL w.heap.size vs e w'∧it'≤1024∧w'.cell? ⟨ib,0,none⟩=some (.int .i64 (it':Int))∧(∀ j,w'.frozen? ⟨ib,j,none⟩=false)∧Up ib ib w w'
def endL (R:Option (List V×Nat×Lz)):Option (List V×Nat):=match R with | some (vs,it',[])=>some (vs,it') | _=>none
def preL (done:List V)(R:Option (List V×Nat×Lz)):Option (List V×Nat×Lz):=R.map fun p=>(done++p.1,p.2.1,p.2.2)
theorem zkr (R:Option (List V×Nat×Lz)):preL [] R=R:=by cases R<;>rfl
theorem zij {step:Nat→Lz→Option (V×Nat×Lz)}{m it:Nat}{l:Lz}(h:step it l=none)(done:List V):preL done (zbe step (m+1) it l)=none:=by
 rw[zbe,h];rfl
theorem zik {step:Nat→Lz→Option (V×Nat×Lz)}{m it it':Nat}{l r:Lz}{v:V}(h:step it l=some (v,it',r))(done:List V):preL done (zbe step (m+1) it l)=preL (done++[v]) (zbe step m it' r):=by
 rw[zbe,h];simp only;cases zbe step m it' r with
 | none=>rfl
 | some p=>obtain⟨a,b,c⟩:=p;simp[preL]
theorem zks {step:Nat→Lz→Option (V×Nat×Lz)}{it:Nat}{l:Lz}(done:List V):preL done (zbe step 0 it l)=some (done,it,l):=by simp[zbe,preL]
theorem za4 {c:Nat}{l d r:Lz}(h:zaC c l=some (d,r)):d.length+r.length≤l.length:=by
 obtain⟨p,e⟩:=zeX h;subst e;simp only[List.length_append];omega
theorem zfW {tl:Nat→List V→Nat→Lz→Option (V×Nat)}{it it':Nat}{l r:Lz}{v:V}(h:zcg tl it l=some (v,it',r)):r.length≤l.length:=by
 unfold zcg at h;cases hh:headD l with
 | error s=>rw[hh] at h;cases h
 | ok p=>
  obtain⟨ns,c,r1⟩:=p;have h1:=(zbu _ _ _ _ _ hh).1;rw[hh] at h;simp only at h;cases hd:zaC c r1 with
  | none=>rw[hd] at h;cases h
  | some q=>
   obtain⟨d,r2⟩:=q;have h2:=za4 hd;rw[hd] at h;simp only at h;cases ht:tl it (ns.take 16) c d with
   | none=>rw[ht] at h;cases h
   | some q=>
    rw[ht] at h;injection h with h
    injection h with _ h
    injection h with _ h
    subst h;omega
theorem zfX {tl:Nat→List V→Nat→Lz→Option (V×Nat)}{ns:List V}{c it it':Nat}{l r:Lz}{v:V}(h:zch tl ns c it l=some (v,it',r)):r.length≤l.length:=by
 unfold zch at h;cases hd:zaC c l with
 | none=>rw[hd] at h;cases h
 | some q=>
  obtain⟨d,r2⟩:=q;have h2:=za4 hd;rw[hd] at h;simp only at h;cases ht:tl it ns c d with
  | none=>rw[ht] at h;cases h
  | some q=>
   rw[ht] at h;injection h with h
   injection h with _ h
   injection h with _ h
   subst h;omega
structure KS (rb ib B S:Nat) (w5 wr:World) (done:List V) (L:Lz) (it M:Nat) (Ak:Oz) (j ck:Nat) (xs:List Value):Prop where
 row:CS S wr Ak j ck done xs
 rdr:∃ A n c,Rdr wr rb ib B A n c L 6 it
 few:it≤1024
 up:Up rb ib w5 wr
 sz:S=w5.heap.size
 low:rb < S∧ib < S
 len:L.length≤M
theorem KS.more {rb ib B S it it' M j ck:Nat}{w5 wr w2 w9:World}{done:List V}{L r:Lz}{Ak:Oz}{xs:List Value}(h:KS rb ib B S w5 wr done L it M Ak j ck xs)
  (hu:Up rb ib wr w2) (Gx:it'≤1024) (hR:∃ A n c,Rdr w2 rb ib B A n c r 6 it') (hr:r.length≤L.length) {v:V} {Av:Oz} {lv cv:Nat} (Kb:v.kind < 256) (kC:v.num < 18446744073709551616) (JJ:Nw wr.heap.size w2 v.kids Av lv cv)
  {g cap:Nat} (o:Obj) (Hf:w9.ownsRow S 43 4 (.slice (some ⟨g,0,none⟩) (j+1) cap) (j+1) (xs++[.int .u8 (v.kind:Int),.int .u64 (v.num:Int),.string v.text,.slice Av lv cv])) (hg:(w2.alloc o).grownBy w9 (Value.slice Ak j ck).ownBlock) (gT:(Value.slice Ak j ck).ownBlock=some g∨w2.heap.size≤g) :
  KS rb ib B S w5 w9 (done++[v]) r it' M (some ⟨g,0,none⟩) (j+1) cap (xs++[.int .u8 (v.kind:Int),.int .u64 (v.num:Int),.string v.text,.slice Av lv cv]):=by
 obtain⟨vk,vn,vt,vks⟩:=v;have hl:=h.low;have Hu:=h.sz;have h5:=h.up.size;have h2:=hu.size;have Hr:=h.row.own.lt;have hold:∀ i,i < S→w9.heap[i]? = w2.heap[i]?:=fun i hi=>by
  rw[hg.block i (by simp;omega) (fun e=>by have:=Hr i e.symm;omega)];exact yaW _ _ _ (by omega)
 have qM:=hg.size;simp at qM;have hK:Val.Kids true w2 (fun i=>S≤i∧i < w2.heap.size∧(Value.slice Ak j ck).ownBlock≠some i) vks Av lv cv:=Val.Kids.mono JJ fun i hi=>⟨by omega,hi.2,fun e=>by have:=Hr i e;omega⟩;refine⟨(h.row.up hu hl.1 hl.2).push Kb kC hK o rfl Hf hg gT,?_,Gx,?_,Hu,hl,yaV hr h.len⟩
 ·obtain⟨A,n,c,hr⟩:=hR;exact⟨A,n,c,hr.keep (fun i hi=>hold i (by have:=hr.hr;rcases hi with rfl | rfl | hi<;>omega)) (by omega)⟩
 ·exact((h.up.trans hu).call ((Below.refl _ _).alloc zab o)).grown hg (fun i e=>by have:=Hr i e;omega)
theorem Rdr.inner {w:World}{rb ib B n c sh it nd cd:Nat}{A Ad:Oz}{L d:Lz}(h:Rdr w rb ib B A n c L sh it)(hr:Rd .u8 256 w B Ad nd d)(hc:nd≤cd)(hl:nd≤1099511627776) :
  Rdr (w.alloc (.cells #[.slice Ad nd cd,.int .i64 6,.pointer (some ⟨ib,0,none⟩)] 61)) w.heap.size ib B Ad nd cd d 6 it:=by
 have hb:Below w.heap.size w (w.alloc (.cells #[.slice Ad nd cd,.int .i64 6,.pointer (some ⟨ib,0,none⟩)] 61)):=(za _ _);have JG:=h.li;have KY:=heap_alloc_new w (.cells #[.slice Ad nd cd,.int .i64 6,.pointer (some ⟨ib,0,none⟩)] 61);have hz:∀ (W:World) (b:Nat) (a:Array Value) (t:TypeId),W.heap[b]? = some (.cells a t (0,0))→∀ j,W.frozen? ⟨b,j,none⟩=false:=fun W b a t h j=>by simp[World.frozen?,h]
 exact⟨by simp,by simp,by simp,(hb.cell (p:=⟨ib,0,none⟩) JG).trans h.item,fun j=>hz _ _ _ _ KY j,fun j=>(hb.frozen (p:=⟨ib,j,none⟩) JG).trans (h.fi j),hr.below (hb.mono h.low),hc,hl,h.low,h.hi,by omega,by simp,by simp;omega⟩
theorem zpy {w:World}{rb ib B n c sh it:Nat}{A:Oz}{L:Lz}(h:Rdr w rb ib B A n c L sh it){code nd cd:Nat}{d:Lz}{Ad:Oz}
  (hr:Rd .u8 256 w B Ad nd d) (hc:nd≤cd) (hl:nd≤1099511627776) (Hi:d.length < sw code) :
  Calls prog 135 #[.pointer (some ⟨rb,0,none⟩),.int .u8 (code:Int),.slice Ad nd cd] w (Fails 6 ib ib w):=by
 have h1:=h.inner hr hc hl;have hp:=h.ptr;obtain⟨W1,Ko⟩:∃ W1,w.alloc (.cells #[.slice Ad nd cd,.int .i64 6,.pointer (some ⟨ib,0,none⟩)] 61)=W1:=⟨_,rfl⟩;have gH:Below w.heap.size w W1:=by rw[←Ko];exact(za _ _)
 rw[Ko] at h1;go_enter func135,ntmps135;go_wp2_with (first
  | (go_at_call 110;refine(zbS code _).mono ?_;rintro e W1 ⟨rfl,rfl⟩)
  | (go_at_call 111;refine(zih h1 (sw code) Hi).mono ?_;rintro e w2 ⟨rfl,kg⟩))
 exact⟨rfl,rfl,Up.inner (Up.of gH) kg zab⟩
theorem zmD {w:World}{rb ib B n c sh it:Nat}{A:Oz}{L:Lz}(h:Rdr w rb ib B A n c L sh it){code nd cd:Nat}{d:Lz}{Ad:Oz}
  (hr:Rd .u8 256 w B Ad nd d) (hc:nd≤cd) (hl:nd≤1099511627776) (hle:sw code≤d.length) (Hi:1024 < tn (d.take (sw code))) :
  Calls prog 135 #[.pointer (some ⟨rb,0,none⟩),.int .u8 (code:Int),.slice Ad nd cd] w (Fails 6 ib ib w):=by
 have h1:=h.inner hr hc hl;have hp:=h.ptr;obtain⟨cnt,G4⟩:∃ cnt,tn (d.take (sw code))=cnt:=⟨_,rfl⟩;have hd:(cnt:Int) > 1024:=by omega
 have HC:=zaa G4;obtain⟨W1,Ko⟩:∃ W1,w.alloc (.cells #[.slice Ad nd cd,.int .i64 6,.pointer (some ⟨ib,0,none⟩)] 61)=W1:=⟨_,rfl⟩;have gH:Below w.heap.size w W1:=by rw[←Ko];exact(za _ _)
 rw[Ko] at h1;clear G4 Hi;go_enter func135,ntmps135;go_wp2_with (first
  | (go_at_call 110;refine(zbS code _).mono ?_;rintro e W1 ⟨rfl,rfl⟩)
  | (go_at_call 111;refine(zcI h1 (sw code) hle).mono ?_;rintro e w2 ⟨A2,n2,c2,rfl,jw,kg⟩;rw[HC.out]))
 exact⟨rfl,rfl,Up.inner (Up.of gH) kg zab⟩
theorem zmE {F:Nat}(hT:Told F){w:World}{rb ib B n c sh it:Nat}{A:Oz}{L:Lz}(h:Rdr w rb ib B A n c L sh it)(Gx:it≤1024){code nd cd cnt:Nat}{d L0:Lz}{Ad:Oz}
  (hr:Rd .u8 256 w B Ad nd d) (hc:nd≤cd) (hl:nd≤1099511627776) (hle:sw code≤d.length) (G4:tn (d.take (sw code))=cnt) (Bj:d.drop (sw code)=L0) (Hi:cnt≤1024) (hk:kof code≠24) (hF:d.length≤F) {R:Option (List V×Nat×Lz)} (hR:zbe (zcg (zaG F)) cnt it L0=R) :
  Calls prog 135 #[.pointer (some ⟨rb,0,none⟩),.int .u8 (code:Int),.slice Ad nd cd] w (zrW ib (endL R) w):=by
 have h1:=h.inner hr hc hl;have hp:=h.ptr;have hdc:¬ (cnt:Int) > 1024:=by omega
 have hdk:((kof code:Int)==24)=false:=by simp;omega
 have JG:=h.li;have HC:=zaa G4;have HR:=zaa hR;obtain⟨M,hM⟩:∃ M,M=L0.length:=⟨_,rfl⟩;have Bk:M≤F:=by have:=congrArg List.length Bj;rw[yaU] at this;omega
 have bS:=zaa Bj;obtain⟨W1,Ko⟩:∃ W1,w.alloc (.cells #[.slice Ad nd cd,.int .i64 6,.pointer (some ⟨ib,0,none⟩)] 61)=W1:=⟨_,rfl⟩;have gH:Below w.heap.size w W1:=by rw[←Ko];exact(za _ _)
 have gu:W1.heap.size=w.heap.size+1:=by rw[←Ko];simp
 rw[Ko] at h1;have JK:=zaa gu;have YM:=zaa hM;clear G4 hk hR Bj gu hM;go_enter func135,ntmps135;go_wp2_with (first
  | (go_at_call 110;refine(zbS code _).mono ?_;rintro e W1 ⟨rfl,rfl⟩)
  | (go_at_call 111;refine(zcI h1 (sw code) hle).mono ?_;rintro e w2 ⟨A2,n2,c2,rfl,jw,kg⟩;rw[HC.out])
  | (go_at_call 108;refine(zaz code _).mono ?_;rintro e w2 ⟨rfl,rfl⟩))
 rw[bS.out] at jw;obtain⟨W5,JL⟩:∃ W5,w2=W5:=⟨_,rfl⟩;rw[JL];rw[JL] at jw kg;clear JL;obtain⟨S,JE⟩:∃ S,S=W5.heap.size:=⟨_,rfl⟩;have Jd:=kg.size;have gu:=JK.out;have kO:KS w.heap.size ib B S W5 W5 [] L0 it M none 0 0 []:=⟨CS.nil _ _,⟨_,_,_,jw⟩,Gx,Up.refl _ _ _,JE,by omega,Nat.le_of_eq YM.out.symm⟩;have Xe:∀ w',Up w.heap.size ib W5 w'→Up ib ib w w':=fun w' hu=>Up.inner (Up.of gH) (kg.trans hu) zab;have Bl:w.heap.size≤S:=by omega
 clear gu Jd;go_loopg [11,31] cnt (fun g s11 s31 wr=>∃ j done it' L' Ak ck xs,j≤cnt∧g=cnt - j∧s31=.int .u64 j∧s11=.slice Ak j ck∧KS w.heap.size ib B S W5 wr done L' it' M Ak j ck xs∧R=preL done (zbe (zcg (zaG F)) (cnt - j) it' L'))
 case atStart=>exact⟨0,[],it,L0,none,0,[],Nat.zero_le _,rfl,rfl,rfl,kO,by rw[zkr];exact HR.out.symm⟩
 case round=>
  obtain⟨j,done,it',L',Ak,ck,xs,hj,JT,rfl,rfl,hS,gJ⟩:=hrel;obtain⟨A1,n1,c1,Gc⟩:=hS.rdr;have Q7:=hS.few;have Jv:=hS.len;have Jw:=hS.low;have Ck:=hS.sz;have KZ:=hS.up;by_cases Hi:j < cnt
  ·have hd:(j:Int) < (cnt:Int):=by omega
   obtain⟨m,hm⟩:∃ m,cnt - j=m+1:=⟨cnt - j - 1,by omega⟩;rw[hm] at gJ;have J7:m < gk:=by omega
   have Xf:cnt - (j+1)=m:=by omega
   have HM:=zaa Xf;clear hm Xf;have hA:=zpw hT Gc Q7 (yaV Jv Bk);cases gr:zcg (zaG F) it' L' with
   | none=>
    rw[zij gr] at gJ;have kF:R=none:=gJ;have qk:=zaa kF;rw[gr] at hA;clear gJ kF J7 JT;go_wp2_with ((go_at_call 31;refine hA.mono ?_;rintro e w4 ⟨rfl,KW⟩));rw[qk.out];exact⟨rfl,rfl,Xe _ (KZ.trans KW)⟩
   | some q=>
    obtain⟨v,it2,r⟩:=q;rw[zik gr] at gJ;rw[gr] at hA;have JI:=zfW gr;have qN:=zaa gJ;have Bm:=zaa J7;have Kw:=zbi hS.row.own;obtain⟨i0,hi,gE,Hn,gb⟩:=info_parts zdb;have Vu:=zaa hS;have jf:=zaa Hi;clear gJ J7 JT hS Hi;go_wp2_with (first
     | (go_at_call 31;refine hA.mono ?_;rintro e w2 ⟨⟨Av,lv,cv,rfl,Kb,kC,JJ⟩,ye,jw,kg⟩;have Gw:=kg.size;have Hm:=Vu.out.row.up kg Jw.1 Jw.2)
     | (at_builtin;refine wpList_append_lies _ rfl _ _ 41 rfl S 43 i0 _ 4 56 underlying41 hi gE Hn gb rfl (by omega) _ _ _ rfl (Hm.own.alloc _) ⟨w2.heap.size,0,none⟩ 1 1 [.int .u8 (v.kind:Int),.int .u64 (v.num:Int),.string v.text,.slice Av lv cv] rfl rfl (news4 _ _ _ _ _ _ _ (by simp)) (fun u hu=>(by simp at hu;rcases hu with rfl | rfl | rfl | rfl<;>rfl)) (by omega) (by unfold maxLen;omega) (by omega) (by simp;have:=KZ.size;omega) _ rfl ?_;intro g9 cap9 w9 Hb Hd Hv _))
    go_roundg m
    case measure=>exact Bm.out
    case rel=>exact⟨j+1,done++[v],it2,r,_,_,_,jf.out,HM.out.symm,by go_num,rfl,Vu.out.more kg ye jw JI Kb kC JJ _ Hb Hd (Hv.imp id fun h=>by simp at h;omega),by rw[HM.out];exact qN.out⟩
  ·have hd:¬ (j:Int) < (cnt:Int):=by omega
   have hm:cnt - j=0:=by omega
   have YN:j=cnt:=by omega
   rw[hm,zks] at gJ;have x9:=Gc.left;have Gm:=Gc.rd.len;clear hm JT Hi;cases L' with
   | nil=>
    have h0:n1=0:=Gm.symm;subst h0;have qN:=zaa gJ;clear gJ YN Gm;go_wp2;go_ret;rw[qN.out];exact⟨⟨Ak,j,ck,rfl,hS.row.nw.less Bl⟩,Q7,Gc.item,Gc.fi,Xe _ KZ⟩
   | cons y l=>
    have hp:(n1:Int) > 0:=by simp only[yaT] at Gm;omega
    have qN:=zaa gJ;clear gJ YN Gm;go_wp2;rw[qN.out];exact⟨rfl,rfl,Xe _ KZ⟩
theorem zmF {w:World}{rb ib B n c sh it:Nat}{A:Oz}{L:Lz}(h:Rdr w rb ib B A n c L sh it){code nd cd cnt:Nat}{d L1:Lz}{Ad:Oz}{s:Bool}
  (hr:Rd .u8 256 w B Ad nd d) (hc:nd≤cd) (hl:nd≤1099511627776) (hle:sw code≤d.length) (G4:tn (d.take (sw code))=cnt) (QC:d.drop (sw code)=L1) (Hi:cnt≤1024) (hk:kof code=24) (hH:headD L1=.error s) :
  Calls prog 135 #[.pointer (some ⟨rb,0,none⟩),.int .u8 (code:Int),.slice Ad nd cd] w (Fails 6 ib ib w):=by
 have h1:=h.inner hr hc hl;have hp:=h.ptr;have hdc:¬ (cnt:Int) > 1024:=by omega
 have HK:=zaa hk;have HC:=zaa G4;have Xg:=zaa QC;obtain⟨W1,Ko⟩:∃ W1,w.alloc (.cells #[.slice Ad nd cd,.int .i64 6,.pointer (some ⟨ib,0,none⟩)] 61)=W1:=⟨_,rfl⟩;have gH:Below w.heap.size w W1:=by rw[←Ko];exact(za _ _)
 rw[Ko] at h1;clear G4 hk QC;go_enter func135,ntmps135;go_wp2_with (first
  | (go_at_call 110;refine(zbS code _).mono ?_;rintro e W1 ⟨rfl,rfl⟩)
  | (go_at_call 111;refine(zcI h1 (sw code) hle).mono ?_;rintro e w2 ⟨A2,n2,c2,rfl,jw,kg⟩;rw[HC.out];rw[Xg.out] at jw;have hA:=zhm jw;rw[hH] at hA)
  | (go_at_call 108;refine(zaz code _).mono ?_;rintro e w2 ⟨rfl,rfl⟩;rw[HK.out])
  | (go_at_call 62;refine hA.mono ?_;rintro e w3 ⟨rfl,gW⟩))
 rw[zmC];exact⟨rfl,rfl,Up.inner (Up.of gH) (kg.trans gW) zab⟩
theorem zlz {F:Nat}(hT:Told F){w:World}{rb ib B n c sh it:Nat}{A:Oz}{L:Lz}(h:Rdr w rb ib B A n c L sh it)(Gx:it≤1024){code nd cd cnt:Nat}{d L1 L0:Lz}{Ad:Oz}{ns ms:List V}{k:Nat}
  (hr:Rd .u8 256 w B Ad nd d) (hc:nd≤cd) (hl:nd≤1099511627776) (hle:sw code≤d.length) (G4:tn (d.take (sw code))=cnt) (QC:d.drop (sw code)=L1) (Hi:cnt≤1024) (hk:kof code=24) (hH:headD L1=.ok (ns,k,L0)) (Vv:ns.take 16=ms) (hF:d.length≤F) {R:Option (List V×Nat×Lz)} (hR:zbe (zch (zaG F) ms k) cnt it L0=R) :
  Calls prog 135 #[.pointer (some ⟨rb,0,none⟩),.int .u8 (code:Int),.slice Ad nd cd] w (zrW ib (endL R) w):=by
 have h1:=h.inner hr hc hl;have hp:=h.ptr;have hdc:¬ (cnt:Int) > 1024:=by omega
 have JG:=h.li;have HK:=zaa hk;have HC:=zaa G4;have HR:=zaa hR;have YL:=zaa Vv;obtain⟨M,hM⟩:∃ M,M=L0.length:=⟨_,rfl⟩;obtain⟨GV,ke,Bg,JI⟩:=zjL _ _ _ _ _ hH fun x hx=>hr.lim x (List.mem_of_mem_drop (QC▸hx));have Bk:M < F:=by have:=congrArg List.length QC;rw[yaU] at this;omega
 have Ju:∀ v∈ms,Fl v:=fun v hv=>GV v (List.mem_of_mem_take (Vv▸hv));have qA:ms.length≤16:=by rw[←Vv,List.length_take];omega
 have Xg:=zaa QC;obtain⟨W1,Ko⟩:∃ W1,w.alloc (.cells #[.slice Ad nd cd,.int .i64 6,.pointer (some ⟨ib,0,none⟩)] 61)=W1:=⟨_,rfl⟩;have gH:Below w.heap.size w W1:=by rw[←Ko];exact(za _ _)
 have gu:W1.heap.size=w.heap.size+1:=by rw[←Ko];simp
 rw[Ko] at h1;have JK:=zaa gu;have YM:=zaa hM;clear G4 hk hR QC gu hM Vv GV;go_enter func135,ntmps135;go_wp2_with (first
  | (go_at_call 110;refine(zbS code _).mono ?_;rintro e W1 ⟨rfl,rfl⟩)
  | (go_at_call 111;refine(zcI h1 (sw code) hle).mono ?_;rintro e w2 ⟨A2,n2,c2,rfl,jw,kg⟩;rw[HC.out];rw[Xg.out] at jw;have hA:=zhm jw;rw[hH] at hA)
  | (go_at_call 108;refine(zaz code _).mono ?_;rintro e w2 ⟨rfl,rfl⟩;rw[HK.out])
  | (go_at_call 62;refine hA.mono ?_;rintro e w3 ⟨An,nn,cn,A3,n3,c3,rfl,uQ,jx,gW⟩;rw[YL.out] at uQ))
 obtain⟨W5,JL⟩:∃ W5,w3.alloc (.cells #[.slice An nn cn,.int .u8 (k:Int)] 100)=W5:=⟨_,rfl⟩;have j2:Below w3.heap.size w3 W5:=by rw[←JL];exact(za _ _)
 have J8:HBox W5 w3.heap.size (.slice An nn cn) (.int .u8 (k:Int)):=by rw[←JL];exact HBox.new _ _ _
 have Jd:W5.heap.size=w3.heap.size+1:=by rw[←JL];simp
 rw[JL];clear JL;obtain⟨S,JE⟩:∃ S,S=W5.heap.size:=⟨_,rfl⟩;obtain⟨G,hG⟩:∃ G,w3.heap.size=G:=⟨_,rfl⟩;rw[hG] at J8 Jd;rw[hG];have Gw:=kg.size;have jg:=gW.size;have gu:=JK.out;have yg:Nms W5 w.heap.size ib ms An nn cn:=Nms.of uQ (by omega) (by omega) (fun i hi _ _=>j2.block i hi) j2.size Ju qA;have kO:KS w.heap.size ib B S W5 W5 [] L0 it M none 0 0 []:=⟨CS.nil _ _,⟨_,_,_,jx.call j2⟩,Gx,Up.refl _ _ _,JE,by omega,Nat.le_of_eq YM.out.symm⟩;have Xe:∀ w',Up w.heap.size ib W5 w'→Up ib ib w w':=fun w' hu=>Up.inner (Up.of gH) (((kg.trans gW).call j2).trans hu) zab;have Bl:w.heap.size≤S:=by omega
 have UR:G≠w.heap.size∧G≠ib∧G < S:=by omega
 have hNM:∀ {w'},Up w.heap.size ib W5 w'→Nms w' w.heap.size ib ms An nn cn:=fun {w'} hu=>⟨(yg.kids.keep fun i hi=>hu.block i hi.1 hi.2.1 hi.2.2).mono fun i hi=>⟨yaR hi.1 hu.size,hi.2⟩,Ju,yg.few⟩;clear gu Gw jg hG yg;go_loopg [11,31] cnt (fun g s11 s31 wr=>∃ j done it' L' Ak ck xs,j≤cnt∧g=cnt - j∧s31=.int .u64 j∧s11=.slice Ak j ck∧KS w.heap.size ib B S W5 wr done L' it' M Ak j ck xs∧R=preL done (zbe (zch (zaG F) ms k) (cnt - j) it' L'))
 case atStart=>exact⟨0,[],it,L0,none,0,[],Nat.zero_le _,rfl,rfl,rfl,kO,by rw[zkr];exact HR.out.symm⟩
 case round=>
  obtain⟨j,done,it',L',Ak,ck,xs,hj,JT,rfl,rfl,hS,gJ⟩:=hrel;obtain⟨A1,n1,c1,Gc⟩:=hS.rdr;have Q7:=hS.few;have Jv:=hS.len;have Jw:=hS.low;have Ck:=hS.sz;have KZ:=hS.up;by_cases Hi:j < cnt
  ·have hd:(j:Int) < (cnt:Int):=by omega
   obtain⟨m,hm⟩:∃ m,cnt - j=m+1:=⟨cnt - j - 1,by omega⟩;rw[hm] at gJ;have J7:m < gk:=by omega
   have Xf:cnt - (j+1)=m:=by omega
   have HM:=zaa Xf;clear hm Xf;have hA:=zpx hT Gc Q7 (Nat.lt_of_le_of_lt Jv Bk) (J8.keep (KZ.block _ J8.lt UR.1 UR.2.1)) UR.1 UR.2.1 (hNM KZ) ke;cases gr:zch (zaG F) ms k it' L' with
   | none=>
    rw[zij gr] at gJ;have kF:R=none:=gJ;have qk:=zaa kF;rw[gr] at hA;clear gJ kF J7 JT;go_wp2_with ((go_at_call 151;refine hA.mono ?_;rintro e w4 ⟨rfl,KW⟩));rw[qk.out];exact⟨rfl,rfl,Xe _ (KZ.trans KW)⟩
   | some q=>
    obtain⟨v,it2,r⟩:=q;rw[zik gr] at gJ;rw[gr] at hA;have JI:=zfX gr;have qN:=zaa gJ;have Bm:=zaa J7;have Kw:=zbi hS.row.own;obtain⟨i0,hi,gE,Hn,gb⟩:=info_parts zdb;have Vu:=zaa hS;have jf:=zaa Hi;clear gJ J7 JT hS Hi;go_wp2_with (first
     | (go_at_call 151;refine hA.mono ?_;rintro e w2 ⟨⟨Av,lv,cv,rfl,Kb,kC,JJ⟩,ye,jw,kg⟩;have Gw:=kg.size;have Hm:=Vu.out.row.up kg Jw.1 Jw.2)
     | (at_builtin;refine wpList_append_lies _ rfl _ _ 41 rfl S 43 i0 _ 4 56 underlying41 hi gE Hn gb rfl (by omega) _ _ _ rfl (Hm.own.alloc _) ⟨w2.heap.size,0,none⟩ 1 1 [.int .u8 (v.kind:Int),.int .u64 (v.num:Int),.string v.text,.slice Av lv cv] rfl rfl (news4 _ _ _ _ _ _ _ (by simp)) (fun u hu=>(by simp at hu;rcases hu with rfl | rfl | rfl | rfl<;>rfl)) (by omega) (by unfold maxLen;omega) (by omega) (by simp;have:=KZ.size;omega) _ rfl ?_;intro g9 cap9 w9 Hb Hd Hv _))
    go_roundg m
    case measure=>exact Bm.out
    case rel=>exact⟨j+1,done++[v],it2,r,_,_,_,jf.out,HM.out.symm,by go_num,rfl,Vu.out.more kg ye jw JI Kb kC JJ _ Hb Hd (Hv.imp id fun h=>by simp at h;omega),by rw[HM.out];exact qN.out⟩
  ·have hd:¬ (j:Int) < (cnt:Int):=by omega
   have hm:cnt - j=0:=by omega
   have YN:j=cnt:=by omega
   rw[hm,zks] at gJ;have x9:=Gc.left;have Gm:=Gc.rd.len;clear hm JT Hi;cases L' with
   | nil=>
    have h0:n1=0:=Gm.symm;subst h0;have qN:=zaa gJ;clear gJ YN Gm;go_wp2;go_ret;rw[qN.out];exact⟨⟨Ak,j,ck,rfl,hS.row.nw.less Bl⟩,Q7,Gc.item,Gc.fi,Xe _ KZ⟩
   | cons y l=>
    have hp:(n1:Int) > 0:=by simp only[yaT] at Gm;omega
    have qN:=zaa gJ;clear gJ YN Gm;go_wp2;rw[qN.out];exact⟨rfl,rfl,Xe _ KZ⟩
theorem zpz {F:Nat}(hT:Told F){w:World}{rb ib B n c sh it:Nat}{A:Oz}{L:Lz}(h:Rdr w rb ib B A n c L sh it)(Gx:it≤1024){code nd cd:Nat}{d:Lz}{Ad:Oz}
  (hr:Rd .u8 256 w B Ad nd d) (hc:nd≤cd) (hl:nd≤1099511627776) (hF:d.length≤F) :
  Calls prog 135 #[.pointer (some ⟨rb,0,none⟩),.int .u8 (code:Int),.slice Ad nd cd] w (zrW ib (zcx (zaG F) code it d) w):=by
 unfold zcx;by_cases h0:d.length < sw code
 ·rw[if_pos h0];exact zpy h hr hc hl h0
 rw[if_neg h0];by_cases h1:1024 < tn (d.take (sw code))
 ·rw[if_pos h1];exact zmD h hr hc hl (by omega) h1
 rw[if_neg h1];by_cases hk:kof code=24
 ·rw[if_pos hk];cases hH:headD (d.drop (sw code)) with
  | error s=>exact zmF h hr hc hl (by omega) rfl rfl (by omega) hk hH
  | ok p=>
   obtain⟨ns,k,L0⟩:=p;exact zlz hT h Gx hr hc hl (by omega) rfl rfl (by omega) hk hH rfl hF rfl
 ·rw[if_neg hk];exact zmE hT h Gx hr hc hl (by omega) rfl rfl (by omega) hk hF rfl
def zc6 (tl:Nat→List V→Nat→Lz→Option (V×Nat))(it c:Nat)(d:Lz):Option (V×Nat):=
 if kof c < 22 then some (zag c d,it)
 else match zcx tl c it d with
  | none=>none
  | some (vs,it')=>some (.mk (kof c) 0 ⟨#[]⟩ vs,it')
theorem zcJ (F it:Nat)(ns:List V)(c:Nat)(d:Lz):zaG (F+1) it ns c d=if 1024 < it+1+2 * ns.length then none else match zc6 (zaG F) (it+1+2 * ns.length) c d with
  | none=>none
  | some (v,it')=>some (zap ns v,it'):=by
 rw[zaG];unfold zc6;by_cases h:1024 < it+1+2 * ns.length
 ·rw[if_pos h,if_pos h]
 ·rw[if_neg h,if_neg h];by_cases hk:kof c < 22
  ·rw[if_pos hk,if_pos hk]
  ·rw[if_neg hk,if_neg hk];cases zcx (zaG F) c (it+1+2 * ns.length) d with
   | none=>rfl
   | some p=>rfl
def ztG (ib:Nat)(R:Option (V×Nat))(w:World)(e:Ending)(w':World):Prop:=
 match R with
 | none=>Fails 6 ib ib w e w'
 | some (v,it')=>GotV w.heap.size v e w'∧it'≤1024∧w'.cell? ⟨ib,0,none⟩=some (.int .i64 (it':Int))∧(∀ j,w'.frozen? ⟨ib,j,none⟩=false)∧Up ib ib w w'
theorem zfY {w:World}{g p:Nat}(h:p≠g)(a b c d:Value)(j:Nat):((((w.setCell ⟨g,0,none⟩ a).setCell ⟨g,1,none⟩ b).setCell ⟨g,2,none⟩ c).setCell ⟨g,3,none⟩ d).cell? ⟨p,j,none⟩=w.cell? ⟨p,j,none⟩:=
 World.cell?_of_block (zci w g a b c d p h)
theorem zdV {w:World}{g p:Nat}(h:p≠g)(a b c d:Value)(j:Nat):((((w.setCell ⟨g,0,none⟩ a).setCell ⟨g,1,none⟩ b).setCell ⟨g,2,none⟩ c).setCell ⟨g,3,none⟩ d).frozen? ⟨p,j,none⟩=w.frozen? ⟨p,j,none⟩:=
 World.frozen?_of_block (zci w g a b c d p h)
theorem zmG {F:Nat}(hT:Told F){w:World}{rb ib B n c sh it:Nat}{A:Oz}{L:Lz}(h:Rdr w rb ib B A n c L sh it)(Gx:it≤1024){code nd cd:Nat}{d:Lz}{Ad:Oz}
  (hr:Rd .u8 256 w B Ad nd d) (hc:nd≤cd) (hl:nd≤1099511627776) (hF:d.length≤F) :
  Calls prog 109 #[.pointer (some ⟨rb,0,none⟩),.int .u8 (code:Int),.slice Ad nd cd] w (ztG ib (zc6 (zaG F) it code d) w):=by
 have v8:=h.lr;have JG:=h.li;have gO:=h.low;obtain⟨W0,Gj⟩:∃ W0,w.alloc (.cells #[.int .u8 0,.int .u64 0,.string ⟨#[]⟩,.slice none 0 0] 43)=W0:=⟨_,rfl⟩;have GK:Below w.heap.size w W0:=by rw[←Gj];exact(za _ _)
 have yX:Box W0 w.heap.size (.int .u8 0) (.int .u64 0) (.string ⟨#[]⟩) (.slice none 0 0):=by rw[←Gj];exact Box.new _ _ _ _ _
 have kN:W0.heap.size=w.heap.size+1:=by rw[←Gj];simp
 have h0:=h.call GK;have Qf:=hr.below (GK.mono gO);have xe:Up ib ib w W0:=Up.of GK;have Xb:=zaa kN;unfold zc6;by_cases hk:kof code < 22
 ·rw[if_pos hk];have hdk:¬ ((kof code:Int) ≥ 22):=by omega
  have GV:=zhl code d hr.lim;clear hk kN;go_enter func109,ntmps109;go_wp2_with (first
   | (go_at_call 108;refine(zaz code _).mono ?_;rintro e w' ⟨rfl,rfl⟩)
   | (go_at_call 133;refine(zig (cc:=cd) Qf h0.low).mono ?_;rintro e w3 ⟨rfl,Hj⟩;have kY:=yX.call Hj;obtain⟨z0,z1,z2,z3,zf⟩:=kY.all))
  have kN:=Xb.out;have jg:=Hj.size;have kT:=h0.call Hj;refine bodyPost_ret (v:=.agg #[.int .u8 ((zag code d).kind:Int),.int .u64 ((zag code d).num:Int),.string (zag code d).text,.slice none 0 0]) (by simp[results,results109,go_sem,z0,z1,z2,z3]) rfl ?_;exact⟨⟨none,0,0,rfl,GV.kind,GV.num,by rw[GV.kids];exact Val.Kids.none_ _ _ _ _ _⟩,Gx,(zfY (by omega) _ _ _ _ _).trans kT.item,fun j=>(zdV (by omega) _ _ _ _ _).trans (kT.fi j),zcV (xe.call Hj) zab _ _ _ _⟩
 ·rw[if_neg hk];have hdk:(kof code:Int) ≥ 22:=by omega
  have hk24:=zgL code;have hA:=zpz hT h0 Gx (code:=code) Qf hc hl hF;clear hk kN;cases hR:zcx (zaG F) code it d with
  | none=>
   rw[hR] at hA;simp only;go_enter func109,ntmps109;go_wp2_with (first
    | (go_at_call 108;refine(zaz code _).mono ?_;rintro e w' ⟨rfl,rfl⟩)
    | (go_at_call 135;refine hA.mono ?_;rintro e w3 ⟨rfl,gW⟩))
   exact⟨rfl,rfl,xe.trans gW⟩
  | some p=>
   obtain⟨vs,it'⟩:=p;rw[hR] at hA;simp only;go_enter func109,ntmps109;go_wp2_with (first
    | (go_at_call 108;refine(zaz code _).mono ?_;rintro e w' ⟨rfl,rfl⟩)
    | (go_at_call 135;refine hA.mono ?_;rintro e w3 ⟨⟨Ak,nk,ck,rfl,Qe⟩,Cl,hi3,YG,gW⟩;have kY:=Box.up yX gW (by omega) (by omega);obtain⟨z0,z1,z2,z3,zf⟩:=kY.all))
   have kN:=Xb.out;have jg:=gW.size;refine bodyPost_ret (v:=.agg #[.int .u8 (kof code:Int),.int .u64 0,.string ⟨#[]⟩,.slice Ak nk ck]) (by simp[results,results109,go_sem,z0,z1,z2,z3]) rfl ?_;exact⟨⟨Ak,nk,ck,rfl,(by show kof code < 256;omega),(by show 0 < 18446744073709551616;omega),Nw.less (zeY Qe (by omega) _ _ _ _) (by omega)⟩,Cl,(zfY (by omega) _ _ _ _ _).trans hi3,fun j=>(zdV (by omega) _ _ _ _ _).trans (YG j),zcV (xe.trans gW) zab _ _ _ _⟩
theorem zfZ:∀ (l:List V) (x v:V),zap (l++[x]) v=zap l (.mk 25 0 ⟨#[]⟩ [x,v])
 | [],_,_=>rfl
 | y::l,x,v=>by simp only[List.cons_append,zap,zfZ l x v]
theorem Rdr.items {w w':World}{rb ib B n c sh it it':Nat}{A:Oz}{L:Lz}(h:Rdr w rb ib B A n c L sh it)(hu:Up ib ib w w')(hi:w'.cell? ⟨ib,0,none⟩=some (.int .i64 (it':Int)))(hf:∀ j,w'.frozen? ⟨ib,j,none⟩=false):Rdr w' rb ib B A n c L sh it':=by
 have v8:=h.lr;have JG:=h.li;have Hp:=h.ne;have hib:=h.hi;have c1:∀ j,w'.cell? ⟨rb,j,none⟩=w.cell? ⟨rb,j,none⟩:=fun j=>hu.cell v8 Hp Hp j;exact⟨(c1 0).trans h.left,(c1 1).trans h.short,(c1 2).trans h.ptr,hi,fun j=>(World.frozen?_of_block (w:=w) (hu.block rb v8 Hp Hp)).trans (h.fr j),hf,
  h.rd.keep fun p hp=>World.cell?_of_block (w:=w) (hu.block p.block (by have:=h.low;omega) (by omega) (by omega)),h.cap,h.lim,h.hr,h.hi,h.ne,yaR h.lr hu.size,yaR h.li hu.size⟩
theorem zpA {w w':World}{P Q:Nat→Prop}{k n k' n':Nat}{t t':ByteArray}{ks ks':List V}{A A':Oz}{l c l' c' g:Nat}(hk:k < 256)(hn:n < 18446744073709551616)(Gn:k' < 256)(k8:n' < 18446744073709551616)
  (hK:Val.Kids true w P ks A l c) (gV:Val.Kids true w P ks' A' l' c') (kP:∀ i,P i→w'.heap[i]? = w.heap[i]?) (hPQ:∀ i,P i→Q i) (hg:Q g)
  (KY:w'.heap[g]? = some (.cells #[.int .u8 k,.int .u64 n,.string t,.slice A l c,.int .u8 k',.int .u64 n',.string t',.slice A' l' c'] 43 (0,0))) :
  Val.Kids true w' Q [.mk k n t ks,.mk k' n' t' ks'] (some ⟨g,0,none⟩) 2 2:=by
 have hc:∀ j,w'.cell? ⟨g,j,none⟩=(#[.int .u8 k,.int .u64 n,.string t,.slice A l c,.int .u8 k',.int .u64 n',.string t',.slice A' l' c']:Array Value)[j]?:=fun j=>by simp[World.cell?,KY]
 refine⟨rfl,zab,fun _=>⟨g,0,rfl,hg,fun _=>⟨_,KY⟩,?_⟩⟩;exact⟨zbd.2 ⟨A,l,c,by rw[hc];rfl,by rw[hc];rfl,by rw[hc];rfl,by rw[hc];rfl,hk,hn,(hK.keep kP).mono hPQ⟩,zbd.2 ⟨A',l',c',by rw[hc];rfl,by rw[hc];rfl,by rw[hc];rfl,by rw[hc];rfl,Gn,k8,(gV.keep kP).mono hPQ⟩,trivial⟩
structure TS (w wr:World) (ib it G:Nat) (ns:List V) (An:Oz) (nn cn code:Nat) (v:V) (Av:Oz) (lv cv:Nat):Prop where
 hd:HBox wr w.heap.size (.slice An nn cn) (.int .u8 (code:Int))
 res:Box wr (w.heap.size+1) (.int .u8 0) (.int .u64 0) (.string ⟨#[]⟩) (.slice none 0 0)
 box:Box wr G (.int .u8 (v.kind:Int)) (.int .u64 (v.num:Int)) (.string v.text) (.slice Av lv cv)
 far:w.heap.size+1 < G
 kd:v.kind < 256
 nm:v.num < 18446744073709551616
 kids:Val.Kids true wr (fun i=>w.heap.size+2≤i∧i < wr.heap.size∧i≠G) v.kids Av lv cv
 item:wr.cell? ⟨ib,0,none⟩=some (.int .i64 (it:Int))
 fi:∀ j,wr.frozen? ⟨ib,j,none⟩=false
 up:Up ib ib w wr
 low:ib < w.heap.size
theorem TS.more {w wr:World}{ib it G:Nat}{ns:List V}{An:Oz}{nn cn code:Nat}{v:V}{Av:Oz}{lv cv:Nat}(h:TS w wr ib it G ns An nn cn code v Av lv cv){k n:Nat}{t:ByteArray}{A':Oz}{c':Nat}(hk:k < 256)(hn:n < 18446744073709551616) :
  TS w (((((wr.setCell ⟨G,0,none⟩ (.int .u8 25)).setCell ⟨G,1,none⟩ (.int .u64 0)).setCell ⟨G,2,none⟩ (.string ⟨#[]⟩)).setCell ⟨G,3,none⟩ (.slice (some ⟨wr.heap.size,0,none⟩) 2 2)).alloc (.cells #[.int .u8 k,.int .u64 n,.string t,.slice A' 0 c',.int .u8 (v.kind:Int),.int .u64 (v.num:Int),.string v.text,.slice Av lv cv] 43)).drew ib it G ns An nn cn code (.mk 25 0 ⟨#[]⟩ [.mk k n t [],v]) (some ⟨wr.heap.size,0,none⟩) 2 2:=by
 have hf:=h.far;have hl:=h.low;have hg:=h.box.lt;have hs:=h.up.size;obtain⟨w1,xg⟩:∃ w1,(((wr.setCell ⟨G,0,none⟩ (.int .u8 25)).setCell ⟨G,1,none⟩ (.int .u64 0)).setCell ⟨G,2,none⟩ (.string ⟨#[]⟩)).setCell ⟨G,3,none⟩ (.slice (some ⟨wr.heap.size,0,none⟩) 2 2)=w1:=⟨_,rfl⟩;have gu:w1.heap.size=wr.heap.size:=by rw[←xg];exact zek _ _ _ _ _ _
 have h1:∀ i,i≠G→w1.heap[i]? = wr.heap[i]?:=fun i hi=>by rw[←xg];exact zci _ _ _ _ _ _ i hi
 have Hz:Box w1 G (.int .u8 25) (.int .u64 0) (.string ⟨#[]⟩) (.slice (some ⟨wr.heap.size,0,none⟩) 2 2):=by rw[←xg];exact Box.set4 h.box _ _ _ _
 have yY:Up ib ib w w1:=by rw[←xg];exact zcV h.up (by omega) _ _ _ _
 rw[xg];obtain⟨w2,Qd⟩:∃ w2,(w1.alloc (.cells #[.int .u8 k,.int .u64 n,.string t,.slice A' 0 c',.int .u8 (v.kind:Int),.int .u64 (v.num:Int),.string v.text,.slice Av lv cv] 43)).drew=w2:=⟨_,rfl⟩;have He:Below w1.heap.size w1 w2:=by subst Qd;exact((za _ _)).drew
 have Gw:w2.heap.size=wr.heap.size+1:=by subst Qd;show (w1.alloc _).heap.size=_;simp[gu]
 have hold:∀ i,i < wr.heap.size→i≠G→w2.heap[i]? = wr.heap[i]?:=fun i hi hG=>(He.block i (by omega)).trans (h1 i hG);have KY:w2.heap[wr.heap.size]? = some (.cells #[.int .u8 k,.int .u64 n,.string t,.slice A' 0 c',.int .u8 (v.kind:Int),.int .u64 (v.num:Int),.string v.text,.slice Av lv cv] 43 (0,0)):=by subst Qd;rw[←gu];exact heap_alloc_new w1 _
 rw[Qd];obtain⟨vk,vn,vt,vks⟩:=v;refine⟨h.hd.keep (hold _ h.hd.lt (by omega)),(hold _ h.res.lt (by omega)).trans h.res,(He.block _ (by omega)).trans Hz,hf,(by show 25 < 256;omega),(by show 0 < 18446744073709551616;omega),?_,?_,?_,yY.call He,hl⟩
 ·exact zpA (w:=wr) hk hn h.kd h.nm (Val.Kids.none_ _ _ _ _ _) h.kids (fun i hi=>hold i hi.2.1 hi.2.2) (fun i hi=>⟨hi.1,by omega,hi.2.2⟩) ⟨by omega,by omega,by omega⟩ KY
 ·exact(World.cell?_of_block (w:=wr) (hold ib (by omega) (by omega))).trans h.item
 ·exact fun j=>(World.frozen?_of_block (w:=wr) (hold ib (by omega) (by omega))).trans (h.fi j)
section
variable {w:World} {rb ib B n c sh it:Nat} {A:Oz} {L:Lz} {ns:List V} {An:Oz} {nn cn code:Nat} {d:Lz} {Ad:Oz} {nd cd:Nat}
def cntW (w:World)(ib T:Nat)(An:Oz)(nn cn code:Nat):World:=
 (((w.alloc (.cells #[.slice An nn cn,.int .u8 (code:Int)] 100)).alloc (.cells #[.int .u8 0,.int .u64 0,.string ⟨#[]⟩,.slice none 0 0] 43)).setCell ⟨ib,0,none⟩ (.int .i64 (T:Int))).drew
theorem zpB (w:World)(ib T:Nat)(An:Oz)(nn cn code:Nat):(cntW w ib T An nn cn code).heap.size=w.heap.size+2:=by simp[cntW]
theorem zel (w:World)(An:Oz)(nn cn code:Nat):Below w.heap.size w ((w.alloc (.cells #[.slice An nn cn,.int .u8 (code:Int)] 100)).alloc (.cells #[.int .u8 0,.int .u64 0,.string ⟨#[]⟩,.slice none 0 0] 43)):=
 ((Below.refl _ w).alloc zab _).alloc (by simp) _
theorem zmH (h:Rdr w rb ib B A n c L sh it)(T:Nat):Rdr (cntW w ib T An nn cn code) rb ib B A n c L sh T:=((h.call (zel w An nn cn code)).setItem T).call (Below.refl _ _).drew
theorem zrc (T:Nat):Up ib ib w (cntW w ib T An nn cn code):=((Up.of (zel w An nn cn code)).setA 0 _).call (Below.refl _ _).drew
theorem ztH (h:ib < w.heap.size)(T:Nat):HBox (cntW w ib T An nn cn code) w.heap.size (.slice An nn cn) (.int .u8 (code:Int)):=
 ((HBox.new w (.slice An nn cn) (.int .u8 (code:Int))).keep (w':=(w.alloc (.cells #[.slice An nn cn,.int .u8 (code:Int)] 100)).alloc (.cells #[.int .u8 0,.int .u64 0,.string ⟨#[]⟩,.slice none 0 0] 43)) (yaW _ _ _ (by simp))).keep (yaS _ ⟨ib,0,none⟩ (.int .i64 (T:Int)) _ (by simp;omega))
theorem zrX (h:ib < w.heap.size)(T:Nat):Box (cntW w ib T An nn cn code) (w.heap.size+1) (.int .u8 0) (.int .u64 0) (.string ⟨#[]⟩) (.slice none 0 0):=
 (yaS ((w.alloc (.cells #[.slice An nn cn,.int .u8 (code:Int)] 100)).alloc (.cells #[.int .u8 0,.int .u64 0,.string ⟨#[]⟩,.slice none 0 0] 43)) ⟨ib,0,none⟩ (.int .i64 (T:Int)) _ (by simp;omega)).trans (Box.new2 w _ _ _ _ _)
theorem zmI (h:Rdr w rb ib B A n c L sh it)(Gx:it≤1024)(Q4:nn≤16)(hm:1024 < it+1+2 * nn) :
  Calls prog 63 #[.pointer (some ⟨rb,0,none⟩),.agg #[.slice An nn cn,.int .u8 (code:Int)],.slice Ad nd cd] w (Fails 6 ib ib w):=by
 obtain⟨T,hT⟩:∃ T:Nat,it+1+2 * nn=T:=⟨_,rfl⟩;obtain⟨W3,Qg⟩:∃ W3,(((w.alloc (.cells #[.slice An nn cn,.int .u8 (code:Int)] 100)).alloc (.cells #[.int .u8 0,.int .u64 0,.string ⟨#[]⟩,.slice none 0 0] 43)).setCell ⟨ib,0,none⟩ (.int .i64 (T:Int))).drew=W3:=⟨_,rfl⟩;have hR:Rdr W3 rb ib B A n c L sh T:=Qg▸zmH h T;have hU:Up ib ib w W3:=Qg▸zrc T;have hH:=h.call (zel w An nn cn code).drew;have e1:IntKind.i64.wrap (2 * (nn:Int))=2 * (nn:Int):=by rw[IntKind.wrap_i64];omega
 have e2:IntKind.i64.wrap (1+2 * (nn:Int))=1+2 * (nn:Int):=by rw[IntKind.wrap_i64];omega
 have e3:IntKind.i64.wrap ((it:Int)+(1+2 * (nn:Int)))=(T:Int):=by rw[IntKind.wrap_i64];omega
 have hgt:(T:Int) > 1024:=by omega
 have x0:=hH.ptr;have x1:=hH.item;have x2:=hH.fi 0;have y0:=hR.ptr;have y1:=hR.item;have HW:=zaa Qg;clear hT hm hH Gx Q4 Qg;go_enter func63,ntmps63;go_wp2;go_region;rw[HW.out];go_wp2;exact⟨rfl,rfl,hU⟩
theorem zrY {F:Nat}(hT:Told F)(h:Rdr w rb ib B A n c L sh it)(hN:Nms w rb ib ns An nn cn)(hr:Rd .u8 256 w B Ad nd d)(hc:nd≤cd)(hl:nd≤1099511627776)(hF:d.length≤F){T:Nat}(hTn:it+1+2 * ns.length=T)(vU:T≤1024) :
  Calls prog 63 #[.pointer (some ⟨rb,0,none⟩),.agg #[.slice An nn cn,.int .u8 (code:Int)],.slice Ad nd cd] w (zmB rb ib B A n c L sh (match zc6 (zaG F) T code d with | none=>none | some (v,it')=>some (zap ns v,it')) w):=by
 obtain⟨W3,Qg⟩:∃ W3,(((w.alloc (.cells #[.slice An nn cn,.int .u8 (code:Int)] 100)).alloc (.cells #[.int .u8 0,.int .u64 0,.string ⟨#[]⟩,.slice none 0 0] 43)).setCell ⟨ib,0,none⟩ (.int .i64 (T:Int))).drew=W3:=⟨_,rfl⟩;have yW:nn=ns.length:=hN.kids.len;have Q4:=hN.few;have JG:=h.li;have v8:=h.lr;have gO:=h.low;have hR:Rdr W3 rb ib B A n c L sh T:=Qg▸zmH h T;have hU:Up ib ib w W3:=Qg▸zrc T;have Bo:HBox W3 w.heap.size (.slice An nn cn) (.int .u8 (code:Int)):=Qg▸ztH JG T;have kY:Box W3 (w.heap.size+1) (.int .u8 0) (.int .u64 0) (.string ⟨#[]⟩) (.slice none 0 0):=Qg▸zrX JG T;have jg:W3.heap.size=w.heap.size+2:=Qg▸zpB w ib T An nn cn code;have kT:Rd .u8 256 W3 B Ad nd d:=hr.below (hU.below h.hi h.hi gO);have hH:=h.call (zel w An nn cn code).drew;have e1:IntKind.i64.wrap (2 * (nn:Int))=2 * (nn:Int):=by rw[IntKind.wrap_i64];omega
 have e2:IntKind.i64.wrap (1+2 * (nn:Int))=1+2 * (nn:Int):=by rw[IntKind.wrap_i64];omega
 have e3:IntKind.i64.wrap ((it:Int)+(1+2 * (nn:Int)))=(T:Int):=by rw[IntKind.wrap_i64];omega
 have hgt:¬ (T:Int) > 1024:=by omega
 have x0:=hH.ptr;have x1:=hH.item;have x2:=hH.fi 0;have y0:=hR.ptr;have y1:=hR.item;obtain⟨y3,y4,_⟩:=Bo.all;have hA:=zmG hT hR vU (code:=code) kT hc hl hF;have HW:=zaa Qg;have yZ:=zaa jg;have HNL:=zaa yW;clear hTn vU hH Qg jg yW JG v8 gO;cases JM:zc6 (zaG F) T code d with
 | none=>
  rw[JM] at hA;go_enter func63,ntmps63;go_wp2;go_region;rw[HW.out];go_wp2_with ((go_at_call 109;refine hA.mono ?_;rintro e w4 ⟨rfl,KW⟩));exact⟨rfl,rfl,hU.trans KW⟩
 | some p=>
  obtain⟨v0,it'⟩:=p;rw[JM] at hA;obtain⟨VV,Bp⟩:∃ VV,zap ns v0=VV:=⟨_,rfl⟩
  show Calls _ _ _ _ (zmB rb ib B A n c L sh (some (zap ns v0,it')) w)
  rw[Bp];have HVV:Hid (zap (ns.take nn) v0=VV):=zaa (by rw[List.take_of_length_le (by have:=HNL.out;omega)];exact Bp);clear Bp;have US:IntKind.i64.wrap ((nn:Int) - 1)=(nn:Int) - 1:=by rw[IntKind.wrap_i64];omega
  go_enter func63,ntmps63;go_wp2;go_region;rw[HW.out];go_wp2_with ((go_at_call 109;refine hA.mono ?_;rintro e w4 ⟨⟨Av,lv,cv,rfl,Kb,kC,JJ⟩,Q5,hi4,hf4,KW⟩;have gl:=(HBox.up Bo KW (Nat.ne_of_gt h.li) (Nat.ne_of_gt h.li)).keep (w':=w4.alloc (.cells #[.int .u8 (v0.kind:Int),.int .u64 (v0.num:Int),.string v0.text,.slice Av lv cv] 43)) (yaW _ _ _ (by have:=Bo.lt;have:=KW.size;omega));obtain⟨y5,y6,_⟩:=gl.all));have Va:=KW.size;have jg:=yZ.out;have JG:=h.li;have v8:=h.lr;have gO:=h.low;obtain⟨W5,JL⟩:∃ W5,w4.alloc (.cells #[.int .u8 (v0.kind:Int),.int .u64 (v0.num:Int),.string v0.text,.slice Av lv cv] 43)=W5:=⟨_,rfl⟩;obtain⟨G,hG⟩:∃ G,w4.heap.size=G:=⟨_,rfl⟩;have j2:Below w4.heap.size w4 W5:=by rw[←JL];exact(za _ _)
  have Jd:W5.heap.size=G+1:=by rw[←JL,←hG];simp
  have hTS:TS w W5 ib it' G ns An nn cn code v0 Av lv cv:=
   ⟨by rw[←JL];exact gl,(j2.block _ (by omega)).trans (Box.up kY KW (by omega) (by omega)),by rw[←JL,←hG];exact Box.new _ _ _ _ _,by omega,Kb,kC,(JJ.keep fun i hi=>j2.block i hi.2).mono fun i hi=>⟨by omega,by omega,by omega⟩,(j2.cell (p:=⟨ib,0,none⟩) (by show ib < _;omega)).trans hi4,fun j=>(j2.frozen (p:=⟨ib,j,none⟩) (by show ib < _;omega)).trans (hf4 j),(hU.trans KW).call j2,JG⟩
  rw[JL,hG];clear JL hG gl y5 y6 jg Va j2 JJ hi4 hf4 Kb kC JG v8 gO;go_loopg [8] nn (fun g s8 wr=>∃ (v:V) (Av:Oz) (lv cv:Nat),g≤nn∧s8=.int .i64 ((g:Int) - 1)∧TS w wr ib it' G ns An nn cn code v Av lv cv∧zap (ns.take g) v=VV)
  case atStart=>exact⟨v0,Av,lv,cv,zab,rfl,hTS,HVV.out⟩
  case round=>
   obtain⟨v,Av,lv,cv,hgn,rfl,hS,hV⟩:=hrel;have gO:=hS.low;have Cm:=zaa gO;clear gO;clear hTS;obtain⟨z0,z1,_⟩:=hS.hd.all;obtain⟨b0,b1,b2,b3,bf⟩:=hS.box.all;obtain⟨q0,q1,q2,q3,qf⟩:=hS.res.all;have Vt:=hS.box.lt;have Jr:=hS.far;cases gk with
   | zero=>
    rw[List.take_zero] at hV;have hV:v=VV:=hV;subst hV;have qB:G≠w.heap.size+1:=by omega
    go_wp2;refine bodyPost_ret (v:=.agg #[.int .u8 (v.kind:Int),.int .u64 (v.num:Int),.string v.text,.slice Av lv cv]) (by simp[results,results63,go_sem,q0,q1,q2,q3]) rfl ?_;have gO:=Cm.out;have yY:=zcV (hS.up) (g:=w.heap.size+1) (by omega) (.int .u8 (v.kind:Int)) (.int .u64 (v.num:Int)) (.string v.text) (.slice Av lv cv);refine⟨⟨Av,lv,cv,rfl,hS.kd,hS.nm,?_⟩,Q5,h.items yY ((zfY (by omega) _ _ _ _ _).trans hS.item) fun j=>(zdV (by omega) _ _ _ _ _).trans (hS.fi j),yY⟩;exact(hS.kids.keep fun i hi=>zci _ _ _ _ _ _ i (by omega)).mono fun i hi=>⟨by omega,by rw[zek];exact hi.2.1⟩
   | succ m=>
    have YH:m < nn:=by omega
    have em:(((m+1:Nat):Int)) - 1=(m:Int):=by omega
    rw[em];have qO:(m:Int) ≥ 0:=by omega
    have JN:Val.Kids true wr (fun i=>i < w.heap.size∧i≠rb∧i≠ib) ns An nn cn:=hN.kids.keep fun i hi=>hS.up.block i hi.1 hi.2.2 hi.2.2;obtain⟨b,o,k,n',t,ks',A',l',c',hAn,hP,hx,h0,h1,h2,h3,Gn,k8,gV⟩:=JN.at_ YH;subst hAn;have gQ:ks'=[]:=(hN.fl _ (List.mem_of_getElem? hx)).kids;subst gQ;have jH:l'=0:=gV.len;subst jH;have Bq:zap (ns.take m) (.mk 25 0 ⟨#[]⟩ [.mk k n' t [],v])=VV:=by rw[←zfZ,←hV];congr 1;rw[List.take_add_one,hx];rfl
    have HX:=zaa Bq;have xg:IntKind.i64.wrap ((m:Int) - 1)=(m:Int) - 1:=by rw[IntKind.wrap_i64];omega
    have hmi:(m:Int) < (nn:Int):=by omega
    clear Bq hV em hx;go_wp2;go_region;go_wp2;go_roundg m
    case measure=>omega
    case rel=>exact⟨_,_,_,_,by omega,rfl,hS.more Gn k8,HX.out⟩
theorem zmJ {F:Nat}(hT:Told F):Told (F+1):=⟨fun w rb ib B n c sh it A L ns An nn cn code d Ad nd cd h Gx hN _ hr hc hl hF=>by
 rw[zcJ];have yW:nn=ns.length:=hN.kids.len;by_cases hm:1024 < it+1+2 * ns.length
 ·rw[if_pos hm];exact zmI h Gx hN.few (by omega)
 ·rw[if_neg hm];exact zrY hT h hN hr hc hl (by omega) rfl (by omega)⟩
end
theorem zem:∀ F:Nat,Told F
 | 0=>⟨fun _ _ _ _ _ _ _ _ _ _ _ _ _ _ _ _ _ _ _ _ _ _ _ _ _ _ hF=>absurd hF (Nat.not_lt_zero _)⟩
 | F+1=>zmJ (zem F)
end Dec
end Go.Proofs.YtbbbanfggcediaaGreatDoor
