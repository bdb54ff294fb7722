/- Contracts, each with its premises. -/
import Derived.Test.YtbbbanfggcediaaGreatDoorY05
set_option maxRecDepth 100000
set_option maxHeartbeats 8000000
namespace Go.Proofs.YtbbbanfggcediaaGreatDoor
open _root_.Go.Proofs.Tryz
open Bool renaming and_eq_true→ybh
namespace Val
open Go.RowKit Utf V
noncomputable def okD (c d:Nat)(v:V):Bool:=decide (c+items v≤1024)&&decide (d+depth v≤17)&&mayB v
theorem zdE (k n:Nat)(t:ByteArray)(ks:List V):items (.mk k n t ks)=zah ks+1:=by simp only[items]
theorem zdF (k n:Nat)(t:ByteArray)(ks:List V):depth (.mk k n t ks)=zas ks+1:=by simp only[depth]
theorem zdX {c d:Nat}{v:V}(h:okD c d v=true):c+items v≤1024∧d+depth v≤17∧mayB v=true:=by
 simp only[okD,ybh,decide_eq_true_eq] at h;exact⟨h.1.1,h.1.2,h.2⟩
theorem zmY {c d:Nat}{v:V}(h1:c+items v≤1024)(h2:d+depth v≤17)(h3:mayB v=true):okD c d v=true:=by
 simp only[okD,ybh,decide_eq_true_eq];exact⟨⟨h1,h2⟩,h3⟩
theorem zgN {c d:Nat}{v:V}(h:okD c d v=true→False):okD c d v=false:=by
 cases h':okD c d v with
 | false=>rfl
 | true=>exact(h h').elim
theorem zkx {c d:Nat}{k n:Nat}{t:ByteArray}{ks:List V}(h:16 < d):okD c d (.mk k n t ks)=false:=
 zgN fun h'=>by have:=(zdX h').2.1;rw[zdF] at this;omega
theorem zky {c d:Nat}{k n:Nat}{t:ByteArray}{ks:List V}(h:1024≤c):okD c d (.mk k n t ks)=false:=
 zgN fun h'=>by have:=(zdX h').1;rw[zdE] at this;omega
theorem zmZ {k n:Nat}{t:ByteArray}{ks:List V}(h:mayB (.mk k n t ks)=true):mayL ks=true∧zam k n t ks.length=true∧zaR k ks=true:=by
 simp only[mayB,ybh] at h;exact⟨h.1.1,h.1.2,h.2⟩
theorem ziv {c d:Nat}{k n:Nat}{t:ByteArray}{ks:List V}(h:zam k n t ks.length=false):okD c d (.mk k n t ks)=false:=
 zgN fun h'=>by have:=(zmZ (zdX h').2.2).2.1;rw[h] at this;cases this
theorem zm0 {c d:Nat}{k n i:Nat}{t:ByteArray}{ks:List V}{v:V}(hx:ks[i]? = some v)(h:okD (c+1+zah (ks.take i)) (d+1) v=false):okD c d (.mk k n t ks)=false:=
 zgN fun h'=>by
  obtain⟨a1,a2,a3⟩:=zdX h';rw[zdE] at a1;rw[zdF] at a2;have h1:=zdS hx;have h2:=zbQ ks (i+1);have h3:=zdT hx;have h4:=zbl ks (i+1);rw[zmY (by omega) (by omega) (zbj (zmZ a3).1 _ (List.mem_of_getElem? hx))] at h;cases h
theorem zsa {c d:Nat}{k n:Nat}{t:ByteArray}{ks:List V}(h1:c+1+zah ks≤1024)(h2:d+zas ks≤16)(h3:mayL ks=true)(h4:zam k n t ks.length=true):okD c d (.mk k n t ks)=zaR k ks:=by
 cases hq:zaR k ks with
 | true=>exact zmY (by rw[zdE];omega) (by rw[zdF];omega) (by simp[mayB,h3,h4,hq])
 | false=>exact zgN fun h'=>by have:=(zmZ (zdX h').2.2).2.2;rw[hq] at this;cases this
theorem zau {w w':World}(h:Below w.heap.size w w')(row:Option Nat):w.grownBy w' row:=⟨h.os,h.tape,h.output,h.size,fun i hi _=>h.block i hi⟩
theorem zm1 {w w':World}{g:Nat}(h:Tab w)(hg:w.grownBy w' (some g))(h0:0 < g):Tab w':=by
 have hp:=h.pos;obtain⟨t,fr,h⟩:=h;exact⟨t,fr,(hg.block 0 hp (by intro e;cases e;omega)).trans h⟩
def ziw (p:Bool)(c:Nat)(g:Nat)(w:World)(e:Ending)(w':World):Prop:=∃ c1:Nat,e=.returned (.bool p)∧Boxed w' g 105 (.int .i64 c1)∧(p=true→c1=c)∧w.grownBy w' (some g)
theorem zm2 (hT:zfx)(N:Nat):∀ (k n:Nat) (t:ByteArray) (ks:List V) (A:Oz) (l c d c0 g B:Nat) (w:World),zai ks≤N→N≤1073741824→t.size≤1073741824→n < 18446744073709551616→d≤17→c0≤1024 →
  Kids false w (fun i=>i < B) ks A l c→Tab w→0 < B→B≤g→Boxed w g 105 (.int .i64 c0) →
  Calls prog 65 #[.pointer (some ⟨g,0,none⟩),.agg #[.int .u8 k,.int .u64 n,.string t,.slice A l c],.int .i64 d] w (ziw (okD c0 d (.mk k n t ks)) (c0+zah ks+1) g w):=by
 induction N using Nat.strongRecOn with
 | ind N ih=>
 intro k n t ks A l c d c0 g B w hN k9 ht hn hd j3 hK Ho GK hBg Hz;have Kz:g < w.heap.size:=(Array.getElem?_eq_some_iff.1 Hz).1;have HL:=zaa hK.len;have Qc:l≤ks.length:=Nat.le_of_eq hK.len;have Jb:=za0 ks;have b0:=Box.new (w.setCell ⟨g,0,none⟩ (.int .i64 ((c0:Int)+1))) (.int .u8 k) (.int .u64 n) (.string t) (.slice A l c);have g0:=(Hz.set (.int .i64 ((c0:Int)+1))).alloc (.cells #[.int .u8 k,.int .u64 n,.string t,.slice A l c] 43);have e0:=Hz.cell;have eF:=Hz.frozen;have Xn:w.grownBy ((w.setCell ⟨g,0,none⟩ (.int .i64 ((c0:Int)+1))).alloc (.cells #[.int .u8 k,.int .u64 n,.string t,.slice A l c] 43)) (some g):=(zei w ⟨g,0,none⟩ _).trans (World.grownBy_alloc _ _ (some g));have YV:Tab ((w.setCell ⟨g,0,none⟩ (.int .i64 ((c0:Int)+1))).alloc (.cells #[.int .u8 k,.int .u64 n,.string t,.slice A l c] 43)):=Ho.below (B:=B) (((Below.refl B w).setCell (p:=⟨g,0,none⟩) hBg _).alloc (by simp;omega) _) GK;simp only[World.size_setCell] at b0;have IH:=zaa ih;clear ih;go_enter func65,ntmps65;go_upto_region 2 with fail
 obtain⟨W1,Ko⟩:∃ W1,(w.setCell ⟨g,0,none⟩ (.int .i64 ((c0:Int)+1))).alloc (.cells #[.int .u8 k,.int .u64 n,.string t,.slice A l c] 43)=W1:=⟨_,rfl⟩;rw[Ko] at b0 g0 Xn YV ⊢;clear Ko e0 eF;obtain⟨p0,p1,p2,p3,pf⟩:=b0.all;have e0:=g0.cell;have hsW:=Xn.size;by_cases hd16:d≤16
 ·by_cases gM:c0 < 1024
  ·cases JM:zam k n t l with
   | false=>
    have Jg:=zaa JM;clear JM;go_wp2_with fail;refine(zdP k n t A l c W1 YV ht hn).mono ?_;rw[Jg.out];rintro e w2 ⟨rfl,He⟩;go_wp2;go_ret;exact⟨c0+1,by rw[ziv (by rw[←HL.out];exact Jg.out)];rfl,zbp g0 He (by omega),fun h=>(by rw[ziv (by rw[←HL.out];exact Jg.out)] at h;cases h),Xn.trans (zau He (some g))⟩
   | true=>
    have Jg:=zaa JM;clear JM;go_wp2_with fail;refine(zdP k n t A l c W1 YV ht hn).mono ?_;rw[Jg.out];rintro e w2 ⟨rfl,He⟩;replace b0:=b0.call He;replace g0:=zbp g0 He (by omega);obtain⟨q0,q1,q2,q3,qf⟩:=b0.all;have Cu:=Xn.trans (zau He (some g));go_wp2_with fail;have Xo:=zaa (YV.call He);have HK:=zaa hK;clear YV hK Ho Hz Xn;go_loopw [33] (fun i wr=>∃ j:Nat,j≤l∧i=.int .i64 j∧Boxed wr g 105 (.int .i64 ((c0+1+zah (ks.take j):Nat):Int))∧Box wr w.heap.size (.int .u8 k) (.int .u64 n) (.string t) (.slice A l c)∧Tab wr∧(c0+1+zah (ks.take j)≤1024∧d+zas (ks.take j)≤16∧mayL (ks.take j)=true)∧w.heap.size < wr.heap.size∧w.grownBy wr (some g)) (fun i _=>l - (intOf i).toNat)
    case atStart=>exact⟨0,Nat.zero_le _,rfl,by simpa [zah] using g0,b0,Xo.out,⟨by simp only[List.take_zero,zah];omega,by simp only[List.take_zero,zas];omega,rfl⟩,b0.lt,Cu⟩
    case round=>
     obtain⟨j,hj,rfl,G0,B0,hT1,Hq,Hu,U1⟩:=hrel;have Ve:=zaa Hq;obtain⟨Ga,Gh,Km⟩:=Hq;have BE:Kids false wr (fun i=>i < B) ks A l c:=HK.out.keep fun i hi=>U1.block i (by omega) (by intro e;cases e;omega);obtain⟨q0,q1,q2,q3,qf⟩:=B0.all;by_cases Hi:j < l
     ·obtain⟨b,o,k',n',t',ks',A',l',c',rfl,j0,hx,h0,h1,h2,h3,Gn,k8,gV⟩:=BE.at_ Hi;have GY:=zcT hx;simp only[bulk] at GY;have HX:=zaa hx;clear hx Km;have qP:Below wr.heap.size wr (wr.alloc (.cells #[.int .u8 k',.int .u64 n',.string t',.slice A' l' c'] 43)):=(za _ _);obtain⟨p,hp⟩:∃ p,okD (c0+1+zah (ks.take j)) (d+1) (.mk k' n' t' ks')=p:=⟨_,rfl⟩;have Hx:=IH.out (zai ks') (by omega) k' n' t' ks' A' l' c' (d+1) (c0+1+zah (ks.take j)) g B (wr.alloc (.cells #[.int .u8 k',.int .u64 n',.string t',.slice A' l' c'] 43)) zab (by omega) (by omega) k8 (by omega) Ga (gV.keep fun i hi=>qP.block i (by omega)) (hT1.call qP) GK hBg (zbp G0 qP (by omega));rw[hp] at Hx;have HP:=zaa hp;have HC:=zaa Hx;clear hp Hx BE gV;cases p with
      | false=>
       go_wp2_with fail;refine HC.out.mono ?_;rintro e w3 ⟨c1,rfl,G3,jK,Yc⟩;go_wp2;go_ret;exact⟨c1,by rw[zm0 HX.out HP.out];rfl,G3,fun h=>(by rw[zm0 HX.out HP.out] at h;cases h),(U1.trans (zau qP (some g))).trans Yc⟩
      | true=>
       go_wp2_with fail;refine HC.out.mono ?_;rintro e w3 ⟨c1,rfl,G3,jK,Yc⟩;have hg4:=(U1.trans (zau qP (some g))).trans Yc;have j4:=(zau qP (some g)).trans Yc;obtain⟨o1,o2,o3⟩:=zdX HP.out;rw[zdE] at o1;rw[zdF] at o2;have Gx:=zdS HX.out;rw[zdE] at Gx;have QE:=zdT HX.out;rw[zdF] at QE;have Jd:=j4.size;have UX:c1=c0+1+zah (ks.take (j+1)):=by have:=jK rfl;omega
       have B3:Box w3 w.heap.size (.int .u8 k) (.int .u64 n) (.string t) (.slice (some ⟨b,o,none⟩) l c):=(j4.block _ Hu (by intro e;cases e;omega)).trans B0;have hT3:=zm1 hT1 j4 (by omega);have Cv:=zaa (show c0+1+zah (ks.take (j+1))≤1024∧d+zas (ks.take (j+1))≤16∧mayL (ks.take (j+1))=true from ⟨by omega,by omega,by rw[zio HX.out,Ve.out.2.2,o3];rfl⟩);have HCE:=zaa UX;clear Gx QE UX jK o1 o2 o3;go_wp2;go_roundw
       case rel=>exact⟨j+1,by omega,by go_num,by rw[←HCE.out];exact G3,B3,hT3,Cv.out,by omega,hg4⟩
       case measure=>simp[intOf];omega
     ·have HE:Hid (ks.take j=ks):=zaa (List.take_of_length_le (by have:=HL.out;omega));rw[HE.out] at G0 Ve;clear Ga Gh Km;go_wp2_with fail;refine(zir hT k n t ks A l c wr (by omega) Ve.out.2.2 (BE.mono fun i hi=>by omega)).mono ?_;rintro e w3 ⟨rfl,Hj⟩;have Yc:=U1.trans (zau Hj (some g));go_wp2;go_ret;exact⟨c0+1+zah ks,by rw[zsa Ve.out.1 Ve.out.2.1 Ve.out.2.2 (by rw[←HL.out];exact Jg.out)];rfl,zbp G0 Hj (by omega),fun _=>by omega,Yc⟩
  ·go_wp2_with fail;go_ret;exact⟨c0+1,by rw[zky (by omega)];rfl,g0,fun h=>(by rw[zky (by omega)] at h;cases h),Xn⟩
 ·go_wp2_with fail;go_ret;exact⟨c0+1,by rw[zkx (by omega)];rfl,g0,fun h=>(by rw[zkx (by omega)] at h;cases h),Xn⟩
theorem zsb (v:V):okD 0 1 v=okB v:=by
 cases h:okB v with
 | true=>
  simp only[okB,ybh,decide_eq_true_eq] at h;exact zmY (by omega) (by omega) h.2
 | false=>
  refine zgN fun h'=>?_;obtain⟨h1,h2,h3⟩:=zdX h';have:okB v=true:=by
   simp only[okB,ybh,decide_eq_true_eq];exact⟨⟨by omega,by omega⟩,h3⟩
  rw[h] at this;cases this
theorem zm3 (hT:zfx)(k n:Nat)(t:ByteArray)(ks:List V)(A:Oz)(l c:Nat)(w:World)(hN:zai ks≤1073741824)(ht:t.size≤1073741824)(hn:n < 18446744073709551616)(hK:Kd w ks A l c)(Ho:Tab w) :
  Calls prog 32 #[.agg #[.int .u8 k,.int .u64 n,.string t,.slice A l c]] w (zaj (okB (.mk k n t ks)) w):=by
 have hB:=zaw w (.cells #[.int .u8 k,.int .u64 n,.string t,.slice A l c] 43) (.cells #[.int .i64 0] 105);have g0:=Boxed.new (w.alloc (.cells #[.int .u8 k,.int .u64 n,.string t,.slice A l c] 43)) 105 (.int .i64 0);simp only[World.size_alloc] at g0;have hp:=Ho.pos;have HT:=zaa Ho;clear Ho;go_enter func32,ntmps32;go_wp2_with fail;refine(zm2 hT (zai ks) k n t ks A l c 1 0 (w.heap.size+1) w.heap.size _ zab hN ht hn (by omega) (by omega) (hK.keep fun i hi=>hB.block i hi) (HT.out.call hB) hp (by omega) g0).mono ?_;rintro e w2 ⟨c1,rfl,_,_,hg⟩;rw[zsb];go_wp2;go_ret;exact⟨rfl,hB.grown hg hB.size (fun k e=>by cases e;omega)⟩
theorem zcL (k n:Nat)(t:ByteArray)(ks:List V)(A:Oz)(l c:Nat)(w:World)(hN:zai ks≤1073741824)(ht:t.size≤1073741824)(hn:n < 18446744073709551616)(hK:Kd w ks A l c)(Ho:Tab w) :
  Calls prog 32 #[.agg #[.int .u8 k,.int .u64 n,.string t,.slice A l c]] w (zaj (okB (.mk k n t ks)) w):=zm3 zlK k n t ks A l c w hN ht hn hK Ho
def one:V:=.mk 5 1 ⟨#[]⟩ []
def bks:List V:=[one,one,one,one]
theorem emp0:zaW ⟨#[]⟩=true:=rfl
section
variable (A:Oz) (l c:Nat) (w:World)
theorem zhw:Calls prog 49 #[] w fun e w'=>e=.returned (.agg #[.int .u8 1,.int .u64 0,.string ⟨#[]⟩,.slice none 0 0])∧Below w.heap.size w w':=zaO w
end
def El (w:World)(b p k n:Nat)(t:ByteArray)(ks:List V)(A:Oz)(l c:Nat):Prop:=
 b < w.heap.size∧w.cell? ⟨b,p,none⟩=some (.int .u8 k)∧w.cell? ⟨b,p+1,none⟩=some (.int .u64 n)∧w.cell? ⟨b,p+2,none⟩=some (.string t)∧w.cell? ⟨b,p+3,none⟩=some (.slice A l c)∧Kd w ks A l c
section
variable {w w':World} {b p k n:Nat} {t:ByteArray} {ks:List V} {A:Oz} {l c:Nat}
theorem El.lt (h:El w b p k n t ks A l c):b < w.heap.size:=h.1
theorem El.kd (h:El w b p k n t ks A l c):Kd w ks A l c:=h.2.2.2.2.2
theorem El.call (h:El w b p k n t ks A l c)(hb:Below w.heap.size w w'):El w' b p k n t ks A l c:=
 ⟨Nat.lt_of_lt_of_le h.1 hb.size,(hb.cell (p:=⟨b,p,none⟩) h.1).trans h.2.1,(hb.cell (p:=⟨b,p+1,none⟩) h.1).trans h.2.2.1,(hb.cell (p:=⟨b,p+2,none⟩) h.1).trans h.2.2.2.1,(hb.cell (p:=⟨b,p+3,none⟩) h.1).trans h.2.2.2.2.1,h.2.2.2.2.2.call hb⟩
theorem El.held (h:El w b p k n t ks A l c)(hb:Below w.heap.size w w'):w'.cell? ⟨b,p,none⟩=some (.int .u8 k)∧w'.cell? ⟨b,p+1,none⟩=some (.int .u64 n)∧w'.cell? ⟨b,p+2,none⟩=some (.string t)∧w'.cell? ⟨b,p+3,none⟩=some (.slice A l c)∧Below w.heap.size w w':=
 have h:=h.call hb
 ⟨h.2.1,h.2.2.1,h.2.2.2.1,h.2.2.2.2.1,hb⟩
theorem El.cells (h:El w b p k n t ks A l c):w.cell? ⟨b,p,none⟩=some (.int .u8 k)∧w.cell? ⟨b,p+1,none⟩=some (.int .u64 n)∧w.cell? ⟨b,p+2,none⟩=some (.string t)∧w.cell? ⟨b,p+3,none⟩=some (.slice A l c):=⟨h.2.1,h.2.2.1,h.2.2.2.1,h.2.2.2.2.1⟩
end
section
variable {w:World} {k n:Nat} {t:ByteArray} {ks:List V} {A:Oz} {l c D I:Nat} {r:Bool}
end
theorem zsc (k n:Int)(w:World):Calls prog 67 #[.int .u8 k,.int .u64 n] w fun e w'=>e=.returned (.agg #[.int .u8 k,.int .u64 n,.string ⟨#[]⟩,.slice none 0 0])∧Below w.heap.size w w':=by
 go_enter func67,ntmps67;go_wp2;exact bodyPost_ret (v:=.agg #[.int .u8 k,.int .u64 n,.string ⟨#[]⟩,.slice none 0 0]) (by simp[results,results67,go_sem]) rfl ⟨rfl,(za _ _)⟩
theorem Kd.el {w:World}{ks:List V}{A:Oz}{l c:Nat}(h:Kd w ks A l c){i:Nat}(hi:i < l):∃ b o k n t ks' A' l' c',A=some ⟨b,o,none⟩∧ks[i]? = some (.mk k n t ks')∧k < 256∧n < 18446744073709551616∧bulk (.mk k n t ks')≤zai ks∧El w b (o+i * 4) k n t ks' A' l' c':=by
 obtain⟨b,o,k,n,t,ks',A',l',c',rfl,hb,hx,h0,h1,h2,h3,hk,hn,hK⟩:=h.at_ hi;exact⟨b,o,k,n,t,ks',A',l',c',rfl,hx,hk,hn,zcT hx,hb,h0,h1,h2,h3,hK⟩
end Val
end Go.Proofs.YtbbbanfggcediaaGreatDoor
