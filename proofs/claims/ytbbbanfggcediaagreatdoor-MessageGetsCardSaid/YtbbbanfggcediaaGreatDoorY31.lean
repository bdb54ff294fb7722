/- Contracts, each with its premises. -/
import Derived.Test.YtbbbanfggcediaaGreatDoorY21
set_option maxRecDepth 100000
set_option maxHeartbeats 8000000
namespace Go.Proofs.YtbbbanfggcediaaGreatDoor
open _root_.Go.Proofs.Tryz
open Bool renaming false_ne_true→ycS
open Nat renaming le_trans→ycR
open Go.RowKit.Below renaming heap_setCell→ycQ
namespace Me
open Go.RowKit Utf Val Fl Oc V
structure XQ (w wi:World) (g:Nat) (y0 y1 y2:Int) (y3:ByteArray) (y4:Value) (f:Nat) (ls:List V) (A:Oz) (l c:Nat) (sp:Bool):Prop where
 fld:Fld 122 (fun i=>f≤i) wi f ls A l c sp
 bx:BxM wi g (.int .u8 y0) (.int .u32 y1) (.int .u32 y2) (.string y3) y4
 off:Off (fun i=>i=g) w wi
 ge:w.heap.size≤f
 lt:g < w.heap.size
section
variable {w wi w':World} {g:Nat} {y0 y1 y2:Int} {y3:ByteArray} {y4:Value} {f:Nat} {ls:List V} {A:Oz} {l c:Nat} {sp sp':Bool}
theorem XQ.call (h:XQ w wi g y0 y1 y2 y3 y4 f ls A l c sp)(hb:Below wi.heap.size wi w'):XQ w w' g y0 y1 y2 y3 y4 f ls A l c sp:=⟨h.fld.call hb,h.bx.call hb,h.off.next hb,h.ge,h.lt⟩
theorem XQ.next (h:XQ w wi g y0 y1 y2 y3 y4 f ls A l c sp)(ho:Off (fun i=>i=f) wi w')(hF:Fld 122 (fun i=>f≤i) w' f ls A l c sp'):XQ w w' g y0 y1 y2 y3 y4 f ls A l c sp':=by
 have Hp:g≠f:=by have:=h.ge;have:=h.lt;omega
 refine⟨hF,h.bx.off ho Hp,?_,h.ge,h.lt⟩;exact⟨ho.os.trans h.off.os,ho.tape.trans h.off.tape,ho.output.trans h.off.output,ycR h.off.size ho.size,fun i hi hx=>(ho.block i (Nat.lt_of_lt_of_le hi h.off.size) (by have:=h.ge;omega)).trans (h.off.block i hi hx)⟩
theorem XQ.far (h:XQ w wi g y0 y1 y2 y3 y4 f ls A l c sp)(j:Nat)(v:Value):Fld 122 (fun i=>f≤i) (wi.setCell ⟨g,j,none⟩ v) f ls A l c sp∧Off (fun i=>i=g) w (wi.setCell ⟨g,j,none⟩ v):=by
 have Hp:f≠g:=by have:=h.ge;have:=h.lt;omega
 refine⟨⟨(ycQ wi ⟨g,j,none⟩ v f Hp).trans h.fld.obj,?_,h.fld.mem⟩,h.off.trans (Off.set _ _ _ rfl)⟩;exact((zg5 h.bx h.fld.kd).keep fun i hi=>ycQ wi ⟨g,j,none⟩ v i hi.2).mono fun i hi=>⟨by simpa using hi.1.1,hi.1.2⟩
theorem XQ.set0 (h:XQ w wi g y0 y1 y2 y3 y4 f ls A l c sp)(v:Int):XQ w (wi.setCell ⟨g,0,none⟩ (.int .u8 v)) g v y1 y2 y3 y4 f ls A l c sp:=by
 refine⟨(h.far 0 _).1,?_,(h.far 0 _).2,h.ge,h.lt⟩;have:=h.bx;unfold BxM at this ⊢;simp[World.setCell,Array.getElem?_modify,this]
theorem XQ.set1 (h:XQ w wi g y0 y1 y2 y3 y4 f ls A l c sp)(v:Int):XQ w (wi.setCell ⟨g,1,none⟩ (.int .u32 v)) g y0 v y2 y3 y4 f ls A l c sp:=by
 refine⟨(h.far 1 _).1,?_,(h.far 1 _).2,h.ge,h.lt⟩;have:=h.bx;unfold BxM at this ⊢;simp[World.setCell,Array.getElem?_modify,this]
theorem XQ.set2 (h:XQ w wi g y0 y1 y2 y3 y4 f ls A l c sp)(v:Int):XQ w (wi.setCell ⟨g,2,none⟩ (.int .u32 v)) g y0 y1 v y3 y4 f ls A l c sp:=by
 refine⟨(h.far 2 _).1,?_,(h.far 2 _).2,h.ge,h.lt⟩;have:=h.bx;unfold BxM at this ⊢;simp[World.setCell,Array.getElem?_modify,this]
theorem XQ.set3 (h:XQ w wi g y0 y1 y2 y3 y4 f ls A l c sp)(v:ByteArray):XQ w (wi.setCell ⟨g,3,none⟩ (.string v)) g y0 y1 y2 v y4 f ls A l c sp:=by
 refine⟨(h.far 3 _).1,?_,(h.far 3 _).2,h.ge,h.lt⟩;have:=h.bx;unfold BxM at this ⊢;simp[World.setCell,Array.getElem?_modify,this]
end
theorem zoA {ls:List V}{N0 N4:Nat}{s0 s1 s2 s4 s5:Bool}{N1 N2 N3:Nat}(h0:oneR ls 0 2 false false 0 V.num=(N0,s0))(h1:oneR ls 1 3 false s0 4 V.num=(N1,s1))(h2:oneR ls 2 5 false s1 0 V.num=(N2,s2))(h3:oneR ls 3 2 false s2 0 V.num=(N4,s4))(h4:oneR ls 4 5 false s4 0 V.num=(N3,s5)) :
  (oneR ls 1 3 false false 4 V.num).1=N1∧(oneR ls 2 5 false false 0 V.num).1=N2∧(oneR ls 4 5 false false 0 V.num).1=N3∧hdB ls=((s5||decide (5 < ls.length))||decide (9 < N1)):=by
 have e0:=congrArg Prod.snd h0;have e1:=congrArg Prod.snd h1;have e2:=congrArg Prod.snd h2;have e3:=congrArg Prod.snd h3;have e4:=congrArg Prod.snd h4;have f1:=congrArg Prod.fst h1;have f2:=congrArg Prod.fst h2;have f4:=congrArg Prod.fst h4;rw[zbM] at e0 e1 e2 e3 e4;rw[zk3] at f1 f2 f4;simp only at e0 e3 e1 e2 e4 f1 f2 f4;refine⟨f1,f2,f4,?_⟩;unfold hdB;rw[f1,←e4,←e3,←e2,←e1,←e0];cases b1 ls 0 2 false<;>cases b1 ls 1 3 false<;>cases b1 ls 2 5 false<;>cases b1 ls 3 2 false<;>cases b1 ls 4 5 false<;>cases decide (9 < N1)<;>cases decide (5 < ls.length)<;>rfl
theorem ztb {w wi:World}{base g:Nat}{m:M}{ls:List V}{N1 N2 N3 f:Nat}{P1 P2 P3:Int}{A:Oz}{l c:Nat}{sp:Bool}{Ab:Oz}{nb cb:Nat}(hG:g < base∧base≤w.heap.size)(hO:Utf.Own .u8 256 5 w base Ab nb cb m.body)(h:XQ w wi g P1 P2 P3 m.id (.slice Ab nb cb) f ls A l c sp)(QL:IntKind.u8.wrap (N1:Int)=P1)(Jn:IntKind.u32.wrap (N2:Int)=P2)(VK:IntKind.u32.wrap (N3:Int)=P3)
  (hm:mayL ls=true) (hc:(oneR ls 1 3 false false 4 V.num).1=N1∧(oneR ls 2 5 false false 0 V.num).1=N2∧(oneR ls 4 5 false false 0 V.num).1=N3∧hdB ls=((sp||decide (5 < ls.length))||decide (9 < N1))) :
  zb5 base g (if hdB ls=true then none else some { m with p:=(oneR ls 1 3 false false 4 V.num).1,ttl:=(oneR ls 2 5 false false 0 V.num).1,n:=(oneR ls 4 5 false false 0 V.num).1 }) w (.returned (.bool ((zb7 ls sp 5==0) && !decide (9 < N1)))) wi:=by
 have hd:((zb7 ls sp 5==0) && !decide (9 < N1)) = !hdB ls:=by rw[hc.2.2.2,show (zb7 ls sp 5==0) = !(sp||decide (5 < ls.length)) from zhY (n:=5)];cases sp<;>cases decide (5 < ls.length)<;>cases decide (9 < N1)<;>rfl
 rw[hd];cases hb:hdB ls with
 | true=>rw[if_pos rfl];exact⟨rfl,zcG h.off⟩
 | false=>
  rw[if_neg ycS];refine⟨rfl,zcG h.off,hG.1,ycR hG.2 h.off.size,Ab,nb,cb,?_,zd6 hO h.off fun i hi e=>by have:=hG.1;omega⟩;have h9:¬ 9 < N1:=fun h9=>by
   unfold hdB at hb;rw[hc.1,decide_eq_true h9] at hb;simp at hb
  have h2:=zk6 hm 2;have h4:=zk6 hm 4
  show BxM wi g (.int .u8 ((oneR ls 1 3 false false 4 V.num).1:Int)) (.int .u32 ((oneR ls 2 5 false false 0 V.num).1:Int)) (.int .u32 ((oneR ls 4 5 false false 0 V.num).1:Int)) _ _
  rw[hc.1,hc.2.1,hc.2.2.1];rw[hc.2.1] at h2;rw[hc.2.2.1] at h4;rw[←zul (show N1 < 256 by omega),←zlb h2,←zlb h4,QL,Jn,VK];exact h.bx
section
variable {X:Nat→Prop} {w:World} {g:Nat} {ls:List V} {A:Oz} {l c:Nat} {sp sp':Bool} {N:Nat}
theorem zuy (h:Fld 122 X w g ls A l c sp)(hq:oneR ls 1 3 false sp 4 V.num=(N,sp')):Calls prog 42 #[.pointer (some ⟨g,0,none⟩),.int .i64 1,.int .u8 3,.bool false,.int .u64 4] w (zaZ 122 X g ls A l c (fun r _=>r=.int .u64 (N:Int)) sp' w):=Fl.zbD h 1 3 false 4 N hq
theorem zuz (h:Fld 122 X w g ls A l c sp)(hq:oneR ls 2 5 false sp 0 V.num=(N,sp')):Calls prog 42 #[.pointer (some ⟨g,0,none⟩),.int .i64 2,.int .u8 5,.bool false,.int .u64 0] w (zaZ 122 X g ls A l c (fun r _=>r=.int .u64 (N:Int)) sp' w):=Fl.zbD h 2 5 false 0 N hq
theorem zuA (h:Fld 122 X w g ls A l c sp)(hq:oneR ls 4 5 false sp 0 V.num=(N,sp')):Calls prog 42 #[.pointer (some ⟨g,0,none⟩),.int .i64 4,.int .u8 5,.bool false,.int .u64 0] w (zaZ 122 X g ls A l c (fun r _=>r=.int .u64 (N:Int)) sp' w):=Fl.zbD h 4 5 false 0 N hq
theorem ztc (h:Fld 122 X w g ls A l c sp)(hq:oneR ls 0 2 false sp 0 V.num=(N,sp')):Calls prog 41 #[.pointer (some ⟨g,0,none⟩),.int .i64 0,.bool false] w (zaZ 122 X g ls A l c (fun r _=>r=.bool (decide (N=1))) sp' w):=Fl.zgZ h 0 false N hq
theorem ztd (h:Fld 122 X w g ls A l c sp)(hq:oneR ls 3 2 false sp 0 V.num=(N,sp')):Calls prog 41 #[.pointer (some ⟨g,0,none⟩),.int .i64 3,.bool false] w (zaZ 122 X g ls A l c (fun r _=>r=.bool (decide (N=1))) sp' w):=Fl.zgZ h 3 false N hq
end
theorem zqX (k n:Nat)(t:ByteArray)(ks:List V)(A:Oz)(l c g base:Nat)(m:M)(w:World)(hN:bulk (.mk k n t ks)≤16777216)(hn:n < 18446744073709551616)(hK:Kd w ks A l c)(hG:MG w base g m) :
  Calls prog 19 #[.pointer (some ⟨g,0,none⟩),.agg #[.int .u8 (k:Int),.int .u64 (n:Int),.string t,.slice A l c]] w (zb5 base g (zcQ (.mk k n t ks) m) w):=by
 have Hg:Below w.heap.size w (w.alloc (.cells #[.int .u8 (k:Int),.int .u64 (n:Int),.string t,.slice A l c] 43)):=(za _ _);have Kp:Hid (Calls prog 40 #[.agg #[.int .u8 (k:Int),.int .u64 (n:Int),.string t,.slice A l c],.int .u64 112,.string ⟨#[97,109,113,112,58,104,101,97,100,101,114,58,108,105,115,116]⟩] (w.alloc (.cells #[.int .u8 (k:Int),.int .u64 (n:Int),.string t,.slice A l c] 43)) (zds (newR (.mk k n t ks) 112 (mname 0)) (w.alloc (.cells #[.int .u8 (k:Int),.int .u64 (n:Int),.string t,.slice A l c] 43)))):=
  zaa (zi4 k n t ks A l c 112 (mname 0) _ hN hn (hK.call Hg))
 have HB:=zaa Hg;obtain⟨jq,kA,Ab,nb,cb,Hz,Hf⟩:=hG;have HO:=zaa Hf;have kI:=zaa Hz;have HG:=zaa (And.intro jq kA);obtain⟨o,ho⟩:∃ o,zcQ (.mk k n t ks) m=o:=⟨_,rfl⟩;rw[ho];cases GA:newR (.mk k n t ks) 112 (mname 0) with
 | none=>
  rw[GA] at Kp;obtain rfl:o=none:=by rw[←ho];unfold zcQ;rw[GA]
  clear ho;clear Hg hN hn hK Hf Hz jq kA GA;go_enter func19,ntmps19;go_wp2_with fail
  (with_reducible refine Kp.out.mono ?_)
  rintro e w1 ⟨rfl,Ha⟩;have Hl:=zaa (zad HB.out Ha);clear Ha;go_wp2;go_ret;exact⟨rfl,Off.of _ Hl.out⟩
 | some ls=>
  rw[GA] at Kp;have ct:=zaa (zhL GA);obtain⟨⟨N0,s0⟩,j6⟩:∃ r,oneR ls 0 2 false false 0 V.num=r:=⟨_,rfl⟩;obtain⟨⟨N1,s1⟩,KU⟩:∃ r,oneR ls 1 3 false s0 4 V.num=r:=⟨_,rfl⟩;obtain⟨⟨N2,s2⟩,JV⟩:∃ r,oneR ls 2 5 false s1 0 V.num=r:=⟨_,rfl⟩;obtain⟨⟨N4,s4⟩,QM⟩:∃ r,oneR ls 3 2 false s2 0 V.num=r:=⟨_,rfl⟩;obtain⟨⟨N3,s5⟩,QN⟩:∃ r,oneR ls 4 5 false s4 0 V.num=r:=⟨_,rfl⟩;obtain⟨P1,QL⟩:∃ P,IntKind.u8.wrap (N1:Int)=P:=⟨_,rfl⟩;obtain⟨P2,Jn⟩:∃ P,IntKind.u32.wrap (N2:Int)=P:=⟨_,rfl⟩;obtain⟨P3,VK⟩:∃ P,IntKind.u32.wrap (N3:Int)=P:=⟨_,rfl⟩;have XD:=zaa (zoA j6 KU JV QM QN);obtain⟨D,hD⟩:∃ D,(zb7 ls s5 5==0)=D:=⟨_,rfl⟩;obtain⟨q9,h9⟩:∃ q,decide (9 < N1)=q:=⟨_,rfl⟩;have GS:=zaa (fun(wi:World) (f:Nat) (A:Oz) (l c:Nat) (h:XQ w wi g P1 P2 P3 m.id (.slice Ab nb cb) f ls A l c s5)=>ztb HG.out HO.out h QL Jn VK ct.out XD.out);have Gh:(if hdB ls=true then none else some { m with p:=(oneR ls 1 3 false false 4 V.num).1,ttl:=(oneR ls 2 5 false false 0 V.num).1,n:=(oneR ls 4 5 false false 0 V.num).1 })=o:=by rw[←ho];unfold zcQ;rw[GA]
  rw[hD,Gh,h9] at GS;clear ho Gh XD;have e9:decide ((N1:Int)≤9) = !q9:=by
   rw[←h9];by_cases hh:9 < N1
   ·rw[decide_eq_true hh,decide_eq_false (by omega)];rfl
   ·rw[decide_eq_false hh,decide_eq_true (by omega)];rfl
  have xD:=zaa j6;have XE:=zaa QM;have Qk:=zaa KU;have Vj:=zaa JV;have XF:=zaa QN;clear Hg hN hn hK Hf Hz jq kA GA j6 QM KU JV QN h9;go_enter func19,ntmps19;go_wp2_with fail
  (with_reducible refine Kp.out.mono ?_)
  rintro e w1 ⟨f,A1,l1,c1,rfl,hf,hF,_,Ha⟩;have H1:Hid (XQ w w1 g (m.p:Int) (m.ttl:Int) (m.n:Int) m.id (.slice Ab nb cb) f ls A1 l1 c1 false):=zaa ⟨hF,kI.out.call (zad HB.out Ha),Off.of _ (zad HB.out Ha),by simp at hf;omega,kI.out.lt⟩;clear Ha hF hf Kp;cases D<;>cases q9
  all_goals
   go_wp2_with (first
    | (go_at_call 41;(with_reducible refine(ztc (XQ.fld H1.out) xD.out).mono ?_);rintro e w2 ⟨r2,rfl,rfl,Gh,jz⟩;have H2:=zaa (XQ.next H1.out Gh jz);clear Gh jz)
    | (go_at_call 42;(with_reducible refine(zuy (XQ.fld H2.out) Qk.out).mono ?_);rintro e w4 ⟨r4,rfl,rfl,jo,Jp⟩;have H4:=zaa (XQ.next H2.out jo Jp);have H5:=zaa (XQ.set0 H4.out P1);obtain⟨z0,z1,z2,z3,z4,zf⟩:=H4.out.bx.all;clear jo Jp)
    | (go_at_call 42;(with_reducible refine(zuz (XQ.fld H5.out) Vj.out).mono ?_);rintro e w6 ⟨r6,rfl,rfl,KQ,qt⟩;have H6:=zaa (XQ.next H5.out KQ qt);obtain⟨y0,y1,y2,y3,y4,yf⟩:=H6.out.bx.all;have H7:=zaa (XQ.set1 H6.out P2);clear KQ qt)
    | (go_at_call 41;(with_reducible refine(ztd (XQ.fld H7.out) XE.out).mono ?_);rintro e w3 ⟨r3,rfl,rfl,Km,Jo⟩;have H8:=zaa (XQ.next H7.out Km Jo);clear Km Jo)
    | (go_at_call 42;(with_reducible refine(zuA (XQ.fld H8.out) XF.out).mono ?_);rintro e w7 ⟨r7,rfl,rfl,Jq,qu⟩;have H9:=zaa (XQ.next H8.out Jq qu);obtain⟨u0,u1,u2,u3,u4,uf⟩:=H9.out.bx.all;clear Jq qu)
    | (go_at_call 43;(with_reducible refine(zgm (XQ.fld (XQ.set2 H9.out P3)) 5).mono ?_);rintro e w8 ⟨rfl,rfl⟩)
    | fail)
   go_ret;exact GS.out _ _ _ _ _ (XQ.set2 H9.out P3)
structure XI (w wi:World) (g:Nat) (y0 y1 y2:Int) (y3:ByteArray) (y4:Value) (f:Nat) (ls:List V) (A:Oz) (l c:Nat) (sp:Bool) (q:Nat):Prop where
 xq:XQ w wi g y0 y1 y2 y3 y4 f ls A l c sp
 row:wi.heap[q]? = some (.cells #[.int .u8 6,.int .u8 15,.int .u8 19,.int .u8 20] 5 (0,0))
 nf:q≠f
 ng:q≠g
section
variable {w wi w':World} {g:Nat} {y0 y1 y2:Int} {y3:ByteArray} {y4:Value} {f:Nat} {ls:List V} {A:Oz} {l c:Nat} {sp sp':Bool} {q:Nat}
theorem XI.lt (h:XI w wi g y0 y1 y2 y3 y4 f ls A l c sp q):q < wi.heap.size:=(Array.getElem?_eq_some_iff.1 h.row).1
theorem XI.call (h:XI w wi g y0 y1 y2 y3 y4 f ls A l c sp q)(hb:Below wi.heap.size wi w'):XI w w' g y0 y1 y2 y3 y4 f ls A l c sp q:=⟨h.xq.call hb,(hb.block _ h.lt).trans h.row,h.nf,h.ng⟩
theorem XI.alloc (h:XI w wi g y0 y1 y2 y3 y4 f ls A l c sp q)(o:Obj):XI w (wi.alloc o) g y0 y1 y2 y3 y4 f ls A l c sp q:=h.call ((za _ _))
theorem XI.next (h:XI w wi g y0 y1 y2 y3 y4 f ls A l c sp q)(ho:Off (fun i=>i=f) wi w')(hF:Fld 122 (fun i=>f≤i) w' f ls A l c sp'):XI w w' g y0 y1 y2 y3 y4 f ls A l c sp' q:=⟨h.xq.next ho hF,(ho.block _ h.lt h.nf).trans h.row,h.nf,h.ng⟩
theorem XI.set3 (h:XI w wi g y0 y1 y2 y3 y4 f ls A l c sp q)(v:ByteArray):XI w (wi.setCell ⟨g,3,none⟩ (.string v)) g y0 y1 y2 v y4 f ls A l c sp q:=⟨h.xq.set3 v,(ycQ wi ⟨g,3,none⟩ _ q h.ng).trans h.row,h.nf,h.ng⟩
theorem XI.kinds (h:XI w wi g y0 y1 y2 y3 y4 f ls A l c sp q):Kinds wi (some ⟨q,0,none⟩) 4 idsL:=by
 refine⟨⟨rfl,by simp[idsL],fun _=>⟨q,0,rfl,h.lt,fun k hk=>?_⟩⟩,by simp⟩;have XB:k=0∨k=1∨k=2∨k=3:=by simp[idsL] at hk;omega
 rcases XB with rfl | rfl | rfl | rfl
 all_goals exact cell_of_row wi q _ _ _ _ h.row
end
theorem zfM (w:World)(g:Nat)(hg:w.heap.size=g):Kinds (w.alloc (.cells #[.int .u8 20] 5)) (some ⟨g,0,none⟩) 1 [20]:=lit2 w 20 (by omega) 20 rfl g hg
theorem zoB {ls:List V}{v0 v2 v4 v5:V}{T1 T3 T6 T7 T10 T12:ByteArray}{N8 N9 N11:Nat}{s0 s1 s2 s3 s4 s5 s6 s7 s8 s9 s10 s11 s12:Bool}(h0:valR ls 0 idsL false=(v0,s0))(h1:oneR ls 1 19 false s0 ⟨#[]⟩ V.text=(T1,s1))(h2:valR ls 2 [20] s1=(v2,s2))(h3:oneR ls 3 20 false s2 ⟨#[]⟩ V.text=(T3,s3))(h4:valR ls 4 [20] s3=(v4,s4))(h5:valR ls 5 idsL s4=(v5,s5))(h6:oneR ls 6 21 false s5 ⟨#[]⟩ V.text=(T6,s6))(h7:oneR ls 7 21 false s6 ⟨#[]⟩ V.text=(T7,s7))(h8:oneR ls 8 14 false s7 0 V.num=(N8,s8))(h9:oneR ls 9 14 false s8 0 V.num=(N9,s9))(UO:oneR ls 10 20 false s9 ⟨#[]⟩ V.text=(T10,s10))(UQ:oneR ls 11 5 false s10 0 V.num=(N11,s11))(UP:oneR ls 12 20 false s11 ⟨#[]⟩ V.text=(T12,s12)):prB ls=((s12||decide (13 < ls.length))||decide (64 < (idR ls).size)):=by
 have e0:bv ls 0 idsL=s0:=by have e:=congrArg Prod.snd h0;rwa [zc1,Bool.false_or] at e
 have e1:(s0||b1 ls 1 19 false)=s1:=by have e:=congrArg Prod.snd h1;rwa [zbM] at e
 have e2:(s1||b1 ls 2 20 false)=s2:=by have e:=congrArg Prod.snd h2;rwa [zc1,zk4] at e
 have e3:(s2||b1 ls 3 20 false)=s3:=by have e:=congrArg Prod.snd h3;rwa [zbM] at e
 have e4:(s3||b1 ls 4 20 false)=s4:=by have e:=congrArg Prod.snd h4;rwa [zc1,zk4] at e
 have e5:(s4||bv ls 5 idsL)=s5:=by have e:=congrArg Prod.snd h5;rwa [zc1] at e
 have e6:(s5||b1 ls 6 21 false)=s6:=by have e:=congrArg Prod.snd h6;rwa [zbM] at e
 have e7:(s6||b1 ls 7 21 false)=s7:=by have e:=congrArg Prod.snd h7;rwa [zbM] at e
 have e8:(s7||b1 ls 8 14 false)=s8:=by have e:=congrArg Prod.snd h8;rwa [zbM] at e
 have e9:(s8||b1 ls 9 14 false)=s9:=by have e:=congrArg Prod.snd h9;rwa [zbM] at e
 have e10:(s9||b1 ls 10 20 false)=s10:=by have e:=congrArg Prod.snd UO;rwa [zbM] at e
 have e11:(s10||b1 ls 11 5 false)=s11:=by have e:=congrArg Prod.snd UQ;rwa [zbM] at e
 have e12:(s11||b1 ls 12 20 false)=s12:=by have e:=congrArg Prod.snd UP;rwa [zbM] at e
 unfold prB;rw[←e12,←e11,←e10,←e9,←e8,←e7,←e6,←e5,←e4,←e3,←e2,←e1,←e0];simp only[Bool.or_assoc]
theorem zte {w wi:World}{base g:Nat}{m:M}{ls:List V}{f:Nat}{A:Oz}{l c:Nat}{sp:Bool}{Ab:Oz}{nb cb:Nat}{ID:ByteArray}(hG:g < base∧base≤w.heap.size)(hO:Utf.Own .u8 256 5 w base Ab nb cb m.body)(h:XQ w wi g (m.p:Int) (m.ttl:Int) (m.n:Int) ID (.slice Ab nb cb) f ls A l c sp)
  (hs:prB ls=((sp||decide (13 < ls.length))||decide (64 < (idR ls).size))) (hid:ID=idR ls) :
  zb5 base g (if prB ls=true then none else some { m with id:=idR ls }) w (.returned (.bool ((zb7 ls sp 13==0)&&decide (ID.size≤64)))) wi:=by
 subst hid;have hd:((zb7 ls sp 13==0)&&decide ((idR ls).size≤64)) = !prB ls:=by
  rw[hs,show (zb7 ls sp 13==0) = !(sp||decide (13 < ls.length)) from zhY (n:=13)];by_cases qK:64 < (idR ls).size
  ·have e1:decide ((idR ls).size≤64)=false:=decide_eq_false (by omega);rw[decide_eq_true qK,e1];cases sp<;>cases decide (13 < ls.length)<;>rfl
  ·have e1:decide ((idR ls).size≤64)=true:=decide_eq_true (by omega);rw[decide_eq_false qK,e1];cases sp<;>cases decide (13 < ls.length)<;>rfl
 rw[hd];cases hb:prB ls with
 | true=>rw[if_pos rfl];exact⟨rfl,zcG h.off⟩
 | false=>
  rw[if_neg ycS];exact⟨rfl,zcG h.off,hG.1,ycR hG.2 h.off.size,Ab,nb,cb,h.bx,zd6 hO h.off fun i hi e=>by have:=hG.1;omega⟩
section
variable {X:Nat→Prop} {w:World} {g:Nat} {ls:List V} {A:Oz} {l c:Nat} {sp sp':Bool} {N:Nat} {T:ByteArray}
theorem zuB (h:Fld 122 X w g ls A l c sp)(hq:oneR ls 1 19 false sp ⟨#[]⟩ V.text=(T,sp')):Calls prog 45 #[.pointer (some ⟨g,0,none⟩),.int .i64 1,.int .u8 19,.bool false] w (zaZ 122 X g ls A l c (fun r _=>r=.string T) sp' w):=Fl.zcb h 1 19 false T hq
theorem zuC (h:Fld 122 X w g ls A l c sp)(hq:oneR ls 3 20 false sp ⟨#[]⟩ V.text=(T,sp')):Calls prog 45 #[.pointer (some ⟨g,0,none⟩),.int .i64 3,.int .u8 20,.bool false] w (zaZ 122 X g ls A l c (fun r _=>r=.string T) sp' w):=Fl.zcb h 3 20 false T hq
theorem zuD (h:Fld 122 X w g ls A l c sp)(hq:oneR ls 6 21 false sp ⟨#[]⟩ V.text=(T,sp')):Calls prog 45 #[.pointer (some ⟨g,0,none⟩),.int .i64 6,.int .u8 21,.bool false] w (zaZ 122 X g ls A l c (fun r _=>r=.string T) sp' w):=Fl.zcb h 6 21 false T hq
theorem zuE (h:Fld 122 X w g ls A l c sp)(hq:oneR ls 7 21 false sp ⟨#[]⟩ V.text=(T,sp')):Calls prog 45 #[.pointer (some ⟨g,0,none⟩),.int .i64 7,.int .u8 21,.bool false] w (zaZ 122 X g ls A l c (fun r _=>r=.string T) sp' w):=Fl.zcb h 7 21 false T hq
theorem zuF (h:Fld 122 X w g ls A l c sp)(hq:oneR ls 8 14 false sp 0 V.num=(N,sp')):Calls prog 42 #[.pointer (some ⟨g,0,none⟩),.int .i64 8,.int .u8 14,.bool false,.int .u64 0] w (zaZ 122 X g ls A l c (fun r _=>r=.int .u64 (N:Int)) sp' w):=Fl.zbD h 8 14 false 0 N hq
theorem zuG (h:Fld 122 X w g ls A l c sp)(hq:oneR ls 9 14 false sp 0 V.num=(N,sp')):Calls prog 42 #[.pointer (some ⟨g,0,none⟩),.int .i64 9,.int .u8 14,.bool false,.int .u64 0] w (zaZ 122 X g ls A l c (fun r _=>r=.int .u64 (N:Int)) sp' w):=Fl.zbD h 9 14 false 0 N hq
theorem zrs (h:Fld 122 X w g ls A l c sp)(hq:oneR ls 10 20 false sp ⟨#[]⟩ V.text=(T,sp')):Calls prog 45 #[.pointer (some ⟨g,0,none⟩),.int .i64 10,.int .u8 20,.bool false] w (zaZ 122 X g ls A l c (fun r _=>r=.string T) sp' w):=Fl.zcb h 10 20 false T hq
theorem zrt (h:Fld 122 X w g ls A l c sp)(hq:oneR ls 11 5 false sp 0 V.num=(N,sp')):Calls prog 42 #[.pointer (some ⟨g,0,none⟩),.int .i64 11,.int .u8 5,.bool false,.int .u64 0] w (zaZ 122 X g ls A l c (fun r _=>r=.int .u64 (N:Int)) sp' w):=Fl.zbD h 11 5 false 0 N hq
theorem zru (h:Fld 122 X w g ls A l c sp)(hq:oneR ls 12 20 false sp ⟨#[]⟩ V.text=(T,sp')):Calls prog 45 #[.pointer (some ⟨g,0,none⟩),.int .i64 12,.int .u8 20,.bool false] w (zaZ 122 X g ls A l c (fun r _=>r=.string T) sp' w):=Fl.zcb h 12 20 false T hq
end
theorem zqY (k n:Nat)(t:ByteArray)(ks:List V)(A:Oz)(l c g base:Nat)(m:M)(w:World)(hN:bulk (.mk k n t ks)≤16777216)(hn:n < 18446744073709551616)(hK:Kd w ks A l c)(hid:m.id=⟨#[]⟩)(hG:MG w base g m) :
  Calls prog 20 #[.pointer (some ⟨g,0,none⟩),.agg #[.int .u8 (k:Int),.int .u64 (n:Int),.string t,.slice A l c]] w (zb5 base g (zc3 (.mk k n t ks) m) w):=by
 have Hg:Below w.heap.size w (w.alloc (.cells #[.int .u8 (k:Int),.int .u64 (n:Int),.string t,.slice A l c] 43)):=(za _ _);have Kp:Hid (Calls prog 40 #[.agg #[.int .u8 (k:Int),.int .u64 (n:Int),.string t,.slice A l c],.int .u64 115,.string ⟨#[97,109,113,112,58,112,114,111,112,101,114,116,105,101,115,58,108,105,115,116]⟩] (w.alloc (.cells #[.int .u8 (k:Int),.int .u64 (n:Int),.string t,.slice A l c] 43)) (zds (newR (.mk k n t ks) 115 (mname 3)) (w.alloc (.cells #[.int .u8 (k:Int),.int .u64 (n:Int),.string t,.slice A l c] 43)))):=
  zaa (zi4 k n t ks A l c 115 (mname 3) _ hN hn (hK.call Hg))
 have HB:=zaa Hg;obtain⟨jq,kA,Ab,nb,cb,Hz,Hf⟩:=hG;have HO:=zaa Hf;have kI:=zaa Hz;have HG:=zaa (And.intro jq kA);obtain⟨o,ho⟩:∃ o,zc3 (.mk k n t ks) m=o:=⟨_,rfl⟩;rw[ho];cases GA:newR (.mk k n t ks) 115 (mname 3) with
 | none=>
  rw[GA] at Kp;obtain rfl:o=none:=by rw[←ho];unfold zc3;rw[GA]
  clear ho;clear Hg hN hn hK Hf Hz jq kA GA;go_enter func20,ntmps20;go_wp2_with fail
  (with_reducible refine Kp.out.mono ?_)
  rintro e w1 ⟨rfl,Ha⟩;have Hl:=zaa (zad HB.out Ha);clear Ha;go_wp2;go_ret;exact⟨rfl,Off.of _ Hl.out⟩
 | some ls=>
  rw[GA] at Kp;have jT:Hid (zai ls≤1073741824):=zaa (by have:=zgr GA;simp only[bulk,V.kids] at this hN;omega);obtain⟨⟨⟨k0,n0,t0,ks0⟩,s0⟩,j6⟩:∃ r,valR ls 0 idsL false=r:=⟨_,rfl⟩;obtain⟨⟨T1,s1⟩,KU⟩:∃ r,oneR ls 1 19 false s0 ⟨#[]⟩ V.text=r:=⟨_,rfl⟩;obtain⟨⟨⟨k2,n2,t2,ks2⟩,s2⟩,JV⟩:∃ r,valR ls 2 [20] s1=r:=⟨_,rfl⟩;obtain⟨⟨T3,s3⟩,QM⟩:∃ r,oneR ls 3 20 false s2 ⟨#[]⟩ V.text=r:=⟨_,rfl⟩;obtain⟨⟨⟨k4,n4,t4,ks4⟩,s4⟩,QN⟩:∃ r,valR ls 4 [20] s3=r:=⟨_,rfl⟩;obtain⟨⟨⟨k5,n5,t5,ks5⟩,s5⟩,Xa⟩:∃ r,valR ls 5 idsL s4=r:=⟨_,rfl⟩;obtain⟨⟨T6,s6⟩,cI⟩:∃ r,oneR ls 6 21 false s5 ⟨#[]⟩ V.text=r:=⟨_,rfl⟩;obtain⟨⟨T7,s7⟩,xG⟩:∃ r,oneR ls 7 21 false s6 ⟨#[]⟩ V.text=r:=⟨_,rfl⟩;obtain⟨⟨N8,s8⟩,cJ⟩:∃ r,oneR ls 8 14 false s7 0 V.num=r:=⟨_,rfl⟩;obtain⟨⟨N9,s9⟩,cK⟩:∃ r,oneR ls 9 14 false s8 0 V.num=r:=⟨_,rfl⟩;obtain⟨⟨T10,s10⟩,yx⟩:∃ r,oneR ls 10 20 false s9 ⟨#[]⟩ V.text=r:=⟨_,rfl⟩;obtain⟨⟨N11,s11⟩,yy⟩:∃ r,oneR ls 11 5 false s10 0 V.num=r:=⟨_,rfl⟩;obtain⟨⟨T12,s12⟩,yz⟩:∃ r,oneR ls 12 20 false s11 ⟨#[]⟩ V.text=r:=⟨_,rfl⟩;have XD:=zaa (zoB j6 KU JV QM QN Xa cI xG cJ cK yx yy yz);have vo:Hid ((if k0=20 then t0 else m.id)=idR ls):=zaa (by unfold idR;rw[j6,hid];rfl);have Gh:(if prB ls=true then none else some { m with id:=idR ls })=o:=by rw[←ho];unfold zc3;rw[GA]
  obtain⟨D,hD⟩:∃ D,(zb7 ls s12 13==0)=D:=⟨_,rfl⟩;have GS:=zaa (fun(wi:World) (f:Nat) (A:Oz) (l c:Nat) (ID:ByteArray) (hI:ID=idR ls) (h:XQ w wi g (m.p:Int) (m.ttl:Int) (m.n:Int) ID (.slice Ab nb cb) f ls A l c s12)=>zte HG.out HO.out h XD.out hI);rw[hD,Gh] at GS;clear ho Gh XD;have xD:=zaa j6;have Qk:=zaa KU;have Vj:=zaa JV;have XE:=zaa QM;have XF:=zaa QN;have Vr:=zaa Xa;have HQ6:=zaa cI;have cE:=zaa xG;have HQ8:=zaa cJ;have HQ9:=zaa cK;have Ug:=zaa yx;have Uh:=zaa yy;have Ui:=zaa yz;clear Hg hN hn hK Hf Hz jq kA GA j6 KU JV QM QN Xa cI xG cJ cK yx yy yz;go_enter func20,ntmps20;go_wp2_with fail
  (with_reducible refine Kp.out.mono ?_)
  rintro e w1 ⟨f,A1,l1,c1,rfl,hf,hF,hfs,Ha⟩;have KU:XQ w w1 g (m.p:Int) (m.ttl:Int) (m.n:Int) m.id (.slice Ab nb cb) f ls A1 l1 c1 false:=⟨hF,kI.out.call (zad HB.out Ha),Off.of _ (zad HB.out Ha),by simp at hf;omega,kI.out.lt⟩;have H1:Hid (XI w (w1.alloc (.cells #[.int .u8 6,.int .u8 15,.int .u8 19,.int .u8 20] 5)) g (m.p:Int) (m.ttl:Int) (m.n:Int) m.id (.slice Ab nb cb) f ls A1 l1 c1 false w1.heap.size):=zaa ⟨KU.call ((za _ _)),heap_alloc_new w1 _,by omega,by have:=KU.bx.lt;omega⟩;clear Ha hF hf Kp hfs KU;go_wp2_with fail
  (with_reducible refine(zbE (XQ.fld (XI.xq H1.out)) (XI.kinds H1.out) 0 jT.out xD.out).mono ?_)
  rintro e w2 ⟨r2,rfl,⟨A2,l2,c2,rfl,_⟩,Gh,jz⟩;have H2:=zaa ((XI.next H1.out Gh jz).alloc (.cells #[.int .u8 (k0:Int),.int .u64 (n0:Int),.string t0,.slice A2 l2 c2] 43));have cL:=zaa (Box.new w2 (.int .u8 (k0:Int)) (.int .u64 (n0:Int)) (.string t0) (.slice A2 l2 c2));generalize w1.heap.size=q at H2 H1 ⊢;clear Gh jz H1;go_upto_region 6 with fail
  generalize w2.alloc (.cells #[.int .u8 (k0:Int),.int .u64 (n0:Int),.string t0,.slice A2 l2 c2] 43)=W at H2 cL ⊢;generalize w2.heap.size=gi at cL ⊢;obtain⟨i0,i1,i2,i3,i4⟩:=cL.out.all;obtain⟨b0,b1,b2,b3,b4,bf⟩:=H2.out.xq.bx.all;by_cases jh:k0=20
  ·have hd:((k0:Int)==20)=true:=by rw[jh];rfl
   have uk:=zaa (H2.out.set3 t0);have ui:Hid (t0=idR ls):=zaa (by rw[←vo.out,if_pos jh]);clear jh;obtain⟨q64,yB⟩:∃ q,decide (t0.size≤64)=q:=⟨_,rfl⟩;have e64:decide ((t0.size:Int)≤64)=q64:=by rw[←yB];simp;omega
   have yC:=zaa yB;clear yB;cases D<;>cases q64
   all_goals
    go_wp2_with (first
     | (go_at_call 45;(with_reducible refine(zuB (XQ.fld (XI.xq uk.out)) Qk.out).mono ?_);rintro e wa1 ⟨ra1,rfl,rfl,Ga,G6⟩;have um:=zaa (XI.next uk.out Ga G6);clear Ga G6)
     | (go_at_call 44;(with_reducible refine(zbE (XQ.fld (XI.xq (XI.alloc um.out _))) (zfM _ _ rfl) 2 jT.out Vj.out).mono ?_);rintro e wa2 ⟨ra2,rfl,⟨Aa2,la2,ca2,rfl,_⟩,Gh,jz⟩;have uo:=zaa (XI.next (XI.alloc um.out _) Gh jz);clear Gh jz)
     | (go_at_call 45;(with_reducible refine(zuC (XQ.fld (XI.xq uo.out)) XE.out).mono ?_);rintro e wa3 ⟨ra3,rfl,rfl,Km,Jo⟩;have uq:=zaa (XI.next uo.out Km Jo);clear Km Jo)
     | (go_at_call 44;(with_reducible refine(zbE (XQ.fld (XI.xq (XI.alloc uq.out _))) (zfM _ _ rfl) 4 jT.out XF.out).mono ?_);rintro e wa4 ⟨ra4,rfl,⟨Aa4,la4,ca4,rfl,_⟩,jo,Jp⟩;have XG:=zaa (XI.next (XI.alloc uq.out _) jo Jp);clear jo Jp)
     | (go_at_call 44;(with_reducible refine(zbE (XQ.fld (XI.xq XG.out)) (XI.kinds XG.out) 5 jT.out Vr.out).mono ?_);rintro e wa5 ⟨ra5,rfl,⟨Aa5,la5,ca5,rfl,_⟩,GR,ur⟩;have uu:=zaa (XI.next XG.out GR ur);clear GR ur)
     | (go_at_call 45;(with_reducible refine(zuD (XQ.fld (XI.xq uu.out)) HQ6.out).mono ?_);rintro e wa6 ⟨ra6,rfl,rfl,KQ,qt⟩;have uv:=zaa (XI.next uu.out KQ qt);clear KQ qt)
     | (go_at_call 45;(with_reducible refine(zuE (XQ.fld (XI.xq uv.out)) cE.out).mono ?_);rintro e wa7 ⟨ra7,rfl,rfl,Jq,qu⟩;have uw:=zaa (XI.next uv.out Jq qu);clear Jq qu)
     | (go_at_call 42;(with_reducible refine(zuF (XQ.fld (XI.xq uw.out)) HQ8.out).mono ?_);rintro e wa8 ⟨ra8,rfl,rfl,ux,uy⟩;have uz:=zaa (XI.next uw.out ux uy);clear ux uy)
     | (go_at_call 42;(with_reducible refine(zuG (XQ.fld (XI.xq uz.out)) HQ9.out).mono ?_);rintro e wa9 ⟨ra9,rfl,rfl,VB,Jj⟩;have uA:=zaa (XI.next uz.out VB Jj);clear VB Jj)
     | (go_at_call 45;(with_reducible refine(zrs (XQ.fld (XI.xq uA.out)) Ug.out).mono ?_);rintro e wa10 ⟨ra10,rfl,rfl,vu,vv⟩;have vw:=zaa (XI.next uA.out vu vv);clear vu vv)
     | (go_at_call 42;(with_reducible refine(zrt (XQ.fld (XI.xq vw.out)) Uh.out).mono ?_);rintro e wa11 ⟨ra11,rfl,rfl,vx,vy⟩;have vz:=zaa (XI.next vw.out vx vy);clear vx vy)
     | (go_at_call 45;(with_reducible refine(zru (XQ.fld (XI.xq vz.out)) Ui.out).mono ?_);rintro e wa12 ⟨ra12,rfl,rfl,vB,vC⟩;have qc:=zaa (XI.next vz.out vB vC);obtain⟨z0,z1,z2,z3,z4,zf⟩:=qc.out.xq.bx.all;clear vB vC)
     | (go_at_call 43;(with_reducible refine(zgm (XQ.fld (XI.xq qc.out)) 13).mono ?_);rintro e w8 ⟨rfl,rfl⟩)
     | fail)
    go_ret;have vD:=GS.out _ _ _ _ _ _ ui.out qc.out.xq;rw[yC.out] at vD;exact vD
  ·have hd:((k0:Int)==20)=false:=by rw[zac];omega
   have uk:=zaa H2.out;have ui:Hid (m.id=idR ls):=zaa (by rw[←vo.out,if_neg jh]);clear jh;have yC:Hid (decide (m.id.size≤64)=true):=zaa (by rw[hid];rfl);cases D
   all_goals
    go_wp2_with (first
     | (go_at_call 45;(with_reducible refine(zuB (XQ.fld (XI.xq uk.out)) Qk.out).mono ?_);rintro e wa1 ⟨ra1,rfl,rfl,Ga,G6⟩;have um:=zaa (XI.next uk.out Ga G6);clear Ga G6)
     | (go_at_call 44;(with_reducible refine(zbE (XQ.fld (XI.xq (XI.alloc um.out _))) (zfM _ _ rfl) 2 jT.out Vj.out).mono ?_);rintro e wa2 ⟨ra2,rfl,⟨Aa2,la2,ca2,rfl,_⟩,Gh,jz⟩;have uo:=zaa (XI.next (XI.alloc um.out _) Gh jz);clear Gh jz)
     | (go_at_call 45;(with_reducible refine(zuC (XQ.fld (XI.xq uo.out)) XE.out).mono ?_);rintro e wa3 ⟨ra3,rfl,rfl,Km,Jo⟩;have uq:=zaa (XI.next uo.out Km Jo);clear Km Jo)
     | (go_at_call 44;(with_reducible refine(zbE (XQ.fld (XI.xq (XI.alloc uq.out _))) (zfM _ _ rfl) 4 jT.out XF.out).mono ?_);rintro e wa4 ⟨ra4,rfl,⟨Aa4,la4,ca4,rfl,_⟩,jo,Jp⟩;have XG:=zaa (XI.next (XI.alloc uq.out _) jo Jp);clear jo Jp)
     | (go_at_call 44;(with_reducible refine(zbE (XQ.fld (XI.xq XG.out)) (XI.kinds XG.out) 5 jT.out Vr.out).mono ?_);rintro e wa5 ⟨ra5,rfl,⟨Aa5,la5,ca5,rfl,_⟩,GR,ur⟩;have uu:=zaa (XI.next XG.out GR ur);clear GR ur)
     | (go_at_call 45;(with_reducible refine(zuD (XQ.fld (XI.xq uu.out)) HQ6.out).mono ?_);rintro e wa6 ⟨ra6,rfl,rfl,KQ,qt⟩;have uv:=zaa (XI.next uu.out KQ qt);clear KQ qt)
     | (go_at_call 45;(with_reducible refine(zuE (XQ.fld (XI.xq uv.out)) cE.out).mono ?_);rintro e wa7 ⟨ra7,rfl,rfl,Jq,qu⟩;have uw:=zaa (XI.next uv.out Jq qu);clear Jq qu)
     | (go_at_call 42;(with_reducible refine(zuF (XQ.fld (XI.xq uw.out)) HQ8.out).mono ?_);rintro e wa8 ⟨ra8,rfl,rfl,ux,uy⟩;have uz:=zaa (XI.next uw.out ux uy);clear ux uy)
     | (go_at_call 42;(with_reducible refine(zuG (XQ.fld (XI.xq uz.out)) HQ9.out).mono ?_);rintro e wa9 ⟨ra9,rfl,rfl,VB,Jj⟩;have uA:=zaa (XI.next uz.out VB Jj);clear VB Jj)
     | (go_at_call 45;(with_reducible refine(zrs (XQ.fld (XI.xq uA.out)) Ug.out).mono ?_);rintro e wa10 ⟨ra10,rfl,rfl,vu,vv⟩;have vw:=zaa (XI.next uA.out vu vv);clear vu vv)
     | (go_at_call 42;(with_reducible refine(zrt (XQ.fld (XI.xq vw.out)) Uh.out).mono ?_);rintro e wa11 ⟨ra11,rfl,rfl,vx,vy⟩;have vz:=zaa (XI.next vw.out vx vy);clear vx vy)
     | (go_at_call 45;(with_reducible refine(zru (XQ.fld (XI.xq vz.out)) Ui.out).mono ?_);rintro e wa12 ⟨ra12,rfl,rfl,vB,vC⟩;have qc:=zaa (XI.next vz.out vB vC);obtain⟨z0,z1,z2,z3,z4,zf⟩:=qc.out.xq.bx.all;clear vB vC)
     | (go_at_call 43;(with_reducible refine(zgm (XQ.fld (XI.xq qc.out)) 13).mono ?_);rintro e w8 ⟨rfl,rfl⟩)
     | fail)
    go_ret;have vD:=GS.out _ _ _ _ _ _ ui.out qc.out.xq;rw[yC.out] at vD;exact vD
theorem ztf {f:Nat→Bool}{n:Nat}(h:∀ j,j < n→f j=false):(List.range n).find? f=none:=by
 rw[List.find?_eq_none];intro x hx;rw[h x (List.mem_range.1 hx)];exact ycS
theorem zqZ {f:Nat→Bool}{n i:Nat}(hi:i < n)(h:∀ j,j < i→f j=false)(hf:f i=true):(List.range n).find? f=some i:=by
 rw[List.find?_range_eq_some];exact⟨hf,List.mem_range.2 hi,fun j hj=>by rw[h j hj];rfl⟩
def zdv (v:V)(w:World)(e:Ending)(w':World):Prop:=
 (match zb8 v with
 | none=>e=.returned (.tuple #[.int .u64 0,.agg #[.int .u8 0,.int .u64 0,.string ⟨#[]⟩,.slice none 0 0],.bool false])
 | some (i,x)=>∃ A l c,e=.returned (.tuple #[.int .u64 ((112+i:Nat):Int),.agg #[.int .u8 (x.kind:Int),.int .u64 (x.num:Int),.string x.text,.slice A l c],.bool true])∧Kd w' x.kids A l c∧x.kind < 256∧x.num < 18446744073709551616)∧Below w.heap.size w w'
theorem zq0 {k n:Nat}{t:ByteArray}{ks:List V}(h:k≠25):zb8 (.mk k n t ks)=none:=by
 unfold zb8;rw[if_neg (by simpa [V.kind] using h)]
theorem zoC {n:Nat}{t:ByteArray}{d x:V}(h:∀ j,j < 9→named d j=false):zb8 (.mk 25 n t [d,x])=none:=by
 unfold zb8;rw[if_pos (show V.kind (.mk 25 n t [d,x])=25 from rfl)]
 show ((List.range 9).find? (named d)).map _=none
 rw[ztf h];rfl
theorem zjp {n i:Nat}{t:ByteArray}{d x:V}(hi:i < 9)(h:∀ j,j < i→named d j=false)(hf:named d i=true):zb8 (.mk 25 n t [d,x])=some (i,x):=by
 unfold zb8;rw[if_pos (show V.kind (.mk 25 n t [d,x])=25 from rfl)]
 show ((List.range 9).find? (named d)).map _=_
 rw[zqZ hi h hf];rfl
theorem zoD (k n:Nat)(t:ByteArray)(ks:List V)(A:Oz)(l c:Nat)(w:World)(h:k≠25):Calls prog 18 #[.agg #[.int .u8 (k:Int),.int .u64 (n:Int),.string t,.slice A l c]] w (zdv (.mk k n t ks) w):=by
 have hE:=zaa (zq0 (n:=n) (t:=t) (ks:=ks) h);have hd:((k:Int) != 25)=true:=by rw[bne,show ((k:Int)==25)=false by rw[zac];omega];rfl
 have Hg:Below w.heap.size w (w.alloc (.cells #[.int .u8 (k:Int),.int .u64 (n:Int),.string t,.slice A l c] 43)):=(za _ _);clear h;go_enter func18,ntmps18;go_wp2;refine bodyPost_ret (v:=.tuple #[.int .u64 0,.agg #[.int .u8 0,.int .u64 0,.string ⟨#[]⟩,.slice none 0 0],.bool false]) (by simp[results,results18,go_sem]) rfl ?_;unfold zdv;rw[hE.out];exact⟨rfl,Hg.alloc Hg.size _⟩
structure XS (w W wr:World) (n:Nat) (t:ByteArray) (A:Oz) (l c g:Nat):Prop where
 bx:Box wr w.heap.size (.int .u8 25) (.int .u64 (n:Int)) (.string t) (.slice A l c)
 rs:Box wr (w.heap.size+1) (.int .u8 0) (.int .u64 0) (.string ⟨#[]⟩) (.slice none 0 0)
 nm:∀ i,i < 9→wr.cell? ⟨g,i,none⟩=some (.string (mname i))
 low:Below w.heap.size w wr
theorem XS.call {w W wr w':World}{n:Nat}{t:ByteArray}{A:Oz}{l c g:Nat}(h:XS w W wr n t A l c g)(hb:Below wr.heap.size wr w'):XS w W w' n t A l c g:=
 ⟨h.bx.call hb,h.rs.call hb,fun i hi=>zaQ (h.nm i hi) hb (by
  have:=h.nm i hi;unfold World.cell? at this;cases hg:wr.heap[g]? with
  | none=>simp[hg] at this
  | some o=>exact(Array.getElem?_eq_some_iff.1 hg).1),zad h.low hb⟩
theorem zoE (n:Nat)(t:ByteArray)(d x:V)(A:Oz)(l c:Nat)(w:World)(hK:Kd w [d,x] A l c):Calls prog 18 #[.agg #[.int .u8 25,.int .u64 (n:Int),.string t,.slice A l c]] w (zdv (.mk 25 n t [d,x]) w):=by
 have Hg:Below w.heap.size w (w.alloc (.cells #[.int .u8 25,.int .u64 (n:Int),.string t,.slice A l c] 43)):=(za _ _);have JC:l=2:=hK.len;subst JC;obtain⟨b,o,kx,nx,tx,ksx,Ax,lx,cx,rfl,vE,GQ,z0,z1,z2,z3,jU,jR,U0⟩:=Kd.at_ hK (i:=1) (by omega);obtain rfl:x=.mk kx nx tx ksx:=by injection GQ
 simp only[Nat.one_mul] at z0 z1 z2 z3;have HZ:=zaa (fun wx (h:Below w.heap.size w wx)=>And.intro (zaQ z0 h vE) (And.intro (zaQ z1 h vE) (And.intro (zaQ z2 h vE) (zaQ z3 h vE))));have jV:=zaa U0;have cM:Hid (kx < 256∧nx < 18446744073709551616):=zaa ⟨jU,jR⟩;have gD:=zaa Hg;have HK:=zaa hK;clear Hg hK z0 z1 z2 z3 jU jR U0 GQ vE;go_enter func18,ntmps18;go_upto_region 4 with fail
 --LOOP
 obtain⟨W,hW⟩:∃ W,((w.alloc (.cells #[.int .u8 25,.int .u64 (n:Int),.string t,.slice (some ⟨b,o,none⟩) 2 c] 43)).alloc (.cells #[.int .u8 0,.int .u64 0,.string ⟨#[]⟩,.slice none 0 0] 43)).alloc (.cells #[.string ⟨#[97,109,113,112,58,104,101,97,100,101,114,58,108,105,115,116]⟩,.string ⟨#[97,109,113,112,58,100,101,108,105,118,101,114,121,45,97,110,110,111,116,97,116,105,111,110,115,58,109,97,112]⟩,.string ⟨#[97,109,113,112,58,109,101,115,115,97,103,101,45,97,110,110,111,116,97,116,105,111,110,115,58,109,97,112]⟩,.string ⟨#[97,109,113,112,58,112,114,111,112,101,114,116,105,101,115,58,108,105,115,116]⟩,.string ⟨#[97,109,113,112,58,97,112,112,108,105,99,97,116,105,111,110,45,112,114,111,112,101,114,116,105,101,115,58,109,97,112]⟩,.string ⟨#[97,109,113,112,58,100,97,116,97,58,98,105,110,97,114,121]⟩,.string ⟨#[97,109,113,112,58,97,109,113,112,45,115,101,113,117,101,110,99,101,58,108,105,115,116]⟩,.string ⟨#[97,109,113,112,58,97,109,113,112,45,118,97,108,117,101,58,42]⟩,.string ⟨#[97,109,113,112,58,102,111,111,116,101,114,58,109,97,112]⟩] 9)=W:=⟨_,rfl⟩;have Hr:W.heap[w.heap.size+1+1]? = some (.cells #[.string ⟨#[97,109,113,112,58,104,101,97,100,101,114,58,108,105,115,116]⟩,.string ⟨#[97,109,113,112,58,100,101,108,105,118,101,114,121,45,97,110,110,111,116,97,116,105,111,110,115,58,109,97,112]⟩,.string ⟨#[97,109,113,112,58,109,101,115,115,97,103,101,45,97,110,110,111,116,97,116,105,111,110,115,58,109,97,112]⟩,.string ⟨#[97,109,113,112,58,112,114,111,112,101,114,116,105,101,115,58,108,105,115,116]⟩,.string ⟨#[97,109,113,112,58,97,112,112,108,105,99,97,116,105,111,110,45,112,114,111,112,101,114,116,105,101,115,58,109,97,112]⟩,.string ⟨#[97,109,113,112,58,100,97,116,97,58,98,105,110,97,114,121]⟩,.string ⟨#[97,109,113,112,58,97,109,113,112,45,115,101,113,117,101,110,99,101,58,108,105,115,116]⟩,.string ⟨#[97,109,113,112,58,97,109,113,112,45,118,97,108,117,101,58,42]⟩,.string ⟨#[97,109,113,112,58,102,111,111,116,101,114,58,109,97,112]⟩] 9 (0,0)):=by
  rw[←hW];have:=heap_alloc_new ((w.alloc (.cells #[.int .u8 25,.int .u64 (n:Int),.string t,.slice (some ⟨b,o,none⟩) 2 c] 43)).alloc (.cells #[.int .u8 0,.int .u64 0,.string ⟨#[]⟩,.slice none 0 0] 43)) (.cells #[.string ⟨#[97,109,113,112,58,104,101,97,100,101,114,58,108,105,115,116]⟩,.string ⟨#[97,109,113,112,58,100,101,108,105,118,101,114,121,45,97,110,110,111,116,97,116,105,111,110,115,58,109,97,112]⟩,.string ⟨#[97,109,113,112,58,109,101,115,115,97,103,101,45,97,110,110,111,116,97,116,105,111,110,115,58,109,97,112]⟩,.string ⟨#[97,109,113,112,58,112,114,111,112,101,114,116,105,101,115,58,108,105,115,116]⟩,.string ⟨#[97,109,113,112,58,97,112,112,108,105,99,97,116,105,111,110,45,112,114,111,112,101,114,116,105,101,115,58,109,97,112]⟩,.string ⟨#[97,109,113,112,58,100,97,116,97,58,98,105,110,97,114,121]⟩,.string ⟨#[97,109,113,112,58,97,109,113,112,45,115,101,113,117,101,110,99,101,58,108,105,115,116]⟩,.string ⟨#[97,109,113,112,58,97,109,113,112,45,118,97,108,117,101,58,42]⟩,.string ⟨#[97,109,113,112,58,102,111,111,116,101,114,58,109,97,112]⟩] 9)
  simpa using this
 have HX:Hid (XS w W W n t (some ⟨b,o,none⟩) 2 c (w.heap.size+1+1)):=zaa (by
  refine⟨?_,?_,fun i hi=>?_,?_⟩
  ·rw[←hW];exact((Box.new w _ _ _ _).alloc _).alloc _
  ·rw[←hW];have:=(Box.new (w.alloc (.cells #[.int .u8 25,.int .u64 (n:Int),.string t,.slice (some ⟨b,o,none⟩) 2 c] 43)) (.int .u8 0) (.int .u64 0) (.string ⟨#[]⟩) (.slice none 0 0)).alloc (.cells #[.string ⟨#[97,109,113,112,58,104,101,97,100,101,114,58,108,105,115,116]⟩,.string ⟨#[97,109,113,112,58,100,101,108,105,118,101,114,121,45,97,110,110,111,116,97,116,105,111,110,115,58,109,97,112]⟩,.string ⟨#[97,109,113,112,58,109,101,115,115,97,103,101,45,97,110,110,111,116,97,116,105,111,110,115,58,109,97,112]⟩,.string ⟨#[97,109,113,112,58,112,114,111,112,101,114,116,105,101,115,58,108,105,115,116]⟩,.string ⟨#[97,109,113,112,58,97,112,112,108,105,99,97,116,105,111,110,45,112,114,111,112,101,114,116,105,101,115,58,109,97,112]⟩,.string ⟨#[97,109,113,112,58,100,97,116,97,58,98,105,110,97,114,121]⟩,.string ⟨#[97,109,113,112,58,97,109,113,112,45,115,101,113,117,101,110,99,101,58,108,105,115,116]⟩,.string ⟨#[97,109,113,112,58,97,109,113,112,45,118,97,108,117,101,58,42]⟩,.string ⟨#[97,109,113,112,58,102,111,111,116,101,114,58,109,97,112]⟩] 9)
   simpa using this
  ·have h9:i=0∨i=1∨i=2∨i=3∨i=4∨i=5∨i=6∨i=7∨i=8:=by omega
   rcases h9 with rfl | rfl | rfl | rfl | rfl | rfl | rfl | rfl | rfl
   all_goals exact cell_of_row W _ _ _ _ _ Hr
  ·rw[←hW];exact(gD.out.alloc gD.out.size _).alloc (ycR gD.out.size (by simp)) _)
 have HKW:=zaa (HK.out.call HX.out.low);rw[hW];clear hW Hr gD;generalize w.heap.size+1+1=gn at HX ⊢;go_wp2_with fail;go_loopw [6] (fun s6 wr=>∃ i:Nat,i≤9∧s6=.int .i64 (i:Nat)∧(∀ j,j < i→named d j=false)∧XS w W wr n t (some ⟨b,o,none⟩) 2 c gn) (fun i _=>9 - (intOf i).toNat)
 case atStart=>exact⟨0,by omega,rfl,fun j h=>absurd h (by omega),HX.out⟩
 case round=>
  obtain⟨i,KT,rfl,gm,hX⟩:=hrel;have Kg:=zaa gm;have kR:=zaa hX;clear gm;obtain⟨x0,x1,x2,x3,xf⟩:=hX.bx.all;by_cases Hi:i < 9
  ·obtain⟨b2,o2,k',n',t',ks',A',l',c',JP,Kz,hx,y0,y1,y2,y3,Gn,k8,gV⟩:=Kd.at_ (HK.out.call hX.low) (i:=0) (by omega);injection JP with JP
   injection JP with Ha Ga _
   subst Ha;subst Ga;obtain rfl:d=.mk k' n' t' ks':=by injection hx
   simp only[Nat.zero_mul,Nat.add_zero] at y0 y1 y2 y3;have jf:=zaa Hi;have Xq:=hX.nm i Hi;have g1:IntKind.i64.wrap (112+(i:Int))=112+(i:Int):=by rw[IntKind.wrap_i64];omega
   have g2:IntKind.u64.wrap (112+(i:Int))=112+(i:Int):=by rw[IntKind.wrap_u64];omega
   have Vl:=zaa (show named (.mk k' n' t' ks') i=((decide (k'=6)&&decide (n'=112+i))||(decide (k'=21)&&decide (t'=mname i))) from rfl);clear hx Gn k8 gV;have He:Below wr.heap.size wr (wr.alloc (.cells #[.int .u8 (k':Int),.int .u64 (n':Int),.string t',.slice A' l' c'] 43)):=(za _ _);have cN:=zaa (Box.new wr (.int .u8 (k':Int)) (.int .u64 (n':Int)) (.string t') (.slice A' l' c'));have kL:=zaa (kR.out.call He);clear hX He;go_upto_region 8 with fail
   clear x0 x1 x2 x3 xf y0 y1 y2 y3 Xq Kz;generalize wr.alloc (.cells #[.int .u8 (k':Int),.int .u64 (n':Int),.string t',.slice A' l' c'] 43)=Wd at cN kL ⊢;generalize wr.heap.size=gd at cN ⊢;obtain⟨x0,x1,x2,x3,xf⟩:=kL.out.bx.all;obtain⟨y0,y1,y2,y3,yf⟩:=cN.out.all;obtain⟨r0,r1,r2,r3,rf⟩:=kL.out.rs.all;have Xq:=kL.out.nm i Hi;clear Hi KT;by_cases h6:k'=6
   ·have e6:((k':Int)==6)=true:=by rw[h6];rfl
    have e21:((k':Int)==21)=false:=by rw[h6];rfl
    by_cases h7:n'=112+i
    ·have e7:((n':Int)==112+(i:Int))=true:=by rw[h7];simp
     have VL:Hid (named (.mk k' n' t' ks') i=true):=zaa (by rw[Vl.out,decide_eq_true h6,decide_eq_true h7];rfl);clear h6 h7 Vl;go_quiet (fail);go_upto_region 9 with fail
     generalize uB:Wd.drewN _=Wq;have Vm:Below Wd.heap.size Wd Wq:=uB▸below_drewN (Below.refl _ _) _;have j8:=zaa (kL.out.call Vm);clear uB Vm x0 x1 x2 x3 xf y0 y1 y2 y3 yf r0 r1 r2 r3 rf Xq;obtain⟨z0,z1,z2,z3⟩:=HZ.out _ j8.out.low;obtain⟨x0,x1,x2,x3,xf⟩:=j8.out.bx.all;obtain⟨r0,r1,r2,r3,rf⟩:=j8.out.rs.all;have HE:=zaa (zjp (n:=n) (t:=t) (x:=.mk kx nx tx ksx) jf.out Kg.out VL.out);go_region_with (fail)
     all_goals
      go_wp2_with fail;refine bodyPost_ret (v:=.tuple #[.int .u64 ((112+i:Nat):Int),.agg #[.int .u8 (kx:Int),.int .u64 (nx:Int),.string tx,.slice Ax lx cx],.bool true]) (by simp[results,results18,go_sem,r0,r1,r2,r3]) rfl ?_;unfold zdv;rw[HE.out];have kY:=zae (j8.out.low.drew) (show w.heap.size≤w.heap.size+1 by omega) (.int .u8 (kx:Int)) (.int .u64 (nx:Int)) (.string tx) (.slice Ax lx cx);exact⟨⟨Ax,lx,cx,rfl,jV.out.call kY,cM.out⟩,kY⟩
    ·have e7:((n':Int)==112+(i:Int))=false:=by rw[zac];omega
     have VL:Hid (named (.mk k' n' t' ks') i=false):=zaa (by rw[Vl.out,decide_eq_false h7,decide_eq_false (show ¬ k'=21 by omega),Bool.and_false];rfl);clear h6 h7 Vl;go_quiet (fail);go_wp2_with fail;go_roundw
     case rel=>exact⟨i+1,jf.out,by go_num,fun j hj=>by
      by_cases GC:j=i
      ·rw[GC];exact VL.out
      ·exact Kg.out j (by omega),kL.out.call (below_drewN (Below.refl _ _) _)⟩
     case measure=>(have:=jf.out;simp[intOf];omega)
   ·have e6:((k':Int)==6)=false:=by rw[zac];omega
    by_cases JD:k'=21
    ·have e21:((k':Int)==21)=true:=by rw[JD];rfl
     by_cases h8:t'=mname i
     ·have e8:(t'.toList==(mname i).toList)=true:=by rw[h8];simp
      have VL:Hid (named (.mk k' n' t' ks') i=true):=zaa (by rw[Vl.out,decide_eq_true JD,decide_eq_true h8,Bool.and_true,Bool.or_true]);clear h6 JD h8 Vl;go_quiet (fail);go_upto_region 9 with fail
      generalize uB:Wd.drewN _=Wq;have Vm:Below Wd.heap.size Wd Wq:=uB▸below_drewN (Below.refl _ _) _;have j8:=zaa (kL.out.call Vm);clear uB Vm x0 x1 x2 x3 xf y0 y1 y2 y3 yf r0 r1 r2 r3 rf Xq;obtain⟨z0,z1,z2,z3⟩:=HZ.out _ j8.out.low;obtain⟨x0,x1,x2,x3,xf⟩:=j8.out.bx.all;obtain⟨r0,r1,r2,r3,rf⟩:=j8.out.rs.all;have HE:=zaa (zjp (n:=n) (t:=t) (x:=.mk kx nx tx ksx) jf.out Kg.out VL.out);go_region_with (fail)
      all_goals
       go_wp2_with fail;refine bodyPost_ret (v:=.tuple #[.int .u64 ((112+i:Nat):Int),.agg #[.int .u8 (kx:Int),.int .u64 (nx:Int),.string tx,.slice Ax lx cx],.bool true]) (by simp[results,results18,go_sem,r0,r1,r2,r3]) rfl ?_;unfold zdv;rw[HE.out];have kY:=zae (j8.out.low.drew) (show w.heap.size≤w.heap.size+1 by omega) (.int .u8 (kx:Int)) (.int .u64 (nx:Int)) (.string tx) (.slice Ax lx cx);exact⟨⟨Ax,lx,cx,rfl,jV.out.call kY,cM.out⟩,kY⟩
     ·have VU:¬ t'.toList=(mname i).toList:=fun h=>h8 (zdc h);have e8:(t'.toList==(mname i).toList)=false:=by rw[zac];exact VU
      have VL:Hid (named (.mk k' n' t' ks') i=false):=zaa (by rw[Vl.out,decide_eq_false h6,decide_eq_false h8,Bool.and_false,Bool.false_and,Bool.or_false]);clear h6 JD h8 VU Vl;go_quiet (fail);go_wp2_with fail;go_roundw
      case rel=>exact⟨i+1,jf.out,by go_num,fun j hj=>by
       by_cases GC:j=i
       ·rw[GC];exact VL.out
       ·exact Kg.out j (by omega),kL.out.call (below_drewN (Below.refl _ _) _)⟩
      case measure=>(have:=jf.out;simp[intOf];omega)
    ·have e21:((k':Int)==21)=false:=by rw[zac];omega
     have VL:Hid (named (.mk k' n' t' ks') i=false):=zaa (by rw[Vl.out,decide_eq_false h6,decide_eq_false JD,Bool.false_and,Bool.false_and];rfl);clear h6 JD Vl;go_quiet (fail);go_wp2_with fail;go_roundw
     case rel=>exact⟨i+1,jf.out,by go_num,fun j hj=>by
      by_cases GC:j=i
      ·rw[GC];exact VL.out
      ·exact Kg.out j (by omega),kL.out.call (below_drewN (Below.refl _ _) _)⟩
     case measure=>(have:=jf.out;simp[intOf];omega)
  ·have h9:i=9:=by omega
   subst h9;have HE:=zaa (zoC (n:=n) (t:=t) (d:=d) (x:=.mk kx nx tx ksx) Kg.out);obtain⟨r0,r1,r2,r3,rf⟩:=kR.out.rs.all;clear hX Hi;go_wp2;refine bodyPost_ret (v:=.tuple #[.int .u64 0,.agg #[.int .u8 0,.int .u64 0,.string ⟨#[]⟩,.slice none 0 0],.bool false]) (by simp[results,results18,go_sem,r0,r1,r2,r3]) rfl ?_;unfold zdv;rw[HE.out];exact⟨rfl,zae kR.out.low (by omega) _ _ _ _⟩
end Me
end Go.Proofs.YtbbbanfggcediaaGreatDoor
