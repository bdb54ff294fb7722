/-
  Contracts of functions and plain mathematics, text by text, each with its conditions ahead of it:
  Contract of the program's message Get. Memory that was there stays. Conditions: the table utf.shapes as the program's text lays it; at most 262143 bytes.
  Contracts of what the laws of layer 10 call: large, data, the document's Same (of messages that are the same), and the anchor works. Memory that was there stays. Conditions: the table utf.shapes as the program's text lays it; at most 2^16 bytes of data.
  What the laws' walks of layer 10 ask of Put, Get and Same, in the form in which they ask it. Memory that was there stays. Condition: the table utf.shapes lies as the program's text lays it.
-/
import Derived.Test.YtcilmmdmkpnppaaGreatDoorY03
import Derived.Test.YtcilmmdmkpnppaaGreatDoorY20
import Derived.Test.YtcilmmdmkpnppaaGreatDoorY22
import Derived.StillTailTactics
import Derived.Lib.SlBytesConst
import Derived.Lib.SmallJoins
section
namespace Go.Proofs.YtcilmmdmkpnppaaGreatDoor.Me
set_option maxRecDepth 100000
open Go.RowKit Utf Val Fl Oc Dec V
open Enc hiding nullV
def GivesGet (o:Option M)(w:World)(e:Ending)(w':World):Prop:=
 match o with
 | none=>e=.returned (.tuple #[.agg #[.int .u8 0,.int .u32 0,.int .u32 0,.string ⟨#[]⟩,.slice none 0 0],.int .i64 6])∧Below w.heap.size w w'
 | some m=>∃ A l c,e=.returned (.tuple #[mV m.p m.ttl m.n m.id A l c,.int .i64 0])∧Utf.Own .u8 256 5 w' w.heap.size A l c m.body∧Below w.heap.size w w'
theorem dec_small {b:List Nat}(hb:b.length≤262143):bulk (decD b).1≤268435456:=by
 rcases dec_ways b with ⟨v,it,r,hv,hok,hd⟩ | ⟨_,hd⟩ | ⟨_,hd⟩
 ·rw[hd];obtain⟨⟨h1,h2⟩,_⟩:=val_fit hv;have hit:items v≤1024:=by
   unfold okB at hok;simp only[Bool.and_eq_true,decide_eq_true_eq] at hok;exact hok.1.1
  have:items v * (b.length+1)≤1024 * 262144:=Nat.mul_le_mul hit (by omega)
  show bulk v≤_
  omega
 ·rw[hd];simp[zeroV,bulk,bulkL,ByteArray.size]
 ·rw[hd];simp[zeroV,bulk,bulkL,ByteArray.size]
theorem dec_kids {b:List Nat}(h:(decD b).1.kind=25):∃ d x,(decD b).1.kids=[d,x]:=by
 rcases dec_ways b with ⟨v,it,r,hv,hok,hd⟩ | ⟨_,hd⟩ | ⟨_,hd⟩
 ·rw[hd] at h ⊢;obtain⟨k,n,t,ks⟩:=v;have hk:k=25:=h;subst hk;obtain⟨d,x,rfl,_⟩:=may_desc (may_of_ok hok);exact⟨d,x,rfl⟩
 ·rw[hd] at h;cases h
 ·rw[hd] at h;cases h
structure GL (w W wr:World) (gS n:Nat) (b0:List Nat) (A':Option Addr) (n' c':Nat) (b':List Nat) (Am:Option Addr) (nm cm k:Nat) (m:M) (bd:Bool):Prop where
 rd:Rd .u8 256 wr w.heap.size A' n' b'
 cap:n'≤c'
 le:n'≤n
 may:May wr gS Am nm cm k
 msg:MG wr W.heap.size (w.heap.size+1) m
 off:Off (fun i=>i=w.heap.size+1∨W.heap.size≤i) W wr
 len:m.body.length≤2048
 id0:k≤3→m.id=⟨#[]⟩
 eq:getM b0=getQ b'.length k m bd b'
section
variable {w W wr w':World} {gS n:Nat} {b0:List Nat} {A':Option Addr} {n' c':Nat} {b':List Nat} {Am:Option Addr} {nm cm k:Nat} {m:M} {bd:Bool}
theorem GL.call (h:GL w W wr gS n b0 A' n' c' b' Am nm cm k m bd)(hW:w.heap.size≤W.heap.size)(hb:Below wr.heap.size wr w'):GL w W w' gS n b0 A' n' c' b' Am nm cm k m bd:=
 ⟨h.rd.below (hb.mono (Nat.le_trans hW h.off.size)),h.cap,h.le,h.may.call hb,h.msg.call hb,h.off.next hb,h.len,h.id0,h.eq⟩
end
theorem getQ_bad {b:List Nat}{k:Nat}{m:M}{bd:Bool}(hb:b≠[])(h:(decD b).2.2≠0∨stepQ k m bd (decD b).1=none):getQ b.length k m bd b=none:=by
 cases b with
 | nil=>exact absurd rfl hb
 | cons x b=>
  show (if (decD (x::b)).2.2=0 then (match stepQ k m bd (decD (x::b)).1 with
   | none=>none
   | some (k',m',bd')=>getQ b.length k' m' bd' ((x::b).drop (decD (x::b)).2.1)) else none)=none
  by_cases hd:(decD (x::b)).2.2=0
  ·rw[if_pos hd,h.resolve_left fun e=>e hd]
  ·rw[if_neg hd]
theorem getQ_fuel:∀ (N N' k:Nat) (m:M) (bd:Bool) (b:List Nat),b.length≤N→b.length≤N'→getQ N k m bd b=getQ N' k m bd b
 | N,N',k,m,bd,[],_,_=>by cases N<;>cases N'<;>rfl
 | 0,_,_,_,_,_::_,h,_=>by simp at h
 | _+1,0,_,_,_,_::_,_,h=>by simp at h
 | N+1,N'+1,k,m,bd,x::b,h,h'=>by
  show (if (decD (x::b)).2.2=0 then (match stepQ k m bd (decD (x::b)).1 with
   | none=>none
   | some (k',m',bd')=>getQ N k' m' bd' ((x::b).drop (decD (x::b)).2.1)) else none)=(if (decD (x::b)).2.2=0 then (match stepQ k m bd (decD (x::b)).1 with
   | none=>none
   | some (k',m',bd')=>getQ N' k' m' bd' ((x::b).drop (decD (x::b)).2.1)) else none)
  by_cases hd:(decD (x::b)).2.2=0
  ·rw[if_pos hd,if_pos hd];have:=dec_adv hd;cases stepQ k m bd (decD (x::b)).1 with
   | none=>rfl
   | some s=>exact getQ_fuel N N' _ _ _ _ (by simp only[List.length_drop,List.length_cons] at *;omega) (by simp only[List.length_drop,List.length_cons] at *;omega)
  ·rw[if_neg hd,if_neg hd]
theorem getQ_go {b:List Nat}{k k':Nat}{m m':M}{bd bd':Bool}(hb:b≠[])(hd:(decD b).2.2=0)(h:stepQ k m bd (decD b).1=some (k',m',bd')):getQ b.length k m bd b=getQ (b.drop (decD b).2.1).length k' m' bd' (b.drop (decD b).2.1):=by
 cases b with
 | nil=>exact absurd rfl hb
 | cons x b=>
  show (if (decD (x::b)).2.2=0 then (match stepQ k m bd (decD (x::b)).1 with
   | none=>none
   | some (k',m',bd')=>getQ b.length k' m' bd' ((x::b).drop (decD (x::b)).2.1)) else none)=_
  rw[if_pos hd,h];have:=dec_adv hd;exact getQ_fuel _ _ _ _ _ _ (by simp only[List.length_drop,List.length_cons] at *;omega) (Nat.le_refl _)
theorem get_start (b:List Nat):getM b=getQ b.length 0 m0 false b:=by
 rw[getQ_eq b.length 0 m0 false s0 b rfl rfl (.inl ⟨rfl,rfl⟩) (by simp[m0])];rfl
theorem readS_id {q:Nat}{v:V}{m m':M}(h:readS q v m=some m')(hq:q≠3):m'.id=m.id:=by
 unfold readS at h;by_cases h0:q=0
 ·rw[if_pos h0] at h;unfold headR at h
  split at h
  ·cases h
  ·split at h
   ·cases h
   ·injection h with h;subst h;rfl
 ·rw[if_neg h0,if_neg hq] at h;by_cases h5:q=5
  ·rw[if_pos h5] at h
   split at h
   ·unfold dataR at h
    split at h
    ·injection h with h;subst h;rfl
    ·cases h
   ·cases h
  ·rw[if_neg h5] at h;injection h with h;subst h;rfl
theorem rd_any (q vk vn:Nat)(vt:ByteArray)(vks:List V)(vA:Option Addr)(vl vc g base:Nat)(m:M)(w:World)(hq:q < 7)(hN:bulkL vks≤268435456)(ht:vt.size≤268435456)(hn:vn < 18446744073709551616)(hks:∃ d x,vks=[d,x])(hK:Kd w vks vA vl vc)(hTab:Tab w)(hm:m.body.length≤2048)(hid:q=3→m.id=⟨#[]⟩)(hG:MG w base g m) :
  Calls Tryz.prog (sfn q) #[.agg #[.int .u8 (vk:Int),.int .u64 (vn:Int),.string vt,.slice vA vl vc],.pointer (some ⟨g,0,none⟩)] w (GivesRd base g (readS q (.mk vk vn vt vks) m) w):=by
 have h:q=0∨q=1∨q=2∨q=3∨q=4∨q=5∨q=6:=by omega
 rcases h with rfl | rfl | rfl | rfl | rfl | rfl | rfl
 ·exact rdh_any vk vn vt vks vA vl vc g base m w hN ht hn hK hTab hG
 ·exact letgo_any vk vn vt vA vl vc g base m w hG
 ·exact letgo_any vk vn vt vA vl vc g base m w hG
 ·exact rdp_any vk vn vt vks vA vl vc g base m w hN ht hn hK hTab (hid rfl) hG
 ·exact letgo_any vk vn vt vA vl vc g base m w hG
 ·obtain⟨d,x,hks⟩:=hks;have hx:x.text.size≤268435456:=by
   obtain⟨xk,xn,xt,xs⟩:=x;rw[hks] at hN;simp only[bulkL,bulk] at hN
   show xt.size≤_
   omega
  have:=rdd_any vk vn vt vks d x vA vl vc g base m w hks hx hK hm hG;have he:readS 5 (.mk vk vn vt vks) m=dataR x m:=by rw[hks];rfl
  rw[he];exact this
 ·exact letgo_any vk vn vt vA vl vc g base m w hG
theorem elemSects:Tryz.prog.elem 56=63:=by kernel_rfl
theorem sizeSect:(Tryz.prog.info? 63).map (·.size)=some 4:=by kernel_rfl
theorem cut_secs (A:Option Addr)(n c k:Nat)(hk:k≤n)(hnc:n≤c):∃ A1 c1,n - k≤c1 ∧
  (∀ (W:World) (i:Int),i=k→(Instr.slice 56 (.slice A n c) (some (.int .i64 i)) none none).run Tryz.prog W=.ok (.slice A1 (n - k) c1) W)∧(∀ (W:World) (i:Int),i=k→(Instr.sliceAt 56 (.slice A n c) (some (.int .i64 i)) none none).run Tryz.prog W=.ok (.slice A1 (n - k) c1) W) ∧
  (k < n→∀ b o,A=some ⟨b,o,none⟩→A1=some ⟨b,o+k * 4,none⟩):=by
 have hT':Tryz.prog.underlying 56=some (.slice (Tryz.prog.elem 56)):=by rw[elemSects];exact Tryz.underlying56
 have hsz:∀ W:World,(sizeOf 63).run Tryz.prog W=.ok 4 W:=fun W=>by
  have hi:=sizeSect;cases hq:Tryz.prog.info? 63 with
  | none=>rw[hq] at hi;cases hi
  | some x=>rw[hq] at hi;injection hi with hi;simp[sizeOf,typeInfo,hq,hi]
 have h1:∀ (W:World) (i:Int),i=k→(Instr.slice 56 (.slice A n c) (some (.int .i64 i)) none none).run Tryz.prog W=.ok (.slice (if c=k then A else A.map (·.add (k * 4))) (n - k) (c - k)) W:=fun W i hi=>by
  subst hi;rw[run_slice_l (P:=Tryz.prog) (w:=W) 56 A n c hT' .i64 (k:Int) (by omega) (by omega),elemSects,hsz];simp only[Result.andThen,sliced,Int.toNat_natCast]
 refine⟨_,_,?_,h1,fun W i hi=>?_,fun hl b o e=>?_⟩
 ·omega
 ·rw[run_sliceAt_slice (P:=Tryz.prog) (w:=W) 56 _ _ _ _ hT'];exact h1 W i hi
 ·subst e;rw[if_neg (by omega)];simp only[Option.map_some];unfold Addr.add
  split
  ·rename_i h0;rw[h0];rfl
  ·rfl
theorem May.cut {w:World}{g:Nat}{A A1:Option Addr}{n c c1 k j:Nat}(h:May w g A n c k)(hj:j≤n)(hc:n - j≤c1)(h1:j < n→∀ b o,A=some ⟨b,o,none⟩→A1=some ⟨b,o+j * 4,none⟩):May w g A1 (n - j) c1 (k+j):=by
 refine⟨h.sv,by have:=h.sum;omega,hc,fun h0=>?_⟩;rw[h1 (by omega) _ _ (h.at_ (by omega)),Nat.add_mul]
theorem gd_at {k n fn er:Nat}{t:ByteArray}{ks:List V}{w w':World}{e:Ending}(h:GivesD (.mk k n t ks,fn,er) w e w'):∃ A l c,e=.returned (.tuple #[.agg #[.int .u8 (k:Int),.int .u64 (n:Int),.string t,.slice A l c],.int .i64 (fn:Int),.int .i64 (er:Int)])∧k < 256∧n < 18446744073709551616∧Nw w.heap.size w' ks A l c∧Below w.heap.size w w':=h
theorem below_set5 {B:Nat}{w w1:World}(h:Below B w w1){g:Nat}(hg:B≤g)(a b c d e:Value):Below B w (((((w1.setCell ⟨g,0,none⟩ a).setCell ⟨g,1,none⟩ b).setCell ⟨g,2,none⟩ c).setCell ⟨g,3,none⟩ d).setCell ⟨g,4,none⟩ e):=
 ((((h.setCell (p:=⟨g,0,none⟩) hg _).setCell (p:=⟨g,1,none⟩) hg _).setCell (p:=⟨g,2,none⟩) hg _).setCell (p:=⟨g,3,none⟩) hg _).setCell (p:=⟨g,4,none⟩) hg _
theorem off_set5 (w1:World){g:Nat}(a b c d e:Value):Off (fun i=>i=g) w1 (((((w1.setCell ⟨g,0,none⟩ a).setCell ⟨g,1,none⟩ b).setCell ⟨g,2,none⟩ c).setCell ⟨g,3,none⟩ d).setCell ⟨g,4,none⟩ e):=
 ((((Off.set (X:=fun i=>i=g) w1 0 a rfl).trans (Off.set _ 1 b rfl)).trans (Off.set _ 2 c rfl)).trans (Off.set _ 3 d rfl)).trans (Off.set _ 4 e rfl)
theorem gl_low {w W wr:World}(h:Off (fun i=>i=w.heap.size+1∨W.heap.size≤i) W wr)(hW:Below w.heap.size w W)(hs:w.heap.size+1+1≤W.heap.size):Below w.heap.size w wr:=
 hW.trans (h.below (by omega) fun i hi=>by omega)
theorem gl_zero {w W wr:World}{x0 x1 x2 x3 x4:Value}(h:Off (fun i=>i=w.heap.size+1∨W.heap.size≤i) W wr)(hx:BxM W w.heap.size x0 x1 x2 x3 x4)(hs:w.heap.size+1+1≤W.heap.size):BxM wr w.heap.size x0 x1 x2 x3 x4:=hx.off h (by omega)
theorem gl_next {w W w3 w5:World}{gS n:Nat}{b0:List Nat}{A' A2:Option Addr}{n' c' c2 fn:Nat}{b':List Nat}{Am Am2:Option Addr}{nm cm cm2 k k2 nm2:Nat}{m m':M}{bd bd2:Bool}{v:V}
  (h:GL w W w3 gS n b0 A' n' c' b' Am nm cm k m bd) (hs:w.heap.size+1+1≤W.heap.size) (ho:Off (fun i=>i=w.heap.size+1∨W.heap.size≤i) w3 w5) (hm:MG w5 W.heap.size (w.heap.size+1) m') (hbn:b'≠[]) (hdec:decD b'=(v,fn,0)) (hst:stepQ k m bd v=some (k2,m',bd2))
  (hmay:May w5 gS Am2 nm2 cm2 k2) (hc2:n' - fn≤c2) (hcut:∀ w B l,Rd .u8 256 w B A' n' l→Rd .u8 256 w B A2 (n' - fn) (l.drop fn)) (hlen:m'.body.length≤2048) (hid:k2≤3→m'.id=⟨#[]⟩) :
  GL w W w5 gS n b0 A2 (n' - fn) c2 (b'.drop fn) Am2 nm2 cm2 k2 m' bd2:=by
 refine⟨hcut _ _ _ (h.rd.below (ho.below (by have:=h.off.size;omega) fun i hi=>by omega)),hc2,by have:=h.le;omega,hmay,hm,h.off.trans ho,hlen,hid,?_⟩;rw[h.eq,getQ_go hbn (by rw[hdec]) (by rw[hdec];exact hst),hdec]
theorem lenOf_cut {A A2:Option Addr}{n c c2 fn:Nat}(h0:n≠0)(h1:1≤fn):lenOf (.slice A2 (n - fn) c2) < lenOf (.slice A n c):=by
 show n - fn < n
 omega
def Enters (f:Nat):Prop:=∀ (args:Array Value) (w:World),(callFunc f args).run Tryz.prog w=.ok (.enter f args) w
theorem sfn_enters {q:Nat}(hq:q < 7):Enters (sfn q):=by
 have h:q=0∨q=1∨q=2∨q=3∨q=4∨q=5∨q=6:=by omega
 rcases h with rfl | rfl | rfl | rfl | rfl | rfl | rfl
 ·exact Tryz.call62
 ·exact Tryz.call63
 ·exact Tryz.call63
 ·exact Tryz.call64
 ·exact Tryz.call63
 ·exact Tryz.call65
 ·exact Tryz.call63
set_option maxHeartbeats 4000000 in
theorem mget_any (A:Option Addr)(n c:Nat)(b:List Nat)(w:World)(hr:Rd .u8 256 w w.heap.size A n b)(hnc:n≤c)(hn:n≤262143)(hTab:Tab w):Calls Tryz.prog 14 #[.slice A n c] w (GivesGet (getM b) w):=by
 have hpos:=hTab.pos;have hB0:Below w.heap.size w ((w.alloc (.cells #[.int .u8 0,.int .u32 0,.int .u32 0,.string ⟨#[]⟩,.slice none 0 0] 25)).alloc (.cells #[.int .u8 4,.int .u32 0,.int .u32 0,.string ⟨#[]⟩,.slice none 0 0] 25)):=two_boxes w _ _;have hx0:BxM ((w.alloc (.cells #[.int .u8 0,.int .u32 0,.int .u32 0,.string ⟨#[]⟩,.slice none 0 0] 25)).alloc (.cells #[.int .u8 4,.int .u32 0,.int .u32 0,.string ⟨#[]⟩,.slice none 0 0] 25)) w.heap.size (.int .u8 0) (.int .u32 0) (.int .u32 0) (.string ⟨#[]⟩) (.slice none 0 0):=(BxM.new _ _ _ _ _ _).alloc _;have hx1:BxM ((w.alloc (.cells #[.int .u8 0,.int .u32 0,.int .u32 0,.string ⟨#[]⟩,.slice none 0 0] 25)).alloc (.cells #[.int .u8 4,.int .u32 0,.int .u32 0,.string ⟨#[]⟩,.slice none 0 0] 25)) (w.heap.size+1) (.int .u8 4) (.int .u32 0) (.int .u32 0) (.string ⟨#[]⟩) (.slice none 0 0):=by
  have:=BxM.new (w.alloc (.cells #[.int .u8 0,.int .u32 0,.int .u32 0,.string ⟨#[]⟩,.slice none 0 0] 25)) (.int .u8 4) (.int .u32 0) (.int .u32 0) (.string ⟨#[]⟩) (.slice none 0 0)
  rwa [World.size_alloc] at this
 have HB:=Lib.hid hB0;have HX0:=Lib.hid hx0;have HX1:=Lib.hid hx1;have HT:=Lib.hid hTab;have HR:=Lib.hid hr;have HN:=Lib.hid hn;have HNC:=Lib.hid hnc;clear hB0 hx0 hx1 hTab hr hn hnc;go_enter Tryz.func14,Tryz.ntmps14;go_wp2_with fail;go_step3;go_wp2_with fail
 (with_reducible refine(secs_any _).mono ?_)
 rintro e W ⟨gS,rfl,hgS,hMay,hbW⟩;have hWs:=hbW.size;simp only[World.size_alloc] at hgS hWs;have HBW:=Lib.hid (below_next HB.out hbW);have HW0:=Lib.hid (HX0.out.call hbW);have HGS:=Lib.hid (And.intro hgS hMay.sv.1);have HL:Hid (GL w W W gS n b A n c b (some ⟨gS,0,none⟩) 7 7 0 m0 false):=Lib.hid ⟨HR.out.below HBW.out,HNC.out,Nat.le_refl _,hMay,⟨by omega,Nat.le_refl _,none,0,0,HX1.out.call hbW,Utf.Own.nil _ _ _ _ _⟩,Off.refl _ _,by simp[m0],fun _=>rfl,get_start b⟩;have HWS:=Lib.hid hWs;have HPOS:=Lib.hid hpos;clear hgS hMay hbW hWs HB HX0 HX1 hpos;go_wp2_with fail;go_step3;go_wp2_with fail;go_loopw [0,5,6] (fun s0 s5 s6 wr=>∃ (A':Option Addr) (n' c':Nat) (b':List Nat) (Am:Option Addr) (nm cm k:Nat) (m:M) (bd:Bool),s0=.slice A' n' c'∧s5=.bool bd∧s6=.slice Am nm cm∧GL w W wr gS n b A' n' c' b' Am nm cm k m bd) (fun s0 _ _ _=>lenOf s0)
 case atStart=>exact⟨A,n,c,b,some ⟨gS,0,none⟩,7,7,0,m0,false,rfl,rfl,rfl,HL.out⟩
 case round=>
  obtain⟨A',n',c',b',Am,nm,cm,k,m,bd,rfl,rfl,rfl,hG⟩:=hrel;have HG:=Lib.hid hG;by_cases h0:n'=0
  case pos=>
   subst h0;have hd0:decide ((0:Int) < ((0:Nat):Int))=false:=by decide
   obtain⟨z0,z1,z2,z3,z4,zf⟩:=(gl_zero hG.off HW0.out HWS.out).all;have hbl:b'=[]:=List.eq_nil_of_length_eq_zero hG.rd.len;subst hbl;have HEQ:Hid (getM b=if bd=true then some m else none):=Lib.hid (hG.eq.trans rfl);obtain⟨hm1,hm2,Ag,ng,cg,hbx,hown⟩:=hG.msg;obtain⟨y0,y1,y2,y3,y4,yf⟩:=hbx.all;have HOW:=Lib.hid hown;have HLO:=Lib.hid (gl_low hG.off HBW.out HWS.out);clear hG HL hm1 hm2 hbx hown;cases bd with
   | false=>
    go_wp2;rw[Exit.noGoto_ret];refine bodyPost_ret (v:=.tuple #[.agg #[.int .u8 0,.int .u32 0,.int .u32 0,.string ⟨#[]⟩,.slice none 0 0],.int .i64 6]) (by simp[results,Tryz.results14,go_sem,z0,z1,z2,z3,z4]) rfl ?_;rw[HEQ.out];exact⟨rfl,below_set5 HLO.out (Nat.le_refl _) _ _ _ _ _⟩
   | true=>
    go_wp2
    try rw[Exit.noGoto_ret]
    refine bodyPost_ret (v:=.tuple #[mV m.p m.ttl m.n m.id Ag ng cg,.int .i64 0]) (by simp[results,Tryz.results14,go_sem,z0,z1,z2,z3,z4,mV]) rfl ?_;rw[HEQ.out];exact⟨Ag,ng,cg,rfl,(own_off HOW.out (off_set5 _ _ _ _ _ _) fun i hi e=>by have:=HWS.out;omega).mono HBW.out.size,below_set5 HLO.out (Nat.le_refl _) _ _ _ _ _⟩
  case neg=>
   have hd0:decide ((0:Int) < (n':Int))=true:=decide_eq_true (by omega);have hbne:b'≠[]:=fun e=>h0 (by rw[←hG.rd.len,e];rfl);have HDS:Hid (bulk (decD b').1≤268435456):=Lib.hid (dec_small (by rw[hG.rd.len];have:=hG.le;have:=HN.out;omega));have hTr:Tab wr:=(HT.out.below HBW.out HPOS.out).below (hG.off.below (B:=w.heap.size) (by have:=HWS.out;omega) (fun i hi=>by have:=HWS.out;omega)) HPOS.out;have HTR:=Lib.hid hTr;have HD:=Lib.hid (dec_any (hG.rd.mono (Nat.le_trans (by have:=HWS.out;omega) hG.off.size)) hG.cap (by have:=hG.le;have:=HN.out;omega) hTr);have HBNE:=Lib.hid hbne;obtain⟨⟨⟨vk,vn,vt,vks⟩,fn,er⟩,hdec⟩:∃ r,decD b'=r:=⟨_,rfl⟩;rw[hdec] at HD HDS;have HDEC:=Lib.hid hdec;clear hbne hTr hG hdec HL;go_wp2_with fail
   (with_reducible refine HD.out.mono ?_)
   intro e w1 hgd;obtain⟨vA,vl,vc,rfl,hvk,hvn,hvN,hb1⟩:=gd_at hgd;clear hgd;have hBox:Box (w1.alloc (.cells #[.int .u8 (vk:Int),.int .u64 (vn:Int),.string vt,.slice vA vl vc] 44)) w1.heap.size (.int .u8 (vk:Int)) (.int .u64 (vn:Int)) (.string vt) (.slice vA vl vc):=Box.new _ _ _ _ _;have hb2:Below wr.heap.size wr (w1.alloc (.cells #[.int .u8 (vk:Int),.int .u64 (vn:Int),.string vt,.slice vA vl vc] 44)):=hb1.alloc hb1.size _;have HG2:=Lib.hid (HG.out.call (by have:=HWS.out;omega) hb2);have HK2:=Lib.hid (hvN.kd.alloc (.cells #[.int .u8 (vk:Int),.int .u64 (vn:Int),.string vt,.slice vA vl vc] 44));have HTR2:=Lib.hid (HTR.out.call hb2);have HBX2:=Lib.hid hBox;have HVN:=Lib.hid hvn;have HVB:Hid (bulkL vks≤268435456∧vt.size≤268435456):=Lib.hid (by have:=HDS.out;simp only[bulk] at this;omega);have H25:Hid (vk=25→∃ d x,vks=[d,x]):=Lib.hid (fun h=>by have:=dec_kids (b:=b') (by rw[HDEC.out];exact h);rw[HDEC.out] at this;exact this);have HIX:=Lib.hid (idx_any vk vn vt vks vA vl vc w1.heap.size gS Am nm cm k _ HVB.out.1 HK2.out H25.out hBox HG2.out.may);clear hb1 hb2 hvN hBox hvk hvn HD HTR HG;by_cases her:er=0
   case neg=>
    have hde:((er:Int)==0)=false:=by rw[beq_eq_false_iff_ne];omega
    have hdn:((er:Int) != 0)=true:=by rw[bne,hde];rfl
    have HNO:Hid (getM b=none):=Lib.hid (by rw[HG2.out.eq];exact getQ_bad HBNE.out (.inl (by rw[HDEC.out];exact her)));clear her;go_wp2_with fail
    (with_reducible refine HIX.out.mono ?_)
    rintro e w3 ⟨hix,hb3⟩;have HOF:=Lib.hid (HG2.out.off.next hb3);rcases hix with ⟨j,hj,_,_,rfl⟩ | ⟨_,rfl⟩
    ·clear hj hb3;obtain⟨z0,z1,z2,z3,z4,zf⟩:=(gl_zero HOF.out HW0.out HWS.out).all;go_wp2;rw[Exit.noGoto_ret];refine bodyPost_ret (v:=.tuple #[.agg #[.int .u8 0,.int .u32 0,.int .u32 0,.string ⟨#[]⟩,.slice none 0 0],.int .i64 6]) (by simp[results,Tryz.results14,go_sem,z0,z1,z2,z3,z4]) rfl ?_;rw[HNO.out];exact⟨rfl,below_set5 (gl_low HOF.out HBW.out HWS.out) (Nat.le_refl _) _ _ _ _ _⟩
    ·clear hb3;obtain⟨z0,z1,z2,z3,z4,zf⟩:=(gl_zero HOF.out HW0.out HWS.out).all;go_wp2;rw[Exit.noGoto_ret];refine bodyPost_ret (v:=.tuple #[.agg #[.int .u8 0,.int .u32 0,.int .u32 0,.string ⟨#[]⟩,.slice none 0 0],.int .i64 6]) (by simp[results,Tryz.results14,go_sem,z0,z1,z2,z3,z4]) rfl ?_;rw[HNO.out];exact⟨rfl,below_set5 (gl_low HOF.out HBW.out HWS.out) (Nat.le_refl _) _ _ _ _ _⟩
   case pos=>
    subst her;have HDEC0:Hid (decD b'=(.mk vk vn vt vks,fn,0)):=HDEC;have hadv:=dec_adv (b:=b') (by rw[HDEC0.out]);rw[HDEC0.out,HG2.out.rd.len] at hadv;obtain⟨hf1,hf2⟩:1≤fn∧fn≤n':=hadv;simp only[Int.cast_ofNat_Int];go_wp2_with fail
    (with_reducible refine HIX.out.mono ?_)
    rintro e w3 ⟨hix,hb3⟩;have hG3:=HG2.out.call (by have:=HWS.out;omega) hb3;rcases hix with ⟨j,hj,his,hno,rfl⟩ | ⟨hno,rfl⟩
    ·have hsum:=hG3.may.sum;have hq7:k+j < 7:=by omega
     have HQ7:=Lib.hid hq7;obtain rfl:=hG3.may.at_ (by omega);obtain⟨c0,c1,c2,c3⟩:=hG3.may.sv.2 (k+j) hq7;rw[show (k+j) * 4=k * 4+j * 4 by omega] at c0 c1 c2 c3;have hgl:=hG3.may.sv.1;have hcap:=hG3.may.cap;have hk25:vk=25:=by
      by_cases h:vk=25
      ·exact h
      ·have:=isB_25 (code:=112+sidx (k+j)) (nm:=mname (sidx (k+j))) (kd:=skind (k+j)) (v:=.mk vk vn vt vks) h;exact absurd (his.symm.trans this) (by simp)
     have HFD:Hid (fnd (.mk vk vn vt vks) k (7 - k)=some (k+j)):=Lib.hid (fnd_some (by omega) his hno);subst hk25;have hbx3:Box w3 w1.heap.size (.int .u8 25) (.int .u64 (vn:Int)) (.string vt) (.slice vA vl vc):=HBX2.out.call hb3;obtain⟨v0,v1,v2,v3,vf⟩:=hbx3.all;have hvbl:=hbx3.lt;have HRDR:Hid (∀ (wx:World),Below w3.heap.size w3 wx→Calls Tryz.prog (sfn (k+j)) #[.agg #[.int .u8 25,.int .u64 (vn:Int),.string vt,.slice vA vl vc],.pointer (some ⟨w.heap.size+1,0,none⟩)] wx (GivesRd W.heap.size (w.heap.size+1) (readS (k+j) (.mk 25 vn vt vks) m) wx)):=Lib.hid (fun(wx:World) (hb:Below w3.heap.size w3 wx)=>rd_any (k+j) 25 vn vt vks vA vl vc (w.heap.size+1) W.heap.size m wx hq7 HVB.out.1 HVB.out.2 HVN.out (H25.out rfl) ((HK2.out.call hb3).call hb) ((HTR2.out.call hb3).call hb) hG3.len (fun h=>hG3.id0 (by omega)) (hG3.msg.call hb));have hct:∀ (args:Array Value) (w:World),(callFunc (sfn (k+j)) args).run Tryz.prog w=.ok (.enter (sfn (k+j)) args) w:=sfn_enters hq7;obtain⟨ff,hff⟩:∃ x,sfn (k+j)=x:=⟨_,rfl⟩;rw[hff] at c3 HRDR hct;obtain⟨cd,hcd⟩:∃ x,112+sidx (k+j)=x:=⟨_,rfl⟩;rw[hcd] at c0;have HCD:=Lib.hid hcd;have HG3:=Lib.hid hG3;have hjI:(j:Int) < (nm:Int):=by omega
     have hjI0:¬ (j:Int) < 0:=by omega
     have HJ:=Lib.hid hj;clear his hno hff hcd hG3 hbx3 hb3 HBX2 HIX HG2 HK2 HTR2 c1 c2;go_wp2_with fail;have hcap0:=HG3.out.cap;go_still_tail 6,(by kernel_rfl);go_wp2_with fail
     (with_reducible refine(HRDR.out _ ((Below.refl _ _).drew)).mono ?_)
     cases hrd:readS (k+j) (.mk 25 vn vt vks) m with
     | none=>
      rintro e w5 ⟨rfl,ho5⟩;have HOF:=Lib.hid (HG3.out.off.trans ((Off.of _ (Below.refl _ w3).drew).trans ho5));have HNO:Hid (getM b=none):=Lib.hid (by rw[HG3.out.eq];exact getQ_bad HBNE.out (.inr (by rw[HDEC0.out,stepQ_some HFD.out,hrd])));clear ho5 hrd HRDR hct c0 c3 v0 v1 v2 v3 vf hgl;obtain⟨z0,z1,z2,z3,z4,zf⟩:=(gl_zero HOF.out HW0.out HWS.out).all;go_wp2;rw[Exit.noGoto_ret];refine bodyPost_ret (v:=.tuple #[.agg #[.int .u8 0,.int .u32 0,.int .u32 0,.string ⟨#[]⟩,.slice none 0 0],.int .i64 6]) (by simp[results,Tryz.results14,go_sem,z0,z1,z2,z3,z4]) rfl ?_;rw[HNO.out];exact⟨rfl,below_set5 (gl_low HOF.out HBW.out HWS.out) (Nat.le_refl _) _ _ _ _ _⟩
     | some m'=>
      rintro e w5 ⟨rfl,ho5,hM5⟩;have ho35:=(Off.of (fun i=>i=w.heap.size+1∨W.heap.size≤i) (Below.refl _ w3).drew).trans ho5;have hsame:=ho35.block gS hgl (by have:=HGS.out;omega);have d0:=(World.cell?_of_block (a:=⟨gS,k * 4+j * 4,none⟩) hsame).trans c0;have hMay5:May w5 gS (some ⟨gS,k * 4,none⟩) nm cm k:=⟨HG3.out.may.sv.keep ho35.size hsame,HG3.out.may.sum,HG3.out.may.cap,HG3.out.may.at_⟩;have HMAY5:=Lib.hid hMay5;have HO35:=Lib.hid ho35;have HM5:=Lib.hid hM5;have HRD:=Lib.hid hrd;have hgl5:=hMay5.sv.1;obtain⟨Ab,cb,hcb,_,hb1,hb2,hRb⟩:=cut_from A' n' c' fn hf2 hcap0;have HCB:=Lib.hid hcb;have HRB:=Lib.hid hRb;have hfI:(fn:Int)≤(n':Int):=by omega
      have HLEN:=Lib.hid (readS_len HG3.out.len hrd);clear ho5 hrd HRDR hct c0 c3 v0 v1 v2 v3 vf hgl hMay5 ho35 hM5 hsame hRb hcb;by_cases h5:k+j=5
      ·have hd5:((cd:Int)==117)=true:=by rw[←HCD.out,h5];rfl
       have HST:Hid (stepQ k m bd (.mk 25 vn vt vks)=some (5,m',true)):=Lib.hid (by rw[stepQ_some HFD.out,HRD.out,h5];simp);obtain⟨A2,c2,hc2,hs1,hs2,hA2⟩:=cut_secs (some ⟨gS,k * 4,none⟩) nm cm j (by omega) hcap;have HMAY6:Hid (May w5 gS A2 (nm - j) c2 5):=Lib.hid (h5▸HMAY5.out.cut (by omega) hc2 hA2);clear h5 hc2 hA2;go_wp2_with fail;go_roundw
       case rel=>exact⟨Ab,n' - fn,cb,b'.drop fn,A2,nm - j,c2,5,m',true,rfl,rfl,rfl,gl_next HG3.out HWS.out HO35.out HM5.out HBNE.out HDEC0.out HST.out HMAY6.out HCB.out HRB.out HLEN.out (fun h=>by omega)⟩
       case measure=>exact lenOf_cut h0 hf1
      ·have hd5:((cd:Int)==117)=false:=by rw[←HCD.out,beq_eq_false_iff_ne];unfold sidx;split<;>omega
       have HST:Hid (stepQ k m bd (.mk 25 vn vt vks)=some (k+(j+1),m',bd)):=Lib.hid (by rw[stepQ_some HFD.out,HRD.out];simp only;rw[if_neg h5,show (k+j==5)=false from beq_eq_false_iff_ne.2 h5,Bool.or_false];rfl);have HID:Hid (k+(j+1)≤3→m'.id=⟨#[]⟩):=Lib.hid (fun h=>(readS_id HRD.out (by omega)).trans (HG3.out.id0 (by omega)));obtain⟨A2,c2,hc2,hs1,hs2,hA2⟩:=cut_secs (some ⟨gS,k * 4,none⟩) nm cm (j+1) (by omega) hcap;have HMAY6:Hid (May w5 gS A2 (nm - (j+1)) c2 (k+(j+1))):=Lib.hid (HMAY5.out.cut (by omega) hc2 hA2);have hs3:=fun W=>hs1 W ((j:Int)+1) (by omega);have hs4:=fun W=>hs2 W ((j:Int)+1) (by omega);clear h5 hc2 hA2 hs1 hs2;go_wp2_with fail;go_roundw
       case rel=>exact⟨Ab,n' - fn,cb,b'.drop fn,A2,nm - (j+1),c2,k+(j+1),m',bd,rfl,rfl,rfl,gl_next HG3.out HWS.out HO35.out HM5.out HBNE.out HDEC0.out HST.out HMAY6.out HCB.out HRB.out HLEN.out HID.out⟩
       case measure=>exact lenOf_cut h0 hf1
    ·have HNO:Hid (getM b=none):=Lib.hid (by rw[hG3.eq];exact getQ_bad HBNE.out (.inr (by rw[HDEC0.out];exact stepQ_none (fnd_none fun i hi=>hno i (by have:=hG3.may.sum;omega)))));have HOF:=Lib.hid hG3.off;clear hno hb3 hG3;obtain⟨z0,z1,z2,z3,z4,zf⟩:=(gl_zero HOF.out HW0.out HWS.out).all;go_wp2;rw[Exit.noGoto_ret];refine bodyPost_ret (v:=.tuple #[.agg #[.int .u8 0,.int .u32 0,.int .u32 0,.string ⟨#[]⟩,.slice none 0 0],.int .i64 6]) (by simp[results,Tryz.results14,go_sem,z0,z1,z2,z3,z4]) rfl ?_;rw[HNO.out];exact⟨rfl,below_set5 (gl_low HOF.out HBW.out HWS.out) (Nat.le_refl _) _ _ _ _ _⟩
end Go.Proofs.YtcilmmdmkpnppaaGreatDoor.Me
end
section
namespace Go.Proofs.YtcilmmdmkpnppaaGreatDoor.Me
set_option maxRecDepth 100000
open Go.RowKit Utf Val Fl Oc Dec V
open Enc hiding nullV
theorem mass_core {k n:Nat}{t:ByteArray}{ks:List V}(h:k≠25)(h4:k≠24):mass (plan (.mk k n t ks))≤33+t.size+massL (planL ks):=by
 rw[plan_core n t ks h];simp only[fin,mass,massN,if_neg h4];omega
theorem mass_desc {t:ByteArray}{d x:V}:mass (plan (.mk 25 0 t [d,x]))=1+mass (plan d)+mass (plan x):=by
 rw[plan_desc,mass_addN];simp only[massN];omega
theorem ulong_mass (n:Nat):mass (plan (.mk 6 n ⟨#[]⟩ []))≤33:=by
 have:=mass_core (k:=6) (n:=n) (t:=⟨#[]⟩) (ks:=[]) (by omega) (by omega);simpa [planL,massL,sz0] using this
theorem da_len (b:List Nat):(lay (plan (daV b))).length≤67+b.length:=by
 refine Nat.le_trans (lay_mass _) ?_;unfold daV;rw[mass_desc];have h1:=ulong_mass 117;have h2:=mass_core (k:=19) (n:=0) (t:=sb b) (ks:=[]) (by omega) (by omega);simp only[planL,massL,sb_size] at h2;omega
theorem xsame_yes (p ttl n:Nat)(id:ByteArray)(A:Option Addr)(l c:Nat)(A':Option Addr)(c':Nat)(b:List Nat)(w:World)(hr:Rd .u8 256 w w.heap.size A l b)(hr':Rd .u8 256 w w.heap.size A' l b) :
  Calls Tryz.prog 16 #[mV p ttl n id A l c,mV p ttl n id A' l c'] w (Val.GivesB true w):=by
 have hb0:Below w.heap.size w ((w.alloc (.cells #[.int .u8 (p:Int),.int .u32 (ttl:Int),.int .u32 (n:Int),.string id,.slice A l c] 25)).alloc (.cells #[.int .u8 (p:Int),.int .u32 (ttl:Int),.int .u32 (n:Int),.string id,.slice A' l c'] 25)):=two_boxes w _ _;have HE:=Lib.hid (fun wx (h:Below w.heap.size w wx)=>eqbytes_same w.heap.size w.heap.size A A' l c c' b wx (hr.below h) (hr'.below h));have HB:=Lib.hid hb0;have e1:((p:Int)==(p:Int))=true:=by simp
 have e2:((ttl:Int)==(ttl:Int))=true:=by simp
 have e3:((n:Int)==(n:Int))=true:=by simp
 have e4:(id.toList==id.toList)=true:=by simp
 clear hb0 hr hr';unfold mV;go_enter Tryz.func16,Tryz.ntmps16;go_wp2_with (go_at_call 11;(with_reducible refine(HE.out _ HB.out).mono ?_);rintro e w1 ⟨rfl,rfl⟩);go_ret;exact⟨rfl,HB.out⟩
def GivesBs (bs:List Nat)(w:World)(e:Ending)(w':World):Prop:=∃ A m c,e=.returned (.slice A m c)∧Utf.Own .u8 256 5 w' w.heap.size A m c bs∧Below w.heap.size w w'
theorem ulong117 (w:World):Calls Tryz.prog 20 #[.int .u8 6,.int .u64 117] w fun e w'=>e=.returned (.agg #[.int .u8 6,.int .u64 117,.string ⟨#[]⟩,.slice none 0 0])∧Below w.heap.size w w':=Val.number_any 6 117 w
theorem enc_da (b:List Nat)(hb:b.length≤65536)(A:Option Addr)(l c:Nat)(w:World)(hK:Kd w [.mk 6 117 ⟨#[]⟩ [],.mk 19 0 (sb b) []] A l c)(hTab:Tab w):Calls Tryz.prog 22 #[.agg #[.int .u8 25,.int .u64 0,.string ⟨#[]⟩,.slice A l c]] w (Enc.GivesV (daV b) w):=
 encv_yes 25 0 ⟨#[]⟩ [.mk 6 117 ⟨#[]⟩ [],.mk 19 0 (sb b) []] A l c w (da_ok b) (by simp only[bulk,bulkL,sz0,sb_size];omega) (by omega) (by omega) hK hTab
set_option maxHeartbeats 1000000 in
theorem data_any (A:Option Addr)(l c:Nat)(b:List Nat)(w:World)(hr:Rd .u8 256 w w.heap.size A l b)(hl:l≤65536)(hTab:Tab w):Calls Tryz.prog 24 #[.slice A l c] w (GivesBs (lay (plan (daV b))) w):=by
 have HS:=Lib.hid (fun wx (h:Below w.heap.size w wx)=>run_str c (hr.call h));have hlen:=hr.len;have HL:Hid (b.length≤65536):=Lib.hid (by omega);have HT:=Lib.hid hTab;have HZ:Hid ((sb b).size≤536870912):=Lib.hid (by rw[sb_size];omega);have hB0:Below w.heap.size w w.drew:=(Below.refl _ _).drew;clear hr hlen hTab;go_enter Tryz.func24,Tryz.ntmps24;go_upto_region 1 with fail
 go_region_held3 (fun wx=>(convert 23 9 (.slice A l c)).run Tryz.prog wx=.ok (.string (sb b)) wx∧Below w.heap.size w wx) (with_reducible first | assumption | exact⟨HS.out _ hB0,hB0⟩ | exact⟨HS.out _ hc1,hc1⟩ | exact⟨HS.out _ hc2,hc2⟩ | exact⟨HS.out _ hc3,hc3⟩ | exact⟨HS.out _ hc4,hc4⟩ | fail)
  (first
  | (go_at_call 20;(with_reducible refine(ulong117 _).mono ?_);rintro e w1 ⟨rfl,hb1⟩;have hc1:=below_next hB0 hb1)
  | (go_at_call 19;(with_reducible refine(bin_new (sb b) _).mono ?_);rintro e w2 ⟨rfl,hb2⟩;have hc2:=below_next hc1 hb2)
  | (go_at_call 46;(with_reducible refine(desc_da (sb b) _ HZ.out).mono ?_);rintro e w3 ⟨A3,l3,c3,rfl,hN3,hb3⟩;have hc3:=below_next hc2 hb3)
  | (go_at_call 22;(with_reducible refine(enc_da b HL.out A3 l3 c3 _ (Nw.kd hN3) (HT.out.call hc3)).mono ?_);rintro e w4 ⟨A4,m4,c4,rfl,hO4,hb4⟩;have hc4:=below_next hc3 hb4)
  | fail)
 all_goals
  go_wp2_with fail;go_ret;exact⟨_,_,_,rfl,hO4.mono hc3.size,hc4⟩
def mw:M:=⟨9,0,0,⟨#[109]⟩,[104,105]⟩
theorem text_m:textB 20 ⟨#[109]⟩=true:=by
 have h:utfB ⟨#[109]⟩=true:=utfB_yes ⟨[109],(fun x hx=>by simp at hx;subst hx;simp[isC]),rfl⟩;rw[text20];exact h
theorem may_mw:mayM mw=true:=by
 unfold mayM mw;simp only[text_m];rfl
theorem lay_mw:layL (secM mw)=[0,83,112,192,4,2,64,80,9,0,83,115,192,4,1,161,1,109,0,83,117,160,2,104,105]:=by decide +kernel
theorem put_mw:putM mw=some [0,83,112,192,4,2,64,80,9,0,83,115,192,4,1,161,1,109,0,83,117,160,2,104,105]:=by
 unfold putM;rw[if_pos may_mw,lay_mw]
theorem get_mw:getM [0,83,112,192,4,2,64,80,9,0,83,115,192,4,1,161,1,109,0,83,117,160,2,104,105]=some mw:=by
 have:=get_put may_mw (by decide) (by decide) (by decide)
 rwa [lay_mw] at this
theorem get_nil:getM []=none:=rfl
theorem wput (A:Option Addr)(w:World)(hr:Rd .u8 256 w w.heap.size A 2 [104,105])(hTab:Tab w):Calls Tryz.prog 9 #[.agg #[.int .u8 9,.int .u32 0,.int .u32 0,.string ⟨#[109]⟩,.slice A 2 2]] w (GivesPut (some [0,83,112,192,4,2,64,80,9,0,83,115,192,4,1,161,1,109,0,83,117,160,2,104,105]) w):=
 put_mw▸mput_any 9 0 0 ⟨#[109]⟩ A 2 2 [104,105] w (by omega) (by omega) (by omega) (by decide) (by omega) hr hTab
theorem wget (A:Option Addr)(c:Nat)(w:World)(hc:25≤c)(hr:Rd .u8 256 w w.heap.size A 25 [0,83,112,192,4,2,64,80,9,0,83,115,192,4,1,161,1,109,0,83,117,160,2,104,105])(hTab:Tab w):Calls Tryz.prog 14 #[.slice A 25 c] w (fun e w'=>∃ A2 l2 c2,e=.returned (.tuple #[.agg #[.int .u8 9,.int .u32 0,.int .u32 0,.string ⟨#[109]⟩,.slice A2 l2 c2],.int .i64 0])∧Utf.Own .u8 256 5 w' w.heap.size A2 l2 c2 [104,105]∧Below w.heap.size w w'):=by
 have:=mget_any A 25 c _ w hr hc (by omega) hTab;rw[get_mw] at this;exact this
theorem wnil (w:World)(hTab:Tab w):Calls Tryz.prog 14 #[.slice none 0 0] w (GivesGet none w):=by
 have:=mget_any none 0 0 [] w (Rd.zero _ _ _ _ _) (Nat.le_refl _) (by omega) hTab
 rwa [get_nil] at this
theorem wsame (A:Option Addr)(l c:Nat)(A':Option Addr)(l' c':Nat)(w:World)(hl:l=2)(hl':l'=2)(hr:Rd .u8 256 w w.heap.size A l [104,105])(hr':Rd .u8 256 w w.heap.size A' l' [104,105]) :
  Calls Tryz.prog 16 #[.agg #[.int .u8 9,.int .u32 0,.int .u32 0,.string ⟨#[109]⟩,.slice A l c],.agg #[.int .u8 9,.int .u32 0,.int .u32 0,.string ⟨#[109]⟩,.slice A' l' c']] w (Val.GivesB true w):=by
 subst hl hl';exact xsame_yes 9 0 0 ⟨#[109]⟩ A 2 c A' c' [104,105] w hr hr'
set_option maxHeartbeats 1000000 in
theorem works10_any (w:World)(hTab:Tab w):Calls Tryz.prog 7 #[] w (Val.GivesB true w):=by
 have hcv:(convert 23 23 (.slice (some ⟨w.heap.size,0,none⟩) 2 2)).run Tryz.prog (w.alloc (.cells #[.int .u8 104,.int .u8 105] 5))=.ok (.slice (some ⟨w.heap.size,0,none⟩) 2 2) (w.alloc (.cells #[.int .u8 104,.int .u8 105] 5 (2,3))):=Lib.run_convert_bytes_const w 23 5 #[.int .u8 104,.int .u8 105] 2 2 Tryz.underlying23 Tryz.underlying5;have hc0:∀ j,(w.alloc (.cells #[.int .u8 104,.int .u8 105] 5 (2,3))).cell? ⟨w.heap.size,j,none⟩=#[Value.int .u8 104,.int .u8 105][j]?:=fun j=>World.cell?_alloc_mark w _ _ _ j;have hbz:Below w.heap.size w (w.alloc (.cells #[.int .u8 104,.int .u8 105] 5 (2,3))):=(Below.refl _ _).alloc (Nat.le_refl _) _;have hsz:(w.alloc (.cells #[.int .u8 104,.int .u8 105] 5 (2,3))).heap.size=w.heap.size+1:=World.size_alloc _ _;obtain⟨W0,hW0⟩:∃ W0,w.alloc (.cells #[.int .u8 104,.int .u8 105] 5 (2,3))=W0:=⟨_,rfl⟩;rw[hW0] at hcv hc0 hbz hsz;have hr0:Rd .u8 256 W0 (w.heap.size+1) (some ⟨w.heap.size,0,none⟩) 2 [104,105]:=by
  refine⟨rfl,by decide,fun _=>⟨w.heap.size,0,rfl,by omega,fun k hk=>?_⟩⟩;rw[Nat.zero_add,hc0];have hk:k < 2:=hk;have:k=0∨k=1:=by omega
  rcases this with rfl | rfl<;>rfl
 have hb1:Below W0.heap.size W0 (W0.alloc (.cells #[.int .u8 9,.int .u32 0,.int .u32 0,.string ⟨#[109]⟩,.slice (some ⟨w.heap.size,0,none⟩) 2 2] 25)):=(Below.refl _ _).alloc (Nat.le_refl _) _;have hb0:=below_next hbz hb1;have hx:BxM (W0.alloc (.cells #[.int .u8 9,.int .u32 0,.int .u32 0,.string ⟨#[109]⟩,.slice (some ⟨w.heap.size,0,none⟩) 2 2] 25)) (w.heap.size+1) (.int .u8 9) (.int .u32 0) (.int .u32 0) (.string ⟨#[109]⟩) (.slice (some ⟨w.heap.size,0,none⟩) 2 2):=by
  have:=BxM.new W0 (.int .u8 9) (.int .u32 0) (.int .u32 0) (.string ⟨#[109]⟩) (.slice (some ⟨w.heap.size,0,none⟩) 2 2)
  rwa [hsz] at this
 have hr1:=(hr0.mono (show w.heap.size+1≤W0.heap.size by omega)).call hb1;have HB:=Lib.hid hb0;have HX:=Lib.hid hx;have HR:=Lib.hid hr1;have HT:=Lib.hid (hTab.call hb0);clear hb0 hb1 hx hr0 hr1 hTab hc0 hbz hW0;go_enter Tryz.func7,Tryz.ntmps7;go_wp2_with fail
 (with_reducible refine(wput _ _ HR.out HT.out).mono ?_)
 rintro e w1 ⟨A1,m1,c1,rfl,hO1,hb1⟩;obtain rfl:m1=25:=hO1.len.symm;have HT1:=Lib.hid (HT.out.call hb1);have HX1:=Lib.hid (HX.out.call hb1);have HR1:=Lib.hid (HR.out.call hb1);have HB1:=Lib.hid (below_next HB.out hb1);have hc1:=hO1.cap.1;have HO1:=Lib.hid hO1;clear hb1 hO1 HB HX HR HT;go_wp2_with fail
 (with_reducible refine(wget A1 c1 _ hc1 HO1.out.rd HT1.out).mono ?_)
 rintro e w2 ⟨A2,l2,c2,rfl,hO2,hb2⟩;have hb2':=hb2.alloc hb2.size (.cells #[.int .u8 9,.int .u32 0,.int .u32 0,.string ⟨#[109]⟩,.slice A2 l2 c2] 25);have HT2:=Lib.hid (HT1.out.call hb2');have HX2:=Lib.hid (HX1.out.call hb2');have HR2:=Lib.hid (HR1.out.call hb2');have HB2:=Lib.hid (below_next HB1.out hb2');have HO12:=Lib.hid (HO1.out.rd.call hb2');have HO2:=Lib.hid (hO2.rd.call ((Below.refl _ _).alloc (Nat.le_refl _) (.cells #[.int .u8 9,.int .u32 0,.int .u32 0,.string ⟨#[109]⟩,.slice A2 l2 c2] 25)));have HL2:Hid (l2=2):=Lib.hid hO2.len.symm;have HX4:=Lib.hid (BxM.new w2 (.int .u8 9) (.int .u32 0) (.int .u32 0) (.string ⟨#[109]⟩) (.slice A2 l2 c2));clear hb2 hb2' hO2 HX1 HR1 HB1 HO1 HT1;go_wp2_with fail
 (with_reducible refine(wnil _ HT2.out).mono ?_)
 rintro e w3 ⟨rfl,hb3⟩;have hb3':=hb3.alloc hb3.size (.cells #[.int .u8 0,.int .u32 0,.int .u32 0,.string ⟨#[]⟩,.slice none 0 0] 25);have HX3:=Lib.hid (HX2.out.call hb3');have HX43:=Lib.hid (HX4.out.call hb3');have HR3:=Lib.hid (HR2.out.call hb3');have HO3:=Lib.hid (HO2.out.call hb3');have hr1:=HO12.out.call hb3';have HB3:=Lib.hid (below_next HB2.out hb3');obtain⟨b9,o9,cc,hA9,hb9,hx9,_,hc9⟩:=hr1.at_ (k:=2) (by omega);subst hA9;obtain rfl:112=cc:=by simpa using hx9
 have hc9':(w3.alloc (.cells #[.int .u8 0,.int .u32 0,.int .u32 0,.string ⟨#[]⟩,.slice none 0 0] 25)).cell? ⟨b9,o9+2,none⟩=some (.int .u8 112):=hc9;clear hc9;obtain⟨x0,x1,x2,x3,x4,xf⟩:=HX3.out.all;obtain⟨y0,y1,y2,y3,y4,yf⟩:=HX43.out.all;clear hb3 hb3' HX2 HX4 HR2 HO2 HO12 HB2 HT2 hx9 hr1;go_wp2_with fail
 (with_reducible refine(wsame _ _ _ _ _ _ _ rfl HL2.out HR3.out HO3.out).mono ?_)
 rintro e w4 ⟨rfl,hb4⟩;go_wp2;go_ret;exact⟨rfl,below_next HB3.out hb4⟩
end Go.Proofs.YtcilmmdmkpnppaaGreatDoor.Me
end
section
namespace Go.Proofs.YtcilmmdmkpnppaaGreatDoor.Me
set_option maxRecDepth 100000
open Go.RowKit Utf Val Fl V
open Enc (lay plan)
theorem same_msg (p ttl n:Nat)(id:ByteArray)(A:Option Addr)(l c:Nat)(A':Option Addr)(l' c':Nat)(b:List Nat)(w:World)(hr:Rd .u8 256 w w.heap.size A l b)(hr':Rd .u8 256 w w.heap.size A' l' b) :
  Calls Tryz.prog 16 #[.agg #[.int .u8 (p:Int),.int .u32 (ttl:Int),.int .u32 (n:Int),.string id,.slice A l c],.agg #[.int .u8 (p:Int),.int .u32 (ttl:Int),.int .u32 (n:Int),.string id,.slice A' l' c']] w (GivesB true w):=by
 obtain rfl:l=l':=hr.len.symm.trans hr'.len;exact xsame_yes p ttl n id A l c A' c' b w hr hr'
def GivesM (p ttl n:Nat)(id:ByteArray)(b:List Nat)(w:World)(e:Ending)(w':World):Prop:=∃ A l c,e=.returned (.tuple #[.agg #[.int .u8 (p:Int),.int .u32 (ttl:Int),.int .u32 (n:Int),.string id,.slice A l c],.int .i64 0])∧Utf.Own .u8 256 5 w' w.heap.size A l c b∧Below w.heap.size w w'
theorem get_no {bs:List Nat}(A:Option Addr)(n c base:Nat)(w:World)(hO:Utf.Own .u8 256 5 w base A n c bs)(hn:n≤262143)(hTab:Tab w)(h:getM bs=none):Calls Tryz.prog 14 #[.slice A n c] w (GivesGet none w):=by
 have:=mget_any A n c bs w hO.rd hO.cap.1 hn hTab
 rwa [h] at this
end Go.Proofs.YtcilmmdmkpnppaaGreatDoor.Me
end
