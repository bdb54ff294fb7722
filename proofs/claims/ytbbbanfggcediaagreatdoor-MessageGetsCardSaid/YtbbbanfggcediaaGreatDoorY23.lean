/- Contracts, each with its premises. -/
import Derived.Test.YtbbbanfggcediaaGreatDoorY22
import Derived.Lib.SlBytesConst
import Derived.Lib.SmallJoins
set_option maxRecDepth 100000
set_option maxHeartbeats 8000000
namespace Go.Proofs.YtbbbanfggcediaaGreatDoor
open _root_.Go.Proofs.Tryz
open Nat renaming le_trans→ycP
open List renaming length_cons→ycN,length_drop→ycO
namespace Me
open Go.RowKit Utf Val Fl Oc Dec V
open Enc hiding za3
def zfL (o:Option M)(w:World)(e:Ending)(w':World):Prop:=
 match o with
 | none=>e=.returned (.tuple #[.agg #[.int .u8 0,.int .u32 0,.int .u32 0,.string ⟨#[]⟩,.slice none 0 0],.int .i64 6])∧Below w.heap.size w w'
 | some m=>∃ A l c,e=.returned (.tuple #[mV m.p m.ttl m.n m.id A l c,.int .i64 0])∧Utf.Own .u8 256 5 w' w.heap.size A l c m.body∧Below w.heap.size w w'
theorem zox {b:Lz}(hb:b.length≤262143):bulk (decD b).1≤268435456:=by
 rcases zeu b with ⟨v,it,r,hv,Hq,hd⟩ | ⟨_,hd⟩ | ⟨_,hd⟩
 ·rw[hd];obtain⟨⟨h1,h2⟩,_⟩:=zjP hv;have Gx:items v≤1024:=by
   unfold okB at Hq;simp only[Bool.and_eq_true,decide_eq_true_eq] at Hq;exact Hq.1.1
  have:items v * (b.length+1)≤1024 * 262144:=Nat.mul_le_mul Gx (by omega)
  show bulk v≤_
  omega
 ·rw[hd];simp[zeroV,bulk,zai,ByteArray.size]
 ·rw[hd];simp[zeroV,bulk,zai,ByteArray.size]
theorem zld {b:Lz}(h:(decD b).1.kind=25):∃ d x,(decD b).1.kids=[d,x]:=by
 rcases zeu b with ⟨v,it,r,hv,Hq,hd⟩ | ⟨_,hd⟩ | ⟨_,hd⟩
 ·rw[hd] at h ⊢;obtain⟨k,n,t,ks⟩:=v;have hk:k=25:=h;subst hk;obtain⟨d,x,rfl,_⟩:=zaS (zcs Hq);exact⟨d,x,rfl⟩
 ·rw[hd] at h;cases h
 ·rw[hd] at h;cases h
structure GL (w W wr:World) (gS n:Nat) (b0:Lz) (A':Oz) (n' c':Nat) (b':Lz) (Am:Oz) (nm cm k:Nat) (m:M) (bd:Bool):Prop where
 rd:Rd .u8 256 wr w.heap.size A' n' b'
 cap:n'≤c'
 le:n'≤n
 may:May wr gS Am nm cm k
 msg:MG wr W.heap.size (w.heap.size+1) m
 off:Off (fun i=>i=w.heap.size+1∨W.heap.size≤i) W wr
 len:m.body.length≤2048
 id0:k≤3→m.id=⟨#[]⟩
 eq:getM b0=getQ b'.length k m bd b'
section
variable {w W wr w':World} {gS n:Nat} {b0:Lz} {A':Oz} {n' c':Nat} {b':Lz} {Am:Oz} {nm cm k:Nat} {m:M} {bd:Bool}
theorem GL.call (h:GL w W wr gS n b0 A' n' c' b' Am nm cm k m bd)(hW:w.heap.size≤W.heap.size)(hb:Below wr.heap.size wr w'):GL w W w' gS n b0 A' n' c' b' Am nm cm k m bd:=
 ⟨h.rd.below (hb.mono (ycP hW h.off.size)),h.cap,h.le,h.may.call hb,h.msg.call hb,h.off.next hb,h.len,h.id0,h.eq⟩
end
theorem zh1 {b:Lz}{k:Nat}{m:M}{bd:Bool}(hb:b≠[])(h:(decD b).2.2≠0∨zc4 k m bd (decD b).1=none):getQ b.length k m bd b=none:=by
 cases b with
 | nil=>exact absurd rfl hb
 | cons x b=>
  show (if (decD (x::b)).2.2=0 then (match zc4 k m bd (decD (x::b)).1 with
   | none=>none
   | some (k',m',bd')=>getQ b.length k' m' bd' ((x::b).drop (decD (x::b)).2.1)) else none)=none
  by_cases hd:(decD (x::b)).2.2=0
  ·rw[if_pos hd,h.resolve_left fun e=>e hd]
  ·rw[if_neg hd]
theorem zjl:∀ (N N' k:Nat) (m:M) (bd:Bool) (b:Lz),b.length≤N→b.length≤N'→getQ N k m bd b=getQ N' k m bd b
 | N,N',k,m,bd,[],_,_=>by cases N<;>cases N'<;>rfl
 | 0,_,_,_,_,_::_,h,_=>by simp at h
 | _+1,0,_,_,_,_::_,_,h=>by simp at h
 | N+1,N'+1,k,m,bd,x::b,h,h'=>by
  show (if (decD (x::b)).2.2=0 then (match zc4 k m bd (decD (x::b)).1 with
   | none=>none
   | some (k',m',bd')=>getQ N k' m' bd' ((x::b).drop (decD (x::b)).2.1)) else none)=(if (decD (x::b)).2.2=0 then (match zc4 k m bd (decD (x::b)).1 with
   | none=>none
   | some (k',m',bd')=>getQ N' k' m' bd' ((x::b).drop (decD (x::b)).2.1)) else none)
  by_cases hd:(decD (x::b)).2.2=0
  ·rw[if_pos hd,if_pos hd];have:=zfa hd;cases zc4 k m bd (decD (x::b)).1 with
   | none=>rfl
   | some s=>exact zjl N N' _ _ _ _ (by simp only[ycO,ycN] at *;omega) (by simp only[ycO,ycN] at *;omega)
  ·rw[if_neg hd,if_neg hd]
theorem zta {b:Lz}{k k':Nat}{m m':M}{bd bd':Bool}(hb:b≠[])(hd:(decD b).2.2=0)(h:zc4 k m bd (decD b).1=some (k',m',bd')):getQ b.length k m bd b=getQ (b.drop (decD b).2.1).length k' m' bd' (b.drop (decD b).2.1):=by
 cases b with
 | nil=>exact absurd rfl hb
 | cons x b=>
  show (if (decD (x::b)).2.2=0 then (match zc4 k m bd (decD (x::b)).1 with
   | none=>none
   | some (k',m',bd')=>getQ b.length k' m' bd' ((x::b).drop (decD (x::b)).2.1)) else none)=_
  rw[if_pos hd,h];have:=zfa hd;exact zjl _ _ _ _ _ _ (by simp only[ycO,ycN] at *;omega) zab
theorem zoy (b:Lz):getM b=getQ b.length 0 m0 false b:=by
 rw[zow b.length 0 m0 false s0 b rfl rfl (.inl ⟨rfl,rfl⟩) (by simp[m0])];rfl
theorem zqU {q:Nat}{v:V}{m m':M}(h:zfd q v m=some m')(hq:q≠3):m'.id=m.id:=by
 unfold zfd at h;by_cases h0:q=0
 ·rw[if_pos h0] at h;unfold zcQ at h
  split at h
  ·cases h
  ·split at h
   ·cases h
   ·injection h with h;subst h;rfl
 ·rw[if_neg h0,if_neg hq] at h;by_cases h5:q=5
  ·rw[if_pos h5] at h
   split at h
   ·unfold zgs at h
    split at h
    ·injection h with h;subst h;rfl
    ·cases h
   ·cases h
  ·rw[if_neg h5] at h;injection h with h;subst h;rfl
theorem zut (q vk vn:Nat)(vt:ByteArray)(vks:List V)(vA:Oz)(vl vc g base:Nat)(m:M)(w:World)(hq:q < 7)(hN:zai vks≤268435456)(ht:vt.size≤268435456)(hn:vn < 18446744073709551616)(gQ:∃ d x,vks=[d,x])(hK:Kd w vks vA vl vc)(Ho:Tab w)(hm:m.body.length≤2048)(hid:q=3→m.id=⟨#[]⟩)(hG:MG w base g m) :
  Calls prog (sfn q) #[.agg #[.int .u8 (vk:Int),.int .u64 (vn:Int),.string vt,.slice vA vl vc],.pointer (some ⟨g,0,none⟩)] w (zb5 base g (zfd q (.mk vk vn vt vks) m) w):=by
 have h:q=0∨q=1∨q=2∨q=3∨q=4∨q=5∨q=6:=by omega
 rcases h with rfl | rfl | rfl | rfl | rfl | rfl | rfl
 ·exact zs4 vk vn vt vks vA vl vc g base m w hN ht hn hK Ho hG
 ·exact zeR vk vn vt vA vl vc g base m w hG
 ·exact zeR vk vn vt vA vl vc g base m w hG
 ·exact zs7 vk vn vt vks vA vl vc g base m w hN ht hn hK Ho (hid rfl) hG
 ·exact zeR vk vn vt vA vl vc g base m w hG
 ·obtain⟨d,x,gQ⟩:=gQ;have hx:x.text.size≤268435456:=by
   obtain⟨xk,xn,xt,xs⟩:=x;rw[gQ] at hN;simp only[zai,bulk] at hN
   show xt.size≤_
   omega
  have:=zs5 vk vn vt vks d x vA vl vc g base m w gQ hx hK hm hG;have he:zfd 5 (.mk vk vn vt vks) m=zgs x m:=by rw[gQ];rfl
  rw[he];exact this
 ·exact zeR vk vn vt vA vl vc g base m w hG
theorem zjm:prog.elem 38=49:=by kernel_rfl
theorem zqV:(prog.info? 49).map (·.size)=some 4:=by kernel_rfl
theorem zle (A:Oz)(n c k:Nat)(hk:k≤n)(kz:n≤c):∃ A1 c1,n - k≤c1 ∧
  (∀ (W:World) (i:Int),i=k→(Instr.slice 38 (.slice A n c) (some (.int .i64 i)) none none).run prog W=.ok (.slice A1 (n - k) c1) W)∧(∀ (W:World) (i:Int),i=k→(Instr.sliceAt 38 (.slice A n c) (some (.int .i64 i)) none none).run prog W=.ok (.slice A1 (n - k) c1) W) ∧
  (k < n→∀ b o,A=some ⟨b,o,none⟩→A1=some ⟨b,o+k * 4,none⟩):=by
 have V8:prog.underlying 38=some (.slice (prog.elem 38)):=by rw[zjm];exact underlying38
 have Hu:∀ W:World,(sizeOf 49).run prog W=.ok 4 W:=fun W=>by
  have hi:=zqV;cases hq:prog.info? 49 with
  | none=>rw[hq] at hi;cases hi
  | some x=>rw[hq] at hi;injection hi with hi;simp[sizeOf,typeInfo,hq,hi]
 have h1:∀ (W:World) (i:Int),i=k→(Instr.slice 38 (.slice A n c) (some (.int .i64 i)) none none).run prog W=.ok (.slice (if c=k then A else A.map (·.add (k * 4))) (n - k) (c - k)) W:=fun W i hi=>by
  subst hi;rw[run_slice_l (P:=prog) (w:=W) 38 A n c V8 .i64 (k:Int) (by omega) (by omega),zjm,Hu];simp only[Result.andThen,sliced,Int.toNat_natCast]
 refine⟨_,_,?_,h1,fun W i hi=>?_,fun hl b o e=>?_⟩
 ·omega
 ·rw[run_sliceAt_slice (P:=prog) (w:=W) 38 _ _ _ _ V8];exact h1 W i hi
 ·subst e;rw[if_neg (by omega)];simp only[Option.map_some];unfold Addr.add
  split
  ·rename_i h0;rw[h0];rfl
  ·rfl
theorem May.cut {w:World}{g:Nat}{A A1:Oz}{n c c1 k j:Nat}(h:May w g A n c k)(hj:j≤n)(hc:n - j≤c1)(h1:j < n→∀ b o,A=some ⟨b,o,none⟩→A1=some ⟨b,o+j * 4,none⟩):May w g A1 (n - j) c1 (k+j):=by
 refine⟨h.sv,by have:=h.sum;omega,hc,fun h0=>?_⟩;rw[h1 (by omega) _ _ (h.at_ (by omega)),Nat.add_mul]
theorem zuu {k n fn er:Nat}{t:ByteArray}{ks:List V}{w w':World}{e:Ending}(h:zf9 (.mk k n t ks,fn,er) w e w'):∃ A l c,e=.returned (.tuple #[.agg #[.int .u8 (k:Int),.int .u64 (n:Int),.string t,.slice A l c],.int .i64 (fn:Int),.int .i64 (er:Int)])∧k < 256∧n < 18446744073709551616∧Nw w.heap.size w' ks A l c∧Below w.heap.size w w':=h
theorem zaE {B:Nat}{w w1:World}(h:Below B w w1){g:Nat}(hg:B≤g)(a b c d e:Value):Below B w (((((w1.setCell ⟨g,0,none⟩ a).setCell ⟨g,1,none⟩ b).setCell ⟨g,2,none⟩ c).setCell ⟨g,3,none⟩ d).setCell ⟨g,4,none⟩ e):=
 ((((h.setCell (p:=⟨g,0,none⟩) hg _).setCell (p:=⟨g,1,none⟩) hg _).setCell (p:=⟨g,2,none⟩) hg _).setCell (p:=⟨g,3,none⟩) hg _).setCell (p:=⟨g,4,none⟩) hg _
theorem zlf (w1:World){g:Nat}(a b c d e:Value):Off (fun i=>i=g) w1 (((((w1.setCell ⟨g,0,none⟩ a).setCell ⟨g,1,none⟩ b).setCell ⟨g,2,none⟩ c).setCell ⟨g,3,none⟩ d).setCell ⟨g,4,none⟩ e):=
 ((((Off.set (X:=fun i=>i=g) w1 0 a rfl).trans (Off.set _ 1 b rfl)).trans (Off.set _ 2 c rfl)).trans (Off.set _ 3 d rfl)).trans (Off.set _ 4 e rfl)
theorem zbr {w W wr:World}(h:Off (fun i=>i=w.heap.size+1∨W.heap.size≤i) W wr)(hW:Below w.heap.size w W)(hs:w.heap.size+1+1≤W.heap.size):Below w.heap.size w wr:=
 hW.trans (h.below (by omega) fun i hi=>by omega)
theorem za7 {w W wr:World}{x0 x1 x2 x3 x4:Value}(h:Off (fun i=>i=w.heap.size+1∨W.heap.size≤i) W wr)(hx:BxM W w.heap.size x0 x1 x2 x3 x4)(hs:w.heap.size+1+1≤W.heap.size):BxM wr w.heap.size x0 x1 x2 x3 x4:=hx.off h (by omega)
theorem zoz {w W w3 w5:World}{gS n:Nat}{b0:Lz}{A' A2:Oz}{n' c' c2 fn:Nat}{b':Lz}{Am Am2:Oz}{nm cm cm2 k k2 nm2:Nat}{m m':M}{bd bd2:Bool}{v:V}
  (h:GL w W w3 gS n b0 A' n' c' b' Am nm cm k m bd) (hs:w.heap.size+1+1≤W.heap.size) (ho:Off (fun i=>i=w.heap.size+1∨W.heap.size≤i) w3 w5) (hm:MG w5 W.heap.size (w.heap.size+1) m') (JQ:b'≠[]) (G9:decD b'=(v,fn,0)) (gr:zc4 k m bd v=some (k2,m',bd2))
  (qV:May w5 gS Am2 nm2 cm2 k2) (gY:n' - fn≤c2) (hcut:∀ w B l,Rd .u8 256 w B A' n' l→Rd .u8 256 w B A2 (n' - fn) (l.drop fn)) (hlen:m'.body.length≤2048) (hid:k2≤3→m'.id=⟨#[]⟩) :
  GL w W w5 gS n b0 A2 (n' - fn) c2 (b'.drop fn) Am2 nm2 cm2 k2 m' bd2:=by
 refine⟨hcut _ _ _ (h.rd.below (ho.below (by have:=h.off.size;omega) fun i hi=>by omega)),gY,by have:=h.le;omega,qV,hm,h.off.trans ho,hlen,hid,?_⟩;rw[h.eq,zta JQ (by rw[G9]) (by rw[G9];exact gr),G9]
theorem zjn {A A2:Oz}{n c c2 fn:Nat}(h0:n≠0)(h1:1≤fn):lenOf (.slice A2 (n - fn) c2) < lenOf (.slice A n c):=by
 show n - fn < n
 omega
def Enters (f:Nat):Prop:=∀ (args:Array Value) (w:World),(callFunc f args).run prog w=.ok (.enter f args) w
theorem zl7 {q:Nat}(hq:q < 7):Enters (sfn q):=by
 have h:q=0∨q=1∨q=2∨q=3∨q=4∨q=5∨q=6:=by omega
 rcases h with rfl | rfl | rfl | rfl | rfl | rfl | rfl
 ·exact call26
 ·exact call27
 ·exact call27
 ·exact call28
 ·exact call27
 ·exact call29
 ·exact call27
theorem zh2 (A:Oz)(n c:Nat)(b:Lz)(w:World)(hr:Rd .u8 256 w w.heap.size A n b)(kz:n≤c)(hn:n≤262143)(Ho:Tab w):Calls prog 6 #[.slice A n c] w (zfL (getM b) w):=by
 have yv:=Ho.pos;have GK:Below w.heap.size w ((w.alloc (.cells #[.int .u8 0,.int .u32 0,.int .u32 0,.string ⟨#[]⟩,.slice none 0 0] 27)).alloc (.cells #[.int .u8 4,.int .u32 0,.int .u32 0,.string ⟨#[]⟩,.slice none 0 0] 27)):=zaw w _ _;have j1:BxM ((w.alloc (.cells #[.int .u8 0,.int .u32 0,.int .u32 0,.string ⟨#[]⟩,.slice none 0 0] 27)).alloc (.cells #[.int .u8 4,.int .u32 0,.int .u32 0,.string ⟨#[]⟩,.slice none 0 0] 27)) w.heap.size (.int .u8 0) (.int .u32 0) (.int .u32 0) (.string ⟨#[]⟩) (.slice none 0 0):=(BxM.new _ _ _ _ _ _).alloc _;have GJ:BxM ((w.alloc (.cells #[.int .u8 0,.int .u32 0,.int .u32 0,.string ⟨#[]⟩,.slice none 0 0] 27)).alloc (.cells #[.int .u8 4,.int .u32 0,.int .u32 0,.string ⟨#[]⟩,.slice none 0 0] 27)) (w.heap.size+1) (.int .u8 4) (.int .u32 0) (.int .u32 0) (.string ⟨#[]⟩) (.slice none 0 0):=by
  have:=BxM.new (w.alloc (.cells #[.int .u8 0,.int .u32 0,.int .u32 0,.string ⟨#[]⟩,.slice none 0 0] 27)) (.int .u8 4) (.int .u32 0) (.int .u32 0) (.string ⟨#[]⟩) (.slice none 0 0)
  rwa [World.size_alloc] at this
 have HB:=zaa GK;have gG:=zaa j1;have kR:=zaa GJ;have HT:=zaa Ho;have HR:=zaa hr;have HN:=zaa hn;have ug:=zaa kz;clear GK j1 GJ Ho hr hn kz;go_enter func6,ntmps6;go_wp2_with fail;go_step3;go_wp2_with fail
 (with_reducible refine(zqT _).mono ?_)
 rintro e W ⟨gS,rfl,Ge,yw,Jh⟩;have cy:=Jh.size;simp only[World.size_alloc] at Ge cy;have gC:=zaa (zad HB.out Jh);have Kl:=zaa (gG.out.call Jh);have HGS:=zaa (And.intro Ge yw.sv.1);have HL:Hid (GL w W W gS n b A n c b (some ⟨gS,0,none⟩) 7 7 0 m0 false):=zaa ⟨HR.out.below gC.out,ug.out,zab,yw,⟨by omega,zab,none,0,0,kR.out.call Jh,Utf.Own.nil _ _ _ _ _⟩,Off.refl _ _,by simp[m0],fun _=>rfl,zoy b⟩;have gK:=zaa cy;have Uc:=zaa yv;clear Ge yw Jh cy HB gG kR yv;go_wp2_with fail;go_step3;go_wp2_with fail;go_loopw [0,5,6] (fun s0 s5 s6 wr=>∃ (A':Oz) (n' c':Nat) (b':Lz) (Am:Oz) (nm cm k:Nat) (m:M) (bd:Bool),s0=.slice A' n' c'∧s5=.bool bd∧s6=.slice Am nm cm∧GL w W wr gS n b A' n' c' b' Am nm cm k m bd) (fun s0 _ _ _=>lenOf s0)
 case atStart=>exact⟨A,n,c,b,some ⟨gS,0,none⟩,7,7,0,m0,false,rfl,rfl,rfl,HL.out⟩
 case round=>
  obtain⟨A',n',c',b',Am,nm,cm,k,m,bd,rfl,rfl,rfl,hG⟩:=hrel;have HG:=zaa hG;by_cases h0:n'=0
  case pos=>
   subst h0;have jI:decide ((0:Int) < ((0:Nat):Int))=false:=by decide
   obtain⟨z0,z1,z2,z3,z4,zf⟩:=(za7 hG.off Kl.out gK.out).all;have KP:b'=[]:=List.eq_nil_of_length_eq_zero hG.rd.len;subst KP;have Yr:Hid (getM b=if bd=true then some m else none):=zaa (hG.eq.trans rfl);obtain⟨Gp,GP,Ag,ng,cg,Hz,Hf⟩:=hG.msg;obtain⟨y0,y1,y2,y3,y4,yf⟩:=Hz.all;have cz:=zaa Hf;have HLO:=zaa (zbr hG.off gC.out gK.out);clear hG HL Gp GP Hz Hf;cases bd with
   | false=>
    go_wp2;rw[Exit.noGoto_ret];refine bodyPost_ret (v:=.tuple #[.agg #[.int .u8 0,.int .u32 0,.int .u32 0,.string ⟨#[]⟩,.slice none 0 0],.int .i64 6]) (by simp[results,results6,go_sem,z0,z1,z2,z3,z4]) rfl ?_;rw[Yr.out];exact⟨rfl,zaE HLO.out zab _ _ _ _ _⟩
   | true=>
    go_wp2
    try rw[Exit.noGoto_ret]
    refine bodyPost_ret (v:=.tuple #[mV m.p m.ttl m.n m.id Ag ng cg,.int .i64 0]) (by simp[results,results6,go_sem,z0,z1,z2,z3,z4,mV]) rfl ?_;rw[Yr.out];exact⟨Ag,ng,cg,rfl,(zd6 cz.out (zlf _ _ _ _ _ _) fun i hi e=>by have:=gK.out;omega).mono gC.out.size,zaE HLO.out zab _ _ _ _ _⟩
  case neg=>
   have jI:decide ((0:Int) < (n':Int))=true:=decide_eq_true (by omega);have qX:b'≠[]:=fun e=>h0 (by rw[←hG.rd.len,e];rfl);have Ys:Hid (bulk (decD b').1≤268435456):=zaa (zox (by rw[hG.rd.len];have:=hG.le;have:=HN.out;omega));have cA:Tab wr:=(HT.out.below gC.out Uc.out).below (hG.off.below (B:=w.heap.size) (by have:=gK.out;omega) (fun i hi=>by have:=gK.out;omega)) Uc.out;have bA:=zaa cA;have HD:=zaa (zsf (hG.rd.mono (ycP (by have:=gK.out;omega) hG.off.size)) hG.cap (by have:=hG.le;have:=HN.out;omega) cA);have gU:=zaa qX;obtain⟨⟨⟨vk,vn,vt,vks⟩,fn,er⟩,G9⟩:∃ r,decD b'=r:=⟨_,rfl⟩;rw[G9] at HD Ys;have gN:=zaa G9;clear qX cA hG G9 HL;go_wp2_with fail
   (with_reducible refine HD.out.mono ?_)
   intro e w1 jE;obtain⟨vA,vl,vc,rfl,Kb,kC,j7,Ha⟩:=zuu jE;clear jE;have qb:Box (w1.alloc (.cells #[.int .u8 (vk:Int),.int .u64 (vn:Int),.string vt,.slice vA vl vc] 43)) w1.heap.size (.int .u8 (vk:Int)) (.int .u64 (vn:Int)) (.string vt) (.slice vA vl vc):=Box.new _ _ _ _ _;have He:Below wr.heap.size wr (w1.alloc (.cells #[.int .u8 (vk:Int),.int .u64 (vn:Int),.string vt,.slice vA vl vc] 43)):=Ha.alloc Ha.size _;have Qu:=zaa (HG.out.call (by have:=gK.out;omega) He);have jr:=zaa (j7.kd.alloc (.cells #[.int .u8 (vk:Int),.int .u64 (vn:Int),.string vt,.slice vA vl vc] 43));have Ud:=zaa (bA.out.call He);have vp:=zaa qb;have xE:=zaa kC;have KC:Hid (zai vks≤268435456∧vt.size≤268435456):=zaa (by have:=Ys.out;simp only[bulk] at this;omega);have bC:Hid (vk=25→∃ d x,vks=[d,x]):=zaa (fun h=>by have:=zld (b:=b') (by rw[gN.out];exact h);rw[gN.out] at this;exact this);have cB:=zaa (zs9 vk vn vt vks vA vl vc w1.heap.size gS Am nm cm k _ KC.out.1 jr.out bC.out qb Qu.out.may);clear Ha He j7 qb Kb kC HD bA HG;by_cases xF:er=0
   case neg=>
    have Qp:((er:Int)==0)=false:=by rw[zac];omega
    have xB:((er:Int) != 0)=true:=by rw[bne,Qp];rfl
    have Gd:Hid (getM b=none):=zaa (by rw[Qu.out.eq];exact zh1 gU.out (.inl (by rw[gN.out];exact xF)));clear xF;go_wp2_with fail
    (with_reducible refine cB.out.mono ?_)
    rintro e w3 ⟨cC,Hj⟩;have Gf:=zaa (Qu.out.off.next Hj);rcases cC with ⟨j,hj,_,_,rfl⟩ | ⟨_,rfl⟩
    ·clear hj Hj;obtain⟨z0,z1,z2,z3,z4,zf⟩:=(za7 Gf.out Kl.out gK.out).all;go_wp2;rw[Exit.noGoto_ret];refine bodyPost_ret (v:=.tuple #[.agg #[.int .u8 0,.int .u32 0,.int .u32 0,.string ⟨#[]⟩,.slice none 0 0],.int .i64 6]) (by simp[results,results6,go_sem,z0,z1,z2,z3,z4]) rfl ?_;rw[Gd.out];exact⟨rfl,zaE (zbr Gf.out gC.out gK.out) zab _ _ _ _ _⟩
    ·clear Hj;obtain⟨z0,z1,z2,z3,z4,zf⟩:=(za7 Gf.out Kl.out gK.out).all;go_wp2;rw[Exit.noGoto_ret];refine bodyPost_ret (v:=.tuple #[.agg #[.int .u8 0,.int .u32 0,.int .u32 0,.string ⟨#[]⟩,.slice none 0 0],.int .i64 6]) (by simp[results,results6,go_sem,z0,z1,z2,z3,z4]) rfl ?_;rw[Gd.out];exact⟨rfl,zaE (zbr Gf.out gC.out gK.out) zab _ _ _ _ _⟩
   case pos=>
    subst xF;have jC:Hid (decD b'=(.mk vk vn vt vks,fn,0)):=gN;have vr:=zfa (b:=b') (by rw[jC.out]);rw[jC.out,Qu.out.rd.len] at vr;obtain⟨gZ,Gk⟩:1≤fn∧fn≤n':=vr;simp only[Int.cast_ofNat_Int];go_wp2_with fail
    (with_reducible refine cB.out.mono ?_)
    rintro e w3 ⟨cC,Hj⟩;have qv:=Qu.out.call (by have:=gK.out;omega) Hj;rcases cC with ⟨j,hj,cD,GN,rfl⟩ | ⟨GN,rfl⟩
    ·have hsum:=qv.may.sum;have xG:k+j < 7:=by omega
     have cE:=zaa xG;obtain rfl:=qv.may.at_ (by omega);obtain⟨c0,c1,c2,c3⟩:=qv.may.sv.2 (k+j) xG;rw[show (k+j) * 4=k * 4+j * 4 by omega] at c0 c1 c2 c3;have Kz:=qv.may.sv.1;have KX:=qv.may.cap;have VW:vk=25:=by
      by_cases h:vk=25
      ·exact h
      ·have:=zop (code:=112+sidx (k+j)) (nm:=mname (sidx (k+j))) (kd:=skind (k+j)) (v:=.mk vk vn vt vks) h;exact absurd (cD.symm.trans this) (by simp)
     have cF:Hid (fnd (.mk vk vn vt vks) k (7 - k)=some (k+j)):=zaa (zh0 (by omega) cD GN);subst VW;have G8:Box w3 w1.heap.size (.int .u8 25) (.int .u64 (vn:Int)) (.string vt) (.slice vA vl vc):=vp.out.call Hj;obtain⟨v0,v1,v2,v3,vf⟩:=G8.all;have hvbl:=G8.lt;have VY:Hid (∀ (wx:World),Below w3.heap.size w3 wx→Calls prog (sfn (k+j)) #[.agg #[.int .u8 25,.int .u64 (vn:Int),.string vt,.slice vA vl vc],.pointer (some ⟨w.heap.size+1,0,none⟩)] wx (zb5 W.heap.size (w.heap.size+1) (zfd (k+j) (.mk 25 vn vt vks) m) wx)):=zaa (fun(wx:World) (hb:Below w3.heap.size w3 wx)=>zut (k+j) 25 vn vt vks vA vl vc (w.heap.size+1) W.heap.size m wx xG KC.out.1 KC.out.2 xE.out (bC.out rfl) ((jr.out.call Hj).call hb) ((Ud.out.call Hj).call hb) qv.len (fun h=>qv.id0 (by omega)) (qv.msg.call hb));have bc:∀ (args:Array Value) (w:World),(callFunc (sfn (k+j)) args).run prog w=.ok (.enter (sfn (k+j)) args) w:=zl7 xG;obtain⟨ff,hff⟩:∃ x,sfn (k+j)=x:=⟨_,rfl⟩;rw[hff] at c3 VY bc;obtain⟨cd,km⟩:∃ x,112+sidx (k+j)=x:=⟨_,rfl⟩;rw[km] at c0;have QO:=zaa km;have QP:=zaa qv;have V7:(j:Int) < (nm:Int):=by omega
     have hjI0:¬ (j:Int) < 0:=by omega
     have HJ:=zaa hj;clear cD GN hff km qv G8 Hj vp cB Qu jr Ud c1 c2;go_wp2_with fail;have UH:=QP.out.cap;go_still_tail 6,(by kernel_rfl);go_wp2_with fail
     (with_reducible refine(VY.out _ ((Below.refl _ _).drew)).mono ?_)
     cases xi:zfd (k+j) (.mk 25 vn vt vks) m with
     | none=>
      rintro e w5 ⟨rfl,GR⟩;have Gf:=zaa (QP.out.off.trans ((Off.of _ (Below.refl _ w3).drew).trans GR));have Gd:Hid (getM b=none):=zaa (by rw[QP.out.eq];exact zh1 gU.out (.inr (by rw[jC.out,zcR cF.out,xi])));clear GR xi VY bc c0 c3 v0 v1 v2 v3 vf Kz;obtain⟨z0,z1,z2,z3,z4,zf⟩:=(za7 Gf.out Kl.out gK.out).all;go_wp2;rw[Exit.noGoto_ret];refine bodyPost_ret (v:=.tuple #[.agg #[.int .u8 0,.int .u32 0,.int .u32 0,.string ⟨#[]⟩,.slice none 0 0],.int .i64 6]) (by simp[results,results6,go_sem,z0,z1,z2,z3,z4]) rfl ?_;rw[Gd.out];exact⟨rfl,zaE (zbr Gf.out gC.out gK.out) zab _ _ _ _ _⟩
     | some m'=>
      rintro e w5 ⟨rfl,GR,qw⟩;have VZ:=(Off.of (fun i=>i=w.heap.size+1∨W.heap.size≤i) (Below.refl _ w3).drew).trans GR;have vO:=VZ.block gS Kz (by have:=HGS.out;omega);have d0:=(World.cell?_of_block (a:=⟨gS,k * 4+j * 4,none⟩) vO).trans c0;have vP:May w5 gS (some ⟨gS,k * 4,none⟩) nm cm k:=⟨QP.out.may.sv.keep VZ.size vO,QP.out.may.sum,QP.out.may.cap,QP.out.may.at_⟩;have xP:=zaa vP;have Ue:=zaa VZ;have HM5:=zaa qw;have jA:=zaa xi;have hgl5:=vP.sv.1;obtain⟨Ab,cb,Jf,_,Ha,He,uh⟩:=zb A' n' c' fn Gk UH;have HCB:=zaa Jf;have Yt:=zaa uh;have hfI:(fn:Int)≤(n':Int):=by omega
      have Kh:=zaa (zjh QP.out.len xi);clear GR xi VY bc c0 c3 v0 v1 v2 v3 vf Kz vP VZ qw vO uh Jf;by_cases h5:k+j=5
      ·have hd5:((cd:Int)==117)=true:=by rw[←QO.out,h5];rfl
       have Ke:Hid (zc4 k m bd (.mk 25 vn vt vks)=some (5,m',true)):=zaa (by rw[zcR cF.out,jA.out,h5];simp);obtain⟨A2,c2,gY,gu,Gw,Xm⟩:=zle (some ⟨gS,k * 4,none⟩) nm cm j (by omega) KX;have vQ:Hid (May w5 gS A2 (nm - j) c2 5):=zaa (h5▸xP.out.cut (by omega) gY Xm);clear h5 gY Xm;go_wp2_with fail;go_roundw
       case rel=>exact⟨Ab,n' - fn,cb,b'.drop fn,A2,nm - j,c2,5,m',true,rfl,rfl,rfl,zoz QP.out gK.out Ue.out HM5.out gU.out jC.out Ke.out vQ.out HCB.out Yt.out Kh.out (fun h=>by omega)⟩
       case measure=>exact zjn h0 gZ
      ·have hd5:((cd:Int)==117)=false:=by rw[←QO.out,zac];unfold sidx;split<;>omega
       have Ke:Hid (zc4 k m bd (.mk 25 vn vt vks)=some (k+(j+1),m',bd)):=zaa (by rw[zcR cF.out,jA.out];simp only;rw[if_neg h5,show (k+j==5)=false from zac.2 h5,Bool.or_false];rfl);have ui:Hid (k+(j+1)≤3→m'.id=⟨#[]⟩):=zaa (fun h=>(zqU jA.out (by omega)).trans (QP.out.id0 (by omega)));obtain⟨A2,c2,gY,gu,Gw,Xm⟩:=zle (some ⟨gS,k * 4,none⟩) nm cm (j+1) (by omega) KX;have vQ:Hid (May w5 gS A2 (nm - (j+1)) c2 (k+(j+1))):=zaa (xP.out.cut (by omega) gY Xm);have jg:=fun W=>gu W ((j:Int)+1) (by omega);have Va:=fun W=>Gw W ((j:Int)+1) (by omega);clear h5 gY Xm gu Gw;go_wp2_with fail;go_roundw
       case rel=>exact⟨Ab,n' - fn,cb,b'.drop fn,A2,nm - (j+1),c2,k+(j+1),m',bd,rfl,rfl,rfl,zoz QP.out gK.out Ue.out HM5.out gU.out jC.out Ke.out vQ.out HCB.out Yt.out Kh.out ui.out⟩
       case measure=>exact zjn h0 gZ
    ·have Gd:Hid (getM b=none):=zaa (by rw[qv.eq];exact zh1 gU.out (.inr (by rw[jC.out];exact zcc (zfK fun i hi=>GN i (by have:=qv.may.sum;omega)))));have Gf:=zaa qv.off;clear GN Hj qv;obtain⟨z0,z1,z2,z3,z4,zf⟩:=(za7 Gf.out Kl.out gK.out).all;go_wp2;rw[Exit.noGoto_ret];refine bodyPost_ret (v:=.tuple #[.agg #[.int .u8 0,.int .u32 0,.int .u32 0,.string ⟨#[]⟩,.slice none 0 0],.int .i64 6]) (by simp[results,results6,go_sem,z0,z1,z2,z3,z4]) rfl ?_;rw[Gd.out];exact⟨rfl,zaE (zbr Gf.out gC.out gK.out) zab _ _ _ _ _⟩
theorem zjo (p ttl n:Nat)(id:ByteArray)(A:Oz)(l c:Nat)(A':Oz)(c':Nat)(b:Lz)(w:World)(hr:Rd .u8 256 w w.heap.size A l b)(ko:Rd .u8 256 w w.heap.size A' l b) :
  Calls prog 8 #[mV p ttl n id A l c,mV p ttl n id A' l c'] w (Val.zaj true w):=by
 have Hg:Below w.heap.size w ((w.alloc (.cells #[.int .u8 (p:Int),.int .u32 (ttl:Int),.int .u32 (n:Int),.string id,.slice A l c] 27)).alloc (.cells #[.int .u8 (p:Int),.int .u32 (ttl:Int),.int .u32 (n:Int),.string id,.slice A' l c'] 27)):=zaw w _ _;have HE:=zaa (fun wx (h:Below w.heap.size w wx)=>zff w.heap.size w.heap.size A A' l c c' b wx (hr.below h) (ko.below h));have HB:=zaa Hg;have e1:((p:Int)==(p:Int))=true:=by simp
 have e2:((ttl:Int)==(ttl:Int))=true:=by simp
 have e3:((n:Int)==(n:Int))=true:=by simp
 have e4:(id.toList==id.toList)=true:=by simp
 clear Hg hr ko;unfold mV;go_enter func8,ntmps8;go_wp2_with (go_at_call 21;(with_reducible refine(HE.out _ HB.out).mono ?_);rintro e w1 ⟨rfl,rfl⟩);go_ret;exact⟨rfl,HB.out⟩
def mw:M:=⟨9,0,0,⟨#[109]⟩,[104,105]⟩
theorem zuv:zb1 20 ⟨#[109]⟩=true:=by
 have h:utfB ⟨#[109]⟩=true:=zfu ⟨[109],(fun x hx=>by simp at hx;subst hx;simp[isC]),rfl⟩;rw[text20];exact h
theorem zrq:mayM mw=true:=by
 unfold mayM mw;simp only[zuv];rfl
theorem zrr:layL (secM mw)=[0,83,112,192,4,2,64,80,9,0,83,115,192,4,1,161,1,109,0,83,117,160,2,104,105]:=by decide +kernel
theorem zuw:putM mw=some [0,83,112,192,4,2,64,80,9,0,83,115,192,4,1,161,1,109,0,83,117,160,2,104,105]:=by
 unfold putM;rw[if_pos zrq,zrr]
theorem zux:getM [0,83,112,192,4,2,64,80,9,0,83,115,192,4,1,161,1,109,0,83,117,160,2,104,105]=some mw:=by
 have:=zn9 zrq (by decide) (by decide) (by decide)
 rwa [zrr] at this
theorem get_nil:getM []=none:=rfl
theorem wput (A:Oz)(w:World)(hr:Rd .u8 256 w w.heap.size A 2 [104,105])(Ho:Tab w):Calls prog 11 #[.agg #[.int .u8 9,.int .u32 0,.int .u32 0,.string ⟨#[109]⟩,.slice A 2 2]] w (zl (some [0,83,112,192,4,2,64,80,9,0,83,115,192,4,1,161,1,109,0,83,117,160,2,104,105]) w):=
 zuw▸zqO 9 0 0 ⟨#[109]⟩ A 2 2 [104,105] w (by omega) (by omega) (by omega) (by decide) (by omega) hr Ho
theorem wget (A:Oz)(c:Nat)(w:World)(hc:25≤c)(hr:Rd .u8 256 w w.heap.size A 25 [0,83,112,192,4,2,64,80,9,0,83,115,192,4,1,161,1,109,0,83,117,160,2,104,105])(Ho:Tab w):Calls prog 6 #[.slice A 25 c] w (fun e w'=>∃ A2 l2 c2,e=.returned (.tuple #[.agg #[.int .u8 9,.int .u32 0,.int .u32 0,.string ⟨#[109]⟩,.slice A2 l2 c2],.int .i64 0])∧Utf.Own .u8 256 5 w' w.heap.size A2 l2 c2 [104,105]∧Below w.heap.size w w'):=by
 have:=zh2 A 25 c _ w hr hc (by omega) Ho;rw[zux] at this;exact this
theorem wnil (w:World)(Ho:Tab w):Calls prog 6 #[.slice none 0 0] w (zfL none w):=by
 have:=zh2 none 0 0 [] w (Rd.zero _ _ _ _ _) zab (by omega) Ho
 rwa [get_nil] at this
theorem wsame (A:Oz)(l c:Nat)(A':Oz)(l' c':Nat)(w:World)(hl:l=2)(qp:l'=2)(hr:Rd .u8 256 w w.heap.size A l [104,105])(ko:Rd .u8 256 w w.heap.size A' l' [104,105]) :
  Calls prog 8 #[.agg #[.int .u8 9,.int .u32 0,.int .u32 0,.string ⟨#[109]⟩,.slice A l c],.agg #[.int .u8 9,.int .u32 0,.int .u32 0,.string ⟨#[109]⟩,.slice A' l' c']] w (Val.zaj true w):=by
 subst hl qp;exact zjo 9 0 0 ⟨#[109]⟩ A 2 c A' c' [104,105] w hr ko
theorem zkb (w:World)(Ho:Tab w):Calls prog 4 #[] w (Val.zaj true w):=by
 have uj:(convert 22 22 (.slice (some ⟨w.heap.size,0,none⟩) 2 2)).run prog (w.alloc (.cells #[.int .u8 104,.int .u8 105] 5))=.ok (.slice (some ⟨w.heap.size,0,none⟩) 2 2) (w.alloc (.cells #[.int .u8 104,.int .u8 105] 5 (2,3))):=Lib.run_convert_bytes_const w 22 5 #[.int .u8 104,.int .u8 105] 2 2 underlying22 underlying5;have j3:∀ j,(w.alloc (.cells #[.int .u8 104,.int .u8 105] 5 (2,3))).cell? ⟨w.heap.size,j,none⟩=#[Value.int .u8 104,.int .u8 105][j]?:=fun j=>World.cell?_alloc_mark w _ _ _ j;have kY:Below w.heap.size w (w.alloc (.cells #[.int .u8 104,.int .u8 105] 5 (2,3))):=(za _ _);have Hu:(w.alloc (.cells #[.int .u8 104,.int .u8 105] 5 (2,3))).heap.size=w.heap.size+1:=World.size_alloc _ _;obtain⟨W0,Gj⟩:∃ W0,w.alloc (.cells #[.int .u8 104,.int .u8 105] 5 (2,3))=W0:=⟨_,rfl⟩;rw[Gj] at uj j3 kY Hu;have Qf:Rd .u8 256 W0 (w.heap.size+1) (some ⟨w.heap.size,0,none⟩) 2 [104,105]:=by
  refine⟨rfl,by decide,fun _=>⟨w.heap.size,0,rfl,by omega,fun k hk=>?_⟩⟩;rw[Nat.zero_add,j3];have hk:k < 2:=hk;have:k=0∨k=1:=by omega
  rcases this with rfl | rfl<;>rfl
 have Ha:Below W0.heap.size W0 (W0.alloc (.cells #[.int .u8 9,.int .u32 0,.int .u32 0,.string ⟨#[109]⟩,.slice (some ⟨w.heap.size,0,none⟩) 2 2] 27)):=(za _ _);have Hg:=zad kY Ha;have hx:BxM (W0.alloc (.cells #[.int .u8 9,.int .u32 0,.int .u32 0,.string ⟨#[109]⟩,.slice (some ⟨w.heap.size,0,none⟩) 2 2] 27)) (w.heap.size+1) (.int .u8 9) (.int .u32 0) (.int .u32 0) (.string ⟨#[109]⟩) (.slice (some ⟨w.heap.size,0,none⟩) 2 2):=by
  have:=BxM.new W0 (.int .u8 9) (.int .u32 0) (.int .u32 0) (.string ⟨#[109]⟩) (.slice (some ⟨w.heap.size,0,none⟩) 2 2)
  rwa [Hu] at this
 have Gc:=(Qf.mono (show w.heap.size+1≤W0.heap.size by omega)).call Ha;have HB:=zaa Hg;have HX:=zaa hx;have HR:=zaa Gc;have HT:=zaa (Ho.call Hg);clear Hg Ha hx Qf Gc Ho j3 kY Gj;go_enter func4,ntmps4;go_wp2_with fail
 (with_reducible refine(wput _ _ HR.out HT.out).mono ?_)
 rintro e w1 ⟨A1,m1,c1,rfl,bD,Ha⟩;obtain rfl:m1=25:=bD.len.symm;have Y':=zaa (HT.out.call Ha);have kR:=zaa (HX.out.call Ha);have xm:=zaa (HR.out.call Ha);have Hl:=zaa (zad HB.out Ha);have gM:=bD.cap.1;have cG:=zaa bD;clear Ha bD HB HX HR HT;go_wp2_with fail
 (with_reducible refine(wget A1 c1 _ gM cG.out.rd Y'.out).mono ?_)
 rintro e w2 ⟨A2,l2,c2,rfl,cH,He⟩;have KE:=He.alloc He.size (.cells #[.int .u8 9,.int .u32 0,.int .u32 0,.string ⟨#[109]⟩,.slice A2 l2 c2] 27);have bw:=zaa (Y'.out.call KE);have kL:=zaa (kR.out.call KE);have bz:=zaa (xm.out.call KE);have Gb:=zaa (zad Hl.out KE);have Uf:=zaa (cG.out.rd.call KE);have J2:=zaa (cH.rd.call ((Below.refl _ _).alloc zab (.cells #[.int .u8 9,.int .u32 0,.int .u32 0,.string ⟨#[109]⟩,.slice A2 l2 c2] 27)));have YP:Hid (l2=2):=zaa cH.len.symm;have Yu:=zaa (BxM.new w2 (.int .u8 9) (.int .u32 0) (.int .u32 0) (.string ⟨#[109]⟩) (.slice A2 l2 c2));clear He KE cH kR xm Hl cG Y';go_wp2_with fail
 (with_reducible refine(wnil _ bw.out).mono ?_)
 rintro e w3 ⟨rfl,Hj⟩;have Kr:=Hj.alloc Hj.size (.cells #[.int .u8 0,.int .u32 0,.int .u32 0,.string ⟨#[]⟩,.slice none 0 0] 27);have j8:=zaa (kL.out.call Kr);have CO:=zaa (Yu.out.call Kr);have HR3:=zaa (bz.out.call Kr);have HO3:=zaa (J2.out.call Kr);have Gc:=Uf.out.call Kr;have Gv:=zaa (zad Gb.out Kr);obtain⟨b9,o9,cc,hA9,kr,hx9,_,Yv⟩:=Gc.at_ (k:=2) (by omega);subst hA9;obtain rfl:112=cc:=by simpa using hx9
 have hc9':(w3.alloc (.cells #[.int .u8 0,.int .u32 0,.int .u32 0,.string ⟨#[]⟩,.slice none 0 0] 27)).cell? ⟨b9,o9+2,none⟩=some (.int .u8 112):=Yv;clear Yv;obtain⟨x0,x1,x2,x3,x4,xf⟩:=j8.out.all;obtain⟨y0,y1,y2,y3,y4,yf⟩:=CO.out.all;clear Hj Kr kL Yu bz J2 Uf Gb bw hx9 Gc;go_wp2_with fail
 (with_reducible refine(wsame _ _ _ _ _ _ _ rfl YP.out HR3.out HO3.out).mono ?_)
 rintro e w4 ⟨rfl,gl⟩;go_wp2;go_ret;exact⟨rfl,zad Gv.out gl⟩
end Me
namespace Me
open Go.RowKit Utf Val Fl V
open Enc (lay plan)
theorem zqW (p ttl n:Nat)(id:ByteArray)(A:Oz)(l c:Nat)(A':Oz)(l' c':Nat)(b:Lz)(w:World)(hr:Rd .u8 256 w w.heap.size A l b)(ko:Rd .u8 256 w w.heap.size A' l' b) :
  Calls prog 8 #[.agg #[.int .u8 (p:Int),.int .u32 (ttl:Int),.int .u32 (n:Int),.string id,.slice A l c],.agg #[.int .u8 (p:Int),.int .u32 (ttl:Int),.int .u32 (n:Int),.string id,.slice A' l' c']] w (zaj true w):=by
 obtain rfl:l=l':=hr.len.symm.trans ko.len;exact zjo p ttl n id A l c A' c' b w hr ko
end Me
end Go.Proofs.YtbbbanfggcediaaGreatDoor
