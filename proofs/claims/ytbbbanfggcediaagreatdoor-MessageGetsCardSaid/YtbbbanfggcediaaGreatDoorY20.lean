/- Contracts, each with its premises. -/
import Derived.Test.YtbbbanfggcediaaGreatDoorY19
import Derived.Test.YtbbbanfggcediaaGreatDoorY15
set_option maxRecDepth 100000
set_option maxHeartbeats 8000000
namespace Go.Proofs.YtbbbanfggcediaaGreatDoor
open _root_.Go.Proofs.Tryz
open Bool renaming false_ne_true→ycC
namespace Me
open Go.RowKit Utf Val Fl Oc V
def BxM (w:World)(g:Nat)(x0 x1 x2 x3 x4:Value):Prop:=w.heap[g]? = some (.cells #[x0,x1,x2,x3,x4] 27 (0,0))
section
variable {w w':World} {g:Nat} {x0 x1 x2 x3 x4:Value}
theorem BxM.lt (h:BxM w g x0 x1 x2 x3 x4):g < w.heap.size:=(Array.getElem?_eq_some_iff.1 h).1
theorem BxM.new (w:World)(x0 x1 x2 x3 x4:Value):BxM (w.alloc (.cells #[x0,x1,x2,x3,x4] 27)) w.heap.size x0 x1 x2 x3 x4:=heap_alloc_new w _
theorem BxM.call (h:BxM w g x0 x1 x2 x3 x4)(hb:Below w.heap.size w w'):BxM w' g x0 x1 x2 x3 x4:=(hb.block g h.lt).trans h
theorem BxM.alloc (h:BxM w g x0 x1 x2 x3 x4)(o:Obj):BxM (w.alloc o) g x0 x1 x2 x3 x4:=h.call ((za _ _))
theorem BxM.off {X:Nat→Prop}(h:BxM w g x0 x1 x2 x3 x4)(ho:Off X w w')(hX:¬ X g):BxM w' g x0 x1 x2 x3 x4:=(ho.block g h.lt hX).trans h
theorem BxM.all (h:BxM w g x0 x1 x2 x3 x4):w.cell? ⟨g,0,none⟩=some x0∧w.cell? ⟨g,1,none⟩=some x1∧w.cell? ⟨g,2,none⟩=some x2∧w.cell? ⟨g,3,none⟩=some x3∧w.cell? ⟨g,4,none⟩=some x4∧∀ j,w.frozen? ⟨g,j,none⟩=false:=by
 refine⟨cell_of_row w g 0 _ _ _ h,cell_of_row w g 1 _ _ _ h,cell_of_row w g 2 _ _ _ h,cell_of_row w g 3 _ _ _ h,cell_of_row w g 4 _ _ _ h,fun j=>?_⟩;unfold BxM at h;simp[World.frozen?,h]
end
def mV (p ttl n:Nat)(id:ByteArray)(A:Oz)(l c:Nat):Value:=.agg #[.int .u8 (p:Int),.int .u32 (ttl:Int),.int .u32 (n:Int),.string id,.slice A l c]
def ziw (v:V)(w:World)(e:Ending)(w':World):Prop:=∃ k n:Nat,v=.mk k n ⟨#[]⟩ []∧k < 256∧n < 18446744073709551616∧e=.returned (.agg #[.int .u8 (k:Int),.int .u64 (n:Int),.string ⟨#[]⟩,.slice none 0 0])∧Below w.heap.size w w'
theorem zg4 (z k n:Nat)(w:World)(hk:k < 256)(hn:n < 18446744073709551616):Calls prog 50 #[.int .u64 (z:Int),.int .u8 (k:Int),.int .u64 (n:Int)] w (ziw (zc2 (n==z) (.mk k n ⟨#[]⟩ [])) w):=by
 have hx:=Box.new w (.int .u8 0) (.int .u64 0) (.string ⟨#[]⟩) (.slice none 0 0);have Hg:Below w.heap.size w (w.alloc (.cells #[.int .u8 0,.int .u64 0,.string ⟨#[]⟩,.slice none 0 0] 43)):=(za _ _);have HX:=zaa hx;have HB:=zaa Hg;have HK:=zaa hk;have HN:=zaa hn;clear hx Hg hk hn;by_cases h0:n=z
 ·have HF:Hid (zc2 (n==z) (.mk k n ⟨#[]⟩ [])=za3):=zaa (by unfold zc2;rw[if_pos (by simpa using h0)]);have hd:((n:Int)==(z:Int))=true:=by rw[h0];simp
  clear h0;go_enter func50,ntmps50;go_wp2_with fail
  (with_reducible refine(zhw _).mono ?_)
  rintro e w1 ⟨rfl,Ha⟩;obtain⟨d0,d1,d2,d3,df⟩:=(HX.out.call Ha).all;have Hl:=zaa (zad HB.out Ha);clear Ha;go_wp2;refine bodyPost_ret (v:=.agg #[.int .u8 1,.int .u64 0,.string ⟨#[]⟩,.slice none 0 0]) (by simp[results,results50,go_sem,d0,d1,d2,d3]) rfl ?_;exact⟨1,0,HF.out,by omega,by omega,rfl,zae Hl.out (by omega) _ _ _ _⟩
 ·have HF:Hid (zc2 (n==z) (.mk k n ⟨#[]⟩ [])=.mk k n ⟨#[]⟩ []):=zaa (by unfold zc2;rw[if_neg (by simpa using h0)]);have hd:((n:Int)==(z:Int))=false:=by rw[zac];omega
  clear h0;go_enter func50,ntmps50;go_wp2_with fail
  (with_reducible refine(zsc k n _).mono ?_)
  rintro e w1 ⟨rfl,Ha⟩;obtain⟨d0,d1,d2,d3,df⟩:=(HX.out.call Ha).all;have Hl:=zaa (zad HB.out Ha);clear Ha;go_wp2;refine bodyPost_ret (v:=.agg #[.int .u8 (k:Int),.int .u64 (n:Int),.string ⟨#[]⟩,.slice none 0 0]) (by simp[results,results50,go_sem,d0,d1,d2,d3]) rfl ?_;exact⟨k,n,HF.out,HK.out,HN.out,rfl,zae Hl.out (by omega) _ _ _ _⟩
theorem zd5 (code:Nat)(w:World):Calls prog 34 #[.int .u64 (code:Int)] w fun e w'=>e=.returned (.agg #[.int .u8 6,.int .u64 (code:Int),.string ⟨#[]⟩,.slice none 0 0])∧Below w.heap.size w w':=by
 have Hg:Below w.heap.size w (w.alloc (.cells #[.int .u8 0,.int .u64 0,.string ⟨#[]⟩,.slice none 0 0] 43)):=(za _ _);have hx:=Box.new w (.int .u8 0) (.int .u64 0) (.string ⟨#[]⟩) (.slice none 0 0);have K7:∀ w,Calls prog 67 #[.int .u8 6,.int .u64 (code:Int)] w fun e w'=>e=.returned (.agg #[.int .u8 6,.int .u64 (code:Int),.string ⟨#[]⟩,.slice none 0 0])∧Below w.heap.size w w':=fun w=>Val.zaq 6 code w;go_enter func34,ntmps34;go_wp2_with fail;refine(K7 _).mono ?_;rintro e w1 ⟨rfl,Ha⟩;obtain⟨d0,d1,d2,d3,df⟩:=(hx.call Ha).all;have HB:=zaa (zad Hg Ha);clear hx Hg Ha K7;go_wp2;refine bodyPost_ret (v:=.agg #[.int .u8 6,.int .u64 (code:Int),.string ⟨#[]⟩,.slice none 0 0]) (by simp[results,results34,go_sem,d0,d1,d2,d3]) rfl ?_;exact⟨rfl,zae HB.out (by omega) _ _ _ _⟩
theorem zk8 (id:ByteArray)(d:Bool)(hd:decide (id.size≤64)=d)(w:World):Calls prog 46 #[.string id] w (zaj d w):=by
 have BP:decide ((id.size:Int)≤64)=d:=by rw[←hd];simp;omega
 clear hd;go_enter func46,ntmps46;go_wp2;go_ret;exact⟨rfl,Below.refl _ _⟩
theorem text20 (t:ByteArray):zb1 20 t=utfB t:=by
 unfold zb1;rw[if_neg (by omega),if_neg (by omega),if_neg (by omega),if_pos rfl]
theorem zs2 (p ttl n:Nat)(id:ByteArray)(b:Lz):mayM ⟨p,ttl,n,id,b⟩=(decide (p≤9)&&(decide (id.size≤64)&&(utfB id&&decide (b.length≤2048)))):=by
 unfold mayM;simp only[text20]
theorem zqL (p ttl n:Nat)(id:ByteArray)(A:Oz)(l c:Nat)(b:Lz)(w:World)(hs:id.size≤1073741824)(hl:b.length=l)(Ho:Tab w):Calls prog 23 #[mV p ttl n id A l c] w (zaj (mayM ⟨p,ttl,n,id,b⟩) w):=by
 have Hg:Below w.heap.size w (w.alloc (.cells #[.int .u8 (p:Int),.int .u32 (ttl:Int),.int .u32 (n:Int),.string id,.slice A l c] 27)):=(za _ _);have HX:=zaa (BxM.new w (.int .u8 (p:Int)) (.int .u32 (ttl:Int)) (.int .u32 (n:Int)) (.string id) (.slice A l c));have HM:=zaa (zs2 p ttl n id b);have HT:=zaa (Ho.call Hg);have HB:=zaa Hg;obtain⟨d,hd⟩:∃ d,decide (id.size≤64)=d:=⟨_,rfl⟩;obtain⟨q,hq⟩:∃ q,decide ((l:Int)≤2048)=q:=⟨_,rfl⟩;rw[hd,hl,show decide (l≤2048)=q by rw[←hq];simp;omega] at HM;have HI:=zaa (fun w=>zk8 id d hd w);have HS:=zaa hs;clear Hg hd hl hs Ho;unfold mV;by_cases hp:p≤9
 case neg=>
  rw[decide_eq_false hp] at HM;have hd:decide ((p:Int)≤9)=false:=decide_eq_false (by omega);clear hp;go_enter func23,ntmps23;go_wp2;go_ret;exact⟨by rw[HM.out];rfl,HB.out⟩
 case pos=>
  rw[decide_eq_true hp,Bool.true_and] at HM;have hd:decide ((p:Int)≤9)=true:=decide_eq_true (by omega);clear hp;cases d with
  | false=>
   go_enter func23,ntmps23;go_wp2_with (go_at_call 46;(with_reducible refine(HI.out _).mono ?_);rintro e w1 ⟨rfl,Ha⟩);go_ret;exact⟨by rw[HM.out];rfl,zad HB.out Ha⟩
  | true=>
   rw[Bool.true_and] at HM;go_enter func23,ntmps23;go_wp2_with fail
   (with_reducible refine(HI.out _).mono ?_)
   rintro e w1 ⟨rfl,Ha⟩;obtain⟨e0,e1,e2,e3,e4,ef⟩:=(HX.out.call Ha).all;have Hl:=zaa (zad HB.out Ha);have Y':=zaa (HT.out.call Ha);have kR:=zaa (HX.out.call Ha);obtain⟨w2,cc,gw,xd,hr,He⟩:=zen w1 id;have Gb:=zaa (zad Hl.out He);have bw:=zaa (Y'.out.call He);have bz:=zaa (zin (some ⟨w1.heap.size,0,none⟩) id.size cc (nb id) w2 bw.out hr xd (by have:=HS.out;omega));have kL:=zaa (kR.out.call He);clear Ha He hr xd;go_wp2_with fail
   (with_reducible refine bz.out.mono ?_)
   rintro e w3 ⟨⟨hT,rfl⟩ | ⟨hN,rfl⟩,Hj⟩
   ·have HU:=zaa (zfu hT);obtain⟨f0,f1,f2,f3,f4,ff⟩:=(kL.out.call Hj).all;have Gv:=zaa (zad Gb.out Hj);clear hT Hj;go_wp2;go_ret;exact⟨by rw[HM.out,HU.out];rfl,Gv.out⟩
   ·have HU:=zaa (zjN hN);have Gv:=zaa (zad Gb.out Hj);clear hN Hj;go_wp2;go_ret;exact⟨by rw[HM.out,HU.out];rfl,Gv.out⟩
def zrp (vs:List V)(w:World)(e:Ending)(w':World):Prop:=∃ A l c,e=.returned (.slice A l c)∧Nw w.heap.size w' vs A l c∧Below w.heap.size w w'
theorem zj8 (p z:Nat):((p:Int)==(z:Int))=(p==z):=by
 by_cases h:p=z
 ·subst h;simp
 ·have h2:¬ (p:Int)=(z:Int):=by omega
  rw[zac.2 h,zac.2 h2]
structure TM (w wi:World) (x0 x1 x2 x3 x4:Value):Prop where
 bx:BxM wi w.heap.size x0 x1 x2 x3 x4
 low:Below w.heap.size w wi
section
variable {w wi w':World} {x0 x1 x2 x3 x4:Value}
theorem TM.call (h:TM w wi x0 x1 x2 x3 x4)(hb:Below wi.heap.size wi w'):TM w w' x0 x1 x2 x3 x4:=⟨h.bx.call hb,zad h.low hb⟩
theorem TM.alloc (h:TM w wi x0 x1 x2 x3 x4)(o:Obj):TM w (wi.alloc o) x0 x1 x2 x3 x4:=h.call ((za _ _))
theorem TM.drew (h:TM w wi x0 x1 x2 x3 x4):TM w wi.drew x0 x1 x2 x3 x4:=h.call (Below.refl _ _).drew
theorem TM.c3 (h:TM w wi x0 x1 x2 x3 x4):wi.cell? ⟨w.heap.size,0,none⟩=some x0∧wi.cell? ⟨w.heap.size,1,none⟩=some x1∧wi.cell? ⟨w.heap.size,2,none⟩=some x2∧TM w wi x0 x1 x2 x3 x4:=⟨h.bx.all.1,h.bx.all.2.1,h.bx.all.2.2.1,h⟩
theorem TM.new (w:World)(x0 x1 x2 x3 x4:Value):TM w (w.alloc (.cells #[x0,x1,x2,x3,x4] 27)) x0 x1 x2 x3 x4:=⟨BxM.new _ _ _ _ _ _,(za _ _)⟩
theorem TM.of3 {p:Prop}{q:Prop}{r:Prop}(h:p∧q∧r∧TM w wi x0 x1 x2 x3 x4):TM w wi x0 x1 x2 x3 x4:=h.2.2.2
theorem TM.grown {A:Oz}{n c:Nat}{xs:List Value}(h:TM w wi x0 x1 x2 x3 x4)(Hf:wi.ownsRow (w.heap.size+1) 43 4 (.slice A n c) n xs)(hg:wi.grownBy w' (Value.slice A n c).ownBlock):TM w w' x0 x1 x2 x3 x4:=by
 have hb:Below (w.heap.size+1) wi w':=(Below.refl _ _).grown hg (by have:=h.bx.lt;omega) fun k hk=>(Hf.lt k hk).1;exact⟨(hb.block _ (by omega)).trans h.bx,h.low.trans (hb.mono (by omega))⟩
end
theorem put112 (ls:List V)(A:Oz)(l c:Nat)(w:World)(hN:zai ls≤536870912)(hK:Kd w ls A l c):Calls prog 48 #[.int .u64 112,.slice A l c] w (zkR 112 (trim ls) w):=znV 112 ls A l c w hN (by omega) hK
theorem put115 (ls:List V)(A:Oz)(l c:Nat)(w:World)(hN:zai ls≤536870912)(hK:Kd w ls A l c):Calls prog 48 #[.int .u64 115,.slice A l c] w (zkR 115 (trim ls) w):=znV 115 ls A l c w hN (by omega) hK
theorem code117 (w:World):Calls prog 34 #[.int .u64 117] w fun e w'=>e=.returned (.agg #[.int .u8 6,.int .u64 117,.string ⟨#[]⟩,.slice none 0 0])∧Below w.heap.size w w':=zd5 117 w
theorem zoj (t:ByteArray)(w:World):Calls prog 35 #[.int .u8 20,.string t] w (fun e w'=>e=.returned (.agg #[.int .u8 20,.int .u64 0,.string t,.slice none 0 0])∧Below w.heap.size w w'):=zaD 20 t w
theorem zhV (t:ByteArray)(w:World):Calls prog 35 #[.int .u8 19,.string t] w (fun e w'=>e=.returned (.agg #[.int .u8 19,.int .u64 0,.string t,.slice none 0 0])∧Below w.heap.size w w'):=zaD 19 t w
theorem zhW (t:ByteArray)(w:World)(ht:t.size≤536870912):Calls prog 51 #[.agg #[.int .u8 6,.int .u64 117,.string ⟨#[]⟩,.slice none 0 0],.agg #[.int .u8 19,.int .u64 0,.string t,.slice none 0 0]] w (fun e w'=>∃ A1 l1 c1,e=.returned (.agg #[.int .u8 25,.int .u64 0,.string ⟨#[]⟩,.slice A1 l1 c1])∧Nw w.heap.size w' [.mk 6 117 ⟨#[]⟩ [],.mk 19 0 t []] A1 l1 c1∧Below w.heap.size w w'):=
 zie 6 117 ⟨#[]⟩ [] none 0 0 19 0 t [] none 0 0 w (by simp only[zai,bulk,sz0];omega) (by omega) (by omega) (by omega) (by omega) (Kd.none_ _ _ _) (Kd.none_ _ _ _)
theorem unl4 (n:Nat)(w:World)(hn:n < 256):Calls prog 50 #[.int .u64 4,.int .u8 3,.int .u64 (n:Int)] w (ziw (zc2 (n==4) (.mk 3 n ⟨#[]⟩ [])) w):=zg4 4 3 n w (by omega) (by omega)
theorem unl0 (n:Nat)(w:World)(hn:n < 4294967296):Calls prog 50 #[.int .u64 0,.int .u8 5,.int .u64 (n:Int)] w (ziw (zc2 (n==0) (.mk 5 n ⟨#[]⟩ [])) w):=zg4 0 5 n w (by omega) (by omega)
theorem zs3 (w:World)(g:Nat)(hg:w.heap.size=g){k1 n1 k2 n2 k3 n3:Nat}(gF:k1 < 256)(Gm:n1 < 18446744073709551616)(gR:k2 < 256)(Kk:n2 < 18446744073709551616)(JX:k3 < 256)(Vy:n3 < 18446744073709551616) :
  Kd (w.alloc (.cells #[.int .u8 1,.int .u64 0,.string ⟨#[]⟩,.slice none 0 0,.int .u8 (k1:Int),.int .u64 (n1:Int),.string ⟨#[]⟩,.slice none 0 0,.int .u8 (k2:Int),.int .u64 (n2:Int),.string ⟨#[]⟩,.slice none 0 0,.int .u8 1,.int .u64 0,.string ⟨#[]⟩,.slice none 0 0,.int .u8 (k3:Int),.int .u64 (n3:Int),.string ⟨#[]⟩,.slice none 0 0] 43)) [za3,.mk k1 n1 ⟨#[]⟩ [],.mk k2 n2 ⟨#[]⟩ [],za3,.mk k3 n3 ⟨#[]⟩ []] (some ⟨g,0,none⟩) 5 5:=by
 subst hg;have hc:∀ j,(w.alloc (.cells #[.int .u8 1,.int .u64 0,.string ⟨#[]⟩,.slice none 0 0,.int .u8 (k1:Int),.int .u64 (n1:Int),.string ⟨#[]⟩,.slice none 0 0,.int .u8 (k2:Int),.int .u64 (n2:Int),.string ⟨#[]⟩,.slice none 0 0,.int .u8 1,.int .u64 0,.string ⟨#[]⟩,.slice none 0 0,.int .u8 (k3:Int),.int .u64 (n3:Int),.string ⟨#[]⟩,.slice none 0 0] 43)).cell? ⟨w.heap.size,j,none⟩=#[Value.int .u8 1,.int .u64 0,.string ⟨#[]⟩,.slice none 0 0,.int .u8 (k1:Int),.int .u64 (n1:Int),.string ⟨#[]⟩,.slice none 0 0,.int .u8 (k2:Int),.int .u64 (n2:Int),.string ⟨#[]⟩,.slice none 0 0,.int .u8 1,.int .u64 0,.string ⟨#[]⟩,.slice none 0 0,.int .u8 (k3:Int),.int .u64 (n3:Int),.string ⟨#[]⟩,.slice none 0 0][j]?:=fun j=>World.cell?_alloc_at _ _ _ _ rfl;refine⟨rfl,zab,fun _=>⟨w.heap.size,0,rfl,by simp,(fun h=>by cases h),?_⟩⟩;refine⟨zbd.2 ⟨none,0,0,hc 0,hc 1,hc 2,hc 3,by omega,by omega,Val.Kids.none_ _ _ _ _ _⟩,zbd.2 ⟨none,0,0,hc 4,hc 5,hc 6,hc 7,gF,Gm,Val.Kids.none_ _ _ _ _ _⟩,zbd.2 ⟨none,0,0,hc 8,hc 9,hc 10,hc 11,gR,Kk,Val.Kids.none_ _ _ _ _ _⟩,zbd.2 ⟨none,0,0,hc 12,hc 13,hc 14,hc 15,by omega,by omega,Val.Kids.none_ _ _ _ _ _⟩,zbd.2 ⟨none,0,0,hc 16,hc 17,hc 18,hc 19,JX,Vy,Val.Kids.none_ _ _ _ _ _⟩,trivial⟩
theorem zqM (t:ByteArray):trim [.mk 20 0 t []]=[.mk 20 0 t []]:=zkW (by simp[kind])
theorem kid20 (t:ByteArray)(w:World)(g:Nat)(hg:w.heap.size=g):Kd (w.alloc (.cells #[.int .u8 20,.int .u64 0,.string t,.slice none 0 0] 43)) [.mk 20 0 t []] (some ⟨g,0,none⟩) 1 1:=by
 subst hg;exact kid1 (k:=20) (n:=0) (by omega) (by omega) (Kd.none_ _ _ _)
theorem zok (n1 n2 n3 k1 k2 k3:Nat):zai [za3,.mk k1 n1 ⟨#[]⟩ [],.mk k2 n2 ⟨#[]⟩ [],za3,.mk k3 n3 ⟨#[]⟩ []]≤536870912:=by
 simp only[za3,zai,bulk,sz0];omega
theorem zol {id:ByteArray}(h:id.size≤134217728):zai [.mk 20 0 id []]≤536870912:=by
 simp only[zai,bulk];omega
theorem zk9 {w:World}{A:Oz}{l:Nat}{b:Lz}{B:Nat}(h:Rd .u8 256 w B A l b)(hl:l≤134217728):(sb b).size≤536870912:=by
 rw[zf8,h.len];omega
theorem TM.c4 {w wi:World}{x0 x1 x2 x3 x4:Value}{q:Prop}(h:TM w wi x0 x1 x2 x3 x4)(hq:q):wi.cell? ⟨w.heap.size,4,none⟩=some x4∧q∧TM w wi x0 x1 x2 x3 x4:=⟨h.bx.all.2.2.2.2.1,hq,h⟩
theorem _root_.Go.Proofs.YtbbbanfggcediaaGreatDoor.Val.CS.alloc {B:Nat}{wr:World}{A:Oz}{n c:Nat}{done:List V}{xs:List Value}(h:CS B wr A n c done xs)(o:Obj):CS B (wr.alloc o) A n c done xs:=h.call ((za _ _))
theorem _root_.Go.Proofs.YtbbbanfggcediaaGreatDoor.Val.CS.blk {B:Nat}{wr:World}{A:Oz}{n c:Nat}{done:List V}{xs:List Value}(h:CS B wr A n c done xs):∀ g,(Value.slice A n c).ownBlock=some g→g < wr.heap.size:=fun g hg=>(h.own.lt g hg).2
theorem zj9 {w w2 w3 w9:World}{A:Oz}{n c:Nat}{done:List V}{xs:List Value}(kA:w.heap.size < w2.heap.size)(h:CS (w.heap.size+1) w3 A n c done xs)(kW:∀ g,(Value.slice A n c).ownBlock=some g→g < w2.heap.size){us:List V}{A3:Oz}{l3 c3:Nat}(hN:Nw w2.heap.size w3 us A3 l3 c3){o:Obj}{g cap:Nat}
  (Hf:w9.ownsRow (w.heap.size+1) 43 4 (.slice (some ⟨g,0,none⟩) (n+1) cap) (n+1) (xs++[.int .u8 25,.int .u64 0,.string ⟨#[]⟩,.slice A3 l3 c3])) (hg:(w3.alloc o).grownBy w9 (Value.slice A n c).ownBlock) (gT:(Value.slice A n c).ownBlock=some g∨g=(w3.alloc o).heap.size) :
  CS (w.heap.size+1) w9 (some ⟨g,0,none⟩) (n+1) cap (done++[.mk 25 0 ⟨#[]⟩ us]) (xs++[.int .u8 25,.int .u64 0,.string ⟨#[]⟩,.slice A3 l3 c3]):=by
 have:=CS.push (k:=25) (m:=0) (t:=⟨#[]⟩) h (by omega) (by omega) (hN.mono fun i hi=>⟨by have:=hi.1;omega,hi.2,fun e=>by have:=kW i e;have:=hi.1;omega⟩) o rfl (by simpa using Hf) hg (gT.imp id fun h=>by simp at h;omega)
 simpa using this
theorem zhX {w w2 w3 w9:World}{A:Oz}{n c:Nat}{done:List V}{xs:List Value}{b:Lz}(kA:w.heap.size < w2.heap.size)(h:CS (w.heap.size+1) w3 A n c done xs)(kW:∀ g,(Value.slice A n c).ownBlock=some g→g < w2.heap.size)(_:w2.heap.size≤w3.heap.size){A3:Oz}{l3 c3:Nat}(hN:Nw w2.heap.size w3 [.mk 6 117 ⟨#[]⟩ [],.mk 19 0 (sb b) []] A3 l3 c3){o:Obj}{g cap:Nat}
  (Hf:w9.ownsRow (w.heap.size+1) 43 4 (.slice (some ⟨g,0,none⟩) (n+1) cap) (n+1) (xs++[.int .u8 25,.int .u64 0,.string ⟨#[]⟩,.slice A3 l3 c3])) (hg:(w3.alloc o).grownBy w9 (Value.slice A n c).ownBlock) (gT:(Value.slice A n c).ownBlock=some g∨g=(w3.alloc o).heap.size) :
  CS (w.heap.size+1) w9 (some ⟨g,0,none⟩) (n+1) cap (done++[daV b]) (xs++[.int .u8 25,.int .u64 0,.string ⟨#[]⟩,.slice A3 l3 c3]):=zj9 kA h kW hN Hf hg gT
theorem zuf {w w2 w3 w9:World}{A:Oz}{n c:Nat}{done:List V}{xs:List Value}{id:ByteArray}(kA:w.heap.size < w2.heap.size)(h:CS (w.heap.size+1) w3 A n c done xs)(kW:∀ g,(Value.slice A n c).ownBlock=some g→g < w2.heap.size)(_:w2.heap.size≤w3.heap.size){A3:Oz}{l3 c3:Nat}(hN:Nw w2.heap.size w3 (putL 115 (trim [.mk 20 0 id []])) A3 l3 c3){o:Obj}{g cap:Nat}
  (Hf:w9.ownsRow (w.heap.size+1) 43 4 (.slice (some ⟨g,0,none⟩) (n+1) cap) (n+1) (xs++[.int .u8 25,.int .u64 0,.string ⟨#[]⟩,.slice A3 l3 c3])) (hg:(w3.alloc o).grownBy w9 (Value.slice A n c).ownBlock) (gT:(Value.slice A n c).ownBlock=some g∨g=(w3.alloc o).heap.size) :
  CS (w.heap.size+1) w9 (some ⟨g,0,none⟩) (n+1) cap (done++[prV id]) (xs++[.int .u8 25,.int .u64 0,.string ⟨#[]⟩,.slice A3 l3 c3]):=by
 rw[zqM] at hN;exact zj9 kA h kW hN Hf hg gT
theorem TM.size6 {w w5 w6:World}{x0 x1 x2 x3 x4:Value}{o:Obj}(h:TM w w5 x0 x1 x2 x3 x4)(_:Below (w5.alloc o).heap.size (w5.alloc o) w6):w.heap.size < (w5.alloc o).heap.size:=by have:=h.bx.lt;simp;omega
theorem zug {w w5 w6 w9:World}{x0 x1 x2 x3 x4:Value}{v:V}(_:w.heap.size < w5.heap.size){o5:Obj}(kA:w.heap.size < (w5.alloc o5).heap.size)(_:TM w w6 x0 x1 x2 x3 x4){us:List V}{A3:Oz}{l3 c3:Nat}(hN:Nw (w5.alloc o5).heap.size w6 us A3 l3 c3){o:Obj}{g cap:Nat}
  (Hf:w9.ownsRow (w.heap.size+1) 43 4 (.slice (some ⟨g,0,none⟩) (0+1) cap) (0+1) ([]++[.int .u8 25,.int .u64 0,.string ⟨#[]⟩,.slice A3 l3 c3])) (hg:(w6.alloc o).grownBy w9 (Value.slice none 0 0).ownBlock) (gT:(Value.slice none 0 0).ownBlock=some g∨g=(w6.alloc o).heap.size) (hv:v=.mk 25 0 ⟨#[]⟩ us) :
  CS (w.heap.size+1) w9 (some ⟨g,0,none⟩) 1 cap [v] [.int .u8 25,.int .u64 0,.string ⟨#[]⟩,.slice A3 l3 c3]:=by
 subst hv;exact zj9 (A:=none) (n:=0) (c:=0) kA (CS.nil _ _) (fun g h=>by cases h) hN Hf hg gT
theorem zve {p ttl n:Nat}{id:ByteArray}{b:Lz}{k1 n1 k2 n2 k3 n3:Nat}(h1:zc2 (p==4) (.mk 3 p ⟨#[]⟩ [])=.mk k1 n1 ⟨#[]⟩ [])(h2:zc2 (ttl==0) (.mk 5 ttl ⟨#[]⟩ [])=.mk k2 n2 ⟨#[]⟩ [])(h3:zc2 (n==0) (.mk 5 n ⟨#[]⟩ [])=.mk k3 n3 ⟨#[]⟩ []) :
  hdV ⟨p,ttl,n,id,b⟩=.mk 25 0 ⟨#[]⟩ (putL 112 (trim [za3,.mk k1 n1 ⟨#[]⟩ [],.mk k2 n2 ⟨#[]⟩ [],za3,.mk k3 n3 ⟨#[]⟩ []])):=by
 unfold hdV hdL;rw[h1,h2,h3]
theorem zfJ {w w9:World}{A:Oz}{n c:Nat}{vs us:List V}{xs:List Value}(h:CS (w.heap.size+1) w9 A n c vs xs)(hb:Below w.heap.size w w9)(he:vs=us):zrp us w (.returned (.slice A n c)) w9:=by
 subst he;exact⟨A,n,c,rfl,h.nw.less (by omega),hb⟩
theorem zem (p ttl n:Nat)(id:ByteArray)(A:Oz)(l c:Nat)(b:Lz)(w:World)(hp:p < 256)(ht:ttl < 4294967296)(hn:n < 4294967296)(hs:id.size≤134217728)(hl:l≤134217728)(hr:Rd .u8 256 w w.heap.size A l b):Calls prog 24 #[mV p ttl n id A l c] w (zrp (secM ⟨p,ttl,n,id,b⟩) w):=by
 have HT:=zaa (TM.new w (.int .u8 (p:Int)) (.int .u32 (ttl:Int)) (.int .u32 (n:Int)) (.string id) (.slice A l c));have HP:=zaa hp;have QJ:=zaa ht;have qq:=zaa hn;have HS:=zaa hs;have HL:=zaa hl;have jA:=zaa hr;have g1:IntKind.u64.wrap (p:Int)=(p:Int):=by rw[IntKind.wrap_u64];omega
 have g2:IntKind.u64.wrap (ttl:Int)=(ttl:Int):=by rw[IntKind.wrap_u64];omega
 have g3:IntKind.u64.wrap (n:Int)=(n:Int):=by rw[IntKind.wrap_u64];omega
 obtain⟨d1,JU⟩:∃ d,(p==4)=d:=⟨_,rfl⟩;obtain⟨d2,kM⟩:∃ d,(ttl==0)=d:=⟨_,rfl⟩;obtain⟨d3,JF⟩:∃ d,(n==0)=d:=⟨_,rfl⟩;have HH:Hid (hasH ⟨p,ttl,n,id,b⟩=(!d1||(!d2 || !d3))):=zaa (by unfold hasH;rw[JU,kM,JF]);have e1:((p:Int)==4)=d1:=by rw[←JU];exact zj8 p 4
 have e2:((ttl:Int)==0)=d2:=by rw[←kM];exact zj8 ttl 0
 have e3:((n:Int)==0)=d3:=by rw[←JF];exact zj8 n 0
 have f1:((p:Int) != 4) = !d1:=by rw[bne,e1]
 have f2:((ttl:Int) != 0) = !d2:=by rw[bne,e2]
 have f3:((n:Int) != 0) = !d3:=by rw[bne,e3]
 clear hp ht hn hs hl hr JU kM JF;unfold mV;go_enter func24,ntmps24;go_upto_region 2 with fail
 go_cut [16] (fun s wx=>s=.bool (hasH ⟨p,ttl,n,id,b⟩)∧TM w wx (.int .u8 (p:Int)) (.int .u32 (ttl:Int)) (.int .u32 (n:Int)) (.string id) (.slice A l c))
 case first=>
  cases d1<;>cases d2<;>cases d3<;>(go_wp2_with fail;go_meet;exact⟨by rw[HH.out];rfl,HT.out⟩)
 case rest=>
  obtain⟨rfl,hT⟩:=hcut;replace HT:=zaa hT;clear hT e1 e2 e3 f1 f2 f3;cases hh:hasH ⟨p,ttl,n,id,b⟩ with
  | true=>
   go_upto_region 3 with fail
   obtain⟨i0,hi,gE,Hn,gb⟩:=info_parts zdb;go_cut [3] (fun s wx=>∃ A9 c9 xs9,s=.slice A9 1 c9∧CS (w.heap.size+1) wx A9 1 c9 [hdV ⟨p,ttl,n,id,b⟩] xs9∧TM w wx (.int .u8 (p:Int)) (.int .u32 (ttl:Int)) (.int .u32 (n:Int)) (.string id) (.slice A l c))
   case first=>
    have Jm:=HT.out.drew;go_region_held3 (fun wx=>wx.cell? ⟨w.heap.size,0,none⟩=some (.int .u8 (p:Int))∧wx.cell? ⟨w.heap.size,1,none⟩=some (.int .u32 (ttl:Int))∧wx.cell? ⟨w.heap.size,2,none⟩=some (.int .u32 (n:Int))∧TM w wx (.int .u8 (p:Int)) (.int .u32 (ttl:Int)) (.int .u32 (n:Int)) (.string id) (.slice A l c)) (with_reducible first | assumption | exact TM.c3 Jm | exact TM.c3 HT.out | exact TM.c3 GM | exact TM.c3 Gz | exact TM.c3 Gq | exact TM.c3 VI | exact TM.c3 ua | exact TM.c3 (TM.alloc ua _) | exact TM.c3 ub | exact TM.c3 (TM.alloc ub _) | exact TM.c3 jk | fail)
     (first
     | (go_at_call 49;(with_reducible refine(zhw _).mono ?_);rintro e w4 ⟨rfl,gl⟩;have VI:=TM.call Gq gl)
     | (go_at_call 49;(with_reducible refine(zhw _).mono ?_);rintro e w1 ⟨rfl,Ha⟩;have GM:=TM.call (TM.of3 (by with_reducible assumption)) Ha)
     | (go_at_call 50;(with_reducible refine(unl4 p _ HP.out).mono ?_);rintro e w2 ⟨k1,n1,hv1,gF,Gm,rfl,He⟩;have HV1:=zaa hv1;have jP:=zaa gF;have QG:=zaa Gm;clear hv1 gF Gm;have Gz:=TM.call GM He)
     | (go_at_call 50;(with_reducible refine(unl0 n _ qq.out).mono ?_);rintro e w5 ⟨k3,n3,hv3,JX,Vy,rfl,gp⟩;have HV3:=zaa hv3;have QH:=zaa JX;have VF:=zaa Vy;clear hv3 JX Vy;have ua:=TM.call VI gp)
     | (go_at_call 50;(with_reducible refine(unl0 ttl _ QJ.out).mono ?_);rintro e w3 ⟨k2,n2,xr,gR,Kk,rfl,Hj⟩;have HV2:=zaa xr;have jr:=zaa gR;have Vi:=zaa Kk;clear xr gR Kk;have Gq:=TM.call Gz Hj)
     | (go_at_call 48;(with_reducible refine(put112 [za3,.mk k1 n1 ⟨#[]⟩ [],.mk k2 n2 ⟨#[]⟩ [],za3,.mk k3 n3 ⟨#[]⟩ []] _ 5 5 _ (zok n1 n2 n3 k1 k2 k3) (zs3 w5 _ rfl jP.out QG.out jr.out Vi.out QH.out VF.out)).mono ?_);rintro e w6 ⟨A6,l6,c6,rfl,hN6,qm⟩;have ub:=TM.call (TM.alloc ua (.cells #[.int .u8 1,.int .u64 0,.string ⟨#[]⟩,.slice none 0 0,.int .u8 (k1:Int),.int .u64 (n1:Int),.string ⟨#[]⟩,.slice none 0 0,.int .u8 (k2:Int),.int .u64 (n2:Int),.string ⟨#[]⟩,.slice none 0 0,.int .u8 1,.int .u64 0,.string ⟨#[]⟩,.slice none 0 0,.int .u8 (k3:Int),.int .u64 (n3:Int),.string ⟨#[]⟩,.slice none 0 0] 43)) qm;have hge6:=True.intro)
     | (refine step_append_lies _ rfl _ _ 41 rfl (w.heap.size+1) 43 i0 _ 4 56 underlying41 hi gE Hn gb rfl (by omega) _ _ _ rfl (by exact World.ownsRow_nil _ _ _ _) ⟨w6.heap.size,0,none⟩ 1 1 [.int .u8 25,.int .u64 0,.string ⟨#[]⟩,.slice A6 l6 c6] rfl rfl (by exact Val.news4 _ _ _ _ _ _ _ rfl) (fun u hu=>(by simp at hu;rcases hu with rfl | rfl | rfl | rfl<;>rfl)) (by omega) (by unfold maxLen;omega) (by omega) (by have:=(TM.bx ub).lt;simp;omega) _ rfl ?_;intro g9 cap9 w9 Hb Hd Hv Gl;have jk:=TM.grown (TM.alloc ub _) (A:=none) (n:=0) (c:=0) (World.ownsRow_nil _ _ _ _) Hd)
     | fail)
    all_goals
     go_wp2_with fail;go_meet;refine⟨_,_,_,rfl,zug (TM.bx ua).lt (TM.size6 ua qm) ub hN6 Hb Hd Hv (zve HV1.out HV2.out HV3.out),jk⟩
   case rest=>
    obtain⟨A9,c9,xs9,rfl,qI,hT⟩:=hcut;have jS:=zaa qI;replace HT:=zaa hT;clear hT qI;obtain⟨x0,x1,x2,x3,x4,xf⟩:=HT.out.bx.all;by_cases h0:id.size=0
    case pos=>
     have KI:Hid ([hdV ⟨p,ttl,n,id,b⟩]++[daV b]=secM ⟨p,ttl,n,id,b⟩):=zaa (by unfold secM;rw[hh];(first | rw[if_pos rfl] | rw[if_neg ycC]);rw[if_pos h0];rfl);have hd:id.toList.isEmpty=true:=by rw[zbT h0];simp
     clear h0;have Kw:=zbi jS.out.own;have cj:=jS.out.own.lt;go_upto_region 6 with fail
     have Jm:=HT.out.drew;have ku:=zaa (fun wx (h:TM w wx (.int .u8 (p:Int)) (.int .u32 (ttl:Int)) (.int .u32 (n:Int)) (.string id) (.slice A l c))=>zav c (jA.out.call h.low));obtain⟨i0,hi,gE,Hn,gb⟩:=info_parts zdb;go_region_held3 (fun wx=>wx.cell? ⟨w.heap.size,4,none⟩=some (.slice A l c)∧(convert 22 9 (.slice A l c)).run prog wx=.ok (.string (sb b)) wx∧TM w wx (.int .u8 (p:Int)) (.int .u32 (ttl:Int)) (.int .u32 (n:Int)) (.string id) (.slice A l c)) (with_reducible first | assumption | exact TM.c4 Jm (ku.out _ Jm) | exact TM.c4 GM (ku.out _ GM) | exact TM.c4 Gz (ku.out _ Gz) | exact TM.c4 Gq (ku.out _ Gq) | exact TM.c4 (TM.alloc Gq _) (ku.out _ (TM.alloc Gq _)) | exact TM.c4 jk (ku.out _ jk) | fail)
      (first
      | (go_at_call 34;(with_reducible refine(code117 _).mono ?_);rintro e w1 ⟨rfl,Ha⟩;have GM:=TM.call Jm Ha;have gM:=CS.call (CS.drew jS.out) Ha)
      | (go_at_call 35;(with_reducible refine(zhV (sb b) _).mono ?_);rintro e w2 ⟨rfl,He⟩;have Gz:=TM.call GM He;have gY:=CS.call gM He)
      | (go_at_call 51;(with_reducible refine(zhW (sb b) _ (zk9 jA.out HL.out)).mono ?_);rintro e w3 ⟨A3,l3,c3,rfl,Jk,Hj⟩;have Gq:=TM.call Gz Hj;have jK:=CS.call gY Hj)
      | (refine step_append_lies _ rfl _ _ 41 rfl (w.heap.size+1) 43 i0 _ 4 56 underlying41 hi gE Hn gb rfl (by omega) _ _ _ rfl (by exact World.ownsRow.alloc (CS.own jK) _) ⟨w3.heap.size,0,none⟩ 1 1 [.int .u8 25,.int .u64 0,.string ⟨#[]⟩,.slice A3 l3 c3] rfl rfl (by exact Val.news4 _ _ _ _ _ _ _ rfl) (fun u hu=>(by simp at hu;rcases hu with rfl | rfl | rfl | rfl<;>rfl)) (by omega) (by unfold maxLen;omega) (by omega) (by have:=(TM.bx Gq).lt;simp;omega) _ rfl ?_;intro g9 cap9 w9 Hb Hd Hv Gl;have jk:=TM.grown (TM.alloc Gq _) (World.ownsRow.alloc (CS.own jK) _) Hd)
      | fail)
     all_goals
      go_wp2_with fail;go_ret;exact zfJ (zhX (TM.bx Gz).lt jK gY.blk Hj.size Jk Hb Hd Hv) jk.low (KI.out)
    case neg=>
     have hd:id.toList.isEmpty=false:=zdh h0;have KI:Hid (([hdV ⟨p,ttl,n,id,b⟩]++[prV id])++[daV b]=secM ⟨p,ttl,n,id,b⟩):=zaa (by unfold secM;rw[hh];(first | rw[if_pos rfl] | rw[if_neg ycC]);rw[if_neg h0];rfl);clear h0;have Kw:=zbi jS.out.own;have gO:=HT.out.low.size;go_upto_region 5 with fail
     obtain⟨i0,hi,gE,Hn,gb⟩:=info_parts zdb;go_cut [3] (fun s wx=>∃ A8 c8 xs8,s=.slice A8 (1+1) c8∧CS (w.heap.size+1) wx A8 (1+1) c8 ([hdV ⟨p,ttl,n,id,b⟩]++[prV id]) xs8∧TM w wx (.int .u8 (p:Int)) (.int .u32 (ttl:Int)) (.int .u32 (n:Int)) (.string id) (.slice A l c))
     case first=>
      go_wp2_with (first
       | (go_at_call 35;(with_reducible refine(zoj id _).mono ?_);rintro e w1 ⟨rfl,Ha⟩;have GM:=TM.call HT.out Ha;have gM:=CS.call jS.out Ha)
       | (go_at_call 48;(with_reducible refine(put115 [.mk 20 0 id []] _ 1 1 _ (zol HS.out) (kid20 id w1 _ rfl)).mono ?_);rintro e w2 ⟨A2,l2,c2,rfl,k9,He⟩;have Gz:=TM.call (TM.alloc GM (.cells #[.int .u8 20,.int .u64 0,.string id,.slice none 0 0] 43)) He;have gY:=CS.call (CS.alloc gM (.cells #[.int .u8 20,.int .u64 0,.string id,.slice none 0 0] 43)) He)
       | (at_builtin;refine wpList_append_lies _ rfl _ _ 41 rfl (w.heap.size+1) 43 i0 _ 4 56 underlying41 hi gE Hn gb rfl (by omega) _ _ _ rfl (World.ownsRow.alloc (CS.own gY) _) ⟨w2.heap.size,0,none⟩ 1 1 [.int .u8 25,.int .u64 0,.string ⟨#[]⟩,.slice A2 l2 c2] rfl rfl (Val.news4 _ _ _ _ _ _ _ rfl) (fun u hu=>(by simp at hu;rcases hu with rfl | rfl | rfl | rfl<;>rfl)) (by omega) (by unfold maxLen;omega) (by omega) (by have:=(TM.bx Gz).lt;simp;omega) _ rfl ?_;intro g9 cap9 w9 Hb Hd Hv Gl;have jk:=TM.grown (TM.alloc Gz _) (World.ownsRow.alloc (CS.own gY) _) Hd)
       | fail)
      go_meet;exact⟨_,_,_,rfl,zuf (TM.bx (TM.alloc GM (.cells #[.int .u8 20,.int .u64 0,.string id,.slice none 0 0] 43))).lt gY (CS.alloc gM _).blk He.size k9 Hb Hd Hv,jk⟩
     case rest=>
      obtain⟨A8,c8,xs8,rfl,qI,hT⟩:=hcut;replace jS:=zaa qI;replace HT:=zaa hT;clear hT qI;have Kw:=zbi jS.out.own;have cj:=jS.out.own.lt;go_upto_region 6 with fail
      have Jm:=HT.out.drew;have ku:=zaa (fun wx (h:TM w wx (.int .u8 (p:Int)) (.int .u32 (ttl:Int)) (.int .u32 (n:Int)) (.string id) (.slice A l c))=>zav c (jA.out.call h.low));obtain⟨i0,hi,gE,Hn,gb⟩:=info_parts zdb;go_region_held3 (fun wx=>wx.cell? ⟨w.heap.size,4,none⟩=some (.slice A l c)∧(convert 22 9 (.slice A l c)).run prog wx=.ok (.string (sb b)) wx∧TM w wx (.int .u8 (p:Int)) (.int .u32 (ttl:Int)) (.int .u32 (n:Int)) (.string id) (.slice A l c)) (with_reducible first | assumption | exact TM.c4 Jm (ku.out _ Jm) | exact TM.c4 GM (ku.out _ GM) | exact TM.c4 Gz (ku.out _ Gz) | exact TM.c4 Gq (ku.out _ Gq) | exact TM.c4 (TM.alloc Gq _) (ku.out _ (TM.alloc Gq _)) | exact TM.c4 jk (ku.out _ jk) | fail)
       (first
       | (go_at_call 34;(with_reducible refine(code117 _).mono ?_);rintro e w1 ⟨rfl,Ha⟩;have GM:=TM.call Jm Ha;have gM:=CS.call (CS.drew jS.out) Ha)
       | (go_at_call 35;(with_reducible refine(zhV (sb b) _).mono ?_);rintro e w2 ⟨rfl,He⟩;have Gz:=TM.call GM He;have gY:=CS.call gM He)
       | (go_at_call 51;(with_reducible refine(zhW (sb b) _ (zk9 jA.out HL.out)).mono ?_);rintro e w3 ⟨A3,l3,c3,rfl,Jk,Hj⟩;have Gq:=TM.call Gz Hj;have jK:=CS.call gY Hj)
       | (refine step_append_lies _ rfl _ _ 41 rfl (w.heap.size+1) 43 i0 _ 4 56 underlying41 hi gE Hn gb rfl (by omega) _ _ _ rfl (by exact World.ownsRow.alloc (CS.own jK) _) ⟨w3.heap.size,0,none⟩ 1 1 [.int .u8 25,.int .u64 0,.string ⟨#[]⟩,.slice A3 l3 c3] rfl rfl (by exact Val.news4 _ _ _ _ _ _ _ rfl) (fun u hu=>(by simp at hu;rcases hu with rfl | rfl | rfl | rfl<;>rfl)) (by omega) (by unfold maxLen;omega) (by omega) (by have:=(TM.bx Gq).lt;simp;omega) _ rfl ?_;intro g9 cap9 w9 Hb Hd Hv Gl;have jk:=TM.grown (TM.alloc Gq _) (World.ownsRow.alloc (CS.own jK) _) Hd)
       | fail)
      all_goals
       go_wp2_with fail;go_ret;exact zfJ (zhX (TM.bx Gz).lt jK gY.blk Hj.size Jk Hb Hd Hv) jk.low (KI.out)
  | false=>
   have jS:=zaa (CS.nil (w.heap.size+1) wc);obtain⟨x0,x1,x2,x3,x4,xf⟩:=HT.out.bx.all;by_cases h0:id.size=0
   case pos=>
    have KI:Hid ([]++[daV b]=secM ⟨p,ttl,n,id,b⟩):=zaa (by unfold secM;rw[hh];(first | rw[if_pos rfl] | rw[if_neg ycC]);rw[if_pos h0];rfl);have hd:id.toList.isEmpty=true:=by rw[zbT h0];simp
    clear h0;have Kw:=zbi jS.out.own;have cj:=jS.out.own.lt;go_upto_region 6 with fail
    have Jm:=HT.out.drew;have ku:=zaa (fun wx (h:TM w wx (.int .u8 (p:Int)) (.int .u32 (ttl:Int)) (.int .u32 (n:Int)) (.string id) (.slice A l c))=>zav c (jA.out.call h.low));obtain⟨i0,hi,gE,Hn,gb⟩:=info_parts zdb;go_region_held3 (fun wx=>wx.cell? ⟨w.heap.size,4,none⟩=some (.slice A l c)∧(convert 22 9 (.slice A l c)).run prog wx=.ok (.string (sb b)) wx∧TM w wx (.int .u8 (p:Int)) (.int .u32 (ttl:Int)) (.int .u32 (n:Int)) (.string id) (.slice A l c)) (with_reducible first | assumption | exact TM.c4 Jm (ku.out _ Jm) | exact TM.c4 GM (ku.out _ GM) | exact TM.c4 Gz (ku.out _ Gz) | exact TM.c4 Gq (ku.out _ Gq) | exact TM.c4 (TM.alloc Gq _) (ku.out _ (TM.alloc Gq _)) | exact TM.c4 jk (ku.out _ jk) | fail)
     (first
     | (go_at_call 34;(with_reducible refine(code117 _).mono ?_);rintro e w1 ⟨rfl,Ha⟩;have GM:=TM.call Jm Ha;have gM:=CS.call (CS.drew jS.out) Ha)
     | (go_at_call 35;(with_reducible refine(zhV (sb b) _).mono ?_);rintro e w2 ⟨rfl,He⟩;have Gz:=TM.call GM He;have gY:=CS.call gM He)
     | (go_at_call 51;(with_reducible refine(zhW (sb b) _ (zk9 jA.out HL.out)).mono ?_);rintro e w3 ⟨A3,l3,c3,rfl,Jk,Hj⟩;have Gq:=TM.call Gz Hj;have jK:=CS.call gY Hj)
     | (refine step_append_lies _ rfl _ _ 41 rfl (w.heap.size+1) 43 i0 _ 4 56 underlying41 hi gE Hn gb rfl (by omega) _ _ _ rfl (by exact World.ownsRow.alloc (CS.own jK) _) ⟨w3.heap.size,0,none⟩ 1 1 [.int .u8 25,.int .u64 0,.string ⟨#[]⟩,.slice A3 l3 c3] rfl rfl (by exact Val.news4 _ _ _ _ _ _ _ rfl) (fun u hu=>(by simp at hu;rcases hu with rfl | rfl | rfl | rfl<;>rfl)) (by omega) (by unfold maxLen;omega) (by omega) (by have:=(TM.bx Gq).lt;simp;omega) _ rfl ?_;intro g9 cap9 w9 Hb Hd Hv Gl;have jk:=TM.grown (TM.alloc Gq _) (World.ownsRow.alloc (CS.own jK) _) Hd)
     | fail)
    all_goals
     go_wp2_with fail;go_ret;exact zfJ (zhX (TM.bx Gz).lt jK gY.blk Hj.size Jk Hb Hd Hv) jk.low (KI.out)
   case neg=>
    have hd:id.toList.isEmpty=false:=zdh h0;have KI:Hid (([]++[prV id])++[daV b]=secM ⟨p,ttl,n,id,b⟩):=zaa (by unfold secM;rw[hh];(first | rw[if_pos rfl] | rw[if_neg ycC]);rw[if_neg h0];rfl);clear h0;have Kw:=zbi jS.out.own;have gO:=HT.out.low.size;go_upto_region 5 with fail
    obtain⟨i0,hi,gE,Hn,gb⟩:=info_parts zdb;go_cut [3] (fun s wx=>∃ A8 c8 xs8,s=.slice A8 (0+1) c8∧CS (w.heap.size+1) wx A8 (0+1) c8 ([]++[prV id]) xs8∧TM w wx (.int .u8 (p:Int)) (.int .u32 (ttl:Int)) (.int .u32 (n:Int)) (.string id) (.slice A l c))
    case first=>
     go_wp2_with (first
      | (go_at_call 35;(with_reducible refine(zoj id _).mono ?_);rintro e w1 ⟨rfl,Ha⟩;have GM:=TM.call HT.out Ha;have gM:=CS.call jS.out Ha)
      | (go_at_call 48;(with_reducible refine(put115 [.mk 20 0 id []] _ 1 1 _ (zol HS.out) (kid20 id w1 _ rfl)).mono ?_);rintro e w2 ⟨A2,l2,c2,rfl,k9,He⟩;have Gz:=TM.call (TM.alloc GM (.cells #[.int .u8 20,.int .u64 0,.string id,.slice none 0 0] 43)) He;have gY:=CS.call (CS.alloc gM (.cells #[.int .u8 20,.int .u64 0,.string id,.slice none 0 0] 43)) He)
      | (at_builtin;refine wpList_append_lies _ rfl _ _ 41 rfl (w.heap.size+1) 43 i0 _ 4 56 underlying41 hi gE Hn gb rfl (by omega) _ _ _ rfl (World.ownsRow.alloc (CS.own gY) _) ⟨w2.heap.size,0,none⟩ 1 1 [.int .u8 25,.int .u64 0,.string ⟨#[]⟩,.slice A2 l2 c2] rfl rfl (Val.news4 _ _ _ _ _ _ _ rfl) (fun u hu=>(by simp at hu;rcases hu with rfl | rfl | rfl | rfl<;>rfl)) (by omega) (by unfold maxLen;omega) (by omega) (by have:=(TM.bx Gz).lt;simp;omega) _ rfl ?_;intro g9 cap9 w9 Hb Hd Hv Gl;have jk:=TM.grown (TM.alloc Gz _) (World.ownsRow.alloc (CS.own gY) _) Hd)
      | fail)
     go_meet;exact⟨_,_,_,rfl,zuf (TM.bx (TM.alloc GM (.cells #[.int .u8 20,.int .u64 0,.string id,.slice none 0 0] 43))).lt gY (CS.alloc gM _).blk He.size k9 Hb Hd Hv,jk⟩
    case rest=>
     obtain⟨A8,c8,xs8,rfl,qI,hT⟩:=hcut;replace jS:=zaa qI;replace HT:=zaa hT;clear hT qI;have Kw:=zbi jS.out.own;have cj:=jS.out.own.lt;go_upto_region 6 with fail
     have Jm:=HT.out.drew;have ku:=zaa (fun wx (h:TM w wx (.int .u8 (p:Int)) (.int .u32 (ttl:Int)) (.int .u32 (n:Int)) (.string id) (.slice A l c))=>zav c (jA.out.call h.low));obtain⟨i0,hi,gE,Hn,gb⟩:=info_parts zdb;go_region_held3 (fun wx=>wx.cell? ⟨w.heap.size,4,none⟩=some (.slice A l c)∧(convert 22 9 (.slice A l c)).run prog wx=.ok (.string (sb b)) wx∧TM w wx (.int .u8 (p:Int)) (.int .u32 (ttl:Int)) (.int .u32 (n:Int)) (.string id) (.slice A l c)) (with_reducible first | assumption | exact TM.c4 Jm (ku.out _ Jm) | exact TM.c4 GM (ku.out _ GM) | exact TM.c4 Gz (ku.out _ Gz) | exact TM.c4 Gq (ku.out _ Gq) | exact TM.c4 (TM.alloc Gq _) (ku.out _ (TM.alloc Gq _)) | exact TM.c4 jk (ku.out _ jk) | fail)
      (first
      | (go_at_call 34;(with_reducible refine(code117 _).mono ?_);rintro e w1 ⟨rfl,Ha⟩;have GM:=TM.call Jm Ha;have gM:=CS.call (CS.drew jS.out) Ha)
      | (go_at_call 35;(with_reducible refine(zhV (sb b) _).mono ?_);rintro e w2 ⟨rfl,He⟩;have Gz:=TM.call GM He;have gY:=CS.call gM He)
      | (go_at_call 51;(with_reducible refine(zhW (sb b) _ (zk9 jA.out HL.out)).mono ?_);rintro e w3 ⟨A3,l3,c3,rfl,Jk,Hj⟩;have Gq:=TM.call Gz Hj;have jK:=CS.call gY Hj)
      | (refine step_append_lies _ rfl _ _ 41 rfl (w.heap.size+1) 43 i0 _ 4 56 underlying41 hi gE Hn gb rfl (by omega) _ _ _ rfl (by exact World.ownsRow.alloc (CS.own jK) _) ⟨w3.heap.size,0,none⟩ 1 1 [.int .u8 25,.int .u64 0,.string ⟨#[]⟩,.slice A3 l3 c3] rfl rfl (by exact Val.news4 _ _ _ _ _ _ _ rfl) (fun u hu=>(by simp at hu;rcases hu with rfl | rfl | rfl | rfl<;>rfl)) (by omega) (by unfold maxLen;omega) (by omega) (by have:=(TM.bx Gq).lt;simp;omega) _ rfl ?_;intro g9 cap9 w9 Hb Hd Hv Gl;have jk:=TM.grown (TM.alloc Gq _) (World.ownsRow.alloc (CS.own jK) _) Hd)
      | fail)
     all_goals
      go_wp2_with fail;go_ret;exact zfJ (zhX (TM.bx Gz).lt jK gY.blk Hj.size Jk Hb Hd Hv) jk.low (KI.out)
end Me
namespace Me
open Go.RowKit Utf Val Fl Oc V
open Enc hiding za3
def zl (o:Option Lz)(w:World)(e:Ending)(w':World):Prop:=
 match o with
 | none=>e=.returned (.tuple #[.slice none 0 0,.int .i64 1])∧Below w.heap.size w w'
 | some bs=>∃ A m c,e=.returned (.tuple #[.slice A m c,.int .i64 0])∧Utf.Own .u8 256 5 w' w.heap.size A m c bs∧Below w.heap.size w w'
theorem zla {m:M}(h:mayM m=true):∀ v∈secM m,bulk v≤4096:=by
 obtain⟨h1,h2,h3,h4⟩:=zeP h;intro v hv;unfold secM at hv;rcases List.mem_append.1 hv with hv | hv
 ·cases hh:hasH m with
  | true=>
   rw[hh,if_pos rfl] at hv;rw[List.mem_singleton.1 hv];have h:=zhP m;have h2:=zdr (hdL m) (cutN (hdL m) (hdL m).length);simp only[hdV,putL,bulk,zai,trim,sz0];omega
  | false=>rw[hh,if_neg ycC] at hv;cases hv
 ·rcases List.mem_append.1 hv with hv | hv
  ·by_cases hi:m.id.size=0
   ·rw[if_pos hi] at hv;cases hv
   ·rw[if_neg hi] at hv;rw[List.mem_singleton.1 hv];simp only[prV,putL,bulk,zai,sz0];omega
  ·rw[List.mem_singleton.1 hv];simp only[daV,bulk,zai,sz0,zf8];omega
theorem zom (m:M):(secM m).length≤3:=by
 unfold secM;cases hasH m<;>by_cases h:m.id.size=0<;>simp[h]
theorem zon (vs:List V){j:Nat}{v:V}(h:vs[j]? = some v):layL (vs.take (j+1))=layL (vs.take j)++lay (plan v):=by
 rw[List.take_add_one,h,zj6]
 show layL (vs.take j)++(lay (plan v)++[])=_
 rw[List.append_nil]
theorem zqN {vs:List V}(h:∀ v∈vs,bulk v≤4096)(hm:∀ v∈vs,mayB v=true):(layL vs).length≤409600 * vs.length:=by
 induction vs with
 | nil=>simp[layL]
 | cons v vs ih=>
  have h1:=ih (fun x hx=>h x (List.mem_cons_of_mem _ hx)) (fun x hx=>hm x (List.mem_cons_of_mem _ hx));have h2:=zhU v (hm v (by simp));have h3:=h v (by simp)
  show (lay (plan v)++layL vs).length≤_
  simp only[List.length_append,List.length_cons];omega
theorem zuh {v:V}{m:Nat}(h:(lay (plan v)).length=m)(hm:mayB v=true)(hb:bulk v≤4096):m≤409600:=by
 have:=zhU v hm;omega
structure PL (w W wr:World) (vs:List V) (A1:Oz) (l1 c1:Nat) (A:Oz) (n c j:Nat):Prop where
 own:Utf.Own .u8 256 5 wr W.heap.size A n c (layL (vs.take j))
 low:Below W.heap.size W wr
theorem zqO (p ttl n:Nat)(id:ByteArray)(A:Oz)(l c:Nat)(b:Lz)(w:World)(hp:p < 256)(ht:ttl < 4294967296)(hn:n < 4294967296)(hs:id.size≤134217728)(hl:l≤134217728)(hr:Rd .u8 256 w w.heap.size A l b)(Ho:Tab w):Calls prog 11 #[mV p ttl n id A l c] w (zl (putM ⟨p,ttl,n,id,b⟩) w):=by
 have Hg:Below w.heap.size w (w.alloc (.cells #[.int .u8 (p:Int),.int .u32 (ttl:Int),.int .u32 (n:Int),.string id,.slice A l c] 27)):=(za _ _);have HX:=zaa (BxM.new w (.int .u8 (p:Int)) (.int .u32 (ttl:Int)) (.int .u32 (n:Int)) (.string id) (.slice A l c));have uc:=zaa (zqL p ttl n id A l c b (w.alloc (.cells #[.int .u8 (p:Int),.int .u32 (ttl:Int),.int .u32 (n:Int),.string id,.slice A l c] 27)) (by omega) hr.len (Ho.call Hg));have cq:=zaa (fun wx (h:Below w.heap.size w wx)=>zem p ttl n id A l c b wx hp ht hn hs hl (hr.call h));have HT:=zaa Ho;have HB:=zaa Hg;have HTT:=zaa ht;have qq:=zaa hn;unfold mV at uc cq ⊢;cases hm:mayM ⟨p,ttl,n,id,b⟩ with
 | false=>
  have HE:Hid (putM ⟨p,ttl,n,id,b⟩=none):=zaa (if_neg (by rw[hm];exact ycC));rw[hm] at uc;clear Hg hp ht hn hs hl hr Ho hm;go_enter func11,ntmps11;go_wp2_with fail
  (with_reducible refine uc.out.mono ?_)
  rintro e w1 ⟨rfl,Ha⟩;have Hl:=zaa (zad HB.out Ha);clear Ha;go_wp2;refine bodyPost_ret (v:=.tuple #[.slice none 0 0,.int .i64 1]) (by simp[results,results11,go_sem]) rfl ?_;rw[HE.out];exact⟨rfl,Hl.out⟩
 | true=>
  have HE:Hid (putM ⟨p,ttl,n,id,b⟩=some (layL (secM ⟨p,ttl,n,id,b⟩))):=zaa (if_pos hm);rw[hm] at uc;have HSG:=zaa (zhR hm ht hn);have HSB:=zaa (zla hm);have HSL:=zaa (zom ⟨p,ttl,n,id,b⟩);have xC:Hid (∀ j,(layL ((secM ⟨p,ttl,n,id,b⟩).take j)).length≤1228800):=zaa (fun j=>by
   have h1:=zqN (vs:=(secM ⟨p,ttl,n,id,b⟩).take j) (fun v hv=>zla hm v (List.mem_of_mem_take hv)) (fun v hv=>(zhR hm ht hn v (List.mem_of_mem_take hv)).1.1);have h2:=zom ⟨p,ttl,n,id,b⟩;rw[List.length_take] at h1;omega)
  obtain⟨vs,hvs⟩:∃ vs,secM ⟨p,ttl,n,id,b⟩=vs:=⟨_,rfl⟩;rw[hvs] at HE HSG HSB HSL xC cq;clear Hg hp ht hn hs hl hr Ho hm hvs;go_enter func11,ntmps11;go_wp2_with fail
  (with_reducible refine uc.out.mono ?_)
  rintro e w1 ⟨rfl,Ha⟩;obtain⟨x0,x1,x2,x3,x4,xf⟩:=(HX.out.call Ha).all;have Hl:=zaa (zad HB.out Ha);clear Ha;go_wp2_with fail
  (with_reducible refine(cq.out _ Hl.out).mono ?_)
  rintro e W ⟨A1,l1,c1,rfl,hN,Jh⟩;have hlen:=hN.len;have HN:=zaa hN.kd;have gC:=zaa (zad Hl.out Jh);have Xo:=zaa (HT.out.call (zad Hl.out Jh));have hl3:l1≤3:=by rw[hlen];exact HSL.out
  have HLV:=zaa hlen;clear Jh hN hlen x0 x1 x2 x3 x4 xf;go_wp2_with fail;go_loopw [4,15] (fun s4 s15 wr=>∃ (j:Nat) (A4:Oz) (n4 c4:Nat),j≤l1∧s15=.int .i64 (j:Nat)∧s4=.slice A4 n4 c4∧PL w W wr vs A1 l1 c1 A4 n4 c4 j) (fun _ i _=>l1 - (intOf i).toNat)
  case atStart=>exact⟨0,none,0,0,by omega,rfl,rfl,⟨Utf.Own.nil _ _ _ _ _,Below.refl _ _⟩⟩
  case round=>
   obtain⟨j,A4,n4,c4,hj,rfl,rfl,hP⟩:=hrel;have HP:=zaa hP;by_cases Hi:j < l1
   ·obtain⟨g,o,k,m,t,ks,A',l',c',rfl,Kz,hx,y0,y1,y2,y3,hk,hm,hK⟩:=(HN.out.call hP.low).at_ Hi;have J':V.mk k m t ks∈vs:=List.mem_of_getElem? hx;have HG:=zaa (HSG.out _ J');have Xy:=zaa (HSB.out _ J');have H':=zaa hk;have YM:=zaa hm;have HK:=zaa hK;have HXX:=zaa hx;have jf:=zaa Hi;have QK:Hid (n4≤1228800):=zaa (by rw[←hP.own.len];exact xC.out j);have bA:=zaa (Xo.out.call hP.low);have gO:=hP.low.size;clear J' hk hm hK hx hP;go_wp2_with (first
     | (go_at_call 25;(with_reducible refine(zqK k m t ks A' l' c' _ HG.out.2 (Nat.le_trans Xy.out (by omega)) H'.out YM.out (HK.out.call ((za _ _))) (bA.out.call ((za _ _)))).mono ?_);rintro e w3 ⟨A3,m3,c3,rfl,hO3,Hj⟩;have kS:m3≤409600:=zuh hO3.len HG.out.1.1 Xy.out;have gl:Below wr.heap.size wr w3:=((za _ _)).trans (Hj.mono (by simp)))
     | (at_builtin;refine zcd (base:=W.heap.size) rfl _ _ rfl rfl (HP.out.own.below gl) rfl hO3.rd (by have:=QK.out;omega) (by have:=gl.size;omega) ?_;intro A5 c5 w5 VJ j4)
     | fail)
    go_roundw
    case rel=>
     refine⟨j+1,A5,n4+m3,c5,jf.out,by go_num,rfl,⟨?_,?_⟩⟩
     ·rw[zon vs HXX.out];exact VJ
     ·exact(HP.out.low.trans (gl.mono gO)).trans (zau (HP.out.own.below gl) j4 (by have:=gl.size;omega))
    case measure=>(have:=jf.out;simp[intOf];omega)
   ·have Vq:j=l1:=by omega
    have HO:Hid (Utf.Own .u8 256 5 wr w.heap.size A4 n4 c4 (layL vs)):=zaa (by
     have h1:=hP.own;rw[List.take_of_length_le (by have:=HLV.out;omega)] at h1;exact h1.mono gC.out.size)
    have HLW:=zaa (gC.out.trans (hP.low.mono gC.out.size));clear hP Vq;go_wp2;refine bodyPost_ret (v:=.tuple #[.slice A4 n4 c4,.int .i64 0]) (by simp[results,results11,go_sem]) rfl ?_;rw[HE.out];exact⟨A4,n4,c4,rfl,HO.out,HLW.out⟩
end Me
end Go.Proofs.YtbbbanfggcediaaGreatDoor
