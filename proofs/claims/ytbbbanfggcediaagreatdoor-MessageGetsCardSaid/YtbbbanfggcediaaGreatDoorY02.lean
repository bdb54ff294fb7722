/- Contracts, each with its premises. -/
import Derived.Test.YtbbbanfggcediaaGreatDoorY01
import Derived.Deep.LoopGhost
import Derived.Deep.RegionHeld3
import Derived.BigRegion
import Derived.Deep.DeepCutAuto
import Derived.Deep.CutRange
import Derived.Deep.RegionWith
import Derived.Deep.RegionLaw
set_option maxRecDepth 100000
set_option maxHeartbeats 8000000
namespace Go.Proofs.YtbbbanfggcediaaGreatDoor
open _root_.Go.Proofs.Tryz
open Go.RowKit.Below renaming heap_setCell→yaw,heap_alloc→yaz
open List renaming length_append→yav,length_cons→yax,eq_nil_of_length_eq_zero→yay,append_assoc→yaA,length_nil→yaB,getElem?_append_right→yaC
open Nat renaming lt_of_lt_of_le→yau,zero_add→yaD,add_zero→yaE
namespace Val
open Go.RowKit Utf V
theorem zpb:(prog.info? 108).map (fun i=>(i.zero,i.size,i.bytes))=some (some (.agg #[.slice none 0 0,.slice none 0 0]),2,48):=by kernel_rfl
structure SE where
 A:Oz
 l:Nat
 c:Nat
 ks:List V
def SE.val (s:SE):Value:=.slice s.A s.l s.c
def pflat (st:List (SE×SE)):List Value:=st.flatMap fun p=>[p.1.val,p.2.val]
theorem zfQ (st:List (SE×SE)):(pflat st).length=st.length * 2:=by
 induction st with
 | nil=>rfl
 | cons p st ih=>simp only[pflat,List.flatMap_cons,yav,yax,yaB] at ih ⊢;omega
theorem zbV (a b:List (SE×SE)):pflat (a++b)=pflat a++pflat b:=by simp[pflat]
theorem zfR (x y:SE):pflat [(x,y)]=[x.val,y.val]:=rfl
def pweight (st:List (SE×SE)):Nat:=(st.map fun p=>2 * zah p.1.ks+1).sum
theorem zbG (st:List (SE×SE))(x y:SE):pweight (st++[(x,y)])=pweight st+2 * zah x.ks+1:=by simp[pweight];omega
def psame (st:List (SE×SE)):Bool:=st.all fun p=>zbZ p.1.ks p.2.ks
theorem zdB (st:List (SE×SE))(x y:SE):psame (st++[(x,y)])=(psame st&&zbZ x.ks y.ks):=by simp[psame]
structure PS (w wr:World) (A:Oz) (n c:Nat) (st:List (SE×SE)) (q:Bool) (g:Nat):Prop where
 len:st.length=n
 own:wr.ownsRow w.heap.size 108 2 (.slice A n c) n (pflat st)
 ok:∀ p∈st,Kids false wr (fun i=>i < w.heap.size) p.1.ks p.1.A p.1.l p.1.c∧Kids false wr (fun i=>i < w.heap.size) p.2.ks p.2.A p.2.l p.2.c∧p.1.l=p.2.l
 hq:q=psame st
 hg:pweight st≤g
 below:Below w.heap.size w wr
 small:n≤g+1∧g≤4294967296
theorem Box.drew {w:World}{g:Nat}{x0 x1 x2 x3:Value}(h:Box w g x0 x1 x2 x3):Box w.drew g x0 x1 x2 x3:=h
theorem Box.new2 (w:World)(o:Obj)(x0 x1 x2 x3:Value):Box ((w.alloc o).alloc (.cells #[x0,x1,x2,x3] 43)) (w.heap.size+1) x0 x1 x2 x3:=by
 have:=Box.new (w.alloc o) x0 x1 x2 x3
 rwa [World.size_alloc] at this
theorem zbR {w w':World}(h:Below w.heap.size w w'):w.grownBy w' none:=⟨h.os,h.tape,h.output,h.size,fun k hk _=>h.block k hk⟩
theorem PS.call {w wr w':World}{A:Oz}{n c:Nat}{st:List (SE×SE)}{q:Bool}{g:Nat}(h:PS w wr A n c st q g)(hb:Below wr.heap.size wr w'):PS w w' A n c st q g:=
 ⟨h.len,h.own.kept (zbR hb) (by cases hv:(Value.slice A n c).ownBlock<;>simp),fun p hp=>by
  obtain⟨h1,h2,h3⟩:=h.ok p hp;exact⟨h1.keep fun i hi=>hb.block i (yau hi h.below.size),h2.keep fun i hi=>hb.block i (yau hi h.below.size),h3⟩,h.hq,h.hg,zad h.below hb,h.small⟩
theorem PS.next {w wr:World}{G m c:Nat}{rest:List (SE×SE)}{x y x' y':SE}{q:Bool}{g:Nat}(h:PS w wr (some ⟨G,0,none⟩) (m+1) c (rest++[(x,y)]) q g)(hl:rest.length=m)(hG:w.heap.size≤G)
  (hx:Kids false wr (fun i=>i < w.heap.size) x'.ks x'.A x'.l x'.c) (hy:Kids false wr (fun i=>i < w.heap.size) y'.ks y'.A y'.l y'.c) (qi:x'.l=y'.l) {k:Nat} (hk:zah x'.ks+k≤zah x.ks) :
  PS w ((wr.setCell ⟨G,m * 2,none⟩ x'.val).setCell ⟨G,m * 2+1,none⟩ y'.val) (some ⟨G,0,none⟩) (m+1) c (rest++[(x',y')]) (psame (rest++[(x',y')])) (g - 2 * k):=by
 have Hf:=h.own;rw[zbV,zfR] at Hf;have GV:(pflat rest).length=m * 2:=by rw[zfQ,hl]
 have h1:=(Hf.stored (m * 2) x'.val).1;have h2:=(h1.stored (m * 2+1) y'.val).1;have e:((pflat rest++[x.val,y.val]).set (m * 2) x'.val).set (m * 2+1) y'.val=pflat (rest++[(x',y')]):=by
  rw[zbV,zfR,List.set_append_right _ _ (by omega),GV,List.set_append_right _ _ (by omega),GV,Nat.sub_self,show m * 2+1 - m * 2=1 by omega];rfl
 rw[e] at h2;have hg:=h.hg;rw[zbG] at hg;have hs:=h.small;have gR:∀ i,i < w.heap.size→((wr.setCell ⟨G,m * 2,none⟩ x'.val).setCell ⟨G,m * 2+1,none⟩ y'.val).heap[i]? = wr.heap[i]?:=fun i hi=>
  (yaw _ _ _ _ (show i≠G by omega)).trans (yaw _ _ _ _ (show i≠G by omega))
 refine⟨by simp[hl],h2,fun p hp=>?_,rfl,by rw[zbG];omega,(h.below.setCell (p:=⟨G,m * 2,none⟩) hG _).setCell (p:=⟨G,m * 2+1,none⟩) hG _,?_⟩
 ·rcases List.mem_append.1 hp with hp | hp
  ·obtain⟨a1,a2,a3⟩:=h.ok p (by simp[hp]);exact⟨a1.keep gR,a2.keep gR,a3⟩
  ·simp at hp;subst hp;exact⟨hx.keep gR,hy.keep gR,qi⟩
 ·have:m≤pweight rest:=by
   rw[←hl];clear hg hs gR e h2 h1 GV Hf qi hx hy hG hl h hk
   induction rest with
   | nil=>simp
   | cons p r ih=>simp[pweight] at ih ⊢;omega
  omega
theorem PS.push {w w5 w6:World}{A5:Oz}{n c:Nat}{st:List (SE×SE)}{q:Bool}{g:Nat}(h:PS w w5 A5 n c st q g)(x y:SE)
  (hx:Kids false w5 (fun i=>i < w.heap.size) x.ks x.A x.l x.c) (hy:Kids false w5 (fun i=>i < w.heap.size) y.ks y.A y.l y.c) (qi:x.l=y.l) {g' cap:Nat}
  (Hf:w6.ownsRow w.heap.size 108 2 (.slice (some ⟨g',0,none⟩) (n+1) cap) (n+1) (pflat st++[x.val,y.val])) (o:Obj) (hg:(w5.alloc o).grownBy w6 (Value.slice A5 n c).ownBlock) {gn:Nat} (hw:g+2 * zah x.ks+1≤gn) (hgn:gn≤4294967296) :
  PS w w6 (some ⟨g',0,none⟩) (n+1) cap (st++[(x,y)]) (psame (st++[(x,y)])) gn:=by
 have KP:=h.own.lt;have Jd:=h.below.size;have hk:∀ i,i < w.heap.size→w6.heap[i]? = w5.heap[i]?:=fun i hi=>
  (hg.block i (by simp;omega) (fun e=>by have:=(KP i e.symm).1;omega)).trans (yaz _ _ _ (by omega))
 refine⟨by simp[h.len],by rw[zbV];exact Hf,fun p hp=>?_,rfl,by rw[zbG];have:=h.hg;omega,(h.below.alloc Jd o).grown hg (by simp;omega) (fun k hk=>(KP k hk).1),?_⟩
 ·rcases List.mem_append.1 hp with hp | hp
  ·obtain⟨a1,a2,a3⟩:=h.ok p hp;exact⟨a1.keep hk,a2.keep hk,a3⟩
  ·simp at hp;subst hp;exact⟨hx.keep hk,hy.keep hk,qi⟩
 ·have:=h.small;omega
theorem news2 (w:World)(x y:Value)(e:TypeId):∀ j u,[x,y][j]? = some u→(w.alloc (.cells #[x,y] e)).cell? ((⟨w.heap.size,0,none⟩:Addr).add j)=some u:=by
 intro j u hu;have hj:j < 2:=(List.getElem?_eq_some_iff.1 hu).1;obtain rfl | rfl:j=0∨j=1:=by omega
 ·rw[←hu];simp[Addr.add]
 ·rw[←hu];simp[Addr.add]
theorem zgI (k n:Nat)(t:ByteArray)(ks:List V)(k' n':Nat)(t':ByteArray)(ks':List V):same (.mk k n t ks) (.mk k' n' t' ks')=(zce k k' n n' t t' ks.length ks'.length&&zbZ ks ks'):=by
 rw[Bool.eq_iff_iff];simp only[same,zce,Bool.and_eq_true,beq_iff_eq,zfO];refine⟨fun h=>⟨⟨h.1,by rw[h.2]⟩,h.2⟩,fun h=>⟨h.1.1,h.2⟩⟩
theorem PS.pop {w wr:World}{A:Oz}{m c:Nat}{rest:List (SE×SE)}{x y:SE}{q:Bool}{g:Nat}(h:PS w wr A (m+1) c (rest++[(x,y)]) q g)(hl:rest.length=m)(hx:x.l=0):PS w wr A m c rest q (g - 1):=by
 obtain⟨h1,h2,h3⟩:=h.ok (x,y) (by simp);have e1:x.ks=[]:=yay (by rw[←h1.len];exact hx);have e2:y.ks=[]:=yay (by rw[←h2.len,←h3];exact hx);have Hf:=h.own;rw[zbV] at Hf;have hg:=h.hg;rw[zbG] at hg;have hs:=h.small;refine⟨hl,zmr Hf (by rw[zfQ,hl]) (by omega),fun p hp=>h.ok p (by simp[hp]),?_,by omega,h.below,by omega⟩;rw[h.hq,zdB,e1,e2];simp[zbZ]
theorem zlx (k n:Nat)(t:ByteArray)(ks:List V)(A:Oz)(l c:Nat)(k' n':Nat)(t':ByteArray)(ks':List V)(A':Oz)(l' c':Nat)(w:World)(hN:zai ks≤1073741824)(hK:Kd w ks A l c)(gV:Kd w ks' A' l' c') :
  Calls prog 33 #[.agg #[.int .u8 k,.int .u64 n,.string t,.slice A l c],.agg #[.int .u8 k',.int .u64 n',.string t',.slice A' l' c']] w (zaj (zce k k' n n' t t' l l'&&zbZ ks ks') w):=by
 have j1:=zaw w (.cells #[.int .u8 k,.int .u64 n,.string t,.slice A l c] 43) (.cells #[.int .u8 k',.int .u64 n',.string t',.slice A' l' c'] 43);have gH:=(Box.new w (.int .u8 k) (.int .u64 n) (.string t) (.slice A l c)).alloc (.cells #[.int .u8 k',.int .u64 n',.string t',.slice A' l' c'] 43);have G5:=Box.new (w.alloc (.cells #[.int .u8 k,.int .u64 n,.string t,.slice A l c] 43)) (.int .u8 k') (.int .u64 n') (.string t') (.slice A' l' c');go_enter func33,ntmps33;go_wp2_with fail;refine(zeh k n t A l c k' n' t' A' l' c' _).mono ?_;rintro e w1 ⟨rfl,Ha⟩;have He:=zad j1 Ha;obtain⟨_,_,_,c13,_⟩:=(gH.call Ha).all;obtain⟨_,_,_,c23,_⟩:=(G5.call Ha).all;cases hq:zce k k' n n' t t' l l' with
 | false=>
  go_wp2;go_ret;exact⟨by rw[hq];rfl,He⟩
 | true=>
  have HQ:=zaa (zgH hq);have HA:=zaa hq;have gu:=Ha.size;simp only[World.size_alloc] at gu c23;clear hq;go_wp2;have Qb:=zbU ks;have hPS:PS w (w1.alloc (.cells #[.slice A l c,.slice A' l' c'] 108)) (some ⟨w1.heap.size,0,none⟩) 1 1 [(⟨A,l,c,ks⟩,⟨A',l',c',ks'⟩)] (zbZ ks ks') (2 * zah ks+1):=
   ⟨rfl,by have:=World.ownsRow_lit (e:=108) (size:=2) (base:=w.heap.size) w1 #[.slice A l c,.slice A' l' c'] 1 (by omega) (by unfold maxLen;omega) rfl;simpa [pflat,SE.val] using this,
    fun p hp=>by
     simp at hp;subst hp;exact⟨Kids.keep hK (fun i hi=>(He.alloc (by omega) _).block i hi),Kids.keep gV (fun i hi=>(He.alloc (by omega) _).block i hi),HQ.out.2.2.2⟩,
    by simp[psame],by simp[pweight],He.alloc (by omega) _,by omega⟩
  go_loopg [5] (2 * zah ks+1) (fun g s wr=>∃ A1 n1 c1 st,s=.slice A1 n1 c1∧PS w wr A1 n1 c1 st (zbZ ks ks') g)
  case atStart=>exact⟨_,_,_,_,rfl,hPS⟩
  case round=>
   obtain⟨A1,n1,c1,st,rfl,hS⟩:=hrel;clear hPS gH G5 j1 Ha He gu c13 c23;rcases Nat.eq_zero_or_pos n1 with rfl | Gm
   ·have gr:st=[]:=yay hS.len;subst gr;have HR:=zaa hS.hq;have hb:=hS.below;clear hS;go_wp2;go_ret;exact⟨by rw[HA.out,HR.out];rfl,hb⟩
   ·obtain⟨m,rfl⟩:∃ m,n1=m+1:=⟨n1 - 1,by omega⟩;obtain⟨rest,x,y,rfl⟩:∃ rest x y,st=rest++[(x,y)]:=by
     have Hp:st≠[]:=fun e=>by have:=hS.len;rw[e] at this;simp at this
     exact⟨st.dropLast,(st.getLast Hp).1,(st.getLast Hp).2,by have:=List.dropLast_concat_getLast Hp;exact this.symm⟩
    have hlen:rest.length=m:=by have:=hS.len;simp at this;omega
    obtain⟨G,rfl,yO,xZ⟩:=zhg hS.own (by omega);have hsm:=hS.small;have JT:1≤gk:=by have:=hS.hg;rw[zbG] at this;omega
    have own:=hS.own;rw[zbV,zfR] at own;have GV:(pflat rest).length=m * 2:=by rw[zfQ,hlen]
    have ct0:wr.cell? ⟨G,m * 2,none⟩=some x.val:=by rw[own.cellAt (m * 2) (by omega),yaC (by omega),GV];simp
    have ct1:wr.cell? ⟨G,m * 2+1,none⟩=some y.val:=by rw[own.cellAt (m * 2+1) (by omega),yaC (by omega),GV];simp
    have fz:∀ j,wr.frozen? ⟨G,j,none⟩=false:=own.frozenAt;have KX:=zbi own;obtain⟨hx,hy,qi⟩:=hS.ok (x,y) (by simp);obtain⟨xA,xl,xc,xk⟩:=x;obtain⟨yA,yl,yc,yk⟩:=y;simp only[SE.val] at ct0 ct1 hx hy qi own;subst qi;have HL:=zaa hlen;have HF:=zaa GV;clear hlen GV;rcases Nat.eq_zero_or_pos xl with rfl | yP
    ·obtain⟨gu,Gw⟩:=zjI underlying109 (show prog.elem 109=108 by kernel_rfl) (show (prog.info? 108).map (·.size)=some 2 by kernel_rfl) (some ⟨G,0,none⟩) (m+1) c1 m (by omega) KX;have uH:=gu wr (m:Int) rfl;have uI:=Gw wr (m:Int) rfl;clear gu Gw;go_wp2;go_roundg (gk - 1)
     case measure=>omega
     case rel=>exact⟨_,_,_,_,rfl,hS.pop HL.out rfl⟩
    ·obtain⟨b,o,k1,n1,t1,ks1,B1,l1,d1,rfl,Ha,GJ,h0,h1,h2,h3,gF,Gm,kK⟩:=Kids.at_ hx yP;obtain⟨b',o',k2,n2,t2,ks2,B2,l2,d2,rfl,He,GQ,qh,YD,xY,YE,gR,Kk,kE⟩:=Kids.at_ hy yP;simp only[Nat.zero_mul,yaE] at h0 h1 h2 h3 qh YD xY YE;have Hu:=hS.below.size;have jG:b < wr.heap.size:=yau Ha Hu;have QX:b' < wr.heap.size:=yau He Hu;have hxI:(0:Int) < (xl:Int):=by omega
     have kR:=zaa GJ;have kL:=zaa GQ;clear GJ GQ hN;obtain⟨C1,e1,UK,QY,QZ,XO⟩:=zhh (some ⟨b,o,none⟩) xl xc 1 (by omega) hx.cap;obtain⟨C2,e2,yQ,uJ,uK,Ca⟩:=zhh (some ⟨b',o',none⟩) xl yc 1 (by omega) hy.cap;have sx1:=fun W=>QY W 1 rfl;have sx2:=fun W=>QZ W 1 rfl;have sy1:=fun W=>uJ W 1 rfl;have sy2:=fun W=>uK W 1 rfl;clear QY QZ uJ uK;go_upto_region 8 with fail
     go_cut [7,8] (fun s7 s8 wx=>∃ gx gy,s7=.pointer (some ⟨gx,0,none⟩)∧s8=.pointer (some ⟨gy,0,none⟩)∧Box wx gx (.int .u8 k1) (.int .u64 n1) (.string t1) (.slice B1 l1 d1)∧Box wx gy (.int .u8 k2) (.int .u64 n2) (.string t2) (.slice B2 l2 d2)∧wr.heap.size≤gx∧wr.heap.size≤gy∧Below wr.heap.size wr wx)
     case first=>
      go_region
      ·go_wp2_with fail;go_meet;exact⟨_,_,rfl,rfl,((Box.new wr _ _ _ _).alloc _).drew,(Box.new2 wr _ _ _ _ _).drew,by omega,by omega,(zaw _ _ _).drew⟩
      ·go_wp2_with fail;go_meet;exact⟨_,_,rfl,rfl,(Box.new2 wr _ _ _ _ _).drew,((Box.new wr _ _ _ _).alloc _).drew,by omega,by omega,(zaw _ _ _).drew⟩
     case rest=>
      obtain⟨gx,gy,rfl,rfl,Hz,KO,hgx,hgy,Qy⟩:=hcut;have vX:=hS.call Qy;have cw0:=(Qy.cell (p:=⟨G,m * 2,none⟩) xZ).trans ct0;have cw1:=(Qy.cell (p:=⟨G,m * 2+1,none⟩) xZ).trans ct1;have fw:∀ j,wc.frozen? ⟨G,j,none⟩=false:=fun j=>(Qy.frozen (p:=⟨G,j,none⟩) xZ).trans (fz j);have vY:=Qy.size;have uL:gx≠G:=by omega
      have uM:gy≠G:=by omega
      obtain⟨wz,vZ⟩:∃ wz,wz=(wc.setCell ⟨G,m * 2,none⟩ (.slice C1 (xl - 1) e1)).setCell ⟨G,m * 2+1,none⟩ (.slice C2 (xl - 1) e2):=⟨_,rfl⟩;obtain⟨xt,V'⟩:∃ xt,xk.drop 1=xt:=⟨_,rfl⟩;obtain⟨yt,hyt⟩:∃ yt,yk.drop 1=yt:=⟨_,rfl⟩;have qH:=zaa V';have HYT:=zaa hyt;clear V' hyt;have yR:=vX.next (x':=⟨C1,xl - 1,e1,xt⟩) (y':=⟨C2,xl - 1,e2,yt⟩) HL.out yO
       (qH.out▸XO _ _ _ _ (hx.keep fun i hi=>Qy.block i (yau hi Hu))) (HYT.out▸Ca _ _ _ _ (hy.keep fun i hi=>Qy.block i (yau hi Hu))) rfl
       (k:=zah ks1+1) (by have:=zbB kR.out;rw[List.drop_zero,qH.out] at this;rw[this];simp only[zah,items];omega)
      have G8:=(Hz.far (p:=⟨G,m * 2,none⟩) uL (.slice C1 (xl - 1) e1)).far (p:=⟨G,m * 2+1,none⟩) uL (.slice C2 (xl - 1) e2);have VQ:=(KO.far (p:=⟨G,m * 2,none⟩) uM (.slice C1 (xl - 1) e1)).far (p:=⟨G,m * 2+1,none⟩) uM (.slice C2 (xl - 1) e2);have hw3:wz.heap.size=wc.heap.size:=by rw[vZ];simp
      simp only[SE.val] at yR;rw[←vZ] at yR G8 VQ;obtain⟨x30,x31,x32,x33,_⟩:=G8.all;obtain⟨y30,y31,y32,y33,_⟩:=VQ.all;have HW3:=zaa hw3;clear hw3;go_wp2_with fail;go_region;rw[←vZ];have HWZ:=zaa vZ;clear vZ;go_wp2_with fail;refine(zeh k1 n1 t1 B1 l1 d1 k2 n2 t2 B2 l2 d2 wz.drew).mono ?_;rintro e w5 ⟨rfl,gp⟩;have JE:=(yR.call (Below.refl _ _).drew).call gp;obtain⟨_,_,_,x53,_⟩:=(G8.drew.call gp).all;obtain⟨_,_,_,y53,_⟩:=(VQ.drew.call gp).all;have Vr:Hid (zbZ ks ks'=((zce k1 k2 n1 n2 t1 t2 l1 l2&&zbZ ks1 ks2)&&psame (rest++[(⟨C1,xl - 1,e1,xt⟩,⟨C2,xl - 1,e2,yt⟩)]))):=zaa (by
       have a1:=zbB kR.out;have a2:=zbB kL.out;rw[List.drop_zero,qH.out] at a1;rw[List.drop_zero,HYT.out] at a2;rw[hS.hq,zdB,zdB,show zbZ xk yk=(same (.mk k1 n1 t1 ks1) (.mk k2 n2 t2 ks2)&&zbZ xt yt) by conv=>lhs;rw[a1,a2,zbZ]];rw[zgI,kK.len,kE.len];cases psame rest<;>cases zce k1 k2 n1 n2 t1 t2 ks1.length ks2.length<;>simp)
      have xa:pweight rest+2 * zah xk+1≤gk:=by have:=hS.hg;rwa [zbG] at this
      have Gx:zah ks1+1≤zah xk:=by
       have a1:=zbB kR.out;rw[List.drop_zero] at a1;rw[a1];simp only[zah,items];omega
      have kY:Below w.heap.size wr wz:=by
       rw[HWZ.out];exact((Qy.mono Hu).setCell (p:=⟨G,m * 2,none⟩) yO _).setCell (p:=⟨G,m * 2+1,none⟩) yO _
      have Q1:Below w.heap.size wr w5:=kY.drew.trans (gp.mono (by have:=kY.size;simp;omega));have XP:Kids false w5 (fun i=>i < w.heap.size) ks1 B1 l1 d1:=kK.keep fun i hi=>Q1.block i hi;have XR:Kids false w5 (fun i=>i < w.heap.size) ks2 B2 l2 d2:=kE.keep fun i hi=>Q1.block i hi;clear x30 x31 x32 x33 y30 y31 y32 y33 G8 VQ Hz KO;cases hq:zce k1 k2 n1 n2 t1 t2 l1 l2 with
      | false=>
       rw[hq,Bool.false_and,Bool.false_and] at Vr;have hb:=JE.below;clear hq JE yR vX hS kY Q1 XP XR Qy gp;go_wp2;go_ret;exact⟨by rw[Vr.out,Bool.and_false];rfl,hb⟩
      | true=>
       rw[hq,Bool.true_and] at Vr;obtain⟨_,_,_,Qc⟩:=zgH hq;subst Qc;clear hq;rcases Nat.eq_zero_or_pos l1 with h0l | jv
       ·subst h0l;have e1k:ks1=[]:=yay kK.len.symm;have e2k:ks2=[]:=yay kE.len.symm;subst e1k;subst e2k;have Xa:=Vr.out;simp only[zbZ,Bool.true_and] at Xa;have HS:=zaa (show PS w w5 _ _ _ _ (zbZ ks ks') _ from Xa▸JE);clear Vr Xa JE yR vX hS kY Q1 XP XR Qy gp own;go_wp2;go_roundg (gk - 2 * (zah []+1))
        case measure=>omega
        case rel=>exact⟨_,_,_,_,rfl,HS.out⟩
       ·have hl1I:decide ((0:Int) < (l1:Int))=true:=by simp;omega
        have HS:=zaa JE;have Kv:=JE.own;have Jd:=JE.below.size;have hm4:m+1≤4294967297:=by omega
        clear JE yR vX hS kY Q1 Qy gp own;obtain⟨i0,hi,gE,Hn,gb⟩:=info_parts zpb;go_wp2_with (at_builtin;refine wpList_append_lies _ rfl _ _ 109 rfl w.heap.size 108 i0 _ 2 48 underlying109 hi gE Hn gb rfl (by omega) _ _ _ rfl (Kv.alloc _) ⟨w5.heap.size,0,none⟩ 1 1 [.slice B1 l1 d1,.slice B2 l1 d2] rfl rfl (news2 w5 _ _ _) (fun u hu=>(by simp at hu;rcases hu with rfl | rfl<;>rfl)) (by omega) (by unfold maxLen;omega) (by omega) (by simp;omega) _ rfl ?_;intro g9 cap9 w9 Hb Hd _ _);go_roundg (gk - 1)
        case measure=>omega
        case rel=>
         have h9:=HS.out.push ⟨B1,l1,d1,ks1⟩ ⟨B2,l1,d2,ks2⟩ XP XR rfl Hb _ Hd (gn:=gk - 1) (by simp only;omega) (by omega);rw[zdB,Bool.and_comm,←Vr.out] at h9;exact⟨_,_,_,_,rfl,h9⟩
def zba (w:World)(P:Nat→Prop):List V→List Value→Prop
 | [],xs=>xs=[]
 | .mk k n t ks::vs,xs=>∃ A l c ys,xs=.int .u8 (k:Int)::.int .u64 (n:Int)::.string t::.slice A l c::ys∧k < 256∧n < 18446744073709551616∧Kids true w P ks A l c∧zba w P vs ys
theorem zba.len {w:World}{P:Nat→Prop}:∀ {vs:List V} {xs:List Value},zba w P vs xs→xs.length=vs.length * 4
 | [],xs,h=>by rw[show xs=[] from h];rfl
 | .mk k n t ks::vs,xs,h=>by
  obtain⟨A,l,c,ys,rfl,_,_,_,hr⟩:=h;simp[hr.len];omega
theorem zba.keep {w w':World}{P:Nat→Prop}(hk:∀ i,P i→w'.heap[i]? = w.heap[i]?):∀ {vs:List V} {xs:List Value},zba w P vs xs→zba w' P vs xs
 | [],_,h=>h
 | .mk _ _ _ _::_,_,h=>by
  obtain⟨A,l,c,ys,e,a1,a2,a3,hr⟩:=h;exact⟨A,l,c,ys,e,a1,a2,a3.keep hk,hr.keep hk⟩
theorem zba.mono {w:World}{P P':Nat→Prop}(hk:∀ i,P i→P' i):∀ {vs:List V} {xs:List Value},zba w P vs xs→zba w P' vs xs
 | [],_,h=>h
 | .mk _ _ _ _::_,_,h=>by
  obtain⟨A,l,c,ys,e,a1,a2,a3,hr⟩:=h;exact⟨A,l,c,ys,e,a1,a2,a3.mono hk,hr.mono hk⟩
theorem zba.snoc {w:World}{P:Nat→Prop}{k n:Nat}{t:ByteArray}{ks:List V}{A:Oz}{l c:Nat}(hk:k < 256)(hn:n < 18446744073709551616)(hK:Kids true w P ks A l c) :
  ∀ {vs:List V} {xs:List Value},zba w P vs xs→zba w P (vs++[.mk k n t ks]) (xs++[.int .u8 (k:Int),.int .u64 (n:Int),.string t,.slice A l c])
 | [],xs,h=>by
  rw[show xs=[] from h];exact⟨A,l,c,[],rfl,hk,hn,hK,rfl⟩
 | .mk _ _ _ _::_,_,h=>by
  obtain⟨A',l',c',ys,rfl,a1,a2,a3,hr⟩:=h;exact⟨A',l',c',_,rfl,a1,a2,a3,zba.snoc hk hn hK hr⟩
theorem zba.row {w:World}{P:Nat→Prop}{b:Nat}:∀ {vs:List V} {xs:List Value} {o:Nat},(∀ j u,xs[j]? = some u→w.cell? ⟨b,o+j,none⟩=some u)→zba w P vs xs→RowL true w P vs b o
 | [],_,_,_,_=>trivial
 | .mk k n t ks::vs,_,o,hc,h=>by
  obtain⟨A,l,c,ys,rfl,a1,a2,a3,hr⟩:=h;refine⟨zbd.2 ⟨A,l,c,hc 0 _ rfl,hc 1 _ rfl,hc 2 _ rfl,hc 3 _ rfl,a1,a2,a3⟩,hr.row fun j u hu=>?_⟩;have:=hc (j+4) u (by simpa using hu)
  rwa [show o+(j+4)=o+4+j by omega] at this
structure CS (B:Nat) (wr:World) (A:Oz) (n c:Nat) (done:List V) (xs:List Value):Prop where
 own:wr.ownsRow B 43 4 (.slice A n c) n xs
 cells:zba wr (fun i=>B≤i∧i < wr.heap.size∧(Value.slice A n c).ownBlock≠some i) done xs
theorem CS.len {B:Nat}{wr:World}{A:Oz}{n c:Nat}{done:List V}{xs:List Value}(h:CS B wr A n c done xs):done.length=n:=by
 have:=h.own.1;have:=h.cells.len;omega
theorem CS.nil (B:Nat)(wr:World):CS B wr none 0 0 [] []:=⟨World.ownsRow_nil _ _ _ _,rfl⟩
theorem CS.call {B:Nat}{wr w':World}{A:Oz}{n c:Nat}{done:List V}{xs:List Value}(h:CS B wr A n c done xs)(hb:Below wr.heap.size wr w'):CS B w' A n c done xs:=
 ⟨h.own.kept (zbR hb) (by cases hv:(Value.slice A n c).ownBlock<;>simp),(h.cells.keep fun i hi=>hb.block i hi.2.1).mono fun i hi=>⟨hi.1,yau hi.2.1 hb.size,hi.2.2⟩⟩
theorem CS.drew {B:Nat}{wr:World}{A:Oz}{n c:Nat}{done:List V}{xs:List Value}(h:CS B wr A n c done xs):CS B wr.drew A n c done xs:=h.call (Below.refl _ _).drew
theorem CS.nw {B:Nat}{wr:World}{A:Oz}{n c:Nat}{done:List V}{xs:List Value}(h:CS B wr A n c done xs):Nw B wr done A n c:=by
 refine⟨h.len.symm,zbi h.own,fun hn=>?_⟩;rcases h.own.2 with ⟨_,h0⟩ | ⟨g,cap,cur,hv,hb,hg,kz,bL,jl,K9⟩
 ·omega
 ·injection hv with h1 _ h3
  subst h1;subst h3;refine⟨g,0,rfl,⟨hb,(Array.getElem?_eq_some_iff.1 hg).1⟩,fun _=>⟨cur,hg⟩,(h.cells.mono fun i hi=>⟨hi.1,hi.2.1⟩).row fun j u hu=>?_⟩;rw[yaD,h.own.cellAt j (by rw[←h.own.1];exact(List.getElem?_eq_some_iff.1 hu).1),hu]
theorem CS.cast {B:Nat}{wr:World}{A:Oz}{n c:Nat}{done done':List V}{xs:List Value}(h:CS B wr A n c done xs)(e:done=done'):CS B wr A n c done' xs:=e▸h
theorem CS.push {B:Nat}{wr w2 w3:World}{A:Oz}{n c:Nat}{done:List V}{xs:List Value}(h:CS B w2 A n c done xs){k m:Nat}{t:ByteArray}{ks:List V}{A':Oz}{l' c':Nat}(hk:k < 256)(hm:m < 18446744073709551616)
  (hK:Kids true w2 (fun i=>B≤i∧i < w2.heap.size∧(Value.slice A n c).ownBlock≠some i) ks A' l' c') {g cap:Nat} (o:Obj) (hr:wr=w2.alloc o)
  (Hf:w3.ownsRow B 43 4 (.slice (some ⟨g,0,none⟩) (n+1) cap) (n+1) (xs++[.int .u8 (k:Int),.int .u64 (m:Int),.string t,.slice A' l' c'])) (hg:wr.grownBy w3 (Value.slice A n c).ownBlock) (gT:(Value.slice A n c).ownBlock=some g∨w2.heap.size≤g) :
  CS B w3 (some ⟨g,0,none⟩) (n+1) cap (done++[.mk k m t ks]) (xs++[.int .u8 (k:Int),.int .u64 (m:Int),.string t,.slice A' l' c']):=by
 subst hr;have gF:∀ i,(B≤i∧i < w2.heap.size∧(Value.slice A n c).ownBlock≠some i)→w3.heap[i]? = w2.heap[i]?:=fun i hi=>
  (hg.block i (by simp;omega) (fun e=>hi.2.2 e.symm)).trans (yaz _ _ _ hi.2.1)
 have gR:∀ i,(B≤i∧i < w2.heap.size∧(Value.slice A n c).ownBlock≠some i)→(B≤i∧i < w3.heap.size∧(Value.slice (some ⟨g,0,none⟩) (n+1) cap).ownBlock≠some i):=fun i hi=>by
  refine⟨hi.1,?_,fun e=>?_⟩
  ·have:=hg.size;simp at this;omega
  ·have e2:g=i:=by simpa [Value.ownBlock] using e
   subst e2;rcases gT with ha | ha
   ·exact hi.2.2 ha
   ·omega
 exact⟨Hf,zba.snoc hk hm ((hK.keep gF).mono gR) ((h.cells.keep gF).mono gR)⟩
def zaY (ks:List V)(w:World)(e:Ending)(w':World):Prop:=∃ A l c,e=.returned (.slice A l c)∧Nw w.heap.size w' ks A l c∧Below w.heap.size w w'
def zgJ (k n:Nat)(t:ByteArray)(ks:List V)(w:World)(e:Ending)(w':World):Prop:=∃ A l c,e=.returned (.agg #[.int .u8 k,.int .u64 n,.string t,.slice A l c])∧Nw w.heap.size w' ks A l c∧Below w.heap.size w w'
theorem Nw.far {B:Nat}{w:World}{ks:List V}{A:Oz}{l c:Nat}(h:Nw B w ks A l c){p:Addr}(hp:p.block < B)(u:Value):Nw B (w.setCell p u) ks A l c:=
 (h.keep fun i hi=>yaw w p u i (by have:=hi.1;omega)).mono fun i hi=>⟨hi.1,by have:=hi.2;simpa using this⟩
theorem Nw.far4 {B:Nat}{w:World}{ks:List V}{A:Oz}{l c:Nat}(h:Nw B w ks A l c){g:Nat}(hp:g < B)(x0 x1 x2 x3:Value):Nw B ((((w.setCell ⟨g,0,none⟩ x0).setCell ⟨g,1,none⟩ x1).setCell ⟨g,2,none⟩ x2).setCell ⟨g,3,none⟩ x3) ks A l c:=
 (((h.far (p:=⟨g,0,none⟩) hp _).far (p:=⟨g,1,none⟩) hp _).far (p:=⟨g,2,none⟩) hp _).far (p:=⟨g,3,none⟩) hp _
theorem zkm (ks:List V)(gm:∀ (A:Oz) (l c:Nat) (w:World),Kd w ks A l c→Calls prog 75 #[.slice A l c] w (zaY ks w))(k n:Nat)(t:ByteArray)(A:Oz)(l c:Nat)(w:World)(hK:Kd w ks A l c) :
  Calls prog 78 #[.agg #[.int .u8 k,.int .u64 n,.string t,.slice A l c]] w (zgJ k n t ks w):=by
 have Hg:=(Box.new w (.int .u8 k) (.int .u64 n) (.string t) (.slice A l c)).alloc (.cells #[.int .u8 0,.int .u64 0,.string ⟨#[]⟩,.slice none 0 0] 43);have Ha:=Box.new2 w (.cells #[.int .u8 k,.int .u64 n,.string t,.slice A l c] 43) (.int .u8 0) (.int .u64 0) (.string ⟨#[]⟩) (.slice none 0 0);have hB:=zaw w (.cells #[.int .u8 k,.int .u64 n,.string t,.slice A l c] 43) (.cells #[.int .u8 0,.int .u64 0,.string ⟨#[]⟩,.slice none 0 0] 43);have Kg:=zaa gm;clear gm;go_enter func78,ntmps78;go_wp2_with fail;refine(Kg.out A l c _ ((hK.alloc _).alloc _)).mono ?_;rintro e w1 ⟨A1,l1,c1,rfl,hN,hb⟩;obtain⟨a0,a1,a2,a3,af⟩:=(Hg.call hb).all;obtain⟨d0,d1,d2,d3,df⟩:=(Ha.call hb).all;have G5:=zad hB hb;have Hu:=hB.size;simp only[World.size_alloc] at hN;have Hp:w.heap.size≠w.heap.size+1:=by omega
 go_wp2;refine bodyPost_ret (v:=.agg #[.int .u8 k,.int .u64 n,.string t,.slice A1 l1 c1]) (by simp[results,results78,go_sem,d0,d1,d2,d3]) rfl ?_;exact⟨A1,l1,c1,rfl,((hN.far (p:=⟨w.heap.size,3,none⟩) (by simp only;omega) _).far4 (g:=w.heap.size+1) (by omega) _ _ _ _).less (by omega),zae (G5.setCell (p:=⟨w.heap.size,3,none⟩) zab _) (by omega) _ _ _ _⟩
theorem news4 (w:World)(x y z u:Value)(e:TypeId)(H:Nat)(hH:w.heap.size=H):∀ j v,[x,y,z,u][j]? = some v→(w.alloc (.cells #[x,y,z,u] e)).cell? ((⟨H,0,none⟩:Addr).add j)=some v:=by
 subst hH;intro j v hv;have hj:j < 4:=(List.getElem?_eq_some_iff.1 hv).1;obtain rfl | rfl | rfl | rfl:j=0∨j=1∨j=2∨j=3:=by omega
 all_goals rw[←hv];simp[Addr.add]
theorem zdd (N:Nat):∀ (ks:List V) (A:Oz) (l c:Nat) (w:World),zai ks≤N→N≤1073741824→Kd w ks A l c→Calls prog 75 #[.slice A l c] w (zaY ks w):=by
 induction N using Nat.strongRecOn with
 | ind N ih=>
 intro ks A l c w hN k9 hK;have jv:l≤ks.length:=Nat.le_of_eq hK.len;have JC:ks.length≤l:=Nat.le_of_eq hK.len.symm;have Jb:=za0 ks;have IH:=zaa ih;clear ih;obtain⟨i0,hi,gE,Hn,gb⟩:=info_parts zdb;go_enter func75,ntmps75;go_wp2;go_loopw [3,4] (fun s i wr=>∃ (j:Nat) (A1:Oz) (c1:Nat) (xs:List Value),j≤l∧i=.int .i64 j∧s=.slice A1 j c1∧CS w.heap.size wr A1 j c1 (ks.take j) xs∧Below w.heap.size w wr) (fun _ i _=>l - (intOf i).toNat)
 case atStart=>exact⟨0,none,0,[],Nat.zero_le _,rfl,rfl,CS.nil _ _,Below.refl _ _⟩
 case round=>
  obtain⟨j,A1,c1,xs,hj,rfl,rfl,hC,hb⟩:=hrel;by_cases Hi:j < l
  ·obtain⟨b,o,k',n',t',ks',A',l',c',rfl,j0,hx,h0,h1,h2,h3,Gn,k8,gV⟩:=(hK.call hb).at_ Hi;have GY:=zcT hx;simp only[bulk] at GY;have HT:=zaa (zbI hx);have hs:=hb.size;clear hx;go_wp2_with fail;refine(zkm ks' (fun A l c w hK=>IH.out (zai ks') (by omega) ks' A l c w zab (by omega) hK) k' n' t' A' l' c' wr gV).mono ?_;rintro e w2 ⟨A2,l2,c2,rfl,k9,He⟩;have bM:=hC.call He;have GB:=bM.own;have Gw:=He.size;have Hj:=zad hb He;have uN:=hC.own.lt;have Qz:=zaa uN;have HC:=zaa bM;clear hC bM uN;go_wp2_with (at_builtin;refine wpList_append_lies _ rfl _ _ 41 rfl w.heap.size 43 i0 _ 4 56 underlying41 hi gE Hn gb rfl (by omega) _ _ _ rfl (GB.alloc _) ⟨w2.heap.size,0,none⟩ 1 1 [.int .u8 k',.int .u64 n',.string t',.slice A2 l2 c2] rfl rfl (news4 w2 _ _ _ _ _ _ rfl) (fun u hu=>(by simp at hu;rcases hu with rfl | rfl | rfl | rfl<;>rfl)) (by omega) (by unfold maxLen;omega) (by omega) (by simp;omega) _ rfl ?_;intro g9 cap9 w9 Hb Hd Hv _);go_roundw
   case rel=>
    refine⟨j+1,some ⟨g9,0,none⟩,cap9,_,by omega,by go_num,rfl,((HC.out.push Gn k8 (k9.mono fun i hi=>⟨by have:=hi.1;omega,hi.2,fun e=>?_⟩) _ rfl Hb Hd ?_).cast HT.out.symm),(Hj.alloc (by omega) _).grown Hd (by simp;omega) fun k hk=>(Qz.out k hk).1⟩
    ·have:=(Qz.out i e).2;have:=hi.1;omega
    ·rcases Hv with h | h
     ·exact .inl h
     ·right;simp at h;omega
   case measure=>simp[intOf];omega
  ·have HE:Hid (ks.take j=ks):=zaa (List.take_of_length_le (by omega));have Vq:j=l:=by omega
   have HC:=zaa hC;clear hC;go_wp2;go_ret;exact⟨A1,j,c1,rfl,(HC.out.cast HE.out).nw,hb⟩
theorem zms (k n:Nat)(t:ByteArray)(ks:List V)(A:Oz)(l c:Nat)(w:World)(hN:zai ks≤1073741824)(hK:Kd w ks A l c) :
  Calls prog 78 #[.agg #[.int .u8 k,.int .u64 n,.string t,.slice A l c]] w (zgJ k n t ks w):=
 zkm ks (fun A l c w hK=>zdd _ ks A l c w zab hN hK) k n t A l c w hK
structure RE where
 A:Oz
 m:Nat
 c:Nat
 done:List V
def RE.ob (r:RE):Option Nat:=(Value.slice r.A r.m r.c).ownBlock
structure VE where
 x:SE
 k:Nat
 n:Nat
 t:ByteArray
 r:RE
def vflat (st:List VE):List Value:=st.flatMap fun p=>[p.x.val,.int .u8 (p.k:Int),.int .u64 (p.n:Int),.string p.t,.slice p.r.A p.r.m p.r.c]
theorem zde (st:List VE):(vflat st).length=st.length * 5:=by
 induction st with
 | nil=>rfl
 | cons p st ih=>simp only[vflat,List.flatMap_cons,yav,yax,yaB] at ih ⊢;omega
theorem zbh (a b:List VE):vflat (a++b)=vflat a++vflat b:=by simp[vflat]
theorem zcf (p:VE):vflat [p]=[p.x.val,.int .u8 (p.k:Int),.int .u64 (p.n:Int),.string p.t,.slice p.r.A p.r.m p.r.c]:=rfl
def vweight (st:List VE):Nat:=(st.map fun p=>2 * zah p.x.ks+1).sum
theorem zbo (st:List VE)(p:VE):vweight (st++[p])=vweight st+2 * zah p.x.ks+1:=by simp[vweight];omega
theorem zra (st:List VE):st.length≤vweight st:=by
 induction st with
 | nil=>simp
 | cons p r ih=>simp[vweight] at ih ⊢;omega
def goV (rest:List VE)(v:V):V:=rest.foldr (fun p v=>.mk p.k p.n p.t (p.r.done++v::p.x.ks)) v
theorem zkn (rest:List VE)(p:VE)(v:V):goV (rest++[p]) v=goV rest (.mk p.k p.n p.t (p.r.done++v::p.x.ks)):=by simp[goV]
def Pst (B:Nat)(w:World)(G:Nat)(rs:List RE)(i:Nat):Prop:=B≤i∧i < w.heap.size∧i≠G∧∀ r∈rs,r.ob≠some i
structure Rows (B:Nat) (w:World) (G:Nat) (rs:List RE):Prop where
 row:∀ r∈rs,∃ xs,w.ownsRow B 43 4 (.slice r.A r.m r.c) r.m xs∧zba w (Pst B w G rs) r.done xs∧r.ob≠some G
 dis:rs.Pairwise fun r r'=>∀ b,r.ob=some b→r'.ob≠some b
theorem Rows.move {B:Nat}{w w':World}{G G':Nat}{rs:List RE}(h:Rows B w G rs)(hk:∀ i,B≤i→i < w.heap.size→i≠G→w'.heap[i]? = w.heap[i]?)(hs:w.heap.size≤w'.heap.size)(hG:G'=G∨w.heap.size≤G'):Rows B w' G' rs:=by
 refine⟨fun r hr=>?_,h.dis⟩;obtain⟨xs,ho,hc,hg⟩:=h.row r hr;have Hi:=ho.lt;refine⟨xs,?_,(hc.keep fun i hi=>hk i hi.1 hi.2.1 hi.2.2.1).mono fun i hi=>⟨hi.1,by have:=hi.2.1;omega,by have h1:=hi.2.1;have h2:=hi.2.2.1;omega,hi.2.2.2⟩,fun e=>?_⟩
 ·refine⟨ho.1,?_⟩;rcases ho.2 with hn | ⟨g,cap,cur,hv,hb,xa,gP⟩
  ·exact .inl hn
  ·have ka:r.ob=some g:=by unfold RE.ob;rw[hv];rfl
   have Kz:=Hi g ka;exact .inr ⟨g,cap,cur,hv,hb,(hk g hb Kz.2 (fun e=>hg (by rw[ka,e]))).trans xa,gP⟩
 ·have:=Hi G' e;rcases hG with rfl | hG
  ·exact hg e
  ·omega
theorem Pst.less {B:Nat}{w:World}{G:Nat}{rs rs':List RE}{i:Nat}(h:Pst B w G rs i)(hs:∀ r∈rs',r∈rs):Pst B w G rs' i:=⟨h.1,h.2.1,h.2.2.1,fun r hr=>h.2.2.2 r (hs r hr)⟩
theorem Rows.begin {B:Nat}{w w':World}{G G':Nat}{rs:List RE}(h:Rows B w G rs)(hk:∀ i,B≤i→i < w.heap.size→i≠G→w'.heap[i]? = w.heap[i]?)(hs:w.heap.size≤w'.heap.size)(hG:G'=G∨w.heap.size≤G')
  {r:RE} (hd:r.done=[]) (Hf:w'.ownsRow B 43 4 (.slice r.A r.m r.c) r.m []) (KY:∀ b,r.ob=some b→w.heap.size≤b) (bN:r.ob≠some G'):Rows B w' G' (rs++[r]):=by
 refine⟨fun r' ko=>?_,List.pairwise_append.2 ⟨h.dis,List.pairwise_singleton _ _,fun a ha b hb=>?_⟩⟩
 ·rcases List.mem_append.1 ko with ko | ko
  ·obtain⟨xs,ho,hc,hg⟩:=h.row r' ko;obtain⟨_,v7,_,vW⟩:=(h.move hk hs hG).row r' ko;have hxs:∃ ys,w'.ownsRow B 43 4 (.slice r'.A r'.m r'.c) r'.m ys∧ys=xs:=by
    have Hi:=ho.lt;refine⟨xs,⟨ho.1,?_⟩,rfl⟩;rcases ho.2 with hn | ⟨g,cap,cur,hv,hb,xa,gP⟩
    ·exact .inl hn
    ·have ka:r'.ob=some g:=by unfold RE.ob;rw[hv];rfl
     have Kz:=Hi g ka;exact .inr ⟨g,cap,cur,hv,hb,(hk g hb Kz.2 (fun e=>hg (by rw[ka,e]))).trans xa,gP⟩
   obtain⟨_,Gh,rfl⟩:=hxs;refine⟨_,Gh,(hc.keep fun i hi=>hk i hi.1 hi.2.1 hi.2.2.1).mono fun i hi=>⟨hi.1,by have:=hi.2.1;omega,by have h1:=hi.2.1;have h2:=hi.2.2.1;omega,fun q hq e=>?_⟩,vW⟩;rcases List.mem_append.1 hq with hq | hq
   ·exact hi.2.2.2 q hq e
   ·rw[List.mem_singleton.1 hq] at e;have:=KY i e;have:=hi.2.1;omega
  ·rw[List.mem_singleton.1 ko];exact⟨[],Hf,by rw[hd];rfl,bN⟩
 ·rw[List.mem_singleton.1 hb];intro i hi e;have:=KY i e;obtain⟨_,ho,_,_⟩:=h.row a ha;have:=(ho.lt i hi).2;omega
theorem Rows.fuse {B:Nat}{w w':World}{G:Nat}{rs:List RE}{a z:RE}(h:Rows B w G (rs++[a,z]))(hG:G < w.heap.size){k n:Nat}{t:ByteArray}(hk:k < 256)(hn:n < 18446744073709551616){xs:List Value}(jl:zba w (Pst B w G (rs++[a,z])) a.done xs)
  {g c:Nat} (Hf:w'.ownsRow B 43 4 (.slice (some ⟨g,0,none⟩) (a.m+1) c) (a.m+1) (xs++[.int .u8 (k:Int),.int .u64 (n:Int),.string t,.slice z.A z.m z.c])) (hg:w.grownBy w' a.ob) (gT:a.ob=some g∨w.heap.size≤g) :
  Rows B w' G (rs++[⟨some ⟨g,0,none⟩,a.m+1,c,a.done++[.mk k n t z.done]⟩]):=by
 obtain⟨JU,kM,JF⟩:=List.pairwise_append.1 h.dis;obtain⟨ys,yS,hyc,hyg⟩:=h.row z (by simp);obtain⟨_,bO,_,hag⟩:=h.row a (by simp);have haz:∀ b,a.ob=some b→z.ob≠some b:=by
  have:=List.pairwise_cons.1 kM;exact this.1 z (by simp)
 -- what was made lies as it lay
 have bP:∀ i,Pst B w G (rs++[a]) i→w'.heap[i]? = w.heap[i]?:=fun i hi=>hg.block i hi.2.1 (fun e=>hi.2.2.2 a (by simp) e.symm);have hP:∀ i,Pst B w G (rs++[a]) i→Pst B w' G (rs++[⟨some ⟨g,0,none⟩,a.m+1,c,a.done++[.mk k n t z.done]⟩]) i:=fun i hi=>by
  refine⟨hi.1,yau hi.2.1 hg.size,hi.2.2.1,fun r hr e=>?_⟩;rcases List.mem_append.1 hr with hr | hr
  ·exact hi.2.2.2 r (by simp[hr]) e
  ·rw[List.mem_singleton.1 hr] at e;have e2:g=i:=by simpa [RE.ob,Value.ownBlock] using e
   subst e2;rcases gT with ha | ha
   ·exact hi.2.2.2 a (by simp) ha
   ·have:=hi.2.1;omega
 have vL:∀ i,Pst B w G (rs++[a,z]) i→Pst B w G (rs++[a]) i:=fun i hi=>hi.less (fun r hr=>by simp at hr ⊢;rcases hr with hr | hr<;>simp[hr]);have hzK:Kids true w (Pst B w G (rs++[a])) z.done z.A z.m z.c:=by
  have qI:CS B w z.A z.m z.c z.done ys:=⟨yS,hyc.mono fun i hi=>⟨hi.1,hi.2.1,hi.2.2.2 z (by simp)⟩⟩;refine⟨qI.len.symm,zbi yS,fun hl=>?_⟩;rcases yS.2 with ⟨_,h0⟩ | ⟨gz,cap,cur,hv,hb,hgz,_⟩
  ·omega
  ·have ka:z.ob=some gz:=by unfold RE.ob;rw[hv];rfl
   injection hv with h1 _ h3
   refine⟨gz,0,h1,⟨hb,(yS.lt gz ka).2,fun e=>hyg (by rw[ka,e]),fun r hr e=>?_⟩,fun _=>⟨cur,hgz⟩,(hyc.mono vL).row fun j u hu=>?_⟩
   ·rcases List.mem_append.1 hr with hr | hr
    ·exact JF r hr z (by simp) gz e ka
    ·rw[List.mem_singleton.1 hr] at e;exact haz gz e ka
   ·have Cb:w.ownsRow B 43 4 (.slice (some ⟨gz,0,none⟩) z.m z.c) z.m ys:=by rw[←h1];exact yS
    rw[yaD,Cb.cellAt j (by rw[←yS.1];exact(List.getElem?_eq_some_iff.1 hu).1),hu]
 refine⟨fun r hr=>?_,List.pairwise_append.2 ⟨JU,List.pairwise_singleton _ _,fun p hp q hq=>?_⟩⟩
 ·rcases List.mem_append.1 hr with hr | hr
  ·obtain⟨rx,ho,hc,kA⟩:=h.row r (by simp[hr]);refine⟨rx,ho.kept hg ?_,((hc.mono vL).keep bP).mono hP,kA⟩;cases ka:r.ob with
   | none=>exact .inl ka
   | some b=>
    refine .inr fun e=>?_;have e2:a.ob=some b:=by
     have e3:r.ob=a.ob:=e;rw[←e3,ka]
    exact JF r hr a (by simp) b ka e2
  ·rw[List.mem_singleton.1 hr];refine⟨_,Hf,zba.snoc hk hn ((hzK.keep bP).mono hP) (((jl.mono vL).keep bP).mono hP),fun e=>?_⟩;have e2:g=G:=by simpa [RE.ob,Value.ownBlock] using e
   subst e2;rcases gT with ha | ha
   ·exact hag ha
   ·omega
 ·rw[List.mem_singleton.1 hq];intro b hb e;have e2:g=b:=by simpa [RE.ob,Value.ownBlock] using e
  subst e2;rcases gT with ha | ha
  ·exact JF p hp a (by simp) g hb ha
  ·obtain⟨_,ho,_,_⟩:=h.row p (by simp[hp]);have:=(ho.lt g hb).2;omega
theorem zic {w w':World}{g:Nat}{x0 x1 x2 x3:Value}(h:Box w g x0 x1 x2 x3){row:Option Nat}(hg:w.grownBy w' row)(Hp:row≠some g):Box w' g x0 x1 x2 x3:=(hg.block g h.lt (fun e=>Hp e.symm)).trans h
def zmt (k n:Nat)(t:ByteArray)(w:World)(e:Ending)(w':World):Prop:=∃ A c,e=.returned (.agg #[.int .u8 k,.int .u64 n,.string t,.slice A 0 c])∧w'.ownsRow w.heap.size 43 4 (.slice A 0 c) 0 []∧Below w.heap.size w w'
theorem zei (w:World)(p:Addr)(u:Value):w.grownBy (w.setCell p u) (some p.block):=
 ⟨rfl,rfl,rfl,by simp,fun k _ hk=>yaw w p u k (fun e=>hk (by rw[e]))⟩
theorem zdU {w:World}{base:Nat}{e:TypeId}{size n:Nat}{v:Value}{xs:List Value}(h:w.ownsRow base e size v n xs){p:Addr}(hp:v.ownBlock≠some p.block)(u:Value):(w.setCell p u).ownsRow base e size v n xs:=
 h.kept (zei w p u) (.inr hp)
theorem zko {w:World}{base:Nat}{e:TypeId}{size n:Nat}{v:Value}{xs:List Value}(h:w.ownsRow base e size v n xs){g:Nat}(hp:v.ownBlock≠some g)(x0 x1 x2 x3:Value) :
  ((((w.setCell ⟨g,0,none⟩ x0).setCell ⟨g,1,none⟩ x1).setCell ⟨g,2,none⟩ x2).setCell ⟨g,3,none⟩ x3).ownsRow base e size v n xs:=
 zdU (p:=⟨g,3,none⟩) (zdU (p:=⟨g,2,none⟩) (zdU (p:=⟨g,1,none⟩) (zdU (p:=⟨g,0,none⟩) h hp _) hp _) hp _) hp _
theorem zid (k n:Nat)(t:ByteArray)(A:Oz)(l c:Nat)(w:World)(hl:l≤1073741824) :
  Calls prog 128 #[.agg #[.int .u8 k,.int .u64 n,.string t,.slice A l c]] w (zmt k n t w):=by
 obtain⟨i0,hi,gE,Hn,gb⟩:=info_parts zdb;have hW:=((zaw w (.cells #[.int .u8 k,.int .u64 n,.string t,.slice A l c] 43) (.cells #[.int .u8 0,.int .u64 0,.string ⟨#[]⟩,.slice none 0 0] 43)).alloc (by simp;omega) (.cells #[.int .u8 k,.int .u64 n,.string t,.slice none 0 0] 43));have b1:=(Box.new2 w (.cells #[.int .u8 k,.int .u64 n,.string t,.slice A l c] 43) (.int .u8 0) (.int .u64 0) (.string ⟨#[]⟩) (.slice none 0 0)).alloc (.cells #[.int .u8 k,.int .u64 n,.string t,.slice none 0 0] 43);have b2:=Box.new2 (w.alloc (.cells #[.int .u8 k,.int .u64 n,.string t,.slice A l c] 43)) (.cells #[.int .u8 0,.int .u64 0,.string ⟨#[]⟩,.slice none 0 0] 43) (.int .u8 k) (.int .u64 n) (.string t) (.slice none 0 0);simp only[World.size_alloc] at b2;rcases Nat.eq_zero_or_pos l with rfl | h0
 ·go_enter func128,ntmps128;go_wp2;refine bodyPost_ret (v:=.agg #[.int .u8 k,.int .u64 n,.string t,.slice none 0 0]) (by simp[results,results128,go_sem]) rfl ?_;exact⟨none,0,rfl,World.ownsRow_nil _ _ _ _,((zaw w _ _).alloc (by simp;omega) _)⟩
 ·have hI:decide ((0:Int) < (l:Int))=true:=by simp;omega
  have HW:=zaa hW;clear hW;go_enter func128,ntmps128;go_wp2_with (at_make;refine wpList_make_own _ rfl _ _ 41 rfl w.heap.size 43 i0 _ 4 underlying41 hi gE Hn .i64 .i64 (l:Int) l rfl rfl rfl (by rw[gb];omega) (by unfold maxLen;omega) (by simp;omega) ?_;intro w2 GB Gu;have QA:=(Below.refl _ _).grown Gu zab (fun _ h=>(by cases h));have He:=zad HW.out QA;have Kq:=b1.call QA;have KE:=b2.call QA;obtain⟨x0,x1,x2,x3,xf⟩:=Kq.all;obtain⟨y0,y1,y2,y3,yf⟩:=KE.all;simp only[World.size_alloc] at GB;have Gi:=zaa GB;clear GB);refine bodyPost_ret (v:=.agg #[.int .u8 k,.int .u64 n,.string t,.slice (some ⟨w.heap.size+1+1+1,0,none⟩) 0 l]) (by simp[results,results128,go_sem,x0,x1,x2,x3]) rfl ?_;refine⟨_,_,rfl,zko (zdU (p:=⟨w.heap.size+1+1,3,none⟩) Gi.out ?_ _) ?_ _ _ _ _,zae (He.setCell (p:=⟨w.heap.size+1+1,3,none⟩) (by simp only;omega) _) (by omega) _ _ _ _⟩
  ·simp[Value.ownBlock]<;>omega
  ·simp[Value.ownBlock]<;>omega
def zaT (k n:Nat)(t:ByteArray)(m B:Nat)(xs ys:List Value)(ob:Option Nat)(w:World)(e:Ending)(w':World):Prop:=
 ∃ g c,e=.returned (.agg #[.int .u8 k,.int .u64 n,.string t,.slice (some ⟨g,0,none⟩) (m+1) c])∧w'.ownsRow B 43 4 (.slice (some ⟨g,0,none⟩) (m+1) c) (m+1) (xs++ys)∧w.grownBy w' ob∧(ob=some g∨w.heap.size≤g)
theorem zmu (k n:Nat)(t:ByteArray)(A:Oz)(m c B:Nat)(xs:List Value)(k' n':Nat)(t':ByteArray)(A':Oz)(l' c':Nat)(w:World)(hm:m≤1073741824)(hB:B≤w.heap.size)(Hf:w.ownsRow B 43 4 (.slice A m c) m xs) :
  Calls prog 130 #[.agg #[.int .u8 k,.int .u64 n,.string t,.slice A m c],.agg #[.int .u8 k',.int .u64 n',.string t',.slice A' l' c']] w
   (zaT k n t m B xs [.int .u8 k',.int .u64 n',.string t',.slice A' l' c'] (Value.slice A m c).ownBlock w):=by
 obtain⟨i0,hi,gE,Hn,gb⟩:=info_parts zdb;have hOB:=Hf.lt;have hW:=((zaw w (.cells #[.int .u8 k,.int .u64 n,.string t,.slice A m c] 43) (.cells #[.int .u8 k',.int .u64 n',.string t',.slice A' l' c'] 43)).alloc (by simp;omega) (.cells #[.int .u8 0,.int .u64 0,.string ⟨#[]⟩,.slice none 0 0] 43));have b0:=((Box.new w (.int .u8 k) (.int .u64 n) (.string t) (.slice A m c)).alloc (.cells #[.int .u8 k',.int .u64 n',.string t',.slice A' l' c'] 43)).alloc (.cells #[.int .u8 0,.int .u64 0,.string ⟨#[]⟩,.slice none 0 0] 43);have b2:=Box.new2 (w.alloc (.cells #[.int .u8 k,.int .u64 n,.string t,.slice A m c] 43)) (.cells #[.int .u8 k',.int .u64 n',.string t',.slice A' l' c'] 43) (.int .u8 0) (.int .u64 0) (.string ⟨#[]⟩) (.slice none 0 0);simp only[World.size_alloc] at b2;have b0':=b0.alloc (.cells #[.int .u8 k',.int .u64 n',.string t',.slice A' l' c'] 43);have b2':=b2.alloc (.cells #[.int .u8 k',.int .u64 n',.string t',.slice A' l' c'] 43);have yT:=hW.alloc (by simp;omega) (.cells #[.int .u8 k',.int .u64 n',.string t',.slice A' l' c'] 43);have HW:=zaa yT;have Qz:=zaa hOB;clear hW yT hOB b0 b2;go_enter func130,ntmps130;go_wp2_with (at_builtin;refine wpList_append_lies _ rfl _ _ 41 rfl B 43 i0 _ 4 56 underlying41 hi gE Hn gb rfl (by omega) _ _ _ rfl ((((Hf.alloc _).alloc _).alloc _).alloc _) ⟨w.heap.size+1+1+1,0,none⟩ 1 1 [.int .u8 k',.int .u64 n',.string t',.slice A' l' c'] rfl rfl (news4 _ _ _ _ _ _ _ (by simp)) (fun u hu=>(by simp at hu;rcases hu with rfl | rfl | rfl | rfl<;>rfl)) (by omega) (by unfold maxLen;omega) (by omega) (by simp;omega) _ rfl ?_;intro g9 cap9 w9 Hb Hd Hv _;have hx:=zic b0' Hd (fun e=>(by have:=(Qz.out _ e).2;omega));have hy:=zic b2' Hd (fun e=>(by have:=(Qz.out _ e).2;omega));obtain⟨x0,x1,x2,x3,xf⟩:=hx.all;obtain⟨y0,y1,y2,y3,yf⟩:=hy.all;have Gi:=zaa Hb;have HG:=zaa Hd;have HAT:=zaa Hv;clear Hb Hd Hv Hf);refine bodyPost_ret (v:=.agg #[.int .u8 k,.int .u64 n,.string t,.slice (some ⟨g9,0,none⟩) (m+1) cap9]) (by simp[results,results130,go_sem,y0,y1,y2,y3]) rfl ?_;have Hp:(Value.slice A m c).ownBlock=some g9∨w.heap.size+1+1+1 < g9:=by
  rcases HAT.out with h | h
  ·exact .inl h
  ·right;simp at h;omega
 have UL:g9≠w.heap.size∧g9≠w.heap.size+1+1:=by
  rcases Hp with h | h
  ·have:=(Qz.out _ h).2;omega
  ·omega
 refine⟨g9,cap9,rfl,zko (zdU (p:=⟨w.heap.size,3,none⟩) Gi.out ?_ _) ?_ _ _ _ _,?_,?_⟩
 ·simp[Value.ownBlock];omega
 ·simp[Value.ownBlock];omega
 ·have hb:=HW.out;have hg:=HG.out;have hs:=hg.size;simp at hs;refine⟨hg.os.trans hb.os,hg.tape.trans hb.tape,hg.output.trans hb.output,by simp;omega,fun i hi Hp=>?_⟩;have e4:∀ (W:World) (a b c d:Value),((((W.setCell ⟨w.heap.size+1+1,0,none⟩ a).setCell ⟨w.heap.size+1+1,1,none⟩ b).setCell ⟨w.heap.size+1+1,2,none⟩ c).setCell ⟨w.heap.size+1+1,3,none⟩ d).heap[i]? = W.heap[i]?:=fun W a b c d=>
   (yaw _ _ _ _ (by simp only;omega)).trans ((yaw _ _ _ _ (by simp only;omega)).trans ((yaw _ _ _ _ (by simp only;omega)).trans (yaw _ _ _ _ (by simp only;omega))))
  rw[e4,yaw _ _ _ _ (show i≠w.heap.size by omega),hg.block i (by simp;omega) Hp];exact hb.block i hi
 ·rcases Hp with h | h
  ·exact .inl h
  ·right;omega
theorem zmv:(prog.info? 173).map (fun i=>(i.zero,i.size,i.bytes))=some (some (.agg #[.slice none 0 0,.int .u8 0,.int .u64 0,.string ⟨#[]⟩,.slice none 0 0]),5,80):=by kernel_rfl
structure VS (T:Nat) (W0 wr:World) (G n c:Nat) (rest:List VE) (z:VE) (q:V) (g:Nat):Prop where
 len:rest.length+1=n
 own:wr.ownsRow W0.heap.size 173 5 (.slice (some ⟨G,0,none⟩) n c) n (vflat (rest++[z]))
 rows:Rows W0.heap.size wr G ((rest++[z]).map (·.r))
 ok:∀ p∈rest++[z],Kids false wr (fun i=>i < W0.heap.size) p.x.ks p.x.A p.x.l p.x.c∧p.k < 256∧p.n < 18446744073709551616∧p.r.m+zah p.x.ks≤T
 cnt:∀ p∈rest,p.r.m+1+zah p.x.ks≤T
 hq:q=goV rest (.mk z.k z.n z.t (z.r.done++z.x.ks))
 hg:vweight (rest++[z])≤g
 below:Below W0.heap.size W0 wr
 small:n≤g∧g≤4294967296
theorem vset0 (rest:List VE)(z:VE)(m:Nat)(hl:rest.length=m)(v:Value):(vflat (rest++[z])).set (m * 5) v=vflat rest++[v,.int .u8 (z.k:Int),.int .u64 (z.n:Int),.string z.t,.slice z.r.A z.r.m z.r.c]:=by
 have GV:(vflat rest).length=m * 5:=by rw[zde,hl]
 rw[zbh,zcf,List.set_append_right _ _ (by omega),GV,Nat.sub_self];rfl
theorem vset4 (rest:List VE)(z:VE)(m:Nat)(hl:rest.length=m)(a b c d:Value)(ys:List Value):((((vflat (rest++[z])++ys).set (m * 5+1) a).set (m * 5+2) b).set (m * 5+3) c).set (m * 5+4) d=vflat rest++[z.x.val,a,b,c,d]++ys:=by
 have GV:(vflat rest).length=m * 5:=by rw[zde,hl]
 rw[zbh,zcf,yaA,List.set_append_right _ _ (by omega),List.set_append_right _ _ (by omega),List.set_append_right _ _ (by omega),List.set_append_right _ _ (by omega),GV,
  show m * 5+1 - m * 5=1 by omega,show m * 5+2 - m * 5=2 by omega,show m * 5+3 - m * 5=3 by omega,show m * 5+4 - m * 5=4 by omega]
 simp
theorem VS.pop {T:Nat}{W0 wr w':World}{G m c:Nat}{rest:List VE}{a z:VE}{q:V}{g:Nat}(h:VS T W0 wr G (m+2) c (rest++[a]) z q g)(hl:rest.length=m)(hz:z.x.l=0){xs:List Value}
  (jl:zba wr (Pst W0.heap.size wr G ((rest++[a]++[z]).map (·.r))) a.r.done xs) {g9 cap9:Nat}
  (Hf:w'.ownsRow W0.heap.size 43 4 (.slice (some ⟨g9,0,none⟩) (a.r.m+1) cap9) (a.r.m+1) (xs++[.int .u8 (z.k:Int),.int .u64 (z.n:Int),.string z.t,.slice z.r.A z.r.m z.r.c])) (hg:wr.grownBy w' a.r.ob) (gT:a.r.ob=some g9∨wr.heap.size≤g9) :
  VS T W0 ((((w'.setCell ⟨G,m * 5+1,none⟩ (.int .u8 (a.k:Int))).setCell ⟨G,m * 5+2,none⟩ (.int .u64 (a.n:Int))).setCell ⟨G,m * 5+3,none⟩ (.string a.t)).setCell ⟨G,m * 5+4,none⟩ (.slice (some ⟨g9,0,none⟩) (a.r.m+1) cap9)) G (m+1) c rest
   ⟨a.x,a.k,a.n,a.t,⟨some ⟨g9,0,none⟩,a.r.m+1,cap9,a.r.done++[.mk z.k z.n z.t z.r.done]⟩⟩ q (g - 1):=by
 obtain⟨Hn,gb,jn,Vs⟩:=h.ok z (by simp);obtain⟨ha1,ha2,ha3,ha4⟩:=h.ok a (by simp);have hac:=h.cnt a (by simp);have e1:z.x.ks=[]:=yay (by rw[←Hn.len];exact hz);obtain⟨_,bO,_,haG⟩:=h.rows.row a.r (by simp);have Vt:=h.own.lt G (by simp[Value.ownBlock]);have Uy:Rows W0.heap.size wr G (rest.map (·.r)++[a.r,z.r]):=by have:=h.rows;simpa using this
 have Uz:=Uy.fuse Vt.2 (t:=z.t) gb jn (by simpa using jl) Hf hg gT;have UA:w'.ownsRow W0.heap.size 173 5 (.slice (some ⟨G,0,none⟩) (m+2) c) (m+2) (vflat (rest++[a]++[z])):=h.own.kept hg (.inr (by
  simp only[Value.ownBlock];exact fun e=>haG e.symm))
 have h1:=(UA.stored (m * 5+1) (.int .u8 (a.k:Int))).1;have h2:=(h1.stored (m * 5+2) (.int .u64 (a.n:Int))).1;have h3:=(h2.stored (m * 5+3) (.string a.t)).1;have h4:=(h3.stored (m * 5+4) (.slice (some ⟨g9,0,none⟩) (a.r.m+1) cap9)).1;rw[zbh (rest++[a]) [z],vset4 rest a m hl] at h4;have h5:=zmr h4 (m:=m+1) (by simp[zde,hl];omega) (by omega);have hw:=h.hg;rw[zbo] at hw;have Qd:=hw;rw[zbo] at Qd;have hs:=h.small;have Qb:=zra (rest++[a]);rw[yav,hl] at Qb;simp only[yax,yaB] at Qb;rw[zbo] at Qb;have jt:∀ (W:World) (x0 x1 x2 x3:Value) (i:Nat),i≠G→((((W.setCell ⟨G,m * 5+1,none⟩ x0).setCell ⟨G,m * 5+2,none⟩ x1).setCell ⟨G,m * 5+3,none⟩ x2).setCell ⟨G,m * 5+4,none⟩ x3).heap[i]? = W.heap[i]?:=fun W x0 x1 x2 x3 i hi=>
  (yaw _ _ _ _ hi).trans ((yaw _ _ _ _ hi).trans ((yaw _ _ _ _ hi).trans (yaw _ _ _ _ hi)))
 have ka:∀ i,i < W0.heap.size→w'.heap[i]? = wr.heap[i]?:=fun i hi=>hg.block i (yau hi h.below.size) (fun e=>by
  have:=(bO.lt i e.symm).1;omega)
 refine⟨by omega,by rw[zbh,zcf];simpa using h5,?_,fun p hp=>?_,fun p hp=>h.cnt p (by simp[hp]),?_,by rw[zbo];simp only;omega,?_,by omega⟩
 ·have:=Uz.move (w':=(((w'.setCell ⟨G,m * 5+1,none⟩ (.int .u8 (a.k:Int))).setCell ⟨G,m * 5+2,none⟩ (.int .u64 (a.n:Int))).setCell ⟨G,m * 5+3,none⟩ (.string a.t)).setCell ⟨G,m * 5+4,none⟩ (.slice (some ⟨g9,0,none⟩) (a.r.m+1) cap9)) (G':=G) (fun i _ _ hi=>jt _ _ _ _ _ i hi) (by simp) (.inl rfl)
  simpa using this
 ·have kP:∀ i,i < W0.heap.size→((((w'.setCell ⟨G,m * 5+1,none⟩ (.int .u8 (a.k:Int))).setCell ⟨G,m * 5+2,none⟩ (.int .u64 (a.n:Int))).setCell ⟨G,m * 5+3,none⟩ (.string a.t)).setCell ⟨G,m * 5+4,none⟩ (.slice (some ⟨g9,0,none⟩) (a.r.m+1) cap9)).heap[i]? = wr.heap[i]?:=fun i hi=>
   (jt _ _ _ _ _ i (by omega)).trans (ka i hi)
  rcases List.mem_append.1 hp with hp | hp
  ·obtain⟨a1,a2⟩:=h.ok p (by simp[hp]);exact⟨a1.keep kP,a2⟩
  ·rw[List.mem_singleton.1 hp];exact⟨ha1.keep kP,ha2,ha3,by simp only;omega⟩
 ·rw[h.hq,zkn,e1,List.append_nil];simp
 ·have jG:Below W0.heap.size W0 w':=h.below.grown hg h.below.size (fun k hk=>(bO.lt k hk).1);exact(((jG.setCell (p:=⟨G,m * 5+1,none⟩) Vt.1 _).setCell (p:=⟨G,m * 5+2,none⟩) Vt.1 _).setCell (p:=⟨G,m * 5+3,none⟩) Vt.1 _).setCell (p:=⟨G,m * 5+4,none⟩) Vt.1 _
theorem VS.push {T:Nat}{W0 wr w6:World}{G m c:Nat}{rest:List VE}{z:VE}{x2 y:SE}{q:V}{g:Nat}{kk kn:Nat}{kt:ByteArray}(h:VS T W0 wr G (m+1) c rest z q g)(kq:kk < 256)(JB:kn < 18446744073709551616)
  (GQ:Kids false w6 (fun i=>i < W0.heap.size) x2.ks x2.A x2.l x2.c) (hy:Kids false w6 (fun i=>i < W0.heap.size) y.ks y.A y.l y.c) (gQ:z.x.ks=.mk kk kn kt y.ks::x2.ks) {g' cap:Nat} {A1:Oz} {c1:Nat}
  (Hf:w6.ownsRow W0.heap.size 173 5 (.slice (some ⟨g',0,none⟩) (m+1+1) cap) (m+1+1) (vflat rest++[x2.val,.int .u8 (z.k:Int),.int .u64 (z.n:Int),.string z.t,.slice z.r.A z.r.m z.r.c]++[y.val,.int .u8 (kk:Int),.int .u64 (kn:Int),.string kt,.slice A1 0 c1])) (hb:Below W0.heap.size wr w6)
  (hk:∀ i,W0.heap.size≤i→i < wr.heap.size→i≠G→w6.heap[i]? = wr.heap[i]?) (hG:g'=G∨wr.heap.size≤g') (Hr:w6.ownsRow W0.heap.size 43 4 (.slice A1 0 c1) 0 []) (KY:∀ b,(Value.slice A1 0 c1).ownBlock=some b→wr.heap.size≤b) (bN:(Value.slice A1 0 c1).ownBlock≠some g') :
  VS T W0 w6 g' (m+1+1) cap (rest++[⟨x2,z.k,z.n,z.t,z.r⟩]) ⟨y,kk,kn,kt,⟨A1,0,c1,[]⟩⟩ q (g - 1):=by
 have hw:=h.hg;rw[zbo,gQ] at hw;simp only[zah,items] at hw;have hs:=h.small;obtain⟨Hn,gb,jn,Vs⟩:=h.ok z (by simp);rw[gQ] at Vs;simp only[zah,items] at Vs;have Qb:=zra rest;have hl:=h.len;have kP:∀ i,i < W0.heap.size→w6.heap[i]? = wr.heap[i]?:=fun i hi=>hb.block i hi;refine⟨by simp;omega,by rw[zbh,zbh,zcf,zcf];exact Hf,?_,fun p hp=>?_,fun p hp=>?_,?_,by rw[zbo,zbo];simp only;omega,h.below.trans hb,by omega⟩
 ·have:=(h.rows.begin hk hb.size hG (r:=⟨A1,0,c1,[]⟩) rfl Hr KY bN)
  simpa using this
 ·simp only[yaA,List.mem_append,List.mem_cons,List.not_mem_nil,or_false] at hp;rcases hp with hp | rfl | rfl
  ·obtain⟨a1,a2⟩:=h.ok p (by simp[hp]);exact⟨a1.keep kP,a2⟩
  ·exact⟨GQ,gb,jn,by simp only;omega⟩
  ·exact⟨hy,kq,JB,by simp only;omega⟩
 ·rcases List.mem_append.1 hp with hp | hp
  ·exact h.cnt p hp
  ·rw[List.mem_singleton.1 hp];simp only;omega
 ·rw[h.hq,gQ,zkn];simp
theorem zej (k n:Nat)(t:ByteArray)(ks:List V)(A:Oz)(l c:Nat)(k' n':Nat)(t':ByteArray)(ks':List V)(A':Oz)(l' c':Nat)(w:World)(hN:zai ks≤1073741824)(hK:Kd w ks A l c)(gV:Kd w ks' A' l' c') :
  Calls prog 33 #[.agg #[.int .u8 k,.int .u64 n,.string t,.slice A l c],.agg #[.int .u8 k',.int .u64 n',.string t',.slice A' l' c']] w (zaj (same (.mk k n t ks) (.mk k' n' t' ks')) w):=by
 have h:=zlx k n t ks A l c k' n' t' ks' A' l' c' w hN hK gV;rw[hK.len,gV.len] at h ⊢;rw[zgI];exact h
theorem news5 (w:World)(x y z u v:Value)(e:TypeId)(H:Nat)(hH:w.heap.size=H):∀ j a,[x,y,z,u,v][j]? = some a→(w.alloc (.cells #[x,y,z,u,v] e)).cell? ((⟨H,0,none⟩:Addr).add j)=some a:=by
 subst hH;intro j a hv;have hj:j < 5:=(List.getElem?_eq_some_iff.1 hv).1;obtain rfl | rfl | rfl | rfl | rfl:j=0∨j=1∨j=2∨j=3∨j=4:=by omega
 all_goals rw[←hv];simp[Addr.add]
theorem VS.start {T:Nat}{W0 w1:World}{A A1:Oz}{l c k n c1:Nat}{t:ByteArray}{ks:List V}(hb:Below W0.heap.size W0 w1)(Hf:w1.ownsRow W0.heap.size 43 4 (.slice A1 0 c1) 0 [])(hK:Kids false W0 (fun i=>i < W0.heap.size) ks A l c)(hk:k < 256)(hn:n < 18446744073709551616)
  (hT:zah ks≤T) (qj:zah ks≤1073741824):VS T W0 (w1.alloc (.cells #[.slice A l c,.int .u8 k,.int .u64 n,.string t,.slice A1 0 c1] 173)) w1.heap.size 1 1 [] ⟨⟨A,l,c,ks⟩,k,n,t,⟨A1,0,c1,[]⟩⟩ (.mk k n t ks) (2 * zah ks+1):=by
 have hs:=hb.size;have Hi:=Hf.lt;refine⟨rfl,?_,⟨fun r hr=>?_,List.pairwise_singleton _ _⟩,fun p hp=>?_,fun p hp=>(by cases hp),(by simp[goV]),(by simp[vweight]),hb.alloc hs _,by omega⟩
 ·have:=World.ownsRow_lit (e:=173) (size:=5) (base:=W0.heap.size) w1 #[.slice A l c,.int .u8 k,.int .u64 n,.string t,.slice A1 0 c1] 1 hs (by unfold maxLen;omega) rfl
  simpa [vflat,SE.val] using this
 ·simp at hr;subst hr;exact⟨[],Hf.alloc _,rfl,fun e=>by have:=(Hi _ e).2;omega⟩
 ·simp at hp;subst hp;exact⟨hK.keep fun i hi=>(hb.alloc hs _).block i hi,hk,hn,by simpa using hT⟩
theorem zgK {w w':World}{r:Option Nat}(h:w.drew.grownBy w' r):w.grownBy w' r:=⟨h.os,h.tape,h.output,h.size,h.block⟩
theorem zpc {w:World}{base base':Nat}{e:TypeId}{size n:Nat}{v:Value}{xs:List Value}(h:w.ownsRow base e size v n xs)(hb:base'≤base):w.ownsRow base' e size v n xs:=by
 refine⟨h.1,?_⟩;rcases h.2 with hn | ⟨g,cap,cur,hv,hg,gP⟩
 ·exact .inl hn
 ·exact .inr ⟨g,cap,cur,hv,Nat.le_trans hb hg,gP⟩
theorem zly {B:Nat}{wr wy w1 w9:World}{G m c1 g9 c9:Nat}{o o':Obj}{A1:Oz}(hB:B≤wr.heap.size)(hG:G < wr.heap.size)(hGB:B≤G)(kZ:wr.heap.size=wy.heap.size)(KO:Below B wr wy)(UM:∀ i,i≠G→wy.heap[i]? = wr.heap[i]?)
  (Ha:Below (wy.alloc o).drew.heap.size (wy.alloc o).drew w1) (kQ:w1.ownsRow (wy.alloc o).drew.heap.size 43 4 (.slice A1 0 c9) 0 [])
  (hg:(w1.alloc o').grownBy w9 (Value.slice (some ⟨G,0,none⟩) m c1).ownBlock) (gT:(Value.slice (some ⟨G,0,none⟩) m c1).ownBlock=some g9∨w1.heap.size≤g9) :
  Below B wr w9∧(∀ i,B≤i→i < wr.heap.size→i≠G→w9.heap[i]? = wr.heap[i]?)∧(g9=G∨wr.heap.size≤g9)∧w9.ownsRow B 43 4 (.slice A1 0 c9) 0 []∧(∀ b,(Value.slice A1 0 c9).ownBlock=some b→wr.heap.size≤b)∧(Value.slice A1 0 c9).ownBlock≠some g9:=by
 have hX:(wy.alloc o).drew.heap.size=wy.heap.size+1:=by simp
 rw[hX] at Ha kQ;have gu:=Ha.size;rw[hX] at gu;have Hi:=kQ.lt;have hold:∀ i,i < wr.heap.size→i≠G→w9.heap[i]? = wr.heap[i]?:=fun i hi Hp=>by
  rw[hg.block i (by simp;omega) (fun e=>Hp (by simpa [Value.ownBlock] using e)),yaz _ _ _ (by omega),Ha.block i (by omega)];exact(yaz wy o i (by omega)).trans (UM i Hp)
 have h9:=hg.size;simp at h9;have ka:(Value.slice (some ⟨G,0,none⟩) m c1).ownBlock=some G:=rfl;refine⟨⟨?_,?_,?_,by omega,fun i hi=>hold i (by omega) (by omega)⟩,fun i _ hi Hp=>hold i hi Hp,?_,zpc ((kQ.alloc _).kept hg ?_) (by omega),fun b hb=>?_,fun e=>?_⟩
 ·exact hg.os.trans (Ha.os.trans KO.os)
 ·exact hg.tape.trans (Ha.tape.trans KO.tape)
 ·exact hg.output.trans (Ha.output.trans KO.output)
 ·rcases gT with h | h
  ·left;rw[ka] at h;injection h with h;exact h.symm
  ·right;omega
 ·cases hq:(Value.slice A1 0 c9).ownBlock with
  | none=>exact .inl rfl
  | some b=>
   refine .inr ?_;rw[ka];intro e;have:=(Hi b hq).1;injection e with e
   omega
 ·have:=(Hi b hb).1;omega
 ·have h1:=Hi g9 e;rcases gT with h | h
  ·rw[ka] at h;injection h with h;omega
  ·omega
def Q0 (k n:Nat)(t:ByteArray)(ks:List V):V:=.mk k n t ks
theorem zmw (k n:Nat)(t:ByteArray)(ks:List V)(A:Oz)(l c:Nat)(w:World)(hN:zai ks≤1073741824)(hk:k < 256)(hn:n < 18446744073709551616)(hK:Kd w ks A l c) :
  Calls prog 129 #[.agg #[.int .u8 k,.int .u64 n,.string t,.slice A l c],.func (.func 128) #[] #[],.func (.func 130) #[] #[]] w (zgJ k n t ks w):=by
 have Qb:=zbU ks;have Jb:=za0 ks;have jv:l≤ks.length:=Nat.le_of_eq hK.len;obtain⟨W0,Gj⟩:∃ W0,W0=(w.alloc (.cells #[.int .u8 k,.int .u64 n,.string t,.slice A l c] 43)).alloc (.cells #[.int .u8 0,.int .u64 0,.string ⟨#[]⟩,.slice none 0 0] 43):=⟨_,rfl⟩;have Hg:Box W0 w.heap.size (.int .u8 k) (.int .u64 n) (.string t) (.slice A l c):=by rw[Gj];exact(Box.new w _ _ _ _).alloc _
 have Ha:Box W0 (w.heap.size+1) (.int .u8 0) (.int .u64 0) (.string ⟨#[]⟩) (.slice none 0 0):=by rw[Gj];exact Box.new2 w _ _ _ _ _
 have GK:Below w.heap.size w W0:=by rw[Gj];exact zaw w _ _
 have bQ:W0.heap.size=w.heap.size+2:=by rw[Gj];simp
 have hS0a:w.heap.size+2≤W0.heap.size:=Nat.le_of_eq bQ.symm;have Xb:=zaa bQ;clear bQ;obtain⟨x0,x1,x2,x3,_⟩:=Hg.all;have hKW:Kids false W0 (fun i=>i < W0.heap.size) ks A l c:=(hK.call GK);go_enter func129,ntmps129;go_upto_region 1 with fail
 rw[←Gj];have Kl:=zaa Gj;clear Gj;go_cut [7] (fun s7 wx=>∃ G A1 c1,s7=.slice (some ⟨G,0,none⟩) 1 1∧VS (zah ks) W0 wx G 1 1 [] ⟨⟨A,l,c,ks⟩,k,n,t,⟨A1,0,c1,[]⟩⟩ (Q0 k n t ks) (2 * zah ks+1))
 case first=>
  go_region_with ((go_at_call 128;refine(zid k n t A l c _ (by omega)).mono ?_;rintro e w1 ⟨A1,c1,rfl,kQ,KF⟩;have y3:=zaQ (wr:=W0.drew) x3 KF (by simp;omega)))
  all_goals
   have hv:VS (zah ks) W0 (w1.alloc (.cells #[.slice A l c,.int .u8 k,.int .u64 n,.string t,.slice A1 0 c1] 173)) w1.heap.size 1 1 [] ⟨⟨A,l,c,ks⟩,k,n,t,⟨A1,0,c1,[]⟩⟩ (Q0 k n t ks) (2 * zah ks+1):=
    VS.start ((Below.refl _ _).drew.trans KF) kQ hKW hk hn zab (by omega)
   go_wp2_with fail;go_meet;exact⟨_,A1,c1,rfl,by first | exact hv | exact hv.drew⟩
 case rest=>
  obtain⟨G0,A0,c0,rfl,hI0⟩:=hcut;clear x0 x1 x2 x3 Hg;go_wp2;go_loopg [7] (2 * zah ks+1) (fun g s wr=>∃ G1 n1 c1 rest z,s=.slice (some ⟨G1,0,none⟩) n1 c1∧VS (zah ks) W0 wr G1 n1 c1 rest z (Q0 k n t ks) g)
  case atStart=>exact⟨_,_,_,_,_,rfl,hI0⟩
  case round=>
   obtain⟨G,n1,c1,rest,z,rfl,hS⟩:=hrel;clear hI0;obtain⟨m,rfl⟩:∃ m,n1=m+1:=⟨n1 - 1,by have:=hS.len;omega⟩;have hlen:rest.length=m:=by have:=hS.len;omega
   obtain⟨yO,xZ⟩:=hS.own.lt G (by simp[Value.ownBlock]);have hsm:=hS.small;have JT:1≤gk:=by omega
   have own:=hS.own;have GV:(vflat rest).length=m * 5:=by rw[zde,hlen]
   rw[zbh,zcf] at own;have ct0:wr.cell? ⟨G,m * 5,none⟩=some z.x.val:=by rw[own.cellAt (m * 5) (by omega),yaC (by omega),GV];simp
   have ct1:wr.cell? ⟨G,m * 5+1,none⟩=some (.int .u8 (z.k:Int)):=by rw[own.cellAt (m * 5+1) (by omega),yaC (by omega),GV,show m * 5+1 - m * 5=1 by omega];rfl
   have ct2:wr.cell? ⟨G,m * 5+1+1,none⟩=some (.int .u64 (z.n:Int)):=by rw[own.cellAt (m * 5+1+1) (by omega),yaC (by omega),GV,show m * 5+1+1 - m * 5=2 by omega];rfl
   have ct3:wr.cell? ⟨G,m * 5+1+2,none⟩=some (.string z.t):=by rw[own.cellAt (m * 5+1+2) (by omega),yaC (by omega),GV,show m * 5+1+2 - m * 5=3 by omega];rfl
   have ct4:wr.cell? ⟨G,m * 5+1+3,none⟩=some (.slice z.r.A z.r.m z.r.c):=by rw[own.cellAt (m * 5+1+3) (by omega),yaC (by omega),GV,show m * 5+1+3 - m * 5=4 by omega];rfl
   have fz:∀ j,wr.frozen? ⟨G,j,none⟩=false:=own.frozenAt;have KX:=zbi own;obtain⟨hx,hzk,hzn,hzm⟩:=hS.ok z (by simp);obtain⟨⟨xA,xl,xc,xk⟩,zk,zn,zt,⟨zA,zm,zc,zd⟩⟩:=z;simp only[SE.val] at ct0 ct1 ct2 ct3 ct4 hx hzk hzn hzm own;have HL:=zaa hlen;have HF:=zaa GV;clear hlen GV;rcases Nat.eq_zero_or_pos xl with rfl | yP
   ·rcases Nat.eq_zero_or_pos m with rfl | hm
    ·have hr:rest=[]:=yay HL.out;subst hr;have UN:xk=[]:=yay hx.len.symm;subst UN;have hq:=hS.hq;simp only[goV,List.foldr_nil,List.append_nil,Q0,V.mk.injEq] at hq;obtain⟨xs,qJ,YF,bR⟩:=hS.rows.row ⟨zA,zm,zc,zd⟩ (by simp);have qI:CS W0.heap.size wr zA zm zc zd xs:=⟨qJ,YF.mono fun i hi=>⟨hi.1,hi.2.1,hi.2.2.2 ⟨zA,zm,zc,zd⟩ (by simp)⟩⟩;have HN:=zaa qI.nw;have hb:=hS.below;have hbB:=GK.trans (hb.mono (by omega));obtain⟨y0,y1,y2,y3,yf⟩:=(Ha.below hb (by omega)).all;have HQ:=zaa hq;have HB:=zaa hbB;clear hq hS own qJ YF qI hb hbB;simp only[Nat.zero_mul,yaD] at ct0 ct1 ct2 ct3 ct4;go_wp2;refine bodyPost_ret (v:=.agg #[.int .u8 zk,.int .u64 zn,.string zt,.slice zA zm zc]) (by simp[results,results129,go_sem,y0,y1,y2,y3]) rfl ?_;obtain⟨rfl,rfl,rfl,rfl⟩:=HQ.out;exact⟨zA,zm,zc,rfl,(HN.out.far4 (g:=w.heap.size+1) (by omega) _ _ _ _).less (by omega),zae HB.out (by omega) _ _ _ _⟩
    ·obtain⟨m',rfl⟩:∃ m',m=m'+1:=⟨m - 1,by omega⟩;obtain⟨rest0,a,rfl⟩:∃ rest0 a,rest=rest0++[a]:=by
      have Hp:rest≠[]:=fun e=>by have:=HL.out;rw[e] at this;simp at this
      exact⟨rest.dropLast,rest.getLast Hp,by have:=List.dropLast_concat_getLast Hp;exact this.symm⟩
     have jH:rest0.length=m':=by have:=HL.out;simp at this;omega
     have uO:(vflat rest0).length=m' * 5:=by rw[zde,jH]
     have hac:=hS.cnt a (by simp);obtain⟨xs,qJ,YF,bR⟩:=hS.rows.row a.r (by simp);obtain⟨ax,ak,an,at_,⟨aA,am,ac,ad⟩⟩:=a;have gT:∀ j,wr.cell? ⟨G,m' * 5+j,none⟩=(vflat rest0++[ax.val,.int .u8 (ak:Int),.int .u64 (an:Int),.string at_,.slice aA am ac]++[.slice xA 0 xc,.int .u8 (zk:Int),.int .u64 (zn:Int),.string zt,.slice zA zm zc])[m' * 5+j]? ∨ 10≤j:=fun j=>by
      rcases Nat.lt_or_ge j 10 with hj | hj
      ·left;rw[own.cellAt (m' * 5+j) (by omega),zbh,zcf]
      ·exact .inr hj
     have Q2:∀ j,j < 5→wr.cell? ⟨G,m' * 5+j,none⟩=[ax.val,.int .u8 (ak:Int),.int .u64 (an:Int),.string at_,.slice aA am ac][j]?:=fun j hj=>by
      rcases gT j with h | h
      ·rw[h,yaA,yaC (by omega),uO,show m' * 5+j - m' * 5=j by omega,List.getElem?_append_left (by simpa using hj)]
      ·omega
     have ca1:wr.cell? ⟨G,m' * 5+1,none⟩=some (.int .u8 (ak:Int)):=Q2 1 (by omega);have ca2:wr.cell? ⟨G,m' * 5+1+1,none⟩=some (.int .u64 (an:Int)):=Q2 2 (by omega);have ca3:wr.cell? ⟨G,m' * 5+1+2,none⟩=some (.string at_):=Q2 3 (by omega);have ca4:wr.cell? ⟨G,m' * 5+1+3,none⟩=some (.slice aA am ac):=Q2 4 (by omega);obtain⟨KU,JV⟩:=zjI underlying174 (show prog.elem 174=173 by kernel_rfl) (show (prog.info? 173).map (·.size)=some 5 by kernel_rfl) (some ⟨G,0,none⟩) (m'+1+1) c1 (m'+1) (by omega) KX;have uH:=fun W=>KU W ((m':Int)+1) (by simp);have uI:=fun W=>JV W ((m':Int)+1) (by simp);have vZ:=hS.below.size;have ham:am≤1073741824:=by simp only at hac;omega
     have HRG:=zaa bR;have HS:=zaa hS;have HRC:=zaa YF;have bS:=zaa jH;have HRO:=zaa qJ;clear KU JV jH uO hS own gT Q2 YF bR qJ;go_wp2_with fail;go_region_with ((go_at_call 130;refine(zmu ak an at_ aA am ac W0.heap.size xs zk zn zt zA zm zc wr.drew ham (by exact vZ) (by exact HRO.out)).mono ?_;rintro e w5 ⟨g9,cap9,rfl,Hb,UL,Hv⟩;have hcG:∀ j,w5.cell? ⟨G,j,none⟩=wr.cell? ⟨G,j,none⟩:=(fun j=>UL.cell_far ⟨G,j,none⟩ xZ (fun e=>HRG.out e.symm));have hfG:∀ j,w5.frozen? ⟨G,j,none⟩=false:=(fun j=>(UL.frozen_far ⟨G,j,none⟩ xZ (fun e=>HRG.out e.symm)).trans (fz j))))
     all_goals
      go_wp2;go_roundg (gk - 1)
      case measure=>omega
      case rel=>exact⟨_,_,_,_,_,rfl,HS.out.pop bS.out rfl HRC.out Hb (zgK UL) Hv⟩
   ·obtain⟨b,o,k1,n1,t1,ks1,B1,l1,d1,rfl,Cc,GJ,h0,h1,h2,h3,gF,Gm,kK⟩:=Kids.at_ hx yP;simp only[Nat.zero_mul,yaE] at h0 h1 h2 h3;have Hu:=hS.below.size;have jG:b < wr.heap.size:=yau Cc Hu;have hxI:(0:Int) < (xl:Int):=by omega
    have kR:=zaa GJ;have gQ:zah ks1+1≤zah xk:=by
     have:=zbB GJ;rw[List.drop_zero] at this;rw[this];simp only[zah,items];omega
    have Cd:l1≤1073741824:=by have:=kK.len;have:=length_le ks1;omega
    obtain⟨C1,e1,UK,QY,QZ,XO⟩:=zhh (some ⟨b,o,none⟩) xl xc 1 (by omega) hx.cap;have sx1:=fun W=>QY W 1 rfl;have sx2:=fun W=>QZ W 1 rfl;clear QY QZ GJ hN ct1 ct2 ct3 ct4;obtain⟨xt,V'⟩:∃ xt,xk.drop 1=xt:=⟨_,rfl⟩;have qH:=zaa V';clear V';obtain⟨wy,Xc⟩:∃ wy,wy=wr.setCell ⟨G,m * 5,none⟩ (.slice C1 (xl - 1) e1):=⟨_,rfl⟩;have KO:Below W0.heap.size wr wy:=by rw[Xc];exact(Below.refl _ _).setCell (p:=⟨G,m * 5,none⟩) yO _
    have UM:∀ i,i≠G→wy.heap[i]? = wr.heap[i]?:=fun i hi=>by rw[Xc];exact yaw _ _ _ _ hi
    have Kv:wy.ownsRow W0.heap.size 173 5 (.slice (some ⟨G,0,none⟩) (m+1) c1) (m+1) (vflat rest++[.slice C1 (xl - 1) e1,.int .u8 (zk:Int),.int .u64 (zn:Int),.string zt,.slice zA zm zc]):=by
     have:=(hS.own.stored (m * 5) (.slice C1 (xl - 1) e1)).1;rw[vset0 rest _ m HL.out] at this;rw[Xc];exact this
    have kZ:wr.heap.size=wy.heap.size:=by rw[Xc];simp
    have Ce:W0.heap.size≤wy.heap.size:=by omega
    have hGy:G < wy.heap.size:=by omega
    have hm4:m+1≤4294967296:=by omega
    obtain⟨i0,hi,gE,Hn,gb⟩:=info_parts zmv;have HKY:=zaa UM;have ke:=Box.new wy (.int .u8 k1) (.int .u64 n1) (.string t1) (.slice B1 l1 d1);obtain⟨q0,q1,q2,q3,_⟩:=ke.all;have Cf:=KO.alloc Ce (.cells #[.int .u8 k1,.int .u64 n1,.string t1,.slice B1 l1 d1] 43);have xK:=Kv.alloc (.cells #[.int .u8 k1,.int .u64 n1,.string t1,.slice B1 l1 d1] 43);have xb:=zaa kZ;clear UM own ke kZ;go_upto_region 7 with fail
    rw[←Xc,xb.out];have HWY:=zaa Xc;clear Xc;go_cut [7] (fun s7 wx=>∃ g9 cap9 A9 c9,s7=.slice (some ⟨g9,0,none⟩) (m+1+1) cap9∧wx.ownsRow W0.heap.size 173 5 (.slice (some ⟨g9,0,none⟩) (m+1+1) cap9) (m+1+1) (vflat rest++[.slice C1 (xl - 1) e1,.int .u8 (zk:Int),.int .u64 (zn:Int),.string zt,.slice zA zm zc]++[.slice B1 l1 d1,.int .u8 (k1:Int),.int .u64 (n1:Int),.string t1,.slice A9 0 c9])∧Below W0.heap.size wr wx∧(∀ i,W0.heap.size≤i→i < wr.heap.size→i≠G→wx.heap[i]? = wr.heap[i]?)∧(g9=G∨wr.heap.size≤g9)∧wx.ownsRow W0.heap.size 43 4 (.slice A9 0 c9) 0 []∧(∀ b,(Value.slice A9 0 c9).ownBlock=some b→wr.heap.size≤b)∧(Value.slice A9 0 c9).ownBlock≠some g9)
    case first=>
     go_region_law (first
      | (refine step_append_lies _ rfl _ _ 174 rfl W0.heap.size 173 i0 _ 5 80 underlying174 hi gE Hn gb rfl (by omega) _ _ _ rfl (by exact(UB.alloc _)) ⟨w1.heap.size,0,none⟩ 1 1 [.slice B1 l1 d1,.int .u8 k1,.int .u64 n1,.string t1,.slice A1 0 c9] rfl rfl (by exact news5 _ _ _ _ _ _ _ _ (by simp)) (fun u hu=>(by simp at hu;rcases hu with rfl | rfl | rfl | rfl | rfl<;>rfl)) (by omega) (by unfold maxLen;omega) (by omega) (by simp;omega) _ rfl ?_;intro g9 cap9 w9 Hb Hd Hv _)
      | (go_simp;go_at_call 128;refine(zid k1 n1 t1 B1 l1 d1 (wy.alloc (.cells #[.int .u8 k1,.int .u64 n1,.string t1,.slice B1 l1 d1] 43)).drew Cd).mono ?_;rintro e w1 ⟨A1,c9,rfl,kQ,KF⟩;have y3:=zaQ (wr:=(wy.alloc (.cells #[.int .u8 k1,.int .u64 n1,.string t1,.slice B1 l1 d1] 43)).drew) q3 KF (by simp);have UB:=((show (wy.alloc (.cells #[.int .u8 k1,.int .u64 n1,.string t1,.slice B1 l1 d1] 43)).drew.ownsRow W0.heap.size 173 5 (.slice (some ⟨G,0,none⟩) (m+1) c1) (m+1) (vflat rest++[.slice C1 (xl - 1) e1,.int .u8 (zk:Int),.int .u64 (zn:Int),.string zt,.slice zA zm zc]) from xK)).kept (zbR KF) (.inr (by simp[Value.ownBlock]));have Cg:=KF.size;simp at Cg))
     all_goals
      have Ch:(Value.slice (some ⟨G,0,none⟩) (m+1) c1).ownBlock=some g9∨w1.heap.size≤g9:=by
       rcases Hv with h | h
       ·exact .inl h
       ·right;simp at h;omega
      have hl:=zly Hu xZ yO xb.out KO HKY.out KF kQ (by first | exact Hd | exact zgK Hd) Ch;go_wp2_with fail;go_meet;exact⟨g9,cap9,A1,c9,rfl,Hb,hl⟩
    case rest=>
     obtain⟨g9,cap9,A9,c9,rfl,Hb,kr,Kn,hG9,xL,xM,uP⟩:=hcut;have Ki:=hS.push (x2:=⟨C1,xl - 1,e1,xt⟩) (y:=⟨B1,l1,d1,ks1⟩) gF Gm ((qH.out▸XO _ _ _ _ hx:Kids false wr (fun i=>i < W0.heap.size) xt C1 (xl - 1) e1).keep fun i hi=>kr.block i hi) (kK.keep fun i hi=>kr.block i hi) (by have:=zbB kR.out;rw[List.drop_zero,qH.out] at this;exact this) Hb kr Kn hG9 xL xM uP;clear hS Kv xK Hb kr KO Cf Kn xL xM uP hG9;go_wp2;go_roundg (gk - 1)
     case measure=>omega
     case rel=>exact⟨_,_,_,_,_,rfl,Ki⟩
theorem zdf (k n:Nat)(t:ByteArray)(ks:List V)(A:Oz)(l c:Nat)(w:World)(hN:zai ks≤1073741824)(hk:k < 256)(hn:n < 18446744073709551616)(hK:Kd w ks A l c) :
  Calls prog 100 #[.agg #[.int .u8 k,.int .u64 n,.string t,.slice A l c]] w (zgJ k n t ks w):=by
 have Ha:=Box.new2 w (.cells #[.int .u8 k,.int .u64 n,.string t,.slice A l c] 43) (.int .u8 0) (.int .u64 0) (.string ⟨#[]⟩) (.slice none 0 0);have hB:=zaw w (.cells #[.int .u8 k,.int .u64 n,.string t,.slice A l c] 43) (.cells #[.int .u8 0,.int .u64 0,.string ⟨#[]⟩,.slice none 0 0] 43);have HN:=zaa hn;clear hn;go_enter func100,ntmps100;go_wp2_with fail;refine(zmw k n t ks A l c _ hN hk HN.out ((hK.alloc _).alloc _)).mono ?_;rintro e w1 ⟨A1,l1,c1,rfl,QB,hb⟩;obtain⟨d0,d1,d2,d3,df⟩:=(Ha.call hb).all;have G5:=zad hB hb;simp only[World.size_alloc] at QB;have HW:=zaa QB;clear QB;go_wp2;refine bodyPost_ret (v:=.agg #[.int .u8 k,.int .u64 n,.string t,.slice A1 l1 c1]) (by simp[results,results100,go_sem,d0,d1,d2,d3]) rfl ?_;exact⟨A1,l1,c1,rfl,(HW.out.far4 (g:=w.heap.size+1) (by omega) _ _ _ _).less (by omega),zae G5 (by omega) _ _ _ _⟩
theorem zmx (k:Nat)(ks:List V)(A:Oz)(l c:Nat)(w:World)(hN:zai ks≤1073741824)(hk:k < 256)(hK:Kd w ks A l c) :
  Calls prog 82 #[.int .u8 k,.slice A l c] w (zgJ k 0 ⟨#[]⟩ ks w):=by
 have Ha:=Box.new w (.int .u8 0) (.int .u64 0) (.string ⟨#[]⟩) (.slice none 0 0);have hB:Below w.heap.size w (w.alloc (.cells #[.int .u8 0,.int .u64 0,.string ⟨#[]⟩,.slice none 0 0] 43)):=(za _ _);go_enter func82,ntmps82;go_wp2_with fail;refine(zdf k 0 ⟨#[]⟩ ks A l c _ hN hk (by omega) (hK.alloc _)).mono ?_;rintro e w1 ⟨A1,l1,c1,rfl,QB,hb⟩;obtain⟨d0,d1,d2,d3,df⟩:=(Ha.call hb).all;have G5:=zad hB hb;simp only[World.size_alloc] at QB;have HW:=zaa QB;clear QB;go_wp2;refine bodyPost_ret (v:=.agg #[.int .u8 k,.int .u64 0,.string ⟨#[]⟩,.slice A1 l1 c1]) (by simp[results,results82,go_sem,d0,d1,d2,d3]) rfl ?_;exact⟨A1,l1,c1,rfl,(HW.out.far4 (g:=w.heap.size) (by omega) _ _ _ _).less (by omega),zae G5 (by omega) _ _ _ _⟩
theorem zpd {w:World}{k n k' n':Nat}{t t':ByteArray}{ks ks':List V}{A A':Oz}{l c l' c':Nat}(hk:k < 256)(hn:n < 18446744073709551616)(Gn:k' < 256)(k8:n' < 18446744073709551616)(hK:Kd w ks A l c)(gV:Kd w ks' A' l' c') :
  Kd (w.alloc (.cells #[.int .u8 k,.int .u64 n,.string t,.slice A l c,.int .u8 k',.int .u64 n',.string t',.slice A' l' c'] 43)) [.mk k n t ks,.mk k' n' t' ks'] (some ⟨w.heap.size,0,none⟩) 2 2:=by
 refine⟨rfl,zab,fun _=>⟨w.heap.size,0,rfl,by simp,fun h=>(by cases h),?_⟩⟩;refine⟨zbd.2 ⟨A,l,c,by simp,by simp,by simp,by simp,hk,hn,hK.alloc _⟩,zbd.2 ⟨A',l',c',by simp,by simp,by simp,by simp,Gn,k8,gV.alloc _⟩,trivial⟩
theorem zie (k n:Nat)(t:ByteArray)(ks:List V)(A:Oz)(l c:Nat)(k' n':Nat)(t':ByteArray)(ks':List V)(A':Oz)(l' c':Nat)(w:World)(hN:zai [.mk k n t ks,.mk k' n' t' ks']≤1073741824)(hk:k < 256)(hn:n < 18446744073709551616)(Gn:k' < 256)(k8:n' < 18446744073709551616)(hK:Kd w ks A l c)(gV:Kd w ks' A' l' c') :
  Calls prog 51 #[.agg #[.int .u8 k,.int .u64 n,.string t,.slice A l c],.agg #[.int .u8 k',.int .u64 n',.string t',.slice A' l' c']] w (zgJ 25 0 ⟨#[]⟩ [.mk k n t ks,.mk k' n' t' ks'] w):=by
 have Ha:=(Box.new2 (w.alloc (.cells #[.int .u8 k,.int .u64 n,.string t,.slice A l c] 43)) (.cells #[.int .u8 k',.int .u64 n',.string t',.slice A' l' c'] 43) (.int .u8 0) (.int .u64 0) (.string ⟨#[]⟩) (.slice none 0 0)).alloc (.cells #[.int .u8 k,.int .u64 n,.string t,.slice A l c,.int .u8 k',.int .u64 n',.string t',.slice A' l' c'] 43);have hB:=((zaw w (.cells #[.int .u8 k,.int .u64 n,.string t,.slice A l c] 43) (.cells #[.int .u8 k',.int .u64 n',.string t',.slice A' l' c'] 43)).alloc (by simp;omega) (.cells #[.int .u8 0,.int .u64 0,.string ⟨#[]⟩,.slice none 0 0] 43)).alloc (by simp;omega) (.cells #[.int .u8 k,.int .u64 n,.string t,.slice A l c,.int .u8 k',.int .u64 n',.string t',.slice A' l' c'] 43);simp only[World.size_alloc] at Ha;have kE:=zpd (t:=t) (t':=t') hk hn Gn k8 (((hK.alloc (.cells #[.int .u8 k,.int .u64 n,.string t,.slice A l c] 43)).alloc (.cells #[.int .u8 k',.int .u64 n',.string t',.slice A' l' c'] 43)).alloc (.cells #[.int .u8 0,.int .u64 0,.string ⟨#[]⟩,.slice none 0 0] 43)) (((gV.alloc (.cells #[.int .u8 k,.int .u64 n,.string t,.slice A l c] 43)).alloc (.cells #[.int .u8 k',.int .u64 n',.string t',.slice A' l' c'] 43)).alloc (.cells #[.int .u8 0,.int .u64 0,.string ⟨#[]⟩,.slice none 0 0] 43));simp only[World.size_alloc] at kE;have HK:=zaa kE;clear kE hn k8;go_enter func51,ntmps51;go_wp2_with fail;refine(zmx 25 _ _ 2 2 _ hN (by omega) HK.out).mono ?_;rintro e w1 ⟨A1,l1,c1,rfl,QB,hb⟩;obtain⟨d0,d1,d2,d3,df⟩:=(Ha.call hb).all;have G5:=zad hB hb;simp only[World.size_alloc] at QB;have HW:=zaa QB;clear QB;go_wp2;refine bodyPost_ret (v:=.agg #[.int .u8 25,.int .u64 0,.string ⟨#[]⟩,.slice A1 l1 c1]) (by simp[results,results51,go_sem,d0,d1,d2,d3]) rfl ?_;exact⟨A1,l1,c1,rfl,(HW.out.far4 (g:=w.heap.size+1+1) (by omega) _ _ _ _).less (by omega),zae G5 (by omega) _ _ _ _⟩
end Val
end Go.Proofs.YtbbbanfggcediaaGreatDoor
